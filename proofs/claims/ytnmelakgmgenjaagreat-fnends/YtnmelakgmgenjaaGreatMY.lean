/- Gathered texts. -/
import Derived.Test.YtnmelakgmgenjaaGreatMX
import Derived.Defers
import Derived.Recover
import Derived.Lib.Hide
import Derived.Laws.Rows
import Derived.Deep.Cut
import Derived.Deep.RegionHeld3
import Derived.Deep.QuietTactic
import Derived.BigQuiet
set_option maxRecDepth 100000
set_option maxHeartbeats 8000000
namespace Go.Proofs.YtnmelakgmgenjaaGreat
open Go.ChangeMaps (setBlock heap_setBlock_same heap_setBlock_other)
open Go.ChangeShapes Go.WideShapes Go.ChangeAt Go.RowKit
open Go.ChangeShapes Go.WideShapes Go.ChangeAt Go.RowKit Go.Shelf Go.Sort
open Go.MapKept (stamped_iff stamped_empty)
open Go.WideElems (Fit)
section
theorem DM.other {w w':World}{m x:Nat}{v:Value}{hs:List Value}{E:List (List Int)}(h:DM 28 Bn w m v hs E)(hg:w.grownBy w' (some x))(hx:∀c t f,w.heap[x]?≠some (.cells c t f)):DM 28 Bn w' m v hs E:=by
 refine⟨h.Ai.far hg (fun i hi=>?_),h.len⟩;by_cases e:(LJ 28 Bn v hs E i).v.ownBlock=some x
 ·
  exfalso;rcases (h.Ai.own i hi).2 with ⟨q,_⟩|⟨g,cap,cur,q,_,hc,_⟩
  . rw[q] at e;cases e
  ·
   rw[q] at e;have:=Option.some.inj e;simp only at this;subst this;exact hx _ _ _ hc
 . exact .inr e
structure Lk (w0 w:World)(ds:List (List Dd))(P:Nat->Prop)(ve:Value)(hs:List Value)(E:List (List Int))(bn bx r:Nat)(es:Array MapEntry)(l:List (BV×Bd))(Nr:Array MapEntry)(lx:List (BV×Bd))(seen:Array Nat):Prop where
 low:∀g,P g->w0.heap.size<=g/\g<w.heap.size
 en:DM 28 Bn w w0.heap.size ve hs E
 nE:∀g,ve.ownBlock=some g->¬P g
 nz:ve≠.slice none 0 0
 K:AC w0 w
 wn:Wv w bn es l
 wx:Wv w bx Nr lx
 ne:bn≠bx
 gn:w0.heap.size<=bn/\¬P bn
 gx:w0.heap.size<=bx/\¬P bx
 gr:w0.heap.size<=r/\¬P r
 held:∀p∈l,C4 w P p.1 ds p.2
 Rx:∀p∈lx,C4 w P p.1 ds p.2
 it:∃since c0 ck,w.heap[r]? = some (.mapIter (some bn) since seen c0)/\(∀x∈es.toList,x.born<since)/\since<=c0/\w.heap[bn]? = some (.map es ck)/\since<=ck
structure MX (w0 w:World)(ds:List (List Dd))(P:Nat->Prop)(ve:Value)(hs:List Value)(E:List (List Int))(bn bx:Nat)(es:Array MapEntry)(l:List (BV×Bd)):Prop where
 low:∀g,P g->w0.heap.size<=g/\g<w.heap.size
 en:DM 28 Bn w w0.heap.size ve hs E
 nE:∀g,ve.ownBlock=some g->¬P g
 nz:ve≠.slice none 0 0
 K:AC w0 w
 wn:Wv w bn es l
 wx:Wv w bx #[] []
 ne:bn≠bx
 gn:w0.heap.size<=bn/\¬P bn
 gx:w0.heap.size<=bx/\¬P bx
 held:∀p∈l,C4 w P p.1 ds p.2
section
variable {w0 w w':World} {ds:List (List Dd)} {P:Nat->Prop} {ve:Value} {hs:List Value} {E:List (List Int)} {bn bx r:Nat} {es:Array MapEntry} {l:List (BV×Bd)} {Nr:Array MapEntry} {lx:List (BV×Bd)} {seen:Array Nat}
theorem Wv.Ka {g:Nat}(h:Wv w g es l):∀c t f,w.heap[g]?≠some (.cells c t f):=fun c t f e=>by
 obtain⟨k,h1,_⟩:=h.ex;rw[h1] at e;cases e
theorem Lk.wG (h:Lk w0 w ds P ve hs E bn bx r es l Nr lx seen):r<w.heap.size:=by
 obtain⟨_,_,_,h1,_⟩:=h.it;exact (Array.getElem?_eq_some_iff.1 h1).1
theorem Lk.rn (h:Lk w0 w ds P ve hs E bn bx r es l Nr lx seen):r≠bn/\r≠bx:=by
 obtain⟨_,_,_,h1,_⟩:=h.it;obtain⟨_,h2,_⟩:=h.wn.ex;obtain⟨_,h3,_⟩:=h.wx.ex;exact⟨fun e=>by rw[e,h2] at h1;(cases h1),fun e=>by rw[e,h3] at h1;(cases h1)⟩
theorem Lk.Se (h:Lk w0 w ds P ve hs E bn bx r es l Nr lx seen):∀c t f,w.heap[r]?≠some (.cells c t f):=fun c t f e=>by
 obtain⟨_,_,_,h1,_⟩:=h.it;rw[h1] at e;cases e
theorem Lk.wide {P':Nat->Prop}(h:Lk w0 w ds P ve hs E bn bx r es l Nr lx seen)(k:AC w w')(hP:∀g,P' g->w.heap.size<=g/\g<w'.heap.size):Lk w0 w' ds (fun g=>P g\/P' g) ve hs E bn bx r es l Nr lx seen:=by
 have z:=k.size
 have no:∀ {g},g<w.heap.size->¬P g->¬(P g\/P' g):=fun hg hn hp=>by
  rcases hp with hp|hp
  . exact hn hp
  . have:=(hP _ hp).1;omega
 obtain⟨s,c0,ck,i1,i2,i3,i4,i5⟩:=h.it;refine⟨fun g hg=>?_,⟨h.en.Ai.keep k,h.en.len⟩,fun g hg=>no (h.en.Ai.lt (i:=none) trivial g hg).2 (h.nE g hg),h.nz,h.K.trans k,h.wn.keep k,h.wx.keep k,h.ne,⟨h.gn.1,no h.wn.lt h.gn.2⟩,⟨h.gx.1,no h.wx.lt h.gx.2⟩,⟨h.gr.1,no h.wG h.gr.2⟩,fun p hp=>((h.held p hp).on (Au.Bq k)).mono (fun _ => .inl),fun p hp=>((h.Rx p hp).on (Au.Bq k)).mono (fun _ => .inl),⟨s,c0,ck,(Below.block k r h.wG).trans i1,i2,i3,(Below.block k bn h.wn.lt).trans i4,i5⟩⟩;rcases hg with hg|hg
 . have:=h.low g hg;omega
 ·
  have:=hP g hg;have:=h.K.size;omega
theorem Lk.keep (h:Lk w0 w ds P ve hs E bn bx r es l Nr lx seen)(k:AC w w'):Lk w0 w' ds P ve hs E bn bx r es l Nr lx seen:=by
 have q:=h.wide (P':=fun _=>False) k (fun _ hg=>hg.elim);have e:(fun g=>P g\/False)=P:=by funext g;simp
 rwa [e] at q
theorem Lk.push {w1 w2:World}{v' u:Value}{xs:List Int}(h:Lk w0 w ds P ve hs E bn bx r es l Nr lx seen)(k:AC w w1)(ou:BM w1 w.heap.size u xs)(hg:w1.grownBy w2 ve.ownBlock)(hb:v'.ownBlock=ve.ownBlock\/v'.ownBlock=some w1.heap.size)(ho:w2.ownsRow w0.heap.size 28 1 v' (hs.length+1) (hs++[u]))(hz:v'≠.slice none 0 0):
  Lk w0 w2 ds P v' (hs++[u]) (E++[xs]) bn bx r es l Nr lx seen:=by
 have h1:=h.keep k
 have hne:∀ {g},(∀c t f,w1.heap[g]?≠some (.cells c t f))->ve.ownBlock≠some g:=fun hc e=>by
  rcases (h1.en.Ai.own none trivial).2 with ⟨q,_⟩|⟨g',cap,cur,q,_,hh,_⟩
  ·
   rw[show (LJ 28 Bn ve hs E none).v=ve from rfl] at q;rw[q] at e;cases e
  ·
   rw[show (LJ 28 Bn ve hs E none).v=ve from rfl] at q;rw[q] at e;have:=Option.some.inj e;simp only at this;subst this;exact hc _ _ _ hh
 have st:Au P w1 w2:=Au.Cx hg (fun g hv=>h1.nE g hv);obtain⟨s,c0,ck,i1,i2,i3,i4,i5⟩:=h1.it;have z:=hg.size;refine⟨fun g hp=>⟨(h1.low g hp).1,Nat.lt_of_lt_of_le (h1.low g hp).2 z⟩,h.en.push (fun _ _=>rfl) k (BM.Az ou h.K.size) (fun b hb=>ou.ge b hb) hg hb (by show w2.ownsRow _ _ _ _ (hs++[u]).length _;rw[List.length_append];exact ho),fun g hv=>?_,hz,h1.K.grown hg (fun g hv=>(h1.en.Ai.lt (i:=none) trivial g hv).1),h1.wn.kept hg (hne h1.wn.Ka),h1.wx.kept hg (hne h1.wx.Ka),h1.ne,h1.gn,h1.gx,h1.gr,fun p hp=>(h1.held p hp).on st,fun p hp=>(h1.Rx p hp).on st,⟨s,c0,ck,(hg.block r h1.wG (fun e=>hne h1.Se e.symm)).trans i1,i2,i3,(hg.block bn h1.wn.lt (fun e=>hne h1.wn.Ka e.symm)).trans i4,i5⟩⟩;rcases hb with e|e
 . rw[e] at hv;exact h1.nE g hv
 ·
  rw[e] at hv;have:=Option.some.inj hv;intro hp;have:=(h1.low g hp).2;omega
theorem Lk.put {rC:Array MapEntry}{lx':List (BV×Bd)}(h:Lk w0 w ds P ve hs E bn bx r es l Nr lx seen)(hg:w.grownBy w' (some bx))(hW:Wv w' bx rC lx')(hl:∀p∈lx',C4 w P p.1 ds p.2):Lk w0 w' ds P ve hs E bn bx r es l rC lx' seen:=by
 have st:Au P w w':=Au.Cx hg (fun g e hp=>by have:=Option.some.inj e;subst this;exact h.gx.2 hp);obtain⟨s,c0,ck,i1,i2,i3,i4,i5⟩:=h.it;exact⟨fun g hp=>⟨(h.low g hp).1,Nat.lt_of_lt_of_le (h.low g hp).2 hg.size⟩,h.en.other hg h.wx.Ka,h.nE,h.nz,h.K.grown hg (fun g e=>by have:=Option.some.inj e;subst this;exact h.gx.1),h.wn.kept hg (fun e=>h.ne (Option.some.inj e).symm),hW,h.ne,h.gn,h.gx,h.gr,fun p hp=>(h.held p hp).on st,fun p hp=>(hl p hp).on st,⟨s,c0,ck,(hg.block r h.wG (fun e=>h.rn.2 (Option.some.inj e))).trans i1,i2,i3,(hg.block bn h.wn.lt (fun e=>h.ne (Option.some.inj e))).trans i4,i5⟩⟩
theorem MX.range (h:MX w0 w ds P ve hs E bn bx es l):∃c,w.heap[bn]? = some (.map es c)/\Lk w0 (w.alloc (.mapIter (some bn) c #[] c)) ds P ve hs E bn bx w.heap.size es l #[] [] #[]:=by
 obtain⟨c,hb,F⟩:=h.wn.ex;have k:AC w (w.alloc (.mapIter (some bn) c #[] c)):=(AC.refl w).alloc _;exact⟨c,hb,fun g hg=>⟨(h.low g hg).1,Nat.lt_of_lt_of_le (h.low g hg).2 k.size⟩,⟨h.en.Ai.keep k,h.en.len⟩,h.nE,h.nz,h.K.trans k,h.wn.keep k,h.wx.keep k,h.ne,h.gn,h.gx,⟨h.K.size,fun hp=>by have:=(h.low _ hp).2;omega⟩,fun p hp=>(h.held p hp).on (Au.Bq k),fun p hp=>(by cases hp),⟨c,c,c,heap_alloc_new w _,((stamped_iff es c).1 F.stamped).1,Nat.le_refl _,(Below.block k bn h.wn.lt).trans hb,Nat.le_refl _⟩⟩
theorem Lk.next (h:Lk w0 w ds P ve hs E bn bx r es l Nr lx seen):
  ((leftOf es seen).size=0/\∀ty,(Instr.next (.pointer (some ⟨r,0,none⟩)) false ty).run Tryz.prog w = .ok (.tuple #[.bool false]) w) \/
  ∃(x:MapEntry) (p:BV×Bd) (w1:World),x∈es.toList/\seen.contains x.born=false/\p∈l/\x.key=Hg p.2/\(leftOf es (seen.push x.born)).size<(leftOf es seen).size/\(∀ty,(Instr.next (.pointer (some ⟨r,0,none⟩)) false ty).run Tryz.prog w = .ok (.tuple #[.bool true,Hg p.2,p.1.agg]) w1) /\
   (Instr.entry (.pointer (some ⟨r,0,none⟩))).run Tryz.prog w1 = .ok (.tuple #[Hg p.2,p.1.agg]) w1/\Lk w0 w1 ds P ve hs E bn bx r es l Nr lx (seen.push x.born):=by
 obtain⟨s,c0,ck,i1,i2,i3,i4,i5⟩:=h.it;obtain⟨c,hb,F⟩:=h.wn.ex;rcases run_next_at (P:=Tryz.prog) w 0 r bn s c0 seen es c i1 hb i2 i3 with ⟨h0,hrun⟩|⟨x,hx,w1,hal,hrun⟩
 . exact .inl ⟨h0,fun ty=>hrun⟩
 ·
  obtain⟨hxe,hxs⟩:=mem_left hx;obtain⟨p,hp,e1,e2⟩:=h.wn.lU x hxe;have hr1:w1.heap[r]? = some (.mapIter (some bn) s seen c0):=by rcases hal with rfl|rfl<;>exact i1
  have hz:w1.heap=w.heap:=by rcases hal with rfl|rfl<;>rfl
  have hg:w.grownBy (setBlock w1 r (.mapIter (some bn) s (seen.push x.born) c)) (some r):=by
   rcases hal with rfl|rfl
   . exact⟨rfl,rfl,rfl,by simp[setBlock],fun i _ hi=>(MapKept.heap_set i1).2 i (fun e=>hi (by rw[e]))⟩
   . exact⟨rfl,rfl,rfl,by simp[setBlock],fun i _ hi=>(MapKept.heap_set (w:=w.drew) i1).2 i (fun e=>hi (by rw[e]))⟩
  have hself:(setBlock w1 r (.mapIter (some bn) s (seen.push x.born) c)).heap[r]? = some (.mapIter (some bn) s (seen.push x.born) c):=(MapKept.heap_set hr1).1;have st:Au P w (setBlock w1 r (.mapIter (some bn) s (seen.push x.born) c)):=Au.Cx hg (fun g e hp=>by have:=Option.some.inj e;subst this;exact h.gr.2 hp);have hwn:=h.wn.kept hg (fun e=>h.rn.1 (Option.some.inj e));obtain⟨c',hb',_⟩:=hwn.ex
  have hcc:c'=c:=by
   have q:=(hg.block bn h.wn.lt (fun e=>h.rn.1 (Option.some.inj e).symm)).trans hb;rw[hb'] at q
   simpa using q
  subst hcc;refine .inr ⟨x,p,_,hxe,hxs,hp,e1,left_shrinks es seen x hx,fun ty=>?_,?_,⟨fun g hp=>⟨(h.low g hp).1,Nat.lt_of_lt_of_le (h.low g hp).2 hg.size⟩,h.en.other hg h.Se,h.nE,h.nz,h.K.grown hg (fun g e=>by have:=Option.some.inj e;subst this;exact h.gr.1),hwn,h.wx.kept hg (fun e=>h.rn.2 (Option.some.inj e)),h.ne,h.gn,h.gx,h.gr,fun p hp=>(h.held p hp).on st,fun p hp=>(h.Rx p hp).on st,?_⟩⟩
  . rw[<-e1,<-e2];exact hrun
  ·
   rw[<-e1,<-e2];exact run_entry_at _ r bn s seen es c' x hself hb' hxe ((stamped_iff es c').1 F.stamped).2.1
  ·
   have e4:ck=c':=by rw[hb] at i4;simpa using i4.symm
   exact⟨s,c',c',hself,i2,by omega,hb',by omega⟩
theorem Lk.clear (h:Lk w0 w ds P ve hs E bn bx r es l Nr lx seen):∃w',(∀ty,(Builtin.clear_ #[85] ty #[.map (some bn)]).run Tryz.prog w = .ok (.tuple #[]) w')/\MX w0 w' ds P ve hs E bx bn Nr lx:=by
 obtain⟨c,hb,F⟩:=h.wn.ex;have hg:w.grownBy (setBlock w bn (.map #[] c)) (some bn):=⟨rfl,rfl,rfl,by simp[setBlock],fun i _ hi=>heap_setBlock_other hb _ (fun e=>hi (by rw[e]))⟩;have st:Au P w (setBlock w bn (.map #[] c)):=Au.Cx hg (fun g e hp=>by have:=Option.some.inj e;subst this;exact h.gn.2 hp);refine⟨_,fun ty=>?_,⟨fun g hp=>⟨(h.low g hp).1,Nat.lt_of_lt_of_le (h.low g hp).2 hg.size⟩,h.en.other hg h.wn.Ka,h.nE,h.nz,h.K.grown hg (fun g e=>by have:=Option.some.inj e;subst this;exact h.gn.1),h.wx.kept hg (fun e=>h.ne (Option.some.inj e)),⟨⟨c,heap_setBlock_same hb _,⟨by simp,⟨by simp,by simp,by simp⟩,by simp⟩⟩,fun x hx=>by simp at hx,fun p hp=>by cases hp⟩,fun e=>h.ne e.symm,h.gx,h.gn,fun p hp=>(h.Rx p hp).on st⟩⟩;simp[Builtin.clear_,run_underlying Tryz.underlying85,MapKept.run_getObj_map hb,MapKept.run_setObj_map _ hb,Result.andThen,setBlock]
theorem Wv.len {g:Nat}(h:Wv w g es l):∀ty,(Builtin.len_ #[85] ty #[.map (some g)]).run Tryz.prog w = .ok (.int .i64 es.size) w:=by
 obtain⟨c,hb,F⟩:=h.ex;intro ty;simp[Builtin.len_,run_underlying Tryz.underlying85,MapKept.run_getObj_map hb,goInt,Result.andThen]
theorem Wv.pw {g:Nat}(h:Wv w g es l):es.toList.Pairwise (fun x y=>x.key≠y.key):=by
 obtain⟨c,hb,F⟩:=h.ex;exact ((stamped_iff es c).1 F.stamped).2.2
theorem Wv.nd {g:Nat}(h:Wv w g es l):(es.toList.map (·.born)).Nodup:=by
 obtain⟨c,hb,F⟩:=h.ex;exact ((stamped_iff es c).1 F.stamped).2.1
end
structure Sz (S:Sy)(n:Int)(es:Array MapEntry)(l:List (BV×Bd))(seen:Array Nat)(dn:List Bd)(lx:List (BV×Bd))(E:List (List Int)):Prop where
 nn:0<=n
 full:GJ S n (l.map (·.2))
 done:FI S n dn (lx.map (·.2)) E
 sd:∀x∈es.toList,seen.contains x.born=true->∃b∈dn,x.key=Hg b
 ds:∀b∈dn,∃x∈es.toList,seen.contains x.born=true/\x.key=Hg b
theorem nH {b b':Bd}(h:Bm b b'):Hg b=Hg b':=by unfold Hg UF;rw[Z0 h]
theorem Sz.new {S:Sy}{n:Int}{es:Array MapEntry}{l:List (BV×Bd)}{E:List (List Int)}(hn:0<=n)(F:GJ S n (l.map (·.2)))(D:FI S n [] [] E):Sz S n es l #[] [] [] E:=
 ⟨hn,F,D,fun x hx h=>by simp at h,fun b hb=>by cases hb⟩
theorem Sz.one {S:Sy}{n:Int}{es:Array MapEntry}{l lx:List (BV×Bd)}{seen:Array Nat}{dn:List Bd}{E:List (List Int)}(h:Sz S n es l seen dn lx E){p:BV×Bd}(hp:p∈l):S.R p.2/\S.tm p.2=n:=h.full.of _ (List.mem_map.2 ⟨p,hp,rfl⟩)
theorem Sz.AL {S:Sy}(ok:Ks S){n:Int}{es:Array MapEntry}{l lx:List (BV×Bd)}{seen:Array Nat}{dn:List Bd}{E:List (List Int)}(h:Sz S n es l seen dn lx E){p:BV×Bd}(hp:p∈lx):S.R p.2:=by
 obtain⟨b,hb,hx⟩:=h.done.of _ (List.mem_map.2 ⟨p,hp,rfl⟩);exact (ok.step (h.done.dns b hb).1 hx).1
theorem Sz.step {S:Sy}(ok:Ks S){n:Int}{es:Array MapEntry}{l lx lq:List (BV×Bd)}{seen:Array Nat}{dn:List Bd}{E:List (List Int)}(h:Sz S n es l seen dn lx E)(pw:es.toList.Pairwise (fun x y=>x.key≠y.key))(nd:(es.toList.map (·.born)).Nodup){x:MapEntry}{p:BV×Bd}(hx:x∈es.toList)(hs:seen.contains x.born=false)(hp:p∈l)(hk:x.key=Hg p.2)(hq:lq.map (·.2)=S.nx p.2):
  Sz S n es l (seen.push x.born) (dn++[p.2]) (lx++lq) (if S.en p.2=true then E++[An p.2] else E):=by
 obtain⟨hR,ht⟩:=h.one hp
 have hno:∀b'∈dn,¬Bm b' p.2:=fun b' hb' he=>by
  obtain⟨y,hy,hys,hyk⟩:=h.ds b' hb';have e:y=x:=entry_eq_of_key pw hy hx (by rw[hyk,hk,nH he]);rw[e,hs] at hys;cases hys
 have cp:∀y:Nat,(seen.push x.born).contains y=true↔seen.contains y=true\/y=x.born:=fun y=>by
  rw[contains_push,Bool.or_eq_true,beq_iff_eq]
 refine⟨h.nn,h.full,?_,fun y hy hys=>?_,fun b hb=>?_⟩
 ·
  rw[List.map_append,hq];exact h.done.one ok hR ht hno
 ·
  rcases (cp _).1 hys with q|q
  ·
   obtain⟨b,hb,e⟩:=h.sd y hy q;exact⟨b,List.mem_append_left _ hb,e⟩
  ·
   have:y=x:=born_inj nd hy hx q;exact⟨p.2,by simp,by rw[this,hk]⟩
 ·
  rcases List.mem_append.1 hb with q|q
  ·
   obtain⟨y,hy,hys,hyk⟩:=h.ds b q;exact⟨y,hy,(cp _).2 (.inl hys),hyk⟩
  ·
   rw[List.mem_singleton] at q;subst q;exact⟨x,hx,(cp _).2 (.inr rfl),hk⟩
theorem Sz.end {ds:List (List Dd)}{S:Sy}(ok:Ks S)(Z:RK ds S){w:World}{g:Nat}{n:Int}{es:Array MapEntry}{l lx:List (BV×Bd)}{seen:Array Nat}{dn:List Bd}{E:List (List Int)}(h:Sz S n es l seen dn lx E)(hW:Wv w g es l)(h0:(leftOf es seen).size=0):GJ S (n+1) (lx.map (·.2))/\FI S (n+1) [] [] E:=by
 refine h.done.next ok h.nn h.full (fun b hb=>?_);obtain⟨p,hp,rfl⟩:=List.mem_map.1 hb;obtain⟨x,hx,hk⟩:=hW.vJ p hp;obtain⟨b',hb',e⟩:=h.sd x hx (all_seen es seen h0 x hx);refine⟨b',hb',Z.stand (h.one hp).1 (h.done.dns b' hb').1 (iq (by rw[<-hk,e]))⟩
def Xo (w:World):Nat:=w.heap.size
def ZV (w:World):World:=w.alloc (.map #[] 0)
theorem mU (t:TypeId)(w:World):(Instr.makeMap t none).run Tryz.prog w = .ok (.map (some (Xo w))) (ZV w):=rfl
theorem AY (w:World):AC w (ZV w):=(AC.refl w).alloc _
theorem DA (w:World):(ZV w).heap.size=w.heap.size+1:=by unfold ZV;rw[AD]
theorem Wv.mk' (w:World):Wv (ZV w) (Xo w) #[] []:=Wv.new w
structure vC (ds:List (List Dd))(S:Sy):Prop where
 sz:∀ {b},S.R b->Gi ds b
 en:∀ {b},S.R b->JW ds b=S.en b
 sh:∀ {b},S.R b->S.en b=true->Em ds b=An b
 sl:∀ {b},S.R b->S.en b=true->(An b).length<=15
 nl:∀ {b},S.R b->(S.nx b).length<=1000
 fe:∀L:List (List Int),L.Nodup->(∀z∈L,∃b,S.R b/\S.en b=true/\z=An b)->L.length<=78125
def S9 (g:Nat)(ds:List (List Dd))(S:Sy):Prop:=∀(w:World) (v:BV) (b:Bd),S.R b->CV w v ds b->Calls Tryz.prog g #[v.agg] w fun e w'=>∃v',e = .returned v'/\bT w w' v' ds (S.nx b)/\AC w w'
theorem MX.new {w w1 w2 w3 wx:World}{ds:List (List Dd)}{b:Bd}{bv:BV}{bn bx:Nat}{es:Array MapEntry}(K1:AC w w1)(hE:w1.heap[w.heap.size]? = some (.cells #[] 28 (0,0)))(s1:w1.heap.size=w.heap.size+1)(k2:AC w1 w2)(F:Cf w2 w1.heap.size w2.heap.size bv ds b)(k3:AC w2 w3)(kx:AC w3 wx)(hn:Wv wx bn es [(bv,b)])(hx:Wv wx bx #[] [])(hne:bn≠bx)(hbn:w3.heap.size<=bn)(hbx:w3.heap.size<=bx):
  MX w wx ds (fun g=>w1.heap.size<=g/\g<w2.heap.size) (.slice (some ⟨w.heap.size,0,none⟩) 0 0) [] [] bn bx es [(bv,b)]:=by
 have z2:=k2.size;have z3:=k3.size;have zx:=kx.size;have kk:=k2.trans (k3.trans kx);refine⟨fun g hg=>by omega,⟨⟨fun o ho=>?_,fun o o' ho ho' hne=>?_⟩,rfl⟩,fun g hg hp=>?_,by simp,K1.trans kk,hn,hx,hne,⟨by omega,by omega⟩,⟨by omega,by omega⟩,fun p hp=>?_⟩
 ·
  cases o with
  |none=>exact⟨by simp[LJ],.inr ⟨w.heap.size,0,#[],rfl,Nat.le_refl _,(Below.block kk _ (by omega)).trans hE,Nat.le_refl _,by decide,by simp,by simp[LJ]⟩⟩
  |some i=>exact absurd (show i<0 from ho) (by omega)
 ·
  cases o with
  |none=>
   cases o' with
   |none=>exact absurd rfl hne
   |some i=>exact absurd (show i<0 from ho') (by omega)
  |some i=>exact absurd (show i<0 from ho) (by omega)
 ·
  have:=Option.some.inj hg;simp only at this;omega
 ·
  rw[List.mem_singleton] at hp;subst hp;exact F.held.on (Au.Bq (k3.trans kx))
end
abbrev EF (hs:List Value)(i:Nat):Value:=hs.getD i AE
abbrev fP (E:List (List Int))(i j:Nat):Int:=GP (E.getD i []) (E.getD j [])
theorem wC (E:List (List Int))(i j:Nat):ltOf (fP E) i j=Bu (E.getD i []) (E.getD j []):=Oj _ _
theorem zm (E:List (List Int)):SWO (ltOf (fP E)) where
 irrefl x:=by rw[wC];exact EY _
 trans x y z h1 h2:=by rw[wC] at *;exact FV _ _ _ h1 h2
 ntrans x y z h1 h2:=by
  rw[wC] at *
  cases h:Bu (E.getD x []) (E.getD z []) with
  |false=>rfl
  |true=>
   rcases Gy (E.getD y []) (E.getD z []) with e|e|e
   . rw[e] at h1;rw[h] at h1;cases h1
   . rw[e] at h2;cases h2
   . rw[FV _ _ _ h e] at h1;cases h1
theorem Ni {α:Type}[Inhabited α](enc:α->Value)(w:World)(g m:Nat)(d:Array α)(os:Array Obj):w.grownBy (sortWorld enc w g 0 m d os) (some g):=by
 unfold sortWorld;refine⟨rfl,rfl,rfl,?_,fun i hi hne=>?_⟩
 ·
  show w.heap.size<=((putRow enc (Sort.ahead w m) g 0 d).heap++os).size;rw[Array.size_append,size_putRow];exact Nat.le_add_right _ _
 ·
  show ((putRow enc (Sort.ahead w m) g 0 d).heap++os)[i]? = _;rw[Array.getElem?_append_left (by rw[size_putRow];exact hi)];show ((Sort.ahead w m).heap.modify g (onCells (putCells enc 0 d)))[i]? = _;rw[Array.getElem?_modify,if_neg (fun e=>hne (by rw[e]))];rfl
theorem aI {α:Type}[Inhabited α](enc:α->Value)(cur:Array Value)(d:Array α)(h:d.size<=cur.size):(putCells enc 0 d cur).toList.take d.size=d.toList.map enc:=by
 apply List.ext_getElem?;intro i;rw[List.getElem?_take,List.getElem?_map];by_cases hi:i<d.size
 ·
  rw[if_pos hi];unfold putCells;rw[Array.getElem?_toList,Array.getElem?_mapIdx,Array.getElem?_eq_getElem (by omega),Array.getElem?_toList,Array.getElem?_eq_getElem hi];simp[hi]
 ·
  rw[if_neg hi,Array.getElem?_toList,Array.getElem?_eq_none (by omega)];rfl
theorem Z7 {α:Type}[Inhabited α](enc:α->Value)(w:World)(g m:Nat)(d:Array α)(os:Array Obj)(cur:Array Value)(t:TypeId)(h:w.heap[g]? = some (.cells cur t (0,0))):(sortWorld enc w g 0 m d os).heap[g]? = some (.cells (putCells enc 0 d cur) t (0,0)):=by
 have hl:=(Array.getElem?_eq_some_iff.1 h).1;unfold sortWorld;show ((putRow enc (Sort.ahead w m) g 0 d).heap++os)[g]? = _;rw[Array.getElem?_append_left (by rw[size_putRow];exact hl)];show ((Sort.ahead w m).heap.modify g (onCells (putCells enc 0 d)))[g]? = _;rw[Array.getElem?_modify,if_pos rfl];show Option.map _ (w.heap[g]?)=_;rw[h];rfl
theorem Qr (w:World)(m:Nat)(v:Value)(hs:List Value)(E:List (List Int))(h:DM 28 Bn w m v hs E)(hz:v≠.slice none 0 0)(hn:E.length<=1048576)(hm:∀i,i<E.length->(E.getD i []).length<=1048576):
  Calls Tryz.prog 67 #[v,.func (Fn.func 68) #[] #[]] w fun e w'=>e = .returned (.tuple #[])/\∃hs' E',DM 28 Bn w' m v hs' E'/\E'.Perm E/\(∀i j,i<j->j<E'.length->Bu (E'.getD j []) (E'.getD i [])=false)/\w.grownBy w' v.ownBlock:=by
 have own0:=h.Ai.own none trivial;have hl:=h.len;rcases own0.2 with ⟨q,_⟩|⟨g,cap,cur,q,hb,hh,hc,hmx,hsz,ht⟩
 . exact absurd q hz
 have q:v = .slice (some ⟨g,0,none⟩) hs.length cap:=q;subst q;have hh:w.heap[g]? = some (.cells cur 28 (0,0)):=hh;have ht:cur.toList.take (hs.length*1)=hs:=ht;rw[Nat.mul_one] at ht
 have hcur:hs.length<=cur.size:=by
  have:=congrArg List.length ht;rw[List.length_take,Array.length_toList] at this;exact Nat.le_trans (Nat.le_of_eq this.symm) (Nat.min_le_right _ _)
 have hg:(Value.slice (some ⟨g,0,none⟩) hs.length cap).ownBlock=some g:=rfl
 have ne:∀i,i<hs.length->∀b,(hs.getD i AE).ownBlock=some b->b≠g:=fun i hi b hb e=>by
  rcases h.Ai.apart (some i) none hi trivial (by simp) with h1|h1
  . rw[show (LJ 28 Bn (.slice (some ⟨g,0,none⟩) hs.length cap) hs E (some i)).v=hs.getD i AE from rfl,hb] at h1;cases h1
  ·
   apply h1;rw[show (LJ 28 Bn (.slice (some ⟨g,0,none⟩) hs.length cap) hs E (some i)).v=hs.getD i AE from rfl,hb,e];exact hg.symm
 have out:∀i,¬i<hs.length->hs.getD i AE=AE/\E.getD i []=[]:=fun i hi=>⟨by rw[List.getD_eq_getElem?_getD,List.getElem?_eq_none (by omega)];rfl,by rw[List.getD_eq_getElem?_getD,List.getElem?_eq_none (by omega)];rfl⟩
 have sU:∀(W:World),w.grownBy W (some g)->∀i,i<hs.length->(Bn (E.getD i []) (hs.getD i AE)).own W m:=fun W hW i hi=>EZ (h.Ai.own (some i) hi) (fun b hb=>hW.block b (h.Ai.lt (i:=some i) hi b hb).2 (fun e=>ne i hi b hb (Option.some.inj e)))
 have Kh:∀(W:World),w.grownBy W (some g)->∀i,Rd W (hs.getD i AE) (E.getD i []):=fun W hW i=>by
  by_cases hi:i<hs.length
  . exact BM.rd (sU W hW i hi)
  ·
   obtain⟨e1,e2⟩:=out i hi;rw[e1,e2];exact⟨none,0,rfl,.inl rfl⟩
 have hm':∀i,(E.getD i []).length<=1048576:=fun i=>by
  by_cases hi:i<hs.length
  . exact hm i (by omega)
  . rw[(out i hi).2];simp
 have one:OneCell (EF hs):=fun i=>by
  obtain⟨a,c,e,_⟩:=Kh w (World.grownBy.refl _ _) i;show (hs.getD i AE).oneCell'=true;rw[e];rfl
 have oQ:(Array.range hs.length).size=hs.length:=Array.size_range
 have hold:Holds (EF hs) w g 0 (Array.range hs.length):=fun j hj=>by
  rw[oQ] at hj;refine⟨?_,frozen_of_row w g (0+j) _ _ hh⟩;rw[cell_of_row w g (0+j) _ _ _ hh,Nat.zero_add,getElem!_pos _ j (by rw[oQ];exact hj),Array.getElem_range];have e1:(cur.toList.take hs.length)[j]? = hs[j]?:=by rw[ht]
  rw[List.getElem?_take,if_pos hj,Array.getElem?_toList] at e1;rw[e1,List.getElem?_eq_getElem hj];show _=some (hs.getD j AE);rw[List.getD_eq_getElem?_getD,List.getElem?_eq_getElem hj];rfl
 have lays:CmpLays1 Tryz.prog 68 #[] (EF hs) (fP E) g 0 (Array.range hs.length).size w:=fun mm os dk _ x y=>by
  have hW:=Ni (EF hs) w g mm dk os;refine (Yg _ _ _ (E.getD x []) (E.getD y []) (Kh _ hW x) (Kh _ hW y) (hm' x) (hm' y)).mono ?_;rintro e w' ⟨rfl,rfl⟩;exact⟨rfl,0,#[],by rw[grow_empty];rfl⟩
 have eg:∀args w,(callFunc 68 args).run Tryz.prog w = .ok (.enter 68 args) w:=enters_of Tryz.func68 (by kernel_rfl) rfl;have C:=Any.slices_SortFunc Tryz.srt (EF hs) one (fP E) (zm E) 68 #[] g 0 cap (Array.range hs.length) w eg lays hold (Array.getElem?_eq_some_iff.1 hh).1 (by rw[oQ];omega);rw[oQ] at C;refine Calls.mono C ?_;rintro e w' ⟨rfl,d',mm,os,hp,hs',rfl⟩;obtain⟨p1,-,p3⟩:=hp;rw[oQ] at p1;have hW:=Ni (EF hs) w g mm d' os;have hrow:=Z7 (EF hs) w g mm d' os cur _ hh
 have hperm:d'.toList.Perm (List.range hs.length):=by
  have e1:(d'.extract 0 hs.length).toList=d'.toList:=by rw[<-p1,Array.extract_size]
  have e2:((Array.range hs.length).extract 0 hs.length).toList=List.range hs.length:=by
   have:(Array.range hs.length).extract 0 hs.length=Array.range hs.length:=by
    have q:=Array.extract_size (xs:=Array.range hs.length)
    rwa [oQ] at q
   rw[this,Array.toList_range]
  rw[e1,e2] at p3;exact p3
 have Yj:d'.toList.length=hs.length:=by rw[Array.length_toList,p1]
 have dnd:d'.toList.Nodup:=hperm.nodup_iff.2 List.nodup_range
 have qz:∀i,i<hs.length->d'.toList.getD i 0<hs.length:=fun i hi=>by
  have:d'.toList.getD i 0∈d'.toList:=by rw[List.getD_eq_getElem?_getD,List.getElem?_eq_getElem (by omega)];exact List.getElem_mem _
  exact List.mem_range.1 (hperm.mem_iff.1 this)
 have Yz:∀i,i<hs.length->(d'.toList.map (EF hs)).getD i AE=hs.getD (d'.toList.getD i 0) AE:=fun i hi=>by
  rw[List.getD_eq_getElem?_getD,List.getElem?_map,List.getElem?_eq_getElem (by omega),List.getD_eq_getElem?_getD (l:=d'.toList),List.getElem?_eq_getElem (by omega)];rfl
 have lZ:∀i,i<hs.length->(d'.toList.map (fun i=>E.getD i [])).getD i []=E.getD (d'.toList.getD i 0) []:=fun i hi=>by
  rw[List.getD_eq_getElem?_getD,List.getElem?_map,List.getElem?_eq_getElem (by omega),List.getD_eq_getElem?_getD (l:=d'.toList),List.getElem?_eq_getElem (by omega)];rfl
 refine⟨rfl,d'.toList.map (EF hs),d'.toList.map (fun i=>E.getD i []),⟨⟨fun o ho=>?_,fun o o' ho ho' hne=>?_⟩,by rw[List.length_map,List.length_map]⟩,?_,fun i j hij hj=>?_,by simpa [Value.ownBlock] using hW⟩
 ·
  cases o with
  |none=>
   refine⟨by show (d'.toList.map (EF hs)).length=_;exact (Nat.mul_one _).symm,.inr ⟨g,cap,_,?_,hb,hrow,?_,hmx,?_,?_⟩⟩
   ·
    show Value.slice (some ⟨g,0,none⟩) hs.length cap = .slice _ (d'.toList.map (EF hs)).length cap;rw[List.length_map,Yj]
   ·
    show (d'.toList.map (EF hs)).length<=cap;rw[List.length_map,Yj];exact hc
   ·
    show (putCells (EF hs) 0 d' cur).size=cap*1;unfold putCells;rw[Array.size_mapIdx];exact hsz
   ·
    show (putCells (EF hs) 0 d' cur).toList.take ((d'.toList.map (EF hs)).length*1)=d'.toList.map (EF hs);rw[Nat.mul_one,List.length_map,Array.length_toList];exact aI (EF hs) cur d' (by omega)
  |some i=>
   have hi:i<hs.length:=by have:i<(d'.toList.map (EF hs)).length:=ho;rwa [List.length_map,Yj] at this
   show (Bn ((d'.toList.map (fun i=>E.getD i [])).getD i []) ((d'.toList.map (EF hs)).getD i AE)).own _ m;rw[Yz i hi,lZ i hi];exact sU _ hW _ (qz i hi)
 ·
  have key:∀i j,i<hs.length->j<hs.length->i≠j->(hs.getD (d'.toList.getD i 0) AE).ownBlock=none\/(hs.getD (d'.toList.getD i 0) AE).ownBlock≠(hs.getD (d'.toList.getD j 0) AE).ownBlock:=fun i j hi hj hne=>by
   have hd:d'.toList.getD i 0≠d'.toList.getD j 0:=fun e=>by
    rw[List.getD_eq_getElem?_getD,List.getD_eq_getElem?_getD,List.getElem?_eq_getElem (by omega),List.getElem?_eq_getElem (by omega)] at e;exact hne ((List.getElem_inj dnd).1 e)
   exact h.Ai.apart (some _) (some _) (qz i hi) (qz j hj) (by simpa using hd)
  have lv:∀i,Ek (d'.toList.map (EF hs)).length (some i)->i<hs.length:=fun i ho=>by
   have:i<(d'.toList.map (EF hs)).length:=ho
   rwa [List.length_map,Yj] at this
  cases o with
  |none=>
   cases o' with
   |none=>exact absurd rfl hne
   |some j=>
    have hj:=lv j ho';refine .inr (fun e=>?_);have e:(Value.slice (some ⟨g,0,none⟩) hs.length cap).ownBlock=((d'.toList.map (EF hs)).getD j AE).ownBlock:=e;rw[Yz j hj,hg] at e;exact ne _ (qz j hj) g e.symm rfl
  |some i=>
   have hi:=lv i ho
   cases o' with
   |none=>
    show ((d'.toList.map (EF hs)).getD i AE).ownBlock=none\/((d'.toList.map (EF hs)).getD i AE).ownBlock≠(Value.slice (some ⟨g,0,none⟩) hs.length cap).ownBlock;rw[Yz i hi,hg]
    cases hq:(hs.getD (d'.toList.getD i 0) AE).ownBlock with
    |none=>exact .inl rfl
    |some b=>exact .inr (fun e=>ne _ (qz i hi) b hq (Option.some.inj e))
   |some j=>
    have hj:=lv j ho';show ((d'.toList.map (EF hs)).getD i AE).ownBlock=none\/((d'.toList.map (EF hs)).getD i AE).ownBlock≠((d'.toList.map (EF hs)).getD j AE).ownBlock;rw[Yz i hi,Yz j hj];exact key i j hi hj (fun e=>hne (by rw[e]))
 ·
  have e1:(List.range hs.length).map (fun i=>E.getD i [])=E:=by
   apply List.ext_getElem (by simp[hl]);intro i h1 h2;rw[List.getElem_map,List.getElem_range,List.getD_eq_getElem?_getD,List.getElem?_eq_getElem h2];rfl
  have:=hperm.map (fun i=>E.getD i [])
  rwa [e1] at this
 ·
  have hj':j<hs.length:=by rwa [List.length_map,Yj] at hj
  have q:=hs' i j (Nat.zero_le _) hij hj';rw[wC] at q;rw[lZ j hj',lZ i (by omega)]
  have gd:∀k,k<hs.length->d'[k]! = d'.toList.getD k 0:=fun k hk=>by
   rw[getElem!_pos _ k (by omega),List.getD_eq_getElem?_getD,Array.getElem?_toList,Array.getElem?_eq_getElem (by omega)];rfl
  rw[gd j hj',gd i (by omega)] at q;exact q
theorem R9 (w:World)(v:BV)(AA:List (List Dd))(b:Bd)(h:CV w v AA b)(hd:AA.length<=1048576)(hx:AA.length<=b.AL.length)(hn:AA.length<=b.AG.length):
  Calls Tryz.prog 95 #[v.agg] w fun e w'=>e = .returned (.bool (Mn AA b))/\AC w w':=by
 obtain⟨aW,aP,aL,aN,aX,aS,aF,aR,cW,cP,cL,cN,cX,cS,cF,cR,rfl⟩:=h.shapes;have KW:AC w (w.alloc (.cells #[.slice aW AA.length cW,.slice aP b.AM.length cP,.slice aL b.AO.length cL,.slice aN b.AG.length cN,.slice aX b.AL.length cX,.slice aS b.sn.length cS,.slice aF b.fr.length cF,.slice aR b.rws.length cR] 36)):=(AC.refl w).alloc _;have c0:(w.alloc (.cells #[.slice aW AA.length cW,.slice aP b.AM.length cP,.slice aL b.AO.length cL,.slice aN b.AG.length cN,.slice aX b.AL.length cX,.slice aS b.sn.length cS,.slice aF b.fr.length cF,.slice aR b.rws.length cR] 36)).cell? ⟨w.heap.size,0,none⟩=some (.slice aW AA.length cW):=AU (AC.refl _) 0;have c3:(w.alloc (.cells #[.slice aW AA.length cW,.slice aP b.AM.length cP,.slice aL b.AO.length cL,.slice aN b.AG.length cN,.slice aX b.AL.length cX,.slice aS b.sn.length cS,.slice aF b.fr.length cF,.slice aR b.rws.length cR] 36)).cell? ⟨w.heap.size,3,none⟩=some (.slice aN b.AG.length cN):=AU (AC.refl _) 3;have c4:(w.alloc (.cells #[.slice aW AA.length cW,.slice aP b.AM.length cP,.slice aL b.AO.length cL,.slice aN b.AG.length cN,.slice aX b.AL.length cX,.slice aS b.sn.length cS,.slice aF b.fr.length cF,.slice aR b.rws.length cR] 36)).cell? ⟨w.heap.size,4,none⟩=some (.slice aX b.AL.length cX):=AU (AC.refl _) 4;have h':=h.keep KW;go_enter Tryz.func95,Tryz.ntmps95
 go_wp2;generalize (w.alloc (.cells #[.slice aW AA.length cW,.slice aP b.AM.length cP,.slice aL b.AO.length cL,.slice aN b.AG.length cN,.slice aX b.AL.length cX,.slice aS b.sn.length cS,.slice aF b.fr.length cF,.slice aR b.rws.length cR] 36))=w1 at *;have HH:=Lib.hid h';clear h h';go_loopw [3,4,8] (fun _ _ i wr=>∃k:Nat,k<=AA.length/\i = .int .i64 k/\Hid (∀j,j<k->(decide (((AA.getD j []).length:Int)<=b.AL.getD j 0)&&(b.AG.getD j []).isEmpty)=true)/\wr=w1) (fun _ _ i _=>AA.length-(intOf i).toNat)
 case atStart=>exact⟨0,Nat.zero_le _,rfl,Lib.hid (fun j hj=>absurd hj (Nat.not_lt_zero _)),rfl⟩
 case round=>
  obtain⟨k,hk,rfl,hno,rfl⟩:=hrel;by_cases hlt:k<AA.length
  ·
   have lX:k<b.AL.length:=by omega
   have lN:k<b.AG.length:=by omega
   obtain⟨a',c',he',hX⟩:=HH.out.X;simp only[Value.slice.injEq,true_and] at he';obtain⟨rfl,rfl⟩:=he';rcases hX with h0|⟨bx,ox,rfl,hbx,hcx⟩
   . exfalso;rw[h0] at lX;simp at lX
   obtain⟨a',c',he',hW⟩:=HH.out.W;simp only[Value.slice.injEq,true_and] at he';obtain⟨rfl,rfl⟩:=he';rcases hW with h0|⟨bw,ow,rfl,hbw,hcw⟩
   . exfalso;rw[h0] at hlt;simp at hlt
   obtain⟨a',c',he',hN⟩:=HH.out.N;simp only[Value.slice.injEq,true_and] at he';obtain⟨rfl,rfl⟩:=he';rcases hN with h0|⟨bn,on,rfl,hbn,hcn⟩
   . exfalso;rw[h0] at lN;simp at lN
   have d1:=hcx k lX;obtain⟨vw,d2,r2⟩:=hcw k hlt;obtain⟨vn,d3,r3⟩:=hcn k lN;have HF:(decide (((AA.getD k []).length:Int)<=b.AL.getD k 0)&&(b.AG.getD k []).isEmpty)=false->Hid (Mn AA b=false):=fun e=>Lib.hid (Cv hlt e)
   have HT:(decide (((AA.getD k []).length:Int)<=b.AL.getD k 0)&&(b.AG.getD k []).isEmpty)=true->Hid (∀j,j<k+1->(decide (((AA.getD j []).length:Int)<=b.AL.getD j 0)&&(b.AG.getD j []).isEmpty)=true):=fun e=>Lib.hid (fun j hj=>by
    by_cases e':j=k
    . rw[e'];exact e
    . exact hno.out j (by omega))
   obtain⟨aw,cw,rfl,-⟩:=r2;obtain⟨an,cn,rfl,-⟩:=r3;generalize b.AL.getD k 0=x at d1 HF HT;generalize (AA.getD k []).length=wl at d2 HF HT;generalize b.AG.getD k []=ns at d3 HF HT;have j1:(0:Int)<=(k:Int):=Int.natCast_nonneg _;have j2:(k:Int)<(AA.length:Int):=by omega
   have j3:(k:Int)<(b.AL.length:Int):=by omega
   have j4:(k:Int)<(b.AG.length:Int):=by omega
   clear hcx hcw hcn hno HH;by_cases t1:x<(wl:Int)
   ·
    have HE:=HF (by rw[decide_eq_false (by omega)];rfl);clear HF HT;go_wp2;go_ret;exact⟨by rw[HE.out];rfl,KW⟩
   have t1':decide (x<(wl:Int))=false:=decide_eq_false t1;by_cases t2:0<ns.length
   ·
    have HE:=HF (by
     have:ns.isEmpty=false:=by cases ns with|nil=>simp at t2|cons _ _=>rfl
     rw[this];simp)
    have t2':decide (0<ns.length)=true:=decide_eq_true t2;clear HF HT t1;go_wp2;go_ret;exact⟨by rw[HE.out];rfl,KW⟩
   ·
    have HE:=HT (by
     have:ns.isEmpty=true:=by cases ns with|nil=>rfl|cons _ _=>simp at t2
     rw[this,decide_eq_true (by omega)];rfl)
    have t2':decide (0<ns.length)=false:=decide_eq_false t2;clear HF HT t1 t2;go_wp2;go_roundw;case rel=>exact⟨k+1,by omega,by go_num,HE,trivial⟩
    case measure=>simp[intOf];omega
  ·
   obtain rfl:k=AA.length:=by omega
   have HE:Hid (Mn AA b=true):=Lib.hid (C5 hno.out);go_wp2;go_ret;exact⟨by rw[HE.out];rfl,KW⟩
theorem TT (p0:Addr)(w:World):CallsD Tryz.prog 93 #[.pointer (some p0)] .returning w fun e u' w'=>e = .returned (.tuple #[])/\u' = .returning/\w'=w:=by
 refine callsD_of_wpS Tryz.func93 rfl fun c₀ cs hu=>?_
 apply wpS_seq;apply wpS_region;have hn:∀w:World,(binOp BinOp.neq 20 .nilIface .nilIface).run Tryz.prog w = .ok (.bool false) w:=fun _=>by kernel_rfl
 simp[wpOpsS,go_sem,recoverD,hu,Tryz.ntmps93,Exit.thenS,hn];refine wpS_cond (t:=false) (by simp[Act.eval,Array.replicate]) ?_;simp only[Bool.false_eq_true,if_false];refine wpS_of_wp (wp_skip ?_);cases c₀;simp_all [bodyPostS,results,Tryz.results93]
theorem WD (g:Nat)(w:World)(x:Value)(hg:w.heap[g]? = some (.cells #[x] 4 (0,0))):CallsD Tryz.prog 93 #[.pointer (some ⟨g,0,none⟩)] (.panicking [{ v:=Wk,recovered:=false }]) w fun e u' w'=>e = .returned (.tuple #[])/\u' = .panicking [{ v:=Wk,recovered:=true }]/\w'=w.setCell ⟨g,0,none⟩ (.bool false):=by
 have hc:w.cell? ⟨g,0,none⟩=some x:=by rw[cell_of_row w g 0 _ _ _ hg];rfl
 have hf:w.frozen? ⟨g,0,none⟩=false:=frozen_of_row w g 0 _ _ hg;have hv:∀w:World,(binOp BinOp.neq 20 Wk .nilIface).run Tryz.prog w = .ok (.bool true) w:=fun _=>by kernel_rfl
 refine callsD_of_wpS Tryz.func93 rfl fun c₀ cs hu=>?_
 apply wpS_seq;apply wpS_region;simp[wpOpsS,go_sem,recoverD,hu,Tryz.ntmps93,Exit.thenS,hv];refine wpS_cond (t:=true) (by simp[Act.eval,Array.replicate]) ?_;simp only[if_true];refine wpS_of_wp ?_;go_wp2;cases c₀;simp_all [bodyPostS,results,Tryz.results93]
theorem N2 (w:World)(v:BV)(AA:List (List Dd))(b:Bd)(h:CV w v AA b)(hz:Gi AA b):
  Calls Tryz.prog 64 #[v.agg] w fun e w'=>e = .returned (.bool (JW AA b))/\AC w w':=by
 obtain⟨aW,aP,aL,aN,aX,aS,aF,aR,cW,cP,cL,cN,cX,cS,cF,cR,rfl⟩:=h.shapes;have C:=fun (W:World) (kW:AC w W)=>GC W _ AA b (h.keep kW) hz
 have HH:=Lib.hid h;have HZ:=Lib.hid hz;clear h hz;have vV:∀(fn:Fn) (first cap:Array Value) (w:World),(Instr.makeFunc fn first cap).run Tryz.prog w = .ok (.func fn first cap) w:=fun _ _ _ _=>rfl
 obtain⟨w1,hw1⟩:∃W:World,W=((w.alloc (.cells #[.slice aW AA.length cW,.slice aP b.AM.length cP,.slice aL b.AO.length cL,.slice aN b.AG.length cN,.slice aX b.AL.length cX,.slice aS b.sn.length cS,.slice aF b.fr.length cF,.slice aR b.rws.length cR] 36)).alloc (.cells #[.bool false] 4)):=⟨_,rfl⟩;have K1:AC w w1:=by rw[hw1];exact ((AC.refl w).alloc _).alloc _
 have s1:w1.heap.size=w.heap.size+2:=by rw[hw1,AD,AD]
 have hR1:w1.heap[w.heap.size+1]? = some (.cells #[.bool false] 4 (0,0)):=by
  rw[hw1,<-AD w (.cells #[.slice aW AA.length cW,.slice aP b.AM.length cP,.slice aL b.AO.length cL,.slice aN b.AG.length cN,.slice aX b.AL.length cX,.slice aS b.sn.length cS,.slice aF b.fr.length cF,.slice aR b.rws.length cR] 36)];exact heap_alloc_new _ _
 have hB1:w1.heap[w.heap.size]? = some (.cells #[.slice aW AA.length cW,.slice aP b.AM.length cP,.slice aL b.AO.length cL,.slice aN b.AG.length cN,.slice aX b.AL.length cX,.slice aS b.sn.length cS,.slice aF b.fr.length cF,.slice aR b.rws.length cR] 36 (0,0)):=by rw[hw1];exact (Below.block ((AC.refl _).alloc _) _ (by rw[AD];omega)).trans (heap_alloc_new _ _)
 go_enter_defers Tryz.func64,Tryz.ntmps64
 go_upto_region 2 with fail
 rw[<-hw1];clear hw1;go_wp2_with (first|refine wpList_load_row rfl 36 _ rfl w.heap.size rfl 36 _ (0,0) _ hB1 Tryz.underlying36 rfl AK ?_|fail)
 refine (C _ K1).mono ?_;rintro e w2 ⟨rfl,k2⟩;have K2:=K1.trans k2;have hR2:=(Below.block k2 (w.heap.size+1) (by omega)).trans hR1;cases hb:AW AA b
 ·
  rw[Ag rfl];have hS:=heap_setCell_same w2 (w.heap.size+1) 0 _ _ (.bool false) hR2;have hc:(w2.setCell ⟨w.heap.size+1,0,none⟩ (.bool false)).cell? ⟨w.heap.size+1,0,none⟩=some (.bool false):=by rw[cell_of_row _ _ 0 _ _ _ hS];rfl
  have KZ:=K2.grown (Ae w2 (w.heap.size+1) 0 (.bool false)) (fun k hk=>by have:=Option.some.inj hk;omega);go_wp2;refine leaves_cons (f:=93) (args:=#[.pointer (some ⟨w.heap.size+1,0,none⟩)]) (by simp) (by simp[go_sem]) ?_;refine (WD _ _ _ hR2).mono ?_;rintro e u' w9 ⟨rfl,rfl,rfl⟩;simp[Leaves,settle,results,Tryz.results64,go_sem,hc];exact⟨by unfold JW;rw[hb];rfl,KZ⟩
 ·
  rw[Aw rfl];have hB2:=(Below.block k2 w.heap.size (by omega)).trans hB1;obtain⟨l1,l2⟩:=TN hb;have CI:=R9 w2 _ AA b (HH.out.keep K2) HZ.out.w1 (by omega) (by omega);clear l1 l2;go_wp2_with (first|refine wpList_load_row rfl 36 _ rfl w.heap.size rfl 36 _ (0,0) _ hB2 Tryz.underlying36 rfl AK ?_|fail)
  refine CI.mono ?_;rintro e w3 ⟨rfl,k3⟩;have K3:=K2.trans k3;have hR3:=(Below.block k3 (w.heap.size+1) (by have:=k2.size;omega)).trans hR2;have HE:Hid (JW AA b=Mn AA b):=Lib.hid (by unfold JW;rw[hb];rfl);clear hR2 hR1;generalize Mn AA b=Z at *;have hc0:w3.cell? ⟨w.heap.size+1,0,none⟩=some (.bool false):=by rw[cell_of_row w3 _ 0 _ _ _ hR3];rfl
  have hf:w3.frozen? ⟨w.heap.size+1,0,none⟩=false:=frozen_of_row w3 _ 0 _ _ hR3;have hS:=heap_setCell_same w3 (w.heap.size+1) 0 _ _ (.bool Z) hR3;have hc:(w3.setCell ⟨w.heap.size+1,0,none⟩ (.bool Z)).cell? ⟨w.heap.size+1,0,none⟩=some (.bool Z):=by rw[cell_of_row _ _ 0 _ _ _ hS];rfl
  have KZ:=K3.grown (Ae w3 (w.heap.size+1) 0 (.bool Z)) (fun k hk=>by have:=Option.some.inj hk;omega);go_wp2;refine leaves_cons (f:=93) (args:=#[.pointer (some ⟨w.heap.size+1,0,none⟩)]) (by simp) (by simp[go_sem]) ?_;refine (TT _ _).mono ?_;rintro e u' w9 ⟨rfl,rfl,rfl⟩;simp[Leaves,settle,results,Tryz.results64,go_sem,hc];exact⟨HE.out.symm,KZ⟩
theorem Z6 (p0:Addr)(w:World):CallsD Tryz.prog 96 #[.pointer (some p0)] .returning w fun e u' w'=>e = .returned (.tuple #[])/\u' = .returning/\w'=w:=by
 refine callsD_of_wpS Tryz.func96 rfl fun c₀ cs hu=>?_
 apply wpS_seq;apply wpS_region;have hn:∀w:World,(binOp BinOp.neq 20 .nilIface .nilIface).run Tryz.prog w = .ok (.bool false) w:=fun _=>by kernel_rfl
 simp[wpOpsS,go_sem,recoverD,hu,Tryz.ntmps96,Exit.thenS,hn];refine wpS_cond (t:=false) (by simp[Act.eval,Array.replicate]) ?_;simp only[Bool.false_eq_true,if_false];refine wpS_of_wp (wp_skip ?_);cases c₀;simp_all [bodyPostS,results,Tryz.results96]
theorem iy (g:Nat)(w:World)(x:Value)(hg:w.heap[g]? = some (.cells #[x] 28 (0,0))):CallsD Tryz.prog 96 #[.pointer (some ⟨g,0,none⟩)] (.panicking [{ v:=Wk,recovered:=false }]) w fun e u' w'=>e = .returned (.tuple #[])/\u' = .panicking [{ v:=Wk,recovered:=true }]/\w'=(w.alloc (.cells #[] 2)).setCell ⟨g,0,none⟩ (.slice (some ⟨w.heap.size,0,none⟩) 0 0):=by
 have hl:g<w.heap.size:=(Array.getElem?_eq_some_iff.1 hg).1;have hg2:=(Below.block ((AC.refl w).alloc (.cells #[] 2)) g hl).trans hg;have hc:(w.alloc (.cells #[] 2)).cell? ⟨g,0,none⟩=some x:=by rw[cell_of_row _ g 0 _ _ _ hg2];rfl
 have hf:(w.alloc (.cells #[] 2)).frozen? ⟨g,0,none⟩=false:=frozen_of_row _ g 0 _ _ hg2;have hv:∀w:World,(binOp BinOp.neq 20 Wk .nilIface).run Tryz.prog w = .ok (.bool true) w:=fun _=>by kernel_rfl
 refine callsD_of_wpS Tryz.func96 rfl fun c₀ cs hu=>?_
 apply wpS_seq;apply wpS_region;simp[wpOpsS,go_sem,recoverD,hu,Tryz.ntmps96,Exit.thenS,hv];refine wpS_cond (t:=true) (by simp[Act.eval,Array.replicate]) ?_;simp only[if_true];refine wpS_of_wp ?_;go_wp2;cases c₀;simp_all [bodyPostS,results,Tryz.results96];exact (World.setCell_alloc_past _ _ _ _ hl).symm
theorem Qq {w wr:World}{v:Value}{zs:List Int}{x:Value}(O:BM wr (w.heap.size+2) v zs)(K:AC w wr)(hg:wr.heap[w.heap.size+1]? = some (.cells #[x] 28 (0,0))):
  (wr.setCell ⟨w.heap.size+1,0,none⟩ v).cell? ⟨w.heap.size+1,0,none⟩=some v/\(wr.setCell ⟨w.heap.size+1,0,none⟩ v).heap[w.heap.size+1]? = some (.cells #[v] 28 (0,0))/\BM (wr.setCell ⟨w.heap.size+1,0,none⟩ v) (w.heap.size+2) v zs/\AC w (wr.setCell ⟨w.heap.size+1,0,none⟩ v)/\wr.cell? ⟨w.heap.size+1,0,none⟩=some x/\wr.frozen? ⟨w.heap.size+1,0,none⟩=false:=by
 have hS:=heap_setCell_same wr (w.heap.size+1) 0 _ _ v hg;refine⟨by rw[cell_of_row _ _ 0 _ _ _ hS];rfl,hS,World.ownsRow.kept O (Ae wr (w.heap.size+1) 0 v) ?_,K.grown (Ae wr (w.heap.size+1) 0 v) (fun k hk=>by have:=Option.some.inj hk;omega),by rw[cell_of_row _ _ 0 _ _ _ hg];rfl,frozen_of_row wr _ 0 _ _ hg⟩
 cases e:v.ownBlock with
 |none=>exact .inl rfl
 |some k=>exact .inr (fun e'=>by have:=O.ge k e;have:=Option.some.inj e';omega)
theorem Ja (w:World)(v:BV)(AA:List (List Dd))(b:Bd)(h:CV w v AA b)(hz:Gi AA b):
  Calls Tryz.prog 65 #[v.agg] w fun e w'=>∃v',e = .returned v'/\BM w' w.heap.size v' (Em AA b)/\AC w w':=by
 obtain⟨aW,aP,aL,aN,aX,aS,aF,aR,cW,cP,cL,cN,cX,cS,cF,cR,rfl⟩:=h.shapes;have C:=fun (W:World) (kW:AC w W)=>GC W _ AA b (h.keep kW) hz
 have HS:=Lib.hid h.S;have HP:=Lib.hid h.P;have z1:=hz.sn;have z2:=hz.AM;clear h hz;have HD:Hid (Em AA b=if AW AA b=true then b.sn++b.AM else []):=Lib.hid rfl;have vV:∀(fn:Fn) (first cap:Array Value) (w:World),(Instr.makeFunc fn first cap).run Tryz.prog w = .ok (.func fn first cap) w:=fun _ _ _ _=>rfl
 obtain⟨w1,hw1⟩:∃W:World,W=((w.alloc (.cells #[.slice aW AA.length cW,.slice aP b.AM.length cP,.slice aL b.AO.length cL,.slice aN b.AG.length cN,.slice aX b.AL.length cX,.slice aS b.sn.length cS,.slice aF b.fr.length cF,.slice aR b.rws.length cR] 36)).alloc (.cells #[.slice none 0 0] 28)):=⟨_,rfl⟩;have K1:AC w w1:=by rw[hw1];exact ((AC.refl w).alloc _).alloc _
 have s1:w1.heap.size=w.heap.size+2:=by rw[hw1,AD,AD]
 have hR1:w1.heap[w.heap.size+1]? = some (.cells #[.slice none 0 0] 28 (0,0)):=by
  rw[hw1,<-AD w (.cells #[.slice aW AA.length cW,.slice aP b.AM.length cP,.slice aL b.AO.length cL,.slice aN b.AG.length cN,.slice aX b.AL.length cX,.slice aS b.sn.length cS,.slice aF b.fr.length cF,.slice aR b.rws.length cR] 36)];exact heap_alloc_new _ _
 have hB1:w1.heap[w.heap.size]? = some (.cells #[.slice aW AA.length cW,.slice aP b.AM.length cP,.slice aL b.AO.length cL,.slice aN b.AG.length cN,.slice aX b.AL.length cX,.slice aS b.sn.length cS,.slice aF b.fr.length cF,.slice aR b.rws.length cR] 36 (0,0)):=by rw[hw1];exact (Below.block ((AC.refl _).alloc _) _ (by rw[AD];omega)).trans (heap_alloc_new _ _)
 go_enter_defers Tryz.func65,Tryz.ntmps65
 go_upto_region 2 with fail
 rw[<-hw1];clear hw1;go_wp2_with (first|refine wpList_load_row rfl 36 _ rfl w.heap.size rfl 36 _ (0,0) _ hB1 Tryz.underlying36 rfl AK ?_|fail)
 refine (C _ K1).mono ?_;rintro e w2 ⟨rfl,k2⟩;have K2:=K1.trans k2;have hsz:=k2.size;have hR2:=(Below.block k2 (w.heap.size+1) (by omega)).trans hR1;have hB2:=(Below.block k2 w.heap.size (by omega)).trans hB1;have k3:AC w2 (w2.alloc (.cells #[] 2)):=(AC.refl w2).alloc _;have O3:BM (w2.alloc (.cells #[] 2)) (w.heap.size+2) (.slice (some ⟨w2.heap.size,0,none⟩) 0 0) []:=World.ownsRow_lit w2 #[] 0 (by omega) (by decide) rfl;have hR3:=(Below.block k3 (w.heap.size+1) (by omega)).trans hR2;have hB3:=(Below.block k3 w.heap.size (by omega)).trans hB2;have K3:=K2.trans k3;have hsz3:=k3.size;clear hR1 hB1 hB2 C;cases hb:AW AA b
 ·
  rw[Ag rfl];have HE:Hid (Em AA b=[]):=Lib.hid (by rw[HD.out,hb];rfl);obtain⟨hc,-,OZ,KZ,-,-⟩:=Qq O3 K3 hR3;go_wp2;refine leaves_cons (f:=96) (args:=#[.pointer (some ⟨w.heap.size+1,0,none⟩)]) (by simp) (by simp[go_sem]) ?_;refine (iy _ _ _ hR2).mono ?_;rintro e u' w9 ⟨rfl,rfl,rfl⟩;simp[Leaves,settle,results,Tryz.results65,go_sem,hc];exact⟨by rw[HE.out];exact OZ.Az (by omega),KZ⟩
 ·
  rw[Aw rfl];have HE:Hid (Em AA b=b.sn++b.AM):=Lib.hid (by rw[HD.out,hb];rfl);clear HD hb hR2;obtain⟨w3,hw3⟩:∃W:World,W=w2.alloc (.cells #[] 2):=⟨_,rfl⟩;rw[<-hw3] at O3 hR3 hB3 K3 k3 hsz3;have f5:w3.cell? ⟨w.heap.size,5,none⟩=some (.slice aS b.sn.length cS):=by rw[cell_of_row w3 _ 5 _ _ _ hB3];rfl
  have f5':(w2.alloc (.cells #[] 2)).cell? ⟨w.heap.size,5,none⟩=some (.slice aS b.sn.length cS):=by rw[<-hw3];exact f5
  go_wp2_with (at_builtin;rw[<-hw3];refine BB rfl _ _ rfl (w.heap.size+2) _ [] rfl O3 _ rfl b.sn (HS.out.keep K3) (by simp) z1 (by omega) ?_)
  intro v4 w4 O4 g4 _;rw[<-hw3] at g4;have hge:∀k,some w2.heap.size=some k->w.heap.size+2<=k:=fun k hk=>by have:=Option.some.inj hk;omega
  have K4:AC w w4:=K3.grown g4 (fun k hk=>by have:=hge k hk;omega);have hR4:w4.heap[w.heap.size+1]? = some (.cells #[.slice none 0 0] 28 (0,0)):=(g4.block _ (by omega) (fun e=>by have:=hge _ e.symm;omega)).trans hR3;have hB4:=(g4.block w.heap.size (by omega) (fun e=>by have:=hge _ e.symm;omega)).trans hB3;have hsz4:=g4.size;clear hR3 hB3 O3 f5 f5' hw3 g4;obtain⟨a4,x4,rfl,-⟩:=id O4.rd;obtain⟨hc4,hS5,O5,K5,c4,fr4⟩:=Qq O4 K4 hR4;have hB5:=(heap_setCell_other w4 ⟨w.heap.size+1,0,none⟩ w.heap.size (.slice a4 b.sn.length x4) (by show w.heap.size≠w.heap.size+1;omega)).trans hB4;have hsz5:w4.heap.size=(w4.setCell ⟨w.heap.size+1,0,none⟩ (.slice a4 b.sn.length x4)).heap.size:=by simp
  go_upto_region 4 with fail
  generalize w4.setCell ⟨w.heap.size+1,0,none⟩ (.slice a4 b.sn.length x4)=w5 at *;have f1:w5.cell? ⟨w.heap.size,1,none⟩=some (.slice aP b.AM.length cP):=by rw[cell_of_row w5 _ 1 _ _ _ hB5];rfl
  clear c4 fr4 O4 hR4 hB4;go_wp2_with (at_builtin;refine BB rfl _ _ rfl (w.heap.size+2) _ b.sn rfl O5 _ rfl b.AM (HP.out.keep K5) z1 z2 (by omega) ?_)
  intro v6 w6 O6 g6 _;have K6:AC w w6:=K5.grown g6 (fun k hk=>by have:=O5.ge k hk;omega);have hR6:w6.heap[w.heap.size+1]? = some (.cells #[.slice a4 b.sn.length x4] 28 (0,0)):=(g6.block _ (by omega) (fun e=>by have:=O5.ge _ e.symm;omega)).trans hS5;clear hS5 hB5 O5 f1 g6 hc4;generalize b.sn++b.AM=out at O6 HE;obtain⟨a6,x6,rfl,-⟩:=id O6.rd;obtain⟨hc,-,O7,K7,c6,fr6⟩:=Qq O6 K6 hR6;clear hR6 O6;go_wp2;refine leaves_cons (f:=96) (args:=#[.pointer (some ⟨w.heap.size+1,0,none⟩)]) (by simp) (by simp[go_sem]) ?_;refine (Z6 _ _).mono ?_;rintro e u' w9 ⟨rfl,rfl,rfl⟩;simp[Leaves,settle,results,Tryz.results65,go_sem,hc];exact⟨by rw[HE.out];exact O7.Az (by omega),K7⟩
noncomputable def QE (w:World) (g:Nat) (k x:Value):World:=match (Instr.mapUpdate 85 (.map (some g)) k x).run Tryz.prog w with | .ok _ w'=>w'|_=>w
theorem KN {w:World}{g:Nat}{b:Bd}(hk:∃kl,keyOf Tryz.prog 82 (Hg b)=some kl)(bv:BV)(hW:Wv w g #[] []):(Instr.mapUpdate 85 (.map (some g)) (Hg b) bv.agg).run Tryz.prog w = .ok () (QE w g (Hg b) bv.agg)/\(∃es',Wv (QE w g (Hg b) bv.agg) g es' [(bv,b)])/\w.grownBy (QE w g (Hg b) bv.agg) (some g):=by
 obtain⟨w',es',hrun,h1,h2⟩:=hW.put (by decide) hk bv;have e:QE w g (Hg b) bv.agg=w':=by unfold QE;rw[hrun]
 rw[e];exact⟨hrun,⟨es',h1⟩,h2⟩
theorem WP {w w':World}{r:Option Nat}(h:w.grownBy w' r){g j:Nat}(hg:g<w.heap.size)(hr:r≠some g):w'.cell? ⟨g,j,none⟩=w.cell? ⟨g,j,none⟩:=World.cell?_of_block (a:=⟨g,j,none⟩) (h.block g hg (fun e=>hr e.symm))
theorem gF {w w1 w2 w3 Wi:World}{ds:List (List Dd)}{b:Bd}{bv:BV}{q q':Nat}(K1:AC w w1)(hE:w1.heap[w.heap.size]? = some (.cells #[] 28 (0,0)))(s1:w1.heap.size=w.heap.size+1)(k2:AC w1 w2)(F:Cf w2 w1.heap.size w2.heap.size bv ds b)(k3:AC w2 w3)(hk:∃kl,keyOf Tryz.prog 82 (Hg b)=some kl)
  (I:Wv Wi q #[] []) (I':Wv Wi q' #[] []) (K:AC w3 Wi) (hq:w3.heap.size<=q) (hq':w3.heap.size<=q') (hne:q≠q'):∃es,MX w (QE Wi q (Hg b) bv.agg) ds (fun g=>w1.heap.size<=g/\g<w2.heap.size) (.slice (some ⟨w.heap.size,0,none⟩) 0 0) [] [] q q' es [(bv,b)]:=by
 obtain⟨-,⟨es,h1⟩,h2⟩:=KN hk bv I;exact⟨es,MX.new K1 hE s1 k2 F k3 (K.grown h2 (fun g e=>by have:=Option.some.inj e;omega)) h1 (I'.kept h2 (fun e=>hne (Option.some.inj e))) hne hq hq'⟩
theorem gG {w w1 w2 w3 Wi:World}{ds:List (List Dd)}{b:Bd}{bv:BV}{q:Nat}(K1:AC w w1)(hE:w1.heap[w.heap.size]? = some (.cells #[] 28 (0,0)))(s1:w1.heap.size=w.heap.size+1)(k2:AC w1 w2)(F:Cf w2 w1.heap.size w2.heap.size bv ds b)(k3:AC w2 w3)(hk:∃kl,keyOf Tryz.prog 82 (Hg b)=some kl)
  (I:Wv Wi q #[] []) (K:AC w3 Wi) (hq:w3.heap.size<=q):∃es,MX w (ZV (QE Wi q (Hg b) bv.agg)) ds (fun g=>w1.heap.size<=g/\g<w2.heap.size) (.slice (some ⟨w.heap.size,0,none⟩) 0 0) [] [] q (Xo (QE Wi q (Hg b) bv.agg)) es [(bv,b)]:=by
 obtain⟨-,⟨es,h1⟩,h2⟩:=KN hk bv I;have hl:=h1.lt;have z:=h2.size;have zk:=K.size;exact⟨es,MX.new K1 hE s1 k2 F k3 ((K.grown h2 (fun g e=>by have:=Option.some.inj e;omega)).trans (AY _)) (h1.keep (AY _)) (Wv.mk' _) (by unfold Xo;omega) hq (by unfold Xo;omega)⟩
structure Vd (S:Sy)(l:List (List Int)):Prop where
 ord:OW l
 all:∀e,e∈l↔∃b,S.R b/\S.en b=true/\e=An b
theorem iT (vs:List BV)(bs:List Bd):(VF vs bs bs.length).map (·.2)=bs:=by
 unfold VF;rw[List.map_map];apply List.ext_getElem (by simp);intro i h1 h2;rw[List.getElem_map,List.getElem_range];show bs.getD i MV=_;rw[List.getD_eq_getElem?_getD,List.getElem?_eq_getElem h2];rfl
theorem Sz.ends {ds:List (List Dd)}{S:Sy}(C:vC ds S){n:Int}{dn lx:List Bd}{E:List (List Int)}(D:FI S n dn lx E):E.length<=78125/\∀i,i<E.length->(E.getD i []).length<=15:=by
 refine⟨C.fe E D.nd (fun z hz=>by obtain⟨b,q1,q2,q3,_⟩:=D.e1 z hz;exact⟨b,q1,q2,q3⟩),fun i hi=>?_⟩;have hm:E.getD i []∈E:=by rw[List.getD_eq_getElem?_getD,List.getElem?_eq_getElem hi];exact List.getElem_mem hi
 obtain⟨b,q1,q2,q3,_⟩:=D.e1 _ hm;rw[q3];exact C.sl q1 q2
theorem OO {E E':List (List Int)}(hp:E'.Perm E)(hn:E.Nodup)(hs:∀i j,i<j->j<E'.length->Bu (E'.getD j []) (E'.getD i [])=false):OW E':=by
 have hn':E'.Nodup:=hp.nodup_iff.2 hn;unfold OW;rw[List.pairwise_iff_getElem];intro i j hi hj hij;have q:=hs i j hij hj;have ei:E'.getD i []=E'[i]:=by rw[List.getD_eq_getElem?_getD,List.getElem?_eq_getElem hi];rfl
 have ej:E'.getD j []=E'[j]:=by rw[List.getD_eq_getElem?_getD,List.getElem?_eq_getElem hj];rfl
 rw[ei,ej] at q;rcases Gy E'[i] E'[j] with e|e|e
 . have:=(List.getElem_inj hn').1 e;omega
 . exact e
 . rw[e] at q;cases q
theorem Mo (w:World)(v:Value)(AA:List (List Dd))(h:JJ w v AA)(hx:AA.length<=1048576)(hm:∀i,i<AA.length->(AA.getD i []).length<=1048576){S:Sy}(ok:Ks S)(Z:RK (MG AA) S)(C:vC (MG AA) S)(hb0:S.b0=OG AA)(g:Nat)(hg:g=31\/g=32)(CA:S9 g (MG AA) S):
  Calls Tryz.prog 30 #[v,.func (Fn.func g) #[] #[]] w fun e w'=>∃v' hs l,e = .returned v'/\DM 28 Bn w' w.heap.size v' hs l/\Vd S l/\AC w w':=by
 have XO:=Lib.hid ok;have XZ:=Lib.hid Z;have XC:=Lib.hid C;have XA:=Lib.hid CA;have XG:=Lib.hid hg;have XB:=Lib.hid hb0;have CN:=fun (W:World) (kW:AC w W)=>LD W v AA (h.keep kW) hx hm
 obtain⟨aD,cD,rfl,-⟩:=id h;obtain⟨w1,hw1⟩:∃W:World,W=w.alloc (.cells #[] 28):=⟨_,rfl⟩;have K1:AC w w1:=by rw[hw1];exact (AC.refl w).alloc _
 have s1:w1.heap.size=w.heap.size+1:=by rw[hw1,AD]
 have hE1:w1.heap[w.heap.size]? = some (.cells #[] 28 (0,0)):=by rw[hw1];exact heap_alloc_new _ _
 clear h hm ok Z C hb0 CA hg;go_enter Tryz.func30,Tryz.ntmps30
 go_upto_region 2 with fail
 rw[<-hw1];clear hw1;go_wp2_with fail
 refine (CN _ K1).mono ?_;rintro e w2 ⟨bv,rfl,F2,k2⟩;obtain⟨ds,hds⟩:∃ds,ds=MG AA:=⟨_,rfl⟩;obtain⟨b0,hb0⟩:∃b0,b0=OG AA:=⟨_,rfl⟩;rw[<-hds] at XZ XC XA F2;rw[<-hb0] at XB F2;clear hds hb0 CN;obtain⟨uW,uP,uL,uN,uX,uS,uF,uR,Vb,VX,VV,VW,Vc,Va,VU,VY,rfl⟩:=F2.rd.shapes;obtain⟨w3,hw3⟩:∃W:World,W=w2.alloc (.cells #[.slice uW ds.length Vb,.slice uP b0.AM.length VX,.slice uL b0.AO.length VV,.slice uN b0.AG.length VW,.slice uX b0.AL.length Vc,.slice uS b0.sn.length Va,.slice uF b0.fr.length VU,.slice uR b0.rws.length VY] 36):=⟨_,rfl⟩;have k3:AC w2 w3:=by rw[hw3];exact (AC.refl w2).alloc _
 have hD3:w3.heap[w2.heap.size]? = some (.cells #[.slice uW ds.length Vb,.slice uP b0.AM.length VX,.slice uL b0.AO.length VV,.slice uN b0.AG.length VW,.slice uX b0.AL.length Vc,.slice uS b0.sn.length Va,.slice uF b0.fr.length VU,.slice uR b0.rws.length VY] 36 (0,0)):=by rw[hw3];exact heap_alloc_new _ _
 have s3:w3.heap.size=w2.heap.size+1:=by rw[hw3,AD]
 have hR0:S.R b0:=by have:=XO.out.new.1;rw[XB.out] at this;exact this
 have key0:=ZN (XZ.out.one hR0);have st0:=(XZ.out.one hR0).st;go_upto_region 3 with fail
 rw[<-hw3];clear hw3;have xI:=Lib.hid K1;have xY:=Lib.hid k2;have oJ:=Lib.hid k3;have XE:=Lib.hid hE1;have XF:=Lib.hid F2;have XR:=Lib.hid hR0;have XD:=Lib.hid hD3;have mkr:∀(t:TypeId) (w:World),(Instr.makeMap t none).run Tryz.prog w = .ok (.map (some (Xo w))) (ZV w):=mU;have kd:AC w3 w3.drew:=(AC.refl w3).drew;have c0:(w3.drew).cell? ⟨w2.heap.size,0,none⟩=some (.slice uW ds.length Vb):=by rw[show (w3.drew).cell? ⟨w2.heap.size,0,none⟩=w3.cell? ⟨w2.heap.size,0,none⟩ from rfl,cell_of_row _ _ 0 _ _ _ hD3];rfl
 have c1:(w3.drew).cell? ⟨w2.heap.size,1,none⟩=some (.slice uP b0.AM.length VX):=by rw[show (w3.drew).cell? ⟨w2.heap.size,1,none⟩=w3.cell? ⟨w2.heap.size,1,none⟩ from rfl,cell_of_row _ _ 1 _ _ _ hD3];rfl
 have c2:(w3.drew).cell? ⟨w2.heap.size,2,none⟩=some (.slice uL b0.AO.length VV):=by rw[show (w3.drew).cell? ⟨w2.heap.size,2,none⟩=w3.cell? ⟨w2.heap.size,2,none⟩ from rfl,cell_of_row _ _ 2 _ _ _ hD3];rfl
 have c3:(w3.drew).cell? ⟨w2.heap.size,3,none⟩=some (.slice uN b0.AG.length VW):=by rw[show (w3.drew).cell? ⟨w2.heap.size,3,none⟩=w3.cell? ⟨w2.heap.size,3,none⟩ from rfl,cell_of_row _ _ 3 _ _ _ hD3];rfl
 have c4:(w3.drew).cell? ⟨w2.heap.size,4,none⟩=some (.slice uX b0.AL.length Vc):=by rw[show (w3.drew).cell? ⟨w2.heap.size,4,none⟩=w3.cell? ⟨w2.heap.size,4,none⟩ from rfl,cell_of_row _ _ 4 _ _ _ hD3];rfl
 have c5:(w3.drew).cell? ⟨w2.heap.size,5,none⟩=some (.slice uS b0.sn.length Va):=by rw[show (w3.drew).cell? ⟨w2.heap.size,5,none⟩=w3.cell? ⟨w2.heap.size,5,none⟩ from rfl,cell_of_row _ _ 5 _ _ _ hD3];rfl
 have c6:(w3.drew).cell? ⟨w2.heap.size,6,none⟩=some (.slice uF b0.fr.length VU):=by rw[show (w3.drew).cell? ⟨w2.heap.size,6,none⟩=w3.cell? ⟨w2.heap.size,6,none⟩ from rfl,cell_of_row _ _ 6 _ _ _ hD3];rfl
 have c7:(w3.drew).cell? ⟨w2.heap.size,7,none⟩=some (.slice uR b0.rws.length VY):=by rw[show (w3.drew).cell? ⟨w2.heap.size,7,none⟩=w3.cell? ⟨w2.heap.size,7,none⟩ from rfl,cell_of_row _ _ 7 _ _ _ hD3];rfl
 have c8:w2.heap.size<(w3.drew).heap.size:=by show w2.heap.size<w3.heap.size;omega
 have R8:∀(W:World) (q:Nat),Wv W q #[] []->(Instr.mapUpdate 85 (.map (some q)) (Hg b0) (.agg #[.slice uW ds.length Vb,.slice uP b0.AM.length VX,.slice uL b0.AO.length VV,.slice uN b0.AG.length VW,.slice uX b0.AL.length Vc,.slice uS b0.sn.length Va,.slice uF b0.fr.length VU,.slice uR b0.rws.length VY])).run Tryz.prog W = .ok () (QE W q (Hg b0) (.agg #[.slice uW ds.length Vb,.slice uP b0.AM.length VX,.slice uL b0.AO.length VV,.slice uN b0.AG.length VW,.slice uX b0.AL.length Vc,.slice uS b0.sn.length Va,.slice uF b0.fr.length VU,.slice uR b0.rws.length VY])):=fun W q hW=>(KN key0 ⟨.slice uW ds.length Vb,.slice uP b0.AM.length VX,.slice uL b0.AO.length VV,.slice uN b0.AG.length VW,.slice uX b0.AL.length Vc,.slice uS b0.sn.length Va,.slice uF b0.fr.length VU,.slice uR b0.rws.length VY⟩ hW).1
 have wv0:∀W:World,Wv (ZV W) (Xo W) #[] []:=Wv.mk';have wv1:∀(W:World) (q:Nat),Wv W q #[] []->Wv (ZV W) q #[] []:=fun W q h=>h.keep (AY W)
 clear K1 k2 k3 hE1 F2 hR0 hD3;go_cut [8,9] from 12 (fun s8 s9 wx=>∃bn bx es,s8 = .map (some bn)/\s9 = .map (some bx)/\MX w wx ds (fun g=>w1.heap.size<=g/\g<w2.heap.size) (.slice (some ⟨w.heap.size,0,none⟩) 0 0) [] [] bn bx es [(⟨.slice uW ds.length Vb,.slice uP b0.AM.length VX,.slice uL b0.AO.length VV,.slice uN b0.AG.length VW,.slice uX b0.AL.length Vc,.slice uS b0.sn.length Va,.slice uF b0.fr.length VU,.slice uR b0.rws.length VY⟩,b0)])
 case first=>
  go_wp2_with fail
  go_region_held3 (fun w'=>w'.cell? ⟨w2.heap.size,0,none⟩=some (.slice uW ds.length Vb)/\w'.cell? ⟨w2.heap.size,1,none⟩=some (.slice uP b0.AM.length VX)/\w'.cell? ⟨w2.heap.size,2,none⟩=some (.slice uL b0.AO.length VV)/\w'.cell? ⟨w2.heap.size,3,none⟩=some (.slice uN b0.AG.length VW)/\w'.cell? ⟨w2.heap.size,4,none⟩=some (.slice uX b0.AL.length Vc)/\w'.cell? ⟨w2.heap.size,5,none⟩=some (.slice uS b0.sn.length Va)/\w'.cell? ⟨w2.heap.size,6,none⟩=some (.slice uF b0.fr.length VU)/\w'.cell? ⟨w2.heap.size,7,none⟩=some (.slice uR b0.rws.length VY)/\w2.heap.size<w'.heap.size)
   (first|(go_split_ands;first|(refine⟨?_,?_,?_,?_,?_,?_,?_,?_,?_⟩<;>(go_keep;done))|(refine⟨?_,?_,?_,?_,?_,?_,?_,?_,?_⟩<;>first|(rw[(AY _).cell (by assumption)];assumption)|(rw[DA];omega))|(refine⟨?_,?_,?_,?_,?_,?_,?_,?_,?_⟩<;>first|(rw[kk.cell (by assumption)];assumption)|(exact Nat.lt_of_lt_of_le (by assumption) kk.size))|(refine⟨?_,?_,?_,?_,?_,?_,?_,?_,?_⟩<;>first|(rw[WP (KN key0 ⟨.slice uW ds.length Vb,.slice uP b0.AM.length VX,.slice uL b0.AO.length VV,.slice uN b0.AG.length VW,.slice uX b0.AL.length Vc,.slice uS b0.sn.length Va,.slice uF b0.fr.length VU,.slice uR b0.rws.length VY⟩ (by first|exact Wv.mk' _|exact (Wv.mk' _).keep (AY _)|exact (Wv.mk' _).keep kk|exact ((Wv.mk' _).keep kk).keep (AY _)|exact ((Wv.mk' _).keep (AY _)).keep kk)).2.2 (by assumption) (by simp only[ne_eq,Option.some.injEq,Xo,DA];omega)];assumption)|(exact Nat.lt_of_lt_of_le (by assumption) (KN key0 ⟨.slice uW ds.length Vb,.slice uP b0.AM.length VX,.slice uL b0.AO.length VV,.slice uN b0.AG.length VW,.slice uX b0.AL.length Vc,.slice uS b0.sn.length Va,.slice uF b0.fr.length VU,.slice uR b0.rws.length VY⟩ (by first|exact Wv.mk' _|exact (Wv.mk' _).keep (AY _)|exact (Wv.mk' _).keep kk|exact ((Wv.mk' _).keep kk).keep (AY _)|exact ((Wv.mk' _).keep (AY _)).keep kk)).2.2.size)))|(go_keep;done))
   ((first|(go_at_call 63;refine (L7 _ ⟨.slice uW ds.length Vb,.slice uP b0.AM.length VX,.slice uL b0.AO.length VV,.slice uN b0.AG.length VW,.slice uX b0.AL.length Vc,.slice uS b0.sn.length Va,.slice uF b0.fr.length VU,.slice uR b0.rws.length VY⟩ ds b0 (by first|exact XF.out.rd.keep (oJ.out.trans kd)|exact (XF.out.rd.keep (oJ.out.trans kd)).keep (AY _)|exact ((XF.out.rd.keep (oJ.out.trans kd)).keep (AY _)).keep (AY _)) st0).mono ?_;rintro e wz ⟨rfl,kk⟩;have wv2:=(fun (q:Nat) (h:Wv _ q #[] [])=>Wv.keep h kk);(try have a1:=R8 _ _ (wv2 _ (wv0 w3.drew)));(try have a2:=R8 _ _ (wv1 _ _ (wv2 _ (wv0 w3.drew))));(try have b1:=R8 _ _ (wv2 _ (wv1 _ _ (wv0 w3.drew))));(try have b2:=R8 _ _ (wv2 _ (wv0 (ZV w3.drew))));have hz8:w2.heap.size<wz.heap.size:=(by have q:=kk.size;(try simp only[DA] at q);omega);have d1:=R8 _ _ (wv0 wz);have d2:=R8 _ _ (wv1 _ _ (wv0 wz));have d3:=R8 _ _ (wv0 (ZV wz)))|fail))
  all_goals
   go_wp2;go_meet;refine Exists.elim (α:=Array MapEntry) (by first|exact gF (bv:=⟨.slice uW ds.length Vb,.slice uP b0.AM.length VX,.slice uL b0.AO.length VV,.slice uN b0.AG.length VW,.slice uX b0.AL.length Vc,.slice uS b0.sn.length Va,.slice uF b0.fr.length VU,.slice uR b0.rws.length VY⟩) xI.out XE.out s1 xY.out XF.out oJ.out key0 (by first|exact Wv.mk' _|exact (Wv.mk' _).keep (AY _)|exact (Wv.mk' _).keep kk|exact ((Wv.mk' _).keep kk).keep (AY _)|exact ((Wv.mk' _).keep (AY _)).keep kk) (by first|exact Wv.mk' _|exact (Wv.mk' _).keep (AY _)|exact (Wv.mk' _).keep kk|exact ((Wv.mk' _).keep kk).keep (AY _)|exact ((Wv.mk' _).keep (AY _)).keep kk) (by first|exact kd.trans kk|exact (kd.trans kk).trans (AY _)|exact ((kd.trans kk).trans (AY _)).trans (AY _)|exact kd.trans ((AY _).trans kk)|exact (kd.trans ((AY _).trans kk)).trans (AY _)|exact ((kd.trans ((AY _).trans kk)).trans (AY _)).trans (AY _)|exact kd.trans ((AY _).trans ((AY _).trans kk))|exact (kd.trans ((AY _).trans ((AY _).trans kk))).trans (AY _)|exact ((kd.trans ((AY _).trans ((AY _).trans kk))).trans (AY _)).trans (AY _)) (by have q:=kk.size;(try simp only[DA] at q);(try simp only[A7] at q);(try simp only[Xo]);(try simp only[DA]);(try simp only[A7]);omega) (by have q:=kk.size;(try simp only[DA] at q);(try simp only[A7] at q);(try simp only[Xo]);(try simp only[DA]);(try simp only[A7]);omega) (by have q:=kk.size;(try simp only[DA] at q);(try simp only[A7] at q);(try simp only[Xo]);(try simp only[DA]);(try simp only[A7]);omega)|exact gG (bv:=⟨.slice uW ds.length Vb,.slice uP b0.AM.length VX,.slice uL b0.AO.length VV,.slice uN b0.AG.length VW,.slice uX b0.AL.length Vc,.slice uS b0.sn.length Va,.slice uF b0.fr.length VU,.slice uR b0.rws.length VY⟩) xI.out XE.out s1 xY.out XF.out oJ.out key0 (by first|exact Wv.mk' _|exact (Wv.mk' _).keep (AY _)|exact (Wv.mk' _).keep kk|exact ((Wv.mk' _).keep kk).keep (AY _)|exact ((Wv.mk' _).keep (AY _)).keep kk) (by first|exact kd.trans kk|exact (kd.trans kk).trans (AY _)|exact ((kd.trans kk).trans (AY _)).trans (AY _)|exact kd.trans ((AY _).trans kk)|exact (kd.trans ((AY _).trans kk)).trans (AY _)|exact ((kd.trans ((AY _).trans kk)).trans (AY _)).trans (AY _)|exact kd.trans ((AY _).trans ((AY _).trans kk))|exact (kd.trans ((AY _).trans ((AY _).trans kk))).trans (AY _)|exact ((kd.trans ((AY _).trans ((AY _).trans kk))).trans (AY _)).trans (AY _)) (by have q:=kk.size;(try simp only[DA] at q);(try simp only[A7] at q);(try simp only[Xo]);(try simp only[DA]);(try simp only[A7]);omega)) (fun es hO=>⟨_,_,es,rfl,rfl,hO⟩)
 obtain⟨bn,bx,es,rfl,rfl,O1⟩:=hcut
 have G1:GJ S 0 (([(⟨.slice uW ds.length Vb,.slice uP b0.AM.length VX,.slice uL b0.AO.length VV,.slice uN b0.AG.length VW,.slice uX b0.AL.length Vc,.slice uS b0.sn.length Va,.slice uF b0.fr.length VU,.slice uR b0.rws.length VY⟩,b0)]:List (BV×Bd)).map (·.2)):=by
  have q:=WM XO.out;rw[XB.out] at q;exact q
 have D1:=WB XO.out;obtain⟨i0,hi,hz0,hz1,hz2⟩:=info_parts Tryz.QC;clear xI xY oJ XE XF XR XD mkr R8 wv0 wv1 c0 c1 c2 c3 c4 c5 c6 c7 c8 kd key0 st0;go_wp2;go_loopg [5,8,9,11] 26 (fun k s5 s8 s9 _ wr=>∃(n:Nat) (P:Nat->Prop) (ve:Value) (hs:List Value) (E:List (List Int)) (bn bx:Nat) (es:Array MapEntry) (l:List (BV×Bd)),ve=s5/\s8 = .map (some bn)/\s9 = .map (some bx)/\26-n=k/\n<=25/\MX w wr ds P ve hs E bn bx es l/\GJ S (n:Int) (l.map (·.2))/\FI S (n:Int) [] [] E)
 case atStart=>exact⟨0,_,_,_,_,bn,bx,es,_,rfl,rfl,rfl,rfl,by omega,O1,G1,D1⟩
 case round=>
  clear O1 G1 D1;obtain⟨n,P,ve,hs,E,bn,bx,es,l,rfl,rfl,rfl,hk,hn,O,G,D⟩:=hrel;have hlen:=O.wn.len;have XK:=Lib.hid hk;obtain⟨hE1,hE2⟩:=Sz.ends XC.out D;clear hk;by_cases hz:es.size=0
  ·
   have hl:l=[]:=by
    cases l with
    |nil=>rfl
    |cons p l=>
     obtain⟨x,hx,_⟩:=O.wn.vJ p (by simp);have:es=#[]:=Array.eq_empty_of_size_eq_zero hz;rw[this] at hx;simp at hx
   subst hl;have hz':¬(0:Int)<(es.size:Int):=by omega
   have CS:=Qr wr _ ve hs E O.en O.nz (by omega) (fun i hi=>by have:=hE2 i hi;omega);have XF:=Lib.hid (D.YJ XO.out (by omega) G);have XN:=Lib.hid D.nd;have xM:=Lib.hid O.K;have XB:=Lib.hid (fun q (hq:ve.ownBlock=some q)=>(O.en.Ai.lt (i:=none) trivial q hq).1);clear O G D hE1 hE2;go_wp2_with fail
   refine CS.mono ?_;rintro e wf ⟨rfl,hs',E',O',hp,hso,hg⟩;have XE:=Lib.hid (show Vd S E' from ⟨OO hp XN.out hso,fun e=>by rw[hp.mem_iff];exact XF.out e⟩);have XO':=Lib.hid O';have XG':=Lib.hid hg;clear CS hp hso O' hg hlen;go_wp2;go_ret;exact⟨_,hs',E',rfl,XO'.out,XE.out,xM.out.grown XG'.out (fun q hq=>XB.out q hq)⟩
  ·
   have hz':(0:Int)<(es.size:Int):=by omega
   have hzd:decide (0<es.size)=true:=decide_eq_true (by omega);have hzn:0<es.size:=by omega
   have hn24:n<=24:=by
    have hl:l≠[]:=fun e=>by
     subst e
     have:es.toList=[]:=by
      cases h:es.toList with
      |nil=>rfl
      |cons x r=>
       obtain⟨p,hp,_⟩:=O.wn.lU x (by rw[h];simp);cases hp
     apply hz;rw[<-Array.length_toList,this];rfl
    have:=G.top XO.out (by simpa using hl);omega
   obtain⟨c,hb,I0⟩:=O.range;have hrg:=run_range_map (P:=Tryz.prog) wr 85 82 36 bn es c Tryz.underlying85 hb;obtain⟨r,hr⟩:∃r,r=wr.heap.size:=⟨_,rfl⟩;obtain⟨wa,Ti⟩:∃W:World,W=wr.alloc (.mapIter (some bn) c #[] c):=⟨_,rfl⟩;rw[<-hr,<-Ti] at hrg I0;have J0:=Sz.new (es:=es) (by omega) G D;have XHZ:=Lib.hid hz;clear O G D hE1 hE2 hb hr Ti hz;obtain⟨wo,rfl⟩:∃wo:World,wo=wr:=⟨_,rfl⟩;go_wp2;clear hrg hlen hz';go_loopg [5,11] (leftOf es #[]).size (fun k s5 _ wq=>∃(P:Nat->Prop) (ve:Value) (hs:List Value) (E:List (List Int)) (Nr:Array MapEntry) (lx:List (BV×Bd)) (seen:Array Nat) (dn:List Bd),ve=s5/\(leftOf es seen).size=k/\Lk w wq ds P ve hs E bn bx r es l Nr lx seen/\Sz S (n:Int) es l seen dn lx E)
   case atStart=>exact⟨_,_,_,_,_,_,_,_,rfl,rfl,I0,J0⟩
   case round=>
    clear I0 J0;obtain⟨P,ve,hs,E,Nr,lx,seen,dn,rfl,hk,I,J⟩:=hrel;have XJ:=Lib.hid J;have XKK:=Lib.hid hk;clear J hk;rcases I.next with ⟨h0,hnx⟩|⟨x,p,w5,hxe,hxs,hpl,hxk,hlt,hnx,hen,I5⟩
    ·
     obtain⟨w6,hcl,O6⟩:=I.clear;have XN:=Lib.hid (XJ.out.end XO.out XZ.out I.wn h0)
     have XM:Hid (GJ S ((n+1:Nat):Int) (lx.map (·.2))/\FI S ((n+1:Nat):Int) [] [] E):=Lib.hid (by
      have q:=XN.out
      rwa [show ((n:Int)+1)=((n+1:Nat):Int) by omega] at q)
     have XO6:=Lib.hid O6;clear I h0 O6 XN;go_wp2;go_roundg (26-(n+1))
     case measure=>rw[<-XK.out];omega
     case rel=>exact⟨n+1,P,ve,hs,E,bx,bn,Nr,lx,rfl,rfl,rfl,rfl,by omega,XO6.out,XM.out.1,XM.out.2⟩
    ·
     obtain⟨hR,htm⟩:=XJ.out.one hpl;have hH:=I5.held p hpl;have XP:=Lib.hid (And.intro hxe (And.intro hxs (And.intro hpl (And.intro hxk hlt))));have xH:=Lib.hid I5;have XPW:=Lib.hid (And.intro I.wn.pw I.wn.nd);obtain⟨bp,bd⟩:=p;simp only at hR htm hH hnx hen hxk XP;obtain⟨bW,bP,bL,bN,bX,bS,bF,bR,dW,dP,dL,dN,dX,dS,dF,dR,rfl⟩:=hH.rd.shapes;have XH:=Lib.hid hH;have dz:=Lib.hid hR;clear hH hR I I5 hxe hxs hpl hxk hlt;obtain⟨w6,hw6⟩:∃W:World,W=w5.alloc (.cells #[.slice bW ds.length dW,.slice bP bd.AM.length dP,.slice bL bd.AO.length dL,.slice bN bd.AG.length dN,.slice bX bd.AL.length dX,.slice bS bd.sn.length dS,.slice bF bd.fr.length dF,.slice bR bd.rws.length dR] 36):=⟨_,rfl⟩;have k6:AC w5 w6:=by rw[hw6];exact (AC.refl w5).alloc _
     have d6:w6.heap[w5.heap.size]? = some (.cells #[.slice bW ds.length dW,.slice bP bd.AM.length dP,.slice bL bd.AO.length dL,.slice bN bd.AG.length dN,.slice bX bd.AL.length dX,.slice bS bd.sn.length dS,.slice bF bd.fr.length dF,.slice bR bd.rws.length dR] 36 (0,0)):=by rw[hw6];exact heap_alloc_new _ _
     have s6:w5.heap.size<w6.heap.size:=by rw[hw6,AD];omega
     obtain⟨D,hDe⟩:∃D,D=w5.heap.size:=⟨_,rfl⟩;have XQ:Hid (∀q,ve.ownBlock=some q->q≠D):=Lib.hid (fun q hq e=>by have:=(xH.out.en.Ai.lt (i:=none) trivial q hq).2;omega);have XI6:=Lib.hid (xH.out.keep k6);have xE:=Lib.hid (XH.out.on (Au.Bq k6));go_upto_region 8 with fail
     rw[<-hw6,<-hDe];rw[<-hDe] at d6 s6;clear hw6 hDe k6 hnx hen xH XH;have CE:=N2 w6 _ ds bd xE.out.rd (XC.out.sz dz.out);rw[XC.out.en dz.out] at CE;obtain⟨tt,zI⟩:∃tt,tt=S.en bd:=⟨_,rfl⟩;rw[<-zI] at CE;have XT:=Lib.hid zI;clear zI;go_wp2_with (first|refine wpList_load_row rfl 36 _ rfl D rfl 36 _ (0,0) _ d6 Tryz.underlying36 rfl AK ?_|fail)
     refine CE.mono ?_;rintro e w7 ⟨rfl,k7⟩;have bE:=Lib.hid (XI6.out.keep k7);have vE:=Lib.hid (xE.out.on (Au.Bq k7));have d7:=(Below.block k7 D s6).trans d6;have s7:=Nat.lt_of_lt_of_le s6 k7.size;clear CE d6 s6 XI6 xE k7;go_upto_if 34 with fail
     go_cut [5] from 35 to 44 (fun s5 wx=>∃(v':Value) (hs':List Value),v'=s5/\Lk w wx ds P v' hs' (if S.en bd=true then E++[An bd] else E) bn bx r es l Nr lx (seen.push x.born)/\C4 wx P ⟨.slice bW ds.length dW,.slice bP bd.AM.length dP,.slice bL bd.AO.length dL,.slice bN bd.AG.length dN,.slice bX bd.AL.length dX,.slice bS bd.sn.length dS,.slice bF bd.fr.length dF,.slice bR bd.rws.length dR⟩ ds bd/\wx.heap[D]? = some (.cells #[.slice bW ds.length dW,.slice bP bd.AM.length dP,.slice bL bd.AO.length dL,.slice bN bd.AG.length dN,.slice bX bd.AL.length dX,.slice bS bd.sn.length dS,.slice bF bd.fr.length dF,.slice bR bd.rws.length dR] 36 (0,0)))
     case first=>
      cases tt with
      |true=>
       have CS:=Ja w7 _ ds bd vE.out.rd (XC.out.sz dz.out);rw[XC.out.sh dz.out XT.out.symm] at CS;have XEN:Hid (S.en bd=true):=Lib.hid XT.out.symm;clear XT;go_wp2_with (first|refine wpList_load_row rfl 36 _ rfl D rfl 36 _ (0,0) _ d7 Tryz.underlying36 rfl AK ?_|fail)
       refine CS.mono ?_;rintro e w8 ⟨u,rfl,OU,k8⟩;obtain⟨au,cu,rfl,-⟩:=OU.rd;have k9:AC w8 (w8.alloc (.cells #[.slice au (An bd).length cu] 28)):=(AC.refl w8).alloc _;have hN:=heap_alloc_new w8 (.cells #[.slice au (An bd).length cu] 28);obtain⟨w9,hw9⟩:∃W:World,W=w8.alloc (.cells #[.slice au (An bd).length cu] 28):=⟨_,rfl⟩;rw[<-hw9] at hN k9;have k79:=k8.trans k9;have hrow:w9.ownsRow w.heap.size 28 1 ve hs.length hs:=World.ownsRow.kept (bE.out.en.Ai.own none trivial) k79.grownBy (Classical.em (ve.ownBlock=none));have hlen:hs.length<=78125:=by rw[bE.out.en.len];exact (Sz.ends XC.out XJ.out.done).1
       have hbs:w.heap.size<=w9.heap.size:=Nat.le_trans bE.out.K.size k79.size;have s9:w9.heap.size=w8.heap.size+1:=by rw[hw9,AD]
       clear CS;go_wp2_with ((at_builtin;rw[<-hw9];refine wpList_append_own_at _ rfl _ _ 26 rfl w.heap.size 28 i0 (.slice none 0 0) 1 24 Tryz.underlying26 hi hz0 hz1 hz2 rfl (by decide) _ _ _ rfl hrow ⟨w8.heap.size,0,none⟩ 1 1 [.slice au (An bd).length cu] rfl rfl (World.news_of_block (cs:=#[.slice au (An bd).length cu]) (t:=28) (fr:=(0,0)) hN) (by simp[Value.oneCell']) ?e3 ?e4 ?e5 ?_))
       case e3=>unfold maxLen;omega
       case e4=>omega
       case e5=>exact hbs
       intro v10 w10 hown10 hgrow10 hnil hblk10;rw[<-hw9] at hgrow10;have XW:=Lib.hid (And.intro hown10 (And.intro hgrow10 (And.intro hnil hblk10)));have Vg:=Lib.hid (And.intro k79 (And.intro OU k9));clear hown10 hgrow10 hnil hblk10 hrow hN hw9 k79 k8 k9 OU;go_wp2;go_meet;refine⟨_,hs++[.slice au (An bd).length cu],rfl,?_,?_,?_⟩
       ·
        rw[if_pos XEN.out];exact bE.out.push Vg.out.1 (Vg.out.2.1.keep Vg.out.2.2) XW.out.2.1 (by rw[s9];exact XW.out.2.2.2) XW.out.1 (fun e=>XW.out.2.2.1 e)
       . exact (vE.out.on (Au.Bq Vg.out.1)).on (Au.Cx XW.out.2.1 (fun q hq=>bE.out.nE q hq))
       . exact (XW.out.2.1.block D (Nat.lt_of_lt_of_le s7 Vg.out.1.size) (fun e=>XQ.out D e.symm rfl)).trans ((Below.block Vg.out.1 D s7).trans d7)
      |false=>
       go_wp2;go_meet;exact⟨_,hs,rfl,by rw[if_neg (by rw[<-XT.out];simp)];exact bE.out,vE.out,d7⟩
     clear d7 s7 bE vE XQ XT;obtain⟨v7,hs7,rfl,I7,H7,d7⟩:=hcut;have CA:=XA.out wc _ bd dz.out H7.rd;have bE:=Lib.hid I7;have XG2:=XG.out;clear I7 H7;rcases XG2 with rfl|rfl
     all_goals
      go_wp2_with (first|refine wpList_load_row rfl 36 _ rfl D rfl 36 _ (0,0) _ d7 Tryz.underlying36 rfl AK ?_|fail)
      refine CA.mono ?_;rintro e w8 ⟨v8,rfl,⟨vs,P2,hSt,hlow⟩,k8⟩;have I8:=bE.out.wide k8 hlow;have zA:=bE.out.wx.lt;have CT:=aH w8 bx _ Nr lx v8 vs ds _ P2 XZ.out I8.wx (fun q hq=>XJ.out.AL XO.out hq) (fun q hq=>(XO.out.step dz.out hq).1) hSt (fun hp=>by have:=(hlow bx hp).1;omega) (fun e=>by have:=(hSt.lt bx e).1;omega) (by have:=XC.out.nl dz.out;omega);have XS:=Lib.hid (And.intro I8 (And.intro hSt k8));clear CA d7 I8 hSt k8 hlow zA;go_wp2_with fail
      refine CT.mono ?_;rintro e w9 ⟨rfl,⟨es9,W9⟩,G9⟩
      have I9:=Lib.hid (XS.out.1.put G9 W9 (fun q hq=>by
       rcases List.mem_append.1 hq with hq|hq
       . exact XS.out.1.Rx q hq
       ·
        obtain⟨j,hj,rfl,_⟩:=VG hq (Nat.le_refl _)
        exact (XS.out.2.1.each j hj).mono (fun _ => .inr)))
      have J9:=Lib.hid (XJ.out.step XO.out XPW.out.1 XPW.out.2 XP.out.1 XP.out.2.1 XP.out.2.2.1 XP.out.2.2.2.1 (iT vs (S.nx bd)));clear CT W9 G9;go_wp2;go_roundg (leftOf es (seen.push x.born)).size
      case measure=>rw[<-XKK.out];exact XP.out.2.2.2.2
      case rel=>exact⟨_,_,hs7,_,es9,_,_,_,rfl,rfl,I9.out,J9.out⟩
end Go.Proofs.YtnmelakgmgenjaaGreat
