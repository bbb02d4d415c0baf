/- Gathered texts. -/
import Derived.Test.YtgikcfdckddgpabGreatMA
import Derived.Test.YtgikcfdckddgpabGreatRows
import Derived.OpenShut
import Derived.Below
import Derived.WalkSmall
import Derived.Laws.Rows
import Derived.Laws.ResultCell
import Derived.Maps.AppendAt
import Derived.Laws.OwnMore
import Derived.OwnWalk
import Derived.Deep.RegionHeld3
set_option maxRecDepth 100000
set_option maxHeartbeats 8000000
namespace Go.Proofs.YtgikcfdckddgpabGreat
open Go
open Go.ChangeShapes Go.WideShapes Go.ChangeAt Go.RowKit
open Go.RowKit
def pwL (es:List Ev)(f rows:List Int):List Int:=mixL orI (mixL orI (plcL es) (fwL es f)) (mixL orI (rwL es rows) (agL es f rows))
def owP (es:List Ev)(i k:Nat):Bool:=decide (3≤i)&&decide (3≤k)&&((es.getD i zE).1==(es.getD k zE).1)
def owL (es:List Ev)(f:List Int):List Int:=offAll (owP es) es.length (fwL es f) es.length
def swL (dss:List (List Dd))(es:List Ev)(f rows:List Int):List Int:=mixL orI (mixL orI (kepL dss es) (owL es f)) (mixL orI (rwL es rows) (agL es f rows))
def xwL (es:List Ev)(f rows:List Int):List Int:=mixL orI (mixL orI (behL es) (fwL es f)) (mixL orI (rwL es rows) (agL es f rows))
def pwB (dss:List (List Dd))(f rows:List Int):List Int:=if taleB dss f rows=true then pwL (eventsB dss) f rows else []
def owB (dss:List (List Dd))(f:List Int):List Int:=if sourceB dss f=true then owL (eventsB dss) f else []
def swB (dss:List (List Dd))(f rows:List Int):List Int:=if taleB dss f rows=true then swL dss (eventsB dss) f rows else []
def xwB (dss:List (List Dd))(f rows:List Int):List Int:=if taleB dss f rows=true then xwL (eventsB dss) f rows else []
def eachB (dss:List (List Dd))(f rows:List Int):Bool:=taleB dss f rows&&!roundB (pwL (eventsB dss) f rows)
def slowB (dss:List (List Dd))(f rows:List Int):Bool:=taleB dss f rows&&(!roundB (pwL (eventsB dss) f rows)&&!roundB (liftL (swL dss (eventsB dss) f rows) (clsB (eventsB dss))))
def strictB (dss:List (List Dd))(f rows:List Int):Bool:=taleB dss f rows&&(!roundB (pwL (eventsB dss) f rows)&&!roundB (liftL (xwL (eventsB dss) f rows) (clsB (eventsB dss))))
theorem rd_in {es:List Ev}(hx:es.length≤12){i:Nat}(hi:i<(idxB rdE es).length):0≤(idxB rdE es).getD i 0∧(idxB rdE es).getD i 0<(es.length:Int):=idxB_range hx hi
theorem rd_nodup {es:List Ev}(hx:es.length≤12):(idxB rdE es).Nodup:=by
 unfold idxB;rw[if_pos hx];exact rises_nodup _ (idxK_rises rdE es _)
structure Webs (es:List Ev)(f rows:List Int):Prop where
 fw:Web es.length (fwL es f)
 rw':Web es.length (rwL es rows)
 ag:Web es.length (agL es f rows)
 fwl:∀a j:Nat,a<es.length→(line (fwL es f) a j=true↔∃i,i<(idxB rdE es).length∧f.getD i 0=(a:Int)∧(idxB rdE es).getD i 0=(j:Int))
 rwl:∀a b:Nat,a<es.length→(line (rwL es rows) a b=true↔∃i q,i<rows.length∧q<rows.length∧rwP es rows i q=true∧rows.getD i 0=(a:Int)∧rows.getD q 0=(b:Int))
 agl:∀a j:Nat,a<es.length→(line (agL es f rows) a j=true↔∃i,i<(idxB rdE es).length∧(idxB rdE es).getD i 0=(a:Int)∧line (rwL es rows) (f.getD i 0).toNat j=true)
theorem webs_of {es:List Ev}{f rows:List Int}(hx:es.length≤12)(hs:srcB (chcL es) f=true)(hr:rowsL es rows=true):Webs es f rows:=by
 obtain⟨sl,su⟩:=src_use hx hs;obtain⟨rn,_,ru⟩:=rows_use hx hr;have w1:=web_rwAll hx ru rows.length (Nat.le_refl _);have w2:=fw_line (n:=es.length) (rs:=idxB rdE es) (f:=f) hx (idxB rdE es).length (fun i hi=>rd_in hx hi) (fun i hi=>(su i hi).1);have w3:=web_ag (n:=es.length) (rs:=idxB rdE es) (f:=f) (row:=rwL es rows) hx (rd_nodup hx) w1.1 (idxB rdE es).length (Nat.le_refl _) (fun i hi=>rd_in hx hi) (fun i hi=>(su i hi).1);exact⟨w2.1,w1.1,w3.1,w2.2,w1.2,w3.2⟩
theorem web_four {n:Nat}{a b c d:List Int}(ha:Web n a)(hb:Web n b)(hc:Web n c)(hd:Web n d):Web n (mixL orI (mixL orI a b) (mixL orI c d)) ∧
  ∀i j,i<n→line (mixL orI (mixL orI a b) (mixL orI c d)) i j=(line a i j||line b i j||(line c i j||line d i j)):=by
 obtain⟨h1,l1⟩:=web_join ha hb;obtain⟨h2,l2⟩:=web_join hc hd;obtain⟨h3,l3⟩:=web_join h1 h2;exact⟨h3,fun i j hi=>by rw[l3 i j hi,l1 i j hi,l2 i j hi]⟩
theorem ow_line {es:List Ev}{f rows:List Int}(W:Webs es f rows):Web es.length (owL es f)∧∀a j:Nat,a<es.length→line (owL es f) a j=(line (fwL es f) a j&&!owP es a j):=by
 obtain⟨h1,h2⟩:=web_offAll (p:=owP es) W.fw es.length (Nat.le_refl _);refine⟨h1,fun a j ha=>?_⟩;unfold owL;rw[h2 a j ha]
 cases hl:line (fwL es f) a j with
 |false=>rfl
 |true=>
  have hj:=W.fw.lt ha hl;simp[ha,hj]
theorem mix_none (f:Int→Int→Int)(a:List Int):mixL f a []=[]:=by
 unfold mixL;split<;>simp
def chnL (a b c d:List Int):List Int:=mixL orI (mixL orI (mixL orI a b) c) d
theorem web_chn {n:Nat}{a b c d:List Int}(ha:Web n a)(hb:Web n b)(hc:Web n c)(hd:Web n d):chnL a b c d=mixL orI (mixL orI a b) (mixL orI c d):=by
 obtain⟨h1,l1⟩:=web_join ha hb;obtain⟨h2,l2⟩:=web_join h1 hc;obtain⟨h3,l3⟩:=web_join h2 hd;obtain⟨h4,l4⟩:=web_four ha hb hc hd;refine Web.ext h3 h4 (fun i j hi _=>?_);unfold chnL;rw[l4 i j hi,l3 i j hi,l2 i j hi,l1 i j hi,Bool.or_assoc]
theorem pw_chain (dss:List (List Dd))(f rows:List Int):chnL (plcL (eventsB dss)) (fwB dss f) (rwB dss rows) (agB dss f rows)=pwB dss f rows:=by
 cases hb:taleB dss f rows with
 |false=>
  rw[pwB,agB,hb];exact mix_none _ _
 |true=>
  obtain⟨hw,hs,hr⟩:=tale_use hb;have h12:=(events_law hw).1;have e1:eventsB dss=evsW dss dss.length:=by rw[eventsB,if_pos hw]
  rw[←e1] at h12;have W:=webs_of h12 hs hr;have hb2:=hb;unfold taleB at hb2;rw[Bool.and_eq_true] at hb2;rw[pwB,agB,if_pos hb,if_pos hb,fwB,if_pos hb2.1,rwB,if_pos hb2.2];exact web_chn (plc_line h12).1 W.fw W.rw' W.ag
def mixK (f:Int→Int→Int)(a b:List Int)(k:Nat):List Int:=(List.zipWith f a b).take k++a.drop k
theorem mixK_len (f:Int→Int→Int){a b:List Int}(h:a.length=b.length)(k:Nat):(mixK f a b k).length=a.length:=by
 unfold mixK;rw[List.length_append,List.length_take,List.length_zipWith,List.length_drop];omega
theorem mixK_get (f:Int→Int→Int){a b:List Int}(h:a.length=b.length){k:Nat}(hk:k<a.length):(mixK f a b k).getD k 0=a.getD k 0:=by
 unfold mixK;have hl:((List.zipWith f a b).take k).length=k:=by rw[List.length_take,List.length_zipWith];omega
 rw[List.getD_eq_getElem?_getD,List.getElem?_append_right (by omega),hl,Nat.sub_self,List.getElem?_drop,Nat.add_zero,List.getD_eq_getElem?_getD]
theorem mixK_set (f:Int→Int→Int){a b:List Int}(h:a.length=b.length){k:Nat}(hk:k<a.length):(mixK f a b k).set k (f (a.getD k 0) (b.getD k 0))=mixK f a b (k+1):=by
 unfold mixK;have hz:k<(List.zipWith f a b).length:=by rw[List.length_zipWith];omega
 have hl:((List.zipWith f a b).take k).length=k:=by rw[List.length_take];omega
 rw[List.set_append_right _ _ (by omega),hl,Nat.sub_self,List.drop_eq_getElem_cons hk,List.set_cons_zero,List.take_succ_eq_append_getElem hz,List.append_assoc]
 congr 1
 rw[List.getElem_zipWith,List.getD_eq_getElem?_getD,List.getD_eq_getElem?_getD,List.getElem?_eq_getElem hk,List.getElem?_eq_getElem (show k<b.length by omega)];rfl
theorem mixK_end (f:Int→Int→Int){a b:List Int}(h:a.length=b.length):mixK f a b a.length=List.zipWith f a b:=by
 unfold mixK;rw[List.drop_length,List.append_nil,List.take_of_length_le (by rw[List.length_zipWith];omega)]
def Keep (w w':World):Prop:=Below w.heap.size w w'
theorem Keep.refl (w:World):Keep w w:=Below.refl _ _
theorem Keep.size {w w':World}(h:Keep w w'):w.heap.size≤w'.heap.size:=Below.size h
theorem Keep.trans {a b c:World}(h:Keep a b)(k:Keep b c):Keep a c:=Below.trans h (Below.mono k h.size)
theorem Keep.drew {a w:World}(h:Keep a w):Keep a w.drew:=Below.drew h
theorem Keep.drewN {a w:World}(h:Keep a w)(n:Nat):Keep a (w.drewN n):=below_drewN h n
theorem Keep.alloc {a w:World}(h:Keep a w)(o:Obj):Keep a (w.alloc o):=Below.alloc h h.size o
theorem Keep.grown {a w w':World}{row:Option Nat}(h:Keep a w)(hg:w.grownBy w' row)(hr:∀k,row=some k→a.heap.size≤k):Keep a w':=Below.grown h hg h.size hr
theorem Keep.grownBy {w w':World}(h:Keep w w'):w.grownBy w' none:=⟨Below.os h,Below.tape h,Below.output h,Below.size h,fun k hk _=>Below.block h k hk⟩
theorem Keep.cell {w w':World}(h:Keep w w'){b o:Nat}(hb:b<w.heap.size):w'.cell? ⟨b,o,none⟩=w.cell? ⟨b,o,none⟩:=Below.cell h hb
theorem grown_trans {a b c:World}{row:Option Nat}(h:a.grownBy b row)(k:b.grownBy c row):a.grownBy c row:=
 ⟨k.os.trans h.os,k.tape.trans h.tape,k.output.trans h.output,Nat.le_trans h.size k.size,fun i hi hne=>(k.block i (Nat.lt_of_lt_of_le hi h.size) hne).trans (h.block i hi hne)⟩
def Rd (w:World)(v:Value)(zs:List Int):Prop:=
 ∃(a:Option Addr) (cap:Nat),v = .slice a zs.length cap ∧
  (zs=[]∨∃b off,a=some ⟨b,off,none⟩∧b<w.heap.size∧∀i,i<zs.length→w.cell? ⟨b,off+i,none⟩=some (.int .i64 (zs.getD i 0)))
theorem Rd.keep {w w':World}{v:Value}{zs:List Int}(h:Rd w v zs)(k:Keep w w'):Rd w' v zs:=by
 obtain⟨a,cap,hv,h⟩:=h;refine⟨a,cap,hv,?_⟩;rcases h with h|⟨b,off,ha,hb,hc⟩
 · exact .inl h
 · exact .inr ⟨b,off,ha,Nat.lt_of_lt_of_le hb k.size,fun i hi=>(k.cell hb).trans (hc i hi)⟩
def Own (w:World)(base:Nat)(v:Value)(zs:List Int):Prop:=w.ownsRow base 2 1 v zs.length (zs.map (Value.int .i64))
theorem Own.kept {w w':World}{base:Nat}{v:Value}{zs:List Int}{row:Option Nat}(h:Own w base v zs)(hg:w.grownBy w' row)(hne:v.ownBlock=none∨v.ownBlock≠row):Own w' base v zs:=
 World.ownsRow.kept h hg hne
theorem Own.keep {w w':World}{base:Nat}{v:Value}{zs:List Int}(h:Own w base v zs)(k:Keep w w'):Own w' base v zs:=
 Own.kept h k.grownBy (by cases v.ownBlock<;>simp)
theorem Own.rd {w:World}{base:Nat}{v:Value}{zs:List Int}(h:Own w base v zs):Rd w v zs:=by
 have hlt:=World.ownsRow.lt h;rcases h.2 with ⟨rfl,hn⟩|⟨g,cap,cur,rfl,hb,hg,rest⟩
 ·
  have:zs=[]:=List.eq_nil_of_length_eq_zero hn;subst this;exact⟨none,0,rfl,.inl rfl⟩
 ·
  refine⟨some ⟨g,0,none⟩,cap,rfl,.inr ⟨g,0,rfl,(hlt g rfl).2,fun i hi=>?_⟩⟩;have hc:=World.ownsRow.cellAt h i (by simpa using hi);rw[Nat.zero_add,hc,List.getElem?_map,List.getElem?_eq_getElem hi,List.getD_eq_getElem?_getD,List.getElem?_eq_getElem hi];rfl
theorem Own.base_le {w:World}{base base':Nat}{v:Value}{zs:List Int}(h:Own w base v zs)(hb:base'≤base):Own w base' v zs:=by
 refine⟨h.1,?_⟩;rcases h.2 with h|⟨g,cap,cur,hv,hg,rest⟩
 · exact .inl h
 · exact .inr ⟨g,cap,cur,hv,Nat.le_trans hb hg,rest⟩
theorem Own.ge {w:World}{base:Nat}{v:Value}{zs:List Int}(h:Own w base v zs):∀k,v.ownBlock=some k→base≤k:=fun k hk=>(World.ownsRow.lt h k hk).1
theorem Own.apart {w w':World}{base:Nat}{v v':Value}{zs zs':List Int}(h:Own w base v zs)(h':Own w' w.heap.size v' zs'):v.ownBlock=none∨v.ownBlock≠v'.ownBlock:=by
 cases hv:v.ownBlock with
 |none=>exact .inl rfl
 |some k=>
  refine .inr fun e=>?_
  have h1:=(World.ownsRow.lt h k hv).2;have h2:=h'.ge k e.symm;omega
theorem own_hit {w:World}{base:Nat}{v:Value}{zs:List Int}{x:Int}(h:w.ownsRow base 2 1 v (zs.length+1) (zs.map (Value.int .i64)++[.int .i64 x])):Own w base v (zs++[x]):=by
 unfold Own;simpa using h
theorem Tryz.infoI:(Tryz.prog.info? 2).map (fun i=>(i.zero,i.size,i.bytes))=some (some (.int .i64 0),1,8):=by kernel_rfl
def RowAt (w:World)(g:Nat)(zs:List Int):Prop:=
 ∃(cur:Array Value) (e:TypeId),w.heap[g]? = some (.cells cur e (0,0))∧cur.toList.take zs.length=zs.map (Value.int .i64)
theorem RowAt.lt {w:World}{g:Nat}{zs:List Int}(h:RowAt w g zs):g<w.heap.size:=by
 obtain⟨cur,e,hh,_⟩:=h;exact (Array.getElem?_eq_some_iff.1 hh).1
theorem RowAt.cell {w:World}{g:Nat}{zs:List Int}(h:RowAt w g zs){j:Nat}(hj:j<zs.length):w.cell? ⟨g,j,none⟩=some (.int .i64 (zs.getD j 0)):=by
 obtain⟨cur,e,hh,ht⟩:=h;rw[cell_of_row w g j cur e (0,0) hh];have h1:(cur.toList.take zs.length)[j]? = (zs.map (Value.int .i64))[j]?:=by rw[ht]
 rw[List.getElem?_take,if_pos hj,List.getElem?_map,List.getElem?_eq_getElem hj] at h1;rw[List.getD_eq_getElem?_getD,List.getElem?_eq_getElem hj]
 simpa using h1
theorem RowAt.free {w:World}{g:Nat}{zs:List Int}(h:RowAt w g zs)(j:Nat):w.frozen? ⟨g,j,none⟩=false:=by
 obtain⟨cur,e,hh,_⟩:=h;exact frozen_of_row w g j _ _ hh
theorem RowAt.kept {w w':World}{g:Nat}{zs:List Int}{row:Option Nat}(h:RowAt w g zs)(hg:w.grownBy w' row)(hne:row≠some g):RowAt w' g zs:=by
 have hlt:=h.lt;obtain⟨cur,e,hh,ht⟩:=h;exact⟨cur,e,by rw[hg.block g hlt (fun e=>hne e.symm)];exact hh,ht⟩
theorem RowAt.keep {w w':World}{g:Nat}{zs:List Int}(h:RowAt w g zs)(k:Keep w w'):RowAt w' g zs:=h.kept k.grownBy (by simp)
theorem grown_set (w:World)(g j:Nat)(v:Value):w.grownBy (w.setCell ⟨g,j,none⟩ v) (some g):=
 ⟨rfl,rfl,rfl,by simp,fun k _ hk=>heap_setCell_other w ⟨g,j,none⟩ k v (fun e=>hk (by simp[e]))⟩
theorem grown_draw (w:World)(n:Nat)(row:Option Nat):w.grownBy (w.drewN n) row:=⟨rfl,rfl,rfl,Nat.le_refl _,fun _ _ _=>rfl⟩
theorem grown_drew (w:World)(row:Option Nat):w.grownBy w.drew row:=⟨rfl,rfl,rfl,Nat.le_refl _,fun _ _ _=>rfl⟩
theorem RowAt.drewN {w:World}{g:Nat}{zs:List Int}(h:RowAt w g zs)(n:Nat):RowAt (w.drewN n) g zs:=h.kept (row:=none) (grown_draw w n none) (by simp)
theorem RowAt.drew {w:World}{g:Nat}{zs:List Int}(h:RowAt w g zs):RowAt w.drew g zs:=h.kept (row:=none) (grown_drew w none) (by simp)
theorem take_set_val (l:List Value)(zs:List Int)(j:Nat)(x:Int)(h:l.take zs.length=zs.map (Value.int .i64)):
  (l.set j (.int .i64 x)).take (zs.set j x).length=(zs.set j x).map (Value.int .i64):=by
 rw[List.length_set,List.take_set,h,List.map_set]
theorem RowAt.set {w:World}{g:Nat}{zs:List Int}(h:RowAt w g zs)(j:Nat)(x:Int):RowAt (w.setCell ⟨g,j,none⟩ (.int .i64 x)) g (zs.set j x):=by
 obtain⟨cur,e,hh,ht⟩:=h;refine⟨cur.setIfInBounds j (.int .i64 x),e,?_,?_⟩
 · rw[heap_setCell_same w g j _ _ _ hh]
 ·
  rw[Array.toList_setIfInBounds];exact take_set_val _ zs j x ht
def Row (w:World)(base:Nat)(v:Value)(zs:List Int):Prop:=
 (v = .slice none 0 0∧zs=[])∨∃g cap,v = .slice (some ⟨g,0,none⟩) zs.length cap∧base≤g∧RowAt w g zs
theorem Own.row {w:World}{base:Nat}{v:Value}{zs:List Int}(h:Own w base v zs):Row w base v zs:=by
 rcases h.2 with ⟨rfl,hn⟩|⟨g,cap,cur,rfl,hb,hg,_,_,_,ht⟩
 · exact .inl ⟨rfl,List.eq_nil_of_length_eq_zero hn⟩
 · exact .inr ⟨g,cap,rfl,hb,cur,_,hg,by rw[Nat.mul_one] at ht;exact ht⟩
theorem Row.lt {w:World}{base:Nat}{v:Value}{zs:List Int}(h:Row w base v zs):∀k,v.ownBlock=some k→base≤k∧k<w.heap.size:=by
 intro k hk;rcases h with ⟨rfl,_⟩|⟨g,cap,rfl,hb,hr⟩
 · simp[Value.ownBlock] at hk
 · simp[Value.ownBlock] at hk;subst hk;exact⟨hb,hr.lt⟩
theorem Row.ge {w:World}{base:Nat}{v:Value}{zs:List Int}(h:Row w base v zs):∀k,v.ownBlock=some k→base≤k:=fun k hk=>(h.lt k hk).1
theorem Row.kept {w w':World}{base:Nat}{v:Value}{zs:List Int}{row:Option Nat}(h:Row w base v zs)(hg:w.grownBy w' row)(hne:v.ownBlock=none∨v.ownBlock≠row):Row w' base v zs:=by
 rcases h with h|⟨g,cap,rfl,hb,hr⟩
 · exact .inl h
 ·
  refine .inr ⟨g,cap,rfl,hb,hr.kept hg ?_⟩;simp[Value.ownBlock] at hne;exact fun e=>hne e.symm
theorem Row.keep {w w':World}{base:Nat}{v:Value}{zs:List Int}(h:Row w base v zs)(k:Keep w w'):Row w' base v zs:=
 h.kept k.grownBy (by cases v.ownBlock<;>simp)
theorem Row.rd {w:World}{base:Nat}{v:Value}{zs:List Int}(h:Row w base v zs):Rd w v zs:=by
 rcases h with ⟨rfl,rfl⟩|⟨g,cap,rfl,hb,hr⟩
 · exact⟨none,0,rfl,.inl rfl⟩
 · exact⟨some ⟨g,0,none⟩,cap,rfl,.inr ⟨g,0,rfl,hr.lt,fun i hi=>by rw[Nat.zero_add];exact hr.cell hi⟩⟩
theorem Row.base_le {w:World}{base base':Nat}{v:Value}{zs:List Int}(h:Row w base v zs)(hb:base'≤base):Row w base' v zs:=by
 rcases h with h|⟨g,cap,hv,hg,hr⟩
 · exact .inl h
 · exact .inr ⟨g,cap,hv,Nat.le_trans hb hg,hr⟩
theorem Row.apart {w w':World}{base:Nat}{v v':Value}{zs zs':List Int}(h:Row w base v zs)(h':Row w' w.heap.size v' zs'):v.ownBlock=none∨v.ownBlock≠v'.ownBlock:=by
 cases hv:v.ownBlock with
 |none=>exact .inl rfl
 |some k=>
  refine .inr fun e=>?_
  have h1:=(h.lt k hv).2;have h2:=h'.ge k e.symm;omega
theorem row_new {w:World}{g n cap base:Nat}{zs:List Int}(h:RowAt w g zs)(hb:base≤g)(hn:zs.length=n):Row w base (.slice (some ⟨g,0,none⟩) n cap) zs:=by
 subst hn;exact .inr ⟨g,cap,rfl,hb,h⟩
theorem row_empty (w:World)(e:TypeId):Row (w.alloc (.cells #[] e)) w.heap.size (.slice (some ⟨w.heap.size,0,none⟩) 0 0) []:=
 .inr ⟨w.heap.size,0,rfl,Nat.le_refl _,#[],e,heap_alloc_new w _,rfl⟩
def thenK (a b:List Int)(k:Nat):List Int:=(a.map (fun x=>thenS x b 12)).take k++List.replicate (a.length-k) 0
theorem thenK_len (a b:List Int){k:Nat}(hk:k≤a.length):(thenK a b k).length=a.length:=by
 unfold thenK;rw[List.length_append,List.length_take,List.length_map,List.length_replicate];omega
theorem thenK_zero (a b:List Int):thenK a b 0=List.replicate a.length 0:=by simp[thenK]
theorem thenK_end (a b:List Int):thenK a b a.length=a.map (fun x=>thenS x b 12):=by
 unfold thenK;rw[Nat.sub_self,List.replicate_zero,List.append_nil,List.take_of_length_le (by simp)]
theorem thenK_set (a b:List Int){k:Nat}(hk:k<a.length):(thenK a b k).set k (thenS (a.getD k 0) b 12)=thenK a b (k+1):=by
 unfold thenK;have hz:k<(a.map (fun x=>thenS x b 12)).length:=by simpa using hk
 have hl:((a.map (fun x=>thenS x b 12)).take k).length=k:=by rw[List.length_take];omega
 rw[List.set_append_right _ _ (by omega),hl,Nat.sub_self,show a.length-k=(a.length-(k+1))+1 from by omega,List.replicate_succ,List.set_cons_zero,List.take_succ_eq_append_getElem hz,List.append_assoc,List.getElem_map,List.getD_eq_getElem?_getD,List.getElem?_eq_getElem hk];rfl
theorem thenK_same (a b:List Int){k:Nat}(hk:k<a.length):(thenK a b k).set k 0=thenK a b k:=by
 unfold thenK;have hl:((a.map (fun x=>thenS x b 12)).take k).length=k:=by rw[List.length_take,List.length_map];omega
 rw[List.set_append_right _ _ (by omega),hl,Nat.sub_self,show a.length-k=(a.length-(k+1))+1 from by omega,List.replicate_succ,List.set_cons_zero]
theorem mem_at {n:Nat}{p:Int}(hp:okB n p=true){j:Nat}(hj:j<(mem p 12).length):∃m:Nat,(mem p 12).getD j 0=m∧m<n:=by
 have hm:=getD_mem hj;obtain⟨m,_,e,hs⟩:=(mem_iff p 12 _).1 hm;exact⟨m,e,inSetB_iff hp hs⟩
theorem foldl_snoc {α:Type}(f:α→Int→α)(x:α)(l:List Int){j:Nat}(hj:j<l.length):(l.take (j+1)).foldl f x=f ((l.take j).foldl f x) (l.getD j 0):=by
 rw[take_snoc l j hj,List.foldl_append];rfl
theorem set_set_same (l:List Int)(k:Nat)(x y:Int):(l.set k x).set k y=l.set k y:=by simp
theorem getD_set_same (l:List Int){k:Nat}(hk:k<l.length)(x:Int):(l.set k x).getD k 0=x:=by rw[getD_set l k k x hk,if_pos rfl]
theorem wayAll_len (zs:List Int)(m:Nat):(wayAll zs m).length=zs.length:=by
 induction m with
 |zero=>rfl
 |succ m ih=>unfold wayAll;rw[wayIn_len,ih]
def RdO (w:World)(B:Nat)(v:Value)(zs:List Int):Prop:=
 ∃(a:Option Addr) (cap:Nat),v = .slice a zs.length cap ∧
  (zs=[]∨∃b off,a=some ⟨b,off,none⟩∧b<B∧b<w.heap.size∧∀i,i<zs.length→w.cell? ⟨b,off+i,none⟩=some (.int .i64 (zs.getD i 0)))
theorem Rd.old {w:World}{v:Value}{zs:List Int}(h:Rd w v zs):RdO w w.heap.size v zs:=by
 obtain⟨a,cap,hv,h⟩:=h;refine⟨a,cap,hv,?_⟩;rcases h with h|⟨b,off,ha,hb,hc⟩
 · exact .inl h
 · exact .inr ⟨b,off,ha,hb,hb,hc⟩
theorem RdO.rd {w:World}{B:Nat}{v:Value}{zs:List Int}(h:RdO w B v zs):Rd w v zs:=by
 obtain⟨a,cap,hv,h⟩:=h;refine⟨a,cap,hv,?_⟩;rcases h with h|⟨b,off,ha,_,hb,hc⟩
 · exact .inl h
 · exact .inr ⟨b,off,ha,hb,hc⟩
theorem RdO.stay {w w':World}{B:Nat}{v:Value}{zs:List Int}{row:Option Nat}(h:RdO w B v zs)(hg:w.grownBy w' row)(hr:∀k,row=some k→B≤k):RdO w' B v zs:=by
 obtain⟨a,cap,hv,h⟩:=h;refine⟨a,cap,hv,?_⟩;rcases h with h|⟨b,off,ha,hB,hb,hc⟩
 · exact .inl h
 ·
  refine .inr ⟨b,off,ha,hB,Nat.lt_of_lt_of_le hb hg.size,fun i hi=>?_⟩;rw[World.cell?_of_block (w:=w) (hg.block b hb (fun e=>by have:=hr b e.symm;omega))];exact hc i hi
theorem RdO.keep {w w':World}{B:Nat}{v:Value}{zs:List Int}(h:RdO w B v zs)(k:Keep w w'):RdO w' B v zs:=h.stay k.grownBy (by simp)
theorem mixL_len (f:Int→Int→Int)(a b:List Int):(mixL f a b).length≤12:=by
 unfold mixL
 cases h:twoB a b with
 |false=>simp
 |true=>have:=webB_len (twoB_iff.1 h).2.1;simp;omega
theorem heap_at (w:World)(A:Obj)(i:Nat):(w.alloc A).heap[i]? = if i=w.heap.size then some A else w.heap[i]?:=Array.getElem?_push
theorem heap_size (w:World)(A:Obj):(w.alloc A).heap.size=w.heap.size+1:=Array.size_push _
theorem heap_drew (w:World):w.drew.heap=w.heap:=rfl
theorem box_size {w w1:World}{o:Obj}(k:Keep (w.alloc o) w1):w.heap.size<w1.heap.size:=by
 have:=k.size;rw[heap_size] at this;omega
theorem box_cell {w w1:World}{cs:Array Value}{t:TypeId}(k:Keep (w.alloc (.cells cs t)) w1)(i:Nat):w1.cell? ⟨w.heap.size,i,none⟩=cs[i]?:=by
 rw[k.cell (by rw[heap_size];omega),cell_of_row (w.alloc (.cells cs t)) w.heap.size i cs t (0,0) (heap_alloc_new w _)]
theorem box_heap {w w1:World}{o:Obj}(k:Keep (w.alloc o) w1):w1.heap[w.heap.size]? = some o:=
 (Below.block k w.heap.size (by rw[heap_size];omega)).trans (heap_alloc_new w o)
theorem results_row {P:Program}{fn:Func}{p:Tmp}{ty:TypeId}(h:fn.results=#[.cell p ty])(tmps:Array Value)(w:World)(g:Nat)(t:TypeId)(cs:Array Value)(fr:Nat×Nat)(d:TypeDesc)
  (hp:tmps.getD p undef = .pointer (some ⟨g,0,none⟩)) (hg:w.heap[g]? = some (.cells cs t fr))
  (hu:P.underlying ty=some d) (hd:(match d with | .struct _ | .array _ _=>true|_=>false)=true) (hi:(P.info? ty).map (·.size)=some cs.size):
  (results fn tmps).run P w = .ok (.agg cs) w:=results_cell_row h tmps w g t cs fr d hp hg hu hd hi
theorem results_row2 {P:Program}{fn:Func}{p q:Tmp}{ty:TypeId}(h:fn.results=#[.cell p ty,.cell q ty])(tmps:Array Value)(w:World)(g g':Nat)(t t':TypeId)(cs cs':Array Value)(fr fr':Nat×Nat)(d:TypeDesc)
  (hp:tmps.getD p undef = .pointer (some ⟨g,0,none⟩)) (hg:w.heap[g]? = some (.cells cs t fr))
  (hq:tmps.getD q undef = .pointer (some ⟨g',0,none⟩)) (hg':w.heap[g']? = some (.cells cs' t' fr'))
  (hu:P.underlying ty=some d) (hd:(match d with | .struct _ | .array _ _=>true|_=>false)=true) (hi:(P.info? ty).map (·.size)=some cs.size) (hi':(P.info? ty).map (·.size)=some cs'.size):
  (results fn tmps).run P w = .ok (.tuple #[.agg cs,.agg cs']) w:=by
 have hp':tmps[p]?.getD undef = .pointer (some ⟨g,0,none⟩):=by simpa using hp
 have hq':tmps[q]?.getD undef = .pointer (some ⟨g',0,none⟩):=by simpa using hq
 simp[results,h,hp',hq',asAddr,run_loadVar_row w g t ty cs fr d hg hu hd hi,run_loadVar_row w g' t' ty cs' fr' d hg' hu hd hi']
def colIn (q:Nat→Nat→Bool)(j:Nat)(st:List Int):Nat→List Int
 | 0=>st
 |i+1=>if q i j=true then (colIn q j st i).set i (gAdd ((colIn q j st i).getD i 0) j) else colIn q j st i
def colAll (q:Nat→Nat→Bool)(n:Nat):Nat→List Int
 | 0=>List.replicate n 0
 |j+1=>colIn q j (colAll q n j) j
theorem colIn_hit {q:Nat→Nat→Bool}{j i:Nat}(st:List Int)(h:q i j=true):colIn q j st (i+1)=(colIn q j st i).set i (gAdd ((colIn q j st i).getD i 0) j):=if_pos h
theorem colIn_miss {q:Nat→Nat→Bool}{j i:Nat}(st:List Int)(h:q i j=false):colIn q j st (i+1)=colIn q j st i:=if_neg (by simp[h])
theorem web_colIn {q:Nat→Nat→Bool}{n j:Nat}{st:List Int}(hj:j<n)(hst:Web n st):∀m:Nat,m≤n →
  Web n (colIn q j st m)∧∀a b:Nat,a<n→line (colIn q j st m) a b=(line st a b||(decide (a<m)&&decide (j=b)&&q a j))
 | 0,_=>⟨hst,fun a b _=>by simp[colIn]⟩
 |m+1,hm=>by
  have ih:=web_colIn hj hst m (by omega) (q:=q)
  cases hp:q m j with
  |false=>
   rw[colIn_miss st hp];refine⟨ih.1,fun a b ha=>?_⟩;rw[ih.2 a b ha];by_cases e:a=m
   · subst e;simp[hp]
   ·
    have d:decide (a<m+1)=decide (a<m):=decide_eq_decide.2 (by omega);rw[d]
  |true=>
   rw[colIn_hit st hp];have ha:=ok_add (ih.1.2.2 m (by omega)) hj;refine⟨ih.1.set ha.1,fun a b haa=>?_⟩;have e1:=ih.2 a b haa;unfold line at e1 ⊢;rw[getD_set _ _ _ _ (by rw[ih.1.2.1];omega)];by_cases e:m=a
   ·
    subst e;simp only[if_true];rw[ha.2 b,e1];simp[hp]
   ·
    simp only[e,if_false];rw[e1];have d:decide (a<m+1)=decide (a<m):=decide_eq_decide.2 (by omega);rw[d]
theorem web_colAll {q:Nat→Nat→Bool}{n:Nat}(hn:n≤12):∀m:Nat,m≤n →
  Web n (colAll q n m)∧∀a b:Nat,a<n→line (colAll q n m) a b=(decide (b<m)&&decide (a<b)&&q a b)
 | 0,_=>⟨Web.zero hn,fun a b _=>by unfold colAll;rw[line_zero];simp⟩
 |m+1,hm=>by
  have ih:=web_colAll hn m (by omega) (q:=q);have h1:=web_colIn (q:=q) (show m<n by omega) ih.1 m (by omega);refine⟨h1.1,fun a b ha=>?_⟩;show line (colIn q m (colAll q n m) m) a b=_;rw[h1.2 a b ha,ih.2 a b ha];by_cases e:m=b
  · subst e;simp
  ·
   have d:decide (b<m+1)=decide (b<m):=decide_eq_decide.2 (by omega);rw[d];simp[e]
def isbE (a b:Ev):Bool:=(b.1 != -1)&&((a.1 == -1)||(a.1==b.1))
def onpE (a b:Ev):Bool:=a.2.2.2.1==b.2.2.2.1
def onceD (d:Dd):Bool:=(d.1==3)||(d.2.2.2 != 0)
def wtD:Dd:=(4,0,0,0)
def btwD (ds:List Dd)(lo hi:Nat):Bool:=(List.range (hi-lo)).any (fun i=>ds.getD (lo+i) zD==wtD)
def keepE (dss:List (List Dd))(a b:Ev):Bool:=(a.1 == -1)||a.2.2.1 || !b.2.2.1||(onceD (dOf dss a)||onceD (dOf dss b)||btwD (dss.getD a.1.toNat []) a.2.1.toNat b.2.1.toNat)
theorem btwD_no {ds:List Dd}{lo hi:Nat}(h:∀i,i<hi-lo→ds.getD (lo+i) zD≠wtD):btwD ds lo hi=false:=by
 unfold btwD;rw[List.any_eq_false];intro i hi';rw[List.mem_range] at hi'
 simpa using h i hi'
theorem btwD_yes {ds:List Dd}{lo hi i:Nat}(hi':i<hi-lo)(h:ds.getD (lo+i) zD=wtD):btwD ds lo hi=true:=by
 unfold btwD;rw[List.any_eq_true];exact⟨i,List.mem_range.2 hi',by rw[h];simp⟩
theorem once_whole {d:Dd}(h:okD d=true):onceD d=wholeD d:=by
 have:=(okD_restE h).2.2.1;unfold onceD wholeD;by_cases e:d.2.2.2=0
 · rw[e];rfl
 ·
  have e2:(d.2.2.2 != 0)=true:=by simp[e]
  have e3:decide (0<d.2.2.2)=true:=decide_eq_true (by omega);rw[e2,e3]
theorem okD_wait {d:Dd}(h:okD d=true)(h4:d.1=4):d=wtD:=by
 obtain⟨k,p,v,g⟩:=d;simp only at h4;subst h4;simp[okD,deedB] at h;unfold wtD;rw[Prod.mk.injEq,Prod.mk.injEq,Prod.mk.injEq];omega
theorem btw_waits {ds:List Dd}{lo hi:Nat}(hok:∀j,j<ds.length→okD (ds.getD j zD)=true)(hh:hi≤ds.length)(h4:(ds.getD lo zD).1≠4):btwD ds lo hi=waitsD ds lo hi:=by
 cases hw:waitsD ds lo hi with
 |false=>
  refine btwD_no (fun i hi' he=>?_);have hj:(ds.getD (lo+i) zD).1=4:=by rw[he];rfl
  have:lo<lo+i:=by
   apply Classical.byContradiction;intro hn;have:i=0:=by omega
   subst this;exact h4 hj
  rw[waitsD_yes this (show lo+i<hi by omega) hj] at hw;cases hw
 |true=>
  unfold waitsD at hw;rw[List.any_eq_true] at hw;obtain⟨j,hj,hq⟩:=hw;rw[List.mem_range] at hj;simp only[Bool.and_eq_true,decide_eq_true_eq,beq_iff_eq] at hq;refine btwD_yes (i:=j-lo) (by omega) ?_;rw[show lo+(j-lo)=j by omega];exact okD_wait (hok j (by omega)) hq.2
theorem evs_who {dss:List (List Dd)}(h:workB dss=true){j:Nat}(hj:j<(evsW dss dss.length).length):(j<3→((evsW dss dss.length).getD j zE).1=-1)∧(3≤j→0≤((evsW dss dss.length).getD j zE).1):=by
 obtain⟨_,_,_,_,hG⟩:=events_law h
 have hok:∀i,i<dss.length→okL (dss.getD i [])=true:=by
  simp only[workB,Bool.and_eq_true,decide_eq_true_eq] at h;exact fun i hi=>all_get [] h.1.1.1.2 i hi
 obtain⟨⟨t,ht⟩,_⟩:=evs_good hok dss.length (Nat.le_refl _);obtain⟨b0,b1,b2⟩:=beg_get ht;refine⟨fun h3=>?_,fun h3=>?_⟩
 ·
  have:j=0∨j=1∨j=2:=by omega
  rcases this with rfl|rfl|rfl
  · rw[b0]
  · rw[b1]
  · rw[b2]
 ·
  obtain⟨i,k,c,rd,vl,h1,_⟩:=hG j h3 hj;rw[List.getD_eq_getElem?_getD,h1];exact Int.natCast_nonneg _
theorem isb_beh {dss:List (List Dd)}(h:workB dss=true){i j:Nat}(hij:i<j)(hj:j<(evsW dss dss.length).length):
  isbE ((evsW dss dss.length).getD i zE) ((evsW dss dss.length).getD j zE)=behP (evsW dss dss.length) i j:=by
 have wi:=evs_who h (show i<_ by omega);have wj:=evs_who h hj;unfold isbE behP;generalize (evsW dss dss.length).getD i zE=a at wi ⊢;generalize (evsW dss dss.length).getD j zE=b at wj ⊢;have d0:decide (i<j)=true:=decide_eq_true hij;rw[d0,Bool.true_and];by_cases i3:i<3
 ·
  have e1:(a.1 == -1)=true:=by rw[wi.1 i3];rfl
  have d1:decide (i<3)=true:=decide_eq_true i3;have d2:decide (3≤i)=false:=decide_eq_false (by omega);rw[e1,d1,d2];by_cases j3:j<3
  · rw[wj.1 j3,decide_eq_false (show ¬ 3≤j by omega)];rfl
  ·
   have:=wj.2 (by omega);have e2:(b.1 != -1)=true:=by simp;omega
   rw[e2,decide_eq_true (show 3≤j by omega)];rfl
 ·
  have a0:=wi.2 (by omega);have b0:=wj.2 (by omega);have e1:(a.1 == -1)=false:=by simp;omega
  have e2:(b.1 != -1)=true:=by simp;omega
  rw[e1,e2,decide_eq_false i3,decide_eq_true (show 3≤i by omega)];simp
theorem evs_two {dss:List (List Dd)}(h:workB dss=true){i j:Nat}(hi3:3≤i)(hij:i<j)(hj:j<(evsW dss dss.length).length)
  (hc:((evsW dss dss.length).getD i zE).1=((evsW dss dss.length).getD j zE).1):
  ∃c x y:Nat,((evsW dss dss.length).getD i zE).1=(c:Int)∧((evsW dss dss.length).getD i zE).2.1=(x:Int)∧((evsW dss dss.length).getD j zE).2.1=(y:Int)∧c<dss.length∧(x<y∨(x=y∧((dss.getD c []).getD x zD).1=3))∧y<(dss.getD c []).length∧((dss.getD c []).getD x zD).1≠4:=by
 obtain⟨_,_,_,_,hG⟩:=events_law h;obtain⟨ho,_,hN⟩:=evs_ord dss dss.length;have hi:i<(evsW dss dss.length).length:=by omega
 obtain⟨ci,qi,_,_,_,ei,hci,hqi,_⟩:=hG i hi3 hi;obtain⟨cj,qj,_,_,_,ej,hcj,hqj,_⟩:=hG j (by omega) hj;have xi:(evsW dss dss.length)[i]? = some ((evsW dss dss.length).getD i zE):=by rw[List.getD_eq_getElem?_getD,List.getElem?_eq_getElem hi];rfl
 have xj:(evsW dss dss.length)[j]? = some ((evsW dss dss.length).getD j zE):=by rw[List.getD_eq_getElem?_getD,List.getElem?_eq_getElem hj];rfl
 have mi:(evsW dss dss.length).getD i zE∈evsW dss dss.length:=List.mem_of_getElem? xi
 have hord:OrdE dss ((evsW dss dss.length).getD i zE) ((evsW dss dss.length).getD j zE):=by
  have:=List.pairwise_iff_getElem.1 ho i j hi hj hij;rw[List.getElem?_eq_getElem hi] at xi;rw[List.getElem?_eq_getElem hj] at xj;rw[Option.some.inj xi,Option.some.inj xj] at this;exact this
 have gi:=Option.some.inj (xi.symm.trans ei);have gj:=Option.some.inj (xj.symm.trans ej);have hni:=hN _ mi;clear hN ho hG xi xj mi ei ej;generalize (evsW dss dss.length).getD i zE=a at gi hc hord hni ⊢;generalize (evsW dss dss.length).getD j zE=b at gj hc hord ⊢;subst gi gj;simp only at hc;have hcc:ci=cj:=by omega
 subst hcc;have hord:=hord rfl (by simp only;omega);unfold dOf at hni;simp only[Int.toNat_natCast] at hord hni;refine⟨ci,qi,qj,rfl,rfl,rfl,hci,?_,hqj,hni (by omega)⟩;rcases hord with h|h
 · exact .inl (by omega)
 ·
  refine .inr ⟨by omega,?_⟩;have h2:=h.2;unfold dOf at h2
  simpa only [Int.toNat_natCast] using h2
theorem keep_kep {dss:List (List Dd)}(h:workB dss=true){i j:Nat}(hij:i<j)(hj:j<(evsW dss dss.length).length):
  (isbE ((evsW dss dss.length).getD i zE) ((evsW dss dss.length).getD j zE)&&keepE dss ((evsW dss dss.length).getD i zE) ((evsW dss dss.length).getD j zE))=(behP (evsW dss dss.length) i j&&!kepP dss (evsW dss dss.length) i j):=by
 rw[isb_beh h hij hj]
 cases hb:behP (evsW dss dss.length) i j with
 |false=>rfl
 |true=>
  rw[Bool.true_and,Bool.true_and];have hi:i<(evsW dss dss.length).length:=by omega
  by_cases i3:i<3
  ·
   have e1:=(evs_who h hi).1 i3;have e2:kepP dss (evsW dss dss.length) i j=false:=by unfold kepP;rw[decide_eq_false (show ¬ 3≤i by omega)];rfl
   rw[e2];unfold keepE;rw[e1];rfl
  ·
   have hc:((evsW dss dss.length).getD i zE).1=((evsW dss dss.length).getD j zE).1:=by
    unfold behP at hb;simp only[Bool.and_eq_true,Bool.or_eq_true,decide_eq_true_eq,beq_iff_eq] at hb;rcases hb.2 with q|q
    · omega
    · exact q.2
   obtain⟨c,x,y,h1,h2,h3,hcl,hxy,hyl,h4⟩:=evs_two h (by omega) hij hj hc;obtain⟨_,_,_,_,hG⟩:=events_law h
   have hok:∀k,k<(dss.getD c []).length→okD ((dss.getD c []).getD k zD)=true:=by
    simp only[workB,Bool.and_eq_true,decide_eq_true_eq] at h;have:=all_get [] h.1.1.1.2 c hcl;simp only[okL,Bool.and_eq_true] at this;exact fun k hk=>all_get zD this.1 k hk
   have hcs:csE ((evsW dss dss.length).getD i zE)=csE ((evsW dss dss.length).getD j zE)→wholeD (dOf dss ((evsW dss dss.length).getD j zE))=true:=by
    intro he;obtain⟨ci,qi,ki,_,_,ei,_,_,_,_,li,_⟩:=hG i (by omega) hi;obtain⟨cj,qj,kj,_,_,ej,_,hqj,_,_,lj,_,_,_,_,_,_,hw⟩:=hG j (by omega) hj;have xi:(evsW dss dss.length)[i]? = some ((evsW dss dss.length).getD i zE):=by rw[List.getD_eq_getElem?_getD,List.getElem?_eq_getElem hi];rfl
    have xj:(evsW dss dss.length)[j]? = some ((evsW dss dss.length).getD j zE):=by rw[List.getD_eq_getElem?_getD,List.getElem?_eq_getElem hj];rfl
    have gi:=Option.some.inj (xi.symm.trans ei);have gj:=Option.some.inj (xj.symm.trans ej);clear xi xj ei ej;rw[hc,gj] at h1;rw[gj] at h3;rw[gi,gj] at he;simp only[csE] at he h1 h3;have h3:qj=y:=by omega
    rw[gi] at hc;rw[gj] at hc ⊢;unfold dOf;simp only[Int.toNat_natCast] at hc ⊢;by_cases k3:((dss.getD cj []).getD qj zD).1=3
    · unfold wholeD;rw[k3];rfl
    ·
     have:=hw (by omega) k3;unfold wholeD
     have ccj:cj=c:=by
      omega
     subst ccj;have r:=okD_restE (hok qj hqj);have:decide (0<((dss.getD cj []).getD qj zD).2.2.2)=true:=decide_eq_true (by omega);rw[this];simp
   have h1j:((evsW dss dss.length).getD j zE).1=(c:Int):=by rw[←hc];exact h1
   unfold keepE kepP kepQ;rw[hb,decide_eq_true (show 3≤i by omega)];generalize (evsW dss dss.length).getD i zE=a at h1 h2 hcs ⊢;generalize (evsW dss dss.length).getD j zE=b at h1j h3 hcs ⊢;have da:dOf dss a=(dss.getD c []).getD x zD:=by unfold dOf;rw[h1,h2,Int.toNat_natCast,Int.toNat_natCast]
   have db:dOf dss b=(dss.getD c []).getD y zD:=by unfold dOf;rw[h1j,h3,Int.toNat_natCast,Int.toNat_natCast]
   have ea:(a.1 == -1)=false:=by rw[h1];simp
   rw[ea,h1,h2,h3,Int.toNat_natCast,Int.toNat_natCast,Int.toNat_natCast,btw_waits hok (by omega) h4,da,db,once_whole (hok x (by omega)),once_whole (hok y (by omega))];rw[db] at hcs;unfold rdE;cases a.2.2.1
   ·
    cases b.2.2.1
    · simp
    ·
     cases wb:wholeD ((dss.getD c []).getD y zD)
     ·
      have ne:(csE a != csE b)=true:=by
       simp only[bne_iff_ne,ne_eq];intro e;rw[hcs e] at wb;cases wb
      rw[ne];simp;exact Bool.or_comm _ _
     · simp
   · simp
theorem beh_same {dss:List (List Dd)}(h:workB dss=true):colAll (fun i j=>isbE ((evsW dss dss.length).getD i zE) ((evsW dss dss.length).getD j zE)) (evsW dss dss.length).length (evsW dss dss.length).length=behL (evsW dss dss.length):=by
 have h12:=(events_law h).1;have c1:=web_colAll (q:=fun i j=>isbE ((evsW dss dss.length).getD i zE) ((evsW dss dss.length).getD j zE)) h12 _ (Nat.le_refl _);have b1:=beh_line h12;refine Web.ext c1.1 b1.1 (fun i j hi hj=>?_);rw[c1.2 i j hi,b1.2 i j hi];by_cases hij:i<j
 · rw[isb_beh h hij hj];simp[hij]
 · rw[behP_up (by omega)];simp[hij]
theorem plc_same {dss:List (List Dd)}(h:workB dss=true):colAll (fun i j=>isbE ((evsW dss dss.length).getD i zE) ((evsW dss dss.length).getD j zE)&&onpE ((evsW dss dss.length).getD i zE) ((evsW dss dss.length).getD j zE)) (evsW dss dss.length).length (evsW dss dss.length).length=plcL (evsW dss dss.length):=by
 have h12:=(events_law h).1;have c1:=web_colAll (q:=fun i j=>isbE ((evsW dss dss.length).getD i zE) ((evsW dss dss.length).getD j zE)&&onpE ((evsW dss dss.length).getD i zE) ((evsW dss dss.length).getD j zE)) h12 _ (Nat.le_refl _);have b1:=plc_line h12;refine Web.ext c1.1 b1.1 (fun i j hi hj=>?_);rw[c1.2 i j hi,b1.2 i j hi];by_cases hij:i<j
 · rw[isb_beh h hij hj];unfold onpE plcP;simp[hij,hj,bne]
 · rw[behP_up (by omega)];simp[hij]
theorem kep_same {dss:List (List Dd)}(h:workB dss=true):colAll (fun i j=>isbE ((evsW dss dss.length).getD i zE) ((evsW dss dss.length).getD j zE)&&keepE dss ((evsW dss dss.length).getD i zE) ((evsW dss dss.length).getD j zE)) (evsW dss dss.length).length (evsW dss dss.length).length=kepL dss (evsW dss dss.length):=by
 have h12:=(events_law h).1;have c1:=web_colAll (q:=fun i j=>isbE ((evsW dss dss.length).getD i zE) ((evsW dss dss.length).getD j zE)&&keepE dss ((evsW dss dss.length).getD i zE) ((evsW dss dss.length).getD j zE)) h12 _ (Nat.le_refl _);have b1:=kep_line (dss:=dss) h12;refine Web.ext c1.1 b1.1 (fun i j hi hj=>?_);rw[c1.2 i j hi,b1.2 i j hi];by_cases hij:i<j
 · rw[keep_kep h hij hj];simp[hij,hj]
 · rw[behP_up (by omega)];simp[hij]
section
section
variable {α:Type} {cf:α→List Value} {n:Nat}
def AtT (cf:α→List Value)(w:World)(b o:Nat)(x:α):Prop:=∀m u,(cf x)[m]? = some u→w.cell? ⟨b,o+m,none⟩=some u
def RdT (cf:α→List Value)(n:Nat)(w:World)(v:Value)(xs:List α):Prop:=
 ∃(a:Option Addr) (cap:Nat),v = .slice a xs.length (xs.length+cap) ∧
  (xs=[]∨∃b off,a=some ⟨b,off,none⟩∧b<w.heap.size∧∀i x,xs[i]? = some x→AtT cf w b (off+i*n) x)
theorem AtT.same {w w':World}{b o:Nat}{x:α}(h:AtT cf w b o x)(hh:w'.heap[b]? = w.heap[b]?):AtT cf w' b o x:=
 fun m u hm=>by
  have:=h m u hm;simp only[World.cell?,hh] at this ⊢;exact this
theorem AtT.keep {w w':World}{b o:Nat}{x:α}(h:AtT cf w b o x)(hb:b<w.heap.size)(k:Keep w w'):AtT cf w' b o x:=h.same (Below.block k b hb)
theorem RdT.keep {w w':World}{v:Value}{xs:List α}(h:RdT cf n w v xs)(k:Keep w w'):RdT cf n w' v xs:=by
 obtain⟨a,cap,hv,h⟩:=h;refine⟨a,cap,hv,?_⟩;rcases h with h|⟨b,off,ha,hb,hc⟩
 · exact .inl h
 · exact .inr ⟨b,off,ha,Nat.lt_of_lt_of_le hb k.size,fun i x hx=>(hc i x hx).keep hb k⟩
def AppT (cf:α→List Value)(e:TypeId)(n:Nat)(w:World)(base:Nat)(v:Value)(xs:List α):Prop:=w.ownsRow base e n v xs.length (xs.flatMap cf)
variable {e:TypeId}
theorem AppT.keep {w w':World}{base:Nat}{v:Value}{xs:List α}(h:AppT cf e n w base v xs)(k:Keep w w'):AppT cf e n w' base v xs:=
 World.ownsRow.kept h k.grownBy (by cases v.ownBlock<;>simp)
theorem AppT.kept {w w':World}{base:Nat}{v:Value}{xs:List α}{row:Option Nat}(h:AppT cf e n w base v xs)(hg:w.grownBy w' row)(hne:v.ownBlock=none∨v.ownBlock≠row):AppT cf e n w' base v xs:=
 World.ownsRow.kept h hg hne
theorem AppT.lt {w:World}{base:Nat}{v:Value}{xs:List α}(h:AppT cf e n w base v xs):∀k,v.ownBlock=some k→base≤k∧k<w.heap.size:=World.ownsRow.lt h
theorem AppT.ge {w:World}{base:Nat}{v:Value}{xs:List α}(h:AppT cf e n w base v xs):∀k,v.ownBlock=some k→base≤k:=fun k hk=>(h.lt k hk).1
theorem appT_hit {w:World}{base:Nat}{v:Value}{xs:List α}{x:α}(h:w.ownsRow base e n v (xs.length+1) (xs.flatMap cf++cf x)):AppT cf e n w base v (xs++[x]):=by
 unfold AppT;rw[List.flatMap_append];simpa using h
theorem appT_empty (w:World):AppT cf e n (w.alloc (.cells #[] e)) w.heap.size (.slice (some ⟨w.heap.size,0,none⟩) 0 0) []:=
 World.ownsRow_lit w #[] 0 (Nat.le_refl _) (by decide) (by simp)
theorem flat_at (hn:∀x,(cf x).length=n):∀(xs:List α) (i:Nat) (x:α) (m:Nat),xs[i]? = some x→m<n→(xs.flatMap cf)[i*n+m]? = (cf x)[m]?
 | [],i,x,m,h,_=>by simp at h
 |y::r,0,x,m,h,hm=>by
  simp at h;subst h;rw[List.flatMap_cons,List.getElem?_append_left (by rw[hn];omega)];simp
 |y::r,i+1,x,m,h,hm=>by
  have ih:=flat_at hn r i x m (by simpa using h) hm;have e1:(i+1)*n+m=n+(i*n+m):=by rw[Nat.add_mul];omega
  rw[List.flatMap_cons,List.getElem?_append_right (by rw[hn];omega),hn,e1,Nat.add_sub_cancel_left,ih]
theorem AppT.shape {w:World}{base:Nat}{v:Value}{xs:List α}(h:AppT cf e n w base v xs):∃a c,v = .slice a xs.length c:=by
 rcases h.2 with ⟨rfl,hz⟩|⟨g,cap,cur,rfl,_⟩
 · exact⟨none,0,by rw[hz]⟩
 · exact⟨_,_,rfl⟩
theorem AppT.rd (hn:∀x,(cf x).length=n){w:World}{base:Nat}{v:Value}{xs:List α}(h:AppT cf e n w base v xs):RdT cf n w v xs:=by
 have h2:=h;have hlt:=h.lt;rcases h.2 with ⟨rfl,hz⟩|⟨g,cap,cur,rfl,hb,hg,hcap,_,hs,_⟩
 ·
  have:xs=[]:=List.eq_nil_of_length_eq_zero hz;subst this;exact⟨none,0,rfl,.inl rfl⟩
 ·
  obtain⟨x,rfl⟩:∃x,cap=xs.length+x:=⟨cap-xs.length,by omega⟩;refine⟨_,x,rfl,.inr ⟨g,0,rfl,(hlt g rfl).2,fun i y hy m u hm=>?_⟩⟩;have hi:i<xs.length:=(List.getElem?_eq_some_iff.1 hy).1;have hmn:m<n:=by have:=(List.getElem?_eq_some_iff.1 hm).1;rw[hn] at this;exact this
  have hb2:i*n+m<xs.length*n:=by
   have h3:(i+1)*n≤xs.length*n:=Nat.mul_le_mul_right n hi;rw[Nat.add_mul] at h3;omega
  rw[Nat.zero_add,World.ownsRow.cellAt h2 (i*n+m) hb2,flat_at hn xs i y m hy hmn];exact hm
end
end
def cE (e:Ev):List Value:=[.int .i64 e.1,.int .i64 e.2.1,.bool e.2.2.1,.int .i64 e.2.2.2.1,.int .i64 e.2.2.2.2.1,.int .i64 e.2.2.2.2.2]
theorem cE_len (e:Ev):(cE e).length=6:=rfl
theorem Tryz.infoE:(Tryz.prog.info? 64).map (fun i=>(i.zero,i.size,i.bytes))=some (some (.agg #[.int .i64 0,.int .i64 0,.bool false,.int .i64 0,.int .i64 0,.int .i64 0]),6,48):=by kernel_rfl
abbrev RdE (w:World)(v:Value)(es:List Ev):Prop:=RdT cE 6 w v es
abbrev AppE (w:World)(base:Nat)(v:Value)(es:List Ev):Prop:=AppT cE 64 6 w base v es
theorem atE {w:World}{b o:Nat}{x0 x1:Int}{r:Bool}{x3 x4 x5:Int}(h:AtT cE w b o (x0,x1,r,x3,x4,x5)):
  w.cell? ⟨b,o,none⟩=some (.int .i64 x0)∧w.cell? ⟨b,o+1,none⟩=some (.int .i64 x1)∧w.cell? ⟨b,o+2,none⟩=some (.bool r)∧w.cell? ⟨b,o+3,none⟩=some (.int .i64 x3)∧w.cell? ⟨b,o+4,none⟩=some (.int .i64 x4)∧w.cell? ⟨b,o+5,none⟩=some (.int .i64 x5):=
 ⟨h 0 _ rfl,h 1 _ rfl,h 2 _ rfl,h 3 _ rfl,h 4 _ rfl,h 5 _ rfl⟩
theorem AppE.rd {w:World}{base:Nat}{v:Value}{es:List Ev}(h:AppE w base v es):RdE w v es:=AppT.rd cE_len h
theorem evs_get {es:List Ev}{i:Nat}(h:i<es.length):es[i]? = some (es.getD i zE):=by
 rw[List.getD_eq_getElem?_getD,List.getElem?_eq_getElem h];rfl
abbrev eA (i q:Int)(r:Bool)(pl vl c:Int):Value:= .agg #[.int .i64 i,.int .i64 q,.bool r,.int .i64 pl,.int .i64 vl,.int .i64 c]
structure LP (w0 wr:World)(x:Value)(es:List Ev)(P:List (Nat×Obj)):Prop where
 app:AppE wr w0.heap.size x es
 keep:Keep w0 wr
 held:∀n o,(n,o)∈P→x.ownBlock≠some n∧wr.heap[n]? = some o
theorem LP.more {w0 wr wr':World}{x:Value}{es:List Ev}{P:List (Nat×Obj)}(h:LP w0 wr x es P)(k:Keep wr wr'):LP w0 wr' x es P:=
 ⟨h.app.keep k,h.keep.trans k,fun n o hn=>⟨(h.held n o hn).1,(Below.block k n (Array.getElem?_eq_some_iff.1 (h.held n o hn).2).1).trans (h.held n o hn).2⟩⟩
theorem LP.add {w0 wr:World}{x:Value}{es:List Ev}{P:List (Nat×Obj)}(h:LP w0 wr x es P)(n:Nat)(o:Obj)(hx:x.ownBlock≠some n)(ho:wr.heap[n]? = some o):LP w0 wr x es ((n,o)::P):=
 ⟨h.app,h.keep,fun m q hm=>by
  rcases List.mem_cons.1 hm with e|e
  · injection e with e1 e2;subst e1 e2;exact⟨hx,ho⟩
  · exact h.held m q e⟩
theorem LP.new {w0 wr:World}{x:Value}{es:List Ev}{P:List (Nat×Obj)}(h:LP w0 wr x es P)(o:Obj):LP w0 (wr.alloc o) x es ((wr.heap.size,o)::P):=
 (h.more ((Keep.refl wr).alloc o)).add _ _ (fun e=>by have:=(h.app.lt _ e).2;omega) (heap_alloc_new wr o)
theorem LP.later {w0 wr wr':World}{x:Value}{es:List Ev}{P:List (Nat×Obj)}(h:LP w0 wr x es P)(k:Keep wr wr'){B:Nat}{o:Obj}(hB:wr.heap.size≤B)(ho:wr'.heap[B]? = some o):LP w0 wr' x es ((B,o)::P):=
 (h.more k).add _ _ (fun e=>by have:=(h.app.lt _ e).2;omega) ho
theorem LP.less {w0 wr:World}{x:Value}{es:List Ev}{P Q:List (Nat×Obj)}(h:LP w0 wr x es P)(hs:∀y,y∈Q→y∈P):LP w0 wr x es Q:=
 ⟨h.app,h.keep,fun n o hn=>h.held n o (hs _ hn)⟩
theorem LP.hit {w0 wr w':World}{x v':Value}{es:List Ev}{P:List (Nat×Obj)}(h:LP w0 wr x es P)(e:Ev)
  (ho:w'.ownsRow w0.heap.size 64 6 v' (es.length+1) (es.flatMap cE++cE e)) (hg:wr.grownBy w' x.ownBlock) (hb:v'.ownBlock=x.ownBlock∨v'.ownBlock=some wr.heap.size):LP w0 w' v' (es++[e]) P:=by
 refine⟨appT_hit ho,h.keep.grown hg h.app.ge,fun n o hn=>?_⟩;obtain⟨h1,h2⟩:=h.held n o hn;have hlt:=(Array.getElem?_eq_some_iff.1 h2).1;refine⟨fun e=>?_,(hg.block n hlt (fun e=>h1 e.symm)).trans h2⟩;rcases hb with hb|hb
 · exact h1 (hb ▸ e)
 · rw[hb] at e;have:=Option.some.inj e;omega
theorem LP.lt {w0 wr:World}{x:Value}{es:List Ev}{P:List (Nat×Obj)}(h:LP w0 wr x es P){n:Nat}{o:Obj}(hn:(n,o)∈P):n<wr.heap.size:=(Array.getElem?_eq_some_iff.1 (h.held n o hn).2).1
theorem LP.cell {w0 wr:World}{x:Value}{es:List Ev}{P:List (Nat×Obj)}(h:LP w0 wr x es P){n:Nat}{cs:Array Value}{t:TypeId}(hn:(n,.cells cs t)∈P)(i:Nat):wr.cell? ⟨n,i,none⟩=cs[i]?:=
 cell_of_row wr n i cs t (0,0) (h.held n _ hn).2
theorem app_base {w:World}{base base':Nat}{v:Value}{es:List Ev}(h:AppE w base v es)(hb:base'≤base):AppE w base' v es:=by
 refine⟨h.1,?_⟩;rcases h.2 with h|⟨g,cap,cur,hv,hg,rest⟩
 · exact .inl h
 · exact .inr ⟨g,cap,cur,hv,Nat.le_trans hb hg,rest⟩
abbrev eO (i k:Int)(r:Bool)(p v c:Int):Obj:= .cells #[.int .i64 i,.int .i64 k,.bool r,.int .i64 p,.int .i64 v,.int .i64 c] 64
theorem cE_oneP (e:Ev):∀u∈cE e,u.oneCell'=true:=by
 intro u hu;simp only[cE,List.mem_cons,List.not_mem_nil,or_false] at hu;rcases hu with rfl|rfl|rfl|rfl|rfl|rfl<;>rfl
theorem cE_newP (w:World)(n:Nat)(hn:w.heap.size=n)(i q:Int)(r:Bool)(pl vl c:Int):∀j u,(cE (i,q,r,pl,vl,c))[j]? = some u→(w.alloc (eO i q r pl vl c)).cell? ((⟨n,0,none⟩:Addr).add j)=some u:=by
 subst hn;intro j u hj
 match j,hj with
 | 0,hj=>simp[cE] at hj;subst hj;simp[Addr.add]
 | 1,hj=>simp[cE] at hj;subst hj;simp[Addr.add]
 | 2,hj=>simp[cE] at hj;subst hj;simp[Addr.add]
 | 3,hj=>simp[cE] at hj;subst hj;simp[Addr.add]
 | 4,hj=>simp[cE] at hj;subst hj;simp[Addr.add]
 | 5,hj=>simp[cE] at hj;subst hj;simp[Addr.add]
def goB (ds:List Dd)(k:Nat):Bool:=decide (0<k)&&((ds.getD k zD).2.2.2 != 0)&&((ds.getD k zD).2.2.2==(ds.getD (k-1) zD).2.2.2)
def lastC (out:List Ev):Int:=csE (out.getD (out.length-1) zE)
def ncE (out:List Ev)(go:Bool):Int:=if go=true then lastC out else (out.length:Int)
def clkP (i:Nat)(ds:List Dd)(out:List Ev):Nat→List Ev
 | 0=>out
 |k+1=>clkP i ds out k++oneE i k (ds.getD k zD) (ncE (clkP i ds out k) (goB ds k))
def evsP (dss:List (List Dd)):Nat→List Ev
 | 0=>evBeg
 |i+1=>clkP i (dss.getD i []) (evsP dss i) (dss.getD i []).length
def Tog (ds:List Dd):Prop:=∀k j,k<ds.length→j<k→(ds.getD k zD).2.2.2≠0→(ds.getD j zD).2.2.2=(ds.getD k zD).2.2.2→(ds.getD (k-1) zD).2.2.2=(ds.getD k zD).2.2.2
theorem grpK_own {i:Nat}{own:List Int}{ds:List Dd}(hl:own.length=10):∀(k:Nat) (o:List Int),grpK i own ds k=some o→(∀j,j<k→okD (ds.getD j zD)=true) →
  ∀j,j<k→(ds.getD j zD).2.2.2≠0→o.getD (ds.getD j zD).2.2.2.toNat 0=(i:Int)+1
 | 0,o,h,_,j,hj,_=>by omega
 |k+1,o',h,hok,j,hj,h0=>by
  rw[grpK] at h
  cases hq:grpK i own ds k with
  |none=>rw[hq] at h;cases h
  |some o=>
   rw[hq] at h;have ih:=grpK_own hl k o hq (fun j hj=>hok j (by omega));have hol:=grpK_len hq;simp only at h;have okj:=okD_restE (hok j hj);split at h
   ·
    rename_i hz;simp only[Option.some.injEq] at h;subst h;by_cases e:j=k
    · subst e;exact absurd hz h0
    · exact ih j (by omega) h0
   ·
    rename_i hz;split at h
    · cases h
    ·
     simp only[Option.some.injEq] at h;subst h;have okk:=okD_restE (hok k (by omega));rw[getD_setE o _ _ _ (by omega)];by_cases e:(ds.getD k zD).2.2.2.toNat=(ds.getD j zD).2.2.2.toNat
     · rw[if_pos e]
     ·
      rw[if_neg e];by_cases e2:j=k
      · subst e2;exact absurd rfl e
      · exact ih j (by omega) h0
theorem grpK_tog {i:Nat}{own:List Int}{ds:List Dd}(hl:own.length=10){o:List Int}(h:grpK i own ds ds.length=some o)(hok:∀j,j<ds.length→okD (ds.getD j zD)=true):Tog ds:=by
 intro k j hk hj h0 he
 have step:∃o',grpK i own ds (k+1)=some o':=by
  cases hq:grpK i own ds (k+1) with
  |none=>rw[grpK_none hq ds.length (by omega)] at h;cases h
  |some o'=>exact⟨o',rfl⟩
 obtain⟨o',ho'⟩:=step;rw[grpK] at ho'
 cases hq:grpK i own ds k with
 |none=>rw[hq] at ho';cases ho'
 |some o1=>
  rw[hq] at ho';have hown:=grpK_own hl k o1 hq (fun j hj=>hok j (by omega)) j hj (by rw[he];exact h0);rw[he] at hown;simp only at ho';rw[if_neg h0] at ho';split at ho'
  · cases ho'
  ·
   rename_i hn;apply Classical.byContradiction;intro hc;exact hn ⟨by rw[hown];omega,.inr (.inr hc)⟩
theorem work_tog {dss:List (List Dd)}(hb:workB dss=true):∀i,i<dss.length→Tog (dss.getD i []):=by
 intro i hi;simp only[workB,Bool.and_eq_true,decide_eq_true_eq] at hb;obtain⟨⟨⟨⟨_,h2⟩,_⟩,_⟩,hg⟩:=hb;have hok:=all_get [] h2 i hi;simp only[okL,Bool.and_eq_true,decide_eq_true_eq] at hok
 have hs:∀n,n≤dss.length→∃o,grpW dss n=some o:=by
  intro n hn
  cases hq:grpW dss n with
  |none=>rw[grpB,grpW_none hq dss.length hn] at hg;cases hg
  |some o=>exact⟨o,rfl⟩
 obtain⟨o,ho⟩:=hs i (by omega);obtain⟨o',ho'⟩:=hs (i+1) (by omega);rw[grpW,ho] at ho';exact grpK_tog (grpW_len ho) ho' (fun j hj=>all_get zD hok.1 j hj)
theorem last_snoc (out t:List Ev)(e:Ev):lastC (out++(t++[e]))=csE e:=by
 unfold lastC;rw[←List.append_assoc,List.length_append,List.getD_eq_getElem?_getD];simp
theorem clkP_same {i:Nat}{ds:List Dd}{out:List Ev}(ht:Tog ds)(hok:∀j,j<ds.length→okD (ds.getD j zD)=true)(ho:1≤out.length):
  ∀k:Nat,k≤ds.length→clkP i ds out k=(clkE i ds out k).1∧(clkE i ds out k).2.length=10∧1≤(clkE i ds out k).1.length ∧
   (∀g:Nat,0<g→g<10→(∀j,j<k→(ds.getD j zD).2.2.2≠(g:Int))→(clkE i ds out k).2.getD g 0=0) ∧
   (∀j,j<k→(ds.getD j zD).2.2.2≠0→(clkE i ds out k).2.getD (ds.getD j zD).2.2.2.toNat 0≠0) ∧
   (0<k→(ds.getD (k-1) zD).2.2.2≠0→(clkE i ds out k).2.getD (ds.getD (k-1) zD).2.2.2.toNat 0=lastC (clkE i ds out k).1)
 | 0,_=>⟨rfl,by simp[clkE],ho,fun g _ hg _=>by simp only[clkE];rw[List.getD_eq_getElem?_getD,List.getElem?_replicate,if_pos hg];rfl,fun j hj=>by omega,fun h=>by omega⟩
 |k+1,hk=>by
  obtain⟨h1,h2,h3,h4,h5,h6⟩:=clkP_same ht hok ho k (by omega);have hd:=hok k (by omega);obtain⟨r0,r1,r2,r3,r4⟩:=okD_restE hd;have hkd:=okD_kindE hd;rw[clkP,clkE,h1,Nat.add_sub_cancel];generalize hS:clkE i ds out k=S at h2 h3 h4 h5 h6;obtain⟨L,f⟩:=S;simp only at h2 h3 h4 h5 h6;generalize hdd:ds.getD k zD=d at hd r0 r1 r2 r3 r4 hkd;have hg:goB ds k=(decide (0<k)&&(d.2.2.2 != 0)&&(d.2.2.2==(ds.getD (k-1) zD).2.2.2)):=by rw[goB,hdd]
  have old5:∀j,j<k→(ds.getD j zD).2.2.2≠0→(ds.getD j zD).2.2.2.toNat<10:=fun j hj _=>by
   have:=okD_restE (hok j (by omega));omega
  by_cases h4k:d.1=4
  ·
   have g0:d.2.2.2=0:=r4 (by omega);have e1:oneE i k d (ncE L (goB ds k))=[]:=by unfold oneE;rw[if_pos h4k]
   rw[stepE,if_pos h4k,e1,List.append_nil];refine⟨rfl,h2,h3,fun g hg0 hg10 hn=>h4 g hg0 hg10 (fun j hj=>hn j (by omega)),fun j hj hne=>?_,fun _ hne=>absurd g0 hne⟩;by_cases e:j=k
   · subst e;rw[hdd] at hne;exact absurd g0 hne
   · exact h5 j (by omega) hne
  ·
   rw[stepE,if_neg h4k];by_cases g0:d.2.2.2=0
   ·
    have e1:ncE L (goB ds k)=clsE d.2.2.2 L.length f:=by
     rw[hg,g0];simp[ncE,clsE]
    have e2:fstE d.2.2.2 L.length f=f:=by unfold fstE;rw[if_neg (by rw[g0];omega)]
    rw[e1];simp only;rw[e2];refine⟨by trivial,h2,by rw[List.length_append];omega,fun g hg0 hg10 hn=>h4 g hg0 hg10 (fun j hj=>hn j (by omega)),fun j hj hne=>?_,fun _ hne=>absurd g0 hne⟩;by_cases e:j=k
    · subst e;rw[hdd] at hne;exact absurd g0 hne
    · exact h5 j (by omega) hne
   ·
    have gp:(0:Int)<d.2.2.2:=by omega
    have k2:d.1=1∨d.1=2:=by
     apply Classical.byContradiction;intro hn;exact g0 (r4 (by omega))
    have one:∀c,∃e,oneE i k d c=[e]∧csE e=c:=by
     intro c;unfold oneE;rcases k2 with e|e
     · exact⟨_,by rw[if_neg h4k,if_neg (by omega),if_neg (by omega)],rfl⟩
     · exact⟨_,by rw[if_neg h4k,if_neg (by omega),if_pos e],rfl⟩
    have fin:∀c,lastC (L++oneE i k d c)=c:=fun c=>by
     obtain⟨e,he,hc⟩:=one c;rw[he,←hc];exact last_snoc L [] e
    by_cases hgo:0<k∧(ds.getD (k-1) zD).2.2.2=d.2.2.2
    ·
     obtain⟨k0,hgo⟩:=hgo;have e0:goB ds k=true:=by rw[hg,hgo];simp[k0,g0]
     have f0:f.getD d.2.2.2.toNat 0≠0:=by have:=h5 (k-1) (by omega) (by rw[hgo];exact g0);rw[hgo] at this;exact this
     have f1:f.getD d.2.2.2.toNat 0=lastC L:=by have:=h6 k0 (by rw[hgo];exact g0);rw[hgo] at this;exact this
     have e2:fstE d.2.2.2 L.length f=f:=by unfold fstE;rw[if_neg (fun h=>f0 h.2)]
     have e1:ncE L (goB ds k)=clsE d.2.2.2 L.length f:=by
      rw[e0];unfold ncE clsE;rw[if_pos rfl,if_pos gp,e2,f1]
     have e3:clsE d.2.2.2 L.length f=f.getD d.2.2.2.toNat 0:=by unfold clsE;rw[if_pos gp,e2]
     rw[e1];simp only;rw[e2];refine⟨by trivial,h2,by rw[List.length_append];omega,fun g hg0 hg10 hn=>h4 g hg0 hg10 (fun j hj=>hn j (by omega)),fun j hj hne=>?_,fun _ _=>?_⟩
     ·
      by_cases e:j=k
      · subst e;rw[hdd];exact f0
      · exact h5 j (by omega) hne
     · rw[fin,e3]
    ·
     have none:∀j,j<k→(ds.getD j zD).2.2.2≠d.2.2.2:=by
      intro j hj he;refine hgo ⟨by omega,?_⟩;have:=ht k j (by omega) hj (by rw[hdd];exact g0) (by rw[hdd];exact he);rw[hdd] at this;exact this
     obtain⟨g,hgg⟩:=Int.eq_ofNat_of_zero_le r2;have g10:g<10:=by omega
     have f0:f.getD d.2.2.2.toNat 0=0:=by
      rw[hgg,Int.toNat_natCast];exact h4 g (by omega) g10 (fun j hj=>by rw[←hgg];exact none j hj)
     have e0:goB ds k=false:=by
      rw[hg];by_cases k0:0<k
      ·
       have:¬(d.2.2.2=(ds.getD (k-1) zD).2.2.2):=fun e=>hgo ⟨k0,e.symm⟩
       have e:(d.2.2.2==(ds.getD (k-1) zD).2.2.2)=false:=by simpa using this
       rw[e,Bool.and_false]
      · simp[k0]
     have e2:fstE d.2.2.2 L.length f=f.set d.2.2.2.toNat (L.length:Int):=by unfold fstE;rw[if_pos ⟨gp,f0⟩]
     have e3:clsE d.2.2.2 L.length f=(L.length:Int):=by
      unfold clsE;rw[if_pos gp,e2,getD_setE f _ _ _ (by omega),if_pos rfl]
     have e1:ncE L (goB ds k)=clsE d.2.2.2 L.length f:=by rw[e0,e3];simp[ncE]
     rw[e1];simp only;rw[e2];refine⟨by trivial,by rw[List.length_set];exact h2,by rw[List.length_append];omega,fun q hq0 hq10 hn=>?_,fun j hj hne=>?_,fun _ _=>?_⟩
     ·
      have hqk:=hn k (by omega);rw[hdd] at hqk;rw[getD_setE f _ _ _ (by omega),if_neg (by omega)];exact h4 q hq0 hq10 (fun j hj=>hn j (by omega))
     ·
      by_cases e:j=k
      ·
       subst e;rw[hdd,getD_setE f _ _ _ (by omega),if_pos rfl];omega
      ·
       have nj:=none j (by omega);have okj:=okD_restE (hok j (by omega));rw[getD_setE f _ _ _ (by omega),if_neg (by omega)];exact h5 j (by omega) hne
     · rw[fin,e3,getD_setE f _ _ _ (by omega),if_pos rfl]
theorem evsP_same {dss:List (List Dd)}(hb:workB dss=true):∀n:Nat,n≤dss.length→evsP dss n=evsW dss n∧1≤(evsW dss n).length
 | 0,_=>⟨rfl,by simp[evsW,evBeg]⟩
 |n+1,h=>by
  obtain⟨h1,h2⟩:=evsP_same hb n (by omega);have ht:=work_tog hb n (by omega);simp only[workB,Bool.and_eq_true,decide_eq_true_eq] at hb;obtain⟨⟨⟨⟨_,ha⟩,_⟩,_⟩,_⟩:=hb;have hok:=all_get [] ha n (by omega);simp only[okL,Bool.and_eq_true,decide_eq_true_eq] at hok;obtain⟨q1,_,q3,_⟩:=clkP_same (i:=n) ht (fun j hj=>all_get zD hok.1 j hj) h2 (dss.getD n []).length (Nat.le_refl _);rw[evsP,evsW,h1,q1];exact⟨rfl,q3⟩
def grD (d:Dd):Int:=d.2.2.2
def gK (ds:List Dd):Nat→Int
 | 0=>0
 |k+1=>if grD (ds.getD k zD)=0 then gK ds k else gAdd (gK ds k) (grD (ds.getD k zD))
def gC (ds:List Dd):Int:=gK ds ds.length
def partK (ds:List Dd)(k:Nat):Bool:=decide (0<k)&&(grD (ds.getD k zD) != grD (ds.getD (k-1) zD))&&inSetB (gK ds k) (grD (ds.getD k zD))
def togK (ds:List Dd):Nat→Bool
 | 0=>true
 |k+1=>togK ds k&&!partK ds k
def takW (dss:List (List Dd)):Nat→Int
 | 0=>0
 |i+1=>bits .or .i64 (takW dss i) (gC (dss.getD i []))
def rightB (ds:List Dd)(t:Int):Bool:=decide (ds.length≤5)&&ds.all okD&&togK ds ds.length&&(bits .and .i64 (gC ds) t==0)
def rightsW (dss:List (List Dd)):Nat→Bool
 | 0=>true
 |i+1=>rightsW dss i&&rightB (dss.getD i []) (takW dss i)
theorem take_getD {α:Type}(l:List α)(i k:Nat)(z:α)(h:k<i):(l.take i).getD k z=l.getD k z:=by
 rw[List.getD_eq_getElem?_getD,List.getElem?_take,if_pos h,List.getD_eq_getElem?_getD]
theorem gK_take (ds:List Dd)(i:Nat):∀k:Nat,k≤i→gK (ds.take i) k=gK ds k
 | 0,_=>rfl
 |k+1,h=>by rw[gK,gK,gK_take ds i k (by omega),take_getD ds i k zD (by omega)]
theorem gC_take (ds:List Dd)(i:Nat)(h:i≤ds.length):gC (ds.take i)=gK ds i:=by
 rw[gC,List.length_take,Nat.min_eq_left h,gK_take ds i i (Nat.le_refl _)]
theorem togK_false {ds:List Dd}{k:Nat}(h:togK ds k=false):∀n:Nat,k≤n→togK ds n=false
 | 0,hn=>by
  obtain rfl:k=0:=by omega
  exact h
 |n+1,hn=>by
  by_cases e:k=n+1
  · rw[←e];exact h
  · rw[togK,togK_false h n (by omega)];rfl
theorem rightsW_false {dss:List (List Dd)}{k:Nat}(h:rightsW dss k=false):∀n:Nat,k≤n→rightsW dss n=false
 | 0,hn=>by
  obtain rfl:k=0:=by omega
  exact h
 |n+1,hn=>by
  by_cases e:k=n+1
  · rw[←e];exact h
  · rw[rightsW,rightsW_false h n (by omega)];rfl
def Dis (a b:Nat):Prop:=∀k,a.testBit k=true→b.testBit k=false
theorem dis_iff (a b:Nat):Dis a b↔a &&& b=0:=by
 constructor
 ·
  intro h;apply Nat.eq_of_testBit_eq;intro k;rw[Nat.testBit_and,Nat.zero_testBit];cases ha:a.testBit k
  · rfl
  · rw[h k ha];rfl
 ·
  intro h k ha;have h1:(a &&& b).testBit k=false:=by rw[h,Nat.zero_testBit]
  rw[Nat.testBit_and,ha] at h1
  simpa using h1
theorem or_bit (a g k:Nat):(a ||| 2 ^ g).testBit k=(a.testBit k||decide (g=k)):=by
 rw[Nat.testBit_or,Nat.testBit_two_pow]
theorem set_getD (o:List Int)(g:Nat)(x:Int)(j:Nat)(hg:g<o.length):(o.set g x).getD j 0=if g=j then x else o.getD j 0:=by
 rw[List.getD_eq_getElem?_getD,List.getElem?_set];by_cases e:g=j
 · subst e;rw[if_pos rfl,if_pos hg,if_pos rfl];rfl
 · rw[if_neg e,if_neg e,List.getD_eq_getElem?_getD]
theorem okD_grp {d:Dd}(h:okD d=true):0≤grD d∧grD d≤9:=by
 simp[okD,deedB] at h;unfold grD;omega
theorem clerk_same {i:Nat}{own:List Int}{T:Nat}{ds:List Dd}(hl:own.length=10)(hT:∀g,g<10→(own.getD g 0≠0↔T.testBit g=true))(hi:∀g,g<10→own.getD g 0≠(i:Int)+1)(hT0:T.testBit 0=false):
  ∀k:Nat,(∀j,j<k→okD (ds.getD j zD)=true)→∃G:Nat,G<4096∧gK ds k=(G:Int)∧G.testBit 0=false∧(k=0→G=0) ∧
   (grpK i own ds k=none→togK ds k=false∨¬Dis G T) ∧
   ∀o,grpK i own ds k=some o→togK ds k=true∧Dis G T∧o.length=10∧∀g,g<10→o.getD g 0=if G.testBit g=true then (i:Int)+1 else own.getD g 0
 | 0,_=>⟨0,by omega,rfl,by simp,fun _=>rfl,by simp[grpK],by
   intro o ho;simp only[grpK,Option.some.injEq] at ho;subst ho
   exact⟨rfl,fun k hk=>by simp at hk,hl,by simp⟩⟩
 |k+1,hok=>by
  obtain⟨G,hG,hgK,hG0,hz,hN,hS⟩:=clerk_same hl hT hi hT0 k (fun j hj=>hok j (by omega));obtain⟨h0,h9⟩:=okD_grp (hok k (by omega));obtain⟨g,hg⟩:=Int.eq_ofNat_of_zero_le h0;have hgg:(ds.getD k zD).2.2.2=(g:Int):=hg;by_cases hg0:g=0
  ·
   subst hg0;have hz0:(ds.getD k zD).2.2.2=0:=hgg;have e1:gK ds (k+1)=(G:Int):=by rw[gK,hg,if_pos (by simp),hgK]
   have e2:partK ds k=false:=by
    have:inSetB (gK ds k) (grD (ds.getD k zD))=false:=by rw[hgK,hg,inSetB_nat G 0 hG (by omega),hG0]
    rw[partK,this,Bool.and_false]
   have e3:togK ds (k+1)=togK ds k:=by rw[togK,e2];simp
   have e4:grpK i own ds (k+1)=grpK i own ds k:=by
    rw[grpK]
    cases hq:grpK i own ds k with
    |none=>rfl
    |some o=>simp only;rw[if_pos hz0]
   refine⟨G,hG,e1,hG0,by omega,?_,?_⟩
   · rw[e3,e4];exact hN
   · rw[e3,e4];exact hS
  ·
   have hgne:(ds.getD k zD).2.2.2≠0:=by rw[hgg];omega
   have g9:g≤9:=by rw[hg] at h9;omega
   have e1:gK ds (k+1)=((G ||| 2 ^ g:Nat):Int):=by
    rw[gK,hg,if_neg (by omega),hgK,gAdd_nat G g hG (by omega)]
   have e0:(G ||| 2 ^ g).testBit 0=false:=by rw[or_bit,hG0];simp[hg0]
   have inS:inSetB (gK ds k) (grD (ds.getD k zD))=G.testBit g:=by rw[hgK,hg,inSetB_nat G g hG (by omega)]
   refine⟨G ||| 2 ^ g,or_lt G g hG (by omega),e1,e0,by omega,?_,?_⟩
   ·
    intro hn;rw[grpK] at hn
    cases hq:grpK i own ds k with
    |none=>
     rcases hN hq with h|h
     · left;rw[togK,h];rfl
     ·
      right;intro hd;refine h (fun b hb=>hd b ?_);rw[or_bit,hb];rfl
    |some o=>
     rw[hq] at hn;simp only at hn;rw[if_neg hgne,hgg,Int.toNat_natCast] at hn;obtain⟨ht,hd,hlen,ho⟩:=hS o hq;split at hn
     ·
      rename_i hc
      cases hTg:T.testBit g with
      |true=>
       right;intro hd2;have:=hd2 g (by rw[or_bit];simp);rw[hTg] at this;cases this
      |false=>
       left
       have hown:own.getD g 0=0:=by
        apply Classical.byContradiction;intro hne;rw[(hT g (by omega)).1 hne] at hTg;cases hTg
       cases hGg:G.testBit g with
       |false=>
        exfalso;have:=ho g (by omega);rw[hGg,hown] at this;exact hc.1 (by simpa using this)
       |true=>
        have hk0:k≠0:=by
         intro hk;rw[hz hk] at hGg;simp at hGg
        have hog:=ho g (by omega);rw[hGg,if_pos rfl] at hog
        have hp:(ds.getD (k-1) zD).2.2.2≠(g:Int):=by
         rcases hc.2 with h|h|h
         · exact absurd hog h
         · exact absurd h hk0
         · exact h
        have:partK ds k=true:=by
         rw[partK,inS,hGg,hg]
         have hp':((g:Int) != grD (ds.getD (k-1) zD))=true:=by
          rw[bne_iff_ne];exact fun e=>hp e.symm
         rw[hp'];simp;omega
        rw[togK,this];simp
     · cases hn
   ·
    intro o' hn;rw[grpK] at hn
    cases hq:grpK i own ds k with
    |none=>rw[hq] at hn;cases hn
    |some o=>
     rw[hq] at hn;simp only at hn;rw[if_neg hgne,hgg,Int.toNat_natCast] at hn;obtain⟨ht,hd,hlen,ho⟩:=hS o hq;split at hn
     · cases hn
     ·
      rename_i hc;simp only[Option.some.injEq] at hn;subst hn;have hog:=ho g (by omega)
      have hTg:T.testBit g=false:=by
       cases hTg:T.testBit g with
       |false=>rfl
       |true=>
        exfalso
        have hGg:G.testBit g=false:=by
         cases hGg:G.testBit g with
         |false=>rfl
         |true=>rw[hd g hGg] at hTg;cases hTg
        rw[hGg] at hog;simp only[Bool.false_eq_true,if_false] at hog;exact hc ⟨by rw[hog];exact (hT g (by omega)).2 hTg,.inl (by rw[hog];exact hi g (by omega))⟩
      refine⟨?_,?_,by rw[List.length_set];exact hlen,?_⟩
      ·
       have:partK ds k=false:=by
        cases hp:partK ds k with
        |false=>rfl
        |true=>
         exfalso;rw[partK,inS,hg,Bool.and_eq_true,Bool.and_eq_true,decide_eq_true_eq,bne_iff_ne] at hp;obtain⟨⟨hk,hne⟩,hGg⟩:=hp;rw[hGg,if_pos rfl] at hog;exact hc ⟨by rw[hog];omega,.inr (.inr (fun e=>hne e.symm))⟩
       rw[togK,ht,this];rfl
      ·
       intro b hb;rw[or_bit,Bool.or_eq_true,decide_eq_true_eq] at hb;rcases hb with hb|rfl
       · exact hd b hb
       · exact hTg
      ·
       intro j hj;rw[set_getD o g _ j (by omega),or_bit];by_cases e:g=j
       · subst e;simp
       · rw[if_neg e,ho j hj];simp[e]
theorem work_same {dss:List (List Dd)}:∀n:Nat,(∀i,i<n→okL (dss.getD i [])=true)→∃T:Nat,T<4096∧takW dss n=(T:Int)∧T.testBit 0=false ∧
   (grpW dss n=none→rightsW dss n=false) ∧
   ∀o,grpW dss n=some o→rightsW dss n=true∧o.length=10∧(∀g,g<10→(o.getD g 0≠0↔T.testBit g=true))∧∀g,g<10→0≤o.getD g 0∧o.getD g 0≤(n:Int)
 | 0,_=>⟨0,by omega,rfl,by simp,by simp[grpW],by
   intro o ho;simp only[grpW,Option.some.injEq] at ho;subst ho;refine⟨rfl,by simp,fun g hg=>?_,fun g hg=>?_⟩
   · rw[List.getD_eq_getElem?_getD,List.getElem?_replicate,if_pos hg];simp
   · rw[List.getD_eq_getElem?_getD,List.getElem?_replicate,if_pos hg];simp⟩
 |n+1,hok=>by
  obtain⟨T,hT,htk,hT0,hN,hS⟩:=work_same n (fun i hi=>hok i (by omega));have okn:=hok n (by omega);simp only[okL,Bool.and_eq_true,decide_eq_true_eq] at okn;have hall:=okn.1;have hok2:∀j,j<(dss.getD n []).length→okD ((dss.getD n []).getD j zD)=true:=fun j hj=>all_get zD hall j hj
  obtain⟨G0,hG0,hgK0,hG00,-⟩:=clerk_same (i:=0) (own:=List.replicate 10 0) (T:=0) (ds:=dss.getD n []) (by simp) (fun g hg=>by rw[List.getD_eq_getElem?_getD,List.getElem?_replicate,if_pos hg];simp) (fun g hg=>by rw[List.getD_eq_getElem?_getD,List.getElem?_replicate,if_pos hg];simp) (by simp) (dss.getD n []).length hok2
  have hor:takW dss (n+1)=((T ||| G0:Nat):Int):=by
   rw[takW,htk,gC,hgK0,i64_or_nat T G0 (by omega) (by omega)]
  have hand:bits .and .i64 (gC (dss.getD n [])) (takW dss n)=((G0 &&& T:Nat):Int):=by
   rw[gC,hgK0,htk,i64_and_nat G0 T (by omega) (by omega)]
  have hR:rightB (dss.getD n []) (takW dss n)=(togK (dss.getD n []) (dss.getD n []).length&&decide (G0 &&& T=0)):=by
   rw[rightB,hall,decide_eq_true okn.2,hand];simp only[Bool.true_and]
   congr 1
   rw[Bool.eq_iff_iff,beq_iff_eq,decide_eq_true_eq];omega
  refine⟨T ||| G0,Nat.or_lt_two_pow (n:=12) hT hG0,hor,by rw[Nat.testBit_or,hT0,hG00];rfl,?_,?_⟩
  ·
   intro hn;rw[grpW] at hn
   cases hq:grpW dss n with
   |none=>rw[rightsW,hN hq];rfl
   |some o=>
    rw[hq] at hn;simp only at hn;obtain⟨hr,hl,hb,hle⟩:=hS o hq;obtain⟨G,hG,hgK,-,-,hN2,-⟩:=clerk_same (i:=n) (own:=o) (T:=T) (ds:=dss.getD n []) hl hb (fun g hg=>by have:=hle g hg;omega) hT0 (dss.getD n []).length hok2;obtain rfl:G=G0:=by rw[hgK0] at hgK;omega
    rw[rightsW,hr,hR];rcases hN2 hn with h|h
    · rw[h];rfl
    · rw[decide_eq_false (fun e=>h ((dis_iff _ _).2 e))];simp
  ·
   intro o' hn;rw[grpW] at hn
   cases hq:grpW dss n with
   |none=>rw[hq] at hn;cases hn
   |some o=>
    rw[hq] at hn;simp only at hn;obtain⟨hr,hl,hb,hle⟩:=hS o hq;obtain⟨G,hG,hgK,-,-,-,hS2⟩:=clerk_same (i:=n) (own:=o) (T:=T) (ds:=dss.getD n []) hl hb (fun g hg=>by have:=hle g hg;omega) hT0 (dss.getD n []).length hok2;obtain rfl:G=G0:=by rw[hgK0] at hgK;omega
    obtain⟨h1,h2,h3,h4⟩:=hS2 o' hn;refine⟨by rw[rightsW,hr,hR,h1,decide_eq_true ((dis_iff _ _).1 h2)];rfl,h3,fun g hg=>?_,fun g hg=>?_⟩
    ·
     rw[h4 g hg,Nat.testBit_or,Bool.or_eq_true];cases hGg:G.testBit g
     · simp only[Bool.false_eq_true,if_false,or_false];exact hb g hg
     · simp only[if_true,or_true,iff_true];omega
    ·
     rw[h4 g hg];have:=hle g hg;split<;>omega
theorem rights_same {dss:List (List Dd)}(h:dss.all okL=true):rightsW dss dss.length=grpB dss:=by
 obtain⟨T,-,-,-,hN,hS⟩:=work_same (dss:=dss) dss.length (fun i hi=>all_get [] h i hi);rw[grpB]
 cases hq:grpW dss dss.length with
 |none=>rw[hN hq];rfl
 |some o=>rw[(hS o hq).1];rfl
theorem rights_okL {dss:List (List Dd)}(h:rightsW dss dss.length=true):dss.all okL=true:=by
 refine all_of [] (fun i hi=>?_)
 cases hb:rightsW dss (i+1) with
 |false=>rw[rightsW_false hb _ hi] at h;cases h
 |true=>
  rw[rightsW,Bool.and_eq_true] at hb;have:=hb.2;simp only[rightB,Bool.and_eq_true] at this;rw[okL,this.1.1.2,Bool.true_and];exact this.1.1.1
theorem work_rights (dss:List (List Dd)):workB dss=(decide (1≤dss.length∧dss.length≤3)&&rightsW dss dss.length&&decide (lenW dss≤12)&&decide (evW dss dss.length≤6)):=by
 rw[workB]
 cases h:dss.all okL with
 |true=>
  rw[rights_same h];cases grpB dss<;>simp
 |false=>
  cases hr:rightsW dss dss.length with
  |false=>simp
  |true=>rw[rights_okL hr] at h;cases h
section
section
variable {P:Program} {md:Region.Mode} {ops:Array Oper} {Q:Exit→Act→World→Prop} {S:World→Prop}
theorem takeH (i d:Nat){oi:Oper}{v:Value}{fuel:Nat}{listed:Array Bool}{a:Act}{w:World}(hi:ops[i]? = some oi)(hd:oi.dst=some d)
  (hs:Region.noSelect ops=true) (hf:Region.free md ops listed i=true) (hr:(Region.ready md ops listed).contains i=true)
  (hQ:∀c a w,Q (.panic c) (a.put (some d) v) w→Q (.panic c) a w) (hw:Region.wanted oi (yielded ops a.tmps)=true) (hy:∀w,S w→(execOp a.eval oi).run P w = .ok (.value v) w) (hS:S w)
  (h:wpAnyH P md ops Q S fuel (listed.setIfInBounds i true) (a.put (some d) v) w):wpAnyH P md ops Q S (fuel+1) listed a w:=by
 rw[←hd] at hQ h;exact wpAnyH_take hi hs hf hr hQ (Or.inl ⟨hw,hy⟩) hS h
theorem takeQ (i d:Nat){oi:Oper}{v:Value}{fuel:Nat}{listed:Array Bool}{a:Act}{w:World}
  (hy:∀w,S w→(execOp a.eval oi).run P w = .ok (.value v) w) (h:wpAnyH P md ops Q S fuel (listed.setIfInBounds i true) (a.put (some d) v) w)
  (hi:ops[i]? = some oi:=by rfl) (hd:oi.dst=some d:=by rfl)
  (hs:Region.noSelect ops=true:=by kernel_rfl) (hf:Region.free md ops listed i=true:=by kernel_rfl) (hr:(Region.ready md ops listed).contains i=true:=by kernel_rfl)
  (hQ:∀c a w,Q (.panic c) (a.put (some d) v) w→Q (.panic c) a w:=by exact fun _ _ _ h=>h) (hw:Region.wanted oi (yielded ops a.tmps)=true:=by rfl) (hS:S w:=by assumption):wpAnyH P md ops Q S (fuel+1) listed a w:=
 takeH i d hi hd hs hf hr hQ hw hy hS h
theorem skipH (i d:Nat){oi:Oper}{fuel:Nat}{listed:Array Bool}{a:Act}{w:World}(hi:ops[i]? = some oi)(hd:oi.dst=some d)
  (hs:Region.noSelect ops=true) (hf:Region.free md ops listed i=true) (hr:(Region.ready md ops listed).contains i=true)
  (hQ:∀c a w,Q (.panic c) (a.put (some d) undef) w→Q (.panic c) a w) (hw:Region.wanted oi (yielded ops a.tmps)=false) (hS:S w)
  (h:wpAnyH P md ops Q S fuel (listed.setIfInBounds i true) (a.put (some d) undef) w):wpAnyH P md ops Q S (fuel+1) listed a w:=by
 rw[←hd] at hQ h;exact wpAnyH_take hi hs hf hr hQ (Or.inr ⟨hw,rfl⟩) hS h
end
end
abbrev dAt (dss:List (List Dd))(c k:Nat):Dd:=(dss.getD c []).getD k zD
def offN (dss:List (List Dd))(c k:Nat):Nat:=(clkE c (dss.getD c []) (evsW dss c) k).1.length
def numD (d:Dd):Nat:=if d.1=4 then 0 else if d.1=3 then 2 else 1
theorem oneE_num (i k:Nat)(d:Dd)(c:Int):(oneE i k d c).length=numD d:=by
 unfold oneE numD;split
 · rfl
 ·
  split
  · rfl
  · split<;>rfl
def clsD (dss:List (List Dd))(c k:Nat):Int:=clsE (dAt dss c k).2.2.2 (offN dss c k) (clkE c (dss.getD c []) (evsW dss c) k).2
theorem clk_step (dss:List (List Dd))(c k:Nat):(clkE c (dss.getD c []) (evsW dss c) (k+1)).1=(clkE c (dss.getD c []) (evsW dss c) k).1++oneE c k (dAt dss c k) (clsD dss c k):=by
 rw[clkE,stepE];split
 ·
  rename_i h;have e:oneE c k (dAt dss c k) (clsD dss c k)=[]:=by unfold oneE;rw[if_pos h]
  rw[e,List.append_nil]
 · rfl
theorem off_succ (dss:List (List Dd))(c k:Nat):offN dss c (k+1)=offN dss c k+numD (dAt dss c k):=by
 unfold offN;rw[clk_step,List.length_append,oneE_num]
theorem off_zero (dss:List (List Dd))(c:Nat):offN dss c 0=(evsW dss c).length:=rfl
theorem off_end (dss:List (List Dd))(c:Nat):(evsW dss (c+1)).length=offN dss c (dss.getD c []).length:=rfl
theorem clk_pre (dss:List (List Dd))(c k:Nat):∀n:Nat,k≤n→∃t,(clkE c (dss.getD c []) (evsW dss c) n).1=(clkE c (dss.getD c []) (evsW dss c) k).1++t
 | 0,h=>by
  obtain rfl:k=0:=by omega
  exact⟨[],by simp⟩
 |n+1,h=>by
  by_cases e:k=n+1
  · subst e;exact⟨[],by simp⟩
  ·
   obtain⟨t,ht⟩:=clk_pre dss c k n (by omega);exact⟨t++oneE c n (dAt dss c n) (clsD dss c n),by rw[clk_step,ht,List.append_assoc]⟩
theorem evs_pre (dss:List (List Dd))(c:Nat):∀n:Nat,c≤n→∃t,evsW dss n=evsW dss c++t
 | 0,h=>by
  obtain rfl:c=0:=by omega
  exact⟨[],by simp⟩
 |n+1,h=>by
  by_cases e:c=n+1
  · subst e;exact⟨[],by simp⟩
  ·
   obtain⟨t,ht⟩:=evs_pre dss c n (by omega);obtain⟨t2,h2⟩:=clk_pre dss n 0 (dss.getD n []).length (Nat.zero_le _);refine⟨t++t2,?_⟩;show (clkE n (dss.getD n []) (evsW dss n) (dss.getD n []).length).1=_;rw[h2];show evsW dss n++t2=_;rw[ht,List.append_assoc]
theorem es_at {dss:List (List Dd)}{c k n:Nat}(hc:c<n)(hk:k<(dss.getD c []).length){i:Nat}{e:Ev}(h:(oneE c k (dAt dss c k) (clsD dss c k))[i]? = some e):(evsW dss n)[offN dss c k+i]? = some e:=by
 obtain⟨t1,h1⟩:=evs_pre dss (c+1) n hc;obtain⟨t2,h2⟩:=clk_pre dss c (k+1) (dss.getD c []).length hk;rw[h1];refine at_left t1 ?_;show (clkE c (dss.getD c []) (evsW dss c) (dss.getD c []).length).1[offN dss c k+i]? = some e;rw[h2];refine at_left t2 ?_;rw[clk_step,List.getElem?_append_right (by unfold offN;omega)];show (oneE c k (dAt dss c k) (clsD dss c k))[offN dss c k+i-offN dss c k]? = some e;rw[show offN dss c k+i-offN dss c k=i by omega];exact h
theorem clk_dec (dss:List (List Dd))(c:Nat){j:Nat}(h0:offN dss c 0≤j):∀k:Nat,j<offN dss c k→∃k' i,k'<k∧i<numD (dAt dss c k')∧j=offN dss c k'+i
 | 0,h=>by omega
 |k+1,h=>by
  by_cases hj:j<offN dss c k
  ·
   obtain⟨k',i,h1,h2,h3⟩:=clk_dec dss c h0 k hj;exact⟨k',i,by omega,h2,h3⟩
  ·
   rw[off_succ] at h;exact⟨k,j-offN dss c k,by omega,by omega,by omega⟩
theorem es_dec (dss:List (List Dd)){j:Nat}(h3:3≤j):∀n:Nat,j<(evsW dss n).length→∃c k i,c<n∧k<(dss.getD c []).length∧i<numD (dAt dss c k)∧j=offN dss c k+i
 | 0,h=>by simp[evsW,evBeg] at h;omega
 |n+1,h=>by
  by_cases hj:j<(evsW dss n).length
  ·
   obtain⟨c,k,i,h1,h2⟩:=es_dec dss h3 n hj;exact⟨c,k,i,by omega,h2⟩
  ·
   rw[off_end] at h;obtain⟨k,i,h1,h2⟩:=clk_dec dss n (by rw[off_zero];omega) _ h;exact⟨n,k,i,by omega,h1,h2⟩
theorem off_le (dss:List (List Dd))(c:Nat){k k':Nat}(h:k≤k'):offN dss c k≤offN dss c k':=by
 obtain⟨t,ht⟩:=clk_pre dss c k k' h;unfold offN;rw[ht,List.length_append];omega
theorem off_lt {dss:List (List Dd)}{c c' k k':Nat}(hk:k<(dss.getD c []).length)(h:c<c'∨(c=c'∧k<k')):offN dss c k+numD (dAt dss c k)≤offN dss c' k':=by
 rcases h with h|⟨rfl,h⟩
 ·
  have h1:=off_le dss c (k:=k+1) (k':=(dss.getD c []).length) hk;rw[off_succ] at h1;obtain⟨t,ht⟩:=evs_pre dss (c+1) c' h;have h2:=off_le dss c' (Nat.zero_le k');rw[off_zero,ht,List.length_append,off_end] at h2;omega
 ·
  have h1:=off_le dss c (k:=k+1) (k':=k') h;rw[off_succ] at h1;exact h1
theorem off_three (dss:List (List Dd))(c k:Nat):3≤offN dss c k:=by
 obtain⟨t,ht⟩:=evs_pre dss 0 c (Nat.zero_le _);have h:=off_le dss c (Nat.zero_le k);rw[off_zero,ht,List.length_append] at h;simp[evsW,evBeg] at h;omega
def OkC (dss:List (List Dd))(c:Nat):Prop:=∀k,k<(dss.getD c []).length→okD (dAt dss c k)=true
theorem okC_of {dss:List (List Dd)}(h:workB dss=true){c:Nat}(hc:c<dss.length):OkC dss c:=by
 simp only[workB,Bool.and_eq_true,decide_eq_true_eq] at h;obtain⟨⟨⟨⟨_,h2⟩,_⟩,_⟩,_⟩:=h;have h3:=all_get [] h2 c hc;unfold okL at h3;rw[Bool.and_eq_true] at h3;exact fun k hk=>all_get zD h3.1 k hk
structure Told (dss:List (List Dd))(f rows:List Int):Prop where
 work:workB dss=true
 twelve:(eventsB dss).length≤12
 webs:Webs (eventsB dss) f rows
 src:srcB (chcL (eventsB dss)) f=true
 rws:rowsL (eventsB dss) rows=true
 pw:Web (eventsB dss).length (pwL (eventsB dss) f rows)
 pwl:∀i j,i<(eventsB dss).length→line (pwL (eventsB dss) f rows) i j=(line (plcL (eventsB dss)) i j||line (fwL (eventsB dss) f) i j||(line (rwL (eventsB dss) rows) i j||line (agL (eventsB dss) f rows) i j))
 sw:Web (eventsB dss).length (swL dss (eventsB dss) f rows)
 swl:∀i j,i<(eventsB dss).length→line (swL dss (eventsB dss) f rows) i j=(line (kepL dss (eventsB dss)) i j||line (owL (eventsB dss) f) i j||(line (rwL (eventsB dss) rows) i j||line (agL (eventsB dss) f rows) i j))
 xw:Web (eventsB dss).length (xwL (eventsB dss) f rows)
 xwl:∀i j,i<(eventsB dss).length→line (xwL (eventsB dss) f rows) i j=(line (behL (eventsB dss)) i j||line (fwL (eventsB dss) f) i j||(line (rwL (eventsB dss) rows) i j||line (agL (eventsB dss) f rows) i j))
 cls:(clsB (eventsB dss)).length=(eventsB dss).length
theorem told_of {dss:List (List Dd)}{f rows:List Int}(h:taleB dss f rows=true):Told dss f rows:=by
 obtain⟨hb,hs,hr⟩:=tale_use h;have hx:=eventsB_12 dss;have W:=webs_of hx hs hr;have p:=web_four (plc_line hx).1 W.fw W.rw' W.ag;have s:=web_four (kep_line (dss:=dss) hx).1 (ow_line W).1 W.rw' W.ag;have x:=web_four (beh_line hx).1 W.fw W.rw' W.ag;exact⟨hb,hx,W,hs,hr,p.1,p.2,s.1,s.2,x.1,x.2,by unfold clsB;rw[if_pos hx,List.length_map]⟩
theorem pwB_len (dss:List (List Dd))(f rows:List Int):(pwB dss f rows).length≤12:=by
 unfold pwB;split
 ·
  rename_i h;have T:=told_of h;rw[T.pw.2.1];exact T.twelve
 · simp
theorem swB_len (dss:List (List Dd))(f rows:List Int):(swB dss f rows).length≤12:=by
 unfold swB;split
 ·
  rename_i h;have T:=told_of h;rw[T.sw.2.1];exact T.twelve
 · simp
theorem xwB_len (dss:List (List Dd))(f rows:List Int):(xwB dss f rows).length≤12:=by
 unfold xwB;split
 ·
  rename_i h;have T:=told_of h;rw[T.xw.2.1];exact T.twelve
 · simp
theorem rd_at {es:List Ev}(hx:es.length≤12){i:Nat}(hi:i<(idxB rdE es).length):(0≤(idxB rdE es).getD i 0∧(idxB rdE es).getD i 0<(es.length:Int))∧(es.getD ((idxB rdE es).getD i 0).toNat zE).2.2.1=true:=by
 refine⟨rd_in hx hi,?_⟩
 have hm:(idxB rdE es).getD i 0∈idxB rdE es:=by
  rw[List.getD_eq_getElem?_getD,List.getElem?_eq_getElem hi];exact List.getElem_mem hi
 unfold idxB at hm ⊢;rw[if_pos hx] at hm ⊢;exact idxK_mem _ _ _ _ hm
theorem beg_wr {dss:List (List Dd)}(hb:workB dss=true){j:Nat}(hj:j<3):((eventsB dss).getD j zE).2.2.1=false:=by
 obtain⟨t,ht⟩:=(evs_good (dss:=dss) (by simp only[workB,Bool.and_eq_true,decide_eq_true_eq] at hb;intro i hi;have:=List.all_eq_true.1 hb.1.1.1.2 _ (List.getElem_mem hi);rw[List.getD_eq_getElem?_getD,List.getElem?_eq_getElem hi];exact this) dss.length (Nat.le_refl _)).1;rw[eventsB,if_pos hb,ht,List.getD_eq_getElem?_getD,List.getElem?_append_left (by simp[evBeg];omega)];have:j=0∨j=1∨j=2:=by omega
 rcases this with rfl|rfl|rfl<;>rfl
end Go.Proofs.YtgikcfdckddgpabGreat
