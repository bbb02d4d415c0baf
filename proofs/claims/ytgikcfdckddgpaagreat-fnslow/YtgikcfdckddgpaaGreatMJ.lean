/- Gathered texts. -/
import Derived.Test.YtgikcfdckddgpaaGreatMB
import Derived.Maps.AppendAt
import Derived.RegionTactic
set_option maxRecDepth 100000
set_option maxHeartbeats 8000000
namespace Go.Proofs.YtgikcfdckddgpaaGreat
open Go.ChangeShapes Go.WideShapes Go.ChangeAt Go.RowKit
open Go.RowKit
def mapK (f:Int→Int)(a:List Int)(k:Nat):List Int:=(a.map f).take k++List.replicate (a.length-k) 0
theorem mapK_len (f:Int→Int)(a:List Int){k:Nat}(hk:k≤a.length):(mapK f a k).length=a.length:=by
 unfold mapK;rw[List.length_append,List.length_take,List.length_map,List.length_replicate];omega
theorem mapK_zero (f:Int→Int)(a:List Int):mapK f a 0=List.replicate a.length 0:=by simp[mapK]
theorem mapK_end (f:Int→Int)(a:List Int):mapK f a a.length=a.map f:=by
 unfold mapK;rw[Nat.sub_self,List.replicate_zero,List.append_nil,List.take_of_length_le (by simp)]
theorem mapK_set (f:Int→Int)(a:List Int){k:Nat}(hk:k<a.length):(mapK f a k).set k (f (a.getD k 0))=mapK f a (k+1):=by
 unfold mapK;have hz:k<(a.map f).length:=by simpa using hk
 have hl:((a.map f).take k).length=k:=by rw[List.length_take];omega
 rw[List.set_append_right _ _ (by omega),hl,Nat.sub_self,show a.length-k=(a.length-(k+1))+1 from by omega,List.replicate_succ,List.set_cons_zero,List.take_succ_eq_append_getElem hz,List.append_assoc,List.getElem_map,List.getD_eq_getElem?_getD,List.getElem?_eq_getElem hk];rfl
theorem mapK_same (f:Int→Int)(a:List Int){k:Nat}(hk:k<a.length):(mapK f a k).set k 0=mapK f a k:=by
 unfold mapK;have hl:((a.map f).take k).length=k:=by rw[List.length_take,List.length_map];omega
 rw[List.set_append_right _ _ (by omega),hl,Nat.sub_self,show a.length-k=(a.length-(k+1))+1 from by omega,List.replicate_succ,List.set_cons_zero]
def mateS (cl:List Int)(c:Int):Nat→Int
 | 0=>0
 |m+1=>if c=cl.getD m 0 then gAdd (mateS cl c m) m else mateS cl c m
def matesL (cl:List Int):List Int:=cl.map fun c=>mateS cl c cl.length
theorem ok_mate {n:Nat}(hn:n≤12)(cl:List Int)(c:Int)(m:Nat)(hm:m≤n):okB n (mateS cl c m)=true∧∀j:Nat,inSetB (mateS cl c m) j=true↔j<m∧c=cl.getD j 0:=by
 induction m with
 |zero=>exact⟨ok_zero hn,fun j=>by rw[show mateS cl c 0=0 from rfl,zero_bit];simp⟩
 |succ m ih=>
  have ih:=ih (by omega);unfold mateS;by_cases hc:c=cl.getD m 0
  ·
   rw[if_pos hc];have ha:=ok_add ih.1 (show m<n by omega);refine⟨ha.1,fun j=>?_⟩;rw[ha.2 j,Bool.or_eq_true,ih.2 j,decide_eq_true_eq];constructor
   ·
    rintro (⟨h1,h2⟩|h)
    · exact⟨by omega,h2⟩
    · subst h;exact⟨by omega,hc⟩
   ·
    rintro⟨h1,h2⟩;by_cases e:m=j
    · exact .inr e
    · exact .inl ⟨by omega,h2⟩
  ·
   rw[if_neg hc];refine⟨ih.1,fun j=>?_⟩;rw[ih.2 j];constructor
   · rintro⟨h1,h2⟩;exact⟨by omega,h2⟩
   ·
    rintro⟨h1,h2⟩;have:j≠m:=fun e=>hc (by rw[←e];exact h2)
    exact⟨by omega,h2⟩
theorem web_mates {n:Nat}(hn:n≤12){cl:List Int}(hc:cl.length=n):Web n (matesL cl)∧∀i j,i<n→(line (matesL cl) i j=true↔j<n∧cl.getD i 0=cl.getD j 0):=by
 have hg:∀i,i<n→(matesL cl).getD i 0=mateS cl (cl.getD i 0) n:=by
  intro i hi;unfold matesL;subst hc;rw[List.getD_eq_getElem?_getD,List.getElem?_map,List.getD_eq_getElem?_getD,List.getElem?_eq_getElem hi];rfl
 refine⟨⟨hn,by simp[matesL,hc],fun i hi=>?_⟩,fun i j hi=>?_⟩
 · rw[hg i hi];exact (ok_mate hn cl _ n (Nat.le_refl _)).1
 ·
  unfold line;rw[hg i hi];exact (ok_mate hn cl _ n (Nat.le_refl _)).2 j
theorem lift_mates {n:Nat}{zs cl:List Int}(hz:Web n zs)(hc:cl.length=n):mixL notI (thenL (thenL (matesL cl) zs) (matesL cl)) (matesL cl)=liftL zs cl:=by
 have hm:=web_mates hz.1 hc;have h1:=web_then hm.1 hz;have h2:=web_then h1.1 hm.1;have h3:=web_less h2.1 hm.1;have hl:=web_lift hz hc;refine h3.1.ext hl.1 fun i j hi hj=>?_
 rw[Bool.eq_iff_iff,h3.2 i j hi,Bool.and_eq_true,h2.2 i j hi,hl.2.2 i j hi,Bool.not_eq_true',←Bool.not_eq_true,hm.2 i j hi];constructor
 ·
  rintro⟨⟨b,hb,hab,hbj⟩,hne⟩;obtain⟨a,ha,hia,hline⟩:=(h1.2 i b hi).1 hab;have e1:=((hm.2 i a hi).1 hia).2;have e2:=((hm.2 b j hb).1 hbj).2;exact⟨hj,fun e=>hne ⟨hj,e.symm⟩,a,b,ha,hb,e1.symm,e2,hline⟩
 ·
  rintro⟨_,hne,a,b,ha,hb,e1,e2,hline⟩;exact⟨⟨b,hb,(h1.2 i b hi).2 ⟨a,ha,(hm.2 i a hi).2 ⟨ha,e1.symm⟩,hline⟩,(hm.2 b j hb).2 ⟨hj,e2⟩⟩,fun h=>hne h.2.symm⟩
theorem step_append_at {P:Program}{w:World}{ops:Array Oper}{o:Oper}{a:Act}{K:Act→World→Prop}{Q:Exit→Act→World→Prop}{E:Prop}(hgd:o.guard=none)(s x:Operand)(t:TypeId)
  (ho:o.op = .call { callee:= .builtin .append,args:=#[s,x],argTypes:=#[t,t] })
  (base:Nat) (e:TypeId) (i:TypeInfo) (z:Value) (size bytes:Nat) (ht:P.underlying t=some (.slice e)) (hi:P.info? e=some i) (hz:i.zero=some z)
  (hsize:i.size=size) (hby:i.bytes=bytes) (hzs:z.cells.size=size) (hsz:0<size)
  (v:Value) (n:Nat) (xs:List Value) (hs:a.eval s=v) (hown:w.ownsRow base e size v n xs)
  (ad:Addr) (m c:Nat) (news:List Value) (hx:a.eval x = .slice (some ad) m c) (hl:news.length=m*size) (hnews:∀j u,news[j]? = some u→w.cell? (ad.add j)=some u) (h1:∀u∈news,u.oneCell'=true)
  (h63:n+m≤maxLen) (hbytes:(n+m)*bytes≤140737488355328) (hbase:base≤w.heap.size)
  (h:∀v' w',w'.ownsRow base e size v' (n+m) (xs++news)→w.grownBy w' v.ownBlock→(v'.ownBlock=v.ownBlock∨v'.ownBlock=some w.heap.size)→K (a.put o.dst v') w'):
  if Region.wanted o (yielded ops a.tmps)=true then Oper.wp P o a w K Q else E:=by
 have hw:Region.wanted o (yielded ops a.tmps)=true:=by simp[Region.wanted,hgd]
 rw[if_pos hw];obtain⟨v',w',hr,h2,h3,h4,h5⟩:=run_append_own_at (P:=P) w base t o.type e i z size bytes ht hi hz hsize hby hzs hsz v n xs hown ad m c news hl hnews h1 h63 hbytes hbase;unfold Oper.wp execOp;simp only[ho,resolve,invoke,builtin,Sem.run_bind,Sem.run_pure,Result.andThen_ok,List.map_toArray,List.map_cons,List.map_nil,hs,hx,hr];exact h v' w' h2 h3 h5
def RdS (w:World)(v:Value)(ws:List (List UInt8)):Prop:=
 ∃(a:Option Addr) (cap:Nat),v = .slice a ws.length cap ∧
  (ws=[]∨∃b off,a=some ⟨b,off,none⟩∧b<w.heap.size∧∀i,i<ws.length→w.cell? ⟨b,off+i,none⟩=some (strV (ws.getD i [])))
theorem RdS.keep {w w':World}{v:Value}{ws:List (List UInt8)}(h:RdS w v ws)(k:Keep w w'):RdS w' v ws:=by
 obtain⟨a,cap,hv,h⟩:=h;refine⟨a,cap,hv,?_⟩;rcases h with h|⟨b,off,ha,hb,hc⟩
 · exact .inl h
 · exact .inr ⟨b,off,ha,Nat.lt_of_lt_of_le hb k.size,fun i hi=>(k.cell hb).trans (hc i hi)⟩
def OwnS (w:World)(base:Nat)(v:Value)(ws:List (List UInt8)):Prop:=w.ownsRow base 9 1 v ws.length (ws.map strV)
theorem OwnS.keep {w w':World}{base:Nat}{v:Value}{ws:List (List UInt8)}(h:OwnS w base v ws)(k:Keep w w'):OwnS w' base v ws:=
 World.ownsRow.kept h k.grownBy (by cases v.ownBlock<;>simp)
theorem OwnS.rd {w:World}{base:Nat}{v:Value}{ws:List (List UInt8)}(h:OwnS w base v ws):RdS w v ws:=by
 have hlt:=World.ownsRow.lt h;rcases h.2 with ⟨rfl,hn⟩|⟨g,cap,cur,rfl,hb,hg,rest⟩
 ·
  have:ws=[]:=List.eq_nil_of_length_eq_zero hn;subst this;exact⟨none,0,rfl,.inl rfl⟩
 ·
  refine⟨some ⟨g,0,none⟩,cap,rfl,.inr ⟨g,0,rfl,(hlt g rfl).2,fun i hi=>?_⟩⟩;have hc:=World.ownsRow.cellAt h i (by simpa using hi);rw[Nat.zero_add,hc,List.getElem?_map,List.getElem?_eq_getElem hi,List.getD_eq_getElem?_getD,List.getElem?_eq_getElem hi];rfl
theorem OwnS.ge {w:World}{base:Nat}{v:Value}{ws:List (List UInt8)}(h:OwnS w base v ws):∀k,v.ownBlock=some k→base≤k:=fun k hk=>(World.ownsRow.lt h k hk).1
theorem Own.setAt {w:World}{base g n cap:Nat}{zs:List Int}(h:Own w base (.slice (some ⟨g,0,none⟩) n cap) zs)(j:Nat)(x:Int):Own (w.setCell ⟨g,j,none⟩ (.int .i64 x)) base (.slice (some ⟨g,0,none⟩) n cap) (zs.set j x):=by
 obtain⟨h1,h2⟩:=h;refine⟨by simp,?_⟩;rcases h2 with ⟨h,_⟩|⟨g',cap',cur,e,hg,hh,r1,r2,r3,r4⟩
 · cases h
 ·
  cases e;refine .inr ⟨g,cap,cur.setIfInBounds j (.int .i64 x),by simp,hg,heap_setCell_same w g j _ _ _ hh,by simpa using r1,r2,by simpa using r3,?_⟩;rw[Nat.mul_one] at r4 ⊢;rw[Array.toList_setIfInBounds];exact take_set_val _ zs j x r4
theorem Own.cut {w:World}{base g n cap:Nat}{zs:List Int}(h:Own w base (.slice (some ⟨g,0,none⟩) n cap) zs){m:Nat}(hm:m≤zs.length):Own w base (.slice (some ⟨g,0,none⟩) m cap) (zs.take m):=by
 obtain⟨h1,h2⟩:=h;have hl:(zs.take m).length=m:=by rw[List.length_take];omega
 refine⟨by simp,?_⟩;rw[hl];rcases h2 with ⟨h,_⟩|⟨g',cap',cur,e,hg,hh,r1,r2,r3,r4⟩
 · cases h
 ·
  cases e;refine .inr ⟨g,cap,cur,rfl,hg,hh,by omega,r2,r3,?_⟩;rw[Nat.mul_one] at r4 ⊢;have e1:=congrArg (List.take m) r4;rw[List.take_take,Nat.min_eq_left hm,←List.map_take] at e1;exact e1
theorem Own.len {w:World}{base g n cap:Nat}{zs:List Int}(h:Own w base (.slice (some ⟨g,0,none⟩) n cap) zs):n=zs.length:=by
 rcases h.2 with ⟨h,_⟩|⟨g',cap',cur,e,_⟩
 · cases h
 · cases e;rfl
theorem Own.rowAt {w:World}{base g n cap:Nat}{zs:List Int}(h:Own w base (.slice (some ⟨g,0,none⟩) n cap) zs):RowAt w g zs:=by
 rcases h.2 with ⟨h,_⟩|⟨g',cap',cur,e,hg,hh,r1,r2,r3,r4⟩
 · cases h
 ·
  cases e;exact⟨cur,_,hh,by rw[Nat.mul_one] at r4;exact r4⟩
theorem rd_cells {w:World}{b off:Nat}{zs:List Int}(hc:∀i,i<zs.length→w.cell? ⟨b,off+i,none⟩=some (.int .i64 (zs.getD i 0))):
  ∀j u,(zs.map (Value.int .i64))[j]? = some u→w.cell? ((⟨b,off,none⟩:Addr).add j)=some u:=by
 intro j u hj;rw[List.getElem?_map] at hj
 have hjl:j<zs.length:=by
  apply Classical.byContradiction;intro hno;rw[List.getElem?_eq_none (by omega)] at hj;cases hj
 have e1:(⟨b,off,none⟩:Addr).add j=⟨b,off+j,none⟩:=by unfold Addr.add;split<;>simp_all
 rw[e1,hc j hjl,List.getD_eq_getElem?_getD];rw[List.getElem?_eq_getElem hjl] at hj ⊢
 simpa using hj
theorem ints_one (zs:List Int):∀u∈zs.map (Value.int .i64),u.oneCell'=true:=by
 intro u hu;obtain⟨y,_,rfl⟩:=List.mem_map.1 hu;rfl
theorem evs_parts {dss:List (List Dd)}(hb:workB dss=true):(idxB rdE (eventsB dss)).length≤6∧∀p,p<3→0<(plcW (eventsB dss) p).length∧(plcW (eventsB dss) p).length≤7:=by
 obtain⟨h12,hl,hsum,_,_⟩:=events_law hb
 have h9:(evsW dss dss.length).length≤9:=by
  simp only[workB,Bool.and_eq_true,decide_eq_true_eq] at hb;obtain⟨⟨⟨⟨_,_⟩,_⟩,h4⟩,_⟩:=hb;omega
 have p0:=(plcW_first hb 0 (by decide)).1;have p1:=(plcW_first hb 1 (by decide)).1;have p2:=(plcW_first hb 2 (by decide)).1
 have e:∀f,idxB f (eventsB dss)=idxK f (evsW dss dss.length) (evsW dss dss.length).length:=fun f=>by
  unfold idxB;rw[eventsB,if_pos hb,if_pos h12]
 unfold plcW at p0 p1 p2 ⊢;rw[e] at p0 p1 p2 ⊢;refine⟨?_,fun p hp=>?_⟩
 ·
  have q0:(idxK (toE ((0:Nat):Int)) (evsW dss dss.length) (evsW dss dss.length).length).length=(idxK (toE 0) (evsW dss dss.length) (evsW dss dss.length).length).length:=rfl;have q1:(idxK (toE ((1:Nat):Int)) (evsW dss dss.length) (evsW dss dss.length).length).length=(idxK (toE 1) (evsW dss dss.length) (evsW dss dss.length).length).length:=rfl;have q2:(idxK (toE ((2:Nat):Int)) (evsW dss dss.length) (evsW dss dss.length).length).length=(idxK (toE 2) (evsW dss dss.length) (evsW dss dss.length).length).length:=rfl;omega
 ·
  have q0:(idxK (toE ((0:Nat):Int)) (evsW dss dss.length) (evsW dss dss.length).length).length=(idxK (toE 0) (evsW dss dss.length) (evsW dss dss.length).length).length:=rfl;have q1:(idxK (toE ((1:Nat):Int)) (evsW dss dss.length) (evsW dss dss.length).length).length=(idxK (toE 1) (evsW dss dss.length) (evsW dss dss.length).length).length:=rfl;have q2:(idxK (toE ((2:Nat):Int)) (evsW dss dss.length) (evsW dss dss.length).length).length=(idxK (toE 2) (evsW dss dss.length) (evsW dss dss.length).length).length:=rfl;rw[e];have:p=0∨p=1∨p=2:=by omega
  rcases this with rfl|rfl|rfl
  · exact⟨p0,by omega⟩
  · exact⟨p1,by omega⟩
  · exact⟨p2,by omega⟩
theorem cnt_nine {c:List (List Int)}(hb:∀i,i<c.length→(c.getD i []).length≤9):∀k:Nat,k≤c.length→0≤cntK c k∧cntK c k≤9 ^ k
 | 0,_=>by simp[cntK]
 |k+1,h=>by
  obtain⟨h1,h2⟩:=cnt_nine hb k (by omega);have h3:=hb k (by omega);rw[cntK];refine⟨Int.mul_nonneg h1 (Int.natCast_nonneg _),?_⟩;rw[Int.pow_succ];exact Int.mul_le_mul h2 (by omega) (Int.natCast_nonneg _) (Int.le_trans h1 h2)
theorem cnt_six {dss:List (List Dd)}(hb:workB dss=true):0≤cntB dss∧cntB dss≤531441:=by
 obtain⟨h6,_⟩:=evs_parts hb;have hl:(chcL (eventsB dss)).length=(idxB rdE (eventsB dss)).length:=chcK_len _ _ _
 have h9:(eventsB dss).length≤9:=by
  rw[eventsB,if_pos hb];have:=(events_law hb).2.1;simp only[workB,Bool.and_eq_true,decide_eq_true_eq] at hb;obtain⟨⟨⟨⟨_,_⟩,_⟩,h4⟩,_⟩:=hb;omega
 have each:∀i,i<(chcL (eventsB dss)).length→((chcL (eventsB dss)).getD i []).length≤9:=fun i hi=>by
  unfold chcL;rw[chcK_get _ _ _ _ (by rw[hl] at hi;exact hi)];unfold idxB;rw[if_pos (by omega)];have:=idxK_len (toE (plE (eventsB dss) ((if (eventsB dss).length≤12 then idxK rdE (eventsB dss) (eventsB dss).length else []).getD i 0))) (eventsB dss) (eventsB dss).length;omega
 have h1:=cnt_nine each _ (Nat.le_refl _);have h2:∀j:Nat,j≤6→(9:Int) ^ j≤531441:=by decide +kernel
 rw[cntB,if_pos hb];exact⟨h1.1,Int.le_trans h1.2 (h2 _ (by omega))⟩
theorem rcnt_six {dss:List (List Dd)}(hb:workB dss=true):0<rcntB dss∧rcntB dss≤373248000:=by
 obtain⟨_,hp⟩:=evs_parts hb;have top:∀j:Nat,j≤6→fac j≤720:=by decide +kernel
 have f0:=fac_pos ((plcW (eventsB dss) 0).length-1);have f1:=fac_pos ((plcW (eventsB dss) 1).length-1);have f2:=fac_pos ((plcW (eventsB dss) 2).length-1);have t0:=top _ (show (plcW (eventsB dss) 0).length-1≤6 by have:=(hp 0 (by decide)).2;omega);have t1:=top _ (show (plcW (eventsB dss) 1).length-1≤6 by have:=(hp 1 (by decide)).2;omega);have t2:=top _ (show (plcW (eventsB dss) 2).length-1≤6 by have:=(hp 2 (by decide)).2;omega);rw[rcntB,if_pos hb];unfold rcntL;refine⟨Int.mul_pos (Int.mul_pos f0 f1) f2,?_⟩;have m1:fac ((plcW (eventsB dss) 0).length-1)*fac ((plcW (eventsB dss) 1).length-1)≤720*720:=Int.mul_le_mul t0 t1 (by omega) (by decide);have m2:fac ((plcW (eventsB dss) 0).length-1)*fac ((plcW (eventsB dss) 1).length-1)*fac ((plcW (eventsB dss) 2).length-1)≤720*720*720:=Int.mul_le_mul m1 t2 (by omega) (by decide);omega
theorem tcB_in (dss:List (List Dd)):-1≤tcB dss∧tcB dss≤198359290368000:=by
 unfold tcB;split
 ·
  rename_i hb;obtain⟨a0,a1⟩:=cnt_six hb;obtain⟨b0,b1⟩:=rcnt_six hb;have m:cntB dss*rcntB dss≤531441*373248000:=Int.mul_le_mul a1 b1 (by omega) (by decide);exact⟨by have:=Int.mul_nonneg a0 (Int.le_of_lt b0);omega,by omega⟩
 · decide
end Go.Proofs.YtgikcfdckddgpaaGreat
