/- Gathered texts. -/
import Derived.Test.YtgakfkjjkobpiaaMD
set_option maxRecDepth 100000
set_option maxHeartbeats 8000000
namespace Go.Proofs.Ytgakfkjjkobpiaa
open Go.ChangeShapes Go.WideShapes Go.ChangeAt Go.RowKit
def RdS (w:World)(v:Value)(ws:List (List UInt8)):Prop:=
 ∃(a:Option Addr) (cap:Nat),v = .slice a ws.length cap ∧
  (ws=[]∨∃b off,a=some ⟨b,off,none⟩∧b<w.heap.size∧∀i,i<ws.length→w.cell? ⟨b,off+i,none⟩=some (strV (ws.getD i [])))
theorem RdS.keep {w w':World}{v:Value}{ws:List (List UInt8)}(h:RdS w v ws)(k:Keep w w'):RdS w' v ws:=by
 obtain⟨a,cap,hv,h⟩:=h;refine⟨a,cap,hv,?_⟩;rcases h with h|⟨b,off,ha,hb,hc⟩
 · exact .inl h
 · exact .inr ⟨b,off,ha,Nat.lt_of_lt_of_le hb k.size,fun i hi=>(k.cell hb).trans (hc i hi)⟩
def OwnS (w:World)(base:Nat)(v:Value)(ws:List (List UInt8)):Prop:=w.ownsRow base 9 1 v ws.length (ws.map strV)
theorem OwnS.keep {w w':World}{base:Nat}{v:Value}{ws:List (List UInt8)}(h:OwnS w base v ws)(k:Keep w w'):OwnS w' base v ws:=
 World.ownsRow.kept h k.grownBy (by cases v.ownBlock<;>simp)
theorem OwnS.rd {w:World}{base:Nat}{v:Value}{ws:List (List UInt8)}(h:OwnS w base v ws):RdS w v ws:=by
 have hlt:=World.ownsRow.lt h;rcases h.2 with ⟨rfl,hn⟩|⟨g,cap,cur,rfl,hb,hg,rest⟩
 ·
  have:ws=[]:=List.eq_nil_of_length_eq_zero hn;subst this;exact⟨none,0,rfl,.inl rfl⟩
 ·
  refine⟨some ⟨g,0,none⟩,cap,rfl,.inr ⟨g,0,rfl,(hlt g rfl).2,fun i hi=>?_⟩⟩;have hc:=World.ownsRow.cellAt h i (by simpa using hi);rw[Nat.zero_add,hc,List.getElem?_map,List.getElem?_eq_getElem hi,List.getD_eq_getElem?_getD,List.getElem?_eq_getElem hi];rfl
theorem OwnS.ge {w:World}{base:Nat}{v:Value}{ws:List (List UInt8)}(h:OwnS w base v ws):∀k,v.ownBlock=some k→base≤k:=fun k hk=>(World.ownsRow.lt h k hk).1
def LowB (b:Bd):Prop:=(∀c,(b.nts.getD c []).length≤7)∧∀p,(b.rws.getD p []).length≤15
theorem mi_low {dss:List (List Dd)}{b:Bd}{a:Ab}{τ:Nat→Nat}{T:Nat}{z:Int}(M:MI dss b a τ T z):(∀c,(b.nts.getD c []).length≤6)∧∀p,(b.rws.getD p []).length≤9:=by
 have h9:=ev_nine dss;have R:=M.rep;have I:=M.inv;refine⟨fun c=>?_,fun p=>?_⟩
 ·
  by_cases hc:c<dss.length
  ·
   rw[R.nts,map_at _ _ hc,List.length_map]
   have hnd:(a.N c).Nodup:=by
    have:=I.nord (c:Int);rw[st_N] at this;exact this.imp (fun h=>Nat.ne_of_lt h)
   have:=nodup_len (lo:=3) (n:=(eventsB dss).length) hnd (fun x hx=>by
    have hx':x∈(stA dss a τ).N (c:Int):=by rw[st_N];exact hx
    have:=I.note (c:Int) x hx'
    exact⟨this.2.1,I.lt x this.1⟩)
   omega
  · rw[List.getD_eq_getElem?_getD,List.getElem?_eq_none (by rw[R.nts,List.length_map,List.length_range];omega)];simp
 ·
  by_cases hp:p<3
  ·
   rw[R.rws,map_at _ _ hp,List.length_map];have:=nodup_len (lo:=0) (n:=(eventsB dss).length) (I.rnod p) (fun x hx=>⟨Nat.zero_le _,I.lt x ((I.rows p x).1 hx).1.1⟩);have e:(stA dss a τ).R p=a.R p:=rfl;rw[e] at this;omega
  · rw[List.getD_eq_getElem?_getD,List.getElem?_eq_none (by rw[R.rws,List.length_map,List.length_range];omega)];simp
theorem Run.low {dss:List (List Dd)}{b:Bd}(h:Run dss b):(∀c,(b.nts.getD c []).length≤6)∧∀p,(b.rws.getD p []).length≤9:=by
 obtain⟨a,τ,T,z,M,-⟩:=h;exact mi_low M
theorem low_of {b:Bd}(h:(∀c,(b.nts.getD c []).length≤6)∧∀p,(b.rws.getD p []).length≤9):LowB b:=⟨fun c=>by have:=h.1 c;omega,fun p=>by have:=h.2 p;omega⟩
end Go.Proofs.Ytgakfkjjkobpiaa
