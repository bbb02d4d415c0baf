/- Gathered texts. -/
import Derived.Test.YtkmjmnljkidobaaGreatMI
import Derived.OpenShut
import Derived.Outline
import Derived.Laws.CopyOwn
import Derived.ChangeKeysEq
import Derived.RegionTactic
import Derived.BigRegion
import Derived.BigQuiet
import Derived.Lib.Hide
import Derived.Test.YtkmjmnljkidobaaGreatMH
import Derived.Shelf.RegionOpenPlain
import Derived.Deep.LoopGhost
import Derived.Deep.Draws
import Derived.Lib.SliceRun
import Derived.Lib.SlicesCompact
set_option maxRecDepth 100000
set_option maxHeartbeats 8000000
namespace Go.Proofs.YtkmjmnljkidobaaGreat
open Go.ChangeShapes Go.WideShapes Go.ChangeAt Go.RowKit
open Go.ChangeShapes Go.WideShapes Go.ChangeAt Go.RowKit Go.Shelf Go.Sort Go.Lib
def wrB (E:List (List Int))(n:Int):List Int:=if 0≤n∧n<(E.length:Int) then E.getD n.toNat [] else []
def wcB (E:List (List Int))(n:Int):Int:=if 0≤n∧n<(E.length:Int) then n else (E.length:Int)
structure Wk (ss:List (List Int))(n:Int)(rows:List Int)(last:Int)(met:Nat)(T:List (Option (List Int))):Prop where
 come:T.filterMap id=(allS ss []).drop met
 top:met≤(allS ss []).length
 low:n<0∨(met:Int)≤n
 len:rows.length≤ss.length
 lst:-1≤last
 pos:∀x∈rows,0≤x
theorem Wk.start (ss:List (List Int))(n:Int):Wk ss n [] (-1) 0 (comeT ss [] (-1)):=by
 refine⟨?_,Nat.zero_le _,by omega,Nat.zero_le _,by decide,by simp⟩
 have e:comeT ss [] (-1)=allT ss []:=by
  unfold comeT;rw[here_all];exact List.append_nil _
 rw[e,all_found,List.drop_zero]
theorem Wk.nil {ss:List (List Int)}{n:Int}{rows:List Int}{last:Int}{met:Nat}{T:List (Option (List Int))}(h:Wk ss n rows last met T)(hT:T=[]):wcB (allS ss []) n=(met:Int)∧wrB (allS ss []) n=[]:=by
 have hc:=h.come;rw[hT,List.filterMap_nil] at hc;have hl:=congrArg List.length hc;rw[List.length_drop,List.length_nil] at hl;have:=h.top;have:=h.low;unfold wcB wrB;rw[if_neg (by omega),if_neg (by omega)];exact⟨by omega,rfl⟩
theorem Wk.back {ss:List (List Int)}{n:Int}{r':List Int}{x last:Int}{met:Nat}{T T':List (Option (List Int))}(h:Wk ss n (r'++[x]) last met T)(hT:T=T'):Wk ss n r' x met T':=by
 have hl:=h.len;rw[List.length_append,List.length_singleton] at hl;have:=h.pos x (by simp);exact⟨by rw[←hT];exact h.come,h.top,h.low,by omega,by omega,fun y hy=>h.pos y (by simp[hy])⟩
theorem Wk.fail {ss:List (List Int)}{n:Int}{rows:List Int}{last last':Int}{met:Nat}{T T':List (Option (List Int))}(h:Wk ss n rows last met T)(hT:T=none::T')(hl:-1≤last'):Wk ss n rows last' met T':=by
 have hc:=h.come;rw[hT,List.filterMap_cons] at hc;exact⟨hc,h.top,h.low,h.len,hl,h.pos⟩
theorem Wk.give {ss:List (List Int)}{n:Int}{rows:List Int}{last x:Int}{met:Nat}{T T':List (Option (List Int))}(h:Wk ss n rows last met T)(hT:T=none::T')(hx:0≤x)(hlt:rows.length<ss.length):Wk ss n (rows++[x]) (-1) met T':=by
 have hc:=h.come;rw[hT,List.filterMap_cons] at hc;refine⟨hc,h.top,h.low,by rw[List.length_append,List.length_singleton];omega,by decide,fun y hy=>?_⟩;rcases List.mem_append.1 hy with hy|hy
 · exact h.pos y hy
 ·
  rw[List.mem_singleton] at hy;omega
theorem Wk.met {ss:List (List Int)}{n:Int}{rows:List Int}{last:Int}{met:Nat}{T T':List (Option (List Int))}(h:Wk ss n rows last met T)(hT:T=some rows::T'):
  met<(allS ss []).length∧(allS ss []).getD met []=rows∧T'.filterMap id=(allS ss []).drop (met+1):=by
 have hc:=h.come;rw[hT,List.filterMap_cons] at hc
 have hl:met<(allS ss []).length:=by
  apply Classical.byContradiction;intro hn;rw[List.drop_of_length_le (by omega)] at hc;cases hc
 rw[List.drop_eq_getElem_cons hl] at hc;simp only[id,List.cons.injEq] at hc;refine⟨hl,?_,hc.2⟩;rw[List.getD_eq_getElem?_getD,List.getElem?_eq_getElem hl];exact hc.1.symm
theorem Wk.hit {ss:List (List Int)}{n:Int}{rows:List Int}{last:Int}{met:Nat}{T T':List (Option (List Int))}(h:Wk ss n rows last met T)(hT:T=some rows::T')(hn:(met:Int)=n):wcB (allS ss []) n=(met:Int)∧wrB (allS ss []) n=rows:=by
 obtain⟨h1,h2,_⟩:=h.met hT;unfold wcB wrB;rw[if_pos (by omega),if_pos (by omega),←hn,Int.toNat_natCast];exact⟨rfl,h2⟩
theorem Wk.pass {ss:List (List Int)}{n:Int}{rows:List Int}{last:Int}{met:Nat}{T T':List (Option (List Int))}(h:Wk ss n rows last met T)(hT:T=some rows::T')(hn:(met:Int)≠n):Wk ss n rows last (met+1) T':=by
 obtain⟨h1,h2,h3⟩:=h.met hT;have:=h.low;exact⟨h3,by omega,by omega,h.len,h.lst,h.pos⟩
theorem wrap_small {n:Int}(h:0≤n∧n<4611686018427387904):IntKind.i64.wrap n=n:=by
 rw[IntKind.wrap_i64];omega
theorem Own.short {w:World}{base:Nat}{ar:Option Addr}{cr:Nat}{r':List Int}{x:Int}{n:Nat}(h:Own w base (.slice ar n cr) (r'++[x])):
  ∃g,ar=some ⟨g,0,none⟩∧Own w base (.slice (some ⟨g,0,none⟩) r'.length cr) r'∧w.cell? ⟨g,r'.length,none⟩=some (.int .i64 x)∧r'.length+1≤cr:=by
 have hrd:=h.rd;unfold Own World.ownsRow at h;rcases h.2 with ⟨h1,h2⟩|⟨g,cap,cur,hv,hb,hg,hc,hm,hs,ht⟩
 · simp at h2
 ·
  simp only[Value.slice.injEq] at hv;obtain⟨rfl,rfl,rfl⟩:=hv;rw[List.length_append,List.length_singleton] at hc;refine⟨g,rfl,⟨by simp,.inr ⟨g,cr,cur,rfl,hb,hg,by omega,hm,hs,?_⟩⟩,?_,hc⟩
  ·
   rw[Nat.mul_one,List.length_append,List.length_singleton] at ht;have:=congrArg (List.take r'.length) ht;rw[List.take_take,Nat.min_eq_left (by omega),List.map_append,List.take_append_of_le_length (by simp)] at this;have e:(r'.map (Value.int .i64)).take r'.length=r'.map (Value.int .i64):=List.take_of_length_le (by simp);rw[e] at this;rw[Nat.mul_one];exact this
  ·
   obtain⟨a,c,he,hr⟩:=hrd;simp only[Value.slice.injEq] at he;obtain⟨rfl,_,rfl⟩:=he;rcases hr with hr|⟨b,off,he,hb2,hcell⟩
   · simp at hr
   ·
    simp only[Option.some.injEq,Addr.mk.injEq,and_true] at he;obtain⟨rfl,rfl⟩:=he;have:=hcell r'.length (by simp);rw[Nat.zero_add,List.getD_eq_getElem?_getD,List.getElem?_append_right (Nat.le_refl _),Nat.sub_self] at this;exact this
def atBack (w:World)(a0:Option Addr)(c0:Nat)(ss:List (List Int))(n:Int):Nat→Act→World→Prop:=fun m a wr=>∃(rows:List Int) (vr:Value) (met:Nat) (last:Int),m=2*(backT ss rows rows.length).length+1∧Wk ss n rows last met (backT ss rows rows.length)∧Own wr w.heap.size vr rows∧Keep w wr∧∃(u9 u10 u11 u12 u13 u14 u15 u16 u17 u18 u19 u20 u21 u22 u23 u24 u25 u26 u27 u28 u29 u30 u31 u32 u33 u34 u35 u36 u37 u38 u39 u40 u41 u42 u43 u44 u45 u46 u47 u48 u49 u50 u51:Value),a={ tmps:=#[.slice a0 ss.length c0,.int .i64 n,undef,undef,.slice none 0 0,.int .i64 0,vr,.int .i64 met,.int .i64 last,u9,u10,u11,u12,u13,u14,u15,u16,u17,u18,u19,u20,u21,u22,u23,u24,u25,u26,u27,u28,u29,u30,u31,u32,u33,u34,u35,u36,u37,u38,u39,u40,u41,u42,u43,u44,u45,u46,u47,u48,u49,u50,u51],defers:=[] }
def atOn (w:World)(a0:Option Addr)(c0:Nat)(ss:List (List Int))(n:Int):Nat→Act→World→Prop:=fun m a wr=>∃(rows:List Int) (vr:Value) (met:Nat) (last:Int),m=2*(comeT ss rows last).length∧Wk ss n rows last met (comeT ss rows last)∧Own wr w.heap.size vr rows∧Keep w wr∧∃(u9 u10 u11 u12 u13 u14 u15 u16 u17 u18 u19 u20 u21 u22 u23 u24 u25 u26 u27 u28 u29 u30 u31 u32 u33 u34 u35 u36 u37 u38 u39 u40 u41 u42 u43 u44 u45 u46 u47 u48 u49 u50 u51:Value),a={ tmps:=#[.slice a0 ss.length c0,.int .i64 n,undef,undef,.slice none 0 0,.int .i64 0,vr,.int .i64 met,.int .i64 last,u9,u10,u11,u12,u13,u14,u15,u16,u17,u18,u19,u20,u21,u22,u23,u24,u25,u26,u27,u28,u29,u30,u31,u32,u33,u34,u35,u36,u37,u38,u39,u40,u41,u42,u43,u44,u45,u46,u47,u48,u49,u50,u51],defers:=[] }
theorem walkedRows_any (w:World)(v:Value)(ss:List (List Int))(n:Int)(h:RdL w v ss)(hsl:ss.length≤1048576)(hs:∀i,i<ss.length→(ss.getD i []).Pairwise (·<·)∧(ss.getD i []).length≤1048576)(hE:(allS ss []).length≤1000000000000000000):
  Calls Tryz.prog 141 #[v,.int .i64 n] w fun e w'=>∃v',e = .returned (.tuple #[v',.int .i64 (wcB (allS ss []) n)])∧Own w' w.heap.size v' (wrB (allS ss []) n)∧Keep w w':=by
 have hL:=h;obtain⟨a0,c0,rfl,-⟩:=id h;have hown0:Own (w.alloc (.cells #[] 2)) w.heap.size (.slice (some ⟨w.heap.size,0,none⟩) 0 0) []:=World.ownsRow_lit w #[] 0 (Nat.le_refl _) (by decide) rfl;have K0:Keep w (w.alloc (.cells #[] 2)):=(Keep.refl w).alloc _;obtain⟨i0,hi,hz0,hz1,hz2⟩:=info_parts Tryz.infoI;have hS:=Lib.hid hs;clear h hs;have W0:=Wk.start ss n;go_enter Tryz.func141,Tryz.ntmps141
 go_wp2;refine wp_scope_two (atBack w a0 c0 ss n) (atOn w a0 c0 ss n) rfl rfl ?pass0 ?pass1 ?first
 case pass0=>
  rintro m a wr ⟨rows,vr,met,last,hm,hW,hO,hK,u9,u10,u11,u12,u13,u14,u15,u16,u17,u18,u19,u20,u21,u22,u23,u24,u25,u26,u27,u28,u29,u30,u31,u32,u33,u34,u35,u36,u37,u38,u39,u40,u41,u42,u43,u44,u45,u46,u47,u48,u49,u50,u51,rfl⟩;obtain⟨ar,cr,rfl,-⟩:=id hO.rd;have HM0:=Lib.hid hm;have RS:=hL;clear hown0 K0 W0 hm;by_cases h0:rows.length=0
  ·
   have hr0:rows=[]:=List.eq_nil_of_length_eq_zero h0;have hb0:((rows.length:Int)==0)=true:=by simp[h0]
   have HA:Hid (wcB (allS ss []) n=(met:Int)∧wrB (allS ss []) n=rows):=Lib.hid (by rw[hr0];exact hW.nil (by rw[hr0];rfl));clear h0 hr0 hW hS RS hL;go_wp2;rw[below2_ret];go_ret2
   exact⟨.slice ar rows.length cr,by rw[HA.out.1];rfl,by rw[HA.out.2];exact hO,hK⟩
  ·
   obtain⟨r',x,hrx⟩:∃r' x,rows=r'++[x]:=⟨rows.dropLast,rows.getLast (fun e=>h0 (by rw[e];rfl)),(List.dropLast_concat_getLast _).symm⟩;subst hrx;have hlen:(r'++[x]).length=r'.length+1:=by simp
   have HC:Hid (backT ss (r'++[x]) (r'++[x]).length=comeT ss r' x):=Lib.hid (back_snoc ss r' x);have hb0:(((r'.length+1:Nat):Int)==0)=false:=by simp;omega
   have hW':=hW.back HC.out;have HM:Hid (2*(comeT ss r' x).length<m):=Lib.hid (by rw[←HC.out];have:=HM0.out;omega);have hrl:=hW'.len;obtain⟨g,hg,hO',hcell,hcap⟩:=hO.short;subst hg
   have i1:IntKind.i64.wrap (((r'.length+1:Nat):Int)-1)=(r'.length:Int):=by
    have:((r'.length+1:Nat):Int)-1=(r'.length:Int):=by omega
    rw[this];exact wrap_small (by omega)
   have i2:(0:Int)≤(r'.length:Int):=Int.natCast_nonneg _;have i3:(r'.length:Int)<((r'.length+1:Nat):Int):=by omega
   have i4:(r'.length:Int)≤(cr:Int):=by omega
   rw[hlen];clear h0 hW hS RS hL hO HC hlen;go_wp2;go_step3;refine below2_to1 ?_;exact⟨_,HM.out,r',_,met,x,rfl,hW',hO',hK,_,_,_,_,_,_,_,_,_,_,_,_,_,_,_,_,_,_,_,_,_,_,_,_,_,_,_,_,_,_,_,_,_,_,_,_,_,_,_,_,_,_,_,rfl⟩
 case pass1=>
  intro m pass0;rintro a wr ⟨rows,vr,met,last,hm,hW,hO,hK,u9,u10,u11,u12,u13,u14,u15,u16,u17,u18,u19,u20,u21,u22,u23,u24,u25,u26,u27,u28,u29,u30,u31,u32,u33,u34,u35,u36,u37,u38,u39,u40,u41,u42,u43,u44,u45,u46,u47,u48,u49,u50,u51,rfl⟩;obtain⟨ar,cr,rfl,-⟩:=id hO.rd;have HM0:=Lib.hid hm;have PB:=Lib.hid pass0;clear hown0 K0 W0 hm pass0;have hwl:=hW.len;by_cases hfull:rows.length=ss.length
  ·
   have HF:Hid (comeT ss rows last=some rows::backT ss rows rows.length):=Lib.hid (come_full hfull);have hb1:((rows.length:Int)==(ss.length:Int))=true:=by simp[hfull]
   have hb1':((ss.length:Int)==(rows.length:Int))=true:=by simp[hfull]
   clear hfull;by_cases hmn:(met:Int)=n
   ·
    have HA:Hid (wcB (allS ss []) n=(met:Int)∧wrB (allS ss []) n=rows):=Lib.hid (hW.hit HF.out hmn);have hb2:((met:Int)==n)=true:=by simp[hmn]
    clear hmn hW hS hL PB hwl;go_wp2;rw[below2_ret];go_ret2
    exact⟨.slice ar rows.length cr,by rw[HA.out.1];rfl,by rw[HA.out.2];exact hO,hK⟩
   ·
    have hW2:=hW.pass HF.out hmn;have hb2:((met:Int)==n)=false:=by simp[hmn]
    have htop:=hW2.top
    have i1:IntKind.i64.wrap ((met:Int)+1)=((met+1:Nat):Int):=by
     have:(met:Int)+1=((met+1:Nat):Int):=by omega
     rw[this];exact wrap_small (by omega)
    have HM:Hid (2*(backT ss rows rows.length).length+1<m):=Lib.hid (by rw[HM0.out,HF.out,List.length_cons];omega);clear hmn hW hS hL PB hwl htop;go_wp2;go_step3;refine below2_to0 ?_;exact⟨_,HM.out,rows,_,met+1,last,rfl,hW2,hO,hK,_,_,_,_,_,_,_,_,_,_,_,_,_,_,_,_,_,_,_,_,_,_,_,_,_,_,_,_,_,_,_,_,_,_,_,_,_,_,_,_,_,_,_,rfl⟩
  ·
   have hlt:rows.length<ss.length:=by omega
   have hb1:((rows.length:Int)==(ss.length:Int))=false:=by simp;omega
   have RS:=hL.keep hK;obtain⟨a',c',he',RS⟩:=RS;simp only[Value.slice.injEq,true_and] at he';obtain⟨rfl,rfl⟩:=he';rcases RS with h0|⟨b,o,rfl,hb,hc⟩
   · exfalso;rw[h0] at hlt;simp at hlt
   obtain⟨vi,d1,r2⟩:=hc rows.length hlt;obtain⟨hs1,hs2⟩:=hS.out rows.length hlt;have j1:(0:Int)≤(rows.length:Int):=Int.natCast_nonneg _;have j2:(rows.length:Int)<(ss.length:Int):=by omega
   have C:=nextFor_any wr vi _ (ss.getD rows.length []) rows last r2 hO.rd hs2 (by omega);obtain⟨az,cz,hvi,-⟩:=id r2;have hsz:=hK.size;rcases hnx:nextL (ss.getD rows.length []) rows last with _|⟨x,t⟩
   ·
    have HF:Hid (comeT ss rows last=none::backT ss rows rows.length):=Lib.hid (come_none hlt hnx);have hnb:nextB (ss.getD rows.length []) rows last=-1:=by unfold nextB;rw[hnx];rfl
    rw[hnb] at C;have hW2:=hW.fail HF.out (last':=-1) (by decide);have HM:Hid (2*(backT ss rows rows.length).length+1<m):=Lib.hid (by rw[HM0.out,HF.out,List.length_cons];omega);have hrb:((-1:Int) != -1)=false:=by decide
    clear hc hs1 hs2 hnx hnb hS hL hW hfull r2 hb hwl;generalize (ss.getD rows.length []).length=sl at hvi;subst hvi;go_wp2_with fail
    refine C.mono ?_;rintro e w5 ⟨rfl,rfl⟩;clear C;go_wp2;go_step3;simp only[Exit.then];rename_i hkk;apply hkk;exact PB.out _ _ _ HM.out ⟨rows,_,met,-1,rfl,hW2,hO,hK,_,_,_,_,_,_,_,_,_,_,_,_,_,_,_,_,_,_,_,_,_,_,_,_,_,_,_,_,_,_,_,_,_,_,_,_,_,_,_,_,_,_,_,rfl⟩
   ·
    obtain⟨-,hx1,-⟩:=next_step hs1 hnx;have hx0:0≤x:=by have:=hW.lst;omega
    have HF:Hid (comeT ss rows last=none::comeT ss (rows++[x]) (-1)):=Lib.hid (come_give hlt hs1 hnx);have hnb:nextB (ss.getD rows.length []) rows last=x:=by unfold nextB;rw[hnx];rfl
    rw[hnb] at C;have hW2:=hW.give HF.out hx0 hlt;have HM:Hid (2*(comeT ss (rows++[x]) (-1)).length<m):=Lib.hid (by rw[HM0.out,HF.out,List.length_cons];omega);have hrb:(x != -1)=true:=by simp;omega
    clear hc hs1 hs2 hnx hnb hS hL hW hfull r2 hb PB hx1;generalize (ss.getD rows.length []).length=sl at hvi;subst hvi;go_wp2_with fail
    refine C.mono ?_;rintro e w5 ⟨rfl,rfl⟩;clear C;go_wp2_with (at_builtin;refine wpList_append_own _ rfl _ _ 50 rfl w.heap.size 2 i0 (.int .i64 0) 1 8 Tryz.underlying50 hi hz0 hz1 hz2 rfl (by decide) _ _ _ rfl (World.ownsRow.alloc hO _) ⟨_,0,none⟩ 1 1 [.int .i64 x] rfl rfl ?c1 ?c2 ?c3 ?c4 ?c5 ?_)
    case c1=>
     intro j u hj
     match j,hj with
     | 0,hj=>simp at hj;subst hj;simp[Addr.add]
    case c2=>intro u hu;simp at hu;subst hu;rfl
    case c3=>unfold maxLen;omega
    case c4=>omega
    case c5=>simp;omega
    intro v' w2 hown' hgrow _;have hK2:Keep w w2:=(hK.alloc _).grown hgrow hO.ge;have hO2:=own_hit hown';clear hgrow hown' hO hK;go_wp2;go_step3;refine below2_to1 ?_;exact⟨_,HM.out,rows++[x],v',met,-1,rfl,hW2,hO2,hK2,_,_,_,_,_,_,_,_,_,_,_,_,_,_,_,_,_,_,_,_,_,_,_,_,_,_,_,_,_,_,_,_,_,_,_,_,_,_,_,_,_,_,_,rfl⟩
 case first=>
  intro P1;have PB:=Lib.hid P1;clear P1;go_wp2;go_step3;simp only[Exit.then];rename_i hkk;apply hkk;refine PB.out _ _ _ ⟨[],_,0,-1,rfl,W0,hown0,K0,_,_,_,_,_,_,_,_,_,_,_,_,_,_,_,_,_,_,_,_,_,_,_,_,_,_,_,_,_,_,_,_,_,_,_,_,_,_,_,_,_,_,_,rfl⟩
theorem size_any (w:World)(a:Option Addr)(len cap:Nat):
  Calls Tryz.prog 288 #[.slice a len cap] w fun e w'=>e = .returned (.int .i64 len)∧w'=w:=by
 go_enter Tryz.func288,Tryz.ntmps288
 go_wp2;go_ret;exact⟨rfl,rfl⟩
theorem webRight_any (w:World)(v:Value)(zs:List Int)(h:Rd w v zs)(hn:zs.length≤1048576):
  Calls Tryz.prog 262 #[v] w fun e w'=>e = .returned (.bool (webB zs))∧w'=w:=by
 obtain⟨a,c,rfl,h⟩:=h;go_enter Tryz.func262,Tryz.ntmps262
 go_wp2;go_loop [7] (fun i=>∃k:Nat,k≤zs.length∧i = .int .i64 k∧∀j,j<k→okB zs.length (zs.getD j 0)=true) (fun i=>zs.length-(intOf i).toNat)
 case atStart=>exact⟨0,Nat.zero_le _,rfl,fun j hj=>by omega⟩
 case round=>
  obtain⟨k,hk,rfl,hall⟩:=hrel;have HA:Hid (∀j,j<k→okB zs.length (zs.getD j 0)=true):=hall;clear hall;by_cases hlt:k<zs.length
  ·
   rcases h with h|⟨b,o,rfl,hb,hc⟩
   · exfalso;rw[h] at hlt;simp at hlt
   have d0:=hc k hlt;obtain⟨p,hp⟩:∃p,p=zs.getD k 0:=⟨_,rfl⟩;have HP:Hid (p=zs.getD k 0):=hp;rw[←hp] at d0;clear hc hp;cases hok:okB zs.length p
   ·
    go_wp2_with (first|(go_at_call 288;refine (size_any _ _ _ _).mono ?_;rintro e w' ⟨rfl,rfl⟩)|(go_at_call 282;refine (isOf_any _ _ _).mono ?_;rintro e w' ⟨rfl,rfl⟩))
    go_ret;exact⟨ret_bool (webB_bad hlt (by rw[←HP.out];exact hok)).symm,rfl⟩
   ·
    go_wp2_with (first|(go_at_call 288;refine (size_any _ _ _ _).mono ?_;rintro e w' ⟨rfl,rfl⟩)|(go_at_call 282;refine (isOf_any _ _ _).mono ?_;rintro e w' ⟨rfl,rfl⟩))
    go_round
    case rel=>
     refine⟨k+1,by omega,by go_num,fun j hj=>?_⟩;by_cases e:j=k
     · subst e;rw[←HP.out];exact hok
     · exact HA.out j (by omega)
    case measure=>simp[intOf];omega
  ·
   go_wp2;go_ret;exact⟨ret_bool (webB_all fun i hi=>HA.out i (by omega)).symm,rfl⟩
theorem implWebOk_any (w:World)(v:Value)(zs:List Int)(h:Rd w v zs)(hn:zs.length≤1048576):
  Calls Tryz.prog 214 #[v] w fun e w'=>e = .returned (.bool (webB zs))∧w'=w:=by
 go_enter Tryz.func214,Tryz.ntmps214
 go_wp2_with (go_at_call 262;refine (webRight_any _ _ _ h hn).mono ?_;rintro e w' ⟨rfl,rfl⟩)
 go_ret;exact⟨rfl,rfl⟩
theorem areAlike_any (w:World)(v1 v2:Value)(xs ys:List Int)(h1:Rd w v1 xs)(h2:Rd w v2 ys)(n1:xs.length≤1048576)(n2:ys.length≤1048576):
  Calls Tryz.prog 267 #[v1,v2] w fun e w'=>e = .returned (.bool (twoB xs ys))∧w'=w:=by
 have r1:=h1;have r2:=h2;obtain⟨a1,c1,rfl,_⟩:=r1;obtain⟨a2,c2,rfl,_⟩:=r2;by_cases hl:xs.length=ys.length
 ·
  have hlb:((xs.length:Int)==(ys.length:Int))=true:=by simp[hl]
  have HL:Hid (xs.length=ys.length):=hl;clear hl;cases ha:webB xs
  ·
   go_enter Tryz.func267,Tryz.ntmps267
   go_wp2_with fail
   refine (webRight_any _ _ _ h1 n1).mono ?_;rintro e w' ⟨rfl,rfl⟩;go_wp2;go_ret;exact⟨ret_bool (by simp[twoB,ha]),rfl⟩
  ·
   go_enter Tryz.func267,Tryz.ntmps267
   go_wp2_with fail
   refine (webRight_any _ _ _ h1 n1).mono ?_;rintro e w' ⟨rfl,rfl⟩;go_wp2_with fail
   refine (webRight_any _ _ _ h2 n2).mono ?_;rintro e w' ⟨rfl,rfl⟩;go_wp2;go_ret;exact⟨ret_bool (by simp[twoB,ha,HL.out]),rfl⟩
 ·
  have hlb:((xs.length:Int)==(ys.length:Int))=false:=by simp;omega
  have HL:Hid (¬xs.length=ys.length):=hl;clear hl;go_enter Tryz.func267,Tryz.ntmps267
  go_wp2;go_ret;exact⟨ret_bool (by simp[twoB,HL.out]),rfl⟩
theorem take_zeros (n:Nat)(h:n≤12):(List.replicate 12 (Value.int .i64 0)).take n=(List.replicate n (0:Int)).map (Value.int .i64):=by
 rw[List.take_replicate,List.map_replicate,Nat.min_eq_left h]
theorem blank_any (w:World)(n:Nat)(hn:n≤12):
  Calls Tryz.prog 263 #[.int .i64 n] w fun e w'=>e = .returned (.slice (some ⟨w.heap.size,0,none⟩) n n)∧RowAt w' w.heap.size (List.replicate n 0)∧Keep w w':=by
 have i1:(0:Int)≤(n:Int):=Int.natCast_nonneg _;have i2:(n:Int)≤12:=by omega
 have i3:(n:Int)≤(n:Int):=Int.le_refl _;go_enter Tryz.func263,Tryz.ntmps263
 go_wp2;go_ret;refine⟨?_,⟨_,_,heap_alloc_new w _,?_⟩,(Keep.refl w).alloc _⟩
 · rfl
 · rw[List.length_replicate];exact take_zeros n hn
theorem owned_any (w:World)(v:Value)(zs:List Int)(h:Rd w v zs)(hn:zs.length≤12):
  Calls Tryz.prog 261 #[v] w fun e w'=>e = .returned (.slice (some ⟨w.heap.size,0,none⟩) zs.length zs.length)∧RowAt w' w.heap.size zs∧Keep w w':=by
 obtain⟨a,c,rfl,h⟩:=h;go_enter Tryz.func261,Tryz.ntmps261
 go_wp2_with fail
 refine (blank_any _ _ hn).mono ?_;rintro e w1 ⟨rfl,⟨cur,t,hh,ht⟩,k1⟩
 have hl:zs.length≤cur.size:=by
  have:=congrArg List.length ht;simp at this;omega
 have hsz:(Tryz.prog.info? 2).map (·.size)=some 1:=by
  have:=Tryz.infoI
  cases hi:Tryz.prog.info? 2 with
  |none=>rw[hi] at this;cases this
  |some i=>rw[hi] at this;simp at this ⊢;exact this.2.1
 have hg0:w1.heap[w.heap.size]? = some (.cells cur.toList.toArray t (0,0)):=by simpa using hh
 have hn0:(zs.map (Value.int .i64)).length=Nat.min zs.length zs.length:=by simp
 have hp0:0<(zs.map (Value.int .i64)).length→∃ad,a=some ad∧∀j v,(zs.map (Value.int .i64))[j]? = some v→w1.cell? (ad.add j)=some v:=by
  intro hpos;rcases h with h|⟨b,o,rfl,hb,hc⟩
  · rw[h] at hpos;simp at hpos
  ·
   refine⟨_,rfl,fun j u hj=>?_⟩;rw[List.getElem?_map] at hj
   have hjl:j<zs.length:=by
    apply Classical.byContradiction;intro hno;rw[List.getElem?_eq_none (by omega)] at hj;cases hj
   have e1:(⟨b,o,none⟩:Addr).add j=⟨b,o+j,none⟩:=by unfold Addr.add;split<;>simp_all
   rw[e1,k1.cell hb,hc j hjl,List.getD_eq_getElem?_getD];rw[List.getElem?_eq_getElem hjl] at hj ⊢
   simpa using hj
 have hf0:0+(zs.map (Value.int .i64)).length≤cur.toList.length:=by simp;omega
 have h10:∀v∈zs.map (Value.int .i64),v.oneCell'=true:=by
  intro u hu;obtain⟨x,_,rfl⟩:=List.mem_map.1 hu;rfl
 clear h hh ht hl;go_wp2_with (refine wpList_copy_splice rfl _ _ _ _ rfl 2 Tryz.underlying213 hsz _ _ _ _ _ _ rfl rfl w.heap.size 0 cur.toList t hg0 (zs.map (Value.int .i64)) hn0 (fun hp=>⟨rfl,hp0 hp⟩) hf0 h10 w.heap.size w k1 (Nat.le_refl _) ?_)
 intro w2 hh2 k2;have HH:=hh2.out;clear hh2;go_wp2;go_ret;refine⟨rfl,⟨_,t,HH,?_⟩,k2⟩;simp[splice]
theorem or_any (s t:Int)(w:World):
  Calls Tryz.prog 189 #[.int .i64 s,.int .i64 t] w fun e w'=>e = .returned (.int .i64 (orI s t))∧w'=w:=by
 go_enter Tryz.func189,Tryz.ntmps189
 go_wp2;go_ret;exact⟨rfl,rfl⟩
theorem mixed_or (w:World)(v1 v2:Value)(xs ys:List Int)(h1:Rd w v1 xs)(h2:Rd w v2 ys)(n1:xs.length≤1048576)(n2:ys.length≤1048576):
  Calls Tryz.prog 265 #[v1,v2,.func (Fn.func 189) #[] #[]] w fun e w'=>∃v',e = .returned v'∧Row w' w.heap.size v' (mixL orI xs ys)∧Keep w w':=by
 have r1:=h1;have r2:=h2;obtain⟨a1,c1,rfl,_⟩:=r1;obtain⟨a2,c2,rfl,_⟩:=r2;cases ht:twoB xs ys
 ·
  go_enter Tryz.func265,Tryz.ntmps265
  go_wp2_with fail
  refine (areAlike_any _ _ _ _ _ h1 h2 n1 n2).mono ?_;rintro e w' ⟨rfl,rfl⟩;go_wp2;go_ret;exact⟨_,rfl,by unfold mixL;rw[ht];exact row_empty _ _,(Keep.refl _).alloc _⟩
 ·
  obtain⟨hl,wx,wy⟩:=twoB_iff.1 ht;have hx12:=webB_len wx;have hy12:=webB_len wy;have HL:Hid (xs.length=ys.length):=hl;have HM:Hid (mixL orI xs ys=List.zipWith orI xs ys):=by show mixL orI xs ys=_;unfold mixL;rw[ht];rfl
  clear wx wy;have hl1:xs.length≤ys.length:=by omega
  have hl2:ys.length≤xs.length:=by omega
  clear hl;go_enter Tryz.func265,Tryz.ntmps265
  go_wp2_with fail
  refine (areAlike_any _ _ _ _ _ h1 h2 n1 n2).mono ?_;rintro e w' ⟨rfl,rfl⟩;go_wp2_with fail
  refine (owned_any _ _ _ h1 hx12).mono ?_;rintro e w1 ⟨rfl,ro,k1⟩;go_wp2_with fail
  obtain⟨a,c,hv,h2⟩:=h2;cases hv;go_loopw [19] (fun i wr=>∃k:Nat,k≤ys.length∧i = .int .i64 k∧RowAt wr w'.heap.size (mixK orI xs ys k)∧Keep w' wr) (fun i _=>ys.length-(intOf i).toNat)
  case atStart=>exact⟨0,Nat.zero_le _,rfl,ro,k1⟩
  case round=>
   obtain⟨k,hk,rfl,hr,hK⟩:=hrel;clear ro k1;by_cases hlt:k<ys.length
   ·
    rcases h2 with h|⟨b,o,rfl,hb,hc⟩
    · exfalso;rw[h] at hlt;simp at hlt
    have hkx:k<xs.length:=by omega
    have d0:=(hK.cell hb).trans (hc k hlt);have d1:=hr.cell (j:=k) (by rw[mixK_len orI HL.out];exact hkx);rw[mixK_get orI HL.out hkx] at d1;have d2:=hr.free k;have hs:=hr.set k (orI (xs.getD k 0) (ys.getD k 0));rw[mixK_set orI HL.out hkx] at hs;have hK2:Keep w' (wr.setCell ⟨w'.heap.size,k,none⟩ (.int .i64 (orI (xs.getD k 0) (ys.getD k 0)))):=hK.grown (grown_set wr w'.heap.size k _) (by simp);generalize xs.getD k 0=p at *;generalize ys.getD k 0=q at *;clear hc;go_wp2_with fail
    refine (or_any _ _ _).mono ?_;rintro e w2 ⟨rfl,rfl⟩;go_wp2;go_roundw;case rel=>exact⟨k+1,by omega,by go_num,hs,hK2⟩
    case measure=>simp[intOf];omega
   ·
    obtain rfl:k=ys.length:=by omega
    go_wp2;go_ret;refine⟨_,rfl,?_,hK⟩;rw[HM.out];rw[←HL.out,mixK_end orI HL.out] at hr;exact row_new hr (Nat.le_refl _) (by rw[List.length_zipWith];omega)
theorem implJoined_any (w:World)(v1 v2:Value)(xs ys:List Int)(h1:Rd w v1 xs)(h2:Rd w v2 ys)(n1:xs.length≤1048576)(n2:ys.length≤1048576):
  Calls Tryz.prog 222 #[v1,v2] w fun e w'=>∃v',e = .returned v'∧Row w' w.heap.size v' (mixL orI xs ys)∧Keep w w':=by
 go_enter Tryz.func222,Tryz.ntmps222
 go_wp2_with fail
 refine (mixed_or _ _ _ _ _ h1 h2 n1 n2).mono ?_;rintro e w2 ⟨v',rfl,o,k⟩;go_wp2;go_ret;exact⟨_,rfl,o,k⟩
theorem toOne_four (w:World)(G:Nat)(v0 v1 v2 v3:Value)(a b c d:List Int)(hG:w.heap[G]? = some (.cells #[v0,v1,v2,v3] 50 (0,0)))(h0:Rd w v0 a)(h1:Rd w v1 b)(h2:Rd w v2 c)(h3:Rd w v3 d)(l0:a.length≤1048576)(l1:b.length≤1048576)(l2:c.length≤1048576)(l3:d.length≤1048576):
  Calls Tryz.prog 221 #[.slice (some ⟨G,0,none⟩) 4 4,.func (Fn.func 222) #[] #[]] w fun e w'=>∃v',e = .returned v'∧Row w' w.heap.size v' (chnL a b c d)∧Keep w w':=by
 have hGl:G<w.heap.size:=(Array.getElem?_eq_some_iff.1 hG).1;have c0:w.cell? ⟨G,0,none⟩=some v0:=by rw[cell_of_row w G 0 _ _ _ hG];rfl
 have c1:w.cell? ⟨G,1,none⟩=some v1:=by rw[cell_of_row w G 1 _ _ _ hG];rfl
 have c2:w.cell? ⟨G,2,none⟩=some v2:=by rw[cell_of_row w G 2 _ _ _ hG];rfl
 have c3:w.cell? ⟨G,3,none⟩=some v3:=by rw[cell_of_row w G 3 _ _ _ hG];rfl
 have lm:=fun (a b:List Int)=>(show (mixL orI a b).length≤1048576 by have:=mixL_len orI a b;omega)
 clear hG;obtain⟨A0,C0,rfl,-⟩:=id h0;obtain⟨A1,C1,rfl,-⟩:=id h1;obtain⟨A2,C2,rfl,-⟩:=id h2;obtain⟨A3,C3,rfl,-⟩:=id h3;go_enter Tryz.func221,Tryz.ntmps221
 go_wp2;refine wp_loop_rounds 5 ?_;rw[rounds_succ];go_wp2;rw[rounds_succ];go_wp2_with fail
 refine (implJoined_any _ _ _ _ _ h0 h1 l0 l1).mono ?_;rintro e w1 ⟨u1,rfl,o1,k1⟩;have s1:=k1.size;have K1:=k1;have r1:=o1.rd;replace c2:=(k1.cell hGl).trans c2;replace c3:=(k1.cell hGl).trans c3;replace h2:=h2.keep k1;replace h3:=h3.keep k1;have g1:G<w1.heap.size:=Nat.lt_of_lt_of_le hGl s1;clear h0 h1 c0 c1 o1 k1;obtain⟨B1,D1,rfl,-⟩:=id r1;go_wp2;rw[rounds_succ];go_wp2_with fail
 refine (implJoined_any _ _ _ _ _ r1 h2 (lm _ _) l2).mono ?_;rintro e w2 ⟨u2,rfl,o2,k2⟩;have s2:=k2.size;have K2:=K1.trans k2;have r2:=o2.rd;replace c3:=(k2.cell g1).trans c3;replace h3:=h3.keep k2;have g2:G<w2.heap.size:=Nat.lt_of_lt_of_le g1 s2;clear h2 c2 o2 k2 r1 K1;obtain⟨B2,D2,rfl,-⟩:=id r2;go_wp2;rw[rounds_succ];go_wp2_with fail
 refine (implJoined_any _ _ _ _ _ r2 h3 (lm _ _) l3).mono ?_;rintro e w3 ⟨u3,rfl,o3,k3⟩;have K3:=K2.trans k3;have b3:w.heap.size≤w2.heap.size:=K2.size;have O3:Row w3 w.heap.size u3 (chnL a b c d):=o3.base_le b3;clear h3 c3 o3 k3 r2 K2;obtain⟨B3,D3,rfl,-⟩:=id O3.rd;go_wp2;rw[rounds_succ];go_wp2;go_ret;exact⟨_,rfl,O3,K3⟩
theorem line_any (w:World)(g n cap:Nat)(st:List Int)(j:Nat)(i:Int)(hr:RowAt w g st)(hn:st.length=n)(hj:j<n):
  Calls Tryz.prog 264 #[.slice (some ⟨g,0,none⟩) n cap,.int .i64 j,.int .i64 i] w fun e w'=>e = .returned (.tuple #[])∧RowAt w' g (st.set j (gAdd (st.getD j 0) i))∧w.grownBy w' (some g):=by
 have d1:=hr.cell (j:=j) (by omega);have d2:=hr.free j;have hs:=hr.set j (gAdd (st.getD j 0) i);generalize st.getD j 0=x at *;have hG:=grown_set w g j (.int .i64 (gAdd x i));go_enter Tryz.func264,Tryz.ntmps264
 go_wp2_with fail
 refine (with_any _ _ _).mono ?_;rintro e w' ⟨rfl,rfl⟩;go_wp2;go_end0;exact⟨rfl,hs,hG⟩
theorem areAt_any (w:World)(x0 x1:Int)(x2:Bool)(x3 x4 x5 y0 y1:Int)(y2:Bool)(y3 y4 y5:Int):
  Calls Tryz.prog 269 #[eA x0 x1 x2 x3 x4 x5,eA y0 y1 y2 y3 y4 y5] w fun e w'=>e = .returned (.bool (onpE (x0,x1,x2,x3,x4,x5) (y0,y1,y2,y3,y4,y5)))∧Keep w w':=by
 go_enter Tryz.func269,Tryz.ntmps269
 go_wp2;go_ret;exact⟨rfl,((Keep.refl w).alloc _).alloc _⟩
theorem eqItems_zero (p:List Int)(hp:p.length=12)(w:World):∀is:List Nat,(∀i∈is,i<12)→(Op.eqItems 9999 2 (Tryz.prog.cellsOf 2) (pgC p) (pgC (List.replicate 12 0)) is).run Tryz.prog w = .ok (is.all (fun i=>p.getD i 0==0)) w
 | [],_=>by simp[Op.eqItems]
 |i::is,h=>by
  have hi:i<12:=h i (by simp);have hc:Tryz.prog.cellsOf 2=1:=by kernel_rfl
  have he:Tryz.prog.plainKey 2=true:=by kernel_rfl
  have p1:=run_part_plain (P:=Tryz.prog) w (e:=2) he (xs:=pgC p) (off:=i*1) (v:= .int .i64 (p.getD i 0)) (by
   simp only[pgC,Nat.mul_one,List.getElem?_toArray,List.getElem?_map,List.getD_eq_getElem?_getD];rw[List.getElem?_eq_getElem (by omega)]
   rfl)
  have p2:=run_part_plain (P:=Tryz.prog) w (e:=2) he (xs:=pgC (List.replicate 12 0)) (off:=i*1) (v:= .int .i64 0) (by
   simp only[pgC,Nat.mul_one,List.getElem?_toArray,List.getElem?_map];rw[List.getElem?_replicate,if_pos hi]
   rfl)
  have p3:=run_equalIn_int (P:=Tryz.prog) w 9998 2 .i64 .i64 (p.getD i 0) 0 Tryz.underlying2;have ih:=eqItems_zero p hp w is (fun j hj=>h j (by simp[hj]));rw[hc] at ih ⊢;simp only[Op.eqItems,Sem.run_bind,p1,p2,p3,Result.andThen_ok,List.all_cons]
  cases hz:(p.getD i 0==0) with
  |false=>simp
  |true=>simpa using ih
theorem all_blank {p:List Int}(hp:p.length=12):(List.range 12).all (fun i=>p.getD i 0==0)=blankB p:=by
 unfold blankB;rw[Bool.eq_iff_iff,List.all_eq_true,decide_eq_true_eq];constructor
 ·
  intro h;refine list_ext (n:=12) hp (by simp) (fun i hi=>?_);have:=h i (List.mem_range.2 hi);rw[beq_iff_eq] at this;rw[this,List.getD_eq_getElem?_getD,List.getElem?_replicate,if_pos hi];rfl
 ·
  intro h i hi;rw[h,List.getD_eq_getElem?_getD,List.getElem?_replicate,if_pos (List.mem_range.1 hi)];rfl
theorem eqPage (p:List Int)(hp:p.length=12)(w:World):(Op.equalIn 10000 165 (pgV p) (pgV (List.replicate 12 0))).run Tryz.prog w = .ok (blankB p) w:=by
 have hs:(Tryz.prog.info? 2).isSome=true:=by kernel_rfl
 obtain⟨i,hi⟩:=Option.isSome_iff_exists.1 hs;rw[show (10000:Nat)=9999+1 from rfl,run_equalIn_array w 9999 _ _ Tryz.underlying165 hi,eqItems_zero p hp w _ (fun i hi=>List.mem_range.1 hi),all_blank hp]
theorem isBlank_any (w:World)(p:List Int)(hp:p.length=12):
  Calls Tryz.prog 157 #[pgV p] w fun e w'=>e = .returned (.bool (blankB p))∧Keep w w':=by
 have EQ:=eqPage p hp;have EG:Tryz.prog.eqGuardType Tryz.prog.depth 165=false:=by kernel_rfl
 obtain⟨a0,a1,a2,a3,a4,a5,a6,a7,a8,a9,a10,a11,rfl⟩:∃a0 a1 a2 a3 a4 a5 a6 a7 a8 a9 a10 a11:Int,p=[a0,a1,a2,a3,a4,a5,a6,a7,a8,a9,a10,a11]:=by
  match p,hp with
  | [a0,a1,a2,a3,a4,a5,a6,a7,a8,a9,a10,a11],_=>exact⟨a0,a1,a2,a3,a4,a5,a6,a7,a8,a9,a10,a11,rfl⟩
 have EQ:∀W:World,(Op.equalIn 10000 165 (.agg #[.int .i64 a0,.int .i64 a1,.int .i64 a2,.int .i64 a3,.int .i64 a4,.int .i64 a5,.int .i64 a6,.int .i64 a7,.int .i64 a8,.int .i64 a9,.int .i64 a10,.int .i64 a11]) (.agg #[.int .i64 0,.int .i64 0,.int .i64 0,.int .i64 0,.int .i64 0,.int .i64 0,.int .i64 0,.int .i64 0,.int .i64 0,.int .i64 0,.int .i64 0,.int .i64 0])).run Tryz.prog W = .ok (blankB [a0,a1,a2,a3,a4,a5,a6,a7,a8,a9,a10,a11]) W:=EQ;generalize blankB [a0,a1,a2,a3,a4,a5,a6,a7,a8,a9,a10,a11]=R at *;clear hp;show Calls Tryz.prog 157 #[.agg #[.int .i64 a0,.int .i64 a1,.int .i64 a2,.int .i64 a3,.int .i64 a4,.int .i64 a5,.int .i64 a6,.int .i64 a7,.int .i64 a8,.int .i64 a9,.int .i64 a10,.int .i64 a11]] w _;go_enter Tryz.func157,Tryz.ntmps157
 go_wp2;go_ret;exact⟨rfl,(Keep.refl w).alloc _⟩
theorem implInSet_any (s i:Int)(w:World):
  Calls Tryz.prog 213 #[.int .i64 s,.int .i64 i] w fun e w'=>e = .returned (.bool (inSetB s i))∧w'=w:=by
 go_enter Tryz.func213,Tryz.ntmps213
 go_wp2_with (go_at_call 250;refine (has_any _ _ _).mono ?_;rintro e w' ⟨rfl,rfl⟩)
 go_ret;exact⟨rfl,rfl⟩
theorem wayIn_hit (k:Nat)(st:List Int)(i:Nat)(h:inSetB ((wayIn k st i).getD i 0) k=true):wayIn k st (i+1)=(wayIn k st i).set i (orI ((wayIn k st i).getD i 0) ((wayIn k st i).getD k 0)):=by
 conv=>lhs;unfold wayIn
 rw[if_pos h]
theorem wayIn_miss (k:Nat)(st:List Int)(i:Nat)(h:inSetB ((wayIn k st i).getD i 0) k=false):wayIn k st (i+1)=wayIn k st i:=by
 conv=>lhs;unfold wayIn
 rw[h];rfl
theorem implWays_any (w:World)(v:Value)(zs:List Int)(h:Rd w v zs)(hn:zs.length≤1048576):
  Calls Tryz.prog 212 #[v] w fun e w'=>∃v',e = .returned v'∧Row w' w.heap.size v' (waysL zs)∧Keep w w':=by
 cases ht:webB zs
 ·
  go_enter Tryz.func212,Tryz.ntmps212
  go_wp2_with fail
  refine (implWebOk_any _ _ _ h hn).mono ?_;rintro e w' ⟨rfl,rfl⟩;go_wp2;go_ret;exact⟨_,rfl,by unfold waysL;rw[ht];exact row_empty _ _,(Keep.refl _).alloc _⟩
 ·
  have hz12:=webB_len ht;have HX:Hid (Web zs.length zs):=web_iff.1 ht;have HB:Hid (waysL zs=wayAll zs zs.length):=by show _=_;unfold waysL;rw[if_pos ht]
  go_enter Tryz.func212,Tryz.ntmps212
  go_wp2_with fail
  refine (implWebOk_any _ _ _ h hn).mono ?_;rintro e w' ⟨rfl,rfl⟩;go_wp2_with fail
  refine (owned_any _ _ _ h hz12).mono ?_;rintro e w1 ⟨rfl,rb,k1⟩;clear h;go_wp2_with fail
  go_loopw [15] (fun i wr=>∃k:Nat,k≤zs.length∧i = .int .i64 k∧RowAt wr w'.heap.size (wayAll zs k)∧Keep w' wr) (fun i _=>zs.length-(intOf i).toNat)
  case atStart=>exact⟨0,Nat.zero_le _,rfl,rb,k1⟩
  case round=>
   obtain⟨k,hk,rfl,hr,hK⟩:=hrel;clear rb k1;by_cases hlt:k<zs.length
   ·
    have HT:Hid (Web zs.length (wayAll zs k)):=web_wayAll HX.out k hk;have HE:Hid (wayIn k (wayAll zs k) zs.length=wayAll zs (k+1)):=rfl;generalize wayAll zs k=T at *;obtain⟨wo,rfl⟩:∃wo:World,wo=wr:=⟨_,rfl⟩;go_wp2_with fail
    go_loopw [20] (fun i wr=>∃m:Nat,m≤zs.length∧i = .int .i64 m∧RowAt wr w'.heap.size (wayIn k T m)∧Keep w' wr) (fun i _=>zs.length-(intOf i).toNat)
    case atStart=>exact⟨0,Nat.zero_le _,rfl,hr,hK⟩
    case round=>
     clear hr hK;obtain⟨m,hm,rfl,hr,hK⟩:=hrel;by_cases hml:m<zs.length
     ·
      have hB:=(web_wayIn hlt HT.out m hm).1;have hBl:=hB.2.1;clear hB;have d0:=hr.cell (j:=m) (by omega);have d1:=hr.cell (j:=k) (by omega);have d2:=hr.free m;cases hb:inSetB ((wayIn k T m).getD m 0) k
      ·
       have HM:Hid (wayIn k T (m+1)=wayIn k T m):=wayIn_miss k T m hb;rw[←HM.out] at hr;generalize (wayIn k T m).getD m 0=x at *;generalize (wayIn k T m).getD k 0=y at *;clear d1 d2 HM;go_wp2_with fail
       refine (implInSet_any _ _ _).mono ?_;rintro e w2 ⟨rfl,rfl⟩;go_wp2;go_roundw;case rel=>exact⟨m+1,by omega,by go_num,hr,hK⟩
       case measure=>simp[intOf];omega
      ·
       have HM:Hid (wayIn k T (m+1)=(wayIn k T m).set m (orI ((wayIn k T m).getD m 0) ((wayIn k T m).getD k 0))):=wayIn_hit k T m hb;have hs:=hr.set m (orI ((wayIn k T m).getD m 0) ((wayIn k T m).getD k 0));rw[←HM.out] at hs;have hK2:=hK.grown (grown_set wr w'.heap.size m (.int .i64 (orI ((wayIn k T m).getD m 0) ((wayIn k T m).getD k 0)))) (by simp);clear HM hr;generalize (wayIn k T m).getD m 0=x at *;generalize (wayIn k T m).getD k 0=y at *;have i1:(0:Int)≤(m:Int):=Int.natCast_nonneg _;have i2:(m:Int)<(zs.length:Int):=by omega
       have i3:(0:Int)≤(k:Int):=Int.natCast_nonneg _;have i4:(k:Int)<(zs.length:Int):=by omega
       go_wp2_with fail
       refine (implInSet_any _ _ _).mono ?_;rintro e w2 ⟨rfl,rfl⟩;go_wp2;go_region
       go_wp2;go_roundw;case rel=>exact⟨m+1,by omega,by go_num,hs.drew,hK2.drew⟩
       case measure=>simp[intOf];omega
     ·
      obtain rfl:m=zs.length:=by omega
      rw[HE.out] at hr;go_wp2;go_roundw;case rel=>exact⟨k+1,by omega,by go_num,hr,hK⟩
      case measure=>simp[intOf];omega
   ·
    obtain rfl:k=zs.length:=by omega
    go_wp2;go_ret;refine⟨_,rfl,?_,hK⟩;rw[HB.out];exact row_new hr (Nat.le_refl _) (wayAll_len zs _)
theorem roundI_yes {zs:List Int}{k:Nat}(hk:k<(waysL zs).length)(h:inSetB ((waysL zs).getD k 0) k=true):roundB zs=true:=by
 cases ht:webB zs
 · exfalso;unfold waysL at hk;rw[ht] at hk;simp at hk
 ·
  have hl:=(web_ways (web_iff.1 ht)).2.1;unfold roundB;rw[ht,Bool.true_and,List.any_eq_true];exact⟨k,List.mem_range.2 (by omega),h⟩
theorem roundI_no {zs:List Int}(h:∀i,i<(waysL zs).length→inSetB ((waysL zs).getD i 0) i=false):roundB zs=false:=by
 cases ht:webB zs
 · unfold roundB;rw[ht];rfl
 ·
  have hl:=(web_ways (web_iff.1 ht)).2.1;unfold roundB;rw[ht,Bool.true_and,List.any_eq_false];intro i hi;have:=h i (by have:=List.mem_range.1 hi;omega);unfold line;rw[this];simp
theorem waysI_len (a:List Int):(waysL a).length≤12:=by
 cases ht:webB a
 · unfold waysL;rw[ht];simp
 ·
  have hw:=web_ways (web_iff.1 ht);have:=hw.1;have:=hw.2.1;omega
theorem implRound_any (w:World)(v:Value)(zs:List Int)(h:Rd w v zs)(hn:zs.length≤1048576):
  Calls Tryz.prog 152 #[v] w fun e w'=>e = .returned (.bool (roundB zs))∧Keep w w':=by
 have hY:Hid (∀k,k<(waysL zs).length→inSetB ((waysL zs).getD k 0) k=true→roundB zs=true):=fun k=>roundI_yes
 have hN:Hid ((∀i,i<(waysL zs).length→inSetB ((waysL zs).getD i 0) i=false)→roundB zs=false):=roundI_no;have hl:=waysI_len zs;go_enter Tryz.func152,Tryz.ntmps152
 go_wp2_with fail
 refine (implWays_any _ _ _ h hn).mono ?_;rintro e w1 ⟨v1,rfl,r1,k1⟩;clear h;generalize waysL zs=W at *;obtain⟨a,c,rfl,hr⟩:=r1.rd;clear r1;go_wp2;go_loop [8] (fun i=>∃k:Nat,k≤W.length∧i = .int .i64 k∧∀j:Nat,j<k→inSetB (W.getD j 0) j=false) (fun i=>W.length-(intOf i).toNat)
 case atStart=>exact⟨0,Nat.zero_le _,rfl,fun j hj=>by omega⟩
 case round=>
  obtain⟨k,hk,rfl,hall⟩:=hrel;have HA:Hid (∀j:Nat,j<k→inSetB (W.getD j 0) j=false):=hall;clear hall;by_cases hlt:k<W.length
  ·
   rcases hr with hr|⟨b,o,rfl,hb,hc⟩
   · exfalso;rw[hr] at hlt;simp at hlt
   have d0:=hc k hlt;have HY:Hid (inSetB (W.getD k 0) k=true→roundB zs=true):=hY.out k hlt;clear hc hY;cases hbit:inSetB (W.getD k 0) k
   ·
    have HB:Hid (inSetB (W.getD k 0) k=false):=hbit;obtain⟨x,hx⟩:∃x,x=W.getD k 0:=⟨_,rfl⟩;have HX:Hid (x=W.getD k 0):=hx;rw[←hx] at d0 hbit;clear hx HY;go_wp2_with fail
    refine (implInSet_any _ _ _).mono ?_;rintro e w2 ⟨rfl,rfl⟩;go_wp2;go_round
    case rel=>
     refine⟨k+1,by omega,by go_num,fun j hj=>?_⟩;by_cases e:j=k
     · subst e;exact HB.out
     · exact HA.out j (by omega)
    case measure=>simp[intOf];omega
   ·
    have HB:Hid (roundB zs=true):=HY.out hbit;clear HY;obtain⟨x,hx⟩:∃x,x=W.getD k 0:=⟨_,rfl⟩;have HX:Hid (x=W.getD k 0):=hx;rw[←hx] at d0 hbit;clear hx;go_wp2_with fail
    refine (implInSet_any _ _ _).mono ?_;rintro e w2 ⟨rfl,rfl⟩;go_wp2;go_ret;exact⟨ret_bool HB.out.symm,k1⟩
  ·
   go_wp2;go_ret;exact⟨ret_bool (hN.out fun i hi=>HA.out i (by omega)).symm,k1⟩
theorem mate_hit (cl:List Int)(c:Int)(m:Nat)(h:c=cl.getD m 0):mateS cl c (m+1)=gAdd (mateS cl c m) m:=by
 conv=>lhs;unfold mateS
 rw[if_pos h]
theorem mate_miss (cl:List Int)(c:Int)(m:Nat)(h:¬c=cl.getD m 0):mateS cl c (m+1)=mateS cl c m:=by
 conv=>lhs;unfold mateS
 rw[if_neg h]
theorem mates_any (w:World)(v:Value)(cl:List Int)(h:Rd w v cl)(hn:cl.length≤12):
  Calls Tryz.prog 215 #[v] w fun e w'=>∃v',e = .returned v'∧Row w' w.heap.size v' (matesL cl)∧Keep w w':=by
 obtain⟨a,c,rfl,h⟩:=h;have HB:Hid (mapK (fun c=>mateS cl c cl.length) cl cl.length=matesL cl):=mapK_end _ _;have HZ:Hid (mapK (fun c=>mateS cl c cl.length) cl 0=List.replicate cl.length 0):=mapK_zero _ _;go_enter Tryz.func215,Tryz.ntmps215
 go_wp2_with fail
 refine (blank_any _ _ hn).mono ?_;rintro e w1 ⟨rfl,rb,k1⟩;rw[←HZ.out] at rb;go_wp2_with fail
 go_loopw [13] (fun i wr=>∃k:Nat,k≤cl.length∧i = .int .i64 k∧RowAt wr w.heap.size (mapK (fun c=>mateS cl c cl.length) cl k)∧Keep w wr) (fun i _=>cl.length-(intOf i).toNat)
 case atStart=>exact⟨0,Nat.zero_le _,rfl,rb,k1⟩
 case round=>
  obtain⟨k,hk,rfl,hr,hK⟩:=hrel;clear rb k1;by_cases hlt:k<cl.length
  ·
   rcases h with h|⟨b1,o1,rfl,hb1,hc1⟩
   · exfalso;rw[h] at hlt;simp at hlt
   have d0:=(hK.cell hb1).trans (hc1 k hlt);have HE:Hid ((mapK (fun c=>mateS cl c cl.length) cl k).set k (mateS cl (cl.getD k 0) cl.length)=mapK (fun c=>mateS cl c cl.length) cl (k+1)):=mapK_set _ cl hlt;have HS:Hid ((mapK (fun c=>mateS cl c cl.length) cl k).set k (mateS cl (cl.getD k 0) 0)=mapK (fun c=>mateS cl c cl.length) cl k):=mapK_same _ cl hlt;have hTl:(mapK (fun c=>mateS cl c cl.length) cl k).length=cl.length:=mapK_len _ cl hk;rw[←HS.out] at hr;obtain⟨p,hp⟩:∃p,p=cl.getD k 0:=⟨_,rfl⟩;have HC:Hid (p=cl.getD k 0):=hp;rw[←hp] at d0 hr HE;generalize mapK (fun c=>mateS cl c cl.length) cl k=T at *;clear hp HS;obtain⟨wo,rfl⟩:∃wo:World,wo=wr:=⟨_,rfl⟩;go_wp2_with fail
   go_loopw [20] (fun i wr=>∃m:Nat,m≤cl.length∧i = .int .i64 m∧RowAt wr w.heap.size (T.set k (mateS cl p m))∧Keep w wr) (fun i _=>cl.length-(intOf i).toNat)
   case atStart=>exact⟨0,Nat.zero_le _,rfl,hr,hK⟩
   case round=>
    clear hr hK;obtain⟨m,hm,rfl,hr,hK⟩:=hrel;by_cases hml:m<cl.length
    ·
     have d1:=(hK.cell hb1).trans (hc1 m hml);obtain⟨q,hq⟩:∃q,q=cl.getD m 0:=⟨_,rfl⟩;have HQ:Hid (q=cl.getD m 0):=hq;rw[←hq] at d1;clear hq hc1;have hGl:(T.set k (mateS cl p m)).length=cl.length:=by rw[List.length_set,hTl]
     cases he:p==q
     ·
      have HM:Hid (mateS cl p (m+1)=mateS cl p m):=mate_miss cl p m (by rw[←HQ.out];simpa using he);rw[←HM.out] at hr;go_wp2;go_roundw;case rel=>exact⟨m+1,by omega,by go_num,hr,hK⟩
      case measure=>simp[intOf];omega
     ·
      have HM:Hid ((T.set k (mateS cl p m)).set k (gAdd ((T.set k (mateS cl p m)).getD k 0) m)=T.set k (mateS cl p (m+1))):=by
       show _=_;rw[getD_set_same T (by omega),set_set_same,mate_hit cl p m (by rw[←HQ.out];simpa using he)]
      go_wp2_with fail
      refine (line_any _ _ _ _ _ k m hr hGl hlt).mono ?_;rintro e w4 ⟨rfl,hr4,g4⟩;rw[HM.out] at hr4;have hK4:=hK.grown g4 (by simp);clear hr hK g4;go_wp2;go_roundw;case rel=>exact⟨m+1,by omega,by go_num,hr4,hK4⟩
      case measure=>simp[intOf];omega
    ·
     obtain rfl:m=cl.length:=by omega
     rw[HE.out] at hr;go_wp2;go_roundw;case rel=>exact⟨k+1,by omega,by go_num,hr,hK⟩
     case measure=>simp[intOf];omega
  ·
   obtain rfl:k=cl.length:=by omega
   go_wp2;go_ret;refine⟨_,rfl,?_,hK⟩;rw[←HB.out];exact row_new hr (Nat.le_refl _) (mapK_len _ cl (Nat.le_refl _))
theorem mem_hit (s:Int)(k:Nat)(h:inSetB s k=true):mem s (k+1)=mem s k++[(k:Int)]:=by simp[mem,h]
theorem mem_miss (s:Int)(k:Nat)(h:inSetB s k=false):mem s (k+1)=mem s k:=by simp[mem,h]
theorem chosen_has (s:Int)(w:World):
  Calls Tryz.prog 283 #[.func (Fn.func 250) #[.int .i64 s] #[]] w fun e w'=>∃v',e = .returned v'∧Own w' w.heap.size v' (mem s 12)∧Keep w w':=by
 have hown0:Own (w.alloc (.cells #[] 2)) w.heap.size (.slice (some ⟨w.heap.size,0,none⟩) 0 0) []:=World.ownsRow_lit w #[] 0 (Nat.le_refl _) (by decide) rfl;obtain⟨i0,hi,hz0,hz1,hz2⟩:=info_parts Tryz.infoI;go_enter Tryz.func283,Tryz.ntmps283
 go_wp2;go_loopw [3,6] (fun v i wr=>∃k:Nat,k≤12∧i = .int .i64 k∧Own wr w.heap.size v (mem s k)∧Keep w wr) (fun _ i _=>12-(intOf i).toNat)
 case atStart=>exact⟨0,Nat.zero_le _,rfl,hown0,(Keep.refl _).alloc _⟩
 case round=>
  obtain⟨k,hk,rfl,ho,hK⟩:=hrel;clear hown0;by_cases hlt:k<12
  ·
   have hml:=mem_len s k;have hsz:=hK.size;cases hb:inSetB s k
   ·
    have HM:Hid (mem s (k+1)=mem s k):=mem_miss s k hb;go_wp2_with (go_at_call 250;refine (has_any _ _ _).mono ?_;rintro e w' ⟨rfl,rfl⟩)
    go_roundw;case rel=>exact⟨k+1,by omega,by go_num,by rw[HM.out];exact ho,hK⟩
    case measure=>simp[intOf];omega
   ·
    have HM:Hid (mem s (k+1)=mem s k++[(k:Int)]):=mem_hit s k hb;go_wp2_with (first|(go_at_call 250;refine (has_any _ _ _).mono ?_;rintro e w' ⟨rfl,rfl⟩)|(at_builtin;refine wpList_append_own _ rfl _ _ 50 rfl w.heap.size 2 i0 (.int .i64 0) 1 8 Tryz.underlying50 hi hz0 hz1 hz2 rfl (by decide) _ _ _ rfl (World.ownsRow.alloc ho _) ⟨_,0,none⟩ 1 1 [.int .i64 k] rfl rfl ?c1 ?c2 ?c3 ?c4 ?c5 ?_))
    case c1=>
     intro j u hj
     match j,hj with
     | 0,hj=>simp at hj;subst hj;simp[Addr.add]
    case c2=>intro u hu;simp at hu;subst hu;rfl
    case c3=>unfold maxLen;omega
    case c4=>omega
    case c5=>simp;omega
    intro v' w1 hown' hgrow _;have hK1:Keep w w1:=(hK.alloc _).grown hgrow ho.ge;clear hgrow;go_wp2;go_roundw;case rel=>exact⟨k+1,by omega,by go_num,by rw[HM.out];exact own_hit hown',hK1⟩
    case measure=>simp[intOf];omega
  ·
   obtain rfl:k=12:=by omega
   go_wp2;go_ret;exact⟨_,rfl,ho,hK⟩
theorem implMembers_any (s:Int)(w:World):
  Calls Tryz.prog 268 #[.int .i64 s] w fun e w'=>∃v',e = .returned v'∧Own w' w.heap.size v' (mem s 12)∧Keep w w':=by
 go_enter Tryz.func268,Tryz.ntmps268
 go_wp2_with (go_at_call 283;refine (chosen_has _ _).mono ?_;rintro e w' ⟨v',rfl,ho,hK⟩)
 go_ret;exact⟨_,rfl,ho,hK⟩
theorem implThen_web (w:World)(v1 v2:Value)(xs ys:List Int)(h1:Rd w v1 xs)(h2:Rd w v2 ys)(ht:twoB xs ys=true):
  Calls Tryz.prog 217 #[v1,v2] w fun e w'=>∃v',e = .returned v'∧Row w' w.heap.size v' (xs.map (fun x=>thenS x ys 12))∧Keep w w':=by
 have r1:=h1;have r2:=h2;obtain⟨a1,c1,rfl,h1⟩:=h1;obtain⟨a2,c2,rfl,h2⟩:=h2;obtain⟨hl,wx,wy⟩:=twoB_iff.1 ht;have hx12:=webB_len wx;have hl1:xs.length≤ys.length:=by omega
 have hl2:ys.length≤xs.length:=by omega
 have HX:Hid (webB xs=true):=wx;clear wx wy hl;go_enter Tryz.func217,Tryz.ntmps217
 go_wp2_with fail
 refine (areAlike_any _ _ _ _ _ r1 r2 (by omega) (by omega)).mono ?_;rintro e w' ⟨rfl,rfl⟩;go_wp2_with fail
 refine (blank_any _ _ hx12).mono ?_;rintro e w1 ⟨rfl,rb,k1⟩;rw[←thenK_zero xs ys] at rb;go_wp2_with fail
 go_loopw [20] (fun i wr=>∃k:Nat,k≤xs.length∧i = .int .i64 k∧RowAt wr w'.heap.size (thenK xs ys k)∧Keep w' wr) (fun i _=>xs.length-(intOf i).toNat)
 case atStart=>exact⟨0,Nat.zero_le _,rfl,rb,k1⟩
 case round=>
  obtain⟨k,hk,rfl,hr,hK⟩:=hrel;clear rb k1;by_cases hlt:k<xs.length
  ·
   rcases h1 with h|⟨b1,o1,rfl,hb1,hc1⟩
   · exfalso;rw[h] at hlt;simp at hlt
   rcases h2 with h|⟨b2,o2,rfl,hb2,hc2⟩
   · exfalso;rw[h] at hl1;simp only[List.length_nil] at hl1;omega
   have d0:=(hK.cell hb1).trans (hc1 k hlt);have hp:okB xs.length (xs.getD k 0)=true:=webB_get HX.out hlt;have HE:Hid ((thenK xs ys k).set k (thenS (xs.getD k 0) ys 12)=thenK xs ys (k+1)):=thenK_set xs ys hlt;have HP:Hid (okB xs.length (xs.getD k 0)=true):=hp;clear hc1 hp;generalize xs.getD k 0=p at *;have hml:=mem_len p 12;obtain⟨wo,rfl⟩:∃wo:World,wo=wr:=⟨_,rfl⟩;go_wp2_with fail
   refine (implMembers_any _ _).mono ?_;rintro e w3 ⟨vm,rfl,om,k3⟩;have K3:=hK.trans k3;have hr3:=hr.keep k3;have hgo:=hr.lt;rw[←thenK_same xs ys hlt] at hr3;obtain⟨am,cm,rfl,hm⟩:=om.rd;clear hr hK k3 hm;have hkl:k<(thenK xs ys k).length:=by rw[thenK_len xs ys hk];exact hlt
   generalize thenK xs ys k=T at *;go_wp2_with fail
   go_loopw [28] (fun i wr=>∃j:Nat,j≤(mem p 12).length∧i = .int .i64 j∧RowAt wr w'.heap.size (T.set k (((mem p 12).take j).foldl (thenF ys) 0))∧Own wr wo.heap.size (.slice am (mem p 12).length cm) (mem p 12)∧Keep w' wr) (fun i _=>(mem p 12).length-(intOf i).toNat)
   case atStart=>exact⟨0,Nat.zero_le _,rfl,hr3,om,K3⟩
   case round=>
    obtain⟨j,hj,rfl,hr,ho,hK⟩:=hrel;clear hr3 om K3;by_cases hjl:j<(mem p 12).length
    ·
     obtain⟨m,hm,hmn⟩:=mem_at HP.out hjl;obtain⟨am',cm',hv,hcm⟩:=ho.rd;cases hv;rcases hcm with h|⟨b3,o3,rfl,hb3,hc3⟩
     · exfalso;rw[h] at hjl;simp at hjl
     have d1:=hc3 j hjl;rw[hm] at d1;have d2:=(hK.cell hb2).trans (hc2 m (by omega));have d3:=hr.cell (j:=k) (by simpa using hkl);rw[getD_set_same T hkl] at d3;have d4:=hr.free k
     have HF:Hid (((mem p 12).take (j+1)).foldl (thenF ys) 0=orI (((mem p 12).take j).foldl (thenF ys) 0) (ys.getD m 0)):=by
      show _=_;rw[foldl_snoc _ _ _ hjl,hm];rfl
     have hs:=hr.set k (orI (((mem p 12).take j).foldl (thenF ys) 0) (ys.getD m 0));rw[set_set_same] at hs
     have ho2:=ho.kept (grown_set wr w'.heap.size k (.int .i64 (orI (((mem p 12).take j).foldl (thenF ys) 0) (ys.getD m 0)))) (by
      right;intro e;have:=ho.ge _ e;omega)
     have hK2:=hK.grown (grown_set wr w'.heap.size k (.int .i64 (orI (((mem p 12).take j).foldl (thenF ys) 0) (ys.getD m 0)))) (by simp);have i1:(0:Int)≤(m:Int):=Int.natCast_nonneg _;have i2:(m:Int)<(ys.length:Int):=by omega
     have i3:(0:Int)≤(k:Int):=Int.natCast_nonneg _;have i4:(k:Int)<(xs.length:Int):=by omega
     clear hc3 hm hr;generalize ((mem p 12).take j).foldl (thenF ys) 0=G at *;generalize ys.getD m 0=q at *;go_wp2;go_region
     go_wp2;go_roundw;case rel=>exact⟨j+1,by omega,by go_num,by rw[HF.out];exact hs.drew,ho2.keep (Keep.refl _).drew,hK2.drew⟩
     case measure=>simp[intOf];omega
    ·
     obtain rfl:j=(mem p 12).length:=by omega
     rw[List.take_length,thenS_fold,HE.out] at hr;go_wp2;go_roundw;case rel=>exact⟨k+1,by omega,by go_num,hr,hK⟩
     case measure=>simp[intOf];omega
  ·
   obtain rfl:k=xs.length:=by omega
   rw[thenK_end] at hr;go_wp2;go_ret;exact⟨_,rfl,row_new hr (Nat.le_refl _) (by simp),hK⟩
theorem implThen_any (w:World)(v1 v2:Value)(xs ys:List Int)(h1:Rd w v1 xs)(h2:Rd w v2 ys)(n1:xs.length≤1048576)(n2:ys.length≤1048576):
  Calls Tryz.prog 217 #[v1,v2] w fun e w'=>∃v',e = .returned v'∧Row w' w.heap.size v' (thenL xs ys)∧Keep w w':=by
 cases ht:twoB xs ys
 ·
  go_enter Tryz.func217,Tryz.ntmps217
  go_wp2_with fail
  refine (areAlike_any _ _ _ _ _ h1 h2 n1 n2).mono ?_;rintro e w' ⟨rfl,rfl⟩;go_wp2;go_ret;exact⟨_,rfl,by unfold thenL;rw[ht];exact row_empty _ _,(Keep.refl _).alloc _⟩
 ·
  refine (implThen_web _ _ _ _ _ h1 h2 ht).mono ?_;rintro e w2 ⟨v',rfl,o,k⟩;exact⟨_,rfl,by unfold thenL;rw[ht];exact o,k⟩
theorem without_any (s t:Int)(w:World):
  Calls Tryz.prog 266 #[.int .i64 s,.int .i64 t] w fun e w'=>e = .returned (.int .i64 (notI s t))∧w'=w:=by
 go_enter Tryz.func266,Tryz.ntmps266
 go_wp2;go_ret;exact⟨rfl,rfl⟩
theorem mixed_without (w:World)(v1 v2:Value)(xs ys:List Int)(h1:Rd w v1 xs)(h2:Rd w v2 ys)(n1:xs.length≤1048576)(n2:ys.length≤1048576):
  Calls Tryz.prog 265 #[v1,v2,.func (Fn.func 266) #[] #[]] w fun e w'=>∃v',e = .returned v'∧Row w' w.heap.size v' (mixL notI xs ys)∧Keep w w':=by
 have r1:=h1;have r2:=h2;obtain⟨a1,c1,rfl,_⟩:=r1;obtain⟨a2,c2,rfl,_⟩:=r2;cases ht:twoB xs ys
 ·
  go_enter Tryz.func265,Tryz.ntmps265
  go_wp2_with fail
  refine (areAlike_any _ _ _ _ _ h1 h2 n1 n2).mono ?_;rintro e w' ⟨rfl,rfl⟩;go_wp2;go_ret;exact⟨_,rfl,by unfold mixL;rw[ht];exact row_empty _ _,(Keep.refl _).alloc _⟩
 ·
  obtain⟨hl,wx,wy⟩:=twoB_iff.1 ht;have hx12:=webB_len wx;have hy12:=webB_len wy;have HL:Hid (xs.length=ys.length):=hl;have HM:Hid (mixL notI xs ys=List.zipWith notI xs ys):=by show mixL notI xs ys=_;unfold mixL;rw[ht];rfl
  clear wx wy;have hl1:xs.length≤ys.length:=by omega
  have hl2:ys.length≤xs.length:=by omega
  clear hl;go_enter Tryz.func265,Tryz.ntmps265
  go_wp2_with fail
  refine (areAlike_any _ _ _ _ _ h1 h2 n1 n2).mono ?_;rintro e w' ⟨rfl,rfl⟩;go_wp2_with fail
  refine (owned_any _ _ _ h1 hx12).mono ?_;rintro e w1 ⟨rfl,ro,k1⟩;go_wp2_with fail
  obtain⟨a,c,hv,h2⟩:=h2;cases hv;go_loopw [19] (fun i wr=>∃k:Nat,k≤ys.length∧i = .int .i64 k∧RowAt wr w'.heap.size (mixK notI xs ys k)∧Keep w' wr) (fun i _=>ys.length-(intOf i).toNat)
  case atStart=>exact⟨0,Nat.zero_le _,rfl,ro,k1⟩
  case round=>
   obtain⟨k,hk,rfl,hr,hK⟩:=hrel;clear ro k1;by_cases hlt:k<ys.length
   ·
    rcases h2 with h|⟨b,o,rfl,hb,hc⟩
    · exfalso;rw[h] at hlt;simp at hlt
    have hkx:k<xs.length:=by omega
    have d0:=(hK.cell hb).trans (hc k hlt);have d1:=hr.cell (j:=k) (by rw[mixK_len notI HL.out];exact hkx);rw[mixK_get notI HL.out hkx] at d1;have d2:=hr.free k;have hs:=hr.set k (notI (xs.getD k 0) (ys.getD k 0));rw[mixK_set notI HL.out hkx] at hs;have hK2:Keep w' (wr.setCell ⟨w'.heap.size,k,none⟩ (.int .i64 (notI (xs.getD k 0) (ys.getD k 0)))):=hK.grown (grown_set wr w'.heap.size k _) (by simp);generalize xs.getD k 0=p at *;generalize ys.getD k 0=q at *;clear hc;go_wp2_with fail
    refine (without_any _ _ _).mono ?_;rintro e w2 ⟨rfl,rfl⟩;go_wp2;go_roundw;case rel=>exact⟨k+1,by omega,by go_num,hs,hK2⟩
    case measure=>simp[intOf];omega
   ·
    obtain rfl:k=ys.length:=by omega
    go_wp2;go_ret;refine⟨_,rfl,?_,hK⟩;rw[HM.out];rw[←HL.out,mixK_end notI HL.out] at hr;exact row_new hr (Nat.le_refl _) (by rw[List.length_zipWith];omega)
theorem implLess_any (w:World)(v1 v2:Value)(xs ys:List Int)(h1:Rd w v1 xs)(h2:Rd w v2 ys)(n1:xs.length≤1048576)(n2:ys.length≤1048576):
  Calls Tryz.prog 216 #[v1,v2] w fun e w'=>∃v',e = .returned v'∧Row w' w.heap.size v' (mixL notI xs ys)∧Keep w w':=by
 go_enter Tryz.func216,Tryz.ntmps216
 go_wp2_with fail
 refine (mixed_without _ _ _ _ _ h1 h2 n1 n2).mono ?_;rintro e w2 ⟨v',rfl,o,k⟩;go_wp2;go_ret;exact⟨_,rfl,o,k⟩
theorem liftI_bad {zs cl:List Int}(h:¬(webB zs=true∧cl.length=zs.length)):liftL zs cl=[]:=by unfold liftL;rw[if_neg h]
theorem implLifted_any (w:World)(v1 v2:Value)(xs ys:List Int)(h1:Rd w v1 xs)(h2:Rd w v2 ys)(n1:xs.length≤1048576)(_n2:ys.length≤1048576):
  Calls Tryz.prog 153 #[v1,v2] w fun e w'=>∃v',e = .returned v'∧Row w' w.heap.size v' (liftL xs ys)∧Keep w w':=by
 have r1:=h1;have r2:=h2;obtain⟨a1,c1,rfl,_⟩:=h1;obtain⟨a2,c2,rfl,_⟩:=h2;cases ha:webB xs
 ·
  go_enter Tryz.func153,Tryz.ntmps153
  go_wp2_with fail
  refine (implWebOk_any _ _ _ r1 n1).mono ?_;rintro e w' ⟨rfl,rfl⟩;go_wp2;go_ret;exact⟨_,rfl,by rw[liftI_bad (by simp[ha])];exact row_empty _ _,(Keep.refl _).alloc _⟩
 ·
  by_cases hl:ys.length=xs.length
  ·
   have hlb:((ys.length:Int) != (xs.length:Int))=false:=by simp[hl]
   have HL:Hid (ys.length=xs.length):=hl;have hx12:=webB_len ha;have hy12:ys.length≤12:=by omega
   have HW:Hid (Web xs.length xs):=web_iff.1 ha;have HE:Hid (mixL notI (thenL (thenL (matesL ys) xs) (matesL ys)) (matesL ys)=liftL xs ys):=lift_mates HW.out hl;have hm12:(matesL ys).length≤12:=by simp[matesL];exact hy12
   have ht12:(thenL (matesL ys) xs).length≤12:=by
    have h:=web_then (web_mates HW.out.1 hl).1 HW.out;have:=h.1.1;have:=h.1.2.1;omega
   have hu12:(thenL (thenL (matesL ys) xs) (matesL ys)).length≤12:=by
    have hm:=web_mates HW.out.1 hl;have h:=web_then (web_then hm.1 HW.out).1 hm.1;have:=h.1.1;have:=h.1.2.1;omega
   clear hl;go_enter Tryz.func153,Tryz.ntmps153
   go_wp2_with fail
   refine (implWebOk_any _ _ _ r1 n1).mono ?_;rintro e w' ⟨rfl,rfl⟩;go_wp2_with fail
   refine (mates_any _ _ _ r2 hy12).mono ?_;rintro e w1 ⟨vm,rfl,hm,k1⟩;have m1:=hm.rd;have x1:=r1.keep k1;clear hm r1 r2;go_wp2_with fail
   refine (implThen_any _ _ _ _ _ m1 x1 (by omega) (by omega)).mono ?_;rintro e w2 ⟨vt,rfl,ht,k2⟩;have t2:=ht.rd;have m2:=m1.keep k2;clear ht m1 x1;go_wp2_with fail
   refine (implThen_any _ _ _ _ _ t2 m2 (by omega) (by omega)).mono ?_;rintro e w3 ⟨vu,rfl,hu,k3⟩;have u3:=hu.rd;have m3:=m2.keep k3;clear hu t2 m2;go_wp2_with fail
   refine (implLess_any _ _ _ _ _ u3 m3 (by omega) (by omega)).mono ?_;rintro e w4 ⟨vq,rfl,hq,k4⟩;rw[HE.out] at hq;have K3:=(k1.trans k2).trans k3;have hs:=K3.size;go_wp2;go_ret;exact⟨_,rfl,hq.base_le hs,K3.trans k4⟩
  ·
   have hlb:((ys.length:Int) != (xs.length:Int))=true:=by simp;omega
   have HL:Hid (¬ys.length=xs.length):=hl;clear hl;go_enter Tryz.func153,Tryz.ntmps153
   go_wp2_with fail
   refine (implWebOk_any _ _ _ r1 n1).mono ?_;rintro e w' ⟨rfl,rfl⟩;go_wp2;go_ret;exact⟨_,rfl,by rw[liftI_bad (fun h=>HL.out h.2)];exact row_empty _ _,(Keep.refl _).alloc _⟩
theorem drew_more {w wr:World}(h:∃n,wr=w.drewN n)(k:Nat):∃n,wr.drewN k=w.drewN n:=by
 obtain⟨n,rfl⟩:=h;exact⟨n+k,World.drewN_drewN ..⟩
theorem eq_hit {xs ys:List Int}(hl:xs.length=ys.length)(h:∀q,q<xs.length→xs.getD q 0=ys.getD q 0):xs=ys:=by
 apply List.ext_getElem hl;intro i h1 h2;have:=h i h1;rw[List.getD_eq_getElem?_getD,List.getD_eq_getElem?_getD,List.getElem?_eq_getElem h1,List.getElem?_eq_getElem h2] at this;exact this
theorem eqQ_any (w:World)(v1 v2:Value)(xs ys:List Int)(h1:Rd w v1 xs)(h2:Rd w v2 ys)(l1:xs.length≤1048576):Calls Tryz.prog 89 #[v1,v2] w fun e w'=>e = .returned (.bool (decide (xs=ys)))∧∃n,w'=w.drewN n:=by
 obtain⟨a1,c1,rfl,h1⟩:=h1;obtain⟨a2,c2,rfl,h2⟩:=h2;have X1:=Lib.hid h1;have X2:=Lib.hid h2;clear h1 h2;by_cases hl:xs.length=ys.length
 ·
  have XL:=Lib.hid hl;have hle:(xs.length:Int)=(ys.length:Int):=by omega
  rw[←hl];clear hl hle;go_enter Tryz.func89,Tryz.ntmps89
  go_wp2;go_loopw [5,13] (fun _ i wr=>∃k:Nat,k≤xs.length∧i = .int .i64 k∧Hid (∀q,q<k→xs.getD q 0=ys.getD q 0)∧Hid (∃n,wr=w.drewN n)) (fun _ i _=>xs.length-(intOf i).toNat)
  case atStart=>exact⟨0,Nat.zero_le _,rfl,Lib.hid (fun q hq=>absurd hq (Nat.not_lt_zero _)),Lib.hid ⟨0,rfl⟩⟩
  case round=>
   obtain⟨k,hk,rfl,hq,HW⟩:=hrel;have hK:Keep w wr:=by obtain⟨n,e⟩:=HW.out;rw[e];exact (Keep.refl w).drewN n
   by_cases hlt:k<xs.length
   ·
    have hlt2:k<ys.length:=by have:=XL.out;omega
    rcases X1.out with q|⟨b1,o1,rfl,hb1,d1⟩
    · exfalso;rw[q] at hlt;simp at hlt
    rcases X2.out with q|⟨b2,o2,rfl,hb2,d2⟩
    · exfalso;rw[q] at hlt2;simp at hlt2
    have e1:=(hK.cell hb1).trans (d1 k hlt);have e2:=(hK.cell hb2).trans (d2 k hlt2);have i1:(0:Int)≤(k:Int):=Int.natCast_nonneg _;have i2:(k:Int)<(xs.length:Int):=by omega
    have XK:=Lib.hid hK;clear d1 d2 hlt2 hK;obtain⟨x,hx⟩:∃x,x=xs.getD k 0:=⟨_,rfl⟩;obtain⟨y,hy⟩:∃y,y=ys.getD k 0:=⟨_,rfl⟩;rw[←hx] at e1;rw[←hy] at e2;have XX:=Lib.hid hx;have XY:=Lib.hid hy;clear hx hy;by_cases e:x=y
    ·
     subst e;go_wp2;go_quiet (fail)
     go_wp2;go_roundw
     case rel=>
      refine⟨k+1,by omega,by go_num,Lib.hid (fun q hq'=>?_),Lib.hid (drew_more HW.out _)⟩;by_cases e:q=k
      · rw[e,←XX.out,←XY.out]
      · exact hq.out q (by omega)
     case measure=>simp[intOf];omega
    ·
     have XN:Hid (decide (xs=ys)=false):=Lib.hid (by
      rw[decide_eq_false_iff_not];intro h;apply e
      rw[XX.out,XY.out,h])
     go_wp2;go_quiet (fail)
     go_wp2;go_ret;exact⟨by rw[XN.out];rfl,drew_more HW.out _⟩
   ·
    obtain rfl:k=xs.length:=by omega
    have XN:Hid (decide (xs=ys)=true):=Lib.hid (by rw[decide_eq_true_eq];exact eq_hit XL.out hq.out);go_wp2;go_ret;exact⟨by rw[XN.out];rfl,HW.out⟩
 ·
  have XN:Hid (decide (xs=ys)=false):=Lib.hid (by
   rw[decide_eq_false_iff_not];intro h;apply hl
   rw[h])
  have hne:¬(xs.length:Int)=(ys.length:Int):=by omega
  go_enter Tryz.func89,Tryz.ntmps89
  go_wp2;go_ret;exact⟨by rw[XN.out];rfl,0,rfl⟩
theorem eqQ_of {w:World}{v1 v2:Value}{xs ys:List Int}{t:Bool}(h1:Rd w v1 xs)(h2:Rd w v2 ys)(l1:xs.length≤1048576)(ht:decide (xs=ys)=t)(n:Nat):Calls Tryz.prog 89 #[v1,v2] (w.drewN n) fun e w'=>e = .returned (.bool t)∧∃m,w'=w.drewN m:=
 Calls.quiet_of (ht ▸ eqQ_any (w.drewN n) v1 v2 xs ys (h1.keep ((Keep.refl w).drewN n)) (h2.keep ((Keep.refl w).drewN n)) l1)
structure KI (E:List (List Int))(n j k:Nat)(dk:Array Nat):Prop where
 size:dk.size=n
 len:(kp E j).length=k
 lt:k<j
 low:∀i,i<k→(kp E j)[i]? = some dk[i]!
 high:∀i,k≤i→i<n→dk[i]! = i
theorem range_get! {n i:Nat}(h:i<n):(Array.range n)[i]! = i:=by
 rw[getElem!_pos _ i (by rw[Array.size_range];exact h),Array.getElem_range]
theorem KI.start {E:List (List Int)}{n k:Nat}(hk:k<n)(h:∀i,i<k→kpB E i=true)(h2:kpB E k=false):KI E n (k+1) k (Array.range n) where
 size:=Array.size_range
 len:=by rw[kp_succ,h2,kp_all h];simp
 lt:=Nat.lt_succ_self _
 low i hi:=by rw[kp_succ,h2,kp_all h,range_get! (by omega)];simp[hi]
 high i _ hi:=range_get! hi
theorem KI.skip {E:List (List Int)}{n j k:Nat}{dk:Array Nat}(h:KI E n j k dk)(h2:kpB E j=false):KI E n (j+1) k dk where
 size:=h.size
 len:=by rw[kp_succ,h2];simpa using h.len
 lt:=by have:=h.lt;omega
 low i hi:=by rw[kp_succ,h2];simpa using h.low i hi
 high:=h.high
theorem KI.put {E:List (List Int)}{n j k:Nat}{dk:Array Nat}(h:KI E n j k dk)(hj:j<n)(h2:kpB E j=true):KI E n (j+1) (k+1) (dk.setIfInBounds k j) where
 size:=by rw[Array.size_setIfInBounds];exact h.size
 len:=by rw[kp_succ,if_pos h2,List.length_append,h.len];rfl
 lt:=by have:=h.lt;omega
 low i hi:=by
  rw[kp_succ,if_pos h2];by_cases e:i=k
  ·
   subst e;rw[List.getElem?_append_right (by rw[h.len];exact Nat.le_refl _),h.len,Nat.sub_self,getElem!_set_same dk i _ (by have:=h.lt;have:=h.size;omega)];rfl
  · rw[List.getElem?_append_left (by rw[h.len];omega),h.low i (by omega),getElem!_set_other dk k i _ e]
 high i hi hn:=by rw[getElem!_set_other dk k i _ (by omega),h.high i (by omega) hn]
theorem KI.done {E:List (List Int)}{n k:Nat}{dk:Array Nat}(h:KI E n n k dk):lay dk k (List.replicate (n-k) n)=(kp E n++List.replicate (n-k) n).toArray:=by
 have hk:=h.lt;have hs:=h.size;apply Array.ext_getElem?;intro j;rw[lay_get? _ _ _ _ (by simp;omega),show (kp E n++List.replicate (n-k) n).toArray[j]? = (kp E n++List.replicate (n-k) n)[j]? from List.getElem?_toArray];simp only[List.length_replicate];by_cases c:j<k
 · rw[if_neg (by omega),List.getElem?_append_left (by rw[h.len];exact c),h.low j c,getElem!_pos dk j (by omega),Array.getElem?_eq_getElem]
 ·
  rw[List.getElem?_append_right (by rw[h.len];omega),h.len];by_cases c2:j<n
  · rw[if_pos (by omega)]
  · rw[if_neg (by omega),Array.getElem?_eq_none (by omega),List.getElem?_eq_none (by simp;omega)]
theorem kp_neg {E:List (List Int)}{j:Nat}(h0:0<j)(h:E.getD j []=E.getD (j-1) []):kpB E j=false:=by unfold kpB;rw[decide_eq_false (by omega:¬j=0),decide_eq_true h];rfl
theorem kp_one {E:List (List Int)}{j:Nat}(h:E.getD j []≠E.getD (j-1) []):kpB E j=true:=by unfold kpB;simp only[Bool.or_eq_true,Bool.not_eq_true',decide_eq_false_iff_not];exact .inr h
theorem kp_first {E:List (List Int)}{j:Nat}(h:j<1):kpB E j=true:=by
 obtain rfl:j=0:=by omega
 rfl
theorem drew_put (enc:Nat→Value)(w wr:World)(g off q:Nat)(dk:Array Nat)(h:wr=putRow enc (Sort.ahead w q) g off dk)(m:Nat):wr.drewN m=putRow enc (Sort.ahead w (q+m)) g off dk:=by
 subst h;rw[←ahead_ahead];rfl
theorem cmpct_core (w:World)(g off cap n:Nat)(enc:Nat→Value)(E:List (List Int))(hH:Holds enc w g off (Array.range n))(hn:n≤1099511627776)(hcap:n≤cap)(hz:enc n = .slice none 0 0)(rd:∀(q:Nat) (dk:Array Nat) (i:Nat),i<n→Rd (putRow enc (Sort.ahead w q) g off dk) (enc i) (E.getD i []))(hm:∀i,(E.getD i []).length≤1048576):
  Calls Tryz.prog 88 #[.slice (some ⟨g,off,none⟩) n cap,.func (Fn.func 89) #[] #[]] w fun e w'=>e = .returned (.slice (some ⟨g,off,none⟩) (kp E n).length cap)∧∃q,w'=putRow enc (Sort.ahead w q) g off (kp E n++List.replicate (n-(kp E n).length) n).toArray:=by
 have self:∀q,putRow enc (Sort.ahead w q) g off (Array.range n)=w.drewN q:=fun q=>putRow_self enc (Sort.ahead w q) g off (Array.range n) (holds_ahead enc w q g off _ hH)
 have HS:Hid (∀q,(∀j,j<n→kpB E j=true)→(kp E n).length=n∧w.drewN q=putRow enc (Sort.ahead w q) g off (kp E n++List.replicate (n-(kp E n).length) n).toArray):=Lib.hid (by
  intro q hall;rw[kp_all hall];refine⟨List.length_range,?_⟩;simp only[List.length_range,Nat.sub_self,List.replicate_zero,List.append_nil];rw[show (List.range n).toArray=Array.range n from List.toArray_range]
  exact (self q).symm)
 have HF:=Lib.hid self
 have HH:Hid (∀i,i<n→w.cell? ⟨g,off+i,none⟩=some (enc i)):=Lib.hid (fun i hi=>by
  have:=(hH i (by rw[Array.size_range];exact hi)).1
  rwa [range_get! hi] at this)
 have HHH:=Lib.hid hH;have HR:=Lib.hid rd;have HM:=Lib.hid hm;have HZ:=Lib.hid hz;clear self hH rd hm hz;by_cases h2:n<2
 ·
  go_enter Tryz.func88,Tryz.ntmps88
  go_wp2;go_ret;obtain⟨e1,e2⟩:=HS.out 0 (fun j hj=>kp_first (by omega));exact⟨by rw[e1];rfl,0,e2⟩
 ·
  go_enter Tryz.func88,Tryz.ntmps88
  go_wp2;go_loopg [5] n (fun gg s5 wr=>∃k q:Nat,1≤k∧k≤n∧n-k≤gg∧s5 = .int .i64 k∧wr=w.drewN q∧Hid (∀j,j<k→kpB E j=true))
  case atStart=>exact⟨1,0,Nat.le_refl _,by omega,by omega,rfl,rfl,Lib.hid (fun j hj=>kp_first hj)⟩
  case round=>
   obtain⟨k,q,hk1,hk,hg,rfl,hwr,A⟩:=hrel;have XW:=Lib.hid hwr;clear hwr;by_cases hlt:k<n
   ·
    have c1:wr.cell? ⟨g,off+k,none⟩=some (enc k):=by rw[XW.out];exact HH.out k hlt
    have c0:wr.cell? ⟨g,off+(k-1),none⟩=some (enc (k-1)):=by rw[XW.out];exact HH.out (k-1) (by omega)
    have r1:Rd wr (enc k) (E.getD k []):=by rw[XW.out,←HF.out q];exact HR.out q (Array.range n) k hlt
    have r0:Rd wr (enc (k-1)) (E.getD (k-1) []):=by rw[XW.out,←HF.out q];exact HR.out q (Array.range n) (k-1) (by omega)
    have l1:=HM.out k;have hw1:IntKind.i64.wrap ((k:Int)-1)=((k-1:Nat):Int):=by rw[IntKind.wrap_i64];omega
    have b1:k-1<n:=by omega
    cases hdup:decide (E.getD k []=E.getD (k-1) [])
    ·
     have CQ:=fun m=>eqQ_of r1 r0 l1 hdup m
     have KB:Hid (kpB E k=true):=Lib.hid (kp_one (of_decide_eq_false hdup));obtain⟨a1,s1,e1,-⟩:=r1;obtain⟨a0,s0,e0,-⟩:=r0;rw[e1] at c1 CQ;rw[e0] at c0 CQ;generalize (E.getD k []).length=m1 at c1 CQ;generalize (E.getD (k-1) []).length=m0 at c0 CQ;clear e1 e0 l1 hdup;go_wp2_with fail
     go_quiet ((go_at_call 89;exact CQ _))
     clear c0 c1 CQ hw1 b1;go_wp2;go_roundg (n-(k+1))
     case measure=>omega
     case rel=>
      refine⟨k+1,q+nq,by omega,by omega,Nat.le_refl _,by go_num,by rw[XW.out,World.drewN_drewN],Lib.hid (fun j hj=>?_)⟩;by_cases e:j=k
      · rw[e];exact KB.out
      · exact A.out j (by omega)
    ·
     have CQ:=fun m=>eqQ_of r1 r0 l1 hdup m
     have KB:Hid (kpB E k=false):=Lib.hid (kp_neg hk1 (of_decide_eq_true hdup));obtain⟨a1,s1,e1,-⟩:=r1;obtain⟨a0,s0,e0,-⟩:=r0;rw[e1] at c1 CQ;rw[e0] at c0 CQ;generalize (E.getD k []).length=m1 at c1 CQ;generalize (E.getD (k-1) []).length=m0 at c0 CQ;clear e1 e0 l1 hdup;go_wp2_with fail
     go_quiet ((go_at_call 89;exact CQ _))
     clear c0 c1 CQ hw1 b1;go_wp2;go_loopg [5,7] n (fun gg s5 s7 wr=>∃(kk k2 q2:Nat) (dk:Array Nat),s5 = .int .i64 kk∧s7 = .int .i64 k2∧1≤k2∧k+k2≤n∧n-(k+k2)≤gg∧Hid (wr=putRow enc (Sort.ahead w q2) g off dk)∧Hid (KI E n (k+k2) kk dk))
     case atStart=>exact⟨k,1,q+nq,Array.range n,rfl,rfl,Nat.le_refl _,by omega,by omega,Lib.hid (by rw[HF.out,XW.out,World.drewN_drewN]),Lib.hid (KI.start hlt A.out KB.out)⟩
     case round=>
      obtain⟨kk,k2,q2,dk,rfl,rfl,h1,hle,hg2,W2,I2⟩:=hrel;have hkk:=I2.out.lt;have hds:=I2.out.size;have hHk:Holds enc wr g off dk:=by rw[W2.out];exact holds_putRow enc _ g off (Array.range n) dk (holds_ahead enc w q2 g off _ HHH.out) (by rw[hds,Array.size_range])
      by_cases hlt2:k+k2<n
      ·
       have cm:=(hHk (k+k2) (by omega)).1;have cp:=(hHk (k+k2-1) (by omega)).1;obtain⟨ck,fk⟩:=hHk kk (by omega);rw[I2.out.high (k+k2) (by omega) hlt2,show off+(k+k2)=off+k+k2 by omega] at cm;rw[I2.out.high (k+k2-1) (by omega) (by omega),show off+(k+k2-1)=off+k+(k2-1) by omega] at cp;have r1:Rd wr (enc (k+k2)) (E.getD (k+k2) []):=by rw[W2.out];exact HR.out q2 dk (k+k2) hlt2
       have r0:Rd wr (enc (k+k2-1)) (E.getD (k+k2-1) []):=by rw[W2.out];exact HR.out q2 dk (k+k2-1) (by omega)
       have l1:=HM.out (k+k2);generalize dk[kk]! = old at ck;have hw1:IntKind.i64.wrap ((k2:Int)-1)=((k2-1:Nat):Int):=by rw[IntKind.wrap_i64];omega
       have b1:k2-1<n-k:=by omega
       have b2:k2<n-k:=by omega
       clear hHk;cases hdup:decide (E.getD (k+k2) []=E.getD (k+k2-1) [])
       ·
        have CQ:=fun m=>eqQ_of r1 r0 l1 hdup m
        have KB2:Hid (kpB E (k+k2)=true):=Lib.hid (kp_one (of_decide_eq_false hdup));obtain⟨a1,s1,e1,-⟩:=r1;obtain⟨a0,s0,e0,-⟩:=r0;have HE:=Lib.hid e1;rw[e1] at cm CQ;rw[e0] at cp CQ;generalize (E.getD (k+k2) []).length=m1 at cm CQ HE;generalize (E.getD (k+k2-1) []).length=m0 at cp CQ;clear e1 e0 l1 hdup;go_wp2_with fail
        go_quiet ((go_at_call 89;exact CQ _))
        clear cp CQ hw1 b1;go_wp2;go_roundg (n-(k+(k2+1)))
        case measure=>omega
        case rel=>
         refine⟨kk+1,k2+1,q2+nq,dk.setIfInBounds kk (k+k2),by go_num,by go_num,by omega,by omega,Nat.le_refl _,Lib.hid ?_,Lib.hid (I2.out.put hlt2 KB2.out)⟩;rw[drew_put enc w wr g off q2 dk W2.out nq,←HE.out];exact putRow_set enc _ g off dk kk (k+k2) (by omega)
       ·
        have CQ:=fun m=>eqQ_of r1 r0 l1 hdup m
        have KB2:Hid (kpB E (k+k2)=false):=Lib.hid (kp_neg (by omega) (of_decide_eq_true hdup));obtain⟨a1,s1,e1,-⟩:=r1;obtain⟨a0,s0,e0,-⟩:=r0;rw[e1] at cm CQ;rw[e0] at cp CQ;generalize (E.getD (k+k2) []).length=m1 at cm CQ;generalize (E.getD (k+k2-1) []).length=m0 at cp CQ;clear e1 e0 l1 hdup;go_wp2_with fail
        go_quiet ((go_at_call 89;exact CQ _))
        clear cp cm ck fk CQ hw1 b1 b2;go_wp2;go_roundg (n-(k+(k2+1)))
        case measure=>omega
        case rel=>exact⟨kk,k2+1,q2+nq,dk,rfl,by go_num,by omega,by omega,Nat.le_refl _,Lib.hid (drew_put enc w wr g off q2 dk W2.out nq),Lib.hid (I2.out.skip KB2.out)⟩
      ·
       have hend:k+k2=n:=by omega
       have hcl:∀ty,(Builtin.clear_ #[26] ty #[.slice (some ⟨g,off+kk,none⟩) (n-kk) (cap-kk)]).run Tryz.prog wr = .ok (.tuple #[]) (wr.setCells g (off+kk) (List.replicate (n-kk) (.slice none 0 0))):=
        fun ty=>Lib.run_clear_slice wr _ _ ty _ Tryz.underlying26 Tryz.zeroValue50 rfl rfl g (off+kk) _ _ (by omega) (fun j hj=>by rw[show off+kk+j=off+(kk+j) by omega,(hHk (kk+j) (by omega)).1];rfl) (fun j hj=>by rw[show off+kk+j=off+(kk+j) by omega];exact (hHk (kk+j) (by omega)).2)
       clear hHk;go_wp2;go_ret;have hI:=I2.out;rw[hend] at hI;refine⟨by rw[hI.len];rfl,q2,?_⟩;rw[hI.len,←hI.done,←putRow_setCells enc _ g off _ dk kk (by simp;omega),←W2.out,List.map_replicate,HZ.out]
   ·
    have:k=n:=by omega
    subst this;go_wp2;go_ret;obtain⟨e1,e2⟩:=HS.out q A.out;exact⟨by rw[e1];rfl,q,by rw[XW.out];exact e2⟩
theorem cmpI64_any (x y:Int)(w:World):Calls Tryz.prog 167 #[.int .i64 x,.int .i64 y] w fun e w'=>e = .returned (.int .i64 (cmpZ x y))∧w'=w:=by
 rcases cmpZ_cases x y with ⟨h,e⟩|⟨h,e⟩|⟨h,e⟩
 ·
  rw[e];clear e;go_enter Tryz.func167,Tryz.ntmps167
  go_wp2;go_ret;exact⟨rfl,rfl⟩
 ·
  rw[e];have h2:¬x<y:=by omega
  clear e;go_enter Tryz.func167,Tryz.ntmps167
  go_wp2;go_ret;exact⟨rfl,rfl⟩
 ·
  rw[e];subst h;clear e;have h2:¬x<x:=by omega
  go_enter Tryz.func167,Tryz.ntmps167
  go_wp2;go_ret;exact⟨rfl,rfl⟩
theorem cmpS_any (w:World)(v1 v2:Value)(xs ys:List Int)(h1:Rd w v1 xs)(h2:Rd w v2 ys)(l1:xs.length≤1048576)(_:ys.length≤1048576):Calls Tryz.prog 87 #[v1,v2] w fun e w'=>e = .returned (.int .i64 (cmpL xs ys))∧w'=w:=by
 obtain⟨a1,c1,rfl,h1⟩:=h1;obtain⟨a2,c2,rfl,h2⟩:=h2;have X1:=Lib.hid h1;have X2:=Lib.hid h2;clear h1 h2;go_enter Tryz.func87,Tryz.ntmps87
 go_wp2;go_loop [5,6,7,8,11] (fun _ _ _ _ i=>∃k:Nat,k≤xs.length∧k≤ys.length∧i = .int .i64 k∧cmpL xs ys=cmpL (xs.drop k) (ys.drop k)) (fun _ _ _ _ i=>xs.length-(intOf i).toNat)
 case atStart=>exact⟨0,Nat.zero_le _,Nat.zero_le _,rfl,rfl⟩
 case round=>
  obtain⟨k,k1,k2,rfl,he⟩:=hrel;have XE:=Lib.hid he;clear he;have i1:(0:Int)≤(k:Int):=Int.natCast_nonneg _;by_cases hlt:k<xs.length
  ·
   rcases X1.out with q|⟨b1,o1,rfl,hb1,d1⟩
   · exfalso;rw[q] at hlt;simp at hlt
   have e1:=d1 k hlt;clear d1;have i2:(k:Int)<(xs.length:Int):=by omega
   by_cases hlt2:k<ys.length
   ·
    rcases X2.out with q|⟨b2,o2,rfl,hb2,d2⟩
    · exfalso;rw[q] at hlt2;simp at hlt2
    have e2:=d2 k hlt2;clear d2;have i3:(k:Int)<(ys.length:Int):=by omega
    have XS:=Lib.hid (cmpL_step hlt hlt2);generalize xs.getD k 0=x at e1 XS;generalize ys.getD k 0=y at e2 XS;have C:=cmpI64_any x y w;generalize cmpZ x y=z at C XS;by_cases hz:z=0
    ·
     subst hz;have XN:Hid (cmpL xs ys=cmpL (xs.drop (k+1)) (ys.drop (k+1))):=Lib.hid (by rw[XE.out,XS.out,if_pos rfl]);go_wp2_with fail
     refine C.mono ?_;rintro e w' ⟨rfl,rfl⟩;clear C;go_wp2;go_round
     case rel=>exact⟨k+1,by omega,by omega,by go_num,XN.out⟩
     case measure=>simp[intOf];omega
    ·
     have XN:Hid (cmpL xs ys=z):=Lib.hid (by rw[XE.out,XS.out,if_neg hz]);go_wp2_with fail
     refine C.mono ?_;rintro e w' ⟨rfl,rfl⟩;clear C;go_wp2;go_ret;exact⟨by rw[XN.out];rfl,rfl⟩
   ·
    have XN:Hid (cmpL xs ys=1):=Lib.hid (by rw[XE.out,cmpL_more hlt (by omega)]);have i3:(ys.length:Int)≤(k:Int):=by omega
    go_wp2;go_ret;exact⟨by rw[XN.out];rfl,rfl⟩
  ·
   have XN:Hid (cmpL xs ys=if xs.length<ys.length then -1 else 0):=Lib.hid (by rw[XE.out,cmpL_end (by omega) k2 k1]);have i2:(xs.length:Int)≤(k:Int):=by omega
   by_cases hl:xs.length<ys.length
   ·
    rw[if_pos hl] at XN;have i3:(xs.length:Int)<(ys.length:Int):=by omega
    go_wp2;go_ret;exact⟨by rw[XN.out];rfl,rfl⟩
   ·
    rw[if_neg hl] at XN;have i3:¬(xs.length:Int)<(ys.length:Int):=by omega
    go_wp2;go_ret;exact⟨by rw[XN.out];rfl,rfl⟩
end Go.Proofs.YtkmjmnljkidobaaGreat
