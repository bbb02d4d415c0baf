/- Gathered texts. -/
import Derived.Test.YtgikcfdckddgpabGreatMQ
import Derived.Test.YtgikcfdckddgpabGreatML
import Derived.BigQuiet
set_option maxRecDepth 100000
set_option maxHeartbeats 8000000
namespace Go.Proofs.YtgikcfdckddgpabGreat
open Go.ChangeShapes Go.WideShapes Go.ChangeAt Go.RowKit
theorem linI_hit (k:Nat)(ms:List Int)(m:Nat)(hm:m<ms.length):linI k (ms.take (m+1))=linI k (ms.take m)++[((k:Int),ms.getD m 0)]:=by
 unfold linI;rw[take_snoc ms m hm,List.map_append];rfl
theorem app_start {w:World}{base:Nat}{x:Value}{P:List (Int×Int)}(h:AppLn w base x P)(k:Nat)(ms:List Int):AppLn w base x (P++linI k (ms.take 0)):=by
 simpa [linI] using h
theorem linesIn_any (w:World)(v:Value)(zs:List Int)(h:Rd w v zs)(hn:zs.length≤12):
  Calls Tryz.prog 161 #[v] w fun e w'=>∃v',e = .returned v'∧AppLn w' w.heap.size v' (linL zs)∧Keep w w':=by
 obtain⟨j0,hj,hy0,hy1,hy2⟩:=info_parts Tryz.infoLn;have A0:AppLn (w.alloc (.cells #[] 163)) w.heap.size (.slice (some ⟨w.heap.size,0,none⟩) 0 0) []:=appT_empty w;have HL:Hid (linL zs=linK zs zs.length):=Lib.hid rfl;obtain⟨a,cap,rfl,h⟩:=h;go_enter Tryz.func161,Tryz.ntmps161
 go_wp2;go_loopw [3,11] (fun x i wr=>∃k:Nat,k≤zs.length∧i = .int .i64 k∧AppLn wr w.heap.size x (linK zs k)∧Keep w wr) (fun _ i _=>zs.length-(intOf i).toNat)
 case atStart=>exact⟨0,Nat.zero_le _,rfl,A0,(Keep.refl _).alloc _⟩
 case round=>
  obtain⟨k,hk,rfl,ho,hK⟩:=hrel;clear A0;by_cases hlt:k<zs.length
  ·
   rcases h with h|⟨b,off,rfl,hb,hc⟩
   · exfalso;rw[h] at hlt;simp at hlt
   have d1:=(hK.cell hb).trans (hc k hlt);have hbw:b<wr.heap.size:=Nat.lt_of_lt_of_le hb hK.size;clear hc;have HP:Hid (linK zs (k+1)=linK zs k++linI k (mem (zs.getD k 0) 12)):=Lib.hid rfl;have hml:=mem_len (zs.getD k 0) 12;have hll:=lin_len zs k;have i1:(0:Int)≤(k:Int):=Int.natCast_nonneg _;have i2:(k:Int)<(zs.length:Int):=by omega
   generalize zs.getD k 0=s at *;generalize linK zs k=P at *;go_wp2_with fail
   refine (implMembers_any _ _).mono ?_;rintro e w2 ⟨vm,rfl,om,k2⟩;generalize mem s 12=ms at *;have B2:=om.beside (fun g hg=>(ho.lt g hg).2);have ho2:=app_start (ho.keep k2) k ms;have hK2:=hK.trans k2;obtain⟨am,cm,rfl,-⟩:=id B2.rd;clear om k2 ho hK d1 hbw;go_wp2;go_loopw [3,19] (fun x i wr=>∃m:Nat,m≤ms.length∧i = .int .i64 m∧AppLn wr w.heap.size x (P++linI k (ms.take m))∧Keep w wr∧Beside wr x (.slice am ms.length cm) ms) (fun _ i _=>ms.length-(intOf i).toNat)
   case atStart=>exact⟨0,Nat.zero_le _,rfl,ho2,hK2,B2⟩
   case round=>
    clear ho2 hK2 B2;obtain⟨m,hm,rfl,ho,hK,B⟩:=hrel;by_cases hmt:m<ms.length
    ·
     obtain⟨a',c',he',hR'⟩:=id B.rd;simp only[Value.slice.injEq,true_and] at he';obtain⟨rfl,rfl⟩:=he';rcases hR' with h0|⟨bm,om,rfl,hbm,hcm⟩
     · exfalso;rw[h0] at hmt;simp at hmt
     have d1:=hcm m hmt;clear hcm;have HM:Hid (P++linI k (ms.take (m+1))=P++linI k (ms.take m)++[((k:Int),ms.getD m 0)]):=Lib.hid (by rw[linI_hit k ms m hmt,List.append_assoc])
     have hql:(P++linI k (ms.take m)).length≤300:=by
      rw[List.length_append,linI,List.length_map,List.length_take];omega
     generalize P++linI k (ms.take m)=Q at *;generalize ms.getD m 0=y at *;have j1:(0:Int)≤(m:Int):=Int.natCast_nonneg _;have j2:(m:Int)<(ms.length:Int):=by omega
     have hsz:=hK.size;have ho3:=ho.keep ((Keep.refl wr).alloc (lnO k y));have K3:=hK.alloc (lnO k y);have B3:=B.keep ((Keep.refl wr).alloc (lnO k y));go_wp2_with (at_builtin;refine wpList_append_own_at _ rfl _ _ 159 rfl w.heap.size 163 j0 (.agg #[.int .i64 0,.int .i64 0]) 2 16 Tryz.underlying159 hj hy0 hy1 hy2 rfl (by decide) _ _ _ rfl ho3 ⟨_,0,none⟩ 1 1 (cLn ((k:Int),y)) rfl rfl ?c1 ?c2 ?c3 ?c4 ?c5 ?_)
     case c1=>exact cLn_new _ _ rfl _ _
     case c2=>exact cLn_one _
     case c3=>unfold maxLen;omega
     case c4=>omega
     case c5=>simp;omega
     intro v' w1 hown' hgrow _ hblk;have B4:=B3.grow hgrow (by rw[heap_size];exact hblk);have K4:=K3.grown hgrow ho3.ge;have A4:=appT_hit hown';rw[←HM.out] at A4;clear hgrow hown' hblk ho3 K3 B3 B hK ho d1 HM;go_wp2;go_roundw;case rel=>exact⟨m+1,by omega,by go_num,A4,K4,B4⟩
     case measure=>simp[intOf];omega
    ·
     obtain rfl:m=ms.length:=by omega
     rw[List.take_length,←HP.out] at ho;go_wp2;go_roundw;case rel=>exact⟨k+1,by omega,by go_num,ho,hK⟩
     case measure=>simp[intOf];omega
  ·
   obtain rfl:k=zs.length:=by omega
   go_wp2;go_ret;exact⟨_,rfl,by rw[HL.out];exact ho,hK⟩
theorem other_any (w:World)(v:Value)(es:List Ev)(h:RdE w v es)(A:Nat)(hA:w.cell? ⟨A,0,none⟩=some v)(hAl:A<w.heap.size)(i j:Nat)(hi:i<es.length)(hj:j<es.length):
  Calls Tryz.prog 163 #[.agg #[.int .i64 i,.int .i64 j],.pointer (some ⟨A,0,none⟩)] w fun e w'=>e = .returned (.bool (othP es ((i:Int),(j:Int))))∧Keep w w':=by
 obtain⟨a,c,rfl,h⟩:=h;rcases h with h|⟨b,off,rfl,hb,hc⟩
 · exfalso;rw[h] at hi;simp at hi
 have K0:Keep w (w.alloc (lnO i j)):=(Keep.refl w).alloc _;have a1:=(K0.cell hAl).trans hA;have AI:=(hc i _ (evs_get hi)).keep hb K0;have AJ:=(hc j _ (evs_get hj)).keep hb K0;have HP:Hid (othP es ((i:Int),(j:Int))=((es.getD i zE).1 != (es.getD j zE).1)):=Lib.hid (by unfold othP;dsimp only;rw[Int.toNat_natCast,Int.toNat_natCast]);clear hc hA;generalize othP es ((i:Int),(j:Int))=T at *;generalize es.getD i zE=x at *;generalize es.getD j zE=y at *;obtain⟨x0,x1,x2,x3,x4,x5⟩:=x;obtain⟨y0,y1,y2,y3,y4,y5⟩:=y;obtain⟨A3,-,-,-,-,-⟩:=atE AI;obtain⟨B3,-,-,-,-,-⟩:=atE AJ;clear AI AJ;have i1:(0:Int)≤(i:Int):=Int.natCast_nonneg _;have i2:(i:Int)<(es.length:Int):=by omega
 have j1:(0:Int)≤(j:Int):=Int.natCast_nonneg _;have j2:(j:Int)<(es.length:Int):=by omega
 have l1:=box_cell (w:=w) (cs:=#[.int .i64 i,.int .i64 j]) (t:=163) (Keep.refl _) 0;have l2:=box_cell (w:=w) (cs:=#[.int .i64 i,.int .i64 j]) (t:=163) (Keep.refl _) 1;go_enter Tryz.func163,Tryz.ntmps163
 go_wp2;go_quiet (fail)
 go_wp2;go_ret;exact⟨ret_bool (by rw[HP.out]),K0.drewN _⟩
theorem only_any (w:World)(v u:Value)(l:List (Int×Int))(es:List Ev)(hl:RdLn w v l)(hn:l.length≤144)(h:RdE w u es)(A:Nat)(hA:w.cell? ⟨A,0,none⟩=some u)(hAl:A<w.heap.size)(hin:∀x∈l,∃i j:Nat,x=((i:Int),(j:Int))∧i<es.length∧j<es.length):
  Calls Tryz.prog 162 #[v,.func (Fn.func 163) #[] #[.pointer (some ⟨A,0,none⟩)]] w fun e w'=>∃v',e = .returned v'∧AppLn w' w.heap.size v' (l.filter (othP es))∧Keep w w':=by
 obtain⟨j0,hj,hy0,hy1,hy2⟩:=info_parts Tryz.infoLn;have A0:AppLn (w.alloc (.cells #[] 163)) w.heap.size (.slice (some ⟨w.heap.size,0,none⟩) 0 0) []:=appT_empty w;have C:=fun (W:World) (k:Keep w W) (i q:Nat) (hi:i<es.length) (hq:q<es.length)=>other_any W u es (h.keep k) A ((k.cell hAl).trans hA) (Nat.lt_of_lt_of_le hAl k.size) i q hi hq
 have HIN:=Lib.hid hin;have HC:=Lib.hid C;clear hin C h hA;obtain⟨a,c,rfl,hl⟩:=hl;go_enter Tryz.func162,Tryz.ntmps162
 go_wp2;go_loopw [5,11] (fun x i wr=>∃k:Nat,k≤l.length∧i = .int .i64 k∧AppLn wr w.heap.size x ((l.take k).filter (othP es))∧Keep w wr) (fun _ i _=>l.length-(intOf i).toNat)
 case atStart=>exact⟨0,Nat.zero_le _,rfl,A0,(Keep.refl _).alloc _⟩
 case round=>
  obtain⟨k,hk,rfl,ho,hK⟩:=hrel;clear A0;by_cases hlt:k<l.length
  ·
   rcases hl with h|⟨b,off,rfl,hb,hc⟩
   · exfalso;rw[h] at hlt;simp at hlt
   have AT:=(hc k _ (ln_get hlt)).keep hb hK;have hbw:b<wr.heap.size:=Nat.lt_of_lt_of_le hb hK.size;clear hc
   have hmem:l.getD k (0,0)∈l:=by
    rw[List.getD_eq_getElem?_getD,List.getElem?_eq_getElem hlt];exact List.getElem_mem hlt
   obtain⟨i,q,hx,hi,hq⟩:=HIN.out _ hmem;clear hmem
   have HP:Hid ((l.take (k+1)).filter (othP es)=(l.take k).filter (othP es)++if othP es ((i:Int),(q:Int))=true then [((i:Int),(q:Int))] else []):=Lib.hid (by
    rw[List.take_succ_eq_append_getElem hlt,List.filter_append]
    have e:l[k]=((i:Int),(q:Int)):=by
     rw[List.getD_eq_getElem?_getD,List.getElem?_eq_getElem hlt] at hx;exact hx
    rw[e,List.filter_cons,List.filter_nil])
   rw[hx] at AT;clear hx;obtain⟨d1,d2⟩:=atLn AT;clear AT
   have hll:((l.take k).filter (othP es)).length≤144:=by
    have:=List.length_filter_le (othP es) (l.take k);rw[List.length_take] at this;omega
   generalize (l.take k).filter (othP es)=P at *;have i1:(0:Int)≤(k:Int):=Int.natCast_nonneg _;have i2:(k:Int)<(l.length:Int):=by omega
   have C:=HC.out _ (hK.alloc (lnO i q)) i q hi hq;generalize othP es ((i:Int),(q:Int))=T at *;go_wp2_with fail
   refine C.mono ?_;rintro e w2 ⟨rfl,k2⟩;have b0:=box_cell k2 0;have b1:=box_cell k2 1;simp at b0 b1;have K1:=(Keep.refl wr).alloc (lnO i q) |>.trans k2;have ho2:=ho.keep K1;have hK2:=hK.trans K1;have z2:=box_size k2;clear ho hK k2 K1 d1 d2 C;cases T
   ·
    rw[if_neg (by simp),List.append_nil] at HP;go_wp2;go_roundw;case rel=>exact⟨k+1,by omega,by go_num,by rw[HP.out];exact ho2,hK2⟩
    case measure=>simp[intOf];omega
   ·
    rw[if_pos rfl] at HP;have hsz:=hK2.size;have ho3:=ho2.keep ((Keep.refl w2).alloc (lnO i q));have K3:=hK2.alloc (lnO i q);go_wp2_with (at_builtin;refine wpList_append_own_at _ rfl _ _ 159 rfl w.heap.size 163 j0 (.agg #[.int .i64 0,.int .i64 0]) 2 16 Tryz.underlying159 hj hy0 hy1 hy2 rfl (by decide) _ _ _ rfl ho3 ⟨_,0,none⟩ 1 1 (cLn ((i:Int),(q:Int))) rfl rfl ?c1 ?c2 ?c3 ?c4 ?c5 ?_)
    case c1=>exact cLn_new _ _ rfl _ _
    case c2=>exact cLn_one _
    case c3=>unfold maxLen;omega
    case c4=>omega
    case c5=>simp;omega
    intro v' w1 hown' hgrow _ _;have K4:=K3.grown hgrow ho3.ge;have A4:=appT_hit hown';rw[←HP.out] at A4;clear hgrow hown' ho3 K3 hK2 ho2 HP b0 b1;go_wp2;go_roundw;case rel=>exact⟨k+1,by omega,by go_num,A4,K4⟩
    case measure=>simp[intOf];omega
  ·
   obtain rfl:k=l.length:=by omega
   rw[List.take_length] at ho;go_wp2;go_ret;exact⟨_,rfl,ho,hK⟩
end Go.Proofs.YtgikcfdckddgpabGreat
