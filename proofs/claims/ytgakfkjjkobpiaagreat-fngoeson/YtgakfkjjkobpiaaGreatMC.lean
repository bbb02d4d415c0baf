/- Gathered texts. -/
import Derived.Test.YtgakfkjjkobpiaaGreatMB
set_option maxRecDepth 100000
set_option maxHeartbeats 8000000
namespace Go.Proofs.YtgakfkjjkobpiaaGreat
open Go.RowKit
def U2 (es:List Ev)(c k i:Nat):Bool:=((es.getD i zE).1==(c:Int))&&((es.getD i zE).2.1==(k:Int))
theorem Yk {es:List Ev}{c k i:Nat}(h3:3<=i)(hi:i<es.length)(hn:∀j,3<=j->j<i->U2 es c k j=false)(h:U2 es c k i=true):JB es c k=(i:Int):=by
 unfold JB
 have e:(List.range es.length).find? (fun i=>decide (3<=i)&&((es.getD i zE).1==(c:Int))&&((es.getD i zE).2.1==(k:Int)))=some i:=by
  rw[List.find?_eq_some_iff_getElem];refine⟨?_,i,by simpa using hi,by simp,fun j hj=>?_⟩
  ·
   unfold U2 at h;rw[Bool.and_assoc,h];simp[h3]
  ·
   simp only[List.getElem_range];by_cases h3:3<=j
   ·
    have:=hn j h3 hj;unfold U2 at this;rw[Bool.and_assoc,this];simp
   . simp[h3]
 rw[e]
theorem V0 {es:List Ev}{c k:Nat}(hn:∀j,3<=j->j<es.length->U2 es c k j=false):JB es c k=-1:=by
 unfold JB
 have e:(List.range es.length).find? (fun i=>decide (3<=i)&&((es.getD i zE).1==(c:Int))&&((es.getD i zE).2.1==(k:Int)))=none:=by
  rw[List.find?_eq_none];intro j hj;by_cases h3:3<=j
  ·
   have:=hn j h3 (List.mem_range.1 hj);unfold U2 at this;rw[Bool.and_assoc,this];simp
  . simp[h3]
 rw[e]
theorem eU (es:List Ev)(c k:Nat)(h:es.length<=12):-1<=JB es c k/\JB es c k<=12:=by
 unfold JB;split
 ·
  rename_i i e;have:=List.mem_range.1 (List.mem_of_find?_eq_some e);omega
 . omega
def Da (rs:List Int)(ev v:Int)(l:List Int):Nat->List Int
 | 0=>l
 |k+1=>if decide (rs.getD k 0=ev)=true then (Da rs ev v l k).set k v else Da rs ev v l k
theorem Hw (rs:List Int)(ev v:Int)(l:List Int):∀k:Nat,(Da rs ev v l k).length=l.length
 | 0=>rfl
 |k+1=>by rw[Da];split<;>simp[Hw rs ev v l k]
theorem Qm {rs:List Int}{ev v:Int}{l:List Int}:∀(k j:Nat),j<l.length->(Da rs ev v l k)[j]? = if j<k/\rs.getD j 0=ev then some v else l[j]?
 | 0,j,h=>by simp[Da]
 |k+1,j,h=>by
  have ih:=Qm (rs:=rs) (ev:=ev) (v:=v) k j h;rw[Da];by_cases e:rs.getD k 0=ev
  ·
   rw[if_pos (decide_eq_true e),List.getElem?_set,Hw];by_cases ej:k=j
   ·
    subst ej;rw[if_pos rfl,if_pos h,if_pos ⟨by omega,e⟩]
   ·
    rw[if_neg ej,ih];by_cases h1:j<k/\rs.getD j 0=ev
    . rw[if_pos h1,if_pos ⟨by omega,h1.2⟩]
    . rw[if_neg h1,if_neg (fun h2=>h1 ⟨by omega,h2.2⟩)]
  ·
   rw[if_neg (by simpa using e),ih];by_cases h1:j<k/\rs.getD j 0=ev
   . rw[if_pos h1,if_pos ⟨by omega,h1.2⟩]
   ·
    rw[if_neg h1,if_neg (fun h2=>?_)];by_cases ej:j=k
    . subst ej;exact e h2.2
    . exact h1 ⟨by omega,h2.2⟩
theorem Ny {rs:List Int}{ev v:Int}{l:List Int}(h:l.length=rs.length):Da rs ev v l rs.length=Gx rs ev v l:=by
 apply List.ext_getElem?;intro j;unfold Gx;by_cases hj:j<l.length
 ·
  rw[Qm _ _ hj,List.getElem?_zipWith];rw[List.getElem?_eq_getElem hj,List.getElem?_eq_getElem (show j<rs.length by omega)];have e:rs.getD j 0=rs[j]'(by omega):=by rw[List.getD_eq_getElem?_getD,List.getElem?_eq_getElem (show j<rs.length by omega)];rfl
  simp only[e];by_cases h1:rs[j]'(by omega)=ev
  . rw[if_pos ⟨by omega,h1⟩];simp[h1]
  . rw[if_neg (fun h2=>h1 h2.2)];simp[h1]
 . rw[List.getElem?_eq_none (by rw[Hw];omega),List.getElem?_eq_none (by rw[List.length_zipWith];omega)]
def GL (AA:List (List Dd))(b:Bd)(k:Nat):List Int:=((List.range k).filter (C6 AA b)).map (fun c:Nat=>(c:Int))
theorem Vq {AA:List (List Dd)}{b:Bd}{k:Nat}(h:C6 AA b k=true):GL AA b (k+1)=GL AA b k++[(k:Int)]:=by
 unfold GL;rw[List.range_succ,List.filter_append,List.map_append];simp[h]
theorem Tw {AA:List (List Dd)}{b:Bd}{k:Nat}(h:C6 AA b k=false):GL AA b (k+1)=GL AA b k:=by
 unfold GL;rw[List.range_succ,List.filter_append,List.map_append];simp[h]
def Mo (b:Bd)(k:Nat):List Int:=((List.range k).filter (fun c=>!(b.AH.getD c []).isEmpty)).map (fun c:Nat=>10+(c:Int))
theorem ZA {b:Bd}{k:Nat}(h:0<(b.AH.getD k []).length):Mo b (k+1)=Mo b k++[10+(k:Int)]:=by
 have:(b.AH.getD k []).isEmpty=false:=by
  cases e:b.AH.getD k [] with
  |nil=>rw[e] at h;simp at h
  |cons x l=>rfl
 unfold Mo;rw[List.range_succ,List.filter_append,List.map_append];simp only[List.filter_cons,this,Bool.not_false,if_true,List.filter_nil,List.map_cons,List.map_nil]
theorem Wk {b:Bd}{k:Nat}(h:¬ 0<(b.AH.getD k []).length):Mo b (k+1)=Mo b k:=by
 have:(b.AH.getD k []).isEmpty=true:=by
  cases e:b.AH.getD k [] with
  |nil=>rfl
  |cons x l=>rw[e] at h;simp at h
 unfold Mo;rw[List.range_succ,List.filter_append,List.map_append];simp only[List.filter_cons,this,Bool.not_true,Bool.false_eq_true,if_false,List.filter_nil,List.map_nil,List.append_nil]
theorem Ew (AA:List (List Dd))(b:Bd):GL AA b AA.length++Mo b AA.length=Ae AA b:=rfl
theorem FE (AA:List (List Dd))(b:Bd)(k:Nat):(GL AA b k).length<=k:=by
 unfold GL;rw[List.length_map];exact Nat.le_trans (List.length_filter_le _ _) (by simp)
theorem IG (b:Bd)(k:Nat):(Mo b k).length<=k:=by
 unfold Mo;rw[List.length_map];exact Nat.le_trans (List.length_filter_le _ _) (by simp)
structure EF (AA:List (List Dd))(b:Bd)(n:Nat):Prop where
 work:AW AA=true
 AM:b.AM.length=3
 AQ:b.AQ.length=3
 rws:b.rws.length=3
 AH:b.AH.length=AA.length
 AL:b.AL.length=AA.length
 sn:b.sn.length=(AX Aj (AB AA)).length
 fr:b.fr.length=(AX Aj (AB AA)).length
 rl:∀p,(b.rws.getD p []).length<=n
 nl:∀c,(b.AH.getD c []).length<=n
theorem EF.mono {AA:List (List Dd)}{b:Bd}{n m:Nat}(h:EF AA b n)(hm:n<=m):EF AA b m:=
 ⟨h.work,h.AM,h.AQ,h.rws,h.AH,h.AL,h.sn,h.fr,fun p=>Nat.le_trans (h.rl p) hm,fun c=>Nat.le_trans (h.nl c) hm⟩
theorem Iy {α:Type}{l:List (List α)}{n:Nat}(h:∀i,(l.getD i []).length<=n)(k:Nat)(z:List α)(hz:z.length<=n):∀i,((l.set k z).getD i []).length<=n:=fun i=>by
 rw[List.getD_eq_getElem?_getD,List.getElem?_set];by_cases e:k=i
 ·
  rw[if_pos e];by_cases hk:k<l.length
  . rw[if_pos hk];exact hz
  . rw[if_neg hk];simp
 . rw[if_neg e,<-List.getD_eq_getElem?_getD];exact h i
theorem Jd {rs:List Int}{ev v:Int}{l:List Int}(h:l.length=rs.length):(Gx rs ev v l).length=rs.length:=by unfold Gx;rw[List.length_zipWith];omega
theorem EF.see {AA:List (List Dd)}{b:Bd}{n:Nat}(h:EF AA b n)(ev v f:Int):EF AA (Fv (AX Aj (AB AA)) b ev v f) n:=
 ⟨h.work,h.AM,h.AQ,h.rws,h.AH,h.AL,Jd h.sn,Jd h.fr,h.rl,h.nl⟩
theorem EF.UK {AA:List (List Dd)}{b:Bd}{n:Nat}(h:EF AA b n)(p:Nat)(v ev:Int):EF AA (Dw b p v ev) (n+1):=
 ⟨h.work,by simp[Dw,h.AM],by simp[Dw,h.AQ],by simp[Dw,h.rws],h.AH,h.AL,h.sn,h.fr,
  Iy (fun i=>Nat.le_succ_of_le (h.rl i)) p _ (by have:=h.rl p;rw[List.length_append,List.length_singleton];omega),fun c=>Nat.le_succ_of_le (h.nl c)⟩
theorem EF.note {AA:List (List Dd)}{b:Bd}{n:Nat}(h:EF AA b n)(c:Nat)(x:Nt):EF AA { b with AH:=b.AH.set c (b.AH.getD c []++[x]) } (n+1):=
 ⟨h.work,h.AM,h.AQ,h.rws,by simp[h.AH],h.AL,h.sn,h.fr,fun p=>Nat.le_succ_of_le (h.rl p),
  Iy (fun i=>Nat.le_succ_of_le (h.nl i)) c _ (by have:=h.nl c;rw[List.length_append,List.length_singleton];omega)⟩
theorem EF.less {AA:List (List Dd)}{b:Bd}{n:Nat}(h:EF AA b n)(c:Nat)(l:List Nt)(hl:l.length<=n):EF AA { b with AH:=b.AH.set c l } n:=
 ⟨h.work,h.AM,h.AQ,h.rws,by simp[h.AH],h.AL,h.sn,h.fr,h.rl,Iy h.nl c _ hl⟩
theorem EF.deed {AA:List (List Dd)}{b:Bd}{n:Nat}(h:EF AA b n)(c k:Nat):EF AA (BM AA (AB AA) b c k) (n+1):=by
 unfold BM;split
 . exact (h.see _ _ _).mono (Nat.le_succ n)
 ·
  split
  . exact (h.see _ _ _).UK _ _ _
  ·
   split
   . exact h.UK _ _ _
   ·
    split
    . exact h.note c _
    . exact h.mono (Nat.le_succ n)
theorem EF.next {AA:List (List Dd)}{b:Bd}{n:Nat}(h:EF AA b n)(c:Nat)(x:Int):EF AA { b with AL:=b.AL.set c x } n:=
 ⟨h.work,h.AM,h.AQ,h.rws,h.AH,by simp[h.AL],h.sn,h.fr,h.rl,h.nl⟩
theorem Li (AA:List (List Dd))(es:List Ev)(b:Bd)(c k:Nat):(BM AA es b c k).AL=b.AL:=by
 unfold BM;split
 . rfl
 ·
  split
  . rfl
  ·
   split
   . rfl
   . split<;>rfl
theorem EF.one {AA:List (List Dd)}{b:Bd}{n:Nat}(h:EF AA b n)(c:Nat):EF AA (Ar AA (AB AA) b c) (n+1):=by
 have:=(h.deed c (Av b c)).next c (b.AL.getD c 0+1);rw[Li] at this;exact this
theorem EF.flush {AA:List (List Dd)}{b:Bd}{n:Nat}(h:EF AA b n)(c:Nat):EF AA (Bs b c) (n+1):=by
 unfold Bs;split
 . exact h.mono (Nat.le_succ n)
 ·
  rename_i x r e;exact (h.less c r (by have:=h.nl c;rw[e] at this;simp at this;omega)).UK _ _ _
theorem EF.of {AA:List (List Dd)}{b:Bd}(h:Af AA b=true):EF AA b 20:=by
 simp only[Af,DF,Ef,EC,Bool.and_eq_true,decide_eq_true_eq] at h;obtain⟨⟨hw,h1,h2,h3,h4,h5⟩,⟨h6,h7,-⟩,h8,h9⟩:=h;refine⟨hw,h1,h2,h3,h4,h5,h6,h7,fun p=>?_,fun c=>?_⟩
 ·
  by_cases hp:p<3
  ·
   have:=List.all_eq_true.1 h8 p (List.mem_range.2 hp);simp only[DW,Bool.and_eq_true,decide_eq_true_eq] at this;exact this.2
  . rw[List.getD_eq_getElem?_getD,List.getElem?_eq_none (by omega)];simp
 ·
  by_cases hc:c<AA.length
  ·
   have:=List.all_eq_true.1 h9 c (List.mem_range.2 hc);simp only[Lg,Bool.and_eq_true,decide_eq_true_eq] at this;omega
  . rw[List.getD_eq_getElem?_getD,List.getElem?_eq_none (by omega)];simp
theorem EN {AA:List (List Dd)}{b:Bd}(h:Af AA b=true){c:Nat}(hc:c<AA.length):0<=b.AL.getD c 0/\b.AL.getD c 0<=((AA.getD c []).length:Int):=by
 simp only[Af,Bool.and_eq_true] at h;have:=List.all_eq_true.1 h.2.2.2 c (List.mem_range.2 hc);simp only[Lg,Bool.and_eq_true,decide_eq_true_eq] at this;exact this.1
theorem Wt {AA:List (List Dd)}(h:AW AA=true)(j:Nat)(hj:j<(Az AA AA.length).length):0<=((Az AA AA.length).getD j zE).2.2.2.1/\((Az AA AA.length).getD j zE).2.2.2.1<=2:=by
 simp only[AW,Bool.and_eq_true,decide_eq_true_eq] at h;obtain⟨⟨⟨⟨_,h2⟩,_⟩,_⟩,_⟩:=h;have hok:∀i,i<AA.length->Ft (AA.getD i [])=true:=fun i hi=>BR [] h2 i hi
 obtain⟨⟨t,ht⟩,hg⟩:=JP hok AA.length (Nat.le_refl _);by_cases hj3:3<=j
 . exact Lo hok (hg j hj3 hj)
 ·
  obtain⟨b0,b1,b2⟩:=Kg ht;have:j=0\/j=1\/j=2:=by omega
  rcases this with rfl|rfl|rfl
  . rw[b0];decide
  . rw[b1];decide
  . rw[b2];decide
def eZ (n:Nat)(rs f:List Int):Nat->List Int
 | 0=>List.replicate n 0
 |k+1=>(eZ n rs f k).set (f.getD k 0).toNat (Fo ((eZ n rs f k).getD (f.getD k 0).toNat 0) (rs.getD k 0))
def Yp (es:List Ev)(f:List Int):List Int:=eZ es.length (AX Aj es) f (AX Aj es).length
theorem S9 {n:Nat}{rs f:List Int}(hn:n<=12):∀k:Nat,(∀i,i<k->0<=rs.getD i 0/\rs.getD i 0<(n:Int))->(∀i,i<k->0<=f.getD i 0/\f.getD i 0<(n:Int)) ->
  C5 n (eZ n rs f k)/\∀a j:Nat,a<n->(Ap (eZ n rs f k) a j=true↔∃i,i<k/\f.getD i 0=(a:Int)/\rs.getD i 0=(j:Int))
 | 0,_,_=>⟨C5.zero hn,fun a j _=>by rw[eZ,IB];simp⟩
 |k+1,hr,hf=>by
  obtain⟨h1,h2⟩:=S9 hn k (fun i hi=>hr i (by omega)) (fun i hi=>hf i (by omega));obtain⟨a0,ha0⟩:=Int.eq_ofNat_of_zero_le (hf k (by omega)).1;obtain⟨j0,hj0⟩:=Int.eq_ofNat_of_zero_le (hr k (by omega)).1;have ha:a0<n:=by have:=(hf k (by omega)).2;omega
  have hj:j0<n:=by have:=(hr k (by omega)).2;omega
  rw[eZ,ha0,hj0,Int.toNat_natCast];have hg:=Ou (h1.2.2 a0 ha) hj;refine⟨h1.set hg.1,fun a j Xq=>?_⟩;unfold Ap;rw[FI _ _ _ _ (by rw[h1.2.1];exact ha)];by_cases e:a0=a
  ·
   subst e;rw[if_pos rfl,hg.2 j,Bool.or_eq_true,decide_eq_true_eq];have:=h2 a0 j Xq;unfold Ap at this;rw[this];constructor
   ·
    rintro (⟨i,hi,h⟩|rfl)
    . exact⟨i,by omega,h⟩
    . exact⟨k,by omega,ha0,hj0⟩
   ·
    rintro⟨i,hi,h3,h4⟩;by_cases e2:i=k
    . subst e2;right;rw[hj0] at h4;omega
    . exact .inl ⟨i,by omega,h3,h4⟩
  ·
   rw[if_neg e];have:=h2 a j Xq;unfold Ap at this;rw[this];constructor
   ·
    rintro⟨i,hi,h⟩;exact⟨i,by omega,h⟩
   ·
    rintro⟨i,hi,h3,h4⟩;by_cases e2:i=k
    . subst e2;rw[ha0] at h3;omega
    . exact⟨i,by omega,h3,h4⟩
theorem GX {l:List Int}{n:Int}(h:Dx l n=true):n∈l:=by
 unfold Dx at h;rw[List.any_eq_true] at h;obtain⟨x,hx,e⟩:=h;rw[beq_iff_eq] at e;rw[<-e];exact hx
theorem FK (f:Ev->Bool)(l:List Ev):∀(k:Nat) (x:Int),x∈Be f l k->f (l.getD x.toNat zE)=true
 | 0,x,h=>by simp[Be] at h
 |k+1,x,h=>by
  rw[Be] at h;split at h
  ·
   rename_i hf;rcases List.mem_append.1 h with h|h
   . exact FK f l k x h
   ·
    simp only[List.mem_cons,List.not_mem_nil,or_false] at h;rw[h,Int.toNat_natCast];exact hf
  . exact FK f l k x h
theorem ZQ {es:List Ev}{f:List Int}(hx:es.length<=12)(h:Qp (Lf es) f=true):(AX Aj es).length=f.length /\
  ∀i,i<(AX Aj es).length->(0<=f.getD i 0/\f.getD i 0<(es.length:Int))/\(es.getD (f.getD i 0).toNat zE).2.2.2.1=Xu es ((AX Aj es).getD i 0):=by
 unfold Qp at h;rw[Bool.and_eq_true,decide_eq_true_eq] at h;obtain⟨h1,h2⟩:=h;have hc:(Lf es).length=(AX Aj es).length:=Fz _ _ _;refine⟨by omega,fun i hi=>?_⟩;have h3:=(MY (Lf es).length).1 h2 i (by omega);unfold Lf at h3;rw[Ld _ _ _ _ hi] at h3;have h4:=GX h3;unfold AX at h4;rw[if_pos hx] at h4;have h5:=EI _ _ _ _ h4;have h6:=FK _ _ _ _ h4;refine⟨h5,?_⟩;unfold JC at h6;simp only[Bool.and_eq_true,beq_iff_eq] at h6;rw[h6.2];unfold AX;rw[if_pos hx]
structure MI (AA:List (List Dd))(b:Bd)(a:Ab)(τ:Nat->Nat)(T:Nat)(z:Int):Prop where
 DD:iT AA b a
 inv:Fw (Au AA) (Eh AA a τ) T z
 ZF:∀c,c<AA.length->a.nx c<=(AA.getD c []).length
 nt:∀c x,x∈a.N c->c<AA.length/\∃k,Dv AA x c k 0/\k<a.nx c/\(An AA c k).1=2/\Bi AA c k=0/\∀k',k<k'->k'<a.nx c->(An AA c k').1≠4/\Ee (An AA c k')=false
theorem MZ (AA:List (List Dd))(a:Ab)(τ:Nat->Nat)(c:Nat):(Eh AA a τ).N (c:Int)=a.N c:=by
 show (if 0<=(c:Int) then a.N (c:Int).toNat else [])=_;rw[if_pos (by omega),Int.toNat_natCast]
theorem Ii {AA:List (List Dd)}{b:Bd}{a:Ab}(h:iT AA b a){c:Nat}(hc:c<AA.length):b.AL.getD c 0=(a.nx c:Int)/\Av b c=a.nx c:=by
 have e:b.AL.getD c 0=(a.nx c:Int):=by rw[h.AL,Gd _ _ hc]
 exact⟨e,by unfold Av;rw[e,Int.toNat_natCast]⟩
theorem MH {AA:List (List Dd)}{b:Bd}{a:Ab}(h:iT AA b a){c:Nat}(hc:c<AA.length):b.AH.getD c []=(a.N c).map (Wj AA):=by rw[h.AH,Gd _ _ hc]
theorem Iw {AA:List (List Dd)}{b:Bd}{a:Ab}(h:iT AA b a){p:Nat}(hp:p<3):b.AQ.getD p 0=(CO a p:Int)/\b.AM.getD p 0=Jh AA (CO a p)/\b.rws.getD p []=(a.R p).map Int.ofNat:=by
 refine⟨by rw[h.AQ,Gd _ _ hp],by rw[h.AM,Gd _ _ hp],by rw[h.rws,Gd _ _ hp]⟩
theorem Nh {AA:List (List Dd)}{a:Ab}{τ:Nat->Nat}{T:Nat}{z:Int}(h:Fw (Au AA) (Eh AA a τ) T z){p:Nat}(hp:p<3):(a.R p).getLast? = some (CO a p):=by
 obtain⟨h1,h2,h3,h4,_⟩:=h.Ie p hp;have hm:p∈a.R p:=(h.rows p p).2 ⟨⟨h1,fun hn=>by have:=(h.note _ _ hn).2.1;omega⟩,h2,h3⟩;unfold CO
 cases hl:(a.R p).getLast? with
 |none=>rw[List.getLast?_eq_none_iff.1 hl] at hm;cases hm
 |some y=>rfl
theorem IL {AA:List (List Dd)}(hb:AW AA=true){c k:Nat}(hc:c<AA.length)(hk:k<(AA.getD c []).length):∃p:Nat,p<3/\(An AA c k).2.1=(p:Int):=by
 have hd:=Bv (B7 hb hc k hk);obtain⟨p,hp⟩:=Int.eq_ofNat_of_zero_le hd.1;exact⟨p,by have:=hd.2.1;omega,hp⟩
theorem gU {AA:List (List Dd)}(hb:AW AA=true){b:Bd}{a:Ab}{τ:Nat->Nat}{T:Nat}{z:Int}(M:MI AA b a τ T z){c p:Nat}(hc:c<AA.length)(hp:p<3):
  ∃f:Nat,((Eh AA a τ).L (Au AA) (c:Int) p).getLast? = some f/\C3 b c p=(Jh AA f,(f:Int)):=by
 have hl:=Nh M.inv hp;obtain⟨e1,e2,_⟩:=Iw M.DD hp
 have hfil:((a.N c).map (Wj AA)).reverse.find? (fun x=>x.1==(p:Int))=(((a.N c).filter (fun x=>(Au AA).pl x==p)).getLast?).map (Wj AA):=by
  rw[<-List.head?_filter,List.filter_reverse,List.head?_reverse,List.filter_map,List.getLast?_map]
  have:(a.N c).filter ((fun x:Nt=>x.1==(p:Int)) ∘ Wj AA)=(a.N c).filter (fun x=>(Au AA).pl x==p):=by
   refine List.filter_congr (fun x hx=>?_);obtain⟨_,k,E,_⟩:=M.nt c x hx;obtain⟨q,_,hq⟩:=IL hb E.hc E.hk;show (Xv AA x==(p:Int))=((Au AA).pl x==p);rw[(ED hb E).2.1];unfold Xv;rw[E.at hb];show ((An AA c k).2.1==(p:Int))=_;rw[hq,Int.toNat_natCast];by_cases e:q=p
   . subst e;simp
   ·
    have:¬((q:Int)=(p:Int)):=by omega
    rw[beq_eq_false_iff_ne.2 this,beq_eq_false_iff_ne.2 e]
  rw[this]
 unfold C3;rw[MH M.DD hc,hfil];unfold A7.L;rw[MZ];show ∃f,(a.R p++(a.N c).filter (fun x=>(Au AA).pl x==p)).getLast? = some f/\_;rw[List.getLast?_append]
 cases hq:((a.N c).filter (fun x=>(Au AA).pl x==p)).getLast? with
 |none=>
  refine⟨CO a p,by rw[hl];rfl,?_⟩;simp only[Option.map_none];rw[e1,e2]
 |some y=>
  exact⟨y,rfl,rfl⟩
theorem ZR {AA:List (List Dd)}(hb:AW AA=true)(a:Ab)(τ:Nat->Nat){c:Nat}(hc:c<AA.length)(hk:a.nx c<(AA.getD c []).length)(h4:(An AA c (a.nx c)).1=4):Eh AA (BS a c) τ=Eh AA a τ:=by
 unfold Eh
 congr 1
 funext j;apply propext;constructor
 ·
  rintro⟨h1,h2⟩;refine⟨h1,?_⟩;rcases (EG hb a hc hk h1).1 h2 with h|⟨i,E⟩
  . exact h
  . exact absurd h4 E.kind
 ·
  rintro⟨h1,h2⟩;exact⟨h1,(EG hb a hc hk h1).2 (.inl h2)⟩
theorem Ph {AA:List (List Dd)}(hb:AW AA=true)(a:Ab){c:Nat}(hc:c<AA.length)(hk:a.nx c<(AA.getD c []).length)(h4:(An AA c (a.nx c)).1≠4)(h3:(An AA c (a.nx c)).1≠3)(j:Nat):
  (j<(AB AA).length/\FH AA (BS a c) j=true)↔(j<(AB AA).length/\FH AA a j=true)\/j=Ag AA c (a.nx c):=by
 constructor
 ·
  rintro⟨h1,h2⟩;rcases (EG hb a hc hk h1).1 h2 with h|⟨i,E⟩
  . exact .inl ⟨h1,h⟩
  . exact .inr (Kn E h3).1
 ·
  rintro (⟨h1,h2⟩|rfl)
  . exact⟨h1,(EG hb a hc hk h1).2 (.inl h2)⟩
  ·
   have E:=Cv hc hk h4;exact⟨(E.lt hb).2,(EG hb a hc hk (E.lt hb).2).2 (.inr ⟨0,E⟩)⟩
theorem Zm {AA:List (List Dd)}(hb:AW AA=true)(a:Ab){c:Nat}(hc:c<AA.length)(hk:a.nx c<(AA.getD c []).length)(h3:(An AA c (a.nx c)).1=3)(j:Nat):
  (j<(AB AA).length/\FH AA (BS a c) j=true)↔((j<(AB AA).length/\FH AA a j=true)\/j=Ag AA c (a.nx c))\/j=Ag AA c (a.nx c)+1:=by
 have E1:=Cv hc hk (by omega:(An AA c (a.nx c)).1≠4);have E2:=Jq hc hk h3;constructor
 ·
  rintro⟨h1,h2⟩;rcases (EG hb a hc hk h1).1 h2 with h|⟨i,E⟩
  . exact .inl (.inl ⟨h1,h⟩)
  ·
   have hi:=E.hi;have hj:=E.hj;unfold FO at hi;rw[if_neg (by omega),if_pos h3] at hi;rcases (by omega:i=0\/i=1) with rfl|rfl
   . exact .inl (.inr hj)
   . exact .inr hj
 ·
  rintro ((⟨h1,h2⟩|rfl)|rfl)
  . exact⟨h1,(EG hb a hc hk h1).2 (.inl h2)⟩
  . exact⟨(E1.lt hb).2,(EG hb a hc hk (E1.lt hb).2).2 (.inr ⟨0,E1⟩)⟩
  . exact⟨(E2.lt hb).2,(EG hb a hc hk (E2.lt hb).2).2 (.inr ⟨1,E2⟩)⟩
theorem Fh {es:List Ev}(hx:es.length<=12){r:Int}(h:r∈AX Aj es):∃j:Nat,r=(j:Int)/\j<es.length/\(es.getD j zE).2.2.1=true:=by
 unfold AX at h;rw[if_pos hx] at h;have h1:=EI _ _ _ _ h;have h2:=FK _ _ _ _ h;obtain⟨j,hj⟩:=Int.eq_ofNat_of_zero_le h1.1;rw[hj,Int.toNat_natCast] at h2;exact⟨j,hj,by omega,h2⟩
theorem UR {l:List Int}(hn:l.Nodup){p q:Nat}(hp:p<l.length)(hq:q<l.length)(e:l.getD p 0=l.getD q 0):p=q:=by
 rw[List.getD_eq_getElem?_getD,List.getElem?_eq_getElem hp,List.getD_eq_getElem?_getD,List.getElem?_eq_getElem hq] at e;exact (List.getElem_inj hn).1 e
def Cl (es:List Ev)(p:Nat):List Int:=AX (JC (p:Int)) es
def gF (rows:List Int)(at0:Nat)(p:List Int)(i:Nat):Bool:=decide (at0+p.length<=rows.length)&&(rows.getD at0 0==(i:Int))&&p.all (fun x=>Dx ((rows.drop at0).take p.length) x)
def Jc (es:List Ev)(rows:List Int):Bool:=
 gF rows 0 (Cl es 0) 0&&gF rows (Cl es 0).length (Cl es 1) 1&&gF rows ((Cl es 0).length+(Cl es 1).length) (Cl es 2) 2&&decide ((Cl es 0).length+(Cl es 1).length+(Cl es 2).length=rows.length)
def XA (AA:List (List Dd))(rows:List Int):Bool:=AW AA&&Jc (AB AA) rows
theorem Ow:∀ {p b:List Int},p.Nodup->(∀x∈p,x∈b)->b.length<=p.length->p.Perm b
 | [],b,_,_,hl=>by
  have:b=[]:=List.eq_nil_of_length_eq_zero (by simpa using hl);subst this;exact List.Perm.refl _
 |x::t,b,hn,hs,hl=>by
  have hx:=hs x (by simp);rw[List.nodup_cons] at hn;have hb:(b.erase x).length=b.length-1:=List.length_erase_of_mem hx
  have ih:=Ow (p:=t) (b:=b.erase x) hn.2 (fun y hy=>by
   have h1:=hs y (by simp[hy])
   exact (List.mem_erase_of_ne (fun e=>hn.1 (by rw[<-e];exact hy))).2 h1) (by rw[hb];simp only[List.length_cons] at hl;omega)
  exact (List.Perm.cons x ih).trans (List.perm_cons_erase hx).symm
theorem JW {l:List Int}{n:Int}(h:n∈l):Dx l n=true:=by
 unfold Dx;rw[List.any_eq_true];exact⟨n,h,by simp⟩
theorem MM {rows p:List Int}{at0 i:Nat}(hn:p.Nodup)(h:gF rows at0 p i=true):at0+p.length<=rows.length/\p.Perm ((rows.drop at0).take p.length):=by
 unfold gF at h;simp only[Bool.and_eq_true,decide_eq_true_eq,List.all_eq_true] at h;refine⟨h.1.1,Ow hn (fun x hx=>GX (h.2 x hx)) ?_⟩;rw[List.length_take];omega
theorem DT {es:List Ev}(hx:es.length<=12)(p:Nat):(Cl es p).Nodup:=by
 unfold Cl AX;rw[if_pos hx];exact (GV _ _ _).imp (fun h e=>by omega)
theorem Hs {es:List Ev}(hx:es.length<=12){p:Nat}{x:Int}(h:x∈Cl es p):(0<=x/\x<(es.length:Int))/\(es.getD x.toNat zE).2.2.2.1=(p:Int):=by
 unfold Cl AX at h;rw[if_pos hx] at h;have h1:=EI _ _ _ _ h;have h2:=FK _ _ _ _ h;unfold JC at h2;simp only[Bool.and_eq_true,beq_iff_eq] at h2;exact⟨h1,h2.2⟩
theorem MQ {es:List Ev}(hx:es.length<=12)(p:Nat):(Cl es p).length<=12:=by
 unfold Cl AX;rw[if_pos hx];have:=Cw (JC (p:Int)) es es.length;omega
def Tq (es:List Ev):List Int:=Cl es 0++Cl es 1++Cl es 2
theorem RZ {es:List Ev}(hx:es.length<=12):(Tq es).Nodup:=by
 have sJ:∀ {p q:Nat},p≠q->∀a∈Cl es p,∀b∈Cl es q,a≠b:=fun {p q} hpq a ha b hb e=>by
  have h1:=(Hs hx ha).2;have h2:=(Hs hx hb).2;rw[e,h2] at h1;omega
 unfold Tq;rw[List.nodup_append,List.nodup_append];refine⟨⟨DT hx 0,DT hx 1,sJ (by decide)⟩,DT hx 2,fun a ha b hb=>?_⟩;rcases List.mem_append.1 ha with h|h
 . exact sJ (p:=0) (q:=2) (by decide) a h b hb
 . exact sJ (p:=1) (q:=2) (by decide) a h b hb
theorem Ul {es:List Ev}{rows:List Int}(hx:es.length<=12)(h:Jc es rows=true):(Tq es).Perm rows:=by
 unfold Jc at h;simp only[Bool.and_eq_true,decide_eq_true_eq] at h;obtain⟨⟨⟨h0,h1⟩,h2⟩,hl⟩:=h;obtain⟨l0,p0⟩:=MM (DT hx 0) h0;obtain⟨l1,p1⟩:=MM (DT hx 1) h1;obtain⟨l2,p2⟩:=MM (DT hx 2) h2
 have e:rows=rows.take (Cl es 0).length++(rows.drop (Cl es 0).length).take (Cl es 1).length++(rows.drop ((Cl es 0).length+(Cl es 1).length)).take (Cl es 2).length:=by
  have t2:(rows.drop ((Cl es 0).length+(Cl es 1).length)).take (Cl es 2).length=rows.drop ((Cl es 0).length+(Cl es 1).length):=List.take_of_length_le (by rw[List.length_drop];omega);rw[t2,List.append_assoc,<-List.drop_drop,List.take_append_drop,List.take_append_drop]
 rw[List.drop_zero] at p0;unfold Tq;rw[e];exact (p0.append p1).append p2
theorem XG {es:List Ev}{rows:List Int}(hx:es.length<=12)(h:Jc es rows=true):rows.Nodup/\rows.length<=36/\∀i,i<rows.length->0<=rows.getD i 0/\rows.getD i 0<(es.length:Int):=by
 have hp:=Ul hx h;refine⟨hp.nodup_iff.1 (RZ hx),?_,fun i hi=>?_⟩
 ·
  rw[<-hp.length_eq];unfold Tq;rw[List.length_append,List.length_append];have:=MQ hx 0;have:=MQ hx 1;have:=MQ hx 2;omega
 ·
  have hm:rows.getD i 0∈rows:=by
   rw[List.getD_eq_getElem?_getD,List.getElem?_eq_getElem hi];exact List.getElem_mem hi
  have hm:=hp.mem_iff.2 hm;unfold Tq at hm;rcases List.mem_append.1 hm with hm|hm
  ·
   rcases List.mem_append.1 hm with hm|hm
   . exact (Hs hx hm).1
   . exact (Hs hx hm).1
  . exact (Hs hx hm).1
theorem SR {A P C p:List Int}{i:Nat}(hl:P.length=p.length)(hp:P.Perm p)(h0:0<p.length)(hi:P.getD 0 0=(i:Int)):gF (A++P++C) A.length p i=true:=by
 unfold gF;simp only[Bool.and_eq_true,decide_eq_true_eq,beq_iff_eq,List.all_eq_true];refine⟨⟨by rw[List.length_append,List.length_append];omega,?_⟩,fun x hx=>?_⟩
 ·
  rw[List.append_assoc,List.getD_eq_getElem?_getD,List.getElem?_append_right (Nat.le_refl _),Nat.sub_self,List.getElem?_append_left (by omega),<-List.getD_eq_getElem?_getD];exact hi
 ·
  refine JW ?_;rw[List.append_assoc,List.drop_left,<-hl,List.take_left];exact hp.mem_iff.2 hx
theorem SU {AA:List (List Dd)}(hb:AW AA=true)(p:Nat)(hp:p<3):0<(Cl (AB AA) p).length/\(Cl (AB AA) p).getD 0 0=(p:Int):=by
 obtain⟨h12,_,_,hf,_⟩:=Ir hb;obtain⟨r,hr⟩:=hf p hp;unfold Cl AX;rw[AB,if_pos hb,if_pos h12,hr];exact⟨by simp,rfl⟩
theorem Bg (AA:List (List Dd)):(AB AA).length<=12:=by
 unfold AB;split
 ·
  rename_i hb;exact (Ir hb).1
 . simp
theorem IM {d:Dd}(h:d.1=2)(i:Nat):Ke d i=false:=by unfold Ke;simp[h]
theorem J2 {d:Dd}(h:d.1≠2):Ke d 0=true:=by unfold Ke;simp[h]
theorem Ix (d:Dd):Ke d 1=false:=by unfold Ke;simp
theorem Jb {AA:List (List Dd)}{b:Bd}{a:Ab}(h:iT AA b a){c:Nat}(hc:c<AA.length):b.AL.set c (b.AL.getD c 0+1)=(List.range AA.length).map (fun c'=>((BS a c).nx c':Int)):=by
 rw[(Ii h hc).1,h.AL,DN];refine List.map_congr_left (fun i _=>?_);show _=((if i=c then a.nx c+1 else a.nx i:Nat):Int);split
 . rename_i e;subst e;omega
 . rfl
theorem Gj (a:Ab)(c c':Nat):(BS a c).nx c'=if c'=c then a.nx c+1 else a.nx c':=rfl
theorem Hk {AA:List (List Dd)}{a:Ab}(h:∀c,c<AA.length->a.nx c<=(AA.getD c []).length){c:Nat}(hk:a.nx c<(AA.getD c []).length):∀c',c'<AA.length->(BS a c).nx c'<=(AA.getD c' []).length:=by
 intro c' hc';rw[Gj];split
 . rename_i e;subst e;omega
 . exact h c' hc'
theorem JY {AA:List (List Dd)}{b:Bd}{a:Ab}{τ:Nat->Nat}{T:Nat}{z:Int}(M:MI AA b a τ T z){c:Nat}(hp:a.N c≠[]->(An AA c (a.nx c)).1≠4/\Ee (An AA c (a.nx c))=false):
  ∀c' x,x∈a.N c'->c'<AA.length/\∃k,Dv AA x c' k 0/\k<(BS a c).nx c'/\(An AA c' k).1=2/\Bi AA c' k=0/\∀k',k<k'->k'<(BS a c).nx c'->(An AA c' k').1≠4/\Ee (An AA c' k')=false:=by
 intro c' x hx;obtain⟨h1,k,E,h2,h3,h4,h5⟩:=M.nt c' x hx;refine⟨h1,k,E,?_,h3,h4,fun k' hk hk'=>?_⟩
 ·
  rw[Gj];split
  . rename_i e;subst e;omega
  . exact h2
 ·
  rw[Gj] at hk';split at hk'
  ·
   rename_i e;subst e;by_cases e2:k'=a.nx c'
   ·
    subst e2;exact hp (fun e=>by rw[e] at hx;cases hx)
   . exact h5 k' hk (by omega)
  . exact h5 k' hk hk'
theorem Uc {AA:List (List Dd)}(hb:AW AA=true){b:Bd}{a:Ab}{τ:Nat->Nat}{T:Nat}{z:Int}(M:MI AA b a τ T z){c:Nat}(hc:c<AA.length)(hk:a.nx c<(AA.getD c []).length)(h4:(An AA c (a.nx c)).1=4)(hN:a.N c=[]):
  MI AA (Ar AA (AB AA) b c) (BS a c) τ T z:=by
 have hd:BM AA (AB AA) b c (Av b c)=b:=by
  rw[(Ii M.DD hc).2];unfold BM;rw[if_neg (by omega),if_neg (by omega),if_neg (by omega),if_neg (by omega)]
 have hex:∀j,j<(AB AA).length->FH AA (BS a c) j=FH AA a j:=by
  intro j hj;have:=EG hb a hc hk hj
  cases h1:FH AA a j with
  |true=>exact this.2 (.inl h1)
  |false=>
   cases h2:FH AA (BS a c) j with
   |false=>rfl
   |true=>
    rcases this.1 h2 with h|⟨i,E⟩
    . rw[h1] at h;cases h
    . exact absurd h4 E.kind
 have hx:=Bg AA;unfold Ar;rw[hd];refine⟨⟨Jb M.DD hc,M.DD.AH,M.DD.rws,M.DD.AQ,M.DD.AM,?_,?_⟩,by rw[ZR hb a τ hc hk h4];exact M.inv,Hk M.ZF hk,JY M (fun h=>absurd hN h)⟩
 ·
  show b.fr=_;rw[M.DD.fr];refine List.map_congr_left (fun r hr=>?_);obtain⟨j,rfl,hj,_⟩:=Fh hx hr;rw[Int.toNat_natCast,hex j hj];rfl
 ·
  show b.sn=_;rw[M.DD.sn];refine List.map_congr_left (fun r hr=>?_);obtain⟨j,rfl,hj,_⟩:=Fh hx hr;rw[Int.toNat_natCast,hex j hj];rfl
theorem Y9 {AA:List (List Dd)}(hb:AW AA=true){b:Bd}{a:Ab}{τ:Nat->Nat}{T:Nat}{z:Int}(M:MI AA b a τ T z){c x:Nat}(hc:c<AA.length)(hk:a.nx c<(AA.getD c []).length)(h1:(An AA c (a.nx c)).1=1)(hg:Bi AA c (a.nx c)=0)(hx:x∈a.N c):
  UM AA (AB AA) x (Ag AA c (a.nx c))=true:=by
 obtain⟨_,k,E,h2,h3,h4,h5⟩:=M.nt c x hx;have Ej:=Cv hc hk (by omega:(An AA c (a.nx c)).1≠4);have hlt:x<Ag AA c (a.nx c):=(E.ord Ej).2 (.inr ⟨rfl,.inl h2⟩);have hx3:=(E.lt hb).1
 have hcls:DZ AA c k≠DZ AA c (a.nx c):=by
  intro e;rcases ((Kl (B7 hb hc) (B7 hb hc) E.hk hk E.kind Ej.kind).1 e).2 with h|h
  . omega
  . exact h.1 h4
 have hb1:KU (AB AA) x (Ag AA c (a.nx c))=true:=by
  unfold KU;rw[E.at hb,Ej.at hb];simp[hlt,hx3]
 have hw1:Ee (An AA c k)=false:=by
  unfold Ee;rw[h3,show (An AA c k).2.2.2=0 from h4];rfl
 have hw2:Ee (An AA c (a.nx c))=false:=by
  unfold Ee;rw[h1,show (An AA c (a.nx c)).2.2.2=0 from hg];rfl
 have hwt:PL (AA.getD c []) k (a.nx c)=false:=Uv (fun j hj1 hj2=>(h5 j hj1 hj2).1);unfold UM;rw[hb1];unfold mI;have e1:jA AA ((AB AA).getD x zE)=An AA c k:=by unfold jA;rw[E.at hb];simp only[Int.toNat_natCast]
 have e2:jA AA ((AB AA).getD (Ag AA c (a.nx c)) zE)=An AA c (a.nx c):=by unfold jA;rw[Ej.at hb];simp only[Int.toNat_natCast]
 rw[e1,e2,hw1,hw2];unfold Aj Vu;rw[E.at hb,Ej.at hb];simp only[Int.toNat_natCast];rw[hwt];have r1:Ke (An AA c k) 0=false:=IM h3 0;have r2:Ke (An AA c (a.nx c)) 0=true:=J2 (by omega);rw[r1,r2];simp[hx3,hcls]
abbrev Z6 (AA:List (List Dd))(a:Ab)(c f:Nat):Ab:={ BS a c with F:=fun i=>if i=Ag AA c (a.nx c) then f else a.F i }
theorem QW {AA:List (List Dd)}(hb:AW AA=true){b:Bd}{a:Ab}{τ:Nat->Nat}{T:Nat}{z:Int}(M:MI AA b a τ T z)(hT:1<=T){c:Nat}(hc:c<AA.length)(hk:a.nx c<(AA.getD c []).length)(h1:(An AA c (a.nx c)).1=1)
  (hz:DZ AA c (a.nx c)=z) (hcan:Bi AA c (a.nx c)=0\/a.N c=[]):
  ∃f,((Eh AA a τ).L (Au AA) (c:Int) (An AA c (a.nx c)).2.1.toNat).getLast? = some f/\MI AA (Ar AA (AB AA) b c) (Z6 AA a c f) (fun i=>if i=Ag AA c (a.nx c) then T else τ i) T z:=by
 have h4:(An AA c (a.nx c)).1≠4:=by omega
 have h3:(An AA c (a.nx c)).1≠3:=by omega
 have E:=Cv hc hk h4;obtain⟨s1,s2,s3,s4⟩:=ED hb E;obtain⟨p,hp,ep⟩:=IL hb hc hk;obtain⟨f,hf,er⟩:=gU hb M hc hp;have hN:=II hb a τ hc hk h4;have hrd:(Au AA).rd (Ag AA c (a.nx c))=true:=by rw[s3];exact J2 (by omega)
 have hpl:(Au AA).pl (Ag AA c (a.nx c))=p:=by rw[s2,ep,Int.toNat_natCast]
 have I:=M.inv.DE hT hN hrd (by rw[s4];exact hz) (fun x hx=>by
  rw[s1,MZ] at hx;rcases hcan with hg|hg
  . exact Y9 hb M hc hk h1 hg hx
  . rw[hg] at hx;cases hx) (f:=f) (by rw[s1,hpl];exact hf)
 have hx:=Bg AA
 have hd:BM AA (AB AA) b c (Av b c)=Fv (AX Aj (AB AA)) b (Ag AA c (a.nx c):Int) (Jh AA f) (f:Int):=by
  rw[(Ii M.DD hc).2];unfold BM;rw[if_pos h1,Ip hb hc hk h4,ep,Int.toNat_natCast,er]
 refine⟨f,by rw[ep,Int.toNat_natCast];exact hf,?_⟩
 have hst:Eh AA { BS a c with F:=fun i=>if i=Ag AA c (a.nx c) then f else a.F i } (fun i=>if i=Ag AA c (a.nx c) then T else τ i)=(Eh AA a τ).DE T (Ag AA c (a.nx c)) f:=by
  unfold Eh A7.DE
  congr 1
  funext j;apply propext;exact Ph hb a hc hk h4 h3 j
 have WM:∀j,j<(AB AA).length->FH AA { BS a c with F:=fun i=>if i=Ag AA c (a.nx c) then f else a.F i } j=(decide (j=Ag AA c (a.nx c))||FH AA a j):=by
  intro j hj;show FH AA (BS a c) j=_;have:=Ph hb a hc hk h4 h3 j
  cases q:FH AA (BS a c) j with
  |true=>
   rcases this.1 ⟨hj,q⟩ with h|h
   . rw[h.2];simp
   . simp[h]
  |false=>
   have n1:¬j=Ag AA c (a.nx c):=fun e=>by have:=(this.2 (.inr e)).2;rw[q] at this;cases this
   have n2:FH AA a j=false:=by
    cases q2:FH AA a j with
    |false=>rfl
    |true=>have:=(this.2 (.inl ⟨hj,q2⟩)).2;rw[q] at this;cases this
   simp[n1,n2]
 unfold Ar;rw[hd];refine⟨⟨Jb M.DD hc,M.DD.AH,M.DD.rws,M.DD.AQ,M.DD.AM,?_,?_⟩,by rw[hst];exact I,Hk M.ZF hk,JY M (fun h=>⟨h4,?_⟩)⟩
 ·
  show Gx (AX Aj (AB AA)) _ _ b.fr=_;rw[M.DD.fr,Je];refine List.map_congr_left (fun r hr=>?_);obtain⟨j,rfl,hj,_⟩:=Fh hx hr;rw[Int.toNat_natCast,WM j hj];show _=if _ then ((if j=Ag AA c (a.nx c) then f else a.F j:Nat):Int) else -1
  by_cases e:j=Ag AA c (a.nx c)
  . simp[e]
  . simp[e,show ¬((j:Int)=(Ag AA c (a.nx c):Int)) by omega]
 ·
  show Gx (AX Aj (AB AA)) _ _ b.sn=_;rw[M.DD.sn,Je];refine List.map_congr_left (fun r hr=>?_);obtain⟨j,rfl,hj,_⟩:=Fh hx hr;rw[Int.toNat_natCast,WM j hj];show _=if _ then Jh AA (if j=Ag AA c (a.nx c) then f else a.F j) else -1
  by_cases e:j=Ag AA c (a.nx c)
  . simp[e]
  . simp[e,show ¬((j:Int)=(Ag AA c (a.nx c):Int)) by omega]
 ·
  rcases hcan with hg|hg
  ·
   unfold Ee;rw[h1,show (An AA c (a.nx c)).2.2.2=0 from hg];rfl
  . exact absurd hg h
theorem Ua {AA:List (List Dd)}(hb:AW AA=true){b:Bd}{a:Ab}{τ:Nat->Nat}{T:Nat}{z:Int}(M:MI AA b a τ T z)(hT:1<=T){c:Nat}(hc:c<AA.length)(hk:a.nx c<(AA.getD c []).length)(h1:(An AA c (a.nx c)).1=1)
  (hz:DZ AA c (a.nx c)=z) (hcan:Bi AA c (a.nx c)=0\/a.N c=[]):
  ∃f τ',((Eh AA a τ).L (Au AA) (c:Int) (An AA c (a.nx c)).2.1.toNat).getLast? = some f/\MI AA (Ar AA (AB AA) b c) (Z6 AA a c f) τ' T z:=by
 obtain⟨f,h,M'⟩:=QW hb M hT hc hk h1 hz hcan;exact⟨f,_,h,M'⟩
theorem Qw {AA:List (List Dd)}(hb:AW AA=true){j c k i:Nat}(E:Dv AA j c k i):Xv AA j=(An AA c k).2.1/\Jh AA j=Uu (An AA c k) i:=by
 unfold Xv Jh;rw[E.at hb];exact⟨rfl,rfl⟩
theorem XY {d:Dd}{i:Nat}(h:Ke d i=false):Uu d i=d.2.2.1:=by unfold Uu;rw[h];rfl
theorem Ym {AA:List (List Dd)}(hb:AW AA=true)(a:Ab){c:Nat}(hc:c<AA.length)(hk:a.nx c<(AA.getD c []).length)(h2:(An AA c (a.nx c)).1=2){j:Nat}(hj:j<(AB AA).length)(hr:((AB AA).getD j zE).2.2.1=true):
  FH AA (BS a c) j=FH AA a j:=by
 have this:=Ph hb a hc hk (by omega) (by omega) j
 have hne:j≠Ag AA c (a.nx c):=by
  intro e;have E:=Cv hc hk (by omega:(An AA c (a.nx c)).1≠4);rw[e,E.at hb] at hr;rw[show Ke (An AA c (a.nx c)) 0=false from IM h2 0] at hr;cases hr
 cases q2:FH AA a j with
 |true=>exact (this.2 (.inl ⟨hj,q2⟩)).2
 |false=>
  cases q:FH AA (BS a c) j with
  |false=>rfl
  |true=>
   rcases this.1 ⟨hj,q⟩ with h|h
   . rw[q2] at h;cases h.2
   . exact absurd h hne
theorem Xe {d:Dd}(h:d.1≠3)(hg:d.2.2.2=0):Ee d=false:=by
 unfold Ee;rw[beq_eq_false_iff_ne.2 h,hg];rfl
abbrev mZ (AA:List (List Dd))(a:Ab)(c:Nat):Ab:={ BS a c with N:=fun c'=>if c'=c then a.N c'++[Ag AA c (a.nx c)] else a.N c' }
abbrev mG (AA:List (List Dd))(a:Ab)(c p:Nat):Ab:={ BS a c with R:=fun q=>if q=p then a.R q++[Ag AA c (a.nx c)] else a.R q }
theorem UZ {AA:List (List Dd)}(hb:AW AA=true){b:Bd}{a:Ab}{τ:Nat->Nat}{T:Nat}{z:Int}(M:MI AA b a τ T z){c:Nat}(hc:c<AA.length)(hk:a.nx c<(AA.getD c []).length)(h2:(An AA c (a.nx c)).1=2)(hg:Bi AA c (a.nx c)=0):
  MI AA (Ar AA (AB AA) b c) (mZ AA a c) τ T z:=by
 have h4:(An AA c (a.nx c)).1≠4:=by omega
 have h3:(An AA c (a.nx c)).1≠3:=by omega
 have E:=Cv hc hk h4;obtain⟨s1,s2,s3,s4⟩:=ED hb E;have hN:=II hb a τ hc hk h4;have hrd:(Au AA).rd (Ag AA c (a.nx c))=false:=by rw[s3];exact IM h2 0
 have I:=M.inv.FF hN hrd;have hx:=Bg AA
 have hd:BM AA (AB AA) b c (Av b c)={ b with AH:=b.AH.set c (b.AH.getD c []++[((An AA c (a.nx c)).2.1,(An AA c (a.nx c)).2.2.1,(Ag AA c (a.nx c):Int))]) }:=by
  rw[(Ii M.DD hc).2];unfold BM;rw[if_neg (by omega),if_neg (by omega),if_neg (by omega),if_pos h2,Ip hb hc hk h4]
 have hst:Eh AA { BS a c with N:=fun c'=>if c'=c then a.N c'++[Ag AA c (a.nx c)] else a.N c' } τ=(Eh AA a τ).FF (Au AA) (Ag AA c (a.nx c)):=by
  unfold Eh A7.FF
  congr 1
  ·
   funext j;apply propext;exact Ph hb a hc hk h4 h3 j
  ·
   funext c';rw[s1];show (if 0<=c' then (if c'.toNat=c then a.N c'.toNat++[Ag AA c (a.nx c)] else a.N c'.toNat) else [])=if c'=(c:Int) then (if 0<=c' then a.N c'.toNat else [])++[Ag AA c (a.nx c)] else (if 0<=c' then a.N c'.toNat else [])
   by_cases h0:0<=c'
   ·
    rw[if_pos h0];by_cases e:c'=(c:Int)
    . subst e;simp
    . rw[if_neg (by omega),if_neg e,if_pos h0]
   . rw[if_neg h0,if_neg (by omega),if_neg h0]
 unfold Ar;rw[hd];refine⟨⟨Jb M.DD hc,?_,M.DD.rws,M.DD.AQ,M.DD.AM,?_,?_⟩,by rw[hst];exact I,Hk M.ZF hk,?_⟩
 ·
  show b.AH.set c _=_;rw[MH M.DD hc,M.DD.AH,DN];refine List.map_congr_left (fun i _=>?_);show _=(if i=c then a.N i++[Ag AA c (a.nx c)] else a.N i).map (Wj AA);split
  ·
   rename_i e;subst e;rw[List.map_append]
   congr 1
   show _=[Wj AA _];unfold Wj;rw[(Qw hb E).1,(Qw hb E).2,XY (IM h2 0)]
  . rfl
 ·
  show b.fr=_;rw[M.DD.fr];refine List.map_congr_left (fun r hr=>?_);obtain⟨j,rfl,hj,hjr⟩:=Fh hx hr;rw[Int.toNat_natCast];show _=if FH AA (BS a c) j=true then _ else _
  rw[Ym hb a hc hk h2 hj hjr];rfl
 ·
  show b.sn=_;rw[M.DD.sn];refine List.map_congr_left (fun r hr=>?_);obtain⟨j,rfl,hj,hjr⟩:=Fh hx hr;rw[Int.toNat_natCast];show _=if FH AA (BS a c) j=true then _ else _
  rw[Ym hb a hc hk h2 hj hjr];rfl
 ·
  intro c' x hxm;have old:=JY M (c:=c) (fun _=>⟨h4,Xe h3 hg⟩);change x∈(if c'=c then a.N c'++[Ag AA c (a.nx c)] else a.N c') at hxm;by_cases e:c'=c
  ·
   rw[if_pos e,List.mem_append] at hxm;rcases hxm with hxm|hxm
   . exact old c' x hxm
   ·
    have ex:x=Ag AA c (a.nx c):=by simpa using hxm
    subst e;refine⟨hc,a.nx c',by rw[ex];exact E,?_,h2,hg,fun k' h1 h2'=>?_⟩
    ·
     show a.nx c'<(BS a c').nx c';rw[Gj,if_pos rfl];omega
    ·
     change k'<(BS a c').nx c' at h2';rw[Gj,if_pos rfl] at h2';omega
  ·
   rw[if_neg e] at hxm;exact old c' x hxm
theorem SS {AA:List (List Dd)}(hb:AW AA=true){b:Bd}{a:Ab}{τ:Nat->Nat}{T:Nat}{z:Int}(M:MI AA b a τ T z)(hT:1<=T){c:Nat}(hc:c<AA.length)(hk:a.nx c<(AA.getD c []).length)(h2:(An AA c (a.nx c)).1=2)(hg:Bi AA c (a.nx c)≠0)
  (hz:DZ AA c (a.nx c)=z) (hN0:a.N c=[]):
  MI AA (Ar AA (AB AA) b c) (mG AA a c (An AA c (a.nx c)).2.1.toNat) (fun i=>if i=Ag AA c (a.nx c) then T else τ i) T z:=by
 have h4:(An AA c (a.nx c)).1≠4:=by omega
 have h3:(An AA c (a.nx c)).1≠3:=by omega
 have E:=Cv hc hk h4;obtain⟨s1,s2,s3,s4⟩:=ED hb E;obtain⟨p,hp,ep⟩:=IL hb hc hk;have hN:=II hb a τ hc hk h4;have hrd:(Au AA).rd (Ag AA c (a.nx c))=false:=by rw[s3];exact IM h2 0
 have hpl:(Au AA).pl (Ag AA c (a.nx c))=p:=by rw[s2,ep,Int.toNat_natCast]
 have I:=M.inv.Dh hT hN hrd (by rw[s4];exact hz) (by rw[s1,MZ];exact hN0);have hx:=Bg AA;have hg0:0<Bi AA c (a.nx c):=by have:=(WB (B7 hb hc) hk).1;omega
 have hd:BM AA (AB AA) b c (Av b c)=Dw b p (An AA c (a.nx c)).2.2.1 (Ag AA c (a.nx c):Int):=by
  rw[(Ii M.DD hc).2];unfold BM;rw[if_neg (by omega),if_neg (by omega),if_pos ⟨h2,hg0⟩,Ip hb hc hk h4,ep,Int.toNat_natCast]
 rw[ep,Int.toNat_natCast]
 have hst:Eh AA { BS a c with R:=fun q=>if q=p then a.R q++[Ag AA c (a.nx c)] else a.R q } (fun i=>if i=Ag AA c (a.nx c) then T else τ i)=(Eh AA a τ).Dh (Au AA) T (Ag AA c (a.nx c)):=by
  unfold Eh A7.Dh;rw[hpl]
  congr 1
  funext j;apply propext;exact Ph hb a hc hk h4 h3 j
 have hla:∀q,CO { BS a c with R:=fun q=>if q=p then a.R q++[Ag AA c (a.nx c)] else a.R q } q=if q=p then Ag AA c (a.nx c) else CO a q:=by
  intro q;unfold CO;show ((if q=p then a.R q++[Ag AA c (a.nx c)] else a.R q).getLast?).getD q=_;split
  . simp
  . rfl
 unfold Ar;rw[hd];refine⟨⟨Jb M.DD hc,M.DD.AH,?_,?_,?_,?_,?_⟩,by rw[hst];exact I,Hk M.ZF hk,JY M (fun h=>absurd hN0 h)⟩
 ·
  show b.rws.set p (b.rws.getD p []++[(Ag AA c (a.nx c):Int)])=_;rw[(Iw M.DD hp).2.2,M.DD.rws,DN];refine List.map_congr_left (fun q _=>?_);show _=(if q=p then a.R q++[Ag AA c (a.nx c)] else a.R q).map Int.ofNat;split
  . rename_i e;subst e;rw[List.map_append];rfl
  . rfl
 ·
  show b.AQ.set p (Ag AA c (a.nx c):Int)=_;rw[M.DD.AQ,DN];refine List.map_congr_left (fun q _=>?_);rw[hla];split<;>rfl
 ·
  show b.AM.set p (An AA c (a.nx c)).2.2.1=_;rw[M.DD.AM,DN];refine List.map_congr_left (fun q _=>?_);rw[hla];split
  . rw[(Qw hb E).2,XY (IM h2 0)]
  . rfl
 ·
  show b.fr=_;rw[M.DD.fr];refine List.map_congr_left (fun r hr=>?_);obtain⟨j,rfl,hj,hjr⟩:=Fh hx hr;rw[Int.toNat_natCast];show _=if FH AA (BS a c) j=true then _ else _
  rw[Ym hb a hc hk h2 hj hjr];rfl
 ·
  show b.sn=_;rw[M.DD.sn];refine List.map_congr_left (fun r hr=>?_);obtain⟨j,rfl,hj,hjr⟩:=Fh hx hr;rw[Int.toNat_natCast];show _=if FH AA (BS a c) j=true then _ else _
  rw[Ym hb a hc hk h2 hj hjr];rfl
theorem Ws {AA:List (List Dd)}(hb:AW AA=true){b:Bd}{a:Ab}{τ:Nat->Nat}{T:Nat}{z:Int}(M:MI AA b a τ T z)(hT:1<=T){c:Nat}(hc:c<AA.length)(hk:a.nx c<(AA.getD c []).length)(h2:(An AA c (a.nx c)).1=2)(hg:Bi AA c (a.nx c)≠0)
  (hz:DZ AA c (a.nx c)=z) (hN0:a.N c=[]):
  ∃ τ',MI AA (Ar AA (AB AA) b c) (mG AA a c (An AA c (a.nx c)).2.1.toNat) τ' T z:=⟨_,SS hb M hT hc hk h2 hg hz hN0⟩
abbrev aA (AA:List (List Dd))(a:Ab)(c p:Nat):Ab:={ BS a c with F:=fun i=>if i=Ag AA c (a.nx c) then CO a p else a.F i,R:=fun q=>if q=p then a.R q++[Ag AA c (a.nx c)+1] else a.R q }
abbrev V8 (a:Ab)(c p x:Nat)(rest:List Nat):Ab:={ a with N:=fun c'=>if c'=c then rest else a.N c',R:=fun q=>if q=p then a.R q++[x] else a.R q }
theorem QY {AA:List (List Dd)}(hb:AW AA=true){b:Bd}{a:Ab}{τ:Nat->Nat}{T:Nat}{z:Int}(M:MI AA b a τ T z)(hT:1<=T){c:Nat}(hc:c<AA.length)(hk:a.nx c<(AA.getD c []).length)(h3:(An AA c (a.nx c)).1=3)
  (hz:DZ AA c (a.nx c)=z) (hN0:a.N c=[]):
  MI AA (Ar AA (AB AA) b c) (aA AA a c (An AA c (a.nx c)).2.1.toNat) (fun i=>if i=Ag AA c (a.nx c)+1 then T else if i=Ag AA c (a.nx c) then T else τ i) T z:=by
 have h4:(An AA c (a.nx c)).1≠4:=by omega
 have E:=Cv hc hk h4;have E2:=Jq hc hk h3;obtain⟨s1,s2,s3,s4⟩:=ED hb E;obtain⟨r1,r2,r3,r4⟩:=ED hb E2;obtain⟨p,hp,ep⟩:=IL hb hc hk;have hN:=II hb a τ hc hk h4;have hrd:(Au AA).rd (Ag AA c (a.nx c))=true:=by rw[s3];exact J2 (by omega)
 have hrd2:(Au AA).rd (Ag AA c (a.nx c)+1)=false:=by rw[r3];exact Ix _
 have hpl:(Au AA).pl (Ag AA c (a.nx c))=p:=by rw[s2,ep,Int.toNat_natCast]
 have hpl2:(Au AA).pl (Ag AA c (a.nx c)+1)=p:=by rw[r2,ep,Int.toNat_natCast]
 have hlast:=Nh M.inv hp
 have I1:=M.inv.DE hT hN hrd (by rw[s4];exact hz) (fun x hx=>by rw[s1,MZ,hN0] at hx;cases hx) (f:=CO a p) (by
  rw[s1,hpl];unfold A7.L;rw[MZ,hN0];show (a.R p++[].filter _).getLast? = _;rw[List.filter_nil,List.append_nil]
  exact hlast)
 have hN2:ja (Au AA) ((Eh AA a τ).DE T (Ag AA c (a.nx c)) (CO a p)) (Ag AA c (a.nx c)+1):=by
  have hl:=E2.lt hb;refine⟨hl.1,hl.2,?_,?_,?_⟩
  ·
   rintro (⟨_,h⟩|h)
   . rw[Lk hb E2,decide_eq_true_eq] at h;omega
   . omega
  ·
   intro i h3' hi hck;by_cases e:i=Ag AA c (a.nx c)
   . exact .inr e
   . exact .inl (hN.all i h3' (by omega) (by rw[hck,r1,s1]))
  ·
   rintro i (h|h) h3' hck
   . have:=hN.last i h h3' (by rw[hck,r1,s1]);omega
   . omega
 have I:=I1.Dh hT hN2 hrd2 (by rw[r4];exact hz) (by rw[r1];show (Eh AA a τ).N (c:Int)=[];rw[MZ];exact hN0);have hx:=Bg AA;obtain⟨l1,l2,l3⟩:=Iw M.DD hp
 have hd:BM AA (AB AA) b c (Av b c)=Dw (Fv (AX Aj (AB AA)) b (Ag AA c (a.nx c):Int) (Jh AA (CO a p)) (CO a p:Int)) p (An AA c (a.nx c)).2.2.1 ((Ag AA c (a.nx c):Int)+1):=by
  rw[(Ii M.DD hc).2];unfold BM;rw[if_neg (by omega),if_pos h3,Ip hb hc hk h4,ep,Int.toNat_natCast,l1,l2]
 rw[ep,Int.toNat_natCast]
 have hst:Eh AA { BS a c with F:=fun i=>if i=Ag AA c (a.nx c) then CO a p else a.F i,R:=fun q=>if q=p then a.R q++[Ag AA c (a.nx c)+1] else a.R q } (fun i=>if i=Ag AA c (a.nx c)+1 then T else if i=Ag AA c (a.nx c) then T else τ i) =
   ((Eh AA a τ).DE T (Ag AA c (a.nx c)) (CO a p)).Dh (Au AA) T (Ag AA c (a.nx c)+1):=by
  unfold Eh A7.Dh A7.DE;rw[hpl2]
  congr 1
  funext j;apply propext;exact Zm hb a hc hk h3 j
 have WM:∀j,j<(AB AA).length->((AB AA).getD j zE).2.2.1=true->FH AA (BS a c) j=(decide (j=Ag AA c (a.nx c))||FH AA a j):=by
  intro j hj hjr;have this:=Zm hb a hc hk h3 j
  have hne:j≠Ag AA c (a.nx c)+1:=by
   intro e;rw[e,E2.at hb,show Ke (An AA c (a.nx c)) 1=false from Ix _] at hjr;cases hjr
  cases q:FH AA (BS a c) j with
  |true=>
   rcases this.1 ⟨hj,q⟩ with (h|h)|h
   . rw[h.2];simp
   . simp[h]
   . exact absurd h hne
  |false=>
   have n1:¬j=Ag AA c (a.nx c):=fun e=>by have:=(this.2 (.inl (.inr e))).2;rw[q] at this;cases this
   have n2:FH AA a j=false:=by
    cases q2:FH AA a j with
    |false=>rfl
    |true=>have:=(this.2 (.inl (.inl ⟨hj,q2⟩))).2;rw[q] at this;cases this
   simp[n1,n2]
 have hla:∀q,CO { BS a c with F:=fun i=>if i=Ag AA c (a.nx c) then CO a p else a.F i,R:=fun q=>if q=p then a.R q++[Ag AA c (a.nx c)+1] else a.R q } q=if q=p then Ag AA c (a.nx c)+1 else CO a q:=by
  intro q;unfold CO;show ((if q=p then a.R q++[Ag AA c (a.nx c)+1] else a.R q).getLast?).getD q=_;split
  . simp
  . rfl
 unfold Ar;rw[hd];refine⟨⟨Jb M.DD hc,M.DD.AH,?_,?_,?_,?_,?_⟩,by rw[hst];exact I,Hk M.ZF hk,JY M (fun h=>absurd hN0 h)⟩
 ·
  show b.rws.set p (b.rws.getD p []++[(Ag AA c (a.nx c):Int)+1])=_;rw[l3,M.DD.rws,DN];refine List.map_congr_left (fun q _=>?_);show _=(if q=p then a.R q++[Ag AA c (a.nx c)+1] else a.R q).map Int.ofNat;split
  . rename_i e;subst e;rw[List.map_append];rfl
  . rfl
 ·
  show b.AQ.set p ((Ag AA c (a.nx c):Int)+1)=_;rw[M.DD.AQ,DN];refine List.map_congr_left (fun q _=>?_);rw[hla];split<;>rfl
 ·
  show b.AM.set p (An AA c (a.nx c)).2.2.1=_;rw[M.DD.AM,DN];refine List.map_congr_left (fun q _=>?_);rw[hla];split
  . rw[(Qw hb E2).2,XY (Ix _)]
  . rfl
 ·
  show Gx (AX Aj (AB AA)) _ _ b.fr=_;rw[M.DD.fr,Je];refine List.map_congr_left (fun r hr=>?_);obtain⟨j,rfl,hj,hjr⟩:=Fh hx hr;rw[Int.toNat_natCast];show _=if FH AA (BS a c) j=true then ((if j=Ag AA c (a.nx c) then CO a p else a.F j:Nat):Int) else -1
  rw[WM j hj hjr];by_cases e:j=Ag AA c (a.nx c)
  . simp[e]
  . simp[e,show ¬((j:Int)=(Ag AA c (a.nx c):Int)) by omega]
 ·
  show Gx (AX Aj (AB AA)) _ _ b.sn=_;rw[M.DD.sn,Je];refine List.map_congr_left (fun r hr=>?_);obtain⟨j,rfl,hj,hjr⟩:=Fh hx hr;rw[Int.toNat_natCast];show _=if FH AA (BS a c) j=true then Jh AA (if j=Ag AA c (a.nx c) then CO a p else a.F j) else -1
  rw[WM j hj hjr];by_cases e:j=Ag AA c (a.nx c)
  . simp[e]
  . simp[e,show ¬((j:Int)=(Ag AA c (a.nx c):Int)) by omega]
theorem Ub {AA:List (List Dd)}(hb:AW AA=true){b:Bd}{a:Ab}{τ:Nat->Nat}{T:Nat}{z:Int}(M:MI AA b a τ T z)(hT:1<=T){c:Nat}(hc:c<AA.length)(hk:a.nx c<(AA.getD c []).length)(h3:(An AA c (a.nx c)).1=3)
  (hz:DZ AA c (a.nx c)=z) (hN0:a.N c=[]):
  ∃ τ',MI AA (Ar AA (AB AA) b c) (aA AA a c (An AA c (a.nx c)).2.1.toNat) τ' T z:=⟨_,QY hb M hT hc hk h3 hz hN0⟩
theorem Py {AA:List (List Dd)}(hb:AW AA=true){b:Bd}{a:Ab}{τ:Nat->Nat}{T:Nat}{z:Int}(M:MI AA b a τ T z){c:Nat}(hc:c<AA.length){x:Nat}{rest:List Nat}(hN:a.N c=x::rest):
  MI AA (Bs b c) (V8 a c ((Au AA).pl x) x rest) (fun i=>if i=x then T+1 else τ i) (T+1) ((Au AA).cs x):=by
 obtain⟨_,k,E,h1,h2,h3,h5⟩:=M.nt c x (by rw[hN];simp);obtain⟨s1,s2,s3,s4⟩:=ED hb E;obtain⟨p,hp,ep⟩:=IL hb E.hc E.hk;have hpl:(Au AA).pl x=p:=by rw[s2,ep,Int.toNat_natCast]
 have hst0:(Eh AA a τ).N (c:Int)=x::rest:=by rw[MZ];exact hN
 have I0:=M.inv.tick ((Au AA).cs x) (fun i hi h3' e=>by
  obtain⟨c',k',i',E'⟩:=He hb h3' hi.1.1;rw[(ED hb E').2.2.2,s4] at e;have hc':=(Kl (B7 hb E'.hc) (B7 hb E.hc) E'.hk E.hk E'.kind E.kind).1 e;obtain⟨rfl,hq⟩:=hc'
  have hkk:k'=k:=by
   rcases hq with hq|hq
   . exact hq
   . exact absurd (hq.2.trans h3) hq.1
  subst hkk;have e1:=(Kn E' (by omega)).1;have e2:=(Kn E (by omega)).1;have exx:i=x:=by omega
  subst exx
  exact hi.2 (by rw[s1,hst0];simp))
 have I:=I0.CZ (by omega) hst0 rfl;have hx:=Bg AA
 have hfl:Bs b c=Dw { b with AH:=b.AH.set c (rest.map (Wj AA)) } p (Jh AA x) (x:Int):=by
  unfold Bs;rw[MH M.DD hc,hN,List.map_cons];show Dw _ (Xv AA x).toNat (Jh AA x) (x:Int)=_;rw[(Qw hb E).1,ep,Int.toNat_natCast]
 rw[hpl]
 have hst:Eh AA { a with N:=fun c'=>if c'=c then rest else a.N c',R:=fun q=>if q=p then a.R q++[x] else a.R q } (fun i=>if i=x then T+1 else τ i)=(Eh AA a τ).CZ (Au AA) (T+1) (c:Int) x rest:=by
  unfold Eh A7.CZ;rw[hpl]
  congr 1
  funext c';show (if 0<=c' then (if c'.toNat=c then rest else a.N c'.toNat) else [])=if c'=(c:Int) then rest else (if 0<=c' then a.N c'.toNat else [])
  by_cases h0:0<=c'
  ·
   rw[if_pos h0];by_cases e:c'=(c:Int)
   . subst e;simp
   . rw[if_neg (by omega),if_neg e,if_pos h0]
  . rw[if_neg h0,if_neg (by omega),if_neg h0]
 have hla:∀q,CO { a with N:=fun c'=>if c'=c then rest else a.N c',R:=fun q=>if q=p then a.R q++[x] else a.R q } q=if q=p then x else CO a q:=by
  intro q;unfold CO;show ((if q=p then a.R q++[x] else a.R q).getLast?).getD q=_;split
  . simp
  . rfl
 rw[hfl];refine⟨⟨M.DD.AL,?_,?_,?_,?_,M.DD.fr,M.DD.sn⟩,by rw[hst];exact I,M.ZF,?_⟩
 ·
  show b.AH.set c _=_;rw[M.DD.AH,DN];refine List.map_congr_left (fun i _=>?_);show _=(if i=c then rest else a.N i).map (Wj AA);split<;>rfl
 ·
  show b.rws.set p (b.rws.getD p []++[(x:Int)])=_;rw[(Iw M.DD hp).2.2,M.DD.rws,DN];refine List.map_congr_left (fun q _=>?_);show _=(if q=p then a.R q++[x] else a.R q).map Int.ofNat;split
  . rename_i e;subst e;rw[List.map_append];rfl
  . rfl
 ·
  show b.AQ.set p (x:Int)=_;rw[M.DD.AQ,DN];refine List.map_congr_left (fun q _=>?_);rw[hla];split<;>rfl
 ·
  show b.AM.set p (Jh AA x)=_;rw[M.DD.AM,DN];refine List.map_congr_left (fun q _=>?_);rw[hla];split<;>rfl
 ·
  intro c' y hy;refine M.nt c' y ?_;change y∈(if c'=c then rest else a.N c') at hy;split at hy
  . rename_i e;subst e;rw[hN];exact List.mem_cons_of_mem _ hy
  . exact hy
theorem UE {AA:List (List Dd)}(hb:AW AA=true){b:Bd}{a:Ab}{τ:Nat->Nat}{T:Nat}{z:Int}(M:MI AA b a τ T z){c:Nat}(hc:c<AA.length){x:Nat}{rest:List Nat}(hN:a.N c=x::rest):
  ∃ τ',MI AA (Bs b c) (V8 a c ((Au AA).pl x) x rest) τ' (T+1) ((Au AA).cs x):=⟨_,Py hb M hc hN⟩
def Z8 (es:List Ev)(rows:List Int)(i k:Nat):Bool:=decide (i<k)&&(Xu es (rows.getD i 0)==Xu es (rows.getD k 0))
def IZ (es:List Ev)(rows:List Int)(i:Nat)(st:List Int):Nat->List Int
 | 0=>st
 |k+1=>if Z8 es rows i k=true then (IZ es rows i st k).set (rows.getD i 0).toNat (Fo ((IZ es rows i st k).getD (rows.getD i 0).toNat 0) (rows.getD k 0)) else IZ es rows i st k
def Nx (es:List Ev)(rows:List Int):Nat->List Int
 | 0=>List.replicate es.length 0
 |i+1=>IZ es rows i (Nx es rows i) rows.length
def Tc (es:List Ev)(rows:List Int):List Int:=Nx es rows rows.length
theorem XH {es:List Ev}{rows:List Int}{i k:Nat}(st:List Int)(h:Z8 es rows i k=true):IZ es rows i st (k+1)=(IZ es rows i st k).set (rows.getD i 0).toNat (Fo ((IZ es rows i st k).getD (rows.getD i 0).toNat 0) (rows.getD k 0)):=if_pos h
theorem Um {es:List Ev}{rows:List Int}{i k:Nat}(st:List Int)(h:Z8 es rows i k=false):IZ es rows i st (k+1)=IZ es rows i st k:=if_neg (by simp[h])
theorem Q4 {es:List Ev}{rows:List Int}{n i:Nat}{st:List Int}(hr:∀j,j<rows.length->0<=rows.getD j 0/\rows.getD j 0<(n:Int))(hi:i<rows.length)(hst:C5 n st):∀m:Nat,m<=rows.length ->
  C5 n (IZ es rows i st m)/\∀a b:Nat,a<n->(Ap (IZ es rows i st m) a b=true↔Ap st a b=true\/∃q,q<m/\Z8 es rows i q=true/\rows.getD i 0=(a:Int)/\rows.getD q 0=(b:Int))
 | 0,_=>⟨hst,fun a b _=>by simp[IZ]⟩
 |m+1,hm=>by
  obtain⟨h1,h2⟩:=Q4 (es:=es) hr hi hst m (by omega)
  cases hp:Z8 es rows i m with
  |false=>
   rw[Um st hp];refine⟨h1,fun a b ha=>?_⟩;rw[h2 a b ha];constructor
   ·
    rintro (h|⟨q,hq,r⟩)
    . exact .inl h
    . exact .inr ⟨q,by omega,r⟩
   ·
    rintro (h|⟨q,hq,r⟩)
    . exact .inl h
    ·
     by_cases e:q=m
     . subst e;rw[hp] at r;cases r.1
     . exact .inr ⟨q,by omega,r⟩
  |true=>
   obtain⟨a0,ha0⟩:=Int.eq_ofNat_of_zero_le (hr i hi).1;obtain⟨b0,hb0⟩:=Int.eq_ofNat_of_zero_le (hr m (by omega)).1;have ha:a0<n:=by have:=(hr i hi).2;omega
   have hb:b0<n:=by have:=(hr m (by omega)).2;omega
   have e0:IZ es rows i st (m+1)=(IZ es rows i st m).set a0 (Fo ((IZ es rows i st m).getD a0 0) (b0:Int)):=by rw[XH st hp,ha0,hb0,Int.toNat_natCast]
   rw[e0];have hadd:=Ou (h1.2.2 a0 ha) hb;refine⟨h1.set hadd.1,fun a b Xq=>?_⟩;have e1:=h2 a b Xq;unfold Ap at e1 ⊢;rw[FI _ _ _ _ (by rw[h1.2.1];exact ha)];by_cases e:a0=a
   ·
    subst e;simp only[if_true];rw[hadd.2 b,Bool.or_eq_true,e1,decide_eq_true_eq];constructor
    ·
     rintro ((h|⟨q,hq,r1,r2,r3⟩)|h)
     . exact .inl h
     . exact .inr ⟨q,by omega,r1,r2,r3⟩
     . exact .inr ⟨m,by omega,hp,ha0,by rw[hb0,h]⟩
    ·
     rintro (h|⟨q,hq,r1,r2,r3⟩)
     . exact .inl (.inl h)
     ·
      by_cases eq:q=m
      ·
       subst eq;right;rw[hb0] at r3;omega
      . exact .inl (.inr ⟨q,by omega,r1,r2,r3⟩)
   ·
    simp only[e,if_false];rw[e1];constructor
    ·
     rintro (h|⟨q,hq,r1,r2,r3⟩)
     . exact .inl h
     . exact .inr ⟨q,by omega,r1,r2,r3⟩
    ·
     rintro (h|⟨q,hq,r1,r2,r3⟩)
     . exact .inl h
     . exfalso;rw[ha0] at r2;omega
theorem OB {es:List Ev}{rows:List Int}(hx:es.length<=12)(hr:∀j,j<rows.length->0<=rows.getD j 0/\rows.getD j 0<(es.length:Int)):∀m:Nat,m<=rows.length ->
  C5 es.length (Nx es rows m)/\∀a b:Nat,a<es.length->(Ap (Nx es rows m) a b=true↔∃i q,i<m/\q<rows.length/\Z8 es rows i q=true/\rows.getD i 0=(a:Int)/\rows.getD q 0=(b:Int))
 | 0,_=>⟨C5.zero hx,fun a b _=>by unfold Nx;rw[IB];simp⟩
 |m+1,hm=>by
  obtain⟨h1,h2⟩:=OB hx hr m (by omega);obtain⟨g1,g2⟩:=Q4 (es:=es) hr (show m<rows.length by omega) h1 rows.length (Nat.le_refl _);refine⟨g1,fun a b ha=>?_⟩;show Ap (IZ es rows m (Nx es rows m) rows.length) a b=true↔_;rw[g2 a b ha,h2 a b ha];constructor
  ·
   rintro (⟨i,q,hi,r⟩|⟨q,hq,r⟩)
   . exact⟨i,q,by omega,r⟩
   . exact⟨m,q,by omega,hq,r⟩
  ·
   rintro⟨i,q,hi,hq,r⟩;by_cases e:i=m
   . subst e;exact .inr ⟨q,hq,r⟩
   . exact .inl ⟨i,q,by omega,hq,r⟩
theorem P6 (f:Int->Int->Int){n:Nat}{a b:List Int}(ha:a.length=n)(hb:b.length=n){i:Nat}(hi:i<n):(List.zipWith f a b).getD i 0=f (a.getD i 0) (b.getD i 0):=by
 rw[List.getD_eq_getElem?_getD,List.getElem?_zipWith,List.getD_eq_getElem?_getD,List.getD_eq_getElem?_getD,List.getElem?_eq_getElem (show i<a.length by omega),List.getElem?_eq_getElem (show i<b.length by omega)];rfl
theorem ZY (f:Int->Int->Int)(hf:∀ {n:Nat} {s t:Int},IX n s=true->IX n t=true->IX n (f s t)=true){n:Nat}{a b:List Int}(ha:C5 n a)(hb:C5 n b):C5 n (List.zipWith f a b):=by
 refine⟨ha.1,by rw[List.length_zipWith,ha.2.1,hb.2.1];omega,fun i hi=>?_⟩;rw[P6 f ha.2.1 hb.2.1 hi];exact hf (ha.2.2 i hi) (hb.2.2 i hi)
theorem We (f:Int->Int->Int){n:Nat}{a b:List Int}(ha:C5 n a)(hb:C5 n b):Gf f a b=List.zipWith f a b:=by
 unfold Gf;rw[if_pos (XT.2 ⟨by rw[ha.2.1,hb.2.1],ha.b,hb.b⟩)]
theorem Ml {n:Nat}{a b:List Int}(ha:C5 n a)(hb:C5 n b):C5 n (Gf Kv a b)/\∀i j,i<n->Ap (Gf Kv a b) i j=(Ap a i j||Ap b i j):=by
 rw[We _ ha hb];refine⟨ZY Kv (fun h k=>(Wp h k).1) ha hb,fun i j hi=>?_⟩;unfold Ap;rw[P6 Kv ha.2.1 hb.2.1 hi];exact (Wp (ha.2.2 i hi) (hb.2.2 i hi)).2 j
def UJ (a b:List Int):Bool:=decide (a.length=b.length)&&(List.range a.length).all fun i=>US (a.getD i 0) (b.getD i 0)==0
inductive Tm (zs:List Int):Nat->Nat->Prop
 |one {i j:Nat} (h:Ap zs i j=true):Tm zs i j
 |more {i k j:Nat} (h:Tm zs i k) (g:Ap zs k j=true):Tm zs i j
theorem Tm.trans {zs:List Int}{i k j:Nat}(h:Tm zs i k)(g:Tm zs k j):Tm zs i j:=by
 induction g with
 |one g=>exact .more h g
 |more _ g ih=>exact .more ih g
theorem Tm.lt {n:Nat}{zs:List Int}(hz:C5 n zs){i j:Nat}(hi:i<n)(h:Tm zs i j):j<n:=by
 induction h with
 |one g=>exact hz.lt hi g
 |more _ g ih=>exact hz.lt ih g
theorem PM {n:Nat}{zs:List Int}(hz:C5 n zs)(m:Nat)(hm:m<=n){i:Nat}(hi:i<n){j:Nat}(h:Ap (Cm zs m) i j=true):Tm zs i j:=by
 induction m generalizing i j with
 |zero=>exact .one h
 |succ m ih=>
  rw[ER hz m (by omega) hi,Bool.or_eq_true,Bool.and_eq_true] at h;rcases h with h|⟨h1,h2⟩
  . exact ih (by omega) hi h
  . exact (ih (by omega) hi h1).trans (ih (by omega) (by omega) h2)
theorem Qy {n:Nat}{zs:List Int}(hz:C5 n zs)(m:Nat)(hm:m<n){i:Nat}(hi:i<n){j:Nat}(h:Ap (Cm zs m) i j=true):Ap (Cm zs (m+1)) i j=true:=by
 rw[ER hz m hm hi,h];rfl
theorem Qx {n:Nat}{zs:List Int}(hz:C5 n zs)(m:Nat)(hm:m<=n){i k j:Nat}(hi:i<n)(hk:k<m)(h1:Ap (Cm zs m) i k=true)(h2:Ap (Cm zs m) k j=true):Ap (Cm zs m) i j=true:=by
 induction m generalizing i k j with
 |zero=>omega
 |succ m ih=>
  have hmn:m<n:=by omega
  have uE:=@ih (by omega);rw[ER hz m hmn hi,Bool.or_eq_true,Bool.and_eq_true] at h1;rw[ER hz m hmn (show k<n by omega),Bool.or_eq_true,Bool.and_eq_true] at h2;rw[ER hz m hmn hi,Bool.or_eq_true,Bool.and_eq_true];by_cases e:k=m
  ·
   subst e
   have h1':Ap (Cm zs k) i k=true:=by
    rcases h1 with h|h
    . exact h
    . exact h.1
   have h2':Ap (Cm zs k) k j=true:=by
    rcases h2 with h|h
    . exact h
    . exact h.2
   exact .inr ⟨h1',h2'⟩
  ·
   have hkm:k<m:=by omega
   rcases h1 with h1|⟨h1,h1'⟩<;>rcases h2 with h2|⟨h2,h2'⟩
   . exact .inl (uE hi hkm h1 h2)
   . exact .inr ⟨uE hi hkm h1 h2,h2'⟩
   . exact .inr ⟨h1,uE hmn hkm h1' h2⟩
   . exact .inr ⟨h1,h2'⟩
theorem ZW {n:Nat}{zs:List Int}(hz:C5 n zs):Qz zs=Cm zs n:=by
 unfold Qz;rw[if_pos hz.b,hz.2.1]
theorem Mg {n:Nat}{zs:List Int}(hz:C5 n zs)(m:Nat)(hm:m<=n){i:Nat}(hi:i<n){j:Nat}(h:Ap zs i j=true):Ap (Cm zs m) i j=true:=by
 induction m with
 |zero=>exact h
 |succ m ih=>exact Qy hz m (by omega) hi (ih (by omega))
theorem N2 {n:Nat}{zs:List Int}(hz:C5 n zs){i:Nat}(hi:i<n){j:Nat}:Ap (Qz zs) i j=true↔Tm zs i j:=by
 rw[ZW hz];constructor
 . exact PM hz n (Nat.le_refl _) hi
 ·
  intro h
  induction h with
  |one g=>exact Mg hz n (Nat.le_refl _) hi g
  |more h g ih=>
   have hk:=h.lt hz hi;exact Qx hz n (Nat.le_refl _) hi hk ih (Mg hz n (Nat.le_refl _) hk g)
def MV (zs:List Int):Bool:=J5 zs&&(List.range zs.length).any fun i=>Ap (Qz zs) i i
theorem Uk {n:Nat}{zs:List Int}(hz:C5 n zs):MV zs=true↔∃i,i<n/\Tm zs i i:=by
 unfold MV;rw[hz.b,Bool.true_and,List.any_eq_true,hz.2.1];constructor
 . rintro⟨i,hi,h⟩;exact⟨i,List.mem_range.1 hi,(N2 hz (List.mem_range.1 hi)).1 h⟩
 . rintro⟨i,hi,h⟩;exact⟨i,List.mem_range.2 hi,(N2 hz hi).2 h⟩
theorem M2 {a b:List Int}(h:a.Nodup)(hs:∀x∈a,x∈b):a.length<=b.length:=by
 induction a generalizing b with
 |nil=>simp
 |cons x a ih=>
  rw[List.nodup_cons] at h;have hx:=hs x (by simp);have:=ih (b:=b.erase x) h.2 (fun y hy=>(List.mem_erase_of_ne (fun e=>h.1 (by rw[<-e];exact hy))).2 (hs y (by simp[hy])));rw[List.length_erase_of_mem hx] at this;have:=List.length_pos_of_mem hx;simp;omega
def yx (zs:List Int)(n i:Nat):Nat:=(List.range n).countP fun j=>Ap (Qz zs) j i
theorem Rv {f:Ev->Bool}{es:List Ev}(hx:es.length<=12){i:Nat}(hi:i<(AX f es).length):0<=(AX f es).getD i 0/\(AX f es).getD i 0<(es.length:Int):=by
 have hm:(AX f es).getD i 0∈AX f es:=by
  rw[List.getD_eq_getElem?_getD,List.getElem?_eq_getElem hi];exact List.getElem_mem hi
 unfold AX at hm ⊢;rw[if_pos hx] at hm ⊢;exact EI f es _ _ hm
theorem Qi:∀l:List Int,l.Pairwise (·<·)->l.Nodup:=fun l h=>h.imp (fun h e=>by omega)
def Qt (AA:List (List Dd))(f rows:List Int):Bool:=PD AA f&&XA AA rows
def Zo (n:Nat)(rs f row:List Int):Nat->List Int
 | 0=>List.replicate n 0
 |k+1=>(Zo n rs f row k).set (rs.getD k 0).toNat (row.getD (f.getD k 0).toNat 0)
def Zp (es:List Ev)(f rows:List Int):List Int:=Zo es.length (AX Aj es) f (Tc es rows) (AX Aj es).length
theorem Xd {n:Nat}{rs f row:List Int}(hn:n<=12)(hd:rs.Nodup)(hrow:C5 n row):∀k:Nat,k<=rs.length->(∀i,i<k->0<=rs.getD i 0/\rs.getD i 0<(n:Int))->(∀i,i<k->0<=f.getD i 0/\f.getD i 0<(n:Int)) ->
  C5 n (Zo n rs f row k)/\∀a j:Nat,a<n->(Ap (Zo n rs f row k) a j=true↔∃i,i<k/\rs.getD i 0=(a:Int)/\Ap row (f.getD i 0).toNat j=true)
 | 0,_,_,_=>⟨C5.zero hn,fun a j _=>by unfold Zo;rw[IB];simp⟩
 |k+1,hk,hr,hf=>by
  obtain⟨h1,h2⟩:=Xd hn hd hrow k (by omega) (fun i hi=>hr i (by omega)) (fun i hi=>hf i (by omega));obtain⟨a0,ha0⟩:=Int.eq_ofNat_of_zero_le (hr k (by omega)).1;obtain⟨b0,hb0⟩:=Int.eq_ofNat_of_zero_le (hf k (by omega)).1;have ha:a0<n:=by have:=(hr k (by omega)).2;omega
  have hb:b0<n:=by have:=(hf k (by omega)).2;omega
  have e0:Zo n rs f row (k+1)=(Zo n rs f row k).set a0 (row.getD b0 0):=by rw[Zo,ha0,hb0,Int.toNat_natCast,Int.toNat_natCast]
  rw[e0];refine⟨h1.set (hrow.2.2 b0 hb),fun a j Xq=>?_⟩;have e1:=h2 a j Xq;unfold Ap at e1 ⊢;rw[FI _ _ _ _ (by rw[h1.2.1];exact ha)];by_cases e:a0=a
  ·
   subst e;simp only[if_true];constructor
   ·
    intro h;refine⟨k,by omega,ha0,?_⟩;rw[hb0,Int.toNat_natCast];exact h
   ·
    rintro⟨i,hi,r1,r2⟩;have:i=k:=UR hd (by omega) (by omega) (by rw[r1,ha0]);subst this;rw[hb0,Int.toNat_natCast] at r2;exact r2
  ·
   simp only[e,if_false];rw[e1];constructor
   ·
    rintro⟨i,hi,r⟩;exact⟨i,by omega,r⟩
   ·
    rintro⟨i,hi,r1,r2⟩;by_cases ei:i=k
    . subst ei;rw[ha0] at r1;omega
    . exact⟨i,by omega,r1,r2⟩
theorem Lw (f:Ev->Bool)(l:List Ev){i:Nat}(hf:f (l.getD i zE)=true):∀k:Nat,i<k->(i:Int)∈Be f l k
 | 0,h=>by omega
 |k+1,h=>by
  rw[Be];by_cases e:i=k
  ·
   subst e;rw[if_pos hf];exact List.mem_append.2 (.inr (by simp))
  ·
   have ih:=Lw f l hf k (by omega);split
   . exact List.mem_append.2 (.inl ih)
   . exact ih
theorem XQ {AA:List (List Dd)}{f rows:List Int}(h:Qt AA f rows=true):AW AA=true/\Qp (Lf (AB AA)) f=true/\Jc (AB AA) rows=true:=by
 unfold Qt PD XA at h;simp only[Bool.and_eq_true] at h;exact⟨h.1.1,h.1.2,h.2.2⟩
theorem YY {es:List Ev}{i j:Nat}(h:KU es i j=true):i<j:=by
 apply Classical.byContradiction;intro hn;rw[YZ (by omega)] at h;cases h
theorem iA {n:Nat}{zs:List Int}(hz:C5 n zs)(μ:Nat->Nat)(h:∀i j,i<n->j<n->Ap zs i j=true->μ i<μ j){i j:Nat}(hi:i<n)(hw:Tm zs i j):μ i<μ j:=by
 induction hw with
 |one g=>exact h _ _ hi (hz.lt hi g) g
 |more g l ih=>exact Nat.lt_trans ih (h _ _ (g.lt hz hi) (hz.lt (g.lt hz hi) l) l)
theorem XX {n:Nat}{zs:List Int}(hz:C5 n zs)(μ:Nat->Nat)(h:∀i j,i<n->j<n->Ap zs i j=true->μ i<μ j):MV zs=false:=by
 cases hr:MV zs with
 |false=>rfl
 |true=>
  obtain⟨i,hi,hw⟩:=(Uk hz).1 hr;exact absurd (iA hz μ h hi hw) (Nat.lt_irrefl _)
def uV (es:List Ev)(f rows:List Int):List Int:=Gf Kv (Gf Kv (Wu es) (Yp es f)) (Gf Kv (Tc es rows) (Zp es f rows))
def uU (es:List Ev)(i k:Nat):Bool:=decide (3<=i)&&decide (3<=k)&&((es.getD i zE).1==(es.getD k zE).1)
def mh (es:List Ev)(f:List Int):List Int:=Hl (uU es) es.length (Yp es f) es.length
def zO (AA:List (List Dd))(es:List Ev)(f rows:List Int):List Int:=Gf Kv (Gf Kv (WW AA es) (mh es f)) (Gf Kv (Tc es rows) (Zp es f rows))
def zT (es:List Ev)(f rows:List Int):List Int:=Gf Kv (Gf Kv (Rf es) (Yp es f)) (Gf Kv (Tc es rows) (Zp es f rows))
theorem Z5 {es:List Ev}(hx:es.length<=12){i:Nat}(hi:i<(AX Aj es).length):0<=(AX Aj es).getD i 0/\(AX Aj es).getD i 0<(es.length:Int):=Rv hx hi
theorem W6 {es:List Ev}(hx:es.length<=12):(AX Aj es).Nodup:=by
 unfold AX;rw[if_pos hx];exact Qi _ (GV Aj es _)
structure YI (es:List Ev)(f rows:List Int):Prop where
 fw:C5 es.length (Yp es f)
 rw':C5 es.length (Tc es rows)
 ag:C5 es.length (Zp es f rows)
 fwl:∀a j:Nat,a<es.length->(Ap (Yp es f) a j=true↔∃i,i<(AX Aj es).length/\f.getD i 0=(a:Int)/\(AX Aj es).getD i 0=(j:Int))
 rwl:∀a b:Nat,a<es.length->(Ap (Tc es rows) a b=true↔∃i q,i<rows.length/\q<rows.length/\Z8 es rows i q=true/\rows.getD i 0=(a:Int)/\rows.getD q 0=(b:Int))
 agl:∀a j:Nat,a<es.length->(Ap (Zp es f rows) a j=true↔∃i,i<(AX Aj es).length/\(AX Aj es).getD i 0=(a:Int)/\Ap (Tc es rows) (f.getD i 0).toNat j=true)
theorem Za {es:List Ev}{f rows:List Int}(hx:es.length<=12)(hs:Qp (Lf es) f=true)(hr:Jc es rows=true):YI es f rows:=by
 obtain⟨sl,su⟩:=ZQ hx hs;obtain⟨rn,_,ru⟩:=XG hx hr;have w1:=OB hx ru rows.length (Nat.le_refl _);have w2:=S9 (n:=es.length) (rs:=AX Aj es) (f:=f) hx (AX Aj es).length (fun i hi=>Z5 hx hi) (fun i hi=>(su i hi).1);have w3:=Xd (n:=es.length) (rs:=AX Aj es) (f:=f) (row:=Tc es rows) hx (W6 hx) w1.1 (AX Aj es).length (Nat.le_refl _) (fun i hi=>Z5 hx hi) (fun i hi=>(su i hi).1);exact⟨w2.1,w1.1,w3.1,w2.2,w1.2,w3.2⟩
theorem Mi {n:Nat}{a b c d:List Int}(ha:C5 n a)(hb:C5 n b)(hc:C5 n c)(hd:C5 n d):C5 n (Gf Kv (Gf Kv a b) (Gf Kv c d)) /\
  ∀i j,i<n->Ap (Gf Kv (Gf Kv a b) (Gf Kv c d)) i j=(Ap a i j||Ap b i j||(Ap c i j||Ap d i j)):=by
 obtain⟨h1,l1⟩:=Ml ha hb;obtain⟨h2,l2⟩:=Ml hc hd;obtain⟨h3,l3⟩:=Ml h1 h2;exact⟨h3,fun i j hi=>by rw[l3 i j hi,l1 i j hi,l2 i j hi]⟩
theorem ZJ {es:List Ev}{f rows:List Int}(W:YI es f rows):C5 es.length (mh es f)/\∀a j:Nat,a<es.length->Ap (mh es f) a j=(Ap (Yp es f) a j&&!uU es a j):=by
 obtain⟨h1,h2⟩:=Gn (p:=uU es) W.fw es.length (Nat.le_refl _);refine⟨h1,fun a j ha=>?_⟩;unfold mh;rw[h2 a j ha]
 cases hl:Ap (Yp es f) a j with
 |false=>rfl
 |true=>
  have hj:=W.fw.lt ha hl;simp[ha,hj]
theorem GG {AA:List (List Dd)}(hb:AW AA=true){j:Nat}(hj:j<(AB AA).length):0<=((AB AA).getD j zE).2.2.2.1/\((AB AA).getD j zE).2.2.2.1<=2:=by
 have e1:AB AA=Az AA AA.length:=by rw[AB,if_pos hb]
 rw[e1] at hj ⊢;exact Wt hb j hj
theorem Re {AA:List (List Dd)}(hb:AW AA=true):3<=(AB AA).length/\(AB AA).getD 0 zE=(-1,-1,false,0,0,0)/\(AB AA).getD 1 zE=(-1,-1,false,1,0,1)/\(AB AA).getD 2 zE=(-1,-1,false,2,0,2):=by
 have e1:AB AA=Az AA AA.length:=by rw[AB,if_pos hb]
 obtain⟨t,ht⟩:=GP AA 0 AA.length (Nat.zero_le _);have ht':Az AA AA.length=B5++t:=ht;rw[e1];refine⟨by rw[ht'];simp[B5],Kg ht'⟩
theorem Jl {AA:List (List Dd)}(hb:AW AA=true){i:Nat}(hi:i<3):((AB AA).getD i zE).2.2.2.1=(i:Int)/\((AB AA).getD i zE).2.2.1=false/\Vu ((AB AA).getD i zE)=(i:Int)/\((AB AA).getD i zE).1=-1:=by
 obtain⟨_,h0,h1,h2⟩:=Re hb;rcases (by omega:i=0\/i=1\/i=2) with rfl|rfl|rfl
 . rw[h0];exact⟨rfl,rfl,rfl,rfl⟩
 . rw[h1];exact⟨rfl,rfl,rfl,rfl⟩
 . rw[h2];exact⟨rfl,rfl,rfl,rfl⟩
structure rP (AA:List (List Dd))(f rows:List Int):Prop where
 work:AW AA=true
 twelve:(AB AA).length<=12
 iB:YI (AB AA) f rows
 src:Qp (Lf (AB AA)) f=true
 rws:Jc (AB AA) rows=true
 pw:C5 (AB AA).length (uV (AB AA) f rows)
 pwl:∀i j,i<(AB AA).length->Ap (uV (AB AA) f rows) i j=(Ap (Wu (AB AA)) i j||Ap (Yp (AB AA) f) i j||(Ap (Tc (AB AA) rows) i j||Ap (Zp (AB AA) f rows) i j))
 sw:C5 (AB AA).length (zO AA (AB AA) f rows)
 swl:∀i j,i<(AB AA).length->Ap (zO AA (AB AA) f rows) i j=(Ap (WW AA (AB AA)) i j||Ap (mh (AB AA) f) i j||(Ap (Tc (AB AA) rows) i j||Ap (Zp (AB AA) f rows) i j))
 xw:C5 (AB AA).length (zT (AB AA) f rows)
 xwl:∀i j,i<(AB AA).length->Ap (zT (AB AA) f rows) i j=(Ap (Rf (AB AA)) i j||Ap (Yp (AB AA) f) i j||(Ap (Tc (AB AA) rows) i j||Ap (Zp (AB AA) f rows) i j))
 cls:(kR (AB AA)).length=(AB AA).length
theorem ZV {AA:List (List Dd)}{f rows:List Int}(h:Qt AA f rows=true):rP AA f rows:=by
 obtain⟨hb,hs,hr⟩:=XQ h;have hx:=Bg AA;have W:=Za hx hs hr;have p:=Mi (Qd hx).1 W.fw W.rw' W.ag;have s:=Mi (WX (AA:=AA) hx).1 (ZJ W).1 W.rw' W.ag;have x:=Mi (LX hx).1 W.fw W.rw' W.ag;exact⟨hb,hx,W,hs,hr,p.1,p.2,s.1,s.2,x.1,x.2,by unfold kR;rw[if_pos hx,List.length_map]⟩
theorem T0 {AA:List (List Dd)}(hb:AW AA=true){c k:Nat}(hc:c<AA.length)(hk:k<(AA.getD c []).length)(h4:(An AA c k).1≠4):3<=DZ AA c k:=by
 rcases Jo (B7 hb hc) hk h4 with ⟨_,e⟩|⟨_,j,_,_,_,e⟩
 . have:=IJ AA c k;omega
 . have:=IJ AA c j;omega
end Go.Proofs.YtgakfkjjkobpiaaGreat
