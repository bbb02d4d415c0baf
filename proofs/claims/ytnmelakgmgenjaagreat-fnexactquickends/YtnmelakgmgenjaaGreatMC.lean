/- Gathered texts. -/
import Derived.Test.YtnmelakgmgenjaaGreatMB
set_option maxRecDepth 100000
set_option maxHeartbeats 8000000
namespace Go.Proofs.YtnmelakgmgenjaaGreat
open Go.RowKit
def nZ (es:List Ev)(rows:List Int)(i k:Nat):Bool:=decide (i<k)&&(iC es (rows.getD i 0)==iC es (rows.getD k 0))
def JG (es:List Ev)(rows:List Int)(i:Nat)(st:List Int):Nat->List Int
 | 0=>st
 |k+1=>if nZ es rows i k=true then (JG es rows i st k).set (rows.getD i 0).toNat (Fp ((JG es rows i st k).getD (rows.getD i 0).toNat 0) (rows.getD k 0)) else JG es rows i st k
def QA (es:List Ev)(rows:List Int):Nat->List Int
 | 0=>List.replicate es.length 0
 |i+1=>JG es rows i (QA es rows i) rows.length
def WP (es:List Ev)(rows:List Int):List Int:=QA es rows rows.length
theorem eY {es:List Ev}{rows:List Int}{i k:Nat}(st:List Int)(h:nZ es rows i k=true):JG es rows i st (k+1)=(JG es rows i st k).set (rows.getD i 0).toNat (Fp ((JG es rows i st k).getD (rows.getD i 0).toNat 0) (rows.getD k 0)):=if_pos h
theorem YS {es:List Ev}{rows:List Int}{i k:Nat}(st:List Int)(h:nZ es rows i k=false):JG es rows i st (k+1)=JG es rows i st k:=if_neg (by simp[h])
theorem Tp {es:List Ev}{rows:List Int}{n i:Nat}{st:List Int}(hr:∀j,j<rows.length->0<=rows.getD j 0/\rows.getD j 0<(n:Int))(hi:i<rows.length)(hst:DH n st):∀m:Nat,m<=rows.length ->
  DH n (JG es rows i st m)/\∀a b:Nat,a<n->(Aq (JG es rows i st m) a b=true↔Aq st a b=true\/∃q,q<m/\nZ es rows i q=true/\rows.getD i 0=(a:Int)/\rows.getD q 0=(b:Int))
 | 0,_=>⟨hst,fun a b _=>by simp[JG]⟩
 |m+1,hm=>by
  obtain⟨h1,h2⟩:=Tp (es:=es) hr hi hst m (by omega)
  cases hp:nZ es rows i m with
  |false=>
   rw[YS st hp];refine⟨h1,fun a b ha=>?_⟩;rw[h2 a b ha];constructor
   ·
    rintro (h|⟨q,hq,r⟩)
    . exact .inl h
    . exact .inr ⟨q,by omega,r⟩
   ·
    rintro (h|⟨q,hq,r⟩)
    . exact .inl h
    ·
     by_cases e:q=m
     . subst e;rw[hp] at r;cases r.1
     . exact .inr ⟨q,by omega,r⟩
  |true=>
   obtain⟨a0,ha0⟩:=Int.eq_ofNat_of_zero_le (hr i hi).1;obtain⟨b0,hb0⟩:=Int.eq_ofNat_of_zero_le (hr m (by omega)).1;have ha:a0<n:=by have:=(hr i hi).2;omega
   have hb:b0<n:=by have:=(hr m (by omega)).2;omega
   have e0:JG es rows i st (m+1)=(JG es rows i st m).set a0 (Fp ((JG es rows i st m).getD a0 0) (b0:Int)):=by rw[eY st hp,ha0,hb0,Int.toNat_natCast]
   rw[e0];have hadd:=Q4 (h1.2.2 a0 ha) hb;refine⟨h1.set hadd.1,fun a b gy=>?_⟩;have e1:=h2 a b gy;unfold Aq at e1 ⊢;rw[FH _ _ _ _ (by rw[h1.2.1];exact ha)];by_cases e:a0=a
   ·
    subst e;simp only[if_true];rw[hadd.2 b,Bool.or_eq_true,e1,decide_eq_true_eq];constructor
    ·
     rintro ((h|⟨q,hq,r1,r2,r3⟩)|h)
     . exact .inl h
     . exact .inr ⟨q,by omega,r1,r2,r3⟩
     . exact .inr ⟨m,by omega,hp,ha0,by rw[hb0,h]⟩
    ·
     rintro (h|⟨q,hq,r1,r2,r3⟩)
     . exact .inl (.inl h)
     ·
      by_cases eq:q=m
      ·
       subst eq;right;rw[hb0] at r3;omega
      . exact .inl (.inr ⟨q,by omega,r1,r2,r3⟩)
   ·
    simp only[e,if_false];rw[e1];constructor
    ·
     rintro (h|⟨q,hq,r1,r2,r3⟩)
     . exact .inl h
     . exact .inr ⟨q,by omega,r1,r2,r3⟩
    ·
     rintro (h|⟨q,hq,r1,r2,r3⟩)
     . exact .inl h
     . exfalso;rw[ha0] at r2;omega
theorem QK {es:List Ev}{rows:List Int}(hx:es.length<=12)(hr:∀j,j<rows.length->0<=rows.getD j 0/\rows.getD j 0<(es.length:Int)):∀m:Nat,m<=rows.length ->
  DH es.length (QA es rows m)/\∀a b:Nat,a<es.length->(Aq (QA es rows m) a b=true↔∃i q,i<m/\q<rows.length/\nZ es rows i q=true/\rows.getD i 0=(a:Int)/\rows.getD q 0=(b:Int))
 | 0,_=>⟨DH.zero hx,fun a b _=>by unfold QA;rw[Ih];simp⟩
 |m+1,hm=>by
  obtain⟨h1,h2⟩:=QK hx hr m (by omega);obtain⟨g1,g2⟩:=Tp (es:=es) hr (show m<rows.length by omega) h1 rows.length (Nat.le_refl _);refine⟨g1,fun a b ha=>?_⟩;show Aq (JG es rows m (QA es rows m) rows.length) a b=true↔_;rw[g2 a b ha,h2 a b ha];constructor
  ·
   rintro (⟨i,q,hi,r⟩|⟨q,hq,r⟩)
   . exact⟨i,q,by omega,r⟩
   . exact⟨m,q,by omega,hq,r⟩
  ·
   rintro⟨i,q,hi,hq,r⟩;by_cases e:i=m
   . subst e;exact .inr ⟨q,hq,r⟩
   . exact .inl ⟨i,q,by omega,hq,r⟩
theorem SX (f:Int->Int->Int){n:Nat}{a b:List Int}(ha:a.length=n)(hb:b.length=n){i:Nat}(hi:i<n):(List.zipWith f a b).getD i 0=f (a.getD i 0) (b.getD i 0):=by
 rw[List.getD_eq_getElem?_getD,List.getElem?_zipWith,List.getD_eq_getElem?_getD,List.getD_eq_getElem?_getD,List.getElem?_eq_getElem (show i<a.length by omega),List.getElem?_eq_getElem (show i<b.length by omega)];rfl
theorem l8 (f:Int->Int->Int)(hf:∀ {n:Nat} {s t:Int},JE n s=true->JE n t=true->JE n (f s t)=true){n:Nat}{a b:List Int}(ha:DH n a)(hb:DH n b):DH n (List.zipWith f a b):=by
 refine⟨ha.1,by rw[List.length_zipWith,ha.2.1,hb.2.1];omega,fun i hi=>?_⟩;rw[SX f ha.2.1 hb.2.1 hi];exact hf (ha.2.2 i hi) (hb.2.2 i hi)
theorem bD (f:Int->Int->Int){n:Nat}{a b:List Int}(ha:DH n a)(hb:DH n b):Gj f a b=List.zipWith f a b:=by
 unfold Gj;rw[if_pos (fq.2 ⟨by rw[ha.2.1,hb.2.1],ha.b,hb.b⟩)]
theorem Ok {n:Nat}{a b:List Int}(ha:DH n a)(hb:DH n b):DH n (Gj Mq a b)/\∀i j,i<n->Aq (Gj Mq a b) i j=(Aq a i j||Aq b i j):=by
 rw[bD _ ha hb];refine⟨l8 Mq (fun h k=>(cK h k).1) ha hb,fun i j hi=>?_⟩;unfold Aq;rw[SX Mq ha.2.1 hb.2.1 hi];exact (cK (ha.2.2 i hi) (hb.2.2 i hi)).2 j
def Xq (a b:List Int):Bool:=decide (a.length=b.length)&&(List.range a.length).all fun i=>X6 (a.getD i 0) (b.getD i 0)==0
inductive Wl (zs:List Int):Nat->Nat->Prop
 |one {i j:Nat} (h:Aq zs i j=true):Wl zs i j
 |more {i k j:Nat} (h:Wl zs i k) (g:Aq zs k j=true):Wl zs i j
theorem Wl.trans {zs:List Int}{i k j:Nat}(h:Wl zs i k)(g:Wl zs k j):Wl zs i j:=by
 induction g with
 |one g=>exact .more h g
 |more _ g ih=>exact .more ih g
theorem Wl.lt {n:Nat}{zs:List Int}(hz:DH n zs){i j:Nat}(hi:i<n)(h:Wl zs i j):j<n:=by
 induction h with
 |one g=>exact hz.lt hi g
 |more _ g ih=>exact hz.lt ih g
theorem Rh {n:Nat}{zs:List Int}(hz:DH n zs)(m:Nat)(hm:m<=n){i:Nat}(hi:i<n){j:Nat}(h:Aq (Cu zs m) i j=true):Wl zs i j:=by
 induction m generalizing i j with
 |zero=>exact .one h
 |succ m ih=>
  rw[ER hz m (by omega) hi,Bool.or_eq_true,Bool.and_eq_true] at h;rcases h with h|⟨h1,h2⟩
  . exact ih (by omega) hi h
  . exact (ih (by omega) hi h1).trans (ih (by omega) (by omega) h2)
theorem Tn {n:Nat}{zs:List Int}(hz:DH n zs)(m:Nat)(hm:m<n){i:Nat}(hi:i<n){j:Nat}(h:Aq (Cu zs m) i j=true):Aq (Cu zs (m+1)) i j=true:=by
 rw[ER hz m hm hi,h];rfl
theorem Tm {n:Nat}{zs:List Int}(hz:DH n zs)(m:Nat)(hm:m<=n){i k j:Nat}(hi:i<n)(hk:k<m)(h1:Aq (Cu zs m) i k=true)(h2:Aq (Cu zs m) k j=true):Aq (Cu zs m) i j=true:=by
 induction m generalizing i k j with
 |zero=>omega
 |succ m ih=>
  have hmn:m<n:=by omega
  have ihm:=@ih (by omega);rw[ER hz m hmn hi,Bool.or_eq_true,Bool.and_eq_true] at h1;rw[ER hz m hmn (show k<n by omega),Bool.or_eq_true,Bool.and_eq_true] at h2;rw[ER hz m hmn hi,Bool.or_eq_true,Bool.and_eq_true];by_cases e:k=m
  ·
   subst e
   have h1':Aq (Cu zs k) i k=true:=by
    rcases h1 with h|h
    . exact h
    . exact h.1
   have h2':Aq (Cu zs k) k j=true:=by
    rcases h2 with h|h
    . exact h
    . exact h.2
   exact .inr ⟨h1',h2'⟩
  ·
   have hkm:k<m:=by omega
   rcases h1 with h1|⟨h1,h1'⟩<;>rcases h2 with h2|⟨h2,h2'⟩
   . exact .inl (ihm hi hkm h1 h2)
   . exact .inr ⟨ihm hi hkm h1 h2,h2'⟩
   . exact .inr ⟨h1,ihm hmn hkm h1' h2⟩
   . exact .inr ⟨h1,h2'⟩
theorem l6 {n:Nat}{zs:List Int}(hz:DH n zs):Wf zs=Cu zs n:=by
 unfold Wf;rw[if_pos hz.b,hz.2.1]
theorem Oh {n:Nat}{zs:List Int}(hz:DH n zs)(m:Nat)(hm:m<=n){i:Nat}(hi:i<n){j:Nat}(h:Aq zs i j=true):Aq (Cu zs m) i j=true:=by
 induction m with
 |zero=>exact h
 |succ m ih=>exact Tn hz m (by omega) hi (ih (by omega))
theorem QG {n:Nat}{zs:List Int}(hz:DH n zs){i:Nat}(hi:i<n){j:Nat}:Aq (Wf zs) i j=true↔Wl zs i j:=by
 rw[l6 hz];constructor
 . exact Rh hz n (Nat.le_refl _) hi
 ·
  intro h
  induction h with
  |one g=>exact Oh hz n (Nat.le_refl _) hi g
  |more h g ih=>
   have hk:=h.lt hz hi;exact Tm hz n (Nat.le_refl _) hi hk ih (Oh hz n (Nat.le_refl _) hk g)
def OO (zs:List Int):Bool:=Lu zs&&(List.range zs.length).any fun i=>Aq (Wf zs) i i
theorem YQ {n:Nat}{zs:List Int}(hz:DH n zs):OO zs=true↔∃i,i<n/\Wl zs i i:=by
 unfold OO;rw[hz.b,Bool.true_and,List.any_eq_true,hz.2.1];constructor
 . rintro⟨i,hi,h⟩;exact⟨i,List.mem_range.1 hi,(QG hz (List.mem_range.1 hi)).1 h⟩
 . rintro⟨i,hi,h⟩;exact⟨i,List.mem_range.2 hi,(QG hz hi).2 h⟩
theorem JN {a b:List Int}(h:a.Nodup)(hs:∀x∈a,x∈b):a.length<=b.length:=by
 induction a generalizing b with
 |nil=>simp
 |cons x a ih=>
  rw[List.nodup_cons] at h;have hx:=hs x (by simp);have:=ih (b:=b.erase x) h.2 (fun y hy=>(List.mem_erase_of_ne (fun e=>h.1 (by rw[<-e];exact hy))).2 (hs y (by simp[hy])));rw[List.length_erase_of_mem hx] at this;have:=List.length_pos_of_mem hx;simp;omega
theorem Ue {f:Ev->Bool}{es:List Ev}(hx:es.length<=12){i:Nat}(hi:i<(AV f es).length):0<=(AV f es).getD i 0/\(AV f es).getD i 0<(es.length:Int):=by
 have hm:(AV f es).getD i 0∈AV f es:=by
  rw[List.getD_eq_getElem?_getD,List.getElem?_eq_getElem hi];exact List.getElem_mem hi
 unfold AV at hm ⊢;rw[if_pos hx] at hm ⊢;exact EG f es _ _ hm
theorem TO:∀l:List Int,l.Pairwise (·<·)->l.Nodup:=fun l h=>h.imp (fun h e=>by omega)
def Ti (AA:List (List Dd))(f rows:List Int):Bool:=RS AA f&&eT AA rows
def mO (n:Nat)(rs f row:List Int):Nat->List Int
 | 0=>List.replicate n 0
 |k+1=>(mO n rs f row k).set (rs.getD k 0).toNat (row.getD (f.getD k 0).toNat 0)
def mQ (es:List Ev)(f rows:List Int):List Int:=mO es.length (AV Ad es) f (WP es rows) (AV Ad es).length
theorem gI {n:Nat}{rs f row:List Int}(hn:n<=12)(hd:rs.Nodup)(hrow:DH n row):∀k:Nat,k<=rs.length->(∀i,i<k->0<=rs.getD i 0/\rs.getD i 0<(n:Int))->(∀i,i<k->0<=f.getD i 0/\f.getD i 0<(n:Int)) ->
  DH n (mO n rs f row k)/\∀a j:Nat,a<n->(Aq (mO n rs f row k) a j=true↔∃i,i<k/\rs.getD i 0=(a:Int)/\Aq row (f.getD i 0).toNat j=true)
 | 0,_,_,_=>⟨DH.zero hn,fun a j _=>by unfold mO;rw[Ih];simp⟩
 |k+1,hk,hr,hf=>by
  obtain⟨h1,h2⟩:=gI hn hd hrow k (by omega) (fun i hi=>hr i (by omega)) (fun i hi=>hf i (by omega));obtain⟨a0,ha0⟩:=Int.eq_ofNat_of_zero_le (hr k (by omega)).1;obtain⟨b0,hb0⟩:=Int.eq_ofNat_of_zero_le (hf k (by omega)).1;have ha:a0<n:=by have:=(hr k (by omega)).2;omega
  have hb:b0<n:=by have:=(hf k (by omega)).2;omega
  have e0:mO n rs f row (k+1)=(mO n rs f row k).set a0 (row.getD b0 0):=by rw[mO,ha0,hb0,Int.toNat_natCast,Int.toNat_natCast]
  rw[e0];refine⟨h1.set (hrow.2.2 b0 hb),fun a j gy=>?_⟩;have e1:=h2 a j gy;unfold Aq at e1 ⊢;rw[FH _ _ _ _ (by rw[h1.2.1];exact ha)];by_cases e:a0=a
  ·
   subst e;simp only[if_true];constructor
   ·
    intro h;refine⟨k,by omega,ha0,?_⟩;rw[hb0,Int.toNat_natCast];exact h
   ·
    rintro⟨i,hi,r1,r2⟩;have:i=k:=X5 hd (by omega) (by omega) (by rw[r1,ha0]);subst this;rw[hb0,Int.toNat_natCast] at r2;exact r2
  ·
   simp only[e,if_false];rw[e1];constructor
   ·
    rintro⟨i,hi,r⟩;exact⟨i,by omega,r⟩
   ·
    rintro⟨i,hi,r1,r2⟩;by_cases ei:i=k
    . subst ei;rw[ha0] at r1;omega
    . exact⟨i,by omega,r1,r2⟩
theorem Nd (f:Ev->Bool)(l:List Ev){i:Nat}(hf:f (l.getD i zE)=true):∀k:Nat,i<k->(i:Int)∈BZ f l k
 | 0,h=>by omega
 |k+1,h=>by
  rw[BZ];by_cases e:i=k
  ·
   subst e;rw[if_pos hf];exact List.mem_append.2 (.inr (by simp))
  ·
   have ih:=Nd f l hf k (by omega);split
   . exact List.mem_append.2 (.inl ih)
   . exact ih
theorem fV {AA:List (List Dd)}{f rows:List Int}(h:Ti AA f rows=true):AO AA=true/\Tb (NF (AB AA)) f=true/\Kw (AB AA) rows=true:=by
 unfold Ti RS eT at h;simp only[Bool.and_eq_true] at h;exact⟨h.1.1,h.1.2,h.2.2⟩
theorem jC {es:List Ev}{i j:Nat}(h:MW es i j=true):i<j:=by
 apply Classical.byContradiction;intro hn;rw[jD (by omega)] at h;cases h
theorem rG {n:Nat}{zs:List Int}(hz:DH n zs)(μ:Nat->Nat)(h:∀i j,i<n->j<n->Aq zs i j=true->μ i<μ j){i j:Nat}(hi:i<n)(hw:Wl zs i j):μ i<μ j:=by
 induction hw with
 |one g=>exact h _ _ hi (hz.lt hi g) g
 |more g l ih=>exact Nat.lt_trans ih (h _ _ (g.lt hz hi) (hz.lt (g.lt hz hi) l) l)
theorem gB {n:Nat}{zs:List Int}(hz:DH n zs)(μ:Nat->Nat)(h:∀i j,i<n->j<n->Aq zs i j=true->μ i<μ j):OO zs=false:=by
 cases hr:OO zs with
 |false=>rfl
 |true=>
  obtain⟨i,hi,hw⟩:=(YQ hz).1 hr;exact absurd (rG hz μ h hi hw) (Nat.lt_irrefl _)
def pwL (es:List Ev)(f rows:List Int):List Int:=Gj Mq (Gj Mq (dH es) (jV es f)) (Gj Mq (WP es rows) (mQ es f rows))
def owP (es:List Ev)(i k:Nat):Bool:=decide (3<=i)&&decide (3<=k)&&((es.getD i zE).1==(es.getD k zE).1)
def wV (es:List Ev)(f:List Int):List Int:=IE (owP es) es.length (jV es f) es.length
def swL (AA:List (List Dd))(es:List Ev)(f rows:List Int):List Int:=Gj Mq (Gj Mq (aV AA es) (wV es f)) (Gj Mq (WP es rows) (mQ es f rows))
def xwL (es:List Ev)(f rows:List Int):List Int:=Gj Mq (Gj Mq (UM es) (jV es f)) (Gj Mq (WP es rows) (mQ es f rows))
theorem nV {es:List Ev}(hx:es.length<=12){i:Nat}(hi:i<(AV Ad es).length):0<=(AV Ad es).getD i 0/\(AV Ad es).getD i 0<(es.length:Int):=Ue hx hi
theorem dZ {es:List Ev}(hx:es.length<=12):(AV Ad es).Nodup:=by
 unfold AV;rw[if_pos hx];exact TO _ (GZ Ad es _)
structure iY (es:List Ev)(f rows:List Int):Prop where
 fw:DH es.length (jV es f)
 rw':DH es.length (WP es rows)
 ag:DH es.length (mQ es f rows)
 fwl:∀a j:Nat,a<es.length->(Aq (jV es f) a j=true↔∃i,i<(AV Ad es).length/\f.getD i 0=(a:Int)/\(AV Ad es).getD i 0=(j:Int))
 rwl:∀a b:Nat,a<es.length->(Aq (WP es rows) a b=true↔∃i q,i<rows.length/\q<rows.length/\nZ es rows i q=true/\rows.getD i 0=(a:Int)/\rows.getD q 0=(b:Int))
 agl:∀a j:Nat,a<es.length->(Aq (mQ es f rows) a j=true↔∃i,i<(AV Ad es).length/\(AV Ad es).getD i 0=(a:Int)/\Aq (WP es rows) (f.getD i 0).toNat j=true)
theorem l9 {es:List Ev}{f rows:List Int}(hx:es.length<=12)(hs:Tb (NF es) f=true)(hr:Kw es rows=true):iY es f rows:=by
 obtain⟨sl,su⟩:=lM hx hs;obtain⟨rn,_,ru⟩:=eU hx hr;have w1:=QK hx ru rows.length (Nat.le_refl _);have w2:=Vk (n:=es.length) (rs:=AV Ad es) (f:=f) hx (AV Ad es).length (fun i hi=>nV hx hi) (fun i hi=>(su i hi).1);have w3:=gI (n:=es.length) (rs:=AV Ad es) (f:=f) (row:=WP es rows) hx (dZ hx) w1.1 (AV Ad es).length (Nat.le_refl _) (fun i hi=>nV hx hi) (fun i hi=>(su i hi).1);exact⟨w2.1,w1.1,w3.1,w2.2,w1.2,w3.2⟩
theorem Oj {n:Nat}{a b c d:List Int}(ha:DH n a)(hb:DH n b)(hc:DH n c)(hd:DH n d):DH n (Gj Mq (Gj Mq a b) (Gj Mq c d)) /\
  ∀i j,i<n->Aq (Gj Mq (Gj Mq a b) (Gj Mq c d)) i j=(Aq a i j||Aq b i j||(Aq c i j||Aq d i j)):=by
 obtain⟨h1,l1⟩:=Ok ha hb;obtain⟨h2,l2⟩:=Ok hc hd;obtain⟨h3,l3⟩:=Ok h1 h2;exact⟨h3,fun i j hi=>by rw[l3 i j hi,l1 i j hi,l2 i j hi]⟩
theorem kP {es:List Ev}{f rows:List Int}(W:iY es f rows):DH es.length (wV es f)/\∀a j:Nat,a<es.length->Aq (wV es f) a j=(Aq (jV es f) a j&&!owP es a j):=by
 obtain⟨h1,h2⟩:=Gv (p:=owP es) W.fw es.length (Nat.le_refl _);refine⟨h1,fun a j ha=>?_⟩;unfold wV;rw[h2 a j ha]
 cases hl:Aq (jV es f) a j with
 |false=>rfl
 |true=>
  have hj:=W.fw.lt ha hl;simp[ha,hj]
theorem GL {AA:List (List Dd)}(hb:AO AA=true){j:Nat}(hj:j<(AB AA).length):0<=((AB AA).getD j zE).2.2.2.1/\((AB AA).getD j zE).2.2.2.1<=2:=by
 have e1:AB AA=A8 AA AA.length:=by rw[AB,if_pos hb]
 rw[e1] at hj ⊢;exact dG hb j hj
theorem UL {AA:List (List Dd)}(hb:AO AA=true):3<=(AB AA).length/\(AB AA).getD 0 zE=(-1,-1,false,0,0,0)/\(AB AA).getD 1 zE=(-1,-1,false,1,0,1)/\(AB AA).getD 2 zE=(-1,-1,false,2,0,2):=by
 have e1:AB AA=A8 AA AA.length:=by rw[AB,if_pos hb]
 obtain⟨t,ht⟩:=GW AA 0 AA.length (Nat.zero_le _);have ht':A8 AA AA.length=CU++t:=ht;rw[e1];refine⟨by rw[ht'];simp[CU],Me ht'⟩
theorem LQ {AA:List (List Dd)}(hb:AO AA=true){i:Nat}(hi:i<3):((AB AA).getD i zE).2.2.2.1=(i:Int)/\((AB AA).getD i zE).2.2.1=false/\Zg ((AB AA).getD i zE)=(i:Int)/\((AB AA).getD i zE).1=-1:=by
 obtain⟨_,h0,h1,h2⟩:=UL hb;rcases (by omega:i=0\/i=1\/i=2) with rfl|rfl|rfl
 . rw[h0];exact⟨rfl,rfl,rfl,rfl⟩
 . rw[h1];exact⟨rfl,rfl,rfl,rfl⟩
 . rw[h2];exact⟨rfl,rfl,rfl,rfl⟩
structure zV (AA:List (List Dd))(f rows:List Int):Prop where
 work:AO AA=true
 twelve:(AB AA).length<=12
 rH:iY (AB AA) f rows
 src:Tb (NF (AB AA)) f=true
 rws:Kw (AB AA) rows=true
 pw:DH (AB AA).length (pwL (AB AA) f rows)
 pwl:∀i j,i<(AB AA).length->Aq (pwL (AB AA) f rows) i j=(Aq (dH (AB AA)) i j||Aq (jV (AB AA) f) i j||(Aq (WP (AB AA) rows) i j||Aq (mQ (AB AA) f rows) i j))
 sw:DH (AB AA).length (swL AA (AB AA) f rows)
 swl:∀i j,i<(AB AA).length->Aq (swL AA (AB AA) f rows) i j=(Aq (aV AA (AB AA)) i j||Aq (wV (AB AA) f) i j||(Aq (WP (AB AA) rows) i j||Aq (mQ (AB AA) f rows) i j))
 xw:DH (AB AA).length (xwL (AB AA) f rows)
 xwl:∀i j,i<(AB AA).length->Aq (xwL (AB AA) f rows) i j=(Aq (UM (AB AA)) i j||Aq (jV (AB AA) f) i j||(Aq (WP (AB AA) rows) i j||Aq (mQ (AB AA) f rows) i j))
 cls:(uy (AB AA)).length=(AB AA).length
theorem lu {AA:List (List Dd)}{f rows:List Int}(h:Ti AA f rows=true):zV AA f rows:=by
 obtain⟨hb,hs,hr⟩:=fV h;have hx:=Bs AA;have W:=l9 hx hs hr;have p:=Oj (TB hx).1 W.fw W.rw' W.ag;have s:=Oj (aY (AA:=AA) hx).1 (kP W).1 W.rw' W.ag;have x:=Oj (M5 hx).1 W.fw W.rw' W.ag;exact⟨hb,hx,W,hs,hr,p.1,p.2,s.1,s.2,x.1,x.2,by unfold uy;rw[if_pos hx,List.length_map]⟩
theorem XY {AA:List (List Dd)}(hb:AO AA=true){c k:Nat}(hc:c<AA.length)(hk:k<(AA.getD c []).length)(h4:(Ak AA c k).1≠4):3<=C3 AA c k:=by
 rcases LU (B8 hb hc) hk h4 with ⟨_,e⟩|⟨_,j,_,_,_,e⟩
 . have:=Ip AA c k;omega
 . have:=Ip AA c j;omega
theorem kL {AA:List (List Dd)}(hb:AO AA=true){b:Bd}{a:Ab}{τ:Nat->Nat}{T:Nat}{z:Int}(M:MI AA b a τ T z)(hT:1<=T){c:Nat}(hc:c<AA.length)(hk:a.nx c<(AA.getD c []).length)
  (hz:(Ak AA c (a.nx c)).1≠4->C3 AA c (a.nx c)=z) (hcan:((Ak AA c (a.nx c)).1<=2/\BS AA c (a.nx c)=0)\/a.N c=[]):
  ∃a' τ',MI AA (Ai AA (AB AA) b c) a' τ' T z/\a'.nx=(BP a c).nx/\(BS AA c (a.nx c)≠0->a'.N c=[]):=by
 have hkd:=CQ (B8 hb hc _ hk);rcases hkd with h|h|h|h
 ·
  obtain⟨f,τ',_,h1⟩:=YF hb M hT hc hk h (hz (by omega)) (hcan.imp (fun h=>h.2) id);exact⟨_,τ',h1,rfl,fun hg=>hcan.resolve_left (fun h=>hg h.2)⟩
 ·
  by_cases hg:BS AA c (a.nx c)=0
  . exact⟨_,τ,Px hb M hc hk h hg,rfl,fun h=>absurd hg h⟩
  ·
   have hN:=hcan.resolve_left (fun h=>hg h.2);obtain⟨τ',h1⟩:=dD hb M hT hc hk h hg (hz (by omega)) hN;exact⟨_,τ',h1,rfl,fun _=>hN⟩
 ·
  have hN:=hcan.resolve_left (fun h=>by omega);obtain⟨τ',h1⟩:=YG hb M hT hc hk h (hz (by omega)) hN;exact⟨_,τ',h1,rfl,fun _=>hN⟩
 ·
  have hN:=hcan.resolve_left (fun h=>by omega);exact⟨BP a c,τ,Py hb M hc hk h hN,rfl,fun _=>hN⟩
def BD (AA:List (List Dd))(a:Ab):Prop:=∀c,c<AA.length->0<a.nx c->a.nx c<(AA.getD c []).length->BS AA c (a.nx c)≠0->BS AA c (a.nx c-1)≠BS AA c (a.nx c)
theorem Zz {AA:List (List Dd)}(hb:AO AA=true){c:Nat}(hc:c<AA.length)(g:Int){T:Nat}(hT:1<=T){z:Int}:∀(m:Nat) (b:Bd) (a:Ab) (τ:Nat->Nat),MI AA b a τ T z->a.nx c<(AA.getD c []).length->(AA.getD c []).length<=a.nx c+m->BS AA c (a.nx c)=g ->
  ((Ak AA c (a.nx c)).1≠4->C3 AA c (a.nx c)=z)->(((Ak AA c (a.nx c)).1<=2/\BS AA c (a.nx c)=0)\/a.N c=[]) ->
  ∃a' τ',MI AA (Ea AA (AB AA) g c m b) a' τ' T z/\a.nx c<a'.nx c/\(∀c',c'≠c->a'.nx c'=a.nx c')/\(a'.nx c<(AA.getD c []).length->BS AA c (a'.nx c)≠0->BS AA c (a'.nx c-1)≠BS AA c (a'.nx c))
 | 0,b,a,τ,M,hk,hm,_,_,_=>by omega
 |m+1,b,a,τ,M,hk,hm,hg,hz,hcan=>by
  obtain⟨a1,τ1,M1,e1,e2⟩:=kL hb M hT hc hk hz hcan;have hn1:a1.nx c=a.nx c+1:=by rw[e1,C5,if_pos rfl]
  have ho1:∀c',c'≠c->a1.nx c'=a.nx c':=fun c' h=>by rw[e1,C5,if_neg h]
  rw[Ea,(D3 M1.Bt hc).2,hn1];by_cases hs:g=0\/a.nx c+1=(AA.getD c []).length\/BS AA c (a.nx c+1)≠g
  ·
   rw[if_pos hs];refine⟨a1,τ1,M1,by omega,ho1,?_⟩;rw[hn1];intro hl hg0;rw[show a.nx c+1-1=a.nx c by omega,hg];rcases hs with hs|hs|hs
   . rw[hs];exact fun e=>hg0 e.symm
   . omega
   . exact fun e=>hs e.symm
  ·
   rw[if_neg hs];have hs0:¬g=0:=fun h=>hs (.inl h)
   have hs1:¬a.nx c+1=(AA.getD c []).length:=fun h=>hs (.inr (.inl h))
   have hs2:BS AA c (a.nx c+1)=g:=Classical.byContradiction (fun h=>hs (.inr (.inr h)));have hl:=M1.WB c hc;have hk1:a.nx c+1<(AA.getD c []).length:=by omega
   have hok:=B8 hb hc;have n1:=En hok hk (by rw[hg];exact hs0);have n2:=En hok hk1 (by rw[hs2];exact hs0);have hcl:C3 AA c (a.nx c+1)=C3 AA c (a.nx c):=(Ia hok hok hk1 hk n2.1 n1.1).2 ⟨rfl,.inr ⟨by rw[hs2];exact hs0,by rw[hs2,hg]⟩⟩;obtain⟨a',τ',M',q1,q2,q3⟩:=Zz hb hc g hT m (Ai AA (AB AA) b c) a1 τ1 M1 (by omega) (by omega) (by rw[hn1];exact hs2) (by rw[hn1,hcl];exact fun _=>hz n1.1) (.inr (e2 (by rw[hg];exact hs0)));exact⟨a',τ',M',by omega,fun c' h=>by rw[q2 c' h,ho1 c' h],q3⟩
theorem Zh {AA:List (List Dd)}(hb:AO AA=true){a:Ab}{τ:Nat->Nat}{i:Nat}(hi:(Cm AA a τ).D (Ao AA) i)(h3:3<=i):∃c k i',Dz AA i c k i'/\k<a.nx c/\(Ao AA).cs i=C3 AA c k/\3<=C3 AA c k:=by
 obtain⟨c,k,i',E⟩:=GV hb h3 hi.1.1;have hX:=hi.1.2;rw[KN hb E,decide_eq_true_eq] at hX;exact⟨c,k,i',E,hX,(DM hb E).2.2.2,XY hb E.hc E.hk E.kind⟩
theorem Tf {AA:List (List Dd)}(hb:AO AA=true){b:Bd}{a:Ab}{τ:Nat->Nat}{T:Nat}{z:Int}(M:MI AA b a τ T z)(B:BD AA a){s:Int}(hs:Hf (Ah AA b) s=true):
  ∃a' τ' z',MI AA (Al AA (AB AA) b s) a' τ' (T+1) z'/\BD AA a':=by
 have hm:=Ie hs;unfold Ah at hm;rw[List.mem_append,List.mem_map,List.mem_map] at hm;rcases hm with ⟨c,hc,e⟩|⟨c,hc,e⟩
 ·
  rw[List.mem_filter,List.mem_range] at hc;obtain⟨hc,hcan⟩:=hc
  have hl3:AA.length<=3:=by
   simp only[AO,Bool.and_eq_true,decide_eq_true_eq] at hb;exact hb.1.1.1.1.2
  unfold BU at hcan;rw[(D3 M.Bt hc).2,FL M.Bt hc] at hcan;simp only[Bool.and_eq_true,Bool.or_eq_true,decide_eq_true_eq,List.isEmpty_iff,List.map_eq_nil_iff] at hcan;obtain⟨hk,hcan⟩:=hcan;have hok:=B8 hb hc
  have M1:MI AA b a τ (T+1) (if (Ak AA c (a.nx c)).1=4 then -1 else C3 AA c (a.nx c)):=by
   refine⟨M.Bt,M.inv.tick _ (fun i hi h3 e=>?_),M.WB,M.nt⟩;obtain⟨c',k',i',E,hX,e1,e2⟩:=Zh hb hi h3;rw[e1] at e;split at e
   . omega
   ·
    rename_i h4;obtain⟨rfl,hq⟩:=(Ia (B8 hb E.hc) hok E.hk hk E.kind h4).1 e;rcases hq with hq|⟨g1,g2⟩
    . omega
    ·
     have h0:BS AA c' (a.nx c')≠0:=by rw[<-g2];exact g1
     refine B c' hc (by omega) hk h0 ?_;exact MF hb hc (j:=k') (k:=a.nx c'-1) (l:=a.nx c') (by omega) (by omega) hk h0 g2
  have hst:Al AA (AB AA) b s=Ea AA (AB AA) (BS AA c (a.nx c)) c (AA.getD c []).length b:=by
   unfold Al;rw[if_neg (by omega),show s.toNat=c by omega,(D3 M.Bt hc).2]
  rw[hst];obtain⟨a',τ',M',q1,q2,q3⟩:=Zz hb hc (BS AA c (a.nx c)) (T:=T+1) (by omega) (AA.getD c []).length b a τ M1 hk (by omega) rfl (fun h=>by rw[if_neg h]) hcan;refine⟨a',τ',_,M',fun c' hc' h0 hl hg=>?_⟩;by_cases e:c'=c
  . subst e;exact q3 hl hg
  ·
   rw[q2 c' e] at h0 hl hg ⊢;exact B c' hc' h0 hl hg
 ·
  rw[List.mem_filter,List.mem_range] at hc;obtain⟨hc,hne⟩:=hc;rw[FL M.Bt hc] at hne
  have hst:Al AA (AB AA) b s=BA b c:=by
   unfold Al;rw[if_pos (by omega),show (s-10).toNat=c by omega]
  rw[hst]
  cases hN:a.N c with
  |nil=>rw[hN] at hne;simp at hne
  |cons x rest=>
   obtain⟨τ',M'⟩:=Xi hb M hc hN;exact⟨_,τ',_,M',fun c' hc'=>B c' hc'⟩
def Jg:Ab:={ nx:=fun _=>0,N:=fun _=>[],R:=fun p=>if p<3 then [p] else [],F:=fun _=>0 }
theorem Kk {AA:List (List Dd)}(hb:AO AA=true):MI AA (CM AA) Jg (fun _=>0) 0 (-1)/\BD AA Jg:=by
 have hX:∀j,(Cm AA Jg (fun _=>0)).X j↔j<3:=by
  intro j;show (j<(AB AA).length/\EL AA Jg j=true)↔_;unfold EL Jg;simp;have:=(UL hb).1;omega
 have hN:∀c,(Cm AA Jg (fun _=>0)).N c=[]:=fun c=>by show (if 0<=c then [] else [])=[];split<;>rfl
 have hD:∀j,(Cm AA Jg (fun _=>0)).D (Ao AA) j↔j<3:=fun j=>by
  unfold Ax.D;rw[hX,hN];simp
 have hR:∀p,(Cm AA Jg (fun _=>0)).R p=if p<3 then [p] else []:=fun p=>rfl
 have Ox:∀j,j<3->(Ao AA).rd j=false/\(Ao AA).pl j=j/\(Ao AA).ck j=-1/\(Ao AA).cs j=(j:Int):=by
  intro j hj;obtain⟨h1,h2,h3,h4⟩:=LQ hb hj;refine⟨h2,?_,h4,h3⟩;show ((AB AA).getD j zE).2.2.2.1.toNat=j;rw[h1,Int.toNat_natCast]
 have hno:∀j,(Cm AA Jg (fun _=>0)).X j->¬ 3<=j:=fun j h1 h2=>by have:=(hX j).1 h1;omega
 refine⟨⟨?_,?_,fun c hc=>Nat.zero_le _,fun c x hx=>by cases hx⟩,fun c _ h=>absurd h (Nat.lt_irrefl _)⟩
 ·
  have hrep:∀(α:Type) (m:Nat) (x:α),List.replicate m x=(List.range m).map (fun _=>x):=by
   intro α m x;rw[List.map_const',List.length_range]
  have hrep2:∀(α β:Type) (l:List β) (x:α),List.replicate l.length x=l.map (fun _=>x):=by
   intro α β l x;rw[List.map_const']
  obtain⟨h3,b0,b1,b2⟩:=UL hb;refine⟨hrep _ _ _,hrep _ _ _,rfl,rfl,?_,?_,?_⟩
  ·
   show [0,0,0]=(List.range 3).map (fun p=>JH AA (Be Jg p));have e0:JH AA 0=0:=by unfold JH;rw[b0]
   have e1:JH AA 1=0:=by unfold JH;rw[b1]
   have e2:JH AA 2=0:=by unfold JH;rw[b2]
   have r3:List.range 3=[0,1,2]:=rfl;rw[r3];show [0,0,0]=[JH AA 0,JH AA 1,JH AA 2];rw[e0,e1,e2]
  ·
   show List.replicate _ (-1)=_;rw[hrep2];refine List.map_congr_left (fun r hr=>?_);obtain⟨j,rfl,hj,hjr⟩:=Fh (Bs AA) hr
   have:¬EL AA Jg j=true:=by
    intro h;have h3:=(hX j).1 ⟨hj,h⟩;rw[(LQ hb h3).2.1] at hjr;cases hjr
   rw[Int.toNat_natCast,if_neg this]
  ·
   show List.replicate _ (-1)=_;rw[hrep2];refine List.map_congr_left (fun r hr=>?_);obtain⟨j,rfl,hj,hjr⟩:=Fh (Bs AA) hr
   have:¬EL AA Jg j=true:=by
    intro h;have h3:=(hX j).1 ⟨hj,h⟩;rw[(LQ hb h3).2.1] at hjr;cases hjr
   rw[Int.toNat_natCast,if_neg this]
 ·
  constructor;case EZ=>exact fun j hj=>⟨(hX j).2 hj,(Ox j hj).1,(Ox j hj).2.1,(Ox j hj).2.2.1,rfl,(Ox j hj).2.2.2⟩
  case lt=>exact fun j hj=>hj.1
  case down=>exact fun i j hj h3 hij _=>absurd ((hX j).1 hj) (by omega)
  case note=>exact fun c x hx=>by rw[hN] at hx;cases hx
  case Lh=>exact fun c=>by rw[hN];simp
  case pend=>exact fun c x j hx=>by rw[hN] at hx;cases hx
  case rows=>
   intro p x;rw[hR,hD];by_cases hp:p<3
   ·
    rw[if_pos hp];constructor
    ·
     intro hx;have e:x=p:=by simpa using hx
     subst e;exact⟨hp,(Ox x hp).1,(Ox x hp).2.1⟩
    ·
     rintro⟨h1,h2,h3⟩;rw[(Ox x h1).2.1] at h3;simp[h3]
   ·
    rw[if_neg hp];constructor
    . intro hx;cases hx
    ·
     rintro⟨h1,h2,h3⟩;rw[(Ox x h1).2.1] at h3;omega
  case Ln=>exact fun p=>by rw[hR];split<;>simp
  case TR=>exact fun p=>by rw[hR];split<;>simp
  case PG=>exact fun j _=>Nat.le_refl _
  case tpos=>exact fun j hj h3=>absurd h3 (hno j hj.1)
  case same=>exact fun i j hi _ h3=>absurd h3 (hno i hi.1)
  case Qy=>exact fun i j hi _ h3=>absurd h3 (hno i hi.1)
  case now=>exact fun i hi h3=>absurd h3 (hno i hi.1)
  case kept=>exact fun i j hi _ h3=>absurd h3 (hno i hi.1)
  case src=>
   intro r hr hrd;rw[(Ox r ((hX r).1 hr)).1] at hrd;cases hrd
  case Mx=>
   intro r w p hr hrd;rw[(Ox r ((hX r).1 hr)).1] at hrd;cases hrd
  case Xq=>exact fun i hi h3=>absurd h3 (hno i hi)
  case gm=>exact fun i j hi _ h3=>absurd h3 (hno i hi)
  case SK=>exact fun i j hi _ h3=>absurd h3 (hno i hi)
theorem VF {l:List Int}{i q:Nat}(hi:i<q)(hq:q<l.length):[l.getD i 0,l.getD q 0].Sublist l:=by
 have h1:[l.getD i 0].Sublist (l.take q):=by
  rw[List.singleton_sublist,List.mem_take_iff_getElem];refine⟨i,by omega,?_⟩;rw[List.getD_eq_getElem?_getD,List.getElem?_eq_getElem (by omega)];rfl
 have h2:[l.getD q 0].Sublist (l.drop q):=by
  rw[List.singleton_sublist,List.mem_drop_iff_getElem];refine⟨0,by omega,?_⟩;rw[List.getD_eq_getElem?_getD,List.getElem?_eq_getElem hq];simp
 have:=h1.append h2
 rwa [List.take_append_drop] at this
theorem jB {L:List Nat}(hn:L.Nodup){x y:Nat}(h:Yg L x y):L.idxOf x<L.idxOf y:=by
 induction L with
 |nil=>cases h
 |cons c L ih=>
  rw[List.nodup_cons] at hn
  have hxy:x≠y:=by
   have:=h.nodup (by rw[List.nodup_cons];exact hn);intro e;rw[e] at this;simp at this
  cases h with
  |cons _ h'=>
   have hm:=J4 h';have hx:c≠x:=fun e=>hn.1 (by rw[e];exact hm.1)
   have hy:c≠y:=fun e=>hn.1 (by rw[e];exact hm.2)
   rw[List.idxOf_cons,List.idxOf_cons,beq_eq_false_iff_ne.2 hx,beq_eq_false_iff_ne.2 hy];exact Nat.succ_lt_succ (ih hn.2 h')
  |cons_cons _ h'=>
   rw[List.idxOf_cons_self,List.idxOf_cons,beq_eq_false_iff_ne.2 hxy];exact Nat.succ_pos _
structure Ov (AA:List (List Dd))(a:Ab)(τ:Nat->Nat)(T:Nat)(z:Int)(b:Bd):Prop where
 inv:Fk (Ao AA) (Cm AA a τ) T z
 Bt:Y8 AA b a
 none:∀c,(Cm AA a τ).N c=[]
 all:∀j,j<(AB AA).length->(Cm AA a τ).D (Ao AA) j
theorem p9 {AA:List (List Dd)}(hb:AO AA=true){b:Bd}{a:Ab}{τ:Nat->Nat}{T:Nat}{z:Int}(M:MI AA b a τ T z)(he:DN AA b=true):Ov AA a τ T z b:=by
 unfold DN at he;rw[List.all_eq_true] at he
 have hc:∀c,c<AA.length->a.nx c=(AA.getD c []).length/\a.N c=[]:=by
  intro c hc;have h1:=he c (List.mem_range.2 hc);rw[(D3 M.Bt hc).2,FL M.Bt hc] at h1;simp only[Bool.and_eq_true,decide_eq_true_eq,List.isEmpty_iff,List.map_eq_nil_iff] at h1;have:=M.WB c hc;exact⟨by omega,h1.2⟩
 have hN:∀c,a.N c=[]:=by
  intro c;by_cases h:c<AA.length
  . exact (hc c h).2
  ·
   cases hN:a.N c with
   |nil=>rfl
   |cons x r=>exact absurd (M.nt c x (by rw[hN];simp)).1 h
 have hst:∀c,(Cm AA a τ).N c=[]:=fun c=>by
  show (if 0<=c then a.N c.toNat else [])=[];split
  . exact hN _
  . rfl
 refine⟨M.inv,M.Bt,hst,fun j hj=>⟨⟨hj,?_⟩,by rw[hst];simp⟩⟩;by_cases h3:j<3
 . unfold EL;simp[h3]
 ·
  obtain⟨c,k,i,E⟩:=GV hb (by omega) hj;rw[KN hb E,decide_eq_true_eq,(hc c E.hc).1];exact E.hk
theorem Ov.frs {AA:List (List Dd)}{a:Ab}{τ:Nat->Nat}{T:Nat}{z:Int}{b:Bd}(h:Ov AA a τ T z b):b.fr=(AV Ad (AB AA)).map (fun r=>(a.F r.toNat:Int))/\b.sn=(AV Ad (AB AA)).map (fun r=>JH AA (a.F r.toNat)):=by
 have hx:=Bs AA;rw[h.Bt.fr,h.Bt.sn]
 constructor <;>
 ·
  refine List.map_congr_left (fun r hr=>?_);obtain⟨j,rfl,hj,_⟩:=Fh hx hr;rw[Int.toNat_natCast,if_pos (h.all j hj).1.2]
theorem Ov.rd {AA:List (List Dd)}{a:Ab}{τ:Nat->Nat}{T:Nat}{z:Int}{b:Bd}(h:Ov AA a τ T z b){i:Nat}(hi:i<(AV Ad (AB AA)).length):∃r:Nat,r<(AB AA).length/\(AV Ad (AB AA)).getD i 0=(r:Int)/\b.fr.getD i 0=(a.F r:Int)/\(Ao AA).rd r=true:=by
 have hx:=Bs AA;obtain⟨r,e,hr,hrd⟩:=Fh hx (SW hi);refine⟨r,hr,e,?_,hrd⟩;rw[h.frs.1,List.getD_eq_getElem?_getD,List.getElem?_map];rw[List.getD_eq_getElem?_getD,List.getElem?_eq_getElem hi] at e;rw[List.getElem?_eq_getElem hi];simp only[Option.getD_some] at e;simp[e]
theorem Ov.src {AA:List (List Dd)}{a:Ab}{τ:Nat->Nat}{T:Nat}{z:Int}{b:Bd}(hb:AO AA=true)(h:Ov AA a τ T z b):Tb (NF (AB AA)) b.fr=true:=by
 have hx:=Bs AA;have hc:(NF (AB AA)).length=(AV Ad (AB AA)).length:=GF _ _ _;unfold Tb;rw[Bool.and_eq_true,decide_eq_true_eq];refine⟨by rw[hc,h.frs.1,List.length_map],(OW _).2 (fun i hi=>?_)⟩;rw[hc] at hi;obtain⟨r,hr,e1,e2,e3⟩:=h.rd hi;obtain⟨q1,q2,q3,_⟩:=h.inv.src r (h.all r hr).1 e3;unfold NF;rw[NA _ _ _ _ hi,e1,e2];refine Gi ?_;unfold AV;rw[if_pos hx];refine Nd _ _ ?_ _ (h.inv.lt _ q1);unfold Ju iC;have p1:0<=((AB AA).getD (a.F r) zE).2.2.2.1/\((AB AA).getD (a.F r) zE).2.2.2.1<=2:=GL hb (h.inv.lt _ q1);have p2:=GL hb hr;have q3':((AB AA).getD (a.F r) zE).2.2.2.1.toNat=((AB AA).getD r zE).2.2.2.1.toNat:=q3;have q2':((AB AA).getD (a.F r) zE).2.2.1=false:=q2;rw[q2',Int.toNat_natCast];have:((AB AA).getD (a.F r) zE).2.2.2.1=((AB AA).getD r zE).2.2.2.1:=by omega
 rw[this];simp
theorem Ov.head {AA:List (List Dd)}{a:Ab}{τ:Nat->Nat}{T:Nat}{z:Int}{b:Bd}(h:Ov AA a τ T z b){p:Nat}(hp:p<3):(a.R p).head? = some p:=by
 obtain⟨h1,h2,h3,h4,h5,h6⟩:=h.inv.EZ p hp;have hm:p∈a.R p:=(h.inv.rows p p).2 ⟨h.all p (h.inv.lt p h1),h2,h3⟩;have ho:=h.inv.TR p
 cases hl:a.R p with
 |nil=>rw[hl] at hm;cases hm
 |cons x r=>
  change (a.R p).Pairwise _ at ho;rw[hl] at ho hm;rw[List.pairwise_cons] at ho;rcases List.mem_cons.1 hm with e|hr
  . rw[e];rfl
  ·
   exfalso;have hx:=(h.inv.rows p x).1 (show x∈a.R p by rw[hl];simp);have ht:=ho.1 p hr;change τ x<=τ p at ht;change τ p=0 at h5;have hnd:=h.inv.Ln p;change (a.R p).Nodup at hnd;rw[hl,List.nodup_cons] at hnd;have hne:x≠p:=fun e=>hnd.1 (by rw[e];exact hr)
   by_cases h3x:3<=x
   ·
    have:=h.inv.tpos x hx.1 h3x;change 1<=τ x at this;omega
   ·
    have:=(h.inv.EZ x (by omega)).2.2.1;rw[hx.2.2] at this;exact hne this.symm
theorem Ov.perm {AA:List (List Dd)}{a:Ab}{τ:Nat->Nat}{T:Nat}{z:Int}{b:Bd}(hb:AO AA=true)(h:Ov AA a τ T z b)(p:Nat):((a.R p).map Int.ofNat).Perm (Cs (AB AA) p):=by
 have hx:=Bs AA
 have hn1:((a.R p).map Int.ofNat).Nodup:=by
  have:=h.inv.Ln p;exact List.Pairwise.map _ (fun x y hxy e=>hxy (Int.ofNat.inj e)) this
 have hn2:=DV hx p
 have hm:∀y,y∈(a.R p).map Int.ofNat↔y∈Cs (AB AA) p:=by
  intro y;rw[List.mem_map];unfold Cs AV;rw[if_pos hx];constructor
  ·
   rintro⟨x,hx',rfl⟩;obtain⟨q1,q2,q3⟩:=(h.inv.rows p x).1 hx';refine Nd _ _ ?_ _ (h.inv.lt x q1.1);have p1:=GL hb (h.inv.lt x q1.1);have q2':((AB AA).getD x zE).2.2.1=false:=q2;have q3':((AB AA).getD x zE).2.2.2.1.toNat=p:=q3;unfold Ju;rw[q2'];have:((AB AA).getD x zE).2.2.2.1=(p:Int):=by omega
   rw[this];simp
  ·
   intro hy;have h1:=EG _ _ _ _ hy;have h2:=FJ _ _ _ _ hy;obtain⟨x,rfl⟩:=Int.eq_ofNat_of_zero_le h1.1;rw[Int.toNat_natCast] at h2;unfold Ju at h2;simp only[Bool.and_eq_true,Bool.not_eq_true',beq_iff_eq] at h2;refine⟨x,(h.inv.rows p x).2 ⟨h.all x (by omega),h2.1,?_⟩,rfl⟩;show ((AB AA).getD x zE).2.2.2.1.toNat=p;rw[h2.2,Int.toNat_natCast]
 refine Q6 hn1 (fun y hy=>(hm y).1 hy) (JN hn2 (fun y hy=>(hm y).2 hy))
def Gp (b:Bd):List Int:=b.rws.getD 0 []++b.rws.getD 1 []++b.rws.getD 2 []
theorem Ov.nY {AA:List (List Dd)}{a:Ab}{τ:Nat->Nat}{T:Nat}{z:Int}{b:Bd}(h:Ov AA a τ T z b):Gp b=(a.R 0).map Int.ofNat++(a.R 1).map Int.ofNat++(a.R 2).map Int.ofNat:=by
 unfold Gp;rw[(Gh h.Bt (show 0<3 by omega)).2.2,(Gh h.Bt (show 1<3 by omega)).2.2,(Gh h.Bt (show 2<3 by omega)).2.2]
theorem Ov.rows {AA:List (List Dd)}{a:Ab}{τ:Nat->Nat}{T:Nat}{z:Int}{b:Bd}(hb:AO AA=true)(h:Ov AA a τ T z b):Kw (AB AA) (Gp b)=true:=by
 rw[h.nY];have hl:∀p,((a.R p).map Int.ofNat).length=(Cs (AB AA) p).length:=fun p=>(h.perm hb p).length_eq
 have hd:∀p,p<3->((a.R p).map Int.ofNat).getD 0 0=(p:Int):=by
  intro p hp;have:=h.head hp;rw[List.head?_eq_getElem?] at this;rw[List.getD_eq_getElem?_getD,List.getElem?_map,this];rfl
 have h0:∀p,p<3->0<(Cs (AB AA) p).length:=fun p hp=>(Ux hb p hp).1
 have k0:=Uu (A:=[]) (P:=(a.R 0).map Int.ofNat) (C:=(a.R 1).map Int.ofNat++(a.R 2).map Int.ofNat) (i:=0) (hl 0) (h.perm hb 0) (h0 0 (by omega)) (hd 0 (by omega));have k1:=Uu (A:=(a.R 0).map Int.ofNat) (P:=(a.R 1).map Int.ofNat) (C:=(a.R 2).map Int.ofNat) (i:=1) (hl 1) (h.perm hb 1) (h0 1 (by omega)) (hd 1 (by omega));have k2:=Uu (A:=(a.R 0).map Int.ofNat++(a.R 1).map Int.ofNat) (P:=(a.R 2).map Int.ofNat) (C:=[]) (i:=2) (hl 2) (h.perm hb 2) (h0 2 (by omega)) (hd 2 (by omega));simp only[List.nil_append,List.append_nil,List.length_nil,List.length_append,hl,<-List.append_assoc] at k0 k1 k2;unfold Kw;rw[k0,k1,k2];simp only[Bool.true_and,decide_eq_true_eq,List.length_append,hl]
theorem Qe {AA:List (List Dd)}{a:Ab}{τ:Nat->Nat}{T:Nat}{z:Int}{b:Bd}(hb:AO AA=true)(h:Ov AA a τ T z b)(p q:Nat):((a.R q).map Int.ofNat).filter (fun x=>iC (AB AA) x==(p:Int))=if q=p then (a.R q).map Int.ofNat else []:=by
 have hq:∀x,x∈(a.R q).map Int.ofNat->iC (AB AA) x=(q:Int):=by
  intro x hx;obtain⟨y,hy,rfl⟩:=List.mem_map.1 hx;obtain⟨q1,q2,q3⟩:=(h.inv.rows q y).1 hy;have p1:=GL hb (h.inv.lt y q1.1);have q3':((AB AA).getD y zE).2.2.2.1.toNat=q:=q3;show ((AB AA).getD ((y:Int)).toNat zE).2.2.2.1=_;rw[Int.toNat_natCast];omega
 split
 ·
  rename_i e;rw[List.filter_eq_self];intro x hx;rw[hq x hx,e];simp
 ·
  rename_i e;rw[List.filter_eq_nil_iff];intro x hx;rw[hq x hx];simp;omega
theorem kZ {AA:List (List Dd)}{a:Ab}{τ:Nat->Nat}{T:Nat}{z:Int}{b:Bd}(hb:AO AA=true)(h:Ov AA a τ T z b)(W:iY (AB AA) b.fr (Gp b)){x y:Nat}(hx:x<(AB AA).length)(hl:Aq (WP (AB AA) (Gp b)) x y=true):
  Yg (a.R ((Ao AA).pl x)) x y:=by
 obtain⟨i,q,hi,hq,hp,e1,e2⟩:=(W.rwl x y hx).1 hl;unfold nZ at hp;simp only[Bool.and_eq_true,decide_eq_true_eq,beq_iff_eq] at hp;have hs:=VF hp.1 hq
 have px:iC (AB AA) ((Gp b).getD i 0)=(((Ao AA).pl x:Nat):Int):=by
  rw[e1];have:=GL hb hx;show ((AB AA).getD ((x:Int)).toNat zE).2.2.2.1=((((AB AA).getD x zE).2.2.2.1.toNat:Nat):Int);rw[Int.toNat_natCast];omega
 have hf:=hs.filter (fun u=>iC (AB AA) u==(((Ao AA).pl x:Nat):Int));rw[List.filter_cons_of_pos (by rw[px];simp),List.filter_cons_of_pos (by rw[<-hp.2,px];simp),List.filter_nil,e1,e2,h.nY,List.filter_append,List.filter_append,Qe hb h,Qe hb h,Qe hb h] at hf
 have hp3:(Ao AA).pl x<3:=by
  have:=GL hb hx;show ((AB AA).getD x zE).2.2.2.1.toNat<3;omega
 have key:[(x:Int),(y:Int)].Sublist ((a.R ((Ao AA).pl x)).map Int.ofNat):=by
  rcases (by omega:(Ao AA).pl x=0\/(Ao AA).pl x=1\/(Ao AA).pl x=2) with e|e|e<;>(rw[e] at hf ⊢;simpa using hf)
 have h2:=key.map Int.toNat;simp only[List.map_cons,List.map_nil,Int.toNat_natCast,List.map_map] at h2
 have e3:(a.R ((Ao AA).pl x)).map (Int.toNat ∘ Int.ofNat)=a.R ((Ao AA).pl x):=by
  have:(Int.toNat ∘ Int.ofNat)=id:=by funext u;simp
  rw[this,List.map_id]
 rw[e3] at h2;exact h2
theorem Ov.tale {AA:List (List Dd)}{a:Ab}{τ:Nat->Nat}{T:Nat}{z:Int}{b:Bd}(hb:AO AA=true)(h:Ov AA a τ T z b):Ti AA b.fr (Gp b)=true:=by
 unfold Ti RS eT;rw[hb,h.src hb,h.rows hb];rfl
def IL (AA:List (List Dd))(a:Ab)(x:Nat):Nat:=(a.R ((Ao AA).pl x)).idxOf x
def Sh (AA:List (List Dd))(a:Ab)(i:Nat):Nat:=if (Ao AA).rd i=true then 2*IL AA a (a.F i)+1 else 2*IL AA a i
theorem qP {n k k' i j:Nat}(hi:i<n)(h:k<k'\/(k=k'/\i<j)):k*n+i<k'*n+j:=by
 rcases h with h|⟨rfl,h⟩
 ·
  have:=Nat.mul_le_mul_right n h;rw[Nat.succ_mul] at this;omega
 . omega
theorem Ov.each {AA:List (List Dd)}{a:Ab}{τ:Nat->Nat}{T:Nat}{z:Int}{b:Bd}(hb:AO AA=true)(h:Ov AA a τ T z b):OO (pwL (AB AA) b.fr (Gp b))=false:=by
 have W:=lu (h.tale hb);have hx:=W.twelve
 have hpos:∀ {p x y:Nat},(Ao AA).pl x=p->(Ao AA).pl y=p->Yg (a.R p) x y->IL AA a x<IL AA a y:=by
  intro p x y e1 e2 hB;unfold IL;rw[e1,e2];exact jB (h.inv.Ln p) hB
 have hsrc:∀ {r:Nat},r<(AB AA).length->(Ao AA).rd r=true->a.F r<(AB AA).length/\(Ao AA).rd (a.F r)=false/\(Ao AA).pl (a.F r)=(Ao AA).pl r:=by
  intro r hr hrd;obtain⟨q1,q2,q3,_⟩:=h.inv.src r (h.all r hr).1 hrd;exact⟨h.inv.lt _ q1,q2,q3⟩
 have hrow:∀ {x y:Nat},x<(AB AA).length->Aq (WP (AB AA) (Gp b)) x y=true->IL AA a x<IL AA a y/\(Ao AA).rd x=false/\(Ao AA).rd y=false:=by
  intro x y hx' hl;have hB:=kZ hb h W.rH hx' hl;have m1:=(h.inv.rows _ _).1 (J4 hB).1;have m2:=(h.inv.rows _ _).1 (J4 hB).2;exact⟨hpos rfl m2.2.2 hB,m1.2.1,m2.2.1⟩
 refine gB W.pw (fun i=>Sh AA a i*(AB AA).length+i) (fun i j hi hj hl=>?_);refine qP hi ?_;rw[W.pwl i j hi] at hl;simp only[Bool.or_eq_true] at hl;rcases hl with (g|g)|(g|g)
 ·
  rw[(TB hx).2 i j hi] at g;simp only[Bool.and_eq_true,Bool.not_eq_true'] at g;obtain⟨⟨_,g2⟩,g3⟩:=g;have hlt:=jC g2
  have hpl:(Ao AA).pl i=(Ao AA).pl j:=by
   unfold kQ at g3;rw[bne_eq_false_iff_eq] at g3;show ((AB AA).getD i zE).2.2.2.1.toNat=((AB AA).getD j zE).2.2.2.1.toNat;rw[g3]
  unfold MW at g2;simp only[Bool.and_eq_true,Bool.or_eq_true,decide_eq_true_eq,beq_iff_eq] at g2;rcases g2.2 with ⟨g4,g5⟩|⟨g4,g5⟩
  ·
   left;obtain⟨_,b2,b3,_⟩:=h.inv.EZ i g4
   have k0:Sh AA a i=0:=by
    unfold Sh IL;rw[b2,b3];have hh:=h.head g4
    cases hl:a.R i with
    |nil=>rw[hl] at hh;cases hh
    |cons y r=>
     rw[hl] at hh;simp only[List.head?_cons,Option.some.injEq] at hh;rw[hh,List.idxOf_cons_self];rfl
   rw[k0];unfold Sh;split
   . omega
   ·
    rename_i hr
    have hr':(Ao AA).rd j=false:=by cases hq:(Ao AA).rd j with
     |false=>rfl
     |true=>exact absurd hq hr
    have hm:j∈a.R i:=(h.inv.rows i j).2 ⟨h.all j hj,hr',by rw[<-hpl,b3]⟩;unfold IL;rw[<-hpl,b3];have hh:=h.head g4
    cases hl:a.R i with
    |nil=>rw[hl] at hh;cases hh
    |cons y r=>
     rw[hl] at hh;simp only[List.head?_cons,Option.some.injEq] at hh;rw[List.idxOf_cons,hh,beq_eq_false_iff_ne.2 (show i≠j by omega)];exact Nat.mul_pos (by omega) (Nat.succ_pos _)
  ·
   have vU:=h.inv.gm i j (h.all i hi).1 (h.all j hj).1 g4 hlt g5 hpl
   have hL:(Cm AA a τ).L (Ao AA) ((Ao AA).ck i) ((Ao AA).pl i)=a.R ((Ao AA).pl i):=by
    unfold Ax.L;rw[h.none,List.filter_nil,List.append_nil];rfl
   rw[hL] at vU
   have gF:∀x,x<(AB AA).length->(Ao AA).pl ((Cm AA a τ).v (Ao AA) x)=(Ao AA).pl x:=by
    intro x hx';unfold Ax.v;split
    . rename_i hr;exact (hsrc hx' hr).2.2
    . rfl
   have hle:(Cm AA a τ).v (Ao AA) i=(Cm AA a τ).v (Ao AA) j\/IL AA a ((Cm AA a τ).v (Ao AA) i)<IL AA a ((Cm AA a τ).v (Ao AA) j):=
    vU.imp id (fun hB=>hpos (gF i hi) ((gF j hj).trans hpl.symm) hB)
   have hw:=h.inv.SK i j (h.all i hi).1 (h.all j hj).1 g4 hlt g5 hpl;unfold Ax.v at hle;unfold Sh
   cases ri:(Ao AA).rd i with
   |true=>
    rw[ri,if_pos rfl] at hle;rw[if_pos rfl]
    cases rj:(Ao AA).rd j with
    |true=>
     rw[rj,if_pos rfl] at hle;rw[if_pos rfl];rcases hle with e|e
     ·
      right;change a.F i=a.F j at e;rw[e];exact⟨rfl,hlt⟩
     ·
      left;change IL AA a (a.F i)<IL AA a (a.F j) at e;omega
    |false=>
     rw[rj,if_neg (by simp)] at hle;rw[if_neg (by simp)];rcases hle with e|e
     . exact absurd e (hw ri rj)
     ·
      left;change IL AA a (a.F i)<IL AA a j at e;omega
   |false=>
    rw[ri,if_neg (by simp)] at hle;rw[if_neg (by simp)]
    cases rj:(Ao AA).rd j with
    |true=>
     rw[rj,if_pos rfl] at hle;rw[if_pos rfl];rcases hle with e|e
     ·
      left;change i=a.F j at e;rw[<-e];omega
     ·
      left;change IL AA a i<IL AA a (a.F j) at e;omega
    |false=>
     rw[rj,if_neg (by simp)] at hle;rw[if_neg (by simp)];rcases hle with e|e
     . omega
     . left;omega
 ·
  obtain⟨q,hq1,hq2,hq3⟩:=(W.rH.fwl i j hi).1 g;obtain⟨r,hr,e1,e2,e3⟩:=h.rd hq1;have er:r=j:=by omega
  subst er;have ei:a.F r=i:=by omega
  have hs:=hsrc hr e3;rw[ei] at hs;left;unfold Sh;rw[e3,hs.2.1,if_pos rfl,if_neg (by simp),ei];omega
 ·
  obtain⟨p1,p2,p3⟩:=hrow hi g;left;unfold Sh;rw[p2,p3,if_neg (by simp),if_neg (by simp)];omega
 ·
  obtain⟨q,hq1,hq2,hq3⟩:=(W.rH.agl i j hi).1 g;obtain⟨r,hr,e1,e2,e3⟩:=h.rd hq1;have er:r=i:=by omega
  subst er;rw[e2,Int.toNat_natCast] at hq3;obtain⟨p1,p2,p3⟩:=hrow (hsrc hr e3).1 hq3;left;unfold Sh;rw[e3,p3,if_pos rfl,if_neg (by simp)];omega
theorem pO {AA:List (List Dd)}(hb:AO AA=true)(a:Ab)(τ τ':Nat->Nat){c:Nat}(hc:c<AA.length)(hk:a.nx c<(AA.getD c []).length)(h1:(Ak AA c (a.nx c)).1=1)(f j:Nat):(Cm AA (di AA a c f) τ').X j↔(Cm AA a τ).X j\/j=AY AA c (a.nx c):=
 MA hb a hc hk (by omega) (by omega) j
theorem pM {AA:List (List Dd)}(hb:AO AA=true)(a:Ab)(τ τ':Nat->Nat){c:Nat}(hc:c<AA.length)(hk:a.nx c<(AA.getD c []).length)(h2:(Ak AA c (a.nx c)).1=2)(j:Nat):(Cm AA (Sz AA a c) τ').X j↔(Cm AA a τ).X j\/j=AY AA c (a.nx c):=
 MA hb a hc hk (by omega) (by omega) j
theorem uJ {AA:List (List Dd)}(hb:AO AA=true)(a:Ab)(τ τ':Nat->Nat){c:Nat}(hc:c<AA.length)(hk:a.nx c<(AA.getD c []).length)(h2:(Ak AA c (a.nx c)).1=2)(p j:Nat):(Cm AA (qO AA a c p) τ').X j↔(Cm AA a τ).X j\/j=AY AA c (a.nx c):=
 MA hb a hc hk (by omega) (by omega) j
theorem pQ {AA:List (List Dd)}(hb:AO AA=true)(a:Ab)(τ τ':Nat->Nat){c:Nat}(hc:c<AA.length)(hk:a.nx c<(AA.getD c []).length)(h3:(Ak AA c (a.nx c)).1=3)(p j:Nat):(Cm AA (fO AA a c p) τ').X j↔((Cm AA a τ).X j\/j=AY AA c (a.nx c))\/j=AY AA c (a.nx c)+1:=
 ZC hb a hc hk h3 j
def vK (AA:List (List Dd))(f:List Int)(r:Nat):Nat:=(f.getD ((AV Ad (AB AA)).idxOf (r:Int)) 0).toNat
abbrev TS (AA:List (List Dd))(rows:List Int)(x y:Nat):Prop:=Aq (WP (AB AA) rows) x y=true
structure CI (AA:List (List Dd))(f rows:List Int)(Q:Int->Prop)(κ:Int)(b:Bd)(a:Ab)(τ:Nat->Nat)(T:Nat)(z:Int):Prop where
 mi:MI AA b a τ T z
 dq:∀j,j<(AB AA).length->((Cm AA a τ).D (Ao AA) j↔Q ((Ao AA).cs j)\/((Ao AA).cs j=κ/\(Cm AA a τ).X j))
 ro:∀p,(a.R p).Pairwise (TS AA rows)
 fo:∀r,(Cm AA a τ).X r->(Ao AA).rd r=true->a.F r=vK AA f r
def He (f:Nat->Nat):Nat->Nat
 | 0=>0
 |m+1=>He f m+f m
theorem Th {f g:Nat->Nat}:∀m:Nat,(∀c,c<m->f c=g c)->He f m=He g m
 | 0,_=>rfl
 |m+1,h=>by rw[He,He,Th m (fun c hc=>h c (by omega)),h m (by omega)]
theorem Od {f g:Nat->Nat}{c:Nat}(h1:f c+1<=g c)(h2:∀c',c'≠c->f c'=g c'):∀m:Nat,c<m->He f m+1<=He g m
 | 0,h=>by omega
 |m+1,h=>by
  rw[He,He];by_cases e:c=m
  ·
   subst e;rw[Th c (fun c' hc=>h2 c' (by omega))];omega
  ·
   have:=Od h1 h2 m (by omega);rw[h2 m (fun h=>e h.symm)];omega
def Pk (AA:List (List Dd))(b:Bd)(c:Nat):Nat:=2*((AA.getD c []).length-Ap b c)+(b.AG.getD c []).length
def Df (AA:List (List Dd))(b:Bd):Nat:=He (Pk AA b) AA.length
def LN (AA:List (List Dd))(b:Bd):Prop:=b.AK.length=AA.length/\b.AG.length=AA.length
theorem C1 {α:Type}(l:List α)(z x:α)(i j:Nat)(hi:i<l.length):(l.set i x).getD j z=if i=j then x else l.getD j z:=by
 rw[List.getD_eq_getElem?_getD,List.getElem?_set];by_cases e:i=j
 . subst e;rw[if_pos rfl,if_pos hi,if_pos rfl];rfl
 . rw[if_neg e,if_neg e,List.getD_eq_getElem?_getD]
theorem Zi (AA:List (List Dd))(es:List Ev)(b:Bd)(c k:Nat):(BH AA es b c k).AK=b.AK/\((BH AA es b c k).AG=b.AG\/∃x,(BH AA es b c k).AG=b.AG.set c (b.AG.getD c []++[x])):=by
 unfold BH;split
 . exact⟨rfl,.inl rfl⟩
 ·
  split
  . exact⟨rfl,.inl rfl⟩
  ·
   split
   . exact⟨rfl,.inl rfl⟩
   ·
    split
    . exact⟨rfl,.inr ⟨_,rfl⟩⟩
    . exact⟨rfl,.inl rfl⟩
theorem Us {AA:List (List Dd)}{es:List Ev}{b:Bd}(hL:LN AA b)(h0:∀c,0<=b.AK.getD c 0){c:Nat}(hc:c<AA.length):(∀c',Ap (Ai AA es b c) c'=if c=c' then Ap b c+1 else Ap b c')/\∀c',0<=(Ai AA es b c).AK.getD c' 0:=by
 have e:∀c',(Ai AA es b c).AK.getD c' 0=if c=c' then b.AK.getD c 0+1 else b.AK.getD c' 0:=fun c'=>by
  show (b.AK.set c (b.AK.getD c 0+1)).getD c' 0=_;rw[C1 _ _ _ _ _ (by rw[hL.1];exact hc)]
 constructor
 ·
  intro c';unfold Ap;rw[e];split
  . have:=h0 c;omega
  . rfl
 ·
  intro c';rw[e];split
  . have:=h0 c;omega
  . exact h0 c'
theorem Vx {AA:List (List Dd)}{es:List Ev}{b:Bd}(hL:LN AA b)(h0:∀c,0<=b.AK.getD c 0){c:Nat}(hc:c<AA.length)(hk:Ap b c<(AA.getD c []).length):Df AA (Ai AA es b c)+1<=Df AA b/\LN AA (Ai AA es b c)/\∀c',0<=(Ai AA es b c).AK.getD c' 0:=by
 obtain⟨hn,h0'⟩:=Us (es:=es) hL h0 hc;obtain⟨_,hd⟩:=Zi AA es b c (Ap b c)
 have aB:(∀c',c'≠c->(Ai AA es b c).AG.getD c' []=b.AG.getD c' [])/\((Ai AA es b c).AG.getD c []).length<=(b.AG.getD c []).length+1/\(Ai AA es b c).AG.length=b.AG.length:=by
  have e:(Ai AA es b c).AG=(BH AA es b c (Ap b c)).AG:=rfl;rw[e];rcases hd with hd|⟨x,hd⟩
  . rw[hd];exact⟨fun _ _=>rfl,by omega,rfl⟩
  ·
   rw[hd];refine⟨fun c' h=>?_,?_,by rw[List.length_set]⟩
   . rw[C1 _ _ _ _ _ (by rw[hL.2];exact hc),if_neg (fun h2=>h h2.symm)]
   . rw[C1 _ _ _ _ _ (by rw[hL.2];exact hc),if_pos rfl,List.length_append];simp
 refine⟨Od (c:=c) ?_ (fun c' h=>?_) _ hc,⟨?_,?_⟩,h0'⟩
 ·
  unfold Pk;rw[hn,if_pos rfl];have:=aB.2.1;omega
 ·
  unfold Pk;rw[hn,if_neg (fun h2=>h h2.symm),aB.1 c' h]
 ·
  show (b.AK.set c _).length=_;rw[List.length_set];exact hL.1
 . rw[aB.2.2];exact hL.2
theorem bB {AA:List (List Dd)}{es:List Ev}(g:Int){c:Nat}(hc:c<AA.length):∀(m:Nat) (b:Bd),LN AA b->(∀c,0<=b.AK.getD c 0)->1<=m->Ap b c<(AA.getD c []).length->(AA.getD c []).length<=Ap b c+m ->
  Df AA (Ea AA es g c m b)+1<=Df AA b/\LN AA (Ea AA es g c m b)/\∀c',0<=(Ea AA es g c m b).AK.getD c' 0
 | 0,_,_,_,h,_,_=>by omega
 |m+1,b,hL,h0,_,hk,hm=>by
  have h1:=Vx (es:=es) hL h0 hc hk;have hn:=(Us (es:=es) hL h0 hc).1 c;rw[if_pos rfl] at hn;rw[Ea];split
  . exact h1
  ·
   rename_i hs;have hs1:¬Ap (Ai AA es b c) c=(AA.getD c []).length:=fun h=>hs (.inr (.inl h))
   have h2:=bB (es:=es) g hc m (Ai AA es b c) h1.2.1 h1.2.2 (by omega) (by omega) (by omega);exact⟨by omega,h2.2⟩
theorem Xz {AA:List (List Dd)}{b:Bd}(hL:LN AA b)(h0:∀c,0<=b.AK.getD c 0){c:Nat}(hc:c<AA.length)(hne:b.AG.getD c []≠[]):Df AA (BA b c)+1<=Df AA b/\LN AA (BA b c)/\∀c',0<=(BA b c).AK.getD c' 0:=by
 unfold BA
 cases hq:b.AG.getD c [] with
 |nil=>exact absurd hq hne
 |cons x r=>
  have e:∀c',(b.AG.set c r).getD c' []=if c=c' then r else b.AG.getD c' []:=fun c'=>C1 _ _ _ _ _ (by rw[hL.2];exact hc)
  refine⟨Od (c:=c) ?_ (fun c' h=>?_) _ hc,⟨hL.1,?_⟩,h0⟩
  ·
   show 2*((AA.getD c []).length-Ap b c)+((b.AG.set c r).getD c []).length+1<=2*((AA.getD c []).length-Ap b c)+(b.AG.getD c []).length;rw[e,if_pos rfl,hq];simp only[List.length_cons];omega
  ·
   show 2*((AA.getD c' []).length-Ap b c')+((b.AG.set c r).getD c' []).length=2*((AA.getD c' []).length-Ap b c')+(b.AG.getD c' []).length;rw[e,if_neg (fun h2=>h h2.symm)]
  ·
   show (b.AG.set c r).length=_;rw[List.length_set];exact hL.2
theorem Hz {AA:List (List Dd)}(hb:AO AA=true){es:List Ev}{b:Bd}(hL:LN AA b)(h0:∀c,0<=b.AK.getD c 0){s:Int}(hs:Hf (Ah AA b) s=true):Df AA (Al AA es b s)+1<=Df AA b/\LN AA (Al AA es b s)/\∀c',0<=(Al AA es b s).AK.getD c' 0:=by
 have hl3:AA.length<=3:=by
  simp only[AO,Bool.and_eq_true,decide_eq_true_eq] at hb;exact hb.1.1.1.1.2
 have hm:=Ie hs;unfold Ah at hm;rw[List.mem_append,List.mem_map,List.mem_map] at hm;rcases hm with ⟨c,hc,e⟩|⟨c,hc,e⟩
 ·
  rw[List.mem_filter,List.mem_range] at hc;obtain⟨hc,hcan⟩:=hc;unfold BU at hcan;simp only[Bool.and_eq_true,decide_eq_true_eq] at hcan;unfold Al;rw[if_neg (by omega),show s.toNat=c by omega];exact bB _ hc _ b hL h0 (by omega) hcan.1 (by omega)
 ·
  rw[List.mem_filter,List.mem_range] at hc;obtain⟨hc,hne⟩:=hc;unfold Al;rw[if_pos (by omega),show (s-10).toNat=c by omega];refine Xz hL h0 hc (fun h=>?_);rw[h] at hne;simp at hne
theorem lZ (AA:List (List Dd)):He (fun c=>(AA.getD c []).length) AA.length=BF AA:=by
 have h:∀(l:List (List Dd)) (m:Nat),m<=l.length->He (fun c=>(l.getD c []).length) m=BF (l.take m):=by
  intro l m
  induction m with
  |zero=>intro _;simp[He,BF]
  |succ m ih=>
   intro hm;rw[He,ih (by omega),List.take_add_one,List.getElem?_eq_getElem (by omega),List.getD_eq_getElem?_getD,List.getElem?_eq_getElem (by omega)];simp only[Option.toList_some,Option.getD_some]
   have:∀(x:List (List Dd)) (d:List Dd),BF (x++[d])=BF x+d.length:=by
    intro x d
    induction x with
    |nil=>simp[BF]
    |cons y x ih=>rw[List.cons_append,BF,ih,BF];omega
   rw[this]
 have:=h AA AA.length (Nat.le_refl _);rw[List.take_length] at this;exact this
theorem Ke {AA:List (List Dd)}(hb:AO AA=true):Df AA (CM AA)<=24/\LN AA (CM AA)/\∀c',0<=(CM AA).AK.getD c' 0:=by
 have h12:BF AA<=12:=by
  simp only[AO,Bool.and_eq_true,decide_eq_true_eq] at hb;exact hb.1.1.2
 have h0:∀c',(CM AA).AK.getD c' 0=0:=fun c'=>by
  show (List.replicate AA.length (0:Int)).getD c' 0=0;rw[List.getD_eq_getElem?_getD,List.getElem?_replicate];split<;>rfl
 refine⟨?_,⟨by show (List.replicate _ _).length=_;simp,by show (List.replicate _ _).length=_;simp⟩,fun c'=>by rw[h0];omega⟩
 have e:∀m:Nat,He (Pk AA (CM AA)) m=2*He (fun c=>(AA.getD c []).length) m:=by
  intro m
  induction m with
  |zero=>rfl
  |succ m ih=>
   rw[He,He,ih]
   have:Pk AA (CM AA) m=2*(AA.getD m []).length:=by
    unfold Pk Ap;rw[h0]
    have:(CM AA).AG.getD m []=[]:=by
     show (List.replicate AA.length ([]:List Nt)).getD m []=[];rw[List.getD_eq_getElem?_getD,List.getElem?_replicate];split<;>rfl
    rw[this];simp
   rw[this];omega
 unfold Df;rw[e,lZ];omega
def Pb (AA:List (List Dd))(es:List Ev):List Int->Bd->Bool
 | [],_=>true
 |s::r,b=>Hf (Ah AA b) s&&Pb AA es r (Al AA es b s)
theorem Pf {AA:List (List Dd)}{es:List Ev}:∀(l:List Int) (b:Bd) (s:Int),Pb AA es l b=true->Hf (Ah AA (Jl AA es b l)) s=true->Pb AA es (l++[s]) b=true/\Jl AA es b (l++[s])=Al AA es (Jl AA es b l) s
 | [],b,s,_,h2=>by
  have h2':Hf (Ah AA b) s=true:=h2;refine⟨by show (Hf (Ah AA b) s&&true)=true;rw[h2'];rfl,?_⟩;show (if Hf (Ah AA b) s=true then Al AA es b s else b)=Al AA es b s;rw[if_pos h2']
 |x::l,b,s,h1,h2=>by
  rw[Pb,Bool.and_eq_true] at h1;rw[Jl,if_pos h1.1] at h2;obtain⟨e1,e2⟩:=Pf l (Al AA es b x) s h1.2 h2;rw[List.cons_append,Pb,Jl,h1.1,e1,if_pos rfl,e2,Jl,if_pos h1.1];exact⟨rfl,rfl⟩
structure pF (AA:List (List Dd))(p:Bd×List Int):Prop where
 goes:Pb AA (AB AA) p.2 (CM AA)=true
 run:Jl AA (AB AA) (CM AA) p.2=p.1
theorem pF.step {AA:List (List Dd)}{p:Bd×List Int}(h:pF AA p){s:Int}(hs:Hf (Ah AA p.1) s=true):pF AA (Al AA (AB AA) p.1 s,p.2++[s]):=by
 obtain⟨e1,e2⟩:=Pf p.2 (CM AA) s h.goes (by rw[h.run];exact hs);exact⟨e1,by rw[e2,h.run]⟩
theorem TC {AA:List (List Dd)}{b:Bd}{c:Nat}(hc:c<AA.length)(h:BU AA b c=true):Hf (Ah AA b) (c:Int)=true:=by
 refine Gi ?_;unfold Ah;exact List.mem_append_left _ (List.mem_map.2 ⟨c,List.mem_filter.2 ⟨List.mem_range.2 hc,h⟩,rfl⟩)
theorem Uy {AA:List (List Dd)}{b:Bd}{c:Nat}(hc:c<AA.length)(h:b.AG.getD c []≠[]):Hf (Ah AA b) (10+(c:Int))=true:=by
 refine Gi ?_;unfold Ah;refine List.mem_append_right _ (List.mem_map.2 ⟨c,List.mem_filter.2 ⟨List.mem_range.2 hc,?_⟩,rfl⟩)
 cases hq:b.AG.getD c [] with
 |nil=>exact absurd hq h
 |cons _ _=>rfl
theorem jH {AA:List (List Dd)}{b:Bd}{a:Ab}(R:Y8 AA b a){c:Nat}(hc:c<AA.length):BU AA b c=(decide (a.nx c<(AA.getD c []).length)&&((decide ((Ak AA c (a.nx c)).1<=2)&&decide (BS AA c (a.nx c)=0))||(a.N c).isEmpty)):=by
 unfold BU;rw[(D3 R hc).2,FL R hc]
 congr 2
 cases a.N c<;>rfl
theorem Cz {AA:List (List Dd)}(hb:AO AA=true):AA.length<=3:=by
 simp only[AO,Bool.and_eq_true,decide_eq_true_eq] at hb;exact hb.1.1.1.1.2
theorem QD {AA:List (List Dd)}(hb:AO AA=true){b:Bd}{c:Nat}(hc:c<AA.length)(hk:Ap b c<(AA.getD c []).length)(hg:BS AA c (Ap b c)=0):Al AA (AB AA) b (c:Int)=Ai AA (AB AA) b c:=by
 have:=Cz hb;unfold Al;rw[if_neg (by omega),Int.toNat_natCast,hg]
 cases hq:(AA.getD c []).length with
 |zero=>omega
 |succ m=>rw[Ea,if_pos (.inl rfl)]
def BE (AA:List (List Dd))(es:List Ev)(b:Bd)(c:Nat):Bd:=
 if ((Al AA es b (c:Int)).AG.getD c []).isEmpty=true then Al AA es b (c:Int) else Al AA es (Al AA es b (c:Int)) (10+(c:Int))
def iW (AA:List (List Dd))(a:Ab)(τ:Nat->Nat):Prop:=∀i j,(Cm AA a τ).D (Ao AA) i->(Cm AA a τ).D (Ao AA) j->3<=i->i<j->(Ao AA).ck i=(Ao AA).ck j->(Ao AA).cs i≠(Ao AA).cs j->τ i<τ j
structure QI (AA:List (List Dd))(b:Bd)(a:Ab)(τ:Nat->Nat)(T:Nat)(z:Int):Prop where
 mi:MI AA b a τ T z
 bd:BD AA a
 no:∀c,a.N c=[]
 mono:iW AA a τ
theorem Su {AA:List (List Dd)}{a a':Ab}{τ τ':Nat->Nat}{T:Nat}{z0 z:Int}(I:Fk (Ao AA) (Cm AA a τ) T z0)(hm:iW AA a τ)(hD:∀j,3<=j->(Cm AA a' τ').D (Ao AA) j->(Cm AA a τ).D (Ao AA) j\/((Ao AA).cs j=z/\¬(Cm AA a τ).X j/\T<τ' j))
  (hτ:∀i,(Cm AA a τ).D (Ao AA) i->τ' i=τ i):iW AA a' τ':=by
 intro i j hi hj h3 hij hck hcs;rcases hD i h3 hi with oi|⟨ci,ni,ti⟩
 ·
  rcases hD j (by omega) hj with oj|⟨cj,nj,tj⟩
  ·
   rw[hτ i oi,hτ j oj];exact hm i j oi oj h3 hij hck hcs
  ·
   have:=I.PG i oi;rw[hτ i oi];change τ i<=T at this;omega
 ·
  rcases hD j (by omega) hj with oj|⟨cj,nj,tj⟩
  . exact absurd (I.down i j oj.1 h3 hij hck) ni
  . exact absurd (ci.trans cj.symm) hcs
theorem YH {AA:List (List Dd)}(hb:AO AA=true){b:Bd}{a:Ab}{τ:Nat->Nat}{T:Nat}{z:Int}(M:MI AA b a τ T z)(hT:1<=T){c:Nat}(hc:c<AA.length)(hk:a.nx c<(AA.getD c []).length)
  (hz:C3 AA c (a.nx c)=z) (h4:(Ak AA c (a.nx c)).1≠4) (h2:(Ak AA c (a.nx c)).1=2->BS AA c (a.nx c)≠0) (hN:a.N c=[]):
  ∃a' τ',MI AA (Ai AA (AB AA) b c) a' τ' T z/\a'.nx=(BP a c).nx/\a'.N=a.N/\(∀i,(Cm AA a τ).X i->τ' i=τ i)/\∀j,(Cm AA a' τ').X j->(Cm AA a τ).X j\/(Ao AA).cs j=z:=by
 have E:=Cj hc hk h4;have hnew:=(Ew hb a τ hc hk h4).new;have s4:=(DM hb E).2.2.2;rcases CQ (B8 hb hc _ hk) with h|h|h|h
 ·
  obtain⟨f,_,M'⟩:=MP hb M hT hc hk h hz (.inr hN);refine⟨_,_,M',rfl,rfl,fun i hi=>?_,fun j hj=>?_⟩
  ·
   show (if i=AY AA c (a.nx c) then T else τ i)=τ i;rw[if_neg (fun e=>hnew (by rw[<-e];exact hi))]
  ·
   rcases (pO hb a τ _ hc hk h f j).1 hj with hj|hj
   . exact .inl hj
   . exact .inr (by rw[hj,s4,hz])
 ·
  have M':=N2 hb M hT hc hk h (h2 h) hz hN;refine⟨_,_,M',rfl,rfl,fun i hi=>?_,fun j hj=>?_⟩
  ·
   show (if i=AY AA c (a.nx c) then T else τ i)=τ i;rw[if_neg (fun e=>hnew (by rw[<-e];exact hi))]
  ·
   rcases (uJ hb a τ _ hc hk h _ j).1 hj with hj|hj
   . exact .inl hj
   . exact .inr (by rw[hj,s4,hz])
 ·
  have M':=MQ hb M hT hc hk h hz hN;have E2:=Ib hc hk h;have r4:=(DM hb E2).2.2.2;refine⟨_,_,M',rfl,rfl,fun i hi=>?_,fun j hj=>?_⟩
  ·
   show (if i=AY AA c (a.nx c)+1 then T else if i=AY AA c (a.nx c) then T else τ i)=τ i;rw[if_neg (fun e=>?_),if_neg (fun e=>hnew (by rw[<-e];exact hi))];have:=hi.2;rw[e,KN hb E2,decide_eq_true_eq] at this;omega
  ·
   rcases (pQ hb a τ _ hc hk h _ j).1 hj with (hj|hj)|hj
   . exact .inl hj
   . exact .inr (by rw[hj,s4,hz])
   . exact .inr (by rw[hj,r4,hz])
 . exact absurd h h4
theorem SZ {AA:List (List Dd)}(hb:AO AA=true){c:Nat}(hc:c<AA.length)(g:Int){T:Nat}(hT:1<=T){z:Int}:∀(m:Nat) (b:Bd) (a:Ab) (τ:Nat->Nat),MI AA b a τ T z->a.nx c<(AA.getD c []).length->(AA.getD c []).length<=a.nx c+m->BS AA c (a.nx c)=g ->
  C3 AA c (a.nx c)=z->(Ak AA c (a.nx c)).1≠4->((Ak AA c (a.nx c)).1=2->BS AA c (a.nx c)≠0)->a.N c=[] ->
  ∃a' τ',MI AA (Ea AA (AB AA) g c m b) a' τ' T z/\a.nx c<a'.nx c/\(∀c',c'≠c->a'.nx c'=a.nx c')/\a'.N=a.N/\(∀i,(Cm AA a τ).X i->τ' i=τ i)/\(∀j,(Cm AA a' τ').X j->(Cm AA a τ).X j\/(Ao AA).cs j=z)/\(a'.nx c<(AA.getD c []).length->BS AA c (a'.nx c)≠0->BS AA c (a'.nx c-1)≠BS AA c (a'.nx c))
 | 0,b,a,τ,M,hk,hm,_,_,_,_,_=>by omega
 |m+1,b,a,τ,M,hk,hm,hg,hz,h4,h2,hN=>by
  obtain⟨a1,τ1,M1,e1,e2,e3,e4⟩:=YH hb M hT hc hk hz h4 h2 hN;have hn1:a1.nx c=a.nx c+1:=by rw[e1,C5,if_pos rfl]
  have ho1:∀c',c'≠c->a1.nx c'=a.nx c':=fun c' h=>by rw[e1,C5,if_neg h]
  have hX1:∀j,(Cm AA a τ).X j->(Cm AA a1 τ1).X j:=by
   intro j hj;refine⟨hj.1,?_⟩;have:=hj.2;unfold EL at this ⊢;rw[e1];simp only[Bool.or_eq_true,decide_eq_true_eq] at this ⊢;rcases this with h|h
   . exact .inl h
   ·
    refine .inr ?_;rw[C5];split
    . rename_i e;rw[e] at h;omega
    . exact h
  rw[Ea,(D3 M1.Bt hc).2,hn1];by_cases hs:g=0\/a.nx c+1=(AA.getD c []).length\/BS AA c (a.nx c+1)≠g
  ·
   rw[if_pos hs];refine⟨a1,τ1,M1,by omega,ho1,e2,e3,e4,?_⟩;rw[hn1];intro hl hg0;rw[show a.nx c+1-1=a.nx c by omega,hg];rcases hs with hs|hs|hs
   . rw[hs];exact fun e=>hg0 e.symm
   . omega
   . exact fun e=>hs e.symm
  ·
   rw[if_neg hs];have hs0:¬g=0:=fun h=>hs (.inl h)
   have hs1:¬a.nx c+1=(AA.getD c []).length:=fun h=>hs (.inr (.inl h))
   have hs2:BS AA c (a.nx c+1)=g:=Classical.byContradiction (fun h=>hs (.inr (.inr h)));have hl:=M1.WB c hc;have hk1:a.nx c+1<(AA.getD c []).length:=by omega
   have hok:=B8 hb hc;have n2:=En hok hk1 (by rw[hs2];exact hs0);have hcl:C3 AA c (a.nx c+1)=C3 AA c (a.nx c):=(Ia hok hok hk1 hk n2.1 h4).2 ⟨rfl,.inr ⟨by rw[hs2];exact hs0,by rw[hs2,hg]⟩⟩;obtain⟨a',τ',M',q1,q2,q3,q4,q5,q6⟩:=SZ hb hc g hT m (Ai AA (AB AA) b c) a1 τ1 M1 (by omega) (by omega) (by rw[hn1];exact hs2) (by rw[hn1,hcl];exact hz) (by rw[hn1];exact n2.1) (by rw[hn1,hs2];exact fun _=>hs0) (by rw[e2];exact hN);refine⟨a',τ',M',by omega,fun c' h=>by rw[q2 c' h,ho1 c' h],by rw[q3,e2],fun i hi=>by rw[q4 i (hX1 i hi),e3 i hi],fun j hj=>?_,q6⟩;rcases q5 j hj with h|h
   . exact e4 j h
   . exact .inr h
theorem sO {AA:List (List Dd)}{a:Ab}(τ:Nat->Nat)(h:∀c,a.N c=[])(j:Nat):(Cm AA a τ).D (Ao AA) j↔(Cm AA a τ).X j:=by
 have:∀c,(Cm AA a τ).N c=[]:=fun c=>by
  show (if 0<=c then a.N c.toNat else [])=[];split
  . exact h _
  . rfl
 unfold Ax.D;rw[this];simp
theorem YL {AA:List (List Dd)}(hb:AO AA=true){b:Bd}{a:Ab}{τ:Nat->Nat}{T:Nat}{z:Int}(Q:QI AA b a τ T z){c:Nat}(hc:c<AA.length)(hcan:BU AA b c=true):
  ∃a' τ' T' z',QI AA (BE AA (AB AA) b c) a' τ' T' z':=by
 have M:=Q.mi;have hl3:=Cz hb;have hn:=(D3 M.Bt hc).2
 have hk:a.nx c<(AA.getD c []).length:=by
  rw[jH M.Bt hc] at hcan;simp only[Bool.and_eq_true,decide_eq_true_eq] at hcan;exact hcan.1
 have hok:=B8 hb hc;by_cases h4:(Ak AA c (a.nx c)).1=4
 ·
  have hg0:BS AA c (a.nx c)=0:=by
   apply Classical.byContradiction;intro hg;exact (En hok hk hg).1 h4
  have hst:=QD hb hc (b:=b) (by rw[hn];exact hk) (by rw[hn];exact hg0);have M':=Py hb M hc hk h4 (Q.no c)
  have hq:BE AA (AB AA) b c=Ai AA (AB AA) b c:=by
   unfold BE;rw[hst,if_pos];rw[FL M'.Bt hc];show ((a.N c).map _).isEmpty=true;rw[Q.no c];rfl
  rw[hq];refine⟨_,τ,T,z,M',fun c' hc' h0 hl hg=>?_,Q.no,?_⟩
  ·
   by_cases e:c'=c
   ·
    subst e;rw[C5,if_pos rfl] at hl hg ⊢;rw[show a.nx c'+1-1=a.nx c' by omega,hg0];exact fun h=>hg h.symm
   ·
    rw[C5,if_neg e] at h0 hl hg ⊢;exact Q.bd c' hc' h0 hl hg
  ·
   unfold iW;rw[WS hb a τ hc hk h4];exact Q.mono
 ·
  have E:=Cj hc hk h4;have s:=DM hb E;by_cases hpl:(Ak AA c (a.nx c)).1=2/\BS AA c (a.nx c)=0
  ·
   have hst:=QD hb hc (b:=b) (by rw[hn];exact hk) (by rw[hn];exact hpl.2);have M':=Px hb M hc hk hpl.1 hpl.2
   have hN':(Sz AA a c).N c=AY AA c (a.nx c)::[]:=by
    show (if c=c then a.N c++[AY AA c (a.nx c)] else a.N c)=_;rw[if_pos rfl,Q.no c];rfl
   have M2:=ME hb M' hc hN'
   have hq:BE AA (AB AA) b c=BA (Ai AA (AB AA) b c) c:=by
    unfold BE;rw[hst,if_neg]
    ·
     unfold Al;rw[if_pos (by omega),show (10+(c:Int)-10).toNat=c by omega]
    ·
     rw[FL M'.Bt hc,hN'];simp
   rw[hq]
   have hno:∀c',(Qf (Sz AA a c) c ((Ao AA).pl (AY AA c (a.nx c))) (AY AA c (a.nx c)) []).N c'=[]:=by
    intro c';show (if c'=c then [] else (if c'=c then a.N c'++[AY AA c (a.nx c)] else a.N c'))=[];split
    . rfl
    . exact Q.no c'
   have hX:∀j,(Cm AA (Qf (Sz AA a c) c ((Ao AA).pl (AY AA c (a.nx c))) (AY AA c (a.nx c)) []) (fun i=>if i=AY AA c (a.nx c) then T+1 else τ i)).X j↔(Cm AA a τ).X j\/j=AY AA c (a.nx c):=fun j=>pM hb a τ τ hc hk hpl.1 j
   have hnew:=(Ew hb a τ hc hk h4).new;refine⟨_,_,_,_,M2,fun c' hc' h0 hl hg=>?_,hno,?_⟩
   ·
    change 0<(BP a c).nx c' at h0;change (BP a c).nx c'<_ at hl;change BS AA c' ((BP a c).nx c')≠0 at hg;show BS AA c' ((BP a c).nx c'-1)≠BS AA c' ((BP a c).nx c');by_cases e:c'=c
    ·
     subst e;rw[C5,if_pos rfl] at hl hg ⊢;rw[show a.nx c'+1-1=a.nx c' by omega,hpl.2];exact fun h=>hg h.symm
    ·
     rw[C5,if_neg e] at h0 hl hg ⊢;exact Q.bd c' hc' h0 hl hg
   ·
    refine Su M.inv Q.mono (z:=C3 AA c (a.nx c)) (fun j h3 hj=>?_) (fun i hi=>?_)
    ·
     rcases (hX j).1 hj.1 with h|h
     . exact .inl ((sO τ Q.no j).2 h)
     ·
      refine .inr ⟨by rw[h];exact s.2.2.2,by rw[h];exact hnew,?_⟩;show T<if j=AY AA c (a.nx c) then T+1 else τ j
      rw[if_pos h];omega
    ·
     show (if i=AY AA c (a.nx c) then T+1 else τ i)=τ i;rw[if_neg (fun e=>hnew (by rw[<-e];exact hi.1))]
  ·
   have h2:(Ak AA c (a.nx c)).1=2->BS AA c (a.nx c)≠0:=fun h h'=>hpl ⟨h,h'⟩
   have M1:MI AA b a τ (T+1) (C3 AA c (a.nx c)):=by
    refine⟨M.Bt,M.inv.tick _ (fun i hi h3 e=>?_),M.WB,M.nt⟩;obtain⟨c',k',i',E',hX,e1,e2⟩:=Zh hb hi h3;rw[e1] at e;obtain⟨rfl,hq⟩:=(Ia (B8 hb E'.hc) hok E'.hk hk E'.kind h4).1 e;rcases hq with hq|⟨g1,g2⟩
    . omega
    ·
     have h0:BS AA c' (a.nx c')≠0:=by rw[<-g2];exact g1
     refine Q.bd c' hc (by omega) hk h0 ?_;exact MF hb hc (j:=k') (k:=a.nx c'-1) (l:=a.nx c') (by omega) (by omega) hk h0 g2
   have hst:Al AA (AB AA) b (c:Int)=Ea AA (AB AA) (BS AA c (a.nx c)) c (AA.getD c []).length b:=by
    unfold Al;rw[if_neg (by omega),Int.toNat_natCast,hn]
   obtain⟨a',τ',M',q1,q2,q3,q4,q5,q6⟩:=SZ hb hc (BS AA c (a.nx c)) (T:=T+1) (by omega) (AA.getD c []).length b a τ M1 hk (by omega) rfl rfl h4 h2 (Q.no c);have hno:∀c',a'.N c'=[]:=fun c'=>by rw[q3];exact Q.no c'
   have hq:BE AA (AB AA) b c=Ea AA (AB AA) (BS AA c (a.nx c)) c (AA.getD c []).length b:=by
    unfold BE;rw[hst,if_pos];rw[FL M'.Bt hc,hno c];rfl
   rw[hq];refine⟨a',τ',T+1,_,M',fun c' hc' h0 hl hg=>?_,hno,?_⟩
   ·
    by_cases e:c'=c
    . subst e;exact q6 hl hg
    ·
     rw[q2 c' e] at h0 hl hg ⊢;exact Q.bd c' hc' h0 hl hg
   ·
    refine Su M.inv Q.mono (z:=C3 AA c (a.nx c)) (fun j h3 hj=>?_) (fun i hi=>q4 i hi.1);by_cases hXj:(Cm AA a τ).X j
    . exact .inl ((sO τ Q.no j).2 hXj)
    ·
     have hcs:=(q5 j hj.1).resolve_left hXj;refine .inr ⟨hcs,hXj,?_⟩;have:=(M'.inv.now j hj h3).2 hcs;change τ' j=T+1 at this;omega
def Bx:List Int->List Int->Bool
 |x::a,y::b=>if x≠y then decide (x<y) else Bx a b
 |a,b=>decide (a.length<b.length)
theorem EB (x y:Int)(a b:List Int):Bx (x::a) (y::b)=if x≠y then decide (x<y) else Bx a b:=by rw[Bx]
theorem Kd (b:List Int):Bx [] b=decide (0<b.length):=by
 unfold Bx;rfl
theorem Ff (a:List Int):Bx a []=false:=by
 cases a with
 |nil=>rfl
 |cons x a=>unfold Bx;simp
theorem EP:∀a:List Int,Bx a a=false
 | []=>rfl
 |x::a=>by rw[EB,if_neg (by simp)];exact EP a
theorem FK:∀a b c:List Int,Bx a b=true->Bx b c=true->Bx a c=true
 | [],b,[],_,h2=>by rw[Ff] at h2;cases h2
 | [],b,y::c,_,_=>by rw[Kd];simp
 |x::a,[],c,h1,_=>by rw[Ff] at h1;cases h1
 |x::a,y::b,[],_,h2=>by rw[Ff] at h2;cases h2
 |x::a,y::b,z::c,h1,h2=>by
  rw[EB] at h1 h2 ⊢;by_cases e1:x=y
  ·
   subst e1;rw[if_neg (by simp)] at h1;by_cases e2:x=z
   ·
    subst e2;rw[if_neg (by simp)] at h2 ⊢;exact FK a b c h1 h2
   . rw[if_pos e2] at h2 ⊢;exact h2
  ·
   rw[if_pos e1,decide_eq_true_eq] at h1;by_cases e2:y=z
   ·
    subst e2;rw[if_pos e1,decide_eq_true_eq];exact h1
   ·
    rw[if_pos e2,decide_eq_true_eq] at h2;rw[if_pos (by omega),decide_eq_true_eq];omega
theorem Gg:∀a b:List Int,a=b\/Bx a b=true\/Bx b a=true
 | [],[] => .inl rfl
 | [],y::b => .inr (.inl (by rw[Kd];simp))
 |x::a,[] => .inr (.inr (by rw[Kd];simp))
 |x::a,y::b=>by
  rw[EB,EB];by_cases e:x=y
  ·
   subst e;rw[if_neg (by simp),if_neg (by simp)];rcases Gg a b with h|h
   . exact .inl (by rw[h])
   . exact .inr h
  ·
   rw[if_pos e,if_pos (fun h=>e h.symm),decide_eq_true_eq,decide_eq_true_eq];right;omega
theorem Xw {a b:List Int}(h1:Bx a b=true)(h2:Bx b a=true):False:=by
 have:=FK a b a h1 h2;rw[EP] at this;cases this
abbrev PH (l:List (List Int)):Prop:=l.Pairwise (fun a b=>Bx a b=true)
theorem Ir {l:List (List Int)}(h:PH l):l.Nodup:=h.imp (fun {a b} hab e=>by rw[e,EP] at hab;cases hab)
theorem kM {a b:List (List Int)}(ha:PH a)(hb:PH b)(h:∀x,x∈a↔x∈b):a=b:=by
 refine List.Perm.eq_of_pairwise (le:=fun a b=>Bx a b=true) (fun x y _ _ h1 h2=>(Xw h1 h2).elim) ha hb ?_;exact (List.perm_ext_iff_of_nodup (Ir ha) (Ir hb)).2 h
def DF (l:List (List Int))(x:List Int):Nat:=l.countP (fun a=>Bx a x)
theorem RI (l:List (List Int))(x:List Int):DF l x<=l.length:=List.countP_le_length
theorem FP:∀ {l:List (List Int)},PH l->∀(x:List Int) (i:Nat) (hi:i<l.length),Bx l[i] x=decide (i<DF l x)
 | [],_,x,i,hi=>by simp at hi
 |y::l,h,x,i,hi=>by
  rw[PH,List.pairwise_cons] at h;unfold DF;rw[List.countP_cons];by_cases hy:Bx y x=true
  ·
   rw[if_pos hy]
   cases i with
   |zero=>simp[hy]
   |succ i=>
    have:=FP h.2 x i (by simp at hi;omega);unfold DF at this;simp only[List.getElem_cons_succ];rw[this];simp
  ·
   rw[if_neg hy]
   have h0:l.countP (fun a=>Bx a x)=0:=by
    rw[List.countP_eq_zero];intro a ha hax;exact hy (FK _ _ _ (h.1 a ha) hax)
   rw[h0]
   cases i with
   |zero=>simp[hy]
   |succ i=>
    have:=FP h.2 x i (by simp at hi;omega);unfold DF at this;rw[h0] at this;simp only[List.getElem_cons_succ];rw[this];simp
theorem dY {l:List (List Int)}(h:PH l)(x:List Int):x∈l↔DF l x<l.length/\l.getD (DF l x) []=x:=by
 constructor
 ·
  intro hx;obtain⟨i,hi,e⟩:=List.getElem_of_mem hx;have h1:=FP h x i hi;rw[e,EP] at h1;have h2:¬i<DF l x:=of_decide_eq_false h1.symm;have hr:DF l x<l.length:=by omega
  refine⟨hr,?_⟩;have h3:=FP h x _ hr;rw[decide_eq_false (by omega)] at h3;rw[List.getD_eq_getElem?_getD,List.getElem?_eq_getElem hr,Option.getD_some];by_cases e2:DF l x=i
  . simp only[e2];exact e
  ·
   exfalso;have:=List.pairwise_iff_getElem.1 h _ _ hr hi (by omega);rw[e] at this;rw[this] at h3;cases h3
 ·
  rintro⟨h1,h2⟩;rw[List.getD_eq_getElem?_getD,List.getElem?_eq_getElem h1,Option.getD_some] at h2;rw[<-h2];exact List.getElem_mem h1
def Qp (l:List (List Int))(x:List Int):Bool:=decide (DF l x<l.length)&&(l.getD (DF l x) []==x)
def EE (l:List (List Int))(x:List Int):List (List Int):=if Qp l x=true then l else l.take (DF l x)++x::l.drop (DF l x)
theorem Qq {l:List (List Int)}(h:PH l)(x:List Int):Qp l x=true↔x∈l:=by
 rw[dY h];unfold Qp;simp only[Bool.and_eq_true,decide_eq_true_eq,beq_iff_eq]
theorem WL (l:List (List Int))(h:PH l)(x y:List Int):y∈EE l x↔y∈l\/y=x:=by
 unfold EE;split
 ·
  rename_i hx;constructor
  . exact fun h => .inl h
  ·
   rintro (h|rfl)
   . exact h
   . exact (Qq h _).1 hx
 ·
  rw[List.mem_append,List.mem_cons]
  have:y∈l↔y∈l.take (DF l x)\/y∈l.drop (DF l x):=by
   rw[<-List.mem_append,List.take_append_drop]
  rw[this];constructor
  ·
   rintro (h|h|h)
   . exact .inl (.inl h)
   . exact .inr h
   . exact .inl (.inr h)
  ·
   rintro ((h|h)|h)
   . exact .inl h
   . exact .inr (.inr h)
   . exact .inr (.inl h)
theorem Q9 {l:List (List Int)}(h:PH l)(x:List Int):PH (EE l x):=by
 unfold EE;split
 . exact h
 ·
  rename_i hx;have hnot:x∉l:=fun hm=>hx ((Qq h x).2 hm)
  have h':=h;rw[<-List.take_append_drop (DF l x) l,PH,List.pairwise_append] at h'
  have ht:∀a,a∈l.take (DF l x)->Bx a x=true:=by
   intro a ha;obtain⟨i,hi,e⟩:=List.getElem_of_mem ha;rw[List.length_take] at hi;rw[List.getElem_take] at e;rw[<-e,FP h x i (by omega)];simp;omega
  have hd:∀a,a∈l.drop (DF l x)->Bx x a=true:=by
   intro a ha;have hal:a∈l:=List.mem_of_mem_drop ha;obtain⟨i,hi,e⟩:=List.getElem_of_mem ha;rw[List.length_drop] at hi;rw[List.getElem_drop] at e;have:=FP h x (DF l x+i) (by omega);rw[e,decide_eq_false (by omega)] at this;rcases Gg x a with g|g|g
   . exact absurd (by rw[g];exact hal) hnot
   . exact g
   . rw[g] at this;cases this
  rw[PH,List.pairwise_append,List.pairwise_cons];refine⟨h'.1,⟨hd,h'.2.1⟩,fun a ha b hb=>?_⟩;rcases List.mem_cons.1 hb with rfl|hb
  . exact ht a ha
  . exact h'.2.2 a ha b hb
end Go.Proofs.YtnmelakgmgenjaaGreat
