/- Gathered texts. -/
import Derived.Test.YtkmjmnljkidobaaGreatMD
set_option maxRecDepth 100000
set_option maxHeartbeats 8000000
namespace Go.Proofs.YtkmjmnljkidobaaGreat
open Go.RowKit
def rdI (d:Dd)(i:Nat):Bool:=decide (d.1≠2)&&decide (i=0)
def vlI (d:Dd)(i:Nat):Int:=if rdI d i=true then 0 else d.2.2.1
theorem oneE_at {c k:Nat}{d:Dd}{z:Int}(hd:d.1=1∨d.1=2∨d.1=3∨d.1=4){i:Nat}(hi:i<numD d):(oneE c k d z)[i]? = some ((c:Int),(k:Int),rdI d i,d.2.1,vlI d i,z):=by
 unfold numD at hi;unfold oneE vlI rdI;rcases hd with h|h|h|h
 ·
  rw[if_neg (by omega),if_neg (by omega)] at hi;rw[if_neg (by omega),if_neg (by omega),if_neg (by omega)];obtain rfl:i=0:=by omega
  simp[h]
 ·
  rw[if_neg (by omega),if_neg (by omega)] at hi;rw[if_neg (by omega),if_neg (by omega),if_pos h];obtain rfl:i=0:=by omega
  simp[h]
 ·
  rw[if_neg (by omega),if_pos h] at hi;rw[if_neg (by omega),if_pos h];rcases (by omega:i=0∨i=1) with rfl|rfl
  · simp[h]
  · simp
 ·
  rw[if_pos h] at hi;omega
structure EvIs (dss:List (List Dd))(j c k i:Nat):Prop where
 hc:c<dss.length
 hk:k<(dss.getD c []).length
 hi:i<numD (dAt dss c k)
 hj:j=offN dss c k+i
theorem EvIs.kind {dss:List (List Dd)}{j c k i:Nat}(h:EvIs dss j c k i):(dAt dss c k).1≠4:=by
 intro e;have:=h.hi;unfold numD at this;rw[if_pos e] at this;omega
theorem ev_dec {dss:List (List Dd)}(hb:workB dss=true){j:Nat}(h3:3≤j)(hj:j<(eventsB dss).length):∃c k i,EvIs dss j c k i:=by
 rw[eventsB,if_pos hb] at hj;obtain⟨c,k,i,h1,h2,h4,h5⟩:=es_dec dss h3 dss.length hj;exact⟨c,k,i,h1,h2,h4,h5⟩
theorem EvIs.at {dss:List (List Dd)}(hb:workB dss=true){j c k i:Nat}(h:EvIs dss j c k i):(eventsB dss).getD j zE=((c:Int),(k:Int),rdI (dAt dss c k) i,(dAt dss c k).2.1,vlI (dAt dss c k) i,clsD dss c k):=by
 have hd:=okD_kindE (okC_of hb h.hc k h.hk);rw[eventsB,if_pos hb,List.getD_eq_getElem?_getD,h.hj,es_at h.hc h.hk (oneE_at hd h.hi)];rfl
theorem EvIs.lt {dss:List (List Dd)}(hb:workB dss=true){j c k i:Nat}(h:EvIs dss j c k i):3≤j∧j<(eventsB dss).length:=by
 have hd:=okD_kindE (okC_of hb h.hc k h.hk);have h1:=es_at (n:=dss.length) h.hc h.hk (oneE_at (z:=clsD dss c k) (c:=c) (k:=k) hd h.hi);have h2:=off_three dss c k;rw[eventsB,if_pos hb,h.hj];exact⟨by omega,(List.getElem?_eq_some_iff.1 h1).1⟩
theorem EvIs.ord {dss:List (List Dd)}{j c k i j' c' k' i':Nat}(h:EvIs dss j c k i)(h':EvIs dss j' c' k' i'):j<j'↔c<c'∨(c=c'∧(k<k'∨(k=k'∧i<i'))):=by
 have e1:=h.hj;have e2:=h'.hj;have l1:=h.hi;have l2:=h'.hi;constructor
 ·
  intro hlt;by_cases a:c<c'
  · exact .inl a
  by_cases b:c'<c
  · have:=off_lt (k':=k) h'.hk (.inl b);omega
  obtain rfl:c=c':=by omega
  refine .inr ⟨rfl,?_⟩;by_cases a:k<k'
  · exact .inl a
  by_cases b:k'<k
  · have:=off_lt (c':=c) (k':=k) h'.hk (.inr ⟨rfl,b⟩);omega
  obtain rfl:k=k':=by omega
  exact .inr ⟨rfl,by omega⟩
 ·
  rintro (a|⟨rfl,a|⟨rfl,a⟩⟩)
  · have:=off_lt (k':=k') h.hk (.inl a);omega
  · have:=off_lt (c':=c) (k':=k') h.hk (.inr ⟨rfl,a⟩);omega
  · omega
theorem EvIs.one {dss:List (List Dd)}{j c k i c' k' i':Nat}(h:EvIs dss j c k i)(h':EvIs dss j c' k' i'):c=c'∧k=k'∧i=i':=by
 have a:=h.ord h';have b:=h'.ord h;by_cases hc:c=c'
 ·
  subst hc;by_cases hk:k=k'
  ·
   subst hk;exact⟨rfl,rfl,by have:=h.hj;have:=h'.hj;omega⟩
  ·
   by_cases hlt:k<k'
   · have:=a.2 (.inr ⟨rfl,.inl hlt⟩);omega
   · have:=b.2 (.inr ⟨rfl,.inl (by omega)⟩);omega
 ·
  by_cases hlt:c<c'
  · have:=a.2 (.inl hlt);omega
  · have:=b.2 (.inl (by omega));omega
theorem tog_between {ds:List Dd}(ht:Tog ds){j k:Nat}(hk:k<ds.length)(hg:(ds.getD k zD).2.2.2≠0)(e:(ds.getD j zD).2.2.2=(ds.getD k zD).2.2.2):∀m:Nat,j+m<k→(ds.getD (k-1-m) zD).2.2.2=(ds.getD k zD).2.2.2
 | 0,h=>ht k j hk (by omega) hg e
 |m+1,h=>by
  have ih:=tog_between ht hk hg e m (by omega);have h2:=ht (k-1-m) j (by omega) (by omega) (by rw[ih];exact hg) (by rw[ih];exact e);rw[show k-1-(m+1)=k-1-m-1 by omega,h2,ih]
theorem grp_between {dss:List (List Dd)}(hb:workB dss=true){c j k l:Nat}(hc:c<dss.length)(h1:j≤k)(h2:k≤l)(hl:l<(dss.getD c []).length)(hg:gAt dss c l≠0)(e:gAt dss c j=gAt dss c l):gAt dss c k=gAt dss c l:=by
 by_cases a:k=l
 · rw[a]
 by_cases b:k=j
 · rw[b];exact e
 have:=tog_between (work_tog hb c hc) hl hg e (l-1-k) (by omega);rw[show l-1-(l-1-k)=k by omega] at this;exact this
abbrev Nt:=Int×Int×Int
structure Bd where
 plc:List Int
 lst:List Int
 nts:List (List Nt)
 nxt:List Int
 sn:List Int
 fr:List Int
 rws:List (List Int)
def newM (dss:List (List Dd)):Bd:=
 { plc:=[0,0,0],lst:=[0,1,2],nts:=List.replicate dss.length [],nxt:=List.replicate dss.length 0,sn:=List.replicate (idxB rdE (eventsB dss)).length (-1),fr:=List.replicate (idxB rdE (eventsB dss)).length (-1),rws:=[[0],[1],[2]] }
def rdgM (b:Bd)(c p:Nat):Int×Int:=
 match (b.nts.getD c []).reverse.find? (fun x=>x.1==(p:Int)) with
 |some x=>x.2
 |none=>(b.plc.getD p 0,b.lst.getD p 0)
def setR (rs:List Int)(ev v:Int)(l:List Int):List Int:=List.zipWith (fun r x=>if r=ev then v else x) rs l
def seeM (rs:List Int)(b:Bd)(ev v f:Int):Bd:={ b with sn:=setR rs ev v b.sn,fr:=setR rs ev f b.fr }
def inkM (b:Bd)(p:Nat)(v ev:Int):Bd:={ b with plc:=b.plc.set p v,lst:=b.lst.set p ev,rws:=b.rws.set p (b.rws.getD p []++[ev]) }
def evM (es:List Ev)(c k:Nat):Int:=
 match (List.range es.length).find? (fun i=>decide (3≤i)&&((es.getD i zE).1==(c:Int))&&((es.getD i zE).2.1==(k:Int))) with
 |some i=>(i:Int)
 |none=>-1
def deedM (dss:List (List Dd))(es:List Ev)(b:Bd)(c k:Nat):Bd:=
 if (dAt dss c k).1=1 then seeM (idxB rdE es) b (evM es c k) (rdgM b c (dAt dss c k).2.1.toNat).1 (rdgM b c (dAt dss c k).2.1.toNat).2
 else if (dAt dss c k).1=3 then
  inkM (seeM (idxB rdE es) b (evM es c k) (b.plc.getD (dAt dss c k).2.1.toNat 0) (b.lst.getD (dAt dss c k).2.1.toNat 0)) (dAt dss c k).2.1.toNat (dAt dss c k).2.2.1 (evM es c k+1)
 else if (dAt dss c k).1=2∧0<gAt dss c k then inkM b (dAt dss c k).2.1.toNat (dAt dss c k).2.2.1 (evM es c k)
 else if (dAt dss c k).1=2 then { b with nts:=b.nts.set c (b.nts.getD c []++[((dAt dss c k).2.1,(dAt dss c k).2.2.1,evM es c k)]) }
 else b
def nxN (b:Bd)(c:Nat):Nat:=(b.nxt.getD c 0).toNat
def oneM (dss:List (List Dd))(es:List Ev)(b:Bd)(c:Nat):Bd:=
 { deedM dss es b c (nxN b c) with nxt:=b.nxt.set c (b.nxt.getD c 0+1) }
def goM (dss:List (List Dd))(es:List Ev)(g:Int)(c:Nat):Nat→Bd→Bd
 | 0,b=>b
 |m+1,b=>
  if g=0∨nxN (oneM dss es b c) c=(dss.getD c []).length∨gAt dss c (nxN (oneM dss es b c) c)≠g then oneM dss es b c else goM dss es g c m (oneM dss es b c)
def flushM (b:Bd)(c:Nat):Bd:=
 match b.nts.getD c [] with
 | []=>b
 |x::r=>inkM { b with nts:=b.nts.set c r } x.1.toNat x.2.1 x.2.2
def stepM (dss:List (List Dd))(es:List Ev)(b:Bd)(s:Int):Bd:=
 if 10≤s then flushM b (s-10).toNat else goM dss es (gAt dss s.toNat (nxN b s.toNat)) s.toNat (dss.getD s.toNat []).length b
def canM (dss:List (List Dd))(b:Bd)(c:Nat):Bool:=
 decide (nxN b c<(dss.getD c []).length)&&((decide ((dAt dss c (nxN b c)).1≤2)&&decide (gAt dss c (nxN b c)=0))||(b.nts.getD c []).isEmpty)
def possM (dss:List (List Dd))(b:Bd):List Int:=
 ((List.range dss.length).filter (canM dss b)).map (fun c:Nat=>(c:Int))++((List.range dss.length).filter (fun c=>!(b.nts.getD c []).isEmpty)).map (fun c:Nat=>10+(c:Int))
def endM (dss:List (List Dd))(b:Bd):Bool:=(List.range dss.length).all (fun c=>decide ((dss.getD c []).length≤nxN b c)&&(b.nts.getD c []).isEmpty)
def runM (dss:List (List Dd))(es:List Ev)(b:Bd):List Int→Bd
 | []=>b
 |s::r=>runM dss es (if isB (possM dss b) s=true then stepM dss es b s else b) r
structure Sys where
 n:Nat
 ck:Nat→Int
 pl:Nat→Nat
 rd:Nat→Bool
 cs:Nat→Int
 ex:Nat→Nat→Bool
structure AbsSt where
 X:Nat→Prop
 N:Int→List Nat
 R:Nat→List Nat
 F:Nat→Nat
 τ:Nat→Nat
def AbsSt.L (S:Sys)(s:AbsSt)(c:Int)(p:Nat):List Nat:=s.R p++(s.N c).filter (fun x=>S.pl x==p)
def AbsSt.D (S:Sys)(s:AbsSt)(j:Nat):Prop:=s.X j∧j∉s.N (S.ck j)
def AbsSt.v (S:Sys)(s:AbsSt)(i:Nat):Nat:=if S.rd i=true then s.F i else i
abbrev Bef (L:List Nat)(x y:Nat):Prop:=[x,y].Sublist L
structure AInv (S:Sys)(s:AbsSt)(T:Nat)(z:Int):Prop where
 beg:∀j,j<3→s.X j∧S.rd j=false∧S.pl j=j∧S.ck j=-1∧s.τ j=0∧S.cs j=j
 lt:∀j,s.X j→j<S.n
 down:∀i j,s.X j→3≤i→i<j→S.ck i=S.ck j→s.X i
 note:∀c x,x∈s.N c→s.X x∧3≤x∧S.ck x=c∧S.rd x=false
 nord:∀c,(s.N c).Pairwise (·<·)
 pend:∀c x j,x∈s.N c→s.X j→x<j→S.ck j=c→(S.rd j=true∧S.ex x j=true)∨j∈s.N c
 rows:∀p x,x∈s.R p↔s.D S x∧S.rd x=false∧S.pl x=p
 rnod:∀p,(s.R p).Nodup
 rord:∀p,(s.R p).Pairwise (fun x y=>s.τ x≤s.τ y)
 tle:∀j,s.D S j→s.τ j≤T
 tpos:∀j,s.D S j→3≤j→1≤s.τ j
 same:∀i j,s.D S i→s.D S j→3≤i→3≤j→s.τ i=s.τ j→S.cs i=S.cs j
 mate:∀i j,s.D S i→s.D S j→3≤i→3≤j→S.cs i=S.cs j→s.τ i=s.τ j
 now:∀i,s.D S i→3≤i→(s.τ i=T↔S.cs i=z)
 kept:∀i j,s.D S i→s.D S j→3≤i→i<j→S.ck i=S.ck j→S.cs i≠S.cs j→S.ex i j=false→s.τ i<s.τ j
 src:∀r,s.X r→S.rd r=true→s.X (s.F r)∧S.rd (s.F r)=false∧S.pl (s.F r)=S.pl r∧((3≤s.F r∧S.ck (s.F r)=S.ck r)∨(s.D S (s.F r)∧s.τ (s.F r)≤s.τ r))
 agst:∀r w p,s.X r→S.rd r=true→Bef (s.R p) (s.F r) w→s.τ r≤s.τ w
 inL:∀i,s.X i→3≤i→s.v S i∈s.L S (S.ck i) (S.pl i)
 coh:∀i j,s.X i→s.X j→3≤i→i<j→S.ck i=S.ck j→S.pl i=S.pl j→s.v S i=s.v S j∨Bef (s.L S (S.ck i) (S.pl i)) (s.v S i) (s.v S j)
 cohw:∀i j,s.X i→s.X j→3≤i→i<j→S.ck i=S.ck j→S.pl i=S.pl j→S.rd i=true→S.rd j=false→s.F i≠j
structure Nxt (S:Sys)(s:AbsSt)(j:Nat):Prop where
 three:3≤j
 lt:j<S.n
 new:¬s.X j
 all:∀i,3≤i→i<j→S.ck i=S.ck j→s.X i
 last:∀i,s.X i→3≤i→S.ck i=S.ck j→i<j
theorem bef_mem {L:List Nat}{x y:Nat}(h:Bef L x y):x∈L∧y∈L:=⟨h.subset (by simp),h.subset (by simp)⟩
theorem bef_snoc {L:List Nat}{x w:Nat}(h:x∈L):Bef (L++[w]) x w:=by
 have h1:[x].Sublist L:=List.singleton_sublist.2 h;exact h1.append (List.Sublist.refl [w])
theorem bef_last {L:List Nat}{x y:Nat}(hn:(L++[x]).Nodup)(h:Bef (L++[x]) x y):False:=by
 have h2:¬x∈L:=by
  rw[List.nodup_append] at hn;intro hx;exact hn.2.2 x hx x (by simp) rfl
 obtain⟨l1,l2,e,s1,s2⟩:=List.sublist_append_iff.1 h
 cases l1 with
 |nil=>
  simp only[List.nil_append] at e;rw[←e] at s2;have:=s2.length_le;simp at this
 |cons a l1=>
  simp only[List.cons_append,List.cons.injEq] at e;rw[←e.1] at s1;exact h2 (s1.subset (by simp))
theorem bef_snoc_old {L:List Nat}{x y w:Nat}(h:Bef (L++[w]) x y)(hy:y≠w):Bef L x y:=by
 obtain⟨l1,l2,e,s1,s2⟩:=List.sublist_append_iff.1 h
 have hl2:l2=[]:=by
  cases l2 with
  |nil=>rfl
  |cons a l2=>
   have hl:=s2.length_le;simp at hl;subst hl;have ha:a=w:=by simpa using s2
   have:y=a:=by
    have:=congrArg List.getLast? e
    simpa using this
   exact absurd (this.trans ha) hy
 subst hl2;rw[List.append_nil] at e;rw[←e] at s1;exact s1
theorem bef_of_last {L:List Nat}{x:Nat}(hx:x∈L){l:Nat}(hl:L.getLast? = some l):x=l∨Bef L x l:=by
 obtain⟨L',rfl⟩:=List.getLast?_eq_some_iff.1 hl;rw[List.mem_append] at hx;rcases hx with hx|hx
 · exact .inr (bef_snoc hx)
 · exact .inl (by simpa using hx)
theorem AInv.read_done {S:Sys}{s:AbsSt}{T:Nat}{z:Int}(h:AInv S s T z){r:Nat}(hx:s.X r)(hr:S.rd r=true):s.D S r:=
 ⟨hx,fun hn=>by have:=(h.note _ _ hn).2.2.2;rw[hr] at this;cases this⟩
theorem AInv.tick {S:Sys}{s:AbsSt}{T:Nat}{z:Int}(h:AInv S s T z)(z':Int)(hz:∀i,s.D S i→3≤i→S.cs i≠z'):AInv S s (T+1) z':=
 { h with
  tle:=fun j hj=>Nat.le_succ_of_le (h.tle j hj)
  now:=fun i hi h3=>⟨fun e=>by have:=h.tle i hi;omega,fun e=>absurd e (hz i hi h3)⟩ }
def AbsSt.doNote (S:Sys)(s:AbsSt)(j:Nat):AbsSt:={ s with X:=fun i=>s.X i∨i=j,N:=fun c=>if c=S.ck j then s.N c++[j] else s.N c }
def AbsSt.doRead (s:AbsSt)(T j f:Nat):AbsSt:={ s with X:=fun i=>s.X i∨i=j,F:=fun i=>if i=j then f else s.F i,τ:=fun i=>if i=j then T else s.τ i }
def AbsSt.doInk (S:Sys)(s:AbsSt)(T j:Nat):AbsSt:={ s with X:=fun i=>s.X i∨i=j,R:=fun p=>if p=S.pl j then s.R p++[j] else s.R p,τ:=fun i=>if i=j then T else s.τ i }
def AbsSt.doFlush (S:Sys)(s:AbsSt)(T:Nat)(c:Int)(x:Nat)(rest:List Nat):AbsSt:={ s with N:=fun c'=>if c'=c then rest else s.N c',R:=fun p=>if p=S.pl x then s.R p++[x] else s.R p,τ:=fun i=>if i=x then T else s.τ i }
theorem AInv.doNote {S:Sys}{s:AbsSt}{T:Nat}{z:Int}(h:AInv S s T z){j:Nat}(hn:Nxt S s j)(hr:S.rd j=false):AInv S (s.doNote S j) T z:=by
 have hne:∀i,s.X i→i≠j:=fun i hi e=>hn.new (by rw[←e];exact hi)
 have nmem:∀c x,x∈(s.doNote S j).N c↔x∈s.N c∨(c=S.ck j∧x=j):=by
  intro c x;show x∈(if c=S.ck j then s.N c++[j] else s.N c)↔_;split
  · rename_i e;simp[e]
  · rename_i e;simp[e]
 have hD:∀i,(s.doNote S j).D S i↔s.D S i:=by
  intro i;unfold AbsSt.D;rw[nmem];show ((s.X i∨i=j)∧_)↔_;constructor
  ·
   rintro⟨h1|rfl,h2⟩
   · exact⟨h1,fun hm=>h2 (.inl hm)⟩
   · exact absurd (.inr ⟨rfl,rfl⟩) h2
  ·
   rintro⟨h1,h2⟩;refine⟨.inl h1,?_⟩;rintro (hm|⟨_,e⟩)
   · exact h2 hm
   · exact hne i h1 e
 have hsub:∀c p,(s.L S c p).Sublist ((s.doNote S j).L S c p):=by
  intro c p;refine List.Sublist.append (List.Sublist.refl _) ?_;show List.Sublist _ ((if c=S.ck j then s.N c++[j] else s.N c).filter _);split
  · rw[List.filter_append];exact List.sublist_append_left _ _
  · exact List.Sublist.refl _
 have hlast:(s.doNote S j).L S (S.ck j) (S.pl j)=s.L S (S.ck j) (S.pl j)++[j]:=by
  unfold AbsSt.L AbsSt.doNote;simp[List.filter_append]
 have hv:∀i,(s.doNote S j).v S i=s.v S i:=fun i=>rfl
 have hvj:s.v S j=j:=by unfold AbsSt.v;rw[hr];rfl
 refine { h with beg:=fun i hi=>⟨.inl (h.beg i hi).1,(h.beg i hi).2⟩,lt:=?_,down:=?_,note:=?_,nord:=?_,pend:=?_,rows:=?_,tle:=?_,tpos:=?_,same:=?_,mate:=?_,now:=?_,kept:=?_,src:=?_,agst:=?_,inL:=?_,coh:=?_,cohw:=?_ }
 ·
  rintro i (hi|rfl)
  · exact h.lt i hi
  · exact hn.lt
 ·
  rintro i k (hk|rfl) h3 hik hc
  · exact .inl (h.down i k hk h3 hik hc)
  · exact .inl (hn.all i h3 hik hc)
 ·
  intro c x hx;rcases (nmem c x).1 hx with hx|⟨rfl,rfl⟩
  · exact⟨.inl (h.note c x hx).1,(h.note c x hx).2⟩
  · exact⟨.inr rfl,hn.three,rfl,hr⟩
 ·
  intro c;show (if c=S.ck j then s.N c++[j] else s.N c).Pairwise _;split
  ·
   rename_i e;rw[List.pairwise_append];refine⟨h.nord c,by simp,fun x hx y hy=>?_⟩;have hy':y=j:=by simpa using hy
   subst hy';have hq:=h.note c x hx;exact hn.last x hq.1 hq.2.1 (by rw[hq.2.2.1,e])
  · exact h.nord c
 ·
  intro c x k hx hk hxk hc;rcases (nmem c x).1 hx with hx|⟨rfl,rfl⟩
  ·
   rcases hk with hk|rfl
   ·
    rcases h.pend c x k hx hk hxk hc with hp|hp
    · exact .inl hp
    · exact .inr ((nmem c k).2 (.inl hp))
   · exact .inr ((nmem c k).2 (.inr ⟨hc.symm,rfl⟩))
  ·
   rcases hk with hk|rfl
   · have:=hn.last k hk (by have:=hn.three;omega) hc;omega
   · omega
 · intro p x;rw[hD];exact h.rows p x
 · intro i hi;exact h.tle i ((hD i).1 hi)
 · intro i hi;exact h.tpos i ((hD i).1 hi)
 · intro i k hi hk;exact h.same i k ((hD i).1 hi) ((hD k).1 hk)
 · intro i k hi hk;exact h.mate i k ((hD i).1 hi) ((hD k).1 hk)
 · intro i hi;exact h.now i ((hD i).1 hi)
 · intro i k hi hk;exact h.kept i k ((hD i).1 hi) ((hD k).1 hk)
 ·
  rintro r (hx|rfl) hrd
  ·
   obtain⟨a,b,c,d⟩:=h.src r hx hrd;exact⟨.inl a,b,c,d.imp id (fun d=>⟨(hD _).2 d.1,d.2⟩)⟩
  · rw[hr] at hrd;cases hrd
 ·
  rintro r w p (hx|rfl) hrd hb
  · exact h.agst r w p hx hrd hb
  · rw[hr] at hrd;cases hrd
 ·
  rintro i (hi|rfl) h3
  · exact (hsub _ _).subset (h.inL i hi h3)
  · rw[hlast,hv,hvj];simp
 ·
  rintro i k (hi|rfl) (hk|rfl) h3 hik hc hp
  · exact (h.coh i k hi hk h3 hik hc hp).imp id (fun hb=>hb.trans (hsub _ _))
  ·
   refine .inr ?_;rw[hc,hp,hlast,hv,hv,hvj,←hc,←hp];exact bef_snoc (h.inL i hi h3)
  · have:=hn.last k hk (by omega) hc.symm;omega
  · omega
 ·
  rintro i k (hi|rfl) (hk|rfl) h3 hik hc hp h1 h2
  · exact h.cohw i k hi hk h3 hik hc hp h1 h2
  · exact hne _ (h.src i hi h1).1
  · have:=hn.last k hk (by omega) hc.symm;omega
  · omega
theorem AInv.doRead {S:Sys}{s:AbsSt}{T:Nat}{z:Int}(h:AInv S s T z)(hT:1≤T){j f:Nat}(hn:Nxt S s j)(hr:S.rd j=true)(hz:S.cs j=z)(hex:∀x,x∈s.N (S.ck j)→S.ex x j=true)
  (hf:(s.L S (S.ck j) (S.pl j)).getLast? = some f):AInv S (s.doRead T j f) T z:=by
 have hne:∀i,s.X i→i≠j:=fun i hi e=>hn.new (by rw[←e];exact hi)
 have hD:∀i,(s.doRead T j f).D S i↔s.D S i∨i=j:=by
  intro i;show ((s.X i∨i=j)∧i∉s.N (S.ck i))↔_;constructor
  ·
   rintro⟨h1|rfl,h2⟩
   · exact .inl ⟨h1,h2⟩
   · exact .inr rfl
  ·
   rintro (⟨h1,h2⟩|rfl)
   · exact⟨.inl h1,h2⟩
   · exact⟨.inr rfl,fun hm=>hn.new (h.note _ _ hm).1⟩
 have hτ:∀i,i≠j→(s.doRead T j f).τ i=s.τ i:=fun i hi=>by show (if i=j then T else s.τ i)=_;rw[if_neg hi]
 have hτj:(s.doRead T j f).τ j=T:=by show (if j=j then T else s.τ j)=T;rw[if_pos rfl]
 have hF:∀i,i≠j→(s.doRead T j f).F i=s.F i:=fun i hi=>by show (if i=j then f else s.F i)=_;rw[if_neg hi]
 have hFj:(s.doRead T j f).F j=f:=by show (if j=j then f else s.F j)=f;rw[if_pos rfl]
 have hv:∀i,i≠j→(s.doRead T j f).v S i=s.v S i:=fun i hi=>by unfold AbsSt.v;rw[hF i hi]
 have hvj:(s.doRead T j f).v S j=f:=by unfold AbsSt.v;rw[hr,hFj];rfl
 have hfm:f∈s.L S (S.ck j) (S.pl j):=List.mem_of_getLast? hf
 have hfX:s.X f∧S.rd f=false∧S.pl f=S.pl j∧((3≤f∧S.ck f=S.ck j∧f∈s.N (S.ck j))∨s.D S f):=by
  unfold AbsSt.L at hfm;rw[List.mem_append,List.mem_filter] at hfm;rcases hfm with hm|⟨hm,hp⟩
  ·
   obtain⟨a,b,c⟩:=(h.rows _ _).1 hm;exact⟨a.1,b,c,.inr a⟩
  ·
   obtain⟨a,b,c,d⟩:=h.note _ _ hm;exact⟨a,d,by simpa using hp,.inl ⟨b,c,hm⟩⟩
 refine { h with beg:=fun i hi=>⟨.inl (h.beg i hi).1,(h.beg i hi).2.1,(h.beg i hi).2.2.1,(h.beg i hi).2.2.2.1,by rw[hτ i (hne i (h.beg i hi).1)];exact (h.beg i hi).2.2.2.2.1,(h.beg i hi).2.2.2.2.2⟩,lt:=?_,down:=?_,note:=?_,pend:=?_,rows:=?_,rord:=?_,tle:=?_,tpos:=?_,same:=?_,mate:=?_,now:=?_,kept:=?_,src:=?_,agst:=?_,inL:=?_,coh:=?_,cohw:=?_ }
 ·
  rintro i (hi|rfl)
  · exact h.lt i hi
  · exact hn.lt
 ·
  rintro i k (hk|rfl) h3 hik hc
  · exact .inl (h.down i k hk h3 hik hc)
  · exact .inl (hn.all i h3 hik hc)
 ·
  intro c x hx;exact⟨.inl (h.note c x hx).1,(h.note c x hx).2⟩
 ·
  rintro c x k hx (hk|rfl) hxk hc
  · exact h.pend c x k hx hk hxk hc
  · exact .inl ⟨hr,hex x (by rw[hc];exact hx)⟩
 ·
  intro p x;rw[hD];refine (h.rows p x).trans ⟨fun ⟨a,b⟩=>⟨.inl a,b⟩,fun ⟨a,b⟩=>⟨a.resolve_right (fun e=>?_),b⟩⟩;rw[e,hr] at b;cases b.1
 ·
  intro p;refine (h.rord p).imp_of_mem (fun {x y} hx hy hxy=>?_);rw[hτ x (hne x ((h.rows p x).1 hx).1.1),hτ y (hne y ((h.rows p y).1 hy).1.1)];exact hxy
 ·
  intro i hi;rcases (hD i).1 hi with hi|rfl
  · rw[hτ i (hne i hi.1)];exact h.tle i hi
  · rw[hτj];exact Nat.le_refl _
 ·
  intro i hi h3;rcases (hD i).1 hi with hi|rfl
  · rw[hτ i (hne i hi.1)];exact h.tpos i hi h3
  · rw[hτj];exact hT
 ·
  intro i k hi hk h3 h3' e;rcases (hD i).1 hi with ai|rfl<;>rcases (hD k).1 hk with ak|rfl
  · rw[hτ i (hne i ai.1),hτ k (hne k ak.1)] at e;exact h.same i k ai ak h3 h3' e
  · rw[hτ i (hne i ai.1),hτj] at e;rw[hz];exact (h.now i ai h3).1 e
  · rw[hτ k (hne k ak.1),hτj] at e;rw[hz];exact ((h.now k ak h3').1 e.symm).symm
  · rfl
 ·
  intro i k hi hk h3 h3' e;rcases (hD i).1 hi with ai|rfl<;>rcases (hD k).1 hk with ak|rfl
  · rw[hτ i (hne i ai.1),hτ k (hne k ak.1)];exact h.mate i k ai ak h3 h3' e
  · rw[hτ i (hne i ai.1),hτj];exact (h.now i ai h3).2 (by rw[e,hz])
  · rw[hτ k (hne k ak.1),hτj];exact ((h.now k ak h3').2 (by rw[←e,hz])).symm
  · rfl
 ·
  intro i hi h3;rcases (hD i).1 hi with hi|rfl
  · rw[hτ i (hne i hi.1)];exact h.now i hi h3
  · rw[hτj,hz];simp
 ·
  intro i k hi hk h3 hik hc hcs hx;rcases (hD i).1 hi with ai|rfl<;>rcases (hD k).1 hk with ak|rfl
  · rw[hτ i (hne i ai.1),hτ k (hne k ak.1)];exact h.kept i k ai ak h3 hik hc hcs hx
  ·
   rw[hτ i (hne i ai.1),hτj];have h1:=h.tle i ai;have h2:s.τ i≠T:=fun e=>hcs (by rw[hz];exact (h.now i ai h3).1 e)
   omega
  · have:=hn.last k ak.1 (by omega) hc.symm;omega
  · omega
 ·
  rintro r (hx|rfl) hrd
  ·
   rw[hF r (hne r hx),hτ r (hne r hx)];obtain⟨a,b,c,d⟩:=h.src r hx hrd;exact⟨.inl a,b,c,d.imp id (fun d=>⟨(hD _).2 (.inl d.1),by rw[hτ _ (hne _ d.1.1)];exact d.2⟩)⟩
  ·
   rw[hFj,hτj];obtain⟨a,b,c,d⟩:=hfX;exact⟨.inl a,b,c,d.imp (fun d=>⟨d.1,d.2.1⟩) (fun d=>⟨(hD _).2 (.inl d),by rw[hτ _ (hne _ a)];exact h.tle _ d⟩)⟩
 ·
  rintro r w p (hx|rfl) hrd hb
  ·
   rw[hF r (hne r hx)] at hb;have hw:=(h.rows p w).1 (bef_mem hb).2;rw[hτ r (hne r hx),hτ w (hne w hw.1.1)];exact h.agst r w p hx hrd hb
  ·
   rw[hFj] at hb;exfalso;have hm:f∈s.R p:=(bef_mem hb).1;obtain⟨q1,q2,q3⟩:=(h.rows p f).1 hm;have hp:p=S.pl r:=by rw[←q3];exact hfX.2.2.1
   subst hp
   have he:(s.N (S.ck r)).filter (fun x=>S.pl x==S.pl r)=[]:=by
    apply Classical.byContradiction;intro hne';unfold AbsSt.L at hf
    have hf2:((s.N (S.ck r)).filter (fun x=>S.pl x==S.pl r)).getLast? = some f:=by
     rw[List.getLast?_append] at hf
     cases hq:((s.N (S.ck r)).filter (fun x=>S.pl x==S.pl r)).getLast? with
     |none=>exact absurd (List.getLast?_eq_none_iff.1 hq) hne'
     |some y=>rw[hq] at hf;exact hf
    have:=List.mem_of_getLast? hf2;rw[List.mem_filter] at this;have hq:=h.note _ _ this.1;exact q1.2 (by rw[hq.2.2.1];exact this.1)
   unfold AbsSt.L at hf;rw[he,List.append_nil] at hf;obtain⟨L',e⟩:=List.getLast?_eq_some_iff.1 hf;have hnd:=h.rnod (S.pl r);change Bef (s.R (S.pl r)) f w at hb;rw[e] at hb hnd;exact bef_last hnd hb
 ·
  rintro i (hi|rfl) h3
  · rw[hv i (hne i hi)];exact h.inL i hi h3
  · rw[hvj];exact hfm
 ·
  rintro i k (hi|rfl) (hk|rfl) h3 hik hc hp
  · rw[hv i (hne i hi),hv k (hne k hk)];exact h.coh i k hi hk h3 hik hc hp
  ·
   rw[hv i (hne i hi),hvj];have hm:=h.inL i hi h3;rw[hc,hp] at hm ⊢;exact bef_of_last hm hf
  · have:=hn.last k hk (by omega) hc.symm;omega
  · omega
 ·
  rintro i k (hi|rfl) (hk|rfl) h3 hik hc hp h1 h2
  · rw[hF i (hne i hi)];exact h.cohw i k hi hk h3 hik hc hp h1 h2
  · rw[hr] at h2;cases h2
  · have:=hn.last k hk (by omega) hc.symm;omega
  · omega
theorem AInv.doInk {S:Sys}{s:AbsSt}{T:Nat}{z:Int}(h:AInv S s T z)(hT:1≤T){j:Nat}(hn:Nxt S s j)(hr:S.rd j=false)(hz:S.cs j=z)(hN:s.N (S.ck j)=[]):AInv S (s.doInk S T j) T z:=by
 have hne:∀i,s.X i→i≠j:=fun i hi e=>hn.new (by rw[←e];exact hi)
 have hD:∀i,(s.doInk S T j).D S i↔s.D S i∨i=j:=by
  intro i;show ((s.X i∨i=j)∧i∉s.N (S.ck i))↔_;constructor
  ·
   rintro⟨h1|rfl,h2⟩
   · exact .inl ⟨h1,h2⟩
   · exact .inr rfl
  ·
   rintro (⟨h1,h2⟩|rfl)
   · exact⟨.inl h1,h2⟩
   · exact⟨.inr rfl,fun hm=>hn.new (h.note _ _ hm).1⟩
 have hτ:∀i,i≠j→(s.doInk S T j).τ i=s.τ i:=fun i hi=>by show (if i=j then T else s.τ i)=_;rw[if_neg hi]
 have hτj:(s.doInk S T j).τ j=T:=by show (if j=j then T else s.τ j)=T;rw[if_pos rfl]
 have hR:∀p,(s.doInk S T j).R p=if p=S.pl j then s.R p++[j] else s.R p:=fun p=>rfl
 have hv:∀i,(s.doInk S T j).v S i=s.v S i:=fun i=>rfl
 have hvj:s.v S j=j:=by unfold AbsSt.v;rw[hr];rfl
 have hjR:∀p,j∉s.R p:=fun p hm=>hn.new ((h.rows p j).1 hm).1.1
 have hRs:∀p,(s.R p).Sublist ((s.doInk S T j).R p):=fun p=>by
  rw[hR];split
  · exact List.sublist_append_left _ _
  · exact List.Sublist.refl _
 have hsub:∀c p,(s.L S c p).Sublist ((s.doInk S T j).L S c p):=fun c p=>List.Sublist.append (hRs p) (List.Sublist.refl _)
 have hlast:(s.doInk S T j).L S (S.ck j) (S.pl j)=s.L S (S.ck j) (S.pl j)++[j]:=by
  unfold AbsSt.L;rw[hR,if_pos rfl];show s.R (S.pl j)++[j]++(s.N (S.ck j)).filter _=s.R (S.pl j)++(s.N (S.ck j)).filter _++[j];rw[hN];simp
 refine { h with beg:=fun i hi=>⟨.inl (h.beg i hi).1,(h.beg i hi).2.1,(h.beg i hi).2.2.1,(h.beg i hi).2.2.2.1,by rw[hτ i (hne i (h.beg i hi).1)];exact (h.beg i hi).2.2.2.2.1,(h.beg i hi).2.2.2.2.2⟩,lt:=?_,down:=?_,note:=?_,pend:=?_,rows:=?_,rnod:=?_,rord:=?_,tle:=?_,tpos:=?_,same:=?_,mate:=?_,now:=?_,kept:=?_,src:=?_,agst:=?_,inL:=?_,coh:=?_,cohw:=?_ }
 ·
  rintro i (hi|rfl)
  · exact h.lt i hi
  · exact hn.lt
 ·
  rintro i k (hk|rfl) h3 hik hc
  · exact .inl (h.down i k hk h3 hik hc)
  · exact .inl (hn.all i h3 hik hc)
 ·
  intro c x hx;exact⟨.inl (h.note c x hx).1,(h.note c x hx).2⟩
 ·
  rintro c x k hx (hk|rfl) hxk hc
  · exact h.pend c x k hx hk hxk hc
  ·
   change x∈s.N c at hx;rw[←hc,hN] at hx;cases hx
 ·
  intro p x;rw[hD,hR];by_cases hp:p=S.pl j
  ·
   rw[if_pos hp,List.mem_append,h.rows p x];constructor
   ·
    rintro (⟨a,b⟩|hx)
    · exact⟨.inl a,b⟩
    ·
     have e:x=j:=by simpa using hx
     exact⟨.inr e,by rw[e];exact hr,by rw[e,hp]⟩
   ·
    rintro⟨a|rfl,b⟩
    · exact .inl ⟨a,b⟩
    · exact .inr (by simp)
  ·
   rw[if_neg hp,h.rows p x];constructor
   · rintro⟨a,b⟩;exact⟨.inl a,b⟩
   ·
    rintro⟨a|rfl,b⟩
    · exact⟨a,b⟩
    · exact absurd b.2.symm hp
 ·
  intro p;rw[hR];split
  ·
   rw[List.nodup_append];refine⟨h.rnod p,by simp,fun x hx y hy e=>?_⟩;have:y=j:=by simpa using hy
   exact hjR p (by rw[←this,←e];exact hx)
  · exact h.rnod p
 ·
  intro p
  have old:(s.R p).Pairwise (fun x y=>(s.doInk S T j).τ x≤(s.doInk S T j).τ y):=(h.rord p).imp_of_mem (fun {x y} hx hy hxy=>by
   rw[hτ x (hne x ((h.rows p x).1 hx).1.1),hτ y (hne y ((h.rows p y).1 hy).1.1)]
   exact hxy)
  rw[hR];split
  ·
   rw[List.pairwise_append];refine⟨old,by simp,fun x hx y hy=>?_⟩;have:y=j:=by simpa using hy
   have hx':=((h.rows p x).1 hx).1;rw[this,hτj,hτ x (hne x hx'.1)];exact h.tle x hx'
  · exact old
 ·
  intro i hi;rcases (hD i).1 hi with ai|rfl
  · rw[hτ i (hne i ai.1)];exact h.tle i ai
  · rw[hτj];exact Nat.le_refl _
 ·
  intro i hi h3;rcases (hD i).1 hi with ai|rfl
  · rw[hτ i (hne i ai.1)];exact h.tpos i ai h3
  · rw[hτj];exact hT
 ·
  intro i k hi hk h3 h3' e;rcases (hD i).1 hi with ai|rfl<;>rcases (hD k).1 hk with ak|rfl
  · rw[hτ i (hne i ai.1),hτ k (hne k ak.1)] at e;exact h.same i k ai ak h3 h3' e
  · rw[hτ i (hne i ai.1),hτj] at e;rw[hz];exact (h.now i ai h3).1 e
  · rw[hτ k (hne k ak.1),hτj] at e;rw[hz];exact ((h.now k ak h3').1 e.symm).symm
  · rfl
 ·
  intro i k hi hk h3 h3' e;rcases (hD i).1 hi with ai|rfl<;>rcases (hD k).1 hk with ak|rfl
  · rw[hτ i (hne i ai.1),hτ k (hne k ak.1)];exact h.mate i k ai ak h3 h3' e
  · rw[hτ i (hne i ai.1),hτj];exact (h.now i ai h3).2 (by rw[e,hz])
  · rw[hτ k (hne k ak.1),hτj];exact ((h.now k ak h3').2 (by rw[←e,hz])).symm
  · rfl
 ·
  intro i hi h3;rcases (hD i).1 hi with ai|rfl
  · rw[hτ i (hne i ai.1)];exact h.now i ai h3
  · rw[hτj,hz];simp
 ·
  intro i k hi hk h3 hik hc hcs hx;rcases (hD i).1 hi with ai|rfl<;>rcases (hD k).1 hk with ak|rfl
  · rw[hτ i (hne i ai.1),hτ k (hne k ak.1)];exact h.kept i k ai ak h3 hik hc hcs hx
  ·
   rw[hτ i (hne i ai.1),hτj];have h1:=h.tle i ai;have h2:s.τ i≠T:=fun e=>hcs (by rw[hz];exact (h.now i ai h3).1 e)
   omega
  · have:=hn.last k ak.1 (by omega) hc.symm;omega
  · omega
 ·
  rintro r (hx|rfl) hrd
  ·
   rw[hτ r (hne r hx)];obtain⟨a,b,c,d⟩:=h.src r hx hrd;exact⟨.inl a,b,c,d.imp id (fun d=>⟨(hD _).2 (.inl d.1),by show (s.doInk S T j).τ (s.F r)≤_;rw[hτ _ (hne _ d.1.1)];exact d.2⟩)⟩
  · rw[hr] at hrd;cases hrd
 ·
  rintro r w p (hx|rfl) hrd hb
  ·
   rw[hτ r (hne r hx)];by_cases hw:w=j
   · rw[hw,hτj];exact h.tle r (h.read_done hx hrd)
   ·
    rw[hτ w hw];rw[hR] at hb;by_cases hp:p=S.pl j
    ·
     rw[if_pos hp] at hb;exact h.agst r w p hx hrd (bef_snoc_old hb hw)
    ·
     rw[if_neg hp] at hb;exact h.agst r w p hx hrd hb
  · rw[hr] at hrd;cases hrd
 ·
  rintro i (hi|rfl) h3
  · exact (hsub _ _).subset (h.inL i hi h3)
  · rw[hlast,hv,hvj];simp
 ·
  rintro i k (hi|rfl) (hk|rfl) h3 hik hc hp
  · exact (h.coh i k hi hk h3 hik hc hp).imp id (fun hb=>hb.trans (hsub _ _))
  ·
   refine .inr ?_;rw[hc,hp,hlast,hv,hv,hvj,←hc,←hp];exact bef_snoc (h.inL i hi h3)
  · have:=hn.last k hk (by omega) hc.symm;omega
  · omega
 ·
  rintro i k (hi|rfl) (hk|rfl) h3 hik hc hp h1 h2
  · exact h.cohw i k hi hk h3 hik hc hp h1 h2
  · exact hne _ (h.src i hi h1).1
  · have:=hn.last k hk (by omega) hc.symm;omega
  · omega
theorem AInv.doFlush {S:Sys}{s:AbsSt}{T:Nat}{z:Int}(h:AInv S s T z)(hT:1≤T){c:Int}{x:Nat}{rest:List Nat}(hN:s.N c=x::rest)(hz:S.cs x=z):AInv S (s.doFlush S T c x rest) T z:=by
 have hx0:=h.note c x (by rw[hN];simp);obtain⟨hxX,hx3,hxc,hxr⟩:=hx0;have hord:=h.nord c;rw[hN,List.pairwise_cons] at hord;have hxrest:x∉rest:=fun hm=>by have:=hord.1 x hm;omega
 have hxN:x∈s.N (S.ck x):=by rw[hxc,hN];simp
 have hxD:¬s.D S x:=fun hd=>hd.2 hxN
 have hne:∀i,s.D S i→i≠x:=fun i hi e=>hxD (by rw[←e];exact hi)
 have nmem:∀c' y,y∈(s.doFlush S T c x rest).N c'↔y∈s.N c'∧¬(c'=c∧y=x):=by
  intro c' y;show y∈(if c'=c then rest else s.N c')↔_;by_cases e:c'=c
  ·
   subst e;rw[if_pos rfl,hN];constructor
   ·
    intro hm;exact⟨List.mem_cons_of_mem _ hm,fun hq=>hxrest (by rw[←hq.2];exact hm)⟩
   ·
    rintro⟨hm,hq⟩;rcases List.mem_cons.1 hm with rfl|hm
    · exact absurd ⟨rfl,rfl⟩ hq
    · exact hm
  ·
   rw[if_neg e];exact⟨fun hm=>⟨hm,fun hq=>e hq.1⟩,fun hm=>hm.1⟩
 have hD:∀i,(s.doFlush S T c x rest).D S i↔s.D S i∨i=x:=by
  intro i;unfold AbsSt.D;rw[nmem];show (s.X i∧_)↔_;constructor
  ·
   rintro⟨h1,h2⟩;by_cases e:i=x
   · exact .inr e
   · exact .inl ⟨h1,fun hm=>h2 ⟨hm,fun hq=>e hq.2⟩⟩
  ·
   rintro (⟨h1,h2⟩|rfl)
   · exact⟨h1,fun hm=>h2 hm.1⟩
   · exact⟨hxX,fun hm=>hm.2 ⟨hxc,rfl⟩⟩
 have hτ:∀i,i≠x→(s.doFlush S T c x rest).τ i=s.τ i:=fun i hi=>by show (if i=x then T else s.τ i)=_;rw[if_neg hi]
 have hτx:(s.doFlush S T c x rest).τ x=T:=by show (if x=x then T else s.τ x)=T;rw[if_pos rfl]
 have hR:∀p,(s.doFlush S T c x rest).R p=if p=S.pl x then s.R p++[x] else s.R p:=fun p=>rfl
 have hxR:∀p,x∉s.R p:=fun p hm=>hxD ((h.rows p x).1 hm).1
 have hRs:∀p,(s.R p).Sublist ((s.doFlush S T c x rest).R p):=fun p=>by
  rw[hR];split
  · exact List.sublist_append_left _ _
  · exact List.Sublist.refl _
 have hrne:∀r,S.rd r=true→r≠x:=fun r hr e=>by rw[e,hxr] at hr;cases hr
 have hsub:∀c' p,(s.L S c' p).Sublist ((s.doFlush S T c x rest).L S c' p):=by
  intro c' p;by_cases e:c'=c
  ·
   subst e
   have:(s.doFlush S T c' x rest).L S c' p=s.L S c' p:=by
    unfold AbsSt.L;rw[hR];show _++(if c'=c' then rest else s.N c').filter _=_;rw[if_pos rfl,hN];by_cases hp:p=S.pl x
    ·
     rw[if_pos hp,List.filter_cons_of_pos (by simp[hp]),List.append_assoc];rfl
    · rw[if_neg hp,List.filter_cons_of_neg (by simp;exact fun e=>hp e.symm)]
   rw[this];exact List.Sublist.refl _
  ·
   refine List.Sublist.append (hRs p) ?_;show List.Sublist _ ((if c'=c then rest else s.N c').filter _);rw[if_neg e];exact List.Sublist.refl _
 refine { h with beg:=fun i hi=>⟨(h.beg i hi).1,(h.beg i hi).2.1,(h.beg i hi).2.2.1,(h.beg i hi).2.2.2.1,by rw[hτ i (by omega)];exact (h.beg i hi).2.2.2.2.1,(h.beg i hi).2.2.2.2.2⟩,note:=?_,nord:=?_,pend:=?_,rows:=?_,rnod:=?_,rord:=?_,tle:=?_,tpos:=?_,same:=?_,mate:=?_,now:=?_,kept:=?_,src:=?_,agst:=?_,inL:=?_,coh:=?_ }
 ·
  intro c' y hy;exact h.note c' y ((nmem c' y).1 hy).1
 ·
  intro c';show (if c'=c then rest else s.N c').Pairwise _;split
  · exact hord.2
  · exact h.nord c'
 ·
  intro c' y k hy hk hyk hc;obtain⟨hy1,hy2⟩:=(nmem c' y).1 hy;rcases h.pend c' y k hy1 hk hyk hc with hp|hp
  · exact .inl hp
  ·
   refine .inr ((nmem c' k).2 ⟨hp,?_⟩);rintro⟨rfl,rfl⟩;rw[hN] at hy1;rcases List.mem_cons.1 hy1 with rfl|hm
   · exact hy2 ⟨rfl,rfl⟩
   · have:=hord.1 y hm;omega
 ·
  intro p y;rw[hD,hR];by_cases hp:p=S.pl x
  ·
   rw[if_pos hp,List.mem_append,h.rows p y];constructor
   ·
    rintro (⟨a,b⟩|hy)
    · exact⟨.inl a,b⟩
    ·
     have e:y=x:=by simpa using hy
     exact⟨.inr e,by rw[e];exact hxr,by rw[e,hp]⟩
   ·
    rintro⟨a|rfl,b⟩
    · exact .inl ⟨a,b⟩
    · exact .inr (by simp)
  ·
   rw[if_neg hp,h.rows p y];constructor
   · rintro⟨a,b⟩;exact⟨.inl a,b⟩
   ·
    rintro⟨a|rfl,b⟩
    · exact⟨a,b⟩
    · exact absurd b.2.symm hp
 ·
  intro p;rw[hR];split
  ·
   rw[List.nodup_append];refine⟨h.rnod p,by simp,fun y hy w hw e=>?_⟩;have:w=x:=by simpa using hw
   exact hxR p (by rw[←this,←e];exact hy)
  · exact h.rnod p
 ·
  intro p
  have old:(s.R p).Pairwise (fun y w=>(s.doFlush S T c x rest).τ y≤(s.doFlush S T c x rest).τ w):=(h.rord p).imp_of_mem (fun {y w} hy hw hyw=>by
   rw[hτ y (hne y ((h.rows p y).1 hy).1),hτ w (hne w ((h.rows p w).1 hw).1)]
   exact hyw)
  rw[hR];split
  ·
   rw[List.pairwise_append];refine⟨old,by simp,fun y hy w hw=>?_⟩;have:w=x:=by simpa using hw
   have hy':=((h.rows p y).1 hy).1;rw[this,hτx,hτ y (hne y hy')];exact h.tle y hy'
  · exact old
 ·
  intro i hi;rcases (hD i).1 hi with ai|rfl
  · rw[hτ i (hne i ai)];exact h.tle i ai
  · rw[hτx];exact Nat.le_refl _
 ·
  intro i hi h3;rcases (hD i).1 hi with ai|rfl
  · rw[hτ i (hne i ai)];exact h.tpos i ai h3
  · rw[hτx];exact hT
 ·
  intro i k hi hk h3 h3' e;rcases (hD i).1 hi with ai|rfl<;>rcases (hD k).1 hk with ak|rfl
  · rw[hτ i (hne i ai),hτ k (hne k ak)] at e;exact h.same i k ai ak h3 h3' e
  · rw[hτ i (hne i ai),hτx] at e;rw[hz];exact (h.now i ai h3).1 e
  · rw[hτ k (hne k ak),hτx] at e;rw[hz];exact ((h.now k ak h3').1 e.symm).symm
  · rfl
 ·
  intro i k hi hk h3 h3' e;rcases (hD i).1 hi with ai|rfl<;>rcases (hD k).1 hk with ak|rfl
  · rw[hτ i (hne i ai),hτ k (hne k ak)];exact h.mate i k ai ak h3 h3' e
  · rw[hτ i (hne i ai),hτx];exact (h.now i ai h3).2 (by rw[e,hz])
  · rw[hτ k (hne k ak),hτx];exact ((h.now k ak h3').2 (by rw[←e,hz])).symm
  · rfl
 ·
  intro i hi h3;rcases (hD i).1 hi with ai|rfl
  · rw[hτ i (hne i ai)];exact h.now i ai h3
  · rw[hτx,hz];simp
 ·
  intro i k hi hk h3 hik hc hcs hx;rcases (hD i).1 hi with ai|rfl<;>rcases (hD k).1 hk with ak|rfl
  · rw[hτ i (hne i ai),hτ k (hne k ak)];exact h.kept i k ai ak h3 hik hc hcs hx
  ·
   rw[hτ i (hne i ai),hτx];have h1:=h.tle i ai;have h2:s.τ i≠T:=fun e=>hcs (by rw[hz];exact (h.now i ai h3).1 e)
   omega
  ·
   rcases h.pend _ _ _ hxN ak.1 hik hc.symm with hp|hp
   · rw[hx] at hp;cases hp.2
   · exact absurd (by rw[←hc];exact hp) ak.2
  · omega
 ·
  intro r hx hrd;rw[hτ r (hrne r hrd)];obtain⟨a,b,e,d⟩:=h.src r hx hrd;exact⟨a,b,e,d.imp id (fun d=>⟨(hD _).2 (.inl d.1),by show (s.doFlush S T c x rest).τ (s.F r)≤_;rw[hτ _ (hne _ d.1)];exact d.2⟩)⟩
 ·
  intro r w p hx hrd hb;rw[hτ r (hrne r hrd)];by_cases hw:w=x
  · rw[hw,hτx];exact h.tle r (h.read_done hx hrd)
  ·
   rw[hτ w hw];rw[hR] at hb;by_cases hp:p=S.pl x
   ·
    rw[if_pos hp] at hb;exact h.agst r w p hx hrd (bef_snoc_old hb hw)
   ·
    rw[if_neg hp] at hb;exact h.agst r w p hx hrd hb
 ·
  intro i hi h3;exact (hsub _ _).subset (h.inL i hi h3)
 ·
  intro i k hi hk h3 hik hc hp;exact (h.coh i k hi hk h3 hik hc hp).imp id (fun hb=>hb.trans (hsub _ _))
structure Ab where
 nx:Nat→Nat
 N:Nat→List Nat
 R:Nat→List Nat
 F:Nat→Nat
def sysW (dss:List (List Dd)):Sys:=
 { n:=(eventsB dss).length,ck:=fun j=>((eventsB dss).getD j zE).1,pl:=fun j=>((eventsB dss).getD j zE).2.2.2.1.toNat,rd:=fun j=>((eventsB dss).getD j zE).2.2.1,cs:=fun j=>csE ((eventsB dss).getD j zE),ex:=kepP dss (eventsB dss) }
def exA (dss:List (List Dd))(a:Ab)(j:Nat):Bool:=decide (j<3)||decide (((eventsB dss).getD j zE).2.1.toNat<a.nx ((eventsB dss).getD j zE).1.toNat)
def stA (dss:List (List Dd))(a:Ab)(τ:Nat→Nat):AbsSt:=
 { X:=fun j=>j<(eventsB dss).length∧exA dss a j=true,N:=fun c=>if 0≤c then a.N c.toNat else [],R:=a.R,F:=a.F,τ:=τ }
abbrev vlN (dss:List (List Dd))(x:Nat):Int:=((eventsB dss).getD x zE).2.2.2.2.1
abbrev plN (dss:List (List Dd))(x:Nat):Int:=((eventsB dss).getD x zE).2.2.2.1
def ntE (dss:List (List Dd))(x:Nat):Nt:=(plN dss x,vlN dss x,(x:Int))
def lastA (a:Ab)(p:Nat):Nat:=(a.R p).getLast?.getD p
structure Rep (dss:List (List Dd))(b:Bd)(a:Ab):Prop where
 nxt:b.nxt=(List.range dss.length).map (fun c=>(a.nx c:Int))
 nts:b.nts=(List.range dss.length).map (fun c=>(a.N c).map (ntE dss))
 rws:b.rws=(List.range 3).map (fun p=>(a.R p).map Int.ofNat)
 lst:b.lst=(List.range 3).map (fun p=>(lastA a p:Int))
 plc:b.plc=(List.range 3).map (fun p=>vlN dss (lastA a p))
 fr:b.fr=(idxB rdE (eventsB dss)).map (fun r=>if exA dss a r.toNat=true then (a.F r.toNat:Int) else -1)
 sn:b.sn=(idxB rdE (eventsB dss)).map (fun r=>if exA dss a r.toNat=true then vlN dss (a.F r.toNat) else -1)
theorem map_set {α:Type}(f:Nat→α)(m c:Nat)(y:α):((List.range m).map f).set c y=(List.range m).map (fun i=>if i=c then y else f i):=by
 apply List.ext_getElem?;intro i;rw[List.getElem?_set];simp only[List.length_map,List.length_range,List.getElem?_map];by_cases hi:i<m
 ·
  rw[List.getElem?_range hi];by_cases e:c=i
  · subst e;simp[hi]
  · rw[if_neg e];simp[show ¬i=c from fun h=>e h.symm]
 ·
  have:(List.range m)[i]? = none:=List.getElem?_eq_none (by simp;omega);rw[this];by_cases e:c=i
  · subst e;simp[hi]
  · rw[if_neg e];rfl
theorem map_at {α:Type}(f:Nat→α){m c:Nat}(z:α)(hc:c<m):((List.range m).map f).getD c z=f c:=by
 rw[List.getD_eq_getElem?_getD,List.getElem?_map,List.getElem?_range hc];rfl
theorem set_self (rs:List Int)(ev v:Int)(g:Int→Int):setR rs ev v (rs.map g)=rs.map (fun r=>if r=ev then v else g r):=by
 unfold setR
 induction rs with
 |nil=>rfl
 |cons r rs ih=>rw[List.map_cons,List.zipWith_cons_cons,ih,List.map_cons]
theorem sys_at {dss:List (List Dd)}(hb:workB dss=true){j c k i:Nat}(E:EvIs dss j c k i):(sysW dss).ck j=(c:Int)∧(sysW dss).pl j=(dAt dss c k).2.1.toNat∧(sysW dss).rd j=rdI (dAt dss c k) i∧(sysW dss).cs j=clsD dss c k:=by
 unfold sysW csE;simp only;rw[E.at hb];exact⟨rfl,rfl,rfl,rfl⟩
theorem ex_at {dss:List (List Dd)}(hb:workB dss=true){j c k i:Nat}(E:EvIs dss j c k i)(a:Ab):exA dss a j=decide (k<a.nx c):=by
 unfold exA;rw[E.at hb];have:=(E.lt hb).1;simp[show ¬j<3 by omega]
def bumpA (a:Ab)(c:Nat):Ab:={ a with nx:=fun c'=>if c'=c then a.nx c+1 else a.nx c' }
theorem ex_bump {dss:List (List Dd)}(hb:workB dss=true)(a:Ab){c:Nat}(hc:c<dss.length)(hk:a.nx c<(dss.getD c []).length){j:Nat}(hj:j<(eventsB dss).length):
  exA dss (bumpA a c) j=true↔exA dss a j=true∨∃i,EvIs dss j c (a.nx c) i:=by
 by_cases h3:j<3
 ·
  have e1:exA dss a j=true:=by unfold exA;simp[h3]
  have e2:exA dss (bumpA a c) j=true:=by unfold exA;simp[h3]
  simp[e1,e2]
 ·
  obtain⟨c',k',i',E⟩:=ev_dec hb (by omega) hj;rw[ex_at hb E,ex_at hb E,decide_eq_true_eq,decide_eq_true_eq];show (k'<if c'=c then a.nx c+1 else a.nx c')↔_;by_cases e:c'=c
  ·
   subst e;rw[if_pos rfl];constructor
   ·
    intro h;by_cases h2:k'<a.nx c'
    · exact .inl h2
    ·
     obtain rfl:k'=a.nx c':=by omega
     exact .inr ⟨i',E⟩
   ·
    rintro (h|⟨i,E2⟩)
    · omega
    · have:=(E.one E2).2.1;omega
  ·
   rw[if_neg e];refine⟨fun h => .inl h,?_⟩;rintro (h|⟨i,E2⟩)
   · exact h
   · exact absurd (E.one E2).1 e
theorem ev_first {dss:List (List Dd)}{c k:Nat}(hc:c<dss.length)(hk:k<(dss.getD c []).length)(h4:(dAt dss c k).1≠4):EvIs dss (offN dss c k) c k 0:=⟨hc,hk,num_pos h4,rfl⟩
theorem ev_second {dss:List (List Dd)}{c k:Nat}(hc:c<dss.length)(hk:k<(dss.getD c []).length)(h3:(dAt dss c k).1=3):EvIs dss (offN dss c k+1) c k 1:=⟨hc,hk,by unfold numD;rw[if_neg (by omega),if_pos h3];omega,rfl⟩
theorem ev_only {dss:List (List Dd)}{c k j i:Nat}(E:EvIs dss j c k i)(h3:(dAt dss c k).1≠3):j=offN dss c k∧i=0:=by
 have h1:=E.hi;have h2:=E.hj;unfold numD at h1;rw[if_neg E.kind,if_neg h3] at h1;omega
theorem nxt_first {dss:List (List Dd)}(hb:workB dss=true)(a:Ab)(τ:Nat→Nat){c:Nat}(hc:c<dss.length)(hk:a.nx c<(dss.getD c []).length)(h4:(dAt dss c (a.nx c)).1≠4):Nxt (sysW dss) (stA dss a τ) (offN dss c (a.nx c)):=by
 have E:=ev_first hc hk h4;have hl:=E.lt hb;refine⟨hl.1,hl.2,?_,?_,?_⟩
 ·
  rintro⟨_,h⟩;rw[ex_at hb E,decide_eq_true_eq] at h;omega
 ·
  intro i h3 hi hck;have hin:i<(eventsB dss).length:=by omega
  obtain⟨c',k',i',E'⟩:=ev_dec hb h3 hin;rw[(sys_at hb E').1,(sys_at hb E).1] at hck;obtain rfl:c'=c:=by omega
  refine⟨hin,?_⟩;rw[ex_at hb E',decide_eq_true_eq];rcases (E'.ord E).1 hi with h|⟨_,h|⟨_,h⟩⟩<;>omega
 ·
  rintro i ⟨hin,hX⟩ h3 hck;obtain⟨c',k',i',E'⟩:=ev_dec hb h3 hin;rw[(sys_at hb E').1,(sys_at hb E).1] at hck;obtain rfl:c'=c:=by omega
  rw[ex_at hb E',decide_eq_true_eq] at hX;exact (E'.ord E).2 (.inr ⟨rfl,.inl hX⟩)
theorem evM_at {dss:List (List Dd)}(hb:workB dss=true){c k:Nat}(hc:c<dss.length)(hk:k<(dss.getD c []).length)(h4:(dAt dss c k).1≠4):evM (eventsB dss) c k=(offN dss c k:Int):=by
 have E:=ev_first hc hk h4;have hl:=E.lt hb
 have hx:(List.range (eventsB dss).length).find? (fun i=>decide (3≤i)&&(((eventsB dss).getD i zE).1==(c:Int))&&(((eventsB dss).getD i zE).2.1==(k:Int)))=some (offN dss c k):=by
  rw[List.find?_range_eq_some];refine⟨?_,by simpa using hl.2,?_⟩
  ·
   rw[E.at hb];simp[hl.1]
  ·
   intro j hj;by_cases h3:3≤j
   ·
    obtain⟨c',k',i',E'⟩:=ev_dec hb h3 (by omega);rw[E'.at hb];simp only[h3,decide_true,Bool.true_and,Bool.not_eq_true',Bool.and_eq_false_iff,beq_eq_false_iff_ne,ne_eq];rcases (E'.ord E).1 hj with h|⟨_,h|⟨_,h⟩⟩
    · exact .inl (by omega)
    · exact .inr (by omega)
    · omega
   · simp[h3]
 unfold evM;rw[hx]
structure MI (dss:List (List Dd))(b:Bd)(a:Ab)(τ:Nat→Nat)(T:Nat)(z:Int):Prop where
 rep:Rep dss b a
 inv:AInv (sysW dss) (stA dss a τ) T z
 nxl:∀c,c<dss.length→a.nx c≤(dss.getD c []).length
 nt:∀c x,x∈a.N c→c<dss.length∧∃k,EvIs dss x c k 0∧k<a.nx c∧(dAt dss c k).1=2∧gAt dss c k=0∧∀k',k<k'→k'<a.nx c→(dAt dss c k').1≠4∧wholeD (dAt dss c k')=false
theorem st_N (dss:List (List Dd))(a:Ab)(τ:Nat→Nat)(c:Nat):(stA dss a τ).N (c:Int)=a.N c:=by
 show (if 0≤(c:Int) then a.N (c:Int).toNat else [])=_;rw[if_pos (by omega),Int.toNat_natCast]
theorem nx_at {dss:List (List Dd)}{b:Bd}{a:Ab}(h:Rep dss b a){c:Nat}(hc:c<dss.length):b.nxt.getD c 0=(a.nx c:Int)∧nxN b c=a.nx c:=by
 have e:b.nxt.getD c 0=(a.nx c:Int):=by rw[h.nxt,map_at _ _ hc]
 exact⟨e,by unfold nxN;rw[e,Int.toNat_natCast]⟩
theorem nts_at {dss:List (List Dd)}{b:Bd}{a:Ab}(h:Rep dss b a){c:Nat}(hc:c<dss.length):b.nts.getD c []=(a.N c).map (ntE dss):=by rw[h.nts,map_at _ _ hc]
theorem lst_at {dss:List (List Dd)}{b:Bd}{a:Ab}(h:Rep dss b a){p:Nat}(hp:p<3):b.lst.getD p 0=(lastA a p:Int)∧b.plc.getD p 0=vlN dss (lastA a p)∧b.rws.getD p []=(a.R p).map Int.ofNat:=by
 refine⟨by rw[h.lst,map_at _ _ hp],by rw[h.plc,map_at _ _ hp],by rw[h.rws,map_at _ _ hp]⟩
theorem last_some {dss:List (List Dd)}{a:Ab}{τ:Nat→Nat}{T:Nat}{z:Int}(h:AInv (sysW dss) (stA dss a τ) T z){p:Nat}(hp:p<3):(a.R p).getLast? = some (lastA a p):=by
 obtain⟨h1,h2,h3,h4,_⟩:=h.beg p hp;have hm:p∈a.R p:=(h.rows p p).2 ⟨⟨h1,fun hn=>by have:=(h.note _ _ hn).2.1;omega⟩,h2,h3⟩;unfold lastA
 cases hl:(a.R p).getLast? with
 |none=>rw[List.getLast?_eq_none_iff.1 hl] at hm;cases hm
 |some y=>rfl
theorem place_d {dss:List (List Dd)}(hb:workB dss=true){c k:Nat}(hc:c<dss.length)(hk:k<(dss.getD c []).length):∃p:Nat,p<3∧(dAt dss c k).2.1=(p:Int):=by
 have hd:=okD_restE (okC_of hb hc k hk);obtain⟨p,hp⟩:=Int.eq_ofNat_of_zero_le hd.1;exact⟨p,by have:=hd.2.1;omega,hp⟩
theorem rdg_at {dss:List (List Dd)}(hb:workB dss=true){b:Bd}{a:Ab}{τ:Nat→Nat}{T:Nat}{z:Int}(M:MI dss b a τ T z){c p:Nat}(hc:c<dss.length)(hp:p<3):
  ∃f:Nat,((stA dss a τ).L (sysW dss) (c:Int) p).getLast? = some f∧rdgM b c p=(vlN dss f,(f:Int)):=by
 have hl:=last_some M.inv hp;obtain⟨e1,e2,_⟩:=lst_at M.rep hp
 have hfil:((a.N c).map (ntE dss)).reverse.find? (fun x=>x.1==(p:Int))=(((a.N c).filter (fun x=>(sysW dss).pl x==p)).getLast?).map (ntE dss):=by
  rw[←List.head?_filter,List.filter_reverse,List.head?_reverse,List.filter_map,List.getLast?_map]
  have:(a.N c).filter ((fun x:Nt=>x.1==(p:Int)) ∘ ntE dss)=(a.N c).filter (fun x=>(sysW dss).pl x==p):=by
   refine List.filter_congr (fun x hx=>?_);obtain⟨_,k,E,_⟩:=M.nt c x hx;obtain⟨q,_,hq⟩:=place_d hb E.hc E.hk;show (plN dss x==(p:Int))=((sysW dss).pl x==p);rw[(sys_at hb E).2.1];unfold plN;rw[E.at hb];show ((dAt dss c k).2.1==(p:Int))=_;rw[hq,Int.toNat_natCast];by_cases e:q=p
   · subst e;simp
   ·
    have:¬((q:Int)=(p:Int)):=by omega
    rw[beq_eq_false_iff_ne.2 this,beq_eq_false_iff_ne.2 e]
  rw[this]
 unfold rdgM;rw[nts_at M.rep hc,hfil];unfold AbsSt.L;rw[st_N];show ∃f,(a.R p++(a.N c).filter (fun x=>(sysW dss).pl x==p)).getLast? = some f∧_;rw[List.getLast?_append]
 cases hq:((a.N c).filter (fun x=>(sysW dss).pl x==p)).getLast? with
 |none=>
  refine⟨lastA a p,by rw[hl];rfl,?_⟩;simp only[Option.map_none];rw[e1,e2]
 |some y=>
  exact⟨y,rfl,rfl⟩
theorem st_bump {dss:List (List Dd)}(hb:workB dss=true)(a:Ab)(τ:Nat→Nat){c:Nat}(hc:c<dss.length)(hk:a.nx c<(dss.getD c []).length)(h4:(dAt dss c (a.nx c)).1=4):stA dss (bumpA a c) τ=stA dss a τ:=by
 unfold stA
 congr 1
 funext j;apply propext;constructor
 ·
  rintro⟨h1,h2⟩;refine⟨h1,?_⟩;rcases (ex_bump hb a hc hk h1).1 h2 with h|⟨i,E⟩
  · exact h
  · exact absurd h4 E.kind
 ·
  rintro⟨h1,h2⟩;exact⟨h1,(ex_bump hb a hc hk h1).2 (.inl h2)⟩
theorem X_one {dss:List (List Dd)}(hb:workB dss=true)(a:Ab){c:Nat}(hc:c<dss.length)(hk:a.nx c<(dss.getD c []).length)(h4:(dAt dss c (a.nx c)).1≠4)(h3:(dAt dss c (a.nx c)).1≠3)(j:Nat):
  (j<(eventsB dss).length∧exA dss (bumpA a c) j=true)↔(j<(eventsB dss).length∧exA dss a j=true)∨j=offN dss c (a.nx c):=by
 constructor
 ·
  rintro⟨h1,h2⟩;rcases (ex_bump hb a hc hk h1).1 h2 with h|⟨i,E⟩
  · exact .inl ⟨h1,h⟩
  · exact .inr (ev_only E h3).1
 ·
  rintro (⟨h1,h2⟩|rfl)
  · exact⟨h1,(ex_bump hb a hc hk h1).2 (.inl h2)⟩
  ·
   have E:=ev_first hc hk h4;exact⟨(E.lt hb).2,(ex_bump hb a hc hk (E.lt hb).2).2 (.inr ⟨0,E⟩)⟩
theorem X_two {dss:List (List Dd)}(hb:workB dss=true)(a:Ab){c:Nat}(hc:c<dss.length)(hk:a.nx c<(dss.getD c []).length)(h3:(dAt dss c (a.nx c)).1=3)(j:Nat):
  (j<(eventsB dss).length∧exA dss (bumpA a c) j=true)↔((j<(eventsB dss).length∧exA dss a j=true)∨j=offN dss c (a.nx c))∨j=offN dss c (a.nx c)+1:=by
 have E1:=ev_first hc hk (by omega:(dAt dss c (a.nx c)).1≠4);have E2:=ev_second hc hk h3;constructor
 ·
  rintro⟨h1,h2⟩;rcases (ex_bump hb a hc hk h1).1 h2 with h|⟨i,E⟩
  · exact .inl (.inl ⟨h1,h⟩)
  ·
   have hi:=E.hi;have hj:=E.hj;unfold numD at hi;rw[if_neg (by omega),if_pos h3] at hi;rcases (by omega:i=0∨i=1) with rfl|rfl
   · exact .inl (.inr hj)
   · exact .inr hj
 ·
  rintro ((⟨h1,h2⟩|rfl)|rfl)
  · exact⟨h1,(ex_bump hb a hc hk h1).2 (.inl h2)⟩
  · exact⟨(E1.lt hb).2,(ex_bump hb a hc hk (E1.lt hb).2).2 (.inr ⟨0,E1⟩)⟩
  · exact⟨(E2.lt hb).2,(ex_bump hb a hc hk (E2.lt hb).2).2 (.inr ⟨1,E2⟩)⟩
theorem rs_in {es:List Ev}(hx:es.length≤12){r:Int}(h:r∈idxB rdE es):∃j:Nat,r=(j:Int)∧j<es.length∧(es.getD j zE).2.2.1=true:=by
 unfold idxB at h;rw[if_pos hx] at h;have h1:=idxK_lt _ _ _ _ h;have h2:=idxK_mem _ _ _ _ h;obtain⟨j,hj⟩:=Int.eq_ofNat_of_zero_le h1.1;rw[hj,Int.toNat_natCast] at h2;exact⟨j,hj,by omega,h2⟩
theorem rdI_two {d:Dd}(h:d.1=2)(i:Nat):rdI d i=false:=by unfold rdI;simp[h]
theorem rdI_first {d:Dd}(h:d.1≠2):rdI d 0=true:=by unfold rdI;simp[h]
theorem rdI_second (d:Dd):rdI d 1=false:=by unfold rdI;simp
theorem rep_nxt {dss:List (List Dd)}{b:Bd}{a:Ab}(h:Rep dss b a){c:Nat}(hc:c<dss.length):b.nxt.set c (b.nxt.getD c 0+1)=(List.range dss.length).map (fun c'=>((bumpA a c).nx c':Int)):=by
 rw[(nx_at h hc).1,h.nxt,map_set];refine List.map_congr_left (fun i _=>?_);show _=((if i=c then a.nx c+1 else a.nx i:Nat):Int);split
 · rename_i e;subst e;omega
 · rfl
theorem nx_bump (a:Ab)(c c':Nat):(bumpA a c).nx c'=if c'=c then a.nx c+1 else a.nx c':=rfl
theorem nxl_bump {dss:List (List Dd)}{a:Ab}(h:∀c,c<dss.length→a.nx c≤(dss.getD c []).length){c:Nat}(hk:a.nx c<(dss.getD c []).length):∀c',c'<dss.length→(bumpA a c).nx c'≤(dss.getD c' []).length:=by
 intro c' hc';rw[nx_bump];split
 · rename_i e;subst e;omega
 · exact h c' hc'
theorem nt_bump {dss:List (List Dd)}{b:Bd}{a:Ab}{τ:Nat→Nat}{T:Nat}{z:Int}(M:MI dss b a τ T z){c:Nat}(hp:a.N c≠[]→(dAt dss c (a.nx c)).1≠4∧wholeD (dAt dss c (a.nx c))=false):
  ∀c' x,x∈a.N c'→c'<dss.length∧∃k,EvIs dss x c' k 0∧k<(bumpA a c).nx c'∧(dAt dss c' k).1=2∧gAt dss c' k=0∧∀k',k<k'→k'<(bumpA a c).nx c'→(dAt dss c' k').1≠4∧wholeD (dAt dss c' k')=false:=by
 intro c' x hx;obtain⟨h1,k,E,h2,h3,h4,h5⟩:=M.nt c' x hx;refine⟨h1,k,E,?_,h3,h4,fun k' hk hk'=>?_⟩
 ·
  rw[nx_bump];split
  · rename_i e;subst e;omega
  · exact h2
 ·
  rw[nx_bump] at hk';split at hk'
  ·
   rename_i e;subst e;by_cases e2:k'=a.nx c'
   ·
    subst e2;exact hp (fun e=>by rw[e] at hx;cases hx)
   · exact h5 k' hk (by omega)
  · exact h5 k' hk hk'
theorem oneM_wait {dss:List (List Dd)}(hb:workB dss=true){b:Bd}{a:Ab}{τ:Nat→Nat}{T:Nat}{z:Int}(M:MI dss b a τ T z){c:Nat}(hc:c<dss.length)(hk:a.nx c<(dss.getD c []).length)(h4:(dAt dss c (a.nx c)).1=4)(hN:a.N c=[]):
  MI dss (oneM dss (eventsB dss) b c) (bumpA a c) τ T z:=by
 have hd:deedM dss (eventsB dss) b c (nxN b c)=b:=by
  rw[(nx_at M.rep hc).2];unfold deedM;rw[if_neg (by omega),if_neg (by omega),if_neg (by omega),if_neg (by omega)]
 have hex:∀j,j<(eventsB dss).length→exA dss (bumpA a c) j=exA dss a j:=by
  intro j hj;have:=ex_bump hb a hc hk hj
  cases h1:exA dss a j with
  |true=>exact this.2 (.inl h1)
  |false=>
   cases h2:exA dss (bumpA a c) j with
   |false=>rfl
   |true=>
    rcases this.1 h2 with h|⟨i,E⟩
    · rw[h1] at h;cases h
    · exact absurd h4 E.kind
 have hx:=eventsB_12 dss;unfold oneM;rw[hd];refine⟨⟨rep_nxt M.rep hc,M.rep.nts,M.rep.rws,M.rep.lst,M.rep.plc,?_,?_⟩,by rw[st_bump hb a τ hc hk h4];exact M.inv,nxl_bump M.nxl hk,nt_bump M (fun h=>absurd hN h)⟩
 ·
  show b.fr=_;rw[M.rep.fr];refine List.map_congr_left (fun r hr=>?_);obtain⟨j,rfl,hj,_⟩:=rs_in hx hr;rw[Int.toNat_natCast,hex j hj];rfl
 ·
  show b.sn=_;rw[M.rep.sn];refine List.map_congr_left (fun r hr=>?_);obtain⟨j,rfl,hj,_⟩:=rs_in hx hr;rw[Int.toNat_natCast,hex j hj];rfl
theorem note_ex {dss:List (List Dd)}(hb:workB dss=true){b:Bd}{a:Ab}{τ:Nat→Nat}{T:Nat}{z:Int}(M:MI dss b a τ T z){c x:Nat}(hc:c<dss.length)(hk:a.nx c<(dss.getD c []).length)(h1:(dAt dss c (a.nx c)).1=1)(hg:gAt dss c (a.nx c)=0)(hx:x∈a.N c):
  kepP dss (eventsB dss) x (offN dss c (a.nx c))=true:=by
 obtain⟨_,k,E,h2,h3,h4,h5⟩:=M.nt c x hx;have Ej:=ev_first hc hk (by omega:(dAt dss c (a.nx c)).1≠4);have hlt:x<offN dss c (a.nx c):=(E.ord Ej).2 (.inr ⟨rfl,.inl h2⟩);have hx3:=(E.lt hb).1
 have hcls:clsD dss c k≠clsD dss c (a.nx c):=by
  intro e;rcases ((cls_iff (okC_of hb hc) (okC_of hb hc) E.hk hk E.kind Ej.kind).1 e).2 with h|h
  · omega
  · exact h.1 h4
 have hb1:behP (eventsB dss) x (offN dss c (a.nx c))=true:=by
  unfold behP;rw[E.at hb,Ej.at hb];simp[hlt,hx3]
 have hw1:wholeD (dAt dss c k)=false:=by
  unfold wholeD;rw[h3,show (dAt dss c k).2.2.2=0 from h4];rfl
 have hw2:wholeD (dAt dss c (a.nx c))=false:=by
  unfold wholeD;rw[h1,show (dAt dss c (a.nx c)).2.2.2=0 from hg];rfl
 have hwt:waitsD (dss.getD c []) k (a.nx c)=false:=waitsD_no (fun j hj1 hj2=>(h5 j hj1 hj2).1);unfold kepP;rw[hb1];unfold kepQ;have e1:dOf dss ((eventsB dss).getD x zE)=dAt dss c k:=by unfold dOf;rw[E.at hb];simp only[Int.toNat_natCast]
 have e2:dOf dss ((eventsB dss).getD (offN dss c (a.nx c)) zE)=dAt dss c (a.nx c):=by unfold dOf;rw[Ej.at hb];simp only[Int.toNat_natCast]
 rw[e1,e2,hw1,hw2];unfold rdE csE;rw[E.at hb,Ej.at hb];simp only[Int.toNat_natCast];rw[hwt];have r1:rdI (dAt dss c k) 0=false:=rdI_two h3 0;have r2:rdI (dAt dss c (a.nx c)) 0=true:=rdI_first (by omega);rw[r1,r2];simp[hx3,hcls]
abbrev readA (dss:List (List Dd))(a:Ab)(c f:Nat):Ab:={ bumpA a c with F:=fun i=>if i=offN dss c (a.nx c) then f else a.F i }
theorem oneM_read_t {dss:List (List Dd)}(hb:workB dss=true){b:Bd}{a:Ab}{τ:Nat→Nat}{T:Nat}{z:Int}(M:MI dss b a τ T z)(hT:1≤T){c:Nat}(hc:c<dss.length)(hk:a.nx c<(dss.getD c []).length)(h1:(dAt dss c (a.nx c)).1=1)
  (hz:clsD dss c (a.nx c)=z) (hcan:gAt dss c (a.nx c)=0∨a.N c=[]):
  ∃f,((stA dss a τ).L (sysW dss) (c:Int) (dAt dss c (a.nx c)).2.1.toNat).getLast? = some f∧MI dss (oneM dss (eventsB dss) b c) (readA dss a c f) (fun i=>if i=offN dss c (a.nx c) then T else τ i) T z:=by
 have h4:(dAt dss c (a.nx c)).1≠4:=by omega
 have h3:(dAt dss c (a.nx c)).1≠3:=by omega
 have E:=ev_first hc hk h4;obtain⟨s1,s2,s3,s4⟩:=sys_at hb E;obtain⟨p,hp,ep⟩:=place_d hb hc hk;obtain⟨f,hf,er⟩:=rdg_at hb M hc hp;have hN:=nxt_first hb a τ hc hk h4;have hrd:(sysW dss).rd (offN dss c (a.nx c))=true:=by rw[s3];exact rdI_first (by omega)
 have hpl:(sysW dss).pl (offN dss c (a.nx c))=p:=by rw[s2,ep,Int.toNat_natCast]
 have I:=M.inv.doRead hT hN hrd (by rw[s4];exact hz) (fun x hx=>by
  rw[s1,st_N] at hx;rcases hcan with hg|hg
  · exact note_ex hb M hc hk h1 hg hx
  · rw[hg] at hx;cases hx) (f:=f) (by rw[s1,hpl];exact hf)
 have hx:=eventsB_12 dss
 have hd:deedM dss (eventsB dss) b c (nxN b c)=seeM (idxB rdE (eventsB dss)) b (offN dss c (a.nx c):Int) (vlN dss f) (f:Int):=by
  rw[(nx_at M.rep hc).2];unfold deedM;rw[if_pos h1,evM_at hb hc hk h4,ep,Int.toNat_natCast,er]
 refine⟨f,by rw[ep,Int.toNat_natCast];exact hf,?_⟩
 have hst:stA dss { bumpA a c with F:=fun i=>if i=offN dss c (a.nx c) then f else a.F i } (fun i=>if i=offN dss c (a.nx c) then T else τ i)=(stA dss a τ).doRead T (offN dss c (a.nx c)) f:=by
  unfold stA AbsSt.doRead
  congr 1
  funext j;apply propext;exact X_one hb a hc hk h4 h3 j
 have hexr:∀j,j<(eventsB dss).length→exA dss { bumpA a c with F:=fun i=>if i=offN dss c (a.nx c) then f else a.F i } j=(decide (j=offN dss c (a.nx c))||exA dss a j):=by
  intro j hj;show exA dss (bumpA a c) j=_;have:=X_one hb a hc hk h4 h3 j
  cases q:exA dss (bumpA a c) j with
  |true=>
   rcases this.1 ⟨hj,q⟩ with h|h
   · rw[h.2];simp
   · simp[h]
  |false=>
   have n1:¬j=offN dss c (a.nx c):=fun e=>by have:=(this.2 (.inr e)).2;rw[q] at this;cases this
   have n2:exA dss a j=false:=by
    cases q2:exA dss a j with
    |false=>rfl
    |true=>have:=(this.2 (.inl ⟨hj,q2⟩)).2;rw[q] at this;cases this
   simp[n1,n2]
 unfold oneM;rw[hd];refine⟨⟨rep_nxt M.rep hc,M.rep.nts,M.rep.rws,M.rep.lst,M.rep.plc,?_,?_⟩,by rw[hst];exact I,nxl_bump M.nxl hk,nt_bump M (fun h=>⟨h4,?_⟩)⟩
 ·
  show setR (idxB rdE (eventsB dss)) _ _ b.fr=_;rw[M.rep.fr,set_self];refine List.map_congr_left (fun r hr=>?_);obtain⟨j,rfl,hj,_⟩:=rs_in hx hr;rw[Int.toNat_natCast,hexr j hj];show _=if _ then ((if j=offN dss c (a.nx c) then f else a.F j:Nat):Int) else -1
  by_cases e:j=offN dss c (a.nx c)
  · simp[e]
  · simp[e,show ¬((j:Int)=(offN dss c (a.nx c):Int)) by omega]
 ·
  show setR (idxB rdE (eventsB dss)) _ _ b.sn=_;rw[M.rep.sn,set_self];refine List.map_congr_left (fun r hr=>?_);obtain⟨j,rfl,hj,_⟩:=rs_in hx hr;rw[Int.toNat_natCast,hexr j hj];show _=if _ then vlN dss (if j=offN dss c (a.nx c) then f else a.F j) else -1
  by_cases e:j=offN dss c (a.nx c)
  · simp[e]
  · simp[e,show ¬((j:Int)=(offN dss c (a.nx c):Int)) by omega]
 ·
  rcases hcan with hg|hg
  ·
   unfold wholeD;rw[h1,show (dAt dss c (a.nx c)).2.2.2=0 from hg];rfl
  · exact absurd hg h
theorem oneM_read {dss:List (List Dd)}(hb:workB dss=true){b:Bd}{a:Ab}{τ:Nat→Nat}{T:Nat}{z:Int}(M:MI dss b a τ T z)(hT:1≤T){c:Nat}(hc:c<dss.length)(hk:a.nx c<(dss.getD c []).length)(h1:(dAt dss c (a.nx c)).1=1)
  (hz:clsD dss c (a.nx c)=z) (hcan:gAt dss c (a.nx c)=0∨a.N c=[]):
  ∃f τ',((stA dss a τ).L (sysW dss) (c:Int) (dAt dss c (a.nx c)).2.1.toNat).getLast? = some f∧MI dss (oneM dss (eventsB dss) b c) (readA dss a c f) τ' T z:=by
 obtain⟨f,h,M'⟩:=oneM_read_t hb M hT hc hk h1 hz hcan;exact⟨f,_,h,M'⟩
theorem vl_at {dss:List (List Dd)}(hb:workB dss=true){j c k i:Nat}(E:EvIs dss j c k i):plN dss j=(dAt dss c k).2.1∧vlN dss j=vlI (dAt dss c k) i:=by
 unfold plN vlN;rw[E.at hb];exact⟨rfl,rfl⟩
theorem vlI_w {d:Dd}{i:Nat}(h:rdI d i=false):vlI d i=d.2.2.1:=by unfold vlI;rw[h];rfl
theorem ex_w {dss:List (List Dd)}(hb:workB dss=true)(a:Ab){c:Nat}(hc:c<dss.length)(hk:a.nx c<(dss.getD c []).length)(h2:(dAt dss c (a.nx c)).1=2){j:Nat}(hj:j<(eventsB dss).length)(hr:((eventsB dss).getD j zE).2.2.1=true):
  exA dss (bumpA a c) j=exA dss a j:=by
 have this:=X_one hb a hc hk (by omega) (by omega) j
 have hne:j≠offN dss c (a.nx c):=by
  intro e;have E:=ev_first hc hk (by omega:(dAt dss c (a.nx c)).1≠4);rw[e,E.at hb] at hr;rw[show rdI (dAt dss c (a.nx c)) 0=false from rdI_two h2 0] at hr;cases hr
 cases q2:exA dss a j with
 |true=>exact (this.2 (.inl ⟨hj,q2⟩)).2
 |false=>
  cases q:exA dss (bumpA a c) j with
  |false=>rfl
  |true=>
   rcases this.1 ⟨hj,q⟩ with h|h
   · rw[q2] at h;cases h.2
   · exact absurd h hne
theorem whole_no {d:Dd}(h:d.1≠3)(hg:d.2.2.2=0):wholeD d=false:=by
 unfold wholeD;rw[beq_eq_false_iff_ne.2 h,hg];rfl
abbrev noteA (dss:List (List Dd))(a:Ab)(c:Nat):Ab:={ bumpA a c with N:=fun c'=>if c'=c then a.N c'++[offN dss c (a.nx c)] else a.N c' }
abbrev inkA (dss:List (List Dd))(a:Ab)(c p:Nat):Ab:={ bumpA a c with R:=fun q=>if q=p then a.R q++[offN dss c (a.nx c)] else a.R q }
theorem oneM_note {dss:List (List Dd)}(hb:workB dss=true){b:Bd}{a:Ab}{τ:Nat→Nat}{T:Nat}{z:Int}(M:MI dss b a τ T z){c:Nat}(hc:c<dss.length)(hk:a.nx c<(dss.getD c []).length)(h2:(dAt dss c (a.nx c)).1=2)(hg:gAt dss c (a.nx c)=0):
  MI dss (oneM dss (eventsB dss) b c) (noteA dss a c) τ T z:=by
 have h4:(dAt dss c (a.nx c)).1≠4:=by omega
 have h3:(dAt dss c (a.nx c)).1≠3:=by omega
 have E:=ev_first hc hk h4;obtain⟨s1,s2,s3,s4⟩:=sys_at hb E;have hN:=nxt_first hb a τ hc hk h4;have hrd:(sysW dss).rd (offN dss c (a.nx c))=false:=by rw[s3];exact rdI_two h2 0
 have I:=M.inv.doNote hN hrd;have hx:=eventsB_12 dss
 have hd:deedM dss (eventsB dss) b c (nxN b c)={ b with nts:=b.nts.set c (b.nts.getD c []++[((dAt dss c (a.nx c)).2.1,(dAt dss c (a.nx c)).2.2.1,(offN dss c (a.nx c):Int))]) }:=by
  rw[(nx_at M.rep hc).2];unfold deedM;rw[if_neg (by omega),if_neg (by omega),if_neg (by omega),if_pos h2,evM_at hb hc hk h4]
 have hst:stA dss { bumpA a c with N:=fun c'=>if c'=c then a.N c'++[offN dss c (a.nx c)] else a.N c' } τ=(stA dss a τ).doNote (sysW dss) (offN dss c (a.nx c)):=by
  unfold stA AbsSt.doNote
  congr 1
  ·
   funext j;apply propext;exact X_one hb a hc hk h4 h3 j
  ·
   funext c';rw[s1];show (if 0≤c' then (if c'.toNat=c then a.N c'.toNat++[offN dss c (a.nx c)] else a.N c'.toNat) else [])=if c'=(c:Int) then (if 0≤c' then a.N c'.toNat else [])++[offN dss c (a.nx c)] else (if 0≤c' then a.N c'.toNat else [])
   by_cases h0:0≤c'
   ·
    rw[if_pos h0];by_cases e:c'=(c:Int)
    · subst e;simp
    · rw[if_neg (by omega),if_neg e,if_pos h0]
   · rw[if_neg h0,if_neg (by omega),if_neg h0]
 unfold oneM;rw[hd];refine⟨⟨rep_nxt M.rep hc,?_,M.rep.rws,M.rep.lst,M.rep.plc,?_,?_⟩,by rw[hst];exact I,nxl_bump M.nxl hk,?_⟩
 ·
  show b.nts.set c _=_;rw[nts_at M.rep hc,M.rep.nts,map_set];refine List.map_congr_left (fun i _=>?_);show _=(if i=c then a.N i++[offN dss c (a.nx c)] else a.N i).map (ntE dss);split
  ·
   rename_i e;subst e;rw[List.map_append]
   congr 1
   show _=[ntE dss _];unfold ntE;rw[(vl_at hb E).1,(vl_at hb E).2,vlI_w (rdI_two h2 0)]
  · rfl
 ·
  show b.fr=_;rw[M.rep.fr];refine List.map_congr_left (fun r hr=>?_);obtain⟨j,rfl,hj,hjr⟩:=rs_in hx hr;rw[Int.toNat_natCast];show _=if exA dss (bumpA a c) j=true then _ else _
  rw[ex_w hb a hc hk h2 hj hjr];rfl
 ·
  show b.sn=_;rw[M.rep.sn];refine List.map_congr_left (fun r hr=>?_);obtain⟨j,rfl,hj,hjr⟩:=rs_in hx hr;rw[Int.toNat_natCast];show _=if exA dss (bumpA a c) j=true then _ else _
  rw[ex_w hb a hc hk h2 hj hjr];rfl
 ·
  intro c' x hxm;have old:=nt_bump M (c:=c) (fun _=>⟨h4,whole_no h3 hg⟩);change x∈(if c'=c then a.N c'++[offN dss c (a.nx c)] else a.N c') at hxm;by_cases e:c'=c
  ·
   rw[if_pos e,List.mem_append] at hxm;rcases hxm with hxm|hxm
   · exact old c' x hxm
   ·
    have ex:x=offN dss c (a.nx c):=by simpa using hxm
    subst e;refine⟨hc,a.nx c',by rw[ex];exact E,?_,h2,hg,fun k' h1 h2'=>?_⟩
    ·
     show a.nx c'<(bumpA a c').nx c';rw[nx_bump,if_pos rfl];omega
    ·
     change k'<(bumpA a c').nx c' at h2';rw[nx_bump,if_pos rfl] at h2';omega
  ·
   rw[if_neg e] at hxm;exact old c' x hxm
theorem oneM_ink_t {dss:List (List Dd)}(hb:workB dss=true){b:Bd}{a:Ab}{τ:Nat→Nat}{T:Nat}{z:Int}(M:MI dss b a τ T z)(hT:1≤T){c:Nat}(hc:c<dss.length)(hk:a.nx c<(dss.getD c []).length)(h2:(dAt dss c (a.nx c)).1=2)(hg:gAt dss c (a.nx c)≠0)
  (hz:clsD dss c (a.nx c)=z) (hN0:a.N c=[]):
  MI dss (oneM dss (eventsB dss) b c) (inkA dss a c (dAt dss c (a.nx c)).2.1.toNat) (fun i=>if i=offN dss c (a.nx c) then T else τ i) T z:=by
 have h4:(dAt dss c (a.nx c)).1≠4:=by omega
 have h3:(dAt dss c (a.nx c)).1≠3:=by omega
 have E:=ev_first hc hk h4;obtain⟨s1,s2,s3,s4⟩:=sys_at hb E;obtain⟨p,hp,ep⟩:=place_d hb hc hk;have hN:=nxt_first hb a τ hc hk h4;have hrd:(sysW dss).rd (offN dss c (a.nx c))=false:=by rw[s3];exact rdI_two h2 0
 have hpl:(sysW dss).pl (offN dss c (a.nx c))=p:=by rw[s2,ep,Int.toNat_natCast]
 have I:=M.inv.doInk hT hN hrd (by rw[s4];exact hz) (by rw[s1,st_N];exact hN0);have hx:=eventsB_12 dss;have hg0:0<gAt dss c (a.nx c):=by have:=(g_in (okC_of hb hc) hk).1;omega
 have hd:deedM dss (eventsB dss) b c (nxN b c)=inkM b p (dAt dss c (a.nx c)).2.2.1 (offN dss c (a.nx c):Int):=by
  rw[(nx_at M.rep hc).2];unfold deedM;rw[if_neg (by omega),if_neg (by omega),if_pos ⟨h2,hg0⟩,evM_at hb hc hk h4,ep,Int.toNat_natCast]
 rw[ep,Int.toNat_natCast]
 have hst:stA dss { bumpA a c with R:=fun q=>if q=p then a.R q++[offN dss c (a.nx c)] else a.R q } (fun i=>if i=offN dss c (a.nx c) then T else τ i)=(stA dss a τ).doInk (sysW dss) T (offN dss c (a.nx c)):=by
  unfold stA AbsSt.doInk;rw[hpl]
  congr 1
  funext j;apply propext;exact X_one hb a hc hk h4 h3 j
 have hla:∀q,lastA { bumpA a c with R:=fun q=>if q=p then a.R q++[offN dss c (a.nx c)] else a.R q } q=if q=p then offN dss c (a.nx c) else lastA a q:=by
  intro q;unfold lastA;show ((if q=p then a.R q++[offN dss c (a.nx c)] else a.R q).getLast?).getD q=_;split
  · simp
  · rfl
 unfold oneM;rw[hd];refine⟨⟨rep_nxt M.rep hc,M.rep.nts,?_,?_,?_,?_,?_⟩,by rw[hst];exact I,nxl_bump M.nxl hk,nt_bump M (fun h=>absurd hN0 h)⟩
 ·
  show b.rws.set p (b.rws.getD p []++[(offN dss c (a.nx c):Int)])=_;rw[(lst_at M.rep hp).2.2,M.rep.rws,map_set];refine List.map_congr_left (fun q _=>?_);show _=(if q=p then a.R q++[offN dss c (a.nx c)] else a.R q).map Int.ofNat;split
  · rename_i e;subst e;rw[List.map_append];rfl
  · rfl
 ·
  show b.lst.set p (offN dss c (a.nx c):Int)=_;rw[M.rep.lst,map_set];refine List.map_congr_left (fun q _=>?_);rw[hla];split<;>rfl
 ·
  show b.plc.set p (dAt dss c (a.nx c)).2.2.1=_;rw[M.rep.plc,map_set];refine List.map_congr_left (fun q _=>?_);rw[hla];split
  · rw[(vl_at hb E).2,vlI_w (rdI_two h2 0)]
  · rfl
 ·
  show b.fr=_;rw[M.rep.fr];refine List.map_congr_left (fun r hr=>?_);obtain⟨j,rfl,hj,hjr⟩:=rs_in hx hr;rw[Int.toNat_natCast];show _=if exA dss (bumpA a c) j=true then _ else _
  rw[ex_w hb a hc hk h2 hj hjr];rfl
 ·
  show b.sn=_;rw[M.rep.sn];refine List.map_congr_left (fun r hr=>?_);obtain⟨j,rfl,hj,hjr⟩:=rs_in hx hr;rw[Int.toNat_natCast];show _=if exA dss (bumpA a c) j=true then _ else _
  rw[ex_w hb a hc hk h2 hj hjr];rfl
theorem oneM_ink {dss:List (List Dd)}(hb:workB dss=true){b:Bd}{a:Ab}{τ:Nat→Nat}{T:Nat}{z:Int}(M:MI dss b a τ T z)(hT:1≤T){c:Nat}(hc:c<dss.length)(hk:a.nx c<(dss.getD c []).length)(h2:(dAt dss c (a.nx c)).1=2)(hg:gAt dss c (a.nx c)≠0)
  (hz:clsD dss c (a.nx c)=z) (hN0:a.N c=[]):
  ∃ τ',MI dss (oneM dss (eventsB dss) b c) (inkA dss a c (dAt dss c (a.nx c)).2.1.toNat) τ' T z:=⟨_,oneM_ink_t hb M hT hc hk h2 hg hz hN0⟩
abbrev swapA (dss:List (List Dd))(a:Ab)(c p:Nat):Ab:={ bumpA a c with F:=fun i=>if i=offN dss c (a.nx c) then lastA a p else a.F i,R:=fun q=>if q=p then a.R q++[offN dss c (a.nx c)+1] else a.R q }
abbrev flushA (a:Ab)(c p x:Nat)(rest:List Nat):Ab:={ a with N:=fun c'=>if c'=c then rest else a.N c',R:=fun q=>if q=p then a.R q++[x] else a.R q }
theorem oneM_swap_t {dss:List (List Dd)}(hb:workB dss=true){b:Bd}{a:Ab}{τ:Nat→Nat}{T:Nat}{z:Int}(M:MI dss b a τ T z)(hT:1≤T){c:Nat}(hc:c<dss.length)(hk:a.nx c<(dss.getD c []).length)(h3:(dAt dss c (a.nx c)).1=3)
  (hz:clsD dss c (a.nx c)=z) (hN0:a.N c=[]):
  MI dss (oneM dss (eventsB dss) b c) (swapA dss a c (dAt dss c (a.nx c)).2.1.toNat) (fun i=>if i=offN dss c (a.nx c)+1 then T else if i=offN dss c (a.nx c) then T else τ i) T z:=by
 have h4:(dAt dss c (a.nx c)).1≠4:=by omega
 have E:=ev_first hc hk h4;have E2:=ev_second hc hk h3;obtain⟨s1,s2,s3,s4⟩:=sys_at hb E;obtain⟨r1,r2,r3,r4⟩:=sys_at hb E2;obtain⟨p,hp,ep⟩:=place_d hb hc hk;have hN:=nxt_first hb a τ hc hk h4;have hrd:(sysW dss).rd (offN dss c (a.nx c))=true:=by rw[s3];exact rdI_first (by omega)
 have hrd2:(sysW dss).rd (offN dss c (a.nx c)+1)=false:=by rw[r3];exact rdI_second _
 have hpl:(sysW dss).pl (offN dss c (a.nx c))=p:=by rw[s2,ep,Int.toNat_natCast]
 have hpl2:(sysW dss).pl (offN dss c (a.nx c)+1)=p:=by rw[r2,ep,Int.toNat_natCast]
 have hlast:=last_some M.inv hp
 have I1:=M.inv.doRead hT hN hrd (by rw[s4];exact hz) (fun x hx=>by rw[s1,st_N,hN0] at hx;cases hx) (f:=lastA a p) (by
  rw[s1,hpl];unfold AbsSt.L;rw[st_N,hN0];show (a.R p++[].filter _).getLast? = _;rw[List.filter_nil,List.append_nil]
  exact hlast)
 have hN2:Nxt (sysW dss) ((stA dss a τ).doRead T (offN dss c (a.nx c)) (lastA a p)) (offN dss c (a.nx c)+1):=by
  have hl:=E2.lt hb;refine⟨hl.1,hl.2,?_,?_,?_⟩
  ·
   rintro (⟨_,h⟩|h)
   · rw[ex_at hb E2,decide_eq_true_eq] at h;omega
   · omega
  ·
   intro i h3' hi hck;by_cases e:i=offN dss c (a.nx c)
   · exact .inr e
   · exact .inl (hN.all i h3' (by omega) (by rw[hck,r1,s1]))
  ·
   rintro i (h|h) h3' hck
   · have:=hN.last i h h3' (by rw[hck,r1,s1]);omega
   · omega
 have I:=I1.doInk hT hN2 hrd2 (by rw[r4];exact hz) (by rw[r1];show (stA dss a τ).N (c:Int)=[];rw[st_N];exact hN0);have hx:=eventsB_12 dss;obtain⟨l1,l2,l3⟩:=lst_at M.rep hp
 have hd:deedM dss (eventsB dss) b c (nxN b c)=inkM (seeM (idxB rdE (eventsB dss)) b (offN dss c (a.nx c):Int) (vlN dss (lastA a p)) (lastA a p:Int)) p (dAt dss c (a.nx c)).2.2.1 ((offN dss c (a.nx c):Int)+1):=by
  rw[(nx_at M.rep hc).2];unfold deedM;rw[if_neg (by omega),if_pos h3,evM_at hb hc hk h4,ep,Int.toNat_natCast,l1,l2]
 rw[ep,Int.toNat_natCast]
 have hst:stA dss { bumpA a c with F:=fun i=>if i=offN dss c (a.nx c) then lastA a p else a.F i,R:=fun q=>if q=p then a.R q++[offN dss c (a.nx c)+1] else a.R q } (fun i=>if i=offN dss c (a.nx c)+1 then T else if i=offN dss c (a.nx c) then T else τ i) =
   ((stA dss a τ).doRead T (offN dss c (a.nx c)) (lastA a p)).doInk (sysW dss) T (offN dss c (a.nx c)+1):=by
  unfold stA AbsSt.doInk AbsSt.doRead;rw[hpl2]
  congr 1
  funext j;apply propext;exact X_two hb a hc hk h3 j
 have hexr:∀j,j<(eventsB dss).length→((eventsB dss).getD j zE).2.2.1=true→exA dss (bumpA a c) j=(decide (j=offN dss c (a.nx c))||exA dss a j):=by
  intro j hj hjr;have this:=X_two hb a hc hk h3 j
  have hne:j≠offN dss c (a.nx c)+1:=by
   intro e;rw[e,E2.at hb,show rdI (dAt dss c (a.nx c)) 1=false from rdI_second _] at hjr;cases hjr
  cases q:exA dss (bumpA a c) j with
  |true=>
   rcases this.1 ⟨hj,q⟩ with (h|h)|h
   · rw[h.2];simp
   · simp[h]
   · exact absurd h hne
  |false=>
   have n1:¬j=offN dss c (a.nx c):=fun e=>by have:=(this.2 (.inl (.inr e))).2;rw[q] at this;cases this
   have n2:exA dss a j=false:=by
    cases q2:exA dss a j with
    |false=>rfl
    |true=>have:=(this.2 (.inl (.inl ⟨hj,q2⟩))).2;rw[q] at this;cases this
   simp[n1,n2]
 have hla:∀q,lastA { bumpA a c with F:=fun i=>if i=offN dss c (a.nx c) then lastA a p else a.F i,R:=fun q=>if q=p then a.R q++[offN dss c (a.nx c)+1] else a.R q } q=if q=p then offN dss c (a.nx c)+1 else lastA a q:=by
  intro q;unfold lastA;show ((if q=p then a.R q++[offN dss c (a.nx c)+1] else a.R q).getLast?).getD q=_;split
  · simp
  · rfl
 unfold oneM;rw[hd];refine⟨⟨rep_nxt M.rep hc,M.rep.nts,?_,?_,?_,?_,?_⟩,by rw[hst];exact I,nxl_bump M.nxl hk,nt_bump M (fun h=>absurd hN0 h)⟩
 ·
  show b.rws.set p (b.rws.getD p []++[(offN dss c (a.nx c):Int)+1])=_;rw[l3,M.rep.rws,map_set];refine List.map_congr_left (fun q _=>?_);show _=(if q=p then a.R q++[offN dss c (a.nx c)+1] else a.R q).map Int.ofNat;split
  · rename_i e;subst e;rw[List.map_append];rfl
  · rfl
 ·
  show b.lst.set p ((offN dss c (a.nx c):Int)+1)=_;rw[M.rep.lst,map_set];refine List.map_congr_left (fun q _=>?_);rw[hla];split<;>rfl
 ·
  show b.plc.set p (dAt dss c (a.nx c)).2.2.1=_;rw[M.rep.plc,map_set];refine List.map_congr_left (fun q _=>?_);rw[hla];split
  · rw[(vl_at hb E2).2,vlI_w (rdI_second _)]
  · rfl
 ·
  show setR (idxB rdE (eventsB dss)) _ _ b.fr=_;rw[M.rep.fr,set_self];refine List.map_congr_left (fun r hr=>?_);obtain⟨j,rfl,hj,hjr⟩:=rs_in hx hr;rw[Int.toNat_natCast];show _=if exA dss (bumpA a c) j=true then ((if j=offN dss c (a.nx c) then lastA a p else a.F j:Nat):Int) else -1
  rw[hexr j hj hjr];by_cases e:j=offN dss c (a.nx c)
  · simp[e]
  · simp[e,show ¬((j:Int)=(offN dss c (a.nx c):Int)) by omega]
 ·
  show setR (idxB rdE (eventsB dss)) _ _ b.sn=_;rw[M.rep.sn,set_self];refine List.map_congr_left (fun r hr=>?_);obtain⟨j,rfl,hj,hjr⟩:=rs_in hx hr;rw[Int.toNat_natCast];show _=if exA dss (bumpA a c) j=true then vlN dss (if j=offN dss c (a.nx c) then lastA a p else a.F j) else -1
  rw[hexr j hj hjr];by_cases e:j=offN dss c (a.nx c)
  · simp[e]
  · simp[e,show ¬((j:Int)=(offN dss c (a.nx c):Int)) by omega]
theorem oneM_swap {dss:List (List Dd)}(hb:workB dss=true){b:Bd}{a:Ab}{τ:Nat→Nat}{T:Nat}{z:Int}(M:MI dss b a τ T z)(hT:1≤T){c:Nat}(hc:c<dss.length)(hk:a.nx c<(dss.getD c []).length)(h3:(dAt dss c (a.nx c)).1=3)
  (hz:clsD dss c (a.nx c)=z) (hN0:a.N c=[]):
  ∃ τ',MI dss (oneM dss (eventsB dss) b c) (swapA dss a c (dAt dss c (a.nx c)).2.1.toNat) τ' T z:=⟨_,oneM_swap_t hb M hT hc hk h3 hz hN0⟩
theorem flush_sim_t {dss:List (List Dd)}(hb:workB dss=true){b:Bd}{a:Ab}{τ:Nat→Nat}{T:Nat}{z:Int}(M:MI dss b a τ T z){c:Nat}(hc:c<dss.length){x:Nat}{rest:List Nat}(hN:a.N c=x::rest):
  MI dss (flushM b c) (flushA a c ((sysW dss).pl x) x rest) (fun i=>if i=x then T+1 else τ i) (T+1) ((sysW dss).cs x):=by
 obtain⟨_,k,E,h1,h2,h3,h5⟩:=M.nt c x (by rw[hN];simp);obtain⟨s1,s2,s3,s4⟩:=sys_at hb E;obtain⟨p,hp,ep⟩:=place_d hb E.hc E.hk;have hpl:(sysW dss).pl x=p:=by rw[s2,ep,Int.toNat_natCast]
 have hst0:(stA dss a τ).N (c:Int)=x::rest:=by rw[st_N];exact hN
 have I0:=M.inv.tick ((sysW dss).cs x) (fun i hi h3' e=>by
  obtain⟨c',k',i',E'⟩:=ev_dec hb h3' hi.1.1;rw[(sys_at hb E').2.2.2,s4] at e;have hc':=(cls_iff (okC_of hb E'.hc) (okC_of hb E.hc) E'.hk E.hk E'.kind E.kind).1 e;obtain⟨rfl,hq⟩:=hc'
  have hkk:k'=k:=by
   rcases hq with hq|hq
   · exact hq
   · exact absurd (hq.2.trans h3) hq.1
  subst hkk;have e1:=(ev_only E' (by omega)).1;have e2:=(ev_only E (by omega)).1;have exx:i=x:=by omega
  subst exx
  exact hi.2 (by rw[s1,hst0];simp))
 have I:=I0.doFlush (by omega) hst0 rfl;have hx:=eventsB_12 dss
 have hfl:flushM b c=inkM { b with nts:=b.nts.set c (rest.map (ntE dss)) } p (vlN dss x) (x:Int):=by
  unfold flushM;rw[nts_at M.rep hc,hN,List.map_cons];show inkM _ (plN dss x).toNat (vlN dss x) (x:Int)=_;rw[(vl_at hb E).1,ep,Int.toNat_natCast]
 rw[hpl]
 have hst:stA dss { a with N:=fun c'=>if c'=c then rest else a.N c',R:=fun q=>if q=p then a.R q++[x] else a.R q } (fun i=>if i=x then T+1 else τ i)=(stA dss a τ).doFlush (sysW dss) (T+1) (c:Int) x rest:=by
  unfold stA AbsSt.doFlush;rw[hpl]
  congr 1
  funext c';show (if 0≤c' then (if c'.toNat=c then rest else a.N c'.toNat) else [])=if c'=(c:Int) then rest else (if 0≤c' then a.N c'.toNat else [])
  by_cases h0:0≤c'
  ·
   rw[if_pos h0];by_cases e:c'=(c:Int)
   · subst e;simp
   · rw[if_neg (by omega),if_neg e,if_pos h0]
  · rw[if_neg h0,if_neg (by omega),if_neg h0]
 have hla:∀q,lastA { a with N:=fun c'=>if c'=c then rest else a.N c',R:=fun q=>if q=p then a.R q++[x] else a.R q } q=if q=p then x else lastA a q:=by
  intro q;unfold lastA;show ((if q=p then a.R q++[x] else a.R q).getLast?).getD q=_;split
  · simp
  · rfl
 rw[hfl];refine⟨⟨M.rep.nxt,?_,?_,?_,?_,M.rep.fr,M.rep.sn⟩,by rw[hst];exact I,M.nxl,?_⟩
 ·
  show b.nts.set c _=_;rw[M.rep.nts,map_set];refine List.map_congr_left (fun i _=>?_);show _=(if i=c then rest else a.N i).map (ntE dss);split<;>rfl
 ·
  show b.rws.set p (b.rws.getD p []++[(x:Int)])=_;rw[(lst_at M.rep hp).2.2,M.rep.rws,map_set];refine List.map_congr_left (fun q _=>?_);show _=(if q=p then a.R q++[x] else a.R q).map Int.ofNat;split
  · rename_i e;subst e;rw[List.map_append];rfl
  · rfl
 ·
  show b.lst.set p (x:Int)=_;rw[M.rep.lst,map_set];refine List.map_congr_left (fun q _=>?_);rw[hla];split<;>rfl
 ·
  show b.plc.set p (vlN dss x)=_;rw[M.rep.plc,map_set];refine List.map_congr_left (fun q _=>?_);rw[hla];split<;>rfl
 ·
  intro c' y hy;refine M.nt c' y ?_;change y∈(if c'=c then rest else a.N c') at hy;split at hy
  · rename_i e;subst e;rw[hN];exact List.mem_cons_of_mem _ hy
  · exact hy
theorem flush_sim {dss:List (List Dd)}(hb:workB dss=true){b:Bd}{a:Ab}{τ:Nat→Nat}{T:Nat}{z:Int}(M:MI dss b a τ T z){c:Nat}(hc:c<dss.length){x:Nat}{rest:List Nat}(hN:a.N c=x::rest):
  ∃ τ',MI dss (flushM b c) (flushA a c ((sysW dss).pl x) x rest) τ' (T+1) ((sysW dss).cs x):=⟨_,flush_sim_t hb M hc hN⟩
theorem cls_get {es:List Ev}(hx:es.length≤12){i:Nat}(hi:i<es.length):(clsB es).getD i 0=csE (es.getD i zE):=by
 unfold clsB;rw[if_pos hx,List.getD_eq_getElem?_getD,List.getElem?_map,List.getElem?_eq_getElem hi,List.getD_eq_getElem?_getD,List.getElem?_eq_getElem hi];rfl
theorem cls_three {dss:List (List Dd)}(hb:workB dss=true){c k:Nat}(hc:c<dss.length)(hk:k<(dss.getD c []).length)(h4:(dAt dss c k).1≠4):3≤clsD dss c k:=by
 rcases cls_at (okC_of hb hc) hk h4 with ⟨_,e⟩|⟨_,j,_,_,_,e⟩
 · have:=off_three dss c k;omega
 · have:=off_three dss c j;omega
theorem cs_pos {dss:List (List Dd)}(hb:workB dss=true){j:Nat}(hj:j<(eventsB dss).length):0≤csE ((eventsB dss).getD j zE):=by
 by_cases hj3:j<3
 · rw[(beg_place hb hj3).2.2.1];omega
 ·
  obtain⟨c',k',i',E'⟩:=ev_dec hb (by omega) hj;have e':csE ((eventsB dss).getD j zE)=clsD dss c' k':=by rw[E'.at hb];rfl
  have:=cls_three hb E'.hc E'.hk E'.kind;omega
end Go.Proofs.YtkmjmnljkidobaaGreat
