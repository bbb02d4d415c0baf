/- Gathered texts. -/
import Derived.Test.YtnmelakgmgenjaaGreatRows
import Derived.OpenShut
import Derived.Test.YtnmelakgmgenjaaGreatMD
import Derived.Deep.Slices
import Derived.Lib.SmallJoins
import Derived.Outline
import Derived.OwnWalk
import Derived.Lib.Hide
import Derived.Laws.Tables
import Derived.Laws.CopyOwn
import Derived.Maps.RangeWalk
import Derived.DeepKeys4
import Derived.Maps.AppendAt
import Derived.Laws.OwnMore
set_option maxRecDepth 100000
set_option maxHeartbeats 8000000
namespace Go.Proofs.YtnmelakgmgenjaaGreat
open Go.ChangeMaps (setBlock heap_setBlock_same heap_setBlock_other)
open Go.ChangeShapes Go.WideShapes Go.ChangeAt Go.RowKit
open Go.MapKept (stamped_empty stamped_iff)
open Go.RowKit
open Go.WideElems (Fit)
theorem Dp (x lo hi:Int)(w:World):
  Calls Tryz.prog 44 #[.int .i64 x,.int .i64 lo,.int .i64 hi] w fun e w'=>e = .returned (.bool (Cj x lo hi))/\w'=w:=by
 go_enter Tryz.func44,Tryz.ntmps44
 go_wp2
 all_goals
  go_ret;exact⟨Bl (by rw[Bool.eq_iff_iff];unfold Cj;simp;omega),rfl⟩
abbrev Fr (k p v g:Int):Value:= .agg #[.int .i64 k,.int .i64 p,.int .i64 v,.int .i64 g]
theorem IX (k p v g:Int)(w:World):
  Calls Tryz.prog 45 #[Fr k p v g] w fun e w'=>e = .returned (.bool (D8 k p v g))/\AC w w':=by
 unfold Fr;go_enter Tryz.func45,Tryz.ntmps45
 go_wp2_with (go_at_call 44;refine (Dp _ _ _ _).mono ?_;rintro e w' ⟨rfl,rfl⟩)
 all_goals
  go_ret;refine⟨Bl ?_,(AC.refl w).alloc _⟩;simp[Cj] at *;rw[Bool.eq_iff_iff];simp[D8];omega
abbrev dV (d:Dd):Value:=Fr d.1 d.2.1 d.2.2.1 d.2.2.2
def af (w:World)(b o:Nat)(d:Dd):Prop:=
 w.cell? ⟨b,o,none⟩=some (.int .i64 d.1)/\w.cell? ⟨b,o+1,none⟩=some (.int .i64 d.2.1)/\w.cell? ⟨b,o+2,none⟩=some (.int .i64 d.2.2.1)/\w.cell? ⟨b,o+3,none⟩=some (.int .i64 d.2.2.2)
def MC (w:World)(v:Value)(ds:List Dd):Prop:=
 ∃(a:Option Addr) (cap:Nat),v = .slice a ds.length (ds.length+cap) /\
  (ds=[]\/∃b off,a=some ⟨b,off,none⟩/\b<w.heap.size/\∀i,i<ds.length->af w b (off+i*4) (ds.getD i zD))
def JJ (w:World)(v:Value)(AA:List (List Dd)):Prop:=
 ∃(a:Option Addr) (cap:Nat),v = .slice a AA.length cap /\
  (AA=[]\/∃b off,a=some ⟨b,off,none⟩/\b<w.heap.size/\∀i,i<AA.length->∃vi,w.cell? ⟨b,off+i,none⟩=some vi/\MC w vi (AA.getD i []))
theorem af.keep {w w':World}{b o:Nat}{d:Dd}(h:af w b o d)(hb:b<w.heap.size)(k:AC w w'):af w' b o d:=
 ⟨(k.cell hb).trans h.1,(k.cell hb).trans h.2.1,(k.cell hb).trans h.2.2.1,(k.cell hb).trans h.2.2.2⟩
theorem MC.keep {w w':World}{v:Value}{ds:List Dd}(h:MC w v ds)(k:AC w w'):MC w' v ds:=by
 obtain⟨a,cap,hv,h⟩:=h;refine⟨a,cap,hv,?_⟩;rcases h with h|⟨b,off,ha,hb,hc⟩
 . exact .inl h
 . exact .inr ⟨b,off,ha,Nat.lt_of_lt_of_le hb k.size,fun i hi=>(hc i hi).keep hb k⟩
theorem JJ.keep {w w':World}{v:Value}{AA:List (List Dd)}(h:JJ w v AA)(k:AC w w'):JJ w' v AA:=by
 obtain⟨a,cap,hv,h⟩:=h;refine⟨a,cap,hv,?_⟩;rcases h with h|⟨b,off,ha,hb,hc⟩
 . exact .inl h
 ·
  refine .inr ⟨b,off,ha,Nat.lt_of_lt_of_le hb k.size,fun i hi=>?_⟩;obtain⟨vi,h1,h2⟩:=hc i hi;exact⟨vi,(k.cell hb).trans h1,h2.keep k⟩
theorem AC.set {w wr:World}(h:AC w wr){g:Nat}(hg:w.heap.size<=g)(i:Nat)(x:Value):AC w (wr.setCell ⟨g,i,none⟩ x):=
 h.grown (row:=some g) ⟨rfl,rfl,rfl,by simp,fun k _ hk=>heap_setCell_other wr ⟨g,i,none⟩ k x (fun e=>hk (by simp[e]))⟩ (fun k hk=>by simp at hk;omega)
theorem Tryz.jX:(Tryz.prog.info? 65).map (fun i=>(i.zero,i.size,i.bytes))=some (some (.agg #[.int .i64 0,.int .i64 0,.int .i64 0,.int .i64 0]),4,32):=by kernel_rfl
def oZ (w:World)(g n:Nat):Prop:=∃cur t,w.heap[g]? = some (.cells cur t (0,0))/\n<=cur.size
theorem oZ.free {w:World}{g n:Nat}(h:oZ w g n)(i:Nat):w.frozen? ⟨g,i,none⟩=false:=by
 obtain⟨cur,t,h,_⟩:=h;exact frozen_of_row w g i cur t h
theorem oZ.lt {w:World}{g n:Nat}(h:oZ w g n):g<w.heap.size:=by
 obtain⟨cur,t,h,_⟩:=h;exact (Array.getElem?_eq_some_iff.1 h).1
def kJ (w:World)(base:Nat)(v:Value)(ds:List Dd):Prop:=
 ∃(a:Option Addr) (cap:Nat),v = .slice a ds.length (ds.length+cap)/\(ds=[]\/∃g,a=some ⟨g,0,none⟩/\base<=g/\oZ w g (ds.length*4)/\∀i,i<ds.length->af w g (i*4) (ds.getD i zD))
theorem kJ.rd {w:World}{base:Nat}{v:Value}{ds:List Dd}(h:kJ w base v ds):MC w v ds:=by
 obtain⟨a,cap,hv,h⟩:=h;refine⟨a,cap,hv,?_⟩;rcases h with h|⟨g,ha,_,hb,hc⟩
 . exact .inl h
 . exact .inr ⟨g,0,ha,hb.lt,fun i hi=>by rw[Nat.zero_add];exact hc i hi⟩
theorem Tryz.ZC:(Tryz.prog.info? 62).map (fun i=>(i.zero,i.size,i.bytes))=some (some (.slice none 0 0),1,24):=by kernel_rfl
theorem Oy (w:World)(g j:Nat)(v:Value):w.grownBy (w.setCell ⟨g,j,none⟩ v) (some g):=
 ⟨rfl,rfl,rfl,by simp,fun k _ hk=>heap_setCell_other w ⟨g,j,none⟩ k v (fun e=>hk (by simp[e]))⟩
theorem GN {w w':World}{b:Nat}(h:w'.heap[b]? = w.heap[b]?)(o:Nat):w'.cell? ⟨b,o,none⟩=w.cell? ⟨b,o,none⟩:=by
 simp only[World.cell?,h]
theorem Bv (AA:List (List Dd)):(AB AA).length<=9:=by
 unfold AB;split
 ·
  rename_i h;simp only[AQ,Bool.and_eq_true,decide_eq_true_eq] at h;obtain⟨⟨⟨⟨_,h2⟩,_⟩,h4⟩,_⟩:=h;have:=Hz (fun i hi=>Bo [] h2 i hi) AA.length (Nat.le_refl _);omega
 . simp
def Hf (D:Nat):List Nat->Nat
 | []=>0
 |x::l=>x+D*Hf D l
theorem FA {D:Nat}:∀l:List Nat,(∀x∈l,x<D)->Hf D l<D ^ l.length
 | [],_=>by simp[Hf]
 |x::l,h=>by
  have h1:=FA l (fun y hy=>h y (List.mem_cons_of_mem _ hy));have h2:=h x (by simp);rw[Hf,List.length_cons,Nat.pow_succ];have h3:D*(Hf D l+1)<=D*D ^ l.length:=Nat.mul_le_mul_left D h1;rw[Nat.mul_add,Nat.mul_comm D (D ^ l.length)] at h3;omega
theorem GW {D:Nat}:∀l l':List Nat,l.length=l'.length->(∀x∈l,x<D)->(∀x∈l',x<D)->Hf D l=Hf D l'->l=l'
 | [],[],_,_,_,_=>rfl
 | [],_::_,h,_,_,_=>by simp at h
 |_::_,[],h,_,_,_=>by simp at h
 |x::l,x'::l',h,h1,h2,e=>by
  rw[Hf,Hf] at e;have a1:=h1 x (by simp);have a2:=h2 x' (by simp)
  have e1:x=x':=by
   have:=congrArg (. % D) e;simp only[Nat.add_mul_mod_self_left] at this
   rwa [Nat.mod_eq_of_lt a1,Nat.mod_eq_of_lt a2] at this
  subst e1;have e2:Hf D l=Hf D l':=Nat.eq_of_mul_eq_mul_left (by omega:0<D) (by omega);rw[GW l l' (by simpa using h) (fun y hy=>h1 y (List.mem_cons_of_mem _ hy)) (fun y hy=>h2 y (List.mem_cons_of_mem _ hy)) e2]
theorem Qe {α:Type}(M:Nat)(P:α->Nat->Prop)(l:List α)(hn:l.Nodup)(h:∀k∈l,∃c,c<M/\P k c)(hi:∀k k' c,P k c->P k' c->k=k'):l.length<=M:=by
 have hf:∃f:α->Nat,∀k∈l,f k<M/\P k (f k):=by
  classical
  refine⟨fun k=>if hk:k∈l then (h k hk).choose else 0,fun k hk=>?_⟩;simp only[dif_pos hk];exact (h k hk).choose_spec
 obtain⟨f,hf⟩:=hf
 have h1:(l.map (fun k=>(f k:Int))).Nodup:=by
  unfold List.Nodup;rw[List.pairwise_map];refine hn.imp_of_mem ?_;intro a b ha hb hab e;have e':f a=f b:=by omega
  exact hab (hi a b (f a) (hf a ha).2 (by rw[e'];exact (hf b hb).2))
 have h2:=OI (b:=(List.range M).map (fun (c:Nat)=>(c:Int))) h1 (by
  intro x hx;obtain⟨k,hk,rfl⟩:=List.mem_map.1 hx
  exact List.mem_map.2 ⟨f k,List.mem_range.2 (hf k hk).1,rfl⟩)
 simpa using h2
theorem mO {a b:List Nat}(ha:a.Pairwise (·<·))(hb:b.Pairwise (·<·))(h:∀x,x∈a↔x∈b):a=b:=by
 refine List.Perm.eq_of_pairwise (le:=fun a b=>a<b) (fun x y _ _ h1 h2=>by omega) ha hb ?_;exact (List.perm_ext_iff_of_nodup (ha.imp (fun {a b} hab=>by omega)) (hb.imp (fun {a b} hab=>by omega))).2 h
def Yo (AA:List (List Dd))(a:Ab)(j:Nat):Nat:=
 if Ah ((AB AA).getD j zE)=true then (if ET AA a j=true then (JG AA (a.F j)+1).toNat else 0) else (if j∈a.N ((AB AA).getD j zE).1.toNat then 1 else 0)
def J3 (AA:List (List Dd))(a:Ab):Nat:=
 Hf 6 ((List.range AA.length).map a.nx)+216*(Hf 9 ((List.range 3).map (BW a))+729*Hf 11 ((List.range ((AB AA).length-3)).map (fun i=>Yo AA a (i+3))))
def JN:Nat:=216*(729*1771561)
structure CB (AA:List (List Dd))(a:Ab):Prop where
 nx:∀x∈(List.range AA.length).map a.nx,x<6
 AO:∀x∈(List.range 3).map (BW a),x<9
 ev:∀x∈(List.range ((AB AA).length-3)).map (fun i=>Yo AA a (i+3)),x<11
theorem Ps {AA:List (List Dd)}(hb:AQ AA=true){b:Bd}{a:Ab}{τ:Nat->Nat}{T:Nat}{z:Int}(M:MI AA b a τ T z):CB AA a:=by
 have h9:=Bv AA
 have h3:3<=(AB AA).length:=by
  have:=M.inv.lt 2 (M.inv.FC 2 (by omega)).1;exact this
 refine⟨fun x hx=>?_,fun x hx=>?_,fun x hx=>?_⟩
 ·
  obtain⟨c,hc,rfl⟩:=List.mem_map.1 hx;have hc:=List.mem_range.1 hc;have:=M.VB c hc;have:=Da hb hc;omega
 ·
  obtain⟨p,hp,rfl⟩:=List.mem_map.1 hx;have hp:=List.mem_range.1 hp;unfold BW
  cases e:(a.R p).getLast? with
  |none=>simp;omega
  |some y=>
   have hy:=(M.inv.rows p y).1 (List.mem_of_getLast? e);have:y<(AB AA).length:=M.inv.lt y hy.1.1;simp;omega
 ·
  obtain⟨i,hi,rfl⟩:=List.mem_map.1 hx;have hi:=List.mem_range.1 hi;unfold Yo;split
  ·
   rename_i hr;split
   ·
    rename_i hx;have hs:=M.inv.src (i+3) ⟨by show i+3<(AB AA).length;omega,hx⟩ hr;have hl:a.F (i+3)<(AB AA).length:=M.inv.lt _ hs.1;have:=(J7 hb hl).1;omega
   . omega
  . split<;>omega
theorem Ug {AA:List (List Dd)}(hb:AQ AA=true){a:Ab}(h:CB AA a):J3 AA a<JN:=by
 have h9:=Bv AA;have hl3:=Ci hb;have h1:=FA _ h.nx;have h2:=FA _ h.AO;have h3:=FA _ h.ev;rw[List.length_map,List.length_range] at h1 h2 h3;have p1:6 ^ AA.length<=6 ^ 3:=Nat.pow_le_pow_right (by omega) hl3;have p3:11 ^ ((AB AA).length-3)<=11 ^ 6:=Nat.pow_le_pow_right (by omega) (by omega);have q1:6 ^ 3=216:=rfl;have q2:9 ^ 3=729:=rfl;have q3:11 ^ 6=1771561:=rfl;rw[q1] at p1;rw[q2] at h2;rw[q3] at p3;unfold J3 JN;generalize Hf 6 ((List.range AA.length).map a.nx)=A at *;generalize Hf 9 ((List.range 3).map (BW a))=B at *;generalize Hf 11 ((List.range ((AB AA).length-3)).map (fun i=>Yo AA a (i+3)))=C at *;omega
theorem qm {AA:List (List Dd)}(hb:AQ AA=true){a a':Ab}(h:CB AA a)(h':CB AA a')(e:J3 AA a=J3 AA a'):
  (∀c,c<AA.length->a.nx c=a'.nx c)/\(∀p,p<3->BW a p=BW a' p)/\∀j,3<=j->j<(AB AA).length->Yo AA a j=Yo AA a' j:=by
 have hl3:=Ci hb;have h1:=FA _ h.nx;have h1':=FA _ h'.nx;have h2:=FA _ h.AO;have h2':=FA _ h'.AO;rw[List.length_map,List.length_range] at h1 h2 h1' h2';have p1:6 ^ AA.length<=6 ^ 3:=Nat.pow_le_pow_right (by omega) hl3;have q1:6 ^ 3=216:=rfl;have q2:9 ^ 3=729:=rfl;rw[q1] at p1;rw[q2] at h2 h2';have e0:=e;unfold J3 at e0;have m1:∀A X B Y:Nat,A<216->B<216->A+216*X=B+216*Y->A=B/\X=Y:=fun A X B Y _ _ _=>by omega
 have m2:∀A X B Y:Nat,A<729->B<729->A+729*X=B+729*Y->A=B/\X=Y:=fun A X B Y _ _ _=>by omega
 obtain⟨e1,e2⟩:=m1 _ _ _ _ (by omega) (by omega) e0;obtain⟨e2,e3⟩:=m2 _ _ _ _ h2 h2' e2;have f1:=GW _ _ (by simp) h.nx h'.nx e1;have f2:=GW _ _ (by simp) h.AO h'.AO e2;have f3:=GW _ _ (by simp) h.ev h'.ev e3;refine⟨fun c hc=>?_,fun p hp=>?_,fun j hj hl=>?_⟩
 ·
  have:=congrArg (fun l=>l.getD c 0) f1
  rwa [Cr _ _ hc,Cr _ _ hc] at this
 ·
  have:=congrArg (fun l=>l.getD p 0) f2
  rwa [Cr _ _ hp,Cr _ _ hp] at this
 ·
  have:=congrArg (fun l=>l.getD (j-3) 0) f3;rw[Cr _ _ (by omega),Cr _ _ (by omega)] at this
  rwa [show j-3+3=j by omega] at this
theorem ST {AA:List (List Dd)}{b:Bd}{a:Ab}{τ:Nat->Nat}{T:Nat}{z:Int}(M:MI AA b a τ T z){c:Nat}(x:Nat):x∈a.N c↔3<=x/\x<(AB AA).length/\(Bk AA).rd x=false/\(Bk AA).ck x=(c:Int)/\Yo AA a x=1:=by
 have hN:=Hh AA a τ c;constructor
 ·
  intro h;rw[<-hN] at h;obtain⟨h1,h2,h3,h4⟩:=M.inv.note _ _ h;have h1:x<(AB AA).length:=M.inv.lt _ h1;rw[hN] at h;refine⟨h2,h1,h4,h3,?_⟩;have h4':Ah ((AB AA).getD x zE)=false:=h4;have h3':((AB AA).getD x zE).1=(c:Int):=h3;unfold Yo;rw[h4',if_neg (by simp),h3',Int.toNat_natCast,if_pos h]
 ·
  rintro⟨h1,h2,h3,h4,h5⟩;have h4':Ah ((AB AA).getD x zE)=false:=h3;have h3':((AB AA).getD x zE).1=(c:Int):=h4;unfold Yo at h5;rw[h4',if_neg (by simp),h3',Int.toNat_natCast] at h5;split at h5
  . assumption
  . cases h5
theorem P8 (f:Ev->Bool)(l:List Ev):∀(k:Nat) (r:Int),r∈Bi f l k->∃j:Nat,r=(j:Int)/\j<k/\f (l.getD j zE)=true
 | 0,r,h=>by simp[Bi] at h
 |k+1,r,h=>by
  rw[Bi] at h;split at h
  ·
   rename_i hf;rcases List.mem_append.1 h with h|h
   ·
    obtain⟨j,e,hj,hr⟩:=P8 f l k r h;exact⟨j,e,by omega,hr⟩
   . exact⟨k,List.mem_singleton.1 h,by omega,hf⟩
  ·
   obtain⟨j,e,hj,hr⟩:=P8 f l k r h;exact⟨j,e,by omega,hr⟩
theorem Ut {es:List Ev}{r:Int}(h:r∈AX Ah es):∃j:Nat,r=(j:Int)/\j<es.length/\Ah (es.getD j zE)=true:=by
 unfold AX at h;split at h
 . exact P8 Ah es _ r h
 . cases h
theorem Rj {AA:List (List Dd)}(hb:AQ AA=true){b b':Bd}{a a':Ab}{τ τ':Nat->Nat}{T T':Nat}{z z':Int}(M:MI AA b a τ T z)(M':MI AA b' a' τ' T' z')(e:J3 AA a=J3 AA a'):Cm b=Cm b':=by
 obtain⟨e1,e2,e3⟩:=qm hb (Ps hb M) (Ps hb M') e;have R:=M.Bz;have R':=M'.Bz
 have hN:∀c,c<AA.length->a.N c=a'.N c:=by
  intro c hc;refine mO (by have:=M.inv.LQ (c:Int);rwa [Hh] at this) (by have:=M'.inv.LQ (c:Int);rwa [Hh] at this) (fun x=>?_);rw[ST M,ST M'];constructor
  ·
   rintro⟨h1,h2,h3,h4,h5⟩;exact⟨h1,h2,h3,h4,by rw[<-e3 x h1 h2];exact h5⟩
  ·
   rintro⟨h1,h2,h3,h4,h5⟩;exact⟨h1,h2,h3,h4,by rw[e3 x h1 h2];exact h5⟩
 have k1:b.AL=b'.AL:=by
  rw[R.AL,R'.AL];exact List.map_congr_left (fun c hc=>by rw[e1 c (List.mem_range.1 hc)])
 have k2:b.AO=b'.AO:=by
  rw[R.AO,R'.AO];exact List.map_congr_left (fun p hp=>by rw[e2 p (List.mem_range.1 hp)])
 have k4:b.AG=b'.AG:=by
  rw[R.AG,R'.AG];exact List.map_congr_left (fun c hc=>by rw[hN c (List.mem_range.1 hc)])
 have val:∀ {b:Bd} {a:Ab} {τ:Nat->Nat} {T:Nat} {z:Int},MI AA b a τ T z->∀j,j<(AB AA).length->Ah ((AB AA).getD j zE)=true->(if ET AA a j=true then JG AA (a.F j) else -1)=(Yo AA a j:Int)-1:=by
  intro b a τ T z M j hj hr;unfold Yo;rw[if_pos hr];split
  ·
   rename_i hx;have hs:=M.inv.src j ⟨hj,hx⟩ hr;have hl:a.F j<(AB AA).length:=M.inv.lt _ hs.1;have:=(J7 hb hl).1;omega
  . rfl
 have k3:b.sn=b'.sn:=by
  rw[R.sn,R'.sn];refine List.map_congr_left (fun r hr=>?_);obtain⟨j,rfl,hj,hrd⟩:=Ut hr
  have j3:3<=j:=by
   rcases Nat.lt_or_ge j 3 with h|h
   ·
    have:=(M.inv.FC j h).2.1;have h':Ah ((AB AA).getD j zE)=false:=this;rw[hrd] at h';cases h'
   . exact h
  rw[Int.toNat_natCast,val M j hj hrd,val M' j hj hrd,e3 j j3 hj]
 unfold Cm;rw[k1,k2,k3,k4]
theorem Z4 {AA:List (List Dd)}(hb:AQ AA=true){quick:Bool}{S:SS}(h:SI AA quick S):S.seen.length<=JN:=by
 refine Qe JN (fun k c=>∃b a τ T z,MI AA b a τ T z/\Cm b=k/\J3 AA a=c) _ (Iv h.os) (fun k hk=>?_) ?_
 ·
  obtain⟨b,hr,e,-⟩:=h.seen k hk;obtain⟨a,τ,T,z,M,-⟩:=A8 hb hr;exact⟨_,Ug hb (Ps hb M),b,a,τ,T,z,M,e,rfl⟩
 ·
  rintro k k' c ⟨b,a,τ,T,z,M,rfl,ec⟩ ⟨b',a',τ',T',z',M',rfl,ec'⟩;exact Rj hb M M' (ec.trans ec'.symm)
theorem VK (l:List (List Int))(x:List Int):(EL l x).length=if QG l x=true then l.length else l.length+1:=by
 have:=Qj l x;unfold EL;split
 . rfl
 ·
  simp;omega
theorem J6 {AA:List (List Dd)}{es:List Ev}{quick:Bool}{S:SS}(h:S.ends.length<=S.seen.length):(Jh AA es quick S).ends.length<=(Jh AA es quick S).seen.length:=by
 unfold Jh
 cases hl:S.opn.getLast? with
 |none=>exact h
 |some b=>
  have h1:=VK S.seen (Cm b);have h2:=VK S.ends (An b);by_cases hs:QG S.seen (Cm b)=true
  ·
   simp only[hs,if_true];exact h
  ·
   rw[if_neg hs] at h1;by_cases he:Co AA b=true
   ·
    simp only[hs,he,if_true];show (EL S.ends (An b)).length<=(EL S.seen (Cm b)).length;rw[h1,h2];split<;>omega
   ·
    simp only[hs,he];show S.ends.length<=(EL S.seen (Cm b)).length;omega
def bC (AA:List (List Dd))(l:List Bd):Prop:=∀(i:Nat) (b:Bd),l[i]? = some b->DR AA b+i / 5<=24
theorem jC {AA:List (List Dd)}(hb:AQ AA=true):bC AA [Cd AA]:=by
 intro i b h
 cases i with
 |zero=>
  simp at h;rw[<-h];have:=(KV hb).1;omega
 |succ i=>simp at h
theorem jB {AA:List (List Dd)}{l:List Bd}(h:bC AA l):l.length<=125:=by
 rcases Nat.lt_or_ge 125 l.length with hl|hl
 ·
  have:=h 125 l[125] (by rw[List.getElem?_eq_getElem]);omega
 . exact hl
theorem Z9 {AA:List (List Dd)}(hb:AQ AA=true){quick:Bool}{l:List Bd}{b:Bd}(hr:A6 AA quick b)(h:bC AA (l++[b])):bC AA (l++BK AA (AB AA) quick b):=by
 intro i x hx;have hbm:=h l.length b (by simp);rcases Nat.lt_or_ge i l.length with hi|hi
 ·
  rw[List.getElem?_append_left hi] at hx;exact h i x (by rw[List.getElem?_append_left hi];exact hx)
 ·
  rw[List.getElem?_append_right hi] at hx;have h1:=FF hb hr (List.mem_of_getElem? hx);have h2:=Il hb (es:=AB AA) (quick:=quick) (b:=b);have h3:=(List.getElem?_eq_some_iff.1 hx).1;omega
theorem Qw {AA:List (List Dd)}(hb:AQ AA=true){quick:Bool}{S:SS}(h:SI AA quick S)(k:bC AA S.opn):bC AA (Jh AA (AB AA) quick S).opn:=by
 unfold Jh
 cases hl:S.opn.getLast? with
 |none=>exact k
 |some b=>
  obtain⟨l',e⟩:=List.getLast?_eq_some_iff.1 hl;have hbr:A6 AA quick b:=h.opn b (by rw[e];simp);have e2:S.opn.dropLast=l':=by rw[e,List.dropLast_concat]
  have kd:bC AA S.opn.dropLast:=by
   intro i x hx;rw[e2] at hx;refine k i x ?_;rw[e,List.getElem?_append_left (List.getElem?_eq_some_iff.1 hx).1];exact hx
  show bC AA (if QG S.seen (Cm b)=true then _ else _:SS).opn;split
  . exact kd
  ·
   split
   . exact kd
   ·
    show bC AA (S.opn.dropLast++_);rw[e2];rw[e] at k;exact Z9 hb hbr k
def Nv (es:List Ev):Nat->Nat
 | 0=>0
 |k+1=>Nv es k+if Ah (es.getD k zE)=true then 0 else 1
theorem Kl (es:List Ev):∀ {j k:Nat},j<=k->Nv es j<=Nv es k
 |j,0,h=>by
  obtain rfl:j=0:=by omega
  exact Nat.le_refl _
 |j,k+1,h=>by
  rcases Nat.lt_or_ge j (k+1) with h1|h1
  ·
   have:=Kl es (j:=j) (k:=k) (by omega);rw[Nv];omega
  ·
   obtain rfl:j=k+1:=by omega
   exact Nat.le_refl _
theorem Qn (es:List Ev){j k:Nat}(h:j<k)(hj:Ah (es.getD j zE)=false):Nv es j<Nv es k:=by
 have h1:=Kl es (j:=j+1) (k:=k) h;rw[Nv,hj] at h1;simp at h1;omega
theorem MU (es:List Ev){j k:Nat}(hj:Ah (es.getD j zE)=false)(hk:Ah (es.getD k zE)=false)(h:Nv es j=Nv es k):j=k:=by
 rcases Nat.lt_trichotomy j k with h1|h1|h1
 . have:=Qn es h1 hj;omega
 . exact h1
 . have:=Qn es h1 hk;omega
theorem UD (es:List Ev):∀k:Nat,(Bi Ah es k).length+Nv es k=k
 | 0=>rfl
 |k+1=>by
  have ih:=UD es k;rw[Bi,Nv];by_cases h:Ah (es.getD k zE)=true
  . rw[if_pos h,if_pos h,List.length_append,List.length_singleton];omega
  . rw[if_neg h,if_neg h];omega
def Ok (AA:List (List Dd))(a:Ab):Nat:=
 Hf (Nv (AB AA) (AB AA).length) ((AX Ah (AB AA)).map (fun r=>Nv (AB AA) (a.F r.toNat))++(List.range 3).map (fun p=>Nv (AB AA) (BW a p)))
theorem iR {m r:Nat}(h3:3<=m)(h:m+r<=9):m ^ (r+3)<=78125:=by
 have h1:m ^ (r+3)<=m ^ (12-m):=Nat.pow_le_pow_right (by omega) (by omega);refine Nat.le_trans h1 ?_;have:m=3\/m=4\/m=5\/m=6\/m=7\/m=8\/m=9:=by omega
 rcases this with rfl|rfl|rfl|rfl|rfl|rfl|rfl<;>decide
structure EC (AA:List (List Dd))(a:Ab)(b:Bd):Prop where
 f:∀r∈AX Ah (AB AA),a.F r.toNat<(AB AA).length/\Ah ((AB AA).getD (a.F r.toNat) zE)=false
 l:∀p,p<3->BW a p<(AB AA).length/\Ah ((AB AA).getD (BW a p) zE)=false
 sn:b.sn=(AX Ah (AB AA)).map (fun r=>JG AA (a.F r.toNat))
 AM:b.AM=(List.range 3).map (fun p=>JG AA (BW a p))
 m:3<=Nv (AB AA) (AB AA).length
theorem jP {AA:List (List Dd)}(hb:AQ AA=true){b:Bd}{a:Ab}{τ:Nat->Nat}{T:Nat}{z:Int}(M:MI AA b a τ T z)(he:Co AA b=true):EC AA a b:=by
 have FN:=lQ hb M he;have h3:3<=(AB AA).length:=M.inv.lt 2 (M.inv.FC 2 (by omega)).1;refine⟨fun r hr=>?_,fun p hp=>?_,FN.frs.2,M.Bz.AM,Nat.le_trans ?_ (Kl (AB AA) h3)⟩
 ·
  obtain⟨j,rfl,hj,hrd⟩:=Ut hr;rw[Int.toNat_natCast];have hs:=M.inv.src j (FN.all j hj).1 hrd;exact⟨M.inv.lt _ hs.1,hs.2.1⟩
 ·
  unfold BW
  cases e:(a.R p).getLast? with
  |none=>exact⟨by simp;omega,(M.inv.FC p hp).2.1⟩
  |some y=>
   have hy:=(M.inv.rows p y).1 (List.mem_of_getLast? e);exact⟨M.inv.lt y hy.1.1,hy.2.1⟩
 ·
  have r0:Ah ((AB AA).getD 0 zE)=false:=(M.inv.FC 0 (by omega)).2.1;have r1:Ah ((AB AA).getD 1 zE)=false:=(M.inv.FC 1 (by omega)).2.1;have r2:Ah ((AB AA).getD 2 zE)=false:=(M.inv.FC 2 (by omega)).2.1;simp only[Nv,r0,r1,r2];decide
theorem Dk {AA:List (List Dd)}{a:Ab}{b:Bd}(h:EC AA a b):∀x∈(AX Ah (AB AA)).map (fun r=>Nv (AB AA) (a.F r.toNat))++(List.range 3).map (fun p=>Nv (AB AA) (BW a p)),x<Nv (AB AA) (AB AA).length:=by
 intro x hx;rcases List.mem_append.1 hx with hx|hx
 ·
  obtain⟨r,hr,rfl⟩:=List.mem_map.1 hx;have:=h.f r hr;exact Qn _ this.1 this.2
 ·
  obtain⟨p,hp,rfl⟩:=List.mem_map.1 hx;have:=h.l p (List.mem_range.1 hp);exact Qn _ this.1 this.2
theorem Ri {AA:List (List Dd)}{a:Ab}{b:Bd}(h:EC AA a b):Ok AA a<78125:=by
 have h9:=Bv AA;have h1:=FA _ (Dk h);have h2:=UD (AB AA) (AB AA).length;have e:AX Ah (AB AA)=Bi Ah (AB AA) (AB AA).length:=by unfold AX;rw[if_pos (by omega)]
 have h3:=h.m;rw[List.length_append,List.length_map,List.length_map,List.length_range,e] at h1;have h4:=iR (m:=Nv (AB AA) (AB AA).length) (r:=(Bi Ah (AB AA) (AB AA).length).length) h3 (by omega);unfold Ok;rw[e];omega
theorem Yl {AA:List (List Dd)}(hb:AQ AA=true){quick:Bool}{l:List (List Int)}(h:Dg AA quick l):l.length<=78125:=by
 refine Qe 78125 (fun x c=>∃a b,EC AA a b/\An b=x/\Ok AA a=c) _ (Iv h.1) (fun x hx=>?_) ?_
 ·
  obtain⟨b,hr,he,e⟩:=(h.2 x).1 hx;obtain⟨a,τ,T,z,M,-⟩:=A8 hb hr;have C:=jP hb M he;exact⟨_,Ri C,a,b,C,e.symm,rfl⟩
 ·
  rintro x x' c ⟨a,b,C,rfl,ec⟩ ⟨a',b',C',rfl,ec'⟩;have e:=ec.trans ec'.symm;unfold Ok at e;have e2:=GW _ _ (by simp) (Dk C) (Dk C') e;obtain⟨e3,e4⟩:=List.append_inj e2 (by simp)
  have f1:b.sn=b'.sn:=by
   rw[C.sn,C'.sn];refine List.map_congr_left (fun r hr=>?_);have:=(List.map_inj_left.1 e3) r hr;rw[MU _ (C.f r hr).2 (C'.f r hr).2 this]
  have f2:b.AM=b'.AM:=by
   rw[C.AM,C'.AM];refine List.map_congr_left (fun p hp=>?_);have:=(List.map_inj_left.1 e4) p hp;rw[MU _ (C.l p (List.mem_range.1 hp)).2 (C'.l p (List.mem_range.1 hp)).2 this]
  unfold An;rw[f1,f2]
theorem iW (AA:List (List Dd)):(AX Ah (AB AA)).length<=9:=by
 have h9:=Bv AA;unfold AX;rw[if_pos (by omega)];have:=DP Ah (AB AA) (AB AA).length;omega
theorem Dg.lens {AA:List (List Dd)}(hb:AQ AA=true){quick:Bool}{l:List (List Int)}(h:Dg AA quick l):∀i,i<l.length->(l.getD i []).length<=15:=fun i hi=>by
 have hm:l.getD i []∈l:=by rw[List.getD_eq_getElem?_getD,List.getElem?_eq_getElem hi];exact List.getElem_mem hi
 obtain⟨b,hr,_,e⟩:=(h.2 _).1 hm;obtain⟨a,_,_,_,M,_⟩:=A8 hb hr;have S:=Di.of (IK hb M);have:=iW AA;rw[e];unfold An;rw[List.length_append,S.sn,S.AM];omega
structure Df (AA:List (List Dd))(quick:Bool)(l:List (List Int)):Prop where
 is:AQ AA=true->Dg AA quick l
 no:AQ AA=false->l=[]
theorem Df.one {AA:List (List Dd)}{quick:Bool}{l l':List (List Int)}(h:Df AA quick l)(h':Df AA quick l'):l=l':=by
 cases hb:AQ AA
 . rw[h.no hb,h'.no hb]
 . exact Ym (h.is hb) (h'.is hb)
theorem Df.lens {AA:List (List Dd)}{quick:Bool}{l:List (List Int)}(h:Df AA quick l):∀i,i<l.length->(l.getD i []).length<=15:=by
 cases hb:AQ AA
 . rw[h.no hb];intro i hi;simp at hi
 . exact (h.is hb).lens hb
theorem Df.len {AA:List (List Dd)}{quick:Bool}{l:List (List Int)}(h:Df AA quick l):l.length<=78125:=by
 cases hb:AQ AA
 . rw[h.no hb];simp
 . exact Yl hb (h.is hb)
structure Sy where
 R:Bd->Prop
 tm:Bd->Int
 nx:Bd->List Bd
 en:Bd->Bool
 b0:Bd
structure Ks (S:Sy):Prop where
 new:S.R S.b0/\S.tm S.b0=0
 step:∀ {b x},S.R b->x∈S.nx b->S.R x/\S.tm x=S.tm b+1
 top:∀ {b},S.R b->0<=S.tm b/\S.tm b<=24
 back:∀ {x},S.R x->x=S.b0\/∃b,S.R b/\x∈S.nx b
 like:∀ {b b'},S.R b->S.R b'->Bm b b'->(∀x∈S.nx b,∃x'∈S.nx b',Bm x x')/\S.en b=S.en b'/\An b=An b'/\S.tm b=S.tm b'
 ends:∀ {b b'},S.R b->S.R b'->S.en b=true->S.en b'=true->An b=An b'->Bm b b'
theorem Bm.refl (b:Bd):Bm b b:=⟨rfl,rfl,rfl,rfl⟩
theorem Bm.symm {b b':Bd}(h:Bm b b'):Bm b' b:=⟨h.1.symm,h.2.1.symm,h.2.2.1.symm,h.2.2.2.symm⟩
theorem Bm.trans {a b c:Bd}(h:Bm a b)(k:Bm b c):Bm a c:=⟨h.1.trans k.1,h.2.1.trans k.2.1,h.2.2.1.trans k.2.2.1,h.2.2.2.trans k.2.2.2⟩
structure GJ (S:Sy)(n:Int)(l:List Bd):Prop where
 of:∀b∈l,S.R b/\S.tm b=n
 all:∀x,S.R x->S.tm x=n->∃b∈l,Bm x b
theorem WM {S:Sy}(h:Ks S):GJ S 0 [S.b0]:=by
 refine⟨fun b hb=>?_,fun x hx ht=>?_⟩
 ·
  rw[List.mem_singleton] at hb;subst hb;exact h.new
 ·
  rcases h.back hx with rfl|⟨b,hb,hxb⟩
  . exact⟨_,List.mem_singleton.2 rfl,Bm.refl _⟩
  ·
   have:=(h.step hb hxb).2;have:=(h.top hb).1;omega
structure FI (S:Sy)(n:Int)(dn lx:List Bd)(E:List (List Int)):Prop where
 dns:∀b∈dn,S.R b/\S.tm b=n
 of:∀x∈lx,∃b∈dn,x∈S.nx b
 all:∀b∈dn,∀x∈S.nx b,x∈lx
 e1:∀e∈E,∃b,S.R b/\S.en b=true/\e=An b/\(S.tm b<n\/b∈dn)
 e2:∀b,S.R b->S.en b=true->(S.tm b<n\/b∈dn)->An b∈E
 nd:E.Nodup
theorem WB {S:Sy}(h:Ks S):FI S 0 [] [] []:=
 ⟨fun b hb=>(by cases hb),fun b hb=>(by cases hb),fun b hb=>(by cases hb),fun b hb=>(by cases hb),fun b hb _ ht=>(by
  rcases ht with ht|ht
  . have:=(h.top hb).1;omega
  . cases ht),List.Pairwise.nil⟩
theorem FI.one {S:Sy}(h:Ks S){n:Int}{dn lx:List Bd}{E:List (List Int)}(D:FI S n dn lx E){b:Bd}(hb:S.R b)(ht:S.tm b=n)(hn:∀b'∈dn,¬Bm b' b):
  FI S n (dn++[b]) (lx++S.nx b) (if S.en b=true then E++[An b] else E):=by
 have m1:∀b',b'∈dn++[b]↔b'∈dn\/b'=b:=fun b'=>by simp
 refine⟨fun b' h'=>?_,fun x hx=>?_,fun b' h' x hx=>?_,fun e he=>?_,fun b' hr hen ht'=>?_,?_⟩
 ·
  rcases (m1 b').1 h' with q|rfl
  . exact D.dns b' q
  . exact⟨hb,ht⟩
 ·
  rcases List.mem_append.1 hx with q|q
  ·
   obtain⟨b',q1,q2⟩:=D.of x q;exact⟨b',(m1 b').2 (.inl q1),q2⟩
  . exact⟨b,(m1 b).2 (.inr rfl),q⟩
 ·
  rcases (m1 b').1 h' with q|rfl
  . exact List.mem_append_left _ (D.all b' q x hx)
  . exact List.mem_append_right _ hx
 ·
  have old:e∈E->∃b0,S.R b0/\S.en b0=true/\e=An b0/\(S.tm b0<n\/b0∈dn++[b]):=fun q=>by
   obtain⟨b0,q1,q2,q3,q4⟩:=D.e1 e q;exact⟨b0,q1,q2,q3,q4.imp id (fun q=>(m1 b0).2 (.inl q))⟩
  by_cases hen:S.en b=true
  ·
   rw[if_pos hen] at he;rcases List.mem_append.1 he with q|q
   . exact old q
   . exact⟨b,hb,hen,List.mem_singleton.1 q,.inr ((m1 b).2 (.inr rfl))⟩
  ·
   rw[if_neg hen] at he;exact old he
 ·
  have h0:(S.tm b'<n\/b'∈dn)\/b'=b:=by
   rcases ht' with q|q
   . exact .inl (.inl q)
   ·
    rcases (m1 b').1 q with q|q
    . exact .inl (.inr q)
    . exact .inr q
  rcases h0 with q|rfl
  ·
   have:=D.e2 b' hr hen q;split
   . exact List.mem_append_left _ this
   . exact this
  . rw[if_pos hen];simp
 ·
  split
  ·
   rename_i hen;rw[List.nodup_append];refine⟨D.nd,by simp,fun x hx y hy e=>?_⟩;rw[List.mem_singleton] at hy;subst hy;subst e;obtain⟨b0,q1,q2,q3,q4⟩:=D.e1 _ hx;have hs:=h.ends hb q1 hen q2 q3;have et:=(h.like hb q1 hs).2.2.2;rcases q4 with q|q
   . omega
   . exact hn b0 q hs.symm
  . exact D.nd
theorem FI.next {S:Sy}(h:Ks S){n:Int}(hn:0<=n){l dn lx:List Bd}{E:List (List Int)}(F:GJ S n l)(D:FI S n dn lx E)(hall:∀b∈l,∃b'∈dn,Bm b b'):GJ S (n+1) lx/\FI S (n+1) [] [] E:=by
 refine⟨⟨fun x hx=>?_,fun x hx ht=>?_⟩,fun b hb=>by (cases hb),fun b hb=>by (cases hb),fun b hb=>by (cases hb),fun e he=>?_,fun b hr hen ht=>?_,D.nd⟩
 ·
  obtain⟨b,hb,hxb⟩:=D.of x hx;obtain⟨q1,q2⟩:=D.dns b hb;have:=h.step q1 hxb;exact⟨this.1,by rw[this.2,q2]⟩
 ·
  rcases h.back hx with rfl|⟨b,hb,hxb⟩
  . have:=h.new.2;omega
  ·
   have e1:=(h.step hb hxb).2;obtain⟨b1,h1,s1⟩:=F.all b hb (by omega);obtain⟨b2,h2,s2⟩:=hall b1 h1;obtain⟨x',hx',sx⟩:=(h.like hb (D.dns b2 h2).1 (s1.trans s2)).1 x hxb;exact⟨x',D.all b2 h2 x' hx',sx⟩
 ·
  obtain⟨b,q1,q2,q3,q4⟩:=D.e1 e he;refine⟨b,q1,q2,q3,.inl ?_⟩;rcases q4 with q|q
  . omega
  . have:=(D.dns b q).2;omega
 ·
  rcases ht with ht|ht
  ·
   by_cases e:S.tm b=n
   ·
    obtain⟨b1,h1,s1⟩:=F.all b hr e;obtain⟨b2,h2,s2⟩:=hall b1 h1;obtain⟨-,e2,e3,-⟩:=h.like hr (D.dns b2 h2).1 (s1.trans s2);rw[e3];exact D.e2 b2 (D.dns b2 h2).1 (by rw[<-e2];exact hen) (.inr h2)
   . exact D.e2 b hr hen (.inl (by omega))
  . cases ht
theorem SQ {S:Sy}(h:Ks S){n:Int}(hn:0<=n)(F:GJ S n []):∀x,S.R x->S.tm x<n:=by
 have key:∀(m:Nat) (x:Bd),S.R x->S.tm x=n+(m:Int)->False:=by
  intro m
  induction m with
  |zero=>
   intro x hx ht;obtain⟨b,hb,_⟩:=F.all x hx (by omega);cases hb
  |succ m ih=>
   intro x hx ht;rcases h.back hx with rfl|⟨b,hb,hxb⟩
   . have:=h.new.2;omega
   ·
    have:=(h.step hb hxb).2;exact ih b hb (by omega)
 intro x hx;rcases Int.lt_or_le (S.tm x) n with q|q
 . exact q
 . exact absurd (key (S.tm x-n).toNat x hx (by omega)) id
theorem FI.YJ {S:Sy}(h:Ks S){n:Int}(hn:0<=n){E:List (List Int)}(F:GJ S n [])(D:FI S n [] [] E):∀e,e∈E↔∃b,S.R b/\S.en b=true/\e=An b:=by
 intro e;constructor
 ·
  intro he;obtain⟨b,q1,q2,q3,_⟩:=D.e1 e he;exact⟨b,q1,q2,q3⟩
 ·
  rintro⟨b,q1,q2,rfl⟩;exact D.e2 b q1 q2 (.inl (SQ h hn F b q1))
theorem GJ.top {S:Sy}(h:Ks S){n:Int}{l:List Bd}(F:GJ S n l)(hl:l≠[]):n<=24:=by
 cases l with
 |nil=>exact absurd rfl hl
 |cons b l=>
  have:=F.of b (by simp);have:=(h.top this.1).2;omega
def jf (AA:List (List Dd))(quick:Bool):Sy:=⟨A6 AA quick,bQ AA quick,BK AA (AB AA) quick,Co AA,Cd AA⟩
theorem WC {AA:List (List Dd)}(hb:AQ AA=true){quick:Bool}{b b':Bd}(h:A6 AA quick b)(h':A6 AA quick b')(he:Co AA b=true)(he':Co AA b'=true)(hs:An b=An b'):Bm b b':=by
 obtain⟨a,_,_,_,M,-⟩:=A8 hb h;obtain⟨a',_,_,_,M',-⟩:=A8 hb h'
 have all:∀ {b:Bd} {a:Ab} {τ:Nat->Nat} {T:Nat} {z:Int},MI AA b a τ T z->Co AA b=true->∀c,c<AA.length->a.nx c=(AA.getD c []).length/\a.N c=[]:=by
  intro b a τ T z M he c hc;unfold Co at he;have:=List.all_eq_true.1 he c (List.mem_range.2 hc);rw[Bool.and_eq_true,decide_eq_true_eq] at this;rw[(D9 M.Bz hc).2,El M.Bz hc] at this;have h2:=M.VB c hc;refine⟨by omega,?_⟩;have h3:=this.2;rw[List.isEmpty_iff] at h3;exact List.map_eq_nil_iff.1 h3
 have e1:b.AL=b'.AL:=by
  rw[M.Bz.AL,M'.Bz.AL];exact List.map_congr_left (fun c hc=>by rw[(all M he c (List.mem_range.1 hc)).1,(all M' he' c (List.mem_range.1 hc)).1])
 have e2:b.AG=b'.AG:=by
  rw[M.Bz.AG,M'.Bz.AG];exact List.map_congr_left (fun c hc=>by rw[(all M he c (List.mem_range.1 hc)).2,(all M' he' c (List.mem_range.1 hc)).2])
 unfold An at hs;obtain⟨e3,e4⟩:=List.append_inj hs (by rw[M.Bz.sn,M'.Bz.sn];simp);exact⟨e4,e1,by rw[e2],e3⟩
theorem nU {AA:List (List Dd)}(hb:AQ AA=true)(quick:Bool):Ks (jf AA quick) where
 new:=by
  refine⟨.new,?_⟩
  have h0:∀c',Ao (Cd AA) c'=0:=fun c'=>by
   have:(Cd AA).AL.getD c' 0=0:=by
    show (List.replicate AA.length (0:Int)).getD c' 0=0;rw[List.getD_eq_getElem?_getD,List.getElem?_replicate];split<;>rfl
   unfold Ao;rw[this];rfl
  have h1:∀c',He (Cd AA) c'=0:=fun c'=>by
   unfold He;show ((List.replicate AA.length ([]:List Nt)).getD c' []).length=0;rw[List.getD_eq_getElem?_getD,List.getElem?_replicate];split<;>rfl
  have:∀m,Ko (aJ AA quick (Cd AA)) m=0:=by
   intro m
   induction m with
   |zero=>rfl
   |succ m ih=>
    rw[Ko,ih];unfold aJ;rw[h0,h1,Rb,jF];simp
  exact this _
 step h hx:=⟨.step h hx,(U8 hb h (Sc hb h).1 hx).1⟩
 top h:=by
  obtain⟨-,n,e,hn⟩:=Sc hb h;show 0<=bQ AA quick _/\bQ AA quick _<=24;rw[e];omega
 back h:=by
  cases h with
  |new=>exact .inl rfl
  |step h hx=>exact .inr ⟨_,h,hx⟩
 like {b b'} h h' hs:=by
  have ha:=Sm hb h h' hs;refine⟨fun x hx=>?_,(Hm (AA:=AA) ha).2.2.1,(Hm (AA:=AA) ha).2.2.2,Z8 ha⟩;have hx:x∈BK AA (AB AA) quick b:=hx;unfold BK at hx;rw[List.mem_map] at hx;obtain⟨s,hs,e⟩:=hx;rw[(Hm (AA:=AA) ha).1] at hs;refine⟨_,List.mem_map.2 ⟨s,hs,rfl⟩,Ce.stand ?_⟩;rw[<-e];split
  . exact Pk ha _
  . exact Ho ha _
 ends h h' he he' hs:=WC hb h h' he he' hs
def je:Sy:=⟨fun b=>b=⟨[],[],[],[],[],[],[]⟩,fun _=>0,fun _=>[],fun _=>false,⟨[],[],[],[],[],[],[]⟩⟩
theorem nQ:Ks je where
 new:=⟨rfl,rfl⟩
 step _ hx:=by cases hx
 top _:=⟨Int.le_refl _,show (0:Int)<=24 by decide⟩
 back h:= .inl h
 like {b b'} h h' _:=by
  have e:b=b':=Eq.trans h (Eq.symm h');exact⟨fun x hx=>(by cases hx),rfl,by rw[e],rfl⟩
 ends _ _ he:=by cases he
def Ff (n:Nat)(l:List Int):List Int:=l++List.replicate (n-l.length) 0
theorem Be {n:Nat}{l:List Int}(h:l.length<=n):(Ff n l).length=n:=by unfold Ff;simp;omega
theorem Kf {n:Nat}{l l':List Int}(hl:l.length=l'.length)(h:Ff n l=Ff n l'):l=l':=(List.append_inj h hl).1
def DQ (b:Bd):List Int:=b.AG.map (fun x=>(x.length:Int))
def MJ (b:Bd):List Int:=Ff 3 b.AM++Ff 3 b.AL
def MK (b:Bd):List Int:=MJ b++Ff 3 (DQ b)++Ff 6 b.sn
structure Pi (b:Bd):Prop where
 p:b.AM.length<=3
 x:b.AL.length<=3
 n:b.AG.length<=3
 s:b.sn.length<=6
theorem Qp {b:Bd}(h:Pi b):(MK b).length=15:=by
 unfold MK MJ DQ;rw[List.length_append,List.length_append,List.length_append,Be h.p,Be h.x,Be h.s,Be (by rw[List.length_map];exact h.n)]
theorem Wt {b b':Bd}(h:Pi b)(h':Pi b')(hp:b.AM.length=b'.AM.length)(hx:b.AL.length=b'.AL.length)(hn:b.AG.length=b'.AG.length)(hs:b.sn.length=b'.sn.length)(e:MK b=MK b'):Bm b b':=by
 unfold MK MJ at e;have ln:(DQ b).length=(DQ b').length:=by unfold DQ;rw[List.length_map,List.length_map,hn]
 have ln3:(DQ b).length<=3:=by unfold DQ;rw[List.length_map];exact h.n
 have ln3':(DQ b').length<=3:=by rw[<-ln];exact ln3
 obtain⟨e1,e4⟩:=List.append_inj e (by rw[List.length_append,List.length_append,List.length_append,List.length_append,Be h.p,Be h.x,Be h'.p,Be h'.x,Be ln3,Be ln3']);obtain⟨e1,e3⟩:=List.append_inj e1 (by rw[List.length_append,List.length_append,Be h.p,Be h.x,Be h'.p,Be h'.x]);obtain⟨e1,e2⟩:=List.append_inj e1 (by rw[Be h.p,Be h'.p]);refine⟨Kf hp e1,Kf hx e2,?_,Kf hs e4⟩;have e5:=Kf ln e3;unfold DQ at e5;have:b.AG.map List.length=(b.AG.map (fun x=>(x.length:Int))).map Int.toNat:=by rw[List.map_map];exact List.map_congr_left (fun x _=>(Int.toNat_natCast x.length).symm)
 rw[this,e5,List.map_map];exact List.map_congr_left (fun x _=>Int.toNat_natCast x.length)
theorem Z0 {b b':Bd}(h:Bm b b'):MK b=MK b':=by
 obtain⟨h1,h2,h3,h4⟩:=h
 have:DQ b=DQ b':=by
  unfold DQ;have q:∀b:Bd,b.AG.map (fun x=>(x.length:Int))=(b.AG.map List.length).map Int.ofNat:=fun b=>by rw[List.map_map];rfl
  rw[q,q,h3]
 unfold MK MJ;rw[h1,h2,h4,this]
structure oV (ds:List (List Dd))(b:Bd):Prop where
 st:Pi b
 wf:∀x∈MK b,-1000<=x/\x<=1000
structure RK (ds:List (List Dd))(S:Sy):Prop where
 one:∀ {b},S.R b->oV ds b
 two:∀ {b b'},S.R b->S.R b'->b.AM.length=b'.AM.length/\b.AL.length=b'.AL.length/\b.AG.length=b'.AG.length/\b.sn.length=b'.sn.length
 few:∀L:List (List Int),L.Nodup->(∀z∈L,∃b,S.R b/\z=MK b)->L.length<=JN
theorem RK.stand {ds:List (List Dd)}{S:Sy}(h:RK ds S){b b':Bd}(hb:S.R b)(hb':S.R b')(e:MK b=MK b'):Bm b b':=by
 obtain⟨q1,q2,q3,q4⟩:=h.two hb hb';exact Wt (h.one hb).st (h.one hb').st q1 q2 q3 q4 e
theorem iV {AA:List (List Dd)}{b:Bd}{a:Ab}{τ:Nat->Nat}{T:Nat}{z:Int}(M:MI AA b a τ T z):(AX Ah (AB AA)).length<=6:=by
 have h9:=Bv AA;have h2:=UD (AB AA) (AB AA).length;have e:AX Ah (AB AA)=Bi Ah (AB AA) (AB AA).length:=by unfold AX;rw[if_pos (by omega)]
 have h3:3<=(AB AA).length:=M.inv.lt 2 (M.inv.FC 2 (by omega)).1;have r0:Ah ((AB AA).getD 0 zE)=false:=(M.inv.FC 0 (by omega)).2.1;have r1:Ah ((AB AA).getD 1 zE)=false:=(M.inv.FC 1 (by omega)).2.1;have r2:Ah ((AB AA).getD 2 zE)=false:=(M.inv.FC 2 (by omega)).2.1;have h4:3<=Nv (AB AA) 3:=by simp only[Nv,r0,r1,r2];decide
 have h5:=Kl (AB AA) h3;rw[e];omega
theorem nT:RK [] je where
 one h:=by
  rw[show _=_ from h];refine⟨⟨by simp,by simp,by simp,by simp⟩,fun x hx=>?_⟩;have e:MK ⟨[],[],[],[],[],[],[]⟩=List.replicate 15 0:=rfl;rw[e] at hx;have:=List.eq_of_mem_replicate hx;omega
 two h h':=by rw[show _=_ from h,show _=_ from h'];exact⟨rfl,rfl,rfl,rfl⟩
 few L hn h:=by
  match L,hn,h with
  | [],_,_=>exact Nat.zero_le _
  | [_],_,_=>exact (by decide:1<=JN)
  |x::y::l,hn,h=>
   obtain⟨b,hb,e⟩:=h x (by simp);obtain⟨b',hb',e'⟩:=h y (by simp);have:x=y:=by rw[e,e',show b=_ from hb,show b'=_ from hb']
   rw[List.nodup_cons] at hn;exact absurd (by rw[this];simp) hn.1
theorem SF:∀(AA:List (List Dd)) (i:Nat),(AA.getD i []).length<=C8 AA
 | [],i=>by simp
 |d::AA,0=>by rw[C8];show d.length<=_;omega
 |d::AA,i+1=>by
  have:=SF AA i;rw[C8];show (AA.getD i []).length<=_;omega
theorem UL {AA:List (List Dd)}(hb:AQ AA=true){quick:Bool}(L:List (List Int))(hn:L.Nodup)(h:∀z∈L,∃b,A6 AA quick b/\z=MK b):L.length<=JN:=by
 refine Qe JN (fun k c=>∃b a τ T z,MI AA b a τ T z/\MK b=k/\J3 AA a=c) _ hn (fun k hk=>?_) ?_
 ·
  obtain⟨b,hr,e⟩:=h k hk;obtain⟨a,τ,T,z,M,-⟩:=A8 hb hr;exact⟨_,Ug hb (Ps hb M),b,a,τ,T,z,M,e.symm,rfl⟩
 ·
  rintro k k' c ⟨b,a,τ,T,z,M,rfl,ec⟩ ⟨b',a',τ',T',z',M',rfl,ec'⟩;have ha:=LG M.Bz M'.Bz (Rj hb M M' (ec.trans ec'.symm));obtain⟨h1,h2,h3,h4,_⟩:=GL ha;exact Z0 ⟨h4,h1,by rw[h2],h3⟩
theorem MT {n:Nat}{l:List Int}{x:Int}(h:x∈Ff n l):x∈l\/x=0:=by
 unfold Ff at h;rcases List.mem_append.1 h with h|h
 . exact .inl h
 . exact .inr (List.eq_of_mem_replicate h)
theorem nV {AA:List (List Dd)}(hb:AQ AA=true)(quick:Bool):RK AA (jf AA quick) where
 one {b} h:=by
  obtain⟨a,τ,T,z,M,-⟩:=A8 hb h;have hB:=IK hb M;have h3:=Ci hb;have hs:b.sn.length<=6:=by rw[M.Bz.sn,List.length_map];exact iV M
  have h12:C8 AA<=12:=by
   have:=hb;simp only[AQ,Bool.and_eq_true,decide_eq_true_eq] at this;exact this.1.1.2
  unfold AW C1 EU at hB;simp only[Bool.and_eq_true,decide_eq_true_eq] at hB;obtain⟨⟨_,h1,_,_,h5,h6⟩,⟨_,_,b1,_,b2,_⟩,_,h10⟩:=hB;unfold DW at b1 b2;simp only[Bool.and_eq_true,decide_eq_true_eq] at b1 b2;have ck:=fun i (hi:i<AA.length)=>List.all_eq_true.1 h10 i (List.mem_range.2 hi)
  unfold Ln at ck;simp only[Bool.and_eq_true,decide_eq_true_eq] at ck;have hlen:∀i,(AA.getD i []).length<=12:=fun i=>Nat.le_trans (SF AA i) h12
  refine⟨⟨by omega,by omega,by omega,hs⟩,fun x hx=>?_⟩;unfold MK MJ at hx;simp only[List.mem_append] at hx
  have Zg:∀ {l:List Int} {lo hi:Int},l.all (fun x=>decide (lo<=x)&&decide (x<=hi))=true->x∈l->lo<=x/\x<=hi:=fun hl hx=>by
   have:=List.all_eq_true.1 hl x hx
   simpa using this
  rcases hx with ((hx|hx)|hx)|hx
  ·
   rcases MT hx with hx|rfl
   . have:=Zg b1.1 hx;omega
   . omega
  ·
   rcases MT hx with hx|rfl
   ·
    obtain⟨i,hi,e⟩:=List.getElem_of_mem hx;have q:=(ck i (by omega)).1;rw[List.getD_eq_getElem?_getD,List.getElem?_eq_getElem hi] at q;simp only[Option.getD_some] at q;rw[e] at q;have:=hlen i;omega
   . omega
  ·
   rcases MT hx with hx|rfl
   ·
    unfold DQ at hx;obtain⟨n,hn,rfl⟩:=List.mem_map.1 hx;obtain⟨i,hi,e⟩:=List.getElem_of_mem hn;have q:=(ck i (by omega)).2.1;rw[List.getD_eq_getElem?_getD,List.getElem?_eq_getElem hi] at q;simp only[Option.getD_some] at q;rw[e] at q;omega
   . omega
  ·
   rcases MT hx with hx|rfl
   . have:=Zg b2.1 hx;omega
   . omega
 two {b b'} h h':=by
  obtain⟨a,τ,T,z,M,-⟩:=A8 hb h;obtain⟨a',τ',T',z',M',-⟩:=A8 hb h';exact⟨by rw[M.Bz.AM,M'.Bz.AM];simp,by rw[M.Bz.AL,M'.Bz.AL];simp,by rw[M.Bz.AG,M'.Bz.AG];simp,by rw[M.Bz.sn,M'.Bz.sn];simp⟩
 few L hn h:=UL hb L hn h
def jG:List Value:=List.replicate 15 (.int .i64 0)
def UF (b:Bd):Array Value:=((MK b).map (Value.int .i64)).toArray
def Hg (b:Bd):Value:= .agg (UF b)
theorem Tz {w:World}{a:Option Addr}{n c:Nat}{zs:List Int}(h:Rd w (.slice a n c) zs):0<(zs.map (Value.int .i64)).length->∃ad,a=some ad/\∀j u,(zs.map (Value.int .i64))[j]? = some u->w.cell? (ad.add j)=some u:=by
 obtain⟨a',c',e,h⟩:=h;simp only[Value.slice.injEq] at e;obtain⟨rfl,-,-⟩:=e;intro hpos;rcases h with h|⟨b,o,rfl,hb,hc⟩
 . rw[h] at hpos;simp at hpos
 ·
  refine⟨_,rfl,fun j u hj=>?_⟩;rw[List.getElem?_map] at hj
  have hjl:j<zs.length:=by
   apply Classical.byContradiction;intro hno;rw[List.getElem?_eq_none (by omega)] at hj;cases hj
  have e1:(⟨b,o,none⟩:Addr).add j=⟨b,o+j,none⟩:=by unfold Addr.add;split<;>simp_all
  rw[e1,hc j hjl,List.getD_eq_getElem?_getD];rw[List.getElem?_eq_getElem hjl] at hj ⊢;exact hj
theorem Kd (zs:List Int):∀u∈zs.map (Value.int .i64),u.oneCell'=true:=by
 intro u hu;obtain⟨x,_,rfl⟩:=List.mem_map.1 hu;rfl
theorem iY (b:Bd):(UF b).all (·.oneCell')=true:=by
 unfold UF;rw[Array.all_eq_true_iff_forall_mem];intro x hx;rw[List.mem_toArray] at hx;exact Kd _ x hx
theorem UK:(Tryz.prog.info? 82).map (·.size)=some 15:=by kernel_rfl
theorem IY (L:List Int)(off:Nat)(cs:List Int):splice (L.map (Value.int .i64)) off (cs.map (Value.int .i64))=(splice L off cs).map (Value.int .i64):=by
 unfold splice;rw[List.map_append,List.map_append,List.map_take,List.map_drop,List.length_map]
theorem Qt (A C:List Int)(n:Nat)(cs:List Int)(h:cs.length<=n):splice (A++(List.replicate n 0++C)) A.length cs=A++(Ff n cs++C):=by
 unfold splice Ff;rw[List.take_left,<-List.drop_drop,List.drop_left,List.drop_append_of_le_length (by rw[List.length_replicate];exact h),List.drop_replicate,List.append_assoc]
theorem iw (A C:List Int)(n:Nat)(l:List Int){k:Nat}(hk:k<l.length)(hl:l.length<=n):(A++(Ff n (l.take k)++C)).set (A.length+k) (l.getD k 0)=A++(Ff n (l.take (k+1))++C):=by
 have e1:(l.take k).length=k:=by rw[List.length_take];omega
 have e2:(l.take (k+1)).length=k+1:=by rw[List.length_take];omega
 unfold Ff;rw[e1,e2,List.set_append_right _ _ (by omega),show A.length+k-A.length=k by omega,List.append_assoc,List.set_append_right _ _ (by omega),e1,show k-k=0 by omega,show n-k=(n-(k+1))+1 by omega,List.replicate_succ,List.cons_append,List.set_cons_zero,List.take_succ_eq_append_getElem hk,List.getD_eq_getElem?_getD,List.getElem?_eq_getElem hk];simp only[Option.getD_some,List.append_assoc,List.cons_append,List.nil_append]
def Z3 (b:Bd)(k:Nat):List Int:=MJ b++(Ff 3 ((DQ b).take k)++Ff 6 b.sn)
theorem iZ (b:Bd):Z3 b b.AG.length=MK b:=by
 unfold Z3 MK;rw[List.take_of_length_le (by unfold DQ;rw[List.length_map];exact Nat.le_refl _),List.append_assoc]
theorem Ng {b:Bd}(h:Pi b):(MJ b).length=6:=by unfold MJ;rw[List.length_append,Be h.p,Be h.x]
theorem ic {b:Bd}(h:Pi b)(k:Nat):(Z3 b k).length=15:=by
 unfold Z3;rw[List.length_append,List.length_append,Ng h,Be h.s,Be (by rw[List.length_take];unfold DQ;rw[List.length_map];have:=h.n;omega)]
theorem ig {b:Bd}(h:Pi b){k:Nat}(hk:k<b.AG.length):(Z3 b k).set (6+k) ((b.AG.getD k []).length:Int)=Z3 b (k+1):=by
 have hl:(DQ b).length=b.AG.length:=by unfold DQ;rw[List.length_map]
 have q:=iw (MJ b) (Ff 6 b.sn) 3 (DQ b) (k:=k) (by omega) (by rw[hl];exact h.n);rw[Ng h] at q
 have e:(DQ b).getD k 0=((b.AG.getD k []).length:Int):=by
  unfold DQ;rw[List.getD_eq_getElem?_getD,List.getElem?_map,List.getD_eq_getElem?_getD,List.getElem?_eq_getElem hk];rfl
 rw[e] at q;exact q
theorem Wu {b:Bd}(h:Pi b):splice (splice (splice jG 0 (b.AM.map (Value.int .i64))) 3 (b.AL.map (Value.int .i64))) 9 (b.sn.map (Value.int .i64))=(Z3 b 0).map (Value.int .i64):=by
 have e0:jG=(([]:List Int)++(List.replicate 3 0++List.replicate 12 0)).map (Value.int .i64):=rfl;have s1:=Qt [] (List.replicate 12 0) 3 b.AM h.p;have s2:=Qt (Ff 3 b.AM) (List.replicate 9 0) 3 b.AL h.x;have s3:=Qt (MJ b++List.replicate 3 0) [] 6 b.sn h.s;rw[Be h.p] at s2;rw[List.length_append,Ng h,List.length_replicate] at s3;rw[e0,IY];rw[show splice (([]:List Int)++(List.replicate 3 0++List.replicate 12 0)) 0 b.AM=Ff 3 b.AM++(List.replicate 3 0++List.replicate 9 0) from s1,IY,s2,IY]
 congr 1
 rw[show Ff 3 b.AM++(Ff 3 b.AL++List.replicate 9 0)=MJ b++List.replicate 3 0++(List.replicate 6 0++[]) by unfold MJ;simp only[List.append_assoc,List.append_nil];rfl];rw[s3];unfold Z3;simp[Ff]
abbrev zN:Nt:=(0,0,0)
def cN (x:Nt):List Value:=[.int .i64 x.1,.int .i64 x.2.1,.int .i64 x.2.2]
theorem EE (x:Nt):(cN x).length=3:=rfl
abbrev jK (w:World)(v:Value)(ns:List Nt):Prop:=oG cN 3 w v ns
theorem qQ {w:World}{b o:Nat}{x:Nt}(h:ah cN w b o x):w.cell? ⟨b,o,none⟩=some (.int .i64 x.1)/\w.cell? ⟨b,o+1,none⟩=some (.int .i64 x.2.1)/\w.cell? ⟨b,o+2,none⟩=some (.int .i64 x.2.2):=
 ⟨h 0 _ rfl,h 1 _ rfl,h 2 _ rfl⟩
theorem Ir {ns:List Nt}{i:Nat}(h:i<ns.length):ns[i]? = some (ns.getD i zN):=by
 rw[List.getD_eq_getElem?_getD,List.getElem?_eq_getElem h];rfl
def YA (w:World)(v:Value)(mY:List (List Nt)):Prop:=
 ∃(a:Option Addr) (cap:Nat),v = .slice a mY.length cap /\
  (mY=[]\/∃b off,a=some ⟨b,off,none⟩/\b<w.heap.size/\∀i,i<mY.length->∃vi,w.cell? ⟨b,off+i,none⟩=some vi/\jK w vi (mY.getD i []))
theorem YA.keep {w w':World}{v:Value}{mY:List (List Nt)}(h:YA w v mY)(k:AC w w'):YA w' v mY:=by
 obtain⟨a,cap,hv,h⟩:=h;refine⟨a,cap,hv,?_⟩;rcases h with h|⟨b,off,ha,hb,hc⟩
 . exact .inl h
 ·
  refine .inr ⟨b,off,ha,Nat.lt_of_lt_of_le hb k.size,fun i hi=>?_⟩;obtain⟨vi,h1,h2⟩:=hc i hi;exact⟨vi,(k.cell hb).trans h1,h2.keep k⟩
structure BV where
 W:Value
 P:Value
 L:Value
 N:Value
 X:Value
 S:Value
 F:Value
 R:Value
abbrev BV.arr (v:BV):Array Value:=#[v.W,v.P,v.L,v.N,v.X,v.S,v.F,v.R]
abbrev BV.agg (v:BV):Value:= .agg #[v.W,v.P,v.L,v.N,v.X,v.S,v.F,v.R]
structure CV (w:World)(v:BV)(AA:List (List Dd))(b:Bd):Prop where
 W:JJ w v.W AA
 P:Rd w v.P b.AM
 L:Rd w v.L b.AO
 N:YA w v.N b.AG
 X:Rd w v.X b.AL
 S:Rd w v.S b.sn
 F:Rd w v.F b.fr
 R:RJ w v.R b.rws
theorem CV.keep {w w':World}{v:BV}{AA:List (List Dd)}{b:Bd}(h:CV w v AA b)(k:AC w w'):CV w' v AA b:=
 ⟨h.W.keep k,h.P.keep k,h.L.keep k,h.N.keep k,h.X.keep k,h.S.keep k,h.F.keep k,h.R.keep k⟩
structure Gi (AA:List (List Dd))(b:Bd):Prop where
 w1:AA.length<=1048576
 w2:∀i,i<AA.length->(AA.getD i []).length<=1048576
 AM:b.AM.length<=1048576
 AO:b.AO.length<=1048576
 n1:b.AG.length<=1048576
 n2:∀i,i<b.AG.length->(b.AG.getD i []).length<=1048576
 AL:b.AL.length<=1048576
 sn:b.sn.length<=1048576
 fr:b.fr.length<=1048576
 r1:b.rws.length<=1048576
 r2:∀i,i<b.rws.length->(b.rws.getD i []).length<=1048576
theorem Tryz.ZP:laidOutB Tryz.prog=true:=by kernel_rfl
theorem Tryz.tJ:(82:TypeId)<Tryz.prog.types.size:=of_decide_eq_true (by kernel_rfl)
theorem Tryz.nY:(match Tryz.prog.underlying 82 with|some (.array _ _)|some (.struct _)=>true|_=>false)=true:=by rw[Tryz.underlying82]
theorem ZQ:Maps.Keyed Tryz.prog 82:=Maps.Keyed.of_law (deep_law_laid Tryz.ZP (m:=4) (by omega) Tryz.tJ (by kernel_rfl) Tryz.nY)
theorem Tryz.sG:Tryz.prog.keyType 82=true:=by kernel_rfl
theorem Tryz.Ud:Tryz.prog.cellsOf 82=15:=by kernel_rfl
theorem Tryz.Ub:Tryz.prog.cellsOf 79=3:=by kernel_rfl
theorem Tryz.Uc:Tryz.prog.cellsOf 80=6:=by kernel_rfl
theorem Tryz.Ye:Tryz.prog.cellsOf 2=1:=by kernel_rfl
theorem aQ {x:Int}(h:-1000<=x/\x<=1000):(Lit.int .i64 x).wf=true:=WalkArith.wf_i64 (by omega)
theorem Dq (D:Nat){x:Int}(h:-1000<=x/\x<=1000):Tryz.prog.keyLits (D+1) 2 [.int .i64 x]=some [.int .i64 x]:=by
 have:=aQ h;simp[Program.keyLits,Tryz.underlying2,this]
theorem QV (D:Nat){a b c:Int}(ha:-1000<=a/\a<=1000)(hb:-1000<=b/\b<=1000)(hc:-1000<=c/\c<=1000):Tryz.prog.keyLits (D+2) 79 [.int .i64 a,.int .i64 b,.int .i64 c]=some [.int .i64 a,.int .i64 b,.int .i64 c]:=by
 have e:Tryz.prog.keyLits (D+2) 79 [.int .i64 a,.int .i64 b,.int .i64 c]=((List.range 3).mapM fun i=>Tryz.prog.keyLits (D+1) 2 (([.int .i64 a,.int .i64 b,.int .i64 c].drop (i*1)).take 1)).map List.flatten:=by
  rw[Program.keyLits.eq_def];simp only[Tryz.underlying79];simp only[Tryz.Ub,Tryz.Ye];rfl
 rw[e];simp[List.range,List.range.loop,Dq D ha,Dq D hb,Dq D hc]
theorem iA (D:Nat){a b c d e f:Int}(ha:-1000<=a/\a<=1000)(hb:-1000<=b/\b<=1000)(hc:-1000<=c/\c<=1000)(hd:-1000<=d/\d<=1000)(he:-1000<=e/\e<=1000)(hf:-1000<=f/\f<=1000):
  Tryz.prog.keyLits (D+2) 80 [.int .i64 a,.int .i64 b,.int .i64 c,.int .i64 d,.int .i64 e,.int .i64 f]=some [.int .i64 a,.int .i64 b,.int .i64 c,.int .i64 d,.int .i64 e,.int .i64 f]:=by
 have q:Tryz.prog.keyLits (D+2) 80 [.int .i64 a,.int .i64 b,.int .i64 c,.int .i64 d,.int .i64 e,.int .i64 f]=((List.range 6).mapM fun i=>Tryz.prog.keyLits (D+1) 2 (([.int .i64 a,.int .i64 b,.int .i64 c,.int .i64 d,.int .i64 e,.int .i64 f].drop (i*1)).take 1)).map List.flatten:=by
  rw[Program.keyLits.eq_def];simp only[Tryz.underlying80];simp only[Tryz.Uc,Tryz.Ye];rfl
 rw[q];simp[List.range,List.range.loop,Dq D ha,Dq D hb,Dq D hc,Dq D hd,Dq D he,Dq D hf]
theorem gy {l:List Int}(h:l.length=15):∃a0 a1 a2 a3 a4 a5 a6 a7 a8 a9 a10 a11 a12 a13 a14:Int,l=[a0,a1,a2,a3,a4,a5,a6,a7,a8,a9,a10,a11,a12,a13,a14]:=by
 match l,h with
 | [a0,a1,a2,a3,a4,a5,a6,a7,a8,a9,a10,a11,a12,a13,a14],_=>exact⟨_,_,_,_,_,_,_,_,_,_,_,_,_,_,_,rfl⟩
theorem ZN {ds:List (List Dd)}{b:Bd}(h:oV ds b):∃l,keyOf Tryz.prog 82 (Hg b)=some l:=by
 have hl:=Qp h.st;have hw:=h.wf;unfold Hg UF;generalize MK b=L at hl hw;obtain⟨a0,a1,a2,a3,a4,a5,a6,a7,a8,a9,a10,a11,a12,a13,a14,rfl⟩:=gy hl;simp only[List.mem_cons,List.not_mem_nil,or_false,forall_eq_or_imp,forall_eq] at hw;obtain⟨h0,h1,h2,h3,h4,h5,h6,h7,h8,h9,h10,h11,h12,h13,h14⟩:=hw;unfold keyOf;rw[Tryz.underlying82];simp only
 have hf:(Value.agg (([a0,a1,a2,a3,a4,a5,a6,a7,a8,a9,a10,a11,a12,a13,a14]:List Int).map (Value.int .i64)).toArray).formed Tryz.prog 82=true:=by
  simp[Value.formed,Tryz.underlying82,Tryz.Ud]
 rw[hf,Tryz.sG];simp only[Bool.and_self,if_true,Option.map_eq_some_iff];obtain⟨D,hD⟩:∃D,Tryz.prog.types.size+1=D+3:=⟨Tryz.prog.types.size-2,by have:2<=Tryz.prog.types.size:=of_decide_eq_true (by kernel_rfl);omega⟩;rw[hD];refine⟨_,[.int .i64 a0,.int .i64 a1,.int .i64 a2,.int .i64 a3,.int .i64 a4,.int .i64 a5,.int .i64 a6,.int .i64 a7,.int .i64 a8,.int .i64 a9,.int .i64 a10,.int .i64 a11,.int .i64 a12,.int .i64 a13,.int .i64 a14],?_,rfl⟩;show Tryz.prog.keyLits (D+3) 82 [.int .i64 a0,.int .i64 a1,.int .i64 a2,.int .i64 a3,.int .i64 a4,.int .i64 a5,.int .i64 a6,.int .i64 a7,.int .i64 a8,.int .i64 a9,.int .i64 a10,.int .i64 a11,.int .i64 a12,.int .i64 a13,.int .i64 a14]=_;rw[Program.keyLits.eq_def];simp only[Tryz.underlying82];simp[Tryz.Ud,Tryz.Ub,Tryz.Uc,QV D h0 h1 h2,QV D h3 h4 h5,QV D h6 h7 h8,iA D h9 h10 h11 h12 h13 h14]
theorem iq {b b':Bd}(h:Hg b=Hg b'):MK b=MK b':=by
 unfold Hg UF at h;simp only[Value.agg.injEq,List.toArray_eq_iff] at h;have h:(MK b).map (Value.int .i64)=(MK b').map (Value.int .i64):=by simpa using h
 exact List.map_inj_right (fun x y e=>by simpa using e) |>.1 h
def R0:Value->Option (DataW Unit×List MemPlace):=fun _=>some (.map [],[])
structure Wv (w:World)(g:Nat)(es:Array MapEntry)(l:List (BV×Bd)):Prop where
 ex:∃clock,w.heap[g]? = some (.map es clock)/\Fit Tryz.prog 82 R0 es clock
 lU:∀x∈es.toList,∃p∈l,x.key=Hg p.2/\x.val=p.1.agg
 vJ:∀p∈l,∃x∈es.toList,x.key=Hg p.2
theorem Wv.new (w:World):Wv (w.alloc (.map #[] 0)) w.heap.size #[] []:=
 ⟨⟨0,(MapKept.heap_alloc w _).1,⟨by simp,stamped_empty 0,by simp⟩⟩,fun x hx=>by simp at hx,fun p hp=>by cases hp⟩
theorem Wv.lt {w:World}{g:Nat}{es:Array MapEntry}{l:List (BV×Bd)}(h:Wv w g es l):g<w.heap.size:=by
 obtain⟨c,h1,_⟩:=h.ex;exact (Array.getElem?_eq_some_iff.1 h1).1
theorem Wv.same {w w':World}{g:Nat}{es:Array MapEntry}{l:List (BV×Bd)}(h:Wv w g es l)(e:w'.heap[g]? = w.heap[g]?):Wv w' g es l:=by
 obtain⟨c,h1,h2⟩:=h.ex;exact⟨⟨c,e.trans h1,h2⟩,h.lU,h.vJ⟩
theorem Wv.keep {w w':World}{g:Nat}{es:Array MapEntry}{l:List (BV×Bd)}(h:Wv w g es l)(k:AC w w'):Wv w' g es l:=h.same (Below.block k _ h.lt)
theorem Wv.kept {w w':World}{g:Nat}{es:Array MapEntry}{l:List (BV×Bd)}{r:Option Nat}(h:Wv w g es l)(k:w.grownBy w' r)(hr:r≠some g):Wv w' g es l:=h.same (k.block g h.lt (fun e=>hr e.symm))
theorem Wv.put {w:World}{g:Nat}{es:Array MapEntry}{l:List (BV×Bd)}(h:Wv w g es l)(hn:es.size<maxLen){b:Bd}(hk:∃kl,keyOf Tryz.prog 82 (Hg b)=some kl)(bv:BV):
  ∃w' es',(Instr.mapUpdate 85 (.map (some g)) (Hg b) bv.agg).run Tryz.prog w = .ok () w'/\Wv w' g es' (l++[(bv,b)])/\w.grownBy w' (some g):=by
 obtain⟨c,hb,F⟩:=h.ex;obtain⟨kl,hk⟩:=hk;obtain⟨es',c',hrun,F',hput,-,-,hwho⟩:=Maps.fit_store (R':=R0) ZQ Tryz.underlying85 hb F hn (key:=Hg b) (val:=bv.agg) (fun _ _ _ _ hz=>hz) hk (yv:=(.map [],[])) rfl;refine⟨_,es',hrun,⟨⟨c',heap_setBlock_same hb _,F'⟩,fun x hx=>?_,fun p hp=>?_⟩,⟨rfl,rfl,rfl,by simp[setBlock],fun i _ hi=>heap_setBlock_other hb _ (fun e=>hi (by rw[e]))⟩⟩
 ·
  rcases hwho x hx with ⟨q1,q2⟩|⟨q1,q2⟩
  ·
   obtain⟨p,hp,e1,e2⟩:=h.lU x q1;exact⟨p,List.mem_append_left _ hp,e1,e2⟩
  . exact⟨(bv,b),by simp,q1,q2⟩
 ·
  have key:∀(k:Value) (kl':Lit),keyOf Tryz.prog 82 k=some kl'->(kl'=kl\/∃x∈es.toList,x.key=k)->∃x∈es'.toList,x.key=k:=by
   intro k kl' hk' ho
   have hm:∃d,(kl',d)∈ChangeMaps.putKey (H:=Unit) kl (.map []) ((es.toList.map (WideElems.rg Tryz.prog 82 R0)).foldr DataW.insert []):=by
    unfold ChangeMaps.putKey;by_cases e:kl'=kl
    ·
     subst e;exact⟨_,ChangeMaps.mem_insert_iff.2 (.inl rfl)⟩
    ·
     rcases ho with ho|⟨x,hx,rfl⟩
     . exact absurd ho e
     ·
      obtain⟨y,hy⟩:=F.reads x hx;have e1:=WideElems.rd_key hy;rw[hk'] at e1;have e1:=Option.some.inj e1;refine⟨y.2,ChangeMaps.mem_insert_iff.2 (.inr (List.mem_filter.2 ⟨mem_sorted.2 (List.mem_map.2 ⟨x,hx,?_⟩),?_⟩))⟩
      . rw[WideElems.rg_of hy,e1]
      . exact (Maps.notKey_iff (ZQ.key hk)).2 e
   obtain⟨d,hd⟩:=hm;rw[<-hput] at hd;obtain⟨x,hx,e⟩:=List.mem_map.1 (mem_sorted.1 hd);obtain⟨y,hy⟩:=F'.reads x hx;rw[WideElems.rg_of hy] at e;have e1:=WideElems.rd_key hy;rw[e] at e1;exact⟨x,hx,ZQ.inj e1 hk'⟩
  rcases List.mem_append.1 hp with hp|hp
  ·
   obtain⟨x,hx,e⟩:=h.vJ p hp;obtain⟨y,hy⟩:=F.reads x hx;have e1:=WideElems.rd_key hy;rw[<-e];exact key x.key y.1 e1 (.inr ⟨x,hx,rfl⟩)
  ·
   rw[List.mem_singleton] at hp;subst hp;exact key (Hg b) kl hk (.inl rfl)
def kI:Value->List Int
 | .agg cs=>cs.toList.map intOf
 |_=>[]
theorem ZK (b:Bd):kI (Hg b)=MK b:=by
 unfold Hg UF kI;simp only[List.map_map];have:(intOf ∘ Value.int .i64)=id:=by funext x;rfl
 rw[this,List.map_id]
theorem Wv.room {w:World}{g:Nat}{es:Array MapEntry}{l:List (BV×Bd)}(h:Wv w g es l){ds:List (List Dd)}{S:Sy}(Z:RK ds S)(hl:∀p∈l,S.R p.2):es.size<maxLen:=by
 obtain⟨c,_,F⟩:=h.ex;have hn:es.toList.Pairwise (fun x y=>x.key≠y.key):=((stamped_iff es c).1 F.stamped).2.2
 have h1:((es.toList.map (fun x=>kI x.key)).Nodup):=by
  rw[List.Nodup,List.pairwise_map];refine hn.imp_of_mem ?_;intro x y hx hy hne e;obtain⟨p,_,e1,_⟩:=h.lU x hx;obtain⟨q,_,e2,_⟩:=h.lU y hy;rw[e1,e2,ZK,ZK] at e;apply hne;rw[e1,e2];unfold Hg UF;rw[e]
 have h2:=Z.few _ h1 (fun z hz=>by
  obtain⟨x,hx,rfl⟩:=List.mem_map.1 hz;obtain⟨p,hp,e1,_⟩:=h.lU x hx
  exact⟨p.2,hl p hp,by rw[e1,ZK]⟩)
 rw[List.length_map,Array.length_toList] at h2;have:JN<maxLen:=by decide
 omega
def cD (d:Dd):List Value:=[.int .i64 d.1,.int .i64 d.2.1,.int .i64 d.2.2.1,.int .i64 d.2.2.2]
def Br (w:World)(base:Nat)(v:Value)(ds:List Dd):Prop:=w.ownsRow base 65 4 v ds.length (ds.flatMap cD)
theorem Br.keep {w w':World}{base:Nat}{v:Value}{ds:List Dd}(h:Br w base v ds)(k:AC w w'):Br w' base v ds:=
 World.ownsRow.kept h k.grownBy (by cases v.ownBlock<;>simp)
theorem Br.ge {w:World}{base:Nat}{v:Value}{ds:List Dd}(h:Br w base v ds):∀k,v.ownBlock=some k->base<=k:=fun k hk=>(World.ownsRow.lt h k hk).1
theorem Ht {w:World}{base:Nat}{v:Value}{ds:List Dd}{d:Dd}(h:w.ownsRow base 65 4 v (ds.length+1) (ds.flatMap cD++cD d)):Br w base v (ds++[d]):=by
 unfold Br;simpa using h
theorem YZ:∀(ds:List Dd) (i m:Nat),i<ds.length->m<4->(ds.flatMap cD)[i*4+m]? = (cD (ds.getD i zD))[m]?
 | [],i,m,h,_=>by simp at h
 |d::r,0,m,_,hm=>by
  rw[List.flatMap_cons,List.getElem?_append_left (by simp[cD];omega)];simp
 |d::r,i+1,m,h,hm=>by
  have ih:=YZ r i m (by simpa using h) hm;rw[List.flatMap_cons,List.getElem?_append_right (by simp[cD];omega),show (i+1)*4+m-(cD d).length=i*4+m by simp[cD];omega,ih];simp
theorem Br.SX {w:World}{base:Nat}{v:Value}{ds:List Dd}(h:Br w base v ds):kJ w base v ds:=by
 have h2:=h;rcases h.2 with ⟨rfl,hn⟩|⟨g,cap,cur,rfl,hb,hg,hcap,_,hs,_⟩
 ·
  have:ds=[]:=List.eq_nil_of_length_eq_zero hn;subst this;exact⟨none,0,rfl,.inl rfl⟩
 ·
  obtain⟨x,rfl⟩:∃x,cap=ds.length+x:=⟨cap-ds.length,by omega⟩;by_cases h0:ds=[]
  . exact⟨_,x,rfl,.inl h0⟩
  ·
   have len:(ds.flatMap cD).length=ds.length*4:=h.1
   have big:ds.length*4<=cur.size:=by
    have h5:=World.ownsRow.cellAt h2 (ds.length*4-1) (by
     have:ds.length≠0:=fun e=>h0 (List.eq_nil_of_length_eq_zero e)
     omega)
    rw[cell_of_row w g _ cur _ (0,0) hg] at h5;have hpos:ds.length≠0:=fun e=>h0 (List.eq_nil_of_length_eq_zero e)
    rw[List.getElem?_eq_getElem (by omega)] at h5;have:=(Array.getElem?_eq_some_iff.1 h5).1;omega
   refine⟨_,x,rfl,.inr ⟨g,rfl,hb,⟨cur,_,hg,big⟩,fun i hi=>?_⟩⟩
   have key:∀m,m<4->w.cell? ⟨g,i*4+m,none⟩=(cD (ds.getD i zD))[m]?:=fun m hm=>by
    rw[World.ownsRow.cellAt h2 (i*4+m) (by omega),YZ ds i m hi hm]
   exact⟨key 0 (by omega),key 1 (by omega),key 2 (by omega),key 3 (by omega)⟩
theorem Br.shape {w:World}{base:Nat}{v:Value}{ds:List Dd}(h:Br w base v ds):∃a c,v = .slice a ds.length c:=by
 obtain⟨a,c,hv,_⟩:=h.SX;exact⟨a,_,hv⟩
def vZ:Value:= .slice none 0 0
theorem Ie {α:Type}(l m:List α)(i:Nat)(z:α)(h:i<l.length):(l++m).getD i z=l.getD i z:=by
 rw[List.getD_eq_getElem?_getD,List.getElem?_append_left h,List.getD_eq_getElem?_getD]
theorem Ow {α:Type}(l:List α)(x z:α):(l++[x]).getD l.length z=x:=by
 rw[List.getD_eq_getElem?_getD];simp
def bB (w:World)(base:Nat)(v:Value)(AA:List (List Dd)):Prop:=
 ∃(a:Option Addr) (cap:Nat),v = .slice a AA.length cap /\
  (AA=[]\/∃b off,a=some ⟨b,off,none⟩/\base<=b/\b<w.heap.size/\∀i,i<AA.length->∃vi,w.cell? ⟨b,off+i,none⟩=some vi/\Br w base vi (AA.getD i []))
theorem bB.rd {w:World}{base:Nat}{v:Value}{AA:List (List Dd)}(h:bB w base v AA):JJ w v AA:=by
 obtain⟨a,cap,hv,h⟩:=h;refine⟨a,cap,hv,?_⟩;rcases h with h|⟨b,off,ha,_,hb,hc⟩
 . exact .inl h
 ·
  refine .inr ⟨b,off,ha,hb,fun i hi=>?_⟩;obtain⟨vi,h1,h2⟩:=hc i hi;exact⟨vi,h1,h2.SX.rd⟩
def JP (w:World)(base N:Nat)(v:Value)(AA:List (List Dd)):Prop:=
 ∃(a:Option Addr) (cap:Nat),v = .slice a AA.length cap /\
  (AA=[]\/∃b off,a=some ⟨b,off,none⟩/\base<=b/\b<N/\b<w.heap.size/\∀i,i<AA.length->∃vi,w.cell? ⟨b,off+i,none⟩=some vi/\Br w base vi (AA.getD i [])/\∀k,vi.ownBlock=some k->k<N)
theorem bB.upto {w:World}{base:Nat}{v:Value}{AA:List (List Dd)}(h:bB w base v AA):JP w base w.heap.size v AA:=by
 obtain⟨a,cap,hv,h⟩:=h;refine⟨a,cap,hv,?_⟩;rcases h with h|⟨b,off,ha,hbb,hb,hl⟩
 . exact .inl h
 ·
  refine .inr ⟨b,off,ha,hbb,hb,hb,fun i hi=>?_⟩;obtain⟨vi,h1,h2⟩:=hl i hi;exact⟨vi,h1,h2,fun k hk=>(h2.lt k hk).2⟩
theorem JP.rd {w:World}{base N:Nat}{v:Value}{AA:List (List Dd)}(h:JP w base N v AA):JJ w v AA:=by
 obtain⟨a,cap,hv,h⟩:=h;refine⟨a,cap,hv,?_⟩;rcases h with h|⟨b,off,ha,_,_,hb,hc⟩
 . exact .inl h
 ·
  refine .inr ⟨b,off,ha,hb,fun i hi=>?_⟩;obtain⟨vi,h1,h2,_⟩:=hc i hi;exact⟨vi,h1,h2.SX.rd⟩
theorem JP.kept {w w':World}{base N:Nat}{row:Option Nat}{v:Value}{AA:List (List Dd)}(h:JP w base N v AA)(hg:w.grownBy w' row)(hr:∀g,row=some g->g<base\/N<=g):JP w' base N v AA:=by
 obtain⟨a,cap,hv,h⟩:=h;refine⟨a,cap,hv,?_⟩;rcases h with h|⟨b,off,ha,hbb,hbN,hb,hl⟩
 . exact .inl h
 ·
  refine .inr ⟨b,off,ha,hbb,hbN,Nat.lt_of_lt_of_le hb hg.size,fun i hi=>?_⟩;obtain⟨vi,h1,h2,h3⟩:=hl i hi;have hblk:w'.heap[b]? = w.heap[b]?:=hg.block b hb (fun e=>by have:=hr b e.symm;omega);refine⟨vi,?_,h2.kept hg ?_,h3⟩
  ·
   simp only[World.cell?,hblk] at h1 ⊢;exact h1
  ·
   cases hu:vi.ownBlock with
   |none=>exact .inl rfl
   |some k=>exact .inr (fun e=>by have:=h2.ge k hu;have:=h3 k hu;have:=hr k e.symm;omega)
end Go.Proofs.YtnmelakgmgenjaaGreat
