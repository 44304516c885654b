/-
 A model that is well formed has values; the walks of the reference's Crossed and DocCrossed (written by makers/f33.py). The walk of the law ModelNames (written by makers/f28.py). The walk of law17's awake, and of StackNew (written by makers/o5.py). The walks of the reference's Same of points, of certificates and of bases that are alike; of the calls of a nil stack; of StackNone (written by makers/o6.py). Lists of numbers that are copies; the walk of law17's lists, and what it answers. Twins have the same values; what adds up along directions. The walk of package dual's Holds, whatever it is handed (written by makers/du8.py). Dual's calls by values; the walk of law11's awake (written by makers/du10.py). The walk of package farkas' through, with any visitor (written by makers/fk1.py). The walks of package farkas' small calls, and of the visitors that set a flag: anyInfinite, anyBelow. The walks of package farkas' plus, times, weight, noughts, allZero (written by makers/fk3.py). Columns of sums and of lists of numbers, lengths; Dot whatever it is handed. The walk of the visitor that adds up bounds with their multipliers (written by makers/fk4.py). The walks of package farkas' check and Combine, whatever they are handed (written by makers/fk5.py). The walk of package farkas' Valid, whatever it is handed (written by makers/fk6.py). The walk of package farkas' Crossing, whatever it is handed (written by makers/fk7.py). The walks of law12's num, one, first (written by makers/fk8.py). Farkas' calls by values; the walk of law12's awake (written by makers/fk9.py). The walks of law13's light, of the reference's Twin of a ray (written by makers/ra7.py). Ray's calls on twins of a model and of lists, by what the model and the lists are; the sum of two directions. Along a direction that recedes points stay points, and values move by the slope. Point's calls on twins, and on what lies along a direction. Calls on twins whose numbers are of at most K limbs, by what they are twins of. Law12's light, the reference's Twin of a certificate; farkas' calls on twins (written by makers/fk10.py). What multipliers show of a point; crossed bounds have multipliers that show that there is none. What multipliers show of a point, and what is left between (the gaps). A drawn region as a flow in which some operations (T: they only read, or take values apart) are carried out as soon as they can be: so that what comes last need not wait for them. No Go text is named here. Values of a flow: twins, answers with a number, boxes.
-/
import Derived.Test.YtankbgpcnljjdaaGreatZ10
import Derived.Test.YtankbgpcnljjdaaGreatZ14
import Derived.Test.YtankbgpcnljjdaaGreatZ0
import Derived.Test.YtankbgpcnljjdaaGreatZ11
import Derived.Test.YtankbgpcnljjdaaGreatZ6
import Derived.Test.YtankbgpcnljjdaaGreatZ8
import Derived.Test.YtankbgpcnljjdaaGreatZ12
import Derived.BigRegion
import Derived.Test.YtankbgpcnljjdaaGreatZ9
namespace Go.Proofs.YtankbgpcnljjdaaGreat
open Go.RowKit
theorem NmS.val {w:World} {t:Nm} {K:Nat} (h:NmS w t) (hf:nfB t=true) (hk:t.n≤K∧t.m≤K):NmV K w t (nq t):=by
 obtain ⟨q,hq⟩:=Nm.rn h hf hk.1 hk.2;rw [hq.nq];exact hq
def cvOf (c:Lc):CV:=⟨c.nm,nq c.cost,c.lo.i,nq c.lo.v,c.hi.i,nq c.hi.v⟩
def rvOf (r:Lr):RV:=⟨r.nm,r.lo.i,nq r.lo.v,r.hi.i,nq r.hi.v,(List.range r.tk).map (fun p=>(r.col p,nq (r.T p)))⟩
theorem range_at {α:Type} {f:Nat→α} {n j:Nat} {v:α} (h:((List.range n).map f)[j]?=some v):j<n∧v=f j:=by
 have hlt:j<n:=by have:=(List.getElem?_eq_some_iff.1 h).1;simpa using this
 simp [hlt] at h;exact ⟨hlt,h.symm⟩
theorem range_get {α:Type} {f:Nat→α} {n j:Nat} (h:j<n):((List.range n).map f)[j]?=some (f j):=by simp [h]
theorem bd_of {w:World} {a b:Ex} {K:Nat} (ha:NmS w a.v) (hb:NmS w b.v) (ka:a.v.n≤K∧a.v.m≤K) (kb:b.v.n≤K∧b.v.m≤K) (h:abB a b=true):NmV K w a.v (nq a.v)∧NmV K w b.v (nq b.v)∧bdB a.i (nq a.v) b.i (nq b.v)=true:=by
 obtain ⟨f1,f2,h1,h2⟩:=abB_ok h;simp only [exF,efB,Bool.and_eq_true,Bool.or_eq_true,decide_eq_true_eq] at f1 f2;have v1:NmV K w a.v (nq a.v):=ha.val f1.1 ka;have v2:NmV K w b.v (nq b.v):=hb.val f2.1 kb;refine ⟨v1,v2,?_⟩;simp only [bdB,Bool.and_eq_true,Bool.or_eq_true,decide_eq_true_eq];constructor
 ·rcases f1.2 with h | ⟨h | h,h3⟩
  ·exact .inl h
  ·exact .inr ⟨h,(Rn.q_zero v1).2 h3⟩
  ·exact absurd h h1
 ·rcases f2.2 with h | ⟨h | h,h3⟩
  ·exact .inl h
  ·exact absurd h h2
  ·exact .inr ⟨h,(Rn.q_zero v2).2 h3⟩
theorem ts_of {w:World} {col:Nat→Int} {T:Nat→Nm} {n K:Nat}:∀{r i:Nat} {last:Int},tfr col T r i last=true→(∀p,i≤p→p<i+r→col p<(n:Int))→(∀p,i≤p→p<i+r→NmV K w (T p) (nq (T p)))→tsB n last ((List.range' i r).map (fun p=>(col p,nq (T p))))=true
 | 0,i,last,_,_,_=>rfl
 | r+1,i,last,h,hc,hv=>by
  simp only [tfr,Bool.and_eq_true,decide_eq_true_eq] at h;rw [List.range'_succ,List.map_cons];simp only [tsB,Bool.and_eq_true,decide_eq_true_eq];refine ⟨h.1,hc i (by omega) (by omega),fun e=>?_,ts_of h.2.2.2 (fun p a b=>hc p (by omega) (by omega)) (fun p a b=>hv p (by omega) (by omega))⟩;have:=(Rn.q_zero (hv i (by omega) (by omega))).1 e;omega
def csOf (M:Mo):List CV:=(List.range M.ck).map (fun j=>cvOf (M.C j))
def rsOf (M:Mo):List RV:=(List.range M.rk).map (fun j=>rvOf (M.R j))
theorem MoR.movC {w M K} (h:MoR w M) (hk:MoK K M) (he:chkE M=0):MoV K w M (nq M.off) (csOf M) (rsOf M)∧mvOk (csOf M) (rsOf M)=true:=by
 obtain ⟨l1,l2,hF,n1,n2,t1,t2,hAl⟩:=chkE_ok he;simp only [moF,Bool.and_eq_true] at hF;obtain ⟨hF0,hFC,hFR⟩:=hF;have hcol:∀j,j<M.ck→ColV K w (M.C j) (cvOf (M.C j))∧bdB (cvOf (M.C j)).li (cvOf (M.C j)).lq (cvOf (M.C j)).hi (cvOf (M.C j)).hq=true:=fun j hj=>by
  obtain ⟨_,_,_,_,hn⟩:=h.cls j hj;obtain ⟨f1,f2⟩:=clsB_at hFC j (by omega) (by omega);have k:=hk.c j hj;obtain ⟨v1,v2,hb⟩:=bd_of hn.lo hn.hi k.2.1 k.2.2 f2;exact ⟨⟨rfl,hn.cost.val f1 k.1,rfl,v1,rfl,v2⟩,hb⟩
 have hrow:∀j,j<M.rk→RowV K w (M.R j) (rvOf (M.R j))∧bdB (rvOf (M.R j)).li (rvOf (M.R j)).lq (rvOf (M.R j)).hi (rvOf (M.R j)).hq=true∧tsB M.ck (-1) (rvOf (M.R j)).ts=true:=fun j hj=>by
  obtain ⟨_,_,_,_,hn⟩:=h.rls j hj;obtain ⟨f1,f2⟩:=rlsB_at hFR j (by omega) (by omega);have k:=hk.r j hj;obtain ⟨v1,v2,hb⟩:=bd_of hn.lo hn.hi k.1 k.2.1 f1;have hall:=(tfr_all f2).1;have hv:∀p,p<(M.R j).tk→NmV K w ((M.R j).T p) (nq ((M.R j).T p)):=fun p hp=>by
   obtain ⟨_,_,_,_,hr⟩:=hn.tl p hp;exact NmS.val hr (hall p (by omega) (by omega)).2.1 (k.2.2.2 p hp)
  refine ⟨⟨rfl,rfl,v1,rfl,v2,by simp [rvOf],fun p z q e=>?_⟩,hb,?_⟩
  ·obtain ⟨hp,e'⟩:=range_at e;obtain ⟨b,o,ea,c4,_⟩:=hn.tl p hp;cases e'
   exact ⟨rfl,hv p hp,b,o,ea,c4⟩
  ·show tsB M.ck (-1) ((List.range (M.R j).tk).map _)=true;rw [List.range_eq_range'];exact ts_of f2 (fun p _ hp=>(cols_at f2 (alB_at hAl j (by omega) (by omega)) p (by omega)).2) (fun p _ hp=>hv p (by omega))
 unfold csOf rsOf;refine ⟨⟨h.off.val hF0 hk.off,by simp,by simp,fun j v e=>?_,fun j v e=>?_⟩,?_⟩
 ·obtain ⟨hj,rfl⟩:=range_at e;obtain ⟨b,o,ea,hc,_⟩:=h.cls j hj;exact ⟨⟨b,o,ea,hc⟩,(hcol j hj).1⟩
 ·obtain ⟨hj,rfl⟩:=range_at e;obtain ⟨b,o,ea,hc,_⟩:=h.rls j hj;exact ⟨⟨b,o,ea,hc⟩,(hrow j hj).1⟩
 ·have ec:∀j,j<M.ck→nmC ((List.range M.ck).map (fun j=>cvOf (M.C j))) j=(M.C j).nm:=fun j hj=>by unfold nmC;rw [range_get hj];rfl
  have er:∀j,j<M.rk→nmR ((List.range M.rk).map (fun j=>rvOf (M.R j))) j=(M.R j).nm:=fun j hj=>by unfold nmR;rw [range_get hj];rfl
  simp only [mvOk,Bool.and_eq_true,decide_eq_true_eq,List.all_eq_true,List.length_map,List.length_range,Bool.not_eq_true'];refine ⟨l1,l2,fun v hv=>?_,fun v hv=>?_,?_,?_,?_,?_⟩
  ·obtain ⟨j,hj,rfl⟩:=List.mem_map.1 hv;exact (hcol j (List.mem_range.1 hj)).2
  ·obtain ⟨j,hj,rfl⟩:=List.mem_map.1 hv;have:=hrow j (List.mem_range.1 hj);refine ⟨this.2.1,this.2.2,?_⟩;have h3:=(hk.r j (List.mem_range.1 hj)).2.2.1;simp [rvOf];omega
  ·rw [nms_congr (S':=fun j=>(M.C j).nm) (fun j _ hj=>ec j (by omega))];exact n1
  ·rw [nms_congr (S':=fun j=>(M.R j).nm) (fun j _ hj=>er j (by omega))];exact n2
  ·rw [twr_congr (S':=fun j=>(M.C j).nm) (fun j hj=>ec j (by omega))];exact t1
  ·rw [twr_congr (S':=fun j=>(M.R j).nm) (fun j hj=>er j (by omega))];exact t2
theorem FnT.of {K w} {e:Ex} {i:Int} {q:Rat} (h:QnT K w e.v q) (hi:e.i=i) (hb:i=0∨(i=-1∨i=1)∧q=0):Fn w e.i e.v.s e.v.x e.v.n e.v.f e.v.y e.v.m e.v.g q:=⟨h.2.2,by rw [hi];exact hb⟩
theorem twin_w {w:World} {M:Mo} {K:Nat} (hX:MoX w M) (hN:MoN M) (hk:M.ck≤64→M.rk≤64→MoK K M) (hK:K≤65536):Calls Tryz.prog 8 #[M.val] w fun e w'=>∃M':Mo,e=.returned M'.val∧Below w.heap.size w w'∧Sm M M'∧MoW w' M'∧MoX w' M'∧(M'.ck≤64→M'.rk≤64→MoK K M') :=
 (mTwin_c hX).mono fun e w' ⟨M',h1,h2,h3,h4⟩=>⟨M',h1,h2,h3,fun a b=>h4.mor (h3.mon hN) (h3.mok (hk (by rw [←h3.ck];exact a) (by rw [←h3.rk];exact b))) hK a b,h4,fun a b=>h3.mok (hk (by rw [←h3.ck];exact a) (by rw [←h3.rk];exact b))⟩
theorem lgM_k {K:Nat} {M:Mo} (h:lgM K M=true):M.ck≤64→M.rk≤64→MoK K M:=fun a b=>lgM_at h a b
theorem El.below {w w' ao k E} (h:El w ao k E) (hb:Below w.heap.size w w'):El w' ao k E:=fun j hj=>by
 obtain ⟨b,o,e,h1⟩:=h j hj;exact ⟨b,o,e,kCb hb h1⟩
theorem Sn.trans {a b c:Nm} (h:Sn a b) (k:Sn b c):Sn a c:=by
 obtain ⟨h1,h2,h3,h4,h5⟩:=h;obtain ⟨k1,k2,k3,k4,k5⟩:=k;exact ⟨k1.trans h1,k2.trans h2,k3.trans h3,k4.trans h4,k5.trans h5⟩
theorem Sn.nq {t t':Nm} (h:Sn t t'):nq t'=nq t:=by
 obtain ⟨h1,h2,h3,h4,h5⟩:=h;unfold Go.Proofs.YtankbgpcnljjdaaGreat.nq;rw [h1,h2,h3,h4,h5]
theorem Sm.csOf {M M':Mo} (h:Sm M M'):csOf M'=csOf M:=by
 unfold Go.Proofs.YtankbgpcnljjdaaGreat.csOf;rw [h.ck];refine List.map_congr_left (fun j hj=>?_);have p:=h.C j (List.mem_range.1 hj);unfold cvOf;rw [p.nm,p.cost.nq,p.li,p.lo.nq,p.hi,p.hv.nq]
theorem Sm.rsOf {M M':Mo} (h:Sm M M'):rsOf M'=rsOf M:=by
 unfold Go.Proofs.YtankbgpcnljjdaaGreat.rsOf;rw [h.rk];refine List.map_congr_left (fun j hj=>?_);have p:=h.R j (List.mem_range.1 hj);unfold rvOf;rw [p.nm,p.li,p.lo.nq,p.hi,p.hv.nq,p.tk,p.col]
 congr 1
 exact List.map_congr_left (fun q hq=>by rw [(p.T q (List.mem_range.1 hq)).nq])
def psOf (k:Nat) (X:Nat→Nm):List Rat:=(List.range k).map (fun j=>nq (X j))
theorem psOf_len (k:Nat) (X:Nat→Nm):(psOf k X).length=k:=by simp [psOf]
theorem psOf_sn {k:Nat} {X X':Nat→Nm} (h:∀j,j<k→Sn (X j) (X' j)):psOf k X'=psOf k X:=List.map_congr_left (fun j hj=>(h j (List.mem_range.1 hj)).nq)
theorem Rl.rfC {w:World} {ao:Option Addr} {k K:Nat} {X:Nat→Nm} (h:Rl w ao k X) (hf:afB k X=true) (hk:∀j,j<k→(X j).n≤K∧(X j).m≤K):Rf K w ao (psOf k X):=fun j q e=>by
 obtain ⟨hj,rfl⟩:=range_at e;obtain ⟨b,o,h1,h2,h3⟩:=h j hj;exact ⟨b,o,X j,h1,h2,NmS.val h3 (afr_all hf j (by omega) (by omega)) (hk j hj)⟩
theorem psum_acc:∀(p:List Rat) (a:Rat),psum p a=a+psum p 0
 | [],a=>by show a=a+0;grind
 | q :: p,a=>by
  simp only [psum];rw [psum_acc p (a+q),psum_acc p (0+q)]
  grind
theorem psum_cons (q:Rat) (p:List Rat):psum (q :: p) 0=q+psum p 0:=by
 simp only [psum];rw [psum_acc];grind
theorem sq_nf {a b:Nm} (h:sqB a b=true):nfB b=nfB a∧nq b=nq a:=by
 obtain ⟨s,x,n,c,f,y,m,d,g⟩:=a;obtain ⟨s',x',n',c',f',y',m',d',g'⟩:=b;obtain ⟨h1,⟨h2,h3⟩,⟨h4,h5⟩⟩:=sq_iff.1 h;simp only at h1 h2 h3 h4 h5;subst h1;subst h2;subst h4
 have e1:vf f' n=vf f n:=(vf_congr h3).symm;have e2:vf g' m=vf g m:=(vf_congr h5).symm;have e3:∀{u v:Nat→Int} {k:Nat},(∀j,j<k→u j=v j)→fmB v k=fmB u k:=fun {u v k} hu=>by
  cases k with
  | zero=>rfl
  | succ k=>unfold fmB;rw [hu (k+1-1) (by omega)]
 constructor
 ·show rfB s f' n g' m=rfB s f n g m;unfold rfB wfB;rw [e1,e2,e3 h3,e3 h5]
 ·show mkRat (wv s f' n) (wv false g' m).toNat=mkRat (wv s f n) (wv false g m).toNat;unfold wv;rw [e1,e2]
theorem eqf_iff {α:Type} {e:α→α→Bool} {X Y:Nat→α}:∀{r i:Nat},eqf e X Y r i=true ↔ ∀j,i≤j→j<i+r→e (X j) (Y j)=true
 | 0,_=>⟨fun _ j a b=>by omega,fun _=>rfl⟩
 | r+1,i=>by
  simp only [eqf,Bool.and_eq_true,eqf_iff (r:=r)];constructor
  ·rintro ⟨h1,h2⟩ j a b;by_cases e:j=i
   ·subst e;exact h1
   ·exact h2 j (by omega) (by omega)
  ·exact fun h=>⟨h i (by omega) (by omega),fun j a b=>h j (by omega) (by omega)⟩
theorem Rl.cs {w ao k X} (h:Rl w ao k X):∀j,j<k→∃b o,ao=some ⟨b,o,none⟩∧Cs w b (o+j*3) (rcell (X j))∧NmS w (X j):=fun j hj=>by
 obtain ⟨b,o,h1,h2,h3⟩:=h j hj;refine ⟨b,o,h1,fun i v e=>?_,h3⟩
 match i,e with
 | 0,e=>cases e;exact h2.x0
 | 1,e=>cases e;exact h2.x1
 | 2,e=>cases e;exact h2.x2
 | i+3,e=>cases e
theorem rf_nm {L w ao} {p:List Rat} (h:Rf L w ao p):∃E:Nat→Nm,∀j q,p[j]?=some q→(∃b o,ao=some ⟨b,o,none⟩∧C3 w b (o+j*3) (.bool (E j).s) (.slice (E j).x (E j).n (E j).c) (.slice (E j).y (E j).m (E j).d))∧NmV L w (E j) q:=by
 refine Classical.axiomOfChoice (r:=fun j (t:Nm)=>∀q,p[j]?=some q→(∃b o,ao=some ⟨b,o,none⟩∧C3 w b (o+j*3) (.bool t.s) (.slice t.x t.n t.c) (.slice t.y t.m t.d))∧NmV L w t q) (fun j=>?_);by_cases hj:j<p.length
 ·obtain ⟨b,o,t,h1,h2,h3⟩:=h j (p[j]) (List.getElem?_eq_getElem hj);refine ⟨t,fun q e=>?_⟩;rw [List.getElem?_eq_getElem hj] at e;rw [Option.some.inj e] at h3;exact ⟨⟨b,o,h1,h2⟩,h3⟩
 ·exact ⟨⟨false,none,0,0,fun _=>0,none,0,0,fun _=>0⟩,fun q e=>by rw [List.getElem?_eq_none (by omega)] at e;cases e⟩
theorem eqf_zs {L w w1 ao k k2} {E Z:Nat→Nm} {p:List Rat} (hp:p.length=k) (hE:∀j q,p[j]?=some q→NmV L w1 (E j) q) (hZ:Rl w ao k2 Z):eqfB sqB k k2 E Z=(afB k2 Z && decide (psOf k2 Z=p))∧(eqfB sqB k k2 E Z=true→Rf L w ao p∧p.length=k2):=by
 have hg:∀j,j<p.length→p[j]?=some (p.getD j 0):=fun j hj=>by rw [List.getD_eq_getElem?_getD,List.getElem?_eq_getElem hj];rfl
 have key:eqfB sqB k k2 E Z=true ↔ k=k2∧∀j,j<k→sqB (E j) (Z j)=true:=by
  unfold eqfB;rw [Bool.and_eq_true,decide_eq_true_eq,eqf_iff];exact ⟨fun ⟨a,b⟩=>⟨a,fun j hj=>b j (by omega) (by omega)⟩,fun ⟨a,b⟩=>⟨a,fun j _ hj=>b j (by omega)⟩⟩
 have tru:eqfB sqB k k2 E Z=true→(k=k2∧∀j q,p[j]?=some q→NmV L w (Z j) q):=fun h=>by
  obtain ⟨a,b⟩:=key.1 h;refine ⟨a,fun j q e=>?_⟩;have hj:j<p.length:=(List.getElem?_eq_some_iff.1 e).1;have h1:=b j (by omega);have h2:=hE j q e;obtain ⟨h3,h4⟩:=sq_nf h1;obtain ⟨_,h5,h6⟩:=sq_iff.1 h1;obtain ⟨b',o',_,_,h7⟩:=hZ j (by omega);have h8:=NmS.val (K:=L) h7 (by rw [h3];exact Rn.rf h2) ⟨by rw [←h5.1];exact h2.ln,by rw [←h6.1];exact h2.ld⟩;rw [h4,Rn.nq h2] at h8;exact h8
 refine ⟨?_,fun h=>?_⟩
 ·rw [Bool.eq_iff_iff,Bool.and_eq_true,decide_eq_true_eq];constructor
  ·intro h;obtain ⟨a,b⟩:=tru h;refine ⟨afr_of (fun j _ hj=>Rn.rf (b j _ (hg j (by omega)))),?_⟩;refine List.ext_getElem? (fun j=>?_);unfold psOf;by_cases hj:j<k2
   ·rw [List.getElem?_map,List.getElem?_range hj,hg j (by omega)];exact congrArg some (Rn.nq (b j _ (hg j (by omega))))
   ·rw [List.getElem?_eq_none (by simp;omega),List.getElem?_eq_none (by omega)]
  ·rintro ⟨a,b⟩;have hl:p.length=k2:=by rw [←b,psOf_len]
   refine key.2 ⟨by omega,fun j hj=>?_⟩;have h2:=hE j _ (hg j (by omega));obtain ⟨b',o',_,_,h7⟩:=hZ j (by omega);have h8:=NmS.val (K:=65536) h7 (afr_all a j (by omega) (by omega)) h7.2;have h9:p.getD j 0=nq (Z j):=by
    have e1:=hg j (by omega);rw [←b] at e1;unfold psOf at e1;rw [List.getElem?_map,List.getElem?_range (by omega)] at e1;rw [←b];exact (Option.some.inj e1).symm
   have:=(Rn.inj h2 h8).2 h9;exact sq_iff.2 this
 ·obtain ⟨a,b⟩:=tru h;refine ⟨fun j q e=>?_,by omega⟩;have hj:j<p.length:=(List.getElem?_eq_some_iff.1 e).1;obtain ⟨b',o',h1,h2,_⟩:=hZ j (by omega);exact ⟨b',o',Z j,h1,h2,b j q e⟩
def hldB (e1 e2:Int) (k2:Nat) (Z:Nat→Nm) (cs:List CV) (rs:List RV) (xs ys:List Rat):Bool:=(decide (e1=0) && feasB cs rs xs) && (decide (e2=0) && ((afB k2 Z && decide (psOf k2 Z=redC rs ys 0 cs)) && arB cs rs xs ys (redC rs ys 0 cs)))
set_option maxRecDepth 100000 in
set_option maxHeartbeats 8000000 in
theorem dHolds_v {w:World} {L:Nat} {M:Mo} {off:Rat} {cs:List CV} {rs:List RV} {a0 a1 a2:Option Addr} {k0 c0 k1 c1 k2 c2:Nat} {X Y Z:Nat→Nm} {xs ys:List Rat} {e1 e2:Int} (hW:MoW w M) (hx:Rl w a0 k0 X) (hy:Rl w a1 k1 Y) (hz:Rl w a2 k2 Z) (hk0:k0≤1048576) (hk1:k1≤1048576) (hk2:k2≤1048576) (he1:pckE M k0 X=e1) (he2:dckE M k1 Y=e2)
  (hv1:e1=0→MoV L w M off cs rs∧mvOk cs rs=true∧Rf L w a0 xs∧xs.length=k0∧k0=cs.length) (hv2:e2=0→MoV L w M off cs rs∧mvOk cs rs=true∧Rf L w a1 ys∧ys.length=k1∧k1=rs.length) (hL:L≤30) :
  Calls Tryz.prog 7 #[M.val,.agg #[.slice a0 k0 c0,.slice a1 k1 c1,.slice a2 k2 c2]] w fun e w'=>e=.returned (.tuple #[.bool (decide (chkE M=0) && hldB e1 e2 k2 Z cs rs xs ys),.int .i64 (chkE M)])∧Below w.heap.size w w':=by
 have CC:=hid (fun W (hW2:Below w.heap.size w W)=>check_w (hW.below hW2));have CF:=hid (fun W (hW2:Below w.heap.size w W)=>pFeas_v (cap:=c0) (hW.below hW2) (hx.below hW2) hk0 he1 (fun h=>by obtain ⟨v1,v2,v3,v4,v5⟩:=hv1 h;exact ⟨v1.below hW2,v2,v3.below hW2,v4,v5⟩) hL);have CR:=hid (fun W (hW2:Below w.heap.size w W)=>dReduced_v (cap:=c1) (hW.below hW2) (hy.below hW2) hk1 he2 (fun h=>by obtain ⟨v1,v2,v3,v4,v5⟩:=hv2 h;exact ⟨v1.below hW2,v2,v3.below hW2,v4,v5⟩) hL);have CA:Hid (∀W,Below w.heap.size w W→e1=0→e2=0→Rf (KV L) W a2 (redC rs ys 0 cs)→(redC rs ys 0 cs).length=k2→Calls Tryz.prog 27 #[M.val,.agg #[.slice a0 k0 c0,.slice a1 k1 c1,.slice a2 k2 c2]] W fun e w2=>e=.returned (.bool (arB cs rs xs ys (redC rs ys 0 cs)))∧Below W.heap.size W w2):=fun W hW2 g1 g2 hr hl=>by
  obtain ⟨v1,v2,v3,v4,v5⟩:=hv1 g1;obtain ⟨_,_,u3,u4,u5⟩:=hv2 g2;exact dAllRest_v (hW.below hW2) (hx.below hW2) hk0 (he1.trans g1) (v1.below hW2) v2 (v3.below hW2) v4 v5 (u3.below hW2) u4 u5 hr hl (by rw [←hl,redC_len]) hL
 have HCL:Hid (e2=0→cs.length≤64):=fun g=>by obtain ⟨_,v2,_⟩:=hv2 g;exact (mvOk_p v2).cl
 have HZ:=hid hz;clear hW hx hy hz he1 he2 hv1 hv2;obtain ⟨e0,he0⟩:∃e,chkE M=e:=⟨_,rfl⟩;rw [he0] at CC ⊢;clear he0;obtain ⟨fs,hfs⟩:∃t,(decide (e1=0) && feasB cs rs xs)=t:=⟨_,rfl⟩;rw [hfs] at CF;have HFS:=hid hfs;clear hfs;have HLn:=hid (redC_len rs ys cs 0);obtain ⟨zs,hzs⟩:∃t,redC rs ys 0 cs=t:=⟨_,rfl⟩;unfold RdAns at CR;rw [hzs] at CR CA HLn;have HZS:=hid hzs;clear hzs;obtain ⟨ar,har⟩:∃t,arB cs rs xs ys zs=t:=⟨_,rfl⟩;rw [har] at CA;have HAR:=hid har;clear har;obtain ⟨⟨s,x,n,c,f,y,m,d,g⟩,ca,ck,cc,C,ra,rk,rc,R⟩:=M;replace CC:Hid (∀W,Below w.heap.size w W→Calls Tryz.prog 23 #[.agg #[.bool s,.slice x n c,.slice y m d,.slice ca ck cc,.slice ra rk rc]] W fun r w'=>r=.returned (.int .i64 e0)∧Below W.heap.size W w'):=CC;replace CF:Hid (∀W,Below w.heap.size w W→Calls Tryz.prog 24 #[.agg #[.bool s,.slice x n c,.slice y m d,.slice ca ck cc,.slice ra rk rc],.slice a0 k0 c0] W fun e w'=>e=.returned (.tuple #[.bool fs,.int .i64 e1])∧Below W.heap.size W w'):=CF;replace CR:Hid (∀W,Below w.heap.size w W→Calls Tryz.prog 14 #[.agg #[.bool s,.slice x n c,.slice y m d,.slice ca ck cc,.slice ra rk rc],.slice a1 k1 c1] W fun e w'=>Below W.heap.size W w'∧((e2≠0∧e=.returned (.tuple #[.slice none 0 0,.int .i64 e2]))∨(e2=0∧∃a c,e=.returned (.tuple #[.slice a cs.length c,.int .i64 0])∧(cs.length≤c∧c≤9223372036854775807)∧Rf (KV L) w' a zs))):=CR;replace CA:Hid (∀W,Below w.heap.size w W→e1=0→e2=0→Rf (KV L) W a2 zs→zs.length=k2→Calls Tryz.prog 27 #[.agg #[.bool s,.slice x n c,.slice y m d,.slice ca ck cc,.slice ra rk rc],.agg #[.slice a0 k0 c0,.slice a1 k1 c1,.slice a2 k2 c2]] W fun e w2=>e=.returned (.bool ar)∧Below W.heap.size W w2):=CA;show Calls Tryz.prog 7 #[.agg #[.bool s,.slice x n c,.slice y m d,.slice ca ck cc,.slice ra rk rc],.agg #[.slice a0 k0 c0,.slice a1 k1 c1,.slice a2 k2 c2]] w _;have hb:=below_alloc (below_alloc (Below.refl w.heap.size w) (.cells #[.bool s,.slice x n c,.slice y m d,.slice ca ck cc,.slice ra rk rc] 28)) (.cells #[.slice a0 k0 c0,.slice a1 k1 c1,.slice a2 k2 c2] 31);have BM:Hid (Bk ((w.alloc (.cells #[.bool s,.slice x n c,.slice y m d,.slice ca ck cc,.slice ra rk rc] 28)).alloc (.cells #[.slice a0 k0 c0,.slice a1 k1 c1,.slice a2 k2 c2] 31)) w.heap.size [.bool s,.slice x n c,.slice y m d,.slice ca ck cc,.slice ra rk rc] 28):=(bk_new w [.bool s,.slice x n c,.slice y m d,.slice ca ck cc,.slice ra rk rc] 28).below (below_alloc (Below.refl _ _) _);have BP:Bk ((w.alloc (.cells #[.bool s,.slice x n c,.slice y m d,.slice ca ck cc,.slice ra rk rc] 28)).alloc (.cells #[.slice a0 k0 c0,.slice a1 k1 c1,.slice a2 k2 c2] 31)) (w.heap.size+1) [.slice a0 k0 c0,.slice a1 k1 c1,.slice a2 k2 c2] 31:=by
  have:=bk_new (w.alloc (.cells #[.bool s,.slice x n c,.slice y m d,.slice ca ck cc,.slice ra rk rc] 28)) [.slice a0 k0 c0,.slice a1 k1 c1,.slice a2 k2 c2] 31;rw [size_alloc1] at this;exact this
 have HB:=hid hb;replace BP:=hid BP
 clear hb;go_enter Tryz.func7,Tryz.ntmps7;go_upto_region 1 with fail
 generalize ((w.alloc (.cells #[.bool s,.slice x n c,.slice y m d,.slice ca ck cc,.slice ra rk rc] 28)).alloc (.cells #[.slice a0 k0 c0,.slice a1 k1 c1,.slice a2 k2 c2] 31))=w1 at *;have r0:=BM.out.cell (j:=0) rfl;have r1:=BM.out.cell (j:=1) rfl;have r2:=BM.out.cell (j:=2) rfl;have r3:=BM.out.cell (j:=3) rfl;have r4:=BM.out.cell (j:=4) rfl;go_wp2_with fail
 clear r0 r1 r2 r3 r4
 go_at_call 23
 refine (CC.out _ HB.out).mono ?_;rintro e w2 ⟨rfl,hb2⟩;replace HB:=hid (HB.out.trans (hb2.mono HB.out.size));replace BM:=hid (BM.out.below hb2);replace BP:=hid (BP.out.below hb2)
 clear hb2;clear CC;by_cases h0:e0=0
 case neg =>
  have h1:(e0 != 0)=true:=by simpa using h0
  have HE:Hid (decide (e0=0)=false):=decide_eq_false h0;clear h0 CF CR CA;go_wp2
  go_ret2
  exact ⟨by rw [HE.out];rfl,HB.out⟩
 subst h0;have r0:=BM.out.cell (j:=0) rfl;have r1:=BM.out.cell (j:=1) rfl;have r2:=BM.out.cell (j:=2) rfl;have r3:=BM.out.cell (j:=3) rfl;have r4:=BM.out.cell (j:=4) rfl;have p0:=BP.out.cell (j:=0) rfl;have p1:=BP.out.cell (j:=1) rfl;have p2:=BP.out.cell (j:=2) rfl;go_wp2_with fail
 clear r0 r1 r2 r3 r4 p0 p1 p2
 go_at_call 24
 refine (CF.out _ HB.out).mono ?_;rintro e w3 ⟨rfl,hb3⟩;replace HB:=hid (HB.out.trans (hb3.mono HB.out.size));replace BM:=hid (BM.out.below hb3);replace BP:=hid (BP.out.below hb3)
 clear hb3;clear CF;have r0:=BM.out.cell (j:=0) rfl;have r1:=BM.out.cell (j:=1) rfl;have r2:=BM.out.cell (j:=2) rfl;have r3:=BM.out.cell (j:=3) rfl;have r4:=BM.out.cell (j:=4) rfl;have p0:=BP.out.cell (j:=0) rfl;have p1:=BP.out.cell (j:=1) rfl;have p2:=BP.out.cell (j:=2) rfl;go_wp2_with fail
 clear r0 r1 r2 r3 r4 p0 p1 p2
 go_at_call 14
 refine (CR.out _ HB.out).mono ?_;clear CR;rintro e w4 ⟨hb4,⟨h9,rfl⟩ | ⟨h9,aa,ac,rfl,hca,hrf⟩⟩
 ·replace HB:=hid (HB.out.trans (hb4.mono HB.out.size));replace BM:=hid (BM.out.below hb4);replace BP:=hid (BP.out.below hb4)
  clear hb4;have h1:(e2 != 0)=true:=by simpa using h9
  have HE:Hid (hldB e1 e2 k2 Z cs rs xs ys=false):=by show _=_;unfold hldB;rw [decide_eq_false h9];simp
  clear h9 CA HZ;cases fs
  ·go_wp2
   go_ret2
   exact ⟨by rw [HE.out];rfl,HB.out⟩
  ·go_wp2
   go_ret2
   exact ⟨by rw [HE.out];rfl,HB.out⟩
 ·replace HB:=hid (HB.out.trans (hb4.mono HB.out.size));replace BM:=hid (BM.out.below hb4);replace BP:=hid (BP.out.below hb4)
  clear hb4;subst h9;have HRF:=hid hrf;have hcl:=HCL.out rfl;clear hrf HCL;cases fs
  case false =>
   have HE:Hid (hldB e1 0 k2 Z cs rs xs ys=false):=by show _=_;unfold hldB;rw [HFS.out];simp
   clear CA HZ HRF;go_wp2
   go_ret2
   exact ⟨by rw [HE.out];rfl,HB.out⟩
  have HE1:Hid (e1=0):=by have h:=HFS.out;rw [Bool.and_eq_true,decide_eq_true_eq] at h;exact h.1
  obtain ⟨E,hE⟩:=rf_nm HRF.out;have CE:Hid (∀W,Below w4.heap.size w4 W→Calls Tryz.prog 25 #[.slice aa cs.length ac,.slice a2 k2 c2,.func (.func 26) #[] #[]] W fun e w9=>e=.returned (.bool (eqfB sqB cs.length k2 E Z))∧Below W.heap.size W w9):=fun W hW2=>by
   have hb9:=HB.out.trans (hW2.mono HB.out.size);refine dequalQs_c (fun j hj=>?_) (HZ.out.below hb9).cs (by omega) hk2;obtain ⟨q,hq⟩:∃t,zs[j]?=some t:=⟨_,List.getElem?_eq_getElem (by have:=HLn.out;omega)⟩;obtain ⟨⟨b,o,h1,h2⟩,h3⟩:=hE j q hq;refine ⟨b,o,h1,fun i v e=>?_,(NmV.nms (NmV.below h3 hW2) (by unfold KV;omega)).1⟩;replace h2:=C3.below h2 hW2
   match i,e with
   | 0,e=>cases e;exact h2.x0
   | 1,e=>cases e;exact h2.x1
   | 2,e=>cases e;exact h2.x2
   | i+3,e=>cases e
  have hz9:=fun W (hW2:Below w.heap.size w W)=>eqf_zs (L:=KV L) (k:=cs.length) (E:=E) HLn.out (fun j q e=>(hE j q e).2) (HZ.out.below hW2)
  have HZ9:=hid hz9;have HQ:=hid (hz9 w (Below.refl _ _)).1;clear hE hz9 HZ;obtain ⟨qe,hqe⟩:∃t,eqfB sqB cs.length k2 E Z=t:=⟨_,rfl⟩;rw [hqe] at CE HQ;have HQE:=hid hqe;clear hqe;have p2:=BP.out.cell (j:=2) rfl;go_wp2_with fail
  clear p2
  go_at_call 25
  refine (CE.out _ (Below.refl _ _)).mono ?_;rintro e w5 ⟨rfl,hb5⟩;replace HB:=hid (HB.out.trans (hb5.mono HB.out.size));replace BM:=hid (BM.out.below hb5);replace BP:=hid (BP.out.below hb5)
  clear hb5;clear CE;cases qe
  case false =>
   have HE:Hid (hldB e1 0 k2 Z cs rs xs ys=false):=by show _=_;unfold hldB;rw [HZS.out,←HQ.out];simp
   clear CA HRF;go_wp2
   go_ret2
   exact ⟨by rw [HE.out];rfl,HB.out⟩
  have HE:Hid (hldB e1 0 k2 Z cs rs xs ys=ar):=by show _=_;unfold hldB;rw [HZS.out,←HQ.out,HFS.out,HAR.out];simp
  obtain ⟨g1,g2⟩:=(HZ9.out _ HB.out).2 HQE.out;have CA2:=hid (CA.out _ HB.out HE1.out (by first | rfl | trivial) g1 g2);clear CA g1 g2 HZ9 HQ HQE HRF;have r0:=BM.out.cell (j:=0) rfl;have r1:=BM.out.cell (j:=1) rfl;have r2:=BM.out.cell (j:=2) rfl;have r3:=BM.out.cell (j:=3) rfl;have r4:=BM.out.cell (j:=4) rfl;have p0:=BP.out.cell (j:=0) rfl;have p1:=BP.out.cell (j:=1) rfl;have p2:=BP.out.cell (j:=2) rfl;go_wp2_with fail
  clear r0 r1 r2 r3 r4 p0 p1 p2
  go_at_call 27
  refine CA2.out.mono ?_;rintro e w6 ⟨rfl,hb6⟩;replace HB:=hid (HB.out.trans (hb6.mono HB.out.size));replace BM:=hid (BM.out.below hb6);replace BP:=hid (BP.out.below hb6)
  clear hb6;go_wp2
  go_ret2
  exact ⟨by rw [HE.out];rfl,HB.out⟩
theorem rf_all {L w ao} {p:List Rat} (h:Rf L w ao p) (hL:L≤65536):∃E,Rl w ao p.length E∧afB p.length E=true∧psOf p.length E=p:=by
 obtain ⟨E,hE⟩:=rf_nm h;have hg:∀j,j<p.length→p[j]?=some (p.getD j 0):=fun j hj=>by rw [List.getD_eq_getElem?_getD,List.getElem?_eq_getElem hj];rfl
 refine ⟨E,fun j hj=>?_,afr_of (fun j _ hj=>(NmV.nms (hE j _ (hg j (by omega))).2 hL).2),?_⟩
 ·obtain ⟨⟨b,o,h1,h2⟩,h3⟩:=hE j _ (hg j hj);exact ⟨b,o,h1,h2,(NmV.nms h3 hL).1⟩
 ·refine List.ext_getElem? (fun j=>?_);unfold psOf;by_cases hj:j<p.length
  ·rw [List.getElem?_map,List.getElem?_range hj,hg j hj];exact congrArg some (Rn.nq (hE j _ (hg j hj)).2)
  ·rw [List.getElem?_eq_none (by simp;omega),List.getElem?_eq_none (by omega)]
theorem pnE_is {k:Nat} {X:Nat→Nm} {z:Int} (h:afB k X=true) (e:(k:Int)=z):pnE k X z=0:=by unfold pnE;rw [if_pos h,if_pos e]
theorem dckE_ok {M:Mo} {k:Nat} {X:Nat→Nm} (h:chkE M=0) (h0:afB k X=true) (e0:k=M.rk):dckE M k X=0:=by
 subst e0;unfold dckE;rw [h,pnE_is h0 rfl];rfl
theorem dReduced_q {w:World} {L:Nat} {M:Mo} {off:Rat} {cs:List CV} {rs:List RV} {a1:Option Addr} {k1 c1:Nat} {ys:List Rat} (h:MoV L w M off cs rs) (ho:mvOk cs rs=true) (hy:Rf L w a1 ys) (l1:ys.length=k1) (q1:k1=rs.length) (hL:L≤30):Calls Tryz.prog 14 #[M.val,.slice a1 k1 c1] w fun e w'=>RdAns L w w' e 0 cs rs ys:=by
 obtain ⟨h1,h2⟩:=h.chk (by omega) ho;have mp:=mvOk_p ho;have hcl:=mp.cl;have hrl:=mp.rl
 obtain ⟨Y,y1,z1,_⟩:=rf_all hy (by omega);rw [l1] at y1 z1;have he:dckE M k1 Y=0:=dckE_ok h1 z1 (by rw [h.rk];exact q1);exact dReduced_v (fun _ _=>h2) y1 (by omega) he (fun _=>⟨h,ho,hy,l1,q1⟩) hL
theorem dBound_q {w:World} {L:Nat} {M:Mo} {off:Rat} {cs:List CV} {rs:List RV} {a1:Option Addr} {k1 c1:Nat} {ys:List Rat} (h:MoV L w M off cs rs) (ho:mvOk cs rs=true) (hy:Rf L w a1 ys) (l1:ys.length=k1) (q1:k1=rs.length) (hL4:4≤L) (hL:L≤8):Calls Tryz.prog 10 #[M.val,.slice a1 k1 c1] w fun e w'=>BoAns L w w' e 0 (bnP off cs rs ys):=by
 obtain ⟨h1,h2⟩:=h.chk (by omega) ho;have mp:=mvOk_p ho;have hcl:=mp.cl;have hrl:=mp.rl
 obtain ⟨Y,y1,z1,_⟩:=rf_all hy (by omega);rw [l1] at y1 z1;have he:dckE M k1 Y=0:=dckE_ok h1 z1 (by rw [h.rk];exact q1);exact dBound_v (fun _ _=>h2) y1 (by omega) he (fun _=>⟨h,ho,hy,l1,q1⟩) hL4 hL
theorem dHolds_q {w:World} {L:Nat} {M:Mo} {off:Rat} {cs:List CV} {rs:List RV} {a1:Option Addr} {k1 c1:Nat} {ys:List Rat} {a0 a2:Option Addr} {k0 c0 k2 c2:Nat} {xs zs:List Rat} (h:MoV L w M off cs rs) (ho:mvOk cs rs=true) (hy:Rf L w a1 ys) (l1:ys.length=k1) (q1:k1=rs.length) (hx:Rf L w a0 xs) (l0:xs.length=k0) (q0:k0=cs.length) (hz:Rf L w a2 zs) (l2:zs.length=k2) (hk2:k2≤1000) (hL:L≤30) :
  Calls Tryz.prog 7 #[M.val,.agg #[.slice a0 k0 c0,.slice a1 k1 c1,.slice a2 k2 c2]] w fun e w'=>e=.returned (.tuple #[.bool (feasB cs rs xs && (decide (zs=redC rs ys 0 cs) && arB cs rs xs ys (redC rs ys 0 cs))),.int .i64 0])∧Below w.heap.size w w':=by
 obtain ⟨h1,h2⟩:=h.chk (by omega) ho;have mp:=mvOk_p ho;have hcl:=mp.cl;have hrl:=mp.rl
 obtain ⟨Y,y1,z1,_⟩:=rf_all hy (by omega);rw [l1] at y1 z1;have he:dckE M k1 Y=0:=dckE_ok h1 z1 (by rw [h.rk];exact q1);obtain ⟨X,y0,z0,_⟩:=rf_all hx (by omega);rw [l0] at y0 z0;obtain ⟨Z,y2,z2,p2⟩:=rf_all hz (by omega);rw [l2] at y2 z2 p2;have he0:pckE M k0 X=0:=pckE_ok h1 z0 (by rw [h.ck];exact q0);have:=dHolds_v (c0:=c0) (c1:=c1) (c2:=c2) (fun _ _=>h2) y0 y1 y2 (by omega) (by omega) (by omega) he0 he (fun _=>⟨h,ho,hx,l0,q0⟩) (fun _=>⟨h,ho,hy,l1,q1⟩) hL;rw [h1] at this;unfold hldB at this;rw [z2,p2] at this;simpa using this
theorem k2_ok:mvOk k2C k2R=true:=by decide +kernel
theorem k2_rd:redC k2R [((-1:Int):Rat)/2] 0 k2C=[((-1:Int):Rat)/2,((0:Int):Rat)]:=by decide +kernel
theorem k2_b1:smI (bnP 3 k2C k2R [((-1:Int):Rat)/2])=0∧smQ (bnP 3 k2C k2R [((-1:Int):Rat)/2])=((-2:Int):Rat):=by decide +kernel
theorem k2_b2:smI (bnP 3 k2C k2R [((1:Int):Rat)])=-1:=by decide +kernel
theorem k2_h:(feasB k2C k2R [((4:Int):Rat),((1:Int):Rat)] && (decide ([((-1:Int):Rat)/2,((0:Int):Rat)]=redC k2R [((-1:Int):Rat)/2] 0 k2C) && arB k2C k2R [((4:Int):Rat),((1:Int):Rat)] [((-1:Int):Rat)/2] (redC k2R [((-1:Int):Rat)/2] 0 k2C)))=true:=by decide +kernel
set_option maxRecDepth 100000 in
set_option maxHeartbeats 8000000 in
theorem awake11_c (w:World):Calls Tryz.prog 4 #[] w fun e w'=>e=.returned (.bool true)∧Below w.heap.size w w':=by
 have HB:=hid (Below.refl w.heap.size w);go_enter Tryz.func4,Tryz.ntmps4;go_wp2_with fail
 refine first11_c.mono ?_;rintro e v1 ⟨⟨⟨sm,xm,nm,cm,fm,ym,mm,dm,gm⟩,cam,ckm,ccm,Cm,ram,rkm,rcm,Rm⟩,rfl,hb,HM⟩;replace HB:=hid (HB.out.trans (hb.mono HB.out.size));clear hb;go_wp2_with fail
 refine (half11_c (z:=-1) (by decide) (by decide) mh_lo).mono ?_;rintro e v2 ⟨sh,xh,nh,ch,fh,yh,mh,dh,gh,rfl,hb,hr⟩;have hn:=below_alloc (Below.refl v2.heap.size v2) (.cells #[.bool sh,.slice xh nh ch,.slice yh mh dh] 24);have hbn:=hb.trans (hn.mono hb.size);replace HB:=hid (HB.out.trans (hbn.mono HB.out.size));replace HM:=hid (HM.out.below hbn)
 have HX:=hid (show Rf 8 (v2.alloc (.cells #[.bool sh,.slice xh nh ch,.slice yh mh dh] 24)) (some ⟨v2.heap.size,0,none⟩) [((-1:Int):Rat)/2] from (gr_one (base:=0) (hr.out.mono (by decide)) (Nat.zero_le _)).rf);clear hb hr hn hbn;go_wp2_with fail
 generalize v2.alloc (.cells #[.bool sh,.slice xh nh ch,.slice yh mh dh] 24)=vvv2 at *;generalize v2.heap.size=ppv2 at *;refine (dReduced_q (L:=8) HM.out k2_ok HX.out rfl rfl (by decide)).mono ?_;rintro e v3 ⟨hb,⟨h9,_⟩ | ⟨_,za,zc,rfl,_,hrf⟩⟩
 ·exact absurd rfl h9
 rw [k2_rd] at hrf;rw [show k2C.length=2 from rfl];have HZ:=hid hrf;replace HB:=hid (HB.out.trans (hb.mono HB.out.size));clear hb hrf HM HX;go_wp2_with fail
 refine first11_c.mono ?_;rintro e v4 ⟨⟨⟨sm,xm,nm,cm,fm,ym,mm,dm,gm⟩,cam,ckm,ccm,Cm,ram,rkm,rcm,Rm⟩,rfl,hb,HM⟩;replace HB:=hid (HB.out.trans (hb.mono HB.out.size));replace HZ:=hid (HZ.out.below hb)
 clear hb;go_wp2_with fail
 refine (half11_c (z:=-1) (by decide) (by decide) mh_lo).mono ?_;rintro e v5 ⟨sh,xh,nh,ch,fh,yh,mh,dh,gh,rfl,hb,hr⟩;have hn:=below_alloc (Below.refl v5.heap.size v5) (.cells #[.bool sh,.slice xh nh ch,.slice yh mh dh] 24);have hbn:=hb.trans (hn.mono hb.size);replace HB:=hid (HB.out.trans (hbn.mono HB.out.size));replace HZ:=hid (HZ.out.below hbn);replace HM:=hid (HM.out.below hbn)
 have HX:=hid (show Rf 8 (v5.alloc (.cells #[.bool sh,.slice xh nh ch,.slice yh mh dh] 24)) (some ⟨v5.heap.size,0,none⟩) [((-1:Int):Rat)/2] from (gr_one (base:=0) (hr.out.mono (by decide)) (Nat.zero_le _)).rf);clear hb hr hn hbn;go_wp2_with fail
 generalize v5.alloc (.cells #[.bool sh,.slice xh nh ch,.slice yh mh dh] 24)=vvv5 at *;generalize v5.heap.size=ppv5 at *;refine (dBound_q (L:=8) HM.out k2_ok HX.out rfl rfl (by decide) (by decide)).mono ?_;rintro e v6 ⟨hb,⟨h9,_⟩ | ⟨_,sb,xb,nb,cb,fb,yb,mb,db,gb,rfl,hen⟩⟩
 ·exact absurd rfl h9
 rw [k2_b1.1] at hen ⊢;rw [k2_b1.2] at hen;have hn:=below_alloc (Below.refl v6.heap.size v6) (.cells #[.int .i64 0,.bool sb,.slice xb nb cb,.slice yb mb db] 41);have hbn:=hb.trans (hn.mono hb.size);replace HB:=hid (HB.out.trans (hbn.mono HB.out.size));replace HZ:=hid (HZ.out.below hbn)
 have Bb:Hid (Bk (v6.alloc (.cells #[.int .i64 0,.bool sb,.slice xb nb cb,.slice yb mb db] 41)) v6.heap.size [.int .i64 0,.bool sb,.slice xb nb cb,.slice yb mb db] 41):=bk_new v6 [.int .i64 0,.bool sb,.slice xb nb cb,.slice yb mb db] 41;have Hb:=hid (Rn.below hen.rn hn);clear hb hen hn hbn HM HX;go_wp2_with fail
 generalize v6.alloc (.cells #[.int .i64 0,.bool sb,.slice xb nb cb,.slice yb mb db] 41)=vvv6 at *;generalize v6.heap.size=bxb at *;refine first11_c.mono ?_;rintro e v7 ⟨⟨⟨sm,xm,nm,cm,fm,ym,mm,dm,gm⟩,cam,ckm,ccm,Cm,ram,rkm,rcm,Rm⟩,rfl,hb,HM⟩;replace HB:=hid (HB.out.trans (hb.mono HB.out.size));replace HZ:=hid (HZ.out.below hb);replace Bb:=hid (Bb.out.below hb);replace Hb:=hid (Hb.out.below hb)
 clear hb;go_wp2_with fail
 refine (docOfQ_c (z:=1) (by decide) (by decide)).mono ?_;rintro e v8 ⟨sh,xh,nh,ch,fh,yh,mh,dh,gh,rfl,hb,hr⟩;have hn:=below_alloc (Below.refl v8.heap.size v8) (.cells #[.bool sh,.slice xh nh ch,.slice yh mh dh] 24);have hbn:=hb.trans (hn.mono hb.size);replace HB:=hid (HB.out.trans (hbn.mono HB.out.size));replace HZ:=hid (HZ.out.below hbn);replace Bb:=hid (Bb.out.below hbn);replace Hb:=hid (Hb.out.below hbn);replace HM:=hid (HM.out.below hbn)
 have HX:=hid (show Rf 8 (v8.alloc (.cells #[.bool sh,.slice xh nh ch,.slice yh mh dh] 24)) (some ⟨v8.heap.size,0,none⟩) [((1:Int):Rat)] from (gr_one (base:=0) (hr.mono (by decide)) (Nat.zero_le _)).rf);clear hb hr hn hbn;go_wp2_with fail
 generalize v8.alloc (.cells #[.bool sh,.slice xh nh ch,.slice yh mh dh] 24)=vvv8 at *;generalize v8.heap.size=ppv8 at *;refine (dBound_q (L:=8) HM.out k2_ok HX.out rfl rfl (by decide) (by decide)).mono ?_;rintro e v9 ⟨hb,⟨h9,_⟩ | ⟨_,sc,xc,nc,cc,fc,yc,mc,dc,gc,rfl,hen⟩⟩
 ·exact absurd rfl h9
 rw [k2_b2] at hen ⊢;have hn:=below_alloc (Below.refl v9.heap.size v9) (.cells #[.int .i64 (-1),.bool sc,.slice xc nc cc,.slice yc mc dc] 41);have hbn:=hb.trans (hn.mono hb.size);replace HB:=hid (HB.out.trans (hbn.mono HB.out.size));replace HZ:=hid (HZ.out.below hbn);replace Bb:=hid (Bb.out.below hbn);replace Hb:=hid (Hb.out.below hbn)
 have Bc:Hid (Bk (v9.alloc (.cells #[.int .i64 (-1),.bool sc,.slice xc nc cc,.slice yc mc dc] 41)) v9.heap.size [.int .i64 (-1),.bool sc,.slice xc nc cc,.slice yc mc dc] 41):=bk_new v9 [.int .i64 (-1),.bool sc,.slice xc nc cc,.slice yc mc dc] 41;clear hb hen hn hbn HM HX;go_wp2_with fail
 generalize v9.alloc (.cells #[.int .i64 (-1),.bool sc,.slice xc nc cc,.slice yc mc dc] 41)=vvv9 at *;generalize v9.heap.size=bxc at *;refine first11_c.mono ?_;rintro e v10 ⟨⟨⟨sm,xm,nm,cm,fm,ym,mm,dm,gm⟩,cam,ckm,ccm,Cm,ram,rkm,rcm,Rm⟩,rfl,hb,HM⟩;replace HB:=hid (HB.out.trans (hb.mono HB.out.size));replace HZ:=hid (HZ.out.below hb);replace Bb:=hid (Bb.out.below hb);replace Hb:=hid (Hb.out.below hb);replace Bc:=hid (Bc.out.below hb)
 clear hb;go_wp2_with fail
 refine best11_c.mono ?_;rintro e v11 ⟨ax,ay,az,rfl,hb,hr⟩;replace HB:=hid (HB.out.trans (hb.mono HB.out.size));replace HZ:=hid (HZ.out.below hb);replace Bb:=hid (Bb.out.below hb);replace Hb:=hid (Hb.out.below hb);replace Bc:=hid (Bc.out.below hb);replace HM:=hid (HM.out.below hb)
 have HP:=hid hr.out;clear hb hr;go_wp2_with fail
 refine (dHolds_q (L:=8) HM.out k2_ok HP.out.2.1 rfl rfl HP.out.1 rfl rfl HP.out.2.2 rfl (by decide) (by decide)).mono ?_;rintro e w5 ⟨rfl,hb⟩;rw [k2_h];replace HB:=hid (HB.out.trans (hb.mono HB.out.size));replace HZ:=hid (HZ.out.below hb);replace Bb:=hid (Bb.out.below hb);replace Hb:=hid (Hb.out.below hb);replace Bc:=hid (Bc.out.below hb)
 clear hb HM HP;go_upto_region 5 with fail
 obtain ⟨zb,zo,⟨s,x,n,c,f,y,m,d,g⟩,hb1,⟨p0,p1,p2⟩,hr⟩:=HZ.out 0 _ rfl;subst hb1;replace p0:w5.cell? ⟨zb,zo,none⟩=some (.bool s):=p0;replace p1:w5.cell? ⟨zb,zo+1,none⟩=some (.slice x n c):=p1;replace p2:w5.cell? ⟨zb,zo+2,none⟩=some (.slice y m d):=p2;have HR:Hid (Rn (KV 8) w5 s x n c f y m d g (((-1:Int):Rat)/2)):=hr;clear hr HZ;have k0:=Bb.out.cell (j:=0) rfl;have k1:=Bb.out.cell (j:=1) rfl;have k2:=Bb.out.cell (j:=2) rfl;have k3:=Bb.out.cell (j:=3) rfl
 have j0:=Bc.out.cell (j:=0) rfl;have CD:=hid (fun W=>half11_c (w:=W) (z:=-1) (by decide) (by decide) mh_lo);have CE:Hid (∀W,Calls Tryz.prog 20 #[.int .i64 (-2)] W fun e w'=>∃s x n c f y m d g,e=.returned (.agg #[.int .i64 0,.bool s,.slice x n c,.slice y m d])∧Below W.heap.size W w'∧Rn 8 w' s x n c f y m d g ((-2:Int):Rat)):=fun W=>(num11_c (w:=W) (z:=-2) (by decide) (by decide)).mono (fun e w' ⟨v8,h1,h2,⟨i8,⟨s8,x8,n8,c8,f8,y8,m8,d8,g8⟩⟩,ev,hi8,hv⟩=>by replace hi8:i8=0:=hi8;subst hi8;exact ⟨s8,x8,n8,c8,f8,y8,m8,d8,g8,by rw [h1,ev];rfl,h2,hv⟩)
 have CS:Hid (∀W s2 x2 n2 c2 f2 y2 m2 d2 g2,Below w5.heap.size w5 W→Rn 4 W s2 x2 n2 c2 f2 y2 m2 d2 g2 (((-1:Int):Rat)/2)→Calls Tryz.prog 19 #[.agg #[.bool s,.slice x n c,.slice y m d],.agg #[.bool s2,.slice x2 n2 c2,.slice y2 m2 d2]] W fun e w'=>e=.returned (.bool true)∧Below W.heap.size W w'):=fun W s2 x2 n2 c2 f2 y2 m2 d2 g2 hW h2=>rSameEq_c (HR.out.below hW) h2 (by decide) (by decide)
 have CT:Hid (∀W s3 x3 n3 c3 f3 y3 m3 d3 g3,Below w5.heap.size w5 W→Rn 8 W s3 x3 n3 c3 f3 y3 m3 d3 g3 ((-2:Int):Rat)→Calls Tryz.prog 13 #[.agg #[.int .i64 0,.bool sb,.slice xb nb cb,.slice yb mb db],.agg #[.int .i64 0,.bool s3,.slice x3 n3 c3,.slice y3 m3 d3]] W fun e w'=>e=.returned (.bool true)∧Below W.heap.size W w'):=fun W s3 x3 n3 c3 f3 y3 m3 d3 g3 hW h2=>xSame_of (fun V hV=>rSameEq_c (Rn.below (Rn.below Hb.out hW) hV) (Rn.below h2 hV) (by decide) (by decide))
 go_region_held3 (fun w'=>w'.cell? ⟨zb,zo,none⟩=some (.bool s)∧w'.cell? ⟨zb,zo+1,none⟩=some (.slice x n c)∧w'.cell? ⟨zb,zo+2,none⟩=some (.slice y m d)∧w'.cell? ⟨bxb,0,none⟩=some (.int .i64 0)∧w'.cell? ⟨bxb,1,none⟩=some (.bool sb)∧w'.cell? ⟨bxb,2,none⟩=some (.slice xb nb cb)∧w'.cell? ⟨bxb,3,none⟩=some (.slice yb mb db)∧w'.cell? ⟨bxc,0,none⟩=some (.int .i64 (-1)))
  (refine ⟨?_,?_,?_,?_,?_,?_,?_,?_⟩ <;> repeat (with_reducible first | assumption | refine kCd ?_ | refine kCb (by assumption) ?_))
  (first
   | (go_at_call 16;with_reducible refine (CD.out _).mono ?_;rintro e w6 ⟨s6,x6,n6,c6,f6,y6,m6,d6,g6,rfl,hb6,H6⟩)
   | (go_at_call 20;with_reducible refine (CE.out _).mono ?_;rintro e w8 ⟨s8,x8,n8,c8,f8,y8,m8,d8,g8,rfl,hb8,H8⟩;replace H8:=hid H8)
   | (go_at_call 19;with_reducible refine (CS.out _ s6 x6 n6 c6 f6 y6 m6 d6 g6 belA (H6.out.below belA)).mono ?_;rintro e w7 ⟨rfl,hb7⟩)
   | (go_at_call 13;with_reducible refine (CT.out _ s8 x8 n8 c8 f8 y8 m8 d8 g8 belA (H8.out.below belA)).mono ?_;rintro e w9 ⟨rfl,hb9⟩))
 all_goals
  have HB9:=hid (HB.out.trans ((show Below w5.heap.size w5 w9 from belA).mono HB.out.size));clear p0 p1 p2 k0 k1 k2 k3 j0 CD CS CE CT HR;go_wp2;go_ret;exact ⟨by first | rfl | simp,HB9.out⟩
structure Fr (F:Nat→Prop) (w w':World):Prop where
 os:w'.os=w.os
 tape:w'.tape=w.tape
 output:w'.output=w.output
 size:w.heap.size≤w'.heap.size
 block:∀k,k<w.heap.size→¬F k→w'.heap[k]?=w.heap[k]?
 kp:∀a k f,Rd .u64 w a k f→Rd .u64 w' a k f
theorem Fr.of {F w w'} (h:Below w.heap.size w w'):Fr F w w':=⟨h.os,h.tape,h.output,h.size,fun k hk _=>h.block k hk,fun _ _ _ r=>r.kp (Kp.of_below h)⟩
theorem Fr.refl (F:Nat→Prop) (w:World):Fr F w w:=⟨rfl,rfl,rfl,Nat.le_refl _,fun _ _ _=>rfl,fun _ _ _ r=>r⟩
theorem Fr.trans {F w w1 w2} (h:Fr F w w1) (k:Fr F w1 w2):Fr F w w2 :=
 ⟨k.os.trans h.os,k.tape.trans h.tape,k.output.trans h.output,Nat.le_trans h.size k.size,fun j hj hn=>(k.block j (Nat.lt_of_lt_of_le hj h.size) hn).trans (h.block j hj hn),fun _ _ _ r=>k.kp _ _ _ (h.kp _ _ _ r)⟩
theorem Fr.rn {F w w' L s x n c f y m d g q} (h:Fr F w w') (r:Rn L w s x n c f y m d g q):Rn L w' s x n c f y m d g q :=
 ⟨⟨h.kp _ _ _ r.num.rd,r.num.lm,r.num.wf,r.num.cap,r.num.nil,r.num.val⟩,⟨h.kp _ _ _ r.den.rd,r.den.lm,r.den.wf,r.den.cap,r.den.nil,r.den.val⟩,r.ln,r.ld⟩
theorem Fr.imp {F G:Nat→Prop} {w w'} (h:Fr F w w') (hi:∀k,F k→G k):Fr G w w':=⟨h.os,h.tape,h.output,h.size,fun k hk hn=>h.block k hk (fun hf=>hn (hi k hf)),h.kp⟩
theorem Fr.below {F w0 w w'} (h0:Below w0.heap.size w0 w) (h:Fr F w w') (hF:∀k,F k→w0.heap.size≤k):Below w0.heap.size w0 w' :=
 ⟨h.os.trans h0.os,h.tape.trans h0.tape,h.output.trans h0.output,Nat.le_trans h0.size h.size,fun k hk=>(h.block k (Nat.lt_of_lt_of_le hk h0.size) (fun hf=>by have:=hF k hf;omega)).trans (h0.block k hk)⟩
theorem Fr.bk {F w w' B vs t} (h:Fr F w w') (hb:Bk w B vs t) (hn:¬F B):Bk w' B vs t:=(h.block B hb.lt hn).trans hb
theorem Fr.cell {F w w' b o v} (h:Fr F w w') (hn:¬F b) (hc:w.cell? ⟨b,o,none⟩=some v):w'.cell? ⟨b,o,none⟩=some v:=(World.cell?_of_block (a:=⟨b,o,none⟩) (h.block b (World.block_lt_of_cell? w _ hc) hn)).trans hc
theorem Tf.fr {F L w w' ao v} (h:Tf L w ao v) (hf:Fr F w w') (hn:∀b o,ao=some ⟨b,o,none⟩→¬F b):Tf L w' ao v:=fun j a q e=>by
 obtain ⟨b,o,t,h1,h2,h3⟩:=h j a q e;have hb:=hn b o h1;exact ⟨b,o,t,h1,⟨hf.cell hb h2.x0,hf.cell hb h2.x1,hf.cell hb h2.x2,hf.cell hb h2.x3⟩,hf.rn h3⟩
structure BV where
 q:Rat
 i:Int
 a:Rat
 up:Bool
 ts:List (Int × Rat)
theorem Tf.lo {L w ao} {v:List (Int × Rat)} (h:Tf L w ao v):∀(j:Nat) (a:Int) (q:Rat),v[j]?=some (a,q)→Lo L q:=fun j a q hj=>by
 obtain ⟨_,_,_,_,_,h2⟩:=h j a q hj;exact h2.lo h2.ln h2.ld
theorem Rf.lo {L w ao} {p:List Rat} (h:Rf L w ao p):∀(j:Nat) (q:Rat),p[j]?=some q→Lo L q:=fun j q hj=>by
 obtain ⟨_,_,_,_,_,h2⟩:=h j q hj;exact h2.lo h2.ln h2.ld
def coefT:List (Int × Rat)→Nat→Rat
 | [],_=>0
 | (z,a) :: r,j=>(if z=(j:Int) then a else 0)+coefT r j
theorem frozen_bk {w w':World} {B o:Nat} (h:w'.heap[B]?=w.heap[B]?):w'.frozen? ⟨B,o,none⟩=w.frozen? ⟨B,o,none⟩:=by
 simp only [World.frozen?,h]
theorem Sx.fr {F:Nat→Prop} {w w' B s x n c y m d} (h:Sx w B s x n c y m d) (hf:Fr F w w') (hn:¬F B):Sx w' B s x n c y m d :=
 ⟨Nat.lt_of_lt_of_le h.z hf.size,hf.cell hn h.x0,hf.cell hn h.x1,hf.cell hn h.x2,fun o=>(frozen_bk (hf.block B h.z hn)).trans (h.fz o)⟩
theorem Bk.sx {w B s x n c y m d t} (h:Bk w B [.bool s,.slice x n c,.slice y m d] t):Sx w B s x n c y m d:=⟨h.lt,h.cell (j:=0) rfl,h.cell (j:=1) rfl,h.cell (j:=2) rfl,h.frozen⟩
theorem Ob.sx {w B} (h:Ob w B):Sx w B false none 0 0 none 0 0:=⟨h.z,h.z0,h.z1,h.z2,h.zf⟩
theorem Ob.fr {F:Nat→Prop} {w w' B} (h:Ob w B) (hf:Fr F w w') (hn:¬F B):Ob w' B:=by
 have:=h.sx.fr hf hn;exact ⟨this.z,this.x0,this.x1,this.x2,this.fz⟩
theorem Rf.fr {F:Nat→Prop} {L w w' B o p} (h:Rf L w (some ⟨B,o,none⟩) p) (hf:Fr F w w') (hn:¬F B):Rf L w' (some ⟨B,o,none⟩) p:=fun j q e=>by
 obtain ⟨b,o',t,e1,h1,h2⟩:=h j q e;cases e1
 exact ⟨_,_,t,rfl,⟨hf.cell hn h1.x0,hf.cell hn h1.x1,hf.cell hn h1.x2⟩,hf.rn h2⟩
def lgL (K k:Nat) (X:Nat→Nm):Bool:=decide (k≤300) && nlg K X k 0
theorem MoK.up {K L:Nat} {M:Mo} (h:MoK K M) (hL:K≤L):MoK L M:=by
 have e:∀{a b:Nat},a≤K∧b≤K→a≤L∧b≤L:=fun p=>⟨Nat.le_trans p.1 hL,Nat.le_trans p.2 hL⟩
 exact ⟨e h.off,fun j hj=>⟨e (h.c j hj).1,e (h.c j hj).2.1,e (h.c j hj).2.2⟩,fun j hj=>⟨e (h.r j hj).1,e (h.r j hj).2.1,(h.r j hj).2.2.1,fun p hp=>e ((h.r j hj).2.2.2 p hp)⟩⟩
theorem Rf.cut {K L:Nat} {w:World} {ao:Option Addr} {p:List Rat} (h:Rf K w ao p) (hp:∀q,q ∈ p→Lo L q):Rf L w ao p:=fun j q hj=>by
 obtain ⟨b,o,t,e,h1,h2⟩:=h j q hj;exact ⟨b,o,t,e,h1,h2.cut (hp q (List.mem_of_getElem? hj))⟩
theorem pckE_two {M:Mo} {k:Nat} {X:Nat→Nm} (h:pckE M k X=0):chkE M=0∧afB k X=true∧k=M.ck:=by
 obtain ⟨h1,h2⟩:=two_zero h;refine ⟨h1,?_⟩;unfold pnE at h2;by_cases a:afB k X=true
 ·rw [if_pos a] at h2;by_cases b:k=M.ck
  ·exact ⟨a,b⟩
  ·rw [if_neg (by omega)] at h2;cases h2
 ·rw [if_neg a] at h2;cases h2
theorem csOf_len (M:Mo):(csOf M).length=M.ck:=by simp [csOf]
def Tx (w:World) (ao:Option Addr) (k:Nat) (X X':Nat→Nm):Prop:=Rl w ao k X'∧∀j,j<k→Sn (X j) (X' j)
theorem Tx.below {w w' ao k X X'} (h:Tx w ao k X X') (hb:Below w.heap.size w w'):Tx w' ao k X X':=⟨h.1.below hb,h.2⟩
def Sh (k:Nat) (X:Nat→Nm):Prop:=k≤300∧∀j,j<k→(X j).n≤6∧(X j).m≤6
theorem Tx.val {w ao k X X'} (h:Tx w ao k X X') (hs:Sh k X) (ha:afB k X=true):Rf 6 w ao (psOf k X):=by
 rw [←psOf_sn h.2];refine h.1.rfC ?_ (fun j hj=>by rw [(h.2 j hj).2.1,(h.2 j hj).2.2.2.1];exact hs.2 j hj);exact (afr_sn (fun j _ b=>h.2 j (by omega))).trans ha
theorem crl_nil {B:Nat→Bool}:∀{n:Nat},(crl B n).length=0 ↔ ∀j,j<n→B j=false
 | 0=>⟨fun _ j hj=>by omega,fun _=>rfl⟩
 | n+1=>by
  have ih:=crl_nil (B:=B) (n:=n);cases e:B n with
  | true =>
   rw [crl_yes e];refine ⟨fun h=>by simp at h,fun h=>?_⟩;rw [h n (by omega)] at e;cases e
  | false =>
   rw [crl_no e,ih];refine ⟨fun h j hj=>?_,fun h j hj=>h j (by omega)⟩;by_cases g:j=n
   ·rw [g];exact e
   ·exact h j (by omega)
def ShK (K k:Nat) (X:Nat→Nm):Prop:=k≤300∧∀j,j<k→(X j).n≤K∧(X j).m≤K
theorem lgL_shK {K k:Nat} {X:Nat→Nm} (h:lgL K k X=true):ShK K k X:=by
 simp only [lgL,Bool.and_eq_true,decide_eq_true_eq] at h;exact ⟨h.1,fun j hj=>nlg_all h.2 j (by omega) (by omega)⟩
def TmK (K:Nat) (w:World) (M M':Mo):Prop:=Sm M M'∧MoW w M'∧MoX w M'∧(M'.ck≤64→M'.rk≤64→MoK K M')
theorem TmK.below {K w w' M M'} (h:TmK K w M M') (hb:Below w.heap.size w w'):TmK K w' M M':=⟨h.1,h.2.1.below hb,h.2.2.1.below hb,h.2.2.2⟩
theorem TmK.valL {K w M M'} (L:Nat) (hL:K≤L) (hK:K≤100) (h:TmK K w M M') (hN:MoN M) (he:chkE M=0):MoV L w M' (nq M.off) (csOf M) (rsOf M)∧mvOk (csOf M) (rsOf M)=true:=by
 obtain ⟨s,hw,hx,hk⟩:=h;have he':chkE M'=0:=s.chk.trans he;obtain ⟨l1,l2,_⟩:=chkE_ok he';have k6:=hk l1 l2;have:=(hx.mor (s.mon hN) k6 (by omega) l1 l2).movC (k6.up hL) he';rw [s.csOf,s.rsOf,s.off.nq] at this;exact this
theorem Tx.valK {K w ao k X X'} (h:Tx w ao k X X') (hs:ShK K k X) (ha:afB k X=true):Rf K w ao (psOf k X):=by
 rw [←psOf_sn h.2];refine h.1.rfC ?_ (fun j hj=>by rw [(h.2 j hj).2.1,(h.2 j hj).2.2.2.1];exact hs.2 j hj);exact (afr_sn (fun j _ b=>h.2 j (by omega))).trans ha
theorem pckE_twK {K w ao k X X' M M'} (h:TmK K w M M') (hx:Tx w ao k X X'):pckE M' k X'=pckE M k X:=by
 unfold pckE;rw [h.1.chk,h.1.ck];unfold pnE;rw [show afB k X'=afB k X from afr_sn (fun j _ b=>hx.2 j (by omega))]
theorem tw_hvK {K w ao k X X' M M'} (L:Nat) (hL:K≤L) (hK:K≤100) (h:TmK K w M M') (hN:MoN M) (hx:Tx w ao k X X') (hs:ShK K k X) (he:pckE M k X=0):MoV L w M' (nq M.off) (csOf M) (rsOf M)∧mvOk (csOf M) (rsOf M)=true∧Rf L w ao (psOf k X)∧(psOf k X).length=k∧k=(csOf M).length:=by
 obtain ⟨h1,h2,h3⟩:=pckE_two he;obtain ⟨a,b⟩:=h.valL L hL hK hN h1;exact ⟨a,b,(hx.valK hs h2).mono hL,psOf_len _ _,by rw [csOf_len];exact h3⟩
theorem twinTmK_c {K:Nat} {w:World} {M:Mo} (hX:MoX w M) (hN:MoN M) (hk:M.ck≤64→M.rk≤64→MoK K M) (hK:K≤100):Calls Tryz.prog 8 #[M.val] w fun e w'=>∃(vm:Value) (M':Mo),e=.returned vm∧Below w.heap.size w w'∧Hid (vm=M'.val∧TmK K w' M M') :=
 (twin_w (K:=K) hX hN hk (by omega)).mono fun e w' ⟨M',h1,h2,h3,h4,h5,h6⟩=>⟨M'.val,M',h1,h2,hid ⟨rfl,h3,h4,h5,h6⟩⟩
theorem twinsTxK_c {K:Nat} {w:World} {ao:Option Addr} {k cap:Nat} {X:Nat→Nm} (h:Rl w ao k X) (hs:ShK K k X) (hK:K≤100):Calls Tryz.prog 11 #[.slice ao k cap] w fun e w'=>∃(a:Option Addr) (c:Nat) (X':Nat→Nm),e=.returned (.slice a k c)∧Below w.heap.size w w'∧(k≤c∧c≤9223372036854775807)∧Hid (Tx w' a k X X') :=
 (twins_c h (by have:=hs.1;omega) (fun j hj=>by have:=hs.2 j hj;omega)).mono fun e w' ⟨a,c,X',h1,h2,h3,h4⟩=>⟨a,c,X',h1,h2,h3,hid h4.out⟩
theorem valueTwK_c {w:World} {M M':Mo} {ao:Option Addr} {k cap:Nat} {X X':Nat→Nm} (h:TmK 8 w M M') (hN:MoN M) (hx:Tx w ao k X X') (hs:ShK 8 k X) :
  Calls Tryz.prog 12 #[M'.val,.slice ao k cap] w fun e w'=>VaAns 8 w w' e (pckE M k X) (nq M.off) (csOf M) (psOf k X) :=
 pValue_v h.2.1 hx.1 (by have:=hs.1;omega) (pckE_twK h hx) (fun he=>tw_hvK 8 (by decide) (by decide) h hN hx hs he) (by decide)
structure T4 (w:World) (b0 b1 b2 b3:Option Addr) (k0:Nat) (X0 Y0:Nat→Nm) (k1:Nat) (X1 Y1:Nat→Nm) (k2:Nat) (X2 Y2:Nat→Nm) (k3:Nat) (X3 Y3:Nat→Nm):Prop where
 t0:Tx w b0 k0 X0 Y0
 t1:Tx w b1 k1 X1 Y1
 t2:Tx w b2 k2 X2 Y2
 t3:Tx w b3 k3 X3 Y3
theorem T4.below {w w' b0 b1 b2 b3 k0 X0 Y0 k1 X1 Y1 k2 X2 Y2 k3 X3 Y3} (h:T4 w b0 b1 b2 b3 k0 X0 Y0 k1 X1 Y1 k2 X2 Y2 k3 X3 Y3) (hb:Below w.heap.size w w'):T4 w' b0 b1 b2 b3 k0 X0 Y0 k1 X1 Y1 k2 X2 Y2 k3 X3 Y3:=⟨h.t0.below hb,h.t1.below hb,h.t2.below hb,h.t3.below hb⟩
theorem rsOf_len (M:Mo):(rsOf M).length=M.rk:=by simp [rsOf]
def rsum (f:Nat→Rat):Nat→Rat
 | 0=>0
 | n+1=>rsum f n+f n
def dotT (xs:List Rat):List (Int × Rat)→Rat
 | []=>0
 | t :: r=>tprod xs t+dotT xs r
theorem dotT_act (xs:List Rat):∀(ts:List (Int × Rat)),psum (ts.map (tprod xs)) 0=dotT xs ts
 | []=>rfl
 | t :: r=>by
  simp only [List.map_cons,dotT];rw [psum_cons,dotT_act xs r]
theorem rsum_add (f g:Nat→Rat):∀n,rsum (fun j=>f j+g j) n=rsum f n+rsum g n
 | 0=>by show (0:Rat)=0+0;grind
 | n+1=>by
  simp only [rsum];rw [rsum_add f g n];grind
theorem rsum_smul (c:Rat) (f:Nat→Rat):∀n,rsum (fun j=>c*f j) n=c*rsum f n
 | 0=>by show (0:Rat)=c*0;grind
 | n+1=>by
  simp only [rsum];rw [rsum_smul c f n];grind
theorem rsum_zero {f:Nat→Rat}:∀{n:Nat},(∀j,j<n→f j=0)→rsum f n=0
 | 0,_=>rfl
 | n+1,h=>by
  simp only [rsum];rw [rsum_zero (fun j hj=>h j (by omega)),h n (by omega)];grind
theorem rsum_congr {f g:Nat→Rat}:∀{n:Nat},(∀j,j<n→f j=g j)→rsum f n=rsum g n
 | 0,_=>rfl
 | n+1,h=>by
  simp only [rsum];rw [rsum_congr (fun j hj=>h j (by omega)),h n (by omega)]
theorem rsum_pt (z:Nat) (a:Rat) (x:Nat→Rat):∀n,z<n→rsum (fun j=>(if (z:Int)=(j:Int) then a else 0)*x j) n=a*x z
 | 0,h=>by omega
 | n+1,h=>by
  simp only [rsum];by_cases e:z=n
  ·subst e;rw [if_pos rfl,rsum_zero (fun j hj=>by rw [if_neg (by omega)];grind)];grind
  ·rw [rsum_pt z a x n (by omega),if_neg (by omega)];grind
theorem dot_coef {n:Nat} (xs:List Rat):∀{ts:List (Int × Rat)},(∀p ∈ ts,0≤p.1∧p.1<(n:Int))→dotT xs ts=rsum (fun j=>coefT ts j*xs.getD j 0) n
 | [],_=>(rsum_zero (fun j _=>by show (0:Rat)*_=0;grind)).symm
 | (z,a) :: r,h=>by
  obtain ⟨h0,h1⟩:=h (z,a) List.mem_cons_self;obtain ⟨k,rfl⟩:=Int.eq_ofNat_of_zero_le (show 0≤z from h0);replace h1:((k:Nat):Int)<(n:Int):=h1;simp only [dotT];rw [dot_coef xs (fun p hp=>h p (List.mem_cons_of_mem _ hp)),rsum_congr (f:=fun j=>coefT ((((k:Nat):Int),a) :: r) j*xs.getD j 0) (g:=fun j=>(if ((k:Nat):Int)=(j:Int) then a else 0)*xs.getD j 0+coefT r j*xs.getD j 0) (fun j _=>by show ((if ((k:Nat):Int)=(j:Int) then a else 0)+coefT r j)*_=_;grind),rsum_add,rsum_pt k a (fun j=>xs.getD j 0) n (by omega)];rfl
theorem kps_low {q t lq hq:Rat} {li hi:Int} (hk:kpsB t li lq hi hq=true) (h0:0≤q) (hi0:li≠0→q=0):q*lq≤q*t:=by
 simp only [kpsB,decide_eq_true_eq] at hk;by_cases e:li=0
 ·have h1:lq≤t:=by rcases hk.1 with h | h;omega;exact h.2
  have h2:=Rat.mul_nonneg h0 (show 0≤t-lq by grind)
  grind
 ·rw [hi0 e];grind
theorem kps_up {q t lq hq:Rat} {li hi:Int} (hk:kpsB t li lq hi hq=true) (h0:0≤q) (hi0:hi≠0→q=0):-q*hq ≤ -q*t:=by
 simp only [kpsB,decide_eq_true_eq] at hk;by_cases e:hi=0
 ·have h1:t≤hq:=by rcases hk.2 with h | h;omega;exact h.2
  have h2:=Rat.mul_nonneg h0 (show 0≤hq-t by grind)
  grind
 ·rw [hi0 e];grind
theorem feas_at {cs:List CV} {rs:List RV} {xs:List Rat} (h:feasB cs rs xs=true) (hl:xs.length=cs.length):(∀(j:Nat) (v:CV),cs[j]?=some v→kpsB (xs.getD j 0) v.li v.lq v.hi v.hq=true)∧∀v ∈ rs,kpsB (dotT xs v.ts) v.li v.lq v.hi v.hq=true:=by
 simp only [feasB,Bool.and_eq_true,decide_eq_true_eq,crl_nil] at h;refine ⟨fun j v hv=>?_,fun v hv=>?_⟩
 ·have hj:=(List.getElem?_eq_some_iff.1 hv).1;have h1:=h.1 j hj;have hx:xs[j]?=some (xs.getD j 0):=by rw [List.getD_eq_getElem?_getD,List.getElem?_eq_getElem (by omega)];rfl
  rw [bcB,hv,hx] at h1;simpa using h1
 ·obtain ⟨j,hj⟩:=List.getElem?_of_mem hv;have h1:=h.2 j (List.getElem?_eq_some_iff.1 hj).1;rw [brB,hj] at h1;have e:actQ xs v=dotT xs v.ts:=dotT_act xs v.ts;simpa [e] using h1
theorem psum_app:∀(a b:List Rat),psum (a++b) 0=psum a 0+psum b 0
 | [],b=>by show psum b 0=0+psum b 0;grind
 | q :: a,b=>by
  rw [List.cons_append,psum_cons,psum_cons,psum_app a b];grind
theorem psum_nn:∀{l:List Rat},(∀q ∈ l,0≤q)→0≤psum l 0
 | [],_=>Rat.le_refl
 | q :: l,h=>by
  have h1:=h q List.mem_cons_self;have h2:=psum_nn (fun q hq=>h q (List.mem_cons_of_mem _ hq));rw [psum_cons];grind
theorem psum_nil:∀{l:List Rat},(∀q ∈ l,q=0)→psum l 0=0
 | [],_=>rfl
 | q :: l,h=>by
  have h1:=h q List.mem_cons_self;have h2:=psum_nil (fun q hq=>h q (List.mem_cons_of_mem _ hq));rw [psum_cons,h1,h2];grind
theorem psum_tight:∀{l:List Rat},(∀q ∈ l,0≤q)→psum l 0=0→∀q ∈ l,q=0
 | [],_,_,q,hq=>by cases hq
 | q :: l,h,hs,q',hq=>by
  have h1:=h q List.mem_cons_self;have h2:=psum_nn (l:=l) (fun q hq=>h q (List.mem_cons_of_mem _ hq));rw [psum_cons] at hs;have e1:q=0:=by grind
  have e2:psum l 0=0:=by grind
  rcases List.mem_cons.1 hq with rfl | hq
  ·exact e1
  ·exact psum_tight (fun q hq=>h q (List.mem_cons_of_mem _ hq)) e2 q' hq
theorem rsum_front (f:Nat→Rat):∀n,rsum f (n+1)=f 0+rsum (fun k=>f (k+1)) n
 | 0=>by show (0:Rat)+f 0=f 0+0;grind
 | n+1=>by
  show rsum f (n+1)+f (n+1)=f 0+(rsum (fun k=>f (k+1)) n+f (n+1));rw [rsum_front f n];grind
def gapR (rs:List RV) (ys xs:List Rat):List Rat:=List.zipWith (fun v y=>y*dotT xs v.ts-shQ y v.lq v.hq) rs ys
def gapC (cs:List CV) (zs xs:List Rat):List Rat:=List.zipWith (fun v (t:Rat × Rat)=>t.1*t.2-shQ t.1 v.lq v.hq) cs (zs.zip xs)
def yact (xs:List Rat):List RV→List Rat→Rat
 | v :: rs,y :: ys=>y*dotT xs v.ts+yact xs rs ys
 | _,_=>0
def zact:List CV→List Rat→List Rat→Rat
 | _ :: cs,z :: zs,x :: xs=>z*x+zact cs zs xs
 | _,_,_=>0
theorem rows_sum (xs:List Rat):∀(rs:List RV) (ys:List Rat),psum ((shR rs ys).map (·.2)) 0+psum (gapR rs ys xs) 0=yact xs rs ys
 | [],_=>by show (0:Rat)+0=0;grind
 | _ :: _,[]=>by show (0:Rat)+0=0;grind
 | v :: rs,y :: ys=>by
  have ih:=rows_sum xs rs ys;show psum (shQ y v.lq v.hq :: (shR rs ys).map (·.2)) 0+psum ((y*dotT xs v.ts-shQ y v.lq v.hq) :: gapR rs ys xs) 0=y*dotT xs v.ts+yact xs rs ys;rw [psum_cons,psum_cons];grind
theorem cols_sum:∀(cs:List CV) (zs xs:List Rat),zs.length=cs.length→xs.length=cs.length→psum ((shC cs zs).map (·.2)) 0+psum (gapC cs zs xs) 0=zact cs zs xs
 | [],_,_,_,_=>by show (0:Rat)+0=0;grind
 | _ :: _,[],_,h,_=>by simp at h
 | _ :: _,_ :: _,[],_,h=>by simp at h
 | v :: cs,z :: zs,x :: xs,h,h'=>by
  have ih:=cols_sum cs zs xs (by simpa using h) (by simpa using h');show psum (shQ z v.lq v.hq :: (shC cs zs).map (·.2)) 0+psum ((z*x-shQ z v.lq v.hq) :: gapC cs zs xs) 0=z*x+zact cs zs xs;rw [psum_cons,psum_cons];grind
theorem ent_sum (y:Rat) (j:Nat):∀(ts:List (Int × Rat)),psum (entQ y ts j) 0=-y*coefT ts j
 | []=>by show (0:Rat)=-y*0;grind
 | (z,a) :: r=>by
  have ih:=ent_sum y j r;show psum ((if z=(j:Int) then [-y*a] else [])++entQ y r j) 0=-y*((if z=(j:Int) then a else 0)+coefT r j);rw [psum_app,ih];by_cases e:z=(j:Int)
  ·rw [if_pos e,if_pos e,psum_cons];show (-y*a+0)+_=_;grind
  ·rw [if_neg e,if_neg e];show (0:Rat)+_=_;grind
theorem yact_sum {n:Nat} (xs:List Rat):∀(rs:List RV) (ys:List Rat),(∀v ∈ rs,∀p ∈ v.ts,0≤p.1∧p.1<(n:Int))→yact xs rs ys=rsum (fun j=>-(psum (centQ rs ys j) 0)*xs.getD j 0) n
 | [],_,_=>(rsum_zero (fun j _=>by show -(0:Rat)*_=0;grind)).symm
 | _ :: _,[],_=>(rsum_zero (fun j _=>by show -(0:Rat)*_=0;grind)).symm
 | v :: rs,y :: ys,h=>by
  show y*dotT xs v.ts+yact xs rs ys=_;rw [yact_sum xs rs ys (fun v' hv=>h v' (List.mem_cons_of_mem _ hv)),dot_coef xs (h v List.mem_cons_self),←rsum_smul,←rsum_add];refine rsum_congr (fun j _=>?_);show _=-(psum (entQ y v.ts j++centQ rs ys j) 0)*_;rw [psum_app,ent_sum];grind
theorem zact_sum (rs:List RV) (ys:List Rat):∀(cs:List CV) (xs:List Rat) (j:Nat),xs.length=cs.length→zact cs (redC rs ys j cs) xs=psum (costs cs xs) 0+rsum (fun k=>psum (centQ rs ys (j+k)) 0*xs.getD k 0) cs.length
 | [],_,_,_=>by show (0:Rat)=0+0;grind
 | _ :: _,[],_,h=>by simp at h
 | v :: cs,x :: xs,j,h=>by
  have ih:=zact_sum rs ys cs xs (j+1) (by simpa using h);show psum (centQ rs ys j++[v.cost]) 0*x+zact cs (redC rs ys (j+1) cs) xs=psum (v.cost*x :: costs cs xs) 0+rsum (fun k=>psum (centQ rs ys (j+k)) 0*(x :: xs).getD k 0) (cs.length+1);rw [rsum_front,psum_cons,psum_app,ih,psum_cons];have e:(fun k=>psum (centQ rs ys (j+(k+1))) 0*(x :: xs).getD (k+1) 0)=(fun k=>psum (centQ rs ys (j+1+k)) 0*xs.getD k 0):=by
   funext k
   rw [show j+(k+1)=j+1+k by omega];rfl
  rw [e];show (psum (centQ rs ys j) 0+(v.cost+0))*x+_=v.cost*x+_+(psum (centQ rs ys (j+0)) 0*x+_);rw [show j+0=j from rfl];grind
theorem val_gap {off:Rat} {cs:List CV} {rs:List RV} {xs ys:List Rat} (ht:∀v ∈ rs,∀p ∈ v.ts,0≤p.1∧p.1<(cs.length:Int)) (hl:xs.length=cs.length) :
  valQ off cs xs=psum ((bnP off cs rs ys).map (·.2)) 0+(psum (gapR rs ys xs) 0+psum (gapC cs (redC rs ys 0 cs) xs) 0):=by
 have h1:=rows_sum xs rs ys;have h2:=cols_sum cs (redC rs ys 0 cs) xs (redC_len rs ys cs 0) hl;have h3:=yact_sum xs rs ys ht;have h4:=zact_sum rs ys cs xs 0 hl;have e0:rsum (fun j=>-(psum (centQ rs ys j) 0)*xs.getD j 0) cs.length+rsum (fun k=>psum (centQ rs ys (0+k)) 0*xs.getD k 0) cs.length=0:=by
  rw [←rsum_add];exact rsum_zero (fun j _=>by rw [show 0+j=j by omega];grind)
 have e1:valQ off cs xs=off+psum (costs cs xs) 0:=psum_cons _ _;have e2:psum ((bnP off cs rs ys).map (·.2)) 0=off+(psum ((shR rs ys).map (·.2)) 0+psum ((shC cs (redC rs ys 0 cs)).map (·.2)) 0):=by
  show psum (off :: (shR rs ys++shC cs (redC rs ys 0 cs)).map (·.2)) 0=_;rw [psum_cons,List.map_append,psum_app]
 rw [e1,e2];grind
theorem gap_nn {y t lq hq:Rat} {li hi:Int} (hk:kpsB t li lq hi hq=true) (hs:shI y li hi=0):0≤y*t-shQ y lq hq:=by
 unfold shI at hs;unfold shQ;by_cases h0:y=0
 ·rw [if_pos h0,h0];grind
 ·rw [if_neg h0] at hs ⊢;by_cases h1:y<0
  ·rw [if_pos h1] at hs ⊢;have:=kps_up (q:=-y) hk (by grind) (fun e=>by omega)
   grind
  ·rw [if_neg h1] at hs ⊢;have:=kps_low (q:=y) hk (by grind) (fun e=>by omega)
   grind
theorem rsB_gap {y t lq hq:Rat} {li hi:Int} (h:rsB y li lq hi hq t=true):shI y li hi=0∧y*t-shQ y lq hq=0:=by
 unfold rsB at h;unfold shI shQ;by_cases h0:y=0
 ·rw [if_pos h0,if_pos h0,h0];exact ⟨rfl,by grind⟩
 ·rw [if_neg h0] at h ⊢;rw [if_neg h0];by_cases h1:y<0
  ·rw [if_pos h1] at h ⊢;rw [if_pos h1];simp only [Bool.and_eq_true,decide_eq_true_eq] at h;exact ⟨by omega,by rw [h.2];grind⟩
  ·rw [if_neg h1] at h ⊢;rw [if_neg h1];simp only [Bool.and_eq_true,decide_eq_true_eq] at h;exact ⟨h.1,by rw [h.2];grind⟩
theorem gap_rsB {y t lq hq:Rat} {li hi:Int} (hs:shI y li hi=0) (hg:y*t-shQ y lq hq=0):rsB y li lq hi hq t=true:=by
 unfold shI at hs;unfold shQ at hg;unfold rsB;by_cases h0:y=0
 ·rw [if_pos h0]
 ·rw [if_neg h0] at hs hg ⊢;have key:∀q:Rat,y*t-q*y=0→q=t:=fun q e=>by
   have:y*(t-q)=0:=by grind
   rcases Rat.mul_eq_zero.1 this with h | h
   ·exact absurd h h0
   ·grind
  by_cases h1:y<0
  ·rw [if_pos h1] at hs hg ⊢;rw [decide_eq_true (show hi=0 by omega),decide_eq_true (key _ hg)];rfl
  ·rw [if_neg h1] at hs hg ⊢;rw [decide_eq_true hs,decide_eq_true (key _ hg)];rfl
theorem zw_mem {α β γ:Type} {f:α→β→γ} {a:List α} {b:List β} {q:γ} (h:q ∈ List.zipWith f a b):∃(i:Nat) (x:α) (y:β),a[i]?=some x∧b[i]?=some y∧q=f x y:=by
 obtain ⟨i,hi⟩:=List.getElem?_of_mem h;rw [List.getElem?_zipWith] at hi;cases ha:a[i]? with
 | none=>rw [ha] at hi;cases hi
 | some x =>
  cases hb:b[i]? with
  | none=>rw [ha,hb] at hi;cases hi
  | some y=>rw [ha,hb] at hi;exact ⟨i,x,y,ha,hb,(Option.some.inj hi).symm⟩
theorem zip_at {α β:Type} {a:List α} {b:List β} {i:Nat} {t:α × β} (h:(a.zip b)[i]?=some t):a[i]?=some t.1∧b[i]?=some t.2:=List.getElem?_zip_eq_some.1 h
theorem smI_all {p:List (Int × Rat)} (h:smI p=0):(∀t ∈ p,t.1=0)∧smQ p=psum (p.map (·.2)) 0:=by
 have h1:∀t ∈ p,t.1=0:=fun t ht=>by
  by_cases e:t.1=0
  ·exact e
  ·have:p.any (fun t=>decide (t.1≠0))=true:=List.any_eq_true.2 ⟨t,ht,by simpa using e⟩;unfold smI at h;rw [this] at h;cases h
 exact ⟨h1,(sm_all h1).2⟩
theorem gaps_nn {off:Rat} {cs:List CV} {rs:List RV} {xs ys:List Rat} (hl:xs.length=cs.length) (hf:feasB cs rs xs=true) (hs:∀t ∈ bnP off cs rs ys,t.1=0):(∀q ∈ gapR rs ys xs,0≤q)∧∀q ∈ gapC cs (redC rs ys 0 cs) xs,0≤q:=by
 obtain ⟨hc,hr⟩:=feas_at hf hl;refine ⟨fun q hq=>?_,fun q hq=>?_⟩
 ·obtain ⟨i,v,y,hv,hy,rfl⟩:=zw_mem hq;refine gap_nn (hr v (List.mem_of_getElem? hv)) (hs (shI y v.li v.hi,shQ y v.lq v.hq) (List.mem_cons_of_mem _ (List.mem_append_left _ (List.mem_of_getElem? (i:=i) ?_))));unfold shR;rw [List.getElem?_zipWith,hv,hy]
 ·obtain ⟨i,v,t,hv,ht,rfl⟩:=zw_mem hq;obtain ⟨hz,hx⟩:=zip_at ht;have hk:=hc i v hv;rw [show xs.getD i 0=t.2 by rw [List.getD_eq_getElem?_getD,hx];rfl] at hk;refine gap_nn hk (hs (shI t.1 v.li v.hi,shQ t.1 v.lq v.hq) (List.mem_cons_of_mem _ (List.mem_append_right _ (List.mem_of_getElem? (i:=i) ?_))));unfold shC;rw [List.getElem?_zipWith,hv,hz]
theorem weak_v {off:Rat} {cs:List CV} {rs:List RV} {xs ys:List Rat} (ho:mvOk cs rs=true) (hl:xs.length=cs.length) (hf:feasB cs rs xs=true) (hs:smI (bnP off cs rs ys)=0):smQ (bnP off cs rs ys)≤valQ off cs xs:=by
 have mp:=mvOk_p ho;obtain ⟨h1,h2⟩:=smI_all hs;obtain ⟨g1,g2⟩:=gaps_nn hl hf h1;have h3:=val_gap (off:=off) (ys:=ys) mp.tc hl;have h4:=psum_nn g1;have h5:=psum_nn g2;rw [h2,h3];grind
theorem tight_v {cs:List CV} {rs:List RV} {xs ys:List Rat} (hl:xs.length=cs.length) (off:Rat) (ha:arB cs rs xs ys (redC rs ys 0 cs)=true):(∀t ∈ bnP off cs rs ys,t.1=0)∧(∀q ∈ gapR rs ys xs,q=0)∧∀q ∈ gapC cs (redC rs ys 0 cs) xs,q=0:=by
 simp only [arB,Bool.and_eq_true,List.all_eq_true,id] at ha;obtain ⟨hr,hc⟩:=ha;have key1:∀(i:Nat) (v:RV) (y:Rat),rs[i]?=some v→ys[i]?=some y→shI y v.li v.hi=0∧y*dotT xs v.ts-shQ y v.lq v.hq=0:=fun i v y hv hy=>by
  have:=rsB_gap (hr _ (List.mem_of_getElem? (rsR_at (xs:=xs) hv hy)));rw [show actQ xs v=dotT xs v.ts from dotT_act xs v.ts] at this;exact this
 have key2:∀(i:Nat) (v:CV) (z x:Rat),cs[i]?=some v→(redC rs ys 0 cs)[i]?=some z→xs[i]?=some x→shI z v.li v.hi=0∧z*x-shQ z v.lq v.hq=0:=fun i v z x hv hz hx=>rsB_gap (hc _ (List.mem_of_getElem? (rsC_at hv hz hx)))
 refine ⟨fun t ht=>?_,fun q hq=>?_,fun q hq=>?_⟩
 ·rcases List.mem_cons.1 ht with rfl | ht
  ·rfl
  ·rcases List.mem_append.1 ht with ht | ht
   ·obtain ⟨i,v,y,hv,hy,rfl⟩:=zw_mem ht;exact (key1 i v y hv hy).1
   ·obtain ⟨i,v,z,hv,hz,rfl⟩:=zw_mem ht;obtain ⟨x,hx⟩:∃x,xs[i]?=some x:=⟨_,List.getElem?_eq_getElem (by have:=(List.getElem?_eq_some_iff.1 hv).1;omega)⟩;exact (key2 i v z x hv hz hx).1
 ·obtain ⟨i,v,y,hv,hy,rfl⟩:=zw_mem hq;exact (key1 i v y hv hy).2
 ·obtain ⟨i,v,t,hv,ht,rfl⟩:=zw_mem hq;obtain ⟨hz,hx⟩:=zip_at ht;exact (key2 i v t.1 t.2 hv hz hx).2
theorem smI_zero {p:List (Int × Rat)} (h:∀t ∈ p,t.1=0):smI p=0∧smQ p=psum (p.map (·.2)) 0:=sm_all h
theorem strong_v {off:Rat} {cs:List CV} {rs:List RV} {xs ys:List Rat} (ho:mvOk cs rs=true) (hl:xs.length=cs.length) (ha:arB cs rs xs ys (redC rs ys 0 cs)=true):smI (bnP off cs rs ys)=0∧smQ (bnP off cs rs ys)=valQ off cs xs:=by
 obtain ⟨h1,h2,h3⟩:=tight_v hl off ha;obtain ⟨h4,h5⟩:=smI_zero h1;refine ⟨h4,?_⟩;rw [h5,val_gap (mvOk_p ho).tc hl,psum_nil h2,psum_nil h3];grind
theorem mixed_v {cs:List CV} {rs:List RV} {xs ys us vs:List Rat} (ho:mvOk cs rs=true) (hl:xs.length=cs.length) (hl2:us.length=cs.length) (hf:feasB cs rs xs=true) (hf2:feasB cs rs us=true) (ha:arB cs rs xs ys (redC rs ys 0 cs)=true) (ha2:arB cs rs us vs (redC rs vs 0 cs)=true):arB cs rs xs vs (redC rs vs 0 cs)=true:=by
 obtain ⟨p1,p2⟩:=strong_v (off:=0) ho hl ha;obtain ⟨q1,q2⟩:=strong_v (off:=0) ho hl2 ha2;have w1:=weak_v ho hl2 hf2 p1;obtain ⟨t1,_,_⟩:=tight_v hl2 0 ha2;obtain ⟨g1,g2⟩:=gaps_nn hl hf t1;have h3:=val_gap (off:=0) (ys:=vs) (mvOk_p ho).tc hl;rw [←(smI_zero t1).2] at h3;have n1:=psum_nn g1;have n2:=psum_nn g2;have z1:psum (gapR rs vs xs) 0=0:=by grind
 have z2:psum (gapC cs (redC rs vs 0 cs) xs) 0=0:=by grind
 have e1:=psum_tight g1 z1;have e2:=psum_tight g2 z2;simp only [arB,Bool.and_eq_true,List.all_eq_true,id];refine ⟨fun b hb=>?_,fun b hb=>?_⟩
 ·obtain ⟨i,v,y,hv,hy,rfl⟩:=zw_mem hb;rw [show actQ xs v=dotT xs v.ts from dotT_act xs v.ts];refine gap_rsB (t1 (shI y v.li v.hi,shQ y v.lq v.hq) (List.mem_cons_of_mem _ (List.mem_append_left _ (List.mem_of_getElem? (i:=i) ?_)))) (e1 _ (List.mem_of_getElem? (i:=i) ?_))
  ·unfold shR;rw [List.getElem?_zipWith,hv,hy]
  ·unfold gapR;rw [List.getElem?_zipWith,hv,hy]
 ·obtain ⟨i,v,t,hv,ht,rfl⟩:=zw_mem hb;obtain ⟨hz,hx⟩:=zip_at ht;refine gap_rsB (t1 (shI t.1 v.li v.hi,shQ t.1 v.lq v.hq) (List.mem_cons_of_mem _ (List.mem_append_right _ (List.mem_of_getElem? (i:=i) ?_)))) (e2 _ (List.mem_of_getElem? (i:=i) ?_))
  ·unfold shC;rw [List.getElem?_zipWith,hv,hz]
  ·unfold gapC;rw [List.getElem?_zipWith,hv,ht]
theorem dckE_two {M:Mo} {k:Nat} {X:Nat→Nm} (h:dckE M k X=0):chkE M=0∧afB k X=true∧k=M.rk:=by
 obtain ⟨h1,h2⟩:=two_zero h;refine ⟨h1,?_⟩;unfold pnE at h2;by_cases a:afB k X=true
 ·rw [if_pos a] at h2;by_cases b:k=M.rk
  ·exact ⟨a,b⟩
  ·rw [if_neg (by omega)] at h2;cases h2
 ·rw [if_neg a] at h2;cases h2
theorem dckE_twK {K w ao k X X' M M'} (h:TmK K w M M') (hx:Tx w ao k X X'):dckE M' k X'=dckE M k X:=by
 unfold dckE;rw [h.1.chk,h.1.rk];unfold pnE;rw [show afB k X'=afB k X from afr_sn (fun j _ b=>hx.2 j (by omega))]
theorem dtw_hvK {K w ao k X X' M M'} (L:Nat) (hL:K≤L) (hK:K≤100) (h:TmK K w M M') (hN:MoN M) (hx:Tx w ao k X X') (hs:ShK K k X) (he:dckE M k X=0):MoV L w M' (nq M.off) (csOf M) (rsOf M)∧mvOk (csOf M) (rsOf M)=true∧Rf L w ao (psOf k X)∧(psOf k X).length=k∧k=(rsOf M).length:=by
 obtain ⟨h1,h2,h3⟩:=dckE_two he;obtain ⟨a,b⟩:=h.valL L hL hK hN h1;exact ⟨a,b,(hx.valK hs h2).mono hL,psOf_len _ _,by rw [rsOf_len];exact h3⟩
theorem boundTw_c {K:Nat} {w:World} {M M':Mo} {ao:Option Addr} {k cap:Nat} {X X':Nat→Nm} (h:TmK K w M M') (hN:MoN M) (hx:Tx w ao k X X') (hs:ShK K k X) (hK4:4≤K) (hK:K≤8) :
  Calls Tryz.prog 10 #[M'.val,.slice ao k cap] w fun e w'=>BoAns K w w' e (dckE M k X) (bnP (nq M.off) (csOf M) (rsOf M) (psOf k X)) :=
 dBound_v h.2.1 hx.1 (by have:=hs.1;omega) (dckE_twK h hx) (fun he=>dtw_hvK K (by omega) (by omega) h hN hx hs he) hK4 hK
def hldM (M:Mo) (k0:Nat) (X0:Nat→Nm) (k1:Nat) (X1:Nat→Nm) (k2:Nat) (X2:Nat→Nm):Bool:=decide (chkE M=0) && hldB (pckE M k0 X0) (dckE M k1 X1) k2 X2 (csOf M) (rsOf M) (psOf k0 X0) (psOf k1 X1)
theorem holdsTw_c {K:Nat} {w:World} {M M':Mo} {a0 a1 a2:Option Addr} {k0 c0 k1 c1 k2 c2:Nat} {X0 X1 X2 Y0 Y1 Y2:Nat→Nm} (h:TmK K w M M') (hN:MoN M) (t0:Tx w a0 k0 X0 Y0) (t1:Tx w a1 k1 X1 Y1) (t2:Tx w a2 k2 X2 Y2) (s0:ShK K k0 X0) (s1:ShK K k1 X1) (s2:ShK K k2 X2) (hK:K≤30) :
  Calls Tryz.prog 7 #[M'.val,.agg #[.slice a0 k0 c0,.slice a1 k1 c1,.slice a2 k2 c2]] w fun e w'=>e=.returned (.tuple #[.bool (hldM M k0 X0 k1 X1 k2 X2),.int .i64 (chkE M)])∧Below w.heap.size w w':=by
 have:=dHolds_v (c0:=c0) (c1:=c1) (c2:=c2) h.2.1 t0.1 t1.1 t2.1 (by have:=s0.1;omega) (by have:=s1.1;omega) (by have:=s2.1;omega) (pckE_twK h t0) (dckE_twK h t1) (fun he=>tw_hvK K (by omega) (by omega) h hN t0 s0 he) (fun he=>dtw_hvK K (by omega) (by omega) h hN t1 s1 he) hK;unfold hldM;rw [h.1.chk] at this;unfold hldB at this ⊢;rw [show afB k2 Y2=afB k2 X2 from afr_sn (fun j _ b=>t2.2 j (by omega)),psOf_sn t2.2] at this;exact this
def ancL (md:Region.Mode) (ops:Array Oper) (l:Array Bool) (i:Nat):Array Bool:=((List.range ops.size).map (fun j=>l.getD j false || (ancs md ops ops.size [i]).contains j)).toArray
def flowOkT (md:Region.Mode) (ops:Array Oper) (listed:Array Bool) (E T st:List Nat):Bool :=
 listed.size==ops.size && (E++T).Nodup &&
 (List.range ops.size).all (fun i=>!(listed.getD i false) || (depsOf md ops i).all (fun j=>listed.getD j false)) &&
 (E++T).all (fun i=>!(listed.getD i true) && decide (i<ops.size) && !(st.contains i) && (depsOf md ops i).all (fun j=>decide (j<i) && (listed.getD j false || (E++T).contains j))) &&
 (List.range ops.size).all (fun i=>listed.getD i false || (E++T).contains i || st.contains i) &&
 st.all (fun s=>!(listed.getD s true) && ((depsOf md ops s).any (fun j=>st.contains j) || E.all (fun j=>(ancs md ops ops.size [s]).contains j))) &&
 T.all (fun i=>Region.free md ops (ancL md ops listed i) i)
def TakeOk (P:Program) (md:Region.Mode) (ops:Array Oper) (S:World→Prop) (G:Nat→Value→World→Prop) (a0:Act) (D:List (Nat × Tmp)) (F:List Nat) (i:Nat):Prop :=
 ∃o,ops[i]?=some o∧∀u w,S w→(∀j,F.contains j=true→(depsOf md ops i).contains j=true→G j (u j) w)→∃v,YieldsIf P ops S o v (fill a0 D u)∧G i v w
theorem free_more {md:Region.Mode} {ops:Array Oper} {l l':Array Bool} {i:Nat} (h:Region.free md ops l i=true) (hl:∀j,l.getD j true=true→l'.getD j true=true):Region.free md ops l' i=true:=by
 unfold Region.free at h ⊢;cases ho:ops[i]? with
 | none=>rw [ho] at h;exact h
 | some oi =>
  rw [ho] at h;simp only [List.all_eq_true] at h ⊢;intro j hj;have h1:=h j hj;simp only [Bool.or_eq_true] at h1 ⊢;rcases h1 with (h1 | h1) | h1
  ·exact .inl (.inl h1)
  ·exact .inl (.inr (hl j h1))
  ·exact .inr h1
theorem wpAnyH_flowT {P:Program} {md:Region.Mode} {ops:Array Oper} {Q:Exit→Act→World→Prop} {S:World→Prop} (G:Nat→Value→World→Prop) (D:List (Nat × Tmp)) (E T st:List Nat) (listed0:Array Bool) (a0:Act) (w0:World) (fuel:Nat)
  (hok:flowOkT md ops listed0 E T st=true) (hsl:slotsOk ops D (E++T)=true) (hns:Region.noSelect ops=true) (hQ0:∀c a (d:Tmp) (v:Value) w,Q (.panic c) (a.put (some d) v) w→Q (.panic c) a w)
  (hS:∀w w',S w→Below w.heap.size w w'→S w')
  (hG:∀j v w w',G j v w→Below w.heap.size w w'→G j v w')
  (hstep:∀i,i ∈ E→StepOk P md ops Q S G a0 w0 D (E++T) i)
  (htake:∀i,i ∈ T→TakeOk P md ops S G a0 D (E++T) i)
  (hend:∀u w,S w→Below w0.heap.size w0 w→(∀j,j ∈ E++T→G j (u j) w)→wpAnyH P md ops Q S fuel (fullOf ops st) (fill a0 D u) w)
  (hS0:S w0):wpAnyH P md ops Q S ((E++T).length+fuel) listed0 a0 w0:=by
 simp only [flowOkT,Bool.and_eq_true,beq_iff_eq] at hok;obtain ⟨⟨⟨⟨⟨⟨k1,k0⟩,k2⟩,k3⟩,k4⟩,k5⟩,k6⟩:=hok;obtain ⟨F,hFE⟩:∃F,F=E++T:=⟨_,rfl⟩;have inE:∀i,i ∈ F→i ∈ E∨i ∈ T:=fun i hi=>by rw [hFE] at hi;exact List.mem_append.1 hi
 have Esub:∀i,i ∈ E→i ∈ F:=fun i hi=>by rw [hFE];exact List.mem_append_left _ hi
 have Tsub:∀i,i ∈ T→i ∈ F:=fun i hi=>by rw [hFE];exact List.mem_append_right _ hi
 rw [←hFE] at k0 k3 k4 hsl hstep htake hend ⊢;have k0:F.Nodup:=of_decide_eq_true k0;have k2':∀i j,listed0.getD i false=true→j ∈ depsOf md ops i→listed0.getD j false=true:=fun i j hi hj=>by
  have hlt:i<ops.size:=by
   rcases Nat.lt_or_ge i ops.size with h | h
   ·exact h
   ·rw [←k1] at h;simp [Array.getElem?_eq_none h] at hi
  have:=List.all_eq_true.1 k2 i (List.mem_range.2 hlt);rw [hi] at this;simpa using List.all_eq_true.1 (by simpa using this) j hj
 have k3':∀i,i ∈ F→listed0.getD i true=false∧i<ops.size∧i ∉ st∧∀j,j ∈ depsOf md ops i→j<i∧(listed0.getD j false=true∨j ∈ F):=fun i hi=>by
  have:=List.all_eq_true.1 k3 i hi;simp only [Bool.and_eq_true,Bool.not_eq_true',decide_eq_true_eq] at this;obtain ⟨⟨⟨a,b⟩,c⟩,d⟩:=this;refine ⟨a,b,fun h=>?_,fun j hj=>?_⟩
  ·rw [List.contains_iff_mem.2 h] at c;cases c
  ·have:=List.all_eq_true.1 d j hj;simp only [Bool.and_eq_true,decide_eq_true_eq,Bool.or_eq_true] at this;exact ⟨this.1,this.2.imp id (fun h=>List.contains_iff_mem.1 h)⟩
 have k4':∀i,i<ops.size→listed0.getD i false=true∨i ∈ F∨i ∈ st:=fun i hi=>by
  have:=List.all_eq_true.1 k4 i (List.mem_range.2 hi);simp only [Bool.or_eq_true] at this;rcases this with (h | h) | h
  ·exact .inl h
  ·exact .inr (.inl (List.contains_iff_mem.1 h))
  ·exact .inr (.inr (List.contains_iff_mem.1 h))
 have k5':∀s,s ∈ st→listed0.getD s true=false∧((∃j,j ∈ depsOf md ops s∧j ∈ st)∨∀j,j ∈ E→j ∈ ancs md ops ops.size [s]):=fun s hs=>by
  have:=List.all_eq_true.1 k5 s hs;simp only [Bool.and_eq_true,Bool.not_eq_true',Bool.or_eq_true] at this;refine ⟨this.1,this.2.imp (fun h=>?_) (fun h j hj=>List.contains_iff_mem.1 (List.all_eq_true.1 h j hj))⟩;obtain ⟨j,h1,h2⟩:=List.any_eq_true.1 h;exact ⟨j,h1,List.contains_iff_mem.1 h2⟩
 simp only [slotsOk,Bool.and_eq_true,beq_iff_eq,decide_eq_true_eq] at hsl;obtain ⟨⟨hf,h2⟩,h3⟩:=hsl;have h1:(D.map Prod.fst).Nodup:=hf ▸ k0;have hput:∀i,i ∈ F→∀u v,(fill a0 D u).put (dstOf ops i) v=fill a0 D (updV u i v):=fun i hi u v=>by
  rw [←hf] at hi;obtain ⟨⟨i',d⟩,hp,rfl⟩:=List.mem_map.1 hi;have h4:=List.all_eq_true.1 h3 _ hp;rw [beq_iff_eq.1 h4];exact fill_put v h1 h2 hp
 have h0:fill a0 D (lies a0 D)=a0:=fill_lies (lies_at h1)
 -- at any time
 have main:∀(n:Nat) (listed:Array Bool) (u:Nat→Value) (w:World),left listed F≤n→listed.size=ops.size→(∀i,i ∉ F→listed.getD i false=listed0.getD i false)→(∀i j,listed.getD i false=true→j ∈ depsOf md ops i→listed.getD j false=true) →
   S w→Below w0.heap.size w0 w→(∀j,j ∈ F→listed.getD j false=true→G j (u j) w)→∀m,m=left listed F→wpAnyH P md ops Q S (m+fuel) listed (fill a0 D u) w:=by
  intro n
  induction n with
  | zero =>
   intro listed u w hn hsz hout hcl hw hb hg m hm;have hz:left listed F=0:=by omega
   have hall:=left_none hz;have hl:listed=fullOf ops st:=by
    apply Array.ext
    ·rw [hsz];simp [fullOf]
    ·intro i h1 h2;have hi:i<ops.size:=by omega
     have e1:listed[i]=listed.getD i false:=by simp [Array.getD,h1]
     have e2:(fullOf ops st)[i]=!(st.contains i):=by simp [fullOf]
     rw [e1,e2];by_cases hF:i ∈ F
     ·rw [hall i hF];have:=(k3' i hF).2.2.1;simp [this]
     ·rw [hout i hF];by_cases hs:i ∈ st
      ·have:=(k5' i hs).1;rw [getD_ft (by omega)] at this;rw [this];simp [hs]
      ·rcases k4' i hi with h | h | h
       ·rw [h];simp [hs]
       ·exact absurd h hF
       ·exact absurd h hs
   rw [hm,hz,Nat.zero_add,hl];exact hend u w hw hb (fun j hj=>hg j hj (hall j hj))
  | succ n ih =>
   intro listed u w hn hsz hout hcl hw hb hg m hm;by_cases hz:left listed F=0
   ·exact ih listed u w (by omega) hsz hout hcl hw hb hg m hm
   ·obtain ⟨m',rfl⟩:∃m',m=m'+1:=⟨m-1,by omega⟩
    -- one of F is ready
    have hex:=left_some hz;have hmin:∀b i,i≤b→i ∈ F→listed.getD i false=false→∃i,i ∈ F∧listed.getD i false=false∧∀j,j ∈ F→j<i→listed.getD j false=true:=by
     intro b
     induction b with
     | zero=>intro i hi hF hl;exact ⟨i,hF,hl,fun j _ hj=>by omega⟩
     | succ b ihb =>
      intro i hi hF hl;by_cases h:∃j,j ∈ F∧j<i∧listed.getD j false=false
      ·obtain ⟨j,h1,h2,h3⟩:=h;exact ihb j (by omega) h1 h3
      ·refine ⟨i,hF,hl,fun j h1 h2=>?_⟩;cases h3:listed.getD j false
       ·exact absurd ⟨j,h1,h2,h3⟩ h
       ·rfl
    obtain ⟨i0,hi0F,hi0l,hi0m⟩:∃i,i ∈ F∧listed.getD i false=false∧∀j,j ∈ F→j<i→listed.getD j false=true:=by
     obtain ⟨i0,h1,h2⟩:=hex;exact hmin i0 i0 (Nat.le_refl _) h1 h2
    have hrdy:i0 ∈ Region.ready md ops listed:=by
     obtain ⟨_,hlt,_,hd⟩:=k3' i0 hi0F;exact mem_ready.2 ⟨by rw [getD_ft (by omega)];exact hi0l,ops[i0],by simp [hlt],fun e he hb=>by
      obtain ⟨h1,h2⟩:=hd e.on (mem_deps.2 ⟨ops[i0],by simp [hlt],e,he,hb,rfl⟩);by_cases hFe:e.on ∈ F
      ·exact hi0m _ hFe h1
      ·rw [hout _ hFe];exact h2.resolve_right hFe⟩
    have hne:Region.ready md ops listed≠[]:=by
     intro h;rw [h] at hrdy;cases hrdy
    -- what is put down once an operation of F is carried out
    have next:∀i,i ∈ F→listed.getD i false=false→(∀j,j ∈ depsOf md ops i→listed.getD j false=true)→∀v w',Below w.heap.size w w'→G i v w'→S w'∧wpAnyH P md ops Q S (m'+fuel) (listed.setIfInBounds i true) ((fill a0 D u).put (dstOf ops i) v) w':=fun i hF hlf hdl v w' hb' hgi=>by
     have hlt:i<ops.size:=(k3' i hF).2.1;refine ⟨hS w w' hw hb',?_⟩;rw [hput i hF];have hlt':=left_set (by omega) hlf k0;simp only [hF,if_true] at hlt';have hset:∀j,j≠i→(listed.setIfInBounds i true).getD j false=listed.getD j false:=fun j hj=>getD_set_ne false (Ne.symm hj)
     have hseti:(listed.setIfInBounds i true).getD i false=true:=by simp [Array.getD,show i<listed.size by omega]
     refine ih (listed.setIfInBounds i true) (updV u i v) w' (by omega) (by simpa using hsz) (fun j hj=>?_) (fun j k hj hk=>?_) (hS w w' hw hb') (hb.trans (hb'.mono hb.size)) (fun j hj hl=>?_) m' (by omega)
     ·rw [hset j (fun e=>hj (e ▸ hF)),hout j hj]
     ·by_cases hji:j=i
      ·subst hji;exact getD_set_true (hdl k hk)
      ·rw [hset j hji] at hj;exact getD_set_true (hcl j k hj hk)
     ·by_cases hji:j=i
      ·subst hji;rw [updV_at];exact hgi
      ·rw [updV_ne hji];rw [hset j hji] at hl;exact hG j (u j) w w' (hg j hj hl) hb'
    by_cases hT0:i0 ∈ T
    ·-- taken at once
     obtain ⟨o,ho,hv⟩:=htake i0 hT0;have hdl0:∀j,j ∈ depsOf md ops i0→listed.getD j false=true:=fun j hj=>by
      obtain ⟨_,o',ho',hdep⟩:=mem_ready.1 hrdy;obtain ⟨o2,ho2,e,he,hb',rfl⟩:=mem_deps.1 hj;have:o2=o':=Option.some.inj (ho2.symm.trans ho');subst this;exact hdep e he hb'
     obtain ⟨v,hy,hgv⟩:=hv u w hw (fun j hj hd=>hg j (List.contains_iff_mem.1 hj) (hdl0 j (List.contains_iff_mem.1 hd)));have hfr:Region.free md ops listed i0=true:=free_more (List.all_eq_true.1 k6 i0 hT0) (fun j hj=>by
      by_cases hjl:j<ops.size
      ·have h1:(listed0.getD j false || (ancs md ops ops.size [i0]).contains j)=true:=by
        simpa [ancL,Array.getD,hjl] using hj
       rw [getD_ft (by omega)];rcases Bool.or_eq_true _ _ ▸ h1 with h1 | h1
       ·by_cases hjF:j ∈ F
        ·have h2:=(k3' j hjF).1;rw [getD_ft (by omega),h1] at h2;cases h2
        ·rw [hout j hjF];exact h1
       ·exact anc_listed hcl ops.size [i0] (fun k hk l hl=>by simp at hk;subst hk;exact hdl0 l hl) j (List.contains_iff_mem.1 h1)
      ·simp [Array.getD,show ¬j<listed.size by omega])
     have hnx:=(next i0 hi0F hi0l hdl0 v w (Below.refl _ _) hgv).2;have hdst:o.dst=dstOf ops i0:=by simp [dstOf,ho]
     rw [←hdst] at hnx;rw [show m'+1+fuel=(m'+fuel)+1 by omega];obtain ⟨d,hd⟩:∃d,o.dst=some d:=by
      have hi0D:=hi0F;rw [←hf] at hi0D;obtain ⟨⟨i',d⟩,hp,he⟩:=List.mem_map.1 hi0D;have h4:=List.all_eq_true.1 h3 _ hp;exact ⟨d,by rw [hdst,←he];exact beq_iff_eq.1 h4⟩
     exact wpAnyH_take ho hns hfr (by simpa using hrdy) (fun c a w h=>hQ0 c a d v w (by rw [←hd];exact h)) hy hw hnx
    rw [show m'+1+fuel=(m'+fuel)+1 by omega];refine ⟨fun h=>absurd h hne,fun i hi=>?_⟩;obtain ⟨hun,o,ho,hdep⟩:=mem_ready.1 hi;have hlt:i<ops.size:=(Array.getElem?_eq_some_iff.1 ho).1;have hlf:listed.getD i false=false:=by rw [←getD_ft (by omega)];exact hun
    have hdl:∀j,j ∈ depsOf md ops i→listed.getD j false=true:=fun j hj=>by
     obtain ⟨o',ho',e,he,hb',rfl⟩:=mem_deps.1 hj;have:o'=o:=Option.some.inj (ho'.symm.trans ho);subst this;exact hdep e he hb'
    by_cases hF:i ∈ F
    case neg =>
     exfalso;have h1:=hout i hF;rw [hlf] at h1;rcases k4' i hlt with h | h | h
     ·rw [h] at h1;cases h1
     ·exact hF h
     ·rcases (k5' i h).2 with ⟨j,hj,hjs⟩ | hanc
      ·have h2:=hdl j hj;have h3:=k5' j hjs;by_cases hjF:j ∈ F
       ·exact (k3' j hjF).2.2.1 hjs
       ·rw [hout j hjF] at h2;have h4:=h3.1;have hjl:j<listed0.size:=by
         rcases Nat.lt_or_ge j listed0.size with h | h
         ·exact h
         ·simp [Array.getElem?_eq_none h] at h2
        rw [getD_ft hjl,h2] at h4;cases h4
      ·have hE0:i0 ∈ E:=(inE i0 hi0F).resolve_right hT0;have:=anc_listed hcl ops.size [i] (fun k hk l hl=>by simp at hk;subst hk;exact hdl l hl) i0 (hanc i0 hE0);rw [hi0l] at this;cases this
    have hdst:o.dst=dstOf ops i:=by simp [dstOf,ho]
    rcases inE i hF with hE | hTi
    ·obtain ⟨o',ho',hst⟩:=hstep i hE;obtain rfl:o'=o:=Option.some.inj (ho'.symm.trans ho);refine wpOp_of ho ?_;refine hst u w hw hb (fun j hj hd=>hg j (List.contains_iff_mem.1 hj) (hdl j (List.contains_iff_mem.1 hd))) _ (fun v w' hb' hgi=>?_);rw [hdst];exact next i hF hlf hdl v w' hb' hgi
    ·obtain ⟨o',ho',hv⟩:=htake i hTi;obtain rfl:o'=o:=Option.some.inj (ho'.symm.trans ho);obtain ⟨v,hy,hgv⟩:=hv u w hw (fun j hj hd=>hg j (List.contains_iff_mem.1 hj) (hdl j (List.contains_iff_mem.1 hd)));refine hy.wpOp ho hw ?_;rw [hdst];exact next i hF hlf hdl v w (Below.refl _ _) hgv
 have hleft:left listed0 F=F.length:=left_all (fun i hi=>by
  have h1:=(k3' i hi).1;have h2:=(k3' i hi).2.1;rw [getD_ft (by omega)] at h1;exact h1)
 have:=main (left listed0 F) listed0 (lies a0 D) w0 (Nat.le_refl _) k1 (fun _ _=>rfl) k2' hS0 (Below.refl _ _) (fun j hj hl=>by
  have h1:=(k3' j hj).1;have h2:=(k3' j hj).2.1;rw [getD_ft (by omega),hl] at h1;cases h1) F.length hleft.symm
 rw [h0] at this;exact this
def RnE (K:Nat) (w:World) (s:Bool) (x:Option Addr) (n c:Nat) (y:Option Addr) (m d:Nat) (q:Rat):Prop:=∃f g,Rn K w s x n c f y m d g q
theorem RnE.below {K w w' s x n c y m d q} (h:RnE K w s x n c y m d q) (hb:Below w.heap.size w w'):RnE K w' s x n c y m d q:=by obtain ⟨f,g,h⟩:=h;exact ⟨f,g,Rn.below h hb⟩
theorem RnE.kp {K w w' s x n c y m d q} (h:RnE K w s x n c y m d q) (hb:Kp w w'):RnE K w' s x n c y m d q:=by obtain ⟨f,g,h⟩:=h;exact ⟨f,g,Rn.kp h hb⟩
theorem cell_ne {w w':World} {B b j:Nat} {v:Value} (hx:∀k,k≠B→w'.heap[k]?=w.heap[k]?) (hne:b≠B) (h:w.cell? ⟨b,j,none⟩=some v):w'.cell? ⟨b,j,none⟩=some v:=by
 simp only [World.cell?,hx b hne] at h ⊢;exact h
def GTw (K:Nat) (N:Mo) (v:Value) (w:World):Prop:=∃M':Mo,v=M'.val∧TmK K w N M'
def GTx (k:Nat) (X:Nat→Nm) (v:Value) (w:World):Prop:=∃a c Z,v=.slice a k c∧Tx w a k X Z
def GRa (K:Nat) (q:Rat) (v:Value) (w:World):Prop:=∃bs bx bn bc by_ bm bd,v=.agg #[.bool bs,.slice bx bn bc,.slice by_ bm bd]∧RnE K w bs bx bn bc by_ bm bd q
def GEx (K:Nat) (i:Int) (q:Rat) (v:Value) (w:World):Prop:=∃bs bx bn bc by_ bm bd,v=.agg #[.int .i64 i,.bool bs,.slice bx bn bc,.slice by_ bm bd]∧RnE K w bs bx bn bc by_ bm bd q
def GT2v (G:Value→World→Prop) (b:Value) (v:Value) (w:World):Prop:=∃a,v=.tuple #[a,b]∧G a w
def GIs (x:Value) (v:Value) (_:World):Prop:=v=x
def GBx (base:Nat) (zs:List Value) (ty:TypeId) (v:Value) (w:World):Prop:=∃bx,v=.pointer (some ⟨bx,0,none⟩)∧Bk w bx zs ty∧base≤bx
theorem GTw.below {K N v w w'} (h:GTw K N v w) (hb:Below w.heap.size w w'):GTw K N v w':=by obtain ⟨M',e,h⟩:=h;exact ⟨M',e,h.below hb⟩
theorem GTx.below {k X v w w'} (h:GTx k X v w) (hb:Below w.heap.size w w'):GTx k X v w':=by obtain ⟨a,c,Z,e,h⟩:=h;exact ⟨a,c,Z,e,h.below hb⟩
theorem GRa.below {K q v w w'} (h:GRa K q v w) (hb:Below w.heap.size w w'):GRa K q v w':=by obtain ⟨a,b,c,d,e,f,g,e1,h⟩:=h;exact ⟨a,b,c,d,e,f,g,e1,h.below hb⟩
theorem GEx.below {K i q v w w'} (h:GEx K i q v w) (hb:Below w.heap.size w w'):GEx K i q v w':=by obtain ⟨a,b,c,d,e,f,g,e1,h⟩:=h;exact ⟨a,b,c,d,e,f,g,e1,h.below hb⟩
theorem GT2v.below {G:Value→World→Prop} {b v w w'} (hG:∀a,G a w→G a w') (h:GT2v G b v w):GT2v G b v w':=by obtain ⟨a,e,h⟩:=h;exact ⟨a,e,hG a h⟩
theorem GBx.below {base zs ty v w w'} (h:GBx base zs ty v w) (hb:Below w.heap.size w w'):GBx base zs ty v w':=by obtain ⟨b,e,h,l⟩:=h;exact ⟨b,e,h.below hb,l⟩
end Go.Proofs.YtankbgpcnljjdaaGreat
