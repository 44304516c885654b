/-
 A model that is well formed has values; the walks of the reference's Crossed and DocCrossed (written by makers/f33.py). The walk of the law ModelNames (written by makers/f28.py). The walk of law17's awake, and of StackNew (written by makers/o5.py). The walks of the reference's Same of points, of certificates and of bases that are alike; of the calls of a nil stack; of StackNone (written by makers/o6.py). Lists of numbers that are copies; the walk of law17's lists, and what it answers. Twins have the same values; what adds up along directions. The walks of law13's light, of the reference's Twin of a ray (written by makers/ra7.py). Ray's calls on twins of a model and of lists, by what the model and the lists are; the sum of two directions. Along a direction that recedes points stay points, and values move by the slope. Point's calls on twins, and on what lies along a direction. Calls on twins whose numbers are of at most K limbs, by what they are twins of. Law12's light, the reference's Twin of a certificate; farkas' calls on twins (written by makers/fk10.py). What multipliers show of a point; crossed bounds have multipliers that show that there is none. The walk of the reference's DocAlong, whatever it is handed (written by makers/rd1.py). Law12's add; farkas' calls on certificates that add up (written by makers/fk13.py). A drawn region as a flow in which some operations (T: they only read, or take values apart) are carried out as soon as they can be: so that what comes last need not wait for them. No Go text is named here. Values of a flow: twins, answers with a number, boxes. The walk of the law FarkasShows (written by makers/fk12.py).
-/
import Derived.Test.YtffblgeappcadaaGreatZ11
import Derived.Test.YtffblgeappcadaaGreatZ14
import Derived.Test.YtffblgeappcadaaGreatZ0
import Derived.Test.YtffblgeappcadaaGreatZ12
import Derived.Test.YtffblgeappcadaaGreatZ7
import Derived.Test.YtffblgeappcadaaGreatZ9
import Derived.Test.YtffblgeappcadaaGreatZ10
namespace Go.Proofs.YtffblgeappcadaaGreat
open Go.RowKit
theorem NmS.val {w:World} {t:Nm} {K:Nat} (h:NmS w t) (hf:nfB t=true) (hk:t.n≤K∧t.m≤K):NmV K w t (nq t):=by
 obtain ⟨q,hq⟩:=Nm.rn h hf hk.1 hk.2;rw [hq.nq];exact hq
def cvOf (c:Lc):CV:=⟨c.nm,nq c.cost,c.lo.i,nq c.lo.v,c.hi.i,nq c.hi.v⟩
def rvOf (r:Lr):RV:=⟨r.nm,r.lo.i,nq r.lo.v,r.hi.i,nq r.hi.v,(List.range r.tk).map (fun p=>(r.col p,nq (r.T p)))⟩
theorem range_at {α:Type} {f:Nat→α} {n j:Nat} {v:α} (h:((List.range n).map f)[j]?=some v):j<n∧v=f j:=by
 have hlt:j<n:=by have:=(List.getElem?_eq_some_iff.1 h).1;simpa using this
 simp [hlt] at h;exact ⟨hlt,h.symm⟩
theorem range_get {α:Type} {f:Nat→α} {n j:Nat} (h:j<n):((List.range n).map f)[j]?=some (f j):=by simp [h]
theorem bd_of {w:World} {a b:Ex} {K:Nat} (ha:NmS w a.v) (hb:NmS w b.v) (ka:a.v.n≤K∧a.v.m≤K) (kb:b.v.n≤K∧b.v.m≤K) (h:abB a b=true):NmV K w a.v (nq a.v)∧NmV K w b.v (nq b.v)∧bdB a.i (nq a.v) b.i (nq b.v)=true:=by
 obtain ⟨f1,f2,h1,h2⟩:=abB_ok h;simp only [exF,efB,Bool.and_eq_true,Bool.or_eq_true,decide_eq_true_eq] at f1 f2;have v1:NmV K w a.v (nq a.v):=ha.val f1.1 ka;have v2:NmV K w b.v (nq b.v):=hb.val f2.1 kb;refine ⟨v1,v2,?_⟩;simp only [bdB,Bool.and_eq_true,Bool.or_eq_true,decide_eq_true_eq];constructor
 ·rcases f1.2 with h | ⟨h | h,h3⟩
  ·exact .inl h
  ·exact .inr ⟨h,(Rn.q_zero v1).2 h3⟩
  ·exact absurd h h1
 ·rcases f2.2 with h | ⟨h | h,h3⟩
  ·exact .inl h
  ·exact absurd h h2
  ·exact .inr ⟨h,(Rn.q_zero v2).2 h3⟩
theorem ts_of {w:World} {col:Nat→Int} {T:Nat→Nm} {n K:Nat}:∀{r i:Nat} {last:Int},tfr col T r i last=true→(∀p,i≤p→p<i+r→col p<(n:Int))→(∀p,i≤p→p<i+r→NmV K w (T p) (nq (T p)))→tsB n last ((List.range' i r).map (fun p=>(col p,nq (T p))))=true
 | 0,i,last,_,_,_=>rfl
 | r+1,i,last,h,hc,hv=>by
  simp only [tfr,Bool.and_eq_true,decide_eq_true_eq] at h;rw [List.range'_succ,List.map_cons];simp only [tsB,Bool.and_eq_true,decide_eq_true_eq];refine ⟨h.1,hc i (by omega) (by omega),fun e=>?_,ts_of h.2.2.2 (fun p a b=>hc p (by omega) (by omega)) (fun p a b=>hv p (by omega) (by omega))⟩;have:=(Rn.q_zero (hv i (by omega) (by omega))).1 e;omega
def csOf (M:Mo):List CV:=(List.range M.ck).map (fun j=>cvOf (M.C j))
def rsOf (M:Mo):List RV:=(List.range M.rk).map (fun j=>rvOf (M.R j))
theorem MoR.movC {w M K} (h:MoR w M) (hk:MoK K M) (he:chkE M=0):MoV K w M (nq M.off) (csOf M) (rsOf M)∧mvOk (csOf M) (rsOf M)=true:=by
 obtain ⟨l1,l2,hF,n1,n2,t1,t2,hAl⟩:=chkE_ok he;simp only [moF,Bool.and_eq_true] at hF;obtain ⟨hF0,hFC,hFR⟩:=hF;have hcol:∀j,j<M.ck→ColV K w (M.C j) (cvOf (M.C j))∧bdB (cvOf (M.C j)).li (cvOf (M.C j)).lq (cvOf (M.C j)).hi (cvOf (M.C j)).hq=true:=fun j hj=>by
  obtain ⟨_,_,_,_,hn⟩:=h.cls j hj;obtain ⟨f1,f2⟩:=clsB_at hFC j (by omega) (by omega);have k:=hk.c j hj;obtain ⟨v1,v2,hb⟩:=bd_of hn.lo hn.hi k.2.1 k.2.2 f2;exact ⟨⟨rfl,hn.cost.val f1 k.1,rfl,v1,rfl,v2⟩,hb⟩
 have hrow:∀j,j<M.rk→RowV K w (M.R j) (rvOf (M.R j))∧bdB (rvOf (M.R j)).li (rvOf (M.R j)).lq (rvOf (M.R j)).hi (rvOf (M.R j)).hq=true∧tsB M.ck (-1) (rvOf (M.R j)).ts=true:=fun j hj=>by
  obtain ⟨_,_,_,_,hn⟩:=h.rls j hj;obtain ⟨f1,f2⟩:=rlsB_at hFR j (by omega) (by omega);have k:=hk.r j hj;obtain ⟨v1,v2,hb⟩:=bd_of hn.lo hn.hi k.1 k.2.1 f1;have hall:=(tfr_all f2).1;have hv:∀p,p<(M.R j).tk→NmV K w ((M.R j).T p) (nq ((M.R j).T p)):=fun p hp=>by
   obtain ⟨_,_,_,_,hr⟩:=hn.tl p hp;exact NmS.val hr (hall p (by omega) (by omega)).2.1 (k.2.2.2 p hp)
  refine ⟨⟨rfl,rfl,v1,rfl,v2,by simp [rvOf],fun p z q e=>?_⟩,hb,?_⟩
  ·obtain ⟨hp,e'⟩:=range_at e;obtain ⟨b,o,ea,c4,_⟩:=hn.tl p hp;cases e'
   exact ⟨rfl,hv p hp,b,o,ea,c4⟩
  ·show tsB M.ck (-1) ((List.range (M.R j).tk).map _)=true;rw [List.range_eq_range'];exact ts_of f2 (fun p _ hp=>(cols_at f2 (alB_at hAl j (by omega) (by omega)) p (by omega)).2) (fun p _ hp=>hv p (by omega))
 unfold csOf rsOf;refine ⟨⟨h.off.val hF0 hk.off,by simp,by simp,fun j v e=>?_,fun j v e=>?_⟩,?_⟩
 ·obtain ⟨hj,rfl⟩:=range_at e;obtain ⟨b,o,ea,hc,_⟩:=h.cls j hj;exact ⟨⟨b,o,ea,hc⟩,(hcol j hj).1⟩
 ·obtain ⟨hj,rfl⟩:=range_at e;obtain ⟨b,o,ea,hc,_⟩:=h.rls j hj;exact ⟨⟨b,o,ea,hc⟩,(hrow j hj).1⟩
 ·have ec:∀j,j<M.ck→nmC ((List.range M.ck).map (fun j=>cvOf (M.C j))) j=(M.C j).nm:=fun j hj=>by unfold nmC;rw [range_get hj];rfl
  have er:∀j,j<M.rk→nmR ((List.range M.rk).map (fun j=>rvOf (M.R j))) j=(M.R j).nm:=fun j hj=>by unfold nmR;rw [range_get hj];rfl
  simp only [mvOk,Bool.and_eq_true,decide_eq_true_eq,List.all_eq_true,List.length_map,List.length_range,Bool.not_eq_true'];refine ⟨l1,l2,fun v hv=>?_,fun v hv=>?_,?_,?_,?_,?_⟩
  ·obtain ⟨j,hj,rfl⟩:=List.mem_map.1 hv;exact (hcol j (List.mem_range.1 hj)).2
  ·obtain ⟨j,hj,rfl⟩:=List.mem_map.1 hv;have:=hrow j (List.mem_range.1 hj);refine ⟨this.2.1,this.2.2,?_⟩;have h3:=(hk.r j (List.mem_range.1 hj)).2.2.1;simp [rvOf];omega
  ·rw [nms_congr (S':=fun j=>(M.C j).nm) (fun j _ hj=>ec j (by omega))];exact n1
  ·rw [nms_congr (S':=fun j=>(M.R j).nm) (fun j _ hj=>er j (by omega))];exact n2
  ·rw [twr_congr (S':=fun j=>(M.C j).nm) (fun j hj=>ec j (by omega))];exact t1
  ·rw [twr_congr (S':=fun j=>(M.R j).nm) (fun j hj=>er j (by omega))];exact t2
theorem FnT.of {K w} {e:Ex} {i:Int} {q:Rat} (h:QnT K w e.v q) (hi:e.i=i) (hb:i=0∨(i=-1∨i=1)∧q=0):Fn w e.i e.v.s e.v.x e.v.n e.v.f e.v.y e.v.m e.v.g q:=⟨h.2.2,by rw [hi];exact hb⟩
theorem twin_w {w:World} {M:Mo} {K:Nat} (hX:MoX w M) (hN:MoN M) (hk:M.ck≤64→M.rk≤64→MoK K M) (hK:K≤65536):Calls Tryz.prog 10 #[M.val] w fun e w'=>∃M':Mo,e=.returned M'.val∧Below w.heap.size w w'∧Sm M M'∧MoW w' M'∧MoX w' M'∧(M'.ck≤64→M'.rk≤64→MoK K M') :=
 (mTwin_c hX).mono fun e w' ⟨M',h1,h2,h3,h4⟩=>⟨M',h1,h2,h3,fun a b=>h4.mor (h3.mon hN) (h3.mok (hk (by rw [←h3.ck];exact a) (by rw [←h3.rk];exact b))) hK a b,h4,fun a b=>h3.mok (hk (by rw [←h3.ck];exact a) (by rw [←h3.rk];exact b))⟩
theorem lgM_k {K:Nat} {M:Mo} (h:lgM K M=true):M.ck≤64→M.rk≤64→MoK K M:=fun a b=>lgM_at h a b
theorem El.below {w w' ao k E} (h:El w ao k E) (hb:Below w.heap.size w w'):El w' ao k E:=fun j hj=>by
 obtain ⟨b,o,e,h1⟩:=h j hj;exact ⟨b,o,e,kCb hb h1⟩
theorem Sn.trans {a b c:Nm} (h:Sn a b) (k:Sn b c):Sn a c:=by
 obtain ⟨h1,h2,h3,h4,h5⟩:=h;obtain ⟨k1,k2,k3,k4,k5⟩:=k;exact ⟨k1.trans h1,k2.trans h2,k3.trans h3,k4.trans h4,k5.trans h5⟩
theorem Sn.nq {t t':Nm} (h:Sn t t'):nq t'=nq t:=by
 obtain ⟨h1,h2,h3,h4,h5⟩:=h;unfold Go.Proofs.YtffblgeappcadaaGreat.nq;rw [h1,h2,h3,h4,h5]
theorem Sm.csOf {M M':Mo} (h:Sm M M'):csOf M'=csOf M:=by
 unfold Go.Proofs.YtffblgeappcadaaGreat.csOf;rw [h.ck];refine List.map_congr_left (fun j hj=>?_);have p:=h.C j (List.mem_range.1 hj);unfold cvOf;rw [p.nm,p.cost.nq,p.li,p.lo.nq,p.hi,p.hv.nq]
theorem Sm.rsOf {M M':Mo} (h:Sm M M'):rsOf M'=rsOf M:=by
 unfold Go.Proofs.YtffblgeappcadaaGreat.rsOf;rw [h.rk];refine List.map_congr_left (fun j hj=>?_);have p:=h.R j (List.mem_range.1 hj);unfold rvOf;rw [p.nm,p.li,p.lo.nq,p.hi,p.hv.nq,p.tk,p.col]
 congr 1
 exact List.map_congr_left (fun q hq=>by rw [(p.T q (List.mem_range.1 hq)).nq])
def psOf (k:Nat) (X:Nat→Nm):List Rat:=(List.range k).map (fun j=>nq (X j))
theorem psOf_len (k:Nat) (X:Nat→Nm):(psOf k X).length=k:=by simp [psOf]
theorem psOf_sn {k:Nat} {X X':Nat→Nm} (h:∀j,j<k→Sn (X j) (X' j)):psOf k X'=psOf k X:=List.map_congr_left (fun j hj=>(h j (List.mem_range.1 hj)).nq)
theorem Rl.rfC {w:World} {ao:Option Addr} {k K:Nat} {X:Nat→Nm} (h:Rl w ao k X) (hf:afB k X=true) (hk:∀j,j<k→(X j).n≤K∧(X j).m≤K):Rf K w ao (psOf k X):=fun j q e=>by
 obtain ⟨hj,rfl⟩:=range_at e;obtain ⟨b,o,h1,h2,h3⟩:=h j hj;exact ⟨b,o,X j,h1,h2,NmS.val h3 (afr_all hf j (by omega) (by omega)) (hk j hj)⟩
theorem alng_get {xs ds:List Rat} {t:Rat} (j:Nat):(alng xs ds t)[j]?=(xs[j]?.bind fun x=>ds[j]?.map fun d=>0+x+t*d):=by
 unfold alng;rw [List.getElem?_zipWith];cases xs[j]? <;> cases ds[j]? <;> rfl
theorem alng_len {xs ds:List Rat} {t:Rat} (h:xs.length=ds.length):(alng xs ds t).length=xs.length:=by unfold alng;rw [List.length_zipWith,h,Nat.min_self]
def lgL (K k:Nat) (X:Nat→Nm):Bool:=decide (k≤300) && nlg K X k 0
theorem MoK.up {K L:Nat} {M:Mo} (h:MoK K M) (hL:K≤L):MoK L M:=by
 have e:∀{a b:Nat},a≤K∧b≤K→a≤L∧b≤L:=fun p=>⟨Nat.le_trans p.1 hL,Nat.le_trans p.2 hL⟩
 exact ⟨e h.off,fun j hj=>⟨e (h.c j hj).1,e (h.c j hj).2.1,e (h.c j hj).2.2⟩,fun j hj=>⟨e (h.r j hj).1,e (h.r j hj).2.1,(h.r j hj).2.2.1,fun p hp=>e ((h.r j hj).2.2.2 p hp)⟩⟩
theorem Rf.cut {K L:Nat} {w:World} {ao:Option Addr} {p:List Rat} (h:Rf K w ao p) (hp:∀q,q ∈ p→Lo L q):Rf L w ao p:=fun j q hj=>by
 obtain ⟨b,o,t,e,h1,h2⟩:=h j q hj;exact ⟨b,o,t,e,h1,h2.cut (hp q (List.mem_of_getElem? hj))⟩
theorem Rf.loM {K:Nat} {w:World} {ao:Option Addr} {p:List Rat} (h:Rf K w ao p):∀q,q ∈ p→Lo K q:=fun q hq=>by
 obtain ⟨j,hj⟩:=List.getElem?_of_mem hq;obtain ⟨b,o,t,e,h1,h2⟩:=h j q hj;exact h2.lo h2.ln h2.ld
theorem csOf_len (M:Mo):(csOf M).length=M.ck:=by simp [csOf]
def Tx (w:World) (ao:Option Addr) (k:Nat) (X X':Nat→Nm):Prop:=Rl w ao k X'∧∀j,j<k→Sn (X j) (X' j)
theorem Tx.below {w w' ao k X X'} (h:Tx w ao k X X') (hb:Below w.heap.size w w'):Tx w' ao k X X':=⟨h.1.below hb,h.2⟩
def Sh (k:Nat) (X:Nat→Nm):Prop:=k≤300∧∀j,j<k→(X j).n≤6∧(X j).m≤6
theorem Tx.val {w ao k X X'} (h:Tx w ao k X X') (hs:Sh k X) (ha:afB k X=true):Rf 6 w ao (psOf k X):=by
 rw [←psOf_sn h.2];refine h.1.rfC ?_ (fun j hj=>by rw [(h.2 j hj).2.1,(h.2 j hj).2.2.2.1];exact hs.2 j hj);exact (afr_sn (fun j _ b=>h.2 j (by omega))).trans ha
def ShK (K k:Nat) (X:Nat→Nm):Prop:=k≤300∧∀j,j<k→(X j).n≤K∧(X j).m≤K
theorem lgL_shK {K k:Nat} {X:Nat→Nm} (h:lgL K k X=true):ShK K k X:=by
 simp only [lgL,Bool.and_eq_true,decide_eq_true_eq] at h;exact ⟨h.1,fun j hj=>nlg_all h.2 j (by omega) (by omega)⟩
def TmK (K:Nat) (w:World) (M M':Mo):Prop:=Sm M M'∧MoW w M'∧MoX w M'∧(M'.ck≤64→M'.rk≤64→MoK K M')
theorem TmK.below {K w w' M M'} (h:TmK K w M M') (hb:Below w.heap.size w w'):TmK K w' M M':=⟨h.1,h.2.1.below hb,h.2.2.1.below hb,h.2.2.2⟩
theorem TmK.valL {K w M M'} (L:Nat) (hL:K≤L) (hK:K≤100) (h:TmK K w M M') (hN:MoN M) (he:chkE M=0):MoV L w M' (nq M.off) (csOf M) (rsOf M)∧mvOk (csOf M) (rsOf M)=true:=by
 obtain ⟨s,hw,hx,hk⟩:=h;have he':chkE M'=0:=s.chk.trans he;obtain ⟨l1,l2,_⟩:=chkE_ok he';have k6:=hk l1 l2;have:=(hx.mor (s.mon hN) k6 (by omega) l1 l2).movC (k6.up hL) he';rw [s.csOf,s.rsOf,s.off.nq] at this;exact this
theorem Tx.valK {K w ao k X X'} (h:Tx w ao k X X') (hs:ShK K k X) (ha:afB k X=true):Rf K w ao (psOf k X):=by
 rw [←psOf_sn h.2];refine h.1.rfC ?_ (fun j hj=>by rw [(h.2 j hj).2.1,(h.2 j hj).2.2.2.1];exact hs.2 j hj);exact (afr_sn (fun j _ b=>h.2 j (by omega))).trans ha
theorem twinTmK_c {K:Nat} {w:World} {M:Mo} (hX:MoX w M) (hN:MoN M) (hk:M.ck≤64→M.rk≤64→MoK K M) (hK:K≤100):Calls Tryz.prog 10 #[M.val] w fun e w'=>∃(vm:Value) (M':Mo),e=.returned vm∧Below w.heap.size w w'∧Hid (vm=M'.val∧TmK K w' M M') :=
 (twin_w (K:=K) hX hN hk (by omega)).mono fun e w' ⟨M',h1,h2,h3,h4,h5,h6⟩=>⟨M'.val,M',h1,h2,hid ⟨rfl,h3,h4,h5,h6⟩⟩
theorem twinsTxK_c {K:Nat} {w:World} {ao:Option Addr} {k cap:Nat} {X:Nat→Nm} (h:Rl w ao k X) (hs:ShK K k X) (hK:K≤100):Calls Tryz.prog 40 #[.slice ao k cap] w fun e w'=>∃(a:Option Addr) (c:Nat) (X':Nat→Nm),e=.returned (.slice a k c)∧Below w.heap.size w w'∧(k≤c∧c≤9223372036854775807)∧Hid (Tx w' a k X X') :=
 (twins_c h (by have:=hs.1;omega) (fun j hj=>by have:=hs.2 j hj;omega)).mono fun e w' ⟨a,c,X',h1,h2,h3,h4⟩=>⟨a,c,X',h1,h2,h3,hid h4.out⟩
set_option maxRecDepth 100000 in
set_option maxHeartbeats 4000000 in
theorem light12_c {w:World} {a0 a1 a2 a3:Option Addr} {k0 c0 k1 c1 k2 c2 k3 c3:Nat} {X0 X1 X2 X3:Nat→Nm} (K:Nat) (h0:Rr w a0 k0 X0) (h1:Rr w a1 k1 X1) (h2:Rr w a2 k2 X2) (h3:Rr w a3 k3 X3) (b0:k0≤9223372036854775807) (b1:k1≤9223372036854775807) (b2:k2≤9223372036854775807) (b3:k3≤9223372036854775807) :
  Calls Tryz.prog 6 #[.agg #[.slice a0 k0 c0,.slice a1 k1 c1,.slice a2 k2 c2,.slice a3 k3 c3],.int .i64 K] w fun e w'=>e=.returned (.bool (lgL K k0 X0 && (lgL K k1 X1 && (lgL K k2 X2 && lgL K k3 X3))))∧Below w.heap.size w w':=by
 have C0:Hid (∀W,Below w.heap.size w W→Calls Tryz.prog 22 #[.slice a0 k0 c0,.int .i64 K] W fun e w'=>e=.returned (.bool (lgL K k0 X0))∧Below W.heap.size W w'):=fun W hW=>rLights_c K (h0.below hW) b0
 have C1:Hid (∀W,Below w.heap.size w W→Calls Tryz.prog 22 #[.slice a1 k1 c1,.int .i64 K] W fun e w'=>e=.returned (.bool (lgL K k1 X1))∧Below W.heap.size W w'):=fun W hW=>rLights_c K (h1.below hW) b1
 have C2:Hid (∀W,Below w.heap.size w W→Calls Tryz.prog 22 #[.slice a2 k2 c2,.int .i64 K] W fun e w'=>e=.returned (.bool (lgL K k2 X2))∧Below W.heap.size W w'):=fun W hW=>rLights_c K (h2.below hW) b2
 have C3:Hid (∀W,Below w.heap.size w W→Calls Tryz.prog 22 #[.slice a3 k3 c3,.int .i64 K] W fun e w'=>e=.returned (.bool (lgL K k3 X3))∧Below W.heap.size W w'):=fun W hW=>rLights_c K (h3.below hW) b3
 obtain ⟨p0,hp0⟩:∃p,lgL K k0 X0=p:=⟨_,rfl⟩;rw [hp0] at C0 ⊢;obtain ⟨p1,hp1⟩:∃p,lgL K k1 X1=p:=⟨_,rfl⟩;rw [hp1] at C1 ⊢;obtain ⟨p2,hp2⟩:∃p,lgL K k2 X2=p:=⟨_,rfl⟩;rw [hp2] at C2 ⊢;obtain ⟨p3,hp3⟩:∃p,lgL K k3 X3=p:=⟨_,rfl⟩;rw [hp3] at C3 ⊢;clear h0 h1 h2 h3 hp0 hp1 hp2 hp3;have BK:Hid (Bk (w.alloc (.cells #[.slice a0 k0 c0,.slice a1 k1 c1,.slice a2 k2 c2,.slice a3 k3 c3] 31)) w.heap.size [.slice a0 k0 c0,.slice a1 k1 c1,.slice a2 k2 c2,.slice a3 k3 c3] 31):=bk_new w [.slice a0 k0 c0,.slice a1 k1 c1,.slice a2 k2 c2,.slice a3 k3 c3] 31;have HB:=hid (below_alloc (Below.refl w.heap.size w) (.cells #[.slice a0 k0 c0,.slice a1 k1 c1,.slice a2 k2 c2,.slice a3 k3 c3] 31));go_enter Tryz.func6,Tryz.ntmps6;have t0:=BK.out.cell (j:=0) rfl;go_wp2_with fail
 clear t0;generalize (w.alloc (.cells #[.slice a0 k0 c0,.slice a1 k1 c1,.slice a2 k2 c2,.slice a3 k3 c3] 31))=w0 at *;refine (C0.out _ HB.out).mono ?_;rintro e v0 ⟨rfl,hb⟩;replace HB:=hid (HB.out.trans (hb.mono HB.out.size));replace BK:=hid (BK.out.below hb)
 clear hb;cases p0
 ·go_wp2;go_ret;exact ⟨by simp,HB.out⟩
 have t1:=BK.out.cell (j:=1) rfl;go_wp2_with fail
 clear t1;refine (C1.out _ HB.out).mono ?_;rintro e v1 ⟨rfl,hb⟩;replace HB:=hid (HB.out.trans (hb.mono HB.out.size));replace BK:=hid (BK.out.below hb)
 clear hb;cases p1
 ·go_wp2;go_ret;exact ⟨by simp,HB.out⟩
 have t2:=BK.out.cell (j:=2) rfl;go_wp2_with fail
 clear t2;refine (C2.out _ HB.out).mono ?_;rintro e v2 ⟨rfl,hb⟩;replace HB:=hid (HB.out.trans (hb.mono HB.out.size));replace BK:=hid (BK.out.below hb)
 clear hb;cases p2
 ·go_wp2;go_ret;exact ⟨by simp,HB.out⟩
 have t3:=BK.out.cell (j:=3) rfl;go_wp2_with fail
 clear t3;refine (C3.out _ HB.out).mono ?_;rintro e v3 ⟨rfl,hb⟩;replace HB:=hid (HB.out.trans (hb.mono HB.out.size));replace BK:=hid (BK.out.below hb)
 clear hb;go_wp2;go_ret;exact ⟨by simp,HB.out⟩
structure T4 (w:World) (b0 b1 b2 b3:Option Addr) (k0:Nat) (X0 Y0:Nat→Nm) (k1:Nat) (X1 Y1:Nat→Nm) (k2:Nat) (X2 Y2:Nat→Nm) (k3:Nat) (X3 Y3:Nat→Nm):Prop where
 t0:Tx w b0 k0 X0 Y0
 t1:Tx w b1 k1 X1 Y1
 t2:Tx w b2 k2 X2 Y2
 t3:Tx w b3 k3 X3 Y3
theorem T4.below {w w' b0 b1 b2 b3 k0 X0 Y0 k1 X1 Y1 k2 X2 Y2 k3 X3 Y3} (h:T4 w b0 b1 b2 b3 k0 X0 Y0 k1 X1 Y1 k2 X2 Y2 k3 X3 Y3) (hb:Below w.heap.size w w'):T4 w' b0 b1 b2 b3 k0 X0 Y0 k1 X1 Y1 k2 X2 Y2 k3 X3 Y3:=⟨h.t0.below hb,h.t1.below hb,h.t2.below hb,h.t3.below hb⟩
set_option maxRecDepth 100000 in
set_option maxHeartbeats 8000000 in
theorem twin12_c {w:World} {K:Nat} {a0 a1 a2 a3:Option Addr} {k0 c0 k1 c1 k2 c2 k3 c3:Nat} {X0 X1 X2 X3:Nat→Nm} (h0:Rl w a0 k0 X0) (h1:Rl w a1 k1 X1) (h2:Rl w a2 k2 X2) (h3:Rl w a3 k3 X3) (s0:ShK K k0 X0) (s1:ShK K k1 X1) (s2:ShK K k2 X2) (s3:ShK K k3 X3) (hK:K≤100) :
  Calls Tryz.prog 11 #[.agg #[.slice a0 k0 c0,.slice a1 k1 c1,.slice a2 k2 c2,.slice a3 k3 c3]] w fun e w'=>∃b0 d0 Y0 b1 d1 Y1 b2 d2 Y2 b3 d3 Y3,e=.returned (.agg #[.slice b0 k0 d0,.slice b1 k1 d1,.slice b2 k2 d2,.slice b3 k3 d3])∧Below w.heap.size w w'∧Hid (T4 w' b0 b1 b2 b3 k0 X0 Y0 k1 X1 Y1 k2 X2 Y2 k3 X3 Y3):=by
 have C0:=hid (fun W (hW:Below w.heap.size w W)=>twinsTxK_c (cap:=c0) (h0.below hW) s0 hK);have C1:=hid (fun W (hW:Below w.heap.size w W)=>twinsTxK_c (cap:=c1) (h1.below hW) s1 hK);have C2:=hid (fun W (hW:Below w.heap.size w W)=>twinsTxK_c (cap:=c2) (h2.below hW) s2 hK);have C3:=hid (fun W (hW:Below w.heap.size w W)=>twinsTxK_c (cap:=c3) (h3.below hW) s3 hK);clear h0 h1 h2 h3;generalize hP:(fun (e:Ending) (w':World)=>∃b0 d0 Y0 b1 d1 Y1 b2 d2 Y2 b3 d3 Y3,e=.returned (.agg #[.slice b0 k0 d0,.slice b1 k1 d1,.slice b2 k2 d2,.slice b3 k3 d3])∧Below w.heap.size w w'∧Hid (T4 w' b0 b1 b2 b3 k0 X0 Y0 k1 X1 Y1 k2 X2 Y2 k3 X3 Y3))=P;have HA:Hid (∀b0 d0 Y0 b1 d1 Y1 b2 d2 Y2 b3 d3 Y3 w',Below w.heap.size w w'→T4 w' b0 b1 b2 b3 k0 X0 Y0 k1 X1 Y1 k2 X2 Y2 k3 X3 Y3→P (.returned (.agg #[.slice b0 k0 d0,.slice b1 k1 d1,.slice b2 k2 d2,.slice b3 k3 d3])) w'):=by subst hP;exact fun b0 d0 Y0 b1 d1 Y1 b2 d2 Y2 b3 d3 Y3 w' x y=>⟨b0,d0,Y0,b1,d1,Y1,b2,d2,Y2,b3,d3,Y3,rfl,x,hid y⟩
 clear hP;have hb:=below_alloc (below_alloc (Below.refl w.heap.size w) (.cells #[.slice a0 k0 c0,.slice a1 k1 c1,.slice a2 k2 c2,.slice a3 k3 c3] 31)) (.cells #[.slice none 0 0,.slice none 0 0,.slice none 0 0,.slice none 0 0] 31);have BK:Hid (Bk ((w.alloc (.cells #[.slice a0 k0 c0,.slice a1 k1 c1,.slice a2 k2 c2,.slice a3 k3 c3] 31)).alloc (.cells #[.slice none 0 0,.slice none 0 0,.slice none 0 0,.slice none 0 0] 31)) w.heap.size [.slice a0 k0 c0,.slice a1 k1 c1,.slice a2 k2 c2,.slice a3 k3 c3] 31):=(bk_new w [.slice a0 k0 c0,.slice a1 k1 c1,.slice a2 k2 c2,.slice a3 k3 c3] 31).below (below_alloc (Below.refl _ _) _);have BR:Hid (Bk ((w.alloc (.cells #[.slice a0 k0 c0,.slice a1 k1 c1,.slice a2 k2 c2,.slice a3 k3 c3] 31)).alloc (.cells #[.slice none 0 0,.slice none 0 0,.slice none 0 0,.slice none 0 0] 31)) (w.heap.size+1) [.slice none 0 0,.slice none 0 0,.slice none 0 0,.slice none 0 0] 31):=by
  have:=bk_new (w.alloc (.cells #[.slice a0 k0 c0,.slice a1 k1 c1,.slice a2 k2 c2,.slice a3 k3 c3] 31)) [.slice none 0 0,.slice none 0 0,.slice none 0 0,.slice none 0 0] 31;rw [size_alloc1] at this;exact this
 have HB:=hid hb;clear hb;go_enter Tryz.func11,Tryz.ntmps11;go_upto_region 1 with fail
 generalize ((w.alloc (.cells #[.slice a0 k0 c0,.slice a1 k1 c1,.slice a2 k2 c2,.slice a3 k3 c3] 31)).alloc (.cells #[.slice none 0 0,.slice none 0 0,.slice none 0 0,.slice none 0 0] 31))=w0 at *;have r0:=BK.out.cell (j:=0) rfl;have r1:=BK.out.cell (j:=1) rfl;have r2:=BK.out.cell (j:=2) rfl;have r3:=BK.out.cell (j:=3) rfl;refine wp_region_phase (S:=(fun w'=>w'.cell? ⟨w.heap.size,0,none⟩=some (.slice a0 k0 c0)∧w'.cell? ⟨w.heap.size,1,none⟩=some (.slice a1 k1 c1)∧w'.cell? ⟨w.heap.size,2,none⟩=some (.slice a2 k2 c2)∧w'.cell? ⟨w.heap.size,3,none⟩=some (.slice a3 k3 c3))) 13 (by kernel_rfl) ⟨kCd r0,kCd r1,kCd r2,kCd r3⟩ (fun hHeld=>?_);have hbd:=Below.drew (Below.refl w0.heap.size w0);replace HB:=hid (HB.out.trans (hbd.mono HB.out.size));replace BR:=hid (BR.out.below hbd)
 clear hbd r0 r1 r2 r3 BK;generalize w0.drew=u0 at *;refine wpAnyP_skim (i:=0) (v:=?_) rfl (by kernel_rfl) (by kernel_rfl) (by kernel_rfl) (by kernel_rfl) (fun _ _ _ h=>h) (Or.inl ⟨by rfl,?_⟩) (fun _=>by assumption) ?_;rotate_left
 (focus (intro w0 hSw;go_simp <;> with_reducible rfl))
 simp only [List.getElem_toArray,List.getElem_cons_zero,Act.put,List.setIfInBounds_toArray,List.set_cons_zero,List.set_cons_succ];refine wpAnyP_takeA (i:=1) (v:=?_) rfl (by kernel_rfl) (by kernel_rfl) (by kernel_rfl) (by kernel_rfl) (by kernel_rfl) (by kernel_rfl) (fun _ _ _ h=>h) (Or.inl ⟨by rfl,?_⟩) (by assumption) ?_;rotate_left
 (focus (intro w0 hSw;(try dsimp only at hSw);go_simp <;> with_reducible rfl))
 simp only [List.getElem_toArray,List.getElem_cons_succ,List.getElem_cons_zero,Act.put,List.setIfInBounds_toArray,List.set_cons_zero,List.set_cons_succ];refine wpAnyP_skim (i:=3) (v:=?_) rfl (by kernel_rfl) (by kernel_rfl) (by kernel_rfl) (by kernel_rfl) (fun _ _ _ h=>h) (Or.inl ⟨by rfl,?_⟩) (fun _=>by assumption) ?_;rotate_left
 (focus (intro w0 hSw;go_simp <;> with_reducible rfl))
 simp only [List.getElem_toArray,List.getElem_cons_succ,List.getElem_cons_zero,Act.put,List.setIfInBounds_toArray,List.set_cons_zero,List.set_cons_succ];refine wpAnyP_takeA (i:=4) (v:=?_) rfl (by kernel_rfl) (by kernel_rfl) (by kernel_rfl) (by kernel_rfl) (by kernel_rfl) (by kernel_rfl) (fun _ _ _ h=>h) (Or.inl ⟨by rfl,?_⟩) (by assumption) ?_;rotate_left
 (focus (intro w0 hSw;(try dsimp only at hSw);go_simp <;> with_reducible rfl))
 simp only [List.getElem_toArray,List.getElem_cons_succ,List.getElem_cons_zero,Act.put,List.setIfInBounds_toArray,List.set_cons_zero,List.set_cons_succ];refine wpAnyP_skim (i:=6) (v:=?_) rfl (by kernel_rfl) (by kernel_rfl) (by kernel_rfl) (by kernel_rfl) (fun _ _ _ h=>h) (Or.inl ⟨by rfl,?_⟩) (fun _=>by assumption) ?_;rotate_left
 (focus (intro w0 hSw;go_simp <;> with_reducible rfl))
 simp only [List.getElem_toArray,List.getElem_cons_succ,List.getElem_cons_zero,Act.put,List.setIfInBounds_toArray,List.set_cons_zero,List.set_cons_succ];refine wpAnyP_takeA (i:=7) (v:=?_) rfl (by kernel_rfl) (by kernel_rfl) (by kernel_rfl) (by kernel_rfl) (by kernel_rfl) (by kernel_rfl) (fun _ _ _ h=>h) (Or.inl ⟨by rfl,?_⟩) (by assumption) ?_;rotate_left
 (focus (intro w0 hSw;(try dsimp only at hSw);go_simp <;> with_reducible rfl))
 simp only [List.getElem_toArray,List.getElem_cons_succ,List.getElem_cons_zero,Act.put,List.setIfInBounds_toArray,List.set_cons_zero,List.set_cons_succ];refine wpAnyP_skim (i:=9) (v:=?_) rfl (by kernel_rfl) (by kernel_rfl) (by kernel_rfl) (by kernel_rfl) (fun _ _ _ h=>h) (Or.inl ⟨by rfl,?_⟩) (fun _=>by assumption) ?_;rotate_left
 (focus (intro w0 hSw;go_simp <;> with_reducible rfl))
 simp only [List.getElem_toArray,List.getElem_cons_succ,List.getElem_cons_zero,Act.put,List.setIfInBounds_toArray,List.set_cons_zero,List.set_cons_succ];refine wpAnyP_takeA (i:=10) (v:=?_) rfl (by kernel_rfl) (by kernel_rfl) (by kernel_rfl) (by kernel_rfl) (by kernel_rfl) (by kernel_rfl) (fun _ _ _ h=>h) (Or.inl ⟨by rfl,?_⟩) (by assumption) ?_;rotate_left
 (focus (intro w0 hSw;(try dsimp only at hSw);go_simp <;> with_reducible rfl))
 simp only [List.getElem_toArray,List.getElem_cons_succ,List.getElem_cons_zero,Act.put,List.setIfInBounds_toArray,List.set_cons_zero,List.set_cons_succ];refine wpAnyP_ready (rs:=[2]) (by kernel_rfl) (by simp) ?_;refine AllReadyP.cons (o:=_) rfl (fun K hK=>?_) ?_;rotate_left;exact AllReadyP.nil;go_simp
 go_at_call 40
 refine (C0.out _ HB.out).mono ?_;rintro e u1 ⟨b0,d0,Y0,rfl,hb,hc,hT⟩
 (try go_wp2_with fail)
 have m0:=And.intro (kCb hb (hHeld.1)) (And.intro (kCb hb (hHeld.2.1)) (And.intro (kCb hb (hHeld.2.2.1)) (kCb hb (hHeld.2.2.2))));refine hK.out _ _ (fun _=>m0) (fun hS9=>?_);clear hK K hS9;try simp only [Act.put,List.setIfInBounds_toArray,List.set_cons_zero,List.set_cons_succ]
 replace HB:=hid (HB.out.trans (hb.mono HB.out.size));replace BR:=hid (BR.out.below hb)
 have T0:=hid hT.out;clear hb hc hT;refine wpAnyP_ready (rs:=[5]) (by kernel_rfl) (by simp) ?_;refine AllReadyP.cons (o:=_) rfl (fun K hK=>?_) ?_;rotate_left;exact AllReadyP.nil;go_simp
 go_at_call 40
 refine (C1.out _ HB.out).mono ?_;rintro e u2 ⟨b1,d1,Y1,rfl,hb,hc,hT⟩
 (try go_wp2_with fail)
 have m1:=And.intro (kCb hb (m0.1)) (And.intro (kCb hb (m0.2.1)) (And.intro (kCb hb (m0.2.2.1)) (kCb hb (m0.2.2.2))));refine hK.out _ _ (fun _=>m1) (fun hS9=>?_);clear hK K hS9;try simp only [Act.put,List.setIfInBounds_toArray,List.set_cons_zero,List.set_cons_succ]
 replace HB:=hid (HB.out.trans (hb.mono HB.out.size));replace BR:=hid (BR.out.below hb);replace T0:=hid (T0.out.below hb)
 have T1:=hid hT.out;clear hb hc hT;refine wpAnyP_ready (rs:=[8]) (by kernel_rfl) (by simp) ?_;refine AllReadyP.cons (o:=_) rfl (fun K hK=>?_) ?_;rotate_left;exact AllReadyP.nil;go_simp
 go_at_call 40
 refine (C2.out _ HB.out).mono ?_;rintro e u3 ⟨b2,d2,Y2,rfl,hb,hc,hT⟩
 (try go_wp2_with fail)
 have m2:=And.intro (kCb hb (m1.1)) (And.intro (kCb hb (m1.2.1)) (And.intro (kCb hb (m1.2.2.1)) (kCb hb (m1.2.2.2))));refine hK.out _ _ (fun _=>m2) (fun hS9=>?_);clear hK K hS9;try simp only [Act.put,List.setIfInBounds_toArray,List.set_cons_zero,List.set_cons_succ]
 replace HB:=hid (HB.out.trans (hb.mono HB.out.size));replace BR:=hid (BR.out.below hb);replace T0:=hid (T0.out.below hb);replace T1:=hid (T1.out.below hb)
 have T2:=hid hT.out;clear hb hc hT;refine wpAnyP_ready (rs:=[11]) (by kernel_rfl) (by simp) ?_;refine AllReadyP.cons (o:=_) rfl (fun K hK=>?_) ?_;rotate_left;exact AllReadyP.nil;go_simp
 go_at_call 40
 refine (C3.out _ HB.out).mono ?_;rintro e u4 ⟨b3,d3,Y3,rfl,hb,hc,hT⟩
 (try go_wp2_with fail)
 have m3:=And.intro (kCb hb (m2.1)) (And.intro (kCb hb (m2.2.1)) (And.intro (kCb hb (m2.2.2.1)) (kCb hb (m2.2.2.2))));refine hK.out _ _ (fun _=>m3) (fun hS9=>?_);clear hK K hS9;try simp only [Act.put,List.setIfInBounds_toArray,List.set_cons_zero,List.set_cons_succ]
 replace HB:=hid (HB.out.trans (hb.mono HB.out.size));replace BR:=hid (BR.out.below hb);replace T0:=hid (T0.out.below hb);replace T1:=hid (T1.out.below hb);replace T2:=hid (T2.out.below hb)
 have T3:=hid hT.out;clear hb hc hT;refine wpAnyP_ready (rs:=[12]) (by kernel_rfl) (by simp) ?_;refine AllReadyP.cons (o:=_) rfl (fun K hK=>?_) ?_;rotate_left;exact AllReadyP.nil;go_simp;refine hK.out _ _ (fun _=>m3) (fun hS9=>?_);clear hK K hS9;try simp only [Act.put,List.setIfInBounds_toArray,List.set_cons_zero,List.set_cons_succ]
 refine wpAnyP_ready (rs:=[13]) (by kernel_rfl) (by simp) ?_;refine AllReadyP.cons (o:=_) rfl (fun K hK=>?_) ?_;rotate_left;exact AllReadyP.nil;obtain ⟨hx1,hx2,hx3⟩:=st_new [.slice b0 k0 d0,.slice b1 k1 d1,.slice b2 k2 d2,.slice b3 k3 d3] BR.out (nou_list (fun u hu q=>by simp at hu;subst hu;simp)) HB.out (Nat.le_succ _);have hnb:=bk_nob BR.out (fun v hv=>by simp at hv;subst hv;exact ⟨_,_,_,rfl⟩);have l0:=BR.out.cell (j:=0) rfl;have l1:=BR.out.cell (j:=1) rfl;have l2:=BR.out.cell (j:=2) rfl;have l3:=BR.out.cell (j:=3) rfl;have ff:=BR.out.frozen;have HX:Hid (T4 (stl (w.heap.size+1) 0 [.slice b0 k0 d0,.slice b1 k1 d1,.slice b2 k2 d2,.slice b3 k3 d3] u4) b0 b1 b2 b3 k0 X0 Y0 k1 X1 Y1 k2 X2 Y2 k3 X3 Y3):=⟨⟨T0.out.1.st hx2 hx3 hnb,T0.out.2⟩,⟨T1.out.1.st hx2 hx3 hnb,T1.out.2⟩,⟨T2.out.1.st hx2 hx3 hnb,T2.out.2⟩,⟨T3.out.1.st hx2 hx3 hnb,T3.out.2⟩⟩;have HY:=hid hx1;clear hx1 hx2 hx3 hnb;go_simp;refine hK.out _ _ (fun h=>by cases h) (fun _=>?_);clear hK K;try simp only [Act.put,List.setIfInBounds_toArray,List.set_cons_zero,List.set_cons_succ]
 refine wpAnyP_done (by kernel_rfl) ?_ _;clear hHeld m0 m1 m2 m3 T0 T1 T2 T3 C0 C1 C2 C3 HB BR;go_wp2;exact bodyPost_ret (v:=.agg #[.slice b0 k0 d0,.slice b1 k1 d1,.slice b2 k2 d2,.slice b3 k3 d3]) (by simp [results,Tryz.results11,go_sem,l0,l1,l2,l3]) rfl (HA.out _ _ Y0 _ _ Y1 _ _ Y2 _ _ Y3 _ HY.out HX.out)
theorem lstep_zero {a b:Int} (h:lstep a b=0):a=0∧b=0:=by
 unfold lstep at h
 split at h <;> omega
theorem fqu_zero {e0 e1 e2 e3:Int} (h:lsf (fqu e0 e1 e2 e3) 4=0):e0=0∧e1=0∧e2=0∧e3=0:=by
 simp only [lsf] at h;obtain ⟨h,h3⟩:=lstep_zero h;obtain ⟨h,h2⟩:=lstep_zero h;obtain ⟨h,h1⟩:=lstep_zero h;obtain ⟨_,h0⟩:=lstep_zero h;exact ⟨h0,h1,h2,h3⟩
theorem pnE_zero {k:Nat} {X:Nat→Nm} {z:Int} (h:pnE k X z=0):afB k X=true∧(k:Int)=z:=by
 unfold pnE at h;by_cases a:afB k X=true
 ·rw [if_pos a] at h;by_cases b:(k:Int)=z
  ·exact ⟨a,b⟩
  ·rw [if_neg b] at h;cases h
 ·rw [if_neg a] at h;cases h
theorem pnE_tx {w ao k X X' z} (hx:Tx w ao k X X'):pnE k X' z=pnE k X z:=by
 unfold pnE;rw [show afB k X'=afB k X from afr_sn (fun j _ b=>hx.2 j (by omega))]
theorem cbE_tw {K w M M' a0 a1 a2 a3} {k0 k1 k2 k3:Nat} {X0 X1 X2 X3 Y0 Y1 Y2 Y3:Nat→Nm} (h:TmK K w M M') (t:T4 w a0 a1 a2 a3 k0 X0 Y0 k1 X1 Y1 k2 X2 Y2 k3 X3 Y3):cbE M' k0 Y0 k1 Y1 k2 Y2 k3 Y3=cbE M k0 X0 k1 X1 k2 X2 k3 X3:=by
 unfold cbE fctE;rw [h.1.chk,h.1.ck,h.1.rk,pnE_tx t.t0,pnE_tx t.t1,pnE_tx t.t2,pnE_tx t.t3]
theorem cbE_fit {M:Mo} {k0 k1 k2 k3:Nat} {X0 X1 X2 X3:Nat→Nm} (h:cbE M k0 X0 k1 X1 k2 X2 k3 X3=0):chkE M=0∧(afB k0 X0=true∧afB k1 X1=true∧afB k2 X2=true∧afB k3 X3=true)∧k0=M.rk∧k1=M.rk∧k2=M.ck∧k3=M.ck:=by
 obtain ⟨h1,h2⟩:=two_zero h;obtain ⟨e0,e1,e2,e3⟩:=fqu_zero h2;obtain ⟨f0,g0⟩:=pnE_zero e0;obtain ⟨f1,g1⟩:=pnE_zero e1;obtain ⟨f2,g2⟩:=pnE_zero e2;obtain ⟨f3,g3⟩:=pnE_zero e3;exact ⟨h1,⟨f0,f1,f2,f3⟩,by omega,by omega,by omega,by omega⟩
theorem rsOf_len (M:Mo):(rsOf M).length=M.rk:=by simp [rsOf]
def vldM (M:Mo) (k0:Nat) (X0:Nat→Nm) (k1:Nat) (X1:Nat→Nm) (k2:Nat) (X2:Nat→Nm) (k3:Nat) (X3:Nat→Nm):Bool:=decide (chkE M=0) && vldB (cbE M k0 X0 k1 X1 k2 X2 k3 X3) (csOf M).length (bdA (csOf M) (rsOf M) (psOf k0 X0) (psOf k1 X1) (psOf k2 X2) (psOf k3 X3))
theorem validTw12_c {w:World} {M M':Mo} {a0 a1 a2 a3:Option Addr} {k0 c0 k1 c1 k2 c2 k3 c3:Nat} {X0 X1 X2 X3 Y0 Y1 Y2 Y3:Nat→Nm} (h:TmK 6 w M M') (hN:MoN M) (t:T4 w a0 a1 a2 a3 k0 X0 Y0 k1 X1 Y1 k2 X2 Y2 k3 X3 Y3) (s0:ShK 6 k0 X0) (s1:ShK 6 k1 X1) (s2:ShK 6 k2 X2) (s3:ShK 6 k3 X3) :
  Calls Tryz.prog 16 #[M'.val,.agg #[.slice a0 k0 c0,.slice a1 k1 c1,.slice a2 k2 c2,.slice a3 k3 c3]] w fun e w'=>e=.returned (.tuple #[.bool (vldM M k0 X0 k1 X1 k2 X2 k3 X3),.int .i64 (chkE M)])∧Below w.heap.size w w':=by
 have:=fValid_v (L:=6) (c0:=c0) (c1:=c1) (c2:=c2) (c3:=c3) (off:=nq M.off) (cs:=csOf M) (rs:=rsOf M) (l0:=psOf k0 X0) (l1:=psOf k1 X1) (l2:=psOf k2 X2) (l3:=psOf k3 X3) h.2.1 t.t0.1 t.t1.1 t.t2.1 t.t3.1 (by have:=s0.1;omega) (by have:=s1.1;omega) (by have:=s2.1;omega) (by have:=s3.1;omega) (cbE_tw h t) (fun he=>by
  obtain ⟨h1,⟨f0,f1,f2,f3⟩,g0,g1,g2,g3⟩:=cbE_fit he;obtain ⟨a,b⟩:=h.valL 6 (by decide) (by decide) hN h1;exact ⟨a,b,⟨t.t0.valK s0 f0,t.t1.valK s1 f1,t.t2.valK s2 f2,t.t3.valK s3 f3⟩,⟨psOf_len _ _,psOf_len _ _,psOf_len _ _,psOf_len _ _⟩,by rw [rsOf_len];exact g0,by rw [rsOf_len];exact g1,by rw [csOf_len];exact g2,by rw [csOf_len];exact g3⟩) (by decide) (by decide)
 rw [h.1.chk] at this;exact this
theorem sumF_app (f:BV→Rat):∀(a b:List BV),sumF f (a++b)=sumF f a+sumF f b
 | [],b=>by show sumF f b=0+sumF f b;grind
 | c :: a,b=>by
  simp only [List.cons_append,sumF];rw [sumF_app f a b];grind
def NV (K:Nat) (q:Rat) (v:Value) (w:World):Prop:=∃t:Nm,v=t.val∧NmV K w t q
theorem NV.below {K q v w w'} (h:NV K q v w) (hb:Below w.heap.size w w'):NV K q v w':=by obtain ⟨t,h1,h2⟩:=h;exact ⟨t,h1,Rn.below h2 hb⟩
def KA9:Nat:=90000
set_option maxRecDepth 100000 in
set_option maxHeartbeats 8000000 in
theorem add12_c {w:World} {L:Nat} {aa ab:Option Addr} {k ca cb:Nat} {xs ds:List Rat} {sq:Bool} {xq:Option Addr} {nq cq:Nat} {fq:Nat→Int} {yq:Option Addr} {mq eq:Nat} {gq:Nat→Int} {tq:Rat} (hx:Rf L w aa xs) (hd:Rf L w ab ds) (lx:xs.length=k) (ld:ds.length=k) (hk:k≤1000) (hL:L≤3600) (hq:Qn w sq xq nq fq yq mq gq tq) (hn:nq≤12) (hm:mq≤12) :
  Calls Tryz.prog 13 #[.slice aa k ca,.slice ab k cb,.agg #[.bool sq,.slice xq nq cq,.slice yq mq eq]] w fun e w'=>∃a c,e=.returned (.slice a k c)∧Below w.heap.size w w'∧(k≤c∧c≤9223372036854775807)∧Hid (Rf KA9 w' a (alng xs ds tq)):=by
 have hb:=below_alloc (Below.refl w.heap.size w) (.cells #[.bool sq,.slice xq nq cq,.slice yq mq eq] 45);have BQ:Hid (Bk (w.alloc (.cells #[.bool sq,.slice xq nq cq,.slice yq mq eq] 45)) w.heap.size [.bool sq,.slice xq nq cq,.slice yq mq eq] 45):=bk_new w [.bool sq,.slice xq nq cq,.slice yq mq eq] 45;have X1:=hid (hx.below hb);have X2:=hid (hd.below hb);have X3:=hid (hq.below hb);have HB0:=hid hb
 have hsw:=hb.size;have hlw:=BQ.out.lt;clear hx hd hq hb;go_enter Tryz.func13,Tryz.ntmps13;go_wp2_with fail
 generalize (w.alloc (.cells #[.bool sq,.slice xq nq cq,.slice yq mq eq] 45))=w3 at *;go_loopw [7,11] (fun ov t wr=>∃(i:Nat),i≤k∧t=.int .i64 i∧Hid (Below w3.heap.size w3 wr)∧Hid (Gr KA9 w3.heap.size wr ov ((alng xs ds tq).take i))) (fun _ t _=>k-(intOf t).toNat)
 case atStart=>exact ⟨0,by omega,rfl,Below.refl _ _,gr_nil _ _ _⟩
 case round =>
  obtain ⟨i,hi,rfl,HBr,HG⟩:=hrel;by_cases hlt:i<k
  ·obtain ⟨x,hx⟩:∃t,xs[i]?=some t:=⟨_,List.getElem?_eq_getElem (by omega)⟩;obtain ⟨dd,hd⟩:∃t,ds[i]?=some t:=⟨_,List.getElem?_eq_getElem (by omega)⟩;obtain ⟨b1,o1,⟨su,xu,nu,cu,fu,yu,mu,du,gu⟩,hax,⟨p0,p1,p2⟩,hr1⟩:=X1.out i x hx;obtain ⟨b2,o2,⟨sv,xv,nv,cv,fv,yv,mv,dv,gv⟩,hao,⟨q0,q1,q2⟩,hr2⟩:=X2.out i dd hd;subst hax;subst hao;replace p0:w3.cell? ⟨b1,o1+i*3,none⟩=some (.bool su):=p0;replace p1:w3.cell? ⟨b1,o1+i*3+1,none⟩=some (.slice xu nu cu):=p1;replace p2:w3.cell? ⟨b1,o1+i*3+2,none⟩=some (.slice yu mu du):=p2;replace q0:w3.cell? ⟨b2,o2+i*3,none⟩=some (.bool sv):=q0;replace q1:w3.cell? ⟨b2,o2+i*3+1,none⟩=some (.slice xv nv cv):=q1;replace q2:w3.cell? ⟨b2,o2+i*3+2,none⟩=some (.slice yv mv dv):=q2;have HP:=hid (And.intro p0 (And.intro p1 p2));have HQ:=hid (And.intro q0 (And.intro q1 q2));have R1:=hid hr1;have R2:=hid hr2;have HXi:=hid hx;have HDi:=hid hd
   clear hr1 hr2 hx hd p0 p1 p2 q0 q1 q2;have BTr:=BQ.out.below HBr.out;have r0:=BTr.cell (j:=0) rfl;have r1:=BTr.cell (j:=1) rfl;have r2:=BTr.cell (j:=2) rfl;clear BTr;obtain ⟨p0,p1,p2⟩:=HP.out;obtain ⟨q0,q1,q2⟩:=HQ.out;replace p0:=kCb HBr.out p0;replace p1:=kCb HBr.out p1;replace p2:=kCb HBr.out p2;replace q0:=kCb HBr.out q0;replace q1:=kCb HBr.out q1;replace q2:=kCb HBr.out q2;have i1:((i:Nat):Int)<((k:Nat):Int):=by omega
   go_upto_region 5 with fail
   refine wp_region_held_drew (S:=(fun w'=>w'.cell? ⟨w.heap.size,0,none⟩=some (.bool sq)∧w'.cell? ⟨w.heap.size,1,none⟩=some (.slice xq nq cq)∧w'.cell? ⟨w.heap.size,2,none⟩=some (.slice yq mq eq)∧w'.cell? ⟨b1,o1+i*3,none⟩=some (.bool su)∧w'.cell? ⟨b1,o1+i*3+1,none⟩=some (.slice xu nu cu)∧w'.cell? ⟨b1,o1+i*3+2,none⟩=some (.slice yu mu du)∧w'.cell? ⟨b2,o2+i*3,none⟩=some (.bool sv)∧w'.cell? ⟨b2,o2+i*3+1,none⟩=some (.slice xv nv cv)∧w'.cell? ⟨b2,o2+i*3+2,none⟩=some (.slice yv mv dv))) (by kernel_rfl) ?_ (fun hHeld=>?_)
   ·(refine ⟨?_,?_,?_,?_,?_,?_,?_,?_,?_⟩ <;> repeat (with_reducible first | assumption | refine kCd ?_))
   have hbd:=Below.drew (Below.refl wr.heap.size wr);replace HBr:=hid (HBr.out.trans (hbd.mono HBr.out.size));replace HG:=hid (HG.out.below hbd)
   generalize wr.drew=wd at *;clear hbd r0 r1 r2 p0 p1 p2 q0 q1 q2;refine tkO 0 ?_;simp only [lay_,Act.put];refine tkO 1 ?_;simp only [lay_,Act.put];refine tkO 2 ?_;simp only [lay_,Act.put];refine tkO 3 ?_;simp only [lay_,Act.put];refine tkO 4 ?_;simp only [lay_,Act.put];refine tkO 6 ?_;simp only [lay_,Act.put];refine tkO 7 ?_;simp only [lay_,Act.put];refine tkO 8 ?_;simp only [lay_,Act.put];refine tkO 9 ?_;simp only [lay_,Act.put];refine tkO 10 ?_;simp only [lay_,Act.put];refine (show wpAnyH _ _ _ _ _ (5+3) _ _ _ from wpAnyH_flow (fun j v w=>match j with | 5=>FN (2*L) x v w | 11=>FN (2*L) dd v w | 12=>FN (4*L+27) (tq*dd) v w | 13=>FN (12*L+57) (x+tq*dd) v w | 14=>NV KA9 (x+tq*dd) v w | _=>True) [(5,19),(11,25),(12,26),(13,27),(14,28)] [5,11,12,13,14] [15,16,17] _ _ _ 3 ?k1 ?k4 ?k2 ?k3 ?k5 ?k6 ?k8)
   case k1=>kernel_rfl
   case k4=>kernel_rfl
   case k2=>exact fun w w' h hb=>⟨kCb hb h.1,kCb hb h.2.1,kCb hb h.2.2.1,kCb hb h.2.2.2.1,kCb hb h.2.2.2.2.1,kCb hb h.2.2.2.2.2.1,kCb hb h.2.2.2.2.2.2.1,kCb hb h.2.2.2.2.2.2.2.1,kCb hb h.2.2.2.2.2.2.2.2⟩
   case k3 =>
    intro j v w w' h hb
    split at h <;> first | exact FN.below h hb | exact NV.below h hb | exact h | trivial
   case k8=>exact hHeld
   case k5 =>
    intro i hi;simp only [List.mem_cons,List.not_mem_nil,or_false] at hi;rcases hi with rfl | rfl | rfl | rfl | rfl
    ·refine ⟨_,rfl,fun u w5 hS hb5 hd K hK=>?_⟩;simp only [fill,List.foldl_cons,List.foldl_nil,Act.put,List.setIfInBounds_toArray,List.set_cons_zero,List.set_cons_succ] at hK ⊢;go_simp
     go_at_call 12
     refine (qFrom_c (Rn.below (Rn.below R1.out HBr.out) hb5) (Nat.le_trans hL (by decide))).mono ?_;rintro e w6 ⟨sq,zp,nq9,cp,dp,zq,mq9,cq,gq,rfl,hb6,hq1,hq2,hq⟩
     (try go_wp2_with fail)
     exact hK.out _ _ hb6 ⟨⟨sq,zp,nq9,cp,dp,zq,mq9,cq,gq⟩,rfl,hq1,hq2,hq⟩
    ·refine ⟨_,rfl,fun u w5 hS hb5 hd K hK=>?_⟩;simp only [fill,List.foldl_cons,List.foldl_nil,Act.put,List.setIfInBounds_toArray,List.set_cons_zero,List.set_cons_succ] at hK ⊢;go_simp
     go_at_call 12
     refine (qFrom_c (Rn.below (Rn.below R2.out HBr.out) hb5) (Nat.le_trans hL (by decide))).mono ?_;rintro e w6 ⟨sq,zp,nq9,cp,dp,zq,mq9,cq,gq,rfl,hb6,hq1,hq2,hq⟩
     (try go_wp2_with fail)
     exact hK.out _ _ hb6 ⟨⟨sq,zp,nq9,cp,dp,zq,mq9,cq,gq⟩,rfl,hq1,hq2,hq⟩
    ·refine ⟨_,rfl,fun u w5 hS hb5 hd K hK=>?_⟩;have h11:FN (2*L) dd (u 11) w5:=hd 11 (by kernel_rfl) (by kernel_rfl);obtain ⟨⟨sa11,xa11,na11,ca11,fa11,ya11,ma11,da11,ga11⟩,e11,hm11,hn11,hv11⟩:=h11;replace e11:u 11=.agg #[.bool sa11,.slice xa11 na11 ca11,.slice ya11 ma11 da11]:=e11;replace hm11:na11≤_:=hm11;replace hn11:ma11≤_:=hn11;replace hv11:Qn w5 sa11 xa11 na11 fa11 ya11 ma11 ga11 _:=hv11;simp only [fill,List.foldl_cons,List.foldl_nil,Act.put,List.setIfInBounds_toArray,List.set_cons_zero,List.set_cons_succ] at hK ⊢;simp only [e11] at hK ⊢;go_simp
     go_at_call 43
     refine (qMul_c ((X3.out.below HBr.out).below hb5) hv11 (by omega) (by omega) (by omega) (by omega)).mono ?_;rintro e w6 ⟨sq,zp,nq9,cp,dp,zq,mq9,cq,gq,rfl,hb6,hq1,hq2,hq⟩
     (try go_wp2_with fail)
     exact hK.out _ _ hb6 ⟨⟨sq,zp,nq9,cp,dp,zq,mq9,cq,gq⟩,rfl,Nat.le_trans hq1 (by omega),Nat.le_trans hq2 (by omega),hq⟩
    ·refine ⟨_,rfl,fun u w5 hS hb5 hd K hK=>?_⟩;have h5:FN (2*L) x (u 5) w5:=hd 5 (by kernel_rfl) (by kernel_rfl);obtain ⟨⟨sa5,xa5,na5,ca5,fa5,ya5,ma5,da5,ga5⟩,e5,hm5,hn5,hv5⟩:=h5;replace e5:u 5=.agg #[.bool sa5,.slice xa5 na5 ca5,.slice ya5 ma5 da5]:=e5;replace hm5:na5≤_:=hm5;replace hn5:ma5≤_:=hn5;replace hv5:Qn w5 sa5 xa5 na5 fa5 ya5 ma5 ga5 _:=hv5;have h12:FN (4*L+27) (tq*dd) (u 12) w5:=hd 12 (by kernel_rfl) (by kernel_rfl);obtain ⟨⟨sa12,xa12,na12,ca12,fa12,ya12,ma12,da12,ga12⟩,e12,hm12,hn12,hv12⟩:=h12;replace e12:u 12=.agg #[.bool sa12,.slice xa12 na12 ca12,.slice ya12 ma12 da12]:=e12;replace hm12:na12≤_:=hm12;replace hn12:ma12≤_:=hn12;replace hv12:Qn w5 sa12 xa12 na12 fa12 ya12 ma12 ga12 _:=hv12;simp only [fill,List.foldl_cons,List.foldl_nil,Act.put,List.setIfInBounds_toArray,List.set_cons_zero,List.set_cons_succ] at hK ⊢;simp only [e5,e12] at hK ⊢;go_simp
     go_at_call 42
     refine (qAdd_c hv5 hv12 (by omega) (by omega) (by omega) (by omega)).mono ?_;rintro e w6 ⟨sq,zp,nq9,cp,dp,zq,mq9,cq,gq,rfl,hb6,hq1,hq2,hq⟩
     (try go_wp2_with fail)
     exact hK.out _ _ hb6 ⟨⟨sq,zp,nq9,cp,dp,zq,mq9,cq,gq⟩,rfl,Nat.le_trans hq1 (by omega),Nat.le_trans hq2 (by omega),hq⟩
    ·refine ⟨_,rfl,fun u w5 hS hb5 hd K hK=>?_⟩;have h13:FN (12*L+57) (x+tq*dd) (u 13) w5:=hd 13 (by kernel_rfl) (by kernel_rfl);obtain ⟨⟨sa13,xa13,na13,ca13,fa13,ya13,ma13,da13,ga13⟩,e13,hm13,hn13,hv13⟩:=h13;replace e13:u 13=.agg #[.bool sa13,.slice xa13 na13 ca13,.slice ya13 ma13 da13]:=e13;replace hm13:na13≤_:=hm13;replace hn13:ma13≤_:=hn13;replace hv13:Qn w5 sa13 xa13 na13 fa13 ya13 ma13 ga13 _:=hv13;simp only [fill,List.foldl_cons,List.foldl_nil,Act.put,List.setIfInBounds_toArray,List.set_cons_zero,List.set_cons_succ] at hK ⊢;simp only [e13] at hK ⊢;go_simp
     go_at_call 41
     refine (qToR_c hv13 (by omega) (by omega)).mono ?_;rintro e w6 ⟨zp,nq9,cp,dp,zq,mq9,cq,gq,rfl,hb6,hq⟩
     (try go_wp2_with fail)
     exact hK.out _ _ hb6 ⟨⟨_,zp,nq9,cp,dp,zq,mq9,cq,gq⟩,rfl,hq.out.mono (by unfold KA9;omega)⟩
   case k6 =>
    intro u w6 hS6 hb6 hg;have h14:NV KA9 (x+tq*dd) (u 14) w6:=hg 14 (by simp);obtain ⟨⟨s6,x6,n6,c6,f6,y6,m6,d6,g6⟩,e14,hq6⟩:=h14;replace e14:u 14=.agg #[.bool s6,.slice x6 n6 c6,.slice y6 m6 d6]:=e14;replace hq6:Rn KA9 w6 s6 x6 n6 c6 f6 y6 m6 d6 g6 (x+tq*dd):=hq6;clear hg;simp only [fill,List.foldl_cons,List.foldl_nil,Act.put,List.setIfInBounds_toArray,List.set_cons_zero,List.set_cons_succ];simp only [e14];clear e14;have HB6:=hid (HBr.out.trans (hb6.mono HBr.out.size));replace HG:=hid (HG.out.below hb6);refine wpAnyH_ready (rs:=[15]) (by kernel_rfl) (by simp) ?_;refine AllReadyH.cons (o:=_) rfl (fun K hK=>?_) ?_;rotate_left;exact AllReadyH.nil;go_simp;refine hK.out _ _ ?_ (fun hH7=>?_)
    ·have hn:=below_alloc (Below.refl w6.heap.size w6) (.cells #[.bool s6,.slice x6 n6 c6,.slice y6 m6 d6] 24);exact ⟨kCb hn hS6.1,kCb hn hS6.2.1,kCb hn hS6.2.2.1,kCb hn hS6.2.2.2.1,kCb hn hS6.2.2.2.2.1,kCb hn hS6.2.2.2.2.2.1,kCb hn hS6.2.2.2.2.2.2.1,kCb hn hS6.2.2.2.2.2.2.2.1,kCb hn hS6.2.2.2.2.2.2.2.2⟩
    clear hK K;try simp only [lay_,Act.put]
    refine wpAnyH_ready (rs:=[16]) (by kernel_rfl) (by simp) ?_;refine AllReadyH.cons (o:=_) rfl (fun K hK=>?_) ?_;rotate_left;exact AllReadyH.nil;obtain ⟨T9,hrow,hT⟩:=HG.out;have hli:((alng xs ds tq).take i).length=i:=by rw [List.length_take,alng_len (by omega)];omega
    rw [hli] at hrow;refine step_append_one w6 rfl (.tmp 14) (.tmp 29) 29 rfl w3.heap.size 24 56 3 (.agg #[.bool false,.slice none 0 0,.slice none 0 0]) Tryz.underlying29 Tryz.infoRat rfl (by decide) nz3 u7 i _ rfl hrow #[.bool s6,.slice x6 n6 c6,.slice y6 m6 d6] rfl rfl (one3 _ _ _ _ _ _ _) (not3 _ _ _ _ _ _ _) (by omega) (by decide) HB6.out.size ?_;intro g8 cap8 w8 hr8 hk8 hb8 hg8;have HB8:Hid (Below w3.heap.size w3 w8):=hb8 w3 HB6.out (Nat.le_refl _);have HG8:Hid (Gr KA9 w3.heap.size w8 (.slice (some ⟨g8,0,none⟩) (i+1) cap8) ((alng xs ds tq).take (i+1))):=by
     have hp8:=gr_push (p:=(alng xs ds tq).take i) hT (by rw [hli];exact hr8) hk8 hq6;rw [hli] at hp8;have e9:(alng xs ds tq)[i]?=some (x+tq*dd):=by
      rw [alng_get,HXi.out,HDi.out];show some (0+x+tq*dd)=_;rw [show (0:Rat)+x+tq*dd=x+tq*dd by grind]
     rw [List.take_add_one,e9];exact hp8
    have BT8:=BQ.out.below HB8.out;obtain ⟨p0,p1,p2⟩:=HP.out;obtain ⟨q0,q1,q2⟩:=HQ.out;refine hK.out _ _ ⟨BT8.cell (j:=0) rfl,BT8.cell (j:=1) rfl,BT8.cell (j:=2) rfl,kCb HB8.out p0,kCb HB8.out p1,kCb HB8.out p2,kCb HB8.out q0,kCb HB8.out q1,kCb HB8.out q2⟩ (fun hH8=>?_);clear hK K BT8 p0 p1 p2 q0 q1 q2;try simp only [Act.put,List.setIfInBounds_toArray]
    clear hr8 hk8 hb8 hg8 hrow hT hb6 hq6 HG HB6 hS6 hH7;refine tkO 17 ?_;simp only [lay_,Act.put];refine wpAnyH_done (by kernel_rfl) ?_ _;clear hHeld hH8 HP HQ R1 R2 HXi HDi;go_wp2;go_roundw
    case rel=>exact ⟨i+1,by omega,by go_num,HB8.out,HG8.out⟩
    case measure=>simp [intOf];omega
  ·have e1:i=k:=by omega
   have i4':¬(((i:Nat):Int)<((k:Nat):Int)):=by omega
   have hla:(alng xs ds tq).length=k:=(alng_len (by omega)).trans lx;obtain ⟨va,vc,hvs,hvc⟩:=HG.out.slice;rw [List.take_of_length_le (by omega)] at hvs hvc;rw [hla] at hvs hvc;have HG4:=HG.out;rw [hvs] at HG4;replace HG4:=hid (show Rf KA9 wr va (alng xs ds tq) by have:=HG4.rf;rw [List.take_of_length_le (by omega)] at this;exact this);subst hvs;have HV4:=hid hvc;clear HG e1 hvc hla;go_wp2;go_ret;exact ⟨va,vc,rfl,HB0.out.trans (HBr.out.mono HB0.out.size),HV4.out,HG4.out⟩
structure Lin (r:Rat) (a b c:List BV):Prop where
 inf:a.any infB=false→b.any infB=false→c.any infB=false
 neg:0≤r→a.any negB=false→b.any negB=false→c.any negB=false
 q:∀j,cmbQ c j=cmbQ a j+r*cmbQ b j
 s:cmbS c=cmbS a+r*cmbS b
theorem Lin.nil (r:Rat):Lin r [] [] []:=⟨fun _ _=>rfl,fun _ _ _=>rfl,fun j=>by show (0:Rat)=0+r*0;grind,by show (0:Rat)=0+r*0;grind⟩
theorem Lin.cons {r:Rat} {a b c:List BV} (h:Lin r a b c) (p q:Rat) (i:Int) (v:Rat) (up:Bool) (ts:List (Int × Rat)):Lin r (⟨p,i,v,up,ts⟩ :: a) (⟨q,i,v,up,ts⟩ :: b) (⟨0+p+r*q,i,v,up,ts⟩ :: c):=by
 have ew:wtQ ⟨0+p+r*q,i,v,up,ts⟩=wtQ ⟨p,i,v,up,ts⟩+r*wtQ ⟨q,i,v,up,ts⟩:=by
  unfold wtQ;cases up
  ·show 0+p+r*q=p+r*q;grind
  ·show -(0+p+r*q)=-p+r * -q;grind
 refine ⟨fun h1 h2=>?_,fun hr h1 h2=>?_,fun j=>?_,?_⟩
 ·simp only [List.any_cons,Bool.or_eq_false_iff] at h1 h2 ⊢;refine ⟨?_,h.inf h1.2 h2.2⟩;have g1:=h1.1;have g2:=h2.1
  simp only [infB,Bool.and_eq_false_iff,decide_eq_false_iff_not,Decidable.not_not] at g1 g2 ⊢;by_cases e:i=0
  ·exact .inl e
  ·have e1:p=0:=by rcases g1 with g | g;exact absurd g e;exact g
   have e2:q=0:=by rcases g2 with g | g;exact absurd g e;exact g
   exact .inr (by rw [e1,e2];grind)
 ·simp only [List.any_cons,Bool.or_eq_false_iff] at h1 h2 ⊢;refine ⟨?_,h.neg hr h1.2 h2.2⟩;have g1:=h1.1;have g2:=h2.1
  simp only [negB,decide_eq_false_iff_not,Rat.not_lt] at g1 g2 ⊢;have:=Rat.mul_nonneg hr g2
  grind
 ·show wtQ _*coefT ts j+cmbQ c j=(wtQ _*coefT ts j+cmbQ a j)+r*(wtQ _*coefT ts j+cmbQ b j);rw [ew,h.q j];grind
 ·show wtQ _*v+cmbS c=(wtQ _*v+cmbS a)+r*(wtQ _*v+cmbS b);rw [ew,h.s];grind
theorem Lin.app {r:Rat} {a b c a' b' c':List BV} (h:Lin r a b c) (k:Lin r a' b' c'):Lin r (a++a') (b++b') (c++c'):=by
 refine ⟨fun h1 h2=>?_,fun hr h1 h2=>?_,fun j=>?_,?_⟩
 ·rw [List.any_append,Bool.or_eq_false_iff] at h1 h2 ⊢;exact ⟨h.inf h1.1 h2.1,k.inf h1.2 h2.2⟩
 ·rw [List.any_append,Bool.or_eq_false_iff] at h1 h2 ⊢;exact ⟨h.neg hr h1.1 h2.1,k.neg hr h1.2 h2.2⟩
 ·have e:∀x y:List BV,cmbQ (x++y) j=cmbQ x j+cmbQ y j:=fun x y=>sumF_app _ _ _
  rw [e,e,e,h.q j,k.q j];grind
 ·have e:∀x y:List BV,cmbS (x++y)=cmbS x+cmbS y:=fun x y=>sumF_app _ _ _
  rw [e,e,e,h.s,k.s];grind
theorem lin_R (r:Rat):∀{rs:List RV} {p q p' q':List Rat},p.length=rs.length→q.length=rs.length→p'.length=rs.length→q'.length=rs.length→Lin r (bdR rs p q) (bdR rs p' q') (bdR rs (alng p p' r) (alng q q' r))
 | [],_,_,_,_,_,_,_,_=>by simp only [bdR];exact Lin.nil r
 | v :: rs,a :: p,b :: q,a' :: p',b' :: q',h1,h2,h3,h4=>by
  have:=lin_R r (rs:=rs) (p:=p) (q:=q) (p':=p') (q':=q') (by simpa using h1) (by simpa using h2) (by simpa using h3) (by simpa using h4);exact ((this.cons b b' v.hi v.hq true v.ts).cons a a' v.li v.lq false v.ts)
theorem lin_C (r:Rat):∀{z:Int} {cs:List CV} {p q p' q':List Rat},p.length=cs.length→q.length=cs.length→p'.length=cs.length→q'.length=cs.length→Lin r (bdC z cs p q) (bdC z cs p' q') (bdC z cs (alng p p' r) (alng q q' r))
 | _,[],_,_,_,_,_,_,_,_=>by simp only [bdC];exact Lin.nil r
 | z,v :: cs,a :: p,b :: q,a' :: p',b' :: q',h1,h2,h3,h4=>by
  have:=lin_C r (z:=z+1) (cs:=cs) (p:=p) (q:=q) (p':=p') (q':=q') (by simpa using h1) (by simpa using h2) (by simpa using h3) (by simpa using h4);exact ((this.cons b b' v.hi v.hq true [(z,1)]).cons a a' v.li v.lq false [(z,1)])
theorem lin_A (r:Rat) {cs:List CV} {rs:List RV} {l0 l1 l2 l3 m0 m1 m2 m3:List Rat} (h0:l0.length=rs.length) (h1:l1.length=rs.length) (h2:l2.length=cs.length) (h3:l3.length=cs.length) (g0:m0.length=rs.length) (g1:m1.length=rs.length) (g2:m2.length=cs.length) (g3:m3.length=cs.length) :
  Lin r (bdA cs rs l0 l1 l2 l3) (bdA cs rs m0 m1 m2 m3) (bdA cs rs (alng l0 m0 r) (alng l1 m1 r) (alng l2 m2 r) (alng l3 m3 r)):=(lin_R r h0 h1 g0 g1).app (lin_C r h2 h3 g2 g3)
theorem Lin.list {r:Rat} {a b c:List BV} (h:Lin r a b c) (n:Nat):(List.range n).map (cmbQ c)=alng ((List.range n).map (cmbQ a)) ((List.range n).map (cmbQ b)) r:=by
 refine List.ext_getElem? (fun j=>?_);rw [alng_get];by_cases hj:j<n
 ·rw [range_map_get _ _ _ hj,range_map_get _ _ _ hj,range_map_get _ _ _ hj];show some _=some (0+_+r*_);rw [h.q j];congr 1;grind
 ·rw [List.getElem?_eq_none (by simp;omega),List.getElem?_eq_none (by simp;omega)];rfl
theorem Lin.vld {r:Rat} {a b c:List BV} (h:Lin r a b c) {n:Nat} {ea eb:Int} (h1:vldB ea n a=true) (h2:vldB eb n b=true) (hr:0≤r):vldB 0 n c=true:=by
 simp only [vldB,Bool.and_eq_true,decide_eq_true_eq,Bool.not_eq_true',List.all_eq_true] at h1 h2 ⊢;obtain ⟨_,i1,n1,z1,p1⟩:=h1;obtain ⟨_,i2,n2,z2,p2⟩:=h2;refine ⟨trivial,h.inf i1 i2,h.neg hr n1 n2,fun q hq=>?_,?_⟩
 ·obtain ⟨j,hj,rfl⟩:=List.mem_map.1 hq;have e1:=z1 _ (List.mem_map.2 ⟨j,hj,rfl⟩);have e2:=z2 _ (List.mem_map.2 ⟨j,hj,rfl⟩);rw [h.q j,e1,e2];grind
 ·have:=Rat.mul_nonneg hr (Rat.le_of_lt p2);rw [h.s];grind
theorem rf_rlS {L:Nat} {w:World} {ao:Option Addr} {p:List Rat} (h:Rf L w ao p) (hL:L≤65536):∃X,Rl w ao p.length X∧afB p.length X=true∧(∀j,j<p.length→(X j).n≤L∧(X j).m≤L)∧psOf p.length X=p:=by
 have ht:∀j,∃t:Nm,∀q,p[j]?=some q→∃b o,ao=some ⟨b,o,none⟩∧C3 w b (o+j*3) (.bool t.s) (.slice t.x t.n t.c) (.slice t.y t.m t.d)∧Rn L w t.s t.x t.n t.c t.f t.y t.m t.d t.g q:=fun j=>by
  by_cases hj:j<p.length
  ·obtain ⟨b,o,t,h1,h2,h3⟩:=h j (p[j]) (List.getElem?_eq_getElem hj);refine ⟨t,fun q e=>?_⟩;rw [List.getElem?_eq_getElem hj] at e;have e2:=Option.some.inj e;rw [e2] at h3;exact ⟨b,o,h1,h2,h3⟩
  ·exact ⟨⟨false,none,0,0,fun _=>0,none,0,0,fun _=>0⟩,fun q e=>by rw [List.getElem?_eq_none (by omega)] at e;cases e⟩
 have hT:=fun j=>Classical.choose_spec (ht j)
 generalize hTe:(fun j=>Classical.choose (ht j))=T at *;have hT2:∀j q,p[j]?=some q→∃b o,ao=some ⟨b,o,none⟩∧C3 w b (o+j*3) (.bool (T j).s) (.slice (T j).x (T j).n (T j).c) (.slice (T j).y (T j).m (T j).d)∧Rn L w (T j).s (T j).x (T j).n (T j).c (T j).f (T j).y (T j).m (T j).d (T j).g q:=fun j q e=>by rw [←hTe];exact hT j q e
 have hg:∀j,j<p.length→p[j]?=some (p.getD j 0):=fun j hj=>by rw [List.getD_eq_getElem?_getD,List.getElem?_eq_getElem hj];rfl
 refine ⟨T,fun j hj=>?_,afr_of (fun j _ hj=>?_),fun j hj=>?_,?_⟩
 ·obtain ⟨b,o,h1,h2,h3⟩:=hT2 j _ (hg j hj);exact ⟨b,o,h1,h2,(h3.nm hL).1⟩
 ·obtain ⟨b,o,h1,h2,h3⟩:=hT2 j _ (hg j (by omega));exact (h3.nm hL).2
 ·obtain ⟨b,o,h1,h2,h3⟩:=hT2 j _ (hg j hj);exact ⟨h3.ln,h3.ld⟩
 ·refine List.ext_getElem? (fun j=>?_);by_cases hj:j<p.length
  ·obtain ⟨b,o,h1,h2,h3⟩:=hT2 j _ (hg j hj);rw [hg j hj];simp only [psOf,List.getElem?_map,List.getElem?_range hj,Option.map_some];rw [h3.nq]
  ·rw [List.getElem?_eq_none (by rw [psOf_len];omega),List.getElem?_eq_none (by omega)]
theorem Sn.self (t:Nm):Sn t t:=⟨rfl,rfl,rfl,rfl,rfl⟩
theorem T4.self {w:World} {a0 a1 a2 a3:Option Addr} {k0 k1 k2 k3:Nat} {X0 X1 X2 X3:Nat→Nm} (h0:Rl w a0 k0 X0) (h1:Rl w a1 k1 X1) (h2:Rl w a2 k2 X2) (h3:Rl w a3 k3 X3):T4 w a0 a1 a2 a3 k0 X0 X0 k1 X1 X1 k2 X2 X2 k3 X3 X3 :=
 ⟨⟨h0,fun _ _=>Sn.self _⟩,⟨h1,fun _ _=>Sn.self _⟩,⟨h2,fun _ _=>Sn.self _⟩,⟨h3,fun _ _=>Sn.self _⟩⟩
theorem combTw12_c {w:World} {M M':Mo} {a0 a1 a2 a3:Option Addr} {k0 c0 k1 c1 k2 c2 k3 c3:Nat} {X0 X1 X2 X3 Y0 Y1 Y2 Y3:Nat→Nm} (h:TmK 6 w M M') (hN:MoN M) (t:T4 w a0 a1 a2 a3 k0 X0 Y0 k1 X1 Y1 k2 X2 Y2 k3 X3 Y3) (s0:ShK 6 k0 X0) (s1:ShK 6 k1 X1) (s2:ShK 6 k2 X2) (s3:ShK 6 k3 X3) :
  Calls Tryz.prog 9 #[M'.val,.agg #[.slice a0 k0 c0,.slice a1 k1 c1,.slice a2 k2 c2,.slice a3 k3 c3]] w fun e w'=>CmbAns 6 w w' e (cbE M k0 X0 k1 X1 k2 X2 k3 X3) (csOf M) (bdA (csOf M) (rsOf M) (psOf k0 X0) (psOf k1 X1) (psOf k2 X2) (psOf k3 X3)) :=
 fCombine_v (L:=6) (c0:=c0) (c1:=c1) (c2:=c2) (c3:=c3) (off:=nq M.off) h.2.1 t.t0.1 t.t1.1 t.t2.1 t.t3.1 (by have:=s0.1;omega) (by have:=s1.1;omega) (by have:=s2.1;omega) (by have:=s3.1;omega) (cbE_tw h t) (fun he=>by
  obtain ⟨h1,⟨f0,f1,f2,f3⟩,g0,g1,g2,g3⟩:=cbE_fit he;obtain ⟨a,b⟩:=h.valL 6 (by decide) (by decide) hN h1;exact ⟨a,b,⟨t.t0.valK s0 f0,t.t1.valK s1 f1,t.t2.valK s2 f2,t.t3.valK s3 f3⟩,⟨psOf_len _ _,psOf_len _ _,psOf_len _ _,psOf_len _ _⟩,by rw [rsOf_len];exact g0,by rw [rsOf_len];exact g1,by rw [csOf_len];exact g2,by rw [csOf_len];exact g3⟩) (by decide) (by decide)
def ancL (md:Region.Mode) (ops:Array Oper) (l:Array Bool) (i:Nat):Array Bool:=((List.range ops.size).map (fun j=>l.getD j false || (ancs md ops ops.size [i]).contains j)).toArray
def flowOkT (md:Region.Mode) (ops:Array Oper) (listed:Array Bool) (E T st:List Nat):Bool :=
 listed.size==ops.size && (E++T).Nodup &&
 (List.range ops.size).all (fun i=>!(listed.getD i false) || (depsOf md ops i).all (fun j=>listed.getD j false)) &&
 (E++T).all (fun i=>!(listed.getD i true) && decide (i<ops.size) && !(st.contains i) && (depsOf md ops i).all (fun j=>decide (j<i) && (listed.getD j false || (E++T).contains j))) &&
 (List.range ops.size).all (fun i=>listed.getD i false || (E++T).contains i || st.contains i) &&
 st.all (fun s=>!(listed.getD s true) && ((depsOf md ops s).any (fun j=>st.contains j) || E.all (fun j=>(ancs md ops ops.size [s]).contains j))) &&
 T.all (fun i=>Region.free md ops (ancL md ops listed i) i)
def TakeOk (P:Program) (md:Region.Mode) (ops:Array Oper) (S:World→Prop) (G:Nat→Value→World→Prop) (a0:Act) (D:List (Nat × Tmp)) (F:List Nat) (i:Nat):Prop :=
 ∃o,ops[i]?=some o∧∀u w,S w→(∀j,F.contains j=true→(depsOf md ops i).contains j=true→G j (u j) w)→∃v,YieldsIf P ops S o v (fill a0 D u)∧G i v w
theorem free_more {md:Region.Mode} {ops:Array Oper} {l l':Array Bool} {i:Nat} (h:Region.free md ops l i=true) (hl:∀j,l.getD j true=true→l'.getD j true=true):Region.free md ops l' i=true:=by
 unfold Region.free at h ⊢;cases ho:ops[i]? with
 | none=>rw [ho] at h;exact h
 | some oi =>
  rw [ho] at h;simp only [List.all_eq_true] at h ⊢;intro j hj;have h1:=h j hj;simp only [Bool.or_eq_true] at h1 ⊢;rcases h1 with (h1 | h1) | h1
  ·exact .inl (.inl h1)
  ·exact .inl (.inr (hl j h1))
  ·exact .inr h1
theorem wpAnyH_flowT {P:Program} {md:Region.Mode} {ops:Array Oper} {Q:Exit→Act→World→Prop} {S:World→Prop} (G:Nat→Value→World→Prop) (D:List (Nat × Tmp)) (E T st:List Nat) (listed0:Array Bool) (a0:Act) (w0:World) (fuel:Nat)
  (hok:flowOkT md ops listed0 E T st=true) (hsl:slotsOk ops D (E++T)=true) (hns:Region.noSelect ops=true) (hQ0:∀c a (d:Tmp) (v:Value) w,Q (.panic c) (a.put (some d) v) w→Q (.panic c) a w)
  (hS:∀w w',S w→Below w.heap.size w w'→S w')
  (hG:∀j v w w',G j v w→Below w.heap.size w w'→G j v w')
  (hstep:∀i,i ∈ E→StepOk P md ops Q S G a0 w0 D (E++T) i)
  (htake:∀i,i ∈ T→TakeOk P md ops S G a0 D (E++T) i)
  (hend:∀u w,S w→Below w0.heap.size w0 w→(∀j,j ∈ E++T→G j (u j) w)→wpAnyH P md ops Q S fuel (fullOf ops st) (fill a0 D u) w)
  (hS0:S w0):wpAnyH P md ops Q S ((E++T).length+fuel) listed0 a0 w0:=by
 simp only [flowOkT,Bool.and_eq_true,beq_iff_eq] at hok;obtain ⟨⟨⟨⟨⟨⟨k1,k0⟩,k2⟩,k3⟩,k4⟩,k5⟩,k6⟩:=hok;obtain ⟨F,hFE⟩:∃F,F=E++T:=⟨_,rfl⟩;have inE:∀i,i ∈ F→i ∈ E∨i ∈ T:=fun i hi=>by rw [hFE] at hi;exact List.mem_append.1 hi
 have Esub:∀i,i ∈ E→i ∈ F:=fun i hi=>by rw [hFE];exact List.mem_append_left _ hi
 have Tsub:∀i,i ∈ T→i ∈ F:=fun i hi=>by rw [hFE];exact List.mem_append_right _ hi
 rw [←hFE] at k0 k3 k4 hsl hstep htake hend ⊢;have k0:F.Nodup:=of_decide_eq_true k0;have k2':∀i j,listed0.getD i false=true→j ∈ depsOf md ops i→listed0.getD j false=true:=fun i j hi hj=>by
  have hlt:i<ops.size:=by
   rcases Nat.lt_or_ge i ops.size with h | h
   ·exact h
   ·rw [←k1] at h;simp [Array.getElem?_eq_none h] at hi
  have:=List.all_eq_true.1 k2 i (List.mem_range.2 hlt);rw [hi] at this;simpa using List.all_eq_true.1 (by simpa using this) j hj
 have k3':∀i,i ∈ F→listed0.getD i true=false∧i<ops.size∧i ∉ st∧∀j,j ∈ depsOf md ops i→j<i∧(listed0.getD j false=true∨j ∈ F):=fun i hi=>by
  have:=List.all_eq_true.1 k3 i hi;simp only [Bool.and_eq_true,Bool.not_eq_true',decide_eq_true_eq] at this;obtain ⟨⟨⟨a,b⟩,c⟩,d⟩:=this;refine ⟨a,b,fun h=>?_,fun j hj=>?_⟩
  ·rw [List.contains_iff_mem.2 h] at c;cases c
  ·have:=List.all_eq_true.1 d j hj;simp only [Bool.and_eq_true,decide_eq_true_eq,Bool.or_eq_true] at this;exact ⟨this.1,this.2.imp id (fun h=>List.contains_iff_mem.1 h)⟩
 have k4':∀i,i<ops.size→listed0.getD i false=true∨i ∈ F∨i ∈ st:=fun i hi=>by
  have:=List.all_eq_true.1 k4 i (List.mem_range.2 hi);simp only [Bool.or_eq_true] at this;rcases this with (h | h) | h
  ·exact .inl h
  ·exact .inr (.inl (List.contains_iff_mem.1 h))
  ·exact .inr (.inr (List.contains_iff_mem.1 h))
 have k5':∀s,s ∈ st→listed0.getD s true=false∧((∃j,j ∈ depsOf md ops s∧j ∈ st)∨∀j,j ∈ E→j ∈ ancs md ops ops.size [s]):=fun s hs=>by
  have:=List.all_eq_true.1 k5 s hs;simp only [Bool.and_eq_true,Bool.not_eq_true',Bool.or_eq_true] at this;refine ⟨this.1,this.2.imp (fun h=>?_) (fun h j hj=>List.contains_iff_mem.1 (List.all_eq_true.1 h j hj))⟩;obtain ⟨j,h1,h2⟩:=List.any_eq_true.1 h;exact ⟨j,h1,List.contains_iff_mem.1 h2⟩
 simp only [slotsOk,Bool.and_eq_true,beq_iff_eq,decide_eq_true_eq] at hsl;obtain ⟨⟨hf,h2⟩,h3⟩:=hsl;have h1:(D.map Prod.fst).Nodup:=hf ▸ k0;have hput:∀i,i ∈ F→∀u v,(fill a0 D u).put (dstOf ops i) v=fill a0 D (updV u i v):=fun i hi u v=>by
  rw [←hf] at hi;obtain ⟨⟨i',d⟩,hp,rfl⟩:=List.mem_map.1 hi;have h4:=List.all_eq_true.1 h3 _ hp;rw [beq_iff_eq.1 h4];exact fill_put v h1 h2 hp
 have h0:fill a0 D (lies a0 D)=a0:=fill_lies (lies_at h1)
 -- at any time
 have main:∀(n:Nat) (listed:Array Bool) (u:Nat→Value) (w:World),left listed F≤n→listed.size=ops.size→(∀i,i ∉ F→listed.getD i false=listed0.getD i false)→(∀i j,listed.getD i false=true→j ∈ depsOf md ops i→listed.getD j false=true) →
   S w→Below w0.heap.size w0 w→(∀j,j ∈ F→listed.getD j false=true→G j (u j) w)→∀m,m=left listed F→wpAnyH P md ops Q S (m+fuel) listed (fill a0 D u) w:=by
  intro n
  induction n with
  | zero =>
   intro listed u w hn hsz hout hcl hw hb hg m hm;have hz:left listed F=0:=by omega
   have hall:=left_none hz;have hl:listed=fullOf ops st:=by
    apply Array.ext
    ·rw [hsz];simp [fullOf]
    ·intro i h1 h2;have hi:i<ops.size:=by omega
     have e1:listed[i]=listed.getD i false:=by simp [Array.getD,h1]
     have e2:(fullOf ops st)[i]=!(st.contains i):=by simp [fullOf]
     rw [e1,e2];by_cases hF:i ∈ F
     ·rw [hall i hF];have:=(k3' i hF).2.2.1;simp [this]
     ·rw [hout i hF];by_cases hs:i ∈ st
      ·have:=(k5' i hs).1;rw [getD_ft (by omega)] at this;rw [this];simp [hs]
      ·rcases k4' i hi with h | h | h
       ·rw [h];simp [hs]
       ·exact absurd h hF
       ·exact absurd h hs
   rw [hm,hz,Nat.zero_add,hl];exact hend u w hw hb (fun j hj=>hg j hj (hall j hj))
  | succ n ih =>
   intro listed u w hn hsz hout hcl hw hb hg m hm;by_cases hz:left listed F=0
   ·exact ih listed u w (by omega) hsz hout hcl hw hb hg m hm
   ·obtain ⟨m',rfl⟩:∃m',m=m'+1:=⟨m-1,by omega⟩
    -- one of F is ready
    have hex:=left_some hz;have hmin:∀b i,i≤b→i ∈ F→listed.getD i false=false→∃i,i ∈ F∧listed.getD i false=false∧∀j,j ∈ F→j<i→listed.getD j false=true:=by
     intro b
     induction b with
     | zero=>intro i hi hF hl;exact ⟨i,hF,hl,fun j _ hj=>by omega⟩
     | succ b ihb =>
      intro i hi hF hl;by_cases h:∃j,j ∈ F∧j<i∧listed.getD j false=false
      ·obtain ⟨j,h1,h2,h3⟩:=h;exact ihb j (by omega) h1 h3
      ·refine ⟨i,hF,hl,fun j h1 h2=>?_⟩;cases h3:listed.getD j false
       ·exact absurd ⟨j,h1,h2,h3⟩ h
       ·rfl
    obtain ⟨i0,hi0F,hi0l,hi0m⟩:∃i,i ∈ F∧listed.getD i false=false∧∀j,j ∈ F→j<i→listed.getD j false=true:=by
     obtain ⟨i0,h1,h2⟩:=hex;exact hmin i0 i0 (Nat.le_refl _) h1 h2
    have hrdy:i0 ∈ Region.ready md ops listed:=by
     obtain ⟨_,hlt,_,hd⟩:=k3' i0 hi0F;exact mem_ready.2 ⟨by rw [getD_ft (by omega)];exact hi0l,ops[i0],by simp [hlt],fun e he hb=>by
      obtain ⟨h1,h2⟩:=hd e.on (mem_deps.2 ⟨ops[i0],by simp [hlt],e,he,hb,rfl⟩);by_cases hFe:e.on ∈ F
      ·exact hi0m _ hFe h1
      ·rw [hout _ hFe];exact h2.resolve_right hFe⟩
    have hne:Region.ready md ops listed≠[]:=by
     intro h;rw [h] at hrdy;cases hrdy
    -- what is put down once an operation of F is carried out
    have next:∀i,i ∈ F→listed.getD i false=false→(∀j,j ∈ depsOf md ops i→listed.getD j false=true)→∀v w',Below w.heap.size w w'→G i v w'→S w'∧wpAnyH P md ops Q S (m'+fuel) (listed.setIfInBounds i true) ((fill a0 D u).put (dstOf ops i) v) w':=fun i hF hlf hdl v w' hb' hgi=>by
     have hlt:i<ops.size:=(k3' i hF).2.1;refine ⟨hS w w' hw hb',?_⟩;rw [hput i hF];have hlt':=left_set (by omega) hlf k0;simp only [hF,if_true] at hlt';have hset:∀j,j≠i→(listed.setIfInBounds i true).getD j false=listed.getD j false:=fun j hj=>getD_set_ne false (Ne.symm hj)
     have hseti:(listed.setIfInBounds i true).getD i false=true:=by simp [Array.getD,show i<listed.size by omega]
     refine ih (listed.setIfInBounds i true) (updV u i v) w' (by omega) (by simpa using hsz) (fun j hj=>?_) (fun j k hj hk=>?_) (hS w w' hw hb') (hb.trans (hb'.mono hb.size)) (fun j hj hl=>?_) m' (by omega)
     ·rw [hset j (fun e=>hj (e ▸ hF)),hout j hj]
     ·by_cases hji:j=i
      ·subst hji;exact getD_set_true (hdl k hk)
      ·rw [hset j hji] at hj;exact getD_set_true (hcl j k hj hk)
     ·by_cases hji:j=i
      ·subst hji;rw [updV_at];exact hgi
      ·rw [updV_ne hji];rw [hset j hji] at hl;exact hG j (u j) w w' (hg j hj hl) hb'
    by_cases hT0:i0 ∈ T
    ·-- taken at once
     obtain ⟨o,ho,hv⟩:=htake i0 hT0;have hdl0:∀j,j ∈ depsOf md ops i0→listed.getD j false=true:=fun j hj=>by
      obtain ⟨_,o',ho',hdep⟩:=mem_ready.1 hrdy;obtain ⟨o2,ho2,e,he,hb',rfl⟩:=mem_deps.1 hj;have:o2=o':=Option.some.inj (ho2.symm.trans ho');subst this;exact hdep e he hb'
     obtain ⟨v,hy,hgv⟩:=hv u w hw (fun j hj hd=>hg j (List.contains_iff_mem.1 hj) (hdl0 j (List.contains_iff_mem.1 hd)));have hfr:Region.free md ops listed i0=true:=free_more (List.all_eq_true.1 k6 i0 hT0) (fun j hj=>by
      by_cases hjl:j<ops.size
      ·have h1:(listed0.getD j false || (ancs md ops ops.size [i0]).contains j)=true:=by
        simpa [ancL,Array.getD,hjl] using hj
       rw [getD_ft (by omega)];rcases Bool.or_eq_true _ _ ▸ h1 with h1 | h1
       ·by_cases hjF:j ∈ F
        ·have h2:=(k3' j hjF).1;rw [getD_ft (by omega),h1] at h2;cases h2
        ·rw [hout j hjF];exact h1
       ·exact anc_listed hcl ops.size [i0] (fun k hk l hl=>by simp at hk;subst hk;exact hdl0 l hl) j (List.contains_iff_mem.1 h1)
      ·simp [Array.getD,show ¬j<listed.size by omega])
     have hnx:=(next i0 hi0F hi0l hdl0 v w (Below.refl _ _) hgv).2;have hdst:o.dst=dstOf ops i0:=by simp [dstOf,ho]
     rw [←hdst] at hnx;rw [show m'+1+fuel=(m'+fuel)+1 by omega];obtain ⟨d,hd⟩:∃d,o.dst=some d:=by
      have hi0D:=hi0F;rw [←hf] at hi0D;obtain ⟨⟨i',d⟩,hp,he⟩:=List.mem_map.1 hi0D;have h4:=List.all_eq_true.1 h3 _ hp;exact ⟨d,by rw [hdst,←he];exact beq_iff_eq.1 h4⟩
     exact wpAnyH_take ho hns hfr (by simpa using hrdy) (fun c a w h=>hQ0 c a d v w (by rw [←hd];exact h)) hy hw hnx
    rw [show m'+1+fuel=(m'+fuel)+1 by omega];refine ⟨fun h=>absurd h hne,fun i hi=>?_⟩;obtain ⟨hun,o,ho,hdep⟩:=mem_ready.1 hi;have hlt:i<ops.size:=(Array.getElem?_eq_some_iff.1 ho).1;have hlf:listed.getD i false=false:=by rw [←getD_ft (by omega)];exact hun
    have hdl:∀j,j ∈ depsOf md ops i→listed.getD j false=true:=fun j hj=>by
     obtain ⟨o',ho',e,he,hb',rfl⟩:=mem_deps.1 hj;have:o'=o:=Option.some.inj (ho'.symm.trans ho);subst this;exact hdep e he hb'
    by_cases hF:i ∈ F
    case neg =>
     exfalso;have h1:=hout i hF;rw [hlf] at h1;rcases k4' i hlt with h | h | h
     ·rw [h] at h1;cases h1
     ·exact hF h
     ·rcases (k5' i h).2 with ⟨j,hj,hjs⟩ | hanc
      ·have h2:=hdl j hj;have h3:=k5' j hjs;by_cases hjF:j ∈ F
       ·exact (k3' j hjF).2.2.1 hjs
       ·rw [hout j hjF] at h2;have h4:=h3.1;have hjl:j<listed0.size:=by
         rcases Nat.lt_or_ge j listed0.size with h | h
         ·exact h
         ·simp [Array.getElem?_eq_none h] at h2
        rw [getD_ft hjl,h2] at h4;cases h4
      ·have hE0:i0 ∈ E:=(inE i0 hi0F).resolve_right hT0;have:=anc_listed hcl ops.size [i] (fun k hk l hl=>by simp at hk;subst hk;exact hdl l hl) i0 (hanc i0 hE0);rw [hi0l] at this;cases this
    have hdst:o.dst=dstOf ops i:=by simp [dstOf,ho]
    rcases inE i hF with hE | hTi
    ·obtain ⟨o',ho',hst⟩:=hstep i hE;obtain rfl:o'=o:=Option.some.inj (ho'.symm.trans ho);refine wpOp_of ho ?_;refine hst u w hw hb (fun j hj hd=>hg j (List.contains_iff_mem.1 hj) (hdl j (List.contains_iff_mem.1 hd))) _ (fun v w' hb' hgi=>?_);rw [hdst];exact next i hF hlf hdl v w' hb' hgi
    ·obtain ⟨o',ho',hv⟩:=htake i hTi;obtain rfl:o'=o:=Option.some.inj (ho'.symm.trans ho);obtain ⟨v,hy,hgv⟩:=hv u w hw (fun j hj hd=>hg j (List.contains_iff_mem.1 hj) (hdl j (List.contains_iff_mem.1 hd)));refine hy.wpOp ho hw ?_;rw [hdst];exact next i hF hlf hdl v w (Below.refl _ _) hgv
 have hleft:left listed0 F=F.length:=left_all (fun i hi=>by
  have h1:=(k3' i hi).1;have h2:=(k3' i hi).2.1;rw [getD_ft (by omega)] at h1;exact h1)
 have:=main (left listed0 F) listed0 (lies a0 D) w0 (Nat.le_refl _) k1 (fun _ _=>rfl) k2' hS0 (Below.refl _ _) (fun j hj hl=>by
  have h1:=(k3' j hj).1;have h2:=(k3' j hj).2.1;rw [getD_ft (by omega),hl] at h1;cases h1) F.length hleft.symm
 rw [h0] at this;exact this
def RnE (K:Nat) (w:World) (s:Bool) (x:Option Addr) (n c:Nat) (y:Option Addr) (m d:Nat) (q:Rat):Prop:=∃f g,Rn K w s x n c f y m d g q
theorem RnE.below {K w w' s x n c y m d q} (h:RnE K w s x n c y m d q) (hb:Below w.heap.size w w'):RnE K w' s x n c y m d q:=by obtain ⟨f,g,h⟩:=h;exact ⟨f,g,Rn.below h hb⟩
theorem RnE.kp {K w w' s x n c y m d q} (h:RnE K w s x n c y m d q) (hb:Kp w w'):RnE K w' s x n c y m d q:=by obtain ⟨f,g,h⟩:=h;exact ⟨f,g,Rn.kp h hb⟩
theorem cell_ne {w w':World} {B b j:Nat} {v:Value} (hx:∀k,k≠B→w'.heap[k]?=w.heap[k]?) (hne:b≠B) (h:w.cell? ⟨b,j,none⟩=some v):w'.cell? ⟨b,j,none⟩=some v:=by
 simp only [World.cell?,hx b hne] at h ⊢;exact h
def GTw (K:Nat) (N:Mo) (v:Value) (w:World):Prop:=∃M':Mo,v=M'.val∧TmK K w N M'
def GIs (x:Value) (v:Value) (_:World):Prop:=v=x
def GBx (base:Nat) (zs:List Value) (ty:TypeId) (v:Value) (w:World):Prop:=∃bx,v=.pointer (some ⟨bx,0,none⟩)∧Bk w bx zs ty∧base≤bx
theorem GTw.below {K N v w w'} (h:GTw K N v w) (hb:Below w.heap.size w w'):GTw K N v w':=by obtain ⟨M',e,h⟩:=h;exact ⟨M',e,h.below hb⟩
theorem GBx.below {base zs ty v w w'} (h:GBx base zs ty v w) (hb:Below w.heap.size w w'):GBx base zs ty v w':=by obtain ⟨b,e,h,l⟩:=h;exact ⟨b,e,h.below hb,l⟩
structure Cn12 (w:World) (M:Mo) (a0 a1 a2 a3:Option Addr) (k0:Nat) (X0:Nat→Nm) (k1:Nat) (X1:Nat→Nm) (k2:Nat) (X2:Nat→Nm) (k3:Nat) (X3:Nat→Nm):Prop where
 x:MoX w M
 n:MoN M
 k:M.ck≤64→M.rk≤64→MoK 6 M
 h0:Rl w a0 k0 X0
 s0:ShK 6 k0 X0
 h1:Rl w a1 k1 X1
 s1:ShK 6 k1 X1
 h2:Rl w a2 k2 X2
 s2:ShK 6 k2 X2
 h3:Rl w a3 k3 X3
 s3:ShK 6 k3 X3
theorem MoX.ok12 {w:World} {M:Mo} (hX:MoX w M) (hN:MoN M) (hk:M.ck≤64→M.rk≤64→MoK 6 M) (he:chkE M=0):mvOk (csOf M) (rsOf M)=true:=by
 obtain ⟨l1,l2,_⟩:=chkE_ok he;exact ((hX.mor hN (hk l1 l2) (by decide) l1 l2).movC (hk l1 l2) he).2
end Go.Proofs.YtffblgeappcadaaGreat
