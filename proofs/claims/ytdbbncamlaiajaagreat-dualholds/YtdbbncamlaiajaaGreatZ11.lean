/-
 Models however long; the walk of the reference's Twin of a model (written by makers/f24.py). The walk of the reference's Form of a list of terms.
-/
import Derived.Test.YtdbbncamlaiajaaGreatZ0
import Derived.Test.YtdbbncamlaiajaaGreatZ10
import Derived.Test.YtdbbncamlaiajaaGreatZ8
import Derived.Test.YtdbbncamlaiajaaGreatZ6
import Derived.BigQuiet
import Derived.Deep.RegionHeld3
namespace Go.Proofs.YtdbbncamlaiajaaGreat
open Go.RowKit
def NmB (w:World) (t:Nm):Prop:=Rw w t.x t.n t.c t.f t.y t.m t.d t.g∧t.n≤17592186044416∧t.m≤17592186044416
theorem NmB.below {w w' t} (h:NmB w t) (hb:Below w.heap.size w w'):NmB w' t:=⟨h.1.below hb,h.2⟩
theorem NmB.kp {w w' t} (h:NmB w t) (hb:Kp w w'):NmB w' t:=⟨h.1.kp hb,h.2⟩
structure LcB (w:World) (c:Lc):Prop where
 cost:NmB w c.cost
 lo:NmB w c.lo.v
 hi:NmB w c.hi.v
theorem LcB.below {w w' c} (h:LcB w c) (hb:Below w.heap.size w w'):LcB w' c:=⟨h.cost.below hb,h.lo.below hb,h.hi.below hb⟩
theorem LcB.kp {w w' c} (h:LcB w c) (hb:Kp w w'):LcB w' c:=⟨h.cost.kp hb,h.lo.kp hb,h.hi.kp hb⟩
structure LrB (w:World) (r:Lr):Prop where
 lo:NmB w r.lo.v
 hi:NmB w r.hi.v
 tr:Tr w r.ta r.tk r.col r.T
 tk:r.tk≤2199023255552
 tn:∀p,p<r.tk→(r.T p).n≤17592186044416∧(r.T p).m≤17592186044416
theorem LrB.below {w w' c} (h:LrB w c) (hb:Below w.heap.size w w'):LrB w' c:=⟨h.lo.below hb,h.hi.below hb,h.tr.below hb,h.tk,h.tn⟩
theorem Tr.of {w w' ao k col T} (h:Tr w ao k col T) (hb:k≠0→∀b o s,ao=some ⟨b,o,s⟩→b<w.heap.size→w'.heap[b]?=w.heap[b]?) (hk:Kp w w'):Tr w' ao k col T:=fun j hj=>by
 obtain ⟨b,o,e,⟨c0,c1,c2,c3⟩,h2⟩:=h j hj;have:=hb (by omega) b o none e (World.block_lt_of_cell? w _ c0);exact ⟨b,o,e,⟨(World.cell?_of_block (a:=⟨b,o+j*4,none⟩) this).trans c0,(World.cell?_of_block (a:=⟨b,o+j*4+1,none⟩) this).trans c1,(World.cell?_of_block (a:=⟨b,o+j*4+2,none⟩) this).trans c2,(World.cell?_of_block (a:=⟨b,o+j*4+3,none⟩) this).trans c3⟩,h2.kp hk⟩
theorem LrB.of {w w' r} (h:LrB w r) (hb:r.tk≠0→∀b o s,r.ta=some ⟨b,o,s⟩→b<w.heap.size→w'.heap[b]?=w.heap[b]?) (hk:Kp w w'):LrB w' r:=⟨h.lo.kp hk,h.hi.kp hk,h.tr.of hb hk,h.tk,h.tn⟩
def Cl9 (w:World) (ao:Option Addr) (k:Nat) (C:Nat→Lc):Prop:=∀j,j<k→∃b o,ao=some ⟨b,o,none⟩∧Cs w b (o+j*12) (C j).vs∧LcB w (C j)
def Rl9 (w:World) (ao:Option Addr) (k:Nat) (R:Nat→Lr):Prop:=∀j,j<k→∃b o,ao=some ⟨b,o,none⟩∧Cs w b (o+j*10) (R j).vs∧LrB w (R j)
theorem Cl9.below {w w' ao k C} (h:Cl9 w ao k C) (hb:Below w.heap.size w w'):Cl9 w' ao k C:=fun j hj=>by
 obtain ⟨b,o,e,h1,h2⟩:=h j hj;exact ⟨b,o,e,h1.below hb,h2.below hb⟩
theorem Rl9.below {w w' ao k R} (h:Rl9 w ao k R) (hb:Below w.heap.size w w'):Rl9 w' ao k R:=fun j hj=>by
 obtain ⟨b,o,e,h1,h2⟩:=h j hj;exact ⟨b,o,e,h1.below hb,h2.below hb⟩
structure MoX (w:World) (M:Mo):Prop where
 off:NmB w M.off
 cls:Cl9 w M.ca M.ck M.C
 rls:Rl9 w M.ra M.rk M.R
 ck:M.ck≤703687441776
 rk:M.rk≤837723144971
theorem MoX.below {w w' M} (h:MoX w M) (hb:Below w.heap.size w w'):MoX w' M:=⟨h.off.below hb,h.cls.below hb,h.rls.below hb,h.ck,h.rk⟩
structure Sc (c c':Lc):Prop where
 nm:c'.nm=c.nm
 cost:Sn c.cost c'.cost
 li:c'.lo.i=c.lo.i
 lo:Sn c.lo.v c'.lo.v
 hi:c'.hi.i=c.hi.i
 hv:Sn c.hi.v c'.hi.v
structure Sr (r r':Lr):Prop where
 nm:r'.nm=r.nm
 li:r'.lo.i=r.lo.i
 lo:Sn r.lo.v r'.lo.v
 hi:r'.hi.i=r.hi.i
 hv:Sn r.hi.v r'.hi.v
 tk:r'.tk=r.tk
 col:r'.col=r.col
 T:∀p,p<r.tk→Sn (r.T p) (r'.T p)
structure Sm (M M':Mo):Prop where
 off:Sn M.off M'.off
 ck:M'.ck=M.ck
 C:∀j,j<M.ck→Sc (M.C j) (M'.C j)
 rk:M'.rk=M.rk
 R:∀j,j<M.rk→Sr (M.R j) (M'.R j)
def ccs (C:Nat→Lc):Nat→List Value
 | 0=>[]
 | i+1=>ccs C i++(C i).vs
def rcs (R:Nat→Lr):Nat→List Value
 | 0=>[]
 | i+1=>rcs R i++(R i).vs
theorem ccs_len (C:Nat→Lc):∀i,(ccs C i).length=i*12
 | 0=>rfl
 | i+1=>by unfold ccs;rw [List.length_append,ccs_len C i];show i*12+12=_;omega
theorem rcs_len (C:Nat→Lr):∀i,(rcs C i).length=i*10
 | 0=>rfl
 | i+1=>by unfold rcs;rw [List.length_append,rcs_len C i];show i*10+10=_;omega
theorem ccs_congr {C C':Nat→Lc}:∀{i:Nat},(∀j,j<i→C j=C' j)→ccs C i=ccs C' i
 | 0,_=>rfl
 | i+1,h=>by unfold ccs;rw [ccs_congr (fun j hj=>h j (by omega)),h i (by omega)]
theorem rcs_congr {C C':Nat→Lr}:∀{i:Nat},(∀j,j<i→C j=C' j)→rcs C i=rcs C' i
 | 0,_=>rfl
 | i+1,h=>by unfold rcs;rw [rcs_congr (fun j hj=>h j (by omega)),h i (by omega)]
theorem ccs_get {C:Nat→Lc} {j q:Nat} {v:Value} (hv:(C j).vs[q]?=some v):∀{i:Nat},j<i→(ccs C i)[j*12+q]?=some v
 | 0,h=>by omega
 | i+1,h=>by
  have hq:q<12:=(List.getElem?_eq_some_iff.1 hv).1;unfold ccs;by_cases e:j=i
  ·subst e;rw [List.getElem?_append_right (by rw [ccs_len];omega),ccs_len,Nat.add_sub_cancel_left];exact hv
  ·rw [List.getElem?_append_left (by rw [ccs_len];omega)];exact ccs_get hv (by omega)
theorem rcs_get {C:Nat→Lr} {j q:Nat} {v:Value} (hv:(C j).vs[q]?=some v):∀{i:Nat},j<i→(rcs C i)[j*10+q]?=some v
 | 0,h=>by omega
 | i+1,h=>by
  have hq:q<10:=(List.getElem?_eq_some_iff.1 hv).1;unfold rcs;by_cases e:j=i
  ·subst e;rw [List.getElem?_append_right (by rw [rcs_len];omega),rcs_len,Nat.add_sub_cancel_left];exact hv
  ·rw [List.getElem?_append_left (by rw [rcs_len];omega)];exact rcs_get hv (by omega)
def putC (C:Nat→Lc) (i:Nat) (c:Lc):Nat→Lc:=fun j=>if j=i then c else C j
theorem putC_at (C:Nat→Lc) (i:Nat) (c:Lc):putC C i c i=c:=by simp [putC]
theorem putC_ne {C:Nat→Lc} {i j:Nat} {c:Lc} (h:j≠i):putC C i c j=C j:=by simp [putC,h]
def putR' (C:Nat→Lr) (i:Nat) (c:Lr):Nat→Lr:=fun j=>if j=i then c else C j
theorem putR'_at (C:Nat→Lr) (i:Nat) (c:Lr):putR' C i c i=c:=by simp [putR']
theorem putR'_ne {C:Nat→Lr} {i j:Nat} {c:Lr} (h:j≠i):putR' C i c j=C j:=by simp [putR',h]
theorem ccs_put (C:Nat→Lc) (i:Nat) (c:Lc):ccs (putC C i c) (i+1)=ccs C i++c.vs:=by
 show ccs (putC C i c) i++(putC C i c i).vs=_;rw [putC_at,ccs_congr (C':=C) (fun j hj=>putC_ne (by omega))]
theorem rcs_put (C:Nat→Lr) (i:Nat) (c:Lr):rcs (putR' C i c) (i+1)=rcs C i++c.vs:=by
 show rcs (putR' C i c) i++(putR' C i c i).vs=_;rw [putR'_at,rcs_congr (C':=C) (fun j hj=>putR'_ne (by omega))]
theorem vsC_one (c:Lc):∀u ∈ c.vs,u.oneCell'=true:=by
 intro u hu;simp [Lc.vs] at hu;rcases hu with rfl | rfl | rfl | rfl | rfl | rfl | rfl | rfl | rfl | rfl | rfl | rfl <;> rfl
theorem vsC_not (c:Lc):∀u ∈ c.vs,∀q,u≠.int .u64 q:=by
 intro u hu q;simp [Lc.vs] at hu;rcases hu with rfl | rfl | rfl | rfl | rfl | rfl | rfl | rfl | rfl | rfl | rfl | rfl <;> simp
theorem vsR_one (c:Lr):∀u ∈ c.vs,u.oneCell'=true:=by
 intro u hu;simp [Lr.vs] at hu;rcases hu with rfl | rfl | rfl | rfl | rfl | rfl | rfl | rfl | rfl | rfl <;> rfl
theorem vsR_not (c:Lr):∀u ∈ c.vs,∀q,u≠.int .u64 q:=by
 intro u hu q;simp [Lr.vs] at hu;rcases hu with rfl | rfl | rfl | rfl | rfl | rfl | rfl | rfl | rfl | rfl <;> simp
def zC:Value:=.agg #[.string ByteArray.empty,.bool false,.slice none 0 0,.slice none 0 0,.int .i64 0,.bool false,.slice none 0 0,.slice none 0 0,.int .i64 0,.bool false,.slice none 0 0,.slice none 0 0]
def zR:Value:=.agg #[.string ByteArray.empty,.int .i64 0,.bool false,.slice none 0 0,.slice none 0 0,.int .i64 0,.bool false,.slice none 0 0,.slice none 0 0,.slice none 0 0]
theorem Tryz.infoCol:(Tryz.prog.info? 65).map (fun i=>(i.zero,i.size,i.bytes))=some (some zC,12,200):=by kernel_rfl
theorem Tryz.infoRow:(Tryz.prog.info? 68).map (fun i=>(i.zero,i.size,i.bytes))=some (some zR,10,168):=by kernel_rfl
def nz9:Nm:=⟨false,none,0,0,fun _=>0,none,0,0,fun _=>0⟩
theorem nzC:NoU zC.cells:=nou_list (l:=(Lc.mk ByteArray.empty nz9 ⟨0,nz9⟩ ⟨0,nz9⟩).vs) (vsC_not _)
theorem nzR:NoU zR.cells:=nou_list (l:=(Lr.mk ByteArray.empty ⟨0,nz9⟩ ⟨0,nz9⟩ none 0 0 (fun _=>0) (fun _=>nz9)).vs) (vsR_not _)
def TN (t:Nm) (v:Value) (w:World):Prop:=∃t':Nm,v=t'.val∧Sn t t'∧NmB w t'
def TE (e:Ex) (v:Value) (w:World):Prop:=∃e':Ex,v=e'.val∧e'.i=e.i∧Sn e.v e'.v∧NmB w e'.v
def TC (c:Lc) (v:Value) (w:World):Prop:=∃c':Lc,v=.agg c'.vs.toArray∧Sc c c'∧LcB w c'
def TCs (c:Lc) (v:Value) (w:World):Prop:=∃b,∃c':Lc,v=.slice (some ⟨b,0,none⟩) 1 1∧Cs w b 0 c'.vs∧Sc c c'∧LcB w c'
def TT (base:Nat) (ta:Option Addr) (tk:Nat) (col:Nat→Int) (T:Nat→Nm) (v:Value) (w:World):Prop:=∃aw cw T',v=.slice aw tk cw∧(∀b o s,aw=some ⟨b,o,s⟩→base≤b)∧Tr w aw tk col T'∧(∀j,j<tk→Sn (T j) (T' j))∧ta=ta
def TR (base:Nat) (r:Lr) (v:Value) (w:World):Prop:=∃r':Lr,v=.agg r'.vs.toArray∧Sr r r'∧LrB w r'∧∀b o s,r'.ta=some ⟨b,o,s⟩→base≤b
def TRs (base:Nat) (r:Lr) (v:Value) (w:World):Prop:=∃b,∃r':Lr,v=.slice (some ⟨b,0,none⟩) 1 1∧Cs w b 0 r'.vs∧Sr r r'∧LrB w r'∧∀b o s,r'.ta=some ⟨b,o,s⟩→base≤b
theorem TN.below {t v w w'} (h:TN t v w) (hb:Below w.heap.size w w'):TN t v w':=by obtain ⟨t',h1,h2,h3⟩:=h;exact ⟨t',h1,h2,h3.below hb⟩
theorem TE.below {t v w w'} (h:TE t v w) (hb:Below w.heap.size w w'):TE t v w':=by obtain ⟨t',h1,h2,h3,h4⟩:=h;exact ⟨t',h1,h2,h3,h4.below hb⟩
theorem TC.below {t v w w'} (h:TC t v w) (hb:Below w.heap.size w w'):TC t v w':=by obtain ⟨t',h1,h2,h3⟩:=h;exact ⟨t',h1,h2,h3.below hb⟩
theorem TCs.below {t v w w'} (h:TCs t v w) (hb:Below w.heap.size w w'):TCs t v w':=by obtain ⟨b,t',h1,h2,h3,h4⟩:=h;exact ⟨b,t',h1,h2.below hb,h3,h4.below hb⟩
theorem TT.below {base ta tk col T v w w'} (h:TT base ta tk col T v w) (hb:Below w.heap.size w w'):TT base ta tk col T v w':=by obtain ⟨aw,cw,T',h1,h2,h3,h4⟩:=h;exact ⟨aw,cw,T',h1,h2,h3.below hb,h4⟩
theorem TR.below {base t v w w'} (h:TR base t v w) (hb:Below w.heap.size w w'):TR base t v w':=by obtain ⟨t',h1,h2,h3,h4⟩:=h;exact ⟨t',h1,h2,h3.below hb,h4⟩
theorem TRs.below {base t v w w'} (h:TRs base t v w) (hb:Below w.heap.size w w'):TRs base t v w':=by obtain ⟨b,t',h1,h2,h3,h4,h5⟩:=h;exact ⟨b,t',h1,h2.below hb,h3,h4.below hb,h5⟩
structure TwC (w:World) (base b1 b2 b3:Nat) (P Z:List Value) (so:Bool) (zx:Option Addr) (zn zc:Nat) (zy:Option Addr) (zm zd:Nat) (oN:Nm) (C:Nat→Lc) (wr:World) (i:Nat) (C':Nat→Lc) (vC:Value):Prop where
 bel:Below w.heap.size w wr
 p1:Bk wr b1 P 28
 p2:Bk wr b2 Z 28
 p3:Bk wr b3 [.bool so,.slice zx zn zc,.slice zy zm zd,vC,.slice none 0 0] 28
 bs:base≤wr.heap.size
 off:NmB wr oN
 row:RowG 65 12 base wr vC i (ccs C' i)
 el:∀j,j<i→Sc (C j) (C' j)∧LcB wr (C' j)
theorem TwC.below {w base b1 b2 b3 P Z so zx zn zc zy zm zd oN C wr i C' vC w'} (h:TwC w base b1 b2 b3 P Z so zx zn zc zy zm zd oN C wr i C' vC) (hb:Below wr.heap.size wr w'):TwC w base b1 b2 b3 P Z so zx zn zc zy zm zd oN C w' i C' vC :=
 ⟨h.bel.trans (hb.mono h.bel.size),h.p1.below hb,h.p2.below hb,h.p3.below hb,Nat.le_trans h.bs hb.size,h.off.below hb,h.row.below hb,fun j hj=>⟨(h.el j hj).1,(h.el j hj).2.below hb⟩⟩
theorem TwC.next {w base b1 b2 b3 P Z so zx zn zc zy zm zd oN C wr i C' vC w8 g8 cap8} {c' : Lc} (h : TwC w base b1 b2 b3 P Z so zx zn zc zy zm zd oN C wr i C' vC) (h12 : b1 < b2) (h23 : b2 < b3) (h3b : b3 < base) (hwb : w.heap.size ≤ b1) (hs : Sc (C i) c') (hc : LcB wr c')
    (hr : RowG 65 12 base w8 (.slice (some ⟨g8, 0, none⟩) (i + 1) cap8) (i + 1) (ccs C' i ++ c'.vs)) (hk : Kp wr w8) (hg : wr.grownBy w8 vC.ownBlock) :
    TwC w base b1 b2 b3 P Z so zx zn zc zy zm zd oN C (w8.setCell ⟨b3, 3, none⟩ (.slice (some ⟨g8, 0, none⟩) (i + 1) cap8)) (i + 1) (putC C' i c') (.slice (some ⟨g8, 0, none⟩) (i + 1) cap8) := by
  have hbs := h.bs
  have hlt : ∀ k, k < base → w8.heap[k]? = wr.heap[k]? := fun k hk => hg.block k (by omega) (fun e => by have := (h.row.lt k e.symm).1; omega)
  have hset : ∀ k, k ≠ b3 → (w8.setCell ⟨b3, 3, none⟩ (.slice (some ⟨g8, 0, none⟩) (i + 1) cap8)).heap[k]? = w8.heap[k]? := fun k hk => Below.heap_setCell _ _ _ _ hk
  have hp3 : Bk w8 b3 [.bool so, .slice zx zn zc, .slice zy zm zd, vC, .slice none 0 0] 28 := h.p3.of (hlt b3 h3b)
  have hg8 := (hr.lt g8 rfl).1
  have hk9 : Kp wr (w8.setCell ⟨b3, 3, none⟩ (.slice (some ⟨g8, 0, none⟩) (i + 1) cap8)) := hk.set (x := ⟨b3, 3, none⟩) hp3 (by obtain ⟨aw, cw, e⟩ := h.row.slice; rw [e]; exact nou5 _ _ _ _ _ _ _ _ _ _ _ _ _) _
  refine ⟨?_, h.p1.of ((hset b1 (by omega)).trans (hlt b1 (by omega))), h.p2.of ((hset b2 (by omega)).trans (hlt b2 (by omega))), hp3.set 3 _, Nat.le_trans hbs hk9.size, h.off.kp hk9, ?_, fun j hj => ?_⟩
  · have h8 : Below w.heap.size w w8 := h.bel.grown hg (by have := h.bel.size; omega) (fun k e => by have := (h.row.lt k e).1; omega)
    exact below_turned h8 h8.size ((Turned.refl w.heap.size (b3 + 1) w8).set (x := ⟨b3, 3, none⟩) (by show w.heap.size ≤ b3; omega) (by simp) _) (Nat.le_refl _)
  · rw [ccs_put]
    exact hr.of (fun k hk => hset k (fun e => by have : g8 = k := by simpa [Value.ownBlock] using hk
                                                 omega))
  · by_cases e : j = i
    · subst e; rw [putC_at]; exact ⟨hs, hc.kp hk9⟩
    · rw [putC_ne e]; exact ⟨(h.el j (by omega)).1, (h.el j (by omega)).2.kp hk9⟩
structure TwR (w:World) (base base2 b2 b3:Nat) (Z:List Value) (so:Bool) (zx:Option Addr) (zn zc:Nat) (zy:Option Addr) (zm zd:Nat) (oN:Nm) (C:Nat→Lc) (ck:Nat) (C':Nat→Lc) (vC:Value) (R:Nat→Lr) (wr:World) (i:Nat) (R':Nat→Lr) (vR:Value):Prop where
 bel:Below w.heap.size w wr
 p2:Bk wr b2 Z 28
 p3:Bk wr b3 [.bool so,.slice zx zn zc,.slice zy zm zd,vC,vR] 28
 bs:base2≤wr.heap.size
 off:NmB wr oN
 rowC:RowG 65 12 base wr vC ck (ccs C' ck)
 elC:∀j,j<ck→Sc (C j) (C' j)∧LcB wr (C' j)
 nv:∀k,vC.ownBlock=some k→k<base2
 row:RowG 68 10 base2 wr vR i (rcs R' i)
 el:∀j,j<i→Sr (R j) (R' j)∧LrB wr (R' j)∧((R' j).tk≠0→∀b o s,(R' j).ta=some ⟨b,o,s⟩→base2≤b∧vR.ownBlock≠some b)
theorem TwR.below {w base base2 b2 b3 Z so zx zn zc zy zm zd oN C ck C' vC R wr i R' vR w'} (h:TwR w base base2 b2 b3 Z so zx zn zc zy zm zd oN C ck C' vC R wr i R' vR) (hb:Below wr.heap.size wr w'):TwR w base base2 b2 b3 Z so zx zn zc zy zm zd oN C ck C' vC R w' i R' vR :=
 ⟨h.bel.trans (hb.mono h.bel.size),h.p2.below hb,h.p3.below hb,Nat.le_trans h.bs hb.size,h.off.below hb,h.rowC.below hb,fun j hj=>⟨(h.elC j hj).1,(h.elC j hj).2.below hb⟩,h.nv,h.row.below hb,fun j hj=>⟨(h.el j hj).1,(h.el j hj).2.1.below hb,(h.el j hj).2.2⟩⟩
theorem Tr.lt {w ta tk col T} (h:Tr w ta tk col T) (hk:tk≠0):∀b o s,ta=some ⟨b,o,s⟩→b<w.heap.size:=fun b o s e=>by
 obtain ⟨b',o',e',h4,_⟩:=h 0 (by omega);rw [e] at e';cases e'
 exact World.block_lt_of_cell? w _ h4.x0
theorem TwR.next {w base base2 b2 b3 Z so zx zn zc zy zm zd oN C ck C' vC R wr i R' vR w8 g8 cap8} {r' : Lr} (h : TwR w base base2 b2 b3 Z so zx zn zc zy zm zd oN C ck C' vC R wr i R' vR) (h23 : b2 < b3) (h3b : b3 < base2) (hbb : b3 < base) (hwb : w.heap.size ≤ b2) (hs : Sr (R i) r') (hc : LrB wr r')
    (hta : r'.tk ≠ 0 → ∀ b o s, r'.ta = some ⟨b, o, s⟩ → base2 ≤ b ∧ vR.ownBlock ≠ some b)
    (hr : RowG 68 10 base2 w8 (.slice (some ⟨g8, 0, none⟩) (i + 1) cap8) (i + 1) (rcs R' i ++ r'.vs)) (hk : Kp wr w8) (hg : wr.grownBy w8 vR.ownBlock) (hl : vR.ownBlock = some g8 ∨ wr.heap.size ≤ g8) :
    TwR w base base2 b2 b3 Z so zx zn zc zy zm zd oN C ck C' vC R (w8.setCell ⟨b3, 4, none⟩ (.slice (some ⟨g8, 0, none⟩) (i + 1) cap8)) (i + 1) (putR' R' i r') (.slice (some ⟨g8, 0, none⟩) (i + 1) cap8) := by
  have hbs := h.bs
  have hlt : ∀ k, k < base2 → w8.heap[k]? = wr.heap[k]? := fun k hk => hg.block k (by omega) (fun e => by have := (h.row.lt k e.symm).1; omega)
  have hset : ∀ k, k ≠ b3 → (w8.setCell ⟨b3, 4, none⟩ (.slice (some ⟨g8, 0, none⟩) (i + 1) cap8)).heap[k]? = w8.heap[k]? := fun k hk => Below.heap_setCell _ _ _ _ hk
  have hp3 : Bk w8 b3 [.bool so, .slice zx zn zc, .slice zy zm zd, vC, vR] 28 := h.p3.of (hlt b3 h3b)
  have hg8 := (hr.lt g8 rfl).1
  have hk9 : Kp wr (w8.setCell ⟨b3, 4, none⟩ (.slice (some ⟨g8, 0, none⟩) (i + 1) cap8)) := hk.set (x := ⟨b3, 4, none⟩) hp3 (by obtain ⟨aw, cw, e⟩ := h.row.slice; obtain ⟨aw2, cw2, e2⟩ := h.rowC.slice; rw [e, e2]; exact nou5 _ _ _ _ _ _ _ _ _ _ _ _ _) _
  have hta8 : ∀ r : Lr, LrB wr r → (r.tk ≠ 0 → ∀ b o s, r.ta = some ⟨b, o, s⟩ → base2 ≤ b ∧ vR.ownBlock ≠ some b) → LrB (w8.setCell ⟨b3, 4, none⟩ (.slice (some ⟨g8, 0, none⟩) (i + 1) cap8)) r ∧ (r.tk ≠ 0 → ∀ b o s, r.ta = some ⟨b, o, s⟩ → base2 ≤ b ∧ (Value.slice (some ⟨g8, 0, none⟩) (i + 1) cap8).ownBlock ≠ some b) := fun r h1 h2 => by
    refine ⟨h1.of (fun h3 b o s e hb => ?_) hk9, fun h3 b o s e => ?_⟩
    · obtain ⟨k1, k2⟩ := h2 h3 b o s e
      rw [hset b (by omega)]
      exact hg.block b hb (fun e => k2 e.symm)
    · obtain ⟨k1, k2⟩ := h2 h3 b o s e
      refine ⟨k1, fun e2 => ?_⟩
      have e3 : g8 = b := by simpa [Value.ownBlock] using e2
      rcases hl with h4 | h4
      · exact k2 (e3 ▸ h4)
      · have := h1.tr.lt h3 b o s e; omega
  refine ⟨?_, h.p2.of ((hset b2 (by omega)).trans (hlt b2 (by omega))), hp3.set 4 _, Nat.le_trans hbs hk9.size, h.off.kp hk9, h.rowC.of (fun k hk => ?_), fun j hj => ⟨(h.elC j hj).1, (h.elC j hj).2.kp hk9⟩, h.nv, ?_, fun j hj => ?_⟩
  · have h8 : Below w.heap.size w w8 := h.bel.grown hg (by have := h.bel.size; omega) (fun k e => by have := (h.row.lt k e).1; omega)
    exact below_turned h8 h8.size ((Turned.refl w.heap.size (b3 + 1) w8).set (x := ⟨b3, 4, none⟩) (by show w.heap.size ≤ b3; omega) (by simp) _) (Nat.le_refl _)
  · have := (h.rowC.lt k hk).1
    rw [hset k (by omega)]; exact hlt k (h.nv k hk)
  · rw [rcs_put]
    exact hr.of (fun k hk => hset k (fun e => by have : g8 = k := by simpa [Value.ownBlock] using hk
                                                 omega))
  · by_cases e : j = i
    · subst e; rw [putR'_at]; exact ⟨hs, hta8 r' hc hta⟩
    · rw [putR'_ne e]; exact ⟨(h.el j (by omega)).1, hta8 _ (h.el j (by omega)).2.1 (h.el j (by omega)).2.2⟩
theorem TwR.done {w base base2 b2 b3 so zx zn zc zy zm zd oN C ck C' R rk R' wr aC cC aR cR w9 ca cc ra rc v0 v1 v2 v3 v4} {N:Nm} (h:TwR w base base2 b2 b3 [.bool false,.slice none 0 0,.slice none 0 0,.slice none 0 0,.slice none 0 0] so zx zn zc zy zm zd oN C ck C' (.slice aC ck cC) R wr rk R' (.slice aR rk cR)) (h2:b2<base) (h22:b2<base2) (hwb:w.heap.size≤b2)
  (e:w9=((((wr.setCell ⟨b2,0,none⟩ v0).setCell ⟨b2,1,none⟩ v1).setCell ⟨b2,2,none⟩ v2).setCell ⟨b2,3,none⟩ v3).setCell ⟨b2,4,none⟩ v4) (ho:Sn N oN) (hck:ck≤703687441776) (hrk:rk≤837723144971) :
  Below w.heap.size w w9∧Sm ⟨N,ca,ck,cc,C,ra,rk,rc,R⟩ ⟨oN,aC,ck,cC,C',aR,rk,cR,R'⟩∧MoX w9 ⟨oN,aC,ck,cC,C',aR,rk,cR,R'⟩:=by
 obtain ⟨hk,hne⟩:=kp_st5 h.p2 (nou5 _ _ _ _ _ _ _ _ _ _ _ _ _) e;refine ⟨by rw [e];exact below_st5 h.bel hwb,⟨ho,rfl,fun j hj=>(h.elC j hj).1,rfl,fun j hj=>(h.el j hj).1⟩,h.off.kp hk,fun j hj=>?_,fun j hj=>?_,hck,hrk⟩
 ·rcases h.rowC.2 with ⟨_,h0⟩ | ⟨gb,cap,cur,hv,hb,_⟩
  ·exact absurd hj (by rw [h0];exact Nat.not_lt_zero _)
  ·have hr:=h.rowC.of (w':=w9) (fun k hk=>hne k (by have:=(h.rowC.lt k hk).1;omega));cases hv
   refine ⟨gb,0,rfl,fun q v hq=>?_,(h.elC j hj).2.kp hk⟩;rw [Nat.zero_add];exact hr.cells (ccs_get hq hj)
 ·rcases h.row.2 with ⟨_,h0⟩ | ⟨gb,cap,cur,hv,hb,_⟩
  ·exact absurd hj (by rw [h0];exact Nat.not_lt_zero _)
  ·have hr:=h.row.of (w':=w9) (fun k hk=>hne k (by have:=(h.row.lt k hk).1;omega));cases hv
   refine ⟨gb,0,rfl,fun q v hq=>?_,(h.el j hj).2.1.of (fun h3 b o s e _=>hne b (by have:=((h.el j hj).2.2 h3 b o s e).1;omega)) hk⟩;rw [Nat.zero_add];exact hr.cells (rcs_get hq hj)
set_option maxRecDepth 100000 in
set_option maxHeartbeats 8000000 in
theorem mTwin_c {w:World} {M:Mo} (h:MoX w M):Calls Tryz.prog 9 #[M.val] w fun e w'=>∃M':Mo,e=.returned M'.val∧Below w.heap.size w w'∧Sm M M'∧MoX w' M':=by
 generalize hP:(fun (e:Ending) (w':World)=>∃M':Mo,e=.returned M'.val∧Below w.heap.size w w'∧Sm M M'∧MoX w' M')=P;have HA:Hid (∀w' (M':Mo),Below w.heap.size w w'→Sm M M'→MoX w' M'→P (.returned M'.val) w'):=by subst hP;exact fun w' M' h1 h2 h3=>⟨M',rfl,h1,h2,h3⟩
 clear hP;obtain ⟨ho,hC,hR,hck,hrk⟩:=h;obtain ⟨⟨s,x,n,c,f,y,m,d,g⟩,ca,ck,cc,C,ra,rk,rc,R⟩:=M;replace hck:ck≤703687441776:=hck;replace hrk:rk≤837723144971:=hrk;have HC:Hid (Cl9 w ca ck C):=hC;have HRL:Hid (Rl9 w ra rk R):=hR;have CO:=hid (fun w' (hw:Below w.heap.size w w')=>qTwin_c (w:=w') (s:=s) (ho.below hw).1 ho.2.1 ho.2.2);have HO:=hid ho.2;clear ho hC hR;show Calls Tryz.prog 9 #[.agg #[.bool s,.slice x n c,.slice y m d,.slice ca ck cc,.slice ra rk rc]] w _;go_enter Tryz.func9,Tryz.ntmps9;go_wp2_with fail
 have hb1:=below_alloc (below_alloc (Below.refl w.heap.size w) (.cells #[.bool s,.slice x n c,.slice y m d,.slice ca ck cc,.slice ra rk rc] 28)) (.cells #[.bool false,.slice none 0 0,.slice none 0 0,.slice none 0 0,.slice none 0 0] 28);have B1:=(bk_new w [.bool s,.slice x n c,.slice y m d,.slice ca ck cc,.slice ra rk rc] 28).below (below_alloc (Below.refl _ _) (.cells #[.bool false,.slice none 0 0,.slice none 0 0,.slice none 0 0,.slice none 0 0] 28));have B2:=bk_new (w.alloc (.cells #[.bool s,.slice x n c,.slice y m d,.slice ca ck cc,.slice ra rk rc] 28)) [.bool false,.slice none 0 0,.slice none 0 0,.slice none 0 0,.slice none 0 0] 28;rw [size_alloc1] at B2;replace B1:Bk ((w.alloc (.cells #[.bool s,.slice x n c,.slice y m d,.slice ca ck cc,.slice ra rk rc] 28)).alloc (.cells #[.bool false,.slice none 0 0,.slice none 0 0,.slice none 0 0,.slice none 0 0] 28)) w.heap.size [.bool s,.slice x n c,.slice y m d,.slice ca ck cc,.slice ra rk rc] 28:=B1;replace B2:Bk ((w.alloc (.cells #[.bool s,.slice x n c,.slice y m d,.slice ca ck cc,.slice ra rk rc] 28)).alloc (.cells #[.bool false,.slice none 0 0,.slice none 0 0,.slice none 0 0,.slice none 0 0] 28)) (w.heap.size+1) [.bool false,.slice none 0 0,.slice none 0 0,.slice none 0 0,.slice none 0 0] 28:=B2;generalize (w.alloc (.cells #[.bool s,.slice x n c,.slice y m d,.slice ca ck cc,.slice ra rk rc] 28)).alloc (.cells #[.bool false,.slice none 0 0,.slice none 0 0,.slice none 0 0,.slice none 0 0] 28)=w1 at *;refine (CO.out _ hb1).mono ?_;rintro e w2 ⟨z2,c2,y2,d2,rfl,hb2,hq⟩;have B3:=bk_new w2 [.bool s,.slice z2 n c2,.slice y2 m d2,.slice none 0 0,.slice none 0 0] 28;have hb3:=below_alloc (Below.refl w2.heap.size w2) (.cells #[.bool s,.slice z2 n c2,.slice y2 m d2,.slice none 0 0,.slice none 0 0] 28);have l1:=B1.lt;have l2:=B2.lt;have l3:=hb2.size
 replace B1:=(B1.below hb2).below hb3;replace B2:=(B2.below hb2).below hb3
 have HB3:=hid ((hb1.trans (hb2.mono hb1.size)).trans (hb3.mono (Nat.le_trans hb1.size hb2.size)));have HQ:Hid (NmB (w2.alloc (.cells #[.bool s,.slice z2 n c2,.slice y2 m d2,.slice none 0 0,.slice none 0 0] 28)) ⟨s,z2,n,c2,f,y2,m,d2,g⟩):=⟨hq.out.below hb3,HO.out⟩;have k3:=B1.cell (j:=3) rfl;have HB1:=hid B1;have HB2:=hid B2
 obtain ⟨b3,hb3e⟩:∃z,w2.heap.size=z:=⟨_,rfl⟩;have hl3:w.heap.size+1<b3:=by omega
 have hbs:b3<(w2.alloc (.cells #[.bool s,.slice z2 n c2,.slice y2 m d2,.slice none 0 0,.slice none 0 0] 28)).heap.size:=by simp;omega
 clear hb1 hb2 hb3 B1 B2 CO hq l1 l2 l3;go_wp2_with fail
 generalize w2.alloc (.cells #[.bool s,.slice z2 n c2,.slice y2 m d2,.slice none 0 0,.slice none 0 0] 28)=w3 at *;rw [hb3e] at B3;obtain ⟨base,hbase⟩:∃z,w3.heap.size=z:=⟨_,rfl⟩;have hbb:b3<base:=by omega
 have HI0:Hid (TwC w base w.heap.size (w.heap.size+1) b3 [.bool s,.slice x n c,.slice y m d,.slice ca ck cc,.slice ra rk rc] [.bool false,.slice none 0 0,.slice none 0 0,.slice none 0 0,.slice none 0 0] s z2 n c2 y2 m d2 ⟨s,z2,n,c2,f,y2,m,d2,g⟩ C w3 0 C (.slice none 0 0)):=⟨HB3.out,HB1.out,HB2.out,B3,by omega,HQ.out,rowG_nil _ _ _ _,fun j hj=>by omega⟩;clear HB3 HB1 HB2 B3 HQ k3 hb3e hbs hbase;go_loopw [15] (fun t wr=>∃(i:Nat) (C':Nat→Lc) (vC:Value),i≤ck∧t=.int .i64 i∧Hid (TwC w base w.heap.size (w.heap.size+1) b3 [.bool s,.slice x n c,.slice y m d,.slice ca ck cc,.slice ra rk rc] [.bool false,.slice none 0 0,.slice none 0 0,.slice none 0 0,.slice none 0 0] s z2 n c2 y2 m d2 ⟨s,z2,n,c2,f,y2,m,d2,g⟩ C wr i C' vC)) (fun t _=>ck-(intOf t).toNat)
 case atStart=>exact ⟨0,C,_,by omega,rfl,HI0.out⟩
 case round =>
  obtain ⟨i,C',vC,hi,rfl,HI⟩:=hrel;clear HI0;by_cases hlt:i<ck
  ·obtain ⟨b,o,rfl,hc,hn⟩:=(HC.out.below HI.out.bel) i hlt;obtain ⟨cN,hcN⟩:∃t,C i=t:=⟨_,rfl⟩;rw [hcN] at hc hn;have HCN:=hid hcN;obtain ⟨z,⟨s0,x0,n0,c0,f0,y0,m0,d0,g0⟩,⟨i1,⟨s1,x1,n1,c1,f1,y1,m1,d1,g1⟩⟩,⟨i2,⟨s2,x2,n2,c2',f2,y2',m2,d2',g2⟩⟩⟩:=cN;obtain ⟨hn0,hn1,hn2⟩:=hn;have q0:wr.cell? ⟨b,o+i*12,none⟩=some (.string z):=hc 0 _ rfl;have q1:wr.cell? ⟨b,o+i*12+1,none⟩=some (.bool s0):=hc 1 _ rfl;have q2:wr.cell? ⟨b,o+i*12+2,none⟩=some (.slice x0 n0 c0):=hc 2 _ rfl;have q3:wr.cell? ⟨b,o+i*12+3,none⟩=some (.slice y0 m0 d0):=hc 3 _ rfl;have q4:wr.cell? ⟨b,o+i*12+4,none⟩=some (.int .i64 i1):=hc 4 _ rfl;have q5:wr.cell? ⟨b,o+i*12+5,none⟩=some (.bool s1):=hc 5 _ rfl;have q6:wr.cell? ⟨b,o+i*12+6,none⟩=some (.slice x1 n1 c1):=hc 6 _ rfl;have q7:wr.cell? ⟨b,o+i*12+7,none⟩=some (.slice y1 m1 d1):=hc 7 _ rfl;have q8:wr.cell? ⟨b,o+i*12+8,none⟩=some (.int .i64 i2):=hc 8 _ rfl;have q9:wr.cell? ⟨b,o+i*12+9,none⟩=some (.bool s2):=hc 9 _ rfl;have q10:wr.cell? ⟨b,o+i*12+10,none⟩=some (.slice x2 n2 c2'):=hc 10 _ rfl;have q11:wr.cell? ⟨b,o+i*12+11,none⟩=some (.slice y2' m2 d2'):=hc 11 _ rfl;have HN0:Hid (NmB wr ⟨s0,x0,n0,c0,f0,y0,m0,d0,g0⟩):=hn0;have HN1:Hid (NmB wr ⟨s1,x1,n1,c1,f1,y1,m1,d1,g1⟩):=hn1;have HN2:Hid (NmB wr ⟨s2,x2,n2,c2',f2,y2',m2,d2',g2⟩):=hn2;have i1':((i:Nat):Int)<((ck:Nat):Int):=by omega
   clear hcN hc hn0 hn1 hn2;go_upto_region 5 with fail
   have hb5:=Below.drew (below_alloc (Below.refl wr.heap.size wr) (.cells #[.string z,.bool s0,.slice x0 n0 c0,.slice y0 m0 d0,.int .i64 i1,.bool s1,.slice x1 n1 c1,.slice y1 m1 d1,.int .i64 i2,.bool s2,.slice x2 n2 c2',.slice y2' m2 d2'] 65));have B5:Bk (wr.alloc (.cells #[.string z,.bool s0,.slice x0 n0 c0,.slice y0 m0 d0,.int .i64 i1,.bool s1,.slice x1 n1 c1,.slice y1 m1 d1,.int .i64 i2,.bool s2,.slice x2 n2 c2',.slice y2' m2 d2'] 65)).drew wr.heap.size [.string z,.bool s0,.slice x0 n0 c0,.slice y0 m0 d0,.int .i64 i1,.bool s1,.slice x1 n1 c1,.slice y1 m1 d1,.int .i64 i2,.bool s2,.slice x2 n2 c2',.slice y2' m2 d2'] 65:=bk_new wr [.string z,.bool s0,.slice x0 n0 c0,.slice y0 m0 d0,.int .i64 i1,.bool s1,.slice x1 n1 c1,.slice y1 m1 d1,.int .i64 i2,.bool s2,.slice x2 n2 c2',.slice y2' m2 d2'] 65;have hne:vC.ownBlock≠some wr.heap.size:=fun e=>by have:=(HI.out.row.lt _ e).2;omega
   have hbz:=HI.out.bs;replace HI:=hid (HI.out.below hb5);replace HN0:=hid (HN0.out.below hb5);replace HN1:=hid (HN1.out.below hb5);replace HN2:=hid (HN2.out.below hb5)
   have a0:=B5.cell (j:=0) rfl;have a1:=B5.cell (j:=1) rfl;have a2:=B5.cell (j:=2) rfl;have a3:=B5.cell (j:=3) rfl;have a4:=B5.cell (j:=4) rfl;have a5:=B5.cell (j:=5) rfl;have a6:=B5.cell (j:=6) rfl;have a7:=B5.cell (j:=7) rfl;have a8:=B5.cell (j:=8) rfl;have a9:=B5.cell (j:=9) rfl;have a10:=B5.cell (j:=10) rfl;have a11:=B5.cell (j:=11) rfl;have HB5:=hid B5;obtain ⟨bk,hbk⟩:∃z,wr.heap.size=z:=⟨_,rfl⟩;simp only [hbk] at *;clear hb5 hbk q0 q1 q2 q3 q4 q5 q6 q7 q8 q9 q10 q11 B5;refine wp_region_held_drew (S:=(fun w'=>w'.cell? ⟨bk,0,none⟩=some (.string z)∧w'.cell? ⟨bk,1,none⟩=some (.bool s0)∧w'.cell? ⟨bk,2,none⟩=some (.slice x0 n0 c0)∧w'.cell? ⟨bk,3,none⟩=some (.slice y0 m0 d0)∧w'.cell? ⟨bk,4,none⟩=some (.int .i64 i1)∧w'.cell? ⟨bk,5,none⟩=some (.bool s1)∧w'.cell? ⟨bk,6,none⟩=some (.slice x1 n1 c1)∧w'.cell? ⟨bk,7,none⟩=some (.slice y1 m1 d1)∧w'.cell? ⟨bk,8,none⟩=some (.int .i64 i2)∧w'.cell? ⟨bk,9,none⟩=some (.bool s2)∧w'.cell? ⟨bk,10,none⟩=some (.slice x2 n2 c2')∧w'.cell? ⟨bk,11,none⟩=some (.slice y2' m2 d2'))) (by kernel_rfl) ?_ (fun hHeld=>?_)
   ·exact ⟨a0,a1,a2,a3,a4,a5,a6,a7,a8,a9,a10,a11⟩
   generalize hwd:(wr.alloc (.cells #[.string z,.bool s0,.slice x0 n0 c0,.slice y0 m0 d0,.int .i64 i1,.bool s1,.slice x1 n1 c1,.slice y1 m1 d1,.int .i64 i2,.bool s2,.slice x2 n2 c2',.slice y2' m2 d2'] 65)).drew=wd at *;clear hwd;refine tkO 0 ?_;simp only [lay_,Act.put];refine tkO 2 ?_;simp only [lay_,Act.put];refine tkO 3 ?_;simp only [lay_,Act.put];refine tkO 4 ?_;simp only [lay_,Act.put];refine tkO 5 ?_;simp only [lay_,Act.put];refine tkO 7 ?_;simp only [lay_,Act.put];refine tkO 8 ?_;simp only [lay_,Act.put];refine tkO 10 ?_;simp only [lay_,Act.put];refine tkO 11 ?_;simp only [lay_,Act.put];refine (show wpAnyH _ _ _ _ _ (6+3) _ _ _ from wpAnyH_flow (fun j v w=>match j with | 1=>vC=v | 6=>TN ⟨s0,x0,n0,c0,f0,y0,m0,d0,g0⟩ v w | 9=>TE ⟨i1,⟨s1,x1,n1,c1,f1,y1,m1,d1,g1⟩⟩ v w | 12=>TE ⟨i2,⟨s2,x2,n2,c2',f2,y2',m2,d2',g2⟩⟩ v w | 13=>TC ⟨z,⟨s0,x0,n0,c0,f0,y0,m0,d0,g0⟩,⟨i1,⟨s1,x1,n1,c1,f1,y1,m1,d1,g1⟩⟩,⟨i2,⟨s2,x2,n2,c2',f2,y2',m2,d2',g2⟩⟩⟩ v w | 14=>TCs ⟨z,⟨s0,x0,n0,c0,f0,y0,m0,d0,g0⟩,⟨i1,⟨s1,x1,n1,c1,f1,y1,m1,d1,g1⟩⟩,⟨i2,⟨s2,x2,n2,c2',f2,y2',m2,d2',g2⟩⟩⟩ v w | _=>True) [(1,20),(6,25),(9,28),(12,31),(13,32),(14,33)] [1,6,9,12,13,14] [15,16,17] _ _ _ 3 ?k1 ?k4 ?k2 ?k3 ?k5 ?k6 ?k8)
   case k1=>kernel_rfl
   case k4=>kernel_rfl
   case k2=>exact fun w w' h hb=>⟨kCb hb h.1,kCb hb h.2.1,kCb hb h.2.2.1,kCb hb h.2.2.2.1,kCb hb h.2.2.2.2.1,kCb hb h.2.2.2.2.2.1,kCb hb h.2.2.2.2.2.2.1,kCb hb h.2.2.2.2.2.2.2.1,kCb hb h.2.2.2.2.2.2.2.2.1,kCb hb h.2.2.2.2.2.2.2.2.2.1,kCb hb h.2.2.2.2.2.2.2.2.2.2.1,kCb hb h.2.2.2.2.2.2.2.2.2.2.2⟩
   case k3 =>
    intro j v w w' h hb
    split at h <;> first | exact TN.below h hb | exact TE.below h hb | exact TC.below h hb | exact TCs.below h hb | exact h | trivial
   case k8=>exact hHeld
   case k5 =>
    intro i hi;simp only [List.mem_cons,List.not_mem_nil,or_false] at hi;rcases hi with rfl | rfl | rfl | rfl | rfl | rfl
    ·refine ⟨_,rfl,fun u w5 hS hb5 hd K hK=>?_⟩;have k5:=(HI.out.p3.below hb5).cell (j:=3) rfl;simp only [fill,List.foldl_cons,List.foldl_nil,Act.put,List.setIfInBounds_toArray,List.set_cons_zero,List.set_cons_succ] at hK ⊢;go_simp;exact hK.out _ _ (Below.refl _ _) rfl
    ·refine ⟨_,rfl,fun u w5 hS hb5 hd K hK=>?_⟩;simp only [fill,List.foldl_cons,List.foldl_nil,Act.put,List.setIfInBounds_toArray,List.set_cons_zero,List.set_cons_succ] at hK ⊢;go_simp
     go_at_call 33
     refine (qTwin_c (HN0.out.below hb5).1 HN0.out.2.1 HN0.out.2.2).mono ?_;rintro e w6 ⟨zp,cp,zq,cq,rfl,hb6,hq⟩
     (try go_wp2_with fail)
     exact hK.out _ _ hb6 ⟨⟨s0,zp,n0,cp,f0,zq,m0,cq,g0⟩,rfl,⟨rfl,rfl,rfl,rfl,rfl⟩,hq.out,HN0.out.2⟩
    ·refine ⟨_,rfl,fun u w5 hS hb5 hd K hK=>?_⟩;simp only [fill,List.foldl_cons,List.foldl_nil,Act.put,List.setIfInBounds_toArray,List.set_cons_zero,List.set_cons_succ] at hK ⊢;go_simp
     go_at_call 34
     refine (xTwin_c (HN1.out.below hb5).1 HN1.out.2.1 HN1.out.2.2).mono ?_;rintro e w6 ⟨zp,cp,zq,cq,rfl,hb6,hq⟩
     (try go_wp2_with fail)
     exact hK.out _ _ hb6 ⟨⟨i1,⟨s1,zp,n1,cp,f1,zq,m1,cq,g1⟩⟩,rfl,rfl,⟨rfl,rfl,rfl,rfl,rfl⟩,hq,HN1.out.2⟩
    ·refine ⟨_,rfl,fun u w5 hS hb5 hd K hK=>?_⟩;simp only [fill,List.foldl_cons,List.foldl_nil,Act.put,List.setIfInBounds_toArray,List.set_cons_zero,List.set_cons_succ] at hK ⊢;go_simp
     go_at_call 34
     refine (xTwin_c (HN2.out.below hb5).1 HN2.out.2.1 HN2.out.2.2).mono ?_;rintro e w6 ⟨zp,cp,zq,cq,rfl,hb6,hq⟩
     (try go_wp2_with fail)
     exact hK.out _ _ hb6 ⟨⟨i2,⟨s2,zp,n2,cp,f2,zq,m2,cq,g2⟩⟩,rfl,rfl,⟨rfl,rfl,rfl,rfl,rfl⟩,hq,HN2.out.2⟩
    ·refine ⟨_,rfl,fun u w5 hS hb5 hd K hK=>?_⟩;have h6:TN ⟨s0,x0,n0,c0,f0,y0,m0,d0,g0⟩ (u 6) w5:=hd 6 (by kernel_rfl) (by kernel_rfl);obtain ⟨⟨sa6,xa6,na6,ca6,fa6,ya6,ma6,da6,ga6⟩,e6,hs6,hv6⟩:=h6;replace e6:u 6=.agg #[.bool sa6,.slice xa6 na6 ca6,.slice ya6 ma6 da6]:=e6;have h9:TE ⟨i1,⟨s1,x1,n1,c1,f1,y1,m1,d1,g1⟩⟩ (u 9) w5:=hd 9 (by kernel_rfl) (by kernel_rfl);obtain ⟨⟨ia9,⟨sa9,xa9,na9,ca9,fa9,ya9,ma9,da9,ga9⟩⟩,e9,hi9,hs9,hv9⟩:=h9;replace e9:u 9=.agg #[.int .i64 ia9,.bool sa9,.slice xa9 na9 ca9,.slice ya9 ma9 da9]:=e9;have h12:TE ⟨i2,⟨s2,x2,n2,c2',f2,y2',m2,d2',g2⟩⟩ (u 12) w5:=hd 12 (by kernel_rfl) (by kernel_rfl);obtain ⟨⟨ia12,⟨sa12,xa12,na12,ca12,fa12,ya12,ma12,da12,ga12⟩⟩,e12,hi12,hs12,hv12⟩:=h12;replace e12:u 12=.agg #[.int .i64 ia12,.bool sa12,.slice xa12 na12 ca12,.slice ya12 ma12 da12]:=e12;simp only [fill,List.foldl_cons,List.foldl_nil,Act.put,List.setIfInBounds_toArray,List.set_cons_zero,List.set_cons_succ] at hK ⊢;simp only [e6,e9,e12] at hK ⊢;go_simp;exact hK.out _ _ (Below.refl _ _) ⟨⟨z,⟨sa6,xa6,na6,ca6,fa6,ya6,ma6,da6,ga6⟩,⟨ia9,⟨sa9,xa9,na9,ca9,fa9,ya9,ma9,da9,ga9⟩⟩,⟨ia12,⟨sa12,xa12,na12,ca12,fa12,ya12,ma12,da12,ga12⟩⟩⟩,rfl,⟨rfl,hs6,hi9,hs9,hi12,hs12⟩,hv6,hv9,hv12⟩
    ·refine ⟨_,rfl,fun u w5 hS hb5 hd K hK=>?_⟩;have h13:TC ⟨z,⟨s0,x0,n0,c0,f0,y0,m0,d0,g0⟩,⟨i1,⟨s1,x1,n1,c1,f1,y1,m1,d1,g1⟩⟩,⟨i2,⟨s2,x2,n2,c2',f2,y2',m2,d2',g2⟩⟩⟩ (u 13) w5:=hd 13 (by kernel_rfl) (by kernel_rfl);obtain ⟨⟨zj,⟨sb,xb,nb,cb,fb,yb,mb,db,gb⟩,⟨ic,⟨sc,xc,nc,cc9,fc,yc,mc,dc,gc⟩⟩,⟨ie,⟨sd,xd,nd,cd,fd,yd,md,dd,gd⟩⟩⟩,e13,hs,hv⟩:=h13;replace e13:u 13=.agg #[.string zj,.bool sb,.slice xb nb cb,.slice yb mb db,.int .i64 ic,.bool sc,.slice xc nc cc9,.slice yc mc dc,.int .i64 ie,.bool sd,.slice xd nd cd,.slice yd md dd]:=e13;simp only [fill,List.foldl_cons,List.foldl_nil,Act.put,List.setIfInBounds_toArray,List.set_cons_zero,List.set_cons_succ] at hK ⊢;simp only [e13] at hK ⊢;go_simp;have hn:=below_alloc (Below.refl w5.heap.size w5) (.cells #[.string zj,.bool sb,.slice xb nb cb,.slice yb mb db,.int .i64 ic,.bool sc,.slice xc nc cc9,.slice yc mc dc,.int .i64 ie,.bool sd,.slice xd nd cd,.slice yd md dd] 65);have hx:=cs_new w5 65 [.string zj,.bool sb,.slice xb nb cb,.slice yb mb db,.int .i64 ic,.bool sc,.slice xc nc cc9,.slice yc mc dc,.int .i64 ie,.bool sd,.slice xd nd cd,.slice yd md dd] [.string zj,.bool sb,.slice xb nb cb,.slice yb mb db,.int .i64 ic,.bool sc,.slice xc nc cc9,.slice yc mc dc,.int .i64 ie,.bool sd,.slice xd nd cd,.slice yd md dd] 0 (fun j v e=>by rw [Nat.zero_add];exact e);exact hK.out _ _ hn ⟨w5.heap.size,⟨zj,⟨sb,xb,nb,cb,fb,yb,mb,db,gb⟩,⟨ic,⟨sc,xc,nc,cc9,fc,yc,mc,dc,gc⟩⟩,⟨ie,⟨sd,xd,nd,cd,fd,yd,md,dd,gd⟩⟩⟩,rfl,hx,hs,hv.below hn⟩
   case k6 =>
    intro u w5 hS5 hb5 hg;have h1:vC=u 1:=hg 1 (by simp);have h14:TCs ⟨z,⟨s0,x0,n0,c0,f0,y0,m0,d0,g0⟩,⟨i1,⟨s1,x1,n1,c1,f1,y1,m1,d1,g1⟩⟩,⟨i2,⟨s2,x2,n2,c2',f2,y2',m2,d2',g2⟩⟩⟩ (u 14) w5:=hg 14 (by simp);obtain ⟨b14,⟨zj,⟨sb,xb,nb,cb,fb,yb,mb,db,gb⟩,⟨ic,⟨sc,xc,nc,cc9,fc,yc,mc,dc,gc⟩⟩,⟨ie,⟨sd,xd,nd,cd,fd,yd,md,dd,gd⟩⟩⟩,e14,hcs,hsc,hlc⟩:=h14;replace HI:=hid (HI.out.below hb5);obtain ⟨i0,hi0,hz0,hz1,hz2⟩:=info_parts Tryz.infoCol;obtain ⟨t0,t1,t2,t3,t4,t5,t6,t7,t8,t9,t10,t11⟩:=id hS5;have hbl:=World.block_lt_of_cell? w5 _ t0;replace hbl:bk<w5.heap.size:=hbl;clear hg;simp only [fill,List.foldl_cons,List.foldl_nil,Act.put,List.setIfInBounds_toArray,List.set_cons_zero,List.set_cons_succ];simp only [←h1,e14];clear h1 e14;refine wpAnyH_ready (rs:=[15]) (by kernel_rfl) (by simp) ?_;refine AllReadyH.cons (o:=_) rfl (fun K hK=>?_) ?_;rotate_left;exact AllReadyH.nil;refine step_append_W w5 rfl (.tmp 20) (.tmp 33) 25 rfl base 65 i0 zC 12 200 Tryz.underlying25 hi0 hz0 hz1 hz2 rfl (by decide) nzC vC i (ccs C' i) rfl HI.out.row ⟨b14,0,none⟩ 1 1 (Lc.vs ⟨zj,⟨sb,xb,nb,cb,fb,yb,mb,db,gb⟩,⟨ic,⟨sc,xc,nc,cc9,fc,yc,mc,dc,gc⟩⟩,⟨ie,⟨sd,xd,nd,cd,fd,yd,md,dd,gd⟩⟩⟩) rfl rfl ?n1 (vsC_one _) (vsC_not _) (by decide) ?p1 ?p2 HI.out.bs ?_
    case n1=>intro j u hu;rw [addr_add];exact hcs j u hu
    case p1=>unfold maxLen;omega
    case p2=>omega
    intro g8 cap8 w8 hr8 hgr8 hk8 hl8;have hB8:=hgr8.block bk hbl (fun e=>hne e.symm);have e0:=(World.cell?_of_block (a:=⟨bk,0,none⟩) hB8).trans t0;have e1:=(World.cell?_of_block (a:=⟨bk,1,none⟩) hB8).trans t1;have e2:=(World.cell?_of_block (a:=⟨bk,2,none⟩) hB8).trans t2;have e3:=(World.cell?_of_block (a:=⟨bk,3,none⟩) hB8).trans t3;have e4:=(World.cell?_of_block (a:=⟨bk,4,none⟩) hB8).trans t4;have e5:=(World.cell?_of_block (a:=⟨bk,5,none⟩) hB8).trans t5;have e6:=(World.cell?_of_block (a:=⟨bk,6,none⟩) hB8).trans t6;have e7:=(World.cell?_of_block (a:=⟨bk,7,none⟩) hB8).trans t7;have e8:=(World.cell?_of_block (a:=⟨bk,8,none⟩) hB8).trans t8;have e9:=(World.cell?_of_block (a:=⟨bk,9,none⟩) hB8).trans t9;have e10:=(World.cell?_of_block (a:=⟨bk,10,none⟩) hB8).trans t10;have e11:=(World.cell?_of_block (a:=⟨bk,11,none⟩) hB8).trans t11;have hp8:=HI.out.p3.of (hgr8.block b3 HI.out.p3.lt (fun e=>by have:=(HI.out.row.lt b3 e.symm).1;omega));have f0:=hp8.cell (j:=3) rfl;have ff:=hp8.frozen 3;refine hK.out _ _ ?_ (fun hH8=>?_)
    ·exact ⟨e0,e1,e2,e3,e4,e5,e6,e7,e8,e9,e10,e11⟩
    clear hK K;try simp only [Act.put,List.setIfInBounds_toArray]
    refine tkO 16 ?_;simp only [lay_,Act.put];refine wpAnyH_ready (rs:=[17]) (by kernel_rfl) (by simp) ?_;refine AllReadyH.cons (o:=_) rfl (fun K hK=>?_) ?_;rotate_left;exact AllReadyH.nil;go_simp;refine hK.out _ _ ?_ (fun hH9=>?_)
    ·((try dsimp only);(refine ⟨?_,?_,?_,?_,?_,?_,?_,?_,?_,?_,?_,?_⟩ <;> repeat (with_reducible first | assumption | refine kCs (by simp only [ne_eq];omega) ?_)))
    clear hK K;try simp only [Act.put]
    refine wpAnyH_done (by kernel_rfl) ?_ _;have HI9:=hid (HI.out.next (by omega) (by omega) hbb (Nat.le_refl _) (by rw [HCN.out];exact hsc) hlc hr8 hk8 hgr8);clear hr8 hgr8 hk8 hl8 hB8 hp8 f0 ff hH8 hH9 HI hsc hlc hcs hHeld HB5 e0 e1 e2 e3 e4 e5 e6 e7 e8 e9 e10 e11;go_wp2;go_roundw
    case rel=>exact ⟨i+1,_,_,by omega,by go_num,HI9.out⟩
    case measure=>simp [intOf];omega
  ·have e1:i=ck:=by omega
   have i2':¬(((i:Nat):Int)<((ck:Nat):Int)):=by omega
   rw [e1] at HI;have k4:=HI.out.p1.cell (j:=4) rfl;obtain ⟨base2,hbase2⟩:∃z,wr.heap.size=z:=⟨_,rfl⟩;have hb2:base≤base2:=by have:=HI.out.bs;omega
   have HI2:Hid (TwR w base base2 (w.heap.size+1) b3 [.bool false,.slice none 0 0,.slice none 0 0,.slice none 0 0,.slice none 0 0] s z2 n c2 y2 m d2 ⟨s,z2,n,c2,f,y2,m,d2,g⟩ C ck C' vC R wr 0 R (.slice none 0 0)):=⟨HI.out.bel,HI.out.p2,HI.out.p3,by omega,HI.out.off,HI.out.row,HI.out.el,fun k hk=>by have:=(HI.out.row.lt k hk).2;omega,rowG_nil _ _ _ _,fun j hj=>by omega⟩;clear HI e1 HC hbase2;go_wp2_with fail
   go_loopw [40] (fun t wr=>∃(i:Nat) (R':Nat→Lr) (vR:Value),i≤rk∧t=.int .i64 i∧Hid (TwR w base base2 (w.heap.size+1) b3 [.bool false,.slice none 0 0,.slice none 0 0,.slice none 0 0,.slice none 0 0] s z2 n c2 y2 m d2 ⟨s,z2,n,c2,f,y2,m,d2,g⟩ C ck C' vC R wr i R' vR)) (fun t _=>rk-(intOf t).toNat)
   case atStart=>exact ⟨0,R,_,by omega,rfl,HI2.out⟩
   case round =>
    obtain ⟨i,R',vR,hi,rfl,HI⟩:=hrel;clear HI2 k4;by_cases hlt:i<rk
    ·obtain ⟨b,o,rfl,hc,hn⟩:=(HRL.out.below HI.out.bel) i hlt;obtain ⟨rN,hrN⟩:∃t,R i=t:=⟨_,rfl⟩;rw [hrN] at hc hn;have HRN:=hid hrN;obtain ⟨z,⟨i1,⟨s1,x1,n1,c1,f1,y1,m1,d1,g1⟩⟩,⟨i2,⟨s2,x2,n2,c2',f2,y2',m2,d2',g2⟩⟩,ta,tk,tc,tcol,tt⟩:=rN;obtain ⟨hn1,hn2,hn3,hn4,hn5⟩:=hn;have q0:wr.cell? ⟨b,o+i*10,none⟩=some (.string z):=hc 0 _ rfl;have q1:wr.cell? ⟨b,o+i*10+1,none⟩=some (.int .i64 i1):=hc 1 _ rfl;have q2:wr.cell? ⟨b,o+i*10+2,none⟩=some (.bool s1):=hc 2 _ rfl;have q3:wr.cell? ⟨b,o+i*10+3,none⟩=some (.slice x1 n1 c1):=hc 3 _ rfl;have q4:wr.cell? ⟨b,o+i*10+4,none⟩=some (.slice y1 m1 d1):=hc 4 _ rfl;have q5:wr.cell? ⟨b,o+i*10+5,none⟩=some (.int .i64 i2):=hc 5 _ rfl;have q6:wr.cell? ⟨b,o+i*10+6,none⟩=some (.bool s2):=hc 6 _ rfl;have q7:wr.cell? ⟨b,o+i*10+7,none⟩=some (.slice x2 n2 c2'):=hc 7 _ rfl;have q8:wr.cell? ⟨b,o+i*10+8,none⟩=some (.slice y2' m2 d2'):=hc 8 _ rfl;have q9:wr.cell? ⟨b,o+i*10+9,none⟩=some (.slice ta tk tc):=hc 9 _ rfl;have HN1:Hid (NmB wr ⟨s1,x1,n1,c1,f1,y1,m1,d1,g1⟩):=hn1;have HN2:Hid (NmB wr ⟨s2,x2,n2,c2',f2,y2',m2,d2',g2⟩):=hn2;have HN3:Hid (Tr wr ta tk tcol tt):=hn3;have HN4:Hid (tk≤2199023255552∧∀p,p<tk→(tt p).n≤17592186044416∧(tt p).m≤17592186044416):=⟨hn4,hn5⟩;have i1':((i:Nat):Int)<((rk:Nat):Int):=by omega
     clear hrN hc hn1 hn2 hn3 hn4 hn5;go_upto_region 10 with fail
     have hb5:=Below.drew (below_alloc (Below.refl wr.heap.size wr) (.cells #[.string z,.int .i64 i1,.bool s1,.slice x1 n1 c1,.slice y1 m1 d1,.int .i64 i2,.bool s2,.slice x2 n2 c2',.slice y2' m2 d2',.slice ta tk tc] 68));have B5:Bk (wr.alloc (.cells #[.string z,.int .i64 i1,.bool s1,.slice x1 n1 c1,.slice y1 m1 d1,.int .i64 i2,.bool s2,.slice x2 n2 c2',.slice y2' m2 d2',.slice ta tk tc] 68)).drew wr.heap.size [.string z,.int .i64 i1,.bool s1,.slice x1 n1 c1,.slice y1 m1 d1,.int .i64 i2,.bool s2,.slice x2 n2 c2',.slice y2' m2 d2',.slice ta tk tc] 68:=bk_new wr [.string z,.int .i64 i1,.bool s1,.slice x1 n1 c1,.slice y1 m1 d1,.int .i64 i2,.bool s2,.slice x2 n2 c2',.slice y2' m2 d2',.slice ta tk tc] 68;have hne:vR.ownBlock≠some wr.heap.size:=fun e=>by have:=(HI.out.row.lt _ e).2;omega
     have hbz:=HI.out.bs;replace HI:=hid (HI.out.below hb5);replace HN1:=hid (HN1.out.below hb5);replace HN2:=hid (HN2.out.below hb5);replace HN3:=hid (HN3.out.below hb5)
     have a0:=B5.cell (j:=0) rfl;have a1:=B5.cell (j:=1) rfl;have a2:=B5.cell (j:=2) rfl;have a3:=B5.cell (j:=3) rfl;have a4:=B5.cell (j:=4) rfl;have a5:=B5.cell (j:=5) rfl;have a6:=B5.cell (j:=6) rfl;have a7:=B5.cell (j:=7) rfl;have a8:=B5.cell (j:=8) rfl;have a9:=B5.cell (j:=9) rfl;have HB5:=hid B5;obtain ⟨bk,hbk⟩:∃z,wr.heap.size=z:=⟨_,rfl⟩;simp only [hbk] at *;clear hb5 hbk q0 q1 q2 q3 q4 q5 q6 q7 q8 q9 B5;refine wp_region_held_drew (S:=(fun w'=>w'.cell? ⟨bk,0,none⟩=some (.string z)∧w'.cell? ⟨bk,1,none⟩=some (.int .i64 i1)∧w'.cell? ⟨bk,2,none⟩=some (.bool s1)∧w'.cell? ⟨bk,3,none⟩=some (.slice x1 n1 c1)∧w'.cell? ⟨bk,4,none⟩=some (.slice y1 m1 d1)∧w'.cell? ⟨bk,5,none⟩=some (.int .i64 i2)∧w'.cell? ⟨bk,6,none⟩=some (.bool s2)∧w'.cell? ⟨bk,7,none⟩=some (.slice x2 n2 c2')∧w'.cell? ⟨bk,8,none⟩=some (.slice y2' m2 d2')∧w'.cell? ⟨bk,9,none⟩=some (.slice ta tk tc))) (by kernel_rfl) ?_ (fun hHeld=>?_)
     ·exact ⟨a0,a1,a2,a3,a4,a5,a6,a7,a8,a9⟩
     generalize hwd:(wr.alloc (.cells #[.string z,.int .i64 i1,.bool s1,.slice x1 n1 c1,.slice y1 m1 d1,.int .i64 i2,.bool s2,.slice x2 n2 c2',.slice y2' m2 d2',.slice ta tk tc] 68)).drew=wd at *;clear hwd;obtain ⟨bse,hbse⟩:∃z,wd.heap.size=z:=⟨_,rfl⟩;have hb2s:base2≤bse:=by have:=HI.out.bs;omega
     have hown:∀b,bse≤b→vR.ownBlock≠some b:=fun b hb e=>by have:=(HI.out.row.lt b e).2;omega
     have HW:=hid hown;clear hown;refine tkO 0 ?_;simp only [lay_,Act.put];refine tkO 2 ?_;simp only [lay_,Act.put];refine tkO 3 ?_;simp only [lay_,Act.put];refine tkO 4 ?_;simp only [lay_,Act.put];refine tkO 5 ?_;simp only [lay_,Act.put];refine tkO 7 ?_;simp only [lay_,Act.put];refine tkO 8 ?_;simp only [lay_,Act.put];refine tkO 10 ?_;simp only [lay_,Act.put];refine tkO 11 ?_;simp only [lay_,Act.put];refine (show wpAnyH _ _ _ _ _ (6+3) _ _ _ from wpAnyH_flow (fun j v w=>match j with | 1=>vR=v | 6=>TE ⟨i1,⟨s1,x1,n1,c1,f1,y1,m1,d1,g1⟩⟩ v w | 9=>TE ⟨i2,⟨s2,x2,n2,c2',f2,y2',m2,d2',g2⟩⟩ v w | 12=>TT bse ta tk tcol tt v w | 13=>TR bse ⟨z,⟨i1,⟨s1,x1,n1,c1,f1,y1,m1,d1,g1⟩⟩,⟨i2,⟨s2,x2,n2,c2',f2,y2',m2,d2',g2⟩⟩,ta,tk,tc,tcol,tt⟩ v w | 14=>TRs bse ⟨z,⟨i1,⟨s1,x1,n1,c1,f1,y1,m1,d1,g1⟩⟩,⟨i2,⟨s2,x2,n2,c2',f2,y2',m2,d2',g2⟩⟩,ta,tk,tc,tcol,tt⟩ v w | _=>True) [(1,45),(6,50),(9,53),(12,56),(13,57),(14,58)] [1,6,9,12,13,14] [15,16,17] _ _ _ 3 ?k1 ?k4 ?k2 ?k3 ?k5 ?k6 ?k8)
     case k1=>kernel_rfl
     case k4=>kernel_rfl
     case k2=>exact fun w w' h hb=>⟨kCb hb h.1,kCb hb h.2.1,kCb hb h.2.2.1,kCb hb h.2.2.2.1,kCb hb h.2.2.2.2.1,kCb hb h.2.2.2.2.2.1,kCb hb h.2.2.2.2.2.2.1,kCb hb h.2.2.2.2.2.2.2.1,kCb hb h.2.2.2.2.2.2.2.2.1,kCb hb h.2.2.2.2.2.2.2.2.2⟩
     case k3 =>
      intro j v w w' h hb
      split at h <;> first | exact TE.below h hb | exact TT.below h hb | exact TR.below h hb | exact TRs.below h hb | exact h | trivial
     case k8=>exact hHeld
     case k5 =>
      intro i hi;simp only [List.mem_cons,List.not_mem_nil,or_false] at hi;rcases hi with rfl | rfl | rfl | rfl | rfl | rfl
      ·refine ⟨_,rfl,fun u w5 hS hb5 hd K hK=>?_⟩;have k5:=(HI.out.p3.below hb5).cell (j:=4) rfl;simp only [fill,List.foldl_cons,List.foldl_nil,Act.put,List.setIfInBounds_toArray,List.set_cons_zero,List.set_cons_succ] at hK ⊢;go_simp;exact hK.out _ _ (Below.refl _ _) rfl
      ·refine ⟨_,rfl,fun u w5 hS hb5 hd K hK=>?_⟩;simp only [fill,List.foldl_cons,List.foldl_nil,Act.put,List.setIfInBounds_toArray,List.set_cons_zero,List.set_cons_succ] at hK ⊢;go_simp
       go_at_call 34
       refine (xTwin_c (HN1.out.below hb5).1 HN1.out.2.1 HN1.out.2.2).mono ?_;rintro e w6 ⟨zp,cp,zq,cq,rfl,hb6,hq⟩
       (try go_wp2_with fail)
       exact hK.out _ _ hb6 ⟨⟨i1,⟨s1,zp,n1,cp,f1,zq,m1,cq,g1⟩⟩,rfl,rfl,⟨rfl,rfl,rfl,rfl,rfl⟩,hq,HN1.out.2⟩
      ·refine ⟨_,rfl,fun u w5 hS hb5 hd K hK=>?_⟩;simp only [fill,List.foldl_cons,List.foldl_nil,Act.put,List.setIfInBounds_toArray,List.set_cons_zero,List.set_cons_succ] at hK ⊢;go_simp
       go_at_call 34
       refine (xTwin_c (HN2.out.below hb5).1 HN2.out.2.1 HN2.out.2.2).mono ?_;rintro e w6 ⟨zp,cp,zq,cq,rfl,hb6,hq⟩
       (try go_wp2_with fail)
       exact hK.out _ _ hb6 ⟨⟨i2,⟨s2,zp,n2,cp,f2,zq,m2,cq,g2⟩⟩,rfl,rfl,⟨rfl,rfl,rfl,rfl,rfl⟩,hq,HN2.out.2⟩
      ·refine ⟨_,rfl,fun u w5 hS hb5 hd K hK=>?_⟩;simp only [fill,List.foldl_cons,List.foldl_nil,Act.put,List.setIfInBounds_toArray,List.set_cons_zero,List.set_cons_succ] at hK ⊢;go_simp
       go_at_call 35
       refine (twinTr_c (HN3.out.below hb5) HN4.out.1 HN4.out.2).mono ?_;rintro e w6 ⟨aw,cw,T9,rfl,hb6,_,hfr,hq⟩
       (try go_wp2_with fail)
       exact hK.out _ _ hb6 ⟨aw,cw,T9,rfl,fun b o s e=>by have h1:=hfr b o s e;have h2:=hb5.size;omega,hq.out.1,hq.out.2,rfl⟩
      ·refine ⟨_,rfl,fun u w5 hS hb5 hd K hK=>?_⟩;have h6:TE ⟨i1,⟨s1,x1,n1,c1,f1,y1,m1,d1,g1⟩⟩ (u 6) w5:=hd 6 (by kernel_rfl) (by kernel_rfl);obtain ⟨⟨ia6,⟨sa6,xa6,na6,ca6,fa6,ya6,ma6,da6,ga6⟩⟩,e6,hi6,hs6,hv6⟩:=h6;replace e6:u 6=.agg #[.int .i64 ia6,.bool sa6,.slice xa6 na6 ca6,.slice ya6 ma6 da6]:=e6;have h9:TE ⟨i2,⟨s2,x2,n2,c2',f2,y2',m2,d2',g2⟩⟩ (u 9) w5:=hd 9 (by kernel_rfl) (by kernel_rfl);obtain ⟨⟨ia9,⟨sa9,xa9,na9,ca9,fa9,ya9,ma9,da9,ga9⟩⟩,e9,hi9,hs9,hv9⟩:=h9;replace e9:u 9=.agg #[.int .i64 ia9,.bool sa9,.slice xa9 na9 ca9,.slice ya9 ma9 da9]:=e9;have h12:TT bse ta tk tcol tt (u 12) w5:=hd 12 (by kernel_rfl) (by kernel_rfl);obtain ⟨aw,cw,T9,e12,hfr,htr,hsn,_⟩:=h12;simp only [fill,List.foldl_cons,List.foldl_nil,Act.put,List.setIfInBounds_toArray,List.set_cons_zero,List.set_cons_succ] at hK ⊢;simp only [e6,e9,e12] at hK ⊢;go_simp;exact hK.out _ _ (Below.refl _ _) ⟨⟨z,⟨ia6,⟨sa6,xa6,na6,ca6,fa6,ya6,ma6,da6,ga6⟩⟩,⟨ia9,⟨sa9,xa9,na9,ca9,fa9,ya9,ma9,da9,ga9⟩⟩,aw,tk,cw,tcol,T9⟩,rfl,⟨rfl,hi6,hs6,hi9,hs9,rfl,rfl,hsn⟩,⟨hv6,hv9,htr,HN4.out.1,fun p hp=>by obtain ⟨_,e2,_,e4,_⟩:=hsn p hp;show (T9 p).n≤_∧(T9 p).m≤_;rw [e2,e4];exact HN4.out.2 p hp⟩,hfr⟩
      ·refine ⟨_,rfl,fun u w5 hS hb5 hd K hK=>?_⟩;have h13:TR bse ⟨z,⟨i1,⟨s1,x1,n1,c1,f1,y1,m1,d1,g1⟩⟩,⟨i2,⟨s2,x2,n2,c2',f2,y2',m2,d2',g2⟩⟩,ta,tk,tc,tcol,tt⟩ (u 13) w5:=hd 13 (by kernel_rfl) (by kernel_rfl);obtain ⟨⟨zj,⟨ic,⟨sc,xc,nc,cc9,fc,yc,mc,dc,gc⟩⟩,⟨ie,⟨sd,xd,nd,cd,fd,yd,md,dd,gd⟩⟩,ta9,tk9,tc9,tcol9,tt9⟩,e13,hs,hv,hfr⟩:=h13;replace e13:u 13=.agg #[.string zj,.int .i64 ic,.bool sc,.slice xc nc cc9,.slice yc mc dc,.int .i64 ie,.bool sd,.slice xd nd cd,.slice yd md dd,.slice ta9 tk9 tc9]:=e13;simp only [fill,List.foldl_cons,List.foldl_nil,Act.put,List.setIfInBounds_toArray,List.set_cons_zero,List.set_cons_succ] at hK ⊢;simp only [e13] at hK ⊢;go_simp;have hn:=below_alloc (Below.refl w5.heap.size w5) (.cells #[.string zj,.int .i64 ic,.bool sc,.slice xc nc cc9,.slice yc mc dc,.int .i64 ie,.bool sd,.slice xd nd cd,.slice yd md dd,.slice ta9 tk9 tc9] 68);have hx:=cs_new w5 68 [.string zj,.int .i64 ic,.bool sc,.slice xc nc cc9,.slice yc mc dc,.int .i64 ie,.bool sd,.slice xd nd cd,.slice yd md dd,.slice ta9 tk9 tc9] [.string zj,.int .i64 ic,.bool sc,.slice xc nc cc9,.slice yc mc dc,.int .i64 ie,.bool sd,.slice xd nd cd,.slice yd md dd,.slice ta9 tk9 tc9] 0 (fun j v e=>by rw [Nat.zero_add];exact e);exact hK.out _ _ hn ⟨w5.heap.size,⟨zj,⟨ic,⟨sc,xc,nc,cc9,fc,yc,mc,dc,gc⟩⟩,⟨ie,⟨sd,xd,nd,cd,fd,yd,md,dd,gd⟩⟩,ta9,tk9,tc9,tcol9,tt9⟩,rfl,hx,hs,hv.below hn,hfr⟩
     case k6 =>
      intro u w5 hS5 hb5 hg;have h1:vR=u 1:=hg 1 (by simp);have h14:TRs bse ⟨z,⟨i1,⟨s1,x1,n1,c1,f1,y1,m1,d1,g1⟩⟩,⟨i2,⟨s2,x2,n2,c2',f2,y2',m2,d2',g2⟩⟩,ta,tk,tc,tcol,tt⟩ (u 14) w5:=hg 14 (by simp);obtain ⟨b14,⟨zj,⟨ic,⟨sc,xc,nc,cc9,fc,yc,mc,dc,gc⟩⟩,⟨ie,⟨sd,xd,nd,cd,fd,yd,md,dd,gd⟩⟩,ta9,tk9,tc9,tcol9,tt9⟩,e14,hcs,hsc,hlc,hfr⟩:=h14;replace HI:=hid (HI.out.below hb5);obtain ⟨i0,hi0,hz0,hz1,hz2⟩:=info_parts Tryz.infoRow;obtain ⟨t0,t1,t2,t3,t4,t5,t6,t7,t8,t9⟩:=id hS5;have hbl:=World.block_lt_of_cell? w5 _ t0;replace hbl:bk<w5.heap.size:=hbl;clear hg;simp only [fill,List.foldl_cons,List.foldl_nil,Act.put,List.setIfInBounds_toArray,List.set_cons_zero,List.set_cons_succ];simp only [←h1,e14];clear h1 e14;refine wpAnyH_ready (rs:=[15]) (by kernel_rfl) (by simp) ?_;refine AllReadyH.cons (o:=_) rfl (fun K hK=>?_) ?_;rotate_left;exact AllReadyH.nil;refine step_append_W w5 rfl (.tmp 45) (.tmp 58) 26 rfl base2 68 i0 zR 10 168 Tryz.underlying26 hi0 hz0 hz1 hz2 rfl (by decide) nzR vR i (rcs R' i) rfl HI.out.row ⟨b14,0,none⟩ 1 1 (Lr.vs ⟨zj,⟨ic,⟨sc,xc,nc,cc9,fc,yc,mc,dc,gc⟩⟩,⟨ie,⟨sd,xd,nd,cd,fd,yd,md,dd,gd⟩⟩,ta9,tk9,tc9,tcol9,tt9⟩) rfl rfl ?n1 (vsR_one _) (vsR_not _) (by decide) ?p1 ?p2 HI.out.bs ?_
      case n1=>intro j u hu;rw [addr_add];exact hcs j u hu
      case p1=>unfold maxLen;omega
      case p2=>omega
      intro g8 cap8 w8 hr8 hgr8 hk8 hl8;have hB8:=hgr8.block bk hbl (fun e=>hne e.symm);have e0:=(World.cell?_of_block (a:=⟨bk,0,none⟩) hB8).trans t0;have e1:=(World.cell?_of_block (a:=⟨bk,1,none⟩) hB8).trans t1;have e2:=(World.cell?_of_block (a:=⟨bk,2,none⟩) hB8).trans t2;have e3:=(World.cell?_of_block (a:=⟨bk,3,none⟩) hB8).trans t3;have e4:=(World.cell?_of_block (a:=⟨bk,4,none⟩) hB8).trans t4;have e5:=(World.cell?_of_block (a:=⟨bk,5,none⟩) hB8).trans t5;have e6:=(World.cell?_of_block (a:=⟨bk,6,none⟩) hB8).trans t6;have e7:=(World.cell?_of_block (a:=⟨bk,7,none⟩) hB8).trans t7;have e8:=(World.cell?_of_block (a:=⟨bk,8,none⟩) hB8).trans t8;have e9:=(World.cell?_of_block (a:=⟨bk,9,none⟩) hB8).trans t9;have hp8:=HI.out.p3.of (hgr8.block b3 HI.out.p3.lt (fun e=>by have:=(HI.out.row.lt b3 e.symm).1;omega));have f0:=hp8.cell (j:=4) rfl;have ff:=hp8.frozen 4;refine hK.out _ _ ?_ (fun hH8=>?_)
      ·exact ⟨e0,e1,e2,e3,e4,e5,e6,e7,e8,e9⟩
      clear hK K;try simp only [Act.put,List.setIfInBounds_toArray]
      refine tkO 16 ?_;simp only [lay_,Act.put];refine wpAnyH_ready (rs:=[17]) (by kernel_rfl) (by simp) ?_;refine AllReadyH.cons (o:=_) rfl (fun K hK=>?_) ?_;rotate_left;exact AllReadyH.nil;go_simp;refine hK.out _ _ ?_ (fun hH9=>?_)
      ·((try dsimp only);(refine ⟨?_,?_,?_,?_,?_,?_,?_,?_,?_,?_⟩ <;> repeat (with_reducible first | assumption | refine kCs (by simp only [ne_eq];omega) ?_)))
      clear hK K;try simp only [Act.put]
      refine wpAnyH_done (by kernel_rfl) ?_ _;have HI9:=hid (HI.out.next (by omega) (by omega) hbb (by omega) (by rw [HRN.out];exact hsc) hlc (fun _ b o s e=>⟨by have:=hfr b o s e;omega,HW.out b (hfr b o s e)⟩) hr8 hk8 hgr8 hl8);clear hr8 hgr8 hk8 hl8 hB8 hp8 f0 ff hH8 hH9 HI hsc hlc hcs hHeld HB5 e0 e1 e2 e3 e4 e5 e6 e7 e8 e9;go_wp2;go_roundw
      case rel=>exact ⟨i+1,_,_,by omega,by go_num,HI9.out⟩
      case measure=>simp [intOf];omega
    ·have e1:i=rk:=by omega
     have i2':¬(((i:Nat):Int)<((rk:Nat):Int)):=by omega
     rw [e1] at HI;obtain ⟨aC,cC,rfl⟩:=HI.out.rowC.slice;obtain ⟨aR,cR,rfl⟩:=HI.out.row.slice;have o0:=HI.out.p3.cell (j:=0) rfl;have o1:=HI.out.p3.cell (j:=1) rfl;have o2:=HI.out.p3.cell (j:=2) rfl;have o3:=HI.out.p3.cell (j:=3) rfl;have o4:=HI.out.p3.cell (j:=4) rfl;have r0:=HI.out.p2.cell (j:=0) rfl;have r1:=HI.out.p2.cell (j:=1) rfl;have r2:=HI.out.p2.cell (j:=2) rfl;have r3:=HI.out.p2.cell (j:=3) rfl;have r4:=HI.out.p2.cell (j:=4) rfl;have rf:=HI.out.p2.frozen;obtain ⟨hx1,hx2,hx3⟩:=HI.out.done (N:=⟨s,x,n,c,f,y,m,d,g⟩) (ca:=ca) (cc:=cc) (ra:=ra) (rc:=rc) (v0:=.bool s) (v1:=.slice z2 n c2) (v2:=.slice y2 m d2) (v3:=.slice aC ck cC) (v4:=.slice aR rk cR) (by omega) (by omega) (by omega) rfl ⟨rfl,rfl,rfl,rfl,rfl⟩ hck hrk;have HX:=hid (HA.out _ _ hx1 hx2 hx3);clear hx1 hx2 hx3 HI e1;go_wp2;exact bodyPost_ret (v:=.agg #[.bool s,.slice z2 n c2,.slice y2 m d2,.slice aC ck cC,.slice aR rk cR]) (by simp [results,Tryz.results9,go_sem,r0,r1,r2,r3,r4]) rfl HX.out
def lastc (col:Nat→Int):Nat→Int
 | 0=>-1
 | i+1=>col i
set_option maxRecDepth 100000 in
set_option maxHeartbeats 8000000 in
theorem fForm_c {w:World} {ao:Option Addr} {k cap:Nat} {col:Nat→Int} {T:Nat→Nm} (h:Tl w ao k col T) (hk:k≤10000) (hl:∀j,j<k→(T j).n≤1000∧(T j).m≤1000) :
  Calls Tryz.prog 90 #[.slice ao k cap] w fun e w'=>e=.returned (.bool (tfB k col T))∧Below w.heap.size w w':=by
 have H:=hid h;clear h;go_enter Tryz.func90,Tryz.ntmps90;go_wp2_with fail
 go_loopw [7] (fun t wr=>∃(i:Nat),i≤k∧t=.int .i64 i∧Hid (Below w.heap.size w wr)∧Hid (tfB k col T=tfr col T (k-i) i (lastc col i))∧Hid (-1≤lastc col i∧(0<i→0≤lastc col i))) (fun t _=>k-(intOf t).toNat)
 case atStart=>exact ⟨0,by omega,rfl,Below.refl _ _,rfl,by show (-1:Int) ≤ -1∧_;exact ⟨by decide,fun h=>by omega⟩⟩
 case round =>
  obtain ⟨i,hi,rfl,HB,HT,HL⟩:=hrel;by_cases hlt:i<k
  ·obtain ⟨b,o,rfl,hc,hn,hn1,hn2⟩:=(H.out.below HB.out) i hlt;obtain ⟨hl1,hl2⟩:=hl i hlt;obtain ⟨r,hr⟩:∃r,k-i=r+1:=⟨k-i-1,by omega⟩;have hT:tfB k col T=(decide (lastc col i<col i) && (nfB (T i) && (decide (0<(T i).n) && tfr col T r (i+1) (col i)))):=by rw [HT.out,hr];rfl
   have hr2:k-(i+1)=r:=by omega
   have HLc:Hid (lastc col (i+1)=col i):=rfl;obtain ⟨⟨s,x,n,c,f,y,m,d,g⟩,hTi⟩:∃t,T i=t:=⟨_,rfl⟩;rw [hTi] at hc hn hT hl1 hl2;obtain ⟨z,hz⟩:∃z,col i=z:=⟨_,rfl⟩;rw [hz] at hc hT HLc;obtain ⟨x0,x1,x2,x3⟩:=hc;replace x0:wr.cell? ⟨b,o+i*4,none⟩=some (.int .i64 z):=x0;replace x1:wr.cell? ⟨b,o+i*4+1,none⟩=some (.bool s):=x1;replace x2:wr.cell? ⟨b,o+i*4+2,none⟩=some (.slice x n c):=x2;replace x3:wr.cell? ⟨b,o+i*4+3,none⟩=some (.slice y m d):=x3;replace hn:Rw wr x n c f y m d g:=hn;replace hl1:n≤1000:=hl1;replace hl2:m≤1000:=hl2;have HTi:=hid hT;have HR2:=hid hr2
   have i1:((i:Nat):Int)<((k:Nat):Int):=by omega
   have hb5:=below_alloc (Below.refl wr.heap.size wr) (.cells #[.int .i64 z,.bool s,.slice x n c,.slice y m d] 70);have a0:(wr.alloc (.cells #[.int .i64 z,.bool s,.slice x n c,.slice y m d] 70)).cell? ⟨wr.heap.size,0,none⟩=some (.int .i64 z):=by simp [go_sem]
   have a1:(wr.alloc (.cells #[.int .i64 z,.bool s,.slice x n c,.slice y m d] 70)).cell? ⟨wr.heap.size,1,none⟩=some (.bool s):=by simp [go_sem]
   have a2:(wr.alloc (.cells #[.int .i64 z,.bool s,.slice x n c,.slice y m d] 70)).cell? ⟨wr.heap.size,2,none⟩=some (.slice x n c):=by simp [go_sem]
   have a3:(wr.alloc (.cells #[.int .i64 z,.bool s,.slice x n c,.slice y m d] 70)).cell? ⟨wr.heap.size,3,none⟩=some (.slice y m d):=by simp [go_sem]
   have HN:=hid (hn.below hb5);have HB5:=hid (HB.out.trans (hb5.mono HB.out.size))
   have hp:∀i',i=i'+1→(wr.alloc (.cells #[.int .i64 z,.bool s,.slice x n c,.slice y m d] 70)).cell? ⟨b,o+i'*4,none⟩=some (.int .i64 (col i')):=fun i' e=>by
    obtain ⟨b2,o2,e2,h2,_⟩:=(H.out.below HB.out) i' (by omega);cases e2
    exact kCb hb5 h2.x0
   clear hT hr2 hTi hr hn hz hb5 hn1 hn2;go_upto_region 4 with fail
   clear x0 x1 x2 x3 HB;generalize wr.alloc (.cells #[.int .i64 z,.bool s,.slice x n c,.slice y m d] 70)=w5 at *;have CF:Hid (∀W,Below w5.heap.size w5 W→Calls Tryz.prog 87 #[.agg #[.bool s,.slice x n c,.slice y m d]] W fun e w'=>e=.returned (.bool (rfB s f n g m))∧Below W.heap.size W w'):=fun W hW=>qForm_c (HN.out.below hW) hl1 hl2
   by_cases hz0:z<0
   ·have d0:decide (z<0)=true:=by simp [hz0]
    have hd:decide (lastc col i<z)=false:=by have:=HL.out.1;simp;omega
    have HD:=hid hd;clear hd hp CF HL
    go_quiet (fail)
    go_wp2;go_ret;refine ⟨?_,below_drewN HB5.out _⟩;rw [HTi.out,HD.out];rfl
   have d0:decide (z<0)=false:=by simp;omega
   by_cases hi0:i=0
   ·have hd:decide (lastc col i<z)=true:=by rw [hi0];show decide ((-1:Int)<z)=true;simp;omega
    have HD:=hid hd;have d1:decide ((0:Int)<((i:Nat):Int))=false:=by simp [hi0]
    clear hd hp HL;cases hf:rfB s f n g m
    ·rw [hf] at CF;have HNF:Hid (nfB ⟨s,x,n,c,f,y,m,d,g⟩=false):=hf;clear hf;refine wp_region_held_drew (S:=fun w'=>w'.cell? ⟨wr.heap.size,0,none⟩=some (.int .i64 z)∧w'.cell? ⟨wr.heap.size,1,none⟩=some (.bool s)∧w'.cell? ⟨wr.heap.size,2,none⟩=some (.slice x n c)∧w'.cell? ⟨wr.heap.size,3,none⟩=some (.slice y m d)) (by kernel_rfl) ?_ (fun hHeld=>?_)
     ·(refine ⟨?_,?_,?_,?_⟩ <;> repeat (with_reducible first | assumption | refine kCd ?_))
     refine tkO 0 ?_;simp only [lay_,Act.put];refine tkO 1 ?_;simp only [lay_,Act.put];refine tkO 2 ?_;simp only [lay_,Act.put];refine tkO 3 ?_;simp only [lay_,Act.put];refine tkO 4 ?_;simp only [lay_,Act.put];refine tkO 5 ?_;simp only [lay_,Act.put];refine tkO 6 ?_;simp only [lay_,Act.put];refine skO 7 ?_;simp only [lay_,Act.put];refine skO 8 ?_;simp only [lay_,Act.put];refine skO 9 ?_;simp only [lay_,Act.put];refine skO 10 ?_;simp only [lay_,Act.put];refine skO 11 ?_;simp only [lay_,Act.put];refine skO 12 ?_;simp only [lay_,Act.put];refine skO 13 ?_;simp only [lay_,Act.put];refine skO 14 ?_;simp only [lay_,Act.put];refine skO 15 ?_;simp only [lay_,Act.put];refine tkO 16 ?_;simp only [lay_,Act.put];refine tkO 17 ?_;simp only [lay_,Act.put];refine tkO 18 ?_;simp only [lay_,Act.put];refine tkO 19 ?_;simp only [lay_,Act.put];refine tkO 20 ?_;simp only [lay_,Act.put];refine wpAnyH_ready (rs:=[21]) (by kernel_rfl) (by simp) ?_;refine AllReadyH.cons (o:=_) rfl (fun K hK=>?_) ?_;rotate_left;exact AllReadyH.nil;go_simp
     go_at_call 87
     with_reducible refine (CF.out _ belB).mono ?_
     rintro e w6 ⟨rfl,hb6⟩;have B6:Below w5.heap.size w5 w6:=belB
     (try go_wp2_with fail)
     refine hK.out _ _ ?_ (fun hHeld2=>?_)
     ·((try dsimp only);(refine ⟨?_,?_,?_,?_⟩ <;> repeat (with_reducible first | assumption | refine kCb B6 ?_)))
     clear hK K;try simp only [lay_,Act.put]
     refine tkO 22 ?_;simp only [lay_,Act.put];refine tkO 23 ?_;simp only [lay_,Act.put];refine tkO 24 ?_;simp only [lay_,Act.put];refine skO 25 ?_;simp only [lay_,Act.put];refine skO 26 ?_;simp only [lay_,Act.put];refine skO 27 ?_;simp only [lay_,Act.put];refine skO 28 ?_;simp only [lay_,Act.put];refine skO 29 ?_;simp only [lay_,Act.put];refine tkO 30 ?_;simp only [lay_,Act.put];refine wpAnyH_done (by kernel_rfl) ?_ _;have HB6:=hid (HB5.out.trans (B6.mono HB5.out.size));go_wp2;go_ret;refine ⟨?_,HB6.out⟩;rw [HTi.out,HD.out,HNF.out];rfl
    rw [hf] at CF;have HNF:Hid (nfB ⟨s,x,n,c,f,y,m,d,g⟩=true):=hf;clear hf;by_cases hn0:n=0
    ·have hnd:(((n:Nat):Int)==0)=true:=by simp [hn0]
     have HN0:=hid hn0;clear hn0;refine wp_region_held_drew (S:=fun w'=>w'.cell? ⟨wr.heap.size,0,none⟩=some (.int .i64 z)∧w'.cell? ⟨wr.heap.size,1,none⟩=some (.bool s)∧w'.cell? ⟨wr.heap.size,2,none⟩=some (.slice x n c)∧w'.cell? ⟨wr.heap.size,3,none⟩=some (.slice y m d)) (by kernel_rfl) ?_ (fun hHeld=>?_)
     ·(refine ⟨?_,?_,?_,?_⟩ <;> repeat (with_reducible first | assumption | refine kCd ?_))
     refine tkO 0 ?_;simp only [lay_,Act.put];refine tkO 1 ?_;simp only [lay_,Act.put];refine tkO 2 ?_;simp only [lay_,Act.put];refine tkO 3 ?_;simp only [lay_,Act.put];refine tkO 4 ?_;simp only [lay_,Act.put];refine tkO 5 ?_;simp only [lay_,Act.put];refine tkO 6 ?_;simp only [lay_,Act.put];refine skO 7 ?_;simp only [lay_,Act.put];refine skO 8 ?_;simp only [lay_,Act.put];refine skO 9 ?_;simp only [lay_,Act.put];refine skO 10 ?_;simp only [lay_,Act.put];refine skO 11 ?_;simp only [lay_,Act.put];refine skO 12 ?_;simp only [lay_,Act.put];refine skO 13 ?_;simp only [lay_,Act.put];refine skO 14 ?_;simp only [lay_,Act.put];refine skO 15 ?_;simp only [lay_,Act.put];refine tkO 16 ?_;simp only [lay_,Act.put];refine tkO 17 ?_;simp only [lay_,Act.put];refine tkO 18 ?_;simp only [lay_,Act.put];refine tkO 19 ?_;simp only [lay_,Act.put];refine tkO 20 ?_;simp only [lay_,Act.put];refine wpAnyH_ready (rs:=[21]) (by kernel_rfl) (by simp) ?_;refine AllReadyH.cons (o:=_) rfl (fun K hK=>?_) ?_;rotate_left;exact AllReadyH.nil;go_simp
     go_at_call 87
     with_reducible refine (CF.out _ belB).mono ?_
     rintro e w6 ⟨rfl,hb6⟩;have B6:Below w5.heap.size w5 w6:=belB
     (try go_wp2_with fail)
     refine hK.out _ _ ?_ (fun hHeld2=>?_)
     ·((try dsimp only);(refine ⟨?_,?_,?_,?_⟩ <;> repeat (with_reducible first | assumption | refine kCb B6 ?_)))
     clear hK K;try simp only [lay_,Act.put]
     refine tkO 22 ?_;simp only [lay_,Act.put];refine tkO 23 ?_;simp only [lay_,Act.put];refine tkO 24 ?_;simp only [lay_,Act.put];refine tkO 25 ?_;simp only [lay_,Act.put];refine tkO 26 ?_;simp only [lay_,Act.put];refine tkO 27 ?_;simp only [lay_,Act.put];refine tkO 28 ?_;simp only [lay_,Act.put];refine tkO 29 ?_;simp only [lay_,Act.put];refine tkO 30 ?_;simp only [lay_,Act.put];refine wpAnyH_done (by kernel_rfl) ?_ _;have HB6:=hid (HB5.out.trans (B6.mono HB5.out.size));go_wp2;go_ret;refine ⟨?_,HB6.out⟩;rw [HTi.out,HD.out,HNF.out,HN0.out];rfl
    have hnd:(((n:Nat):Int)==0)=false:=by simp;omega
    have hnp:decide (0<n)=true:=by simp;omega
    have HNP:=hid hnp;clear hnp;refine wp_region_held_drew (S:=fun w'=>w'.cell? ⟨wr.heap.size,0,none⟩=some (.int .i64 z)∧w'.cell? ⟨wr.heap.size,1,none⟩=some (.bool s)∧w'.cell? ⟨wr.heap.size,2,none⟩=some (.slice x n c)∧w'.cell? ⟨wr.heap.size,3,none⟩=some (.slice y m d)) (by kernel_rfl) ?_ (fun hHeld=>?_)
    ·(refine ⟨?_,?_,?_,?_⟩ <;> repeat (with_reducible first | assumption | refine kCd ?_))
    refine tkO 0 ?_;simp only [lay_,Act.put];refine tkO 1 ?_;simp only [lay_,Act.put];refine tkO 2 ?_;simp only [lay_,Act.put];refine tkO 3 ?_;simp only [lay_,Act.put];refine tkO 4 ?_;simp only [lay_,Act.put];refine tkO 5 ?_;simp only [lay_,Act.put];refine tkO 6 ?_;simp only [lay_,Act.put];refine skO 7 ?_;simp only [lay_,Act.put];refine skO 8 ?_;simp only [lay_,Act.put];refine skO 9 ?_;simp only [lay_,Act.put];refine skO 10 ?_;simp only [lay_,Act.put];refine skO 11 ?_;simp only [lay_,Act.put];refine skO 12 ?_;simp only [lay_,Act.put];refine skO 13 ?_;simp only [lay_,Act.put];refine skO 14 ?_;simp only [lay_,Act.put];refine skO 15 ?_;simp only [lay_,Act.put];refine tkO 16 ?_;simp only [lay_,Act.put];refine tkO 17 ?_;simp only [lay_,Act.put];refine tkO 18 ?_;simp only [lay_,Act.put];refine tkO 19 ?_;simp only [lay_,Act.put];refine tkO 20 ?_;simp only [lay_,Act.put];refine wpAnyH_ready (rs:=[21]) (by kernel_rfl) (by simp) ?_;refine AllReadyH.cons (o:=_) rfl (fun K hK=>?_) ?_;rotate_left;exact AllReadyH.nil;go_simp
    go_at_call 87
    with_reducible refine (CF.out _ belB).mono ?_
    rintro e w6 ⟨rfl,hb6⟩;have B6:Below w5.heap.size w5 w6:=belB
    (try go_wp2_with fail)
    refine hK.out _ _ ?_ (fun hHeld2=>?_)
    ·((try dsimp only);(refine ⟨?_,?_,?_,?_⟩ <;> repeat (with_reducible first | assumption | refine kCb B6 ?_)))
    clear hK K;try simp only [lay_,Act.put]
    refine tkO 22 ?_;simp only [lay_,Act.put];refine tkO 23 ?_;simp only [lay_,Act.put];refine tkO 24 ?_;simp only [lay_,Act.put];refine tkO 25 ?_;simp only [lay_,Act.put];refine tkO 26 ?_;simp only [lay_,Act.put];refine tkO 27 ?_;simp only [lay_,Act.put];refine tkO 28 ?_;simp only [lay_,Act.put];refine tkO 29 ?_;simp only [lay_,Act.put];refine tkO 30 ?_;simp only [lay_,Act.put];refine wpAnyH_done (by kernel_rfl) ?_ _;have HB7:=hid (HB5.out.trans (B6.mono HB5.out.size));clear hb6 CF HN a0 a1 a2 a3 B6 hHeld hHeld2;go_wp2;go_roundw
    case rel =>
     refine ⟨i+1,by omega,by go_num,HB7.out,?_,?_⟩
     ·show _=_;rw [HTi.out,HD.out,HNF.out,HR2.out,HLc.out];simp only [HNP.out,Bool.true_and]
     ·show -1≤lastc col (i+1)∧(0<i+1→0≤lastc col (i+1));rw [HLc.out];exact ⟨by omega,fun _=>by omega⟩
    case measure=>simp [intOf];omega
   obtain ⟨i',rfl⟩:∃i',i=i'+1:=⟨i-1,by omega⟩;have p0:=hp i' rfl;have d1:decide ((0:Int)<((i':Nat):Int)+1)=true:=by simp
   have i8:((i':Nat):Int)≤9223372036854775807:=by omega
   have i9:((i':Nat):Int)+1≤9223372036854775807:=by omega
   have i5:IntKind.i64.wrap ((i':Nat):Int)=((i':Nat):Int):=by rw [IntKind.wrap_i64];omega
   have i3:(((i'+1:Nat):Int)-1)=((i':Nat):Int):=by omega
   have i4:((i':Nat):Int)<((k:Nat):Int):=by omega
   have i7:((i':Nat):Int)+1<((k:Nat):Int):=by omega
   have i6:(0:Int)≤((i':Nat):Int):=by omega
   have hll:lastc col (i'+1)=col i':=rfl;obtain ⟨zp,hzp⟩:∃zp,col i'=zp:=⟨_,rfl⟩;rw [hzp] at p0 hll;rw [hll] at HTi;clear hp HL;by_cases hpz:z≤zp
   ·have d2:decide (z≤zp)=true:=by simp [hpz]
    have hd:decide (zp<z)=false:=by simp;omega
    have HD:=hid hd;clear hd CF
    go_quiet (fail)
    go_wp2;go_ret;refine ⟨?_,below_drewN HB5.out _⟩;rw [HTi.out,HD.out];rfl
   have d2:decide (z≤zp)=false:=by simp;omega
   have hd:decide (zp<z)=true:=by simp;omega
   have HD:=hid hd;clear hd;cases hf:rfB s f n g m
   ·rw [hf] at CF;have HNF:Hid (nfB ⟨s,x,n,c,f,y,m,d,g⟩=false):=hf;clear hf;refine wp_region_held_drew (S:=fun w'=>w'.cell? ⟨wr.heap.size,0,none⟩=some (.int .i64 z)∧w'.cell? ⟨wr.heap.size,1,none⟩=some (.bool s)∧w'.cell? ⟨wr.heap.size,2,none⟩=some (.slice x n c)∧w'.cell? ⟨wr.heap.size,3,none⟩=some (.slice y m d)∧w'.cell? ⟨b,o+i'*4,none⟩=some (.int .i64 zp)) (by kernel_rfl) ?_ (fun hHeld=>?_)
    ·(refine ⟨?_,?_,?_,?_,?_⟩ <;> repeat (with_reducible first | assumption | refine kCd ?_))
    refine tkO 0 ?_;simp only [lay_,Act.put];refine tkO 1 ?_;simp only [lay_,Act.put];refine tkO 2 ?_;simp only [lay_,Act.put];refine tkO 3 ?_;simp only [lay_,Act.put];refine tkO 4 ?_;simp only [lay_,Act.put];refine tkO 5 ?_;simp only [lay_,Act.put];refine tkO 6 ?_;simp only [lay_,Act.put];refine tkO 7 ?_;simp only [lay_,Act.put];refine tkO 8 ?_;simp only [lay_,Act.put];refine tkO 9 ?_;simp only [lay_,Act.put];refine tkO 10 ?_;simp only [lay_,Act.put];refine tkO 11 ?_;simp only [lay_,Act.put];refine tkO 12 ?_;simp only [lay_,Act.put];refine tkO 13 ?_;simp only [lay_,Act.put];refine tkO 14 ?_;simp only [lay_,Act.put];refine tkO 15 ?_;simp only [lay_,Act.put];refine tkO 16 ?_;simp only [lay_,Act.put];refine tkO 17 ?_;simp only [lay_,Act.put];refine tkO 18 ?_;simp only [lay_,Act.put];refine tkO 19 ?_;simp only [lay_,Act.put];refine tkO 20 ?_;simp only [lay_,Act.put];refine wpAnyH_ready (rs:=[21]) (by kernel_rfl) (by simp) ?_;refine AllReadyH.cons (o:=_) rfl (fun K hK=>?_) ?_;rotate_left;exact AllReadyH.nil;go_simp
    go_at_call 87
    with_reducible refine (CF.out _ belB).mono ?_
    rintro e w6 ⟨rfl,hb6⟩;have B6:Below w5.heap.size w5 w6:=belB
    (try go_wp2_with fail)
    refine hK.out _ _ ?_ (fun hHeld2=>?_)
    ·((try dsimp only);(refine ⟨?_,?_,?_,?_,?_⟩ <;> repeat (with_reducible first | assumption | refine kCb B6 ?_)))
    clear hK K;try simp only [lay_,Act.put]
    refine tkO 22 ?_;simp only [lay_,Act.put];refine tkO 23 ?_;simp only [lay_,Act.put];refine tkO 24 ?_;simp only [lay_,Act.put];refine skO 25 ?_;simp only [lay_,Act.put];refine skO 26 ?_;simp only [lay_,Act.put];refine skO 27 ?_;simp only [lay_,Act.put];refine skO 28 ?_;simp only [lay_,Act.put];refine skO 29 ?_;simp only [lay_,Act.put];refine tkO 30 ?_;simp only [lay_,Act.put];refine wpAnyH_done (by kernel_rfl) ?_ _;have HB6:=hid (HB5.out.trans (B6.mono HB5.out.size));go_wp2;go_ret;refine ⟨?_,HB6.out⟩;rw [HTi.out,HD.out,HNF.out];rfl
   rw [hf] at CF;have HNF:Hid (nfB ⟨s,x,n,c,f,y,m,d,g⟩=true):=hf;clear hf;by_cases hn0:n=0
   ·have hnd:(((n:Nat):Int)==0)=true:=by simp [hn0]
    have HN0:=hid hn0;clear hn0;refine wp_region_held_drew (S:=fun w'=>w'.cell? ⟨wr.heap.size,0,none⟩=some (.int .i64 z)∧w'.cell? ⟨wr.heap.size,1,none⟩=some (.bool s)∧w'.cell? ⟨wr.heap.size,2,none⟩=some (.slice x n c)∧w'.cell? ⟨wr.heap.size,3,none⟩=some (.slice y m d)∧w'.cell? ⟨b,o+i'*4,none⟩=some (.int .i64 zp)) (by kernel_rfl) ?_ (fun hHeld=>?_)
    ·(refine ⟨?_,?_,?_,?_,?_⟩ <;> repeat (with_reducible first | assumption | refine kCd ?_))
    refine tkO 0 ?_;simp only [lay_,Act.put];refine tkO 1 ?_;simp only [lay_,Act.put];refine tkO 2 ?_;simp only [lay_,Act.put];refine tkO 3 ?_;simp only [lay_,Act.put];refine tkO 4 ?_;simp only [lay_,Act.put];refine tkO 5 ?_;simp only [lay_,Act.put];refine tkO 6 ?_;simp only [lay_,Act.put];refine tkO 7 ?_;simp only [lay_,Act.put];refine tkO 8 ?_;simp only [lay_,Act.put];refine tkO 9 ?_;simp only [lay_,Act.put];refine tkO 10 ?_;simp only [lay_,Act.put];refine tkO 11 ?_;simp only [lay_,Act.put];refine tkO 12 ?_;simp only [lay_,Act.put];refine tkO 13 ?_;simp only [lay_,Act.put];refine tkO 14 ?_;simp only [lay_,Act.put];refine tkO 15 ?_;simp only [lay_,Act.put];refine tkO 16 ?_;simp only [lay_,Act.put];refine tkO 17 ?_;simp only [lay_,Act.put];refine tkO 18 ?_;simp only [lay_,Act.put];refine tkO 19 ?_;simp only [lay_,Act.put];refine tkO 20 ?_;simp only [lay_,Act.put];refine wpAnyH_ready (rs:=[21]) (by kernel_rfl) (by simp) ?_;refine AllReadyH.cons (o:=_) rfl (fun K hK=>?_) ?_;rotate_left;exact AllReadyH.nil;go_simp
    go_at_call 87
    with_reducible refine (CF.out _ belB).mono ?_
    rintro e w6 ⟨rfl,hb6⟩;have B6:Below w5.heap.size w5 w6:=belB
    (try go_wp2_with fail)
    refine hK.out _ _ ?_ (fun hHeld2=>?_)
    ·((try dsimp only);(refine ⟨?_,?_,?_,?_,?_⟩ <;> repeat (with_reducible first | assumption | refine kCb B6 ?_)))
    clear hK K;try simp only [lay_,Act.put]
    refine tkO 22 ?_;simp only [lay_,Act.put];refine tkO 23 ?_;simp only [lay_,Act.put];refine tkO 24 ?_;simp only [lay_,Act.put];refine tkO 25 ?_;simp only [lay_,Act.put];refine tkO 26 ?_;simp only [lay_,Act.put];refine tkO 27 ?_;simp only [lay_,Act.put];refine tkO 28 ?_;simp only [lay_,Act.put];refine tkO 29 ?_;simp only [lay_,Act.put];refine tkO 30 ?_;simp only [lay_,Act.put];refine wpAnyH_done (by kernel_rfl) ?_ _;have HB6:=hid (HB5.out.trans (B6.mono HB5.out.size));go_wp2;go_ret;refine ⟨?_,HB6.out⟩;rw [HTi.out,HD.out,HNF.out,HN0.out];rfl
   have hnd:(((n:Nat):Int)==0)=false:=by simp;omega
   have hnp:decide (0<n)=true:=by simp;omega
   have HNP:=hid hnp;clear hnp;refine wp_region_held_drew (S:=fun w'=>w'.cell? ⟨wr.heap.size,0,none⟩=some (.int .i64 z)∧w'.cell? ⟨wr.heap.size,1,none⟩=some (.bool s)∧w'.cell? ⟨wr.heap.size,2,none⟩=some (.slice x n c)∧w'.cell? ⟨wr.heap.size,3,none⟩=some (.slice y m d)∧w'.cell? ⟨b,o+i'*4,none⟩=some (.int .i64 zp)) (by kernel_rfl) ?_ (fun hHeld=>?_)
   ·(refine ⟨?_,?_,?_,?_,?_⟩ <;> repeat (with_reducible first | assumption | refine kCd ?_))
   refine tkO 0 ?_;simp only [lay_,Act.put];refine tkO 1 ?_;simp only [lay_,Act.put];refine tkO 2 ?_;simp only [lay_,Act.put];refine tkO 3 ?_;simp only [lay_,Act.put];refine tkO 4 ?_;simp only [lay_,Act.put];refine tkO 5 ?_;simp only [lay_,Act.put];refine tkO 6 ?_;simp only [lay_,Act.put];refine tkO 7 ?_;simp only [lay_,Act.put];refine tkO 8 ?_;simp only [lay_,Act.put];refine tkO 9 ?_;simp only [lay_,Act.put];refine tkO 10 ?_;simp only [lay_,Act.put];refine tkO 11 ?_;simp only [lay_,Act.put];refine tkO 12 ?_;simp only [lay_,Act.put];refine tkO 13 ?_;simp only [lay_,Act.put];refine tkO 14 ?_;simp only [lay_,Act.put];refine tkO 15 ?_;simp only [lay_,Act.put];refine tkO 16 ?_;simp only [lay_,Act.put];refine tkO 17 ?_;simp only [lay_,Act.put];refine tkO 18 ?_;simp only [lay_,Act.put];refine tkO 19 ?_;simp only [lay_,Act.put];refine tkO 20 ?_;simp only [lay_,Act.put];refine wpAnyH_ready (rs:=[21]) (by kernel_rfl) (by simp) ?_;refine AllReadyH.cons (o:=_) rfl (fun K hK=>?_) ?_;rotate_left;exact AllReadyH.nil;go_simp
   go_at_call 87
   with_reducible refine (CF.out _ belB).mono ?_
   rintro e w6 ⟨rfl,hb6⟩;have B6:Below w5.heap.size w5 w6:=belB
   (try go_wp2_with fail)
   refine hK.out _ _ ?_ (fun hHeld2=>?_)
   ·((try dsimp only);(refine ⟨?_,?_,?_,?_,?_⟩ <;> repeat (with_reducible first | assumption | refine kCb B6 ?_)))
   clear hK K;try simp only [lay_,Act.put]
   refine tkO 22 ?_;simp only [lay_,Act.put];refine tkO 23 ?_;simp only [lay_,Act.put];refine tkO 24 ?_;simp only [lay_,Act.put];refine tkO 25 ?_;simp only [lay_,Act.put];refine tkO 26 ?_;simp only [lay_,Act.put];refine tkO 27 ?_;simp only [lay_,Act.put];refine tkO 28 ?_;simp only [lay_,Act.put];refine tkO 29 ?_;simp only [lay_,Act.put];refine tkO 30 ?_;simp only [lay_,Act.put];refine wpAnyH_done (by kernel_rfl) ?_ _;have HB7:=hid (HB5.out.trans (B6.mono HB5.out.size));clear hb6 CF HN a0 a1 a2 a3 B6 hHeld hHeld2;go_wp2;go_roundw
   case rel =>
    refine ⟨i'+1+1,by omega,by go_num,HB7.out,?_,?_⟩
    ·show _=_;rw [HTi.out,HD.out,HNF.out,HR2.out,HLc.out];simp only [HNP.out,Bool.true_and]
    ·show -1≤lastc col (i'+1+1)∧(0<i'+1+1→0≤lastc col (i'+1+1));rw [HLc.out];exact ⟨by omega,fun _=>by omega⟩
   case measure=>simp [intOf];omega
  ·have e1:i=k:=by omega
   have HTe:Hid (tfB k col T=true):=by
    show _=_;rw [HT.out,e1,Nat.sub_self];rfl
   have i2:¬(((i:Nat):Int)<((k:Nat):Int)):=by omega
   clear e1 HT;go_wp2;go_ret;refine ⟨?_,HB.out⟩;rw [HTe.out];rfl
end Go.Proofs.YtdbbncamlaiajaaGreat
