/-
 Models in memory: columns, rows; the walk of package model's areBounds. Columns, rows and models in memory; the walk of package model's inForm (written by makers/f4.py). Lists of rational numbers in memory; the walks of package vec's allForm, allBelow, plus and times. Rows of structs that a call makes by append, none of whose cells is a limb: what stays when they are written. No Go text is named here. The walk of package vec's putter (gather's own function). Lists of terms in form, as values; the walk of package vec's merge. The walks of package vec's gather and of the call Plus, on lists in form. Lists of terms in form have values; the walk of package vec's call Plus, whatever it is handed. The walks of package vec's calls Scale and Sparse, whatever they are handed. The walk of package vec's call Sparse, whatever it is handed. How long rational numbers are, by their values: sums and products. The call Dot of package vec, on lists in form whose columns lie below the number of the numbers. Package vec's call At. Lists of terms and lists of numbers, as values: sums, products with numbers, there and back. No Go text is named here. Between lists in memory and their values; rows of numbers that are made and written; the walk of package vec's call Dense, whatever it is handed. The walk of package vec's call Dense, whatever it is handed. Package vec's call Dot where it answers an error. Package vec's calls on lists in form, by their values; lists that are put together by their terms. append to a row of structs in a region that draws its order. No Go text is named here. The walk of package model's names (written by makers/f5.py). The walk of package model's allBelow (written by makers/f6.py). The walk of package model's Check, whatever it is handed (written by makers/f7.py). The walks of slices.Index of texts, of package model's place, Col and Row (written by makers/f8.py).
-/
import Derived.Test.YtffblgeappcadaaGreatZ7
import Derived.Test.YtffblgeappcadaaGreatZ6
import Derived.BigQuiet
import Derived.Deep.RegionHeld3
namespace Go.Proofs.YtffblgeappcadaaGreat
open Go.RowKit
structure Ex where
 i:Int
 v:Nm
def NmS (w:World) (t:Nm):Prop:=Rw w t.x t.n t.c t.f t.y t.m t.d t.g∧t.n≤65536∧t.m≤65536
theorem NmS.below {w w' t} (h:NmS w t) (hb:Below w.heap.size w w'):NmS w' t:=⟨h.1.below hb,h.2⟩
theorem NmS.alloc {w t} (h:NmS w t) (o:Obj):NmS (w.alloc o) t:=h.below (below_alloc (Below.refl _ _) o)
def exF (e:Ex):Bool:=efB e.i e.v.s e.v.f e.v.n e.v.g e.v.m
def abB (a b:Ex):Bool:=exF a && (exF b && (decide (a.i≠1) && decide (b.i ≠ -1)))
def Nm.val (t:Nm):Value:=.agg #[.bool t.s,.slice t.x t.n t.c,.slice t.y t.m t.d]
def Ex.val (e:Ex):Value:=.agg #[.int .i64 e.i,.bool e.v.s,.slice e.v.x e.v.n e.v.c,.slice e.v.y e.v.m e.v.d]
theorem eForm_x {w:World} {e:Ex} (h:NmS w e.v):Calls Tryz.prog 97 #[e.val] w fun r w'=>r=.returned (.bool (exF e))∧Below w.heap.size w w' :=
 eForm_b (i:=e.i) (s:=e.v.s) h.1 h.2.1 h.2.2
set_option maxRecDepth 100000 in
set_option maxHeartbeats 2000000 in
theorem areBounds_c {w:World} {a b:Ex} (ha:NmS w a.v) (hb:NmS w b.v):Calls Tryz.prog 82 #[a.val,b.val] w fun r w'=>r=.returned (.bool (abB a b))∧Below w.heap.size w w':=by
 have CA:=hid (fun w' (hw:Below w.heap.size w w')=>eForm_x (w:=w') (ha.below hw));have CB:=hid (fun w' (hw:Below w.heap.size w w')=>eForm_x (w:=w') (hb.below hw));obtain ⟨fa,hfa⟩:∃x,exF a=x:=⟨_,rfl⟩;obtain ⟨fb,hfb⟩:∃x,exF b=x:=⟨_,rfl⟩;have hR:abB a b=(fa && (fb && (decide (a.i≠1) && decide (b.i ≠ -1)))):=by simp only [abB,hfa,hfb]
 rw [hfa] at CA;rw [hfb] at CB;have HR:=hid hR;clear hR hfa hfb ha hb;obtain ⟨i,⟨s,x,n,c,f,y,m,d,g⟩⟩:=a;obtain ⟨j,⟨s2,x2,n2,c2,f2,y2,m2,d2,g2⟩⟩:=b;replace CA:Hid (∀w' (hw:Below w.heap.size w w'),Calls Tryz.prog 97 #[.agg #[.int .i64 i,.bool s,.slice x n c,.slice y m d]] w' fun r w2=>r=.returned (.bool fa)∧Below w'.heap.size w' w2):=CA;replace CB:Hid (∀w' (hw:Below w.heap.size w w'),Calls Tryz.prog 97 #[.agg #[.int .i64 j,.bool s2,.slice x2 n2 c2,.slice y2 m2 d2]] w' fun r w2=>r=.returned (.bool fb)∧Below w'.heap.size w' w2):=CB;replace HR:Hid (abB ⟨i,⟨s,x,n,c,f,y,m,d,g⟩⟩ ⟨j,⟨s2,x2,n2,c2,f2,y2,m2,d2,g2⟩⟩=(fa && (fb && (decide (i≠1) && decide (j ≠ -1))))):=HR;show Calls Tryz.prog 82 #[.agg #[.int .i64 i,.bool s,.slice x n c,.slice y m d],.agg #[.int .i64 j,.bool s2,.slice x2 n2 c2,.slice y2 m2 d2]] w _;go_enter Tryz.func82,Tryz.ntmps82;go_wp2_with fail
 have HB0:=hid (below_alloc (below_alloc (Below.refl w.heap.size w) (.cells #[.int .i64 i,.bool s,.slice x n c,.slice y m d] 60)) (.cells #[.int .i64 j,.bool s2,.slice x2 n2 c2,.slice y2 m2 d2] 60));refine (CA.out _ HB0.out).mono ?_;rintro r w1 ⟨rfl,hb1⟩;have x0:=kCb hb1 (a:=⟨w.heap.size,0,none⟩) (v:=.int .i64 i) (by simp [go_sem]);have b1:=bx4_new hb1;obtain ⟨_,y0,y1,y2',y3⟩:=b1;replace y0:w1.cell? ⟨w.heap.size+1,0,none⟩=some (.int .i64 j):=by simpa using y0
 replace y1:w1.cell? ⟨w.heap.size+1,1,none⟩=some (.bool s2):=by simpa using y1
 replace y2':w1.cell? ⟨w.heap.size+1,2,none⟩=some (.slice x2 n2 c2):=by simpa using y2'
 replace y3:w1.cell? ⟨w.heap.size+1,3,none⟩=some (.slice y2 m2 d2):=by simpa using y3
 have HB1:=hid (HB0.out.trans (hb1.mono HB0.out.size));clear hb1 HB0;cases fa
 ·go_wp2;go_ret;refine ⟨?_,HB1.out⟩;rw [HR.out];rfl
 ·go_wp2_with fail
  refine (CB.out _ HB1.out).mono ?_;rintro r w2 ⟨rfl,hb2⟩;have z0:=kCb hb2 x0;have u0:=kCb hb2 y0;have HB2:=hid (HB1.out.trans (hb2.mono HB1.out.size));clear hb2 HB1 x0 y0 y1 y2' y3;cases fb
  ·go_wp2;go_ret;refine ⟨?_,HB2.out⟩;rw [HR.out];rfl
  ·by_cases h1:i=1
   ·subst h1;go_wp2;go_ret;refine ⟨?_,HB2.out⟩;rw [HR.out];rfl
   ·have HI:=hid (show decide (i≠1)=true from by simp [h1]);by_cases h2:j=-1
    ·subst h2;go_wp2;go_ret;refine ⟨?_,HB2.out⟩;rw [HR.out,HI.out];rfl
    ·have HJ:=hid (show decide (j ≠ -1)=true from by simp [h2]);go_wp2;go_ret;refine ⟨?_,HB2.out⟩;rw [HR.out,HI.out,HJ.out];simp [h1,h2]
def Cs (w:World) (b o:Nat) (vs:List Value):Prop:=∀j v,vs[j]?=some v→w.cell? ⟨b,o+j,none⟩=some v
theorem Cs.below {w w' b o vs} (h:Cs w b o vs) (hb:Below w.heap.size w w'):Cs w' b o vs:=fun j v e=>kCb hb (h j v e)
structure Lc where
 nm:ByteArray
 cost:Nm
 lo:Ex
 hi:Ex
structure Lr where
 nm:ByteArray
 lo:Ex
 hi:Ex
 ta:Option Addr
 tk:Nat
 tc:Nat
 col:Nat→Int
 T:Nat→Nm
def Lc.vs (c:Lc):List Value:=[.string c.nm,.bool c.cost.s,.slice c.cost.x c.cost.n c.cost.c,.slice c.cost.y c.cost.m c.cost.d,.int .i64 c.lo.i,.bool c.lo.v.s,.slice c.lo.v.x c.lo.v.n c.lo.v.c,.slice c.lo.v.y c.lo.v.m c.lo.v.d,.int .i64 c.hi.i,.bool c.hi.v.s,.slice c.hi.v.x c.hi.v.n c.hi.v.c,.slice c.hi.v.y c.hi.v.m c.hi.v.d]
def Lr.vs (r:Lr):List Value:=[.string r.nm,.int .i64 r.lo.i,.bool r.lo.v.s,.slice r.lo.v.x r.lo.v.n r.lo.v.c,.slice r.lo.v.y r.lo.v.m r.lo.v.d,.int .i64 r.hi.i,.bool r.hi.v.s,.slice r.hi.v.x r.hi.v.n r.hi.v.c,.slice r.hi.v.y r.hi.v.m r.hi.v.d,.slice r.ta r.tk r.tc]
structure LcR (w:World) (c:Lc):Prop where
 cost:NmS w c.cost
 lo:NmS w c.lo.v
 hi:NmS w c.hi.v
 nm:c.nm.size≤9223372036854775807
structure LrR (w:World) (r:Lr):Prop where
 lo:NmS w r.lo.v
 hi:NmS w r.hi.v
 tl:Tl w r.ta r.tk r.col r.T
 tk:r.tk≤1048576
 nm:r.nm.size≤9223372036854775807
theorem LcR.below {w w' c} (h:LcR w c) (hb:Below w.heap.size w w'):LcR w' c:=⟨h.cost.below hb,h.lo.below hb,h.hi.below hb,h.nm⟩
theorem LrR.below {w w' c} (h:LrR w c) (hb:Below w.heap.size w w'):LrR w' c:=⟨h.lo.below hb,h.hi.below hb,h.tl.below hb,h.tk,h.nm⟩
def Cls (w:World) (ao:Option Addr) (k:Nat) (C:Nat→Lc):Prop:=∀j,j<k→∃b o,ao=some ⟨b,o,none⟩∧Cs w b (o+j*12) (C j).vs∧LcR w (C j)
def Rls (w:World) (ao:Option Addr) (k:Nat) (R:Nat→Lr):Prop:=∀j,j<k→∃b o,ao=some ⟨b,o,none⟩∧Cs w b (o+j*10) (R j).vs∧LrR w (R j)
theorem Cls.below {w w' ao k C} (h:Cls w ao k C) (hb:Below w.heap.size w w'):Cls w' ao k C:=fun j hj=>by
 obtain ⟨b,o,e,h1,h2⟩:=h j hj;exact ⟨b,o,e,h1.below hb,h2.below hb⟩
theorem Rls.below {w w' ao k R} (h:Rls w ao k R) (hb:Below w.heap.size w w'):Rls w' ao k R:=fun j hj=>by
 obtain ⟨b,o,e,h1,h2⟩:=h j hj;exact ⟨b,o,e,h1.below hb,h2.below hb⟩
structure Mo where
 off:Nm
 ca:Option Addr
 ck:Nat
 cc:Nat
 C:Nat→Lc
 ra:Option Addr
 rk:Nat
 rc:Nat
 R:Nat→Lr
def Mo.val (M:Mo):Value:=.agg #[.bool M.off.s,.slice M.off.x M.off.n M.off.c,.slice M.off.y M.off.m M.off.d,.slice M.ca M.ck M.cc,.slice M.ra M.rk M.rc]
structure MoR (w:World) (M:Mo):Prop where
 off:NmS w M.off
 cls:Cls w M.ca M.ck M.C
 rls:Rls w M.ra M.rk M.R
 ck:M.ck≤1048576
 rk:M.rk≤1048576
theorem MoR.below {w w' M} (h:MoR w M) (hb:Below w.heap.size w w'):MoR w' M:=⟨h.off.below hb,h.cls.below hb,h.rls.below hb,h.ck,h.rk⟩
def clsB (C:Nat→Lc):Nat→Nat→Bool
 | 0,_=>true
 | r+1,i=>nfB (C i).cost && (abB (C i).lo (C i).hi && clsB C r (i+1))
def rlsB (R:Nat→Lr):Nat→Nat→Bool
 | 0,_=>true
 | r+1,i=>abB (R i).lo (R i).hi && (tfB (R i).tk (R i).col (R i).T && rlsB R r (i+1))
def moF (M:Mo):Bool:=nfB M.off && (clsB M.C M.ck 0 && rlsB M.R M.rk 0)
theorem rForm_x {w:World} {t:Nm} (h:NmS w t):Calls Tryz.prog 81 #[t.val] w fun r w'=>r=.returned (.bool (nfB t))∧Below w.heap.size w w' :=
 rForm_c (s:=t.s) h.1 (by have:=h.2.1;omega) (by have:=h.2.2;omega)
set_option maxRecDepth 100000 in
set_option maxHeartbeats 4000000 in
theorem inForm_c {w:World} {M:Mo} (h:MoR w M):Calls Tryz.prog 58 #[M.val] w fun r w'=>r=.returned (.bool (moF M))∧Below w.heap.size w w':=by
 obtain ⟨⟨s,x,n,c,f,y,m,d,g⟩,ca,ck,cc,C,ra,rk,rc,R⟩:=M;obtain ⟨ho,hC,hR,hck,hrk⟩:=h;replace hck:ck≤1048576:=hck;replace hrk:rk≤1048576:=hrk;have HC:Hid (Cls w ca ck C):=hC;have HRL:Hid (Rls w ra rk R):=hR;have CF:=hid (fun w' (hw:Below w.heap.size w w')=>rForm_x (w:=w') (ho.below hw));obtain ⟨fo,hfo⟩:∃z,nfB ⟨s,x,n,c,f,y,m,d,g⟩=z:=⟨_,rfl⟩;rw [hfo] at CF;replace CF:Hid (∀w' (hw:Below w.heap.size w w'),Calls Tryz.prog 81 #[.agg #[.bool s,.slice x n c,.slice y m d]] w' fun r w2=>r=.returned (.bool fo)∧Below w'.heap.size w' w2):=CF;obtain ⟨ans,hans⟩:∃z,moF ⟨⟨s,x,n,c,f,y,m,d,g⟩,ca,ck,cc,C,ra,rk,rc,R⟩=z:=⟨_,rfl⟩;rw [hans];have hF:ans=(fo && (clsB C ck 0 && rlsB R rk 0)):=by rw [←hans,←hfo];rfl
 have HF:=hid hF;clear hF hans hfo ho hC hR;show Calls Tryz.prog 58 #[.agg #[.bool s,.slice x n c,.slice y m d,.slice ca ck cc,.slice ra rk rc]] w _;go_enter Tryz.func58,Tryz.ntmps58;go_wp2_with fail
 have HB0:=hid (below_alloc (Below.refl w.heap.size w) (.cells #[.bool s,.slice x n c,.slice y m d,.slice ca ck cc,.slice ra rk rc] 28));refine (CF.out _ HB0.out).mono ?_;rintro r w1 ⟨rfl,hb1⟩;have k3:=kCb hb1 (a:=⟨w.heap.size,3,none⟩) (v:=.slice ca ck cc) (by simp [go_sem]);have k4:=kCb hb1 (a:=⟨w.heap.size,4,none⟩) (v:=.slice ra rk rc) (by simp [go_sem]);have HB1:=hid (HB0.out.trans (hb1.mono HB0.out.size));clear hb1 HB0 CF;cases fo
 ·go_wp2;go_ret;refine ⟨?_,HB1.out⟩;rw [HF.out];rfl
 have HK4:=hid k4;clear k4;go_wp2_with fail
 go_loopw [14] (fun t wr=>∃(i:Nat),i≤ck∧t=.int .i64 i∧Hid (Below w1.heap.size w1 wr)∧Hid (ans=(clsB C (ck-i) i && rlsB R rk 0))) (fun t _=>ck-(intOf t).toNat)
 case atStart=>exact ⟨0,by omega,rfl,Below.refl _ _,by show _=_;rw [HF.out];rfl⟩
 case round =>
  obtain ⟨i,hi,rfl,HB,HI⟩:=hrel;by_cases hlt:i<ck
  ·obtain ⟨b,o,rfl,hc,hn⟩:=(HC.out.below (HB1.out.trans (HB.out.mono HB1.out.size))) i hlt;obtain ⟨r,hr⟩:∃r,ck-i=r+1:=⟨ck-i-1,by omega⟩;obtain ⟨⟨z,⟨s0,x0,n0,c0,f0,y0,m0,d0,g0⟩,⟨i1,⟨s1,x1,n1,c1,f1,y1,m1,d1,g1⟩⟩,⟨i2,⟨s2,x2,n2,c2,f2,y2,m2,d2,g2⟩⟩⟩,hCi⟩:∃t,C i=t:=⟨_,rfl⟩;obtain ⟨t1,ht1⟩:∃t,nfB (C i).cost=t:=⟨_,rfl⟩;obtain ⟨t2,ht2⟩:∃t,abB (C i).lo (C i).hi=t:=⟨_,rfl⟩;have hT:ans=((t1 && (t2 && clsB C r (i+1))) && rlsB R rk 0):=by rw [HI.out,hr,←ht1,←ht2];rfl
   have hr2:ck-(i+1)=r:=by omega
   have C1:=hid (fun w' (hw:Below wr.heap.size wr w')=>rForm_x (w:=w') (hn.cost.below hw));have C2:=hid (fun w' (hw:Below wr.heap.size wr w')=>areBounds_c (w:=w') (hn.lo.below hw) (hn.hi.below hw));rw [ht1] at C1;rw [ht2] at C2;rw [hCi] at hc C1 C2;replace C1:Hid (∀w' (hw:Below wr.heap.size wr w'),Calls Tryz.prog 81 #[.agg #[.bool s0,.slice x0 n0 c0,.slice y0 m0 d0]] w' fun r w2=>r=.returned (.bool t1)∧Below w'.heap.size w' w2):=C1;replace C2:Hid (∀w' (hw:Below wr.heap.size wr w'),Calls Tryz.prog 82 #[.agg #[.int .i64 i1,.bool s1,.slice x1 n1 c1,.slice y1 m1 d1],.agg #[.int .i64 i2,.bool s2,.slice x2 n2 c2,.slice y2 m2 d2]] w' fun r w2=>r=.returned (.bool t2)∧Below w'.heap.size w' w2):=C2;have q0:wr.cell? ⟨b,o+i*12,none⟩=some (.string z):=hc 0 _ rfl;have q1:wr.cell? ⟨b,o+i*12+1,none⟩=some (.bool s0):=hc 1 _ rfl;have q2:wr.cell? ⟨b,o+i*12+2,none⟩=some (.slice x0 n0 c0):=hc 2 _ rfl;have q3:wr.cell? ⟨b,o+i*12+3,none⟩=some (.slice y0 m0 d0):=hc 3 _ rfl;have q4:wr.cell? ⟨b,o+i*12+4,none⟩=some (.int .i64 i1):=hc 4 _ rfl;have q5:wr.cell? ⟨b,o+i*12+5,none⟩=some (.bool s1):=hc 5 _ rfl;have q6:wr.cell? ⟨b,o+i*12+6,none⟩=some (.slice x1 n1 c1):=hc 6 _ rfl;have q7:wr.cell? ⟨b,o+i*12+7,none⟩=some (.slice y1 m1 d1):=hc 7 _ rfl;have q8:wr.cell? ⟨b,o+i*12+8,none⟩=some (.int .i64 i2):=hc 8 _ rfl;have q9:wr.cell? ⟨b,o+i*12+9,none⟩=some (.bool s2):=hc 9 _ rfl;have q10:wr.cell? ⟨b,o+i*12+10,none⟩=some (.slice x2 n2 c2):=hc 10 _ rfl;have q11:wr.cell? ⟨b,o+i*12+11,none⟩=some (.slice y2 m2 d2):=hc 11 _ rfl;have HT:=hid hT;have HR:=hid hr2
   have i1':((i:Nat):Int)<((ck:Nat):Int):=by omega
   clear hT hr2 hr hCi ht1 ht2 hc hn;go_wp2_with fail
   have HB2:=hid (below_alloc (Below.refl wr.heap.size wr) (.cells #[.string z,.bool s0,.slice x0 n0 c0,.slice y0 m0 d0,.int .i64 i1,.bool s1,.slice x1 n1 c1,.slice y1 m1 d1,.int .i64 i2,.bool s2,.slice x2 n2 c2,.slice y2 m2 d2] 62));refine (C1.out _ HB2.out).mono ?_;rintro r w2 ⟨rfl,hb2⟩;have u4:=kCb hb2 (a:=⟨wr.heap.size,4,none⟩) (v:=.int .i64 i1) (by simp [go_sem]);have u5:=kCb hb2 (a:=⟨wr.heap.size,5,none⟩) (v:=.bool s1) (by simp [go_sem]);have u6:=kCb hb2 (a:=⟨wr.heap.size,6,none⟩) (v:=.slice x1 n1 c1) (by simp [go_sem]);have u7:=kCb hb2 (a:=⟨wr.heap.size,7,none⟩) (v:=.slice y1 m1 d1) (by simp [go_sem]);have u8:=kCb hb2 (a:=⟨wr.heap.size,8,none⟩) (v:=.int .i64 i2) (by simp [go_sem]);have u9:=kCb hb2 (a:=⟨wr.heap.size,9,none⟩) (v:=.bool s2) (by simp [go_sem]);have u10:=kCb hb2 (a:=⟨wr.heap.size,10,none⟩) (v:=.slice x2 n2 c2) (by simp [go_sem]);have u11:=kCb hb2 (a:=⟨wr.heap.size,11,none⟩) (v:=.slice y2 m2 d2) (by simp [go_sem]);have HB3:=hid (HB2.out.trans (hb2.mono HB2.out.size));clear hb2 HB2 C1;cases t1
   ·go_wp2;go_ret;refine ⟨?_,HB1.out.trans ((HB.out.trans (HB3.out.mono HB.out.size)).mono HB1.out.size)⟩;rw [HT.out];rfl
   ·go_wp2_with fail
    refine (C2.out _ HB3.out).mono ?_;rintro r w3 ⟨rfl,hb3⟩;have HB4:=hid (HB.out.trans ((HB3.out.trans (hb3.mono HB3.out.size)).mono HB.out.size));clear hb3 HB3 C2;cases t2
    ·go_wp2;go_ret;refine ⟨?_,HB1.out.trans (HB4.out.mono HB1.out.size)⟩;rw [HT.out];rfl
    ·go_wp2;go_roundw
     case rel =>
      refine ⟨i+1,by omega,by go_num,HB4.out,?_⟩;show _=_;rw [HT.out,HR.out];rfl
     case measure=>simp [intOf];omega
  ·have e1:i=ck:=by omega
   have HE:Hid (ans=rlsB R rk 0):=by show _=_;rw [HI.out,e1,Nat.sub_self];rfl
   have i2:¬(((i:Nat):Int)<((ck:Nat):Int)):=by omega
   have k4:=kCb HB.out HK4.out;have HB5:=hid (HB1.out.trans (HB.out.mono HB1.out.size));clear e1 HI HB HC HK4 HB1 k3;generalize wr=wa at *;go_wp2_with fail
   go_loopw [34] (fun t wr'=>∃(i:Nat),i≤rk∧t=.int .i64 i∧Hid (Below wa.heap.size wa wr')∧Hid (ans=rlsB R (rk-i) i)) (fun t _=>rk-(intOf t).toNat)
   case atStart=>exact ⟨0,by omega,rfl,Below.refl _ _,by show _=_;rw [HE.out];rfl⟩
   case round =>
    obtain ⟨i,hi,rfl,HB,HI⟩:=hrel;by_cases hlt:i<rk
    ·obtain ⟨b,o,rfl,hc,hn⟩:=(HRL.out.below (HB5.out.trans (HB.out.mono HB5.out.size))) i hlt;obtain ⟨r,hr⟩:∃r,rk-i=r+1:=⟨rk-i-1,by omega⟩;obtain ⟨⟨z,⟨i1,⟨s1,x1,n1,c1,f1,y1,m1,d1,g1⟩⟩,⟨i2,⟨s2,x2,n2,c2,f2,y2,m2,d2,g2⟩⟩,ta,tk,tc,tcol,tt⟩,hCi⟩:∃t,R i=t:=⟨_,rfl⟩;obtain ⟨t1,ht1⟩:∃t,abB (R i).lo (R i).hi=t:=⟨_,rfl⟩;obtain ⟨t2,ht2⟩:∃t,tfB (R i).tk (R i).col (R i).T=t:=⟨_,rfl⟩;have hT:ans=(t1 && (t2 && rlsB R r (i+1))):=by rw [HI.out,hr,←ht1,←ht2];rfl
     have hr2:rk-(i+1)=r:=by omega
     have C1:=hid (fun w' (hw:Below wr.heap.size wr w')=>areBounds_c (w:=w') (hn.lo.below hw) (hn.hi.below hw));have C2:=hid (fun w' (hw:Below wr.heap.size wr w')=>vForm_c (w:=w') (cap:=(R i).tc) (hn.tl.below hw) hn.tk);rw [ht1] at C1;rw [ht2] at C2;rw [hCi] at hc C1 C2;replace C1:Hid (∀w' (hw:Below wr.heap.size wr w'),Calls Tryz.prog 82 #[.agg #[.int .i64 i1,.bool s1,.slice x1 n1 c1,.slice y1 m1 d1],.agg #[.int .i64 i2,.bool s2,.slice x2 n2 c2,.slice y2 m2 d2]] w' fun r w2=>r=.returned (.bool t1)∧Below w'.heap.size w' w2):=C1;replace C2:Hid (∀w' (hw:Below wr.heap.size wr w'),Calls Tryz.prog 83 #[.slice ta tk tc] w' fun r w2=>r=.returned (.bool t2)∧Below w'.heap.size w' w2):=C2;have q0:wr.cell? ⟨b,o+i*10,none⟩=some (.string z):=hc 0 _ rfl;have q1:wr.cell? ⟨b,o+i*10+1,none⟩=some (.int .i64 i1):=hc 1 _ rfl;have q2:wr.cell? ⟨b,o+i*10+2,none⟩=some (.bool s1):=hc 2 _ rfl;have q3:wr.cell? ⟨b,o+i*10+3,none⟩=some (.slice x1 n1 c1):=hc 3 _ rfl;have q4:wr.cell? ⟨b,o+i*10+4,none⟩=some (.slice y1 m1 d1):=hc 4 _ rfl;have q5:wr.cell? ⟨b,o+i*10+5,none⟩=some (.int .i64 i2):=hc 5 _ rfl;have q6:wr.cell? ⟨b,o+i*10+6,none⟩=some (.bool s2):=hc 6 _ rfl;have q7:wr.cell? ⟨b,o+i*10+7,none⟩=some (.slice x2 n2 c2):=hc 7 _ rfl;have q8:wr.cell? ⟨b,o+i*10+8,none⟩=some (.slice y2 m2 d2):=hc 8 _ rfl;have q9:wr.cell? ⟨b,o+i*10+9,none⟩=some (.slice ta tk tc):=hc 9 _ rfl;have HT:=hid hT;have HR:=hid hr2
     have i1':((i:Nat):Int)<((rk:Nat):Int):=by omega
     clear hT hr2 hr hCi ht1 ht2 hc hn;go_wp2_with fail
     have HB2:=hid (below_alloc (Below.refl wr.heap.size wr) (.cells #[.string z,.int .i64 i1,.bool s1,.slice x1 n1 c1,.slice y1 m1 d1,.int .i64 i2,.bool s2,.slice x2 n2 c2,.slice y2 m2 d2,.slice ta tk tc] 65));refine (C1.out _ HB2.out).mono ?_;rintro r w2 ⟨rfl,hb2⟩;have u9:=kCb hb2 (a:=⟨wr.heap.size,9,none⟩) (v:=.slice ta tk tc) (by simp [go_sem]);have HB3:=hid (HB2.out.trans (hb2.mono HB2.out.size));clear hb2 HB2 C1;cases t1
     ·go_wp2;go_ret;refine ⟨?_,HB5.out.trans ((HB.out.trans (HB3.out.mono HB.out.size)).mono HB5.out.size)⟩;rw [HT.out];rfl
     ·go_wp2_with fail
      refine (C2.out _ HB3.out).mono ?_;rintro r w3 ⟨rfl,hb3⟩;have HB4:=hid (HB.out.trans ((HB3.out.trans (hb3.mono HB3.out.size)).mono HB.out.size));clear hb3 HB3 C2;cases t2
      ·go_wp2;go_ret;refine ⟨?_,HB5.out.trans (HB4.out.mono HB5.out.size)⟩;rw [HT.out];rfl
      ·go_wp2;go_roundw
       case rel =>
        refine ⟨i+1,by omega,by go_num,HB4.out,?_⟩;show _=_;rw [HT.out,HR.out];rfl
       case measure=>simp [intOf];omega
    ·have e1:i=rk:=by omega
     have HE2:Hid (ans=true):=by show _=_;rw [HI.out,e1,Nat.sub_self];rfl
     have i2:¬(((i:Nat):Int)<((rk:Nat):Int)):=by omega
     have HB6:=hid (HB5.out.trans (HB.out.mono HB5.out.size));clear e1 HI HB;go_wp2;go_ret;refine ⟨?_,HB6.out⟩;rw [HE2.out];rfl
structure C3 (w:World) (b o:Nat) (a0 a1 a2:Value):Prop where
 x0:w.cell? ⟨b,o,none⟩=some a0
 x1:w.cell? ⟨b,o+1,none⟩=some a1
 x2:w.cell? ⟨b,o+2,none⟩=some a2
theorem C3.below {w w' b o a0 a1 a2} (h:C3 w b o a0 a1 a2) (hb:Below w.heap.size w w'):C3 w' b o a0 a1 a2:=⟨kCb hb h.x0,kCb hb h.x1,kCb hb h.x2⟩
def Rl (w:World) (ao:Option Addr) (k:Nat) (X:Nat→Nm):Prop :=
 ∀j,j<k→∃b o,ao=some ⟨b,o,none⟩∧C3 w b (o+j*3) (.bool (X j).s) (.slice (X j).x (X j).n (X j).c) (.slice (X j).y (X j).m (X j).d)∧NmR w (X j)
theorem Rl.below {w w' ao k X} (h:Rl w ao k X) (hb:Below w.heap.size w w'):Rl w' ao k X:=fun j hj=>by
 obtain ⟨b,o,e,h1,h2⟩:=h j hj;exact ⟨b,o,e,h1.below hb,h2.below hb⟩
def afr (X:Nat→Nm):Nat→Nat→Bool
 | 0,_=>true
 | r+1,i=>nfB (X i) && afr X r (i+1)
def afB (k:Nat) (X:Nat→Nm):Bool:=afr X k 0
theorem box3 {w w1:World} {a0 a1 a2:Value} {t:TypeId} (hb:Below (w.alloc (.cells #[a0,a1,a2] t)).heap.size (w.alloc (.cells #[a0,a1,a2] t)) w1):w.heap.size<w1.heap.size∧w1.cell? ⟨w.heap.size,0,none⟩=some a0∧w1.cell? ⟨w.heap.size,1,none⟩=some a1∧w1.cell? ⟨w.heap.size,2,none⟩=some a2∧Below w.heap.size w w1:=by
 have hz:=hb.size;simp at hz;exact ⟨by omega,kCb hb (by simp [go_sem]),kCb hb (by simp [go_sem]),kCb hb (by simp [go_sem]),(below_alloc (Below.refl _ w) _).trans (hb.mono (by simp))⟩
def NoU (cur:Array Value):Prop:=∀(i:Nat) (z:Int),cur[i]?≠some (Value.int .u64 z)
structure Kp (w w':World):Prop where
 os:w'.os=w.os
 tape:w'.tape=w.tape
 output:w'.output=w.output
 size:w.heap.size≤w'.heap.size
 block:∀k,k<w.heap.size→w'.heap[k]?=w.heap[k]?∨∃cur t fr,w.heap[k]?=some (.cells cur t fr)∧NoU cur
theorem Kp.refl (w:World):Kp w w:=⟨rfl,rfl,rfl,Nat.le_refl _,fun _ _=>.inl rfl⟩
theorem Kp.trans {a b c:World} (h:Kp a b) (k:Kp b c):Kp a c :=
 ⟨k.os.trans h.os,k.tape.trans h.tape,k.output.trans h.output,Nat.le_trans h.size k.size,fun i hi=>by
  rcases h.block i hi with e | e
  ·rcases k.block i (Nat.lt_of_lt_of_le hi h.size) with e2 | ⟨cur,t,fr,e2,e3⟩
   ·exact .inl (e2.trans e)
   ·exact .inr ⟨cur,t,fr,e.symm.trans e2,e3⟩
  ·exact .inr e⟩
theorem Kp.of_below {w w':World} (h:Below w.heap.size w w'):Kp w w':=⟨h.os,h.tape,h.output,h.size,fun k hk=>.inl (h.block k hk)⟩
theorem Kp.drew {a w:World} (h:Kp a w):Kp a w.drew:=⟨h.os,h.tape,h.output,h.size,h.block⟩
theorem Kp.drewN {a w:World} (h:Kp a w) (q:Nat):Kp a (w.drewN q):=⟨h.os,h.tape,h.output,h.size,h.block⟩
theorem Kp.alloc {a w:World} (h:Kp a w) (o:Obj):Kp a (w.alloc o):=h.trans (Kp.of_below (below_alloc (Below.refl _ _) o))
theorem Kp.set {a w:World} (h:Kp a w) {x:Addr} {cur:Array Value} {t:TypeId} {fr:Nat × Nat} (hx:w.heap[x.block]?=some (.cells cur t fr)) (hu:NoU cur) (u:Value):Kp a (w.setCell x u) :=
 h.trans ⟨rfl,rfl,rfl,by simp [World.setCell],fun k _=>by
  by_cases e:k=x.block
  ·subst e;exact .inr ⟨cur,t,fr,hx,hu⟩
  ·exact .inl (Below.heap_setCell _ _ _ _ e)⟩
theorem Rd.kp {w w' ao n f} (h:Rd .u64 w ao n f) (hk:Kp w w'):Rd .u64 w' ao n f:=fun j hj=>by
 obtain ⟨b,o,e,hc⟩:=h j hj;refine ⟨b,o,e,?_⟩;have hl:=World.block_lt_of_cell? w _ hc;rcases hk.block b hl with h1 | ⟨cur,t,fr,h1,h2⟩
 ·exact (World.cell?_of_block (a:=⟨b,o+j,none⟩) h1).trans hc
 ·exfalso;simp [World.cell?,h1] at hc;exact h2 _ _ hc
theorem Wn.kp {w w' s x n c f v} (h:Wn w s x n c f v) (hk:Kp w w'):Wn w' s x n c f v:=⟨h.rd.kp hk,h.lm,h.wf,h.cap,h.nil,h.val⟩
theorem Rn.kp {L w w' s x n c f y m d g q} (h:Rn L w s x n c f y m d g q) (hk:Kp w w'):Rn L w' s x n c f y m d g q:=⟨h.num.kp hk,h.den.kp hk,h.ln,h.ld⟩
def RowG (e:TypeId) (sz base:Nat) (w:World) (v:Value) (n:Nat) (xs:List Value):Prop :=
 xs.length=n*sz∧((v=.slice none 0 0∧n=0)∨∃g cap cur,v=.slice (some ⟨g,0,none⟩) n cap∧base≤g∧w.heap[g]?=some (.cells cur e (0,0))∧n≤cap∧cap≤maxLen∧cur.size=cap*sz∧cur.toList.take (n*sz)=xs∧NoU cur)
theorem rowG_nil (e:TypeId) (sz base:Nat) (w:World):RowG e sz base w (.slice none 0 0) 0 []:=⟨by simp,.inl ⟨rfl,rfl⟩⟩
theorem RowG.owns {e sz base w v n xs} (h:RowG e sz base w v n xs):w.ownsRow base e sz v n xs:=by
 obtain ⟨h1,h2⟩:=h;refine ⟨h1,?_⟩;rcases h2 with h2 | ⟨g,cap,cur,a,b,c,d,e1,f,g1,_⟩
 ·exact .inl h2
 ·exact .inr ⟨g,cap,cur,a,b,c,d,e1,f,g1⟩
theorem RowG.of {e sz base w w' v n xs} (h:RowG e sz base w v n xs) (hh:∀g,v.ownBlock=some g→w'.heap[g]?=w.heap[g]?):RowG e sz base w' v n xs:=by
 obtain ⟨h1,h2⟩:=h;refine ⟨h1,?_⟩;rcases h2 with h2 | ⟨g,cap,cur,rfl,b,c,d,e1,f,g1,k⟩
 ·exact .inl h2
 ·exact .inr ⟨g,cap,cur,rfl,b,(hh g rfl).trans c,d,e1,f,g1,k⟩
theorem RowG.lt {e sz base w v n xs} (h:RowG e sz base w v n xs):∀g,v.ownBlock=some g→base≤g∧g<w.heap.size:=by
 intro g0 hg0;rcases h.2 with ⟨rfl,_⟩ | ⟨g,cap,cur,rfl,b,c,_⟩
 ·cases hg0
 ·have:g=g0:=by simpa [Value.ownBlock] using hg0
  subst this;exact ⟨b,(Array.getElem?_eq_some_iff.1 c).1⟩
theorem RowG.below {e sz base w w' v n xs} (h:RowG e sz base w v n xs) (hb:Below w.heap.size w w'):RowG e sz base w' v n xs:=h.of (fun g hg=>hb.block g (h.lt g hg).2)
theorem RowG.cells {e sz base w n xs g cap} (h:RowG e sz base w (.slice (some ⟨g,0,none⟩) n cap) n xs) {j:Nat} {u:Value} (hu:xs[j]?=some u):w.cell? ⟨g,j,none⟩=some u:=by
 obtain ⟨h1,h2⟩:=h;rcases h2 with ⟨h2,_⟩ | ⟨g',cap',cur,hv,b,c,d,e1,f,g1,k⟩
 ·cases h2
 ·cases hv
  have:cur.toList[j]?=some u:=by
   rw [←g1] at hu;rw [List.getElem?_take] at hu
   split at hu
   ·exact hu
   ·cases hu
  simp [World.cell?,c];simpa using this
theorem nou_append {a b:Array Value} (ha:NoU a) (hb:NoU b):NoU (a++b):=fun i z h=>by
 rw [Array.getElem?_append] at h
 split at h
 ·exact ha _ _ h
 ·exact hb _ _ h
theorem nou_list {l:List Value} (h:∀u ∈ l,∀z,u≠.int .u64 z):NoU l.toArray:=fun i z he=>by
 rw [List.getElem?_toArray] at he;exact h _ (List.mem_of_getElem? he) z rfl
theorem nou_mem {a:Array Value} (h:NoU a):∀u ∈ a.toList,∀z,u≠.int .u64 z:=fun u hu z e=>by
 obtain ⟨i,hi⟩:=List.getElem?_of_mem hu;subst e;exact h i z (by simpa using hi)
theorem wpList_append_G {P:Program} (w:World) {ops:Array Oper} {rest:List Oper} {o:Oper} {a:Act} {Q:Exit→Act→World→Prop} (hgd:o.guard=none) (s x:Operand) (t:TypeId)
  (ho:o.op=.call { callee:=.builtin .append,args:=#[s,x],argTypes:=#[t,t] })
  (base:Nat) (e:TypeId) (i:TypeInfo) (z:Value) (size bytes:Nat) (ht:P.underlying t=some (.slice e)) (hi:P.info? e=some i) (hz:i.zero=some z)
  (hsize:i.size=size) (hby:i.bytes=bytes) (hzs:z.cells.size=size) (hsz:0<size) (hzu:NoU z.cells)
  (v:Value) (n:Nat) (xs:List Value) (hs:a.eval s=v) (hown:RowG e size base w v n xs)
  (ad:Addr) (m c:Nat) (news:List Value) (hx:a.eval x=.slice (some ad) m c) (hl:news.length=m*size) (hnews:∀j u,news[j]?=some u→w.cell? (ad.add j)=some u) (h1:∀u ∈ news,u.oneCell'=true) (hnu:∀u ∈ news,∀z,u≠.int .u64 z)
  (hm0:0<m) (h63:n+m≤maxLen) (hbytes:(n+m)*bytes≤140737488355328) (hbase:base≤w.heap.size)
  (hK:∀g cap' w',RowG e size base w' (.slice (some ⟨g,0,none⟩) (n+m) cap') (n+m) (xs++news)→w.grownBy w' v.ownBlock→Kp w w'→wpList P ops Q rest (a.put o.dst (.slice (some ⟨g,0,none⟩) (n+m) cap')) w'):wpList P ops Q (o :: rest) a w:=by
 subst hsize;subst hby
 obtain ⟨v',w',hrun,h1',h2',h3'⟩:=run_append_own (P:=P) w base t o.type e i z i.size i.bytes ht hi hz rfl rfl hzs hsz v n xs hown.owns ad m c news hl hnews h1 h63 hbytes hbase;have hlen:(xs++news).length=(n+m)*i.size:=by rw [List.length_append,hown.1,hl,Nat.add_mul]
 have hzc:∀k,NoU (Builtin.zeroCells z.cells k):=by
  intro k j y hj;simp only [Builtin.zeroCells] at hj;have hm:=Array.mem_of_getElem? hj;obtain ⟨q,_,he⟩:=Array.mem_map.1 hm;have hlt:q%z.cells.size<z.cells.size:=Nat.mod_lt _ (by omega);rw [getElem!_pos z.cells (q%z.cells.size) hlt] at he;exact hzu (q%z.cells.size) y (by rw [Array.getElem?_eq_getElem hlt,he])
 have hnu':NoU news.toArray:=nou_list hnu;have hw:∃g cap' cur',v'=.slice (some ⟨g,0,none⟩) (n+m) cap'∧base≤g∧w'.heap[g]?=some (.cells cur' e (0,0))∧n+m≤cap'∧cap'≤maxLen∧cur'.size=cap'*i.size∧cur'.toList.take ((n+m)*i.size)=xs++news∧NoU cur'∧Kp w w':=by
  have hsm:n+m≤9223372036854775807:=by unfold maxLen at h63;omega
  rcases h1'.2 with ⟨hv0,hn0⟩ | ⟨g',cap',cur',hv',hb',hg',hn',hc',hs',ht'⟩
  ·omega
  ·refine ⟨g',cap',cur',hv',hb',hg',hn',hc',hs',ht',?_⟩;rcases hown.2 with ⟨rfl,rfl⟩ | ⟨g,cap,cur,rfl,hbg,hg,hnc,hcm,hcs,htake,hnuc⟩
   ·have hx0:xs=[]:=List.eq_nil_of_length_eq_zero (by simpa using hown.1);subst hx0;have e1:=run_append_nil (P:=P) w t o.type e i z ht hi hz ad m c news hl hnews hm0 (by omega) (by rw [Nat.zero_add] at hbytes;omega);rw [e1] at hrun;injection hrun with e2 e3;subst e3;rw [hv'] at e2;injection e2 with e4;injection e4 with e5;injection e5 with e6;subst e6;have e7:=heap_alloc_new w.drew (.cells (news.toArray++Builtin.zeroCells z.cells (grownCap w m 0 e-m)) e);rw [show w.heap.size=w.drew.heap.size from rfl,e7] at hg';injection hg' with e8;injection e8 with e9;rw [←e9];exact ⟨nou_append hnu' (hzc _),(Kp.refl w).drew.alloc _⟩
   ·by_cases hroom:n+m≤cap
    ·have e1:=run_append_room (P:=P) w t o.type e i ht hi g n cap cur hg ad m c news hl hnews h1 hroom (by rw [hl,hcs,←Nat.add_mul];exact Nat.mul_le_mul_right _ hroom);rw [e1] at hrun;injection hrun with e2 e3;rw [hv'] at e2;injection e2 with e4;injection e4 with e5;injection e5 with e6;subst e6;have e7:w'.heap[g]?=some (.cells (cur.toList.take (n*i.size)++news++cur.toList.drop (n*i.size+news.length)).toArray e (0,0)):=by rw [←e3];exact setRow_heap w g cur _ e _ hg
     rw [e7] at hg';injection hg' with e8;injection e8 with e9;rw [←e9];refine ⟨nou_list ?_,h2'.os,h2'.tape,h2'.output,h2'.size,fun k hk=>?_⟩
     ·intro u hu;rcases List.mem_append.1 hu with hu | hu
      ·rcases List.mem_append.1 hu with hu | hu
       ·exact nou_mem hnuc u (List.mem_of_mem_take hu)
       ·exact hnu u hu
      ·exact nou_mem hnuc u (List.mem_of_mem_drop hu)
     ·by_cases hkg:k=g
      ·subst hkg;exact .inr ⟨cur,e,(0,0),hg,hnuc⟩
      ·exact .inl (h2'.block k hk (fun e=>hkg (by simpa [Value.ownBlock] using e)))
    ·have holds:∀j u,xs[j]?=some u→w.cell? ((⟨g,0,none⟩:Addr).add j)=some u:=World.ownsRow.cells hown.owns (g:=g) rfl;have e1:=run_append_grow (P:=P) w t o.type e i z ht hi hz ⟨g,0,none⟩ n cap xs hown.1 holds ad m c news hl hnews (by omega) (by omega) (growslice_fits (by omega) hbytes);rw [e1] at hrun;injection hrun with e2 e3;subst e3;rw [hv'] at e2;injection e2 with e4;injection e4 with e5;injection e5 with e6;subst e6;have e7:=heap_alloc_new w.drew (.cells (xs.toArray++news.toArray++Builtin.zeroCells z.cells (grownCap w (n+m) cap e-(n+m))) e);rw [show w.heap.size=w.drew.heap.size from rfl,e7] at hg';injection hg' with e8;injection e8 with e9;rw [←e9];refine ⟨nou_append (nou_append (nou_list ?_) hnu') (hzc _),(Kp.refl w).drew.alloc _⟩;intro u hu;rw [←htake] at hu;exact nou_mem hnuc u (List.mem_of_mem_take hu)
 obtain ⟨g,cap',cur',rfl,a1,a2,a3,a4,a5,a6,a7,a8⟩:=hw;refine wpList_plain hgd fun _ hK'=>?_
 unfold Oper.wp execOp;simp only [ho,resolve,invoke,builtin,Sem.run_bind,Sem.run_pure,Result.andThen_ok,List.map_toArray,List.map_cons,List.map_nil,hs,hx,hrun];exact hK' _ _ (hK g cap' w' ⟨hlen,.inr ⟨g,cap',cur',rfl,a1,a2,a3,a4,a5,a6,a7⟩⟩ h2' a8)
theorem Tryz.infoTerm:(Tryz.prog.info? 67).map (fun i=>(i.zero,i.size,i.bytes))=some (some (.agg #[.int .i64 0,.bool false,.slice none 0 0,.slice none 0 0]),4,64):=by kernel_rfl
def tcell (z:Int) (t:Nm):List Value:=[.int .i64 z,.bool t.s,.slice t.x t.n t.c,.slice t.y t.m t.d]
def tcells (l:List (Int × Nm)):List Value:=l.flatMap (fun p=>tcell p.1 p.2)
theorem tcells_append (l:List (Int × Nm)) (z:Int) (t:Nm):tcells (l++[(z,t)])=tcells l++tcell z t:=by simp [tcells]
theorem nou_one {v:Value} (h:∀z,v≠.int .u64 z):NoU #[v]:=fun i z he=>by
 rcases Nat.lt_or_ge i 1 with hi | hi
 ·obtain rfl:i=0:=by omega
  exact h z (by simpa using he)
 ·rw [Array.getElem?_eq_none (by simpa using hi)] at he;cases he
theorem RowG.slice {e sz base w v n xs} (h:RowG e sz base w v n xs):∃ao cap,v=.slice ao n cap:=by
 rcases h.2 with ⟨rfl,rfl⟩ | ⟨g,cap,cur,rfl,_⟩
 ·exact ⟨none,0,rfl⟩
 ·exact ⟨_,cap,rfl⟩
def Tf (L:Nat) (w:World) (ao:Option Addr) (v:List (Int × Rat)):Prop :=
 ∀(j:Nat) (a:Int) (q:Rat),v[j]?=some (a,q)→∃b o,∃t:Nm,ao=some ⟨b,o,none⟩∧C4 w b (o+j*4) (.int .i64 a) (.bool t.s) (.slice t.x t.n t.c) (.slice t.y t.m t.d)∧Rn L w t.s t.x t.n t.c t.f t.y t.m t.d t.g q
theorem Tf.below {L w w' ao v} (h:Tf L w ao v) (hb:Below w.heap.size w w'):Tf L w' ao v:=fun j a q hj=>by
 obtain ⟨b,o,t,e,h1,h2⟩:=h j a q hj;exact ⟨b,o,t,e,h1.below hb,h2.below hb⟩
theorem Tf.nil (L:Nat) (w:World) (ao:Option Addr):Tf L w ao []:=fun j a q h=>by simp at h
theorem Tf.head {L w ao a q v} (h:Tf L w ao ((a,q) :: v)):∃b o,∃t:Nm,ao=some ⟨b,o,none⟩∧C4 w b o (.int .i64 a) (.bool t.s) (.slice t.x t.n t.c) (.slice t.y t.m t.d)∧Rn L w t.s t.x t.n t.c t.f t.y t.m t.d t.g q:=by
 obtain ⟨b,o,t,e,h1,h2⟩:=h 0 a q rfl;rw [Nat.zero_mul,Nat.add_zero] at h1;exact ⟨b,o,t,e,h1,h2⟩
theorem kBdn {w0 w:World} {q:Nat} (h:Below w0.heap.size w0 w):Below w0.heap.size w0 (w.drewN q):=below_drewN h q
theorem tcells_get {l:List (Int × Nm)} {j:Nat} {z:Int} {t:Nm} (h:l[j]?=some (z,t)) (i:Nat) (hi:i<4):(tcells l)[j*4+i]?=(tcell z t)[i]?:=by
 induction l generalizing j with
 | nil=>simp at h
 | cons p l ih =>
  have e1:tcells (p :: l)=tcell p.1 p.2++tcells l:=rfl;have e2:(tcell p.1 p.2).length=4:=rfl;cases j with
  | zero =>
   simp at h;subst h;rw [e1,List.getElem?_append_left (by rw [e2];omega),Nat.zero_mul,Nat.zero_add]
  | succ j =>
   rw [e1,List.getElem?_append_right (by rw [e2];omega),e2,show (j+1)*4+i-4=j*4+i by omega];exact ih (by simpa using h)
theorem tfr_all {col:Nat→Int} {T:Nat→Nm}:∀{r i:Nat} {last:Int},tfr col T r i last=true→(∀j,i≤j→j<i+r→last<col j∧nfB (T j)=true∧0<(T j).n)∧∀j k,i≤j→j<k→k<i+r→col j<col k:=by
 intro r
 induction r with
 | zero=>intro i last _;exact ⟨fun j h1 h2=>by omega,fun j k h1 h2 h3=>by omega⟩
 | succ r ih =>
  intro i last h;simp only [tfr,Bool.and_eq_true,decide_eq_true_eq] at h;obtain ⟨h1,h2,h3,h4⟩:=h;obtain ⟨k1,k2⟩:=ih h4;constructor
  ·intro j hj hj2;by_cases e:j=i
   ·subst e;exact ⟨h1,h2,h3⟩
   ·obtain ⟨a,b,c⟩:=k1 j (by omega) (by omega);exact ⟨by omega,b,c⟩
  ·intro j k hj hjk hk;by_cases e:j=i
   ·subst e;exact (k1 k (by omega) (by omega)).1
   ·exact k2 j k (by omega) hjk (by omega)
theorem Nm.rn {w:World} {t:Nm} {L:Nat} (h:NmR w t) (hf:nfB t=true) (hn:t.n≤L) (hm:t.m≤L):∃q,Rn L w t.s t.x t.n t.c t.f t.y t.m t.d t.g q:=h.1.rn hf hn hm
def Rf (L:Nat) (w:World) (ao:Option Addr) (p:List Rat):Prop :=
 ∀(j:Nat) (q:Rat),p[j]?=some q→∃b o,∃t:Nm,ao=some ⟨b,o,none⟩∧C3 w b (o+j*3) (.bool t.s) (.slice t.x t.n t.c) (.slice t.y t.m t.d)∧Rn L w t.s t.x t.n t.c t.f t.y t.m t.d t.g q
theorem Rf.below {L w w' ao p} (h:Rf L w ao p) (hb:Below w.heap.size w w'):Rf L w' ao p:=fun j q hj=>by
 obtain ⟨b,o,t,e,h1,h2⟩:=h j q hj;exact ⟨b,o,t,e,h1.below hb,h2.below hb⟩
theorem afr_all {X:Nat→Nm}:∀{r i:Nat},afr X r i=true→∀j,i≤j→j<i+r→nfB (X j)=true:=by
 intro r
 induction r with
 | zero=>intro i _ j h1 h2;omega
 | succ r ih =>
  intro i h j hj hj2;simp only [afr,Bool.and_eq_true] at h;by_cases e:j=i
  ·subst e;exact h.1
  ·exact ih h.2 j (by omega) (by omega)
theorem Wn.lt_pw {w s x n c f v} (h:Wn w s x n c f v):((v.natAbs:Nat):Int)<pw n:=by
 have hm:=h.mag;have h1:=vf_lt hm.lm;have h3:vf f n=((v.natAbs:Nat):Int):=hm.val;omega
theorem Wn.len_pw {w s x n c f v} {K:Nat} (h:Wn w s x n c f v) (hv:((v.natAbs:Nat):Int)<pw K):n≤K:=by
 have hm:=h.mag;have h3:vf f n=((v.natAbs:Nat):Int):=hm.val;by_cases hn:n≤K
 ·exact hn
 ·have h1:=vf_form_ge hm.lm (fm_of_wfB hm.wf) (by omega);have h2:=pw_mono (show K≤n-1 by omega);omega
theorem norm_le (N:Int) (D:Nat) (h:D≠0):(Rat.normalize N D h).num.natAbs≤N.natAbs∧(Rat.normalize N D h).den≤D:=by
 rw [Rat.normalize_eq];exact ⟨Int.natAbs_ediv_le_natAbs _ _,Nat.div_le_self _ _⟩
def Lo (K:Nat) (q:Rat):Prop:=((q.num.natAbs:Nat):Int)<pw K∧((q.den:Nat):Int)<pw K
theorem Lo.mono {K L q} (h:Lo K q) (hk:K≤L):Lo L q:=⟨Int.lt_of_lt_of_le h.1 (pw_mono hk),Int.lt_of_lt_of_le h.2 (pw_mono hk)⟩
theorem Rn.lo {L w s x n c f y m d g q} {K:Nat} (h:Rn L w s x n c f y m d g q) (hn:n≤K) (hm:m≤K):Lo K q :=
 ⟨Int.lt_of_lt_of_le h.num.lt_pw (pw_mono hn),Int.lt_of_lt_of_le (by have:=h.den.lt_pw;simpa using this) (pw_mono hm)⟩
theorem Rn.cut {L w s x n c f y m d g q} {K:Nat} (h:Rn L w s x n c f y m d g q) (hq:Lo K q):Rn K w s x n c f y m d g q :=
 ⟨h.num,h.den,h.num.len_pw hq.1,h.den.len_pw (by simpa using hq.2)⟩
theorem mul_pw {a b:Nat} {K L:Nat} (h1:(a:Int)<pw K) (h2:(b:Int)<pw L):((a*b:Nat):Int)≤pw (K+L):=by
 rw [pw_add,Int.natCast_mul];exact Int.mul_le_mul (by omega) (by omega) (by omega) (by have:=pw_pos K;omega)
theorem pw_twice (K:Nat):2*pw K<pw (K+1):=by
 have:=pw_pos K;simp only [pw];omega
theorem lo_mul {K L:Nat} {a b:Rat} (ha:Lo K a) (hb:Lo L b):Lo (K+L+1) (a*b):=by
 rw [Rat.mul_def];obtain ⟨h1,h2⟩:=norm_le (a.num*b.num) (a.den*b.den) (Nat.mul_ne_zero a.den_nz b.den_nz);have e1:=mul_pw ha.1 hb.1;have e2:=mul_pw ha.2 hb.2;rw [Int.natAbs_mul] at h1;have p:=pw_twice (K+L);have p0:=pw_pos (K+L);constructor <;> omega
theorem lo_add {K L:Nat} {a b:Rat} (ha:Lo K a) (hb:Lo L b):Lo (K+L+1) (a+b):=by
 rw [Rat.add_def];obtain ⟨h1,h2⟩:=norm_le (a.num*b.den+b.num*a.den) (a.den*b.den) (Nat.mul_ne_zero a.den_nz b.den_nz);have e1:=mul_pw ha.1 hb.2;have e2:=mul_pw ha.2 hb.1;have e3:=mul_pw ha.2 hb.2;have h3:=Int.natAbs_add_le (a.num*b.den) (b.num*a.den);rw [Int.natAbs_mul,Int.natAbs_mul,Int.natAbs_natCast,Int.natAbs_natCast,Nat.mul_comm b.num.natAbs] at h3;have p:=pw_twice (K+L);have p0:=pw_pos (K+L);constructor <;> omega
theorem lo_neg {K:Nat} {a:Rat} (ha:Lo K a):Lo K (-a):=by
 unfold Lo at *;rw [Rat.neg_num,Rat.neg_den,Int.natAbs_neg];exact ha
structure Sx (w:World) (B:Nat) (s:Bool) (x:Option Addr) (n c:Nat) (y:Option Addr) (m d:Nat):Prop where
 z:B<w.heap.size
 x0:w.cell? ⟨B,0,none⟩=some (.bool s)
 x1:w.cell? ⟨B,1,none⟩=some (.slice x n c)
 x2:w.cell? ⟨B,2,none⟩=some (.slice y m d)
 fz:∀o,w.frozen? ⟨B,o,none⟩=false
theorem Sx.below {w w' B s x n c y m d} (h:Sx w B s x n c y m d) (hb:Below w.heap.size w w'):Sx w' B s x n c y m d:=by
 obtain ⟨_,h2⟩:=bcell hb;exact ⟨Nat.lt_of_lt_of_le h.z hb.size,kCb hb h.x0,kCb hb h.x1,kCb hb h.x2,fun o=>(h2 _ _ h.z).trans (h.fz o)⟩
theorem Sx.rd {w B s x n c y m d u0 u1 u2 a k h} (S:Sx w B s x n c y m d) (hx:Rd .u64 w a k h):Rd .u64 (((w.setCell ⟨B,0,none⟩ u0).setCell ⟨B,1,none⟩ u1).setCell ⟨B,2,none⟩ u2) a k h :=
 rd_setne (cell_off (by decide) (cell_off (by decide) S.x2)) (fun i h=>by cases h) (rd_setne (cell_off (by decide) S.x1) (fun i h=>by cases h) (rd_setne S.x0 (fun i h=>by cases h) hx))
theorem Sx.rn {w B s x n c y m d u0 u1 u2 L s1 x1 n1 c1 f1 y1 m1 d1 g1 q} (S:Sx w B s x n c y m d) (h:Rn L w s1 x1 n1 c1 f1 y1 m1 d1 g1 q):Rn L (((w.setCell ⟨B,0,none⟩ u0).setCell ⟨B,1,none⟩ u1).setCell ⟨B,2,none⟩ u2) s1 x1 n1 c1 f1 y1 m1 d1 g1 q :=
 ⟨⟨S.rd h.num.rd,h.num.lm,h.num.wf,h.num.cap,h.num.nil,h.num.val⟩,⟨S.rd h.den.rd,h.den.lm,h.den.wf,h.den.cap,h.den.nil,h.den.val⟩,h.ln,h.ld⟩
theorem Sx.st {w B s x n c y m d s1 x1 n1 c1 y1 m1 d1} (S:Sx w B s x n c y m d):Sx (((w.setCell ⟨B,0,none⟩ (.bool s1)).setCell ⟨B,1,none⟩ (.slice x1 n1 c1)).setCell ⟨B,2,none⟩ (.slice y1 m1 d1)) B s1 x1 n1 c1 y1 m1 d1:=by
 have e0:=kI0 S.x0;have e1:=kI0 S.x1;have e2:=kI0 S.x2
 exact ⟨by simpa [World.setCell] using S.z,kCo (by decide) (kCo (by decide) (kCe e0)),kCo (by decide) (kCe (kIs e1)),kCe (kIs (kIs e2)),fun o=>kFs (kFs (kFs (S.fz o)))⟩
theorem Sx.drew {w B s x n c y m d} (h:Sx w B s x n c y m d):Sx w.drew B s x n c y m d:=⟨h.z,h.x0,h.x1,h.x2,h.fz⟩
theorem Tryz.infoRat:(Tryz.prog.info? 24).map (fun i=>(i.zero,i.size,i.bytes))=some (some (.agg #[.bool false,.slice none 0 0,.slice none 0 0]),3,56):=by kernel_rfl
theorem Rn.nm {L w q} {t:Nm} (h:Rn L w t.s t.x t.n t.c t.f t.y t.m t.d t.g q) (hL:L≤65536):NmR w t∧nfB t=true :=
 ⟨⟨h.rw,Nat.le_trans h.ln hL,Nat.le_trans h.ld hL⟩,h.rf⟩
theorem tfr_of {col:Nat→Int} {T:Nat→Nm}:∀{r i:Nat} {last:Int},(∀j,i≤j→j<i+r→nfB (T j)=true∧0<(T j).n)→(∀j,i≤j→j+1<i+r→col j<col (j+1))→(0<r→last<col i)→tfr col T r i last=true:=by
 intro r
 induction r with
 | zero=>intro i last _ _ _;rfl
 | succ r ih =>
  intro i last h1 h2 h3;simp only [tfr,Bool.and_eq_true,decide_eq_true_eq];exact ⟨h3 (by omega),(h1 i (by omega) (by omega)).1,(h1 i (by omega) (by omega)).2,ih (fun j a b=>h1 j (by omega) (by omega)) (fun j a b=>h2 j (by omega) (by omega)) (fun h=>h2 i (by omega) (by omega))⟩
theorem afr_of {X:Nat→Nm}:∀{r i:Nat},(∀j,i≤j→j<i+r→nfB (X j)=true)→afr X r i=true:=by
 intro r
 induction r with
 | zero=>intro i _;rfl
 | succ r ih =>
  intro i h;simp only [afr,Bool.and_eq_true];exact ⟨h i (by omega) (by omega),ih (fun j a b=>h j (by omega) (by omega))⟩
theorem rf_rl {L w ao} {p:List Rat} (h:Rf L w ao p) (hL:L≤65536):∃X,Rl w ao p.length X∧afB p.length X=true:=by
 have ht:∀j,∃t:Nm,∀q,p[j]?=some q→∃b o,ao=some ⟨b,o,none⟩∧C3 w b (o+j*3) (.bool t.s) (.slice t.x t.n t.c) (.slice t.y t.m t.d)∧Rn L w t.s t.x t.n t.c t.f t.y t.m t.d t.g q:=fun j=>by
  by_cases hj:j<p.length
  ·obtain ⟨b,o,t,h1,h2,h3⟩:=h j (p[j]) (List.getElem?_eq_getElem hj);refine ⟨t,fun q e=>?_⟩;rw [List.getElem?_eq_getElem hj] at e;have e2:=Option.some.inj e;rw [e2] at h3;exact ⟨b,o,h1,h2,h3⟩
  ·exact ⟨⟨false,none,0,0,fun _=>0,none,0,0,fun _=>0⟩,fun q e=>by rw [List.getElem?_eq_none (by omega)] at e;cases e⟩
 have hT:=fun j=>Classical.choose_spec (ht j)
 generalize hTe:(fun j=>Classical.choose (ht j))=T at *;have hT2:∀j q,p[j]?=some q→∃b o,ao=some ⟨b,o,none⟩∧C3 w b (o+j*3) (.bool (T j).s) (.slice (T j).x (T j).n (T j).c) (.slice (T j).y (T j).m (T j).d)∧Rn L w (T j).s (T j).x (T j).n (T j).c (T j).f (T j).y (T j).m (T j).d (T j).g q:=fun j q e=>by rw [←hTe];exact hT j q e
 have hg:∀j,j<p.length→p[j]?=some (p.getD j 0):=fun j hj=>by rw [List.getD_eq_getElem?_getD,List.getElem?_eq_getElem hj];rfl
 refine ⟨T,fun j hj=>?_,afr_of (fun j _ hj=>?_)⟩
 ·obtain ⟨b,o,h1,h2,h3⟩:=hT2 j _ (hg j hj);exact ⟨b,o,h1,h2,(h3.nm hL).1⟩
 ·obtain ⟨b,o,h1,h2,h3⟩:=hT2 j _ (hg j (by omega));exact (h3.nm hL).2
structure Rk (w:World) (B n:Nat):Prop where
 z:B<w.heap.size
 has:∀o,o<n*3→∃u,w.cell? ⟨B,o,none⟩=some u∧∀i,u≠Value.int .u64 i
 fz:∀o,w.frozen? ⟨B,o,none⟩=false
theorem Rk.below {w w' B n} (h:Rk w B n) (hb:Below w.heap.size w w'):Rk w' B n:=by
 obtain ⟨_,h2⟩:=bcell hb;exact ⟨Nat.lt_of_lt_of_le h.z hb.size,fun o ho=>by obtain ⟨u,h3,h4⟩:=h.has o ho;exact ⟨u,kCb hb h3,h4⟩,fun o=>(h2 _ _ h.z).trans (h.fz o)⟩
theorem Rk.drew {w B n} (h:Rk w B n):Rk w.drew B n:=⟨h.z,h.has,h.fz⟩
theorem Rk.set {w B n o u} (h:Rk w B n) (hu:∀i,u≠Value.int .u64 i):Rk (w.setCell ⟨B,o,none⟩ u) B n :=
 ⟨by simpa [World.setCell] using h.z,fun o' ho'=>by
  obtain ⟨u',h1,h2⟩:=h.has o' ho';by_cases e:o=o'
  ·subst e;exact ⟨u,kCe (kI0 h1),hu⟩
  ·exact ⟨u',kCo e h1,h2⟩,fun o'=>kFs (h.fz o')⟩
theorem Rk.rd {w B n o u a k f} (h:Rk w B n) (ho:o<n*3) (hx:Rd .u64 w a k f):Rd .u64 (w.setCell ⟨B,o,none⟩ u) a k f:=by
 obtain ⟨u',h1,h2⟩:=h.has o ho;exact rd_setne h1 h2 hx
theorem Rk.rn {w B n o u L s x k c f y m d g q} (h:Rk w B n) (ho:o<n*3) (hx:Rn L w s x k c f y m d g q):Rn L (w.setCell ⟨B,o,none⟩ u) s x k c f y m d g q :=
 ⟨⟨h.rd ho hx.num.rd,hx.num.lm,hx.num.wf,hx.num.cap,hx.num.nil,hx.num.val⟩,⟨h.rd ho hx.den.rd,hx.den.lm,hx.den.wf,hx.den.cap,hx.den.nil,hx.den.val⟩,hx.ln,hx.ld⟩
def Rq (L:Nat) (w:World) (B i:Nat) (Q:Nat→Rat):Prop:=∀j,j<i→∃t:Nm,C3 w B (j*3) (.bool t.s) (.slice t.x t.n t.c) (.slice t.y t.m t.d)∧Rn L w t.s t.x t.n t.c t.f t.y t.m t.d t.g (Q j)
theorem Rq.below {L w w' B i Q} (h:Rq L w B i Q) (hb:Below w.heap.size w w'):Rq L w' B i Q:=fun j hj=>by
 obtain ⟨t,h1,h2⟩:=h j hj;exact ⟨t,h1.below hb,h2.below hb⟩
theorem rq_st {L w B n i i' j Q Q' s x k c f y m d g} (h:Rk w B n) (hq:Rq L w B i Q) (hj:j<n) (hr:Rn L w s x k c f y m d g (Q' j)) (hs:∀j',j'<i'→j'≠j→j'<i∧Q' j'=Q j') :
  Rk (((w.setCell ⟨B,j*3,none⟩ (.bool s)).setCell ⟨B,j*3+1,none⟩ (.slice x k c)).setCell ⟨B,j*3+2,none⟩ (.slice y m d)) B n∧Rq L (((w.setCell ⟨B,j*3,none⟩ (.bool s)).setCell ⟨B,j*3+1,none⟩ (.slice x k c)).setCell ⟨B,j*3+2,none⟩ (.slice y m d)) B i' Q':=by
 have k1:=h.set (o:=j*3) (u:=.bool s) (fun i h=>by cases h);have k2:=k1.set (o:=j*3+1) (u:=.slice x k c) (fun i h=>by cases h);have k3:=k2.set (o:=j*3+2) (u:=.slice y m d) (fun i h=>by cases h);refine ⟨k3,fun j' hj'=>?_⟩;obtain ⟨_,a0,_⟩:=h.has (j*3) (by omega);obtain ⟨_,a1,_⟩:=k1.has (j*3+1) (by omega);obtain ⟨_,a2,_⟩:=k2.has (j*3+2) (by omega);by_cases e:j'=j
 ·subst e;exact ⟨⟨s,x,k,c,f,y,m,d,g⟩,⟨kCo (by omega) (kCo (by omega) (kCe (kI0 a0))),kCo (by omega) (kCe (kI0 a1)),kCe (kI0 a2)⟩,k2.rn (by omega) (k1.rn (by omega) (h.rn (by omega) hr))⟩
 ·obtain ⟨h1,h2⟩:=hs j' hj' e;obtain ⟨t,⟨c0,c1,c2⟩,ht⟩:=hq j' h1;rw [h2];exact ⟨t,⟨kCo (by omega) (kCo (by omega) (kCo (by omega) c0)),kCo (by omega) (kCo (by omega) (kCo (by omega) c1)),kCo (by omega) (kCo (by omega) (kCo (by omega) c2))⟩,k2.rn (by omega) (k1.rn (by omega) (h.rn (by omega) ht))⟩
theorem below_at {w0 w:World} {B o:Nat} {u0 u1 u2:Value} (hw:Below w0.heap.size w0 w) (hB:w0.heap.size≤B) :
  Below w0.heap.size w0 (((w.setCell ⟨B,o,none⟩ u0).setCell ⟨B,o+1,none⟩ u1).setCell ⟨B,o+2,none⟩ u2) :=
 below_turned hw hw.size ((((Turned.refl w0.heap.size (B+1) w).set (x:=⟨B,o,none⟩) hB (by simp) _).set (x:=⟨B,o+1,none⟩) hB (by simp) _).set (x:=⟨B,o+2,none⟩) hB (by simp) _) (Nat.le_refl _)
theorem Rq.rf {L w B n Q} {p:List Rat} (h:Rq L w B n Q) (hl:p.length=n) (hp:∀j,j<n→p[j]?=some (Q j)):Rf L w (some ⟨B,0,none⟩) p:=fun j q hj=>by
 have hlt:j<n:=by have:=(List.getElem?_eq_some_iff.1 hj).1;omega
 obtain ⟨t,h1,h2⟩:=h j hlt;rw [hp j hlt] at hj;obtain rfl:=Option.some.inj hj;refine ⟨B,0,t,rfl,?_,h2⟩;rw [Nat.zero_add];exact h1
theorem wpList_make_rk {P:Program} (w:World) {ops:Array Oper} {rest:List Oper} {o:Oper} {a:Act} {Q:Exit→Act→World→Prop}
  (hg:o.guard=none) (l c:Operand) (t:TypeId) (hop:o.op=Op.makeSlice t l c)
  (e:TypeId) (bytes:Nat) (h1:P.underlying t=some (.slice e)) (h2:(P.info? e).map (fun i=>(i.zero,i.size,i.bytes))=some (some (.agg #[.bool false,.slice none 0 0,.slice none 0 0]),3,bytes))
  (kl kc:IntKind) (L C:Int) (n:Nat) (hl:a.eval l=.int kl L) (hc:a.eval c=.int kc C) (hL:L=(n:Int)) (hC:C=(n:Int)) (b2:bytes*n≤281474976710656) (b3:n≤maxLen)
  (hK:∀w',Rk w' w.heap.size n→Below w.heap.size w w'→wpList P ops Q rest (a.put o.dst (.slice (some ⟨w.heap.size,0,none⟩) n n)) w') :
  wpList P ops Q (o :: rest) a w:=by
 obtain ⟨i,hi,hz0,hz1,hz2⟩:=info_parts h2;refine wpList_make_full w hg l c t hop w.heap.size e i _ 3 h1 hi hz0 hz1 kl kc L C n hl hc hL hC (by rw [hz2];exact b2) b3 (Nat.le_refl _) ?_;intro w' hown hgr;refine hK w' ?_ ((Below.refl _ _).grown hgr (Nat.le_refl _) (fun k h=>by cases h));obtain ⟨h1,h2⟩:=hown;rcases h2 with ⟨hv,_⟩ | ⟨g,cap,cur,hv,hb,hg,hn,hm2,hs,ht⟩
 ·cases hv
 ·cases hv
  refine ⟨(Array.getElem?_eq_some_iff.1 hg).1,fun o ho=>?_,fun o=>by simp [World.frozen?,hg]⟩;have hlt:o<cur.size:=by omega
  have h3:cur.toList[o]?=(madeCells (Value.agg #[.bool false,.slice none 0 0,.slice none 0 0]).cells (n*3)).toList[o]?:=by rw [←ht,List.getElem?_take,if_pos (by omega)]
  have h4:(madeCells (Value.agg #[.bool false,.slice none 0 0,.slice none 0 0]).cells (n*3))[o]?=some ((Value.agg #[.bool false,.slice none 0 0,.slice none 0 0]).cells[o%3]!):=by
   have hsz:(Value.agg #[.bool false,.slice none 0 0,.slice none 0 0]).cells.size=3:=by rfl
   simp [madeCells,hsz,ho]
  refine ⟨_,(by simp only [World.cell?,hg];simpa using h3.trans (by simpa using h4)),?_⟩;intro i;rcases (show o%3=0∨o%3=1∨o%3=2 by omega) with h | h | h <;> rw [h] <;> simp [Value.cells]
theorem Tf.mono {L L' w ao v} (h:Tf L w ao v) (hL:L≤L'):Tf L' w ao v:=fun j a q hj=>by
 obtain ⟨b,o,t,e,h1,h2⟩:=h j a q hj;exact ⟨b,o,t,e,h1,h2.mono hL⟩
theorem Rf.mono {L L' w ao p} (h:Rf L w ao p) (hL:L≤L'):Rf L' w ao p:=fun j q hj=>by
 obtain ⟨b,o,t,e,h1,h2⟩:=h j q hj;exact ⟨b,o,t,e,h1,h2.mono hL⟩
theorem tf_alloc {L:Nat} {w:World} (l:List (Int × Nm)) (vs:List (Int × Rat)) (h:∀(j:Nat) (a:Int) (q:Rat),vs[j]?=some (a,q)→∃t:Nm,l[j]?=some (a,t)∧Rn L w t.s t.x t.n t.c t.f t.y t.m t.d t.g q) :
  Tf L (w.alloc (.cells (tcells l).toArray 67)) (some ⟨w.heap.size,0,none⟩) vs:=fun j a q hj=>by
 obtain ⟨t,h1,h2⟩:=h j a q hj;have hc:∀i,i<4→(w.alloc (.cells (tcells l).toArray 67)).cell? ⟨w.heap.size,0+j*4+i,none⟩=(tcell a t)[i]?:=fun i hi=>by
  rw [World.cell?_alloc_new,Nat.zero_add,List.getElem?_toArray];exact tcells_get h1 i hi
 exact ⟨w.heap.size,0,t,rfl,⟨hc 0 (by decide),hc 1 (by decide),hc 2 (by decide),hc 3 (by decide)⟩,h2.alloc _⟩
def rcell (t:Nm):List Value:=[.bool t.s,.slice t.x t.n t.c,.slice t.y t.m t.d]
def rcells (l:List Nm):List Value:=l.flatMap rcell
theorem rcells_get {l:List Nm} {j:Nat} {t:Nm} (h:l[j]?=some t) (i:Nat) (hi:i<3):(rcells l)[j*3+i]?=(rcell t)[i]?:=by
 induction l generalizing j with
 | nil=>simp at h
 | cons u l ih =>
  have e:rcells (u :: l)=rcell u++rcells l:=by simp [rcells]
  rw [e];cases j with
  | zero =>
   simp at h;subst h
   rw [Nat.zero_mul,Nat.zero_add,List.getElem?_append_left (by show i<3;exact hi)]
  | succ j =>
   rw [List.getElem?_append_right (by show 3≤_;omega),show (j+1)*3+i-(rcell u).length=j*3+i by show (j+1)*3+i-3=_;omega];exact ih (by simpa using h)
theorem step_append_G {P:Program} (w:World) {ops:Array Oper} {o:Oper} {a:Act} {K:Act→World→Prop} {Q:Exit→Act→World→Prop} {E:Prop} (hgd:o.guard=none) (s x:Operand) (t:TypeId)
  (ho:o.op=.call { callee:=.builtin .append,args:=#[s,x],argTypes:=#[t,t] })
  (base:Nat) (e:TypeId) (i:TypeInfo) (z:Value) (size bytes:Nat) (ht:P.underlying t=some (.slice e)) (hi:P.info? e=some i) (hz:i.zero=some z)
  (hsize:i.size=size) (hby:i.bytes=bytes) (hzs:z.cells.size=size) (hsz:0<size) (hzu:NoU z.cells)
  (v:Value) (n:Nat) (xs:List Value) (hs:a.eval s=v) (hown:RowG e size base w v n xs)
  (ad:Addr) (m c:Nat) (news:List Value) (hx:a.eval x=.slice (some ad) m c) (hl:news.length=m*size) (hnews:∀j u,news[j]?=some u→w.cell? (ad.add j)=some u) (h1:∀u ∈ news,u.oneCell'=true) (hnu:∀u ∈ news,∀z,u≠.int .u64 z)
  (hm0:0<m) (h63:n+m≤maxLen) (hbytes:(n+m)*bytes≤140737488355328) (hbase:base≤w.heap.size)
  (hK:∀g cap' w',RowG e size base w' (.slice (some ⟨g,0,none⟩) (n+m) cap') (n+m) (xs++news)→w.grownBy w' v.ownBlock→Kp w w'→K (a.put o.dst (.slice (some ⟨g,0,none⟩) (n+m) cap')) w'):if Region.wanted o (yielded ops a.tmps)=true then Oper.wp P o a w K Q else E:=by
 subst hsize;subst hby
 obtain ⟨v',w',hrun,h1',h2',h3'⟩:=run_append_own (P:=P) w base t o.type e i z i.size i.bytes ht hi hz rfl rfl hzs hsz v n xs hown.owns ad m c news hl hnews h1 h63 hbytes hbase;have hlen:(xs++news).length=(n+m)*i.size:=by rw [List.length_append,hown.1,hl,Nat.add_mul]
 have hzc:∀k,NoU (Builtin.zeroCells z.cells k):=by
  intro k j y hj;simp only [Builtin.zeroCells] at hj;have hm:=Array.mem_of_getElem? hj;obtain ⟨q,_,he⟩:=Array.mem_map.1 hm;have hlt:q%z.cells.size<z.cells.size:=Nat.mod_lt _ (by omega);rw [getElem!_pos z.cells (q%z.cells.size) hlt] at he;exact hzu (q%z.cells.size) y (by rw [Array.getElem?_eq_getElem hlt,he])
 have hnu':NoU news.toArray:=nou_list hnu;have hw:∃g cap' cur',v'=.slice (some ⟨g,0,none⟩) (n+m) cap'∧base≤g∧w'.heap[g]?=some (.cells cur' e (0,0))∧n+m≤cap'∧cap'≤maxLen∧cur'.size=cap'*i.size∧cur'.toList.take ((n+m)*i.size)=xs++news∧NoU cur'∧Kp w w':=by
  have hsm:n+m≤9223372036854775807:=by unfold maxLen at h63;omega
  rcases h1'.2 with ⟨hv0,hn0⟩ | ⟨g',cap',cur',hv',hb',hg',hn',hc',hs',ht'⟩
  ·omega
  ·refine ⟨g',cap',cur',hv',hb',hg',hn',hc',hs',ht',?_⟩;rcases hown.2 with ⟨rfl,rfl⟩ | ⟨g,cap,cur,rfl,hbg,hg,hnc,hcm,hcs,htake,hnuc⟩
   ·have hx0:xs=[]:=List.eq_nil_of_length_eq_zero (by simpa using hown.1);subst hx0;have e1:=run_append_nil (P:=P) w t o.type e i z ht hi hz ad m c news hl hnews hm0 (by omega) (by rw [Nat.zero_add] at hbytes;omega);rw [e1] at hrun;injection hrun with e2 e3;subst e3;rw [hv'] at e2;injection e2 with e4;injection e4 with e5;injection e5 with e6;subst e6;have e7:=heap_alloc_new w.drew (.cells (news.toArray++Builtin.zeroCells z.cells (grownCap w m 0 e-m)) e);rw [show w.heap.size=w.drew.heap.size from rfl,e7] at hg';injection hg' with e8;injection e8 with e9;rw [←e9];exact ⟨nou_append hnu' (hzc _),(Kp.refl w).drew.alloc _⟩
   ·by_cases hroom:n+m≤cap
    ·have e1:=run_append_room (P:=P) w t o.type e i ht hi g n cap cur hg ad m c news hl hnews h1 hroom (by rw [hl,hcs,←Nat.add_mul];exact Nat.mul_le_mul_right _ hroom);rw [e1] at hrun;injection hrun with e2 e3;rw [hv'] at e2;injection e2 with e4;injection e4 with e5;injection e5 with e6;subst e6;have e7:w'.heap[g]?=some (.cells (cur.toList.take (n*i.size)++news++cur.toList.drop (n*i.size+news.length)).toArray e (0,0)):=by rw [←e3];exact setRow_heap w g cur _ e _ hg
     rw [e7] at hg';injection hg' with e8;injection e8 with e9;rw [←e9];refine ⟨nou_list ?_,h2'.os,h2'.tape,h2'.output,h2'.size,fun k hk=>?_⟩
     ·intro u hu;rcases List.mem_append.1 hu with hu | hu
      ·rcases List.mem_append.1 hu with hu | hu
       ·exact nou_mem hnuc u (List.mem_of_mem_take hu)
       ·exact hnu u hu
      ·exact nou_mem hnuc u (List.mem_of_mem_drop hu)
     ·by_cases hkg:k=g
      ·subst hkg;exact .inr ⟨cur,e,(0,0),hg,hnuc⟩
      ·exact .inl (h2'.block k hk (fun e=>hkg (by simpa [Value.ownBlock] using e)))
    ·have holds:∀j u,xs[j]?=some u→w.cell? ((⟨g,0,none⟩:Addr).add j)=some u:=World.ownsRow.cells hown.owns (g:=g) rfl;have e1:=run_append_grow (P:=P) w t o.type e i z ht hi hz ⟨g,0,none⟩ n cap xs hown.1 holds ad m c news hl hnews (by omega) (by omega) (growslice_fits (by omega) hbytes);rw [e1] at hrun;injection hrun with e2 e3;subst e3;rw [hv'] at e2;injection e2 with e4;injection e4 with e5;injection e5 with e6;subst e6;have e7:=heap_alloc_new w.drew (.cells (xs.toArray++news.toArray++Builtin.zeroCells z.cells (grownCap w (n+m) cap e-(n+m))) e);rw [show w.heap.size=w.drew.heap.size from rfl,e7] at hg';injection hg' with e8;injection e8 with e9;rw [←e9];refine ⟨nou_append (nou_append (nou_list ?_) hnu') (hzc _),(Kp.refl w).drew.alloc _⟩;intro u hu;rw [←htake] at hu;exact nou_mem hnuc u (List.mem_of_mem_take hu)
 obtain ⟨g,cap',cur',rfl,a1,a2,a3,a4,a5,a6,a7,a8⟩:=hw;have hwt:Region.wanted o (yielded ops a.tmps)=true:=by simp [Region.wanted,hgd]
 rw [if_pos hwt];unfold Oper.wp execOp;simp only [ho,resolve,invoke,builtin,Sem.run_bind,Sem.run_pure,Result.andThen_ok,List.map_toArray,List.map_cons,List.map_nil,hs,hx,hrun];exact hK g cap' w' ⟨hlen,.inr ⟨g,cap',cur',rfl,a1,a2,a3,a4,a5,a6,a7⟩⟩ h2' a8
theorem step_append_one {P:Program} (w0:World) {ops:Array Oper} {o:Oper} {a:Act} {K:Act→World→Prop} {Q:Exit→Act→World→Prop} {E:Prop} (hgd:o.guard=none) (s x:Operand) (t:TypeId)
  (ho:o.op=.call { callee:=.builtin .append,args:=#[s,x],argTypes:=#[t,t] })
  (base:Nat) (e:TypeId) (bytes sz:Nat) (z:Value) (ht:P.underlying t=some (.slice e)) (hi:(P.info? e).map (fun i=>(i.zero,i.size,i.bytes))=some (some z,sz,bytes)) (hzs:z.cells.size=sz) (hsz:0<sz) (hzu:NoU z.cells)
  (v:Value) (n:Nat) (xs:List Value) (hs:a.eval s=v) (hown:RowG e sz base w0 v n xs) (c:Array Value) (hx:a.eval x=.slice (some ⟨w0.heap.size,0,none⟩) 1 1) (hc:c.size=sz) (h1:∀u ∈ c.toList,u.oneCell'=true) (hnu:∀u ∈ c.toList,∀q,u≠.int .u64 q) (hn:n≤1000000) (hby:bytes≤1000) (hbase:base≤w0.heap.size)
  (hK:∀g cap' w',RowG e sz base w' (.slice (some ⟨g,0,none⟩) (n+1) cap') (n+1) (xs++c.toList)→Kp w0 w'→(∀b0:World,Below b0.heap.size b0 w0→b0.heap.size≤base→Below b0.heap.size b0 w')→(∀k,k<w0.heap.size→v.ownBlock≠some k→w'.heap[k]?=w0.heap[k]?)→K (a.put o.dst (.slice (some ⟨g,0,none⟩) (n+1) cap')) w'):if Region.wanted o (yielded ops a.tmps)=true then Oper.wp P o a (w0.alloc (.cells c e)) K Q else E:=by
 obtain ⟨i,hi,hz0,hz1,hz2⟩:=info_parts hi;have hal:=below_alloc (Below.refl w0.heap.size w0) (.cells c e);have hblk:=heap_alloc_new w0 (.cells c e);have hrow:=hown.below hal;refine step_append_G (w0.alloc (.cells c e)) hgd s x t ho base e i z sz bytes ht hi hz0 hz1 hz2 hzs hsz hzu v n xs hs hrow ⟨w0.heap.size,0,none⟩ 1 1 c.toList hx (by simp [hc]) (fun j u hu=>?_) h1 hnu (by decide) (by unfold maxLen;omega) ?_ (by simp;omega) ?_
 ·rw [addr_add,Nat.zero_add];simp only [World.cell?,hblk];simpa using hu
 ·have:(n+1)*bytes≤1000001*1000:=Nat.mul_le_mul (by omega) hby;omega
 ·intro g cap' w' hr hgr hkp;refine hK g cap' w' hr ((Kp.of_below hal).trans hkp) (fun b0 hb hle=>?_) (fun k hk hne=>(hgr.block k (by simp;omega) (fun e=>hne e.symm)).trans (hal.block k hk));have h2:Below b0.heap.size b0 (w0.alloc (.cells c e)):=hb.trans (hal.mono hb.size);exact h2.grown hgr (by have:=hb.size;simp;omega) (fun k hk=>by have:=(hrow.lt k hk).1;omega)
theorem wpList_append_one {P:Program} (w0:World) {ops:Array Oper} {rest:List Oper} {o:Oper} {a:Act} {Q:Exit→Act→World→Prop} (hgd:o.guard=none) (s x:Operand) (t:TypeId)
  (ho:o.op=.call { callee:=.builtin .append,args:=#[s,x],argTypes:=#[t,t] })
  (base:Nat) (e:TypeId) (bytes sz:Nat) (z:Value) (ht:P.underlying t=some (.slice e)) (hi:(P.info? e).map (fun i=>(i.zero,i.size,i.bytes))=some (some z,sz,bytes)) (hzs:z.cells.size=sz) (hsz:0<sz) (hzu:NoU z.cells)
  (v:Value) (n:Nat) (xs:List Value) (hs:a.eval s=v) (hown:RowG e sz base w0 v n xs) (c:Array Value) (hx:a.eval x=.slice (some ⟨w0.heap.size,0,none⟩) 1 1) (hc:c.size=sz) (h1:∀u ∈ c.toList,u.oneCell'=true) (hnu:∀u ∈ c.toList,∀q,u≠.int .u64 q) (hn:n≤1000000) (hby:bytes≤1000) (hbase:base≤w0.heap.size)
  (hK:∀g cap' w',RowG e sz base w' (.slice (some ⟨g,0,none⟩) (n+1) cap') (n+1) (xs++c.toList)→Kp w0 w'→(∀b0:World,Below b0.heap.size b0 w0→b0.heap.size≤base→Below b0.heap.size b0 w')→(∀k,k<w0.heap.size→v.ownBlock≠some k→w'.heap[k]?=w0.heap[k]?)→wpList P ops Q rest (a.put o.dst (.slice (some ⟨g,0,none⟩) (n+1) cap')) w'):wpList P ops Q (o :: rest) a (w0.alloc (.cells c e)):=by
 obtain ⟨i,hi,hz0,hz1,hz2⟩:=info_parts hi;have hal:=below_alloc (Below.refl w0.heap.size w0) (.cells c e);have hblk:=heap_alloc_new w0 (.cells c e);have hrow:=hown.below hal;refine wpList_append_G (w0.alloc (.cells c e)) hgd s x t ho base e i z sz bytes ht hi hz0 hz1 hz2 hzs hsz hzu v n xs hs hrow ⟨w0.heap.size,0,none⟩ 1 1 c.toList hx (by simp [hc]) (fun j u hu=>?_) h1 hnu (by decide) (by unfold maxLen;omega) ?_ (by simp;omega) ?_
 ·rw [addr_add,Nat.zero_add];simp only [World.cell?,hblk];simpa using hu
 ·have:(n+1)*bytes≤1000001*1000:=Nat.mul_le_mul (by omega) hby;omega
 ·intro g cap' w' hr hgr hkp;refine hK g cap' w' hr ((Kp.of_below hal).trans hkp) (fun b0 hb hle=>?_) (fun k hk hne=>(hgr.block k (by simp;omega) (fun e=>hne e.symm)).trans (hal.block k hk));have h2:Below b0.heap.size b0 (w0.alloc (.cells c e)):=hb.trans (hal.mono hb.size);exact h2.grown hgr (by have:=hb.size;simp;omega) (fun k hk=>by have:=(hrow.lt k hk).1;omega)
theorem one4 (z:Int) (s:Bool) (x:Option Addr) (n c:Nat) (y:Option Addr) (m d:Nat):∀u ∈ (#[Value.int .i64 z,.bool s,.slice x n c,.slice y m d]:Array Value).toList,u.oneCell'=true:=by
 intro u hu;simp at hu;rcases hu with rfl | rfl | rfl | rfl <;> rfl
theorem not4 (z:Int) (s:Bool) (x:Option Addr) (n c:Nat) (y:Option Addr) (m d:Nat):∀u ∈ (#[Value.int .i64 z,.bool s,.slice x n c,.slice y m d]:Array Value).toList,∀q,u≠.int .u64 q:=by
 intro u hu q;simp at hu;rcases hu with rfl | rfl | rfl | rfl <;> simp
theorem one3 (s:Bool) (x:Option Addr) (n c:Nat) (y:Option Addr) (m d:Nat):∀u ∈ (#[Value.bool s,.slice x n c,.slice y m d]:Array Value).toList,u.oneCell'=true:=by
 intro u hu;simp at hu;rcases hu with rfl | rfl | rfl <;> rfl
theorem not3 (s:Bool) (x:Option Addr) (n c:Nat) (y:Option Addr) (m d:Nat):∀u ∈ (#[Value.bool s,.slice x n c,.slice y m d]:Array Value).toList,∀q,u≠.int .u64 q:=by
 intro u hu q;simp at hu;rcases hu with rfl | rfl | rfl <;> simp
theorem nz4:NoU (Value.agg #[.int .i64 0,.bool false,.slice none 0 0,.slice none 0 0]).cells:=nou_list (l:=[Value.int .i64 0,.bool false,.slice none 0 0,.slice none 0 0]) (not4 0 false none 0 0 none 0 0)
theorem nz3:NoU (Value.agg #[.bool false,.slice none 0 0,.slice none 0 0]).cells:=nou_list (l:=[Value.bool false,.slice none 0 0,.slice none 0 0]) (not3 false none 0 0 none 0 0)
theorem RowG.drew {e sz base w v n xs} (h:RowG e sz base w v n xs):RowG e sz base w.drew v n xs:=h
theorem Rw.kp {w w' x n c f y m d g} (h:Rw w x n c f y m d g) (hk:Kp w w'):Rw w' x n c f y m d g:=⟨h.rx.kp hk,h.lx,h.cx,h.nx,h.ry.kp hk,h.ly,h.cy,h.ny⟩
def tls (i:Nat) (col:Nat→Int) (T:Nat→Nm):List (Int × Nm):=(List.range i).map (fun j=>(col j,T j))
def putN (T:Nat→Nm) (i:Nat) (t:Nm):Nat→Nm:=fun j=>if j=i then t else T j
theorem putN_at (T:Nat→Nm) (i:Nat) (t:Nm):putN T i t i=t:=by simp [putN]
theorem putN_ne {T:Nat→Nm} {i j:Nat} {t:Nm} (h:j≠i):putN T i t j=T j:=by simp [putN,h]
theorem tls_put (i:Nat) (col:Nat→Int) (T:Nat→Nm) (t:Nm):tcells (tls (i+1) col (putN T i t))=tcells (tls i col T)++tcell (col i) t:=by
 have e:tls (i+1) col (putN T i t)=tls i col T++[(col i,t)]:=by
  unfold tls;rw [List.range_succ,List.map_append,List.map_singleton,putN_at]
  congr 1
  apply List.map_congr_left;intro j hj;rw [putN_ne (by have:=List.mem_range.1 hj;omega)]
 rw [e,tcells_append]
theorem tls_get {i j:Nat} {col:Nat→Int} {T:Nat→Nm} (h:j<i):(tls i col T)[j]?=some (col j,T j):=by simp [tls,h]
def rls (i:Nat) (T:Nat→Nm):List Nm:=(List.range i).map T
theorem rls_put (i:Nat) (T:Nat→Nm) (t:Nm):rcells (rls (i+1) (putN T i t))=rcells (rls i T)++rcell t:=by
 have e:rls (i+1) (putN T i t)=rls i T++[t]:=by
  unfold rls;rw [List.range_succ,List.map_append,List.map_singleton,putN_at]
  congr 1
  apply List.map_congr_left;intro j hj;rw [putN_ne (by have:=List.mem_range.1 hj;omega)]
 rw [e];simp [rcells]
theorem rls_get {i j:Nat} {T:Nat→Nm} (h:j<i):(rls i T)[j]?=some (T j):=by simp [rls,h]
theorem rowg_c4 {e:TypeId} {base i:Nat} {w:World} {ao:Option Addr} {cap:Nat} {col:Nat→Int} {T:Nat→Nm} (h:RowG e 4 base w (.slice ao i cap) i (tcells (tls i col T))) {j:Nat} (hj:j<i):∃b,ao=some ⟨b,0,none⟩∧C4 w b (0+j*4) (.int .i64 (col j)) (.bool (T j).s) (.slice (T j).x (T j).n (T j).c) (.slice (T j).y (T j).m (T j).d):=by
 rcases h.2 with ⟨hv,h0⟩ | ⟨g,cap',cur,hv,_⟩
 ·omega
 ·cases hv
  have hc:∀q,q<4→w.cell? ⟨g,0+j*4+q,none⟩=(tcell (col j) (T j))[q]?:=fun q hq=>by
   rw [Nat.zero_add];have e1:=tcells_get (tls_get (col:=col) (T:=T) hj) q hq;obtain ⟨u,hu⟩:∃u,(tcell (col j) (T j))[q]?=some u:=⟨_,List.getElem?_eq_getElem (by show q<4;exact hq)⟩;rw [hu] at e1 ⊢;exact h.cells e1
  exact ⟨g,rfl,⟨hc 0 (by decide),hc 1 (by decide),hc 2 (by decide),hc 3 (by decide)⟩⟩
theorem rowg_c3 {e:TypeId} {base i:Nat} {w:World} {ao:Option Addr} {cap:Nat} {T:Nat→Nm} (h:RowG e 3 base w (.slice ao i cap) i (rcells (rls i T))) {j:Nat} (hj:j<i):∃b,ao=some ⟨b,0,none⟩∧C3 w b (0+j*3) (.bool (T j).s) (.slice (T j).x (T j).n (T j).c) (.slice (T j).y (T j).m (T j).d):=by
 rcases h.2 with ⟨hv,h0⟩ | ⟨g,cap',cur,hv,_⟩
 ·omega
 ·cases hv
  have hc:∀q,q<3→w.cell? ⟨g,0+j*3+q,none⟩=(rcell (T j))[q]?:=fun q hq=>by
   rw [Nat.zero_add];have e1:=rcells_get (rls_get (T:=T) hj) q hq;obtain ⟨u,hu⟩:∃u,(rcell (T j))[q]?=some u:=⟨_,List.getElem?_eq_getElem (by show q<3;exact hq)⟩;rw [hu] at e1 ⊢;exact h.cells e1
  exact ⟨g,rfl,⟨hc 0 (by decide),hc 1 (by decide),hc 2 (by decide)⟩⟩
theorem Tryz.infoStr:(Tryz.prog.info? 9).map (fun i=>(i.zero,i.size,i.bytes))=some (some (.string .empty),1,16):=by kernel_rfl
theorem one1 (s:ByteArray):∀u ∈ (#[Value.string s]:Array Value).toList,u.oneCell'=true:=by
 intro u hu;simp at hu;subst hu;rfl
theorem not1 (s:ByteArray):∀u ∈ (#[Value.string s]:Array Value).toList,∀q,u≠.int .u64 q:=by
 intro u hu q;simp at hu;subst hu;simp
theorem nz1:NoU (Value.string .empty).cells:=nou_list (l:=[Value.string .empty]) (not1 .empty)
def sls (S:Nat→ByteArray) (i:Nat):List Value:=(List.range i).map fun j=>Value.string (S j)
theorem sls_succ (S:Nat→ByteArray) (i:Nat):sls S (i+1)=sls S i++[.string (S i)]:=by
 unfold sls;rw [List.range_succ,List.map_append,List.map_singleton]
theorem rowg_sl {e:TypeId} {base i:Nat} {w:World} {ao:Option Addr} {cap:Nat} {S:Nat→ByteArray} (h:RowG e 1 base w (.slice ao i cap) i (sls S i)) (hs:∀j,j<i→(S j).size≤9223372036854775807):Sl w ao i S:=fun j hj=>by
 rcases h.2 with ⟨hv,h0⟩ | ⟨g,cap',cur,hv,_⟩
 ·omega
 ·cases hv
  refine ⟨g,0,rfl,?_,hs j hj⟩;rw [Nat.zero_add];exact h.cells (by simp [sls,hj])
def NmsAns (w w':World) (e:Ending) (M:Mo):Prop:=∃xa xc ya yc,e=.returned (.tuple #[.slice xa M.ck xc,.slice ya M.rk yc])∧Below w.heap.size w w'∧Sl w' xa M.ck (fun j=>(M.C j).nm)∧Sl w' ya M.rk (fun j=>(M.R j).nm)
set_option maxRecDepth 100000 in
set_option maxHeartbeats 4000000 in
theorem names_c {w:World} {M:Mo} (h:MoR w M) (hc64:M.ck≤1000) (hr64:M.rk≤1000):Calls Tryz.prog 57 #[M.val] w fun r w'=>NmsAns w w' r M:=by
 obtain ⟨⟨s,x,n,c,f,y,m,d,g⟩,ca,ck,cc,C,ra,rk,rc,R⟩:=M;obtain ⟨ho,hC,hR,hck,hrk⟩:=h;replace hck:ck≤1000:=hc64;replace hrk:rk≤1000:=hr64;have HC:Hid (Cls w ca ck C):=hC;have HRL:Hid (Rls w ra rk R):=hR;have HCN:=hid (show ∀j,j<ck→(C j).nm.size≤9223372036854775807 from fun j hj=>by obtain ⟨_,_,_,_,h2⟩:=hC j hj;exact h2.nm);have HRN:=hid (show ∀j,j<rk→(R j).nm.size≤9223372036854775807 from fun j hj=>by obtain ⟨_,_,_,_,h2⟩:=hR j hj;exact h2.nm);clear ho hC hR hc64 hr64;show Calls Tryz.prog 57 #[.agg #[.bool s,.slice x n c,.slice y m d,.slice ca ck cc,.slice ra rk rc]] w _;go_enter Tryz.func57,Tryz.ntmps57;go_wp2_with fail
 have HB1:=hid (below_alloc (Below.refl w.heap.size w) (.cells #[.bool s,.slice x n c,.slice y m d,.slice ca ck cc,.slice ra rk rc] 28));have HK4:=hid (show (w.alloc (.cells #[.bool s,.slice x n c,.slice y m d,.slice ca ck cc,.slice ra rk rc] 28)).cell? ⟨w.heap.size,4,none⟩=some (.slice ra rk rc) from by simp [go_sem]);obtain ⟨w1,hw1⟩:∃z,w.alloc (.cells #[.bool s,.slice x n c,.slice y m d,.slice ca ck cc,.slice ra rk rc] 28)=z:=⟨_,rfl⟩;rw [hw1] at HB1 HK4 ⊢;clear hw1;go_loopw [2,11] (fun ov t wr=>∃(i:Nat),i≤ck∧t=.int .i64 i∧Hid (Below w1.heap.size w1 wr)∧Hid (RowG 9 1 w1.heap.size wr ov i (sls (fun j=>(C j).nm) i))) (fun _ t _=>ck-(intOf t).toNat)
 case atStart=>exact ⟨0,by omega,rfl,Below.refl _ _,rowG_nil _ _ _ _⟩
 case round =>
  obtain ⟨i,hi,rfl,HB,HRow⟩:=hrel;by_cases hlt:i<ck
  ·obtain ⟨b,o,rfl,hc,hn⟩:=(HC.out.below (HB1.out.trans (HB.out.mono HB1.out.size))) i hlt;obtain ⟨⟨z,⟨s0,x0,n0,c0,f0,y0,m0,d0,g0⟩,⟨i1,⟨s1,x1,n1,c1,f1,y1,m1,d1,g1⟩⟩,⟨i2,⟨s2,x2,n2,c2,f2,y2,m2,d2,g2⟩⟩⟩,hCi⟩:∃t,C i=t:=⟨_,rfl⟩;rw [hCi] at hc;have q0:wr.cell? ⟨b,o+i*12,none⟩=some (.string z):=hc 0 _ rfl;have q1:wr.cell? ⟨b,o+i*12+1,none⟩=some (.bool s0):=hc 1 _ rfl;have q2:wr.cell? ⟨b,o+i*12+2,none⟩=some (.slice x0 n0 c0):=hc 2 _ rfl;have q3:wr.cell? ⟨b,o+i*12+3,none⟩=some (.slice y0 m0 d0):=hc 3 _ rfl;have q4:wr.cell? ⟨b,o+i*12+4,none⟩=some (.int .i64 i1):=hc 4 _ rfl;have q5:wr.cell? ⟨b,o+i*12+5,none⟩=some (.bool s1):=hc 5 _ rfl;have q6:wr.cell? ⟨b,o+i*12+6,none⟩=some (.slice x1 n1 c1):=hc 6 _ rfl;have q7:wr.cell? ⟨b,o+i*12+7,none⟩=some (.slice y1 m1 d1):=hc 7 _ rfl;have q8:wr.cell? ⟨b,o+i*12+8,none⟩=some (.int .i64 i2):=hc 8 _ rfl;have q9:wr.cell? ⟨b,o+i*12+9,none⟩=some (.bool s2):=hc 9 _ rfl;have q10:wr.cell? ⟨b,o+i*12+10,none⟩=some (.slice x2 n2 c2):=hc 10 _ rfl;have q11:wr.cell? ⟨b,o+i*12+11,none⟩=some (.slice y2 m2 d2):=hc 11 _ rfl;have HZ:=hid (show (C i).nm=z from by rw [hCi]);have i1':((i:Nat):Int)<((ck:Nat):Int):=by omega
   have hb5:=below_alloc (Below.refl wr.heap.size wr) (.cells #[.string z,.bool s0,.slice x0 n0 c0,.slice y0 m0 d0,.int .i64 i1,.bool s1,.slice x1 n1 c1,.slice y1 m1 d1,.int .i64 i2,.bool s2,.slice x2 n2 c2,.slice y2 m2 d2] 62);have HRow5:=hid (HRow.out.below hb5);have HB5:=hid (HB.out.trans (hb5.mono HB.out.size))
   have k0:(wr.alloc (.cells #[.string z,.bool s0,.slice x0 n0 c0,.slice y0 m0 d0,.int .i64 i1,.bool s1,.slice x1 n1 c1,.slice y1 m1 d1,.int .i64 i2,.bool s2,.slice x2 n2 c2,.slice y2 m2 d2] 62)).cell? ⟨wr.heap.size,0,none⟩=some (.string z):=by simp [go_sem]
   clear hCi hc hn hb5;go_upto_region 4 with fail
   clear q0 q1 q2 q3 q4 q5 q6 q7 q8 q9 q10 q11 HB HRow;generalize wr.alloc (.cells #[.string z,.bool s0,.slice x0 n0 c0,.slice y0 m0 d0,.int .i64 i1,.bool s1,.slice x1 n1 c1,.slice y1 m1 d1,.int .i64 i2,.bool s2,.slice x2 n2 c2,.slice y2 m2 d2] 62)=w6 at *;have hsz:=HB5.out.size;go_wp2_with (at_builtin;go_must (refine wpList_append_one w6 rfl (.tmp 15) (.tmp 18) 101 rfl w1.heap.size 9 16 1 (.string .empty) Tryz.underlying101 Tryz.infoStr rfl (by decide) nz1 u2 i (sls (fun j=>(C j).nm) i) rfl HRow5.out #[.string z] rfl rfl (one1 _) (not1 _) ?p1 (by decide) hsz ?_))
   case p1=>omega
   intro g8 cap8 w8 hr8 hk8 hb8 hg8;have HB8:=hid (hb8 w1 HB5.out (Nat.le_refl _));have HR8:Hid (RowG 9 1 w1.heap.size w8 (.slice (some ⟨g8,0,none⟩) (i+1) cap8) (i+1) (sls (fun j=>(C j).nm) (i+1))):=by
    show RowG _ _ _ _ _ _ _;rw [sls_succ,HZ.out];exact hr8
   clear hr8 hk8 hb8 hg8 HRow5 HB5 hsz k0;go_wp2;go_roundw
   case rel=>exact ⟨i+1,by omega,by go_num,HB8.out,HR8.out⟩
   case measure=>simp [intOf];omega
  ·have e1:i=ck:=by omega
   have i2:¬(((i:Nat):Int)<((ck:Nat):Int)):=by omega
   rw [e1] at HRow;obtain ⟨xa,xc,rfl⟩:=HRow.out.slice;have k4:=kCb HB.out HK4.out;have HB5:=hid (HB1.out.trans (HB.out.mono HB1.out.size));have HSX:=hid (rowg_sl HRow.out HCN.out);clear e1 HB HC HK4 HB1 HRow;generalize wr=wa at *;go_wp2_with fail
   go_loopw [3,24] (fun ov t wr=>∃(i:Nat),i≤rk∧t=.int .i64 i∧Hid (Below wa.heap.size wa wr)∧Hid (RowG 9 1 wa.heap.size wr ov i (sls (fun j=>(R j).nm) i))) (fun _ t _=>rk-(intOf t).toNat)
   case atStart=>exact ⟨0,by omega,rfl,Below.refl _ _,rowG_nil _ _ _ _⟩
   case round =>
    obtain ⟨i,hi,rfl,HB,HRow⟩:=hrel;by_cases hlt:i<rk
    ·obtain ⟨b,o,rfl,hc,hn⟩:=(HRL.out.below (HB5.out.trans (HB.out.mono HB5.out.size))) i hlt;obtain ⟨⟨z,⟨i1,⟨s1,x1,n1,c1,f1,y1,m1,d1,g1⟩⟩,⟨i2,⟨s2,x2,n2,c2,f2,y2,m2,d2,g2⟩⟩,ta,tk,tc,tcol,tt⟩,hCi⟩:∃t,R i=t:=⟨_,rfl⟩;rw [hCi] at hc;have q0:wr.cell? ⟨b,o+i*10,none⟩=some (.string z):=hc 0 _ rfl;have q1:wr.cell? ⟨b,o+i*10+1,none⟩=some (.int .i64 i1):=hc 1 _ rfl;have q2:wr.cell? ⟨b,o+i*10+2,none⟩=some (.bool s1):=hc 2 _ rfl;have q3:wr.cell? ⟨b,o+i*10+3,none⟩=some (.slice x1 n1 c1):=hc 3 _ rfl;have q4:wr.cell? ⟨b,o+i*10+4,none⟩=some (.slice y1 m1 d1):=hc 4 _ rfl;have q5:wr.cell? ⟨b,o+i*10+5,none⟩=some (.int .i64 i2):=hc 5 _ rfl;have q6:wr.cell? ⟨b,o+i*10+6,none⟩=some (.bool s2):=hc 6 _ rfl;have q7:wr.cell? ⟨b,o+i*10+7,none⟩=some (.slice x2 n2 c2):=hc 7 _ rfl;have q8:wr.cell? ⟨b,o+i*10+8,none⟩=some (.slice y2 m2 d2):=hc 8 _ rfl;have q9:wr.cell? ⟨b,o+i*10+9,none⟩=some (.slice ta tk tc):=hc 9 _ rfl;have HZ:=hid (show (R i).nm=z from by rw [hCi]);have i1':((i:Nat):Int)<((rk:Nat):Int):=by omega
     have hb5:=below_alloc (Below.refl wr.heap.size wr) (.cells #[.string z,.int .i64 i1,.bool s1,.slice x1 n1 c1,.slice y1 m1 d1,.int .i64 i2,.bool s2,.slice x2 n2 c2,.slice y2 m2 d2,.slice ta tk tc] 65);have HRow5:=hid (HRow.out.below hb5);have HB6:=hid (HB.out.trans (hb5.mono HB.out.size))
     have k0:(wr.alloc (.cells #[.string z,.int .i64 i1,.bool s1,.slice x1 n1 c1,.slice y1 m1 d1,.int .i64 i2,.bool s2,.slice x2 n2 c2,.slice y2 m2 d2,.slice ta tk tc] 65)).cell? ⟨wr.heap.size,0,none⟩=some (.string z):=by simp [go_sem]
     clear hCi hc hn hb5;go_upto_region 9 with fail
     clear q0 q1 q2 q3 q4 q5 q6 q7 q8 q9 HB HRow;generalize wr.alloc (.cells #[.string z,.int .i64 i1,.bool s1,.slice x1 n1 c1,.slice y1 m1 d1,.int .i64 i2,.bool s2,.slice x2 n2 c2,.slice y2 m2 d2,.slice ta tk tc] 65)=w6 at *;have hsz:=HB6.out.size;go_wp2_with (at_builtin;go_must (refine wpList_append_one w6 rfl (.tmp 28) (.tmp 31) 101 rfl wa.heap.size 9 16 1 (.string .empty) Tryz.underlying101 Tryz.infoStr rfl (by decide) nz1 u3 i (sls (fun j=>(R j).nm) i) rfl HRow5.out #[.string z] rfl rfl (one1 _) (not1 _) ?p1 (by decide) hsz ?_))
     case p1=>omega
     intro g8 cap8 w8 hr8 hk8 hb8 hg8;have HB8:=hid (hb8 wa HB6.out (Nat.le_refl _));have HR8:Hid (RowG 9 1 wa.heap.size w8 (.slice (some ⟨g8,0,none⟩) (i+1) cap8) (i+1) (sls (fun j=>(R j).nm) (i+1))):=by
      show RowG _ _ _ _ _ _ _;rw [sls_succ,HZ.out];exact hr8
     clear hr8 hk8 hb8 hg8 HRow5 HB6 hsz k0;go_wp2;go_roundw
     case rel=>exact ⟨i+1,by omega,by go_num,HB8.out,HR8.out⟩
     case measure=>simp [intOf];omega
    ·have e1:i=rk:=by omega
     have i2:¬(((i:Nat):Int)<((rk:Nat):Int)):=by omega
     rw [e1] at HRow;obtain ⟨ya,yc,rfl⟩:=HRow.out.slice;have HB6:=hid (HB5.out.trans (HB.out.mono HB5.out.size));have HSY:=hid (rowg_sl HRow.out HRN.out);have HSX2:=hid (HSX.out.below HB.out);clear e1 HB HRow HSX;go_wp2
     go_ret2
     exact ⟨xa,xc,ya,yc,rfl,HB6.out,HSX2.out,HSY.out⟩
def lastB (k:Nat) (r:Lr):Bool:=decide (r.tk=0) || decide (r.col (r.tk-1)<(k:Int))
def alB (k:Nat) (R:Nat→Lr):Nat→Nat→Bool
 | 0,_=>true
 | r+1,i=>lastB k (R i) && alB k R r (i+1)
set_option maxRecDepth 100000 in
set_option maxHeartbeats 4000000 in
theorem mBelow_c {w:World} {M:Mo} (h:MoR w M):Calls Tryz.prog 61 #[M.val] w fun r w'=>r=.returned (.bool (alB M.ck M.R M.rk 0))∧Below w.heap.size w w':=by
 obtain ⟨⟨s,x,n,c,f,y,m,d,g⟩,ca,ck,cc,C,ra,rk,rc,R⟩:=M;obtain ⟨ho,hC,hR,hck,hrk⟩:=h;replace hck:ck≤1048576:=hck;replace hrk:rk≤1048576:=hrk;have HRL:Hid (Rls w ra rk R):=hR;clear ho hC hR;show Calls Tryz.prog 61 #[.agg #[.bool s,.slice x n c,.slice y m d,.slice ca ck cc,.slice ra rk rc]] w fun r w'=>r=.returned (.bool (alB ck R rk 0))∧Below w.heap.size w w'
 obtain ⟨ans,hans⟩:∃z,alB ck R rk 0=z:=⟨_,rfl⟩;rw [hans];have HF:=hid hans;clear hans;go_enter Tryz.func61,Tryz.ntmps61;go_wp2_with fail
 have HB1:=hid (below_alloc (Below.refl w.heap.size w) (.cells #[.bool s,.slice x n c,.slice y m d,.slice ca ck cc,.slice ra rk rc] 28));have HK3:=hid (show (w.alloc (.cells #[.bool s,.slice x n c,.slice y m d,.slice ca ck cc,.slice ra rk rc] 28)).cell? ⟨w.heap.size,3,none⟩=some (.slice ca ck cc) from by simp [go_sem]);obtain ⟨w1,hw1⟩:∃z,w.alloc (.cells #[.bool s,.slice x n c,.slice y m d,.slice ca ck cc,.slice ra rk rc] 28)=z:=⟨_,rfl⟩;rw [hw1] at HB1 HK3 ⊢;clear hw1;go_loopw [9] (fun t wr=>∃(i:Nat),i≤rk∧t=.int .i64 i∧Hid (Below w1.heap.size w1 wr)∧Hid (ans=alB ck R (rk-i) i)) (fun t _=>rk-(intOf t).toNat)
 case atStart=>exact ⟨0,by omega,rfl,Below.refl _ _,HF.out.symm⟩
 case round =>
  obtain ⟨i,hi,rfl,HB,HI⟩:=hrel;by_cases hlt:i<rk
  ·obtain ⟨b,o,rfl,hc,hn⟩:=(HRL.out.below (HB1.out.trans (HB.out.mono HB1.out.size))) i hlt;obtain ⟨r,hr⟩:∃r,rk-i=r+1:=⟨rk-i-1,by omega⟩;have hT:ans=(lastB ck (R i) && alB ck R r (i+1)):=by rw [HI.out,hr];rfl
   have hr2:rk-(i+1)=r:=by omega
   obtain ⟨⟨z,⟨i1,⟨s1,x1,n1,c1,f1,y1,m1,d1,g1⟩⟩,⟨i2,⟨s2,x2,n2,c2,f2,y2,m2,d2,g2⟩⟩,ta,tk,tc,tcol,tt⟩,hCi⟩:∃t,R i=t:=⟨_,rfl⟩;rw [hCi] at hc hT hn;have hTl:Tl wr ta tk tcol tt:=hn.tl;have htk:tk≤1048576:=hn.tk;have q0:wr.cell? ⟨b,o+i*10,none⟩=some (.string z):=hc 0 _ rfl;have q1:wr.cell? ⟨b,o+i*10+1,none⟩=some (.int .i64 i1):=hc 1 _ rfl;have q2:wr.cell? ⟨b,o+i*10+2,none⟩=some (.bool s1):=hc 2 _ rfl;have q3:wr.cell? ⟨b,o+i*10+3,none⟩=some (.slice x1 n1 c1):=hc 3 _ rfl;have q4:wr.cell? ⟨b,o+i*10+4,none⟩=some (.slice y1 m1 d1):=hc 4 _ rfl;have q5:wr.cell? ⟨b,o+i*10+5,none⟩=some (.int .i64 i2):=hc 5 _ rfl;have q6:wr.cell? ⟨b,o+i*10+6,none⟩=some (.bool s2):=hc 6 _ rfl;have q7:wr.cell? ⟨b,o+i*10+7,none⟩=some (.slice x2 n2 c2):=hc 7 _ rfl;have q8:wr.cell? ⟨b,o+i*10+8,none⟩=some (.slice y2 m2 d2):=hc 8 _ rfl;have q9:wr.cell? ⟨b,o+i*10+9,none⟩=some (.slice ta tk tc):=hc 9 _ rfl;have HT:=hid hT;have HR:=hid hr2
   have i1':((i:Nat):Int)<((rk:Nat):Int):=by omega
   have hb5:=below_alloc (Below.refl wr.heap.size wr) (.cells #[.string z,.int .i64 i1,.bool s1,.slice x1 n1 c1,.slice y1 m1 d1,.int .i64 i2,.bool s2,.slice x2 n2 c2,.slice y2 m2 d2,.slice ta tk tc] 65);have HB5:=hid (HB.out.trans (hb5.mono HB.out.size));have HTL:=hid (hTl.below hb5);have k9:(wr.alloc (.cells #[.string z,.int .i64 i1,.bool s1,.slice x1 n1 c1,.slice y1 m1 d1,.int .i64 i2,.bool s2,.slice x2 n2 c2,.slice y2 m2 d2,.slice ta tk tc] 65)).cell? ⟨wr.heap.size,9,none⟩=some (.slice ta tk tc):=by simp [go_sem]
   have k3:=kCb HB5.out HK3.out;clear hCi hc hn hb5 hT hr2 hr hTl;go_upto_region 4 with fail
   clear q0 q1 q2 q3 q4 q5 q6 q7 q8 q9 HB HI;generalize wr.alloc (.cells #[.string z,.int .i64 i1,.bool s1,.slice x1 n1 c1,.slice y1 m1 d1,.int .i64 i2,.bool s2,.slice x2 n2 c2,.slice y2 m2 d2,.slice ta tk tc] 65)=w6 at *;rcases Nat.eq_zero_or_pos tk with h0 | h0
   ·subst h0;have HL:=hid (show lastB ck ⟨z,⟨i1,⟨s1,x1,n1,c1,f1,y1,m1,d1,g1⟩⟩,⟨i2,⟨s2,x2,n2,c2,f2,y2,m2,d2,g2⟩⟩,ta,0,tc,tcol,tt⟩=true from by simp [lastB]);go_upto_region 5 with fail
    have k9':w6.drew.cell? ⟨wr.heap.size,9,none⟩=some (.slice ta 0 tc):=k9;have k3':w6.drew.cell? ⟨w.heap.size,3,none⟩=some (.slice ca ck cc):=k3
    go_quiet (fail)
    go_wp2;go_roundw
    case rel =>
     refine ⟨i+1,by omega,by go_num,⟨HB5.out.os,HB5.out.tape,HB5.out.output,HB5.out.size,HB5.out.block⟩,?_⟩;show _=_;rw [HT.out,HL.out,HR.out];rfl
    case measure=>simp [intOf];omega
   ·obtain ⟨j,rfl⟩:∃j,tk=j+1:=⟨tk-1,by omega⟩;obtain ⟨tb,tq,rfl,⟨t0,_,_,_⟩,_⟩:=HTL.out j (by omega);obtain ⟨v,hv⟩:∃v,tcol j=v:=⟨_,rfl⟩;rw [hv] at t0;have hg0:decide ((((j+1:Nat):Int)) > 0)=true:=by simp
    have hsub:((j+1:Nat):Int)-1=((j:Nat):Int):=by omega
    by_cases hvk:v<(ck:Int)
    ·have HL:=hid (show lastB ck ⟨z,⟨i1,⟨s1,x1,n1,c1,f1,y1,m1,d1,g1⟩⟩,⟨i2,⟨s2,x2,n2,c2,f2,y2,m2,d2,g2⟩⟩,some ⟨tb,tq,none⟩,j+1,tc,tcol,tt⟩=true from by simp [lastB,hv,hvk]);have hd:decide (v ≥ (ck:Int))=false:=by simp;omega
     go_upto_region 5 with fail
     have k9':w6.drew.cell? ⟨wr.heap.size,9,none⟩=some (.slice (some ⟨tb,tq,none⟩) (j+1) tc):=k9;have k3':w6.drew.cell? ⟨w.heap.size,3,none⟩=some (.slice ca ck cc):=k3;have t0':w6.drew.cell? ⟨tb,tq+j*4,none⟩=some (.int .i64 v):=t0
     go_quiet (fail)
     go_wp2;go_roundw
     case rel =>
      refine ⟨i+1,by omega,by go_num,⟨HB5.out.os,HB5.out.tape,HB5.out.output,HB5.out.size,HB5.out.block⟩,?_⟩;show _=_;rw [HT.out,HL.out,HR.out];rfl
     case measure=>simp [intOf];omega
    ·have HL:=hid (show lastB ck ⟨z,⟨i1,⟨s1,x1,n1,c1,f1,y1,m1,d1,g1⟩⟩,⟨i2,⟨s2,x2,n2,c2,f2,y2,m2,d2,g2⟩⟩,some ⟨tb,tq,none⟩,j+1,tc,tcol,tt⟩=false from by simp [lastB,hv];omega);have hd:decide (v ≥ (ck:Int))=true:=by simp;omega
     go_upto_region 5 with fail
     have k9':w6.drew.cell? ⟨wr.heap.size,9,none⟩=some (.slice (some ⟨tb,tq,none⟩) (j+1) tc):=k9;have k3':w6.drew.cell? ⟨w.heap.size,3,none⟩=some (.slice ca ck cc):=k3;have t0':w6.drew.cell? ⟨tb,tq+j*4,none⟩=some (.int .i64 v):=t0
     go_quiet (fail)
     go_wp2;go_ret;have HB7:=HB1.out.trans (HB5.out.mono HB1.out.size);refine ⟨?_,⟨HB7.os,HB7.tape,HB7.output,HB7.size,HB7.block⟩⟩;rw [HT.out,HL.out];rfl
  ·have e1:i=rk:=by omega
   have HE:Hid (ans=true):=by show _=_;rw [HI.out,e1,Nat.sub_self];rfl
   have i2:¬(((i:Nat):Int)<((rk:Nat):Int)):=by omega
   have HB5:=hid (HB1.out.trans (HB.out.mono HB1.out.size));clear e1 HI HB;go_wp2;go_ret;refine ⟨?_,HB5.out⟩;rw [HE.out];rfl
def chkV (l t1 t2 t3 t4 t5 t6:Bool):Int:=if l then 2 else if !t1 then 3 else if !(t2 && t3) then 5 else if t4 || t5 then 6 else if !t6 then 7 else 0
def chkE (M:Mo):Int:=chkV (decide (64<M.ck) || decide (64<M.rk)) (moF M) (nms (fun j=>(M.C j).nm) M.ck 0) (nms (fun j=>(M.R j).nm) M.rk 0) (twr (fun j=>(M.C j).nm) M.ck 0) (twr (fun j=>(M.R j).nm) M.rk 0) (alB M.ck M.R M.rk 0)
set_option maxRecDepth 100000 in
set_option maxHeartbeats 4000000 in
theorem check_c {w:World} {M:Mo} (h:MoR w M):Calls Tryz.prog 27 #[M.val] w fun r w'=>r=.returned (.int .i64 (chkE M))∧Below w.heap.size w w':=by
 have hck:=h.ck;have hrk:=h.rk
 have CN:=hid (fun w' (hw:Below w.heap.size w w') (h1:M.ck≤1000) (h2:M.rk≤1000)=>names_c (w:=w') (h.below hw) h1 h2);have CI:=hid (fun w' (hw:Below w.heap.size w w')=>inForm_c (w:=w') (h.below hw));have CL:=hid (fun w' (hw:Below w.heap.size w w')=>mBelow_c (w:=w') (h.below hw));obtain ⟨t1,ht1⟩:∃z,moF M=z:=⟨_,rfl⟩;obtain ⟨S,hS⟩:∃S:Nat→ByteArray,(fun j=>(M.C j).nm)=S:=⟨_,rfl⟩;obtain ⟨Z,hZ⟩:∃S:Nat→ByteArray,(fun j=>(M.R j).nm)=S:=⟨_,rfl⟩;obtain ⟨t2,ht2⟩:∃z,nms S M.ck 0=z:=⟨_,rfl⟩;obtain ⟨t3,ht3⟩:∃z,nms Z M.rk 0=z:=⟨_,rfl⟩;obtain ⟨t4,ht4⟩:∃z,twr S M.ck 0=z:=⟨_,rfl⟩;obtain ⟨t5,ht5⟩:∃z,twr Z M.rk 0=z:=⟨_,rfl⟩;obtain ⟨t6,ht6⟩:∃z,alB M.ck M.R M.rk 0=z:=⟨_,rfl⟩;obtain ⟨ans,hans⟩:∃z,chkE M=z:=⟨_,rfl⟩;have hA:ans=chkV (decide (64<M.ck) || decide (64<M.rk)) t1 t2 t3 t4 t5 t6:=by rw [←hans,chkE,hS,hZ,ht1,ht2,ht3,ht4,ht5,ht6]
 rw [hans];unfold NmsAns at CN;rw [ht1] at CI;rw [ht6] at CL;rw [hS,hZ] at CN;clear hans ht1 ht6 hS hZ h;obtain ⟨⟨s,x,n,c,f,y,m,d,g⟩,ca,ck,cc,C,ra,rk,rc,R⟩:=M;replace hck:ck≤1048576:=hck;replace hrk:rk≤1048576:=hrk;have HA:Hid (ans=chkV (decide (64<ck) || decide (64<rk)) t1 t2 t3 t4 t5 t6):=hA;have H2:Hid (nms S ck 0=t2):=ht2;have H3:Hid (nms Z rk 0=t3):=ht3;have H4:Hid (twr S ck 0=t4):=ht4;have H5:Hid (twr Z rk 0=t5):=ht5;replace CN:Hid (∀w',Below w.heap.size w w'→ck≤1000→rk≤1000→Calls Tryz.prog 57 #[.agg #[.bool s,.slice x n c,.slice y m d,.slice ca ck cc,.slice ra rk rc]] w' fun e w2=>∃xa xc ya yc,e=.returned (.tuple #[.slice xa ck xc,.slice ya rk yc])∧Below w'.heap.size w' w2∧Sl w2 xa ck S∧Sl w2 ya rk Z):=CN;replace CI:Hid (∀w',Below w.heap.size w w'→Calls Tryz.prog 58 #[.agg #[.bool s,.slice x n c,.slice y m d,.slice ca ck cc,.slice ra rk rc]] w' fun e w2=>e=.returned (.bool t1)∧Below w'.heap.size w' w2):=CI;replace CL:Hid (∀w',Below w.heap.size w w'→Calls Tryz.prog 61 #[.agg #[.bool s,.slice x n c,.slice y m d,.slice ca ck cc,.slice ra rk rc]] w' fun e w2=>e=.returned (.bool t6)∧Below w'.heap.size w' w2):=CL;clear hA ht2 ht3 ht4 ht5;show Calls Tryz.prog 27 #[.agg #[.bool s,.slice x n c,.slice y m d,.slice ca ck cc,.slice ra rk rc]] w _;by_cases h1:64<ck
 ·have HV:Hid (ans=2):=by show _=_;rw [HA.out];simp [chkV,h1]
  have e1:(ck:Int) > 64:=by omega
  clear HA h1;go_enter Tryz.func27,Tryz.ntmps27;go_wp2;go_ret;refine ⟨?_,below_alloc (Below.refl _ _) _⟩;rw [HV.out];rfl
 by_cases h2:64<rk
 ·have HV:Hid (ans=2):=by show _=_;rw [HA.out];simp [chkV,h2]
  have e1:¬(ck:Int) > 64:=by omega
  have e2:(rk:Int) > 64:=by omega
  clear HA h1 h2;go_enter Tryz.func27,Tryz.ntmps27;go_wp2;go_ret;refine ⟨?_,below_alloc (Below.refl _ _) _⟩;rw [HV.out];rfl
 have HV:Hid (ans=chkV false t1 t2 t3 t4 t5 t6):=by show _=_;rw [HA.out];simp [h1,h2]
 have e1:¬(ck:Int) > 64:=by omega
 have e2:¬(rk:Int) > 64:=by omega
 have l1:ck≤1000:=by omega
 have l2:rk≤1000:=by omega
 clear HA h1 h2;go_enter Tryz.func27,Tryz.ntmps27;go_wp2_with fail
 have HB:=hid (below_alloc (Below.refl w.heap.size w) (.cells #[.bool s,.slice x n c,.slice y m d,.slice ca ck cc,.slice ra rk rc] 28));refine (CN.out _ HB.out l1 l2).mono ?_;rintro r w1 ⟨xa,xc,ya,yc,rfl,hb1,hSX,hSY⟩;have k0:=kCb hb1 (a:=⟨w.heap.size,0,none⟩) (v:=.bool s) (by simp [go_sem]);have k1:=kCb hb1 (a:=⟨w.heap.size,1,none⟩) (v:=.slice x n c) (by simp [go_sem]);have k2:=kCb hb1 (a:=⟨w.heap.size,2,none⟩) (v:=.slice y m d) (by simp [go_sem]);have k3:=kCb hb1 (a:=⟨w.heap.size,3,none⟩) (v:=.slice ca ck cc) (by simp [go_sem]);have k4:=kCb hb1 (a:=⟨w.heap.size,4,none⟩) (v:=.slice ra rk rc) (by simp [go_sem]);have HX:=hid hSX;have HY:=hid hSY
 have HB1:=hid (HB.out.trans (hb1.mono HB.out.size));clear hb1 HB CN hSX hSY;go_wp2_with fail
 refine (CI.out _ HB1.out).mono ?_;rintro r w2 ⟨rfl,hb2⟩;replace HX:=hid (HX.out.below hb2);replace HY:=hid (HY.out.below hb2)
 replace k0:=kCb hb2 k0;replace k1:=kCb hb2 k1;replace k2:=kCb hb2 k2;replace k3:=kCb hb2 k3;replace k4:=kCb hb2 k4
 have HB2:=hid (HB1.out.trans (hb2.mono HB1.out.size));clear hb2 HB1 CI;cases t1
 ·go_wp2;go_ret;refine ⟨?_,HB2.out⟩;rw [HV.out];rfl
 have CA:=hid (allNames_c (cap:=xc) HX.out (by omega));rw [H2.out] at CA;go_wp2_with fail
 refine CA.out.mono ?_;rintro r w2' ⟨rfl,rfl⟩;cases t2
 ·go_wp2;go_ret;refine ⟨?_,HB2.out⟩;rw [HV.out];rfl
 have CA2:=hid (allNames_c (cap:=yc) HY.out (by omega));rw [H3.out] at CA2;go_wp2_with fail
 refine CA2.out.mono ?_;rintro r w2' ⟨rfl,rfl⟩;cases t3
 ·go_wp2;go_ret;refine ⟨?_,HB2.out⟩;rw [HV.out];rfl
 have CT:=hid (anyTwice_c (cap:=xc) HX.out (by omega));rw [H4.out] at CT;go_wp2_with fail
 refine CT.out.mono ?_;rintro r w3 ⟨rfl,hb3⟩;replace HY:=hid (HY.out.below hb3);replace k0:=kCb hb3 k0;replace k1:=kCb hb3 k1;replace k2:=kCb hb3 k2;replace k3:=kCb hb3 k3;replace k4:=kCb hb3 k4
 have HB3:=hid (HB2.out.trans (hb3.mono HB2.out.size));clear hb3 HX CA CA2 CT;cases t4
 case true =>
  go_wp2;go_ret;refine ⟨?_,HB3.out⟩;rw [HV.out];rfl
 have CT:=hid (anyTwice_c (cap:=yc) HY.out (by omega));rw [H5.out] at CT;go_wp2_with fail
 refine CT.out.mono ?_;rintro r w4 ⟨rfl,hb4⟩;replace k0:=kCb hb4 k0;replace k1:=kCb hb4 k1;replace k2:=kCb hb4 k2;replace k3:=kCb hb4 k3;replace k4:=kCb hb4 k4
 have HB4:=hid (HB3.out.trans (hb4.mono HB3.out.size));clear hb4 HY CT HB2 HB3;cases t5
 case true =>
  go_wp2;go_ret;refine ⟨?_,HB4.out⟩;rw [HV.out];rfl
 go_wp2_with fail
 refine (CL.out _ HB4.out).mono ?_;rintro r w5 ⟨rfl,hb5⟩;have HB5:=hid (HB4.out.trans (hb5.mono HB4.out.size));clear hb5 HB4 k0 k1 k2 k3 k4;cases t6
 ·go_wp2;go_ret;refine ⟨?_,HB5.out⟩;rw [HV.out];rfl
 ·go_wp2;go_ret;refine ⟨?_,HB5.out⟩;rw [HV.out];rfl
set_option maxRecDepth 100000 in
set_option maxHeartbeats 4000000 in
theorem checkL_c {w:World} {M:Mo} (h:64<M.ck∨64<M.rk):Calls Tryz.prog 27 #[M.val] w fun r w'=>r=.returned (.int .i64 2)∧Below w.heap.size w w':=by
 obtain ⟨⟨s,x,n,c,f,y,m,d,g⟩,ca,ck,cc,C,ra,rk,rc,R⟩:=M;replace h:64<ck∨64<rk:=h;show Calls Tryz.prog 27 #[.agg #[.bool s,.slice x n c,.slice y m d,.slice ca ck cc,.slice ra rk rc]] w _;by_cases h1:64<ck
 ·have e1:(ck:Int) > 64:=by omega
  clear h1 h;go_enter Tryz.func27,Tryz.ntmps27;go_wp2;go_ret;exact ⟨rfl,below_alloc (Below.refl _ _) _⟩
 ·have e1:¬(ck:Int) > 64:=by omega
  have e2:(rk:Int) > 64:=by omega
  clear h1 h;go_enter Tryz.func27,Tryz.ntmps27;go_wp2;go_ret;exact ⟨rfl,below_alloc (Below.refl _ _) _⟩
def MoW (w:World) (M:Mo):Prop:=M.ck≤64→M.rk≤64→MoR w M
theorem MoW.below {w w' M} (h:MoW w M) (hb:Below w.heap.size w w'):MoW w' M:=fun h1 h2=>(h h1 h2).below hb
theorem check_w {w:World} {M:Mo} (h:MoW w M):Calls Tryz.prog 27 #[M.val] w fun r w'=>r=.returned (.int .i64 (chkE M))∧Below w.heap.size w w':=by
 by_cases h1:64<M.ck∨64<M.rk
 ·have e:chkE M=2:=by
   have:(decide (64<M.ck) || decide (64<M.rk))=true:=by simpa using h1
   rw [chkE,this];rfl
  rw [e];exact checkL_c h1
 ·exact check_c (h (by omega) (by omega))
theorem chkE_ok {M:Mo} (h:chkE M=0):M.ck≤64∧M.rk≤64∧moF M=true∧nms (fun j=>(M.C j).nm) M.ck 0=true∧nms (fun j=>(M.R j).nm) M.rk 0=true∧twr (fun j=>(M.C j).nm) M.ck 0=false∧twr (fun j=>(M.R j).nm) M.rk 0=false∧alB M.ck M.R M.rk 0=true:=by
 unfold chkE chkV at h
 split at h
 ·cases h
 ·rename_i h0
  split at h
  ·cases h
  ·rename_i h1
   split at h
   ·cases h
   ·rename_i h2
    split at h
    ·cases h
    ·rename_i h3
     split at h
     ·cases h
     ·rename_i h4;simp at h0 h1 h2 h3 h4;exact ⟨h0.1,h0.2,h1,h2.1,h2.2,h3.1,h3.2,h4⟩
def idx (S:Nat→ByteArray) (z:ByteArray):Nat→Nat→Int
 | 0,_=>-1
 | r+1,i=>if z=S i then (i:Int) else idx S z r (i+1)
def plc (p:Int):Int × Int:=if p<0 then (0,9) else (p,0)
def atRow (M:Mo) (z:ByteArray):Int × Int:=if chkE M=0 then plc (idx (fun j=>(M.R j).nm) z M.rk 0) else (0,chkE M)
def atCol (M:Mo) (z:ByteArray):Int × Int:=if chkE M=0 then plc (idx (fun j=>(M.C j).nm) z M.ck 0) else (0,chkE M)
end Go.Proofs.YtffblgeappcadaaGreat
