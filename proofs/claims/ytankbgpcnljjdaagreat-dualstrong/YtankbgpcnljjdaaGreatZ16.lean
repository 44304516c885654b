/-
 Law11's light, the reference's Twin of a point, KKT points by their parts (written by makers/du13.py). The walk of the law DualStrong (written by makers/du14.py).
-/
import Derived.Test.YtankbgpcnljjdaaGreatZ15
import Derived.Test.YtankbgpcnljjdaaGreatZ11
import Derived.BigRegion
namespace Go.Proofs.YtankbgpcnljjdaaGreat
open Go.RowKit
set_option maxRecDepth 100000 in
set_option maxHeartbeats 4000000 in
theorem light11_c {w:World} {a0 a1 a2:Option Addr} {k0 c0 k1 c1 k2 c2:Nat} {X0 X1 X2:Nat→Nm} (h0:Rr w a0 k0 X0) (h1:Rr w a1 k1 X1) (h2:Rr w a2 k2 X2) (b0:k0≤9223372036854775807) (b1:k1≤9223372036854775807) (b2:k2≤9223372036854775807) :
  Calls Tryz.prog 6 #[.agg #[.slice a0 k0 c0,.slice a1 k1 c1,.slice a2 k2 c2]] w fun e w'=>e=.returned (.bool (lgL 8 k0 X0 && (lgL 8 k1 X1 && lgL 8 k2 X2)))∧Below w.heap.size w w':=by
 have C0:Hid (∀W,Below w.heap.size w W→Calls Tryz.prog 22 #[.slice a0 k0 c0,.int .i64 8] W fun e w'=>e=.returned (.bool (lgL 8 k0 X0))∧Below W.heap.size W w'):=fun W hW=>rLights_c 8 (h0.below hW) b0
 have C1:Hid (∀W,Below w.heap.size w W→Calls Tryz.prog 22 #[.slice a1 k1 c1,.int .i64 8] W fun e w'=>e=.returned (.bool (lgL 8 k1 X1))∧Below W.heap.size W w'):=fun W hW=>rLights_c 8 (h1.below hW) b1
 have C2:Hid (∀W,Below w.heap.size w W→Calls Tryz.prog 22 #[.slice a2 k2 c2,.int .i64 8] W fun e w'=>e=.returned (.bool (lgL 8 k2 X2))∧Below W.heap.size W w'):=fun W hW=>rLights_c 8 (h2.below hW) b2
 obtain ⟨p0,hp0⟩:∃p,lgL 8 k0 X0=p:=⟨_,rfl⟩;rw [hp0] at C0 ⊢;obtain ⟨p1,hp1⟩:∃p,lgL 8 k1 X1=p:=⟨_,rfl⟩;rw [hp1] at C1 ⊢;obtain ⟨p2,hp2⟩:∃p,lgL 8 k2 X2=p:=⟨_,rfl⟩;rw [hp2] at C2 ⊢;clear h0 h1 h2 hp0 hp1 hp2;have BK:Hid (Bk (w.alloc (.cells #[.slice a0 k0 c0,.slice a1 k1 c1,.slice a2 k2 c2] 31)) w.heap.size [.slice a0 k0 c0,.slice a1 k1 c1,.slice a2 k2 c2] 31):=bk_new w [.slice a0 k0 c0,.slice a1 k1 c1,.slice a2 k2 c2] 31;have HB:=hid (below_alloc (Below.refl w.heap.size w) (.cells #[.slice a0 k0 c0,.slice a1 k1 c1,.slice a2 k2 c2] 31));go_enter Tryz.func6,Tryz.ntmps6;have t0:=BK.out.cell (j:=0) rfl;go_wp2_with fail
 clear t0;generalize (w.alloc (.cells #[.slice a0 k0 c0,.slice a1 k1 c1,.slice a2 k2 c2] 31))=w0 at *;refine (C0.out _ HB.out).mono ?_;rintro e v0 ⟨rfl,hb⟩;replace HB:=hid (HB.out.trans (hb.mono HB.out.size));replace BK:=hid (BK.out.below hb)
 clear hb;cases p0
 ·go_wp2;go_ret;exact ⟨by simp,HB.out⟩
 have t1:=BK.out.cell (j:=1) rfl;go_wp2_with fail
 clear t1;refine (C1.out _ HB.out).mono ?_;rintro e v1 ⟨rfl,hb⟩;replace HB:=hid (HB.out.trans (hb.mono HB.out.size));replace BK:=hid (BK.out.below hb)
 clear hb;cases p1
 ·go_wp2;go_ret;exact ⟨by simp,HB.out⟩
 have t2:=BK.out.cell (j:=2) rfl;go_wp2_with fail
 clear t2;refine (C2.out _ HB.out).mono ?_;rintro e v2 ⟨rfl,hb⟩;replace HB:=hid (HB.out.trans (hb.mono HB.out.size));replace BK:=hid (BK.out.below hb)
 clear hb;go_wp2;go_ret;exact ⟨by simp,HB.out⟩
structure T3 (w:World) (b0 b1 b2:Option Addr) (k0:Nat) (X0 Y0:Nat→Nm) (k1:Nat) (X1 Y1:Nat→Nm) (k2:Nat) (X2 Y2:Nat→Nm):Prop where
 t0:Tx w b0 k0 X0 Y0
 t1:Tx w b1 k1 X1 Y1
 t2:Tx w b2 k2 X2 Y2
theorem T3.below {w w' b0 b1 b2 k0 X0 Y0 k1 X1 Y1 k2 X2 Y2} (h:T3 w b0 b1 b2 k0 X0 Y0 k1 X1 Y1 k2 X2 Y2) (hb:Below w.heap.size w w'):T3 w' b0 b1 b2 k0 X0 Y0 k1 X1 Y1 k2 X2 Y2:=⟨h.t0.below hb,h.t1.below hb,h.t2.below hb⟩
theorem twin11_c {w:World} {K:Nat} {a0 a1 a2:Option Addr} {k0 c0 k1 c1 k2 c2:Nat} {X0 X1 X2:Nat→Nm} (h0:Rl w a0 k0 X0) (h1:Rl w a1 k1 X1) (h2:Rl w a2 k2 X2) (s0:ShK K k0 X0) (s1:ShK K k1 X1) (s2:ShK K k2 X2) (hK:K≤100) :
  Calls Tryz.prog 9 #[.agg #[.slice a0 k0 c0,.slice a1 k1 c1,.slice a2 k2 c2]] w fun e w'=>∃b0 d0 Y0 b1 d1 Y1 b2 d2 Y2,e=.returned (.agg #[.slice b0 k0 d0,.slice b1 k1 d1,.slice b2 k2 d2])∧Below w.heap.size w w'∧Hid (T3 w' b0 b1 b2 k0 X0 Y0 k1 X1 Y1 k2 X2 Y2) :=
 (twPoint_c (c0:=c0) (c1:=c1) (c2:=c2) h0 h1 h2 (by have:=s0.1;omega) (by have:=s1.1;omega) (by have:=s2.1;omega) (fun j hj=>by have:=s0.2 j hj;omega) (fun j hj=>by have:=s1.2 j hj;omega) (fun j hj=>by have:=s2.2 j hj;omega)).mono fun e w' ⟨b0,d0,Y0,b1,d1,Y1,b2,d2,Y2,h1,h2,_,h4⟩=>⟨b0,d0,Y0,b1,d1,Y1,b2,d2,Y2,h1,h2,hid ⟨h4.out.1,h4.out.2.1,h4.out.2.2⟩⟩
structure HdP (M:Mo) (k0:Nat) (X0:Nat→Nm) (k1:Nat) (X1:Nat→Nm) (k2:Nat) (X2:Nat→Nm):Prop where
 ck:chkE M=0
 px:pckE M k0 X0=0
 dy:dckE M k1 X1=0
 fe:feasB (csOf M) (rsOf M) (psOf k0 X0)=true
 fz:afB k2 X2=true
 z:psOf k2 X2=redC (rsOf M) (psOf k1 X1) 0 (csOf M)
 ar:arB (csOf M) (rsOf M) (psOf k0 X0) (psOf k1 X1) (redC (rsOf M) (psOf k1 X1) 0 (csOf M))=true
theorem hdP_iff {M:Mo} {k0 k1 k2:Nat} {X0 X1 X2:Nat→Nm}:hldM M k0 X0 k1 X1 k2 X2=true ↔ HdP M k0 X0 k1 X1 k2 X2:=by
 simp only [hldM,hldB,Bool.and_eq_true,decide_eq_true_eq];exact ⟨fun ⟨a,⟨b,c⟩,d,⟨e,f⟩,g⟩=>⟨a,b,d,c,e,f,g⟩,fun h=>⟨h.ck,⟨h.px,h.fe⟩,h.dy,⟨h.fz,h.z⟩,h.ar⟩⟩
theorem HdP.mix {M:Mo} {k0 k1 k2 j0 j1 j2:Nat} {X0 X1 X2 Y0 Y1 Y2:Nat→Nm} (ho:mvOk (csOf M) (rsOf M)=true) (h:HdP M k0 X0 k1 X1 k2 X2) (k:HdP M j0 Y0 j1 Y1 j2 Y2):HdP M k0 X0 j1 Y1 j2 Y2:=by
 obtain ⟨_,_,e1⟩:=pckE_two h.px;obtain ⟨_,_,e2⟩:=pckE_two k.px;exact ⟨h.ck,h.px,k.dy,h.fe,k.fz,k.z,mixed_v ho (by rw [psOf_len,csOf_len];exact e1) (by rw [psOf_len,csOf_len];exact e2) h.fe k.fe h.ar k.ar⟩
theorem HdP.strong {M:Mo} {k0 k1 k2:Nat} {X0 X1 X2:Nat→Nm} (ho:mvOk (csOf M) (rsOf M)=true) (h:HdP M k0 X0 k1 X1 k2 X2):smI (bnP (nq M.off) (csOf M) (rsOf M) (psOf k1 X1))=0∧smQ (bnP (nq M.off) (csOf M) (rsOf M) (psOf k1 X1))=valQ (nq M.off) (csOf M) (psOf k0 X0):=by
 obtain ⟨_,_,e1⟩:=pckE_two h.px;exact strong_v ho (by rw [psOf_len,csOf_len];exact e1) h.ar
theorem MoK.mono {K L:Nat} {M:Mo} (h:MoK K M) (hK:K≤L):MoK L M :=
 ⟨⟨Nat.le_trans h.off.1 hK,Nat.le_trans h.off.2 hK⟩,fun j hj=>by
  obtain ⟨⟨a,b⟩,⟨c,d⟩,e,f⟩:=h.c j hj;exact ⟨⟨Nat.le_trans a hK,Nat.le_trans b hK⟩,⟨Nat.le_trans c hK,Nat.le_trans d hK⟩,Nat.le_trans e hK,Nat.le_trans f hK⟩,fun j hj=>by
  obtain ⟨⟨a,b⟩,⟨c,d⟩,e,f⟩:=h.r j hj;exact ⟨⟨Nat.le_trans a hK,Nat.le_trans b hK⟩,⟨Nat.le_trans c hK,Nat.le_trans d hK⟩,e,fun p hp=>⟨Nat.le_trans (f p hp).1 hK,Nat.le_trans (f p hp).2 hK⟩⟩⟩
set_option maxRecDepth 100000 in
set_option maxHeartbeats 16000000 in
theorem dualStrong_c {w:World} {M:Mo} {a0 a1 a2:Option Addr} {k0 c0 k1 c1 k2 c2:Nat} {X0 X1 X2:Nat→Nm} {o0 o1 o2:Option Addr} {j0 h0 j1 h1 j2 h2:Nat} {V0 V1 V2:Nat→Nm} (hX:MoX w M) (hN:MoN M) (_hC:MoC M) (g0:Rr w a0 k0 X0) (g1:Rr w a1 k1 X1) (g2:Rr w a2 k2 X2) (b0:k0≤9223372036854775807) (b1:k1≤9223372036854775807) (b2:k2≤9223372036854775807)
  (q0:Rr w o0 j0 V0) (q1:Rr w o1 j1 V1) (q2:Rr w o2 j2 V2) (l0:j0≤9223372036854775807) (l1:j1≤9223372036854775807) (l2:j2≤9223372036854775807) :
  Calls Tryz.prog 3 #[M.val,.agg #[.slice a0 k0 c0,.slice a1 k1 c1,.slice a2 k2 c2],.agg #[.slice o0 j0 h0,.slice o1 j1 h1,.slice o2 j2 h2]] w fun e w'=>e=.returned (.bool true)∧Below w.heap.size w w':=by
 obtain ⟨lb,hlb⟩:∃t,lgM 6 M=t:=⟨_,rfl⟩;obtain ⟨la,hla⟩:∃t,(lgL 8 k0 X0 && (lgL 8 k1 X1 && lgL 8 k2 X2))=t:=⟨_,rfl⟩;obtain ⟨lc,hlc⟩:∃t,(lgL 8 j0 V0 && (lgL 8 j1 V1 && lgL 8 j2 V2))=t:=⟨_,rfl⟩;have CL:=hid (fun w' (hw:Below w.heap.size w w')=>mLight_c (w:=w') (K:=6) (hX.below hw).light.1 (hX.below hw).light.2);rw [hlb] at CL;have CA:=hid (fun w' (hw:Below w.heap.size w w')=>light11_c (c0:=c0) (c1:=c1) (c2:=c2) (g0.below hw) (g1.below hw) (g2.below hw) b0 b1 b2);rw [hla] at CA;have CB:=hid (fun w' (hw:Below w.heap.size w w')=>light11_c (c0:=h0) (c1:=h1) (c2:=h2) (q0.below hw) (q1.below hw) (q2.below hw) l0 l1 l2);rw [hlc] at CB;obtain ⟨N,hN'⟩:∃N,N=M:=⟨_,rfl⟩;have HC:Hid (lb=true→la=true→lc=true→(MoX w N∧MoN N∧(N.ck≤64→N.rk≤64→MoK 8 N))∧((Rl w a0 k0 X0∧ShK 8 k0 X0)∧(Rl w a1 k1 X1∧ShK 8 k1 X1)∧Rl w a2 k2 X2∧ShK 8 k2 X2)∧((Rl w o0 j0 V0∧ShK 8 j0 V0)∧(Rl w o1 j1 V1∧ShK 8 j1 V1)∧Rl w o2 j2 V2∧ShK 8 j2 V2)):=fun e1 e2 e3=>by
  subst hN';subst e1;subst e2;subst e3
  simp only [Bool.and_eq_true] at hla hlc;obtain ⟨u0,u1,u2⟩:=hla;obtain ⟨v0,v1,v2⟩:=hlc;have key:∀{a:Option Addr} {k:Nat} {X:Nat→Nm},Rr w a k X→lgL 8 k X=true→Rl w a k X∧ShK 8 k X:=fun h q=>by
   refine ⟨?_,lgL_shK q⟩;simp only [lgL,Bool.and_eq_true] at q;exact h.rl q.2 (by decide)
  exact ⟨⟨hX,hN,fun m1 m2=>(lgM_k hlb m1 m2).mono (by decide)⟩,⟨key g0 u0,key g1 u1,key g2 u2⟩,⟨key q0 v0,key q1 v1,key q2 v2⟩⟩
 clear hX hN _hC g0 g1 g2 q0 q1 q2 hlb hla hlc b0 b1 b2 l0 l1 l2;obtain ⟨⟨s,x,n,c,f,y,m,d,g⟩,ca,ck,cc,C,ra,rk,rc,R⟩:=M;have hNv:Hid (N.val=.agg #[.bool s,.slice x n c,.slice y m d,.slice ca ck cc,.slice ra rk rc]):=by rw [hN'];exact rfl
 clear hN';replace CL:Hid (∀w',Below w.heap.size w w'→Calls Tryz.prog 5 #[.agg #[.bool s,.slice x n c,.slice y m d,.slice ca ck cc,.slice ra rk rc],.int .i64 6] w' fun e w2=>e=.returned (.bool lb)∧Below w'.heap.size w' w2):=CL;replace CA:Hid (∀w',Below w.heap.size w w'→Calls Tryz.prog 6 #[.agg #[.slice a0 k0 c0,.slice a1 k1 c1,.slice a2 k2 c2]] w' fun e w2=>e=.returned (.bool la)∧Below w'.heap.size w' w2):=CA;replace CB:Hid (∀w',Below w.heap.size w w'→Calls Tryz.prog 6 #[.agg #[.slice o0 j0 h0,.slice o1 j1 h1,.slice o2 j2 h2]] w' fun e w2=>e=.returned (.bool lc)∧Below w'.heap.size w' w2):=CB;show Calls Tryz.prog 3 #[.agg #[.bool s,.slice x n c,.slice y m d,.slice ca ck cc,.slice ra rk rc],.agg #[.slice a0 k0 c0,.slice a1 k1 c1,.slice a2 k2 c2],.agg #[.slice o0 j0 h0,.slice o1 j1 h1,.slice o2 j2 h2]] w _;have HB:=hid (below_alloc (below_alloc (below_alloc (Below.refl w.heap.size w) (.cells #[.bool s,.slice x n c,.slice y m d,.slice ca ck cc,.slice ra rk rc] 28)) (.cells #[.slice a0 k0 c0,.slice a1 k1 c1,.slice a2 k2 c2] 31)) (.cells #[.slice o0 j0 h0,.slice o1 j1 h1,.slice o2 j2 h2] 31));have BM:Hid (Bk (((w.alloc (.cells #[.bool s,.slice x n c,.slice y m d,.slice ca ck cc,.slice ra rk rc] 28)).alloc (.cells #[.slice a0 k0 c0,.slice a1 k1 c1,.slice a2 k2 c2] 31)).alloc (.cells #[.slice o0 j0 h0,.slice o1 j1 h1,.slice o2 j2 h2] 31)) w.heap.size [.bool s,.slice x n c,.slice y m d,.slice ca ck cc,.slice ra rk rc] 28):=((bk_new w [.bool s,.slice x n c,.slice y m d,.slice ca ck cc,.slice ra rk rc] 28).below (below_alloc (Below.refl _ _) _)).below (below_alloc (Below.refl _ _) _);have BP:Hid (Bk (((w.alloc (.cells #[.bool s,.slice x n c,.slice y m d,.slice ca ck cc,.slice ra rk rc] 28)).alloc (.cells #[.slice a0 k0 c0,.slice a1 k1 c1,.slice a2 k2 c2] 31)).alloc (.cells #[.slice o0 j0 h0,.slice o1 j1 h1,.slice o2 j2 h2] 31)) (w.heap.size+1) [.slice a0 k0 c0,.slice a1 k1 c1,.slice a2 k2 c2] 31):=by
  have:=(bk_new (w.alloc (.cells #[.bool s,.slice x n c,.slice y m d,.slice ca ck cc,.slice ra rk rc] 28)) [.slice a0 k0 c0,.slice a1 k1 c1,.slice a2 k2 c2] 31).below (below_alloc (Below.refl _ _) (.cells #[.slice o0 j0 h0,.slice o1 j1 h1,.slice o2 j2 h2] 31));rw [size_alloc1] at this;exact this
 have BO:Hid (Bk (((w.alloc (.cells #[.bool s,.slice x n c,.slice y m d,.slice ca ck cc,.slice ra rk rc] 28)).alloc (.cells #[.slice a0 k0 c0,.slice a1 k1 c1,.slice a2 k2 c2] 31)).alloc (.cells #[.slice o0 j0 h0,.slice o1 j1 h1,.slice o2 j2 h2] 31)) (w.heap.size+1+1) [.slice o0 j0 h0,.slice o1 j1 h1,.slice o2 j2 h2] 31):=by
  have:=bk_new ((w.alloc (.cells #[.bool s,.slice x n c,.slice y m d,.slice ca ck cc,.slice ra rk rc] 28)).alloc (.cells #[.slice a0 k0 c0,.slice a1 k1 c1,.slice a2 k2 c2] 31)) [.slice o0 j0 h0,.slice o1 j1 h1,.slice o2 j2 h2] 31;rw [size_alloc1,size_alloc1] at this;exact this
 go_enter Tryz.func3,Tryz.ntmps3;go_wp2_with fail
 generalize (((w.alloc (.cells #[.bool s,.slice x n c,.slice y m d,.slice ca ck cc,.slice ra rk rc] 28)).alloc (.cells #[.slice a0 k0 c0,.slice a1 k1 c1,.slice a2 k2 c2] 31)).alloc (.cells #[.slice o0 j0 h0,.slice o1 j1 h1,.slice o2 j2 h2] 31))=v0 at *;refine (awake11_c _).mono ?_;rintro e u1 ⟨rfl,hb⟩;replace HB:=hid (HB.out.trans (hb.mono HB.out.size));replace BM:=hid (BM.out.below hb);replace BP:=hid (BP.out.below hb);replace BO:=hid (BO.out.below hb)
 clear hb;have r0:=BM.out.cell (j:=0) rfl;have r1:=BM.out.cell (j:=1) rfl;have r2:=BM.out.cell (j:=2) rfl;have r3:=BM.out.cell (j:=3) rfl;have r4:=BM.out.cell (j:=4) rfl;go_wp2_with fail
 clear r0 r1 r2 r3 r4;refine (CL.out _ HB.out).mono ?_;rintro e u2 ⟨rfl,hb⟩;replace HB:=hid (HB.out.trans (hb.mono HB.out.size));replace BM:=hid (BM.out.below hb);replace BP:=hid (BP.out.below hb);replace BO:=hid (BO.out.below hb)
 clear hb;clear CL;cases lb
 ·go_wp2;go_ret;exact ⟨rfl,HB.out⟩
 have p0:=BP.out.cell (j:=0) rfl;have p1:=BP.out.cell (j:=1) rfl;have p2:=BP.out.cell (j:=2) rfl;go_wp2_with fail
 clear p0 p1 p2;refine (CA.out _ HB.out).mono ?_;rintro e u3 ⟨rfl,hb⟩;replace HB:=hid (HB.out.trans (hb.mono HB.out.size));replace BM:=hid (BM.out.below hb);replace BP:=hid (BP.out.below hb);replace BO:=hid (BO.out.below hb)
 clear hb;clear CA;cases la
 ·go_wp2;go_ret;exact ⟨rfl,HB.out⟩
 have t0:=BO.out.cell (j:=0) rfl;have t1:=BO.out.cell (j:=1) rfl;have t2:=BO.out.cell (j:=2) rfl;go_wp2_with fail
 clear t0 t1 t2;refine (CB.out _ HB.out).mono ?_;rintro e u4 ⟨rfl,hb⟩;replace HB:=hid (HB.out.trans (hb.mono HB.out.size));replace BM:=hid (BM.out.below hb);replace BP:=hid (BP.out.below hb);replace BO:=hid (BO.out.below hb)
 clear hb;clear CB;cases lc
 ·go_wp2;go_ret;exact ⟨rfl,HB.out⟩
 replace HC:=hid (HC.out (by first | rfl | trivial) (by first | rfl | trivial) (by first | rfl | trivial));have T1:Hid (∀W,Below w.heap.size w W→Calls Tryz.prog 8 #[.agg #[.bool s,.slice x n c,.slice y m d,.slice ca ck cc,.slice ra rk rc]] W fun e w'=>∃(vm:Value) (M':Mo),e=.returned vm∧Below W.heap.size W w'∧Hid (vm=M'.val∧TmK 8 w' N M')):=fun W hW=>by
  have:=twinTmK_c (HC.out.1.1.below hW) HC.out.1.2.1 HC.out.1.2.2 (by decide);rw [hNv.out] at this;exact this
 have TP:=hid (fun W (hW:Below w.heap.size w W)=>twin11_c (c0:=c0) (c1:=c1) (c2:=c2) (HC.out.2.1.1.1.below hW) (HC.out.2.1.2.1.1.below hW) (HC.out.2.1.2.2.1.below hW) HC.out.2.1.1.2 HC.out.2.1.2.1.2 HC.out.2.1.2.2.2 (by decide));have TO:=hid (fun W (hW:Below w.heap.size w W)=>twin11_c (c0:=h0) (c1:=h1) (c2:=h2) (HC.out.2.2.1.1.below hW) (HC.out.2.2.2.1.1.below hW) (HC.out.2.2.2.2.1.below hW) HC.out.2.2.1.2 HC.out.2.2.2.1.2 HC.out.2.2.2.2.2 (by decide));have TX:=hid (fun W (hW:Below w.heap.size w W)=>twinsTxK_c (cap:=c0) (HC.out.2.1.1.1.below hW) HC.out.2.1.1.2 (by decide));have TY:=hid (fun W (hW:Below w.heap.size w W)=>twinsTxK_c (cap:=c1) (HC.out.2.1.2.1.1.below hW) HC.out.2.1.2.1.2 (by decide));have UY:=hid (fun W (hW:Below w.heap.size w W)=>twinsTxK_c (cap:=h1) (HC.out.2.2.2.1.1.below hW) HC.out.2.2.2.1.2 (by decide));have UZ:=hid (fun W (hW:Below w.heap.size w W)=>twinsTxK_c (cap:=h2) (HC.out.2.2.2.2.1.below hW) HC.out.2.2.2.2.2 (by decide));have HO:Hid (chkE N=0→mvOk (csOf N) (rsOf N)=true):=fun e=>by
  obtain ⟨l1,l2,_⟩:=chkE_ok e;exact ((HC.out.1.1.mor HC.out.1.2.1 (HC.out.1.2.2 l1 l2) (by decide) l1 l2).movC (HC.out.1.2.2 l1 l2) e).2
 obtain ⟨iv,hiv⟩:∃t,hldM N k0 X0 k1 X1 k2 X2=t:=⟨_,rfl⟩;obtain ⟨ov,hov⟩:∃t,hldM N j0 V0 j1 V1 j2 V2=t:=⟨_,rfl⟩;obtain ⟨xv,hxv⟩:∃t,hldM N k0 X0 j1 V1 j2 V2=t:=⟨_,rfl⟩;obtain ⟨ec,hec⟩:∃t,chkE N=t:=⟨_,rfl⟩;obtain ⟨vq,hvq⟩:∃t,valQ (nq N.off) (csOf N) (psOf k0 X0)=t:=⟨_,rfl⟩;have VP:Hid (∀W vm M' b0 d0 Z0 b1 d1 Z1 b2 d2 Z2,(vm=M'.val∧TmK 8 W N M')→T3 W b0 b1 b2 k0 X0 Z0 k1 X1 Z1 k2 X2 Z2→Calls Tryz.prog 7 #[vm,.agg #[.slice b0 k0 d0,.slice b1 k1 d1,.slice b2 k2 d2]] W fun e w'=>e=.returned (.tuple #[.bool iv,.int .i64 ec])∧Below W.heap.size W w'):=fun W vm M' b0 d0 Z0 b1 d1 Z1 b2 d2 Z2 e1 e2=>by rw [e1.1,←hiv,←hec];exact holdsTw_c e1.2 HC.out.1.2.1 e2.t0 e2.t1 e2.t2 HC.out.2.1.1.2 HC.out.2.1.2.1.2 HC.out.2.1.2.2.2 (by decide)
 have VO:Hid (∀W vm M' b0 d0 Z0 b1 d1 Z1 b2 d2 Z2,(vm=M'.val∧TmK 8 W N M')→T3 W b0 b1 b2 j0 V0 Z0 j1 V1 Z1 j2 V2 Z2→Calls Tryz.prog 7 #[vm,.agg #[.slice b0 j0 d0,.slice b1 j1 d1,.slice b2 j2 d2]] W fun e w'=>e=.returned (.tuple #[.bool ov,.int .i64 ec])∧Below W.heap.size W w'):=fun W vm M' b0 d0 Z0 b1 d1 Z1 b2 d2 Z2 e1 e2=>by rw [e1.1,←hov,←hec];exact holdsTw_c e1.2 HC.out.1.2.1 e2.t0 e2.t1 e2.t2 HC.out.2.2.1.2 HC.out.2.2.2.1.2 HC.out.2.2.2.2.2 (by decide)
 have VX:Hid (∀W vm M' b0 d0 Z0 b1 d1 Z1 b2 d2 Z2,(vm=M'.val∧TmK 8 W N M')→T3 W b0 b1 b2 k0 X0 Z0 j1 V1 Z1 j2 V2 Z2→Calls Tryz.prog 7 #[vm,.agg #[.slice b0 k0 d0,.slice b1 j1 d1,.slice b2 j2 d2]] W fun e w'=>e=.returned (.tuple #[.bool xv,.int .i64 ec])∧Below W.heap.size W w'):=fun W vm M' b0 d0 Z0 b1 d1 Z1 b2 d2 Z2 e1 e2=>by rw [e1.1,←hxv,←hec];exact holdsTw_c e1.2 HC.out.1.2.1 e2.t0 e2.t1 e2.t2 HC.out.2.1.1.2 HC.out.2.2.2.1.2 HC.out.2.2.2.2.2 (by decide)
 have HXV:Hid (iv=true→ov=true→xv=true):=fun e1 e2=>by
  rw [←hxv];have h1:=hdP_iff.1 (hiv.trans e1);exact hdP_iff.2 (h1.mix (HO.out h1.ck) (hdP_iff.1 (hov.trans e2)))
 have VB:Hid (iv=true→∀W vm M' a q Z,(vm=M'.val∧TmK 8 W N M')→Tx W a k1 X1 Z→Calls Tryz.prog 10 #[vm,.slice a k1 q] W fun e w'=>∃bs bx bn bc by_ bm bd,e=.returned (.tuple #[.agg #[.int .i64 0,.bool bs,.slice bx bn bc,.slice by_ bm bd],.int .i64 0])∧Below W.heap.size W w'∧Hid (RnE (KBo 8) w' bs bx bn bc by_ bm bd vq)):=fun e1 W vm M' a q Z e2 e3=>by
  have h1:=hdP_iff.1 (hiv.trans e1);obtain ⟨s1,s2⟩:=h1.strong (HO.out h1.ck);rw [e2.1];refine (boundTw_c e2.2 HC.out.1.2.1 e3 HC.out.2.1.2.1.2 (by decide) (by decide)).mono ?_;rw [h1.dy];rintro e w9 ⟨hb,⟨h9,_⟩ | ⟨_,bs,bx,bn,bc,f,by_,bm,bd,g,rfl,hen⟩⟩
  ·exact absurd rfl h9
  ·rw [s1,s2,hvq] at hen;rw [s1];exact ⟨bs,bx,bn,bc,by_,bm,bd,rfl,hb,hid ⟨f,g,hen.rn⟩⟩
 have VV:Hid (iv=true→∀W vm M' a q Z,(vm=M'.val∧TmK 8 W N M')→Tx W a k0 X0 Z→Calls Tryz.prog 12 #[vm,.slice a k0 q] W fun e w'=>∃bs bx bn bc by_ bm bd,e=.returned (.tuple #[.agg #[.bool bs,.slice bx bn bc,.slice by_ bm bd],.int .i64 0])∧Below W.heap.size W w'∧Hid (RnE (KV 8) w' bs bx bn bc by_ bm bd vq)):=fun e1 W vm M' a q Z e2 e3=>by
  have h1:=hdP_iff.1 (hiv.trans e1);rw [e2.1];refine (valueTwK_c e2.2 HC.out.1.2.1 e3 HC.out.2.1.1.2).mono ?_;rw [h1.px];rintro e w9 ⟨hb,⟨h9,_⟩ | ⟨_,bs,bx,bn,bc,f,by_,bm,bd,g,rfl,hen⟩⟩
  ·exact absurd rfl h9
  ·rw [hvq] at hen;exact ⟨bs,bx,bn,bc,by_,bm,bd,rfl,hb,hid ⟨f,g,hen⟩⟩
 have HE:Hid (iv=true→ec=0):=fun e1=>hec.symm.trans (hdP_iff.1 (hiv.trans e1)).ck
 clear hiv hov hxv hec hvq;have r0:=BM.out.cell (j:=0) rfl;have r1:=BM.out.cell (j:=1) rfl;have r2:=BM.out.cell (j:=2) rfl;have r3:=BM.out.cell (j:=3) rfl;have r4:=BM.out.cell (j:=4) rfl;have p0:=BP.out.cell (j:=0) rfl;have p1:=BP.out.cell (j:=1) rfl;have p2:=BP.out.cell (j:=2) rfl;go_upto_region 5 with fail
 have hbd:=Below.drew (Below.refl u4.heap.size u4);replace HB:=hid (HB.out.trans (hbd.mono HB.out.size));replace BM:=hid (BM.out.below hbd);replace BP:=hid (BP.out.below hbd);replace BO:=hid (BO.out.below hbd);clear hbd;refine wp_region_held_drew (S:=(fun w'=>w'.cell? ⟨w.heap.size,0,none⟩=some (.bool s)∧w'.cell? ⟨w.heap.size,1,none⟩=some (.slice x n c)∧w'.cell? ⟨w.heap.size,2,none⟩=some (.slice y m d)∧w'.cell? ⟨w.heap.size,3,none⟩=some (.slice ca ck cc)∧w'.cell? ⟨w.heap.size,4,none⟩=some (.slice ra rk rc)∧w'.cell? ⟨w.heap.size+1,0,none⟩=some (.slice a0 k0 c0)∧w'.cell? ⟨w.heap.size+1,1,none⟩=some (.slice a1 k1 c1)∧w'.cell? ⟨w.heap.size+1,2,none⟩=some (.slice a2 k2 c2))) (by kernel_rfl) ?_ (fun hHeld=>?_)
 ·exact ⟨kCd r0,kCd r1,kCd r2,kCd r3,kCd r4,kCd p0,kCd p1,kCd p2⟩
 generalize u4.drew=d5 at *;clear r0 r1 r2 r3 r4 p0 p1 p2;obtain ⟨r0,r1,r2,r3,r4,p0,p1,p2⟩:=id hHeld;refine tkO 0 ?_;simp only [lay_,Act.put];refine tkO 2 ?_;simp only [lay_,Act.put];refine wpAnyH_ready (rs:=[1]) (by kernel_rfl) (by simp) ?_;refine AllReadyH.cons (o:=_) rfl (fun K hK=>?_) ?_;rotate_left;exact AllReadyH.nil;go_simp
 go_at_call 8
 refine (T1.out _ HB.out).mono ?_;rintro e v5_1 ⟨vm,M1,rfl,hb,hm⟩
 (try go_wp2_with fail)
 refine hK.out _ _ ?_ (fun hHv5_1=>?_)
 ·((try dsimp only);(refine ⟨?_,?_,?_,?_,?_,?_,?_,?_⟩ <;> repeat (with_reducible first | assumption | refine kCb (by assumption) ?_)))
 clear hK K;try simp only [lay_,Act.put]
 clear r0 r1 r2 r3 r4 p0 p1 p2;obtain ⟨r0,r1,r2,r3,r4,p0,p1,p2⟩:=id hHv5_1;clear hHeld;replace HB:=hid (HB.out.trans (hb.mono HB.out.size));replace BM:=hid (BM.out.below hb);replace BP:=hid (BP.out.below hb);replace BO:=hid (BO.out.below hb);clear hb;have HM:=hid hm.out;clear hm;refine wpAnyH_ready (rs:=[3]) (by kernel_rfl) (by simp) ?_;refine AllReadyH.cons (o:=_) rfl (fun K hK=>?_) ?_;rotate_left;exact AllReadyH.nil;go_simp
 go_at_call 9
 refine (TP.out _ HB.out).mono ?_;rintro e v5_2 ⟨b0,d0,Z0,b1,d1,Z1,b2,d2,Z2,rfl,hb,ht⟩
 (try go_wp2_with fail)
 refine hK.out _ _ ?_ (fun hHv5_2=>?_)
 ·((try dsimp only);(refine ⟨?_,?_,?_,?_,?_,?_,?_,?_⟩ <;> repeat (with_reducible first | assumption | refine kCb (by assumption) ?_)))
 clear hK K;try simp only [lay_,Act.put]
 clear r0 r1 r2 r3 r4 p0 p1 p2;obtain ⟨r0,r1,r2,r3,r4,p0,p1,p2⟩:=id hHv5_2;clear hHv5_1;replace HB:=hid (HB.out.trans (hb.mono HB.out.size));replace BM:=hid (BM.out.below hb);replace BP:=hid (BP.out.below hb);replace BO:=hid (BO.out.below hb);replace HM:=hid (And.intro HM.out.1 (HM.out.2.below hb));clear hb;have HT:=hid ht.out;clear ht;refine wpAnyH_ready (rs:=[4]) (by kernel_rfl) (by simp) ?_;refine AllReadyH.cons (o:=_) rfl (fun K hK=>?_) ?_;rotate_left;exact AllReadyH.nil;go_simp
 go_at_call 7
 refine (VP.out _ vm M1 b0 d0 Z0 b1 d1 Z1 b2 d2 Z2 HM.out HT.out).mono ?_;rintro e v5_3 ⟨rfl,hb⟩
 (try go_wp2_with fail)
 refine hK.out _ _ ?_ (fun hHv5_3=>?_)
 ·((try dsimp only);(refine ⟨?_,?_,?_,?_,?_,?_,?_,?_⟩ <;> repeat (with_reducible first | assumption | refine kCb (by assumption) ?_)))
 clear hK K;try simp only [lay_,Act.put]
 clear r0 r1 r2 r3 r4 p0 p1 p2;obtain ⟨r0,r1,r2,r3,r4,p0,p1,p2⟩:=id hHv5_3;clear hHv5_2;replace HB:=hid (HB.out.trans (hb.mono HB.out.size));replace BM:=hid (BM.out.below hb);replace BP:=hid (BP.out.below hb);replace BO:=hid (BO.out.below hb);clear hb;clear HM HT;refine tkO 5 ?_;simp only [lay_,Act.put];refine tkO 6 ?_;simp only [lay_,Act.put];refine tkO 7 ?_;simp only [lay_,Act.put];refine tkO 8 ?_;simp only [lay_,Act.put];refine tkO 9 ?_;simp only [lay_,Act.put];refine wpAnyH_done (by kernel_rfl) ?_ _;clear hHv5_3 r0 r1 r2 r3 r4 p0 p1 p2 VP;cases iv
 case false =>
  clear VB VV HXV HE VO VX;by_cases h0:ec=0
  ·subst h0;go_wp2;go_ret;exact ⟨by first | rfl | simp,HB.out⟩
  ·have h1:(ec != 0)=true:=by simpa using h0
   go_wp2;go_ret;exact ⟨by first | rfl | simp,HB.out⟩
 replace VB:=hid (VB.out (by first | rfl | trivial));replace VV:=hid (VV.out (by first | rfl | trivial));replace HXV:=hid (HXV.out (by first | rfl | trivial))
 have h9:=HE.out (by first | rfl | trivial);subst h9;clear HE;have r0:=BM.out.cell (j:=0) rfl;have r1:=BM.out.cell (j:=1) rfl;have r2:=BM.out.cell (j:=2) rfl;have r3:=BM.out.cell (j:=3) rfl;have r4:=BM.out.cell (j:=4) rfl;have p0:=BP.out.cell (j:=0) rfl;have p1:=BP.out.cell (j:=1) rfl;have p2:=BP.out.cell (j:=2) rfl;go_upto_region 8 with fail
 have hbd:=Below.drew (Below.refl v5_3.heap.size v5_3);replace HB:=hid (HB.out.trans (hbd.mono HB.out.size));replace BM:=hid (BM.out.below hbd);replace BP:=hid (BP.out.below hbd);replace BO:=hid (BO.out.below hbd);clear hbd;refine wp_region_held_drew (S:=(fun w'=>w'.cell? ⟨w.heap.size,0,none⟩=some (.bool s)∧w'.cell? ⟨w.heap.size,1,none⟩=some (.slice x n c)∧w'.cell? ⟨w.heap.size,2,none⟩=some (.slice y m d)∧w'.cell? ⟨w.heap.size,3,none⟩=some (.slice ca ck cc)∧w'.cell? ⟨w.heap.size,4,none⟩=some (.slice ra rk rc)∧w'.cell? ⟨w.heap.size+1,0,none⟩=some (.slice a0 k0 c0)∧w'.cell? ⟨w.heap.size+1,1,none⟩=some (.slice a1 k1 c1)∧w'.cell? ⟨w.heap.size+1,2,none⟩=some (.slice a2 k2 c2))) (by kernel_rfl) ?_ (fun hHeld=>?_)
 ·exact ⟨kCd r0,kCd r1,kCd r2,kCd r3,kCd r4,kCd p0,kCd p1,kCd p2⟩
 generalize v5_3.drew=d8 at *;clear r0 r1 r2 r3 r4 p0 p1 p2;refine tkO 0 ?_;simp only [lay_,Act.put];refine tkO 2 ?_;simp only [lay_,Act.put];refine tkO 3 ?_;simp only [lay_,Act.put];refine (show wpAnyH _ _ _ _ _ (7+2) _ _ _ from wpAnyH_flowT (fun j v w=>match j with | 1=>GTw 8 N v w | 4=>GTx k1 X1 v w | 5=>GT2v (GEx (KBo 8) 0 vq) (.int .i64 0) v w | 6=>GT2v (GEx (KBo 8) 0 vq) (.int .i64 0) v w | 7=>GEx (KBo 8) 0 vq v w | 8=>GIs (.int .i64 0) v w | 9=>GBx d8.heap.size [.int .i64 0,.bool false,.slice none 0 0,.slice none 0 0] 41 v w | _=>True) [(1,46),(4,49),(5,50),(9,9),(6,44),(7,51),(8,52)] [1,4,5,9] [6,7,8] [10,11] _ _ _ 2 ?k1 ?k4 ?kn ?kq ?k2 ?k3 ?k5 ?kt ?k6 ?k8)
 case k1=>kernel_rfl
 case k4=>kernel_rfl
 case kn=>kernel_rfl
 case kq=>exact fun _ _ _ _ _ h=>h
 case k2=>exact fun w w' h hb=>⟨kCb hb h.1,kCb hb h.2.1,kCb hb h.2.2.1,kCb hb h.2.2.2.1,kCb hb h.2.2.2.2.1,kCb hb h.2.2.2.2.2.1,kCb hb h.2.2.2.2.2.2.1,kCb hb h.2.2.2.2.2.2.2⟩
 case k3 =>
  intro j v w w' h hb
  split at h <;> first | exact GTw.below h hb | exact GTx.below h hb | exact GT2v.below (fun a h=>GEx.below h hb) h | exact GEx.below h hb | exact GBx.below h hb | exact h | trivial
 case k8=>exact hHeld
 case k5 =>
  intro i hi;simp only [List.mem_cons,List.not_mem_nil,or_false] at hi;rcases hi with rfl | rfl | rfl | rfl
  ·refine ⟨_,rfl,fun u w5 hS hb5 hd K hK=>?_⟩;have hw5:=HB.out.trans (hb5.mono HB.out.size);simp only [fill,List.foldl_cons,List.foldl_nil,Act.put,List.setIfInBounds_toArray,List.set_cons_zero,List.set_cons_succ] at hK ⊢;go_simp
   go_at_call 8
   refine (T1.out _ hw5).mono ?_;rintro e w6 ⟨vm,M1,rfl,hb6,hm⟩
   (try go_wp2_with fail)
   exact hK.out _ _ hb6 ⟨M1,hm.out.1,hm.out.2⟩
  ·refine ⟨_,rfl,fun u w5 hS hb5 hd K hK=>?_⟩;have hw5:=HB.out.trans (hb5.mono HB.out.size);simp only [fill,List.foldl_cons,List.foldl_nil,Act.put,List.setIfInBounds_toArray,List.set_cons_zero,List.set_cons_succ] at hK ⊢;go_simp
   go_at_call 11
   refine (TY.out _ hw5).mono ?_;rintro e w6 ⟨a1,q1,Z1,rfl,hb6,hc,ht⟩
   (try go_wp2_with fail)
   exact hK.out _ _ hb6 ⟨a1,q1,Z1,rfl,ht.out⟩
  ·refine ⟨_,rfl,fun u w5 hS hb5 hd K hK=>?_⟩;have hw5:=HB.out.trans (hb5.mono HB.out.size);have hc:Calls Tryz.prog 10 #[u 1,u 4] w5 fun e w'=>∃es ex en_ ec_ ey em ed,e=.returned (.tuple #[.agg #[.int .i64 0,.bool es,.slice ex en_ ec_,.slice ey em ed],.int .i64 0])∧Below w5.heap.size w5 w'∧Hid (RnE (KBo 8) w' es ex en_ ec_ ey em ed vq):=by
    have h1:GTw 8 N (u 1) w5:=hd 1 (by kernel_rfl) (by kernel_rfl);obtain ⟨M1,e1,hm⟩:=h1;have h4:GTx k1 X1 (u 4) w5:=hd 4 (by kernel_rfl) (by kernel_rfl);obtain ⟨a1,q1,Z1,e4,ht⟩:=h4;rw [e4];exact VB.out _ (u 1) M1 a1 q1 Z1 ⟨e1,hm⟩ ht
   simp only [fill,List.foldl_cons,List.foldl_nil,Act.put,List.setIfInBounds_toArray,List.set_cons_zero,List.set_cons_succ] at hK ⊢;go_simp
   go_at_call 10
   refine hc.mono ?_;rintro e w6 ⟨es,ex,en_,ec_,ey,em,ed,rfl,hb6,hr⟩
   (try go_wp2_with fail)
   exact hK.out _ _ hb6 ⟨_,rfl,es,ex,en_,ec_,ey,em,ed,rfl,hr.out⟩
  ·refine ⟨_,rfl,fun u w5 hS hb5 hd K hK=>?_⟩;have hw5:=HB.out.trans (hb5.mono HB.out.size);simp only [fill,List.foldl_cons,List.foldl_nil,Act.put,List.setIfInBounds_toArray,List.set_cons_zero,List.set_cons_succ] at hK ⊢;go_simp;exact hK.out _ _ (below_alloc (Below.refl _ _) _) ⟨w5.heap.size,rfl,bk_new w5 [.int .i64 0,.bool false,.slice none 0 0,.slice none 0 0] 41,hb5.size⟩
 case kt =>
  intro i hi;simp only [List.mem_cons,List.not_mem_nil,or_false] at hi;rcases hi with rfl | rfl | rfl
  ·refine ⟨_,rfl,fun u w5 hS hd=>?_⟩;have h5:GT2v (GEx (KBo 8) 0 vq) (.int .i64 0) (u 5) w5:=hd 5 (by kernel_rfl) (by kernel_rfl);obtain ⟨a5,e5,es,ex,en_,ec_,ey,em,ed,rfl,hr⟩:=h5;simp only [fill,List.foldl_cons,List.foldl_nil,Act.put,List.setIfInBounds_toArray,List.set_cons_zero,List.set_cons_succ];simp only [e5];exact ⟨.tuple #[.agg #[.int .i64 0,.bool es,.slice ex en_ ec_,.slice ey em ed],.int .i64 0],Or.inl ⟨by rfl,fun w0 hSw=>by go_simp <;> with_reducible rfl⟩,⟨_,rfl,es,ex,en_,ec_,ey,em,ed,rfl,hr⟩⟩
  ·refine ⟨_,rfl,fun u w5 hS hd=>?_⟩;have h6:GT2v (GEx (KBo 8) 0 vq) (.int .i64 0) (u 6) w5:=hd 6 (by kernel_rfl) (by kernel_rfl);obtain ⟨a6,e6,es,ex,en_,ec_,ey,em,ed,rfl,hr⟩:=h6;simp only [fill,List.foldl_cons,List.foldl_nil,Act.put,List.setIfInBounds_toArray,List.set_cons_zero,List.set_cons_succ];simp only [e6];exact ⟨.agg #[.int .i64 0,.bool es,.slice ex en_ ec_,.slice ey em ed],Or.inl ⟨by rfl,fun w0 hSw=>by go_simp <;> with_reducible rfl⟩,⟨es,ex,en_,ec_,ey,em,ed,rfl,hr⟩⟩
  ·refine ⟨_,rfl,fun u w5 hS hd=>?_⟩;have h6:GT2v (GEx (KBo 8) 0 vq) (.int .i64 0) (u 6) w5:=hd 6 (by kernel_rfl) (by kernel_rfl);obtain ⟨a6,e6,es,ex,en_,ec_,ey,em,ed,rfl,hr⟩:=h6;simp only [fill,List.foldl_cons,List.foldl_nil,Act.put,List.setIfInBounds_toArray,List.set_cons_zero,List.set_cons_succ];simp only [e6];exact ⟨.int .i64 0,Or.inl ⟨by rfl,fun w0 hSw=>by go_simp <;> with_reducible rfl⟩,rfl⟩
 case k6 =>
  intro u w6 hS6 hb6 hg;have h7:GEx (KBo 8) 0 vq (u 7) w6:=hg 7 (by simp);have h8:u 8=.int .i64 0:=hg 8 (by simp);have h9:GBx d8.heap.size [.int .i64 0,.bool false,.slice none 0 0,.slice none 0 0] 41 (u 9) w6:=hg 9 (by simp);obtain ⟨es,ex,en_,ec_,ey,em,ed,e7,hr⟩:=h7;obtain ⟨xe,e9,hBX,hge⟩:=h9;simp only [fill,List.foldl_cons,List.foldl_nil,Act.put,List.setIfInBounds_toArray,List.set_cons_zero,List.set_cons_succ];simp only [e7,h8,e9];clear e7 h8 e9 hg;have hw6:=HB.out.trans (hb6.mono HB.out.size);have hgw:=HB.out.size;have nBM:Hid (w.heap.size≠xe):=by have:=BM.out.lt;exact hid (by omega)
  have nBP:Hid (w.heap.size+1≠xe):=by have:=BP.out.lt;exact hid (by omega)
  have nBO:Hid (w.heap.size+1+1≠xe):=by have:=BO.out.lt;exact hid (by omega)
  obtain ⟨hx1,hx2,hx3⟩:=st_new [.int .i64 0,.bool es,.slice ex en_ ec_,.slice ey em ed] hBX (nou_list (fun u hu q=>by simp at hu;rcases hu with rfl | rfl | rfl <;> simp)) hw6 (by omega);have hbk:=stl_bk [.int .i64 0,.bool es,.slice ex en_ ec_,.slice ey em ed] [.int .i64 0,.bool false,.slice none 0 0,.slice none 0 0] 0 _ rfl hBX;simp only [stl,Nat.zero_add,Nat.reduceAdd,List.take_zero,List.nil_append] at hx1 hx2 hx3 hbk;have l0:=hBX.cell (j:=0) rfl;have l1:=hBX.cell (j:=1) rfl;have l2:=hBX.cell (j:=2) rfl;have l3:=hBX.cell (j:=3) rfl;have ff:=hBX.frozen;refine wpAnyH_ready (rs:=[10]) (by kernel_rfl) (by simp) ?_;refine AllReadyH.cons (o:=_) rfl (fun K hK=>?_) ?_;rotate_left;exact AllReadyH.nil;go_simp;generalize ((((w6.setCell ⟨xe,0,none⟩ (.int .i64 0)).setCell ⟨xe,1,none⟩ (.bool es)).setCell ⟨xe,2,none⟩ (.slice ex en_ ec_)).setCell ⟨xe,3,none⟩ (.slice ey em ed))=w8 at *;replace HB:=hid hx1;replace BM:=hid (Bk.of (BM.out.below hb6) (hx3 _ nBM.out));replace BP:=hid (Bk.of (BP.out.below hb6) (hx3 _ nBP.out));replace BO:=hid (Bk.of (BO.out.below hb6) (hx3 _ nBO.out));have HQ:=hid (RnE.kp hr hx2);have BE:=hid hbk;refine hK.out _ _ ?_ (fun hHd=>?_)
  ·exact ⟨cell_ne hx3 nBM.out hS6.1,cell_ne hx3 nBM.out hS6.2.1,cell_ne hx3 nBM.out hS6.2.2.1,cell_ne hx3 nBM.out hS6.2.2.2.1,cell_ne hx3 nBM.out hS6.2.2.2.2.1,cell_ne hx3 nBP.out hS6.2.2.2.2.2.1,cell_ne hx3 nBP.out hS6.2.2.2.2.2.2.1,cell_ne hx3 nBP.out hS6.2.2.2.2.2.2.2⟩
  clear hK K;try simp only [lay_,Act.put]
  refine tkO 11 ?_;simp only [lay_,Act.put];refine wpAnyH_done (by kernel_rfl) ?_ _;clear hHd hHeld hS6 hx1 hx2 hx3 hbk hr ff hBX hge hgw hw6 nBM nBP nBO l0 l1 l2 l3;clear VB TY;have r0:=BM.out.cell (j:=0) rfl;have r1:=BM.out.cell (j:=1) rfl;have r2:=BM.out.cell (j:=2) rfl;have r3:=BM.out.cell (j:=3) rfl;have r4:=BM.out.cell (j:=4) rfl;have p0:=BP.out.cell (j:=0) rfl;have p1:=BP.out.cell (j:=1) rfl;have p2:=BP.out.cell (j:=2) rfl;go_upto_region 9 with fail
  have hbd:=Below.drew (Below.refl w8.heap.size w8);replace HB:=hid (HB.out.trans (hbd.mono HB.out.size));replace BM:=hid (BM.out.below hbd);replace BP:=hid (BP.out.below hbd);replace BO:=hid (BO.out.below hbd);replace BE:=hid (BE.out.below hbd);replace HQ:=hid (HQ.out.below hbd);clear hbd;refine wp_region_held_drew (S:=(fun w'=>w'.cell? ⟨w.heap.size,0,none⟩=some (.bool s)∧w'.cell? ⟨w.heap.size,1,none⟩=some (.slice x n c)∧w'.cell? ⟨w.heap.size,2,none⟩=some (.slice y m d)∧w'.cell? ⟨w.heap.size,3,none⟩=some (.slice ca ck cc)∧w'.cell? ⟨w.heap.size,4,none⟩=some (.slice ra rk rc)∧w'.cell? ⟨w.heap.size+1,0,none⟩=some (.slice a0 k0 c0)∧w'.cell? ⟨w.heap.size+1,1,none⟩=some (.slice a1 k1 c1)∧w'.cell? ⟨w.heap.size+1,2,none⟩=some (.slice a2 k2 c2))) (by kernel_rfl) ?_ (fun hHeld=>?_)
  ·exact ⟨kCd r0,kCd r1,kCd r2,kCd r3,kCd r4,kCd p0,kCd p1,kCd p2⟩
  generalize w8.drew=d9 at *;clear r0 r1 r2 r3 r4 p0 p1 p2;refine tkO 0 ?_;simp only [lay_,Act.put];refine tkO 2 ?_;simp only [lay_,Act.put];refine tkO 3 ?_;simp only [lay_,Act.put];refine (show wpAnyH _ _ _ _ _ (7+2) _ _ _ from wpAnyH_flowT (fun j v w=>match j with | 1=>GTw 8 N v w | 4=>GTx k0 X0 v w | 5=>GT2v (GRa (KV 8) vq) (.int .i64 0) v w | 6=>GT2v (GRa (KV 8) vq) (.int .i64 0) v w | 7=>GRa (KV 8) vq v w | 8=>GIs (.int .i64 0) v w | 9=>GBx d9.heap.size [.bool false,.slice none 0 0,.slice none 0 0] 24 v w | _=>True) [(1,55),(4,58),(5,59),(9,10),(6,53),(7,60),(8,61)] [1,4,5,9] [6,7,8] [10,11] _ _ _ 2 ?k1 ?k4 ?kn ?kq ?k2 ?k3 ?k5 ?kt ?k6 ?k8)
  case k1=>kernel_rfl
  case k4=>kernel_rfl
  case kn=>kernel_rfl
  case kq=>exact fun _ _ _ _ _ h=>h
  case k2=>exact fun w w' h hb=>⟨kCb hb h.1,kCb hb h.2.1,kCb hb h.2.2.1,kCb hb h.2.2.2.1,kCb hb h.2.2.2.2.1,kCb hb h.2.2.2.2.2.1,kCb hb h.2.2.2.2.2.2.1,kCb hb h.2.2.2.2.2.2.2⟩
  case k3 =>
   intro j v w w' h hb
   split at h <;> first | exact GTw.below h hb | exact GTx.below h hb | exact GT2v.below (fun a h=>GRa.below h hb) h | exact GRa.below h hb | exact GBx.below h hb | exact h | trivial
  case k8=>exact hHeld
  case k5 =>
   intro i hi;simp only [List.mem_cons,List.not_mem_nil,or_false] at hi;rcases hi with rfl | rfl | rfl | rfl
   ·refine ⟨_,rfl,fun u w5 hS hb5 hd K hK=>?_⟩;have hw5:=HB.out.trans (hb5.mono HB.out.size);simp only [fill,List.foldl_cons,List.foldl_nil,Act.put,List.setIfInBounds_toArray,List.set_cons_zero,List.set_cons_succ] at hK ⊢;go_simp
    go_at_call 8
    refine (T1.out _ hw5).mono ?_;rintro e w6 ⟨vm,M1,rfl,hb6,hm⟩
    (try go_wp2_with fail)
    exact hK.out _ _ hb6 ⟨M1,hm.out.1,hm.out.2⟩
   ·refine ⟨_,rfl,fun u w5 hS hb5 hd K hK=>?_⟩;have hw5:=HB.out.trans (hb5.mono HB.out.size);simp only [fill,List.foldl_cons,List.foldl_nil,Act.put,List.setIfInBounds_toArray,List.set_cons_zero,List.set_cons_succ] at hK ⊢;go_simp
    go_at_call 11
    refine (TX.out _ hw5).mono ?_;rintro e w6 ⟨a1,q1,Z1,rfl,hb6,hc,ht⟩
    (try go_wp2_with fail)
    exact hK.out _ _ hb6 ⟨a1,q1,Z1,rfl,ht.out⟩
   ·refine ⟨_,rfl,fun u w5 hS hb5 hd K hK=>?_⟩;have hw5:=HB.out.trans (hb5.mono HB.out.size);have hc:Calls Tryz.prog 12 #[u 1,u 4] w5 fun e w'=>∃qs qx qn qc qy qm qd,e=.returned (.tuple #[.agg #[.bool qs,.slice qx qn qc,.slice qy qm qd],.int .i64 0])∧Below w5.heap.size w5 w'∧Hid (RnE (KV 8) w' qs qx qn qc qy qm qd vq):=by
     have h1:GTw 8 N (u 1) w5:=hd 1 (by kernel_rfl) (by kernel_rfl);obtain ⟨M1,e1,hm⟩:=h1;have h4:GTx k0 X0 (u 4) w5:=hd 4 (by kernel_rfl) (by kernel_rfl);obtain ⟨a1,q1,Z1,e4,ht⟩:=h4;rw [e4];exact VV.out _ (u 1) M1 a1 q1 Z1 ⟨e1,hm⟩ ht
    simp only [fill,List.foldl_cons,List.foldl_nil,Act.put,List.setIfInBounds_toArray,List.set_cons_zero,List.set_cons_succ] at hK ⊢;go_simp
    go_at_call 12
    refine hc.mono ?_;rintro e w6 ⟨qs,qx,qn,qc,qy,qm,qd,rfl,hb6,hr⟩
    (try go_wp2_with fail)
    exact hK.out _ _ hb6 ⟨_,rfl,qs,qx,qn,qc,qy,qm,qd,rfl,hr.out⟩
   ·refine ⟨_,rfl,fun u w5 hS hb5 hd K hK=>?_⟩;have hw5:=HB.out.trans (hb5.mono HB.out.size);simp only [fill,List.foldl_cons,List.foldl_nil,Act.put,List.setIfInBounds_toArray,List.set_cons_zero,List.set_cons_succ] at hK ⊢;go_simp;exact hK.out _ _ (below_alloc (Below.refl _ _) _) ⟨w5.heap.size,rfl,bk_new w5 [.bool false,.slice none 0 0,.slice none 0 0] 24,hb5.size⟩
  case kt =>
   intro i hi;simp only [List.mem_cons,List.not_mem_nil,or_false] at hi;rcases hi with rfl | rfl | rfl
   ·refine ⟨_,rfl,fun u w5 hS hd=>?_⟩;have h5:GT2v (GRa (KV 8) vq) (.int .i64 0) (u 5) w5:=hd 5 (by kernel_rfl) (by kernel_rfl);obtain ⟨a5,e5,qs,qx,qn,qc,qy,qm,qd,rfl,hr⟩:=h5;simp only [fill,List.foldl_cons,List.foldl_nil,Act.put,List.setIfInBounds_toArray,List.set_cons_zero,List.set_cons_succ];simp only [e5];exact ⟨.tuple #[.agg #[.bool qs,.slice qx qn qc,.slice qy qm qd],.int .i64 0],Or.inl ⟨by rfl,fun w0 hSw=>by go_simp <;> with_reducible rfl⟩,⟨_,rfl,qs,qx,qn,qc,qy,qm,qd,rfl,hr⟩⟩
   ·refine ⟨_,rfl,fun u w5 hS hd=>?_⟩;have h6:GT2v (GRa (KV 8) vq) (.int .i64 0) (u 6) w5:=hd 6 (by kernel_rfl) (by kernel_rfl);obtain ⟨a6,e6,qs,qx,qn,qc,qy,qm,qd,rfl,hr⟩:=h6;simp only [fill,List.foldl_cons,List.foldl_nil,Act.put,List.setIfInBounds_toArray,List.set_cons_zero,List.set_cons_succ];simp only [e6];exact ⟨.agg #[.bool qs,.slice qx qn qc,.slice qy qm qd],Or.inl ⟨by rfl,fun w0 hSw=>by go_simp <;> with_reducible rfl⟩,⟨qs,qx,qn,qc,qy,qm,qd,rfl,hr⟩⟩
   ·refine ⟨_,rfl,fun u w5 hS hd=>?_⟩;have h6:GT2v (GRa (KV 8) vq) (.int .i64 0) (u 6) w5:=hd 6 (by kernel_rfl) (by kernel_rfl);obtain ⟨a6,e6,qs,qx,qn,qc,qy,qm,qd,rfl,hr⟩:=h6;simp only [fill,List.foldl_cons,List.foldl_nil,Act.put,List.setIfInBounds_toArray,List.set_cons_zero,List.set_cons_succ];simp only [e6];exact ⟨.int .i64 0,Or.inl ⟨by rfl,fun w0 hSw=>by go_simp <;> with_reducible rfl⟩,rfl⟩
  case k6 =>
   intro u w6 hS6 hb6 hg;have h7:GRa (KV 8) vq (u 7) w6:=hg 7 (by simp);have h8:u 8=.int .i64 0:=hg 8 (by simp);have h9:GBx d9.heap.size [.bool false,.slice none 0 0,.slice none 0 0] 24 (u 9) w6:=hg 9 (by simp);obtain ⟨qs,qx,qn,qc,qy,qm,qd,e7,hr⟩:=h7;obtain ⟨xq,e9,hBX,hge⟩:=h9;simp only [fill,List.foldl_cons,List.foldl_nil,Act.put,List.setIfInBounds_toArray,List.set_cons_zero,List.set_cons_succ];simp only [e7,h8,e9];clear e7 h8 e9 hg;have hw6:=HB.out.trans (hb6.mono HB.out.size);have hgw:=HB.out.size;have nBM:Hid (w.heap.size≠xq):=by have:=BM.out.lt;exact hid (by omega)
   have nBP:Hid (w.heap.size+1≠xq):=by have:=BP.out.lt;exact hid (by omega)
   have nBO:Hid (w.heap.size+1+1≠xq):=by have:=BO.out.lt;exact hid (by omega)
   have nBE:Hid (xe≠xq):=by have:=BE.out.lt;exact hid (by omega)
   obtain ⟨hx1,hx2,hx3⟩:=st_new [.bool qs,.slice qx qn qc,.slice qy qm qd] hBX (nou_list (fun u hu q=>by simp at hu;rcases hu with rfl | rfl <;> simp)) hw6 (by omega);have hbk:=stl_bk [.bool qs,.slice qx qn qc,.slice qy qm qd] [.bool false,.slice none 0 0,.slice none 0 0] 0 _ rfl hBX;simp only [stl,Nat.zero_add,Nat.reduceAdd,List.take_zero,List.nil_append] at hx1 hx2 hx3 hbk;have l0:=hBX.cell (j:=0) rfl;have l1:=hBX.cell (j:=1) rfl;have l2:=hBX.cell (j:=2) rfl;have ff:=hBX.frozen;refine wpAnyH_ready (rs:=[10]) (by kernel_rfl) (by simp) ?_;refine AllReadyH.cons (o:=_) rfl (fun K hK=>?_) ?_;rotate_left;exact AllReadyH.nil;go_simp;generalize (((w6.setCell ⟨xq,0,none⟩ (.bool qs)).setCell ⟨xq,1,none⟩ (.slice qx qn qc)).setCell ⟨xq,2,none⟩ (.slice qy qm qd))=w9 at *;replace HB:=hid hx1;replace BM:=hid (Bk.of (BM.out.below hb6) (hx3 _ nBM.out));replace BP:=hid (Bk.of (BP.out.below hb6) (hx3 _ nBP.out));replace BO:=hid (Bk.of (BO.out.below hb6) (hx3 _ nBO.out));replace BE:=hid (Bk.of (BE.out.below hb6) (hx3 _ nBE.out));have HV:=hid (RnE.kp hr hx2);have BQ:=hid hbk;replace HQ:=hid (RnE.kp (HQ.out.below hb6) hx2);refine hK.out _ _ ?_ (fun hHd=>?_)
   ·exact ⟨cell_ne hx3 nBM.out hS6.1,cell_ne hx3 nBM.out hS6.2.1,cell_ne hx3 nBM.out hS6.2.2.1,cell_ne hx3 nBM.out hS6.2.2.2.1,cell_ne hx3 nBM.out hS6.2.2.2.2.1,cell_ne hx3 nBP.out hS6.2.2.2.2.2.1,cell_ne hx3 nBP.out hS6.2.2.2.2.2.2.1,cell_ne hx3 nBP.out hS6.2.2.2.2.2.2.2⟩
   clear hK K;try simp only [lay_,Act.put]
   refine tkO 11 ?_;simp only [lay_,Act.put];refine wpAnyH_done (by kernel_rfl) ?_ _;clear hHd hHeld hS6 hx1 hx2 hx3 hbk hr ff hBX hge hgw hw6 nBM nBP nBO nBE l0 l1 l2;clear VV;have e0:=BE.out.cell (j:=0) rfl;have e1:=BE.out.cell (j:=1) rfl;have e2:=BE.out.cell (j:=2) rfl;have e3:=BE.out.cell (j:=3) rfl;have z0:=BQ.out.cell (j:=0) rfl;have z1:=BQ.out.cell (j:=1) rfl;have z2:=BQ.out.cell (j:=2) rfl;go_wp2_with fail
   clear e0 e1 e2 e3 z0 z1 z2 BE BQ
   go_at_call 13
   refine (xSame_of (fun U hU=>by obtain ⟨f1,g1,h1⟩:=HQ.out;obtain ⟨f2,g2,h2⟩:=HV.out;exact rSameEq_c (Rn.below h1 hU) (Rn.below h2 hU) (by decide) (by decide))).mono ?_;rintro e wa ⟨rfl,hb⟩;replace HB:=hid (HB.out.trans (hb.mono HB.out.size));replace BM:=hid (BM.out.below hb);replace BP:=hid (BP.out.below hb);replace BO:=hid (BO.out.below hb)
   clear hb HQ HV;have r0:=BM.out.cell (j:=0) rfl;have r1:=BM.out.cell (j:=1) rfl;have r2:=BM.out.cell (j:=2) rfl;have r3:=BM.out.cell (j:=3) rfl;have r4:=BM.out.cell (j:=4) rfl;have t0:=BO.out.cell (j:=0) rfl;have t1:=BO.out.cell (j:=1) rfl;have t2:=BO.out.cell (j:=2) rfl;go_upto_region 12 with fail
   have hbd:=Below.drew (Below.refl wa.heap.size wa);replace HB:=hid (HB.out.trans (hbd.mono HB.out.size));replace BM:=hid (BM.out.below hbd);replace BP:=hid (BP.out.below hbd);replace BO:=hid (BO.out.below hbd);clear hbd;refine wp_region_held_drew (S:=(fun w'=>w'.cell? ⟨w.heap.size,0,none⟩=some (.bool s)∧w'.cell? ⟨w.heap.size,1,none⟩=some (.slice x n c)∧w'.cell? ⟨w.heap.size,2,none⟩=some (.slice y m d)∧w'.cell? ⟨w.heap.size,3,none⟩=some (.slice ca ck cc)∧w'.cell? ⟨w.heap.size,4,none⟩=some (.slice ra rk rc)∧w'.cell? ⟨w.heap.size+1+1,0,none⟩=some (.slice o0 j0 h0)∧w'.cell? ⟨w.heap.size+1+1,1,none⟩=some (.slice o1 j1 h1)∧w'.cell? ⟨w.heap.size+1+1,2,none⟩=some (.slice o2 j2 h2))) (by kernel_rfl) ?_ (fun hHeld=>?_)
   ·exact ⟨kCd r0,kCd r1,kCd r2,kCd r3,kCd r4,kCd t0,kCd t1,kCd t2⟩
   generalize wa.drew=d12 at *;clear r0 r1 r2 r3 r4 t0 t1 t2;obtain ⟨r0,r1,r2,r3,r4,t0,t1,t2⟩:=id hHeld;refine tkO 0 ?_;simp only [lay_,Act.put];refine tkO 2 ?_;simp only [lay_,Act.put];refine wpAnyH_ready (rs:=[1]) (by kernel_rfl) (by simp) ?_;refine AllReadyH.cons (o:=_) rfl (fun K hK=>?_) ?_;rotate_left;exact AllReadyH.nil;go_simp
   go_at_call 8
   refine (T1.out _ HB.out).mono ?_;rintro e v12_1 ⟨vm,M1,rfl,hb,hm⟩
   (try go_wp2_with fail)
   refine hK.out _ _ ?_ (fun hHv12_1=>?_)
   ·((try dsimp only);(refine ⟨?_,?_,?_,?_,?_,?_,?_,?_⟩ <;> repeat (with_reducible first | assumption | refine kCb (by assumption) ?_)))
   clear hK K;try simp only [lay_,Act.put]
   clear r0 r1 r2 r3 r4 t0 t1 t2;obtain ⟨r0,r1,r2,r3,r4,t0,t1,t2⟩:=id hHv12_1;clear hHeld;replace HB:=hid (HB.out.trans (hb.mono HB.out.size));replace BM:=hid (BM.out.below hb);replace BP:=hid (BP.out.below hb);replace BO:=hid (BO.out.below hb);clear hb;have HM:=hid hm.out;clear hm;refine wpAnyH_ready (rs:=[3]) (by kernel_rfl) (by simp) ?_;refine AllReadyH.cons (o:=_) rfl (fun K hK=>?_) ?_;rotate_left;exact AllReadyH.nil;go_simp
   go_at_call 9
   refine (TO.out _ HB.out).mono ?_;rintro e v12_2 ⟨b0,d0,Z0,b1,d1,Z1,b2,d2,Z2,rfl,hb,ht⟩
   (try go_wp2_with fail)
   refine hK.out _ _ ?_ (fun hHv12_2=>?_)
   ·((try dsimp only);(refine ⟨?_,?_,?_,?_,?_,?_,?_,?_⟩ <;> repeat (with_reducible first | assumption | refine kCb (by assumption) ?_)))
   clear hK K;try simp only [lay_,Act.put]
   clear r0 r1 r2 r3 r4 t0 t1 t2;obtain ⟨r0,r1,r2,r3,r4,t0,t1,t2⟩:=id hHv12_2;clear hHv12_1;replace HB:=hid (HB.out.trans (hb.mono HB.out.size));replace BM:=hid (BM.out.below hb);replace BP:=hid (BP.out.below hb);replace BO:=hid (BO.out.below hb);replace HM:=hid (And.intro HM.out.1 (HM.out.2.below hb));clear hb;have HT:=hid ht.out;clear ht;refine wpAnyH_ready (rs:=[4]) (by kernel_rfl) (by simp) ?_;refine AllReadyH.cons (o:=_) rfl (fun K hK=>?_) ?_;rotate_left;exact AllReadyH.nil;go_simp
   go_at_call 7
   refine (VO.out _ vm M1 b0 d0 Z0 b1 d1 Z1 b2 d2 Z2 HM.out HT.out).mono ?_;rintro e v12_3 ⟨rfl,hb⟩
   (try go_wp2_with fail)
   refine hK.out _ _ ?_ (fun hHv12_3=>?_)
   ·((try dsimp only);(refine ⟨?_,?_,?_,?_,?_,?_,?_,?_⟩ <;> repeat (with_reducible first | assumption | refine kCb (by assumption) ?_)))
   clear hK K;try simp only [lay_,Act.put]
   clear r0 r1 r2 r3 r4 t0 t1 t2;obtain ⟨r0,r1,r2,r3,r4,t0,t1,t2⟩:=id hHv12_3;clear hHv12_2;replace HB:=hid (HB.out.trans (hb.mono HB.out.size));replace BM:=hid (BM.out.below hb);replace BP:=hid (BP.out.below hb);replace BO:=hid (BO.out.below hb);clear hb;clear HM HT;refine tkO 5 ?_;simp only [lay_,Act.put];refine tkO 6 ?_;simp only [lay_,Act.put];refine tkO 7 ?_;simp only [lay_,Act.put];refine tkO 8 ?_;simp only [lay_,Act.put];refine tkO 9 ?_;simp only [lay_,Act.put];refine wpAnyH_done (by kernel_rfl) ?_ _;clear hHv12_3 r0 r1 r2 r3 r4 t0 t1 t2 VO;cases ov
   case false =>
    clear VX HXV;go_wp2;go_ret;exact ⟨by first | rfl | simp,HB.out⟩
   have h9:=HXV.out (by first | rfl | trivial);subst h9;clear HXV;have r0:=BM.out.cell (j:=0) rfl;have r1:=BM.out.cell (j:=1) rfl;have r2:=BM.out.cell (j:=2) rfl;have r3:=BM.out.cell (j:=3) rfl;have r4:=BM.out.cell (j:=4) rfl;have p0:=BP.out.cell (j:=0) rfl;have p1:=BP.out.cell (j:=1) rfl;have p2:=BP.out.cell (j:=2) rfl;have t0:=BO.out.cell (j:=0) rfl;have t1:=BO.out.cell (j:=1) rfl;have t2:=BO.out.cell (j:=2) rfl;go_upto_region 15 with fail
   have hbd:=Below.drew (Below.refl v12_3.heap.size v12_3);replace HB:=hid (HB.out.trans (hbd.mono HB.out.size));replace BM:=hid (BM.out.below hbd);replace BP:=hid (BP.out.below hbd);replace BO:=hid (BO.out.below hbd);clear hbd;refine wp_region_held_drew (S:=(fun w'=>w'.cell? ⟨w.heap.size,0,none⟩=some (.bool s)∧w'.cell? ⟨w.heap.size,1,none⟩=some (.slice x n c)∧w'.cell? ⟨w.heap.size,2,none⟩=some (.slice y m d)∧w'.cell? ⟨w.heap.size,3,none⟩=some (.slice ca ck cc)∧w'.cell? ⟨w.heap.size,4,none⟩=some (.slice ra rk rc)∧w'.cell? ⟨w.heap.size+1,0,none⟩=some (.slice a0 k0 c0)∧w'.cell? ⟨w.heap.size+1,1,none⟩=some (.slice a1 k1 c1)∧w'.cell? ⟨w.heap.size+1,2,none⟩=some (.slice a2 k2 c2)∧w'.cell? ⟨w.heap.size+1+1,0,none⟩=some (.slice o0 j0 h0)∧w'.cell? ⟨w.heap.size+1+1,1,none⟩=some (.slice o1 j1 h1)∧w'.cell? ⟨w.heap.size+1+1,2,none⟩=some (.slice o2 j2 h2))) (by kernel_rfl) ?_ (fun hHeld=>?_)
   ·exact ⟨kCd r0,kCd r1,kCd r2,kCd r3,kCd r4,kCd p0,kCd p1,kCd p2,kCd t0,kCd t1,kCd t2⟩
   generalize v12_3.drew=d15 at *;clear r0 r1 r2 r3 r4 p0 p1 p2 t0 t1 t2;obtain ⟨r0,r1,r2,r3,r4,p0,p1,p2,t0,t1,t2⟩:=id hHeld;refine tkO 0 ?_;simp only [lay_,Act.put];refine tkO 2 ?_;simp only [lay_,Act.put];refine tkO 3 ?_;simp only [lay_,Act.put];refine tkO 5 ?_;simp only [lay_,Act.put];refine tkO 6 ?_;simp only [lay_,Act.put];refine tkO 8 ?_;simp only [lay_,Act.put];refine tkO 9 ?_;simp only [lay_,Act.put];refine wpAnyH_ready (rs:=[1]) (by kernel_rfl) (by simp) ?_;refine AllReadyH.cons (o:=_) rfl (fun K hK=>?_) ?_;rotate_left;exact AllReadyH.nil;go_simp
   go_at_call 8
   refine (T1.out _ HB.out).mono ?_;rintro e v15_1 ⟨vm,M1,rfl,hb,hm⟩
   (try go_wp2_with fail)
   refine hK.out _ _ ?_ (fun hHv15_1=>?_)
   ·((try dsimp only);(refine ⟨?_,?_,?_,?_,?_,?_,?_,?_,?_,?_,?_⟩ <;> repeat (with_reducible first | assumption | refine kCb (by assumption) ?_)))
   clear hK K;try simp only [lay_,Act.put]
   clear r0 r1 r2 r3 r4 p0 p1 p2 t0 t1 t2;obtain ⟨r0,r1,r2,r3,r4,p0,p1,p2,t0,t1,t2⟩:=id hHv15_1;clear hHeld;replace HB:=hid (HB.out.trans (hb.mono HB.out.size));replace BM:=hid (BM.out.below hb);replace BP:=hid (BP.out.below hb);replace BO:=hid (BO.out.below hb);clear hb;have HM:=hid hm.out;clear hm;refine wpAnyH_ready (rs:=[4]) (by kernel_rfl) (by simp) ?_;refine AllReadyH.cons (o:=_) rfl (fun K hK=>?_) ?_;rotate_left;exact AllReadyH.nil;go_simp
   go_at_call 11
   refine (TX.out _ HB.out).mono ?_;rintro e v15_2 ⟨bA,dA,ZA,rfl,hb,hc,ht⟩
   (try go_wp2_with fail)
   refine hK.out _ _ ?_ (fun hHv15_2=>?_)
   ·((try dsimp only);(refine ⟨?_,?_,?_,?_,?_,?_,?_,?_,?_,?_,?_⟩ <;> repeat (with_reducible first | assumption | refine kCb (by assumption) ?_)))
   clear hK K;try simp only [lay_,Act.put]
   clear r0 r1 r2 r3 r4 p0 p1 p2 t0 t1 t2;obtain ⟨r0,r1,r2,r3,r4,p0,p1,p2,t0,t1,t2⟩:=id hHv15_2;clear hHv15_1;replace HB:=hid (HB.out.trans (hb.mono HB.out.size));replace BM:=hid (BM.out.below hb);replace BP:=hid (BP.out.below hb);replace BO:=hid (BO.out.below hb);replace HM:=hid (And.intro HM.out.1 (HM.out.2.below hb));clear hb;have HTA:=hid ht.out;clear ht hc;refine wpAnyH_ready (rs:=[7]) (by kernel_rfl) (by simp) ?_;refine AllReadyH.cons (o:=_) rfl (fun K hK=>?_) ?_;rotate_left;exact AllReadyH.nil;go_simp
   go_at_call 11
   refine (UY.out _ HB.out).mono ?_;rintro e v15_3 ⟨bB,dB,ZB,rfl,hb,hc,ht⟩
   (try go_wp2_with fail)
   refine hK.out _ _ ?_ (fun hHv15_3=>?_)
   ·((try dsimp only);(refine ⟨?_,?_,?_,?_,?_,?_,?_,?_,?_,?_,?_⟩ <;> repeat (with_reducible first | assumption | refine kCb (by assumption) ?_)))
   clear hK K;try simp only [lay_,Act.put]
   clear r0 r1 r2 r3 r4 p0 p1 p2 t0 t1 t2;obtain ⟨r0,r1,r2,r3,r4,p0,p1,p2,t0,t1,t2⟩:=id hHv15_3;clear hHv15_2;replace HB:=hid (HB.out.trans (hb.mono HB.out.size));replace BM:=hid (BM.out.below hb);replace BP:=hid (BP.out.below hb);replace BO:=hid (BO.out.below hb);replace HM:=hid (And.intro HM.out.1 (HM.out.2.below hb));replace HTA:=hid (HTA.out.below hb);clear hb;have HTB:=hid ht.out;clear ht hc;refine wpAnyH_ready (rs:=[10]) (by kernel_rfl) (by simp) ?_;refine AllReadyH.cons (o:=_) rfl (fun K hK=>?_) ?_;rotate_left;exact AllReadyH.nil;go_simp
   go_at_call 11
   refine (UZ.out _ HB.out).mono ?_;rintro e v15_4 ⟨bC,dC,ZC,rfl,hb,hc,ht⟩
   (try go_wp2_with fail)
   refine hK.out _ _ ?_ (fun hHv15_4=>?_)
   ·((try dsimp only);(refine ⟨?_,?_,?_,?_,?_,?_,?_,?_,?_,?_,?_⟩ <;> repeat (with_reducible first | assumption | refine kCb (by assumption) ?_)))
   clear hK K;try simp only [lay_,Act.put]
   clear r0 r1 r2 r3 r4 p0 p1 p2 t0 t1 t2;obtain ⟨r0,r1,r2,r3,r4,p0,p1,p2,t0,t1,t2⟩:=id hHv15_4;clear hHv15_3;replace HB:=hid (HB.out.trans (hb.mono HB.out.size));replace BM:=hid (BM.out.below hb);replace BP:=hid (BP.out.below hb);replace BO:=hid (BO.out.below hb);replace HM:=hid (And.intro HM.out.1 (HM.out.2.below hb));replace HTA:=hid (HTA.out.below hb);replace HTB:=hid (HTB.out.below hb);clear hb;have HTC:=hid ht.out;clear ht hc;refine tkO 11 ?_;simp only [lay_,Act.put];refine wpAnyH_ready (rs:=[12]) (by kernel_rfl) (by simp) ?_;refine AllReadyH.cons (o:=_) rfl (fun K hK=>?_) ?_;rotate_left;exact AllReadyH.nil;go_simp
   go_at_call 7
   refine (VX.out _ vm M1 bA dA ZA bB dB ZB bC dC ZC HM.out ⟨HTA.out,HTB.out,HTC.out⟩).mono ?_;rintro e v15_5 ⟨rfl,hb⟩
   (try go_wp2_with fail)
   refine hK.out _ _ ?_ (fun hHv15_5=>?_)
   ·((try dsimp only);(refine ⟨?_,?_,?_,?_,?_,?_,?_,?_,?_,?_,?_⟩ <;> repeat (with_reducible first | assumption | refine kCb (by assumption) ?_)))
   clear hK K;try simp only [lay_,Act.put]
   clear r0 r1 r2 r3 r4 p0 p1 p2 t0 t1 t2;obtain ⟨r0,r1,r2,r3,r4,p0,p1,p2,t0,t1,t2⟩:=id hHv15_5;clear hHv15_4;replace HB:=hid (HB.out.trans (hb.mono HB.out.size));replace BM:=hid (BM.out.below hb);replace BP:=hid (BP.out.below hb);replace BO:=hid (BO.out.below hb);clear hb;clear HM HTA HTB HTC;refine tkO 13 ?_;simp only [lay_,Act.put];refine tkO 14 ?_;simp only [lay_,Act.put];refine tkO 15 ?_;simp only [lay_,Act.put];refine tkO 16 ?_;simp only [lay_,Act.put];refine tkO 17 ?_;simp only [lay_,Act.put];refine wpAnyH_done (by kernel_rfl) ?_ _;clear hHv15_5 r0 r1 r2 r3 r4 p0 p1 p2 t0 t1 t2;go_wp2;go_ret;exact ⟨by first | rfl | simp,HB.out⟩
end Go.Proofs.YtankbgpcnljjdaaGreat
