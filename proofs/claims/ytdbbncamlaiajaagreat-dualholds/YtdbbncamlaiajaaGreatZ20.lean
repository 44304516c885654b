/-
 The walk of the law DualHolds (written by makers/rs5.py).
-/
import Derived.Test.YtdbbncamlaiajaaGreatZ19
import Derived.BigQuiet
namespace Go.Proofs.YtdbbncamlaiajaaGreat
open Go.RowKit
set_option maxRecDepth 100000 in
set_option maxHeartbeats 8000000 in
theorem dualHolds_c {w:World} {M:Mo} {a0 a1 a2:Option Addr} {k0 c0 k1 c1 k2 c2:Nat} {X Y Z:Nat→Nm} (hX:MoX w M) (hN:MoN M) (hC:MoC M) (hx:Rr w a0 k0 X) (hy:Rr w a1 k1 Y) (hz:Rr w a2 k2 Z) (bx:k0≤9223372036854775807) (by':k1≤9223372036854775807) (bz:k2≤9223372036854775807) :
  Calls Tryz.prog 4 #[M.val,.agg #[.slice a0 k0 c0,.slice a1 k1 c1,.slice a2 k2 c2]] w fun e w'=>e=.returned (.bool true)∧Below w.heap.size w w':=by
 obtain ⟨lb,hlb⟩:∃t,lgM 8 M=t:=⟨_,rfl⟩;obtain ⟨la,hla⟩:∃t,(lgL 8 k0 X && (lgL 8 k1 Y && lgL 8 k2 Z))=t:=⟨_,rfl⟩;have CL:=hid (fun w' (hw:Below w.heap.size w w')=>mLight_c (w:=w') (K:=8) (hX.below hw).light.1 (hX.below hw).light.2);rw [hlb] at CL;have CA:=hid (fun w' (hw:Below w.heap.size w w')=>light11_c (c0:=c0) (c1:=c1) (c2:=c2) (hx.below hw) (hy.below hw) (hz.below hw) bx by' bz);rw [hla] at CA;obtain ⟨N,hN'⟩:∃N,N=M:=⟨_,rfl⟩;have HC:Hid (lb=true→la=true→In8 w N∧(Rl w a0 k0 X∧ShK 8 k0 X)∧(Rl w a1 k1 Y∧ShK 8 k1 Y)∧(Rl w a2 k2 Z∧ShK 8 k2 Z)):=fun e1 e2=>by
  subst hN';subst e1;subst e2
  simp only [Bool.and_eq_true] at hla;have key:∀{a:Option Addr} {k:Nat} {X:Nat→Nm},Rr w a k X→lgL 8 k X=true→Rl w a k X:=fun h q=>by
   simp only [lgL,Bool.and_eq_true] at q;exact h.rl q.2 (by decide)
  exact ⟨⟨hX,hN,hC,lgM_k hlb⟩,⟨key hx hla.1,lgL_shK hla.1⟩,⟨key hy hla.2.1,lgL_shK hla.2.1⟩,⟨key hz hla.2.2,lgL_shK hla.2.2⟩⟩
 clear hX hN hC hx hy hz hlb hla bx by' bz
 obtain ⟨⟨s,x,n,c,f,y,m,d,g⟩,ca,ck,cc,C,ra,rk,rc,R⟩:=M;have hNv:Hid (N.val=.agg #[.bool s,.slice x n c,.slice y m d,.slice ca ck cc,.slice ra rk rc]):=by rw [hN'];exact rfl
 clear hN';replace CL:Hid (∀w',Below w.heap.size w w'→Calls Tryz.prog 6 #[.agg #[.bool s,.slice x n c,.slice y m d,.slice ca ck cc,.slice ra rk rc],.int .i64 8] w' fun e w2=>e=.returned (.bool lb)∧Below w'.heap.size w' w2):=CL;show Calls Tryz.prog 4 #[.agg #[.bool s,.slice x n c,.slice y m d,.slice ca ck cc,.slice ra rk rc],.agg #[.slice a0 k0 c0,.slice a1 k1 c1,.slice a2 k2 c2]] w _;have HB:=hid (below_alloc (below_alloc (Below.refl w.heap.size w) (.cells #[.bool s,.slice x n c,.slice y m d,.slice ca ck cc,.slice ra rk rc] 28)) (.cells #[.slice a0 k0 c0,.slice a1 k1 c1,.slice a2 k2 c2] 50));have BM:Hid (Bk ((w.alloc (.cells #[.bool s,.slice x n c,.slice y m d,.slice ca ck cc,.slice ra rk rc] 28)).alloc (.cells #[.slice a0 k0 c0,.slice a1 k1 c1,.slice a2 k2 c2] 50)) w.heap.size [.bool s,.slice x n c,.slice y m d,.slice ca ck cc,.slice ra rk rc] 28):=(bk_new w [.bool s,.slice x n c,.slice y m d,.slice ca ck cc,.slice ra rk rc] 28).below (below_alloc (Below.refl _ _) _);have BA:Hid (Bk ((w.alloc (.cells #[.bool s,.slice x n c,.slice y m d,.slice ca ck cc,.slice ra rk rc] 28)).alloc (.cells #[.slice a0 k0 c0,.slice a1 k1 c1,.slice a2 k2 c2] 50)) (w.heap.size+1) [.slice a0 k0 c0,.slice a1 k1 c1,.slice a2 k2 c2] 50):=by
  have:=bk_new (w.alloc (.cells #[.bool s,.slice x n c,.slice y m d,.slice ca ck cc,.slice ra rk rc] 28)) [.slice a0 k0 c0,.slice a1 k1 c1,.slice a2 k2 c2] 50;rw [size_alloc1] at this;exact this
 go_enter Tryz.func4,Tryz.ntmps4;go_wp2_with fail
 generalize ((w.alloc (.cells #[.bool s,.slice x n c,.slice y m d,.slice ca ck cc,.slice ra rk rc] 28)).alloc (.cells #[.slice a0 k0 c0,.slice a1 k1 c1,.slice a2 k2 c2] 50))=v0 at *;refine (awake11_c _).mono ?_;rintro e v1 ⟨rfl,hb⟩;replace HB:=hid (HB.out.trans (hb.mono HB.out.size));replace BM:=hid (BM.out.below hb);replace BA:=hid (BA.out.below hb)
 clear hb;have r0:=BM.out.cell (j:=0) rfl;have r1:=BM.out.cell (j:=1) rfl;have r2:=BM.out.cell (j:=2) rfl;have r3:=BM.out.cell (j:=3) rfl;have r4:=BM.out.cell (j:=4) rfl;go_wp2_with fail
 clear r0 r1 r2 r3 r4;refine (CL.out _ HB.out).mono ?_;rintro e v2 ⟨rfl,hb⟩;replace HB:=hid (HB.out.trans (hb.mono HB.out.size));replace BM:=hid (BM.out.below hb);replace BA:=hid (BA.out.below hb)
 clear hb;clear CL;cases lb
 ·go_wp2;go_ret;exact ⟨rfl,HB.out⟩
 have t0:=BA.out.cell (j:=0) rfl;have t1:=BA.out.cell (j:=1) rfl;have t2:=BA.out.cell (j:=2) rfl;go_wp2_with fail
 clear t0 t1 t2;refine (CA.out _ HB.out).mono ?_;rintro e v3 ⟨rfl,hb⟩;replace HB:=hid (HB.out.trans (hb.mono HB.out.size));replace BM:=hid (BM.out.below hb);replace BA:=hid (BA.out.below hb)
 clear hb;clear CA;cases la
 ·go_wp2;go_ret;exact ⟨rfl,HB.out⟩
 replace HC:=hid (HC.out (by first | rfl | trivial) (by first | rfl | trivial));have T1:Hid (∀W,Below w.heap.size w W→Calls Tryz.prog 9 #[.agg #[.bool s,.slice x n c,.slice y m d,.slice ca ck cc,.slice ra rk rc]] W fun e w'=>∃(vm:Value) (M':Mo),e=.returned vm∧Below W.heap.size W w'∧Hid (vm=M'.val∧TmK 8 w' N M')):=fun W hW=>by
  have:=twinTmK_c (HC.out.1.x.below hW) HC.out.1.n HC.out.1.k (by decide);rw [hNv.out] at this;exact this
 have T2:=hid (fun W (hW:Below w.heap.size w W)=>twin11_c (c0:=c0) (c1:=c1) (c2:=c2) (HC.out.2.1.1.below hW) (HC.out.2.2.1.1.below hW) (HC.out.2.2.2.1.below hW) HC.out.2.1.2 HC.out.2.2.1.2 HC.out.2.2.2.2 (by decide));obtain ⟨hh,hhe⟩:∃t,hldM N k0 X k1 Y k2 Z=t:=⟨_,rfl⟩;obtain ⟨ec,hec⟩:∃t,chkE N=t:=⟨_,rfl⟩;have VH:Hid (∀W vm M' b0 d0 Y0 b1 d1 Y1 b2 d2 Y2,(vm=M'.val∧TmK 8 W N M')→T3 W b0 b1 b2 k0 X Y0 k1 Y Y1 k2 Z Y2→Calls Tryz.prog 17 #[vm,.agg #[.slice b0 k0 d0,.slice b1 k1 d1,.slice b2 k2 d2]] W fun e w'=>e=.returned (.tuple #[.bool hh,.int .i64 ec])∧Below W.heap.size W w'):=fun W vm M' b0 d0 Y0 b1 d1 Y1 b2 d2 Y2 h1 h2=>by
  have:=holdsTw_c (K:=8) (c0:=d0) (c1:=d1) (c2:=d2) h1.2 HC.out.1.n h2.t0 h2.t1 h2.t2 HC.out.2.1.2 HC.out.2.2.1.2 HC.out.2.2.2.2 (by decide);rw [hhe,hec,←h1.1] at this;exact this
 have DH:Hid (∀W,Below w.heap.size w W→Calls Tryz.prog 19 #[.agg #[.bool s,.slice x n c,.slice y m d,.slice ca ck cc,.slice ra rk rc],.agg #[.slice a0 k0 c0,.slice a1 k1 c1,.slice a2 k2 c2]] W fun e w'=>e=.returned (.tuple #[.bool hh,.int .i64 ec])∧Below W.heap.size W w'):=fun W hW=>by
  have:=docHolds_c (c0:=c0) (c1:=c1) (c2:=c2) (HC.out.1.below hW) (HC.out.2.1.1.below hW) HC.out.2.1.2 (HC.out.2.2.1.1.below hW) HC.out.2.2.1.2 (HC.out.2.2.2.1.below hW) HC.out.2.2.2.2;rw [hhe,hec,hNv.out] at this;exact this
 clear HC hNv hhe hec;go_upto_region 5 with fail
 have r0:=BM.out.cell (j:=0) rfl;have r1:=BM.out.cell (j:=1) rfl;have r2:=BM.out.cell (j:=2) rfl;have r3:=BM.out.cell (j:=3) rfl;have r4:=BM.out.cell (j:=4) rfl;have t0:=BA.out.cell (j:=0) rfl;have t1:=BA.out.cell (j:=1) rfl;have t2:=BA.out.cell (j:=2) rfl;have T1n:=hid (fun W (hW:Below v3.heap.size v3 W)=>T1.out W (HB.out.trans (hW.mono HB.out.size)));have T2n:=hid (fun W (hW:Below v3.heap.size v3 W)=>T2.out W (HB.out.trans (hW.mono HB.out.size)));clear T1 T2;go_region_held3 (fun w'=>w'.cell? ⟨w.heap.size,0,none⟩=some (.bool s)∧w'.cell? ⟨w.heap.size,1,none⟩=some (.slice x n c)∧w'.cell? ⟨w.heap.size,2,none⟩=some (.slice y m d)∧w'.cell? ⟨w.heap.size,3,none⟩=some (.slice ca ck cc)∧w'.cell? ⟨w.heap.size,4,none⟩=some (.slice ra rk rc)∧w'.cell? ⟨w.heap.size+1,0,none⟩=some (.slice a0 k0 c0)∧w'.cell? ⟨w.heap.size+1,1,none⟩=some (.slice a1 k1 c1)∧w'.cell? ⟨w.heap.size+1,2,none⟩=some (.slice a2 k2 c2))
  (refine ⟨?_,?_,?_,?_,?_,?_,?_,?_⟩ <;> repeat (with_reducible first | assumption | refine kCd ?_ | refine kCb (by assumption) ?_))
  (first
   | (go_at_call 9;with_reducible refine (T1n.out _ belA).mono ?_;rintro e u1 ⟨vm,M1,rfl,hb1,H1⟩)
   | (go_at_call 18;with_reducible refine (T2n.out _ belA).mono ?_;rintro e u2 ⟨b0,d0,Y0,b1,d1,Y1,b2,d2,Y2,rfl,hb2,H2⟩)
   | (go_at_call 17;with_reducible refine (VH.out _ vm M1 b0 d0 Y0 b1 d1 Y1 b2 d2 Y2 ⟨H1.out.1,H1.out.2.below belA⟩ (H2.out.below belA)).mono ?_;rintro e v4 ⟨rfl,hb3⟩))
 have hb:Below v3.heap.size v3 v4:=belA;replace HB:=hid (HB.out.trans (hb.mono HB.out.size));replace BM:=hid (BM.out.below hb);replace BA:=hid (BA.out.below hb)
 clear hb;clear r0 r1 r2 r3 r4 t0 t1 t2 T1n T2n hb1 hb2 hb3 H1 H2;have r0:=BM.out.cell (j:=0) rfl;have r1:=BM.out.cell (j:=1) rfl;have r2:=BM.out.cell (j:=2) rfl;have r3:=BM.out.cell (j:=3) rfl;have r4:=BM.out.cell (j:=4) rfl;have t0:=BA.out.cell (j:=0) rfl;have t1:=BA.out.cell (j:=1) rfl;have t2:=BA.out.cell (j:=2) rfl;go_wp2_with fail
 clear r0 r1 r2 r3 r4;clear t0 t1 t2;refine (DH.out _ HB.out).mono ?_;rintro e v5 ⟨rfl,hb⟩;replace HB:=hid (HB.out.trans (hb.mono HB.out.size));replace BM:=hid (BM.out.below hb);replace BA:=hid (BA.out.below hb)
 clear hb;clear DH VH;have e1:(hh==hh)=true:=by simp
 have e2:(ec==ec)=true:=by simp
 go_wp2;go_ret;exact ⟨by simp,HB.out⟩
end Go.Proofs.YtdbbncamlaiajaaGreat
