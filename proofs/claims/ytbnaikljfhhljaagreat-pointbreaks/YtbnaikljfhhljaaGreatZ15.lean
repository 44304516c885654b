/-
 The walk of the law PointBreaks (written by makers/rh2.py).
-/
import Derived.Test.YtbnaikljfhhljaaGreatZ11
import Derived.Test.YtbnaikljfhhljaaGreatZ14
namespace Go.Proofs.YtbnaikljfhhljaaGreat
open Go.RowKit
structure Cp10 (w:World) (M:Mo) (ao:Option Addr) (k:Nat) (X:Nat → Nm):Prop where
 i:In8 w M
 hx:Rl w ao k X
 sx:ShK 8 k X
set_option maxRecDepth 100000 in
set_option maxHeartbeats 16000000 in
theorem pointBreaks_c {w:World} {M:Mo} {ao:Option Addr} {k cap:Nat} {X:Nat → Nm} (hX:MoX w M) (hN:MoN M) (hC:MoC M) (hx:Rr w ao k X) (hk:k ≤ 9223372036854775807) :
  Calls Tryz.prog 4 #[M.val,.slice ao k cap] w fun e w'=>e=.returned (.bool true) ∧ Below w.heap.size w w':=by
 obtain ⟨lb,hlb⟩:∃ t,lgM 8 M=t:=⟨_,rfl⟩
 obtain ⟨la,hla⟩:∃ t,lgL 8 k X=t:=⟨_,rfl⟩
 have CL:=hid (fun w' (hw:Below w.heap.size w w')=>mLight_c (w:=w') (K:=8) (hX.below hw).light.1 (hX.below hw).light.2)
 rw [hlb] at CL
 have CA:Hid (∀ W,Below w.heap.size w W → Calls Tryz.prog 7 #[.slice ao k cap,.int .i64 8] W fun e w'=>e=.returned (.bool la) ∧ Below W.heap.size W w'):=fun W hW=>by
  have:=rLights_c (cap:=cap) 8 (hx.below hW) hk
  rw [show (decide (k ≤ 300) && nlg 8 X k 0)=la from hla] at this;exact this
 obtain ⟨N,hN'⟩:∃ N,N=M:=⟨_,rfl⟩
 have HC:Hid (lb=true → la=true → Cp10 w N ao k X):=fun e1 e2=>by
  subst hN'
  subst e1;subst e2
  refine ⟨⟨hX,hN,hC,lgM_k hlb⟩,?_,lgL_shK hla⟩
  simp only [lgL,Bool.and_eq_true] at hla;exact hx.rl hla.2 (by decide)
 clear hX hN hC hx hlb hla hk
 obtain ⟨⟨s,x,n,c,f,y,m,d,g⟩,ca,ck,cc,C,ra,rk,rc,R⟩:=M
 have hNv:Hid (N.val=.agg #[.bool s,.slice x n c,.slice y m d,.slice ca ck cc,.slice ra rk rc]):=by rw [hN'];exact rfl
 clear hN'
 replace CL:Hid (∀ w',Below w.heap.size w w' → Calls Tryz.prog 6 #[.agg #[.bool s,.slice x n c,.slice y m d,.slice ca ck cc,.slice ra rk rc],.int .i64 8] w' fun e w2=>e=.returned (.bool lb) ∧ Below w'.heap.size w' w2):=CL
 show Calls Tryz.prog 4 #[.agg #[.bool s,.slice x n c,.slice y m d,.slice ca ck cc,.slice ra rk rc],.slice ao k cap] w _
 have HB:=hid (below_alloc (Below.refl w.heap.size w) (.cells #[.bool s,.slice x n c,.slice y m d,.slice ca ck cc,.slice ra rk rc] 28))
 have BM:Hid (Bk (w.alloc (.cells #[.bool s,.slice x n c,.slice y m d,.slice ca ck cc,.slice ra rk rc] 28)) w.heap.size [.bool s,.slice x n c,.slice y m d,.slice ca ck cc,.slice ra rk rc] 28):=bk_new w [.bool s,.slice x n c,.slice y m d,.slice ca ck cc,.slice ra rk rc] 28
 go_enter Tryz.func4,Tryz.ntmps4
 go_wp2_with fail
 generalize (w.alloc (.cells #[.bool s,.slice x n c,.slice y m d,.slice ca ck cc,.slice ra rk rc] 28))=v0 at *
 refine (awake10_c _).mono ?_
 rintro e v1 ⟨rfl,hb⟩
 replace HB:=hid (HB.out.trans (hb.mono HB.out.size));replace BM:=hid (BM.out.below hb)
 clear hb
 have r0:=BM.out.cell (j:=0) rfl
 have r1:=BM.out.cell (j:=1) rfl
 have r2:=BM.out.cell (j:=2) rfl
 have r3:=BM.out.cell (j:=3) rfl
 have r4:=BM.out.cell (j:=4) rfl
 go_wp2_with fail
 clear r0 r1 r2 r3 r4
 refine (CL.out _ HB.out).mono ?_
 rintro e v2 ⟨rfl,hb⟩
 replace HB:=hid (HB.out.trans (hb.mono HB.out.size));replace BM:=hid (BM.out.below hb)
 clear hb CL
 cases lb
 ·go_wp2
  go_ret
  exact ⟨by first | rfl | simp,HB.out⟩
 go_wp2_with fail
 refine (CA.out _ HB.out).mono ?_
 rintro e v3 ⟨rfl,hb⟩
 replace HB:=hid (HB.out.trans (hb.mono HB.out.size));replace BM:=hid (BM.out.below hb)
 clear hb CA
 cases la
 ·go_wp2
  go_ret
  exact ⟨by first | rfl | simp,HB.out⟩
 replace HC:=hid (HC.out (by first | rfl | trivial) (by first | rfl | trivial))
 have T1:Hid (∀ W,Below w.heap.size w W → Calls Tryz.prog 9 #[.agg #[.bool s,.slice x n c,.slice y m d,.slice ca ck cc,.slice ra rk rc]] W fun e w'=>∃ (vm:Value) (M':Mo),e=.returned vm ∧ Below W.heap.size W w' ∧ Hid (vm=M'.val ∧ TmK 8 w' N M')):=fun W hW=>by
  have:=twinTmK_c (HC.out.i.x.below hW) HC.out.i.n HC.out.i.k (by decide)
  rw [hNv.out] at this;exact this
 have TX:=hid (fun W (hW:Below w.heap.size w W)=>twinsTxK_c (cap:=cap) (HC.out.hx.below hW) HC.out.sx (by decide))
 obtain ⟨er,her⟩:∃ e,pckE N k X=e:=⟨_,rfl⟩
 by_cases h0:er=0
 case neg =>
  have BR:Hid (∀ W vm M' a X' c,(vm=M'.val ∧ TmK 8 W N M') → Tx W a k X X' → Calls Tryz.prog 18 #[vm,.slice a k c] W fun e w'=>e=.returned (.tuple #[.slice none 0 0,.slice none 0 0,.int .i64 er]) ∧ Below W.heap.size W w'):=fun W vm M' a X' c h1 h2=>by
   have:=brokenTwK_c (cap:=c) h1.2 HC.out.i.n h2 HC.out.sx
   rw [her,← h1.1] at this
   refine this.mono ?_
   rintro e w' ⟨hb,⟨_,rfl⟩ | ⟨h9,_⟩⟩
   ·exact ⟨rfl,hb⟩
   ·exact absurd h9 h0
  have FE:Hid (∀ W vm M' a X' c,(vm=M'.val ∧ TmK 8 W N M') → Tx W a k X X' → Calls Tryz.prog 16 #[vm,.slice a k c] W fun e w'=>e=.returned (.tuple #[.bool false,.int .i64 er]) ∧ Below W.heap.size W w'):=fun W vm M' a X' c h1 h2=>by
   have:=feasTwK_c (cap:=c) h1.2 HC.out.i.n h2 HC.out.sx
   rw [her,← h1.1,decide_eq_false h0,Bool.false_and] at this;exact this
  have AC:Hid (∀ W vm M' a X' c,(vm=M'.val ∧ TmK 8 W N M') → Tx W a k X X' → Calls Tryz.prog 8 #[vm,.slice a k c] W fun e w'=>e=.returned (.tuple #[.slice none 0 0,.int .i64 er]) ∧ Below W.heap.size W w'):=fun W vm M' a X' c h1 h2=>by
   have:=actsTwK_c (cap:=c) h1.2 HC.out.i.n h2 HC.out.sx
   rw [her,← h1.1] at this
   refine this.mono ?_
   rintro e w' ⟨hb,⟨_,rfl⟩ | ⟨h9,_⟩⟩
   ·exact ⟨rfl,hb⟩
   ·exact absurd h9 h0
  clear HC hNv her
  have r0:=BM.out.cell (j:=0) rfl
  have r1:=BM.out.cell (j:=1) rfl
  have r2:=BM.out.cell (j:=2) rfl
  have r3:=BM.out.cell (j:=3) rfl
  have r4:=BM.out.cell (j:=4) rfl
  go_wp2_with fail
  clear r0 r1 r2 r3 r4
  refine (T1.out _ HB.out).mono ?_
  rintro e v4 ⟨vm,M1,rfl,hb,H1⟩
  replace HB:=hid (HB.out.trans (hb.mono HB.out.size));replace BM:=hid (BM.out.below hb)
  clear hb
  go_wp2_with fail
  refine (TX.out _ HB.out).mono ?_
  rintro e v5 ⟨z2,c2,X2,rfl,hb,_,H2⟩
  replace HB:=hid (HB.out.trans (hb.mono HB.out.size));replace BM:=hid (BM.out.below hb)
  have H3:=hid (And.intro H1.out.1 (H1.out.2.below hb))
  clear hb H1
  go_wp2_with fail
  refine (BR.out _ vm M1 z2 X2 c2 H3.out H2.out).mono ?_
  rintro e v6 ⟨rfl,hb⟩
  replace HB:=hid (HB.out.trans (hb.mono HB.out.size));replace BM:=hid (BM.out.below hb)
  clear hb H2 H3
  have r0:=BM.out.cell (j:=0) rfl
  have r1:=BM.out.cell (j:=1) rfl
  have r2:=BM.out.cell (j:=2) rfl
  have r3:=BM.out.cell (j:=3) rfl
  have r4:=BM.out.cell (j:=4) rfl
  go_wp2_with fail
  clear r0 r1 r2 r3 r4
  refine (T1.out _ HB.out).mono ?_
  rintro e v7 ⟨vm,M1,rfl,hb,H1⟩
  replace HB:=hid (HB.out.trans (hb.mono HB.out.size));replace BM:=hid (BM.out.below hb)
  clear hb
  go_wp2_with fail
  refine (TX.out _ HB.out).mono ?_
  rintro e v8 ⟨z2,c2,X2,rfl,hb,_,H2⟩
  replace HB:=hid (HB.out.trans (hb.mono HB.out.size));replace BM:=hid (BM.out.below hb)
  have H3:=hid (And.intro H1.out.1 (H1.out.2.below hb))
  clear hb H1
  go_wp2_with fail
  refine (FE.out _ vm M1 z2 X2 c2 H3.out H2.out).mono ?_
  rintro e v9 ⟨rfl,hb⟩
  replace HB:=hid (HB.out.trans (hb.mono HB.out.size));replace BM:=hid (BM.out.below hb)
  clear hb H2 H3
  have r0:=BM.out.cell (j:=0) rfl
  have r1:=BM.out.cell (j:=1) rfl
  have r2:=BM.out.cell (j:=2) rfl
  have r3:=BM.out.cell (j:=3) rfl
  have r4:=BM.out.cell (j:=4) rfl
  go_wp2_with fail
  clear r0 r1 r2 r3 r4
  refine (T1.out _ HB.out).mono ?_
  rintro e v10 ⟨vm,M1,rfl,hb,H1⟩
  replace HB:=hid (HB.out.trans (hb.mono HB.out.size));replace BM:=hid (BM.out.below hb)
  clear hb
  go_wp2_with fail
  refine (TX.out _ HB.out).mono ?_
  rintro e v11 ⟨z2,c2,X2,rfl,hb,_,H2⟩
  replace HB:=hid (HB.out.trans (hb.mono HB.out.size));replace BM:=hid (BM.out.below hb)
  have H3:=hid (And.intro H1.out.1 (H1.out.2.below hb))
  clear hb H1
  go_wp2_with fail
  refine (AC.out _ vm M1 z2 X2 c2 H3.out H2.out).mono ?_
  rintro e v12 ⟨rfl,hb⟩
  replace HB:=hid (HB.out.trans (hb.mono HB.out.size));replace BM:=hid (BM.out.below hb)
  clear hb H2 H3
  have z1:(er != er)=false:=by simp
  have z2:(er != 0)=true:=by simpa using h0
  clear BR FE AC T1 TX h0
  go_wp2
  go_ret
  exact ⟨by first | rfl | simp,HB.out⟩
 subst h0
 obtain ⟨c0,fx,kk⟩:=pckE_two her
 have hok:=(HC.out.i.val c0).2
 have hP:=hid (mvOk_p hok)
 obtain ⟨cs,hcs⟩:∃ e,csOf N=e:=⟨_,rfl⟩
 obtain ⟨rs,hrs⟩:∃ e,rsOf N=e:=⟨_,rfl⟩
 obtain ⟨ps,hps⟩:∃ e,psOf k X=e:=⟨_,rfl⟩
 have hkc:k=cs.length:=by rw [← hcs,csOf_len];exact kk
 have hpl:ps.length=k:=by rw [← hps];exact psOf_len _ _
 rw [hcs,hrs] at hP
 obtain ⟨lc,hlc⟩:∃ e,(crl (bcB cs ps) cs.length).length=e:=⟨_,rfl⟩
 obtain ⟨lr,hlr⟩:∃ e,(crl (brB rs ps) rs.length).length=e:=⟨_,rfl⟩
 obtain ⟨fo,hfo⟩:∃ e,feasB cs rs ps=e:=⟨_,rfl⟩
 have hcl:=hP.out.cl
 have hrl:=hP.out.rl
 have hlc2:lc ≤ 64:=by rw [← hlc];exact Nat.le_trans (crl_len _ _) hcl
 have hlr2:lr ≤ 64:=by rw [← hlr];exact Nat.le_trans (crl_len _ _) hrl
 have hz:((((lc:Nat):Int) + ((lr:Nat):Int)) == 0)=fo:=by
  rw [← hfo];unfold feasB;rw [hlc,hlr,Bool.eq_iff_iff]
  simp only [beq_iff_eq,Bool.and_eq_true,decide_eq_true_eq]
  omega
 have HZ:=hid hz
 have HLC:=hid hlc;have HLR:=hid hlr
 have HX:=hid (show Rf 8 w ao ps by rw [← hps];exact HC.out.hx.rfC fx HC.out.sx.2)
 have HPL:=hid (hpl.trans hkc)
 clear hz hpl
 have BR:Hid (∀ W vm M' a X' c,(vm=M'.val ∧ TmK 8 W N M') → Tx W a k X X' → Calls Tryz.prog 18 #[vm,.slice a k c] W fun e w'=>∃ xa xc ya yc,e=.returned (.tuple #[.slice xa lc xc,.slice ya lr yc,.int .i64 0]) ∧ Below W.heap.size W w' ∧ Hid (Il w' xa (crl (bcB cs ps) cs.length)) ∧ Hid (Il w' ya (crl (brB rs ps) rs.length))):=fun W vm M' a X' c h1 h2=>by
  have:=brokenTwK_c (cap:=c) h1.2 HC.out.i.n h2 HC.out.sx
  rw [her,← h1.1,hcs,hrs,hps] at this
  refine this.mono ?_
  rintro e w' ⟨hb,⟨h9,_⟩ | ⟨_,xa,xc,ya,yc,rfl,h3,h4⟩⟩
  ·exact absurd rfl h9
  ·exact ⟨xa,xc,ya,yc,by rw [hlc,hlr],hb,h3,h4⟩
 have FE:Hid (∀ W vm M' a X' c,(vm=M'.val ∧ TmK 8 W N M') → Tx W a k X X' → Calls Tryz.prog 16 #[vm,.slice a k c] W fun e w'=>e=.returned (.tuple #[.bool fo,.int .i64 0]) ∧ Below W.heap.size W w'):=fun W vm M' a X' c h1 h2=>by
  have:=feasTwK_c (cap:=c) h1.2 HC.out.i.n h2 HC.out.sx
  rw [her,← h1.1,hcs,hrs,hps,hfo,decide_eq_true rfl,Bool.true_and] at this;exact this
 have AC:Hid (∀ W vm M' a X' c,(vm=M'.val ∧ TmK 8 W N M') → Tx W a k X X' → Calls Tryz.prog 8 #[vm,.slice a k c] W fun e w'=>∃ a c,e=.returned (.tuple #[.slice a rs.length c,.int .i64 0]) ∧ Below W.heap.size W w' ∧ Hid (Rf (KA 8) w' a (rs.map (actQ ps)))):=fun W vm M' a X' c h1 h2=>by
  have:=actsTwK_c (cap:=c) h1.2 HC.out.i.n h2 HC.out.sx
  rw [her,← h1.1,hrs,hps] at this
  refine this.mono ?_
  rintro e w' ⟨hb,⟨h9,_⟩ | ⟨_,a,c,rfl,_,h3⟩⟩
  ·exact absurd rfl h9
  ·exact ⟨a,c,rfl,hb,h3⟩
 have CM:Hid (∀ W,Below w.heap.size w W → Calls Tryz.prog 21 #[.agg #[.bool s,.slice x n c,.slice y m d,.slice ca ck cc,.slice ra rk rc]] W fun e w'=>∃ M':Mo,e=.returned M'.val ∧ Below W.heap.size W w' ∧ Hid (MqV (2 * 8) w' M' (nq N.off) cs rs)):=fun W hW=>by
  have:=from8_c (HC.out.i.below hW) c0
  rw [hNv.out,hcs,hrs] at this;exact this
 obtain ⟨of,hof⟩:∃ e,nq N.off=e:=⟨_,rfl⟩
 rw [hof] at CM
 clear HC hNv her c0 fx kk hok hcs hrs hps hlc hlr hfo hof
 subst hkc
 have r0:=BM.out.cell (j:=0) rfl
 have r1:=BM.out.cell (j:=1) rfl
 have r2:=BM.out.cell (j:=2) rfl
 have r3:=BM.out.cell (j:=3) rfl
 have r4:=BM.out.cell (j:=4) rfl
 go_wp2_with fail
 clear r0 r1 r2 r3 r4
 refine (T1.out _ HB.out).mono ?_
 rintro e v4 ⟨vm,M1,rfl,hb,H1⟩
 replace HB:=hid (HB.out.trans (hb.mono HB.out.size));replace BM:=hid (BM.out.below hb)
 clear hb
 go_wp2_with fail
 refine (TX.out _ HB.out).mono ?_
 rintro e v5 ⟨z2,c2,X2,rfl,hb,_,H2⟩
 replace HB:=hid (HB.out.trans (hb.mono HB.out.size));replace BM:=hid (BM.out.below hb)
 have H3:=hid (And.intro H1.out.1 (H1.out.2.below hb))
 clear hb H1
 go_wp2_with fail
 refine (BR.out _ vm M1 z2 X2 c2 H3.out H2.out).mono ?_
 rintro e v6 ⟨xa,xc,ya,yc,rfl,hb,IA,IB⟩
 replace HB:=hid (HB.out.trans (hb.mono HB.out.size));replace BM:=hid (BM.out.below hb)
 clear hb H2 H3
 have r0:=BM.out.cell (j:=0) rfl
 have r1:=BM.out.cell (j:=1) rfl
 have r2:=BM.out.cell (j:=2) rfl
 have r3:=BM.out.cell (j:=3) rfl
 have r4:=BM.out.cell (j:=4) rfl
 go_wp2_with fail
 clear r0 r1 r2 r3 r4
 refine (T1.out _ HB.out).mono ?_
 rintro e v7 ⟨vm,M1,rfl,hb,H1⟩
 replace HB:=hid (HB.out.trans (hb.mono HB.out.size));replace BM:=hid (BM.out.below hb);replace IA:=hid (IA.out.below hb);replace IB:=hid (IB.out.below hb)
 clear hb
 go_wp2_with fail
 refine (TX.out _ HB.out).mono ?_
 rintro e v8 ⟨z2,c2,X2,rfl,hb,_,H2⟩
 replace HB:=hid (HB.out.trans (hb.mono HB.out.size));replace BM:=hid (BM.out.below hb);replace IA:=hid (IA.out.below hb);replace IB:=hid (IB.out.below hb)
 have H3:=hid (And.intro H1.out.1 (H1.out.2.below hb))
 clear hb H1
 go_wp2_with fail
 refine (FE.out _ vm M1 z2 X2 c2 H3.out H2.out).mono ?_
 rintro e v9 ⟨rfl,hb⟩
 replace HB:=hid (HB.out.trans (hb.mono HB.out.size));replace BM:=hid (BM.out.below hb);replace IA:=hid (IA.out.below hb);replace IB:=hid (IB.out.below hb)
 clear hb H2 H3
 have r0:=BM.out.cell (j:=0) rfl
 have r1:=BM.out.cell (j:=1) rfl
 have r2:=BM.out.cell (j:=2) rfl
 have r3:=BM.out.cell (j:=3) rfl
 have r4:=BM.out.cell (j:=4) rfl
 go_wp2_with fail
 clear r0 r1 r2 r3 r4
 refine (T1.out _ HB.out).mono ?_
 rintro e v10 ⟨vm,M1,rfl,hb,H1⟩
 replace HB:=hid (HB.out.trans (hb.mono HB.out.size));replace BM:=hid (BM.out.below hb);replace IA:=hid (IA.out.below hb);replace IB:=hid (IB.out.below hb)
 clear hb
 go_wp2_with fail
 refine (TX.out _ HB.out).mono ?_
 rintro e v11 ⟨z2,c2,X2,rfl,hb,_,H2⟩
 replace HB:=hid (HB.out.trans (hb.mono HB.out.size));replace BM:=hid (BM.out.below hb);replace IA:=hid (IA.out.below hb);replace IB:=hid (IB.out.below hb)
 have H3:=hid (And.intro H1.out.1 (H1.out.2.below hb))
 clear hb H1
 go_wp2_with fail
 refine (AC.out _ vm M1 z2 X2 c2 H3.out H2.out).mono ?_
 rintro e v12 ⟨sa,sc,rfl,hb,SA⟩
 replace HB:=hid (HB.out.trans (hb.mono HB.out.size));replace BM:=hid (BM.out.below hb);replace IA:=hid (IA.out.below hb);replace IB:=hid (IB.out.below hb)
 clear hb H2 H3
 clear BR FE AC T1 TX
 have r0:=BM.out.cell (j:=0) rfl
 have r1:=BM.out.cell (j:=1) rfl
 have r2:=BM.out.cell (j:=2) rfl
 have r3:=BM.out.cell (j:=3) rfl
 have r4:=BM.out.cell (j:=4) rfl
 go_wp2_with fail
 clear r0 r1 r2 r3 r4
 refine (CM.out _ HB.out).mono ?_
 rintro e v13 ⟨⟨⟨sq,xq,nq9,cq,fq,yq,mq,dq,gq⟩,cb,kc,ec,D,rb,kr,er9,Q⟩,hr,hb,HM⟩
 replace hr:e=.returned (.agg #[.bool sq,.slice xq nq9 cq,.slice yq mq dq,.slice cb kc ec,.slice rb kr er9]):=hr
 subst hr
 replace HB:=hid (HB.out.trans (hb.mono HB.out.size));replace BM:=hid (BM.out.below hb);replace IA:=hid (IA.out.below hb);replace IB:=hid (IB.out.below hb);replace SA:=hid (SA.out.below hb)
 have hkc2:kc=cs.length:=HM.out.ck
 have hkr2:kr=rs.length:=HM.out.rk
 subst hkc2
 subst hkr2
 clear hb CM
 have hbn:=below_alloc (Below.refl v13.heap.size v13) (.cells #[.bool sq,.slice xq nq9 cq,.slice yq mq dq,.slice cb cs.length ec,.slice rb rs.length er9] 64)
 have BQ:Hid (Bk (v13.alloc (.cells #[.bool sq,.slice xq nq9 cq,.slice yq mq dq,.slice cb cs.length ec,.slice rb rs.length er9] 64)) v13.heap.size [.bool sq,.slice xq nq9 cq,.slice yq mq dq,.slice cb cs.length ec,.slice rb rs.length er9] 64):=bk_new v13 [.bool sq,.slice xq nq9 cq,.slice yq mq dq,.slice cb cs.length ec,.slice rb rs.length er9] 64
 replace HM:=hid (HM.out.below hbn)
 replace HB:=hid (HB.out.trans (hbn.mono HB.out.size));replace BM:=hid (BM.out.below hbn);replace IA:=hid (IA.out.below hbn);replace IB:=hid (IB.out.below hbn);replace SA:=hid (SA.out.below hbn)
 clear hbn
 have q3:=BQ.out.cell (j:=3) rfl
 have q4:=BQ.out.cell (j:=4) rfl
 have z1:(fo != fo)=false:=by simp
 have z2:((((rs.length:Nat):Int)) != ((rs.length:Nat):Int))=false:=by simp
 have hz:=HZ.out
 go_wp2_with fail
 clear q3 q4 z1 z2 hz
 generalize v13.alloc (.cells #[.bool sq,.slice xq nq9 cq,.slice yq mq dq,.slice cb cs.length ec,.slice rb rs.length er9] 64)=w0 at *
 have HC2:Hid (∀ j v,cs[j]?=some v → (∃ b o,cb=some ⟨b,o,none⟩ ∧ Cs w0 b (o + j * 12) (D j).vs) ∧ QcV (2 * 8) w0 (D j) v):=HM.out.cls
 have HR2:Hid (∀ j v,rs[j]?=some v → (∃ b o,rb=some ⟨b,o,none⟩ ∧ Cs w0 b (o + j * 10) (Q j).vs) ∧ QrV (2 * 8) w0 (Q j) v):=HM.out.rls
 replace HX:=hid (HX.out.below HB.out)
 clear HM
 go_loopw [96] (fun t wr=>∃ (i:Nat),i ≤ cs.length ∧ t=.int .i64 i ∧ Hid (Below w0.heap.size w0 wr)) (fun t _=>cs.length - (intOf t).toNat)
 case atStart=>exact ⟨0,by omega,rfl,Below.refl _ _⟩
 case round =>
  obtain ⟨i,hi,rfl,HBr⟩:=hrel
  by_cases hlt:i < cs.length
  ·obtain ⟨v,hv⟩:∃ v,cs[i]?=some v:=⟨_,List.getElem?_eq_getElem hlt⟩
   obtain ⟨q,hq⟩:∃ t,ps[i]?=some t:=⟨_,List.getElem?_eq_getElem (by rw [HPL.out];exact hlt)⟩
   obtain ⟨⟨b,o,hca,hc0⟩,hn⟩:=HC2.out i v hv
   subst hca
   have hc:=hc0.below HBr.out
   replace hn:=hn.below HBr.out
   obtain ⟨b',o',⟨s3,x3,n3,c3,f3,y3,m3,d3,g3⟩,hax,hcx,hqx⟩:=(HX.out.below HBr.out) i q hq
   subst hax
   have hbd:=hP.out.cb v (List.mem_of_getElem? hv)
   obtain ⟨t1,ht1⟩:∃ t,kpsB q v.li v.lq v.hi v.hq=t:=⟨_,rfl⟩
   have CF:Hid (∀ W,Below wr.heap.size wr W → Calls Tryz.prog 23 #[.agg #[.bool s3,.slice x3 n3 c3,.slice y3 m3 d3]] W fun e w2=>QAns (2 * 8) W w2 e q):=fun W hW=>qFrom_c (Rn.below hqx hW) (by decide)
   have CA:Hid (∀ (t:Nm) W,Below wr.heap.size wr W → QnT 3000 W t q → Calls Tryz.prog 22 #[(D i).lo.val,(D i).hi.val,t.val] W fun e w2=>e=.returned (.bool t1) ∧ Below W.heap.size W w2):=fun t W hW ht=>by
    have:=rKeeps_c (K:=3000) (w:=W) (qnt_up (hn.lq.below hW) (by decide)) hn.li (qnt_up (hn.hq.below hW) (by decide)) hn.hi ht (by decide) hbd
    rw [ht1] at this;exact this
   have CH:Hid (∀ W,Below wr.heap.size wr W → Calls Tryz.prog 24 #[.slice xa lc xc,.int .i64 i] W fun e w2=>e=.returned (.bool (!t1)) ∧ Below W.heap.size W w2):=fun W hW=>by
    have:=has10_c (cap:=xc) (z:=(i:Int)) ((IA.out.below HBr.out).below hW) (by have:=HLC.out;omega)
    rw [HLC.out,hsB_crl hlt] at this
    rw [show bcB cs ps i=!t1 from by simp only [bcB,hv,hq,ht1]] at this;exact this
   obtain ⟨⟨z,⟨s0,x0,n0,c0,f0,y0,m0,d0,g0⟩,⟨i1,⟨s1,x1,n1,c1,f1,y1,m1,d1,g1⟩⟩,⟨i2,⟨s2,x2,n2,c2,f2,y2,m2,d2,g2⟩⟩⟩,hCi⟩:∃ t,D i=t:=⟨_,rfl⟩
   rw [hCi] at hc CA
   replace CA:Hid (∀ (t:Nm) W,Below wr.heap.size wr W → QnT 3000 W t q → Calls Tryz.prog 22 #[.agg #[.int .i64 i1,.bool s1,.slice x1 n1 c1,.slice y1 m1 d1],.agg #[.int .i64 i2,.bool s2,.slice x2 n2 c2,.slice y2 m2 d2],t.val] W fun e w2=>e=.returned (.bool t1) ∧ Below W.heap.size W w2):=CA
   have q0:wr.cell? ⟨b,o + i * 12,none⟩=some (.string z):=hc 0 _ rfl
   have q1:wr.cell? ⟨b,o + i * 12 + 1,none⟩=some (.bool s0):=hc 1 _ rfl
   have q2:wr.cell? ⟨b,o + i * 12 + 2,none⟩=some (.slice x0 n0 c0):=hc 2 _ rfl
   have q3:wr.cell? ⟨b,o + i * 12 + 3,none⟩=some (.slice y0 m0 d0):=hc 3 _ rfl
   have q4:wr.cell? ⟨b,o + i * 12 + 4,none⟩=some (.int .i64 i1):=hc 4 _ rfl
   have q5:wr.cell? ⟨b,o + i * 12 + 5,none⟩=some (.bool s1):=hc 5 _ rfl
   have q6:wr.cell? ⟨b,o + i * 12 + 6,none⟩=some (.slice x1 n1 c1):=hc 6 _ rfl
   have q7:wr.cell? ⟨b,o + i * 12 + 7,none⟩=some (.slice y1 m1 d1):=hc 7 _ rfl
   have q8:wr.cell? ⟨b,o + i * 12 + 8,none⟩=some (.int .i64 i2):=hc 8 _ rfl
   have q9:wr.cell? ⟨b,o + i * 12 + 9,none⟩=some (.bool s2):=hc 9 _ rfl
   have q10:wr.cell? ⟨b,o + i * 12 + 10,none⟩=some (.slice x2 n2 c2):=hc 10 _ rfl
   have q11:wr.cell? ⟨b,o + i * 12 + 11,none⟩=some (.slice y2 m2 d2):=hc 11 _ rfl
   obtain ⟨p0,p1,p2⟩:=hcx
   replace p0:wr.cell? ⟨b',o' + i * 3,none⟩=some (.bool s3):=p0
   replace p1:wr.cell? ⟨b',o' + i * 3 + 1,none⟩=some (.slice x3 n3 c3):=p1
   replace p2:wr.cell? ⟨b',o' + i * 3 + 2,none⟩=some (.slice y3 m3 d3):=p2
   have hbt:=below_alloc (Below.refl wr.heap.size wr) (.cells #[.string z,.bool s0,.slice x0 n0 c0,.slice y0 m0 d0,.int .i64 i1,.bool s1,.slice x1 n1 c1,.slice y1 m1 d1,.int .i64 i2,.bool s2,.slice x2 n2 c2,.slice y2 m2 d2] 69)
   have BC:Bk (wr.alloc (.cells #[.string z,.bool s0,.slice x0 n0 c0,.slice y0 m0 d0,.int .i64 i1,.bool s1,.slice x1 n1 c1,.slice y1 m1 d1,.int .i64 i2,.bool s2,.slice x2 n2 c2,.slice y2 m2 d2] 69)) wr.heap.size [.string z,.bool s0,.slice x0 n0 c0,.slice y0 m0 d0,.int .i64 i1,.bool s1,.slice x1 n1 c1,.slice y1 m1 d1,.int .i64 i2,.bool s2,.slice x2 n2 c2,.slice y2 m2 d2] 69:=bk_new wr [.string z,.bool s0,.slice x0 n0 c0,.slice y0 m0 d0,.int .i64 i1,.bool s1,.slice x1 n1 c1,.slice y1 m1 d1,.int .i64 i2,.bool s2,.slice x2 n2 c2,.slice y2 m2 d2] 69
   have i1':((i:Nat):Int) < ((cs.length:Nat):Int):=by omega
   clear hCi hc hc0 hn ht1 hv hq hqx hbd
   go_upto_region 18 with fail
   clear q0 q1 q2 q3 q4 q5 q6 q7 q8 q9 q10 q11
   replace p0:=kCb hbt p0;replace p1:=kCb hbt p1;replace p2:=kCb hbt p2
   have a4:=BC.cell (j:=4) rfl
   have a5:=BC.cell (j:=5) rfl
   have a6:=BC.cell (j:=6) rfl
   have a7:=BC.cell (j:=7) rfl
   have a8:=BC.cell (j:=8) rfl
   have a9:=BC.cell (j:=9) rfl
   have a10:=BC.cell (j:=10) rfl
   have a11:=BC.cell (j:=11) rfl
   replace CA:=hid (fun (t:Nm) W (hW:Below (wr.alloc (.cells #[.string z,.bool s0,.slice x0 n0 c0,.slice y0 m0 d0,.int .i64 i1,.bool s1,.slice x1 n1 c1,.slice y1 m1 d1,.int .i64 i2,.bool s2,.slice x2 n2 c2,.slice y2 m2 d2] 69)).heap.size (wr.alloc (.cells #[.string z,.bool s0,.slice x0 n0 c0,.slice y0 m0 d0,.int .i64 i1,.bool s1,.slice x1 n1 c1,.slice y1 m1 d1,.int .i64 i2,.bool s2,.slice x2 n2 c2,.slice y2 m2 d2] 69)) W)=>CA.out t W (hbt.trans (hW.mono hbt.size)))
   replace CF:=hid (fun W (hW:Below (wr.alloc (.cells #[.string z,.bool s0,.slice x0 n0 c0,.slice y0 m0 d0,.int .i64 i1,.bool s1,.slice x1 n1 c1,.slice y1 m1 d1,.int .i64 i2,.bool s2,.slice x2 n2 c2,.slice y2 m2 d2] 69)).heap.size (wr.alloc (.cells #[.string z,.bool s0,.slice x0 n0 c0,.slice y0 m0 d0,.int .i64 i1,.bool s1,.slice x1 n1 c1,.slice y1 m1 d1,.int .i64 i2,.bool s2,.slice x2 n2 c2,.slice y2 m2 d2] 69)) W)=>CF.out W (hbt.trans (hW.mono hbt.size)))
   replace CH:=hid (fun W (hW:Below (wr.alloc (.cells #[.string z,.bool s0,.slice x0 n0 c0,.slice y0 m0 d0,.int .i64 i1,.bool s1,.slice x1 n1 c1,.slice y1 m1 d1,.int .i64 i2,.bool s2,.slice x2 n2 c2,.slice y2 m2 d2] 69)).heap.size (wr.alloc (.cells #[.string z,.bool s0,.slice x0 n0 c0,.slice y0 m0 d0,.int .i64 i1,.bool s1,.slice x1 n1 c1,.slice y1 m1 d1,.int .i64 i2,.bool s2,.slice x2 n2 c2,.slice y2 m2 d2] 69)) W)=>CH.out W (hbt.trans (hW.mono hbt.size)))
   replace HBr:=hid (HBr.out.trans (hbt.mono HBr.out.size))
   clear hbt BC
   generalize hbx:wr.heap.size=bx at *
   generalize wr.alloc (.cells #[.string z,.bool s0,.slice x0 n0 c0,.slice y0 m0 d0,.int .i64 i1,.bool s1,.slice x1 n1 c1,.slice y1 m1 d1,.int .i64 i2,.bool s2,.slice x2 n2 c2,.slice y2 m2 d2] 69)=w5 at *
   clear hbx
   refine wp_region_held_drew (S:=(fun w'=>w'.cell? ⟨bx,4,none⟩=some (.int .i64 i1) ∧ w'.cell? ⟨bx,5,none⟩=some (.bool s1) ∧ w'.cell? ⟨bx,6,none⟩=some (.slice x1 n1 c1) ∧ w'.cell? ⟨bx,7,none⟩=some (.slice y1 m1 d1) ∧ w'.cell? ⟨bx,8,none⟩=some (.int .i64 i2) ∧ w'.cell? ⟨bx,9,none⟩=some (.bool s2) ∧ w'.cell? ⟨bx,10,none⟩=some (.slice x2 n2 c2) ∧ w'.cell? ⟨bx,11,none⟩=some (.slice y2 m2 d2) ∧ w'.cell? ⟨b',o' + i * 3,none⟩=some (.bool s3) ∧ w'.cell? ⟨b',o' + i * 3 + 1,none⟩=some (.slice x3 n3 c3) ∧ w'.cell? ⟨b',o' + i * 3 + 2,none⟩=some (.slice y3 m3 d3))) (by kernel_rfl) ?_ (fun hHeld=>?_)
   ·(refine ⟨?_,?_,?_,?_,?_,?_,?_,?_,?_,?_,?_⟩ <;> repeat (with_reducible first | assumption | refine kCd ?_))
   refine wpAnyH_take (i:=0) (v:=?_) rfl (by kernel_rfl) (by kernel_rfl) (by kernel_rfl) (fun _ _ _ h=>h) (Or.inl ⟨by rfl,?_⟩) (by assumption) ?_
   rotate_left
   (focus (intro w0 hSw;(try dsimp only at hSw);go_simp <;> with_reducible rfl))
   simp only [List.getElem_toArray,List.getElem_cons_zero,Act.put,List.setIfInBounds_toArray,List.set_cons_zero,List.set_cons_succ]
   refine wpAnyH_take (i:=1) (v:=?_) rfl (by kernel_rfl) (by kernel_rfl) (by kernel_rfl) (fun _ _ _ h=>h) (Or.inl ⟨by rfl,?_⟩) (by assumption) ?_
   rotate_left
   (focus (intro w0 hSw;(try dsimp only at hSw);go_simp <;> with_reducible rfl))
   simp only [List.getElem_toArray,List.getElem_cons_succ,List.getElem_cons_zero,Act.put,List.setIfInBounds_toArray,List.set_cons_zero,List.set_cons_succ]
   refine wpAnyH_take (i:=2) (v:=?_) rfl (by kernel_rfl) (by kernel_rfl) (by kernel_rfl) (fun _ _ _ h=>h) (Or.inl ⟨by rfl,?_⟩) (by assumption) ?_
   rotate_left
   (focus (intro w0 hSw;(try dsimp only at hSw);go_simp <;> with_reducible rfl))
   simp only [List.getElem_toArray,List.getElem_cons_succ,List.getElem_cons_zero,Act.put,List.setIfInBounds_toArray,List.set_cons_zero,List.set_cons_succ]
   refine wpAnyH_take (i:=3) (v:=?_) rfl (by kernel_rfl) (by kernel_rfl) (by kernel_rfl) (fun _ _ _ h=>h) (Or.inl ⟨by rfl,?_⟩) (by assumption) ?_
   rotate_left
   (focus (intro w0 hSw;(try dsimp only at hSw);go_simp <;> with_reducible rfl))
   simp only [List.getElem_toArray,List.getElem_cons_succ,List.getElem_cons_zero,Act.put,List.setIfInBounds_toArray,List.set_cons_zero,List.set_cons_succ]
   refine wpAnyH_take (i:=4) (v:=?_) rfl (by kernel_rfl) (by kernel_rfl) (by kernel_rfl) (fun _ _ _ h=>h) (Or.inl ⟨by rfl,?_⟩) (by assumption) ?_
   rotate_left
   (focus (intro w0 hSw;(try dsimp only at hSw);go_simp <;> with_reducible rfl))
   simp only [List.getElem_toArray,List.getElem_cons_succ,List.getElem_cons_zero,Act.put,List.setIfInBounds_toArray,List.set_cons_zero,List.set_cons_succ]
   refine wpAnyH_take (i:=5) (v:=?_) rfl (by kernel_rfl) (by kernel_rfl) (by kernel_rfl) (fun _ _ _ h=>h) (Or.inl ⟨by rfl,?_⟩) (by assumption) ?_
   rotate_left
   (focus (intro w0 hSw;(try dsimp only at hSw);go_simp <;> with_reducible rfl))
   simp only [List.getElem_toArray,List.getElem_cons_succ,List.getElem_cons_zero,Act.put,List.setIfInBounds_toArray,List.set_cons_zero,List.set_cons_succ]
   refine wpAnyH_take (i:=6) (v:=?_) rfl (by kernel_rfl) (by kernel_rfl) (by kernel_rfl) (fun _ _ _ h=>h) (Or.inl ⟨by rfl,?_⟩) (by assumption) ?_
   rotate_left
   (focus (intro w0 hSw;(try dsimp only at hSw);go_simp <;> with_reducible rfl))
   simp only [List.getElem_toArray,List.getElem_cons_succ,List.getElem_cons_zero,Act.put,List.setIfInBounds_toArray,List.set_cons_zero,List.set_cons_succ]
   refine wpAnyH_take (i:=7) (v:=?_) rfl (by kernel_rfl) (by kernel_rfl) (by kernel_rfl) (fun _ _ _ h=>h) (Or.inl ⟨by rfl,?_⟩) (by assumption) ?_
   rotate_left
   (focus (intro w0 hSw;(try dsimp only at hSw);go_simp <;> with_reducible rfl))
   simp only [List.getElem_toArray,List.getElem_cons_succ,List.getElem_cons_zero,Act.put,List.setIfInBounds_toArray,List.set_cons_zero,List.set_cons_succ]
   refine wpAnyH_take (i:=10) (v:=?_) rfl (by kernel_rfl) (by kernel_rfl) (by kernel_rfl) (fun _ _ _ h=>h) (Or.inl ⟨by rfl,?_⟩) (by assumption) ?_
   rotate_left
   (focus (intro w0 hSw;(try dsimp only at hSw);go_simp <;> with_reducible rfl))
   simp only [List.getElem_toArray,List.getElem_cons_succ,List.getElem_cons_zero,Act.put,List.setIfInBounds_toArray,List.set_cons_zero,List.set_cons_succ]
   refine wpAnyH_take (i:=11) (v:=?_) rfl (by kernel_rfl) (by kernel_rfl) (by kernel_rfl) (fun _ _ _ h=>h) (Or.inl ⟨by rfl,?_⟩) (by assumption) ?_
   rotate_left
   (focus (intro w0 hSw;(try dsimp only at hSw);go_simp <;> with_reducible rfl))
   simp only [List.getElem_toArray,List.getElem_cons_succ,List.getElem_cons_zero,Act.put,List.setIfInBounds_toArray,List.set_cons_zero,List.set_cons_succ]
   refine wpAnyH_ready (rs:=[8]) (by kernel_rfl) (by simp) ?_
   refine AllReadyH.cons (o:=_) rfl (fun K hK=>?_) ?_
   rotate_left
   exact AllReadyH.nil
   go_simp
   go_at_call 23
   refine (CF.out _ (by repeat (with_reducible first | assumption | exact Below.refl _ _ | refine Below.drew ?_ | refine kBb (by assumption) ?_))).mono ?_
   rintro e w6 ⟨s4,x4,n4,c4,f4,y4,m4,d4,g4,rfl,hb6,hq1,hq2,hq⟩
   (try go_wp2_with fail)
   refine hK.out _ _ ?_ (fun hH6=>?_)
   ·((try dsimp only);(refine ⟨?_,?_,?_,?_,?_,?_,?_,?_,?_,?_,?_⟩ <;> repeat (with_reducible first | assumption | refine kCb (by assumption) ?_ | refine kCd ?_)))
   clear hK K
   try simp only [Act.put,List.setIfInBounds_toArray,List.set_cons_zero,List.set_cons_succ]
   refine wpAnyH_ready (rs:=[9]) (by kernel_rfl) (by simp) ?_
   refine AllReadyH.cons (o:=_) rfl (fun K hK=>?_) ?_
   rotate_left
   exact AllReadyH.nil
   go_simp
   go_at_call 22
   refine (CA.out ⟨s4,x4,n4,c4,f4,y4,m4,d4,g4⟩ w6 (by repeat (with_reducible first | assumption | exact Below.refl _ _ | refine Below.drew ?_ | refine kBb (by assumption) ?_)) ⟨Nat.le_trans hq1 (by decide),Nat.le_trans hq2 (by decide),hq⟩).mono ?_
   rintro e w7 ⟨rfl,hb7⟩
   (try go_wp2_with fail)
   refine hK.out _ _ ?_ (fun hH7=>?_)
   ·((try dsimp only);(refine ⟨?_,?_,?_,?_,?_,?_,?_,?_,?_,?_,?_⟩ <;> repeat (with_reducible first | assumption | refine kCb (by assumption) ?_ | refine kCd ?_)))
   clear hK K
   try simp only [Act.put,List.setIfInBounds_toArray,List.set_cons_zero,List.set_cons_succ]
   refine wpAnyH_ready (rs:=[12]) (by kernel_rfl) (by simp) ?_
   refine AllReadyH.cons (o:=_) rfl (fun K hK=>?_) ?_
   rotate_left
   exact AllReadyH.nil
   go_simp
   go_at_call 24
   refine (CH.out _ (by repeat (with_reducible first | assumption | exact Below.refl _ _ | refine Below.drew ?_ | refine kBb (by assumption) ?_))).mono ?_
   rintro e w8 ⟨rfl,hb8⟩
   (try go_wp2_with fail)
   refine hK.out _ _ ?_ (fun hH8=>?_)
   ·((try dsimp only);(refine ⟨?_,?_,?_,?_,?_,?_,?_,?_,?_,?_,?_⟩ <;> repeat (with_reducible first | assumption | refine kCb (by assumption) ?_ | refine kCd ?_)))
   clear hK K
   try simp only [Act.put,List.setIfInBounds_toArray,List.set_cons_zero,List.set_cons_succ]
   refine wpAnyH_take (i:=13) (v:=?_) rfl (by kernel_rfl) (by kernel_rfl) (by kernel_rfl) (fun _ _ _ h=>h) (Or.inl ⟨by rfl,?_⟩) (by assumption) ?_
   rotate_left
   (focus (intro w0 hSw;(try dsimp only at hSw);go_simp <;> with_reducible rfl))
   simp only [List.getElem_toArray,List.getElem_cons_succ,List.getElem_cons_zero,Act.put,List.setIfInBounds_toArray,List.set_cons_zero,List.set_cons_succ]
   refine wpAnyH_done (by kernel_rfl) ?_ _
   have hb:Below w5.heap.size w5 w8:=(by repeat (with_reducible first | assumption | exact Below.refl _ _ | refine Below.drew ?_ | refine kBb (by assumption) ?_))
   replace HBr:=hid (HBr.out.trans (hb.mono HBr.out.size))
   clear hb hHeld hH6 hH7 hH8 hb6 hb7 hb8 hq1 hq2 hq CA CF CH p0 p1 p2 a4 a5 a6 a7 a8 a9 a10 a11
   have zz:(t1 == !t1)=false:=by cases t1 <;> rfl
   go_wp2
   go_roundw
   case rel=>exact ⟨i + 1,by omega,by go_num,HBr.out⟩
   case measure=>simp [intOf];omega
  ·have e1:i=cs.length:=by omega
   have i4':¬ (((i:Nat):Int) < ((cs.length:Nat):Int)):=by omega
   have r4:=(BQ.out.below HBr.out).cell (j:=4) rfl
   have HW:=hid HBr.out
   clear e1 HBr
   go_wp2_with fail
   clear r4 i4' hi
   generalize wr=w1 at *
   go_loopw [119] (fun t wr=>∃ (i:Nat),i ≤ rs.length ∧ t=.int .i64 i ∧ Hid (Below w1.heap.size w1 wr)) (fun t _=>rs.length - (intOf t).toNat)
   case atStart=>exact ⟨0,by omega,rfl,Below.refl _ _⟩
   case round =>
    obtain ⟨i,hi,rfl,HBr⟩:=hrel
    by_cases hlt:i < rs.length
    ·have hbw:=HW.out.trans (HBr.out.mono HW.out.size)
     obtain ⟨v,hv⟩:∃ v,rs[i]?=some v:=⟨_,List.getElem?_eq_getElem hlt⟩
     obtain ⟨q,hq⟩:∃ t,(rs.map (actQ ps))[i]?=some t:=⟨_,List.getElem?_eq_getElem (by rw [List.length_map];exact hlt)⟩
     obtain ⟨⟨b,o,hca,hc0⟩,hn⟩:=HR2.out i v hv
     subst hca
     have hc:=hc0.below hbw
     replace hn:=hn.below hbw
     obtain ⟨b',o',⟨s3,x3,n3,c3,f3,y3,m3,d3,g3⟩,hax,hcx,hqx⟩:=(SA.out.below hbw) i q hq
     subst hax
     have hbd:=hP.out.rb v (List.mem_of_getElem? hv)
     obtain ⟨t1,ht1⟩:∃ t,kpsB q v.li v.lq v.hi v.hq=t:=⟨_,rfl⟩
     have CF:Hid (∀ W,Below wr.heap.size wr W → Calls Tryz.prog 23 #[.agg #[.bool s3,.slice x3 n3 c3,.slice y3 m3 d3]] W fun e w2=>QAns (2 * KA 8) W w2 e q):=fun W hW=>qFrom_c (Rn.below hqx hW) (by decide)
     have CA:Hid (∀ (t:Nm) W,Below wr.heap.size wr W → QnT 3000 W t q → Calls Tryz.prog 22 #[(Q i).lo.val,(Q i).hi.val,t.val] W fun e w2=>e=.returned (.bool t1) ∧ Below W.heap.size W w2):=fun t W hW ht=>by
      have:=rKeeps_c (K:=3000) (w:=W) (qnt_up (hn.lq.below hW) (by decide)) hn.li (qnt_up (hn.hq.below hW) (by decide)) hn.hi ht (by decide) hbd
      rw [ht1] at this;exact this
     have CH:Hid (∀ W,Below wr.heap.size wr W → Calls Tryz.prog 24 #[.slice ya lr yc,.int .i64 i] W fun e w2=>e=.returned (.bool (!t1)) ∧ Below W.heap.size W w2):=fun W hW=>by
      have:=has10_c (cap:=yc) (z:=(i:Int)) ((IB.out.below hbw).below hW) (by have:=HLR.out;omega)
      rw [HLR.out,hsB_crl hlt] at this
      rw [show brB rs ps i=!t1 from by rw [List.getElem?_map,hv] at hq;simp only [Option.map_some,Option.some.injEq] at hq;simp only [brB,hv,hq,ht1]] at this;exact this
     obtain ⟨⟨z,⟨i1,⟨s1,x1,n1,c1,f1,y1,m1,d1,g1⟩⟩,⟨i2,⟨s2,x2,n2,c2,f2,y2,m2,d2,g2⟩⟩,ta,tk,tc,tcol,tt⟩,hCi⟩:∃ t,Q i=t:=⟨_,rfl⟩
     rw [hCi] at hc CA
     replace CA:Hid (∀ (t:Nm) W,Below wr.heap.size wr W → QnT 3000 W t q → Calls Tryz.prog 22 #[.agg #[.int .i64 i1,.bool s1,.slice x1 n1 c1,.slice y1 m1 d1],.agg #[.int .i64 i2,.bool s2,.slice x2 n2 c2,.slice y2 m2 d2],t.val] W fun e w2=>e=.returned (.bool t1) ∧ Below W.heap.size W w2):=CA
     have q0:wr.cell? ⟨b,o + i * 10,none⟩=some (.string z):=hc 0 _ rfl
     have q1:wr.cell? ⟨b,o + i * 10 + 1,none⟩=some (.int .i64 i1):=hc 1 _ rfl
     have q2:wr.cell? ⟨b,o + i * 10 + 2,none⟩=some (.bool s1):=hc 2 _ rfl
     have q3:wr.cell? ⟨b,o + i * 10 + 3,none⟩=some (.slice x1 n1 c1):=hc 3 _ rfl
     have q4:wr.cell? ⟨b,o + i * 10 + 4,none⟩=some (.slice y1 m1 d1):=hc 4 _ rfl
     have q5:wr.cell? ⟨b,o + i * 10 + 5,none⟩=some (.int .i64 i2):=hc 5 _ rfl
     have q6:wr.cell? ⟨b,o + i * 10 + 6,none⟩=some (.bool s2):=hc 6 _ rfl
     have q7:wr.cell? ⟨b,o + i * 10 + 7,none⟩=some (.slice x2 n2 c2):=hc 7 _ rfl
     have q8:wr.cell? ⟨b,o + i * 10 + 8,none⟩=some (.slice y2 m2 d2):=hc 8 _ rfl
     have q9:wr.cell? ⟨b,o + i * 10 + 9,none⟩=some (.slice ta tk tc):=hc 9 _ rfl
     obtain ⟨p0,p1,p2⟩:=hcx
     replace p0:wr.cell? ⟨b',o' + i * 3,none⟩=some (.bool s3):=p0
     replace p1:wr.cell? ⟨b',o' + i * 3 + 1,none⟩=some (.slice x3 n3 c3):=p1
     replace p2:wr.cell? ⟨b',o' + i * 3 + 2,none⟩=some (.slice y3 m3 d3):=p2
     have hbt:=below_alloc (Below.refl wr.heap.size wr) (.cells #[.string z,.int .i64 i1,.bool s1,.slice x1 n1 c1,.slice y1 m1 d1,.int .i64 i2,.bool s2,.slice x2 n2 c2,.slice y2 m2 d2,.slice ta tk tc] 75)
     have BC:Bk (wr.alloc (.cells #[.string z,.int .i64 i1,.bool s1,.slice x1 n1 c1,.slice y1 m1 d1,.int .i64 i2,.bool s2,.slice x2 n2 c2,.slice y2 m2 d2,.slice ta tk tc] 75)) wr.heap.size [.string z,.int .i64 i1,.bool s1,.slice x1 n1 c1,.slice y1 m1 d1,.int .i64 i2,.bool s2,.slice x2 n2 c2,.slice y2 m2 d2,.slice ta tk tc] 75:=bk_new wr [.string z,.int .i64 i1,.bool s1,.slice x1 n1 c1,.slice y1 m1 d1,.int .i64 i2,.bool s2,.slice x2 n2 c2,.slice y2 m2 d2,.slice ta tk tc] 75
     have i1':((i:Nat):Int) < ((rs.length:Nat):Int):=by omega
     clear hCi hc hc0 hn ht1 hv hq hqx hbd hbw
     go_upto_region 24 with fail
     clear q0 q1 q2 q3 q4 q5 q6 q7 q8 q9
     replace p0:=kCb hbt p0;replace p1:=kCb hbt p1;replace p2:=kCb hbt p2
     have a1:=BC.cell (j:=1) rfl
     have a2:=BC.cell (j:=2) rfl
     have a3:=BC.cell (j:=3) rfl
     have a4:=BC.cell (j:=4) rfl
     have a5:=BC.cell (j:=5) rfl
     have a6:=BC.cell (j:=6) rfl
     have a7:=BC.cell (j:=7) rfl
     have a8:=BC.cell (j:=8) rfl
     replace CA:=hid (fun (t:Nm) W (hW:Below (wr.alloc (.cells #[.string z,.int .i64 i1,.bool s1,.slice x1 n1 c1,.slice y1 m1 d1,.int .i64 i2,.bool s2,.slice x2 n2 c2,.slice y2 m2 d2,.slice ta tk tc] 75)).heap.size (wr.alloc (.cells #[.string z,.int .i64 i1,.bool s1,.slice x1 n1 c1,.slice y1 m1 d1,.int .i64 i2,.bool s2,.slice x2 n2 c2,.slice y2 m2 d2,.slice ta tk tc] 75)) W)=>CA.out t W (hbt.trans (hW.mono hbt.size)))
     replace CF:=hid (fun W (hW:Below (wr.alloc (.cells #[.string z,.int .i64 i1,.bool s1,.slice x1 n1 c1,.slice y1 m1 d1,.int .i64 i2,.bool s2,.slice x2 n2 c2,.slice y2 m2 d2,.slice ta tk tc] 75)).heap.size (wr.alloc (.cells #[.string z,.int .i64 i1,.bool s1,.slice x1 n1 c1,.slice y1 m1 d1,.int .i64 i2,.bool s2,.slice x2 n2 c2,.slice y2 m2 d2,.slice ta tk tc] 75)) W)=>CF.out W (hbt.trans (hW.mono hbt.size)))
     replace CH:=hid (fun W (hW:Below (wr.alloc (.cells #[.string z,.int .i64 i1,.bool s1,.slice x1 n1 c1,.slice y1 m1 d1,.int .i64 i2,.bool s2,.slice x2 n2 c2,.slice y2 m2 d2,.slice ta tk tc] 75)).heap.size (wr.alloc (.cells #[.string z,.int .i64 i1,.bool s1,.slice x1 n1 c1,.slice y1 m1 d1,.int .i64 i2,.bool s2,.slice x2 n2 c2,.slice y2 m2 d2,.slice ta tk tc] 75)) W)=>CH.out W (hbt.trans (hW.mono hbt.size)))
     replace HBr:=hid (HBr.out.trans (hbt.mono HBr.out.size))
     clear hbt BC
     generalize hbx:wr.heap.size=bx at *
     generalize wr.alloc (.cells #[.string z,.int .i64 i1,.bool s1,.slice x1 n1 c1,.slice y1 m1 d1,.int .i64 i2,.bool s2,.slice x2 n2 c2,.slice y2 m2 d2,.slice ta tk tc] 75)=w5 at *
     clear hbx
     refine wp_region_held_drew (S:=(fun w'=>w'.cell? ⟨bx,1,none⟩=some (.int .i64 i1) ∧ w'.cell? ⟨bx,2,none⟩=some (.bool s1) ∧ w'.cell? ⟨bx,3,none⟩=some (.slice x1 n1 c1) ∧ w'.cell? ⟨bx,4,none⟩=some (.slice y1 m1 d1) ∧ w'.cell? ⟨bx,5,none⟩=some (.int .i64 i2) ∧ w'.cell? ⟨bx,6,none⟩=some (.bool s2) ∧ w'.cell? ⟨bx,7,none⟩=some (.slice x2 n2 c2) ∧ w'.cell? ⟨bx,8,none⟩=some (.slice y2 m2 d2) ∧ w'.cell? ⟨b',o' + i * 3,none⟩=some (.bool s3) ∧ w'.cell? ⟨b',o' + i * 3 + 1,none⟩=some (.slice x3 n3 c3) ∧ w'.cell? ⟨b',o' + i * 3 + 2,none⟩=some (.slice y3 m3 d3))) (by kernel_rfl) ?_ (fun hHeld=>?_)
     ·(refine ⟨?_,?_,?_,?_,?_,?_,?_,?_,?_,?_,?_⟩ <;> repeat (with_reducible first | assumption | refine kCd ?_))
     refine wpAnyH_take (i:=0) (v:=?_) rfl (by kernel_rfl) (by kernel_rfl) (by kernel_rfl) (fun _ _ _ h=>h) (Or.inl ⟨by rfl,?_⟩) (by assumption) ?_
     rotate_left
     (focus (intro w0 hSw;(try dsimp only at hSw);go_simp <;> with_reducible rfl))
     simp only [List.getElem_toArray,List.getElem_cons_zero,Act.put,List.setIfInBounds_toArray,List.set_cons_zero,List.set_cons_succ]
     refine wpAnyH_take (i:=1) (v:=?_) rfl (by kernel_rfl) (by kernel_rfl) (by kernel_rfl) (fun _ _ _ h=>h) (Or.inl ⟨by rfl,?_⟩) (by assumption) ?_
     rotate_left
     (focus (intro w0 hSw;(try dsimp only at hSw);go_simp <;> with_reducible rfl))
     simp only [List.getElem_toArray,List.getElem_cons_succ,List.getElem_cons_zero,Act.put,List.setIfInBounds_toArray,List.set_cons_zero,List.set_cons_succ]
     refine wpAnyH_take (i:=2) (v:=?_) rfl (by kernel_rfl) (by kernel_rfl) (by kernel_rfl) (fun _ _ _ h=>h) (Or.inl ⟨by rfl,?_⟩) (by assumption) ?_
     rotate_left
     (focus (intro w0 hSw;(try dsimp only at hSw);go_simp <;> with_reducible rfl))
     simp only [List.getElem_toArray,List.getElem_cons_succ,List.getElem_cons_zero,Act.put,List.setIfInBounds_toArray,List.set_cons_zero,List.set_cons_succ]
     refine wpAnyH_take (i:=3) (v:=?_) rfl (by kernel_rfl) (by kernel_rfl) (by kernel_rfl) (fun _ _ _ h=>h) (Or.inl ⟨by rfl,?_⟩) (by assumption) ?_
     rotate_left
     (focus (intro w0 hSw;(try dsimp only at hSw);go_simp <;> with_reducible rfl))
     simp only [List.getElem_toArray,List.getElem_cons_succ,List.getElem_cons_zero,Act.put,List.setIfInBounds_toArray,List.set_cons_zero,List.set_cons_succ]
     refine wpAnyH_take (i:=4) (v:=?_) rfl (by kernel_rfl) (by kernel_rfl) (by kernel_rfl) (fun _ _ _ h=>h) (Or.inl ⟨by rfl,?_⟩) (by assumption) ?_
     rotate_left
     (focus (intro w0 hSw;(try dsimp only at hSw);go_simp <;> with_reducible rfl))
     simp only [List.getElem_toArray,List.getElem_cons_succ,List.getElem_cons_zero,Act.put,List.setIfInBounds_toArray,List.set_cons_zero,List.set_cons_succ]
     refine wpAnyH_take (i:=5) (v:=?_) rfl (by kernel_rfl) (by kernel_rfl) (by kernel_rfl) (fun _ _ _ h=>h) (Or.inl ⟨by rfl,?_⟩) (by assumption) ?_
     rotate_left
     (focus (intro w0 hSw;(try dsimp only at hSw);go_simp <;> with_reducible rfl))
     simp only [List.getElem_toArray,List.getElem_cons_succ,List.getElem_cons_zero,Act.put,List.setIfInBounds_toArray,List.set_cons_zero,List.set_cons_succ]
     refine wpAnyH_take (i:=6) (v:=?_) rfl (by kernel_rfl) (by kernel_rfl) (by kernel_rfl) (fun _ _ _ h=>h) (Or.inl ⟨by rfl,?_⟩) (by assumption) ?_
     rotate_left
     (focus (intro w0 hSw;(try dsimp only at hSw);go_simp <;> with_reducible rfl))
     simp only [List.getElem_toArray,List.getElem_cons_succ,List.getElem_cons_zero,Act.put,List.setIfInBounds_toArray,List.set_cons_zero,List.set_cons_succ]
     refine wpAnyH_take (i:=7) (v:=?_) rfl (by kernel_rfl) (by kernel_rfl) (by kernel_rfl) (fun _ _ _ h=>h) (Or.inl ⟨by rfl,?_⟩) (by assumption) ?_
     rotate_left
     (focus (intro w0 hSw;(try dsimp only at hSw);go_simp <;> with_reducible rfl))
     simp only [List.getElem_toArray,List.getElem_cons_succ,List.getElem_cons_zero,Act.put,List.setIfInBounds_toArray,List.set_cons_zero,List.set_cons_succ]
     refine wpAnyH_take (i:=10) (v:=?_) rfl (by kernel_rfl) (by kernel_rfl) (by kernel_rfl) (fun _ _ _ h=>h) (Or.inl ⟨by rfl,?_⟩) (by assumption) ?_
     rotate_left
     (focus (intro w0 hSw;(try dsimp only at hSw);go_simp <;> with_reducible rfl))
     simp only [List.getElem_toArray,List.getElem_cons_succ,List.getElem_cons_zero,Act.put,List.setIfInBounds_toArray,List.set_cons_zero,List.set_cons_succ]
     refine wpAnyH_take (i:=11) (v:=?_) rfl (by kernel_rfl) (by kernel_rfl) (by kernel_rfl) (fun _ _ _ h=>h) (Or.inl ⟨by rfl,?_⟩) (by assumption) ?_
     rotate_left
     (focus (intro w0 hSw;(try dsimp only at hSw);go_simp <;> with_reducible rfl))
     simp only [List.getElem_toArray,List.getElem_cons_succ,List.getElem_cons_zero,Act.put,List.setIfInBounds_toArray,List.set_cons_zero,List.set_cons_succ]
     refine wpAnyH_ready (rs:=[8]) (by kernel_rfl) (by simp) ?_
     refine AllReadyH.cons (o:=_) rfl (fun K hK=>?_) ?_
     rotate_left
     exact AllReadyH.nil
     go_simp
     go_at_call 23
     refine (CF.out _ (by repeat (with_reducible first | assumption | exact Below.refl _ _ | refine Below.drew ?_ | refine kBb (by assumption) ?_))).mono ?_
     rintro e w6 ⟨s4,x4,n4,c4,f4,y4,m4,d4,g4,rfl,hb6,hq1,hq2,hq⟩
     (try go_wp2_with fail)
     refine hK.out _ _ ?_ (fun hH6=>?_)
     ·((try dsimp only);(refine ⟨?_,?_,?_,?_,?_,?_,?_,?_,?_,?_,?_⟩ <;> repeat (with_reducible first | assumption | refine kCb (by assumption) ?_ | refine kCd ?_)))
     clear hK K
     try simp only [Act.put,List.setIfInBounds_toArray,List.set_cons_zero,List.set_cons_succ]
     refine wpAnyH_ready (rs:=[9]) (by kernel_rfl) (by simp) ?_
     refine AllReadyH.cons (o:=_) rfl (fun K hK=>?_) ?_
     rotate_left
     exact AllReadyH.nil
     go_simp
     go_at_call 22
     refine (CA.out ⟨s4,x4,n4,c4,f4,y4,m4,d4,g4⟩ w6 (by repeat (with_reducible first | assumption | exact Below.refl _ _ | refine Below.drew ?_ | refine kBb (by assumption) ?_)) ⟨Nat.le_trans hq1 (by decide),Nat.le_trans hq2 (by decide),hq⟩).mono ?_
     rintro e w7 ⟨rfl,hb7⟩
     (try go_wp2_with fail)
     refine hK.out _ _ ?_ (fun hH7=>?_)
     ·((try dsimp only);(refine ⟨?_,?_,?_,?_,?_,?_,?_,?_,?_,?_,?_⟩ <;> repeat (with_reducible first | assumption | refine kCb (by assumption) ?_ | refine kCd ?_)))
     clear hK K
     try simp only [Act.put,List.setIfInBounds_toArray,List.set_cons_zero,List.set_cons_succ]
     refine wpAnyH_ready (rs:=[12]) (by kernel_rfl) (by simp) ?_
     refine AllReadyH.cons (o:=_) rfl (fun K hK=>?_) ?_
     rotate_left
     exact AllReadyH.nil
     go_simp
     go_at_call 24
     refine (CH.out _ (by repeat (with_reducible first | assumption | exact Below.refl _ _ | refine Below.drew ?_ | refine kBb (by assumption) ?_))).mono ?_
     rintro e w8 ⟨rfl,hb8⟩
     (try go_wp2_with fail)
     refine hK.out _ _ ?_ (fun hH8=>?_)
     ·((try dsimp only);(refine ⟨?_,?_,?_,?_,?_,?_,?_,?_,?_,?_,?_⟩ <;> repeat (with_reducible first | assumption | refine kCb (by assumption) ?_ | refine kCd ?_)))
     clear hK K
     try simp only [Act.put,List.setIfInBounds_toArray,List.set_cons_zero,List.set_cons_succ]
     refine wpAnyH_take (i:=13) (v:=?_) rfl (by kernel_rfl) (by kernel_rfl) (by kernel_rfl) (fun _ _ _ h=>h) (Or.inl ⟨by rfl,?_⟩) (by assumption) ?_
     rotate_left
     (focus (intro w0 hSw;(try dsimp only at hSw);go_simp <;> with_reducible rfl))
     simp only [List.getElem_toArray,List.getElem_cons_succ,List.getElem_cons_zero,Act.put,List.setIfInBounds_toArray,List.set_cons_zero,List.set_cons_succ]
     refine wpAnyH_done (by kernel_rfl) ?_ _
     have hb:Below w5.heap.size w5 w8:=(by repeat (with_reducible first | assumption | exact Below.refl _ _ | refine Below.drew ?_ | refine kBb (by assumption) ?_))
     replace HBr:=hid (HBr.out.trans (hb.mono HBr.out.size))
     clear hb hHeld hH6 hH7 hH8 hb6 hb7 hb8 hq1 hq2 hq CA CF CH p0 p1 p2 a1 a2 a3 a4 a5 a6 a7 a8
     have zz:(t1 == !t1)=false:=by cases t1 <;> rfl
     go_wp2
     go_roundw
     case rel=>exact ⟨i + 1,by omega,by go_num,HBr.out⟩
     case measure=>simp [intOf];omega
    ·have e1:i=rs.length:=by omega
     have i4':¬ (((i:Nat):Int) < ((rs.length:Nat):Int)):=by omega
     clear e1
     go_wp2
     go_ret
     exact ⟨by first | rfl | simp,(HB.out.trans (HW.out.mono HB.out.size)).trans (HBr.out.mono (Nat.le_trans HB.out.size HW.out.size))⟩
end Go.Proofs.YtbnaikljfhhljaaGreat
