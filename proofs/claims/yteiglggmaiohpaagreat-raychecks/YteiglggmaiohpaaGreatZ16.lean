/-
 The walk of law13's awake (written by makers/ra5.py). The walk of the law ModelNames (written by makers/f28.py). The walk of law17's awake, and of StackNew (written by makers/o5.py). The walks of the reference's Same of points, of certificates and of bases that are alike; of the calls of a nil stack; of StackNone (written by makers/o6.py). Lists of numbers that are copies; the walk of law17's lists, and what it answers. Twins have the same values; what adds up along directions. The walks of law13's light, of the reference's Twin of a ray (written by makers/ra7.py). Ray's calls on twins of a model and of lists, by what the model and the lists are; the sum of two directions. Along a direction that recedes points stay points, and values move by the slope. Walks of the reference's At of terms, and of DocAt, whatever it is handed. Columns of sums and of lists of numbers, lengths; Dot whatever it is handed. The walk of the reference's Dot. The walks of the reference's Feasible and Recedes of models of its own (written by makers/re2.py). The walk of the reference's Costs (written by makers/re3.py). Point's calls on twins, and on what lies along a direction.
-/
import Derived.Test.YteiglggmaiohpaaGreatZ15
import Derived.BigRegion
import Derived.Test.YteiglggmaiohpaaGreatZ12
import Derived.Test.YteiglggmaiohpaaGreatZ0
import Derived.Test.YteiglggmaiohpaaGreatZ14
import Derived.Test.YteiglggmaiohpaaGreatZ7
import Derived.Test.YteiglggmaiohpaaGreatZ9
import Derived.Test.YteiglggmaiohpaaGreatZ13
import Derived.Test.YteiglggmaiohpaaGreatZ11
import Derived.Test.YteiglggmaiohpaaGreatZ8
namespace Go.Proofs.YteiglggmaiohpaaGreat
open Go.RowKit
theorem fi_ok:mvOk fiC []=true:=by decide +kernel
theorem fi_v1:valB 0 0 0 fiC [] [((-1:Int):Rat)] [((0:Int):Rat)]=true:=by decide +kernel
theorem fi_v2:valB 0 0 0 fiC [] [((1:Int):Rat)] [((0:Int):Rat)]=false:=by decide +kernel
theorem fi_rec:recB 0 0 fiC [] [((5:Int):Rat)]=true:=by decide +kernel
theorem fi_al:alng [((1:Int):Rat)] [((2:Int):Rat)] ((3:Int):Rat)=[((7:Int):Rat)]:=by decide +kernel
set_option maxRecDepth 100000 in
set_option maxHeartbeats 8000000 in
theorem awake13_c (w:World):Calls Tryz.prog 4 #[] w fun e w'=>e=.returned (.bool true)∧Below w.heap.size w w':=by
 have HB:=hid (Below.refl w.heap.size w);go_enter Tryz.func4,Tryz.ntmps4;go_wp2_with fail
 refine first13_c.mono ?_;rintro e v2 ⟨⟨⟨sm,xm,nm,cm,fm,ym,mm,dm,gm⟩,cam,ckm,ccm,Cm,ram,rkm,rcm,Rm⟩,rfl,hb,HM⟩;replace HB:=hid (HB.out.trans (hb.mono HB.out.size));clear hb;go_wp2_with fail
 refine (one13_c (z:=0) (by decide) (by decide)).mono ?_;rintro e v3 ⟨ax,rfl,hb,Hax⟩;replace HB:=hid (HB.out.trans (hb.mono HB.out.size));replace HM:=hid (HM.out.below hb)
 clear hb;go_wp2_with fail
 refine (one13_c (z:=-1) (by decide) (by decide)).mono ?_;rintro e v4 ⟨ad,rfl,hb,Had⟩;replace HB:=hid (HB.out.trans (hb.mono HB.out.size));replace HM:=hid (HM.out.below hb);replace Hax:=hid (Hax.out.below hb)
 clear hb;go_wp2_with fail
 refine (rValid_q (L:=8) HM.out fi_ok (Had.out.mono (by decide)) rfl rfl (Hax.out.mono (by decide)) rfl rfl (by decide)).mono ?_;rintro e v1 ⟨rfl,hb⟩;rw [fi_v1];replace HB:=hid (HB.out.trans (hb.mono HB.out.size));clear hb HM Hax Had;go_wp2_with fail
 refine first13_c.mono ?_;rintro e v6 ⟨⟨⟨sm,xm,nm,cm,fm,ym,mm,dm,gm⟩,cam,ckm,ccm,Cm,ram,rkm,rcm,Rm⟩,rfl,hb,HM⟩;replace HB:=hid (HB.out.trans (hb.mono HB.out.size));clear hb;go_wp2_with fail
 refine (one13_c (z:=0) (by decide) (by decide)).mono ?_;rintro e v7 ⟨ax,rfl,hb,Hax⟩;replace HB:=hid (HB.out.trans (hb.mono HB.out.size));replace HM:=hid (HM.out.below hb)
 clear hb;go_wp2_with fail
 refine (one13_c (z:=1) (by decide) (by decide)).mono ?_;rintro e v8 ⟨ad,rfl,hb,Had⟩;replace HB:=hid (HB.out.trans (hb.mono HB.out.size));replace HM:=hid (HM.out.below hb);replace Hax:=hid (Hax.out.below hb)
 clear hb;go_wp2_with fail
 refine (rValid_q (L:=8) HM.out fi_ok (Had.out.mono (by decide)) rfl rfl (Hax.out.mono (by decide)) rfl rfl (by decide)).mono ?_;rintro e v5 ⟨rfl,hb⟩;rw [fi_v2];replace HB:=hid (HB.out.trans (hb.mono HB.out.size));clear hb HM Hax Had;go_wp2_with fail
 refine (one13_c (z:=1) (by decide) (by decide)).mono ?_;rintro e v9 ⟨ax,rfl,hb,Hax⟩;replace HB:=hid (HB.out.trans (hb.mono HB.out.size));clear hb;go_wp2_with fail
 refine (one13_c (z:=2) (by decide) (by decide)).mono ?_;rintro e v10 ⟨ad,rfl,hb,Had⟩;replace HB:=hid (HB.out.trans (hb.mono HB.out.size));replace Hax:=hid (Hax.out.below hb)
 clear hb;go_wp2_with fail
 refine (docOfQ_c (z:=3) (by decide) (by decide)).mono ?_;rintro e w1 ⟨s1,x1,n1,c1,f1,y1,m1,d1,g1,rfl,hb,hr⟩;replace HB:=hid (HB.out.trans (hb.mono HB.out.size));replace Hax:=hid (Hax.out.below hb);replace Had:=hid (Had.out.below hb)
 have HR:=hid hr;clear hb hr;go_wp2_with fail
 refine (rAlong_q (L:=4) Hax.out rfl Had.out rfl rfl HR.out (by decide) (by decide)).mono ?_;rintro e w2 ⟨aa,ac,rfl,hb,hac,HA⟩;rw [fi_al] at HA;replace HB:=hid (HB.out.trans (hb.mono HB.out.size));have HAC:=hid hac;clear hb hac Hax Had HR;go_wp2_with fail
 refine first13_c.mono ?_;rintro e v11 ⟨⟨⟨sm,xm,nm,cm,fm,ym,mm,dm,gm⟩,cam,ckm,ccm,Cm,ram,rkm,rcm,Rm⟩,rfl,hb,HM⟩;replace HB:=hid (HB.out.trans (hb.mono HB.out.size));replace HA:=hid (HA.out.below hb)
 clear hb;go_wp2_with fail
 refine (one13_c (z:=5) (by decide) (by decide)).mono ?_;rintro e v12 ⟨ad,rfl,hb,Had⟩;replace HB:=hid (HB.out.trans (hb.mono HB.out.size));replace HM:=hid (HM.out.below hb);replace HA:=hid (HA.out.below hb)
 clear hb;go_wp2_with fail
 refine (rRec_q (L:=8) HM.out fi_ok (Had.out.mono (by decide)) rfl rfl (by decide)).mono ?_;rintro e w3 ⟨rfl,hb⟩;rw [fi_rec];replace HB:=hid (HB.out.trans (hb.mono HB.out.size));replace HA:=hid (HA.out.below hb)
 clear hb HM Had;obtain ⟨b,o,⟨s,x,n,c,f,y,m,d,g⟩,hb1,⟨p0,p1,p2⟩,hr⟩:=HA.out 0 _ rfl;subst hb1;replace p0:w3.cell? ⟨b,o,none⟩=some (.bool s):=p0;replace p1:w3.cell? ⟨b,o+1,none⟩=some (.slice x n c):=p1;replace p2:w3.cell? ⟨b,o+2,none⟩=some (.slice y m d):=p2;have HR:Hid (Rn (KL 4) w3 s x n c f y m d g ((7:Int):Rat)):=hr;clear hr HA;go_upto_region 5 with fail
 have CD:=hid (fun W=>docOfQ_c (w:=W) (z:=7) (by decide) (by decide));unfold RatAns at CD;have CS:Hid (∀W s2 x2 n2 c2 f2 y2 m2 d2 g2,Below w3.heap.size w3 W→Rn 4 W s2 x2 n2 c2 f2 y2 m2 d2 g2 ((7:Int):Rat)→Calls Tryz.prog 18 #[.agg #[.bool s,.slice x n c,.slice y m d],.agg #[.bool s2,.slice x2 n2 c2,.slice y2 m2 d2]] W fun e w'=>e=.returned (.bool true)∧Below W.heap.size W w'):=fun W s2 x2 n2 c2 f2 y2 m2 d2 g2 hW h2=>rSameEq_c (HR.out.below hW) h2 (by decide) (by decide)
 go_region_held3 (fun w'=>w'.cell? ⟨b,o,none⟩=some (.bool s)∧w'.cell? ⟨b,o+1,none⟩=some (.slice x n c)∧w'.cell? ⟨b,o+2,none⟩=some (.slice y m d))
  (refine ⟨?_,?_,?_⟩ <;> repeat (with_reducible first | assumption | refine kCd ?_ | refine kCb (by assumption) ?_))
  (first
   | (go_at_call 17;with_reducible refine (CD.out _).mono ?_;rintro e w4 ⟨s2,x2,n2,c2,f2,y2,m2,d2,g2,rfl,hb4,H4⟩;replace H4:=hid H4)
   | (go_at_call 18;with_reducible refine (CS.out _ s2 x2 n2 c2 f2 y2 m2 d2 g2 belA H4.out).mono ?_;rintro e w5 ⟨rfl,hb5⟩))
 have HB5:=hid (HB.out.trans ((show Below w3.heap.size w3 w5 from belA).mono HB.out.size));clear hb4 hb5 H4 p0 p1 p2 CD CS HR;go_wp2;go_ret;exact ⟨rfl,HB5.out⟩
theorem twin_w {w:World} {M:Mo} {K:Nat} (hX:MoX w M) (hN:MoN M) (hk:M.ck≤64→M.rk≤64→MoK K M) (hK:K≤65536):Calls Tryz.prog 8 #[M.val] w fun e w'=>∃M':Mo,e=.returned M'.val∧Below w.heap.size w w'∧Sm M M'∧MoW w' M'∧MoX w' M'∧(M'.ck≤64→M'.rk≤64→MoK K M') :=
 (mTwin_c hX).mono fun e w' ⟨M',h1,h2,h3,h4⟩=>⟨M',h1,h2,h3,fun a b=>h4.mor (h3.mon hN) (h3.mok (hk (by rw [←h3.ck];exact a) (by rw [←h3.rk];exact b))) hK a b,h4,fun a b=>h3.mok (hk (by rw [←h3.ck];exact a) (by rw [←h3.rk];exact b))⟩
theorem lgM_k {K:Nat} {M:Mo} (h:lgM K M=true):M.ck≤64→M.rk≤64→MoK K M:=fun a b=>lgM_at h a b
theorem MoX.both {w M K} (h:MoX w M) (hn:MoN M) (hk:M.ck≤64→M.rk≤64→MoK K M) (hK:K≤1000):M.ck≤64→M.rk≤64→MoR w M∧MoS M:=fun a b=>⟨h.mor hn (hk a b) (Nat.le_trans hK (by decide)) a b,(hk a b).mos hK⟩
theorem El.below {w w' ao k E} (h:El w ao k E) (hb:Below w.heap.size w w'):El w' ao k E:=fun j hj=>by
 obtain ⟨b,o,e,h1⟩:=h j hj;exact ⟨b,o,e,kCb hb h1⟩
theorem Sn.trans {a b c:Nm} (h:Sn a b) (k:Sn b c):Sn a c:=by
 obtain ⟨h1,h2,h3,h4,h5⟩:=h;obtain ⟨k1,k2,k3,k4,k5⟩:=k;exact ⟨k1.trans h1,k2.trans h2,k3.trans h3,k4.trans h4,k5.trans h5⟩
theorem Sn.nq {t t':Nm} (h:Sn t t'):nq t'=nq t:=by
 obtain ⟨h1,h2,h3,h4,h5⟩:=h;unfold Go.Proofs.YteiglggmaiohpaaGreat.nq;rw [h1,h2,h3,h4,h5]
theorem Sm.csOf {M M':Mo} (h:Sm M M'):csOf M'=csOf M:=by
 unfold Go.Proofs.YteiglggmaiohpaaGreat.csOf;rw [h.ck];refine List.map_congr_left (fun j hj=>?_);have p:=h.C j (List.mem_range.1 hj);unfold cvOf;rw [p.nm,p.cost.nq,p.li,p.lo.nq,p.hi,p.hv.nq]
theorem Sm.rsOf {M M':Mo} (h:Sm M M'):rsOf M'=rsOf M:=by
 unfold Go.Proofs.YteiglggmaiohpaaGreat.rsOf;rw [h.rk];refine List.map_congr_left (fun j hj=>?_);have p:=h.R j (List.mem_range.1 hj);unfold rvOf;rw [p.nm,p.li,p.lo.nq,p.hi,p.hv.nq,p.tk,p.col]
 congr 1
 exact List.map_congr_left (fun q hq=>by rw [(p.T q (List.mem_range.1 hq)).nq])
def psOf (k:Nat) (X:Nat→Nm):List Rat:=(List.range k).map (fun j=>nq (X j))
theorem psOf_len (k:Nat) (X:Nat→Nm):(psOf k X).length=k:=by simp [psOf]
theorem psOf_sn {k:Nat} {X X':Nat→Nm} (h:∀j,j<k→Sn (X j) (X' j)):psOf k X'=psOf k X:=List.map_congr_left (fun j hj=>(h j (List.mem_range.1 hj)).nq)
theorem Rl.rfC {w:World} {ao:Option Addr} {k K:Nat} {X:Nat→Nm} (h:Rl w ao k X) (hf:afB k X=true) (hk:∀j,j<k→(X j).n≤K∧(X j).m≤K):Rf K w ao (psOf k X):=fun j q e=>by
 obtain ⟨hj,rfl⟩:=range_at e;obtain ⟨b,o,h1,h2,h3⟩:=h j hj;exact ⟨b,o,X j,h1,h2,NmS.val h3 (afr_all hf j (by omega) (by omega)) (hk j hj)⟩
def lgL (K k:Nat) (X:Nat→Nm):Bool:=decide (k≤300) && nlg K X k 0
set_option maxRecDepth 100000 in
set_option maxHeartbeats 4000000 in
theorem light13_c {w:World} {ax:Option Addr} {kx capx:Nat} {Y:Nat→Nm} {ao:Option Addr} {k cap:Nat} {X:Nat→Nm} (K:Nat) (hy:Rr w ax kx Y) (hx:Rr w ao k X) (hkx:kx≤9223372036854775807) (hk:k≤9223372036854775807) :
  Calls Tryz.prog 6 #[.agg #[.slice ax kx capx,.slice ao k cap],.int .i64 K] w fun e w'=>e=.returned (.bool (lgL K kx Y && lgL K k X))∧Below w.heap.size w w':=by
 have C1:Hid (∀W,Below w.heap.size w W→Calls Tryz.prog 20 #[.slice ax kx capx,.int .i64 K] W fun e w'=>e=.returned (.bool (lgL K kx Y))∧Below W.heap.size W w'):=fun W hW=>rLights_c K (hy.below hW) hkx
 have C2:Hid (∀W,Below w.heap.size w W→Calls Tryz.prog 20 #[.slice ao k cap,.int .i64 K] W fun e w'=>e=.returned (.bool (lgL K k X))∧Below W.heap.size W w'):=fun W hW=>rLights_c K (hx.below hW) hk
 obtain ⟨p,hp⟩:∃p,lgL K kx Y=p:=⟨_,rfl⟩;obtain ⟨q,hq⟩:∃q,lgL K k X=q:=⟨_,rfl⟩;rw [hp] at C1 ⊢;rw [hq] at C2 ⊢;clear hp hq hx hy;have BY:Hid (Bk (w.alloc (.cells #[.slice ax kx capx,.slice ao k cap] 31)) w.heap.size [.slice ax kx capx,.slice ao k cap] 31):=bk_new w [.slice ax kx capx,.slice ao k cap] 31;have HB:=hid (below_alloc (Below.refl w.heap.size w) (.cells #[.slice ax kx capx,.slice ao k cap] 31));go_enter Tryz.func6,Tryz.ntmps6;have t0:=BY.out.cell (j:=0) rfl;go_wp2_with fail
 clear t0;generalize w.alloc (.cells #[.slice ax kx capx,.slice ao k cap] 31)=w0 at *;refine (C1.out _ HB.out).mono ?_;rintro e w1 ⟨rfl,hb⟩;replace HB:=hid (HB.out.trans (hb.mono HB.out.size));replace BY:=hid (BY.out.below hb)
 clear hb;cases p
 ·go_wp2;go_ret;exact ⟨rfl,HB.out⟩
 have t1:=BY.out.cell (j:=1) rfl;go_wp2_with fail
 clear t1;refine (C2.out _ HB.out).mono ?_;rintro e w2 ⟨rfl,hb⟩;replace HB:=hid (HB.out.trans (hb.mono HB.out.size));clear hb;go_wp2;go_ret;exact ⟨rfl,HB.out⟩
def TwY (w w':World) (e:Ending) (kx:Nat) (Y:Nat→Nm) (k:Nat) (X:Nat→Nm):Prop:=∃bx cx Y' bo co X',e=.returned (.agg #[.slice bx kx cx,.slice bo k co])∧Below w.heap.size w w'∧((kx≤cx∧cx≤9223372036854775807)∧k≤co∧co≤9223372036854775807)∧Hid ((Rl w' bx kx Y'∧∀j,j<kx→Sn (Y j) (Y' j))∧Rl w' bo k X'∧∀j,j<k→Sn (X j) (X' j))
set_option maxRecDepth 100000 in
set_option maxHeartbeats 4000000 in
theorem twin13_c {w:World} {ax:Option Addr} {kx capx:Nat} {Y:Nat→Nm} {ao:Option Addr} {k cap:Nat} {X:Nat→Nm} (hy:Rl w ax kx Y) (hx:Rl w ao k X) (hkx:kx≤10000) (hk:k≤10000) (ly:∀j,j<kx→(Y j).n≤1000∧(Y j).m≤1000) (lx:∀j,j<k→(X j).n≤1000∧(X j).m≤1000) :
  Calls Tryz.prog 9 #[.agg #[.slice ax kx capx,.slice ao k cap]] w fun e w'=>TwY w w' e kx Y k X:=by
 have C1:=hid (fun W (hW:Below w.heap.size w W)=>twins_c (w:=W) (cap:=capx) (hy.below hW) hkx ly);have C2:=hid (fun W (hW:Below w.heap.size w W)=>twins_c (w:=W) (cap:=cap) (hx.below hW) hk lx);unfold TwsAns at C1 C2;clear hx hy;have hb:=below_alloc (below_alloc (Below.refl w.heap.size w) (.cells #[.slice ax kx capx,.slice ao k cap] 31)) (.cells #[.slice none 0 0,.slice none 0 0] 31);have BY:Hid (Bk ((w.alloc (.cells #[.slice ax kx capx,.slice ao k cap] 31)).alloc (.cells #[.slice none 0 0,.slice none 0 0] 31)) w.heap.size [.slice ax kx capx,.slice ao k cap] 31):=(bk_new w [.slice ax kx capx,.slice ao k cap] 31).below (below_alloc (Below.refl _ _) _);have BR:Hid (Bk ((w.alloc (.cells #[.slice ax kx capx,.slice ao k cap] 31)).alloc (.cells #[.slice none 0 0,.slice none 0 0] 31)) (w.heap.size+1) [.slice none 0 0,.slice none 0 0] 31):=by
  have:=bk_new (w.alloc (.cells #[.slice ax kx capx,.slice ao k cap] 31)) [.slice none 0 0,.slice none 0 0] 31;rw [size_alloc1] at this;exact this
 have HB:=hid hb;clear hb;go_enter Tryz.func9,Tryz.ntmps9;go_upto_region 1 with fail
 generalize ((w.alloc (.cells #[.slice ax kx capx,.slice ao k cap] 31)).alloc (.cells #[.slice none 0 0,.slice none 0 0] 31))=w0 at *;have t0:=BY.out.cell (j:=0) rfl;have t1:=BY.out.cell (j:=1) rfl;have y0:=kI0 (BR.out.cell (j:=0) rfl);have y1:=kI0 (BR.out.cell (j:=1) rfl);have z0:=BR.out.frozen 0;have z1:=BR.out.frozen 1;have C3:=hid (fun W (hW:Below w0.heap.size w0 W)=>C1.out W (HB.out.trans (hW.mono HB.out.size)));have C4:=hid (fun W (hW:Below w0.heap.size w0 W)=>C2.out W (HB.out.trans (hW.mono HB.out.size)));clear C1 C2;go_region_held3 (fun w'=>w'.cell? ⟨w.heap.size,0,none⟩=some (.slice ax kx capx)∧w'.cell? ⟨w.heap.size,1,none⟩=some (.slice ao k cap)∧(w'.cell? ⟨w.heap.size+1,0,none⟩).isSome=true∧(w'.cell? ⟨w.heap.size+1,1,none⟩).isSome=true∧w'.frozen? ⟨w.heap.size+1,0,none⟩=false∧w'.frozen? ⟨w.heap.size+1,1,none⟩=false)
  (refine ⟨?_,?_,?_,?_,?_,?_⟩ <;> repeat (with_reducible first | assumption | refine kCd ?_ | refine kId ?_ | refine kFd ?_ | refine kCs (by simp only [ne_eq];omega) ?_ | refine kIs ?_ | refine kFs ?_ | refine kCb (by assumption) ?_ | refine kIb (by assumption) ?_ | refine kFbs (by assumption) ?_ ?_))
  (first
   | (have h9:=H1.out;clear h9;go_at_call 12;with_reducible refine (C4.out _ belA).mono ?_;rintro e w2 ⟨bo,co,X',rfl,hb2,hco,H2⟩;have B2:=hid (BR.out.below (show Below w0.heap.size w0 w2 from belA));have p20:=B2.out.cell (j:=0) rfl;have p21:=B2.out.cell (j:=1) rfl;have m20:=kI0 p20;have m21:=kI0 p21;have q20:=B2.out.frozen 0;have q21:=B2.out.frozen 1)
   | (go_at_call 12;with_reducible refine (C3.out _ belA).mono ?_;rintro e w1 ⟨bx,cx,Y',rfl,hb1,hcx,H1⟩;have B1:=hid (BR.out.below (show Below w0.heap.size w0 w1 from belA));have p10:=B1.out.cell (j:=0) rfl;have p11:=B1.out.cell (j:=1) rfl;have m10:=kI0 p10;have m11:=kI0 p11;have q10:=B1.out.frozen 0;have q11:=B1.out.frozen 1))
 all_goals
  have hb02:Below w0.heap.size w0 w2:=belA;have hb12:Below w1.heap.size w1 w2:=belA;replace HB:=hid (HB.out.trans (hb02.mono HB.out.size));replace BR:=hid (BR.out.below hb02)
  obtain ⟨hx1,hx2,hx3⟩:=st_new [.slice bx kx cx,.slice bo k co] BR.out (nou_list (fun u hu q=>by simp at hu;rcases hu with rfl | rfl <;> simp)) HB.out (by omega);have R1:=H1.out.1.below hb12;have R2:=H2.out.1
  have l0:=BR.out.cell (j:=0) rfl;have l1:=BR.out.cell (j:=1) rfl;have HX:Hid (TwY w (stl (w.heap.size+1) 0 [.slice bx kx cx,.slice bo k co] w2) (.returned (.agg #[.slice bx kx cx,.slice bo k co])) kx Y k X):=⟨bx,cx,Y',bo,co,X',rfl,hx1,⟨hcx,hco⟩,⟨R1.st hx2 hx3 (bk_nob BR.out (fun v hv=>by simp at hv;cases hv;exact ⟨_,_,_,rfl⟩)),H1.out.2⟩,R2.st hx2 hx3 (bk_nob BR.out (fun v hv=>by simp at hv;cases hv;exact ⟨_,_,_,rfl⟩)),H2.out.2⟩;clear hx1 hx2 hx3 R1 R2 hb02 hb12;go_wp2;exact bodyPost_ret (v:=.agg #[.slice bx kx cx,.slice bo k co]) (by simp [results,Tryz.results9,go_sem,l0,l1]) rfl HX.out
theorem MoK.up {K L:Nat} {M:Mo} (h:MoK K M) (hL:K≤L):MoK L M:=by
 have e:∀{a b:Nat},a≤K∧b≤K→a≤L∧b≤L:=fun p=>⟨Nat.le_trans p.1 hL,Nat.le_trans p.2 hL⟩
 exact ⟨e h.off,fun j hj=>⟨e (h.c j hj).1,e (h.c j hj).2.1,e (h.c j hj).2.2⟩,fun j hj=>⟨e (h.r j hj).1,e (h.r j hj).2.1,(h.r j hj).2.2.1,fun p hp=>e ((h.r j hj).2.2.2 p hp)⟩⟩
theorem Rf.cut {K L:Nat} {w:World} {ao:Option Addr} {p:List Rat} (h:Rf K w ao p) (hp:∀q,q ∈ p→Lo L q):Rf L w ao p:=fun j q hj=>by
 obtain ⟨b,o,t,e,h1,h2⟩:=h j q hj;exact ⟨b,o,t,e,h1,h2.cut (hp q (List.mem_of_getElem? hj))⟩
theorem pckE_two {M:Mo} {k:Nat} {X:Nat→Nm} (h:pckE M k X=0):chkE M=0∧afB k X=true∧k=M.ck:=by
 obtain ⟨h1,h2⟩:=two_zero h;refine ⟨h1,?_⟩;unfold pnE at h2;by_cases a:afB k X=true
 ·rw [if_pos a] at h2;by_cases b:k=M.ck
  ·exact ⟨a,b⟩
  ·rw [if_neg (by omega)] at h2;cases h2
 ·rw [if_neg a] at h2;cases h2
theorem csOf_len (M:Mo):(csOf M).length=M.ck:=by simp [csOf]
def Tx (w:World) (ao:Option Addr) (k:Nat) (X X':Nat→Nm):Prop:=Rl w ao k X'∧∀j,j<k→Sn (X j) (X' j)
theorem Tx.below {w w' ao k X X'} (h:Tx w ao k X X') (hb:Below w.heap.size w w'):Tx w' ao k X X':=⟨h.1.below hb,h.2⟩
def Sh (k:Nat) (X:Nat→Nm):Prop:=k≤300∧∀j,j<k→(X j).n≤6∧(X j).m≤6
theorem Tx.val {w ao k X X'} (h:Tx w ao k X X') (hs:Sh k X) (ha:afB k X=true):Rf 6 w ao (psOf k X):=by
 rw [←psOf_sn h.2];refine h.1.rfC ?_ (fun j hj=>by rw [(h.2 j hj).2.1,(h.2 j hj).2.2.2.1];exact hs.2 j hj);exact (afr_sn (fun j _ b=>h.2 j (by omega))).trans ha
def rcM (M:Mo) (k:Nat) (X:Nat→Nm):Bool:=recB (chkE M) (pckE M k X) (csOf M) (rsOf M) (psOf k X)
def vlM (M:Mo) (kx:Nat) (Y:Nat→Nm) (k:Nat) (X:Nat→Nm):Bool:=valB (chkE M) (pckE M k X) (pckE M kx Y) (csOf M) (rsOf M) (psOf k X) (psOf kx Y)
theorem crl_nil {B:Nat→Bool}:∀{n:Nat},(crl B n).length=0 ↔ ∀j,j<n→B j=false
 | 0=>⟨fun _ j hj=>by omega,fun _=>rfl⟩
 | n+1=>by
  have ih:=crl_nil (B:=B) (n:=n);cases e:B n with
  | true =>
   rw [crl_yes e];refine ⟨fun h=>by simp at h,fun h=>?_⟩;rw [h n (by omega)] at e;cases e
  | false =>
   rw [crl_no e,ih];refine ⟨fun h j hj=>?_,fun h j hj=>h j (by omega)⟩;by_cases g:j=n
   ·rw [g];exact e
   ·exact h j (by omega)
theorem qZero_c (w:World):Calls Tryz.prog 64 #[] w fun e w'=>QAns 2 w w' e 0:=by
 have h2:=ob_new w 76;have h3:=below_alloc (Below.refl w.heap.size w) (.cells #[.bool false,.slice none 0 0,.slice none 0 0] 76);go_enter Tryz.func64,Tryz.ntmps64;go_wp2_with fail
 generalize w.alloc (.cells #[.bool false,.slice none 0 0,.slice none 0 0] 76)=w1 at *;have OB:=hid h2;have HW:=hid h3
 clear h2 h3;refine (qInt_c (z:=0) (by decide) (by decide)).mono ?_;rintro e w2 ⟨s2,x2,n2,c2,d2,y2,m2,e2,g2,rfl,hb,hl1,hl2,hq⟩;have HB2:=hid hb;have HQ:=hid hq;have L1:=hid hl1;have L2:=hid hl2
 clear hb hq hl1 hl2;obtain ⟨hz,z0,z1,z2,zf⟩:=OB.out.below HB2.out;go_wp2;exact bodyPost_ret (v:=.agg #[.bool s2,.slice x2 n2 c2,.slice y2 m2 e2]) (by simp [results,Tryz.results64,go_sem,z0,z1,z2]) rfl ⟨s2,x2,n2,c2,d2,y2,m2,e2,g2,rfl,below_st (HW.out.trans (HB2.out.mono HW.out.size)) (by omega),L1.out,L2.out,(OB.out.below HB2.out).qn HQ.out⟩
theorem lo_zero {L:Nat} (hL:1≤L):Lo L 0:=by
 have h:=pw_mono hL;have h1:pw 1=18446744073709551616:=by decide
 constructor
 ·show ((0:Nat):Int)<_;omega
 ·show ((1:Nat):Int)<_;omega
theorem Rf.lo {L w ao} {p:List Rat} (h:Rf L w ao p):∀(j:Nat) (q:Rat),p[j]?=some q→Lo L q:=fun j q hj=>by
 obtain ⟨_,_,_,_,_,h2⟩:=h j q hj;exact h2.lo h2.ln h2.ld
theorem Dn.len_pd {w x n d V} {K:Nat} (h:Dn w x n d V) (hv:(V:Int)<pd K):n≤K:=by
 by_cases hn:n≤K
 ·exact hn
 ·have h1:=vd_form_ge h.dg h.fm (by omega);have h2:=pd_mono (show K≤n-1 by omega);have h3:=h.val;omega
theorem Dn.lt_pd {w x n d V} {K:Nat} (h:Dn w x n d V) (hn:n≤K):(V:Int)<pd K:=by
 have h1:=vd_lt h.dg;have h2:=pd_mono hn;have h3:=h.val;omega
theorem Qn.len {w s x n d y m g q} {K:Nat} (h:Qn w s x n d y m g q) (hq:Lo K q):n≤2*K∧m≤2*K :=
 ⟨h.num.dn.len_pd (by rw [pd_two];exact hq.1),h.den.len_pd (by rw [pd_two];exact hq.2)⟩
theorem Qn.lo {w s x n d y m g q} {K:Nat} (h:Qn w s x n d y m g q) (hn:n≤2*K) (hm:m≤2*K):Lo K q :=
 ⟨by rw [←pd_two];exact h.num.dn.lt_pd hn,by rw [←pd_two];exact h.den.lt_pd hm⟩
theorem Sx.qn {w B s x n c y m d u0 u1 u2 s1 x1 n1 d1 y1 m1 g1 q} (S:Sx w B s x n c y m d) (h:Qn w s1 x1 n1 d1 y1 m1 g1 q):Qn (((w.setCell ⟨B,0,none⟩ u0).setCell ⟨B,1,none⟩ u1).setCell ⟨B,2,none⟩ u2) s1 x1 n1 d1 y1 m1 g1 q :=
 ⟨⟨⟨S.rd h.num.dn.rd,h.num.dn.dg,h.num.dn.fm,h.num.dn.val⟩,h.num.sgn,h.num.pos⟩,⟨S.rd h.den.rd,h.den.dg,h.den.fm,h.den.val⟩⟩
set_option maxRecDepth 100000 in
set_option maxHeartbeats 8000000 in
theorem fDot_c {w:World} {L:Nat} {av ax:Option Addr} {k kx cv cx:Nat} {v:List (Int × Rat)} {p:List Rat}
  (hv:Tq (2*L) w av v) (hx:Rqs (2*L) w ax p) (lv:v.length=k) (lp:p.length=kx) (hk:k≤64) (hL:L≤100) (hbel:∀(j:Nat) (a:Int) (q:Rat),v[j]?=some (a,q)→0≤a∧a<kx) :
  Calls Tryz.prog 89 #[.slice av k cv,.slice ax kx cx] w fun e w'=>QAns (2*(4+64*(2*L+2))) w w' e (dsum p v 0):=by
 have TV:=hid hv;have TX:=hid hx;have HBe:=hid hbel
 have h2:=ob_new w 76;have h3:=below_alloc (Below.refl w.heap.size w) (.cells #[.bool false,.slice none 0 0,.slice none 0 0] 76);clear hv hx hbel;go_enter Tryz.func89,Tryz.ntmps89;go_wp2_with fail
 generalize w.alloc (.cells #[.bool false,.slice none 0 0,.slice none 0 0] 76)=w0 at *;have OB0:=hid h2;have HB0:=hid h3
 clear h2 h3;refine (qZero_c _).mono ?_;rintro e w4 ⟨s0,x0,n0,c0,d0,y0,m0,e0,g0,rfl,hb4,hl1,hl2,hq4⟩;have OB4:=hid (OB0.out.below hb4);have HB4:=hid (HB0.out.trans (hb4.mono HB0.out.size));have HQ4:=hid hq4
 clear OB0 HB0 hb4 hq4 hl1 hl2;go_wp2_with fail
 have hSx:Sx (w4.alloc (.cells #[.bool s0,.slice x0 n0 c0,.slice y0 m0 e0] 76)) w4.heap.size s0 x0 n0 c0 y0 m0 e0:=⟨by simp,by simp [go_sem],by simp [go_sem],by simp [go_sem],fun o=>by simp only [World.frozen?,heap_alloc_new w4 (.cells #[.bool s0,.slice x0 n0 c0,.slice y0 m0 e0] 76)];simp⟩;have hal:=below_alloc (Below.refl w4.heap.size w4) (.cells #[.bool s0,.slice x0 n0 c0,.slice y0 m0 e0] 76);have hne:w.heap.size<w4.heap.size:=OB4.out.z;have ST:=hid hSx;have HB5:=hid (HB4.out.trans (hal.mono HB4.out.size));have HQ5:=hid (HQ4.out.below hal);have OB5:=hid (OB4.out.below hal)
 clear hSx hal HB4 HQ4 OB4;generalize w4.alloc (.cells #[.bool s0,.slice x0 n0 c0,.slice y0 m0 e0] 76)=w5' at *;generalize w4.heap.size=B at *;go_loopw [11] (fun t wr=>∃(i:Nat) (acc:Rat) (s:Bool) (x:Option Addr) (n c:Nat) (d:Nat→Int) (y:Option Addr) (m e:Nat) (g:Nat→Int),i≤k∧t=.int .i64 i∧Hid (Below w.heap.size w wr)∧Hid (Sx wr B s x n c y m e)∧Hid (Ob wr w.heap.size)∧Hid (Lo (4+i*(2*L+2)) acc∧Qn wr s x n d y m g acc)∧Hid (dsum p (v.drop i) acc=dsum p v 0)) (fun t _=>k-(intOf t).toNat)
 case atStart=>exact ⟨0,0,s0,x0,n0,c0,d0,y0,m0,e0,g0,by omega,rfl,HB5,ST,OB5,⟨lo_zero (by omega),HQ5.out⟩,rfl⟩
 case round =>
  clear HB5 HQ5 OB5 ST;obtain ⟨i,acc,s,x,n,c,d,y,m,e,g,hi,rfl,HB,HS,HO,HQ,HE⟩:=hrel;by_cases hlt:i<k
  ·obtain ⟨⟨a,q⟩,haq⟩:∃t,v[i]?=some t:=⟨_,List.getElem?_eq_getElem (by omega)⟩;obtain ⟨ha0,ha1⟩:=HBe.out i a q haq;obtain ⟨an,rfl⟩:=Int.eq_ofNat_of_zero_le ha0;obtain ⟨b,o,⟨ts,tx,tn,tc,tf,ty,tm,td,tg⟩,hav,hc,hr⟩:=(TV.out.below HB.out) i an q haq;obtain ⟨r,hr2⟩:∃r,p[an]?=some r:=⟨_,List.getElem?_eq_getElem (by omega)⟩;obtain ⟨b0,o0,_,hax0,hc0,_⟩:=TX.out an r hr2;have hb0:=World.block_lt_of_cell? w _ hc0.x0;obtain ⟨b',o',⟨ss,sx,sn,sc,sf,sy,sm,sd,sg⟩,hax,hc',hr'⟩:=(TX.out.below HB.out) an r hr2;have nB2:B≠b':=by
    rw [hax0] at hax;have:b0=b':=by simpa using congrArg (fun a=>(a.map Addr.block)) hax
    have hb1:b0<w.heap.size:=hb0;omega
   clear hc0 hb0 hax0;have hav2:=hav;have hax2:=hax
   subst hav2;subst hax2
   obtain ⟨x0',x1',x2',x3'⟩:=hc;obtain ⟨p0,p1,p2⟩:=hc';replace x0':wr.cell? ⟨b,o+i*4,none⟩=some (.int .i64 an):=x0';replace x1':wr.cell? ⟨b,o+i*4+1,none⟩=some (.bool ts):=x1';replace x2':wr.cell? ⟨b,o+i*4+2,none⟩=some (.slice tx tn tc):=x2';replace x3':wr.cell? ⟨b,o+i*4+3,none⟩=some (.slice ty tm td):=x3';replace p0:wr.cell? ⟨b',o'+an*3,none⟩=some (.bool ss):=p0;replace p1:wr.cell? ⟨b',o'+an*3+1,none⟩=some (.slice sx sn sc):=p1;replace p2:wr.cell? ⟨b',o'+an*3+2,none⟩=some (.slice sy sm sd):=p2;have HR1:Hid (tn≤2*L∧tm≤2*L∧Qn wr ts tx tn tf ty tm tg q):=hr;have HR2:Hid (sn≤2*L∧sm≤2*L∧Qn wr ss sx sn sf sy sm sg r):=hr';have i2:((i:Nat):Int)<((k:Nat):Int):=by omega
   have i3:((an:Nat):Int)<((kx:Nat):Int):=by omega
   have HD:Hid (dsum p (v.drop (i+1)) (acc+q*r)=dsum p v 0):=by
    show _=_;have e1:v.drop i=((an:Int),q) :: v.drop (i+1):=by
     have hl:i<v.length:=by omega
     have:v[i]=((an:Int),q):=by rw [List.getElem?_eq_getElem hl] at haq;exact Option.some.inj haq
     rw [←this];exact List.drop_eq_getElem_cons hl
    rw [←HE.out,e1];show _=dsum p _ (acc+q*p.getD (an:Int).toNat 0);rw [Int.toNat_natCast,List.getD_eq_getElem?_getD,hr2];rfl
   have nB1:B≠wr.heap.size:=by have:=HS.out.z;omega
   clear hr hr' haq hr2 hav hax HE;go_upto_region 5 with fail
   have hb5:=below_alloc (Below.refl wr.heap.size wr) (.cells #[.int .i64 an,.bool ts,.slice tx tn tc,.slice ty tm td] 155);have a0:(wr.alloc (.cells #[.int .i64 an,.bool ts,.slice tx tn tc,.slice ty tm td] 155)).cell? ⟨wr.heap.size,0,none⟩=some (.int .i64 an):=by simp [go_sem]
   have a1:(wr.alloc (.cells #[.int .i64 an,.bool ts,.slice tx tn tc,.slice ty tm td] 155)).cell? ⟨wr.heap.size,1,none⟩=some (.bool ts):=by simp [go_sem]
   have a2:(wr.alloc (.cells #[.int .i64 an,.bool ts,.slice tx tn tc,.slice ty tm td] 155)).cell? ⟨wr.heap.size,2,none⟩=some (.slice tx tn tc):=by simp [go_sem]
   have a3:(wr.alloc (.cells #[.int .i64 an,.bool ts,.slice tx tn tc,.slice ty tm td] 155)).cell? ⟨wr.heap.size,3,none⟩=some (.slice ty tm td):=by simp [go_sem]
   replace p0:=kCb hb5 p0;replace p1:=kCb hb5 p1;replace p2:=kCb hb5 p2
   replace HS:=hid (HS.out.below hb5);replace HO:=hid (HO.out.below hb5);replace HQ:=hid (And.intro HQ.out.1 (HQ.out.2.below hb5));replace HR1:=hid (And.intro HR1.out.1 (And.intro HR1.out.2.1 (HR1.out.2.2.below hb5)));replace HR2:=hid (And.intro HR2.out.1 (And.intro HR2.out.2.1 (HR2.out.2.2.below hb5)))
   replace HB:=hid (HB.out.trans (hb5.mono HB.out.size));clear x0' x1' x2' x3' hb5;generalize wr.alloc (.cells #[.int .i64 an,.bool ts,.slice tx tn tc,.slice ty tm td] 155)=w5 at *;obtain ⟨sz,u0,u1,u2,uf⟩:=HS.out;have hKi:4+i*(2*L+2)≤4+64*(2*L+2):=by
    have h1:i*(2*L+2)≤64*(2*L+2):=Nat.mul_le_mul_right _ (by omega);omega
   obtain ⟨hq1,hq2⟩:=HQ.out.2.len HQ.out.1;have CM:Hid (∀W,Below w5.heap.size w5 W→Calls Tryz.prog 80 #[.agg #[.bool ts,.slice tx tn tc,.slice ty tm td],.agg #[.bool ss,.slice sx sn sc,.slice sy sm sd]] W fun e w'=>∃s x n c d y m e' g,e=.returned (.agg #[.bool s,.slice x n c,.slice y m e'])∧Below W.heap.size W w'∧Hid (Lo (2*L+1) (q*r)∧Qn w' s x n d y m g (q*r))):=fun W hW =>
    (qMul_c (HR1.out.2.2.below hW) (HR2.out.2.2.below hW) (Nat.le_trans HR1.out.1 (by omega)) (Nat.le_trans HR1.out.2.1 (by omega)) (Nat.le_trans HR2.out.1 (by omega)) (Nat.le_trans HR2.out.2.1 (by omega))).mono (fun _ _ ⟨s,x,n,c,d,y,m,c',g,h1,h2,h3,h4,h5⟩=>⟨s,x,n,c,d,y,m,c',g,h1,h2,Lo.mono (lo_mul (HR1.out.2.2.lo HR1.out.1 HR1.out.2.1) (HR2.out.2.2.lo HR2.out.1 HR2.out.2.1)) (by omega),h5⟩)
   have CA:Hid (∀(W:World) (s1:Bool) (x1:Option Addr) (n1 c1:Nat) (d1:Nat→Int) (y1:Option Addr) (m1 e1:Nat) (g1:Nat→Int),Below w5.heap.size w5 W→Lo (2*L+1) (q*r)∧Qn W s1 x1 n1 d1 y1 m1 g1 (q*r)→Calls Tryz.prog 79 #[.agg #[.bool s,.slice x n c,.slice y m e],.agg #[.bool s1,.slice x1 n1 c1,.slice y1 m1 e1]] W fun e w'=>∃s x n c d y m e' g,e=.returned (.agg #[.bool s,.slice x n c,.slice y m e'])∧Below W.heap.size W w'∧Hid (Lo (4+(i+1)*(2*L+2)) (acc+q*r)∧Qn w' s x n d y m g (acc+q*r))):=fun W s1 x1 n1 c1 d1 y1 m1 e1 g1 hW hh=>by
    obtain ⟨k1,k2⟩:=hh.2.len hh.1;refine (qAdd_c (HQ.out.2.below hW) hh.2 (by omega) (by omega) (by omega) (by omega)).mono (fun _ _ ⟨s,x,n,c,d,y,m,c',g,h1,h2,h3,h4,h5⟩=>⟨s,x,n,c,d,y,m,c',g,h1,h2,Lo.mono (lo_add HQ.out.1 hh.1) ?_,h5⟩);rw [Nat.add_mul];omega
   clear hq1 hq2;refine wp_region_held_drew (S:=fun w'=>w'.cell? ⟨wr.heap.size,0,none⟩=some (.int .i64 an)∧w'.cell? ⟨wr.heap.size,1,none⟩=some (.bool ts)∧w'.cell? ⟨wr.heap.size,2,none⟩=some (.slice tx tn tc)∧w'.cell? ⟨wr.heap.size,3,none⟩=some (.slice ty tm td)∧w'.cell? ⟨b',o'+an*3,none⟩=some (.bool ss)∧w'.cell? ⟨b',o'+an*3+1,none⟩=some (.slice sx sn sc)∧w'.cell? ⟨b',o'+an*3+2,none⟩=some (.slice sy sm sd)) (by kernel_rfl) ?_ (fun hHeld=>?_)
   ·(refine ⟨?_,?_,?_,?_,?_,?_,?_⟩ <;> repeat (with_reducible first | assumption | refine kCd ?_))
   refine tkO 1 ?_;simp only [lay_,Act.put];refine tkO 2 ?_;simp only [lay_,Act.put];refine tkO 3 ?_;simp only [lay_,Act.put];refine tkO 4 ?_;simp only [lay_,Act.put];refine tkO 5 ?_;simp only [lay_,Act.put];refine tkO 6 ?_;simp only [lay_,Act.put];refine tkO 7 ?_;simp only [lay_,Act.put];refine wpAnyH_ready (rs:=[0,8]) (by kernel_rfl) (by simp) ?_;refine AllReadyH.cons (o:=_) rfl (fun K hK=>?_) ?_
   ·go_simp;refine hK.out _ _ ?_ (fun hHeld2=>?_)
    ·((try dsimp only);(refine ⟨?_,?_,?_,?_,?_,?_,?_⟩ <;> repeat (with_reducible first | assumption | refine kCd ?_)))
    clear hK K;try simp only [lay_,Act.put]
    refine wpAnyH_ready (rs:=[8]) (by kernel_rfl) (by simp) ?_;refine AllReadyH.cons (o:=_) rfl (fun K hK=>?_) ?_;rotate_left;exact AllReadyH.nil;go_simp
    go_at_call 80
    with_reducible refine (CM.out _ belB).mono ?_
    rintro e w6 ⟨s8,x8,n8,c8,d8,y8,m8,e8,g8,rfl,hb6,H8⟩;have B6:Below w5.heap.size w5 w6:=belB;have S6:=HS.out.below B6;obtain ⟨_,v0,v1,v2,vf6⟩:=id S6
    (try go_wp2_with fail)
    refine hK.out _ _ ?_ (fun hHeld3=>?_)
    ·((try dsimp only);(refine ⟨?_,?_,?_,?_,?_,?_,?_⟩ <;> repeat (with_reducible first | assumption | refine kCb B6 ?_)))
    clear hK K;try simp only [lay_,Act.put]
    refine wpAnyH_ready (rs:=[9]) (by kernel_rfl) (by simp) ?_;refine AllReadyH.cons (o:=_) rfl (fun K hK=>?_) ?_;rotate_left;exact AllReadyH.nil;go_simp
    go_at_call 79
    with_reducible refine (CA.out _ s8 x8 n8 c8 d8 y8 m8 e8 g8 belB ⟨H8.out.1,H8.out.2⟩).mono ?_
    rintro e w7 ⟨s9,x9,n9,c9,d9,y9,m9,e9,g9,rfl,hb7,H9⟩;have B7:Below w5.heap.size w5 w7:=belB;have S7:=HS.out.below B7;have O7:=HO.out.below B7;obtain ⟨_,t0,t1,t2,tf7⟩:=id S7
    (try go_wp2_with fail)
    refine hK.out _ _ ?_ (fun hHeld4=>?_)
    ·((try dsimp only);(refine ⟨?_,?_,?_,?_,?_,?_,?_⟩ <;> repeat (with_reducible first | assumption | refine kCb B7 ?_)))
    clear hK K;try simp only [lay_,Act.put]
    refine wpAnyH_ready (rs:=[10]) (by kernel_rfl) (by simp) ?_;refine AllReadyH.cons (o:=_) rfl (fun K hK=>?_) ?_;rotate_left;exact AllReadyH.nil;go_simp;refine hK.out _ _ ?_ (fun hHeld9=>?_)
    ·((try dsimp only);(refine ⟨?_,?_,?_,?_,?_,?_,?_⟩ <;> repeat (with_reducible first | assumption | refine kCs (by simp only [ne_eq];omega) ?_ | refine kCb B7 ?_)))
    clear hK K;try simp only [lay_,Act.put]
    refine wpAnyH_done (by kernel_rfl) ?_ _;have R1:=hid (And.intro (S7.st (s1:=s9) (x1:=x9) (n1:=n9) (c1:=c9) (y1:=y9) (m1:=m9) (d1:=e9)) (And.intro (S7.qn (u0:=.bool s9) (u1:=.slice x9 n9 c9) (u2:=.slice y9 m9 e9) H9.out.2) (And.intro (O7.far3 (u0:=.bool s9) (u1:=.slice x9 n9 c9) (u2:=.slice y9 m9 e9) (show B≠w.heap.size by omega)) (below_st (B:=B) (u0:=.bool s9) (u1:=.slice x9 n9 c9) (u2:=.slice y9 m9 e9) (HB.out.trans (B7.mono HB.out.size)) (by omega)))));have L9:=hid H9.out.1;clear hHeld a0 a1 a2 a3 p0 p1 p2 u0 u1 u2 uf t0 t1 t2 tf7 CM CA S7 O7 B7 H8 H9 HS HO HQ HR1 HR2 HB;generalize ((w7.setCell ⟨B,0,none⟩ (.bool s9)).setCell ⟨B,1,none⟩ (.slice x9 n9 c9)).setCell ⟨B,2,none⟩ (.slice y9 m9 e9)=w9 at *;go_wp2;go_roundw
    case rel=>exact ⟨i+1,acc+q*r,s9,x9,n9,c9,d9,y9,m9,e9,g9,by omega,by go_num,R1.out.2.2.2,R1.out.1,R1.out.2.2.1,⟨L9.out,R1.out.2.1⟩,HD.out⟩
    case measure=>simp [intOf];omega
   refine AllReadyH.cons (o:=_) rfl (fun K hK=>?_) ?_
   ·go_simp
    go_at_call 80
    with_reducible refine (CM.out _ belB).mono ?_
    rintro e w6 ⟨s8,x8,n8,c8,d8,y8,m8,e8,g8,rfl,hb6,H8⟩;have B6:Below w5.heap.size w5 w6:=belB;have S6:=HS.out.below B6;obtain ⟨_,v0,v1,v2,vf6⟩:=id S6
    (try go_wp2_with fail)
    refine hK.out _ _ ?_ (fun hHeld3=>?_)
    ·((try dsimp only);(refine ⟨?_,?_,?_,?_,?_,?_,?_⟩ <;> repeat (with_reducible first | assumption | refine kCb B6 ?_)))
    clear hK K;try simp only [lay_,Act.put]
    refine wpAnyH_ready (rs:=[0]) (by kernel_rfl) (by simp) ?_;refine AllReadyH.cons (o:=_) rfl (fun K hK=>?_) ?_;rotate_left;exact AllReadyH.nil;go_simp;refine hK.out _ _ ?_ (fun hHeld2=>?_)
    ·((try dsimp only);(refine ⟨?_,?_,?_,?_,?_,?_,?_⟩ <;> repeat (with_reducible first | assumption | refine kCb B6 ?_)))
    clear hK K;try simp only [lay_,Act.put]
    refine wpAnyH_ready (rs:=[9]) (by kernel_rfl) (by simp) ?_;refine AllReadyH.cons (o:=_) rfl (fun K hK=>?_) ?_;rotate_left;exact AllReadyH.nil;go_simp
    go_at_call 79
    with_reducible refine (CA.out _ s8 x8 n8 c8 d8 y8 m8 e8 g8 belB ⟨H8.out.1,H8.out.2⟩).mono ?_
    rintro e w7 ⟨s9,x9,n9,c9,d9,y9,m9,e9,g9,rfl,hb7,H9⟩;have B7:Below w5.heap.size w5 w7:=belB;have S7:=HS.out.below B7;have O7:=HO.out.below B7;obtain ⟨_,t0,t1,t2,tf7⟩:=id S7
    (try go_wp2_with fail)
    refine hK.out _ _ ?_ (fun hHeld4=>?_)
    ·((try dsimp only);(refine ⟨?_,?_,?_,?_,?_,?_,?_⟩ <;> repeat (with_reducible first | assumption | refine kCb B7 ?_)))
    clear hK K;try simp only [lay_,Act.put]
    refine wpAnyH_ready (rs:=[10]) (by kernel_rfl) (by simp) ?_;refine AllReadyH.cons (o:=_) rfl (fun K hK=>?_) ?_;rotate_left;exact AllReadyH.nil;go_simp;refine hK.out _ _ ?_ (fun hHeld9=>?_)
    ·((try dsimp only);(refine ⟨?_,?_,?_,?_,?_,?_,?_⟩ <;> repeat (with_reducible first | assumption | refine kCs (by simp only [ne_eq];omega) ?_ | refine kCb B7 ?_)))
    clear hK K;try simp only [lay_,Act.put]
    refine wpAnyH_done (by kernel_rfl) ?_ _;have R1:=hid (And.intro (S7.st (s1:=s9) (x1:=x9) (n1:=n9) (c1:=c9) (y1:=y9) (m1:=m9) (d1:=e9)) (And.intro (S7.qn (u0:=.bool s9) (u1:=.slice x9 n9 c9) (u2:=.slice y9 m9 e9) H9.out.2) (And.intro (O7.far3 (u0:=.bool s9) (u1:=.slice x9 n9 c9) (u2:=.slice y9 m9 e9) (show B≠w.heap.size by omega)) (below_st (B:=B) (u0:=.bool s9) (u1:=.slice x9 n9 c9) (u2:=.slice y9 m9 e9) (HB.out.trans (B7.mono HB.out.size)) (by omega)))));have L9:=hid H9.out.1;clear hHeld a0 a1 a2 a3 p0 p1 p2 u0 u1 u2 uf t0 t1 t2 tf7 CM CA S7 O7 B7 H8 H9 HS HO HQ HR1 HR2 HB;generalize ((w7.setCell ⟨B,0,none⟩ (.bool s9)).setCell ⟨B,1,none⟩ (.slice x9 n9 c9)).setCell ⟨B,2,none⟩ (.slice y9 m9 e9)=w9 at *;go_wp2;go_roundw
    case rel=>exact ⟨i+1,acc+q*r,s9,x9,n9,c9,d9,y9,m9,e9,g9,by omega,by go_num,R1.out.2.2.2,R1.out.1,R1.out.2.2.1,⟨L9.out,R1.out.2.1⟩,HD.out⟩
    case measure=>simp [intOf];omega
   exact AllReadyH.nil
  ·have e1:i=k:=by omega
   have HF:Hid (acc=dsum p v 0):=by
    show _=_;rw [←HE.out,e1,←lv,List.drop_length];rfl
   have i2:¬(((i:Nat):Int)<((k:Nat):Int)):=by omega
   have hKi:4+i*(2*L+2)≤4+64*(2*L+2):=by
    have h1:i*(2*L+2)≤64*(2*L+2):=Nat.mul_le_mul_right _ (by omega);omega
   obtain ⟨hq1,hq2⟩:=HQ.out.2.len HQ.out.1;obtain ⟨sz,u0,u1,u2,uf⟩:=HS.out;obtain ⟨hz,z0,z1,z2,zf⟩:=HO.out;clear e1 HE;go_wp2;exact bodyPost_ret (v:=.agg #[.bool s,.slice x n c,.slice y m e]) (by simp [results,Tryz.results89,go_sem,z0,z1,z2]) rfl ⟨s,x,n,c,d,y,m,e,g,rfl,below_st HB.out (by omega),by omega,by omega,by rw [←HF.out];exact HO.out.qn HQ.out.2⟩
def KE (L:Nat):Nat:=2*(4+64*(2*L+2))
theorem qnt_up {K K' w t q} (h:QnT K w t q) (hk:K≤K'):QnT K' w t q:=⟨Nat.le_trans h.1 hk,Nat.le_trans h.2.1 hk,h.2.2⟩
theorem goB_fr (q:Rat) (li hi:Int):goB q li hi=frB q li hi:=by
 unfold goB frB;by_cases h0:q=0
 ·subst h0;have h2:¬(0:Rat)<0:=by decide
  rw [if_pos rfl,decide_eq_false h2];simp only [Bool.and_false,Bool.not_false,Bool.and_self]
 ·by_cases h1:q<0
  ·have h2:¬(0:Rat)<q:=by grind
   rw [if_neg h0,if_pos h1,decide_eq_true h1,decide_eq_false h2];by_cases h3:li=0
   ·subst h3;rfl
   ·rw [decide_eq_false h3,decide_eq_true h3,Bool.and_false];rfl
  ·have h2:(0:Rat)<q:=by grind
   rw [if_neg h0,if_neg h1,decide_eq_false h1,decide_eq_true h2];by_cases h3:hi=0
   ·subst h3;rw [Bool.and_false];rfl
   ·rw [decide_eq_false h3,decide_eq_true h3,Bool.and_false];rfl
theorem feasB_all (cs:List CV) (rs:List RV) (xs:List Rat):feasB cs rs xs=(allB (fun j=>!(bcB cs xs j)) cs.length && allB (fun j=>!(brB rs xs j)) rs.length):=by
 rw [Bool.eq_iff_iff];simp only [feasB,Bool.and_eq_true,decide_eq_true_eq,crl_nil,allB_iff,Bool.not_eq_true']
theorem allB_no {B:Nat→Bool} {n j:Nat} (h:j<n) (hj:B j=false):allB B n=false:=by
 cases e:allB B n
 ·rfl
 ·have:=allB_iff.1 e j h;rw [hj] at this;cases this
set_option maxRecDepth 100000 in
set_option maxHeartbeats 8000000 in
theorem rFeas_c {w:World} {L:Nat} {M:Mo} {off:Rat} {cs:List CV} {rs:List RV} {ax:Option Addr} {k cap:Nat} {xs:List Rat} (h:MqV (2*L) w M off cs rs) (hx:Rqs (2*L) w ax xs) (hk:xs.length=k) (hkc:k=cs.length) (hm:MvP cs rs) (hL:L≤60) :
  Calls Tryz.prog 107 #[M.val,.slice ax k cap] w fun e w'=>e=.returned (.bool (allB (fun j=>!(bcB cs xs j)) cs.length && allB (fun j=>!(brB rs xs j)) rs.length))∧Below w.heap.size w w':=by
 have hP:=hid hm;obtain ⟨⟨s,x,n,c,f,y,m,d,g⟩,ca,ck,cc,C,ra,rk,rc,R⟩:=M;have hck:ck=cs.length:=h.ck;have hrk:rk=rs.length:=h.rk;subst hck;subst hrk;have HC:Hid (∀j v,cs[j]?=some v→(∃b o,ca=some ⟨b,o,none⟩∧Cs w b (o+j*12) (C j).vs)∧QcV (2*L) w (C j) v):=h.cls;have HR:Hid (∀j v,rs[j]?=some v→(∃b o,ra=some ⟨b,o,none⟩∧Cs w b (o+j*10) (R j).vs)∧QrV (2*L) w (R j) v):=h.rls;have HX:=hid hx;clear h hx;subst hkc;have hcl:=hP.out.cl;have hrl:=hP.out.rl;have HB0:=hid (below_alloc (Below.refl w.heap.size w) (.cells #[.bool s,.slice x n c,.slice y m d,.slice ca cs.length cc,.slice ra rs.length rc] 101));have BM:Hid (Bk (w.alloc (.cells #[.bool s,.slice x n c,.slice y m d,.slice ca cs.length cc,.slice ra rs.length rc] 101)) w.heap.size [.bool s,.slice x n c,.slice y m d,.slice ca cs.length cc,.slice ra rs.length rc] 101):=bk_new w [.bool s,.slice x n c,.slice y m d,.slice ca cs.length cc,.slice ra rs.length rc] 101;obtain ⟨pc,hpc⟩:∃t,(fun j=>!(bcB cs xs j))=t:=⟨_,rfl⟩;obtain ⟨pr,hpr⟩:∃t,(fun j=>!(brB rs xs j))=t:=⟨_,rfl⟩;rw [hpc,hpr];have HPC:=hid hpc;have HPR:=hid hpr
 clear hpc hpr;show Calls Tryz.prog 107 #[.agg #[.bool s,.slice x n c,.slice y m d,.slice ca cs.length cc,.slice ra rs.length rc],.slice ax cs.length cap] w _;have r3:=BM.out.cell (j:=3) rfl;go_enter Tryz.func107,Tryz.ntmps107;go_wp2_with fail
 clear r3;generalize (w.alloc (.cells #[.bool s,.slice x n c,.slice y m d,.slice ca cs.length cc,.slice ra rs.length rc] 101))=w0 at *;go_loopw [12] (fun t wr=>∃(i:Nat),i≤cs.length∧t=.int .i64 i∧Hid (Below w0.heap.size w0 wr)∧Hid (∀j,j<i→pc j=true)) (fun t _=>cs.length-(intOf t).toNat)
 case atStart=>exact ⟨0,by omega,rfl,Below.refl _ _,fun j hj=>by omega⟩
 case round =>
  obtain ⟨i,hi,rfl,HB,HT⟩:=hrel;by_cases hlt:i<cs.length
  ·obtain ⟨v,hv⟩:∃v,cs[i]?=some v:=⟨_,List.getElem?_eq_getElem hlt⟩;obtain ⟨q,hq⟩:∃t,xs[i]?=some t:=⟨_,List.getElem?_eq_getElem (by omega)⟩;have hbw:=HB0.out.trans (HB.out.mono HB0.out.size);obtain ⟨⟨b,o,hca,hc0⟩,hn⟩:=HC.out i v hv;subst hca;have hc:=hc0.below hbw;replace hn:=hn.below hbw;obtain ⟨b',o',⟨s3,x3,n3,c3,f3,y3,m3,d3,g3⟩,hax,hcx,hqx⟩:=(HX.out.below hbw) i q hq;subst hax;have hbd:=hP.out.cb v (List.mem_of_getElem? hv);obtain ⟨t1,ht1⟩:∃t,pc i=t:=⟨_,rfl⟩;have CA:=hid (fun W (hW:Below wr.heap.size wr W)=>rKeeps_c (K:=2*L) (w:=W) (hn.lq.below hW) hn.li (hn.hq.below hW) hn.hi (hqx.below hW) (by omega) hbd);rw [show kpsB q v.li v.lq v.hi v.hq=t1 from by rw [←ht1,←HPC.out];simp only [bcB,hv,hq,Bool.not_not]] at CA;obtain ⟨⟨z,⟨s0,x0,n0,c0,f0,y0,m0,d0,g0⟩,⟨i1,⟨s1,x1,n1,c1,f1,y1,m1,d1,g1⟩⟩,⟨i2,⟨s2,x2,n2,c2,f2,y2,m2,d2,g2⟩⟩⟩,hCi⟩:∃t,C i=t:=⟨_,rfl⟩;rw [hCi] at hc CA;replace CA:Hid (∀W,Below wr.heap.size wr W→Calls Tryz.prog 125 #[.agg #[.int .i64 i1,.bool s1,.slice x1 n1 c1,.slice y1 m1 d1],.agg #[.int .i64 i2,.bool s2,.slice x2 n2 c2,.slice y2 m2 d2],.agg #[.bool s3,.slice x3 n3 c3,.slice y3 m3 d3]] W fun e w2=>e=.returned (.bool t1)∧Below W.heap.size W w2):=CA;have q0:wr.cell? ⟨b,o+i*12,none⟩=some (.string z):=hc 0 _ rfl;have q1:wr.cell? ⟨b,o+i*12+1,none⟩=some (.bool s0):=hc 1 _ rfl;have q2:wr.cell? ⟨b,o+i*12+2,none⟩=some (.slice x0 n0 c0):=hc 2 _ rfl;have q3:wr.cell? ⟨b,o+i*12+3,none⟩=some (.slice y0 m0 d0):=hc 3 _ rfl;have q4:wr.cell? ⟨b,o+i*12+4,none⟩=some (.int .i64 i1):=hc 4 _ rfl;have q5:wr.cell? ⟨b,o+i*12+5,none⟩=some (.bool s1):=hc 5 _ rfl;have q6:wr.cell? ⟨b,o+i*12+6,none⟩=some (.slice x1 n1 c1):=hc 6 _ rfl;have q7:wr.cell? ⟨b,o+i*12+7,none⟩=some (.slice y1 m1 d1):=hc 7 _ rfl;have q8:wr.cell? ⟨b,o+i*12+8,none⟩=some (.int .i64 i2):=hc 8 _ rfl;have q9:wr.cell? ⟨b,o+i*12+9,none⟩=some (.bool s2):=hc 9 _ rfl;have q10:wr.cell? ⟨b,o+i*12+10,none⟩=some (.slice x2 n2 c2):=hc 10 _ rfl;have q11:wr.cell? ⟨b,o+i*12+11,none⟩=some (.slice y2 m2 d2):=hc 11 _ rfl;obtain ⟨p0,p1,p2⟩:=hcx;replace p0:wr.cell? ⟨b',o'+i*3,none⟩=some (.bool s3):=p0;replace p1:wr.cell? ⟨b',o'+i*3+1,none⟩=some (.slice x3 n3 c3):=p1;replace p2:wr.cell? ⟨b',o'+i*3+2,none⟩=some (.slice y3 m3 d3):=p2;have hbt:=below_alloc (Below.refl wr.heap.size wr) (.cells #[.string z,.bool s0,.slice x0 n0 c0,.slice y0 m0 d0,.int .i64 i1,.bool s1,.slice x1 n1 c1,.slice y1 m1 d1,.int .i64 i2,.bool s2,.slice x2 n2 c2,.slice y2 m2 d2] 127);have BC:Bk (wr.alloc (.cells #[.string z,.bool s0,.slice x0 n0 c0,.slice y0 m0 d0,.int .i64 i1,.bool s1,.slice x1 n1 c1,.slice y1 m1 d1,.int .i64 i2,.bool s2,.slice x2 n2 c2,.slice y2 m2 d2] 127)) wr.heap.size [.string z,.bool s0,.slice x0 n0 c0,.slice y0 m0 d0,.int .i64 i1,.bool s1,.slice x1 n1 c1,.slice y1 m1 d1,.int .i64 i2,.bool s2,.slice x2 n2 c2,.slice y2 m2 d2] 127:=bk_new wr [.string z,.bool s0,.slice x0 n0 c0,.slice y0 m0 d0,.int .i64 i1,.bool s1,.slice x1 n1 c1,.slice y1 m1 d1,.int .i64 i2,.bool s2,.slice x2 n2 c2,.slice y2 m2 d2] 127;have HT1:=hid ht1;have i1':((i:Nat):Int)<((cs.length:Nat):Int):=by omega
   clear hCi hc hc0 hn ht1 hv hq hqx hbd hbw;go_upto_region 4 with fail
   clear q0 q1 q2 q3 q4 q5 q6 q7 q8 q9 q10 q11;replace p0:=kCb hbt p0;replace p1:=kCb hbt p1;replace p2:=kCb hbt p2
   have a4:=BC.cell (j:=4) rfl;have a5:=BC.cell (j:=5) rfl;have a6:=BC.cell (j:=6) rfl;have a7:=BC.cell (j:=7) rfl;have a8:=BC.cell (j:=8) rfl;have a9:=BC.cell (j:=9) rfl;have a10:=BC.cell (j:=10) rfl;have a11:=BC.cell (j:=11) rfl;replace CA:=hid (fun W (hW:Below (wr.alloc (.cells #[.string z,.bool s0,.slice x0 n0 c0,.slice y0 m0 d0,.int .i64 i1,.bool s1,.slice x1 n1 c1,.slice y1 m1 d1,.int .i64 i2,.bool s2,.slice x2 n2 c2,.slice y2 m2 d2] 127)).heap.size (wr.alloc (.cells #[.string z,.bool s0,.slice x0 n0 c0,.slice y0 m0 d0,.int .i64 i1,.bool s1,.slice x1 n1 c1,.slice y1 m1 d1,.int .i64 i2,.bool s2,.slice x2 n2 c2,.slice y2 m2 d2] 127)) W)=>CA.out W (hbt.trans (hW.mono hbt.size)));replace HB:=hid (HB.out.trans (hbt.mono HB.out.size));clear hbt BC;generalize hbx:wr.heap.size=bx at *;generalize wr.alloc (.cells #[.string z,.bool s0,.slice x0 n0 c0,.slice y0 m0 d0,.int .i64 i1,.bool s1,.slice x1 n1 c1,.slice y1 m1 d1,.int .i64 i2,.bool s2,.slice x2 n2 c2,.slice y2 m2 d2] 127)=w5 at *;clear hbx;refine wp_region_held_drew (S:=(fun w'=>w'.cell? ⟨bx,4,none⟩=some (.int .i64 i1)∧w'.cell? ⟨bx,5,none⟩=some (.bool s1)∧w'.cell? ⟨bx,6,none⟩=some (.slice x1 n1 c1)∧w'.cell? ⟨bx,7,none⟩=some (.slice y1 m1 d1)∧w'.cell? ⟨bx,8,none⟩=some (.int .i64 i2)∧w'.cell? ⟨bx,9,none⟩=some (.bool s2)∧w'.cell? ⟨bx,10,none⟩=some (.slice x2 n2 c2)∧w'.cell? ⟨bx,11,none⟩=some (.slice y2 m2 d2)∧w'.cell? ⟨b',o'+i*3,none⟩=some (.bool s3)∧w'.cell? ⟨b',o'+i*3+1,none⟩=some (.slice x3 n3 c3)∧w'.cell? ⟨b',o'+i*3+2,none⟩=some (.slice y3 m3 d3))) (by kernel_rfl) ?_ (fun hHeld=>?_)
   ·(refine ⟨?_,?_,?_,?_,?_,?_,?_,?_,?_,?_,?_⟩ <;> repeat (with_reducible first | assumption | refine kCd ?_))
   refine tkO 0 ?_;simp only [lay_,Act.put];refine tkO 1 ?_;simp only [lay_,Act.put];refine tkO 2 ?_;simp only [lay_,Act.put];refine tkO 3 ?_;simp only [lay_,Act.put];refine tkO 4 ?_;simp only [lay_,Act.put];refine tkO 5 ?_;simp only [lay_,Act.put];refine tkO 6 ?_;simp only [lay_,Act.put];refine tkO 7 ?_;simp only [lay_,Act.put];refine wpAnyH_ready (rs:=[8]) (by kernel_rfl) (by simp) ?_;refine AllReadyH.cons (o:=_) rfl (fun K hK=>?_) ?_;rotate_left;exact AllReadyH.nil;go_simp
   go_at_call 125
   refine (CA.out _ (Below.drew (Below.refl _ _))).mono ?_;rintro e w6 ⟨rfl,hb6⟩
   (try go_wp2_with fail)
   refine hK.out _ _ ?_ (fun hH=>?_)
   ·((try dsimp only);(refine ⟨?_,?_,?_,?_,?_,?_,?_,?_,?_,?_,?_⟩ <;> repeat (with_reducible first | assumption | refine kCb (by assumption) ?_ | refine kCd ?_)))
   clear hK K;try simp only [lay_,Act.put]
   refine tkO 9 ?_;simp only [lay_,Act.put];refine wpAnyH_done (by kernel_rfl) ?_ _;replace HB:=hid (HB.out.drew.trans (hb6.mono HB.out.drew.size));clear hHeld hH hb6 CA p0 p1 p2 a4 a5 a6 a7 a8 a9 a10 a11;cases t1
   ·have HF:Hid (allB pc cs.length=false):=allB_no hlt HT1.out;clear HT1 HT;go_wp2;go_ret;exact ⟨by rw [HF.out];rfl,HB0.out.trans (HB.out.mono HB0.out.size)⟩
   ·have HT2:Hid (∀j,j<i+1→pc j=true):=fun j hj=>by
     by_cases e:j=i
     ·rw [e];exact HT1.out
     ·exact HT.out j (by omega)
    clear HT1 HT;go_wp2;go_roundw
    case rel=>exact ⟨i+1,by omega,by go_num,HB.out,HT2.out⟩
    case measure=>simp [intOf];omega
  ·have e1:i=cs.length:=by omega
   have i4':¬(((i:Nat):Int)<((cs.length:Nat):Int)):=by omega
   rw [e1] at HT;have HAC:Hid (allB pc cs.length=true):=allB_iff.2 HT.out;have r4:=(BM.out.below HB.out).cell (j:=4) rfl;have HW:=hid HB.out;clear e1 HT HB;go_wp2_with fail
   clear r4 i4' hi;generalize wr=w1 at *;go_loopw [31] (fun t wr=>∃(i:Nat),i≤rs.length∧t=.int .i64 i∧Hid (Below w1.heap.size w1 wr)∧Hid (∀j,j<i→pr j=true)) (fun t _=>rs.length-(intOf t).toNat)
   case atStart=>exact ⟨0,by omega,rfl,Below.refl _ _,fun j hj=>by omega⟩
   case round =>
    obtain ⟨i,hi,rfl,HB,HT⟩:=hrel;by_cases hlt:i<rs.length
    ·obtain ⟨v,hv⟩:∃v,rs[i]?=some v:=⟨_,List.getElem?_eq_getElem hlt⟩;have hbw:=(HB0.out.trans (HW.out.mono HB0.out.size)).trans (HB.out.mono (Nat.le_trans HB0.out.size HW.out.size));obtain ⟨⟨b,o,hra,hc0⟩,hn⟩:=HR.out i v hv;subst hra;have hc:=hc0.below hbw;replace hn:=hn.below hbw;have hvm:=List.mem_of_getElem? hv;have hbd:=hP.out.rb v hvm;obtain ⟨t1,ht1⟩:∃t,pr i=t:=⟨_,rfl⟩;have CA:Hid (∀(t:Nm) W,Below wr.heap.size wr W→QnT (KE L) W t (dsum xs v.ts 0)→Calls Tryz.prog 125 #[(R i).lo.val,(R i).hi.val,t.val] W fun e w2=>e=.returned (.bool t1)∧Below W.heap.size W w2):=fun t W hW ht=>by
      have:=rKeeps_c (K:=KE L) (w:=W) (qnt_up (hn.lq.below hW) (by unfold KE;omega)) hn.li (qnt_up (hn.hq.below hW) (by unfold KE;omega)) hn.hi ht (by unfold KE;omega) hbd;rw [show kpsB (dsum xs v.ts 0) v.li v.lq v.hi v.hq=t1 from by rw [←ht1,←HPR.out];simp only [brB,hv,Bool.not_not,actQ,dsum_psum]] at this;exact this
     have CD:Hid (∀W,Below wr.heap.size wr W→Calls Tryz.prog 89 #[.slice (R i).ta (R i).tk (R i).tc,.slice ax cs.length cap] W fun e w2=>QAns (KE L) W w2 e (dsum xs v.ts 0)):=fun W hW=>fDot_c (L:=L) (hn.tl.below hW) ((HX.out.below hbw).below hW) hn.tk.symm hk (by rw [hn.tk];exact hP.out.tl v hvm) (by omega) (fun j a q e=>hP.out.tc v hvm (a,q) (List.mem_of_getElem? e))
     obtain ⟨⟨z,⟨i1,⟨s1,x1,n1,c1,f1,y1,m1,d1,g1⟩⟩,⟨i2,⟨s2,x2,n2,c2,f2,y2,m2,d2,g2⟩⟩,ta,tk,tc,tcol,tt⟩,hCi⟩:∃t,R i=t:=⟨_,rfl⟩;rw [hCi] at hc CA CD;replace CA:Hid (∀(t:Nm) W,Below wr.heap.size wr W→QnT (KE L) W t (dsum xs v.ts 0)→Calls Tryz.prog 125 #[.agg #[.int .i64 i1,.bool s1,.slice x1 n1 c1,.slice y1 m1 d1],.agg #[.int .i64 i2,.bool s2,.slice x2 n2 c2,.slice y2 m2 d2],t.val] W fun e w2=>e=.returned (.bool t1)∧Below W.heap.size W w2):=CA;replace CD:Hid (∀W,Below wr.heap.size wr W→Calls Tryz.prog 89 #[.slice ta tk tc,.slice ax cs.length cap] W fun e w2=>QAns (KE L) W w2 e (dsum xs v.ts 0)):=CD;have q0:wr.cell? ⟨b,o+i*10,none⟩=some (.string z):=hc 0 _ rfl;have q1:wr.cell? ⟨b,o+i*10+1,none⟩=some (.int .i64 i1):=hc 1 _ rfl;have q2:wr.cell? ⟨b,o+i*10+2,none⟩=some (.bool s1):=hc 2 _ rfl;have q3:wr.cell? ⟨b,o+i*10+3,none⟩=some (.slice x1 n1 c1):=hc 3 _ rfl;have q4:wr.cell? ⟨b,o+i*10+4,none⟩=some (.slice y1 m1 d1):=hc 4 _ rfl;have q5:wr.cell? ⟨b,o+i*10+5,none⟩=some (.int .i64 i2):=hc 5 _ rfl;have q6:wr.cell? ⟨b,o+i*10+6,none⟩=some (.bool s2):=hc 6 _ rfl;have q7:wr.cell? ⟨b,o+i*10+7,none⟩=some (.slice x2 n2 c2):=hc 7 _ rfl;have q8:wr.cell? ⟨b,o+i*10+8,none⟩=some (.slice y2 m2 d2):=hc 8 _ rfl;have q9:wr.cell? ⟨b,o+i*10+9,none⟩=some (.slice ta tk tc):=hc 9 _ rfl;have hbt:=below_alloc (Below.refl wr.heap.size wr) (.cells #[.string z,.int .i64 i1,.bool s1,.slice x1 n1 c1,.slice y1 m1 d1,.int .i64 i2,.bool s2,.slice x2 n2 c2,.slice y2 m2 d2,.slice ta tk tc] 134);have BC:Bk (wr.alloc (.cells #[.string z,.int .i64 i1,.bool s1,.slice x1 n1 c1,.slice y1 m1 d1,.int .i64 i2,.bool s2,.slice x2 n2 c2,.slice y2 m2 d2,.slice ta tk tc] 134)) wr.heap.size [.string z,.int .i64 i1,.bool s1,.slice x1 n1 c1,.slice y1 m1 d1,.int .i64 i2,.bool s2,.slice x2 n2 c2,.slice y2 m2 d2,.slice ta tk tc] 134:=bk_new wr [.string z,.int .i64 i1,.bool s1,.slice x1 n1 c1,.slice y1 m1 d1,.int .i64 i2,.bool s2,.slice x2 n2 c2,.slice y2 m2 d2,.slice ta tk tc] 134;have HT1:=hid ht1;have i1':((i:Nat):Int)<((rs.length:Nat):Int):=by omega
     clear hCi hc hc0 hn ht1 hv hvm hbd hbw;go_upto_region 10 with fail
     clear q0 q1 q2 q3 q4 q5 q6 q7 q8 q9;have a1:=BC.cell (j:=1) rfl;have a2:=BC.cell (j:=2) rfl;have a3:=BC.cell (j:=3) rfl;have a4:=BC.cell (j:=4) rfl;have a5:=BC.cell (j:=5) rfl;have a6:=BC.cell (j:=6) rfl;have a7:=BC.cell (j:=7) rfl;have a8:=BC.cell (j:=8) rfl;have a9:=BC.cell (j:=9) rfl;replace CA:=hid (fun (t:Nm) W (hW:Below (wr.alloc (.cells #[.string z,.int .i64 i1,.bool s1,.slice x1 n1 c1,.slice y1 m1 d1,.int .i64 i2,.bool s2,.slice x2 n2 c2,.slice y2 m2 d2,.slice ta tk tc] 134)).heap.size (wr.alloc (.cells #[.string z,.int .i64 i1,.bool s1,.slice x1 n1 c1,.slice y1 m1 d1,.int .i64 i2,.bool s2,.slice x2 n2 c2,.slice y2 m2 d2,.slice ta tk tc] 134)) W)=>CA.out t W (hbt.trans (hW.mono hbt.size)));replace CD:=hid (fun W (hW:Below (wr.alloc (.cells #[.string z,.int .i64 i1,.bool s1,.slice x1 n1 c1,.slice y1 m1 d1,.int .i64 i2,.bool s2,.slice x2 n2 c2,.slice y2 m2 d2,.slice ta tk tc] 134)).heap.size (wr.alloc (.cells #[.string z,.int .i64 i1,.bool s1,.slice x1 n1 c1,.slice y1 m1 d1,.int .i64 i2,.bool s2,.slice x2 n2 c2,.slice y2 m2 d2,.slice ta tk tc] 134)) W)=>CD.out W (hbt.trans (hW.mono hbt.size)));replace HB:=hid (HB.out.trans (hbt.mono HB.out.size));clear hbt BC;generalize hbx:wr.heap.size=bx at *;generalize wr.alloc (.cells #[.string z,.int .i64 i1,.bool s1,.slice x1 n1 c1,.slice y1 m1 d1,.int .i64 i2,.bool s2,.slice x2 n2 c2,.slice y2 m2 d2,.slice ta tk tc] 134)=w5 at *;clear hbx;refine wp_region_held_drew (S:=(fun w'=>w'.cell? ⟨bx,1,none⟩=some (.int .i64 i1)∧w'.cell? ⟨bx,2,none⟩=some (.bool s1)∧w'.cell? ⟨bx,3,none⟩=some (.slice x1 n1 c1)∧w'.cell? ⟨bx,4,none⟩=some (.slice y1 m1 d1)∧w'.cell? ⟨bx,5,none⟩=some (.int .i64 i2)∧w'.cell? ⟨bx,6,none⟩=some (.bool s2)∧w'.cell? ⟨bx,7,none⟩=some (.slice x2 n2 c2)∧w'.cell? ⟨bx,8,none⟩=some (.slice y2 m2 d2)∧w'.cell? ⟨bx,9,none⟩=some (.slice ta tk tc))) (by kernel_rfl) ?_ (fun hHeld=>?_)
     ·(refine ⟨?_,?_,?_,?_,?_,?_,?_,?_,?_⟩ <;> repeat (with_reducible first | assumption | refine kCd ?_))
     refine tkO 0 ?_;simp only [lay_,Act.put];refine tkO 1 ?_;simp only [lay_,Act.put];refine tkO 2 ?_;simp only [lay_,Act.put];refine tkO 3 ?_;simp only [lay_,Act.put];refine tkO 4 ?_;simp only [lay_,Act.put];refine tkO 5 ?_;simp only [lay_,Act.put];refine tkO 6 ?_;simp only [lay_,Act.put];refine wpAnyH_ready (rs:=[7]) (by kernel_rfl) (by simp) ?_;refine AllReadyH.cons (o:=_) rfl (fun K hK=>?_) ?_;rotate_left;exact AllReadyH.nil;go_simp
     go_at_call 89
     refine (CD.out _ (Below.drew (Below.refl _ _))).mono ?_;rintro e w6 ⟨s4,x4,n4,c4,f4,y4,m4,d4,g4,rfl,hb6,hq1,hq2,hq⟩
     (try go_wp2_with fail)
     refine hK.out _ _ ?_ (fun hH6=>?_)
     ·((try dsimp only);(refine ⟨?_,?_,?_,?_,?_,?_,?_,?_,?_⟩ <;> repeat (with_reducible first | assumption | refine kCb (by assumption) ?_ | refine kCd ?_)))
     clear hK K;try simp only [lay_,Act.put]
     refine wpAnyH_ready (rs:=[8]) (by kernel_rfl) (by simp) ?_;refine AllReadyH.cons (o:=_) rfl (fun K hK=>?_) ?_;rotate_left;exact AllReadyH.nil;go_simp
     go_at_call 125
     refine (CA.out ⟨s4,x4,n4,c4,f4,y4,m4,d4,g4⟩ w6 belB ⟨hq1,hq2,hq⟩).mono ?_;rintro e w7 ⟨rfl,hb7⟩
     (try go_wp2_with fail)
     refine hK.out _ _ ?_ (fun hH7=>?_)
     ·((try dsimp only);(refine ⟨?_,?_,?_,?_,?_,?_,?_,?_,?_⟩ <;> repeat (with_reducible first | assumption | refine kCb (by assumption) ?_ | refine kCd ?_)))
     clear hK K;try simp only [lay_,Act.put]
     refine tkO 9 ?_;simp only [lay_,Act.put];refine wpAnyH_done (by kernel_rfl) ?_ _;replace HB:=hid (HB.out.drew.trans (hb6.mono HB.out.drew.size));replace HB:=hid (HB.out.trans (hb7.mono HB.out.size));clear hHeld hH6 hH7 hb6 hb7 hq1 hq2 hq CA CD a1 a2 a3 a4 a5 a6 a7 a8 a9;cases t1
     ·have HF:Hid (allB pr rs.length=false):=allB_no hlt HT1.out;clear HT1 HT;go_wp2;go_ret;exact ⟨by rw [HF.out,Bool.and_false];rfl,(HB0.out.trans (HW.out.mono HB0.out.size)).trans (HB.out.mono (Nat.le_trans HB0.out.size HW.out.size))⟩
     ·have HT2:Hid (∀j,j<i+1→pr j=true):=fun j hj=>by
       by_cases e:j=i
       ·rw [e];exact HT1.out
       ·exact HT.out j (by omega)
      clear HT1 HT;go_wp2;go_roundw
      case rel=>exact ⟨i+1,by omega,by go_num,HB.out,HT2.out⟩
      case measure=>simp [intOf];omega
    ·have e1:i=rs.length:=by omega
     have i4':¬(((i:Nat):Int)<((rs.length:Nat):Int)):=by omega
     rw [e1] at HT;have HAR:Hid (allB pr rs.length=true):=allB_iff.2 HT.out;clear e1 HT;go_wp2;go_ret;exact ⟨by rw [HAC.out,HAR.out];rfl,(HB0.out.trans (HW.out.mono HB0.out.size)).trans (HB.out.mono (Nat.le_trans HB0.out.size HW.out.size))⟩
set_option maxRecDepth 100000 in
set_option maxHeartbeats 8000000 in
theorem rRecd_c {w:World} {L:Nat} {M:Mo} {off:Rat} {cs:List CV} {rs:List RV} {ax:Option Addr} {k cap:Nat} {xs:List Rat} (h:MqV (2*L) w M off cs rs) (hx:Rqs (2*L) w ax xs) (hk:xs.length=k) (hkc:k=cs.length) (hm:MvP cs rs) (hL:L≤60) :
  Calls Tryz.prog 63 #[M.val,.slice ax k cap] w fun e w'=>e=.returned (.bool (allB (fcB cs xs) cs.length && allB (frwB rs (rs.map (actQ xs))) rs.length))∧Below w.heap.size w w':=by
 have hP:=hid hm;obtain ⟨⟨s,x,n,c,f,y,m,d,g⟩,ca,ck,cc,C,ra,rk,rc,R⟩:=M;have hck:ck=cs.length:=h.ck;have hrk:rk=rs.length:=h.rk;subst hck;subst hrk;have HC:Hid (∀j v,cs[j]?=some v→(∃b o,ca=some ⟨b,o,none⟩∧Cs w b (o+j*12) (C j).vs)∧QcV (2*L) w (C j) v):=h.cls;have HR:Hid (∀j v,rs[j]?=some v→(∃b o,ra=some ⟨b,o,none⟩∧Cs w b (o+j*10) (R j).vs)∧QrV (2*L) w (R j) v):=h.rls;have HX:=hid hx;clear h hx;subst hkc;have hcl:=hP.out.cl;have hrl:=hP.out.rl;have HB0:=hid (below_alloc (Below.refl w.heap.size w) (.cells #[.bool s,.slice x n c,.slice y m d,.slice ca cs.length cc,.slice ra rs.length rc] 101));have BM:Hid (Bk (w.alloc (.cells #[.bool s,.slice x n c,.slice y m d,.slice ca cs.length cc,.slice ra rs.length rc] 101)) w.heap.size [.bool s,.slice x n c,.slice y m d,.slice ca cs.length cc,.slice ra rs.length rc] 101):=bk_new w [.bool s,.slice x n c,.slice y m d,.slice ca cs.length cc,.slice ra rs.length rc] 101;obtain ⟨pc,hpc⟩:∃t,(fcB cs xs)=t:=⟨_,rfl⟩;obtain ⟨pr,hpr⟩:∃t,(frwB rs (rs.map (actQ xs)))=t:=⟨_,rfl⟩;rw [hpc,hpr];have HPC:=hid hpc;have HPR:=hid hpr
 clear hpc hpr;show Calls Tryz.prog 63 #[.agg #[.bool s,.slice x n c,.slice y m d,.slice ca cs.length cc,.slice ra rs.length rc],.slice ax cs.length cap] w _;have r3:=BM.out.cell (j:=3) rfl;go_enter Tryz.func63,Tryz.ntmps63;go_wp2_with fail
 clear r3;generalize (w.alloc (.cells #[.bool s,.slice x n c,.slice y m d,.slice ca cs.length cc,.slice ra rs.length rc] 101))=w0 at *;go_loopw [12] (fun t wr=>∃(i:Nat),i≤cs.length∧t=.int .i64 i∧Hid (Below w0.heap.size w0 wr)∧Hid (∀j,j<i→pc j=true)) (fun t _=>cs.length-(intOf t).toNat)
 case atStart=>exact ⟨0,by omega,rfl,Below.refl _ _,fun j hj=>by omega⟩
 case round =>
  obtain ⟨i,hi,rfl,HB,HT⟩:=hrel;by_cases hlt:i<cs.length
  ·obtain ⟨v,hv⟩:∃v,cs[i]?=some v:=⟨_,List.getElem?_eq_getElem hlt⟩;obtain ⟨q,hq⟩:∃t,xs[i]?=some t:=⟨_,List.getElem?_eq_getElem (by omega)⟩;have hbw:=HB0.out.trans (HB.out.mono HB0.out.size);obtain ⟨⟨b,o,hca,hc0⟩,hn⟩:=HC.out i v hv;subst hca;have hc:=hc0.below hbw;replace hn:=hn.below hbw;obtain ⟨b',o',⟨s3,x3,n3,c3,f3,y3,m3,d3,g3⟩,hax,hcx,hqx⟩:=(HX.out.below hbw) i q hq;subst hax;have hbd:=hP.out.cb v (List.mem_of_getElem? hv);obtain ⟨t1,ht1⟩:∃t,pc i=t:=⟨_,rfl⟩;have CA:=hid (fun W (hW:Below wr.heap.size wr W)=>goes_c (K:=2*L) (w:=W) hn.li hn.hi (hqx.below hW) (by omega));rw [show goB q v.li v.hi=t1 from by rw [←ht1,←HPC.out];simp only [fcB,hv,hq,goB_fr]] at CA;obtain ⟨⟨z,⟨s0,x0,n0,c0,f0,y0,m0,d0,g0⟩,⟨i1,⟨s1,x1,n1,c1,f1,y1,m1,d1,g1⟩⟩,⟨i2,⟨s2,x2,n2,c2,f2,y2,m2,d2,g2⟩⟩⟩,hCi⟩:∃t,C i=t:=⟨_,rfl⟩;rw [hCi] at hc CA;replace CA:Hid (∀W,Below wr.heap.size wr W→Calls Tryz.prog 88 #[.agg #[.int .i64 i1,.bool s1,.slice x1 n1 c1,.slice y1 m1 d1],.agg #[.int .i64 i2,.bool s2,.slice x2 n2 c2,.slice y2 m2 d2],.agg #[.bool s3,.slice x3 n3 c3,.slice y3 m3 d3]] W fun e w2=>e=.returned (.bool t1)∧Below W.heap.size W w2):=CA;have q0:wr.cell? ⟨b,o+i*12,none⟩=some (.string z):=hc 0 _ rfl;have q1:wr.cell? ⟨b,o+i*12+1,none⟩=some (.bool s0):=hc 1 _ rfl;have q2:wr.cell? ⟨b,o+i*12+2,none⟩=some (.slice x0 n0 c0):=hc 2 _ rfl;have q3:wr.cell? ⟨b,o+i*12+3,none⟩=some (.slice y0 m0 d0):=hc 3 _ rfl;have q4:wr.cell? ⟨b,o+i*12+4,none⟩=some (.int .i64 i1):=hc 4 _ rfl;have q5:wr.cell? ⟨b,o+i*12+5,none⟩=some (.bool s1):=hc 5 _ rfl;have q6:wr.cell? ⟨b,o+i*12+6,none⟩=some (.slice x1 n1 c1):=hc 6 _ rfl;have q7:wr.cell? ⟨b,o+i*12+7,none⟩=some (.slice y1 m1 d1):=hc 7 _ rfl;have q8:wr.cell? ⟨b,o+i*12+8,none⟩=some (.int .i64 i2):=hc 8 _ rfl;have q9:wr.cell? ⟨b,o+i*12+9,none⟩=some (.bool s2):=hc 9 _ rfl;have q10:wr.cell? ⟨b,o+i*12+10,none⟩=some (.slice x2 n2 c2):=hc 10 _ rfl;have q11:wr.cell? ⟨b,o+i*12+11,none⟩=some (.slice y2 m2 d2):=hc 11 _ rfl;obtain ⟨p0,p1,p2⟩:=hcx;replace p0:wr.cell? ⟨b',o'+i*3,none⟩=some (.bool s3):=p0;replace p1:wr.cell? ⟨b',o'+i*3+1,none⟩=some (.slice x3 n3 c3):=p1;replace p2:wr.cell? ⟨b',o'+i*3+2,none⟩=some (.slice y3 m3 d3):=p2;have hbt:=below_alloc (Below.refl wr.heap.size wr) (.cells #[.string z,.bool s0,.slice x0 n0 c0,.slice y0 m0 d0,.int .i64 i1,.bool s1,.slice x1 n1 c1,.slice y1 m1 d1,.int .i64 i2,.bool s2,.slice x2 n2 c2,.slice y2 m2 d2] 127);have BC:Bk (wr.alloc (.cells #[.string z,.bool s0,.slice x0 n0 c0,.slice y0 m0 d0,.int .i64 i1,.bool s1,.slice x1 n1 c1,.slice y1 m1 d1,.int .i64 i2,.bool s2,.slice x2 n2 c2,.slice y2 m2 d2] 127)) wr.heap.size [.string z,.bool s0,.slice x0 n0 c0,.slice y0 m0 d0,.int .i64 i1,.bool s1,.slice x1 n1 c1,.slice y1 m1 d1,.int .i64 i2,.bool s2,.slice x2 n2 c2,.slice y2 m2 d2] 127:=bk_new wr [.string z,.bool s0,.slice x0 n0 c0,.slice y0 m0 d0,.int .i64 i1,.bool s1,.slice x1 n1 c1,.slice y1 m1 d1,.int .i64 i2,.bool s2,.slice x2 n2 c2,.slice y2 m2 d2] 127;have HT1:=hid ht1;have i1':((i:Nat):Int)<((cs.length:Nat):Int):=by omega
   clear hCi hc hc0 hn ht1 hv hq hqx hbd hbw;go_upto_region 4 with fail
   clear q0 q1 q2 q3 q4 q5 q6 q7 q8 q9 q10 q11;replace p0:=kCb hbt p0;replace p1:=kCb hbt p1;replace p2:=kCb hbt p2
   have a4:=BC.cell (j:=4) rfl;have a5:=BC.cell (j:=5) rfl;have a6:=BC.cell (j:=6) rfl;have a7:=BC.cell (j:=7) rfl;have a8:=BC.cell (j:=8) rfl;have a9:=BC.cell (j:=9) rfl;have a10:=BC.cell (j:=10) rfl;have a11:=BC.cell (j:=11) rfl;replace CA:=hid (fun W (hW:Below (wr.alloc (.cells #[.string z,.bool s0,.slice x0 n0 c0,.slice y0 m0 d0,.int .i64 i1,.bool s1,.slice x1 n1 c1,.slice y1 m1 d1,.int .i64 i2,.bool s2,.slice x2 n2 c2,.slice y2 m2 d2] 127)).heap.size (wr.alloc (.cells #[.string z,.bool s0,.slice x0 n0 c0,.slice y0 m0 d0,.int .i64 i1,.bool s1,.slice x1 n1 c1,.slice y1 m1 d1,.int .i64 i2,.bool s2,.slice x2 n2 c2,.slice y2 m2 d2] 127)) W)=>CA.out W (hbt.trans (hW.mono hbt.size)));replace HB:=hid (HB.out.trans (hbt.mono HB.out.size));clear hbt BC;generalize hbx:wr.heap.size=bx at *;generalize wr.alloc (.cells #[.string z,.bool s0,.slice x0 n0 c0,.slice y0 m0 d0,.int .i64 i1,.bool s1,.slice x1 n1 c1,.slice y1 m1 d1,.int .i64 i2,.bool s2,.slice x2 n2 c2,.slice y2 m2 d2] 127)=w5 at *;clear hbx;refine wp_region_held_drew (S:=(fun w'=>w'.cell? ⟨bx,4,none⟩=some (.int .i64 i1)∧w'.cell? ⟨bx,5,none⟩=some (.bool s1)∧w'.cell? ⟨bx,6,none⟩=some (.slice x1 n1 c1)∧w'.cell? ⟨bx,7,none⟩=some (.slice y1 m1 d1)∧w'.cell? ⟨bx,8,none⟩=some (.int .i64 i2)∧w'.cell? ⟨bx,9,none⟩=some (.bool s2)∧w'.cell? ⟨bx,10,none⟩=some (.slice x2 n2 c2)∧w'.cell? ⟨bx,11,none⟩=some (.slice y2 m2 d2)∧w'.cell? ⟨b',o'+i*3,none⟩=some (.bool s3)∧w'.cell? ⟨b',o'+i*3+1,none⟩=some (.slice x3 n3 c3)∧w'.cell? ⟨b',o'+i*3+2,none⟩=some (.slice y3 m3 d3))) (by kernel_rfl) ?_ (fun hHeld=>?_)
   ·(refine ⟨?_,?_,?_,?_,?_,?_,?_,?_,?_,?_,?_⟩ <;> repeat (with_reducible first | assumption | refine kCd ?_))
   refine tkO 0 ?_;simp only [lay_,Act.put];refine tkO 1 ?_;simp only [lay_,Act.put];refine tkO 2 ?_;simp only [lay_,Act.put];refine tkO 3 ?_;simp only [lay_,Act.put];refine tkO 4 ?_;simp only [lay_,Act.put];refine tkO 5 ?_;simp only [lay_,Act.put];refine tkO 6 ?_;simp only [lay_,Act.put];refine tkO 7 ?_;simp only [lay_,Act.put];refine wpAnyH_ready (rs:=[8]) (by kernel_rfl) (by simp) ?_;refine AllReadyH.cons (o:=_) rfl (fun K hK=>?_) ?_;rotate_left;exact AllReadyH.nil;go_simp
   go_at_call 88
   refine (CA.out _ (Below.drew (Below.refl _ _))).mono ?_;rintro e w6 ⟨rfl,hb6⟩
   (try go_wp2_with fail)
   refine hK.out _ _ ?_ (fun hH=>?_)
   ·((try dsimp only);(refine ⟨?_,?_,?_,?_,?_,?_,?_,?_,?_,?_,?_⟩ <;> repeat (with_reducible first | assumption | refine kCb (by assumption) ?_ | refine kCd ?_)))
   clear hK K;try simp only [lay_,Act.put]
   refine tkO 9 ?_;simp only [lay_,Act.put];refine wpAnyH_done (by kernel_rfl) ?_ _;replace HB:=hid (HB.out.drew.trans (hb6.mono HB.out.drew.size));clear hHeld hH hb6 CA p0 p1 p2 a4 a5 a6 a7 a8 a9 a10 a11;cases t1
   ·have HF:Hid (allB pc cs.length=false):=allB_no hlt HT1.out;clear HT1 HT;go_wp2;go_ret;exact ⟨by rw [HF.out];rfl,HB0.out.trans (HB.out.mono HB0.out.size)⟩
   ·have HT2:Hid (∀j,j<i+1→pc j=true):=fun j hj=>by
     by_cases e:j=i
     ·rw [e];exact HT1.out
     ·exact HT.out j (by omega)
    clear HT1 HT;go_wp2;go_roundw
    case rel=>exact ⟨i+1,by omega,by go_num,HB.out,HT2.out⟩
    case measure=>simp [intOf];omega
  ·have e1:i=cs.length:=by omega
   have i4':¬(((i:Nat):Int)<((cs.length:Nat):Int)):=by omega
   rw [e1] at HT;have HAC:Hid (allB pc cs.length=true):=allB_iff.2 HT.out;have r4:=(BM.out.below HB.out).cell (j:=4) rfl;have HW:=hid HB.out;clear e1 HT HB;go_wp2_with fail
   clear r4 i4' hi;generalize wr=w1 at *;go_loopw [31] (fun t wr=>∃(i:Nat),i≤rs.length∧t=.int .i64 i∧Hid (Below w1.heap.size w1 wr)∧Hid (∀j,j<i→pr j=true)) (fun t _=>rs.length-(intOf t).toNat)
   case atStart=>exact ⟨0,by omega,rfl,Below.refl _ _,fun j hj=>by omega⟩
   case round =>
    obtain ⟨i,hi,rfl,HB,HT⟩:=hrel;by_cases hlt:i<rs.length
    ·obtain ⟨v,hv⟩:∃v,rs[i]?=some v:=⟨_,List.getElem?_eq_getElem hlt⟩;have hbw:=(HB0.out.trans (HW.out.mono HB0.out.size)).trans (HB.out.mono (Nat.le_trans HB0.out.size HW.out.size));obtain ⟨⟨b,o,hra,hc0⟩,hn⟩:=HR.out i v hv;subst hra;have hc:=hc0.below hbw;replace hn:=hn.below hbw;have hvm:=List.mem_of_getElem? hv;have hbd:=hP.out.rb v hvm;obtain ⟨t1,ht1⟩:∃t,pr i=t:=⟨_,rfl⟩;have CA:Hid (∀(t:Nm) W,Below wr.heap.size wr W→QnT (KE L) W t (dsum xs v.ts 0)→Calls Tryz.prog 88 #[(R i).lo.val,(R i).hi.val,t.val] W fun e w2=>e=.returned (.bool t1)∧Below W.heap.size W w2):=fun t W hW ht=>by
      have:=goes_c (K:=KE L) (w:=W) hn.li hn.hi ht (by unfold KE;omega);rw [show goB (dsum xs v.ts 0) v.li v.hi=t1 from by rw [←ht1,←HPR.out];simp only [frwB,hv,List.getElem?_map,Option.map_some,actQ,dsum_psum,goB_fr]] at this;exact this
     have CD:Hid (∀W,Below wr.heap.size wr W→Calls Tryz.prog 89 #[.slice (R i).ta (R i).tk (R i).tc,.slice ax cs.length cap] W fun e w2=>QAns (KE L) W w2 e (dsum xs v.ts 0)):=fun W hW=>fDot_c (L:=L) (hn.tl.below hW) ((HX.out.below hbw).below hW) hn.tk.symm hk (by rw [hn.tk];exact hP.out.tl v hvm) (by omega) (fun j a q e=>hP.out.tc v hvm (a,q) (List.mem_of_getElem? e))
     obtain ⟨⟨z,⟨i1,⟨s1,x1,n1,c1,f1,y1,m1,d1,g1⟩⟩,⟨i2,⟨s2,x2,n2,c2,f2,y2,m2,d2,g2⟩⟩,ta,tk,tc,tcol,tt⟩,hCi⟩:∃t,R i=t:=⟨_,rfl⟩;rw [hCi] at hc CA CD;replace CA:Hid (∀(t:Nm) W,Below wr.heap.size wr W→QnT (KE L) W t (dsum xs v.ts 0)→Calls Tryz.prog 88 #[.agg #[.int .i64 i1,.bool s1,.slice x1 n1 c1,.slice y1 m1 d1],.agg #[.int .i64 i2,.bool s2,.slice x2 n2 c2,.slice y2 m2 d2],t.val] W fun e w2=>e=.returned (.bool t1)∧Below W.heap.size W w2):=CA;replace CD:Hid (∀W,Below wr.heap.size wr W→Calls Tryz.prog 89 #[.slice ta tk tc,.slice ax cs.length cap] W fun e w2=>QAns (KE L) W w2 e (dsum xs v.ts 0)):=CD;have q0:wr.cell? ⟨b,o+i*10,none⟩=some (.string z):=hc 0 _ rfl;have q1:wr.cell? ⟨b,o+i*10+1,none⟩=some (.int .i64 i1):=hc 1 _ rfl;have q2:wr.cell? ⟨b,o+i*10+2,none⟩=some (.bool s1):=hc 2 _ rfl;have q3:wr.cell? ⟨b,o+i*10+3,none⟩=some (.slice x1 n1 c1):=hc 3 _ rfl;have q4:wr.cell? ⟨b,o+i*10+4,none⟩=some (.slice y1 m1 d1):=hc 4 _ rfl;have q5:wr.cell? ⟨b,o+i*10+5,none⟩=some (.int .i64 i2):=hc 5 _ rfl;have q6:wr.cell? ⟨b,o+i*10+6,none⟩=some (.bool s2):=hc 6 _ rfl;have q7:wr.cell? ⟨b,o+i*10+7,none⟩=some (.slice x2 n2 c2):=hc 7 _ rfl;have q8:wr.cell? ⟨b,o+i*10+8,none⟩=some (.slice y2 m2 d2):=hc 8 _ rfl;have q9:wr.cell? ⟨b,o+i*10+9,none⟩=some (.slice ta tk tc):=hc 9 _ rfl;have hbt:=below_alloc (Below.refl wr.heap.size wr) (.cells #[.string z,.int .i64 i1,.bool s1,.slice x1 n1 c1,.slice y1 m1 d1,.int .i64 i2,.bool s2,.slice x2 n2 c2,.slice y2 m2 d2,.slice ta tk tc] 134);have BC:Bk (wr.alloc (.cells #[.string z,.int .i64 i1,.bool s1,.slice x1 n1 c1,.slice y1 m1 d1,.int .i64 i2,.bool s2,.slice x2 n2 c2,.slice y2 m2 d2,.slice ta tk tc] 134)) wr.heap.size [.string z,.int .i64 i1,.bool s1,.slice x1 n1 c1,.slice y1 m1 d1,.int .i64 i2,.bool s2,.slice x2 n2 c2,.slice y2 m2 d2,.slice ta tk tc] 134:=bk_new wr [.string z,.int .i64 i1,.bool s1,.slice x1 n1 c1,.slice y1 m1 d1,.int .i64 i2,.bool s2,.slice x2 n2 c2,.slice y2 m2 d2,.slice ta tk tc] 134;have HT1:=hid ht1;have i1':((i:Nat):Int)<((rs.length:Nat):Int):=by omega
     clear hCi hc hc0 hn ht1 hv hvm hbd hbw;go_upto_region 10 with fail
     clear q0 q1 q2 q3 q4 q5 q6 q7 q8 q9;have a1:=BC.cell (j:=1) rfl;have a2:=BC.cell (j:=2) rfl;have a3:=BC.cell (j:=3) rfl;have a4:=BC.cell (j:=4) rfl;have a5:=BC.cell (j:=5) rfl;have a6:=BC.cell (j:=6) rfl;have a7:=BC.cell (j:=7) rfl;have a8:=BC.cell (j:=8) rfl;have a9:=BC.cell (j:=9) rfl;replace CA:=hid (fun (t:Nm) W (hW:Below (wr.alloc (.cells #[.string z,.int .i64 i1,.bool s1,.slice x1 n1 c1,.slice y1 m1 d1,.int .i64 i2,.bool s2,.slice x2 n2 c2,.slice y2 m2 d2,.slice ta tk tc] 134)).heap.size (wr.alloc (.cells #[.string z,.int .i64 i1,.bool s1,.slice x1 n1 c1,.slice y1 m1 d1,.int .i64 i2,.bool s2,.slice x2 n2 c2,.slice y2 m2 d2,.slice ta tk tc] 134)) W)=>CA.out t W (hbt.trans (hW.mono hbt.size)));replace CD:=hid (fun W (hW:Below (wr.alloc (.cells #[.string z,.int .i64 i1,.bool s1,.slice x1 n1 c1,.slice y1 m1 d1,.int .i64 i2,.bool s2,.slice x2 n2 c2,.slice y2 m2 d2,.slice ta tk tc] 134)).heap.size (wr.alloc (.cells #[.string z,.int .i64 i1,.bool s1,.slice x1 n1 c1,.slice y1 m1 d1,.int .i64 i2,.bool s2,.slice x2 n2 c2,.slice y2 m2 d2,.slice ta tk tc] 134)) W)=>CD.out W (hbt.trans (hW.mono hbt.size)));replace HB:=hid (HB.out.trans (hbt.mono HB.out.size));clear hbt BC;generalize hbx:wr.heap.size=bx at *;generalize wr.alloc (.cells #[.string z,.int .i64 i1,.bool s1,.slice x1 n1 c1,.slice y1 m1 d1,.int .i64 i2,.bool s2,.slice x2 n2 c2,.slice y2 m2 d2,.slice ta tk tc] 134)=w5 at *;clear hbx;refine wp_region_held_drew (S:=(fun w'=>w'.cell? ⟨bx,1,none⟩=some (.int .i64 i1)∧w'.cell? ⟨bx,2,none⟩=some (.bool s1)∧w'.cell? ⟨bx,3,none⟩=some (.slice x1 n1 c1)∧w'.cell? ⟨bx,4,none⟩=some (.slice y1 m1 d1)∧w'.cell? ⟨bx,5,none⟩=some (.int .i64 i2)∧w'.cell? ⟨bx,6,none⟩=some (.bool s2)∧w'.cell? ⟨bx,7,none⟩=some (.slice x2 n2 c2)∧w'.cell? ⟨bx,8,none⟩=some (.slice y2 m2 d2)∧w'.cell? ⟨bx,9,none⟩=some (.slice ta tk tc))) (by kernel_rfl) ?_ (fun hHeld=>?_)
     ·(refine ⟨?_,?_,?_,?_,?_,?_,?_,?_,?_⟩ <;> repeat (with_reducible first | assumption | refine kCd ?_))
     refine tkO 0 ?_;simp only [lay_,Act.put];refine tkO 1 ?_;simp only [lay_,Act.put];refine tkO 2 ?_;simp only [lay_,Act.put];refine tkO 3 ?_;simp only [lay_,Act.put];refine tkO 4 ?_;simp only [lay_,Act.put];refine tkO 5 ?_;simp only [lay_,Act.put];refine tkO 6 ?_;simp only [lay_,Act.put];refine wpAnyH_ready (rs:=[7]) (by kernel_rfl) (by simp) ?_;refine AllReadyH.cons (o:=_) rfl (fun K hK=>?_) ?_;rotate_left;exact AllReadyH.nil;go_simp
     go_at_call 89
     refine (CD.out _ (Below.drew (Below.refl _ _))).mono ?_;rintro e w6 ⟨s4,x4,n4,c4,f4,y4,m4,d4,g4,rfl,hb6,hq1,hq2,hq⟩
     (try go_wp2_with fail)
     refine hK.out _ _ ?_ (fun hH6=>?_)
     ·((try dsimp only);(refine ⟨?_,?_,?_,?_,?_,?_,?_,?_,?_⟩ <;> repeat (with_reducible first | assumption | refine kCb (by assumption) ?_ | refine kCd ?_)))
     clear hK K;try simp only [lay_,Act.put]
     refine wpAnyH_ready (rs:=[8]) (by kernel_rfl) (by simp) ?_;refine AllReadyH.cons (o:=_) rfl (fun K hK=>?_) ?_;rotate_left;exact AllReadyH.nil;go_simp
     go_at_call 88
     refine (CA.out ⟨s4,x4,n4,c4,f4,y4,m4,d4,g4⟩ w6 belB ⟨hq1,hq2,hq⟩).mono ?_;rintro e w7 ⟨rfl,hb7⟩
     (try go_wp2_with fail)
     refine hK.out _ _ ?_ (fun hH7=>?_)
     ·((try dsimp only);(refine ⟨?_,?_,?_,?_,?_,?_,?_,?_,?_⟩ <;> repeat (with_reducible first | assumption | refine kCb (by assumption) ?_ | refine kCd ?_)))
     clear hK K;try simp only [lay_,Act.put]
     refine tkO 9 ?_;simp only [lay_,Act.put];refine wpAnyH_done (by kernel_rfl) ?_ _;replace HB:=hid (HB.out.drew.trans (hb6.mono HB.out.drew.size));replace HB:=hid (HB.out.trans (hb7.mono HB.out.size));clear hHeld hH6 hH7 hb6 hb7 hq1 hq2 hq CA CD a1 a2 a3 a4 a5 a6 a7 a8 a9;cases t1
     ·have HF:Hid (allB pr rs.length=false):=allB_no hlt HT1.out;clear HT1 HT;go_wp2;go_ret;exact ⟨by rw [HF.out,Bool.and_false];rfl,(HB0.out.trans (HW.out.mono HB0.out.size)).trans (HB.out.mono (Nat.le_trans HB0.out.size HW.out.size))⟩
     ·have HT2:Hid (∀j,j<i+1→pr j=true):=fun j hj=>by
       by_cases e:j=i
       ·rw [e];exact HT1.out
       ·exact HT.out j (by omega)
      clear HT1 HT;go_wp2;go_roundw
      case rel=>exact ⟨i+1,by omega,by go_num,HB.out,HT2.out⟩
      case measure=>simp [intOf];omega
    ·have e1:i=rs.length:=by omega
     have i4':¬(((i:Nat):Int)<((rs.length:Nat):Int)):=by omega
     rw [e1] at HT;have HAR:Hid (allB pr rs.length=true):=allB_iff.2 HT.out;clear e1 HT;go_wp2;go_ret;exact ⟨by rw [HAC.out,HAR.out];rfl,(HB0.out.trans (HW.out.mono HB0.out.size)).trans (HB.out.mono (Nat.le_trans HB0.out.size HW.out.size))⟩
theorem costs_drop {cs:List CV} {xs:List Rat} {i:Nat} {v:CV} {q:Rat} (h1:cs[i]?=some v) (h2:xs[i]?=some q):(costs cs xs).drop i=v.cost*q :: (costs cs xs).drop (i+1):=by
 have h:(costs cs xs)[i]?=some (v.cost*q):=by
  unfold costs;rw [List.getElem?_zipWith,h1,h2]
 obtain ⟨hl,he⟩:=List.getElem?_eq_some_iff.1 h;rw [List.drop_eq_getElem_cons hl,he]
set_option maxRecDepth 100000 in
set_option maxHeartbeats 8000000 in
theorem rCosts_c {w:World} {L:Nat} {M:Mo} {off:Rat} {cs:List CV} {rs:List RV} {ax:Option Addr} {k cx:Nat} {xs:List Rat} (h:MqV (2*L) w M off cs rs) (hx:Rqs (2*L) w ax xs) (hk:xs.length=k) (hkc:k=cs.length) (hm:MvP cs rs) (hL:L≤60) :
  Calls Tryz.prog 51 #[M.val,.slice ax k cx] w fun e w'=>QAns (KE L) w w' e (slpQ cs xs):=by
 obtain ⟨⟨so,xo,no,co,fo,yo,mo,dd,gg⟩,ca,ck,cc,C,ra,rk,rc,R⟩:=M;have hck:ck=cs.length:=h.ck;subst hck;have HC:Hid (∀j v,cs[j]?=some v→(∃b o,ca=some ⟨b,o,none⟩∧Cs w b (o+j*12) (C j).vs)∧QcV (2*L) w (C j) v):=h.cls;have TX:=hid hx;have hcl:=hm.cl;clear h hx hm;subst hkc;show Calls Tryz.prog 51 #[.agg #[.bool so,.slice xo no co,.slice yo mo dd,.slice ca cs.length cc,.slice ra rk rc],.slice ax cs.length cx] w _;have h2:Ob ((w.alloc (.cells #[.bool so,.slice xo no co,.slice yo mo dd,.slice ca cs.length cc,.slice ra rk rc] 101)).alloc (.cells #[.bool false,.slice none 0 0,.slice none 0 0] 76)) (w.heap.size+1):=by
  have:=ob_new (w.alloc (.cells #[.bool so,.slice xo no co,.slice yo mo dd,.slice ca cs.length cc,.slice ra rk rc] 101)) 76;rw [size_alloc1] at this;exact this
 have h3:=below_alloc (below_alloc (Below.refl w.heap.size w) (.cells #[.bool so,.slice xo no co,.slice yo mo dd,.slice ca cs.length cc,.slice ra rk rc] 101)) (.cells #[.bool false,.slice none 0 0,.slice none 0 0] 76);have BM:Hid (Bk ((w.alloc (.cells #[.bool so,.slice xo no co,.slice yo mo dd,.slice ca cs.length cc,.slice ra rk rc] 101)).alloc (.cells #[.bool false,.slice none 0 0,.slice none 0 0] 76)) w.heap.size [.bool so,.slice xo no co,.slice yo mo dd,.slice ca cs.length cc,.slice ra rk rc] 101):=(bk_new w [.bool so,.slice xo no co,.slice yo mo dd,.slice ca cs.length cc,.slice ra rk rc] 101).below (below_alloc (Below.refl _ _) _);go_enter Tryz.func51,Tryz.ntmps51;go_wp2_with fail
 generalize ((w.alloc (.cells #[.bool so,.slice xo no co,.slice yo mo dd,.slice ca cs.length cc,.slice ra rk rc] 101)).alloc (.cells #[.bool false,.slice none 0 0,.slice none 0 0] 76))=w0 at *;have OB0:=hid h2;have HB0:=hid h3
 clear h2 h3;refine (qZero_c _).mono ?_;rintro e w4 ⟨s0,x0,n0,c0,d0,y0,m0,e0,g0,rfl,hb4,hl1,hl2,hq4⟩;have OB4:=hid (OB0.out.below hb4);have HB4:=hid (HB0.out.trans (hb4.mono HB0.out.size));have HQ4:=hid hq4
 replace BM:=hid (BM.out.below hb4);clear OB0 HB0 hb4 hq4 hl1 hl2;have hSx:Sx (w4.alloc (.cells #[.bool s0,.slice x0 n0 c0,.slice y0 m0 e0] 76)) w4.heap.size s0 x0 n0 c0 y0 m0 e0:=⟨by simp,by simp [go_sem],by simp [go_sem],by simp [go_sem],fun o=>by simp only [World.frozen?,heap_alloc_new w4 (.cells #[.bool s0,.slice x0 n0 c0,.slice y0 m0 e0] 76)];simp⟩;have hal:=below_alloc (Below.refl w4.heap.size w4) (.cells #[.bool s0,.slice x0 n0 c0,.slice y0 m0 e0] 76);have r3:=(BM.out.below hal).cell (j:=3) rfl;go_wp2_with fail
 clear r3;have hne:w.heap.size+1<w4.heap.size:=OB4.out.z;have ST:=hid hSx;have HB5:=hid (HB4.out.trans (hal.mono HB4.out.size));have HQ5:=hid (HQ4.out.below hal);have OB5:=hid (OB4.out.below hal)
 clear hSx hal HB4 HQ4 OB4 BM;generalize w4.alloc (.cells #[.bool s0,.slice x0 n0 c0,.slice y0 m0 e0] 76)=w5' at *;generalize w4.heap.size=B at *;go_loopw [12] (fun t wr=>∃(i:Nat) (acc:Rat) (s:Bool) (x:Option Addr) (n c:Nat) (d:Nat→Int) (y:Option Addr) (m e:Nat) (g:Nat→Int),i≤cs.length∧t=.int .i64 i∧Hid (Below w.heap.size w wr)∧Hid (Sx wr B s x n c y m e)∧Hid (Ob wr (w.heap.size+1))∧Hid (Lo (4+i*(2*L+2)) acc∧Qn wr s x n d y m g acc)∧Hid (psum ((costs cs xs).drop i) acc=slpQ cs xs)) (fun t _=>cs.length-(intOf t).toNat)
 case atStart=>exact ⟨0,0,s0,x0,n0,c0,d0,y0,m0,e0,g0,by omega,rfl,HB5,ST,OB5,⟨lo_zero (by omega),HQ5.out⟩,rfl⟩
 case round =>
  clear HB5 HQ5 OB5 ST;obtain ⟨i,acc,s,x,n,c,d,y,m,e,g,hi,rfl,HB,HS,HO,HQ,HE⟩:=hrel;by_cases hlt:i<cs.length
  ·obtain ⟨v,haq⟩:∃t,cs[i]?=some t:=⟨_,List.getElem?_eq_getElem hlt⟩;obtain ⟨⟨b,o,hca,hcc⟩,hr⟩:=HC.out i v haq;subst hca;replace hcc:=hcc.below HB.out;replace hr:=(hr.below HB.out).cost;obtain ⟨r,hr2⟩:∃r,xs[i]?=some r:=⟨_,List.getElem?_eq_getElem (by omega)⟩;obtain ⟨b0,o0,_,hax0,hc0,_⟩:=TX.out i r hr2;have hb0:=World.block_lt_of_cell? w _ hc0.x0;obtain ⟨b',o',⟨ss,sx,sn,sc,sf,sy,sm,sd,sg⟩,hax,hc',hr'⟩:=(TX.out.below HB.out) i r hr2;have nB2:B≠b':=by
    rw [hax0] at hax;have:b0=b':=by simpa using congrArg (fun a=>(a.map Addr.block)) hax
    have hb1:b0<w.heap.size:=hb0;omega
   clear hc0 hb0 hax0;have hax2:=hax;subst hax2;obtain ⟨p0,p1,p2⟩:=hc';replace p0:wr.cell? ⟨b',o'+i*3,none⟩=some (.bool ss):=p0;replace p1:wr.cell? ⟨b',o'+i*3+1,none⟩=some (.slice sx sn sc):=p1;replace p2:wr.cell? ⟨b',o'+i*3+2,none⟩=some (.slice sy sm sd):=p2;obtain ⟨⟨z,⟨ts,tx,tn,tc,tf,ty,tm,td,tg⟩,⟨i1,⟨s1,x1,n1,c1,f1,y1,m1,d1,g1⟩⟩,⟨i2,⟨s2,x2,n2,c2,f2,y2,m2,d2,g2⟩⟩⟩,hCi⟩:∃t,C i=t:=⟨_,rfl⟩;rw [hCi] at hcc hr;have q0:wr.cell? ⟨b,o+i*12,none⟩=some (.string z):=hcc 0 _ rfl;have q1:wr.cell? ⟨b,o+i*12+1,none⟩=some (.bool ts):=hcc 1 _ rfl;have q2:wr.cell? ⟨b,o+i*12+2,none⟩=some (.slice tx tn tc):=hcc 2 _ rfl;have q3:wr.cell? ⟨b,o+i*12+3,none⟩=some (.slice ty tm td):=hcc 3 _ rfl;have q4:wr.cell? ⟨b,o+i*12+4,none⟩=some (.int .i64 i1):=hcc 4 _ rfl;have q5:wr.cell? ⟨b,o+i*12+5,none⟩=some (.bool s1):=hcc 5 _ rfl;have q6:wr.cell? ⟨b,o+i*12+6,none⟩=some (.slice x1 n1 c1):=hcc 6 _ rfl;have q7:wr.cell? ⟨b,o+i*12+7,none⟩=some (.slice y1 m1 d1):=hcc 7 _ rfl;have q8:wr.cell? ⟨b,o+i*12+8,none⟩=some (.int .i64 i2):=hcc 8 _ rfl;have q9:wr.cell? ⟨b,o+i*12+9,none⟩=some (.bool s2):=hcc 9 _ rfl;have q10:wr.cell? ⟨b,o+i*12+10,none⟩=some (.slice x2 n2 c2):=hcc 10 _ rfl;have q11:wr.cell? ⟨b,o+i*12+11,none⟩=some (.slice y2 m2 d2):=hcc 11 _ rfl;obtain ⟨q,hq⟩:∃t,v.cost=t:=⟨_,rfl⟩;rw [hq] at hr;have HR1:Hid (tn≤2*L∧tm≤2*L∧Qn wr ts tx tn tf ty tm tg q):=hr;have HR2:Hid (sn≤2*L∧sm≤2*L∧Qn wr ss sx sn sf sy sm sg r):=hr';have i1':((i:Nat):Int)<((cs.length:Nat):Int):=by omega
   have HD:Hid (psum ((costs cs xs).drop (i+1)) (acc+q*r)=slpQ cs xs):=by
    show _=_;rw [←HE.out,costs_drop haq hr2,hq];rfl
   have nB1:B≠wr.heap.size:=by have:=HS.out.z;omega
   clear hr hr' haq hr2 hax HE hcc hCi hq;go_upto_region 5 with fail
   have hb5:=below_alloc (Below.refl wr.heap.size wr) (.cells #[.string z,.bool ts,.slice tx tn tc,.slice ty tm td,.int .i64 i1,.bool s1,.slice x1 n1 c1,.slice y1 m1 d1,.int .i64 i2,.bool s2,.slice x2 n2 c2,.slice y2 m2 d2] 127);have BC:Bk (wr.alloc (.cells #[.string z,.bool ts,.slice tx tn tc,.slice ty tm td,.int .i64 i1,.bool s1,.slice x1 n1 c1,.slice y1 m1 d1,.int .i64 i2,.bool s2,.slice x2 n2 c2,.slice y2 m2 d2] 127)) wr.heap.size [.string z,.bool ts,.slice tx tn tc,.slice ty tm td,.int .i64 i1,.bool s1,.slice x1 n1 c1,.slice y1 m1 d1,.int .i64 i2,.bool s2,.slice x2 n2 c2,.slice y2 m2 d2] 127:=bk_new wr [.string z,.bool ts,.slice tx tn tc,.slice ty tm td,.int .i64 i1,.bool s1,.slice x1 n1 c1,.slice y1 m1 d1,.int .i64 i2,.bool s2,.slice x2 n2 c2,.slice y2 m2 d2] 127;have a1:=BC.cell (j:=1) rfl;have a2:=BC.cell (j:=2) rfl;have a3:=BC.cell (j:=3) rfl;replace p0:=kCb hb5 p0;replace p1:=kCb hb5 p1;replace p2:=kCb hb5 p2
   replace HS:=hid (HS.out.below hb5);replace HO:=hid (HO.out.below hb5);replace HQ:=hid (And.intro HQ.out.1 (HQ.out.2.below hb5));replace HR1:=hid (And.intro HR1.out.1 (And.intro HR1.out.2.1 (HR1.out.2.2.below hb5)));replace HR2:=hid (And.intro HR2.out.1 (And.intro HR2.out.2.1 (HR2.out.2.2.below hb5)))
   replace HB:=hid (HB.out.trans (hb5.mono HB.out.size));clear q0 q1 q2 q3 q4 q5 q6 q7 q8 q9 q10 q11 hb5 BC;generalize wr.alloc (.cells #[.string z,.bool ts,.slice tx tn tc,.slice ty tm td,.int .i64 i1,.bool s1,.slice x1 n1 c1,.slice y1 m1 d1,.int .i64 i2,.bool s2,.slice x2 n2 c2,.slice y2 m2 d2] 127)=w5 at *;obtain ⟨sz,u0,u1,u2,uf⟩:=HS.out;have hKi:4+i*(2*L+2)≤4+64*(2*L+2):=by
    have h1:i*(2*L+2)≤64*(2*L+2):=Nat.mul_le_mul_right _ (by omega);omega
   obtain ⟨hq1,hq2⟩:=HQ.out.2.len HQ.out.1;have CM:Hid (∀W,Below w5.heap.size w5 W→Calls Tryz.prog 80 #[.agg #[.bool ts,.slice tx tn tc,.slice ty tm td],.agg #[.bool ss,.slice sx sn sc,.slice sy sm sd]] W fun e w'=>∃s x n c d y m e' g,e=.returned (.agg #[.bool s,.slice x n c,.slice y m e'])∧Below W.heap.size W w'∧Hid (Lo (2*L+1) (q*r)∧Qn w' s x n d y m g (q*r))):=fun W hW =>
    (qMul_c (HR1.out.2.2.below hW) (HR2.out.2.2.below hW) (Nat.le_trans HR1.out.1 (by omega)) (Nat.le_trans HR1.out.2.1 (by omega)) (Nat.le_trans HR2.out.1 (by omega)) (Nat.le_trans HR2.out.2.1 (by omega))).mono (fun _ _ ⟨s,x,n,c,d,y,m,c',g,h1,h2,h3,h4,h5⟩=>⟨s,x,n,c,d,y,m,c',g,h1,h2,Lo.mono (lo_mul (HR1.out.2.2.lo HR1.out.1 HR1.out.2.1) (HR2.out.2.2.lo HR2.out.1 HR2.out.2.1)) (by omega),h5⟩)
   have CA:Hid (∀(W:World) (s1:Bool) (x1:Option Addr) (n1 c1:Nat) (d1:Nat→Int) (y1:Option Addr) (m1 e1:Nat) (g1:Nat→Int),Below w5.heap.size w5 W→Lo (2*L+1) (q*r)∧Qn W s1 x1 n1 d1 y1 m1 g1 (q*r)→Calls Tryz.prog 79 #[.agg #[.bool s,.slice x n c,.slice y m e],.agg #[.bool s1,.slice x1 n1 c1,.slice y1 m1 e1]] W fun e w'=>∃s x n c d y m e' g,e=.returned (.agg #[.bool s,.slice x n c,.slice y m e'])∧Below W.heap.size W w'∧Hid (Lo (4+(i+1)*(2*L+2)) (acc+q*r)∧Qn w' s x n d y m g (acc+q*r))):=fun W s1 x1 n1 c1 d1 y1 m1 e1 g1 hW hh=>by
    obtain ⟨k1,k2⟩:=hh.2.len hh.1;refine (qAdd_c (HQ.out.2.below hW) hh.2 (by omega) (by omega) (by omega) (by omega)).mono (fun _ _ ⟨s,x,n,c,d,y,m,c',g,h1,h2,h3,h4,h5⟩=>⟨s,x,n,c,d,y,m,c',g,h1,h2,Lo.mono (lo_add HQ.out.1 hh.1) ?_,h5⟩);rw [Nat.add_mul];omega
   clear hq1 hq2;refine wp_region_held_drew (S:=fun w'=>w'.cell? ⟨wr.heap.size,1,none⟩=some (.bool ts)∧w'.cell? ⟨wr.heap.size,2,none⟩=some (.slice tx tn tc)∧w'.cell? ⟨wr.heap.size,3,none⟩=some (.slice ty tm td)∧w'.cell? ⟨b',o'+i*3,none⟩=some (.bool ss)∧w'.cell? ⟨b',o'+i*3+1,none⟩=some (.slice sx sn sc)∧w'.cell? ⟨b',o'+i*3+2,none⟩=some (.slice sy sm sd)) (by kernel_rfl) ?_ (fun hHeld=>?_)
   ·(refine ⟨?_,?_,?_,?_,?_,?_⟩ <;> repeat (with_reducible first | assumption | refine kCd ?_))
   refine tkO 1 ?_;simp only [lay_,Act.put];refine tkO 2 ?_;simp only [lay_,Act.put];refine tkO 3 ?_;simp only [lay_,Act.put];refine tkO 4 ?_;simp only [lay_,Act.put];refine tkO 5 ?_;simp only [lay_,Act.put];refine tkO 6 ?_;simp only [lay_,Act.put];refine wpAnyH_ready (rs:=[0,7]) (by kernel_rfl) (by simp) ?_;refine AllReadyH.cons (o:=_) rfl (fun K hK=>?_) ?_
   ·go_simp;refine hK.out _ _ ?_ (fun hHeld2=>?_)
    ·((try dsimp only);(refine ⟨?_,?_,?_,?_,?_,?_⟩ <;> repeat (with_reducible first | assumption | refine kCd ?_)))
    clear hK K;try simp only [lay_,Act.put]
    refine wpAnyH_ready (rs:=[7]) (by kernel_rfl) (by simp) ?_;refine AllReadyH.cons (o:=_) rfl (fun K hK=>?_) ?_;rotate_left;exact AllReadyH.nil;go_simp
    go_at_call 80
    with_reducible refine (CM.out _ belB).mono ?_
    rintro e w6 ⟨s8,x8,n8,c8,d8,y8,m8,e8,g8,rfl,hb6,H8⟩;have B6:Below w5.heap.size w5 w6:=belB;have S6:=HS.out.below B6;obtain ⟨_,v0,v1,v2,vf6⟩:=id S6
    (try go_wp2_with fail)
    refine hK.out _ _ ?_ (fun hHeld3=>?_)
    ·((try dsimp only);(refine ⟨?_,?_,?_,?_,?_,?_⟩ <;> repeat (with_reducible first | assumption | refine kCb B6 ?_)))
    clear hK K;try simp only [lay_,Act.put]
    refine wpAnyH_ready (rs:=[8]) (by kernel_rfl) (by simp) ?_;refine AllReadyH.cons (o:=_) rfl (fun K hK=>?_) ?_;rotate_left;exact AllReadyH.nil;go_simp
    go_at_call 79
    with_reducible refine (CA.out _ s8 x8 n8 c8 d8 y8 m8 e8 g8 belB ⟨H8.out.1,H8.out.2⟩).mono ?_
    rintro e w7 ⟨s9,x9,n9,c9,d9,y9,m9,e9,g9,rfl,hb7,H9⟩;have B7:Below w5.heap.size w5 w7:=belB;have S7:=HS.out.below B7;have O7:=HO.out.below B7;obtain ⟨_,t0,t1,t2,tf7⟩:=id S7
    (try go_wp2_with fail)
    refine hK.out _ _ ?_ (fun hHeld4=>?_)
    ·((try dsimp only);(refine ⟨?_,?_,?_,?_,?_,?_⟩ <;> repeat (with_reducible first | assumption | refine kCb B7 ?_)))
    clear hK K;try simp only [lay_,Act.put]
    refine wpAnyH_ready (rs:=[9]) (by kernel_rfl) (by simp) ?_;refine AllReadyH.cons (o:=_) rfl (fun K hK=>?_) ?_;rotate_left;exact AllReadyH.nil;go_simp;refine hK.out _ _ ?_ (fun hHeld9=>?_)
    ·((try dsimp only);(refine ⟨?_,?_,?_,?_,?_,?_⟩ <;> repeat (with_reducible first | assumption | refine kCs (by simp only [ne_eq];omega) ?_ | refine kCb B7 ?_)))
    clear hK K;try simp only [lay_,Act.put]
    refine wpAnyH_done (by kernel_rfl) ?_ _;have R1:=hid (And.intro (S7.st (s1:=s9) (x1:=x9) (n1:=n9) (c1:=c9) (y1:=y9) (m1:=m9) (d1:=e9)) (And.intro (S7.qn (u0:=.bool s9) (u1:=.slice x9 n9 c9) (u2:=.slice y9 m9 e9) H9.out.2) (And.intro (O7.far3 (u0:=.bool s9) (u1:=.slice x9 n9 c9) (u2:=.slice y9 m9 e9) (show B≠w.heap.size+1 by omega)) (below_st (B:=B) (u0:=.bool s9) (u1:=.slice x9 n9 c9) (u2:=.slice y9 m9 e9) (HB.out.trans (B7.mono HB.out.size)) (by omega)))));have L9:=hid H9.out.1;clear hHeld a1 a2 a3 p0 p1 p2 u0 u1 u2 uf t0 t1 t2 tf7 CM CA S7 O7 B7 H8 H9 HS HO HQ HR1 HR2 HB;generalize ((w7.setCell ⟨B,0,none⟩ (.bool s9)).setCell ⟨B,1,none⟩ (.slice x9 n9 c9)).setCell ⟨B,2,none⟩ (.slice y9 m9 e9)=w9 at *;go_wp2;go_roundw
    case rel=>exact ⟨i+1,acc+q*r,s9,x9,n9,c9,d9,y9,m9,e9,g9,by omega,by go_num,R1.out.2.2.2,R1.out.1,R1.out.2.2.1,⟨L9.out,R1.out.2.1⟩,HD.out⟩
    case measure=>simp [intOf];omega
   refine AllReadyH.cons (o:=_) rfl (fun K hK=>?_) ?_
   ·go_simp
    go_at_call 80
    with_reducible refine (CM.out _ belB).mono ?_
    rintro e w6 ⟨s8,x8,n8,c8,d8,y8,m8,e8,g8,rfl,hb6,H8⟩;have B6:Below w5.heap.size w5 w6:=belB;have S6:=HS.out.below B6;obtain ⟨_,v0,v1,v2,vf6⟩:=id S6
    (try go_wp2_with fail)
    refine hK.out _ _ ?_ (fun hHeld3=>?_)
    ·((try dsimp only);(refine ⟨?_,?_,?_,?_,?_,?_⟩ <;> repeat (with_reducible first | assumption | refine kCb B6 ?_)))
    clear hK K;try simp only [lay_,Act.put]
    refine wpAnyH_ready (rs:=[0]) (by kernel_rfl) (by simp) ?_;refine AllReadyH.cons (o:=_) rfl (fun K hK=>?_) ?_;rotate_left;exact AllReadyH.nil;go_simp;refine hK.out _ _ ?_ (fun hHeld2=>?_)
    ·((try dsimp only);(refine ⟨?_,?_,?_,?_,?_,?_⟩ <;> repeat (with_reducible first | assumption | refine kCb B6 ?_)))
    clear hK K;try simp only [lay_,Act.put]
    refine wpAnyH_ready (rs:=[8]) (by kernel_rfl) (by simp) ?_;refine AllReadyH.cons (o:=_) rfl (fun K hK=>?_) ?_;rotate_left;exact AllReadyH.nil;go_simp
    go_at_call 79
    with_reducible refine (CA.out _ s8 x8 n8 c8 d8 y8 m8 e8 g8 belB ⟨H8.out.1,H8.out.2⟩).mono ?_
    rintro e w7 ⟨s9,x9,n9,c9,d9,y9,m9,e9,g9,rfl,hb7,H9⟩;have B7:Below w5.heap.size w5 w7:=belB;have S7:=HS.out.below B7;have O7:=HO.out.below B7;obtain ⟨_,t0,t1,t2,tf7⟩:=id S7
    (try go_wp2_with fail)
    refine hK.out _ _ ?_ (fun hHeld4=>?_)
    ·((try dsimp only);(refine ⟨?_,?_,?_,?_,?_,?_⟩ <;> repeat (with_reducible first | assumption | refine kCb B7 ?_)))
    clear hK K;try simp only [lay_,Act.put]
    refine wpAnyH_ready (rs:=[9]) (by kernel_rfl) (by simp) ?_;refine AllReadyH.cons (o:=_) rfl (fun K hK=>?_) ?_;rotate_left;exact AllReadyH.nil;go_simp;refine hK.out _ _ ?_ (fun hHeld9=>?_)
    ·((try dsimp only);(refine ⟨?_,?_,?_,?_,?_,?_⟩ <;> repeat (with_reducible first | assumption | refine kCs (by simp only [ne_eq];omega) ?_ | refine kCb B7 ?_)))
    clear hK K;try simp only [lay_,Act.put]
    refine wpAnyH_done (by kernel_rfl) ?_ _;have R1:=hid (And.intro (S7.st (s1:=s9) (x1:=x9) (n1:=n9) (c1:=c9) (y1:=y9) (m1:=m9) (d1:=e9)) (And.intro (S7.qn (u0:=.bool s9) (u1:=.slice x9 n9 c9) (u2:=.slice y9 m9 e9) H9.out.2) (And.intro (O7.far3 (u0:=.bool s9) (u1:=.slice x9 n9 c9) (u2:=.slice y9 m9 e9) (show B≠w.heap.size+1 by omega)) (below_st (B:=B) (u0:=.bool s9) (u1:=.slice x9 n9 c9) (u2:=.slice y9 m9 e9) (HB.out.trans (B7.mono HB.out.size)) (by omega)))));have L9:=hid H9.out.1;clear hHeld a1 a2 a3 p0 p1 p2 u0 u1 u2 uf t0 t1 t2 tf7 CM CA S7 O7 B7 H8 H9 HS HO HQ HR1 HR2 HB;generalize ((w7.setCell ⟨B,0,none⟩ (.bool s9)).setCell ⟨B,1,none⟩ (.slice x9 n9 c9)).setCell ⟨B,2,none⟩ (.slice y9 m9 e9)=w9 at *;go_wp2;go_roundw
    case rel=>exact ⟨i+1,acc+q*r,s9,x9,n9,c9,d9,y9,m9,e9,g9,by omega,by go_num,R1.out.2.2.2,R1.out.1,R1.out.2.2.1,⟨L9.out,R1.out.2.1⟩,HD.out⟩
    case measure=>simp [intOf];omega
   exact AllReadyH.nil
  ·have e1:i=cs.length:=by omega
   have HF:Hid (acc=slpQ cs xs):=by
    show _=_;rw [←HE.out,e1,List.drop_of_length_le (by unfold costs;rw [List.length_zipWith];omega)];rfl
   have i2':¬(((i:Nat):Int)<((cs.length:Nat):Int)):=by omega
   have hKi:4+i*(2*L+2)≤4+64*(2*L+2):=by
    have h1:i*(2*L+2)≤64*(2*L+2):=Nat.mul_le_mul_right _ (by omega);omega
   obtain ⟨hq1,hq2⟩:=HQ.out.2.len HQ.out.1;obtain ⟨sz,u0,u1,u2,uf⟩:=HS.out;obtain ⟨hz,z0,z1,z2,zf⟩:=HO.out;clear e1 HE;go_wp2;exact bodyPost_ret (v:=.agg #[.bool s,.slice x n c,.slice y m e]) (by simp [results,Tryz.results51,go_sem,z0,z1,z2]) rfl ⟨s,x,n,c,d,y,m,e,g,rfl,below_st HB.out (by omega),by unfold KE;omega,by unfold KE;omega,by rw [←HF.out];exact HO.out.qn HQ.out.2⟩
end Go.Proofs.YteiglggmaiohpaaGreat
