/-
 The walks of law07's ints and of the law ModelChecks (written by makers/f34.py).
-/
import Derived.Test.YtgmllfcngnfpkaaGreatZ15
import Derived.Test.YtgmllfcngnfpkaaGreatZ16
import Derived.BigQuiet
namespace Go.Proofs.YtgmllfcngnfpkaaGreat
open Go.RowKit
theorem nq_congr {t t' : Nm} (h : Sn t t') : nq t' = nq t:=by
 obtain ⟨h1,h2,h3,h4,h5⟩:=h
 unfold nq
 rw [h1,h2,h3,h4,h5]
theorem Sm.crl {M M' : Mo} (h : Sm M M') : crl (ccB M'.C) M'.ck = crl (ccB M.C) M.ck ∧ crl (rcB M'.R) M'.rk = crl (rcB M.R) M.rk:=by
 refine ⟨?_,?_⟩
 ·rw [crl_congr (B':=ccB M.C) (fun j hj=>?_),h.ck]
  rw [h.ck] at hj
  have p:=h.C j hj
  unfold ccB abvB
  rw [p.li,p.hi,nq_congr p.lo,nq_congr p.hv]
 ·rw [crl_congr (B':=rcB M.R) (fun j hj=>?_),h.rk]
  rw [h.rk] at hj
  have p:=h.R j hj
  unfold rcB abvB
  rw [p.li,p.hi,nq_congr p.lo,nq_congr p.hv]
/-- Which columns and rows Crossed answers. -/
def crA (M : Mo) : List Int × List Int:=if chkE M = 0 then (crl (ccB M.C) M.ck,crl (rcB M.R) M.rk) else ([],[])
theorem Sm.crA {M M' : Mo} (h : Sm M M') : crA M' = crA M:=by
 unfold Go.Proofs.YtgmllfcngnfpkaaGreat.crA;rw [h.chk,h.crl.1,h.crl.2]
theorem crA_len (M : Mo) : (crA M).1.length ≤ 64 ∧ (crA M).2.length ≤ 64:=by
 unfold crA
 split
 ·rename_i h
  obtain ⟨l1,l2,_⟩:=chkE_ok h
  have h1:=crl_len (ccB M.C) M.ck;have h2:=crl_len (rcB M.R) M.rk
  exact ⟨by show (crl _ _).length ≤ 64;omega,by show (crl _ _).length ≤ 64;omega⟩
 ·exact ⟨by decide,by decide⟩
def CrO (w w' : World) (e : Ending) (er : Int) (l1 l2 : List Int) : Prop:=∃ xa xc ya yc,e = .returned (.tuple #[.slice xa l1.length xc,.slice ya l2.length yc,.int .i64 er]) ∧ Below w.heap.size w w' ∧ Il w' xa l1 ∧ Il w' ya l2
theorem CrAns.out {w w' e M} (h : CrAns w w' e M) : CrO w w' e (chkE M) (crA M).1 (crA M).2:=by
 rcases h with ⟨h0,he,hb⟩ | ⟨h0,xa,xc,ya,yc,he,hb,h1,h2⟩
 ·have e1 : crA M = ([],[]):=by unfold crA;rw [if_neg h0]
  rw [e1]
  exact ⟨none,0,none,0,he,hb,fun j v hj=>by simp at hj,fun j v hj=>by simp at hj⟩
 ·have e1 : crA M = (crl (ccB M.C) M.ck,crl (rcB M.R) M.rk):=by unfold crA;rw [if_pos h0]
  rw [e1,h0]
  exact ⟨xa,xc,ya,yc,he,hb,h1,h2⟩
set_option maxRecDepth 100000 in
set_option maxHeartbeats 4000000 in
theorem ints_c {w : World} {xa ya : Option Addr} {xc yc : Nat} {l : List Int} (hx : Il w xa l) (hy : Il w ya l) (hl : l.length ≤ 64) : Calls Tryz.prog 16 #[.slice xa l.length xc,.slice ya l.length yc] w fun e w'=>e = .returned (.bool true) ∧ Below w.heap.size w w':=by
 obtain ⟨k,hk⟩ : ∃ k,l.length = k:=⟨_,rfl⟩
 rw [hk] at hl ⊢
 have HX:=hid hx;have HY:=hid hy;have HL:=hid hk
 clear hx hy hk
 have hne : (((k : Nat) : Int) != ((k : Nat) : Int)) = false:=by simp
 go_enter Tryz.func16,Tryz.ntmps16
 go_wp2_with fail
 go_loopw [13] (fun t wr=>∃ (i : Nat),i ≤ k ∧ t = .int .i64 i ∧ Hid (Below w.heap.size w wr)) (fun t _=>k - (intOf t).toNat)
 case atStart=>exact ⟨0,by omega,rfl,Below.refl _ _⟩
 case round =>
  obtain ⟨i,hi,rfl,HB⟩:=hrel
  by_cases hlt : i < k
  ·obtain ⟨v,hv⟩ : ∃ v,l[i]? = some v:=⟨_,List.getElem?_eq_getElem (by rw [HL.out];exact hlt)⟩
   obtain ⟨b,o,rfl,h1⟩:=HX.out i v hv
   obtain ⟨b2,o2,rfl,h2⟩:=HY.out i v hv
   have x1:=kCb HB.out h1
   have x2:=kCb HB.out h2
   have i1 : ((i : Nat) : Int) < ((k : Nat) : Int):=by omega
   have hz : (v != v) = false:=by simp
   clear h1 h2 hv
   go_upto_region 6 with fail
   go_quiet (fail)
   go_wp2
   go_roundw
   case rel=>exact ⟨i + 1,by omega,by go_num,below_drewN HB.out _⟩
   case measure=>simp [intOf];omega
  ·have i2 : ¬ (((i : Nat) : Int) < ((k : Nat) : Int)):=by omega
   clear HX HY
   go_wp2
   go_ret
   exact ⟨rfl,HB.out⟩
/-- What a twin's calls answer. -/
def TwA (w : World) (V : Value) (er : Int) (l1 l2 : List Int) : Prop :=
 (∀ w',Below w.heap.size w w' → Calls Tryz.prog 11 #[V] w' fun e w2=>CrO w' w2 e er l1 l2) ∧
 (∀ w',Below w.heap.size w w' → Calls Tryz.prog 14 #[V] w' fun e w2=>e = .returned (.int .i64 er) ∧ Below w'.heap.size w' w2)
theorem twA {w : World} {M M' : Mo} (hs : Sm M M') (hw : MoW w M') (hb : M'.ck ≤ 64 → M'.rk ≤ 64 → MoK 20 M') : TwA w M'.val (chkE M) (crA M).1 (crA M).2 :=
 ⟨fun w' h=>(crossed_c (hw.below h) (fun a b=>(hb a b).mob (by decide))).mono fun e w2 k=>by have:=k.out;rw [hs.chk,hs.crA] at this;exact this,
  fun w' h=>(check_w (hw.below h)).mono fun e w2 k=>by rw [hs.chk] at k;exact k⟩
set_option maxRecDepth 100000 in
set_option maxHeartbeats 8000000 in
theorem modelChecks_c {w : World} {M : Mo} (hX : MoX w M) (hN : MoN M) (hC : MoC M) : Calls Tryz.prog 3 #[M.val] w fun e w'=>e = .returned (.bool true) ∧ Below w.heap.size w w':=by
 obtain ⟨lb,hlb⟩ : ∃ t,lgM 20 M = t:=⟨_,rfl⟩
 have CL:=hid (fun w' (hw : Below w.heap.size w w')=>mLight_c (w:=w') (K:=20) (hX.below hw).light.1 (hX.below hw).light.2)
 rw [hlb] at CL
 have CT : Hid (∀ w',Below w.heap.size w w' → lb = true → Calls Tryz.prog 12 #[M.val] w' fun e w2=>∃ V,e = .returned V ∧ Below w'.heap.size w' w2 ∧ TwA w2 V (chkE M) (crA M).1 (crA M).2):=fun w' hw h=>(twin_w (w:=w') (K:=20) (hX.below hw) hN (lgM_k (hlb.trans h)) (by decide)).mono fun e w2 ⟨M',h1,h2,h3,h4,_,h6⟩=>⟨_,h1,h2,twA h3 h4 h6⟩
 have CX:=hid (fun w' (hw : Below w.heap.size w w') (h : lb = true)=>(docCrossed_c (w:=w') (K:=20) ((hX.below hw).both hN (lgM_k (hlb.trans h)) (by decide)) hC (lgM_k (hlb.trans h)) (by decide)).mono fun e w2 k=>k.out)
 have CD:=hid (fun w' (hw : Below w.heap.size w w') (h : lb = true)=>docCheck_w (w:=w') ((hX.below hw).both hN (lgM_k (hlb.trans h)) (by decide)) hC)
 have HL:=hid (crA_len M)
 obtain ⟨er,her⟩ : ∃ t,chkE M = t:=⟨_,rfl⟩
 obtain ⟨⟨l1,l2⟩,hcr⟩ : ∃ t,crA M = t:=⟨_,rfl⟩
 rw [her,hcr] at CT CX
 rw [her] at CD
 rw [hcr] at HL
 clear hX hN hC hlb her hcr
 obtain ⟨⟨s,x,n,c,f,y,m,d,g⟩,ca,ck,cc,C,ra,rk,rc,R⟩:=M
 replace CL : Hid (∀ w',Below w.heap.size w w' → Calls Tryz.prog 10 #[.agg #[.bool s,.slice x n c,.slice y m d,.slice ca ck cc,.slice ra rk rc],.int .i64 20] w' fun e w2=>e = .returned (.bool lb) ∧ Below w'.heap.size w' w2):=CL
 replace CT : Hid (∀ w',Below w.heap.size w w' → lb = true → Calls Tryz.prog 12 #[.agg #[.bool s,.slice x n c,.slice y m d,.slice ca ck cc,.slice ra rk rc]] w' fun e w2=>∃ V,e = .returned V ∧ Below w'.heap.size w' w2 ∧ TwA w2 V er l1 l2):=CT
 replace CX : Hid (∀ w',Below w.heap.size w w' → lb = true → Calls Tryz.prog 13 #[.agg #[.bool s,.slice x n c,.slice y m d,.slice ca ck cc,.slice ra rk rc]] w' fun e w2=>CrO w' w2 e er l1 l2):=CX
 replace CD : Hid (∀ w',Below w.heap.size w w' → lb = true → Calls Tryz.prog 15 #[.agg #[.bool s,.slice x n c,.slice y m d,.slice ca ck cc,.slice ra rk rc]] w' fun e w2=>e = .returned (.int .i64 er) ∧ Below w'.heap.size w' w2):=CD
 replace HL : Hid (l1.length ≤ 64 ∧ l2.length ≤ 64):=HL
 show Calls Tryz.prog 3 #[.agg #[.bool s,.slice x n c,.slice y m d,.slice ca ck cc,.slice ra rk rc]] w _
 have h3:=below_alloc (Below.refl w.heap.size w) (.cells #[.bool s,.slice x n c,.slice y m d,.slice ca ck cc,.slice ra rk rc] 28)
 have B1:=bk_new w [.bool s,.slice x n c,.slice y m d,.slice ca ck cc,.slice ra rk rc] 28
 replace B1 : Bk (w.alloc (.cells #[.bool s,.slice x n c,.slice y m d,.slice ca ck cc,.slice ra rk rc] 28)) w.heap.size [.bool s,.slice x n c,.slice y m d,.slice ca ck cc,.slice ra rk rc] 28:=B1
 go_enter Tryz.func3,Tryz.ntmps3
 go_wp2_with fail
 generalize w.alloc (.cells #[.bool s,.slice x n c,.slice y m d,.slice ca ck cc,.slice ra rk rc] 28) = w1 at *
 refine awake7_c.mono ?_
 rintro e w2 ⟨rfl,hb2⟩
 replace B1:=B1.below hb2
 have HW2:=hid (h3.trans (hb2.mono h3.size))
 clear hb2 h3
 have r0:=B1.cell (j:=0) rfl
 have r1:=B1.cell (j:=1) rfl
 have r2:=B1.cell (j:=2) rfl
 have r3:=B1.cell (j:=3) rfl
 have r4:=B1.cell (j:=4) rfl
 go_wp2_with fail
 refine (CL.out _ HW2.out).mono ?_
 rintro e w3 ⟨rfl,hb3⟩
 replace B1:=B1.below hb3
 have HW3:=hid (HW2.out.trans (hb3.mono HW2.out.size))
 clear hb3 HW2 CL r0 r1 r2 r3 r4
 cases lb
 ·go_wp2
  go_ret
  exact ⟨rfl,HW3.out⟩
 have r0:=B1.cell (j:=0) rfl
 have r1:=B1.cell (j:=1) rfl
 have r2:=B1.cell (j:=2) rfl
 have r3:=B1.cell (j:=3) rfl
 have r4:=B1.cell (j:=4) rfl
 go_wp2_with fail
 refine (CT.out _ HW3.out (by first | rfl | trivial)).mono ?_
 rintro e w4 ⟨V,rfl,hb4,hT⟩
 have HV:=hid hT
 replace B1:=B1.below hb4
 have HW4:=hid (HW3.out.trans (hb4.mono HW3.out.size))
 clear hb4 HW3 r0 r1 r2 r3 r4 hT
 have r0:=B1.cell (j:=0) rfl
 have r1:=B1.cell (j:=1) rfl
 have r2:=B1.cell (j:=2) rfl
 have r3:=B1.cell (j:=3) rfl
 have r4:=B1.cell (j:=4) rfl
 go_wp2_with fail
 refine (HV.out.1 _ (Below.refl _ _)).mono ?_
 rintro e w5 ⟨xa,xc,ya,yc,rfl,hb5,i1,i2⟩
 have I1:=hid i1;have I2:=hid i2
 replace B1:=B1.below hb5
 have HW5:=hid (HW4.out.trans (hb5.mono HW4.out.size))
 clear hb5 HW4 r0 r1 r2 r3 r4 HV i1 i2
 have r0:=B1.cell (j:=0) rfl
 have r1:=B1.cell (j:=1) rfl
 have r2:=B1.cell (j:=2) rfl
 have r3:=B1.cell (j:=3) rfl
 have r4:=B1.cell (j:=4) rfl
 go_wp2_with fail
 refine (CX.out _ HW5.out (by first | rfl | trivial)).mono ?_
 rintro e w6 ⟨za,zc,ua,uc,rfl,hb6,i3,i4⟩
 have I3:=hid i3;have I4:=hid i4
 have J1:=hid (I1.out.below hb6);have J2:=hid (I2.out.below hb6)
 replace B1:=B1.below hb6
 have HW6:=hid (HW5.out.trans (hb6.mono HW5.out.size))
 clear hb6 HW5 r0 r1 r2 r3 r4 I1 I2 i3 i4 CX
 go_upto_region 7 with fail
 have hbd:=Below.drew (Below.refl w6.heap.size w6)
 replace B1:=B1.below hbd
 have HW:=hid (HW6.out.trans (hbd.mono HW6.out.size))
 have K1:=hid (J1.out.below hbd);have K2:=hid (J2.out.below hbd);have K3:=hid (I3.out.below hbd);have K4:=hid (I4.out.below hbd)
 clear hbd HW6 J1 J2 I3 I4
 have q1 : (er == er) = true:=by simp
 have r0:=B1.cell (j:=0) rfl
 have r1:=B1.cell (j:=1) rfl
 have r2:=B1.cell (j:=2) rfl
 have r3:=B1.cell (j:=3) rfl
 have r4:=B1.cell (j:=4) rfl
 refine wp_region_held_drew (S:=(fun w'=>w'.cell? ⟨w.heap.size,0,none⟩ = some (.bool s) ∧ w'.cell? ⟨w.heap.size,1,none⟩ = some (.slice x n c) ∧ w'.cell? ⟨w.heap.size,2,none⟩ = some (.slice y m d) ∧ w'.cell? ⟨w.heap.size,3,none⟩ = some (.slice ca ck cc) ∧ w'.cell? ⟨w.heap.size,4,none⟩ = some (.slice ra rk rc))) (by kernel_rfl) ?_ (fun hHeld=>?_)
 ·exact ⟨r0,r1,r2,r3,r4⟩
 generalize hwd : w6.drew = wd at *
 clear hwd
 refine wpAnyH_take (i:=0) (v:=?_) rfl (by kernel_rfl) (by kernel_rfl) (by kernel_rfl) (fun _ _ _ h=>h) (Or.inl ⟨by rfl,?_⟩) (by assumption) ?_
 rotate_left
 (focus (intro w0 hSw;(try dsimp only at hSw);go_simp <;> with_reducible rfl))
 simp only [List.getElem_toArray,List.getElem_cons_zero,Act.put,List.setIfInBounds_toArray,List.set_cons_zero,List.set_cons_succ]
 refine wpAnyH_take (i:=3) (v:=?_) rfl (by kernel_rfl) (by kernel_rfl) (by kernel_rfl) (fun _ _ _ h=>h) (Or.inl ⟨by rfl,?_⟩) (by assumption) ?_
 rotate_left
 (focus (intro w0 hSw;(try dsimp only at hSw);go_simp <;> with_reducible rfl))
 simp only [List.getElem_toArray,List.getElem_cons_succ,List.getElem_cons_zero,Act.put,List.setIfInBounds_toArray,List.set_cons_zero,List.set_cons_succ]
 refine wpAnyH_ready (rs:=[1]) (by kernel_rfl) (by simp) ?_
 refine AllReadyH.cons (o:=_) rfl (fun K hK=>?_) ?_
 rotate_left
 exact AllReadyH.nil
 go_simp
 go_at_call 12
 refine (CT.out _ HW.out (by first | rfl | trivial)).mono ?_
 rintro e w7 ⟨V2,rfl,hb7,hT⟩
 have HV:=hid hT
 replace B1:=B1.below hb7
 have HW7:=hid (HW.out.trans (hb7.mono HW.out.size))
 replace K1:=hid (K1.out.below hb7);replace K2:=hid (K2.out.below hb7);replace K3:=hid (K3.out.below hb7);replace K4:=hid (K4.out.below hb7)
 (try go_wp2_with fail)
 refine hK.out _ _ ?_ (fun hH7=>?_)
 ·((try dsimp only);(refine ⟨?_,?_,?_,?_,?_⟩ <;> repeat (with_reducible first | assumption | refine kCb hb7 ?_ | refine kCb hb8 ?_ | refine kCb hb9 ?_ | refine kCb hb10 ?_ | refine kCb hb11 ?_)))
 clear hK K
 try simp only [Act.put,List.setIfInBounds_toArray,List.set_cons_zero,List.set_cons_succ]
 refine wpAnyH_ready (rs:=[2]) (by kernel_rfl) (by simp) ?_
 refine AllReadyH.cons (o:=_) rfl (fun K hK=>?_) ?_
 rotate_left
 exact AllReadyH.nil
 go_simp
 go_at_call 14
 refine (HV.out.2 _ (Below.refl _ _)).mono ?_
 rintro e w8 ⟨rfl,hb8⟩
 replace B1:=B1.below hb8
 have HW8:=hid (HW7.out.trans (hb8.mono HW7.out.size))
 replace K1:=hid (K1.out.below hb8);replace K2:=hid (K2.out.below hb8);replace K3:=hid (K3.out.below hb8);replace K4:=hid (K4.out.below hb8)
 (try go_wp2_with fail)
 refine hK.out _ _ ?_ (fun hH8=>?_)
 ·((try dsimp only);(refine ⟨?_,?_,?_,?_,?_⟩ <;> repeat (with_reducible first | assumption | refine kCb hb7 ?_ | refine kCb hb8 ?_ | refine kCb hb9 ?_ | refine kCb hb10 ?_ | refine kCb hb11 ?_)))
 clear hK K
 try simp only [Act.put,List.setIfInBounds_toArray,List.set_cons_zero,List.set_cons_succ]
 refine wpAnyH_ready (rs:=[4]) (by kernel_rfl) (by simp) ?_
 refine AllReadyH.cons (o:=_) rfl (fun K hK=>?_) ?_
 rotate_left
 exact AllReadyH.nil
 go_simp
 go_at_call 15
 refine (CD.out _ HW8.out (by first | rfl | trivial)).mono ?_
 rintro e w9 ⟨rfl,hb9⟩
 replace B1:=B1.below hb9
 have HW9:=hid (HW8.out.trans (hb9.mono HW8.out.size))
 replace K1:=hid (K1.out.below hb9);replace K2:=hid (K2.out.below hb9);replace K3:=hid (K3.out.below hb9);replace K4:=hid (K4.out.below hb9)
 (try go_wp2_with fail)
 refine hK.out _ _ ?_ (fun hH9=>?_)
 ·((try dsimp only);(refine ⟨?_,?_,?_,?_,?_⟩ <;> repeat (with_reducible first | assumption | refine kCb hb7 ?_ | refine kCb hb8 ?_ | refine kCb hb9 ?_ | refine kCb hb10 ?_ | refine kCb hb11 ?_)))
 clear hK K
 try simp only [Act.put,List.setIfInBounds_toArray,List.set_cons_zero,List.set_cons_succ]
 refine wpAnyH_take (i:=5) (v:=?_) rfl (by kernel_rfl) (by kernel_rfl) (by kernel_rfl) (fun _ _ _ h=>h) (Or.inl ⟨by rfl,?_⟩) (by assumption) ?_
 rotate_left
 (focus (intro w0 hSw;(try dsimp only at hSw);go_simp <;> with_reducible rfl))
 simp only [List.getElem_toArray,List.getElem_cons_succ,List.getElem_cons_zero,Act.put,List.setIfInBounds_toArray,List.set_cons_zero,List.set_cons_succ]
 refine wpAnyH_take (i:=6) (v:=?_) rfl (by kernel_rfl) (by kernel_rfl) (by kernel_rfl) (fun _ _ _ h=>h) (Or.inl ⟨by rfl,?_⟩) (by assumption) ?_
 rotate_left
 (focus (intro w0 hSw;(try dsimp only at hSw);go_simp <;> with_reducible rfl))
 simp only [List.getElem_toArray,List.getElem_cons_succ,List.getElem_cons_zero,Act.put,List.setIfInBounds_toArray,List.set_cons_zero,List.set_cons_succ]
 refine wpAnyH_take (i:=7) (v:=?_) rfl (by kernel_rfl) (by kernel_rfl) (by kernel_rfl) (fun _ _ _ h=>h) (Or.inl ⟨by rfl,?_⟩) (by assumption) ?_
 rotate_left
 (focus (intro w0 hSw;(try dsimp only at hSw);go_simp <;> with_reducible rfl))
 simp only [List.getElem_toArray,List.getElem_cons_succ,List.getElem_cons_zero,Act.put,List.setIfInBounds_toArray,List.set_cons_zero,List.set_cons_succ]
 refine wpAnyH_take (i:=8) (v:=?_) rfl (by kernel_rfl) (by kernel_rfl) (by kernel_rfl) (fun _ _ _ h=>h) (Or.inl ⟨by rfl,?_⟩) (by assumption) ?_
 rotate_left
 (focus (intro w0 hSw;(try dsimp only at hSw);go_simp <;> with_reducible rfl))
 simp only [List.getElem_toArray,List.getElem_cons_succ,List.getElem_cons_zero,Act.put,List.setIfInBounds_toArray,List.set_cons_zero,List.set_cons_succ]
 refine wpAnyH_ready (rs:=[9]) (by kernel_rfl) (by simp) ?_
 refine AllReadyH.cons (o:=_) rfl (fun K hK=>?_) ?_
 rotate_left
 exact AllReadyH.nil
 go_simp
 go_at_call 16
 refine (ints_c K1.out K3.out HL.out.1).mono ?_
 rintro e w10 ⟨rfl,hb10⟩
 replace B1:=B1.below hb10
 have HW10:=hid (HW9.out.trans (hb10.mono HW9.out.size))
 replace K1:=hid (K1.out.below hb10);replace K2:=hid (K2.out.below hb10);replace K3:=hid (K3.out.below hb10);replace K4:=hid (K4.out.below hb10)
 (try go_wp2_with fail)
 refine hK.out _ _ ?_ (fun hH10=>?_)
 ·((try dsimp only);(refine ⟨?_,?_,?_,?_,?_⟩ <;> repeat (with_reducible first | assumption | refine kCb hb7 ?_ | refine kCb hb8 ?_ | refine kCb hb9 ?_ | refine kCb hb10 ?_ | refine kCb hb11 ?_)))
 clear hK K
 try simp only [Act.put,List.setIfInBounds_toArray,List.set_cons_zero,List.set_cons_succ]
 refine wpAnyH_take (i:=10) (v:=?_) rfl (by kernel_rfl) (by kernel_rfl) (by kernel_rfl) (fun _ _ _ h=>h) (Or.inl ⟨by rfl,?_⟩) (by assumption) ?_
 rotate_left
 (focus (intro w0 hSw;(try dsimp only at hSw);go_simp <;> with_reducible rfl))
 simp only [List.getElem_toArray,List.getElem_cons_succ,List.getElem_cons_zero,Act.put,List.setIfInBounds_toArray,List.set_cons_zero,List.set_cons_succ]
 refine wpAnyH_take (i:=11) (v:=?_) rfl (by kernel_rfl) (by kernel_rfl) (by kernel_rfl) (fun _ _ _ h=>h) (Or.inl ⟨by rfl,?_⟩) (by assumption) ?_
 rotate_left
 (focus (intro w0 hSw;(try dsimp only at hSw);go_simp <;> with_reducible rfl))
 simp only [List.getElem_toArray,List.getElem_cons_succ,List.getElem_cons_zero,Act.put,List.setIfInBounds_toArray,List.set_cons_zero,List.set_cons_succ]
 refine wpAnyH_take (i:=12) (v:=?_) rfl (by kernel_rfl) (by kernel_rfl) (by kernel_rfl) (fun _ _ _ h=>h) (Or.inl ⟨by rfl,?_⟩) (by assumption) ?_
 rotate_left
 (focus (intro w0 hSw;(try dsimp only at hSw);go_simp <;> with_reducible rfl))
 simp only [List.getElem_toArray,List.getElem_cons_succ,List.getElem_cons_zero,Act.put,List.setIfInBounds_toArray,List.set_cons_zero,List.set_cons_succ]
 refine wpAnyH_take (i:=13) (v:=?_) rfl (by kernel_rfl) (by kernel_rfl) (by kernel_rfl) (fun _ _ _ h=>h) (Or.inl ⟨by rfl,?_⟩) (by assumption) ?_
 rotate_left
 (focus (intro w0 hSw;(try dsimp only at hSw);go_simp <;> with_reducible rfl))
 simp only [List.getElem_toArray,List.getElem_cons_succ,List.getElem_cons_zero,Act.put,List.setIfInBounds_toArray,List.set_cons_zero,List.set_cons_succ]
 refine wpAnyH_ready (rs:=[14]) (by kernel_rfl) (by simp) ?_
 refine AllReadyH.cons (o:=_) rfl (fun K hK=>?_) ?_
 rotate_left
 exact AllReadyH.nil
 go_simp
 go_at_call 16
 refine (ints_c K2.out K4.out HL.out.2).mono ?_
 rintro e w11 ⟨rfl,hb11⟩
 replace B1:=B1.below hb11
 have HW11:=hid (HW10.out.trans (hb11.mono HW10.out.size))
 replace K1:=hid (K1.out.below hb11);replace K2:=hid (K2.out.below hb11);replace K3:=hid (K3.out.below hb11);replace K4:=hid (K4.out.below hb11)
 (try go_wp2_with fail)
 refine hK.out _ _ ?_ (fun hH11=>?_)
 ·((try dsimp only);(refine ⟨?_,?_,?_,?_,?_⟩ <;> repeat (with_reducible first | assumption | refine kCb hb7 ?_ | refine kCb hb8 ?_ | refine kCb hb9 ?_ | refine kCb hb10 ?_ | refine kCb hb11 ?_)))
 clear hK K
 try simp only [Act.put,List.setIfInBounds_toArray,List.set_cons_zero,List.set_cons_succ]
 refine wpAnyH_take (i:=15) (v:=?_) rfl (by kernel_rfl) (by kernel_rfl) (by kernel_rfl) (fun _ _ _ h=>h) (Or.inl ⟨by rfl,?_⟩) (by assumption) ?_
 rotate_left
 (focus (intro w0 hSw;(try dsimp only at hSw);go_simp <;> with_reducible rfl))
 simp only [List.getElem_toArray,List.getElem_cons_succ,List.getElem_cons_zero,Act.put,List.setIfInBounds_toArray,List.set_cons_zero,List.set_cons_succ]
 refine wpAnyH_take (i:=16) (v:=?_) rfl (by kernel_rfl) (by kernel_rfl) (by kernel_rfl) (fun _ _ _ h=>h) (Or.inl ⟨by rfl,?_⟩) (by assumption) ?_
 rotate_left
 (focus (intro w0 hSw;(try dsimp only at hSw);go_simp <;> with_reducible rfl))
 simp only [List.getElem_toArray,List.getElem_cons_succ,List.getElem_cons_zero,Act.put,List.setIfInBounds_toArray,List.set_cons_zero,List.set_cons_succ]
 refine wpAnyH_take (i:=17) (v:=?_) rfl (by kernel_rfl) (by kernel_rfl) (by kernel_rfl) (fun _ _ _ h=>h) (Or.inl ⟨by rfl,?_⟩) (by assumption) ?_
 rotate_left
 (focus (intro w0 hSw;(try dsimp only at hSw);go_simp <;> with_reducible rfl))
 simp only [List.getElem_toArray,List.getElem_cons_succ,List.getElem_cons_zero,Act.put,List.setIfInBounds_toArray,List.set_cons_zero,List.set_cons_succ]
 refine wpAnyH_take (i:=18) (v:=?_) rfl (by kernel_rfl) (by kernel_rfl) (by kernel_rfl) (fun _ _ _ h=>h) (Or.inl ⟨by rfl,?_⟩) (by assumption) ?_
 rotate_left
 (focus (intro w0 hSw;(try dsimp only at hSw);go_simp <;> with_reducible rfl))
 simp only [List.getElem_toArray,List.getElem_cons_succ,List.getElem_cons_zero,Act.put,List.setIfInBounds_toArray,List.set_cons_zero,List.set_cons_succ]
 refine wpAnyH_take (i:=19) (v:=?_) rfl (by kernel_rfl) (by kernel_rfl) (by kernel_rfl) (fun _ _ _ h=>h) (Or.inl ⟨by rfl,?_⟩) (by assumption) ?_
 rotate_left
 (focus (intro w0 hSw;(try dsimp only at hSw);go_simp <;> with_reducible rfl))
 simp only [List.getElem_toArray,List.getElem_cons_succ,List.getElem_cons_zero,Act.put,List.setIfInBounds_toArray,List.set_cons_zero,List.set_cons_succ]
 refine wpAnyH_take (i:=20) (v:=?_) rfl (by kernel_rfl) (by kernel_rfl) (by kernel_rfl) (fun _ _ _ h=>h) (Or.inl ⟨by rfl,?_⟩) (by assumption) ?_
 rotate_left
 (focus (intro w0 hSw;(try dsimp only at hSw);go_simp <;> with_reducible rfl))
 simp only [List.getElem_toArray,List.getElem_cons_succ,List.getElem_cons_zero,Act.put,List.setIfInBounds_toArray,List.set_cons_zero,List.set_cons_succ]
 refine wpAnyH_take (i:=21) (v:=?_) rfl (by kernel_rfl) (by kernel_rfl) (by kernel_rfl) (fun _ _ _ h=>h) (Or.inl ⟨by rfl,?_⟩) (by assumption) ?_
 rotate_left
 (focus (intro w0 hSw;(try dsimp only at hSw);go_simp <;> with_reducible rfl))
 simp only [List.getElem_toArray,List.getElem_cons_succ,List.getElem_cons_zero,Act.put,List.setIfInBounds_toArray,List.set_cons_zero,List.set_cons_succ]
 refine wpAnyH_done (by kernel_rfl) ?_ _
 go_wp2
 go_ret
 exact ⟨rfl,HW11.out⟩
end Go.Proofs.YtgmllfcngnfpkaaGreat
