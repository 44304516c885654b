/-
  The walk of WholeRing.
-/
import Derived.Test.YtjhmigepanecnaaGreatDoorZ5
namespace Go.Proofs.YtjhmigepanecnaaGreatDoor
open Go.RowKit

set_option maxRecDepth 100000 in
set_option maxHeartbeats 4000000 in
theorem wholeRing_c (sa : Bool) (ao : Option Addr) (n ca : Nat) (f : Nat → Int) (sb : Bool) (bo : Option Addr) (m cb : Nat) (g : Nat → Int) (sc : Bool) (co : Option Addr) (l cc : Nat) (h : Nat → Int) (w : World) (hn : n ≤ ca ∧ ca ≤ 9223372036854775807) (hr : Rd .u64 w ao n f) (hf : Lm f n) (na : ao = none → n = 0 ∧ ca = 0) (hm : m ≤ cb ∧ cb ≤ 9223372036854775807) (hs : Rd .u64 w bo m g) (hg : Lm g m) (nb : bo = none → m = 0 ∧ cb = 0) (hl : l ≤ cc ∧ cc ≤ 9223372036854775807) (ht : Rd .u64 w co l h) (hh : Lm h l) (nc : co = none → l = 0 ∧ cc = 0) (htab : Tab w) :
    Calls Tryz.prog 7 #[.agg #[.bool sa, .slice ao n ca], .agg #[.bool sb, .slice bo m cb], .agg #[.bool sc, .slice co l cc]] w fun e w' => e = .returned (.bool true) ∧ Below w.heap.size w w' := by
  have HR := hid hr; have HS := hid hs; have HT := hid ht; have HF := hid hf; have HG := hid hg; have HH := hid hh; have NA := hid na; have NB := hid nb; have NC := hid nc; have HTab := hid htab
  clear hr hs ht hf hg hh na nb nc htab
  go_enter Tryz.func7, Tryz.ntmps7
  go_wp2_with fail
  refine (wAwake_c _ (HTab.out.below (below_alloc (below_alloc (below_alloc (Below.refl w.heap.size w) _) _) _) HTab.out.lt)).mono ?_
  rintro e w1 ⟨rfl, hb⟩
  obtain ⟨⟨hz, x0, x1, y0, y1, z0, z1⟩, zf, hw⟩ := boxes3 hb
  have BA1 : Hid (Bx w1 w.heap.size sa ao n ca) := ⟨by omega, x0, x1⟩
  have BB1 : Hid (Bx w1 (w.heap.size + 1) sb bo m cb) := ⟨by omega, y0, y1⟩
  have BC1 : Hid (Bx w1 (w.heap.size + 1 + 1) sc co l cc) := ⟨by omega, z0, z1⟩
  have HW1 := hid hw
  clear hb hw zf z0 z1
  go_wp2_with fail
  refine (wLight_c sa sb ao bo n m ca cb _ (by omega) (by omega)).mono ?_
  rintro e w2 ⟨rfl, hb⟩
  have BA2 := hid (BA1.out.below hb); have BB2 := hid (BB1.out.below hb); have BC2 := hid (BC1.out.below hb); have HW2 := hid (HW1.out.trans (hb.mono HW1.out.size))
  clear hb BA1 BB1 BC1 HW1 x0 x1 y0 y1 hz
  cases hlg : lgt n m
  · go_wp2
    go_ret
    exact ⟨rfl, HW2.out⟩
  have hn60 : n ≤ 60 := by simp [lgt] at hlg; exact hlg.1
  have hm60 : m ≤ 60 := by simp [lgt] at hlg; exact hlg.2
  clear hlg
  obtain ⟨zc, c0, c1⟩ := BC2.out
  obtain ⟨za, a0, a1⟩ := BA2.out
  by_cases hl60 : 60 < l
  · have d1 : decide ((60 : Int) < (l : Int)) = true := by simp; omega
    go_wp2
    go_ret
    exact ⟨rfl, HW2.out⟩
  have d1 : decide ((60 : Int) < (l : Int)) = false := by simp; omega
  go_wp2_with fail
  refine (wForm_c sa ao n ca f _ (by omega) (HR.out.below HW2.out (Nat.le_refl _))).mono ?_
  rintro e w3 ⟨rfl, hb⟩
  have BA3 := hid (BA2.out.below hb); have BB3 := hid (BB2.out.below hb); have BC3 := hid (BC2.out.below hb); have HW3 := hid (HW2.out.trans (hb.mono HW2.out.size))
  clear hb BA2 BB2 BC2 HW2 za a0 a1 zc c0 c1
  obtain ⟨za, a0, a1⟩ := BB3.out
  obtain ⟨zc, c0, c1⟩ := BC3.out
  cases hfA : wfB sa f n
  · go_wp2
    go_ret
    exact ⟨rfl, HW3.out⟩
  have FA := hid hfA
  clear hfA
  go_wp2_with fail
  refine (wForm_c sb bo m cb g _ (by omega) (HS.out.below HW3.out (Nat.le_refl _))).mono ?_
  rintro e w4 ⟨rfl, hb⟩
  have BA4 := hid (BA3.out.below hb); have BB4 := hid (BB3.out.below hb); have BC4 := hid (BC3.out.below hb); have HW4 := hid (HW3.out.trans (hb.mono HW3.out.size))
  clear hb BA3 BB3 BC3 HW3 za a0 a1 zc c0 c1
  obtain ⟨za, a0, a1⟩ := BC4.out
  obtain ⟨zc, c0, c1⟩ := BA4.out
  cases hfB : wfB sb g m
  · go_wp2
    go_ret
    exact ⟨rfl, HW4.out⟩
  have FB := hid hfB
  clear hfB
  go_wp2_with fail
  refine (wForm_c sc co l cc h _ (by omega) (HT.out.below HW4.out (Nat.le_refl _))).mono ?_
  rintro e w5 ⟨rfl, hb⟩
  have BA5 := hid (BA4.out.below hb); have BB5 := hid (BB4.out.below hb); have BC5 := hid (BC4.out.below hb); have HW5 := hid (HW4.out.trans (hb.mono HW4.out.size))
  clear hb BA4 BB4 BC4 HW4 za a0 a1 zc c0 c1
  obtain ⟨za, a0, a1⟩ := BA5.out
  obtain ⟨zc, c0, c1⟩ := BB5.out
  cases hfC : wfB sc h l
  · go_wp2
    go_ret
    exact ⟨rfl, HW5.out⟩
  have FC := hid hfC
  clear hfC
  have WA5 : Hid (Wn w5 sa ao n ca f (wv sa f n)) := ⟨HR.out.below HW5.out (Nat.le_refl _), HF.out, FA.out, hn, NA.out, rfl⟩
  have WB5 : Hid (Wn w5 sb bo m cb g (wv sb g m)) := ⟨HS.out.below HW5.out (Nat.le_refl _), HG.out, FB.out, hm, NB.out, rfl⟩
  have WC5 : Hid (Wn w5 sc co l cc h (wv sc h l)) := ⟨HT.out.below HW5.out (Nat.le_refl _), HH.out, FC.out, hl, NC.out, rfl⟩
  clear HR HS HT HF HG HH NA NB NC HTab FA FB FC d1
  clear za a0 a1 zc c0 c1
  obtain ⟨zA, A0, A1⟩ := BA5.out
  obtain ⟨zB, B0, B1⟩ := BB5.out
  go_wp2_with fail
  refine (add_n WA5.out WB5.out (by omega) (by omega)).mono ?_
  rintro e w6 ⟨rD, xD, kD, cD, fD, rfl, hb, hkD, hnD⟩
  have BA6 := hid (BA5.out.below hb)
  have WA6 := hid (WA5.out.below hb)
  have BB6 := hid (BB5.out.below hb)
  have WB6 := hid (WB5.out.below hb)
  have BC6 := hid (BC5.out.below hb)
  have WC6 := hid (WC5.out.below hb)
  have HW6 := hid (HW5.out.trans (hb.mono HW5.out.size))
  have WD6 := hid hnD
  have bD : kD ≤ 61 := by omega
  clear hb hnD hkD BA5 BB5 BC5 WA5 WB5 WC5 HW5 zA A0 A1 zB B0 B1
  obtain ⟨zB, B0, B1⟩ := BB6.out
  obtain ⟨zA, A0, A1⟩ := BA6.out
  go_wp2_with fail
  refine (add_n (WB6.out.alloc _) (WA6.out.alloc _) (by omega) (by omega)).mono ?_
  rintro e w7 ⟨rE, xE, kE, cE, fE, rfl, hb, hkE, hnE⟩
  have BA7 := hid (BA6.out.next hb)
  have WA7 := hid (WA6.out.next hb)
  have BB7 := hid (BB6.out.next hb)
  have WB7 := hid (WB6.out.next hb)
  have BC7 := hid (BC6.out.next hb)
  have WC7 := hid (WC6.out.next hb)
  have BD7 := hid (bx_new hb)
  have WD7 := hid (WD6.out.next hb)
  have HW7 := hid ((below_alloc HW6.out _).trans (hb.mono (below_alloc HW6.out _).size))
  have WE7 := hid hnE
  have bE : kE ≤ 61 := by omega
  clear hb hnE hkE BA6 BB6 BC6 WA6 WB6 WC6 WD6 HW6 zB B0 B1 zA A0 A1
  obtain ⟨zD, D0, D1⟩ := BD7.out
  obtain ⟨zC, C0, C1⟩ := BC7.out
  go_wp2_with fail
  refine (mul_n (WD7.out.alloc _) (WC7.out.alloc _) (by omega) (by omega)).mono ?_
  rintro e w8 ⟨rP, xP, kP, cP, fP, rfl, hb, hkP, hnP⟩
  have BA8 := hid (BA7.out.next hb)
  have WA8 := hid (WA7.out.next hb)
  have BB8 := hid (BB7.out.next hb)
  have WB8 := hid (WB7.out.next hb)
  have BC8 := hid (BC7.out.next hb)
  have WC8 := hid (WC7.out.next hb)
  have BD8 := hid (BD7.out.next hb)
  have WD8 := hid (WD7.out.next hb)
  have BE8 := hid (bx_new hb)
  have WE8 := hid (WE7.out.next hb)
  have HW8 := hid ((below_alloc HW7.out _).trans (hb.mono (below_alloc HW7.out _).size))
  have WP8 := hid hnP
  have bP : kP ≤ 121 := by omega
  clear hb hnP hkP BA7 BB7 BC7 BD7 WA7 WB7 WC7 WD7 WE7 HW7 zD D0 D1 zC C0 C1
  obtain ⟨zA, A0, A1⟩ := BA8.out
  obtain ⟨zC, C0, C1⟩ := BC8.out
  go_wp2_with fail
  refine (mul_n (WA8.out.alloc _) (WC8.out.alloc _) (by omega) (by omega)).mono ?_
  rintro e w9 ⟨rX, xX, kX, cX, fX, rfl, hb, hkX, hnX⟩
  have BA9 := hid (BA8.out.next hb)
  have WA9 := hid (WA8.out.next hb)
  have BB9 := hid (BB8.out.next hb)
  have WB9 := hid (WB8.out.next hb)
  have BC9 := hid (BC8.out.next hb)
  have WC9 := hid (WC8.out.next hb)
  have BD9 := hid (BD8.out.next hb)
  have WD9 := hid (WD8.out.next hb)
  have BE9 := hid (BE8.out.next hb)
  have WE9 := hid (WE8.out.next hb)
  have BP9 := hid (bx_new hb)
  have WP9 := hid (WP8.out.next hb)
  have HW9 := hid ((below_alloc HW8.out _).trans (hb.mono (below_alloc HW8.out _).size))
  have WX9 := hid hnX
  have bX : kX ≤ 120 := by omega
  clear hb hnX hkX BA8 BB8 BC8 BD8 BE8 WA8 WB8 WC8 WD8 WE8 WP8 HW8 zA A0 A1 zC C0 C1
  obtain ⟨zC, C0, C1⟩ := BC9.out
  obtain ⟨zB, B0, B1⟩ := BB9.out
  go_wp2_with fail
  refine (mul_n (WC9.out.alloc _) (WB9.out.alloc _) (by omega) (by omega)).mono ?_
  rintro e w10 ⟨rY, xY, kY, cY, fY, rfl, hb, hkY, hnY⟩
  have BA10 := hid (BA9.out.next hb)
  have WA10 := hid (WA9.out.next hb)
  have BB10 := hid (BB9.out.next hb)
  have WB10 := hid (WB9.out.next hb)
  have BC10 := hid (BC9.out.next hb)
  have WC10 := hid (WC9.out.next hb)
  have BD10 := hid (BD9.out.next hb)
  have WD10 := hid (WD9.out.next hb)
  have BE10 := hid (BE9.out.next hb)
  have WE10 := hid (WE9.out.next hb)
  have BP10 := hid (BP9.out.next hb)
  have WP10 := hid (WP9.out.next hb)
  have BX10 := hid (bx_new hb)
  have WX10 := hid (WX9.out.next hb)
  have HW10 := hid ((below_alloc HW9.out _).trans (hb.mono (below_alloc HW9.out _).size))
  have WY10 := hid hnY
  have bY : kY ≤ 120 := by omega
  clear hb hnY hkY BA9 BB9 BC9 BD9 BE9 BP9 WA9 WB9 WC9 WD9 WE9 WP9 WX9 HW9 zC C0 C1 zB B0 B1
  obtain ⟨zX, X0, X1⟩ := BX10.out
  go_wp2_with fail
  refine (add_n (WX10.out.alloc _) (WY10.out.alloc _) (by omega) (by omega)).mono ?_
  rintro e w11 ⟨rS, xS, kS, cS, fS, rfl, hb, hkS, hnS⟩
  have BA11 := hid (BA10.out.next hb)
  have WA11 := hid (WA10.out.next hb)
  have BB11 := hid (BB10.out.next hb)
  have WB11 := hid (WB10.out.next hb)
  have BC11 := hid (BC10.out.next hb)
  have WC11 := hid (WC10.out.next hb)
  have BD11 := hid (BD10.out.next hb)
  have WD11 := hid (WD10.out.next hb)
  have BE11 := hid (BE10.out.next hb)
  have WE11 := hid (WE10.out.next hb)
  have BP11 := hid (BP10.out.next hb)
  have WP11 := hid (WP10.out.next hb)
  have BX11 := hid (BX10.out.next hb)
  have WX11 := hid (WX10.out.next hb)
  have BY11 := hid (bx_new hb)
  have WY11 := hid (WY10.out.next hb)
  have HW11 := hid ((below_alloc HW10.out _).trans (hb.mono (below_alloc HW10.out _).size))
  have WS11 := hid hnS
  have bS : kS ≤ 121 := by omega
  clear hb hnS hkS BA10 BB10 BC10 BD10 BE10 BP10 BX10 WA10 WB10 WC10 WD10 WE10 WP10 WX10 WY10 HW10 zX X0 X1
  obtain ⟨zD, D0, D1⟩ := BD11.out
  obtain ⟨zB, B0, B1⟩ := BB11.out
  go_wp2_with fail
  refine (sub_n (WD11.out.alloc _) (WB11.out.alloc _) (by omega) (by omega)).mono ?_
  rintro e w12 ⟨rG, xG, kG, cG, fG, rfl, hb, hkG, hnG⟩
  have BA12 := hid (BA11.out.next hb)
  have WA12 := hid (WA11.out.next hb)
  have BB12 := hid (BB11.out.next hb)
  have WB12 := hid (WB11.out.next hb)
  have BC12 := hid (BC11.out.next hb)
  have WC12 := hid (WC11.out.next hb)
  have BD12 := hid (BD11.out.next hb)
  have WD12 := hid (WD11.out.next hb)
  have BE12 := hid (BE11.out.next hb)
  have WE12 := hid (WE11.out.next hb)
  have BP12 := hid (BP11.out.next hb)
  have WP12 := hid (WP11.out.next hb)
  have BX12 := hid (BX11.out.next hb)
  have WX12 := hid (WX11.out.next hb)
  have BY12 := hid (BY11.out.next hb)
  have WY12 := hid (WY11.out.next hb)
  have BS12 := hid (bx_new hb)
  have WS12 := hid (WS11.out.next hb)
  have HW12 := hid ((below_alloc HW11.out _).trans (hb.mono (below_alloc HW11.out _).size))
  have WG12 := hid hnG
  have bG : kG ≤ 62 := by omega
  clear hb hnG hkG BA11 BB11 BC11 BD11 BE11 BP11 BX11 BY11 WA11 WB11 WC11 WD11 WE11 WP11 WX11 WY11 WS11 HW11 zD D0 D1 zB B0 B1
  obtain ⟨zB, B0, B1⟩ := BB12.out
  go_wp2_with fail
  refine (neg_n (WB12.out.alloc _) (by omega)).mono ?_
  rintro e w13 ⟨rN, xN, kN, cN, fN, rfl, hb, hkN, hnN⟩
  have BA13 := hid (BA12.out.next hb)
  have WA13 := hid (WA12.out.next hb)
  have BB13 := hid (BB12.out.next hb)
  have WB13 := hid (WB12.out.next hb)
  have BC13 := hid (BC12.out.next hb)
  have WC13 := hid (WC12.out.next hb)
  have BD13 := hid (BD12.out.next hb)
  have WD13 := hid (WD12.out.next hb)
  have BE13 := hid (BE12.out.next hb)
  have WE13 := hid (WE12.out.next hb)
  have BP13 := hid (BP12.out.next hb)
  have WP13 := hid (WP12.out.next hb)
  have BX13 := hid (BX12.out.next hb)
  have WX13 := hid (WX12.out.next hb)
  have BY13 := hid (BY12.out.next hb)
  have WY13 := hid (WY12.out.next hb)
  have BS13 := hid (BS12.out.next hb)
  have WS13 := hid (WS12.out.next hb)
  have BG13 := hid (bx_new hb)
  have WG13 := hid (WG12.out.next hb)
  have HW13 := hid ((below_alloc HW12.out _).trans (hb.mono (below_alloc HW12.out _).size))
  have WN13 := hid hnN
  have bN : kN ≤ 60 := by omega
  clear hb hnN hkN BA12 BB12 BC12 BD12 BE12 BP12 BX12 BY12 BS12 WA12 WB12 WC12 WD12 WE12 WP12 WX12 WY12 WS12 WG12 HW12 zB B0 B1
  obtain ⟨zB, B0, B1⟩ := BB13.out
  go_wp2_with fail
  refine (add_n (WB13.out.alloc _) (WN13.out.alloc _) (by omega) (by omega)).mono ?_
  rintro e w14 ⟨rZ, xZ, kZ, cZ, fZ, rfl, hb, hkZ, hnZ⟩
  have BA14 := hid (BA13.out.next hb)
  have WA14 := hid (WA13.out.next hb)
  have BB14 := hid (BB13.out.next hb)
  have WB14 := hid (WB13.out.next hb)
  have BC14 := hid (BC13.out.next hb)
  have WC14 := hid (WC13.out.next hb)
  have BD14 := hid (BD13.out.next hb)
  have WD14 := hid (WD13.out.next hb)
  have BE14 := hid (BE13.out.next hb)
  have WE14 := hid (WE13.out.next hb)
  have BP14 := hid (BP13.out.next hb)
  have WP14 := hid (WP13.out.next hb)
  have BX14 := hid (BX13.out.next hb)
  have WX14 := hid (WX13.out.next hb)
  have BY14 := hid (BY13.out.next hb)
  have WY14 := hid (WY13.out.next hb)
  have BS14 := hid (BS13.out.next hb)
  have WS14 := hid (WS13.out.next hb)
  have BG14 := hid (BG13.out.next hb)
  have WG14 := hid (WG13.out.next hb)
  have BN14 := hid (bx_new hb)
  have WN14 := hid (WN13.out.next hb)
  have HW14 := hid ((below_alloc HW13.out _).trans (hb.mono (below_alloc HW13.out _).size))
  have WZ14 := hid hnZ
  have bZ : kZ ≤ 61 := by omega
  clear hb hnZ hkZ BA13 BB13 BC13 BD13 BE13 BP13 BX13 BY13 BS13 BG13 WA13 WB13 WC13 WD13 WE13 WP13 WX13 WY13 WS13 WG13 WN13 HW13 zB B0 B1
  have hZ : rZ = false ∧ kZ = 0 := by
    have hv := WZ14.out.val
    have hz : wv rZ fZ kZ = 0 := by rw [hv]; omega
    have hp := WZ14.out.wf
    by_cases hk : kZ = 0
    · subst hk
      exact ⟨by cases hr : rZ with
        | false => rfl
        | true => have := sgn_of_wfB hp hr; omega, rfl⟩
    · have h1 := vf_pos WZ14.out.lm (fm_of_wfB hp) (by omega)
      cases hr : rZ <;> rw [hr] at hz <;> simp only [wv_false, wv_true] at hz <;> omega
  obtain ⟨rfl, rfl⟩ := hZ
  obtain ⟨zD, D0, D1⟩ := BD14.out
  obtain ⟨zE, E0, E1⟩ := BE14.out
  obtain ⟨zP, P0, P1⟩ := BP14.out
  obtain ⟨zS, S0, S1⟩ := BS14.out
  obtain ⟨zG, G0, G1⟩ := BG14.out
  obtain ⟨zA, A0, A1⟩ := BA14.out
  have eDE : Hid (wv sb g m + wv sa f n = wv sa f n + wv sb g m) := by show wv sb g m + wv sa f n = wv sa f n + wv sb g m; omega
  have WE' : Hid (Wn w14 rE xE kE cE fE (wv sa f n + wv sb g m)) := by have := WE14.out; rw [eDE.out] at this; exact this
  have eS : Hid (wv sa f n * wv sc h l + wv sc h l * wv sb g m = (wv sa f n + wv sb g m) * wv sc h l) := by show wv sa f n * wv sc h l + wv sc h l * wv sb g m = (wv sa f n + wv sb g m) * wv sc h l; rw [Int.add_mul, Int.mul_comm (wv sc h l)]
  have WS' : Hid (Wn w14 rS xS kS cS fS ((wv sa f n + wv sb g m) * wv sc h l)) := by have := WS14.out; rw [eS.out] at this; exact this
  have eG : Hid (wv sa f n + wv sb g m - wv sb g m = wv sa f n) := by show wv sa f n + wv sb g m - wv sb g m = wv sa f n; omega
  have WG' : Hid (Wn w14 rG xG kG cG fG (wv sa f n)) := by have := WG14.out; rw [eG.out] at this; exact this
  go_wp2_with fail
  refine (same_n (WD14.out.alloc _) (WE'.out.alloc _) (by omega) (by omega)).mono ?_
  rintro e w15 ⟨rfl, hb⟩
  have BZ15 := hid (bx_new hb)
  have BP15 := hid (BP14.out.next hb)
  have BS15 := hid (BS14.out.next hb)
  have BG15 := hid (BG14.out.next hb)
  have BA15 := hid (BA14.out.next hb)
  have WP15 := hid (WP14.out.next hb)
  have WS15 := hid (WS'.out.next hb)
  have WG15 := hid (WG'.out.next hb)
  have WA15 := hid (WA14.out.next hb)
  have HW15 := hid ((below_alloc HW14.out _).trans (hb.mono (below_alloc HW14.out _).size))
  clear hb zD D0 D1 zE E0 E1 zP P0 P1 zS S0 S1 zG G0 G1 zA A0 A1
  obtain ⟨zP, P0, P1⟩ := BP15.out
  obtain ⟨zS, S0, S1⟩ := BS15.out
  obtain ⟨zG, G0, G1⟩ := BG15.out
  obtain ⟨zA, A0, A1⟩ := BA15.out
  go_wp2_with fail
  refine (same_n WP15.out WS15.out (by omega) (by omega)).mono ?_
  rintro e w16 ⟨rfl, hb⟩
  have BP16 := hid (BP15.out.below hb)
  have BG16 := hid (BG15.out.below hb)
  have BA16 := hid (BA15.out.below hb)
  have BZ16 := hid (BZ15.out.below hb)
  have WP16 := hid (WP15.out.below hb)
  have WG16 := hid (WG15.out.below hb)
  have WA16 := hid (WA15.out.below hb)
  have HW16 := hid (HW15.out.trans (hb.mono HW15.out.size))
  clear hb zP P0 P1 zS S0 S1 zG G0 G1 zA A0 A1
  obtain ⟨zP, P0, P1⟩ := BP16.out
  obtain ⟨zG, G0, G1⟩ := BG16.out
  obtain ⟨zA, A0, A1⟩ := BA16.out
  go_wp2_with fail
  refine (same_n WG16.out WA16.out (by omega) (by omega)).mono ?_
  rintro e w17 ⟨rfl, hb⟩
  have BP17 := hid (BP16.out.below hb)
  have BZ17 := hid (BZ16.out.below hb)
  have WP17 := hid (WP16.out.below hb)
  have HW17 := hid (HW16.out.trans (hb.mono HW16.out.size))
  clear hb zP P0 P1 zG G0 G1 zA A0 A1
  obtain ⟨zP, P0, P1⟩ := BP17.out
  obtain ⟨zZ, Z0, Z1⟩ := BZ17.out
  go_wp2_with fail
  refine (form_n WP17.out (by omega)).mono ?_
  rintro e w18 ⟨rfl, hb⟩
  have HW18 := hid (HW17.out.trans (hb.mono HW17.out.size))
  clear hb
  go_wp2
  go_ret
  exact ⟨rfl, HW18.out⟩
end Go.Proofs.YtjhmigepanecnaaGreatDoor
