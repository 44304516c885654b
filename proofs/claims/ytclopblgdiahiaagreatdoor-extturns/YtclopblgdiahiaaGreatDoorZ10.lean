/-
  The walk of package rat's call Text on -3/2. The walk of the statements' own look at answers of rat that the document fixes (awake). The walk of RatSums. Walks of rat.Make and of the document's DocMake, whatever they are handed. Bounds (api.Ext) as they lie in memory: boxes of four cells; what is in form; the order. Walks of ext: isZero, Form, allForm, number, infinity, Low, High, Copy, Cmp, Max, Min; of cmp.Compare at int. Walks of the document's reference for ext: Twin, From, To, Num, Low, High, Same, Form, Cmp, Max, Min. Walks of ext: allForm, Cmp, Max, Min, whatever they are handed.
-/
import Derived.Test.YtclopblgdiahiaaGreatDoorZ9
import Derived.Test.YtclopblgdiahiaaGreatDoorZ8
namespace Go.Proofs.YtclopblgdiahiaaGreatDoor
open Go.RowKit

theorem dec_3 : Lib.decDigits 3 = [51] := by decide +kernel
theorem dec_2 : Lib.decDigits 2 = [50] := by decide +kernel
theorem wtxt_m3 {s : Bool} {f : Nat → Int} {n : Nat} (hf : Lm f n) (hw : wfB s f n = true) (hv : wv s f n = -3) : wtxt s f n = ⟨#[45, 51]⟩ ∧ wter s f n = 0 := by
  have h0 := vf_nonneg hf
  have hfm : fmB f n = true := (fmB_iff f n).2 (fm_of_wfB hw)
  cases s
  · rw [wv_false] at hv; omega
  · rw [wv_true] at hv
    have e : (vf f n).toNat = 3 := by omega
    refine ⟨?_, by simp [wter, hw]⟩
    unfold wtxt txt
    rw [if_pos hw, if_pos rfl, if_pos hfm, e, dec_3]
    rfl
theorem txt_2 {f : Nat → Int} {n : Nat} (hf : Fm f n) (hv : vf f n = 2) : txt f n = ⟨#[50]⟩ ∧ ter f n = 0 := by
  have hfm : fmB f n = true := (fmB_iff f n).2 hf
  have e : (vf f n).toNat = 2 := by omega
  refine ⟨?_, by simp [ter, hfm]⟩
  unfold txt
  rw [if_pos hfm, e, dec_2]
set_option maxRecDepth 100000 in
set_option maxHeartbeats 4000000 in
theorem text32_c {L w s x n c f y m d g q} (h : Rn L w s x n c f y m d g q) (hL : L ≤ 1000) (t1 : Tg w x) (t2 : Tg w y) (htab : Tab w) (h1 : q.num = -3) (h2 : q.den = 2) :
    Calls Tryz.prog 48 #[.agg #[.bool s, .slice x n c, .slice y m d]] w fun e w' => e = .returned (.tuple #[.string ⟨#[45, 51, 47, 50]⟩, .int .i64 0]) ∧ Below w.heap.size w w' := by
  have HR := hid h; have T1 := hid t1; have T2 := hid t2; have HTab := hid htab
  have b1 := h.ln; have b2 := h.ld
  have e1 := wtxt_m3 h.num.lm h.num.wf (h.num.val.trans h1)
  have e2 := txt_2 h.den.fm (h.den.nv.trans (by rw [h2]; rfl))
  have E1 := hid e1; have E2 := hid e2; have H2 := hid h2
  clear h t1 t2 htab e1 e2 h1 h2
  go_enter Tryz.func48, Tryz.ntmps48
  go_wp2_with fail
  refine (rForm_n (HR.out.alloc _) (by omega)).mono ?_
  rintro e w1 ⟨rfl, hb⟩
  have B1 := hid (bx3_new hb); have HW1 : Hid (Below w.heap.size w w1) := (below_alloc (Below.refl w.heap.size w) _).trans (hb.mono (by simp))
  clear hb
  obtain ⟨z, x0, x1, x2⟩ := B1.out
  go_wp2_with fail
  refine (numer_c s x y n c m d _).mono ?_
  rintro e w2 ⟨rfl, hb⟩
  have B2 := hid (B1.out.below hb); have HW2 := hid (HW1.out.trans (hb.mono HW1.out.size))
  clear hb B1 HW1 z x0 x1 x2
  obtain ⟨z, x0, x1, x2⟩ := B2.out
  have R2 := hid (HR.out.below HW2.out)
  have ct := wText_c s x n c f w2 (by omega) R2.out.num.rd (T1.out.kept HW2.out) R2.out.num.lm (HTab.out.below HW2.out HTab.out.lt) R2.out.num.cap.1 R2.out.num.cap.2
  rw [E1.out.1, E1.out.2] at ct
  have CT := hid ct
  clear ct
  go_wp2_with fail
  refine CT.out.mono ?_
  rintro e w3 ⟨rfl, hb⟩
  have B3 := hid (B2.out.below hb); have HW3 := hid (HW2.out.trans (hb.mono HW2.out.size)); have R3 := hid (R2.out.below hb)
  clear hb B2 HW2 R2 CT z x0 x1 x2
  obtain ⟨z, x0, x1, x2⟩ := B3.out
  have c4 := isOne_c R3.out.den
  rw [show decide ((q.den : Int) = 1) = false by rw [H2.out]; decide] at c4
  have C4 := hid c4
  clear c4
  have cd := TextAll_c y m d g w3 (by omega) R3.out.den.rd (T2.out.kept HW3.out) R3.out.den.lm (HTab.out.below HW3.out HTab.out.lt) R3.out.den.cap.1 R3.out.den.cap.2
  rw [E2.out.1, E2.out.2] at cd
  have CD := hid cd
  clear cd
  go_wp2_with fail
  refine C4.out.mono ?_
  rintro e w4 ⟨rfl, rfl⟩
  go_wp2_with fail
  refine CD.out.mono ?_
  rintro e w5 ⟨rfl, hb⟩
  have HW5 := hid (HW3.out.trans (hb.mono HW3.out.size))
  clear hb
  go_wp2
  go_ret2
  exact ⟨by first | rfl | decide +kernel, HW5.out⟩
end Go.Proofs.YtclopblgdiahiaaGreatDoor
namespace Go.Proofs.YtclopblgdiahiaaGreatDoor
open Go.RowKit

theorem q_a : ((6 : Int) : Rat) / ((-4 : Int) : Rat) = ((-3 : Int) : Rat) / ((2 : Int) : Rat) := by decide +kernel
theorem q_b : ((1 : Int) : Rat) / ((6 : Int) : Rat) + ((1 : Int) : Rat) / ((3 : Int) : Rat) = ((1 : Int) : Rat) / ((2 : Int) : Rat) := by decide +kernel
theorem q_c : (((-1 : Int) : Rat) / ((2 : Int) : Rat)).floor = -1 := by decide +kernel
theorem q_n : (((-3 : Int) : Rat) / ((2 : Int) : Rat)).num = -3 := by decide +kernel
theorem q_d : (((-3 : Int) : Rat) / ((2 : Int) : Rat)).den = 2 := by decide +kernel
theorem rf_none : rfB false (fun _ => 0) 0 (fun _ => 0) 0 = false := by decide
set_option maxRecDepth 100000 in
set_option maxHeartbeats 8000000 in
theorem rAwake_c (w : World) (htab : Tab w) : Calls Tryz.prog 12 #[] w fun e w' => e = .returned (.bool true) ∧ Below w.heap.size w w' := by
  have HTab := hid htab
  clear htab
  go_enter Tryz.func12, Tryz.ntmps12
  go_wp2_with fail
  refine (docOf_c 6 _ (by decide) (by decide)).mono ?_
  rintro e w1 ⟨s1, x1, k1, c1, f1, rfl, hr, hv⟩
  have HW1 := hid hr.res.bel; have WA1 := hid (hr.wn hv)
  have hk1 := (hr.wn hv).len1 (by decide)
  clear hr hv
  go_wp2_with fail
  refine (docOf_c (-4) _ (by decide) (by decide)).mono ?_
  rintro e w2 ⟨s2, x2, k2, c2, f2, rfl, hr, hv⟩
  have hb := hr.res.bel; have WB2 := hid (hr.wn hv)
  have hk2 := (hr.wn hv).len1 (by decide)
  clear hr hv
  have WA2 := hid (WA1.out.below hb); have HW2 := hid (HW1.out.trans (hb.mono HW1.out.size))
  clear WA1 HW1 hb
  go_wp2_with fail
  refine (rMake_n (L := 1) WA2.out WB2.out (by decide) hk1 hk2 (by decide)).mono ?_
  rintro e w3 ⟨sA, xA, nA, cA, fA, yA, mA, dA, gA, rfl, hb, hr⟩
  rw [q_a] at hr
  have RA3 := hid hr
  clear hr WA2 WB2
  have HW3 := hid (HW2.out.trans (hb.mono HW2.out.size))
  clear HW2 hb
  go_wp2_with fail
  refine (num_c _ (1) 6 (by decide) (by decide) (by decide) (by decide)).mono ?_
  rintro e w4 ⟨sp, xp, np, cp, fp, yp, mp, dp, gp, rfl, hb, hr, ht1, ht2⟩
  have Rp4 := hid hr
  have BA4 := hid (bx3_new hb)
  clear hr ht1 ht2
  have RA4 := hid (RA3.out.next hb); have HW4 := hid ((below_alloc HW3.out _).trans (hb.mono (below_alloc HW3.out _).size))
  clear RA3 HW3 hb
  go_wp2_with fail
  refine (num_c _ (1) 3 (by decide) (by decide) (by decide) (by decide)).mono ?_
  rintro e w5 ⟨sq, xq, nq, cq, fq, yq, mq, dq, gq, rfl, hb, hr, ht1, ht2⟩
  have Rq5 := hid hr
  clear hr ht1 ht2
  have RA5 := hid (RA4.out.below hb); have BA5 := hid (BA4.out.below hb); have Rp5 := hid (Rp4.out.below hb); have HW5 := hid (HW4.out.trans (hb.mono HW4.out.size))
  clear RA4 BA4 Rp4 HW4 hb
  go_wp2_with fail
  refine (rAdd_n Rp5.out Rq5.out (by decide)).mono ?_
  rintro e w6 ⟨sB, xB, nB, cB, fB, yB, mB, dB, gB, rfl, hb, hr⟩
  rw [q_b] at hr
  have RB6 := hid hr
  clear hr Rp5 Rq5
  have RA6 := hid (RA5.out.below hb); have BA6 := hid (BA5.out.below hb); have HW6 := hid (HW5.out.trans (hb.mono HW5.out.size))
  clear RA5 BA5 HW5 hb
  go_wp2_with fail
  refine (num_c _ (-1) 2 (by decide) (by decide) (by decide) (by decide)).mono ?_
  rintro e w7 ⟨sr, xr, nr, cr, fr, yr, mr, dr, gr, rfl, hb, hr, ht1, ht2⟩
  have Rr7 := hid hr
  have BB7 := hid (bx3_new hb)
  clear hr ht1 ht2
  have RA7 := hid (RA6.out.next hb); have BA7 := hid (BA6.out.next hb); have RB7 := hid (RB6.out.next hb); have HW7 := hid ((below_alloc HW6.out _).trans (hb.mono (below_alloc HW6.out _).size))
  clear RA6 BA6 RB6 HW6 hb
  go_wp2_with fail
  refine (rFloor_n Rr7.out (by decide)).mono ?_
  rintro e w8 ⟨sC, xC, nC, cC, fC, rfl, hb, hkC, hr⟩
  rw [q_c] at hr
  have WC8 := hid hr
  clear hr Rr7
  have RA8 := hid (RA7.out.below hb); have BA8 := hid (BA7.out.below hb); have RB8 := hid (RB7.out.below hb); have BB8 := hid (BB7.out.below hb); have HW8 := hid (HW7.out.trans (hb.mono HW7.out.size))
  clear RA7 BA7 RB7 BB7 HW7 hb
  go_wp2_with fail
  refine (num_c _ (-3) 2 (by decide) (by decide) (by decide) (by decide)).mono ?_
  rintro e w9 ⟨st, xt, nt, ct, ft, yt, mt, dt, gt, rfl, hb, hr, ht1, ht2⟩
  have Rt9 := hid hr
  have BC9 := hid (bx_new hb); have G1 := hid ht1; have G2 := hid ht2
  clear hr ht1 ht2
  have RA9 := hid (RA8.out.next hb); have BA9 := hid (BA8.out.next hb); have RB9 := hid (RB8.out.next hb); have BB9 := hid (BB8.out.next hb); have WC9 := hid (WC8.out.next hb); have HW9 := hid ((below_alloc HW8.out _).trans (hb.mono (below_alloc HW8.out _).size))
  clear RA8 BA8 RB8 BB8 WC8 HW8 hb
  go_wp2_with fail
  refine (text32_c Rt9.out (by decide) G1.out G2.out (HTab.out.below HW9.out HTab.out.lt) q_n q_d).mono ?_
  rintro e w10 ⟨rfl, hb⟩
  clear Rt9 G1 G2
  have RA10 := hid (RA9.out.below hb); have BA10 := hid (BA9.out.below hb); have RB10 := hid (RB9.out.below hb); have BB10 := hid (BB9.out.below hb); have WC10 := hid (WC9.out.below hb); have BC10 := hid (BC9.out.below hb); have HW10 := hid (HW9.out.trans (hb.mono HW9.out.size))
  clear RA9 BA9 RB9 BB9 WC9 BC9 HW9 hb
  go_wp2_with fail
  refine (read42_c _).mono ?_
  rintro e w11 ⟨sD, xD, nD, cD, yD, mD, dD, rfl, hb⟩
  have RA11 := hid (RA10.out.below hb); have BA11 := hid (BA10.out.below hb); have RB11 := hid (RB10.out.below hb); have BB11 := hid (BB10.out.below hb); have WC11 := hid (WC10.out.below hb); have BC11 := hid (BC10.out.below hb); have HW11 := hid (HW10.out.trans (hb.mono HW10.out.size))
  clear RA10 BA10 RB10 BB10 WC10 BC10 HW10 hb
  obtain ⟨za, a0, a1, a2⟩ := BA11.out
  obtain ⟨zb, b0, b1, b2⟩ := BB11.out
  obtain ⟨zc, c0, c1'⟩ := BC11.out
  have N1 : Hid (∀ W : World, Calls Tryz.prog 46 #[.int .i64 (-3), .int .i64 2] W fun e w' => ∃ s x n c f y m d g, e = .returned (.agg #[.bool s, .slice x n c, .slice y m d]) ∧ Below W.heap.size W w' ∧ Hid (Rn 2 w' s x n c f y m d g (((-3 : Int) : Rat) / ((2 : Int) : Rat)))) := fun W => (num_c W (-3) 2 (by decide) (by decide) (by decide) (by decide)).mono (fun e w' ⟨s, x, n, c, f, y, m, d, g, h1, h2, h3, _, _⟩ => ⟨s, x, n, c, f, y, m, d, g, h1, h2, h3⟩)
  have N2 : Hid (∀ W : World, Calls Tryz.prog 46 #[.int .i64 1, .int .i64 2] W fun e w' => ∃ s x n c f y m d g, e = .returned (.agg #[.bool s, .slice x n c, .slice y m d]) ∧ Below W.heap.size W w' ∧ Hid (Rn 2 w' s x n c f y m d g (((1 : Int) : Rat) / ((2 : Int) : Rat)))) := fun W => (num_c W 1 2 (by decide) (by decide) (by decide) (by decide)).mono (fun e w' ⟨s, x, n, c, f, y, m, d, g, h1, h2, h3, _, _⟩ => ⟨s, x, n, c, f, y, m, d, g, h1, h2, h3⟩)
  have S1 : Hid (∀ (W : World) (s : Bool) (x : Option Addr) (n c : Nat) (f : Nat → Int) (y : Option Addr) (m d : Nat) (g : Nat → Int), Below w11.heap.size w11 W → Rn 2 W s x n c f y m d g (((-3 : Int) : Rat) / ((2 : Int) : Rat)) → Calls Tryz.prog 16 #[.agg #[.bool sA, .slice xA nA cA, .slice yA mA dA], .agg #[.bool s, .slice x n c, .slice y m d]] W fun e w' => e = .returned (.bool true) ∧ Below W.heap.size W w') := fun W s x n c f y m d g hW hr => (rSame_n (RA11.out.below hW) hr (by decide) (by decide)).mono (fun e w' ⟨h1, h2⟩ => ⟨by rw [h1]; simp, h2⟩)
  have S2 : Hid (∀ (W : World) (s : Bool) (x : Option Addr) (n c : Nat) (f : Nat → Int) (y : Option Addr) (m d : Nat) (g : Nat → Int), Below w11.heap.size w11 W → Rn 2 W s x n c f y m d g (((1 : Int) : Rat) / ((2 : Int) : Rat)) → Calls Tryz.prog 16 #[.agg #[.bool sB, .slice xB nB cB, .slice yB mB dB], .agg #[.bool s, .slice x n c, .slice y m d]] W fun e w' => e = .returned (.bool true) ∧ Below W.heap.size W w') := fun W s x n c f y m d g hW hr => (rSame_n (RB11.out.below hW) hr (by decide) (by decide)).mono (fun e w' ⟨h1, h2⟩ => ⟨by rw [h1]; simp, h2⟩)
  have D1 : Hid (∀ W : World, Calls Tryz.prog 36 #[.int .i64 (-1)] W fun e w' => ∃ s x n c f, e = .returned (.agg #[.bool s, .slice x n c]) ∧ Below W.heap.size W w' ∧ Hid (n ≤ 1 ∧ Wn w' s x n c f (-1))) := fun W => (docOf_c (-1) W (by decide) (by decide)).mono (fun e w' ⟨s, x, n, c, f, h1, h2, h3⟩ => ⟨s, x, n, c, f, h1, h2.res.bel, (h2.wn h3).len1 (by decide), h2.wn h3⟩)
  have S3 : Hid (∀ (W : World) (s : Bool) (x : Option Addr) (n c : Nat) (f : Nat → Int), Below w11.heap.size w11 W → n ≤ 1 → Wn W s x n c f (-1) → Calls Tryz.prog 11 #[.agg #[.bool sC, .slice xC nC cC], .agg #[.bool s, .slice x n c]] W fun e w' => e = .returned (.bool true) ∧ Below W.heap.size W w') := fun W s x n c f hW hn hr => same_n (WC11.out.below hW) hr (by omega) (by omega)
  have F1 : Hid (∀ W : World, Calls Tryz.prog 50 #[.agg #[.bool false, .slice none 0 0, .slice none 0 0]] W fun e w' => e = .returned (.bool false) ∧ Below W.heap.size W w') := fun W => by
    have h := rForm_c (s := false) (⟨Rd.zero, (fun j hj => by omega), by omega, (fun _ => by omega), Rd.zero, (fun j hj => by omega), by omega, (fun _ => by omega)⟩ : Rw W none 0 0 (fun _ => 0) none 0 0 (fun _ => 0)) (by omega) (by omega)
    rw [rf_none] at h
    exact h
  go_wp2
  go_region_held3 (fun w' => w'.cell? ⟨w3.heap.size, 0, none⟩ = some (.bool sA) ∧ w'.cell? ⟨w3.heap.size, 1, none⟩ = some (.slice xA nA cA) ∧ w'.cell? ⟨w3.heap.size, 2, none⟩ = some (.slice yA mA dA) ∧ w'.cell? ⟨w6.heap.size, 0, none⟩ = some (.bool sB) ∧ w'.cell? ⟨w6.heap.size, 1, none⟩ = some (.slice xB nB cB) ∧ w'.cell? ⟨w6.heap.size, 2, none⟩ = some (.slice yB mB dB) ∧ w'.cell? ⟨w8.heap.size, 0, none⟩ = some (.bool sC) ∧ w'.cell? ⟨w8.heap.size, 1, none⟩ = some (.slice xC nC cC))
    (refine ⟨?_, ?_, ?_, ?_, ?_, ?_, ?_, ?_⟩ <;> repeat (with_reducible first | assumption | refine kCd ?_ | refine kCa ?_ | refine kCb (by assumption) ?_))
    (first
      | (go_at_call 46; with_reducible refine (N1.out _).mono ?_; rintro e v1 ⟨i1, i2, i3, i4, i5, i6, i7, i8, i9, rfl, hv1, HI⟩)
      | (go_at_call 16; with_reducible refine (S1.out _ i1 i2 i3 i4 i5 i6 i7 i8 i9 (by repeat (with_reducible first | assumption | exact Below.refl _ _ | refine Below.drew ?_ | refine kBa ?_ | refine kBb (by assumption) ?_)) HI.out).mono ?_; rintro e v2 ⟨rfl, hv2⟩)
      | (go_at_call 46; with_reducible refine (N2.out _).mono ?_; rintro e v3 ⟨j1, j2, j3, j4, j5, j6, j7, j8, j9, rfl, hv3, HJ⟩)
      | (go_at_call 16; with_reducible refine (S2.out _ j1 j2 j3 j4 j5 j6 j7 j8 j9 (by repeat (with_reducible first | assumption | exact Below.refl _ _ | refine Below.drew ?_ | refine kBa ?_ | refine kBb (by assumption) ?_)) HJ.out).mono ?_; rintro e v4 ⟨rfl, hv4⟩)
      | (go_at_call 36; with_reducible refine (D1.out _).mono ?_; rintro e v5 ⟨k1', k2', k3', k4', k5', rfl, hv5, HK⟩)
      | (go_at_call 11; with_reducible refine (S3.out _ k1' k2' k3' k4' k5' (by repeat (with_reducible first | assumption | exact Below.refl _ _ | refine Below.drew ?_ | refine kBa ?_ | refine kBb (by assumption) ?_)) HK.out.1 HK.out.2).mono ?_; rintro e v6 ⟨rfl, hv6⟩)
      | (go_at_call 50; with_reducible refine (F1.out _).mono ?_; rintro e v7 ⟨rfl, hv7⟩))
  all_goals
    go_wp2
    go_ret
    exact ⟨rfl, HW11.out.trans (Below.mono (by repeat (with_reducible first | assumption | exact Below.refl _ _ | refine Below.drew ?_ | refine kBa ?_ | refine kBb (by assumption) ?_)) HW11.out.size)⟩
end Go.Proofs.YtclopblgdiahiaaGreatDoor
namespace Go.Proofs.YtclopblgdiahiaaGreatDoor
open Go.RowKit

theorem kRwa {w x n c f y m d g} {o : Obj} (h : Rw w x n c f y m d g) : Rw (w.alloc o) x n c f y m d g := h.below (below_alloc (Below.refl _ _) o)
theorem OQ.below {p kind qa qb w w' s x n c f y m d g er} (h : OQ p kind qa qb w s x n c f y m d g er) (hb : Below w.heap.size w w') : OQ p kind qa qb w' s x n c f y m d g er := by
  rcases h with h | h | ⟨h1, h2, h3, h4⟩
  · exact .inl h
  · exact .inr (.inl h)
  · exact .inr (.inr ⟨h1, h2, h3, h4.below hb⟩)
theorem OQ.alloc {p kind qa qb w s x n c f y m d g er} (h : OQ p kind qa qb w s x n c f y m d g er) (o : Obj) : OQ p kind qa qb (w.alloc o) s x n c f y m d g er := h.below (below_alloc (Below.refl _ _) o)
theorem sameNone_c {w : World} {x y x' y' : Option Addr} {c d c' d' : Nat} : Calls Tryz.prog 16 #[.agg #[.bool false, .slice x 0 c, .slice y 0 d], .agg #[.bool false, .slice x' 0 c', .slice y' 0 d']] w fun e w' => e = .returned (.bool true) ∧ Below w.heap.size w w' := by
  refine (rSame_c false x y 0 c 0 d (fun _ => 0) (fun _ => 0) false x' y' 0 c' 0 d' (fun _ => 0) (fun _ => 0) w Rd.zero Rd.zero Rd.zero Rd.zero (by omega) (by omega) (by omega) (by omega)).mono ?_
  rintro e w' ⟨b, rfl, h1, h2⟩
  have : b = true := h2.2 ⟨rfl, ⟨rfl, fun j hj => by omega⟩, ⟨rfl, fun j hj => by omega⟩⟩
  subst this
  exact ⟨rfl, h1⟩
theorem oq_er {p kind qa qb w s x n c f y m d g er w' s' x' n' c' f' y' m' d' g' er'} (h : OQ p kind qa qb w s x n c f y m d g er) (h' : OQ p kind qa qb w' s' x' n' c' f' y' m' d' g' er') : er' = er := by
  rcases h with ⟨h1, h2, _⟩ | ⟨h1, h0, h2, _⟩ | ⟨h1, h0, h2, _⟩ <;> rcases h' with ⟨k1, k2, _⟩ | ⟨k1, k0, k2, _⟩ | ⟨k1, k0, k2, _⟩ <;> first | omega | (rw [h1] at k1; cases k1) | exact absurd h0 k0 | exact absurd k0 h0
theorem oq_same {p kind qa qb w s x n c f y m d g er s' x' n' c' f' y' m' d' g' er'} (h : OQ p kind qa qb w s x n c f y m d g er) (h' : OQ p kind qa qb w s' x' n' c' f' y' m' d' g' er') :
    Calls Tryz.prog 16 #[.agg #[.bool s, .slice x n c, .slice y m d], .agg #[.bool s', .slice x' n' c', .slice y' m' d']] w fun e w' => e = .returned (.bool true) ∧ Below w.heap.size w w' := by
  rcases h with ⟨h1, h2, h3, h4, h5⟩ | ⟨h1, h0, h2, h3, h4, h5⟩ | ⟨h1, h0, h2, h3⟩ <;> rcases h' with ⟨k1, k2, k3, k4, k5⟩ | ⟨k1, k0, k2, k3, k4, k5⟩ | ⟨k1, k0, k2, k3⟩
  · subst h3 h4 h5 k3 k4 k5; exact sameNone_c
  · rw [h1] at k1; cases k1
  · rw [h1] at k1; cases k1
  · rw [h1] at k1; cases k1
  · subst h3 h4 h5 k3 k4 k5; exact sameNone_c
  · exact absurd h0 k0
  · rw [h1] at k1; cases k1
  · exact absurd k0 h0
  · refine (rSame_n h3 k3 (by omega) (by omega)).mono ?_
    rintro e w' ⟨rfl, hb⟩
    exact ⟨by simp, hb⟩
/-- A number in a box of its own. -/
structure SAt (p : Bool) (kind : Nat) (qa qb : Rat) (w1 wx : World) (b8 : Nat) (s : Bool) (x : Option Addr) (n c : Nat) (f : Nat → Int) (y : Option Addr) (m d : Nat) (g : Nat → Int) (er : Int) : Prop where
  bx : Bx3 wx b8 (.bool s) (.slice x n c) (.slice y m d)
  bel : Below w1.heap.size w1 wx
  oq : OQ p kind qa qb wx s x n c f y m d g er
theorem sat_a {p kind qa qb w1 v s x n c f y m d g er} {t : TypeId} (hb : Below w1.heap.size w1 v) (h : OQ p kind qa qb v s x n c f y m d g er) : SAt p kind qa qb w1 (v.alloc (.cells #[.bool s, .slice x n c, .slice y m d] t)) v.heap.size s x n c f y m d g er := ⟨bx3_at _ _ _ _ _, below_alloc hb _, h.alloc _⟩
theorem sat_s {p kind qa qb w1 v s x n c f y m d g er} {b8 : Nat} (hb : Below w1.heap.size w1 v) (h : OQ p kind qa qb v s x n c f y m d g er) (h8 : Ob v b8) (o8 : w1.heap.size ≤ b8) : SAt p kind qa qb w1 (((v.setCell ⟨b8, 0, none⟩ (.bool s)).setCell ⟨b8, 1, none⟩ (.slice x n c)).setCell ⟨b8, 2, none⟩ (.slice y m d)) b8 s x n c f y m d g er := ⟨h8.put _ _ _, below_st hb o8, h.st h8⟩

end Go.Proofs.YtclopblgdiahiaaGreatDoor
namespace Go.Proofs.YtclopblgdiahiaaGreatDoor
open Go.RowKit

theorem mk_sgn {r s : Bool} {k : Nat} (h : r = (s && decide (0 < k))) : r = true → 0 < k := fun e => by
  rw [e] at h
  have h2 : s = true ∧ 0 < k := by simpa using h.symm
  exact h2.2
set_option maxRecDepth 100000 in
set_option maxHeartbeats 4000000 in
theorem docMakeOk_c {w : World} {sa : Bool} {xa : Option Addr} {na ca : Nat} {fa : Nat → Int} {sb : Bool} {xb : Option Addr} {nb cb : Nat} {fb : Nat → Int} {u v : Int} (ha : Wn w sa xa na ca fa u) (hb : Wn w sb xb nb cb fb v) (hv : v ≠ 0) (hna : na ≤ 100) (hnb1 : nb ≤ 100) :
    Calls Tryz.prog 91 #[.agg #[.bool sa, .slice xa na ca], .agg #[.bool sb, .slice xb nb cb]] w fun e w' => RatTup 2000 w w' e ((u : Rat) / (v : Rat)) := by
  have HA0 := hid ha; have HB0 := hid hb
  have hvA : 0 < v.natAbs := by omega
  have hnb : 0 < nb := hb.mag.pos (by omega)
  clear ha hb
  have hn0 : ((nb : Int) == 0) = false := by simp; omega
  go_enter Tryz.func91, Tryz.ntmps91
  go_wp2_with fail
  refine (rwForm_c sa xa na ca fa _ (by omega) (((HA0.out.alloc _).alloc _).alloc _).rd).mono ?_
  rintro e w1 ⟨rfl, hb⟩
  rw [HA0.out.wf]
  obtain ⟨ba, bb, ob, hw⟩ := mk_boxes hb
  have BA1 := hid ba; have BB1 := hid bb; have OB1 := hid ob; have HW1 := hid hw; have HA1 := hid (HA0.out.below hw); have HB1 := hid (HB0.out.below hw)
  clear ba bb ob hw hb HA0 HB0
  obtain ⟨zb, b0, b1⟩ := BB1.out
  go_wp2_with fail
  refine (rwForm_c sb xb nb cb fb _ (by omega) HB1.out.rd).mono ?_
  rintro e w2 ⟨rfl, hb⟩
  rw [HB1.out.wf]
  clear zb b0 b1
  have BA2 := hid (BA1.out.below hb); have BB2 := hid (BB1.out.below hb); have OB2 := hid (OB1.out.below hb); have HA2 := hid (HA1.out.below hb); have HB2 := hid (HB1.out.below hb); have HW2 := hid (HW1.out.trans (hb.mono HW1.out.size))
  clear BA1 BB1 OB1 HA1 HB1 HW1 hb
  obtain ⟨za, a0, a1⟩ := BA2.out
  obtain ⟨zb, b0, b1⟩ := BB2.out
  obtain ⟨hz, z0, z1, z2, zf⟩ := OB2.out
  have hO2 := OB2.out
  have C1 : Hid (∀ W, Below w2.heap.size w2 W → Calls Tryz.prog 67 #[.slice xa na ca] W fun e w' => ∃ z k c', e = .returned (.slice z k c') ∧ Below W.heap.size W w' ∧ Hid (k ≤ 2 * na ∧ Dn w' z k (dig fa) u.natAbs)) := fun W hW => fromDn_c (HA2.out.below hW) (by omega)
  have C2 : Hid (∀ W, Below w2.heap.size w2 W → Calls Tryz.prog 67 #[.slice xb nb cb] W fun e w' => ∃ z k c', e = .returned (.slice z k c') ∧ Below W.heap.size W w' ∧ Hid (k ≤ 2 * nb ∧ Dn w' z k (dig fb) v.natAbs)) := fun W hW => fromDn_c (HB2.out.below hW) (by omega)
  have C3 : Hid (∀ (W : World) (z : Option Addr) (k cap : Nat), k ≤ 200 → Calls Tryz.prog 128 #[.bool (!(sa == sb)), .slice z k cap] W fun e w' => ∃ r, e = .returned (.agg #[.bool r, .slice z k cap]) ∧ Below W.heap.size W w' ∧ Hid (r = ((!(sa == sb)) && decide (0 < k)))) := fun W z k cap hk => (zMk_c (!(sa == sb)) z k cap W (by omega)).mono (fun e w' ⟨r, h1, h2, h3⟩ => ⟨r, h1, h3, h2⟩)
  have C4 : Hid (∀ (W : World) (r : Bool) (z : Option Addr) (k cap : Nat) (y : Option Addr) (m e : Nat), k ≤ 200 → m ≤ 200 → (r = true → 0 < k) → Dn W z k (dig fa) u.natAbs → Dn W y m (dig fb) v.natAbs → Calls Tryz.prog 127 #[.agg #[.bool r, .slice z k cap], .slice y m e] W fun e w' => ∃ r' z k c' z2 k2 c2, e = .returned (.agg #[.bool r', .slice z k c', .slice z2 k2 c2]) ∧ Below W.heap.size W w' ∧ Hid (k ≤ 202 ∧ k2 ≤ 202 ∧ r' = (r && decide (0 < k)) ∧ (∃ d', Dn w' z k d' (u.natAbs / u.natAbs.gcd v.natAbs)) ∧ ∃ d2, Dn w' z2 k2 d2 (v.natAbs / u.natAbs.gcd v.natAbs))) := fun W r z k cap y m e hk hm hs h1 h2 => (mkQ_c h1 h2 hs (by omega) (by omega) hvA).mono (fun e w' ⟨r', z, k, c', d', z2, k2, c2, d2, h1, h2, h3, h4, h5, h6, h7⟩ => ⟨r', z, k, c', z2, k2, c2, h1, h2, by omega, by omega, h5, ⟨d', h6⟩, d2, h7⟩)
  have C5 : Hid (∀ (W : World) (r : Bool) (z : Option Addr) (k cap : Nat) (y : Option Addr) (m e : Nat), k ≤ 202 → m ≤ 202 → (∃ d', Dn W z k d' (u.natAbs / u.natAbs.gcd v.natAbs)) → (∃ d2, Dn W y m d2 (v.natAbs / u.natAbs.gcd v.natAbs)) → Calls Tryz.prog 100 #[.agg #[.bool r, .slice z k cap, .slice y m e]] W fun en w' => ∃ z k' c' f z2 k2 c2 f2, en = .returned (.agg #[.bool r, .slice z k' c', .slice z2 k2 c2]) ∧ Below W.heap.size W w' ∧ Hid (k' ≤ k ∧ k2 ≤ m ∧ Wn w' false z k' c' f ((u.natAbs / u.natAbs.gcd v.natAbs : Nat) : Int) ∧ Wn w' false z2 k2 c2 f2 ((v.natAbs / u.natAbs.gcd v.natAbs : Nat) : Int) ∧ Tg w' z ∧ Tg w' z2)) := fun W r z k cap y m e hk hm ⟨_, h1⟩ ⟨_, h2⟩ => qTo_c h1 h2 (by omega) (by omega)
  go_wp2_with fail
  go_region_held3 (fun w' => w'.cell? ⟨w.heap.size, 0, none⟩ = some (.bool sa) ∧ w'.cell? ⟨w.heap.size, 1, none⟩ = some (.slice xa na ca) ∧ w'.cell? ⟨w.heap.size + 1, 0, none⟩ = some (.bool sb) ∧ w'.cell? ⟨w.heap.size + 1, 1, none⟩ = some (.slice xb nb cb) ∧ (w'.cell? ⟨w.heap.size + 1 + 1, 0, none⟩).isSome = true ∧ (w'.cell? ⟨w.heap.size + 1 + 1, 1, none⟩).isSome = true ∧ (w'.cell? ⟨w.heap.size + 1 + 1, 2, none⟩).isSome = true ∧ w'.frozen? ⟨w.heap.size + 1 + 1, 0, none⟩ = false ∧ w'.frozen? ⟨w.heap.size + 1 + 1, 1, none⟩ = false ∧ w'.frozen? ⟨w.heap.size + 1 + 1, 2, none⟩ = false)
    (refine ⟨?_, ?_, ?_, ?_, ?_, ?_, ?_, ?_, ?_, ?_⟩ <;> repeat (with_reducible first | assumption | exact zf _ | exact kI0 z0 | exact kI0 z1 | exact kI0 z2 | exact tf _ | exact kI0 t0 | exact kI0 t1 | exact kI0 t2 | exact uf _ | exact kI0 u0 | exact kI0 u1 | exact kI0 u2 | exact vf _ | exact kI0 v0 | exact kI0 v1 | exact kI0 v2 | exact sf _ | exact kI0 s0 | exact kI0 s1 | exact kI0 s2 | exact rf _ | exact kI0 r0 | exact kI0 r1 | exact kI0 r2 | refine kCd ?_ | refine kId ?_ | refine kFd ?_ | refine kCs (by simp only [ne_eq]; omega) ?_ | refine kIs ?_ | refine kFs ?_ | refine kCb (by assumption) ?_ | refine kIb (by assumption) ?_))
    (first
      | (go_at_call 67; with_reducible refine (C1.out _ (by repeat (with_reducible first | assumption | exact Below.refl _ _ | refine Below.drew ?_ | refine kBa ?_ | refine kBb (by assumption) ?_))).mono ?_; rintro e w5 ⟨zp, kp, cp, rfl, hb5, HP⟩; have hkp : kp ≤ 200 := (by have := HP.out.1; omega); have TU : Ob w5 (w.heap.size + 1 + 1) := (by repeat (with_reducible first | exact OB | exact hO2 | exact TU | exact TV | exact TW | exact TX | exact TY | refine Ob.drew ?_ | refine kOb (by assumption) ?_)); obtain ⟨_, t0, t1, t2, tf⟩ := id TU)
      | (go_at_call 128; with_reducible refine (C3.out _ zp kp cp hkp).mono ?_; rintro e w6 ⟨r, rfl, hb6, HR⟩; have hr0 := mk_sgn HR.out; have TV : Ob w6 (w.heap.size + 1 + 1) := (by repeat (with_reducible first | exact OB | exact hO2 | exact TU | exact TV | exact TW | exact TX | exact TY | refine Ob.drew ?_ | refine kOb (by assumption) ?_)); obtain ⟨_, u0, u1, u2, uf⟩ := id TV)
      | (go_at_call 67; with_reducible refine (C2.out _ (by repeat (with_reducible first | assumption | exact Below.refl _ _ | refine Below.drew ?_ | refine kBa ?_ | refine kBb (by assumption) ?_))).mono ?_; rintro e w7 ⟨zq, kq, cq, rfl, hb7, HQ⟩; have hkq : kq ≤ 200 := (by have := HQ.out.1; omega); have TW : Ob w7 (w.heap.size + 1 + 1) := (by repeat (with_reducible first | exact OB | exact hO2 | exact TU | exact TV | exact TW | exact TX | exact TY | refine Ob.drew ?_ | refine kOb (by assumption) ?_)); obtain ⟨_, v0, v1, v2, vf⟩ := id TW)
      | (go_at_call 127; with_reducible refine (C4.out _ r zp kp cp zq kq cq hkp hkq hr0 ((HP.out.2.below hb6).below hb7) HQ.out.2).mono ?_; rintro e w8 ⟨r', zr, kr, cr, zs, ks, cs, rfl, hb8, HM⟩; have TX : Ob w8 (w.heap.size + 1 + 1) := (by repeat (with_reducible first | exact OB | exact hO2 | exact TU | exact TV | exact TW | exact TX | exact TY | refine Ob.drew ?_ | refine kOb (by assumption) ?_)); obtain ⟨_, s0, s1, s2, sf⟩ := id TX)
      | (go_at_call 100; with_reducible refine (C5.out _ r' zr kr cr zs ks cs HM.out.1 HM.out.2.1 HM.out.2.2.2.1 HM.out.2.2.2.2).mono ?_; rintro e w9 ⟨zn, kn, cn, fn, zd, kd, cd, fd, rfl, hb9, HT⟩; have TY : Ob w9 (w.heap.size + 1 + 1) := (by repeat (with_reducible first | exact OB | exact hO2 | exact TU | exact TV | exact TW | exact TX | exact TY | refine Ob.drew ?_ | refine kOb (by assumption) ?_)); obtain ⟨_, r0, r1, r2, rf⟩ := id TY))
  have hb : Below w2.heap.size w2 w9 := (by repeat (with_reducible first | assumption | exact Below.refl _ _ | refine Below.drew ?_ | refine kBa ?_ | refine kBb (by assumption) ?_))
  have hT := HT.out
  obtain ⟨e1, e2⟩ := make_made HA2.out.sgn HB2.out.sgn hvA
  have hM := HM.out
  have hRR : r' = ((sa != sb) && decide (0 < kn)) := by
    rw [hM.2.2.1, HR.out]
    obtain ⟨dq, hdq⟩ := hM.2.2.2.1
    rcases Nat.eq_zero_or_pos (u.natAbs / u.natAbs.gcd v.natAbs) with hq | hq
    · have k1 : kr = 0 := by
        rcases Nat.eq_zero_or_pos kr with h | h
        · exact h
        · have := hdq.pos' h; omega
      have k2 : kn = 0 := by have := hT.1; omega
      simp [k1, k2]
    · have k1 : 0 < kn := hT.2.2.1.pos (by omega)
      have k2 : 0 < kr := hdq.pos hq
      have k3 : 0 < kp := HP.out.2.pos (by
        rcases Nat.eq_zero_or_pos u.natAbs with h | h
        · rw [h, Nat.zero_div] at hq; omega
        · exact h)
      simp [k1, k2, k3, bne]
  go_wp2
  refine bodyPost_ret (v := .tuple #[.agg #[.bool r', .slice zn kn cn, .slice zd kd cd], .int .i64 0]) (by simp [results, Tryz.results91, go_sem, r0, r1, r2]) rfl ⟨r', zn, kn, cn, fn, zd, kd, cd, fd, rfl, below_st (HW2.out.trans (hb.mono HW2.out.size)) (by omega), ⟨?_, ?_, by omega, by omega⟩⟩
  · rw [e1]; exact TY.wn (hT.2.2.1.resign hRR)
  · rw [e2]; exact TY.wn hT.2.2.2.1

set_option maxRecDepth 100000 in
set_option maxHeartbeats 4000000 in
theorem rMakeErr_c {w : World} {sa : Bool} {xa : Option Addr} {na ca : Nat} {fa : Nat → Int} {sb : Bool} {xb : Option Addr} {nb cb : Nat} {fb : Nat → Int} (ha : Rd .u64 w xa na fa) (hb : Rd .u64 w xb nb fb) (hna : na ≤ 1000) (hnb : nb ≤ 1000) (hp : (wfB sa fa na && wfB sb fb nb) = false) :
    Calls Tryz.prog 44 #[.agg #[.bool sa, .slice xa na ca], .agg #[.bool sb, .slice xb nb cb]] w fun en w' => en = .returned (.tuple #[.agg #[.bool false, .slice none 0 0, .slice none 0 0], .int .i64 3]) ∧ Below w.heap.size w w' := by
  have HA0 := hid ha; have HB0 := hid hb
  clear ha hb
  go_enter Tryz.func44, Tryz.ntmps44
  go_wp2_with fail
  refine (wForm_c sa xa na ca fa _ (by omega) (((HA0.out.alloc _).alloc _).alloc _)).mono ?_
  rintro e w1 ⟨rfl, hb⟩
  obtain ⟨ba, bb, ob, hw⟩ := mk_boxes hb
  have BB1 := hid bb; have OB1 := hid ob; have HW1 := hid hw
  clear ba bb ob hw hb
  cases h1 : wfB sa fa na
  · clear hp
    have HB := hid HW1.out
    obtain ⟨hz, z0, z1, z2, zf⟩ := OB1.out
    go_wp2
    exact bodyPost_ret (v := .tuple #[.agg #[.bool false, .slice none 0 0, .slice none 0 0], .int .i64 3]) (by simp [results, Tryz.results44, go_sem, z0, z1, z2]) rfl ⟨rfl, below_st HB.out (by omega)⟩
  have h2 : wfB sb fb nb = false := by rw [h1] at hp; simpa using hp
  clear hp h1
  obtain ⟨zb, b0, b1⟩ := BB1.out
  go_wp2_with fail
  refine (wForm_c sb xb nb cb fb _ (by omega) (HB0.out.below HW1.out (Nat.le_refl _))).mono ?_
  rintro e w2 ⟨rfl, hb⟩
  rw [h2]
  have HB := hid (HW1.out.trans (hb.mono HW1.out.size))
  obtain ⟨hz, z0, z1, z2, zf⟩ := OB1.out.below hb
  clear hb zb b0 b1 h2
  go_wp2
  exact bodyPost_ret (v := .tuple #[.agg #[.bool false, .slice none 0 0, .slice none 0 0], .int .i64 3]) (by simp [results, Tryz.results44, go_sem, z0, z1, z2]) rfl ⟨rfl, below_st HB.out (by omega)⟩

set_option maxRecDepth 100000 in
set_option maxHeartbeats 4000000 in
theorem rMakeZero_c {w : World} {sa : Bool} {xa : Option Addr} {na ca : Nat} {fa : Nat → Int} {sb : Bool} {xb : Option Addr} {nb cb : Nat} {fb : Nat → Int} (ha : Rd .u64 w xa na fa) (hb : Rd .u64 w xb nb fb) (hna : na ≤ 1000) (hnb : nb ≤ 1000) (hpa : wfB sa fa na = true) (hpb : wfB sb fb nb = true) (hn0 : nb = 0) :
    Calls Tryz.prog 44 #[.agg #[.bool sa, .slice xa na ca], .agg #[.bool sb, .slice xb nb cb]] w fun en w' => en = .returned (.tuple #[.agg #[.bool false, .slice none 0 0, .slice none 0 0], .int .i64 4]) ∧ Below w.heap.size w w' := by
  have HA0 := hid ha; have HB0 := hid hb
  clear ha hb
  have hnd : ((nb : Int) == 0) = true := by simp; omega
  clear hn0
  go_enter Tryz.func44, Tryz.ntmps44
  go_wp2_with fail
  refine (wForm_c sa xa na ca fa _ (by omega) (((HA0.out.alloc _).alloc _).alloc _)).mono ?_
  rintro e w1 ⟨rfl, hb⟩
  obtain ⟨ba, bb, ob, hw⟩ := mk_boxes hb
  have BB1 := hid bb; have OB1 := hid ob; have HW1 := hid hw
  clear ba bb ob hw hb
  rw [hpa]
  obtain ⟨zb, b0, b1⟩ := BB1.out
  go_wp2_with fail
  refine (wForm_c sb xb nb cb fb _ (by omega) (HB0.out.below HW1.out (Nat.le_refl _))).mono ?_
  rintro e w2 ⟨rfl, hb⟩
  rw [hpb]
  clear zb b0 b1
  have HB := hid (HW1.out.trans (hb.mono HW1.out.size))
  obtain ⟨zb, b0, b1⟩ := BB1.out.below hb
  obtain ⟨hz, z0, z1, z2, zf⟩ := OB1.out.below hb
  clear hb
  go_wp2
  exact bodyPost_ret (v := .tuple #[.agg #[.bool false, .slice none 0 0, .slice none 0 0], .int .i64 4]) (by simp [results, Tryz.results44, go_sem, z0, z1, z2]) rfl ⟨rfl, below_st HB.out (by omega)⟩

set_option maxRecDepth 100000 in
set_option maxHeartbeats 4000000 in
theorem docMakeErr_c {w : World} {sa : Bool} {xa : Option Addr} {na ca : Nat} {fa : Nat → Int} {sb : Bool} {xb : Option Addr} {nb cb : Nat} {fb : Nat → Int} (ha : Rd .u64 w xa na fa) (hb : Rd .u64 w xb nb fb) (hna : na ≤ 1000) (hnb : nb ≤ 1000) (hp : (wfB sa fa na && wfB sb fb nb) = false) :
    Calls Tryz.prog 91 #[.agg #[.bool sa, .slice xa na ca], .agg #[.bool sb, .slice xb nb cb]] w fun en w' => en = .returned (.tuple #[.agg #[.bool false, .slice none 0 0, .slice none 0 0], .int .i64 3]) ∧ Below w.heap.size w w' := by
  have HA0 := hid ha; have HB0 := hid hb
  clear ha hb
  go_enter Tryz.func91, Tryz.ntmps91
  go_wp2_with fail
  refine (rwForm_c sa xa na ca fa _ (by omega) (((HA0.out.alloc _).alloc _).alloc _)).mono ?_
  rintro e w1 ⟨rfl, hb⟩
  obtain ⟨ba, bb, ob, hw⟩ := mk_boxes hb
  have BB1 := hid bb; have OB1 := hid ob; have HW1 := hid hw
  clear ba bb ob hw hb
  cases h1 : wfB sa fa na
  · clear hp
    have HB := hid HW1.out
    obtain ⟨hz, z0, z1, z2, zf⟩ := OB1.out
    go_wp2
    exact bodyPost_ret (v := .tuple #[.agg #[.bool false, .slice none 0 0, .slice none 0 0], .int .i64 3]) (by simp [results, Tryz.results91, go_sem, z0, z1, z2]) rfl ⟨rfl, below_st HB.out (by omega)⟩
  have h2 : wfB sb fb nb = false := by rw [h1] at hp; simpa using hp
  clear hp h1
  obtain ⟨zb, b0, b1⟩ := BB1.out
  go_wp2_with fail
  refine (rwForm_c sb xb nb cb fb _ (by omega) (HB0.out.below HW1.out (Nat.le_refl _))).mono ?_
  rintro e w2 ⟨rfl, hb⟩
  rw [h2]
  have HB := hid (HW1.out.trans (hb.mono HW1.out.size))
  obtain ⟨hz, z0, z1, z2, zf⟩ := OB1.out.below hb
  clear hb zb b0 b1 h2
  go_wp2
  exact bodyPost_ret (v := .tuple #[.agg #[.bool false, .slice none 0 0, .slice none 0 0], .int .i64 3]) (by simp [results, Tryz.results91, go_sem, z0, z1, z2]) rfl ⟨rfl, below_st HB.out (by omega)⟩

set_option maxRecDepth 100000 in
set_option maxHeartbeats 4000000 in
theorem docMakeZero_c {w : World} {sa : Bool} {xa : Option Addr} {na ca : Nat} {fa : Nat → Int} {sb : Bool} {xb : Option Addr} {nb cb : Nat} {fb : Nat → Int} (ha : Rd .u64 w xa na fa) (hb : Rd .u64 w xb nb fb) (hna : na ≤ 1000) (hnb : nb ≤ 1000) (hpa : wfB sa fa na = true) (hpb : wfB sb fb nb = true) (hn0 : nb = 0) :
    Calls Tryz.prog 91 #[.agg #[.bool sa, .slice xa na ca], .agg #[.bool sb, .slice xb nb cb]] w fun en w' => en = .returned (.tuple #[.agg #[.bool false, .slice none 0 0, .slice none 0 0], .int .i64 4]) ∧ Below w.heap.size w w' := by
  have HA0 := hid ha; have HB0 := hid hb
  clear ha hb
  have hnd : ((nb : Int) == 0) = true := by simp; omega
  clear hn0
  go_enter Tryz.func91, Tryz.ntmps91
  go_wp2_with fail
  refine (rwForm_c sa xa na ca fa _ (by omega) (((HA0.out.alloc _).alloc _).alloc _)).mono ?_
  rintro e w1 ⟨rfl, hb⟩
  obtain ⟨ba, bb, ob, hw⟩ := mk_boxes hb
  have BB1 := hid bb; have OB1 := hid ob; have HW1 := hid hw
  clear ba bb ob hw hb
  rw [hpa]
  obtain ⟨zb, b0, b1⟩ := BB1.out
  go_wp2_with fail
  refine (rwForm_c sb xb nb cb fb _ (by omega) (HB0.out.below HW1.out (Nat.le_refl _))).mono ?_
  rintro e w2 ⟨rfl, hb⟩
  rw [hpb]
  clear zb b0 b1
  have HB := hid (HW1.out.trans (hb.mono HW1.out.size))
  obtain ⟨zb, b0, b1⟩ := BB1.out.below hb
  obtain ⟨hz, z0, z1, z2, zf⟩ := OB1.out.below hb
  clear hb
  go_wp2
  exact bodyPost_ret (v := .tuple #[.agg #[.bool false, .slice none 0 0, .slice none 0 0], .int .i64 4]) (by simp [results, Tryz.results91, go_sem, z0, z1, z2]) rfl ⟨rfl, below_st HB.out (by omega)⟩

theorem rMake_g {w : World} {sa : Bool} {xa : Option Addr} {na ca : Nat} {fa : Nat → Int} {sb : Bool} {xb : Option Addr} {nb cb : Nat} {fb : Nat → Int} (ha : Rd .u64 w xa na fa) (la : Lm fa na) (pa : na ≤ ca ∧ ca ≤ 9223372036854775807) (oa : xa = none → na = 0 ∧ ca = 0) (hb : Rd .u64 w xb nb fb) (lb : Lm fb nb) (pb : nb ≤ cb ∧ cb ≤ 9223372036854775807) (ob : xb = none → nb = 0 ∧ cb = 0) (hna : na ≤ 100) (hnb : nb ≤ 100) :
    Calls Tryz.prog 44 #[.agg #[.bool sa, .slice xa na ca], .agg #[.bool sb, .slice xb nb cb]] w fun en w' => ∃ s x n c f y m d g er, en = .returned (.tuple #[.agg #[.bool s, .slice x n c, .slice y m d], .int .i64 er]) ∧ Below w.heap.size w w' ∧ OQ (wfB sa fa na && wfB sb fb nb) 3 (wv sa fa na : Int) (wv sb fb nb : Int) w' s x n c f y m d g er := by
  cases hp : (wfB sa fa na && wfB sb fb nb)
  · exact (rMakeErr_c ha hb (by omega) (by omega) hp).mono (fun _ _ ⟨k1, k2⟩ => ⟨false, none, 0, 0, fun _ => 0, none, 0, 0, fun _ => 0, 3, k1, k2, .inl ⟨rfl, rfl, rfl, rfl, rfl⟩⟩)
  · have hpp : wfB sa fa na = true ∧ wfB sb fb nb = true := by simpa using hp
    have wa : Wn w sa xa na ca fa (wv sa fa na) := ⟨ha, la, hpp.1, pa, oa, rfl⟩
    have wb : Wn w sb xb nb cb fb (wv sb fb nb) := ⟨hb, lb, hpp.2, pb, ob, rfl⟩
    by_cases hz : nb = 0
    · exact (rMakeZero_c ha hb (by omega) (by omega) hpp.1 hpp.2 hz).mono (fun _ _ ⟨k1, k2⟩ => ⟨false, none, 0, 0, fun _ => 0, none, 0, 0, fun _ => 0, 4, k1, k2, .inr (.inl ⟨rfl, ⟨rfl, by rw [Rat.num_intCast, hz]; cases sb <;> rfl⟩, rfl, rfl, rfl, rfl⟩)⟩)
    · have hv : wv sb fb nb ≠ 0 := by
        have h1 := vf_pos lb wb.fm (by omega)
        cases sb
        · rw [wv_false]; omega
        · rw [wv_true]; omega
      exact (rMake_n wa wb (L := 100) hv (by omega) (by omega) (by omega)).mono (fun _ _ ⟨s, x, n, c, f, y, m, d, g, k1, k2, k3⟩ => ⟨s, x, n, c, f, y, m, d, g, 0, k1, k2, .inr (.inr ⟨rfl, fun h => hv (by have := h.2; rwa [Rat.num_intCast] at this), rfl, k3.mono (by omega)⟩)⟩)

theorem docMake_g {w : World} {sa : Bool} {xa : Option Addr} {na ca : Nat} {fa : Nat → Int} {sb : Bool} {xb : Option Addr} {nb cb : Nat} {fb : Nat → Int} (ha : Rd .u64 w xa na fa) (la : Lm fa na) (pa : na ≤ ca ∧ ca ≤ 9223372036854775807) (oa : xa = none → na = 0 ∧ ca = 0) (hb : Rd .u64 w xb nb fb) (lb : Lm fb nb) (pb : nb ≤ cb ∧ cb ≤ 9223372036854775807) (ob : xb = none → nb = 0 ∧ cb = 0) (hna : na ≤ 100) (hnb : nb ≤ 100) :
    Calls Tryz.prog 91 #[.agg #[.bool sa, .slice xa na ca], .agg #[.bool sb, .slice xb nb cb]] w fun en w' => ∃ s x n c f y m d g er, en = .returned (.tuple #[.agg #[.bool s, .slice x n c, .slice y m d], .int .i64 er]) ∧ Below w.heap.size w w' ∧ OQ (wfB sa fa na && wfB sb fb nb) 3 (wv sa fa na : Int) (wv sb fb nb : Int) w' s x n c f y m d g er := by
  cases hp : (wfB sa fa na && wfB sb fb nb)
  · exact (docMakeErr_c ha hb (by omega) (by omega) hp).mono (fun _ _ ⟨k1, k2⟩ => ⟨false, none, 0, 0, fun _ => 0, none, 0, 0, fun _ => 0, 3, k1, k2, .inl ⟨rfl, rfl, rfl, rfl, rfl⟩⟩)
  · have hpp : wfB sa fa na = true ∧ wfB sb fb nb = true := by simpa using hp
    have wa : Wn w sa xa na ca fa (wv sa fa na) := ⟨ha, la, hpp.1, pa, oa, rfl⟩
    have wb : Wn w sb xb nb cb fb (wv sb fb nb) := ⟨hb, lb, hpp.2, pb, ob, rfl⟩
    by_cases hz : nb = 0
    · exact (docMakeZero_c ha hb (by omega) (by omega) hpp.1 hpp.2 hz).mono (fun _ _ ⟨k1, k2⟩ => ⟨false, none, 0, 0, fun _ => 0, none, 0, 0, fun _ => 0, 4, k1, k2, .inr (.inl ⟨rfl, ⟨rfl, by rw [Rat.num_intCast, hz]; cases sb <;> rfl⟩, rfl, rfl, rfl, rfl⟩)⟩)
    · have hv : wv sb fb nb ≠ 0 := by
        have h1 := vf_pos lb wb.fm (by omega)
        cases sb
        · rw [wv_false]; omega
        · rw [wv_true]; omega
      exact (docMakeOk_c wa wb hv (by omega) (by omega)).mono (fun _ _ ⟨s, x, n, c, f, y, m, d, g, k1, k2, k3⟩ => ⟨s, x, n, c, f, y, m, d, g, 0, k1, k2, .inr (.inr ⟨rfl, fun h => hv (by have := h.2; rwa [Rat.num_intCast] at this), rfl, k3.mono (by omega)⟩)⟩)
end Go.Proofs.YtclopblgdiahiaaGreatDoor
namespace Go.Proofs.YtclopblgdiahiaaGreatDoor
open Go.RowKit

/-- A box of four cells. -/
structure Bx4 (w : World) (B : Nat) (a0 a1 a2 a3 : Value) : Prop where
  z : B < w.heap.size
  x0 : w.cell? ⟨B, 0, none⟩ = some a0
  x1 : w.cell? ⟨B, 1, none⟩ = some a1
  x2 : w.cell? ⟨B, 2, none⟩ = some a2
  x3 : w.cell? ⟨B, 3, none⟩ = some a3
theorem Bx4.below {w w' B a0 a1 a2 a3} (h : Bx4 w B a0 a1 a2 a3) (hb : Below w.heap.size w w') : Bx4 w' B a0 a1 a2 a3 := ⟨Nat.lt_of_lt_of_le h.z hb.size, kCb hb h.x0, kCb hb h.x1, kCb hb h.x2, kCb hb h.x3⟩
theorem Bx4.alloc {w B a0 a1 a2 a3} (h : Bx4 w B a0 a1 a2 a3) (o : Obj) : Bx4 (w.alloc o) B a0 a1 a2 a3 := h.below (below_alloc (Below.refl _ _) o)
theorem Bx4.next {w w' B a0 a1 a2 a3} {o : Obj} (h : Bx4 w B a0 a1 a2 a3) (hb : Below (w.alloc o).heap.size (w.alloc o) w') : Bx4 w' B a0 a1 a2 a3 := (h.alloc o).below hb
theorem bx4_at (w : World) (a0 a1 a2 a3 : Value) (t : TypeId) : Bx4 (w.alloc (.cells #[a0, a1, a2, a3] t)) w.heap.size a0 a1 a2 a3 := ⟨by simp, by simp [go_sem], by simp [go_sem], by simp [go_sem], by simp [go_sem]⟩
theorem bx4_new {w w' : World} {a0 a1 a2 a3 : Value} {t : TypeId} (hb : Below (w.alloc (.cells #[a0, a1, a2, a3] t)).heap.size (w.alloc (.cells #[a0, a1, a2, a3] t)) w') : Bx4 w' w.heap.size a0 a1 a2 a3 := (bx4_at w a0 a1 a2 a3 t).below hb
/-- A new box for an answer of four cells. -/
structure Ob4 (w : World) (B : Nat) : Prop where
  z : B < w.heap.size
  z0 : w.cell? ⟨B, 0, none⟩ = some (.int .i64 0)
  z1 : w.cell? ⟨B, 1, none⟩ = some (.bool false)
  z2 : w.cell? ⟨B, 2, none⟩ = some (.slice none 0 0)
  z3 : w.cell? ⟨B, 3, none⟩ = some (.slice none 0 0)
  zf : ∀ o, w.frozen? ⟨B, o, none⟩ = false
theorem Ob4.below {w w' B} (h : Ob4 w B) (hb : Below w.heap.size w w') : Ob4 w' B := by
  obtain ⟨h1, h2⟩ := bcell hb
  exact ⟨Nat.lt_of_lt_of_le h.z hb.size, kCb hb h.z0, kCb hb h.z1, kCb hb h.z2, kCb hb h.z3, fun o => (h2 _ _ h.z).trans (h.zf o)⟩
theorem kO4b {w w' B} (hb : Below w.heap.size w w') (h : Ob4 w B) : Ob4 w' B := h.below hb
theorem Ob4.alloc {w B} (h : Ob4 w B) (o : Obj) : Ob4 (w.alloc o) B := h.below (below_alloc (Below.refl _ _) o)
theorem kO4a {w B} {o : Obj} (h : Ob4 w B) : Ob4 (w.alloc o) B := h.alloc o
theorem Ob4.next {w w' B} {o : Obj} (h : Ob4 w B) (hb : Below (w.alloc o).heap.size (w.alloc o) w') : Ob4 w' B := (h.alloc o).below hb
theorem Ob4.drew {w B} (h : Ob4 w B) : Ob4 w.drew B := ⟨h.z, h.z0, h.z1, h.z2, h.z3, h.zf⟩
theorem ob4_new (w : World) (t : TypeId) : Ob4 (w.alloc (.cells #[.int .i64 0, .bool false, .slice none 0 0, .slice none 0 0] t)) w.heap.size := by
  refine ⟨by simp, by simp [go_sem], by simp [go_sem], by simp [go_sem], by simp [go_sem], fun o => ?_⟩
  have e := heap_alloc_new w (.cells #[.int .i64 0, .bool false, .slice none 0 0, .slice none 0 0] t)
  simp only [World.frozen?, e]; simp
theorem ob4_at {w : World} {t : TypeId} {B : Nat} (h : B = w.heap.size) : Ob4 (w.alloc (.cells #[.int .i64 0, .bool false, .slice none 0 0, .slice none 0 0] t)) B := by subst h; exact ob4_new w t
/-- The world behind the store of a bound. -/
def st4 (w : World) (B : Nat) (u0 u1 u2 u3 : Value) : World := (((w.setCell ⟨B, 0, none⟩ u0).setCell ⟨B, 1, none⟩ u1).setCell ⟨B, 2, none⟩ u2).setCell ⟨B, 3, none⟩ u3
theorem Ob4.rd {w B u0 u1 u2 u3 x n f} (h : Ob4 w B) (hx : Rd .u64 w x n f) : Rd .u64 ((((w.setCell ⟨B, 0, none⟩ u0).setCell ⟨B, 1, none⟩ u1).setCell ⟨B, 2, none⟩ u2).setCell ⟨B, 3, none⟩ u3) x n f :=
  rd_setne (cell_off (by decide) (cell_off (by decide) (cell_off (by decide) h.z3))) (fun i h => by cases h) (rd_setne (cell_off (by decide) (cell_off (by decide) h.z2)) (fun i h => by cases h) (rd_setne (cell_off (by decide) h.z1) (fun i h => by cases h) (rd_setne h.z0 (fun i h => by cases h) hx)))
theorem Ob4.wn {w B u0 u1 u2 u3 s x n c f v} (h : Ob4 w B) (hx : Wn w s x n c f v) : Wn ((((w.setCell ⟨B, 0, none⟩ u0).setCell ⟨B, 1, none⟩ u1).setCell ⟨B, 2, none⟩ u2).setCell ⟨B, 3, none⟩ u3) s x n c f v := ⟨h.rd hx.rd, hx.lm, hx.wf, hx.cap, hx.nil, hx.val⟩
theorem Ob4.dn {w B u0 u1 u2 u3 x n d V} (h : Ob4 w B) (hx : Dn w x n d V) : Dn ((((w.setCell ⟨B, 0, none⟩ u0).setCell ⟨B, 1, none⟩ u1).setCell ⟨B, 2, none⟩ u2).setCell ⟨B, 3, none⟩ u3) x n d V := ⟨h.rd hx.rd, hx.dg, hx.fm, hx.val⟩
theorem Ob4.rn {w B u0 u1 u2 u3 L s x n c f y m d g q} (h : Ob4 w B) (hx : Rn L w s x n c f y m d g q) : Rn L ((((w.setCell ⟨B, 0, none⟩ u0).setCell ⟨B, 1, none⟩ u1).setCell ⟨B, 2, none⟩ u2).setCell ⟨B, 3, none⟩ u3) s x n c f y m d g q := ⟨h.wn hx.num, h.wn hx.den, hx.ln, hx.ld⟩
theorem Ob4.rw {w B u0 u1 u2 u3 x n c f y m d g} (h : Ob4 w B) (hx : Rw w x n c f y m d g) : Rw ((((w.setCell ⟨B, 0, none⟩ u0).setCell ⟨B, 1, none⟩ u1).setCell ⟨B, 2, none⟩ u2).setCell ⟨B, 3, none⟩ u3) x n c f y m d g := ⟨h.rd hx.rx, hx.lx, hx.cx, hx.nx, h.rd hx.ry, hx.ly, hx.cy, hx.ny⟩
theorem Ob4.zn {w B u0 u1 u2 u3 s x n d v} (h : Ob4 w B) (hx : Zn w s x n d v) : Zn ((((w.setCell ⟨B, 0, none⟩ u0).setCell ⟨B, 1, none⟩ u1).setCell ⟨B, 2, none⟩ u2).setCell ⟨B, 3, none⟩ u3) s x n d v := ⟨h.dn hx.dn, hx.sgn, hx.pos⟩
theorem Ob4.qn {w B u0 u1 u2 u3 s x n d y m g q} (h : Ob4 w B) (hx : Qn w s x n d y m g q) : Qn ((((w.setCell ⟨B, 0, none⟩ u0).setCell ⟨B, 1, none⟩ u1).setCell ⟨B, 2, none⟩ u2).setCell ⟨B, 3, none⟩ u3) s x n d y m g q := ⟨h.zn hx.num, h.dn hx.den⟩
theorem below_st4 {w0 w : World} {B : Nat} {u0 u1 u2 u3 : Value} (hw : Below w0.heap.size w0 w) (hB : w0.heap.size ≤ B) :
    Below w0.heap.size w0 ((((w.setCell ⟨B, 0, none⟩ u0).setCell ⟨B, 1, none⟩ u1).setCell ⟨B, 2, none⟩ u2).setCell ⟨B, 3, none⟩ u3) :=
  below_turned hw hw.size (((((Turned.refl w0.heap.size (B + 1) w).set (x := ⟨B, 0, none⟩) hB (by simp) _).set (x := ⟨B, 1, none⟩) hB (by simp) _).set (x := ⟨B, 2, none⟩) hB (by simp) _).set (x := ⟨B, 3, none⟩) hB (by simp) _) (Nat.le_refl _)

theorem kRnd {L w s x n c f y m d g q} (h : Rn L w s x n c f y m d g q) : Rn L w.drew s x n c f y m d g q := ⟨kWd h.num, kWd h.den, h.ln, h.ld⟩
theorem kRnb {L w w' s x n c f y m d g q} (hb : Below w.heap.size w w') (h : Rn L w s x n c f y m d g q) : Rn L w' s x n c f y m d g q := h.below hb
/-- Is a bound in form? -/
def efB (i : Int) (s : Bool) (f : Nat → Int) (n : Nat) (g : Nat → Int) (m : Nat) : Bool := rfB s f n g m && (decide (i = 0) || ((decide (i = -1) || decide (i = 1)) && decide (n = 0)))
/-- A bound in form that can be read: its Inf and its number (0 beside an infinity). -/
structure En (L : Nat) (w : World) (i : Int) (s : Bool) (x : Option Addr) (n c : Nat) (f : Nat → Int) (y : Option Addr) (m d : Nat) (g : Nat → Int) (q : Rat) : Prop where
  rn : Rn L w s x n c f y m d g q
  inf : i = 0 ∨ (i = -1 ∨ i = 1) ∧ q = 0
theorem En.below {L w w' i s x n c f y m d g q} (h : En L w i s x n c f y m d g q) (hb : Below w.heap.size w w') : En L w' i s x n c f y m d g q := ⟨h.rn.below hb, h.inf⟩
theorem En.alloc {L w i s x n c f y m d g q} (h : En L w i s x n c f y m d g q) (o : Obj) : En L (w.alloc o) i s x n c f y m d g q := ⟨h.rn.alloc o, h.inf⟩
theorem kEnd {L w i s x n c f y m d g q} (h : En L w i s x n c f y m d g q) : En L w.drew i s x n c f y m d g q := ⟨kRnd h.rn, h.inf⟩
theorem kEnb {L w w' i s x n c f y m d g q} (hb : Below w.heap.size w w') (h : En L w i s x n c f y m d g q) : En L w' i s x n c f y m d g q := h.below hb
theorem kEna {L w i s x n c f y m d g q} {o : Obj} (h : En L w i s x n c f y m d g q) : En L (w.alloc o) i s x n c f y m d g q := h.alloc o
theorem En.mono {L L' w i s x n c f y m d g q} (h : En L w i s x n c f y m d g q) (hL : L ≤ L') : En L' w i s x n c f y m d g q := ⟨h.rn.mono hL, h.inf⟩
theorem En.moved {L w i s x n c f y m d g q w' z c' z2 c2} (h : En L w i s x n c f y m d g q) (k : Rw w' z n c' f z2 m c2 g) : En L w' i s z n c' f z2 m c2 g q := ⟨h.rn.moved k, h.inf⟩
theorem Rn.q_zero {L w s x n c f y m d g q} (h : Rn L w s x n c f y m d g q) : q = 0 ↔ n = 0 := by
  rw [← h.num_zero]
  constructor
  · intro e; rw [e]; rfl
  · exact fun e => Rat.num_eq_zero.1 e
theorem Rw.en {w i s x n c f y m d g L} (h : Rw w x n c f y m d g) (hf : efB i s f n g m = true) (hn : n ≤ L) (hm : m ≤ L) : ∃ q, En L w i s x n c f y m d g q := by
  simp only [efB, Bool.and_eq_true, Bool.or_eq_true, decide_eq_true_eq] at hf
  obtain ⟨q, hq⟩ := h.rn hf.1 hn hm
  refine ⟨q, hq, ?_⟩
  rcases hf.2 with h1 | ⟨h1, h2⟩
  · exact .inl h1
  · exact .inr ⟨h1, hq.q_zero.2 h2⟩
theorem En.ef {L w i s x n c f y m d g q} (h : En L w i s x n c f y m d g q) : efB i s f n g m = true := by
  simp only [efB, Bool.and_eq_true, Bool.or_eq_true, decide_eq_true_eq]
  refine ⟨h.rn.rf, ?_⟩
  rcases h.inf with h1 | ⟨h1, h2⟩
  · exact .inl h1
  · exact .inr ⟨h1, h.rn.q_zero.1 h2⟩
/-- The order of bounds. -/
def EOrd (c : Int) (i : Int) (a : Rat) (j : Int) (b : Rat) : Prop := (c = -1 ∧ (i < j ∨ i = j ∧ a < b)) ∨ (c = 0 ∧ i = j ∧ a = b) ∨ (c = 1 ∧ (j < i ∨ i = j ∧ b < a))
end Go.Proofs.YtclopblgdiahiaaGreatDoor
namespace Go.Proofs.YtclopblgdiahiaaGreatDoor
open Go.RowKit

theorem eIsZero_c {w : World} {s : Bool} {x : Option Addr} {n c : Nat} {y : Option Addr} {m d : Nat} :
    Calls Tryz.prog 64 #[.agg #[.bool s, .slice x n c, .slice y m d]] w fun e w' => e = .returned (.bool (decide (n = 0))) ∧ Below w.heap.size w w' := by
  have key : ∀ o : Obj, Below w.heap.size w (w.alloc o) := fun o => below_alloc (Below.refl w.heap.size w) o
  have KEY := hid key
  clear key
  by_cases hn : n = 0
  · have h1 : ((n : Int) == 0) = true := by simp; omega
    rw [decide_eq_true hn]
    clear hn
    go_enter Tryz.func64, Tryz.ntmps64
    go_wp2
    go_ret
    exact ⟨rfl, KEY.out _⟩
  · have h1 : ((n : Int) == 0) = false := by simp; omega
    rw [decide_eq_false hn]
    clear hn
    go_enter Tryz.func64, Tryz.ntmps64
    go_wp2
    go_ret
    exact ⟨rfl, KEY.out _⟩

set_option maxRecDepth 100000 in
set_option maxHeartbeats 4000000 in
theorem eForm_c {w : World} {i : Int} {s : Bool} {x : Option Addr} {n c : Nat} {f : Nat → Int} {y : Option Addr} {m d : Nat} {g : Nat → Int} (h : Rw w x n c f y m d g) (hn : n ≤ 4096) (hm : m ≤ 4096) :
    Calls Tryz.prog 21 #[.agg #[.int .i64 i, .bool s, .slice x n c, .slice y m d]] w fun e w' => e = .returned (.bool (efB i s f n g m)) ∧ Below w.heap.size w w' := by
  have HR := hid (h.alloc (.cells #[.int .i64 i, .bool s, .slice x n c, .slice y m d] 39))
  have BX := hid (bx4_at w (.int .i64 i) (.bool s) (.slice x n c) (.slice y m d) 39)
  have HW := hid (below_alloc (Below.refl w.heap.size w) (.cells #[.int .i64 i, .bool s, .slice x n c, .slice y m d] 39))
  have C1 : Hid (∀ W, Below (w.alloc (.cells #[.int .i64 i, .bool s, .slice x n c, .slice y m d] 39)).heap.size (w.alloc (.cells #[.int .i64 i, .bool s, .slice x n c, .slice y m d] 39)) W → Calls Tryz.prog 50 #[.agg #[.bool s, .slice x n c, .slice y m d]] W fun e w' => e = .returned (.bool (rfB s f n g m)) ∧ Below W.heap.size W w') := fun W hW => rForm_c (HR.out.below hW) hn hm
  clear h
  by_cases h0 : i = 0
  · subst h0
    rw [show efB 0 s f n g m = rfB s f n g m by simp [efB]]
    go_enter Tryz.func21, Tryz.ntmps21
    go_upto_region 1 with fail
    generalize w.alloc (.cells #[.int .i64 0, .bool s, .slice x n c, .slice y m d] 39) = w1 at *
    obtain ⟨z, x0, x1, x2, x3⟩ := BX.out
    go_wp2_with fail
    refine (C1.out _ (Below.refl _ _)).mono ?_
    rintro e w2 ⟨rfl, hb⟩
    have HB := hid (HW.out.trans (hb.mono HW.out.size))
    clear hb
    go_wp2
    go_ret
    exact ⟨rfl, HB.out⟩
  have e0 : (i == 0) = false := by simp; exact h0
  by_cases h1 : i = -1 ∨ i = 1
  · have hef : efB i s f n g m = (rfB s f n g m && decide (n = 0)) := by
      rcases h1 with rfl | rfl <;> simp [efB]
    rw [hef]
    clear hef h0
    rcases h1 with rfl | rfl
    all_goals
      cases hr : rfB s f n g m
      · have c1 := C1.out
        rw [hr] at c1
        have C1' := hid c1
        clear c1 C1
        go_enter Tryz.func21, Tryz.ntmps21
        go_upto_region 1 with fail
        generalize w.alloc _ = w1 at *
        obtain ⟨z, x0, x1, x2, x3⟩ := BX.out
        go_wp2_with fail
        refine (C1'.out _ (Below.refl _ _)).mono ?_
        rintro e w2 ⟨rfl, hb⟩
        have HB := hid (HW.out.trans (hb.mono HW.out.size))
        clear hb
        go_wp2
        go_ret
        exact ⟨rfl, HB.out⟩
      · have c1 := C1.out
        rw [hr] at c1
        have C1' := hid c1
        clear c1 C1
        rw [Bool.true_and]
        obtain ⟨p, hp⟩ : ∃ p, decide (n = 0) = p := ⟨_, rfl⟩
        rw [hp]
        have HN0 := hid hp
        clear hp hr
        go_enter Tryz.func21, Tryz.ntmps21
        go_upto_region 1 with fail
        generalize w.alloc _ = w1 at *
        obtain ⟨z, x0, x1, x2, x3⟩ := BX.out
        go_wp2_with fail
        refine (C1'.out _ (Below.refl _ _)).mono ?_
        rintro e w2 ⟨rfl, hb⟩
        have HB := hid (HW.out.trans (hb.mono HW.out.size)); have B2 := hid (BX.out.below hb)
        clear hb z x0 x1 x2 x3
        obtain ⟨z, x0, x1, x2, x3⟩ := B2.out
        go_wp2_with fail
        refine eIsZero_c.mono ?_
        rintro e w3 ⟨rfl, hb⟩
        have HB3 := hid (HB.out.trans (hb.mono HB.out.size))
        clear hb
        rw [HN0.out]
        go_wp2
        go_ret
        exact ⟨rfl, HB3.out⟩
  · have e1 : (i == -1) = false := by simp; omega
    have e2 : (i == 1) = false := by simp; omega
    have hef : efB i s f n g m = false := by
      simp [efB]; omega
    rw [hef]
    clear hef h0 h1
    go_enter Tryz.func21, Tryz.ntmps21
    go_upto_region 1 with fail
    generalize w.alloc (.cells #[.int .i64 i, .bool s, .slice x n c, .slice y m d] 39) = w1 at *
    obtain ⟨z, x0, x1, x2, x3⟩ := BX.out
    go_wp2
    go_ret
    exact ⟨rfl, HW.out⟩

theorem isNaN_c {w : World} {a : Int} : Calls Tryz.prog 110 #[.int .i64 a] w fun e w' => e = .returned (.bool false) ∧ w' = w := by
  have h1 : (a != a) = false := by simp
  go_enter Tryz.func110, Tryz.ntmps110
  go_wp2
  go_ret
  exact ⟨rfl, rfl⟩
theorem compare_c {w : World} {a b : Int} : Calls Tryz.prog 69 #[.int .i64 a, .int .i64 b] w fun e w' => ∃ r, e = .returned (.int .i64 r) ∧ w' = w ∧ Ord r a b := by
  rcases Int.lt_trichotomy a b with h | h | h
  · have h1 : decide (a < b) = true := decide_eq_true h
    have HF := hid h
    clear h
    go_enter Tryz.func69, Tryz.ntmps69
    go_wp2_with fail
    refine isNaN_c.mono ?_
    rintro e w1 ⟨rfl, rfl⟩
    go_wp2_with fail
    refine isNaN_c.mono ?_
    rintro e w2 ⟨rfl, rfl⟩
    go_wp2
    go_ret
    exact ⟨-1, rfl, rfl, .inl ⟨rfl, HF.out⟩⟩
  · have h1 : decide (a < b) = false := decide_eq_false (by omega)
    have h2 : decide (b < a) = false := decide_eq_false (by omega)
    have HF := hid h
    clear h
    go_enter Tryz.func69, Tryz.ntmps69
    go_wp2_with fail
    refine isNaN_c.mono ?_
    rintro e w1 ⟨rfl, rfl⟩
    go_wp2_with fail
    refine isNaN_c.mono ?_
    rintro e w2 ⟨rfl, rfl⟩
    go_wp2
    go_ret
    exact ⟨0, rfl, rfl, .inr (.inl ⟨rfl, HF.out⟩)⟩
  · have h1 : decide (a < b) = false := decide_eq_false (by omega)
    have h2 : decide (b < a) = true := decide_eq_true h
    have HF := hid h
    clear h
    go_enter Tryz.func69, Tryz.ntmps69
    go_wp2_with fail
    refine isNaN_c.mono ?_
    rintro e w1 ⟨rfl, rfl⟩
    go_wp2_with fail
    refine isNaN_c.mono ?_
    rintro e w2 ⟨rfl, rfl⟩
    go_wp2
    go_ret
    exact ⟨1, rfl, rfl, .inr (.inr ⟨rfl, HF.out⟩)⟩

set_option maxRecDepth 100000 in
set_option maxHeartbeats 4000000 in
theorem eInf_c {w : World} {i : Int} : Calls Tryz.prog 72 #[.int .i64 i] w fun e w' => ∃ s x n c f y m d g, e = .returned (.agg #[.int .i64 i, .bool s, .slice x n c, .slice y m d]) ∧ Below w.heap.size w w' ∧ Rn 4 w' s x n c f y m d g 0 := by
  have h2 := ob4_new w 39
  have h3 := below_alloc (Below.refl w.heap.size w) (.cells #[.int .i64 0, .bool false, .slice none 0 0, .slice none 0 0] 39)
  go_enter Tryz.func72, Tryz.ntmps72
  go_wp2_with fail
  generalize w.alloc (.cells #[.int .i64 0, .bool false, .slice none 0 0, .slice none 0 0] 39) = w1 at *
  have OB := hid h2; have HW := hid h3
  clear h2 h3
  refine (rOf_c (z := 0) (by decide) (by decide)).mono ?_
  rintro e w2 ⟨s2, x2, n2, c2, f2, y2, m2, d2, g2, rfl, hb, hr⟩
  have HB := hid (HW.out.trans (hb.mono HW.out.size)); have OB2 := hid (OB.out.below hb); have RN := hid hr
  clear hb hr
  obtain ⟨hz, z0, z1, z2, z3, zf⟩ := OB2.out
  go_wp2
  exact bodyPost_ret (v := .agg #[.int .i64 i, .bool s2, .slice x2 n2 c2, .slice y2 m2 d2]) (by simp [results, Tryz.results72, go_sem, z0, z1, z2, z3]) rfl ⟨s2, x2, n2, c2, f2, y2, m2, d2, g2, rfl, below_st4 HB.out (Nat.le_refl _), OB2.out.rn RN.out⟩

set_option maxRecDepth 100000 in
set_option maxHeartbeats 4000000 in
theorem eLow_c {w : World} : Calls Tryz.prog 56 #[] w fun e w' => ∃ s x n c f y m d g, e = .returned (.agg #[.int .i64 (-1), .bool s, .slice x n c, .slice y m d]) ∧ Below w.heap.size w w' ∧ En 4 w' (-1) s x n c f y m d g 0 := by
  have h2 := ob4_new w 39
  have h3 := below_alloc (Below.refl w.heap.size w) (.cells #[.int .i64 0, .bool false, .slice none 0 0, .slice none 0 0] 39)
  go_enter Tryz.func56, Tryz.ntmps56
  go_wp2_with fail
  generalize w.alloc (.cells #[.int .i64 0, .bool false, .slice none 0 0, .slice none 0 0] 39) = w1 at *
  have OB := hid h2; have HW := hid h3
  clear h2 h3
  refine eInf_c.mono ?_
  rintro e w2 ⟨s2, x2, n2, c2, f2, y2, m2, d2, g2, rfl, hb, hr⟩
  have HB := hid (HW.out.trans (hb.mono HW.out.size)); have OB2 := hid (OB.out.below hb); have RN := hid hr
  clear hb hr
  obtain ⟨hz, z0, z1, z2, z3, zf⟩ := OB2.out
  go_wp2
  exact bodyPost_ret (v := .agg #[.int .i64 (-1), .bool s2, .slice x2 n2 c2, .slice y2 m2 d2]) (by simp [results, Tryz.results56, go_sem, z0, z1, z2, z3]) rfl ⟨s2, x2, n2, c2, f2, y2, m2, d2, g2, rfl, below_st4 HB.out (Nat.le_refl _), ⟨OB2.out.rn RN.out, .inr ⟨by decide, rfl⟩⟩⟩

set_option maxRecDepth 100000 in
set_option maxHeartbeats 4000000 in
theorem eHigh_c {w : World} : Calls Tryz.prog 59 #[] w fun e w' => ∃ s x n c f y m d g, e = .returned (.agg #[.int .i64 1, .bool s, .slice x n c, .slice y m d]) ∧ Below w.heap.size w w' ∧ En 4 w' 1 s x n c f y m d g 0 := by
  have h2 := ob4_new w 39
  have h3 := below_alloc (Below.refl w.heap.size w) (.cells #[.int .i64 0, .bool false, .slice none 0 0, .slice none 0 0] 39)
  go_enter Tryz.func59, Tryz.ntmps59
  go_wp2_with fail
  generalize w.alloc (.cells #[.int .i64 0, .bool false, .slice none 0 0, .slice none 0 0] 39) = w1 at *
  have OB := hid h2; have HW := hid h3
  clear h2 h3
  refine eInf_c.mono ?_
  rintro e w2 ⟨s2, x2, n2, c2, f2, y2, m2, d2, g2, rfl, hb, hr⟩
  have HB := hid (HW.out.trans (hb.mono HW.out.size)); have OB2 := hid (OB.out.below hb); have RN := hid hr
  clear hb hr
  obtain ⟨hz, z0, z1, z2, z3, zf⟩ := OB2.out
  go_wp2
  exact bodyPost_ret (v := .agg #[.int .i64 1, .bool s2, .slice x2 n2 c2, .slice y2 m2 d2]) (by simp [results, Tryz.results59, go_sem, z0, z1, z2, z3]) rfl ⟨s2, x2, n2, c2, f2, y2, m2, d2, g2, rfl, below_st4 HB.out (Nat.le_refl _), ⟨OB2.out.rn RN.out, .inr ⟨by decide, rfl⟩⟩⟩

set_option maxRecDepth 100000 in
set_option maxHeartbeats 4000000 in
theorem eCopy_c {L : Nat} {w : World} {i : Int} {s : Bool} {x : Option Addr} {n c : Nat} {f : Nat → Int} {y : Option Addr} {m d : Nat} {g : Nat → Int} {q : Rat} (h : En L w i s x n c f y m d g q) (hL : L ≤ 1000) :
    Calls Tryz.prog 103 #[.agg #[.int .i64 i, .bool s, .slice x n c, .slice y m d]] w fun e w' => ∃ s x n c f y m d g, e = .returned (.agg #[.int .i64 i, .bool s, .slice x n c, .slice y m d]) ∧ Below w.heap.size w w' ∧ En L w' i s x n c f y m d g q := by
  have h1 := (bx4_at w (.int .i64 i) (.bool s) (.slice x n c) (.slice y m d) 39).alloc (.cells #[.int .i64 0, .bool false, .slice none 0 0, .slice none 0 0] 39)
  have h2 := ob4_new (w.alloc (.cells #[.int .i64 i, .bool s, .slice x n c, .slice y m d] 39)) 39
  rw [size_alloc1] at h2
  have h3 := below_alloc (below_alloc (Below.refl w.heap.size w) (.cells #[.int .i64 i, .bool s, .slice x n c, .slice y m d] 39)) (.cells #[.int .i64 0, .bool false, .slice none 0 0, .slice none 0 0] 39)
  have h4 := h.below h3
  clear h
  go_enter Tryz.func103, Tryz.ntmps103
  go_wp2_with fail
  generalize (w.alloc (.cells #[.int .i64 i, .bool s, .slice x n c, .slice y m d] 39)).alloc (.cells #[.int .i64 0, .bool false, .slice none 0 0, .slice none 0 0] 39) = w1 at *
  have HN := hid h4; have OB := hid h2; have HW := hid h3
  obtain ⟨z, x0, x1, x2, x3⟩ := h1
  obtain ⟨hz, z0, z1, z2, z3, zf⟩ := h2
  clear h3 h4
  have C1 : Hid (∀ W, Below w1.heap.size w1 W → Calls Tryz.prog 99 #[.agg #[.bool s, .slice x n c, .slice y m d]] W fun e w' => ∃ s x n c f y m d g, e = .returned (.agg #[.bool s, .slice x n c, .slice y m d]) ∧ Below W.heap.size W w' ∧ Hid (Rn L w' s x n c f y m d g q)) := fun W hW => (rCopy_n (HN.out.below hW).rn hL).mono (fun _ _ ⟨x, c, y, d, k1, k2, k3⟩ => ⟨s, x, n, c, f, y, m, d, g, k1, k2, k3⟩)
  go_region_held3 (fun w' => w'.cell? ⟨w.heap.size, 0, none⟩ = some (.int .i64 i) ∧ w'.cell? ⟨w.heap.size, 1, none⟩ = some (.bool s) ∧ w'.cell? ⟨w.heap.size, 2, none⟩ = some (.slice x n c) ∧ w'.cell? ⟨w.heap.size, 3, none⟩ = some (.slice y m d) ∧ (w'.cell? ⟨w.heap.size + 1, 0, none⟩).isSome = true ∧ (w'.cell? ⟨w.heap.size + 1, 1, none⟩).isSome = true ∧ (w'.cell? ⟨w.heap.size + 1, 2, none⟩).isSome = true ∧ (w'.cell? ⟨w.heap.size + 1, 3, none⟩).isSome = true ∧ w'.frozen? ⟨w.heap.size + 1, 0, none⟩ = false ∧ w'.frozen? ⟨w.heap.size + 1, 1, none⟩ = false ∧ w'.frozen? ⟨w.heap.size + 1, 2, none⟩ = false ∧ w'.frozen? ⟨w.heap.size + 1, 3, none⟩ = false)
    (refine ⟨?_, ?_, ?_, ?_, ?_, ?_, ?_, ?_, ?_, ?_, ?_, ?_⟩ <;> repeat (with_reducible first | assumption | exact zf _ | exact tf _ | exact kI0 z0 | exact kI0 z1 | exact kI0 z2 | exact kI0 z3 | exact kI0 t0 | exact kI0 t1 | exact kI0 t2 | exact kI0 t3 | refine kCd ?_ | refine kId ?_ | refine kFd ?_ | refine kCs (by simp only [ne_eq]; omega) ?_ | refine kIs ?_ | refine kFs ?_ | refine kCb (by assumption) ?_ | refine kIb (by assumption) ?_))
    (first | (go_at_call 99; with_reducible refine (C1.out _ (by repeat (with_reducible first | assumption | exact Below.refl _ _ | refine Below.drew ?_ | refine kBb (by assumption) ?_))).mono ?_; rintro e v5 ⟨s5, x5, n5, c5, f5, y5, m5, d5, g5, rfl, hb5, H5⟩; have Tt : Ob4 v5 (w.heap.size + 1) := (by repeat (with_reducible first | exact OB.out | refine Ob4.drew ?_ | refine kO4b (by assumption) ?_)); obtain ⟨_, t0, t1, t2, t3, tf⟩ := id Tt))
  all_goals
    have hb : Below w1.heap.size w1 v5 := (by repeat (with_reducible first | assumption | exact Below.refl _ _ | refine Below.drew ?_ | refine kBb (by assumption) ?_))
    go_wp2
    exact bodyPost_ret (v := .agg #[.int .i64 i, .bool s5, .slice x5 n5 c5, .slice y5 m5 d5]) (by simp [results, Tryz.results103, go_sem, t0, t1, t2, t3]) rfl ⟨s5, x5, n5, c5, f5, y5, m5, d5, g5, rfl, below_st4 (HW.out.trans (hb.mono HW.out.size)) (by omega), ⟨Tt.rn H5.out, HN.out.inf⟩⟩
end Go.Proofs.YtclopblgdiahiaaGreatDoor
namespace Go.Proofs.YtclopblgdiahiaaGreatDoor
open Go.RowKit

/-- A bound of the reference. -/
structure Fn (w : World) (i : Int) (s : Bool) (x : Option Addr) (n : Nat) (d : Nat → Int) (y : Option Addr) (m : Nat) (g : Nat → Int) (q : Rat) : Prop where
  qn : Qn w s x n d y m g q
  inf : i = 0 ∨ (i = -1 ∨ i = 1) ∧ q = 0
theorem Fn.below {w w' i s x n d y m g q} (h : Fn w i s x n d y m g q) (hb : Below w.heap.size w w') : Fn w' i s x n d y m g q := ⟨h.qn.below hb, h.inf⟩
theorem kFnd {w i s x n d y m g q} (h : Fn w i s x n d y m g q) : Fn w.drew i s x n d y m g q := ⟨kQd h.qn, h.inf⟩
theorem kFnb {w w' i s x n d y m g q} (hb : Below w.heap.size w w') (h : Fn w i s x n d y m g q) : Fn w' i s x n d y m g q := h.below hb
theorem Fn.alloc {w i s x n d y m g q} (h : Fn w i s x n d y m g q) (o : Obj) : Fn (w.alloc o) i s x n d y m g q := ⟨h.qn.alloc o, h.inf⟩

set_option maxRecDepth 100000 in
set_option maxHeartbeats 4000000 in
theorem xTwin_c {w : World} {i : Int} {s : Bool} {x : Option Addr} {n c : Nat} {f : Nat → Int} {y : Option Addr} {m d : Nat} {g : Nat → Int} (h : Rw w x n c f y m d g) (hn : n ≤ 1000) (hm : m ≤ 1000) :
    Calls Tryz.prog 30 #[.agg #[.int .i64 i, .bool s, .slice x n c, .slice y m d]] w fun e w' => ∃ z c' z2 c2, e = .returned (.agg #[.int .i64 i, .bool s, .slice z n c', .slice z2 m c2]) ∧ Below w.heap.size w w' ∧ Rw w' z n c' f z2 m c2 g := by
  have h1 := (bx4_at w (.int .i64 i) (.bool s) (.slice x n c) (.slice y m d) 39).alloc (.cells #[.int .i64 0, .bool false, .slice none 0 0, .slice none 0 0] 39)
  have h2 := ob4_new (w.alloc (.cells #[.int .i64 i, .bool s, .slice x n c, .slice y m d] 39)) 39
  rw [size_alloc1] at h2
  have h3 := below_alloc (below_alloc (Below.refl w.heap.size w) (.cells #[.int .i64 i, .bool s, .slice x n c, .slice y m d] 39)) (.cells #[.int .i64 0, .bool false, .slice none 0 0, .slice none 0 0] 39)
  have h4 := h.below h3
  clear h
  go_enter Tryz.func30, Tryz.ntmps30
  go_wp2_with fail
  generalize (w.alloc (.cells #[.int .i64 i, .bool s, .slice x n c, .slice y m d] 39)).alloc (.cells #[.int .i64 0, .bool false, .slice none 0 0, .slice none 0 0] 39) = w1 at *
  have HN := hid h4; have OB := hid h2; have HW := hid h3
  obtain ⟨z, x0, x1, x2, x3⟩ := h1
  obtain ⟨hz, z0, z1, z2, z3, zf⟩ := h2
  clear h3 h4
  have C1 : Hid (∀ W, Below w1.heap.size w1 W → Calls Tryz.prog 14 #[.agg #[.bool s, .slice x n c, .slice y m d]] W fun e w' => ∃ z c' z2 c2, e = .returned (.agg #[.bool s, .slice z n c', .slice z2 m c2]) ∧ Below W.heap.size W w' ∧ Hid (Rw w' z n c' f z2 m c2 g)) := fun W hW => qTwin_c (HN.out.below hW) hn hm
  go_region_held3 (fun w' => w'.cell? ⟨w.heap.size, 0, none⟩ = some (.int .i64 i) ∧ w'.cell? ⟨w.heap.size, 1, none⟩ = some (.bool s) ∧ w'.cell? ⟨w.heap.size, 2, none⟩ = some (.slice x n c) ∧ w'.cell? ⟨w.heap.size, 3, none⟩ = some (.slice y m d) ∧ (w'.cell? ⟨w.heap.size + 1, 0, none⟩).isSome = true ∧ (w'.cell? ⟨w.heap.size + 1, 1, none⟩).isSome = true ∧ (w'.cell? ⟨w.heap.size + 1, 2, none⟩).isSome = true ∧ (w'.cell? ⟨w.heap.size + 1, 3, none⟩).isSome = true ∧ w'.frozen? ⟨w.heap.size + 1, 0, none⟩ = false ∧ w'.frozen? ⟨w.heap.size + 1, 1, none⟩ = false ∧ w'.frozen? ⟨w.heap.size + 1, 2, none⟩ = false ∧ w'.frozen? ⟨w.heap.size + 1, 3, none⟩ = false)
    (refine ⟨?_, ?_, ?_, ?_, ?_, ?_, ?_, ?_, ?_, ?_, ?_, ?_⟩ <;> repeat (with_reducible first | assumption | exact zf _ | exact tf _ | exact kI0 z0 | exact kI0 z1 | exact kI0 z2 | exact kI0 z3 | exact kI0 t0 | exact kI0 t1 | exact kI0 t2 | exact kI0 t3 | refine kCd ?_ | refine kId ?_ | refine kFd ?_ | refine kCs (by simp only [ne_eq]; omega) ?_ | refine kIs ?_ | refine kFs ?_ | refine kCb (by assumption) ?_ | refine kIb (by assumption) ?_))
    (first | (go_at_call 14; with_reducible refine (C1.out _ (by repeat (with_reducible first | assumption | exact Below.refl _ _ | refine Below.drew ?_ | refine kBb (by assumption) ?_))).mono ?_; rintro e v5 ⟨z5, c5, y5, d5, rfl, hb5, H5⟩; have Tt : Ob4 v5 (w.heap.size + 1) := (by repeat (with_reducible first | exact OB.out | refine Ob4.drew ?_ | refine kO4b (by assumption) ?_)); obtain ⟨_, t0, t1, t2, t3, tf⟩ := id Tt))
  all_goals
    have hb : Below w1.heap.size w1 v5 := (by repeat (with_reducible first | assumption | exact Below.refl _ _ | refine Below.drew ?_ | refine kBb (by assumption) ?_))
    go_wp2
    exact bodyPost_ret (v := .agg #[.int .i64 i, .bool s, .slice z5 n c5, .slice y5 m d5]) (by simp [results, Tryz.results30, go_sem, t0, t1, t2, t3]) rfl ⟨z5, c5, y5, d5, rfl, below_st4 (HW.out.trans (hb.mono HW.out.size)) (by omega), Tt.rw H5.out⟩

set_option maxRecDepth 100000 in
set_option maxHeartbeats 4000000 in
theorem xTo_c {w : World} {i : Int} {s : Bool} {x : Option Addr} {n c : Nat} {f : Nat → Int} {y : Option Addr} {m d : Nat} {g : Nat → Int} {q : Rat} (h : Fn w i s x n f y m g q) (hn : n ≤ 4096) (hm : m ≤ 4096) :
    Calls Tryz.prog 61 #[.agg #[.int .i64 i, .bool s, .slice x n c, .slice y m d]] w fun e w' => ∃ z k c' f z2 k2 c2 f2, e = .returned (.agg #[.int .i64 i, .bool s, .slice z k c', .slice z2 k2 c2]) ∧ Below w.heap.size w w' ∧ Hid (En (n + m) w' i s z k c' f z2 k2 c2 f2 q) := by
  have h1 := (bx4_at w (.int .i64 i) (.bool s) (.slice x n c) (.slice y m d) 86).alloc (.cells #[.int .i64 0, .bool false, .slice none 0 0, .slice none 0 0] 39)
  have h2 := ob4_new (w.alloc (.cells #[.int .i64 i, .bool s, .slice x n c, .slice y m d] 86)) 39
  rw [size_alloc1] at h2
  have h3 := below_alloc (below_alloc (Below.refl w.heap.size w) (.cells #[.int .i64 i, .bool s, .slice x n c, .slice y m d] 86)) (.cells #[.int .i64 0, .bool false, .slice none 0 0, .slice none 0 0] 39)
  have h4 := h.below h3
  clear h
  go_enter Tryz.func61, Tryz.ntmps61
  go_wp2_with fail
  generalize (w.alloc (.cells #[.int .i64 i, .bool s, .slice x n c, .slice y m d] 86)).alloc (.cells #[.int .i64 0, .bool false, .slice none 0 0, .slice none 0 0] 39) = w1 at *
  have HN := hid h4; have OB := hid h2; have HW := hid h3
  obtain ⟨z, x0, x1, x2, x3⟩ := h1
  obtain ⟨hz, z0, z1, z2, z3, zf⟩ := h2
  clear h3 h4
  have C1 : Hid (∀ W, Below w1.heap.size w1 W → Calls Tryz.prog 100 #[.agg #[.bool s, .slice x n c, .slice y m d]] W fun e w' => ∃ z k c' f z2 k2 c2 f2, e = .returned (.agg #[.bool s, .slice z k c', .slice z2 k2 c2]) ∧ Below W.heap.size W w' ∧ Hid (Rn (n + m) w' s z k c' f z2 k2 c2 f2 q)) := fun W hW => qToR_c (HN.out.below hW).qn hn hm
  go_region_held3 (fun w' => w'.cell? ⟨w.heap.size, 0, none⟩ = some (.int .i64 i) ∧ w'.cell? ⟨w.heap.size, 1, none⟩ = some (.bool s) ∧ w'.cell? ⟨w.heap.size, 2, none⟩ = some (.slice x n c) ∧ w'.cell? ⟨w.heap.size, 3, none⟩ = some (.slice y m d) ∧ (w'.cell? ⟨w.heap.size + 1, 0, none⟩).isSome = true ∧ (w'.cell? ⟨w.heap.size + 1, 1, none⟩).isSome = true ∧ (w'.cell? ⟨w.heap.size + 1, 2, none⟩).isSome = true ∧ (w'.cell? ⟨w.heap.size + 1, 3, none⟩).isSome = true ∧ w'.frozen? ⟨w.heap.size + 1, 0, none⟩ = false ∧ w'.frozen? ⟨w.heap.size + 1, 1, none⟩ = false ∧ w'.frozen? ⟨w.heap.size + 1, 2, none⟩ = false ∧ w'.frozen? ⟨w.heap.size + 1, 3, none⟩ = false)
    (refine ⟨?_, ?_, ?_, ?_, ?_, ?_, ?_, ?_, ?_, ?_, ?_, ?_⟩ <;> repeat (with_reducible first | assumption | exact zf _ | exact tf _ | exact kI0 z0 | exact kI0 z1 | exact kI0 z2 | exact kI0 z3 | exact kI0 t0 | exact kI0 t1 | exact kI0 t2 | exact kI0 t3 | refine kCd ?_ | refine kId ?_ | refine kFd ?_ | refine kCs (by simp only [ne_eq]; omega) ?_ | refine kIs ?_ | refine kFs ?_ | refine kCb (by assumption) ?_ | refine kIb (by assumption) ?_))
    (first | (go_at_call 100; with_reducible refine (C1.out _ (by repeat (with_reducible first | assumption | exact Below.refl _ _ | refine Below.drew ?_ | refine kBb (by assumption) ?_))).mono ?_; rintro e v5 ⟨z5, k5, c5, f5, y5, m5, d5, g5, rfl, hb5, H5⟩; have Tt : Ob4 v5 (w.heap.size + 1) := (by repeat (with_reducible first | exact OB.out | refine Ob4.drew ?_ | refine kO4b (by assumption) ?_)); obtain ⟨_, t0, t1, t2, t3, tf⟩ := id Tt))
  all_goals
    have hb : Below w1.heap.size w1 v5 := (by repeat (with_reducible first | assumption | exact Below.refl _ _ | refine Below.drew ?_ | refine kBb (by assumption) ?_))
    go_wp2
    exact bodyPost_ret (v := .agg #[.int .i64 i, .bool s, .slice z5 k5 c5, .slice y5 m5 d5]) (by simp [results, Tryz.results61, go_sem, t0, t1, t2, t3]) rfl ⟨z5, k5, c5, f5, y5, m5, d5, g5, rfl, below_st4 (HW.out.trans (hb.mono HW.out.size)) (by omega), ⟨Tt.rn H5.out, HN.out.inf⟩⟩

set_option maxRecDepth 100000 in
set_option maxHeartbeats 4000000 in
theorem qZero4_c {w : World} : Calls Tryz.prog 104 #[] w fun e w' => ∃ s x n c d y m c' g, e = .returned (.agg #[.bool s, .slice x n c, .slice y m c']) ∧ Below w.heap.size w w' ∧ Hid (n ≤ 2 ∧ m ≤ 2 ∧ Qn w' s x n d y m g 0) := by
  have h2 := ob_new w 84
  have h3 := below_alloc (Below.refl w.heap.size w) (.cells #[.bool false, .slice none 0 0, .slice none 0 0] 84)
  go_enter Tryz.func104, Tryz.ntmps104
  go_wp2_with fail
  generalize w.alloc (.cells #[.bool false, .slice none 0 0, .slice none 0 0] 84) = w1 at *
  have OB := hid h2; have HW := hid h3
  clear h2 h3
  refine (qInt_c (z := 0) (by decide) (by decide)).mono ?_
  rintro e w2 ⟨s2, x2, n2, c2, d2, y2, m2, e2, g2, rfl, hb, hl1, hl2, hq⟩
  have HB := hid (HW.out.trans (hb.mono HW.out.size)); have OB2 := hid (OB.out.below hb); have HQ := hid hq
  clear hb hq
  obtain ⟨hz, z0, z1, z2, zf⟩ := OB2.out
  go_wp2
  exact bodyPost_ret (v := .agg #[.bool s2, .slice x2 n2 c2, .slice y2 m2 e2]) (by simp [results, Tryz.results104, go_sem, z0, z1, z2]) rfl ⟨s2, x2, n2, c2, d2, y2, m2, e2, g2, rfl, below_st HB.out (Nat.le_refl _), hl1, hl2, OB2.out.qn HQ.out⟩

set_option maxRecDepth 100000 in
set_option maxHeartbeats 4000000 in
theorem xLow_c {w : World} : Calls Tryz.prog 62 #[] w fun e w' => ∃ s x n c d y m c' g, e = .returned (.agg #[.int .i64 (-1), .bool s, .slice x n c, .slice y m c']) ∧ Below w.heap.size w w' ∧ Hid (n ≤ 2 ∧ m ≤ 2 ∧ Fn w' (-1) s x n d y m g 0) := by
  have h2 := ob4_new w 86
  have h3 := below_alloc (Below.refl w.heap.size w) (.cells #[.int .i64 0, .bool false, .slice none 0 0, .slice none 0 0] 86)
  go_enter Tryz.func62, Tryz.ntmps62
  go_wp2_with fail
  generalize w.alloc (.cells #[.int .i64 0, .bool false, .slice none 0 0, .slice none 0 0] 86) = w1 at *
  have OB := hid h2; have HW := hid h3
  clear h2 h3
  refine qZero4_c.mono ?_
  rintro e w2 ⟨s2, x2, n2, c2, d2, y2, m2, e2, g2, rfl, hb, H2⟩
  have HB := hid (HW.out.trans (hb.mono HW.out.size)); have OB2 := hid (OB.out.below hb)
  clear hb
  obtain ⟨hz, z0, z1, z2, z3, zf⟩ := OB2.out
  go_wp2
  exact bodyPost_ret (v := .agg #[.int .i64 (-1), .bool s2, .slice x2 n2 c2, .slice y2 m2 e2]) (by simp [results, Tryz.results62, go_sem, z0, z1, z2, z3]) rfl ⟨s2, x2, n2, c2, d2, y2, m2, e2, g2, rfl, below_st4 HB.out (Nat.le_refl _), H2.out.1, H2.out.2.1, ⟨OB2.out.qn H2.out.2.2, .inr ⟨by decide, rfl⟩⟩⟩

set_option maxRecDepth 100000 in
set_option maxHeartbeats 4000000 in
theorem xHigh_c {w : World} : Calls Tryz.prog 63 #[] w fun e w' => ∃ s x n c d y m c' g, e = .returned (.agg #[.int .i64 1, .bool s, .slice x n c, .slice y m c']) ∧ Below w.heap.size w w' ∧ Hid (n ≤ 2 ∧ m ≤ 2 ∧ Fn w' 1 s x n d y m g 0) := by
  have h2 := ob4_new w 86
  have h3 := below_alloc (Below.refl w.heap.size w) (.cells #[.int .i64 0, .bool false, .slice none 0 0, .slice none 0 0] 86)
  go_enter Tryz.func63, Tryz.ntmps63
  go_wp2_with fail
  generalize w.alloc (.cells #[.int .i64 0, .bool false, .slice none 0 0, .slice none 0 0] 86) = w1 at *
  have OB := hid h2; have HW := hid h3
  clear h2 h3
  refine qZero4_c.mono ?_
  rintro e w2 ⟨s2, x2, n2, c2, d2, y2, m2, e2, g2, rfl, hb, H2⟩
  have HB := hid (HW.out.trans (hb.mono HW.out.size)); have OB2 := hid (OB.out.below hb)
  clear hb
  obtain ⟨hz, z0, z1, z2, z3, zf⟩ := OB2.out
  go_wp2
  exact bodyPost_ret (v := .agg #[.int .i64 1, .bool s2, .slice x2 n2 c2, .slice y2 m2 e2]) (by simp [results, Tryz.results63, go_sem, z0, z1, z2, z3]) rfl ⟨s2, x2, n2, c2, d2, y2, m2, e2, g2, rfl, below_st4 HB.out (Nat.le_refl _), H2.out.1, H2.out.2.1, ⟨OB2.out.qn H2.out.2.2, .inr ⟨by decide, rfl⟩⟩⟩

set_option maxRecDepth 100000 in
set_option maxHeartbeats 4000000 in
theorem xNum_c {w : World} {s : Bool} {x : Option Addr} {n c : Nat} {f : Nat → Int} {y : Option Addr} {m d : Nat} {g : Nat → Int} {q : Rat} (h : Qn w s x n f y m g q) : Calls Tryz.prog 102 #[.agg #[.bool s, .slice x n c, .slice y m d]] w fun e w' => e = .returned (.agg #[.int .i64 0, .bool s, .slice x n c, .slice y m d]) ∧ Below w.heap.size w w' ∧ Fn w' 0 s x n f y m g q := by
  have h1 := (bx3_at w (.bool s) (.slice x n c) (.slice y m d) 84).alloc (.cells #[.int .i64 0, .bool false, .slice none 0 0, .slice none 0 0] 86)
  have h2 := ob4_new (w.alloc (.cells #[.bool s, .slice x n c, .slice y m d] 84)) 86
  rw [size_alloc1] at h2
  have h3 := below_alloc (below_alloc (Below.refl w.heap.size w) (.cells #[.bool s, .slice x n c, .slice y m d] 84)) (.cells #[.int .i64 0, .bool false, .slice none 0 0, .slice none 0 0] 86)
  have HN := hid (h.below h3)
  clear h
  go_enter Tryz.func102, Tryz.ntmps102
  go_upto_region 1 with fail
  generalize (w.alloc (.cells #[.bool s, .slice x n c, .slice y m d] 84)).alloc (.cells #[.int .i64 0, .bool false, .slice none 0 0, .slice none 0 0] 86) = w1 at *
  have OB := hid h2; have HW := hid h3
  obtain ⟨z, x0, x1, x2⟩ := h1
  obtain ⟨hz, z0, z1, z2, z3, zf⟩ := h2
  clear h3
  go_wp2
  exact bodyPost_ret (v := .agg #[.int .i64 0, .bool s, .slice x n c, .slice y m d]) (by simp [results, Tryz.results102, go_sem, z0, z1, z2, z3]) rfl ⟨rfl, below_st4 HW.out (by omega), ⟨OB.out.qn HN.out, .inl rfl⟩⟩

set_option maxRecDepth 100000 in
set_option maxHeartbeats 4000000 in
theorem xSame_of {w : World} {i : Int} {s1 : Bool} {x1 : Option Addr} {n1 c1 : Nat} {y1 : Option Addr} {m1 d1 : Nat} {s2 : Bool} {x2 : Option Addr} {n2 c2 : Nat} {y2 : Option Addr} {m2 d2 : Nat} (hS : ∀ W, Below w.heap.size w W → Calls Tryz.prog 16 #[.agg #[.bool s1, .slice x1 n1 c1, .slice y1 m1 d1], .agg #[.bool s2, .slice x2 n2 c2, .slice y2 m2 d2]] W fun e w' => e = .returned (.bool true) ∧ Below W.heap.size W w') :
    Calls Tryz.prog 27 #[.agg #[.int .i64 i, .bool s1, .slice x1 n1 c1, .slice y1 m1 d1], .agg #[.int .i64 i, .bool s2, .slice x2 n2 c2, .slice y2 m2 d2]] w fun e w' => e = .returned (.bool true) ∧ Below w.heap.size w w' := by
  have h1 := (bx4_at w (.int .i64 i) (.bool s1) (.slice x1 n1 c1) (.slice y1 m1 d1) 39).alloc (.cells #[.int .i64 i, .bool s2, .slice x2 n2 c2, .slice y2 m2 d2] 39)
  have h2 := bx4_at (w.alloc (.cells #[.int .i64 i, .bool s1, .slice x1 n1 c1, .slice y1 m1 d1] 39)) (.int .i64 i) (.bool s2) (.slice x2 n2 c2) (.slice y2 m2 d2) 39
  rw [size_alloc1] at h2
  have h3 := below_alloc (below_alloc (Below.refl w.heap.size w) (.cells #[.int .i64 i, .bool s1, .slice x1 n1 c1, .slice y1 m1 d1] 39)) (.cells #[.int .i64 i, .bool s2, .slice x2 n2 c2, .slice y2 m2 d2] 39)
  have HS := hid (hS _ h3)
  have hii : (i == i) = true := by simp
  clear hS
  go_enter Tryz.func27, Tryz.ntmps27
  go_upto_region 1 with fail
  generalize (w.alloc (.cells #[.int .i64 i, .bool s1, .slice x1 n1 c1, .slice y1 m1 d1] 39)).alloc (.cells #[.int .i64 i, .bool s2, .slice x2 n2 c2, .slice y2 m2 d2] 39) = w1 at *
  have HW := hid h3
  obtain ⟨za, a0, a1, a2, a3⟩ := h1
  obtain ⟨zb, b0, b1, b2, b3⟩ := h2
  clear h3
  go_wp2_with fail
  refine HS.out.mono ?_
  rintro e w2 ⟨rfl, hb⟩
  have HB := hid (HW.out.trans (hb.mono HW.out.size))
  clear hb
  go_wp2
  go_ret
  exact ⟨rfl, HB.out⟩

theorem zero_rf {w : World} {L : Nat} {s s' : Bool} {n n' m m' : Nat} {f f' g g' : Nat → Int} {x' : Option Addr} {c' : Nat} {y' : Option Addr} {d' : Nat} (hlg : Lm g m) (hz : Rn L w s' x' n' c' f' y' m' d' g' 0) : (s = s' ∧ Alk n n' f f' ∧ Alk m m' g g') ↔ (rfB s f n g m && decide (n = 0)) = true := by
  have hn' : n' = 0 := hz.q_zero.1 rfl
  have hs' : s' = false := by
    cases s'
    · rfl
    · have := sgn_of_wfB hz.num.wf rfl; omega
  have hden : vf g' m' = 1 := hz.den.nv
  have hone := one_iff hz.den.lm hz.den.fm hz.den.nv
  have hm' := hone.1 rfl
  constructor
  · rintro ⟨rfl, ⟨h1, _⟩, h2, h3⟩
    have e1 : n = 0 := by omega
    have e2 : m = 1 := by omega
    subst e1 e2
    have e3 : g 0 = 1 := by rw [h3 0 (by omega)]; exact hm'.2
    have v1 : vf g 1 = 1 := by simp [vf, pw, e3]
    have v0 : vf f 0 = 0 := rfl
    have w1 : wfB s f 0 = true := (wfB_iff _ _ _).2 ⟨.inl rfl, fun h => by rw [hs'] at h; cases h⟩
    have w2 : fmB g 1 = true := (fmB_iff _ _).2 (.inr (by show g 0 ≠ 0; omega))
    simp [rfB, w1, w2, v1, v0]
  · intro h
    simp only [Bool.and_eq_true, decide_eq_true_eq] at h
    obtain ⟨h1, rfl⟩ := h
    simp only [rfB, Bool.and_eq_true, decide_eq_true_eq] at h1
    obtain ⟨k1, k2, k3, k4⟩ := h1
    have hs : s = false := by
      cases s
      · rfl
      · have := sgn_of_wfB k1 rfl; omega
    have hv : vf g m = 1 := by
      have v0 : vf f 0 = 0 := rfl
      rw [v0] at k4
      have h2 : (vf g m).toNat = 1 := by simpa using k4
      omega
    obtain ⟨e1, e2⟩ := (one_iff hlg ((fmB_iff g m).1 k2) hv).1 rfl
    subst e1
    refine ⟨by rw [hs, hs'], ⟨by omega, fun j hj => by omega⟩, ⟨by omega, fun j hj => ?_⟩⟩
    have : j = 0 := by omega
    subst this
    rw [e2]; exact hm'.2.symm

/-- The greater of two bounds; the lesser. -/
def EMax (i : Int) (a : Rat) (j : Int) (b : Rat) (k : Int) (q : Rat) : Prop := ∃ c, EOrd c i a j b ∧ (c < 0 ∧ k = j ∧ q = b ∨ ¬ c < 0 ∧ k = i ∧ q = a)
def EMin (i : Int) (a : Rat) (j : Int) (b : Rat) (k : Int) (q : Rat) : Prop := ∃ c, EOrd c i a j b ∧ (0 < c ∧ k = j ∧ q = b ∨ ¬ 0 < c ∧ k = i ∧ q = a)
theorem EOrd.uniq {c c' i a j b} (h : EOrd c i a j b) (k : EOrd c' i a j b) : c = c' := by
  have irr : ∀ p : Rat, ¬ p < p := fun p h => absurd h (by grind)
  rcases h with ⟨h1, h2⟩ | ⟨h1, h2, h3⟩ | ⟨h1, h2⟩ <;> rcases k with ⟨k1, k2⟩ | ⟨k1, k2, k3⟩ | ⟨k1, k2⟩ <;> first | omega | (exfalso; grind)
theorem EMax.uniq {i a j b k q k' q'} (h : EMax i a j b k q) (h' : EMax i a j b k' q') : k = k' ∧ q = q' := by
  obtain ⟨c, h1, h2⟩ := h
  obtain ⟨c', k1, k2⟩ := h'
  have := h1.uniq k1
  subst this
  rcases h2 with ⟨p1, p2, p3⟩ | ⟨p1, p2, p3⟩ <;> rcases k2 with ⟨r1, r2, r3⟩ | ⟨r1, r2, r3⟩ <;> first | omega | exact ⟨by omega, by rw [p3, r3]⟩
theorem EMin.uniq {i a j b k q k' q'} (h : EMin i a j b k q) (h' : EMin i a j b k' q') : k = k' ∧ q = q' := by
  obtain ⟨c, h1, h2⟩ := h
  obtain ⟨c', k1, k2⟩ := h'
  have := h1.uniq k1
  subst this
  rcases h2 with ⟨p1, p2, p3⟩ | ⟨p1, p2, p3⟩ <;> rcases k2 with ⟨r1, r2, r3⟩ | ⟨r1, r2, r3⟩ <;> first | omega | exact ⟨by omega, by rw [p3, r3]⟩

end Go.Proofs.YtclopblgdiahiaaGreatDoor
namespace Go.Proofs.YtclopblgdiahiaaGreatDoor
open Go.RowKit

/-- A list of two bounds. -/
structure Li2 (w : World) (B : Nat) (a0 a1 a2 a3 b0 b1 b2 b3 : Value) : Prop where
  z : B < w.heap.size
  x0 : w.cell? ⟨B, 0, none⟩ = some a0
  x1 : w.cell? ⟨B, 1, none⟩ = some a1
  x2 : w.cell? ⟨B, 2, none⟩ = some a2
  x3 : w.cell? ⟨B, 3, none⟩ = some a3
  y0 : w.cell? ⟨B, 4, none⟩ = some b0
  y1 : w.cell? ⟨B, 5, none⟩ = some b1
  y2 : w.cell? ⟨B, 6, none⟩ = some b2
  y3 : w.cell? ⟨B, 7, none⟩ = some b3
theorem Li2.below {w w' B a0 a1 a2 a3 b0 b1 b2 b3} (h : Li2 w B a0 a1 a2 a3 b0 b1 b2 b3) (hb : Below w.heap.size w w') : Li2 w' B a0 a1 a2 a3 b0 b1 b2 b3 := ⟨Nat.lt_of_lt_of_le h.z hb.size, kCb hb h.x0, kCb hb h.x1, kCb hb h.x2, kCb hb h.x3, kCb hb h.y0, kCb hb h.y1, kCb hb h.y2, kCb hb h.y3⟩
theorem li2_at (w : World) (a0 a1 a2 a3 b0 b1 b2 b3 : Value) (t : TypeId) : Li2 (w.alloc (.cells #[a0, a1, a2, a3, b0, b1, b2, b3] t)) w.heap.size a0 a1 a2 a3 b0 b1 b2 b3 := ⟨by simp, by simp [go_sem], by simp [go_sem], by simp [go_sem], by simp [go_sem], by simp [go_sem], by simp [go_sem], by simp [go_sem], by simp [go_sem]⟩

set_option maxRecDepth 100000 in
set_option maxHeartbeats 4000000 in
theorem allForm1_c {w : World} {i : Int} {s : Bool} {x : Option Addr} {n c : Nat} {f : Nat → Int} {y : Option Addr} {m d : Nat} {g : Nat → Int} {B : Nat} (hB : Bx4 w B (.int .i64 i) (.bool s) (.slice x n c) (.slice y m d)) (h : Rw w x n c f y m d g) (hn : n ≤ 4096) (hm : m ≤ 4096) :
    Calls Tryz.prog 68 #[.slice (some ⟨B, 0, none⟩) 1 1] w fun e w' => e = .returned (.bool (efB i s f n g m)) ∧ Below w.heap.size w w' := by
  have HB := hid hB; have HR := hid h
  obtain ⟨p, hp⟩ : ∃ p, efB i s f n g m = p := ⟨_, rfl⟩
  have HP := hid hp
  rw [hp]
  clear hB h hp
  go_enter Tryz.func68, Tryz.ntmps68
  go_wp2
  go_loopw [7] (fun t wr => ∃ k : Nat, k ≤ 1 ∧ t = .int .i64 k ∧ Hid (Below w.heap.size w wr ∧ (k = 1 → p = true))) (fun t _ => 1 - (intOf t).toNat)
  case atStart => exact ⟨0, by omega, rfl, Below.refl _ _, fun h => by omega⟩
  case round =>
    obtain ⟨k, hk, rfl, HI⟩ := hrel
    have HBr := hid HI.out.1
    by_cases hlt : k < 1
    · obtain rfl : k = 0 := by omega
      obtain ⟨z, x0, x1, x2, x3⟩ := HB.out.below HBr.out
      have c1 := eForm_c (i := i) (s := s) ((HR.out.below HBr.out).alloc (.cells #[.int .i64 i, .bool s, .slice x n c, .slice y m d] 39)) hn hm
      rw [HP.out] at c1
      have C1 := hid c1
      clear c1
      cases p
      · go_wp2_with fail
        refine C1.out.mono ?_
        rintro e w2 ⟨rfl, hb⟩
        have HW := hid ((below_alloc HBr.out _).trans (hb.mono (below_alloc HBr.out _).size))
        clear hb
        go_wp2
        go_ret
        exact ⟨rfl, HW.out⟩
      · go_wp2_with fail
        refine C1.out.mono ?_
        rintro e w2 ⟨rfl, hb⟩
        have HW := hid ((below_alloc HBr.out _).trans (hb.mono (below_alloc HBr.out _).size))
        clear hb
        go_wp2
        go_roundw
        case rel => exact ⟨1, by omega, by go_num, HW.out, by simp⟩
        case measure => simp [intOf]
    · obtain rfl : k = 1 := by omega
      have hpt := HI.out.2 rfl
      subst hpt
      go_wp2
      go_ret
      exact ⟨rfl, HBr.out⟩

set_option maxRecDepth 100000 in
set_option maxHeartbeats 4000000 in
theorem allForm2_c {w : World} {i1 : Int} {s1 : Bool} {x1 : Option Addr} {n1 c1 : Nat} {f1 : Nat → Int} {y1 : Option Addr} {m1 d1 : Nat} {g1 : Nat → Int} {i2 : Int} {s2 : Bool} {x2 : Option Addr} {n2 c2 : Nat} {f2 : Nat → Int} {y2 : Option Addr} {m2 d2 : Nat} {g2 : Nat → Int} {B : Nat} (hB : Li2 w B (.int .i64 i1) (.bool s1) (.slice x1 n1 c1) (.slice y1 m1 d1) (.int .i64 i2) (.bool s2) (.slice x2 n2 c2) (.slice y2 m2 d2)) (h1 : Rw w x1 n1 c1 f1 y1 m1 d1 g1) (h2 : Rw w x2 n2 c2 f2 y2 m2 d2 g2) (hn1 : n1 ≤ 4096) (hm1 : m1 ≤ 4096) (hn2 : n2 ≤ 4096) (hm2 : m2 ≤ 4096) :
    Calls Tryz.prog 68 #[.slice (some ⟨B, 0, none⟩) 2 2] w fun e w' => e = .returned (.bool (efB i1 s1 f1 n1 g1 m1 && efB i2 s2 f2 n2 g2 m2)) ∧ Below w.heap.size w w' := by
  have HB := hid hB; have HR1 := hid h1; have HR2 := hid h2
  obtain ⟨p, hp⟩ : ∃ p, efB i1 s1 f1 n1 g1 m1 = p := ⟨_, rfl⟩
  obtain ⟨q, hq⟩ : ∃ p, efB i2 s2 f2 n2 g2 m2 = p := ⟨_, rfl⟩
  have HP := hid hp; have HQ := hid hq
  rw [hp, hq]
  clear hB h1 h2 hp hq
  go_enter Tryz.func68, Tryz.ntmps68
  go_wp2
  go_loopw [7] (fun t wr => ∃ k : Nat, k ≤ 2 ∧ t = .int .i64 k ∧ Hid (Below w.heap.size w wr ∧ (0 < k → p = true) ∧ (1 < k → q = true))) (fun t _ => 2 - (intOf t).toNat)
  case atStart => exact ⟨0, by omega, rfl, Below.refl _ _, fun h => by omega, fun h => by omega⟩
  case round =>
    obtain ⟨k, hk, rfl, HI⟩ := hrel
    have HBr := hid HI.out.1
    rcases (show k = 0 ∨ k = 1 ∨ k = 2 by omega) with rfl | rfl | rfl
    · obtain ⟨z, e0, e1, e2, e3, _, _, _, _⟩ := HB.out.below HBr.out
      have c1 := eForm_c (i := i1) (s := s1) ((HR1.out.below HBr.out).alloc (.cells #[.int .i64 i1, .bool s1, .slice x1 n1 c1, .slice y1 m1 d1] 39)) hn1 hm1
      rw [HP.out] at c1
      have C1 := hid c1
      clear c1
      cases p
      · go_wp2_with fail
        refine C1.out.mono ?_
        rintro e w2 ⟨rfl, hb⟩
        have HW := hid ((below_alloc HBr.out _).trans (hb.mono (below_alloc HBr.out _).size))
        clear hb
        go_wp2
        go_ret
        exact ⟨rfl, HW.out⟩
      · go_wp2_with fail
        refine C1.out.mono ?_
        rintro e w2 ⟨rfl, hb⟩
        have HW := hid ((below_alloc HBr.out _).trans (hb.mono (below_alloc HBr.out _).size))
        clear hb
        go_wp2
        go_roundw
        case rel => exact ⟨1, by omega, by go_num, HW.out, by simp, by simp⟩
        case measure => simp [intOf]
    · obtain ⟨z, _, _, _, _, e0, e1, e2, e3⟩ := HB.out.below HBr.out
      have hpt := HI.out.2.1 (by omega)
      subst hpt
      have c1 := eForm_c (i := i2) (s := s2) ((HR2.out.below HBr.out).alloc (.cells #[.int .i64 i2, .bool s2, .slice x2 n2 c2, .slice y2 m2 d2] 39)) hn2 hm2
      rw [HQ.out] at c1
      have C1 := hid c1
      clear c1
      cases q
      · go_wp2_with fail
        refine C1.out.mono ?_
        rintro e w2 ⟨rfl, hb⟩
        have HW := hid ((below_alloc HBr.out _).trans (hb.mono (below_alloc HBr.out _).size))
        clear hb
        go_wp2
        go_ret
        exact ⟨rfl, HW.out⟩
      · go_wp2_with fail
        refine C1.out.mono ?_
        rintro e w2 ⟨rfl, hb⟩
        have HW := hid ((below_alloc HBr.out _).trans (hb.mono (below_alloc HBr.out _).size))
        clear hb
        go_wp2
        go_roundw
        case rel => exact ⟨2, by omega, by go_num, HW.out, by simp, by simp⟩
        case measure => simp [intOf]
    · have hpt := HI.out.2.1 (by omega)
      have hqt := HI.out.2.2 (by omega)
      subst hpt hqt
      go_wp2
      go_ret
      exact ⟨rfl, HBr.out⟩

/-- What Cmp answers. -/
def OC (p : Bool) (i : Int) (a : Rat) (j : Int) (b : Rat) (r er : Int) : Prop := p = false ∧ er = 3 ∧ r = 0 ∨ p = true ∧ er = 0 ∧ EOrd r i a j b
theorem OC.uniq {p i a j b r er r' er'} (h : OC p i a j b r er) (k : OC p i a j b r' er') : r' = r ∧ er' = er := by
  rcases h with ⟨h1, h2, h3⟩ | ⟨h1, h2, h3⟩ <;> rcases k with ⟨k1, k2, k3⟩ | ⟨k1, k2, k3⟩
  · omega
  · rw [h1] at k1; cases k1
  · rw [h1] at k1; cases k1
  · exact ⟨k3.uniq h3, by omega⟩

set_option maxRecDepth 100000 in
set_option maxHeartbeats 4000000 in
theorem eCmp_g {w : World} {i1 : Int} {s1 : Bool} {x1 : Option Addr} {n1 c1 : Nat} {f1 : Nat → Int} {y1 : Option Addr} {m1 d1 : Nat} {g1 : Nat → Int} {i2 : Int} {s2 : Bool} {x2 : Option Addr} {n2 c2 : Nat} {f2 : Nat → Int} {y2 : Option Addr} {m2 d2 : Nat} {g2 : Nat → Int} {qa qb : Rat} {p1 p2 : Bool} (h1 : Rw w x1 n1 c1 f1 y1 m1 d1 g1) (h2 : Rw w x2 n2 c2 f2 y2 m2 d2 g2) (hn1 : n1 ≤ 100) (hm1 : m1 ≤ 100) (hn2 : n2 ≤ 100) (hm2 : m2 ≤ 100) (hp1 : efB i1 s1 f1 n1 g1 m1 = p1) (hp2 : efB i2 s2 f2 n2 g2 m2 = p2) (hq1 : p1 = true → En 100 w i1 s1 x1 n1 c1 f1 y1 m1 d1 g1 qa) (hq2 : p2 = true → En 100 w i2 s2 x2 n2 c2 f2 y2 m2 d2 g2 qb) :
    Calls Tryz.prog 23 #[.agg #[.int .i64 i1, .bool s1, .slice x1 n1 c1, .slice y1 m1 d1], .agg #[.int .i64 i2, .bool s2, .slice x2 n2 c2, .slice y2 m2 d2]] w fun e w' => ∃ r er, e = .returned (.tuple #[.int .i64 r, .int .i64 er]) ∧ Below w.heap.size w w' ∧ Hid (OC (p1 && p2) i1 qa i2 qb r er) := by
  have HP1 := hid hp1; have HP2 := hid hp2
  have k1 := (bx4_at w (.int .i64 i1) (.bool s1) (.slice x1 n1 c1) (.slice y1 m1 d1) 39).alloc (.cells #[.int .i64 i2, .bool s2, .slice x2 n2 c2, .slice y2 m2 d2] 39)
  have k2 := bx4_at (w.alloc (.cells #[.int .i64 i1, .bool s1, .slice x1 n1 c1, .slice y1 m1 d1] 39)) (.int .i64 i2) (.bool s2) (.slice x2 n2 c2) (.slice y2 m2 d2) 39
  rw [size_alloc1] at k2
  have k3 := below_alloc (below_alloc (Below.refl w.heap.size w) (.cells #[.int .i64 i1, .bool s1, .slice x1 n1 c1, .slice y1 m1 d1] 39)) (.cells #[.int .i64 i2, .bool s2, .slice x2 n2 c2, .slice y2 m2 d2] 39)
  have HQ1 := hid (fun h => (hq1 h).below k3); have HQ2 := hid (fun h => (hq2 h).below k3); have HR1 := hid (h1.below k3); have HR2 := hid (h2.below k3)
  clear hp1 hp2 hq1 hq2 h1 h2
  go_enter Tryz.func23, Tryz.ntmps23
  go_upto_region 1 with fail
  generalize (w.alloc (.cells #[.int .i64 i1, .bool s1, .slice x1 n1 c1, .slice y1 m1 d1] 39)).alloc (.cells #[.int .i64 i2, .bool s2, .slice x2 n2 c2, .slice y2 m2 d2] 39) = w1 at *
  have HW := hid k3; have BA := hid k1; have BB := hid k2
  clear k1 k2 k3
  obtain ⟨za, a0, a1, a2, a3⟩ := BA.out
  obtain ⟨zb, b0, b1, b2, b3⟩ := BB.out
  go_wp2_with fail
  have cf := fun (t : TypeId) => allForm2_c (li2_at w1 (.int .i64 i1) (.bool s1) (.slice x1 n1 c1) (.slice y1 m1 d1) (.int .i64 i2) (.bool s2) (.slice x2 n2 c2) (.slice y2 m2 d2) t) (HR1.out.alloc _) (HR2.out.alloc _) (by omega) (by omega) (by omega) (by omega)
  rw [HP1.out, HP2.out] at cf
  refine (cf _).mono ?_
  rintro e w2 ⟨rfl, hb⟩
  have HB1 : Hid (Below w1.heap.size w1 w2) := (below_alloc (Below.refl _ _) _).trans (hb.mono (by simp))
  have HB := hid (HW.out.trans (HB1.out.mono HW.out.size))
  clear hb cf za a0 a1 a2 a3 zb b0 b1 b2 b3
  obtain ⟨pp, hp⟩ : ∃ pp, (p1 && p2) = pp := ⟨_, rfl⟩
  have HPP := hid hp
  rw [hp]
  cases pp
  · clear hp
    go_wp2
    go_ret2
    exact ⟨0, 3, rfl, HB.out, .inl ⟨HPP.out, rfl, rfl⟩⟩
  have hpp : p1 = true ∧ p2 = true := by simpa using hp
  have E1 := hid ((HQ1.out hpp.1).below HB1.out); have E2 := hid ((HQ2.out hpp.2).below HB1.out)
  clear hp hpp
  obtain ⟨za, a0, a1, a2, a3⟩ := BA.out.below HB1.out
  obtain ⟨zb, b0, b1, b2, b3⟩ := BB.out.below HB1.out
  by_cases hz : i1 = 0 ∧ i2 = 0
  · obtain ⟨rfl, rfl⟩ := hz
    go_wp2_with fail
    refine (rCmp_n E1.out.rn E2.out.rn (by omega)).mono ?_
    rintro e w3 ⟨r, rfl, hb, hr⟩
    have HB3 := hid (HB.out.trans (hb.mono HB.out.size)); have HRr := hid hr
    clear hb hr
    go_wp2
    go_ret2
    refine ⟨r, 0, rfl, HB3.out, .inr ⟨HPP.out, rfl, ?_⟩⟩
    rcases HRr.out with ⟨j1, j2⟩ | ⟨j1, j2⟩ | ⟨j1, j2⟩
    · exact .inl ⟨j1, .inr ⟨rfl, j2⟩⟩
    · exact .inr (.inl ⟨j1, rfl, j2⟩)
    · exact .inr (.inr ⟨j1, .inr ⟨rfl, j2⟩⟩)
  · have hcase : (i1 != 0) = true ∨ (i1 != 0) = false ∧ (i2 != 0) = true := by
      by_cases h : i1 = 0
      · right; subst h; exact ⟨by simp, by simp; intro h; exact hz ⟨rfl, h⟩⟩
      · left; simp; exact h
    have HEq : Hid (i1 = i2 → qa = qb) := by
      intro h
      have j1 := E1.out.inf; have j2 := E2.out.inf
      rcases j1 with j1 | j1
      · exact absurd ⟨j1, by omega⟩ hz
      · rcases j2 with j2 | j2
        · exact absurd ⟨by omega, j2⟩ hz
        · rw [j1.2, j2.2]
    clear hz
    rcases hcase with hc | ⟨hc, hc2⟩
    all_goals
      go_wp2_with fail
      refine compare_c.mono ?_
      rintro e w3 ⟨r, rfl, rfl, hr⟩
      have HRr := hid hr
      clear hr
      go_wp2
      go_ret2
      refine ⟨r, 0, rfl, HB.out, .inr ⟨HPP.out, rfl, ?_⟩⟩
      rcases HRr.out with ⟨j1, j2⟩ | ⟨j1, j2⟩ | ⟨j1, j2⟩
      · exact .inl ⟨j1, .inl j2⟩
      · exact .inr (.inl ⟨j1, j2, HEq.out j2⟩)
      · exact .inr (.inr ⟨j1, .inl j2⟩)

/-- What a call answers that answers a bound. -/
def OE (p : Bool) (P : Int → Rat → Prop) (w' : World) (i : Int) (s : Bool) (x : Option Addr) (n c : Nat) (f : Nat → Int) (y : Option Addr) (m d : Nat) (g : Nat → Int) (er : Int) : Prop :=
  p = false ∧ er = 3 ∧ (i = 0 ∧ n = 0 ∧ m = 0 ∧ s = false) ∨ p = true ∧ er = 0 ∧ ∃ q, P i q ∧ En 2000 w' i s x n c f y m d g q
theorem OE.below {p P w w' i s x n c f y m d g er} (h : OE p P w i s x n c f y m d g er) (hb : Below w.heap.size w w') : OE p P w' i s x n c f y m d g er := by
  rcases h with h | ⟨h1, h2, q, h3, h4⟩
  · exact .inl h
  · exact .inr ⟨h1, h2, q, h3, h4.below hb⟩
theorem OE.alloc {p P w i s x n c f y m d g er} (h : OE p P w i s x n c f y m d g er) (o : Obj) : OE p P (w.alloc o) i s x n c f y m d g er := h.below (below_alloc (Below.refl _ _) o)
theorem oe_er {p P w i s x n c f y m d g er w' i' s' x' n' c' f' y' m' d' g' er'} (h : OE p P w i s x n c f y m d g er) (k : OE p P w' i' s' x' n' c' f' y' m' d' g' er') : er' = er := by
  rcases h with ⟨h1, h2, _⟩ | ⟨h1, h2, _⟩ <;> rcases k with ⟨k1, k2, _⟩ | ⟨k1, k2, _⟩ <;> first | omega | (rw [h1] at k1; cases k1)
theorem oe_same {p P w i s x n c f y m d g er i' s' x' n' c' f' y' m' d' g' er'} (hu : ∀ i q i' q', P i q → P i' q' → i = i' ∧ q = q') (h : OE p P w i s x n c f y m d g er) (k : OE p P w i' s' x' n' c' f' y' m' d' g' er') :
    Calls Tryz.prog 27 #[.agg #[.int .i64 i, .bool s, .slice x n c, .slice y m d], .agg #[.int .i64 i', .bool s', .slice x' n' c', .slice y' m' d']] w fun e w' => e = .returned (.bool true) ∧ Below w.heap.size w w' := by
  rcases h with ⟨h1, h2, h3, h4, h5, h6⟩ | ⟨h1, h2, q, h3, h4⟩ <;> rcases k with ⟨k1, k2, k3, k4, k5, k6⟩ | ⟨k1, k2, q', k3, k4⟩
  · subst h3 h4 h5 h6 k3 k4 k5 k6
    exact xSame_of (fun W hW => sameNone_c)
  · rw [h1] at k1; cases k1
  · rw [h1] at k1; cases k1
  · obtain ⟨e1, e2⟩ := hu _ _ _ _ h3 k3
    subst e1 e2
    refine xSame_of (fun W hW => (rSame_n (h4.below hW).rn (k4.below hW).rn (by omega) (by omega)).mono ?_)
    rintro e w' ⟨rfl, hb⟩
    exact ⟨by simp, hb⟩

set_option maxRecDepth 100000 in
set_option maxHeartbeats 4000000 in
theorem eMax_g {w : World} {i1 : Int} {s1 : Bool} {x1 : Option Addr} {n1 c1 : Nat} {f1 : Nat → Int} {y1 : Option Addr} {m1 d1 : Nat} {g1 : Nat → Int} {i2 : Int} {s2 : Bool} {x2 : Option Addr} {n2 c2 : Nat} {f2 : Nat → Int} {y2 : Option Addr} {m2 d2 : Nat} {g2 : Nat → Int} {qa qb : Rat} {p1 p2 : Bool} (h1 : Rw w x1 n1 c1 f1 y1 m1 d1 g1) (h2 : Rw w x2 n2 c2 f2 y2 m2 d2 g2) (hn1 : n1 ≤ 100) (hm1 : m1 ≤ 100) (hn2 : n2 ≤ 100) (hm2 : m2 ≤ 100) (hp1 : efB i1 s1 f1 n1 g1 m1 = p1) (hp2 : efB i2 s2 f2 n2 g2 m2 = p2) (hq1 : p1 = true → En 100 w i1 s1 x1 n1 c1 f1 y1 m1 d1 g1 qa) (hq2 : p2 = true → En 100 w i2 s2 x2 n2 c2 f2 y2 m2 d2 g2 qb) :
    Calls Tryz.prog 60 #[.agg #[.int .i64 i1, .bool s1, .slice x1 n1 c1, .slice y1 m1 d1], .agg #[.int .i64 i2, .bool s2, .slice x2 n2 c2, .slice y2 m2 d2]] w fun e w' => ∃ i s x n c f y m d g er, e = .returned (.tuple #[.agg #[.int .i64 i, .bool s, .slice x n c, .slice y m d], .int .i64 er]) ∧ Below w.heap.size w w' ∧ Hid (OE (p1 && p2) (EMax i1 qa i2 qb) w' i s x n c f y m d g er) := by
  have k1 := ((bx4_at w (.int .i64 i1) (.bool s1) (.slice x1 n1 c1) (.slice y1 m1 d1) 39).alloc (.cells #[.int .i64 i2, .bool s2, .slice x2 n2 c2, .slice y2 m2 d2] 39)).alloc (.cells #[.int .i64 0, .bool false, .slice none 0 0, .slice none 0 0] 39)
  have k2 := (bx4_at (w.alloc (.cells #[.int .i64 i1, .bool s1, .slice x1 n1 c1, .slice y1 m1 d1] 39)) (.int .i64 i2) (.bool s2) (.slice x2 n2 c2) (.slice y2 m2 d2) 39).alloc (.cells #[.int .i64 0, .bool false, .slice none 0 0, .slice none 0 0] 39)
  rw [size_alloc1] at k2
  have k5 := ob4_new ((w.alloc (.cells #[.int .i64 i1, .bool s1, .slice x1 n1 c1, .slice y1 m1 d1] 39)).alloc (.cells #[.int .i64 i2, .bool s2, .slice x2 n2 c2, .slice y2 m2 d2] 39)) 39
  rw [size_alloc1, size_alloc1] at k5
  have k3 := below_alloc (below_alloc (below_alloc (Below.refl w.heap.size w) (.cells #[.int .i64 i1, .bool s1, .slice x1 n1 c1, .slice y1 m1 d1] 39)) (.cells #[.int .i64 i2, .bool s2, .slice x2 n2 c2, .slice y2 m2 d2] 39)) (.cells #[.int .i64 0, .bool false, .slice none 0 0, .slice none 0 0] 39)
  have HP1 := hid hp1; have HP2 := hid hp2; have HQ1 := hid (fun h => (hq1 h).below k3); have HQ2 := hid (fun h => (hq2 h).below k3); have HR1 := hid (h1.below k3); have HR2 := hid (h2.below k3)
  clear hp1 hp2 hq1 hq2 h1 h2
  go_enter Tryz.func60, Tryz.ntmps60
  go_wp2_with fail
  generalize ((w.alloc (.cells #[.int .i64 i1, .bool s1, .slice x1 n1 c1, .slice y1 m1 d1] 39)).alloc (.cells #[.int .i64 i2, .bool s2, .slice x2 n2 c2, .slice y2 m2 d2] 39)).alloc (.cells #[.int .i64 0, .bool false, .slice none 0 0, .slice none 0 0] 39) = w1 at *
  have HW := hid k3; have OB := hid k5; have BA := hid k1; have BB := hid k2
  clear k1 k2 k3 k5
  refine (eCmp_g HR1.out HR2.out hn1 hm1 hn2 hm2 HP1.out HP2.out HQ1.out HQ2.out).mono ?_
  rintro e w2 ⟨r, er, rfl, hb, HC⟩
  have HB1 := hid hb
  have HB := hid (HW.out.trans (HB1.out.mono HW.out.size)); have OB2 := hid (OB.out.below hb)
  have hoc := HC.out
  clear hb HC
  rcases hoc with ⟨hp, rfl, rfl⟩ | ⟨hp, rfl, hor⟩
  · have HPF := hid hp
    clear hp
    obtain ⟨hz, z0, z1, z2, z3, zf⟩ := OB2.out
    go_wp2
    exact bodyPost_ret (v := .tuple #[.agg #[.int .i64 0, .bool false, .slice none 0 0, .slice none 0 0], .int .i64 3]) (by simp [results, Tryz.results60, go_sem, z0, z1, z2, z3]) rfl ⟨0, false, none, 0, 0, fun _ => 0, none, 0, 0, fun _ => 0, 3, rfl, below_st4 HB.out (by omega), .inl ⟨HPF.out, rfl, rfl, rfl, rfl, rfl⟩⟩
  have hpp : p1 = true ∧ p2 = true := by simpa using hp
  have E1 := hid ((HQ1.out hpp.1).below HB1.out); have E2 := hid ((HQ2.out hpp.2).below HB1.out); have HO := hid hor; have HPP := hid hp
  clear hp hpp hor
  obtain ⟨za, a0, a1, a2, a3⟩ := BA.out.below HB1.out
  obtain ⟨zb, b0, b1, b2, b3⟩ := BB.out.below HB1.out
  by_cases hc : r < 0
  · have hd : decide (r < 0) = true := decide_eq_true hc
    have HC := hid hc
    clear hc
    go_wp2_with fail
    refine (eCopy_c E2.out (by omega)).mono ?_
    rintro e w3 ⟨s3, x3, n3, c3, f3, y3, m3, d3, g3, rfl, hb, he⟩
    have HB3 := hid (HB.out.trans (hb.mono HB.out.size)); have OB3 := hid (OB2.out.below hb); have E3 := hid he
    clear hb he za a0 a1 a2 a3 zb b0 b1 b2 b3
    obtain ⟨hz, z0, z1, z2, z3, zf⟩ := OB3.out
    go_wp2
    exact bodyPost_ret (v := .tuple #[.agg #[.int .i64 i2, .bool s3, .slice x3 n3 c3, .slice y3 m3 d3], .int .i64 0]) (by simp [results, Tryz.results60, go_sem, z0, z1, z2, z3]) rfl ⟨i2, s3, x3, n3, c3, f3, y3, m3, d3, g3, 0, rfl, below_st4 HB3.out (by omega), .inr ⟨HPP.out, rfl, qb, ⟨r, HO.out, .inl ⟨by have := HC.out; omega, rfl, rfl⟩⟩, ⟨OB3.out.rn (E3.out.rn.mono (by omega)), E3.out.inf⟩⟩⟩
  · have hd : decide (r < 0) = false := decide_eq_false hc
    have HC := hid hc
    clear hc
    go_wp2_with fail
    refine (eCopy_c E1.out (by omega)).mono ?_
    rintro e w3 ⟨s3, x3, n3, c3, f3, y3, m3, d3, g3, rfl, hb, he⟩
    have HB3 := hid (HB.out.trans (hb.mono HB.out.size)); have OB3 := hid (OB2.out.below hb); have E3 := hid he
    clear hb he za a0 a1 a2 a3 zb b0 b1 b2 b3
    obtain ⟨hz, z0, z1, z2, z3, zf⟩ := OB3.out
    go_wp2
    exact bodyPost_ret (v := .tuple #[.agg #[.int .i64 i1, .bool s3, .slice x3 n3 c3, .slice y3 m3 d3], .int .i64 0]) (by simp [results, Tryz.results60, go_sem, z0, z1, z2, z3]) rfl ⟨i1, s3, x3, n3, c3, f3, y3, m3, d3, g3, 0, rfl, below_st4 HB3.out (by omega), .inr ⟨HPP.out, rfl, qa, ⟨r, HO.out, .inr ⟨by have := HC.out; omega, rfl, rfl⟩⟩, ⟨OB3.out.rn (E3.out.rn.mono (by omega)), E3.out.inf⟩⟩⟩

set_option maxRecDepth 100000 in
set_option maxHeartbeats 4000000 in
theorem eMin_g {w : World} {i1 : Int} {s1 : Bool} {x1 : Option Addr} {n1 c1 : Nat} {f1 : Nat → Int} {y1 : Option Addr} {m1 d1 : Nat} {g1 : Nat → Int} {i2 : Int} {s2 : Bool} {x2 : Option Addr} {n2 c2 : Nat} {f2 : Nat → Int} {y2 : Option Addr} {m2 d2 : Nat} {g2 : Nat → Int} {qa qb : Rat} {p1 p2 : Bool} (h1 : Rw w x1 n1 c1 f1 y1 m1 d1 g1) (h2 : Rw w x2 n2 c2 f2 y2 m2 d2 g2) (hn1 : n1 ≤ 100) (hm1 : m1 ≤ 100) (hn2 : n2 ≤ 100) (hm2 : m2 ≤ 100) (hp1 : efB i1 s1 f1 n1 g1 m1 = p1) (hp2 : efB i2 s2 f2 n2 g2 m2 = p2) (hq1 : p1 = true → En 100 w i1 s1 x1 n1 c1 f1 y1 m1 d1 g1 qa) (hq2 : p2 = true → En 100 w i2 s2 x2 n2 c2 f2 y2 m2 d2 g2 qb) :
    Calls Tryz.prog 73 #[.agg #[.int .i64 i1, .bool s1, .slice x1 n1 c1, .slice y1 m1 d1], .agg #[.int .i64 i2, .bool s2, .slice x2 n2 c2, .slice y2 m2 d2]] w fun e w' => ∃ i s x n c f y m d g er, e = .returned (.tuple #[.agg #[.int .i64 i, .bool s, .slice x n c, .slice y m d], .int .i64 er]) ∧ Below w.heap.size w w' ∧ Hid (OE (p1 && p2) (EMin i1 qa i2 qb) w' i s x n c f y m d g er) := by
  have k1 := ((bx4_at w (.int .i64 i1) (.bool s1) (.slice x1 n1 c1) (.slice y1 m1 d1) 39).alloc (.cells #[.int .i64 i2, .bool s2, .slice x2 n2 c2, .slice y2 m2 d2] 39)).alloc (.cells #[.int .i64 0, .bool false, .slice none 0 0, .slice none 0 0] 39)
  have k2 := (bx4_at (w.alloc (.cells #[.int .i64 i1, .bool s1, .slice x1 n1 c1, .slice y1 m1 d1] 39)) (.int .i64 i2) (.bool s2) (.slice x2 n2 c2) (.slice y2 m2 d2) 39).alloc (.cells #[.int .i64 0, .bool false, .slice none 0 0, .slice none 0 0] 39)
  rw [size_alloc1] at k2
  have k5 := ob4_new ((w.alloc (.cells #[.int .i64 i1, .bool s1, .slice x1 n1 c1, .slice y1 m1 d1] 39)).alloc (.cells #[.int .i64 i2, .bool s2, .slice x2 n2 c2, .slice y2 m2 d2] 39)) 39
  rw [size_alloc1, size_alloc1] at k5
  have k3 := below_alloc (below_alloc (below_alloc (Below.refl w.heap.size w) (.cells #[.int .i64 i1, .bool s1, .slice x1 n1 c1, .slice y1 m1 d1] 39)) (.cells #[.int .i64 i2, .bool s2, .slice x2 n2 c2, .slice y2 m2 d2] 39)) (.cells #[.int .i64 0, .bool false, .slice none 0 0, .slice none 0 0] 39)
  have HP1 := hid hp1; have HP2 := hid hp2; have HQ1 := hid (fun h => (hq1 h).below k3); have HQ2 := hid (fun h => (hq2 h).below k3); have HR1 := hid (h1.below k3); have HR2 := hid (h2.below k3)
  clear hp1 hp2 hq1 hq2 h1 h2
  go_enter Tryz.func73, Tryz.ntmps73
  go_wp2_with fail
  generalize ((w.alloc (.cells #[.int .i64 i1, .bool s1, .slice x1 n1 c1, .slice y1 m1 d1] 39)).alloc (.cells #[.int .i64 i2, .bool s2, .slice x2 n2 c2, .slice y2 m2 d2] 39)).alloc (.cells #[.int .i64 0, .bool false, .slice none 0 0, .slice none 0 0] 39) = w1 at *
  have HW := hid k3; have OB := hid k5; have BA := hid k1; have BB := hid k2
  clear k1 k2 k3 k5
  refine (eCmp_g HR1.out HR2.out hn1 hm1 hn2 hm2 HP1.out HP2.out HQ1.out HQ2.out).mono ?_
  rintro e w2 ⟨r, er, rfl, hb, HC⟩
  have HB1 := hid hb
  have HB := hid (HW.out.trans (HB1.out.mono HW.out.size)); have OB2 := hid (OB.out.below hb)
  have hoc := HC.out
  clear hb HC
  rcases hoc with ⟨hp, rfl, rfl⟩ | ⟨hp, rfl, hor⟩
  · have HPF := hid hp
    clear hp
    obtain ⟨hz, z0, z1, z2, z3, zf⟩ := OB2.out
    go_wp2
    exact bodyPost_ret (v := .tuple #[.agg #[.int .i64 0, .bool false, .slice none 0 0, .slice none 0 0], .int .i64 3]) (by simp [results, Tryz.results73, go_sem, z0, z1, z2, z3]) rfl ⟨0, false, none, 0, 0, fun _ => 0, none, 0, 0, fun _ => 0, 3, rfl, below_st4 HB.out (by omega), .inl ⟨HPF.out, rfl, rfl, rfl, rfl, rfl⟩⟩
  have hpp : p1 = true ∧ p2 = true := by simpa using hp
  have E1 := hid ((HQ1.out hpp.1).below HB1.out); have E2 := hid ((HQ2.out hpp.2).below HB1.out); have HO := hid hor; have HPP := hid hp
  clear hp hpp hor
  obtain ⟨za, a0, a1, a2, a3⟩ := BA.out.below HB1.out
  obtain ⟨zb, b0, b1, b2, b3⟩ := BB.out.below HB1.out
  by_cases hc : 0 < r
  · have hd : decide (0 < r) = true := decide_eq_true hc
    have HC := hid hc
    clear hc
    go_wp2_with fail
    refine (eCopy_c E2.out (by omega)).mono ?_
    rintro e w3 ⟨s3, x3, n3, c3, f3, y3, m3, d3, g3, rfl, hb, he⟩
    have HB3 := hid (HB.out.trans (hb.mono HB.out.size)); have OB3 := hid (OB2.out.below hb); have E3 := hid he
    clear hb he za a0 a1 a2 a3 zb b0 b1 b2 b3
    obtain ⟨hz, z0, z1, z2, z3, zf⟩ := OB3.out
    go_wp2
    exact bodyPost_ret (v := .tuple #[.agg #[.int .i64 i2, .bool s3, .slice x3 n3 c3, .slice y3 m3 d3], .int .i64 0]) (by simp [results, Tryz.results73, go_sem, z0, z1, z2, z3]) rfl ⟨i2, s3, x3, n3, c3, f3, y3, m3, d3, g3, 0, rfl, below_st4 HB3.out (by omega), .inr ⟨HPP.out, rfl, qb, ⟨r, HO.out, .inl ⟨by have := HC.out; omega, rfl, rfl⟩⟩, ⟨OB3.out.rn (E3.out.rn.mono (by omega)), E3.out.inf⟩⟩⟩
  · have hd : decide (0 < r) = false := decide_eq_false hc
    have HC := hid hc
    clear hc
    go_wp2_with fail
    refine (eCopy_c E1.out (by omega)).mono ?_
    rintro e w3 ⟨s3, x3, n3, c3, f3, y3, m3, d3, g3, rfl, hb, he⟩
    have HB3 := hid (HB.out.trans (hb.mono HB.out.size)); have OB3 := hid (OB2.out.below hb); have E3 := hid he
    clear hb he za a0 a1 a2 a3 zb b0 b1 b2 b3
    obtain ⟨hz, z0, z1, z2, z3, zf⟩ := OB3.out
    go_wp2
    exact bodyPost_ret (v := .tuple #[.agg #[.int .i64 i1, .bool s3, .slice x3 n3 c3, .slice y3 m3 d3], .int .i64 0]) (by simp [results, Tryz.results73, go_sem, z0, z1, z2, z3]) rfl ⟨i1, s3, x3, n3, c3, f3, y3, m3, d3, g3, 0, rfl, below_st4 HB3.out (by omega), .inr ⟨HPP.out, rfl, qa, ⟨r, HO.out, .inr ⟨by have := HC.out; omega, rfl, rfl⟩⟩, ⟨OB3.out.rn (E3.out.rn.mono (by omega)), E3.out.inf⟩⟩⟩
end Go.Proofs.YtclopblgdiahiaaGreatDoor
