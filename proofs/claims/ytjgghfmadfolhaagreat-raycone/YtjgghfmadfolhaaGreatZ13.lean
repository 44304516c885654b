/-
  The walk of the law RayCone (written by makers/ra9.py).
-/
import Derived.Test.YtjgghfmadfolhaaGreatZ12
namespace Go.Proofs.YtjgghfmadfolhaaGreat
open Go.RowKit

/-- What is handed to RayCone, once it is light. -/
structure Cn13 (w : World) (M : Mo) (ax : Option Addr) (kx : Nat) (Y : Nat → Nm) (ao : Option Addr) (ko : Nat) (X : Nat → Nm) (bx : Option Addr) (jx : Nat) (V : Nat → Nm) (bo : Option Addr) (jo : Nat) (U : Nat → Nm) : Prop where
  x : MoX w M
  n : MoN M
  k : M.ck ≤ 64 → M.rk ≤ 64 → MoK 6 M
  hy : Rl w ax kx Y
  hx : Rl w ao ko X
  hv : Rl w bx jx V
  hu : Rl w bo jo U
  sy : Sh kx Y
  sx : Sh ko X
  sv : Sh jx V
  su : Sh jo U
theorem twinTm_c {w : World} {M : Mo} (hX : MoX w M) (hN : MoN M) (hk : M.ck ≤ 64 → M.rk ≤ 64 → MoK 6 M) : Calls Tryz.prog 13 #[M.val] w fun e w' => ∃ (vm : Value) (M' : Mo), e = .returned vm ∧ Below w.heap.size w w' ∧ Hid (vm = M'.val ∧ Tm w' M M') :=
  (twin_w (K := 6) hX hN hk (by decide)).mono fun e w' ⟨M', h1, h2, h3, h4, h5, h6⟩ => ⟨M'.val, M', h1, h2, hid ⟨rfl, h3, h4, h5, h6⟩⟩
theorem twinsTx_c {w : World} {ao : Option Addr} {k cap : Nat} {X : Nat → Nm} (h : Rl w ao k X) (hs : Sh k X) : Calls Tryz.prog 14 #[.slice ao k cap] w fun e w' => ∃ (a : Option Addr) (c : Nat) (X' : Nat → Nm), e = .returned (.slice a k c) ∧ Below w.heap.size w w' ∧ (k ≤ c ∧ c ≤ 9223372036854775807) ∧ Hid (Tx w' a k X X') :=
  (twins_c h (by have := hs.1; omega) (fun j hj => by have := hs.2 j hj; omega)).mono fun e w' ⟨a, c, X', h1, h2, h3, h4⟩ => ⟨a, c, X', h1, h2, h3, hid h4.out⟩
theorem twinRay_c {w : World} {ax : Option Addr} {kx capx : Nat} {Y : Nat → Nm} {ao : Option Addr} {k cap : Nat} {X : Nat → Nm} (hy : Rl w ax kx Y) (sy : Sh kx Y) (hx : Rl w ao k X) (sx : Sh k X) : Calls Tryz.prog 17 #[.agg #[.slice ax kx capx, .slice ao k cap]] w fun e w' => ∃ (b : Option Addr) (c1 : Nat) (Y' : Nat → Nm) (b2 : Option Addr) (c2 : Nat) (X' : Nat → Nm), e = .returned (.agg #[.slice b kx c1, .slice b2 k c2]) ∧ Below w.heap.size w w' ∧ Hid (Tx w' b kx Y Y' ∧ Tx w' b2 k X X') :=
  (twin13_c hy hx (by have := sy.1; omega) (by have := sx.1; omega) (fun j hj => by have := sy.2 j hj; omega) (fun j hj => by have := sx.2 j hj; omega)).mono fun e w' ⟨bx, cx, Y', bo, co, X', h1, h2, _, h4⟩ => ⟨bx, cx, Y', bo, co, X', h1, h2, hid ⟨h4.out.1, h4.out.2⟩⟩
set_option maxRecDepth 100000 in
set_option maxHeartbeats 8000000 in
theorem rayCone_c {w : World} {M : Mo} {ax : Option Addr} {kx cx : Nat} {Y : Nat → Nm} {ao : Option Addr} {ko co : Nat} {X : Nat → Nm} {bx : Option Addr} {jx dx : Nat} {V : Nat → Nm} {bo : Option Addr} {jo eo : Nat} {U : Nat → Nm} (hX : MoX w M) (hN : MoN M) (hy : Rr w ax kx Y) (hx : Rr w ao ko X) (hv : Rr w bx jx V) (hu : Rr w bo jo U) (hkx : kx ≤ 9223372036854775807) (hko : ko ≤ 9223372036854775807) (hjx : jx ≤ 9223372036854775807) (hjo : jo ≤ 9223372036854775807) :
    Calls Tryz.prog 4 #[M.val, .agg #[.slice ax kx cx, .slice ao ko co], .agg #[.slice bx jx dx, .slice bo jo eo]] w fun e w' => e = .returned (.bool true) ∧ Below w.heap.size w w' := by
  obtain ⟨lb, hlb⟩ : ∃ t, lgM 6 M = t := ⟨_, rfl⟩
  obtain ⟨la, hla⟩ : ∃ t, (lgL 6 kx Y && lgL 6 ko X) = t := ⟨_, rfl⟩
  obtain ⟨lc, hlc⟩ : ∃ t, (lgL 6 jx V && lgL 6 jo U) = t := ⟨_, rfl⟩
  have CL := hid (fun w' (hw : Below w.heap.size w w') => mLight_c (w := w') (K := 6) (hX.below hw).light.1 (hX.below hw).light.2)
  rw [hlb] at CL
  have CA := hid (fun w' (hw : Below w.heap.size w w') => light13_c (capx := cx) (cap := co) 6 (hy.below hw) (hx.below hw) hkx hko)
  rw [hla] at CA
  have CB := hid (fun w' (hw : Below w.heap.size w w') => light13_c (capx := dx) (cap := eo) 6 (hv.below hw) (hu.below hw) hjx hjo)
  rw [hlc] at CB
  obtain ⟨N, hN'⟩ : ∃ N, N = M := ⟨_, rfl⟩
  have HC : Hid (lb = true → la = true → lc = true → Cn13 w N ax kx Y ao ko X bx jx V bo jo U) := fun e1 e2 e3 => by
    subst hN'
    subst e1; subst e2; subst e3
    simp only [Bool.and_eq_true] at hla hlc
    have q1 := hla.1; have q2 := hla.2; have q3 := hlc.1; have q4 := hlc.2
    refine ⟨hX, hN, lgM_k hlb, ?_, ?_, ?_, ?_, lgL_sh q1, lgL_sh q2, lgL_sh q3, lgL_sh q4⟩
    · simp only [lgL, Bool.and_eq_true] at q1; exact hy.rl q1.2 (by decide)
    · simp only [lgL, Bool.and_eq_true] at q2; exact hx.rl q2.2 (by decide)
    · simp only [lgL, Bool.and_eq_true] at q3; exact hv.rl q3.2 (by decide)
    · simp only [lgL, Bool.and_eq_true] at q4; exact hu.rl q4.2 (by decide)
  clear hX hN hy hx hv hu hlb hla hlc hkx hko hjx hjo
  obtain ⟨⟨s, x, n, c, f, y, m, d, g⟩, ca, ck, cc, C, ra, rk, rc, R⟩ := M
  have hNv : Hid (N.val = .agg #[.bool s, .slice x n c, .slice y m d, .slice ca ck cc, .slice ra rk rc]) := by rw [hN']; exact rfl
  clear hN'
  replace CL : Hid (∀ w', Below w.heap.size w w' → Calls Tryz.prog 6 #[.agg #[.bool s, .slice x n c, .slice y m d, .slice ca ck cc, .slice ra rk rc], .int .i64 6] w' fun e w2 => e = .returned (.bool lb) ∧ Below w'.heap.size w' w2) := CL
  replace CA : Hid (∀ w', Below w.heap.size w w' → Calls Tryz.prog 7 #[.agg #[.slice ax kx cx, .slice ao ko co], .int .i64 6] w' fun e w2 => e = .returned (.bool la) ∧ Below w'.heap.size w' w2) := CA
  replace CB : Hid (∀ w', Below w.heap.size w w' → Calls Tryz.prog 7 #[.agg #[.slice bx jx dx, .slice bo jo eo], .int .i64 6] w' fun e w2 => e = .returned (.bool lc) ∧ Below w'.heap.size w' w2) := CB
  show Calls Tryz.prog 4 #[.agg #[.bool s, .slice x n c, .slice y m d, .slice ca ck cc, .slice ra rk rc], .agg #[.slice ax kx cx, .slice ao ko co], .agg #[.slice bx jx dx, .slice bo jo eo]] w _
  have HB := hid (below_alloc (below_alloc (below_alloc (Below.refl w.heap.size w) (.cells #[.bool s, .slice x n c, .slice y m d, .slice ca ck cc, .slice ra rk rc] 28)) (.cells #[.slice ax kx cx, .slice ao ko co] 31)) (.cells #[.slice bx jx dx, .slice bo jo eo] 31))
  have BM : Hid (Bk (((w.alloc (.cells #[.bool s, .slice x n c, .slice y m d, .slice ca ck cc, .slice ra rk rc] 28)).alloc (.cells #[.slice ax kx cx, .slice ao ko co] 31)).alloc (.cells #[.slice bx jx dx, .slice bo jo eo] 31)) w.heap.size [.bool s, .slice x n c, .slice y m d, .slice ca ck cc, .slice ra rk rc] 28) := ((bk_new w [.bool s, .slice x n c, .slice y m d, .slice ca ck cc, .slice ra rk rc] 28).below (below_alloc (Below.refl _ _) _)).below (below_alloc (Below.refl _ _) _)
  have BA : Hid (Bk (((w.alloc (.cells #[.bool s, .slice x n c, .slice y m d, .slice ca ck cc, .slice ra rk rc] 28)).alloc (.cells #[.slice ax kx cx, .slice ao ko co] 31)).alloc (.cells #[.slice bx jx dx, .slice bo jo eo] 31)) (w.heap.size + 1) [.slice ax kx cx, .slice ao ko co] 31) := by
    have := (bk_new (w.alloc (.cells #[.bool s, .slice x n c, .slice y m d, .slice ca ck cc, .slice ra rk rc] 28)) [.slice ax kx cx, .slice ao ko co] 31).below (below_alloc (Below.refl _ _) (.cells #[.slice bx jx dx, .slice bo jo eo] 31))
    rw [size_alloc1] at this; exact this
  have BB : Hid (Bk (((w.alloc (.cells #[.bool s, .slice x n c, .slice y m d, .slice ca ck cc, .slice ra rk rc] 28)).alloc (.cells #[.slice ax kx cx, .slice ao ko co] 31)).alloc (.cells #[.slice bx jx dx, .slice bo jo eo] 31)) (w.heap.size + 1 + 1) [.slice bx jx dx, .slice bo jo eo] 31) := by
    have := bk_new ((w.alloc (.cells #[.bool s, .slice x n c, .slice y m d, .slice ca ck cc, .slice ra rk rc] 28)).alloc (.cells #[.slice ax kx cx, .slice ao ko co] 31)) [.slice bx jx dx, .slice bo jo eo] 31
    rw [size_alloc1, size_alloc1] at this; exact this
  go_enter Tryz.func4, Tryz.ntmps4
  go_wp2_with fail
  generalize (((w.alloc (.cells #[.bool s, .slice x n c, .slice y m d, .slice ca ck cc, .slice ra rk rc] 28)).alloc (.cells #[.slice ax kx cx, .slice ao ko co] 31)).alloc (.cells #[.slice bx jx dx, .slice bo jo eo] 31)) = v0 at *
  refine (awake13_c _).mono ?_
  rintro e v1 ⟨rfl, hb⟩
  replace HB := hid (HB.out.trans (hb.mono HB.out.size)); replace BM := hid (BM.out.below hb); replace BA := hid (BA.out.below hb); replace BB := hid (BB.out.below hb)
  clear hb
  have r0 := BM.out.cell (j := 0) rfl
  have r1 := BM.out.cell (j := 1) rfl
  have r2 := BM.out.cell (j := 2) rfl
  have r3 := BM.out.cell (j := 3) rfl
  have r4 := BM.out.cell (j := 4) rfl
  go_wp2_with fail
  clear r0 r1 r2 r3 r4
  refine (CL.out _ HB.out).mono ?_
  rintro e v2 ⟨rfl, hb⟩
  replace HB := hid (HB.out.trans (hb.mono HB.out.size)); replace BM := hid (BM.out.below hb); replace BA := hid (BA.out.below hb); replace BB := hid (BB.out.below hb)
  clear hb
  clear CL
  cases lb
  · go_wp2
    go_ret
    exact ⟨rfl, HB.out⟩
  have a0 := BA.out.cell (j := 0) rfl
  have a1 := BA.out.cell (j := 1) rfl
  go_wp2_with fail
  clear a0 a1
  refine (CA.out _ HB.out).mono ?_
  rintro e v3 ⟨rfl, hb⟩
  replace HB := hid (HB.out.trans (hb.mono HB.out.size)); replace BM := hid (BM.out.below hb); replace BA := hid (BA.out.below hb); replace BB := hid (BB.out.below hb)
  clear hb
  clear CA
  cases la
  · go_wp2
    go_ret
    exact ⟨rfl, HB.out⟩
  have b0 := BB.out.cell (j := 0) rfl
  have b1 := BB.out.cell (j := 1) rfl
  go_wp2_with fail
  clear b0 b1
  refine (CB.out _ HB.out).mono ?_
  rintro e v4 ⟨rfl, hb⟩
  replace HB := hid (HB.out.trans (hb.mono HB.out.size)); replace BM := hid (BM.out.below hb); replace BA := hid (BA.out.below hb); replace BB := hid (BB.out.below hb)
  clear hb
  clear CB
  cases lc
  · go_wp2
    go_ret
    exact ⟨rfl, HB.out⟩
  replace HC := hid (HC.out (by first | rfl | trivial) (by first | rfl | trivial) (by first | rfl | trivial))
  have T1 : Hid (∀ W, Below w.heap.size w W → Calls Tryz.prog 13 #[.agg #[.bool s, .slice x n c, .slice y m d, .slice ca ck cc, .slice ra rk rc]] W fun e w' => ∃ (vm : Value) (M' : Mo), e = .returned vm ∧ Below W.heap.size W w' ∧ Hid (vm = M'.val ∧ Tm w' N M')) := fun W hW => by
    have := twinTm_c (HC.out.x.below hW) HC.out.n HC.out.k
    rw [hNv.out] at this
    exact this
  have TX := hid (fun W (hW : Below w.heap.size w W) => twinsTx_c (cap := co) (HC.out.hx.below hW) HC.out.sx)
  have TU := hid (fun W (hW : Below w.heap.size w W) => twinsTx_c (cap := eo) (HC.out.hu.below hW) HC.out.su)
  have TY := hid (fun W (hW : Below w.heap.size w W) => twinsTx_c (cap := cx) (HC.out.hy.below hW) HC.out.sy)
  have TV := hid (fun W (hW : Below w.heap.size w W) => twinsTx_c (cap := dx) (HC.out.hv.below hW) HC.out.sv)
  have RX : Hid (∀ W vm M' a X' c, (vm = M'.val ∧ Tm W N M') → Tx W a ko X X' → Calls Tryz.prog 12 #[vm, .slice a ko c] W fun e w' => e = .returned (.tuple #[.bool (rcM N ko X), .int .i64 (chkE N)]) ∧ Below W.heap.size W w') := fun W vm M' a X' c h1 h2 => by rw [h1.1]; exact recTw_c h1.2 HC.out.n h2 HC.out.sx
  have RU : Hid (∀ W vm M' a X' c, (vm = M'.val ∧ Tm W N M') → Tx W a jo U X' → Calls Tryz.prog 12 #[vm, .slice a jo c] W fun e w' => e = .returned (.tuple #[.bool (rcM N jo U), .int .i64 (chkE N)]) ∧ Below W.heap.size W w') := fun W vm M' a X' c h1 h2 => by rw [h1.1]; exact recTw_c h1.2 HC.out.n h2 HC.out.su
  obtain ⟨r1, hr1⟩ : ∃ t, rcM N ko X = t := ⟨_, rfl⟩
  obtain ⟨r2, hr2⟩ : ∃ t, rcM N jo U = t := ⟨_, rfl⟩
  obtain ⟨ec, hec⟩ : ∃ t, chkE N = t := ⟨_, rfl⟩
  rw [hr1, hec] at RX
  rw [hr2, hec] at RU
  replace hr1 := hid hr1
  replace hr2 := hid hr2
  replace hec := hid hec
  go_upto_region 5 with fail
  have r0 := BM.out.cell (j := 0) rfl
  have r1 := BM.out.cell (j := 1) rfl
  have r2 := BM.out.cell (j := 2) rfl
  have r3 := BM.out.cell (j := 3) rfl
  have r4 := BM.out.cell (j := 4) rfl
  have a0 := BA.out.cell (j := 0) rfl
  have a1 := BA.out.cell (j := 1) rfl
  have b0 := BB.out.cell (j := 0) rfl
  have b1 := BB.out.cell (j := 1) rfl
  have T1n := hid (fun W (hW : Below v4.heap.size v4 W) => T1.out W (HB.out.trans (hW.mono HB.out.size)))
  have TXn := hid (fun W (hW : Below v4.heap.size v4 W) => TX.out W (HB.out.trans (hW.mono HB.out.size)))
  go_region_held3 (fun w' => w'.cell? ⟨w.heap.size, 0, none⟩ = some (.bool s) ∧ w'.cell? ⟨w.heap.size, 1, none⟩ = some (.slice x n c) ∧ w'.cell? ⟨w.heap.size, 2, none⟩ = some (.slice y m d) ∧ w'.cell? ⟨w.heap.size, 3, none⟩ = some (.slice ca ck cc) ∧ w'.cell? ⟨w.heap.size, 4, none⟩ = some (.slice ra rk rc) ∧ w'.cell? ⟨w.heap.size + 1, 0, none⟩ = some (.slice ax kx cx) ∧ w'.cell? ⟨w.heap.size + 1, 1, none⟩ = some (.slice ao ko co) ∧ w'.cell? ⟨w.heap.size + 1 + 1, 0, none⟩ = some (.slice bx jx dx) ∧ w'.cell? ⟨w.heap.size + 1 + 1, 1, none⟩ = some (.slice bo jo eo))
    (refine ⟨?_, ?_, ?_, ?_, ?_, ?_, ?_, ?_, ?_⟩ <;> repeat (with_reducible first | assumption | refine kCd ?_ | refine kCb (by assumption) ?_))
    (first
      | (go_at_call 13; with_reducible refine (T1n.out _ (by repeat (with_reducible first | assumption | exact Below.refl _ _ | refine Below.drew ?_ | refine kBa ?_ | refine kBb (by assumption) ?_))).mono ?_; rintro e u1 ⟨vm, M1, rfl, hb1, H1⟩)
      | (go_at_call 14; with_reducible refine (TXn.out _ (by repeat (with_reducible first | assumption | exact Below.refl _ _ | refine Below.drew ?_ | refine kBa ?_ | refine kBb (by assumption) ?_))).mono ?_; rintro e u2 ⟨z2, c2, X2, rfl, hb2, hc2, H2⟩)
      | (go_at_call 12; with_reducible refine (RX.out _ vm M1 z2 X2 c2 ⟨H1.out.1, H1.out.2.below (by repeat (with_reducible first | assumption | exact Below.refl _ _ | refine Below.drew ?_ | refine kBa ?_ | refine kBb (by assumption) ?_))⟩ (H2.out.below (by repeat (with_reducible first | assumption | exact Below.refl _ _ | refine Below.drew ?_ | refine kBa ?_ | refine kBb (by assumption) ?_)))).mono ?_; rintro e v5 ⟨rfl, hb3⟩))
  have hb : Below v4.heap.size v4 v5 := (by repeat (with_reducible first | assumption | exact Below.refl _ _ | refine Below.drew ?_ | refine kBa ?_ | refine kBb (by assumption) ?_))
  replace HB := hid (HB.out.trans (hb.mono HB.out.size)); replace BM := hid (BM.out.below hb); replace BA := hid (BA.out.below hb); replace BB := hid (BB.out.below hb)
  clear hb r0 r1 r2 r3 r4 a0 a1 b0 b1 T1n TXn hb1 hb2 hb3 H1 H2 hc2
  go_upto_region 6 with fail
  have r0 := BM.out.cell (j := 0) rfl
  have r1 := BM.out.cell (j := 1) rfl
  have r2 := BM.out.cell (j := 2) rfl
  have r3 := BM.out.cell (j := 3) rfl
  have r4 := BM.out.cell (j := 4) rfl
  have a0 := BA.out.cell (j := 0) rfl
  have a1 := BA.out.cell (j := 1) rfl
  have b0 := BB.out.cell (j := 0) rfl
  have b1 := BB.out.cell (j := 1) rfl
  have T1n := hid (fun W (hW : Below v5.heap.size v5 W) => T1.out W (HB.out.trans (hW.mono HB.out.size)))
  have TUn := hid (fun W (hW : Below v5.heap.size v5 W) => TU.out W (HB.out.trans (hW.mono HB.out.size)))
  go_region_held3 (fun w' => w'.cell? ⟨w.heap.size, 0, none⟩ = some (.bool s) ∧ w'.cell? ⟨w.heap.size, 1, none⟩ = some (.slice x n c) ∧ w'.cell? ⟨w.heap.size, 2, none⟩ = some (.slice y m d) ∧ w'.cell? ⟨w.heap.size, 3, none⟩ = some (.slice ca ck cc) ∧ w'.cell? ⟨w.heap.size, 4, none⟩ = some (.slice ra rk rc) ∧ w'.cell? ⟨w.heap.size + 1, 0, none⟩ = some (.slice ax kx cx) ∧ w'.cell? ⟨w.heap.size + 1, 1, none⟩ = some (.slice ao ko co) ∧ w'.cell? ⟨w.heap.size + 1 + 1, 0, none⟩ = some (.slice bx jx dx) ∧ w'.cell? ⟨w.heap.size + 1 + 1, 1, none⟩ = some (.slice bo jo eo))
    (refine ⟨?_, ?_, ?_, ?_, ?_, ?_, ?_, ?_, ?_⟩ <;> repeat (with_reducible first | assumption | refine kCd ?_ | refine kCb (by assumption) ?_))
    (first
      | (go_at_call 13; with_reducible refine (T1n.out _ (by repeat (with_reducible first | assumption | exact Below.refl _ _ | refine Below.drew ?_ | refine kBa ?_ | refine kBb (by assumption) ?_))).mono ?_; rintro e u1 ⟨vm, M1, rfl, hb1, H1⟩)
      | (go_at_call 14; with_reducible refine (TUn.out _ (by repeat (with_reducible first | assumption | exact Below.refl _ _ | refine Below.drew ?_ | refine kBa ?_ | refine kBb (by assumption) ?_))).mono ?_; rintro e u2 ⟨z2, c2, X2, rfl, hb2, hc2, H2⟩)
      | (go_at_call 12; with_reducible refine (RU.out _ vm M1 z2 X2 c2 ⟨H1.out.1, H1.out.2.below (by repeat (with_reducible first | assumption | exact Below.refl _ _ | refine Below.drew ?_ | refine kBa ?_ | refine kBb (by assumption) ?_))⟩ (H2.out.below (by repeat (with_reducible first | assumption | exact Below.refl _ _ | refine Below.drew ?_ | refine kBa ?_ | refine kBb (by assumption) ?_)))).mono ?_; rintro e v6 ⟨rfl, hb3⟩))
  have hb : Below v5.heap.size v5 v6 := (by repeat (with_reducible first | assumption | exact Below.refl _ _ | refine Below.drew ?_ | refine kBa ?_ | refine kBb (by assumption) ?_))
  replace HB := hid (HB.out.trans (hb.mono HB.out.size)); replace BM := hid (BM.out.below hb); replace BA := hid (BA.out.below hb); replace BB := hid (BB.out.below hb)
  clear hb r0 r1 r2 r3 r4 a0 a1 b0 b1 T1n TUn hb1 hb2 hb3 H1 H2 hc2
  by_cases h0 : ec = 0
  case neg =>
    have h1 : (ec != 0) = true := by simpa using h0
    clear h0
    go_wp2
    go_ret
    exact ⟨rfl, HB.out⟩
  subst h0
  cases r1
  · go_wp2
    go_ret
    exact ⟨rfl, HB.out⟩
  cases r2
  · go_wp2
    go_ret
    exact ⟨rfl, HB.out⟩
  have CV := hid (cone_v (kx := kx) (ky := jx) (X := Y) (Y := V) hr1.out hr2.out)
  obtain ⟨ss, hss⟩ : ∃ t, alng (psOf ko X) (psOf jo U) 1 = t := ⟨_, rfl⟩
  obtain ⟨x1, hx1⟩ : ∃ t, vlM N kx Y ko X = t := ⟨_, rfl⟩
  obtain ⟨x2, hx2⟩ : ∃ t, vlM N jx V jo U = t := ⟨_, rfl⟩
  obtain ⟨x3, hx3⟩ : ∃ t, valB 0 0 (pckE N kx Y) (csOf N) (rsOf N) ss (psOf kx Y) = t := ⟨_, rfl⟩
  obtain ⟨x4, hx4⟩ : ∃ t, vlM N jx V ko X = t := ⟨_, rfl⟩
  rw [hss, hx1, hx2, hx3, hx4] at CV
  have hk : Hid (ko = N.ck) := (pckE_two CV.out.1.2.1).2.2
  have AL : Hid (∀ W z2 c2 X2 z3 c3 X3 ts tx tn tc tf ty tm td tg, Tx W z2 ko X X2 → Tx W z3 jo U X3 → Rn 4 W ts tx tn tc tf ty tm td tg ((1 : Int) : Rat) → Calls Tryz.prog 18 #[.agg #[.slice z2 ko c2, .slice z3 jo c3], .agg #[.bool ts, .slice tx tn tc, .slice ty tm td]] W fun e w' => ∃ a c, e = .returned (.tuple #[.slice a ko c, .int .i64 0]) ∧ Below W.heap.size W w' ∧ (ko ≤ c ∧ c ≤ 9223372036854775807) ∧ Hid (Su w' a ko ss)) := fun W z2 c2 X2 z3 c3 X3 ts tx tn tc tf ty tm td tg h1 h2 h3 => by
    have := alongTw_c (capx := c2) (cap := c3) h1 HC.out.sx h2 HC.out.su h3 CV.out.1.2.1 CV.out.1.2.2
    rw [hss] at this
    exact this
  have RS : Hid (∀ W vm M' a c, (vm = M'.val ∧ Tm W N M') → Su W a ko ss → Calls Tryz.prog 12 #[vm, .slice a ko c] W fun e w' => e = .returned (.tuple #[.bool true, .int .i64 0]) ∧ Below W.heap.size W w') := fun W vm M' a c h1 h2 => by
    have := recSu_c (cap := c) h1.2 HC.out.n CV.out.1.1 hk.out h2
    rw [CV.out.2.1, ← h1.1] at this
    exact this
  have VA : Hid (∀ W vm M' z2 c2 Y2 z3 c3 X3, (vm = M'.val ∧ Tm W N M') → (Tx W z2 kx Y Y2 ∧ Tx W z3 ko X X3) → Calls Tryz.prog 16 #[vm, .agg #[.slice z2 kx c2, .slice z3 ko c3]] W fun e w' => e = .returned (.tuple #[.bool x1, .int .i64 0]) ∧ Below W.heap.size W w') := fun W vm M' z2 c2 Y2 z3 c3 X3 h1 h2 => by
    have := validTw_c (capx := c2) (cap := c3) h1.2 HC.out.n h2.1 HC.out.sy h2.2 HC.out.sx
    rw [hx1, CV.out.1.1, ← h1.1] at this
    exact this
  have VB : Hid (∀ W vm M' z2 c2 Y2 z3 c3 X3, (vm = M'.val ∧ Tm W N M') → (Tx W z2 jx V Y2 ∧ Tx W z3 jo U X3) → Calls Tryz.prog 16 #[vm, .agg #[.slice z2 jx c2, .slice z3 jo c3]] W fun e w' => e = .returned (.tuple #[.bool x2, .int .i64 0]) ∧ Below W.heap.size W w') := fun W vm M' z2 c2 Y2 z3 c3 X3 h1 h2 => by
    have := validTw_c (capx := c2) (cap := c3) h1.2 HC.out.n h2.1 HC.out.sv h2.2 HC.out.su
    rw [hx2, CV.out.1.1, ← h1.1] at this
    exact this
  have VS : Hid (∀ W vm M' z2 c2 Y2 z3 c3, (vm = M'.val ∧ Tm W N M') → Tx W z2 kx Y Y2 → Su W z3 ko ss → Calls Tryz.prog 16 #[vm, .agg #[.slice z2 kx c2, .slice z3 ko c3]] W fun e w' => e = .returned (.tuple #[.bool x3, .int .i64 0]) ∧ Below W.heap.size W w') := fun W vm M' z2 c2 Y2 z3 c3 h1 h2 h3 => by
    have := validSu_c (capx := c2) (cap := c3) h1.2 HC.out.n CV.out.1.1 hk.out h2 HC.out.sy h3
    rw [hx3, ← h1.1] at this
    exact this
  have VX : Hid (∀ W vm M' z2 c2 Y2 z3 c3 X3, (vm = M'.val ∧ Tm W N M') → Tx W z2 jx V Y2 → Tx W z3 ko X X3 → Calls Tryz.prog 16 #[vm, .agg #[.slice z2 jx c2, .slice z3 ko c3]] W fun e w' => e = .returned (.tuple #[.bool x4, .int .i64 0]) ∧ Below W.heap.size W w') := fun W vm M' z2 c2 Y2 z3 c3 X3 h1 h2 h3 => by
    have := validTw_c (capx := c2) (cap := c3) h1.2 HC.out.n h2 HC.out.sv h3 HC.out.sx
    rw [hx4, CV.out.1.1, ← h1.1] at this
    exact this
  have HI := hid CV.out.2.2
  have CD := hid (fun W => docOfQ_c (w := W) (z := 1) (by decide) (by decide))
  unfold RatAns at CD
  clear hss hx1 hx2 hx3 hx4 CV hk hr1 hr2 hec RX RU
  go_upto_region 9 with fail
  have r0 := BM.out.cell (j := 0) rfl
  have r1 := BM.out.cell (j := 1) rfl
  have r2 := BM.out.cell (j := 2) rfl
  have r3 := BM.out.cell (j := 3) rfl
  have r4 := BM.out.cell (j := 4) rfl
  have a0 := BA.out.cell (j := 0) rfl
  have a1 := BA.out.cell (j := 1) rfl
  have b0 := BB.out.cell (j := 0) rfl
  have b1 := BB.out.cell (j := 1) rfl
  have TXn := hid (fun W (hW : Below v6.heap.size v6 W) => TX.out W (HB.out.trans (hW.mono HB.out.size)))
  have TUn := hid (fun W (hW : Below v6.heap.size v6 W) => TU.out W (HB.out.trans (hW.mono HB.out.size)))
  go_region_held3 (fun w' => w'.cell? ⟨w.heap.size, 0, none⟩ = some (.bool s) ∧ w'.cell? ⟨w.heap.size, 1, none⟩ = some (.slice x n c) ∧ w'.cell? ⟨w.heap.size, 2, none⟩ = some (.slice y m d) ∧ w'.cell? ⟨w.heap.size, 3, none⟩ = some (.slice ca ck cc) ∧ w'.cell? ⟨w.heap.size, 4, none⟩ = some (.slice ra rk rc) ∧ w'.cell? ⟨w.heap.size + 1, 0, none⟩ = some (.slice ax kx cx) ∧ w'.cell? ⟨w.heap.size + 1, 1, none⟩ = some (.slice ao ko co) ∧ w'.cell? ⟨w.heap.size + 1 + 1, 0, none⟩ = some (.slice bx jx dx) ∧ w'.cell? ⟨w.heap.size + 1 + 1, 1, none⟩ = some (.slice bo jo eo))
    (refine ⟨?_, ?_, ?_, ?_, ?_, ?_, ?_, ?_, ?_⟩ <;> repeat (with_reducible first | assumption | refine kCd ?_ | refine kCb (by assumption) ?_))
    (first
      | (go_at_call 14; with_reducible refine (TXn.out _ (by repeat (with_reducible first | assumption | exact Below.refl _ _ | refine Below.drew ?_ | refine kBa ?_ | refine kBb (by assumption) ?_))).mono ?_; rintro e u2 ⟨z2, c2, X2, rfl, hb2, hc2, H2⟩)
      | (go_at_call 14; with_reducible refine (TUn.out _ (by repeat (with_reducible first | assumption | exact Below.refl _ _ | refine Below.drew ?_ | refine kBa ?_ | refine kBb (by assumption) ?_))).mono ?_; rintro e u3 ⟨z3, c3, X3, rfl, hb3, hc3, H3⟩)
      | (go_at_call 22; with_reducible refine (CD.out _).mono ?_; rintro e u4 ⟨ts, tx, tn, tc, tf, ty, tm, td, tg, rfl, hb4, H4⟩; replace H4 := hid H4)
      | (go_at_call 18; with_reducible refine (AL.out _ z2 c2 X2 z3 c3 X3 ts tx tn tc tf ty tm td tg (H2.out.below (by repeat (with_reducible first | assumption | exact Below.refl _ _ | refine Below.drew ?_ | refine kBa ?_ | refine kBb (by assumption) ?_))) (H3.out.below (by repeat (with_reducible first | assumption | exact Below.refl _ _ | refine Below.drew ?_ | refine kBa ?_ | refine kBb (by assumption) ?_))) (H4.out.below (by repeat (with_reducible first | assumption | exact Below.refl _ _ | refine Below.drew ?_ | refine kBa ?_ | refine kBb (by assumption) ?_)))).mono ?_; rintro e v7 ⟨sa, sc, rfl, hb5, hsc, HS⟩))
  have hb : Below v6.heap.size v6 v7 := (by repeat (with_reducible first | assumption | exact Below.refl _ _ | refine Below.drew ?_ | refine kBa ?_ | refine kBb (by assumption) ?_))
  replace HB := hid (HB.out.trans (hb.mono HB.out.size)); replace BM := hid (BM.out.below hb); replace BA := hid (BA.out.below hb); replace BB := hid (BB.out.below hb)
  clear hb r0 r1 r2 r3 r4 a0 a1 b0 b1 TXn TUn hb2 hb3 hb4 hb5 H2 H3 H4 hc2 hc3 AL CD
  replace hsc := hid hsc
  have r0 := BM.out.cell (j := 0) rfl
  have r1 := BM.out.cell (j := 1) rfl
  have r2 := BM.out.cell (j := 2) rfl
  have r3 := BM.out.cell (j := 3) rfl
  have r4 := BM.out.cell (j := 4) rfl
  go_wp2_with fail
  clear r0 r1 r2 r3 r4
  refine (T1.out _ HB.out).mono ?_
  rintro e v8 ⟨vm, M1, rfl, hb, H1⟩
  replace HB := hid (HB.out.trans (hb.mono HB.out.size)); replace BM := hid (BM.out.below hb); replace BA := hid (BA.out.below hb); replace BB := hid (BB.out.below hb); replace HS := hid (HS.out.below hb)
  clear hb
  go_wp2_with fail
  refine (RS.out _ vm M1 sa sc H1.out HS.out).mono ?_
  rintro e v9 ⟨rfl, hb⟩
  replace HB := hid (HB.out.trans (hb.mono HB.out.size)); replace BM := hid (BM.out.below hb); replace BA := hid (BA.out.below hb); replace BB := hid (BB.out.below hb); replace HS := hid (HS.out.below hb)
  clear hb
  clear RS H1
  have RA := hid (fun W (hW : Below w.heap.size w W) => twinRay_c (capx := cx) (cap := co) (HC.out.hy.below hW) HC.out.sy (HC.out.hx.below hW) HC.out.sx)
  have RB := hid (fun W (hW : Below w.heap.size w W) => twinRay_c (capx := dx) (cap := eo) (HC.out.hv.below hW) HC.out.sv (HC.out.hu.below hW) HC.out.su)
  go_upto_region 13 with fail
  have r0 := BM.out.cell (j := 0) rfl
  have r1 := BM.out.cell (j := 1) rfl
  have r2 := BM.out.cell (j := 2) rfl
  have r3 := BM.out.cell (j := 3) rfl
  have r4 := BM.out.cell (j := 4) rfl
  have a0 := BA.out.cell (j := 0) rfl
  have a1 := BA.out.cell (j := 1) rfl
  have b0 := BB.out.cell (j := 0) rfl
  have b1 := BB.out.cell (j := 1) rfl
  have T1n := hid (fun W (hW : Below v9.heap.size v9 W) => T1.out W (HB.out.trans (hW.mono HB.out.size)))
  have RAn := hid (fun W (hW : Below v9.heap.size v9 W) => RA.out W (HB.out.trans (hW.mono HB.out.size)))
  go_region_held3 (fun w' => w'.cell? ⟨w.heap.size, 0, none⟩ = some (.bool s) ∧ w'.cell? ⟨w.heap.size, 1, none⟩ = some (.slice x n c) ∧ w'.cell? ⟨w.heap.size, 2, none⟩ = some (.slice y m d) ∧ w'.cell? ⟨w.heap.size, 3, none⟩ = some (.slice ca ck cc) ∧ w'.cell? ⟨w.heap.size, 4, none⟩ = some (.slice ra rk rc) ∧ w'.cell? ⟨w.heap.size + 1, 0, none⟩ = some (.slice ax kx cx) ∧ w'.cell? ⟨w.heap.size + 1, 1, none⟩ = some (.slice ao ko co) ∧ w'.cell? ⟨w.heap.size + 1 + 1, 0, none⟩ = some (.slice bx jx dx) ∧ w'.cell? ⟨w.heap.size + 1 + 1, 1, none⟩ = some (.slice bo jo eo))
    (refine ⟨?_, ?_, ?_, ?_, ?_, ?_, ?_, ?_, ?_⟩ <;> repeat (with_reducible first | assumption | refine kCd ?_ | refine kCb (by assumption) ?_))
    (first
      | (go_at_call 13; with_reducible refine (T1n.out _ (by repeat (with_reducible first | assumption | exact Below.refl _ _ | refine Below.drew ?_ | refine kBa ?_ | refine kBb (by assumption) ?_))).mono ?_; rintro e u1 ⟨vm, M1, rfl, hb1, H1⟩)
      | (go_at_call 17; with_reducible refine (RAn.out _ (by repeat (with_reducible first | assumption | exact Below.refl _ _ | refine Below.drew ?_ | refine kBa ?_ | refine kBb (by assumption) ?_))).mono ?_; rintro e u2 ⟨z2, c2, Y2, z3, c3, X3, rfl, hb2, H2⟩)
      | (go_at_call 16; with_reducible refine (VA.out _ vm M1 z2 c2 Y2 z3 c3 X3 ⟨H1.out.1, H1.out.2.below (by repeat (with_reducible first | assumption | exact Below.refl _ _ | refine Below.drew ?_ | refine kBa ?_ | refine kBb (by assumption) ?_))⟩ ⟨H2.out.1.below (by repeat (with_reducible first | assumption | exact Below.refl _ _ | refine Below.drew ?_ | refine kBa ?_ | refine kBb (by assumption) ?_)), H2.out.2.below (by repeat (with_reducible first | assumption | exact Below.refl _ _ | refine Below.drew ?_ | refine kBa ?_ | refine kBb (by assumption) ?_))⟩).mono ?_; rintro e v10 ⟨rfl, hb3⟩))
  have hb : Below v9.heap.size v9 v10 := (by repeat (with_reducible first | assumption | exact Below.refl _ _ | refine Below.drew ?_ | refine kBa ?_ | refine kBb (by assumption) ?_))
  replace HB := hid (HB.out.trans (hb.mono HB.out.size)); replace BM := hid (BM.out.below hb); replace BA := hid (BA.out.below hb); replace BB := hid (BB.out.below hb); replace HS := hid (HS.out.below hb)
  clear hb r0 r1 r2 r3 r4 a0 a1 b0 b1 T1n RAn hb1 hb2 hb3 H1 H2 VA RA
  go_upto_region 14 with fail
  have r0 := BM.out.cell (j := 0) rfl
  have r1 := BM.out.cell (j := 1) rfl
  have r2 := BM.out.cell (j := 2) rfl
  have r3 := BM.out.cell (j := 3) rfl
  have r4 := BM.out.cell (j := 4) rfl
  have a0 := BA.out.cell (j := 0) rfl
  have a1 := BA.out.cell (j := 1) rfl
  have b0 := BB.out.cell (j := 0) rfl
  have b1 := BB.out.cell (j := 1) rfl
  have T1n := hid (fun W (hW : Below v10.heap.size v10 W) => T1.out W (HB.out.trans (hW.mono HB.out.size)))
  have RBn := hid (fun W (hW : Below v10.heap.size v10 W) => RB.out W (HB.out.trans (hW.mono HB.out.size)))
  go_region_held3 (fun w' => w'.cell? ⟨w.heap.size, 0, none⟩ = some (.bool s) ∧ w'.cell? ⟨w.heap.size, 1, none⟩ = some (.slice x n c) ∧ w'.cell? ⟨w.heap.size, 2, none⟩ = some (.slice y m d) ∧ w'.cell? ⟨w.heap.size, 3, none⟩ = some (.slice ca ck cc) ∧ w'.cell? ⟨w.heap.size, 4, none⟩ = some (.slice ra rk rc) ∧ w'.cell? ⟨w.heap.size + 1, 0, none⟩ = some (.slice ax kx cx) ∧ w'.cell? ⟨w.heap.size + 1, 1, none⟩ = some (.slice ao ko co) ∧ w'.cell? ⟨w.heap.size + 1 + 1, 0, none⟩ = some (.slice bx jx dx) ∧ w'.cell? ⟨w.heap.size + 1 + 1, 1, none⟩ = some (.slice bo jo eo))
    (refine ⟨?_, ?_, ?_, ?_, ?_, ?_, ?_, ?_, ?_⟩ <;> repeat (with_reducible first | assumption | refine kCd ?_ | refine kCb (by assumption) ?_))
    (first
      | (go_at_call 13; with_reducible refine (T1n.out _ (by repeat (with_reducible first | assumption | exact Below.refl _ _ | refine Below.drew ?_ | refine kBa ?_ | refine kBb (by assumption) ?_))).mono ?_; rintro e u1 ⟨vm, M1, rfl, hb1, H1⟩)
      | (go_at_call 17; with_reducible refine (RBn.out _ (by repeat (with_reducible first | assumption | exact Below.refl _ _ | refine Below.drew ?_ | refine kBa ?_ | refine kBb (by assumption) ?_))).mono ?_; rintro e u2 ⟨z2, c2, Y2, z3, c3, X3, rfl, hb2, H2⟩)
      | (go_at_call 16; with_reducible refine (VB.out _ vm M1 z2 c2 Y2 z3 c3 X3 ⟨H1.out.1, H1.out.2.below (by repeat (with_reducible first | assumption | exact Below.refl _ _ | refine Below.drew ?_ | refine kBa ?_ | refine kBb (by assumption) ?_))⟩ ⟨H2.out.1.below (by repeat (with_reducible first | assumption | exact Below.refl _ _ | refine Below.drew ?_ | refine kBa ?_ | refine kBb (by assumption) ?_)), H2.out.2.below (by repeat (with_reducible first | assumption | exact Below.refl _ _ | refine Below.drew ?_ | refine kBa ?_ | refine kBb (by assumption) ?_))⟩).mono ?_; rintro e v11 ⟨rfl, hb3⟩))
  have hb : Below v10.heap.size v10 v11 := (by repeat (with_reducible first | assumption | exact Below.refl _ _ | refine Below.drew ?_ | refine kBa ?_ | refine kBb (by assumption) ?_))
  replace HB := hid (HB.out.trans (hb.mono HB.out.size)); replace BM := hid (BM.out.below hb); replace BA := hid (BA.out.below hb); replace BB := hid (BB.out.below hb); replace HS := hid (HS.out.below hb)
  clear hb r0 r1 r2 r3 r4 a0 a1 b0 b1 T1n RBn hb1 hb2 hb3 H1 H2 VB RB
  go_upto_region 15 with fail
  have r0 := BM.out.cell (j := 0) rfl
  have r1 := BM.out.cell (j := 1) rfl
  have r2 := BM.out.cell (j := 2) rfl
  have r3 := BM.out.cell (j := 3) rfl
  have r4 := BM.out.cell (j := 4) rfl
  have a0 := BA.out.cell (j := 0) rfl
  have a1 := BA.out.cell (j := 1) rfl
  have b0 := BB.out.cell (j := 0) rfl
  have b1 := BB.out.cell (j := 1) rfl
  have T1n := hid (fun W (hW : Below v11.heap.size v11 W) => T1.out W (HB.out.trans (hW.mono HB.out.size)))
  have TYn := hid (fun W (hW : Below v11.heap.size v11 W) => TY.out W (HB.out.trans (hW.mono HB.out.size)))
  go_region_held3 (fun w' => w'.cell? ⟨w.heap.size, 0, none⟩ = some (.bool s) ∧ w'.cell? ⟨w.heap.size, 1, none⟩ = some (.slice x n c) ∧ w'.cell? ⟨w.heap.size, 2, none⟩ = some (.slice y m d) ∧ w'.cell? ⟨w.heap.size, 3, none⟩ = some (.slice ca ck cc) ∧ w'.cell? ⟨w.heap.size, 4, none⟩ = some (.slice ra rk rc) ∧ w'.cell? ⟨w.heap.size + 1, 0, none⟩ = some (.slice ax kx cx) ∧ w'.cell? ⟨w.heap.size + 1, 1, none⟩ = some (.slice ao ko co) ∧ w'.cell? ⟨w.heap.size + 1 + 1, 0, none⟩ = some (.slice bx jx dx) ∧ w'.cell? ⟨w.heap.size + 1 + 1, 1, none⟩ = some (.slice bo jo eo))
    (refine ⟨?_, ?_, ?_, ?_, ?_, ?_, ?_, ?_, ?_⟩ <;> repeat (with_reducible first | assumption | refine kCd ?_ | refine kCb (by assumption) ?_))
    (first
      | (go_at_call 13; with_reducible refine (T1n.out _ (by repeat (with_reducible first | assumption | exact Below.refl _ _ | refine Below.drew ?_ | refine kBa ?_ | refine kBb (by assumption) ?_))).mono ?_; rintro e u1 ⟨vm, M1, rfl, hb1, H1⟩)
      | (go_at_call 14; with_reducible refine (TYn.out _ (by repeat (with_reducible first | assumption | exact Below.refl _ _ | refine Below.drew ?_ | refine kBa ?_ | refine kBb (by assumption) ?_))).mono ?_; rintro e u2 ⟨z2, c2, X2, rfl, hb2, hc2, H2⟩)
      | (go_at_call 16; with_reducible refine (VS.out _ vm M1 z2 c2 X2 sa sc ⟨H1.out.1, H1.out.2.below (by repeat (with_reducible first | assumption | exact Below.refl _ _ | refine Below.drew ?_ | refine kBa ?_ | refine kBb (by assumption) ?_))⟩ (H2.out.below (by repeat (with_reducible first | assumption | exact Below.refl _ _ | refine Below.drew ?_ | refine kBa ?_ | refine kBb (by assumption) ?_))) (HS.out.below (by repeat (with_reducible first | assumption | exact Below.refl _ _ | refine Below.drew ?_ | refine kBa ?_ | refine kBb (by assumption) ?_)))).mono ?_; rintro e v12 ⟨rfl, hb3⟩))
  have hb : Below v11.heap.size v11 v12 := (by repeat (with_reducible first | assumption | exact Below.refl _ _ | refine Below.drew ?_ | refine kBa ?_ | refine kBb (by assumption) ?_))
  replace HB := hid (HB.out.trans (hb.mono HB.out.size)); replace BM := hid (BM.out.below hb); replace BA := hid (BA.out.below hb); replace BB := hid (BB.out.below hb); replace HS := hid (HS.out.below hb)
  clear hb r0 r1 r2 r3 r4 a0 a1 b0 b1 T1n TYn hb1 hb2 hb3 H1 H2 hc2 VS
  go_upto_region 16 with fail
  have r0 := BM.out.cell (j := 0) rfl
  have r1 := BM.out.cell (j := 1) rfl
  have r2 := BM.out.cell (j := 2) rfl
  have r3 := BM.out.cell (j := 3) rfl
  have r4 := BM.out.cell (j := 4) rfl
  have a0 := BA.out.cell (j := 0) rfl
  have a1 := BA.out.cell (j := 1) rfl
  have b0 := BB.out.cell (j := 0) rfl
  have b1 := BB.out.cell (j := 1) rfl
  have T1n := hid (fun W (hW : Below v12.heap.size v12 W) => T1.out W (HB.out.trans (hW.mono HB.out.size)))
  have TVn := hid (fun W (hW : Below v12.heap.size v12 W) => TV.out W (HB.out.trans (hW.mono HB.out.size)))
  have TXn := hid (fun W (hW : Below v12.heap.size v12 W) => TX.out W (HB.out.trans (hW.mono HB.out.size)))
  go_region_held3 (fun w' => w'.cell? ⟨w.heap.size, 0, none⟩ = some (.bool s) ∧ w'.cell? ⟨w.heap.size, 1, none⟩ = some (.slice x n c) ∧ w'.cell? ⟨w.heap.size, 2, none⟩ = some (.slice y m d) ∧ w'.cell? ⟨w.heap.size, 3, none⟩ = some (.slice ca ck cc) ∧ w'.cell? ⟨w.heap.size, 4, none⟩ = some (.slice ra rk rc) ∧ w'.cell? ⟨w.heap.size + 1, 0, none⟩ = some (.slice ax kx cx) ∧ w'.cell? ⟨w.heap.size + 1, 1, none⟩ = some (.slice ao ko co) ∧ w'.cell? ⟨w.heap.size + 1 + 1, 0, none⟩ = some (.slice bx jx dx) ∧ w'.cell? ⟨w.heap.size + 1 + 1, 1, none⟩ = some (.slice bo jo eo))
    (refine ⟨?_, ?_, ?_, ?_, ?_, ?_, ?_, ?_, ?_⟩ <;> repeat (with_reducible first | assumption | refine kCd ?_ | refine kCb (by assumption) ?_))
    (first
      | (go_at_call 13; with_reducible refine (T1n.out _ (by repeat (with_reducible first | assumption | exact Below.refl _ _ | refine Below.drew ?_ | refine kBa ?_ | refine kBb (by assumption) ?_))).mono ?_; rintro e u1 ⟨vm, M1, rfl, hb1, H1⟩)
      | (go_at_call 14; with_reducible refine (TVn.out _ (by repeat (with_reducible first | assumption | exact Below.refl _ _ | refine Below.drew ?_ | refine kBa ?_ | refine kBb (by assumption) ?_))).mono ?_; rintro e u2 ⟨z2, c2, X2, rfl, hb2, hc2, H2⟩)
      | (go_at_call 14; with_reducible refine (TXn.out _ (by repeat (with_reducible first | assumption | exact Below.refl _ _ | refine Below.drew ?_ | refine kBa ?_ | refine kBb (by assumption) ?_))).mono ?_; rintro e u3 ⟨z3, c3, X3, rfl, hb3, hc3, H3⟩)
      | (go_at_call 16; with_reducible refine (VX.out _ vm M1 z2 c2 X2 z3 c3 X3 ⟨H1.out.1, H1.out.2.below (by repeat (with_reducible first | assumption | exact Below.refl _ _ | refine Below.drew ?_ | refine kBa ?_ | refine kBb (by assumption) ?_))⟩ (H2.out.below (by repeat (with_reducible first | assumption | exact Below.refl _ _ | refine Below.drew ?_ | refine kBa ?_ | refine kBb (by assumption) ?_))) (H3.out.below (by repeat (with_reducible first | assumption | exact Below.refl _ _ | refine Below.drew ?_ | refine kBa ?_ | refine kBb (by assumption) ?_)))).mono ?_; rintro e v13 ⟨rfl, hb4⟩))
  have hb : Below v12.heap.size v12 v13 := (by repeat (with_reducible first | assumption | exact Below.refl _ _ | refine Below.drew ?_ | refine kBa ?_ | refine kBb (by assumption) ?_))
  replace HB := hid (HB.out.trans (hb.mono HB.out.size)); replace BM := hid (BM.out.below hb); replace BA := hid (BA.out.below hb); replace BB := hid (BB.out.below hb)
  clear hb r0 r1 r2 r3 r4 a0 a1 b0 b1 T1n TVn TXn hb1 hb2 hb3 hb4 H1 H2 H3 hc2 hc3 VX
  clear BM BA BB HS hsc T1 TX TU TY TV HC hNv
  cases x1
  · go_wp2
    go_ret
    exact ⟨rfl, HB.out⟩
  cases x2
  · go_wp2
    go_ret
    exact ⟨rfl, HB.out⟩
  obtain ⟨rfl, rfl⟩ := HI.out (by first | rfl | trivial) (by first | rfl | trivial)
  go_wp2
  go_ret
  exact ⟨rfl, HB.out⟩
/-- RayCone, by what views give. -/
theorem rayCone_x {w : World} {M : Mo} {ax : Option Addr} {kx cx : Nat} {Y : Nat → Nm} {ao : Option Addr} {ko co : Nat} {X : Nat → Nm} {bx : Option Addr} {jx dx : Nat} {V : Nat → Nm} {bo : Option Addr} {jo eo : Nat} {U : Nat → Nm} (hX : MoX w M) (hN : MoN M) (_ : MoC M) (hy : Rr w ax kx Y) (hx : Rr w ao ko X) (hkx : kx ≤ 9223372036854775807) (hko : ko ≤ 9223372036854775807) (hv : Rr w bx jx V) (hu : Rr w bo jo U) (hjx : jx ≤ 9223372036854775807) (hjo : jo ≤ 9223372036854775807) :
    Calls Tryz.prog 4 #[M.val, .agg #[.slice ax kx cx, .slice ao ko co], .agg #[.slice bx jx dx, .slice bo jo eo]] w fun e w' => e = .returned (.bool true) ∧ Below w.heap.size w w' := rayCone_c hX hN hy hx hv hu hkx hko hjx hjo
end Go.Proofs.YtjgghfmadfolhaaGreat
