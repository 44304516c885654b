/-
  The walk of the law FarkasShows (written by makers/fk12.py).
-/
import Derived.Test.YtedpomledbgpoaaGreatZ13
namespace Go.Proofs.YtedpomledbgpoaaGreat
open Go.RowKit

/-- What is handed to FarkasShows, once it is light. -/
structure Cn12 (w : World) (M : Mo) (a0 a1 a2 a3 : Option Addr) (k0 : Nat) (X0 : Nat → Nm) (k1 : Nat) (X1 : Nat → Nm) (k2 : Nat) (X2 : Nat → Nm) (k3 : Nat) (X3 : Nat → Nm) : Prop where
  x : MoX w M
  n : MoN M
  k : M.ck ≤ 64 → M.rk ≤ 64 → MoK 6 M
  h0 : Rl w a0 k0 X0
  s0 : ShK 6 k0 X0
  h1 : Rl w a1 k1 X1
  s1 : ShK 6 k1 X1
  h2 : Rl w a2 k2 X2
  s2 : ShK 6 k2 X2
  h3 : Rl w a3 k3 X3
  s3 : ShK 6 k3 X3
theorem MoX.ok12 {w : World} {M : Mo} (hX : MoX w M) (hN : MoN M) (hk : M.ck ≤ 64 → M.rk ≤ 64 → MoK 6 M) (he : chkE M = 0) : mvOk (csOf M) (rsOf M) = true := by
  obtain ⟨l1, l2, _⟩ := chkE_ok he
  exact ((hX.mor hN (hk l1 l2) (by decide) l1 l2).movC (hk l1 l2) he).2
theorem shows12 {M : Mo} {k0 k1 k2 k3 kp : Nat} {X0 X1 X2 X3 P : Nat → Nm} (ho : chkE M = 0 → mvOk (csOf M) (rsOf M) = true) (h1 : vldM M k0 X0 k1 X1 k2 X2 k3 X3 = true) (h2 : (decide (pckE M kp P = 0) && feasB (csOf M) (rsOf M) (psOf kp P)) = true) : False := by
  simp only [vldM, Bool.and_eq_true, decide_eq_true_eq] at h1 h2
  obtain ⟨_, _, h3⟩ := pckE_two h2.1
  exact shows_v (ho h1.1) (by rw [psOf_len, csOf_len]; exact h3) h1.2 h2.2
theorem cross12 {M : Mo} {kp : Nat} {P : Nat → Nm} (ho : chkE M = 0 → mvOk (csOf M) (rsOf M) = true) (h0 : chkE M = 0) (h : ¬ (crl (cvC (csOf M)) (csOf M).length = [] ∧ crl (cvR (rsOf M)) (rsOf M).length = [])) : (decide (pckE M kp P = 0) && feasB (csOf M) (rsOf M) (psOf kp P)) = false := by
  by_cases e : pckE M kp P = 0
  · obtain ⟨_, _, h3⟩ := pckE_two e
    rw [cross_no (ho h0) (by rw [psOf_len, csOf_len]; exact h3) h]; simp
  · rw [decide_eq_false e]; rfl
set_option maxRecDepth 100000 in
set_option maxHeartbeats 8000000 in
theorem farkasShows_c {w : World} {M : Mo} {a0 a1 a2 a3 : Option Addr} {k0 c0 k1 c1 k2 c2 k3 c3 : Nat} {X0 X1 X2 X3 : Nat → Nm} {ao : Option Addr} {kp cp : Nat} {P : Nat → Nm} (hX : MoX w M) (hN : MoN M) (_hC : MoC M) (h0 : Rr w a0 k0 X0) (h1 : Rr w a1 k1 X1) (h2 : Rr w a2 k2 X2) (h3 : Rr w a3 k3 X3) (b0 : k0 ≤ 9223372036854775807) (b1 : k1 ≤ 9223372036854775807) (b2 : k2 ≤ 9223372036854775807) (b3 : k3 ≤ 9223372036854775807) (hp : Rr w ao kp P) (bp : kp ≤ 9223372036854775807) :
    Calls Tryz.prog 3 #[M.val, .agg #[.slice a0 k0 c0, .slice a1 k1 c1, .slice a2 k2 c2, .slice a3 k3 c3], .slice ao kp cp] w fun e w' => e = .returned (.bool true) ∧ Below w.heap.size w w' := by
  obtain ⟨lb, hlb⟩ : ∃ t, lgM 6 M = t := ⟨_, rfl⟩
  obtain ⟨la, hla⟩ : ∃ t, (lgL 6 k0 X0 && (lgL 6 k1 X1 && (lgL 6 k2 X2 && lgL 6 k3 X3))) = t := ⟨_, rfl⟩
  obtain ⟨lc, hlc⟩ : ∃ t, lgL 6 kp P = t := ⟨_, rfl⟩
  have CL := hid (fun w' (hw : Below w.heap.size w w') => mLight_c (w := w') (K := 6) (hX.below hw).light.1 (hX.below hw).light.2)
  rw [hlb] at CL
  have CA := hid (fun w' (hw : Below w.heap.size w w') => light12_c (c0 := c0) (c1 := c1) (c2 := c2) (c3 := c3) 6 (h0.below hw) (h1.below hw) (h2.below hw) (h3.below hw) b0 b1 b2 b3)
  rw [hla] at CA
  have CB : Hid (∀ W, Below w.heap.size w W → Calls Tryz.prog 8 #[.slice ao kp cp, .int .i64 6] W fun e w' => e = .returned (.bool (lgL 6 kp P)) ∧ Below W.heap.size W w') := fun W hW => rLights_c 6 (hp.below hW) bp
  rw [hlc] at CB
  obtain ⟨N, hN'⟩ : ∃ N, N = M := ⟨_, rfl⟩
  have HC : Hid (lb = true → la = true → lc = true → Cn12 w N a0 a1 a2 a3 k0 X0 k1 X1 k2 X2 k3 X3 ∧ Rl w ao kp P ∧ ShK 6 kp P) := fun e1 e2 e3 => by
    subst hN'
    subst e1; subst e2; subst e3
    simp only [Bool.and_eq_true] at hla
    obtain ⟨q0, q1, q2, q3⟩ := hla
    have key : ∀ {a : Option Addr} {k : Nat} {X : Nat → Nm}, Rr w a k X → lgL 6 k X = true → Rl w a k X := fun h q => by
      simp only [lgL, Bool.and_eq_true] at q; exact h.rl q.2 (by decide)
    exact ⟨⟨hX, hN, lgM_k hlb, key h0 q0, lgL_shK q0, key h1 q1, lgL_shK q1, key h2 q2, lgL_shK q2, key h3 q3, lgL_shK q3⟩, key hp hlc, lgL_shK hlc⟩
  clear hX hN h0 h1 h2 h3 hp hlb hla hlc b0 b1 b2 b3 bp
  obtain ⟨⟨s, x, n, c, f, y, m, d, g⟩, ca, ck, cc, C, ra, rk, rc, R⟩ := M
  have hNv : Hid (N.val = .agg #[.bool s, .slice x n c, .slice y m d, .slice ca ck cc, .slice ra rk rc]) := by rw [hN']; exact rfl
  clear hN'
  replace CL : Hid (∀ w', Below w.heap.size w w' → Calls Tryz.prog 6 #[.agg #[.bool s, .slice x n c, .slice y m d, .slice ca ck cc, .slice ra rk rc], .int .i64 6] w' fun e w2 => e = .returned (.bool lb) ∧ Below w'.heap.size w' w2) := CL
  replace CA : Hid (∀ w', Below w.heap.size w w' → Calls Tryz.prog 7 #[.agg #[.slice a0 k0 c0, .slice a1 k1 c1, .slice a2 k2 c2, .slice a3 k3 c3], .int .i64 6] w' fun e w2 => e = .returned (.bool la) ∧ Below w'.heap.size w' w2) := CA
  show Calls Tryz.prog 3 #[.agg #[.bool s, .slice x n c, .slice y m d, .slice ca ck cc, .slice ra rk rc], .agg #[.slice a0 k0 c0, .slice a1 k1 c1, .slice a2 k2 c2, .slice a3 k3 c3], .slice ao kp cp] w _
  have HB := hid (below_alloc (below_alloc (Below.refl w.heap.size w) (.cells #[.bool s, .slice x n c, .slice y m d, .slice ca ck cc, .slice ra rk rc] 28)) (.cells #[.slice a0 k0 c0, .slice a1 k1 c1, .slice a2 k2 c2, .slice a3 k3 c3] 31))
  have BM : Hid (Bk ((w.alloc (.cells #[.bool s, .slice x n c, .slice y m d, .slice ca ck cc, .slice ra rk rc] 28)).alloc (.cells #[.slice a0 k0 c0, .slice a1 k1 c1, .slice a2 k2 c2, .slice a3 k3 c3] 31)) w.heap.size [.bool s, .slice x n c, .slice y m d, .slice ca ck cc, .slice ra rk rc] 28) := (bk_new w [.bool s, .slice x n c, .slice y m d, .slice ca ck cc, .slice ra rk rc] 28).below (below_alloc (Below.refl _ _) _)
  have BK : Hid (Bk ((w.alloc (.cells #[.bool s, .slice x n c, .slice y m d, .slice ca ck cc, .slice ra rk rc] 28)).alloc (.cells #[.slice a0 k0 c0, .slice a1 k1 c1, .slice a2 k2 c2, .slice a3 k3 c3] 31)) (w.heap.size + 1) [.slice a0 k0 c0, .slice a1 k1 c1, .slice a2 k2 c2, .slice a3 k3 c3] 31) := by
    have := bk_new (w.alloc (.cells #[.bool s, .slice x n c, .slice y m d, .slice ca ck cc, .slice ra rk rc] 28)) [.slice a0 k0 c0, .slice a1 k1 c1, .slice a2 k2 c2, .slice a3 k3 c3] 31
    rw [size_alloc1] at this; exact this
  go_enter Tryz.func3, Tryz.ntmps3
  go_wp2_with fail
  generalize ((w.alloc (.cells #[.bool s, .slice x n c, .slice y m d, .slice ca ck cc, .slice ra rk rc] 28)).alloc (.cells #[.slice a0 k0 c0, .slice a1 k1 c1, .slice a2 k2 c2, .slice a3 k3 c3] 31)) = v0 at *
  refine (awake12_c _).mono ?_
  rintro e v1 ⟨rfl, hb⟩
  replace HB := hid (HB.out.trans (hb.mono HB.out.size)); replace BM := hid (BM.out.below hb); replace BK := hid (BK.out.below hb)
  clear hb
  have r0 := BM.out.cell (j := 0) rfl
  have r1 := BM.out.cell (j := 1) rfl
  have r2 := BM.out.cell (j := 2) rfl
  have r3 := BM.out.cell (j := 3) rfl
  have r4 := BM.out.cell (j := 4) rfl
  go_wp2_with fail
  clear r0 r1 r2 r3 r4
  refine (CL.out _ HB.out).mono ?_
  rintro e v2 ⟨rfl, hb⟩
  replace HB := hid (HB.out.trans (hb.mono HB.out.size)); replace BM := hid (BM.out.below hb); replace BK := hid (BK.out.below hb)
  clear hb
  clear CL
  cases lb
  · go_wp2
    go_ret
    exact ⟨rfl, HB.out⟩
  have p0 := BK.out.cell (j := 0) rfl
  have p1 := BK.out.cell (j := 1) rfl
  have p2 := BK.out.cell (j := 2) rfl
  have p3 := BK.out.cell (j := 3) rfl
  go_wp2_with fail
  clear p0 p1 p2 p3
  refine (CA.out _ HB.out).mono ?_
  rintro e v3 ⟨rfl, hb⟩
  replace HB := hid (HB.out.trans (hb.mono HB.out.size)); replace BM := hid (BM.out.below hb); replace BK := hid (BK.out.below hb)
  clear hb
  clear CA
  cases la
  · go_wp2
    go_ret
    exact ⟨rfl, HB.out⟩
  go_wp2_with fail
  refine (CB.out _ HB.out).mono ?_
  rintro e v4 ⟨rfl, hb⟩
  replace HB := hid (HB.out.trans (hb.mono HB.out.size)); replace BM := hid (BM.out.below hb); replace BK := hid (BK.out.below hb)
  clear hb
  clear CB
  cases lc
  · go_wp2
    go_ret
    exact ⟨rfl, HB.out⟩
  replace HC := hid (HC.out (by first | rfl | trivial) (by first | rfl | trivial) (by first | rfl | trivial))
  have HO := hid (HC.out.1.x.ok12 HC.out.1.n HC.out.1.k)
  have T1 : Hid (∀ W, Below w.heap.size w W → Calls Tryz.prog 10 #[.agg #[.bool s, .slice x n c, .slice y m d, .slice ca ck cc, .slice ra rk rc]] W fun e w' => ∃ (vm : Value) (M' : Mo), e = .returned vm ∧ Below W.heap.size W w' ∧ Hid (vm = M'.val ∧ TmK 6 w' N M')) := fun W hW => by
    have := twinTmK_c (HC.out.1.x.below hW) HC.out.1.n HC.out.1.k (by decide)
    rw [hNv.out] at this
    exact this
  have T2 := hid (fun W (hW : Below w.heap.size w W) => twin12_c (c0 := c0) (c1 := c1) (c2 := c2) (c3 := c3) (HC.out.1.h0.below hW) (HC.out.1.h1.below hW) (HC.out.1.h2.below hW) (HC.out.1.h3.below hW) HC.out.1.s0 HC.out.1.s1 HC.out.1.s2 HC.out.1.s3 (by decide))
  have T3 := hid (fun W (hW : Below w.heap.size w W) => twinsTxK_c (cap := cp) (HC.out.2.1.below hW) HC.out.2.2 (by decide))
  have V1 : Hid (∀ W vm M' b0 d0 Y0 b1 d1 Y1 b2 d2 Y2 b3 d3 Y3, (vm = M'.val ∧ TmK 6 W N M') → T4 W b0 b1 b2 b3 k0 X0 Y0 k1 X1 Y1 k2 X2 Y2 k3 X3 Y3 → Calls Tryz.prog 9 #[vm, .agg #[.slice b0 k0 d0, .slice b1 k1 d1, .slice b2 k2 d2, .slice b3 k3 d3]] W fun e w' => e = .returned (.tuple #[.bool (vldM N k0 X0 k1 X1 k2 X2 k3 X3), .int .i64 (chkE N)]) ∧ Below W.heap.size W w') := fun W vm M' b0 d0 Y0 b1 d1 Y1 b2 d2 Y2 b3 d3 Y3 h1 h2 => by rw [h1.1]; exact validTw12_c h1.2 HC.out.1.n h2 HC.out.1.s0 HC.out.1.s1 HC.out.1.s2 HC.out.1.s3
  have V2 : Hid (∀ W vm M' a c X', (vm = M'.val ∧ TmK 6 W N M') → Tx W a kp P X' → Calls Tryz.prog 12 #[vm, .slice a kp c] W fun e w' => e = .returned (.tuple #[.bool (decide (pckE N kp P = 0) && feasB (csOf N) (rsOf N) (psOf kp P)), .int .i64 (pckE N kp P)]) ∧ Below W.heap.size W w') := fun W vm M' a c X' h1 h2 => by rw [h1.1]; exact feasTw6_c h1.2 HC.out.1.n h2 HC.out.2.2
  have V3 : Hid (∀ W vm M', (vm = M'.val ∧ TmK 6 W N M') → Calls Tryz.prog 14 #[vm] W fun e w' => CsgAns W w' e (chkE N) (csOf N) (rsOf N)) := fun W vm M' h1 => by rw [h1.1]; exact crossTw12_c h1.2 HC.out.1.n
  obtain ⟨iv, hiv⟩ : ∃ t, vldM N k0 X0 k1 X1 k2 X2 k3 X3 = t := ⟨_, rfl⟩
  obtain ⟨ov, hov⟩ : ∃ t, (decide (pckE N kp P = 0) && feasB (csOf N) (rsOf N) (psOf kp P)) = t := ⟨_, rfl⟩
  obtain ⟨ef, hef⟩ : ∃ t, pckE N kp P = t := ⟨_, rfl⟩
  obtain ⟨ec, hec⟩ : ∃ t, chkE N = t := ⟨_, rfl⟩
  have HS : Hid (iv = true → ov = true → False) := fun e1 e2 => shows12 HO.out (hiv.trans e1) (hov.trans e2)
  have HN : Hid (ec = 0 → ¬ (crl (cvC (csOf N)) (csOf N).length = [] ∧ crl (cvR (rsOf N)) (rsOf N).length = []) → ov = false) := fun e1 e2 => hov.symm.trans (cross12 HO.out (hec.trans e1) e2)
  rw [hiv, hec] at V1
  rw [hov, hef] at V2
  rw [hec] at V3
  have HEC := hid hec
  clear hiv hov hef hec
  have r0 := BM.out.cell (j := 0) rfl
  have r1 := BM.out.cell (j := 1) rfl
  have r2 := BM.out.cell (j := 2) rfl
  have r3 := BM.out.cell (j := 3) rfl
  have r4 := BM.out.cell (j := 4) rfl
  have p0 := BK.out.cell (j := 0) rfl
  have p1 := BK.out.cell (j := 1) rfl
  have p2 := BK.out.cell (j := 2) rfl
  have p3 := BK.out.cell (j := 3) rfl
  go_upto_region 5 with fail
  have hbd := Below.drew (Below.refl v4.heap.size v4)
  replace HB := hid (HB.out.trans (hbd.mono HB.out.size)); replace BM := hid (BM.out.below hbd); replace BK := hid (BK.out.below hbd)
  clear hbd
  refine wp_region_held_drew (S := (fun w' => w'.cell? ⟨w.heap.size, 0, none⟩ = some (.bool s) ∧ w'.cell? ⟨w.heap.size, 1, none⟩ = some (.slice x n c) ∧ w'.cell? ⟨w.heap.size, 2, none⟩ = some (.slice y m d) ∧ w'.cell? ⟨w.heap.size, 3, none⟩ = some (.slice ca ck cc) ∧ w'.cell? ⟨w.heap.size, 4, none⟩ = some (.slice ra rk rc) ∧ w'.cell? ⟨w.heap.size + 1, 0, none⟩ = some (.slice a0 k0 c0) ∧ w'.cell? ⟨w.heap.size + 1, 1, none⟩ = some (.slice a1 k1 c1) ∧ w'.cell? ⟨w.heap.size + 1, 2, none⟩ = some (.slice a2 k2 c2) ∧ w'.cell? ⟨w.heap.size + 1, 3, none⟩ = some (.slice a3 k3 c3))) (by kernel_rfl) ?_ (fun hHeld => ?_)
  · exact ⟨kCd r0, kCd r1, kCd r2, kCd r3, kCd r4, kCd p0, kCd p1, kCd p2, kCd p3⟩
  generalize v4.drew = u0 at *
  clear r0 r1 r2 r3 r4 p0 p1 p2 p3
  obtain ⟨r0, r1, r2, r3, r4, p0, p1, p2, p3⟩ := id hHeld
  refine tkO 0 ?_
  simp only [lay_, Act.put]
  refine tkO 2 ?_
  simp only [lay_, Act.put]
  refine wpAnyH_ready (rs := [1]) (by kernel_rfl) (by simp) ?_
  refine AllReadyH.cons (o := _) rfl (fun K hK => ?_) ?_
  rotate_left
  exact AllReadyH.nil
  go_simp
  go_at_call 10
  refine (T1.out _ HB.out).mono ?_
  rintro e u1 ⟨vm, M1, rfl, hb, hm⟩
  (try go_wp2_with fail)
  refine hK.out _ _ ?_ (fun hH0 => ?_)
  · ((try dsimp only); (refine ⟨?_, ?_, ?_, ?_, ?_, ?_, ?_, ?_, ?_⟩ <;> repeat (with_reducible first | assumption | refine kCb (by assumption) ?_)))
  clear hK K
  try simp only [lay_, Act.put]
  clear r0 r1 r2 r3 r4 p0 p1 p2 p3
  obtain ⟨r0, r1, r2, r3, r4, p0, p1, p2, p3⟩ := id hH0
  replace HB := hid (HB.out.trans (hb.mono HB.out.size)); replace BM := hid (BM.out.below hb); replace BK := hid (BK.out.below hb)
  clear hb
  have HM1 := hid hm.out
  clear hm
  refine wpAnyH_ready (rs := [3]) (by kernel_rfl) (by simp) ?_
  refine AllReadyH.cons (o := _) rfl (fun K hK => ?_) ?_
  rotate_left
  exact AllReadyH.nil
  go_simp
  go_at_call 11
  refine (T2.out _ HB.out).mono ?_
  rintro e u2 ⟨b0, d0, Y0, b1, d1, Y1, b2, d2, Y2, b3, d3, Y3, rfl, hb, ht⟩
  (try go_wp2_with fail)
  refine hK.out _ _ ?_ (fun hH1 => ?_)
  · ((try dsimp only); (refine ⟨?_, ?_, ?_, ?_, ?_, ?_, ?_, ?_, ?_⟩ <;> repeat (with_reducible first | assumption | refine kCb (by assumption) ?_)))
  clear hK K
  try simp only [lay_, Act.put]
  clear r0 r1 r2 r3 r4 p0 p1 p2 p3
  obtain ⟨r0, r1, r2, r3, r4, p0, p1, p2, p3⟩ := id hH1
  replace HM1 := hid (And.intro HM1.out.1 (HM1.out.2.below hb))
  replace HB := hid (HB.out.trans (hb.mono HB.out.size)); replace BM := hid (BM.out.below hb); replace BK := hid (BK.out.below hb)
  clear hb
  have HT1 := hid ht.out
  clear ht
  refine wpAnyH_ready (rs := [4]) (by kernel_rfl) (by simp) ?_
  refine AllReadyH.cons (o := _) rfl (fun K hK => ?_) ?_
  rotate_left
  exact AllReadyH.nil
  go_simp
  go_at_call 9
  refine (V1.out _ vm M1 b0 d0 Y0 b1 d1 Y1 b2 d2 Y2 b3 d3 Y3 HM1.out HT1.out).mono ?_
  rintro e u3 ⟨rfl, hb⟩
  (try go_wp2_with fail)
  refine hK.out _ _ ?_ (fun hH2 => ?_)
  · ((try dsimp only); (refine ⟨?_, ?_, ?_, ?_, ?_, ?_, ?_, ?_, ?_⟩ <;> repeat (with_reducible first | assumption | refine kCb (by assumption) ?_)))
  clear hK K
  try simp only [lay_, Act.put]
  clear r0 r1 r2 r3 r4 p0 p1 p2 p3
  obtain ⟨r0, r1, r2, r3, r4, p0, p1, p2, p3⟩ := id hH2
  replace HB := hid (HB.out.trans (hb.mono HB.out.size)); replace BM := hid (BM.out.below hb); replace BK := hid (BK.out.below hb)
  clear hb
  refine tkO 5 ?_
  simp only [lay_, Act.put]
  refine tkO 6 ?_
  simp only [lay_, Act.put]
  refine tkO 7 ?_
  simp only [lay_, Act.put]
  refine tkO 8 ?_
  simp only [lay_, Act.put]
  refine tkO 9 ?_
  simp only [lay_, Act.put]
  refine wpAnyH_done (by kernel_rfl) ?_ _
  clear hHeld hH0 hH1 hH2 HM1 HT1 V1 T2 r0 r1 r2 r3 r4 p0 p1 p2 p3
  have r0 := BM.out.cell (j := 0) rfl
  have r1 := BM.out.cell (j := 1) rfl
  have r2 := BM.out.cell (j := 2) rfl
  have r3 := BM.out.cell (j := 3) rfl
  have r4 := BM.out.cell (j := 4) rfl
  go_wp2_with fail
  clear r0 r1 r2 r3 r4
  go_at_call 10
  refine (T1.out _ HB.out).mono ?_
  rintro e u4 ⟨vm2, M2, rfl, hb, hm⟩
  replace HB := hid (HB.out.trans (hb.mono HB.out.size)); replace BM := hid (BM.out.below hb); replace BK := hid (BK.out.below hb)
  clear hb
  have HM2 := hid hm.out
  clear hm
  go_wp2_with fail
  go_at_call 13
  refine (T3.out _ HB.out).mono ?_
  rintro e u5 ⟨a, q, Z, rfl, hb, hc, ht⟩
  replace HM2 := hid (And.intro HM2.out.1 (HM2.out.2.below hb))
  replace HB := hid (HB.out.trans (hb.mono HB.out.size)); replace BM := hid (BM.out.below hb); replace BK := hid (BK.out.below hb)
  clear hb
  have HT2 := hid ht.out
  clear ht hc
  go_wp2_with fail
  go_at_call 12
  refine (V2.out _ vm2 M2 a q Z HM2.out HT2.out).mono ?_
  rintro e u6 ⟨rfl, hb⟩
  replace HB := hid (HB.out.trans (hb.mono HB.out.size)); replace BM := hid (BM.out.below hb); replace BK := hid (BK.out.below hb)
  clear hb
  clear HM2 HT2 V2 T3
  have HF : Hid (¬ (ec = 0 ∧ ef = 0 ∧ iv = true ∧ ov = true)) := fun h => HS.out h.2.2.1 h.2.2.2
  go_upto_region 7 with fail
  go_cut [54] from 43 to 54 (fun q wx => q = .bool false ∧ wx = u6)
  case first =>
    by_cases e1 : ec = 0
    · subst e1
      by_cases e2 : ef = 0
      · subst e2
        cases iv
        · go_wp2_with fail
          go_meet
          exact ⟨by rfl, rfl⟩
        · have HF2 : Hid (ov = false) := by
            cases ov
            · exact rfl
            · exact absurd ⟨rfl, rfl, rfl, rfl⟩ HF.out
          have hov := HF2.out
          subst hov
          go_wp2_with fail
          go_meet
          exact ⟨by rfl, rfl⟩
      · have h1 : (ef == 0) = false := by simpa using e2
        go_wp2_with fail
        go_meet
        exact ⟨by rfl, rfl⟩
    · have h1 : (ec == 0) = false := by simpa using e1
      go_wp2_with fail
      go_meet
      exact ⟨by rfl, rfl⟩
  case rest =>
    obtain ⟨rfl, rfl⟩ := hcut
    clear HF HS
    have r0 := BM.out.cell (j := 0) rfl
    have r1 := BM.out.cell (j := 1) rfl
    have r2 := BM.out.cell (j := 2) rfl
    have r3 := BM.out.cell (j := 3) rfl
    have r4 := BM.out.cell (j := 4) rfl
    go_wp2_with fail
    clear r0 r1 r2 r3 r4
    go_at_call 10
    refine (T1.out _ HB.out).mono ?_
    rintro e u7 ⟨vm3, M3, rfl, hb, hm⟩
    replace HB := hid (HB.out.trans (hb.mono HB.out.size)); replace BM := hid (BM.out.below hb); replace BK := hid (BK.out.below hb)
    clear hb
    have HM3 := hid hm.out
    clear hm
    go_wp2_with fail
    go_at_call 14
    refine (V3.out _ vm3 M3 HM3.out).mono ?_
    rintro e u8 ⟨hb, ⟨h9, rfl⟩ | ⟨h9, _, rfl⟩ | ⟨h9, hcr, B0, B1, B2, B3, rfl, hf0, hf1, hf2, hf3⟩⟩
    · have h1 : (ec != 0) = true := by simpa using h9
      have HFF := hid (below_alloc (HB.out.trans (hb.mono HB.out.size)) (.cells #[.slice none 0 0, .slice none 0 0, .slice none 0 0, .slice none 0 0] 31))
      clear hb HB BM BK HM3
      go_wp2
      go_ret
      exact ⟨rfl, HFF.out⟩
    · subst h9
      have HFF := hid (below_alloc (HB.out.trans (hb.mono HB.out.size)) (.cells #[.slice none 0 0, .slice none 0 0, .slice none 0 0, .slice none 0 0] 31))
      clear hb HB BM BK HM3
      go_wp2
      go_ret
      exact ⟨rfl, HFF.out⟩
    · subst h9
      have HOV := hid (HN.out (by first | rfl | trivial) hcr)
      have HMV := hid (cross_vld (HO.out HEC.out) hcr)
      have hbn := below_alloc (Below.refl u8.heap.size u8) (.cells #[.slice (some ⟨B0, 0, none⟩) (rsOf N).length (rsOf N).length, .slice (some ⟨B1, 0, none⟩) (rsOf N).length (rsOf N).length, .slice (some ⟨B2, 0, none⟩) (csOf N).length (csOf N).length, .slice (some ⟨B3, 0, none⟩) (csOf N).length (csOf N).length] 31)
      have BC := hid (bk_new u8 [.slice (some ⟨B0, 0, none⟩) (rsOf N).length (rsOf N).length, .slice (some ⟨B1, 0, none⟩) (rsOf N).length (rsOf N).length, .slice (some ⟨B2, 0, none⟩) (csOf N).length (csOf N).length, .slice (some ⟨B3, 0, none⟩) (csOf N).length (csOf N).length] 31)
      replace BC : Hid (Bk (u8.alloc (.cells #[.slice (some ⟨B0, 0, none⟩) (rsOf N).length (rsOf N).length, .slice (some ⟨B1, 0, none⟩) (rsOf N).length (rsOf N).length, .slice (some ⟨B2, 0, none⟩) (csOf N).length (csOf N).length, .slice (some ⟨B3, 0, none⟩) (csOf N).length (csOf N).length] 31)) u8.heap.size [.slice (some ⟨B0, 0, none⟩) (rsOf N).length (rsOf N).length, .slice (some ⟨B1, 0, none⟩) (rsOf N).length (rsOf N).length, .slice (some ⟨B2, 0, none⟩) (csOf N).length (csOf N).length, .slice (some ⟨B3, 0, none⟩) (csOf N).length (csOf N).length] 31) := BC
      have F0 := hid (hf0.below hbn); have F1 := hid (hf1.below hbn); have F2 := hid (hf2.below hbn); have F3 := hid (hf3.below hbn)
      have hb8 := hb.trans (hbn.mono hb.size)
      replace HB := hid (HB.out.trans (hb8.mono HB.out.size)); replace BM := hid (BM.out.below hb8); replace BK := hid (BK.out.below hb8)
      clear hb8
      clear hb hbn hf0 hf1 hf2 hf3 hcr HM3 V3 HN
      have hov := HOV.out
      subst hov
      go_upto_region 12 with fail
      generalize u8.alloc (.cells #[.slice (some ⟨B0, 0, none⟩) (rsOf N).length (rsOf N).length, .slice (some ⟨B1, 0, none⟩) (rsOf N).length (rsOf N).length, .slice (some ⟨B2, 0, none⟩) (csOf N).length (csOf N).length, .slice (some ⟨B3, 0, none⟩) (csOf N).length (csOf N).length] 31) = u9 at *
      generalize u8.heap.size = xc at *
      have hbd := Below.drew (Below.refl u9.heap.size u9)
      replace BC := hid (BC.out.below hbd); replace F0 := hid (F0.out.below hbd); replace F1 := hid (F1.out.below hbd); replace F2 := hid (F2.out.below hbd); replace F3 := hid (F3.out.below hbd)
      replace HB := hid (HB.out.trans (hbd.mono HB.out.size)); replace BM := hid (BM.out.below hbd); replace BK := hid (BK.out.below hbd)
      clear hbd
      have r0 := BM.out.cell (j := 0) rfl
      have r1 := BM.out.cell (j := 1) rfl
      have r2 := BM.out.cell (j := 2) rfl
      have r3 := BM.out.cell (j := 3) rfl
      have r4 := BM.out.cell (j := 4) rfl
      have q0 := BC.out.cell (j := 0) rfl
      have q1 := BC.out.cell (j := 1) rfl
      have q2 := BC.out.cell (j := 2) rfl
      have q3 := BC.out.cell (j := 3) rfl
      refine wp_region_held_drew (S := (fun w' => w'.cell? ⟨w.heap.size, 0, none⟩ = some (.bool s) ∧ w'.cell? ⟨w.heap.size, 1, none⟩ = some (.slice x n c) ∧ w'.cell? ⟨w.heap.size, 2, none⟩ = some (.slice y m d) ∧ w'.cell? ⟨w.heap.size, 3, none⟩ = some (.slice ca ck cc) ∧ w'.cell? ⟨w.heap.size, 4, none⟩ = some (.slice ra rk rc) ∧ w'.cell? ⟨xc, 0, none⟩ = some (.slice (some ⟨B0, 0, none⟩) (rsOf N).length (rsOf N).length) ∧ w'.cell? ⟨xc, 1, none⟩ = some (.slice (some ⟨B1, 0, none⟩) (rsOf N).length (rsOf N).length) ∧ w'.cell? ⟨xc, 2, none⟩ = some (.slice (some ⟨B2, 0, none⟩) (csOf N).length (csOf N).length) ∧ w'.cell? ⟨xc, 3, none⟩ = some (.slice (some ⟨B3, 0, none⟩) (csOf N).length (csOf N).length))) (by kernel_rfl) ?_ (fun hHeld => ?_)
      · exact ⟨r0, r1, r2, r3, r4, q0, q1, q2, q3⟩
      generalize u9.drew = ua at *
      refine tkO 0 ?_
      simp only [lay_, Act.put]
      refine tkO 2 ?_
      simp only [lay_, Act.put]
      refine wpAnyH_ready (rs := [1]) (by kernel_rfl) (by simp) ?_
      refine AllReadyH.cons (o := _) rfl (fun K hK => ?_) ?_
      rotate_left
      exact AllReadyH.nil
      go_simp
      go_at_call 10
      refine (T1.out _ HB.out).mono ?_
      rintro e ub ⟨vm4, M4, rfl, hb, hm⟩
      (try go_wp2_with fail)
      refine hK.out _ _ ?_ (fun hH3 => ?_)
      · ((try dsimp only); (refine ⟨?_, ?_, ?_, ?_, ?_, ?_, ?_, ?_, ?_⟩ <;> repeat (with_reducible first | assumption | refine kCb (by assumption) ?_)))
      clear hK K
      try simp only [lay_, Act.put]
      clear r0 r1 r2 r3 r4 q0 q1 q2 q3
      obtain ⟨r0, r1, r2, r3, r4, q0, q1, q2, q3⟩ := id hH3
      replace F0 := hid (F0.out.below hb); replace F1 := hid (F1.out.below hb); replace F2 := hid (F2.out.below hb); replace F3 := hid (F3.out.below hb)
      replace HB := hid (HB.out.trans (hb.mono HB.out.size)); replace BM := hid (BM.out.below hb); replace BK := hid (BK.out.below hb)
      clear hb
      have HM4 := hid hm.out
      clear hm
      obtain ⟨hvm, htm⟩ := HM4.out
      have vv := htm.valL 6 (by decide) (by decide) HC.out.1.n HEC.out
      have CV := hid (fValid_q (L := 6) (c0 := (rsOf N).length) (c1 := (rsOf N).length) (c2 := (csOf N).length) (c3 := (csOf N).length) vv.1 vv.2 (Rf.mono F0.out (by decide)) (Rf.mono F1.out (by decide)) (Rf.mono F2.out (by decide)) (Rf.mono F3.out (by decide)) (ulst_len _ _) (ulst_len _ _) (ulst_len _ _) (ulst_len _ _) rfl rfl rfl rfl (by decide) (by decide))
      rw [HMV.out, ← hvm] at CV
      clear hvm htm vv
      refine wpAnyH_ready (rs := [3]) (by kernel_rfl) (by simp) ?_
      refine AllReadyH.cons (o := _) rfl (fun K hK => ?_) ?_
      rotate_left
      exact AllReadyH.nil
      go_simp
      go_at_call 9
      refine CV.out.mono ?_
      rintro e uc ⟨rfl, hb⟩
      (try go_wp2_with fail)
      refine hK.out _ _ ?_ (fun hH4 => ?_)
      · ((try dsimp only); (refine ⟨?_, ?_, ?_, ?_, ?_, ?_, ?_, ?_, ?_⟩ <;> repeat (with_reducible first | assumption | refine kCb (by assumption) ?_)))
      clear hK K
      try simp only [lay_, Act.put]
      clear hHeld hH3 r0 r1 r2 r3 r4 q0 q1 q2 q3
      replace HB := hid (HB.out.trans (hb.mono HB.out.size)); replace BM := hid (BM.out.below hb); replace BK := hid (BK.out.below hb)
      clear hb
      refine tkO 4 ?_
      simp only [lay_, Act.put]
      refine tkO 5 ?_
      simp only [lay_, Act.put]
      refine tkO 6 ?_
      simp only [lay_, Act.put]
      refine tkO 7 ?_
      simp only [lay_, Act.put]
      refine tkO 8 ?_
      simp only [lay_, Act.put]
      refine wpAnyH_done (by kernel_rfl) ?_ _
      clear hH4 CV HM4 BC F0 F1 F2 F3
      go_wp2
      go_ret
      exact ⟨by first | rfl | simp, HB.out⟩
end Go.Proofs.YtedpomledbgpoaaGreat
