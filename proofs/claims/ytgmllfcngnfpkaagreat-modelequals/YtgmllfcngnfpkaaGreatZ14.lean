/-
  The walk of the law ModelNames (written by makers/f28.py).
-/
import Derived.Test.YtgmllfcngnfpkaaGreatZ13
namespace Go.Proofs.YtgmllfcngnfpkaaGreat
open Go.RowKit

/-- What a law of models begins with: the parameter's box, and whether the model is light. -/
theorem twin_w {w : World} {M : Mo} {K : Nat} (hX : MoX w M) (hN : MoN M) (hk : M.ck ≤ 64 → M.rk ≤ 64 → MoK K M) (hK : K ≤ 65536) : Calls Tryz.prog 12 #[M.val] w fun e w' => ∃ M' : Mo, e = .returned M'.val ∧ Below w.heap.size w w' ∧ Sm M M' ∧ MoW w' M' ∧ MoX w' M' ∧ (M'.ck ≤ 64 → M'.rk ≤ 64 → MoK K M') :=
  (mTwin_c hX).mono fun e w' ⟨M', h1, h2, h3, h4⟩ => ⟨M', h1, h2, h3, fun a b => h4.mor (h3.mon hN) (h3.mok (hk (by rw [← h3.ck]; exact a) (by rw [← h3.rk]; exact b))) hK a b, h4, fun a b => h3.mok (hk (by rw [← h3.ck]; exact a) (by rw [← h3.rk]; exact b))⟩
theorem lgM_k {K : Nat} {M : Mo} (h : lgM K M = true) : M.ck ≤ 64 → M.rk ≤ 64 → MoK K M := fun a b => lgM_at h a b
theorem MoX.both {w M K} (h : MoX w M) (hn : MoN M) (hk : M.ck ≤ 64 → M.rk ≤ 64 → MoK K M) (hK : K ≤ 1000) : M.ck ≤ 64 → M.rk ≤ 64 → MoR w M ∧ MoS M := fun a b => ⟨h.mor hn (hk a b) (Nat.le_trans hK (by decide)) a b, (hk a b).mos hK⟩

set_option maxRecDepth 100000 in
set_option maxHeartbeats 8000000 in
theorem modelNames_c {w : World} {M : Mo} {z : ByteArray} (hX : MoX w M) (hN : MoN M) (hC : MoC M) : Calls Tryz.prog 5 #[M.val, .string z] w fun e w' => e = .returned (.bool true) ∧ Below w.heap.size w w' := by
  obtain ⟨lb, hlb⟩ : ∃ t, lgM 10 M = t := ⟨_, rfl⟩
  have CL := hid (fun w' (hw : Below w.heap.size w w') => mLight_c (w := w') (K := 10) (hX.below hw).light.1 (hX.below hw).light.2)
  rw [hlb] at CL
  obtain ⟨⟨p1, p2⟩, hp⟩ : ∃ a, atCol M z = a := ⟨_, rfl⟩
  obtain ⟨⟨q1, q2⟩, hq⟩ : ∃ a, atRow M z = a := ⟨_, rfl⟩
  have CT := hid (fun w' (hw : Below w.heap.size w w') (h : lb = true) => twin_w (w := w') (K := 10) (hX.below hw) hN (lgM_k (hlb.trans h)) (by decide))
  have CC := hid (fun w' (hw : Below w.heap.size w w') (h : lb = true) => docCol_c (w := w') (z := z) ((hX.below hw).both hN (lgM_k (hlb.trans h)) (by decide)) hC)
  have CR := hid (fun w' (hw : Below w.heap.size w w') (h : lb = true) => docRow_c (w := w') (z := z) ((hX.below hw).both hN (lgM_k (hlb.trans h)) (by decide)) hC)
  rw [hp] at CC
  rw [hq] at CR
  have HP := hid (fun M' (h : Sm M M') => (h.col z).trans hp)
  have HQ := hid (fun M' (h : Sm M M') => (h.row z).trans hq)
  obtain ⟨N, hN'⟩ : ∃ N, N = M := ⟨_, rfl⟩
  rw [← hN'] at HP HQ CT
  clear hX hN hC hlb hp hq
  obtain ⟨⟨s, x, n, c, f, y, m, d, g⟩, ca, ck, cc, C, ra, rk, rc, R⟩ := M
  have hNv : N.val = .agg #[.bool s, .slice x n c, .slice y m d, .slice ca ck cc, .slice ra rk rc] := by rw [hN']; rfl
  rw [hNv] at CT
  clear hN'
  replace CL : Hid (∀ w', Below w.heap.size w w' → Calls Tryz.prog 10 #[.agg #[.bool s, .slice x n c, .slice y m d, .slice ca ck cc, .slice ra rk rc], .int .i64 10] w' fun e w2 => e = .returned (.bool lb) ∧ Below w'.heap.size w' w2) := CL
  replace CC : Hid (∀ w', Below w.heap.size w w' → lb = true → Calls Tryz.prog 23 #[.agg #[.bool s, .slice x n c, .slice y m d, .slice ca ck cc, .slice ra rk rc], .string z] w' fun e w2 => e = .returned (.tuple #[.int .i64 p1, .int .i64 p2]) ∧ Below w'.heap.size w' w2) := CC
  replace CR : Hid (∀ w', Below w.heap.size w w' → lb = true → Calls Tryz.prog 25 #[.agg #[.bool s, .slice x n c, .slice y m d, .slice ca ck cc, .slice ra rk rc], .string z] w' fun e w2 => e = .returned (.tuple #[.int .i64 q1, .int .i64 q2]) ∧ Below w'.heap.size w' w2) := CR
  show Calls Tryz.prog 5 #[.agg #[.bool s, .slice x n c, .slice y m d, .slice ca ck cc, .slice ra rk rc], .string z] w _
  have HB0 := hid (below_alloc (Below.refl w.heap.size w) (.cells #[.bool s, .slice x n c, .slice y m d, .slice ca ck cc, .slice ra rk rc] 28))
  have B0 := bk_new w [.bool s, .slice x n c, .slice y m d, .slice ca ck cc, .slice ra rk rc] 28
  replace B0 : Bk (w.alloc (.cells #[.bool s, .slice x n c, .slice y m d, .slice ca ck cc, .slice ra rk rc] 28)) w.heap.size [.bool s, .slice x n c, .slice y m d, .slice ca ck cc, .slice ra rk rc] 28 := B0
  go_enter Tryz.func5, Tryz.ntmps5
  go_wp2_with fail
  generalize w.alloc (.cells #[.bool s, .slice x n c, .slice y m d, .slice ca ck cc, .slice ra rk rc] 28) = w0 at *
  refine awake7_c.mono ?_
  rintro e w1 ⟨rfl, hb1⟩
  have HB1 := hid (HB0.out.trans (hb1.mono HB0.out.size)); have B1 := B0.below hb1
  clear hb1 HB0 B0
  have r0 := B1.cell (j := 0) rfl
  have r1 := B1.cell (j := 1) rfl
  have r2 := B1.cell (j := 2) rfl
  have r3 := B1.cell (j := 3) rfl
  have r4 := B1.cell (j := 4) rfl
  go_wp2_with fail
  refine (CL.out _ HB1.out).mono ?_
  rintro e w2 ⟨rfl, hb2⟩
  have HB2 := hid (HB1.out.trans (hb2.mono HB1.out.size)); have B2 := B1.below hb2
  clear hb2 HB1 B1 CL r0 r1 r2 r3 r4
  cases lb
  · go_wp2
    go_ret
    exact ⟨rfl, HB2.out⟩
  have r0 := B2.cell (j := 0) rfl
  have r1 := B2.cell (j := 1) rfl
  have r2 := B2.cell (j := 2) rfl
  have r3 := B2.cell (j := 3) rfl
  have r4 := B2.cell (j := 4) rfl
  go_wp2_with fail
  refine (CT.out _ HB2.out (by first | rfl | trivial)).mono ?_
  rintro e w3 ⟨M1, rfl, hb3, hs, hw1, hx1, _⟩
  have C1 := hid (mCol_c (z := z) hw1)
  rw [HP.out M1 hs] at C1
  obtain ⟨⟨s', x', n', c', f', y', m', d', g'⟩, ca', ck', cc', C', ra', rk', rc', R'⟩ := M1
  replace C1 : Hid (Calls Tryz.prog 22 #[.agg #[.bool s', .slice x' n' c', .slice y' m' d', .slice ca' ck' cc', .slice ra' rk' rc'], .string z] w3 fun e w2 => e = .returned (.tuple #[.int .i64 p1, .int .i64 p2]) ∧ Below w3.heap.size w3 w2) := C1
  have HB3 := hid (HB2.out.trans (hb3.mono HB2.out.size)); have B3 := B2.below hb3
  clear hb3 HB2 B2 hs hw1 hx1 r0 r1 r2 r3 r4
  go_wp2_with fail
  refine C1.out.mono ?_
  rintro e w4 ⟨rfl, hb4⟩
  have HB4 := hid (HB3.out.trans (hb4.mono HB3.out.size)); have B4 := B3.below hb4
  clear hb4 HB3 B3 C1
  have r0 := B4.cell (j := 0) rfl
  have r1 := B4.cell (j := 1) rfl
  have r2 := B4.cell (j := 2) rfl
  have r3 := B4.cell (j := 3) rfl
  have r4 := B4.cell (j := 4) rfl
  go_wp2_with fail
  refine (CC.out _ HB4.out (by first | rfl | trivial)).mono ?_
  rintro e w5 ⟨rfl, hb5⟩
  have HB5 := hid (HB4.out.trans (hb5.mono HB4.out.size)); have B5 := B4.below hb5
  clear hb5 HB4 B4 CC r0 r1 r2 r3 r4
  have r0 := B5.cell (j := 0) rfl
  have r1 := B5.cell (j := 1) rfl
  have r2 := B5.cell (j := 2) rfl
  have r3 := B5.cell (j := 3) rfl
  have r4 := B5.cell (j := 4) rfl
  go_wp2_with fail
  refine (CT.out _ HB5.out (by first | rfl | trivial)).mono ?_
  rintro e w6 ⟨M2, rfl, hb6, hs, hw1, hx1, _⟩
  have C1 := hid (mRow_c (z := z) hw1)
  rw [HQ.out M2 hs] at C1
  obtain ⟨⟨s', x', n', c', f', y', m', d', g'⟩, ca', ck', cc', C', ra', rk', rc', R'⟩ := M2
  replace C1 : Hid (Calls Tryz.prog 24 #[.agg #[.bool s', .slice x' n' c', .slice y' m' d', .slice ca' ck' cc', .slice ra' rk' rc'], .string z] w6 fun e w2 => e = .returned (.tuple #[.int .i64 q1, .int .i64 q2]) ∧ Below w6.heap.size w6 w2) := C1
  have HB6 := hid (HB5.out.trans (hb6.mono HB5.out.size)); have B6 := B5.below hb6
  clear hb6 HB5 B5 hs hw1 hx1 r0 r1 r2 r3 r4
  go_wp2_with fail
  refine C1.out.mono ?_
  rintro e w7 ⟨rfl, hb7⟩
  have HB7 := hid (HB6.out.trans (hb7.mono HB6.out.size)); have B7 := B6.below hb7
  clear hb7 HB6 B6 C1
  have r0 := B7.cell (j := 0) rfl
  have r1 := B7.cell (j := 1) rfl
  have r2 := B7.cell (j := 2) rfl
  have r3 := B7.cell (j := 3) rfl
  have r4 := B7.cell (j := 4) rfl
  go_wp2_with fail
  refine (CR.out _ HB7.out (by first | rfl | trivial)).mono ?_
  rintro e w8 ⟨rfl, hb8⟩
  have HB8 := hid (HB7.out.trans (hb8.mono HB7.out.size))
  clear hb8 HB7 B7 CR r0 r1 r2 r3 r4
  go_wp2
  go_ret
  exact ⟨rfl, HB8.out⟩
end Go.Proofs.YtgmllfcngnfpkaaGreat
