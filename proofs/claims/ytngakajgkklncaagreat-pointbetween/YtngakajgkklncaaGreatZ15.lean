/-
  The walk of the law PointBetween (written by makers/rg4.py).
-/
import Derived.Test.YtngakajgkklncaaGreatZ13
import Derived.Test.YtngakajgkklncaaGreatZ14
namespace Go.Proofs.YtngakajgkklncaaGreat
open Go.RowKit

/-- What is handed to PointBetween, once it is light. -/
structure Cb10 (w : World) (M : Mo) (ax : Option Addr) (kx : Nat) (Y : Nat → Nm) (ao : Option Addr) (ko : Nat) (X : Nat → Nm) : Prop where
  x : MoX w M
  n : MoN M
  k : M.ck ≤ 64 → M.rk ≤ 64 → MoK 6 M
  hy : Rl w ax kx Y
  hx : Rl w ao ko X
  sy : Sh kx Y
  sx : Sh ko X
set_option maxRecDepth 100000 in
set_option maxHeartbeats 16000000 in
theorem pointBetween_c {w : World} {M : Mo} {ax : Option Addr} {kx cx : Nat} {Y : Nat → Nm} {ao : Option Addr} {ko co : Nat} {X : Nat → Nm} (hX : MoX w M) (hN : MoN M) (_ : MoC M) (hy : Rr w ax kx Y) (hkx : kx ≤ 9223372036854775807) (hx : Rr w ao ko X) (hko : ko ≤ 9223372036854775807) :
    Calls Tryz.prog 4 #[M.val, .slice ax kx cx, .slice ao ko co] w fun e w' => e = .returned (.bool true) ∧ Below w.heap.size w w' := by
  obtain ⟨lb, hlb⟩ : ∃ t, lgM 6 M = t := ⟨_, rfl⟩
  obtain ⟨la, hla⟩ : ∃ t, lgL 6 kx Y = t := ⟨_, rfl⟩
  obtain ⟨lc, hlc⟩ : ∃ t, lgL 6 ko X = t := ⟨_, rfl⟩
  have CL := hid (fun w' (hw : Below w.heap.size w w') => mLight_c (w := w') (K := 6) (hX.below hw).light.1 (hX.below hw).light.2)
  rw [hlb] at CL
  have CA : Hid (∀ W, Below w.heap.size w W → Calls Tryz.prog 8 #[.slice ax kx cx, .int .i64 6] W fun e w' => e = .returned (.bool la) ∧ Below W.heap.size W w') := fun W hW => by
    have := rLights_c (cap := cx) 6 (hy.below hW) hkx
    rw [show (decide (kx ≤ 300) && nlg 6 Y kx 0) = la from hla] at this; exact this
  have CB : Hid (∀ W, Below w.heap.size w W → Calls Tryz.prog 8 #[.slice ao ko co, .int .i64 6] W fun e w' => e = .returned (.bool lc) ∧ Below W.heap.size W w') := fun W hW => by
    have := rLights_c (cap := co) 6 (hx.below hW) hko
    rw [show (decide (ko ≤ 300) && nlg 6 X ko 0) = lc from hlc] at this; exact this
  obtain ⟨N, hN'⟩ : ∃ N, N = M := ⟨_, rfl⟩
  have HC : Hid (lb = true → la = true → lc = true → Cb10 w N ax kx Y ao ko X) := fun e1 e2 e3 => by
    subst hN'
    subst e1; subst e2; subst e3
    refine ⟨hX, hN, lgM_k hlb, ?_, ?_, lgL_sh hla, lgL_sh hlc⟩
    · simp only [lgL, Bool.and_eq_true] at hla; exact hy.rl hla.2 (by decide)
    · simp only [lgL, Bool.and_eq_true] at hlc; exact hx.rl hlc.2 (by decide)
  clear hX hN hy hx hlb hla hlc hkx hko
  obtain ⟨⟨s, x, n, c, f, y, m, d, g⟩, ca, ck, cc, C, ra, rk, rc, R⟩ := M
  have hNv : Hid (N.val = .agg #[.bool s, .slice x n c, .slice y m d, .slice ca ck cc, .slice ra rk rc]) := by rw [hN']; exact rfl
  clear hN'
  replace CL : Hid (∀ w', Below w.heap.size w w' → Calls Tryz.prog 7 #[.agg #[.bool s, .slice x n c, .slice y m d, .slice ca ck cc, .slice ra rk rc], .int .i64 6] w' fun e w2 => e = .returned (.bool lb) ∧ Below w'.heap.size w' w2) := CL
  show Calls Tryz.prog 4 #[.agg #[.bool s, .slice x n c, .slice y m d, .slice ca ck cc, .slice ra rk rc], .slice ax kx cx, .slice ao ko co] w _
  have HB := hid (below_alloc (Below.refl w.heap.size w) (.cells #[.bool s, .slice x n c, .slice y m d, .slice ca ck cc, .slice ra rk rc] 28))
  have BM : Hid (Bk (w.alloc (.cells #[.bool s, .slice x n c, .slice y m d, .slice ca ck cc, .slice ra rk rc] 28)) w.heap.size [.bool s, .slice x n c, .slice y m d, .slice ca ck cc, .slice ra rk rc] 28) := bk_new w [.bool s, .slice x n c, .slice y m d, .slice ca ck cc, .slice ra rk rc] 28
  go_enter Tryz.func4, Tryz.ntmps4
  go_wp2_with fail
  generalize (w.alloc (.cells #[.bool s, .slice x n c, .slice y m d, .slice ca ck cc, .slice ra rk rc] 28)) = v0 at *
  refine (awake10_c _).mono ?_
  rintro e v1 ⟨rfl, hb⟩
  replace HB := hid (HB.out.trans (hb.mono HB.out.size)); replace BM := hid (BM.out.below hb)
  clear hb
  have r0 := BM.out.cell (j := 0) rfl
  have r1 := BM.out.cell (j := 1) rfl
  have r2 := BM.out.cell (j := 2) rfl
  have r3 := BM.out.cell (j := 3) rfl
  have r4 := BM.out.cell (j := 4) rfl
  go_wp2_with fail
  clear r0 r1 r2 r3 r4
  refine (CL.out _ HB.out).mono ?_
  rintro e v2 ⟨rfl, hb⟩
  replace HB := hid (HB.out.trans (hb.mono HB.out.size)); replace BM := hid (BM.out.below hb)
  clear hb CL
  cases lb
  · go_wp2
    go_ret
    exact ⟨by first | rfl | simp, HB.out⟩
  go_wp2_with fail
  refine (CA.out _ HB.out).mono ?_
  rintro e v3 ⟨rfl, hb⟩
  replace HB := hid (HB.out.trans (hb.mono HB.out.size)); replace BM := hid (BM.out.below hb)
  clear hb CA
  cases la
  · go_wp2
    go_ret
    exact ⟨by first | rfl | simp, HB.out⟩
  go_wp2_with fail
  refine (CB.out _ HB.out).mono ?_
  rintro e v4 ⟨rfl, hb⟩
  replace HB := hid (HB.out.trans (hb.mono HB.out.size)); replace BM := hid (BM.out.below hb)
  clear hb CB
  cases lc
  · go_wp2
    go_ret
    exact ⟨by first | rfl | simp, HB.out⟩
  replace HC := hid (HC.out (by first | rfl | trivial) (by first | rfl | trivial) (by first | rfl | trivial))
  have T1 : Hid (∀ W, Below w.heap.size w W → Calls Tryz.prog 10 #[.agg #[.bool s, .slice x n c, .slice y m d, .slice ca ck cc, .slice ra rk rc]] W fun e w' => ∃ (vm : Value) (M' : Mo), e = .returned vm ∧ Below W.heap.size W w' ∧ Hid (vm = M'.val ∧ Tm w' N M')) := fun W hW => by
    have := twinT10_c (HC.out.x.below hW) HC.out.n HC.out.k
    rw [hNv.out] at this
    exact this
  obtain ⟨ea, hea⟩ : ∃ t, pckE N kx Y = t := ⟨_, rfl⟩
  obtain ⟨fa, hfa⟩ : ∃ t, (decide (pckE N kx Y = 0) && feasB (csOf N) (rsOf N) (psOf kx Y)) = t := ⟨_, rfl⟩
  obtain ⟨eb, heb⟩ : ∃ t, pckE N ko X = t := ⟨_, rfl⟩
  obtain ⟨fb, hfb⟩ : ∃ t, (decide (pckE N ko X = 0) && feasB (csOf N) (rsOf N) (psOf ko X)) = t := ⟨_, rfl⟩
  have FA : Hid (∀ W vm M', Below w.heap.size w W → (vm = M'.val ∧ Tm W N M') → Calls Tryz.prog 17 #[vm, .slice ax kx cx] W fun e w' => e = .returned (.tuple #[.bool fa, .int .i64 ea]) ∧ Below W.heap.size W w') := fun W vm M' hW h1 => by
    have := feasTw_c (cap := cx) h1.2 HC.out.n (tx_self (HC.out.hy.below hW)) HC.out.sy
    rw [hfa, hea, ← h1.1] at this; exact this
  have FB : Hid (∀ W vm M', Below w.heap.size w W → (vm = M'.val ∧ Tm W N M') → Calls Tryz.prog 17 #[vm, .slice ao ko co] W fun e w' => e = .returned (.tuple #[.bool fb, .int .i64 eb]) ∧ Below W.heap.size W w') := fun W vm M' hW h1 => by
    have := feasTw_c (cap := co) h1.2 HC.out.n (tx_self (HC.out.hx.below hW)) HC.out.sx
    rw [hfb, heb, ← h1.1] at this; exact this
  have r0 := BM.out.cell (j := 0) rfl
  have r1 := BM.out.cell (j := 1) rfl
  have r2 := BM.out.cell (j := 2) rfl
  have r3 := BM.out.cell (j := 3) rfl
  have r4 := BM.out.cell (j := 4) rfl
  go_wp2_with fail
  clear r0 r1 r2 r3 r4
  refine (T1.out _ HB.out).mono ?_
  rintro e v5 ⟨vm, M1, rfl, hb, H1⟩
  replace HB := hid (HB.out.trans (hb.mono HB.out.size)); replace BM := hid (BM.out.below hb)
  clear hb
  go_wp2_with fail
  refine (FA.out _ vm M1 HB.out H1.out).mono ?_
  rintro e v6 ⟨rfl, hb⟩
  replace HB := hid (HB.out.trans (hb.mono HB.out.size)); replace BM := hid (BM.out.below hb)
  clear hb H1
  have r0 := BM.out.cell (j := 0) rfl
  have r1 := BM.out.cell (j := 1) rfl
  have r2 := BM.out.cell (j := 2) rfl
  have r3 := BM.out.cell (j := 3) rfl
  have r4 := BM.out.cell (j := 4) rfl
  go_wp2_with fail
  clear r0 r1 r2 r3 r4
  refine (T1.out _ HB.out).mono ?_
  rintro e v7 ⟨vm, M1, rfl, hb, H1⟩
  replace HB := hid (HB.out.trans (hb.mono HB.out.size)); replace BM := hid (BM.out.below hb)
  clear hb
  go_wp2_with fail
  refine (FB.out _ vm M1 HB.out H1.out).mono ?_
  rintro e v8 ⟨rfl, hb⟩
  replace HB := hid (HB.out.trans (hb.mono HB.out.size)); replace BM := hid (BM.out.below hb)
  clear hb H1 FA FB
  by_cases h0 : ea = 0
  case neg =>
    have z1 : (ea != 0) = true := by simpa using h0
    have z2 : fa = false := by rw [← hfa, hea, decide_eq_false h0]; rfl
    subst z2
    by_cases h2 : eb = 0
    · have z3 : (eb != 0) = false := by simp [h2]
      clear hea heb hfa hfb h0 h2
      clear HC T1 hNv
      go_wp2
      go_ret
      exact ⟨by first | rfl | simp, HB.out⟩
    · have z3 : (eb != 0) = true := by simpa using h2
      have z4 : fb = false := by rw [← hfb, heb, decide_eq_false h2]; rfl
      subst z4
      clear hea heb hfa hfb h0 h2
      clear HC T1 hNv
      go_wp2
      go_ret
      exact ⟨by first | rfl | simp, HB.out⟩
  subst h0
  by_cases h0 : eb = 0
  case neg =>
    have z1 : (eb != 0) = true := by simpa using h0
    have z2 : fb = false := by rw [← hfb, heb, decide_eq_false h0]; rfl
    subst z2
    clear hea heb hfa hfb h0
    clear HC T1 hNv
    go_wp2
    go_ret
    exact ⟨by first | rfl | simp, HB.out⟩
  subst h0
  obtain ⟨c0, fy, ky⟩ := pckE_two hea
  obtain ⟨_, fx, ko2⟩ := pckE_two heb
  have hkk : kx = ko := by omega
  subst hkk
  clear ko2
  rw [hea, decide_eq_true rfl, Bool.true_and] at hfa
  rw [heb, decide_eq_true rfl, Bool.true_and] at hfb
  have hlen : (psOf kx Y).length = (psOf kx X).length := by rw [psOf_len, psOf_len]
  obtain ⟨fo, hfo⟩ : ∃ t, feasB (csOf N) (rsOf N) (btw (psOf kx Y) (psOf kx X)) = t := ⟨_, rfl⟩
  have HON : Hid (fa = true → fb = true → fo = true) := fun a b => by rw [← hfo]; exact feas_btw hlen (hfa.trans a) (hfb.trans b)
  obtain ⟨kv6, hk6⟩ : ∃ t, KV 6 = t := ⟨_, rfl⟩
  obtain ⟨kv20, hk20⟩ : ∃ t, KV 20 = t := ⟨_, rfl⟩
  obtain ⟨ka6, hka6⟩ : ∃ t, KA 6 = t := ⟨_, rfl⟩
  obtain ⟨ka20, hka20⟩ : ∃ t, KA 20 = t := ⟨_, rfl⟩
  have HKS : Hid (kv6 ≤ 1200 ∧ ka6 ≤ 1200 ∧ kv20 ≤ 100000 ∧ ka20 ≤ 100000 ∧ KB kv6 ≤ 100000 ∧ KB ka6 ≤ 100000) := by subst hk6; subst hk20; subst hka6; subst hka20; exact ⟨by decide, by decide, by decide, by decide, by decide, by decide⟩
  obtain ⟨qa, hqa⟩ : ∃ t, valQ (nq N.off) (csOf N) (psOf kx Y) = t := ⟨_, rfl⟩
  obtain ⟨qb, hqb⟩ : ∃ t, valQ (nq N.off) (csOf N) (psOf kx X) = t := ⟨_, rfl⟩
  obtain ⟨la, hla⟩ : ∃ t, (rsOf N).map (actQ (psOf kx Y)) = t := ⟨_, rfl⟩
  obtain ⟨lb, hlb⟩ : ∃ t, (rsOf N).map (actQ (psOf kx X)) = t := ⟨_, rfl⟩
  obtain ⟨rl, hrl⟩ : ∃ t, (rsOf N).length = t := ⟨_, rfl⟩
  obtain ⟨pp, hpp⟩ : ∃ t, btw (psOf kx Y) (psOf kx X) = t := ⟨_, rfl⟩
  have HLA : Hid (la.length = rl ∧ lb.length = rl ∧ rl ≤ 64) := ⟨by rw [← hla, List.length_map, hrl], by rw [← hlb, List.length_map, hrl], by rw [← hrl]; simp only [rsOf, List.length_map, List.length_range]; exact (chkE_ok c0).2.1⟩
  have BT : Hid (∀ W, Below w.heap.size w W → Calls Tryz.prog 22 #[.slice ax kx cx, .slice ao kx co] W fun e w' => ∃ a c, e = .returned (.slice a kx c) ∧ Below W.heap.size W w' ∧ Hid (Sv w' a kx pp)) := fun W hW => by
    have := betweenTx_c (cx := cx) (co := co) (HC.out.hy.below hW) HC.out.sy fy (HC.out.hx.below hW) HC.out.sx fx
    rw [hpp] at this; exact this
  have VA : Hid (∀ W vm M', Below w.heap.size w W → (vm = M'.val ∧ Tm W N M') → Calls Tryz.prog 14 #[vm, .slice ax kx cx] W fun e w' => ∃ s x n c f y m d g, e = .returned (.tuple #[.agg #[.bool s, .slice x n c, .slice y m d], .int .i64 0]) ∧ Below W.heap.size W w' ∧ Hid (Rn kv6 w' s x n c f y m d g qa)) := fun W vm M' hW h1 => by
    have := valueT6_c (cap := cx) h1.2 HC.out.n (HC.out.hy.below hW) HC.out.sy hea
    rw [hqa, hk6, ← h1.1] at this; exact this
  have VB : Hid (∀ W vm M', Below w.heap.size w W → (vm = M'.val ∧ Tm W N M') → Calls Tryz.prog 14 #[vm, .slice ao kx co] W fun e w' => ∃ s x n c f y m d g, e = .returned (.tuple #[.agg #[.bool s, .slice x n c, .slice y m d], .int .i64 0]) ∧ Below W.heap.size W w' ∧ Hid (Rn kv6 w' s x n c f y m d g qb)) := fun W vm M' hW h1 => by
    have := valueT6_c (cap := co) h1.2 HC.out.n (HC.out.hx.below hW) HC.out.sx heb
    rw [hqb, hk6, ← h1.1] at this; exact this
  have SA : Hid (∀ W vm M', Below w.heap.size w W → (vm = M'.val ∧ Tm W N M') → Calls Tryz.prog 9 #[vm, .slice ax kx cx] W fun e w' => ∃ a c, e = .returned (.tuple #[.slice a rl c, .int .i64 0]) ∧ Below W.heap.size W w' ∧ Hid (Rf ka6 w' a la)) := fun W vm M' hW h1 => by
    have := actsT6_c (cap := cx) h1.2 HC.out.n (HC.out.hy.below hW) HC.out.sy hea
    rw [hla, hrl, hka6, ← h1.1] at this; exact this
  have SB : Hid (∀ W vm M', Below w.heap.size w W → (vm = M'.val ∧ Tm W N M') → Calls Tryz.prog 9 #[vm, .slice ao kx co] W fun e w' => ∃ a c, e = .returned (.tuple #[.slice a rl c, .int .i64 0]) ∧ Below W.heap.size W w' ∧ Hid (Rf ka6 w' a lb)) := fun W vm M' hW h1 => by
    have := actsT6_c (cap := co) h1.2 HC.out.n (HC.out.hx.below hW) HC.out.sx heb
    rw [hlb, hrl, hka6, ← h1.1] at this; exact this
  have FP : Hid (∀ W vm M' a c, (vm = M'.val ∧ Tm W N M') → Sv W a kx pp → Calls Tryz.prog 17 #[vm, .slice a kx c] W fun e w' => e = .returned (.tuple #[.bool fo, .int .i64 0]) ∧ Below W.heap.size W w') := fun W vm M' a c h1 h2 => by
    have := feasSv_c (cap := c) h1.2 HC.out.n c0 ky h2
    rw [← hpp, hfo, ← h1.1] at this; exact this
  have VP : Hid (∀ W vm M' a c, (vm = M'.val ∧ Tm W N M') → Sv W a kx pp → Calls Tryz.prog 14 #[vm, .slice a kx c] W fun e w' => ∃ s x n c f y m d g, e = .returned (.tuple #[.agg #[.bool s, .slice x n c, .slice y m d], .int .i64 0]) ∧ Below W.heap.size W w' ∧ Hid (Rn kv20 w' s x n c f y m d g (bqr qa qb))) := fun W vm M' a c h1 h2 => by
    have := valueSv_c (cap := c) h1.2 HC.out.n c0 ky h2
    rw [← hpp, val_btw hlen, hqa, hqb, hk20, ← h1.1] at this; exact this
  have SP : Hid (∀ W vm M' a c, (vm = M'.val ∧ Tm W N M') → Sv W a kx pp → Calls Tryz.prog 9 #[vm, .slice a kx c] W fun e w' => ∃ a c, e = .returned (.tuple #[.slice a rl c, .int .i64 0]) ∧ Below W.heap.size W w' ∧ Hid (Rf ka20 w' a (btw la lb))) := fun W vm M' a c h1 h2 => by
    have := actsSv_c (cap := c) h1.2 HC.out.n c0 ky h2
    rw [← hpp, acts_btw hlen, hla, hlb, hrl, hka20, ← h1.1] at this; exact this
  clear HC hNv hea heb hfa hfb hfo hqa hqb hla hlb hrl hpp hk6 hk20 hka6 hka20 hlen c0 fy ky fx
  go_wp2_with fail
  refine (BT.out _ HB.out).mono ?_
  rintro e v9 ⟨ap, cp, rfl, hb, HP⟩
  replace HB := hid (HB.out.trans (hb.mono HB.out.size)); replace BM := hid (BM.out.below hb)
  clear hb BT
  have r0 := BM.out.cell (j := 0) rfl
  have r1 := BM.out.cell (j := 1) rfl
  have r2 := BM.out.cell (j := 2) rfl
  have r3 := BM.out.cell (j := 3) rfl
  have r4 := BM.out.cell (j := 4) rfl
  go_wp2_with fail
  clear r0 r1 r2 r3 r4
  refine (T1.out _ HB.out).mono ?_
  rintro e v10 ⟨vm, M1, rfl, hb, H1⟩
  replace HB := hid (HB.out.trans (hb.mono HB.out.size)); replace BM := hid (BM.out.below hb); replace HP := hid (HP.out.below hb)
  clear hb
  go_wp2_with fail
  refine (FP.out _ vm M1 ap cp H1.out HP.out).mono ?_
  rintro e v11 ⟨rfl, hb⟩
  replace HB := hid (HB.out.trans (hb.mono HB.out.size)); replace BM := hid (BM.out.below hb); replace HP := hid (HP.out.below hb)
  clear hb H1 FP
  have r0 := BM.out.cell (j := 0) rfl
  have r1 := BM.out.cell (j := 1) rfl
  have r2 := BM.out.cell (j := 2) rfl
  have r3 := BM.out.cell (j := 3) rfl
  have r4 := BM.out.cell (j := 4) rfl
  go_wp2_with fail
  clear r0 r1 r2 r3 r4
  refine (T1.out _ HB.out).mono ?_
  rintro e v12 ⟨vm, M1, rfl, hb, H1⟩
  replace HB := hid (HB.out.trans (hb.mono HB.out.size)); replace BM := hid (BM.out.below hb); replace HP := hid (HP.out.below hb)
  clear hb
  go_wp2_with fail
  refine (VA.out _ vm M1 HB.out H1.out).mono ?_
  rintro e v13 ⟨s1, x1, n1, c1, f1, y1, m1, d1, g1, rfl, hb, R1⟩
  replace HB := hid (HB.out.trans (hb.mono HB.out.size)); replace BM := hid (BM.out.below hb); replace HP := hid (HP.out.below hb)
  have hbn := below_alloc (Below.refl v13.heap.size v13) (.cells #[.bool s1, .slice x1 n1 c1, .slice y1 m1 d1] 24)
  have BV1 : Hid (Bk (v13.alloc (.cells #[.bool s1, .slice x1 n1 c1, .slice y1 m1 d1] 24)) v13.heap.size [.bool s1, .slice x1 n1 c1, .slice y1 m1 d1] 24) := bk_new v13 [.bool s1, .slice x1 n1 c1, .slice y1 m1 d1] 24
  replace HB := hid (HB.out.trans (hbn.mono HB.out.size)); replace BM := hid (BM.out.below hbn); replace HP := hid (HP.out.below hbn); replace R1 := hid (R1.out.below hbn)
  clear hb hbn H1 VA
  have r0 := BM.out.cell (j := 0) rfl
  have r1 := BM.out.cell (j := 1) rfl
  have r2 := BM.out.cell (j := 2) rfl
  have r3 := BM.out.cell (j := 3) rfl
  have r4 := BM.out.cell (j := 4) rfl
  go_wp2_with fail
  clear r0 r1 r2 r3 r4
  generalize hbx1 : v13.heap.size = bv1 at *
  generalize v13.alloc (.cells #[.bool s1, .slice x1 n1 c1, .slice y1 m1 d1] 24) = v14 at *
  clear hbx1
  refine (T1.out _ HB.out).mono ?_
  rintro e v15 ⟨vm, M1, rfl, hb, H1⟩
  replace HB := hid (HB.out.trans (hb.mono HB.out.size)); replace BM := hid (BM.out.below hb); replace HP := hid (HP.out.below hb); replace R1 := hid (R1.out.below hb); replace BV1 := hid (BV1.out.below hb)
  clear hb
  go_wp2_with fail
  refine (VB.out _ vm M1 HB.out H1.out).mono ?_
  rintro e v16 ⟨s2, x2, n2, c2, f2, y2, m2, d2, g2, rfl, hb, R2⟩
  replace HB := hid (HB.out.trans (hb.mono HB.out.size)); replace BM := hid (BM.out.below hb); replace HP := hid (HP.out.below hb); replace R1 := hid (R1.out.below hb); replace BV1 := hid (BV1.out.below hb)
  have hbn := below_alloc (Below.refl v16.heap.size v16) (.cells #[.bool s2, .slice x2 n2 c2, .slice y2 m2 d2] 24)
  have BV2 : Hid (Bk (v16.alloc (.cells #[.bool s2, .slice x2 n2 c2, .slice y2 m2 d2] 24)) v16.heap.size [.bool s2, .slice x2 n2 c2, .slice y2 m2 d2] 24) := bk_new v16 [.bool s2, .slice x2 n2 c2, .slice y2 m2 d2] 24
  replace HB := hid (HB.out.trans (hbn.mono HB.out.size)); replace BM := hid (BM.out.below hbn); replace HP := hid (HP.out.below hbn); replace R1 := hid (R1.out.below hbn); replace BV1 := hid (BV1.out.below hbn); replace R2 := hid (R2.out.below hbn)
  clear hb hbn H1 VB
  have r0 := BM.out.cell (j := 0) rfl
  have r1 := BM.out.cell (j := 1) rfl
  have r2 := BM.out.cell (j := 2) rfl
  have r3 := BM.out.cell (j := 3) rfl
  have r4 := BM.out.cell (j := 4) rfl
  go_wp2_with fail
  clear r0 r1 r2 r3 r4
  generalize hbx2 : v16.heap.size = bv2 at *
  generalize v16.alloc (.cells #[.bool s2, .slice x2 n2 c2, .slice y2 m2 d2] 24) = v17 at *
  clear hbx2
  refine (T1.out _ HB.out).mono ?_
  rintro e v18 ⟨vm, M1, rfl, hb, H1⟩
  replace HB := hid (HB.out.trans (hb.mono HB.out.size)); replace BM := hid (BM.out.below hb); replace HP := hid (HP.out.below hb); replace R1 := hid (R1.out.below hb); replace BV1 := hid (BV1.out.below hb); replace R2 := hid (R2.out.below hb); replace BV2 := hid (BV2.out.below hb)
  clear hb
  go_wp2_with fail
  refine (VP.out _ vm M1 ap cp H1.out HP.out).mono ?_
  rintro e v19 ⟨s3, x3, n3, c3, f3, y3, m3, d3, g3, rfl, hb, R3⟩
  replace HB := hid (HB.out.trans (hb.mono HB.out.size)); replace BM := hid (BM.out.below hb); replace HP := hid (HP.out.below hb); replace R1 := hid (R1.out.below hb); replace BV1 := hid (BV1.out.below hb); replace R2 := hid (R2.out.below hb); replace BV2 := hid (BV2.out.below hb)
  have hbn := below_alloc (Below.refl v19.heap.size v19) (.cells #[.bool s3, .slice x3 n3 c3, .slice y3 m3 d3] 24)
  have BV3 : Hid (Bk (v19.alloc (.cells #[.bool s3, .slice x3 n3 c3, .slice y3 m3 d3] 24)) v19.heap.size [.bool s3, .slice x3 n3 c3, .slice y3 m3 d3] 24) := bk_new v19 [.bool s3, .slice x3 n3 c3, .slice y3 m3 d3] 24
  replace HB := hid (HB.out.trans (hbn.mono HB.out.size)); replace BM := hid (BM.out.below hbn); replace HP := hid (HP.out.below hbn); replace R1 := hid (R1.out.below hbn); replace BV1 := hid (BV1.out.below hbn); replace R2 := hid (R2.out.below hbn); replace BV2 := hid (BV2.out.below hbn); replace R3 := hid (R3.out.below hbn)
  clear hb hbn H1 VP
  have r0 := BM.out.cell (j := 0) rfl
  have r1 := BM.out.cell (j := 1) rfl
  have r2 := BM.out.cell (j := 2) rfl
  have r3 := BM.out.cell (j := 3) rfl
  have r4 := BM.out.cell (j := 4) rfl
  go_wp2_with fail
  clear r0 r1 r2 r3 r4
  generalize hbx3 : v19.heap.size = bv3 at *
  generalize v19.alloc (.cells #[.bool s3, .slice x3 n3 c3, .slice y3 m3 d3] 24) = v20 at *
  clear hbx3
  refine (T1.out _ HB.out).mono ?_
  rintro e v21 ⟨vm, M1, rfl, hb, H1⟩
  replace HB := hid (HB.out.trans (hb.mono HB.out.size)); replace BM := hid (BM.out.below hb); replace HP := hid (HP.out.below hb); replace R1 := hid (R1.out.below hb); replace BV1 := hid (BV1.out.below hb); replace R2 := hid (R2.out.below hb); replace BV2 := hid (BV2.out.below hb); replace R3 := hid (R3.out.below hb); replace BV3 := hid (BV3.out.below hb)
  clear hb
  go_wp2_with fail
  refine (SA.out _ vm M1 HB.out H1.out).mono ?_
  rintro e v22 ⟨a4, c4, rfl, hb, S4⟩
  replace HB := hid (HB.out.trans (hb.mono HB.out.size)); replace BM := hid (BM.out.below hb); replace HP := hid (HP.out.below hb); replace R1 := hid (R1.out.below hb); replace BV1 := hid (BV1.out.below hb); replace R2 := hid (R2.out.below hb); replace BV2 := hid (BV2.out.below hb); replace R3 := hid (R3.out.below hb); replace BV3 := hid (BV3.out.below hb)
  clear hb H1 SA
  have r0 := BM.out.cell (j := 0) rfl
  have r1 := BM.out.cell (j := 1) rfl
  have r2 := BM.out.cell (j := 2) rfl
  have r3 := BM.out.cell (j := 3) rfl
  have r4 := BM.out.cell (j := 4) rfl
  go_wp2_with fail
  clear r0 r1 r2 r3 r4
  refine (T1.out _ HB.out).mono ?_
  rintro e v23 ⟨vm, M1, rfl, hb, H1⟩
  replace HB := hid (HB.out.trans (hb.mono HB.out.size)); replace BM := hid (BM.out.below hb); replace HP := hid (HP.out.below hb); replace R1 := hid (R1.out.below hb); replace BV1 := hid (BV1.out.below hb); replace R2 := hid (R2.out.below hb); replace BV2 := hid (BV2.out.below hb); replace R3 := hid (R3.out.below hb); replace BV3 := hid (BV3.out.below hb); replace S4 := hid (S4.out.below hb)
  clear hb
  go_wp2_with fail
  refine (SB.out _ vm M1 HB.out H1.out).mono ?_
  rintro e v24 ⟨a5, c5, rfl, hb, S5⟩
  replace HB := hid (HB.out.trans (hb.mono HB.out.size)); replace BM := hid (BM.out.below hb); replace HP := hid (HP.out.below hb); replace R1 := hid (R1.out.below hb); replace BV1 := hid (BV1.out.below hb); replace R2 := hid (R2.out.below hb); replace BV2 := hid (BV2.out.below hb); replace R3 := hid (R3.out.below hb); replace BV3 := hid (BV3.out.below hb); replace S4 := hid (S4.out.below hb)
  clear hb H1 SB
  have r0 := BM.out.cell (j := 0) rfl
  have r1 := BM.out.cell (j := 1) rfl
  have r2 := BM.out.cell (j := 2) rfl
  have r3 := BM.out.cell (j := 3) rfl
  have r4 := BM.out.cell (j := 4) rfl
  go_wp2_with fail
  clear r0 r1 r2 r3 r4
  refine (T1.out _ HB.out).mono ?_
  rintro e v25 ⟨vm, M1, rfl, hb, H1⟩
  replace HB := hid (HB.out.trans (hb.mono HB.out.size)); replace BM := hid (BM.out.below hb); replace HP := hid (HP.out.below hb); replace R1 := hid (R1.out.below hb); replace BV1 := hid (BV1.out.below hb); replace R2 := hid (R2.out.below hb); replace BV2 := hid (BV2.out.below hb); replace R3 := hid (R3.out.below hb); replace BV3 := hid (BV3.out.below hb); replace S4 := hid (S4.out.below hb); replace S5 := hid (S5.out.below hb)
  clear hb
  go_wp2_with fail
  refine (SP.out _ vm M1 ap cp H1.out HP.out).mono ?_
  rintro e v26 ⟨a6, c6, rfl, hb, S6⟩
  replace HB := hid (HB.out.trans (hb.mono HB.out.size)); replace BM := hid (BM.out.below hb); replace HP := hid (HP.out.below hb); replace R1 := hid (R1.out.below hb); replace BV1 := hid (BV1.out.below hb); replace R2 := hid (R2.out.below hb); replace BV2 := hid (BV2.out.below hb); replace R3 := hid (R3.out.below hb); replace BV3 := hid (BV3.out.below hb); replace S4 := hid (S4.out.below hb); replace S5 := hid (S5.out.below hb)
  clear hb H1 SP
  have z9 : (((rl : Nat) : Int) != ((rl : Nat) : Int)) = false := by simp
  go_upto_region 19 with fail
  clear z9
  have hbd := Below.drew (Below.refl v26.heap.size v26)
  replace HB := hid (HB.out.trans (hbd.mono HB.out.size)); replace BM := hid (BM.out.below hbd); replace HP := hid (HP.out.below hbd); replace R1 := hid (R1.out.below hbd); replace BV1 := hid (BV1.out.below hbd); replace R2 := hid (R2.out.below hbd); replace BV2 := hid (BV2.out.below hbd); replace R3 := hid (R3.out.below hbd); replace BV3 := hid (BV3.out.below hbd); replace S4 := hid (S4.out.below hbd); replace S5 := hid (S5.out.below hbd); replace S6 := hid (S6.out.below hbd)
  clear hbd T1
  have k10 := BV1.out.cell (j := 0) rfl
  have k11 := BV1.out.cell (j := 1) rfl
  have k12 := BV1.out.cell (j := 2) rfl
  have k20 := BV2.out.cell (j := 0) rfl
  have k21 := BV2.out.cell (j := 1) rfl
  have k22 := BV2.out.cell (j := 2) rfl
  have k30 := BV3.out.cell (j := 0) rfl
  have k31 := BV3.out.cell (j := 1) rfl
  have k32 := BV3.out.cell (j := 2) rfl
  cases fo
  case true =>
    refine wp_region_held_drew (S := (fun w' => w'.cell? ⟨bv1, 0, none⟩ = some (.bool s1) ∧ w'.cell? ⟨bv1, 1, none⟩ = some (.slice x1 n1 c1) ∧ w'.cell? ⟨bv1, 2, none⟩ = some (.slice y1 m1 d1) ∧ w'.cell? ⟨bv2, 0, none⟩ = some (.bool s2) ∧ w'.cell? ⟨bv2, 1, none⟩ = some (.slice x2 n2 c2) ∧ w'.cell? ⟨bv2, 2, none⟩ = some (.slice y2 m2 d2) ∧ w'.cell? ⟨bv3, 0, none⟩ = some (.bool s3) ∧ w'.cell? ⟨bv3, 1, none⟩ = some (.slice x3 n3 c3) ∧ w'.cell? ⟨bv3, 2, none⟩ = some (.slice y3 m3 d3))) (by kernel_rfl) ?_ (fun hHeld => ?_)
    · exact ⟨k10, k11, k12, k20, k21, k22, k30, k31, k32⟩
    generalize v26.drew = wd at *
    refine wpAnyH_take (i := 0) (v := ?_) rfl (by kernel_rfl) (by kernel_rfl) (by kernel_rfl) (fun _ _ _ h => h) (Or.inl ⟨by rfl, ?_⟩) (by assumption) ?_
    rotate_left
    (focus (intro w0 hSw; (try dsimp only at hSw); go_simp <;> with_reducible rfl))
    simp only [List.getElem_toArray, List.getElem_cons_zero, Act.put, List.setIfInBounds_toArray, List.set_cons_zero, List.set_cons_succ]
    refine wpAnyH_take (i := 1) (v := ?_) rfl (by kernel_rfl) (by kernel_rfl) (by kernel_rfl) (fun _ _ _ h => h) (Or.inl ⟨by rfl, ?_⟩) (by assumption) ?_
    rotate_left
    (focus (intro w0 hSw; (try dsimp only at hSw); go_simp <;> with_reducible rfl))
    simp only [List.getElem_toArray, List.getElem_cons_succ, List.getElem_cons_zero, Act.put, List.setIfInBounds_toArray, List.set_cons_zero, List.set_cons_succ]
    refine wpAnyH_take (i := 2) (v := undef) rfl (by kernel_rfl) (by kernel_rfl) (by kernel_rfl) (fun _ _ _ h => h) (Or.inr ⟨by rfl, rfl⟩) (by assumption) ?_
    simp only [List.getElem_toArray, List.getElem_cons_succ, List.getElem_cons_zero, Act.put, List.setIfInBounds_toArray, List.set_cons_zero, List.set_cons_succ]
    refine wpAnyH_take (i := 3) (v := undef) rfl (by kernel_rfl) (by kernel_rfl) (by kernel_rfl) (fun _ _ _ h => h) (Or.inr ⟨by rfl, rfl⟩) (by assumption) ?_
    simp only [List.getElem_toArray, List.getElem_cons_succ, List.getElem_cons_zero, Act.put, List.setIfInBounds_toArray, List.set_cons_zero, List.set_cons_succ]
    refine wpAnyH_take (i := 4) (v := ?_) rfl (by kernel_rfl) (by kernel_rfl) (by kernel_rfl) (fun _ _ _ h => h) (Or.inl ⟨by rfl, ?_⟩) (by assumption) ?_
    rotate_left
    (focus (intro w0 hSw; (try dsimp only at hSw); go_simp <;> with_reducible rfl))
    simp only [List.getElem_toArray, List.getElem_cons_succ, List.getElem_cons_zero, Act.put, List.setIfInBounds_toArray, List.set_cons_zero, List.set_cons_succ]
    refine wpAnyH_take (i := 5) (v := ?_) rfl (by kernel_rfl) (by kernel_rfl) (by kernel_rfl) (fun _ _ _ h => h) (Or.inl ⟨by rfl, ?_⟩) (by assumption) ?_
    rotate_left
    (focus (intro w0 hSw; (try dsimp only at hSw); go_simp <;> with_reducible rfl))
    simp only [List.getElem_toArray, List.getElem_cons_succ, List.getElem_cons_zero, Act.put, List.setIfInBounds_toArray, List.set_cons_zero, List.set_cons_succ]
    refine wpAnyH_take (i := 6) (v := undef) rfl (by kernel_rfl) (by kernel_rfl) (by kernel_rfl) (fun _ _ _ h => h) (Or.inr ⟨by rfl, rfl⟩) (by assumption) ?_
    simp only [List.getElem_toArray, List.getElem_cons_succ, List.getElem_cons_zero, Act.put, List.setIfInBounds_toArray, List.set_cons_zero, List.set_cons_succ]
    refine wpAnyH_take (i := 7) (v := undef) rfl (by kernel_rfl) (by kernel_rfl) (by kernel_rfl) (fun _ _ _ h => h) (Or.inr ⟨by rfl, rfl⟩) (by assumption) ?_
    simp only [List.getElem_toArray, List.getElem_cons_succ, List.getElem_cons_zero, Act.put, List.setIfInBounds_toArray, List.set_cons_zero, List.set_cons_succ]
    refine wpAnyH_take (i := 8) (v := ?_) rfl (by kernel_rfl) (by kernel_rfl) (by kernel_rfl) (fun _ _ _ h => h) (Or.inl ⟨by rfl, ?_⟩) (by assumption) ?_
    rotate_left
    (focus (intro w0 hSw; (try dsimp only at hSw); go_simp <;> with_reducible rfl))
    simp only [List.getElem_toArray, List.getElem_cons_succ, List.getElem_cons_zero, Act.put, List.setIfInBounds_toArray, List.set_cons_zero, List.set_cons_succ]
    refine wpAnyH_take (i := 9) (v := ?_) rfl (by kernel_rfl) (by kernel_rfl) (by kernel_rfl) (fun _ _ _ h => h) (Or.inl ⟨by rfl, ?_⟩) (by assumption) ?_
    rotate_left
    (focus (intro w0 hSw; (try dsimp only at hSw); go_simp <;> with_reducible rfl))
    simp only [List.getElem_toArray, List.getElem_cons_succ, List.getElem_cons_zero, Act.put, List.setIfInBounds_toArray, List.set_cons_zero, List.set_cons_succ]
    refine wpAnyH_take (i := 10) (v := ?_) rfl (by kernel_rfl) (by kernel_rfl) (by kernel_rfl) (fun _ _ _ h => h) (Or.inl ⟨by rfl, ?_⟩) (by assumption) ?_
    rotate_left
    (focus (intro w0 hSw; (try dsimp only at hSw); go_simp <;> with_reducible rfl))
    simp only [List.getElem_toArray, List.getElem_cons_succ, List.getElem_cons_zero, Act.put, List.setIfInBounds_toArray, List.set_cons_zero, List.set_cons_succ]
    refine wpAnyH_take (i := 12) (v := ?_) rfl (by kernel_rfl) (by kernel_rfl) (by kernel_rfl) (fun _ _ _ h => h) (Or.inl ⟨by rfl, ?_⟩) (by assumption) ?_
    rotate_left
    (focus (intro w0 hSw; (try dsimp only at hSw); go_simp <;> with_reducible rfl))
    simp only [List.getElem_toArray, List.getElem_cons_succ, List.getElem_cons_zero, Act.put, List.setIfInBounds_toArray, List.set_cons_zero, List.set_cons_succ]
    refine wpAnyH_take (i := 15) (v := ?_) rfl (by kernel_rfl) (by kernel_rfl) (by kernel_rfl) (fun _ _ _ h => h) (Or.inl ⟨by rfl, ?_⟩) (by assumption) ?_
    rotate_left
    (focus (intro w0 hSw; (try dsimp only at hSw); go_simp <;> with_reducible rfl))
    simp only [List.getElem_toArray, List.getElem_cons_succ, List.getElem_cons_zero, Act.put, List.setIfInBounds_toArray, List.set_cons_zero, List.set_cons_succ]
    refine (show wpAnyH _ _ _ _ _ (5 + 9) _ _ _ from wpAnyH_flow (fun j v w => match j with | 11 => G1 kv6 qa v w | 13 => G1 kv6 qb v w | 14 => G4 (KB kv6) (bqr qa qb) v w | 16 => G1 kv20 (bqr qa qb) v w | 17 => GT9 v w | _ => True) [(11, 171), (13, 173), (14, 174), (16, 176), (17, 177)] [11, 13, 14, 16, 17] [18, 19, 20, 21, 22, 23, 24, 25, 26] _ _ _ 9 ?k1 ?k4 ?k2 ?k3 ?k5 ?k6 ?k8)
    case k1 => kernel_rfl
    case k4 => kernel_rfl
    case k2 => exact fun w w' h hb => ⟨kCb hb h.1, kCb hb h.2.1, kCb hb h.2.2.1, kCb hb h.2.2.2.1, kCb hb h.2.2.2.2.1, kCb hb h.2.2.2.2.2.1, kCb hb h.2.2.2.2.2.2.1, kCb hb h.2.2.2.2.2.2.2.1, kCb hb h.2.2.2.2.2.2.2.2⟩
    case k3 =>
      intro j v w w' h hb
      split at h <;> first | exact G1.below h hb | exact G4.below h hb | exact GT9.below h hb | exact h | trivial
    case k8 => exact hHeld
    case k5 =>
      intro i hi
      simp only [List.mem_cons, List.not_mem_nil, or_false] at hi
      rcases hi with rfl | rfl | rfl | rfl | rfl
      · refine ⟨_, rfl, fun u w5 hS hb5 hd K hK => ?_⟩
        simp only [fill, List.foldl_cons, List.foldl_nil, Act.put, List.setIfInBounds_toArray, List.set_cons_zero, List.set_cons_succ] at hK ⊢
        go_simp
        exact hK.out _ _ (below_alloc (Below.refl _ _) _) ⟨w5.heap.size, rfl, (gr_one (base := 0) (Rn.below R1.out hb5) (Nat.zero_le _)).rf⟩
      · refine ⟨_, rfl, fun u w5 hS hb5 hd K hK => ?_⟩
        simp only [fill, List.foldl_cons, List.foldl_nil, Act.put, List.setIfInBounds_toArray, List.set_cons_zero, List.set_cons_succ] at hK ⊢
        go_simp
        exact hK.out _ _ (below_alloc (Below.refl _ _) _) ⟨w5.heap.size, rfl, (gr_one (base := 0) (Rn.below R2.out hb5) (Nat.zero_le _)).rf⟩
      · refine ⟨_, rfl, fun u w5 hS hb5 hd K hK => ?_⟩
        have hc : Calls Tryz.prog 22 #[u 11, u 13] w5 fun e w' => ∃ a c, e = .returned (.slice a 1 c) ∧ Below w5.heap.size w5 w' ∧ Hid (Rf (KB kv6) w' a [bqr qa qb]) := by
          have h1 : G1 kv6 qa (u 11) w5 := hd 11 (by kernel_rfl) (by kernel_rfl)
          have h2 : G1 kv6 qb (u 13) w5 := hd 13 (by kernel_rfl) (by kernel_rfl)
          obtain ⟨b1, e1, gg1⟩ := h1
          obtain ⟨b2, e2, gg2⟩ := h2
          rw [e1, e2]
          refine (between_c (L := kv6) gg1 rfl gg2 rfl (by simp) HKS.out.1).mono ?_
          rintro e w6 ⟨a6, c6, rfl, hb6, _, hr⟩
          exact ⟨a6, c6, rfl, hb6, hr⟩
        simp only [fill, List.foldl_cons, List.foldl_nil, Act.put, List.setIfInBounds_toArray, List.set_cons_zero, List.set_cons_succ] at hK ⊢
        go_simp
        go_at_call 22
        refine hc.mono ?_
        rintro e w6 ⟨a6, c6, rfl, hb6, hr⟩
        (try go_wp2_with fail)
        exact hK.out _ _ hb6 ⟨a6, c6, rfl, hr.out⟩
      · refine ⟨_, rfl, fun u w5 hS hb5 hd K hK => ?_⟩
        simp only [fill, List.foldl_cons, List.foldl_nil, Act.put, List.setIfInBounds_toArray, List.set_cons_zero, List.set_cons_succ] at hK ⊢
        go_simp
        exact hK.out _ _ (below_alloc (Below.refl _ _) _) ⟨w5.heap.size, rfl, (gr_one (base := 0) (Rn.below R3.out hb5) (Nat.zero_le _)).rf⟩
      · refine ⟨_, rfl, fun u w5 hS hb5 hd K hK => ?_⟩
        have hc : Calls Tryz.prog 13 #[u 14, u 16] w5 fun e w' => e = .returned (.bool true) ∧ Below w5.heap.size w5 w' := by
          have h1 : G4 (KB kv6) (bqr qa qb) (u 14) w5 := hd 14 (by kernel_rfl) (by kernel_rfl)
          have h2 : G1 kv20 (bqr qa qb) (u 16) w5 := hd 16 (by kernel_rfl) (by kernel_rfl)
          obtain ⟨a1, c1, e1, gg1⟩ := h1
          obtain ⟨b2, e2, gg2⟩ := h2
          rw [e1, e2]
          exact samesEq_c gg1 gg2 rfl (by simp) (Nat.le_trans HKS.out.2.2.2.2.1 (by decide)) (Nat.le_trans HKS.out.2.2.1 (by decide))
        simp only [fill, List.foldl_cons, List.foldl_nil, Act.put, List.setIfInBounds_toArray, List.set_cons_zero, List.set_cons_succ] at hK ⊢
        go_simp
        go_at_call 13
        refine hc.mono ?_
        rintro e w6 ⟨rfl, hb6⟩
        (try go_wp2_with fail)
        exact hK.out _ _ hb6 rfl
    case k6 =>
      intro u w5 hS5 hb5 hg
      have e17 : u 17 = .bool true := hg 17 (by simp)
      have S4w := S4.out.below hb5; have S5w := S5.out.below hb5; have S6w := S6.out.below hb5
      have HB5 := hid (HB.out.trans (hb5.mono HB.out.size))
      clear hg
      simp only [fill, List.foldl_cons, List.foldl_nil, Act.put, List.setIfInBounds_toArray, List.set_cons_zero, List.set_cons_succ]
      simp only [e17]
      clear e17
      refine wpAnyH_take (i := 18) (v := ?_) rfl (by kernel_rfl) (by kernel_rfl) (by kernel_rfl) (fun _ _ _ h => h) (Or.inl ⟨by rfl, ?_⟩) (by assumption) ?_
      rotate_left
      (focus (intro w0 hSw; (try dsimp only at hSw); go_simp <;> with_reducible rfl))
      simp only [List.getElem_toArray, List.getElem_cons_succ, List.getElem_cons_zero, Act.put, List.setIfInBounds_toArray, List.set_cons_zero, List.set_cons_succ]
      refine wpAnyH_take (i := 19) (v := ?_) rfl (by kernel_rfl) (by kernel_rfl) (by kernel_rfl) (fun _ _ _ h => h) (Or.inl ⟨by rfl, ?_⟩) (by assumption) ?_
      rotate_left
      (focus (intro w0 hSw; (try dsimp only at hSw); go_simp <;> with_reducible rfl))
      simp only [List.getElem_toArray, List.getElem_cons_succ, List.getElem_cons_zero, Act.put, List.setIfInBounds_toArray, List.set_cons_zero, List.set_cons_succ]
      refine wpAnyH_take (i := 20) (v := ?_) rfl (by kernel_rfl) (by kernel_rfl) (by kernel_rfl) (fun _ _ _ h => h) (Or.inl ⟨by rfl, ?_⟩) (by assumption) ?_
      rotate_left
      (focus (intro w0 hSw; (try dsimp only at hSw); go_simp <;> with_reducible rfl))
      simp only [List.getElem_toArray, List.getElem_cons_succ, List.getElem_cons_zero, Act.put, List.setIfInBounds_toArray, List.set_cons_zero, List.set_cons_succ]
      refine wpAnyH_take (i := 21) (v := ?_) rfl (by kernel_rfl) (by kernel_rfl) (by kernel_rfl) (fun _ _ _ h => h) (Or.inl ⟨by rfl, ?_⟩) (by assumption) ?_
      rotate_left
      (focus (intro w0 hSw; (try dsimp only at hSw); go_simp <;> with_reducible rfl))
      simp only [List.getElem_toArray, List.getElem_cons_succ, List.getElem_cons_zero, Act.put, List.setIfInBounds_toArray, List.set_cons_zero, List.set_cons_succ]
      refine wpAnyH_take (i := 23) (v := ?_) rfl (by kernel_rfl) (by kernel_rfl) (by kernel_rfl) (fun _ _ _ h => h) (Or.inl ⟨by rfl, ?_⟩) (by assumption) ?_
      rotate_left
      (focus (intro w0 hSw; (try dsimp only at hSw); go_simp <;> with_reducible rfl))
      simp only [List.getElem_toArray, List.getElem_cons_succ, List.getElem_cons_zero, Act.put, List.setIfInBounds_toArray, List.set_cons_zero, List.set_cons_succ]
      refine wpAnyH_ready (rs := [22]) (by kernel_rfl) (by simp) ?_
      refine AllReadyH.cons (o := _) rfl (fun K hK => ?_) ?_
      rotate_left
      exact AllReadyH.nil
      go_simp
      go_at_call 22
      refine (between_c (L := ka6) S4w HLA.out.1 S5w HLA.out.2.1 (by have := HLA.out.2.2; omega) HKS.out.2.1).mono ?_
      rintro e w6 ⟨a6, c6, rfl, hb6, _, hr6⟩
      (try go_wp2_with fail)
      refine hK.out _ _ ?_ (fun hH6 => ?_)
      · have hb := hb6
        exact ⟨kCb hb hS5.1, kCb hb hS5.2.1, kCb hb hS5.2.2.1, kCb hb hS5.2.2.2.1, kCb hb hS5.2.2.2.2.1, kCb hb hS5.2.2.2.2.2.1, kCb hb hS5.2.2.2.2.2.2.1, kCb hb hS5.2.2.2.2.2.2.2.1, kCb hb hS5.2.2.2.2.2.2.2.2⟩
      clear hK K
      try simp only [Act.put, List.setIfInBounds_toArray, List.set_cons_zero, List.set_cons_succ]
      refine wpAnyH_ready (rs := [24]) (by kernel_rfl) (by simp) ?_
      refine AllReadyH.cons (o := _) rfl (fun K hK => ?_) ?_
      rotate_left
      exact AllReadyH.nil
      go_simp
      go_at_call 13
      refine (samesEq_c hr6.out (S6w.below hb6) (by rw [btw_len (by rw [HLA.out.1, HLA.out.2.1])]; exact HLA.out.1) (by have := HLA.out.2.2; omega) (Nat.le_trans HKS.out.2.2.2.2.2 (by decide)) (Nat.le_trans HKS.out.2.2.2.1 (by decide))).mono ?_
      rintro e w7 ⟨rfl, hb7⟩
      (try go_wp2_with fail)
      refine hK.out _ _ ?_ (fun hH7 => ?_)
      · have hb := hb6.trans (hb7.mono hb6.size)
        exact ⟨kCb hb hS5.1, kCb hb hS5.2.1, kCb hb hS5.2.2.1, kCb hb hS5.2.2.2.1, kCb hb hS5.2.2.2.2.1, kCb hb hS5.2.2.2.2.2.1, kCb hb hS5.2.2.2.2.2.2.1, kCb hb hS5.2.2.2.2.2.2.2.1, kCb hb hS5.2.2.2.2.2.2.2.2⟩
      clear hK K
      try simp only [Act.put, List.setIfInBounds_toArray, List.set_cons_zero, List.set_cons_succ]
      refine wpAnyH_take (i := 25) (v := ?_) rfl (by kernel_rfl) (by kernel_rfl) (by kernel_rfl) (fun _ _ _ h => h) (Or.inl ⟨by rfl, ?_⟩) (by assumption) ?_
      rotate_left
      (focus (intro w0 hSw; (try dsimp only at hSw); go_simp <;> with_reducible rfl))
      simp only [List.getElem_toArray, List.getElem_cons_succ, List.getElem_cons_zero, Act.put, List.setIfInBounds_toArray, List.set_cons_zero, List.set_cons_succ]
      refine wpAnyH_take (i := 26) (v := ?_) rfl (by kernel_rfl) (by kernel_rfl) (by kernel_rfl) (fun _ _ _ h => h) (Or.inl ⟨by rfl, ?_⟩) (by assumption) ?_
      rotate_left
      (focus (intro w0 hSw; (try dsimp only at hSw); go_simp <;> with_reducible rfl))
      simp only [List.getElem_toArray, List.getElem_cons_succ, List.getElem_cons_zero, Act.put, List.setIfInBounds_toArray, List.set_cons_zero, List.set_cons_succ]
      refine wpAnyH_done (by kernel_rfl) ?_ _
      replace HB5 := hid (HB5.out.trans (hb6.mono HB5.out.size))
      replace HB5 := hid (HB5.out.trans (hb7.mono HB5.out.size))
      clear hHeld hH6 hH7 hS5
      go_wp2
      go_ret
      exact ⟨by first | rfl | simp, HB5.out⟩
  cases fa
  case false =>
    refine wp_region_held_drew (S := (fun w' => w'.cell? ⟨bv1, 0, none⟩ = some (.bool s1) ∧ w'.cell? ⟨bv1, 1, none⟩ = some (.slice x1 n1 c1) ∧ w'.cell? ⟨bv1, 2, none⟩ = some (.slice y1 m1 d1) ∧ w'.cell? ⟨bv2, 0, none⟩ = some (.bool s2) ∧ w'.cell? ⟨bv2, 1, none⟩ = some (.slice x2 n2 c2) ∧ w'.cell? ⟨bv2, 2, none⟩ = some (.slice y2 m2 d2) ∧ w'.cell? ⟨bv3, 0, none⟩ = some (.bool s3) ∧ w'.cell? ⟨bv3, 1, none⟩ = some (.slice x3 n3 c3) ∧ w'.cell? ⟨bv3, 2, none⟩ = some (.slice y3 m3 d3))) (by kernel_rfl) ?_ (fun hHeld => ?_)
    · exact ⟨k10, k11, k12, k20, k21, k22, k30, k31, k32⟩
    generalize v26.drew = wd at *
    refine wpAnyH_take (i := 0) (v := ?_) rfl (by kernel_rfl) (by kernel_rfl) (by kernel_rfl) (fun _ _ _ h => h) (Or.inl ⟨by rfl, ?_⟩) (by assumption) ?_
    rotate_left
    (focus (intro w0 hSw; (try dsimp only at hSw); go_simp <;> with_reducible rfl))
    simp only [List.getElem_toArray, List.getElem_cons_zero, Act.put, List.setIfInBounds_toArray, List.set_cons_zero, List.set_cons_succ]
    refine wpAnyH_take (i := 1) (v := ?_) rfl (by kernel_rfl) (by kernel_rfl) (by kernel_rfl) (fun _ _ _ h => h) (Or.inl ⟨by rfl, ?_⟩) (by assumption) ?_
    rotate_left
    (focus (intro w0 hSw; (try dsimp only at hSw); go_simp <;> with_reducible rfl))
    simp only [List.getElem_toArray, List.getElem_cons_succ, List.getElem_cons_zero, Act.put, List.setIfInBounds_toArray, List.set_cons_zero, List.set_cons_succ]
    refine wpAnyH_take (i := 2) (v := ?_) rfl (by kernel_rfl) (by kernel_rfl) (by kernel_rfl) (fun _ _ _ h => h) (Or.inl ⟨by rfl, ?_⟩) (by assumption) ?_
    rotate_left
    (focus (intro w0 hSw; (try dsimp only at hSw); go_simp <;> with_reducible rfl))
    simp only [List.getElem_toArray, List.getElem_cons_succ, List.getElem_cons_zero, Act.put, List.setIfInBounds_toArray, List.set_cons_zero, List.set_cons_succ]
    refine wpAnyH_take (i := 3) (v := ?_) rfl (by kernel_rfl) (by kernel_rfl) (by kernel_rfl) (fun _ _ _ h => h) (Or.inl ⟨by rfl, ?_⟩) (by assumption) ?_
    rotate_left
    (focus (intro w0 hSw; (try dsimp only at hSw); go_simp <;> with_reducible rfl))
    simp only [List.getElem_toArray, List.getElem_cons_succ, List.getElem_cons_zero, Act.put, List.setIfInBounds_toArray, List.set_cons_zero, List.set_cons_succ]
    refine wpAnyH_take (i := 4) (v := ?_) rfl (by kernel_rfl) (by kernel_rfl) (by kernel_rfl) (fun _ _ _ h => h) (Or.inl ⟨by rfl, ?_⟩) (by assumption) ?_
    rotate_left
    (focus (intro w0 hSw; (try dsimp only at hSw); go_simp <;> with_reducible rfl))
    simp only [List.getElem_toArray, List.getElem_cons_succ, List.getElem_cons_zero, Act.put, List.setIfInBounds_toArray, List.set_cons_zero, List.set_cons_succ]
    refine wpAnyH_take (i := 5) (v := ?_) rfl (by kernel_rfl) (by kernel_rfl) (by kernel_rfl) (fun _ _ _ h => h) (Or.inl ⟨by rfl, ?_⟩) (by assumption) ?_
    rotate_left
    (focus (intro w0 hSw; (try dsimp only at hSw); go_simp <;> with_reducible rfl))
    simp only [List.getElem_toArray, List.getElem_cons_succ, List.getElem_cons_zero, Act.put, List.setIfInBounds_toArray, List.set_cons_zero, List.set_cons_succ]
    refine wpAnyH_take (i := 6) (v := undef) rfl (by kernel_rfl) (by kernel_rfl) (by kernel_rfl) (fun _ _ _ h => h) (Or.inr ⟨by rfl, rfl⟩) (by assumption) ?_
    simp only [List.getElem_toArray, List.getElem_cons_succ, List.getElem_cons_zero, Act.put, List.setIfInBounds_toArray, List.set_cons_zero, List.set_cons_succ]
    refine wpAnyH_take (i := 7) (v := undef) rfl (by kernel_rfl) (by kernel_rfl) (by kernel_rfl) (fun _ _ _ h => h) (Or.inr ⟨by rfl, rfl⟩) (by assumption) ?_
    simp only [List.getElem_toArray, List.getElem_cons_succ, List.getElem_cons_zero, Act.put, List.setIfInBounds_toArray, List.set_cons_zero, List.set_cons_succ]
    refine wpAnyH_take (i := 8) (v := ?_) rfl (by kernel_rfl) (by kernel_rfl) (by kernel_rfl) (fun _ _ _ h => h) (Or.inl ⟨by rfl, ?_⟩) (by assumption) ?_
    rotate_left
    (focus (intro w0 hSw; (try dsimp only at hSw); go_simp <;> with_reducible rfl))
    simp only [List.getElem_toArray, List.getElem_cons_succ, List.getElem_cons_zero, Act.put, List.setIfInBounds_toArray, List.set_cons_zero, List.set_cons_succ]
    refine wpAnyH_take (i := 9) (v := ?_) rfl (by kernel_rfl) (by kernel_rfl) (by kernel_rfl) (fun _ _ _ h => h) (Or.inl ⟨by rfl, ?_⟩) (by assumption) ?_
    rotate_left
    (focus (intro w0 hSw; (try dsimp only at hSw); go_simp <;> with_reducible rfl))
    simp only [List.getElem_toArray, List.getElem_cons_succ, List.getElem_cons_zero, Act.put, List.setIfInBounds_toArray, List.set_cons_zero, List.set_cons_succ]
    refine wpAnyH_take (i := 10) (v := ?_) rfl (by kernel_rfl) (by kernel_rfl) (by kernel_rfl) (fun _ _ _ h => h) (Or.inl ⟨by rfl, ?_⟩) (by assumption) ?_
    rotate_left
    (focus (intro w0 hSw; (try dsimp only at hSw); go_simp <;> with_reducible rfl))
    simp only [List.getElem_toArray, List.getElem_cons_succ, List.getElem_cons_zero, Act.put, List.setIfInBounds_toArray, List.set_cons_zero, List.set_cons_succ]
    refine wpAnyH_take (i := 12) (v := ?_) rfl (by kernel_rfl) (by kernel_rfl) (by kernel_rfl) (fun _ _ _ h => h) (Or.inl ⟨by rfl, ?_⟩) (by assumption) ?_
    rotate_left
    (focus (intro w0 hSw; (try dsimp only at hSw); go_simp <;> with_reducible rfl))
    simp only [List.getElem_toArray, List.getElem_cons_succ, List.getElem_cons_zero, Act.put, List.setIfInBounds_toArray, List.set_cons_zero, List.set_cons_succ]
    refine wpAnyH_take (i := 15) (v := ?_) rfl (by kernel_rfl) (by kernel_rfl) (by kernel_rfl) (fun _ _ _ h => h) (Or.inl ⟨by rfl, ?_⟩) (by assumption) ?_
    rotate_left
    (focus (intro w0 hSw; (try dsimp only at hSw); go_simp <;> with_reducible rfl))
    simp only [List.getElem_toArray, List.getElem_cons_succ, List.getElem_cons_zero, Act.put, List.setIfInBounds_toArray, List.set_cons_zero, List.set_cons_succ]
    refine (show wpAnyH _ _ _ _ _ (5 + 9) _ _ _ from wpAnyH_flow (fun j v w => match j with | 11 => G1 kv6 qa v w | 13 => G1 kv6 qb v w | 14 => G4 (KB kv6) (bqr qa qb) v w | 16 => G1 kv20 (bqr qa qb) v w | 17 => GT9 v w | _ => True) [(11, 171), (13, 173), (14, 174), (16, 176), (17, 177)] [11, 13, 14, 16, 17] [18, 19, 20, 21, 22, 23, 24, 25, 26] _ _ _ 9 ?k1 ?k4 ?k2 ?k3 ?k5 ?k6 ?k8)
    case k1 => kernel_rfl
    case k4 => kernel_rfl
    case k2 => exact fun w w' h hb => ⟨kCb hb h.1, kCb hb h.2.1, kCb hb h.2.2.1, kCb hb h.2.2.2.1, kCb hb h.2.2.2.2.1, kCb hb h.2.2.2.2.2.1, kCb hb h.2.2.2.2.2.2.1, kCb hb h.2.2.2.2.2.2.2.1, kCb hb h.2.2.2.2.2.2.2.2⟩
    case k3 =>
      intro j v w w' h hb
      split at h <;> first | exact G1.below h hb | exact G4.below h hb | exact GT9.below h hb | exact h | trivial
    case k8 => exact hHeld
    case k5 =>
      intro i hi
      simp only [List.mem_cons, List.not_mem_nil, or_false] at hi
      rcases hi with rfl | rfl | rfl | rfl | rfl
      · refine ⟨_, rfl, fun u w5 hS hb5 hd K hK => ?_⟩
        simp only [fill, List.foldl_cons, List.foldl_nil, Act.put, List.setIfInBounds_toArray, List.set_cons_zero, List.set_cons_succ] at hK ⊢
        go_simp
        exact hK.out _ _ (below_alloc (Below.refl _ _) _) ⟨w5.heap.size, rfl, (gr_one (base := 0) (Rn.below R1.out hb5) (Nat.zero_le _)).rf⟩
      · refine ⟨_, rfl, fun u w5 hS hb5 hd K hK => ?_⟩
        simp only [fill, List.foldl_cons, List.foldl_nil, Act.put, List.setIfInBounds_toArray, List.set_cons_zero, List.set_cons_succ] at hK ⊢
        go_simp
        exact hK.out _ _ (below_alloc (Below.refl _ _) _) ⟨w5.heap.size, rfl, (gr_one (base := 0) (Rn.below R2.out hb5) (Nat.zero_le _)).rf⟩
      · refine ⟨_, rfl, fun u w5 hS hb5 hd K hK => ?_⟩
        have hc : Calls Tryz.prog 22 #[u 11, u 13] w5 fun e w' => ∃ a c, e = .returned (.slice a 1 c) ∧ Below w5.heap.size w5 w' ∧ Hid (Rf (KB kv6) w' a [bqr qa qb]) := by
          have h1 : G1 kv6 qa (u 11) w5 := hd 11 (by kernel_rfl) (by kernel_rfl)
          have h2 : G1 kv6 qb (u 13) w5 := hd 13 (by kernel_rfl) (by kernel_rfl)
          obtain ⟨b1, e1, gg1⟩ := h1
          obtain ⟨b2, e2, gg2⟩ := h2
          rw [e1, e2]
          refine (between_c (L := kv6) gg1 rfl gg2 rfl (by simp) HKS.out.1).mono ?_
          rintro e w6 ⟨a6, c6, rfl, hb6, _, hr⟩
          exact ⟨a6, c6, rfl, hb6, hr⟩
        simp only [fill, List.foldl_cons, List.foldl_nil, Act.put, List.setIfInBounds_toArray, List.set_cons_zero, List.set_cons_succ] at hK ⊢
        go_simp
        go_at_call 22
        refine hc.mono ?_
        rintro e w6 ⟨a6, c6, rfl, hb6, hr⟩
        (try go_wp2_with fail)
        exact hK.out _ _ hb6 ⟨a6, c6, rfl, hr.out⟩
      · refine ⟨_, rfl, fun u w5 hS hb5 hd K hK => ?_⟩
        simp only [fill, List.foldl_cons, List.foldl_nil, Act.put, List.setIfInBounds_toArray, List.set_cons_zero, List.set_cons_succ] at hK ⊢
        go_simp
        exact hK.out _ _ (below_alloc (Below.refl _ _) _) ⟨w5.heap.size, rfl, (gr_one (base := 0) (Rn.below R3.out hb5) (Nat.zero_le _)).rf⟩
      · refine ⟨_, rfl, fun u w5 hS hb5 hd K hK => ?_⟩
        have hc : Calls Tryz.prog 13 #[u 14, u 16] w5 fun e w' => e = .returned (.bool true) ∧ Below w5.heap.size w5 w' := by
          have h1 : G4 (KB kv6) (bqr qa qb) (u 14) w5 := hd 14 (by kernel_rfl) (by kernel_rfl)
          have h2 : G1 kv20 (bqr qa qb) (u 16) w5 := hd 16 (by kernel_rfl) (by kernel_rfl)
          obtain ⟨a1, c1, e1, gg1⟩ := h1
          obtain ⟨b2, e2, gg2⟩ := h2
          rw [e1, e2]
          exact samesEq_c gg1 gg2 rfl (by simp) (Nat.le_trans HKS.out.2.2.2.2.1 (by decide)) (Nat.le_trans HKS.out.2.2.1 (by decide))
        simp only [fill, List.foldl_cons, List.foldl_nil, Act.put, List.setIfInBounds_toArray, List.set_cons_zero, List.set_cons_succ] at hK ⊢
        go_simp
        go_at_call 13
        refine hc.mono ?_
        rintro e w6 ⟨rfl, hb6⟩
        (try go_wp2_with fail)
        exact hK.out _ _ hb6 rfl
    case k6 =>
      intro u w5 hS5 hb5 hg
      have e17 : u 17 = .bool true := hg 17 (by simp)
      have S4w := S4.out.below hb5; have S5w := S5.out.below hb5; have S6w := S6.out.below hb5
      have HB5 := hid (HB.out.trans (hb5.mono HB.out.size))
      clear hg
      simp only [fill, List.foldl_cons, List.foldl_nil, Act.put, List.setIfInBounds_toArray, List.set_cons_zero, List.set_cons_succ]
      simp only [e17]
      clear e17
      refine wpAnyH_take (i := 18) (v := ?_) rfl (by kernel_rfl) (by kernel_rfl) (by kernel_rfl) (fun _ _ _ h => h) (Or.inl ⟨by rfl, ?_⟩) (by assumption) ?_
      rotate_left
      (focus (intro w0 hSw; (try dsimp only at hSw); go_simp <;> with_reducible rfl))
      simp only [List.getElem_toArray, List.getElem_cons_succ, List.getElem_cons_zero, Act.put, List.setIfInBounds_toArray, List.set_cons_zero, List.set_cons_succ]
      refine wpAnyH_take (i := 19) (v := ?_) rfl (by kernel_rfl) (by kernel_rfl) (by kernel_rfl) (fun _ _ _ h => h) (Or.inl ⟨by rfl, ?_⟩) (by assumption) ?_
      rotate_left
      (focus (intro w0 hSw; (try dsimp only at hSw); go_simp <;> with_reducible rfl))
      simp only [List.getElem_toArray, List.getElem_cons_succ, List.getElem_cons_zero, Act.put, List.setIfInBounds_toArray, List.set_cons_zero, List.set_cons_succ]
      refine wpAnyH_take (i := 20) (v := ?_) rfl (by kernel_rfl) (by kernel_rfl) (by kernel_rfl) (fun _ _ _ h => h) (Or.inl ⟨by rfl, ?_⟩) (by assumption) ?_
      rotate_left
      (focus (intro w0 hSw; (try dsimp only at hSw); go_simp <;> with_reducible rfl))
      simp only [List.getElem_toArray, List.getElem_cons_succ, List.getElem_cons_zero, Act.put, List.setIfInBounds_toArray, List.set_cons_zero, List.set_cons_succ]
      refine wpAnyH_take (i := 21) (v := ?_) rfl (by kernel_rfl) (by kernel_rfl) (by kernel_rfl) (fun _ _ _ h => h) (Or.inl ⟨by rfl, ?_⟩) (by assumption) ?_
      rotate_left
      (focus (intro w0 hSw; (try dsimp only at hSw); go_simp <;> with_reducible rfl))
      simp only [List.getElem_toArray, List.getElem_cons_succ, List.getElem_cons_zero, Act.put, List.setIfInBounds_toArray, List.set_cons_zero, List.set_cons_succ]
      refine wpAnyH_take (i := 23) (v := ?_) rfl (by kernel_rfl) (by kernel_rfl) (by kernel_rfl) (fun _ _ _ h => h) (Or.inl ⟨by rfl, ?_⟩) (by assumption) ?_
      rotate_left
      (focus (intro w0 hSw; (try dsimp only at hSw); go_simp <;> with_reducible rfl))
      simp only [List.getElem_toArray, List.getElem_cons_succ, List.getElem_cons_zero, Act.put, List.setIfInBounds_toArray, List.set_cons_zero, List.set_cons_succ]
      refine wpAnyH_ready (rs := [22]) (by kernel_rfl) (by simp) ?_
      refine AllReadyH.cons (o := _) rfl (fun K hK => ?_) ?_
      rotate_left
      exact AllReadyH.nil
      go_simp
      go_at_call 22
      refine (between_c (L := ka6) S4w HLA.out.1 S5w HLA.out.2.1 (by have := HLA.out.2.2; omega) HKS.out.2.1).mono ?_
      rintro e w6 ⟨a6, c6, rfl, hb6, _, hr6⟩
      (try go_wp2_with fail)
      refine hK.out _ _ ?_ (fun hH6 => ?_)
      · have hb := hb6
        exact ⟨kCb hb hS5.1, kCb hb hS5.2.1, kCb hb hS5.2.2.1, kCb hb hS5.2.2.2.1, kCb hb hS5.2.2.2.2.1, kCb hb hS5.2.2.2.2.2.1, kCb hb hS5.2.2.2.2.2.2.1, kCb hb hS5.2.2.2.2.2.2.2.1, kCb hb hS5.2.2.2.2.2.2.2.2⟩
      clear hK K
      try simp only [Act.put, List.setIfInBounds_toArray, List.set_cons_zero, List.set_cons_succ]
      refine wpAnyH_ready (rs := [24]) (by kernel_rfl) (by simp) ?_
      refine AllReadyH.cons (o := _) rfl (fun K hK => ?_) ?_
      rotate_left
      exact AllReadyH.nil
      go_simp
      go_at_call 13
      refine (samesEq_c hr6.out (S6w.below hb6) (by rw [btw_len (by rw [HLA.out.1, HLA.out.2.1])]; exact HLA.out.1) (by have := HLA.out.2.2; omega) (Nat.le_trans HKS.out.2.2.2.2.2 (by decide)) (Nat.le_trans HKS.out.2.2.2.1 (by decide))).mono ?_
      rintro e w7 ⟨rfl, hb7⟩
      (try go_wp2_with fail)
      refine hK.out _ _ ?_ (fun hH7 => ?_)
      · have hb := hb6.trans (hb7.mono hb6.size)
        exact ⟨kCb hb hS5.1, kCb hb hS5.2.1, kCb hb hS5.2.2.1, kCb hb hS5.2.2.2.1, kCb hb hS5.2.2.2.2.1, kCb hb hS5.2.2.2.2.2.1, kCb hb hS5.2.2.2.2.2.2.1, kCb hb hS5.2.2.2.2.2.2.2.1, kCb hb hS5.2.2.2.2.2.2.2.2⟩
      clear hK K
      try simp only [Act.put, List.setIfInBounds_toArray, List.set_cons_zero, List.set_cons_succ]
      refine wpAnyH_take (i := 25) (v := ?_) rfl (by kernel_rfl) (by kernel_rfl) (by kernel_rfl) (fun _ _ _ h => h) (Or.inl ⟨by rfl, ?_⟩) (by assumption) ?_
      rotate_left
      (focus (intro w0 hSw; (try dsimp only at hSw); go_simp <;> with_reducible rfl))
      simp only [List.getElem_toArray, List.getElem_cons_succ, List.getElem_cons_zero, Act.put, List.setIfInBounds_toArray, List.set_cons_zero, List.set_cons_succ]
      refine wpAnyH_take (i := 26) (v := ?_) rfl (by kernel_rfl) (by kernel_rfl) (by kernel_rfl) (fun _ _ _ h => h) (Or.inl ⟨by rfl, ?_⟩) (by assumption) ?_
      rotate_left
      (focus (intro w0 hSw; (try dsimp only at hSw); go_simp <;> with_reducible rfl))
      simp only [List.getElem_toArray, List.getElem_cons_succ, List.getElem_cons_zero, Act.put, List.setIfInBounds_toArray, List.set_cons_zero, List.set_cons_succ]
      refine wpAnyH_done (by kernel_rfl) ?_ _
      replace HB5 := hid (HB5.out.trans (hb6.mono HB5.out.size))
      replace HB5 := hid (HB5.out.trans (hb7.mono HB5.out.size))
      clear hHeld hH6 hH7 hS5
      go_wp2
      go_ret
      exact ⟨by first | rfl | simp, HB5.out⟩
  cases fb
  case true => exact absurd (HON.out rfl rfl) (by decide)
  refine wp_region_held_drew (S := (fun w' => w'.cell? ⟨bv1, 0, none⟩ = some (.bool s1) ∧ w'.cell? ⟨bv1, 1, none⟩ = some (.slice x1 n1 c1) ∧ w'.cell? ⟨bv1, 2, none⟩ = some (.slice y1 m1 d1) ∧ w'.cell? ⟨bv2, 0, none⟩ = some (.bool s2) ∧ w'.cell? ⟨bv2, 1, none⟩ = some (.slice x2 n2 c2) ∧ w'.cell? ⟨bv2, 2, none⟩ = some (.slice y2 m2 d2) ∧ w'.cell? ⟨bv3, 0, none⟩ = some (.bool s3) ∧ w'.cell? ⟨bv3, 1, none⟩ = some (.slice x3 n3 c3) ∧ w'.cell? ⟨bv3, 2, none⟩ = some (.slice y3 m3 d3))) (by kernel_rfl) ?_ (fun hHeld => ?_)
  · exact ⟨k10, k11, k12, k20, k21, k22, k30, k31, k32⟩
  generalize v26.drew = wd at *
  refine wpAnyH_take (i := 0) (v := ?_) rfl (by kernel_rfl) (by kernel_rfl) (by kernel_rfl) (fun _ _ _ h => h) (Or.inl ⟨by rfl, ?_⟩) (by assumption) ?_
  rotate_left
  (focus (intro w0 hSw; (try dsimp only at hSw); go_simp <;> with_reducible rfl))
  simp only [List.getElem_toArray, List.getElem_cons_zero, Act.put, List.setIfInBounds_toArray, List.set_cons_zero, List.set_cons_succ]
  refine wpAnyH_take (i := 1) (v := ?_) rfl (by kernel_rfl) (by kernel_rfl) (by kernel_rfl) (fun _ _ _ h => h) (Or.inl ⟨by rfl, ?_⟩) (by assumption) ?_
  rotate_left
  (focus (intro w0 hSw; (try dsimp only at hSw); go_simp <;> with_reducible rfl))
  simp only [List.getElem_toArray, List.getElem_cons_succ, List.getElem_cons_zero, Act.put, List.setIfInBounds_toArray, List.set_cons_zero, List.set_cons_succ]
  refine wpAnyH_take (i := 2) (v := ?_) rfl (by kernel_rfl) (by kernel_rfl) (by kernel_rfl) (fun _ _ _ h => h) (Or.inl ⟨by rfl, ?_⟩) (by assumption) ?_
  rotate_left
  (focus (intro w0 hSw; (try dsimp only at hSw); go_simp <;> with_reducible rfl))
  simp only [List.getElem_toArray, List.getElem_cons_succ, List.getElem_cons_zero, Act.put, List.setIfInBounds_toArray, List.set_cons_zero, List.set_cons_succ]
  refine wpAnyH_take (i := 3) (v := ?_) rfl (by kernel_rfl) (by kernel_rfl) (by kernel_rfl) (fun _ _ _ h => h) (Or.inl ⟨by rfl, ?_⟩) (by assumption) ?_
  rotate_left
  (focus (intro w0 hSw; (try dsimp only at hSw); go_simp <;> with_reducible rfl))
  simp only [List.getElem_toArray, List.getElem_cons_succ, List.getElem_cons_zero, Act.put, List.setIfInBounds_toArray, List.set_cons_zero, List.set_cons_succ]
  refine wpAnyH_take (i := 4) (v := ?_) rfl (by kernel_rfl) (by kernel_rfl) (by kernel_rfl) (fun _ _ _ h => h) (Or.inl ⟨by rfl, ?_⟩) (by assumption) ?_
  rotate_left
  (focus (intro w0 hSw; (try dsimp only at hSw); go_simp <;> with_reducible rfl))
  simp only [List.getElem_toArray, List.getElem_cons_succ, List.getElem_cons_zero, Act.put, List.setIfInBounds_toArray, List.set_cons_zero, List.set_cons_succ]
  refine wpAnyH_take (i := 5) (v := ?_) rfl (by kernel_rfl) (by kernel_rfl) (by kernel_rfl) (fun _ _ _ h => h) (Or.inl ⟨by rfl, ?_⟩) (by assumption) ?_
  rotate_left
  (focus (intro w0 hSw; (try dsimp only at hSw); go_simp <;> with_reducible rfl))
  simp only [List.getElem_toArray, List.getElem_cons_succ, List.getElem_cons_zero, Act.put, List.setIfInBounds_toArray, List.set_cons_zero, List.set_cons_succ]
  refine wpAnyH_take (i := 6) (v := ?_) rfl (by kernel_rfl) (by kernel_rfl) (by kernel_rfl) (fun _ _ _ h => h) (Or.inl ⟨by rfl, ?_⟩) (by assumption) ?_
  rotate_left
  (focus (intro w0 hSw; (try dsimp only at hSw); go_simp <;> with_reducible rfl))
  simp only [List.getElem_toArray, List.getElem_cons_succ, List.getElem_cons_zero, Act.put, List.setIfInBounds_toArray, List.set_cons_zero, List.set_cons_succ]
  refine wpAnyH_take (i := 7) (v := ?_) rfl (by kernel_rfl) (by kernel_rfl) (by kernel_rfl) (fun _ _ _ h => h) (Or.inl ⟨by rfl, ?_⟩) (by assumption) ?_
  rotate_left
  (focus (intro w0 hSw; (try dsimp only at hSw); go_simp <;> with_reducible rfl))
  simp only [List.getElem_toArray, List.getElem_cons_succ, List.getElem_cons_zero, Act.put, List.setIfInBounds_toArray, List.set_cons_zero, List.set_cons_succ]
  refine wpAnyH_take (i := 8) (v := ?_) rfl (by kernel_rfl) (by kernel_rfl) (by kernel_rfl) (fun _ _ _ h => h) (Or.inl ⟨by rfl, ?_⟩) (by assumption) ?_
  rotate_left
  (focus (intro w0 hSw; (try dsimp only at hSw); go_simp <;> with_reducible rfl))
  simp only [List.getElem_toArray, List.getElem_cons_succ, List.getElem_cons_zero, Act.put, List.setIfInBounds_toArray, List.set_cons_zero, List.set_cons_succ]
  refine wpAnyH_take (i := 9) (v := ?_) rfl (by kernel_rfl) (by kernel_rfl) (by kernel_rfl) (fun _ _ _ h => h) (Or.inl ⟨by rfl, ?_⟩) (by assumption) ?_
  rotate_left
  (focus (intro w0 hSw; (try dsimp only at hSw); go_simp <;> with_reducible rfl))
  simp only [List.getElem_toArray, List.getElem_cons_succ, List.getElem_cons_zero, Act.put, List.setIfInBounds_toArray, List.set_cons_zero, List.set_cons_succ]
  refine wpAnyH_take (i := 10) (v := ?_) rfl (by kernel_rfl) (by kernel_rfl) (by kernel_rfl) (fun _ _ _ h => h) (Or.inl ⟨by rfl, ?_⟩) (by assumption) ?_
  rotate_left
  (focus (intro w0 hSw; (try dsimp only at hSw); go_simp <;> with_reducible rfl))
  simp only [List.getElem_toArray, List.getElem_cons_succ, List.getElem_cons_zero, Act.put, List.setIfInBounds_toArray, List.set_cons_zero, List.set_cons_succ]
  refine wpAnyH_take (i := 12) (v := ?_) rfl (by kernel_rfl) (by kernel_rfl) (by kernel_rfl) (fun _ _ _ h => h) (Or.inl ⟨by rfl, ?_⟩) (by assumption) ?_
  rotate_left
  (focus (intro w0 hSw; (try dsimp only at hSw); go_simp <;> with_reducible rfl))
  simp only [List.getElem_toArray, List.getElem_cons_succ, List.getElem_cons_zero, Act.put, List.setIfInBounds_toArray, List.set_cons_zero, List.set_cons_succ]
  refine wpAnyH_take (i := 15) (v := ?_) rfl (by kernel_rfl) (by kernel_rfl) (by kernel_rfl) (fun _ _ _ h => h) (Or.inl ⟨by rfl, ?_⟩) (by assumption) ?_
  rotate_left
  (focus (intro w0 hSw; (try dsimp only at hSw); go_simp <;> with_reducible rfl))
  simp only [List.getElem_toArray, List.getElem_cons_succ, List.getElem_cons_zero, Act.put, List.setIfInBounds_toArray, List.set_cons_zero, List.set_cons_succ]
  refine (show wpAnyH _ _ _ _ _ (5 + 9) _ _ _ from wpAnyH_flow (fun j v w => match j with | 11 => G1 kv6 qa v w | 13 => G1 kv6 qb v w | 14 => G4 (KB kv6) (bqr qa qb) v w | 16 => G1 kv20 (bqr qa qb) v w | 17 => GT9 v w | _ => True) [(11, 171), (13, 173), (14, 174), (16, 176), (17, 177)] [11, 13, 14, 16, 17] [18, 19, 20, 21, 22, 23, 24, 25, 26] _ _ _ 9 ?k1 ?k4 ?k2 ?k3 ?k5 ?k6 ?k8)
  case k1 => kernel_rfl
  case k4 => kernel_rfl
  case k2 => exact fun w w' h hb => ⟨kCb hb h.1, kCb hb h.2.1, kCb hb h.2.2.1, kCb hb h.2.2.2.1, kCb hb h.2.2.2.2.1, kCb hb h.2.2.2.2.2.1, kCb hb h.2.2.2.2.2.2.1, kCb hb h.2.2.2.2.2.2.2.1, kCb hb h.2.2.2.2.2.2.2.2⟩
  case k3 =>
    intro j v w w' h hb
    split at h <;> first | exact G1.below h hb | exact G4.below h hb | exact GT9.below h hb | exact h | trivial
  case k8 => exact hHeld
  case k5 =>
    intro i hi
    simp only [List.mem_cons, List.not_mem_nil, or_false] at hi
    rcases hi with rfl | rfl | rfl | rfl | rfl
    · refine ⟨_, rfl, fun u w5 hS hb5 hd K hK => ?_⟩
      simp only [fill, List.foldl_cons, List.foldl_nil, Act.put, List.setIfInBounds_toArray, List.set_cons_zero, List.set_cons_succ] at hK ⊢
      go_simp
      exact hK.out _ _ (below_alloc (Below.refl _ _) _) ⟨w5.heap.size, rfl, (gr_one (base := 0) (Rn.below R1.out hb5) (Nat.zero_le _)).rf⟩
    · refine ⟨_, rfl, fun u w5 hS hb5 hd K hK => ?_⟩
      simp only [fill, List.foldl_cons, List.foldl_nil, Act.put, List.setIfInBounds_toArray, List.set_cons_zero, List.set_cons_succ] at hK ⊢
      go_simp
      exact hK.out _ _ (below_alloc (Below.refl _ _) _) ⟨w5.heap.size, rfl, (gr_one (base := 0) (Rn.below R2.out hb5) (Nat.zero_le _)).rf⟩
    · refine ⟨_, rfl, fun u w5 hS hb5 hd K hK => ?_⟩
      have hc : Calls Tryz.prog 22 #[u 11, u 13] w5 fun e w' => ∃ a c, e = .returned (.slice a 1 c) ∧ Below w5.heap.size w5 w' ∧ Hid (Rf (KB kv6) w' a [bqr qa qb]) := by
        have h1 : G1 kv6 qa (u 11) w5 := hd 11 (by kernel_rfl) (by kernel_rfl)
        have h2 : G1 kv6 qb (u 13) w5 := hd 13 (by kernel_rfl) (by kernel_rfl)
        obtain ⟨b1, e1, gg1⟩ := h1
        obtain ⟨b2, e2, gg2⟩ := h2
        rw [e1, e2]
        refine (between_c (L := kv6) gg1 rfl gg2 rfl (by simp) HKS.out.1).mono ?_
        rintro e w6 ⟨a6, c6, rfl, hb6, _, hr⟩
        exact ⟨a6, c6, rfl, hb6, hr⟩
      simp only [fill, List.foldl_cons, List.foldl_nil, Act.put, List.setIfInBounds_toArray, List.set_cons_zero, List.set_cons_succ] at hK ⊢
      go_simp
      go_at_call 22
      refine hc.mono ?_
      rintro e w6 ⟨a6, c6, rfl, hb6, hr⟩
      (try go_wp2_with fail)
      exact hK.out _ _ hb6 ⟨a6, c6, rfl, hr.out⟩
    · refine ⟨_, rfl, fun u w5 hS hb5 hd K hK => ?_⟩
      simp only [fill, List.foldl_cons, List.foldl_nil, Act.put, List.setIfInBounds_toArray, List.set_cons_zero, List.set_cons_succ] at hK ⊢
      go_simp
      exact hK.out _ _ (below_alloc (Below.refl _ _) _) ⟨w5.heap.size, rfl, (gr_one (base := 0) (Rn.below R3.out hb5) (Nat.zero_le _)).rf⟩
    · refine ⟨_, rfl, fun u w5 hS hb5 hd K hK => ?_⟩
      have hc : Calls Tryz.prog 13 #[u 14, u 16] w5 fun e w' => e = .returned (.bool true) ∧ Below w5.heap.size w5 w' := by
        have h1 : G4 (KB kv6) (bqr qa qb) (u 14) w5 := hd 14 (by kernel_rfl) (by kernel_rfl)
        have h2 : G1 kv20 (bqr qa qb) (u 16) w5 := hd 16 (by kernel_rfl) (by kernel_rfl)
        obtain ⟨a1, c1, e1, gg1⟩ := h1
        obtain ⟨b2, e2, gg2⟩ := h2
        rw [e1, e2]
        exact samesEq_c gg1 gg2 rfl (by simp) (Nat.le_trans HKS.out.2.2.2.2.1 (by decide)) (Nat.le_trans HKS.out.2.2.1 (by decide))
      simp only [fill, List.foldl_cons, List.foldl_nil, Act.put, List.setIfInBounds_toArray, List.set_cons_zero, List.set_cons_succ] at hK ⊢
      go_simp
      go_at_call 13
      refine hc.mono ?_
      rintro e w6 ⟨rfl, hb6⟩
      (try go_wp2_with fail)
      exact hK.out _ _ hb6 rfl
  case k6 =>
    intro u w5 hS5 hb5 hg
    have e17 : u 17 = .bool true := hg 17 (by simp)
    have S4w := S4.out.below hb5; have S5w := S5.out.below hb5; have S6w := S6.out.below hb5
    have HB5 := hid (HB.out.trans (hb5.mono HB.out.size))
    clear hg
    simp only [fill, List.foldl_cons, List.foldl_nil, Act.put, List.setIfInBounds_toArray, List.set_cons_zero, List.set_cons_succ]
    simp only [e17]
    clear e17
    refine wpAnyH_take (i := 18) (v := ?_) rfl (by kernel_rfl) (by kernel_rfl) (by kernel_rfl) (fun _ _ _ h => h) (Or.inl ⟨by rfl, ?_⟩) (by assumption) ?_
    rotate_left
    (focus (intro w0 hSw; (try dsimp only at hSw); go_simp <;> with_reducible rfl))
    simp only [List.getElem_toArray, List.getElem_cons_succ, List.getElem_cons_zero, Act.put, List.setIfInBounds_toArray, List.set_cons_zero, List.set_cons_succ]
    refine wpAnyH_take (i := 19) (v := ?_) rfl (by kernel_rfl) (by kernel_rfl) (by kernel_rfl) (fun _ _ _ h => h) (Or.inl ⟨by rfl, ?_⟩) (by assumption) ?_
    rotate_left
    (focus (intro w0 hSw; (try dsimp only at hSw); go_simp <;> with_reducible rfl))
    simp only [List.getElem_toArray, List.getElem_cons_succ, List.getElem_cons_zero, Act.put, List.setIfInBounds_toArray, List.set_cons_zero, List.set_cons_succ]
    refine wpAnyH_take (i := 20) (v := ?_) rfl (by kernel_rfl) (by kernel_rfl) (by kernel_rfl) (fun _ _ _ h => h) (Or.inl ⟨by rfl, ?_⟩) (by assumption) ?_
    rotate_left
    (focus (intro w0 hSw; (try dsimp only at hSw); go_simp <;> with_reducible rfl))
    simp only [List.getElem_toArray, List.getElem_cons_succ, List.getElem_cons_zero, Act.put, List.setIfInBounds_toArray, List.set_cons_zero, List.set_cons_succ]
    refine wpAnyH_take (i := 21) (v := ?_) rfl (by kernel_rfl) (by kernel_rfl) (by kernel_rfl) (fun _ _ _ h => h) (Or.inl ⟨by rfl, ?_⟩) (by assumption) ?_
    rotate_left
    (focus (intro w0 hSw; (try dsimp only at hSw); go_simp <;> with_reducible rfl))
    simp only [List.getElem_toArray, List.getElem_cons_succ, List.getElem_cons_zero, Act.put, List.setIfInBounds_toArray, List.set_cons_zero, List.set_cons_succ]
    refine wpAnyH_take (i := 23) (v := ?_) rfl (by kernel_rfl) (by kernel_rfl) (by kernel_rfl) (fun _ _ _ h => h) (Or.inl ⟨by rfl, ?_⟩) (by assumption) ?_
    rotate_left
    (focus (intro w0 hSw; (try dsimp only at hSw); go_simp <;> with_reducible rfl))
    simp only [List.getElem_toArray, List.getElem_cons_succ, List.getElem_cons_zero, Act.put, List.setIfInBounds_toArray, List.set_cons_zero, List.set_cons_succ]
    refine wpAnyH_ready (rs := [22]) (by kernel_rfl) (by simp) ?_
    refine AllReadyH.cons (o := _) rfl (fun K hK => ?_) ?_
    rotate_left
    exact AllReadyH.nil
    go_simp
    go_at_call 22
    refine (between_c (L := ka6) S4w HLA.out.1 S5w HLA.out.2.1 (by have := HLA.out.2.2; omega) HKS.out.2.1).mono ?_
    rintro e w6 ⟨a6, c6, rfl, hb6, _, hr6⟩
    (try go_wp2_with fail)
    refine hK.out _ _ ?_ (fun hH6 => ?_)
    · have hb := hb6
      exact ⟨kCb hb hS5.1, kCb hb hS5.2.1, kCb hb hS5.2.2.1, kCb hb hS5.2.2.2.1, kCb hb hS5.2.2.2.2.1, kCb hb hS5.2.2.2.2.2.1, kCb hb hS5.2.2.2.2.2.2.1, kCb hb hS5.2.2.2.2.2.2.2.1, kCb hb hS5.2.2.2.2.2.2.2.2⟩
    clear hK K
    try simp only [Act.put, List.setIfInBounds_toArray, List.set_cons_zero, List.set_cons_succ]
    refine wpAnyH_ready (rs := [24]) (by kernel_rfl) (by simp) ?_
    refine AllReadyH.cons (o := _) rfl (fun K hK => ?_) ?_
    rotate_left
    exact AllReadyH.nil
    go_simp
    go_at_call 13
    refine (samesEq_c hr6.out (S6w.below hb6) (by rw [btw_len (by rw [HLA.out.1, HLA.out.2.1])]; exact HLA.out.1) (by have := HLA.out.2.2; omega) (Nat.le_trans HKS.out.2.2.2.2.2 (by decide)) (Nat.le_trans HKS.out.2.2.2.1 (by decide))).mono ?_
    rintro e w7 ⟨rfl, hb7⟩
    (try go_wp2_with fail)
    refine hK.out _ _ ?_ (fun hH7 => ?_)
    · have hb := hb6.trans (hb7.mono hb6.size)
      exact ⟨kCb hb hS5.1, kCb hb hS5.2.1, kCb hb hS5.2.2.1, kCb hb hS5.2.2.2.1, kCb hb hS5.2.2.2.2.1, kCb hb hS5.2.2.2.2.2.1, kCb hb hS5.2.2.2.2.2.2.1, kCb hb hS5.2.2.2.2.2.2.2.1, kCb hb hS5.2.2.2.2.2.2.2.2⟩
    clear hK K
    try simp only [Act.put, List.setIfInBounds_toArray, List.set_cons_zero, List.set_cons_succ]
    refine wpAnyH_take (i := 25) (v := ?_) rfl (by kernel_rfl) (by kernel_rfl) (by kernel_rfl) (fun _ _ _ h => h) (Or.inl ⟨by rfl, ?_⟩) (by assumption) ?_
    rotate_left
    (focus (intro w0 hSw; (try dsimp only at hSw); go_simp <;> with_reducible rfl))
    simp only [List.getElem_toArray, List.getElem_cons_succ, List.getElem_cons_zero, Act.put, List.setIfInBounds_toArray, List.set_cons_zero, List.set_cons_succ]
    refine wpAnyH_take (i := 26) (v := ?_) rfl (by kernel_rfl) (by kernel_rfl) (by kernel_rfl) (fun _ _ _ h => h) (Or.inl ⟨by rfl, ?_⟩) (by assumption) ?_
    rotate_left
    (focus (intro w0 hSw; (try dsimp only at hSw); go_simp <;> with_reducible rfl))
    simp only [List.getElem_toArray, List.getElem_cons_succ, List.getElem_cons_zero, Act.put, List.setIfInBounds_toArray, List.set_cons_zero, List.set_cons_succ]
    refine wpAnyH_done (by kernel_rfl) ?_ _
    replace HB5 := hid (HB5.out.trans (hb6.mono HB5.out.size))
    replace HB5 := hid (HB5.out.trans (hb7.mono HB5.out.size))
    clear hHeld hH6 hH7 hS5
    go_wp2
    go_ret
    exact ⟨by first | rfl | simp, HB5.out⟩
end Go.Proofs.YtngakajgkklncaaGreat
