/-
  The walks of package vec's calls Scale and Sparse, whatever they are handed. The walk of package vec's call Sparse, whatever it is handed. How long rational numbers are, by their values: sums and products. The call Dot of package vec, on lists in form whose columns lie below the number of the numbers. Package vec's call At. Lists of terms and lists of numbers, as values: sums, products with numbers, there and back. No Go text is named here. Between lists in memory and their values; rows of numbers that are made and written; the walk of package vec's call Dense, whatever it is handed. The walk of package vec's call Dense, whatever it is handed. Package vec's call Dot where it answers an error.
-/
import Derived.Test.YthofcgpghbaccaaGreatZ7
import Derived.Test.YthofcgpghbaccaaGreatZ6
namespace Go.Proofs.YthofcgpghbaccaaGreat
open Go.RowKit

set_option maxRecDepth 100000 in
set_option maxHeartbeats 4000000 in
theorem scale1_c {L Bv b4 b5 : Nat} {wB W : World} {aw : Option Addr} {cw : Nat} {v' : List (Int × Rat)} {s : Bool} {x : Option Addr} {n c : Nat} {f : Nat → Int} {y : Option Addr} {m d : Nat} {g : Nat → Int} {r : Rat}
    (hB : Below wB.heap.size wB W) (hA : AcV (4 * L + 3) wB.heap.size W Bv []) (hw : Tf L wB aw v') (hr : Rn L wB s x n c f y m d g r) (hL : L ≤ 40000) (hcw : v'.length ≤ cw ∧ cw ≤ 9223372036854775807) (hlen : v'.length ≤ 100000)
    (h5 : wB.cell? ⟨b5, 0, none⟩ = some (.slice aw v'.length cw)) (h40 : wB.cell? ⟨b4, 0, none⟩ = some (.bool s)) (h41 : wB.cell? ⟨b4, 1, none⟩ = some (.slice x n c)) (h42 : wB.cell? ⟨b4, 2, none⟩ = some (.slice y m d)) :
    Calls Tryz.prog 50 #[.func (.func 78) #[] #[.pointer (some ⟨Bv, 0, none⟩)], .pointer (some ⟨b4, 0, none⟩), .pointer (some ⟨b5, 0, none⟩)] W fun e w' => e = .returned (.tuple #[]) ∧ Below wB.heap.size wB w' ∧ AcV (4 * L + 3) wB.heap.size w' Bv (mg r [] v') := by
  have CM : Hid (Calls Tryz.prog 44 #[.func (.func 78) #[] #[.pointer (some ⟨Bv, 0, none⟩)], .slice none 0 0, .agg #[.bool s, .slice x n c, .slice y m d], .slice aw v'.length cw] W fun e w' => e = .returned (.tuple #[]) ∧ Below wB.heap.size wB w' ∧ AcV (4 * L + 3) wB.heap.size w' Bv ([] ++ mg r [] v')) :=
    merge_c (v := []) (av := none) (cv := 0) hB hA (Tf.nil _ _ _) hw hr hL ⟨Nat.le_refl _, by omega⟩ hcw (by simp; omega)
  have x5 := kCb hB h5; have x40 := kCb hB h40; have x41 := kCb hB h41; have x42 := kCb hB h42
  clear hB hA hw hr h5 h40 h41 h42
  go_enter Tryz.func50, Tryz.ntmps50
  go_wp2_with fail
  refine CM.out.mono ?_
  rintro e w1 ⟨rfl, hb, ha⟩
  have HB := hid hb; have HA := hid ha
  clear hb ha
  go_wp2
  go_end0
  exact ⟨rfl, HB.out, HA.out⟩

set_option maxRecDepth 100000 in
set_option maxHeartbeats 4000000 in
theorem gatherScale_c {L b4 b5 : Nat} {w : World} {aw : Option Addr} {cw : Nat} {v' : List (Int × Rat)} {s : Bool} {x : Option Addr} {n c : Nat} {f : Nat → Int} {y : Option Addr} {m d : Nat} {g : Nat → Int} {r : Rat}
    (hw : Tf L w aw v') (hr : Rn L w s x n c f y m d g r) (hL : L ≤ 40000) (hcw : v'.length ≤ cw ∧ cw ≤ 9223372036854775807) (hlen : v'.length ≤ 100000)
    (h5 : w.cell? ⟨b5, 0, none⟩ = some (.slice aw v'.length cw)) (h40 : w.cell? ⟨b4, 0, none⟩ = some (.bool s)) (h41 : w.cell? ⟨b4, 1, none⟩ = some (.slice x n c)) (h42 : w.cell? ⟨b4, 2, none⟩ = some (.slice y m d)) :
    Calls Tryz.prog 42 #[.func (.func 50) #[] #[.pointer (some ⟨b4, 0, none⟩), .pointer (some ⟨b5, 0, none⟩)]] w fun e w' => GAns (4 * L + 3) w w' e (mg r [] v') := by
  have CF := hid (scale1_c (below_alloc (Below.refl w.heap.size w) (.cells #[.slice none 0 0] 22)) (acv_new (4 * L + 3) w) hw hr hL hcw hlen h5 h40 h41 h42)
  clear hw hr h5 h40 h41 h42
  have hmf : ∀ (fn : Fn) (first cap : Array Value) (w : World), (Instr.makeFunc fn first cap).run Tryz.prog w = .ok (.func fn first cap) w := fun _ _ _ _ => rfl
  go_enter Tryz.func42, Tryz.ntmps42
  go_wp2_with fail
  refine CF.out.mono ?_
  rintro e w1 ⟨rfl, hb, ha⟩
  obtain ⟨ao, cap, h1, h2, h3, h4, h5⟩ := acv_tf ha
  have HB := hid hb; have H5 := hid h5; have H4 := hid h4
  clear hb ha h5 h4
  go_wp2
  go_ret
  exact ⟨ao, cap, rfl, HB.out, h2, h3, H4.out, H5.out⟩

/-- Boxes of Scale: a number, a list. -/
structure Bq (w : World) (B : Nat) (r0 r1 r2 b0 : Value) : Prop where
  z : B + 1 < w.heap.size
  y0 : w.cell? ⟨B, 0, none⟩ = some r0
  y1 : w.cell? ⟨B, 1, none⟩ = some r1
  y2 : w.cell? ⟨B, 2, none⟩ = some r2
  u : w.cell? ⟨B + 1, 0, none⟩ = some b0
theorem Bq.below {w w' B r0 r1 r2 b0} (h : Bq w B r0 r1 r2 b0) (hb : Below w.heap.size w w') : Bq w' B r0 r1 r2 b0 := ⟨Nat.lt_of_lt_of_le h.z hb.size, kCb hb h.y0, kCb hb h.y1, kCb hb h.y2, kCb hb h.u⟩
theorem bq_new (w : World) (r0 r1 r2 b0 : Value) (t2 t3 : TypeId) : Bq ((w.alloc (.cells #[r0, r1, r2] t2)).alloc (.cells #[b0] t3)) w.heap.size r0 r1 r2 b0 :=
  ⟨by simp, by simp [go_sem], by simp [go_sem], by simp [go_sem], by simp [go_sem]⟩

set_option maxRecDepth 100000 in
set_option maxHeartbeats 4000000 in
theorem vScale_c {w : World} {L : Nat} {aw : Option Addr} {k' cw : Nat} {col' : Nat → Int} {T' : Nat → Nm} {s : Bool} {x : Option Addr} {n c : Nat} {f : Nat → Int} {y : Option Addr} {m d : Nat} {g : Nat → Int} {v' : List (Int × Rat)} {r : Rat}
    (hw : Tl w aw k' col' T') (hr : NmR w ⟨s, x, n, c, f, y, m, d, g⟩) (hk : k' ≤ 100000) (hcw : k' ≤ cw ∧ cw ≤ 9223372036854775807) (hL : L ≤ 40000)
    (fw : tfB k' col' T' = true → v'.length = k' ∧ Tf L w aw v') (fr : nfB ⟨s, x, n, c, f, y, m, d, g⟩ = true → Rn L w s x n c f y m d g r) :
    Calls Tryz.prog 18 #[.agg #[.bool s, .slice x n c, .slice y m d], .slice aw k' cw] w fun e w' => ∃ ao j cap er, e = .returned (.tuple #[.slice ao j cap, .int .i64 er]) ∧ Below w.heap.size w w' ∧ OV (nfB ⟨s, x, n, c, f, y, m, d, g⟩ && tfB k' col' T') (4 * L + 3) w' ao j cap er (mg r [] v') := by
  have HW := hid hw; have HR := hid hr; have FW := hid fw; have FR := hid fr
  have hb0 := below_alloc (below_alloc (Below.refl w.heap.size w) (.cells #[.bool s, .slice x n c, .slice y m d] 25)) (.cells #[.slice aw k' cw] 22)
  have hp0 := bq_new w (.bool s) (.slice x n c) (.slice y m d) (.slice aw k' cw) 25 22
  clear hw hr fw fr
  have hmf : ∀ (fn : Fn) (first cap : Array Value) (w : World), (Instr.makeFunc fn first cap).run Tryz.prog w = .ok (.func fn first cap) w := fun _ _ _ _ => rfl
  go_enter Tryz.func18, Tryz.ntmps18
  go_wp2_with fail
  generalize (w.alloc (.cells #[.bool s, .slice x n c, .slice y m d] 25)).alloc (.cells #[.slice aw k' cw] 22) = w0 at *
  have HB0 := hid hb0
  refine (rForm_c (s := s) (HR.out.1.below hb0) (Nat.le_trans HR.out.2.1 (by omega)) (Nat.le_trans HR.out.2.2 (by omega))).mono ?_
  rintro e w2 ⟨rfl, hb2⟩
  have HB2 := hid (hb0.trans (hb2.mono hb0.size)); have HP2 := hid (hp0.below hb2)
  clear hb2 hb0 hp0 HB0
  cases h2 : rfB s f n g m
  · have H2 : Hid (nfB ⟨s, x, n, c, f, y, m, d, g⟩ = false) := h2
    clear h2
    go_wp2
    go_ret2
    exact ⟨none, 0, 0, 3, rfl, HB2.out, .inl ⟨by rw [H2.out]; rfl, rfl, rfl, rfl, rfl⟩⟩
  have H2 : Hid (nfB ⟨s, x, n, c, f, y, m, d, g⟩ = true) := h2
  clear h2
  obtain ⟨z1, q1, q2, q3, q4⟩ := HP2.out
  go_wp2_with fail
  refine (vForm_c (cap := cw) (HW.out.below HB2.out) (by omega)).mono ?_
  rintro e w3 ⟨rfl, hb3⟩
  have HB3 := hid (HB2.out.trans (hb3.mono HB2.out.size)); have HP3 := hid (HP2.out.below hb3)
  clear hb3 HB2 HP2 z1 q1 q2 q3 q4
  cases h3 : tfB k' col' T'
  · have H3 := hid h3
    clear h3
    go_wp2
    go_ret2
    exact ⟨none, 0, 0, 3, rfl, HB3.out, .inl ⟨by rw [H2.out, H3.out]; rfl, rfl, rfl, rfl, rfl⟩⟩
  have H3 := hid h3
  clear h3
  obtain ⟨lw, tw⟩ := FW.out H3.out
  obtain ⟨z1, q1, q2, q3, q4⟩ := HP3.out
  have CG := hid (gatherScale_c (b4 := w.heap.size) (b5 := w.heap.size + 1) (tw.below HB3.out) ((FR.out H2.out).below HB3.out) hL (cw := cw) (by rw [lw]; exact hcw) (by omega) (by rw [lw]; exact q4) q1 q2 q3)
  clear tw lw
  go_wp2_with fail
  refine CG.out.mono ?_
  rintro e w4 ⟨ao, cap, rfl, hb4, h5, h6, h7, h8⟩
  have HB4 := hid (HB3.out.trans (hb4.mono HB3.out.size)); have H7 := hid h7; have H8 := hid h8
  clear hb4 h7 h8 q1 q2 q3 q4
  go_wp2
  go_ret2
  exact ⟨ao, _, cap, 0, rfl, HB4.out, .inr ⟨by rw [H2.out, H3.out]; rfl, rfl, rfl, h5, h6, H7.out, H8.out⟩⟩

/-- A list of numbers that reads as p, in form, of at most L limbs. -/
def Rf (L : Nat) (w : World) (ao : Option Addr) (p : List Rat) : Prop :=
  ∀ (j : Nat) (q : Rat), p[j]? = some q → ∃ b o, ∃ t : Nm, ao = some ⟨b, o, none⟩ ∧ C3 w b (o + j * 3) (.bool t.s) (.slice t.x t.n t.c) (.slice t.y t.m t.d) ∧ Rn L w t.s t.x t.n t.c t.f t.y t.m t.d t.g q
theorem Rf.below {L w w' ao p} (h : Rf L w ao p) (hb : Below w.heap.size w w') : Rf L w' ao p := fun j q hj => by
  obtain ⟨b, o, t, e, h1, h2⟩ := h j q hj
  exact ⟨b, o, t, e, h1.below hb, h2.below hb⟩
/-- The terms of numbers, from column i on. -/
def spr : List Rat → Nat → List (Int × Rat)
  | [], _ => []
  | q :: p, i => nz i q ++ spr p (i + 1)

set_option maxRecDepth 100000 in
set_option maxHeartbeats 4000000 in
theorem sparse1_c {L Bv b1 : Nat} {wB W : World} {ax : Option Addr} {cx : Nat} {p : List Rat}
    (hB : Below wB.heap.size wB W) (hA : AcV L wB.heap.size W Bv []) (hx : Rf L wB ax p) (hL : L ≤ 40000) (hlen : p.length ≤ 1000) (h1 : wB.cell? ⟨b1, 0, none⟩ = some (.slice ax p.length cx)) :
    Calls Tryz.prog 62 #[.func (.func 78) #[] #[.pointer (some ⟨Bv, 0, none⟩)], .pointer (some ⟨b1, 0, none⟩)] W fun e w' => e = .returned (.tuple #[]) ∧ Below wB.heap.size wB w' ∧ AcV L wB.heap.size w' Bv (spr p 0) := by
  have x1 := kCb hB h1
  have HB0 := hid hB; have HA0 := hid hA; have HX := hid hx
  clear hB hA hx h1
  go_enter Tryz.func62, Tryz.ntmps62
  go_wp2_with fail
  go_loopw [7] (fun t wr => ∃ (i : Nat) (us : List (Int × Rat)), i ≤ p.length ∧ t = .int .i64 i ∧ Hid (Below wB.heap.size wB wr) ∧ Hid (AcV L wB.heap.size wr Bv us) ∧ Hid (us ++ spr (p.drop i) i = spr p 0) ∧ us.length ≤ i) (fun t _ => p.length - (intOf t).toNat)
  case atStart => exact ⟨0, [], by omega, rfl, HB0, HA0, rfl, by simp⟩
  case round =>
    clear HB0 HA0 x1
    obtain ⟨i, us, hi, rfl, HB, HA, HE, hus⟩ := hrel
    by_cases hlt : i < p.length
    · obtain ⟨q, hq⟩ : ∃ q, p[i]? = some q := ⟨_, List.getElem?_eq_getElem hlt⟩
      obtain ⟨b, o, ⟨ts, tx, tn, tc, tf, ty, tm, td, tg⟩, rfl, hc, hr⟩ := (HX.out.below HB.out) i q hq
      obtain ⟨x0, x1, x2⟩ := hc
      replace x0 : wr.cell? ⟨b, o + i * 3, none⟩ = some (.bool ts) := x0
      replace x1 : wr.cell? ⟨b, o + i * 3 + 1, none⟩ = some (.slice tx tn tc) := x1
      replace x2 : wr.cell? ⟨b, o + i * 3 + 2, none⟩ = some (.slice ty tm td) := x2
      replace hr : Rn L wr ts tx tn tc tf ty tm td tg q := hr
      have hdrop : p.drop i = q :: p.drop (i + 1) := by
        have : p[i] = q := by rw [List.getElem?_eq_getElem hlt] at hq; exact Option.some.inj hq
        rw [← this]; exact List.drop_eq_getElem_cons hlt
      have HM : Hid ((us ++ nz i q) ++ spr (p.drop (i + 1)) (i + 1) = spr p 0) := by show _ = _; rw [← HE.out, hdrop, List.append_assoc]; rfl
      have hal := below_alloc (Below.refl wr.heap.size wr) (.cells #[.bool ts, .slice tx tn tc, .slice ty tm td] 25)
      have CC := hid (rCopy_n (hr.below hal) (by omega))
      have HAL := hid hal
      have i1 : ((i : Nat) : Int) < ((p.length : Nat) : Int) := by omega
      clear hq hdrop hr hal
      go_wp2_with fail
      refine CC.out.mono ?_
      rintro e w5 ⟨xp, cp, yp, dp, rfl, hb5, hp5⟩
      have hb6 := HAL.out.trans (hb5.mono HAL.out.size)
      have CP := hid (putV_c (z := (i : Int)) (HA.out.below hb6) (by omega) hp5 (by omega))
      have HB6 := hid (HB.out.trans (hb6.mono HB.out.size))
      clear hb5 hb6 hp5
      go_wp2_with fail
      refine CP.out.mono ?_
      rintro e w6 ⟨rfl, hb7, hy7, ha7⟩
      have HB7 := hid (HB6.out.trans hb7); have HA7 := hid ha7
      clear hb7 hy7 ha7
      go_wp2
      go_roundw
      case rel => exact ⟨i + 1, us ++ nz i q, by omega, by go_num, HB7.out, HA7.out, HM.out, by have := nz_len i q; simp; omega⟩
      case measure => simp [intOf]; omega
    · have e1 : i = p.length := by omega
      have i2 : ¬ (((i : Nat) : Int) < ((p.length : Nat) : Int)) := by omega
      have HF : Hid (us = spr p 0) := by
        show _ = _
        rw [← HE.out, e1, List.drop_length]
        simp [spr]
      clear e1
      go_wp2
      go_end0
      refine ⟨rfl, HB.out, ?_⟩
      rw [← HF.out]; exact HA.out
end Go.Proofs.YthofcgpghbaccaaGreat
namespace Go.Proofs.YthofcgpghbaccaaGreat
open Go.RowKit

theorem afr_all {X : Nat → Nm} : ∀ {r i : Nat}, afr X r i = true → ∀ j, i ≤ j → j < i + r → nfB (X j) = true := by
  intro r
  induction r with
  | zero => intro i _ j h1 h2; omega
  | succ r ih =>
    intro i h j hj hj2
    simp only [afr, Bool.and_eq_true] at h
    by_cases e : j = i
    · subst e; exact h.1
    · exact ih h.2 j (by omega) (by omega)
/-- A list of numbers in form has values. -/
theorem rl_rf {w : World} {ao : Option Addr} {k : Nat} {X : Nat → Nm} {L : Nat} (h : Rl w ao k X) (hf : afB k X = true) (hL : ∀ j, j < k → (X j).n ≤ L ∧ (X j).m ≤ L) : ∃ p : List Rat, p.length = k ∧ Rf L w ao p ∧ ∀ j, j < k → ∃ q, p[j]? = some q ∧ Rn L w (X j).s (X j).x (X j).n (X j).c (X j).f (X j).y (X j).m (X j).d (X j).g q := by
  have h1 := afr_all hf
  have hq : ∀ j, ∃ q, j < k → Rn L w (X j).s (X j).x (X j).n (X j).c (X j).f (X j).y (X j).m (X j).d (X j).g q := fun j => by
    by_cases hj : j < k
    · obtain ⟨b, o, _, _, hr⟩ := h j hj
      obtain ⟨q, hq⟩ := Nm.rn hr (h1 j (by omega) (by omega)) (hL j hj).1 (hL j hj).2
      exact ⟨q, fun _ => hq⟩
    · exact ⟨0, fun h => absurd h hj⟩
  have hQ := fun j => Classical.choose_spec (hq j)
  generalize hQe : (fun j => Classical.choose (hq j)) = Q at *
  have hQ2 : ∀ j, j < k → Rn L w (X j).s (X j).x (X j).n (X j).c (X j).f (X j).y (X j).m (X j).d (X j).g (Q j) := fun j hj => by rw [← hQe]; exact hQ j hj
  refine ⟨(List.range k).map Q, by simp, ?_, fun j hj => ⟨Q j, by simp [hj], hQ2 j hj⟩⟩
  intro j q hj
  have hlt : j < k := by
    have := (List.getElem?_eq_some_iff.1 hj).1
    simpa using this
  simp [hlt] at hj
  subst hj
  obtain ⟨b, o, e, hc, _⟩ := h j hlt
  exact ⟨b, o, X j, e, hc, hQ2 j hlt⟩

set_option maxRecDepth 100000 in
set_option maxHeartbeats 4000000 in
theorem gatherSparse_c {L b1 : Nat} {w : World} {ax : Option Addr} {cx : Nat} {p : List Rat} (hx : Rf L w ax p) (hL : L ≤ 40000) (hlen : p.length ≤ 1000) (h1 : w.cell? ⟨b1, 0, none⟩ = some (.slice ax p.length cx)) :
    Calls Tryz.prog 42 #[.func (.func 62) #[] #[.pointer (some ⟨b1, 0, none⟩)]] w fun e w' => GAns L w w' e (spr p 0) := by
  have CF := hid (sparse1_c (below_alloc (Below.refl w.heap.size w) (.cells #[.slice none 0 0] 22)) (acv_new L w) hx hL hlen h1)
  clear hx h1
  have hmf : ∀ (fn : Fn) (first cap : Array Value) (w : World), (Instr.makeFunc fn first cap).run Tryz.prog w = .ok (.func fn first cap) w := fun _ _ _ _ => rfl
  go_enter Tryz.func42, Tryz.ntmps42
  go_wp2_with fail
  refine CF.out.mono ?_
  rintro e w1 ⟨rfl, hb, ha⟩
  obtain ⟨ao, cap, h1, h2, h3, h4, h5⟩ := acv_tf ha
  have HB := hid hb; have H5 := hid h5; have H4 := hid h4
  clear hb ha h5 h4
  go_wp2
  go_ret
  exact ⟨ao, cap, rfl, HB.out, h2, h3, H4.out, H5.out⟩

/-- What Sparse answers. -/
def OS (k : Nat) (pf : Bool) (L : Nat) (w' : World) (ao : Option Addr) (n cap : Nat) (er : Int) (vs : List (Int × Rat)) : Prop :=
  64 < k ∧ er = 2 ∧ ao = none ∧ n = 0 ∧ cap = 0 ∨ k ≤ 64 ∧ pf = false ∧ er = 3 ∧ ao = none ∧ n = 0 ∧ cap = 0 ∨ k ≤ 64 ∧ pf = true ∧ er = 0 ∧ n = vs.length ∧ vs.length ≤ cap ∧ cap ≤ 9223372036854775807 ∧ (ao = none → vs = [] ∧ cap = 0) ∧ Tf L w' ao vs

set_option maxRecDepth 100000 in
set_option maxHeartbeats 4000000 in
theorem vSparse_c {w : World} {L : Nat} {ax : Option Addr} {k cx : Nat} {X : Nat → Nm} {p : List Rat} (hx : Rl w ax k X) (hk : k ≤ 1048576) (hL : L ≤ 40000) (fx : afB k X = true → p.length = k ∧ Rf L w ax p) :
    Calls Tryz.prog 30 #[.slice ax k cx] w fun e w' => ∃ ao j cap er, e = .returned (.tuple #[.slice ao j cap, .int .i64 er]) ∧ Below w.heap.size w w' ∧ OS k (afB k X) L w' ao j cap er (spr p 0) := by
  have HX := hid hx; have FX := hid fx
  have hb0 := below_alloc (Below.refl w.heap.size w) (.cells #[.slice ax k cx] 45)
  have hc0 : (w.alloc (.cells #[.slice ax k cx] 45)).cell? ⟨w.heap.size, 0, none⟩ = some (.slice ax k cx) := by simp [go_sem]
  clear hx fx
  have hmf : ∀ (fn : Fn) (first cap : Array Value) (w : World), (Instr.makeFunc fn first cap).run Tryz.prog w = .ok (.func fn first cap) w := fun _ _ _ _ => rfl
  by_cases h64 : 64 < k
  · have i1 : (64 : Int) < ((k : Nat) : Int) := by omega
    have HB0 := hid hb0
    clear hb0 hc0
    go_enter Tryz.func30, Tryz.ntmps30
    go_wp2
    go_ret2
    exact ⟨none, 0, 0, 2, rfl, HB0.out, .inl ⟨h64, rfl, rfl, rfl, rfl⟩⟩
  · have i1 : ¬ ((64 : Int) < ((k : Nat) : Int)) := by omega
    have HB0 := hid hb0; have HC0 := hid hc0
    have CA := hid (allForm_c (cap := cx) (HX.out.below hb0) (by omega))
    clear hb0 hc0
    go_enter Tryz.func30, Tryz.ntmps30
    go_wp2_with fail
    refine CA.out.mono ?_
    rintro e w1 ⟨rfl, hb1⟩
    have HB1 := hid (HB0.out.trans (hb1.mono HB0.out.size)); have hc1 := kCb hb1 HC0.out
    have hz1 := Nat.lt_of_lt_of_le (World.block_lt_of_cell? _ _ hc1) (Nat.le_refl _)
    clear hb1 HB0 HC0 CA
    cases hf : afB k X
    · have HF := hid hf
      clear hf
      go_wp2
      go_ret2
      exact ⟨none, 0, 0, 3, rfl, HB1.out, .inr (.inl ⟨by omega, HF.out, rfl, rfl, rfl, rfl⟩)⟩
    · obtain ⟨lp, tp⟩ := FX.out hf
      have CG := hid (gatherSparse_c (b1 := w.heap.size) (tp.below HB1.out) hL (by omega) (cx := cx) (by rw [lp]; exact hc1))
      have HF := hid hf
      clear lp tp hf
      go_wp2_with fail
      refine CG.out.mono ?_
      rintro e w4 ⟨ao, cap, rfl, hb4, h5, h6, h7, h8⟩
      have HB4 := hid (HB1.out.trans (hb4.mono HB1.out.size)); have H7 := hid h7; have H8 := hid h8
      clear hb4 h7 h8
      go_wp2
      go_ret2
      exact ⟨ao, _, cap, 0, rfl, HB4.out, .inr (.inr ⟨by omega, HF.out, rfl, rfl, h5, h6, H7.out, H8.out⟩)⟩
end Go.Proofs.YthofcgpghbaccaaGreat
namespace Go.Proofs.YthofcgpghbaccaaGreat
open Go.RowKit

theorem Wn.lt_pw {w s x n c f v} (h : Wn w s x n c f v) : ((v.natAbs : Nat) : Int) < pw n := by
  have hm := h.mag
  have h1 := vf_lt hm.lm
  have h3 : vf f n = ((v.natAbs : Nat) : Int) := hm.val
  omega
theorem Wn.len_pw {w s x n c f v} {K : Nat} (h : Wn w s x n c f v) (hv : ((v.natAbs : Nat) : Int) < pw K) : n ≤ K := by
  have hm := h.mag
  have h3 : vf f n = ((v.natAbs : Nat) : Int) := hm.val
  by_cases hn : n ≤ K
  · exact hn
  · have h1 := vf_form_ge hm.lm (fm_of_wfB hm.wf) (by omega)
    have h2 := pw_mono (show K ≤ n - 1 by omega)
    omega
theorem norm_le (N : Int) (D : Nat) (h : D ≠ 0) : (Rat.normalize N D h).num.natAbs ≤ N.natAbs ∧ (Rat.normalize N D h).den ≤ D := by
  rw [Rat.normalize_eq]
  exact ⟨Int.natAbs_ediv_le_natAbs _ _, Nat.div_le_self _ _⟩
/-- Numerator and denominator lie below so many limbs. -/
def Lo (K : Nat) (q : Rat) : Prop := ((q.num.natAbs : Nat) : Int) < pw K ∧ ((q.den : Nat) : Int) < pw K
theorem Lo.mono {K L q} (h : Lo K q) (hk : K ≤ L) : Lo L q := ⟨Int.lt_of_lt_of_le h.1 (pw_mono hk), Int.lt_of_lt_of_le h.2 (pw_mono hk)⟩
theorem Rn.lo {L w s x n c f y m d g q} {K : Nat} (h : Rn L w s x n c f y m d g q) (hn : n ≤ K) (hm : m ≤ K) : Lo K q :=
  ⟨Int.lt_of_lt_of_le h.num.lt_pw (pw_mono hn), Int.lt_of_lt_of_le (by have := h.den.lt_pw; simpa using this) (pw_mono hm)⟩
theorem Rn.cut {L w s x n c f y m d g q} {K : Nat} (h : Rn L w s x n c f y m d g q) (hq : Lo K q) : Rn K w s x n c f y m d g q :=
  ⟨h.num, h.den, h.num.len_pw hq.1, h.den.len_pw (by simpa using hq.2)⟩
theorem mul_pw {a b : Nat} {K L : Nat} (h1 : (a : Int) < pw K) (h2 : (b : Int) < pw L) : ((a * b : Nat) : Int) ≤ pw (K + L) := by
  rw [pw_add, Int.natCast_mul]
  exact Int.mul_le_mul (by omega) (by omega) (by omega) (by have := pw_pos K; omega)
theorem pw_twice (K : Nat) : 2 * pw K < pw (K + 1) := by
  have := pw_pos K
  simp only [pw]; omega
theorem lo_mul {K L : Nat} {a b : Rat} (ha : Lo K a) (hb : Lo L b) : Lo (K + L + 1) (a * b) := by
  rw [Rat.mul_def]
  obtain ⟨h1, h2⟩ := norm_le (a.num * b.num) (a.den * b.den) (Nat.mul_ne_zero a.den_nz b.den_nz)
  have e1 := mul_pw ha.1 hb.1
  have e2 := mul_pw ha.2 hb.2
  rw [Int.natAbs_mul] at h1
  have p := pw_twice (K + L)
  have p0 := pw_pos (K + L)
  constructor <;> omega
theorem lo_add {K L : Nat} {a b : Rat} (ha : Lo K a) (hb : Lo L b) : Lo (K + L + 1) (a + b) := by
  rw [Rat.add_def]
  obtain ⟨h1, h2⟩ := norm_le (a.num * b.den + b.num * a.den) (a.den * b.den) (Nat.mul_ne_zero a.den_nz b.den_nz)
  have e1 := mul_pw ha.1 hb.2
  have e2 := mul_pw ha.2 hb.1
  have e3 := mul_pw ha.2 hb.2
  have h3 := Int.natAbs_add_le (a.num * b.den) (b.num * a.den)
  rw [Int.natAbs_mul, Int.natAbs_mul, Int.natAbs_natCast, Int.natAbs_natCast, Nat.mul_comm b.num.natAbs] at h3
  have p := pw_twice (K + L)
  have p0 := pw_pos (K + L)
  constructor <;> omega
theorem lo_neg {K : Nat} {a : Rat} (ha : Lo K a) : Lo K (-a) := by
  unfold Lo at *
  rw [Rat.neg_num, Rat.neg_den, Int.natAbs_neg]
  exact ha
end Go.Proofs.YthofcgpghbaccaaGreat
namespace Go.Proofs.YthofcgpghbaccaaGreat
open Go.RowKit

/-- The sum of coefficients times numbers, put to a sum. -/
def dsum (p : List Rat) : List (Int × Rat) → Rat → Rat
  | [], acc => acc
  | (a, q) :: v, acc => dsum p v (acc + q * p.getD a.toNat 0)
/-- A box that holds a number and may be written. -/
structure Sx (w : World) (B : Nat) (s : Bool) (x : Option Addr) (n c : Nat) (y : Option Addr) (m d : Nat) : Prop where
  z : B < w.heap.size
  x0 : w.cell? ⟨B, 0, none⟩ = some (.bool s)
  x1 : w.cell? ⟨B, 1, none⟩ = some (.slice x n c)
  x2 : w.cell? ⟨B, 2, none⟩ = some (.slice y m d)
  fz : ∀ o, w.frozen? ⟨B, o, none⟩ = false
theorem Sx.below {w w' B s x n c y m d} (h : Sx w B s x n c y m d) (hb : Below w.heap.size w w') : Sx w' B s x n c y m d := by
  obtain ⟨_, h2⟩ := bcell hb
  exact ⟨Nat.lt_of_lt_of_le h.z hb.size, kCb hb h.x0, kCb hb h.x1, kCb hb h.x2, fun o => (h2 _ _ h.z).trans (h.fz o)⟩

theorem Sx.rd {w B s x n c y m d u0 u1 u2 a k h} (S : Sx w B s x n c y m d) (hx : Rd .u64 w a k h) : Rd .u64 (((w.setCell ⟨B, 0, none⟩ u0).setCell ⟨B, 1, none⟩ u1).setCell ⟨B, 2, none⟩ u2) a k h :=
  rd_setne (cell_off (by decide) (cell_off (by decide) S.x2)) (fun i h => by cases h) (rd_setne (cell_off (by decide) S.x1) (fun i h => by cases h) (rd_setne S.x0 (fun i h => by cases h) hx))
theorem Sx.rn {w B s x n c y m d u0 u1 u2 L s1 x1 n1 c1 f1 y1 m1 d1 g1 q} (S : Sx w B s x n c y m d) (h : Rn L w s1 x1 n1 c1 f1 y1 m1 d1 g1 q) : Rn L (((w.setCell ⟨B, 0, none⟩ u0).setCell ⟨B, 1, none⟩ u1).setCell ⟨B, 2, none⟩ u2) s1 x1 n1 c1 f1 y1 m1 d1 g1 q :=
  ⟨⟨S.rd h.num.rd, h.num.lm, h.num.wf, h.num.cap, h.num.nil, h.num.val⟩, ⟨S.rd h.den.rd, h.den.lm, h.den.wf, h.den.cap, h.den.nil, h.den.val⟩, h.ln, h.ld⟩
theorem Sx.st {w B s x n c y m d s1 x1 n1 c1 y1 m1 d1} (S : Sx w B s x n c y m d) : Sx (((w.setCell ⟨B, 0, none⟩ (.bool s1)).setCell ⟨B, 1, none⟩ (.slice x1 n1 c1)).setCell ⟨B, 2, none⟩ (.slice y1 m1 d1)) B s1 x1 n1 c1 y1 m1 d1 := by
  have e0 := kI0 S.x0; have e1 := kI0 S.x1; have e2 := kI0 S.x2
  exact ⟨by simpa [World.setCell] using S.z, kCo (by decide) (kCo (by decide) (kCe e0)), kCo (by decide) (kCe (kIs e1)), kCe (kIs (kIs e2)), fun o => kFs (kFs (kFs (S.fz o)))⟩
theorem Ob.far3 {w A B u0 u1 u2} (h : Ob w A) (hAB : B ≠ A) : Ob (((w.setCell ⟨B, 0, none⟩ u0).setCell ⟨B, 1, none⟩ u1).setCell ⟨B, 2, none⟩ u2) A :=
  ⟨by simpa [World.setCell] using h.z, kCs hAB (kCs hAB (kCs hAB h.z0)), kCs hAB (kCs hAB (kCs hAB h.z1)), kCs hAB (kCs hAB (kCs hAB h.z2)), fun o => kFs (kFs (kFs (h.zf o)))⟩
theorem Sx.drew {w B s x n c y m d} (h : Sx w B s x n c y m d) : Sx w.drew B s x n c y m d := ⟨h.z, h.x0, h.x1, h.x2, h.fz⟩
/-- What one round of Dot leaves. -/
structure Rd1 (K : Nat) (w wy : World) (B : Nat) (s : Bool) (x : Option Addr) (n c : Nat) (f : Nat → Int) (y : Option Addr) (m d : Nat) (g : Nat → Int) (q : Rat) : Prop where
  bel : Below w.heap.size w wy
  sx : Sx wy B s x n c y m d
  ob : Ob wy w.heap.size
  rn : Rn K wy s x n c f y m d g q
theorem rd1_mk {K B w w6 s x n c y m d s1 x1 n1 c1 f1 y1 m1 d1 g1 q} (hb : Below w.heap.size w w6) (S : Sx w6 B s x n c y m d) (O : Ob w6 w.heap.size) (h : Rn K w6 s1 x1 n1 c1 f1 y1 m1 d1 g1 q) (hB : w.heap.size < B) : Rd1 K w (((w6.setCell ⟨B, 0, none⟩ (.bool s1)).setCell ⟨B, 1, none⟩ (.slice x1 n1 c1)).setCell ⟨B, 2, none⟩ (.slice y1 m1 d1)) B s1 x1 n1 c1 f1 y1 m1 d1 g1 q :=
  ⟨below_st hb (by omega), S.st, O.far3 (by omega), S.rn h⟩
theorem Rd1.drew {K B w w6 s x n c f y m d g q} (h : Rd1 K w w6 B s x n c f y m d g q) : Rd1 K w w6.drew B s x n c f y m d g q := ⟨h.bel.drew, h.sx.drew, h.ob.drew, ⟨⟨h.rn.num.rd, h.rn.num.lm, h.rn.num.wf, h.rn.num.cap, h.rn.num.nil, h.rn.num.val⟩, ⟨h.rn.den.rd, h.rn.den.lm, h.rn.den.wf, h.rn.den.cap, h.rn.den.nil, h.rn.den.val⟩, h.rn.ln, h.rn.ld⟩⟩
theorem kFbs {w w' : World} {a : Addr} (hb : Below w.heap.size w w') (h : (w.cell? a).isSome = true) (h2 : w.frozen? a = false) : w'.frozen? a = false := by
  obtain ⟨u, hu⟩ := Option.isSome_iff_exists.1 h
  exact (hb.frozen (World.block_lt_of_cell? w a hu)).trans h2

set_option maxRecDepth 100000 in
set_option maxHeartbeats 4000000 in
theorem vDot_c {w : World} {L : Nat} {av ax : Option Addr} {k kx cv cx : Nat} {col : Nat → Int} {T : Nat → Nm} {X : Nat → Nm} {v : List (Int × Rat)} {p : List Rat}
    (hv : Tl w av k col T) (hx : Rl w ax kx X) (hk : k ≤ 64) (hkx : kx ≤ 64) (hL : L ≤ 200) (hf : tfB k col T = true) (hfx : afB kx X = true) (lv : v.length = k) (lp : p.length = kx) (tv : Tf L w av v) (tx : Rf L w ax p) (hbel : ∀ (j : Nat) (a : Int) (q : Rat), v[j]? = some (a, q) → 0 ≤ a ∧ a < kx) (hOf : ∀ W, Calls Tryz.prog 52 #[.int .i64 0] W fun e w' => RatAns 4 W w' e 0) :
    Calls Tryz.prog 27 #[.slice av k cv, .slice ax kx cx] w fun e w' => RatTup 40000 w w' e (dsum p v 0) := by
  have HV := hid hv; have HX := hid hx; have TV := hid tv; have TX := hid tx; have HBe := hid hbel; have CO := hid hOf
  have h2 := ob_new w 25
  have h3 := below_alloc (Below.refl w.heap.size w) (.cells #[.bool false, .slice none 0 0, .slice none 0 0] 25)
  have i1 : ¬ ((64 : Int) < ((kx : Nat) : Int)) := by omega
  clear hv hx tv tx hbel hOf
  go_enter Tryz.func27, Tryz.ntmps27
  go_wp2_with fail
  generalize w.alloc (.cells #[.bool false, .slice none 0 0, .slice none 0 0] 25) = w0 at *
  have hf2 := vForm_c (cap := cv) (HV.out.below h3) (by omega)
  rw [hf] at hf2
  refine hf2.mono ?_
  clear hf2
  rintro e w1 ⟨rfl, hb1⟩
  have OB1 := hid (h2.below hb1); have HB1 := hid (h3.trans (hb1.mono h3.size))
  clear h2 h3 hb1
  go_wp2_with fail
  have hf3 := allForm_c (cap := cx) (HX.out.below HB1.out) (by omega)
  rw [hfx] at hf3
  refine hf3.mono ?_
  clear hf3
  rintro e w2 ⟨rfl, hb2⟩
  have OB2 := hid (OB1.out.below hb2); have HB2 := hid (HB1.out.trans (hb2.mono HB1.out.size))
  clear OB1 HB1 hb2
  have hab : (decide (k = 0) || decide (col (k - 1) < (kx : Int))) = true := by
    by_cases h0 : k = 0
    · simp [h0]
    · obtain ⟨⟨a, q⟩, haq⟩ : ∃ t, v[k - 1]? = some t := ⟨_, List.getElem?_eq_getElem (by omega)⟩
      obtain ⟨_, ha1⟩ := HBe.out _ a q haq
      obtain ⟨b, o, _, hav, hc, _⟩ := TV.out _ a q haq
      obtain ⟨b2, o2, hav2, hc2, _⟩ := HV.out (k - 1) (by omega)
      have e1 := hc.x0; have e2 := hc2.x0
      rw [hav] at hav2
      obtain ⟨rfl, rfl⟩ : b = b2 ∧ o = o2 := by simpa using hav2
      rw [e1] at e2
      have e3 : a = col (k - 1) := by simpa using e2
      rw [← e3]; simp [ha1]
  go_wp2_with fail
  have hf4 := allBelow_c (cap := cv) (z := (kx : Int)) (HV.out.below HB2.out) (by omega)
  rw [hab] at hf4
  refine hf4.mono ?_
  clear hf4 hab
  rintro e w3 ⟨rfl, rfl⟩
  go_wp2_with fail
  refine (CO.out _).mono ?_
  rintro e w4 ⟨s0, x0, n0, c0, f0, y0, m0, d0, g0, rfl, hb4, hq4⟩
  have OB4 := hid (OB2.out.below hb4); have HB4 := hid (HB2.out.trans (hb4.mono HB2.out.size)); have HQ4 := hid hq4
  clear OB2 HB2 hb4 hq4
  go_wp2_with fail
  have hSx : Sx (w4.alloc (.cells #[.bool s0, .slice x0 n0 c0, .slice y0 m0 d0] 25)) w4.heap.size s0 x0 n0 c0 y0 m0 d0 := ⟨by simp, by simp [go_sem], by simp [go_sem], by simp [go_sem], fun o => by simp only [World.frozen?, heap_alloc_new w4 (.cells #[.bool s0, .slice x0 n0 c0, .slice y0 m0 d0] 25)]; simp⟩
  have hal := below_alloc (Below.refl w4.heap.size w4) (.cells #[.bool s0, .slice x0 n0 c0, .slice y0 m0 d0] 25)
  have hsz : w.heap.size ≤ w4.heap.size := HB4.out.size
  have hne : w.heap.size < w4.heap.size := OB4.out.z
  have ST := hid hSx; have HB5 := hid (HB4.out.trans (hal.mono HB4.out.size)); have HQ5 := hid (HQ4.out.below hal); have OB5 := hid (OB4.out.below hal)
  clear hSx hal HB4 HQ4 OB4
  go_loopw [34] (fun t wr => ∃ (i : Nat) (acc : Rat) (s : Bool) (x : Option Addr) (n c : Nat) (f : Nat → Int) (y : Option Addr) (m d : Nat) (g : Nat → Int), i ≤ k ∧ t = .int .i64 i ∧ Hid (Below w.heap.size w wr) ∧ Hid (Sx wr w4.heap.size s x n c y m d) ∧ Hid (Ob wr w.heap.size) ∧ Hid (Rn (4 + i * (2 * L + 2)) wr s x n c f y m d g acc) ∧ Hid (dsum p (v.drop i) acc = dsum p v 0)) (fun t _ => k - (intOf t).toNat)
  case atStart => exact ⟨0, 0, s0, x0, n0, c0, f0, y0, m0, d0, g0, by omega, rfl, HB5, ST, OB5, (by show Rn _ _ _ _ _ _ _ _ _ _ _ _; exact HQ5.out.mono (by omega)), rfl⟩
  case round =>
    clear HB5 HQ5 OB5 ST
    obtain ⟨i, acc, s, x, n, c, f, y, m, d, g, hi, rfl, HB, HS, HO, HQ, HE⟩ := hrel
    by_cases hlt : i < k
    · obtain ⟨⟨a, q⟩, haq⟩ : ∃ t, v[i]? = some t := ⟨_, List.getElem?_eq_getElem (by omega)⟩
      obtain ⟨ha0, ha1⟩ := HBe.out i a q haq
      obtain ⟨an, rfl⟩ := Int.eq_ofNat_of_zero_le ha0
      obtain ⟨b, o, ⟨ts, tx, tn, tc, tf, ty, tm, td, tg⟩, hav, hc, hr⟩ := (TV.out.below HB.out) i an q haq
      obtain ⟨r, hr2⟩ : ∃ r, p[an]? = some r := ⟨_, List.getElem?_eq_getElem (by omega)⟩
      obtain ⟨b', o', ⟨ss, sx, sn, sc, sf, sy, sm, sd, sg⟩, hax, hc', hr'⟩ := (TX.out.below HB.out) an r hr2
      have hav2 := hav; have hax2 := hax
      subst hav2; subst hax2
      obtain ⟨x0, x1, x2, x3⟩ := hc
      obtain ⟨p0, p1, p2⟩ := hc'
      replace x0 : wr.cell? ⟨b, o + i * 4, none⟩ = some (.int .i64 an) := x0
      replace x1 : wr.cell? ⟨b, o + i * 4 + 1, none⟩ = some (.bool ts) := x1
      replace x2 : wr.cell? ⟨b, o + i * 4 + 2, none⟩ = some (.slice tx tn tc) := x2
      replace x3 : wr.cell? ⟨b, o + i * 4 + 3, none⟩ = some (.slice ty tm td) := x3
      replace p0 : wr.cell? ⟨b', o' + an * 3, none⟩ = some (.bool ss) := p0
      replace p1 : wr.cell? ⟨b', o' + an * 3 + 1, none⟩ = some (.slice sx sn sc) := p1
      replace p2 : wr.cell? ⟨b', o' + an * 3 + 2, none⟩ = some (.slice sy sm sd) := p2
      obtain ⟨sz, u0, u1, u2, uf⟩ := HS.out
      have HR1 : Hid (Rn L wr ts tx tn tc tf ty tm td tg q) := hr
      have HR2 : Hid (Rn L wr ss sx sn sc sf sy sm sd sg r) := hr'
      have i2 : ((i : Nat) : Int) < ((k : Nat) : Int) := by omega
      have i3 : ((an : Nat) : Int) < ((kx : Nat) : Int) := by omega
      have HD : Hid (dsum p (v.drop (i + 1)) (acc + q * r) = dsum p v 0) := by
        show _ = _
        have e1 : v.drop i = ((an : Int), q) :: v.drop (i + 1) := by
          have hl : i < v.length := by omega
          have : v[i] = ((an : Int), q) := by rw [List.getElem?_eq_getElem hl] at haq; exact Option.some.inj haq
          rw [← this]; exact List.drop_eq_getElem_cons hl
        rw [← HE.out, e1]
        show _ = dsum p _ (acc + q * p.getD (an : Int).toNat 0)
        rw [Int.toNat_natCast, List.getD_eq_getElem?_getD, hr2]; rfl
      clear hr hr' haq hr2 hav hax HE
      go_upto_region 11 with fail
      have hb5 := below_alloc (Below.refl wr.heap.size wr) (.cells #[.int .i64 an, .bool ts, .slice tx tn tc, .slice ty tm td] 69)
      have a0 : (wr.alloc (.cells #[.int .i64 an, .bool ts, .slice tx tn tc, .slice ty tm td] 69)).cell? ⟨wr.heap.size, 0, none⟩ = some (.int .i64 an) := by simp [go_sem]
      have a1 : (wr.alloc (.cells #[.int .i64 an, .bool ts, .slice tx tn tc, .slice ty tm td] 69)).cell? ⟨wr.heap.size, 1, none⟩ = some (.bool ts) := by simp [go_sem]
      have a2 : (wr.alloc (.cells #[.int .i64 an, .bool ts, .slice tx tn tc, .slice ty tm td] 69)).cell? ⟨wr.heap.size, 2, none⟩ = some (.slice tx tn tc) := by simp [go_sem]
      have a3 : (wr.alloc (.cells #[.int .i64 an, .bool ts, .slice tx tn tc, .slice ty tm td] 69)).cell? ⟨wr.heap.size, 3, none⟩ = some (.slice ty tm td) := by simp [go_sem]
      replace p0 := kCb hb5 p0; replace p1 := kCb hb5 p1; replace p2 := kCb hb5 p2
      replace HS := hid (HS.out.below hb5); replace HO := hid (HO.out.below hb5); replace HQ := hid (HQ.out.below hb5); replace HR1 := hid (HR1.out.below hb5); replace HR2 := hid (HR2.out.below hb5)
      replace HB := hid (HB.out.trans (hb5.mono HB.out.size))
      clear sz u0 u1 u2 uf x0 x1 x2 x3 hb5
      obtain ⟨sz, u0, u1, u2, uf⟩ := HS.out
      generalize wr.alloc (.cells #[.int .i64 an, .bool ts, .slice tx tn tc, .slice ty tm td] 69) = w5 at *
      have CM : Hid (∀ W, Below w5.heap.size w5 W → Calls Tryz.prog 58 #[.agg #[.bool ts, .slice tx tn tc, .slice ty tm td], .agg #[.bool ss, .slice sx sn sc, .slice sy sm sd]] W fun e w' => ∃ s x n c f y m d g, e = .returned (.agg #[.bool s, .slice x n c, .slice y m d]) ∧ Below W.heap.size W w' ∧ Hid (Rn (2 * L + 1) w' s x n c f y m d g (q * r))) := fun W hW =>
        vtimes_c (HR1.out.below hW) (HR2.out.below hW) (by omega)
      have hKi : 4 + i * (2 * L + 2) ≤ 40000 := by
        have h1 : i * (2 * L + 2) ≤ 64 * (2 * L + 2) := Nat.mul_le_mul_right _ (by omega)
        omega
      have CP : Hid (∀ (W : World) (s1 : Bool) (x1 : Option Addr) (n1 c1 : Nat) (f1 : Nat → Int) (y1 : Option Addr) (m1 d1 : Nat) (g1 : Nat → Int), Below w5.heap.size w5 W → Rn (2 * L + 1) W s1 x1 n1 c1 f1 y1 m1 d1 g1 (q * r) → Calls Tryz.prog 57 #[.agg #[.bool s, .slice x n c, .slice y m d], .agg #[.bool s1, .slice x1 n1 c1, .slice y1 m1 d1]] W fun e w' => ∃ s x n c f y m d g, e = .returned (.agg #[.bool s, .slice x n c, .slice y m d]) ∧ Below W.heap.size W w' ∧ Hid (Rn (4 + (i + 1) * (2 * L + 2)) w' s x n c f y m d g (acc + q * r))) := fun W s1 x1 n1 c1 f1 y1 m1 d1 g1 hW hq =>
        (vplus_c (L := 40000) ((HQ.out.below hW).mono hKi) (hq.mono (by omega)) (by omega)).mono (fun e w' ⟨s, x, n, c, f, y, m, d, g, h1, h2, h3⟩ => ⟨s, x, n, c, f, y, m, d, g, h1, h2, h3.cut ((lo_add (HQ.out.lo HQ.out.ln HQ.out.ld) (hq.lo hq.ln hq.ld)).mono (by rw [Nat.add_mul]; omega))⟩)
      go_region_with (first
          | (go_at_call 58; with_reducible refine (CM.out _ (by repeat (with_reducible first | assumption | exact Below.refl _ _ | refine kBdn ?_ | refine Below.drew ?_ | refine kBa ?_ | refine kBb (by assumption) ?_))).mono ?_; rintro e w5' ⟨sp, xp, np, cp, fp, yp, mp, dp, gp, rfl, hb5, HP⟩; have S5 : Sx w5' w4.heap.size s x n c y m d := HS.out.below (by repeat (with_reducible first | assumption | exact Below.refl _ _ | refine kBdn ?_ | refine Below.drew ?_ | refine kBa ?_ | refine kBb (by assumption) ?_)); obtain ⟨_, v0, v1, v2, vf⟩ := id S5)
          | (go_at_call 57; with_reducible refine (CP.out _ sp xp np cp fp yp mp dp gp (by repeat (with_reducible first | assumption | exact Below.refl _ _ | refine kBdn ?_ | refine Below.drew ?_ | refine kBa ?_ | refine kBb (by assumption) ?_)) HP.out).mono ?_; rintro e w6 ⟨sq, xq, nq1, cq, fq, yq, mq, dq, gq, rfl, hb6, HP2⟩; have S6 : Sx w6 w4.heap.size s x n c y m d := (HS.out.below (by repeat (with_reducible first | assumption | exact Below.refl _ _ | refine kBdn ?_ | refine Below.drew ?_ | refine kBa ?_ | refine kBb (by assumption) ?_))); obtain ⟨_, t0, t1, t2, tf6⟩ := id S6))
      all_goals
        (have hb56 : Below w5.heap.size w5 w6 := (by repeat (with_reducible first | assumption | exact Below.refl _ _ | refine kBdn ?_ | refine Below.drew ?_ | refine kBa ?_ | refine kBb (by assumption) ?_))
         have R1 := hid (rd1_mk (HB.out.trans (hb56.mono HB.out.size)) S6 (HO.out.below hb56) HP2.out hne)
         clear S5 S6 v0 v1 v2 vf t0 t1 t2 tf6 u0 u1 u2 uf p0 p1 p2 a0 a1 a2 a3 CM CP hb5 hb6 hb56 HP HP2 HS HO HQ HR1 HR2 HB
         generalize ((w6.setCell ⟨w4.heap.size, 0, none⟩ (.bool sq)).setCell ⟨w4.heap.size, 1, none⟩ (.slice xq nq1 cq)).setCell ⟨w4.heap.size, 2, none⟩ (.slice yq mq dq) = w7 at *
         go_wp2
         go_roundw
         case rel => exact ⟨i + 1, acc + q * r, sq, xq, nq1, cq, fq, yq, mq, dq, gq, by omega, by go_num, R1.out.bel, R1.out.sx, R1.out.ob, R1.out.rn, HD.out⟩
         case measure => simp [intOf]; omega)
    · have e1 : i = k := by omega
      have HF : Hid (acc = dsum p v 0) := by
        show _ = _
        rw [← HE.out, e1, ← lv, List.drop_length]; rfl
      have i2 : ¬ (((i : Nat) : Int) < ((k : Nat) : Int)) := by omega
      have hKi : 4 + i * (2 * L + 2) ≤ 40000 := by
        have h1 : i * (2 * L + 2) ≤ 64 * (2 * L + 2) := Nat.mul_le_mul_right _ (by omega)
        omega
      obtain ⟨sz, u0, u1, u2, uf⟩ := HS.out
      obtain ⟨hz, z0, z1, z2, zf⟩ := HO.out
      clear e1 HE
      go_wp2
      exact bodyPost_ret (v := .tuple #[.agg #[.bool s, .slice x n c, .slice y m d], .int .i64 0]) (by simp [results, Tryz.results27, go_sem, z0, z1, z2]) rfl ⟨s, x, n, c, f, y, m, d, g, rfl, below_st HB.out (by omega), by rw [← HF.out]; exact HO.out.rn (HQ.out.mono hKi)⟩
end Go.Proofs.YthofcgpghbaccaaGreat
namespace Go.Proofs.YthofcgpghbaccaaGreat
open Go.RowKit

/-- The number at a column: nought where the list has none. -/
def atq (z : Int) : List (Int × Rat) → Rat
  | [] => 0
  | (a, q) :: v => if a = z then q else atq z v
/-- What At answers. -/
def OA (z : Int) (fv : Bool) (L : Nat) (w' : World) (s : Bool) (x : Option Addr) (n c : Nat) (y : Option Addr) (m d : Nat) (er : Int) (q : Rat) : Prop :=
  (z < 0 ∧ s = false ∧ x = none ∧ n = 0 ∧ c = 0 ∧ y = none ∧ m = 0 ∧ d = 0 ∧ er = 1) ∨ (0 ≤ z ∧ fv = false ∧ s = false ∧ x = none ∧ n = 0 ∧ c = 0 ∧ y = none ∧ m = 0 ∧ d = 0 ∧ er = 3) ∨ (0 ≤ z ∧ fv = true ∧ er = 0 ∧ ∃ f g, Rn L w' s x n c f y m d g q)

set_option maxRecDepth 100000 in
set_option maxHeartbeats 4000000 in
theorem vAt_c {w : World} {L : Nat} {av : Option Addr} {k cv : Nat} {col : Nat → Int} {T : Nat → Nm} {z : Int} {v : List (Int × Rat)}
    (hv : Tl w av k col T) (hk : k ≤ 1048576) (hL : L ≤ 200000) (hL4 : 4 ≤ L) (fv : tfB k col T = true → v.length = k ∧ Tf L w av v) (hOf : ∀ W, Calls Tryz.prog 52 #[.int .i64 0] W fun e w' => RatAns 4 W w' e 0) :
    Calls Tryz.prog 20 #[.slice av k cv, .int .i64 z] w fun e w' => ∃ s x n c y m d er, e = .returned (.tuple #[.agg #[.bool s, .slice x n c, .slice y m d], .int .i64 er]) ∧ Below w.heap.size w w' ∧ OA z (tfB k col T) L w' s x n c y m d er (atq z v) := by
  have HV := hid hv; have FV := hid fv; have CO := hid hOf
  have h2 := ob_new w 25
  have h3 := below_alloc (Below.refl w.heap.size w) (.cells #[.bool false, .slice none 0 0, .slice none 0 0] 25)
  clear hv fv hOf
  by_cases hz0 : z < 0
  · have HB3 := hid h3; have HO2 := hid h2
    clear h2 h3
    go_enter Tryz.func20, Tryz.ntmps20
    go_wp2
    obtain ⟨hz, z0, z1, z2, zf⟩ := HO2.out
    exact bodyPost_ret (v := .tuple #[.agg #[.bool false, .slice none 0 0, .slice none 0 0], .int .i64 1]) (by simp [results, Tryz.results20, go_sem, z0, z1, z2]) rfl ⟨false, none, 0, 0, none, 0, 0, 1, rfl, HB3.out, .inl ⟨hz0, rfl, rfl, rfl, rfl, rfl, rfl, rfl, rfl⟩⟩
  · go_enter Tryz.func20, Tryz.ntmps20
    go_wp2_with fail
    generalize w.alloc (.cells #[.bool false, .slice none 0 0, .slice none 0 0] 25) = w0 at *
    have hf2 := vForm_c (cap := cv) (HV.out.below h3) (by omega)
    cases hf : tfB k col T
    · rw [hf] at hf2
      refine hf2.mono ?_
      clear hf2
      rintro e w1 ⟨rfl, hb1⟩
      have HB1 := hid (h3.trans (hb1.mono h3.size)); have HF := hid hf
      obtain ⟨hz, z0, z1, z2, zf⟩ := h2.below hb1
      clear h2 h3 hb1 hf
      go_wp2
      exact bodyPost_ret (v := .tuple #[.agg #[.bool false, .slice none 0 0, .slice none 0 0], .int .i64 3]) (by simp [results, Tryz.results20, go_sem, z0, z1, z2]) rfl ⟨false, none, 0, 0, none, 0, 0, 3, rfl, below_st HB1.out (by omega), .inr (.inl ⟨by omega, HF.out, rfl, rfl, rfl, rfl, rfl, rfl, rfl, rfl⟩)⟩
    · rw [hf] at hf2
      refine hf2.mono ?_
      clear hf2
      rintro e w1 ⟨rfl, hb1⟩
      have OB1 := hid (h2.below hb1); have HB1 := hid (h3.trans (hb1.mono h3.size)); have HF := hid hf
      obtain ⟨lv, tv⟩ := FV.out hf
      have TV := hid tv
      clear h2 h3 hb1 hf tv FV
      go_wp2_with fail
      go_loopw [17] (fun t wr => ∃ (i : Nat), i ≤ k ∧ t = .int .i64 i ∧ Hid (Below w.heap.size w wr) ∧ Hid (Ob wr w.heap.size) ∧ Hid (atq z (v.drop i) = atq z v)) (fun t _ => k - (intOf t).toNat)
      case atStart => exact ⟨0, by omega, rfl, HB1, OB1, rfl⟩
      case round =>
        clear HB1 OB1
        obtain ⟨i, hi, rfl, HB, HO, HE⟩ := hrel
        by_cases hlt : i < k
        · obtain ⟨⟨a, q⟩, haq⟩ : ∃ t, v[i]? = some t := ⟨_, List.getElem?_eq_getElem (by omega)⟩
          obtain ⟨b, o, ⟨ts, tx, tn, tc, tf, ty, tm, td, tg⟩, hav, hc, hr⟩ := (TV.out.below HB.out) i a q haq
          have hav2 := hav
          subst hav2
          obtain ⟨x0, x1, x2, x3⟩ := hc
          replace x0 : wr.cell? ⟨b, o + i * 4, none⟩ = some (.int .i64 a) := x0
          replace x1 : wr.cell? ⟨b, o + i * 4 + 1, none⟩ = some (.bool ts) := x1
          replace x2 : wr.cell? ⟨b, o + i * 4 + 2, none⟩ = some (.slice tx tn tc) := x2
          replace x3 : wr.cell? ⟨b, o + i * 4 + 3, none⟩ = some (.slice ty tm td) := x3
          have HR1 : Hid (Rn L wr ts tx tn tc tf ty tm td tg q) := hr
          have i2 : ((i : Nat) : Int) < ((k : Nat) : Int) := by omega
          have HD : Hid ((if a = z then q else atq z (v.drop (i + 1))) = atq z v) := by
            show _ = _
            have e1 : v.drop i = (a, q) :: v.drop (i + 1) := by
              have hl : i < v.length := by omega
              have : v[i] = (a, q) := by rw [List.getElem?_eq_getElem hl] at haq; exact Option.some.inj haq
              rw [← this]; exact List.drop_eq_getElem_cons hl
            rw [← HE.out, e1]; rfl
          have hw := below_alloc (Below.refl wr.heap.size wr) (.cells #[.int .i64 a, .bool ts, .slice tx tn tc, .slice ty tm td] 69)
          have HB5 := hid (HB.out.trans (hw.mono HB.out.size)); have HO5 := hid (HO.out.below hw); have HR5 := hid (HR1.out.below hw)
          clear hr haq hav HE hw HR1
          by_cases haz : a = z
          · subst haz
            have HD2 : Hid (q = atq a v) := by have h := HD.out; rw [if_pos rfl] at h; exact h
            clear HD HB HO
            go_wp2_with fail
            refine (rCopy_n HR5.out hL).mono ?_
            rintro e w6 ⟨xp, cp, yp, dp, rfl, hb6, hq⟩
            have HB6 := hid (HB5.out.trans (hb6.mono HB5.out.size)); have HO6 := hid (HO5.out.below hb6); have HQ := hid hq
            obtain ⟨hz, z0, z1, z2, zf⟩ := HO5.out.below hb6
            clear hb6 hq HB5 HO5 HR5
            go_wp2
            exact bodyPost_ret (v := .tuple #[.agg #[.bool ts, .slice xp tn cp, .slice yp tm dp], .int .i64 0]) (by simp [results, Tryz.results20, go_sem, z0, z1, z2]) rfl ⟨ts, xp, tn, cp, yp, tm, dp, 0, rfl, below_st HB6.out (by omega), .inr (.inr ⟨by omega, HF.out, rfl, tf, tg, by rw [← HD2.out]; exact HO6.out.rn HQ.out⟩)⟩
          · have HD2 : Hid (atq z (v.drop (i + 1)) = atq z v) := by have h := HD.out; rw [if_neg haz] at h; exact h
            have hazb : (a == z) = false := by simp [haz]
            clear HD HB HO HR5
            go_wp2
            go_roundw
            case rel => exact ⟨i + 1, by omega, by go_num, HB5.out, HO5.out, HD2.out⟩
            case measure => simp [intOf]; omega
        · have e1 : i = k := by omega
          have HF0 : Hid ((0 : Rat) = atq z v) := by
            show _ = _
            rw [← HE.out, e1, ← lv, List.drop_length]; rfl
          have i2 : ¬ (((i : Nat) : Int) < ((k : Nat) : Int)) := by omega
          clear e1 HE
          go_wp2_with fail
          refine (CO.out _).mono ?_
          rintro e w6 ⟨s, x, n, c, f, y, m, d, g, rfl, hb6, hq⟩
          have HB6 := hid (HB.out.trans (hb6.mono HB.out.size)); have HO6 := hid (HO.out.below hb6); have HQ := hid hq
          obtain ⟨hz, z0, z1, z2, zf⟩ := HO.out.below hb6
          clear hb6 hq HB HO
          go_wp2
          exact bodyPost_ret (v := .tuple #[.agg #[.bool s, .slice x n c, .slice y m d], .int .i64 0]) (by simp [results, Tryz.results20, go_sem, z0, z1, z2]) rfl ⟨s, x, n, c, y, m, d, 0, rfl, below_st HB6.out (by omega), .inr (.inr ⟨by omega, HF.out, rfl, f, g, by rw [← HF0.out]; exact HO6.out.rn (HQ.out.mono hL4)⟩)⟩
end Go.Proofs.YthofcgpghbaccaaGreat
namespace Go.Proofs.YthofcgpghbaccaaGreat
open Go.RowKit

/-- Columns rise behind the column l, no nought. -/
def Vr : Int → List (Int × Rat) → Prop
  | _, [] => True
  | l, (a, q) :: v => l < a ∧ q ≠ 0 ∧ Vr a v
theorem Vr.mono {v : List (Int × Rat)} {l l' : Int} (h : Vr l v) (hl : l' ≤ l) : Vr l' v := by
  cases v with
  | nil => trivial
  | cons t v => obtain ⟨a, q⟩ := t; exact ⟨by have := h.1; omega, h.2⟩
theorem Vr.nz {l a : Int} {q : Rat} {v : List (Int × Rat)} (h : l < a) (hv : Vr a v) : Vr l (nz a q ++ v) := by
  unfold Go.Proofs.YthofcgpghbaccaaGreat.nz
  split
  · exact hv.mono (by omega)
  · exact ⟨h, by assumption, hv⟩
theorem Vf.tail {t : Int × Rat} {v : List (Int × Rat)} (h : Vf (t :: v)) : Vf v :=
  ⟨fun j a q hj => h.nz (j + 1) a q (by simpa using hj), fun i j a b p q hij hi hj => h.inc (i + 1) (j + 1) a b p q (by omega) (by simpa using hi) (by simpa using hj)⟩
theorem vf_vr {v : List (Int × Rat)} : ∀ {l : Int}, Vf v → (∀ a q, v[0]? = some (a, q) → l < a) → Vr l v := by
  induction v with
  | nil => intro l _ _; trivial
  | cons t v ih =>
    intro l h h0
    obtain ⟨a, q⟩ := t
    refine ⟨h0 a q rfl, (h.nz 0 a q rfl).1, ih h.tail ?_⟩
    intro b p hb
    exact h.inc 0 1 a b q p (by omega) rfl (by simpa using hb)
theorem Vf.vr {v : List (Int × Rat)} (h : Vf v) : Vr (-1) v := vf_vr h (fun a q h0 => by have := (h.nz 0 a q h0).2; omega)
theorem Vr.get {v : List (Int × Rat)} : ∀ {l : Int}, Vr l v → ∀ (j : Nat) (a : Int) (q : Rat), v[j]? = some (a, q) → q ≠ 0 ∧ l < a := by
  induction v with
  | nil => intro l _ j a q hj; simp at hj
  | cons t v ih =>
    intro l h j a q hj
    obtain ⟨b, p⟩ := t
    cases j with
    | zero => simp at hj; obtain ⟨rfl, rfl⟩ := hj; exact ⟨h.2.1, h.1⟩
    | succ j => have := ih h.2.2 j a q (by simpa using hj); exact ⟨this.1, by have := h.1; omega⟩
theorem Vr.vf {v : List (Int × Rat)} : ∀ {l : Int}, -1 ≤ l → Vr l v → Vf v := by
  induction v with
  | nil => intro l _ _; exact ⟨fun j a q hj => by simp at hj, fun i j a b p q _ hi _ => by simp at hi⟩
  | cons t v ih =>
    intro l hl h
    obtain ⟨b, p⟩ := t
    have h1 := h.1
    have k := ih (l := b) (by omega) h.2.2
    refine ⟨fun j a q hj => ?_, fun i j a c x y hij hi hj => ?_⟩
    · have := h.get j a q hj; exact ⟨this.1, by omega⟩
    · cases j with
      | zero => omega
      | succ j =>
        cases i with
        | zero => simp at hi; obtain ⟨rfl, rfl⟩ := hi; exact (Vr.get h.2.2 j c y (by simpa using hj)).2
        | succ i => exact k.inc i j a c x y (by omega) (by simpa using hi) (by simpa using hj)
theorem mg_vr (r : Rat) : ∀ (n : Nat) (v w : List (Int × Rat)) (l : Int), v.length + w.length ≤ n → Vr l v → Vr l w → Vr l (mg r v w) := by
  intro n
  induction n with
  | zero =>
    intro v w l hn _ _
    obtain rfl : v = [] := List.eq_nil_of_length_eq_zero (by omega)
    obtain rfl : w = [] := List.eq_nil_of_length_eq_zero (by omega)
    rw [mg_nn]; trivial
  | succ n ih =>
    intro v w l hn hv hw
    match v, w with
    | [], [] => rw [mg_nn]; trivial
    | (a, q) :: v, [] => rw [mg_cn]; exact Vr.nz hv.1 (ih v [] a (by simp at hn ⊢; omega) hv.2.2 trivial)
    | [], (b, p) :: w => rw [mg_nc]; exact Vr.nz hw.1 (ih [] w b (by simp at hn ⊢; omega) trivial hw.2.2)
    | (a, q) :: v, (b, p) :: w =>
      simp only [List.length_cons] at hn
      by_cases h1 : a < b
      · rw [mg_lt _ _ _ _ _ _ _ h1]; exact Vr.nz hv.1 (ih v ((b, p) :: w) a (by simp only [List.length_cons]; omega) hv.2.2 ⟨h1, hw.2⟩)
      · by_cases h2 : b < a
        · rw [mg_gt _ _ _ _ _ _ _ h2]; exact Vr.nz hw.1 (ih ((a, q) :: v) w b (by simp only [List.length_cons]; omega) ⟨h2, hv.2⟩ hw.2.2)
        · obtain rfl : a = b := by omega
          rw [mg_eq]; exact Vr.nz hv.1 (ih v w a (by omega) hv.2.2 hw.2.2)
theorem mg_vf {r : Rat} {v w : List (Int × Rat)} (hv : Vf v) (hw : Vf w) : Vf (mg r v w) := (mg_vr r _ v w (-1) (Nat.le_refl _) hv.vr hw.vr).vf (by omega)
theorem spr_vr : ∀ (p : List Rat) (i : Nat), Vr ((i : Int) - 1) (spr p i) := by
  intro p
  induction p with
  | nil => intro i; trivial
  | cons q p ih =>
    intro i
    have h := ih (i + 1)
    exact Vr.nz (by omega) (h.mono (by omega))
theorem spr_vf (p : List Rat) : Vf (spr p 0) := (spr_vr p 0).vf (by omega)
theorem dsum_acc (p : List Rat) : ∀ (v : List (Int × Rat)) (acc : Rat), dsum p v acc = acc + dsum p v 0 := by
  intro v
  induction v with
  | nil => intro acc; show acc = acc + 0; grind
  | cons t v ih =>
    intro acc
    obtain ⟨a, q⟩ := t
    show dsum p v (acc + q * p.getD a.toNat 0) = acc + dsum p v (0 + q * p.getD a.toNat 0)
    rw [ih, ih (0 + _)]; grind
theorem dsum_cons (p : List Rat) (a : Int) (q : Rat) (v : List (Int × Rat)) : dsum p ((a, q) :: v) 0 = q * p.getD a.toNat 0 + dsum p v 0 := by
  show dsum p v (0 + q * p.getD a.toNat 0) = _
  rw [dsum_acc]; grind
theorem dsum_nz (p : List Rat) (a : Int) (q : Rat) (v : List (Int × Rat)) : dsum p (nz a q ++ v) 0 = q * p.getD a.toNat 0 + dsum p v 0 := by
  unfold nz
  split
  · rename_i h; subst h; simp; grind
  · exact dsum_cons p a q v
theorem dsum_mg (p : List Rat) (r : Rat) : ∀ (n : Nat) (v w : List (Int × Rat)), v.length + w.length ≤ n → dsum p (mg r v w) 0 = dsum p v 0 + r * dsum p w 0 := by
  have e0 : dsum p [] 0 = 0 := rfl
  intro n
  induction n with
  | zero =>
    intro v w hn
    obtain rfl : v = [] := List.eq_nil_of_length_eq_zero (by omega)
    obtain rfl : w = [] := List.eq_nil_of_length_eq_zero (by omega)
    rw [mg_nn, e0]; grind
  | succ n ih =>
    intro v w hn
    match v, w with
    | [], [] => rw [mg_nn, e0]; grind
    | (a, q) :: v, [] => rw [mg_cn, dsum_nz, ih v [] (by simp at hn ⊢; omega), dsum_cons]; grind
    | [], (b, y) :: w => rw [mg_nc, dsum_nz, ih [] w (by simp at hn ⊢; omega), dsum_cons]; grind
    | (a, q) :: v, (b, y) :: w =>
      simp only [List.length_cons] at hn
      by_cases h1 : a < b
      · rw [mg_lt _ _ _ _ _ _ _ h1, dsum_nz, ih v ((b, y) :: w) (by simp only [List.length_cons]; omega), dsum_cons p a]; grind
      · by_cases h2 : b < a
        · rw [mg_gt _ _ _ _ _ _ _ h2, dsum_nz, ih ((a, q) :: v) w (by simp only [List.length_cons]; omega), dsum_cons p b]; grind
        · obtain rfl : a = b := by omega
          rw [mg_eq, dsum_nz, ih v w (by omega), dsum_cons, dsum_cons]; grind
/-- The n numbers that a list of terms stands for. -/
def dense (n : Nat) (v : List (Int × Rat)) : List Rat := (List.range n).map (fun (j : Nat) => atq (j : Int) v)
theorem dense_len (n : Nat) (v : List (Int × Rat)) : (dense n v).length = n := by simp [dense]
theorem atq_small {v : List (Int × Rat)} : ∀ {l z : Int}, Vr l v → z ≤ l → atq z v = 0 := by
  induction v with
  | nil => intro l z _ _; rfl
  | cons t v ih =>
    intro l z h hz
    obtain ⟨a, q⟩ := t
    have h1 := h.1
    show (if a = z then q else atq z v) = 0
    rw [if_neg (by omega)]; exact ih h.2.2 (by omega)
theorem atq_spr : ∀ (p : List Rat) (i j : Nat), i ≤ j → atq (j : Int) (spr p i) = p.getD (j - i) 0 := by
  intro p
  induction p with
  | nil => intro i j _; simp [spr, atq]
  | cons q p ih =>
    intro i j hij
    show atq (j : Int) (nz i q ++ spr p (i + 1)) = _
    by_cases e : j = i
    · subst e
      unfold nz
      split
      · rename_i h; subst h
        simp only [List.nil_append, Nat.sub_self]
        rw [atq_small (spr_vr p (j + 1)) (by omega)]; rfl
      · show (if (j : Int) = j then q else _) = _
        rw [if_pos rfl, Nat.sub_self]; rfl
    · have e2 : j - i = (j - (i + 1)) + 1 := by omega
      rw [e2]
      show _ = p.getD (j - (i + 1)) 0
      rw [← ih (i + 1) j (by omega)]
      unfold nz
      split
      · rfl
      · show (if (i : Int) = j then q else _) = _
        rw [if_neg (by omega)]; rfl
theorem dense_spr (p : List Rat) : dense p.length (spr p 0) = p := by
  apply List.ext_getElem?
  intro j
  by_cases hj : j < p.length
  · simp [dense, hj, atq_spr]
  · rw [List.getElem?_eq_none (by rw [dense_len]; omega), List.getElem?_eq_none (by omega)]
theorem spr_dense' : ∀ (k i : Nat) (v : List (Int × Rat)), Vr ((i : Int) - 1) v → (∀ (j : Nat) (a : Int) (q : Rat), v[j]? = some (a, q) → a < i + k) → spr ((List.range' i k).map (fun (j : Nat) => atq (j : Int) v)) i = v := by
  intro k
  induction k with
  | zero =>
    intro i v hv hb
    cases v with
    | nil => rfl
    | cons t v => obtain ⟨a, q⟩ := t; have := hb 0 a q rfl; have := hv.1; omega
  | succ k ih =>
    intro i v hv hb
    rw [List.range'_succ, List.map_cons]
    show nz i (atq (i : Int) v) ++ spr ((List.range' (i + 1) k).map (fun (j : Nat) => atq (j : Int) v)) (i + 1) = v
    by_cases h0 : ∃ q v', v = ((i : Int), q) :: v'
    · obtain ⟨q, v', rfl⟩ := h0
      have e1 : atq (i : Int) (((i : Int), q) :: v') = q := by show (if (i : Int) = i then q else _) = q; rw [if_pos rfl]
      have e2 : (List.range' (i + 1) k).map (fun (j : Nat) => atq (j : Int) (((i : Int), q) :: v')) = (List.range' (i + 1) k).map (fun (j : Nat) => atq (j : Int) v') := by
        apply List.map_congr_left
        intro j hj
        have hj2 : i + 1 ≤ j := by have := List.mem_range'_1.1 hj; omega
        show (if (i : Int) = j then q else _) = _
        rw [if_neg (by omega)]
      rw [e1, e2, ih (i + 1) v' (hv.2.2.mono (by omega)) (fun j a q h => by have := hb (j + 1) a q (by simpa using h); omega)]
      unfold nz
      rw [if_neg hv.2.1]; rfl
    · have hv2 : Vr ((i + 1 : Nat) - 1 : Int) v := by
        cases v with
        | nil => trivial
        | cons t v =>
          obtain ⟨a, q⟩ := t
          have h1 := hv.1
          refine ⟨?_, hv.2⟩
          by_cases ha : a = i
          · exact absurd ⟨q, v, by rw [ha]⟩ h0
          · omega
      rw [atq_small hv2 (by omega), ih (i + 1) v hv2 (fun j a q h => by have := hb j a q h; omega)]
      unfold nz
      rw [if_pos rfl]; rfl
theorem spr_dense {n : Nat} {v : List (Int × Rat)} (hv : Vf v) (hb : ∀ (j : Nat) (a : Int) (q : Rat), v[j]? = some (a, q) → a < n) : spr (dense n v) 0 = v := by
  unfold dense
  rw [List.range_eq_range']
  exact spr_dense' n 0 v (hv.vr.mono (by omega)) (fun j a q h => by have := hb j a q h; omega)
theorem atq_snoc {z a : Int} {q : Rat} : ∀ {u : List (Int × Rat)}, (∀ (j : Nat) (b : Int) (p : Rat), u[j]? = some (b, p) → b ≠ a) → atq z (u ++ [(a, q)]) = if z = a then q else atq z u := by
  intro u
  induction u with
  | nil =>
    intro _
    show (if a = z then q else 0) = if z = a then q else 0
    by_cases h : a = z
    · rw [if_pos h, if_pos h.symm]
    · rw [if_neg h, if_neg (fun e => h e.symm)]
  | cons t u ih =>
    intro hu
    obtain ⟨b, p⟩ := t
    have hb := hu 0 b p rfl
    show (if b = z then p else atq z (u ++ [(a, q)])) = if z = a then q else if b = z then p else atq z u
    rw [ih (fun j c x h => hu (j + 1) c x (by simpa using h))]
    by_cases h : b = z
    · rw [if_pos h, if_neg (fun e => hb (h.trans e)), if_pos h]
    · rw [if_neg h, if_neg h]
end Go.Proofs.YthofcgpghbaccaaGreat
namespace Go.Proofs.YthofcgpghbaccaaGreat
open Go.RowKit

theorem Tryz.infoRat : (Tryz.prog.info? 25).map (fun i => (i.zero, i.size, i.bytes)) = some (some (.agg #[.bool false, .slice none 0 0, .slice none 0 0]), 3, 56) := by kernel_rfl
theorem Rn.nm {L w q} {t : Nm} (h : Rn L w t.s t.x t.n t.c t.f t.y t.m t.d t.g q) (hL : L ≤ 65536) : NmR w t ∧ nfB t = true :=
  ⟨⟨h.rw, Nat.le_trans h.ln hL, Nat.le_trans h.ld hL⟩, h.rf⟩
theorem tfr_of {col : Nat → Int} {T : Nat → Nm} : ∀ {r i : Nat} {last : Int}, (∀ j, i ≤ j → j < i + r → nfB (T j) = true ∧ 0 < (T j).n) → (∀ j, i ≤ j → j + 1 < i + r → col j < col (j + 1)) → (0 < r → last < col i) → tfr col T r i last = true := by
  intro r
  induction r with
  | zero => intro i last _ _ _; rfl
  | succ r ih =>
    intro i last h1 h2 h3
    simp only [tfr, Bool.and_eq_true, decide_eq_true_eq]
    exact ⟨h3 (by omega), (h1 i (by omega) (by omega)).1, (h1 i (by omega) (by omega)).2, ih (fun j a b => h1 j (by omega) (by omega)) (fun j a b => h2 j (by omega) (by omega)) (fun h => h2 i (by omega) (by omega))⟩
theorem afr_of {X : Nat → Nm} : ∀ {r i : Nat}, (∀ j, i ≤ j → j < i + r → nfB (X j) = true) → afr X r i = true := by
  intro r
  induction r with
  | zero => intro i _; rfl
  | succ r ih =>
    intro i h
    simp only [afr, Bool.and_eq_true]
    exact ⟨h i (by omega) (by omega), ih (fun j a b => h j (by omega) (by omega))⟩
/-- A list of values in form is one that can be read, and is in form. -/
theorem tf_tl {L w ao} {v : List (Int × Rat)} (h : Tf L w ao v) (hv : Vf v) (hL : L ≤ 65536) : ∃ col T, Tl w ao v.length col T ∧ tfB v.length col T = true ∧ ∀ j a q, v[j]? = some (a, q) → col j = a := by
  have ht : ∀ j, ∃ t : Nm, ∀ a q, v[j]? = some (a, q) → ∃ b o, ao = some ⟨b, o, none⟩ ∧ C4 w b (o + j * 4) (.int .i64 a) (.bool t.s) (.slice t.x t.n t.c) (.slice t.y t.m t.d) ∧ Rn L w t.s t.x t.n t.c t.f t.y t.m t.d t.g q := fun j => by
    by_cases hj : j < v.length
    · obtain ⟨b, o, t, h1, h2, h3⟩ := h j (v[j]).1 (v[j]).2 (List.getElem?_eq_getElem hj)
      refine ⟨t, fun a q e => ?_⟩
      rw [List.getElem?_eq_getElem hj] at e
      have e2 := Option.some.inj e
      rw [e2] at h2 h3
      exact ⟨b, o, h1, h2, h3⟩
    · exact ⟨⟨false, none, 0, 0, fun _ => 0, none, 0, 0, fun _ => 0⟩, fun a q e => by rw [List.getElem?_eq_none (by omega)] at e; cases e⟩
  have hT := fun j => Classical.choose_spec (ht j)
  generalize hTe : (fun j => Classical.choose (ht j)) = T at *
  have hT2 : ∀ j a q, v[j]? = some (a, q) → ∃ b o, ao = some ⟨b, o, none⟩ ∧ C4 w b (o + j * 4) (.int .i64 a) (.bool (T j).s) (.slice (T j).x (T j).n (T j).c) (.slice (T j).y (T j).m (T j).d) ∧ Rn L w (T j).s (T j).x (T j).n (T j).c (T j).f (T j).y (T j).m (T j).d (T j).g q := fun j a q e => by rw [← hTe]; exact hT j a q e
  have hg : ∀ j, j < v.length → v[j]? = some ((v.getD j (0, 0)).1, (v.getD j (0, 0)).2) := fun j hj => by rw [List.getD_eq_getElem?_getD, List.getElem?_eq_getElem hj]; rfl
  refine ⟨fun j => (v.getD j (0, 0)).1, T, fun j hj => ?_, tfr_of (fun j _ hj => ?_) (fun j _ hj => ?_) (fun h0 => ?_), fun j a q e => ?_⟩
  · obtain ⟨b, o, h1, h2, h3⟩ := hT2 j _ _ (hg j hj)
    exact ⟨b, o, h1, h2, (h3.nm hL).1⟩
  · obtain ⟨b, o, h1, h2, h3⟩ := hT2 j _ _ (hg j (by omega))
    refine ⟨(h3.nm hL).2, ?_⟩
    have h4 := (hv.nz j _ _ (hg j (by omega))).1
    exact Nat.pos_of_ne_zero (fun e => h4 (h3.zero_iff.1 e))
  · exact hv.inc j (j + 1) _ _ _ _ (by omega) (hg j (by omega)) (hg (j + 1) (by omega))
  · have := (hv.nz 0 _ _ (hg 0 (by omega))).2; omega
  · show (v.getD j (0, 0)).1 = a
    rw [List.getD_eq_getElem?_getD, e]; rfl
/-- The same of numbers. -/
theorem rf_rl {L w ao} {p : List Rat} (h : Rf L w ao p) (hL : L ≤ 65536) : ∃ X, Rl w ao p.length X ∧ afB p.length X = true := by
  have ht : ∀ j, ∃ t : Nm, ∀ q, p[j]? = some q → ∃ b o, ao = some ⟨b, o, none⟩ ∧ C3 w b (o + j * 3) (.bool t.s) (.slice t.x t.n t.c) (.slice t.y t.m t.d) ∧ Rn L w t.s t.x t.n t.c t.f t.y t.m t.d t.g q := fun j => by
    by_cases hj : j < p.length
    · obtain ⟨b, o, t, h1, h2, h3⟩ := h j (p[j]) (List.getElem?_eq_getElem hj)
      refine ⟨t, fun q e => ?_⟩
      rw [List.getElem?_eq_getElem hj] at e
      have e2 := Option.some.inj e
      rw [e2] at h3
      exact ⟨b, o, h1, h2, h3⟩
    · exact ⟨⟨false, none, 0, 0, fun _ => 0, none, 0, 0, fun _ => 0⟩, fun q e => by rw [List.getElem?_eq_none (by omega)] at e; cases e⟩
  have hT := fun j => Classical.choose_spec (ht j)
  generalize hTe : (fun j => Classical.choose (ht j)) = T at *
  have hT2 : ∀ j q, p[j]? = some q → ∃ b o, ao = some ⟨b, o, none⟩ ∧ C3 w b (o + j * 3) (.bool (T j).s) (.slice (T j).x (T j).n (T j).c) (.slice (T j).y (T j).m (T j).d) ∧ Rn L w (T j).s (T j).x (T j).n (T j).c (T j).f (T j).y (T j).m (T j).d (T j).g q := fun j q e => by rw [← hTe]; exact hT j q e
  have hg : ∀ j, j < p.length → p[j]? = some (p.getD j 0) := fun j hj => by rw [List.getD_eq_getElem?_getD, List.getElem?_eq_getElem hj]; rfl
  refine ⟨T, fun j hj => ?_, afr_of (fun j _ hj => ?_)⟩
  · obtain ⟨b, o, h1, h2, h3⟩ := hT2 j _ (hg j hj)
    exact ⟨b, o, h1, h2, (h3.nm hL).1⟩
  · obtain ⟨b, o, h1, h2, h3⟩ := hT2 j _ (hg j (by omega))
    exact (h3.nm hL).2
/-- All columns lie below z where the last one does. -/
theorem bel_of {L w ao k col T} {v : List (Int × Rat)} {z : Int} (hl : Tl w ao k col T) (ht : Tf L w ao v) (hk : v.length = k) (hv : Vf v) (hb : (decide (k = 0) || decide (col (k - 1) < z)) = true) : ∀ (j : Nat) (a : Int) (q : Rat), v[j]? = some (a, q) → 0 ≤ a ∧ a < z := by
  intro j a q hj
  have hlt : j < v.length := (List.getElem?_eq_some_iff.1 hj).1
  refine ⟨(hv.nz j a q hj).2, ?_⟩
  obtain ⟨⟨c, p⟩, hc⟩ : ∃ t, v[k - 1]? = some t := ⟨_, List.getElem?_eq_getElem (by omega)⟩
  obtain ⟨b, o, _, hav, h1, _⟩ := ht _ c p hc
  obtain ⟨b2, o2, hav2, h2, _⟩ := hl (k - 1) (by omega)
  have e1 := h1.x0; have e2 := h2.x0
  rw [hav] at hav2
  obtain ⟨rfl, rfl⟩ : b = b2 ∧ o = o2 := by simpa using hav2
  rw [e1] at e2
  have e3 : c = col (k - 1) := by simpa using e2
  have h3 : c < z := by
    rcases Bool.or_eq_true _ _ ▸ hb with h | h
    · have : k = 0 := by simpa using h
      omega
    · rw [e3]; simpa using h
  by_cases e : j = k - 1
  · subst e
    rw [hj] at hc
    have : a = c := by simpa using congrArg Prod.fst (Option.some.inj hc)
    omega
  · have := hv.inc j (k - 1) a c q p (by omega) hj hc
    omega

/-- A row of n numbers in block B that may be written: no cell is a limb. -/
structure Rk (w : World) (B n : Nat) : Prop where
  z : B < w.heap.size
  has : ∀ o, o < n * 3 → ∃ u, w.cell? ⟨B, o, none⟩ = some u ∧ ∀ i, u ≠ Value.int .u64 i
  fz : ∀ o, w.frozen? ⟨B, o, none⟩ = false
theorem Rk.below {w w' B n} (h : Rk w B n) (hb : Below w.heap.size w w') : Rk w' B n := by
  obtain ⟨_, h2⟩ := bcell hb
  exact ⟨Nat.lt_of_lt_of_le h.z hb.size, fun o ho => by obtain ⟨u, h3, h4⟩ := h.has o ho; exact ⟨u, kCb hb h3, h4⟩, fun o => (h2 _ _ h.z).trans (h.fz o)⟩
theorem Rk.drew {w B n} (h : Rk w B n) : Rk w.drew B n := ⟨h.z, h.has, h.fz⟩
theorem Rk.set {w B n o u} (h : Rk w B n) (hu : ∀ i, u ≠ Value.int .u64 i) : Rk (w.setCell ⟨B, o, none⟩ u) B n :=
  ⟨by simpa [World.setCell] using h.z, fun o' ho' => by
    obtain ⟨u', h1, h2⟩ := h.has o' ho'
    by_cases e : o = o'
    · subst e; exact ⟨u, kCe (kI0 h1), hu⟩
    · exact ⟨u', kCo e h1, h2⟩, fun o' => kFs (h.fz o')⟩
theorem Rk.rd {w B n o u a k f} (h : Rk w B n) (ho : o < n * 3) (hx : Rd .u64 w a k f) : Rd .u64 (w.setCell ⟨B, o, none⟩ u) a k f := by
  obtain ⟨u', h1, h2⟩ := h.has o ho
  exact rd_setne h1 h2 hx
theorem Rk.rn {w B n o u L s x k c f y m d g q} (h : Rk w B n) (ho : o < n * 3) (hx : Rn L w s x k c f y m d g q) : Rn L (w.setCell ⟨B, o, none⟩ u) s x k c f y m d g q :=
  ⟨⟨h.rd ho hx.num.rd, hx.num.lm, hx.num.wf, hx.num.cap, hx.num.nil, hx.num.val⟩, ⟨h.rd ho hx.den.rd, hx.den.lm, hx.den.wf, hx.den.cap, hx.den.nil, hx.den.val⟩, hx.ln, hx.ld⟩
/-- The first i numbers of the row. -/
def Rq (L : Nat) (w : World) (B i : Nat) (Q : Nat → Rat) : Prop := ∀ j, j < i → ∃ t : Nm, C3 w B (j * 3) (.bool t.s) (.slice t.x t.n t.c) (.slice t.y t.m t.d) ∧ Rn L w t.s t.x t.n t.c t.f t.y t.m t.d t.g (Q j)
theorem Rq.below {L w w' B i Q} (h : Rq L w B i Q) (hb : Below w.heap.size w w') : Rq L w' B i Q := fun j hj => by
  obtain ⟨t, h1, h2⟩ := h j hj
  exact ⟨t, h1.below hb, h2.below hb⟩
/-- A number is written into the row. -/
theorem rq_st {L w B n i i' j Q Q' s x k c f y m d g} (h : Rk w B n) (hq : Rq L w B i Q) (hj : j < n) (hr : Rn L w s x k c f y m d g (Q' j)) (hs : ∀ j', j' < i' → j' ≠ j → j' < i ∧ Q' j' = Q j') :
    Rk (((w.setCell ⟨B, j * 3, none⟩ (.bool s)).setCell ⟨B, j * 3 + 1, none⟩ (.slice x k c)).setCell ⟨B, j * 3 + 2, none⟩ (.slice y m d)) B n ∧ Rq L (((w.setCell ⟨B, j * 3, none⟩ (.bool s)).setCell ⟨B, j * 3 + 1, none⟩ (.slice x k c)).setCell ⟨B, j * 3 + 2, none⟩ (.slice y m d)) B i' Q' := by
  have k1 := h.set (o := j * 3) (u := .bool s) (fun i h => by cases h)
  have k2 := k1.set (o := j * 3 + 1) (u := .slice x k c) (fun i h => by cases h)
  have k3 := k2.set (o := j * 3 + 2) (u := .slice y m d) (fun i h => by cases h)
  refine ⟨k3, fun j' hj' => ?_⟩
  obtain ⟨_, a0, _⟩ := h.has (j * 3) (by omega)
  obtain ⟨_, a1, _⟩ := k1.has (j * 3 + 1) (by omega)
  obtain ⟨_, a2, _⟩ := k2.has (j * 3 + 2) (by omega)
  by_cases e : j' = j
  · subst e
    exact ⟨⟨s, x, k, c, f, y, m, d, g⟩, ⟨kCo (by omega) (kCo (by omega) (kCe (kI0 a0))), kCo (by omega) (kCe (kI0 a1)), kCe (kI0 a2)⟩, k2.rn (by omega) (k1.rn (by omega) (h.rn (by omega) hr))⟩
  · obtain ⟨h1, h2⟩ := hs j' hj' e
    obtain ⟨t, ⟨c0, c1, c2⟩, ht⟩ := hq j' h1
    rw [h2]
    exact ⟨t, ⟨kCo (by omega) (kCo (by omega) (kCo (by omega) c0)), kCo (by omega) (kCo (by omega) (kCo (by omega) c1)), kCo (by omega) (kCo (by omega) (kCo (by omega) c2))⟩, k2.rn (by omega) (k1.rn (by omega) (h.rn (by omega) ht))⟩
theorem below_at {w0 w : World} {B o : Nat} {u0 u1 u2 : Value} (hw : Below w0.heap.size w0 w) (hB : w0.heap.size ≤ B) :
    Below w0.heap.size w0 (((w.setCell ⟨B, o, none⟩ u0).setCell ⟨B, o + 1, none⟩ u1).setCell ⟨B, o + 2, none⟩ u2) :=
  below_turned hw hw.size ((((Turned.refl w0.heap.size (B + 1) w).set (x := ⟨B, o, none⟩) hB (by simp) _).set (x := ⟨B, o + 1, none⟩) hB (by simp) _).set (x := ⟨B, o + 2, none⟩) hB (by simp) _) (Nat.le_refl _)
theorem Rq.rf {L w B n Q} {p : List Rat} (h : Rq L w B n Q) (hl : p.length = n) (hp : ∀ j, j < n → p[j]? = some (Q j)) : Rf L w (some ⟨B, 0, none⟩) p := fun j q hj => by
  have hlt : j < n := by have := (List.getElem?_eq_some_iff.1 hj).1; omega
  obtain ⟨t, h1, h2⟩ := h j hlt
  rw [hp j hlt] at hj
  obtain rfl := Option.some.inj hj
  refine ⟨B, 0, t, rfl, ?_, h2⟩
  rw [Nat.zero_add]; exact h1
/-- 'make([]api.Rat, n)'. -/
theorem wpList_make_rk {P : Program} (w : World) {ops : Array Oper} {rest : List Oper} {o : Oper} {a : Act} {Q : Exit → Act → World → Prop}
    (hg : o.guard = none) (l c : Operand) (t : TypeId) (hop : o.op = Op.makeSlice t l c)
    (e : TypeId) (bytes : Nat) (h1 : P.underlying t = some (.slice e)) (h2 : (P.info? e).map (fun i => (i.zero, i.size, i.bytes)) = some (some (.agg #[.bool false, .slice none 0 0, .slice none 0 0]), 3, bytes))
    (kl kc : IntKind) (L C : Int) (n : Nat) (hl : a.eval l = .int kl L) (hc : a.eval c = .int kc C) (hL : L = (n : Int)) (hC : C = (n : Int)) (b2 : bytes * n ≤ 281474976710656) (b3 : n ≤ maxLen)
    (hK : ∀ w', Rk w' w.heap.size n → Below w.heap.size w w' → wpList P ops Q rest (a.put o.dst (.slice (some ⟨w.heap.size, 0, none⟩) n n)) w') :
    wpList P ops Q (o :: rest) a w := by
  obtain ⟨i, hi, hz0, hz1, hz2⟩ := info_parts h2
  refine wpList_make_full w hg l c t hop w.heap.size e i _ 3 h1 hi hz0 hz1 kl kc L C n hl hc hL hC (by rw [hz2]; exact b2) b3 (Nat.le_refl _) ?_
  intro w' hown hgr
  refine hK w' ?_ ((Below.refl _ _).grown hgr (Nat.le_refl _) (fun k h => by cases h))
  obtain ⟨h1, h2⟩ := hown
  rcases h2 with ⟨hv, _⟩ | ⟨g, cap, cur, hv, hb, hg, hn, hm2, hs, ht⟩
  · cases hv
  · cases hv
    refine ⟨(Array.getElem?_eq_some_iff.1 hg).1, fun o ho => ?_, fun o => by simp [World.frozen?, hg]⟩
    have hlt : o < cur.size := by omega
    have h3 : cur.toList[o]? = (madeCells (Value.agg #[.bool false, .slice none 0 0, .slice none 0 0]).cells (n * 3)).toList[o]? := by rw [← ht, List.getElem?_take, if_pos (by omega)]
    have h4 : (madeCells (Value.agg #[.bool false, .slice none 0 0, .slice none 0 0]).cells (n * 3))[o]? = some ((Value.agg #[.bool false, .slice none 0 0, .slice none 0 0]).cells[o % 3]!) := by
      have hsz : (Value.agg #[.bool false, .slice none 0 0, .slice none 0 0]).cells.size = 3 := by rfl
      simp [madeCells, hsz, ho]
    refine ⟨_, (by simp only [World.cell?, hg]; simpa using h3.trans (by simpa using h4)), ?_⟩
    intro i
    rcases (show o % 3 = 0 ∨ o % 3 = 1 ∨ o % 3 = 2 by omega) with h | h | h <;> rw [h] <;> simp [Value.cells]
end Go.Proofs.YthofcgpghbaccaaGreat
namespace Go.Proofs.YthofcgpghbaccaaGreat
open Go.RowKit

/-- What Dense answers. -/
def OD (z : Int) (fv fb : Bool) (L : Nat) (w' : World) (ao : Option Addr) (n cap : Nat) (er : Int) (v : List (Int × Rat)) : Prop :=
  ((z < 0 ∨ 64 < z) ∧ er = 1 ∧ ao = none ∧ n = 0 ∧ cap = 0) ∨ (0 ≤ z ∧ z ≤ 64 ∧ fv = false ∧ er = 3 ∧ ao = none ∧ n = 0 ∧ cap = 0) ∨ (0 ≤ z ∧ z ≤ 64 ∧ fv = true ∧ fb = false ∧ er = 7 ∧ ao = none ∧ n = 0 ∧ cap = 0) ∨ (0 ≤ z ∧ z ≤ 64 ∧ fv = true ∧ fb = true ∧ er = 0 ∧ (n : Int) = z ∧ cap = n ∧ ao ≠ none ∧ Rf L w' ao (dense n v))

theorem atq_take {v : List (Int × Rat)} {i : Nat} {a : Int} {q : Rat} (hv : Vf v) (h : v[i]? = some (a, q)) : ∀ z, atq z (v.take (i + 1)) = if z = a then q else atq z (v.take i) := by
  intro z
  rw [List.take_add_one, h]
  refine atq_snoc (fun j b p hj => ?_)
  have hji : j < i := by
    have := (List.getElem?_eq_some_iff.1 hj).1
    rw [List.length_take] at this; omega
  rw [List.getElem?_take, if_pos hji] at hj
  have := hv.inc j i b a p q hji hj h
  omega

set_option maxRecDepth 100000 in
set_option maxHeartbeats 4000000 in
theorem vDense_c {w : World} {L : Nat} {av : Option Addr} {k cv : Nat} {col : Nat → Int} {T : Nat → Nm} {z : Int} {v : List (Int × Rat)}
    (hv : Tl w av k col T) (hk : k ≤ 1048576) (hL : L ≤ 200000) (hL4 : 4 ≤ L) (fv : tfB k col T = true → v.length = k ∧ Tf L w av v ∧ Vf v) (hOf : ∀ W, Calls Tryz.prog 52 #[.int .i64 0] W fun e w' => RatAns 4 W w' e 0) :
    Calls Tryz.prog 23 #[.slice av k cv, .int .i64 z] w fun e w' => ∃ ao n cap er, e = .returned (.tuple #[.slice ao n cap, .int .i64 er]) ∧ Below w.heap.size w w' ∧ OD z (tfB k col T) (decide (k = 0) || decide (col (k - 1) < z)) L w' ao n cap er v := by
  have HV := hid hv; have FV := hid fv; have CO := hid hOf
  clear hv fv hOf
  by_cases hz0 : z < 0
  · go_enter Tryz.func23, Tryz.ntmps23
    go_wp2
    go_ret2
    exact ⟨none, 0, 0, 1, rfl, Below.refl _ _, .inl ⟨.inl hz0, rfl, rfl, rfl, rfl⟩⟩
  by_cases h64 : 64 < z
  · go_enter Tryz.func23, Tryz.ntmps23
    go_wp2
    go_ret2
    exact ⟨none, 0, 0, 1, rfl, Below.refl _ _, .inl ⟨.inr h64, rfl, rfl, rfl, rfl⟩⟩
  obtain ⟨n, rfl⟩ := Int.eq_ofNat_of_zero_le (show 0 ≤ z by omega)
  go_enter Tryz.func23, Tryz.ntmps23
  go_wp2_with fail
  refine (vForm_c (cap := cv) HV.out (by omega)).mono ?_
  rintro e w1 ⟨rfl, hb1⟩
  have HB1 := hid hb1
  clear hb1
  cases hf : tfB k col T
  · have HF := hid hf
    clear hf
    go_wp2
    go_ret2
    exact ⟨none, 0, 0, 3, rfl, HB1.out, .inr (.inl ⟨by omega, by omega, HF.out, rfl, rfl, rfl, rfl⟩)⟩
  obtain ⟨lv, tv, vf0⟩ := FV.out hf
  have TV := hid tv; have VF := hid vf0; have HF := hid hf
  clear FV tv vf0 hf
  go_wp2_with fail
  refine (allBelow_c (cap := cv) (z := (n : Int)) (HV.out.below HB1.out) (by omega)).mono ?_
  rintro e w2 ⟨rfl, rfl⟩
  cases hab : (decide (k = 0) || decide (col (k - 1) < (n : Int)))
  · have HAB := hid hab
    clear hab
    go_wp2
    go_ret2
    exact ⟨none, 0, 0, 7, rfl, HB1.out, .inr (.inr (.inl ⟨by omega, by omega, HF.out, HAB.out, rfl, rfl, rfl, rfl⟩))⟩
  have HBe := hid (bel_of HV.out TV.out lv VF.out hab); have HAB := hid hab
  clear hab
  go_wp2_with (at_make; refine wpList_make_rk _ rfl (.tmp 26) (.tmp 26) 45 rfl 25 56 Tryz.underlying45 Tryz.infoRat .i64 .i64 n n n rfl rfl rfl rfl (by omega) (by unfold maxLen; omega) ?_; intro w3 hk3 hb3)
  have HB3 := hid (HB1.out.trans (hb3.mono HB1.out.size)); have HK3 := hid hk3
  have hsz : w.heap.size ≤ w2.heap.size := HB1.out.size
  clear hk3 hb3 HB1
  go_loopw [30] (fun t wr => ∃ (i : Nat), i ≤ n ∧ t = .int .i64 i ∧ Hid (Below w.heap.size w wr) ∧ Hid (Rk wr w2.heap.size n) ∧ Hid (Rq L wr w2.heap.size i (fun _ => 0))) (fun t _ => n - (intOf t).toNat)
  case atStart => exact ⟨0, by omega, rfl, HB3, HK3, fun j hj => by omega⟩
  case round =>
    clear HB3 HK3
    obtain ⟨i, hi, rfl, HB, HK, HQ⟩ := hrel
    by_cases hlt : i < n
    · have i2 : ((i : Nat) : Int) < ((n : Nat) : Int) := by omega
      go_wp2_with fail
      refine (CO.out _).mono ?_
      rintro e w4 ⟨s0, x0, n0, c0, f0, y0, m0, d0, g0, rfl, hb4, hq4⟩
      have HB4 := hid (HB.out.trans (hb4.mono HB.out.size)); have hk4 := HK.out.below hb4; have hq5 := HQ.out.below hb4
      obtain ⟨R1, R2⟩ := rq_st (i' := i + 1) (Q' := fun _ => 0) hk4 hq5 hlt (hq4.mono hL4) (fun j' h1 h2 => ⟨by omega, rfl⟩)
      obtain ⟨_, a0, _⟩ := hk4.has (i * 3) (by omega)
      obtain ⟨_, a1, _⟩ := hk4.has (i * 3 + 1) (by omega)
      obtain ⟨_, a2, _⟩ := hk4.has (i * 3 + 2) (by omega)
      have hfz := hk4.fz
      have HR1 := hid R1; have HR2 := hid R2
      clear R1 R2 hb4 hq4 hk4 hq5 HB HK HQ
      go_wp2
      go_roundw
      case rel => exact ⟨i + 1, by omega, by go_num, below_at HB4.out (by omega), HR1.out, HR2.out⟩
      case measure => simp [intOf]; omega
    · have i2 : ¬ (((i : Nat) : Int) < ((n : Nat) : Int)) := by omega
      have e1 : i = n := by omega
      have HQ0 : Hid (Rq L wr w2.heap.size n (fun (j : Nat) => atq (j : Int) (v.take 0))) := by
        have h := HQ.out
        rw [e1] at h
        exact h
      clear HQ e1
      go_wp2_with fail
      go_loopw [40] (fun t wq => ∃ (i : Nat), i ≤ k ∧ t = .int .i64 i ∧ Hid (Below w.heap.size w wq) ∧ Hid (Rk wq w2.heap.size n) ∧ Hid (Rq L wq w2.heap.size n (fun (j : Nat) => atq (j : Int) (v.take i)))) (fun t _ => k - (intOf t).toNat)
      case atStart => exact ⟨0, by omega, rfl, HB, HK, HQ0⟩
      case round =>
        clear HB HK HQ0 hlt i2 hi
        obtain ⟨i, hi, rfl, HB, HK, HQ⟩ := hrel
        by_cases hlt : i < k
        · obtain ⟨⟨a, q⟩, haq⟩ : ∃ t, v[i]? = some t := ⟨_, List.getElem?_eq_getElem (by omega)⟩
          obtain ⟨ha0, ha1⟩ := HBe.out i a q haq
          obtain ⟨an, rfl⟩ := Int.eq_ofNat_of_zero_le ha0
          obtain ⟨b, o, ⟨ts, tx, tn, tc, tf, ty, tm, td, tg⟩, hav, hc, hr⟩ := (TV.out.below HB.out) i an q haq
          have hav2 := hav
          subst hav2
          obtain ⟨x0, x1, x2, x3⟩ := hc
          replace x0 : wr.cell? ⟨b, o + i * 4, none⟩ = some (.int .i64 an) := x0
          replace x1 : wr.cell? ⟨b, o + i * 4 + 1, none⟩ = some (.bool ts) := x1
          replace x2 : wr.cell? ⟨b, o + i * 4 + 2, none⟩ = some (.slice tx tn tc) := x2
          replace x3 : wr.cell? ⟨b, o + i * 4 + 3, none⟩ = some (.slice ty tm td) := x3
          have HR1 : Hid (Rn L wr ts tx tn tc tf ty tm td tg q) := hr
          have i2 : ((i : Nat) : Int) < ((k : Nat) : Int) := by omega
          have i3 : ((an : Nat) : Int) < ((n : Nat) : Int) := by omega
          have HAt := hid (atq_take VF.out haq)
          clear hr haq hav
          go_upto_region 16 with fail
          have hb5 := below_alloc (Below.refl wr.heap.size wr) (.cells #[.int .i64 an, .bool ts, .slice tx tn tc, .slice ty tm td] 69)
          have a0 : (wr.alloc (.cells #[.int .i64 an, .bool ts, .slice tx tn tc, .slice ty tm td] 69)).cell? ⟨wr.heap.size, 0, none⟩ = some (.int .i64 an) := by simp [go_sem]
          have a1 : (wr.alloc (.cells #[.int .i64 an, .bool ts, .slice tx tn tc, .slice ty tm td] 69)).cell? ⟨wr.heap.size, 1, none⟩ = some (.bool ts) := by simp [go_sem]
          have a2 : (wr.alloc (.cells #[.int .i64 an, .bool ts, .slice tx tn tc, .slice ty tm td] 69)).cell? ⟨wr.heap.size, 2, none⟩ = some (.slice tx tn tc) := by simp [go_sem]
          have a3 : (wr.alloc (.cells #[.int .i64 an, .bool ts, .slice tx tn tc, .slice ty tm td] 69)).cell? ⟨wr.heap.size, 3, none⟩ = some (.slice ty tm td) := by simp [go_sem]
          replace HK := hid (HK.out.below hb5); replace HQ := hid (HQ.out.below hb5); replace HR1 := hid (HR1.out.below hb5)
          replace HB := hid (HB.out.trans (hb5.mono HB.out.size))
          clear x0 x1 x2 x3 hb5
          generalize wr.alloc (.cells #[.int .i64 an, .bool ts, .slice tx tn tc, .slice ty tm td] 69) = w5 at *
          have CM : Hid (∀ W, Below w5.heap.size w5 W → Calls Tryz.prog 51 #[.agg #[.bool ts, .slice tx tn tc, .slice ty tm td]] W fun e w' => ∃ xp cp yp dp, e = .returned (.agg #[.bool ts, .slice xp tn cp, .slice yp tm dp]) ∧ Below W.heap.size W w' ∧ Hid (Rn L w' ts xp tn cp tf yp tm dp tg q)) := fun W hW => rCopy_n (HR1.out.below hW) hL
          have hk5 := HK.out
          have lt0 : an * 3 < n * 3 := by omega
          have lt1 : an * 3 + 1 < n * 3 := by omega
          have lt2 : an * 3 + 2 < n * 3 := by omega
          obtain ⟨_, u0, _⟩ := hk5.has (an * 3) lt0
          obtain ⟨_, u1, _⟩ := hk5.has (an * 3 + 1) lt1
          obtain ⟨_, u2, _⟩ := hk5.has (an * 3 + 2) lt2
          have uf := hk5.fz
          clear hk5
          go_region_with (go_at_call 51; with_reducible refine (CM.out _ (by repeat (with_reducible first | assumption | exact Below.refl _ _ | refine kBdn ?_ | refine Below.drew ?_))).mono ?_; rintro e w6 ⟨xp, cp, yp, dp, rfl, hb6, HP⟩; have B6 : Below w5.heap.size w5 w6 := (by repeat (with_reducible first | assumption | exact Below.refl _ _ | refine kBdn ?_ | refine Below.drew ?_ | refine kBb (by assumption) ?_)); have a06 := kCb B6 a0; have S6 : Rk w6 w2.heap.size n := HK.out.below B6; obtain ⟨_, t0, _⟩ := S6.has (an * 3) lt0; obtain ⟨_, t1, _⟩ := S6.has (an * 3 + 1) lt1; obtain ⟨_, t2, _⟩ := S6.has (an * 3 + 2) lt2; have tf6 := S6.fz)
          all_goals
            (obtain ⟨R1, R2⟩ := rq_st (i' := n) (j := an) (Q' := fun (j : Nat) => atq (j : Int) (v.take (i + 1))) S6 (HQ.out.below B6) (by omega) (by show Rn L w6 ts xp tn cp tf yp tm dp tg (atq (an : Int) (v.take (i + 1))); rw [HAt.out, if_pos rfl]; exact HP.out) (fun j' h1 h2 => ⟨h1, by show atq (j' : Int) _ = atq (j' : Int) _; rw [HAt.out, if_neg (by omega)]⟩)
             have HR1' := hid R1; have HR2 := hid R2; have HB7 := hid (HB.out.trans (B6.mono HB.out.size))
             clear R1 R2 S6 t0 t1 t2 tf6 a06 B6 hb6 HP HK HQ HB HR1 CM a0 a1 a2 a3 u0 u1 u2 uf HAt
             go_wp2
             go_roundw
             case rel => exact ⟨i + 1, by omega, by go_num, below_at HB7.out (by omega), HR1'.out, HR2.out⟩
             case measure => simp [intOf]; omega)
        · have e1 : i = k := by omega
          have i2 : ¬ (((i : Nat) : Int) < ((k : Nat) : Int)) := by omega
          have HE : Hid (Rf L wr (some ⟨w2.heap.size, 0, none⟩) (dense n v)) := by
            refine Rq.rf HQ.out (dense_len n v) (fun j hj => ?_)
            rw [e1, ← lv, List.take_length]
            simp [dense, hj]
          clear HQ HK e1
          go_wp2
          go_ret2
          exact ⟨_, n, n, 0, rfl, HB.out, .inr (.inr (.inr ⟨by omega, by omega, HF.out, HAB.out, rfl, rfl, rfl, (fun h => by cases h), HE.out⟩))⟩
end Go.Proofs.YthofcgpghbaccaaGreat
namespace Go.Proofs.YthofcgpghbaccaaGreat
open Go.RowKit

/-- Which error Dot answers. -/
def DE (kx : Nat) (fv fx fb : Bool) (er : Int) : Prop :=
  (64 < kx ∧ er = 2) ∨ (kx ≤ 64 ∧ (fv && fx) = false ∧ er = 3) ∨ (kx ≤ 64 ∧ fv = true ∧ fx = true ∧ fb = false ∧ er = 7)

set_option maxRecDepth 100000 in
set_option maxHeartbeats 4000000 in
theorem vDotErr_c {w : World} {av ax : Option Addr} {k kx cv cx : Nat} {col : Nat → Int} {T : Nat → Nm} {X : Nat → Nm}
    (hv : Tl w av k col T) (hx : Rl w ax kx X) (hk : k ≤ 1048576) (hkx : kx ≤ 1048576) (hbad : 64 < kx ∨ (tfB k col T && afB kx X && (decide (k = 0) || decide (col (k - 1) < (kx : Int)))) = false) :
    Calls Tryz.prog 27 #[.slice av k cv, .slice ax kx cx] w fun e w' => ∃ er, e = .returned (.tuple #[.agg #[.bool false, .slice none 0 0, .slice none 0 0], .int .i64 er]) ∧ Below w.heap.size w w' ∧ DE kx (tfB k col T) (afB kx X) (decide (k = 0) || decide (col (k - 1) < (kx : Int))) er := by
  have HV := hid hv; have HX := hid hx
  have h2 := ob_new w 25
  have h3 := below_alloc (Below.refl w.heap.size w) (.cells #[.bool false, .slice none 0 0, .slice none 0 0] 25)
  clear hv hx
  by_cases h64 : 64 < kx
  · have i1 : (64 : Int) < ((kx : Nat) : Int) := by omega
    have HB3 := hid h3; have HO2 := hid h2
    clear h2 h3 hbad
    go_enter Tryz.func27, Tryz.ntmps27
    go_wp2
    obtain ⟨hz, z0, z1, z2, zf⟩ := HO2.out
    exact bodyPost_ret (v := .tuple #[.agg #[.bool false, .slice none 0 0, .slice none 0 0], .int .i64 2]) (by simp [results, Tryz.results27, go_sem, z0, z1, z2]) rfl ⟨2, rfl, HB3.out, .inl ⟨h64, rfl⟩⟩
  · have i1 : ¬ ((64 : Int) < ((kx : Nat) : Int)) := by omega
    go_enter Tryz.func27, Tryz.ntmps27
    go_wp2_with fail
    generalize w.alloc (.cells #[.bool false, .slice none 0 0, .slice none 0 0] 25) = w0 at *
    have hf2 := vForm_c (cap := cv) (HV.out.below h3) (by omega)
    cases hf : tfB k col T
    · rw [hf] at hf2
      refine hf2.mono ?_
      clear hf2
      rintro e w1 ⟨rfl, hb1⟩
      have HB1 := hid (h3.trans (hb1.mono h3.size))
      obtain ⟨hz, z0, z1, z2, zf⟩ := h2.below hb1
      have HF := hid hf
      clear h2 h3 hb1 hbad hf
      go_wp2
      exact bodyPost_ret (v := .tuple #[.agg #[.bool false, .slice none 0 0, .slice none 0 0], .int .i64 3]) (by simp [results, Tryz.results27, go_sem, z0, z1, z2]) rfl ⟨3, rfl, below_st HB1.out (by omega), .inr (.inl ⟨by omega, by rw [HF.out]; rfl, rfl⟩)⟩
    · rw [hf] at hf2 hbad
      refine hf2.mono ?_
      clear hf2
      rintro e w1 ⟨rfl, hb1⟩
      have OB1 := hid (h2.below hb1); have HB1 := hid (h3.trans (hb1.mono h3.size))
      clear h2 h3 hb1
      have HBad := hid hbad
      clear hbad
      go_wp2_with fail
      have hf3 := allForm_c (cap := cx) (HX.out.below HB1.out) (by omega)
      cases hfx : afB kx X
      · rw [hfx] at hf3
        refine hf3.mono ?_
        clear hf3
        rintro e w2 ⟨rfl, hb2⟩
        have HB2 := hid (HB1.out.trans (hb2.mono HB1.out.size))
        obtain ⟨hz, z0, z1, z2, zf⟩ := OB1.out.below hb2
        have HF := hid hfx
        clear OB1 HB1 hb2 hf hfx HBad
        go_wp2
        exact bodyPost_ret (v := .tuple #[.agg #[.bool false, .slice none 0 0, .slice none 0 0], .int .i64 3]) (by simp [results, Tryz.results27, go_sem, z0, z1, z2]) rfl ⟨3, rfl, below_st HB2.out (by omega), .inr (.inl ⟨by omega, by rw [HF.out, Bool.and_false], rfl⟩)⟩
      · rw [hfx] at hf3
        refine hf3.mono ?_
        clear hf3
        rintro e w2 ⟨rfl, hb2⟩
        have OB2 := hid (OB1.out.below hb2); have HB2 := hid (HB1.out.trans (hb2.mono HB1.out.size))
        clear OB1 HB1 hb2
        have hab : (decide (k = 0) || decide (col (k - 1) < (kx : Int))) = false := by
          have h := HBad.out
          rw [hfx] at h
          rcases h with h | h
          · exact absurd h h64
          · simpa using h
        go_wp2_with fail
        have hf4 := allBelow_c (cap := cv) (z := (kx : Int)) (HV.out.below HB2.out) (by omega)
        rw [hab] at hf4
        refine hf4.mono ?_
        have HAB := hid hab; have HF := hid hf; have HFX := hid hfx
        clear hf4 hab hf hfx HBad
        rintro e w3 ⟨rfl, rfl⟩
        obtain ⟨hz, z0, z1, z2, zf⟩ := OB2.out
        go_wp2
        exact bodyPost_ret (v := .tuple #[.agg #[.bool false, .slice none 0 0, .slice none 0 0], .int .i64 7]) (by simp [results, Tryz.results27, go_sem, z0, z1, z2]) rfl ⟨7, rfl, below_st HB2.out (by omega), .inr (.inr ⟨by omega, HF.out, HFX.out, HAB.out, rfl⟩)⟩
end Go.Proofs.YthofcgpghbaccaaGreat
