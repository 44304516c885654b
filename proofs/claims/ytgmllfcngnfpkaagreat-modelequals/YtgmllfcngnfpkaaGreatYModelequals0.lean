/-
  Lists of terms in form, as values; the walk of package vec's merge. The walks of the reference's Same of numbers, bounds and lists of terms, whatever they are (written by makers/f29.py). The walk of the reference's Same of models, whatever they are (written by makers/f30.py). The walks of the reference's DocEqual and of the law ModelEquals (written by makers/f31.py).
-/
import Derived.Test.YtgmllfcngnfpkaaGreatZ0
import Derived.Test.YtgmllfcngnfpkaaGreatZ1
import Derived.Test.YtgmllfcngnfpkaaGreatZ2
import Derived.Test.YtgmllfcngnfpkaaGreatZ3
import Derived.Test.YtgmllfcngnfpkaaGreatZ4
import Derived.Test.YtgmllfcngnfpkaaGreatZ5
import Derived.Test.YtgmllfcngnfpkaaGreatZ6
import Derived.Test.YtgmllfcngnfpkaaGreatZ7
import Derived.Test.YtgmllfcngnfpkaaGreatZ8
import Derived.Test.YtgmllfcngnfpkaaGreatZ9
import Derived.Test.YtgmllfcngnfpkaaGreatZ10
import Derived.Test.YtgmllfcngnfpkaaGreatZ11
import Derived.Test.YtgmllfcngnfpkaaGreatZ12
import Derived.Test.YtgmllfcngnfpkaaGreatZ13
import Derived.Test.YtgmllfcngnfpkaaGreatZ14
import Derived.BigQuiet
import Derived.Deep.RegionHeld3
namespace Go.Proofs.YtgmllfcngnfpkaaGreat
open Go.RowKit

theorem kBdn {w0 w : World} {q : Nat} (h : Below w0.heap.size w0 w) : Below w0.heap.size w0 (w.drewN q) := below_drewN h q
end Go.Proofs.YtgmllfcngnfpkaaGreat
namespace Go.Proofs.YtgmllfcngnfpkaaGreat
open Go.RowKit

theorem eqs_iff {f g : Nat → Int} : ∀ {r i : Nat}, eqs f g r i = true ↔ ∀ j, i ≤ j → j < i + r → f j = g j
  | 0, i => ⟨fun _ j a b => by omega, fun _ => rfl⟩
  | r + 1, i => by
    simp only [eqs, Bool.and_eq_true, decide_eq_true_eq, eqs_iff (r := r)]
    constructor
    · rintro ⟨h1, h2⟩ j a b
      by_cases e : j = i
      · subst e; exact h1
      · exact h2 j (by omega) (by omega)
    · intro h
      exact ⟨h i (by omega) (by omega), fun j a b => h j (by omega) (by omega)⟩
theorem eql_iff {n m : Nat} {f g : Nat → Int} : eqlB n m f g = true ↔ Alk n m f g := by
  unfold eqlB Alk
  simp only [Bool.and_eq_true, decide_eq_true_eq, eqs_iff]
  exact ⟨fun ⟨a, b⟩ => ⟨a, fun j hj => b j (by omega) (by omega)⟩, fun ⟨a, b⟩ => ⟨a, fun j _ hj => b j (by omega)⟩⟩
theorem sq_iff {a b : Nm} : sqB a b = true ↔ a.s = b.s ∧ Alk a.n b.n a.f b.f ∧ Alk a.m b.m a.g b.g := by
  unfold sqB
  simp only [Bool.and_eq_true, decide_eq_true_eq, eql_iff]
theorem qSame_x {w : World} {a b : Nm} (ha : NmS w a) (hb : NmS w b) : Calls Tryz.prog 28 #[a.val, b.val] w fun r w' => r = .returned (.bool (sqB a b)) ∧ Below w.heap.size w w' :=
  (rSame_c a.s a.x a.y a.n a.c a.m a.d a.f a.g b.s b.x b.y b.n b.c b.m b.d b.f b.g w ha.1.rx ha.1.ry hb.1.rx hb.1.ry (Nat.le_trans ha.2.1 (by decide)) (Nat.le_trans ha.2.2 (by decide)) (Nat.le_trans hb.2.1 (by decide)) (Nat.le_trans hb.2.2 (by decide))).mono
    fun e w' ⟨q, h1, h2, h3⟩ => ⟨by rw [h1, Bool.eq_iff_iff.2 (h3.trans sq_iff.symm)], h2⟩

set_option maxRecDepth 100000 in
set_option maxHeartbeats 4000000 in
theorem xSame_x {w : World} {a b : Ex} (ha : NmS w a.v) (hb : NmS w b.v) : Calls Tryz.prog 56 #[a.val, b.val] w fun r w' => r = .returned (.bool (sxB a b)) ∧ Below w.heap.size w w' := by
  have CS := hid (fun w' (hw : Below w.heap.size w w') => qSame_x (w := w') (ha.below hw) (hb.below hw))
  obtain ⟨q, hq⟩ : ∃ q, sqB a.v b.v = q := ⟨_, rfl⟩
  rw [hq] at CS
  obtain ⟨an, han⟩ : ∃ t, sxB a b = t := ⟨_, rfl⟩
  rw [han]
  have HA := hid (show an = (decide (a.i = b.i) && q) from by rw [← han, sxB, hq])
  clear ha hb hq han
  obtain ⟨i1, ⟨s1, x1, n1, c1, f1, y1, m1, d1, g1⟩⟩ := a
  obtain ⟨i2, ⟨s2, x2, n2, c2, f2, y2, m2, d2, g2⟩⟩ := b
  replace CS : Hid (∀ w' (hw : Below w.heap.size w w'), Calls Tryz.prog 28 #[.agg #[.bool s1, .slice x1 n1 c1, .slice y1 m1 d1], .agg #[.bool s2, .slice x2 n2 c2, .slice y2 m2 d2]] w' fun r w2 => r = .returned (.bool q) ∧ Below w'.heap.size w' w2) := CS
  replace HA : Hid (an = (decide (i1 = i2) && q)) := HA
  show Calls Tryz.prog 56 #[.agg #[.int .i64 i1, .bool s1, .slice x1 n1 c1, .slice y1 m1 d1], .agg #[.int .i64 i2, .bool s2, .slice x2 n2 c2, .slice y2 m2 d2]] w _
  have h1 := (bx4_at w (.int .i64 i1) (.bool s1) (.slice x1 n1 c1) (.slice y1 m1 d1) 73).alloc (.cells #[.int .i64 i2, .bool s2, .slice x2 n2 c2, .slice y2 m2 d2] 73)
  have h2 := bx4_at (w.alloc (.cells #[.int .i64 i1, .bool s1, .slice x1 n1 c1, .slice y1 m1 d1] 73)) (.int .i64 i2) (.bool s2) (.slice x2 n2 c2) (.slice y2 m2 d2) 73
  rw [size_alloc1] at h2
  have h3 := below_alloc (below_alloc (Below.refl w.heap.size w) (.cells #[.int .i64 i1, .bool s1, .slice x1 n1 c1, .slice y1 m1 d1] 73)) (.cells #[.int .i64 i2, .bool s2, .slice x2 n2 c2, .slice y2 m2 d2] 73)
  go_enter Tryz.func56, Tryz.ntmps56
  go_upto_region 1 with fail
  generalize (w.alloc (.cells #[.int .i64 i1, .bool s1, .slice x1 n1 c1, .slice y1 m1 d1] 73)).alloc (.cells #[.int .i64 i2, .bool s2, .slice x2 n2 c2, .slice y2 m2 d2] 73) = w1 at *
  have HW := hid h3
  obtain ⟨za, a0, a1, a2, a3⟩ := h1
  obtain ⟨zb, b0, b1, b2, b3⟩ := h2
  clear h3
  by_cases hi : i1 = i2
  · subst hi
    have hii : (i1 == i1) = true := by simp
    go_wp2_with fail
    refine (CS.out _ HW.out).mono ?_
    rintro e w2 ⟨rfl, hb⟩
    have HB := hid (HW.out.trans (hb.mono HW.out.size))
    clear hb
    go_wp2
    go_ret
    exact ⟨by rw [HA.out]; simp, HB.out⟩
  · have hii : (i1 == i2) = false := by simpa using hi
    have HF := hid (show an = false from by rw [HA.out]; simp [hi])
    go_wp2
    go_ret
    exact ⟨by rw [HF.out]; rfl, HW.out⟩

set_option maxRecDepth 100000 in
set_option maxHeartbeats 4000000 in
theorem vSame_x {w : World} {ao bo : Option Addr} {k m ca cb : Nat} {col col' : Nat → Int} {T T' : Nat → Nm} (ha : Tl w ao k col T) (hb : Tl w bo m col' T') (hk : k ≤ 1048576) (hm : m ≤ 1048576) :
    Calls Tryz.prog 54 #[.slice ao k ca, .slice bo m cb] w fun e w' => e = .returned (.bool (eqfB sxB k m (tex col T) (tex col' T'))) ∧ Below w.heap.size w w' := by
  have HA := hid ha; have HB := hid hb
  clear ha hb
  obtain ⟨an, han⟩ : ∃ t, eqfB sxB k m (tex col T) (tex col' T') = t := ⟨_, rfl⟩
  rw [han]
  by_cases hnm : k = m
  case neg =>
    have HE := hid (show an = false from by rw [← han, eqfB]; simp [hnm])
    have e1 : ((k : Int) != (m : Int)) = true := by simp; omega
    clear hnm han
    go_enter Tryz.func54, Tryz.ntmps54
    go_wp2
    go_ret
    refine ⟨?_, Below.refl _ _⟩
    rw [HE.out]; rfl
  subst hnm
  have HAN := hid (show an = eqf sxB (tex col T) (tex col' T') k 0 from by rw [← han, eqfB]; simp)
  have hkk : (((k : Nat) : Int) != ((k : Nat) : Int)) = false := by simp
  clear han
  go_enter Tryz.func54, Tryz.ntmps54
  go_wp2_with fail
  go_loopw [13] (fun t wr => ∃ (i : Nat), i ≤ k ∧ t = .int .i64 i ∧ Hid (Below w.heap.size w wr) ∧ Hid (an = eqf sxB (tex col T) (tex col' T') (k - i) i)) (fun t _ => k - (intOf t).toNat)
  case atStart => exact ⟨0, by omega, rfl, Below.refl _ _, HAN.out⟩
  case round =>
    obtain ⟨i, hi, rfl, HW, HI⟩ := hrel
    by_cases hlt : i < k
    · obtain ⟨b, o, rfl, ⟨x0, x1, x2, x3⟩, hr⟩ := (HA.out.below HW.out) i hlt
      obtain ⟨b', o', rfl, ⟨p0, p1, p2, p3⟩, hr'⟩ := (HB.out.below HW.out) i hlt
      obtain ⟨r, hrr⟩ : ∃ r, k - i = r + 1 := ⟨k - i - 1, by omega⟩
      have hT : an = (sxB (tex col T i) (tex col' T' i) && eqf sxB (tex col T) (tex col' T') r (i + 1)) := by rw [HI.out, hrr]; rfl
      have hr2 : k - (i + 1) = r := by omega
      obtain ⟨q, hq⟩ : ∃ q, sqB (T i) (T' i) = q := ⟨_, rfl⟩
      have CS := hid (fun W (hW : Below wr.heap.size wr W) => qSame_x (w := W) (a := T i) (b := T' i) ⟨hr.1.below hW, hr.2⟩ ⟨hr'.1.below hW, hr'.2⟩)
      rw [hq] at CS
      have hT2 : an = ((decide (col i = col' i) && q) && eqf sxB (tex col T) (tex col' T') r (i + 1)) := by rw [hT]; unfold sxB; show ((decide (col i = col' i) && sqB (T i) (T' i)) && _) = _; rw [hq]
      obtain ⟨a, hca⟩ : ∃ z, col i = z := ⟨_, rfl⟩
      obtain ⟨a', hcb⟩ : ∃ z, col' i = z := ⟨_, rfl⟩
      rw [hca, hcb] at hT2
      rw [hca] at x0
      rw [hcb] at p0
      obtain ⟨⟨ts, tx, tn, tc, tf, ty, tm, td, tg⟩, hTi⟩ : ∃ t, T i = t := ⟨_, rfl⟩
      obtain ⟨⟨ss, sx, sn, sc, sf, sy, sm, sd, sg⟩, hTi'⟩ : ∃ t, T' i = t := ⟨_, rfl⟩
      rw [hTi] at x1 x2 x3 CS
      rw [hTi'] at p1 p2 p3 CS
      replace x0 : wr.cell? ⟨b, o + i * 4, none⟩ = some (.int .i64 a) := x0
      replace x1 : wr.cell? ⟨b, o + i * 4 + 1, none⟩ = some (.bool ts) := x1
      replace x2 : wr.cell? ⟨b, o + i * 4 + 2, none⟩ = some (.slice tx tn tc) := x2
      replace x3 : wr.cell? ⟨b, o + i * 4 + 3, none⟩ = some (.slice ty tm td) := x3
      replace p0 : wr.cell? ⟨b', o' + i * 4, none⟩ = some (.int .i64 a') := p0
      replace p1 : wr.cell? ⟨b', o' + i * 4 + 1, none⟩ = some (.bool ss) := p1
      replace p2 : wr.cell? ⟨b', o' + i * 4 + 2, none⟩ = some (.slice sx sn sc) := p2
      replace p3 : wr.cell? ⟨b', o' + i * 4 + 3, none⟩ = some (.slice sy sm sd) := p3
      replace CS : Hid (∀ W, Below wr.heap.size wr W → Calls Tryz.prog 28 #[.agg #[.bool ts, .slice tx tn tc, .slice ty tm td], .agg #[.bool ss, .slice sx sn sc, .slice sy sm sd]] W fun e w' => e = .returned (.bool q) ∧ Below W.heap.size W w') := CS
      have i2 : ((i : Nat) : Int) < ((k : Nat) : Int) := by omega
      have HR := hid hr2
      clear hr hr' hT hr2 hrr hq hca hcb hTi hTi' HI
      go_upto_region 6 with fail
      by_cases haa : a = a'
      · subst haa
        have hne : (a != a) = false := by simp
        have HT := hid (show an = (q && eqf sxB (tex col T) (tex col' T') r (i + 1)) from by rw [hT2]; simp)
        clear hT2
        go_region_held3 (fun w' => w'.cell? ⟨b, o + i * 4, none⟩ = some (.int .i64 a) ∧ w'.cell? ⟨b, o + i * 4 + 1, none⟩ = some (.bool ts) ∧ w'.cell? ⟨b, o + i * 4 + 2, none⟩ = some (.slice tx tn tc) ∧ w'.cell? ⟨b, o + i * 4 + 3, none⟩ = some (.slice ty tm td) ∧ w'.cell? ⟨b', o' + i * 4, none⟩ = some (.int .i64 a) ∧ w'.cell? ⟨b', o' + i * 4 + 1, none⟩ = some (.bool ss) ∧ w'.cell? ⟨b', o' + i * 4 + 2, none⟩ = some (.slice sx sn sc) ∧ w'.cell? ⟨b', o' + i * 4 + 3, none⟩ = some (.slice sy sm sd))
          (refine ⟨?_, ?_, ?_, ?_, ?_, ?_, ?_, ?_⟩ <;> repeat (with_reducible first | assumption | refine kCd ?_ | refine kCb (by assumption) ?_))
          ((go_at_call 28; with_reducible refine (CS.out _ (by repeat (with_reducible first | assumption | exact Below.refl _ _ | refine kBdn ?_ | refine Below.drew ?_))).mono ?_; rintro e w5 ⟨rfl, hb5⟩))
        all_goals
          (have HW5 : Hid (Below w.heap.size w w5) := hid (HW.out.trans (Below.mono (show Below wr.heap.size wr w5 by repeat (with_reducible first | assumption | exact Below.refl _ _ | refine kBdn ?_ | refine Below.drew ?_ | refine kBb (by assumption) ?_)) HW.out.size))
           clear x0 x1 x2 x3 p0 p1 p2 p3 CS hb5
           cases q
           · go_wp2
             go_ret
             exact ⟨by rw [HT.out]; rfl, by first | exact HW5.out | exact HW5.out.drew | exact below_drewN HW5.out _⟩
           · go_wp2
             go_roundw
             case rel => exact ⟨i + 1, by omega, by go_num, (by first | exact HW5.out | exact HW5.out.drew | exact below_drewN HW5.out _), by show _ = _; rw [HT.out, HR.out]; rfl⟩
             case measure => simp [intOf]; omega)
      · have hne : (a != a') = true := by simpa using haa
        have HF := hid (show an = false from by rw [hT2]; simp [haa])
        clear hT2
        refine wp_region_held_drew (S := (fun w' => w'.cell? ⟨b, o + i * 4, none⟩ = some (.int .i64 a) ∧ w'.cell? ⟨b', o' + i * 4, none⟩ = some (.int .i64 a'))) (by kernel_rfl) ?_ (fun hHeld => ?_)
        · (refine ⟨?_, ?_⟩ <;> repeat (with_reducible first | assumption | refine kCd ?_))
        generalize hwd : wr.drew = wd at *
        refine wpAnyH_take (i := 0) (v := ?_) rfl (by kernel_rfl) (by kernel_rfl) (by kernel_rfl) (fun _ _ _ h => h) (Or.inl ⟨by rfl, ?_⟩) (by assumption) ?_
        rotate_left
        (focus (intro w0 hSw; (try dsimp only at hSw); go_simp <;> with_reducible rfl))
        simp only [List.getElem_toArray, List.getElem_cons_zero, Act.put, List.setIfInBounds_toArray, List.set_cons_zero, List.set_cons_succ]
        refine wpAnyH_take (i := 1) (v := ?_) rfl (by kernel_rfl) (by kernel_rfl) (by kernel_rfl) (fun _ _ _ h => h) (Or.inl ⟨by rfl, ?_⟩) (by assumption) ?_
        rotate_left
        (focus (intro w0 hSw; (try dsimp only at hSw); go_simp <;> with_reducible rfl))
        simp only [List.getElem_toArray, List.getElem_cons_succ, List.getElem_cons_zero, Act.put, List.setIfInBounds_toArray, List.set_cons_zero, List.set_cons_succ]
        refine wpAnyH_take (i := 2) (v := ?_) rfl (by kernel_rfl) (by kernel_rfl) (by kernel_rfl) (fun _ _ _ h => h) (Or.inl ⟨by rfl, ?_⟩) (by assumption) ?_
        rotate_left
        (focus (intro w0 hSw; (try dsimp only at hSw); go_simp <;> with_reducible rfl))
        simp only [List.getElem_toArray, List.getElem_cons_succ, List.getElem_cons_zero, Act.put, List.setIfInBounds_toArray, List.set_cons_zero, List.set_cons_succ]
        refine wpAnyH_take (i := 3) (v := ?_) rfl (by kernel_rfl) (by kernel_rfl) (by kernel_rfl) (fun _ _ _ h => h) (Or.inl ⟨by rfl, ?_⟩) (by assumption) ?_
        rotate_left
        (focus (intro w0 hSw; (try dsimp only at hSw); go_simp <;> with_reducible rfl))
        simp only [List.getElem_toArray, List.getElem_cons_succ, List.getElem_cons_zero, Act.put, List.setIfInBounds_toArray, List.set_cons_zero, List.set_cons_succ]
        refine wpAnyH_take (i := 4) (v := ?_) rfl (by kernel_rfl) (by kernel_rfl) (by kernel_rfl) (fun _ _ _ h => h) (Or.inl ⟨by rfl, ?_⟩) (by assumption) ?_
        rotate_left
        (focus (intro w0 hSw; (try dsimp only at hSw); go_simp <;> with_reducible rfl))
        simp only [List.getElem_toArray, List.getElem_cons_succ, List.getElem_cons_zero, Act.put, List.setIfInBounds_toArray, List.set_cons_zero, List.set_cons_succ]
        refine wpAnyH_take (i := 5) (v := ?_) rfl (by kernel_rfl) (by kernel_rfl) (by kernel_rfl) (fun _ _ _ h => h) (Or.inl ⟨by rfl, ?_⟩) (by assumption) ?_
        rotate_left
        (focus (intro w0 hSw; (try dsimp only at hSw); go_simp <;> with_reducible rfl))
        simp only [List.getElem_toArray, List.getElem_cons_succ, List.getElem_cons_zero, Act.put, List.setIfInBounds_toArray, List.set_cons_zero, List.set_cons_succ]
        refine wpAnyH_take (i := 6) (v := ?_) rfl (by kernel_rfl) (by kernel_rfl) (by kernel_rfl) (fun _ _ _ h => h) (Or.inl ⟨by rfl, ?_⟩) (by assumption) ?_
        rotate_left
        (focus (intro w0 hSw; (try dsimp only at hSw); go_simp <;> with_reducible rfl))
        simp only [List.getElem_toArray, List.getElem_cons_succ, List.getElem_cons_zero, Act.put, List.setIfInBounds_toArray, List.set_cons_zero, List.set_cons_succ]
        refine wpAnyH_take (i := 7) (v := ?_) rfl (by kernel_rfl) (by kernel_rfl) (by kernel_rfl) (fun _ _ _ h => h) (Or.inl ⟨by rfl, ?_⟩) (by assumption) ?_
        rotate_left
        (focus (intro w0 hSw; (try dsimp only at hSw); go_simp <;> with_reducible rfl))
        simp only [List.getElem_toArray, List.getElem_cons_succ, List.getElem_cons_zero, Act.put, List.setIfInBounds_toArray, List.set_cons_zero, List.set_cons_succ]
        refine wpAnyH_take (i := 8) (v := ?_) rfl (by kernel_rfl) (by kernel_rfl) (by kernel_rfl) (fun _ _ _ h => h) (Or.inl ⟨by rfl, ?_⟩) (by assumption) ?_
        rotate_left
        (focus (intro w0 hSw; (try dsimp only at hSw); go_simp <;> with_reducible rfl))
        simp only [List.getElem_toArray, List.getElem_cons_succ, List.getElem_cons_zero, Act.put, List.setIfInBounds_toArray, List.set_cons_zero, List.set_cons_succ]
        refine wpAnyH_take (i := 9) (v := ?_) rfl (by kernel_rfl) (by kernel_rfl) (by kernel_rfl) (fun _ _ _ h => h) (Or.inl ⟨by rfl, ?_⟩) (by assumption) ?_
        rotate_left
        (focus (intro w0 hSw; (try dsimp only at hSw); go_simp <;> with_reducible rfl))
        simp only [List.getElem_toArray, List.getElem_cons_succ, List.getElem_cons_zero, Act.put, List.setIfInBounds_toArray, List.set_cons_zero, List.set_cons_succ]
        refine wpAnyH_take (i := 10) (v := ?_) rfl (by kernel_rfl) (by kernel_rfl) (by kernel_rfl) (fun _ _ _ h => h) (Or.inl ⟨by rfl, ?_⟩) (by assumption) ?_
        rotate_left
        (focus (intro w0 hSw; (try dsimp only at hSw); go_simp <;> with_reducible rfl))
        simp only [List.getElem_toArray, List.getElem_cons_succ, List.getElem_cons_zero, Act.put, List.setIfInBounds_toArray, List.set_cons_zero, List.set_cons_succ]
        refine wpAnyH_take (i := 11) (v := ?_) rfl (by kernel_rfl) (by kernel_rfl) (by kernel_rfl) (fun _ _ _ h => h) (Or.inl ⟨by rfl, ?_⟩) (by assumption) ?_
        rotate_left
        (focus (intro w0 hSw; (try dsimp only at hSw); go_simp <;> with_reducible rfl))
        simp only [List.getElem_toArray, List.getElem_cons_succ, List.getElem_cons_zero, Act.put, List.setIfInBounds_toArray, List.set_cons_zero, List.set_cons_succ]
        refine wpAnyH_take (i := 12) (v := undef) rfl (by kernel_rfl) (by kernel_rfl) (by kernel_rfl) (fun _ _ _ h => h) (Or.inr ⟨by rfl, rfl⟩) (by assumption) ?_
        simp only [List.getElem_toArray, List.getElem_cons_succ, List.getElem_cons_zero, Act.put, List.setIfInBounds_toArray, List.set_cons_zero, List.set_cons_succ]
        refine wpAnyH_take (i := 13) (v := undef) rfl (by kernel_rfl) (by kernel_rfl) (by kernel_rfl) (fun _ _ _ h => h) (Or.inr ⟨by rfl, rfl⟩) (by assumption) ?_
        simp only [List.getElem_toArray, List.getElem_cons_succ, List.getElem_cons_zero, Act.put, List.setIfInBounds_toArray, List.set_cons_zero, List.set_cons_succ]
        refine wpAnyH_take (i := 14) (v := undef) rfl (by kernel_rfl) (by kernel_rfl) (by kernel_rfl) (fun _ _ _ h => h) (Or.inr ⟨by rfl, rfl⟩) (by assumption) ?_
        simp only [List.getElem_toArray, List.getElem_cons_succ, List.getElem_cons_zero, Act.put, List.setIfInBounds_toArray, List.set_cons_zero, List.set_cons_succ]
        refine wpAnyH_take (i := 15) (v := undef) rfl (by kernel_rfl) (by kernel_rfl) (by kernel_rfl) (fun _ _ _ h => h) (Or.inr ⟨by rfl, rfl⟩) (by assumption) ?_
        simp only [List.getElem_toArray, List.getElem_cons_succ, List.getElem_cons_zero, Act.put, List.setIfInBounds_toArray, List.set_cons_zero, List.set_cons_succ]
        refine wpAnyH_take (i := 16) (v := undef) rfl (by kernel_rfl) (by kernel_rfl) (by kernel_rfl) (fun _ _ _ h => h) (Or.inr ⟨by rfl, rfl⟩) (by assumption) ?_
        simp only [List.getElem_toArray, List.getElem_cons_succ, List.getElem_cons_zero, Act.put, List.setIfInBounds_toArray, List.set_cons_zero, List.set_cons_succ]
        refine wpAnyH_take (i := 17) (v := undef) rfl (by kernel_rfl) (by kernel_rfl) (by kernel_rfl) (fun _ _ _ h => h) (Or.inr ⟨by rfl, rfl⟩) (by assumption) ?_
        simp only [List.getElem_toArray, List.getElem_cons_succ, List.getElem_cons_zero, Act.put, List.setIfInBounds_toArray, List.set_cons_zero, List.set_cons_succ]
        refine wpAnyH_take (i := 18) (v := undef) rfl (by kernel_rfl) (by kernel_rfl) (by kernel_rfl) (fun _ _ _ h => h) (Or.inr ⟨by rfl, rfl⟩) (by assumption) ?_
        simp only [List.getElem_toArray, List.getElem_cons_succ, List.getElem_cons_zero, Act.put, List.setIfInBounds_toArray, List.set_cons_zero, List.set_cons_succ]
        refine wpAnyH_take (i := 19) (v := undef) rfl (by kernel_rfl) (by kernel_rfl) (by kernel_rfl) (fun _ _ _ h => h) (Or.inr ⟨by rfl, rfl⟩) (by assumption) ?_
        simp only [List.getElem_toArray, List.getElem_cons_succ, List.getElem_cons_zero, Act.put, List.setIfInBounds_toArray, List.set_cons_zero, List.set_cons_succ]
        refine wpAnyH_take (i := 20) (v := undef) rfl (by kernel_rfl) (by kernel_rfl) (by kernel_rfl) (fun _ _ _ h => h) (Or.inr ⟨by rfl, rfl⟩) (by assumption) ?_
        simp only [List.getElem_toArray, List.getElem_cons_succ, List.getElem_cons_zero, Act.put, List.setIfInBounds_toArray, List.set_cons_zero, List.set_cons_succ]
        refine wpAnyH_take (i := 21) (v := undef) rfl (by kernel_rfl) (by kernel_rfl) (by kernel_rfl) (fun _ _ _ h => h) (Or.inr ⟨by rfl, rfl⟩) (by assumption) ?_
        simp only [List.getElem_toArray, List.getElem_cons_succ, List.getElem_cons_zero, Act.put, List.setIfInBounds_toArray, List.set_cons_zero, List.set_cons_succ]
        refine wpAnyH_take (i := 22) (v := undef) rfl (by kernel_rfl) (by kernel_rfl) (by kernel_rfl) (fun _ _ _ h => h) (Or.inr ⟨by rfl, rfl⟩) (by assumption) ?_
        simp only [List.getElem_toArray, List.getElem_cons_succ, List.getElem_cons_zero, Act.put, List.setIfInBounds_toArray, List.set_cons_zero, List.set_cons_succ]
        refine wpAnyH_take (i := 23) (v := undef) rfl (by kernel_rfl) (by kernel_rfl) (by kernel_rfl) (fun _ _ _ h => h) (Or.inr ⟨by rfl, rfl⟩) (by assumption) ?_
        simp only [List.getElem_toArray, List.getElem_cons_succ, List.getElem_cons_zero, Act.put, List.setIfInBounds_toArray, List.set_cons_zero, List.set_cons_succ]
        refine wpAnyH_take (i := 24) (v := ?_) rfl (by kernel_rfl) (by kernel_rfl) (by kernel_rfl) (fun _ _ _ h => h) (Or.inl ⟨by rfl, ?_⟩) (by assumption) ?_
        rotate_left
        (focus (intro w0 hSw; (try dsimp only at hSw); go_simp <;> with_reducible rfl))
        simp only [List.getElem_toArray, List.getElem_cons_succ, List.getElem_cons_zero, Act.put, List.setIfInBounds_toArray, List.set_cons_zero, List.set_cons_succ]
        refine wpAnyH_done (by kernel_rfl) ?_ _
        subst hwd
        go_wp2
        go_ret
        exact ⟨by rw [HF.out]; rfl, HW.out.drew⟩
    · have e1 : i = k := by omega
      have i2 : ¬ (((i : Nat) : Int) < ((k : Nat) : Int)) := by omega
      have HE := hid (show an = true from by rw [HI.out, e1, Nat.sub_self]; rfl)
      clear e1 HI
      go_wp2
      go_ret
      exact ⟨by rw [HE.out]; rfl, HW.out⟩
end Go.Proofs.YtgmllfcngnfpkaaGreat
namespace Go.Proofs.YtgmllfcngnfpkaaGreat
open Go.RowKit

/-- Are two models the same, field by field? -/
def smB (a b : Mo) : Bool := sqB a.off b.off && (eqfB scB a.ck b.ck a.C b.C && eqfB srB a.rk b.rk a.R b.R)

set_option maxRecDepth 100000 in
set_option maxHeartbeats 8000000 in
theorem mSame_c {w : World} {a b : Mo} (ha : MoR w a) (hb : MoR w b) : Calls Tryz.prog 21 #[a.val, b.val] w fun r w' => r = .returned (.bool (smB a b)) ∧ Below w.heap.size w w' := by
  have CO := hid (fun w' (hw : Below w.heap.size w w') => qSame_x (w := w') (ha.off.below hw) (hb.off.below hw))
  obtain ⟨tO, hto⟩ : ∃ t, sqB a.off b.off = t := ⟨_, rfl⟩
  rw [hto] at CO
  obtain ⟨an, han⟩ : ∃ t, smB a b = t := ⟨_, rfl⟩
  rw [han]
  have HA := hid (show an = (tO && (eqfB scB a.ck b.ck a.C b.C && eqfB srB a.rk b.rk a.R b.R)) from by rw [← han, smB, hto])
  obtain ⟨_, hC, hR, hck, hrk⟩ := ha
  obtain ⟨_, hC', hR', hck', hrk'⟩ := hb
  clear han hto
  obtain ⟨⟨s, x, n, c, f, y, m, d, g⟩, ca, ck, cc, C, ra, rk, rc, R⟩ := a
  obtain ⟨⟨vs, vx, vn, vc, vf, vy, vm, vd, vg⟩, vca, vck, vcc, vC, vra, vrk, vrc, vR⟩ := b
  replace hck : ck ≤ 1048576 := hck
  replace hrk : rk ≤ 1048576 := hrk
  replace hck' : vck ≤ 1048576 := hck'
  replace hrk' : vrk ≤ 1048576 := hrk'
  have HC : Hid (Cls w ca ck C) := hC
  have HR : Hid (Rls w ra rk R) := hR
  have HC' : Hid (Cls w vca vck vC) := hC'
  have HR' : Hid (Rls w vra vrk vR) := hR'
  replace HA : Hid (an = (tO && (eqfB scB ck vck C vC && eqfB srB rk vrk R vR))) := HA
  replace CO : Hid (∀ w' (hw : Below w.heap.size w w'), Calls Tryz.prog 28 #[.agg #[.bool s, .slice x n c, .slice y m d], .agg #[.bool vs, .slice vx vn vc, .slice vy vm vd]] w' fun r w2 => r = .returned (.bool tO) ∧ Below w'.heap.size w' w2) := CO
  clear hC hR hC' hR'
  show Calls Tryz.prog 21 #[.agg #[.bool s, .slice x n c, .slice y m d, .slice ca ck cc, .slice ra rk rc], .agg #[.bool vs, .slice vx vn vc, .slice vy vm vd, .slice vca vck vcc, .slice vra vrk vrc]] w _
  have h3 := below_alloc (below_alloc (Below.refl w.heap.size w) (.cells #[.bool s, .slice x n c, .slice y m d, .slice ca ck cc, .slice ra rk rc] 28)) (.cells #[.bool vs, .slice vx vn vc, .slice vy vm vd, .slice vca vck vcc, .slice vra vrk vrc] 28)
  have B1 := (bk_new w [.bool s, .slice x n c, .slice y m d, .slice ca ck cc, .slice ra rk rc] 28).below (below_alloc (Below.refl _ _) (.cells #[.bool vs, .slice vx vn vc, .slice vy vm vd, .slice vca vck vcc, .slice vra vrk vrc] 28))
  have B2 := bk_new (w.alloc (.cells #[.bool s, .slice x n c, .slice y m d, .slice ca ck cc, .slice ra rk rc] 28)) [.bool vs, .slice vx vn vc, .slice vy vm vd, .slice vca vck vcc, .slice vra vrk vrc] 28
  rw [size_alloc1] at B2
  replace B1 : Bk ((w.alloc (.cells #[.bool s, .slice x n c, .slice y m d, .slice ca ck cc, .slice ra rk rc] 28)).alloc (.cells #[.bool vs, .slice vx vn vc, .slice vy vm vd, .slice vca vck vcc, .slice vra vrk vrc] 28)) w.heap.size [.bool s, .slice x n c, .slice y m d, .slice ca ck cc, .slice ra rk rc] 28 := B1
  replace B2 : Bk ((w.alloc (.cells #[.bool s, .slice x n c, .slice y m d, .slice ca ck cc, .slice ra rk rc] 28)).alloc (.cells #[.bool vs, .slice vx vn vc, .slice vy vm vd, .slice vca vck vcc, .slice vra vrk vrc] 28)) (w.heap.size + 1) [.bool vs, .slice vx vn vc, .slice vy vm vd, .slice vca vck vcc, .slice vra vrk vrc] 28 := B2
  go_enter Tryz.func21, Tryz.ntmps21
  go_upto_region 1 with fail
  generalize (w.alloc (.cells #[.bool s, .slice x n c, .slice y m d, .slice ca ck cc, .slice ra rk rc] 28)).alloc (.cells #[.bool vs, .slice vx vn vc, .slice vy vm vd, .slice vca vck vcc, .slice vra vrk vrc] 28) = w1 at *
  have r0 := B1.cell (j := 0) rfl
  have r1 := B1.cell (j := 1) rfl
  have r2 := B1.cell (j := 2) rfl
  have r3 := B1.cell (j := 3) rfl
  have r4 := B1.cell (j := 4) rfl
  have q0 := B2.cell (j := 0) rfl
  have q1 := B2.cell (j := 1) rfl
  have q2 := B2.cell (j := 2) rfl
  have q3 := B2.cell (j := 3) rfl
  have q4 := B2.cell (j := 4) rfl
  go_wp2_with fail
  refine (CO.out _ h3).mono ?_
  rintro e w2 ⟨rfl, hb2⟩
  have HW := hid (h3.trans (hb2.mono h3.size))
  replace B1 := B1.below hb2; replace B2 := B2.below hb2
  clear hb2 h3 CO r0 r1 r2 r3 r4 q0 q1 q2 q3 q4
  cases tO
  · have HF := hid (show an = false from by rw [HA.out]; rfl)
    clear HA
    go_wp2
    go_ret
    exact ⟨by rw [HF.out]; rfl, HW.out⟩
  have r0 := B1.cell (j := 0) rfl
  have r1 := B1.cell (j := 1) rfl
  have r2 := B1.cell (j := 2) rfl
  have r3 := B1.cell (j := 3) rfl
  have r4 := B1.cell (j := 4) rfl
  have q0 := B2.cell (j := 0) rfl
  have q1 := B2.cell (j := 1) rfl
  have q2 := B2.cell (j := 2) rfl
  have q3 := B2.cell (j := 3) rfl
  have q4 := B2.cell (j := 4) rfl
  by_cases h1 : ck = vck
  case neg =>
    have HF := hid (show an = false from by rw [HA.out, eqfB]; simp [h1])
    have e1 : ((ck : Int) != (vck : Int)) = true := by simp; omega
    clear HA
    go_wp2
    go_ret
    exact ⟨by rw [HF.out]; rfl, HW.out⟩
  subst h1
  have e1 : ((ck : Int) != (ck : Int)) = false := by simp
  by_cases h2 : rk = vrk
  case neg =>
    have HF := hid (show an = false from by rw [HA.out]; simp [eqfB, h2])
    have e2 : ((rk : Int) != (vrk : Int)) = true := by simp; omega
    clear HA
    go_wp2
    go_ret
    exact ⟨by rw [HF.out]; rfl, HW.out⟩
  subst h2
  have e2 : ((rk : Int) != (rk : Int)) = false := by simp
  replace HA := hid (show an = (eqf scB C vC ck 0 && eqf srB R vR rk 0) from by rw [HA.out]; simp [eqfB])
  go_wp2_with fail
  go_loopw [38] (fun t wr => ∃ (i : Nat), i ≤ ck ∧ t = .int .i64 i ∧ Hid (Below w2.heap.size w2 wr) ∧ Hid (an = (eqf scB C vC (ck - i) i && eqf srB R vR rk 0))) (fun t _ => ck - (intOf t).toNat)
  case atStart => exact ⟨0, by omega, rfl, Below.refl _ _, HA.out⟩
  case round =>
    obtain ⟨i, hi, rfl, HB, HI⟩ := hrel
    clear HA r0 r1 r2 r3 r4 q0 q1 q2 q3 q4
    by_cases hlt : i < ck
    · obtain ⟨b, o, rfl, hc, hn⟩ := (HC.out.below (HW.out.trans (HB.out.mono HW.out.size))) i hlt
      obtain ⟨b', o', rfl, hc', hn'⟩ := (HC'.out.below (HW.out.trans (HB.out.mono HW.out.size))) i hlt
      obtain ⟨r, hr⟩ : ∃ r, ck - i = r + 1 := ⟨ck - i - 1, by omega⟩
      have hr2 : ck - (i + 1) = r := by omega
      obtain ⟨t0, ht0⟩ : ∃ t, sqB (C i).cost (vC i).cost = t := ⟨_, rfl⟩
      have C0 := hid (fun W (hW : Below wr.heap.size wr W) => qSame_x (w := W) (hn.cost.below hW) (hn'.cost.below hW))
      rw [ht0] at C0
      obtain ⟨t1, ht1⟩ : ∃ t, sxB (C i).lo (vC i).lo = t := ⟨_, rfl⟩
      have C1 := hid (fun W (hW : Below wr.heap.size wr W) => xSame_x (w := W) (hn.lo.below hW) (hn'.lo.below hW))
      rw [ht1] at C1
      obtain ⟨t2, ht2⟩ : ∃ t, sxB (C i).hi (vC i).hi = t := ⟨_, rfl⟩
      have C2 := hid (fun W (hW : Below wr.heap.size wr W) => xSame_x (w := W) (hn.hi.below hW) (hn'.hi.below hW))
      rw [ht2] at C2
      have hT : an = ((decide ((C i).nm = (vC i).nm) && (t0 && (t1 && t2))) && eqf scB C vC r (i + 1) && eqf srB R vR rk 0) := by
        rw [HI.out, hr, ← ht0, ← ht1, ← ht2]; rfl
      obtain ⟨⟨z, ⟨s0, x0, n0, c0, f0, y0, m0, d0, g0⟩, ⟨i1, ⟨s1, x1, n1, c1, f1, y1, m1, d1, g1⟩⟩, ⟨i2, ⟨s2, x2, n2, c2, f2, y2, m2, d2, g2⟩⟩⟩, hCi⟩ : ∃ t, C i = t := ⟨_, rfl⟩
      obtain ⟨⟨vz, ⟨vs0, vx0, vn0, vc0, vf0, vy0, vm0, vd0, vg0⟩, ⟨vi1, ⟨vs1, vx1, vn1, vc1, vf1, vy1, vm1, vd1, vg1⟩⟩, ⟨vi2, ⟨vs2, vx2, vn2, vc2, vf2, vy2, vm2, vd2, vg2⟩⟩⟩, hCi'⟩ : ∃ t, vC i = t := ⟨_, rfl⟩
      rw [hCi] at hc hT C0 C1 C2
      rw [hCi'] at hc' hT C0 C1 C2
      replace hT : an = ((decide (z = vz) && (t0 && (t1 && t2))) && eqf scB C vC r (i + 1) && eqf srB R vR rk 0) := hT
      replace C0 : Hid (∀ W (hW : Below wr.heap.size wr W), Calls Tryz.prog 28 #[.agg #[.bool s0, .slice x0 n0 c0, .slice y0 m0 d0], .agg #[.bool vs0, .slice vx0 vn0 vc0, .slice vy0 vm0 vd0]] W fun r w2 => r = .returned (.bool t0) ∧ Below W.heap.size W w2) := C0
      replace C1 : Hid (∀ W (hW : Below wr.heap.size wr W), Calls Tryz.prog 56 #[.agg #[.int .i64 i1, .bool s1, .slice x1 n1 c1, .slice y1 m1 d1], .agg #[.int .i64 vi1, .bool vs1, .slice vx1 vn1 vc1, .slice vy1 vm1 vd1]] W fun r w2 => r = .returned (.bool t1) ∧ Below W.heap.size W w2) := C1
      replace C2 : Hid (∀ W (hW : Below wr.heap.size wr W), Calls Tryz.prog 56 #[.agg #[.int .i64 i2, .bool s2, .slice x2 n2 c2, .slice y2 m2 d2], .agg #[.int .i64 vi2, .bool vs2, .slice vx2 vn2 vc2, .slice vy2 vm2 vd2]] W fun r w2 => r = .returned (.bool t2) ∧ Below W.heap.size W w2) := C2
      have p0 : wr.cell? ⟨b, o + i * 12, none⟩ = some (.string z) := hc 0 _ rfl
      have p1 : wr.cell? ⟨b, o + i * 12 + 1, none⟩ = some (.bool s0) := hc 1 _ rfl
      have p2 : wr.cell? ⟨b, o + i * 12 + 2, none⟩ = some (.slice x0 n0 c0) := hc 2 _ rfl
      have p3 : wr.cell? ⟨b, o + i * 12 + 3, none⟩ = some (.slice y0 m0 d0) := hc 3 _ rfl
      have p4 : wr.cell? ⟨b, o + i * 12 + 4, none⟩ = some (.int .i64 i1) := hc 4 _ rfl
      have p5 : wr.cell? ⟨b, o + i * 12 + 5, none⟩ = some (.bool s1) := hc 5 _ rfl
      have p6 : wr.cell? ⟨b, o + i * 12 + 6, none⟩ = some (.slice x1 n1 c1) := hc 6 _ rfl
      have p7 : wr.cell? ⟨b, o + i * 12 + 7, none⟩ = some (.slice y1 m1 d1) := hc 7 _ rfl
      have p8 : wr.cell? ⟨b, o + i * 12 + 8, none⟩ = some (.int .i64 i2) := hc 8 _ rfl
      have p9 : wr.cell? ⟨b, o + i * 12 + 9, none⟩ = some (.bool s2) := hc 9 _ rfl
      have p10 : wr.cell? ⟨b, o + i * 12 + 10, none⟩ = some (.slice x2 n2 c2) := hc 10 _ rfl
      have p11 : wr.cell? ⟨b, o + i * 12 + 11, none⟩ = some (.slice y2 m2 d2) := hc 11 _ rfl
      have u0' : wr.cell? ⟨b', o' + i * 12, none⟩ = some (.string vz) := hc' 0 _ rfl
      have u1' : wr.cell? ⟨b', o' + i * 12 + 1, none⟩ = some (.bool vs0) := hc' 1 _ rfl
      have u2' : wr.cell? ⟨b', o' + i * 12 + 2, none⟩ = some (.slice vx0 vn0 vc0) := hc' 2 _ rfl
      have u3' : wr.cell? ⟨b', o' + i * 12 + 3, none⟩ = some (.slice vy0 vm0 vd0) := hc' 3 _ rfl
      have u4' : wr.cell? ⟨b', o' + i * 12 + 4, none⟩ = some (.int .i64 vi1) := hc' 4 _ rfl
      have u5' : wr.cell? ⟨b', o' + i * 12 + 5, none⟩ = some (.bool vs1) := hc' 5 _ rfl
      have u6' : wr.cell? ⟨b', o' + i * 12 + 6, none⟩ = some (.slice vx1 vn1 vc1) := hc' 6 _ rfl
      have u7' : wr.cell? ⟨b', o' + i * 12 + 7, none⟩ = some (.slice vy1 vm1 vd1) := hc' 7 _ rfl
      have u8' : wr.cell? ⟨b', o' + i * 12 + 8, none⟩ = some (.int .i64 vi2) := hc' 8 _ rfl
      have u9' : wr.cell? ⟨b', o' + i * 12 + 9, none⟩ = some (.bool vs2) := hc' 9 _ rfl
      have u10' : wr.cell? ⟨b', o' + i * 12 + 10, none⟩ = some (.slice vx2 vn2 vc2) := hc' 10 _ rfl
      have u11' : wr.cell? ⟨b', o' + i * 12 + 11, none⟩ = some (.slice vy2 vm2 vd2) := hc' 11 _ rfl
      have k9 := (B2.below HB.out).cell (j := 3) rfl
      have hkl := (B2.below HB.out).lt
      have hcl := World.block_lt_of_cell? wr _ u0'
      replace hcl : b' < wr.heap.size := hcl
      have k95 : (wr.alloc (.cells #[.string z, .bool s0, .slice x0 n0 c0, .slice y0 m0 d0, .int .i64 i1, .bool s1, .slice x1 n1 c1, .slice y1 m1 d1, .int .i64 i2, .bool s2, .slice x2 n2 c2, .slice y2 m2 d2] 77)).cell? ⟨w.heap.size + 1, 3, none⟩ = some (.slice (some ⟨b', o', none⟩) ck vcc) := kCa k9
      have u05 : (wr.alloc (.cells #[.string z, .bool s0, .slice x0 n0 c0, .slice y0 m0 d0, .int .i64 i1, .bool s1, .slice x1 n1 c1, .slice y1 m1 d1, .int .i64 i2, .bool s2, .slice x2 n2 c2, .slice y2 m2 d2] 77)).cell? ⟨b', o' + i * 12, none⟩ = some (.string vz) := kCa u0'
      have u15 : (wr.alloc (.cells #[.string z, .bool s0, .slice x0 n0 c0, .slice y0 m0 d0, .int .i64 i1, .bool s1, .slice x1 n1 c1, .slice y1 m1 d1, .int .i64 i2, .bool s2, .slice x2 n2 c2, .slice y2 m2 d2] 77)).cell? ⟨b', o' + i * 12 + 1, none⟩ = some (.bool vs0) := kCa u1'
      have u25 : (wr.alloc (.cells #[.string z, .bool s0, .slice x0 n0 c0, .slice y0 m0 d0, .int .i64 i1, .bool s1, .slice x1 n1 c1, .slice y1 m1 d1, .int .i64 i2, .bool s2, .slice x2 n2 c2, .slice y2 m2 d2] 77)).cell? ⟨b', o' + i * 12 + 2, none⟩ = some (.slice vx0 vn0 vc0) := kCa u2'
      have u35 : (wr.alloc (.cells #[.string z, .bool s0, .slice x0 n0 c0, .slice y0 m0 d0, .int .i64 i1, .bool s1, .slice x1 n1 c1, .slice y1 m1 d1, .int .i64 i2, .bool s2, .slice x2 n2 c2, .slice y2 m2 d2] 77)).cell? ⟨b', o' + i * 12 + 3, none⟩ = some (.slice vy0 vm0 vd0) := kCa u3'
      have u45 : (wr.alloc (.cells #[.string z, .bool s0, .slice x0 n0 c0, .slice y0 m0 d0, .int .i64 i1, .bool s1, .slice x1 n1 c1, .slice y1 m1 d1, .int .i64 i2, .bool s2, .slice x2 n2 c2, .slice y2 m2 d2] 77)).cell? ⟨b', o' + i * 12 + 4, none⟩ = some (.int .i64 vi1) := kCa u4'
      have u55 : (wr.alloc (.cells #[.string z, .bool s0, .slice x0 n0 c0, .slice y0 m0 d0, .int .i64 i1, .bool s1, .slice x1 n1 c1, .slice y1 m1 d1, .int .i64 i2, .bool s2, .slice x2 n2 c2, .slice y2 m2 d2] 77)).cell? ⟨b', o' + i * 12 + 5, none⟩ = some (.bool vs1) := kCa u5'
      have u65 : (wr.alloc (.cells #[.string z, .bool s0, .slice x0 n0 c0, .slice y0 m0 d0, .int .i64 i1, .bool s1, .slice x1 n1 c1, .slice y1 m1 d1, .int .i64 i2, .bool s2, .slice x2 n2 c2, .slice y2 m2 d2] 77)).cell? ⟨b', o' + i * 12 + 6, none⟩ = some (.slice vx1 vn1 vc1) := kCa u6'
      have u75 : (wr.alloc (.cells #[.string z, .bool s0, .slice x0 n0 c0, .slice y0 m0 d0, .int .i64 i1, .bool s1, .slice x1 n1 c1, .slice y1 m1 d1, .int .i64 i2, .bool s2, .slice x2 n2 c2, .slice y2 m2 d2] 77)).cell? ⟨b', o' + i * 12 + 7, none⟩ = some (.slice vy1 vm1 vd1) := kCa u7'
      have u85 : (wr.alloc (.cells #[.string z, .bool s0, .slice x0 n0 c0, .slice y0 m0 d0, .int .i64 i1, .bool s1, .slice x1 n1 c1, .slice y1 m1 d1, .int .i64 i2, .bool s2, .slice x2 n2 c2, .slice y2 m2 d2] 77)).cell? ⟨b', o' + i * 12 + 8, none⟩ = some (.int .i64 vi2) := kCa u8'
      have u95 : (wr.alloc (.cells #[.string z, .bool s0, .slice x0 n0 c0, .slice y0 m0 d0, .int .i64 i1, .bool s1, .slice x1 n1 c1, .slice y1 m1 d1, .int .i64 i2, .bool s2, .slice x2 n2 c2, .slice y2 m2 d2] 77)).cell? ⟨b', o' + i * 12 + 9, none⟩ = some (.bool vs2) := kCa u9'
      have u105 : (wr.alloc (.cells #[.string z, .bool s0, .slice x0 n0 c0, .slice y0 m0 d0, .int .i64 i1, .bool s1, .slice x1 n1 c1, .slice y1 m1 d1, .int .i64 i2, .bool s2, .slice x2 n2 c2, .slice y2 m2 d2] 77)).cell? ⟨b', o' + i * 12 + 10, none⟩ = some (.slice vx2 vn2 vc2) := kCa u10'
      have u115 : (wr.alloc (.cells #[.string z, .bool s0, .slice x0 n0 c0, .slice y0 m0 d0, .int .i64 i1, .bool s1, .slice x1 n1 c1, .slice y1 m1 d1, .int .i64 i2, .bool s2, .slice x2 n2 c2, .slice y2 m2 d2] 77)).cell? ⟨b', o' + i * 12 + 11, none⟩ = some (.slice vy2 vm2 vd2) := kCa u11'
      have i1' : ((i : Nat) : Int) < ((ck : Nat) : Int) := by omega
      have HRR := hid hr2
      have HT := hid hT
      clear hCi hCi' hc hc' hn hn' hr hr2 hT HI ht0 ht1 ht2
      go_upto_region 7 with fail
      have h5 := below_alloc (below_alloc (Below.refl wr.heap.size wr) (.cells #[.string z, .bool s0, .slice x0 n0 c0, .slice y0 m0 d0, .int .i64 i1, .bool s1, .slice x1 n1 c1, .slice y1 m1 d1, .int .i64 i2, .bool s2, .slice x2 n2 c2, .slice y2 m2 d2] 77)) (.cells #[.string vz, .bool vs0, .slice vx0 vn0 vc0, .slice vy0 vm0 vd0, .int .i64 vi1, .bool vs1, .slice vx1 vn1 vc1, .slice vy1 vm1 vd1, .int .i64 vi2, .bool vs2, .slice vx2 vn2 vc2, .slice vy2 vm2 vd2] 77)
      have D1 := (bk_new wr [.string z, .bool s0, .slice x0 n0 c0, .slice y0 m0 d0, .int .i64 i1, .bool s1, .slice x1 n1 c1, .slice y1 m1 d1, .int .i64 i2, .bool s2, .slice x2 n2 c2, .slice y2 m2 d2] 77).below (below_alloc (Below.refl _ _) (.cells #[.string vz, .bool vs0, .slice vx0 vn0 vc0, .slice vy0 vm0 vd0, .int .i64 vi1, .bool vs1, .slice vx1 vn1 vc1, .slice vy1 vm1 vd1, .int .i64 vi2, .bool vs2, .slice vx2 vn2 vc2, .slice vy2 vm2 vd2] 77))
      have D2 := bk_new (wr.alloc (.cells #[.string z, .bool s0, .slice x0 n0 c0, .slice y0 m0 d0, .int .i64 i1, .bool s1, .slice x1 n1 c1, .slice y1 m1 d1, .int .i64 i2, .bool s2, .slice x2 n2 c2, .slice y2 m2 d2] 77)) [.string vz, .bool vs0, .slice vx0 vn0 vc0, .slice vy0 vm0 vd0, .int .i64 vi1, .bool vs1, .slice vx1 vn1 vc1, .slice vy1 vm1 vd1, .int .i64 vi2, .bool vs2, .slice vx2 vn2 vc2, .slice vy2 vm2 vd2] 77
      rw [size_alloc1] at D2
      replace D1 : Bk ((wr.alloc (.cells #[.string z, .bool s0, .slice x0 n0 c0, .slice y0 m0 d0, .int .i64 i1, .bool s1, .slice x1 n1 c1, .slice y1 m1 d1, .int .i64 i2, .bool s2, .slice x2 n2 c2, .slice y2 m2 d2] 77)).alloc (.cells #[.string vz, .bool vs0, .slice vx0 vn0 vc0, .slice vy0 vm0 vd0, .int .i64 vi1, .bool vs1, .slice vx1 vn1 vc1, .slice vy1 vm1 vd1, .int .i64 vi2, .bool vs2, .slice vx2 vn2 vc2, .slice vy2 vm2 vd2] 77)) wr.heap.size [.string z, .bool s0, .slice x0 n0 c0, .slice y0 m0 d0, .int .i64 i1, .bool s1, .slice x1 n1 c1, .slice y1 m1 d1, .int .i64 i2, .bool s2, .slice x2 n2 c2, .slice y2 m2 d2] 77 := D1
      replace D2 : Bk ((wr.alloc (.cells #[.string z, .bool s0, .slice x0 n0 c0, .slice y0 m0 d0, .int .i64 i1, .bool s1, .slice x1 n1 c1, .slice y1 m1 d1, .int .i64 i2, .bool s2, .slice x2 n2 c2, .slice y2 m2 d2] 77)).alloc (.cells #[.string vz, .bool vs0, .slice vx0 vn0 vc0, .slice vy0 vm0 vd0, .int .i64 vi1, .bool vs1, .slice vx1 vn1 vc1, .slice vy1 vm1 vd1, .int .i64 vi2, .bool vs2, .slice vx2 vn2 vc2, .slice vy2 vm2 vd2] 77)) (wr.heap.size + 1) [.string vz, .bool vs0, .slice vx0 vn0 vc0, .slice vy0 vm0 vd0, .int .i64 vi1, .bool vs1, .slice vx1 vn1 vc1, .slice vy1 vm1 vd1, .int .i64 vi2, .bool vs2, .slice vx2 vn2 vc2, .slice vy2 vm2 vd2] 77 := D2
      clear p0 p1 p2 p3 p4 p5 p6 p7 p8 p9 p10 p11 u0' u1' u2' u3' u4' u5' u6' u7' u8' u9' u10' u11' u05 u15 u25 u35 u45 u55 u65 u75 u85 u95 u105 u115 k9 k95
      generalize (wr.alloc (.cells #[.string z, .bool s0, .slice x0 n0 c0, .slice y0 m0 d0, .int .i64 i1, .bool s1, .slice x1 n1 c1, .slice y1 m1 d1, .int .i64 i2, .bool s2, .slice x2 n2 c2, .slice y2 m2 d2] 77)).alloc (.cells #[.string vz, .bool vs0, .slice vx0 vn0 vc0, .slice vy0 vm0 vd0, .int .i64 vi1, .bool vs1, .slice vx1 vn1 vc1, .slice vy1 vm1 vd1, .int .i64 vi2, .bool vs2, .slice vx2 vn2 vc2, .slice vy2 vm2 vd2] 77) = w5 at *
      have a0 := D1.cell (j := 0) rfl
      have a1 := D1.cell (j := 1) rfl
      have a2 := D1.cell (j := 2) rfl
      have a3 := D1.cell (j := 3) rfl
      have a4 := D1.cell (j := 4) rfl
      have a5 := D1.cell (j := 5) rfl
      have a6 := D1.cell (j := 6) rfl
      have a7 := D1.cell (j := 7) rfl
      have a8 := D1.cell (j := 8) rfl
      have a9 := D1.cell (j := 9) rfl
      have a10 := D1.cell (j := 10) rfl
      have a11 := D1.cell (j := 11) rfl
      have b0 := D2.cell (j := 0) rfl
      have b1 := D2.cell (j := 1) rfl
      have b2 := D2.cell (j := 2) rfl
      have b3 := D2.cell (j := 3) rfl
      have b4 := D2.cell (j := 4) rfl
      have b5 := D2.cell (j := 5) rfl
      have b6 := D2.cell (j := 6) rfl
      have b7 := D2.cell (j := 7) rfl
      have b8 := D2.cell (j := 8) rfl
      have b9 := D2.cell (j := 9) rfl
      have b10 := D2.cell (j := 10) rfl
      have b11 := D2.cell (j := 11) rfl
      by_cases hz : z = vz
      case neg =>
        have hne := str_ne hz
        have HF := hid (show an = false from by rw [HT.out]; simp [hz])
        go_wp2
        go_ret
        exact ⟨by rw [HF.out]; rfl, HW.out.trans ((HB.out.trans ((h5).mono HB.out.size)).mono HW.out.size)⟩
      subst hz
      replace HT := hid (show an = ((t0 && (t1 && t2)) && eqf scB C vC r (i + 1) && eqf srB R vR rk 0) from by rw [HT.out]; simp)
      go_wp2_with fail
      refine (C0.out _ h5).mono ?_
      rintro e w6 ⟨rfl, hb6⟩
      have h51 := hid (h5.trans (hb6.mono h5.size))
      replace D1 := D1.below hb6; replace D2 := D2.below hb6
      clear a0 a1 a2 a3 a4 a5 a6 a7 a8 a9 a10 a11 b0 b1 b2 b3 b4 b5 b6 b7 b8 b9 b10 b11 C0 hb6
      cases t0
      · have HF := hid (show an = false from by rw [HT.out]; simp)
        go_wp2
        go_ret
        exact ⟨by rw [HF.out]; rfl, HW.out.trans ((HB.out.trans ((h51.out).mono HB.out.size)).mono HW.out.size)⟩
      have a0 := D1.cell (j := 0) rfl
      have a1 := D1.cell (j := 1) rfl
      have a2 := D1.cell (j := 2) rfl
      have a3 := D1.cell (j := 3) rfl
      have a4 := D1.cell (j := 4) rfl
      have a5 := D1.cell (j := 5) rfl
      have a6 := D1.cell (j := 6) rfl
      have a7 := D1.cell (j := 7) rfl
      have a8 := D1.cell (j := 8) rfl
      have a9 := D1.cell (j := 9) rfl
      have a10 := D1.cell (j := 10) rfl
      have a11 := D1.cell (j := 11) rfl
      have b0 := D2.cell (j := 0) rfl
      have b1 := D2.cell (j := 1) rfl
      have b2 := D2.cell (j := 2) rfl
      have b3 := D2.cell (j := 3) rfl
      have b4 := D2.cell (j := 4) rfl
      have b5 := D2.cell (j := 5) rfl
      have b6 := D2.cell (j := 6) rfl
      have b7 := D2.cell (j := 7) rfl
      have b8 := D2.cell (j := 8) rfl
      have b9 := D2.cell (j := 9) rfl
      have b10 := D2.cell (j := 10) rfl
      have b11 := D2.cell (j := 11) rfl
      go_wp2_with fail
      refine (C1.out _ h51.out).mono ?_
      rintro e w7 ⟨rfl, hb7⟩
      have h52 := hid (h51.out.trans (hb7.mono h51.out.size))
      replace D1 := D1.below hb7; replace D2 := D2.below hb7
      clear a0 a1 a2 a3 a4 a5 a6 a7 a8 a9 a10 a11 b0 b1 b2 b3 b4 b5 b6 b7 b8 b9 b10 b11 C1 hb7
      cases t1
      · have HF := hid (show an = false from by rw [HT.out]; simp)
        go_wp2
        go_ret
        exact ⟨by rw [HF.out]; rfl, HW.out.trans ((HB.out.trans ((h52.out).mono HB.out.size)).mono HW.out.size)⟩
      have a0 := D1.cell (j := 0) rfl
      have a1 := D1.cell (j := 1) rfl
      have a2 := D1.cell (j := 2) rfl
      have a3 := D1.cell (j := 3) rfl
      have a4 := D1.cell (j := 4) rfl
      have a5 := D1.cell (j := 5) rfl
      have a6 := D1.cell (j := 6) rfl
      have a7 := D1.cell (j := 7) rfl
      have a8 := D1.cell (j := 8) rfl
      have a9 := D1.cell (j := 9) rfl
      have a10 := D1.cell (j := 10) rfl
      have a11 := D1.cell (j := 11) rfl
      have b0 := D2.cell (j := 0) rfl
      have b1 := D2.cell (j := 1) rfl
      have b2 := D2.cell (j := 2) rfl
      have b3 := D2.cell (j := 3) rfl
      have b4 := D2.cell (j := 4) rfl
      have b5 := D2.cell (j := 5) rfl
      have b6 := D2.cell (j := 6) rfl
      have b7 := D2.cell (j := 7) rfl
      have b8 := D2.cell (j := 8) rfl
      have b9 := D2.cell (j := 9) rfl
      have b10 := D2.cell (j := 10) rfl
      have b11 := D2.cell (j := 11) rfl
      go_wp2_with fail
      refine (C2.out _ h52.out).mono ?_
      rintro e w8 ⟨rfl, hb8⟩
      have h53 := hid (h52.out.trans (hb8.mono h52.out.size))
      replace D1 := D1.below hb8; replace D2 := D2.below hb8
      clear a0 a1 a2 a3 a4 a5 a6 a7 a8 a9 a10 a11 b0 b1 b2 b3 b4 b5 b6 b7 b8 b9 b10 b11 C2 hb8
      cases t2
      · have HF := hid (show an = false from by rw [HT.out]; simp)
        go_wp2
        go_ret
        exact ⟨by rw [HF.out]; rfl, HW.out.trans ((HB.out.trans ((h53.out).mono HB.out.size)).mono HW.out.size)⟩
      have HB9 := hid (HB.out.trans (h53.out.mono HB.out.size))
      go_wp2
      go_roundw
      case rel => exact ⟨i + 1, by omega, by go_num, HB9.out, by show _ = _; rw [HT.out, HRR.out]; simp⟩
      case measure => simp [intOf]; omega
    · have e3 : i = ck := by omega
      have i2 : ¬ (((i : Nat) : Int) < ((ck : Nat) : Int)) := by omega
      have HA2 := hid (show an = eqf srB R vR rk 0 from by rw [HI.out, e3, Nat.sub_self]; rfl)
      have HW2 := hid (HW.out.trans (HB.out.mono HW.out.size))
      replace B1 := B1.below HB.out; replace B2 := B2.below HB.out
      clear e3 HI HB HC HC'
      have r0 := B1.cell (j := 0) rfl
      have r1 := B1.cell (j := 1) rfl
      have r2 := B1.cell (j := 2) rfl
      have r3 := B1.cell (j := 3) rfl
      have r4 := B1.cell (j := 4) rfl
      have q0 := B2.cell (j := 0) rfl
      have q1 := B2.cell (j := 1) rfl
      have q2 := B2.cell (j := 2) rfl
      have q3 := B2.cell (j := 3) rfl
      have q4 := B2.cell (j := 4) rfl
      generalize wr = wa at *
      go_wp2_with fail
      go_loopw [81] (fun t wr => ∃ (i : Nat), i ≤ rk ∧ t = .int .i64 i ∧ Hid (Below wa.heap.size wa wr) ∧ Hid (an = eqf srB R vR (rk - i) i)) (fun t _ => rk - (intOf t).toNat)
      case atStart => exact ⟨0, by omega, rfl, Below.refl _ _, HA2.out⟩
      case round =>
        obtain ⟨i, hi, rfl, HB, HI⟩ := hrel
        clear HA2 r0 r1 r2 r3 r4 q0 q1 q2 q3 q4
        by_cases hlt : i < rk
        · obtain ⟨b, o, rfl, hc, hn⟩ := (HR.out.below (HW2.out.trans (HB.out.mono HW2.out.size))) i hlt
          obtain ⟨b', o', rfl, hc', hn'⟩ := (HR'.out.below (HW2.out.trans (HB.out.mono HW2.out.size))) i hlt
          obtain ⟨r, hr⟩ : ∃ r, rk - i = r + 1 := ⟨rk - i - 1, by omega⟩
          have hr2 : rk - (i + 1) = r := by omega
          obtain ⟨t0, ht0⟩ : ∃ t, sxB (R i).lo (vR i).lo = t := ⟨_, rfl⟩
          have C0 := hid (fun W (hW : Below wr.heap.size wr W) => xSame_x (w := W) (hn.lo.below hW) (hn'.lo.below hW))
          rw [ht0] at C0
          obtain ⟨t1, ht1⟩ : ∃ t, sxB (R i).hi (vR i).hi = t := ⟨_, rfl⟩
          have C1 := hid (fun W (hW : Below wr.heap.size wr W) => xSame_x (w := W) (hn.hi.below hW) (hn'.hi.below hW))
          rw [ht1] at C1
          obtain ⟨t2, ht2⟩ : ∃ t, eqfB sxB (R i).tk (vR i).tk (tex (R i).col (R i).T) (tex (vR i).col (vR i).T) = t := ⟨_, rfl⟩
          have C2 := hid (fun W (hW : Below wr.heap.size wr W) => vSame_x (w := W) (ca := (R i).tc) (cb := (vR i).tc) (hn.tl.below hW) (hn'.tl.below hW) hn.tk hn'.tk)
          rw [ht2] at C2
          have hT : an = ((decide ((R i).nm = (vR i).nm) && (t0 && (t1 && t2))) && eqf srB R vR r (i + 1)) := by
            rw [HI.out, hr, ← ht0, ← ht1, ← ht2]; rfl
          obtain ⟨⟨z, ⟨i1, ⟨s1, x1, n1, c1, f1, y1, m1, d1, g1⟩⟩, ⟨i2, ⟨s2, x2, n2, c2, f2, y2, m2, d2, g2⟩⟩, ta, tk, tc, tcol, tt⟩, hCi⟩ : ∃ t, R i = t := ⟨_, rfl⟩
          obtain ⟨⟨vz, ⟨vi1, ⟨vs1, vx1, vn1, vc1, vf1, vy1, vm1, vd1, vg1⟩⟩, ⟨vi2, ⟨vs2, vx2, vn2, vc2, vf2, vy2, vm2, vd2, vg2⟩⟩, vta, vtk, vtc, vtcol, vtt⟩, hCi'⟩ : ∃ t, vR i = t := ⟨_, rfl⟩
          rw [hCi] at hc hT C0 C1 C2
          rw [hCi'] at hc' hT C0 C1 C2
          replace hT : an = ((decide (z = vz) && (t0 && (t1 && t2))) && eqf srB R vR r (i + 1)) := hT
          replace C0 : Hid (∀ W (hW : Below wr.heap.size wr W), Calls Tryz.prog 56 #[.agg #[.int .i64 i1, .bool s1, .slice x1 n1 c1, .slice y1 m1 d1], .agg #[.int .i64 vi1, .bool vs1, .slice vx1 vn1 vc1, .slice vy1 vm1 vd1]] W fun r w2 => r = .returned (.bool t0) ∧ Below W.heap.size W w2) := C0
          replace C1 : Hid (∀ W (hW : Below wr.heap.size wr W), Calls Tryz.prog 56 #[.agg #[.int .i64 i2, .bool s2, .slice x2 n2 c2, .slice y2 m2 d2], .agg #[.int .i64 vi2, .bool vs2, .slice vx2 vn2 vc2, .slice vy2 vm2 vd2]] W fun r w2 => r = .returned (.bool t1) ∧ Below W.heap.size W w2) := C1
          replace C2 : Hid (∀ W (hW : Below wr.heap.size wr W), Calls Tryz.prog 54 #[.slice ta tk tc, .slice vta vtk vtc] W fun r w2 => r = .returned (.bool t2) ∧ Below W.heap.size W w2) := C2
          have p0 : wr.cell? ⟨b, o + i * 10, none⟩ = some (.string z) := hc 0 _ rfl
          have p1 : wr.cell? ⟨b, o + i * 10 + 1, none⟩ = some (.int .i64 i1) := hc 1 _ rfl
          have p2 : wr.cell? ⟨b, o + i * 10 + 2, none⟩ = some (.bool s1) := hc 2 _ rfl
          have p3 : wr.cell? ⟨b, o + i * 10 + 3, none⟩ = some (.slice x1 n1 c1) := hc 3 _ rfl
          have p4 : wr.cell? ⟨b, o + i * 10 + 4, none⟩ = some (.slice y1 m1 d1) := hc 4 _ rfl
          have p5 : wr.cell? ⟨b, o + i * 10 + 5, none⟩ = some (.int .i64 i2) := hc 5 _ rfl
          have p6 : wr.cell? ⟨b, o + i * 10 + 6, none⟩ = some (.bool s2) := hc 6 _ rfl
          have p7 : wr.cell? ⟨b, o + i * 10 + 7, none⟩ = some (.slice x2 n2 c2) := hc 7 _ rfl
          have p8 : wr.cell? ⟨b, o + i * 10 + 8, none⟩ = some (.slice y2 m2 d2) := hc 8 _ rfl
          have p9 : wr.cell? ⟨b, o + i * 10 + 9, none⟩ = some (.slice ta tk tc) := hc 9 _ rfl
          have u0' : wr.cell? ⟨b', o' + i * 10, none⟩ = some (.string vz) := hc' 0 _ rfl
          have u1' : wr.cell? ⟨b', o' + i * 10 + 1, none⟩ = some (.int .i64 vi1) := hc' 1 _ rfl
          have u2' : wr.cell? ⟨b', o' + i * 10 + 2, none⟩ = some (.bool vs1) := hc' 2 _ rfl
          have u3' : wr.cell? ⟨b', o' + i * 10 + 3, none⟩ = some (.slice vx1 vn1 vc1) := hc' 3 _ rfl
          have u4' : wr.cell? ⟨b', o' + i * 10 + 4, none⟩ = some (.slice vy1 vm1 vd1) := hc' 4 _ rfl
          have u5' : wr.cell? ⟨b', o' + i * 10 + 5, none⟩ = some (.int .i64 vi2) := hc' 5 _ rfl
          have u6' : wr.cell? ⟨b', o' + i * 10 + 6, none⟩ = some (.bool vs2) := hc' 6 _ rfl
          have u7' : wr.cell? ⟨b', o' + i * 10 + 7, none⟩ = some (.slice vx2 vn2 vc2) := hc' 7 _ rfl
          have u8' : wr.cell? ⟨b', o' + i * 10 + 8, none⟩ = some (.slice vy2 vm2 vd2) := hc' 8 _ rfl
          have u9' : wr.cell? ⟨b', o' + i * 10 + 9, none⟩ = some (.slice vta vtk vtc) := hc' 9 _ rfl
          have k9 := (B2.below HB.out).cell (j := 4) rfl
          have hkl := (B2.below HB.out).lt
          have hcl := World.block_lt_of_cell? wr _ u0'
          replace hcl : b' < wr.heap.size := hcl
          have k95 : (wr.alloc (.cells #[.string z, .int .i64 i1, .bool s1, .slice x1 n1 c1, .slice y1 m1 d1, .int .i64 i2, .bool s2, .slice x2 n2 c2, .slice y2 m2 d2, .slice ta tk tc] 75)).cell? ⟨w.heap.size + 1, 4, none⟩ = some (.slice (some ⟨b', o', none⟩) rk vrc) := kCa k9
          have u05 : (wr.alloc (.cells #[.string z, .int .i64 i1, .bool s1, .slice x1 n1 c1, .slice y1 m1 d1, .int .i64 i2, .bool s2, .slice x2 n2 c2, .slice y2 m2 d2, .slice ta tk tc] 75)).cell? ⟨b', o' + i * 10, none⟩ = some (.string vz) := kCa u0'
          have u15 : (wr.alloc (.cells #[.string z, .int .i64 i1, .bool s1, .slice x1 n1 c1, .slice y1 m1 d1, .int .i64 i2, .bool s2, .slice x2 n2 c2, .slice y2 m2 d2, .slice ta tk tc] 75)).cell? ⟨b', o' + i * 10 + 1, none⟩ = some (.int .i64 vi1) := kCa u1'
          have u25 : (wr.alloc (.cells #[.string z, .int .i64 i1, .bool s1, .slice x1 n1 c1, .slice y1 m1 d1, .int .i64 i2, .bool s2, .slice x2 n2 c2, .slice y2 m2 d2, .slice ta tk tc] 75)).cell? ⟨b', o' + i * 10 + 2, none⟩ = some (.bool vs1) := kCa u2'
          have u35 : (wr.alloc (.cells #[.string z, .int .i64 i1, .bool s1, .slice x1 n1 c1, .slice y1 m1 d1, .int .i64 i2, .bool s2, .slice x2 n2 c2, .slice y2 m2 d2, .slice ta tk tc] 75)).cell? ⟨b', o' + i * 10 + 3, none⟩ = some (.slice vx1 vn1 vc1) := kCa u3'
          have u45 : (wr.alloc (.cells #[.string z, .int .i64 i1, .bool s1, .slice x1 n1 c1, .slice y1 m1 d1, .int .i64 i2, .bool s2, .slice x2 n2 c2, .slice y2 m2 d2, .slice ta tk tc] 75)).cell? ⟨b', o' + i * 10 + 4, none⟩ = some (.slice vy1 vm1 vd1) := kCa u4'
          have u55 : (wr.alloc (.cells #[.string z, .int .i64 i1, .bool s1, .slice x1 n1 c1, .slice y1 m1 d1, .int .i64 i2, .bool s2, .slice x2 n2 c2, .slice y2 m2 d2, .slice ta tk tc] 75)).cell? ⟨b', o' + i * 10 + 5, none⟩ = some (.int .i64 vi2) := kCa u5'
          have u65 : (wr.alloc (.cells #[.string z, .int .i64 i1, .bool s1, .slice x1 n1 c1, .slice y1 m1 d1, .int .i64 i2, .bool s2, .slice x2 n2 c2, .slice y2 m2 d2, .slice ta tk tc] 75)).cell? ⟨b', o' + i * 10 + 6, none⟩ = some (.bool vs2) := kCa u6'
          have u75 : (wr.alloc (.cells #[.string z, .int .i64 i1, .bool s1, .slice x1 n1 c1, .slice y1 m1 d1, .int .i64 i2, .bool s2, .slice x2 n2 c2, .slice y2 m2 d2, .slice ta tk tc] 75)).cell? ⟨b', o' + i * 10 + 7, none⟩ = some (.slice vx2 vn2 vc2) := kCa u7'
          have u85 : (wr.alloc (.cells #[.string z, .int .i64 i1, .bool s1, .slice x1 n1 c1, .slice y1 m1 d1, .int .i64 i2, .bool s2, .slice x2 n2 c2, .slice y2 m2 d2, .slice ta tk tc] 75)).cell? ⟨b', o' + i * 10 + 8, none⟩ = some (.slice vy2 vm2 vd2) := kCa u8'
          have u95 : (wr.alloc (.cells #[.string z, .int .i64 i1, .bool s1, .slice x1 n1 c1, .slice y1 m1 d1, .int .i64 i2, .bool s2, .slice x2 n2 c2, .slice y2 m2 d2, .slice ta tk tc] 75)).cell? ⟨b', o' + i * 10 + 9, none⟩ = some (.slice vta vtk vtc) := kCa u9'
          have i1' : ((i : Nat) : Int) < ((rk : Nat) : Int) := by omega
          have HRR := hid hr2
          have HT := hid hT
          clear hCi hCi' hc hc' hn hn' hr hr2 hT HI ht0 ht1 ht2
          go_upto_region 14 with fail
          have h5 := below_alloc (below_alloc (Below.refl wr.heap.size wr) (.cells #[.string z, .int .i64 i1, .bool s1, .slice x1 n1 c1, .slice y1 m1 d1, .int .i64 i2, .bool s2, .slice x2 n2 c2, .slice y2 m2 d2, .slice ta tk tc] 75)) (.cells #[.string vz, .int .i64 vi1, .bool vs1, .slice vx1 vn1 vc1, .slice vy1 vm1 vd1, .int .i64 vi2, .bool vs2, .slice vx2 vn2 vc2, .slice vy2 vm2 vd2, .slice vta vtk vtc] 75)
          have D1 := (bk_new wr [.string z, .int .i64 i1, .bool s1, .slice x1 n1 c1, .slice y1 m1 d1, .int .i64 i2, .bool s2, .slice x2 n2 c2, .slice y2 m2 d2, .slice ta tk tc] 75).below (below_alloc (Below.refl _ _) (.cells #[.string vz, .int .i64 vi1, .bool vs1, .slice vx1 vn1 vc1, .slice vy1 vm1 vd1, .int .i64 vi2, .bool vs2, .slice vx2 vn2 vc2, .slice vy2 vm2 vd2, .slice vta vtk vtc] 75))
          have D2 := bk_new (wr.alloc (.cells #[.string z, .int .i64 i1, .bool s1, .slice x1 n1 c1, .slice y1 m1 d1, .int .i64 i2, .bool s2, .slice x2 n2 c2, .slice y2 m2 d2, .slice ta tk tc] 75)) [.string vz, .int .i64 vi1, .bool vs1, .slice vx1 vn1 vc1, .slice vy1 vm1 vd1, .int .i64 vi2, .bool vs2, .slice vx2 vn2 vc2, .slice vy2 vm2 vd2, .slice vta vtk vtc] 75
          rw [size_alloc1] at D2
          replace D1 : Bk ((wr.alloc (.cells #[.string z, .int .i64 i1, .bool s1, .slice x1 n1 c1, .slice y1 m1 d1, .int .i64 i2, .bool s2, .slice x2 n2 c2, .slice y2 m2 d2, .slice ta tk tc] 75)).alloc (.cells #[.string vz, .int .i64 vi1, .bool vs1, .slice vx1 vn1 vc1, .slice vy1 vm1 vd1, .int .i64 vi2, .bool vs2, .slice vx2 vn2 vc2, .slice vy2 vm2 vd2, .slice vta vtk vtc] 75)) wr.heap.size [.string z, .int .i64 i1, .bool s1, .slice x1 n1 c1, .slice y1 m1 d1, .int .i64 i2, .bool s2, .slice x2 n2 c2, .slice y2 m2 d2, .slice ta tk tc] 75 := D1
          replace D2 : Bk ((wr.alloc (.cells #[.string z, .int .i64 i1, .bool s1, .slice x1 n1 c1, .slice y1 m1 d1, .int .i64 i2, .bool s2, .slice x2 n2 c2, .slice y2 m2 d2, .slice ta tk tc] 75)).alloc (.cells #[.string vz, .int .i64 vi1, .bool vs1, .slice vx1 vn1 vc1, .slice vy1 vm1 vd1, .int .i64 vi2, .bool vs2, .slice vx2 vn2 vc2, .slice vy2 vm2 vd2, .slice vta vtk vtc] 75)) (wr.heap.size + 1) [.string vz, .int .i64 vi1, .bool vs1, .slice vx1 vn1 vc1, .slice vy1 vm1 vd1, .int .i64 vi2, .bool vs2, .slice vx2 vn2 vc2, .slice vy2 vm2 vd2, .slice vta vtk vtc] 75 := D2
          clear p0 p1 p2 p3 p4 p5 p6 p7 p8 p9 u0' u1' u2' u3' u4' u5' u6' u7' u8' u9' u05 u15 u25 u35 u45 u55 u65 u75 u85 u95 k9 k95
          generalize (wr.alloc (.cells #[.string z, .int .i64 i1, .bool s1, .slice x1 n1 c1, .slice y1 m1 d1, .int .i64 i2, .bool s2, .slice x2 n2 c2, .slice y2 m2 d2, .slice ta tk tc] 75)).alloc (.cells #[.string vz, .int .i64 vi1, .bool vs1, .slice vx1 vn1 vc1, .slice vy1 vm1 vd1, .int .i64 vi2, .bool vs2, .slice vx2 vn2 vc2, .slice vy2 vm2 vd2, .slice vta vtk vtc] 75) = w5 at *
          have a0 := D1.cell (j := 0) rfl
          have a1 := D1.cell (j := 1) rfl
          have a2 := D1.cell (j := 2) rfl
          have a3 := D1.cell (j := 3) rfl
          have a4 := D1.cell (j := 4) rfl
          have a5 := D1.cell (j := 5) rfl
          have a6 := D1.cell (j := 6) rfl
          have a7 := D1.cell (j := 7) rfl
          have a8 := D1.cell (j := 8) rfl
          have a9 := D1.cell (j := 9) rfl
          have b0 := D2.cell (j := 0) rfl
          have b1 := D2.cell (j := 1) rfl
          have b2 := D2.cell (j := 2) rfl
          have b3 := D2.cell (j := 3) rfl
          have b4 := D2.cell (j := 4) rfl
          have b5 := D2.cell (j := 5) rfl
          have b6 := D2.cell (j := 6) rfl
          have b7 := D2.cell (j := 7) rfl
          have b8 := D2.cell (j := 8) rfl
          have b9 := D2.cell (j := 9) rfl
          by_cases hz : z = vz
          case neg =>
            have hne := str_ne hz
            have HF := hid (show an = false from by rw [HT.out]; simp [hz])
            go_wp2
            go_ret
            exact ⟨by rw [HF.out]; rfl, HW2.out.trans ((HB.out.trans ((h5).mono HB.out.size)).mono HW2.out.size)⟩
          subst hz
          replace HT := hid (show an = ((t0 && (t1 && t2)) && eqf srB R vR r (i + 1)) from by rw [HT.out]; simp)
          go_wp2_with fail
          refine (C0.out _ h5).mono ?_
          rintro e w6 ⟨rfl, hb6⟩
          have h51 := hid (h5.trans (hb6.mono h5.size))
          replace D1 := D1.below hb6; replace D2 := D2.below hb6
          clear a0 a1 a2 a3 a4 a5 a6 a7 a8 a9 b0 b1 b2 b3 b4 b5 b6 b7 b8 b9 C0 hb6
          cases t0
          · have HF := hid (show an = false from by rw [HT.out]; simp)
            go_wp2
            go_ret
            exact ⟨by rw [HF.out]; rfl, HW2.out.trans ((HB.out.trans ((h51.out).mono HB.out.size)).mono HW2.out.size)⟩
          have a0 := D1.cell (j := 0) rfl
          have a1 := D1.cell (j := 1) rfl
          have a2 := D1.cell (j := 2) rfl
          have a3 := D1.cell (j := 3) rfl
          have a4 := D1.cell (j := 4) rfl
          have a5 := D1.cell (j := 5) rfl
          have a6 := D1.cell (j := 6) rfl
          have a7 := D1.cell (j := 7) rfl
          have a8 := D1.cell (j := 8) rfl
          have a9 := D1.cell (j := 9) rfl
          have b0 := D2.cell (j := 0) rfl
          have b1 := D2.cell (j := 1) rfl
          have b2 := D2.cell (j := 2) rfl
          have b3 := D2.cell (j := 3) rfl
          have b4 := D2.cell (j := 4) rfl
          have b5 := D2.cell (j := 5) rfl
          have b6 := D2.cell (j := 6) rfl
          have b7 := D2.cell (j := 7) rfl
          have b8 := D2.cell (j := 8) rfl
          have b9 := D2.cell (j := 9) rfl
          go_wp2_with fail
          refine (C1.out _ h51.out).mono ?_
          rintro e w7 ⟨rfl, hb7⟩
          have h52 := hid (h51.out.trans (hb7.mono h51.out.size))
          replace D1 := D1.below hb7; replace D2 := D2.below hb7
          clear a0 a1 a2 a3 a4 a5 a6 a7 a8 a9 b0 b1 b2 b3 b4 b5 b6 b7 b8 b9 C1 hb7
          cases t1
          · have HF := hid (show an = false from by rw [HT.out]; simp)
            go_wp2
            go_ret
            exact ⟨by rw [HF.out]; rfl, HW2.out.trans ((HB.out.trans ((h52.out).mono HB.out.size)).mono HW2.out.size)⟩
          have a0 := D1.cell (j := 0) rfl
          have a1 := D1.cell (j := 1) rfl
          have a2 := D1.cell (j := 2) rfl
          have a3 := D1.cell (j := 3) rfl
          have a4 := D1.cell (j := 4) rfl
          have a5 := D1.cell (j := 5) rfl
          have a6 := D1.cell (j := 6) rfl
          have a7 := D1.cell (j := 7) rfl
          have a8 := D1.cell (j := 8) rfl
          have a9 := D1.cell (j := 9) rfl
          have b0 := D2.cell (j := 0) rfl
          have b1 := D2.cell (j := 1) rfl
          have b2 := D2.cell (j := 2) rfl
          have b3 := D2.cell (j := 3) rfl
          have b4 := D2.cell (j := 4) rfl
          have b5 := D2.cell (j := 5) rfl
          have b6 := D2.cell (j := 6) rfl
          have b7 := D2.cell (j := 7) rfl
          have b8 := D2.cell (j := 8) rfl
          have b9 := D2.cell (j := 9) rfl
          go_wp2_with fail
          refine (C2.out _ h52.out).mono ?_
          rintro e w8 ⟨rfl, hb8⟩
          have h53 := hid (h52.out.trans (hb8.mono h52.out.size))
          replace D1 := D1.below hb8; replace D2 := D2.below hb8
          clear a0 a1 a2 a3 a4 a5 a6 a7 a8 a9 b0 b1 b2 b3 b4 b5 b6 b7 b8 b9 C2 hb8
          cases t2
          · have HF := hid (show an = false from by rw [HT.out]; simp)
            go_wp2
            go_ret
            exact ⟨by rw [HF.out]; rfl, HW2.out.trans ((HB.out.trans ((h53.out).mono HB.out.size)).mono HW2.out.size)⟩
          have HB9 := hid (HB.out.trans (h53.out.mono HB.out.size))
          go_wp2
          go_roundw
          case rel => exact ⟨i + 1, by omega, by go_num, HB9.out, by show _ = _; rw [HT.out, HRR.out]; simp⟩
          case measure => simp [intOf]; omega
        · have e3 : i = rk := by omega
          have i2 : ¬ (((i : Nat) : Int) < ((rk : Nat) : Int)) := by omega
          have HT := hid (show an = true from by rw [HI.out, e3, Nat.sub_self]; rfl)
          have HW3 := hid (HW2.out.trans (HB.out.mono HW2.out.size))
          clear e3 HI HB
          go_wp2
          go_ret
          exact ⟨by rw [HT.out]; rfl, HW3.out⟩
end Go.Proofs.YtgmllfcngnfpkaaGreat
namespace Go.Proofs.YtgmllfcngnfpkaaGreat
open Go.RowKit

theorem sq_congr {a b a' b' : Nm} (h : Sn a a') (k : Sn b b') : sqB a' b' = sqB a b := by
  obtain ⟨h1, h2, h3, h4, h5⟩ := h
  obtain ⟨k1, k2, k3, k4, k5⟩ := k
  unfold sqB
  rw [h1, h2, h3, h4, h5, k1, k2, k3, k4, k5]
theorem sx_congr {a b a' b' : Ex} (hi : a'.i = a.i) (h : Sn a.v a'.v) (ki : b'.i = b.i) (k : Sn b.v b'.v) : sxB a' b' = sxB a b := by
  unfold sxB; rw [hi, ki, sq_congr h k]
theorem eqf_congr {α : Type} {e : α → α → Bool} {X Y X' Y' : Nat → α} : ∀ {r i : Nat}, (∀ j, i ≤ j → j < i + r → e (X' j) (Y' j) = e (X j) (Y j)) → eqf e X' Y' r i = eqf e X Y r i
  | 0, _, _ => rfl
  | r + 1, i, h => by simp only [eqf]; rw [h i (by omega) (by omega), eqf_congr (fun j a b => h j (by omega) (by omega))]
theorem Sm.eqA {a b a' b' : Mo} (h : Sm a a') (k : Sm b b') : eqA a' b' = eqA a b := by
  unfold Go.Proofs.YtgmllfcngnfpkaaGreat.eqA
  rw [h.chk, k.chk, sq_congr h.off k.off]
  have e1 : eqfB scB a'.ck b'.ck a'.C b'.C = eqfB scB a.ck b.ck a.C b.C := by
    unfold eqfB
    rw [h.ck, k.ck]
    by_cases e : a.ck = b.ck
    · rw [eqf_congr (fun j _ hj => ?_)]
      have p := h.C j (by omega); have q := k.C j (by omega)
      unfold scB
      rw [p.nm, q.nm, sq_congr p.cost q.cost, sx_congr p.li p.lo q.li q.lo, sx_congr p.hi p.hv q.hi q.hv]
    · simp [e]
  have e2 : eqfB srB a'.rk b'.rk a'.R b'.R = eqfB srB a.rk b.rk a.R b.R := by
    unfold eqfB
    rw [h.rk, k.rk]
    by_cases e : a.rk = b.rk
    · rw [eqf_congr (fun j _ hj => ?_)]
      have p := h.R j (by omega); have q := k.R j (by omega)
      unfold srB eqfB
      rw [p.nm, q.nm, sx_congr p.li p.lo q.li q.lo, sx_congr p.hi p.hv q.hi q.hv, p.tk, q.tk]
      by_cases e3 : (a.R j).tk = (b.R j).tk
      · rw [eqf_congr (fun t _ ht => ?_)]
        exact sx_congr (a := tex (a.R j).col (a.R j).T t) (b := tex (b.R j).col (b.R j).T t) (by show (a'.R j).col t = _; rw [p.col]; rfl) (p.T t (by omega)) (by show (b'.R j).col t = _; rw [q.col]; rfl) (q.T t (by omega))
      · simp [e3]
    · simp [e]
  rw [e1, e2]

set_option maxRecDepth 100000 in
set_option maxHeartbeats 4000000 in
theorem docEqual_c {w : World} {a b : Mo} (ha : a.ck ≤ 64 → a.rk ≤ 64 → MoR w a ∧ MoS a) (hca : MoC a) (hb : b.ck ≤ 64 → b.rk ≤ 64 → MoR w b ∧ MoS b) (hcb : MoC b) : Calls Tryz.prog 27 #[a.val, b.val] w fun r w' => r = .returned (.tuple #[.bool (eqA a b).1, .int .i64 (eqA a b).2]) ∧ Below w.heap.size w w' := by
  have D1 := hid (fun w' (hw : Below w.heap.size w w') => docCheck_w (w := w') (fun p q => ⟨(ha p q).1.below hw, (ha p q).2⟩) hca)
  have D2 := hid (fun w' (hw : Below w.heap.size w w') => docCheck_w (w := w') (fun p q => ⟨(hb p q).1.below hw, (hb p q).2⟩) hcb)
  have D3 := hid (fun w' (hw : Below w.heap.size w w') (h : lsf (two (chkE a) (chkE b)) 2 = 0) => mSame_c (w := w') (a := a) (b := b) ((ha (chkE_ok (two_zero h).1).1 (chkE_ok (two_zero h).1).2.1).1.below hw) ((hb (chkE_ok (two_zero h).2).1 (chkE_ok (two_zero h).2).2.1).1.below hw))
  obtain ⟨e1, he1⟩ : ∃ e, chkE a = e := ⟨_, rfl⟩
  obtain ⟨e2, he2⟩ : ∃ e, chkE b = e := ⟨_, rfl⟩
  rw [he1, he2] at D3
  rw [he1] at D1
  rw [he2] at D2
  obtain ⟨er, her⟩ : ∃ e, lsf (two e1 e2) 2 = e := ⟨_, rfl⟩
  obtain ⟨sb, hsb⟩ : ∃ t, smB a b = t := ⟨_, rfl⟩
  rw [hsb] at D3
  rw [her] at D3
  obtain ⟨an, han⟩ : ∃ t, eqA a b = t := ⟨_, rfl⟩
  rw [han]
  have HA := hid (show an = if er = 0 then (sb, 0) else (false, er) from by rw [← han, eqA, he1, he2, her, ← hsb]; rfl)
  have CL := hid (fun (W : World) (t : TypeId) => fLeast_c (w := W.alloc (.cells #[.int .i64 e1, .int .i64 e2] t)) (cap := 2) two_el (by decide))
  rw [her] at CL
  clear ha hb hca hcb he1 he2 her hsb han
  obtain ⟨⟨s, x, n, c, f, y, m, d, g⟩, ca, ck, cc, C, ra, rk, rc, R⟩ := a
  obtain ⟨⟨vs, vx, vn, vc, vf, vy, vm, vd, vg⟩, vca, vck, vcc, vC, vra, vrk, vrc, vR⟩ := b
  replace D1 : Hid (∀ w', Below w.heap.size w w' → Calls Tryz.prog 15 #[.agg #[.bool s, .slice x n c, .slice y m d, .slice ca ck cc, .slice ra rk rc]] w' fun e w2 => e = .returned (.int .i64 e1) ∧ Below w'.heap.size w' w2) := D1
  replace D2 : Hid (∀ w', Below w.heap.size w w' → Calls Tryz.prog 15 #[.agg #[.bool vs, .slice vx vn vc, .slice vy vm vd, .slice vca vck vcc, .slice vra vrk vrc]] w' fun e w2 => e = .returned (.int .i64 e2) ∧ Below w'.heap.size w' w2) := D2
  replace D3 : Hid (∀ w', Below w.heap.size w w' → er = 0 → Calls Tryz.prog 21 #[.agg #[.bool s, .slice x n c, .slice y m d, .slice ca ck cc, .slice ra rk rc], .agg #[.bool vs, .slice vx vn vc, .slice vy vm vd, .slice vca vck vcc, .slice vra vrk vrc]] w' fun e w2 => e = .returned (.bool sb) ∧ Below w'.heap.size w' w2) := D3
  show Calls Tryz.prog 27 #[.agg #[.bool s, .slice x n c, .slice y m d, .slice ca ck cc, .slice ra rk rc], .agg #[.bool vs, .slice vx vn vc, .slice vy vm vd, .slice vca vck vcc, .slice vra vrk vrc]] w _
  have h3 := below_alloc (below_alloc (Below.refl w.heap.size w) (.cells #[.bool s, .slice x n c, .slice y m d, .slice ca ck cc, .slice ra rk rc] 28)) (.cells #[.bool vs, .slice vx vn vc, .slice vy vm vd, .slice vca vck vcc, .slice vra vrk vrc] 28)
  have B1 := (bk_new w [.bool s, .slice x n c, .slice y m d, .slice ca ck cc, .slice ra rk rc] 28).below (below_alloc (Below.refl _ _) (.cells #[.bool vs, .slice vx vn vc, .slice vy vm vd, .slice vca vck vcc, .slice vra vrk vrc] 28))
  have B2 := bk_new (w.alloc (.cells #[.bool s, .slice x n c, .slice y m d, .slice ca ck cc, .slice ra rk rc] 28)) [.bool vs, .slice vx vn vc, .slice vy vm vd, .slice vca vck vcc, .slice vra vrk vrc] 28
  rw [size_alloc1] at B2
  replace B1 : Bk ((w.alloc (.cells #[.bool s, .slice x n c, .slice y m d, .slice ca ck cc, .slice ra rk rc] 28)).alloc (.cells #[.bool vs, .slice vx vn vc, .slice vy vm vd, .slice vca vck vcc, .slice vra vrk vrc] 28)) w.heap.size [.bool s, .slice x n c, .slice y m d, .slice ca ck cc, .slice ra rk rc] 28 := B1
  replace B2 : Bk ((w.alloc (.cells #[.bool s, .slice x n c, .slice y m d, .slice ca ck cc, .slice ra rk rc] 28)).alloc (.cells #[.bool vs, .slice vx vn vc, .slice vy vm vd, .slice vca vck vcc, .slice vra vrk vrc] 28)) (w.heap.size + 1) [.bool vs, .slice vx vn vc, .slice vy vm vd, .slice vca vck vcc, .slice vra vrk vrc] 28 := B2
  go_enter Tryz.func27, Tryz.ntmps27
  go_upto_region 1 with fail
  generalize (w.alloc (.cells #[.bool s, .slice x n c, .slice y m d, .slice ca ck cc, .slice ra rk rc] 28)).alloc (.cells #[.bool vs, .slice vx vn vc, .slice vy vm vd, .slice vca vck vcc, .slice vra vrk vrc] 28) = w1 at *
  have hbd := Below.drew (Below.refl w1.heap.size w1)
  replace B1 := B1.below hbd; replace B2 := B2.below hbd
  have HW := hid (h3.trans (hbd.mono h3.size))
  clear hbd h3
  have r0 := B1.cell (j := 0) rfl
  have r1 := B1.cell (j := 1) rfl
  have r2 := B1.cell (j := 2) rfl
  have r3 := B1.cell (j := 3) rfl
  have r4 := B1.cell (j := 4) rfl
  have p0 := B2.cell (j := 0) rfl
  have p1 := B2.cell (j := 1) rfl
  have p2 := B2.cell (j := 2) rfl
  have p3 := B2.cell (j := 3) rfl
  have p4 := B2.cell (j := 4) rfl
  refine wp_region_held_drew (S := (fun w' => w'.cell? ⟨w.heap.size, 0, none⟩ = some (.bool s) ∧ w'.cell? ⟨w.heap.size, 1, none⟩ = some (.slice x n c) ∧ w'.cell? ⟨w.heap.size, 2, none⟩ = some (.slice y m d) ∧ w'.cell? ⟨w.heap.size, 3, none⟩ = some (.slice ca ck cc) ∧ w'.cell? ⟨w.heap.size, 4, none⟩ = some (.slice ra rk rc) ∧ w'.cell? ⟨w.heap.size + 1, 0, none⟩ = some (.bool vs) ∧ w'.cell? ⟨w.heap.size + 1, 1, none⟩ = some (.slice vx vn vc) ∧ w'.cell? ⟨w.heap.size + 1, 2, none⟩ = some (.slice vy vm vd) ∧ w'.cell? ⟨w.heap.size + 1, 3, none⟩ = some (.slice vca vck vcc) ∧ w'.cell? ⟨w.heap.size + 1, 4, none⟩ = some (.slice vra vrk vrc))) (by kernel_rfl) ?_ (fun hHeld => ?_)
  · exact ⟨r0, r1, r2, r3, r4, p0, p1, p2, p3, p4⟩
  generalize hwd : w1.drew = wd at *
  clear hwd
  refine wpAnyH_take (i := 0) (v := ?_) rfl (by kernel_rfl) (by kernel_rfl) (by kernel_rfl) (fun _ _ _ h => h) (Or.inl ⟨by rfl, ?_⟩) (by assumption) ?_
  rotate_left
  (focus (intro w0 hSw; (try dsimp only at hSw); go_simp <;> with_reducible rfl))
  simp only [List.getElem_toArray, List.getElem_cons_zero, Act.put, List.setIfInBounds_toArray, List.set_cons_zero, List.set_cons_succ]
  refine wpAnyH_take (i := 2) (v := ?_) rfl (by kernel_rfl) (by kernel_rfl) (by kernel_rfl) (fun _ _ _ h => h) (Or.inl ⟨by rfl, ?_⟩) (by assumption) ?_
  rotate_left
  (focus (intro w0 hSw; (try dsimp only at hSw); go_simp <;> with_reducible rfl))
  simp only [List.getElem_toArray, List.getElem_cons_succ, List.getElem_cons_zero, Act.put, List.setIfInBounds_toArray, List.set_cons_zero, List.set_cons_succ]
  refine wpAnyH_ready (rs := [1]) (by kernel_rfl) (by simp) ?_
  refine AllReadyH.cons (o := _) rfl (fun K hK => ?_) ?_
  rotate_left
  exact AllReadyH.nil
  go_simp
  go_at_call 15
  refine (D1.out _ HW.out).mono ?_
  rintro e w2 ⟨rfl, hb2⟩
  replace B1 := B1.below hb2; replace B2 := B2.below hb2
  have HW2 := hid (HW.out.trans (hb2.mono HW.out.size))
  (try go_wp2_with fail)
  refine hK.out _ _ ?_ (fun hH2 => ?_)
  · ((try dsimp only); (refine ⟨?_, ?_, ?_, ?_, ?_, ?_, ?_, ?_, ?_, ?_⟩ <;> repeat (with_reducible first | assumption | refine kCa ?_ | refine kCb hb3 ?_ | refine kCb hb2 ?_)))
  clear hK K
  try simp only [Act.put, List.setIfInBounds_toArray, List.set_cons_zero, List.set_cons_succ]
  refine wpAnyH_ready (rs := [3]) (by kernel_rfl) (by simp) ?_
  refine AllReadyH.cons (o := _) rfl (fun K hK => ?_) ?_
  rotate_left
  exact AllReadyH.nil
  go_simp
  go_at_call 15
  refine (D2.out _ HW2.out).mono ?_
  rintro e w3 ⟨rfl, hb3⟩
  replace B1 := B1.below hb3; replace B2 := B2.below hb3
  have HW3 := hid (HW2.out.trans (hb3.mono HW2.out.size))
  (try go_wp2_with fail)
  refine hK.out _ _ ?_ (fun hH3 => ?_)
  · ((try dsimp only); (refine ⟨?_, ?_, ?_, ?_, ?_, ?_, ?_, ?_, ?_, ?_⟩ <;> repeat (with_reducible first | assumption | refine kCa ?_ | refine kCb hb3 ?_ | refine kCb hb2 ?_)))
  clear hK K
  try simp only [Act.put, List.setIfInBounds_toArray, List.set_cons_zero, List.set_cons_succ]
  refine wpAnyH_ready (rs := [4]) (by kernel_rfl) (by simp) ?_
  refine AllReadyH.cons (o := _) rfl (fun K hK => ?_) ?_
  rotate_left
  exact AllReadyH.nil
  go_simp
  refine hK.out _ _ ?_ (fun hH4 => ?_)
  · ((try dsimp only); (refine ⟨?_, ?_, ?_, ?_, ?_, ?_, ?_, ?_, ?_, ?_⟩ <;> repeat (with_reducible first | assumption | refine kCa ?_ | refine kCb hb3 ?_ | refine kCb hb2 ?_)))
  clear hK K
  try simp only [Act.put, List.setIfInBounds_toArray, List.set_cons_zero, List.set_cons_succ]
  refine wpAnyH_ready (rs := [5]) (by kernel_rfl) (by simp) ?_
  refine AllReadyH.cons (o := _) rfl (fun K hK => ?_) ?_
  rotate_left
  exact AllReadyH.nil
  go_simp
  go_at_call 50
  refine (CL.out w3 3).mono ?_
  rintro e w4 ⟨rfl, rfl⟩
  (try go_wp2_with fail)
  refine hK.out _ _ ?_ (fun hH5 => ?_)
  · ((try dsimp only); (refine ⟨?_, ?_, ?_, ?_, ?_, ?_, ?_, ?_, ?_, ?_⟩ <;> repeat (with_reducible first | assumption | refine kCa ?_ | refine kCb hb3 ?_ | refine kCb hb2 ?_)))
  clear hK K
  try simp only [Act.put, List.setIfInBounds_toArray, List.set_cons_zero, List.set_cons_succ]
  refine wpAnyH_take (i := 6) (v := ?_) rfl (by kernel_rfl) (by kernel_rfl) (by kernel_rfl) (fun _ _ _ h => h) (Or.inl ⟨by rfl, ?_⟩) (by assumption) ?_
  rotate_left
  (focus (intro w0 hSw; (try dsimp only at hSw); go_simp <;> with_reducible rfl))
  simp only [List.getElem_toArray, List.getElem_cons_succ, List.getElem_cons_zero, Act.put, List.setIfInBounds_toArray, List.set_cons_zero, List.set_cons_succ]
  refine wpAnyH_done (by kernel_rfl) ?_ _
  have hb4 := below_alloc (Below.refl w3.heap.size w3) (.cells #[.int .i64 e1, .int .i64 e2] 3)
  have HW4 := hid (HW3.out.trans (hb4.mono HW3.out.size))
  replace B1 := B1.below hb4; replace B2 := B2.below hb4
  clear hb4 hHeld hH2 hH3 hH4 hH5 hb2 hb3 D1 D2 CL HW HW2 HW3 r0 r1 r2 r3 r4 p0 p1 p2 p3 p4
  generalize w3.alloc (.cells #[.int .i64 e1, .int .i64 e2] 3) = w4 at *
  by_cases h0 : er = 0
  case neg =>
    have hne : (er != 0) = true := by simpa using h0
    have HF := hid (show an = (false, er) from by rw [HA.out, if_neg h0])
    clear h0
    go_wp2
    go_ret2
    exact ⟨by rw [HF.out]; rfl, HW4.out⟩
  subst h0
  have HT := hid (show an = (sb, 0) from by rw [HA.out, if_pos rfl])
  have CS := hid (D3.out _ HW4.out rfl)
  clear D3 HA
  have r0 := B1.cell (j := 0) rfl
  have r1 := B1.cell (j := 1) rfl
  have r2 := B1.cell (j := 2) rfl
  have r3 := B1.cell (j := 3) rfl
  have r4 := B1.cell (j := 4) rfl
  have p0 := B2.cell (j := 0) rfl
  have p1 := B2.cell (j := 1) rfl
  have p2 := B2.cell (j := 2) rfl
  have p3 := B2.cell (j := 3) rfl
  have p4 := B2.cell (j := 4) rfl
  go_wp2_with fail
  refine CS.out.mono ?_
  rintro e w5 ⟨rfl, hb5⟩
  have HW5 := hid (HW4.out.trans (hb5.mono HW4.out.size))
  clear hb5
  go_wp2
  go_ret2
  exact ⟨by rw [HT.out]; rfl, HW5.out⟩

set_option maxRecDepth 100000 in
set_option maxHeartbeats 8000000 in
theorem modelEquals_c {w : World} {a b : Mo} (hX : MoX w a) (hN : MoN a) (hC : MoC a) (hX' : MoX w b) (hN' : MoN b) (hC' : MoC b) : Calls Tryz.prog 6 #[a.val, b.val] w fun e w' => e = .returned (.bool true) ∧ Below w.heap.size w w' := by
  obtain ⟨lb, hlb⟩ : ∃ t, lgM 10 a = t := ⟨_, rfl⟩
  obtain ⟨lv, hlv⟩ : ∃ t, lgM 10 b = t := ⟨_, rfl⟩
  have CL := hid (fun w' (hw : Below w.heap.size w w') => mLight_c (w := w') (K := 10) (hX.below hw).light.1 (hX.below hw).light.2)
  rw [hlb] at CL
  have CV := hid (fun w' (hw : Below w.heap.size w w') => mLight_c (w := w') (K := 10) (hX'.below hw).light.1 (hX'.below hw).light.2)
  rw [hlv] at CV
  have CT := hid (fun w' (hw : Below w.heap.size w w') (h : lb = true) => twin_w (w := w') (K := 10) (hX.below hw) hN (lgM_k (hlb.trans h)) (by decide))
  have CU := hid (fun w' (hw : Below w.heap.size w w') (h : lv = true) => twin_w (w := w') (K := 10) (hX'.below hw) hN' (lgM_k (hlv.trans h)) (by decide))
  have CE := hid (fun w' (hw : Below w.heap.size w w') (h : lb = true) (h' : lv = true) => docEqual_c (w := w') ((hX.below hw).both hN (lgM_k (hlb.trans h)) (by decide)) hC ((hX'.below hw).both hN' (lgM_k (hlv.trans h')) (by decide)) hC')
  obtain ⟨⟨q1, q2⟩, hq⟩ : ∃ t, eqA a b = t := ⟨_, rfl⟩
  rw [hq] at CE
  have HQ := hid (fun M M' (h : Sm a M) (k : Sm b M') => (h.eqA k).trans hq)
  obtain ⟨A, hA⟩ : ∃ N, N = a := ⟨_, rfl⟩
  obtain ⟨B, hB⟩ : ∃ N, N = b := ⟨_, rfl⟩
  rw [← hA] at CT HQ
  rw [← hB] at CU HQ
  clear hX hN hC hX' hN' hC' hlb hlv hq
  obtain ⟨⟨s, x, n, c, f, y, m, d, g⟩, ca, ck, cc, C, ra, rk, rc, R⟩ := a
  obtain ⟨⟨vs, vx, vn, vc, vf, vy, vm, vd, vg⟩, vca, vck, vcc, vC, vra, vrk, vrc, vR⟩ := b
  have hAv : A.val = .agg #[.bool s, .slice x n c, .slice y m d, .slice ca ck cc, .slice ra rk rc] := by rw [hA]; rfl
  have hBv : B.val = .agg #[.bool vs, .slice vx vn vc, .slice vy vm vd, .slice vca vck vcc, .slice vra vrk vrc] := by rw [hB]; rfl
  rw [hAv] at CT
  rw [hBv] at CU
  clear hA hB
  replace CL : Hid (∀ w', Below w.heap.size w w' → Calls Tryz.prog 10 #[.agg #[.bool s, .slice x n c, .slice y m d, .slice ca ck cc, .slice ra rk rc], .int .i64 10] w' fun e w2 => e = .returned (.bool lb) ∧ Below w'.heap.size w' w2) := CL
  replace CV : Hid (∀ w', Below w.heap.size w w' → Calls Tryz.prog 10 #[.agg #[.bool vs, .slice vx vn vc, .slice vy vm vd, .slice vca vck vcc, .slice vra vrk vrc], .int .i64 10] w' fun e w2 => e = .returned (.bool lv) ∧ Below w'.heap.size w' w2) := CV
  replace CE : Hid (∀ w', Below w.heap.size w w' → lb = true → lv = true → Calls Tryz.prog 27 #[.agg #[.bool s, .slice x n c, .slice y m d, .slice ca ck cc, .slice ra rk rc], .agg #[.bool vs, .slice vx vn vc, .slice vy vm vd, .slice vca vck vcc, .slice vra vrk vrc]] w' fun e w2 => e = .returned (.tuple #[.bool q1, .int .i64 q2]) ∧ Below w'.heap.size w' w2) := CE
  show Calls Tryz.prog 6 #[.agg #[.bool s, .slice x n c, .slice y m d, .slice ca ck cc, .slice ra rk rc], .agg #[.bool vs, .slice vx vn vc, .slice vy vm vd, .slice vca vck vcc, .slice vra vrk vrc]] w _
  have h3 := below_alloc (below_alloc (Below.refl w.heap.size w) (.cells #[.bool s, .slice x n c, .slice y m d, .slice ca ck cc, .slice ra rk rc] 28)) (.cells #[.bool vs, .slice vx vn vc, .slice vy vm vd, .slice vca vck vcc, .slice vra vrk vrc] 28)
  have B1 := (bk_new w [.bool s, .slice x n c, .slice y m d, .slice ca ck cc, .slice ra rk rc] 28).below (below_alloc (Below.refl _ _) (.cells #[.bool vs, .slice vx vn vc, .slice vy vm vd, .slice vca vck vcc, .slice vra vrk vrc] 28))
  have B2 := bk_new (w.alloc (.cells #[.bool s, .slice x n c, .slice y m d, .slice ca ck cc, .slice ra rk rc] 28)) [.bool vs, .slice vx vn vc, .slice vy vm vd, .slice vca vck vcc, .slice vra vrk vrc] 28
  rw [size_alloc1] at B2
  replace B1 : Bk ((w.alloc (.cells #[.bool s, .slice x n c, .slice y m d, .slice ca ck cc, .slice ra rk rc] 28)).alloc (.cells #[.bool vs, .slice vx vn vc, .slice vy vm vd, .slice vca vck vcc, .slice vra vrk vrc] 28)) w.heap.size [.bool s, .slice x n c, .slice y m d, .slice ca ck cc, .slice ra rk rc] 28 := B1
  replace B2 : Bk ((w.alloc (.cells #[.bool s, .slice x n c, .slice y m d, .slice ca ck cc, .slice ra rk rc] 28)).alloc (.cells #[.bool vs, .slice vx vn vc, .slice vy vm vd, .slice vca vck vcc, .slice vra vrk vrc] 28)) (w.heap.size + 1) [.bool vs, .slice vx vn vc, .slice vy vm vd, .slice vca vck vcc, .slice vra vrk vrc] 28 := B2
  go_enter Tryz.func6, Tryz.ntmps6
  go_wp2_with fail
  generalize (w.alloc (.cells #[.bool s, .slice x n c, .slice y m d, .slice ca ck cc, .slice ra rk rc] 28)).alloc (.cells #[.bool vs, .slice vx vn vc, .slice vy vm vd, .slice vca vck vcc, .slice vra vrk vrc] 28) = w1 at *
  refine awake7_c.mono ?_
  rintro e w2 ⟨rfl, hb2⟩
  replace B1 := B1.below hb2; replace B2 := B2.below hb2
  have HW2 := hid (h3.trans (hb2.mono h3.size))
  clear hb2 h3
  have r0 := B1.cell (j := 0) rfl
  have r1 := B1.cell (j := 1) rfl
  have r2 := B1.cell (j := 2) rfl
  have r3 := B1.cell (j := 3) rfl
  have r4 := B1.cell (j := 4) rfl
  have p0 := B2.cell (j := 0) rfl
  have p1 := B2.cell (j := 1) rfl
  have p2 := B2.cell (j := 2) rfl
  have p3 := B2.cell (j := 3) rfl
  have p4 := B2.cell (j := 4) rfl
  go_wp2_with fail
  refine (CL.out _ HW2.out).mono ?_
  rintro e w3 ⟨rfl, hb3⟩
  replace B1 := B1.below hb3; replace B2 := B2.below hb3
  have HW3 := hid (HW2.out.trans (hb3.mono HW2.out.size))
  clear hb3 HW2 CL r0 r1 r2 r3 r4 p0 p1 p2 p3 p4
  cases lb
  · go_wp2
    go_ret
    exact ⟨rfl, HW3.out⟩
  have r0 := B1.cell (j := 0) rfl
  have r1 := B1.cell (j := 1) rfl
  have r2 := B1.cell (j := 2) rfl
  have r3 := B1.cell (j := 3) rfl
  have r4 := B1.cell (j := 4) rfl
  have p0 := B2.cell (j := 0) rfl
  have p1 := B2.cell (j := 1) rfl
  have p2 := B2.cell (j := 2) rfl
  have p3 := B2.cell (j := 3) rfl
  have p4 := B2.cell (j := 4) rfl
  go_wp2_with fail
  refine (CV.out _ HW3.out).mono ?_
  rintro e w4 ⟨rfl, hb4⟩
  replace B1 := B1.below hb4; replace B2 := B2.below hb4
  have HW4 := hid (HW3.out.trans (hb4.mono HW3.out.size))
  clear hb4 HW3 CV r0 r1 r2 r3 r4 p0 p1 p2 p3 p4
  cases lv
  · go_wp2
    go_ret
    exact ⟨rfl, HW4.out⟩
  go_upto_region 5 with fail
  have hbd := Below.drew (Below.refl w4.heap.size w4)
  replace B1 := B1.below hbd; replace B2 := B2.below hbd
  have HW := hid (HW4.out.trans (hbd.mono HW4.out.size))
  clear hbd HW4
  have r0 := B1.cell (j := 0) rfl
  have r1 := B1.cell (j := 1) rfl
  have r2 := B1.cell (j := 2) rfl
  have r3 := B1.cell (j := 3) rfl
  have r4 := B1.cell (j := 4) rfl
  have p0 := B2.cell (j := 0) rfl
  have p1 := B2.cell (j := 1) rfl
  have p2 := B2.cell (j := 2) rfl
  have p3 := B2.cell (j := 3) rfl
  have p4 := B2.cell (j := 4) rfl
  refine wp_region_held_drew (S := (fun w' => w'.cell? ⟨w.heap.size, 0, none⟩ = some (.bool s) ∧ w'.cell? ⟨w.heap.size, 1, none⟩ = some (.slice x n c) ∧ w'.cell? ⟨w.heap.size, 2, none⟩ = some (.slice y m d) ∧ w'.cell? ⟨w.heap.size, 3, none⟩ = some (.slice ca ck cc) ∧ w'.cell? ⟨w.heap.size, 4, none⟩ = some (.slice ra rk rc) ∧ w'.cell? ⟨w.heap.size + 1, 0, none⟩ = some (.bool vs) ∧ w'.cell? ⟨w.heap.size + 1, 1, none⟩ = some (.slice vx vn vc) ∧ w'.cell? ⟨w.heap.size + 1, 2, none⟩ = some (.slice vy vm vd) ∧ w'.cell? ⟨w.heap.size + 1, 3, none⟩ = some (.slice vca vck vcc) ∧ w'.cell? ⟨w.heap.size + 1, 4, none⟩ = some (.slice vra vrk vrc))) (by kernel_rfl) ?_ (fun hHeld => ?_)
  · exact ⟨r0, r1, r2, r3, r4, p0, p1, p2, p3, p4⟩
  generalize hwd : w4.drew = wd at *
  clear hwd
  refine wpAnyH_take (i := 0) (v := ?_) rfl (by kernel_rfl) (by kernel_rfl) (by kernel_rfl) (fun _ _ _ h => h) (Or.inl ⟨by rfl, ?_⟩) (by assumption) ?_
  rotate_left
  (focus (intro w0 hSw; (try dsimp only at hSw); go_simp <;> with_reducible rfl))
  simp only [List.getElem_toArray, List.getElem_cons_zero, Act.put, List.setIfInBounds_toArray, List.set_cons_zero, List.set_cons_succ]
  refine wpAnyH_take (i := 2) (v := ?_) rfl (by kernel_rfl) (by kernel_rfl) (by kernel_rfl) (fun _ _ _ h => h) (Or.inl ⟨by rfl, ?_⟩) (by assumption) ?_
  rotate_left
  (focus (intro w0 hSw; (try dsimp only at hSw); go_simp <;> with_reducible rfl))
  simp only [List.getElem_toArray, List.getElem_cons_succ, List.getElem_cons_zero, Act.put, List.setIfInBounds_toArray, List.set_cons_zero, List.set_cons_succ]
  refine wpAnyH_ready (rs := [1]) (by kernel_rfl) (by simp) ?_
  refine AllReadyH.cons (o := _) rfl (fun K hK => ?_) ?_
  rotate_left
  exact AllReadyH.nil
  go_simp
  go_at_call 12
  refine (CT.out _ HW.out (by first | rfl | trivial)).mono ?_
  rintro e w5 ⟨M1, rfl, hb5, hs1, hw1, _, _⟩
  have HS1 := hid hs1; have HM1 := hid hw1
  obtain ⟨V1, hV1⟩ : ∃ z, M1.val = z := ⟨_, rfl⟩
  rw [hV1]
  replace B1 := B1.below hb5; replace B2 := B2.below hb5
  have HW5 := hid (HW.out.trans (hb5.mono HW.out.size))
  (try go_wp2_with fail)
  refine hK.out _ _ ?_ (fun hH5 => ?_)
  · ((try dsimp only); (refine ⟨?_, ?_, ?_, ?_, ?_, ?_, ?_, ?_, ?_, ?_⟩ <;> repeat (with_reducible first | assumption | refine kCb hb7 ?_ | refine kCb hb6 ?_ | refine kCb hb5 ?_)))
  clear hK K
  try simp only [Act.put, List.setIfInBounds_toArray, List.set_cons_zero, List.set_cons_succ]
  refine wpAnyH_ready (rs := [3]) (by kernel_rfl) (by simp) ?_
  refine AllReadyH.cons (o := _) rfl (fun K hK => ?_) ?_
  rotate_left
  exact AllReadyH.nil
  go_simp
  go_at_call 12
  refine (CU.out _ HW5.out (by first | rfl | trivial)).mono ?_
  rintro e w6 ⟨M2, rfl, hb6, hs2, hw2, _, _⟩
  have CQ := hid (equal_c (HM1.out.below hb6) hw2)
  rw [HQ.out M1 M2 HS1.out hs2] at CQ
  obtain ⟨V2, hV2⟩ : ∃ z, M2.val = z := ⟨_, rfl⟩
  rw [hV1, hV2] at CQ
  rw [hV2]
  replace B1 := B1.below hb6; replace B2 := B2.below hb6
  have HW6 := hid (HW5.out.trans (hb6.mono HW5.out.size))
  (try go_wp2_with fail)
  refine hK.out _ _ ?_ (fun hH6 => ?_)
  · ((try dsimp only); (refine ⟨?_, ?_, ?_, ?_, ?_, ?_, ?_, ?_, ?_, ?_⟩ <;> repeat (with_reducible first | assumption | refine kCb hb7 ?_ | refine kCb hb6 ?_ | refine kCb hb5 ?_)))
  clear hK K
  try simp only [Act.put, List.setIfInBounds_toArray, List.set_cons_zero, List.set_cons_succ]
  refine wpAnyH_ready (rs := [4]) (by kernel_rfl) (by simp) ?_
  refine AllReadyH.cons (o := _) rfl (fun K hK => ?_) ?_
  rotate_left
  exact AllReadyH.nil
  go_simp
  go_at_call 26
  refine CQ.out.mono ?_
  rintro e w7 ⟨rfl, hb7⟩
  replace B1 := B1.below hb7; replace B2 := B2.below hb7
  have HW7 := hid (HW6.out.trans (hb7.mono HW6.out.size))
  (try go_wp2_with fail)
  refine hK.out _ _ ?_ (fun hH7 => ?_)
  · ((try dsimp only); (refine ⟨?_, ?_, ?_, ?_, ?_, ?_, ?_, ?_, ?_, ?_⟩ <;> repeat (with_reducible first | assumption | refine kCb hb7 ?_ | refine kCb hb6 ?_ | refine kCb hb5 ?_)))
  clear hK K
  try simp only [Act.put, List.setIfInBounds_toArray, List.set_cons_zero, List.set_cons_succ]
  refine wpAnyH_take (i := 5) (v := ?_) rfl (by kernel_rfl) (by kernel_rfl) (by kernel_rfl) (fun _ _ _ h => h) (Or.inl ⟨by rfl, ?_⟩) (by assumption) ?_
  rotate_left
  (focus (intro w0 hSw; (try dsimp only at hSw); go_simp <;> with_reducible rfl))
  simp only [List.getElem_toArray, List.getElem_cons_succ, List.getElem_cons_zero, Act.put, List.setIfInBounds_toArray, List.set_cons_zero, List.set_cons_succ]
  refine wpAnyH_take (i := 6) (v := ?_) rfl (by kernel_rfl) (by kernel_rfl) (by kernel_rfl) (fun _ _ _ h => h) (Or.inl ⟨by rfl, ?_⟩) (by assumption) ?_
  rotate_left
  (focus (intro w0 hSw; (try dsimp only at hSw); go_simp <;> with_reducible rfl))
  simp only [List.getElem_toArray, List.getElem_cons_succ, List.getElem_cons_zero, Act.put, List.setIfInBounds_toArray, List.set_cons_zero, List.set_cons_succ]
  refine wpAnyH_take (i := 7) (v := ?_) rfl (by kernel_rfl) (by kernel_rfl) (by kernel_rfl) (fun _ _ _ h => h) (Or.inl ⟨by rfl, ?_⟩) (by assumption) ?_
  rotate_left
  (focus (intro w0 hSw; (try dsimp only at hSw); go_simp <;> with_reducible rfl))
  simp only [List.getElem_toArray, List.getElem_cons_succ, List.getElem_cons_zero, Act.put, List.setIfInBounds_toArray, List.set_cons_zero, List.set_cons_succ]
  refine wpAnyH_take (i := 8) (v := ?_) rfl (by kernel_rfl) (by kernel_rfl) (by kernel_rfl) (fun _ _ _ h => h) (Or.inl ⟨by rfl, ?_⟩) (by assumption) ?_
  rotate_left
  (focus (intro w0 hSw; (try dsimp only at hSw); go_simp <;> with_reducible rfl))
  simp only [List.getElem_toArray, List.getElem_cons_succ, List.getElem_cons_zero, Act.put, List.setIfInBounds_toArray, List.set_cons_zero, List.set_cons_succ]
  refine wpAnyH_take (i := 9) (v := ?_) rfl (by kernel_rfl) (by kernel_rfl) (by kernel_rfl) (fun _ _ _ h => h) (Or.inl ⟨by rfl, ?_⟩) (by assumption) ?_
  rotate_left
  (focus (intro w0 hSw; (try dsimp only at hSw); go_simp <;> with_reducible rfl))
  simp only [List.getElem_toArray, List.getElem_cons_succ, List.getElem_cons_zero, Act.put, List.setIfInBounds_toArray, List.set_cons_zero, List.set_cons_succ]
  refine wpAnyH_done (by kernel_rfl) ?_ _
  clear hHeld hH5 hH6 hH7 hb5 hb6 hb7 CT CU CQ HW HW5 HW6 hV1 hV2 hs1 hw1 hs2 hw2 HS1 HM1 r0 r1 r2 r3 r4 p0 p1 p2 p3 p4
  have r0 := B1.cell (j := 0) rfl
  have r1 := B1.cell (j := 1) rfl
  have r2 := B1.cell (j := 2) rfl
  have r3 := B1.cell (j := 3) rfl
  have r4 := B1.cell (j := 4) rfl
  have p0 := B2.cell (j := 0) rfl
  have p1 := B2.cell (j := 1) rfl
  have p2 := B2.cell (j := 2) rfl
  have p3 := B2.cell (j := 3) rfl
  have p4 := B2.cell (j := 4) rfl
  go_wp2_with fail
  refine (CE.out _ HW7.out (by first | rfl | trivial) (by first | rfl | trivial)).mono ?_
  rintro e w8 ⟨rfl, hb8⟩
  have HW8 := hid (HW7.out.trans (hb8.mono HW7.out.size))
  clear hb8
  have e1 : (q1 == q1) = true := by simp
  have e2 : (q2 == q2) = true := by simp
  go_wp2
  go_ret
  exact ⟨rfl, HW8.out⟩
end Go.Proofs.YtgmllfcngnfpkaaGreat
