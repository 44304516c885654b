/-
  The walk of package whole's call Divide. Walks of the document's reference for nat: Twin, From, To. Walks of the document's reference for nat: Cmp, Add, Sub on digits, and the calls DocAdd, DocSub, DocCmp. Walks of the document's reference for nat: Word, short. Walks of the document's reference for whole: Same, Twin, DocOf. Walks of package nat's reading: isNumber, readPiece. The walk of the document's reference for nat: Text. Walks of the document's reference for nat: Sub on digits, and the calls DocAdd, DocSub, DocCmp. Walks of the document's reference for nat: the calls DocAdd, DocSub, DocCmp. Walks of the document's reference for nat: Read, DocRead, DocText. Walks of package nat's reading: joinPieces, fromDigits, Read. Walks of package nat's reading: fromDigits, Read. Walks of nat's Text, and of the document's reference: DocText, DocRead. Walks of package whole's calls Text, Read. The walk of package whole's call Read. The walk of the statements' own look at answers of whole that the document fixes (awake).
-/
import Derived.Test.YtlpmfmphglgocaaGreatDoorZ3
import Derived.Deep.RegionHeld3
import Derived.Test.YtlpmfmphglgocaaGreatDoorZ1
import Derived.Test.YtlpmfmphglgocaaGreatDoorZ2
import Derived.Deep.CutRange
namespace Go.Proofs.YtlpmfmphglgocaaGreatDoor
open Go.RowKit

theorem Turned.mono {lo hi hi' : Nat} {a b : World} (h : Turned lo hi a b) (hh : hi ≤ hi') : Turned lo hi' a b := ⟨h.os, h.tape, h.output, h.size, fun k hk hn => h.block k hk (by omega)⟩
theorem frozen_alloc_some (w : World) (a : Addr) (o : Obj) (h : (w.cell? a).isSome = true) : (w.alloc o).frozen? a = w.frozen? a := by
  obtain ⟨u, hu⟩ := Option.isSome_iff_exists.1 h
  exact World.frozen?_alloc_old _ _ _ (Nat.ne_of_lt (World.block_lt_of_cell? w a hu))
theorem isSome_setCell (w : World) (p q : Addr) (v : Value) (h : (w.cell? q).isSome = true) : ((w.setCell p v).cell? q).isSome = true := by
  obtain ⟨u, hu⟩ := Option.isSome_iff_exists.1 h
  obtain ⟨u', hu'⟩ := cell?_setCell_some (p := p) (x := v) hu
  rw [hu']; rfl
theorem kCa {w : World} {a : Addr} {v : Value} {o : Obj} (h : w.cell? a = some v) : (w.alloc o).cell? a = some v := (World.cell?_alloc_lt _ _ _ (World.block_lt_of_cell? w a h)).trans h
theorem kCs {w : World} {p a : Addr} {u v : Value} (hb : p.block ≠ a.block) (h : w.cell? a = some u) : (w.setCell p v).cell? a = some u := (World.cell?_setCell_far w p a v hb).trans h
theorem kCd {w : World} {a : Addr} {v : Value} (h : w.cell? a = some v) : w.drew.cell? a = some v := h
theorem kIa {w : World} {a : Addr} {o : Obj} (h : (w.cell? a).isSome = true) : ((w.alloc o).cell? a).isSome = true := by rw [World.cell?_alloc_some w a o h]; exact h
theorem kIs {w : World} {p a : Addr} {v : Value} (h : (w.cell? a).isSome = true) : ((w.setCell p v).cell? a).isSome = true := isSome_setCell w p a v h
theorem kId {w : World} {a : Addr} (h : (w.cell? a).isSome = true) : (w.drew.cell? a).isSome = true := h
theorem kFa {w : World} {a : Addr} {o : Obj} (h : (w.cell? a).isSome = true) (h2 : w.frozen? a = false) : (w.alloc o).frozen? a = false := (frozen_alloc_some w a o h).trans h2
theorem kFs {w : World} {p a : Addr} {v : Value} (h : w.frozen? a = false) : (w.setCell p v).frozen? a = false := by rw [World.frozen?_setCell]; exact h
theorem kFd {w : World} {a : Addr} (h : w.frozen? a = false) : w.drew.frozen? a = false := h
/-- How four boxes read. -/
def B4 (w w1 : World) (a0 a1 b0 b1 c0 c1 d0 d1 : Value) : Prop := w.heap.size + 1 + 1 + 1 < w1.heap.size ∧ w1.cell? ⟨w.heap.size, 0, none⟩ = some a0 ∧ w1.cell? ⟨w.heap.size, 1, none⟩ = some a1 ∧ w1.cell? ⟨w.heap.size + 1, 0, none⟩ = some b0 ∧ w1.cell? ⟨w.heap.size + 1, 1, none⟩ = some b1 ∧ w1.cell? ⟨w.heap.size + 1 + 1, 0, none⟩ = some c0 ∧ w1.cell? ⟨w.heap.size + 1 + 1, 1, none⟩ = some c1 ∧ w1.cell? ⟨w.heap.size + 1 + 1 + 1, 0, none⟩ = some d0 ∧ w1.cell? ⟨w.heap.size + 1 + 1 + 1, 1, none⟩ = some d1 ∧ (∀ o, w1.frozen? ⟨w.heap.size + 1 + 1, o, none⟩ = false) ∧ (∀ o, w1.frozen? ⟨w.heap.size + 1 + 1 + 1, o, none⟩ = false)
theorem boxes4 {w w1 : World} {a0 a1 b0 b1 c0 c1 d0 d1 : Value} {t : TypeId} (hb : Below ((((w.alloc (.cells #[a0, a1] t)).alloc (.cells #[b0, b1] t)).alloc (.cells #[c0, c1] t)).alloc (.cells #[d0, d1] t)).heap.size ((((w.alloc (.cells #[a0, a1] t)).alloc (.cells #[b0, b1] t)).alloc (.cells #[c0, c1] t)).alloc (.cells #[d0, d1] t)) w1) :
    B4 w w1 a0 a1 b0 b1 c0 c1 d0 d1 ∧ Below w.heap.size w w1 := by
  obtain ⟨h1, h2⟩ := bcell hb
  have hz := hb.size
  simp at hz
  refine ⟨⟨by omega, (h1 _ _ (by first | omega | (simp; done) | (simp; omega))).trans (by simp [go_sem]), (h1 _ _ (by first | omega | (simp; done) | (simp; omega))).trans (by simp [go_sem]), (h1 _ _ (by first | omega | (simp; done) | (simp; omega))).trans (by simp [go_sem]), (h1 _ _ (by first | omega | (simp; done) | (simp; omega))).trans (by simp [go_sem]), (h1 _ _ (by simp)).trans (by simp [go_sem]), (h1 _ _ (by simp)).trans (by simp [go_sem]), (h1 _ _ (by simp)).trans (by simp [go_sem]), (h1 _ _ (by simp)).trans (by simp [go_sem]), fun o => (h2 _ _ (by simp)).trans ?_, fun o => (h2 _ _ (by simp)).trans ?_⟩, ?_⟩
  · have e := heap_alloc_new ((w.alloc (.cells #[a0, a1] t)).alloc (.cells #[b0, b1] t)) (.cells #[c0, c1] t)
    rw [size_alloc1, size_alloc1] at e
    have e2 := (Below.heap_alloc (((w.alloc (.cells #[a0, a1] t)).alloc (.cells #[b0, b1] t)).alloc (.cells #[c0, c1] t)) (.cells #[d0, d1] t) (w.heap.size + 1 + 1) (by simp)).trans e
    simp only [World.frozen?, e2]; simp
  · have e := heap_alloc_new (((w.alloc (.cells #[a0, a1] t)).alloc (.cells #[b0, b1] t)).alloc (.cells #[c0, c1] t)) (.cells #[d0, d1] t)
    rw [size_alloc1, size_alloc1, size_alloc1] at e
    simp only [World.frozen?, e]; simp
  exact (below_alloc (below_alloc (below_alloc (below_alloc (Below.refl w.heap.size w) _) _) _) _).trans (hb.mono (by simp; omega))
theorem keep4 {w w1 w2 : World} {a0 a1 b0 b1 c0 c1 d0 d1 : Value} (hb : Below w1.heap.size w1 w2) (h : B4 w w1 a0 a1 b0 b1 c0 c1 d0 d1) (hw : Below w.heap.size w w1) : B4 w w2 a0 a1 b0 b1 c0 c1 d0 d1 ∧ Below w.heap.size w w2 := by
  obtain ⟨h1, h2⟩ := bcell hb
  have hz := hb.size
  obtain ⟨z, a, b, c, d, e, f, g, i, j, k⟩ := h
  exact ⟨⟨by omega, (h1 _ _ (by omega)).trans a, (h1 _ _ (by omega)).trans b, (h1 _ _ (by omega)).trans c, (h1 _ _ (by omega)).trans d, (h1 _ _ (by omega)).trans e, (h1 _ _ (by omega)).trans f, (h1 _ _ (by omega)).trans g, (h1 _ _ (by omega)).trans i, fun o => (h2 _ _ (by omega)).trans (j o), fun o => (h2 _ _ (by omega)).trans (k o)⟩, hw.trans (hb.mono hw.size)⟩

/-- Quotient and rest of whole numbers: the quotient rounded down. -/
def Flr (a b q r : Int) : Prop := a = q * b + r ∧ (0 < b ∧ 0 ≤ r ∧ r < b ∨ b < 0 ∧ b < r ∧ r ≤ 0)
/-- What Divide answers. -/
def WDiv (s t : Bool) (n m : Nat) (f h : Nat → Int) (r1 r2 : Bool) (k1 k2 : Nat) (q r : Nat → Int) (er : Int) : Prop :=
  W2 s f n t h m ∧ 0 < m ∧ er = 0 ∧ Flr (wv s f n) (wv t h m) (wv r1 q k1) (wv r2 r k2) ∨ W2 s f n t h m ∧ m = 0 ∧ er = 4 ∧ k1 = 0 ∧ k2 = 0 ∨ ¬ W2 s f n t h m ∧ er = 3 ∧ k1 = 0 ∧ k2 = 0
theorem flr_plain (s t : Bool) (A B Q R : Int) (h : A = Q * B + R) (h0 : 0 ≤ R) (h1 : R < B) (hs : s = t ∨ R = 0) :
    Flr (if s then -A else A) (if t then -B else B) (if (!(s == t)) then -Q else Q) (if t then -R else R) := by
  subst h
  cases s <;> cases t
  · show Flr (Q * B + R) B Q R
    exact ⟨rfl, .inl ⟨by omega, h0, h1⟩⟩
  · have hR : R = 0 := by simpa using hs
    subst hR
    show Flr (Q * B + 0) (-B) (-Q) (-0)
    exact ⟨by rw [Int.neg_mul_neg]; omega, .inr ⟨by omega, by omega, by omega⟩⟩
  · have hR : R = 0 := by simpa using hs
    subst hR
    show Flr (-(Q * B + 0)) B (-Q) 0
    exact ⟨by rw [Int.neg_mul]; omega, .inl ⟨by omega, by omega, by omega⟩⟩
  · show Flr (-(Q * B + R)) (-B) Q (-R)
    exact ⟨by rw [Int.mul_neg]; omega, .inr ⟨by omega, by omega, by omega⟩⟩
theorem flr_down (s t : Bool) (A B Q R : Int) (h : A = Q * B + R) (h0 : 0 < R) (h1 : R < B) (hs : (s == t) = false) :
    Flr (if s then -A else A) (if t then -B else B) (if (!(s == t)) then -(Q + 1) else (Q + 1)) (if t then -(B - R) else (B - R)) := by
  subst h
  cases s <;> cases t
  · cases hs
  · show Flr (Q * B + R) (-B) (-(Q + 1)) (-(B - R))
    exact ⟨by rw [Int.neg_mul_neg, Int.add_mul]; omega, .inr ⟨by omega, by omega, by omega⟩⟩
  · show Flr (-(Q * B + R)) B (-(Q + 1)) (B - R)
    exact ⟨by rw [Int.neg_mul, Int.add_mul]; omega, .inl ⟨by omega, by omega, by omega⟩⟩
  · cases hs

theorem flr_w {s t b : Bool} {n m k1 k2 : Nat} {f h q r : Nat → Int} (hb : b = !(s == t)) (hv : vf f n = vf q k1 * vf h m + vf r k2) (h0 : 0 ≤ vf r k2) (h1 : vf r k2 < vf h m) (hs : s = t ∨ vf r k2 = 0) : Flr (wv s f n) (wv t h m) (wv b q k1) (wv t r k2) := by
  subst hb
  exact flr_plain s t _ _ _ _ hv h0 h1 hs
theorem flr_w2 {s t b : Bool} {n m k1 k2 k3 k4 : Nat} {f h q r q' r' : Nat → Int} (hb : b = !(s == t)) (hv : vf f n = vf q k1 * vf h m + vf r k2) (h0 : 0 < vf r k2) (h1 : vf r k2 < vf h m) (hs : (s == t) = false) (hq : vf q' k3 = vf q k1 + 1) (hr : vf r' k4 = vf h m - vf r k2) : Flr (wv s f n) (wv t h m) (wv b q' k3) (wv t r' k4) := by
  subst hb
  have := flr_down s t _ _ _ _ hv h0 h1 hs
  rw [← hq, ← hr] at this
  exact this

set_option maxRecDepth 100000 in
set_option maxHeartbeats 20000000 in
theorem wDivide_cA (s t : Bool) (ao bo : Option Addr) (n m ca cb : Nat) (f h : Nat → Int) (w : World) (hn : n ≤ 4398046511104) (hm : m ≤ 4398046511104) (hr : Rd .u64 w ao n f) (hs : Rd .u64 w bo m h) (hf : Lm f n) (hh : Lm h m) :
    Calls Tryz.prog 57 #[.agg #[.bool s, .slice ao n ca], .agg #[.bool t, .slice bo m cb]] w fun e w' => ∃ r1 a1 k1 c1 q r2 a2 k2 c2 r er, e = .returned (.tuple #[.agg #[.bool r1, .slice a1 k1 c1], .agg #[.bool r2, .slice a2 k2 c2], .int .i64 er]) ∧ WRes (n + 2) w w' r1 a1 k1 c1 q ∧ WRes (n + m + 1) w w' r2 a2 k2 c2 r ∧ WDiv s t n m f h r1 r2 k1 k2 q r er ∧ Apart a1 a2 := by
  have HR := hid hr; have HS := hid hs; have HF := hid hf; have HH := hid hh
  clear hr hs hf hh
  cases hfa : wfB s f n
  · have c1 := fun W hr' => wForm_c s ao n ca f W (by omega) hr'
    rw [hfa] at c1
    have C1 := hid c1; have HN := hid hfa
    clear c1 hfa
    go_enter Tryz.func57, Tryz.ntmps57
    go_wp2_with fail
    refine (C1.out _ ((((HR.out.alloc _).alloc _).alloc _).alloc _)).mono ?_
    rintro e w1 ⟨rfl, hb⟩
    obtain ⟨⟨hz, x0, x1, y0, y1, c0, c1, d0, d1, cf, df⟩, hw⟩ := boxes4 hb
    have HW := hid hw
    clear hb hw
    go_wp2
    refine bodyPost_ret (v := .tuple #[.agg #[.bool false, .slice none 0 0], .agg #[.bool false, .slice none 0 0], .int .i64 3]) (by simp [results, Tryz.results57, go_sem, c0, c1, d0, d1]) rfl ⟨false, none, 0, 0, f, false, none, 0, 0, f, 3, rfl, ⟨Asw.none f ?_, fun h => by cases h⟩, ⟨Asw.none f ?_, fun h => by cases h⟩, .inr (.inr ⟨(fun x => by have := HN.out.symm.trans x.1; cases this), rfl, rfl, rfl⟩), apart_none _⟩
    all_goals exact below_turned HW.out HW.out.size (((((Turned.refl _ (w.heap.size + 1 + 1 + 1 + 1) _).set (by first | omega | (simp; done) | (simp; omega)) (by first | omega | (simp; done) | (simp; omega)) _).set (by first | omega | (simp; done) | (simp; omega)) (by first | omega | (simp; done) | (simp; omega)) _).set (by first | omega | (simp; done) | (simp; omega)) (by first | omega | (simp; done) | (simp; omega)) _).set (by first | omega | (simp; done) | (simp; omega)) (by first | omega | (simp; done) | (simp; omega)) _) (Nat.le_refl _)
  · have c1 := fun W hr' => wForm_c s ao n ca f W (by omega) hr'
    rw [hfa] at c1
    have C1 := hid c1; have HA := hid hfa
    clear c1 hfa
    cases hfb : wfB t h m
    · have c2 := fun W hr' => wForm_c t bo m cb h W (by omega) hr'
      rw [hfb] at c2
      have C2 := hid c2; have HN := hid hfb
      clear c2 hfb
      go_enter Tryz.func57, Tryz.ntmps57
      go_wp2_with fail
      refine (C1.out _ ((((HR.out.alloc _).alloc _).alloc _).alloc _)).mono ?_
      rintro e w1 ⟨rfl, hb⟩
      obtain ⟨⟨hz, x0, x1, y0, y1, c0, c1, d0, d1, cf, df⟩, hw⟩ := boxes4 hb
      have HW0 := hid hw
      clear hb hw
      go_wp2_with fail
      refine (C2.out _ (HS.out.below HW0.out (Nat.le_refl _))).mono ?_
      rintro e w2 ⟨rfl, hb⟩
      obtain ⟨⟨hz, x0, x1, y0, y1, c0, c1, d0, d1, cf, df⟩, hw⟩ := keep4 hb ⟨hz, x0, x1, y0, y1, c0, c1, d0, d1, cf, df⟩ HW0.out
      have HW := hid hw
      clear hb hw
      go_wp2
      refine bodyPost_ret (v := .tuple #[.agg #[.bool false, .slice none 0 0], .agg #[.bool false, .slice none 0 0], .int .i64 3]) (by simp [results, Tryz.results57, go_sem, c0, c1, d0, d1]) rfl ⟨false, none, 0, 0, f, false, none, 0, 0, f, 3, rfl, ⟨Asw.none f ?_, fun h => by cases h⟩, ⟨Asw.none f ?_, fun h => by cases h⟩, .inr (.inr ⟨(fun x => by have := HN.out.symm.trans x.2; cases this), rfl, rfl, rfl⟩), apart_none _⟩
      all_goals exact below_turned HW.out HW.out.size (((((Turned.refl _ (w.heap.size + 1 + 1 + 1 + 1) _).set (by first | omega | (simp; done) | (simp; omega)) (by first | omega | (simp; done) | (simp; omega)) _).set (by first | omega | (simp; done) | (simp; omega)) (by first | omega | (simp; done) | (simp; omega)) _).set (by first | omega | (simp; done) | (simp; omega)) (by first | omega | (simp; done) | (simp; omega)) _).set (by first | omega | (simp; done) | (simp; omega)) (by first | omega | (simp; done) | (simp; omega)) _) (Nat.le_refl _)
    · have c2 := fun W hr' => wForm_c t bo m cb h W (by omega) hr'
      rw [hfb] at c2
      have C2 := hid c2; have HB := hid hfb
      clear c2 hfb
      by_cases hm0 : m = 0
      · subst hm0
        go_enter Tryz.func57, Tryz.ntmps57
        go_wp2_with fail
        refine (C1.out _ ((((HR.out.alloc _).alloc _).alloc _).alloc _)).mono ?_
        rintro e w1 ⟨rfl, hb⟩
        obtain ⟨⟨hz, x0, x1, y0, y1, c0, c1, d0, d1, cf, df⟩, hw⟩ := boxes4 hb
        have HW0 := hid hw
        clear hb hw
        go_wp2_with fail
        refine (C2.out _ (HS.out.below HW0.out (Nat.le_refl _))).mono ?_
        rintro e w2 ⟨rfl, hb⟩
        obtain ⟨⟨hz, x0, x1, y0, y1, c0, c1, d0, d1, cf, df⟩, hw⟩ := keep4 hb ⟨hz, x0, x1, y0, y1, c0, c1, d0, d1, cf, df⟩ HW0.out
        have HW := hid hw
        clear hb hw
        go_wp2
        refine bodyPost_ret (v := .tuple #[.agg #[.bool false, .slice none 0 0], .agg #[.bool false, .slice none 0 0], .int .i64 4]) (by simp [results, Tryz.results57, go_sem, c0, c1, d0, d1]) rfl ⟨false, none, 0, 0, f, false, none, 0, 0, f, 4, rfl, ⟨Asw.none f ?_, fun h => by cases h⟩, ⟨Asw.none f ?_, fun h => by cases h⟩, .inr (.inl ⟨⟨HA.out, HB.out⟩, rfl, rfl, rfl, rfl⟩), apart_none _⟩
        all_goals exact below_turned HW.out HW.out.size (((((Turned.refl _ (w.heap.size + 1 + 1 + 1 + 1) _).set (by first | omega | (simp; done) | (simp; omega)) (by first | omega | (simp; done) | (simp; omega)) _).set (by first | omega | (simp; done) | (simp; omega)) (by first | omega | (simp; done) | (simp; omega)) _).set (by first | omega | (simp; done) | (simp; omega)) (by first | omega | (simp; done) | (simp; omega)) _).set (by first | omega | (simp; done) | (simp; omega)) (by first | omega | (simp; done) | (simp; omega)) _) (Nat.le_refl _)
      · have hmi : ((m : Int) == 0) = false := by simp; omega
        go_enter Tryz.func57, Tryz.ntmps57
        go_wp2_with fail
        refine (C1.out _ ((((HR.out.alloc _).alloc _).alloc _).alloc _)).mono ?_
        rintro e w1 ⟨rfl, hb⟩
        obtain ⟨⟨hz, x0, x1, y0, y1, c0, c1, d0, d1, cf, df⟩, hw⟩ := boxes4 hb
        have HW0 := hid hw
        clear hb hw
        go_wp2_with fail
        refine (C2.out _ (HS.out.below HW0.out (Nat.le_refl _))).mono ?_
        rintro e w2 ⟨rfl, hb⟩
        obtain ⟨⟨hz, x0, x1, y0, y1, c0, c1, d0, d1, cf, df⟩, hw⟩ := keep4 hb ⟨hz, x0, x1, y0, y1, c0, c1, d0, d1, cf, df⟩ HW0.out
        have HW := hid hw
        clear hb hw
        have hzw0 : w.heap.size + 1 + 1 + 1 < w2.heap.size := hz
        go_wp2_with fail
        refine (DivMod_cA ao bo n m ca cb f h _ (by omega) (by omega) (HR.out.below HW.out (Nat.le_refl _)) (HS.out.below HW.out (Nat.le_refl _)) HF.out HH.out).mono ?_
        rintro e w3 ⟨a1, k1, e1, q, a2, k2, e2, r, er, rfl, hq, hr, hd, hap⟩
        obtain ⟨rfl, hv, hr0, hr1⟩ : er = 0 ∧ vf f n = vf q k1 * vf h m + vf r k2 ∧ 0 ≤ vf r k2 ∧ vf r k2 < vf h m := by
          rcases hd with ⟨_, _, _, h1, h2, h3, h4⟩ | ⟨_, _, h1, _⟩ | ⟨h1, _⟩
          · exact ⟨h1, h2, h3, h4⟩
          · exact absurd h1 hm0
          · exact absurd ⟨fm_of_wfB HA.out, fm_of_wfB HB.out⟩ h1
        obtain ⟨⟨hz, x0, x1, y0, y1, c0, c1, d0, d1, cf, df⟩, hw⟩ := keep4 hq.bel ⟨hz, x0, x1, y0, y1, c0, c1, d0, d1, cf, df⟩ HW.out
        have hk1 : k1 ≤ n := hq.le
        have hk2 : k2 ≤ n + 1 := hr.le
        have HQ := hid hq; have HRr := hid hr; have HV := hid hv; have HR0 := hid hr0; have HR1 := hid hr1; have HW3 := hid hw; have HAP := hid hap
        clear hq hr hv hr0 hr1 hw hd hap
        cases hst : (s == t)
        · by_cases hk0 : k2 = 0
          · subst hk0
            have hnst : Hid (s = t ∨ vf r 0 = 0) := .inr rfl
            have CQ : Hid (∀ (b : Bool) (W : World), Calls Tryz.prog 96 #[.bool b, .slice a1 k1 e1] W fun e w' => ∃ r o, e = .returned (.agg #[.bool r, .slice a1 k1 e1]) ∧ Hid (r = (b && decide (0 < k1))) ∧ w' = W.alloc o) := fun b W => signed_c b a1 k1 e1 W (by omega)
            have CR : Hid (∀ (b : Bool) (W : World), Calls Tryz.prog 96 #[.bool b, .slice a2 0 e2] W fun e w' => ∃ r o, e = .returned (.agg #[.bool r, .slice a2 0 e2]) ∧ Hid (r = (b && decide (0 < 0))) ∧ w' = W.alloc o) := fun b W => signed_c b a2 0 e2 W (by omega)
            have ic0 : (w3.cell? ⟨w.heap.size + 1 + 1, 0, none⟩).isSome = true := by rw [c0]; rfl
            have ic1 : (w3.cell? ⟨w.heap.size + 1 + 1, 1, none⟩).isSome = true := by rw [c1]; rfl
            have id0 : (w3.cell? ⟨w.heap.size + 1 + 1 + 1, 0, none⟩).isSome = true := by rw [d0]; rfl
            have id1 : (w3.cell? ⟨w.heap.size + 1 + 1 + 1, 1, none⟩).isSome = true := by rw [d1]; rfl
            have hz0 : w.heap.size < w3.heap.size := by omega
            have hz1 : w.heap.size + 1 < w3.heap.size := by omega
            have hz2 : w.heap.size + 1 + 1 < w3.heap.size := by omega
            have hz3 : w.heap.size + 1 + 1 < w3.heap.size + 1 := by omega
            have hz4 : w.heap.size + 1 + 1 + 1 < w3.heap.size + 1 := by omega
            go_wp2
            go_region_held3 (fun w' => w'.cell? ⟨w.heap.size, 0, none⟩ = some (.bool s) ∧ w'.cell? ⟨w.heap.size + 1, 0, none⟩ = some (.bool t) ∧ (w'.cell? ⟨w.heap.size + 1 + 1, 0, none⟩).isSome = true ∧ (w'.cell? ⟨w.heap.size + 1 + 1, 1, none⟩).isSome = true ∧ (w'.cell? ⟨w.heap.size + 1 + 1 + 1, 0, none⟩).isSome = true ∧ (w'.cell? ⟨w.heap.size + 1 + 1 + 1, 1, none⟩).isSome = true ∧ w'.frozen? ⟨w.heap.size + 1 + 1, 0, none⟩ = false ∧ w'.frozen? ⟨w.heap.size + 1 + 1, 1, none⟩ = false ∧ w'.frozen? ⟨w.heap.size + 1 + 1 + 1, 0, none⟩ = false ∧ w'.frozen? ⟨w.heap.size + 1 + 1 + 1, 1, none⟩ = false) (refine ⟨?_, ?_, ?_, ?_, ?_, ?_, ?_, ?_, ?_, ?_⟩ <;> repeat (with_reducible first | assumption | exact cf _ | exact df _ | refine kCd ?_ | refine kId ?_ | refine kFd ?_ | refine kCa ?_ | refine kIa ?_ | refine kFa ?_ ?_ | refine kCs (by simp only [ne_eq]; omega) ?_ | refine kIs ?_ | refine kFs ?_)) (first | (go_at_call 96; with_reducible refine (CQ.out _ _).mono ?_; rintro e w8 ⟨s1, o1, rfl, hs1, rfl⟩) | (go_at_call 96; with_reducible refine (CR.out _ _).mono ?_; rintro e w9 ⟨s2, o2, rfl, hs2, rfl⟩))
            all_goals
              go_wp2
              refine bodyPost_ret (v := .tuple #[.agg #[.bool s1, .slice a1 k1 e1], .agg #[.bool s2, .slice a2 0 e2], .int .i64 0]) (by simp [results, Tryz.results57, go_sem, c0, c1, d0, d1, hz2, hz, hz3, hz4]) rfl ⟨s1, a1, k1, e1, q, s2, a2, 0, e2, r, 0, rfl, WRes.mk' hs1 (((HQ.out.turned HW.out (by repeat (with_reducible first | exact Turned.refl _ _ _ | refine Turned.drew ?_ | refine Turned.alloc ?_ _ | refine Turned.set ?_ (by first | omega | (simp; done) | (simp; omega)) (by first | omega | (simp; done) | (simp; omega)) _))).mono (by omega)).ans (by omega)), WRes.mk' hs2 (((HRr.out.turned HW.out (by repeat (with_reducible first | exact Turned.refl _ _ _ | refine Turned.drew ?_ | refine Turned.alloc ?_ _ | refine Turned.set ?_ (by first | omega | (simp; done) | (simp; omega)) (by first | omega | (simp; done) | (simp; omega)) _))).mono (by omega)).ans (by omega)), .inl ⟨⟨HA.out, HB.out⟩, by omega, rfl, ?_⟩, HAP.out⟩
              rw [wv_sign hs1, wv_sign hs2]
              exact flr_w (by rw [hst]; rfl) HV.out HR0.out HR1.out hnst.out

          · have hkd : decide ((0 : Int) < (k2 : Int)) = true := by simp; omega
            have HRp := hid (vf_pos HRr.out.lm HRr.out.fm (show 0 < k2 by omega))
            have HQa := hid (HQ.out.rd.alloc (.cells #[.int .u64 1] 28))
            go_wp2_with fail
            refine (Add_c a1 (some ⟨w3.heap.size, 0, none⟩) k1 1 e1 1 q (fun _ => 1) _ (by omega) (by omega) HQa.out (rd_new1 _ _ _) HQ.out.lm (lm_const (by omega) (by omega) 1)).mono ?_
            rintro e w4 ⟨a3, k3, e3, q', er, rfl, hq', hc⟩
            obtain ⟨rfl, hv'⟩ : er = 0 ∧ vf q' k3 = vf q k1 + 1 := by
              rcases hc with ⟨_, _, h1, h2⟩ | ⟨h1, _⟩
              · exact ⟨h1, by rw [h2, vf_one]⟩
              · exact absurd ⟨HQ.out.fm, .inr (by decide)⟩ h1
            clear hc
            have hb4 : Below w3.heap.size w3 w4 := (below_alloc (Below.refl _ _) _).trans (hq'.bel.mono (by simp))
            obtain ⟨⟨hz, x0, x1, y0, y1, c0, c1, d0, d1, cf, df⟩, hw⟩ := keep4 hb4 ⟨hz, x0, x1, y0, y1, c0, c1, d0, d1, cf, df⟩ HW3.out
            have hk3 : k3 ≤ max k1 1 + 1 := hq'.le
            have HQ' := hid hq'; have HV' := hid hv'; have HW4 := hid hw; have HRd4 := hid (HRr.out.rd.below hb4 (Nat.le_refl _)); have hzw4 : w.heap.size + 1 + 1 + 1 < w4.heap.size := hz
            clear hq' hv' hw hb4
            go_wp2_with fail
            refine (Sub_c bo a2 m k2 cb e2 h r _ (by omega) (by omega) (HS.out.below HW4.out (Nat.le_refl _)) HRd4.out HH.out HRr.out.lm).mono ?_
            rintro e w5 ⟨a4, k4, e4, r', er, rfl, hr', hc⟩
            obtain ⟨rfl, hv''⟩ : er = 0 ∧ vf r' k4 = vf h m - vf r k2 := by
              rcases hc with ⟨_, _, _, h1, h2⟩ | ⟨_, _, h1, _⟩ | ⟨h1, _⟩
              · exact ⟨h1, h2⟩
              · have := HR1.out; omega
              · exact absurd ⟨fm_of_wfB HB.out, HRr.out.fm⟩ h1
            clear hc
            obtain ⟨⟨hz, x0, x1, y0, y1, c0, c1, d0, d1, cf, df⟩, hw⟩ := keep4 hr'.bel ⟨hz, x0, x1, y0, y1, c0, c1, d0, d1, cf, df⟩ HW4.out
            have hk4 : k4 ≤ m := hr'.le
            have HR' := hid hr'; have HV'' := hid hv''; have HQ'' := hid (HQ'.out.later hr'.bel); have HAP2 := hid (hr'.apart HQ'.out.und (Nat.le_refl _))
            have hzw3 : w.heap.size + 1 + 1 + 1 < (w3.alloc (.cells #[.int .u64 1] 28)).heap.size := by simp; omega
            clear hr' hv'' hw
            have CQ : Hid (∀ (b : Bool) (W : World), Calls Tryz.prog 96 #[.bool b, .slice a3 k3 e3] W fun e w' => ∃ r o, e = .returned (.agg #[.bool r, .slice a3 k3 e3]) ∧ Hid (r = (b && decide (0 < k3))) ∧ w' = W.alloc o) := fun b W => signed_c b a3 k3 e3 W (by omega)
            have CR : Hid (∀ (b : Bool) (W : World), Calls Tryz.prog 96 #[.bool b, .slice a4 k4 e4] W fun e w' => ∃ r o, e = .returned (.agg #[.bool r, .slice a4 k4 e4]) ∧ Hid (r = (b && decide (0 < k4))) ∧ w' = W.alloc o) := fun b W => signed_c b a4 k4 e4 W (by omega)
            have ic0 : (w5.cell? ⟨w.heap.size + 1 + 1, 0, none⟩).isSome = true := by rw [c0]; rfl
            have ic1 : (w5.cell? ⟨w.heap.size + 1 + 1, 1, none⟩).isSome = true := by rw [c1]; rfl
            have id0 : (w5.cell? ⟨w.heap.size + 1 + 1 + 1, 0, none⟩).isSome = true := by rw [d0]; rfl
            have id1 : (w5.cell? ⟨w.heap.size + 1 + 1 + 1, 1, none⟩).isSome = true := by rw [d1]; rfl
            have hz0 : w.heap.size < w5.heap.size := by omega
            have hz1 : w.heap.size + 1 < w5.heap.size := by omega
            have hz2 : w.heap.size + 1 + 1 < w5.heap.size := by omega
            have hz3 : w.heap.size + 1 + 1 < w5.heap.size + 1 := by omega
            have hz4 : w.heap.size + 1 + 1 + 1 < w5.heap.size + 1 := by omega
            go_wp2
            go_region_held3 (fun w' => w'.cell? ⟨w.heap.size, 0, none⟩ = some (.bool s) ∧ w'.cell? ⟨w.heap.size + 1, 0, none⟩ = some (.bool t) ∧ (w'.cell? ⟨w.heap.size + 1 + 1, 0, none⟩).isSome = true ∧ (w'.cell? ⟨w.heap.size + 1 + 1, 1, none⟩).isSome = true ∧ (w'.cell? ⟨w.heap.size + 1 + 1 + 1, 0, none⟩).isSome = true ∧ (w'.cell? ⟨w.heap.size + 1 + 1 + 1, 1, none⟩).isSome = true ∧ w'.frozen? ⟨w.heap.size + 1 + 1, 0, none⟩ = false ∧ w'.frozen? ⟨w.heap.size + 1 + 1, 1, none⟩ = false ∧ w'.frozen? ⟨w.heap.size + 1 + 1 + 1, 0, none⟩ = false ∧ w'.frozen? ⟨w.heap.size + 1 + 1 + 1, 1, none⟩ = false) (refine ⟨?_, ?_, ?_, ?_, ?_, ?_, ?_, ?_, ?_, ?_⟩ <;> repeat (with_reducible first | assumption | exact cf _ | exact df _ | refine kCd ?_ | refine kId ?_ | refine kFd ?_ | refine kCa ?_ | refine kIa ?_ | refine kFa ?_ ?_ | refine kCs (by simp only [ne_eq]; omega) ?_ | refine kIs ?_ | refine kFs ?_)) (first | (go_at_call 96; with_reducible refine (CQ.out _ _).mono ?_; rintro e w8 ⟨s1, o1, rfl, hs1, rfl⟩) | (go_at_call 96; with_reducible refine (CR.out _ _).mono ?_; rintro e w9 ⟨s2, o2, rfl, hs2, rfl⟩))
            all_goals
              go_wp2
              refine bodyPost_ret (v := .tuple #[.agg #[.bool s1, .slice a3 k3 e3], .agg #[.bool s2, .slice a4 k4 e4], .int .i64 0]) (by simp [results, Tryz.results57, go_sem, c0, c1, d0, d1, hz2, hz, hz3, hz4]) rfl ⟨s1, a3, k3, e3, q', s2, a4, k4, e4, r', 0, rfl, WRes.mk' hs1 (((HQ''.out.turned (below_alloc HW3.out _) (by repeat (with_reducible first | exact Turned.refl _ _ _ | refine Turned.drew ?_ | refine Turned.alloc ?_ _ | refine Turned.set ?_ (by first | omega | (simp; done) | (simp; omega)) (by first | omega | (simp; done) | (simp; omega)) _))).mono (by omega)).ans (by omega)), WRes.mk' hs2 (((HR'.out.turned HW4.out (by repeat (with_reducible first | exact Turned.refl _ _ _ | refine Turned.drew ?_ | refine Turned.alloc ?_ _ | refine Turned.set ?_ (by first | omega | (simp; done) | (simp; omega)) (by first | omega | (simp; done) | (simp; omega)) _))).mono (by omega)).ans (by omega)), .inl ⟨⟨HA.out, HB.out⟩, by omega, rfl, ?_⟩, HAP2.out⟩
              rw [wv_sign hs1, wv_sign hs2]
              exact flr_w2 (by rw [hst]; rfl) HV.out HRp.out HR1.out hst HV'.out HV''.out

        · obtain rfl : s = t := by simpa using hst
          have hnst : Hid (s = s ∨ vf r k2 = 0) := .inl rfl
          clear hst
          have CQ : Hid (∀ (b : Bool) (W : World), Calls Tryz.prog 96 #[.bool b, .slice a1 k1 e1] W fun e w' => ∃ r o, e = .returned (.agg #[.bool r, .slice a1 k1 e1]) ∧ Hid (r = (b && decide (0 < k1))) ∧ w' = W.alloc o) := fun b W => signed_c b a1 k1 e1 W (by omega)
          have CR : Hid (∀ (b : Bool) (W : World), Calls Tryz.prog 96 #[.bool b, .slice a2 k2 e2] W fun e w' => ∃ r o, e = .returned (.agg #[.bool r, .slice a2 k2 e2]) ∧ Hid (r = (b && decide (0 < k2))) ∧ w' = W.alloc o) := fun b W => signed_c b a2 k2 e2 W (by omega)
          have ic0 : (w3.cell? ⟨w.heap.size + 1 + 1, 0, none⟩).isSome = true := by rw [c0]; rfl
          have ic1 : (w3.cell? ⟨w.heap.size + 1 + 1, 1, none⟩).isSome = true := by rw [c1]; rfl
          have id0 : (w3.cell? ⟨w.heap.size + 1 + 1 + 1, 0, none⟩).isSome = true := by rw [d0]; rfl
          have id1 : (w3.cell? ⟨w.heap.size + 1 + 1 + 1, 1, none⟩).isSome = true := by rw [d1]; rfl
          have hz0 : w.heap.size < w3.heap.size := by omega
          have hz1 : w.heap.size + 1 < w3.heap.size := by omega
          have hz2 : w.heap.size + 1 + 1 < w3.heap.size := by omega
          have hz3 : w.heap.size + 1 + 1 < w3.heap.size + 1 := by omega
          have hz4 : w.heap.size + 1 + 1 + 1 < w3.heap.size + 1 := by omega
          go_wp2
          go_region_held3 (fun w' => w'.cell? ⟨w.heap.size, 0, none⟩ = some (.bool s) ∧ w'.cell? ⟨w.heap.size + 1, 0, none⟩ = some (.bool s) ∧ (w'.cell? ⟨w.heap.size + 1 + 1, 0, none⟩).isSome = true ∧ (w'.cell? ⟨w.heap.size + 1 + 1, 1, none⟩).isSome = true ∧ (w'.cell? ⟨w.heap.size + 1 + 1 + 1, 0, none⟩).isSome = true ∧ (w'.cell? ⟨w.heap.size + 1 + 1 + 1, 1, none⟩).isSome = true ∧ w'.frozen? ⟨w.heap.size + 1 + 1, 0, none⟩ = false ∧ w'.frozen? ⟨w.heap.size + 1 + 1, 1, none⟩ = false ∧ w'.frozen? ⟨w.heap.size + 1 + 1 + 1, 0, none⟩ = false ∧ w'.frozen? ⟨w.heap.size + 1 + 1 + 1, 1, none⟩ = false) (refine ⟨?_, ?_, ?_, ?_, ?_, ?_, ?_, ?_, ?_, ?_⟩ <;> repeat (with_reducible first | assumption | exact cf _ | exact df _ | refine kCd ?_ | refine kId ?_ | refine kFd ?_ | refine kCa ?_ | refine kIa ?_ | refine kFa ?_ ?_ | refine kCs (by simp only [ne_eq]; omega) ?_ | refine kIs ?_ | refine kFs ?_)) (first | (go_at_call 96; with_reducible refine (CQ.out _ _).mono ?_; rintro e w8 ⟨s1, o1, rfl, hs1, rfl⟩) | (go_at_call 96; with_reducible refine (CR.out _ _).mono ?_; rintro e w9 ⟨s2, o2, rfl, hs2, rfl⟩))
          all_goals
            go_wp2
            refine bodyPost_ret (v := .tuple #[.agg #[.bool s1, .slice a1 k1 e1], .agg #[.bool s2, .slice a2 k2 e2], .int .i64 0]) (by simp [results, Tryz.results57, go_sem, c0, c1, d0, d1, hz2, hz, hz3, hz4]) rfl ⟨s1, a1, k1, e1, q, s2, a2, k2, e2, r, 0, rfl, WRes.mk' hs1 (((HQ.out.turned HW.out (by repeat (with_reducible first | exact Turned.refl _ _ _ | refine Turned.drew ?_ | refine Turned.alloc ?_ _ | refine Turned.set ?_ (by first | omega | (simp; done) | (simp; omega)) (by first | omega | (simp; done) | (simp; omega)) _))).mono (by omega)).ans (by omega)), WRes.mk' hs2 (((HRr.out.turned HW.out (by repeat (with_reducible first | exact Turned.refl _ _ _ | refine Turned.drew ?_ | refine Turned.alloc ?_ _ | refine Turned.set ?_ (by first | omega | (simp; done) | (simp; omega)) (by first | omega | (simp; done) | (simp; omega)) _))).mono (by omega)).ans (by omega)), .inl ⟨⟨HA.out, HB.out⟩, by omega, rfl, ?_⟩, HAP.out⟩
            rw [wv_sign hs1, wv_sign hs2]
            exact flr_w (by simp) HV.out HR0.out HR1.out (.inl rfl)
theorem wDivide_c (s t : Bool) (ao bo : Option Addr) (n m ca cb : Nat) (f h : Nat → Int) (w : World) (hn : n ≤ 4398046511104) (hm : m ≤ 4398046511104) (hr : Rd .u64 w ao n f) (hs : Rd .u64 w bo m h) (hf : Lm f n) (hh : Lm h m) :
    Calls Tryz.prog 57 #[.agg #[.bool s, .slice ao n ca], .agg #[.bool t, .slice bo m cb]] w fun e w' => ∃ r1 a1 k1 c1 q r2 a2 k2 c2 r er, e = .returned (.tuple #[.agg #[.bool r1, .slice a1 k1 c1], .agg #[.bool r2, .slice a2 k2 c2], .int .i64 er]) ∧ WRes (n + 2) w w' r1 a1 k1 c1 q ∧ WRes (n + m + 1) w w' r2 a2 k2 c2 r ∧ WDiv s t n m f h r1 r2 k1 k2 q r er :=
  (wDivide_cA s t ao bo n m ca cb f h w hn hm hr hs hf hh).mono fun _ _ ⟨r1, a1, k1, c1, q, r2, a2, k2, c2, r, er, h1, h2, h3, h4, _⟩ => ⟨r1, a1, k1, c1, q, r2, a2, k2, c2, r, er, h1, h2, h3, h4⟩
end Go.Proofs.YtlpmfmphglgocaaGreatDoor
namespace Go.Proofs.YtlpmfmphglgocaaGreatDoor
open Go.RowKit

set_option maxRecDepth 100000 in
set_option maxHeartbeats 400000 in
/-- Twin: a list of its own. -/
theorem twin_c (ao : Option Addr) (n cap : Nat) (f : Nat → Int) (w : World) (hn : n ≤ 17592186044416) (hr : Rd .u64 w ao n f) (hnil : ao = none → n = 0 ∧ cap = 0) :
    Calls Tryz.prog 26 #[.slice ao n cap] w fun e w' => ∃ ao' cap', e = .returned (.slice ao' n cap') ∧ Below w.heap.size w w' ∧ Rd .u64 w' ao' n f ∧ Own .u64 28 w' w.heap.size (.slice ao' n cap') n f := by
  cases ao with
  | none =>
    obtain ⟨rfl, rfl⟩ := hnil rfl
    go_enter Tryz.func26, Tryz.ntmps26
    obtain ⟨i0, hi, hz0, hz1, hz2⟩ := info_parts Tryz.infoU64
    go_wp2_with (at_builtin; refine wpList_append_own_none rfl (.tmp 4) (.tmp 5) 22 rfl w.heap.size 28 i0 1 Tryz.underlying22 hi (.slice none 0 0) 0 [] rfl (World.ownsRow_nil _ _ _ _) rfl ?_)
    go_ret
    exact ⟨none, 0, rfl, Below.refl _ _, Rd.zero, own_nil _ _ _ _ _⟩
  | some ad =>
    clear hnil
    have HR := hid hr
    clear hr
    go_enter Tryz.func26, Tryz.ntmps26
    obtain ⟨i0, hi, hz0, hz1, hz2⟩ := info_parts Tryz.infoU64
    go_wp2_with (at_builtin; refine wpList_append_own w rfl (.tmp 4) (.tmp 5) 22 rfl w.heap.size 28 i0 (.int .u64 0) 1 8 Tryz.underlying22 hi hz0 hz1 hz2 rfl (by decide) (.slice none 0 0) 0 [] rfl (World.ownsRow_nil _ _ _ _) ad n cap (lst .u64 f n) rfl (by rw [lst_length, Nat.mul_one]) ?c1 (lst_one _ _ _) ?c2 ?c3 (Nat.le_refl _) ?_)
    case c1 =>
      intro j u hu
      obtain ⟨hj, rfl⟩ := lst_getE hu
      obtain ⟨b, o, e, hc⟩ := HR.out j hj
      cases e
      rw [addr_add]; exact hc
    case c2 => unfold maxLen; omega
    case c3 => omega
    intro v' w' hown hgr _
    have hown' : Own .u64 28 w' w.heap.size v' n f := hown
    have hbel : Below w.heap.size w w' := (Below.refl _ _).grown hgr (Nat.le_refl _) (fun k h => by simp [Value.ownBlock] at h)
    have hs := hown'.shape
    obtain ⟨ao', cap', hv, hcc, hnn, hml, hrd, hlt⟩ := hs
    rw [hv] at hown' ⊢
    clear hown hgr hv
    have HO := hid hown'
    clear hown'
    go_wp2
    go_ret
    exact ⟨ao', cap', rfl, hbel, hrd, HO.out⟩

/-- The two digits of a limb. -/
def two32 (x : Int) : Nat → Int := fun j => if j = 0 then x % 4294967296 else x / 4294967296
/-- The digits of limbs. -/
def dig (f : Nat → Int) : Nat → Int := fun j => if j % 2 = 0 then f (j / 2) % 4294967296 else f (j / 2) / 4294967296
theorem dig_cat (f : Nat → Int) (k : Nat) : ∀ j, j < 2 * k + 2 → cat (dig f) (2 * k) (two32 (f k)) j = dig f j := by
  intro j hj
  by_cases h : j < 2 * k
  · exact cat_in h
  · rw [cat_out (by omega)]
    by_cases h2 : j = 2 * k
    · subst h2
      have e1 : 2 * k - 2 * k = 0 := by omega
      have e2 : 2 * k / 2 = k := by omega
      have e3 : 2 * k % 2 = 0 := by omega
      simp [two32, dig]
    · obtain rfl : j = 2 * k + 1 := by omega
      have e1 : 2 * k + 1 - 2 * k = 1 := by omega
      have e2 : (2 * k + 1) / 2 = k := by omega
      have e3 : (2 * k + 1) % 2 = 1 := by omega
      simp [two32, dig, e1, e2, e3]
theorem pd_two (k : Nat) : pd (2 * k) = pw k := by
  induction k with
  | zero => rfl
  | succ k ih =>
    have e : 2 * (k + 1) = 2 * k + 1 + 1 := by omega
    rw [e, pd_succ, pd_succ, pw_succ, ih]; omega
theorem dig_lm {f : Nat → Int} {n : Nat} (h : Lm f n) : Dg (dig f) (2 * n) := by
  intro j hj
  have := h (j / 2) (by omega)
  unfold dig
  split <;> omega
theorem dig_val (f : Nat → Int) (n : Nat) : vd (dig f) (2 * n) = vf f n := by
  induction n with
  | zero => rfl
  | succ k ih =>
    have e : 2 * (k + 1) = 2 * k + 1 + 1 := by omega
    have e2 : (2 * k + 1) / 2 = k := by omega
    have e3 : (2 * k + 1) % 2 = 1 := by omega
    have e4 : 2 * k / 2 = k := by omega
    have e5 : 2 * k % 2 = 0 := by omega
    have a1 : dig f (2 * k) = f k % 4294967296 := by simp [dig]
    have a2 : dig f (2 * k + 1) = f k / 4294967296 := by simp [dig, e2, e3]
    rw [e, vd_succ, vd_succ, ih, vf_succ, pd_succ, pd_two, a1, a2]
    have e6 : f k = 4294967296 * (f k / 4294967296) + f k % 4294967296 := by omega
    have e7 : f k * pw k = (4294967296 * (f k / 4294967296) + f k % 4294967296) * pw k := by rw [← e6]
    rw [e7]
    grind

theorem rd_new2 (w : World) (e : TypeId) (x : Int) : Rd .u64 (w.alloc (.cells #[.int .u64 (x % 4294967296), .int .u64 (x / 4294967296)] e)) (some ⟨w.heap.size, 0, none⟩) 2 (two32 x) :=
  Rd.mk (fun j hj => by
    rw [Nat.zero_add, World.cell?_alloc_new]
    rcases (show j = 0 ∨ j = 1 by omega) with rfl | rfl <;> simp [two32])

set_option maxRecDepth 100000 in
set_option maxHeartbeats 1000000 in
/-- From: the digits of limbs. -/
theorem fromNew_c (ao : Option Addr) (n cap : Nat) (f : Nat → Int) (w : World) (hn : n ≤ 1048576) (hr : Rd .u64 w ao n f) (hf : Lm f n) :
    Calls Tryz.prog 93 #[.slice ao n cap] w fun e w' => ∃ ao' m cap', e = .returned (.slice ao' m cap') ∧ (∀ a, ao' = some a → w.heap.size ≤ a.block) ∧ m ≤ cap' ∧ cap' ≤ 9223372036854775807 ∧ Below w.heap.size w w' ∧ Rd .u64 w' ao' m (dig f) ∧ m ≤ 2 * n ∧ (ao' = none → m = 0) ∧ Dg (dig f) m ∧ Fm (dig f) m ∧ vd (dig f) m = vf f n := by
  have HR := hid hr
  have HF := hid hf
  clear hr hf
  obtain ⟨i0, hi, hz0, hz1, hz2⟩ := info_parts Tryz.infoU64
  go_enter Tryz.func93, Tryz.ntmps93
  go_wp2_with (at_make; refine wpList_make_own w rfl (.const (.int .i64 0)) (.tmp 8) 22 rfl w.heap.size 28 i0 (.int .u64 0) 1 Tryz.underlying22 hi hz0 hz1 .i64 .i64 (2 * (n : Int)) (2 * n) rfl rfl (by omega) (by rw [hz2]; omega) (by unfold maxLen; omega) (Nat.le_refl _) ?_; intro w1 hown1 hgr1)
  have hb1 : Below w.heap.size w w1 := (Below.refl _ _).grown hgr1 (Nat.le_refl _) (fun k h => by cases h)
  have ho1 : Own .u64 28 w1 w.heap.size (.slice (some ⟨w.heap.size, 0, none⟩) 0 (2 * n)) 0 (dig f) := hown1
  clear hown1 hgr1
  have HO1 := hid ho1
  clear ho1
  go_loopw [3, 12] (fun v t wr => ∃ k : Nat, k ≤ n ∧ t = .int .i64 k ∧ Below w.heap.size w wr ∧ Hid (Own .u64 28 wr w.heap.size v (2 * k) (dig f))) (fun _ t _ => n - (intOf t).toNat)
  case atStart => exact ⟨0, by omega, rfl, hb1, HO1.out⟩
  case round =>
    clear hb1 HO1
    obtain ⟨k, hk, rfl, hbel, HO⟩ := hrel
    by_cases hlt : k < n
    · have hr := HR.out
      obtain ⟨b, o, rfl⟩ := hr.at (by omega)
      obtain ⟨x, hx⟩ : ∃ x, f k = x := ⟨_, rfl⟩
      have hcell : wr.cell? ⟨b, o + k, none⟩ = some (.int .u64 x) := by rw [← hx]; exact (hr.below hbel (Nat.le_refl _)).cell hlt
      obtain ⟨x0, x1⟩ := HF.out k hlt
      rw [hx] at x0 x1
      have HX := hid hx
      clear hx hr
      go_wp2_with (at_builtin; refine wpList_append_own_list .u64 _ rfl (.tmp 16) (.tmp 21) 22 rfl w.heap.size 28 8 Tryz.underlying22 Tryz.infoU64 _ (2 * k) (dig f) rfl (Own.alloc HO.out _) wr.heap.size 0 2 2 (two32 x) rfl (rd_new2 wr _ x) ?c1 ?c2 ?c3 ?_)
      case c1 => unfold maxLen; omega
      case c2 => omega
      case c3 => have := hbel.size; simp; omega
      intro v' w' hown hgr
      have hown2 : Own .u64 28 w' w.heap.size v' (2 * (k + 1)) (dig f) := (show Own .u64 28 w' w.heap.size v' (2 * k + 2) _ from hown).congr (fun j hj => by rw [← HX.out]; exact dig_cat f k j hj)
      have hbel2 : Below w.heap.size w w' := (hbel.alloc hbel.size _).grown hgr (by have := hbel.size; simp; omega) (fun k h => (Own.ge HO.out k h))
      have HO2 := hid hown2
      clear hown hgr hown2 HO
      go_wp2
      go_roundw
      case rel => exact ⟨k + 1, by omega, by go_num, hbel2, HO2.out⟩
      case measure => simp [intOf]; omega
    · have hkn : k = n := by omega
      subst hkn
      obtain ⟨ao', cap', hv, hcc, hnn, hml, hrd, hlt2⟩ := HO.out.shape
      unfold maxLen at hml
      subst hv
      have HNew := hid (fun a ha => (hlt2 a ha).1)
      clear HO hlt2
      go_wp2_with fail
      refine (low_c ao' (2 * k) cap' (dig f) wr hcc hml hrd hnn).mono ?_
      rintro e w2 ⟨rfl, m, hm, hz, hfm, rfl⟩
      have HZ := hid hz
      have HFM := hid hfm
      clear hz hfm
      go_wp2
      go_ret
      refine ⟨ao', m, cap', rfl, HNew.out, by omega, hml, hbel, hrd.take hm, hm, fun h => ?_, (dig_lm HF.out).mono hm, HFM.out, ?_⟩
      · have := hnn h; omega
      · rw [trim_vald hm HZ.out]; exact dig_val f k

theorem from_c (ao : Option Addr) (n cap : Nat) (f : Nat → Int) (w : World) (hn : n ≤ 1048576) (hr : Rd .u64 w ao n f) (hf : Lm f n) :
    Calls Tryz.prog 93 #[.slice ao n cap] w fun e w' => ∃ ao' m cap', e = .returned (.slice ao' m cap') ∧ Below w.heap.size w w' ∧ Rd .u64 w' ao' m (dig f) ∧ m ≤ 2 * n ∧ (ao' = none → m = 0) ∧ Dg (dig f) m ∧ Fm (dig f) m ∧ vd (dig f) m = vf f n :=
  (fromNew_c ao n cap f w hn hr hf).mono (fun _ _ ⟨a, m, c, h1, _, _, _, h2⟩ => ⟨a, m, c, h1, h2⟩)

/-- The limbs of digits. -/
def lim (d : Nat → Int) (n : Nat) : Nat → Int := fun j => ext d n (2 * j) + 4294967296 * ext d n (2 * j + 1)
theorem ext_dg {d : Nat → Int} {n : Nat} (h : Dg d n) (j : Nat) : 0 ≤ ext d n j ∧ ext d n j < 4294967296 := by
  by_cases hj : j < n
  · rw [ext_in _ _ _ hj]; exact h j hj
  · rw [ext_out _ _ _ (by omega)]; omega
theorem lim_lm {d : Nat → Int} {n : Nat} (h : Dg d n) (k : Nat) : Lm (lim d n) k := fun j _ => by
  have a := ext_dg h (2 * j); have b := ext_dg h (2 * j + 1)
  unfold lim; omega
theorem lim_val (d : Nat → Int) (n k : Nat) : vf (lim d n) k = vd (ext d n) (2 * k) := by
  induction k with
  | zero => rfl
  | succ k ih =>
    have e : 2 * (k + 1) = 2 * k + 1 + 1 := by omega
    rw [e, vd_succ, vd_succ, ← ih, vf_succ, pd_succ, pd_two, lim]; grind
theorem vd_ext_list (h : Nat → Int) (m n : Nat) (hn : m ≤ n) : vd (ext h m) n = vd h m := by
  rw [vd_ext hn (fun j h1 _ => ext_out h m j h1)]
  exact vd_congr (fun j hj => ext_in h m j hj)
theorem lim_fm {d : Nat → Int} {n k : Nat} (h : Dg d n) (hf : Fm d n) (h1 : n ≤ 2 * k) (h2 : 2 * k ≤ n + 1) : Fm (lim d n) k := by
  by_cases h0 : n = 0
  · left; omega
  · right
    have hd : d (n - 1) ≠ 0 := by rcases hf with h | h; omega; exact h
    have a := ext_dg h (2 * (k - 1)); have b := ext_dg h (2 * (k - 1) + 1)
    unfold lim
    rcases (show n - 1 = 2 * (k - 1) ∨ n - 1 = 2 * (k - 1) + 1 by omega) with e | e
    · have := ext_in d n (2 * (k - 1)) (by omega)
      rw [← e] at this a ⊢
      omega
    · have := ext_in d n (2 * (k - 1) + 1) (by omega)
      rw [← e] at this b ⊢
      omega
theorem cat_one {f : Nat → Int} {k : Nat} {x : Int} (h : f k = x) : ∀ j, j < k + 1 → cat f k (fun _ => x) j = f j := by
  intro j hj
  by_cases h1 : j < k
  · exact cat_in h1
  · obtain rfl : j = k := by omega
    rw [cat_out (Nat.le_refl _), h]

set_option maxRecDepth 100000 in
set_option maxHeartbeats 1000000 in
/-- To: the limbs of digits. -/
theorem toOwn_c (ao : Option Addr) (n cap : Nat) (d : Nat → Int) (w : World) (hn : n ≤ 1048576) (hr : Rd .u64 w ao n d) (hd : Dg d n) (hfm : Fm d n) :
    Calls Tryz.prog 84 #[.slice ao n cap] w fun e w' => ∃ ao' m cap' f, e = .returned (.slice ao' m cap') ∧ Own .u64 28 w' w.heap.size (.slice ao' m cap') m f ∧ Below w.heap.size w w' ∧ Rd .u64 w' ao' m f ∧ m ≤ n ∧ Lm f m ∧ Fm f m ∧ vf f m = vd d n := by
  have HR := hid hr
  have HD := hid hd
  have HFM := hid hfm
  clear hr hd hfm
  go_enter Tryz.func84, Tryz.ntmps84
  go_wp2
  go_loopw [3, 4] (fun v t wr => ∃ k : Nat, 2 * k ≤ n + 1 ∧ t = .int .i64 (2 * k) ∧ Below w.heap.size w wr ∧ Hid (Own .u64 28 wr w.heap.size v k (lim d n))) (fun _ t _ => n + 2 - (intOf t).toNat)
  case atStart => exact ⟨0, by omega, rfl, Below.refl _ _, own_nil _ _ _ _ _⟩
  case round =>
    obtain ⟨k, hk, rfl, hbel, HO⟩ := hrel
    by_cases hlt : 2 * k < n
    · have hr := HR.out
      obtain ⟨b, o, rfl⟩ := hr.at (by omega)
      obtain ⟨x, hx⟩ : ∃ x, d (2 * k) = x := ⟨_, rfl⟩
      have hcell : wr.cell? ⟨b, o + 2 * k, none⟩ = some (.int .u64 x) := by rw [← hx]; exact (hr.below hbel (Nat.le_refl _)).cell hlt
      obtain ⟨x0, x1⟩ := HD.out (2 * k) hlt
      rw [hx] at x0 x1
      have HX := hid hx
      clear hx
      by_cases hlt2 : 2 * k + 1 < n
      · obtain ⟨y, hy⟩ : ∃ y, d (2 * k + 1) = y := ⟨_, rfl⟩
        have hcell2 : wr.cell? ⟨b, o + (2 * k + 1), none⟩ = some (.int .u64 y) := by rw [← hy]; exact (hr.below hbel (Nat.le_refl _)).cell hlt2
        obtain ⟨y0, y1⟩ := HD.out (2 * k + 1) hlt2
        rw [hy] at y0 y1
        have HY := hid hy
        clear hy hr
        have hl : lim d n k = x + y * 4294967296 := by unfold lim; rw [ext_in _ _ _ hlt, ext_in _ _ _ hlt2, HX.out, HY.out]; omega
        have HLm := hid hl
        clear hl
        go_wp2_with (at_builtin; refine wpList_append_own_list .u64 _ rfl (.tmp 29) (.tmp 31) 22 rfl w.heap.size 28 8 Tryz.underlying22 Tryz.infoU64 _ k (lim d n) rfl (Own.alloc HO.out _) wr.heap.size 0 1 1 (fun _ => x + y * 4294967296) rfl (rd_new1 wr _ _) ?c1 ?c2 ?c3 ?_)
        case c1 => unfold maxLen; omega
        case c2 => omega
        case c3 => have := hbel.size; simp; omega
        intro v' w' hown hgr
        have hown2 : Own .u64 28 w' w.heap.size v' (k + 1) (lim d n) := Own.congr hown (cat_one HLm.out)
        have hbel2 : Below w.heap.size w w' := (hbel.alloc hbel.size _).grown hgr (by have := hbel.size; simp; omega) (fun k h => (Own.ge HO.out k h))
        have HO2 := hid hown2
        clear hown hgr hown2 HO
        go_wp2
        go_roundw
        case rel => exact ⟨k + 1, by omega, by go_num, hbel2, HO2.out⟩
        case measure => simp [intOf]; omega
      · have hl : lim d n k = x := by unfold lim; rw [ext_in _ _ _ hlt, ext_out _ _ _ (by omega), HX.out]; omega
        have HLm := hid hl
        clear hl hr
        go_wp2_with (at_builtin; refine wpList_append_own_list .u64 _ rfl (.tmp 29) (.tmp 31) 22 rfl w.heap.size 28 8 Tryz.underlying22 Tryz.infoU64 _ k (lim d n) rfl (Own.alloc HO.out _) wr.heap.size 0 1 1 (fun _ => x) rfl (rd_new1 wr _ _) ?c1 ?c2 ?c3 ?_)
        case c1 => unfold maxLen; omega
        case c2 => omega
        case c3 => have := hbel.size; simp; omega
        intro v' w' hown hgr
        have hown2 : Own .u64 28 w' w.heap.size v' (k + 1) (lim d n) := Own.congr hown (cat_one HLm.out)
        have hbel2 : Below w.heap.size w w' := (hbel.alloc hbel.size _).grown hgr (by have := hbel.size; simp; omega) (fun k h => (Own.ge HO.out k h))
        have HO2 := hid hown2
        clear hown hgr hown2 HO
        go_wp2
        go_roundw
        case rel => exact ⟨k + 1, by omega, by go_num, hbel2, HO2.out⟩
        case measure => simp [intOf]; omega
    · obtain ⟨ao', cap', hv, hcc, hnn, hml, hrd, hlt2⟩ := HO.out.shape
      subst hv
      clear hlt2
      go_wp2
      go_ret
      exact ⟨ao', k, cap', _, rfl, HO.out, hbel, hrd, by omega, lim_lm HD.out k, lim_fm HD.out HFM.out (by omega) hk, by rw [lim_val, vd_ext_list _ _ _ (by omega)]⟩
end Go.Proofs.YtlpmfmphglgocaaGreatDoor
namespace Go.Proofs.YtlpmfmphglgocaaGreatDoor
open Go.RowKit

end Go.Proofs.YtlpmfmphglgocaaGreatDoor
namespace Go.Proofs.YtlpmfmphglgocaaGreatDoor
open Go.RowKit

theorem vd_cons (f : Nat → Int) (m i : Nat) : vd (sh f m) (i + 1) = f m + 4294967296 * vd (sh f (m + 1)) i := by
  rw [Nat.add_comm i 1, vd_split (sh f m) 1 i, sh_sh]
  have e1 : vd (sh f m) 1 = f m := by simp [vd, pd, sh]
  have e2 : pd 1 = 4294967296 := by simp [pd]
  rw [e1, e2]; omega
end Go.Proofs.YtlpmfmphglgocaaGreatDoor
namespace Go.Proofs.YtlpmfmphglgocaaGreatDoor
open Go.RowKit

/-- What Same answers. -/
def SameAns (b s t : Bool) (n m : Nat) (f g : Nat → Int) : Prop := b = true ↔ s = t ∧ Alk n m f g
theorem wSame_c (s t : Bool) (ao bo : Option Addr) (n m ca cb : Nat) (f g : Nat → Int) (w : World) (hm : n ≤ 140737488355328) (hm' : m ≤ 140737488355328) (hr : Rd .u64 w ao n f) (hs : Rd .u64 w bo m g) :
    Calls Tryz.prog 24 #[.agg #[.bool s, .slice ao n ca], .agg #[.bool t, .slice bo m cb]] w fun e w' => ∃ b, e = .returned (.bool b) ∧ Below w.heap.size w w' ∧ SameAns b s t n m f g := by
  have HR := hid hr; have HS := hid hs
  clear hr hs
  cases hst : (s == t)
  · have HN := hid (show s ≠ t by intro h; subst h; simp at hst)
    go_enter Tryz.func24, Tryz.ntmps24
    go_wp2
    go_ret
    exact ⟨false, rfl, below_alloc (below_alloc (Below.refl _ _) _) _, ⟨(fun h => by cases h), fun h => absurd h.1 HN.out⟩⟩
  · obtain rfl : s = t := by simpa using hst
    go_enter Tryz.func24, Tryz.ntmps24
    go_wp2_with fail
    refine (same_c ao bo n m ca cb f g _ hm hm' ((HR.out.alloc _).alloc _) ((HS.out.alloc _).alloc _)).mono ?_
    rintro e w1 ⟨⟨q, hq⟩, b, rfl, hb⟩
    have HB := hid hb; have HQ := hid (drewN_below hq)
    clear hb hq
    go_wp2
    go_ret
    exact ⟨b, rfl, (below_alloc (below_alloc (Below.refl w.heap.size w) _) _).trans (HQ.out.mono (by simp; omega)), ⟨fun h => ⟨rfl, HB.out.1 h⟩, fun h => HB.out.2 h.2⟩⟩

/-- One whole number has one form. -/
theorem wv_inj {s t : Bool} {n m : Nat} {f g : Nat → Int} (hf : Lm f n) (hg : Lm g m) (wf : wfB s f n = true) (wg : wfB t g m = true) (hv : wv s f n = wv t g m) : s = t ∧ Alk n m f g := by
  have h1 := vf_nonneg hf; have h2 := vf_nonneg hg
  have f1 := fm_of_wfB wf; have f2 := fm_of_wfB wg
  have p1 : s = true → 0 < vf f n := fun h => vf_pos hf f1 (sgn_of_wfB wf h)
  have p2 : t = true → 0 < vf g m := fun h => vf_pos hg f2 (sgn_of_wfB wg h)
  cases s <;> cases t <;> simp only [wv_false, wv_true] at hv
  · exact ⟨rfl, vf_inj hf hg f1 f2 hv⟩
  · have := p2 rfl; omega
  · have := p1 rfl; omega
  · exact ⟨rfl, vf_inj hf hg f1 f2 (by omega)⟩
theorem wSame_true (s t : Bool) (ao bo : Option Addr) (n m ca cb : Nat) (f g : Nat → Int) (w : World) (hm : n ≤ 140737488355328) (hm' : m ≤ 140737488355328) (hr : Rd .u64 w ao n f) (hs : Rd .u64 w bo m g) (hf : Lm f n) (hg : Lm g m) (wf : wfB s f n = true) (wg : wfB t g m = true) (hv : wv s f n = wv t g m) :
    Calls Tryz.prog 24 #[.agg #[.bool s, .slice ao n ca], .agg #[.bool t, .slice bo m cb]] w fun e w' => e = .returned (.bool true) ∧ Below w.heap.size w w' := by
  refine (wSame_c s t ao bo n m ca cb f g w hm hm' hr hs).mono ?_
  rintro e w' ⟨b, rfl, hb, hiff⟩
  obtain rfl : b = true := hiff.2 (wv_inj hf hg wf wg hv)
  exact ⟨rfl, hb⟩

set_option maxHeartbeats 1000000 in
/-- Word: the digits of a limb. -/
theorem word2_c (x : Int) (w : World) (x0 : 0 ≤ x) (x1 : x < 18446744073709551616) :
    Calls Tryz.prog 85 #[.int .u64 x] w fun e w' => ∃ k cap, e = .returned (.slice (some ⟨w.heap.size, 0, none⟩) k cap) ∧ Below w.heap.size w w' ∧ k ≤ 2 ∧ Rd .u64 w' (some ⟨w.heap.size, 0, none⟩) k (two32 x) ∧ Dg (two32 x) k ∧ Fm (two32 x) k ∧ vd (two32 x) k = x := by
  have hr := rd_new2 w 28 x
  have HR := hid hr
  clear hr
  go_enter Tryz.func85, Tryz.ntmps85
  go_wp2_with fail
  refine (low_c (some ⟨w.heap.size, 0, none⟩) 2 2 (two32 x) _ (by omega) (by omega) HR.out (fun h => by cases h)).mono ?_
  rintro e w1 ⟨rfl, k, hk, hz, hfm, rfl⟩
  have hdg : Dg (two32 x) k := fun j hj => by
    unfold two32
    split <;> omega
  have hv2 : vd (two32 x) 2 = x := by simp [vd, pd, two32]; omega
  have hv : vd (two32 x) k = x := (vd_ext hk hz).symm.trans hv2
  have HD := hid hdg; have HF := hid hfm; have HV := hid hv; have HRk := hid (HR.out.take hk)
  clear hdg hfm hv hv2 hz
  go_wp2
  go_ret
  exact ⟨k, 2, rfl, below_alloc (Below.refl _ _) _, hk, HRk.out, HD.out, HF.out, HV.out⟩

/-- A whole number of the reference: sign and digits. -/
structure ZRes (C : Nat) (w w' : World) (s : Bool) (ao : Option Addr) (n : Nat) (d : Nat → Int) (z : Int) : Prop where
  bel : Below w.heap.size w w'
  rd : Rd .u64 w' ao n d
  dg : Dg d n
  fm : Fm d n
  le : n ≤ C
  sgn : s = true → 0 < n
  val : (if s then - vd d n else vd d n) = z
  nil : ao = none → n = 0
def ZOne (C : Nat) (w w' : World) (e : Ending) (z : Int) : Prop := ∃ s ao n cap d, e = .returned (.agg #[.bool s, .slice ao n cap]) ∧ ZRes C w w' s ao n d z

theorem Rd.turned {k w w' ao n f} {lo hi : Nat} (h : Rd k w ao n f) (ht : Turned lo hi w w') (hu : ∀ a, ao = some a → a.block < lo ∨ hi ≤ a.block) : Rd k w' ao n f := fun j hj => by
  obtain ⟨b, o, e, hc⟩ := h j hj
  exact ⟨b, o, e, (World.cell?_of_block (ht.block b (World.block_lt_of_cell? w _ hc) (hu _ e))).trans hc⟩
/-- One box laid ahead of a call, as it reads behind it. -/
theorem boxes1 {w w1 : World} {c0 c1 : Value} {t : TypeId} (hb : Below (w.alloc (.cells #[c0, c1] t)).heap.size (w.alloc (.cells #[c0, c1] t)) w1) :
    (w.heap.size < w1.heap.size ∧ w1.cell? ⟨w.heap.size, 0, none⟩ = some c0 ∧ w1.cell? ⟨w.heap.size, 1, none⟩ = some c1) ∧ (∀ o, w1.frozen? ⟨w.heap.size, o, none⟩ = false) ∧ Below w.heap.size w w1 := by
  obtain ⟨h1, h2⟩ := bcell hb
  have hz := hb.size
  simp at hz
  refine ⟨⟨by omega, (h1 _ _ (by simp)).trans (by simp [go_sem]), (h1 _ _ (by simp)).trans (by simp [go_sem])⟩, fun o => (h2 _ _ (by simp)).trans (by
    have e := heap_alloc_new w (.cells #[c0, c1] t)
    simp only [World.frozen?, e]; simp), ?_⟩
  exact (below_alloc (Below.refl w.heap.size w) _).trans (hb.mono (by simp))
theorem keep1 {w w1 w2 : World} {c0 c1 : Value} (hb : Below w1.heap.size w1 w2) (h : w.heap.size < w1.heap.size ∧ w1.cell? ⟨w.heap.size, 0, none⟩ = some c0 ∧ w1.cell? ⟨w.heap.size, 1, none⟩ = some c1) (hf : ∀ o, w1.frozen? ⟨w.heap.size, o, none⟩ = false) (hw : Below w.heap.size w w1) :
    (w.heap.size < w2.heap.size ∧ w2.cell? ⟨w.heap.size, 0, none⟩ = some c0 ∧ w2.cell? ⟨w.heap.size, 1, none⟩ = some c1) ∧ (∀ o, w2.frozen? ⟨w.heap.size, o, none⟩ = false) ∧ Below w.heap.size w w2 := by
  obtain ⟨h1, h2⟩ := bcell hb
  have hz := hb.size
  obtain ⟨z, a, b⟩ := h
  exact ⟨⟨by omega, (h1 _ _ (by omega)).trans a, (h1 _ _ (by omega)).trans b⟩, fun o => (h2 _ _ (by omega)).trans (hf o), hw.trans (hb.mono hw.size)⟩

set_option maxHeartbeats 1000000 in
theorem zInt_c (z : Int) (w : World) (h0 : -9223372036854775808 ≤ z) (h1 : z ≤ 9223372036854775807) :
    Calls Tryz.prog 54 #[.int .i64 z] w fun e w' => ZOne 2 w w' e z := by
  by_cases hneg : z < 0
  · have hW : IntKind.u64.wrap (-(z + 1)) = -(z + 1) := by simp only [wrapU]; omega
    go_enter Tryz.func54, Tryz.ntmps54
    go_wp2_with fail
    rw [show -(z + 1) + 1 = -z by omega]
    refine (word2_c (-z) _ (by omega) (by omega)).mono ?_
    rintro e w1 ⟨k, cap, rfl, hb, hk, hr, hd, hf, hv⟩
    obtain ⟨⟨hz, z0, z1⟩, zf, hw⟩ := boxes1 hb
    have HW := hid hw; have HR := hid hr; have HD := hid hd; have HF := hid hf; have HV := hid hv
    have hk0 : Hid (0 < k) := by
      show 0 < k
      apply Nat.pos_of_ne_zero; intro hk0; subst hk0; simp [vd] at hv; omega
    clear hb hw hr hd hf hv
    go_wp2
    refine bodyPost_ret (v := .agg #[.bool true, .slice (some ⟨(w.alloc (.cells #[.bool false, .slice none 0 0] 69)).heap.size, 0, none⟩) k cap]) (by simp [results, Tryz.results54, go_sem, z0, z1]) rfl ⟨true, _, k, cap, two32 (-z), rfl, ?_⟩
    have hT := ((Turned.refl w.heap.size (w.heap.size + 1) w1).set (x := ⟨w.heap.size, 0, none⟩) (by first | omega | (simp; done) | (simp; omega)) (by first | omega | (simp; done) | (simp; omega)) (.bool true)).set (x := ⟨w.heap.size, 1, none⟩) (by first | omega | (simp; done) | (simp; omega)) (by first | omega | (simp; done) | (simp; omega)) (.slice (some ⟨w.heap.size + 1, 0, none⟩) k cap)
    refine ⟨below_turned HW.out HW.out.size (by simpa using hT) (Nat.le_refl _), HR.out.turned (by simpa using hT) (fun a ha => by cases ha; simp), HD.out, HF.out, hk, fun _ => hk0.out, ?_, fun h => by cases h⟩
    rw [if_pos rfl, HV.out]; omega
  · go_enter Tryz.func54, Tryz.ntmps54
    go_wp2_with fail
    refine (word2_c z _ (by omega) (by omega)).mono ?_
    rintro e w1 ⟨k, cap, rfl, hb, hk, hr, hd, hf, hv⟩
    obtain ⟨⟨hz, z0, z1⟩, zf, hw⟩ := boxes1 hb
    have HW := hid hw; have HR := hid hr; have HD := hid hd; have HF := hid hf; have HV := hid hv
    clear hb hw hr hd hf hv
    go_wp2
    refine bodyPost_ret (v := .agg #[.bool false, .slice (some ⟨(w.alloc (.cells #[.bool false, .slice none 0 0] 69)).heap.size, 0, none⟩) k cap]) (by simp [results, Tryz.results54, go_sem, z0, z1]) rfl ⟨false, _, k, cap, two32 z, rfl, ?_⟩
    have hT := ((Turned.refl w.heap.size (w.heap.size + 1) w1).set (x := ⟨w.heap.size, 0, none⟩) (by first | omega | (simp; done) | (simp; omega)) (by first | omega | (simp; done) | (simp; omega)) (.bool false)).set (x := ⟨w.heap.size, 1, none⟩) (by first | omega | (simp; done) | (simp; omega)) (by first | omega | (simp; done) | (simp; omega)) (.slice (some ⟨w.heap.size + 1, 0, none⟩) k cap)
    refine ⟨below_turned HW.out HW.out.size (by simpa using hT) (Nat.le_refl _), HR.out.turned (by simpa using hT) (fun a ha => by cases ha; simp), HD.out, HF.out, hk, (fun h => by cases h), ?_, (fun h => by cases h)⟩
    exact HV.out

theorem kI0 {w : World} {a : Addr} {v : Value} (h : w.cell? a = some v) : (w.cell? a).isSome = true := by rw [h]; rfl
/-- Two boxes of unlike types. -/
theorem boxes2' {w w1 : World} {a0 a1 c0 c1 : Value} {t u : TypeId} (hb : Below ((w.alloc (.cells #[a0, a1] t)).alloc (.cells #[c0, c1] u)).heap.size ((w.alloc (.cells #[a0, a1] t)).alloc (.cells #[c0, c1] u)) w1) :
    (w.heap.size + 1 < w1.heap.size ∧ w1.cell? ⟨w.heap.size, 0, none⟩ = some a0 ∧ w1.cell? ⟨w.heap.size, 1, none⟩ = some a1 ∧ w1.cell? ⟨w.heap.size + 1, 0, none⟩ = some c0 ∧ w1.cell? ⟨w.heap.size + 1, 1, none⟩ = some c1) ∧ (∀ o, w1.frozen? ⟨w.heap.size + 1, o, none⟩ = false) ∧ Below w.heap.size w w1 := by
  obtain ⟨h1, h2⟩ := bcell hb
  have hz := hb.size
  simp at hz
  refine ⟨⟨by omega, (h1 _ _ (by simp; omega)).trans (by simp [go_sem]), (h1 _ _ (by simp; omega)).trans (by simp [go_sem]), (h1 _ _ (by simp)).trans (by simp [go_sem]), (h1 _ _ (by simp)).trans (by simp [go_sem])⟩, fun o => (h2 _ _ (by simp)).trans (by
    have e := heap_alloc_new (w.alloc (.cells #[a0, a1] t)) (.cells #[c0, c1] u)
    rw [size_alloc1] at e
    simp only [World.frozen?, e]; simp), ?_⟩
  exact (below_alloc (below_alloc (Below.refl w.heap.size w) _) _).trans (hb.mono (by simp; omega))

set_option maxRecDepth 100000 in
set_option maxHeartbeats 1000000 in
theorem zTo_c (s : Bool) (ao : Option Addr) (n cap : Nat) (d : Nat → Int) (z : Int) (w : World) (hn : n ≤ 1048576) (hr : Rd .u64 w ao n d) (hd : Dg d n) (hf : Fm d n) (hs : s = true → 0 < n) (hv : (if s then - vd d n else vd d n) = z) :
    Calls Tryz.prog 53 #[.agg #[.bool s, .slice ao n cap]] w fun e w' => WOne n w w' e z := by
  have HR := hid hr; have HD := hid hd; have HF := hid hf; have HSg := hid hs; have HV := hid hv
  clear hr hd hf hs hv
  have CT : Hid (∀ W, Below ((w.alloc (.cells #[.bool s, .slice ao n cap] 69)).alloc (.cells #[.bool false, .slice none 0 0] 44)).heap.size ((w.alloc (.cells #[.bool s, .slice ao n cap] 69)).alloc (.cells #[.bool false, .slice none 0 0] 44)) W → Calls Tryz.prog 84 #[.slice ao n cap] W fun e w' => ∃ ao' m cap' f, e = .returned (.slice ao' m cap') ∧ Hid (Asw n W w' ao' m cap' f ∧ vf f m = vd d n) ∧ (w.heap.size + 1 < w'.heap.size ∧ w'.cell? ⟨w.heap.size, 0, none⟩ = some (.bool s) ∧ w'.cell? ⟨w.heap.size, 1, none⟩ = some (.slice ao n cap) ∧ w'.cell? ⟨w.heap.size + 1, 0, none⟩ = some (.bool false) ∧ w'.cell? ⟨w.heap.size + 1, 1, none⟩ = some (.slice none 0 0)) ∧ (∀ o, w'.frozen? ⟨w.heap.size + 1, o, none⟩ = false) ∧ Hid (Below w.heap.size w W ∧ w.heap.size + 1 < W.heap.size)) := fun W hW => by
    obtain ⟨hz, zf, hw⟩ := boxes2' hW
    refine (toOwn_c ao n cap d W hn (HR.out.below hw (Nat.le_refl _)) HD.out HF.out).mono ?_
    rintro e w' ⟨ao', m, cap', f, rfl, h0, h1, h2, h3, h4, h5, h6⟩
    obtain ⟨hz2, zf2, hw2⟩ := keep2 h1 hz zf hw
    exact ⟨ao', m, cap', f, rfl, ⟨⟨h1, h0, h4, h5, h3⟩, h6⟩, hz2, zf2, hw, hz.1⟩
  go_enter Tryz.func53, Tryz.ntmps53
  go_wp2
  go_region_held3 (fun w' => w'.cell? ⟨w.heap.size, 0, none⟩ = some (.bool s) ∧ w'.cell? ⟨w.heap.size, 1, none⟩ = some (.slice ao n cap) ∧ (w'.cell? ⟨w.heap.size + 1, 0, none⟩).isSome = true ∧ (w'.cell? ⟨w.heap.size + 1, 1, none⟩).isSome = true ∧ w'.frozen? ⟨w.heap.size + 1, 0, none⟩ = false ∧ w'.frozen? ⟨w.heap.size + 1, 1, none⟩ = false) (first | (simp [go_sem]; done) | (refine ⟨?_, ?_, ?_, ?_, ?_, ?_⟩ <;> repeat (with_reducible first | assumption | exact uf _ | exact kI0 u0 | exact kI0 u1 | refine kCd ?_ | refine kId ?_ | refine kFd ?_ | refine kCa ?_ | refine kIa ?_ | refine kFa ?_ ?_ | refine kCs (by simp only [ne_eq]; omega) ?_ | refine kIs ?_ | refine kFs ?_))) (first | (go_at_call 84; refine (CT.out _ (by repeat (first | exact Below.refl _ _ | refine Below.drew ?_))).mono ?_; rintro e w4 ⟨xa, m, cx, g, rfl, HAns, ⟨hz4, v0, v1, u0, u1⟩, uf, HBW⟩))
  all_goals
    go_wp2
    refine bodyPost_ret (v := .agg #[.bool s, .slice xa m cx]) (by simp [results, Tryz.results53, go_sem, u0, u1]) rfl ⟨s, xa, m, cx, g, rfl, ?_⟩
    have hA := HAns.out.1.turned HBW.out.1 (((Turned.refl _ _ _).set (x := ⟨w.heap.size + 1, 0, none⟩) (by first | omega | (simp; done) | (simp; omega)) (by first | omega | (simp; done) | (simp; omega)) (.bool s)).set (x := ⟨w.heap.size + 1, 1, none⟩) (by first | omega | (simp; done) | (simp; omega)) (by first | omega | (simp; done) | (simp; omega)) (.slice xa m cx))
    refine ⟨⟨hA, fun hs => ?_⟩, ?_⟩
    · have h1 := vd_form_ge HD.out HF.out (HSg.out hs); have h2 := pd_pos (n - 1)
      apply Nat.pos_of_ne_zero; intro hm; subst hm
      have := HAns.out.2; simp [vf] at this; omega
    · have := HV.out; rw [← HAns.out.2] at this; exact this

set_option maxHeartbeats 1000000 in
theorem docOf_c (z : Int) (w : World) (h0 : -9223372036854775808 ≤ z) (h1 : z ≤ 9223372036854775807) :
    Calls Tryz.prog 18 #[.int .i64 z] w fun e w' => WOne 2 w w' e z := by
  go_enter Tryz.func18, Tryz.ntmps18
  go_wp2_with fail
  refine (zInt_c z _ h0 h1).mono ?_
  rintro e w1 ⟨s, xa, k, cx, d, rfl, hz⟩
  obtain ⟨⟨hb, z0, z1⟩, zf, hw⟩ := boxes1 hz.bel
  have HZ := hid hz; have HW := hid hw; have hle := hz.le
  clear hz hw
  go_wp2_with fail
  refine (zTo_c s xa k cx d z _ (by omega) HZ.out.rd HZ.out.dg HZ.out.fm HZ.out.sgn HZ.out.val).mono ?_
  rintro e w2 ⟨t, ya, m, cy, g, rfl, hg, hv⟩
  obtain ⟨⟨hb, z0, z1⟩, zf, hw⟩ := keep1 hg.res.bel ⟨hb, z0, z1⟩ zf HW.out
  have HG := hid hg; have HW2 := hid hw; have HV := hid hv
  clear hg hw hv
  go_wp2
  refine bodyPost_ret (v := .agg #[.bool t, .slice ya m cy]) (by simp [results, Tryz.results18, go_sem, z0, z1]) rfl ⟨t, ya, m, cy, g, rfl, ⟨(HG.out.res.turned HW.out ?_).mono hle, HG.out.sgn⟩, HV.out⟩
  exact ((Turned.refl _ _ _).set (by first | omega | (simp; done) | (simp; omega)) (by first | omega | (simp; done) | (simp; omega)) _).set (by first | omega | (simp; done) | (simp; omega)) (by first | omega | (simp; done) | (simp; omega)) _

end Go.Proofs.YtlpmfmphglgocaaGreatDoor
namespace Go.Proofs.YtlpmfmphglgocaaGreatDoor
open Go.RowKit

/-- The string has the bytes b, L of them. -/
def Sb (s : ByteArray) (L : Nat) (b : Nat → Nat) : Prop := s.size = L ∧ ∀ k (h : k < s.size), (s[k]'h).toNat = b k
/-- All are decimal digits. -/
def Dig (b : Nat → Nat) (L : Nat) : Prop := ∀ k, k < L → 48 ≤ b k ∧ b k ≤ 57
/-- The number that the first n digits tell. -/
def dn (b : Nat → Nat) : Nat → Nat | 0 => 0 | n + 1 => dn b n * 10 + (b n - 48)
def bsh (b : Nat → Nat) (i : Nat) : Nat → Nat := fun k => b (i + k)
theorem dn_split (b : Nat → Nat) (i n : Nat) : dn b (i + n) = dn b i * 10 ^ n + dn (bsh b i) n := by
  induction n with
  | zero => simp [dn]
  | succ n ih =>
    show dn b (i + n) * 10 + (b (i + n) - 48) = dn b i * 10 ^ (n + 1) + (dn (bsh b i) n * 10 + (b (i + n) - 48))
    rw [ih, Nat.pow_succ]
    grind
theorem dn_lt {b : Nat → Nat} {n : Nat} (h : Dig b n) : dn b n < 10 ^ n := by
  induction n with
  | zero => simp [dn]
  | succ n ih =>
    have h1 := ih (fun k hk => h k (by omega))
    have h2 := h n (by omega)
    show dn b n * 10 + (b n - 48) < 10 ^ (n + 1)
    rw [Nat.pow_succ]; omega
theorem Dig.mono {b L L'} (h : Dig b L) (hl : L' ≤ L) : Dig b L' := fun k hk => h k (by omega)
theorem Dig.bsh {b L i n} (h : Dig b L) (hl : i + n ≤ L) : Dig (bsh b i) n := fun k hk => h (i + k) (by omega)
theorem Sb.take {s L b} (h : Sb s L b) {c : Nat} (hc : c ≤ L) : Sb (s.extract 0 c) c b := by
  obtain ⟨h1, h2⟩ := h
  refine ⟨by simp; omega, fun k hk => ?_⟩
  have hk' : k < c := by simp at hk; omega
  have := h2 k (by omega)
  rw [← this, ByteArray.getElem_extract]
  simp
theorem Sb.drop {s L b} (h : Sb s L b) {c : Nat} (hc : c ≤ L) : Sb (s.extract c L) (L - c) (bsh b c) := by
  obtain ⟨h1, h2⟩ := h
  refine ⟨by simp; omega, fun k hk => ?_⟩
  have hk' : k < L - c := by simp at hk; omega
  have := h2 (c + k) (by omega)
  show _ = b (c + k)
  rw [← this, ByteArray.getElem_extract]

set_option maxRecDepth 100000 in
set_option maxHeartbeats 1000000 in
theorem readPiece_c (s : ByteArray) (L : Nat) (b : Nat → Nat) (w : World) (hs : Sb s L b) (hL : L ≤ 19) (hd : Dig b L) :
    Calls Tryz.prog 178 #[.string s] w fun e w' => e = .returned (.int .u64 (dn b L)) ∧ w' = w := by
  obtain ⟨rfl, hb⟩ := hs
  have HB := hid hb
  have HD := hid hd
  clear hb hd
  go_enter Tryz.func178, Tryz.ntmps178
  go_wp2
  go_loop [3, 7] (fun c t => ∃ (k v : Nat), k ≤ s.size ∧ t = .int .i64 k ∧ c = .int .u64 v ∧ Hid (dn b k = v)) (fun _ t => s.size - (intOf t).toNat)
  case atStart => exact ⟨0, 0, by omega, rfl, rfl, rfl⟩
  case round =>
    obtain ⟨k, v, hk, rfl, rfl, HV⟩ := hrel
    by_cases hlt : k < s.size
    · obtain ⟨x, hx⟩ : ∃ x, b k = x := ⟨_, rfl⟩
      have hc : (s[k]'hlt).toNat = x := by rw [HB.out k hlt, hx]
      have hx1 := HD.out k hlt
      rw [hx] at hx1
      obtain ⟨x0, x1⟩ := hx1
      have hv : v < 10 ^ k := by rw [← HV.out]; exact dn_lt (HD.out.mono (by omega))
      have hv2 : v < 10 ^ 18 := Nat.lt_of_lt_of_le hv (Nat.pow_le_pow_right (by decide) (by omega))
      have hv3 : (v : Int) < 1000000000000000000 := by omega
      have hsub : ((x : Int) - 48) % 256 = ((x - 48 : Nat) : Int) := by omega
      have HX := hid hx
      clear hv hv2 hx
      go_wp2
      go_round
      case rel =>
        refine ⟨k + 1, v * 10 + (x - 48), by omega, by go_num, ?_, ?_⟩
        · congr 1; omega
        · show dn b k * 10 + (b k - 48) = _
          rw [HV.out, HX.out]
      case measure => simp [intOf]; omega
    · obtain rfl : k = s.size := by omega
      go_wp2
      go_ret
      exact ⟨by rw [HV.out]; rfl, rfl⟩

/-- isNumber, told. -/
def IsNum (b : Nat → Nat) (L : Nat) : Prop := Dig b L ∧ 0 < L ∧ (L = 1 ∨ b 0 ≠ 48)
def digB (b : Nat → Nat) : Nat → Bool | 0 => true | n + 1 => digB b n && (decide (48 ≤ b n) && decide (b n ≤ 57))
theorem digB_iff (b : Nat → Nat) (L : Nat) : digB b L = true ↔ Dig b L := by
  induction L with
  | zero => exact ⟨fun _ k hk => by omega, fun _ => rfl⟩
  | succ n ih =>
    simp only [digB, Bool.and_eq_true, decide_eq_true_eq, ih]
    constructor
    · rintro ⟨h, h1, h2⟩ k hk
      by_cases hkn : k = n
      · subst hkn; exact ⟨h1, h2⟩
      · exact h k (by omega)
    · exact fun h => ⟨fun k hk => h k (by omega), h n (by omega)⟩
def numB (b : Nat → Nat) (L : Nat) : Bool := digB b L && (decide (0 < L) && (decide (L = 1) || !decide (b 0 = 48)))
theorem numB_iff (b : Nat → Nat) (L : Nat) : numB b L = true ↔ IsNum b L := by
  simp [numB, IsNum, digB_iff]
theorem numB_true {b : Nat → Nat} {L : Nat} (h : IsNum b L) : numB b L = true := (numB_iff b L).2 h
theorem numB_false {b : Nat → Nat} {L : Nat} (h : ¬ IsNum b L) : numB b L = false := by
  cases hn : numB b L
  · rfl
  · exact absurd ((numB_iff b L).1 hn) h

theorem sb_eq {s t : ByteArray} {L : Nat} {b : Nat → Nat} (hs : Sb s L b) (ht : Sb t L b) : s = t := by
  obtain ⟨h1, h2⟩ := hs
  obtain ⟨h3, h4⟩ := ht
  apply ByteArray.ext_getElem (by omega)
  intro i hi hj
  apply UInt8.toNat_inj.1
  rw [h2 i hi, h4 i hj]
theorem sb_zero {s : ByteArray} {b : Nat → Nat} (hs : Sb s 1 b) (h : b 0 = 48) : s = ⟨#[48]⟩ := by
  refine sb_eq hs ⟨rfl, fun k hk => ?_⟩
  obtain rfl : k = 0 := by have : (ByteArray.mk #[48]).size = 1 := rfl
                           omega
  rw [h]; rfl
theorem toList_ne {s t : ByteArray} (h : s ≠ t) : (s.toList == t.toList) = false := by
  simp only [ByteArray.toList_eq, beq_eq_false_iff_ne]
  intro he
  exact h (ByteArray.ext (Array.toList_inj.1 he))
theorem toList_isE {s : ByteArray} (h : s.size ≠ 0) : s.toList.isEmpty = false := by
  rw [ByteArray.toList_eq]
  have : s.data.size ≠ 0 := h
  cases hl : s.data.toList with
  | nil => exact absurd (by rw [← Array.length_toList, hl]; rfl) this
  | cons a l => rfl

set_option maxRecDepth 100000 in
set_option maxHeartbeats 1000000 in
theorem isNumber_c (s : ByteArray) (L : Nat) (b : Nat → Nat) (w : World) (hs : Sb s L b) (hL : L ≤ 9223372036854775807) :
    Calls Tryz.prog 125 #[.string s] w fun e w' => e = .returned (.bool (numB b L)) ∧ w' = w := by
  have HSb := hid hs
  obtain ⟨rfl, hb⟩ := hs
  have HB := hid hb
  clear hb
  obtain ⟨R, hR⟩ : ∃ R, numB b s.size = R := ⟨_, rfl⟩
  rw [hR]
  have HRe := hid hR
  clear hR
  go_enter Tryz.func125, Tryz.ntmps125
  go_wp2
  go_loop [6] (fun t => ∃ (k : Nat), k ≤ s.size ∧ t = .int .i64 k ∧ Hid (Dig b k)) (fun t => s.size - (intOf t).toNat)
  case atStart => exact ⟨0, by omega, rfl, fun j hj => by omega⟩
  case round =>
    obtain ⟨k, hk, rfl, HD⟩ := hrel
    by_cases hlt : k < s.size
    · obtain ⟨x, hx⟩ : ∃ x, b k = x := ⟨_, rfl⟩
      have hc : (s[k]'hlt).toNat = x := by rw [HB.out k hlt, hx]
      have HX := hid hx
      clear hx
      by_cases h1 : x < 48
      · have h1b : decide ((x : Int) < 48) = true := by simp; omega
        have hf : R = false := by rw [← HRe.out]; exact numB_false (fun h => by have := h.1 k hlt; rw [HX.out] at this; omega)
        subst hf
        go_wp2
        go_ret
        exact ⟨rfl, rfl⟩
      · have h1b : decide ((x : Int) < 48) = false := by simp; omega
        by_cases h2 : 57 < x
        · have h2b : decide ((57 : Int) < x) = true := by simp; omega
          have hf : R = false := by rw [← HRe.out]; exact numB_false (fun h => by have := h.1 k hlt; rw [HX.out] at this; omega)
          subst hf
          go_wp2
          go_ret
          exact ⟨rfl, rfl⟩
        · have h2b : decide ((57 : Int) < x) = false := by simp; omega
          go_wp2
          go_round
          case rel =>
            refine ⟨k + 1, by omega, by go_num, fun j hj => ?_⟩
            by_cases hjk : j = k
            · subst hjk; rw [HX.out]; omega
            · exact HD.out j (by omega)
          case measure => simp [intOf]; omega
    · obtain rfl : k = s.size := by omega
      by_cases h0 : s.size = 0
      · have e0 : s = ⟨#[]⟩ := by
          have : s.data.size = 0 := h0
          cases s with | mk d => simp at this; subst this; rfl
        have hf : R = false := by rw [← HRe.out]; exact numB_false (fun h => by have := h.2.1; omega)
        subst hf
        subst e0
        go_wp2
        go_ret
        exact ⟨rfl, rfl⟩
      · obtain ⟨x, hx⟩ : ∃ x, b 0 = x := ⟨_, rfl⟩
        have hc : (s[0]'(by omega)).toNat = x := by rw [HB.out 0 (by omega), hx]
        have HX := hid hx
        clear hx
        by_cases hz : s = ⟨#[48]⟩
        · have h1 : s.size = 1 := by rw [hz]; rfl
          have hf : R = true := by rw [← HRe.out]; exact numB_true ⟨HD.out, by omega, .inl h1⟩
          subst hf
          clear h1 hc
          subst hz
          go_wp2
          go_ret
          exact ⟨rfl, rfl⟩
        · have heq : (s.toList == [48]) = false := by have := toList_ne hz; rwa [ByteArray.toList_eq ⟨#[48]⟩] at this
          have hem := toList_isE h0
          by_cases hx0 : x = 48
          · have hf : R = false := by
              rw [← HRe.out]
              refine numB_false (fun h => ?_)
              rcases h.2.2 with h1 | h1
              · have hs := HSb.out
                rw [h1] at hs
                exact hz (sb_zero hs (by rw [HX.out]; exact hx0))
              · rw [HX.out] at h1; exact h1 hx0
            subst hf
            have hxb : ((x : Int) != 48) = false := by simp; omega
            clear hz
            go_wp2
            go_ret
            exact ⟨rfl, rfl⟩
          · have hf : R = true := by rw [← HRe.out]; exact numB_true ⟨HD.out, by omega, .inr (by rw [HX.out]; exact hx0)⟩
            subst hf
            have hxb : ((x : Int) != 48) = true := by simp; omega
            clear hz
            go_wp2
            go_ret
            exact ⟨rfl, rfl⟩
end Go.Proofs.YtlpmfmphglgocaaGreatDoor
namespace Go.Proofs.YtlpmfmphglgocaaGreatDoor
open Go.RowKit

theorem Sb.congr {s L b c} (h : Sb s L b) (he : ∀ k, k < L → b k = c k) : Sb s L c := ⟨h.1, fun k hk => by rw [h.2 k hk, he k (by have := h.1; omega)]⟩
end Go.Proofs.YtlpmfmphglgocaaGreatDoor
namespace Go.Proofs.YtlpmfmphglgocaaGreatDoor
open Go.RowKit

end Go.Proofs.YtlpmfmphglgocaaGreatDoor
namespace Go.Proofs.YtlpmfmphglgocaaGreatDoor
open Go.RowKit

end Go.Proofs.YtlpmfmphglgocaaGreatDoor
namespace Go.Proofs.YtlpmfmphglgocaaGreatDoor
open Go.RowKit

/-- Block g: its first k numbers are D. -/
def PB (w : World) (g cap k : Nat) (D : Nat → Int) : Prop := ∃ arr : Array Value, w.heap[g]? = some (.cells arr 28 (0, 0)) ∧ arr.size = cap ∧ ∀ j, j < k → arr[j]? = some (.int .u64 (D j))
theorem PB.cell {w g cap k D} (h : PB w g cap k D) {j : Nat} (hj : j < k) : w.cell? ⟨g, j, none⟩ = some (.int .u64 (D j)) := by
  obtain ⟨arr, h1, h2, h3⟩ := h
  simp [World.cell?, h1, h3 j hj]
theorem PB.frozen {w g cap k D} (h : PB w g cap k D) (j : Nat) : w.frozen? ⟨g, j, none⟩ = false := by
  obtain ⟨arr, h1, h2, h3⟩ := h
  simp [World.frozen?, h1]
theorem PB.lt {w g cap k D} (h : PB w g cap k D) : g < w.heap.size := by
  obtain ⟨arr, h1, h2, h3⟩ := h
  exact (Array.getElem?_eq_some_iff.1 h1).1
theorem PB.set {w g cap k D} (h : PB w g cap k D) (i : Nat) (v : Int) : PB (w.setCell ⟨g, i, none⟩ (.int .u64 v)) g cap k (upd D i v) := by
  obtain ⟨arr, h1, h2, h3⟩ := h
  refine ⟨arr.setIfInBounds i (.int .u64 v), ?_, by simpa using h2, fun j hj => ?_⟩
  · simp [World.setCell, Array.getElem?_modify, h1]
  · have hlt : j < arr.size := (Array.getElem?_eq_some_iff.1 (h3 j hj)).1
    by_cases hji : j = i
    · subst hji; simp [upd, hlt]
    · rw [Array.getElem?_setIfInBounds, if_neg (by omega), h3 j hj]; simp [upd, hji]
theorem Own.pb {w base v k D} (h : Own .u64 28 w base v k D) : (v = .slice none 0 0 ∧ k = 0) ∨ ∃ g cap, v = .slice (some ⟨g, 0, none⟩) k cap ∧ base ≤ g ∧ k ≤ cap ∧ cap ≤ maxLen ∧ PB w g cap k D := by
  obtain ⟨h1, h2⟩ := h
  rcases h2 with ⟨rfl, rfl⟩ | ⟨g, cap, cur, rfl, hb, hg, hn, hm, hs, ht⟩
  · exact .inl ⟨rfl, rfl⟩
  · refine .inr ⟨g, cap, rfl, hb, hn, hm, cur, hg, by omega, fun j hj => ?_⟩
    have e1 : (lst .u64 D k)[j]? = cur.toList[j]? := by
      rw [← ht, List.getElem?_take, if_pos (by omega)]
    rw [lst_get .u64 D k j hj] at e1
    simpa using e1.symm
theorem PB.own {w g cap k D} (h : PB w g cap k D) {base : Nat} (hb : base ≤ g) (hk : k ≤ cap) (hm : cap ≤ maxLen) : Own .u64 28 w base (.slice (some ⟨g, 0, none⟩) k cap) k D := by
  obtain ⟨arr, h1, h2, h3⟩ := h
  refine ⟨by rw [lst_length]; omega, .inr ⟨g, cap, arr, rfl, hb, h1, hk, hm, by omega, ?_⟩⟩
  apply List.ext_getElem?
  intro j
  by_cases hj : j < k
  · rw [List.getElem?_take, if_pos (by omega), lst_get _ _ _ _ hj]; simpa using h3 j hj
  · rw [List.getElem?_eq_none (by simp; omega), List.getElem?_eq_none (by rw [lst_length]; omega)]

end Go.Proofs.YtlpmfmphglgocaaGreatDoor
namespace Go.Proofs.YtlpmfmphglgocaaGreatDoor
open Go.RowKit

set_option maxRecDepth 100000 in
set_option maxHeartbeats 4000000 in
theorem join_c (c : Nat) : ∀ (s : ByteArray) (L : Nat) (b : Nat → Nat) (bo : Option Addr) (cb : Nat) (w : World) (_ : Sb s L b) (_ : Dig b L) (_ : L ≤ 19 * 2 ^ c) (_ : Bas w bo c) (_ : c ≤ cb) (_ : cb ≤ maxLen) (_ : bo = none → cb = 0) (_ : c ≤ 30),
    Calls Tryz.prog 162 #[.string s, .slice bo c cb] w fun e w' => ∃ ao k cap f, e = .returned (.slice ao k cap) ∧ Res (4 * 2 ^ c) w w' ao k cap f ∧ vf f k = (dn b L : Nat) := by
  induction c with
  | zero =>
    intro s L b bo cb w hs hd hL hbas hcb hcbm hnil hc30
    have C1 := hid (readPiece_c s L b w hs (by simpa using hL) hd)
    have hlt : dn b L < 10 ^ 19 := Nat.lt_of_lt_of_le (dn_lt hd) (Nat.pow_le_pow_right (by decide) (by simpa using hL))
    obtain ⟨V, hV⟩ : ∃ V, dn b L = V := ⟨_, rfl⟩
    rw [hV] at C1 hlt ⊢
    have hlt2 : (V : Int) < 18446744073709551616 := by omega
    clear hs hd hL hbas hV hlt hnil
    go_enter Tryz.func162, Tryz.ntmps162
    go_wp2_with fail
    refine C1.out.mono ?_
    rintro e w1 ⟨rfl, rfl⟩
    go_wp2_with fail
    refine (fromWord_c V _ (by omega) hlt2).mono ?_
    rintro e w1 ⟨ao, k, cap, f, rfl, hres, hv⟩
    have HV := hid hv
    clear hv
    go_wp2
    go_ret
    exact ⟨ao, k, cap, f, rfl, hres.mono (by omega), HV.out⟩
  | succ c ih =>
    intro s L b bo cb w hs hd hL hbas hcb hcbm hnil hc30
    have IH := hid ih
    obtain ⟨p, hp⟩ : ∃ p, p = 2 ^ c := ⟨_, rfl⟩
    have hp0 : 1 ≤ p := by rw [hp]; exact Nat.pow_pos (by decide)
    have hp1 : p ≤ 1073741824 := by rw [hp]; exact Nat.pow_le_pow_right (n := 2) (by decide) (show c ≤ 30 by omega)
    have e4 : 4 * 2 ^ (c + 1) = 8 * p := by rw [Nat.pow_succ, ← hp]; omega
    rw [e4]
    have hL2 : L ≤ 2 * (19 * p) := by rw [Nat.pow_succ, ← hp] at hL; omega
    obtain ⟨K, hK⟩ : ∃ K, K = 19 * p := ⟨_, rfl⟩
    have hsh : IntKind.i64.wrap (19 * 2 ^ c) = (K : Int) := by
      have : (19 * 2 ^ c : Int) = K := by rw [hK, hp]; simp
      rw [this, IntKind.wrap_i64]; omega
    obtain ⟨cut, hcut⟩ : ∃ cut, cut = L - K := ⟨_, rfl⟩
    have hmax : max ((L : Int) - (K : Int)) 0 = (cut : Int) := by omega
    have hcL : cut ≤ L := by omega
    have hval : (dn b L : Int) = (dn b cut : Int) * tens c + (dn (bsh b cut) (L - cut) : Int) := by
      have e1 := dn_split b cut (L - cut)
      rw [show cut + (L - cut) = L by omega] at e1
      rw [e1]
      by_cases h : K ≤ L
      · have : L - cut = 19 * 2 ^ c := by rw [← hp]; omega
        rw [this]; unfold tens; simp
      · have : cut = 0 := by omega
        rw [this]; simp [dn]
    have hs1 := hs.take hcL
    have hs2 := hs.drop hcL
    obtain ⟨gb, u, arr, fr, hbo, hg, hcu, hnum⟩ := hbas c (by omega)
    subst hbo
    have hB0 := hbas.take (show c ≤ c + 1 by omega)
    have hsz := hs.1
    subst hsz
    have C1 := hid (fun W (h : Bas W (some ⟨gb, 0, none⟩) c) => ih (s.extract 0 cut) cut b (some ⟨gb, 0, none⟩) cb W hs1 (hd.mono hcL) (by rw [← hp]; omega) h (by omega) hcbm hnil (by omega))
    have C2 := hid (fun W (h : Bas W (some ⟨gb, 0, none⟩) c) => ih (s.extract cut s.size) (s.size - cut) (bsh b cut) (some ⟨gb, 0, none⟩) cb W hs2 (hd.bsh (by omega)) (by rw [← hp]; omega) h (by omega) hcbm hnil (by omega))
    have HVal := hid hval; have BAS := hid hbas; have BAS0 := hid hB0; have HPe := hid hp
    rw [← hp] at C1 C2
    have q1 : (cut : Int) ≤ (s.size : Int) := by omega
    have q2 : (c : Int) ≤ (cb : Int) := by omega
    have q3 : (c : Int) ≤ ((c + 1 : Nat) : Int) := by omega
    unfold maxLen at hcbm
    have hK2 : K ≤ 20401094656 := by omega
    have hL3 : s.size ≤ 40802189312 := by omega
    clear hs hd hL hbas hval hs1 hs2 hg hcu hnum hB0 hp e4 hK hcut hnil ih IH hL2 arr fr u
    go_enter Tryz.func162, Tryz.ntmps162
    go_upto_region 5 with fail
    go_cut [7] from 23 to 29 (fun v wx => ∃ ao k cap f, v = .slice ao k cap ∧ Res (4 * p) w wx ao k cap f ∧ vf f k = (dn b cut : Nat))
    case first =>
      go_region_with (go_at_call 162; refine (C1.out _ (by exact BAS0.out)).mono ?_; rintro e wl ⟨a1, k1, c1, f1, rfl, hres1, hv1⟩; have HV1 := hid hv1; clear hv1)
      all_goals
        go_wp2_with fail
        go_meet
        have B := hres1.bel
        exact ⟨a1, k1, c1, f1, rfl, hres1.ahead (by repeat (first | exact Below.refl _ _ | refine below_drewN ?_ _ | refine Below.drew ?_)), HV1.out⟩
    case rest =>
    rename World => w1
    obtain ⟨a1, k1, c1, f1, rfl, hres1, hv1⟩ := hcut
    have RES1 := hid hres1; have HV1 := hid hv1
    have BAS1 := hid (BAS.out.below hres1.bel); have BAS01 := hid (BAS0.out.below hres1.bel)
    clear hres1 hv1 BAS BAS0 C1
    go_upto_region 6 with fail
    go_cut [8] from 30 to 36 (fun v wx => ∃ ao k cap f, v = .slice ao k cap ∧ Res (4 * p) w1 wx ao k cap f ∧ vf f k = (dn (bsh b cut) (s.size - cut) : Nat))
    case first =>
      go_region_with (go_at_call 162; refine (C2.out _ (by exact BAS01.out)).mono ?_; rintro e wl ⟨a2, k2, c2, f2, rfl, hres2, hv2⟩; have HV2 := hid hv2; clear hv2)
      all_goals
        go_wp2_with fail
        go_meet
        have B := hres2.bel
        exact ⟨a2, k2, c2, f2, rfl, hres2.ahead (by repeat (first | exact Below.refl _ _ | refine below_drewN ?_ _ | refine Below.drew ?_)), HV2.out⟩
    case rest =>
    rename World => w2
    obtain ⟨a2, k2, c2, f2, rfl, hres2, hv2⟩ := hcut
    have BAS2 := hid (BAS1.out.below hres2.bel)
    obtain ⟨gb', u, arr, fr, hbo, hg, hcu, hnum⟩ := BAS2.out c (by omega)
    cases hbo
    obtain ⟨a3, n3, c3, f3, rfl, hr3, ht3, hl3, hf3, hn3, hvf3, hcap3, hcapm3⟩ := hnum
    rw [← HPe.out] at hn3
    have l1 := RES1.out.ncap
    have l2 := hres2.ncap
    have R1 := hid (RES1.out.rd.below hres2.bel (Nat.le_refl _)); have L1 := hid RES1.out.lm; have BE1 := hid RES1.out.bel; have BE2 := hid hres2.bel
    have R2 := hid hres2.rd; have L2 := hid hres2.lm; have HV2 := hid hv2; have R3 := hid hr3; have L3 := hid hl3; have HV3 := hid hvf3
    clear hres2 hv2 hr3 ht3 hl3 hf3 hvf3 hg BAS1 BAS01 BAS2 C2 RES1
    go_wp2_with fail
    refine (mul_c a1 a3 k1 n3 c1 c3 f1 f3 w2 (by omega) (by omega) l1.1 hcap3 (by omega) hcapm3 R1.out R3.out L1.out L3.out).mono ?_
    rintro e w3 ⟨a4, k4, c4, f4, rfl, hres4, hv4⟩
    have HV4 := hid hv4; have l4 := hres4.ncap
    have R4 := hid hres4.rd; have L4 := hid hres4.lm; have R22 := hid (R2.out.below hres4.bel (Nat.le_refl _)); have BE4 := hid hres4.bel
    clear hv4 hres4 R2 R1 R3
    go_wp2_with fail
    refine (add_c a4 a2 k4 k2 c4 c2 f4 f2 w3 (by omega) (by omega) R4.out R22.out L4.out L2.out).mono ?_
    rintro e w4 ⟨a5, k5, c5, f5, rfl, hres5, hv5⟩
    have HV5 := hid hv5
    clear hv5
    go_wp2
    go_ret
    have z1 := BE1.out.size; have z2 := BE2.out.size
    refine ⟨a5, k5, c5, f5, rfl, (hres5.ahead (BE1.out.trans ((BE2.out.mono z1).trans (BE4.out.mono (by omega))))).mono (by omega), ?_⟩
    rw [HV5.out, HV4.out, HV1.out, HV2.out, HV3.out, HVal.out]
end Go.Proofs.YtlpmfmphglgocaaGreatDoor
namespace Go.Proofs.YtlpmfmphglgocaaGreatDoor
open Go.RowKit

set_option maxHeartbeats 1000000 in
theorem fromDigits_c (s : ByteArray) (L : Nat) (b : Nat → Nat) (w : World) (hs : Sb s L b) (hd : Dig b L) (hL : L ≤ 1048576) :
    Calls Tryz.prog 126 #[.string s] w fun e w' => ∃ ao k cap f, e = .returned (.slice ao k cap) ∧ Res 4294967296 w w' ao k cap f ∧ vf f k = (dn b L : Nat) := by
  obtain ⟨p, hp⟩ : ∃ p, p = (L + 18) / 19 := ⟨_, rfl⟩
  obtain ⟨c, hc⟩ : ∃ c, c = lev p := ⟨_, rfl⟩
  have hpc : p ≤ 2 ^ c := by rw [hc]; exact lev_ge p (by omega)
  have hc30 : c ≤ 16 := by rw [hc]; exact lev_le p 16 (by omega) (by omega)
  have hLc : L ≤ 19 * 2 ^ c := by omega
  have h2c : 2 ^ c ≤ 65536 := Nat.pow_le_pow_right (n := 2) (by omega) hc30
  have C1 := hid (levels_c p p w rfl (by omega))
  rw [← hc] at C1
  have C2 := hid (bases_c c w (by omega))
  have C3 := hid (fun bo cb W h1 h2 h3 h4 => join_c c s L b bo cb W hs hd hLc h1 h2 h3 h4 (by omega))
  have hsz := hs.1
  subst hsz
  have d1 : Int.tdiv ((s.size : Int) + 18) 19 = (p : Int) := by rw [Int.tdiv_eq_ediv_of_nonneg (by omega)]; omega
  have d2 : ((s.size : Int) + 18) / 19 = (p : Int) := by omega
  have d3 : Int.tdiv ((s.size : Int) + 19 - 1) 19 = (p : Int) := by rw [Int.tdiv_eq_ediv_of_nonneg (by omega)]; omega
  have d4 : ((s.size : Int) + 19 - 1) / 19 = (p : Int) := by omega
  have H2c := hid h2c
  clear hs hd hLc hpc hp hc h2c
  go_enter Tryz.func126, Tryz.ntmps126
  go_wp2_with fail
  refine C1.out.mono ?_
  rintro e w1 ⟨rfl, rfl⟩
  go_wp2_with fail
  refine C2.out.mono ?_
  rintro e w1 ⟨bo, cap, rfl, hbel, hcc, hcm, hnil, hbas⟩
  have HBel := hid hbel
  have C4 := hid (C3.out bo cap w1 hbas hcc hcm hnil)
  clear hbas hnil C3 C2 C1 hbel
  go_wp2_with fail
  refine C4.out.mono ?_
  rintro e w2 ⟨a1, k1, c1, f1, rfl, hres, hv⟩
  have HV := hid hv
  clear hv
  go_wp2
  go_ret
  exact ⟨a1, k1, c1, f1, rfl, (hres.ahead HBel.out).mono (by have := H2c.out; omega), HV.out⟩

/-- What Read answers. -/
def ReadAns (L : Nat) (b : Nat → Nat) (k : Nat) (f : Nat → Int) (er : Int) : Prop :=
  1048576 < L ∧ er = 2 ∧ k = 0 ∨ L ≤ 1048576 ∧ ¬ IsNum b L ∧ er = 11 ∧ k = 0 ∨ L ≤ 1048576 ∧ IsNum b L ∧ er = 0 ∧ vf f k = (dn b L : Nat)

set_option maxHeartbeats 1000000 in
theorem Read_c (s : ByteArray) (L : Nat) (b : Nat → Nat) (w : World) (hs : Sb s L b) :
    Calls Tryz.prog 100 #[.string s] w fun e w' => ∃ ao k cap f er, e = .returned (.tuple #[.slice ao k cap, .int .i64 er]) ∧ Res 4294967296 w w' ao k cap f ∧ ReadAns L b k f er := by
  have hsz := hs.1
  subst hsz
  by_cases hL : 1048576 < s.size
  · have HLt := hid hL
    go_enter Tryz.func100, Tryz.ntmps100
    go_wp2
    go_ret2
    exact ⟨_, _, _, fun _ => 0, _, rfl, Res.nil _ (Below.refl _ _), .inl ⟨HLt.out, rfl, rfl⟩⟩
  · have c1 := isNumber_c s s.size b w hs (by omega)
    cases hn : numB b s.size
    · rw [hn] at c1
      have C1 := hid c1
      have HN := hid (show ¬ IsNum b s.size from fun h => by rw [numB_true h] at hn; cases hn)
      clear c1 hn hs
      go_enter Tryz.func100, Tryz.ntmps100
      go_wp2_with fail
      refine C1.out.mono ?_
      rintro e w1 ⟨rfl, rfl⟩
      go_wp2
      go_ret2
      exact ⟨_, _, _, fun _ => 0, _, rfl, Res.nil _ (Below.refl _ _), .inr (.inl ⟨by omega, HN.out, rfl, rfl⟩)⟩
    · rw [hn] at c1
      have C1 := hid c1
      have HY := hid ((numB_iff b s.size).1 hn)
      have C2 := hid (fromDigits_c s s.size b w hs HY.out.1 (by omega))
      clear c1 hn hs
      go_enter Tryz.func100, Tryz.ntmps100
      go_wp2_with fail
      refine C1.out.mono ?_
      rintro e w1 ⟨rfl, rfl⟩
      go_wp2_with fail
      refine C2.out.mono ?_
      rintro e w2 ⟨a1, k1, c1, f1, rfl, hres, hv⟩
      have HV := hid hv
      clear hv
      go_wp2
      go_ret2
      exact ⟨_, _, _, f1, _, rfl, hres, .inr (.inr ⟨by omega, HY.out, rfl, HV.out⟩)⟩
end Go.Proofs.YtlpmfmphglgocaaGreatDoor
namespace Go.Proofs.YtlpmfmphglgocaaGreatDoor
open Go.RowKit

theorem divOk_all {X Y : Int} (hY : 0 < Y) : DivOk X Y := by
  intro ao bo n m ca cb f h' w hn hm hr hs hf hh ff fh hX hY'
  have h2 : m ≠ 0 := fun h0 => by subst h0; simp [vf] at hY'; omega
  exact divMod_c ao bo n m ca cb f h' w hn hm hr hs hf hh ff fh (by omega)
theorem tens_pos (j : Nat) : 0 < tens j := Int.pow_pos (by decide)

/-- The text of a number, or none. -/
def txt (f : Nat → Int) (n : Nat) : ByteArray := if fmB f n then ⟨(Lib.decDigits (vf f n).toNat).toArray⟩ else ⟨#[]⟩
def ter (f : Nat → Int) (n : Nat) : Int := if fmB f n then 0 else 3

set_option maxHeartbeats 1000000 in
theorem TextAll_u (ao : Option Addr) (n ca : Nat) (f : Nat → Int) (w : World) (hn : n ≤ 4096) (hr : Rd .u64 w ao n f) (hf : Lm f n) (htab : Tab w) (hca : n ≤ ca) (hcam : ca ≤ 9223372036854775807) :
    Calls Tryz.prog 62 #[.slice ao n ca] w fun e w' => e = .returned (.tuple #[.string (txt f n), .int .i64 (ter f n)]) ∧ Below w.heap.size w w' := by
  cases hfa : fmB f n
  · have c1 := form_c ao n ca f w (by omega) hr
    rw [hfa] at c1
    have C1 := hid c1
    have E1 := hid (show txt f n = ⟨#[]⟩ by simp [txt, hfa]); have E2 := hid (show ter f n = 3 by simp [ter, hfa])
    rw [E1.out, E2.out]
    clear c1 hfa hr hf htab
    go_enter Tryz.func62, Tryz.ntmps62
    go_wp2_with fail
    refine C1.out.mono ?_
    rintro e w1 ⟨rfl, rfl⟩
    go_wp2
    go_ret2
    exact ⟨rfl, Below.refl _ _⟩
  · have h0 := vf_nonneg hf
    have := Text_u ao n ca _ f (vf f n).toNat w hn hr hf (fm_of hfa) (by omega) htab rfl hca hcam (fun j _ X _ _ => divOk_all (tens_pos j))
    rw [show txt f n = ⟨(Lib.decDigits (vf f n).toNat).toArray⟩ by simp [txt, hfa], show ter f n = 0 by simp [ter, hfa]]
    exact this

theorem TextAll_c (ao : Option Addr) (n ca : Nat) (f : Nat → Int) (w : World) (hn : n ≤ 4096) (hr : Rd .u64 w ao n f) (_ : Tg w ao) (hf : Lm f n) (htab : Tab w) (hca : n ≤ ca) (hcam : ca ≤ 9223372036854775807) :
    Calls Tryz.prog 62 #[.slice ao n ca] w fun e w' => e = .returned (.tuple #[.string (txt f n), .int .i64 (ter f n)]) ∧ Below w.heap.size w w' := TextAll_u ao n ca f w hn hr hf htab hca hcam

end Go.Proofs.YtlpmfmphglgocaaGreatDoor
namespace Go.Proofs.YtlpmfmphglgocaaGreatDoor
open Go.RowKit

theorem Tg.kept {w w' : World} {ao : Option Addr} (h : Tg w ao) (hb : Below w.heap.size w w') : Tg w' ao := fun a ha => by
  obtain ⟨arr, fr, he⟩ := h a ha
  exact ⟨arr, fr, (hb.block _ (Array.getElem?_eq_some_iff.1 he).1).trans he⟩
theorem ndigits_le : ∀ (k V : Nat), V < 10 ^ (k + 1) → Lib.nDigits V ≤ k + 1
  | 0, V, h => by rw [Lib.nDigits_small (by simpa using h)]; omega
  | k + 1, V, h => by
    by_cases hu : V < 10
    · rw [Lib.nDigits_small hu]; omega
    · rw [Lib.nDigits_big hu]
      have := ndigits_le k (V / 10) (by rw [Nat.div_lt_iff_lt_mul (by decide)]; rw [Nat.pow_succ] at h; exact h)
      omega
theorem pw_ten (n : Nat) : pw n ≤ (10 : Int) ^ (20 * n) := by
  induction n with
  | zero => decide
  | succ n ih =>
    rw [pw_succ, show 20 * (n + 1) = 20 * n + 20 by omega, Int.pow_add]
    have h1 : (18446744073709551616 : Int) ≤ 10 ^ 20 := by decide
    have h2 := pw_pos n
    calc (18446744073709551616 : Int) * pw n ≤ 10 ^ 20 * pw n := Int.mul_le_mul_of_nonneg_right h1 (Int.le_of_lt h2)
      _ ≤ 10 ^ 20 * 10 ^ (20 * n) := Int.mul_le_mul_of_nonneg_left ih (by decide)
      _ = 10 ^ (20 * n) * 10 ^ 20 := Int.mul_comm _ _
theorem txt_size {f : Nat → Int} {n : Nat} (hf : Lm f n) (hn : n ≤ 4096) : (txt f n).size ≤ 81921 := by
  unfold txt
  split
  · show ((Lib.decDigits (vf f n).toNat).toArray).size ≤ _
    rw [List.size_toArray, Lib.decDigits_length]
    have h1 := vf_lt hf; have h0 := vf_nonneg hf; have h2 := pw_ten n
    have h3 : (vf f n).toNat < 10 ^ (20 * n + 1) := by
      have e : ((10 ^ (20 * n) : Nat) : Int) = (10 : Int) ^ (20 * n) := by simp
      have h4 : (vf f n).toNat < 10 ^ (20 * n) := by omega
      exact Nat.lt_of_lt_of_le h4 (Nat.pow_le_pow_right (by decide) (by omega))
    have := ndigits_le (20 * n) _ h3
    omega
  · show 0 ≤ _; omega
/-- The text of a whole number, or none. -/
def wtxt (s : Bool) (f : Nat → Int) (n : Nat) : ByteArray := if wfB s f n then (if s then ⟨#[45]⟩ ++ txt f n else txt f n) else ⟨#[]⟩
def wter (s : Bool) (f : Nat → Int) (n : Nat) : Int := if wfB s f n then 0 else 3

set_option maxHeartbeats 1000000 in
theorem wText_u (s : Bool) (ao : Option Addr) (n ca : Nat) (f : Nat → Int) (w : World) (hn : n ≤ 4096) (hr : Rd .u64 w ao n f) (hf : Lm f n) (htab : Tab w) (hca : n ≤ ca) (hcam : ca ≤ 9223372036854775807) :
    Calls Tryz.prog 60 #[.agg #[.bool s, .slice ao n ca]] w fun e w' => e = .returned (.tuple #[.string (wtxt s f n), .int .i64 (wter s f n)]) ∧ Below w.heap.size w w' := by
  have HR := hid hr; have HF := hid hf; have HTab := hid htab
  clear hr hf htab
  cases hfa : wfB s f n
  · rw [show wtxt s f n = ⟨#[]⟩ by simp [wtxt, hfa], show wter s f n = 3 by simp [wter, hfa]]
    have c1 := fun W hr' => wForm_c s ao n ca f W (by omega) hr'
    rw [hfa] at c1
    have C1 := hid c1
    clear c1 hfa
    go_enter Tryz.func60, Tryz.ntmps60
    go_wp2_with fail
    refine (C1.out _ (HR.out.alloc _)).mono ?_
    rintro e w1 ⟨rfl, hb⟩
    obtain ⟨_, _, hw⟩ := boxes1 hb
    have HW := hid hw
    clear hb hw
    go_wp2
    go_ret2
    exact ⟨rfl, HW.out⟩
  · have hfm : fmB f n = true := (fmB_iff f n).2 (fm_of_wfB hfa)
    have HE := hid (show wtxt s f n = (if s then ⟨#[45]⟩ ++ txt f n else txt f n) by simp [wtxt, hfa])
    rw [show wter s f n = 0 by simp [wter, hfa]]
    have HT0 := hid (show ter f n = 0 by simp [ter, hfm])
    have c1 := fun W hr' => wForm_c s ao n ca f W (by omega) hr'
    rw [hfa] at c1
    have C1 := hid c1
    clear c1 hfa hfm
    have hsz := txt_size HF.out hn
    cases s
    all_goals
      go_enter Tryz.func60, Tryz.ntmps60
      go_wp2_with fail
      refine (C1.out _ (HR.out.alloc _)).mono ?_
      rintro e w1 ⟨rfl, hb⟩
      obtain ⟨⟨hz, x0, x1⟩, xf, hw⟩ := boxes1 hb
      have HW := hid hw
      clear hb hw
      have ct := TextAll_u ao n ca f w1 hn (HR.out.below HW.out (Nat.le_refl _)) HF.out (HTab.out.below HW.out HTab.out.lt) hca hcam
      rw [HT0.out] at ct
      have CT := hid ct
      clear ct
      go_wp2_with fail
      refine CT.out.mono ?_
      rintro e w2 ⟨rfl, hb⟩
      obtain ⟨⟨hz, x0, x1⟩, xf, hw⟩ := keep1 hb ⟨hz, x0, x1⟩ xf HW.out
      have HW2 := hid hw
      clear hb hw
      go_wp2
      go_ret2
      exact ⟨by rw [HE.out]; rfl, HW2.out⟩
theorem wText_c (s : Bool) (ao : Option Addr) (n ca : Nat) (f : Nat → Int) (w : World) (hn : n ≤ 4096) (hr : Rd .u64 w ao n f) (_ : Tg w ao) (hf : Lm f n) (htab : Tab w) (hca : n ≤ ca) (hcam : ca ≤ 9223372036854775807) :
    Calls Tryz.prog 60 #[.agg #[.bool s, .slice ao n ca]] w fun e w' => e = .returned (.tuple #[.string (wtxt s f n), .int .i64 (wter s f n)]) ∧ Below w.heap.size w w' := wText_u s ao n ca f w hn hr hf htab hca hcam
end Go.Proofs.YtlpmfmphglgocaaGreatDoor
namespace Go.Proofs.YtlpmfmphglgocaaGreatDoor
open Go.RowKit

/-- Does a text begin with a minus? -/
def mnB (s : ByteArray) : Bool := (s.extract 0 1).toList == [45]
theorem mnB_iff {s : ByteArray} {L : Nat} {b : Nat → Nat} (hs : Sb s L b) : mnB s = true ↔ 0 < L ∧ b 0 = 45 := by
  unfold mnB
  rw [ByteArray.toList_eq, beq_iff_eq]
  by_cases hL : 0 < L
  · have hsb := hs.take (c := 1) (by omega)
    generalize s.extract 0 1 = t at hsb
    obtain ⟨⟨l⟩⟩ := t
    obtain ⟨h1, h2⟩ := hsb
    match l, h1, h2 with
    | [x], _, h2 =>
      have h4 : x.toNat = b 0 := h2 0 (show 0 < [x].length by simp)
      constructor
      · intro h
        have hx : x = 45 := by simpa using h
        exact ⟨hL, by rw [← h4, hx]; rfl⟩
      · rintro ⟨_, h5⟩
        have hx : x = 45 := UInt8.toNat_inj.1 (by rw [h4, h5]; rfl)
        rw [hx]
    | [], h1, _ => exact absurd h1 (by decide)
    | _ :: _ :: _, h1, _ => have := h1; simp [ByteArray.size] at this
  · constructor
    · intro h
      have h5 : (s.extract 0 1).size = 1 := by show (s.extract 0 1).data.size = 1; rw [← Array.length_toList, h]; rfl
      rw [ByteArray.size_extract, hs.1] at h5
      omega
    · intro h; exact absurd h.1 hL
theorem sb_self (s : ByteArray) : Sb s s.size (fun k => if h : k < s.size then (s[k]'h).toNat else 0) := ⟨rfl, fun k h => by simp [h]⟩
theorem mnB_short {s : ByteArray} (h : ¬ 1 ≤ s.size) : mnB s = false := by
  cases hb : mnB s with
  | false => rfl
  | true => exact absurd ((mnB_iff (sb_self s)).1 hb).1 (by omega)
theorem hasMinus_c (s : ByteArray) (w : World) (hm : s.size ≤ 9223372036854775807) :
    Calls Tryz.prog 161 #[.string s, .string ⟨#[45]⟩] w fun e w' => e = .returned (.bool (mnB s)) ∧ w' = w := by
  by_cases h : 1 ≤ s.size
  · have hd : decide ((1 : Int) ≤ (s.size : Int)) = true := by simp; omega
    go_enter Tryz.func161, Tryz.ntmps161
    go_wp2
    go_ret
    exact ⟨rfl, rfl⟩
  · have hd : decide ((1 : Int) ≤ (s.size : Int)) = false := by simp; omega
    have hf : mnB s = false := mnB_short h
    rw [hf]
    clear hf
    go_enter Tryz.func161, Tryz.ntmps161
    go_wp2
    go_ret
    exact ⟨rfl, rfl⟩
theorem cutLite_yes (s : ByteArray) (w : World) (hm : s.size ≤ 9223372036854775807) (hy : mnB s = true) (hs : 1 ≤ s.size) :
    Calls Tryz.prog 124 #[.string s, .string ⟨#[45]⟩] w fun e w' => e = .returned (.tuple #[.string (s.extract 1 s.size), .bool true]) ∧ w' = w := by
  have c := hasMinus_c s w hm
  rw [hy] at c
  have C := hid c
  clear c hy
  go_enter Tryz.func124, Tryz.ntmps124
  go_wp2_with fail
  refine C.out.mono ?_
  rintro e w1 ⟨rfl, rfl⟩
  go_wp2
  go_ret2
  exact ⟨rfl, rfl⟩
theorem cutLite_no (s : ByteArray) (w : World) (hm : s.size ≤ 9223372036854775807) (hy : mnB s = false) :
    Calls Tryz.prog 124 #[.string s, .string ⟨#[45]⟩] w fun e w' => e = .returned (.tuple #[.string s, .bool false]) ∧ w' = w := by
  have c := hasMinus_c s w hm
  rw [hy] at c
  have C := hid c
  clear c hy
  go_enter Tryz.func124, Tryz.ntmps124
  go_wp2_with fail
  refine C.out.mono ?_
  rintro e w1 ⟨rfl, rfl⟩
  go_wp2
  go_ret2
  exact ⟨rfl, rfl⟩
theorem cut_yes (s : ByteArray) (w : World) (hm : s.size ≤ 9223372036854775807) (hy : mnB s = true) (hs : 1 ≤ s.size) :
    Calls Tryz.prog 99 #[.string s, .string ⟨#[45]⟩] w fun e w' => e = .returned (.tuple #[.string (s.extract 1 s.size), .bool true]) ∧ w' = w := by
  have C := hid (cutLite_yes s w hm hy hs)
  clear hy
  go_enter Tryz.func99, Tryz.ntmps99
  go_wp2_with fail
  refine C.out.mono ?_
  rintro e w1 ⟨rfl, rfl⟩
  go_wp2
  go_ret2
  exact ⟨rfl, rfl⟩
theorem cut_no (s : ByteArray) (w : World) (hm : s.size ≤ 9223372036854775807) (hy : mnB s = false) :
    Calls Tryz.prog 99 #[.string s, .string ⟨#[45]⟩] w fun e w' => e = .returned (.tuple #[.string s, .bool false]) ∧ w' = w := by
  have C := hid (cutLite_no s w hm hy)
  clear hy
  go_enter Tryz.func99, Tryz.ntmps99
  go_wp2_with fail
  refine C.out.mono ?_
  rintro e w1 ⟨rfl, rfl⟩
  go_wp2
  go_ret2
  exact ⟨rfl, rfl⟩


/-- What Read answers: neg, digits, the number. -/
def WRead (L : Nat) (b : Nat → Nat) (r : Bool) (k : Nat) (f : Nat → Int) (er : Int) : Prop :=
  1048576 < L ∧ er = 2 ∧ k = 0 ∨ L ≤ 1048576 ∧ 0 < L ∧ b 0 = 45 ∧ IsNum (bsh b 1) (L - 1) ∧ 0 < dn (bsh b 1) (L - 1) ∧ er = 0 ∧ wv r f k = - (dn (bsh b 1) (L - 1) : Nat) ∨
  L ≤ 1048576 ∧ ¬ (0 < L ∧ b 0 = 45) ∧ IsNum b L ∧ er = 0 ∧ wv r f k = (dn b L : Nat) ∨
  L ≤ 1048576 ∧ ¬ (0 < L ∧ b 0 = 45 ∧ IsNum (bsh b 1) (L - 1) ∧ 0 < dn (bsh b 1) (L - 1)) ∧ ¬ (¬ (0 < L ∧ b 0 = 45) ∧ IsNum b L) ∧ er = 11 ∧ k = 0

set_option maxHeartbeats 1000000 in
theorem wRead_c (s : ByteArray) (L : Nat) (b : Nat → Nat) (w : World) (hs : Sb s L b) (hL : L ≤ 9223372036854775807) :
    Calls Tryz.prog 64 #[.string s] w fun e w' => ∃ r ao k cap f er, e = .returned (.tuple #[.agg #[.bool r, .slice ao k cap], .int .i64 er]) ∧ WRes 4294967296 w w' r ao k cap f ∧ WRead L b r k f er := by
  have hsz := hs.1
  subst hsz
  by_cases hlong : 1048576 < s.size
  · have hd : decide ((1048576 : Int) < (s.size : Int)) = true := by simp; omega
    go_enter Tryz.func64, Tryz.ntmps64
    go_wp2
    exact bodyPost_ret (v := .tuple #[.agg #[.bool false, .slice none 0 0], .int .i64 2]) (by simp [results, Tryz.results64, go_sem]) rfl ⟨false, none, 0, 0, fun _ => 0, 2, rfl, ⟨Asw.none _ (below_alloc (Below.refl _ _) _), fun h => by cases h⟩, .inl ⟨hlong, rfl, rfl⟩⟩
  · have hd : decide ((1048576 : Int) < (s.size : Int)) = false := by simp; omega
    cases hmn : mnB s
    · have hnm : Hid (¬ (0 < s.size ∧ b 0 = 45)) := by
        show ¬ (0 < s.size ∧ b 0 = 45)
        rw [← mnB_iff hs, hmn]; simp
      have CC := hid (fun W => cut_no s W hL hmn)
      have HSb := hid hs
      clear hmn hs
      go_enter Tryz.func64, Tryz.ntmps64
      go_wp2_with fail
      refine (CC.out _).mono ?_
      rintro e w1 ⟨rfl, rfl⟩
      go_wp2_with fail
      refine (Read_c s s.size b _ HSb.out).mono ?_
      rintro e w2 ⟨xa, k, cx, g, er, rfl, hres, hans⟩
      obtain ⟨⟨hz, z0, z1⟩, zf, hw⟩ := boxes1 hres.bel
      have HRes := hid hres; have HW := hid hw; have HAns := hid hans; have hk : k ≤ 4294967296 := hres.le
      clear hres hw hans
      rcases HAns.out with ⟨h1, _⟩ | ⟨_, h1, h2, h3⟩ | ⟨_, h1, h2, h3⟩
      · exact absurd h1 hlong
      · subst h2; subst h3
        have HN := hid h1
        clear h1 HAns
        go_wp2
        refine bodyPost_ret (v := .tuple #[.agg #[.bool false, .slice none 0 0], .int .i64 11]) (by simp [results, Tryz.results64, go_sem, z0, z1]) rfl ⟨false, none, 0, 0, fun _ => 0, 11, rfl, ⟨Asw.none _ ?_, fun h => by cases h⟩, .inr (.inr (.inr ⟨by omega, fun x => hnm.out ⟨x.1, x.2.1⟩, fun x => HN.out x.2, rfl, rfl⟩))⟩
        exact below_turned HW.out HW.out.size (((Turned.refl _ (w.heap.size + 1) _).set (by first | omega | (simp; done) | (simp; omega)) (by first | omega | (simp; done) | (simp; omega)) _).set (by first | omega | (simp; done) | (simp; omega)) (by first | omega | (simp; done) | (simp; omega)) _) (Nat.le_refl _)
      · subst h2
        have HN := hid h1; have HV := hid h3
        clear h1 h3 HAns
        go_wp2_with fail
        refine (signed_c _ xa k cx _ (by omega)).mono ?_
        rintro e w3 ⟨r, o, rfl, hsg, rfl⟩
        go_wp2
        refine bodyPost_ret (v := .tuple #[.agg #[.bool r, .slice xa k cx], .int .i64 0]) (by simp [results, Tryz.results64, go_sem, z0, z1, hz]) rfl ⟨r, xa, k, cx, g, 0, rfl, WRes.mk' hsg ((HRes.out.turned (below_alloc (Below.refl _ _) _) ?_).ans (by omega)), .inr (.inr (.inl ⟨by omega, hnm.out, HN.out, rfl, ?_⟩))⟩
        · exact (((Turned.refl _ _ _).set (by first | omega | (simp; done) | (simp; omega)) (by first | omega | (simp; done) | (simp; omega)) _).set (by first | omega | (simp; done) | (simp; omega)) (by first | omega | (simp; done) | (simp; omega)) _).alloc _
        · rw [wv_sign hsg, wv_false]; exact HV.out
    · obtain ⟨h0, h1⟩ := (mnB_iff hs).1 hmn
      have hmi : Hid (0 < s.size ∧ b 0 = 45) := ⟨h0, h1⟩
      have CC := hid (fun W => cut_yes s W hL hmn h0)
      have HSb := hid (hs.drop (c := 1) h0)
      clear hmn hs h1
      go_enter Tryz.func64, Tryz.ntmps64
      go_wp2_with fail
      refine (CC.out _).mono ?_
      rintro e w1 ⟨rfl, rfl⟩
      go_wp2_with fail
      refine (Read_c (s.extract 1 s.size) (s.size - 1) (bsh b 1) _ HSb.out).mono ?_
      rintro e w2 ⟨xa, k, cx, g, er, rfl, hres, hans⟩
      obtain ⟨⟨hz, z0, z1⟩, zf, hw⟩ := boxes1 hres.bel
      have HRes := hid hres; have HW := hid hw; have HAns := hid hans; have hk : k ≤ 4294967296 := hres.le
      clear hres hw hans
      rcases HAns.out with ⟨h1, _⟩ | ⟨_, h1, h2, h3⟩ | ⟨_, h1, h2, h3⟩
      · omega
      · subst h2; subst h3
        have HN := hid h1
        clear h1 HAns
        go_wp2
        refine bodyPost_ret (v := .tuple #[.agg #[.bool false, .slice none 0 0], .int .i64 11]) (by simp [results, Tryz.results64, go_sem, z0, z1]) rfl ⟨false, none, 0, 0, fun _ => 0, 11, rfl, ⟨Asw.none _ ?_, fun h => by cases h⟩, .inr (.inr (.inr ⟨by omega, fun x => HN.out x.2.2.1, fun x => x.1 hmi.out, rfl, rfl⟩))⟩
        exact below_turned HW.out HW.out.size (((Turned.refl _ (w.heap.size + 1) _).set (by first | omega | (simp; done) | (simp; omega)) (by first | omega | (simp; done) | (simp; omega)) _).set (by first | omega | (simp; done) | (simp; omega)) (by first | omega | (simp; done) | (simp; omega)) _) (Nat.le_refl _)
      · subst h2
        have HN := hid h1; have HV := hid h3
        clear h1 h3 HAns
        by_cases hk0 : k = 0
        · subst hk0
          have hdn : Hid (dn (bsh b 1) (s.size - 1) = 0) := by
            show dn (bsh b 1) (s.size - 1) = 0
            have := HV.out; simp [vf] at this; omega
          go_wp2
          refine bodyPost_ret (v := .tuple #[.agg #[.bool false, .slice none 0 0], .int .i64 11]) (by simp [results, Tryz.results64, go_sem, z0, z1]) rfl ⟨false, none, 0, 0, fun _ => 0, 11, rfl, ⟨Asw.none _ ?_, fun h => by cases h⟩, .inr (.inr (.inr ⟨by omega, fun x => by have := hdn.out; have := x.2.2.2; omega, fun x => x.1 hmi.out, rfl, rfl⟩))⟩
          exact below_turned HW.out HW.out.size (((Turned.refl _ (w.heap.size + 1) _).set (by first | omega | (simp; done) | (simp; omega)) (by first | omega | (simp; done) | (simp; omega)) _).set (by first | omega | (simp; done) | (simp; omega)) (by first | omega | (simp; done) | (simp; omega)) _) (Nat.le_refl _)
        · have hki : ((k : Int) == 0) = false := by simp; omega
          have hdn : Hid (0 < dn (bsh b 1) (s.size - 1)) := by
            show 0 < dn (bsh b 1) (s.size - 1)
            have := HV.out; have := vf_pos HRes.out.lm HRes.out.fm (show 0 < k by omega); omega
          go_wp2_with fail
          refine (signed_c _ xa k cx _ (by omega)).mono ?_
          rintro e w3 ⟨r, o, rfl, hsg, rfl⟩
          go_wp2
          refine bodyPost_ret (v := .tuple #[.agg #[.bool r, .slice xa k cx], .int .i64 0]) (by simp [results, Tryz.results64, go_sem, z0, z1, hz]) rfl ⟨r, xa, k, cx, g, 0, rfl, WRes.mk' hsg ((HRes.out.turned (below_alloc (Below.refl _ _) _) ?_).ans (by omega)), .inr (.inl ⟨by omega, hmi.out.1, hmi.out.2, HN.out, hdn.out, rfl, ?_⟩)⟩
          · exact (((Turned.refl _ _ _).set (by first | omega | (simp; done) | (simp; omega)) (by first | omega | (simp; done) | (simp; omega)) _).set (by first | omega | (simp; done) | (simp; omega)) (by first | omega | (simp; done) | (simp; omega)) _).alloc _
          · rw [wv_sign hsg, wv_true, HV.out]
end Go.Proofs.YtlpmfmphglgocaaGreatDoor
namespace Go.Proofs.YtlpmfmphglgocaaGreatDoor
open Go.RowKit

theorem Own.tg {w base ao n cap f} (h : Own .u64 28 w base (.slice ao n cap) n f) : Tg w ao := fun a ha => by
  obtain ⟨h1, h2⟩ := h
  rcases h2 with ⟨hv, _⟩ | ⟨g, cap', cur, hv, hb, hg, hn, hm, hs, ht⟩
  · cases hv; cases ha
  · cases hv; cases ha; exact ⟨_, _, hg⟩
theorem kN0 {w : World} {x y : Value} {t : TypeId} : (w.alloc (.cells #[x, y] t)).cell? ⟨w.heap.size, 0, none⟩ = some x := by simp [go_sem]
theorem kN1 {w : World} {x y : Value} {t : TypeId} : (w.alloc (.cells #[x, y] t)).cell? ⟨w.heap.size, 1, none⟩ = some y := by simp [go_sem]
theorem kCb {w w' : World} {a : Addr} {v : Value} (hb : Below w.heap.size w w') (h : w.cell? a = some v) : w'.cell? a = some v := (hb.cell (World.block_lt_of_cell? w a h)).trans h
theorem kBa {w0 w : World} {o : Obj} (h : Below w0.heap.size w0 w) : Below w0.heap.size w0 (w.alloc o) := below_alloc h o
theorem kBb {w0 w w' : World} (hb : Below w.heap.size w w') (h : Below w0.heap.size w0 w) : Below w0.heap.size w0 w' := h.trans (hb.mono h.size)
end Go.Proofs.YtlpmfmphglgocaaGreatDoor
