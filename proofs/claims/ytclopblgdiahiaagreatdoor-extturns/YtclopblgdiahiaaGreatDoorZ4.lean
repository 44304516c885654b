/-
  Walks of package whole's calls Add, Sub, Mul. Walks of package whole: slices.Clone, Neg, Cmp, Of. The walk of package whole's call Divide. Walks of the document's reference for nat: Twin, From, To. Walks of the document's reference for nat: Cmp, Add, Sub on digits, and the calls DocAdd, DocSub, DocCmp. Walks of the document's reference for nat: Word, short.
-/
import Derived.Test.YtclopblgdiahiaaGreatDoorZ3
import Derived.Lib.LazyBuf
import Derived.Deep.RegionHeld3
import Derived.Test.YtclopblgdiahiaaGreatDoorZ1
namespace Go.Proofs.YtclopblgdiahiaaGreatDoor
open Go.RowKit

/-- What a call of two numbers answers. -/
def WAns (P : Prop) (v : Int) (r : Bool) (k : Nat) (f : Nat → Int) (er : Int) : Prop := P ∧ er = 0 ∧ wv r f k = v ∨ ¬ P ∧ er = 3 ∧ k = 0
def W2 (s : Bool) (f : Nat → Int) (n : Nat) (t : Bool) (h : Nat → Int) (m : Nat) : Prop := wfB s f n = true ∧ wfB t h m = true
theorem fm_of_wfB {s : Bool} {f : Nat → Int} {n : Nat} (h : wfB s f n = true) : Fm f n := ((wfB_iff s f n).1 h).1
theorem sgn_of_wfB {s : Bool} {f : Nat → Int} {n : Nat} (h : wfB s f n = true) : s = true → 0 < n := ((wfB_iff s f n).1 h).2
/-- Three boxes laid ahead of a call, as they read behind it. -/
theorem boxes3 {w w1 : World} {a0 a1 b0 b1 c0 c1 : Value} {t : TypeId} (hb : Below (((w.alloc (.cells #[a0, a1] t)).alloc (.cells #[b0, b1] t)).alloc (.cells #[c0, c1] t)).heap.size (((w.alloc (.cells #[a0, a1] t)).alloc (.cells #[b0, b1] t)).alloc (.cells #[c0, c1] t)) w1) :
    (w.heap.size + 1 + 1 < w1.heap.size ∧ w1.cell? ⟨w.heap.size, 0, none⟩ = some a0 ∧ w1.cell? ⟨w.heap.size, 1, none⟩ = some a1 ∧ w1.cell? ⟨w.heap.size + 1, 0, none⟩ = some b0 ∧ w1.cell? ⟨w.heap.size + 1, 1, none⟩ = some b1 ∧ w1.cell? ⟨w.heap.size + 1 + 1, 0, none⟩ = some c0 ∧ w1.cell? ⟨w.heap.size + 1 + 1, 1, none⟩ = some c1) ∧ (∀ o, w1.frozen? ⟨w.heap.size + 1 + 1, o, none⟩ = false) ∧ Below w.heap.size w w1 := by
  obtain ⟨h1, h2⟩ := bcell hb
  have hz := hb.size
  simp at hz
  refine ⟨⟨by omega, (h1 _ _ (by simp; omega)).trans (by simp [go_sem]), (h1 _ _ (by simp; omega)).trans (by simp [go_sem]), (h1 _ _ (by simp)).trans (by simp [go_sem]), (h1 _ _ (by simp)).trans (by simp [go_sem]), (h1 _ _ (by simp)).trans (by simp [go_sem]), (h1 _ _ (by simp)).trans (by simp [go_sem])⟩, fun o => (h2 _ _ (by simp)).trans (by
    have e := heap_alloc_new ((w.alloc (.cells #[a0, a1] t)).alloc (.cells #[b0, b1] t)) (.cells #[c0, c1] t)
    rw [size_alloc1, size_alloc1] at e
    simp only [World.frozen?, e]; simp), ?_⟩
  exact (below_alloc (below_alloc (below_alloc (Below.refl w.heap.size w) _) _) _).trans (hb.mono (by simp; omega))
/-- Cells of three boxes behind a further call. -/
theorem keep3 {w w1 w2 : World} {a0 a1 b0 b1 c0 c1 : Value} (hb : Below w1.heap.size w1 w2) (h : w.heap.size + 1 + 1 < w1.heap.size ∧ w1.cell? ⟨w.heap.size, 0, none⟩ = some a0 ∧ w1.cell? ⟨w.heap.size, 1, none⟩ = some a1 ∧ w1.cell? ⟨w.heap.size + 1, 0, none⟩ = some b0 ∧ w1.cell? ⟨w.heap.size + 1, 1, none⟩ = some b1 ∧ w1.cell? ⟨w.heap.size + 1 + 1, 0, none⟩ = some c0 ∧ w1.cell? ⟨w.heap.size + 1 + 1, 1, none⟩ = some c1) (hf : ∀ o, w1.frozen? ⟨w.heap.size + 1 + 1, o, none⟩ = false) (hw : Below w.heap.size w w1) :
    (w.heap.size + 1 + 1 < w2.heap.size ∧ w2.cell? ⟨w.heap.size, 0, none⟩ = some a0 ∧ w2.cell? ⟨w.heap.size, 1, none⟩ = some a1 ∧ w2.cell? ⟨w.heap.size + 1, 0, none⟩ = some b0 ∧ w2.cell? ⟨w.heap.size + 1, 1, none⟩ = some b1 ∧ w2.cell? ⟨w.heap.size + 1 + 1, 0, none⟩ = some c0 ∧ w2.cell? ⟨w.heap.size + 1 + 1, 1, none⟩ = some c1) ∧ (∀ o, w2.frozen? ⟨w.heap.size + 1 + 1, o, none⟩ = false) ∧ Below w.heap.size w w2 := by
  obtain ⟨h1, h2⟩ := bcell hb
  have hz := hb.size
  obtain ⟨z, a, b, c, d, e, f⟩ := h
  exact ⟨⟨by omega, (h1 _ _ (by omega)).trans a, (h1 _ _ (by omega)).trans b, (h1 _ _ (by omega)).trans c, (h1 _ _ (by omega)).trans d, (h1 _ _ (by omega)).trans e, (h1 _ _ (by omega)).trans f⟩, fun o => (h2 _ _ (by omega)).trans (hf o), hw.trans (hb.mono hw.size)⟩

theorem wv_mul (s t : Bool) (f h g : Nat → Int) (n m k : Nat) (hv : vf g k = vf f n * vf h m) : wv (!(s == t)) g k = wv s f n * wv t h m := by
  cases s <;> cases t <;> simp [wv, hv, Int.neg_mul, Int.mul_neg]

set_option maxHeartbeats 1000000 in
theorem wAdd_c (s t : Bool) (ao bo : Option Addr) (n m ca cb : Nat) (f h : Nat → Int) (w : World) (hn : n ≤ 8796093022208) (hm : m ≤ 8796093022208) (hr : Rd .u64 w ao n f) (hs : Rd .u64 w bo m h) (hf : Lm f n) (hh : Lm h m) :
    Calls Tryz.prog 39 #[.agg #[.bool s, .slice ao n ca], .agg #[.bool t, .slice bo m cb]] w fun e w' => ∃ r ao' k cap' f' er, e = .returned (.tuple #[.agg #[.bool r, .slice ao' k cap'], .int .i64 er]) ∧ WRes (max n m + 1) w w' r ao' k cap' f' ∧ WAns (W2 s f n t h m) (wv s f n + wv t h m) r k f' er := by
  have HR := hid hr; have HS := hid hs; have HF := hid hf; have HH := hid hh
  clear hr hs hf hh
  cases hfa : wfB s f n
  · have c1 := fun W hr' => wForm_c s ao n ca f W (by omega) hr'
    rw [hfa] at c1
    have C1 := hid c1; have HN := hid hfa
    clear c1 hfa
    go_enter Tryz.func39, Tryz.ntmps39
    go_wp2_with fail
    refine (C1.out _ (((HR.out.alloc _).alloc _).alloc _)).mono ?_
    rintro e w1 ⟨rfl, hb⟩
    obtain ⟨⟨hz, x0, x1, y0, y1, z0, z1⟩, zf, hw⟩ := boxes3 hb
    have HB := hid hb; have HW := hid hw
    clear hb hw
    go_wp2
    refine bodyPost_ret (v := .tuple #[.agg #[.bool false, .slice none 0 0], .int .i64 3]) (by simp [results, Tryz.results39, go_sem, z0, z1]) rfl ⟨false, none, 0, 0, f, 3, rfl, ⟨Asw.none f ?_, fun h => by cases h⟩, .inr ⟨fun x => ?_, rfl, rfl⟩⟩
    · exact below_turned HW.out HW.out.size (((Turned.refl _ (w.heap.size + 1 + 1 + 1) _).set (by first | omega | (simp; done) | (simp; omega)) (by first | omega | (simp; done) | (simp; omega)) _).set (by first | omega | (simp; done) | (simp; omega)) (by first | omega | (simp; done) | (simp; omega)) _) (Nat.le_refl _)
    · have := x.1; rw [HN.out] at this; cases this
  · have c1 := fun W hr' => wForm_c s ao n ca f W (by omega) hr'
    rw [hfa] at c1
    have C1 := hid c1; have HA := hid hfa
    clear c1 hfa
    cases hfb : wfB t h m
    · have c2 := fun W hr' => wForm_c t bo m cb h W (by omega) hr'
      rw [hfb] at c2
      have C2 := hid c2; have HN := hid hfb
      clear c2 hfb
      go_enter Tryz.func39, Tryz.ntmps39
      go_wp2_with fail
      refine (C1.out _ (((HR.out.alloc _).alloc _).alloc _)).mono ?_
      rintro e w1 ⟨rfl, hb⟩
      obtain ⟨⟨hz, x0, x1, y0, y1, z0, z1⟩, zf, hw⟩ := boxes3 hb
      have HW := hid hw
      clear hb hw
      go_wp2_with fail
      refine (C2.out _ (HS.out.below HW.out (Nat.le_refl _))).mono ?_
      rintro e w2 ⟨rfl, hb⟩
      obtain ⟨⟨hz, x0, x1, y0, y1, z0, z1⟩, zf, hw⟩ := keep3 hb ⟨hz, x0, x1, y0, y1, z0, z1⟩ zf HW.out
      have HW2 := hid hw
      clear hb hw
      go_wp2
      refine bodyPost_ret (v := .tuple #[.agg #[.bool false, .slice none 0 0], .int .i64 3]) (by simp [results, Tryz.results39, go_sem, z0, z1]) rfl ⟨false, none, 0, 0, f, 3, rfl, ⟨Asw.none f ?_, fun h => by cases h⟩, .inr ⟨fun x => ?_, rfl, rfl⟩⟩
      · exact below_turned HW2.out HW2.out.size (((Turned.refl _ (w.heap.size + 1 + 1 + 1) _).set (by first | omega | (simp; done) | (simp; omega)) (by first | omega | (simp; done) | (simp; omega)) _).set (by first | omega | (simp; done) | (simp; omega)) (by first | omega | (simp; done) | (simp; omega)) _) (Nat.le_refl _)
      · have := x.2; rw [HN.out] at this; cases this
    · have c2 := fun W hr' => wForm_c t bo m cb h W (by omega) hr'
      rw [hfb] at c2
      have C2 := hid c2; have HB := hid hfb
      clear c2 hfb
      go_enter Tryz.func39, Tryz.ntmps39
      go_wp2_with fail
      refine (C1.out _ (((HR.out.alloc _).alloc _).alloc _)).mono ?_
      rintro e w1 ⟨rfl, hb⟩
      obtain ⟨⟨hz, x0, x1, y0, y1, z0, z1⟩, zf, hw⟩ := boxes3 hb
      have HW := hid hw
      clear hb hw
      go_wp2_with fail
      refine (C2.out _ (HS.out.below HW.out (Nat.le_refl _))).mono ?_
      rintro e w2 ⟨rfl, hb⟩
      obtain ⟨⟨hz, x0, x1, y0, y1, z0, z1⟩, zf, hw⟩ := keep3 hb ⟨hz, x0, x1, y0, y1, z0, z1⟩ zf HW.out
      have HW2 := hid hw
      clear hb hw
      go_wp2_with fail
      refine (wadd_c s t ao bo n m ca cb f h _ hn hm (HR.out.below HW2.out (Nat.le_refl _)) (HS.out.below HW2.out (Nat.le_refl _)) HF.out HH.out (fm_of_wfB HA.out) (fm_of_wfB HB.out)).mono ?_
      rintro e w3 ⟨r, xa, k, cx, g, rfl, hres, hv⟩
      obtain ⟨⟨hz, x0, x1, y0, y1, z0, z1⟩, zf, hw⟩ := keep3 hres.res.bel ⟨hz, x0, x1, y0, y1, z0, z1⟩ zf HW2.out
      have HRes := hid hres; have HV := hid hv
      clear hres hv hw
      go_wp2
      refine bodyPost_ret (v := .tuple #[.agg #[.bool r, .slice xa k cx], .int .i64 0]) (by simp [results, Tryz.results39, go_sem, z0, z1]) rfl ⟨r, xa, k, cx, g, 0, rfl, ?_, .inl ⟨⟨HA.out, HB.out⟩, rfl, ?_⟩⟩
      · exact ⟨HRes.out.res.turned HW2.out (((Turned.refl _ _ _).set (by first | omega | (simp; done) | (simp; omega)) (by first | omega | (simp; done) | (simp; omega)) _).set (by first | omega | (simp; done) | (simp; omega)) (by first | omega | (simp; done) | (simp; omega)) _), HRes.out.sgn⟩
      · exact HV.out

set_option maxHeartbeats 1000000 in
theorem wMul_c (s t : Bool) (ao bo : Option Addr) (n m ca cb : Nat) (f h : Nat → Int) (w : World) (hn : n ≤ 1099511627776) (hm : m ≤ 1099511627776) (hca : n ≤ ca) (hcb : m ≤ cb) (hcam : ca ≤ 9223372036854775807) (hcbm : cb ≤ 9223372036854775807) (hr : Rd .u64 w ao n f) (hs : Rd .u64 w bo m h) (hf : Lm f n) (hh : Lm h m) :
    Calls Tryz.prog 41 #[.agg #[.bool s, .slice ao n ca], .agg #[.bool t, .slice bo m cb]] w fun e w' => ∃ r ao' k cap' f' er, e = .returned (.tuple #[.agg #[.bool r, .slice ao' k cap'], .int .i64 er]) ∧ WRes (n + m) w w' r ao' k cap' f' ∧ WAns (W2 s f n t h m) (wv s f n * wv t h m) r k f' er := by
  have HR := hid hr; have HS := hid hs; have HF := hid hf; have HH := hid hh
  clear hr hs hf hh
  cases hfa : wfB s f n
  · have c1 := fun W hr' => wForm_c s ao n ca f W (by omega) hr'
    rw [hfa] at c1
    have C1 := hid c1; have HN := hid hfa
    clear c1 hfa
    go_enter Tryz.func41, Tryz.ntmps41
    go_wp2_with fail
    refine (C1.out _ (((HR.out.alloc _).alloc _).alloc _)).mono ?_
    rintro e w1 ⟨rfl, hb⟩
    obtain ⟨⟨hz, x0, x1, y0, y1, z0, z1⟩, zf, hw⟩ := boxes3 hb
    have HB := hid hb; have HW := hid hw
    clear hb hw
    go_wp2
    refine bodyPost_ret (v := .tuple #[.agg #[.bool false, .slice none 0 0], .int .i64 3]) (by simp [results, Tryz.results41, go_sem, z0, z1]) rfl ⟨false, none, 0, 0, f, 3, rfl, ⟨Asw.none f ?_, fun h => by cases h⟩, .inr ⟨fun x => ?_, rfl, rfl⟩⟩
    · exact below_turned HW.out HW.out.size (((Turned.refl _ (w.heap.size + 1 + 1 + 1) _).set (by first | omega | (simp; done) | (simp; omega)) (by first | omega | (simp; done) | (simp; omega)) _).set (by first | omega | (simp; done) | (simp; omega)) (by first | omega | (simp; done) | (simp; omega)) _) (Nat.le_refl _)
    · have := x.1; rw [HN.out] at this; cases this
  · have c1 := fun W hr' => wForm_c s ao n ca f W (by omega) hr'
    rw [hfa] at c1
    have C1 := hid c1; have HA := hid hfa
    clear c1 hfa
    cases hfb : wfB t h m
    · have c2 := fun W hr' => wForm_c t bo m cb h W (by omega) hr'
      rw [hfb] at c2
      have C2 := hid c2; have HN := hid hfb
      clear c2 hfb
      go_enter Tryz.func41, Tryz.ntmps41
      go_wp2_with fail
      refine (C1.out _ (((HR.out.alloc _).alloc _).alloc _)).mono ?_
      rintro e w1 ⟨rfl, hb⟩
      obtain ⟨⟨hz, x0, x1, y0, y1, z0, z1⟩, zf, hw⟩ := boxes3 hb
      have HW := hid hw
      clear hb hw
      go_wp2_with fail
      refine (C2.out _ (HS.out.below HW.out (Nat.le_refl _))).mono ?_
      rintro e w2 ⟨rfl, hb⟩
      obtain ⟨⟨hz, x0, x1, y0, y1, z0, z1⟩, zf, hw⟩ := keep3 hb ⟨hz, x0, x1, y0, y1, z0, z1⟩ zf HW.out
      have HW2 := hid hw
      clear hb hw
      go_wp2
      refine bodyPost_ret (v := .tuple #[.agg #[.bool false, .slice none 0 0], .int .i64 3]) (by simp [results, Tryz.results41, go_sem, z0, z1]) rfl ⟨false, none, 0, 0, f, 3, rfl, ⟨Asw.none f ?_, fun h => by cases h⟩, .inr ⟨fun x => ?_, rfl, rfl⟩⟩
      · exact below_turned HW2.out HW2.out.size (((Turned.refl _ (w.heap.size + 1 + 1 + 1) _).set (by first | omega | (simp; done) | (simp; omega)) (by first | omega | (simp; done) | (simp; omega)) _).set (by first | omega | (simp; done) | (simp; omega)) (by first | omega | (simp; done) | (simp; omega)) _) (Nat.le_refl _)
      · have := x.2; rw [HN.out] at this; cases this
    · have c2 := fun W hr' => wForm_c t bo m cb h W (by omega) hr'
      rw [hfb] at c2
      have C2 := hid c2; have HB := hid hfb
      clear c2 hfb
      go_enter Tryz.func41, Tryz.ntmps41
      go_wp2_with fail
      refine (C1.out _ (((HR.out.alloc _).alloc _).alloc _)).mono ?_
      rintro e w1 ⟨rfl, hb⟩
      obtain ⟨⟨hz, x0, x1, y0, y1, z0, z1⟩, zf, hw⟩ := boxes3 hb
      have HW := hid hw
      clear hb hw
      go_wp2_with fail
      refine (C2.out _ (HS.out.below HW.out (Nat.le_refl _))).mono ?_
      rintro e w2 ⟨rfl, hb⟩
      obtain ⟨⟨hz, x0, x1, y0, y1, z0, z1⟩, zf, hw⟩ := keep3 hb ⟨hz, x0, x1, y0, y1, z0, z1⟩ zf HW.out
      have HW2 := hid hw
      clear hb hw
      go_wp2_with fail
      refine (Mul_c ao bo n m ca cb f h _ hn hm hca hcb hcam hcbm (HR.out.below HW2.out (Nat.le_refl _)) (HS.out.below HW2.out (Nat.le_refl _)) HF.out HH.out).mono ?_
      rintro e w3 ⟨xa, k, cx, g, er, rfl, hres, hc⟩
      obtain ⟨rfl, hv⟩ : er = 0 ∧ vf g k = vf f n * vf h m := by
        rcases hc with ⟨_, _, h1, h2⟩ | ⟨h1, _⟩
        · exact ⟨h1, h2⟩
        · exact absurd ⟨fm_of_wfB HA.out, fm_of_wfB HB.out⟩ h1
      clear hc
      obtain ⟨⟨hz, x0, x1, y0, y1, z0, z1⟩, zf, hw⟩ := keep3 hres.bel ⟨hz, x0, x1, y0, y1, z0, z1⟩ zf HW2.out
      have hk : k ≤ n + m := hres.le
      have HRes := hid hres; have HV := hid hv
      clear hres hv hw
      go_wp2_with fail
      refine (signed_c _ xa k cx _ (by omega)).mono ?_
      rintro e w4 ⟨r, o, rfl, hsg, rfl⟩
      go_wp2
      refine bodyPost_ret (v := .tuple #[.agg #[.bool r, .slice xa k cx], .int .i64 0]) (by simp [results, Tryz.results41, go_sem, z0, z1, hz]) rfl ⟨r, xa, k, cx, g, 0, rfl, ?_, .inl ⟨⟨HA.out, HB.out⟩, rfl, ?_⟩⟩
      · exact WRes.mk' hsg ((HRes.out.turned HW2.out ((((Turned.refl _ _ _).set (by first | omega | (simp; done) | (simp; omega)) (by first | omega | (simp; done) | (simp; omega)) _).set (by first | omega | (simp; done) | (simp; omega)) (by first | omega | (simp; done) | (simp; omega)) _).alloc _)).ans (by omega))
      · rw [wv_sign hsg]; exact wv_mul s t f h g n m k HV.out

set_option maxHeartbeats 1000000 in
theorem wSub_c (s t : Bool) (ao bo : Option Addr) (n m ca cb : Nat) (f h : Nat → Int) (w : World) (hn : n ≤ 8796093022208) (hm : m ≤ 8796093022208) (hr : Rd .u64 w ao n f) (hs : Rd .u64 w bo m h) (hf : Lm f n) (hh : Lm h m) :
    Calls Tryz.prog 40 #[.agg #[.bool s, .slice ao n ca], .agg #[.bool t, .slice bo m cb]] w fun e w' => ∃ r ao' k cap' f' er, e = .returned (.tuple #[.agg #[.bool r, .slice ao' k cap'], .int .i64 er]) ∧ WRes (max n m + 1) w w' r ao' k cap' f' ∧ WAns (W2 s f n t h m) (wv s f n - wv t h m) r k f' er := by
  have HR := hid hr; have HS := hid hs; have HF := hid hf; have HH := hid hh
  clear hr hs hf hh
  cases hfa : wfB s f n
  · have c1 := fun W hr' => wForm_c s ao n ca f W (by omega) hr'
    rw [hfa] at c1
    have C1 := hid c1; have HN := hid hfa
    clear c1 hfa
    go_enter Tryz.func40, Tryz.ntmps40
    go_wp2_with fail
    refine (C1.out _ (((HR.out.alloc _).alloc _).alloc _)).mono ?_
    rintro e w1 ⟨rfl, hb⟩
    obtain ⟨⟨hz, x0, x1, y0, y1, z0, z1⟩, zf, hw⟩ := boxes3 hb
    have HB := hid hb; have HW := hid hw
    clear hb hw
    go_wp2
    refine bodyPost_ret (v := .tuple #[.agg #[.bool false, .slice none 0 0], .int .i64 3]) (by simp [results, Tryz.results40, go_sem, z0, z1]) rfl ⟨false, none, 0, 0, f, 3, rfl, ⟨Asw.none f ?_, fun h => by cases h⟩, .inr ⟨fun x => ?_, rfl, rfl⟩⟩
    · exact below_turned HW.out HW.out.size (((Turned.refl _ (w.heap.size + 1 + 1 + 1) _).set (by first | omega | (simp; done) | (simp; omega)) (by first | omega | (simp; done) | (simp; omega)) _).set (by first | omega | (simp; done) | (simp; omega)) (by first | omega | (simp; done) | (simp; omega)) _) (Nat.le_refl _)
    · have := x.1; rw [HN.out] at this; cases this
  · have c1 := fun W hr' => wForm_c s ao n ca f W (by omega) hr'
    rw [hfa] at c1
    have C1 := hid c1; have HA := hid hfa
    clear c1 hfa
    cases hfb : wfB t h m
    · have c2 := fun W hr' => wForm_c t bo m cb h W (by omega) hr'
      rw [hfb] at c2
      have C2 := hid c2; have HN := hid hfb
      clear c2 hfb
      go_enter Tryz.func40, Tryz.ntmps40
      go_wp2_with fail
      refine (C1.out _ (((HR.out.alloc _).alloc _).alloc _)).mono ?_
      rintro e w1 ⟨rfl, hb⟩
      obtain ⟨⟨hz, x0, x1, y0, y1, z0, z1⟩, zf, hw⟩ := boxes3 hb
      have HW := hid hw
      clear hb hw
      go_wp2_with fail
      refine (C2.out _ (HS.out.below HW.out (Nat.le_refl _))).mono ?_
      rintro e w2 ⟨rfl, hb⟩
      obtain ⟨⟨hz, x0, x1, y0, y1, z0, z1⟩, zf, hw⟩ := keep3 hb ⟨hz, x0, x1, y0, y1, z0, z1⟩ zf HW.out
      have HW2 := hid hw
      clear hb hw
      go_wp2
      refine bodyPost_ret (v := .tuple #[.agg #[.bool false, .slice none 0 0], .int .i64 3]) (by simp [results, Tryz.results40, go_sem, z0, z1]) rfl ⟨false, none, 0, 0, f, 3, rfl, ⟨Asw.none f ?_, fun h => by cases h⟩, .inr ⟨fun x => ?_, rfl, rfl⟩⟩
      · exact below_turned HW2.out HW2.out.size (((Turned.refl _ (w.heap.size + 1 + 1 + 1) _).set (by first | omega | (simp; done) | (simp; omega)) (by first | omega | (simp; done) | (simp; omega)) _).set (by first | omega | (simp; done) | (simp; omega)) (by first | omega | (simp; done) | (simp; omega)) _) (Nat.le_refl _)
      · have := x.2; rw [HN.out] at this; cases this
    · have c2 := fun W hr' => wForm_c t bo m cb h W (by omega) hr'
      rw [hfb] at c2
      have C2 := hid c2; have HB := hid hfb
      clear c2 hfb
      go_enter Tryz.func40, Tryz.ntmps40
      go_wp2_with fail
      refine (C1.out _ (((HR.out.alloc _).alloc _).alloc _)).mono ?_
      rintro e w1 ⟨rfl, hb⟩
      obtain ⟨⟨hz, x0, x1, y0, y1, z0, z1⟩, zf, hw⟩ := boxes3 hb
      have HW := hid hw
      clear hb hw
      go_wp2_with fail
      refine (C2.out _ (HS.out.below HW.out (Nat.le_refl _))).mono ?_
      rintro e w2 ⟨rfl, hb⟩
      obtain ⟨⟨hz, x0, x1, y0, y1, z0, z1⟩, zf, hw⟩ := keep3 hb ⟨hz, x0, x1, y0, y1, z0, z1⟩ zf HW.out
      have HW2 := hid hw
      clear hb hw
      have CA : Hid (∀ (W : World) (r1 : Bool), Below w2.heap.size w2 W → Calls Tryz.prog 85 #[.agg #[.bool s, .slice ao n ca], .agg #[.bool r1, .slice bo m cb]] W fun e w4 => ∃ r xa k cx g, e = .returned (.agg #[.bool r, .slice xa k cx]) ∧ Hid (WRes (max n m + 1) W w4 r xa k cx g ∧ wv r g k = wv s f n + wv r1 h m) ∧ w.heap.size + 1 + 1 < w4.heap.size ∧ w4.cell? ⟨w.heap.size + 1 + 1, 0, none⟩ = some (.bool false) ∧ w4.cell? ⟨w.heap.size + 1 + 1, 1, none⟩ = some (.slice none 0 0) ∧ ∀ o, w4.frozen? ⟨w.heap.size + 1 + 1, o, none⟩ = false) := by
        intro W r1 hW
        have hWw : Below w.heap.size w W := HW2.out.trans (hW.mono HW2.out.size)
        refine (wadd_c s r1 ao bo n m ca cb f h W hn hm (HR.out.below hWw (Nat.le_refl _)) (HS.out.below hWw (Nat.le_refl _)) HF.out HH.out (fm_of_wfB HA.out) (fm_of_wfB HB.out)).mono ?_
        rintro e w4 ⟨r, xa, k, cx, g, rfl, hres, hv⟩
        obtain ⟨⟨hz4, _, _, _, _, u0, u1⟩, uf, hw4⟩ := keep3 (hW.trans (hres.res.bel.mono hW.size)) ⟨hz, x0, x1, y0, y1, z0, z1⟩ zf HW2.out
        exact ⟨r, xa, k, cx, g, rfl, ⟨hres, hv⟩, hz4, u0, u1, uf⟩
      have hz0 : w.heap.size < w2.heap.size := by omega
      have hz1 : w.heap.size + 1 < w2.heap.size := by omega
      go_wp2
      go_region_with (first | (go_at_call 78; refine (signed_c _ bo m cb _ (by omega)).mono ?_; rintro e w3 ⟨r1, o, rfl, hsg, rfl⟩) | (go_at_call 85; refine (CA.out _ _ (by repeat (first | exact Below.refl _ _ | refine Below.drew ?_ | refine below_alloc ?_ _))).mono ?_; rintro e w4 ⟨r, xa, k, cx, g, rfl, HRV, hz4, u0, u1, uf⟩))
      all_goals
        go_wp2
        refine bodyPost_ret (v := .tuple #[.agg #[.bool r, .slice xa k cx], .int .i64 0]) (by simp [results, Tryz.results40, go_sem, u0, u1]) rfl ⟨r, xa, k, cx, g, 0, rfl, ?_, .inl ⟨⟨HA.out, HB.out⟩, rfl, ?_⟩⟩
        · exact ⟨HRV.out.1.res.turned (by repeat (first | exact HW2.out | refine Below.drew ?_ | refine below_alloc ?_ _)) (((Turned.refl _ _ _).set (by first | omega | (simp; done) | (simp; omega)) (by first | omega | (simp; done) | (simp; omega)) _).set (by first | omega | (simp; done) | (simp; omega)) (by first | omega | (simp; done) | (simp; omega)) _), HRV.out.1.sgn⟩
        · rw [HRV.out.2, wv_sign hsg]; cases t <;> simp only [Bool.not_false, Bool.not_true, wv_false, wv_true] <;> omega
end Go.Proofs.YtclopblgdiahiaaGreatDoor
namespace Go.Proofs.YtclopblgdiahiaaGreatDoor
open Go.RowKit

set_option maxRecDepth 100000 in
set_option maxHeartbeats 400000 in
/-- slices.Clone: a list of its own. -/
theorem sclone_c (ao : Option Addr) (n cap : Nat) (f : Nat → Int) (w : World) (hn : n ≤ 8796093022208) (hr : Rd .u64 w ao n f) (hnil : ao = none → n = 0 ∧ cap = 0) (hf : Lm f n) (ff : Fm f n) :
    Calls Tryz.prog 87 #[.slice ao n cap] w fun e w' => ∃ ao' cap', e = .returned (.slice ao' n cap') ∧ Asw n w w' ao' n cap' f := by
  have HF := hid hf; have FF := hid ff
  have hEq := fun W a l c => run_eql_slice_nil (P := Tryz.prog) W 22 28 a l c Tryz.underlying22
  clear hf ff
  cases ao with
  | none =>
    obtain ⟨rfl, rfl⟩ := hnil rfl
    go_enter Tryz.func87, Tryz.ntmps87
    go_wp2
    go_ret
    exact ⟨none, 0, rfl, Asw.none f (Below.refl _ _)⟩
  | some ad =>
    clear hnil
    have HR := hid hr
    clear hr
    go_enter Tryz.func87, Tryz.ntmps87
    obtain ⟨i0, hi, hz0, hz1, hz2⟩ := info_parts Tryz.infoU64
    have hw0 : Own .u64 28 (w.alloc (.cells #[] 28)) w.heap.size (.slice (some ⟨w.heap.size, 0, none⟩) 0 0) 0 f :=
      own_of_blk (N := 0) ⟨#[], heap_alloc_new w _, rfl, fun j hj => by omega⟩ (Nat.le_refl _) (Nat.le_refl _) (by simp [maxLen])
    have HW0 := hid hw0
    have HRa := hid (HR.out.alloc (.cells #[] 28))
    clear hw0
    go_wp2_with (at_builtin; refine wpList_append_own _ rfl (.tmp 5) (.tmp 6) 22 rfl w.heap.size 28 i0 (.int .u64 0) 1 8 Tryz.underlying22 hi hz0 hz1 hz2 rfl (by decide) (.slice (some ⟨w.heap.size, 0, none⟩) 0 0) 0 [] rfl HW0.out ad n cap (lst .u64 f n) rfl (by rw [lst_length, Nat.mul_one]) ?c1 (lst_one _ _ _) ?c2 ?c3 (by simp) ?_)
    case c1 =>
      intro j u hu
      obtain ⟨hj, rfl⟩ := lst_getE hu
      obtain ⟨b, o, e, hc⟩ := HRa.out j hj
      cases e
      rw [addr_add]; exact hc
    case c2 => unfold maxLen; omega
    case c3 => omega
    intro v' w' hown hgr _
    have hown' : Own .u64 28 w' w.heap.size v' n f := hown
    have hbel : Below w.heap.size w w' := ((Below.refl _ _).alloc (Nat.le_refl _) _).grown hgr (by simp) (fun k h => by simp [Value.ownBlock] at h; omega)
    have hs := hown'.shape
    obtain ⟨ao', cap', hv, hcc, hnn, hml, hrd, hlt⟩ := hs
    rw [hv] at hown' ⊢
    clear hown hgr hv
    have HO := hid hown'
    clear hown'
    go_wp2
    go_ret
    exact ⟨ao', cap', rfl, ⟨hbel, HO.out, HF.out, FF.out, Nat.le_refl _⟩⟩

def W1 (s : Bool) (f : Nat → Int) (n : Nat) : Prop := wfB s f n = true
/-- Two boxes laid ahead of a call, as they read behind it. -/
theorem boxes2 {w w1 : World} {a0 a1 c0 c1 : Value} {t : TypeId} (hb : Below ((w.alloc (.cells #[a0, a1] t)).alloc (.cells #[c0, c1] t)).heap.size ((w.alloc (.cells #[a0, a1] t)).alloc (.cells #[c0, c1] t)) w1) :
    (w.heap.size + 1 < w1.heap.size ∧ w1.cell? ⟨w.heap.size, 0, none⟩ = some a0 ∧ w1.cell? ⟨w.heap.size, 1, none⟩ = some a1 ∧ w1.cell? ⟨w.heap.size + 1, 0, none⟩ = some c0 ∧ w1.cell? ⟨w.heap.size + 1, 1, none⟩ = some c1) ∧ (∀ o, w1.frozen? ⟨w.heap.size + 1, o, none⟩ = false) ∧ Below w.heap.size w w1 := by
  obtain ⟨h1, h2⟩ := bcell hb
  have hz := hb.size
  simp at hz
  refine ⟨⟨by omega, (h1 _ _ (by simp; omega)).trans (by simp [go_sem]), (h1 _ _ (by simp; omega)).trans (by simp [go_sem]), (h1 _ _ (by simp)).trans (by simp [go_sem]), (h1 _ _ (by simp)).trans (by simp [go_sem])⟩, fun o => (h2 _ _ (by simp)).trans (by
    have e := heap_alloc_new (w.alloc (.cells #[a0, a1] t)) (.cells #[c0, c1] t)
    rw [size_alloc1] at e
    simp only [World.frozen?, e]; simp), ?_⟩
  exact (below_alloc (below_alloc (Below.refl w.heap.size w) _) _).trans (hb.mono (by simp; omega))
/-- Cells of two boxes behind a further call. -/
theorem keep2 {w w1 w2 : World} {a0 a1 c0 c1 : Value} (hb : Below w1.heap.size w1 w2) (h : w.heap.size + 1 < w1.heap.size ∧ w1.cell? ⟨w.heap.size, 0, none⟩ = some a0 ∧ w1.cell? ⟨w.heap.size, 1, none⟩ = some a1 ∧ w1.cell? ⟨w.heap.size + 1, 0, none⟩ = some c0 ∧ w1.cell? ⟨w.heap.size + 1, 1, none⟩ = some c1) (hf : ∀ o, w1.frozen? ⟨w.heap.size + 1, o, none⟩ = false) (hw : Below w.heap.size w w1) :
    (w.heap.size + 1 < w2.heap.size ∧ w2.cell? ⟨w.heap.size, 0, none⟩ = some a0 ∧ w2.cell? ⟨w.heap.size, 1, none⟩ = some a1 ∧ w2.cell? ⟨w.heap.size + 1, 0, none⟩ = some c0 ∧ w2.cell? ⟨w.heap.size + 1, 1, none⟩ = some c1) ∧ (∀ o, w2.frozen? ⟨w.heap.size + 1, o, none⟩ = false) ∧ Below w.heap.size w w2 := by
  obtain ⟨h1, h2⟩ := bcell hb
  have hz := hb.size
  obtain ⟨z, a, b, e, f⟩ := h
  exact ⟨⟨by omega, (h1 _ _ (by omega)).trans a, (h1 _ _ (by omega)).trans b, (h1 _ _ (by omega)).trans e, (h1 _ _ (by omega)).trans f⟩, fun o => (h2 _ _ (by omega)).trans (hf o), hw.trans (hb.mono hw.size)⟩

set_option maxHeartbeats 1000000 in
theorem wNeg_c (s : Bool) (ao : Option Addr) (n ca : Nat) (f : Nat → Int) (w : World) (hn : n ≤ 8796093022208) (hr : Rd .u64 w ao n f) (hnil : ao = none → n = 0 ∧ ca = 0) (hf : Lm f n) :
    Calls Tryz.prog 42 #[.agg #[.bool s, .slice ao n ca]] w fun e w' => ∃ r ao' k cap' f' er, e = .returned (.tuple #[.agg #[.bool r, .slice ao' k cap'], .int .i64 er]) ∧ WRes n w w' r ao' k cap' f' ∧ WAns (W1 s f n) (- wv s f n) r k f' er := by
  have HR := hid hr; have HF := hid hf; have HNil := hid hnil
  clear hr hf hnil
  cases hfa : wfB s f n
  · have c1 := fun W hr' => wForm_c s ao n ca f W (by omega) hr'
    rw [hfa] at c1
    have C1 := hid c1; have HN := hid hfa
    clear c1 hfa
    go_enter Tryz.func42, Tryz.ntmps42
    go_wp2_with fail
    refine (C1.out _ ((HR.out.alloc _).alloc _)).mono ?_
    rintro e w1 ⟨rfl, hb⟩
    obtain ⟨⟨hz, x0, x1, z0, z1⟩, zf, hw⟩ := boxes2 hb
    have HW := hid hw
    clear hb hw
    go_wp2
    refine bodyPost_ret (v := .tuple #[.agg #[.bool false, .slice none 0 0], .int .i64 3]) (by simp [results, Tryz.results42, go_sem, z0, z1]) rfl ⟨false, none, 0, 0, f, 3, rfl, ⟨Asw.none f ?_, fun h => by cases h⟩, (.inr ⟨(fun x => by have := HN.out.symm.trans x; cases this), rfl, rfl⟩)⟩
    exact below_turned HW.out HW.out.size (((Turned.refl _ (w.heap.size + 1 + 1) _).set (by first | omega | (simp; done) | (simp; omega)) (by first | omega | (simp; done) | (simp; omega)) _).set (by first | omega | (simp; done) | (simp; omega)) (by first | omega | (simp; done) | (simp; omega)) _) (Nat.le_refl _)
  · have c1 := fun W hr' => wForm_c s ao n ca f W (by omega) hr'
    rw [hfa] at c1
    have C1 := hid c1; have HA := hid hfa
    clear c1 hfa
    go_enter Tryz.func42, Tryz.ntmps42
    go_wp2_with fail
    refine (C1.out _ ((HR.out.alloc _).alloc _)).mono ?_
    rintro e w1 ⟨rfl, hb⟩
    obtain ⟨⟨hz, x0, x1, z0, z1⟩, zf, hw⟩ := boxes2 hb
    have HW := hid hw
    clear hb hw
    have CA : Hid (∀ (W : World), Below w1.heap.size w1 W → Calls Tryz.prog 87 #[.slice ao n ca] W fun e w4 => ∃ xa cx, e = .returned (.slice xa n cx) ∧ Hid (Asw n W w4 xa n cx f) ∧ (w.heap.size + 1 < w4.heap.size ∧ w4.cell? ⟨w.heap.size, 0, none⟩ = some (.bool s) ∧ w4.cell? ⟨w.heap.size, 1, none⟩ = some (.slice ao n ca) ∧ w4.cell? ⟨w.heap.size + 1, 0, none⟩ = some (.bool false) ∧ w4.cell? ⟨w.heap.size + 1, 1, none⟩ = some (.slice none 0 0)) ∧ ∀ o, w4.frozen? ⟨w.heap.size + 1, o, none⟩ = false) := by
      intro W hW
      have hWw : Below w.heap.size w W := HW.out.trans (hW.mono HW.out.size)
      refine (sclone_c ao n ca f W hn (HR.out.below hWw (Nat.le_refl _)) HNil.out HF.out (fm_of_wfB HA.out)).mono ?_
      rintro e w4 ⟨xa, cx, rfl, hans⟩
      obtain ⟨hu, uf, hw4⟩ := keep2 (hW.trans (hans.bel.mono hW.size)) ⟨hz, x0, x1, z0, z1⟩ zf HW.out
      exact ⟨xa, cx, rfl, hans, hu, uf⟩
    have hz0 : w.heap.size < w1.heap.size := by omega
    go_wp2
    go_region_with (first | (go_at_call 87; refine (CA.out _ (by repeat (first | exact Below.refl _ _ | refine Below.drew ?_ | refine below_alloc ?_ _))).mono ?_; rintro e w4 ⟨xa, cx, rfl, HAns, ⟨hz4, v0, v1, u0, u1⟩, uf⟩; have hz5 : w.heap.size < w4.heap.size := by omega) | (go_at_call 78; refine (signed_c _ xa n cx _ (by omega)).mono ?_; rintro e w5 ⟨r, o, rfl, hsg, rfl⟩))
    all_goals
      go_wp2
      refine bodyPost_ret (v := .tuple #[.agg #[.bool r, .slice xa n cx], .int .i64 0]) (by simp [results, Tryz.results42, go_sem, u0, u1, hz4]) rfl ⟨r, xa, n, cx, f, 0, rfl, WRes.mk' hsg (HAns.out.turned (by repeat (first | exact HW.out | refine Below.drew ?_ | refine below_alloc ?_ _)) ?_), .inl ⟨HA.out, rfl, ?_⟩⟩
      · exact (((Turned.refl _ _ _).set (by first | omega | (simp; done) | (simp; omega)) (by first | omega | (simp; done) | (simp; omega)) _).set (by first | omega | (simp; done) | (simp; omega)) (by first | omega | (simp; done) | (simp; omega)) _).alloc _
      · rw [wv_sign hsg]; cases s <;> simp only [Bool.not_false, Bool.not_true, wv_false, wv_true] <;> omega

theorem vf_pos {f : Nat → Int} {n : Nat} (h : Lm f n) (hf : Fm f n) (hn : 0 < n) : 0 < vf f n := by
  have h1 := vf_form_ge h hf hn; have h2 := pw_pos (n - 1); omega
/-- The order of two numbers; c is 0 beside a fault. -/
def WCmp (P : Prop) (a b : Int) (c er : Int) : Prop := P ∧ er = 0 ∧ Ord c a b ∨ ¬ P ∧ er = 3 ∧ c = 0
set_option maxHeartbeats 1000000 in
theorem wCmp_c (s t : Bool) (ao bo : Option Addr) (n m ca cb : Nat) (f h : Nat → Int) (w : World) (hn : n ≤ 8796093022208) (hm : m ≤ 8796093022208) (hr : Rd .u64 w ao n f) (hs : Rd .u64 w bo m h) (hf : Lm f n) (hh : Lm h m) :
    Calls Tryz.prog 111 #[.agg #[.bool s, .slice ao n ca], .agg #[.bool t, .slice bo m cb]] w fun e w' => ∃ c er, e = .returned (.tuple #[.int .i64 c, .int .i64 er]) ∧ Below w.heap.size w w' ∧ WCmp (W2 s f n t h m) (wv s f n) (wv t h m) c er := by
  have HR := hid hr; have HS := hid hs; have HF := hid hf; have HH := hid hh
  clear hr hs hf hh
  cases hfa : wfB s f n
  · have c1 := fun W hr' => wForm_c s ao n ca f W (by omega) hr'
    rw [hfa] at c1
    have C1 := hid c1; have HN := hid hfa
    clear c1 hfa
    go_enter Tryz.func111, Tryz.ntmps111
    go_wp2_with fail
    refine (C1.out _ ((HR.out.alloc _).alloc _)).mono ?_
    rintro e w1 ⟨rfl, hb⟩
    obtain ⟨⟨hz, x0, x1, z0, z1⟩, zf, hw⟩ := boxes2 hb
    have HW := hid hw
    clear hb hw
    go_wp2
    go_ret2
    exact ⟨0, 3, rfl, HW.out, .inr ⟨(fun x => by have := HN.out.symm.trans x.1; cases this), rfl, rfl⟩⟩
  · have c1 := fun W hr' => wForm_c s ao n ca f W (by omega) hr'
    rw [hfa] at c1
    have C1 := hid c1; have HA := hid hfa
    clear c1 hfa
    cases hfb : wfB t h m
    · have c2 := fun W hr' => wForm_c t bo m cb h W (by omega) hr'
      rw [hfb] at c2
      have C2 := hid c2; have HN := hid hfb
      clear c2 hfb
      go_enter Tryz.func111, Tryz.ntmps111
      go_wp2_with fail
      refine (C1.out _ ((HR.out.alloc _).alloc _)).mono ?_
      rintro e w1 ⟨rfl, hb⟩
      obtain ⟨⟨hz, x0, x1, z0, z1⟩, zf, hw⟩ := boxes2 hb
      have HW := hid hw
      clear hb hw
      go_wp2_with fail
      refine (C2.out _ (HS.out.below HW.out (Nat.le_refl _))).mono ?_
      rintro e w2 ⟨rfl, hb⟩
      obtain ⟨⟨hz, x0, x1, z0, z1⟩, zf, hw⟩ := keep2 hb ⟨hz, x0, x1, z0, z1⟩ zf HW.out
      have HW2 := hid hw
      clear hb hw
      go_wp2
      go_ret2
      exact ⟨0, 3, rfl, HW2.out, .inr ⟨(fun x => by have := HN.out.symm.trans x.2; cases this), rfl, rfl⟩⟩
    · have c2 := fun W hr' => wForm_c t bo m cb h W (by omega) hr'
      rw [hfb] at c2
      have C2 := hid c2; have HB := hid hfb
      clear c2 hfb
      cases s <;> cases t
      all_goals
        go_enter Tryz.func111, Tryz.ntmps111
        go_wp2_with fail
        refine (C1.out _ ((HR.out.alloc _).alloc _)).mono ?_
        rintro e w1 ⟨rfl, hb⟩
        obtain ⟨⟨hz, x0, x1, z0, z1⟩, zf, hw⟩ := boxes2 hb
        have HW := hid hw
        clear hb hw
        go_wp2_with fail
        refine (C2.out _ (HS.out.below HW.out (Nat.le_refl _))).mono ?_
        rintro e w2 ⟨rfl, hb⟩
        obtain ⟨⟨hz, x0, x1, z0, z1⟩, zf, hw⟩ := keep2 hb ⟨hz, x0, x1, z0, z1⟩ zf HW.out
        have HW2 := hid hw
        clear hb hw
        go_wp2_with fail
      · refine (Cmp_c ao bo n m ca cb f h _ hn hm (HR.out.below HW2.out (Nat.le_refl _)) (HS.out.below HW2.out (Nat.le_refl _)) HF.out HH.out).mono ?_
        rintro e w3 ⟨⟨q, hq⟩, c, er, rfl, hc⟩
        have HB3 := hid (drewN_below hq); have HC := hid hc
        clear hq hc
        go_wp2
        go_ret2
        refine ⟨c, er, rfl, HW2.out.trans (HB3.out.mono HW2.out.size), ?_⟩
        rcases HC.out with ⟨_, _, h1, h2⟩ | ⟨h1, _⟩
        · exact .inl ⟨⟨HA.out, HB.out⟩, h1, h2⟩
        · exact absurd ⟨fm_of_wfB HA.out, fm_of_wfB HB.out⟩ h1
      · go_ret2
        refine ⟨1, 0, rfl, HW2.out, .inl ⟨⟨HA.out, HB.out⟩, rfl, .inr (.inr ⟨rfl, ?_⟩)⟩⟩
        have h1 := vf_pos HH.out (fm_of_wfB HB.out) (sgn_of_wfB HB.out rfl)
        have h2 := vf_nonneg HF.out
        rw [wv_true, wv_false]; omega
      · go_ret2
        refine ⟨-1, 0, rfl, HW2.out, .inl ⟨⟨HA.out, HB.out⟩, rfl, .inl ⟨rfl, ?_⟩⟩⟩
        have h1 := vf_pos HF.out (fm_of_wfB HA.out) (sgn_of_wfB HA.out rfl)
        have h2 := vf_nonneg HH.out
        rw [wv_true, wv_false]; omega
      · refine (Cmp_c bo ao m n cb ca h f _ hm hn (HS.out.below HW2.out (Nat.le_refl _)) (HR.out.below HW2.out (Nat.le_refl _)) HH.out HF.out).mono ?_
        rintro e w3 ⟨⟨q, hq⟩, c, er, rfl, hc⟩
        have HB3 := hid (drewN_below hq); have HC := hid hc
        clear hq hc
        go_wp2
        go_ret2
        refine ⟨c, er, rfl, HW2.out.trans (HB3.out.mono HW2.out.size), ?_⟩
        rcases HC.out with ⟨_, _, h1, h2⟩ | ⟨h1, _⟩
        · refine .inl ⟨⟨HA.out, HB.out⟩, h1, ?_⟩
          unfold Ord at h2 ⊢; rw [wv_true, wv_true]; omega
        · exact absurd ⟨fm_of_wfB HB.out, fm_of_wfB HA.out⟩ h1

/-- One whole number is answered. -/
def WOne (C : Nat) (w w' : World) (e : Ending) (z : Int) : Prop := ∃ r ao k cap f, e = .returned (.agg #[.bool r, .slice ao k cap]) ∧ WRes C w w' r ao k cap f ∧ wv r f k = z
theorem wrapU (x : Int) : IntKind.u64.wrap x = x % 18446744073709551616 := by simp [IntKind.wrap, IntKind.signed, IntKind.bits]
theorem own_one (w : World) (base g : Nat) (z : Int) (hb : base ≤ w.heap.size) (hg : g = w.heap.size) : Own .u64 28 (w.alloc (.cells #[.int .u64 z] 28)) base (.slice (some ⟨g, 0, none⟩) 1 1) 1 (fun _ => z) := by
  subst hg
  refine own_of_blk (N := 1) ⟨_, heap_alloc_new w _, rfl, fun j hj => ?_⟩ hb (Nat.le_refl _) (by simp [maxLen])
  obtain rfl : j = 0 := by omega
  rfl
set_option maxHeartbeats 1000000 in
theorem wOf_c (z : Int) (w : World) (h0 : -9223372036854775808 ≤ z) (h1 : z ≤ 9223372036854775807) :
    Calls Tryz.prog 33 #[.int .i64 z] w fun e w' => WOne 1 w w' e z := by
  by_cases hz : z = 0
  · subst hz
    go_enter Tryz.func33, Tryz.ntmps33
    go_wp2
    exact bodyPost_ret (v := .agg #[.bool false, .slice none 0 0]) (by simp [results, Tryz.results33, go_sem]) rfl ⟨false, none, 0, 0, fun _ => 0, rfl, ⟨Asw.none _ (below_alloc (Below.refl _ _) _), fun h => by cases h⟩, rfl⟩
  · have hz0 : (z == 0) = false := by simp; omega
    by_cases hneg : z < 0
    · have hW : Hid (IntKind.u64.wrap (-IntKind.u64.wrap z) = -z) := by
        show IntKind.u64.wrap (-IntKind.u64.wrap z) = -z
        simp only [wrapU]; omega
      go_enter Tryz.func33, Tryz.ntmps33
      go_wp2
      rw [hW.out]
      refine bodyPost_ret (v := .agg #[.bool true, .slice (some ⟨w.heap.size + 1, 0, none⟩) 1 1]) (by simp [results, Tryz.results33, go_sem]) rfl ⟨true, _, 1, 1, fun _ => -z, rfl, ⟨⟨below_alloc (below_alloc (Below.refl _ _) _) _, own_one (w.alloc _) w.heap.size _ (-z) (by simp) (by simp), lm_const (x := -z) (by omega) (by omega) 1, .inr (show -z ≠ 0 by omega), Nat.le_refl _⟩, fun _ => by omega⟩, ?_⟩
      rw [wv_true, vf_one]; omega
    · have hW : Hid (IntKind.u64.wrap z = z) := by
        show IntKind.u64.wrap z = z
        simp only [wrapU]; omega
      go_enter Tryz.func33, Tryz.ntmps33
      go_wp2
      (try rw [hW.out])
      refine bodyPost_ret (v := .agg #[.bool false, .slice (some ⟨w.heap.size + 1, 0, none⟩) 1 1]) (by simp [results, Tryz.results33, go_sem]) rfl ⟨false, _, 1, 1, fun _ => z, rfl, ⟨⟨below_alloc (below_alloc (Below.refl _ _) _) _, own_one (w.alloc _) w.heap.size _ z (by simp) (by simp), lm_const (x := z) (by omega) (by omega) 1, .inr (show z ≠ 0 by omega), Nat.le_refl _⟩, fun _ => by omega⟩, ?_⟩
      rw [wv_false, vf_one]
end Go.Proofs.YtclopblgdiahiaaGreatDoor
namespace Go.Proofs.YtclopblgdiahiaaGreatDoor
open Go.RowKit

theorem Turned.mono {lo hi hi' : Nat} {a b : World} (h : Turned lo hi a b) (hh : hi ≤ hi') : Turned lo hi' a b := ⟨h.os, h.tape, h.output, h.size, fun k hk hn => h.block k hk (by omega)⟩
theorem frozen_alloc_some (w : World) (a : Addr) (o : Obj) (h : (w.cell? a).isSome = true) : (w.alloc o).frozen? a = w.frozen? a := by
  obtain ⟨u, hu⟩ := Option.isSome_iff_exists.1 h
  exact World.frozen?_alloc_old _ _ _ (Nat.ne_of_lt (World.block_lt_of_cell? w a hu))
theorem isSome_setCell (w : World) (p q : Addr) (v : Value) (h : (w.cell? q).isSome = true) : ((w.setCell p v).cell? q).isSome = true := by
  obtain ⟨u, hu⟩ := Option.isSome_iff_exists.1 h
  obtain ⟨u', hu'⟩ := cell?_setCell_some (p := p) (x := v) hu
  rw [hu']; rfl
theorem kCa {w : World} {a : Addr} {v : Value} {o : Obj} (h : w.cell? a = some v) : (w.alloc o).cell? a = some v := (World.cell?_alloc_lt _ _ _ (World.block_lt_of_cell? w a h)).trans h
theorem kCs {w : World} {p a : Addr} {u v : Value} (hb : p.block ≠ a.block) (h : w.cell? a = some u) : (w.setCell p v).cell? a = some u := (World.cell?_setCell_far w p a v hb).trans h
theorem kCd {w : World} {a : Addr} {v : Value} (h : w.cell? a = some v) : w.drew.cell? a = some v := h
theorem kIa {w : World} {a : Addr} {o : Obj} (h : (w.cell? a).isSome = true) : ((w.alloc o).cell? a).isSome = true := by rw [World.cell?_alloc_some w a o h]; exact h
theorem kIs {w : World} {p a : Addr} {v : Value} (h : (w.cell? a).isSome = true) : ((w.setCell p v).cell? a).isSome = true := isSome_setCell w p a v h
theorem kId {w : World} {a : Addr} (h : (w.cell? a).isSome = true) : (w.drew.cell? a).isSome = true := h
theorem kFa {w : World} {a : Addr} {o : Obj} (h : (w.cell? a).isSome = true) (h2 : w.frozen? a = false) : (w.alloc o).frozen? a = false := (frozen_alloc_some w a o h).trans h2
theorem kFs {w : World} {p a : Addr} {v : Value} (h : w.frozen? a = false) : (w.setCell p v).frozen? a = false := by rw [World.frozen?_setCell]; exact h
theorem kFd {w : World} {a : Addr} (h : w.frozen? a = false) : w.drew.frozen? a = false := h
/-- How four boxes read. -/
def B4 (w w1 : World) (a0 a1 b0 b1 c0 c1 d0 d1 : Value) : Prop := w.heap.size + 1 + 1 + 1 < w1.heap.size ∧ w1.cell? ⟨w.heap.size, 0, none⟩ = some a0 ∧ w1.cell? ⟨w.heap.size, 1, none⟩ = some a1 ∧ w1.cell? ⟨w.heap.size + 1, 0, none⟩ = some b0 ∧ w1.cell? ⟨w.heap.size + 1, 1, none⟩ = some b1 ∧ w1.cell? ⟨w.heap.size + 1 + 1, 0, none⟩ = some c0 ∧ w1.cell? ⟨w.heap.size + 1 + 1, 1, none⟩ = some c1 ∧ w1.cell? ⟨w.heap.size + 1 + 1 + 1, 0, none⟩ = some d0 ∧ w1.cell? ⟨w.heap.size + 1 + 1 + 1, 1, none⟩ = some d1 ∧ (∀ o, w1.frozen? ⟨w.heap.size + 1 + 1, o, none⟩ = false) ∧ (∀ o, w1.frozen? ⟨w.heap.size + 1 + 1 + 1, o, none⟩ = false)
theorem boxes4 {w w1 : World} {a0 a1 b0 b1 c0 c1 d0 d1 : Value} {t : TypeId} (hb : Below ((((w.alloc (.cells #[a0, a1] t)).alloc (.cells #[b0, b1] t)).alloc (.cells #[c0, c1] t)).alloc (.cells #[d0, d1] t)).heap.size ((((w.alloc (.cells #[a0, a1] t)).alloc (.cells #[b0, b1] t)).alloc (.cells #[c0, c1] t)).alloc (.cells #[d0, d1] t)) w1) :
    B4 w w1 a0 a1 b0 b1 c0 c1 d0 d1 ∧ Below w.heap.size w w1 := by
  obtain ⟨h1, h2⟩ := bcell hb
  have hz := hb.size
  simp at hz
  refine ⟨⟨by omega, (h1 _ _ (by first | omega | (simp; done) | (simp; omega))).trans (by simp [go_sem]), (h1 _ _ (by first | omega | (simp; done) | (simp; omega))).trans (by simp [go_sem]), (h1 _ _ (by first | omega | (simp; done) | (simp; omega))).trans (by simp [go_sem]), (h1 _ _ (by first | omega | (simp; done) | (simp; omega))).trans (by simp [go_sem]), (h1 _ _ (by simp)).trans (by simp [go_sem]), (h1 _ _ (by simp)).trans (by simp [go_sem]), (h1 _ _ (by simp)).trans (by simp [go_sem]), (h1 _ _ (by simp)).trans (by simp [go_sem]), fun o => (h2 _ _ (by simp)).trans ?_, fun o => (h2 _ _ (by simp)).trans ?_⟩, ?_⟩
  · have e := heap_alloc_new ((w.alloc (.cells #[a0, a1] t)).alloc (.cells #[b0, b1] t)) (.cells #[c0, c1] t)
    rw [size_alloc1, size_alloc1] at e
    have e2 := (Below.heap_alloc (((w.alloc (.cells #[a0, a1] t)).alloc (.cells #[b0, b1] t)).alloc (.cells #[c0, c1] t)) (.cells #[d0, d1] t) (w.heap.size + 1 + 1) (by simp)).trans e
    simp only [World.frozen?, e2]; simp
  · have e := heap_alloc_new (((w.alloc (.cells #[a0, a1] t)).alloc (.cells #[b0, b1] t)).alloc (.cells #[c0, c1] t)) (.cells #[d0, d1] t)
    rw [size_alloc1, size_alloc1, size_alloc1] at e
    simp only [World.frozen?, e]; simp
  exact (below_alloc (below_alloc (below_alloc (below_alloc (Below.refl w.heap.size w) _) _) _) _).trans (hb.mono (by simp; omega))
theorem keep4 {w w1 w2 : World} {a0 a1 b0 b1 c0 c1 d0 d1 : Value} (hb : Below w1.heap.size w1 w2) (h : B4 w w1 a0 a1 b0 b1 c0 c1 d0 d1) (hw : Below w.heap.size w w1) : B4 w w2 a0 a1 b0 b1 c0 c1 d0 d1 ∧ Below w.heap.size w w2 := by
  obtain ⟨h1, h2⟩ := bcell hb
  have hz := hb.size
  obtain ⟨z, a, b, c, d, e, f, g, i, j, k⟩ := h
  exact ⟨⟨by omega, (h1 _ _ (by omega)).trans a, (h1 _ _ (by omega)).trans b, (h1 _ _ (by omega)).trans c, (h1 _ _ (by omega)).trans d, (h1 _ _ (by omega)).trans e, (h1 _ _ (by omega)).trans f, (h1 _ _ (by omega)).trans g, (h1 _ _ (by omega)).trans i, fun o => (h2 _ _ (by omega)).trans (j o), fun o => (h2 _ _ (by omega)).trans (k o)⟩, hw.trans (hb.mono hw.size)⟩

/-- Quotient and rest of whole numbers: the quotient rounded down. -/
def Flr (a b q r : Int) : Prop := a = q * b + r ∧ (0 < b ∧ 0 ≤ r ∧ r < b ∨ b < 0 ∧ b < r ∧ r ≤ 0)
/-- What Divide answers. -/
def WDiv (s t : Bool) (n m : Nat) (f h : Nat → Int) (r1 r2 : Bool) (k1 k2 : Nat) (q r : Nat → Int) (er : Int) : Prop :=
  W2 s f n t h m ∧ 0 < m ∧ er = 0 ∧ Flr (wv s f n) (wv t h m) (wv r1 q k1) (wv r2 r k2) ∨ W2 s f n t h m ∧ m = 0 ∧ er = 4 ∧ k1 = 0 ∧ k2 = 0 ∨ ¬ W2 s f n t h m ∧ er = 3 ∧ k1 = 0 ∧ k2 = 0
theorem flr_plain (s t : Bool) (A B Q R : Int) (h : A = Q * B + R) (h0 : 0 ≤ R) (h1 : R < B) (hs : s = t ∨ R = 0) :
    Flr (if s then -A else A) (if t then -B else B) (if (!(s == t)) then -Q else Q) (if t then -R else R) := by
  subst h
  cases s <;> cases t
  · show Flr (Q * B + R) B Q R
    exact ⟨rfl, .inl ⟨by omega, h0, h1⟩⟩
  · have hR : R = 0 := by simpa using hs
    subst hR
    show Flr (Q * B + 0) (-B) (-Q) (-0)
    exact ⟨by rw [Int.neg_mul_neg]; omega, .inr ⟨by omega, by omega, by omega⟩⟩
  · have hR : R = 0 := by simpa using hs
    subst hR
    show Flr (-(Q * B + 0)) B (-Q) 0
    exact ⟨by rw [Int.neg_mul]; omega, .inl ⟨by omega, by omega, by omega⟩⟩
  · show Flr (-(Q * B + R)) (-B) Q (-R)
    exact ⟨by rw [Int.mul_neg]; omega, .inr ⟨by omega, by omega, by omega⟩⟩
theorem flr_down (s t : Bool) (A B Q R : Int) (h : A = Q * B + R) (h0 : 0 < R) (h1 : R < B) (hs : (s == t) = false) :
    Flr (if s then -A else A) (if t then -B else B) (if (!(s == t)) then -(Q + 1) else (Q + 1)) (if t then -(B - R) else (B - R)) := by
  subst h
  cases s <;> cases t
  · cases hs
  · show Flr (Q * B + R) (-B) (-(Q + 1)) (-(B - R))
    exact ⟨by rw [Int.neg_mul_neg, Int.add_mul]; omega, .inr ⟨by omega, by omega, by omega⟩⟩
  · show Flr (-(Q * B + R)) B (-(Q + 1)) (B - R)
    exact ⟨by rw [Int.neg_mul, Int.add_mul]; omega, .inl ⟨by omega, by omega, by omega⟩⟩
  · cases hs

theorem flr_w {s t b : Bool} {n m k1 k2 : Nat} {f h q r : Nat → Int} (hb : b = !(s == t)) (hv : vf f n = vf q k1 * vf h m + vf r k2) (h0 : 0 ≤ vf r k2) (h1 : vf r k2 < vf h m) (hs : s = t ∨ vf r k2 = 0) : Flr (wv s f n) (wv t h m) (wv b q k1) (wv t r k2) := by
  subst hb
  exact flr_plain s t _ _ _ _ hv h0 h1 hs
theorem flr_w2 {s t b : Bool} {n m k1 k2 k3 k4 : Nat} {f h q r q' r' : Nat → Int} (hb : b = !(s == t)) (hv : vf f n = vf q k1 * vf h m + vf r k2) (h0 : 0 < vf r k2) (h1 : vf r k2 < vf h m) (hs : (s == t) = false) (hq : vf q' k3 = vf q k1 + 1) (hr : vf r' k4 = vf h m - vf r k2) : Flr (wv s f n) (wv t h m) (wv b q' k3) (wv t r' k4) := by
  subst hb
  have := flr_down s t _ _ _ _ hv h0 h1 hs
  rw [← hq, ← hr] at this
  exact this

set_option maxRecDepth 100000 in
set_option maxHeartbeats 20000000 in
theorem wDivide_c (s t : Bool) (ao bo : Option Addr) (n m ca cb : Nat) (f h : Nat → Int) (w : World) (hn : n ≤ 4398046511104) (hm : m ≤ 4398046511104) (hr : Rd .u64 w ao n f) (hs : Rd .u64 w bo m h) (hf : Lm f n) (hh : Lm h m) :
    Calls Tryz.prog 32 #[.agg #[.bool s, .slice ao n ca], .agg #[.bool t, .slice bo m cb]] w fun e w' => ∃ r1 a1 k1 c1 q r2 a2 k2 c2 r er, e = .returned (.tuple #[.agg #[.bool r1, .slice a1 k1 c1], .agg #[.bool r2, .slice a2 k2 c2], .int .i64 er]) ∧ WRes (n + 2) w w' r1 a1 k1 c1 q ∧ WRes (n + m + 1) w w' r2 a2 k2 c2 r ∧ WDiv s t n m f h r1 r2 k1 k2 q r er := by
  have HR := hid hr; have HS := hid hs; have HF := hid hf; have HH := hid hh
  clear hr hs hf hh
  cases hfa : wfB s f n
  · have c1 := fun W hr' => wForm_c s ao n ca f W (by omega) hr'
    rw [hfa] at c1
    have C1 := hid c1; have HN := hid hfa
    clear c1 hfa
    go_enter Tryz.func32, Tryz.ntmps32
    go_wp2_with fail
    refine (C1.out _ ((((HR.out.alloc _).alloc _).alloc _).alloc _)).mono ?_
    rintro e w1 ⟨rfl, hb⟩
    obtain ⟨⟨hz, x0, x1, y0, y1, c0, c1, d0, d1, cf, df⟩, hw⟩ := boxes4 hb
    have HW := hid hw
    clear hb hw
    go_wp2
    refine bodyPost_ret (v := .tuple #[.agg #[.bool false, .slice none 0 0], .agg #[.bool false, .slice none 0 0], .int .i64 3]) (by simp [results, Tryz.results32, go_sem, c0, c1, d0, d1]) rfl ⟨false, none, 0, 0, f, false, none, 0, 0, f, 3, rfl, ⟨Asw.none f ?_, fun h => by cases h⟩, ⟨Asw.none f ?_, fun h => by cases h⟩, .inr (.inr ⟨(fun x => by have := HN.out.symm.trans x.1; cases this), rfl, rfl, rfl⟩)⟩
    all_goals exact below_turned HW.out HW.out.size (((((Turned.refl _ (w.heap.size + 1 + 1 + 1 + 1) _).set (by first | omega | (simp; done) | (simp; omega)) (by first | omega | (simp; done) | (simp; omega)) _).set (by first | omega | (simp; done) | (simp; omega)) (by first | omega | (simp; done) | (simp; omega)) _).set (by first | omega | (simp; done) | (simp; omega)) (by first | omega | (simp; done) | (simp; omega)) _).set (by first | omega | (simp; done) | (simp; omega)) (by first | omega | (simp; done) | (simp; omega)) _) (Nat.le_refl _)
  · have c1 := fun W hr' => wForm_c s ao n ca f W (by omega) hr'
    rw [hfa] at c1
    have C1 := hid c1; have HA := hid hfa
    clear c1 hfa
    cases hfb : wfB t h m
    · have c2 := fun W hr' => wForm_c t bo m cb h W (by omega) hr'
      rw [hfb] at c2
      have C2 := hid c2; have HN := hid hfb
      clear c2 hfb
      go_enter Tryz.func32, Tryz.ntmps32
      go_wp2_with fail
      refine (C1.out _ ((((HR.out.alloc _).alloc _).alloc _).alloc _)).mono ?_
      rintro e w1 ⟨rfl, hb⟩
      obtain ⟨⟨hz, x0, x1, y0, y1, c0, c1, d0, d1, cf, df⟩, hw⟩ := boxes4 hb
      have HW0 := hid hw
      clear hb hw
      go_wp2_with fail
      refine (C2.out _ (HS.out.below HW0.out (Nat.le_refl _))).mono ?_
      rintro e w2 ⟨rfl, hb⟩
      obtain ⟨⟨hz, x0, x1, y0, y1, c0, c1, d0, d1, cf, df⟩, hw⟩ := keep4 hb ⟨hz, x0, x1, y0, y1, c0, c1, d0, d1, cf, df⟩ HW0.out
      have HW := hid hw
      clear hb hw
      go_wp2
      refine bodyPost_ret (v := .tuple #[.agg #[.bool false, .slice none 0 0], .agg #[.bool false, .slice none 0 0], .int .i64 3]) (by simp [results, Tryz.results32, go_sem, c0, c1, d0, d1]) rfl ⟨false, none, 0, 0, f, false, none, 0, 0, f, 3, rfl, ⟨Asw.none f ?_, fun h => by cases h⟩, ⟨Asw.none f ?_, fun h => by cases h⟩, .inr (.inr ⟨(fun x => by have := HN.out.symm.trans x.2; cases this), rfl, rfl, rfl⟩)⟩
      all_goals exact below_turned HW.out HW.out.size (((((Turned.refl _ (w.heap.size + 1 + 1 + 1 + 1) _).set (by first | omega | (simp; done) | (simp; omega)) (by first | omega | (simp; done) | (simp; omega)) _).set (by first | omega | (simp; done) | (simp; omega)) (by first | omega | (simp; done) | (simp; omega)) _).set (by first | omega | (simp; done) | (simp; omega)) (by first | omega | (simp; done) | (simp; omega)) _).set (by first | omega | (simp; done) | (simp; omega)) (by first | omega | (simp; done) | (simp; omega)) _) (Nat.le_refl _)
    · have c2 := fun W hr' => wForm_c t bo m cb h W (by omega) hr'
      rw [hfb] at c2
      have C2 := hid c2; have HB := hid hfb
      clear c2 hfb
      by_cases hm0 : m = 0
      · subst hm0
        go_enter Tryz.func32, Tryz.ntmps32
        go_wp2_with fail
        refine (C1.out _ ((((HR.out.alloc _).alloc _).alloc _).alloc _)).mono ?_
        rintro e w1 ⟨rfl, hb⟩
        obtain ⟨⟨hz, x0, x1, y0, y1, c0, c1, d0, d1, cf, df⟩, hw⟩ := boxes4 hb
        have HW0 := hid hw
        clear hb hw
        go_wp2_with fail
        refine (C2.out _ (HS.out.below HW0.out (Nat.le_refl _))).mono ?_
        rintro e w2 ⟨rfl, hb⟩
        obtain ⟨⟨hz, x0, x1, y0, y1, c0, c1, d0, d1, cf, df⟩, hw⟩ := keep4 hb ⟨hz, x0, x1, y0, y1, c0, c1, d0, d1, cf, df⟩ HW0.out
        have HW := hid hw
        clear hb hw
        go_wp2
        refine bodyPost_ret (v := .tuple #[.agg #[.bool false, .slice none 0 0], .agg #[.bool false, .slice none 0 0], .int .i64 4]) (by simp [results, Tryz.results32, go_sem, c0, c1, d0, d1]) rfl ⟨false, none, 0, 0, f, false, none, 0, 0, f, 4, rfl, ⟨Asw.none f ?_, fun h => by cases h⟩, ⟨Asw.none f ?_, fun h => by cases h⟩, .inr (.inl ⟨⟨HA.out, HB.out⟩, rfl, rfl, rfl, rfl⟩)⟩
        all_goals exact below_turned HW.out HW.out.size (((((Turned.refl _ (w.heap.size + 1 + 1 + 1 + 1) _).set (by first | omega | (simp; done) | (simp; omega)) (by first | omega | (simp; done) | (simp; omega)) _).set (by first | omega | (simp; done) | (simp; omega)) (by first | omega | (simp; done) | (simp; omega)) _).set (by first | omega | (simp; done) | (simp; omega)) (by first | omega | (simp; done) | (simp; omega)) _).set (by first | omega | (simp; done) | (simp; omega)) (by first | omega | (simp; done) | (simp; omega)) _) (Nat.le_refl _)
      · have hmi : ((m : Int) == 0) = false := by simp; omega
        go_enter Tryz.func32, Tryz.ntmps32
        go_wp2_with fail
        refine (C1.out _ ((((HR.out.alloc _).alloc _).alloc _).alloc _)).mono ?_
        rintro e w1 ⟨rfl, hb⟩
        obtain ⟨⟨hz, x0, x1, y0, y1, c0, c1, d0, d1, cf, df⟩, hw⟩ := boxes4 hb
        have HW0 := hid hw
        clear hb hw
        go_wp2_with fail
        refine (C2.out _ (HS.out.below HW0.out (Nat.le_refl _))).mono ?_
        rintro e w2 ⟨rfl, hb⟩
        obtain ⟨⟨hz, x0, x1, y0, y1, c0, c1, d0, d1, cf, df⟩, hw⟩ := keep4 hb ⟨hz, x0, x1, y0, y1, c0, c1, d0, d1, cf, df⟩ HW0.out
        have HW := hid hw
        clear hb hw
        have hzw0 : w.heap.size + 1 + 1 + 1 < w2.heap.size := hz
        go_wp2_with fail
        refine (DivMod_c ao bo n m ca cb f h _ (by omega) (by omega) (HR.out.below HW.out (Nat.le_refl _)) (HS.out.below HW.out (Nat.le_refl _)) HF.out HH.out).mono ?_
        rintro e w3 ⟨a1, k1, e1, q, a2, k2, e2, r, er, rfl, hq, hr, hd⟩
        obtain ⟨rfl, hv, hr0, hr1⟩ : er = 0 ∧ vf f n = vf q k1 * vf h m + vf r k2 ∧ 0 ≤ vf r k2 ∧ vf r k2 < vf h m := by
          rcases hd with ⟨_, _, _, h1, h2, h3, h4⟩ | ⟨_, _, h1, _⟩ | ⟨h1, _⟩
          · exact ⟨h1, h2, h3, h4⟩
          · exact absurd h1 hm0
          · exact absurd ⟨fm_of_wfB HA.out, fm_of_wfB HB.out⟩ h1
        obtain ⟨⟨hz, x0, x1, y0, y1, c0, c1, d0, d1, cf, df⟩, hw⟩ := keep4 hq.bel ⟨hz, x0, x1, y0, y1, c0, c1, d0, d1, cf, df⟩ HW.out
        have hk1 : k1 ≤ n := hq.le
        have hk2 : k2 ≤ n + 1 := hr.le
        have HQ := hid hq; have HRr := hid hr; have HV := hid hv; have HR0 := hid hr0; have HR1 := hid hr1; have HW3 := hid hw
        clear hq hr hv hr0 hr1 hw hd
        cases hst : (s == t)
        · by_cases hk0 : k2 = 0
          · subst hk0
            have hnst : Hid (s = t ∨ vf r 0 = 0) := .inr rfl
            have CQ : Hid (∀ (b : Bool) (W : World), Calls Tryz.prog 78 #[.bool b, .slice a1 k1 e1] W fun e w' => ∃ r o, e = .returned (.agg #[.bool r, .slice a1 k1 e1]) ∧ Hid (r = (b && decide (0 < k1))) ∧ w' = W.alloc o) := fun b W => signed_c b a1 k1 e1 W (by omega)
            have CR : Hid (∀ (b : Bool) (W : World), Calls Tryz.prog 78 #[.bool b, .slice a2 0 e2] W fun e w' => ∃ r o, e = .returned (.agg #[.bool r, .slice a2 0 e2]) ∧ Hid (r = (b && decide (0 < 0))) ∧ w' = W.alloc o) := fun b W => signed_c b a2 0 e2 W (by omega)
            have ic0 : (w3.cell? ⟨w.heap.size + 1 + 1, 0, none⟩).isSome = true := by rw [c0]; rfl
            have ic1 : (w3.cell? ⟨w.heap.size + 1 + 1, 1, none⟩).isSome = true := by rw [c1]; rfl
            have id0 : (w3.cell? ⟨w.heap.size + 1 + 1 + 1, 0, none⟩).isSome = true := by rw [d0]; rfl
            have id1 : (w3.cell? ⟨w.heap.size + 1 + 1 + 1, 1, none⟩).isSome = true := by rw [d1]; rfl
            have hz0 : w.heap.size < w3.heap.size := by omega
            have hz1 : w.heap.size + 1 < w3.heap.size := by omega
            have hz2 : w.heap.size + 1 + 1 < w3.heap.size := by omega
            have hz3 : w.heap.size + 1 + 1 < w3.heap.size + 1 := by omega
            have hz4 : w.heap.size + 1 + 1 + 1 < w3.heap.size + 1 := by omega
            go_wp2
            go_region_held3 (fun w' => w'.cell? ⟨w.heap.size, 0, none⟩ = some (.bool s) ∧ w'.cell? ⟨w.heap.size + 1, 0, none⟩ = some (.bool t) ∧ (w'.cell? ⟨w.heap.size + 1 + 1, 0, none⟩).isSome = true ∧ (w'.cell? ⟨w.heap.size + 1 + 1, 1, none⟩).isSome = true ∧ (w'.cell? ⟨w.heap.size + 1 + 1 + 1, 0, none⟩).isSome = true ∧ (w'.cell? ⟨w.heap.size + 1 + 1 + 1, 1, none⟩).isSome = true ∧ w'.frozen? ⟨w.heap.size + 1 + 1, 0, none⟩ = false ∧ w'.frozen? ⟨w.heap.size + 1 + 1, 1, none⟩ = false ∧ w'.frozen? ⟨w.heap.size + 1 + 1 + 1, 0, none⟩ = false ∧ w'.frozen? ⟨w.heap.size + 1 + 1 + 1, 1, none⟩ = false) (refine ⟨?_, ?_, ?_, ?_, ?_, ?_, ?_, ?_, ?_, ?_⟩ <;> repeat (with_reducible first | assumption | exact cf _ | exact df _ | refine kCd ?_ | refine kId ?_ | refine kFd ?_ | refine kCa ?_ | refine kIa ?_ | refine kFa ?_ ?_ | refine kCs (by simp only [ne_eq]; omega) ?_ | refine kIs ?_ | refine kFs ?_)) (first | (go_at_call 78; with_reducible refine (CQ.out _ _).mono ?_; rintro e w8 ⟨s1, o1, rfl, hs1, rfl⟩) | (go_at_call 78; with_reducible refine (CR.out _ _).mono ?_; rintro e w9 ⟨s2, o2, rfl, hs2, rfl⟩))
            all_goals
              go_wp2
              refine bodyPost_ret (v := .tuple #[.agg #[.bool s1, .slice a1 k1 e1], .agg #[.bool s2, .slice a2 0 e2], .int .i64 0]) (by simp [results, Tryz.results32, go_sem, c0, c1, d0, d1, hz2, hz, hz3, hz4]) rfl ⟨s1, a1, k1, e1, q, s2, a2, 0, e2, r, 0, rfl, WRes.mk' hs1 (((HQ.out.turned HW.out (by repeat (with_reducible first | exact Turned.refl _ _ _ | refine Turned.drew ?_ | refine Turned.alloc ?_ _ | refine Turned.set ?_ (by first | omega | (simp; done) | (simp; omega)) (by first | omega | (simp; done) | (simp; omega)) _))).mono (by omega)).ans (by omega)), WRes.mk' hs2 (((HRr.out.turned HW.out (by repeat (with_reducible first | exact Turned.refl _ _ _ | refine Turned.drew ?_ | refine Turned.alloc ?_ _ | refine Turned.set ?_ (by first | omega | (simp; done) | (simp; omega)) (by first | omega | (simp; done) | (simp; omega)) _))).mono (by omega)).ans (by omega)), .inl ⟨⟨HA.out, HB.out⟩, by omega, rfl, ?_⟩⟩
              rw [wv_sign hs1, wv_sign hs2]
              exact flr_w (by rw [hst]; rfl) HV.out HR0.out HR1.out hnst.out

          · have hkd : decide ((0 : Int) < (k2 : Int)) = true := by simp; omega
            have HRp := hid (vf_pos HRr.out.lm HRr.out.fm (show 0 < k2 by omega))
            have HQa := hid (HQ.out.rd.alloc (.cells #[.int .u64 1] 28))
            go_wp2_with fail
            refine (Add_c a1 (some ⟨w3.heap.size, 0, none⟩) k1 1 e1 1 q (fun _ => 1) _ (by omega) (by omega) HQa.out (rd_new1 _ _ _) HQ.out.lm (lm_const (by omega) (by omega) 1)).mono ?_
            rintro e w4 ⟨a3, k3, e3, q', er, rfl, hq', hc⟩
            obtain ⟨rfl, hv'⟩ : er = 0 ∧ vf q' k3 = vf q k1 + 1 := by
              rcases hc with ⟨_, _, h1, h2⟩ | ⟨h1, _⟩
              · exact ⟨h1, by rw [h2, vf_one]⟩
              · exact absurd ⟨HQ.out.fm, .inr (by decide)⟩ h1
            clear hc
            have hb4 : Below w3.heap.size w3 w4 := (below_alloc (Below.refl _ _) _).trans (hq'.bel.mono (by simp))
            obtain ⟨⟨hz, x0, x1, y0, y1, c0, c1, d0, d1, cf, df⟩, hw⟩ := keep4 hb4 ⟨hz, x0, x1, y0, y1, c0, c1, d0, d1, cf, df⟩ HW3.out
            have hk3 : k3 ≤ max k1 1 + 1 := hq'.le
            have HQ' := hid hq'; have HV' := hid hv'; have HW4 := hid hw; have HRd4 := hid (HRr.out.rd.below hb4 (Nat.le_refl _)); have hzw4 : w.heap.size + 1 + 1 + 1 < w4.heap.size := hz
            clear hq' hv' hw hb4
            go_wp2_with fail
            refine (Sub_c bo a2 m k2 cb e2 h r _ (by omega) (by omega) (HS.out.below HW4.out (Nat.le_refl _)) HRd4.out HH.out HRr.out.lm).mono ?_
            rintro e w5 ⟨a4, k4, e4, r', er, rfl, hr', hc⟩
            obtain ⟨rfl, hv''⟩ : er = 0 ∧ vf r' k4 = vf h m - vf r k2 := by
              rcases hc with ⟨_, _, _, h1, h2⟩ | ⟨_, _, h1, _⟩ | ⟨h1, _⟩
              · exact ⟨h1, h2⟩
              · have := HR1.out; omega
              · exact absurd ⟨fm_of_wfB HB.out, HRr.out.fm⟩ h1
            clear hc
            obtain ⟨⟨hz, x0, x1, y0, y1, c0, c1, d0, d1, cf, df⟩, hw⟩ := keep4 hr'.bel ⟨hz, x0, x1, y0, y1, c0, c1, d0, d1, cf, df⟩ HW4.out
            have hk4 : k4 ≤ m := hr'.le
            have HR' := hid hr'; have HV'' := hid hv''; have HQ'' := hid (HQ'.out.later hr'.bel)
            have hzw3 : w.heap.size + 1 + 1 + 1 < (w3.alloc (.cells #[.int .u64 1] 28)).heap.size := by simp; omega
            clear hr' hv'' hw
            have CQ : Hid (∀ (b : Bool) (W : World), Calls Tryz.prog 78 #[.bool b, .slice a3 k3 e3] W fun e w' => ∃ r o, e = .returned (.agg #[.bool r, .slice a3 k3 e3]) ∧ Hid (r = (b && decide (0 < k3))) ∧ w' = W.alloc o) := fun b W => signed_c b a3 k3 e3 W (by omega)
            have CR : Hid (∀ (b : Bool) (W : World), Calls Tryz.prog 78 #[.bool b, .slice a4 k4 e4] W fun e w' => ∃ r o, e = .returned (.agg #[.bool r, .slice a4 k4 e4]) ∧ Hid (r = (b && decide (0 < k4))) ∧ w' = W.alloc o) := fun b W => signed_c b a4 k4 e4 W (by omega)
            have ic0 : (w5.cell? ⟨w.heap.size + 1 + 1, 0, none⟩).isSome = true := by rw [c0]; rfl
            have ic1 : (w5.cell? ⟨w.heap.size + 1 + 1, 1, none⟩).isSome = true := by rw [c1]; rfl
            have id0 : (w5.cell? ⟨w.heap.size + 1 + 1 + 1, 0, none⟩).isSome = true := by rw [d0]; rfl
            have id1 : (w5.cell? ⟨w.heap.size + 1 + 1 + 1, 1, none⟩).isSome = true := by rw [d1]; rfl
            have hz0 : w.heap.size < w5.heap.size := by omega
            have hz1 : w.heap.size + 1 < w5.heap.size := by omega
            have hz2 : w.heap.size + 1 + 1 < w5.heap.size := by omega
            have hz3 : w.heap.size + 1 + 1 < w5.heap.size + 1 := by omega
            have hz4 : w.heap.size + 1 + 1 + 1 < w5.heap.size + 1 := by omega
            go_wp2
            go_region_held3 (fun w' => w'.cell? ⟨w.heap.size, 0, none⟩ = some (.bool s) ∧ w'.cell? ⟨w.heap.size + 1, 0, none⟩ = some (.bool t) ∧ (w'.cell? ⟨w.heap.size + 1 + 1, 0, none⟩).isSome = true ∧ (w'.cell? ⟨w.heap.size + 1 + 1, 1, none⟩).isSome = true ∧ (w'.cell? ⟨w.heap.size + 1 + 1 + 1, 0, none⟩).isSome = true ∧ (w'.cell? ⟨w.heap.size + 1 + 1 + 1, 1, none⟩).isSome = true ∧ w'.frozen? ⟨w.heap.size + 1 + 1, 0, none⟩ = false ∧ w'.frozen? ⟨w.heap.size + 1 + 1, 1, none⟩ = false ∧ w'.frozen? ⟨w.heap.size + 1 + 1 + 1, 0, none⟩ = false ∧ w'.frozen? ⟨w.heap.size + 1 + 1 + 1, 1, none⟩ = false) (refine ⟨?_, ?_, ?_, ?_, ?_, ?_, ?_, ?_, ?_, ?_⟩ <;> repeat (with_reducible first | assumption | exact cf _ | exact df _ | refine kCd ?_ | refine kId ?_ | refine kFd ?_ | refine kCa ?_ | refine kIa ?_ | refine kFa ?_ ?_ | refine kCs (by simp only [ne_eq]; omega) ?_ | refine kIs ?_ | refine kFs ?_)) (first | (go_at_call 78; with_reducible refine (CQ.out _ _).mono ?_; rintro e w8 ⟨s1, o1, rfl, hs1, rfl⟩) | (go_at_call 78; with_reducible refine (CR.out _ _).mono ?_; rintro e w9 ⟨s2, o2, rfl, hs2, rfl⟩))
            all_goals
              go_wp2
              refine bodyPost_ret (v := .tuple #[.agg #[.bool s1, .slice a3 k3 e3], .agg #[.bool s2, .slice a4 k4 e4], .int .i64 0]) (by simp [results, Tryz.results32, go_sem, c0, c1, d0, d1, hz2, hz, hz3, hz4]) rfl ⟨s1, a3, k3, e3, q', s2, a4, k4, e4, r', 0, rfl, WRes.mk' hs1 (((HQ''.out.turned (below_alloc HW3.out _) (by repeat (with_reducible first | exact Turned.refl _ _ _ | refine Turned.drew ?_ | refine Turned.alloc ?_ _ | refine Turned.set ?_ (by first | omega | (simp; done) | (simp; omega)) (by first | omega | (simp; done) | (simp; omega)) _))).mono (by omega)).ans (by omega)), WRes.mk' hs2 (((HR'.out.turned HW4.out (by repeat (with_reducible first | exact Turned.refl _ _ _ | refine Turned.drew ?_ | refine Turned.alloc ?_ _ | refine Turned.set ?_ (by first | omega | (simp; done) | (simp; omega)) (by first | omega | (simp; done) | (simp; omega)) _))).mono (by omega)).ans (by omega)), .inl ⟨⟨HA.out, HB.out⟩, by omega, rfl, ?_⟩⟩
              rw [wv_sign hs1, wv_sign hs2]
              exact flr_w2 (by rw [hst]; rfl) HV.out HRp.out HR1.out hst HV'.out HV''.out

        · obtain rfl : s = t := by simpa using hst
          have hnst : Hid (s = s ∨ vf r k2 = 0) := .inl rfl
          clear hst
          have CQ : Hid (∀ (b : Bool) (W : World), Calls Tryz.prog 78 #[.bool b, .slice a1 k1 e1] W fun e w' => ∃ r o, e = .returned (.agg #[.bool r, .slice a1 k1 e1]) ∧ Hid (r = (b && decide (0 < k1))) ∧ w' = W.alloc o) := fun b W => signed_c b a1 k1 e1 W (by omega)
          have CR : Hid (∀ (b : Bool) (W : World), Calls Tryz.prog 78 #[.bool b, .slice a2 k2 e2] W fun e w' => ∃ r o, e = .returned (.agg #[.bool r, .slice a2 k2 e2]) ∧ Hid (r = (b && decide (0 < k2))) ∧ w' = W.alloc o) := fun b W => signed_c b a2 k2 e2 W (by omega)
          have ic0 : (w3.cell? ⟨w.heap.size + 1 + 1, 0, none⟩).isSome = true := by rw [c0]; rfl
          have ic1 : (w3.cell? ⟨w.heap.size + 1 + 1, 1, none⟩).isSome = true := by rw [c1]; rfl
          have id0 : (w3.cell? ⟨w.heap.size + 1 + 1 + 1, 0, none⟩).isSome = true := by rw [d0]; rfl
          have id1 : (w3.cell? ⟨w.heap.size + 1 + 1 + 1, 1, none⟩).isSome = true := by rw [d1]; rfl
          have hz0 : w.heap.size < w3.heap.size := by omega
          have hz1 : w.heap.size + 1 < w3.heap.size := by omega
          have hz2 : w.heap.size + 1 + 1 < w3.heap.size := by omega
          have hz3 : w.heap.size + 1 + 1 < w3.heap.size + 1 := by omega
          have hz4 : w.heap.size + 1 + 1 + 1 < w3.heap.size + 1 := by omega
          go_wp2
          go_region_held3 (fun w' => w'.cell? ⟨w.heap.size, 0, none⟩ = some (.bool s) ∧ w'.cell? ⟨w.heap.size + 1, 0, none⟩ = some (.bool s) ∧ (w'.cell? ⟨w.heap.size + 1 + 1, 0, none⟩).isSome = true ∧ (w'.cell? ⟨w.heap.size + 1 + 1, 1, none⟩).isSome = true ∧ (w'.cell? ⟨w.heap.size + 1 + 1 + 1, 0, none⟩).isSome = true ∧ (w'.cell? ⟨w.heap.size + 1 + 1 + 1, 1, none⟩).isSome = true ∧ w'.frozen? ⟨w.heap.size + 1 + 1, 0, none⟩ = false ∧ w'.frozen? ⟨w.heap.size + 1 + 1, 1, none⟩ = false ∧ w'.frozen? ⟨w.heap.size + 1 + 1 + 1, 0, none⟩ = false ∧ w'.frozen? ⟨w.heap.size + 1 + 1 + 1, 1, none⟩ = false) (refine ⟨?_, ?_, ?_, ?_, ?_, ?_, ?_, ?_, ?_, ?_⟩ <;> repeat (with_reducible first | assumption | exact cf _ | exact df _ | refine kCd ?_ | refine kId ?_ | refine kFd ?_ | refine kCa ?_ | refine kIa ?_ | refine kFa ?_ ?_ | refine kCs (by simp only [ne_eq]; omega) ?_ | refine kIs ?_ | refine kFs ?_)) (first | (go_at_call 78; with_reducible refine (CQ.out _ _).mono ?_; rintro e w8 ⟨s1, o1, rfl, hs1, rfl⟩) | (go_at_call 78; with_reducible refine (CR.out _ _).mono ?_; rintro e w9 ⟨s2, o2, rfl, hs2, rfl⟩))
          all_goals
            go_wp2
            refine bodyPost_ret (v := .tuple #[.agg #[.bool s1, .slice a1 k1 e1], .agg #[.bool s2, .slice a2 k2 e2], .int .i64 0]) (by simp [results, Tryz.results32, go_sem, c0, c1, d0, d1, hz2, hz, hz3, hz4]) rfl ⟨s1, a1, k1, e1, q, s2, a2, k2, e2, r, 0, rfl, WRes.mk' hs1 (((HQ.out.turned HW.out (by repeat (with_reducible first | exact Turned.refl _ _ _ | refine Turned.drew ?_ | refine Turned.alloc ?_ _ | refine Turned.set ?_ (by first | omega | (simp; done) | (simp; omega)) (by first | omega | (simp; done) | (simp; omega)) _))).mono (by omega)).ans (by omega)), WRes.mk' hs2 (((HRr.out.turned HW.out (by repeat (with_reducible first | exact Turned.refl _ _ _ | refine Turned.drew ?_ | refine Turned.alloc ?_ _ | refine Turned.set ?_ (by first | omega | (simp; done) | (simp; omega)) (by first | omega | (simp; done) | (simp; omega)) _))).mono (by omega)).ans (by omega)), .inl ⟨⟨HA.out, HB.out⟩, by omega, rfl, ?_⟩⟩
            rw [wv_sign hs1, wv_sign hs2]
            exact flr_w (by simp) HV.out HR0.out HR1.out (.inl rfl)
end Go.Proofs.YtclopblgdiahiaaGreatDoor
namespace Go.Proofs.YtclopblgdiahiaaGreatDoor
open Go.RowKit

set_option maxRecDepth 100000 in
set_option maxHeartbeats 400000 in
/-- Twin: a list of its own. -/
theorem twin_c (ao : Option Addr) (n cap : Nat) (f : Nat → Int) (w : World) (hn : n ≤ 1048576) (hr : Rd .u64 w ao n f) (hnil : ao = none → n = 0 ∧ cap = 0) :
    Calls Tryz.prog 38 #[.slice ao n cap] w fun e w' => ∃ ao' cap', e = .returned (.slice ao' n cap') ∧ Below w.heap.size w w' ∧ Rd .u64 w' ao' n f ∧ Own .u64 28 w' w.heap.size (.slice ao' n cap') n f := by
  cases ao with
  | none =>
    obtain ⟨rfl, rfl⟩ := hnil rfl
    go_enter Tryz.func38, Tryz.ntmps38
    obtain ⟨i0, hi, hz0, hz1, hz2⟩ := info_parts Tryz.infoU64
    go_wp2_with (at_builtin; refine wpList_append_own_none rfl (.tmp 4) (.tmp 5) 22 rfl w.heap.size 28 i0 1 Tryz.underlying22 hi (.slice none 0 0) 0 [] rfl (World.ownsRow_nil _ _ _ _) rfl ?_)
    go_ret
    exact ⟨none, 0, rfl, Below.refl _ _, Rd.zero, own_nil _ _ _ _ _⟩
  | some ad =>
    clear hnil
    have HR := hid hr
    clear hr
    go_enter Tryz.func38, Tryz.ntmps38
    obtain ⟨i0, hi, hz0, hz1, hz2⟩ := info_parts Tryz.infoU64
    go_wp2_with (at_builtin; refine wpList_append_own w rfl (.tmp 4) (.tmp 5) 22 rfl w.heap.size 28 i0 (.int .u64 0) 1 8 Tryz.underlying22 hi hz0 hz1 hz2 rfl (by decide) (.slice none 0 0) 0 [] rfl (World.ownsRow_nil _ _ _ _) ad n cap (lst .u64 f n) rfl (by rw [lst_length, Nat.mul_one]) ?c1 (lst_one _ _ _) ?c2 ?c3 (Nat.le_refl _) ?_)
    case c1 =>
      intro j u hu
      obtain ⟨hj, rfl⟩ := lst_getE hu
      obtain ⟨b, o, e, hc⟩ := HR.out j hj
      cases e
      rw [addr_add]; exact hc
    case c2 => unfold maxLen; omega
    case c3 => omega
    intro v' w' hown hgr _
    have hown' : Own .u64 28 w' w.heap.size v' n f := hown
    have hbel : Below w.heap.size w w' := (Below.refl _ _).grown hgr (Nat.le_refl _) (fun k h => by simp [Value.ownBlock] at h)
    have hs := hown'.shape
    obtain ⟨ao', cap', hv, hcc, hnn, hml, hrd, hlt⟩ := hs
    rw [hv] at hown' ⊢
    clear hown hgr hv
    have HO := hid hown'
    clear hown'
    go_wp2
    go_ret
    exact ⟨ao', cap', rfl, hbel, hrd, HO.out⟩

/-- The two digits of a limb. -/
def two32 (x : Int) : Nat → Int := fun j => if j = 0 then x % 4294967296 else x / 4294967296
/-- The digits of limbs. -/
def dig (f : Nat → Int) : Nat → Int := fun j => if j % 2 = 0 then f (j / 2) % 4294967296 else f (j / 2) / 4294967296
theorem dig_cat (f : Nat → Int) (k : Nat) : ∀ j, j < 2 * k + 2 → cat (dig f) (2 * k) (two32 (f k)) j = dig f j := by
  intro j hj
  by_cases h : j < 2 * k
  · exact cat_in h
  · rw [cat_out (by omega)]
    by_cases h2 : j = 2 * k
    · subst h2
      have e1 : 2 * k - 2 * k = 0 := by omega
      have e2 : 2 * k / 2 = k := by omega
      have e3 : 2 * k % 2 = 0 := by omega
      simp [two32, dig]
    · obtain rfl : j = 2 * k + 1 := by omega
      have e1 : 2 * k + 1 - 2 * k = 1 := by omega
      have e2 : (2 * k + 1) / 2 = k := by omega
      have e3 : (2 * k + 1) % 2 = 1 := by omega
      simp [two32, dig, e1, e2, e3]
theorem pd_two (k : Nat) : pd (2 * k) = pw k := by
  induction k with
  | zero => rfl
  | succ k ih =>
    have e : 2 * (k + 1) = 2 * k + 1 + 1 := by omega
    rw [e, pd_succ, pd_succ, pw_succ, ih]; omega
theorem dig_lm {f : Nat → Int} {n : Nat} (h : Lm f n) : Dg (dig f) (2 * n) := by
  intro j hj
  have := h (j / 2) (by omega)
  unfold dig
  split <;> omega
theorem dig_val (f : Nat → Int) (n : Nat) : vd (dig f) (2 * n) = vf f n := by
  induction n with
  | zero => rfl
  | succ k ih =>
    have e : 2 * (k + 1) = 2 * k + 1 + 1 := by omega
    have e2 : (2 * k + 1) / 2 = k := by omega
    have e3 : (2 * k + 1) % 2 = 1 := by omega
    have e4 : 2 * k / 2 = k := by omega
    have e5 : 2 * k % 2 = 0 := by omega
    have a1 : dig f (2 * k) = f k % 4294967296 := by simp [dig]
    have a2 : dig f (2 * k + 1) = f k / 4294967296 := by simp [dig, e2, e3]
    rw [e, vd_succ, vd_succ, ih, vf_succ, pd_succ, pd_two, a1, a2]
    have e6 : f k = 4294967296 * (f k / 4294967296) + f k % 4294967296 := by omega
    have e7 : f k * pw k = (4294967296 * (f k / 4294967296) + f k % 4294967296) * pw k := by rw [← e6]
    rw [e7]
    grind

theorem rd_new2 (w : World) (e : TypeId) (x : Int) : Rd .u64 (w.alloc (.cells #[.int .u64 (x % 4294967296), .int .u64 (x / 4294967296)] e)) (some ⟨w.heap.size, 0, none⟩) 2 (two32 x) :=
  Rd.mk (fun j hj => by
    rw [Nat.zero_add, World.cell?_alloc_new]
    rcases (show j = 0 ∨ j = 1 by omega) with rfl | rfl <;> simp [two32])

set_option maxRecDepth 100000 in
set_option maxHeartbeats 1000000 in
/-- From: the digits of limbs. -/
theorem fromNew_c (ao : Option Addr) (n cap : Nat) (f : Nat → Int) (w : World) (hn : n ≤ 1048576) (hr : Rd .u64 w ao n f) (hf : Lm f n) :
    Calls Tryz.prog 67 #[.slice ao n cap] w fun e w' => ∃ ao' m cap', e = .returned (.slice ao' m cap') ∧ (∀ a, ao' = some a → w.heap.size ≤ a.block) ∧ m ≤ cap' ∧ cap' ≤ 9223372036854775807 ∧ Below w.heap.size w w' ∧ Rd .u64 w' ao' m (dig f) ∧ m ≤ 2 * n ∧ (ao' = none → m = 0) ∧ Dg (dig f) m ∧ Fm (dig f) m ∧ vd (dig f) m = vf f n := by
  have HR := hid hr
  have HF := hid hf
  clear hr hf
  obtain ⟨i0, hi, hz0, hz1, hz2⟩ := info_parts Tryz.infoU64
  go_enter Tryz.func67, Tryz.ntmps67
  go_wp2_with (at_make; refine wpList_make_own w rfl (.const (.int .i64 0)) (.tmp 8) 22 rfl w.heap.size 28 i0 (.int .u64 0) 1 Tryz.underlying22 hi hz0 hz1 .i64 .i64 (2 * (n : Int)) (2 * n) rfl rfl (by omega) (by rw [hz2]; omega) (by unfold maxLen; omega) (Nat.le_refl _) ?_; intro w1 hown1 hgr1)
  have hb1 : Below w.heap.size w w1 := (Below.refl _ _).grown hgr1 (Nat.le_refl _) (fun k h => by cases h)
  have ho1 : Own .u64 28 w1 w.heap.size (.slice (some ⟨w.heap.size, 0, none⟩) 0 (2 * n)) 0 (dig f) := hown1
  clear hown1 hgr1
  have HO1 := hid ho1
  clear ho1
  go_loopw [3, 12] (fun v t wr => ∃ k : Nat, k ≤ n ∧ t = .int .i64 k ∧ Below w.heap.size w wr ∧ Hid (Own .u64 28 wr w.heap.size v (2 * k) (dig f))) (fun _ t _ => n - (intOf t).toNat)
  case atStart => exact ⟨0, by omega, rfl, hb1, HO1.out⟩
  case round =>
    clear hb1 HO1
    obtain ⟨k, hk, rfl, hbel, HO⟩ := hrel
    by_cases hlt : k < n
    · have hr := HR.out
      obtain ⟨b, o, rfl⟩ := hr.at (by omega)
      obtain ⟨x, hx⟩ : ∃ x, f k = x := ⟨_, rfl⟩
      have hcell : wr.cell? ⟨b, o + k, none⟩ = some (.int .u64 x) := by rw [← hx]; exact (hr.below hbel (Nat.le_refl _)).cell hlt
      obtain ⟨x0, x1⟩ := HF.out k hlt
      rw [hx] at x0 x1
      have HX := hid hx
      clear hx hr
      go_wp2_with (at_builtin; refine wpList_append_own_list .u64 _ rfl (.tmp 16) (.tmp 21) 22 rfl w.heap.size 28 8 Tryz.underlying22 Tryz.infoU64 _ (2 * k) (dig f) rfl (Own.alloc HO.out _) wr.heap.size 0 2 2 (two32 x) rfl (rd_new2 wr _ x) ?c1 ?c2 ?c3 ?_)
      case c1 => unfold maxLen; omega
      case c2 => omega
      case c3 => have := hbel.size; simp; omega
      intro v' w' hown hgr
      have hown2 : Own .u64 28 w' w.heap.size v' (2 * (k + 1)) (dig f) := (show Own .u64 28 w' w.heap.size v' (2 * k + 2) _ from hown).congr (fun j hj => by rw [← HX.out]; exact dig_cat f k j hj)
      have hbel2 : Below w.heap.size w w' := (hbel.alloc hbel.size _).grown hgr (by have := hbel.size; simp; omega) (fun k h => (Own.ge HO.out k h))
      have HO2 := hid hown2
      clear hown hgr hown2 HO
      go_wp2
      go_roundw
      case rel => exact ⟨k + 1, by omega, by go_num, hbel2, HO2.out⟩
      case measure => simp [intOf]; omega
    · have hkn : k = n := by omega
      subst hkn
      obtain ⟨ao', cap', hv, hcc, hnn, hml, hrd, hlt2⟩ := HO.out.shape
      unfold maxLen at hml
      subst hv
      have HNew := hid (fun a ha => (hlt2 a ha).1)
      clear HO hlt2
      go_wp2_with fail
      refine (low_c ao' (2 * k) cap' (dig f) wr hcc hml hrd hnn).mono ?_
      rintro e w2 ⟨rfl, m, hm, hz, hfm, rfl⟩
      have HZ := hid hz
      have HFM := hid hfm
      clear hz hfm
      go_wp2
      go_ret
      refine ⟨ao', m, cap', rfl, HNew.out, by omega, hml, hbel, hrd.take hm, hm, fun h => ?_, (dig_lm HF.out).mono hm, HFM.out, ?_⟩
      · have := hnn h; omega
      · rw [trim_vald hm HZ.out]; exact dig_val f k

theorem from_c (ao : Option Addr) (n cap : Nat) (f : Nat → Int) (w : World) (hn : n ≤ 1048576) (hr : Rd .u64 w ao n f) (hf : Lm f n) :
    Calls Tryz.prog 67 #[.slice ao n cap] w fun e w' => ∃ ao' m cap', e = .returned (.slice ao' m cap') ∧ Below w.heap.size w w' ∧ Rd .u64 w' ao' m (dig f) ∧ m ≤ 2 * n ∧ (ao' = none → m = 0) ∧ Dg (dig f) m ∧ Fm (dig f) m ∧ vd (dig f) m = vf f n :=
  (fromNew_c ao n cap f w hn hr hf).mono (fun _ _ ⟨a, m, c, h1, _, _, _, h2⟩ => ⟨a, m, c, h1, h2⟩)

/-- The limbs of digits. -/
def lim (d : Nat → Int) (n : Nat) : Nat → Int := fun j => ext d n (2 * j) + 4294967296 * ext d n (2 * j + 1)
theorem ext_dg {d : Nat → Int} {n : Nat} (h : Dg d n) (j : Nat) : 0 ≤ ext d n j ∧ ext d n j < 4294967296 := by
  by_cases hj : j < n
  · rw [ext_in _ _ _ hj]; exact h j hj
  · rw [ext_out _ _ _ (by omega)]; omega
theorem lim_lm {d : Nat → Int} {n : Nat} (h : Dg d n) (k : Nat) : Lm (lim d n) k := fun j _ => by
  have a := ext_dg h (2 * j); have b := ext_dg h (2 * j + 1)
  unfold lim; omega
theorem lim_val (d : Nat → Int) (n k : Nat) : vf (lim d n) k = vd (ext d n) (2 * k) := by
  induction k with
  | zero => rfl
  | succ k ih =>
    have e : 2 * (k + 1) = 2 * k + 1 + 1 := by omega
    rw [e, vd_succ, vd_succ, ← ih, vf_succ, pd_succ, pd_two, lim]; grind
theorem vd_ext_list (h : Nat → Int) (m n : Nat) (hn : m ≤ n) : vd (ext h m) n = vd h m := by
  rw [vd_ext hn (fun j h1 _ => ext_out h m j h1)]
  exact vd_congr (fun j hj => ext_in h m j hj)
theorem lim_fm {d : Nat → Int} {n k : Nat} (h : Dg d n) (hf : Fm d n) (h1 : n ≤ 2 * k) (h2 : 2 * k ≤ n + 1) : Fm (lim d n) k := by
  by_cases h0 : n = 0
  · left; omega
  · right
    have hd : d (n - 1) ≠ 0 := by rcases hf with h | h; omega; exact h
    have a := ext_dg h (2 * (k - 1)); have b := ext_dg h (2 * (k - 1) + 1)
    unfold lim
    rcases (show n - 1 = 2 * (k - 1) ∨ n - 1 = 2 * (k - 1) + 1 by omega) with e | e
    · have := ext_in d n (2 * (k - 1)) (by omega)
      rw [← e] at this a ⊢
      omega
    · have := ext_in d n (2 * (k - 1) + 1) (by omega)
      rw [← e] at this b ⊢
      omega
theorem cat_one {f : Nat → Int} {k : Nat} {x : Int} (h : f k = x) : ∀ j, j < k + 1 → cat f k (fun _ => x) j = f j := by
  intro j hj
  by_cases h1 : j < k
  · exact cat_in h1
  · obtain rfl : j = k := by omega
    rw [cat_out (Nat.le_refl _), h]

set_option maxRecDepth 100000 in
set_option maxHeartbeats 1000000 in
/-- To: the limbs of digits. -/
theorem toOwn_c (ao : Option Addr) (n cap : Nat) (d : Nat → Int) (w : World) (hn : n ≤ 1048576) (hr : Rd .u64 w ao n d) (hd : Dg d n) (hfm : Fm d n) :
    Calls Tryz.prog 120 #[.slice ao n cap] w fun e w' => ∃ ao' m cap' f, e = .returned (.slice ao' m cap') ∧ Own .u64 28 w' w.heap.size (.slice ao' m cap') m f ∧ Below w.heap.size w w' ∧ Rd .u64 w' ao' m f ∧ m ≤ n ∧ Lm f m ∧ Fm f m ∧ vf f m = vd d n := by
  have HR := hid hr
  have HD := hid hd
  have HFM := hid hfm
  clear hr hd hfm
  go_enter Tryz.func120, Tryz.ntmps120
  go_wp2
  go_loopw [3, 4] (fun v t wr => ∃ k : Nat, 2 * k ≤ n + 1 ∧ t = .int .i64 (2 * k) ∧ Below w.heap.size w wr ∧ Hid (Own .u64 28 wr w.heap.size v k (lim d n))) (fun _ t _ => n + 2 - (intOf t).toNat)
  case atStart => exact ⟨0, by omega, rfl, Below.refl _ _, own_nil _ _ _ _ _⟩
  case round =>
    obtain ⟨k, hk, rfl, hbel, HO⟩ := hrel
    by_cases hlt : 2 * k < n
    · have hr := HR.out
      obtain ⟨b, o, rfl⟩ := hr.at (by omega)
      obtain ⟨x, hx⟩ : ∃ x, d (2 * k) = x := ⟨_, rfl⟩
      have hcell : wr.cell? ⟨b, o + 2 * k, none⟩ = some (.int .u64 x) := by rw [← hx]; exact (hr.below hbel (Nat.le_refl _)).cell hlt
      obtain ⟨x0, x1⟩ := HD.out (2 * k) hlt
      rw [hx] at x0 x1
      have HX := hid hx
      clear hx
      by_cases hlt2 : 2 * k + 1 < n
      · obtain ⟨y, hy⟩ : ∃ y, d (2 * k + 1) = y := ⟨_, rfl⟩
        have hcell2 : wr.cell? ⟨b, o + (2 * k + 1), none⟩ = some (.int .u64 y) := by rw [← hy]; exact (hr.below hbel (Nat.le_refl _)).cell hlt2
        obtain ⟨y0, y1⟩ := HD.out (2 * k + 1) hlt2
        rw [hy] at y0 y1
        have HY := hid hy
        clear hy hr
        have hl : lim d n k = x + y * 4294967296 := by unfold lim; rw [ext_in _ _ _ hlt, ext_in _ _ _ hlt2, HX.out, HY.out]; omega
        have HLm := hid hl
        clear hl
        go_wp2_with (at_builtin; refine wpList_append_own_list .u64 _ rfl (.tmp 29) (.tmp 31) 22 rfl w.heap.size 28 8 Tryz.underlying22 Tryz.infoU64 _ k (lim d n) rfl (Own.alloc HO.out _) wr.heap.size 0 1 1 (fun _ => x + y * 4294967296) rfl (rd_new1 wr _ _) ?c1 ?c2 ?c3 ?_)
        case c1 => unfold maxLen; omega
        case c2 => omega
        case c3 => have := hbel.size; simp; omega
        intro v' w' hown hgr
        have hown2 : Own .u64 28 w' w.heap.size v' (k + 1) (lim d n) := Own.congr hown (cat_one HLm.out)
        have hbel2 : Below w.heap.size w w' := (hbel.alloc hbel.size _).grown hgr (by have := hbel.size; simp; omega) (fun k h => (Own.ge HO.out k h))
        have HO2 := hid hown2
        clear hown hgr hown2 HO
        go_wp2
        go_roundw
        case rel => exact ⟨k + 1, by omega, by go_num, hbel2, HO2.out⟩
        case measure => simp [intOf]; omega
      · have hl : lim d n k = x := by unfold lim; rw [ext_in _ _ _ hlt, ext_out _ _ _ (by omega), HX.out]; omega
        have HLm := hid hl
        clear hl hr
        go_wp2_with (at_builtin; refine wpList_append_own_list .u64 _ rfl (.tmp 29) (.tmp 31) 22 rfl w.heap.size 28 8 Tryz.underlying22 Tryz.infoU64 _ k (lim d n) rfl (Own.alloc HO.out _) wr.heap.size 0 1 1 (fun _ => x) rfl (rd_new1 wr _ _) ?c1 ?c2 ?c3 ?_)
        case c1 => unfold maxLen; omega
        case c2 => omega
        case c3 => have := hbel.size; simp; omega
        intro v' w' hown hgr
        have hown2 : Own .u64 28 w' w.heap.size v' (k + 1) (lim d n) := Own.congr hown (cat_one HLm.out)
        have hbel2 : Below w.heap.size w w' := (hbel.alloc hbel.size _).grown hgr (by have := hbel.size; simp; omega) (fun k h => (Own.ge HO.out k h))
        have HO2 := hid hown2
        clear hown hgr hown2 HO
        go_wp2
        go_roundw
        case rel => exact ⟨k + 1, by omega, by go_num, hbel2, HO2.out⟩
        case measure => simp [intOf]; omega
    · obtain ⟨ao', cap', hv, hcc, hnn, hml, hrd, hlt2⟩ := HO.out.shape
      subst hv
      clear hlt2
      go_wp2
      go_ret
      exact ⟨ao', k, cap', _, rfl, HO.out, hbel, hrd, by omega, lim_lm HD.out k, lim_fm HD.out HFM.out (by omega) hk, by rw [lim_val, vd_ext_list _ _ _ (by omega)]⟩
theorem to_c (ao : Option Addr) (n cap : Nat) (d : Nat → Int) (w : World) (hn : n ≤ 1048576) (hr : Rd .u64 w ao n d) (hd : Dg d n) (hfm : Fm d n) :
    Calls Tryz.prog 120 #[.slice ao n cap] w fun e w' => ∃ ao' m cap' f, e = .returned (.slice ao' m cap') ∧ Below w.heap.size w w' ∧ Rd .u64 w' ao' m f ∧ m ≤ n ∧ Lm f m ∧ Fm f m ∧ vf f m = vd d n :=
  (toOwn_c ao n cap d w hn hr hd hfm).mono (fun _ _ ⟨a, m, c, f, h1, _, h2⟩ => ⟨a, m, c, f, h1, h2⟩)
end Go.Proofs.YtclopblgdiahiaaGreatDoor
namespace Go.Proofs.YtclopblgdiahiaaGreatDoor
open Go.RowKit

theorem dcmp_step {f g : Nat → Int} {n k : Nat} (hf : Dg f n) (hg : Dg g n) (hk : k < n) (he : ∀ j, k < j → j < n → f j = g j) (hl : f k < g k) : vd f n < vd g n := by
  obtain ⟨d, rfl⟩ := Nat.exists_eq_add_of_le (show k + 1 ≤ n by omega)
  have e : vd (sh f (k + 1)) d = vd (sh g (k + 1)) d := vd_congr (fun j hj => he _ (by omega) (by omega))
  have a := vd_lt (hf.mono (m := k) (by omega)); have b := vd_nonneg (hg.mono (m := k) (by omega))
  have hp : (f k + 1) * pd k ≤ g k * pd k := Int.mul_le_mul_of_nonneg_right (by omega) (Int.le_of_lt (pd_pos k))
  rw [Int.add_mul, Int.one_mul] at hp
  rw [vd_split f (k + 1) d, vd_split g (k + 1) d, e, vd_succ f k, vd_succ g k]
  omega
theorem vd_cat1 (D : Nat → Int) (k : Nat) (x : Int) : vd (cat D k (fun _ => x)) (k + 1) = vd D k + x * pd k := by
  rw [vd_succ, vd_congr (f := cat D k (fun _ => x)) (g := D) (fun j hj => cat_in hj), cat_out (Nat.le_refl _)]
theorem dg_cat1 {D : Nat → Int} {k : Nat} {x : Int} (h : Dg D k) (hx : 0 ≤ x ∧ x < 4294967296) : Dg (cat D k (fun _ => x)) (k + 1) := fun j hj => by
  by_cases h1 : j < k
  · rw [cat_in h1]; exact h j h1
  · rw [cat_out (by omega)]; exact hx
/-- One digit of a sum. -/
theorem dadd_limb {V x c p : Int} : V + ((x + c) % 4294967296) * p + ((x + c) / 4294967296) * (4294967296 * p) = V + x * p + c * p := by
  have e : x + c = 4294967296 * ((x + c) / 4294967296) + (x + c) % 4294967296 := by omega
  grind
theorem dcarry_step {D F G : Nat → Int} {k : Nat} {cc x y : Int} (HV : vd D k + cc * pd k = vd F k + vd G k) (hx : F k = x) (hy : G k = y) :
    vd (cat D k (fun _ => (cc + x + y) % 4294967296)) (k + 1) + ((cc + x + y) / 4294967296) * pd (k + 1) = vd F (k + 1) + vd G (k + 1) := by
  rw [vd_cat1, vd_succ, vd_succ, pd_succ, hx, hy]
  have := dadd_limb (V := vd D k) (x := x + y) (c := cc) (p := pd k)
  have e : x + y + cc = cc + x + y := by omega
  rw [e] at this
  rw [this]
  grind
theorem dborrow_step {D F G : Nat → Int} {k : Nat} {cc x y v c' : Int} (HV : vd D k - cc * pd k = vd F k - vd G k) (hx : F k = x) (hy : G k = y) (hv : v = x - (cc + y) + 4294967296 * c') :
    vd (cat D k (fun _ => v)) (k + 1) - c' * pd (k + 1) = vd F (k + 1) - vd G (k + 1) := by
  rw [vd_cat1, vd_succ, vd_succ, pd_succ, hx, hy, hv]
  grind

set_option maxHeartbeats 800000 in
theorem rcmp_c (ao bo : Option Addr) (n m ca cb : Nat) (f g : Nat → Int) (w : World) (hm : n ≤ 140737488355328) (hm' : m ≤ 140737488355328)
    (hr : Rd .u64 w ao n f) (hs : Rd .u64 w bo m g) (hf : Dg f n) (hg : Dg g m) (ff : Fm f n) (fg : Fm g m) :
    Calls Tryz.prog 106 #[.slice ao n ca, .slice bo m cb] w fun e w' => (∃ q, w' = w.drewN q) ∧ ∃ c, e = .returned (.int .i64 c) ∧ Ord c (vd f n) (vd g m) := by
  have FF := hid ff
  have FG := hid fg
  have HF := hid hf
  have HG := hid hg
  clear ff fg hf hg
  rcases Nat.lt_trichotomy n m with hlt | heq | hlt
  · have h1 : ((n : Int) != m) = true := by simp; omega
    have h2 : decide ((n : Int) < m) = true := by simp; omega
    have h3 : vd f n < vd g m := by
      apply Int.lt_of_not_ge; intro h
      have := vd_len HG.out HF.out FG.out h; omega
    have H3 := hid h3
    clear h3
    go_enter Tryz.func106, Tryz.ntmps106
    go_wp2
    go_ret
    exact ⟨⟨0, rfl⟩, -1, rfl, .inl ⟨rfl, H3.out⟩⟩
  · subst heq
    have h1 : ((n : Int) != n) = false := by simp
    go_enter Tryz.func106, Tryz.ntmps106
    go_wp2
    go_loopw [5] (fun t wr => ∃ i : Nat, i ≤ n ∧ t = .int .i64 ((i : Int) - 1) ∧ Hid (∀ j, i ≤ j → j < n → f j = g j) ∧ ∃ q, wr = w.drewN q) (fun t _ => ((intOf t) + 1).toNat)
    case atStart => exact ⟨n, by omega, rfl, fun j h1 h2 => by omega, 0, rfl⟩
    case round =>
      obtain ⟨i, hin, rfl, HE, q, rfl⟩ := hrel
      by_cases hlt : 0 < i
      · obtain ⟨b, o, rfl⟩ := hr.at (by omega)
        obtain ⟨b', o', rfl⟩ := hs.at (by omega)
        obtain ⟨x, hx⟩ : ∃ x, f (i - 1) = x := ⟨_, rfl⟩
        obtain ⟨y, hy⟩ : ∃ y, g (i - 1) = y := ⟨_, rfl⟩
        have hca : w.cell? ⟨b, o + (i - 1), none⟩ = some (.int .u64 x) := by rw [← hx]; exact hr.cell (by omega)
        have hcb : w.cell? ⟨b', o' + (i - 1), none⟩ = some (.int .u64 y) := by rw [← hy]; exact hs.cell (by omega)
        have HX := hid hx
        have HY := hid hy
        clear hx hy hr hs
        rcases Int.lt_trichotomy x y with hl | hxy | hl
        · have hd : decide (x < y) = true := by simp [hl]
          go_wp2
          go_quiet (fail)
          go_wp2
          go_ret
          refine ⟨⟨_, by (repeat rw [World.drewN_drewN]) <;> rfl⟩, -1, rfl, .inl ⟨rfl, dcmp_step HF.out HG.out (k := i - 1) (by omega) (fun j h1 h2 => HE.out j (by omega) h2) (by rw [HX.out, HY.out]; exact hl)⟩⟩
        · subst hxy
          have hd : decide (x < x) = false := by simp
          go_wp2
          go_quiet (fail)
          go_wp2
          go_quiet (fail)
          go_wp2
          go_roundw
          case rel =>
            refine ⟨i - 1, by omega, by go_num, fun j h1 h2 => ?_, _, by (repeat rw [World.drewN_drewN]) <;> rfl⟩
            by_cases hj : j = i - 1
            · rw [hj]; exact HX.out.trans HY.out.symm
            · exact HE.out j (by omega) h2
          case measure => simp [intOf]; omega
        · have hd : decide (x < y) = false := by simp; omega
          have hd2 : decide (y < x) = true := by simp [hl]
          go_wp2
          go_quiet (fail)
          go_wp2
          go_quiet (fail)
          go_wp2
          go_ret
          refine ⟨⟨_, by (repeat rw [World.drewN_drewN]) <;> rfl⟩, 1, rfl, .inr (.inr ⟨rfl, dcmp_step HG.out HF.out (k := i - 1) (by omega) (fun j h1 h2 => (HE.out j (by omega) h2).symm) (by rw [HX.out, HY.out]; omega)⟩)⟩
      · have hi : i = 0 := by omega
        subst hi
        go_wp2
        go_ret
        exact ⟨⟨_, rfl⟩, 0, rfl, .inr (.inl ⟨rfl, vd_congr (fun j hj => HE.out j (by omega) hj)⟩)⟩
  · have h1 : ((n : Int) != m) = true := by simp; omega
    have h2 : decide ((n : Int) < m) = false := by simp; omega
    have h3 : vd g m < vd f n := by
      apply Int.lt_of_not_ge; intro h
      have := vd_len HF.out HG.out FF.out h; omega
    have H3 := hid h3
    clear h3
    go_enter Tryz.func106, Tryz.ntmps106
    go_wp2
    go_ret
    exact ⟨⟨0, rfl⟩, 1, rfl, .inr (.inr ⟨rfl, H3.out⟩)⟩

set_option maxRecDepth 100000 in
set_option maxHeartbeats 2000000 in
/-- Add: the sum, on digits. -/
theorem raddO_c (ao bo : Option Addr) (n m ca cb : Nat) (f h : Nat → Int) (w : World) (hn : n ≤ 1048576) (hm : m ≤ 1048576) (hr : Rd .u64 w ao n f) (hs : Rd .u64 w bo m h) (hf : Dg f n) (hh : Dg h m) :
    Calls Tryz.prog 173 #[.slice ao n ca, .slice bo m cb] w fun e w' => ∃ ao' k cap' D, e = .returned (.slice ao' k cap') ∧ Below w.heap.size w w' ∧ Rd .u64 w' ao' k D ∧ k ≤ n + m + 1 ∧ Dg D k ∧ Fm D k ∧ (∀ a, ao' = some a → w.heap.size ≤ a.block) ∧ vd D k = vd f n + vd h m := by
  obtain ⟨i0, hi, hz0, hz1, hz2⟩ := info_parts Tryz.infoU64
  have RA0 := hid hr
  have RB0 := hid hs
  have DA0 := hid hf
  have DB0 := hid hh
  clear hr hs hf hh
  by_cases hsw : n < m
  · have RA := RB0
    have RB := RA0
    have DA := DB0
    have DB := DA0
    clear RA0 RB0 DA0 DB0
    go_enter Tryz.func173, Tryz.ntmps173
    go_wp2_with (at_make; refine wpList_make_own w rfl (.const (.int .i64 0)) (.tmp 18) 22 rfl w.heap.size 28 i0 (.int .u64 0) 1 Tryz.underlying22 hi hz0 hz1 .i64 .i64 ((m : Int) + 1) (m + 1) rfl rfl (by omega) (by rw [hz2]; omega) (by unfold maxLen; omega) (Nat.le_refl _) ?_; intro w1 hown1 hgr1)
    have hb1 : Below w.heap.size w w1 := (Below.refl _ _).grown hgr1 (Nat.le_refl _) (fun k h => by cases h)
    have HO1 := hid (show Own .u64 28 w1 w.heap.size (.slice (some ⟨w.heap.size, 0, none⟩) 0 (m + 1)) 0 (fun _ => 0) from hown1)
    clear hown1 hgr1
    go_loopw [5, 6, 22] (fun v c t wr => ∃ (k : Nat) (cc : Int) (D : Nat → Int), k ≤ m ∧ t = .int .i64 k ∧ c = .int .u64 cc ∧ 0 ≤ cc ∧ cc ≤ 1 ∧ Below w.heap.size w wr ∧ Hid (Own .u64 28 wr w.heap.size v k D) ∧ Hid (Dg D k) ∧ Hid (vd D k + cc * pd k = vd h k + vd (ext f n) k)) (fun _ _ t _ => m - (intOf t).toNat)
    case atStart => exact ⟨0, 0, fun _ => 0, by omega, rfl, rfl, by omega, by omega, hb1, HO1.out, fun j hj => by omega, by simp [Hid, vd, pd]⟩
    case round =>
      clear hb1 HO1
      obtain ⟨k, cc, D, hk, rfl, rfl, c0, c1, hbel, HO, HDg, HV⟩ := hrel
      by_cases hlt : k < m
      · have hrA := RA.out
        obtain ⟨b, o, rfl⟩ := hrA.at (by omega)
        obtain ⟨x, hx⟩ : ∃ x, h k = x := ⟨_, rfl⟩
        have hcell : wr.cell? ⟨b, o + k, none⟩ = some (.int .u64 x) := by rw [← hx]; exact (hrA.below hbel (Nat.le_refl _)).cell hlt
        obtain ⟨x0, x1⟩ := DA.out k hlt
        rw [hx] at x0 x1
        have HX := hid hx
        clear hx hrA
        by_cases hlt2 : k < n
        · have hrB := RB.out
          obtain ⟨b', o', rfl⟩ := hrB.at (by omega)
          obtain ⟨y, hy⟩ : ∃ y, f k = y := ⟨_, rfl⟩
          have hcelb : wr.cell? ⟨b', o' + k, none⟩ = some (.int .u64 y) := by rw [← hy]; exact (hrB.below hbel (Nat.le_refl _)).cell hlt2
          obtain ⟨y0, y1⟩ := DB.out k hlt2
          rw [hy] at y0 y1
          have HY := hid (show ext f n k = y from (ext_in _ _ _ hlt2).trans hy)
          clear hy hrB
          go_wp2_with (at_builtin; refine wpList_append_own_list .u64 _ rfl (.tmp 40) (.tmp 43) 22 rfl w.heap.size 28 8 Tryz.underlying22 Tryz.infoU64 _ k D rfl (Own.alloc HO.out _) wr.heap.size 0 1 1 (fun _ => (cc + x + y) % 4294967296) rfl (rd_new1 wr _ _) ?c1 ?c2 ?c3 ?_)
          case c1 => unfold maxLen; omega
          case c2 => omega
          case c3 => have := hbel.size; simp; omega
          intro v' w' hown hgr
          have hbel2 : Below w.heap.size w w' := (hbel.alloc hbel.size _).grown hgr (by have := hbel.size; simp; omega) (fun k h => (Own.ge HO.out k h))
          have HO2 := hid hown
          clear hown hgr HO
          go_wp2
          go_roundw
          case rel => exact ⟨k + 1, _, _, by omega, by go_num, rfl, by omega, by omega, hbel2, HO2.out, dg_cat1 HDg.out (by omega), dcarry_step HV.out HX.out HY.out⟩
          case measure => simp [intOf]; omega
        · have HY := hid (show ext f n k = 0 from ext_out _ _ _ (by omega))
          go_wp2_with (at_builtin; refine wpList_append_own_list .u64 _ rfl (.tmp 40) (.tmp 43) 22 rfl w.heap.size 28 8 Tryz.underlying22 Tryz.infoU64 _ k D rfl (Own.alloc HO.out _) wr.heap.size 0 1 1 (fun _ => (cc + x) % 4294967296) rfl (rd_new1 wr _ _) ?c1 ?c2 ?c3 ?_)
          case c1 => unfold maxLen; omega
          case c2 => omega
          case c3 => have := hbel.size; simp; omega
          intro v' w' hown hgr
          have hbel2 : Below w.heap.size w w' := (hbel.alloc hbel.size _).grown hgr (by have := hbel.size; simp; omega) (fun k h => (Own.ge HO.out k h))
          have HO2 := hid hown
          clear hown hgr HO
          go_wp2
          go_roundw
          case rel => exact ⟨k + 1, _, _, by omega, by go_num, rfl, by omega, by omega, hbel2, HO2.out, dg_cat1 HDg.out (by omega), (by have := dcarry_step HV.out HX.out HY.out; simpa [Hid] using this)⟩
          case measure => simp [intOf]; omega
      · have hkn : k = m := by omega
        subst hkn
        go_wp2_with (at_builtin; refine wpList_append_own_list .u64 _ rfl (.tmp 48) (.tmp 50) 22 rfl w.heap.size 28 8 Tryz.underlying22 Tryz.infoU64 _ k D rfl (Own.alloc HO.out _) wr.heap.size 0 1 1 (fun _ => cc) rfl (rd_new1 wr _ _) ?c1 ?c2 ?c3 ?_)
        case c1 => unfold maxLen; omega
        case c2 => omega
        case c3 => have := hbel.size; simp; omega
        intro v' w' hown hgr
        have hbel2 : Below w.heap.size w w' := (hbel.alloc hbel.size _).grown hgr (by have := hbel.size; simp; omega) (fun k h => (Own.ge HO.out k h))
        obtain ⟨ao', cap', hv, hcc, hnn, hml, hrd, hlt3⟩ := Own.shape hown
        unfold maxLen at hml
        subst hv
        have HLT := hid hlt3
        clear hown hgr HO hlt3
        go_wp2_with fail
        refine (low_c ao' (k + 1) cap' (cat D k (fun _ => cc)) w' hcc hml hrd hnn).mono ?_
        rintro e w2 ⟨rfl, m', hm1, hz, hfm, rfl⟩
        have HZ := hid hz
        have HFM := hid hfm
        clear hz hfm
        go_wp2
        go_ret
        refine ⟨ao', m', cap', _, rfl, hbel2, hrd.take hm1, by omega, (dg_cat1 HDg.out (by omega)).mono hm1, HFM.out, fun a ha => (HLT.out a ha).1, ?_⟩
        rw [trim_vald hm1 HZ.out, vd_cat1, HV.out, vd_ext_list _ _ _ (by omega)]
        omega
  · have RA := RA0
    have RB := RB0
    have DA := DA0
    have DB := DB0
    clear RA0 RB0 DA0 DB0
    go_enter Tryz.func173, Tryz.ntmps173
    go_wp2_with (at_make; refine wpList_make_own w rfl (.const (.int .i64 0)) (.tmp 18) 22 rfl w.heap.size 28 i0 (.int .u64 0) 1 Tryz.underlying22 hi hz0 hz1 .i64 .i64 ((n : Int) + 1) (n + 1) rfl rfl (by omega) (by rw [hz2]; omega) (by unfold maxLen; omega) (Nat.le_refl _) ?_; intro w1 hown1 hgr1)
    have hb1 : Below w.heap.size w w1 := (Below.refl _ _).grown hgr1 (Nat.le_refl _) (fun k h => by cases h)
    have HO1 := hid (show Own .u64 28 w1 w.heap.size (.slice (some ⟨w.heap.size, 0, none⟩) 0 (n + 1)) 0 (fun _ => 0) from hown1)
    clear hown1 hgr1
    go_loopw [5, 6, 22] (fun v c t wr => ∃ (k : Nat) (cc : Int) (D : Nat → Int), k ≤ n ∧ t = .int .i64 k ∧ c = .int .u64 cc ∧ 0 ≤ cc ∧ cc ≤ 1 ∧ Below w.heap.size w wr ∧ Hid (Own .u64 28 wr w.heap.size v k D) ∧ Hid (Dg D k) ∧ Hid (vd D k + cc * pd k = vd f k + vd (ext h m) k)) (fun _ _ t _ => n - (intOf t).toNat)
    case atStart => exact ⟨0, 0, fun _ => 0, by omega, rfl, rfl, by omega, by omega, hb1, HO1.out, fun j hj => by omega, by simp [Hid, vd, pd]⟩
    case round =>
      clear hb1 HO1
      obtain ⟨k, cc, D, hk, rfl, rfl, c0, c1, hbel, HO, HDg, HV⟩ := hrel
      by_cases hlt : k < n
      · have hrA := RA.out
        obtain ⟨b, o, rfl⟩ := hrA.at (by omega)
        obtain ⟨x, hx⟩ : ∃ x, f k = x := ⟨_, rfl⟩
        have hcell : wr.cell? ⟨b, o + k, none⟩ = some (.int .u64 x) := by rw [← hx]; exact (hrA.below hbel (Nat.le_refl _)).cell hlt
        obtain ⟨x0, x1⟩ := DA.out k hlt
        rw [hx] at x0 x1
        have HX := hid hx
        clear hx hrA
        by_cases hlt2 : k < m
        · have hrB := RB.out
          obtain ⟨b', o', rfl⟩ := hrB.at (by omega)
          obtain ⟨y, hy⟩ : ∃ y, h k = y := ⟨_, rfl⟩
          have hcelb : wr.cell? ⟨b', o' + k, none⟩ = some (.int .u64 y) := by rw [← hy]; exact (hrB.below hbel (Nat.le_refl _)).cell hlt2
          obtain ⟨y0, y1⟩ := DB.out k hlt2
          rw [hy] at y0 y1
          have HY := hid (show ext h m k = y from (ext_in _ _ _ hlt2).trans hy)
          clear hy hrB
          go_wp2_with (at_builtin; refine wpList_append_own_list .u64 _ rfl (.tmp 40) (.tmp 43) 22 rfl w.heap.size 28 8 Tryz.underlying22 Tryz.infoU64 _ k D rfl (Own.alloc HO.out _) wr.heap.size 0 1 1 (fun _ => (cc + x + y) % 4294967296) rfl (rd_new1 wr _ _) ?c1 ?c2 ?c3 ?_)
          case c1 => unfold maxLen; omega
          case c2 => omega
          case c3 => have := hbel.size; simp; omega
          intro v' w' hown hgr
          have hbel2 : Below w.heap.size w w' := (hbel.alloc hbel.size _).grown hgr (by have := hbel.size; simp; omega) (fun k h => (Own.ge HO.out k h))
          have HO2 := hid hown
          clear hown hgr HO
          go_wp2
          go_roundw
          case rel => exact ⟨k + 1, _, _, by omega, by go_num, rfl, by omega, by omega, hbel2, HO2.out, dg_cat1 HDg.out (by omega), dcarry_step HV.out HX.out HY.out⟩
          case measure => simp [intOf]; omega
        · have HY := hid (show ext h m k = 0 from ext_out _ _ _ (by omega))
          go_wp2_with (at_builtin; refine wpList_append_own_list .u64 _ rfl (.tmp 40) (.tmp 43) 22 rfl w.heap.size 28 8 Tryz.underlying22 Tryz.infoU64 _ k D rfl (Own.alloc HO.out _) wr.heap.size 0 1 1 (fun _ => (cc + x) % 4294967296) rfl (rd_new1 wr _ _) ?c1 ?c2 ?c3 ?_)
          case c1 => unfold maxLen; omega
          case c2 => omega
          case c3 => have := hbel.size; simp; omega
          intro v' w' hown hgr
          have hbel2 : Below w.heap.size w w' := (hbel.alloc hbel.size _).grown hgr (by have := hbel.size; simp; omega) (fun k h => (Own.ge HO.out k h))
          have HO2 := hid hown
          clear hown hgr HO
          go_wp2
          go_roundw
          case rel => exact ⟨k + 1, _, _, by omega, by go_num, rfl, by omega, by omega, hbel2, HO2.out, dg_cat1 HDg.out (by omega), (by have := dcarry_step HV.out HX.out HY.out; simpa [Hid] using this)⟩
          case measure => simp [intOf]; omega
      · have hkn : k = n := by omega
        subst hkn
        go_wp2_with (at_builtin; refine wpList_append_own_list .u64 _ rfl (.tmp 48) (.tmp 50) 22 rfl w.heap.size 28 8 Tryz.underlying22 Tryz.infoU64 _ k D rfl (Own.alloc HO.out _) wr.heap.size 0 1 1 (fun _ => cc) rfl (rd_new1 wr _ _) ?c1 ?c2 ?c3 ?_)
        case c1 => unfold maxLen; omega
        case c2 => omega
        case c3 => have := hbel.size; simp; omega
        intro v' w' hown hgr
        have hbel2 : Below w.heap.size w w' := (hbel.alloc hbel.size _).grown hgr (by have := hbel.size; simp; omega) (fun k h => (Own.ge HO.out k h))
        obtain ⟨ao', cap', hv, hcc, hnn, hml, hrd, hlt3⟩ := Own.shape hown
        unfold maxLen at hml
        subst hv
        have HLT := hid hlt3
        clear hown hgr HO hlt3
        go_wp2_with fail
        refine (low_c ao' (k + 1) cap' (cat D k (fun _ => cc)) w' hcc hml hrd hnn).mono ?_
        rintro e w2 ⟨rfl, m', hm1, hz, hfm, rfl⟩
        have HZ := hid hz
        have HFM := hid hfm
        clear hz hfm
        go_wp2
        go_ret
        refine ⟨ao', m', cap', _, rfl, hbel2, hrd.take hm1, by omega, (dg_cat1 HDg.out (by omega)).mono hm1, HFM.out, fun a ha => (HLT.out a ha).1, ?_⟩
        rw [trim_vald hm1 HZ.out, vd_cat1, HV.out, vd_ext_list _ _ _ (by omega)]

/-- The same, without the place. -/
theorem radd_c (ao bo : Option Addr) (n m ca cb : Nat) (f h : Nat → Int) (w : World) (hn : n ≤ 1048576) (hm : m ≤ 1048576) (hr : Rd .u64 w ao n f) (hs : Rd .u64 w bo m h) (hf : Dg f n) (hh : Dg h m) :
    Calls Tryz.prog 173 #[.slice ao n ca, .slice bo m cb] w fun e w' => ∃ ao' k cap' D, e = .returned (.slice ao' k cap') ∧ Below w.heap.size w w' ∧ Rd .u64 w' ao' k D ∧ k ≤ n + m + 1 ∧ Dg D k ∧ Fm D k ∧ vd D k = vd f n + vd h m :=
  (raddO_c ao bo n m ca cb f h w hn hm hr hs hf hh).mono (fun _ _ ⟨a, k, c, D, h1, h2, h3, h4, h5, h6, _, h7⟩ => ⟨a, k, c, D, h1, h2, h3, h4, h5, h6, h7⟩)

end Go.Proofs.YtclopblgdiahiaaGreatDoor
namespace Go.Proofs.YtclopblgdiahiaaGreatDoor
open Go.RowKit

set_option maxRecDepth 100000 in
set_option maxHeartbeats 400000 in
/-- Word: the digits of a number below 2^32. -/
theorem word_c (x : Int) (w : World) (x0 : 0 ≤ x) (x1 : x < 4294967296) :
    Calls Tryz.prog 121 #[.int .u64 x] w fun e w' => ∃ k, e = .returned (.slice (some ⟨w.heap.size, 0, none⟩) k 2) ∧ Below w.heap.size w w' ∧ k ≤ 1 ∧ Rd .u64 w' (some ⟨w.heap.size, 0, none⟩) k (fun _ => x) ∧ (k = 0 → x = 0) ∧ Fm (fun _ => x) k := by
  have hr := rd_new2 w 28 x
  have m1 : x % 4294967296 = x := by omega
  have m2 : x / 4294967296 = 0 := by omega
  rw [m1, m2] at hr
  have HR := hid hr
  clear hr
  go_enter Tryz.func121, Tryz.ntmps121
  go_wp2_with fail
  refine (low_c (some ⟨w.heap.size, 0, none⟩) 2 2 (two32 x) _ (by omega) (by omega) HR.out (fun h => by cases h)).mono ?_
  rintro e w1 ⟨rfl, k, hk, hz, hfm, rfl⟩
  have hk1 : k ≤ 1 := by
    rcases hfm with h | h
    · omega
    · apply Nat.le_of_not_lt; intro h2
      obtain rfl : k = 2 := by omega
      exact h (by simp [two32, m2])
  have hx0 : k = 0 → x = 0 := fun h => by
    have := hz 0 (by omega) (by omega)
    simp [two32, m1] at this
    exact this
  have hr1 : ∀ j, j < k → two32 x j = x := by
    intro j hj
    obtain rfl : j = 0 := by omega
    simp [two32, m1]
  have hf1 : Fm (fun _ => x) k := by
    rcases hfm with h | h
    · exact .inl h
    · by_cases h0 : k = 0
      · exact .inl h0
      · right; rw [hr1 _ (by omega)] at h; exact h
  have HR1 := hid hr1; have HX0 := hid hx0; have HF1 := hid hf1
  clear hz hfm hr1 hx0 hf1
  go_wp2
  go_ret
  exact ⟨k, rfl, (Below.refl _ _).alloc (Nat.le_refl _) _, hk1, (HR.out.take hk).congr HR1.out, HX0.out, HF1.out⟩

theorem vd_cons (f : Nat → Int) (m i : Nat) : vd (sh f m) (i + 1) = f m + 4294967296 * vd (sh f (m + 1)) i := by
  rw [Nat.add_comm i 1, vd_split (sh f m) 1 i, sh_sh]
  have e1 : vd (sh f m) 1 = f m := by simp [vd, pd, sh]
  have e2 : pd 1 = 4294967296 := by simp [pd]
  rw [e1, e2]; omega
theorem short_step {f q q' : Nat → Int} {k i : Nat} {r wd : Int} (HV : vd (sh f (k + 1)) i = vd (sh q (k + 1)) i * wd + r) (hq : ∀ j, k < j → q' j = q j) (hk : q' k = (r * 4294967296 + f k) / wd) :
    vd (sh f k) (i + 1) = vd (sh q' k) (i + 1) * wd + (r * 4294967296 + f k) % wd := by
  have e1 : vd (sh q' (k + 1)) i = vd (sh q (k + 1)) i := vd_congr (fun j hj => hq _ (by omega))
  rw [vd_cons, vd_cons, e1, HV, hk]
  have e2 := Int.mul_ediv_add_emod (r * 4294967296 + f k) wd
  generalize (r * 4294967296 + f k) / wd = Q at *
  generalize (r * 4294967296 + f k) % wd = R at *
  grind

set_option maxRecDepth 100000 in
set_option maxHeartbeats 1000000 in
theorem short_c (ao : Option Addr) (n cap : Nat) (f : Nat → Int) (wd : Int) (w : World) (hn : n ≤ 1048576) (hr : Rd .u64 w ao n f) (hf : Dg f n) (w0 : 0 < wd) (w1 : wd < 4294967296) :
    Calls Tryz.prog 171 #[.slice ao n cap, .int .u64 wd] w fun e w' => ∃ a1 k1 c1 q a2 k2 c2 R, e = .returned (.tuple #[.slice a1 k1 c1, .slice a2 k2 c2]) ∧ Below w.heap.size w w' ∧ k1 ≤ n ∧ Rd .u64 w' a1 k1 q ∧ Dg q k1 ∧ Fm q k1 ∧ k2 ≤ 1 ∧ Rd .u64 w' a2 k2 (fun _ => R) ∧ (k2 = 0 → R = 0) ∧ Fm (fun _ => R) k2 ∧ 0 ≤ R ∧ R < wd ∧ vd f n = vd q k1 * wd + R := by
  have HR := hid hr
  have HF := hid hf
  clear hr hf
  go_enter Tryz.func171, Tryz.ntmps171
  go_wp2_with (at_make; refine wpList_make_blk .u64 w rfl (.tmp 10) (.tmp 10) 22 rfl 28 8 Tryz.underlying22 Tryz.infoU64 .i64 .i64 n n n rfl rfl rfl rfl (by omega) (by unfold maxLen; omega) ?_; intro wa hba hbela)
  go_loopw [7, 8] (fun c t wr => ∃ (i : Nat) (r : Int) (Q : Nat → Int), i ≤ n ∧ t = .int .i64 ((i : Int) - 1) ∧ c = .int .u64 r ∧ 0 ≤ r ∧ r < wd ∧ Below w.heap.size w wr ∧ Blk .u64 28 wr w.heap.size n Q ∧ Hid (Dg Q n) ∧ Hid (vd (sh f i) (n - i) = vd (sh Q i) (n - i) * wd + r)) (fun _ t _ => (intOf t + 1).toNat)
  case atStart => exact ⟨n, 0, fun _ => 0, by omega, rfl, rfl, by omega, w0, hbela, hba, fun j _ => ⟨Int.le_refl 0, show (0 : Int) < 4294967296 by decide⟩, by simp [Hid, vd]⟩
  case round =>
    clear hba hbela
    obtain ⟨i, r, Q, hi, rfl, rfl, r0, r1, hbel, hbl, HL, HV⟩ := hrel
    cases i with
    | zero =>
      go_wp2_with fail
      refine (low_c (some ⟨w.heap.size, 0, none⟩) n n Q wr (Nat.le_refl _) (by omega) (hbl.rd0 (Nat.le_refl _)) (fun h => by cases h)).mono ?_
      rintro e w2 ⟨rfl, k1, hk1, hz, hfm, rfl⟩
      have HZ := hid hz; have HFM := hid hfm
      clear hz hfm
      go_wp2_with fail
      refine (word_c r _ r0 (by omega)).mono ?_
      rintro e w3 ⟨k2, rfl, hbel3, hk2, hr2, hx2, hf2⟩
      have HB3 := hid hbel3; have HR2 := hid hr2; have HX2 := hid hx2; have HF2 := hid hf2
      clear hbel3 hr2 hx2 hf2
      go_wp2
      go_ret2
      have v := HV.out
      rw [sh_zero, sh_zero, Nat.sub_zero] at v
      refine ⟨_, k1, n, Q, _, k2, 2, r, rfl, hbel.trans (HB3.out.mono hbel.size), hk1, ((hbl.rd0 (Nat.le_refl _)).take hk1).below HB3.out (Nat.le_refl _), HL.out.mono hk1, HFM.out, hk2, HR2.out, HX2.out, HF2.out, r0, r1, ?_⟩
      rw [trim_vald hk1 HZ.out]; exact v
    | succ k =>
      have hr := HR.out
      obtain ⟨b, o, rfl⟩ := hr.at (by omega)
      obtain ⟨x, hx⟩ : ∃ x, f k = x := ⟨_, rfl⟩
      have hcell : wr.cell? ⟨b, o + k, none⟩ = some (.int .u64 x) := by rw [← hx]; exact (hr.below hbel (Nat.le_refl _)).cell (by omega)
      have hcelq := hbl.cell (j := k) (by omega)
      have hfz := hbl.frozen k
      obtain ⟨x0, x1⟩ := HF.out k (by omega)
      rw [hx] at x0 x1
      obtain ⟨q, hq⟩ : ∃ q, (r * 4294967296 + x) / wd = q := ⟨_, rfl⟩
      obtain ⟨R, hR⟩ : ∃ R, (r * 4294967296 + x) % wd = R := ⟨_, rfl⟩
      have hR0 : 0 ≤ R := by rw [← hR]; exact Int.emod_nonneg _ (by omega)
      have hR1 : R < wd := by rw [← hR]; exact Int.emod_lt_of_pos _ w0
      have hq0 : 0 ≤ q := by rw [← hq]; exact Int.ediv_nonneg (by omega) (by omega)
      have hq1 : q < 4294967296 := by
        rw [← hq]
        apply Int.ediv_lt_of_lt_mul w0
        omega
      have hst := short_step (q' := upd Q k q) (k := k) (i := n - (k + 1)) HV.out (fun j hj => upd_other _ _ _ _ (by omega)) (by rw [upd_same, hx, hq])
      rw [hx, hR] at hst
      have HX := hid hx; have HSt := hid hst
      clear hx hst hr
      have hwd : ¬ (wd = 0) := by omega
      have hwdb : (wd == 0) = false := by simp; omega
      go_wp2
      go_roundw
      case rel =>
        refine ⟨k, R, upd Q k q, by omega, by go_num, (by rw [hR]), hR0, hR1, below_only hbel ((Only.refl _ _).setCell _ _ _) (Nat.le_refl _) hbel.size, hbl.set _ _, HL.out.upd ⟨hq0, hq1⟩, ?_⟩
        have e : n - k = n - (k + 1) + 1 := by omega
        show _ = _
        rw [e]; exact HSt.out
      case measure => simp [intOf]
end Go.Proofs.YtclopblgdiahiaaGreatDoor
