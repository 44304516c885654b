/-
  Walks of package whole: Form, signed. Walks of package whole's calls Add, Sub, Mul. Walks of package whole: slices.Clone, Neg, Cmp, Of. The walk of package whole's call Divide. Walks of the document's reference for whole: Same, Twin, DocOf. Walks of package nat's reading: isNumber, readPiece.
-/
import Derived.Test.YtndiiknbkjlbiaaGreatDoorZ4
import Derived.Lib.LazyBuf
import Derived.Deep.RegionHeld3
import Derived.Test.YtndiiknbkjlbiaaGreatDoorZ3
import Derived.Test.YtndiiknbkjlbiaaGreatDoorZ2
namespace Go.Proofs.YtndiiknbkjlbiaaGreatDoor
open Go.RowKit

/-- In form, sign and limbs. -/
def wfB (s : Bool) (f : Nat → Int) (n : Nat) : Bool := fmB f n && !(s && decide (n = 0))
/-- Old cells and marks read as before. -/
theorem bcell {W w1 : World} {B : Nat} (hb : Below B W w1) : (∀ b o, b < B → w1.cell? ⟨b, o, none⟩ = W.cell? ⟨b, o, none⟩) ∧ (∀ b o, b < B → w1.frozen? ⟨b, o, none⟩ = W.frozen? ⟨b, o, none⟩) :=
  ⟨fun b o h => hb.cell (p := ⟨b, o, none⟩) h, fun b o h => hb.frozen (p := ⟨b, o, none⟩) h⟩

theorem drewN_below {w w' : World} {q : Nat} (h : w' = w.drewN q) : Below w.heap.size w w' := by rw [h]; exact below_drewN (Below.refl _ _) _

theorem wForm_c (s : Bool) (ao : Option Addr) (n cap : Nat) (f : Nat → Int) (w : World) (hm : n ≤ 9223372036854775807) (hr : Rd .u64 w ao n f) :
    Calls Tryz.prog 55 #[.agg #[.bool s, .slice ao n cap]] w fun e w' => e = .returned (.bool (wfB s f n)) ∧ Below w.heap.size w w' := by
  have hba : Below w.heap.size w (w.alloc (.cells #[.bool s, .slice ao n cap] 45)) := below_alloc (Below.refl _ _) _
  have c1 := form_c ao n cap f (w.alloc (.cells #[.bool s, .slice ao n cap] 45)) hm (hr.alloc _)
  have HB := hid hba
  clear hr hba
  have hwf : wfB s f n = (fmB f n && !(s && decide (n = 0))) := rfl
  rw [hwf]
  clear hwf
  cases hfa : fmB f n
  · rw [hfa] at c1
    have C1 := hid c1
    clear c1 hfa
    go_enter Tryz.func55, Tryz.ntmps55
    go_wp2_with fail
    refine C1.out.mono ?_
    rintro e w1 ⟨rfl, rfl⟩
    go_wp2
    go_ret
    exact ⟨rfl, HB.out⟩
  · rw [hfa] at c1
    have C1 := hid c1
    clear c1 hfa
    cases s
    · go_enter Tryz.func55, Tryz.ntmps55
      go_wp2_with fail
      refine C1.out.mono ?_
      rintro e w1 ⟨rfl, rfl⟩
      go_wp2
      go_ret
      exact ⟨rfl, HB.out⟩
    · by_cases hn0 : n = 0
      · subst hn0
        go_enter Tryz.func55, Tryz.ntmps55
        go_wp2_with fail
        refine C1.out.mono ?_
        rintro e w1 ⟨rfl, rfl⟩
        go_wp2
        go_ret
        exact ⟨rfl, HB.out⟩
      · have hni : ((n : Int) == 0) = false := by simp; omega
        have hdn : decide (n = 0) = false := by simp; omega
        rw [hdn]
        clear hdn
        go_enter Tryz.func55, Tryz.ntmps55
        go_wp2_with fail
        refine C1.out.mono ?_
        rintro e w1 ⟨rfl, rfl⟩
        go_wp2
        go_ret
        exact ⟨rfl, HB.out⟩

theorem signed_c (s : Bool) (ao : Option Addr) (n cap : Nat) (w : World) (hm : n ≤ 9223372036854775807) :
    Calls Tryz.prog 99 #[.bool s, .slice ao n cap] w fun e w' => ∃ r o, e = .returned (.agg #[.bool r, .slice ao n cap]) ∧ Hid (r = (s && decide (0 < n))) ∧ w' = w.alloc o := by
  cases s
  · go_enter Tryz.func99, Tryz.ntmps99
    go_wp2
    exact bodyPost_ret (v := .agg #[.bool false, .slice ao n cap]) (by simp [results, Tryz.results99, go_sem]) rfl ⟨false, _, rfl, rfl, rfl⟩
  · by_cases hn0 : 0 < n
    · have hni : decide ((0 : Int) < (n : Int)) = true := by simp; omega
      have hdn : decide (0 < n) = true := by simp; omega
      rw [hdn]
      clear hdn
      go_enter Tryz.func99, Tryz.ntmps99
      go_wp2
      exact bodyPost_ret (v := .agg #[.bool true, .slice ao n cap]) (by simp [results, Tryz.results99, go_sem]) rfl ⟨true, _, rfl, rfl, rfl⟩
    · have hni : decide ((0 : Int) < (n : Int)) = false := by simp; omega
      have hdn : decide (0 < n) = false := by simp; omega
      rw [hdn]
      clear hdn
      go_enter Tryz.func99, Tryz.ntmps99
      go_wp2
      exact bodyPost_ret (v := .agg #[.bool false, .slice ao n cap]) (by simp [results, Tryz.results99, go_sem]) rfl ⟨false, _, rfl, rfl, rfl⟩

/-- The number that sign and limbs tell. -/
def wv (s : Bool) (f : Nat → Int) (n : Nat) : Int := if s then - vf f n else vf f n
/-- Nothing but blocks from lo on and below hi has turned; there may be new blocks. -/
structure Turned (lo hi : Nat) (w w' : World) : Prop where
  os : w'.os = w.os
  tape : w'.tape = w.tape
  output : w'.output = w.output
  size : w.heap.size ≤ w'.heap.size
  block : ∀ k, k < w.heap.size → k < lo ∨ hi ≤ k → w'.heap[k]? = w.heap[k]?
theorem Turned.refl (lo hi : Nat) (w : World) : Turned lo hi w w := ⟨rfl, rfl, rfl, Nat.le_refl _, fun _ _ _ => rfl⟩
theorem Turned.trans {lo hi : Nat} {a b c : World} (h : Turned lo hi a b) (k : Turned lo hi b c) : Turned lo hi a c :=
  ⟨k.os.trans h.os, k.tape.trans h.tape, k.output.trans h.output, Nat.le_trans h.size k.size, fun i hi hn => (k.block i (Nat.lt_of_lt_of_le hi h.size) hn).trans (h.block i hi hn)⟩
theorem Turned.set {lo hi : Nat} {a w : World} (h : Turned lo hi a w) {x : Addr} (h1 : lo ≤ x.block) (h2 : x.block < hi) (u : Value) : Turned lo hi a (w.setCell x u) :=
  h.trans ⟨rfl, rfl, rfl, by simp [World.setCell], fun k _ hn => Below.heap_setCell _ _ _ _ (by omega)⟩
theorem Turned.alloc {lo hi : Nat} {a w : World} (h : Turned lo hi a w) (o : Obj) : Turned lo hi a (w.alloc o) :=
  h.trans ⟨rfl, rfl, rfl, by simp, fun k hk _ => Below.heap_alloc _ _ _ hk⟩
theorem Turned.drew {lo hi : Nat} {a w : World} (h : Turned lo hi a w) : Turned lo hi a w.drew := ⟨h.os, h.tape, h.output, h.size, h.block⟩
theorem Turned.below {lo hi : Nat} {a w w' : World} (h : Turned lo hi a w) (hb : Below w.heap.size w w') : Turned lo hi a w' :=
  h.trans ⟨hb.os, hb.tape, hb.output, hb.size, fun k hk _ => hb.block k hk⟩
theorem below_turned {B : Nat} {w0 w w' : World} (hb : Below B w0 w) (hB : B ≤ w.heap.size) {lo hi : Nat} (h : Turned lo hi w w') (hl : B ≤ lo) : Below B w0 w' :=
  hb.trans ⟨h.os, h.tape, h.output, h.size, fun k hk => h.block k (by omega) (.inl (by omega))⟩
theorem Res.turned {C w0 w w' w'' ao n cap f} (h : Res C w w' ao n cap f) (hb : Below w0.heap.size w0 w) (ht : Turned w0.heap.size w.heap.size w' w'') : Res C w0 w'' ao n cap f := by
  have hb2 : Below w0.heap.size w0 w' := hb.trans (h.bel.mono hb.size)
  refine ⟨below_turned hb2 hb2.size ht (Nat.le_refl _), ?_, h.lmc, h.fm⟩
  rcases h.own with ⟨rfl, rfl, rfl⟩ | ⟨g, rfl, h1, h2, h3, h4, h5⟩
  · exact .inl ⟨rfl, rfl, rfl⟩
  · exact .inr ⟨g, rfl, by have := hb.size; omega, h2, h3, h4, h5.of (ht.block g h5.lt (.inr h1))⟩

/-- A list that a call answers: memory of the call's own, in form. -/
structure Asw (C : Nat) (w w' : World) (ao : Option Addr) (n cap : Nat) (f : Nat → Int) : Prop where
  bel : Below w.heap.size w w'
  own : Own .u64 83 w' w.heap.size (.slice ao n cap) n f
  lm : Lm f n
  fm : Fm f n
  le : n ≤ C
theorem Own.of {k e w w' base ao n cap f} (h : Own k e w base (.slice ao n cap) n f) (hh : ∀ a, ao = some a → w'.heap[a.block]? = w.heap[a.block]?) : Own k e w' base (.slice ao n cap) n f := by
  obtain ⟨h1, h2⟩ := h
  refine ⟨h1, ?_⟩
  rcases h2 with ⟨h3, h4⟩ | ⟨g, cap', cur, hv, hb, hg, hn, hm, hs, ht⟩
  · exact .inl ⟨h3, h4⟩
  · cases hv
    exact .inr ⟨g, cap, cur, rfl, hb, (hh _ rfl).trans hg, hn, hm, hs, ht⟩
theorem Own.base {k e w base base' v n f} (h : Own k e w base v n f) (hb : base' ≤ base) : Own k e w base' v n f := by
  obtain ⟨h1, h2⟩ := h
  refine ⟨h1, ?_⟩
  rcases h2 with ⟨h3, h4⟩ | ⟨g, cap', cur, hv, hb', hg, hn, hm, hs, ht⟩
  · exact .inl ⟨h3, h4⟩
  · exact .inr ⟨g, cap', cur, hv, Nat.le_trans hb hb', hg, hn, hm, hs, ht⟩
theorem Own.slice {k e w base ao n cap f} (h : Own k e w base (.slice ao n cap) n f) : n ≤ cap ∧ cap ≤ 9223372036854775807 ∧ (ao = none → n = 0 ∧ cap = 0) ∧ Rd k w ao n f ∧ ∀ a, ao = some a → base ≤ a.block ∧ a.block < w.heap.size := by
  obtain ⟨ao', cap', e', h1, h2, h3, h4, h5⟩ := h.shape
  cases e'
  refine ⟨h1, by unfold maxLen at h3; omega, fun e => ⟨by have := h2 e; omega, h2 e⟩, h4, h5⟩
theorem Asw.rd {C w w' ao n cap f} (h : Asw C w w' ao n cap f) : Rd .u64 w' ao n f := h.own.slice.2.2.2.1
theorem Asw.ncap {C w w' ao n cap f} (h : Asw C w w' ao n cap f) : n ≤ cap ∧ cap ≤ 9223372036854775807 := ⟨h.own.slice.1, h.own.slice.2.1⟩
theorem Asw.nil' {C w w' ao n cap f} (h : Asw C w w' ao n cap f) : ao = none → n = 0 ∧ cap = 0 := h.own.slice.2.2.1
theorem Asw.mono {C C' w w' ao n cap f} (h : Asw C w w' ao n cap f) (hC : C ≤ C') : Asw C' w w' ao n cap f := ⟨h.bel, h.own, h.lm, h.fm, Nat.le_trans h.le hC⟩
theorem Asw.none {C : Nat} {w w' : World} (f : Nat → Int) (h : Below w.heap.size w w') : Asw C w w' none 0 0 f := ⟨h, own_nil _ _ _ _ _, fun j hj => by omega, .inl rfl, Nat.zero_le _⟩
theorem Asw.turned {C w0 w w' w'' ao n cap f} (h : Asw C w w' ao n cap f) (hb : Below w0.heap.size w0 w) (ht : Turned w0.heap.size w.heap.size w' w'') : Asw C w0 w'' ao n cap f := by
  have hb2 : Below w0.heap.size w0 w' := hb.trans (h.bel.mono hb.size)
  refine ⟨below_turned hb2 hb2.size ht (Nat.le_refl _), (h.own.of ?_).base hb.size, h.lm, h.fm, h.le⟩
  intro a ha
  obtain ⟨h1, h2⟩ := h.own.slice.2.2.2.2 a ha
  exact ht.block _ h2 (.inr h1)
theorem Asw.ahead {C w0 w w' ao n cap f} (h : Asw C w w' ao n cap f) (hb : Below w0.heap.size w0 w) : Asw C w0 w' ao n cap f := h.turned hb (Turned.refl _ _ _)
theorem Asw.later {C w w' w'' ao n cap f} (h : Asw C w w' ao n cap f) (hb : Below w'.heap.size w' w'') : Asw C w w'' ao n cap f :=
  ⟨h.bel.trans (hb.mono h.bel.size), h.own.below hb, h.lm, h.fm, h.le⟩
theorem Res.ans {C w w' ao n cap f} (h : Res C w w' ao n cap f) (hC : C ≤ 9223372036854775807) : Asw C w w' ao n cap f := by
  refine ⟨h.bel, ?_, h.lm, h.fm, h.le⟩
  rcases h.own with ⟨rfl, rfl, rfl⟩ | ⟨g, rfl, h1, h2, h3, h4, h5⟩
  · exact own_nil _ _ _ _ _
  · exact own_of_blk h5 h1 h3 (by unfold maxLen; omega)
/-- An answer of whole: limbs of its own, in form, and a sign that 0 has not. -/
structure WRes (C : Nat) (w w' : World) (s : Bool) (ao : Option Addr) (n cap : Nat) (f : Nat → Int) : Prop where
  res : Asw C w w' ao n cap f
  sgn : s = true → 0 < n
theorem wfB_iff (s : Bool) (f : Nat → Int) (n : Nat) : wfB s f n = true ↔ Fm f n ∧ (s = true → 0 < n) := by
  rw [← fmB_iff]; unfold wfB; cases s <;> simp; omega
theorem WRes.wfB {C w w' s ao n cap f} (h : WRes C w w' s ao n cap f) : wfB s f n = true := (wfB_iff s f n).2 ⟨h.res.fm, h.sgn⟩
theorem wv_false (f : Nat → Int) (n : Nat) : wv false f n = vf f n := rfl
theorem wv_true (f : Nat → Int) (n : Nat) : wv true f n = - vf f n := rfl
theorem WRes.mk' {C w w' ao n cap f} {r s : Bool} (hr : Hid (r = (s && decide (0 < n)))) (h : Asw C w w' ao n cap f) : WRes C w w' r ao n cap f := ⟨h, fun h => by rw [hr.out] at h; simp at h; exact h.2⟩
theorem wv_sign {f n} {r s : Bool} (hr : Hid (r = (s && decide (0 < n)))) : wv r f n = wv s f n := by
  rw [hr.out]
  by_cases hn : 0 < n
  · simp [hn]
  · obtain rfl : n = 0 := by omega
    cases s <;> simp [wv, vf]

set_option maxHeartbeats 1000000 in
theorem wadd_same (s : Bool) (ao bo : Option Addr) (n m ca cb : Nat) (f h : Nat → Int) (w : World) (hn : n ≤ 8796093022208) (hm : m ≤ 8796093022208) (hr : Rd .u64 w ao n f) (hs : Rd .u64 w bo m h) (hf : Lm f n) (hh : Lm h m) (ff : Fm f n) (fh : Fm h m) :
    Calls Tryz.prog 139 #[.agg #[.bool s, .slice ao n ca], .agg #[.bool s, .slice bo m cb]] w fun e w' => ∃ r ao' k cap' f', e = .returned (.agg #[.bool r, .slice ao' k cap']) ∧ WRes (max n m + 1) w w' r ao' k cap' f' ∧ wv r f' k = wv s f n + wv s h m := by
  have HR := hid hr; have HS := hid hs; have HF := hid hf; have HH := hid hh; have FF := hid ff; have FH := hid fh
  clear hr hs hf hh ff fh
  cases s
  all_goals
    go_enter Tryz.func139, Tryz.ntmps139
    go_wp2_with fail
    refine (Add_c ao bo n m ca cb f h _ hn hm (((HR.out.alloc _).alloc _).alloc _) (((HS.out.alloc _).alloc _).alloc _) HF.out HH.out).mono ?_
    rintro e w1 ⟨xa, k, cx, g, er, rfl, hres, hc⟩
    obtain ⟨rfl, hv⟩ : er = 0 ∧ vf g k = vf f n + vf h m := by
      rcases hc with ⟨_, _, h1, h2⟩ | ⟨h1, _⟩
      · exact ⟨h1, h2⟩
      · exact absurd ⟨FF.out, FH.out⟩ h1
    clear hc
    have hk : k ≤ max n m + 1 := hres.le
    obtain ⟨hc1, hf1⟩ := bcell hres.bel
    have hz : w.heap.size + 1 + 1 < w1.heap.size := by have := hres.bel.size; simp at this; omega
    have HRes := hid hres; have HV := hid hv
    clear hres hv
    go_wp2_with fail
    refine (signed_c _ xa k cx _ (by omega)).mono ?_
    rintro e w2 ⟨r, o, rfl, hsg, rfl⟩
    go_wp2
    refine bodyPost_ret (v := .agg #[.bool r, .slice xa k cx]) (by simp [results, Tryz.results139, go_sem, hc1, hz]) rfl ⟨r, xa, k, cx, g, rfl, WRes.mk' hsg ((HRes.out.turned (below_alloc (below_alloc (below_alloc (Below.refl w.heap.size w) _) _) _) ?_).ans (by omega)), ?_⟩
    · exact (((Turned.refl _ _ _).set (by simp; omega) (by simp) _).set (by simp; omega) (by simp) _).alloc _
    · rw [wv_sign hsg]; simp only [wv_false, wv_true, HV.out]; try omega

theorem beq_bool_ne {s t : Bool} (h : (s == t) = false) : s = !t := by cases s <;> cases t <;> simp_all
set_option maxHeartbeats 1000000 in
theorem wadd_diff (s t : Bool) (hst : (s == t) = false) (ao bo : Option Addr) (n m ca cb : Nat) (f h : Nat → Int) (w : World) (hn : n ≤ 8796093022208) (hm : m ≤ 8796093022208) (hr : Rd .u64 w ao n f) (hs : Rd .u64 w bo m h) (hf : Lm f n) (hh : Lm h m) (ff : Fm f n) (fh : Fm h m) :
    Calls Tryz.prog 139 #[.agg #[.bool s, .slice ao n ca], .agg #[.bool t, .slice bo m cb]] w fun e w' => ∃ r ao' k cap' f', e = .returned (.agg #[.bool r, .slice ao' k cap']) ∧ WRes (max n m + 1) w w' r ao' k cap' f' ∧ wv r f' k = wv s f n + wv t h m := by
  have HR := hid hr; have HS := hid hs; have HF := hid hf; have HH := hid hh; have FF := hid ff; have FH := hid fh
  have HST := hid (beq_bool_ne hst)
  clear hr hs hf hh ff fh
  go_enter Tryz.func139, Tryz.ntmps139
  go_wp2_with fail
  refine (Cmp_c ao bo n m ca cb f h _ hn hm (((HR.out.alloc _).alloc _).alloc _) (((HS.out.alloc _).alloc _).alloc _) HF.out HH.out).mono ?_
  rintro e w1 ⟨⟨q, hq⟩, c, er, rfl, hc⟩
  obtain ⟨rfl, ho⟩ : er = 0 ∧ Ord c (vf f n) (vf h m) := by
    rcases hc with ⟨_, _, h1, h2⟩ | ⟨h1, _⟩
    · exact ⟨h1, h2⟩
    · exact absurd ⟨FF.out, FH.out⟩ h1
  clear hc
  have hb := drewN_below hq
  obtain ⟨hc1, hf1⟩ := bcell hb
  have hz : w.heap.size + 1 + 1 < w1.heap.size := by have := hb.size; simp at this; omega
  have x0 : w1.cell? ⟨w.heap.size, 0, none⟩ = some (.bool s) := (hc1 _ _ (by simp; omega)).trans (by simp [go_sem])
  have x1 : w1.cell? ⟨w.heap.size, 1, none⟩ = some (.slice ao n ca) := (hc1 _ _ (by simp; omega)).trans (by simp [go_sem])
  have y0 : w1.cell? ⟨w.heap.size + 1, 0, none⟩ = some (.bool t) := (hc1 _ _ (by simp)).trans (by simp [go_sem])
  have y1 : w1.cell? ⟨w.heap.size + 1, 1, none⟩ = some (.slice bo m cb) := (hc1 _ _ (by simp)).trans (by simp [go_sem])
  have z0 : w1.cell? ⟨w.heap.size + 1 + 1, 0, none⟩ = some (.bool false) := (hc1 _ _ (by simp)).trans (by simp [go_sem])
  have z1 : w1.cell? ⟨w.heap.size + 1 + 1, 1, none⟩ = some (.slice none 0 0) := (hc1 _ _ (by simp)).trans (by simp [go_sem])
  have HO := hid ho
  have hbw : Below w.heap.size w w1 := (below_alloc (below_alloc (below_alloc (Below.refl w.heap.size w) _) _) _).trans (hb.mono (by simp; omega))
  have HBw := hid hbw
  clear ho hq hb hc1 hbw
  by_cases hc0 : c < 0
  · have hlt : vf f n < vf h m := by have := HO.out; unfold Ord at this; omega
    have HLT := hid hlt
    clear hlt
    go_wp2_with fail
    have hb2 := below_turned HBw.out HBw.out.size (((((Turned.refl w.heap.size (w.heap.size + 1 + 1 + 1) w1).set (x := ⟨w.heap.size, 0, none⟩) (by simp) (by simp; omega) (.bool t)).set (x := ⟨w.heap.size, 1, none⟩) (by simp) (by simp; omega) (.slice bo m cb)).set (x := ⟨w.heap.size + 1, 0, none⟩) (by simp) (by simp) (.bool s)).set (x := ⟨w.heap.size + 1, 1, none⟩) (by simp) (by simp) (.slice ao n ca)) (Nat.le_refl _)
    refine (Sub_c bo ao m n cb ca h f _ hm hn (HS.out.below hb2 (Nat.le_refl _)) (HR.out.below hb2 (Nat.le_refl _)) HH.out HF.out).mono ?_
    rintro e w2 ⟨xa, k, cx, g, er, rfl, hres, hc⟩
    obtain ⟨rfl, hv⟩ : er = 0 ∧ vf g k = vf h m - vf f n := by
      rcases hc with ⟨_, _, _, h1, h2⟩ | ⟨_, _, h1, _⟩ | ⟨h1, _⟩
      · exact ⟨h1, h2⟩
      · have := HLT.out; omega
      · exact absurd ⟨FH.out, FF.out⟩ h1
    clear hc
    obtain ⟨hc2, hf2⟩ := bcell hres.bel
    have hz2 : w.heap.size + 1 + 1 < w2.heap.size := by have := hres.bel.size; (try simp at this); omega
    have u0 : w2.cell? ⟨w.heap.size, 0, none⟩ = some (.bool t) := (hc2 _ _ (by simp; omega)).trans (by simp [go_sem, x0])
    have z0 : w2.cell? ⟨w.heap.size + 1 + 1, 0, none⟩ = some (.bool false) := (hc2 _ _ (by simp; omega)).trans (by simp [go_sem, z0])
    have z1 : w2.cell? ⟨w.heap.size + 1 + 1, 1, none⟩ = some (.slice none 0 0) := (hc2 _ _ (by simp; omega)).trans (by simp [go_sem, z1])
    have hk : k ≤ m := hres.le
    have HRes := hid hres; have HV := hid hv; have HB2 := hid hb2
    clear hres hv hb2 hc2
    go_wp2_with fail
    refine (signed_c _ xa k cx _ (by omega)).mono ?_
    rintro e w3 ⟨r, o, rfl, hsg, rfl⟩
    go_wp2
    refine bodyPost_ret (v := .agg #[.bool r, .slice xa k cx]) (by simp [results, Tryz.results139, go_sem, z0, z1, hz2]) rfl ⟨r, xa, k, cx, g, rfl, WRes.mk' hsg (((HRes.out.turned HB2.out ?_).mono (by omega)).ans (by omega)), ?_⟩
    · exact (((Turned.refl _ _ _).set (by first | omega | (simp; done) | (simp; omega)) (by first | omega | (simp; done) | (simp; omega)) _).set (by first | omega | (simp; done) | (simp; omega)) (by first | omega | (simp; done) | (simp; omega)) _).alloc _
    · rw [wv_sign hsg, HST.out]; have := HV.out; cases t <;> simp only [Bool.not_false, Bool.not_true, wv_false, wv_true] <;> omega
  · have hlt : vf h m ≤ vf f n := by have := HO.out; unfold Ord at this; omega
    have HLT := hid hlt
    clear hlt
    go_wp2_with fail
    have hb2 := HBw.out
    refine (Sub_c ao bo n m ca cb f h _ hn hm (HR.out.below hb2 (Nat.le_refl _)) (HS.out.below hb2 (Nat.le_refl _)) HF.out HH.out).mono ?_
    rintro e w2 ⟨xa, k, cx, g, er, rfl, hres, hc⟩
    obtain ⟨rfl, hv⟩ : er = 0 ∧ vf g k = vf f n - vf h m := by
      rcases hc with ⟨_, _, _, h1, h2⟩ | ⟨_, _, h1, _⟩ | ⟨h1, _⟩
      · exact ⟨h1, h2⟩
      · have := HLT.out; omega
      · exact absurd ⟨FF.out, FH.out⟩ h1
    clear hc
    obtain ⟨hc2, hf2⟩ := bcell hres.bel
    have hz2 : w.heap.size + 1 + 1 < w2.heap.size := by have := hres.bel.size; (try simp at this); omega
    have u0 : w2.cell? ⟨w.heap.size, 0, none⟩ = some (.bool s) := (hc2 _ _ (by omega)).trans x0
    have z0 : w2.cell? ⟨w.heap.size + 1 + 1, 0, none⟩ = some (.bool false) := (hc2 _ _ (by omega)).trans z0
    have z1 : w2.cell? ⟨w.heap.size + 1 + 1, 1, none⟩ = some (.slice none 0 0) := (hc2 _ _ (by omega)).trans z1
    have hk : k ≤ n := hres.le
    have HRes := hid hres; have HV := hid hv; have HB2 := hid hb2
    clear hres hv hb2 hc2
    go_wp2_with fail
    refine (signed_c _ xa k cx _ (by omega)).mono ?_
    rintro e w3 ⟨r, o, rfl, hsg, rfl⟩
    go_wp2
    refine bodyPost_ret (v := .agg #[.bool r, .slice xa k cx]) (by simp [results, Tryz.results139, go_sem, z0, z1, hz2]) rfl ⟨r, xa, k, cx, g, rfl, WRes.mk' hsg (((HRes.out.turned HB2.out ?_).mono (by omega)).ans (by omega)), ?_⟩
    · exact (((Turned.refl _ _ _).set (by first | omega | (simp; done) | (simp; omega)) (by first | omega | (simp; done) | (simp; omega)) _).set (by first | omega | (simp; done) | (simp; omega)) (by first | omega | (simp; done) | (simp; omega)) _).alloc _
    · rw [wv_sign hsg, HST.out]; have := HV.out; cases t <;> simp only [Bool.not_false, Bool.not_true, wv_false, wv_true] <;> omega

theorem wadd_c (s t : Bool) (ao bo : Option Addr) (n m ca cb : Nat) (f h : Nat → Int) (w : World) (hn : n ≤ 8796093022208) (hm : m ≤ 8796093022208) (hr : Rd .u64 w ao n f) (hs : Rd .u64 w bo m h) (hf : Lm f n) (hh : Lm h m) (ff : Fm f n) (fh : Fm h m) :
    Calls Tryz.prog 139 #[.agg #[.bool s, .slice ao n ca], .agg #[.bool t, .slice bo m cb]] w fun e w' => ∃ r ao' k cap' f', e = .returned (.agg #[.bool r, .slice ao' k cap']) ∧ WRes (max n m + 1) w w' r ao' k cap' f' ∧ wv r f' k = wv s f n + wv t h m := by
  cases hst : (s == t)
  · exact wadd_diff s t hst ao bo n m ca cb f h w hn hm hr hs hf hh ff fh
  · obtain rfl : s = t := by simpa using hst
    exact wadd_same s ao bo n m ca cb f h w hn hm hr hs hf hh ff fh
end Go.Proofs.YtndiiknbkjlbiaaGreatDoor
namespace Go.Proofs.YtndiiknbkjlbiaaGreatDoor
open Go.RowKit

/-- What a call of two numbers answers. -/
def WAns (P : Prop) (v : Int) (r : Bool) (k : Nat) (f : Nat → Int) (er : Int) : Prop := P ∧ er = 0 ∧ wv r f k = v ∨ ¬ P ∧ er = 3 ∧ k = 0
def W2 (s : Bool) (f : Nat → Int) (n : Nat) (t : Bool) (h : Nat → Int) (m : Nat) : Prop := wfB s f n = true ∧ wfB t h m = true
theorem fm_of_wfB {s : Bool} {f : Nat → Int} {n : Nat} (h : wfB s f n = true) : Fm f n := ((wfB_iff s f n).1 h).1
theorem sgn_of_wfB {s : Bool} {f : Nat → Int} {n : Nat} (h : wfB s f n = true) : s = true → 0 < n := ((wfB_iff s f n).1 h).2
/-- Three boxes laid ahead of a call, as they read behind it. -/
theorem boxes3 {w w1 : World} {a0 a1 b0 b1 c0 c1 : Value} {t : TypeId} (hb : Below (((w.alloc (.cells #[a0, a1] t)).alloc (.cells #[b0, b1] t)).alloc (.cells #[c0, c1] t)).heap.size (((w.alloc (.cells #[a0, a1] t)).alloc (.cells #[b0, b1] t)).alloc (.cells #[c0, c1] t)) w1) :
    (w.heap.size + 1 + 1 < w1.heap.size ∧ w1.cell? ⟨w.heap.size, 0, none⟩ = some a0 ∧ w1.cell? ⟨w.heap.size, 1, none⟩ = some a1 ∧ w1.cell? ⟨w.heap.size + 1, 0, none⟩ = some b0 ∧ w1.cell? ⟨w.heap.size + 1, 1, none⟩ = some b1 ∧ w1.cell? ⟨w.heap.size + 1 + 1, 0, none⟩ = some c0 ∧ w1.cell? ⟨w.heap.size + 1 + 1, 1, none⟩ = some c1) ∧ (∀ o, w1.frozen? ⟨w.heap.size + 1 + 1, o, none⟩ = false) ∧ Below w.heap.size w w1 := by
  obtain ⟨h1, h2⟩ := bcell hb
  have hz := hb.size
  simp at hz
  refine ⟨⟨by omega, (h1 _ _ (by simp; omega)).trans (by simp [go_sem]), (h1 _ _ (by simp; omega)).trans (by simp [go_sem]), (h1 _ _ (by simp)).trans (by simp [go_sem]), (h1 _ _ (by simp)).trans (by simp [go_sem]), (h1 _ _ (by simp)).trans (by simp [go_sem]), (h1 _ _ (by simp)).trans (by simp [go_sem])⟩, fun o => (h2 _ _ (by simp)).trans (by
    have e := heap_alloc_new ((w.alloc (.cells #[a0, a1] t)).alloc (.cells #[b0, b1] t)) (.cells #[c0, c1] t)
    rw [size_alloc1, size_alloc1] at e
    simp only [World.frozen?, e]; simp), ?_⟩
  exact (below_alloc (below_alloc (below_alloc (Below.refl w.heap.size w) _) _) _).trans (hb.mono (by simp; omega))
/-- Cells of three boxes behind a further call. -/
theorem keep3 {w w1 w2 : World} {a0 a1 b0 b1 c0 c1 : Value} (hb : Below w1.heap.size w1 w2) (h : w.heap.size + 1 + 1 < w1.heap.size ∧ w1.cell? ⟨w.heap.size, 0, none⟩ = some a0 ∧ w1.cell? ⟨w.heap.size, 1, none⟩ = some a1 ∧ w1.cell? ⟨w.heap.size + 1, 0, none⟩ = some b0 ∧ w1.cell? ⟨w.heap.size + 1, 1, none⟩ = some b1 ∧ w1.cell? ⟨w.heap.size + 1 + 1, 0, none⟩ = some c0 ∧ w1.cell? ⟨w.heap.size + 1 + 1, 1, none⟩ = some c1) (hf : ∀ o, w1.frozen? ⟨w.heap.size + 1 + 1, o, none⟩ = false) (hw : Below w.heap.size w w1) :
    (w.heap.size + 1 + 1 < w2.heap.size ∧ w2.cell? ⟨w.heap.size, 0, none⟩ = some a0 ∧ w2.cell? ⟨w.heap.size, 1, none⟩ = some a1 ∧ w2.cell? ⟨w.heap.size + 1, 0, none⟩ = some b0 ∧ w2.cell? ⟨w.heap.size + 1, 1, none⟩ = some b1 ∧ w2.cell? ⟨w.heap.size + 1 + 1, 0, none⟩ = some c0 ∧ w2.cell? ⟨w.heap.size + 1 + 1, 1, none⟩ = some c1) ∧ (∀ o, w2.frozen? ⟨w.heap.size + 1 + 1, o, none⟩ = false) ∧ Below w.heap.size w w2 := by
  obtain ⟨h1, h2⟩ := bcell hb
  have hz := hb.size
  obtain ⟨z, a, b, c, d, e, f⟩ := h
  exact ⟨⟨by omega, (h1 _ _ (by omega)).trans a, (h1 _ _ (by omega)).trans b, (h1 _ _ (by omega)).trans c, (h1 _ _ (by omega)).trans d, (h1 _ _ (by omega)).trans e, (h1 _ _ (by omega)).trans f⟩, fun o => (h2 _ _ (by omega)).trans (hf o), hw.trans (hb.mono hw.size)⟩

theorem wv_mul (s t : Bool) (f h g : Nat → Int) (n m k : Nat) (hv : vf g k = vf f n * vf h m) : wv (!(s == t)) g k = wv s f n * wv t h m := by
  cases s <;> cases t <;> simp [wv, hv, Int.neg_mul, Int.mul_neg]

set_option maxHeartbeats 1000000 in
theorem wAdd_c (s t : Bool) (ao bo : Option Addr) (n m ca cb : Nat) (f h : Nat → Int) (w : World) (hn : n ≤ 8796093022208) (hm : m ≤ 8796093022208) (hr : Rd .u64 w ao n f) (hs : Rd .u64 w bo m h) (hf : Lm f n) (hh : Lm h m) :
    Calls Tryz.prog 117 #[.agg #[.bool s, .slice ao n ca], .agg #[.bool t, .slice bo m cb]] w fun e w' => ∃ r ao' k cap' f' er, e = .returned (.tuple #[.agg #[.bool r, .slice ao' k cap'], .int .i64 er]) ∧ WRes (max n m + 1) w w' r ao' k cap' f' ∧ WAns (W2 s f n t h m) (wv s f n + wv t h m) r k f' er := by
  have HR := hid hr; have HS := hid hs; have HF := hid hf; have HH := hid hh
  clear hr hs hf hh
  cases hfa : wfB s f n
  · have c1 := fun W hr' => wForm_c s ao n ca f W (by omega) hr'
    rw [hfa] at c1
    have C1 := hid c1; have HN := hid hfa
    clear c1 hfa
    go_enter Tryz.func117, Tryz.ntmps117
    go_wp2_with fail
    refine (C1.out _ (((HR.out.alloc _).alloc _).alloc _)).mono ?_
    rintro e w1 ⟨rfl, hb⟩
    obtain ⟨⟨hz, x0, x1, y0, y1, z0, z1⟩, zf, hw⟩ := boxes3 hb
    have HB := hid hb; have HW := hid hw
    clear hb hw
    go_wp2
    refine bodyPost_ret (v := .tuple #[.agg #[.bool false, .slice none 0 0], .int .i64 3]) (by simp [results, Tryz.results117, go_sem, z0, z1]) rfl ⟨false, none, 0, 0, f, 3, rfl, ⟨Asw.none f ?_, fun h => by cases h⟩, .inr ⟨fun x => ?_, rfl, rfl⟩⟩
    · exact below_turned HW.out HW.out.size (((Turned.refl _ (w.heap.size + 1 + 1 + 1) _).set (by first | omega | (simp; done) | (simp; omega)) (by first | omega | (simp; done) | (simp; omega)) _).set (by first | omega | (simp; done) | (simp; omega)) (by first | omega | (simp; done) | (simp; omega)) _) (Nat.le_refl _)
    · have := x.1; rw [HN.out] at this; cases this
  · have c1 := fun W hr' => wForm_c s ao n ca f W (by omega) hr'
    rw [hfa] at c1
    have C1 := hid c1; have HA := hid hfa
    clear c1 hfa
    cases hfb : wfB t h m
    · have c2 := fun W hr' => wForm_c t bo m cb h W (by omega) hr'
      rw [hfb] at c2
      have C2 := hid c2; have HN := hid hfb
      clear c2 hfb
      go_enter Tryz.func117, Tryz.ntmps117
      go_wp2_with fail
      refine (C1.out _ (((HR.out.alloc _).alloc _).alloc _)).mono ?_
      rintro e w1 ⟨rfl, hb⟩
      obtain ⟨⟨hz, x0, x1, y0, y1, z0, z1⟩, zf, hw⟩ := boxes3 hb
      have HW := hid hw
      clear hb hw
      go_wp2_with fail
      refine (C2.out _ (HS.out.below HW.out (Nat.le_refl _))).mono ?_
      rintro e w2 ⟨rfl, hb⟩
      obtain ⟨⟨hz, x0, x1, y0, y1, z0, z1⟩, zf, hw⟩ := keep3 hb ⟨hz, x0, x1, y0, y1, z0, z1⟩ zf HW.out
      have HW2 := hid hw
      clear hb hw
      go_wp2
      refine bodyPost_ret (v := .tuple #[.agg #[.bool false, .slice none 0 0], .int .i64 3]) (by simp [results, Tryz.results117, go_sem, z0, z1]) rfl ⟨false, none, 0, 0, f, 3, rfl, ⟨Asw.none f ?_, fun h => by cases h⟩, .inr ⟨fun x => ?_, rfl, rfl⟩⟩
      · exact below_turned HW2.out HW2.out.size (((Turned.refl _ (w.heap.size + 1 + 1 + 1) _).set (by first | omega | (simp; done) | (simp; omega)) (by first | omega | (simp; done) | (simp; omega)) _).set (by first | omega | (simp; done) | (simp; omega)) (by first | omega | (simp; done) | (simp; omega)) _) (Nat.le_refl _)
      · have := x.2; rw [HN.out] at this; cases this
    · have c2 := fun W hr' => wForm_c t bo m cb h W (by omega) hr'
      rw [hfb] at c2
      have C2 := hid c2; have HB := hid hfb
      clear c2 hfb
      go_enter Tryz.func117, Tryz.ntmps117
      go_wp2_with fail
      refine (C1.out _ (((HR.out.alloc _).alloc _).alloc _)).mono ?_
      rintro e w1 ⟨rfl, hb⟩
      obtain ⟨⟨hz, x0, x1, y0, y1, z0, z1⟩, zf, hw⟩ := boxes3 hb
      have HW := hid hw
      clear hb hw
      go_wp2_with fail
      refine (C2.out _ (HS.out.below HW.out (Nat.le_refl _))).mono ?_
      rintro e w2 ⟨rfl, hb⟩
      obtain ⟨⟨hz, x0, x1, y0, y1, z0, z1⟩, zf, hw⟩ := keep3 hb ⟨hz, x0, x1, y0, y1, z0, z1⟩ zf HW.out
      have HW2 := hid hw
      clear hb hw
      go_wp2_with fail
      refine (wadd_c s t ao bo n m ca cb f h _ hn hm (HR.out.below HW2.out (Nat.le_refl _)) (HS.out.below HW2.out (Nat.le_refl _)) HF.out HH.out (fm_of_wfB HA.out) (fm_of_wfB HB.out)).mono ?_
      rintro e w3 ⟨r, xa, k, cx, g, rfl, hres, hv⟩
      obtain ⟨⟨hz, x0, x1, y0, y1, z0, z1⟩, zf, hw⟩ := keep3 hres.res.bel ⟨hz, x0, x1, y0, y1, z0, z1⟩ zf HW2.out
      have HRes := hid hres; have HV := hid hv
      clear hres hv hw
      go_wp2
      refine bodyPost_ret (v := .tuple #[.agg #[.bool r, .slice xa k cx], .int .i64 0]) (by simp [results, Tryz.results117, go_sem, z0, z1]) rfl ⟨r, xa, k, cx, g, 0, rfl, ?_, .inl ⟨⟨HA.out, HB.out⟩, rfl, ?_⟩⟩
      · exact ⟨HRes.out.res.turned HW2.out (((Turned.refl _ _ _).set (by first | omega | (simp; done) | (simp; omega)) (by first | omega | (simp; done) | (simp; omega)) _).set (by first | omega | (simp; done) | (simp; omega)) (by first | omega | (simp; done) | (simp; omega)) _), HRes.out.sgn⟩
      · exact HV.out

set_option maxHeartbeats 1000000 in
theorem wMul_c (s t : Bool) (ao bo : Option Addr) (n m ca cb : Nat) (f h : Nat → Int) (w : World) (hn : n ≤ 1099511627776) (hm : m ≤ 1099511627776) (hca : n ≤ ca) (hcb : m ≤ cb) (hcam : ca ≤ 9223372036854775807) (hcbm : cb ≤ 9223372036854775807) (hr : Rd .u64 w ao n f) (hs : Rd .u64 w bo m h) (hf : Lm f n) (hh : Lm h m) :
    Calls Tryz.prog 63 #[.agg #[.bool s, .slice ao n ca], .agg #[.bool t, .slice bo m cb]] w fun e w' => ∃ r ao' k cap' f' er, e = .returned (.tuple #[.agg #[.bool r, .slice ao' k cap'], .int .i64 er]) ∧ WRes (n + m) w w' r ao' k cap' f' ∧ WAns (W2 s f n t h m) (wv s f n * wv t h m) r k f' er := by
  have HR := hid hr; have HS := hid hs; have HF := hid hf; have HH := hid hh
  clear hr hs hf hh
  cases hfa : wfB s f n
  · have c1 := fun W hr' => wForm_c s ao n ca f W (by omega) hr'
    rw [hfa] at c1
    have C1 := hid c1; have HN := hid hfa
    clear c1 hfa
    go_enter Tryz.func63, Tryz.ntmps63
    go_wp2_with fail
    refine (C1.out _ (((HR.out.alloc _).alloc _).alloc _)).mono ?_
    rintro e w1 ⟨rfl, hb⟩
    obtain ⟨⟨hz, x0, x1, y0, y1, z0, z1⟩, zf, hw⟩ := boxes3 hb
    have HB := hid hb; have HW := hid hw
    clear hb hw
    go_wp2
    refine bodyPost_ret (v := .tuple #[.agg #[.bool false, .slice none 0 0], .int .i64 3]) (by simp [results, Tryz.results63, go_sem, z0, z1]) rfl ⟨false, none, 0, 0, f, 3, rfl, ⟨Asw.none f ?_, fun h => by cases h⟩, .inr ⟨fun x => ?_, rfl, rfl⟩⟩
    · exact below_turned HW.out HW.out.size (((Turned.refl _ (w.heap.size + 1 + 1 + 1) _).set (by first | omega | (simp; done) | (simp; omega)) (by first | omega | (simp; done) | (simp; omega)) _).set (by first | omega | (simp; done) | (simp; omega)) (by first | omega | (simp; done) | (simp; omega)) _) (Nat.le_refl _)
    · have := x.1; rw [HN.out] at this; cases this
  · have c1 := fun W hr' => wForm_c s ao n ca f W (by omega) hr'
    rw [hfa] at c1
    have C1 := hid c1; have HA := hid hfa
    clear c1 hfa
    cases hfb : wfB t h m
    · have c2 := fun W hr' => wForm_c t bo m cb h W (by omega) hr'
      rw [hfb] at c2
      have C2 := hid c2; have HN := hid hfb
      clear c2 hfb
      go_enter Tryz.func63, Tryz.ntmps63
      go_wp2_with fail
      refine (C1.out _ (((HR.out.alloc _).alloc _).alloc _)).mono ?_
      rintro e w1 ⟨rfl, hb⟩
      obtain ⟨⟨hz, x0, x1, y0, y1, z0, z1⟩, zf, hw⟩ := boxes3 hb
      have HW := hid hw
      clear hb hw
      go_wp2_with fail
      refine (C2.out _ (HS.out.below HW.out (Nat.le_refl _))).mono ?_
      rintro e w2 ⟨rfl, hb⟩
      obtain ⟨⟨hz, x0, x1, y0, y1, z0, z1⟩, zf, hw⟩ := keep3 hb ⟨hz, x0, x1, y0, y1, z0, z1⟩ zf HW.out
      have HW2 := hid hw
      clear hb hw
      go_wp2
      refine bodyPost_ret (v := .tuple #[.agg #[.bool false, .slice none 0 0], .int .i64 3]) (by simp [results, Tryz.results63, go_sem, z0, z1]) rfl ⟨false, none, 0, 0, f, 3, rfl, ⟨Asw.none f ?_, fun h => by cases h⟩, .inr ⟨fun x => ?_, rfl, rfl⟩⟩
      · exact below_turned HW2.out HW2.out.size (((Turned.refl _ (w.heap.size + 1 + 1 + 1) _).set (by first | omega | (simp; done) | (simp; omega)) (by first | omega | (simp; done) | (simp; omega)) _).set (by first | omega | (simp; done) | (simp; omega)) (by first | omega | (simp; done) | (simp; omega)) _) (Nat.le_refl _)
      · have := x.2; rw [HN.out] at this; cases this
    · have c2 := fun W hr' => wForm_c t bo m cb h W (by omega) hr'
      rw [hfb] at c2
      have C2 := hid c2; have HB := hid hfb
      clear c2 hfb
      go_enter Tryz.func63, Tryz.ntmps63
      go_wp2_with fail
      refine (C1.out _ (((HR.out.alloc _).alloc _).alloc _)).mono ?_
      rintro e w1 ⟨rfl, hb⟩
      obtain ⟨⟨hz, x0, x1, y0, y1, z0, z1⟩, zf, hw⟩ := boxes3 hb
      have HW := hid hw
      clear hb hw
      go_wp2_with fail
      refine (C2.out _ (HS.out.below HW.out (Nat.le_refl _))).mono ?_
      rintro e w2 ⟨rfl, hb⟩
      obtain ⟨⟨hz, x0, x1, y0, y1, z0, z1⟩, zf, hw⟩ := keep3 hb ⟨hz, x0, x1, y0, y1, z0, z1⟩ zf HW.out
      have HW2 := hid hw
      clear hb hw
      go_wp2_with fail
      refine (Mul_c ao bo n m ca cb f h _ hn hm hca hcb hcam hcbm (HR.out.below HW2.out (Nat.le_refl _)) (HS.out.below HW2.out (Nat.le_refl _)) HF.out HH.out).mono ?_
      rintro e w3 ⟨xa, k, cx, g, er, rfl, hres, hc⟩
      obtain ⟨rfl, hv⟩ : er = 0 ∧ vf g k = vf f n * vf h m := by
        rcases hc with ⟨_, _, h1, h2⟩ | ⟨h1, _⟩
        · exact ⟨h1, h2⟩
        · exact absurd ⟨fm_of_wfB HA.out, fm_of_wfB HB.out⟩ h1
      clear hc
      obtain ⟨⟨hz, x0, x1, y0, y1, z0, z1⟩, zf, hw⟩ := keep3 hres.bel ⟨hz, x0, x1, y0, y1, z0, z1⟩ zf HW2.out
      have hk : k ≤ n + m := hres.le
      have HRes := hid hres; have HV := hid hv
      clear hres hv hw
      go_wp2_with fail
      refine (signed_c _ xa k cx _ (by omega)).mono ?_
      rintro e w4 ⟨r, o, rfl, hsg, rfl⟩
      go_wp2
      refine bodyPost_ret (v := .tuple #[.agg #[.bool r, .slice xa k cx], .int .i64 0]) (by simp [results, Tryz.results63, go_sem, z0, z1, hz]) rfl ⟨r, xa, k, cx, g, 0, rfl, ?_, .inl ⟨⟨HA.out, HB.out⟩, rfl, ?_⟩⟩
      · exact WRes.mk' hsg ((HRes.out.turned HW2.out ((((Turned.refl _ _ _).set (by first | omega | (simp; done) | (simp; omega)) (by first | omega | (simp; done) | (simp; omega)) _).set (by first | omega | (simp; done) | (simp; omega)) (by first | omega | (simp; done) | (simp; omega)) _).alloc _)).ans (by omega))
      · rw [wv_sign hsg]; exact wv_mul s t f h g n m k HV.out

end Go.Proofs.YtndiiknbkjlbiaaGreatDoor
namespace Go.Proofs.YtndiiknbkjlbiaaGreatDoor
open Go.RowKit

def W1 (s : Bool) (f : Nat → Int) (n : Nat) : Prop := wfB s f n = true
/-- Two boxes laid ahead of a call, as they read behind it. -/
theorem boxes2 {w w1 : World} {a0 a1 c0 c1 : Value} {t : TypeId} (hb : Below ((w.alloc (.cells #[a0, a1] t)).alloc (.cells #[c0, c1] t)).heap.size ((w.alloc (.cells #[a0, a1] t)).alloc (.cells #[c0, c1] t)) w1) :
    (w.heap.size + 1 < w1.heap.size ∧ w1.cell? ⟨w.heap.size, 0, none⟩ = some a0 ∧ w1.cell? ⟨w.heap.size, 1, none⟩ = some a1 ∧ w1.cell? ⟨w.heap.size + 1, 0, none⟩ = some c0 ∧ w1.cell? ⟨w.heap.size + 1, 1, none⟩ = some c1) ∧ (∀ o, w1.frozen? ⟨w.heap.size + 1, o, none⟩ = false) ∧ Below w.heap.size w w1 := by
  obtain ⟨h1, h2⟩ := bcell hb
  have hz := hb.size
  simp at hz
  refine ⟨⟨by omega, (h1 _ _ (by simp; omega)).trans (by simp [go_sem]), (h1 _ _ (by simp; omega)).trans (by simp [go_sem]), (h1 _ _ (by simp)).trans (by simp [go_sem]), (h1 _ _ (by simp)).trans (by simp [go_sem])⟩, fun o => (h2 _ _ (by simp)).trans (by
    have e := heap_alloc_new (w.alloc (.cells #[a0, a1] t)) (.cells #[c0, c1] t)
    rw [size_alloc1] at e
    simp only [World.frozen?, e]; simp), ?_⟩
  exact (below_alloc (below_alloc (Below.refl w.heap.size w) _) _).trans (hb.mono (by simp; omega))
/-- Cells of two boxes behind a further call. -/
theorem keep2 {w w1 w2 : World} {a0 a1 c0 c1 : Value} (hb : Below w1.heap.size w1 w2) (h : w.heap.size + 1 < w1.heap.size ∧ w1.cell? ⟨w.heap.size, 0, none⟩ = some a0 ∧ w1.cell? ⟨w.heap.size, 1, none⟩ = some a1 ∧ w1.cell? ⟨w.heap.size + 1, 0, none⟩ = some c0 ∧ w1.cell? ⟨w.heap.size + 1, 1, none⟩ = some c1) (hf : ∀ o, w1.frozen? ⟨w.heap.size + 1, o, none⟩ = false) (hw : Below w.heap.size w w1) :
    (w.heap.size + 1 < w2.heap.size ∧ w2.cell? ⟨w.heap.size, 0, none⟩ = some a0 ∧ w2.cell? ⟨w.heap.size, 1, none⟩ = some a1 ∧ w2.cell? ⟨w.heap.size + 1, 0, none⟩ = some c0 ∧ w2.cell? ⟨w.heap.size + 1, 1, none⟩ = some c1) ∧ (∀ o, w2.frozen? ⟨w.heap.size + 1, o, none⟩ = false) ∧ Below w.heap.size w w2 := by
  obtain ⟨h1, h2⟩ := bcell hb
  have hz := hb.size
  obtain ⟨z, a, b, e, f⟩ := h
  exact ⟨⟨by omega, (h1 _ _ (by omega)).trans a, (h1 _ _ (by omega)).trans b, (h1 _ _ (by omega)).trans e, (h1 _ _ (by omega)).trans f⟩, fun o => (h2 _ _ (by omega)).trans (hf o), hw.trans (hb.mono hw.size)⟩

theorem vf_pos {f : Nat → Int} {n : Nat} (h : Lm f n) (hf : Fm f n) (hn : 0 < n) : 0 < vf f n := by
  have h1 := vf_form_ge h hf hn; have h2 := pw_pos (n - 1); omega
/-- The order of two numbers; c is 0 beside a fault. -/
def WCmp (P : Prop) (a b : Int) (c er : Int) : Prop := P ∧ er = 0 ∧ Ord c a b ∨ ¬ P ∧ er = 3 ∧ c = 0
set_option maxHeartbeats 1000000 in
theorem wCmp_c (s t : Bool) (ao bo : Option Addr) (n m ca cb : Nat) (f h : Nat → Int) (w : World) (hn : n ≤ 8796093022208) (hm : m ≤ 8796093022208) (hr : Rd .u64 w ao n f) (hs : Rd .u64 w bo m h) (hf : Lm f n) (hh : Lm h m) :
    Calls Tryz.prog 65 #[.agg #[.bool s, .slice ao n ca], .agg #[.bool t, .slice bo m cb]] w fun e w' => ∃ c er, e = .returned (.tuple #[.int .i64 c, .int .i64 er]) ∧ Below w.heap.size w w' ∧ WCmp (W2 s f n t h m) (wv s f n) (wv t h m) c er := by
  have HR := hid hr; have HS := hid hs; have HF := hid hf; have HH := hid hh
  clear hr hs hf hh
  cases hfa : wfB s f n
  · have c1 := fun W hr' => wForm_c s ao n ca f W (by omega) hr'
    rw [hfa] at c1
    have C1 := hid c1; have HN := hid hfa
    clear c1 hfa
    go_enter Tryz.func65, Tryz.ntmps65
    go_wp2_with fail
    refine (C1.out _ ((HR.out.alloc _).alloc _)).mono ?_
    rintro e w1 ⟨rfl, hb⟩
    obtain ⟨⟨hz, x0, x1, z0, z1⟩, zf, hw⟩ := boxes2 hb
    have HW := hid hw
    clear hb hw
    go_wp2
    go_ret2
    exact ⟨0, 3, rfl, HW.out, .inr ⟨(fun x => by have := HN.out.symm.trans x.1; cases this), rfl, rfl⟩⟩
  · have c1 := fun W hr' => wForm_c s ao n ca f W (by omega) hr'
    rw [hfa] at c1
    have C1 := hid c1; have HA := hid hfa
    clear c1 hfa
    cases hfb : wfB t h m
    · have c2 := fun W hr' => wForm_c t bo m cb h W (by omega) hr'
      rw [hfb] at c2
      have C2 := hid c2; have HN := hid hfb
      clear c2 hfb
      go_enter Tryz.func65, Tryz.ntmps65
      go_wp2_with fail
      refine (C1.out _ ((HR.out.alloc _).alloc _)).mono ?_
      rintro e w1 ⟨rfl, hb⟩
      obtain ⟨⟨hz, x0, x1, z0, z1⟩, zf, hw⟩ := boxes2 hb
      have HW := hid hw
      clear hb hw
      go_wp2_with fail
      refine (C2.out _ (HS.out.below HW.out (Nat.le_refl _))).mono ?_
      rintro e w2 ⟨rfl, hb⟩
      obtain ⟨⟨hz, x0, x1, z0, z1⟩, zf, hw⟩ := keep2 hb ⟨hz, x0, x1, z0, z1⟩ zf HW.out
      have HW2 := hid hw
      clear hb hw
      go_wp2
      go_ret2
      exact ⟨0, 3, rfl, HW2.out, .inr ⟨(fun x => by have := HN.out.symm.trans x.2; cases this), rfl, rfl⟩⟩
    · have c2 := fun W hr' => wForm_c t bo m cb h W (by omega) hr'
      rw [hfb] at c2
      have C2 := hid c2; have HB := hid hfb
      clear c2 hfb
      cases s <;> cases t
      all_goals
        go_enter Tryz.func65, Tryz.ntmps65
        go_wp2_with fail
        refine (C1.out _ ((HR.out.alloc _).alloc _)).mono ?_
        rintro e w1 ⟨rfl, hb⟩
        obtain ⟨⟨hz, x0, x1, z0, z1⟩, zf, hw⟩ := boxes2 hb
        have HW := hid hw
        clear hb hw
        go_wp2_with fail
        refine (C2.out _ (HS.out.below HW.out (Nat.le_refl _))).mono ?_
        rintro e w2 ⟨rfl, hb⟩
        obtain ⟨⟨hz, x0, x1, z0, z1⟩, zf, hw⟩ := keep2 hb ⟨hz, x0, x1, z0, z1⟩ zf HW.out
        have HW2 := hid hw
        clear hb hw
        go_wp2_with fail
      · refine (Cmp_c ao bo n m ca cb f h _ hn hm (HR.out.below HW2.out (Nat.le_refl _)) (HS.out.below HW2.out (Nat.le_refl _)) HF.out HH.out).mono ?_
        rintro e w3 ⟨⟨q, hq⟩, c, er, rfl, hc⟩
        have HB3 := hid (drewN_below hq); have HC := hid hc
        clear hq hc
        go_wp2
        go_ret2
        refine ⟨c, er, rfl, HW2.out.trans (HB3.out.mono HW2.out.size), ?_⟩
        rcases HC.out with ⟨_, _, h1, h2⟩ | ⟨h1, _⟩
        · exact .inl ⟨⟨HA.out, HB.out⟩, h1, h2⟩
        · exact absurd ⟨fm_of_wfB HA.out, fm_of_wfB HB.out⟩ h1
      · go_ret2
        refine ⟨1, 0, rfl, HW2.out, .inl ⟨⟨HA.out, HB.out⟩, rfl, .inr (.inr ⟨rfl, ?_⟩)⟩⟩
        have h1 := vf_pos HH.out (fm_of_wfB HB.out) (sgn_of_wfB HB.out rfl)
        have h2 := vf_nonneg HF.out
        rw [wv_true, wv_false]; omega
      · go_ret2
        refine ⟨-1, 0, rfl, HW2.out, .inl ⟨⟨HA.out, HB.out⟩, rfl, .inl ⟨rfl, ?_⟩⟩⟩
        have h1 := vf_pos HF.out (fm_of_wfB HA.out) (sgn_of_wfB HA.out rfl)
        have h2 := vf_nonneg HH.out
        rw [wv_true, wv_false]; omega
      · refine (Cmp_c bo ao m n cb ca h f _ hm hn (HS.out.below HW2.out (Nat.le_refl _)) (HR.out.below HW2.out (Nat.le_refl _)) HH.out HF.out).mono ?_
        rintro e w3 ⟨⟨q, hq⟩, c, er, rfl, hc⟩
        have HB3 := hid (drewN_below hq); have HC := hid hc
        clear hq hc
        go_wp2
        go_ret2
        refine ⟨c, er, rfl, HW2.out.trans (HB3.out.mono HW2.out.size), ?_⟩
        rcases HC.out with ⟨_, _, h1, h2⟩ | ⟨h1, _⟩
        · refine .inl ⟨⟨HA.out, HB.out⟩, h1, ?_⟩
          unfold Ord at h2 ⊢; rw [wv_true, wv_true]; omega
        · exact absurd ⟨fm_of_wfB HB.out, fm_of_wfB HA.out⟩ h1

/-- One whole number is answered. -/
def WOne (C : Nat) (w w' : World) (e : Ending) (z : Int) : Prop := ∃ r ao k cap f, e = .returned (.agg #[.bool r, .slice ao k cap]) ∧ WRes C w w' r ao k cap f ∧ wv r f k = z
theorem wrapU (x : Int) : IntKind.u64.wrap x = x % 18446744073709551616 := by simp [IntKind.wrap, IntKind.signed, IntKind.bits]
theorem own_one (w : World) (base g : Nat) (z : Int) (hb : base ≤ w.heap.size) (hg : g = w.heap.size) : Own .u64 83 (w.alloc (.cells #[.int .u64 z] 83)) base (.slice (some ⟨g, 0, none⟩) 1 1) 1 (fun _ => z) := by
  subst hg
  refine own_of_blk (N := 1) ⟨_, heap_alloc_new w _, rfl, fun j hj => ?_⟩ hb (Nat.le_refl _) (by simp [maxLen])
  obtain rfl : j = 0 := by omega
  rfl
set_option maxHeartbeats 1000000 in
theorem wOf_c (z : Int) (w : World) (h0 : -9223372036854775808 ≤ z) (h1 : z ≤ 9223372036854775807) :
    Calls Tryz.prog 38 #[.int .i64 z] w fun e w' => WOne 1 w w' e z := by
  by_cases hz : z = 0
  · subst hz
    go_enter Tryz.func38, Tryz.ntmps38
    go_wp2
    exact bodyPost_ret (v := .agg #[.bool false, .slice none 0 0]) (by simp [results, Tryz.results38, go_sem]) rfl ⟨false, none, 0, 0, fun _ => 0, rfl, ⟨Asw.none _ (below_alloc (Below.refl _ _) _), fun h => by cases h⟩, rfl⟩
  · have hz0 : (z == 0) = false := by simp; omega
    by_cases hneg : z < 0
    · have hW : Hid (IntKind.u64.wrap (-IntKind.u64.wrap z) = -z) := by
        show IntKind.u64.wrap (-IntKind.u64.wrap z) = -z
        simp only [wrapU]; omega
      go_enter Tryz.func38, Tryz.ntmps38
      go_wp2
      rw [hW.out]
      refine bodyPost_ret (v := .agg #[.bool true, .slice (some ⟨w.heap.size + 1, 0, none⟩) 1 1]) (by simp [results, Tryz.results38, go_sem]) rfl ⟨true, _, 1, 1, fun _ => -z, rfl, ⟨⟨below_alloc (below_alloc (Below.refl _ _) _) _, own_one (w.alloc _) w.heap.size _ (-z) (by simp) (by simp), lm_const (x := -z) (by omega) (by omega) 1, .inr (show -z ≠ 0 by omega), Nat.le_refl _⟩, fun _ => by omega⟩, ?_⟩
      rw [wv_true, vf_one]; omega
    · have hW : Hid (IntKind.u64.wrap z = z) := by
        show IntKind.u64.wrap z = z
        simp only [wrapU]; omega
      go_enter Tryz.func38, Tryz.ntmps38
      go_wp2
      (try rw [hW.out])
      refine bodyPost_ret (v := .agg #[.bool false, .slice (some ⟨w.heap.size + 1, 0, none⟩) 1 1]) (by simp [results, Tryz.results38, go_sem]) rfl ⟨false, _, 1, 1, fun _ => z, rfl, ⟨⟨below_alloc (below_alloc (Below.refl _ _) _) _, own_one (w.alloc _) w.heap.size _ z (by simp) (by simp), lm_const (x := z) (by omega) (by omega) 1, .inr (show z ≠ 0 by omega), Nat.le_refl _⟩, fun _ => by omega⟩, ?_⟩
      rw [wv_false, vf_one]
end Go.Proofs.YtndiiknbkjlbiaaGreatDoor
namespace Go.Proofs.YtndiiknbkjlbiaaGreatDoor
open Go.RowKit

theorem Turned.mono {lo hi hi' : Nat} {a b : World} (h : Turned lo hi a b) (hh : hi ≤ hi') : Turned lo hi' a b := ⟨h.os, h.tape, h.output, h.size, fun k hk hn => h.block k hk (by omega)⟩
theorem frozen_alloc_some (w : World) (a : Addr) (o : Obj) (h : (w.cell? a).isSome = true) : (w.alloc o).frozen? a = w.frozen? a := by
  obtain ⟨u, hu⟩ := Option.isSome_iff_exists.1 h
  exact World.frozen?_alloc_old _ _ _ (Nat.ne_of_lt (World.block_lt_of_cell? w a hu))
theorem isSome_setCell (w : World) (p q : Addr) (v : Value) (h : (w.cell? q).isSome = true) : ((w.setCell p v).cell? q).isSome = true := by
  obtain ⟨u, hu⟩ := Option.isSome_iff_exists.1 h
  obtain ⟨u', hu'⟩ := cell?_setCell_some (p := p) (x := v) hu
  rw [hu']; rfl
theorem kCa {w : World} {a : Addr} {v : Value} {o : Obj} (h : w.cell? a = some v) : (w.alloc o).cell? a = some v := (World.cell?_alloc_lt _ _ _ (World.block_lt_of_cell? w a h)).trans h
theorem kCs {w : World} {p a : Addr} {u v : Value} (hb : p.block ≠ a.block) (h : w.cell? a = some u) : (w.setCell p v).cell? a = some u := (World.cell?_setCell_far w p a v hb).trans h
theorem kCd {w : World} {a : Addr} {v : Value} (h : w.cell? a = some v) : w.drew.cell? a = some v := h
theorem kIa {w : World} {a : Addr} {o : Obj} (h : (w.cell? a).isSome = true) : ((w.alloc o).cell? a).isSome = true := by rw [World.cell?_alloc_some w a o h]; exact h
theorem kIs {w : World} {p a : Addr} {v : Value} (h : (w.cell? a).isSome = true) : ((w.setCell p v).cell? a).isSome = true := isSome_setCell w p a v h
theorem kId {w : World} {a : Addr} (h : (w.cell? a).isSome = true) : (w.drew.cell? a).isSome = true := h
theorem kFa {w : World} {a : Addr} {o : Obj} (h : (w.cell? a).isSome = true) (h2 : w.frozen? a = false) : (w.alloc o).frozen? a = false := (frozen_alloc_some w a o h).trans h2
theorem kFs {w : World} {p a : Addr} {v : Value} (h : w.frozen? a = false) : (w.setCell p v).frozen? a = false := by rw [World.frozen?_setCell]; exact h
theorem kFd {w : World} {a : Addr} (h : w.frozen? a = false) : w.drew.frozen? a = false := h
/-- How four boxes read. -/
def B4 (w w1 : World) (a0 a1 b0 b1 c0 c1 d0 d1 : Value) : Prop := w.heap.size + 1 + 1 + 1 < w1.heap.size ∧ w1.cell? ⟨w.heap.size, 0, none⟩ = some a0 ∧ w1.cell? ⟨w.heap.size, 1, none⟩ = some a1 ∧ w1.cell? ⟨w.heap.size + 1, 0, none⟩ = some b0 ∧ w1.cell? ⟨w.heap.size + 1, 1, none⟩ = some b1 ∧ w1.cell? ⟨w.heap.size + 1 + 1, 0, none⟩ = some c0 ∧ w1.cell? ⟨w.heap.size + 1 + 1, 1, none⟩ = some c1 ∧ w1.cell? ⟨w.heap.size + 1 + 1 + 1, 0, none⟩ = some d0 ∧ w1.cell? ⟨w.heap.size + 1 + 1 + 1, 1, none⟩ = some d1 ∧ (∀ o, w1.frozen? ⟨w.heap.size + 1 + 1, o, none⟩ = false) ∧ (∀ o, w1.frozen? ⟨w.heap.size + 1 + 1 + 1, o, none⟩ = false)
theorem boxes4 {w w1 : World} {a0 a1 b0 b1 c0 c1 d0 d1 : Value} {t : TypeId} (hb : Below ((((w.alloc (.cells #[a0, a1] t)).alloc (.cells #[b0, b1] t)).alloc (.cells #[c0, c1] t)).alloc (.cells #[d0, d1] t)).heap.size ((((w.alloc (.cells #[a0, a1] t)).alloc (.cells #[b0, b1] t)).alloc (.cells #[c0, c1] t)).alloc (.cells #[d0, d1] t)) w1) :
    B4 w w1 a0 a1 b0 b1 c0 c1 d0 d1 ∧ Below w.heap.size w w1 := by
  obtain ⟨h1, h2⟩ := bcell hb
  have hz := hb.size
  simp at hz
  refine ⟨⟨by omega, (h1 _ _ (by first | omega | (simp; done) | (simp; omega))).trans (by simp [go_sem]), (h1 _ _ (by first | omega | (simp; done) | (simp; omega))).trans (by simp [go_sem]), (h1 _ _ (by first | omega | (simp; done) | (simp; omega))).trans (by simp [go_sem]), (h1 _ _ (by first | omega | (simp; done) | (simp; omega))).trans (by simp [go_sem]), (h1 _ _ (by simp)).trans (by simp [go_sem]), (h1 _ _ (by simp)).trans (by simp [go_sem]), (h1 _ _ (by simp)).trans (by simp [go_sem]), (h1 _ _ (by simp)).trans (by simp [go_sem]), fun o => (h2 _ _ (by simp)).trans ?_, fun o => (h2 _ _ (by simp)).trans ?_⟩, ?_⟩
  · have e := heap_alloc_new ((w.alloc (.cells #[a0, a1] t)).alloc (.cells #[b0, b1] t)) (.cells #[c0, c1] t)
    rw [size_alloc1, size_alloc1] at e
    have e2 := (Below.heap_alloc (((w.alloc (.cells #[a0, a1] t)).alloc (.cells #[b0, b1] t)).alloc (.cells #[c0, c1] t)) (.cells #[d0, d1] t) (w.heap.size + 1 + 1) (by simp)).trans e
    simp only [World.frozen?, e2]; simp
  · have e := heap_alloc_new (((w.alloc (.cells #[a0, a1] t)).alloc (.cells #[b0, b1] t)).alloc (.cells #[c0, c1] t)) (.cells #[d0, d1] t)
    rw [size_alloc1, size_alloc1, size_alloc1] at e
    simp only [World.frozen?, e]; simp
  exact (below_alloc (below_alloc (below_alloc (below_alloc (Below.refl w.heap.size w) _) _) _) _).trans (hb.mono (by simp; omega))
theorem keep4 {w w1 w2 : World} {a0 a1 b0 b1 c0 c1 d0 d1 : Value} (hb : Below w1.heap.size w1 w2) (h : B4 w w1 a0 a1 b0 b1 c0 c1 d0 d1) (hw : Below w.heap.size w w1) : B4 w w2 a0 a1 b0 b1 c0 c1 d0 d1 ∧ Below w.heap.size w w2 := by
  obtain ⟨h1, h2⟩ := bcell hb
  have hz := hb.size
  obtain ⟨z, a, b, c, d, e, f, g, i, j, k⟩ := h
  exact ⟨⟨by omega, (h1 _ _ (by omega)).trans a, (h1 _ _ (by omega)).trans b, (h1 _ _ (by omega)).trans c, (h1 _ _ (by omega)).trans d, (h1 _ _ (by omega)).trans e, (h1 _ _ (by omega)).trans f, (h1 _ _ (by omega)).trans g, (h1 _ _ (by omega)).trans i, fun o => (h2 _ _ (by omega)).trans (j o), fun o => (h2 _ _ (by omega)).trans (k o)⟩, hw.trans (hb.mono hw.size)⟩

/-- Quotient and rest of whole numbers: the quotient rounded down. -/
def Flr (a b q r : Int) : Prop := a = q * b + r ∧ (0 < b ∧ 0 ≤ r ∧ r < b ∨ b < 0 ∧ b < r ∧ r ≤ 0)
/-- What Divide answers. -/
def WDiv (s t : Bool) (n m : Nat) (f h : Nat → Int) (r1 r2 : Bool) (k1 k2 : Nat) (q r : Nat → Int) (er : Int) : Prop :=
  W2 s f n t h m ∧ 0 < m ∧ er = 0 ∧ Flr (wv s f n) (wv t h m) (wv r1 q k1) (wv r2 r k2) ∨ W2 s f n t h m ∧ m = 0 ∧ er = 4 ∧ k1 = 0 ∧ k2 = 0 ∨ ¬ W2 s f n t h m ∧ er = 3 ∧ k1 = 0 ∧ k2 = 0
theorem flr_plain (s t : Bool) (A B Q R : Int) (h : A = Q * B + R) (h0 : 0 ≤ R) (h1 : R < B) (hs : s = t ∨ R = 0) :
    Flr (if s then -A else A) (if t then -B else B) (if (!(s == t)) then -Q else Q) (if t then -R else R) := by
  subst h
  cases s <;> cases t
  · show Flr (Q * B + R) B Q R
    exact ⟨rfl, .inl ⟨by omega, h0, h1⟩⟩
  · have hR : R = 0 := by simpa using hs
    subst hR
    show Flr (Q * B + 0) (-B) (-Q) (-0)
    exact ⟨by rw [Int.neg_mul_neg]; omega, .inr ⟨by omega, by omega, by omega⟩⟩
  · have hR : R = 0 := by simpa using hs
    subst hR
    show Flr (-(Q * B + 0)) B (-Q) 0
    exact ⟨by rw [Int.neg_mul]; omega, .inl ⟨by omega, by omega, by omega⟩⟩
  · show Flr (-(Q * B + R)) (-B) Q (-R)
    exact ⟨by rw [Int.mul_neg]; omega, .inr ⟨by omega, by omega, by omega⟩⟩
theorem flr_down (s t : Bool) (A B Q R : Int) (h : A = Q * B + R) (h0 : 0 < R) (h1 : R < B) (hs : (s == t) = false) :
    Flr (if s then -A else A) (if t then -B else B) (if (!(s == t)) then -(Q + 1) else (Q + 1)) (if t then -(B - R) else (B - R)) := by
  subst h
  cases s <;> cases t
  · cases hs
  · show Flr (Q * B + R) (-B) (-(Q + 1)) (-(B - R))
    exact ⟨by rw [Int.neg_mul_neg, Int.add_mul]; omega, .inr ⟨by omega, by omega, by omega⟩⟩
  · show Flr (-(Q * B + R)) B (-(Q + 1)) (B - R)
    exact ⟨by rw [Int.neg_mul, Int.add_mul]; omega, .inl ⟨by omega, by omega, by omega⟩⟩
  · cases hs

theorem flr_w {s t b : Bool} {n m k1 k2 : Nat} {f h q r : Nat → Int} (hb : b = !(s == t)) (hv : vf f n = vf q k1 * vf h m + vf r k2) (h0 : 0 ≤ vf r k2) (h1 : vf r k2 < vf h m) (hs : s = t ∨ vf r k2 = 0) : Flr (wv s f n) (wv t h m) (wv b q k1) (wv t r k2) := by
  subst hb
  exact flr_plain s t _ _ _ _ hv h0 h1 hs
theorem flr_w2 {s t b : Bool} {n m k1 k2 k3 k4 : Nat} {f h q r q' r' : Nat → Int} (hb : b = !(s == t)) (hv : vf f n = vf q k1 * vf h m + vf r k2) (h0 : 0 < vf r k2) (h1 : vf r k2 < vf h m) (hs : (s == t) = false) (hq : vf q' k3 = vf q k1 + 1) (hr : vf r' k4 = vf h m - vf r k2) : Flr (wv s f n) (wv t h m) (wv b q' k3) (wv t r' k4) := by
  subst hb
  have := flr_down s t _ _ _ _ hv h0 h1 hs
  rw [← hq, ← hr] at this
  exact this

set_option maxRecDepth 100000 in
set_option maxHeartbeats 20000000 in
theorem wDivide_c (s t : Bool) (ao bo : Option Addr) (n m ca cb : Nat) (f h : Nat → Int) (w : World) (hn : n ≤ 4398046511104) (hm : m ≤ 4398046511104) (hr : Rd .u64 w ao n f) (hs : Rd .u64 w bo m h) (hf : Lm f n) (hh : Lm h m) :
    Calls Tryz.prog 67 #[.agg #[.bool s, .slice ao n ca], .agg #[.bool t, .slice bo m cb]] w fun e w' => ∃ r1 a1 k1 c1 q r2 a2 k2 c2 r er, e = .returned (.tuple #[.agg #[.bool r1, .slice a1 k1 c1], .agg #[.bool r2, .slice a2 k2 c2], .int .i64 er]) ∧ WRes (n + 2) w w' r1 a1 k1 c1 q ∧ WRes (n + m + 1) w w' r2 a2 k2 c2 r ∧ WDiv s t n m f h r1 r2 k1 k2 q r er := by
  have HR := hid hr; have HS := hid hs; have HF := hid hf; have HH := hid hh
  clear hr hs hf hh
  cases hfa : wfB s f n
  · have c1 := fun W hr' => wForm_c s ao n ca f W (by omega) hr'
    rw [hfa] at c1
    have C1 := hid c1; have HN := hid hfa
    clear c1 hfa
    go_enter Tryz.func67, Tryz.ntmps67
    go_wp2_with fail
    refine (C1.out _ ((((HR.out.alloc _).alloc _).alloc _).alloc _)).mono ?_
    rintro e w1 ⟨rfl, hb⟩
    obtain ⟨⟨hz, x0, x1, y0, y1, c0, c1, d0, d1, cf, df⟩, hw⟩ := boxes4 hb
    have HW := hid hw
    clear hb hw
    go_wp2
    refine bodyPost_ret (v := .tuple #[.agg #[.bool false, .slice none 0 0], .agg #[.bool false, .slice none 0 0], .int .i64 3]) (by simp [results, Tryz.results67, go_sem, c0, c1, d0, d1]) rfl ⟨false, none, 0, 0, f, false, none, 0, 0, f, 3, rfl, ⟨Asw.none f ?_, fun h => by cases h⟩, ⟨Asw.none f ?_, fun h => by cases h⟩, .inr (.inr ⟨(fun x => by have := HN.out.symm.trans x.1; cases this), rfl, rfl, rfl⟩)⟩
    all_goals exact below_turned HW.out HW.out.size (((((Turned.refl _ (w.heap.size + 1 + 1 + 1 + 1) _).set (by first | omega | (simp; done) | (simp; omega)) (by first | omega | (simp; done) | (simp; omega)) _).set (by first | omega | (simp; done) | (simp; omega)) (by first | omega | (simp; done) | (simp; omega)) _).set (by first | omega | (simp; done) | (simp; omega)) (by first | omega | (simp; done) | (simp; omega)) _).set (by first | omega | (simp; done) | (simp; omega)) (by first | omega | (simp; done) | (simp; omega)) _) (Nat.le_refl _)
  · have c1 := fun W hr' => wForm_c s ao n ca f W (by omega) hr'
    rw [hfa] at c1
    have C1 := hid c1; have HA := hid hfa
    clear c1 hfa
    cases hfb : wfB t h m
    · have c2 := fun W hr' => wForm_c t bo m cb h W (by omega) hr'
      rw [hfb] at c2
      have C2 := hid c2; have HN := hid hfb
      clear c2 hfb
      go_enter Tryz.func67, Tryz.ntmps67
      go_wp2_with fail
      refine (C1.out _ ((((HR.out.alloc _).alloc _).alloc _).alloc _)).mono ?_
      rintro e w1 ⟨rfl, hb⟩
      obtain ⟨⟨hz, x0, x1, y0, y1, c0, c1, d0, d1, cf, df⟩, hw⟩ := boxes4 hb
      have HW0 := hid hw
      clear hb hw
      go_wp2_with fail
      refine (C2.out _ (HS.out.below HW0.out (Nat.le_refl _))).mono ?_
      rintro e w2 ⟨rfl, hb⟩
      obtain ⟨⟨hz, x0, x1, y0, y1, c0, c1, d0, d1, cf, df⟩, hw⟩ := keep4 hb ⟨hz, x0, x1, y0, y1, c0, c1, d0, d1, cf, df⟩ HW0.out
      have HW := hid hw
      clear hb hw
      go_wp2
      refine bodyPost_ret (v := .tuple #[.agg #[.bool false, .slice none 0 0], .agg #[.bool false, .slice none 0 0], .int .i64 3]) (by simp [results, Tryz.results67, go_sem, c0, c1, d0, d1]) rfl ⟨false, none, 0, 0, f, false, none, 0, 0, f, 3, rfl, ⟨Asw.none f ?_, fun h => by cases h⟩, ⟨Asw.none f ?_, fun h => by cases h⟩, .inr (.inr ⟨(fun x => by have := HN.out.symm.trans x.2; cases this), rfl, rfl, rfl⟩)⟩
      all_goals exact below_turned HW.out HW.out.size (((((Turned.refl _ (w.heap.size + 1 + 1 + 1 + 1) _).set (by first | omega | (simp; done) | (simp; omega)) (by first | omega | (simp; done) | (simp; omega)) _).set (by first | omega | (simp; done) | (simp; omega)) (by first | omega | (simp; done) | (simp; omega)) _).set (by first | omega | (simp; done) | (simp; omega)) (by first | omega | (simp; done) | (simp; omega)) _).set (by first | omega | (simp; done) | (simp; omega)) (by first | omega | (simp; done) | (simp; omega)) _) (Nat.le_refl _)
    · have c2 := fun W hr' => wForm_c t bo m cb h W (by omega) hr'
      rw [hfb] at c2
      have C2 := hid c2; have HB := hid hfb
      clear c2 hfb
      by_cases hm0 : m = 0
      · subst hm0
        go_enter Tryz.func67, Tryz.ntmps67
        go_wp2_with fail
        refine (C1.out _ ((((HR.out.alloc _).alloc _).alloc _).alloc _)).mono ?_
        rintro e w1 ⟨rfl, hb⟩
        obtain ⟨⟨hz, x0, x1, y0, y1, c0, c1, d0, d1, cf, df⟩, hw⟩ := boxes4 hb
        have HW0 := hid hw
        clear hb hw
        go_wp2_with fail
        refine (C2.out _ (HS.out.below HW0.out (Nat.le_refl _))).mono ?_
        rintro e w2 ⟨rfl, hb⟩
        obtain ⟨⟨hz, x0, x1, y0, y1, c0, c1, d0, d1, cf, df⟩, hw⟩ := keep4 hb ⟨hz, x0, x1, y0, y1, c0, c1, d0, d1, cf, df⟩ HW0.out
        have HW := hid hw
        clear hb hw
        go_wp2
        refine bodyPost_ret (v := .tuple #[.agg #[.bool false, .slice none 0 0], .agg #[.bool false, .slice none 0 0], .int .i64 4]) (by simp [results, Tryz.results67, go_sem, c0, c1, d0, d1]) rfl ⟨false, none, 0, 0, f, false, none, 0, 0, f, 4, rfl, ⟨Asw.none f ?_, fun h => by cases h⟩, ⟨Asw.none f ?_, fun h => by cases h⟩, .inr (.inl ⟨⟨HA.out, HB.out⟩, rfl, rfl, rfl, rfl⟩)⟩
        all_goals exact below_turned HW.out HW.out.size (((((Turned.refl _ (w.heap.size + 1 + 1 + 1 + 1) _).set (by first | omega | (simp; done) | (simp; omega)) (by first | omega | (simp; done) | (simp; omega)) _).set (by first | omega | (simp; done) | (simp; omega)) (by first | omega | (simp; done) | (simp; omega)) _).set (by first | omega | (simp; done) | (simp; omega)) (by first | omega | (simp; done) | (simp; omega)) _).set (by first | omega | (simp; done) | (simp; omega)) (by first | omega | (simp; done) | (simp; omega)) _) (Nat.le_refl _)
      · have hmi : ((m : Int) == 0) = false := by simp; omega
        go_enter Tryz.func67, Tryz.ntmps67
        go_wp2_with fail
        refine (C1.out _ ((((HR.out.alloc _).alloc _).alloc _).alloc _)).mono ?_
        rintro e w1 ⟨rfl, hb⟩
        obtain ⟨⟨hz, x0, x1, y0, y1, c0, c1, d0, d1, cf, df⟩, hw⟩ := boxes4 hb
        have HW0 := hid hw
        clear hb hw
        go_wp2_with fail
        refine (C2.out _ (HS.out.below HW0.out (Nat.le_refl _))).mono ?_
        rintro e w2 ⟨rfl, hb⟩
        obtain ⟨⟨hz, x0, x1, y0, y1, c0, c1, d0, d1, cf, df⟩, hw⟩ := keep4 hb ⟨hz, x0, x1, y0, y1, c0, c1, d0, d1, cf, df⟩ HW0.out
        have HW := hid hw
        clear hb hw
        have hzw0 : w.heap.size + 1 + 1 + 1 < w2.heap.size := hz
        go_wp2_with fail
        refine (DivMod_c ao bo n m ca cb f h _ (by omega) (by omega) (HR.out.below HW.out (Nat.le_refl _)) (HS.out.below HW.out (Nat.le_refl _)) HF.out HH.out).mono ?_
        rintro e w3 ⟨a1, k1, e1, q, a2, k2, e2, r, er, rfl, hq, hr, hd⟩
        obtain ⟨rfl, hv, hr0, hr1⟩ : er = 0 ∧ vf f n = vf q k1 * vf h m + vf r k2 ∧ 0 ≤ vf r k2 ∧ vf r k2 < vf h m := by
          rcases hd with ⟨_, _, _, h1, h2, h3, h4⟩ | ⟨_, _, h1, _⟩ | ⟨h1, _⟩
          · exact ⟨h1, h2, h3, h4⟩
          · exact absurd h1 hm0
          · exact absurd ⟨fm_of_wfB HA.out, fm_of_wfB HB.out⟩ h1
        obtain ⟨⟨hz, x0, x1, y0, y1, c0, c1, d0, d1, cf, df⟩, hw⟩ := keep4 hq.bel ⟨hz, x0, x1, y0, y1, c0, c1, d0, d1, cf, df⟩ HW.out
        have hk1 : k1 ≤ n := hq.le
        have hk2 : k2 ≤ n + 1 := hr.le
        have HQ := hid hq; have HRr := hid hr; have HV := hid hv; have HR0 := hid hr0; have HR1 := hid hr1; have HW3 := hid hw
        clear hq hr hv hr0 hr1 hw hd
        cases hst : (s == t)
        · by_cases hk0 : k2 = 0
          · subst hk0
            have hnst : Hid (s = t ∨ vf r 0 = 0) := .inr rfl
            have CQ : Hid (∀ (b : Bool) (W : World), Calls Tryz.prog 99 #[.bool b, .slice a1 k1 e1] W fun e w' => ∃ r o, e = .returned (.agg #[.bool r, .slice a1 k1 e1]) ∧ Hid (r = (b && decide (0 < k1))) ∧ w' = W.alloc o) := fun b W => signed_c b a1 k1 e1 W (by omega)
            have CR : Hid (∀ (b : Bool) (W : World), Calls Tryz.prog 99 #[.bool b, .slice a2 0 e2] W fun e w' => ∃ r o, e = .returned (.agg #[.bool r, .slice a2 0 e2]) ∧ Hid (r = (b && decide (0 < 0))) ∧ w' = W.alloc o) := fun b W => signed_c b a2 0 e2 W (by omega)
            have ic0 : (w3.cell? ⟨w.heap.size + 1 + 1, 0, none⟩).isSome = true := by rw [c0]; rfl
            have ic1 : (w3.cell? ⟨w.heap.size + 1 + 1, 1, none⟩).isSome = true := by rw [c1]; rfl
            have id0 : (w3.cell? ⟨w.heap.size + 1 + 1 + 1, 0, none⟩).isSome = true := by rw [d0]; rfl
            have id1 : (w3.cell? ⟨w.heap.size + 1 + 1 + 1, 1, none⟩).isSome = true := by rw [d1]; rfl
            have hz0 : w.heap.size < w3.heap.size := by omega
            have hz1 : w.heap.size + 1 < w3.heap.size := by omega
            have hz2 : w.heap.size + 1 + 1 < w3.heap.size := by omega
            have hz3 : w.heap.size + 1 + 1 < w3.heap.size + 1 := by omega
            have hz4 : w.heap.size + 1 + 1 + 1 < w3.heap.size + 1 := by omega
            go_wp2
            go_region_held3 (fun w' => w'.cell? ⟨w.heap.size, 0, none⟩ = some (.bool s) ∧ w'.cell? ⟨w.heap.size + 1, 0, none⟩ = some (.bool t) ∧ (w'.cell? ⟨w.heap.size + 1 + 1, 0, none⟩).isSome = true ∧ (w'.cell? ⟨w.heap.size + 1 + 1, 1, none⟩).isSome = true ∧ (w'.cell? ⟨w.heap.size + 1 + 1 + 1, 0, none⟩).isSome = true ∧ (w'.cell? ⟨w.heap.size + 1 + 1 + 1, 1, none⟩).isSome = true ∧ w'.frozen? ⟨w.heap.size + 1 + 1, 0, none⟩ = false ∧ w'.frozen? ⟨w.heap.size + 1 + 1, 1, none⟩ = false ∧ w'.frozen? ⟨w.heap.size + 1 + 1 + 1, 0, none⟩ = false ∧ w'.frozen? ⟨w.heap.size + 1 + 1 + 1, 1, none⟩ = false) (refine ⟨?_, ?_, ?_, ?_, ?_, ?_, ?_, ?_, ?_, ?_⟩ <;> repeat (with_reducible first | assumption | exact cf _ | exact df _ | refine kCd ?_ | refine kId ?_ | refine kFd ?_ | refine kCa ?_ | refine kIa ?_ | refine kFa ?_ ?_ | refine kCs (by simp only [ne_eq]; omega) ?_ | refine kIs ?_ | refine kFs ?_)) (first | (go_at_call 99; with_reducible refine (CQ.out _ _).mono ?_; rintro e w8 ⟨s1, o1, rfl, hs1, rfl⟩) | (go_at_call 99; with_reducible refine (CR.out _ _).mono ?_; rintro e w9 ⟨s2, o2, rfl, hs2, rfl⟩))
            all_goals
              go_wp2
              refine bodyPost_ret (v := .tuple #[.agg #[.bool s1, .slice a1 k1 e1], .agg #[.bool s2, .slice a2 0 e2], .int .i64 0]) (by simp [results, Tryz.results67, go_sem, c0, c1, d0, d1, hz2, hz, hz3, hz4]) rfl ⟨s1, a1, k1, e1, q, s2, a2, 0, e2, r, 0, rfl, WRes.mk' hs1 (((HQ.out.turned HW.out (by repeat (with_reducible first | exact Turned.refl _ _ _ | refine Turned.drew ?_ | refine Turned.alloc ?_ _ | refine Turned.set ?_ (by first | omega | (simp; done) | (simp; omega)) (by first | omega | (simp; done) | (simp; omega)) _))).mono (by omega)).ans (by omega)), WRes.mk' hs2 (((HRr.out.turned HW.out (by repeat (with_reducible first | exact Turned.refl _ _ _ | refine Turned.drew ?_ | refine Turned.alloc ?_ _ | refine Turned.set ?_ (by first | omega | (simp; done) | (simp; omega)) (by first | omega | (simp; done) | (simp; omega)) _))).mono (by omega)).ans (by omega)), .inl ⟨⟨HA.out, HB.out⟩, by omega, rfl, ?_⟩⟩
              rw [wv_sign hs1, wv_sign hs2]
              exact flr_w (by rw [hst]; rfl) HV.out HR0.out HR1.out hnst.out

          · have hkd : decide ((0 : Int) < (k2 : Int)) = true := by simp; omega
            have HRp := hid (vf_pos HRr.out.lm HRr.out.fm (show 0 < k2 by omega))
            have HQa := hid (HQ.out.rd.alloc (.cells #[.int .u64 1] 83))
            go_wp2_with fail
            refine (Add_c a1 (some ⟨w3.heap.size, 0, none⟩) k1 1 e1 1 q (fun _ => 1) _ (by omega) (by omega) HQa.out (rd_new1 _ _ _) HQ.out.lm (lm_const (by omega) (by omega) 1)).mono ?_
            rintro e w4 ⟨a3, k3, e3, q', er, rfl, hq', hc⟩
            obtain ⟨rfl, hv'⟩ : er = 0 ∧ vf q' k3 = vf q k1 + 1 := by
              rcases hc with ⟨_, _, h1, h2⟩ | ⟨h1, _⟩
              · exact ⟨h1, by rw [h2, vf_one]⟩
              · exact absurd ⟨HQ.out.fm, .inr (by decide)⟩ h1
            clear hc
            have hb4 : Below w3.heap.size w3 w4 := (below_alloc (Below.refl _ _) _).trans (hq'.bel.mono (by simp))
            obtain ⟨⟨hz, x0, x1, y0, y1, c0, c1, d0, d1, cf, df⟩, hw⟩ := keep4 hb4 ⟨hz, x0, x1, y0, y1, c0, c1, d0, d1, cf, df⟩ HW3.out
            have hk3 : k3 ≤ max k1 1 + 1 := hq'.le
            have HQ' := hid hq'; have HV' := hid hv'; have HW4 := hid hw; have HRd4 := hid (HRr.out.rd.below hb4 (Nat.le_refl _)); have hzw4 : w.heap.size + 1 + 1 + 1 < w4.heap.size := hz
            clear hq' hv' hw hb4
            go_wp2_with fail
            refine (Sub_c bo a2 m k2 cb e2 h r _ (by omega) (by omega) (HS.out.below HW4.out (Nat.le_refl _)) HRd4.out HH.out HRr.out.lm).mono ?_
            rintro e w5 ⟨a4, k4, e4, r', er, rfl, hr', hc⟩
            obtain ⟨rfl, hv''⟩ : er = 0 ∧ vf r' k4 = vf h m - vf r k2 := by
              rcases hc with ⟨_, _, _, h1, h2⟩ | ⟨_, _, h1, _⟩ | ⟨h1, _⟩
              · exact ⟨h1, h2⟩
              · have := HR1.out; omega
              · exact absurd ⟨fm_of_wfB HB.out, HRr.out.fm⟩ h1
            clear hc
            obtain ⟨⟨hz, x0, x1, y0, y1, c0, c1, d0, d1, cf, df⟩, hw⟩ := keep4 hr'.bel ⟨hz, x0, x1, y0, y1, c0, c1, d0, d1, cf, df⟩ HW4.out
            have hk4 : k4 ≤ m := hr'.le
            have HR' := hid hr'; have HV'' := hid hv''; have HQ'' := hid (HQ'.out.later hr'.bel)
            have hzw3 : w.heap.size + 1 + 1 + 1 < (w3.alloc (.cells #[.int .u64 1] 83)).heap.size := by simp; omega
            clear hr' hv'' hw
            have CQ : Hid (∀ (b : Bool) (W : World), Calls Tryz.prog 99 #[.bool b, .slice a3 k3 e3] W fun e w' => ∃ r o, e = .returned (.agg #[.bool r, .slice a3 k3 e3]) ∧ Hid (r = (b && decide (0 < k3))) ∧ w' = W.alloc o) := fun b W => signed_c b a3 k3 e3 W (by omega)
            have CR : Hid (∀ (b : Bool) (W : World), Calls Tryz.prog 99 #[.bool b, .slice a4 k4 e4] W fun e w' => ∃ r o, e = .returned (.agg #[.bool r, .slice a4 k4 e4]) ∧ Hid (r = (b && decide (0 < k4))) ∧ w' = W.alloc o) := fun b W => signed_c b a4 k4 e4 W (by omega)
            have ic0 : (w5.cell? ⟨w.heap.size + 1 + 1, 0, none⟩).isSome = true := by rw [c0]; rfl
            have ic1 : (w5.cell? ⟨w.heap.size + 1 + 1, 1, none⟩).isSome = true := by rw [c1]; rfl
            have id0 : (w5.cell? ⟨w.heap.size + 1 + 1 + 1, 0, none⟩).isSome = true := by rw [d0]; rfl
            have id1 : (w5.cell? ⟨w.heap.size + 1 + 1 + 1, 1, none⟩).isSome = true := by rw [d1]; rfl
            have hz0 : w.heap.size < w5.heap.size := by omega
            have hz1 : w.heap.size + 1 < w5.heap.size := by omega
            have hz2 : w.heap.size + 1 + 1 < w5.heap.size := by omega
            have hz3 : w.heap.size + 1 + 1 < w5.heap.size + 1 := by omega
            have hz4 : w.heap.size + 1 + 1 + 1 < w5.heap.size + 1 := by omega
            go_wp2
            go_region_held3 (fun w' => w'.cell? ⟨w.heap.size, 0, none⟩ = some (.bool s) ∧ w'.cell? ⟨w.heap.size + 1, 0, none⟩ = some (.bool t) ∧ (w'.cell? ⟨w.heap.size + 1 + 1, 0, none⟩).isSome = true ∧ (w'.cell? ⟨w.heap.size + 1 + 1, 1, none⟩).isSome = true ∧ (w'.cell? ⟨w.heap.size + 1 + 1 + 1, 0, none⟩).isSome = true ∧ (w'.cell? ⟨w.heap.size + 1 + 1 + 1, 1, none⟩).isSome = true ∧ w'.frozen? ⟨w.heap.size + 1 + 1, 0, none⟩ = false ∧ w'.frozen? ⟨w.heap.size + 1 + 1, 1, none⟩ = false ∧ w'.frozen? ⟨w.heap.size + 1 + 1 + 1, 0, none⟩ = false ∧ w'.frozen? ⟨w.heap.size + 1 + 1 + 1, 1, none⟩ = false) (refine ⟨?_, ?_, ?_, ?_, ?_, ?_, ?_, ?_, ?_, ?_⟩ <;> repeat (with_reducible first | assumption | exact cf _ | exact df _ | refine kCd ?_ | refine kId ?_ | refine kFd ?_ | refine kCa ?_ | refine kIa ?_ | refine kFa ?_ ?_ | refine kCs (by simp only [ne_eq]; omega) ?_ | refine kIs ?_ | refine kFs ?_)) (first | (go_at_call 99; with_reducible refine (CQ.out _ _).mono ?_; rintro e w8 ⟨s1, o1, rfl, hs1, rfl⟩) | (go_at_call 99; with_reducible refine (CR.out _ _).mono ?_; rintro e w9 ⟨s2, o2, rfl, hs2, rfl⟩))
            all_goals
              go_wp2
              refine bodyPost_ret (v := .tuple #[.agg #[.bool s1, .slice a3 k3 e3], .agg #[.bool s2, .slice a4 k4 e4], .int .i64 0]) (by simp [results, Tryz.results67, go_sem, c0, c1, d0, d1, hz2, hz, hz3, hz4]) rfl ⟨s1, a3, k3, e3, q', s2, a4, k4, e4, r', 0, rfl, WRes.mk' hs1 (((HQ''.out.turned (below_alloc HW3.out _) (by repeat (with_reducible first | exact Turned.refl _ _ _ | refine Turned.drew ?_ | refine Turned.alloc ?_ _ | refine Turned.set ?_ (by first | omega | (simp; done) | (simp; omega)) (by first | omega | (simp; done) | (simp; omega)) _))).mono (by omega)).ans (by omega)), WRes.mk' hs2 (((HR'.out.turned HW4.out (by repeat (with_reducible first | exact Turned.refl _ _ _ | refine Turned.drew ?_ | refine Turned.alloc ?_ _ | refine Turned.set ?_ (by first | omega | (simp; done) | (simp; omega)) (by first | omega | (simp; done) | (simp; omega)) _))).mono (by omega)).ans (by omega)), .inl ⟨⟨HA.out, HB.out⟩, by omega, rfl, ?_⟩⟩
              rw [wv_sign hs1, wv_sign hs2]
              exact flr_w2 (by rw [hst]; rfl) HV.out HRp.out HR1.out hst HV'.out HV''.out

        · obtain rfl : s = t := by simpa using hst
          have hnst : Hid (s = s ∨ vf r k2 = 0) := .inl rfl
          clear hst
          have CQ : Hid (∀ (b : Bool) (W : World), Calls Tryz.prog 99 #[.bool b, .slice a1 k1 e1] W fun e w' => ∃ r o, e = .returned (.agg #[.bool r, .slice a1 k1 e1]) ∧ Hid (r = (b && decide (0 < k1))) ∧ w' = W.alloc o) := fun b W => signed_c b a1 k1 e1 W (by omega)
          have CR : Hid (∀ (b : Bool) (W : World), Calls Tryz.prog 99 #[.bool b, .slice a2 k2 e2] W fun e w' => ∃ r o, e = .returned (.agg #[.bool r, .slice a2 k2 e2]) ∧ Hid (r = (b && decide (0 < k2))) ∧ w' = W.alloc o) := fun b W => signed_c b a2 k2 e2 W (by omega)
          have ic0 : (w3.cell? ⟨w.heap.size + 1 + 1, 0, none⟩).isSome = true := by rw [c0]; rfl
          have ic1 : (w3.cell? ⟨w.heap.size + 1 + 1, 1, none⟩).isSome = true := by rw [c1]; rfl
          have id0 : (w3.cell? ⟨w.heap.size + 1 + 1 + 1, 0, none⟩).isSome = true := by rw [d0]; rfl
          have id1 : (w3.cell? ⟨w.heap.size + 1 + 1 + 1, 1, none⟩).isSome = true := by rw [d1]; rfl
          have hz0 : w.heap.size < w3.heap.size := by omega
          have hz1 : w.heap.size + 1 < w3.heap.size := by omega
          have hz2 : w.heap.size + 1 + 1 < w3.heap.size := by omega
          have hz3 : w.heap.size + 1 + 1 < w3.heap.size + 1 := by omega
          have hz4 : w.heap.size + 1 + 1 + 1 < w3.heap.size + 1 := by omega
          go_wp2
          go_region_held3 (fun w' => w'.cell? ⟨w.heap.size, 0, none⟩ = some (.bool s) ∧ w'.cell? ⟨w.heap.size + 1, 0, none⟩ = some (.bool s) ∧ (w'.cell? ⟨w.heap.size + 1 + 1, 0, none⟩).isSome = true ∧ (w'.cell? ⟨w.heap.size + 1 + 1, 1, none⟩).isSome = true ∧ (w'.cell? ⟨w.heap.size + 1 + 1 + 1, 0, none⟩).isSome = true ∧ (w'.cell? ⟨w.heap.size + 1 + 1 + 1, 1, none⟩).isSome = true ∧ w'.frozen? ⟨w.heap.size + 1 + 1, 0, none⟩ = false ∧ w'.frozen? ⟨w.heap.size + 1 + 1, 1, none⟩ = false ∧ w'.frozen? ⟨w.heap.size + 1 + 1 + 1, 0, none⟩ = false ∧ w'.frozen? ⟨w.heap.size + 1 + 1 + 1, 1, none⟩ = false) (refine ⟨?_, ?_, ?_, ?_, ?_, ?_, ?_, ?_, ?_, ?_⟩ <;> repeat (with_reducible first | assumption | exact cf _ | exact df _ | refine kCd ?_ | refine kId ?_ | refine kFd ?_ | refine kCa ?_ | refine kIa ?_ | refine kFa ?_ ?_ | refine kCs (by simp only [ne_eq]; omega) ?_ | refine kIs ?_ | refine kFs ?_)) (first | (go_at_call 99; with_reducible refine (CQ.out _ _).mono ?_; rintro e w8 ⟨s1, o1, rfl, hs1, rfl⟩) | (go_at_call 99; with_reducible refine (CR.out _ _).mono ?_; rintro e w9 ⟨s2, o2, rfl, hs2, rfl⟩))
          all_goals
            go_wp2
            refine bodyPost_ret (v := .tuple #[.agg #[.bool s1, .slice a1 k1 e1], .agg #[.bool s2, .slice a2 k2 e2], .int .i64 0]) (by simp [results, Tryz.results67, go_sem, c0, c1, d0, d1, hz2, hz, hz3, hz4]) rfl ⟨s1, a1, k1, e1, q, s2, a2, k2, e2, r, 0, rfl, WRes.mk' hs1 (((HQ.out.turned HW.out (by repeat (with_reducible first | exact Turned.refl _ _ _ | refine Turned.drew ?_ | refine Turned.alloc ?_ _ | refine Turned.set ?_ (by first | omega | (simp; done) | (simp; omega)) (by first | omega | (simp; done) | (simp; omega)) _))).mono (by omega)).ans (by omega)), WRes.mk' hs2 (((HRr.out.turned HW.out (by repeat (with_reducible first | exact Turned.refl _ _ _ | refine Turned.drew ?_ | refine Turned.alloc ?_ _ | refine Turned.set ?_ (by first | omega | (simp; done) | (simp; omega)) (by first | omega | (simp; done) | (simp; omega)) _))).mono (by omega)).ans (by omega)), .inl ⟨⟨HA.out, HB.out⟩, by omega, rfl, ?_⟩⟩
            rw [wv_sign hs1, wv_sign hs2]
            exact flr_w (by simp) HV.out HR0.out HR1.out (.inl rfl)
end Go.Proofs.YtndiiknbkjlbiaaGreatDoor
namespace Go.Proofs.YtndiiknbkjlbiaaGreatDoor
open Go.RowKit

/-- What Same answers. -/
def SameAns (b s t : Bool) (n m : Nat) (f g : Nat → Int) : Prop := b = true ↔ s = t ∧ Alk n m f g
theorem wSame_c (s t : Bool) (ao bo : Option Addr) (n m ca cb : Nat) (f g : Nat → Int) (w : World) (hm : n ≤ 140737488355328) (hm' : m ≤ 140737488355328) (hr : Rd .u64 w ao n f) (hs : Rd .u64 w bo m g) :
    Calls Tryz.prog 25 #[.agg #[.bool s, .slice ao n ca], .agg #[.bool t, .slice bo m cb]] w fun e w' => ∃ b, e = .returned (.bool b) ∧ Below w.heap.size w w' ∧ SameAns b s t n m f g := by
  have HR := hid hr; have HS := hid hs
  clear hr hs
  cases hst : (s == t)
  · have HN := hid (show s ≠ t by intro h; subst h; simp at hst)
    go_enter Tryz.func25, Tryz.ntmps25
    go_wp2
    go_ret
    exact ⟨false, rfl, below_alloc (below_alloc (Below.refl _ _) _) _, ⟨(fun h => by cases h), fun h => absurd h.1 HN.out⟩⟩
  · obtain rfl : s = t := by simpa using hst
    go_enter Tryz.func25, Tryz.ntmps25
    go_wp2_with fail
    refine (same_c ao bo n m ca cb f g _ hm hm' ((HR.out.alloc _).alloc _) ((HS.out.alloc _).alloc _)).mono ?_
    rintro e w1 ⟨⟨q, hq⟩, b, rfl, hb⟩
    have HB := hid hb; have HQ := hid (drewN_below hq)
    clear hb hq
    go_wp2
    go_ret
    exact ⟨b, rfl, (below_alloc (below_alloc (Below.refl w.heap.size w) _) _).trans (HQ.out.mono (by simp; omega)), ⟨fun h => ⟨rfl, HB.out.1 h⟩, fun h => HB.out.2 h.2⟩⟩

/-- One whole number has one form. -/
theorem wv_inj {s t : Bool} {n m : Nat} {f g : Nat → Int} (hf : Lm f n) (hg : Lm g m) (wf : wfB s f n = true) (wg : wfB t g m = true) (hv : wv s f n = wv t g m) : s = t ∧ Alk n m f g := by
  have h1 := vf_nonneg hf; have h2 := vf_nonneg hg
  have f1 := fm_of_wfB wf; have f2 := fm_of_wfB wg
  have p1 : s = true → 0 < vf f n := fun h => vf_pos hf f1 (sgn_of_wfB wf h)
  have p2 : t = true → 0 < vf g m := fun h => vf_pos hg f2 (sgn_of_wfB wg h)
  cases s <;> cases t <;> simp only [wv_false, wv_true] at hv
  · exact ⟨rfl, vf_inj hf hg f1 f2 hv⟩
  · have := p2 rfl; omega
  · have := p1 rfl; omega
  · exact ⟨rfl, vf_inj hf hg f1 f2 (by omega)⟩
theorem wSame_true (s t : Bool) (ao bo : Option Addr) (n m ca cb : Nat) (f g : Nat → Int) (w : World) (hm : n ≤ 140737488355328) (hm' : m ≤ 140737488355328) (hr : Rd .u64 w ao n f) (hs : Rd .u64 w bo m g) (hf : Lm f n) (hg : Lm g m) (wf : wfB s f n = true) (wg : wfB t g m = true) (hv : wv s f n = wv t g m) :
    Calls Tryz.prog 25 #[.agg #[.bool s, .slice ao n ca], .agg #[.bool t, .slice bo m cb]] w fun e w' => e = .returned (.bool true) ∧ Below w.heap.size w w' := by
  refine (wSame_c s t ao bo n m ca cb f g w hm hm' hr hs).mono ?_
  rintro e w' ⟨b, rfl, hb, hiff⟩
  obtain rfl : b = true := hiff.2 (wv_inj hf hg wf wg hv)
  exact ⟨rfl, hb⟩

set_option maxHeartbeats 1000000 in
/-- Word: the digits of a limb. -/
theorem word2_c (x : Int) (w : World) (x0 : 0 ≤ x) (x1 : x < 18446744073709551616) :
    Calls Tryz.prog 84 #[.int .u64 x] w fun e w' => ∃ k cap, e = .returned (.slice (some ⟨w.heap.size, 0, none⟩) k cap) ∧ Below w.heap.size w w' ∧ k ≤ 2 ∧ Rd .u64 w' (some ⟨w.heap.size, 0, none⟩) k (two32 x) ∧ Dg (two32 x) k ∧ Fm (two32 x) k ∧ vd (two32 x) k = x := by
  have hr := rd_new2 w 83 x
  have HR := hid hr
  clear hr
  go_enter Tryz.func84, Tryz.ntmps84
  go_wp2_with fail
  refine (low_c (some ⟨w.heap.size, 0, none⟩) 2 2 (two32 x) _ (by omega) (by omega) HR.out (fun h => by cases h)).mono ?_
  rintro e w1 ⟨rfl, k, hk, hz, hfm, rfl⟩
  have hdg : Dg (two32 x) k := fun j hj => by
    unfold two32
    split <;> omega
  have hv2 : vd (two32 x) 2 = x := by simp [vd, pd, two32]; omega
  have hv : vd (two32 x) k = x := (vd_ext hk hz).symm.trans hv2
  have HD := hid hdg; have HF := hid hfm; have HV := hid hv; have HRk := hid (HR.out.take hk)
  clear hdg hfm hv hv2 hz
  go_wp2
  go_ret
  exact ⟨k, 2, rfl, below_alloc (Below.refl _ _) _, hk, HRk.out, HD.out, HF.out, HV.out⟩

/-- A whole number of the reference: sign and digits. -/
structure ZRes (C : Nat) (w w' : World) (s : Bool) (ao : Option Addr) (n : Nat) (d : Nat → Int) (z : Int) : Prop where
  bel : Below w.heap.size w w'
  rd : Rd .u64 w' ao n d
  dg : Dg d n
  fm : Fm d n
  le : n ≤ C
  sgn : s = true → 0 < n
  val : (if s then - vd d n else vd d n) = z
  nil : ao = none → n = 0
def ZOne (C : Nat) (w w' : World) (e : Ending) (z : Int) : Prop := ∃ s ao n cap d, e = .returned (.agg #[.bool s, .slice ao n cap]) ∧ ZRes C w w' s ao n d z

theorem Rd.turned {k w w' ao n f} {lo hi : Nat} (h : Rd k w ao n f) (ht : Turned lo hi w w') (hu : ∀ a, ao = some a → a.block < lo ∨ hi ≤ a.block) : Rd k w' ao n f := fun j hj => by
  obtain ⟨b, o, e, hc⟩ := h j hj
  exact ⟨b, o, e, (World.cell?_of_block (ht.block b (World.block_lt_of_cell? w _ hc) (hu _ e))).trans hc⟩
/-- One box laid ahead of a call, as it reads behind it. -/
theorem boxes1 {w w1 : World} {c0 c1 : Value} {t : TypeId} (hb : Below (w.alloc (.cells #[c0, c1] t)).heap.size (w.alloc (.cells #[c0, c1] t)) w1) :
    (w.heap.size < w1.heap.size ∧ w1.cell? ⟨w.heap.size, 0, none⟩ = some c0 ∧ w1.cell? ⟨w.heap.size, 1, none⟩ = some c1) ∧ (∀ o, w1.frozen? ⟨w.heap.size, o, none⟩ = false) ∧ Below w.heap.size w w1 := by
  obtain ⟨h1, h2⟩ := bcell hb
  have hz := hb.size
  simp at hz
  refine ⟨⟨by omega, (h1 _ _ (by simp)).trans (by simp [go_sem]), (h1 _ _ (by simp)).trans (by simp [go_sem])⟩, fun o => (h2 _ _ (by simp)).trans (by
    have e := heap_alloc_new w (.cells #[c0, c1] t)
    simp only [World.frozen?, e]; simp), ?_⟩
  exact (below_alloc (Below.refl w.heap.size w) _).trans (hb.mono (by simp))
theorem keep1 {w w1 w2 : World} {c0 c1 : Value} (hb : Below w1.heap.size w1 w2) (h : w.heap.size < w1.heap.size ∧ w1.cell? ⟨w.heap.size, 0, none⟩ = some c0 ∧ w1.cell? ⟨w.heap.size, 1, none⟩ = some c1) (hf : ∀ o, w1.frozen? ⟨w.heap.size, o, none⟩ = false) (hw : Below w.heap.size w w1) :
    (w.heap.size < w2.heap.size ∧ w2.cell? ⟨w.heap.size, 0, none⟩ = some c0 ∧ w2.cell? ⟨w.heap.size, 1, none⟩ = some c1) ∧ (∀ o, w2.frozen? ⟨w.heap.size, o, none⟩ = false) ∧ Below w.heap.size w w2 := by
  obtain ⟨h1, h2⟩ := bcell hb
  have hz := hb.size
  obtain ⟨z, a, b⟩ := h
  exact ⟨⟨by omega, (h1 _ _ (by omega)).trans a, (h1 _ _ (by omega)).trans b⟩, fun o => (h2 _ _ (by omega)).trans (hf o), hw.trans (hb.mono hw.size)⟩

set_option maxHeartbeats 1000000 in
theorem zInt_c (z : Int) (w : World) (h0 : -9223372036854775808 ≤ z) (h1 : z ≤ 9223372036854775807) :
    Calls Tryz.prog 81 #[.int .i64 z] w fun e w' => ZOne 2 w w' e z := by
  by_cases hneg : z < 0
  · have hW : IntKind.u64.wrap (-(z + 1)) = -(z + 1) := by simp only [wrapU]; omega
    go_enter Tryz.func81, Tryz.ntmps81
    go_wp2_with fail
    rw [show -(z + 1) + 1 = -z by omega]
    refine (word2_c (-z) _ (by omega) (by omega)).mono ?_
    rintro e w1 ⟨k, cap, rfl, hb, hk, hr, hd, hf, hv⟩
    obtain ⟨⟨hz, z0, z1⟩, zf, hw⟩ := boxes1 hb
    have HW := hid hw; have HR := hid hr; have HD := hid hd; have HF := hid hf; have HV := hid hv
    have hk0 : Hid (0 < k) := by
      show 0 < k
      apply Nat.pos_of_ne_zero; intro hk0; subst hk0; simp [vd] at hv; omega
    clear hb hw hr hd hf hv
    go_wp2
    refine bodyPost_ret (v := .agg #[.bool true, .slice (some ⟨(w.alloc (.cells #[.bool false, .slice none 0 0] 70)).heap.size, 0, none⟩) k cap]) (by simp [results, Tryz.results81, go_sem, z0, z1]) rfl ⟨true, _, k, cap, two32 (-z), rfl, ?_⟩
    have hT := ((Turned.refl w.heap.size (w.heap.size + 1) w1).set (x := ⟨w.heap.size, 0, none⟩) (by first | omega | (simp; done) | (simp; omega)) (by first | omega | (simp; done) | (simp; omega)) (.bool true)).set (x := ⟨w.heap.size, 1, none⟩) (by first | omega | (simp; done) | (simp; omega)) (by first | omega | (simp; done) | (simp; omega)) (.slice (some ⟨w.heap.size + 1, 0, none⟩) k cap)
    refine ⟨below_turned HW.out HW.out.size (by simpa using hT) (Nat.le_refl _), HR.out.turned (by simpa using hT) (fun a ha => by cases ha; simp), HD.out, HF.out, hk, fun _ => hk0.out, ?_, fun h => by cases h⟩
    rw [if_pos rfl, HV.out]; omega
  · go_enter Tryz.func81, Tryz.ntmps81
    go_wp2_with fail
    refine (word2_c z _ (by omega) (by omega)).mono ?_
    rintro e w1 ⟨k, cap, rfl, hb, hk, hr, hd, hf, hv⟩
    obtain ⟨⟨hz, z0, z1⟩, zf, hw⟩ := boxes1 hb
    have HW := hid hw; have HR := hid hr; have HD := hid hd; have HF := hid hf; have HV := hid hv
    clear hb hw hr hd hf hv
    go_wp2
    refine bodyPost_ret (v := .agg #[.bool false, .slice (some ⟨(w.alloc (.cells #[.bool false, .slice none 0 0] 70)).heap.size, 0, none⟩) k cap]) (by simp [results, Tryz.results81, go_sem, z0, z1]) rfl ⟨false, _, k, cap, two32 z, rfl, ?_⟩
    have hT := ((Turned.refl w.heap.size (w.heap.size + 1) w1).set (x := ⟨w.heap.size, 0, none⟩) (by first | omega | (simp; done) | (simp; omega)) (by first | omega | (simp; done) | (simp; omega)) (.bool false)).set (x := ⟨w.heap.size, 1, none⟩) (by first | omega | (simp; done) | (simp; omega)) (by first | omega | (simp; done) | (simp; omega)) (.slice (some ⟨w.heap.size + 1, 0, none⟩) k cap)
    refine ⟨below_turned HW.out HW.out.size (by simpa using hT) (Nat.le_refl _), HR.out.turned (by simpa using hT) (fun a ha => by cases ha; simp), HD.out, HF.out, hk, (fun h => by cases h), ?_, (fun h => by cases h)⟩
    exact HV.out

theorem kI0 {w : World} {a : Addr} {v : Value} (h : w.cell? a = some v) : (w.cell? a).isSome = true := by rw [h]; rfl
/-- Two boxes of unlike types. -/
theorem boxes2' {w w1 : World} {a0 a1 c0 c1 : Value} {t u : TypeId} (hb : Below ((w.alloc (.cells #[a0, a1] t)).alloc (.cells #[c0, c1] u)).heap.size ((w.alloc (.cells #[a0, a1] t)).alloc (.cells #[c0, c1] u)) w1) :
    (w.heap.size + 1 < w1.heap.size ∧ w1.cell? ⟨w.heap.size, 0, none⟩ = some a0 ∧ w1.cell? ⟨w.heap.size, 1, none⟩ = some a1 ∧ w1.cell? ⟨w.heap.size + 1, 0, none⟩ = some c0 ∧ w1.cell? ⟨w.heap.size + 1, 1, none⟩ = some c1) ∧ (∀ o, w1.frozen? ⟨w.heap.size + 1, o, none⟩ = false) ∧ Below w.heap.size w w1 := by
  obtain ⟨h1, h2⟩ := bcell hb
  have hz := hb.size
  simp at hz
  refine ⟨⟨by omega, (h1 _ _ (by simp; omega)).trans (by simp [go_sem]), (h1 _ _ (by simp; omega)).trans (by simp [go_sem]), (h1 _ _ (by simp)).trans (by simp [go_sem]), (h1 _ _ (by simp)).trans (by simp [go_sem])⟩, fun o => (h2 _ _ (by simp)).trans (by
    have e := heap_alloc_new (w.alloc (.cells #[a0, a1] t)) (.cells #[c0, c1] u)
    rw [size_alloc1] at e
    simp only [World.frozen?, e]; simp), ?_⟩
  exact (below_alloc (below_alloc (Below.refl w.heap.size w) _) _).trans (hb.mono (by simp; omega))

set_option maxRecDepth 100000 in
set_option maxHeartbeats 1000000 in
theorem zTo_c (s : Bool) (ao : Option Addr) (n cap : Nat) (d : Nat → Int) (z : Int) (w : World) (hn : n ≤ 1048576) (hr : Rd .u64 w ao n d) (hd : Dg d n) (hf : Fm d n) (hs : s = true → 0 < n) (hv : (if s then - vd d n else vd d n) = z) :
    Calls Tryz.prog 70 #[.agg #[.bool s, .slice ao n cap]] w fun e w' => WOne n w w' e z := by
  have HR := hid hr; have HD := hid hd; have HF := hid hf; have HSg := hid hs; have HV := hid hv
  clear hr hd hf hs hv
  have CT : Hid (∀ W, Below ((w.alloc (.cells #[.bool s, .slice ao n cap] 70)).alloc (.cells #[.bool false, .slice none 0 0] 45)).heap.size ((w.alloc (.cells #[.bool s, .slice ao n cap] 70)).alloc (.cells #[.bool false, .slice none 0 0] 45)) W → Calls Tryz.prog 83 #[.slice ao n cap] W fun e w' => ∃ ao' m cap' f, e = .returned (.slice ao' m cap') ∧ Hid (Asw n W w' ao' m cap' f ∧ vf f m = vd d n) ∧ (w.heap.size + 1 < w'.heap.size ∧ w'.cell? ⟨w.heap.size, 0, none⟩ = some (.bool s) ∧ w'.cell? ⟨w.heap.size, 1, none⟩ = some (.slice ao n cap) ∧ w'.cell? ⟨w.heap.size + 1, 0, none⟩ = some (.bool false) ∧ w'.cell? ⟨w.heap.size + 1, 1, none⟩ = some (.slice none 0 0)) ∧ (∀ o, w'.frozen? ⟨w.heap.size + 1, o, none⟩ = false) ∧ Hid (Below w.heap.size w W ∧ w.heap.size + 1 < W.heap.size)) := fun W hW => by
    obtain ⟨hz, zf, hw⟩ := boxes2' hW
    refine (toOwn_c ao n cap d W hn (HR.out.below hw (Nat.le_refl _)) HD.out HF.out).mono ?_
    rintro e w' ⟨ao', m, cap', f, rfl, h0, h1, h2, h3, h4, h5, h6⟩
    obtain ⟨hz2, zf2, hw2⟩ := keep2 h1 hz zf hw
    exact ⟨ao', m, cap', f, rfl, ⟨⟨h1, h0, h4, h5, h3⟩, h6⟩, hz2, zf2, hw, hz.1⟩
  go_enter Tryz.func70, Tryz.ntmps70
  go_wp2
  go_region_held3 (fun w' => w'.cell? ⟨w.heap.size, 0, none⟩ = some (.bool s) ∧ w'.cell? ⟨w.heap.size, 1, none⟩ = some (.slice ao n cap) ∧ (w'.cell? ⟨w.heap.size + 1, 0, none⟩).isSome = true ∧ (w'.cell? ⟨w.heap.size + 1, 1, none⟩).isSome = true ∧ w'.frozen? ⟨w.heap.size + 1, 0, none⟩ = false ∧ w'.frozen? ⟨w.heap.size + 1, 1, none⟩ = false) (first | (simp [go_sem]; done) | (refine ⟨?_, ?_, ?_, ?_, ?_, ?_⟩ <;> repeat (with_reducible first | assumption | exact uf _ | exact kI0 u0 | exact kI0 u1 | refine kCd ?_ | refine kId ?_ | refine kFd ?_ | refine kCa ?_ | refine kIa ?_ | refine kFa ?_ ?_ | refine kCs (by simp only [ne_eq]; omega) ?_ | refine kIs ?_ | refine kFs ?_))) (first | (go_at_call 83; refine (CT.out _ (by repeat (first | exact Below.refl _ _ | refine Below.drew ?_))).mono ?_; rintro e w4 ⟨xa, m, cx, g, rfl, HAns, ⟨hz4, v0, v1, u0, u1⟩, uf, HBW⟩))
  all_goals
    go_wp2
    refine bodyPost_ret (v := .agg #[.bool s, .slice xa m cx]) (by simp [results, Tryz.results70, go_sem, u0, u1]) rfl ⟨s, xa, m, cx, g, rfl, ?_⟩
    have hA := HAns.out.1.turned HBW.out.1 (((Turned.refl _ _ _).set (x := ⟨w.heap.size + 1, 0, none⟩) (by first | omega | (simp; done) | (simp; omega)) (by first | omega | (simp; done) | (simp; omega)) (.bool s)).set (x := ⟨w.heap.size + 1, 1, none⟩) (by first | omega | (simp; done) | (simp; omega)) (by first | omega | (simp; done) | (simp; omega)) (.slice xa m cx))
    refine ⟨⟨hA, fun hs => ?_⟩, ?_⟩
    · have h1 := vd_form_ge HD.out HF.out (HSg.out hs); have h2 := pd_pos (n - 1)
      apply Nat.pos_of_ne_zero; intro hm; subst hm
      have := HAns.out.2; simp [vf] at this; omega
    · have := HV.out; rw [← HAns.out.2] at this; exact this

set_option maxHeartbeats 1000000 in
theorem docOf_c (z : Int) (w : World) (h0 : -9223372036854775808 ≤ z) (h1 : z ≤ 9223372036854775807) :
    Calls Tryz.prog 34 #[.int .i64 z] w fun e w' => WOne 2 w w' e z := by
  go_enter Tryz.func34, Tryz.ntmps34
  go_wp2_with fail
  refine (zInt_c z _ h0 h1).mono ?_
  rintro e w1 ⟨s, xa, k, cx, d, rfl, hz⟩
  obtain ⟨⟨hb, z0, z1⟩, zf, hw⟩ := boxes1 hz.bel
  have HZ := hid hz; have HW := hid hw; have hle := hz.le
  clear hz hw
  go_wp2_with fail
  refine (zTo_c s xa k cx d z _ (by omega) HZ.out.rd HZ.out.dg HZ.out.fm HZ.out.sgn HZ.out.val).mono ?_
  rintro e w2 ⟨t, ya, m, cy, g, rfl, hg, hv⟩
  obtain ⟨⟨hb, z0, z1⟩, zf, hw⟩ := keep1 hg.res.bel ⟨hb, z0, z1⟩ zf HW.out
  have HG := hid hg; have HW2 := hid hw; have HV := hid hv
  clear hg hw hv
  go_wp2
  refine bodyPost_ret (v := .agg #[.bool t, .slice ya m cy]) (by simp [results, Tryz.results34, go_sem, z0, z1]) rfl ⟨t, ya, m, cy, g, rfl, ⟨(HG.out.res.turned HW.out ?_).mono hle, HG.out.sgn⟩, HV.out⟩
  exact ((Turned.refl _ _ _).set (by first | omega | (simp; done) | (simp; omega)) (by first | omega | (simp; done) | (simp; omega)) _).set (by first | omega | (simp; done) | (simp; omega)) (by first | omega | (simp; done) | (simp; omega)) _

set_option maxRecDepth 100000 in
set_option maxHeartbeats 1000000 in
/-- Twin: with memory of its own. -/
theorem wTwin_c (s : Bool) (ao : Option Addr) (n cap : Nat) (f : Nat → Int) (w : World) (hn : n ≤ 1048576) (hr : Rd .u64 w ao n f) (hnil : ao = none → n = 0 ∧ cap = 0) :
    Calls Tryz.prog 27 #[.agg #[.bool s, .slice ao n cap]] w fun e w' => ∃ ao' cap', e = .returned (.agg #[.bool s, .slice ao' n cap']) ∧ Below w.heap.size w w' ∧ Own .u64 83 w' w.heap.size (.slice ao' n cap') n f := by
  have HR := hid hr; have HNil := hid hnil
  clear hr hnil
  have CT : Hid (∀ W, Below ((w.alloc (.cells #[.bool s, .slice ao n cap] 45)).alloc (.cells #[.bool false, .slice none 0 0] 45)).heap.size ((w.alloc (.cells #[.bool s, .slice ao n cap] 45)).alloc (.cells #[.bool false, .slice none 0 0] 45)) W → Calls Tryz.prog 46 #[.slice ao n cap] W fun e w' => ∃ ao' cap', e = .returned (.slice ao' n cap') ∧ Hid (Below W.heap.size W w' ∧ Own .u64 83 w' W.heap.size (.slice ao' n cap') n f) ∧ (w.heap.size + 1 < w'.heap.size ∧ w'.cell? ⟨w.heap.size, 0, none⟩ = some (.bool s) ∧ w'.cell? ⟨w.heap.size, 1, none⟩ = some (.slice ao n cap) ∧ w'.cell? ⟨w.heap.size + 1, 0, none⟩ = some (.bool false) ∧ w'.cell? ⟨w.heap.size + 1, 1, none⟩ = some (.slice none 0 0)) ∧ (∀ o, w'.frozen? ⟨w.heap.size + 1, o, none⟩ = false) ∧ Hid (Below w.heap.size w W ∧ w.heap.size + 1 < W.heap.size)) := fun W hW => by
    obtain ⟨hz, zf, hw⟩ := boxes2' hW
    refine (twin_c ao n cap f W hn (HR.out.below hw (Nat.le_refl _)) HNil.out).mono ?_
    rintro e w' ⟨ao', cap', rfl, h1, h2, h3⟩
    obtain ⟨hz2, zf2, hw2⟩ := keep2 h1 hz zf hw
    exact ⟨ao', cap', rfl, ⟨h1, h3⟩, hz2, zf2, hw, hz.1⟩
  go_enter Tryz.func27, Tryz.ntmps27
  go_wp2
  go_region_held3 (fun w' => w'.cell? ⟨w.heap.size, 0, none⟩ = some (.bool s) ∧ w'.cell? ⟨w.heap.size, 1, none⟩ = some (.slice ao n cap) ∧ (w'.cell? ⟨w.heap.size + 1, 0, none⟩).isSome = true ∧ (w'.cell? ⟨w.heap.size + 1, 1, none⟩).isSome = true ∧ w'.frozen? ⟨w.heap.size + 1, 0, none⟩ = false ∧ w'.frozen? ⟨w.heap.size + 1, 1, none⟩ = false) (first | (simp [go_sem]; done) | (refine ⟨?_, ?_, ?_, ?_, ?_, ?_⟩ <;> repeat (with_reducible first | assumption | exact uf _ | exact kI0 u0 | exact kI0 u1 | refine kCd ?_ | refine kId ?_ | refine kFd ?_ | refine kCa ?_ | refine kIa ?_ | refine kFa ?_ ?_ | refine kCs (by simp only [ne_eq]; omega) ?_ | refine kIs ?_ | refine kFs ?_))) (first | (go_at_call 46; refine (CT.out _ (by repeat (first | exact Below.refl _ _ | refine Below.drew ?_))).mono ?_; rintro e w4 ⟨xa, cx, rfl, HAns, ⟨hz4, v0, v1, u0, u1⟩, uf, HBW⟩))
  all_goals
    go_wp2
    refine bodyPost_ret (v := .agg #[.bool s, .slice xa n cx]) (by simp [results, Tryz.results27, go_sem, u0, u1]) rfl ⟨xa, cx, rfl, ?_⟩
    have hT := ((Turned.refl w.heap.size (w.heap.size + 1 + 1) w4).set (x := ⟨w.heap.size + 1, 0, none⟩) (by first | omega | (simp; done) | (simp; omega)) (by first | omega | (simp; done) | (simp; omega)) (.bool s)).set (x := ⟨w.heap.size + 1, 1, none⟩) (by first | omega | (simp; done) | (simp; omega)) (by first | omega | (simp; done) | (simp; omega)) (.slice xa n cx)
    have hb2 := HBW.out.1.trans (HAns.out.1.mono HBW.out.1.size)
    refine ⟨below_turned hb2 hb2.size hT (Nat.le_refl _), (HAns.out.2.of ?_).base HBW.out.1.size⟩
    intro a ha
    obtain ⟨h1, h2⟩ := HAns.out.2.slice.2.2.2.2 a ha
    exact hT.block _ h2 (.inr (by have := HBW.out.2; omega))
end Go.Proofs.YtndiiknbkjlbiaaGreatDoor
namespace Go.Proofs.YtndiiknbkjlbiaaGreatDoor
open Go.RowKit

/-- The string has the bytes b, L of them. -/
def Sb (s : ByteArray) (L : Nat) (b : Nat → Nat) : Prop := s.size = L ∧ ∀ k (h : k < s.size), (s[k]'h).toNat = b k
/-- All are decimal digits. -/
def Dig (b : Nat → Nat) (L : Nat) : Prop := ∀ k, k < L → 48 ≤ b k ∧ b k ≤ 57
/-- The number that the first n digits tell. -/
def dn (b : Nat → Nat) : Nat → Nat | 0 => 0 | n + 1 => dn b n * 10 + (b n - 48)
def bsh (b : Nat → Nat) (i : Nat) : Nat → Nat := fun k => b (i + k)
theorem dn_split (b : Nat → Nat) (i n : Nat) : dn b (i + n) = dn b i * 10 ^ n + dn (bsh b i) n := by
  induction n with
  | zero => simp [dn]
  | succ n ih =>
    show dn b (i + n) * 10 + (b (i + n) - 48) = dn b i * 10 ^ (n + 1) + (dn (bsh b i) n * 10 + (b (i + n) - 48))
    rw [ih, Nat.pow_succ]
    grind
theorem dn_lt {b : Nat → Nat} {n : Nat} (h : Dig b n) : dn b n < 10 ^ n := by
  induction n with
  | zero => simp [dn]
  | succ n ih =>
    have h1 := ih (fun k hk => h k (by omega))
    have h2 := h n (by omega)
    show dn b n * 10 + (b n - 48) < 10 ^ (n + 1)
    rw [Nat.pow_succ]; omega
theorem Dig.mono {b L L'} (h : Dig b L) (hl : L' ≤ L) : Dig b L' := fun k hk => h k (by omega)
theorem Dig.bsh {b L i n} (h : Dig b L) (hl : i + n ≤ L) : Dig (bsh b i) n := fun k hk => h (i + k) (by omega)
theorem Sb.take {s L b} (h : Sb s L b) {c : Nat} (hc : c ≤ L) : Sb (s.extract 0 c) c b := by
  obtain ⟨h1, h2⟩ := h
  refine ⟨by simp; omega, fun k hk => ?_⟩
  have hk' : k < c := by simp at hk; omega
  have := h2 k (by omega)
  rw [← this, ByteArray.getElem_extract]
  simp
theorem Sb.drop {s L b} (h : Sb s L b) {c : Nat} (hc : c ≤ L) : Sb (s.extract c L) (L - c) (bsh b c) := by
  obtain ⟨h1, h2⟩ := h
  refine ⟨by simp; omega, fun k hk => ?_⟩
  have hk' : k < L - c := by simp at hk; omega
  have := h2 (c + k) (by omega)
  show _ = b (c + k)
  rw [← this, ByteArray.getElem_extract]

set_option maxRecDepth 100000 in
set_option maxHeartbeats 1000000 in
theorem readPiece_c (s : ByteArray) (L : Nat) (b : Nat → Nat) (w : World) (hs : Sb s L b) (hL : L ≤ 19) (hd : Dig b L) :
    Calls Tryz.prog 182 #[.string s] w fun e w' => e = .returned (.int .u64 (dn b L)) ∧ w' = w := by
  obtain ⟨rfl, hb⟩ := hs
  have HB := hid hb
  have HD := hid hd
  clear hb hd
  go_enter Tryz.func182, Tryz.ntmps182
  go_wp2
  go_loop [3, 7] (fun c t => ∃ (k v : Nat), k ≤ s.size ∧ t = .int .i64 k ∧ c = .int .u64 v ∧ Hid (dn b k = v)) (fun _ t => s.size - (intOf t).toNat)
  case atStart => exact ⟨0, 0, by omega, rfl, rfl, rfl⟩
  case round =>
    obtain ⟨k, v, hk, rfl, rfl, HV⟩ := hrel
    by_cases hlt : k < s.size
    · obtain ⟨x, hx⟩ : ∃ x, b k = x := ⟨_, rfl⟩
      have hc : (s[k]'hlt).toNat = x := by rw [HB.out k hlt, hx]
      have hx1 := HD.out k hlt
      rw [hx] at hx1
      obtain ⟨x0, x1⟩ := hx1
      have hv : v < 10 ^ k := by rw [← HV.out]; exact dn_lt (HD.out.mono (by omega))
      have hv2 : v < 10 ^ 18 := Nat.lt_of_lt_of_le hv (Nat.pow_le_pow_right (by decide) (by omega))
      have hv3 : (v : Int) < 1000000000000000000 := by omega
      have hsub : ((x : Int) - 48) % 256 = ((x - 48 : Nat) : Int) := by omega
      have HX := hid hx
      clear hv hv2 hx
      go_wp2
      go_round
      case rel =>
        refine ⟨k + 1, v * 10 + (x - 48), by omega, by go_num, ?_, ?_⟩
        · congr 1; omega
        · show dn b k * 10 + (b k - 48) = _
          rw [HV.out, HX.out]
      case measure => simp [intOf]; omega
    · obtain rfl : k = s.size := by omega
      go_wp2
      go_ret
      exact ⟨by rw [HV.out]; rfl, rfl⟩

/-- isNumber, told. -/
def IsNum (b : Nat → Nat) (L : Nat) : Prop := Dig b L ∧ 0 < L ∧ (L = 1 ∨ b 0 ≠ 48)
def digB (b : Nat → Nat) : Nat → Bool | 0 => true | n + 1 => digB b n && (decide (48 ≤ b n) && decide (b n ≤ 57))
theorem digB_iff (b : Nat → Nat) (L : Nat) : digB b L = true ↔ Dig b L := by
  induction L with
  | zero => exact ⟨fun _ k hk => by omega, fun _ => rfl⟩
  | succ n ih =>
    simp only [digB, Bool.and_eq_true, decide_eq_true_eq, ih]
    constructor
    · rintro ⟨h, h1, h2⟩ k hk
      by_cases hkn : k = n
      · subst hkn; exact ⟨h1, h2⟩
      · exact h k (by omega)
    · exact fun h => ⟨fun k hk => h k (by omega), h n (by omega)⟩
def numB (b : Nat → Nat) (L : Nat) : Bool := digB b L && (decide (0 < L) && (decide (L = 1) || !decide (b 0 = 48)))
theorem numB_iff (b : Nat → Nat) (L : Nat) : numB b L = true ↔ IsNum b L := by
  simp [numB, IsNum, digB_iff]
theorem numB_true {b : Nat → Nat} {L : Nat} (h : IsNum b L) : numB b L = true := (numB_iff b L).2 h
theorem numB_false {b : Nat → Nat} {L : Nat} (h : ¬ IsNum b L) : numB b L = false := by
  cases hn : numB b L
  · rfl
  · exact absurd ((numB_iff b L).1 hn) h

theorem sb_eq {s t : ByteArray} {L : Nat} {b : Nat → Nat} (hs : Sb s L b) (ht : Sb t L b) : s = t := by
  obtain ⟨h1, h2⟩ := hs
  obtain ⟨h3, h4⟩ := ht
  apply ByteArray.ext_getElem (by omega)
  intro i hi hj
  apply UInt8.toNat_inj.1
  rw [h2 i hi, h4 i hj]
theorem sb_zero {s : ByteArray} {b : Nat → Nat} (hs : Sb s 1 b) (h : b 0 = 48) : s = ⟨#[48]⟩ := by
  refine sb_eq hs ⟨rfl, fun k hk => ?_⟩
  obtain rfl : k = 0 := by have : (ByteArray.mk #[48]).size = 1 := rfl
                           omega
  rw [h]; rfl
theorem toList_ne {s t : ByteArray} (h : s ≠ t) : (s.toList == t.toList) = false := by
  simp only [ByteArray.toList_eq, beq_eq_false_iff_ne]
  intro he
  exact h (ByteArray.ext (Array.toList_inj.1 he))
theorem toList_isE {s : ByteArray} (h : s.size ≠ 0) : s.toList.isEmpty = false := by
  rw [ByteArray.toList_eq]
  have : s.data.size ≠ 0 := h
  cases hl : s.data.toList with
  | nil => exact absurd (by rw [← Array.length_toList, hl]; rfl) this
  | cons a l => rfl

set_option maxRecDepth 100000 in
set_option maxHeartbeats 1000000 in
theorem isNumber_c (s : ByteArray) (L : Nat) (b : Nat → Nat) (w : World) (hs : Sb s L b) (hL : L ≤ 9223372036854775807) :
    Calls Tryz.prog 137 #[.string s] w fun e w' => e = .returned (.bool (numB b L)) ∧ w' = w := by
  have HSb := hid hs
  obtain ⟨rfl, hb⟩ := hs
  have HB := hid hb
  clear hb
  obtain ⟨R, hR⟩ : ∃ R, numB b s.size = R := ⟨_, rfl⟩
  rw [hR]
  have HRe := hid hR
  clear hR
  go_enter Tryz.func137, Tryz.ntmps137
  go_wp2
  go_loop [6] (fun t => ∃ (k : Nat), k ≤ s.size ∧ t = .int .i64 k ∧ Hid (Dig b k)) (fun t => s.size - (intOf t).toNat)
  case atStart => exact ⟨0, by omega, rfl, fun j hj => by omega⟩
  case round =>
    obtain ⟨k, hk, rfl, HD⟩ := hrel
    by_cases hlt : k < s.size
    · obtain ⟨x, hx⟩ : ∃ x, b k = x := ⟨_, rfl⟩
      have hc : (s[k]'hlt).toNat = x := by rw [HB.out k hlt, hx]
      have HX := hid hx
      clear hx
      by_cases h1 : x < 48
      · have h1b : decide ((x : Int) < 48) = true := by simp; omega
        have hf : R = false := by rw [← HRe.out]; exact numB_false (fun h => by have := h.1 k hlt; rw [HX.out] at this; omega)
        subst hf
        go_wp2
        go_ret
        exact ⟨rfl, rfl⟩
      · have h1b : decide ((x : Int) < 48) = false := by simp; omega
        by_cases h2 : 57 < x
        · have h2b : decide ((57 : Int) < x) = true := by simp; omega
          have hf : R = false := by rw [← HRe.out]; exact numB_false (fun h => by have := h.1 k hlt; rw [HX.out] at this; omega)
          subst hf
          go_wp2
          go_ret
          exact ⟨rfl, rfl⟩
        · have h2b : decide ((57 : Int) < x) = false := by simp; omega
          go_wp2
          go_round
          case rel =>
            refine ⟨k + 1, by omega, by go_num, fun j hj => ?_⟩
            by_cases hjk : j = k
            · subst hjk; rw [HX.out]; omega
            · exact HD.out j (by omega)
          case measure => simp [intOf]; omega
    · obtain rfl : k = s.size := by omega
      by_cases h0 : s.size = 0
      · have e0 : s = ⟨#[]⟩ := by
          have : s.data.size = 0 := h0
          cases s with | mk d => simp at this; subst this; rfl
        have hf : R = false := by rw [← HRe.out]; exact numB_false (fun h => by have := h.2.1; omega)
        subst hf
        subst e0
        go_wp2
        go_ret
        exact ⟨rfl, rfl⟩
      · obtain ⟨x, hx⟩ : ∃ x, b 0 = x := ⟨_, rfl⟩
        have hc : (s[0]'(by omega)).toNat = x := by rw [HB.out 0 (by omega), hx]
        have HX := hid hx
        clear hx
        by_cases hz : s = ⟨#[48]⟩
        · have h1 : s.size = 1 := by rw [hz]; rfl
          have hf : R = true := by rw [← HRe.out]; exact numB_true ⟨HD.out, by omega, .inl h1⟩
          subst hf
          clear h1 hc
          subst hz
          go_wp2
          go_ret
          exact ⟨rfl, rfl⟩
        · have heq : (s.toList == [48]) = false := by have := toList_ne hz; rwa [ByteArray.toList_eq ⟨#[48]⟩] at this
          have hem := toList_isE h0
          by_cases hx0 : x = 48
          · have hf : R = false := by
              rw [← HRe.out]
              refine numB_false (fun h => ?_)
              rcases h.2.2 with h1 | h1
              · have hs := HSb.out
                rw [h1] at hs
                exact hz (sb_zero hs (by rw [HX.out]; exact hx0))
              · rw [HX.out] at h1; exact h1 hx0
            subst hf
            have hxb : ((x : Int) != 48) = false := by simp; omega
            clear hz
            go_wp2
            go_ret
            exact ⟨rfl, rfl⟩
          · have hf : R = true := by rw [← HRe.out]; exact numB_true ⟨HD.out, by omega, .inr (by rw [HX.out]; exact hx0)⟩
            subst hf
            have hxb : ((x : Int) != 48) = true := by simp; omega
            clear hz
            go_wp2
            go_ret
            exact ⟨rfl, rfl⟩
end Go.Proofs.YtndiiknbkjlbiaaGreatDoor
