/-
  Walks of the document's reference for whole: Same, Twin, DocOf. Walks of package nat's reading: isNumber, readPiece. The walk of the document's reference for nat: Text. Walks of the document's reference for nat: Sub on digits, and the calls DocAdd, DocSub, DocCmp. Walks of the document's reference for nat: the calls DocAdd, DocSub, DocCmp. Walks of the document's reference for nat: Read, DocRead, DocText. Walks of package nat's reading: joinPieces, fromDigits, Read. Walks of package nat's reading: fromDigits, Read. Walks of nat's Text, and of the document's reference: DocText, DocRead. Walks of package whole's calls Text, Read. The walk of package whole's call Read. The walk of the statements' own look at answers of whole that the document fixes (awake). What the walks of whole's statements share: light, boxes and numbers carried along. Rational numbers in lowest terms: what numerators and denominators become by sums, products, quotients.
-/
import Derived.Test.YtclopblgdiahiaaGreatDoorZ4
import Derived.Deep.RegionHeld3
import Derived.Test.YtclopblgdiahiaaGreatDoorZ2
import Derived.Test.YtclopblgdiahiaaGreatDoorZ3
import Derived.Deep.CutRange
namespace Go.Proofs.YtclopblgdiahiaaGreatDoor
open Go.RowKit

/-- What Same answers. -/
def SameAns (b s t : Bool) (n m : Nat) (f g : Nat → Int) : Prop := b = true ↔ s = t ∧ Alk n m f g
theorem wSame_c (s t : Bool) (ao bo : Option Addr) (n m ca cb : Nat) (f g : Nat → Int) (w : World) (hm : n ≤ 140737488355328) (hm' : m ≤ 140737488355328) (hr : Rd .u64 w ao n f) (hs : Rd .u64 w bo m g) :
    Calls Tryz.prog 11 #[.agg #[.bool s, .slice ao n ca], .agg #[.bool t, .slice bo m cb]] w fun e w' => ∃ b, e = .returned (.bool b) ∧ Below w.heap.size w w' ∧ SameAns b s t n m f g := by
  have HR := hid hr; have HS := hid hs
  clear hr hs
  cases hst : (s == t)
  · have HN := hid (show s ≠ t by intro h; subst h; simp at hst)
    go_enter Tryz.func11, Tryz.ntmps11
    go_wp2
    go_ret
    exact ⟨false, rfl, below_alloc (below_alloc (Below.refl _ _) _) _, ⟨(fun h => by cases h), fun h => absurd h.1 HN.out⟩⟩
  · obtain rfl : s = t := by simpa using hst
    go_enter Tryz.func11, Tryz.ntmps11
    go_wp2_with fail
    refine (same_c ao bo n m ca cb f g _ hm hm' ((HR.out.alloc _).alloc _) ((HS.out.alloc _).alloc _)).mono ?_
    rintro e w1 ⟨⟨q, hq⟩, b, rfl, hb⟩
    have HB := hid hb; have HQ := hid (drewN_below hq)
    clear hb hq
    go_wp2
    go_ret
    exact ⟨b, rfl, (below_alloc (below_alloc (Below.refl w.heap.size w) _) _).trans (HQ.out.mono (by simp; omega)), ⟨fun h => ⟨rfl, HB.out.1 h⟩, fun h => HB.out.2 h.2⟩⟩

/-- One whole number has one form. -/
theorem wv_inj {s t : Bool} {n m : Nat} {f g : Nat → Int} (hf : Lm f n) (hg : Lm g m) (wf : wfB s f n = true) (wg : wfB t g m = true) (hv : wv s f n = wv t g m) : s = t ∧ Alk n m f g := by
  have h1 := vf_nonneg hf; have h2 := vf_nonneg hg
  have f1 := fm_of_wfB wf; have f2 := fm_of_wfB wg
  have p1 : s = true → 0 < vf f n := fun h => vf_pos hf f1 (sgn_of_wfB wf h)
  have p2 : t = true → 0 < vf g m := fun h => vf_pos hg f2 (sgn_of_wfB wg h)
  cases s <;> cases t <;> simp only [wv_false, wv_true] at hv
  · exact ⟨rfl, vf_inj hf hg f1 f2 hv⟩
  · have := p2 rfl; omega
  · have := p1 rfl; omega
  · exact ⟨rfl, vf_inj hf hg f1 f2 (by omega)⟩
theorem wSame_true (s t : Bool) (ao bo : Option Addr) (n m ca cb : Nat) (f g : Nat → Int) (w : World) (hm : n ≤ 140737488355328) (hm' : m ≤ 140737488355328) (hr : Rd .u64 w ao n f) (hs : Rd .u64 w bo m g) (hf : Lm f n) (hg : Lm g m) (wf : wfB s f n = true) (wg : wfB t g m = true) (hv : wv s f n = wv t g m) :
    Calls Tryz.prog 11 #[.agg #[.bool s, .slice ao n ca], .agg #[.bool t, .slice bo m cb]] w fun e w' => e = .returned (.bool true) ∧ Below w.heap.size w w' := by
  refine (wSame_c s t ao bo n m ca cb f g w hm hm' hr hs).mono ?_
  rintro e w' ⟨b, rfl, hb, hiff⟩
  obtain rfl : b = true := hiff.2 (wv_inj hf hg wf wg hv)
  exact ⟨rfl, hb⟩

set_option maxHeartbeats 1000000 in
/-- Word: the digits of a limb. -/
theorem word2_c (x : Int) (w : World) (x0 : 0 ≤ x) (x1 : x < 18446744073709551616) :
    Calls Tryz.prog 121 #[.int .u64 x] w fun e w' => ∃ k cap, e = .returned (.slice (some ⟨w.heap.size, 0, none⟩) k cap) ∧ Below w.heap.size w w' ∧ k ≤ 2 ∧ Rd .u64 w' (some ⟨w.heap.size, 0, none⟩) k (two32 x) ∧ Dg (two32 x) k ∧ Fm (two32 x) k ∧ vd (two32 x) k = x := by
  have hr := rd_new2 w 28 x
  have HR := hid hr
  clear hr
  go_enter Tryz.func121, Tryz.ntmps121
  go_wp2_with fail
  refine (low_c (some ⟨w.heap.size, 0, none⟩) 2 2 (two32 x) _ (by omega) (by omega) HR.out (fun h => by cases h)).mono ?_
  rintro e w1 ⟨rfl, k, hk, hz, hfm, rfl⟩
  have hdg : Dg (two32 x) k := fun j hj => by
    unfold two32
    split <;> omega
  have hv2 : vd (two32 x) 2 = x := by simp [vd, pd, two32]; omega
  have hv : vd (two32 x) k = x := (vd_ext hk hz).symm.trans hv2
  have HD := hid hdg; have HF := hid hfm; have HV := hid hv; have HRk := hid (HR.out.take hk)
  clear hdg hfm hv hv2 hz
  go_wp2
  go_ret
  exact ⟨k, 2, rfl, below_alloc (Below.refl _ _) _, hk, HRk.out, HD.out, HF.out, HV.out⟩

/-- A whole number of the reference: sign and digits. -/
structure ZRes (C : Nat) (w w' : World) (s : Bool) (ao : Option Addr) (n : Nat) (d : Nat → Int) (z : Int) : Prop where
  bel : Below w.heap.size w w'
  rd : Rd .u64 w' ao n d
  dg : Dg d n
  fm : Fm d n
  le : n ≤ C
  sgn : s = true → 0 < n
  val : (if s then - vd d n else vd d n) = z
  nil : ao = none → n = 0
def ZOne (C : Nat) (w w' : World) (e : Ending) (z : Int) : Prop := ∃ s ao n cap d, e = .returned (.agg #[.bool s, .slice ao n cap]) ∧ ZRes C w w' s ao n d z

theorem Rd.turned {k w w' ao n f} {lo hi : Nat} (h : Rd k w ao n f) (ht : Turned lo hi w w') (hu : ∀ a, ao = some a → a.block < lo ∨ hi ≤ a.block) : Rd k w' ao n f := fun j hj => by
  obtain ⟨b, o, e, hc⟩ := h j hj
  exact ⟨b, o, e, (World.cell?_of_block (ht.block b (World.block_lt_of_cell? w _ hc) (hu _ e))).trans hc⟩
/-- One box laid ahead of a call, as it reads behind it. -/
theorem boxes1 {w w1 : World} {c0 c1 : Value} {t : TypeId} (hb : Below (w.alloc (.cells #[c0, c1] t)).heap.size (w.alloc (.cells #[c0, c1] t)) w1) :
    (w.heap.size < w1.heap.size ∧ w1.cell? ⟨w.heap.size, 0, none⟩ = some c0 ∧ w1.cell? ⟨w.heap.size, 1, none⟩ = some c1) ∧ (∀ o, w1.frozen? ⟨w.heap.size, o, none⟩ = false) ∧ Below w.heap.size w w1 := by
  obtain ⟨h1, h2⟩ := bcell hb
  have hz := hb.size
  simp at hz
  refine ⟨⟨by omega, (h1 _ _ (by simp)).trans (by simp [go_sem]), (h1 _ _ (by simp)).trans (by simp [go_sem])⟩, fun o => (h2 _ _ (by simp)).trans (by
    have e := heap_alloc_new w (.cells #[c0, c1] t)
    simp only [World.frozen?, e]; simp), ?_⟩
  exact (below_alloc (Below.refl w.heap.size w) _).trans (hb.mono (by simp))
theorem keep1 {w w1 w2 : World} {c0 c1 : Value} (hb : Below w1.heap.size w1 w2) (h : w.heap.size < w1.heap.size ∧ w1.cell? ⟨w.heap.size, 0, none⟩ = some c0 ∧ w1.cell? ⟨w.heap.size, 1, none⟩ = some c1) (hf : ∀ o, w1.frozen? ⟨w.heap.size, o, none⟩ = false) (hw : Below w.heap.size w w1) :
    (w.heap.size < w2.heap.size ∧ w2.cell? ⟨w.heap.size, 0, none⟩ = some c0 ∧ w2.cell? ⟨w.heap.size, 1, none⟩ = some c1) ∧ (∀ o, w2.frozen? ⟨w.heap.size, o, none⟩ = false) ∧ Below w.heap.size w w2 := by
  obtain ⟨h1, h2⟩ := bcell hb
  have hz := hb.size
  obtain ⟨z, a, b⟩ := h
  exact ⟨⟨by omega, (h1 _ _ (by omega)).trans a, (h1 _ _ (by omega)).trans b⟩, fun o => (h2 _ _ (by omega)).trans (hf o), hw.trans (hb.mono hw.size)⟩

set_option maxHeartbeats 1000000 in
theorem zInt_c (z : Int) (w : World) (h0 : -9223372036854775808 ≤ z) (h1 : z ≤ 9223372036854775807) :
    Calls Tryz.prog 83 #[.int .i64 z] w fun e w' => ZOne 2 w w' e z := by
  by_cases hneg : z < 0
  · have hW : IntKind.u64.wrap (-(z + 1)) = -(z + 1) := by simp only [wrapU]; omega
    go_enter Tryz.func83, Tryz.ntmps83
    go_wp2_with fail
    rw [show -(z + 1) + 1 = -z by omega]
    refine (word2_c (-z) _ (by omega) (by omega)).mono ?_
    rintro e w1 ⟨k, cap, rfl, hb, hk, hr, hd, hf, hv⟩
    obtain ⟨⟨hz, z0, z1⟩, zf, hw⟩ := boxes1 hb
    have HW := hid hw; have HR := hid hr; have HD := hid hd; have HF := hid hf; have HV := hid hv
    have hk0 : Hid (0 < k) := by
      show 0 < k
      apply Nat.pos_of_ne_zero; intro hk0; subst hk0; simp [vd] at hv; omega
    clear hb hw hr hd hf hv
    go_wp2
    refine bodyPost_ret (v := .agg #[.bool true, .slice (some ⟨(w.alloc (.cells #[.bool false, .slice none 0 0] 82)).heap.size, 0, none⟩) k cap]) (by simp [results, Tryz.results83, go_sem, z0, z1]) rfl ⟨true, _, k, cap, two32 (-z), rfl, ?_⟩
    have hT := ((Turned.refl w.heap.size (w.heap.size + 1) w1).set (x := ⟨w.heap.size, 0, none⟩) (by first | omega | (simp; done) | (simp; omega)) (by first | omega | (simp; done) | (simp; omega)) (.bool true)).set (x := ⟨w.heap.size, 1, none⟩) (by first | omega | (simp; done) | (simp; omega)) (by first | omega | (simp; done) | (simp; omega)) (.slice (some ⟨w.heap.size + 1, 0, none⟩) k cap)
    refine ⟨below_turned HW.out HW.out.size (by simpa using hT) (Nat.le_refl _), HR.out.turned (by simpa using hT) (fun a ha => by cases ha; simp), HD.out, HF.out, hk, fun _ => hk0.out, ?_, fun h => by cases h⟩
    rw [if_pos rfl, HV.out]; omega
  · go_enter Tryz.func83, Tryz.ntmps83
    go_wp2_with fail
    refine (word2_c z _ (by omega) (by omega)).mono ?_
    rintro e w1 ⟨k, cap, rfl, hb, hk, hr, hd, hf, hv⟩
    obtain ⟨⟨hz, z0, z1⟩, zf, hw⟩ := boxes1 hb
    have HW := hid hw; have HR := hid hr; have HD := hid hd; have HF := hid hf; have HV := hid hv
    clear hb hw hr hd hf hv
    go_wp2
    refine bodyPost_ret (v := .agg #[.bool false, .slice (some ⟨(w.alloc (.cells #[.bool false, .slice none 0 0] 82)).heap.size, 0, none⟩) k cap]) (by simp [results, Tryz.results83, go_sem, z0, z1]) rfl ⟨false, _, k, cap, two32 z, rfl, ?_⟩
    have hT := ((Turned.refl w.heap.size (w.heap.size + 1) w1).set (x := ⟨w.heap.size, 0, none⟩) (by first | omega | (simp; done) | (simp; omega)) (by first | omega | (simp; done) | (simp; omega)) (.bool false)).set (x := ⟨w.heap.size, 1, none⟩) (by first | omega | (simp; done) | (simp; omega)) (by first | omega | (simp; done) | (simp; omega)) (.slice (some ⟨w.heap.size + 1, 0, none⟩) k cap)
    refine ⟨below_turned HW.out HW.out.size (by simpa using hT) (Nat.le_refl _), HR.out.turned (by simpa using hT) (fun a ha => by cases ha; simp), HD.out, HF.out, hk, (fun h => by cases h), ?_, (fun h => by cases h)⟩
    exact HV.out

theorem kI0 {w : World} {a : Addr} {v : Value} (h : w.cell? a = some v) : (w.cell? a).isSome = true := by rw [h]; rfl
/-- Two boxes of unlike types. -/
theorem boxes2' {w w1 : World} {a0 a1 c0 c1 : Value} {t u : TypeId} (hb : Below ((w.alloc (.cells #[a0, a1] t)).alloc (.cells #[c0, c1] u)).heap.size ((w.alloc (.cells #[a0, a1] t)).alloc (.cells #[c0, c1] u)) w1) :
    (w.heap.size + 1 < w1.heap.size ∧ w1.cell? ⟨w.heap.size, 0, none⟩ = some a0 ∧ w1.cell? ⟨w.heap.size, 1, none⟩ = some a1 ∧ w1.cell? ⟨w.heap.size + 1, 0, none⟩ = some c0 ∧ w1.cell? ⟨w.heap.size + 1, 1, none⟩ = some c1) ∧ (∀ o, w1.frozen? ⟨w.heap.size + 1, o, none⟩ = false) ∧ Below w.heap.size w w1 := by
  obtain ⟨h1, h2⟩ := bcell hb
  have hz := hb.size
  simp at hz
  refine ⟨⟨by omega, (h1 _ _ (by simp; omega)).trans (by simp [go_sem]), (h1 _ _ (by simp; omega)).trans (by simp [go_sem]), (h1 _ _ (by simp)).trans (by simp [go_sem]), (h1 _ _ (by simp)).trans (by simp [go_sem])⟩, fun o => (h2 _ _ (by simp)).trans (by
    have e := heap_alloc_new (w.alloc (.cells #[a0, a1] t)) (.cells #[c0, c1] u)
    rw [size_alloc1] at e
    simp only [World.frozen?, e]; simp), ?_⟩
  exact (below_alloc (below_alloc (Below.refl w.heap.size w) _) _).trans (hb.mono (by simp; omega))

set_option maxRecDepth 100000 in
set_option maxHeartbeats 1000000 in
theorem zTo_c (s : Bool) (ao : Option Addr) (n cap : Nat) (d : Nat → Int) (z : Int) (w : World) (hn : n ≤ 1048576) (hr : Rd .u64 w ao n d) (hd : Dg d n) (hf : Fm d n) (hs : s = true → 0 < n) (hv : (if s then - vd d n else vd d n) = z) :
    Calls Tryz.prog 82 #[.agg #[.bool s, .slice ao n cap]] w fun e w' => WOne n w w' e z := by
  have HR := hid hr; have HD := hid hd; have HF := hid hf; have HSg := hid hs; have HV := hid hv
  clear hr hd hf hs hv
  have CT : Hid (∀ W, Below ((w.alloc (.cells #[.bool s, .slice ao n cap] 82)).alloc (.cells #[.bool false, .slice none 0 0] 24)).heap.size ((w.alloc (.cells #[.bool s, .slice ao n cap] 82)).alloc (.cells #[.bool false, .slice none 0 0] 24)) W → Calls Tryz.prog 120 #[.slice ao n cap] W fun e w' => ∃ ao' m cap' f, e = .returned (.slice ao' m cap') ∧ Hid (Asw n W w' ao' m cap' f ∧ vf f m = vd d n) ∧ (w.heap.size + 1 < w'.heap.size ∧ w'.cell? ⟨w.heap.size, 0, none⟩ = some (.bool s) ∧ w'.cell? ⟨w.heap.size, 1, none⟩ = some (.slice ao n cap) ∧ w'.cell? ⟨w.heap.size + 1, 0, none⟩ = some (.bool false) ∧ w'.cell? ⟨w.heap.size + 1, 1, none⟩ = some (.slice none 0 0)) ∧ (∀ o, w'.frozen? ⟨w.heap.size + 1, o, none⟩ = false) ∧ Hid (Below w.heap.size w W ∧ w.heap.size + 1 < W.heap.size)) := fun W hW => by
    obtain ⟨hz, zf, hw⟩ := boxes2' hW
    refine (toOwn_c ao n cap d W hn (HR.out.below hw (Nat.le_refl _)) HD.out HF.out).mono ?_
    rintro e w' ⟨ao', m, cap', f, rfl, h0, h1, h2, h3, h4, h5, h6⟩
    obtain ⟨hz2, zf2, hw2⟩ := keep2 h1 hz zf hw
    exact ⟨ao', m, cap', f, rfl, ⟨⟨h1, h0, h4, h5, h3⟩, h6⟩, hz2, zf2, hw, hz.1⟩
  go_enter Tryz.func82, Tryz.ntmps82
  go_wp2
  go_region_held3 (fun w' => w'.cell? ⟨w.heap.size, 0, none⟩ = some (.bool s) ∧ w'.cell? ⟨w.heap.size, 1, none⟩ = some (.slice ao n cap) ∧ (w'.cell? ⟨w.heap.size + 1, 0, none⟩).isSome = true ∧ (w'.cell? ⟨w.heap.size + 1, 1, none⟩).isSome = true ∧ w'.frozen? ⟨w.heap.size + 1, 0, none⟩ = false ∧ w'.frozen? ⟨w.heap.size + 1, 1, none⟩ = false) (first | (simp [go_sem]; done) | (refine ⟨?_, ?_, ?_, ?_, ?_, ?_⟩ <;> repeat (with_reducible first | assumption | exact uf _ | exact kI0 u0 | exact kI0 u1 | refine kCd ?_ | refine kId ?_ | refine kFd ?_ | refine kCa ?_ | refine kIa ?_ | refine kFa ?_ ?_ | refine kCs (by simp only [ne_eq]; omega) ?_ | refine kIs ?_ | refine kFs ?_))) (first | (go_at_call 120; refine (CT.out _ (by repeat (first | exact Below.refl _ _ | refine Below.drew ?_))).mono ?_; rintro e w4 ⟨xa, m, cx, g, rfl, HAns, ⟨hz4, v0, v1, u0, u1⟩, uf, HBW⟩))
  all_goals
    go_wp2
    refine bodyPost_ret (v := .agg #[.bool s, .slice xa m cx]) (by simp [results, Tryz.results82, go_sem, u0, u1]) rfl ⟨s, xa, m, cx, g, rfl, ?_⟩
    have hA := HAns.out.1.turned HBW.out.1 (((Turned.refl _ _ _).set (x := ⟨w.heap.size + 1, 0, none⟩) (by first | omega | (simp; done) | (simp; omega)) (by first | omega | (simp; done) | (simp; omega)) (.bool s)).set (x := ⟨w.heap.size + 1, 1, none⟩) (by first | omega | (simp; done) | (simp; omega)) (by first | omega | (simp; done) | (simp; omega)) (.slice xa m cx))
    refine ⟨⟨hA, fun hs => ?_⟩, ?_⟩
    · have h1 := vd_form_ge HD.out HF.out (HSg.out hs); have h2 := pd_pos (n - 1)
      apply Nat.pos_of_ne_zero; intro hm; subst hm
      have := HAns.out.2; simp [vf] at this; omega
    · have := HV.out; rw [← HAns.out.2] at this; exact this

set_option maxHeartbeats 1000000 in
theorem docOf_c (z : Int) (w : World) (h0 : -9223372036854775808 ≤ z) (h1 : z ≤ 9223372036854775807) :
    Calls Tryz.prog 36 #[.int .i64 z] w fun e w' => WOne 2 w w' e z := by
  go_enter Tryz.func36, Tryz.ntmps36
  go_wp2_with fail
  refine (zInt_c z _ h0 h1).mono ?_
  rintro e w1 ⟨s, xa, k, cx, d, rfl, hz⟩
  obtain ⟨⟨hb, z0, z1⟩, zf, hw⟩ := boxes1 hz.bel
  have HZ := hid hz; have HW := hid hw; have hle := hz.le
  clear hz hw
  go_wp2_with fail
  refine (zTo_c s xa k cx d z _ (by omega) HZ.out.rd HZ.out.dg HZ.out.fm HZ.out.sgn HZ.out.val).mono ?_
  rintro e w2 ⟨t, ya, m, cy, g, rfl, hg, hv⟩
  obtain ⟨⟨hb, z0, z1⟩, zf, hw⟩ := keep1 hg.res.bel ⟨hb, z0, z1⟩ zf HW.out
  have HG := hid hg; have HW2 := hid hw; have HV := hid hv
  clear hg hw hv
  go_wp2
  refine bodyPost_ret (v := .agg #[.bool t, .slice ya m cy]) (by simp [results, Tryz.results36, go_sem, z0, z1]) rfl ⟨t, ya, m, cy, g, rfl, ⟨(HG.out.res.turned HW.out ?_).mono hle, HG.out.sgn⟩, HV.out⟩
  exact ((Turned.refl _ _ _).set (by first | omega | (simp; done) | (simp; omega)) (by first | omega | (simp; done) | (simp; omega)) _).set (by first | omega | (simp; done) | (simp; omega)) (by first | omega | (simp; done) | (simp; omega)) _

set_option maxRecDepth 100000 in
set_option maxHeartbeats 1000000 in
/-- Twin: with memory of its own. -/
theorem wTwin_c (s : Bool) (ao : Option Addr) (n cap : Nat) (f : Nat → Int) (w : World) (hn : n ≤ 1048576) (hr : Rd .u64 w ao n f) (hnil : ao = none → n = 0 ∧ cap = 0) :
    Calls Tryz.prog 9 #[.agg #[.bool s, .slice ao n cap]] w fun e w' => ∃ ao' cap', e = .returned (.agg #[.bool s, .slice ao' n cap']) ∧ Below w.heap.size w w' ∧ Own .u64 28 w' w.heap.size (.slice ao' n cap') n f := by
  have HR := hid hr; have HNil := hid hnil
  clear hr hnil
  have CT : Hid (∀ W, Below ((w.alloc (.cells #[.bool s, .slice ao n cap] 24)).alloc (.cells #[.bool false, .slice none 0 0] 24)).heap.size ((w.alloc (.cells #[.bool s, .slice ao n cap] 24)).alloc (.cells #[.bool false, .slice none 0 0] 24)) W → Calls Tryz.prog 38 #[.slice ao n cap] W fun e w' => ∃ ao' cap', e = .returned (.slice ao' n cap') ∧ Hid (Below W.heap.size W w' ∧ Own .u64 28 w' W.heap.size (.slice ao' n cap') n f) ∧ (w.heap.size + 1 < w'.heap.size ∧ w'.cell? ⟨w.heap.size, 0, none⟩ = some (.bool s) ∧ w'.cell? ⟨w.heap.size, 1, none⟩ = some (.slice ao n cap) ∧ w'.cell? ⟨w.heap.size + 1, 0, none⟩ = some (.bool false) ∧ w'.cell? ⟨w.heap.size + 1, 1, none⟩ = some (.slice none 0 0)) ∧ (∀ o, w'.frozen? ⟨w.heap.size + 1, o, none⟩ = false) ∧ Hid (Below w.heap.size w W ∧ w.heap.size + 1 < W.heap.size)) := fun W hW => by
    obtain ⟨hz, zf, hw⟩ := boxes2' hW
    refine (twin_c ao n cap f W hn (HR.out.below hw (Nat.le_refl _)) HNil.out).mono ?_
    rintro e w' ⟨ao', cap', rfl, h1, h2, h3⟩
    obtain ⟨hz2, zf2, hw2⟩ := keep2 h1 hz zf hw
    exact ⟨ao', cap', rfl, ⟨h1, h3⟩, hz2, zf2, hw, hz.1⟩
  go_enter Tryz.func9, Tryz.ntmps9
  go_wp2
  go_region_held3 (fun w' => w'.cell? ⟨w.heap.size, 0, none⟩ = some (.bool s) ∧ w'.cell? ⟨w.heap.size, 1, none⟩ = some (.slice ao n cap) ∧ (w'.cell? ⟨w.heap.size + 1, 0, none⟩).isSome = true ∧ (w'.cell? ⟨w.heap.size + 1, 1, none⟩).isSome = true ∧ w'.frozen? ⟨w.heap.size + 1, 0, none⟩ = false ∧ w'.frozen? ⟨w.heap.size + 1, 1, none⟩ = false) (first | (simp [go_sem]; done) | (refine ⟨?_, ?_, ?_, ?_, ?_, ?_⟩ <;> repeat (with_reducible first | assumption | exact uf _ | exact kI0 u0 | exact kI0 u1 | refine kCd ?_ | refine kId ?_ | refine kFd ?_ | refine kCa ?_ | refine kIa ?_ | refine kFa ?_ ?_ | refine kCs (by simp only [ne_eq]; omega) ?_ | refine kIs ?_ | refine kFs ?_))) (first | (go_at_call 38; refine (CT.out _ (by repeat (first | exact Below.refl _ _ | refine Below.drew ?_))).mono ?_; rintro e w4 ⟨xa, cx, rfl, HAns, ⟨hz4, v0, v1, u0, u1⟩, uf, HBW⟩))
  all_goals
    go_wp2
    refine bodyPost_ret (v := .agg #[.bool s, .slice xa n cx]) (by simp [results, Tryz.results9, go_sem, u0, u1]) rfl ⟨xa, cx, rfl, ?_⟩
    have hT := ((Turned.refl w.heap.size (w.heap.size + 1 + 1) w4).set (x := ⟨w.heap.size + 1, 0, none⟩) (by first | omega | (simp; done) | (simp; omega)) (by first | omega | (simp; done) | (simp; omega)) (.bool s)).set (x := ⟨w.heap.size + 1, 1, none⟩) (by first | omega | (simp; done) | (simp; omega)) (by first | omega | (simp; done) | (simp; omega)) (.slice xa n cx)
    have hb2 := HBW.out.1.trans (HAns.out.1.mono HBW.out.1.size)
    refine ⟨below_turned hb2 hb2.size hT (Nat.le_refl _), (HAns.out.2.of ?_).base HBW.out.1.size⟩
    intro a ha
    obtain ⟨h1, h2⟩ := HAns.out.2.slice.2.2.2.2 a ha
    exact hT.block _ h2 (.inr (by have := HBW.out.2; omega))
end Go.Proofs.YtclopblgdiahiaaGreatDoor
namespace Go.Proofs.YtclopblgdiahiaaGreatDoor
open Go.RowKit

/-- The string has the bytes b, L of them. -/
def Sb (s : ByteArray) (L : Nat) (b : Nat → Nat) : Prop := s.size = L ∧ ∀ k (h : k < s.size), (s[k]'h).toNat = b k
/-- All are decimal digits. -/
def Dig (b : Nat → Nat) (L : Nat) : Prop := ∀ k, k < L → 48 ≤ b k ∧ b k ≤ 57
/-- The number that the first n digits tell. -/
def dn (b : Nat → Nat) : Nat → Nat | 0 => 0 | n + 1 => dn b n * 10 + (b n - 48)
def bsh (b : Nat → Nat) (i : Nat) : Nat → Nat := fun k => b (i + k)
theorem dn_split (b : Nat → Nat) (i n : Nat) : dn b (i + n) = dn b i * 10 ^ n + dn (bsh b i) n := by
  induction n with
  | zero => simp [dn]
  | succ n ih =>
    show dn b (i + n) * 10 + (b (i + n) - 48) = dn b i * 10 ^ (n + 1) + (dn (bsh b i) n * 10 + (b (i + n) - 48))
    rw [ih, Nat.pow_succ]
    grind
theorem dn_lt {b : Nat → Nat} {n : Nat} (h : Dig b n) : dn b n < 10 ^ n := by
  induction n with
  | zero => simp [dn]
  | succ n ih =>
    have h1 := ih (fun k hk => h k (by omega))
    have h2 := h n (by omega)
    show dn b n * 10 + (b n - 48) < 10 ^ (n + 1)
    rw [Nat.pow_succ]; omega
theorem Dig.mono {b L L'} (h : Dig b L) (hl : L' ≤ L) : Dig b L' := fun k hk => h k (by omega)
theorem Dig.bsh {b L i n} (h : Dig b L) (hl : i + n ≤ L) : Dig (bsh b i) n := fun k hk => h (i + k) (by omega)
theorem Sb.take {s L b} (h : Sb s L b) {c : Nat} (hc : c ≤ L) : Sb (s.extract 0 c) c b := by
  obtain ⟨h1, h2⟩ := h
  refine ⟨by simp; omega, fun k hk => ?_⟩
  have hk' : k < c := by simp at hk; omega
  have := h2 k (by omega)
  rw [← this, ByteArray.getElem_extract]
  simp
theorem Sb.drop {s L b} (h : Sb s L b) {c : Nat} (hc : c ≤ L) : Sb (s.extract c L) (L - c) (bsh b c) := by
  obtain ⟨h1, h2⟩ := h
  refine ⟨by simp; omega, fun k hk => ?_⟩
  have hk' : k < L - c := by simp at hk; omega
  have := h2 (c + k) (by omega)
  show _ = b (c + k)
  rw [← this, ByteArray.getElem_extract]

set_option maxRecDepth 100000 in
set_option maxHeartbeats 1000000 in
theorem readPiece_c (s : ByteArray) (L : Nat) (b : Nat → Nat) (w : World) (hs : Sb s L b) (hL : L ≤ 19) (hd : Dig b L) :
    Calls Tryz.prog 166 #[.string s] w fun e w' => e = .returned (.int .u64 (dn b L)) ∧ w' = w := by
  obtain ⟨rfl, hb⟩ := hs
  have HB := hid hb
  have HD := hid hd
  clear hb hd
  go_enter Tryz.func166, Tryz.ntmps166
  go_wp2
  go_loop [3, 7] (fun c t => ∃ (k v : Nat), k ≤ s.size ∧ t = .int .i64 k ∧ c = .int .u64 v ∧ Hid (dn b k = v)) (fun _ t => s.size - (intOf t).toNat)
  case atStart => exact ⟨0, 0, by omega, rfl, rfl, rfl⟩
  case round =>
    obtain ⟨k, v, hk, rfl, rfl, HV⟩ := hrel
    by_cases hlt : k < s.size
    · obtain ⟨x, hx⟩ : ∃ x, b k = x := ⟨_, rfl⟩
      have hc : (s[k]'hlt).toNat = x := by rw [HB.out k hlt, hx]
      have hx1 := HD.out k hlt
      rw [hx] at hx1
      obtain ⟨x0, x1⟩ := hx1
      have hv : v < 10 ^ k := by rw [← HV.out]; exact dn_lt (HD.out.mono (by omega))
      have hv2 : v < 10 ^ 18 := Nat.lt_of_lt_of_le hv (Nat.pow_le_pow_right (by decide) (by omega))
      have hv3 : (v : Int) < 1000000000000000000 := by omega
      have hsub : ((x : Int) - 48) % 256 = ((x - 48 : Nat) : Int) := by omega
      have HX := hid hx
      clear hv hv2 hx
      go_wp2
      go_round
      case rel =>
        refine ⟨k + 1, v * 10 + (x - 48), by omega, by go_num, ?_, ?_⟩
        · congr 1; omega
        · show dn b k * 10 + (b k - 48) = _
          rw [HV.out, HX.out]
      case measure => simp [intOf]; omega
    · obtain rfl : k = s.size := by omega
      go_wp2
      go_ret
      exact ⟨by rw [HV.out]; rfl, rfl⟩

/-- isNumber, told. -/
def IsNum (b : Nat → Nat) (L : Nat) : Prop := Dig b L ∧ 0 < L ∧ (L = 1 ∨ b 0 ≠ 48)
def digB (b : Nat → Nat) : Nat → Bool | 0 => true | n + 1 => digB b n && (decide (48 ≤ b n) && decide (b n ≤ 57))
theorem digB_iff (b : Nat → Nat) (L : Nat) : digB b L = true ↔ Dig b L := by
  induction L with
  | zero => exact ⟨fun _ k hk => by omega, fun _ => rfl⟩
  | succ n ih =>
    simp only [digB, Bool.and_eq_true, decide_eq_true_eq, ih]
    constructor
    · rintro ⟨h, h1, h2⟩ k hk
      by_cases hkn : k = n
      · subst hkn; exact ⟨h1, h2⟩
      · exact h k (by omega)
    · exact fun h => ⟨fun k hk => h k (by omega), h n (by omega)⟩
def numB (b : Nat → Nat) (L : Nat) : Bool := digB b L && (decide (0 < L) && (decide (L = 1) || !decide (b 0 = 48)))
theorem numB_iff (b : Nat → Nat) (L : Nat) : numB b L = true ↔ IsNum b L := by
  simp [numB, IsNum, digB_iff]
theorem numB_true {b : Nat → Nat} {L : Nat} (h : IsNum b L) : numB b L = true := (numB_iff b L).2 h
theorem numB_false {b : Nat → Nat} {L : Nat} (h : ¬ IsNum b L) : numB b L = false := by
  cases hn : numB b L
  · rfl
  · exact absurd ((numB_iff b L).1 hn) h

theorem sb_eq {s t : ByteArray} {L : Nat} {b : Nat → Nat} (hs : Sb s L b) (ht : Sb t L b) : s = t := by
  obtain ⟨h1, h2⟩ := hs
  obtain ⟨h3, h4⟩ := ht
  apply ByteArray.ext_getElem (by omega)
  intro i hi hj
  apply UInt8.toNat_inj.1
  rw [h2 i hi, h4 i hj]
theorem sb_zero {s : ByteArray} {b : Nat → Nat} (hs : Sb s 1 b) (h : b 0 = 48) : s = ⟨#[48]⟩ := by
  refine sb_eq hs ⟨rfl, fun k hk => ?_⟩
  obtain rfl : k = 0 := by have : (ByteArray.mk #[48]).size = 1 := rfl
                           omega
  rw [h]; rfl
theorem toList_ne {s t : ByteArray} (h : s ≠ t) : (s.toList == t.toList) = false := by
  simp only [ByteArray.toList_eq, beq_eq_false_iff_ne]
  intro he
  exact h (ByteArray.ext (Array.toList_inj.1 he))
theorem toList_isE {s : ByteArray} (h : s.size ≠ 0) : s.toList.isEmpty = false := by
  rw [ByteArray.toList_eq]
  have : s.data.size ≠ 0 := h
  cases hl : s.data.toList with
  | nil => exact absurd (by rw [← Array.length_toList, hl]; rfl) this
  | cons a l => rfl

set_option maxRecDepth 100000 in
set_option maxHeartbeats 1000000 in
theorem isNumber_c (s : ByteArray) (L : Nat) (b : Nat → Nat) (w : World) (hs : Sb s L b) (hL : L ≤ 9223372036854775807) :
    Calls Tryz.prog 118 #[.string s] w fun e w' => e = .returned (.bool (numB b L)) ∧ w' = w := by
  have HSb := hid hs
  obtain ⟨rfl, hb⟩ := hs
  have HB := hid hb
  clear hb
  obtain ⟨R, hR⟩ : ∃ R, numB b s.size = R := ⟨_, rfl⟩
  rw [hR]
  have HRe := hid hR
  clear hR
  go_enter Tryz.func118, Tryz.ntmps118
  go_wp2
  go_loop [6] (fun t => ∃ (k : Nat), k ≤ s.size ∧ t = .int .i64 k ∧ Hid (Dig b k)) (fun t => s.size - (intOf t).toNat)
  case atStart => exact ⟨0, by omega, rfl, fun j hj => by omega⟩
  case round =>
    obtain ⟨k, hk, rfl, HD⟩ := hrel
    by_cases hlt : k < s.size
    · obtain ⟨x, hx⟩ : ∃ x, b k = x := ⟨_, rfl⟩
      have hc : (s[k]'hlt).toNat = x := by rw [HB.out k hlt, hx]
      have HX := hid hx
      clear hx
      by_cases h1 : x < 48
      · have h1b : decide ((x : Int) < 48) = true := by simp; omega
        have hf : R = false := by rw [← HRe.out]; exact numB_false (fun h => by have := h.1 k hlt; rw [HX.out] at this; omega)
        subst hf
        go_wp2
        go_ret
        exact ⟨rfl, rfl⟩
      · have h1b : decide ((x : Int) < 48) = false := by simp; omega
        by_cases h2 : 57 < x
        · have h2b : decide ((57 : Int) < x) = true := by simp; omega
          have hf : R = false := by rw [← HRe.out]; exact numB_false (fun h => by have := h.1 k hlt; rw [HX.out] at this; omega)
          subst hf
          go_wp2
          go_ret
          exact ⟨rfl, rfl⟩
        · have h2b : decide ((57 : Int) < x) = false := by simp; omega
          go_wp2
          go_round
          case rel =>
            refine ⟨k + 1, by omega, by go_num, fun j hj => ?_⟩
            by_cases hjk : j = k
            · subst hjk; rw [HX.out]; omega
            · exact HD.out j (by omega)
          case measure => simp [intOf]; omega
    · obtain rfl : k = s.size := by omega
      by_cases h0 : s.size = 0
      · have e0 : s = ⟨#[]⟩ := by
          have : s.data.size = 0 := h0
          cases s with | mk d => simp at this; subst this; rfl
        have hf : R = false := by rw [← HRe.out]; exact numB_false (fun h => by have := h.2.1; omega)
        subst hf
        subst e0
        go_wp2
        go_ret
        exact ⟨rfl, rfl⟩
      · obtain ⟨x, hx⟩ : ∃ x, b 0 = x := ⟨_, rfl⟩
        have hc : (s[0]'(by omega)).toNat = x := by rw [HB.out 0 (by omega), hx]
        have HX := hid hx
        clear hx
        by_cases hz : s = ⟨#[48]⟩
        · have h1 : s.size = 1 := by rw [hz]; rfl
          have hf : R = true := by rw [← HRe.out]; exact numB_true ⟨HD.out, by omega, .inl h1⟩
          subst hf
          clear h1 hc
          subst hz
          go_wp2
          go_ret
          exact ⟨rfl, rfl⟩
        · have heq : (s.toList == [48]) = false := by have := toList_ne hz; rwa [ByteArray.toList_eq ⟨#[48]⟩] at this
          have hem := toList_isE h0
          by_cases hx0 : x = 48
          · have hf : R = false := by
              rw [← HRe.out]
              refine numB_false (fun h => ?_)
              rcases h.2.2 with h1 | h1
              · have hs := HSb.out
                rw [h1] at hs
                exact hz (sb_zero hs (by rw [HX.out]; exact hx0))
              · rw [HX.out] at h1; exact h1 hx0
            subst hf
            have hxb : ((x : Int) != 48) = false := by simp; omega
            clear hz
            go_wp2
            go_ret
            exact ⟨rfl, rfl⟩
          · have hf : R = true := by rw [← HRe.out]; exact numB_true ⟨HD.out, by omega, .inr (by rw [HX.out]; exact hx0)⟩
            subst hf
            have hxb : ((x : Int) != 48) = true := by simp; omega
            clear hz
            go_wp2
            go_ret
            exact ⟨rfl, rfl⟩
end Go.Proofs.YtclopblgdiahiaaGreatDoor
namespace Go.Proofs.YtclopblgdiahiaaGreatDoor
open Go.RowKit

theorem Sb.mid {s L b} (h : Sb s L b) {i j : Nat} (hij : i ≤ j) (hj : j ≤ L) : Sb (s.extract i j) (j - i) (bsh b i) := by
  obtain ⟨h1, h2⟩ := h
  refine ⟨by simp; omega, fun k hk => ?_⟩
  have hk' : k < j - i := by simp at hk; omega
  have := h2 (i + k) (by omega)
  show _ = b (i + k)
  rw [← this, ByteArray.getElem_extract]
theorem Sb.app {s t L M b c} (hs : Sb s L b) (ht : Sb t M c) : Sb (s ++ t) (L + M) (fun k => if k < L then b k else c (k - L)) := by
  obtain ⟨h1, h2⟩ := hs
  obtain ⟨h3, h4⟩ := ht
  refine ⟨by simp; omega, fun k hk => ?_⟩
  simp only [ByteArray.size_append] at hk
  show _ = if k < L then b k else c (k - L)
  by_cases h : k < L
  · rw [if_pos h, ← h2 k (by omega), ByteArray.getElem_append_left (by omega)]
  · rw [if_neg h, ← h4 (k - L) (by omega), ByteArray.getElem_append_right (by omega)]
    simp only [h1]
theorem Sb.congr {s L b c} (h : Sb s L b) (he : ∀ k, k < L → b k = c k) : Sb s L c := ⟨h.1, fun k hk => by rw [h.2 k hk, he k (by have := h.1; omega)]⟩
theorem sb_digits : Sb ⟨#[48, 49, 50, 51, 52, 53, 54, 55, 56, 57]⟩ 10 (fun k => 48 + k) := by
  refine ⟨rfl, fun k hk => ?_⟩
  have : k < 10 := hk
  have : ∀ k : Fin 10, ((ByteArray.mk #[48, 49, 50, 51, 52, 53, 54, 55, 56, 57])[k.1]'(k.2)).toNat = 48 + k.1 := by decide
  exact this ⟨k, hk⟩
/-- The digit of V at place e, as a byte. -/
def dg8 (V e : Nat) : Nat := 48 + V / 10 ^ e % 10
/-- The string holds the last m digits of V. -/
def Low10 (s : ByteArray) (V m : Nat) : Prop := Sb s m (fun k => dg8 V (m - 1 - k))
theorem sb_nil (b : Nat → Nat) : Sb ⟨#[]⟩ 0 b := by
  refine ⟨rfl, fun k hk => absurd hk ?_⟩
  have : (ByteArray.mk #[]).size = 0 := rfl
  omega
theorem low_nil (V : Nat) : Low10 ⟨#[]⟩ V 0 := sb_nil _
theorem sb_dec (V : Nat) : Sb ⟨(Lib.decDigits V).toArray⟩ (Lib.nDigits V) (fun k => dg8 V (Lib.nDigits V - 1 - k)) := by
  refine ⟨by show (Lib.decDigits V).toArray.size = _; simp [Lib.decDigits_length], fun k hk => ?_⟩
  have hk' : k < Lib.nDigits V := by
    have : (ByteArray.mk (Lib.decDigits V).toArray).size = Lib.nDigits V := by show (Lib.decDigits V).toArray.size = _; simp [Lib.decDigits_length]
    omega
  have h := byt_dec V k hk'
  unfold byt dgi at h
  rw [List.getD_eq_getElem?_getD, List.getElem?_eq_getElem (by rw [Lib.decDigits_length]; exact hk')] at h
  simp only [Option.getD_some] at h
  show ((Lib.decDigits V).toArray[k]'_).toNat = 48 + V / 10 ^ (Lib.nDigits V - 1 - k) % 10
  simp only [List.getElem_toArray]
  omega
/-- A digit put in front. -/
theorem Sb.front {p : ByteArray} {b : Nat → Nat} {i d : Nat} (h : Sb p i b) (hd : d < 10) : Sb ((ByteArray.mk #[48, 49, 50, 51, 52, 53, 54, 55, 56, 57]).extract d (d + 1) ++ p) (i + 1) (fun k => if k = 0 then 48 + d else b (k - 1)) := by
  have := (sb_digits.mid (i := d) (j := d + 1) (by omega) (by omega)).app h
  rw [show d + 1 - d = 1 by omega, Nat.add_comm 1 i] at this
  refine this.congr (fun k hk => ?_)
  by_cases h0 : k = 0
  · subst h0; simp [bsh]
  · rw [if_neg (by omega), if_neg h0]

theorem dig_low (Q R i : Nat) (hi : i < 9) : (Q * 1000000000 + R) / 10 ^ i % 10 = R / 10 ^ i % 10 := by
  rcases (show i = 0 ∨ i = 1 ∨ i = 2 ∨ i = 3 ∨ i = 4 ∨ i = 5 ∨ i = 6 ∨ i = 7 ∨ i = 8 by omega) with rfl | rfl | rfl | rfl | rfl | rfl | rfl | rfl | rfl <;> simp only [Nat.reducePow] <;> omega
/-- One round of the text. -/
theorem text_step {q : Nat → Int} {V m i k1 Qn Rn nn n : Nat} (hq : vd q k1 = (Qn : Int)) (h1 : 0 < k1 → 0 < Qn) (h2 : k1 = 0 → Qn = 0) (hA : V / 10 ^ m = Qn * 1000000000 + Rn) (hpos : 0 < V / 10 ^ m) (hB : V < 10 ^ (10 * n)) (hR : Rn < 1000000000) (hn : nn = Rn / 10 ^ i) (hI : i = 0 ∨ 0 < Qn ∨ 0 < Rn / 10 ^ (i - 1)) (hex : i = 9 ∨ k1 = 0 ∧ nn = 0) :
    vd q k1 = (V / 10 ^ (m + i) : Nat) ∧ (k1 = 0 → m + i = Lib.nDigits V) ∧ m + i ≤ 10 * n ∧ V / 10 ^ (m + i) < V / 10 ^ m := by
  have hVQ : V / 10 ^ (m + i) = Qn := by
    rw [Nat.pow_add, ← Nat.div_div_eq_div_mul, hA]
    rcases hex with rfl | ⟨hk, hz⟩
    · simp only [Nat.reducePow]; omega
    · have := h2 hk
      subst this
      rw [hn] at hz
      simpa using hz
  have hend : k1 = 0 → m + i = Lib.nDigits V := by
    intro hk
    have hQ := h2 hk
    subst hQ
    have hRp : 0 < Rn := by omega
    have hi0 : i ≠ 0 := by
      rintro rfl
      rcases hex with h | ⟨_, hz⟩
      · omega
      · rw [hn] at hz; simp at hz; omega
    have hR1 : 0 < Rn / 10 ^ (i - 1) := by
      rcases hI with h | h | h
      · omega
      · omega
      · exact h
    have e1 : V / 10 ^ (m + i - 1) = Rn / 10 ^ (i - 1) := by
      rw [show m + i - 1 = m + (i - 1) by omega, Nat.pow_add, ← Nat.div_div_eq_div_mul, hA]; simp
    have l1 : 10 ^ (m + i - 1) ≤ V := by
      apply Nat.le_of_not_lt; intro hlt
      rw [Nat.div_eq_of_lt hlt] at e1; omega
    have l2 : V < 10 ^ (m + i) := by
      apply Nat.lt_of_not_le; intro hle
      have := Nat.div_pos hle (Nat.pow_pos (n := m + i) (by decide : 0 < 10)); omega
    have := Lib.nDigits_unique (m + i - 1) V l1 (by rw [show m + i - 1 + 1 = m + i by omega]; exact l2)
    omega
  refine ⟨by rw [hVQ]; exact hq, hend, ?_, ?_⟩
  · by_cases hk : k1 = 0
    · rw [hend hk]
      by_cases h10 : 1 ≤ 10 * n
      · exact nDigits_le hB h10
      · have : 10 * n = 0 := by omega
        rw [this] at hB
        simp at hB
        subst hB
        simp at hpos
    · have hp : 10 ^ (m + i) ≤ V := by
        apply Nat.le_of_not_lt; intro hlt
        rw [Nat.div_eq_of_lt hlt] at hVQ
        have := h1 (by omega); omega
      have : 10 ^ (m + i) < 10 ^ (10 * n) := Nat.lt_of_le_of_lt hp hB
      exact Nat.le_of_lt ((Nat.pow_lt_pow_iff_right (by decide)).1 this)
  · rw [hVQ, hA]; rw [hA] at hpos; omega
theorem low_app {p s : ByteArray} {V m i : Nat} (hp : Sb p i (fun k => dg8 V (m + i - 1 - k))) (hs : Low10 s V m) : Low10 (p ++ s) V (m + i) := by
  have := hp.app hs
  rw [Nat.add_comm i m] at this
  refine this.congr (fun k hk => ?_)
  by_cases h : k < i
  · rw [if_pos h]
  · rw [if_neg h]; congr 1; omega
theorem vd_pos_iff {q : Nat → Int} {k Q : Nat} (hd : Dg q k) (hf : Fm q k) (hv : vd q k = (Q : Int)) : 0 < k → 0 < Q := fun h => by
  have := vd_form_ge hd hf h; have := pd_pos (k - 1); omega
theorem vd_zero_of {q : Nat → Int} {k Q : Nat} (hv : vd q k = (Q : Int)) (h : k = 0) : Q = 0 := by subst h; simp [vd] at hv; omega

end Go.Proofs.YtclopblgdiahiaaGreatDoor
namespace Go.Proofs.YtclopblgdiahiaaGreatDoor
open Go.RowKit

set_option maxRecDepth 100000 in
set_option maxHeartbeats 2000000 in
/-- Sub: the difference, on digits. -/
theorem rsubO_c (ao bo : Option Addr) (n m ca cb : Nat) (f h : Nat → Int) (w : World) (hn : n ≤ 1048576) (hm : m ≤ 1048576) (hmn : m ≤ n) (hr : Rd .u64 w ao n f) (hs : Rd .u64 w bo m h) (hf : Dg f n) (hh : Dg h m) (hle : vd h m ≤ vd f n) :
    Calls Tryz.prog 107 #[.slice ao n ca, .slice bo m cb] w fun e w' => ∃ ao' k cap' D, e = .returned (.slice ao' k cap') ∧ Below w.heap.size w w' ∧ Rd .u64 w' ao' k D ∧ k ≤ n ∧ Dg D k ∧ Fm D k ∧ (∀ a, ao' = some a → w.heap.size ≤ a.block) ∧ vd D k = vd f n - vd h m := by
  obtain ⟨i0, hi, hz0, hz1, hz2⟩ := info_parts Tryz.infoU64
  have RA := hid hr
  have RB := hid hs
  have DA := hid hf
  have DB := hid hh
  have HLe := hid hle
  clear hr hs hf hh hle
  go_enter Tryz.func107, Tryz.ntmps107
  go_wp2_with (at_make; refine wpList_make_own w rfl (.const (.int .i64 0)) (.tmp 11) 22 rfl w.heap.size 28 i0 (.int .u64 0) 1 Tryz.underlying22 hi hz0 hz1 .i64 .i64 n n rfl rfl (by omega) (by rw [hz2]; omega) (by unfold maxLen; omega) (Nat.le_refl _) ?_; intro w1 hown1 hgr1)
  have hb1 : Below w.heap.size w w1 := (Below.refl _ _).grown hgr1 (Nat.le_refl _) (fun k h => by cases h)
  have HO1 := hid (show Own .u64 28 w1 w.heap.size (.slice (some ⟨w.heap.size, 0, none⟩) 0 n) 0 (fun _ => 0) from hown1)
  clear hown1 hgr1
  go_loopw [5, 6, 15] (fun v c t wr => ∃ (k : Nat) (cc : Int) (D : Nat → Int), k ≤ n ∧ t = .int .i64 k ∧ c = .int .u64 cc ∧ 0 ≤ cc ∧ cc ≤ 1 ∧ Below w.heap.size w wr ∧ Hid (Own .u64 28 wr w.heap.size v k D) ∧ Hid (Dg D k) ∧ Hid (vd D k - cc * pd k = vd f k - vd (ext h m) k)) (fun _ _ t _ => n - (intOf t).toNat)
  case atStart => exact ⟨0, 0, fun _ => 0, by omega, rfl, rfl, by omega, by omega, hb1, HO1.out, fun j hj => by omega, by simp [Hid, vd, pd]⟩
  case round =>
    clear hb1 HO1
    obtain ⟨k, cc, D, hk, rfl, rfl, c0, c1, hbel, HO, HDg, HV⟩ := hrel
    by_cases hlt : k < n
    · have hrA := RA.out
      obtain ⟨b, o, rfl⟩ := hrA.at (by omega)
      obtain ⟨x, hx⟩ : ∃ x, f k = x := ⟨_, rfl⟩
      have hcell : wr.cell? ⟨b, o + k, none⟩ = some (.int .u64 x) := by rw [← hx]; exact (hrA.below hbel (Nat.le_refl _)).cell hlt
      obtain ⟨x0, x1⟩ := DA.out k hlt
      rw [hx] at x0 x1
      have HX := hid hx
      clear hx hrA
      by_cases hlt2 : k < m
      · have hrB := RB.out
        obtain ⟨b', o', rfl⟩ := hrB.at (by omega)
        obtain ⟨y, hy⟩ : ∃ y, h k = y := ⟨_, rfl⟩
        have hcelb : wr.cell? ⟨b', o' + k, none⟩ = some (.int .u64 y) := by rw [← hy]; exact (hrB.below hbel (Nat.le_refl _)).cell hlt2
        obtain ⟨y0, y1⟩ := DB.out k hlt2
        rw [hy] at y0 y1
        have HY := hid (show ext h m k = y from (ext_in _ _ _ hlt2).trans hy)
        clear hy hrB
        by_cases hxy : x < cc + y
        · go_wp2_with (at_builtin; refine wpList_append_own_list .u64 _ rfl (.tmp 36) (.tmp 40) 22 rfl w.heap.size 28 8 Tryz.underlying22 Tryz.infoU64 _ k D rfl (Own.alloc HO.out _) wr.heap.size 0 1 1 (fun _ => x + 4294967296 - (cc + y)) rfl (rd_new1 wr _ _) ?c1 ?c2 ?c3 ?_)
          case c1 => unfold maxLen; omega
          case c2 => omega
          case c3 => have := hbel.size; simp; omega
          intro v' w' hown hgr
          have hbel2 : Below w.heap.size w w' := (hbel.alloc hbel.size _).grown hgr (by have := hbel.size; simp; omega) (fun k h => (Own.ge HO.out k h))
          have HO2 := hid hown
          clear hown hgr HO
          go_wp2
          go_roundw
          case rel => exact ⟨k + 1, 1, _, by omega, by go_num, rfl, by omega, by omega, hbel2, HO2.out, dg_cat1 HDg.out (by omega), dborrow_step HV.out HX.out HY.out (by omega)⟩
          case measure => simp [intOf]; omega
        · go_wp2_with (at_builtin; refine wpList_append_own_list .u64 _ rfl (.tmp 36) (.tmp 40) 22 rfl w.heap.size 28 8 Tryz.underlying22 Tryz.infoU64 _ k D rfl (Own.alloc HO.out _) wr.heap.size 0 1 1 (fun _ => x - (cc + y)) rfl (rd_new1 wr _ _) ?c1 ?c2 ?c3 ?_)
          case c1 => unfold maxLen; omega
          case c2 => omega
          case c3 => have := hbel.size; simp; omega
          intro v' w' hown hgr
          have hbel2 : Below w.heap.size w w' := (hbel.alloc hbel.size _).grown hgr (by have := hbel.size; simp; omega) (fun k h => (Own.ge HO.out k h))
          have HO2 := hid hown
          clear hown hgr HO
          go_wp2
          go_roundw
          case rel => exact ⟨k + 1, 0, _, by omega, by go_num, rfl, by omega, by omega, hbel2, HO2.out, dg_cat1 HDg.out (by omega), dborrow_step HV.out HX.out HY.out (by omega)⟩
          case measure => simp [intOf]; omega
      · have HY := hid (show ext h m k = 0 from ext_out _ _ _ (by omega))
        by_cases hxy : x < cc
        · go_wp2_with (at_builtin; refine wpList_append_own_list .u64 _ rfl (.tmp 36) (.tmp 40) 22 rfl w.heap.size 28 8 Tryz.underlying22 Tryz.infoU64 _ k D rfl (Own.alloc HO.out _) wr.heap.size 0 1 1 (fun _ => x + 4294967296 - cc) rfl (rd_new1 wr _ _) ?c1 ?c2 ?c3 ?_)
          case c1 => unfold maxLen; omega
          case c2 => omega
          case c3 => have := hbel.size; simp; omega
          intro v' w' hown hgr
          have hbel2 : Below w.heap.size w w' := (hbel.alloc hbel.size _).grown hgr (by have := hbel.size; simp; omega) (fun k h => (Own.ge HO.out k h))
          have HO2 := hid hown
          clear hown hgr HO
          go_wp2
          go_roundw
          case rel => exact ⟨k + 1, 1, _, by omega, by go_num, rfl, by omega, by omega, hbel2, HO2.out, dg_cat1 HDg.out (by omega), dborrow_step HV.out HX.out HY.out (by omega)⟩
          case measure => simp [intOf]; omega
        · go_wp2_with (at_builtin; refine wpList_append_own_list .u64 _ rfl (.tmp 36) (.tmp 40) 22 rfl w.heap.size 28 8 Tryz.underlying22 Tryz.infoU64 _ k D rfl (Own.alloc HO.out _) wr.heap.size 0 1 1 (fun _ => x - cc) rfl (rd_new1 wr _ _) ?c1 ?c2 ?c3 ?_)
          case c1 => unfold maxLen; omega
          case c2 => omega
          case c3 => have := hbel.size; simp; omega
          intro v' w' hown hgr
          have hbel2 : Below w.heap.size w w' := (hbel.alloc hbel.size _).grown hgr (by have := hbel.size; simp; omega) (fun k h => (Own.ge HO.out k h))
          have HO2 := hid hown
          clear hown hgr HO
          go_wp2
          go_roundw
          case rel => exact ⟨k + 1, 0, _, by omega, by go_num, rfl, by omega, by omega, hbel2, HO2.out, dg_cat1 HDg.out (by omega), dborrow_step HV.out HX.out HY.out (by omega)⟩
          case measure => simp [intOf]; omega
    · have hkn : k = n := by omega
      subst hkn
      obtain ⟨ao', cap', hv, hcc, hnn, hml, hrd, hlt3⟩ := HO.out.shape
      unfold maxLen at hml
      subst hv
      have HLT := hid hlt3
      clear HO hlt3
      go_wp2_with fail
      refine (low_c ao' k cap' D wr hcc hml hrd hnn).mono ?_
      rintro e w2 ⟨rfl, m', hm1, hz, hfm, rfl⟩
      have HZ := hid hz
      have HFM := hid hfm
      clear hz hfm
      go_wp2
      go_ret
      refine ⟨ao', m', cap', _, rfl, hbel, hrd.take hm1, by omega, HDg.out.mono hm1, HFM.out, fun a ha => (HLT.out a ha).1, ?_⟩
      have hv := HV.out
      have h1 := vd_lt HDg.out
      have h2 := HLe.out
      rw [vd_ext_list _ _ _ hmn] at hv
      rw [trim_vald hm1 HZ.out]
      by_cases hc : cc = 0
      · subst hc; simpa using hv
      · obtain rfl : cc = 1 := by omega
        omega

/-- The same, without the place. -/
theorem rsub_c (ao bo : Option Addr) (n m ca cb : Nat) (f h : Nat → Int) (w : World) (hn : n ≤ 1048576) (hm : m ≤ 1048576) (hmn : m ≤ n) (hr : Rd .u64 w ao n f) (hs : Rd .u64 w bo m h) (hf : Dg f n) (hh : Dg h m) (hle : vd h m ≤ vd f n) :
    Calls Tryz.prog 107 #[.slice ao n ca, .slice bo m cb] w fun e w' => ∃ ao' k cap' D, e = .returned (.slice ao' k cap') ∧ Below w.heap.size w w' ∧ Rd .u64 w' ao' k D ∧ k ≤ n ∧ Dg D k ∧ Fm D k ∧ vd D k = vd f n - vd h m :=
  (rsubO_c ao bo n m ca cb f h w hn hm hmn hr hs hf hh hle).mono (fun _ _ ⟨a, k, c, D, h1, h2, h3, h4, h5, h6, _, h7⟩ => ⟨a, k, c, D, h1, h2, h3, h4, h5, h6, h7⟩)

end Go.Proofs.YtclopblgdiahiaaGreatDoor
namespace Go.Proofs.YtclopblgdiahiaaGreatDoor
open Go.RowKit

/-- A number that the reference answers: it can be read; in form. -/
structure Ans (C : Nat) (w w' : World) (ao : Option Addr) (n : Nat) (f : Nat → Int) : Prop where
  bel : Below w.heap.size w w'
  rd : Rd .u64 w' ao n f
  le : n ≤ C
  lm : Lm f n
  fm : Fm f n

theorem and_fm {f h : Nat → Int} {n m : Nat} (e : (fmB f n && fmB h m) = true) : Fm f n ∧ Fm h m := by
  simp only [Bool.and_eq_true] at e
  exact ⟨fm_of e.1, fm_of e.2⟩
theorem nand_fm {f h : Nat → Int} {n m : Nat} (e : (fmB f n && fmB h m) = false) : ¬ (Fm f n ∧ Fm h m) := fun ⟨a, b⟩ => by
  rw [(fmB_iff f n).2 a, (fmB_iff h m).2 b] at e
  cases e

end Go.Proofs.YtclopblgdiahiaaGreatDoor
namespace Go.Proofs.YtclopblgdiahiaaGreatDoor
open Go.RowKit

/-- Block g: its first k numbers are D. -/
def PB (w : World) (g cap k : Nat) (D : Nat → Int) : Prop := ∃ arr : Array Value, w.heap[g]? = some (.cells arr 28 (0, 0)) ∧ arr.size = cap ∧ ∀ j, j < k → arr[j]? = some (.int .u64 (D j))
theorem PB.cell {w g cap k D} (h : PB w g cap k D) {j : Nat} (hj : j < k) : w.cell? ⟨g, j, none⟩ = some (.int .u64 (D j)) := by
  obtain ⟨arr, h1, h2, h3⟩ := h
  simp [World.cell?, h1, h3 j hj]
theorem PB.frozen {w g cap k D} (h : PB w g cap k D) (j : Nat) : w.frozen? ⟨g, j, none⟩ = false := by
  obtain ⟨arr, h1, h2, h3⟩ := h
  simp [World.frozen?, h1]
theorem PB.lt {w g cap k D} (h : PB w g cap k D) : g < w.heap.size := by
  obtain ⟨arr, h1, h2, h3⟩ := h
  exact (Array.getElem?_eq_some_iff.1 h1).1
theorem PB.set {w g cap k D} (h : PB w g cap k D) (i : Nat) (v : Int) : PB (w.setCell ⟨g, i, none⟩ (.int .u64 v)) g cap k (upd D i v) := by
  obtain ⟨arr, h1, h2, h3⟩ := h
  refine ⟨arr.setIfInBounds i (.int .u64 v), ?_, by simpa using h2, fun j hj => ?_⟩
  · simp [World.setCell, Array.getElem?_modify, h1]
  · have hlt : j < arr.size := (Array.getElem?_eq_some_iff.1 (h3 j hj)).1
    by_cases hji : j = i
    · subst hji; simp [upd, hlt]
    · rw [Array.getElem?_setIfInBounds, if_neg (by omega), h3 j hj]; simp [upd, hji]
theorem Own.pb {w base v k D} (h : Own .u64 28 w base v k D) : (v = .slice none 0 0 ∧ k = 0) ∨ ∃ g cap, v = .slice (some ⟨g, 0, none⟩) k cap ∧ base ≤ g ∧ k ≤ cap ∧ cap ≤ maxLen ∧ PB w g cap k D := by
  obtain ⟨h1, h2⟩ := h
  rcases h2 with ⟨rfl, rfl⟩ | ⟨g, cap, cur, rfl, hb, hg, hn, hm, hs, ht⟩
  · exact .inl ⟨rfl, rfl⟩
  · refine .inr ⟨g, cap, rfl, hb, hn, hm, cur, hg, by omega, fun j hj => ?_⟩
    have e1 : (lst .u64 D k)[j]? = cur.toList[j]? := by
      rw [← ht, List.getElem?_take, if_pos (by omega)]
    rw [lst_get .u64 D k j hj] at e1
    simpa using e1.symm
theorem PB.own {w g cap k D} (h : PB w g cap k D) {base : Nat} (hb : base ≤ g) (hk : k ≤ cap) (hm : cap ≤ maxLen) : Own .u64 28 w base (.slice (some ⟨g, 0, none⟩) k cap) k D := by
  obtain ⟨arr, h1, h2, h3⟩ := h
  refine ⟨by rw [lst_length]; omega, .inr ⟨g, cap, arr, rfl, hb, h1, hk, hm, by omega, ?_⟩⟩
  apply List.ext_getElem?
  intro j
  by_cases hj : j < k
  · rw [List.getElem?_take, if_pos (by omega), lst_get _ _ _ _ hj]; simpa using h3 j hj
  · rw [List.getElem?_eq_none (by simp; omega), List.getElem?_eq_none (by rw [lst_length]; omega)]

/-- Ten times a number and a digit: one round. -/
theorem ten_step {D D' : Nat → Int} {j : Nat} {cc x t : Int} (hv : vd D' j + cc * pd j = 10 * vd D j + x) (ht : t = cc + 10 * D j) :
    vd (upd D' j (t % 4294967296)) (j + 1) + (t / 4294967296) * pd (j + 1) = 10 * vd D (j + 1) + x := by
  have e1 : vd (upd D' j (t % 4294967296)) j = vd D' j := vd_congr (fun i hi => upd_other _ _ _ _ (by omega))
  rw [vd_succ, e1, upd_same, vd_succ, pd_succ]
  have e2 := Int.mul_ediv_add_emod t 4294967296
  have e3 : t * pd j = (4294967296 * (t / 4294967296) + t % 4294967296) * pd j := by rw [e2]
  rw [ht] at e3
  rw [← ht] at e3
  grind
theorem fm_top {D : Nat → Int} {k : Nat} (hd : Dg D k) (hv : k = 0 ∨ pd (k - 1) ≤ vd D k) : Fm D k := by
  by_cases h0 : k = 0
  · exact .inl h0
  · right
    intro hz
    obtain ⟨m, rfl⟩ : ∃ m, k = m + 1 := ⟨k - 1, by omega⟩
    have h1 := vd_lt (hd.mono (m := m) (by omega))
    simp only [Nat.add_sub_cancel] at hz hv
    rw [vd_succ, hz] at hv
    omega

/-- What the reference's Read leaves. -/
def RAns (w w' : World) (ao : Option Addr) (k : Nat) (D : Nat → Int) (L : Nat) (b : Nat → Nat) (R : Bool) : Prop :=
  Below w.heap.size w w' ∧ Rd .u64 w' ao k D ∧ k ≤ L ∧ Dg D k ∧ Fm D k ∧ (R = true → vd D k = (dn b L : Nat)) ∧ (∀ a, ao = some a → w.heap.size ≤ a.block)
theorem RAns.no (w : World) (L : Nat) (b : Nat → Nat) : RAns w w none 0 (fun _ => 0) L b false :=
  ⟨Below.refl _ _, Rd.zero, by omega, fun j hj => by omega, .inl rfl, (fun h => by cases h), fun a h => by cases h⟩

end Go.Proofs.YtclopblgdiahiaaGreatDoor
namespace Go.Proofs.YtclopblgdiahiaaGreatDoor
open Go.RowKit

set_option maxRecDepth 100000 in
set_option maxHeartbeats 4000000 in
theorem join_c (c : Nat) : ∀ (s : ByteArray) (L : Nat) (b : Nat → Nat) (bo : Option Addr) (cb : Nat) (w : World) (_ : Sb s L b) (_ : Dig b L) (_ : L ≤ 19 * 2 ^ c) (_ : Bas w bo c) (_ : c ≤ cb) (_ : cb ≤ maxLen) (_ : bo = none → cb = 0) (_ : c ≤ 30),
    Calls Tryz.prog 145 #[.string s, .slice bo c cb] w fun e w' => ∃ ao k cap f, e = .returned (.slice ao k cap) ∧ Res (4 * 2 ^ c) w w' ao k cap f ∧ vf f k = (dn b L : Nat) := by
  induction c with
  | zero =>
    intro s L b bo cb w hs hd hL hbas hcb hcbm hnil hc30
    have C1 := hid (readPiece_c s L b w hs (by simpa using hL) hd)
    have hlt : dn b L < 10 ^ 19 := Nat.lt_of_lt_of_le (dn_lt hd) (Nat.pow_le_pow_right (by decide) (by simpa using hL))
    obtain ⟨V, hV⟩ : ∃ V, dn b L = V := ⟨_, rfl⟩
    rw [hV] at C1 hlt ⊢
    have hlt2 : (V : Int) < 18446744073709551616 := by omega
    clear hs hd hL hbas hV hlt hnil
    go_enter Tryz.func145, Tryz.ntmps145
    go_wp2_with fail
    refine C1.out.mono ?_
    rintro e w1 ⟨rfl, rfl⟩
    go_wp2_with fail
    refine (fromWord_c V _ (by omega) hlt2).mono ?_
    rintro e w1 ⟨ao, k, cap, f, rfl, hres, hv⟩
    have HV := hid hv
    clear hv
    go_wp2
    go_ret
    exact ⟨ao, k, cap, f, rfl, hres.mono (by omega), HV.out⟩
  | succ c ih =>
    intro s L b bo cb w hs hd hL hbas hcb hcbm hnil hc30
    have IH := hid ih
    obtain ⟨p, hp⟩ : ∃ p, p = 2 ^ c := ⟨_, rfl⟩
    have hp0 : 1 ≤ p := by rw [hp]; exact Nat.pow_pos (by decide)
    have hp1 : p ≤ 1073741824 := by rw [hp]; exact Nat.pow_le_pow_right (n := 2) (by decide) (show c ≤ 30 by omega)
    have e4 : 4 * 2 ^ (c + 1) = 8 * p := by rw [Nat.pow_succ, ← hp]; omega
    rw [e4]
    have hL2 : L ≤ 2 * (19 * p) := by rw [Nat.pow_succ, ← hp] at hL; omega
    obtain ⟨K, hK⟩ : ∃ K, K = 19 * p := ⟨_, rfl⟩
    have hsh : IntKind.i64.wrap (19 * 2 ^ c) = (K : Int) := by
      have : (19 * 2 ^ c : Int) = K := by rw [hK, hp]; simp
      rw [this, IntKind.wrap_i64]; omega
    obtain ⟨cut, hcut⟩ : ∃ cut, cut = L - K := ⟨_, rfl⟩
    have hmax : max ((L : Int) - (K : Int)) 0 = (cut : Int) := by omega
    have hcL : cut ≤ L := by omega
    have hval : (dn b L : Int) = (dn b cut : Int) * tens c + (dn (bsh b cut) (L - cut) : Int) := by
      have e1 := dn_split b cut (L - cut)
      rw [show cut + (L - cut) = L by omega] at e1
      rw [e1]
      by_cases h : K ≤ L
      · have : L - cut = 19 * 2 ^ c := by rw [← hp]; omega
        rw [this]; unfold tens; simp
      · have : cut = 0 := by omega
        rw [this]; simp [dn]
    have hs1 := hs.take hcL
    have hs2 := hs.drop hcL
    obtain ⟨gb, u, arr, fr, hbo, hg, hcu, hnum⟩ := hbas c (by omega)
    subst hbo
    have hB0 := hbas.take (show c ≤ c + 1 by omega)
    have hsz := hs.1
    subst hsz
    have C1 := hid (fun W (h : Bas W (some ⟨gb, 0, none⟩) c) => ih (s.extract 0 cut) cut b (some ⟨gb, 0, none⟩) cb W hs1 (hd.mono hcL) (by rw [← hp]; omega) h (by omega) hcbm hnil (by omega))
    have C2 := hid (fun W (h : Bas W (some ⟨gb, 0, none⟩) c) => ih (s.extract cut s.size) (s.size - cut) (bsh b cut) (some ⟨gb, 0, none⟩) cb W hs2 (hd.bsh (by omega)) (by rw [← hp]; omega) h (by omega) hcbm hnil (by omega))
    have HVal := hid hval; have BAS := hid hbas; have BAS0 := hid hB0; have HPe := hid hp
    rw [← hp] at C1 C2
    have q1 : (cut : Int) ≤ (s.size : Int) := by omega
    have q2 : (c : Int) ≤ (cb : Int) := by omega
    have q3 : (c : Int) ≤ ((c + 1 : Nat) : Int) := by omega
    unfold maxLen at hcbm
    have hK2 : K ≤ 20401094656 := by omega
    have hL3 : s.size ≤ 40802189312 := by omega
    clear hs hd hL hbas hval hs1 hs2 hg hcu hnum hB0 hp e4 hK hcut hnil ih IH hL2 arr fr u
    go_enter Tryz.func145, Tryz.ntmps145
    go_upto_region 5 with fail
    go_cut [7] from 23 to 29 (fun v wx => ∃ ao k cap f, v = .slice ao k cap ∧ Res (4 * p) w wx ao k cap f ∧ vf f k = (dn b cut : Nat))
    case first =>
      go_region_with (go_at_call 145; refine (C1.out _ (by exact BAS0.out)).mono ?_; rintro e wl ⟨a1, k1, c1, f1, rfl, hres1, hv1⟩; have HV1 := hid hv1; clear hv1)
      all_goals
        go_wp2_with fail
        go_meet
        have B := hres1.bel
        exact ⟨a1, k1, c1, f1, rfl, hres1.ahead (by repeat (first | exact Below.refl _ _ | refine below_drewN ?_ _ | refine Below.drew ?_)), HV1.out⟩
    case rest =>
    rename World => w1
    obtain ⟨a1, k1, c1, f1, rfl, hres1, hv1⟩ := hcut
    have RES1 := hid hres1; have HV1 := hid hv1
    have BAS1 := hid (BAS.out.below hres1.bel); have BAS01 := hid (BAS0.out.below hres1.bel)
    clear hres1 hv1 BAS BAS0 C1
    go_upto_region 6 with fail
    go_cut [8] from 30 to 36 (fun v wx => ∃ ao k cap f, v = .slice ao k cap ∧ Res (4 * p) w1 wx ao k cap f ∧ vf f k = (dn (bsh b cut) (s.size - cut) : Nat))
    case first =>
      go_region_with (go_at_call 145; refine (C2.out _ (by exact BAS01.out)).mono ?_; rintro e wl ⟨a2, k2, c2, f2, rfl, hres2, hv2⟩; have HV2 := hid hv2; clear hv2)
      all_goals
        go_wp2_with fail
        go_meet
        have B := hres2.bel
        exact ⟨a2, k2, c2, f2, rfl, hres2.ahead (by repeat (first | exact Below.refl _ _ | refine below_drewN ?_ _ | refine Below.drew ?_)), HV2.out⟩
    case rest =>
    rename World => w2
    obtain ⟨a2, k2, c2, f2, rfl, hres2, hv2⟩ := hcut
    have BAS2 := hid (BAS1.out.below hres2.bel)
    obtain ⟨gb', u, arr, fr, hbo, hg, hcu, hnum⟩ := BAS2.out c (by omega)
    cases hbo
    obtain ⟨a3, n3, c3, f3, rfl, hr3, ht3, hl3, hf3, hn3, hvf3, hcap3, hcapm3⟩ := hnum
    rw [← HPe.out] at hn3
    have l1 := RES1.out.ncap
    have l2 := hres2.ncap
    have R1 := hid (RES1.out.rd.below hres2.bel (Nat.le_refl _)); have L1 := hid RES1.out.lm; have BE1 := hid RES1.out.bel; have BE2 := hid hres2.bel
    have R2 := hid hres2.rd; have L2 := hid hres2.lm; have HV2 := hid hv2; have R3 := hid hr3; have L3 := hid hl3; have HV3 := hid hvf3
    clear hres2 hv2 hr3 ht3 hl3 hf3 hvf3 hg BAS1 BAS01 BAS2 C2 RES1
    go_wp2_with fail
    refine (mul_c a1 a3 k1 n3 c1 c3 f1 f3 w2 (by omega) (by omega) l1.1 hcap3 (by omega) hcapm3 R1.out R3.out L1.out L3.out).mono ?_
    rintro e w3 ⟨a4, k4, c4, f4, rfl, hres4, hv4⟩
    have HV4 := hid hv4; have l4 := hres4.ncap
    have R4 := hid hres4.rd; have L4 := hid hres4.lm; have R22 := hid (R2.out.below hres4.bel (Nat.le_refl _)); have BE4 := hid hres4.bel
    clear hv4 hres4 R2 R1 R3
    go_wp2_with fail
    refine (add_c a4 a2 k4 k2 c4 c2 f4 f2 w3 (by omega) (by omega) R4.out R22.out L4.out L2.out).mono ?_
    rintro e w4 ⟨a5, k5, c5, f5, rfl, hres5, hv5⟩
    have HV5 := hid hv5
    clear hv5
    go_wp2
    go_ret
    have z1 := BE1.out.size; have z2 := BE2.out.size
    refine ⟨a5, k5, c5, f5, rfl, (hres5.ahead (BE1.out.trans ((BE2.out.mono z1).trans (BE4.out.mono (by omega))))).mono (by omega), ?_⟩
    rw [HV5.out, HV4.out, HV1.out, HV2.out, HV3.out, HVal.out]
end Go.Proofs.YtclopblgdiahiaaGreatDoor
namespace Go.Proofs.YtclopblgdiahiaaGreatDoor
open Go.RowKit

set_option maxHeartbeats 1000000 in
theorem fromDigits_c (s : ByteArray) (L : Nat) (b : Nat → Nat) (w : World) (hs : Sb s L b) (hd : Dig b L) (hL : L ≤ 1048576) :
    Calls Tryz.prog 119 #[.string s] w fun e w' => ∃ ao k cap f, e = .returned (.slice ao k cap) ∧ Res 4294967296 w w' ao k cap f ∧ vf f k = (dn b L : Nat) := by
  obtain ⟨p, hp⟩ : ∃ p, p = (L + 18) / 19 := ⟨_, rfl⟩
  obtain ⟨c, hc⟩ : ∃ c, c = lev p := ⟨_, rfl⟩
  have hpc : p ≤ 2 ^ c := by rw [hc]; exact lev_ge p (by omega)
  have hc30 : c ≤ 16 := by rw [hc]; exact lev_le p 16 (by omega) (by omega)
  have hLc : L ≤ 19 * 2 ^ c := by omega
  have h2c : 2 ^ c ≤ 65536 := Nat.pow_le_pow_right (n := 2) (by omega) hc30
  have C1 := hid (levels_c p p w rfl (by omega))
  rw [← hc] at C1
  have C2 := hid (bases_c c w (by omega))
  have C3 := hid (fun bo cb W h1 h2 h3 h4 => join_c c s L b bo cb W hs hd hLc h1 h2 h3 h4 (by omega))
  have hsz := hs.1
  subst hsz
  have d1 : Int.tdiv ((s.size : Int) + 18) 19 = (p : Int) := by rw [Int.tdiv_eq_ediv_of_nonneg (by omega)]; omega
  have d2 : ((s.size : Int) + 18) / 19 = (p : Int) := by omega
  have d3 : Int.tdiv ((s.size : Int) + 19 - 1) 19 = (p : Int) := by rw [Int.tdiv_eq_ediv_of_nonneg (by omega)]; omega
  have d4 : ((s.size : Int) + 19 - 1) / 19 = (p : Int) := by omega
  have H2c := hid h2c
  clear hs hd hLc hpc hp hc h2c
  go_enter Tryz.func119, Tryz.ntmps119
  go_wp2_with fail
  refine C1.out.mono ?_
  rintro e w1 ⟨rfl, rfl⟩
  go_wp2_with fail
  refine C2.out.mono ?_
  rintro e w1 ⟨bo, cap, rfl, hbel, hcc, hcm, hnil, hbas⟩
  have HBel := hid hbel
  have C4 := hid (C3.out bo cap w1 hbas hcc hcm hnil)
  clear hbas hnil C3 C2 C1 hbel
  go_wp2_with fail
  refine C4.out.mono ?_
  rintro e w2 ⟨a1, k1, c1, f1, rfl, hres, hv⟩
  have HV := hid hv
  clear hv
  go_wp2
  go_ret
  exact ⟨a1, k1, c1, f1, rfl, (hres.ahead HBel.out).mono (by have := H2c.out; omega), HV.out⟩

/-- What Read answers. -/
def ReadAns (L : Nat) (b : Nat → Nat) (k : Nat) (f : Nat → Int) (er : Int) : Prop :=
  1048576 < L ∧ er = 2 ∧ k = 0 ∨ L ≤ 1048576 ∧ ¬ IsNum b L ∧ er = 11 ∧ k = 0 ∨ L ≤ 1048576 ∧ IsNum b L ∧ er = 0 ∧ vf f k = (dn b L : Nat)

set_option maxHeartbeats 1000000 in
theorem Read_c (s : ByteArray) (L : Nat) (b : Nat → Nat) (w : World) (hs : Sb s L b) :
    Calls Tryz.prog 81 #[.string s] w fun e w' => ∃ ao k cap f er, e = .returned (.tuple #[.slice ao k cap, .int .i64 er]) ∧ Res 4294967296 w w' ao k cap f ∧ ReadAns L b k f er := by
  have hsz := hs.1
  subst hsz
  by_cases hL : 1048576 < s.size
  · have HLt := hid hL
    go_enter Tryz.func81, Tryz.ntmps81
    go_wp2
    go_ret2
    exact ⟨_, _, _, fun _ => 0, _, rfl, Res.nil _ (Below.refl _ _), .inl ⟨HLt.out, rfl, rfl⟩⟩
  · have c1 := isNumber_c s s.size b w hs (by omega)
    cases hn : numB b s.size
    · rw [hn] at c1
      have C1 := hid c1
      have HN := hid (show ¬ IsNum b s.size from fun h => by rw [numB_true h] at hn; cases hn)
      clear c1 hn hs
      go_enter Tryz.func81, Tryz.ntmps81
      go_wp2_with fail
      refine C1.out.mono ?_
      rintro e w1 ⟨rfl, rfl⟩
      go_wp2
      go_ret2
      exact ⟨_, _, _, fun _ => 0, _, rfl, Res.nil _ (Below.refl _ _), .inr (.inl ⟨by omega, HN.out, rfl, rfl⟩)⟩
    · rw [hn] at c1
      have C1 := hid c1
      have HY := hid ((numB_iff b s.size).1 hn)
      have C2 := hid (fromDigits_c s s.size b w hs HY.out.1 (by omega))
      clear c1 hn hs
      go_enter Tryz.func81, Tryz.ntmps81
      go_wp2_with fail
      refine C1.out.mono ?_
      rintro e w1 ⟨rfl, rfl⟩
      go_wp2_with fail
      refine C2.out.mono ?_
      rintro e w2 ⟨a1, k1, c1, f1, rfl, hres, hv⟩
      have HV := hid hv
      clear hv
      go_wp2
      go_ret2
      exact ⟨_, _, _, f1, _, rfl, hres, .inr (.inr ⟨by omega, HY.out, rfl, HV.out⟩)⟩
end Go.Proofs.YtclopblgdiahiaaGreatDoor
namespace Go.Proofs.YtclopblgdiahiaaGreatDoor
open Go.RowKit

theorem divOk_all {X Y : Int} (hY : 0 < Y) : DivOk X Y := by
  intro ao bo n m ca cb f h' w hn hm hr hs hf hh ff fh hX hY'
  have h2 : m ≠ 0 := fun h0 => by subst h0; simp [vf] at hY'; omega
  exact divMod_c ao bo n m ca cb f h' w hn hm hr hs hf hh ff fh (by omega)
theorem tens_pos (j : Nat) : 0 < tens j := Int.pow_pos (by decide)

/-- The text of a number, or none. -/
def txt (f : Nat → Int) (n : Nat) : ByteArray := if fmB f n then ⟨(Lib.decDigits (vf f n).toNat).toArray⟩ else ⟨#[]⟩
def ter (f : Nat → Int) (n : Nat) : Int := if fmB f n then 0 else 3

set_option maxHeartbeats 1000000 in
theorem TextAll_u (ao : Option Addr) (n ca : Nat) (f : Nat → Int) (w : World) (hn : n ≤ 4096) (hr : Rd .u64 w ao n f) (hf : Lm f n) (htab : Tab w) (hca : n ≤ ca) (hcam : ca ≤ 9223372036854775807) :
    Calls Tryz.prog 79 #[.slice ao n ca] w fun e w' => e = .returned (.tuple #[.string (txt f n), .int .i64 (ter f n)]) ∧ Below w.heap.size w w' := by
  cases hfa : fmB f n
  · have c1 := form_c ao n ca f w (by omega) hr
    rw [hfa] at c1
    have C1 := hid c1
    have E1 := hid (show txt f n = ⟨#[]⟩ by simp [txt, hfa]); have E2 := hid (show ter f n = 3 by simp [ter, hfa])
    rw [E1.out, E2.out]
    clear c1 hfa hr hf htab
    go_enter Tryz.func79, Tryz.ntmps79
    go_wp2_with fail
    refine C1.out.mono ?_
    rintro e w1 ⟨rfl, rfl⟩
    go_wp2
    go_ret2
    exact ⟨rfl, Below.refl _ _⟩
  · have h0 := vf_nonneg hf
    have := Text_u ao n ca _ f (vf f n).toNat w hn hr hf (fm_of hfa) (by omega) htab rfl hca hcam (fun j _ X _ _ => divOk_all (tens_pos j))
    rw [show txt f n = ⟨(Lib.decDigits (vf f n).toNat).toArray⟩ by simp [txt, hfa], show ter f n = 0 by simp [ter, hfa]]
    exact this

theorem TextAll_c (ao : Option Addr) (n ca : Nat) (f : Nat → Int) (w : World) (hn : n ≤ 4096) (hr : Rd .u64 w ao n f) (_ : Tg w ao) (hf : Lm f n) (htab : Tab w) (hca : n ≤ ca) (hcam : ca ≤ 9223372036854775807) :
    Calls Tryz.prog 79 #[.slice ao n ca] w fun e w' => e = .returned (.tuple #[.string (txt f n), .int .i64 (ter f n)]) ∧ Below w.heap.size w w' := TextAll_u ao n ca f w hn hr hf htab hca hcam

end Go.Proofs.YtclopblgdiahiaaGreatDoor
namespace Go.Proofs.YtclopblgdiahiaaGreatDoor
open Go.RowKit

theorem Tg.kept {w w' : World} {ao : Option Addr} (h : Tg w ao) (hb : Below w.heap.size w w') : Tg w' ao := fun a ha => by
  obtain ⟨arr, fr, he⟩ := h a ha
  exact ⟨arr, fr, (hb.block _ (Array.getElem?_eq_some_iff.1 he).1).trans he⟩
theorem ndigits_le : ∀ (k V : Nat), V < 10 ^ (k + 1) → Lib.nDigits V ≤ k + 1
  | 0, V, h => by rw [Lib.nDigits_small (by simpa using h)]; omega
  | k + 1, V, h => by
    by_cases hu : V < 10
    · rw [Lib.nDigits_small hu]; omega
    · rw [Lib.nDigits_big hu]
      have := ndigits_le k (V / 10) (by rw [Nat.div_lt_iff_lt_mul (by decide)]; rw [Nat.pow_succ] at h; exact h)
      omega
theorem pw_ten (n : Nat) : pw n ≤ (10 : Int) ^ (20 * n) := by
  induction n with
  | zero => decide
  | succ n ih =>
    rw [pw_succ, show 20 * (n + 1) = 20 * n + 20 by omega, Int.pow_add]
    have h1 : (18446744073709551616 : Int) ≤ 10 ^ 20 := by decide
    have h2 := pw_pos n
    calc (18446744073709551616 : Int) * pw n ≤ 10 ^ 20 * pw n := Int.mul_le_mul_of_nonneg_right h1 (Int.le_of_lt h2)
      _ ≤ 10 ^ 20 * 10 ^ (20 * n) := Int.mul_le_mul_of_nonneg_left ih (by decide)
      _ = 10 ^ (20 * n) * 10 ^ 20 := Int.mul_comm _ _
theorem txt_size {f : Nat → Int} {n : Nat} (hf : Lm f n) (hn : n ≤ 4096) : (txt f n).size ≤ 81921 := by
  unfold txt
  split
  · show ((Lib.decDigits (vf f n).toNat).toArray).size ≤ _
    rw [List.size_toArray, Lib.decDigits_length]
    have h1 := vf_lt hf; have h0 := vf_nonneg hf; have h2 := pw_ten n
    have h3 : (vf f n).toNat < 10 ^ (20 * n + 1) := by
      have e : ((10 ^ (20 * n) : Nat) : Int) = (10 : Int) ^ (20 * n) := by simp
      have h4 : (vf f n).toNat < 10 ^ (20 * n) := by omega
      exact Nat.lt_of_lt_of_le h4 (Nat.pow_le_pow_right (by decide) (by omega))
    have := ndigits_le (20 * n) _ h3
    omega
  · show 0 ≤ _; omega
/-- The text of a whole number, or none. -/
def wtxt (s : Bool) (f : Nat → Int) (n : Nat) : ByteArray := if wfB s f n then (if s then ⟨#[45]⟩ ++ txt f n else txt f n) else ⟨#[]⟩
def wter (s : Bool) (f : Nat → Int) (n : Nat) : Int := if wfB s f n then 0 else 3

set_option maxHeartbeats 1000000 in
theorem wText_u (s : Bool) (ao : Option Addr) (n ca : Nat) (f : Nat → Int) (w : World) (hn : n ≤ 4096) (hr : Rd .u64 w ao n f) (hf : Lm f n) (htab : Tab w) (hca : n ≤ ca) (hcam : ca ≤ 9223372036854775807) :
    Calls Tryz.prog 34 #[.agg #[.bool s, .slice ao n ca]] w fun e w' => e = .returned (.tuple #[.string (wtxt s f n), .int .i64 (wter s f n)]) ∧ Below w.heap.size w w' := by
  have HR := hid hr; have HF := hid hf; have HTab := hid htab
  clear hr hf htab
  cases hfa : wfB s f n
  · rw [show wtxt s f n = ⟨#[]⟩ by simp [wtxt, hfa], show wter s f n = 3 by simp [wter, hfa]]
    have c1 := fun W hr' => wForm_c s ao n ca f W (by omega) hr'
    rw [hfa] at c1
    have C1 := hid c1
    clear c1 hfa
    go_enter Tryz.func34, Tryz.ntmps34
    go_wp2_with fail
    refine (C1.out _ (HR.out.alloc _)).mono ?_
    rintro e w1 ⟨rfl, hb⟩
    obtain ⟨_, _, hw⟩ := boxes1 hb
    have HW := hid hw
    clear hb hw
    go_wp2
    go_ret2
    exact ⟨rfl, HW.out⟩
  · have hfm : fmB f n = true := (fmB_iff f n).2 (fm_of_wfB hfa)
    have HE := hid (show wtxt s f n = (if s then ⟨#[45]⟩ ++ txt f n else txt f n) by simp [wtxt, hfa])
    rw [show wter s f n = 0 by simp [wter, hfa]]
    have HT0 := hid (show ter f n = 0 by simp [ter, hfm])
    have c1 := fun W hr' => wForm_c s ao n ca f W (by omega) hr'
    rw [hfa] at c1
    have C1 := hid c1
    clear c1 hfa hfm
    have hsz := txt_size HF.out hn
    cases s
    all_goals
      go_enter Tryz.func34, Tryz.ntmps34
      go_wp2_with fail
      refine (C1.out _ (HR.out.alloc _)).mono ?_
      rintro e w1 ⟨rfl, hb⟩
      obtain ⟨⟨hz, x0, x1⟩, xf, hw⟩ := boxes1 hb
      have HW := hid hw
      clear hb hw
      have ct := TextAll_u ao n ca f w1 hn (HR.out.below HW.out (Nat.le_refl _)) HF.out (HTab.out.below HW.out HTab.out.lt) hca hcam
      rw [HT0.out] at ct
      have CT := hid ct
      clear ct
      go_wp2_with fail
      refine CT.out.mono ?_
      rintro e w2 ⟨rfl, hb⟩
      obtain ⟨⟨hz, x0, x1⟩, xf, hw⟩ := keep1 hb ⟨hz, x0, x1⟩ xf HW.out
      have HW2 := hid hw
      clear hb hw
      go_wp2
      go_ret2
      exact ⟨by rw [HE.out]; rfl, HW2.out⟩
theorem wText_c (s : Bool) (ao : Option Addr) (n ca : Nat) (f : Nat → Int) (w : World) (hn : n ≤ 4096) (hr : Rd .u64 w ao n f) (_ : Tg w ao) (hf : Lm f n) (htab : Tab w) (hca : n ≤ ca) (hcam : ca ≤ 9223372036854775807) :
    Calls Tryz.prog 34 #[.agg #[.bool s, .slice ao n ca]] w fun e w' => e = .returned (.tuple #[.string (wtxt s f n), .int .i64 (wter s f n)]) ∧ Below w.heap.size w w' := wText_u s ao n ca f w hn hr hf htab hca hcam
end Go.Proofs.YtclopblgdiahiaaGreatDoor
namespace Go.Proofs.YtclopblgdiahiaaGreatDoor
open Go.RowKit

/-- Does a text begin with a minus? -/
def mnB (s : ByteArray) : Bool := (s.extract 0 1).toList == [45]
theorem mnB_iff {s : ByteArray} {L : Nat} {b : Nat → Nat} (hs : Sb s L b) : mnB s = true ↔ 0 < L ∧ b 0 = 45 := by
  unfold mnB
  rw [ByteArray.toList_eq, beq_iff_eq]
  by_cases hL : 0 < L
  · have hsb := hs.take (c := 1) (by omega)
    generalize s.extract 0 1 = t at hsb
    obtain ⟨⟨l⟩⟩ := t
    obtain ⟨h1, h2⟩ := hsb
    match l, h1, h2 with
    | [x], _, h2 =>
      have h4 : x.toNat = b 0 := h2 0 (show 0 < [x].length by simp)
      constructor
      · intro h
        have hx : x = 45 := by simpa using h
        exact ⟨hL, by rw [← h4, hx]; rfl⟩
      · rintro ⟨_, h5⟩
        have hx : x = 45 := UInt8.toNat_inj.1 (by rw [h4, h5]; rfl)
        rw [hx]
    | [], h1, _ => exact absurd h1 (by decide)
    | _ :: _ :: _, h1, _ => have := h1; simp [ByteArray.size] at this
  · constructor
    · intro h
      have h5 : (s.extract 0 1).size = 1 := by show (s.extract 0 1).data.size = 1; rw [← Array.length_toList, h]; rfl
      rw [ByteArray.size_extract, hs.1] at h5
      omega
    · intro h; exact absurd h.1 hL
theorem sb_self (s : ByteArray) : Sb s s.size (fun k => if h : k < s.size then (s[k]'h).toNat else 0) := ⟨rfl, fun k h => by simp [h]⟩
theorem mnB_short {s : ByteArray} (h : ¬ 1 ≤ s.size) : mnB s = false := by
  cases hb : mnB s with
  | false => rfl
  | true => exact absurd ((mnB_iff (sb_self s)).1 hb).1 (by omega)
theorem hasMinus_c (s : ByteArray) (w : World) (hm : s.size ≤ 9223372036854775807) :
    Calls Tryz.prog 144 #[.string s, .string ⟨#[45]⟩] w fun e w' => e = .returned (.bool (mnB s)) ∧ w' = w := by
  by_cases h : 1 ≤ s.size
  · have hd : decide ((1 : Int) ≤ (s.size : Int)) = true := by simp; omega
    go_enter Tryz.func144, Tryz.ntmps144
    go_wp2
    go_ret
    exact ⟨rfl, rfl⟩
  · have hd : decide ((1 : Int) ≤ (s.size : Int)) = false := by simp; omega
    have hf : mnB s = false := mnB_short h
    rw [hf]
    clear hf
    go_enter Tryz.func144, Tryz.ntmps144
    go_wp2
    go_ret
    exact ⟨rfl, rfl⟩
theorem cutLite_yes (s : ByteArray) (w : World) (hm : s.size ≤ 9223372036854775807) (hy : mnB s = true) (hs : 1 ≤ s.size) :
    Calls Tryz.prog 117 #[.string s, .string ⟨#[45]⟩] w fun e w' => e = .returned (.tuple #[.string (s.extract 1 s.size), .bool true]) ∧ w' = w := by
  have c := hasMinus_c s w hm
  rw [hy] at c
  have C := hid c
  clear c hy
  go_enter Tryz.func117, Tryz.ntmps117
  go_wp2_with fail
  refine C.out.mono ?_
  rintro e w1 ⟨rfl, rfl⟩
  go_wp2
  go_ret2
  exact ⟨rfl, rfl⟩
theorem cutLite_no (s : ByteArray) (w : World) (hm : s.size ≤ 9223372036854775807) (hy : mnB s = false) :
    Calls Tryz.prog 117 #[.string s, .string ⟨#[45]⟩] w fun e w' => e = .returned (.tuple #[.string s, .bool false]) ∧ w' = w := by
  have c := hasMinus_c s w hm
  rw [hy] at c
  have C := hid c
  clear c hy
  go_enter Tryz.func117, Tryz.ntmps117
  go_wp2_with fail
  refine C.out.mono ?_
  rintro e w1 ⟨rfl, rfl⟩
  go_wp2
  go_ret2
  exact ⟨rfl, rfl⟩
theorem cut_yes (s : ByteArray) (w : World) (hm : s.size ≤ 9223372036854775807) (hy : mnB s = true) (hs : 1 ≤ s.size) :
    Calls Tryz.prog 80 #[.string s, .string ⟨#[45]⟩] w fun e w' => e = .returned (.tuple #[.string (s.extract 1 s.size), .bool true]) ∧ w' = w := by
  have C := hid (cutLite_yes s w hm hy hs)
  clear hy
  go_enter Tryz.func80, Tryz.ntmps80
  go_wp2_with fail
  refine C.out.mono ?_
  rintro e w1 ⟨rfl, rfl⟩
  go_wp2
  go_ret2
  exact ⟨rfl, rfl⟩
theorem cut_no (s : ByteArray) (w : World) (hm : s.size ≤ 9223372036854775807) (hy : mnB s = false) :
    Calls Tryz.prog 80 #[.string s, .string ⟨#[45]⟩] w fun e w' => e = .returned (.tuple #[.string s, .bool false]) ∧ w' = w := by
  have C := hid (cutLite_no s w hm hy)
  clear hy
  go_enter Tryz.func80, Tryz.ntmps80
  go_wp2_with fail
  refine C.out.mono ?_
  rintro e w1 ⟨rfl, rfl⟩
  go_wp2
  go_ret2
  exact ⟨rfl, rfl⟩


/-- What Read answers: neg, digits, the number. -/
def WRead (L : Nat) (b : Nat → Nat) (r : Bool) (k : Nat) (f : Nat → Int) (er : Int) : Prop :=
  1048576 < L ∧ er = 2 ∧ k = 0 ∨ L ≤ 1048576 ∧ 0 < L ∧ b 0 = 45 ∧ IsNum (bsh b 1) (L - 1) ∧ 0 < dn (bsh b 1) (L - 1) ∧ er = 0 ∧ wv r f k = - (dn (bsh b 1) (L - 1) : Nat) ∨
  L ≤ 1048576 ∧ ¬ (0 < L ∧ b 0 = 45) ∧ IsNum b L ∧ er = 0 ∧ wv r f k = (dn b L : Nat) ∨
  L ≤ 1048576 ∧ ¬ (0 < L ∧ b 0 = 45 ∧ IsNum (bsh b 1) (L - 1) ∧ 0 < dn (bsh b 1) (L - 1)) ∧ ¬ (¬ (0 < L ∧ b 0 = 45) ∧ IsNum b L) ∧ er = 11 ∧ k = 0

set_option maxHeartbeats 1000000 in
theorem wRead_c (s : ByteArray) (L : Nat) (b : Nat → Nat) (w : World) (hs : Sb s L b) (hL : L ≤ 9223372036854775807) :
    Calls Tryz.prog 35 #[.string s] w fun e w' => ∃ r ao k cap f er, e = .returned (.tuple #[.agg #[.bool r, .slice ao k cap], .int .i64 er]) ∧ WRes 4294967296 w w' r ao k cap f ∧ WRead L b r k f er := by
  have hsz := hs.1
  subst hsz
  by_cases hlong : 1048576 < s.size
  · have hd : decide ((1048576 : Int) < (s.size : Int)) = true := by simp; omega
    go_enter Tryz.func35, Tryz.ntmps35
    go_wp2
    exact bodyPost_ret (v := .tuple #[.agg #[.bool false, .slice none 0 0], .int .i64 2]) (by simp [results, Tryz.results35, go_sem]) rfl ⟨false, none, 0, 0, fun _ => 0, 2, rfl, ⟨Asw.none _ (below_alloc (Below.refl _ _) _), fun h => by cases h⟩, .inl ⟨hlong, rfl, rfl⟩⟩
  · have hd : decide ((1048576 : Int) < (s.size : Int)) = false := by simp; omega
    cases hmn : mnB s
    · have hnm : Hid (¬ (0 < s.size ∧ b 0 = 45)) := by
        show ¬ (0 < s.size ∧ b 0 = 45)
        rw [← mnB_iff hs, hmn]; simp
      have CC := hid (fun W => cut_no s W hL hmn)
      have HSb := hid hs
      clear hmn hs
      go_enter Tryz.func35, Tryz.ntmps35
      go_wp2_with fail
      refine (CC.out _).mono ?_
      rintro e w1 ⟨rfl, rfl⟩
      go_wp2_with fail
      refine (Read_c s s.size b _ HSb.out).mono ?_
      rintro e w2 ⟨xa, k, cx, g, er, rfl, hres, hans⟩
      obtain ⟨⟨hz, z0, z1⟩, zf, hw⟩ := boxes1 hres.bel
      have HRes := hid hres; have HW := hid hw; have HAns := hid hans; have hk : k ≤ 4294967296 := hres.le
      clear hres hw hans
      rcases HAns.out with ⟨h1, _⟩ | ⟨_, h1, h2, h3⟩ | ⟨_, h1, h2, h3⟩
      · exact absurd h1 hlong
      · subst h2; subst h3
        have HN := hid h1
        clear h1 HAns
        go_wp2
        refine bodyPost_ret (v := .tuple #[.agg #[.bool false, .slice none 0 0], .int .i64 11]) (by simp [results, Tryz.results35, go_sem, z0, z1]) rfl ⟨false, none, 0, 0, fun _ => 0, 11, rfl, ⟨Asw.none _ ?_, fun h => by cases h⟩, .inr (.inr (.inr ⟨by omega, fun x => hnm.out ⟨x.1, x.2.1⟩, fun x => HN.out x.2, rfl, rfl⟩))⟩
        exact below_turned HW.out HW.out.size (((Turned.refl _ (w.heap.size + 1) _).set (by first | omega | (simp; done) | (simp; omega)) (by first | omega | (simp; done) | (simp; omega)) _).set (by first | omega | (simp; done) | (simp; omega)) (by first | omega | (simp; done) | (simp; omega)) _) (Nat.le_refl _)
      · subst h2
        have HN := hid h1; have HV := hid h3
        clear h1 h3 HAns
        go_wp2_with fail
        refine (signed_c _ xa k cx _ (by omega)).mono ?_
        rintro e w3 ⟨r, o, rfl, hsg, rfl⟩
        go_wp2
        refine bodyPost_ret (v := .tuple #[.agg #[.bool r, .slice xa k cx], .int .i64 0]) (by simp [results, Tryz.results35, go_sem, z0, z1, hz]) rfl ⟨r, xa, k, cx, g, 0, rfl, WRes.mk' hsg ((HRes.out.turned (below_alloc (Below.refl _ _) _) ?_).ans (by omega)), .inr (.inr (.inl ⟨by omega, hnm.out, HN.out, rfl, ?_⟩))⟩
        · exact (((Turned.refl _ _ _).set (by first | omega | (simp; done) | (simp; omega)) (by first | omega | (simp; done) | (simp; omega)) _).set (by first | omega | (simp; done) | (simp; omega)) (by first | omega | (simp; done) | (simp; omega)) _).alloc _
        · rw [wv_sign hsg, wv_false]; exact HV.out
    · obtain ⟨h0, h1⟩ := (mnB_iff hs).1 hmn
      have hmi : Hid (0 < s.size ∧ b 0 = 45) := ⟨h0, h1⟩
      have CC := hid (fun W => cut_yes s W hL hmn h0)
      have HSb := hid (hs.drop (c := 1) h0)
      clear hmn hs h1
      go_enter Tryz.func35, Tryz.ntmps35
      go_wp2_with fail
      refine (CC.out _).mono ?_
      rintro e w1 ⟨rfl, rfl⟩
      go_wp2_with fail
      refine (Read_c (s.extract 1 s.size) (s.size - 1) (bsh b 1) _ HSb.out).mono ?_
      rintro e w2 ⟨xa, k, cx, g, er, rfl, hres, hans⟩
      obtain ⟨⟨hz, z0, z1⟩, zf, hw⟩ := boxes1 hres.bel
      have HRes := hid hres; have HW := hid hw; have HAns := hid hans; have hk : k ≤ 4294967296 := hres.le
      clear hres hw hans
      rcases HAns.out with ⟨h1, _⟩ | ⟨_, h1, h2, h3⟩ | ⟨_, h1, h2, h3⟩
      · omega
      · subst h2; subst h3
        have HN := hid h1
        clear h1 HAns
        go_wp2
        refine bodyPost_ret (v := .tuple #[.agg #[.bool false, .slice none 0 0], .int .i64 11]) (by simp [results, Tryz.results35, go_sem, z0, z1]) rfl ⟨false, none, 0, 0, fun _ => 0, 11, rfl, ⟨Asw.none _ ?_, fun h => by cases h⟩, .inr (.inr (.inr ⟨by omega, fun x => HN.out x.2.2.1, fun x => x.1 hmi.out, rfl, rfl⟩))⟩
        exact below_turned HW.out HW.out.size (((Turned.refl _ (w.heap.size + 1) _).set (by first | omega | (simp; done) | (simp; omega)) (by first | omega | (simp; done) | (simp; omega)) _).set (by first | omega | (simp; done) | (simp; omega)) (by first | omega | (simp; done) | (simp; omega)) _) (Nat.le_refl _)
      · subst h2
        have HN := hid h1; have HV := hid h3
        clear h1 h3 HAns
        by_cases hk0 : k = 0
        · subst hk0
          have hdn : Hid (dn (bsh b 1) (s.size - 1) = 0) := by
            show dn (bsh b 1) (s.size - 1) = 0
            have := HV.out; simp [vf] at this; omega
          go_wp2
          refine bodyPost_ret (v := .tuple #[.agg #[.bool false, .slice none 0 0], .int .i64 11]) (by simp [results, Tryz.results35, go_sem, z0, z1]) rfl ⟨false, none, 0, 0, fun _ => 0, 11, rfl, ⟨Asw.none _ ?_, fun h => by cases h⟩, .inr (.inr (.inr ⟨by omega, fun x => by have := hdn.out; have := x.2.2.2; omega, fun x => x.1 hmi.out, rfl, rfl⟩))⟩
          exact below_turned HW.out HW.out.size (((Turned.refl _ (w.heap.size + 1) _).set (by first | omega | (simp; done) | (simp; omega)) (by first | omega | (simp; done) | (simp; omega)) _).set (by first | omega | (simp; done) | (simp; omega)) (by first | omega | (simp; done) | (simp; omega)) _) (Nat.le_refl _)
        · have hki : ((k : Int) == 0) = false := by simp; omega
          have hdn : Hid (0 < dn (bsh b 1) (s.size - 1)) := by
            show 0 < dn (bsh b 1) (s.size - 1)
            have := HV.out; have := vf_pos HRes.out.lm HRes.out.fm (show 0 < k by omega); omega
          go_wp2_with fail
          refine (signed_c _ xa k cx _ (by omega)).mono ?_
          rintro e w3 ⟨r, o, rfl, hsg, rfl⟩
          go_wp2
          refine bodyPost_ret (v := .tuple #[.agg #[.bool r, .slice xa k cx], .int .i64 0]) (by simp [results, Tryz.results35, go_sem, z0, z1, hz]) rfl ⟨r, xa, k, cx, g, 0, rfl, WRes.mk' hsg ((HRes.out.turned (below_alloc (Below.refl _ _) _) ?_).ans (by omega)), .inr (.inl ⟨by omega, hmi.out.1, hmi.out.2, HN.out, hdn.out, rfl, ?_⟩)⟩
          · exact (((Turned.refl _ _ _).set (by first | omega | (simp; done) | (simp; omega)) (by first | omega | (simp; done) | (simp; omega)) _).set (by first | omega | (simp; done) | (simp; omega)) (by first | omega | (simp; done) | (simp; omega)) _).alloc _
          · rw [wv_sign hsg, wv_true, HV.out]
end Go.Proofs.YtclopblgdiahiaaGreatDoor
namespace Go.Proofs.YtclopblgdiahiaaGreatDoor
open Go.RowKit

theorem Own.tg {w base ao n cap f} (h : Own .u64 28 w base (.slice ao n cap) n f) : Tg w ao := fun a ha => by
  obtain ⟨h1, h2⟩ := h
  rcases h2 with ⟨hv, _⟩ | ⟨g, cap', cur, hv, hb, hg, hn, hm, hs, ht⟩
  · cases hv; cases ha
  · cases hv; cases ha; exact ⟨_, _, hg⟩
theorem text_63 : Lib.decDigits 9223372036854775808 = [57, 50, 50, 51, 51, 55, 50, 48, 51, 54, 56, 53, 52, 55, 55, 53, 56, 48, 56] := by
  have hn : Lib.nDigits 9223372036854775808 = 19 := Lib.nDigits_unique 18 _ (by decide) (by decide)
  rw [Lib.decDigits_eq, hn]
  decide +kernel
/-- Text of -2^63. -/
theorem wtxt_63 {s : Bool} {f : Nat → Int} {n : Nat} (hf : Lm f n) (hw : wfB s f n = true) (hv : wv s f n = -9223372036854775808) : wtxt s f n = ⟨#[45, 57, 50, 50, 51, 51, 55, 50, 48, 51, 54, 56, 53, 52, 55, 55, 53, 56, 48, 56]⟩ ∧ wter s f n = 0 := by
  have h0 := vf_nonneg hf
  have hfm : fmB f n = true := (fmB_iff f n).2 (fm_of_wfB hw)
  cases s
  · rw [wv_false] at hv; omega
  · rw [wv_true] at hv
    have e : (vf f n).toNat = 9223372036854775808 := by omega
    refine ⟨?_, by simp [wter, hw]⟩
    unfold wtxt txt
    rw [if_pos hw, if_pos rfl, if_pos hfm, e, text_63]
    rfl

theorem kN0 {w : World} {x y : Value} {t : TypeId} : (w.alloc (.cells #[x, y] t)).cell? ⟨w.heap.size, 0, none⟩ = some x := by simp [go_sem]
theorem kN1 {w : World} {x y : Value} {t : TypeId} : (w.alloc (.cells #[x, y] t)).cell? ⟨w.heap.size, 1, none⟩ = some y := by simp [go_sem]
theorem keep2' {w w1 w2 : World} {a0 a1 c0 c1 : Value} (hb : Below w1.heap.size w1 w2) (h : w.heap.size + 1 < w1.heap.size ∧ w1.cell? ⟨w.heap.size, 0, none⟩ = some a0 ∧ w1.cell? ⟨w.heap.size, 1, none⟩ = some a1 ∧ w1.cell? ⟨w.heap.size + 1, 0, none⟩ = some c0 ∧ w1.cell? ⟨w.heap.size + 1, 1, none⟩ = some c1) (hw : Below w.heap.size w w1) :
    (w.heap.size + 1 < w2.heap.size ∧ w2.cell? ⟨w.heap.size, 0, none⟩ = some a0 ∧ w2.cell? ⟨w.heap.size, 1, none⟩ = some a1 ∧ w2.cell? ⟨w.heap.size + 1, 0, none⟩ = some c0 ∧ w2.cell? ⟨w.heap.size + 1, 1, none⟩ = some c1) ∧ Below w.heap.size w w2 := by
  obtain ⟨h1, h2⟩ := bcell hb
  have hz := hb.size
  obtain ⟨z, a, b, e, f⟩ := h
  exact ⟨⟨by omega, (h1 _ _ (by omega)).trans a, (h1 _ _ (by omega)).trans b, (h1 _ _ (by omega)).trans e, (h1 _ _ (by omega)).trans f⟩, hw.trans (hb.mono hw.size)⟩
theorem sb_m12 : Sb ⟨#[45, 49, 50]⟩ 3 (fun k => if k = 0 then 45 else if k = 1 then 49 else 50) := ⟨rfl, fun k h => by
  have hk : k < 3 := h
  rcases (show k = 0 ∨ k = 1 ∨ k = 2 by omega) with rfl | rfl | rfl <;> rfl⟩
theorem read_m12 {r : Bool} {k : Nat} {f : Nat → Int} {er : Int} (h : WRead 3 (fun k => if k = 0 then 45 else if k = 1 then 49 else 50) r k f er) : er = 0 ∧ wv r f k = -12 := by
  have hn : IsNum (bsh (fun k => if k = 0 then 45 else if k = 1 then 49 else 50) 1) (3 - 1) := ⟨(digB_iff _ _).1 (by decide), by decide, .inr (by decide)⟩
  have hd : dn (bsh (fun k => if k = 0 then 45 else if k = 1 then 49 else 50) 1) (3 - 1) = 12 := by decide
  rcases h with ⟨h1, _⟩ | ⟨_, _, _, _, _, h1, h2⟩ | ⟨_, h1, _⟩ | ⟨_, h1, _⟩
  · omega
  · rw [hd] at h2; exact ⟨h1, h2⟩
  · exact absurd ⟨by decide, rfl⟩ h1
  · exact absurd ⟨by decide, rfl, hn, by rw [hd]; decide⟩ h1
theorem kCb {w w' : World} {a : Addr} {v : Value} (hb : Below w.heap.size w w') (h : w.cell? a = some v) : w'.cell? a = some v := (hb.cell (World.block_lt_of_cell? w a h)).trans h
theorem kBa {w0 w : World} {o : Obj} (h : Below w0.heap.size w0 w) : Below w0.heap.size w0 (w.alloc o) := below_alloc h o
theorem kBb {w0 w w' : World} (hb : Below w.heap.size w w') (h : Below w0.heap.size w0 w) : Below w0.heap.size w0 w' := h.trans (hb.mono h.size)
theorem same_got {s t : Bool} {ao bo : Option Addr} {n m ca cb : Nat} {f g : Nat → Int} {w0 w1 W0 W : World} {C D : Nat} {z : Int} (h1 : WRes C w0 w1 s ao n ca f) (hv : wv s f n = z) (hW : Below w1.heap.size w1 W) (h2 : WRes D W0 W t bo m cb g) (hv2 : wv t g m = z) (hC : C ≤ 140737488355328) (hD : D ≤ 140737488355328) :
    Calls Tryz.prog 11 #[.agg #[.bool s, .slice ao n ca], .agg #[.bool t, .slice bo m cb]] W fun e w' => e = .returned (.bool true) ∧ Below W.heap.size W w' :=
  wSame_true s t ao bo n m ca cb f g W (Nat.le_trans h1.res.le hC) (Nat.le_trans h2.res.le hD) (h1.res.rd.below hW (Nat.le_refl _)) h2.res.rd h1.res.lm h2.res.lm h1.wfB h2.wfB (hv.trans hv2.symm)

set_option maxRecDepth 100000 in
set_option maxHeartbeats 4000000 in
theorem wAwake_c (w : World) (htab : Tab w) : Calls Tryz.prog 7 #[] w fun e w' => e = .returned (.bool true) ∧ Below w.heap.size w w' := by
  have HTab := hid htab
  clear htab
  go_enter Tryz.func7, Tryz.ntmps7
  go_wp2_with fail
  refine (wOf_c (-7) _ (by decide) (by decide)).mono ?_
  rintro e w1 ⟨s1, a1, k1, c1, f1, rfl, hr1, hv1⟩
  have R1 := hid hr1; have V1 := hid hv1
  clear hr1 hv1
  go_wp2_with fail
  refine (wOf_c 2 _ (by decide) (by decide)).mono ?_
  rintro e w2 ⟨s2, a2, k2, c2, f2, rfl, hr2, hv2⟩
  have R2 := hid hr2; have V2 := hid hv2
  have R1b := hid (R1.out.res.later hr2.res.bel)
  clear hr2 hv2
  go_wp2_with fail
  have hk1 : k1 ≤ 1 := R1.out.res.le
  have hk2 : k2 ≤ 1 := R2.out.res.le
  refine (wDivide_c s1 s2 a1 a2 k1 k2 c1 c2 f1 f2 _ (by omega) (by omega) R1b.out.rd R2.out.res.rd R1.out.res.lm R2.out.res.lm).mono ?_
  rintro e w3 ⟨s3, a3, k3, c3, q, s4, a4, k4, c4, r, er, rfl, hq, hr, hd⟩
  have hdd : er = 0 ∧ wv s3 q k3 = -4 ∧ wv s4 r k4 = 1 := by
    have hw2 : W2 s1 f1 k1 s2 f2 k2 := ⟨R1.out.wfB, R2.out.wfB⟩
    rcases hd with ⟨_, _, h1, h2, h3⟩ | ⟨_, h1, _⟩ | ⟨h1, _⟩
    · rw [V1.out, V2.out] at h2
      rw [V2.out] at h3
      refine ⟨h1, ?_, ?_⟩ <;> omega
    · have := V2.out; subst h1; cases s2 <;> simp [wv, vf] at this
    · exact absurd hw2 h1
  obtain ⟨rfl, hq4, hr1⟩ := hdd
  have Q := hid hq; have R := hid hr; have VQ := hid hq4; have VR := hid hr1
  have HW3 := hid (show Below w.heap.size w w3 from (R1.out.res.bel.trans (R2.out.res.bel.mono R1.out.res.bel.size)).trans (hq.res.bel.mono (Nat.le_trans R1.out.res.bel.size R2.out.res.bel.size)))
  clear hq hr hd hq4 hr1 R1 R2 R1b V1 V2
  go_wp2_with fail
  refine (wOf_c (-9223372036854775808) _ (by decide) (by decide)).mono ?_
  rintro e w4 ⟨s5, a5, k5, c5, f5, rfl, hr5, hv5⟩
  obtain ⟨⟨hz, x0, x1, y0, y1⟩, _, hw⟩ := boxes2' hr5.res.bel
  have hk5 : k5 ≤ 1 := hr5.res.le
  have hT4 : Tab w4 := HTab.out.below (HW3.out.trans (hw.mono HW3.out.size)) HTab.out.lt
  have ct := wText_c s5 a5 k5 c5 f5 w4 (by omega) hr5.res.rd hr5.res.own.tg hr5.res.lm hT4 hr5.res.ncap.1 hr5.res.ncap.2
  rw [(wtxt_63 hr5.res.lm hr5.wfB hv5).1, (wtxt_63 hr5.res.lm hr5.wfB hv5).2] at ct
  have CT := hid ct; have HW4 := hid hw
  clear ct hr5 hv5 hT4 hw hk5
  go_wp2_with fail
  refine CT.out.mono ?_
  rintro e w5 ⟨rfl, hb5⟩
  obtain ⟨⟨hz, x0, x1, y0, y1⟩, hw⟩ := keep2' hb5 ⟨hz, x0, x1, y0, y1⟩ HW4.out
  have HW5 := hid hw
  clear hb5 hw CT
  have CRd := hid (wRead_c ⟨#[45, 49, 50]⟩ 3 (fun k => if k = 0 then 45 else if k = 1 then 49 else 50) w5 sb_m12 (by decide))
  go_wp2_with fail
  refine CRd.out.mono ?_
  rintro e w6 ⟨s6, a6, k6, c6, f6, er, rfl, hr6, hrd⟩
  obtain ⟨rfl, hv6⟩ := read_m12 hrd
  obtain ⟨⟨hz, x0, x1, y0, y1⟩, hw⟩ := keep2' hr6.res.bel ⟨hz, x0, x1, y0, y1⟩ HW5.out
  have R6 := hid hr6; have V6 := hid hv6; have HW6 := hid hw
  clear hr6 hrd hv6 hw CRd
  have CS3 : Hid (∀ (W W0 : World) (t : Bool) (bo : Option Addr) (m cb : Nat) (g : Nat → Int), Below w3.heap.size w3 W → WRes 2 W0 W t bo m cb g → wv t g m = -4 → Calls Tryz.prog 11 #[.agg #[.bool s3, .slice a3 k3 c3], .agg #[.bool t, .slice bo m cb]] W fun e w' => e = .returned (.bool true) ∧ Below W.heap.size W w') := fun W W0 t bo m cb g hW h2 hv2 => same_got Q.out VQ.out hW h2 hv2 (by omega) (by omega)
  have CS4 : Hid (∀ (W W0 : World) (t : Bool) (bo : Option Addr) (m cb : Nat) (g : Nat → Int), Below w3.heap.size w3 W → WRes 2 W0 W t bo m cb g → wv t g m = 1 → Calls Tryz.prog 11 #[.agg #[.bool s4, .slice a4 k4 c4], .agg #[.bool t, .slice bo m cb]] W fun e w' => e = .returned (.bool true) ∧ Below W.heap.size W w') := fun W W0 t bo m cb g hW h2 hv2 => same_got R.out VR.out hW h2 hv2 (by omega) (by omega)
  have CS6 : Hid (∀ (W W0 : World) (t : Bool) (bo : Option Addr) (m cb : Nat) (g : Nat → Int), Below w6.heap.size w6 W → WRes 2 W0 W t bo m cb g → wv t g m = -12 → Calls Tryz.prog 11 #[.agg #[.bool s6, .slice a6 k6 c6], .agg #[.bool t, .slice bo m cb]] W fun e w' => e = .returned (.bool true) ∧ Below W.heap.size W w') := fun W W0 t bo m cb g hW h2 hv2 => same_got R6.out V6.out hW h2 hv2 (by omega) (by omega)
  have CF : Hid (∀ (W : World), Calls Tryz.prog 37 #[.agg #[.bool true, .slice none 0 0]] W fun e w' => e = .returned (.bool false) ∧ Below W.heap.size W w') := fun W => wForm_c true none 0 0 (fun _ => 0) W (by omega) Rd.zero
  have hW36 : Below w3.heap.size w3 w6 := HW6.out
  go_wp2
  go_region_held3 (fun w' => w'.cell? ⟨w3.heap.size, 0, none⟩ = some (.bool s3) ∧ w'.cell? ⟨w3.heap.size, 1, none⟩ = some (.slice a3 k3 c3) ∧ w'.cell? ⟨w3.heap.size + 1, 0, none⟩ = some (.bool s4) ∧ w'.cell? ⟨w3.heap.size + 1, 1, none⟩ = some (.slice a4 k4 c4) ∧ w'.cell? ⟨w6.heap.size, 0, none⟩ = some (.bool s6) ∧ w'.cell? ⟨w6.heap.size, 1, none⟩ = some (.slice a6 k6 c6))
    (refine ⟨?_, ?_, ?_, ?_, ?_, ?_⟩ <;> repeat (with_reducible first | assumption | exact kN0 | exact kN1 | refine kCd ?_ | refine kCa ?_ | refine kCb (by assumption) ?_))
    (first
      | (go_at_call 36; refine (docOf_c _ _ (by decide) (by decide)).mono ?_; rintro e w7 ⟨s7, a7, k7, c7, f7, rfl, hr7, hv7⟩; have hb7 := hr7.res.bel)
      | (go_at_call 11; with_reducible refine (CS3.out _ _ s7 a7 k7 c7 f7 (by repeat (with_reducible first | assumption | exact Below.refl _ _ | refine Below.drew ?_ | refine kBa ?_ | refine kBb (by assumption) ?_)) hr7 hv7).mono ?_; rintro e w8 ⟨rfl, hb8⟩)
      | (go_at_call 11; with_reducible refine (CS4.out _ _ s7 a7 k7 c7 f7 (by repeat (with_reducible first | assumption | exact Below.refl _ _ | refine Below.drew ?_ | refine kBa ?_ | refine kBb (by assumption) ?_)) hr7 hv7).mono ?_; rintro e w8 ⟨rfl, hb8⟩)
      | (go_at_call 11; with_reducible refine (CS6.out _ _ s7 a7 k7 c7 f7 (by repeat (with_reducible first | assumption | exact Below.refl _ _ | refine Below.drew ?_ | refine kBa ?_ | refine kBb (by assumption) ?_)) hr7 hv7).mono ?_; rintro e w8 ⟨rfl, hb8⟩)
      | (go_at_call 37; with_reducible refine (CF.out _).mono ?_; rintro e w9 ⟨rfl, hb9⟩))
  all_goals
    go_wp2
    go_ret
    exact ⟨rfl, HW3.out.trans (Below.mono (by repeat (with_reducible first | assumption | exact Below.refl _ _ | refine Below.drew ?_ | refine kBa ?_ | refine kBb (by assumption) ?_)) HW3.out.size)⟩
end Go.Proofs.YtclopblgdiahiaaGreatDoor
namespace Go.Proofs.YtclopblgdiahiaaGreatDoor
open Go.RowKit

/-- A box at block b holds this whole number. -/
def Bx (w : World) (b : Nat) (s : Bool) (x : Option Addr) (n c : Nat) : Prop := b < w.heap.size ∧ w.cell? ⟨b, 0, none⟩ = some (.bool s) ∧ w.cell? ⟨b, 1, none⟩ = some (.slice x n c)
theorem Bx.below {w w' : World} {b : Nat} {s x n c} (h : Bx w b s x n c) (hb : Below w.heap.size w w') : Bx w' b s x n c := ⟨Nat.lt_of_lt_of_le h.1 hb.size, kCb hb h.2.1, kCb hb h.2.2⟩
theorem Bx.alloc {w : World} {b : Nat} {s x n c} (h : Bx w b s x n c) (o : Obj) : Bx (w.alloc o) b s x n c := ⟨by have := h.1; simp; omega, kCa h.2.1, kCa h.2.2⟩
theorem Bx.next {w w' : World} {b : Nat} {s x n c} {o : Obj} (h : Bx w b s x n c) (hb : Below (w.alloc o).heap.size (w.alloc o) w') : Bx w' b s x n c := (h.alloc o).below hb
theorem bx_new {w w' : World} {s x n c} {t : TypeId} (hb : Below (w.alloc (.cells #[.bool s, .slice x n c] t)).heap.size (w.alloc (.cells #[.bool s, .slice x n c] t)) w') : Bx w' w.heap.size s x n c :=
  ⟨by have := hb.size; simp at this; omega, kCb hb kN0, kCb hb kN1⟩
/-- A whole number in form that can be read. -/
structure Wn (w : World) (s : Bool) (x : Option Addr) (n c : Nat) (f : Nat → Int) (v : Int) : Prop where
  rd : Rd .u64 w x n f
  lm : Lm f n
  wf : wfB s f n = true
  cap : n ≤ c ∧ c ≤ 9223372036854775807
  nil : x = none → n = 0 ∧ c = 0
  val : wv s f n = v
theorem Wn.below {w w' : World} {s x n c f v} (h : Wn w s x n c f v) (hb : Below w.heap.size w w') : Wn w' s x n c f v := ⟨h.rd.below hb (Nat.le_refl _), h.lm, h.wf, h.cap, h.nil, h.val⟩
theorem Wn.alloc {w : World} {s x n c f v} (h : Wn w s x n c f v) (o : Obj) : Wn (w.alloc o) s x n c f v := ⟨h.rd.alloc o, h.lm, h.wf, h.cap, h.nil, h.val⟩
theorem Wn.next {w w' : World} {s x n c f v} {o : Obj} (h : Wn w s x n c f v) (hb : Below (w.alloc o).heap.size (w.alloc o) w') : Wn w' s x n c f v := (h.alloc o).below hb
theorem WRes.wn {C w w' s x n c f v} (h : WRes C w w' s x n c f) (hv : wv s f n = v) : Wn w' s x n c f v := ⟨h.res.rd, h.res.lm, h.wfB, h.res.ncap, h.res.nil', hv⟩
theorem WAns.ok {P : Prop} {v : Int} {r k f er} (h : WAns P v r k f er) (hp : P) : er = 0 ∧ wv r f k = v := by
  rcases h with ⟨_, h1, h2⟩ | ⟨h1, _⟩
  · exact ⟨h1, h2⟩
  · exact absurd hp h1
/-- Two numbers' calls, both in form. -/
theorem add_n {w : World} {s t x y n m c d f g u v} (ha : Wn w s x n c f u) (hb : Wn w t y m d g v) (hn : n ≤ 4096) (hm : m ≤ 4096) :
    Calls Tryz.prog 39 #[.agg #[.bool s, .slice x n c], .agg #[.bool t, .slice y m d]] w fun e w' => ∃ r z k e' h, e = .returned (.tuple #[.agg #[.bool r, .slice z k e'], .int .i64 0]) ∧ Below w.heap.size w w' ∧ k ≤ max n m + 1 ∧ Wn w' r z k e' h (u + v) := by
  refine (wAdd_c s t x y n m c d f g w (by omega) (by omega) ha.rd hb.rd ha.lm hb.lm).mono ?_
  rintro e w' ⟨r, z, k, e', h, er, rfl, hres, hans⟩
  obtain ⟨rfl, hv⟩ := hans.ok ⟨ha.wf, hb.wf⟩
  exact ⟨r, z, k, e', h, rfl, hres.res.bel, hres.res.le, hres.wn (by rw [hv, ha.val, hb.val])⟩
theorem sub_n {w : World} {s t x y n m c d f g u v} (ha : Wn w s x n c f u) (hb : Wn w t y m d g v) (hn : n ≤ 4096) (hm : m ≤ 4096) :
    Calls Tryz.prog 40 #[.agg #[.bool s, .slice x n c], .agg #[.bool t, .slice y m d]] w fun e w' => ∃ r z k e' h, e = .returned (.tuple #[.agg #[.bool r, .slice z k e'], .int .i64 0]) ∧ Below w.heap.size w w' ∧ k ≤ max n m + 1 ∧ Wn w' r z k e' h (u - v) := by
  refine (wSub_c s t x y n m c d f g w (by omega) (by omega) ha.rd hb.rd ha.lm hb.lm).mono ?_
  rintro e w' ⟨r, z, k, e', h, er, rfl, hres, hans⟩
  obtain ⟨rfl, hv⟩ := hans.ok ⟨ha.wf, hb.wf⟩
  exact ⟨r, z, k, e', h, rfl, hres.res.bel, hres.res.le, hres.wn (by rw [hv, ha.val, hb.val])⟩
theorem mul_n {w : World} {s t x y n m c d f g u v} (ha : Wn w s x n c f u) (hb : Wn w t y m d g v) (hn : n ≤ 4096) (hm : m ≤ 4096) :
    Calls Tryz.prog 41 #[.agg #[.bool s, .slice x n c], .agg #[.bool t, .slice y m d]] w fun e w' => ∃ r z k e' h, e = .returned (.tuple #[.agg #[.bool r, .slice z k e'], .int .i64 0]) ∧ Below w.heap.size w w' ∧ k ≤ n + m ∧ Wn w' r z k e' h (u * v) := by
  refine (wMul_c s t x y n m c d f g w (by omega) (by omega) ha.cap.1 hb.cap.1 ha.cap.2 hb.cap.2 ha.rd hb.rd ha.lm hb.lm).mono ?_
  rintro e w' ⟨r, z, k, e', h, er, rfl, hres, hans⟩
  obtain ⟨rfl, hv⟩ := hans.ok ⟨ha.wf, hb.wf⟩
  exact ⟨r, z, k, e', h, rfl, hres.res.bel, hres.res.le, hres.wn (by rw [hv, ha.val, hb.val])⟩
theorem neg_n {w : World} {s x n c f u} (ha : Wn w s x n c f u) (hn : n ≤ 4096) :
    Calls Tryz.prog 42 #[.agg #[.bool s, .slice x n c]] w fun e w' => ∃ r z k e' h, e = .returned (.tuple #[.agg #[.bool r, .slice z k e'], .int .i64 0]) ∧ Below w.heap.size w w' ∧ k ≤ n ∧ Wn w' r z k e' h (- u) := by
  refine (wNeg_c s x n c f w (by omega) ha.rd ha.nil ha.lm).mono ?_
  rintro e w' ⟨r, z, k, e', h, er, rfl, hres, hans⟩
  obtain ⟨rfl, hv⟩ := hans.ok ha.wf
  exact ⟨r, z, k, e', h, rfl, hres.res.bel, hres.res.le, hres.wn (by rw [hv, ha.val])⟩
theorem same_n {w : World} {s t x y n m c d f g u} (ha : Wn w s x n c f u) (hb : Wn w t y m d g u) (hn : n ≤ 4096) (hm : m ≤ 4096) :
    Calls Tryz.prog 11 #[.agg #[.bool s, .slice x n c], .agg #[.bool t, .slice y m d]] w fun e w' => e = .returned (.bool true) ∧ Below w.heap.size w w' :=
  wSame_true s t x y n m c d f g w (by omega) (by omega) ha.rd hb.rd ha.lm hb.lm ha.wf hb.wf (ha.val.trans hb.val.symm)
theorem form_n {w : World} {s x n c f u} (ha : Wn w s x n c f u) (hn : n ≤ 4096) :
    Calls Tryz.prog 37 #[.agg #[.bool s, .slice x n c]] w fun e w' => e = .returned (.bool true) ∧ Below w.heap.size w w' := by
  have := wForm_c s x n c f w (by omega) ha.rd
  rw [ha.wf] at this
  exact this

def lgt (n m : Nat) : Bool := decide (n ≤ 60) && decide (m ≤ 60)
theorem wLight_c (s t : Bool) (ao bo : Option Addr) (n m ca cb : Nat) (w : World) (hn : n ≤ 9223372036854775807) (hm : m ≤ 9223372036854775807) :
    Calls Tryz.prog 8 #[.agg #[.bool s, .slice ao n ca], .agg #[.bool t, .slice bo m cb]] w fun e w' => e = .returned (.bool (lgt n m)) ∧ Below w.heap.size w w' := by
  by_cases h1 : n ≤ 60
  · have d1 : decide ((n : Int) ≤ 60) = true := by simp; omega
    by_cases h2 : m ≤ 60
    · have d2 : decide ((m : Int) ≤ 60) = true := by simp; omega
      rw [show lgt n m = true by simp [lgt, h1, h2]]
      go_enter Tryz.func8, Tryz.ntmps8
      go_wp2
      go_ret
      exact ⟨rfl, below_alloc (below_alloc (Below.refl _ _) _) _⟩
    · have d2 : decide ((m : Int) ≤ 60) = false := by simp; omega
      rw [show lgt n m = false by simp [lgt, h2]]
      go_enter Tryz.func8, Tryz.ntmps8
      go_wp2
      go_ret
      exact ⟨rfl, below_alloc (below_alloc (Below.refl _ _) _) _⟩
  · have d1 : decide ((n : Int) ≤ 60) = false := by simp; omega
    rw [show lgt n m = false by simp [lgt, h1]]
    go_enter Tryz.func8, Tryz.ntmps8
    go_wp2
    go_ret
    exact ⟨rfl, below_alloc (below_alloc (Below.refl _ _) _) _⟩
end Go.Proofs.YtclopblgdiahiaaGreatDoor
namespace Go.Proofs.YtclopblgdiahiaaGreatDoor
open Go.RowKit

/-- A whole number by its sign and its magnitude. -/
def sg (s : Bool) (A : Nat) : Int := if s then -(A : Int) else A
theorem sg_tdiv (s : Bool) (A G : Nat) (hG : 0 < G) : (sg s (A * G)).tdiv G = sg s A := by
  have h : (G : Int) ≠ 0 := by omega
  cases s
  · show ((A * G : Nat) : Int).tdiv G = A
    rw [Int.natCast_mul]; exact Int.mul_tdiv_cancel _ h
  · show (-((A * G : Nat) : Int)).tdiv G = -A
    rw [Int.neg_tdiv, Int.natCast_mul, Int.mul_tdiv_cancel _ h]
theorem sg_natAbs (s : Bool) (A : Nat) : (sg s A).natAbs = A := by cases s <;> simp [sg]
theorem sg_mul (s t : Bool) (A B : Nat) : sg s A * sg t B = sg (s != t) (A * B) := by
  cases s <;> cases t <;> simp [sg, Int.neg_mul, Int.mul_neg]
theorem radd {a b : Rat} {G RA RB L BL : Nat} {S N : Int} (hG : G = a.den.gcd b.den) (hA : RA * G = a.den) (hB : RB * G = b.den) (hS : S = a.num * RB + b.num * RA) (hL : L = S.natAbs.gcd G) (hBL : BL * L = b.den) (hN : N * L = S) :
    (a + b).num = N ∧ (a + b).den = RA * BL := by
  have hG0 : 0 < G := by rw [hG]; exact Nat.gcd_pos_of_pos_left _ a.den_pos
  have hL0 : 0 < L := by rw [hL]; exact Nat.gcd_pos_of_pos_right _ hG0
  have eA : a.den / G = RA := by rw [← hA]; exact Nat.mul_div_cancel _ hG0
  have eB : b.den / G = RB := by rw [← hB]; exact Nat.mul_div_cancel _ hG0
  have e1 : (a + b) = Rat.add a b := rfl
  rw [e1]
  unfold Rat.add
  simp only [← hG, eA, eB]
  split
  · next h1 =>
    have hL1 : L = 1 := by rw [hL, h1]; simp
    have : RA = a.den := by rw [← hA, h1]; simp
    have h2 : RB = b.den := by rw [← hB, h1]; simp
    have h3 : BL = b.den := by rw [← hBL, hL1]; simp
    have h4 : N = S := by rw [← hN, hL1]; simp
    subst this; subst h2; subst h3
    exact ⟨by rw [h4, hS], rfl⟩
  · rw [Rat.maybeNormalize_eq]
    have e2 : (a.num * (RB : Int) + b.num * (RA : Int)).natAbs.gcd G = L := by rw [hL, hS]
    refine ⟨?_, ?_⟩
    · simp only [e2]
      rw [Int.divExact_eq_tdiv]
      rw [← hS, ← hN]
      exact Int.mul_tdiv_cancel _ (by omega)
    · simp only [e2]
      rw [← hBL, ← Nat.mul_assoc]
      exact Nat.mul_div_cancel _ hL0
theorem rmul {a b : Rat} {s t : Bool} {G H NA NB DA DB : Nat} (ha : a.num = sg s (NA * G)) (hb : b.num = sg t (NB * H)) (hG : G = a.num.natAbs.gcd b.den) (hH : H = b.num.natAbs.gcd a.den) (h3 : DA * H = a.den) (h4 : DB * G = b.den) :
    (a * b).num = sg (s != t) (NA * NB) ∧ (a * b).den = DA * DB := by
  have hG0 : 0 < G := by rw [hG]; exact Nat.gcd_pos_of_pos_right _ b.den_pos
  have hH0 : 0 < H := by rw [hH]; exact Nat.gcd_pos_of_pos_right _ a.den_pos
  have e1 : (a * b) = Rat.mul a b := rfl
  rw [e1]
  unfold Rat.mul
  simp only [← hG, ← hH, Int.divExact_eq_tdiv, Nat.divExact_eq_div]
  refine ⟨?_, ?_⟩
  · rw [ha, hb, sg_tdiv _ _ _ hG0, sg_tdiv _ _ _ hH0, sg_mul]
  · rw [← h3, ← h4, Nat.mul_div_cancel _ hG0, Nat.mul_div_cancel _ hH0]
theorem rinv {b : Rat} {t : Bool} {B : Nat} (hb : b.num = sg t B) (h0 : 0 < B) : (b⁻¹).num = sg t b.den ∧ (b⁻¹).den = B := by
  have e1 : b⁻¹ = Rat.inv b := rfl
  rw [e1]
  unfold Rat.inv
  cases t
  · have h1 : b.num = B := hb
    rw [dif_neg (by omega), dif_pos (by omega)]
    exact ⟨rfl, by show b.num.natAbs = B; omega⟩
  · have h1 : b.num = -(B : Int) := hb
    rw [dif_pos (by omega)]
    exact ⟨rfl, by show b.num.natAbs = B; omega⟩
theorem rmake {s t : Bool} {NA NB G : Nat} (hB : 0 < NB * G) (hG : G = (NA * G).gcd (NB * G)) :
    (((sg s (NA * G) : Int) : Rat) / (sg t (NB * G) : Int)).num = sg (s != t) NA ∧ (((sg s (NA * G) : Int) : Rat) / (sg t (NB * G) : Int)).den = NB := by
  have hNB : 0 < NB := Nat.pos_of_mul_pos_right hB
  have hG0 : 0 < G := Nat.pos_of_mul_pos_left hB
  have hc : (sg (s != t) NA).natAbs.Coprime NB := by
    have h1 : (sg (s != t) NA).natAbs = NA := by cases s <;> cases t <;> simp [sg]
    rw [h1]
    have : NA.gcd NB * G = G := by rw [← Nat.gcd_mul_right]; exact hG.symm
    exact Nat.eq_of_mul_eq_mul_right hG0 (by rw [this, Nat.one_mul])
  have h2 : ((sg s (NA * G) : Int) : Rat) / (sg t (NB * G) : Int) = ⟨sg (s != t) NA, NB, by omega, hc⟩ := by
    rw [Rat.mk_eq_divInt, ← Rat.divInt_eq_div, Rat.divInt_eq_divInt_iff]
    · cases s <;> cases t <;> simp [sg] <;> grind
    · cases t <;> simp [sg] <;> omega
    · omega
  rw [h2]; exact ⟨rfl, rfl⟩
theorem rfloor (a : Rat) : a.floor = a.num / a.den := by
  unfold Rat.floor
  split
  · next h => rw [h]; simp
  · rfl
end Go.Proofs.YtclopblgdiahiaaGreatDoor
