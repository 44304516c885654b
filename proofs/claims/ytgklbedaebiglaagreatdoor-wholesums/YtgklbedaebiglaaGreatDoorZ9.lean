/-
  The walk of WholeSums.
-/
import Derived.Test.YtgklbedaebiglaaGreatDoorZ8
namespace Go.Proofs.YtgklbedaebiglaaGreatDoor
open Go.RowKit

theorem kRa {w : World} {x : Option Addr} {n : Nat} {f : Nat → Int} {o : Obj} (h : Rd .u64 w x n f) : Rd .u64 (w.alloc o) x n f := h.alloc o
theorem kRb {w w' : World} {x : Option Addr} {n : Nat} {f : Nat → Int} (hb : Below w.heap.size w w') (h : Rd .u64 w x n f) : Rd .u64 w' x n f := h.below hb (Nat.le_refl _)
theorem kRd {w : World} {x : Option Addr} {n : Nat} {f : Nat → Int} (h : Rd .u64 w x n f) : Rd .u64 w.drew x n f := h
theorem kWo {w B u0 u1 s x n c f v} (h : Ob2 w B) (hx : Wn w s x n c f v) : Wn ((w.setCell ⟨B, 0, none⟩ u0).setCell ⟨B, 1, none⟩ u1) s x n c f v := h.wn hx
/-- A number in a box of its own. -/
structure GAt (w1 wx : World) (b8 : Nat) (r : Bool) (z : Option Addr) (k c : Nat) (v : Int) : Prop where
  bx : Bx wx b8 r z k c
  bel : Below w1.heap.size w1 wx
  wn : ∃ f, Wn wx r z k c f v
  le : k ≤ 8192
theorem ord_one {c d a b : Int} (h : Ord c a b) (k : Ord d a b) : c = d := by
  rcases h with ⟨h1, h2⟩ | ⟨h1, h2⟩ | ⟨h1, h2⟩ <;> rcases k with ⟨k1, k2⟩ | ⟨k1, k2⟩ | ⟨k1, k2⟩ <;> omega
theorem twinR_c {w s x n c f} (hr : Rd .u64 w x n f) (hn : n ≤ 1000) (hnil : x = none → n = 0 ∧ c = 0) :
    Calls Tryz.prog 12 #[.agg #[.bool s, .slice x n c]] w fun e w' => ∃ z c', e = .returned (.agg #[.bool s, .slice z n c']) ∧ Below w.heap.size w w' ∧ Hid (Rd .u64 w' z n f ∧ (n ≤ c' ∧ c' ≤ 9223372036854775807) ∧ (z = none → n = 0 ∧ c' = 0)) :=
  (wTwin_c s x n c f w (by omega) hr hnil).mono (fun _ _ ⟨z, c', h1, h2, h3⟩ => ⟨z, c', h1, h2, h3.slice.2.2.2.1, ⟨h3.slice.1, h3.slice.2.1⟩, h3.slice.2.2.1⟩)

set_option maxRecDepth 100000 in
set_option maxHeartbeats 16000000 in
theorem wholeSums_c (sa : Bool) (xa : Option Addr) (na ca : Nat) (fa : Nat → Int) (sb : Bool) (xb : Option Addr) (nb cb : Nat) (fb : Nat → Int) (z : Int) (w : World) (hca : na ≤ ca ∧ ca ≤ 9223372036854775807) (hra : Rd .u64 w xa na fa) (hfa : Lm fa na) (hia : xa = none → na = 0 ∧ ca = 0) (hcb : nb ≤ cb ∧ cb ≤ 9223372036854775807) (hrb : Rd .u64 w xb nb fb) (hfb : Lm fb nb) (hib : xb = none → nb = 0 ∧ cb = 0) (hz : -9223372036854775808 ≤ z ∧ z ≤ 9223372036854775807) (htab : Tab w) :
    Calls Tryz.prog 7 #[.agg #[.bool sa, .slice xa na ca], .agg #[.bool sb, .slice xb nb cb], .int .i64 z] w fun e w' => e = .returned (.bool true) ∧ Below w.heap.size w w' := by
  obtain ⟨p, hp⟩ : ∃ p, (wfB sa fa na && wfB sb fb nb) = p := ⟨_, rfl⟩
  obtain ⟨er, her⟩ : ∃ er : Int, (if p = true then (0 : Int) else 3) = er := ⟨_, rfl⟩
  obtain ⟨pa, hpa⟩ : ∃ p, wfB sa fa na = p := ⟨_, rfl⟩
  obtain ⟨ea, hea⟩ : ∃ er : Int, (if pa = true then (0 : Int) else 3) = er := ⟨_, rfl⟩
  have HP := hid hp; have HER := hid her; have HPA := hid hpa; have HEA := hid hea
  have HRA := hid hra; have HFA := hid hfa; have HIA := hid hia; have HRB := hid hrb; have HFB := hid hfb; have HIB := hid hib; have HTab := hid htab
  have h4 := below_alloc (below_alloc (Below.refl w.heap.size w) (.cells #[.bool sa, .slice xa na ca] 24)) (.cells #[.bool sb, .slice xb nb cb] 24)
  have h5 : Bx ((w.alloc (.cells #[.bool sa, .slice xa na ca] 24)).alloc (.cells #[.bool sb, .slice xb nb cb] 24)) w.heap.size sa xa na ca := Bx.alloc ⟨by simp, kN0, kN1⟩ _
  have h6 : Bx ((w.alloc (.cells #[.bool sa, .slice xa na ca] 24)).alloc (.cells #[.bool sb, .slice xb nb cb] 24)) (w.heap.size + 1) sb xb nb cb := by
    have := size_alloc1 w (.cells #[.bool sa, .slice xa na ca] 24)
    refine ⟨by simp, ?_, ?_⟩
    · rw [← this]; exact kN0
    · rw [← this]; exact kN1
  clear hp her hpa hea hra hfa hia hrb hfb hib htab
  go_enter Tryz.func7, Tryz.ntmps7
  go_wp2_with fail
  generalize (w.alloc (.cells #[.bool sa, .slice xa na ca] 24)).alloc (.cells #[.bool sb, .slice xb nb cb] 24) = w1 at *
  have HW1 := hid h4; have BA1 := hid h5; have BB1 := hid h6
  clear h4 h5 h6
  obtain ⟨za, a0, a1⟩ := BA1.out
  have A1 : Hid (∀ W, Below w1.heap.size w1 W → Calls Tryz.prog 9 #[] W fun e w' => e = .returned (.bool true) ∧ Below W.heap.size W w') := fun W hW => wAwake_c W (HTab.out.below (HW1.out.trans (hW.mono HW1.out.size)) HTab.out.lt)
  have A2 : Hid (∀ W, Calls Tryz.prog 34 #[.int .i64 z] W fun e w' => ∃ s x n c f, e = .returned (.agg #[.bool s, .slice x n c]) ∧ Below W.heap.size W w' ∧ Hid (n ≤ 2 ∧ Wn w' s x n c f z)) := fun W => (wOf_c z W hz.1 hz.2).mono (fun e w' ⟨s, x, n, c, f, h1, h2, h3⟩ => ⟨s, x, n, c, f, h1, h2.res.bel, Nat.le_trans h2.res.le (by omega), h2.wn h3⟩)
  have A3 : Hid (∀ W, Calls Tryz.prog 32 #[.int .i64 z] W fun e w' => ∃ s x n c f, e = .returned (.agg #[.bool s, .slice x n c]) ∧ Below W.heap.size W w' ∧ Hid (n ≤ 2 ∧ Wn w' s x n c f z)) := fun W => (docOf_c z W hz.1 hz.2).mono (fun e w' ⟨s, x, n, c, f, h1, h2, h3⟩ => ⟨s, x, n, c, f, h1, h2.res.bel, h2.res.le, h2.wn h3⟩)
  have A4 : Hid (∀ W, Below w1.heap.size w1 W → Calls Tryz.prog 13 #[.agg #[.bool sa, .slice xa na ca]] W fun e w' => e = .returned (.bool pa) ∧ Below W.heap.size W w') := fun W hW => by
    have := wForm_c sa xa na ca fa W (by omega) (HRA.out.below (HW1.out.trans (hW.mono HW1.out.size)) (Nat.le_refl _))
    rw [HPA.out] at this; exact this
  have A5 : Hid (∀ W, Below w1.heap.size w1 W → Calls Tryz.prog 35 #[.agg #[.bool sa, .slice xa na ca]] W fun e w' => e = .returned (.bool pa) ∧ Below W.heap.size W w') := fun W hW => by
    have := rwForm_c sa xa na ca fa W (by omega) (HRA.out.below (HW1.out.trans (hW.mono HW1.out.size)) (Nat.le_refl _))
    rw [HPA.out] at this; exact this
  have hpp : (pa == pa) = true := by cases pa <;> rfl
  have hpn : (pa != pa) = false := by cases pa <;> rfl
  go_region_held3 (fun w' => w'.cell? ⟨w.heap.size, 0, none⟩ = some (.bool sa) ∧ w'.cell? ⟨w.heap.size, 1, none⟩ = some (.slice xa na ca))
    (refine ⟨?_, ?_⟩ <;> repeat (with_reducible first | assumption | refine kCd ?_ | refine kCa ?_ | refine kCb (by assumption) ?_))
    (first
      | (go_at_call 9; with_reducible refine (A1.out _ (by repeat (with_reducible first | assumption | exact Below.refl _ _ | refine Below.drew ?_ | refine kBa ?_ | refine kBb (by assumption) ?_))).mono ?_; rintro e v1 ⟨rfl, hv1⟩)
      | (go_at_call 34; with_reducible refine (A2.out _).mono ?_; rintro e v2 ⟨i1, i2, i3, i4, i5, rfl, hv2, HI⟩)
      | (go_at_call 32; with_reducible refine (A3.out _).mono ?_; rintro e v3 ⟨j1, j2, j3, j4, j5, rfl, hv3, HJ⟩)
      | (go_at_call 17; with_reducible refine (same_n (HI.out.2.below hv3) HJ.out.2 (by have := HI.out.1; omega) (by have := HJ.out.1; omega)).mono ?_; rintro e v4 ⟨rfl, hv4⟩)
      | (go_at_call 13; with_reducible refine (A4.out _ (by repeat (with_reducible first | assumption | exact Below.refl _ _ | refine Below.drew ?_ | refine kBa ?_ | refine kBb (by assumption) ?_))).mono ?_; rintro e v5 ⟨rfl, hv5⟩)
      | (go_at_call 35; with_reducible refine (A5.out _ (by repeat (with_reducible first | assumption | exact Below.refl _ _ | refine Below.drew ?_ | refine kBa ?_ | refine kBb (by assumption) ?_))).mono ?_; rintro e v6 ⟨rfl, hv6⟩))
  have hb : Below w1.heap.size w1 v6 := (by repeat (with_reducible first | assumption | exact Below.refl _ _ | refine Below.drew ?_ | refine kBa ?_ | refine kBb (by assumption) ?_))
  clear A1 A2 A3 A4 A5 hv1 hv2 hv3 hv4 hv5 hv6 HI HJ za a0 a1
  have HB6 := hid hb
  clear hb
  obtain ⟨za, a0, a1⟩ := BA1.out.below HB6.out
  obtain ⟨zb, b0, b1⟩ := BB1.out.below HB6.out
  go_wp2_with fail
  refine (wLight_c sa sb xa xb na nb ca cb _ (by omega) (by omega)).mono ?_
  rintro e w2 ⟨rfl, hb⟩
  have HB2 := hid (HB6.out.trans (hb.mono HB6.out.size))
  clear hb HB6 za a0 a1 zb b0 b1
  cases hlg : lgt na nb
  · go_wp2
    go_ret
    exact ⟨rfl, HW1.out.trans (HB2.out.mono HW1.out.size)⟩
  have hn60 : na ≤ 60 := by simp [lgt] at hlg; exact hlg.1
  have hm60 : nb ≤ 60 := by simp [lgt] at hlg; exact hlg.2
  clear hlg
  have TA : Hid (∀ W, Below w1.heap.size w1 W → Calls Tryz.prog 12 #[.agg #[.bool sa, .slice xa na ca]] W fun e w' => ∃ z c', e = .returned (.agg #[.bool sa, .slice z na c']) ∧ Below W.heap.size W w' ∧ Hid (Rd .u64 w' z na fa ∧ (na ≤ c' ∧ c' ≤ 9223372036854775807) ∧ (z = none → na = 0 ∧ c' = 0))) := fun W hW => twinR_c (HRA.out.below (HW1.out.trans (hW.mono HW1.out.size)) (Nat.le_refl _)) (by omega) HIA.out
  have TB : Hid (∀ W, Below w1.heap.size w1 W → Calls Tryz.prog 12 #[.agg #[.bool sb, .slice xb nb cb]] W fun e w' => ∃ z c', e = .returned (.agg #[.bool sb, .slice z nb c']) ∧ Below W.heap.size W w' ∧ Hid (Rd .u64 w' z nb fb ∧ (nb ≤ c' ∧ c' ≤ 9223372036854775807) ∧ (z = none → nb = 0 ∧ c' = 0))) := fun W hW => twinR_c (HRB.out.below (HW1.out.trans (hW.mono HW1.out.size)) (Nat.le_refl _)) (by omega) HIB.out
  have CL : Hid (∀ (kind : Nat) (_ : kind < 3) (W : World) (xp : Option Addr) (cp : Nat) (xq : Option Addr) (cq : Nat), (Rd .u64 W xp na fa ∧ (na ≤ cp ∧ cp ≤ 9223372036854775807) ∧ (xp = none → na = 0 ∧ cp = 0)) → (Rd .u64 W xq nb fb ∧ (nb ≤ cq ∧ cq ≤ 9223372036854775807) ∧ (xq = none → nb = 0 ∧ cq = 0)) → Calls Tryz.prog 36 #[.int .i64 kind, .agg #[.bool sa, .slice xp na cp], .agg #[.bool sb, .slice xq nb cq]] W fun e w' => ∃ r z k c f, e = .returned (.tuple #[.agg #[.bool r, .slice z k c], .int .i64 er]) ∧ Below W.heap.size W w' ∧ Hid (k ≤ 8192 ∧ Wn w' r z k c f (if p = true then kv kind (wv sa fa na) (wv sb fb nb) else 0))) := fun kind hk W xp cp xq cq h1 h2 => (call_g kind hk sa xp na cp fa sb xq nb cq fb W h1.1 HFA.out h1.2.1 h1.2.2 h2.1 HFB.out h2.2.1 h2.2.2 (by omega) (by omega)).mono (fun e w' ⟨r, z, k, c, f, h3, h4, h5, h6⟩ => ⟨r, z, k, c, f, by rw [h3, HP.out, HER.out], h4, h5, by rw [HP.out] at h6; exact h6⟩)
  have DC : Hid (∀ (kind : Nat) (_ : kind < 3) (W : World), Below w1.heap.size w1 W → Calls Tryz.prog 37 #[.int .i64 kind, .agg #[.bool sa, .slice xa na ca], .agg #[.bool sb, .slice xb nb cb]] W fun e w' => ∃ r z k c f, e = .returned (.tuple #[.agg #[.bool r, .slice z k c], .int .i64 er]) ∧ Below W.heap.size W w' ∧ Hid (k ≤ 8192 ∧ Wn w' r z k c f (if p = true then kv kind (wv sa fa na) (wv sb fb nb) else 0))) := fun kind hk W hW => (doc_g kind hk sa xa na ca fa sb xb nb cb fb W (HRA.out.below (HW1.out.trans (hW.mono HW1.out.size)) (Nat.le_refl _)) HFA.out hca HIA.out (HRB.out.below (HW1.out.trans (hW.mono HW1.out.size)) (Nat.le_refl _)) HFB.out hcb HIB.out (by omega) (by omega)).mono (fun e w' ⟨r, z, k, c, f, h3, h4, h5, h6⟩ => ⟨r, z, k, c, f, by rw [h3, HP.out, HER.out], h4, h5, by rw [HP.out] at h6; exact h6⟩)
  go_wp2
  go_loopw [39] (fun t wr => ∃ kind : Nat, kind ≤ 3 ∧ t = .int .i64 kind ∧ Hid (Below w1.heap.size w1 wr)) (fun t _ => 3 - (intOf t).toNat)
  case atStart => exact ⟨0, by omega, rfl, HB2.out⟩
  case round =>
    obtain ⟨kind, hk, rfl, HBr⟩ := hrel
    have BAr := hid (BA1.out.below HBr.out); have BBr := hid (BB1.out.below HBr.out)
    obtain ⟨za, a0, a1⟩ := BAr.out
    obtain ⟨zb, b0, b1⟩ := BBr.out
    by_cases hlt : kind < 3
    · have hd : decide ((kind : Int) < 3) = true := by simp; omega
      go_upto_region 8 with fail
      go_cut [8, 9] from 42 to 50 (fun u t wx => ∃ (wy : World) (b8 : Nat) (r : Bool) (zz : Option Addr) (k c : Nat), wy = wx ∧ u = .pointer (some ⟨b8, 0, none⟩) ∧ t = .int .i64 er ∧ GAt wr wy b8 r zz k c (if p = true then kv kind (wv sa fa na) (wv sb fb nb) else 0))
      case first =>
        have hrb := HBr.out
        go_region_held3 (fun w' => w'.cell? ⟨w.heap.size, 0, none⟩ = some (.bool sa) ∧ w'.cell? ⟨w.heap.size, 1, none⟩ = some (.slice xa na ca) ∧ w'.cell? ⟨w.heap.size + 1, 0, none⟩ = some (.bool sb) ∧ w'.cell? ⟨w.heap.size + 1, 1, none⟩ = some (.slice xb nb cb))
          (refine ⟨?_, ?_, ?_, ?_⟩ <;> repeat (with_reducible first | assumption | refine kCd ?_ | refine kCa ?_ | refine kCs (by simp only [ne_eq]; omega) ?_ | refine kCb (by assumption) ?_))
          (first
            | (go_at_call 12; with_reducible refine (TA.out _ (by repeat (with_reducible first | assumption | exact Below.refl _ _ | refine Below.drew ?_ | refine kBa ?_ | refine kBb (by assumption) ?_))).mono ?_; rintro e v3 ⟨xp, cp, rfl, hb3, HI⟩; have hzi := hb3.size; (try simp at hzi); obtain ⟨hc3, hf3⟩ := bcell hb3; (try have q100 : wr.heap.size < v3.heap.size := by omega))
            | (go_at_call 12; with_reducible refine (TB.out _ (by repeat (with_reducible first | assumption | exact Below.refl _ _ | refine Below.drew ?_ | refine kBa ?_ | refine kBb (by assumption) ?_))).mono ?_; rintro e v4 ⟨xq, cq, rfl, hb4, HJ⟩; have hzj := hb4.size; (try simp at hzj); obtain ⟨hc4, hf4⟩ := bcell hb4; (try have q100 : wr.heap.size < v4.heap.size := by omega); (try have q102 : v3.heap.size < v4.heap.size := by omega))
            | (go_at_call 36; with_reducible refine (CL.out kind hlt _ xp cp xq cq ⟨(by repeat (with_reducible first | exact HI.out.1 | refine kRd ?_ | refine kRa ?_ | refine kRb (by assumption) ?_)), HI.out.2⟩ ⟨(by repeat (with_reducible first | exact HJ.out.1 | refine kRd ?_ | refine kRa ?_ | refine kRb (by assumption) ?_)), HJ.out.2⟩).mono ?_; rintro e v5 ⟨r, zz, k, c, f, rfl, hb5, HG⟩; have hzk := hb5.size; (try simp at hzk); obtain ⟨hc5, hf5⟩ := bcell hb5; (try have q100 : wr.heap.size < v5.heap.size := by omega); (try have q102 : v3.heap.size < v5.heap.size := by omega); (try have q104 : v4.heap.size < v5.heap.size := by omega)))
        all_goals
          go_wp2_with fail
          go_meet
          refine ⟨_, _, r, zz, k, c, rfl, rfl, rfl, ⟨(by first | omega | (simp; done) | (simp; omega)), (by repeat (with_reducible first | assumption | exact kN0 | exact kN1 | (refine kM0 ?_; (simp <;> fail)) | (refine kM1 ?_; (simp <;> fail)) | exact kI0 kN0 | exact kI0 kN1 | (refine kI0 (kM0 ?_); (simp <;> fail)) | (refine kI0 (kM1 ?_); (simp <;> fail)) | refine kCd ?_ | refine kCe ?_ | refine kCo (by decide) ?_ | refine kCs (by simp only [ne_eq]; omega) ?_ | refine kCa ?_ | refine kCb (by assumption) ?_ | refine kId ?_ | refine kIs ?_ | refine kIa ?_ | refine kIb (by assumption) ?_)), (by repeat (with_reducible first | assumption | exact kN0 | exact kN1 | (refine kM0 ?_; (simp <;> fail)) | (refine kM1 ?_; (simp <;> fail)) | exact kI0 kN0 | exact kI0 kN1 | (refine kI0 (kM0 ?_); (simp <;> fail)) | (refine kI0 (kM1 ?_); (simp <;> fail)) | refine kCd ?_ | refine kCe ?_ | refine kCo (by decide) ?_ | refine kCs (by simp only [ne_eq]; omega) ?_ | refine kCa ?_ | refine kCb (by assumption) ?_ | refine kId ?_ | refine kIs ?_ | refine kIa ?_ | refine kIb (by assumption) ?_))⟩, (by repeat (with_reducible first | assumption | exact Below.refl _ _ | refine Below.drew ?_ | refine kBa ?_ | refine kBs' (by first | omega | (simp; done) | (simp; omega)) ?_ | refine kBb (by assumption) ?_)), ⟨f, (by repeat (with_reducible first | exact HG.out.2 | refine kWd ?_ | refine kWa ?_ | refine kWo (by repeat (with_reducible first | exact ob2_at rfl | (refine ob2_at ?_; (simp <;> fail)) | refine Ob2.drew ?_ | refine kO2a ?_ | refine kO2s (by simp only [ne_eq]; omega) ?_ | refine kO2b (by assumption) ?_)) ?_ | refine kWb (by assumption) ?_))⟩, HG.out.1⟩
      case rest =>
        obtain ⟨w3, b8, r8, z8, k8, c8, rfl, rfl, rfl, hbx, hb, ⟨f8, hw8⟩, hk8⟩ := hcut
        have HB3 := hid (HBr.out.trans (hb.mono HBr.out.size)); have BX3' := hid hbx; have W8 := hid hw8
        clear hbx hw8 hb za a0 a1 zb b0 b1
        obtain ⟨za, a0, a1⟩ := BA1.out.below HB3.out
        obtain ⟨zb, b0, b1⟩ := BB1.out.below HB3.out
        go_wp2_with fail
        refine (DC.out kind hlt _ HB3.out).mono ?_
        rintro e w4 ⟨r9, z9, k9, c9, f9, rfl, hb, HD⟩
        have HB4 := hid (HB3.out.trans (hb.mono HB3.out.size)); have BX4 := hid (BX3'.out.below hb); have W84 := hid (W8.out.below hb)
        clear hb za a0 a1 zb b0 b1
        obtain ⟨zx, x0, x1⟩ := BX4.out
        go_wp2_with fail
        refine (wSame_true r8 r9 z8 z9 k8 k9 c8 c9 f8 f9 _ (by omega) (by have := HD.out.1; omega) (W84.out.alloc _).rd (HD.out.2.alloc _).rd W84.out.lm HD.out.2.lm W84.out.wf HD.out.2.wf (W84.out.val.trans HD.out.2.val.symm)).mono ?_
        rintro e w5 ⟨rfl, hb⟩
        have HB5 := hid ((below_alloc HB4.out _).trans (hb.mono (below_alloc HB4.out _).size))
        clear hb zx x0 x1
        go_wp2
        go_roundw
        case rel => exact ⟨kind + 1, by omega, by go_num, HB5.out⟩
        case measure => simp [intOf]; omega
    · have hk3 : kind = 3 := by omega
      subst hk3
      go_wp2_with fail
      refine (TA.out _ HBr.out).mono ?_
      rintro e w3 ⟨xp, cp, rfl, hb, HI⟩
      have HB3 := hid (HBr.out.trans (hb.mono HBr.out.size))
      clear hb za a0 a1 zb b0 b1 CL DC
      go_wp2_with fail
      refine (wNeg_c sa xp na cp fa _ (by omega) HI.out.1 HI.out.2.2 HFA.out).mono ?_
      rintro e w4 ⟨r8, z8, k8, c8, f8, e8, rfl, hres, hans⟩
      have hg : e8 = ea ∧ Wn w4 r8 z8 k8 c8 f8 (if pa = true then - wv sa fa na else 0) := by
        have h1 := HPA.out; have h2 := HEA.out
        rcases hans with ⟨h3, h4, h5⟩ | ⟨h3, h4, h5⟩
        · have e : pa = true := h1.symm.trans h3
          subst e
          exact ⟨h4.trans h2, hres.wn h5⟩
        · have e : pa = false := by
            cases pa
            · rfl
            · exact absurd h1 h3
          subst e
          refine ⟨h4.trans h2, hres.wn ?_⟩
          subst h5
          cases r8 <;> rfl
      obtain ⟨rfl, hw8⟩ := hg
      have hb := hres.res.bel
      have hk8 := hres.res.le
      have HB4 := hid (HB3.out.trans (hb.mono HB3.out.size)); have W84 := hid hw8
      clear hb hres hans hw8 HI
      obtain ⟨za, a0, a1⟩ := BA1.out.below HB4.out
      have DN : Hid (∀ W, Below w1.heap.size w1 W → Calls Tryz.prog 39 #[.agg #[.bool sa, .slice xa na ca]] W fun e w' => ∃ r z k c f, e = .returned (.tuple #[.agg #[.bool r, .slice z k c], .int .i64 e8]) ∧ Below W.heap.size W w' ∧ Hid (k ≤ 4096 ∧ Wn w' r z k c f (if pa = true then - wv sa fa na else 0))) := fun W hW => (docNeg_g sa xa na ca fa W (HRA.out.below (HW1.out.trans (hW.mono HW1.out.size)) (Nat.le_refl _)) HFA.out hca HIA.out (by omega)).mono (fun e w' ⟨r, z, k, c, f, h3, h4, h5, h6⟩ => ⟨r, z, k, c, f, by rw [h3, HPA.out, HEA.out], h4, h5, by rw [HPA.out] at h6; exact h6⟩)
      go_wp2_with fail
      refine (DN.out _ (below_alloc HB4.out _)).mono ?_
      rintro e w5 ⟨r9, z9, k9, c9, f9, rfl, hb, HD⟩
      have BX5 := hid (bx_new hb); have W85 := hid (W84.out.next hb); have HB5 := hid ((below_alloc HB4.out _).trans (hb.mono (below_alloc HB4.out _).size))
      clear hb za a0 a1 DN
      obtain ⟨zx, x0, x1⟩ := BX5.out
      go_wp2_with fail
      refine (wSame_true r8 r9 z8 z9 k8 k9 c8 c9 f8 f9 _ (by omega) (by have := HD.out.1; omega) (W85.out.alloc _).rd (HD.out.2.alloc _).rd W85.out.lm HD.out.2.lm W85.out.wf HD.out.2.wf (W85.out.val.trans HD.out.2.val.symm)).mono ?_
      rintro e w6 ⟨rfl, hb⟩
      have HB6 := hid ((below_alloc HB5.out _).trans (hb.mono (below_alloc HB5.out _).size))
      clear hb zx x0 x1 HD W85 BX5
      obtain ⟨za, a0, a1⟩ := BA1.out.below HB6.out
      obtain ⟨zb, b0, b1⟩ := BB1.out.below HB6.out
      have hrb := HB6.out
      have CM : Hid (∀ (W : World) (xp : Option Addr) (cp : Nat) (xq : Option Addr) (cq : Nat), Rd .u64 W xp na fa → Rd .u64 W xq nb fb → Calls Tryz.prog 16 #[.agg #[.bool sa, .slice xp na cp], .agg #[.bool sb, .slice xq nb cq]] W fun e w' => ∃ c, e = .returned (.tuple #[.int .i64 c, .int .i64 er]) ∧ Below W.heap.size W w' ∧ Hid (if p = true then Ord c (wv sa fa na) (wv sb fb nb) else c = 0)) := fun W xp cp xq cq h1 h2 => (wCmp_c sa sb xp xq na nb cp cq fa fb W (by omega) (by omega) h1 h2 HFA.out HFB.out).mono (fun e w' ⟨c, e', h3, h4, h5⟩ => by
        have e1 := HP.out; have e2 := HER.out
        rcases h5 with ⟨h6, h7, h8⟩ | ⟨h6, h7, h8⟩
        · have e : p = true := by rw [← e1]; simp [h6.1, h6.2]
          subst e
          exact ⟨c, by rw [h3, h7, ← e2]; rfl, h4, h8⟩
        · have e : p = false := by
            rw [← e1]
            cases h9 : wfB sa fa na
            · rfl
            · cases h10 : wfB sb fb nb
              · rfl
              · exact absurd ⟨h9, h10⟩ h6
          subst e
          exact ⟨c, by rw [h3, h7, ← e2]; rfl, h4, h8⟩)
      go_wp2_with fail
      go_region_held3 (fun w' => w'.cell? ⟨w.heap.size, 0, none⟩ = some (.bool sa) ∧ w'.cell? ⟨w.heap.size, 1, none⟩ = some (.slice xa na ca) ∧ w'.cell? ⟨w.heap.size + 1, 0, none⟩ = some (.bool sb) ∧ w'.cell? ⟨w.heap.size + 1, 1, none⟩ = some (.slice xb nb cb))
        (refine ⟨?_, ?_, ?_, ?_⟩ <;> repeat (with_reducible first | assumption | refine kCd ?_ | refine kCa ?_ | refine kCb (by assumption) ?_))
        (first
          | (go_at_call 12; with_reducible refine (TA.out _ (by repeat (with_reducible first | assumption | exact Below.refl _ _ | refine Below.drew ?_ | refine kBa ?_ | refine kBb (by assumption) ?_))).mono ?_; rintro e v3 ⟨xp, cp, rfl, hb3, HI⟩)
          | (go_at_call 12; with_reducible refine (TB.out _ (by repeat (with_reducible first | assumption | exact Below.refl _ _ | refine Below.drew ?_ | refine kBa ?_ | refine kBb (by assumption) ?_))).mono ?_; rintro e v4 ⟨xq, cq, rfl, hb4, HJ⟩)
          | (go_at_call 16; with_reducible refine (CM.out _ xp cp xq cq (HI.out.1.below hb4 (Nat.le_refl _)) HJ.out.1).mono ?_; rintro e v5 ⟨cc, rfl, hb5, HO⟩))
      have hb : Below w1.heap.size w1 v5 := (by repeat (with_reducible first | assumption | exact Below.refl _ _ | refine Below.drew ?_ | refine kBa ?_ | refine kBb (by assumption) ?_))
      have HB7 := hid hb
      clear hb hrb hb3 hb4 hb5 HI HJ CM za a0 a1 zb b0 b1 HB6
      obtain ⟨za, a0, a1⟩ := BA1.out.below HB7.out
      obtain ⟨zb, b0, b1⟩ := BB1.out.below HB7.out
      have hW7 := HW1.out.trans (HB7.out.mono HW1.out.size)
      have cd := docCmp_g sa xa na ca fa sb xb nb cb fb v5 (HRA.out.below hW7 (Nat.le_refl _)) HFA.out hca HIA.out (HRB.out.below hW7 (Nat.le_refl _)) HFB.out hcb HIB.out (by omega) (by omega)
      rw [HP.out] at cd
      have CD : Hid (Calls Tryz.prog 40 #[.agg #[.bool sa, .slice xa na ca], .agg #[.bool sb, .slice xb nb cb]] v5 fun e w' => e = .returned (.tuple #[.int .i64 cc, .int .i64 er]) ∧ Below v5.heap.size v5 w') := hid (cd.mono (fun e w' ⟨c, h3, h4, h5⟩ => by
        have e2 := HER.out
        have ho := HO.out
        have hcc : c = cc := by
          cases p
          · exact (show c = 0 from h5).trans (show cc = 0 from ho).symm
          · exact ord_one (show Ord c _ _ from h5) (show Ord cc _ _ from ho)
        exact ⟨by rw [h3, hcc, e2], h4⟩))
      clear cd hW7 HO
      go_wp2_with fail
      refine CD.out.mono ?_
      rintro e w8 ⟨rfl, hb⟩
      have HW8 := hid (HW1.out.trans ((HB7.out.trans (hb.mono HB7.out.size)).mono HW1.out.size))
      clear hb CD
      go_wp2
      go_ret
      exact ⟨by simp, HW8.out⟩
end Go.Proofs.YtgklbedaebiglaaGreatDoor
