/-
  The walk of WholeRest.
-/
import Derived.Test.YtgklbedaebiglaaGreatDoorZ5
namespace Go.Proofs.YtgklbedaebiglaaGreatDoor
open Go.RowKit

theorem abs_lt_flr {t r2 : Bool} {g r : Nat → Int} {m k2 : Nat} {A Q : Int} (hg : Lm g m) (hr : Lm r k2) (fr : wfB r2 r k2 = true) (h : Flr A (wv t g m) Q (wv r2 r k2)) : vf r k2 < vf g m ∧ (0 < k2 → r2 = t) := by
  have h1 := vf_nonneg hg; have h2 := vf_nonneg hr
  obtain ⟨_, h3⟩ := h
  have hp : 0 < k2 → 0 < vf r k2 := fun hk => vf_pos hr (fm_of_wfB fr) hk
  have hz : k2 = 0 → vf r k2 = 0 := fun hk => by subst hk; rfl
  by_cases hk : 0 < k2
  · have := hp hk
    cases t <;> cases r2 <;> simp only [wv_false, wv_true] at h3
    · exact ⟨by omega, fun _ => rfl⟩
    · omega
    · omega
    · exact ⟨by omega, fun _ => rfl⟩
  · have := hz (by omega)
    refine ⟨?_, fun h => absurd h hk⟩
    cases t <;> cases r2 <;> simp only [wv_false, wv_true] at h3 <;> omega

theorem kRa {w : World} {x : Option Addr} {n : Nat} {f : Nat → Int} {o : Obj} (h : Rd .u64 w x n f) : Rd .u64 (w.alloc o) x n f := h.alloc o
theorem kRb {w w' : World} {x : Option Addr} {n : Nat} {f : Nat → Int} (hb : Below w.heap.size w w') (h : Rd .u64 w x n f) : Rd .u64 w' x n f := h.below hb (Nat.le_refl _)
theorem kRd {w : World} {x : Option Addr} {n : Nat} {f : Nat → Int} (h : Rd .u64 w x n f) : Rd .u64 w.drew x n f := h
theorem kM0 {w : World} {g : Nat} {x y : Value} {t : TypeId} (h : g = w.heap.size) : (w.alloc (.cells #[x, y] t)).cell? ⟨g, 0, none⟩ = some x := by subst h; exact kN0
theorem kM1 {w : World} {g : Nat} {x y : Value} {t : TypeId} (h : g = w.heap.size) : (w.alloc (.cells #[x, y] t)).cell? ⟨g, 1, none⟩ = some y := by subst h; exact kN1
theorem kCe {w : World} {a : Addr} {v : Value} (h : (w.cell? a).isSome = true) : (w.setCell a v).cell? a = some v := World.cell?_setCell_same' w a v h
theorem kCo {w : World} {b i j : Nat} {u v : Value} (hij : i ≠ j) (h : w.cell? ⟨b, j, none⟩ = some u) : (w.setCell ⟨b, i, none⟩ v).cell? ⟨b, j, none⟩ = some u := by
  rw [World.cell?_setCell_other _ _ _ _ (fun he => hij (congrArg Addr.off he))]; exact h
theorem kIb {w w' : World} {a : Addr} (hb : Below w.heap.size w w') (h : (w.cell? a).isSome = true) : (w'.cell? a).isSome = true := by
  obtain ⟨u, hu⟩ := Option.isSome_iff_exists.1 h
  rw [kCb hb hu]; rfl
/-- What stands behind the quotient. -/
structure RestAt (w w2 wx : World) (sa : Bool) (ao : Option Addr) (n ca : Nat) (f : Nat → Int) (sb : Bool) (bo : Option Addr) (m cb : Nat) (g : Nat → Int) (b5 b6 : Nat) (r1 : Bool) (p1 : Option Addr) (k1 c1 : Nat) (q : Nat → Int) (r2 : Bool) (p2 : Option Addr) (k2 c2 : Nat) (r : Nat → Int) (er : Int) : Prop where
  ba : Bx wx w.heap.size sa ao n ca
  bb : Bx wx (w.heap.size + 1) sb bo m cb
  bq : Bx wx b5 r1 p1 k1 c1
  br : Bx wx b6 r2 p2 k2 c2
  bel : Below w2.heap.size w2 wx
  wq : ∃ v, Wn wx r1 p1 k1 c1 q v
  wr : ∃ v, Wn wx r2 p2 k2 c2 r v
  k1le : k1 ≤ n + 2
  k2le : k2 ≤ n + m + 1
  dv : WDiv sa sb n m f g r1 r2 k1 k2 q r er

theorem rest_hold {w w2 wx W5 w5 : World} {sa : Bool} {ao : Option Addr} {n ca : Nat} {f : Nat → Int} {sb : Bool} {bo : Option Addr} {m cb : Nat} {g : Nat → Int} {b5 b6 : Nat} {r1 : Bool} {p1 : Option Addr} {k1 c1 : Nat} {q : Nat → Int} {r2 : Bool} {p2 : Option Addr} {k2 c2 : Nat} {r : Nat → Int} {er : Int}
    (hW : Below w2.heap.size w2 W5) (hD : WRes (n + 2) W5 w5 r1 p1 k1 c1 q ∧ WRes (n + m + 1) W5 w5 r2 p2 k2 c2 r ∧ WDiv sa sb n m f g r1 r2 k1 k2 q r er) (hT : Turned w2.heap.size W5.heap.size w5 wx)
    (ba : Bx wx w.heap.size sa ao n ca) (bb : Bx wx (w.heap.size + 1) sb bo m cb) (bq : Bx wx b5 r1 p1 k1 c1) (br : Bx wx b6 r2 p2 k2 c2) :
    RestAt w w2 wx sa ao n ca f sb bo m cb g b5 b6 r1 p1 k1 c1 q r2 p2 k2 c2 r er := by
  have hQ := hD.1.res.turned hW hT
  have hR := hD.2.1.res.turned hW hT
  exact ⟨ba, bb, bq, br, hQ.bel, ⟨_, hQ.rd, hQ.lm, hD.1.wfB, hQ.ncap, hQ.nil', rfl⟩, ⟨_, hR.rd, hR.lm, hD.2.1.wfB, hR.ncap, hR.nil', rfl⟩, hQ.le, hR.le, hD.2.2⟩

set_option maxRecDepth 100000 in
set_option maxHeartbeats 8000000 in
theorem wholeRest_c (sa : Bool) (ao : Option Addr) (n ca : Nat) (f : Nat → Int) (sb : Bool) (bo : Option Addr) (m cb : Nat) (g : Nat → Int) (w : World) (hn : n ≤ ca ∧ ca ≤ 9223372036854775807) (hr : Rd .u64 w ao n f) (hf : Lm f n) (na : ao = none → n = 0 ∧ ca = 0) (hm : m ≤ cb ∧ cb ≤ 9223372036854775807) (hs : Rd .u64 w bo m g) (hg : Lm g m) (nb : bo = none → m = 0 ∧ cb = 0) (htab : Tab w) :
    Calls Tryz.prog 3 #[.agg #[.bool sa, .slice ao n ca], .agg #[.bool sb, .slice bo m cb]] w fun e w' => e = .returned (.bool true) ∧ Below w.heap.size w w' := by
  have HR := hid hr; have HS := hid hs; have HF := hid hf; have HG := hid hg; have NA := hid na; have NB := hid nb; have HTab := hid htab
  clear hr hs hf hg na nb htab
  go_enter Tryz.func3, Tryz.ntmps3
  go_wp2_with fail
  refine (wAwake_c _ (HTab.out.below (below_alloc (below_alloc (Below.refl w.heap.size w) _) _) HTab.out.lt)).mono ?_
  rintro e w1 ⟨rfl, hb⟩
  obtain ⟨⟨hz, x0, x1, y0, y1⟩, zf, hw⟩ := boxes2 hb
  have BA1 : Hid (Bx w1 w.heap.size sa ao n ca) := ⟨by omega, x0, x1⟩
  have BB1 : Hid (Bx w1 (w.heap.size + 1) sb bo m cb) := ⟨by omega, y0, y1⟩
  have HW1 := hid hw
  clear hb hw zf
  go_wp2_with fail
  refine (wLight_c sa sb ao bo n m ca cb _ (by omega) (by omega)).mono ?_
  rintro e w2 ⟨rfl, hb⟩
  have BA2 := hid (BA1.out.below hb); have BB2 := hid (BB1.out.below hb); have HW2 := hid (HW1.out.trans (hb.mono HW1.out.size))
  clear hb BA1 BB1 HW1 x0 x1 y0 y1 hz
  cases hlg : lgt n m
  · go_wp2
    go_ret
    exact ⟨rfl, HW2.out⟩
  have hn60 : n ≤ 60 := by simp [lgt] at hlg; exact hlg.1
  have hm60 : m ≤ 60 := by simp [lgt] at hlg; exact hlg.2
  clear hlg
  obtain ⟨za, a0, a1⟩ := BA2.out
  obtain ⟨zb, b0, b1⟩ := BB2.out
  have CT1 : Hid (∀ W, Below w2.heap.size w2 W → Calls Tryz.prog 12 #[.agg #[.bool sa, .slice ao n ca]] W fun e w' => ∃ x c, e = .returned (.agg #[.bool sa, .slice x n c]) ∧ Below W.heap.size W w' ∧ Hid (Rd .u64 w' x n f)) := fun W hW =>
    (wTwin_c sa ao n ca f W (by omega) (HR.out.below (HW2.out.trans (hW.mono HW2.out.size)) (Nat.le_refl _)) NA.out).mono (fun e w' ⟨x, c, h1, h2, h3⟩ => ⟨x, c, h1, h2, h3.slice.2.2.2.1⟩)
  have CT2 : Hid (∀ W, Below w2.heap.size w2 W → Calls Tryz.prog 12 #[.agg #[.bool sb, .slice bo m cb]] W fun e w' => ∃ x c, e = .returned (.agg #[.bool sb, .slice x m c]) ∧ Below W.heap.size W w' ∧ Hid (Rd .u64 w' x m g)) := fun W hW =>
    (wTwin_c sb bo m cb g W (by omega) (HS.out.below (HW2.out.trans (hW.mono HW2.out.size)) (Nat.le_refl _)) NB.out).mono (fun e w' ⟨x, c, h1, h2, h3⟩ => ⟨x, c, h1, h2, h3.slice.2.2.2.1⟩)
  have CD : Hid (∀ (W : World) (x : Option Addr) (c : Nat) (y : Option Addr) (d : Nat), Rd .u64 W x n f → Rd .u64 W y m g → Calls Tryz.prog 11 #[.agg #[.bool sa, .slice x n c], .agg #[.bool sb, .slice y m d]] W fun e w' => ∃ r1 p1 k1 c1 q r2 p2 k2 c2 r er, e = .returned (.tuple #[.agg #[.bool r1, .slice p1 k1 c1], .agg #[.bool r2, .slice p2 k2 c2], .int .i64 er]) ∧ Below W.heap.size W w' ∧ Hid (WRes (n + 2) W w' r1 p1 k1 c1 q ∧ WRes (n + m + 1) W w' r2 p2 k2 c2 r ∧ WDiv sa sb n m f g r1 r2 k1 k2 q r er)) := fun W x c y d h1 h2 =>
    (wDivide_c sa sb x y n m c d f g W (by omega) (by omega) h1 h2 HF.out HG.out).mono (fun e w' ⟨r1, p1, k1, c1, q, r2, p2, k2, c2, r, er, h3, h4, h5, h6⟩ => ⟨r1, p1, k1, c1, q, r2, p2, k2, c2, r, er, h3, h4.res.bel, h4, h5, h6⟩)
  go_upto_region 5 with fail
  go_cut [5, 6, 7] from 20 to 28 (fun u v t wx => ∃ b5 b6 r1 p1 k1 c1 q r2 p2 k2 c2 r er, u = .pointer (some ⟨b5, 0, none⟩) ∧ v = .pointer (some ⟨b6, 0, none⟩) ∧ t = .int .i64 er ∧ RestAt w w2 wx sa ao n ca f sb bo m cb g b5 b6 r1 p1 k1 c1 q r2 p2 k2 c2 r er)
  case first =>
    go_region_held3 (fun w' => w'.cell? ⟨w.heap.size, 0, none⟩ = some (.bool sa) ∧ w'.cell? ⟨w.heap.size, 1, none⟩ = some (.slice ao n ca) ∧ w'.cell? ⟨w.heap.size + 1, 0, none⟩ = some (.bool sb) ∧ w'.cell? ⟨w.heap.size + 1, 1, none⟩ = some (.slice bo m cb))
      (refine ⟨?_, ?_, ?_, ?_⟩ <;> repeat (with_reducible first | assumption | refine kCd ?_ | refine kCa ?_ | refine kCs (by simp only [ne_eq]; omega) ?_ | refine kCb (by assumption) ?_))
      (first
        | (go_at_call 12; with_reducible refine (CT1.out _ (by repeat (with_reducible first | assumption | exact Below.refl _ _ | refine Below.drew ?_ | refine kBa ?_ | refine kBb (by assumption) ?_))).mono ?_; rintro e w3 ⟨xa, cxa, rfl, hb3, HOa⟩; have hza := hb3.size; (try simp at hza); obtain ⟨hc3, hf3⟩ := bcell hb3; (try have q100 : w2.heap.size < w3.heap.size := by omega); (try have q101 : w2.heap.size + 1 < w3.heap.size := by omega))
        | (go_at_call 12; with_reducible refine (CT2.out _ (by repeat (with_reducible first | assumption | exact Below.refl _ _ | refine Below.drew ?_ | refine kBa ?_ | refine kBb (by assumption) ?_))).mono ?_; rintro e w4 ⟨xb, cxb, rfl, hb4, HOb⟩; have hzb := hb4.size; (try simp at hzb); obtain ⟨hc4, hf4⟩ := bcell hb4; (try have q100 : w2.heap.size < w4.heap.size := by omega); (try have q101 : w2.heap.size + 1 < w4.heap.size := by omega); (try have q102 : w3.heap.size < w4.heap.size := by omega); (try have q103 : w3.heap.size + 1 < w4.heap.size := by omega))
        | (go_at_call 11; with_reducible refine (CD.out _ xa cxa xb cxb (by repeat (with_reducible first | exact HOa.out | refine kRd ?_ | refine kRa ?_ | refine kRb (by assumption) ?_)) (by repeat (with_reducible first | exact HOb.out | refine kRd ?_ | refine kRa ?_ | refine kRb (by assumption) ?_))).mono ?_; rintro e w5 ⟨r1, p1, k1, c1, q, r2, p2, k2, c2, r, er, rfl, hb5, HD⟩; have hzc := hb5.size; (try simp at hzc); obtain ⟨hc5, hf5⟩ := bcell hb5; (try have q100 : w2.heap.size < w5.heap.size := by omega); (try have q101 : w2.heap.size + 1 < w5.heap.size := by omega); (try have q102 : w3.heap.size < w5.heap.size := by omega); (try have q103 : w3.heap.size + 1 < w5.heap.size := by omega); (try have q104 : w4.heap.size < w5.heap.size := by omega); (try have q105 : w4.heap.size + 1 < w5.heap.size := by omega)))
    all_goals
      go_wp2_with fail
      go_meet
      refine ⟨_, _, r1, p1, k1, c1, q, r2, p2, k2, c2, r, er, rfl, rfl, rfl, rest_hold (by repeat (with_reducible first | assumption | exact Below.refl _ _ | refine Below.drew ?_ | refine kBa ?_ | refine kBb (by assumption) ?_)) HD.out (by repeat (with_reducible first | exact Turned.refl _ _ _ | refine Turned.drew ?_ | refine Turned.alloc ?_ _ | refine Turned.set ?_ (by first | omega | (simp; done) | (simp; omega)) (by first | omega | (simp; done) | (simp; omega)) _)) ⟨(by first | omega | (simp; done) | (simp; omega)), (by repeat (with_reducible first | assumption | exact kN0 | exact kN1 | (refine kM0 ?_; (simp <;> fail)) | (refine kM1 ?_; (simp <;> fail)) | exact kI0 kN0 | exact kI0 kN1 | (refine kI0 (kM0 ?_); (simp <;> fail)) | (refine kI0 (kM1 ?_); (simp <;> fail)) | refine kCd ?_ | refine kCe ?_ | refine kCo (by decide) ?_ | refine kCs (by simp only [ne_eq]; omega) ?_ | refine kCa ?_ | refine kCb (by assumption) ?_ | refine kId ?_ | refine kIs ?_ | refine kIa ?_ | refine kIb (by assumption) ?_)), (by repeat (with_reducible first | assumption | exact kN0 | exact kN1 | (refine kM0 ?_; (simp <;> fail)) | (refine kM1 ?_; (simp <;> fail)) | exact kI0 kN0 | exact kI0 kN1 | (refine kI0 (kM0 ?_); (simp <;> fail)) | (refine kI0 (kM1 ?_); (simp <;> fail)) | refine kCd ?_ | refine kCe ?_ | refine kCo (by decide) ?_ | refine kCs (by simp only [ne_eq]; omega) ?_ | refine kCa ?_ | refine kCb (by assumption) ?_ | refine kId ?_ | refine kIs ?_ | refine kIa ?_ | refine kIb (by assumption) ?_))⟩ ⟨(by first | omega | (simp; done) | (simp; omega)), (by repeat (with_reducible first | assumption | exact kN0 | exact kN1 | (refine kM0 ?_; (simp <;> fail)) | (refine kM1 ?_; (simp <;> fail)) | exact kI0 kN0 | exact kI0 kN1 | (refine kI0 (kM0 ?_); (simp <;> fail)) | (refine kI0 (kM1 ?_); (simp <;> fail)) | refine kCd ?_ | refine kCe ?_ | refine kCo (by decide) ?_ | refine kCs (by simp only [ne_eq]; omega) ?_ | refine kCa ?_ | refine kCb (by assumption) ?_ | refine kId ?_ | refine kIs ?_ | refine kIa ?_ | refine kIb (by assumption) ?_)), (by repeat (with_reducible first | assumption | exact kN0 | exact kN1 | (refine kM0 ?_; (simp <;> fail)) | (refine kM1 ?_; (simp <;> fail)) | exact kI0 kN0 | exact kI0 kN1 | (refine kI0 (kM0 ?_); (simp <;> fail)) | (refine kI0 (kM1 ?_); (simp <;> fail)) | refine kCd ?_ | refine kCe ?_ | refine kCo (by decide) ?_ | refine kCs (by simp only [ne_eq]; omega) ?_ | refine kCa ?_ | refine kCb (by assumption) ?_ | refine kId ?_ | refine kIs ?_ | refine kIa ?_ | refine kIb (by assumption) ?_))⟩ ⟨(by first | omega | (simp; done) | (simp; omega)), (by repeat (with_reducible first | assumption | exact kN0 | exact kN1 | (refine kM0 ?_; (simp <;> fail)) | (refine kM1 ?_; (simp <;> fail)) | exact kI0 kN0 | exact kI0 kN1 | (refine kI0 (kM0 ?_); (simp <;> fail)) | (refine kI0 (kM1 ?_); (simp <;> fail)) | refine kCd ?_ | refine kCe ?_ | refine kCo (by decide) ?_ | refine kCs (by simp only [ne_eq]; omega) ?_ | refine kCa ?_ | refine kCb (by assumption) ?_ | refine kId ?_ | refine kIs ?_ | refine kIa ?_ | refine kIb (by assumption) ?_)), (by repeat (with_reducible first | assumption | exact kN0 | exact kN1 | (refine kM0 ?_; (simp <;> fail)) | (refine kM1 ?_; (simp <;> fail)) | exact kI0 kN0 | exact kI0 kN1 | (refine kI0 (kM0 ?_); (simp <;> fail)) | (refine kI0 (kM1 ?_); (simp <;> fail)) | refine kCd ?_ | refine kCe ?_ | refine kCo (by decide) ?_ | refine kCs (by simp only [ne_eq]; omega) ?_ | refine kCa ?_ | refine kCb (by assumption) ?_ | refine kId ?_ | refine kIs ?_ | refine kIa ?_ | refine kIb (by assumption) ?_))⟩ ⟨(by first | omega | (simp; done) | (simp; omega)), (by repeat (with_reducible first | assumption | exact kN0 | exact kN1 | (refine kM0 ?_; (simp <;> fail)) | (refine kM1 ?_; (simp <;> fail)) | exact kI0 kN0 | exact kI0 kN1 | (refine kI0 (kM0 ?_); (simp <;> fail)) | (refine kI0 (kM1 ?_); (simp <;> fail)) | refine kCd ?_ | refine kCe ?_ | refine kCo (by decide) ?_ | refine kCs (by simp only [ne_eq]; omega) ?_ | refine kCa ?_ | refine kCb (by assumption) ?_ | refine kId ?_ | refine kIs ?_ | refine kIa ?_ | refine kIb (by assumption) ?_)), (by repeat (with_reducible first | assumption | exact kN0 | exact kN1 | (refine kM0 ?_; (simp <;> fail)) | (refine kM1 ?_; (simp <;> fail)) | exact kI0 kN0 | exact kI0 kN1 | (refine kI0 (kM0 ?_); (simp <;> fail)) | (refine kI0 (kM1 ?_); (simp <;> fail)) | refine kCd ?_ | refine kCe ?_ | refine kCo (by decide) ?_ | refine kCs (by simp only [ne_eq]; omega) ?_ | refine kCa ?_ | refine kCb (by assumption) ?_ | refine kId ?_ | refine kIs ?_ | refine kIa ?_ | refine kIb (by assumption) ?_))⟩⟩
  case rest =>
    clear CT1 CT2 CD a0 a1 b0 b1 za zb BA2 BB2
    obtain ⟨b5, b6, r1, p1, k1, c1, q, r2, p2, k2, c2, r, er, rfl, rfl, rfl, hba, hbb, hbq, hbr, hbel, ⟨vq, hwq⟩, ⟨vr, hwr⟩, hk1, hk2, hdv⟩ := hcut
    have HWx := hid (HW2.out.trans (hbel.mono HW2.out.size))
    have BA3 := hid hba; have BB3 := hid hbb; have BQ3 := hid hbq; have BR3 := hid hbr; have WQ3 := hid hwq; have WR3 := hid hwr; have VR := hid hwr.val
    clear hba hbb hbq hbr hbel hwq hwr HW2
    rcases hdv with ⟨hW, hm0, rfl, hfl⟩ | ⟨hW, hm0, rfl, _, _⟩ | ⟨hW, rfl, _, _⟩
    · have WA3 : Hid (Wn _ sa ao n ca f _) := ⟨HR.out.below HWx.out (Nat.le_refl _), HF.out, hW.1, hn, NA.out, rfl⟩
      have WB3 : Hid (Wn _ sb bo m cb g _) := ⟨HS.out.below HWx.out (Nat.le_refl _), HG.out, hW.2, hm, NB.out, rfl⟩
      obtain ⟨habs, hsgn⟩ := abs_lt_flr HG.out WR3.out.lm WR3.out.wf hfl
      have FL := hid hfl; have ABS := hid habs; have HW := hid hW
      clear hfl habs hW
      obtain ⟨zb, b0, b1⟩ := BB3.out
      obtain ⟨zq, q0, q1⟩ := BQ3.out
      go_wp2_with fail
      refine (mul_n WQ3.out WB3.out (by omega) (by omega)).mono ?_
      rintro e w6 ⟨s6, p6, k6, c6, f6, rfl, hb, hk6, hp6⟩
      have BA4 := hid (BA3.out.below hb); have BB4 := hid (BB3.out.below hb); have BR4 := hid (BR3.out.below hb); have WA4 := hid (WA3.out.below hb); have WB4 := hid (WB3.out.below hb); have WR4 := hid (WR3.out.below hb); have HW4 := hid (HWx.out.trans (hb.mono HWx.out.size)); have WP4 := hid hp6
      clear hb hp6 BA3 BB3 BQ3 BR3 WA3 WB3 WR3 HWx zb b0 b1 zq q0 q1
      obtain ⟨zr, r0, r1'⟩ := BR4.out
      go_wp2_with fail
      refine (add_n (WP4.out.alloc _) (WR4.out.alloc _) (by omega) (by omega)).mono ?_
      rintro e w7 ⟨s7, p7, k7, c7, f7, rfl, hb, hk7, hp7⟩
      have BA5 := hid (BA4.out.next hb); have BB5 := hid (BB4.out.next hb); have BR5 := hid (BR4.out.next hb); have WA5 := hid (WA4.out.next hb); have WB5 := hid (WB4.out.next hb); have WR5 := hid (WR4.out.next hb); have HW5 := hid ((below_alloc HW4.out _).trans (hb.mono (below_alloc HW4.out _).size)); have WS5 := hid hp7
      clear hb hp7 BA4 BB4 BR4 WA4 WB4 WR4 HW4 WP4 zr r0 r1'
      obtain ⟨zr, r0, r1'⟩ := BR5.out
      obtain ⟨zb, b0, b1⟩ := BB5.out
      go_wp2_with fail
      refine (wCmp_c false false p2 bo k2 m c2 cb r g _ (by omega) (by omega) (WR5.out.alloc _).rd (WB5.out.alloc _).rd WR5.out.lm WB5.out.lm).mono ?_
      rintro e w8 ⟨cc, er, rfl, hb, hcm⟩
      have hcc : er = 0 ∧ cc = -1 := by
        rcases hcm with ⟨_, h1, h2⟩ | ⟨h1, _⟩
        · have := ABS.out
          rw [wv_false, wv_false] at h2
          rcases h2 with ⟨h2, _⟩ | ⟨_, h2⟩ | ⟨_, h2⟩
          · exact ⟨h1, h2⟩
          · omega
          · omega
        · exact absurd ⟨(wfB_iff _ _ _).2 ⟨fm_of_wfB WR5.out.wf, fun h => by cases h⟩, (wfB_iff _ _ _).2 ⟨fm_of_wfB WB5.out.wf, fun h => by cases h⟩⟩ h1
      obtain ⟨rfl, rfl⟩ := hcc
      have BS6 := hid (bx_new hb)
      have BA6 := hid (BA5.out.next hb); have BB6 := hid (BB5.out.next hb); have BR6 := hid (BR5.out.next hb); have WA6 := hid (WA5.out.next hb); have WS6 := hid (WS5.out.next hb); have HW6 := hid ((below_alloc HW5.out _).trans (hb.mono (below_alloc HW5.out _).size))
      clear hb hcm BA5 BB5 BR5 WA5 WB5 WR5 HW5 WS5 zr r0 r1' zb b0 b1
      obtain ⟨zs, s0, s1⟩ := BS6.out
      obtain ⟨za, a0, a1⟩ := BA6.out
      have hval : Wn w8 s7 p7 k7 c7 f7 (wv sa f n) := by
        have h1 := FL.out.1
        have h2 := WQ3.out.val
        have h3 := hid WS6.out
        refine ⟨h3.out.rd, h3.out.lm, h3.out.wf, h3.out.cap, h3.out.nil, ?_⟩
        rw [h3.out.val, h1, h2, VR.out]
      go_wp2_with fail
      refine (same_n hval WA6.out (by omega) (by omega)).mono ?_
      rintro e w9 ⟨rfl, hb⟩
      have BB7 := hid (BB6.out.below hb); have BR7 := hid (BR6.out.below hb); have HW7 := hid (HW6.out.trans (hb.mono HW6.out.size))
      clear hb BA6 BB6 BR6 WA6 HW6 WS6 zs s0 s1 za a0 a1 hval
      obtain ⟨zr, r0, r1'⟩ := BR7.out
      obtain ⟨zb, b0, b1⟩ := BB7.out
      by_cases hk0 : k2 = 0
      · subst hk0
        go_wp2
        go_ret
        exact ⟨rfl, HW7.out⟩
      · have hkb : ((k2 : Int) == 0) = false := by simp; omega
        have hss : (r2 == sb) = true := by rw [hsgn (by omega)]; cases sb <;> rfl
        go_wp2
        go_ret
        exact ⟨by first | rfl | (simp [hss]; done) | (rw [hss]), HW7.out⟩
    · have FA := hid hW.1; have FB := hid hW.2
      subst hm0
      clear hW
      obtain ⟨za, a0, a1⟩ := BA3.out
      obtain ⟨zb, b0, b1⟩ := BB3.out
      go_wp2_with fail
      refine (wForm_c sa ao n ca f _ (by omega) (HR.out.below HWx.out (Nat.le_refl _))).mono ?_
      rintro e w6 ⟨rfl, hb⟩
      rw [FA.out]
      have BB4 := hid (BB3.out.below hb); have HW4 := hid (HWx.out.trans (hb.mono HWx.out.size))
      clear hb za a0 a1 zb b0 b1
      obtain ⟨zb, b0, b1⟩ := BB4.out
      go_wp2_with fail
      refine (wForm_c sb bo 0 cb g _ (by omega) (HS.out.below HW4.out (Nat.le_refl _))).mono ?_
      rintro e w7 ⟨rfl, hb⟩
      rw [FB.out]
      have BB5 := hid (BB4.out.below hb); have HW5 := hid (HW4.out.trans (hb.mono HW4.out.size))
      clear hb zb b0 b1
      obtain ⟨zb, b0, b1⟩ := BB5.out
      go_wp2
      go_ret
      exact ⟨rfl, HW5.out⟩
    · have HN := hid hW
      clear hW
      obtain ⟨za, a0, a1⟩ := BA3.out
      go_wp2_with fail
      refine (wForm_c sa ao n ca f _ (by omega) (HR.out.below HWx.out (Nat.le_refl _))).mono ?_
      rintro e w6 ⟨rfl, hb⟩
      have BB4 := hid (BB3.out.below hb); have HW4 := hid (HWx.out.trans (hb.mono HWx.out.size))
      clear hb za a0 a1
      obtain ⟨zb, b0, b1⟩ := BB4.out
      cases hfa : wfB sa f n
      · go_wp2
        go_ret
        exact ⟨rfl, HW4.out⟩
      have hfb : wfB sb g m = false := by
        cases h : wfB sb g m
        · rfl
        · exact absurd ⟨hfa, h⟩ HN.out
      have FB := hid hfb
      clear hfa hfb
      go_wp2_with fail
      refine (wForm_c sb bo m cb g _ (by omega) (HS.out.below HW4.out (Nat.le_refl _))).mono ?_
      rintro e w7 ⟨rfl, hb⟩
      rw [FB.out]
      have BB5 := hid (BB4.out.below hb); have HW5 := hid (HW4.out.trans (hb.mono HW4.out.size))
      clear hb zb b0 b1
      obtain ⟨zb, b0, b1⟩ := BB5.out
      go_wp2
      go_ret
      exact ⟨rfl, HW5.out⟩
end Go.Proofs.YtgklbedaebiglaaGreatDoor
