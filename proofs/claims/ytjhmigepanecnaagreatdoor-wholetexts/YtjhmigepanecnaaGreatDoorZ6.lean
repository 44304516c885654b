/-
  Walks of the document's reference for whole: Form, From, Text, Read, DocText, DocRead. The walk of WholeTexts.
-/
import Derived.Test.YtjhmigepanecnaaGreatDoorZ5
namespace Go.Proofs.YtjhmigepanecnaaGreatDoor
open Go.RowKit

theorem rwForm_c (s : Bool) (ao : Option Addr) (n cap : Nat) (f : Nat → Int) (w : World) (hm : n ≤ 9223372036854775807) (hr : Rd .u64 w ao n f) :
    Calls Tryz.prog 23 #[.agg #[.bool s, .slice ao n cap]] w fun e w' => e = .returned (.bool (wfB s f n)) ∧ Below w.heap.size w w' := by
  have hba : Below w.heap.size w (w.alloc (.cells #[.bool s, .slice ao n cap] 36)) := below_alloc (Below.refl _ _) _
  have c1 := rform_c ao n cap f (w.alloc (.cells #[.bool s, .slice ao n cap] 36)) hm (hr.alloc _)
  have HB := hid hba
  clear hr hba
  have hwf : wfB s f n = (fmB f n && !(s && decide (n = 0))) := rfl
  rw [hwf]
  clear hwf
  cases hfa : fmB f n
  · rw [hfa] at c1
    have C1 := hid c1
    clear c1 hfa
    go_enter Tryz.func23, Tryz.ntmps23
    go_wp2_with fail
    refine C1.out.mono ?_
    rintro e w1 ⟨rfl, rfl⟩
    go_wp2
    go_ret
    exact ⟨rfl, HB.out⟩
  · rw [hfa] at c1
    have C1 := hid c1
    clear c1 hfa
    cases s
    · go_enter Tryz.func23, Tryz.ntmps23
      go_wp2_with fail
      refine C1.out.mono ?_
      rintro e w1 ⟨rfl, rfl⟩
      go_wp2
      go_ret
      exact ⟨rfl, HB.out⟩
    · by_cases hn0 : n = 0
      · subst hn0
        go_enter Tryz.func23, Tryz.ntmps23
        go_wp2_with fail
        refine C1.out.mono ?_
        rintro e w1 ⟨rfl, rfl⟩
        go_wp2
        go_ret
        exact ⟨rfl, HB.out⟩
      · have hni : ((n : Int) == 0) = false := by simp; omega
        have hdn : decide (n = 0) = false := by simp; omega
        rw [hdn]
        clear hdn
        go_enter Tryz.func23, Tryz.ntmps23
        go_wp2_with fail
        refine C1.out.mono ?_
        rintro e w1 ⟨rfl, rfl⟩
        go_wp2
        go_ret
        exact ⟨rfl, HB.out⟩

set_option maxRecDepth 100000 in
set_option maxHeartbeats 1000000 in
theorem zFrom_c (s : Bool) (ao : Option Addr) (n cap : Nat) (f : Nat → Int) (w : World) (hn : n ≤ 1048576) (hr : Rd .u64 w ao n f) (hf : Lm f n) (hw : wfB s f n = true) :
    Calls Tryz.prog 58 #[.agg #[.bool s, .slice ao n cap]] w fun e w' => ∃ t x m c d, e = .returned (.agg #[.bool t, .slice x m c]) ∧ ZRes (2 * n) w w' t x m d (wv s f n) ∧ (t = s ∧ vd d m = vf f n) := by
  have HR := hid hr; have HF := hid hf; have HWf := hid hw
  clear hr hf hw
  have CT : Hid (∀ W, Below ((w.alloc (.cells #[.bool s, .slice ao n cap] 36)).alloc (.cells #[.bool false, .slice none 0 0] 74)).heap.size ((w.alloc (.cells #[.bool s, .slice ao n cap] 36)).alloc (.cells #[.bool false, .slice none 0 0] 74)) W → Calls Tryz.prog 49 #[.slice ao n cap] W fun e w' => ∃ ao' m cap', e = .returned (.slice ao' m cap') ∧ Hid ((∀ a, ao' = some a → W.heap.size ≤ a.block) ∧ Below W.heap.size W w' ∧ Rd .u64 w' ao' m (dig f) ∧ m ≤ 2 * n ∧ (ao' = none → m = 0) ∧ Dg (dig f) m ∧ Fm (dig f) m ∧ vd (dig f) m = vf f n) ∧ (w.heap.size + 1 < w'.heap.size ∧ w'.cell? ⟨w.heap.size, 0, none⟩ = some (.bool s) ∧ w'.cell? ⟨w.heap.size, 1, none⟩ = some (.slice ao n cap) ∧ w'.cell? ⟨w.heap.size + 1, 0, none⟩ = some (.bool false) ∧ w'.cell? ⟨w.heap.size + 1, 1, none⟩ = some (.slice none 0 0)) ∧ (∀ o, w'.frozen? ⟨w.heap.size + 1, o, none⟩ = false) ∧ Hid (Below w.heap.size w W ∧ w.heap.size + 1 < W.heap.size)) := fun W hW => by
    obtain ⟨hz, zf, hw⟩ := boxes2' hW
    refine (fromNew_c ao n cap f W hn (HR.out.below hw (Nat.le_refl _)) HF.out).mono ?_
    rintro e w' ⟨ao', m, cap', rfl, h0, _, _, h1, h2⟩
    obtain ⟨hz2, zf2, hw2⟩ := keep2 h1 hz zf hw
    exact ⟨ao', m, cap', rfl, ⟨h0, h1, h2⟩, hz2, zf2, hw, hz.1⟩
  go_enter Tryz.func58, Tryz.ntmps58
  go_wp2
  go_region_held3 (fun w' => w'.cell? ⟨w.heap.size, 0, none⟩ = some (.bool s) ∧ w'.cell? ⟨w.heap.size, 1, none⟩ = some (.slice ao n cap) ∧ (w'.cell? ⟨w.heap.size + 1, 0, none⟩).isSome = true ∧ (w'.cell? ⟨w.heap.size + 1, 1, none⟩).isSome = true ∧ w'.frozen? ⟨w.heap.size + 1, 0, none⟩ = false ∧ w'.frozen? ⟨w.heap.size + 1, 1, none⟩ = false) (first | (simp [go_sem]; done) | (refine ⟨?_, ?_, ?_, ?_, ?_, ?_⟩ <;> repeat (with_reducible first | assumption | exact uf _ | exact kI0 u0 | exact kI0 u1 | refine kCd ?_ | refine kId ?_ | refine kFd ?_ | refine kCa ?_ | refine kIa ?_ | refine kFa ?_ ?_ | refine kCs (by simp only [ne_eq]; omega) ?_ | refine kIs ?_ | refine kFs ?_))) (first | (go_at_call 49; refine (CT.out _ (by repeat (first | exact Below.refl _ _ | refine Below.drew ?_))).mono ?_; rintro e w4 ⟨xa, m, cx, rfl, HAns, ⟨hz4, v0, v1, u0, u1⟩, uf, HBW⟩))
  all_goals
    go_wp2
    refine bodyPost_ret (v := .agg #[.bool s, .slice xa m cx]) (by simp [results, Tryz.results58, go_sem, u0, u1]) rfl ⟨s, xa, m, cx, dig f, rfl, ?_, rfl, HAns.out.2.2.2.2.2.2.2⟩
    obtain ⟨h0, h1, h2, h3, h4, h5, h6, h7⟩ := HAns.out
    have hT := ((Turned.refl w.heap.size (w.heap.size + 1 + 1) w4).set (x := ⟨w.heap.size + 1, 0, none⟩) (by first | omega | (simp; done) | (simp; omega)) (by first | omega | (simp; done) | (simp; omega)) (.bool s)).set (x := ⟨w.heap.size + 1, 1, none⟩) (by first | omega | (simp; done) | (simp; omega)) (by first | omega | (simp; done) | (simp; omega)) (.slice xa m cx)
    have hb2 := HBW.out.1.trans (h1.mono HBW.out.1.size)
    refine ⟨below_turned hb2 hb2.size hT (Nat.le_refl _), h2.turned hT (fun a ha => .inr (by have := h0 a ha; have := HBW.out.2; omega)), h5, h6, h3, fun hs => ?_, by rw [h7]; rfl, h4⟩
    have hn0 := sgn_of_wfB HWf.out hs
    have hp := vf_pos HF.out (fm_of_wfB HWf.out) hn0
    apply Nat.pos_of_ne_zero; intro hm; subst hm
    simp [vd] at h7; omega

set_option maxHeartbeats 1000000 in
theorem zText_c (s : Bool) (ao : Option Addr) (n cap : Nat) (d : Nat → Int) (V : Nat) (w : World) (hn : n ≤ 8192) (hr : Rd .u64 w ao n d) (hd : Dg d n) (hf : Fm d n) (hV : vd d n = V) (hsz : (Lib.decDigits V).length ≤ 1000000) :
    Calls Tryz.prog 68 #[.agg #[.bool s, .slice ao n cap]] w fun e w' => e = .returned (.string (if s then ⟨#[45]⟩ ++ ⟨(Lib.decDigits V).toArray⟩ else ⟨(Lib.decDigits V).toArray⟩)) ∧ Below w.heap.size w w' := by
  have C := hid (fun W hr' => rtext_c ao n cap d V W hn hr' hd hf hV)
  have HR := hid hr
  have hsz2 : (⟨(Lib.decDigits V).toArray⟩ : ByteArray).size ≤ 1000000 := by show ((Lib.decDigits V).toArray).size ≤ _; rw [List.size_toArray]; exact hsz
  generalize (⟨(Lib.decDigits V).toArray⟩ : ByteArray) = t at *
  clear hr hd hf hV hsz
  cases s
  all_goals
    go_enter Tryz.func68, Tryz.ntmps68
    go_wp2_with fail
    refine (C.out _ (HR.out.alloc _)).mono ?_
    rintro e w1 ⟨rfl, hb⟩
    obtain ⟨_, _, hw⟩ := boxes1 hb
    have HW := hid hw
    clear hb hw
    go_wp2
    go_ret
    exact ⟨rfl, HW.out⟩

set_option maxHeartbeats 1000000 in
theorem docTextW_c (s : Bool) (ao : Option Addr) (n ca : Nat) (f : Nat → Int) (w : World) (hn : n ≤ 4096) (hr : Rd .u64 w ao n f) (hf : Lm f n) :
    Calls Tryz.prog 35 #[.agg #[.bool s, .slice ao n ca]] w fun e w' => e = .returned (.tuple #[.string (wtxt s f n), .int .i64 (wter s f n)]) ∧ Below w.heap.size w w' := by
  have HR := hid hr; have HF := hid hf
  clear hr hf
  cases hfa : wfB s f n
  · rw [show wtxt s f n = ⟨#[]⟩ by simp [wtxt, hfa], show wter s f n = 3 by simp [wter, hfa]]
    have c1 := fun W hr' => rwForm_c s ao n ca f W (by omega) hr'
    rw [hfa] at c1
    have C1 := hid c1
    clear c1 hfa
    go_enter Tryz.func35, Tryz.ntmps35
    go_wp2_with fail
    refine (C1.out _ (HR.out.alloc _)).mono ?_
    rintro e w1 ⟨rfl, hb⟩
    obtain ⟨_, _, hw⟩ := boxes1 hb
    have HW := hid hw
    clear hb hw
    go_wp2
    go_ret2
    exact ⟨rfl, HW.out⟩
  · have hfm : fmB f n = true := (fmB_iff f n).2 (fm_of_wfB hfa)
    obtain ⟨V, hV⟩ : ∃ V, (vf f n).toNat = V := ⟨_, rfl⟩
    have h0 := vf_nonneg HF.out
    have HE := hid (show (if s then ⟨#[45]⟩ ++ ⟨(Lib.decDigits V).toArray⟩ else ⟨(Lib.decDigits V).toArray⟩) = wtxt s f n by simp [wtxt, hfa, txt, hfm, hV])
    have hsz : (Lib.decDigits V).length ≤ 1000000 := by
      have := txt_size HF.out hn
      simp only [txt, hfm, if_true, hV] at this
      have e : (⟨(Lib.decDigits V).toArray⟩ : ByteArray).size = (Lib.decDigits V).length := by show ((Lib.decDigits V).toArray).size = _; rw [List.size_toArray]
      omega
    rw [show wter s f n = 0 by simp [wter, hfa]]
    have c1 := fun W hr' => rwForm_c s ao n ca f W (by omega) hr'
    rw [hfa] at c1
    have C1 := hid c1; have HWf := hid hfa; have HV := hid hV; have HSz := hid hsz; have H0 := hid h0
    clear c1 hfa hfm hV hsz h0
    go_enter Tryz.func35, Tryz.ntmps35
    go_wp2_with fail
    refine (C1.out _ (HR.out.alloc _)).mono ?_
    rintro e w1 ⟨rfl, hb⟩
    obtain ⟨⟨hz, x0, x1⟩, xf, hw⟩ := boxes1 hb
    have HW := hid hw
    clear hb hw
    go_wp2_with fail
    refine (zFrom_c s ao n ca f _ (by omega) (HR.out.below HW.out (Nat.le_refl _)) HF.out HWf.out).mono ?_
    rintro e w2 ⟨t, x, m, c, d, rfl, hz2, rfl, hv⟩
    obtain ⟨⟨hz, x0, x1⟩, xf, hw⟩ := keep1 hz2.bel ⟨hz, x0, x1⟩ xf HW.out
    have HZ := hid hz2; have HW2 := hid hw; have HVd := hid hv
    clear hz2 hw hv
    go_wp2_with fail
    refine (zText_c t x m c d V _ (by have := HZ.out.le; omega) HZ.out.rd HZ.out.dg HZ.out.fm (by have := HV.out; have := H0.out; rw [HVd.out]; omega) HSz.out).mono ?_
    rintro e w3 ⟨rfl, hb⟩
    have HW3 := hid (HW2.out.trans (hb.mono HW2.out.size))
    clear hb
    rw [HE.out]
    go_wp2
    go_ret2
    exact ⟨rfl, HW3.out⟩

/-- What the reference's Read leaves. -/
def ZRead (w w' : World) (L : Nat) (b : Nat → Nat) (t : Bool) (x : Option Addr) (m : Nat) (d : Nat → Int) (ok : Bool) : Prop :=
  Below w.heap.size w w' ∧ Rd .u64 w' x m d ∧ m ≤ L ∧ Dg d m ∧ Fm d m ∧ (∀ a, x = some a → w.heap.size ≤ a.block) ∧
  (ok = true ↔ (0 < L ∧ b 0 = 45 ∧ IsNum (bsh b 1) (L - 1) ∧ 0 < dn (bsh b 1) (L - 1)) ∨ (¬ (0 < L ∧ b 0 = 45) ∧ IsNum b L)) ∧
  (ok = true → (t = true ∧ 0 < L ∧ b 0 = 45 ∧ 0 < m ∧ vd d m = (dn (bsh b 1) (L - 1) : Nat)) ∨ (t = false ∧ ¬ (0 < L ∧ b 0 = 45) ∧ vd d m = (dn b L : Nat)))

set_option maxHeartbeats 2000000 in
theorem zRead_c (s : ByteArray) (L : Nat) (b : Nat → Nat) (w : World) (hs : Sb s L b) (hL : L ≤ 1048576) :
    Calls Tryz.prog 71 #[.string s] w fun e w' => ∃ t x m c d ok, e = .returned (.tuple #[.agg #[.bool t, .slice x m c], .bool ok]) ∧ ZRead w w' L b t x m d ok := by
  have hsz := hs.1
  subst hsz
  by_cases hmn : 0 < s.size ∧ b 0 = 45
  · obtain ⟨h0, h1⟩ := hmn
    have hc : (s[0]'h0).toNat = 45 := by rw [hs.2 0 h0]; exact h1
    have d0 : decide ((0 : Int) < (s.size : Int)) = true := by simp; omega
    have HSb := hid (hs.drop (c := 1) h0); have H1 := hid h1
    clear hs h1
    go_enter Tryz.func71, Tryz.ntmps71
    go_wp2_with fail
    refine (rread_c (s.extract 1 s.size) (s.size - 1) (bsh b 1) _ HSb.out (by omega)).mono ?_
    rintro e w1 ⟨x, m, c, d, rfl, hans⟩
    obtain ⟨⟨hz, z0, z1⟩, zf, hw⟩ := boxes1 hans.1
    have HAns := hid hans; have HW := hid hw
    obtain ⟨R, hR⟩ : ∃ R, numB (bsh b 1) (s.size - 1) = R := ⟨_, rfl⟩
    rw [hR]
    have hml : m ≤ s.size - 1 := hans.2.2.1
    have HRe := hid hR
    clear hans hw hR
    have hT : ∀ u v, Turned w.heap.size (w.heap.size + 1) w1 ((w1.setCell ⟨w.heap.size, 0, none⟩ u).setCell ⟨w.heap.size, 1, none⟩ v) := fun u v => ((Turned.refl _ _ _).set (by first | omega | (simp; done) | (simp; omega)) (by first | omega | (simp; done) | (simp; omega)) _).set (by first | omega | (simp; done) | (simp; omega)) (by first | omega | (simp; done) | (simp; omega)) _
    have HT := hid hT
    clear hT
    have fin : ∀ ok : Bool, (ok = (R && decide (0 < m))) → ZRead w ((w1.setCell ⟨w.heap.size, 0, none⟩ (.bool true)).setCell ⟨w.heap.size, 1, none⟩ (.slice x m c)) s.size b true x m d ok := by
      intro ok hok
      obtain ⟨a1, a2, a3, a4, a5, a6, a7⟩ := HAns.out
      have hR := HRe.out
      have hnew : ∀ a, x = some a → w.heap.size + 1 ≤ a.block := fun a ha => by have := a7 a ha; simpa using this
      have hval : R = true → vd d m = (dn (bsh b 1) (s.size - 1) : Nat) := fun h => a6 (by rw [hR]; exact h)
      have hnum : R = true ↔ IsNum (bsh b 1) (s.size - 1) := by rw [← hR]; exact numB_iff _ _
      have hpos : R = true → (0 < m ↔ 0 < dn (bsh b 1) (s.size - 1)) := fun h => by
        have hv := hval h
        constructor
        · intro hm; have h1 := vd_form_ge a4 a5 hm; have h2 := pd_pos (m - 1); omega
        · intro hd; apply Nat.pos_of_ne_zero; intro hm; subst hm; simp [vd] at hv; omega
      refine ⟨below_turned HW.out HW.out.size (HT.out _ _) (Nat.le_refl _), a2.turned (HT.out _ _) (fun a ha => .inr (hnew a ha)), by omega, a4, a5, fun a ha => by have := hnew a ha; omega, ?_, ?_⟩
      · constructor
        · intro h
          rw [hok] at h; simp at h
          exact .inl ⟨h0, H1.out, hnum.1 h.1, (hpos h.1).1 h.2⟩
        · rintro (⟨_, _, h3, h4⟩ | ⟨h3, _⟩)
          · rw [hok]; have := hnum.2 h3; simp [this]; exact (hpos this).2 h4
          · exact absurd ⟨h0, H1.out⟩ h3
      · intro h
        rw [hok] at h; simp at h
        exact .inl ⟨rfl, h0, H1.out, h.2, hval h.1⟩
    have FIN := hid fin
    clear fin HAns HRe HT
    cases R
    · go_wp2
      refine bodyPost_ret (v := .tuple #[.agg #[.bool true, .slice x m c], .bool false]) (by simp [results, Tryz.results71, go_sem, z0, z1]) rfl ⟨true, x, m, c, d, false, rfl, FIN.out false (by simp)⟩
    · by_cases hm : 0 < m
      · have hd : decide ((0 : Int) < (m : Int)) = true := by simp; omega
        go_wp2
        refine bodyPost_ret (v := .tuple #[.agg #[.bool true, .slice x m c], .bool true]) (by simp [results, Tryz.results71, go_sem, z0, z1]) rfl ⟨true, x, m, c, d, true, rfl, FIN.out true (by simp [hm])⟩
      · have hd : decide ((0 : Int) < (m : Int)) = false := by simp; omega
        go_wp2
        refine bodyPost_ret (v := .tuple #[.agg #[.bool true, .slice x m c], .bool false]) (by simp [results, Tryz.results71, go_sem, z0, z1]) rfl ⟨true, x, m, c, d, false, rfl, FIN.out false (by simp [hm])⟩
  · have HSb := hid hs; have HMn := hid hmn
    have fin : ∀ (w1 : World) (x : Option Addr) (m c : Nat) (d : Nat → Int), RAns (w.alloc (.cells #[.bool false, .slice none 0 0] 74)) w1 x m d s.size b (numB b s.size) → Below w.heap.size w w1 → w.heap.size < w1.heap.size → ZRead w ((w1.setCell ⟨w.heap.size, 0, none⟩ (.bool false)).setCell ⟨w.heap.size, 1, none⟩ (.slice x m c)) s.size b false x m d (numB b s.size) := by
      intro w1 x m c d hans hw hz
      obtain ⟨a1, a2, a3, a4, a5, a6, a7⟩ := hans
      have hT : Turned w.heap.size (w.heap.size + 1) w1 ((w1.setCell ⟨w.heap.size, 0, none⟩ (.bool false)).setCell ⟨w.heap.size, 1, none⟩ (.slice x m c)) := ((Turned.refl _ _ _).set (by first | omega | (simp; done) | (simp; omega)) (by first | omega | (simp; done) | (simp; omega)) _).set (by first | omega | (simp; done) | (simp; omega)) (by first | omega | (simp; done) | (simp; omega)) _
      have hnew : ∀ a, x = some a → w.heap.size + 1 ≤ a.block := fun a ha => by have := a7 a ha; simpa using this
      refine ⟨below_turned hw hw.size hT (Nat.le_refl _), a2.turned hT (fun a ha => .inr (hnew a ha)), by omega, a4, a5, fun a ha => by have := hnew a ha; omega, ?_, ?_⟩
      · rw [numB_iff]
        constructor
        · intro h; exact .inr ⟨hmn, h⟩
        · rintro (⟨h1, h2, _⟩ | ⟨_, h⟩)
          · exact absurd ⟨h1, h2⟩ hmn
          · exact h
      · intro h; exact .inr ⟨rfl, hmn, a6 h⟩
    have FIN := hid fin
    clear fin
    by_cases h0 : 0 < s.size
    · have hc0 : (s[0]'h0).toNat ≠ 45 := by rw [hs.2 0 h0]; exact fun h => hmn ⟨h0, h⟩
      have d0 : decide ((0 : Int) < (s.size : Int)) = true := by simp; omega
      obtain ⟨y, hy⟩ : ∃ y, (s[0]'h0).toNat = y := ⟨_, rfl⟩
      rw [hy] at hc0
      have hyne : ((y : Int) == 45) = false := by simp; omega
      clear hs hmn hc0
      go_enter Tryz.func71, Tryz.ntmps71
      go_wp2_with fail
      refine (rread_c s s.size b _ HSb.out hL).mono ?_
      rintro e w1 ⟨x, m, c, d, rfl, hans⟩
      obtain ⟨⟨hz, z0, z1⟩, zf, hw⟩ := boxes1 hans.1
      have HF := hid (FIN.out w1 x m c d hans hw hz)
      clear hans hw
      go_wp2
      exact bodyPost_ret (v := .tuple #[.agg #[.bool false, .slice x m c], .bool (numB b s.size)]) (by simp [results, Tryz.results71, go_sem, z0, z1]) rfl ⟨false, x, m, c, d, _, rfl, HF.out⟩
    · have d0 : decide ((0 : Int) < (s.size : Int)) = false := decide_eq_false (by omega)
      clear hs hmn
      go_enter Tryz.func71, Tryz.ntmps71
      go_wp2_with fail
      refine (rread_c s s.size b _ HSb.out hL).mono ?_
      rintro e w1 ⟨x, m, c, d, rfl, hans⟩
      obtain ⟨⟨hz, z0, z1⟩, zf, hw⟩ := boxes1 hans.1
      have HF := hid (FIN.out w1 x m c d hans hw hz)
      clear hans hw
      go_wp2
      exact bodyPost_ret (v := .tuple #[.agg #[.bool false, .slice x m c], .bool (numB b s.size)]) (by simp [results, Tryz.results71, go_sem, z0, z1]) rfl ⟨false, x, m, c, d, _, rfl, HF.out⟩

set_option maxHeartbeats 2000000 in
theorem docReadW_c (s : ByteArray) (L : Nat) (b : Nat → Nat) (w : World) (hs : Sb s L b) (hL : L ≤ 9223372036854775807) :
    Calls Tryz.prog 37 #[.string s] w fun e w' => ∃ r ao k cap f er, e = .returned (.tuple #[.agg #[.bool r, .slice ao k cap], .int .i64 er]) ∧ WRes 4294967296 w w' r ao k cap f ∧ WRead L b r k f er := by
  have hsz := hs.1
  subst hsz
  by_cases hlong : 1048576 < s.size
  · have hd : decide ((1048576 : Int) < (s.size : Int)) = true := by simp; omega
    go_enter Tryz.func37, Tryz.ntmps37
    go_wp2
    exact bodyPost_ret (v := .tuple #[.agg #[.bool false, .slice none 0 0], .int .i64 2]) (by simp [results, Tryz.results37, go_sem]) rfl ⟨false, none, 0, 0, fun _ => 0, 2, rfl, ⟨Asw.none _ (below_alloc (Below.refl _ _) _), fun h => by cases h⟩, .inl ⟨hlong, rfl, rfl⟩⟩
  · have hd : decide ((1048576 : Int) < (s.size : Int)) = false := by simp; omega
    have HSb := hid hs
    clear hs
    go_enter Tryz.func37, Tryz.ntmps37
    go_wp2_with fail
    refine (zRead_c s s.size b _ HSb.out (by omega)).mono ?_
    rintro e w1 ⟨t, x, m, c, d, ok, rfl, hz⟩
    obtain ⟨⟨hsz, z0, z1⟩, zf, hw⟩ := boxes1 hz.1
    have HZ := hid hz; have HW := hid hw
    clear hz hw
    cases ok
    · go_wp2
      refine bodyPost_ret (v := .tuple #[.agg #[.bool false, .slice none 0 0], .int .i64 11]) (by simp [results, Tryz.results37, go_sem, z0, z1, hsz]) rfl ⟨false, none, 0, 0, fun _ => 0, 11, rfl, ⟨Asw.none _ ?_, fun h => by cases h⟩, .inr (.inr (.inr ⟨by omega, ?_, ?_, rfl, rfl⟩))⟩
      · exact below_turned HW.out HW.out.size ((((Turned.refl w.heap.size (w.heap.size + 1) _).set (by first | omega | (simp; done) | (simp; omega)) (by first | omega | (simp; done) | (simp; omega)) _).set (by first | omega | (simp; done) | (simp; omega)) (by first | omega | (simp; done) | (simp; omega)) _).alloc _) (Nat.le_refl _)
      · intro h; have := HZ.out.2.2.2.2.2.2.1.2 (.inl h); cases this
      · intro h; have := HZ.out.2.2.2.2.2.2.1.2 (.inr h); cases this
    · have hcase := HZ.out.2.2.2.2.2.2.2 rfl
      have hnum := HZ.out.2.2.2.2.2.2.1.1 rfl
      have HC := hid hcase; have HNm := hid hnum
      have hmL : m ≤ s.size := HZ.out.2.2.1
      have hsg : t = true → 0 < m := fun h => by rcases hcase with ⟨_, _, _, h1, _⟩ | ⟨h1, _⟩; exact h1; rw [h1] at h; cases h
      have HSg := hid hsg
      clear hcase hnum hsg
      go_wp2_with fail
      refine (zTo_c t x m c d (if t then - vd d m else vd d m) _ (by omega) (HZ.out.2.1.alloc _) HZ.out.2.2.2.1 HZ.out.2.2.2.2.1 HSg.out rfl).mono ?_
      rintro e w2 ⟨r, y, k, c2, g, rfl, hres, hv⟩
      have hb2 : Below w1.heap.size w1 w2 := (below_alloc (Below.refl _ _) _).trans (hres.res.bel.mono (by simp))
      obtain ⟨⟨hsz, z0, z1⟩, zf, hw⟩ := keep1 hb2 ⟨hsz, z0, z1⟩ zf HW.out
      have HRes := hid hres; have HV := hid hv
      clear hres hv hb2 hw
      go_wp2
      refine bodyPost_ret (v := .tuple #[.agg #[.bool r, .slice y k c2], .int .i64 0]) (by simp [results, Tryz.results37, go_sem, z0, z1]) rfl ⟨r, y, k, c2, g, 0, rfl, ⟨(HRes.out.res.turned (below_alloc HW.out _) ?_).mono (by omega), HRes.out.sgn⟩, ?_⟩
      · exact ((Turned.refl _ _ _).set (by first | omega | (simp; done) | (simp; omega)) (by first | omega | (simp; done) | (simp; omega)) _).set (by first | omega | (simp; done) | (simp; omega)) (by first | omega | (simp; done) | (simp; omega)) _
      · rcases HC.out with ⟨h1, h2, h3, h4, h5⟩ | ⟨h1, h2, h3⟩
        · rcases HNm.out with ⟨_, _, n1, n2⟩ | ⟨n1, _⟩
          · exact .inr (.inl ⟨by omega, h2, h3, n1, n2, rfl, by rw [HV.out, h1, if_pos rfl, h5]⟩)
          · exact absurd ⟨h2, h3⟩ n1
        · rcases HNm.out with ⟨n1, n2, _⟩ | ⟨_, n1⟩
          · exact absurd ⟨n1, n2⟩ h2
          · exact .inr (.inr (.inl ⟨by omega, h2, n1, rfl, by rw [HV.out, h1, if_neg (by simp), h3]⟩))
end Go.Proofs.YtjhmigepanecnaaGreatDoor
namespace Go.Proofs.YtjhmigepanecnaaGreatDoor
open Go.RowKit

theorem wv_nil (r : Bool) (f : Nat → Int) : wv r f 0 = 0 := by cases r <;> simp [wv, vf]
theorem wread_agree {L : Nat} {b : Nat → Nat} {r1 r2 : Bool} {k1 k2 : Nat} {f1 f2 : Nat → Int} {e1 e2 : Int} (h1 : WRead L b r1 k1 f1 e1) (h2 : WRead L b r2 k2 f2 e2) : e1 = e2 ∧ wv r1 f1 k1 = wv r2 f2 k2 := by
  rcases h1 with ⟨a1, a2, a3⟩ | ⟨a1, a2, a3, a4, a5, a6, a7⟩ | ⟨a1, a2, a3, a4, a5⟩ | ⟨a1, a2, a3, a4, a5⟩ <;>
  rcases h2 with ⟨b1, b2, b3⟩ | ⟨b1, b2, b3, b4, b5, b6, b7⟩ | ⟨b1, b2, b3, b4, b5⟩ | ⟨b1, b2, b3, b4, b5⟩
  · exact ⟨by omega, by rw [a3, b3, wv_nil, wv_nil]⟩
  · omega
  · omega
  · omega
  · omega
  · exact ⟨by omega, by rw [a7, b7]⟩
  · exact absurd ⟨a2, a3⟩ b2
  · exact absurd ⟨a2, a3, a4, a5⟩ b2
  · omega
  · exact absurd ⟨b2, b3⟩ a2
  · exact ⟨by omega, by rw [a5, b5]⟩
  · exact absurd ⟨a2, a3⟩ b3
  · omega
  · exact absurd ⟨b2, b3, b4, b5⟩ a2
  · exact absurd ⟨b2, b3⟩ a3
  · exact ⟨by omega, by rw [a5, b5, wv_nil, wv_nil]⟩

set_option maxRecDepth 100000 in
set_option maxHeartbeats 4000000 in
theorem wholeTexts_c (s : Bool) (ao : Option Addr) (n ca : Nat) (f : Nat → Int) (t : ByteArray) (w : World) (_hn : n ≤ ca ∧ ca ≤ 9223372036854775807) (hr : Rd .u64 w ao n f) (hf : Lm f n) (na : ao = none → n = 0 ∧ ca = 0) (hsz : t.size ≤ 9223372036854775807) (htab : Tab w) :
    Calls Tryz.prog 6 #[.agg #[.bool s, .slice ao n ca], .string t] w fun e w' => e = .returned (.bool true) ∧ Below w.heap.size w w' := by
  have HR := hid hr; have HF := hid hf; have NA := hid na; have HTab := hid htab
  obtain ⟨b, hb⟩ : ∃ b, Sb t t.size b := ⟨_, sb_self t⟩
  have HSb := hid hb
  clear hr hf na htab hb
  go_enter Tryz.func6, Tryz.ntmps6
  go_wp2_with fail
  refine (wAwake_c _ (HTab.out.below (below_alloc (Below.refl w.heap.size w) _) HTab.out.lt)).mono ?_
  rintro e w1 ⟨rfl, hb⟩
  obtain ⟨⟨hz, x0, x1⟩, xf, hw⟩ := boxes1 hb
  have HW1 := hid hw
  clear hb hw
  by_cases h60 : 60 < n
  · have d1 : decide ((60 : Int) < (n : Int)) = true := by simp; omega
    go_wp2
    go_ret
    exact ⟨rfl, HW1.out⟩
  have d1 : decide ((60 : Int) < (n : Int)) = false := by simp; omega
  by_cases h3 : 3000 < t.size ∧ t.size ≤ 1048576
  · have d2 : decide ((3000 : Int) < (t.size : Int)) = true := by simp; omega
    have d3 : decide ((t.size : Int) ≤ 1048576) = true := by simp; omega
    go_wp2
    go_ret
    exact ⟨rfl, HW1.out⟩
  have hcond : decide ((3000 : Int) < (t.size : Int)) = false ∨ (decide ((3000 : Int) < (t.size : Int)) = true ∧ decide ((t.size : Int) ≤ 1048576) = false) := by
    by_cases h4 : 3000 < t.size
    · exact .inr ⟨by simp; omega, by simp; omega⟩
    · exact .inl (by simp; omega)
  rcases hcond with d2 | ⟨d2, d3⟩
  all_goals
    go_wp2_with fail
    refine (wTwin_c s ao n ca f _ (by omega) (HR.out.below HW1.out (Nat.le_refl _)) NA.out).mono ?_
    rintro e w2 ⟨a2, c2, rfl, hb2, ho2⟩
    obtain ⟨⟨hz, x0, x1⟩, xf, hw⟩ := keep1 hb2 ⟨hz, x0, x1⟩ xf HW1.out
    have HW2 := hid hw; have HO2 := hid ho2
    clear hb2 hw ho2
    go_wp2_with fail
    refine (wText_c s a2 n c2 f _ (by omega) HO2.out.slice.2.2.2.1 HO2.out.tg HF.out (HTab.out.below HW2.out HTab.out.lt) HO2.out.slice.1 HO2.out.slice.2.1).mono ?_
    rintro e w3 ⟨rfl, hb3⟩
    obtain ⟨⟨hz, x0, x1⟩, xf, hw⟩ := keep1 hb3 ⟨hz, x0, x1⟩ xf HW2.out
    have HW3 := hid hw
    clear hb3 hw
    go_wp2_with fail
    refine (docTextW_c s ao n ca f _ (by omega) (HR.out.below HW3.out (Nat.le_refl _)) HF.out).mono ?_
    rintro e w4 ⟨rfl, hb4⟩
    have HW4 := hid (HW3.out.trans (hb4.mono HW3.out.size))
    clear hb4 x0 x1 xf hz
    generalize wtxt s f n = tx at *
    generalize wter s f n = te at *
    go_wp2_with fail
    refine (wRead_c t t.size b _ HSb.out hsz).mono ?_
    rintro e w5 ⟨r5, a5, k5, c5, f5, e5, rfl, hr5, hq5⟩
    have R5 := hid hr5; have Q5 := hid hq5; have HW5 := hid (HW4.out.trans (hr5.res.bel.mono HW4.out.size))
    clear hr5 hq5
    go_wp2_with fail
    refine (docReadW_c t t.size b _ HSb.out hsz).mono ?_
    rintro e w6 ⟨r6, a6, k6, c6, f6, e6, rfl, hr6, hq6⟩
    obtain ⟨he, hv⟩ := wread_agree Q5.out hq6
    subst he
    have B5 := hid (bx_new hr6.res.bel)
    have W5 := hid (((R5.out.wn rfl).alloc _).below hr6.res.bel)
    have W6 := hid (hr6.wn hv.symm)
    have hk5 : k5 ≤ 4294967296 := R5.out.res.le
    have hk6 : k6 ≤ 4294967296 := hr6.res.le
    have HW6 := hid ((below_alloc HW5.out (.cells #[.bool r5, .slice a5 k5 c5] 36)).trans (hr6.res.bel.mono (below_alloc HW5.out _).size))
    clear hr6 hq6 hv Q5 R5
    obtain ⟨z5, p0, p1⟩ := B5.out
    go_wp2_with fail
    refine (wSame_true r5 r6 a5 a6 k5 k6 c5 c6 f5 f6 _ (by omega) (by omega) (W5.out.alloc _).rd (W6.out.alloc _).rd W5.out.lm W6.out.lm W5.out.wf W6.out.wf (W5.out.val.trans W6.out.val.symm)).mono ?_
    rintro e w7 ⟨rfl, hb7⟩
    have HW7 := hid ((below_alloc HW6.out _).trans (hb7.mono (below_alloc HW6.out _).size))
    clear hb7
    go_wp2
    go_ret
    exact ⟨rfl, HW7.out⟩
end Go.Proofs.YtjhmigepanecnaaGreatDoor
