/-
  Walks of rat.Text and of the document's DocText, whatever they are handed; Twin, whose lists lie in blocks of limbs. Which bytes are a rational number's text; walks of strings.Cut at a bar, of rat's readDen and Read. The walk of rat.Read, whatever it is handed. Walks of the document's reference for rat: Zero, Read, DocRead.
-/
import Derived.Test.YtbindadjepfkcaaGreatDoorZ10
import Derived.Test.YtbindadjepfkcaaGreatDoorZ7
import Derived.Lib.IndexLaws
namespace Go.Proofs.YtbindadjepfkcaaGreatDoor
open Go.RowKit

theorem kTgd {w : World} {x : Option Addr} (h : Tg w x) : Tg w.drew x := h
theorem kTgb {w w' : World} {x : Option Addr} (hb : Below w.heap.size w w') (h : Tg w x) : Tg w' x := h.kept hb
theorem twinT_c {w : World} {x : Option Addr} {n c : Nat} {f : Nat → Int} (hr : Rd .u64 w x n f) (hn : n ≤ 100000) (hnil : x = none → n = 0 ∧ c = 0) :
    Calls Tryz.prog 58 #[.slice x n c] w fun e w' => ∃ z c', e = .returned (.slice z n c') ∧ Below w.heap.size w w' ∧ Hid (Rd .u64 w' z n f ∧ (n ≤ c' ∧ c' ≤ 9223372036854775807) ∧ (z = none → n = 0 ∧ c' = 0) ∧ Tg w' z) := by
  refine (twin_c x n c f w (by omega) hr hnil).mono ?_
  rintro e w' ⟨z, c', rfl, h2, h3, h4⟩
  obtain ⟨ao, cap, hv, k1, k2, k3, _, _⟩ := h4.shape
  cases hv
  exact ⟨z, c', rfl, h2, h3, ⟨k1, by unfold maxLen at k3; omega⟩, fun h => (by have := k2 h; omega), h4.tg⟩

set_option maxRecDepth 100000 in
set_option maxHeartbeats 8000000 in
theorem qTwinT_c {w : World} {s : Bool} {x : Option Addr} {n c : Nat} {f : Nat → Int} {y : Option Addr} {m d : Nat} {g : Nat → Int} (h : Rw w x n c f y m d g) (hn : n ≤ 1000) (hm : m ≤ 1000) :
    Calls Tryz.prog 22 #[.agg #[.bool s, .slice x n c, .slice y m d]] w fun e w' => ∃ z c' z2 c2, e = .returned (.agg #[.bool s, .slice z n c', .slice z2 m c2]) ∧ Below w.heap.size w w' ∧ Hid (Rw w' z n c' f z2 m c2 g ∧ Tg w' z ∧ Tg w' z2) := by
  obtain ⟨h1, h2, h3⟩ := qbox1 (w := w) (.bool s) (.slice x n c) (.slice y m d) 24 24
  have h4 := h.below h3
  clear h
  go_enter Tryz.func22, Tryz.ntmps22
  go_wp2_with fail
  generalize (w.alloc (.cells #[.bool s, .slice x n c, .slice y m d] 24)).alloc (.cells #[.bool false, .slice none 0 0, .slice none 0 0] 24) = w1 at *
  have HN := hid h4; have OB := hid h2; have HW := hid h3
  obtain ⟨z, x0, x1, x2⟩ := h1
  obtain ⟨hz, z0, z1, z2, zf⟩ := h2
  clear h3 h4
  have C1 : Hid (∀ W, Below w1.heap.size w1 W → Calls Tryz.prog 58 #[.slice x n c] W fun e w' => ∃ z c', e = .returned (.slice z n c') ∧ Below W.heap.size W w' ∧ Hid (Rd .u64 w' z n f ∧ (n ≤ c' ∧ c' ≤ 9223372036854775807) ∧ (z = none → n = 0 ∧ c' = 0) ∧ Tg w' z)) := fun W hW => twinT_c (HN.out.below hW).rx (by omega) HN.out.nx
  have C2 : Hid (∀ W, Below w1.heap.size w1 W → Calls Tryz.prog 58 #[.slice y m d] W fun e w' => ∃ z c', e = .returned (.slice z m c') ∧ Below W.heap.size W w' ∧ Hid (Rd .u64 w' z m g ∧ (m ≤ c' ∧ c' ≤ 9223372036854775807) ∧ (z = none → m = 0 ∧ c' = 0) ∧ Tg w' z)) := fun W hW => twinT_c (HN.out.below hW).ry (by omega) HN.out.ny
  go_region_held3 (fun w' => w'.cell? ⟨w.heap.size, 0, none⟩ = some (.bool s) ∧ w'.cell? ⟨w.heap.size, 1, none⟩ = some (.slice x n c) ∧ w'.cell? ⟨w.heap.size, 2, none⟩ = some (.slice y m d) ∧ (w'.cell? ⟨w.heap.size + 1, 0, none⟩).isSome = true ∧ (w'.cell? ⟨w.heap.size + 1, 1, none⟩).isSome = true ∧ (w'.cell? ⟨w.heap.size + 1, 2, none⟩).isSome = true ∧ w'.frozen? ⟨w.heap.size + 1, 0, none⟩ = false ∧ w'.frozen? ⟨w.heap.size + 1, 1, none⟩ = false ∧ w'.frozen? ⟨w.heap.size + 1, 2, none⟩ = false)
    (refine ⟨?_, ?_, ?_, ?_, ?_, ?_, ?_, ?_, ?_⟩ <;> repeat (with_reducible first | assumption | exact zf _ | exact tf _ | exact uf _ | exact kI0 z0 | exact kI0 z1 | exact kI0 z2 | exact kI0 t0 | exact kI0 t1 | exact kI0 t2 | exact kI0 u0 | exact kI0 u1 | exact kI0 u2 | refine kCd ?_ | refine kId ?_ | refine kFd ?_ | refine kCs (by simp only [ne_eq]; omega) ?_ | refine kIs ?_ | refine kFs ?_ | refine kCb (by assumption) ?_ | refine kIb (by assumption) ?_))
    (first
      | (go_at_call 58; with_reducible refine (C1.out _ (by repeat (with_reducible first | assumption | exact Below.refl _ _ | refine Below.drew ?_ | refine kBb (by assumption) ?_))).mono ?_; rintro e v5 ⟨z5, c5, rfl, hb5, H5⟩; have Tt : Ob v5 (w.heap.size + 1) := (by repeat (with_reducible first | exact OB.out | exact Tt | exact Tu | refine Ob.drew ?_ | refine kOb (by assumption) ?_)); obtain ⟨_, t0, t1, t2, tf⟩ := id Tt)
      | (go_at_call 58; with_reducible refine (C2.out _ (by repeat (with_reducible first | assumption | exact Below.refl _ _ | refine Below.drew ?_ | refine kBb (by assumption) ?_))).mono ?_; rintro e v6 ⟨z6, c6, rfl, hb6, H6⟩; have Tu : Ob v6 (w.heap.size + 1) := (by repeat (with_reducible first | exact OB.out | exact Tt | exact Tu | refine Ob.drew ?_ | refine kOb (by assumption) ?_)); obtain ⟨_, u0, u1, u2, uf⟩ := id Tu))
  all_goals
    have D5 : Rd .u64 v6 z5 n f := (by repeat (with_reducible first | exact H5.out.1 | refine Rd.drew ?_ | refine kRdb (by assumption) ?_))
    have T5 : Tg v6 z5 := (by repeat (with_reducible first | exact H5.out.2.2.2 | refine kTgd ?_ | refine kTgb (by assumption) ?_))
    have hb : Below w1.heap.size w1 v6 := (by repeat (with_reducible first | assumption | exact Below.refl _ _ | refine Below.drew ?_ | refine kBb (by assumption) ?_))
    go_wp2
    exact bodyPost_ret (v := .agg #[.bool s, .slice z5 n c5, .slice z6 m c6]) (by simp [results, Tryz.results22, go_sem, u0, u1, u2]) rfl ⟨z5, c5, z6, c6, rfl, below_st (HW.out.trans (hb.mono HW.out.size)) (by omega), ⟨Tu.rd D5, HN.out.lx, H5.out.2.1, H5.out.2.2.1, Tu.rd H6.out.1, HN.out.ly, H6.out.2.1, H6.out.2.2.1⟩, ((T5.set _ _).set _ _).set _ _, ((H6.out.2.2.2.set _ _).set _ _).set _ _⟩


def dec (V : Nat) : ByteArray := ⟨(Lib.decDigits V).toArray⟩
def wtx (s : Bool) (V : Nat) : ByteArray := if s then ⟨#[45]⟩ ++ dec V else dec V
/-- The text of a rational number. -/
def qtx (s : Bool) (q : Rat) : ByteArray := if q.den = 1 then wtx s q.num.natAbs else wtx s q.num.natAbs ++ ⟨#[47]⟩ ++ dec q.den
theorem txt_dec {w x n c f} {V : Nat} (h : Wn w false x n c f (V : Int)) : txt f n = dec V ∧ ter f n = 0 := by
  have hfm : fmB f n = true := (fmB_iff f n).2 h.fm
  have e : (vf f n).toNat = V := by rw [h.nv]; omega
  exact ⟨by unfold txt dec; rw [if_pos hfm, e], by simp [ter, hfm]⟩
theorem wtxt_dec {w s x n c f} {v : Int} (h : Wn w s x n c f v) : wtxt s f n = wtx s v.natAbs ∧ wter s f n = 0 := by
  have h1 := (txt_dec h.mag).1
  refine ⟨?_, by simp [wter, h.wf]⟩
  unfold wtxt wtx
  rw [if_pos h.wf, h1]
theorem dec_size {w x n c f} {V : Nat} (h : Wn w false x n c f (V : Int)) (hn : n ≤ 4096) : (dec V).size ≤ 81921 := by
  rw [← (txt_dec h).1]; exact txt_size h.lm hn
theorem wtx_size {s : Bool} {V : Nat} (h : (dec V).size ≤ 81921) : (wtx s V).size ≤ 81922 := by
  unfold wtx
  cases s
  · simp; omega
  · simp [ByteArray.size_append]
    have : (ByteArray.mk #[45]).size = 1 := rfl
    omega

set_option maxRecDepth 100000 in
set_option maxHeartbeats 4000000 in
theorem rTextOk_c {L w s x n c f y m d g q} (h : Rn L w s x n c f y m d g q) (hL : L ≤ 1000) (t1 : Tg w x) (t2 : Tg w y) (htab : Tab w) :
    Calls Tryz.prog 68 #[.agg #[.bool s, .slice x n c, .slice y m d]] w fun e w' => e = .returned (.tuple #[.string (qtx s q), .int .i64 0]) ∧ Below w.heap.size w w' := by
  have HR := hid h; have T1 := hid t1; have T2 := hid t2; have HTab := hid htab
  have b1 := h.ln; have b2 := h.ld
  have e1 := wtxt_dec h.num
  have e2 := txt_dec h.den
  have s2 := dec_size h.den (by omega)
  have s1 := wtx_size (s := s) (dec_size h.num.mag (by omega))
  have E1 := hid e1; have E2 := hid e2
  have hq : Hid (qtx s q = if q.den = 1 then wtx s q.num.natAbs else wtx s q.num.natAbs ++ ⟨#[47]⟩ ++ dec q.den) := rfl
  clear h t1 t2 htab e1 e2
  go_enter Tryz.func68, Tryz.ntmps68
  go_wp2_with fail
  refine (rForm_n (HR.out.alloc _) (by omega)).mono ?_
  rintro e w1 ⟨rfl, hb⟩
  have B1 := hid (bx3_new hb); have HW1 : Hid (Below w.heap.size w w1) := (below_alloc (Below.refl w.heap.size w) _).trans (hb.mono (by simp))
  clear hb
  obtain ⟨z, x0, x1, x2⟩ := B1.out
  go_wp2_with fail
  refine (numer_c s x y n c m d _).mono ?_
  rintro e w2 ⟨rfl, hb⟩
  have B2 := hid (B1.out.below hb); have HW2 := hid (HW1.out.trans (hb.mono HW1.out.size))
  clear hb B1 HW1 z x0 x1 x2
  obtain ⟨z, x0, x1, x2⟩ := B2.out
  have R2 := hid (HR.out.below HW2.out)
  have ct := wText_c s x n c f w2 (by omega) R2.out.num.rd (T1.out.kept HW2.out) R2.out.num.lm (HTab.out.below HW2.out HTab.out.lt) R2.out.num.cap.1 R2.out.num.cap.2
  rw [E1.out.1, E1.out.2] at ct
  have CT := hid ct
  clear ct
  go_wp2_with fail
  refine CT.out.mono ?_
  rintro e w3 ⟨rfl, hb⟩
  have B3 := hid (B2.out.below hb); have HW3 := hid (HW2.out.trans (hb.mono HW2.out.size)); have R3 := hid (R2.out.below hb)
  clear hb B2 HW2 R2 CT z x0 x1 x2
  obtain ⟨z, x0, x1, x2⟩ := B3.out
  have c4 := isOne_c R3.out.den
  have cd := TextAll_c y m d g w3 (by omega) R3.out.den.rd (T2.out.kept HW3.out) R3.out.den.lm (HTab.out.below HW3.out HTab.out.lt) R3.out.den.cap.1 R3.out.den.cap.2
  rw [E2.out.1, E2.out.2] at cd
  have CD := hid cd
  clear cd
  generalize wtx s q.num.natAbs = ta at *
  generalize dec q.den = tb at *
  by_cases h1 : q.den = 1
  · rw [show decide ((q.den : Int) = 1) = true by simp [h1]] at c4
    have C4 := hid c4
    have HQ : Hid (qtx s q = ta) := by rw [hq.out, if_pos h1]; exact hid rfl
    clear c4 h1 CD hq
    go_wp2_with fail
    refine C4.out.mono ?_
    rintro e w4 ⟨rfl, rfl⟩
    go_wp2
    go_ret2
    exact ⟨by rw [HQ.out]; rfl, HW3.out⟩
  · rw [show decide ((q.den : Int) = 1) = false by simp; omega] at c4
    have C4 := hid c4
    have HQ : Hid (qtx s q = ta ++ ⟨#[47]⟩ ++ tb) := by rw [hq.out, if_neg h1]; exact hid rfl
    clear c4 h1 hq
    go_wp2_with fail
    refine C4.out.mono ?_
    rintro e w4 ⟨rfl, rfl⟩
    go_wp2_with fail
    refine CD.out.mono ?_
    rintro e w5 ⟨rfl, hb⟩
    have HW5 := hid (HW3.out.trans (hb.mono HW3.out.size))
    clear hb
    go_wp2
    go_ret2
    exact ⟨by rw [HQ.out]; rfl, HW5.out⟩

set_option maxRecDepth 100000 in
set_option maxHeartbeats 4000000 in
theorem rTextErr_c {w : World} {s : Bool} {x : Option Addr} {n c : Nat} {f : Nat → Int} {y : Option Addr} {m e : Nat} {g : Nat → Int} (h : Rw w x n c f y m e g) (hn : n ≤ 1000) (hm : m ≤ 1000) (hp : rfB s f n g m = false) :
    Calls Tryz.prog 68 #[.agg #[.bool s, .slice x n c, .slice y m e]] w fun en w' => en = .returned (.tuple #[.string ⟨#[]⟩, .int .i64 3]) ∧ Below w.heap.size w w' := by
  have H := hid h
  have c1 := fun W hW => rForm_c (s := s) (H.out.below (w' := W) hW) (by omega) (by omega)
  rw [hp] at c1
  have C1 := hid c1
  clear h c1 hp
  go_enter Tryz.func68, Tryz.ntmps68
  go_wp2_with fail
  refine (C1.out _ (below_alloc (Below.refl w.heap.size w) _)).mono ?_
  rintro en w2 ⟨rfl, hb⟩
  have HB : Hid (Below w.heap.size w w2) := (below_alloc (Below.refl w.heap.size w) _).trans (hb.mono (by simp))
  clear hb
  go_wp2
  go_ret2
  exact ⟨rfl, HB.out⟩

theorem Dn.dn_txt {w x n d V} (_h : Dn w x n d V) (hs : (dec V).size ≤ 81921) : (Lib.decDigits V).length ≤ 1000000 := by
  have e : (dec V).size = (Lib.decDigits V).length := by show ((Lib.decDigits V).toArray).size = _; rw [List.size_toArray]
  omega

set_option maxRecDepth 100000 in
set_option maxHeartbeats 4000000 in
theorem qText_c {w : World} {s : Bool} {x : Option Addr} {n c : Nat} {d : Nat → Int} {y : Option Addr} {m e : Nat} {g : Nat → Int} {q : Rat} (h : Qn w s x n d y m g q) (hn : n ≤ 8192) (hm : m ≤ 8192) (s1 : (dec q.num.natAbs).size ≤ 81921) (s2 : (dec q.den).size ≤ 81921) :
    Calls Tryz.prog 99 #[.agg #[.bool s, .slice x n c, .slice y m e]] w fun en w' => en = .returned (.string (qtx s q)) ∧ Below w.heap.size w w' := by
  have BX := hid (bx3_at w (.bool s) (.slice x n c) (.slice y m e) 70)
  have HW := hid (below_alloc (Below.refl w.heap.size w) (.cells #[.bool s, .slice x n c, .slice y m e] 70))
  have H := hid (h.alloc (.cells #[.bool s, .slice x n c, .slice y m e] 70))
  have hone := h.den.one_iff
  have hfd : ∀ (b : Bool) (x : Option Addr) (n c : Nat) (y : Option Addr) (m e : Nat) (w : World), (Instr.field 70 (.agg #[.bool b, .slice x n c, .slice y m e]) 0).run Tryz.prog w = .ok (.agg #[.bool b, .slice x n c]) w := fun _ _ _ _ _ _ _ _ => by kernel_rfl
  have hq : Hid (qtx s q = if q.den = 1 then wtx s q.num.natAbs else wtx s q.num.natAbs ++ ⟨#[47]⟩ ++ dec q.den) := rfl
  have s3 := wtx_size (s := s) s1
  have C1 : Hid (∀ W, Below (w.alloc (.cells #[.bool s, .slice x n c, .slice y m e] 70)).heap.size (w.alloc (.cells #[.bool s, .slice x n c, .slice y m e] 70)) W → Calls Tryz.prog 129 #[.agg #[.bool s, .slice x n c]] W fun en w' => en = .returned (.string (wtx s q.num.natAbs)) ∧ Below W.heap.size W w') := fun W hW => by
    have hz := (H.out.below hW).num
    exact zText_c s x n c d q.num.natAbs W hn hz.dn.rd hz.dn.dg hz.dn.fm hz.dn.val (hz.dn.dn_txt s1)
  have C2 : Hid (∀ W, Below (w.alloc (.cells #[.bool s, .slice x n c, .slice y m e] 70)).heap.size (w.alloc (.cells #[.bool s, .slice x n c, .slice y m e] 70)) W → Calls Tryz.prog 130 #[.slice y m e] W fun en w' => en = .returned (.string (dec q.den)) ∧ Below W.heap.size W w') := fun W hW => by
    have hz := (H.out.below hW).den
    exact rtext_c y m e g q.den W hm hz.rd hz.dg hz.fm hz.val
  have hr := (h.alloc (.cells #[.bool s, .slice x n c, .slice y m e] 70)).den.rd
  clear h s1
  go_enter Tryz.func99, Tryz.ntmps99
  go_upto_region 1 with fail
  generalize w.alloc (.cells #[.bool s, .slice x n c, .slice y m e] 70) = w1 at *
  generalize wtx s q.num.natAbs = ta at *
  generalize dec q.den = tb at *
  obtain ⟨z, x0, x1, x2⟩ := BX.out
  by_cases h1 : q.den = 1
  · obtain ⟨hm1, hd1⟩ := hone.1 h1
    subst hm1
    obtain ⟨bk, o, rfl⟩ := hr.at (by omega)
    have hcell := hr.cell (j := 0) (by omega)
    rw [hd1, Nat.add_zero] at hcell
    have HQ : Hid (qtx s q = ta) := by rw [hq.out, if_pos h1]; exact hid rfl
    clear h1 hone hr hd1 hq
    go_wp2_with fail
    refine (C1.out _ (Below.refl _ _)).mono ?_
    rintro en w2 ⟨rfl, hb⟩
    have HB := hid (HW.out.trans (hb.mono HW.out.size))
    clear hb
    go_wp2
    go_ret
    exact ⟨by rw [HQ.out]; rfl, HB.out⟩
  · have hgc : ((m : Int) == 1) = false ∨ (m = 1 ∧ (g 0 == 1) = false) := by
      by_cases hk : m = 1
      · right; refine ⟨hk, ?_⟩
        simp; intro h; exact h1 (hone.2 ⟨hk, h⟩)
      · left; simp; omega
    have HQ : Hid (qtx s q = ta ++ ⟨#[47]⟩ ++ tb) := by rw [hq.out, if_neg h1]; exact hid rfl
    have hz1 : (ta ++ (⟨#[47]⟩ : ByteArray)).size ≤ 81923 := by rw [ByteArray.size_append]; have : (⟨#[47]⟩ : ByteArray).size = 1 := rfl; omega
    have hcat1 : ∀ W : World, (Op.stringOp .add ta ⟨#[47]⟩).run Tryz.prog W = .ok (.string (ta ++ ⟨#[47]⟩)) W := fun W => run_string_add_sum W _ _ (by have : (⟨#[47]⟩ : ByteArray).size = 1 := rfl; omega)
    have hcat2 : ∀ W : World, (Op.stringOp .add (ta ++ ⟨#[47]⟩) tb).run Tryz.prog W = .ok (.string (ta ++ ⟨#[47]⟩ ++ tb)) W := fun W => run_string_add_sum W _ _ (by omega)
    clear h1 hone hq hz1
    rcases hgc with hgk | ⟨hgk, hgd⟩
    · clear hr
      go_wp2_with fail
      go_region_held3 (fun w' => w'.cell? ⟨w.heap.size, 0, none⟩ = some (.bool s) ∧ w'.cell? ⟨w.heap.size, 1, none⟩ = some (.slice x n c) ∧ w'.cell? ⟨w.heap.size, 2, none⟩ = some (.slice y m e))
        (refine ⟨?_, ?_, ?_⟩ <;> repeat (with_reducible first | assumption | refine kCd ?_ | refine kCb (by assumption) ?_))
        (first
          | (go_at_call 129; with_reducible refine (C1.out _ (by repeat (with_reducible first | assumption | exact Below.refl _ _ | refine Below.drew ?_ | refine kBb (by assumption) ?_))).mono ?_; rintro en v5 ⟨rfl, hb5⟩)
          | (go_at_call 130; with_reducible refine (C2.out _ (by repeat (with_reducible first | assumption | exact Below.refl _ _ | refine Below.drew ?_ | refine kBb (by assumption) ?_))).mono ?_; rintro en v6 ⟨rfl, hb6⟩))
      all_goals
        first
          | (have hb : Below w1.heap.size w1 v6 := (by repeat (with_reducible first | assumption | exact Below.refl _ _ | refine Below.drew ?_ | refine kBb (by assumption) ?_))
             have HB := hid (HW.out.trans (hb.mono HW.out.size))
             clear hb
             go_wp2
             go_ret
             exact ⟨by rw [HQ.out]; rfl, HB.out⟩)
          | (have hb : Below w1.heap.size w1 v5 := (by repeat (with_reducible first | assumption | exact Below.refl _ _ | refine Below.drew ?_ | refine kBb (by assumption) ?_))
             have HB := hid (HW.out.trans (hb.mono HW.out.size))
             clear hb
             go_wp2
             go_ret
             exact ⟨by rw [HQ.out]; rfl, HB.out⟩)
    · subst hgk
      obtain ⟨bk, o, rfl⟩ := hr.at (by omega)
      have hcell := hr.cell (j := 0) (by omega)
      rw [Nat.add_zero] at hcell
      clear hr
      go_wp2_with fail
      go_region_held3 (fun w' => w'.cell? ⟨w.heap.size, 0, none⟩ = some (.bool s) ∧ w'.cell? ⟨w.heap.size, 1, none⟩ = some (.slice x n c) ∧ w'.cell? ⟨w.heap.size, 2, none⟩ = some (.slice (some ⟨bk, o, none⟩) 1 e))
        (refine ⟨?_, ?_, ?_⟩ <;> repeat (with_reducible first | assumption | refine kCd ?_ | refine kCb (by assumption) ?_))
        (first
          | (go_at_call 129; with_reducible refine (C1.out _ (by repeat (with_reducible first | assumption | exact Below.refl _ _ | refine Below.drew ?_ | refine kBb (by assumption) ?_))).mono ?_; rintro en v5 ⟨rfl, hb5⟩)
          | (go_at_call 130; with_reducible refine (C2.out _ (by repeat (with_reducible first | assumption | exact Below.refl _ _ | refine Below.drew ?_ | refine kBb (by assumption) ?_))).mono ?_; rintro en v6 ⟨rfl, hb6⟩))
      all_goals
        first
          | (have hb : Below w1.heap.size w1 v6 := (by repeat (with_reducible first | assumption | exact Below.refl _ _ | refine Below.drew ?_ | refine kBb (by assumption) ?_))
             have HB := hid (HW.out.trans (hb.mono HW.out.size))
             clear hb
             go_wp2
             go_ret
             exact ⟨by rw [HQ.out]; rfl, HB.out⟩)
          | (have hb : Below w1.heap.size w1 v5 := (by repeat (with_reducible first | assumption | exact Below.refl _ _ | refine Below.drew ?_ | refine kBb (by assumption) ?_))
             have HB := hid (HW.out.trans (hb.mono HW.out.size))
             clear hb
             go_wp2
             go_ret
             exact ⟨by rw [HQ.out]; rfl, HB.out⟩)

/-- Text and error, in form or not. -/
def ptx (p : Bool) (s : Bool) (q : Rat) : ByteArray := if p then qtx s q else ⟨#[]⟩
def pte (p : Bool) : Int := if p then 0 else 3
theorem rText_g {w : World} {s : Bool} {x : Option Addr} {n c : Nat} {f : Nat → Int} {y : Option Addr} {m d : Nat} {g : Nat → Int} {p : Bool} {q : Rat} (h : Rw w x n c f y m d g) (hn : n ≤ 100) (hm : m ≤ 100) (hp : rfB s f n g m = p) (hq : p = true → Rn 100 w s x n c f y m d g q) (t1 : Tg w x) (t2 : Tg w y) (htab : Tab w) :
    Calls Tryz.prog 68 #[.agg #[.bool s, .slice x n c, .slice y m d]] w fun e w' => e = .returned (.tuple #[.string (ptx p s q), .int .i64 (pte p)]) ∧ Below w.heap.size w w' := by
  cases p
  · exact rTextErr_c h (by omega) (by omega) hp
  · exact rTextOk_c (hq rfl) (by omega) t1 t2 htab
end Go.Proofs.YtbindadjepfkcaaGreatDoor
namespace Go.Proofs.YtbindadjepfkcaaGreatDoor
open Go.RowKit

/-- Bytes that are a whole number's text. -/
def IsWh (b : Nat → Nat) (L : Nat) (u : Int) : Prop :=
  (0 < L ∧ b 0 = 45) ∧ (IsNum (bsh b 1) (L - 1) ∧ 0 < dn (bsh b 1) (L - 1)) ∧ u = -(dn (bsh b 1) (L - 1) : Nat) ∨ ¬ (0 < L ∧ b 0 = 45) ∧ IsNum b L ∧ u = (dn b L : Nat)
theorem IsWh.uniq {b L u v} (h : IsWh b L u) (k : IsWh b L v) : u = v := by
  rcases h with ⟨h1, _, h2⟩ | ⟨h1, _, h2⟩ <;> rcases k with ⟨k1, _, k2⟩ | ⟨k1, _, k2⟩
  · omega
  · exact absurd h1 k1
  · exact absurd k1 h1
  · omega
/-- The first bar stands at i. -/
def Bar (b : Nat → Nat) (L i : Nat) : Prop := i < L ∧ b i = 47 ∧ ∀ j, j < i → b j ≠ 47
def NoBar (b : Nat → Nat) (L : Nat) : Prop := ∀ j, j < L → b j ≠ 47
theorem Bar.uniq {b L i j} (h : Bar b L i) (k : Bar b L j) : i = j := by
  rcases Nat.lt_trichotomy i j with h1 | h1 | h1
  · exact absurd h.2.1 (k.2.2 i h1)
  · exact h1
  · exact absurd k.2.1 (h.2.2 j h1)
theorem Bar.no {b L i} (h : Bar b L i) (k : NoBar b L) : False := k i h.1 h.2.1
theorem bar_or (b : Nat → Nat) (L : Nat) : (∃ i, Bar b L i) ∨ NoBar b L := by
  induction L with
  | zero => right; intro j hj; omega
  | succ L ih =>
    rcases ih with ⟨i, h1, h2, h3⟩ | h
    · exact .inl ⟨i, by omega, h2, h3⟩
    · by_cases hb : b L = 47
      · exact .inl ⟨L, by omega, hb, h⟩
      · right; intro j hj
        rcases Nat.lt_or_ge j L with h1 | h1
        · exact h j h1
        · have : j = L := by omega
          subst this; exact hb
/-- The bytes are the text of q. -/
def RT (b : Nat → Nat) (L : Nat) (q : Rat) : Prop :=
  (∃ i u, Bar b L i ∧ IsWh b i u ∧ IsNum (bsh b (i + 1)) (L - (i + 1)) ∧ 1 < dn (bsh b (i + 1)) (L - (i + 1)) ∧ u.natAbs.gcd (dn (bsh b (i + 1)) (L - (i + 1))) = 1 ∧ q = (u : Rat) / (((dn (bsh b (i + 1)) (L - (i + 1)) : Nat) : Int) : Rat)) ∨
  (∃ u, NoBar b L ∧ IsWh b L u ∧ q = (u : Rat))
theorem RT.uniq {b L q r} (h : RT b L q) (k : RT b L r) : q = r := by
  rcases h with ⟨i, u, h1, h2, _, _, _, h3⟩ | ⟨u, h1, h2, h3⟩ <;> rcases k with ⟨j, v, k1, k2, _, _, _, k3⟩ | ⟨v, k1, k2, k3⟩
  · have := h1.uniq k1
    subst this
    have := h2.uniq k2
    subst this
    rw [h3, k3]
  · exact absurd k1 (fun k => h1.no k)
  · exact absurd h1 (fun k => k1.no k)
  · have := h2.uniq k2
    subst this
    rw [h3, k3]
/-- What Read answers. -/
def RRead (b : Nat → Nat) (L : Nat) (w' : World) (s : Bool) (x : Option Addr) (n c : Nat) (f : Nat → Int) (y : Option Addr) (m d : Nat) (g : Nat → Int) (er : Int) : Prop :=
  1048576 < L ∧ er = 2 ∧ n = 0 ∧ m = 0 ∧ s = false ∨ L ≤ 1048576 ∧ (∃ q, RT b L q ∧ Rn 2000 w' s x n c f y m d g q) ∧ er = 0 ∨ L ≤ 1048576 ∧ (∀ q, ¬ RT b L q) ∧ er = 11 ∧ n = 0 ∧ m = 0 ∧ s = false
theorem RRead.below {b L w w' s x n c f y m d g er} (h : RRead b L w s x n c f y m d g er) (hb : Below w.heap.size w w') : RRead b L w' s x n c f y m d g er := by
  rcases h with h | ⟨h1, ⟨q, h2, h3⟩, h4⟩ | h
  · exact .inl h
  · exact .inr (.inl ⟨h1, ⟨q, h2, h3.below hb⟩, h4⟩)
  · exact .inr (.inr h)
theorem RRead.alloc {b L w s x n c f y m d g er} (h : RRead b L w s x n c f y m d g er) (o : Obj) : RRead b L (w.alloc o) s x n c f y m d g er := h.below (below_alloc (Below.refl _ _) o)
theorem rr_er {b L w s x n c f y m d g er w' s' x' n' c' f' y' m' d' g' er'} (h : RRead b L w s x n c f y m d g er) (k : RRead b L w' s' x' n' c' f' y' m' d' g' er') : er' = er := by
  rcases h with ⟨h1, h2, _⟩ | ⟨h1, ⟨q, h2, _⟩, h3⟩ | ⟨h1, h2, h3, _⟩ <;> rcases k with ⟨k1, k2, _⟩ | ⟨k1, ⟨r, k2, _⟩, k3⟩ | ⟨k1, k2, k3, _⟩ <;> first | omega | exact absurd k2 (h2 _) | exact absurd h2 (k2 _)
theorem rr_same {b L w s x n c f y m d g er s' x' n' c' f' y' m' d' g' er'} (h : RRead b L w s x n c f y m d g er) (k : RRead b L w s' x' n' c' f' y' m' d' g' er') :
    Calls Tryz.prog 37 #[.agg #[.bool s, .slice x n c, .slice y m d], .agg #[.bool s', .slice x' n' c', .slice y' m' d']] w fun e w' => e = .returned (.bool true) ∧ Below w.heap.size w w' := by
  rcases h with ⟨h1, h2, h3, h4, h5⟩ | ⟨h1, ⟨q, h2, h4⟩, h3⟩ | ⟨h1, h0, h2, h3, h4, h5⟩ <;> rcases k with ⟨k1, k2, k3, k4, k5⟩ | ⟨k1, ⟨r, k2, k4⟩, k3⟩ | ⟨k1, k0, k2, k3, k4, k5⟩
  · subst h3 h4 h5 k3 k4 k5; exact sameNone_c
  · omega
  · omega
  · omega
  · have := h2.uniq k2
    subst this
    refine (rSame_n h4 k4 (by omega) (by omega)).mono ?_
    rintro e w' ⟨rfl, hb⟩
    exact ⟨by simp, hb⟩
  · exact absurd h2 (k0 _)
  · omega
  · exact absurd k2 (h0 _)
  · subst h3 h4 h5 k3 k4 k5; exact sameNone_c
theorem wread_cases {b : Nat → Nat} {L : Nat} {r : Bool} {k : Nat} {f : Nat → Int} {er : Int} (h : WRead L b r k f er) (hL : L ≤ 1048576) : er = 0 ∧ IsWh b L (wv r f k) ∨ er = 11 ∧ ∀ u, ¬ IsWh b L u := by
  rcases h with ⟨h1, _⟩ | ⟨_, h1, h2, h3, h4, h5, h6⟩ | ⟨_, h1, h2, h3, h4⟩ | ⟨_, h1, h2, h3, _⟩
  · omega
  · exact .inl ⟨h5, .inl ⟨⟨h1, h2⟩, ⟨h3, h4⟩, h6⟩⟩
  · exact .inl ⟨h3, .inr ⟨h1, h2, h4⟩⟩
  · refine .inr ⟨h3, fun u hu => ?_⟩
    rcases hu with ⟨k1, k2, _⟩ | ⟨k1, k2, _⟩
    · exact h1 ⟨k1.1, k1.2, k2.1, k2.2⟩
    · exact h2 ⟨k1, k2⟩
theorem ten_pw (L : Nat) : ((10 ^ L : Nat) : Int) ≤ pw L := by
  induction L with
  | zero => simp [pw]
  | succ L ih =>
    rw [Nat.pow_succ, pw_succ]
    have := pw_pos L
    push_cast at ih ⊢
    omega
/-- A number that digits tell has no more limbs than digits. -/
theorem Wn.len_dn {w x n c f b L} (h : Wn w false x n c f (dn b L : Nat)) (hd : Dig b L) : n ≤ L := by
  rcases Nat.lt_or_ge L n with h1 | h1
  · have h2 := vf_form_ge h.lm h.fm (by omega)
    have h3 := pw_mono (show L ≤ n - 1 by omega)
    have h4 := ten_pw L
    have h5 := dn_lt hd
    have h6 := h.nv
    omega
  · exact h1
theorem isWh_len {w s x n c f b L u} (h : Wn w s x n c f u) (hu : IsWh b L u) : n ≤ L := by
  rcases hu with ⟨h1, ⟨h2, _⟩, h3⟩ | ⟨h1, h2, h3⟩
  · have h4 := h.mag
    rw [h3] at h4
    have e : (-(dn (bsh b 1) (L - 1) : Int)).natAbs = dn (bsh b 1) (L - 1) := by omega
    rw [e] at h4
    have := h4.len_dn h2.1
    omega
  · have h4 := h.mag
    rw [h3] at h4
    have e : ((dn b L : Nat) : Int).natAbs = dn b L := by omega
    rw [e] at h4
    exact h4.len_dn h2.1

theorem sb_list {s L b} (hs : Sb s L b) {k : Nat} (hk : k < L) : ∃ u : UInt8, s.data.toList[k]? = some u ∧ u.toNat = b k := by
  have h : k < s.size := by rw [hs.1]; exact hk
  refine ⟨s[k], ?_, hs.2 k h⟩
  rw [Array.getElem?_toList]
  exact Array.getElem?_eq_getElem h
theorem sb_none {s L b} (hs : Sb s L b) {k : Nat} (hk : L ≤ k) : s.data.toList[k]? = none := by
  rw [Array.getElem?_toList]
  exact Array.getElem?_eq_none (by have := hs.1; show s.size ≤ k; omega)
theorem idx_bar {s L b i} (hs : Sb s L b) (hi : Bar b L i) : Lib.indexByte s.data.toList 47 = (i : Int) := by
  have h0 := Lib.indexByte_ge s.data.toList 47
  obtain ⟨u, h1, h2⟩ := sb_list hs hi.1
  have hu : u = 47 := UInt8.toNat_inj.1 (by rw [h2, hi.2.1]; rfl)
  subst hu
  rcases (show Lib.indexByte s.data.toList 47 < 0 ∨ 0 ≤ Lib.indexByte s.data.toList 47 by omega) with h | h
  · exact absurd h1 (Lib.indexByte_none (show Lib.indexByte s.data.toList 47 = -1 by omega) i)
  · obtain ⟨o, ho⟩ : ∃ o : Nat, Lib.indexByte s.data.toList 47 = o := ⟨(Lib.indexByte s.data.toList 47).toNat, by omega⟩
    rw [ho]
    obtain ⟨k1, k2⟩ := Lib.indexByte_some ho
    rcases Nat.lt_trichotomy o i with h3 | h3 | h3
    · obtain ⟨v, h4, h5⟩ := sb_list hs (show o < L by have := hi.1; omega)
      rw [k1] at h4
      cases h4
      exact absurd h5.symm (hi.2.2 o h3)
    · rw [h3]
    · exact absurd h1 (k2 i h3)
theorem idx_none {s L b} (hs : Sb s L b) (hi : NoBar b L) : Lib.indexByte s.data.toList 47 = -1 := by
  have h0 := Lib.indexByte_ge s.data.toList 47
  rcases (show Lib.indexByte s.data.toList 47 < 0 ∨ 0 ≤ Lib.indexByte s.data.toList 47 by omega) with h | h
  · omega
  · obtain ⟨o, ho⟩ : ∃ o : Nat, Lib.indexByte s.data.toList 47 = o := ⟨(Lib.indexByte s.data.toList 47).toNat, by omega⟩
    obtain ⟨k1, _⟩ := Lib.indexByte_some ho
    rcases Nat.lt_or_ge o L with h3 | h3
    · obtain ⟨v, h4, h5⟩ := sb_list hs h3
      rw [k1] at h4
      cases h4
      exact absurd h5.symm (hi o h3)
    · rw [sb_none hs h3] at k1; cases k1

set_option maxRecDepth 100000 in
set_option maxHeartbeats 1000000 in
theorem cutBar_c {s : ByteArray} {L : Nat} {b : Nat → Nat} {i : Nat} (hs : Sb s L b) (hL : L ≤ 1048576) (hi : Bar b L i) (w : World) : Calls Tryz.prog 100 #[.string s, .string ⟨#[47]⟩] w fun e w' => e = .returned (.tuple #[.string (s.extract 0 i), .string (s.extract (i + 1) L), .bool true]) ∧ Below w.heap.size w w' := by
  have hx := idx_bar hs hi
  have hiL := hi.1
  have hsz := hs.1
  have C1 : Hid (∀ W, Calls Tryz.prog 149 #[.string s, .string ⟨#[47]⟩] W fun e w' => e = .returned (.int .i64 i) ∧ w' = W) := fun W => by
    have := Tryz.stringslite_Index_one s 47 W
    rw [hx] at this
    exact this
  clear hs hi hx
  subst hsz
  have c2 : ∀ W, Calls Tryz.prog 131 #[.string s, .string ⟨#[47]⟩] W fun e w' => e = .returned (.tuple #[.string (s.extract 0 i), .string (s.extract (i + 1) s.size), .bool true]) ∧ Below W.heap.size W w' := fun W => by
    have hge : decide ((0 : Int) ≤ (i : Int)) = true := by simp
    have h1 : ((ByteArray.mk #[47]).size : Int) = 1 := by decide
    go_enter Tryz.func131, Tryz.ntmps131
    go_wp2_with fail
    refine (C1.out _).mono ?_
    rintro e w1 ⟨rfl, rfl⟩
    go_wp2
    go_quiet (fail)
    go_wp2
    exact bodyPost_ret (v := .tuple #[.string (s.extract 0 i), .string (s.extract (i + 1) s.size), .bool true]) (by simp [results, Tryz.results131, go_sem]) rfl ⟨rfl, below_drewN (Below.refl _ _) _⟩
  have C2 := hid c2
  clear c2 C1
  go_enter Tryz.func100, Tryz.ntmps100
  go_wp2_with fail
  refine (C2.out _).mono ?_
  rintro e w1 ⟨rfl, hb⟩
  go_wp2
  exact bodyPost_ret (v := .tuple #[.string (s.extract 0 i), .string (s.extract (i + 1) s.size), .bool true]) (by simp [results, Tryz.results100, go_sem]) rfl ⟨rfl, hb⟩
set_option maxRecDepth 100000 in
set_option maxHeartbeats 1000000 in
theorem cutNone_c {s : ByteArray} {L : Nat} {b : Nat → Nat} (hs : Sb s L b) (hL : L ≤ 1048576) (hi : NoBar b L) (w : World) : Calls Tryz.prog 100 #[.string s, .string ⟨#[47]⟩] w fun e w' => e = .returned (.tuple #[.string s, .string ⟨#[]⟩, .bool false]) ∧ Below w.heap.size w w' := by
  have hx := idx_none hs hi
  have hsz := hs.1
  have C1 : Hid (∀ W, Calls Tryz.prog 149 #[.string s, .string ⟨#[47]⟩] W fun e w' => e = .returned (.int .i64 (-1)) ∧ w' = W) := fun W => by
    have := Tryz.stringslite_Index_one s 47 W
    rw [hx] at this
    exact this
  clear hs hi hx
  subst hsz
  have c2 : ∀ W, Calls Tryz.prog 131 #[.string s, .string ⟨#[47]⟩] W fun e w' => e = .returned (.tuple #[.string s, .string ⟨#[]⟩, .bool false]) ∧ Below W.heap.size W w' := fun W => by
    go_enter Tryz.func131, Tryz.ntmps131
    go_wp2_with fail
    refine (C1.out _).mono ?_
    rintro e w1 ⟨rfl, rfl⟩
    go_wp2
    exact bodyPost_ret (v := .tuple #[.string s, .string ⟨#[]⟩, .bool false]) (by simp [results, Tryz.results131, go_sem]) rfl ⟨rfl, Below.refl _ _⟩
  have C2 := hid c2
  clear c2 C1
  go_enter Tryz.func100, Tryz.ntmps100
  go_wp2_with fail
  refine (C2.out _).mono ?_
  rintro e w1 ⟨rfl, hb⟩
  go_wp2
  exact bodyPost_ret (v := .tuple #[.string s, .string ⟨#[]⟩, .bool false]) (by simp [results, Tryz.results100, go_sem]) rfl ⟨rfl, hb⟩

/-- What readDen answers. -/
def DRead (b : Nat → Nat) (L : Nat) (w' : World) (x : Option Addr) (k c : Nat) (f : Nat → Int) (er : Int) : Prop :=
  (IsNum b L ∧ dn b L ≠ 1) ∧ er = 0 ∧ Wn w' false x k c f (dn b L : Nat) ∨ ¬ (IsNum b L ∧ dn b L ≠ 1) ∧ er = 11
set_option maxRecDepth 100000 in
set_option maxHeartbeats 1000000 in
theorem readDen_c (s : ByteArray) (L : Nat) (b : Nat → Nat) (w : World) (hs : Sb s L b) (hL : L ≤ 1048576) :
    Calls Tryz.prog 103 #[.string s] w fun e w' => ∃ x k c f er, e = .returned (.tuple #[.slice x k c, .int .i64 er]) ∧ Below w.heap.size w w' ∧ Hid (DRead b L w' x k c f er) := by
  go_enter Tryz.func103, Tryz.ntmps103
  go_wp2_with fail
  refine (Read_c s L b _ hs).mono ?_
  rintro e w1 ⟨x, k, c, f, er, rfl, hres, hans⟩
  have hr := hres.ans (by omega)
  have hb := hr.bel
  have hw : Wn w1 false x k c f (vf f k) := ⟨hr.rd, hr.lm, (wfB_iff _ _ _).2 ⟨hr.fm, fun h => by cases h⟩, hr.ncap, hr.nil', rfl⟩
  have C2 := hid (isOne_c hw); have HB := hid hb; have HW := hid hw; have HAns := hid hans
  clear hres hans hr hb hw hs
  go_wp2_with fail
  refine C2.out.mono ?_
  rintro e w2 ⟨rfl, rfl⟩
  by_cases h1 : vf f k = 1
  · rw [decide_eq_true h1]
    have HF : Hid (¬ (IsNum b L ∧ dn b L ≠ 1)) := by
      rintro ⟨k1, k2⟩
      rcases HAns.out with ⟨h2, _⟩ | ⟨_, h2, _⟩ | ⟨_, _, _, h2⟩
      · omega
      · exact h2 k1
      · omega
    clear h1
    go_wp2
    go_ret2
    exact ⟨none, 0, 0, fun _ => 0, 11, rfl, HB.out, .inr ⟨HF.out, rfl⟩⟩
  · rw [decide_eq_false h1]
    have HF : Hid (DRead b L w2 x k c f er) := by
      rcases HAns.out with ⟨h2, _⟩ | ⟨_, h2, h3, _⟩ | ⟨_, h2, h3, h4⟩
      · omega
      · exact .inr ⟨fun h => h2 h.1, h3⟩
      · exact .inl ⟨⟨h2, by omega⟩, h3, by rw [← h4]; exact HW.out⟩
    clear h1
    go_wp2
    go_ret2
    exact ⟨x, k, c, f, er, rfl, HB.out, HF.out⟩
end Go.Proofs.YtbindadjepfkcaaGreatDoor
namespace Go.Proofs.YtbindadjepfkcaaGreatDoor
open Go.RowKit

theorem rf_eq {w w' s x n c f u y m d g} {D : Nat} (ha : Wn w s x n c f u) (hb : Wn w' false y m d g ((D : Nat) : Int)) : rfB s f n g m = (decide (0 < D) && decide (u.natAbs.gcd D = 1)) := by
  have h1 : (vf f n).toNat = u.natAbs := by rw [← natAbs_wv (s := s) ha.lm, ha.val]
  have h2 : (vf g m).toNat = D := by rw [hb.nv]; omega
  have h3 : decide (0 < m) = decide (0 < D) := by
    rcases Nat.eq_zero_or_pos D with h | h
    · have : m = 0 := by
        rcases Nat.eq_zero_or_pos m with k | k
        · exact k
        · have := vf_pos hb.lm hb.fm k; have := hb.nv; omega
      simp [h, this]
    · have := hb.pos (by omega)
      simp [h, this]
  simp only [rfB, ha.wf, (fmB_iff g m).2 hb.fm, h1, h2, h3, Bool.true_and]
theorem rn_made {w s x n c f u y m d g} {D L : Nat} (ha : Wn w s x n c f u) (hb : Wn w false y m d g ((D : Nat) : Int)) (h0 : 0 < D) (hg : u.natAbs.gcd D = 1) (hn : n ≤ L) (hm : m ≤ L) : Rn L w s x n c f y m d g ((u : Rat) / (((D : Nat) : Int) : Rat)) := by
  have e0 : ((D : Nat) : Int).natAbs = D := by omega
  obtain ⟨e1, e2⟩ := make_made (u := u) (v := ((D : Nat) : Int)) (s := s) (t := false) ha.sgn (by show ((D : Nat) : Int) = (((D : Nat) : Int).natAbs : Int); omega) (by omega)
  rw [e0, hg, Nat.div_one] at e1 e2
  refine ⟨?_, ?_, hn, hm⟩
  · have e3 : (s != false) = s := by cases s <;> rfl
    rw [e1, e3, ← ha.sgn]; exact ha
  · rw [e2]; exact hb
theorem rn_whole {w s x n c f u y m d g} {L : Nat} (ha : Wn w s x n c f u) (hb : Wn w false y m d g 1) (hn : n ≤ L) (hm : m ≤ L) : Rn L w s x n c f y m d g (u : Rat) := by
  refine ⟨?_, ?_, hn, hm⟩
  · rw [Rat.num_intCast]; exact ha
  · rw [Rat.den_intCast]; exact hb
theorem sgn_same {w s x n c f u r} (ha : Wn w s x n c f u) (hr : r = (s && decide (0 < n))) : r = s := by
  rw [hr]
  have := ((wfB_iff _ _ _).1 ha.wf).2
  cases s
  · rfl
  · simp; exact this rfl
theorem rt_no1 {b L i} (hi : Bar b L i) (h : ∀ u, ¬ IsWh b i u) : ∀ q, ¬ RT b L q := by
  rintro q (⟨j, u, k1, k2, _⟩ | ⟨u, k1, _⟩)
  · have := hi.uniq k1; subst this; exact h u k2
  · exact hi.no k1
theorem rt_no2 {b L i} (hi : Bar b L i) (h : ¬ (IsNum (bsh b (i + 1)) (L - (i + 1)) ∧ dn (bsh b (i + 1)) (L - (i + 1)) ≠ 1)) : ∀ q, ¬ RT b L q := by
  rintro q (⟨j, u, k1, k2, k3, k4, _⟩ | ⟨u, k1, _⟩)
  · have := hi.uniq k1; subst this; exact h ⟨k3, by omega⟩
  · exact hi.no k1
theorem rt_no3 {b L i u} (hi : Bar b L i) (hu : IsWh b i u) (h : ¬ (0 < dn (bsh b (i + 1)) (L - (i + 1)) ∧ u.natAbs.gcd (dn (bsh b (i + 1)) (L - (i + 1))) = 1)) : ∀ q, ¬ RT b L q := by
  rintro q (⟨j, v, k1, k2, k3, k4, k5, _⟩ | ⟨u, k1, _⟩)
  · have := hi.uniq k1; subst this
    have := hu.uniq k2; subst this
    exact h ⟨by omega, k5⟩
  · exact hi.no k1
theorem rt_no4 {b L} (hi : NoBar b L) (h : ∀ u, ¬ IsWh b L u) : ∀ q, ¬ RT b L q := by
  rintro q (⟨j, u, k1, k2, _⟩ | ⟨u, k1, k2, _⟩)
  · exact k1.no hi
  · exact h u k2
theorem rt_yes {b L i u} (hi : Bar b L i) (hu : IsWh b i u) (h1 : IsNum (bsh b (i + 1)) (L - (i + 1)) ∧ dn (bsh b (i + 1)) (L - (i + 1)) ≠ 1) (h : 0 < dn (bsh b (i + 1)) (L - (i + 1)) ∧ u.natAbs.gcd (dn (bsh b (i + 1)) (L - (i + 1))) = 1) : RT b L ((u : Rat) / (((dn (bsh b (i + 1)) (L - (i + 1)) : Nat) : Int) : Rat)) :=
  .inl ⟨i, u, hi, hu, h1.1, by have := h1.2; omega, h.2, rfl⟩

set_option maxRecDepth 100000 in
set_option maxHeartbeats 4000000 in
theorem rReadLong_c (t : ByteArray) (w : World) (hL : 1048576 < t.size) :
    Calls Tryz.prog 70 #[.string t] w fun e w' => e = .returned (.tuple #[.agg #[.bool false, .slice none 0 0, .slice none 0 0], .int .i64 2]) ∧ Below w.heap.size w w' := by
  have hd : decide ((1048576 : Int) < (t.size : Int)) = true := by simp; omega
  go_enter Tryz.func70, Tryz.ntmps70
  go_wp2
  exact bodyPost_ret (v := .tuple #[.agg #[.bool false, .slice none 0 0, .slice none 0 0], .int .i64 2]) (by simp [results, Tryz.results70, go_sem]) rfl ⟨rfl, below_alloc (Below.refl _ _) _⟩

set_option maxRecDepth 100000 in
set_option maxHeartbeats 8000000 in
theorem rReadBar_c (t : ByteArray) (L : Nat) (b : Nat → Nat) (i : Nat) (w : World) (hs : Sb t L b) (hL : L ≤ 1000) (hi : Bar b L i) :
    Calls Tryz.prog 70 #[.string t] w fun e w' => ∃ s x n c f y m d g er, e = .returned (.tuple #[.agg #[.bool s, .slice x n c, .slice y m d], .int .i64 er]) ∧ Below w.heap.size w w' ∧ RRead b L w' s x n c f y m d g er := by
  have h3 := ob_new w 24
  have h4 := below_alloc (Below.refl w.heap.size w) (.cells #[.bool false, .slice none 0 0, .slice none 0 0] 24)
  have hsz := hs.1
  have hiL := hi.1
  have hd : decide ((1048576 : Int) < (t.size : Int)) = false := by simp; omega
  have S1 := hid (hs.take (c := i) (by omega)); have S2 := hid (hs.drop (c := i + 1) (by omega))
  have CUT := hid (fun W => cutBar_c hs (by omega) hi W)
  have HI := hid hi
  clear hs hi hsz
  generalize t.extract 0 i = ta at *
  generalize t.extract (i + 1) L = tb at *
  go_enter Tryz.func70, Tryz.ntmps70
  go_wp2_with fail
  generalize w.alloc (.cells #[.bool false, .slice none 0 0, .slice none 0 0] 24) = w1 at *
  have OB1 := hid h3; have HW1 := hid h4
  clear h3 h4
  refine (CUT.out _).mono ?_
  rintro e w2 ⟨rfl, hb⟩
  have OB2 := hid (OB1.out.below hb); have HW2 := hid (HW1.out.trans (hb.mono HW1.out.size))
  clear hb OB1 HW1 CUT hd
  go_wp2_with fail
  refine (wRead_c ta i b _ S1.out (by omega)).mono ?_
  rintro e w3 ⟨s3, x3, k3, c3, f3, er, rfl, hr, hans⟩
  have hb := hr.res.bel
  have WA3 := hid ((hr.wn rfl).alloc (.cells #[.bool s3, .slice x3 k3 c3] 102)); have OB3 := hid ((OB2.out.below hb).alloc (.cells #[.bool s3, .slice x3 k3 c3] 102)); have HW3 := hid (below_alloc (HW2.out.trans (hb.mono HW2.out.size)) (.cells #[.bool s3, .slice x3 k3 c3] 102))
  have BA3 : Hid (Bx (w3.alloc (.cells #[.bool s3, .slice x3 k3 c3] 102)) w3.heap.size s3 x3 k3 c3) := ⟨by simp, kN0, kN1⟩
  have hcs := wread_cases hans (by omega)
  clear hb hr hans OB2 HW2
  rcases hcs with ⟨rfl, hwh⟩ | ⟨rfl, hno⟩
  rotate_left
  · have NO := hid (rt_no1 HI.out hno)
    clear hno
    go_upto_region 5 with fail
    generalize w3.alloc (.cells #[.bool s3, .slice x3 k3 c3] 102) = w4 at *
    generalize w3.heap.size = b3 at *
    obtain ⟨hz, z0, z1, z2, zf⟩ := OB3.out
    go_wp2
    exact bodyPost_ret (v := .tuple #[.agg #[.bool false, .slice none 0 0, .slice none 0 0], .int .i64 11]) (by simp [results, Tryz.results70, go_sem, z0, z1, z2]) rfl ⟨false, none, 0, 0, fun _ => 0, none, 0, 0, fun _ => 0, 11, rfl, below_st HW3.out (Nat.le_refl _), .inr (.inr ⟨by omega, NO.out, rfl, rfl, rfl, rfl⟩)⟩
  have HWh := hid hwh
  have hk3 := isWh_len WA3.out hwh
  clear hwh
  generalize wv s3 f3 k3 = u at *
  go_wp2_with fail
  generalize w3.alloc (.cells #[.bool s3, .slice x3 k3 c3] 102) = w4 at *
  generalize w3.heap.size = b3 at *
  refine (ratOne_c _).mono ?_
  rintro e w5 ⟨x5, f5, rfl, hb, _⟩
  have OB5 := hid (OB3.out.below hb); have HW5 := hid (HW3.out.trans (hb.mono HW3.out.size)); have BA5 := hid (BA3.out.below hb); have WA5 := hid (WA3.out.below hb)
  clear hb OB3 HW3 BA3 WA3
  go_wp2_with fail
  refine (readDen_c tb (L - (i + 1)) (bsh b (i + 1)) _ S2.out (by omega)).mono ?_
  rintro e w6 ⟨x6, k6, c6, f6, e6, rfl, hb, HD⟩
  have OB6 := hid (OB5.out.below hb); have HW6 := hid (HW5.out.trans (hb.mono HW5.out.size)); have BA6 := hid (BA5.out.below hb); have WA6 := hid (WA5.out.below hb)
  clear hb OB5 HW5 BA5 WA5
  obtain ⟨za, a0, a1⟩ := BA6.out
  go_wp2_with fail
  refine (rsigned_c s3 x3 x6 k3 c3 k6 c6 _ (by omega)).mono ?_
  rintro e w7 ⟨r7, rfl, HR7, hb⟩
  obtain rfl := sgn_same WA6.out HR7.out
  have OB7 := hid ((OB6.out.below hb).alloc (.cells #[.bool r7, .slice x3 k3 c3, .slice x6 k6 c6] 24)); have HW7 := hid (below_alloc (HW6.out.trans (hb.mono HW6.out.size)) (.cells #[.bool r7, .slice x3 k3 c3, .slice x6 k6 c6] 24)); have WA7 := hid ((WA6.out.below hb).alloc (.cells #[.bool r7, .slice x3 k3 c3, .slice x6 k6 c6] 24))
  have BR7 := hid (bx3_at w7 (.bool r7) (.slice x3 k3 c3) (.slice x6 k6 c6) 24)
  have hdr := HD.out
  have HB7 := hid hb
  clear hb OB6 HW6 BA6 za a0 a1 HD
  rcases hdr with ⟨hnum, rfl, hwd⟩ | ⟨hno, rfl⟩
  rotate_left
  · have NO := hid (rt_no2 HI.out hno)
    clear hno
    go_upto_region 11 with fail
    generalize w7.alloc (.cells #[.bool r7, .slice x3 k3 c3, .slice x6 k6 c6] 24) = w8 at *
    generalize w7.heap.size = b8 at *
    obtain ⟨hz, z0, z1, z2, zf⟩ := OB7.out
    go_wp2
    exact bodyPost_ret (v := .tuple #[.agg #[.bool false, .slice none 0 0, .slice none 0 0], .int .i64 11]) (by simp [results, Tryz.results70, go_sem, z0, z1, z2]) rfl ⟨false, none, 0, 0, fun _ => 0, none, 0, 0, fun _ => 0, 11, rfl, below_st HW7.out (Nat.le_refl _), .inr (.inr ⟨by omega, NO.out, rfl, rfl, rfl, rfl⟩)⟩
  have HNm := hid hnum
  have WD7 := hid ((hwd.below HB7.out).alloc (.cells #[.bool r7, .slice x3 k3 c3, .slice x6 k6 c6] 24))
  have hk6 := hwd.len_dn hnum.1.1
  clear hnum hwd
  have hrf := rf_eq WA7.out WD7.out
  go_upto_region 11 with fail
  generalize w7.alloc (.cells #[.bool r7, .slice x3 k3 c3, .slice x6 k6 c6] 24) = w8 at *
  generalize w7.heap.size = b8 at *
  have c8 := rForm_c (w := w8) (s := r7) (⟨WA7.out.rd, WA7.out.lm, WA7.out.cap, WA7.out.nil, WD7.out.rd, WD7.out.lm, WD7.out.cap, WD7.out.nil⟩ : Rw _ x3 k3 c3 f3 x6 k6 c6 f6) (by omega) (by omega)
  rw [hrf] at c8
  clear hrf
  by_cases hg : 0 < dn (bsh b (i + 1)) (L - (i + 1)) ∧ u.natAbs.gcd (dn (bsh b (i + 1)) (L - (i + 1))) = 1
  · rw [show (decide (0 < dn (bsh b (i + 1)) (L - (i + 1))) && decide (u.natAbs.gcd (dn (bsh b (i + 1)) (L - (i + 1))) = 1)) = true by simp [hg.1, hg.2]] at c8
    have C8 := hid c8
    have RN := hid (rn_made (L := 2000) WA7.out WD7.out hg.1 hg.2 (by omega) (by omega))
    have YES := hid (rt_yes HI.out HWh.out HNm.out hg)
    clear c8 hg
    obtain ⟨zr, r0, r1, r2⟩ := BR7.out
    go_wp2_with fail
    refine C8.out.mono ?_
    rintro e w9 ⟨rfl, hb⟩
    have OB9 := hid (OB7.out.below hb); have HW9 := hid (HW7.out.trans (hb.mono HW7.out.size)); have RN9 := hid (RN.out.below hb); have BR9 := hid (BR7.out.below hb)
    clear hb zr r0 r1 r2
    obtain ⟨zr, r0, r1, r2⟩ := BR9.out
    obtain ⟨hz, z0, z1, z2, zf⟩ := OB9.out
    go_wp2
    exact bodyPost_ret (v := .tuple #[.agg #[.bool r7, .slice x3 k3 c3, .slice x6 k6 c6], .int .i64 0]) (by simp [results, Tryz.results70, go_sem, z0, z1, z2]) rfl ⟨r7, x3, k3, c3, f3, x6, k6, c6, f6, 0, rfl, below_st HW9.out (Nat.le_refl _), .inr (.inl ⟨by omega, ⟨_, YES.out, OB9.out.rn RN9.out⟩, rfl⟩)⟩
  · rw [show (decide (0 < dn (bsh b (i + 1)) (L - (i + 1))) && decide (u.natAbs.gcd (dn (bsh b (i + 1)) (L - (i + 1))) = 1)) = false by
      rw [Bool.and_eq_false_iff, decide_eq_false_iff_not, decide_eq_false_iff_not]
      by_cases h : 0 < dn (bsh b (i + 1)) (L - (i + 1))
      · exact .inr (fun k => hg ⟨h, k⟩)
      · exact .inl h] at c8
    have C8 := hid c8
    have NO := hid (rt_no3 HI.out HWh.out hg)
    clear c8 hg
    obtain ⟨zr, r0, r1, r2⟩ := BR7.out
    go_wp2_with fail
    refine C8.out.mono ?_
    rintro e w9 ⟨rfl, hb⟩
    have OB9 := hid (OB7.out.below hb); have HW9 := hid (HW7.out.trans (hb.mono HW7.out.size))
    clear hb zr r0 r1 r2
    obtain ⟨hz, z0, z1, z2, zf⟩ := OB9.out
    go_wp2
    exact bodyPost_ret (v := .tuple #[.agg #[.bool false, .slice none 0 0, .slice none 0 0], .int .i64 11]) (by simp [results, Tryz.results70, go_sem, z0, z1, z2]) rfl ⟨false, none, 0, 0, fun _ => 0, none, 0, 0, fun _ => 0, 11, rfl, below_st HW9.out (Nat.le_refl _), .inr (.inr ⟨by omega, NO.out, rfl, rfl, rfl, rfl⟩)⟩

set_option maxRecDepth 100000 in
set_option maxHeartbeats 8000000 in
theorem rReadNone_c (t : ByteArray) (L : Nat) (b : Nat → Nat) (w : World) (hs : Sb t L b) (hL : L ≤ 1000) (hi : NoBar b L) :
    Calls Tryz.prog 70 #[.string t] w fun e w' => ∃ s x n c f y m d g er, e = .returned (.tuple #[.agg #[.bool s, .slice x n c, .slice y m d], .int .i64 er]) ∧ Below w.heap.size w w' ∧ RRead b L w' s x n c f y m d g er := by
  have h3 := ob_new w 24
  have h4 := below_alloc (Below.refl w.heap.size w) (.cells #[.bool false, .slice none 0 0, .slice none 0 0] 24)
  have hsz := hs.1
  have hd : decide ((1048576 : Int) < (t.size : Int)) = false := by simp; omega
  have S1 := hid hs
  have CUT := hid (fun W => cutNone_c hs (by omega) hi W)
  have HI := hid hi
  clear hs hi hsz
  go_enter Tryz.func70, Tryz.ntmps70
  go_wp2_with fail
  generalize w.alloc (.cells #[.bool false, .slice none 0 0, .slice none 0 0] 24) = w1 at *
  have OB1 := hid h3; have HW1 := hid h4
  clear h3 h4
  refine (CUT.out _).mono ?_
  rintro e w2 ⟨rfl, hb⟩
  have OB2 := hid (OB1.out.below hb); have HW2 := hid (HW1.out.trans (hb.mono HW1.out.size))
  clear hb OB1 HW1 CUT hd
  go_wp2_with fail
  refine (wRead_c t L b _ S1.out (by omega)).mono ?_
  rintro e w3 ⟨s3, x3, k3, c3, f3, er, rfl, hr, hans⟩
  have hb := hr.res.bel
  have WA3 := hid ((hr.wn rfl).alloc (.cells #[.bool s3, .slice x3 k3 c3] 102)); have OB3 := hid ((OB2.out.below hb).alloc (.cells #[.bool s3, .slice x3 k3 c3] 102)); have HW3 := hid (below_alloc (HW2.out.trans (hb.mono HW2.out.size)) (.cells #[.bool s3, .slice x3 k3 c3] 102))
  have BA3 : Hid (Bx (w3.alloc (.cells #[.bool s3, .slice x3 k3 c3] 102)) w3.heap.size s3 x3 k3 c3) := ⟨by simp, kN0, kN1⟩
  have hcs := wread_cases hans (by omega)
  clear hb hr hans OB2 HW2
  rcases hcs with ⟨rfl, hwh⟩ | ⟨rfl, hno⟩
  rotate_left
  · have NO := hid (rt_no4 HI.out hno)
    clear hno
    go_upto_region 5 with fail
    generalize w3.alloc (.cells #[.bool s3, .slice x3 k3 c3] 102) = w4 at *
    generalize w3.heap.size = b3 at *
    obtain ⟨hz, z0, z1, z2, zf⟩ := OB3.out
    go_wp2
    exact bodyPost_ret (v := .tuple #[.agg #[.bool false, .slice none 0 0, .slice none 0 0], .int .i64 11]) (by simp [results, Tryz.results70, go_sem, z0, z1, z2]) rfl ⟨false, none, 0, 0, fun _ => 0, none, 0, 0, fun _ => 0, 11, rfl, below_st HW3.out (Nat.le_refl _), .inr (.inr ⟨by omega, NO.out, rfl, rfl, rfl, rfl⟩)⟩
  have HWh := hid hwh
  have hk3 := isWh_len WA3.out hwh
  clear hwh
  generalize wv s3 f3 k3 = u at *
  go_wp2_with fail
  generalize w3.alloc (.cells #[.bool s3, .slice x3 k3 c3] 102) = w4 at *
  generalize w3.heap.size = b3 at *
  refine (ratOne_c _).mono ?_
  rintro e w5 ⟨x5, f5, rfl, hb, hone⟩
  have OB5 := hid (OB3.out.below hb); have HW5 := hid (HW3.out.trans (hb.mono HW3.out.size)); have BA5 := hid (BA3.out.below hb); have WA5 := hid (WA3.out.below hb); have WD5 := hid hone
  clear hb OB3 HW3 BA3 WA3 hone
  obtain ⟨za, a0, a1⟩ := BA5.out
  go_wp2_with fail
  refine (rsigned_c s3 x3 x5 k3 c3 1 1 _ (by omega)).mono ?_
  rintro e w7 ⟨r7, rfl, HR7, hb⟩
  obtain rfl := sgn_same WA5.out HR7.out
  have OB7 := hid ((OB5.out.below hb).alloc (.cells #[.bool r7, .slice x3 k3 c3, .slice x5 1 1] 24)); have HW7 := hid (below_alloc (HW5.out.trans (hb.mono HW5.out.size)) (.cells #[.bool r7, .slice x3 k3 c3, .slice x5 1 1] 24)); have WA7 := hid ((WA5.out.below hb).alloc (.cells #[.bool r7, .slice x3 k3 c3, .slice x5 1 1] 24)); have WD7 := hid ((WD5.out.below hb).alloc (.cells #[.bool r7, .slice x3 k3 c3, .slice x5 1 1] 24))
  have BR7 := hid (bx3_at w7 (.bool r7) (.slice x3 k3 c3) (.slice x5 1 1) 24)
  clear hb OB5 HW5 BA5 WA5 WD5 za a0 a1
  have hrf : rfB r7 f3 k3 f5 1 = true := by
    rw [rf_eq (D := 1) WA7.out WD7.out]; simp
  go_upto_region 11 with fail
  generalize w7.alloc (.cells #[.bool r7, .slice x3 k3 c3, .slice x5 1 1] 24) = w8 at *
  generalize w7.heap.size = b8 at *
  have c8 := rForm_c (w := w8) (s := r7) (⟨WA7.out.rd, WA7.out.lm, WA7.out.cap, WA7.out.nil, WD7.out.rd, WD7.out.lm, WD7.out.cap, WD7.out.nil⟩ : Rw _ x3 k3 c3 f3 x5 1 1 f5) (by omega) (by omega)
  rw [hrf] at c8
  have C8 := hid c8
  have RN := hid (rn_whole (L := 2000) WA7.out WD7.out (by omega) (by omega))
  have YES : Hid (RT b L (u : Rat)) := .inr ⟨u, HI.out, HWh.out, rfl⟩
  clear hrf c8
  obtain ⟨zr, r0, r1, r2⟩ := BR7.out
  go_wp2_with fail
  refine C8.out.mono ?_
  rintro e w9 ⟨rfl, hb⟩
  have OB9 := hid (OB7.out.below hb); have HW9 := hid (HW7.out.trans (hb.mono HW7.out.size)); have RN9 := hid (RN.out.below hb); have BR9 := hid (BR7.out.below hb)
  clear hb zr r0 r1 r2
  obtain ⟨zr, r0, r1, r2⟩ := BR9.out
  obtain ⟨hz, z0, z1, z2, zf⟩ := OB9.out
  go_wp2
  exact bodyPost_ret (v := .tuple #[.agg #[.bool r7, .slice x3 k3 c3, .slice x5 1 1], .int .i64 0]) (by simp [results, Tryz.results70, go_sem, z0, z1, z2]) rfl ⟨r7, x3, k3, c3, f3, x5, 1, 1, f5, 0, rfl, below_st HW9.out (Nat.le_refl _), .inr (.inl ⟨by omega, ⟨_, YES.out, OB9.out.rn RN9.out⟩, rfl⟩)⟩

theorem rRead_g (t : ByteArray) (b : Nat → Nat) (w : World) (hs : Sb t t.size b) (hL : t.size ≤ 1000 ∨ 1048576 < t.size) :
    Calls Tryz.prog 70 #[.string t] w fun e w' => ∃ s x n c f y m d g er, e = .returned (.tuple #[.agg #[.bool s, .slice x n c, .slice y m d], .int .i64 er]) ∧ Below w.heap.size w w' ∧ RRead b t.size w' s x n c f y m d g er := by
  rcases hL with hL | hL
  · rcases bar_or b t.size with ⟨i, hi⟩ | hi
    · exact rReadBar_c t t.size b i w hs hL hi
    · exact rReadNone_c t t.size b w hs hL hi
  · exact (rReadLong_c t w hL).mono (fun _ _ ⟨h1, h2⟩ => ⟨false, none, 0, 0, fun _ => 0, none, 0, 0, fun _ => 0, 2, h1, h2, .inl ⟨hL, rfl, rfl, rfl, rfl⟩⟩)
end Go.Proofs.YtbindadjepfkcaaGreatDoor
namespace Go.Proofs.YtbindadjepfkcaaGreatDoor
open Go.RowKit

theorem zread_cases {w w' : World} {L : Nat} {b : Nat → Nat} {t : Bool} {x : Option Addr} {m : Nat} {d : Nat → Int} {ok : Bool} (h : ZRead w w' L b t x m d ok) : ok = true ∧ (∃ u, IsWh b L u ∧ Zn w' t x m d u) ∨ ok = false ∧ ∀ u, ¬ IsWh b L u := by
  obtain ⟨_, h1, _, h2, h3, _, h4, h5⟩ := h
  cases ok
  · refine .inr ⟨rfl, fun u hu => ?_⟩
    have : false = true := h4.2 (by
      rcases hu with ⟨k1, k2, _⟩ | ⟨k1, k2, _⟩
      · exact .inl ⟨k1.1, k1.2, k2.1, k2.2⟩
      · exact .inr ⟨k1, k2⟩)
    cases this
  · refine .inl ⟨rfl, ?_⟩
    have hn := h4.1 rfl
    rcases h5 rfl with ⟨k1, k2, k3, k4, k5⟩ | ⟨k1, k2, k3⟩
    · rcases hn with ⟨_, _, n1, n2⟩ | ⟨n1, _⟩
      · subst k1
        refine ⟨-(dn (bsh b 1) (L - 1) : Nat), .inl ⟨⟨k2, k3⟩, ⟨n1, n2⟩, rfl⟩, ⟨h1, h2, h3, by rw [k5]; omega⟩, ?_, fun _ => k4⟩
        show -((dn (bsh b 1) (L - 1) : Nat) : Int) = -(((-((dn (bsh b 1) (L - 1) : Nat) : Int)).natAbs : Nat) : Int)
        omega
      · exact absurd ⟨k2, k3⟩ n1
    · rcases hn with ⟨n1, n2, _⟩ | ⟨_, n1⟩
      · exact absurd ⟨n1, n2⟩ k2
      · subst k1
        refine ⟨(dn b L : Nat), .inr ⟨k2, n1, rfl⟩, ⟨h1, h2, h3, by rw [k3]; omega⟩, ?_, fun h => by cases h⟩
        show ((dn b L : Nat) : Int) = ((((dn b L : Nat) : Int).natAbs : Nat) : Int)
        omega
theorem kB3d {w B a0 a1 a2} (h : Bx3 w B a0 a1 a2) : Bx3 w.drew B a0 a1 a2 := ⟨h.z, h.x0, h.x1, h.x2⟩
theorem kB3b {w w' B a0 a1 a2} (hb : Below w.heap.size w w') (h : Bx3 w B a0 a1 a2) : Bx3 w' B a0 a1 a2 := h.below hb
theorem mk_sgn35 {r s : Bool} {k : Nat} (h : r = (s && decide (0 < k))) : r = true → 0 < k := fun e => by
  rw [e] at h
  have h2 : s = true ∧ 0 < k := by simpa using h.symm
  exact h2.2
theorem cmpD_c {w : World} {x : Option Addr} {n c : Nat} {d : Nat → Int} {A : Nat} {y : Option Addr} {m e : Nat} {g : Nat → Int} {B : Nat} (ha : Dn w x n d A) (hb : Dn w y m g B) (hn : n ≤ 100000) (hm : m ≤ 100000) :
    Calls Tryz.prog 106 #[.slice x n c, .slice y m e] w fun en w' => ∃ r, en = .returned (.int .i64 r) ∧ Below w.heap.size w w' ∧ Hid (Ord r A B) :=
  (rcmp_c x y n m c e d g w (by omega) (by omega) ha.rd hb.rd ha.dg hb.dg ha.fm hb.fm).mono (fun _ _ ⟨⟨q, h1⟩, r, h2, h3⟩ => ⟨r, h2, by rw [h1]; exact below_drewN (Below.refl _ _) q, by rw [ha.val, hb.val] at h3; exact h3⟩)

set_option maxRecDepth 100000 in
set_option maxHeartbeats 4000000 in
theorem qZero_c {w : World} : Calls Tryz.prog 53 #[] w fun e w' => ∃ s x n c y m c', e = .returned (.agg #[.bool s, .slice x n c, .slice y m c']) ∧ Below w.heap.size w w' := by
  have h2 := ob_new w 70
  have h3 := below_alloc (Below.refl w.heap.size w) (.cells #[.bool false, .slice none 0 0, .slice none 0 0] 70)
  go_enter Tryz.func53, Tryz.ntmps53
  go_wp2_with fail
  generalize w.alloc (.cells #[.bool false, .slice none 0 0, .slice none 0 0] 70) = w1 at *
  have OB := hid h2; have HW := hid h3
  clear h2 h3
  refine (qInt_c (z := 0) (by decide) (by decide)).mono ?_
  rintro e w2 ⟨s2, x2, n2, c2, d2, y2, m2, e2, g2, rfl, hb, _, _, _⟩
  have HB := hid (HW.out.trans (hb.mono HW.out.size))
  obtain ⟨hz, z0, z1, z2, zf⟩ := OB.out.below hb
  clear hb
  go_wp2
  exact bodyPost_ret (v := .agg #[.bool s2, .slice x2 n2 c2, .slice y2 m2 e2]) (by simp [results, Tryz.results53, go_sem, z0, z1, z2]) rfl ⟨s2, x2, n2, c2, y2, m2, e2, rfl, below_st HB.out (Nat.le_refl _)⟩

/-- What Read answers. -/
def QRead (b : Nat → Nat) (L : Nat) (w' : World) (s : Bool) (x : Option Addr) (n : Nat) (d : Nat → Int) (y : Option Addr) (m : Nat) (g : Nat → Int) (ok : Bool) : Prop :=
  ok = true ∧ (∃ q, RT b L q ∧ Qn w' s x n d y m g q) ∧ n + m ≤ 2000 ∨ ok = false ∧ ∀ q, ¬ RT b L q
theorem qn_made {w s x n d u y m g} {D : Nat} (ha : Zn w s x n d u) (hb : Dn w y m g D) (h0 : 0 < D) (hg : u.natAbs.gcd D = 1) : Qn w s x n d y m g ((u : Rat) / (((D : Nat) : Int) : Rat)) := by
  have e0 : ((D : Nat) : Int).natAbs = D := by omega
  obtain ⟨e1, e2⟩ := make_made (u := u) (v := ((D : Nat) : Int)) (s := s) (t := false) ha.sgn (by show ((D : Nat) : Int) = (((D : Nat) : Int).natAbs : Int); omega) (by omega)
  rw [e0, hg, Nat.div_one] at e1 e2
  refine ⟨?_, ?_⟩
  · have e3 : (s != false) = s := by cases s <;> rfl
    rw [e1, e3, ← ha.sgn]; exact ha
  · rw [e2]; exact hb
theorem div_gcd_one {u B : Nat} (hB : 0 < B) : B / u.gcd B = B ↔ u.gcd B = 1 := by
  have h1 := Nat.div_mul_cancel (Nat.gcd_dvd_right u B)
  have h2 : 0 < u.gcd B := Nat.gcd_pos_of_pos_right _ hB
  constructor
  · intro h
    rw [h] at h1
    have : B * u.gcd B = B * 1 := by omega
    exact Nat.eq_of_mul_eq_mul_left hB this
  · intro h; rw [h, Nat.div_one]

set_option maxRecDepth 100000 in
set_option maxHeartbeats 16000000 in
theorem qRead_c (t : ByteArray) (b : Nat → Nat) (w : World) (hs : Sb t t.size b) (hL : t.size ≤ 1000) :
    Calls Tryz.prog 104 #[.string t] w fun e w' => ∃ s x n c d y m c' g ok, e = .returned (.tuple #[.agg #[.bool s, .slice x n c, .slice y m c'], .bool ok]) ∧ Below w.heap.size w w' ∧ QRead b t.size w' s x n d y m g ok := by
  have OB1 := hid (ob_new w 70)
  have HW1 := hid (below_alloc (Below.refl w.heap.size w) (.cells #[.bool false, .slice none 0 0, .slice none 0 0] 70))
  have HSb := hid hs
  have HB := hid hs.2
  clear hs
  go_enter Tryz.func104, Tryz.ntmps104
  go_upto_region 1 with fail
  generalize w.alloc (.cells #[.bool false, .slice none 0 0, .slice none 0 0] 70) = w1 at *
  go_wp2
  go_loop [4] (fun v => ∃ (k : Nat), k ≤ t.size ∧ v = .int .i64 k ∧ Hid (NoBar b k)) (fun v => t.size - (intOf v).toNat)
  case atStart => exact ⟨0, by omega, rfl, fun j hj => by omega⟩
  case round =>
    obtain ⟨k, hk, rfl, HN⟩ := hrel
    by_cases hlt : k < t.size
    · obtain ⟨x, hx⟩ : ∃ x, b k = x := ⟨_, rfl⟩
      have hc : (t[k]'hlt).toNat = x := by rw [HB.out k hlt, hx]
      by_cases h47 : x = 47
      · have HBar : Hid (Bar b t.size k) := ⟨hlt, by rw [hx]; exact h47, HN.out⟩
        have hxb : ((x : Int) != 47) = false := by simp; omega
        clear hx h47
        have S1 := hid (HSb.out.take (c := k) (by omega))
        go_wp2_with fail
        refine (zRead_c (t.extract 0 k) k b _ S1.out (by omega)).mono ?_
        rintro e w2 ⟨s2, x2, m2, c2, d2, ok2, rfl, hzr⟩
        have hb := hzr.1
        have hm2 : m2 ≤ k := hzr.2.2.1
        have hcs := zread_cases hzr
        have OB3 := hid ((OB1.out.below hb).alloc (.cells #[.bool s2, .slice x2 m2 c2] 68)); have HW3 := hid (below_alloc (HW1.out.trans (hb.mono HW1.out.size)) (.cells #[.bool s2, .slice x2 m2 c2] 68))
        have BZ3 : Hid (Bx (w2.alloc (.cells #[.bool s2, .slice x2 m2 c2] 68)) w2.heap.size s2 x2 m2 c2) := ⟨by simp, kN0, kN1⟩
        have hzb : w.heap.size < w2.heap.size := (OB1.out.below hb).z
        clear hzr hb
        rcases hcs with ⟨rfl, u, hwh, hzn⟩ | ⟨rfl, hno⟩
        rotate_left
        · have NO := hid (rt_no1 HBar.out hno)
          clear hno
          go_upto_region 5 with fail
          generalize w2.alloc (.cells #[.bool s2, .slice x2 m2 c2] 68) = w3 at *
          generalize w2.heap.size = b3 at *
          obtain ⟨za, a0, a1⟩ := BZ3.out
          obtain ⟨hz, z0, z1, z2, zf⟩ := OB3.out
          have C1 : Hid (∀ W : World, Calls Tryz.prog 111 #[.int .u64 1] W fun e w' => ∃ z k cap d, e = .returned (.slice z k cap) ∧ Below W.heap.size W w' ∧ Hid (k ≤ 1 ∧ Dn w' z k d 1)) := fun W => dWord_c (V := 1) (by decide)
          go_wp2_with fail
          go_region_held3 (fun w' => w'.cell? ⟨b3, 0, none⟩ = some (.bool s2) ∧ w'.cell? ⟨b3, 1, none⟩ = some (.slice x2 m2 c2) ∧ (w'.cell? ⟨w.heap.size, 0, none⟩).isSome = true ∧ (w'.cell? ⟨w.heap.size, 1, none⟩).isSome = true ∧ (w'.cell? ⟨w.heap.size, 2, none⟩).isSome = true ∧ w'.frozen? ⟨w.heap.size, 0, none⟩ = false ∧ w'.frozen? ⟨w.heap.size, 1, none⟩ = false ∧ w'.frozen? ⟨w.heap.size, 2, none⟩ = false)
            (refine ⟨?_, ?_, ?_, ?_, ?_, ?_, ?_, ?_⟩ <;> repeat (with_reducible first | assumption | exact zf _ | exact tf _ | exact uf _ | exact vf' _ | exact kI0 z0 | exact kI0 z1 | exact kI0 z2 | exact kI0 t0 | exact kI0 t1 | exact kI0 t2 | exact kI0 u0 | exact kI0 u1 | exact kI0 u2 | exact kI0 v0 | exact kI0 v1 | exact kI0 v2 | refine kCd ?_ | refine kId ?_ | refine kFd ?_ | refine kCs (by simp only [ne_eq]; omega) ?_ | refine kIs ?_ | refine kFs ?_ | refine kCb (by assumption) ?_ | refine kIb (by assumption) ?_))
            (first | (go_at_call 111; with_reducible refine (C1.out _).mono ?_; rintro e w5 ⟨zb, kb, cb, db, rfl, hb5, HP⟩; have Tt : Ob w5 w.heap.size := (by repeat (with_reducible first | exact OB3.out | exact Tt | exact Tu | exact Tv | refine Ob.drew ?_ | refine kOb (by assumption) ?_)); obtain ⟨_, t0, t1, t2, tf⟩ := id Tt))
          all_goals
            have hb : Below w3.heap.size w3 w5 := (by repeat (with_reducible first | assumption | exact Below.refl _ _ | refine Below.drew ?_ | refine kBb (by assumption) ?_))
            have hkb := HP.out.1
            go_wp2
            exact bodyPost_ret (v := .tuple #[.agg #[.bool s2, .slice x2 m2 c2, .slice zb kb cb], .bool false]) (by simp [results, Tryz.results104, go_sem, t0, t1, t2]) rfl ⟨s2, x2, m2, c2, d2, zb, kb, cb, db, false, rfl, below_st (HW3.out.trans (hb.mono HW3.out.size)) (by omega), .inr ⟨rfl, NO.out⟩⟩
        have HWh := hid hwh
        have ZN3 := hid (hzn.alloc (.cells #[.bool s2, .slice x2 m2 c2] 68))
        clear hwh hzn
        go_upto_region 5 with fail
        generalize w2.alloc (.cells #[.bool s2, .slice x2 m2 c2] 68) = w3 at *
        generalize w2.heap.size = b3 at *
        have hkn : ((k : Int) == (t.size : Int)) = false := by simp; omega
        have S2 := hid (HSb.out.drop (c := k + 1) (by omega))
        go_wp2_with fail
        refine (rread_c (t.extract (k + 1) t.size) (t.size - (k + 1)) (bsh b (k + 1)) _ S2.out (by omega)).mono ?_
        rintro e w4 ⟨x4, k4, c4, D4, rfl, hans⟩
        have hb := hans.1
        have hk4 : k4 ≤ t.size - (k + 1) := hans.2.2.1
        have OB4 := hid (OB3.out.below hb); have HW4 := hid (HW3.out.trans (hb.mono HW3.out.size)); have BZ4 := hid (BZ3.out.below hb); have ZN4 := hid (ZN3.out.below hb); have HA4 := hid hans
        clear hb hans OB3 HW3 BZ3 ZN3
        cases hR : numB (bsh b (k + 1)) (t.size - (k + 1))
        · have hnn : ¬ IsNum (bsh b (k + 1)) (t.size - (k + 1)) := fun h => by rw [numB_true h] at hR; cases hR
          have NO := hid (rt_no2 HBar.out (fun h => hnn h.1))
          go_wp2_with fail
          refine qZero_c.mono ?_
          rintro e w6 ⟨s6, x6, n6, c6, y6, m6, e6, rfl, hb⟩
          have HW6 := hid (HW4.out.trans (hb.mono HW4.out.size))
          obtain ⟨hz, z0, z1, z2, zf⟩ := OB4.out.below hb
          clear hb
          go_wp2
          exact bodyPost_ret (v := .tuple #[.agg #[.bool s6, .slice x6 n6 c6, .slice y6 m6 e6], .bool false]) (by simp [results, Tryz.results104, go_sem, z0, z1, z2]) rfl ⟨s6, x6, n6, c6, fun _ => 0, y6, m6, e6, fun _ => 0, false, rfl, below_st HW6.out (Nat.le_refl _), .inr ⟨rfl, NO.out⟩⟩
        have hnum : IsNum (bsh b (k + 1)) (t.size - (k + 1)) := (numB_iff _ _).1 hR
        obtain ⟨B, hBe⟩ : ∃ B, dn (bsh b (k + 1)) (t.size - (k + 1)) = B := ⟨_, rfl⟩
        have hdn : Dn w4 x4 k4 D4 B := ⟨HA4.out.2.1, HA4.out.2.2.2.1, HA4.out.2.2.2.2.1, by rw [HA4.out.2.2.2.2.2.1 hR, hBe]⟩
        by_cases h0 : k4 = 0
        · have hB0 : B = 0 := by rw [h0] at hdn; exact hdn.zero
          have hl0 : ((k4 : Int) == 0) = true := by simp; omega
          have hng : ¬ (IsNum (bsh b (k + 1)) (t.size - (k + 1)) ∧ 0 < dn (bsh b (k + 1)) (t.size - (k + 1))) := fun h => by rw [hBe] at h; omega
          clear hBe hdn hB0
          have NO := hid (rt_no3 HBar.out HWh.out (fun h => hng ⟨hnum, h.1⟩))
          go_wp2_with fail
          refine qZero_c.mono ?_
          rintro e w6 ⟨s6, x6, n6, c6, y6, m6, e6, rfl, hb⟩
          have HW6 := hid (HW4.out.trans (hb.mono HW4.out.size))
          obtain ⟨hz, z0, z1, z2, zf⟩ := OB4.out.below hb
          clear hb
          go_wp2
          exact bodyPost_ret (v := .tuple #[.agg #[.bool s6, .slice x6 n6 c6, .slice y6 m6 e6], .bool false]) (by simp [results, Tryz.results104, go_sem, z0, z1, z2]) rfl ⟨s6, x6, n6, c6, fun _ => 0, y6, m6, e6, fun _ => 0, false, rfl, below_st HW6.out (Nat.le_refl _), .inr ⟨rfl, NO.out⟩⟩
        have hl0 : ((k4 : Int) == 0) = false := by simp; omega
        have hBp := hdn.pos' (by omega)
        have HNm := hid hnum; have HBe := hid hBe; have HBp := hid hBp; have DN4 := hid hdn
        clear hnum hBe hBp hdn hR HA4
        obtain ⟨za, a0, a1⟩ := BZ4.out
        go_wp2_with fail
        refine (mkQ_c (s := s2) (c := c2) (e := c4) ZN4.out.dn DN4.out ZN4.out.pos (by omega) (by omega) HBp.out).mono ?_
        rintro e w5 ⟨r5, z5, k5, c5, d5, z6, k6, c6, d6, rfl, hb, hk5, hk6, hr5, hd5, hd6⟩
        have OB6 := hid ((OB4.out.below hb).alloc (.cells #[.bool r5, .slice z5 k5 c5, .slice z6 k6 c6] 70)); have HW6 := hid (below_alloc (HW4.out.trans (hb.mono HW4.out.size)) (.cells #[.bool r5, .slice z5 k5 c5, .slice z6 k6 c6] 70)); have BQ6 := hid (bx3_at w5 (.bool r5) (.slice z5 k5 c5) (.slice z6 k6 c6) 70); have E6 := hid ((DN4.out.below hb).alloc (.cells #[.bool r5, .slice z5 k5 c5, .slice z6 k6 c6] 70)); have D5 := hid (hd5.alloc (.cells #[.bool r5, .slice z5 k5 c5, .slice z6 k6 c6] 70)); have D6 := hid (hd6.alloc (.cells #[.bool r5, .slice z5 k5 c5, .slice z6 k6 c6] 70))
        have HR5 := hid hr5; have hzq6 : w.heap.size < w5.heap.size := (OB4.out.below hb).z
        have ZN5 := hid ZN4.out.sgn
        clear hb hr5 hd5 hd6 za a0 a1 OB4 HW4 BZ4 DN4
        go_upto_region 11 with fail
        generalize w5.alloc (.cells #[.bool r5, .slice z5 k5 c5, .slice z6 k6 c6] 70) = w6 at *
        generalize w5.heap.size = b6 at *
        by_cases hg : u.natAbs.gcd B = 1
        · have HGy := hid ((div_gcd_one (u := u.natAbs) HBp.out).2 hg)
          by_cases hB1 : 1 < B
          · have HB1 := hid hB1
            have YES := hid (rt_yes HBar.out HWh.out ⟨HNm.out, by rw [HBe.out]; omega⟩ (by rw [HBe.out]; exact ⟨HBp.out, hg⟩))
            have QN6 : Hid (Qn w6 r5 z5 k5 d5 z6 k6 d6 ((u : Rat) / (((dn (bsh b (k + 1)) (t.size - (k + 1)) : Nat) : Int) : Rat))) := by
              rw [HBe.out]
              have h1 := D5.out; have h2 := D6.out
              rw [hg, Nat.div_one] at h1 h2
              have hpos : r5 = true → 0 < k5 := mk_sgn35 HR5.out
              have hsg : u = sg r5 u.natAbs := by
                rcases Nat.eq_zero_or_pos u.natAbs with h | h
                · have : u = 0 := by omega
                  subst this; cases r5 <;> rfl
                · have : 0 < k5 := h1.pos h
                  rw [HR5.out, decide_eq_true this, Bool.and_true]; exact ZN5.out
              exact qn_made ⟨h1, hsg, hpos⟩ h2 HBp.out hg
            clear hg hB1
            have CM : Hid (∀ W, Below w6.heap.size w6 W → Calls Tryz.prog 106 #[.slice z6 k6 c6, .slice x4 k4 c4] W fun e w' => e = .returned (.int .i64 0) ∧ Below W.heap.size W w') := fun W hW => (cmpD_c (D6.out.below hW) (E6.out.below hW) (by omega) (by omega)).mono (fun _ _ ⟨c, h1, h2, h3⟩ => ⟨by
              have := HGy.out
              rcases h3.out with ⟨_, h⟩ | ⟨h, _⟩ | ⟨_, h⟩
              · omega
              · rw [h1, h]
              · omega, h2⟩)
            have C1 : Hid (∀ W : World, Calls Tryz.prog 111 #[.int .u64 1] W fun e w' => ∃ z k cap d, e = .returned (.slice z k cap) ∧ Below W.heap.size W w' ∧ Hid (k ≤ 1 ∧ Dn w' z k d 1)) := fun W => dWord_c (V := 1) (by decide)
            have CN : Hid (∀ (W : World) (z : Option Addr) (k c : Nat) (d : Nat → Int), k ≤ 1 → Dn W x4 k4 D4 B → Dn W z k d 1 → Calls Tryz.prog 106 #[.slice x4 k4 c4, .slice z k c] W fun e w' => e = .returned (.int .i64 1) ∧ Below W.heap.size W w') := fun W z k c d hk h1 h2 => (cmpD_c h1 h2 (by omega) (by omega)).mono (fun _ _ ⟨c, h1, h2, h3⟩ => ⟨by
              have := HB1.out; have := HBp.out
              rcases h3.out with ⟨_, h⟩ | ⟨h0, h⟩ | ⟨h0, h⟩
              · omega
              · first | omega | rw [h1, h0]
              · first | omega | rw [h1, h0], h2⟩)
            obtain ⟨zq, q0, q1, q2⟩ := BQ6.out
            obtain ⟨hz, z0, z1, z2, zf⟩ := OB6.out
            have OB3 := OB6
            go_region_held3 (fun w' => w'.cell? ⟨b6, 0, none⟩ = some (.bool r5) ∧ w'.cell? ⟨b6, 1, none⟩ = some (.slice z5 k5 c5) ∧ w'.cell? ⟨b6, 2, none⟩ = some (.slice z6 k6 c6) ∧ (w'.cell? ⟨w.heap.size, 0, none⟩).isSome = true ∧ (w'.cell? ⟨w.heap.size, 1, none⟩).isSome = true ∧ (w'.cell? ⟨w.heap.size, 2, none⟩).isSome = true ∧ w'.frozen? ⟨w.heap.size, 0, none⟩ = false ∧ w'.frozen? ⟨w.heap.size, 1, none⟩ = false ∧ w'.frozen? ⟨w.heap.size, 2, none⟩ = false)
              (refine ⟨?_, ?_, ?_, ?_, ?_, ?_, ?_, ?_, ?_⟩ <;> repeat (with_reducible first | assumption | exact zf _ | exact tf _ | exact uf _ | exact vf' _ | exact kI0 z0 | exact kI0 z1 | exact kI0 z2 | exact kI0 t0 | exact kI0 t1 | exact kI0 t2 | exact kI0 u0 | exact kI0 u1 | exact kI0 u2 | exact kI0 v0 | exact kI0 v1 | exact kI0 v2 | refine kCd ?_ | refine kId ?_ | refine kFd ?_ | refine kCs (by simp only [ne_eq]; omega) ?_ | refine kIs ?_ | refine kFs ?_ | refine kCb (by assumption) ?_ | refine kIb (by assumption) ?_))
              (first
                | (go_at_call 106; with_reducible refine (CM.out _ (by repeat (with_reducible first | assumption | exact Below.refl _ _ | refine Below.drew ?_ | refine kBb (by assumption) ?_))).mono ?_; rintro e v7 ⟨rfl, hb7⟩; have Tt : Ob v7 w.heap.size := (by repeat (with_reducible first | exact OB3.out | exact Tt | exact Tu | exact Tv | refine Ob.drew ?_ | refine kOb (by assumption) ?_)); obtain ⟨_, t0, t1, t2, tf⟩ := id Tt)
                | (go_at_call 111; with_reducible refine (C1.out _).mono ?_; rintro e v8 ⟨z8, k8, c8, d8, rfl, hb8, H8⟩; have Tu : Ob v8 w.heap.size := (by repeat (with_reducible first | exact OB3.out | exact Tt | exact Tu | exact Tv | refine Ob.drew ?_ | refine kOb (by assumption) ?_)); obtain ⟨_, u0, u1, u2, uf⟩ := id Tu)
                | (go_at_call 106; with_reducible refine (CN.out _ z8 k8 c8 d8 H8.out.1 (by repeat (with_reducible first | exact E6.out | refine Dn.drew ?_ | refine kDb (by assumption) ?_)) (by repeat (with_reducible first | exact H8.out.2 | refine Dn.drew ?_ | refine kDb (by assumption) ?_))).mono ?_; rintro e v9 ⟨rfl, hb9⟩; have Tv : Ob v9 w.heap.size := (by repeat (with_reducible first | exact OB3.out | exact Tt | exact Tu | exact Tv | refine Ob.drew ?_ | refine kOb (by assumption) ?_)); obtain ⟨_, v0, v1, v2, vf'⟩ := id Tv))
            all_goals
              have hb : Below w6.heap.size w6 v9 := (by repeat (with_reducible first | assumption | exact Below.refl _ _ | refine Below.drew ?_ | refine kBb (by assumption) ?_))
              go_wp2
              exact bodyPost_ret (v := .tuple #[.agg #[.bool r5, .slice z5 k5 c5, .slice z6 k6 c6], .bool true]) (by simp [results, Tryz.results104, go_sem, v0, v1, v2]) rfl ⟨r5, z5, k5, c5, d5, z6, k6, c6, d6, true, rfl, below_st (HW6.out.trans (hb.mono HW6.out.size)) (by omega), .inl ⟨rfl, ⟨_, YES.out, Tv.qn (QN6.out.below hb)⟩, by omega⟩⟩
          · have HB1 := hid hB1
            have NO := hid (rt_no2 HBar.out (fun h => by rw [HBe.out] at h; have := HBp.out; omega))
            clear hg hB1
            have CM : Hid (∀ W, Below w6.heap.size w6 W → Calls Tryz.prog 106 #[.slice z6 k6 c6, .slice x4 k4 c4] W fun e w' => e = .returned (.int .i64 0) ∧ Below W.heap.size W w') := fun W hW => (cmpD_c (D6.out.below hW) (E6.out.below hW) (by omega) (by omega)).mono (fun _ _ ⟨c, h1, h2, h3⟩ => ⟨by
              have := HGy.out
              rcases h3.out with ⟨_, h⟩ | ⟨h, _⟩ | ⟨_, h⟩
              · omega
              · rw [h1, h]
              · omega, h2⟩)
            have C1 : Hid (∀ W : World, Calls Tryz.prog 111 #[.int .u64 1] W fun e w' => ∃ z k cap d, e = .returned (.slice z k cap) ∧ Below W.heap.size W w' ∧ Hid (k ≤ 1 ∧ Dn w' z k d 1)) := fun W => dWord_c (V := 1) (by decide)
            have CN : Hid (∀ (W : World) (z : Option Addr) (k c : Nat) (d : Nat → Int), k ≤ 1 → Dn W x4 k4 D4 B → Dn W z k d 1 → Calls Tryz.prog 106 #[.slice x4 k4 c4, .slice z k c] W fun e w' => e = .returned (.int .i64 0) ∧ Below W.heap.size W w') := fun W z k c d hk h1 h2 => (cmpD_c h1 h2 (by omega) (by omega)).mono (fun _ _ ⟨c, h1, h2, h3⟩ => ⟨by
              have := HB1.out; have := HBp.out
              rcases h3.out with ⟨_, h⟩ | ⟨h0, h⟩ | ⟨h0, h⟩
              · omega
              · first | omega | rw [h1, h0]
              · first | omega | rw [h1, h0], h2⟩)
            obtain ⟨zq, q0, q1, q2⟩ := BQ6.out
            obtain ⟨hz, z0, z1, z2, zf⟩ := OB6.out
            have OB3 := OB6
            go_region_held3 (fun w' => w'.cell? ⟨b6, 0, none⟩ = some (.bool r5) ∧ w'.cell? ⟨b6, 1, none⟩ = some (.slice z5 k5 c5) ∧ w'.cell? ⟨b6, 2, none⟩ = some (.slice z6 k6 c6) ∧ (w'.cell? ⟨w.heap.size, 0, none⟩).isSome = true ∧ (w'.cell? ⟨w.heap.size, 1, none⟩).isSome = true ∧ (w'.cell? ⟨w.heap.size, 2, none⟩).isSome = true ∧ w'.frozen? ⟨w.heap.size, 0, none⟩ = false ∧ w'.frozen? ⟨w.heap.size, 1, none⟩ = false ∧ w'.frozen? ⟨w.heap.size, 2, none⟩ = false)
              (refine ⟨?_, ?_, ?_, ?_, ?_, ?_, ?_, ?_, ?_⟩ <;> repeat (with_reducible first | assumption | exact zf _ | exact tf _ | exact uf _ | exact vf' _ | exact kI0 z0 | exact kI0 z1 | exact kI0 z2 | exact kI0 t0 | exact kI0 t1 | exact kI0 t2 | exact kI0 u0 | exact kI0 u1 | exact kI0 u2 | exact kI0 v0 | exact kI0 v1 | exact kI0 v2 | refine kCd ?_ | refine kId ?_ | refine kFd ?_ | refine kCs (by simp only [ne_eq]; omega) ?_ | refine kIs ?_ | refine kFs ?_ | refine kCb (by assumption) ?_ | refine kIb (by assumption) ?_))
              (first
                | (go_at_call 106; with_reducible refine (CM.out _ (by repeat (with_reducible first | assumption | exact Below.refl _ _ | refine Below.drew ?_ | refine kBb (by assumption) ?_))).mono ?_; rintro e v7 ⟨rfl, hb7⟩; have Tt : Ob v7 w.heap.size := (by repeat (with_reducible first | exact OB3.out | exact Tt | exact Tu | exact Tv | refine Ob.drew ?_ | refine kOb (by assumption) ?_)); obtain ⟨_, t0, t1, t2, tf⟩ := id Tt)
                | (go_at_call 111; with_reducible refine (C1.out _).mono ?_; rintro e v8 ⟨z8, k8, c8, d8, rfl, hb8, H8⟩; have Tu : Ob v8 w.heap.size := (by repeat (with_reducible first | exact OB3.out | exact Tt | exact Tu | exact Tv | refine Ob.drew ?_ | refine kOb (by assumption) ?_)); obtain ⟨_, u0, u1, u2, uf⟩ := id Tu)
                | (go_at_call 106; with_reducible refine (CN.out _ z8 k8 c8 d8 H8.out.1 (by repeat (with_reducible first | exact E6.out | refine Dn.drew ?_ | refine kDb (by assumption) ?_)) (by repeat (with_reducible first | exact H8.out.2 | refine Dn.drew ?_ | refine kDb (by assumption) ?_))).mono ?_; rintro e v9 ⟨rfl, hb9⟩; have Tv : Ob v9 w.heap.size := (by repeat (with_reducible first | exact OB3.out | exact Tt | exact Tu | exact Tv | refine Ob.drew ?_ | refine kOb (by assumption) ?_)); obtain ⟨_, v0, v1, v2, vf'⟩ := id Tv))
            all_goals
              have hb : Below w6.heap.size w6 v9 := (by repeat (with_reducible first | assumption | exact Below.refl _ _ | refine Below.drew ?_ | refine kBb (by assumption) ?_))
              go_wp2
              exact bodyPost_ret (v := .tuple #[.agg #[.bool r5, .slice z5 k5 c5, .slice z6 k6 c6], .bool false]) (by simp [results, Tryz.results104, go_sem, v0, v1, v2]) rfl ⟨r5, z5, k5, c5, d5, z6, k6, c6, d6, false, rfl, below_st (HW6.out.trans (hb.mono HW6.out.size)) (by omega), .inr ⟨rfl, NO.out⟩⟩
        · have HGn := hid (fun h => hg ((div_gcd_one (u := u.natAbs) HBp.out).1 h))
          have NO := hid (rt_no3 HBar.out HWh.out (fun h => by rw [HBe.out] at h; exact hg h.2))
          clear hg
          have CM : Hid (∀ W, Below w6.heap.size w6 W → Calls Tryz.prog 106 #[.slice z6 k6 c6, .slice x4 k4 c4] W fun e w' => e = .returned (.int .i64 (-1)) ∧ Below W.heap.size W w') := fun W hW => (cmpD_c (D6.out.below hW) (E6.out.below hW) (by omega) (by omega)).mono (fun _ _ ⟨c, h1, h2, h3⟩ => ⟨by
            have hle := Nat.div_le_self B (u.natAbs.gcd B)
            rcases h3.out with ⟨h, _⟩ | ⟨_, h⟩ | ⟨_, h⟩
            · rw [h1, h]
            · exact absurd (by omega : B / u.natAbs.gcd B = B) HGn.out
            · omega, h2⟩)
          obtain ⟨zq, q0, q1, q2⟩ := BQ6.out
          obtain ⟨hz, z0, z1, z2, zf⟩ := OB6.out
          have OB3 := OB6
          first
            | (go_region_with
                (first
                  | (go_at_call 106; with_reducible refine (CM.out _ (by repeat (with_reducible first | assumption | exact Below.refl _ _ | refine Below.drew ?_ | refine kBb (by assumption) ?_))).mono ?_; rintro e v7 ⟨rfl, hb7⟩; have Tq : Bx3 v7 b6 (.bool r5) (.slice z5 k5 c5) (.slice z6 k6 c6) := (by repeat (with_reducible first | exact BQ6.out | refine kB3d ?_ | refine kB3b (by assumption) ?_)); obtain ⟨_, y0, y1, y2⟩ := id Tq; have Tt : Ob v7 w.heap.size := (by repeat (with_reducible first | exact OB3.out | exact Tt | exact Tu | exact Tv | refine Ob.drew ?_ | refine kOb (by assumption) ?_)); obtain ⟨_, t0, t1, t2, tf⟩ := id Tt)))
            | fail
          all_goals
            have hb : Below w6.heap.size w6 v7 := (by repeat (with_reducible first | assumption | exact Below.refl _ _ | refine Below.drew ?_ | refine kBb (by assumption) ?_))
            go_wp2
            exact bodyPost_ret (v := .tuple #[.agg #[.bool r5, .slice z5 k5 c5, .slice z6 k6 c6], .bool false]) (by simp [results, Tryz.results104, go_sem, t0, t1, t2]) rfl ⟨r5, z5, k5, c5, d5, z6, k6, c6, d6, false, rfl, below_st (HW6.out.trans (hb.mono HW6.out.size)) (by omega), .inr ⟨rfl, NO.out⟩⟩
      · have hxb : ((x : Int) != 47) = true := by simp; omega
        have HX : Hid (b k ≠ 47) := by rw [hx]; exact h47
        clear hx h47
        go_wp2
        go_round
        case rel =>
          refine ⟨k + 1, by omega, by go_num, fun j hj => ?_⟩
          by_cases hjk : j = k
          · subst hjk; exact HX.out
          · exact HN.out j (by omega)
        case measure => simp [intOf]; omega
    · obtain rfl : k = t.size := by omega
      have HNo := hid HN.out
      have S1 := HSb
      go_wp2_with fail
      refine (zRead_c t t.size b _ S1.out (by omega)).mono ?_
      rintro e w2 ⟨s2, x2, m2, c2, d2, ok2, rfl, hzr⟩
      have hb := hzr.1
      have hm2 : m2 ≤ t.size := hzr.2.2.1
      have hcs := zread_cases hzr
      have OB3 := hid ((OB1.out.below hb).alloc (.cells #[.bool s2, .slice x2 m2 c2] 68)); have HW3 := hid (below_alloc (HW1.out.trans (hb.mono HW1.out.size)) (.cells #[.bool s2, .slice x2 m2 c2] 68))
      have BZ3 : Hid (Bx (w2.alloc (.cells #[.bool s2, .slice x2 m2 c2] 68)) w2.heap.size s2 x2 m2 c2) := ⟨by simp, kN0, kN1⟩
      have hzb : w.heap.size < w2.heap.size := (OB1.out.below hb).z
      clear hzr hb
      rcases hcs with ⟨rfl, u, hwh, hzn⟩ | ⟨rfl, hno⟩
      rotate_left
      · have NO := hid (rt_no4 HNo.out hno)
        clear hno
        go_upto_region 5 with fail
        generalize w2.alloc (.cells #[.bool s2, .slice x2 m2 c2] 68) = w3 at *
        generalize w2.heap.size = b3 at *
        obtain ⟨za, a0, a1⟩ := BZ3.out
        obtain ⟨hz, z0, z1, z2, zf⟩ := OB3.out
        have C1 : Hid (∀ W : World, Calls Tryz.prog 111 #[.int .u64 1] W fun e w' => ∃ z k cap d, e = .returned (.slice z k cap) ∧ Below W.heap.size W w' ∧ Hid (k ≤ 1 ∧ Dn w' z k d 1)) := fun W => dWord_c (V := 1) (by decide)
        go_wp2_with fail
        go_region_held3 (fun w' => w'.cell? ⟨b3, 0, none⟩ = some (.bool s2) ∧ w'.cell? ⟨b3, 1, none⟩ = some (.slice x2 m2 c2) ∧ (w'.cell? ⟨w.heap.size, 0, none⟩).isSome = true ∧ (w'.cell? ⟨w.heap.size, 1, none⟩).isSome = true ∧ (w'.cell? ⟨w.heap.size, 2, none⟩).isSome = true ∧ w'.frozen? ⟨w.heap.size, 0, none⟩ = false ∧ w'.frozen? ⟨w.heap.size, 1, none⟩ = false ∧ w'.frozen? ⟨w.heap.size, 2, none⟩ = false)
          (refine ⟨?_, ?_, ?_, ?_, ?_, ?_, ?_, ?_⟩ <;> repeat (with_reducible first | assumption | exact zf _ | exact tf _ | exact uf _ | exact vf' _ | exact kI0 z0 | exact kI0 z1 | exact kI0 z2 | exact kI0 t0 | exact kI0 t1 | exact kI0 t2 | exact kI0 u0 | exact kI0 u1 | exact kI0 u2 | exact kI0 v0 | exact kI0 v1 | exact kI0 v2 | refine kCd ?_ | refine kId ?_ | refine kFd ?_ | refine kCs (by simp only [ne_eq]; omega) ?_ | refine kIs ?_ | refine kFs ?_ | refine kCb (by assumption) ?_ | refine kIb (by assumption) ?_))
          (first | (go_at_call 111; with_reducible refine (C1.out _).mono ?_; rintro e w5 ⟨zb, kb, cb, db, rfl, hb5, HP⟩; have Tt : Ob w5 w.heap.size := (by repeat (with_reducible first | exact OB3.out | exact Tt | exact Tu | exact Tv | refine Ob.drew ?_ | refine kOb (by assumption) ?_)); obtain ⟨_, t0, t1, t2, tf⟩ := id Tt))
        all_goals
          have hb : Below w3.heap.size w3 w5 := (by repeat (with_reducible first | assumption | exact Below.refl _ _ | refine Below.drew ?_ | refine kBb (by assumption) ?_))
          have hkb := HP.out.1
          go_wp2
          exact bodyPost_ret (v := .tuple #[.agg #[.bool s2, .slice x2 m2 c2, .slice zb kb cb], .bool false]) (by simp [results, Tryz.results104, go_sem, t0, t1, t2]) rfl ⟨s2, x2, m2, c2, d2, zb, kb, cb, db, false, rfl, below_st (HW3.out.trans (hb.mono HW3.out.size)) (by omega), .inr ⟨rfl, NO.out⟩⟩
      have HWh := hid hwh
      have ZN3 := hid (hzn.alloc (.cells #[.bool s2, .slice x2 m2 c2] 68))
      clear hwh hzn
      go_upto_region 5 with fail
      generalize w2.alloc (.cells #[.bool s2, .slice x2 m2 c2] 68) = w3 at *
      generalize w2.heap.size = b3 at *
      have hkn : ((t.size : Int) == (t.size : Int)) = true := by simp
      have YES : Hid (RT b t.size (u : Rat)) := .inr ⟨u, HNo.out, HWh.out, rfl⟩
      obtain ⟨za, a0, a1⟩ := BZ3.out
      obtain ⟨hz, z0, z1, z2, zf⟩ := OB3.out
      have C1 : Hid (∀ W : World, Calls Tryz.prog 111 #[.int .u64 1] W fun e w' => ∃ z k cap d, e = .returned (.slice z k cap) ∧ Below W.heap.size W w' ∧ Hid (k ≤ 1 ∧ Dn w' z k d 1)) := fun W => dWord_c (V := 1) (by decide)
      go_wp2_with fail
      go_region_held3 (fun w' => w'.cell? ⟨b3, 0, none⟩ = some (.bool s2) ∧ w'.cell? ⟨b3, 1, none⟩ = some (.slice x2 m2 c2) ∧ (w'.cell? ⟨w.heap.size, 0, none⟩).isSome = true ∧ (w'.cell? ⟨w.heap.size, 1, none⟩).isSome = true ∧ (w'.cell? ⟨w.heap.size, 2, none⟩).isSome = true ∧ w'.frozen? ⟨w.heap.size, 0, none⟩ = false ∧ w'.frozen? ⟨w.heap.size, 1, none⟩ = false ∧ w'.frozen? ⟨w.heap.size, 2, none⟩ = false)
        (refine ⟨?_, ?_, ?_, ?_, ?_, ?_, ?_, ?_⟩ <;> repeat (with_reducible first | assumption | exact zf _ | exact tf _ | exact uf _ | exact vf' _ | exact kI0 z0 | exact kI0 z1 | exact kI0 z2 | exact kI0 t0 | exact kI0 t1 | exact kI0 t2 | exact kI0 u0 | exact kI0 u1 | exact kI0 u2 | exact kI0 v0 | exact kI0 v1 | exact kI0 v2 | refine kCd ?_ | refine kId ?_ | refine kFd ?_ | refine kCs (by simp only [ne_eq]; omega) ?_ | refine kIs ?_ | refine kFs ?_ | refine kCb (by assumption) ?_ | refine kIb (by assumption) ?_))
        (first | (go_at_call 111; with_reducible refine (C1.out _).mono ?_; rintro e w5 ⟨zb, kb, cb, db, rfl, hb5, HP⟩; have Tt : Ob w5 w.heap.size := (by repeat (with_reducible first | exact OB3.out | exact Tt | exact Tu | exact Tv | refine Ob.drew ?_ | refine kOb (by assumption) ?_)); obtain ⟨_, t0, t1, t2, tf⟩ := id Tt))
      all_goals
        have hb : Below w3.heap.size w3 w5 := (by repeat (with_reducible first | assumption | exact Below.refl _ _ | refine Below.drew ?_ | refine kBb (by assumption) ?_))
        have hkb := HP.out.1
        go_wp2
        exact bodyPost_ret (v := .tuple #[.agg #[.bool s2, .slice x2 m2 c2, .slice zb kb cb], .bool true]) (by simp [results, Tryz.results104, go_sem, t0, t1, t2]) rfl ⟨s2, x2, m2, c2, d2, zb, kb, cb, db, true, rfl, below_st (HW3.out.trans (hb.mono HW3.out.size)) (by omega), .inl ⟨rfl, ⟨_, YES.out, Tt.qn ⟨by rw [Rat.num_intCast]; exact ZN3.out.below hb, by rw [Rat.den_intCast]; exact HP.out.2⟩⟩, by omega⟩⟩
end Go.Proofs.YtbindadjepfkcaaGreatDoor
