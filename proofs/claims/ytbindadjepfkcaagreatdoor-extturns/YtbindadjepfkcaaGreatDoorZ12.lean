/-
  Walks of rat.Text and of the document's DocText, whatever they are handed; Twin, whose lists lie in blocks of limbs. Which bytes are a rational number's text; walks of strings.Cut at a bar, of rat's readDen and Read. The walk of rat.Read, whatever it is handed. A number's text is read again; a text that is read is the one that is written: on plain numbers and bytes. The text of a rational number is the text that Read takes for it (for ExtTurns). The walk of ExtOrders.
-/
import Derived.Test.YtbindadjepfkcaaGreatDoorZ10
import Derived.Test.YtbindadjepfkcaaGreatDoorZ7
import Derived.Lib.IndexLaws
import Derived.Test.YtbindadjepfkcaaGreatDoorZ5
import Derived.Test.YtbindadjepfkcaaGreatDoorZ3
import Derived.Test.YtbindadjepfkcaaGreatDoorZ11
namespace Go.Proofs.YtbindadjepfkcaaGreatDoor
open Go.RowKit

theorem kTgd {w : World} {x : Option Addr} (h : Tg w x) : Tg w.drew x := h
theorem kTgb {w w' : World} {x : Option Addr} (hb : Below w.heap.size w w') (h : Tg w x) : Tg w' x := h.kept hb
theorem twinT_c {w : World} {x : Option Addr} {n c : Nat} {f : Nat → Int} (hr : Rd .u64 w x n f) (hn : n ≤ 100000) (hnil : x = none → n = 0 ∧ c = 0) :
    Calls Tryz.prog 58 #[.slice x n c] w fun e w' => ∃ z c', e = .returned (.slice z n c') ∧ Below w.heap.size w w' ∧ Hid (Rd .u64 w' z n f ∧ (n ≤ c' ∧ c' ≤ 9223372036854775807) ∧ (z = none → n = 0 ∧ c' = 0) ∧ Tg w' z) := by
  refine (twin_c x n c f w (by omega) hr hnil).mono ?_
  rintro e w' ⟨z, c', rfl, h2, h3, h4⟩
  obtain ⟨ao, cap, hv, k1, k2, k3, _, _⟩ := h4.shape
  cases hv
  exact ⟨z, c', rfl, h2, h3, ⟨k1, by unfold maxLen at k3; omega⟩, fun h => (by have := k2 h; omega), h4.tg⟩

set_option maxRecDepth 100000 in
set_option maxHeartbeats 8000000 in
theorem qTwinT_c {w : World} {s : Bool} {x : Option Addr} {n c : Nat} {f : Nat → Int} {y : Option Addr} {m d : Nat} {g : Nat → Int} (h : Rw w x n c f y m d g) (hn : n ≤ 1000) (hm : m ≤ 1000) :
    Calls Tryz.prog 22 #[.agg #[.bool s, .slice x n c, .slice y m d]] w fun e w' => ∃ z c' z2 c2, e = .returned (.agg #[.bool s, .slice z n c', .slice z2 m c2]) ∧ Below w.heap.size w w' ∧ Hid (Rw w' z n c' f z2 m c2 g ∧ Tg w' z ∧ Tg w' z2) := by
  obtain ⟨h1, h2, h3⟩ := qbox1 (w := w) (.bool s) (.slice x n c) (.slice y m d) 24 24
  have h4 := h.below h3
  clear h
  go_enter Tryz.func22, Tryz.ntmps22
  go_wp2_with fail
  generalize (w.alloc (.cells #[.bool s, .slice x n c, .slice y m d] 24)).alloc (.cells #[.bool false, .slice none 0 0, .slice none 0 0] 24) = w1 at *
  have HN := hid h4; have OB := hid h2; have HW := hid h3
  obtain ⟨z, x0, x1, x2⟩ := h1
  obtain ⟨hz, z0, z1, z2, zf⟩ := h2
  clear h3 h4
  have C1 : Hid (∀ W, Below w1.heap.size w1 W → Calls Tryz.prog 58 #[.slice x n c] W fun e w' => ∃ z c', e = .returned (.slice z n c') ∧ Below W.heap.size W w' ∧ Hid (Rd .u64 w' z n f ∧ (n ≤ c' ∧ c' ≤ 9223372036854775807) ∧ (z = none → n = 0 ∧ c' = 0) ∧ Tg w' z)) := fun W hW => twinT_c (HN.out.below hW).rx (by omega) HN.out.nx
  have C2 : Hid (∀ W, Below w1.heap.size w1 W → Calls Tryz.prog 58 #[.slice y m d] W fun e w' => ∃ z c', e = .returned (.slice z m c') ∧ Below W.heap.size W w' ∧ Hid (Rd .u64 w' z m g ∧ (m ≤ c' ∧ c' ≤ 9223372036854775807) ∧ (z = none → m = 0 ∧ c' = 0) ∧ Tg w' z)) := fun W hW => twinT_c (HN.out.below hW).ry (by omega) HN.out.ny
  go_region_held3 (fun w' => w'.cell? ⟨w.heap.size, 0, none⟩ = some (.bool s) ∧ w'.cell? ⟨w.heap.size, 1, none⟩ = some (.slice x n c) ∧ w'.cell? ⟨w.heap.size, 2, none⟩ = some (.slice y m d) ∧ (w'.cell? ⟨w.heap.size + 1, 0, none⟩).isSome = true ∧ (w'.cell? ⟨w.heap.size + 1, 1, none⟩).isSome = true ∧ (w'.cell? ⟨w.heap.size + 1, 2, none⟩).isSome = true ∧ w'.frozen? ⟨w.heap.size + 1, 0, none⟩ = false ∧ w'.frozen? ⟨w.heap.size + 1, 1, none⟩ = false ∧ w'.frozen? ⟨w.heap.size + 1, 2, none⟩ = false)
    (refine ⟨?_, ?_, ?_, ?_, ?_, ?_, ?_, ?_, ?_⟩ <;> repeat (with_reducible first | assumption | exact zf _ | exact tf _ | exact uf _ | exact kI0 z0 | exact kI0 z1 | exact kI0 z2 | exact kI0 t0 | exact kI0 t1 | exact kI0 t2 | exact kI0 u0 | exact kI0 u1 | exact kI0 u2 | refine kCd ?_ | refine kId ?_ | refine kFd ?_ | refine kCs (by simp only [ne_eq]; omega) ?_ | refine kIs ?_ | refine kFs ?_ | refine kCb (by assumption) ?_ | refine kIb (by assumption) ?_))
    (first
      | (go_at_call 58; with_reducible refine (C1.out _ (by repeat (with_reducible first | assumption | exact Below.refl _ _ | refine Below.drew ?_ | refine kBb (by assumption) ?_))).mono ?_; rintro e v5 ⟨z5, c5, rfl, hb5, H5⟩; have Tt : Ob v5 (w.heap.size + 1) := (by repeat (with_reducible first | exact OB.out | exact Tt | exact Tu | refine Ob.drew ?_ | refine kOb (by assumption) ?_)); obtain ⟨_, t0, t1, t2, tf⟩ := id Tt)
      | (go_at_call 58; with_reducible refine (C2.out _ (by repeat (with_reducible first | assumption | exact Below.refl _ _ | refine Below.drew ?_ | refine kBb (by assumption) ?_))).mono ?_; rintro e v6 ⟨z6, c6, rfl, hb6, H6⟩; have Tu : Ob v6 (w.heap.size + 1) := (by repeat (with_reducible first | exact OB.out | exact Tt | exact Tu | refine Ob.drew ?_ | refine kOb (by assumption) ?_)); obtain ⟨_, u0, u1, u2, uf⟩ := id Tu))
  all_goals
    have D5 : Rd .u64 v6 z5 n f := (by repeat (with_reducible first | exact H5.out.1 | refine Rd.drew ?_ | refine kRdb (by assumption) ?_))
    have T5 : Tg v6 z5 := (by repeat (with_reducible first | exact H5.out.2.2.2 | refine kTgd ?_ | refine kTgb (by assumption) ?_))
    have hb : Below w1.heap.size w1 v6 := (by repeat (with_reducible first | assumption | exact Below.refl _ _ | refine Below.drew ?_ | refine kBb (by assumption) ?_))
    go_wp2
    exact bodyPost_ret (v := .agg #[.bool s, .slice z5 n c5, .slice z6 m c6]) (by simp [results, Tryz.results22, go_sem, u0, u1, u2]) rfl ⟨z5, c5, z6, c6, rfl, below_st (HW.out.trans (hb.mono HW.out.size)) (by omega), ⟨Tu.rd D5, HN.out.lx, H5.out.2.1, H5.out.2.2.1, Tu.rd H6.out.1, HN.out.ly, H6.out.2.1, H6.out.2.2.1⟩, ((T5.set _ _).set _ _).set _ _, ((H6.out.2.2.2.set _ _).set _ _).set _ _⟩


def dec (V : Nat) : ByteArray := ⟨(Lib.decDigits V).toArray⟩
def wtx (s : Bool) (V : Nat) : ByteArray := if s then ⟨#[45]⟩ ++ dec V else dec V
/-- The text of a rational number. -/
def qtx (s : Bool) (q : Rat) : ByteArray := if q.den = 1 then wtx s q.num.natAbs else wtx s q.num.natAbs ++ ⟨#[47]⟩ ++ dec q.den
theorem txt_dec {w x n c f} {V : Nat} (h : Wn w false x n c f (V : Int)) : txt f n = dec V ∧ ter f n = 0 := by
  have hfm : fmB f n = true := (fmB_iff f n).2 h.fm
  have e : (vf f n).toNat = V := by rw [h.nv]; omega
  exact ⟨by unfold txt dec; rw [if_pos hfm, e], by simp [ter, hfm]⟩
theorem wtxt_dec {w s x n c f} {v : Int} (h : Wn w s x n c f v) : wtxt s f n = wtx s v.natAbs ∧ wter s f n = 0 := by
  have h1 := (txt_dec h.mag).1
  refine ⟨?_, by simp [wter, h.wf]⟩
  unfold wtxt wtx
  rw [if_pos h.wf, h1]
theorem dec_size {w x n c f} {V : Nat} (h : Wn w false x n c f (V : Int)) (hn : n ≤ 4096) : (dec V).size ≤ 81921 := by
  rw [← (txt_dec h).1]; exact txt_size h.lm hn
theorem wtx_size {s : Bool} {V : Nat} (h : (dec V).size ≤ 81921) : (wtx s V).size ≤ 81922 := by
  unfold wtx
  cases s
  · simp; omega
  · simp [ByteArray.size_append]
    have : (ByteArray.mk #[45]).size = 1 := rfl
    omega

set_option maxRecDepth 100000 in
set_option maxHeartbeats 4000000 in
theorem rTextOk_u {L w s x n c f y m d g q} (h : Rn L w s x n c f y m d g q) (hL : L ≤ 1000) (htab : Tab w) :
    Calls Tryz.prog 68 #[.agg #[.bool s, .slice x n c, .slice y m d]] w fun e w' => e = .returned (.tuple #[.string (qtx s q), .int .i64 0]) ∧ Below w.heap.size w w' := by
  have HR := hid h; have HTab := hid htab
  have b1 := h.ln; have b2 := h.ld
  have e1 := wtxt_dec h.num
  have e2 := txt_dec h.den
  have s2 := dec_size h.den (by omega)
  have s1 := wtx_size (s := s) (dec_size h.num.mag (by omega))
  have E1 := hid e1; have E2 := hid e2
  have hq : Hid (qtx s q = if q.den = 1 then wtx s q.num.natAbs else wtx s q.num.natAbs ++ ⟨#[47]⟩ ++ dec q.den) := rfl
  clear h htab e1 e2
  go_enter Tryz.func68, Tryz.ntmps68
  go_wp2_with fail
  refine (rForm_n (HR.out.alloc _) (by omega)).mono ?_
  rintro e w1 ⟨rfl, hb⟩
  have B1 := hid (bx3_new hb); have HW1 : Hid (Below w.heap.size w w1) := (below_alloc (Below.refl w.heap.size w) _).trans (hb.mono (by simp))
  clear hb
  obtain ⟨z, x0, x1, x2⟩ := B1.out
  go_wp2_with fail
  refine (numer_c s x y n c m d _).mono ?_
  rintro e w2 ⟨rfl, hb⟩
  have B2 := hid (B1.out.below hb); have HW2 := hid (HW1.out.trans (hb.mono HW1.out.size))
  clear hb B1 HW1 z x0 x1 x2
  obtain ⟨z, x0, x1, x2⟩ := B2.out
  have R2 := hid (HR.out.below HW2.out)
  have ct := wText_u s x n c f w2 (by omega) R2.out.num.rd R2.out.num.lm (HTab.out.below HW2.out HTab.out.lt) R2.out.num.cap.1 R2.out.num.cap.2
  rw [E1.out.1, E1.out.2] at ct
  have CT := hid ct
  clear ct
  go_wp2_with fail
  refine CT.out.mono ?_
  rintro e w3 ⟨rfl, hb⟩
  have B3 := hid (B2.out.below hb); have HW3 := hid (HW2.out.trans (hb.mono HW2.out.size)); have R3 := hid (R2.out.below hb)
  clear hb B2 HW2 R2 CT z x0 x1 x2
  obtain ⟨z, x0, x1, x2⟩ := B3.out
  have c4 := isOne_c R3.out.den
  have cd := TextAll_u y m d g w3 (by omega) R3.out.den.rd R3.out.den.lm (HTab.out.below HW3.out HTab.out.lt) R3.out.den.cap.1 R3.out.den.cap.2
  rw [E2.out.1, E2.out.2] at cd
  have CD := hid cd
  clear cd
  generalize wtx s q.num.natAbs = ta at *
  generalize dec q.den = tb at *
  by_cases h1 : q.den = 1
  · rw [show decide ((q.den : Int) = 1) = true by simp [h1]] at c4
    have C4 := hid c4
    have HQ : Hid (qtx s q = ta) := by rw [hq.out, if_pos h1]; exact hid rfl
    clear c4 h1 CD hq
    go_wp2_with fail
    refine C4.out.mono ?_
    rintro e w4 ⟨rfl, rfl⟩
    go_wp2
    go_ret2
    exact ⟨by rw [HQ.out]; rfl, HW3.out⟩
  · rw [show decide ((q.den : Int) = 1) = false by simp; omega] at c4
    have C4 := hid c4
    have HQ : Hid (qtx s q = ta ++ ⟨#[47]⟩ ++ tb) := by rw [hq.out, if_neg h1]; exact hid rfl
    clear c4 h1 hq
    go_wp2_with fail
    refine C4.out.mono ?_
    rintro e w4 ⟨rfl, rfl⟩
    go_wp2_with fail
    refine CD.out.mono ?_
    rintro e w5 ⟨rfl, hb⟩
    have HW5 := hid (HW3.out.trans (hb.mono HW3.out.size))
    clear hb
    go_wp2
    go_ret2
    exact ⟨by rw [HQ.out]; rfl, HW5.out⟩

theorem rTextOk_c {L w s x n c f y m d g q} (h : Rn L w s x n c f y m d g q) (hL : L ≤ 1000) (_ : Tg w x) (_ : Tg w y) (htab : Tab w) :
    Calls Tryz.prog 68 #[.agg #[.bool s, .slice x n c, .slice y m d]] w fun e w' => e = .returned (.tuple #[.string (qtx s q), .int .i64 0]) ∧ Below w.heap.size w w' := rTextOk_u h hL htab

set_option maxRecDepth 100000 in
set_option maxHeartbeats 4000000 in
theorem rTextErr_c {w : World} {s : Bool} {x : Option Addr} {n c : Nat} {f : Nat → Int} {y : Option Addr} {m e : Nat} {g : Nat → Int} (h : Rw w x n c f y m e g) (hn : n ≤ 1000) (hm : m ≤ 1000) (hp : rfB s f n g m = false) :
    Calls Tryz.prog 68 #[.agg #[.bool s, .slice x n c, .slice y m e]] w fun en w' => en = .returned (.tuple #[.string ⟨#[]⟩, .int .i64 3]) ∧ Below w.heap.size w w' := by
  have H := hid h
  have c1 := fun W hW => rForm_c (s := s) (H.out.below (w' := W) hW) (by omega) (by omega)
  rw [hp] at c1
  have C1 := hid c1
  clear h c1 hp
  go_enter Tryz.func68, Tryz.ntmps68
  go_wp2_with fail
  refine (C1.out _ (below_alloc (Below.refl w.heap.size w) _)).mono ?_
  rintro en w2 ⟨rfl, hb⟩
  have HB : Hid (Below w.heap.size w w2) := (below_alloc (Below.refl w.heap.size w) _).trans (hb.mono (by simp))
  clear hb
  go_wp2
  go_ret2
  exact ⟨rfl, HB.out⟩

theorem Dn.dn_txt {w x n d V} (_h : Dn w x n d V) (hs : (dec V).size ≤ 81921) : (Lib.decDigits V).length ≤ 1000000 := by
  have e : (dec V).size = (Lib.decDigits V).length := by show ((Lib.decDigits V).toArray).size = _; rw [List.size_toArray]
  omega

set_option maxRecDepth 100000 in
set_option maxHeartbeats 4000000 in
theorem qText_c {w : World} {s : Bool} {x : Option Addr} {n c : Nat} {d : Nat → Int} {y : Option Addr} {m e : Nat} {g : Nat → Int} {q : Rat} (h : Qn w s x n d y m g q) (hn : n ≤ 8192) (hm : m ≤ 8192) (s1 : (dec q.num.natAbs).size ≤ 81921) (s2 : (dec q.den).size ≤ 81921) :
    Calls Tryz.prog 99 #[.agg #[.bool s, .slice x n c, .slice y m e]] w fun en w' => en = .returned (.string (qtx s q)) ∧ Below w.heap.size w w' := by
  have BX := hid (bx3_at w (.bool s) (.slice x n c) (.slice y m e) 70)
  have HW := hid (below_alloc (Below.refl w.heap.size w) (.cells #[.bool s, .slice x n c, .slice y m e] 70))
  have H := hid (h.alloc (.cells #[.bool s, .slice x n c, .slice y m e] 70))
  have hone := h.den.one_iff
  have hfd : ∀ (b : Bool) (x : Option Addr) (n c : Nat) (y : Option Addr) (m e : Nat) (w : World), (Instr.field 70 (.agg #[.bool b, .slice x n c, .slice y m e]) 0).run Tryz.prog w = .ok (.agg #[.bool b, .slice x n c]) w := fun _ _ _ _ _ _ _ _ => by kernel_rfl
  have hq : Hid (qtx s q = if q.den = 1 then wtx s q.num.natAbs else wtx s q.num.natAbs ++ ⟨#[47]⟩ ++ dec q.den) := rfl
  have s3 := wtx_size (s := s) s1
  have C1 : Hid (∀ W, Below (w.alloc (.cells #[.bool s, .slice x n c, .slice y m e] 70)).heap.size (w.alloc (.cells #[.bool s, .slice x n c, .slice y m e] 70)) W → Calls Tryz.prog 129 #[.agg #[.bool s, .slice x n c]] W fun en w' => en = .returned (.string (wtx s q.num.natAbs)) ∧ Below W.heap.size W w') := fun W hW => by
    have hz := (H.out.below hW).num
    exact zText_c s x n c d q.num.natAbs W hn hz.dn.rd hz.dn.dg hz.dn.fm hz.dn.val (hz.dn.dn_txt s1)
  have C2 : Hid (∀ W, Below (w.alloc (.cells #[.bool s, .slice x n c, .slice y m e] 70)).heap.size (w.alloc (.cells #[.bool s, .slice x n c, .slice y m e] 70)) W → Calls Tryz.prog 130 #[.slice y m e] W fun en w' => en = .returned (.string (dec q.den)) ∧ Below W.heap.size W w') := fun W hW => by
    have hz := (H.out.below hW).den
    exact rtext_c y m e g q.den W hm hz.rd hz.dg hz.fm hz.val
  have hr := (h.alloc (.cells #[.bool s, .slice x n c, .slice y m e] 70)).den.rd
  clear h s1
  go_enter Tryz.func99, Tryz.ntmps99
  go_upto_region 1 with fail
  generalize w.alloc (.cells #[.bool s, .slice x n c, .slice y m e] 70) = w1 at *
  generalize wtx s q.num.natAbs = ta at *
  generalize dec q.den = tb at *
  obtain ⟨z, x0, x1, x2⟩ := BX.out
  by_cases h1 : q.den = 1
  · obtain ⟨hm1, hd1⟩ := hone.1 h1
    subst hm1
    obtain ⟨bk, o, rfl⟩ := hr.at (by omega)
    have hcell := hr.cell (j := 0) (by omega)
    rw [hd1, Nat.add_zero] at hcell
    have HQ : Hid (qtx s q = ta) := by rw [hq.out, if_pos h1]; exact hid rfl
    clear h1 hone hr hd1 hq
    go_wp2_with fail
    refine (C1.out _ (Below.refl _ _)).mono ?_
    rintro en w2 ⟨rfl, hb⟩
    have HB := hid (HW.out.trans (hb.mono HW.out.size))
    clear hb
    go_wp2
    go_ret
    exact ⟨by rw [HQ.out]; rfl, HB.out⟩
  · have hgc : ((m : Int) == 1) = false ∨ (m = 1 ∧ (g 0 == 1) = false) := by
      by_cases hk : m = 1
      · right; refine ⟨hk, ?_⟩
        simp; intro h; exact h1 (hone.2 ⟨hk, h⟩)
      · left; simp; omega
    have HQ : Hid (qtx s q = ta ++ ⟨#[47]⟩ ++ tb) := by rw [hq.out, if_neg h1]; exact hid rfl
    have hz1 : (ta ++ (⟨#[47]⟩ : ByteArray)).size ≤ 81923 := by rw [ByteArray.size_append]; have : (⟨#[47]⟩ : ByteArray).size = 1 := rfl; omega
    have hcat1 : ∀ W : World, (Op.stringOp .add ta ⟨#[47]⟩).run Tryz.prog W = .ok (.string (ta ++ ⟨#[47]⟩)) W := fun W => run_string_add_sum W _ _ (by have : (⟨#[47]⟩ : ByteArray).size = 1 := rfl; omega)
    have hcat2 : ∀ W : World, (Op.stringOp .add (ta ++ ⟨#[47]⟩) tb).run Tryz.prog W = .ok (.string (ta ++ ⟨#[47]⟩ ++ tb)) W := fun W => run_string_add_sum W _ _ (by omega)
    clear h1 hone hq hz1
    rcases hgc with hgk | ⟨hgk, hgd⟩
    · clear hr
      go_wp2_with fail
      go_region_held3 (fun w' => w'.cell? ⟨w.heap.size, 0, none⟩ = some (.bool s) ∧ w'.cell? ⟨w.heap.size, 1, none⟩ = some (.slice x n c) ∧ w'.cell? ⟨w.heap.size, 2, none⟩ = some (.slice y m e))
        (refine ⟨?_, ?_, ?_⟩ <;> repeat (with_reducible first | assumption | refine kCd ?_ | refine kCb (by assumption) ?_))
        (first
          | (go_at_call 129; with_reducible refine (C1.out _ (by repeat (with_reducible first | assumption | exact Below.refl _ _ | refine Below.drew ?_ | refine kBb (by assumption) ?_))).mono ?_; rintro en v5 ⟨rfl, hb5⟩)
          | (go_at_call 130; with_reducible refine (C2.out _ (by repeat (with_reducible first | assumption | exact Below.refl _ _ | refine Below.drew ?_ | refine kBb (by assumption) ?_))).mono ?_; rintro en v6 ⟨rfl, hb6⟩))
      all_goals
        first
          | (have hb : Below w1.heap.size w1 v6 := (by repeat (with_reducible first | assumption | exact Below.refl _ _ | refine Below.drew ?_ | refine kBb (by assumption) ?_))
             have HB := hid (HW.out.trans (hb.mono HW.out.size))
             clear hb
             go_wp2
             go_ret
             exact ⟨by rw [HQ.out]; rfl, HB.out⟩)
          | (have hb : Below w1.heap.size w1 v5 := (by repeat (with_reducible first | assumption | exact Below.refl _ _ | refine Below.drew ?_ | refine kBb (by assumption) ?_))
             have HB := hid (HW.out.trans (hb.mono HW.out.size))
             clear hb
             go_wp2
             go_ret
             exact ⟨by rw [HQ.out]; rfl, HB.out⟩)
    · subst hgk
      obtain ⟨bk, o, rfl⟩ := hr.at (by omega)
      have hcell := hr.cell (j := 0) (by omega)
      rw [Nat.add_zero] at hcell
      clear hr
      go_wp2_with fail
      go_region_held3 (fun w' => w'.cell? ⟨w.heap.size, 0, none⟩ = some (.bool s) ∧ w'.cell? ⟨w.heap.size, 1, none⟩ = some (.slice x n c) ∧ w'.cell? ⟨w.heap.size, 2, none⟩ = some (.slice (some ⟨bk, o, none⟩) 1 e))
        (refine ⟨?_, ?_, ?_⟩ <;> repeat (with_reducible first | assumption | refine kCd ?_ | refine kCb (by assumption) ?_))
        (first
          | (go_at_call 129; with_reducible refine (C1.out _ (by repeat (with_reducible first | assumption | exact Below.refl _ _ | refine Below.drew ?_ | refine kBb (by assumption) ?_))).mono ?_; rintro en v5 ⟨rfl, hb5⟩)
          | (go_at_call 130; with_reducible refine (C2.out _ (by repeat (with_reducible first | assumption | exact Below.refl _ _ | refine Below.drew ?_ | refine kBb (by assumption) ?_))).mono ?_; rintro en v6 ⟨rfl, hb6⟩))
      all_goals
        first
          | (have hb : Below w1.heap.size w1 v6 := (by repeat (with_reducible first | assumption | exact Below.refl _ _ | refine Below.drew ?_ | refine kBb (by assumption) ?_))
             have HB := hid (HW.out.trans (hb.mono HW.out.size))
             clear hb
             go_wp2
             go_ret
             exact ⟨by rw [HQ.out]; rfl, HB.out⟩)
          | (have hb : Below w1.heap.size w1 v5 := (by repeat (with_reducible first | assumption | exact Below.refl _ _ | refine Below.drew ?_ | refine kBb (by assumption) ?_))
             have HB := hid (HW.out.trans (hb.mono HW.out.size))
             clear hb
             go_wp2
             go_ret
             exact ⟨by rw [HQ.out]; rfl, HB.out⟩)

/-- Text and error, in form or not. -/
def ptx (p : Bool) (s : Bool) (q : Rat) : ByteArray := if p then qtx s q else ⟨#[]⟩
def pte (p : Bool) : Int := if p then 0 else 3
theorem rText_u {w : World} {s : Bool} {x : Option Addr} {n c : Nat} {f : Nat → Int} {y : Option Addr} {m d : Nat} {g : Nat → Int} {p : Bool} {q : Rat} (h : Rw w x n c f y m d g) (hn : n ≤ 100) (hm : m ≤ 100) (hp : rfB s f n g m = p) (hq : p = true → Rn 100 w s x n c f y m d g q) (htab : Tab w) :
    Calls Tryz.prog 68 #[.agg #[.bool s, .slice x n c, .slice y m d]] w fun e w' => e = .returned (.tuple #[.string (ptx p s q), .int .i64 (pte p)]) ∧ Below w.heap.size w w' := by
  cases p
  · exact rTextErr_c h (by omega) (by omega) hp
  · exact rTextOk_u (hq rfl) (by omega) htab
theorem rText_g {w : World} {s : Bool} {x : Option Addr} {n c : Nat} {f : Nat → Int} {y : Option Addr} {m d : Nat} {g : Nat → Int} {p : Bool} {q : Rat} (h : Rw w x n c f y m d g) (hn : n ≤ 100) (hm : m ≤ 100) (hp : rfB s f n g m = p) (hq : p = true → Rn 100 w s x n c f y m d g q) (_ : Tg w x) (_ : Tg w y) (htab : Tab w) :
    Calls Tryz.prog 68 #[.agg #[.bool s, .slice x n c, .slice y m d]] w fun e w' => e = .returned (.tuple #[.string (ptx p s q), .int .i64 (pte p)]) ∧ Below w.heap.size w w' := rText_u h hn hm hp hq htab
end Go.Proofs.YtbindadjepfkcaaGreatDoor
namespace Go.Proofs.YtbindadjepfkcaaGreatDoor
open Go.RowKit

/-- Bytes that are a whole number's text. -/
def IsWh (b : Nat → Nat) (L : Nat) (u : Int) : Prop :=
  (0 < L ∧ b 0 = 45) ∧ (IsNum (bsh b 1) (L - 1) ∧ 0 < dn (bsh b 1) (L - 1)) ∧ u = -(dn (bsh b 1) (L - 1) : Nat) ∨ ¬ (0 < L ∧ b 0 = 45) ∧ IsNum b L ∧ u = (dn b L : Nat)
theorem IsWh.uniq {b L u v} (h : IsWh b L u) (k : IsWh b L v) : u = v := by
  rcases h with ⟨h1, _, h2⟩ | ⟨h1, _, h2⟩ <;> rcases k with ⟨k1, _, k2⟩ | ⟨k1, _, k2⟩
  · omega
  · exact absurd h1 k1
  · exact absurd k1 h1
  · omega
/-- The first bar stands at i. -/
def Bar (b : Nat → Nat) (L i : Nat) : Prop := i < L ∧ b i = 47 ∧ ∀ j, j < i → b j ≠ 47
def NoBar (b : Nat → Nat) (L : Nat) : Prop := ∀ j, j < L → b j ≠ 47
theorem Bar.uniq {b L i j} (h : Bar b L i) (k : Bar b L j) : i = j := by
  rcases Nat.lt_trichotomy i j with h1 | h1 | h1
  · exact absurd h.2.1 (k.2.2 i h1)
  · exact h1
  · exact absurd k.2.1 (h.2.2 j h1)
theorem Bar.no {b L i} (h : Bar b L i) (k : NoBar b L) : False := k i h.1 h.2.1
theorem bar_or (b : Nat → Nat) (L : Nat) : (∃ i, Bar b L i) ∨ NoBar b L := by
  induction L with
  | zero => right; intro j hj; omega
  | succ L ih =>
    rcases ih with ⟨i, h1, h2, h3⟩ | h
    · exact .inl ⟨i, by omega, h2, h3⟩
    · by_cases hb : b L = 47
      · exact .inl ⟨L, by omega, hb, h⟩
      · right; intro j hj
        rcases Nat.lt_or_ge j L with h1 | h1
        · exact h j h1
        · have : j = L := by omega
          subst this; exact hb
/-- The bytes are the text of q. -/
def RT (b : Nat → Nat) (L : Nat) (q : Rat) : Prop :=
  (∃ i u, Bar b L i ∧ IsWh b i u ∧ IsNum (bsh b (i + 1)) (L - (i + 1)) ∧ 1 < dn (bsh b (i + 1)) (L - (i + 1)) ∧ u.natAbs.gcd (dn (bsh b (i + 1)) (L - (i + 1))) = 1 ∧ q = (u : Rat) / (((dn (bsh b (i + 1)) (L - (i + 1)) : Nat) : Int) : Rat)) ∨
  (∃ u, NoBar b L ∧ IsWh b L u ∧ q = (u : Rat))
theorem RT.uniq {b L q r} (h : RT b L q) (k : RT b L r) : q = r := by
  rcases h with ⟨i, u, h1, h2, _, _, _, h3⟩ | ⟨u, h1, h2, h3⟩ <;> rcases k with ⟨j, v, k1, k2, _, _, _, k3⟩ | ⟨v, k1, k2, k3⟩
  · have := h1.uniq k1
    subst this
    have := h2.uniq k2
    subst this
    rw [h3, k3]
  · exact absurd k1 (fun k => h1.no k)
  · exact absurd h1 (fun k => k1.no k)
  · have := h2.uniq k2
    subst this
    rw [h3, k3]
/-- What Read answers. -/
def RRead (b : Nat → Nat) (L : Nat) (w' : World) (s : Bool) (x : Option Addr) (n c : Nat) (f : Nat → Int) (y : Option Addr) (m d : Nat) (g : Nat → Int) (er : Int) : Prop :=
  1048576 < L ∧ er = 2 ∧ n = 0 ∧ m = 0 ∧ s = false ∨ L ≤ 1048576 ∧ (∃ q, RT b L q ∧ Rn 2000 w' s x n c f y m d g q) ∧ er = 0 ∨ L ≤ 1048576 ∧ (∀ q, ¬ RT b L q) ∧ er = 11 ∧ n = 0 ∧ m = 0 ∧ s = false
theorem RRead.below {b L w w' s x n c f y m d g er} (h : RRead b L w s x n c f y m d g er) (hb : Below w.heap.size w w') : RRead b L w' s x n c f y m d g er := by
  rcases h with h | ⟨h1, ⟨q, h2, h3⟩, h4⟩ | h
  · exact .inl h
  · exact .inr (.inl ⟨h1, ⟨q, h2, h3.below hb⟩, h4⟩)
  · exact .inr (.inr h)
theorem RRead.alloc {b L w s x n c f y m d g er} (h : RRead b L w s x n c f y m d g er) (o : Obj) : RRead b L (w.alloc o) s x n c f y m d g er := h.below (below_alloc (Below.refl _ _) o)
theorem rr_er {b L w s x n c f y m d g er w' s' x' n' c' f' y' m' d' g' er'} (h : RRead b L w s x n c f y m d g er) (k : RRead b L w' s' x' n' c' f' y' m' d' g' er') : er' = er := by
  rcases h with ⟨h1, h2, _⟩ | ⟨h1, ⟨q, h2, _⟩, h3⟩ | ⟨h1, h2, h3, _⟩ <;> rcases k with ⟨k1, k2, _⟩ | ⟨k1, ⟨r, k2, _⟩, k3⟩ | ⟨k1, k2, k3, _⟩ <;> first | omega | exact absurd k2 (h2 _) | exact absurd h2 (k2 _)
theorem rr_same {b L w s x n c f y m d g er s' x' n' c' f' y' m' d' g' er'} (h : RRead b L w s x n c f y m d g er) (k : RRead b L w s' x' n' c' f' y' m' d' g' er') :
    Calls Tryz.prog 37 #[.agg #[.bool s, .slice x n c, .slice y m d], .agg #[.bool s', .slice x' n' c', .slice y' m' d']] w fun e w' => e = .returned (.bool true) ∧ Below w.heap.size w w' := by
  rcases h with ⟨h1, h2, h3, h4, h5⟩ | ⟨h1, ⟨q, h2, h4⟩, h3⟩ | ⟨h1, h0, h2, h3, h4, h5⟩ <;> rcases k with ⟨k1, k2, k3, k4, k5⟩ | ⟨k1, ⟨r, k2, k4⟩, k3⟩ | ⟨k1, k0, k2, k3, k4, k5⟩
  · subst h3 h4 h5 k3 k4 k5; exact sameNone_c
  · omega
  · omega
  · omega
  · have := h2.uniq k2
    subst this
    refine (rSame_n h4 k4 (by omega) (by omega)).mono ?_
    rintro e w' ⟨rfl, hb⟩
    exact ⟨by simp, hb⟩
  · exact absurd h2 (k0 _)
  · omega
  · exact absurd k2 (h0 _)
  · subst h3 h4 h5 k3 k4 k5; exact sameNone_c
theorem wread_cases {b : Nat → Nat} {L : Nat} {r : Bool} {k : Nat} {f : Nat → Int} {er : Int} (h : WRead L b r k f er) (hL : L ≤ 1048576) : er = 0 ∧ IsWh b L (wv r f k) ∨ er = 11 ∧ ∀ u, ¬ IsWh b L u := by
  rcases h with ⟨h1, _⟩ | ⟨_, h1, h2, h3, h4, h5, h6⟩ | ⟨_, h1, h2, h3, h4⟩ | ⟨_, h1, h2, h3, _⟩
  · omega
  · exact .inl ⟨h5, .inl ⟨⟨h1, h2⟩, ⟨h3, h4⟩, h6⟩⟩
  · exact .inl ⟨h3, .inr ⟨h1, h2, h4⟩⟩
  · refine .inr ⟨h3, fun u hu => ?_⟩
    rcases hu with ⟨k1, k2, _⟩ | ⟨k1, k2, _⟩
    · exact h1 ⟨k1.1, k1.2, k2.1, k2.2⟩
    · exact h2 ⟨k1, k2⟩
theorem ten_pw (L : Nat) : ((10 ^ L : Nat) : Int) ≤ pw L := by
  induction L with
  | zero => simp [pw]
  | succ L ih =>
    rw [Nat.pow_succ, pw_succ]
    have := pw_pos L
    push_cast at ih ⊢
    omega
/-- A number that digits tell has no more limbs than digits. -/
theorem Wn.len_dn {w x n c f b L} (h : Wn w false x n c f (dn b L : Nat)) (hd : Dig b L) : n ≤ L := by
  rcases Nat.lt_or_ge L n with h1 | h1
  · have h2 := vf_form_ge h.lm h.fm (by omega)
    have h3 := pw_mono (show L ≤ n - 1 by omega)
    have h4 := ten_pw L
    have h5 := dn_lt hd
    have h6 := h.nv
    omega
  · exact h1
theorem isWh_len {w s x n c f b L u} (h : Wn w s x n c f u) (hu : IsWh b L u) : n ≤ L := by
  rcases hu with ⟨h1, ⟨h2, _⟩, h3⟩ | ⟨h1, h2, h3⟩
  · have h4 := h.mag
    rw [h3] at h4
    have e : (-(dn (bsh b 1) (L - 1) : Int)).natAbs = dn (bsh b 1) (L - 1) := by omega
    rw [e] at h4
    have := h4.len_dn h2.1
    omega
  · have h4 := h.mag
    rw [h3] at h4
    have e : ((dn b L : Nat) : Int).natAbs = dn b L := by omega
    rw [e] at h4
    exact h4.len_dn h2.1

theorem sb_list {s L b} (hs : Sb s L b) {k : Nat} (hk : k < L) : ∃ u : UInt8, s.data.toList[k]? = some u ∧ u.toNat = b k := by
  have h : k < s.size := by rw [hs.1]; exact hk
  refine ⟨s[k], ?_, hs.2 k h⟩
  rw [Array.getElem?_toList]
  exact Array.getElem?_eq_getElem h
theorem sb_none {s L b} (hs : Sb s L b) {k : Nat} (hk : L ≤ k) : s.data.toList[k]? = none := by
  rw [Array.getElem?_toList]
  exact Array.getElem?_eq_none (by have := hs.1; show s.size ≤ k; omega)
theorem idx_bar {s L b i} (hs : Sb s L b) (hi : Bar b L i) : Lib.indexByte s.data.toList 47 = (i : Int) := by
  have h0 := Lib.indexByte_ge s.data.toList 47
  obtain ⟨u, h1, h2⟩ := sb_list hs hi.1
  have hu : u = 47 := UInt8.toNat_inj.1 (by rw [h2, hi.2.1]; rfl)
  subst hu
  rcases (show Lib.indexByte s.data.toList 47 < 0 ∨ 0 ≤ Lib.indexByte s.data.toList 47 by omega) with h | h
  · exact absurd h1 (Lib.indexByte_none (show Lib.indexByte s.data.toList 47 = -1 by omega) i)
  · obtain ⟨o, ho⟩ : ∃ o : Nat, Lib.indexByte s.data.toList 47 = o := ⟨(Lib.indexByte s.data.toList 47).toNat, by omega⟩
    rw [ho]
    obtain ⟨k1, k2⟩ := Lib.indexByte_some ho
    rcases Nat.lt_trichotomy o i with h3 | h3 | h3
    · obtain ⟨v, h4, h5⟩ := sb_list hs (show o < L by have := hi.1; omega)
      rw [k1] at h4
      cases h4
      exact absurd h5.symm (hi.2.2 o h3)
    · rw [h3]
    · exact absurd h1 (k2 i h3)
theorem idx_none {s L b} (hs : Sb s L b) (hi : NoBar b L) : Lib.indexByte s.data.toList 47 = -1 := by
  have h0 := Lib.indexByte_ge s.data.toList 47
  rcases (show Lib.indexByte s.data.toList 47 < 0 ∨ 0 ≤ Lib.indexByte s.data.toList 47 by omega) with h | h
  · omega
  · obtain ⟨o, ho⟩ : ∃ o : Nat, Lib.indexByte s.data.toList 47 = o := ⟨(Lib.indexByte s.data.toList 47).toNat, by omega⟩
    obtain ⟨k1, _⟩ := Lib.indexByte_some ho
    rcases Nat.lt_or_ge o L with h3 | h3
    · obtain ⟨v, h4, h5⟩ := sb_list hs h3
      rw [k1] at h4
      cases h4
      exact absurd h5.symm (hi o h3)
    · rw [sb_none hs h3] at k1; cases k1

set_option maxRecDepth 100000 in
set_option maxHeartbeats 1000000 in
theorem cutBar_c {s : ByteArray} {L : Nat} {b : Nat → Nat} {i : Nat} (hs : Sb s L b) (hL : L ≤ 1048576) (hi : Bar b L i) (w : World) : Calls Tryz.prog 100 #[.string s, .string ⟨#[47]⟩] w fun e w' => e = .returned (.tuple #[.string (s.extract 0 i), .string (s.extract (i + 1) L), .bool true]) ∧ Below w.heap.size w w' := by
  have hx := idx_bar hs hi
  have hiL := hi.1
  have hsz := hs.1
  have C1 : Hid (∀ W, Calls Tryz.prog 149 #[.string s, .string ⟨#[47]⟩] W fun e w' => e = .returned (.int .i64 i) ∧ w' = W) := fun W => by
    have := Tryz.stringslite_Index_one s 47 W
    rw [hx] at this
    exact this
  clear hs hi hx
  subst hsz
  have c2 : ∀ W, Calls Tryz.prog 131 #[.string s, .string ⟨#[47]⟩] W fun e w' => e = .returned (.tuple #[.string (s.extract 0 i), .string (s.extract (i + 1) s.size), .bool true]) ∧ Below W.heap.size W w' := fun W => by
    have hge : decide ((0 : Int) ≤ (i : Int)) = true := by simp
    have h1 : ((ByteArray.mk #[47]).size : Int) = 1 := by decide
    go_enter Tryz.func131, Tryz.ntmps131
    go_wp2_with fail
    refine (C1.out _).mono ?_
    rintro e w1 ⟨rfl, rfl⟩
    go_wp2
    go_quiet (fail)
    go_wp2
    exact bodyPost_ret (v := .tuple #[.string (s.extract 0 i), .string (s.extract (i + 1) s.size), .bool true]) (by simp [results, Tryz.results131, go_sem]) rfl ⟨rfl, below_drewN (Below.refl _ _) _⟩
  have C2 := hid c2
  clear c2 C1
  go_enter Tryz.func100, Tryz.ntmps100
  go_wp2_with fail
  refine (C2.out _).mono ?_
  rintro e w1 ⟨rfl, hb⟩
  go_wp2
  exact bodyPost_ret (v := .tuple #[.string (s.extract 0 i), .string (s.extract (i + 1) s.size), .bool true]) (by simp [results, Tryz.results100, go_sem]) rfl ⟨rfl, hb⟩
set_option maxRecDepth 100000 in
set_option maxHeartbeats 1000000 in
theorem cutNone_c {s : ByteArray} {L : Nat} {b : Nat → Nat} (hs : Sb s L b) (hL : L ≤ 1048576) (hi : NoBar b L) (w : World) : Calls Tryz.prog 100 #[.string s, .string ⟨#[47]⟩] w fun e w' => e = .returned (.tuple #[.string s, .string ⟨#[]⟩, .bool false]) ∧ Below w.heap.size w w' := by
  have hx := idx_none hs hi
  have hsz := hs.1
  have C1 : Hid (∀ W, Calls Tryz.prog 149 #[.string s, .string ⟨#[47]⟩] W fun e w' => e = .returned (.int .i64 (-1)) ∧ w' = W) := fun W => by
    have := Tryz.stringslite_Index_one s 47 W
    rw [hx] at this
    exact this
  clear hs hi hx
  subst hsz
  have c2 : ∀ W, Calls Tryz.prog 131 #[.string s, .string ⟨#[47]⟩] W fun e w' => e = .returned (.tuple #[.string s, .string ⟨#[]⟩, .bool false]) ∧ Below W.heap.size W w' := fun W => by
    go_enter Tryz.func131, Tryz.ntmps131
    go_wp2_with fail
    refine (C1.out _).mono ?_
    rintro e w1 ⟨rfl, rfl⟩
    go_wp2
    exact bodyPost_ret (v := .tuple #[.string s, .string ⟨#[]⟩, .bool false]) (by simp [results, Tryz.results131, go_sem]) rfl ⟨rfl, Below.refl _ _⟩
  have C2 := hid c2
  clear c2 C1
  go_enter Tryz.func100, Tryz.ntmps100
  go_wp2_with fail
  refine (C2.out _).mono ?_
  rintro e w1 ⟨rfl, hb⟩
  go_wp2
  exact bodyPost_ret (v := .tuple #[.string s, .string ⟨#[]⟩, .bool false]) (by simp [results, Tryz.results100, go_sem]) rfl ⟨rfl, hb⟩

/-- What readDen answers. -/
def DRead (b : Nat → Nat) (L : Nat) (w' : World) (x : Option Addr) (k c : Nat) (f : Nat → Int) (er : Int) : Prop :=
  (IsNum b L ∧ dn b L ≠ 1) ∧ er = 0 ∧ Wn w' false x k c f (dn b L : Nat) ∨ ¬ (IsNum b L ∧ dn b L ≠ 1) ∧ er = 11
set_option maxRecDepth 100000 in
set_option maxHeartbeats 1000000 in
theorem readDen_c (s : ByteArray) (L : Nat) (b : Nat → Nat) (w : World) (hs : Sb s L b) (hL : L ≤ 1048576) :
    Calls Tryz.prog 103 #[.string s] w fun e w' => ∃ x k c f er, e = .returned (.tuple #[.slice x k c, .int .i64 er]) ∧ Below w.heap.size w w' ∧ Hid (DRead b L w' x k c f er) := by
  go_enter Tryz.func103, Tryz.ntmps103
  go_wp2_with fail
  refine (Read_c s L b _ hs).mono ?_
  rintro e w1 ⟨x, k, c, f, er, rfl, hres, hans⟩
  have hr := hres.ans (by omega)
  have hb := hr.bel
  have hw : Wn w1 false x k c f (vf f k) := ⟨hr.rd, hr.lm, (wfB_iff _ _ _).2 ⟨hr.fm, fun h => by cases h⟩, hr.ncap, hr.nil', rfl⟩
  have C2 := hid (isOne_c hw); have HB := hid hb; have HW := hid hw; have HAns := hid hans
  clear hres hans hr hb hw hs
  go_wp2_with fail
  refine C2.out.mono ?_
  rintro e w2 ⟨rfl, rfl⟩
  by_cases h1 : vf f k = 1
  · rw [decide_eq_true h1]
    have HF : Hid (¬ (IsNum b L ∧ dn b L ≠ 1)) := by
      rintro ⟨k1, k2⟩
      rcases HAns.out with ⟨h2, _⟩ | ⟨_, h2, _⟩ | ⟨_, _, _, h2⟩
      · omega
      · exact h2 k1
      · omega
    clear h1
    go_wp2
    go_ret2
    exact ⟨none, 0, 0, fun _ => 0, 11, rfl, HB.out, .inr ⟨HF.out, rfl⟩⟩
  · rw [decide_eq_false h1]
    have HF : Hid (DRead b L w2 x k c f er) := by
      rcases HAns.out with ⟨h2, _⟩ | ⟨_, h2, h3, _⟩ | ⟨_, h2, h3, h4⟩
      · omega
      · exact .inr ⟨fun h => h2 h.1, h3⟩
      · exact .inl ⟨⟨h2, by omega⟩, h3, by rw [← h4]; exact HW.out⟩
    clear h1
    go_wp2
    go_ret2
    exact ⟨x, k, c, f, er, rfl, HB.out, HF.out⟩
end Go.Proofs.YtbindadjepfkcaaGreatDoor
namespace Go.Proofs.YtbindadjepfkcaaGreatDoor
open Go.RowKit

theorem rf_eq {w w' s x n c f u y m d g} {D : Nat} (ha : Wn w s x n c f u) (hb : Wn w' false y m d g ((D : Nat) : Int)) : rfB s f n g m = (decide (0 < D) && decide (u.natAbs.gcd D = 1)) := by
  have h1 : (vf f n).toNat = u.natAbs := by rw [← natAbs_wv (s := s) ha.lm, ha.val]
  have h2 : (vf g m).toNat = D := by rw [hb.nv]; omega
  have h3 : decide (0 < m) = decide (0 < D) := by
    rcases Nat.eq_zero_or_pos D with h | h
    · have : m = 0 := by
        rcases Nat.eq_zero_or_pos m with k | k
        · exact k
        · have := vf_pos hb.lm hb.fm k; have := hb.nv; omega
      simp [h, this]
    · have := hb.pos (by omega)
      simp [h, this]
  simp only [rfB, ha.wf, (fmB_iff g m).2 hb.fm, h1, h2, h3, Bool.true_and]
theorem rn_made {w s x n c f u y m d g} {D L : Nat} (ha : Wn w s x n c f u) (hb : Wn w false y m d g ((D : Nat) : Int)) (h0 : 0 < D) (hg : u.natAbs.gcd D = 1) (hn : n ≤ L) (hm : m ≤ L) : Rn L w s x n c f y m d g ((u : Rat) / (((D : Nat) : Int) : Rat)) := by
  have e0 : ((D : Nat) : Int).natAbs = D := by omega
  obtain ⟨e1, e2⟩ := make_made (u := u) (v := ((D : Nat) : Int)) (s := s) (t := false) ha.sgn (by show ((D : Nat) : Int) = (((D : Nat) : Int).natAbs : Int); omega) (by omega)
  rw [e0, hg, Nat.div_one] at e1 e2
  refine ⟨?_, ?_, hn, hm⟩
  · have e3 : (s != false) = s := by cases s <;> rfl
    rw [e1, e3, ← ha.sgn]; exact ha
  · rw [e2]; exact hb
theorem rn_whole {w s x n c f u y m d g} {L : Nat} (ha : Wn w s x n c f u) (hb : Wn w false y m d g 1) (hn : n ≤ L) (hm : m ≤ L) : Rn L w s x n c f y m d g (u : Rat) := by
  refine ⟨?_, ?_, hn, hm⟩
  · rw [Rat.num_intCast]; exact ha
  · rw [Rat.den_intCast]; exact hb
theorem sgn_same {w s x n c f u r} (ha : Wn w s x n c f u) (hr : r = (s && decide (0 < n))) : r = s := by
  rw [hr]
  have := ((wfB_iff _ _ _).1 ha.wf).2
  cases s
  · rfl
  · simp; exact this rfl
theorem rt_no1 {b L i} (hi : Bar b L i) (h : ∀ u, ¬ IsWh b i u) : ∀ q, ¬ RT b L q := by
  rintro q (⟨j, u, k1, k2, _⟩ | ⟨u, k1, _⟩)
  · have := hi.uniq k1; subst this; exact h u k2
  · exact hi.no k1
theorem rt_no2 {b L i} (hi : Bar b L i) (h : ¬ (IsNum (bsh b (i + 1)) (L - (i + 1)) ∧ dn (bsh b (i + 1)) (L - (i + 1)) ≠ 1)) : ∀ q, ¬ RT b L q := by
  rintro q (⟨j, u, k1, k2, k3, k4, _⟩ | ⟨u, k1, _⟩)
  · have := hi.uniq k1; subst this; exact h ⟨k3, by omega⟩
  · exact hi.no k1
theorem rt_no3 {b L i u} (hi : Bar b L i) (hu : IsWh b i u) (h : ¬ (0 < dn (bsh b (i + 1)) (L - (i + 1)) ∧ u.natAbs.gcd (dn (bsh b (i + 1)) (L - (i + 1))) = 1)) : ∀ q, ¬ RT b L q := by
  rintro q (⟨j, v, k1, k2, k3, k4, k5, _⟩ | ⟨u, k1, _⟩)
  · have := hi.uniq k1; subst this
    have := hu.uniq k2; subst this
    exact h ⟨by omega, k5⟩
  · exact hi.no k1
theorem rt_no4 {b L} (hi : NoBar b L) (h : ∀ u, ¬ IsWh b L u) : ∀ q, ¬ RT b L q := by
  rintro q (⟨j, u, k1, k2, _⟩ | ⟨u, k1, k2, _⟩)
  · exact k1.no hi
  · exact h u k2
theorem rt_yes {b L i u} (hi : Bar b L i) (hu : IsWh b i u) (h1 : IsNum (bsh b (i + 1)) (L - (i + 1)) ∧ dn (bsh b (i + 1)) (L - (i + 1)) ≠ 1) (h : 0 < dn (bsh b (i + 1)) (L - (i + 1)) ∧ u.natAbs.gcd (dn (bsh b (i + 1)) (L - (i + 1))) = 1) : RT b L ((u : Rat) / (((dn (bsh b (i + 1)) (L - (i + 1)) : Nat) : Int) : Rat)) :=
  .inl ⟨i, u, hi, hu, h1.1, by have := h1.2; omega, h.2, rfl⟩

set_option maxRecDepth 100000 in
set_option maxHeartbeats 4000000 in
theorem rReadLong_c (t : ByteArray) (w : World) (hL : 1048576 < t.size) :
    Calls Tryz.prog 70 #[.string t] w fun e w' => e = .returned (.tuple #[.agg #[.bool false, .slice none 0 0, .slice none 0 0], .int .i64 2]) ∧ Below w.heap.size w w' := by
  have hd : decide ((1048576 : Int) < (t.size : Int)) = true := by simp; omega
  go_enter Tryz.func70, Tryz.ntmps70
  go_wp2
  exact bodyPost_ret (v := .tuple #[.agg #[.bool false, .slice none 0 0, .slice none 0 0], .int .i64 2]) (by simp [results, Tryz.results70, go_sem]) rfl ⟨rfl, below_alloc (Below.refl _ _) _⟩

set_option maxRecDepth 100000 in
set_option maxHeartbeats 8000000 in
theorem rReadBar_c (t : ByteArray) (L : Nat) (b : Nat → Nat) (i : Nat) (w : World) (hs : Sb t L b) (hL : L ≤ 1000) (hi : Bar b L i) :
    Calls Tryz.prog 70 #[.string t] w fun e w' => ∃ s x n c f y m d g er, e = .returned (.tuple #[.agg #[.bool s, .slice x n c, .slice y m d], .int .i64 er]) ∧ Below w.heap.size w w' ∧ RRead b L w' s x n c f y m d g er := by
  have h3 := ob_new w 24
  have h4 := below_alloc (Below.refl w.heap.size w) (.cells #[.bool false, .slice none 0 0, .slice none 0 0] 24)
  have hsz := hs.1
  have hiL := hi.1
  have hd : decide ((1048576 : Int) < (t.size : Int)) = false := by simp; omega
  have S1 := hid (hs.take (c := i) (by omega)); have S2 := hid (hs.drop (c := i + 1) (by omega))
  have CUT := hid (fun W => cutBar_c hs (by omega) hi W)
  have HI := hid hi
  clear hs hi hsz
  generalize t.extract 0 i = ta at *
  generalize t.extract (i + 1) L = tb at *
  go_enter Tryz.func70, Tryz.ntmps70
  go_wp2_with fail
  generalize w.alloc (.cells #[.bool false, .slice none 0 0, .slice none 0 0] 24) = w1 at *
  have OB1 := hid h3; have HW1 := hid h4
  clear h3 h4
  refine (CUT.out _).mono ?_
  rintro e w2 ⟨rfl, hb⟩
  have OB2 := hid (OB1.out.below hb); have HW2 := hid (HW1.out.trans (hb.mono HW1.out.size))
  clear hb OB1 HW1 CUT hd
  go_wp2_with fail
  refine (wRead_c ta i b _ S1.out (by omega)).mono ?_
  rintro e w3 ⟨s3, x3, k3, c3, f3, er, rfl, hr, hans⟩
  have hb := hr.res.bel
  have WA3 := hid ((hr.wn rfl).alloc (.cells #[.bool s3, .slice x3 k3 c3] 102)); have OB3 := hid ((OB2.out.below hb).alloc (.cells #[.bool s3, .slice x3 k3 c3] 102)); have HW3 := hid (below_alloc (HW2.out.trans (hb.mono HW2.out.size)) (.cells #[.bool s3, .slice x3 k3 c3] 102))
  have BA3 : Hid (Bx (w3.alloc (.cells #[.bool s3, .slice x3 k3 c3] 102)) w3.heap.size s3 x3 k3 c3) := ⟨by simp, kN0, kN1⟩
  have hcs := wread_cases hans (by omega)
  clear hb hr hans OB2 HW2
  rcases hcs with ⟨rfl, hwh⟩ | ⟨rfl, hno⟩
  rotate_left
  · have NO := hid (rt_no1 HI.out hno)
    clear hno
    go_upto_region 5 with fail
    generalize w3.alloc (.cells #[.bool s3, .slice x3 k3 c3] 102) = w4 at *
    generalize w3.heap.size = b3 at *
    obtain ⟨hz, z0, z1, z2, zf⟩ := OB3.out
    go_wp2
    exact bodyPost_ret (v := .tuple #[.agg #[.bool false, .slice none 0 0, .slice none 0 0], .int .i64 11]) (by simp [results, Tryz.results70, go_sem, z0, z1, z2]) rfl ⟨false, none, 0, 0, fun _ => 0, none, 0, 0, fun _ => 0, 11, rfl, below_st HW3.out (Nat.le_refl _), .inr (.inr ⟨by omega, NO.out, rfl, rfl, rfl, rfl⟩)⟩
  have HWh := hid hwh
  have hk3 := isWh_len WA3.out hwh
  clear hwh
  generalize wv s3 f3 k3 = u at *
  go_wp2_with fail
  generalize w3.alloc (.cells #[.bool s3, .slice x3 k3 c3] 102) = w4 at *
  generalize w3.heap.size = b3 at *
  refine (ratOne_c _).mono ?_
  rintro e w5 ⟨x5, f5, rfl, hb, _⟩
  have OB5 := hid (OB3.out.below hb); have HW5 := hid (HW3.out.trans (hb.mono HW3.out.size)); have BA5 := hid (BA3.out.below hb); have WA5 := hid (WA3.out.below hb)
  clear hb OB3 HW3 BA3 WA3
  go_wp2_with fail
  refine (readDen_c tb (L - (i + 1)) (bsh b (i + 1)) _ S2.out (by omega)).mono ?_
  rintro e w6 ⟨x6, k6, c6, f6, e6, rfl, hb, HD⟩
  have OB6 := hid (OB5.out.below hb); have HW6 := hid (HW5.out.trans (hb.mono HW5.out.size)); have BA6 := hid (BA5.out.below hb); have WA6 := hid (WA5.out.below hb)
  clear hb OB5 HW5 BA5 WA5
  obtain ⟨za, a0, a1⟩ := BA6.out
  go_wp2_with fail
  refine (rsigned_c s3 x3 x6 k3 c3 k6 c6 _ (by omega)).mono ?_
  rintro e w7 ⟨r7, rfl, HR7, hb⟩
  obtain rfl := sgn_same WA6.out HR7.out
  have OB7 := hid ((OB6.out.below hb).alloc (.cells #[.bool r7, .slice x3 k3 c3, .slice x6 k6 c6] 24)); have HW7 := hid (below_alloc (HW6.out.trans (hb.mono HW6.out.size)) (.cells #[.bool r7, .slice x3 k3 c3, .slice x6 k6 c6] 24)); have WA7 := hid ((WA6.out.below hb).alloc (.cells #[.bool r7, .slice x3 k3 c3, .slice x6 k6 c6] 24))
  have BR7 := hid (bx3_at w7 (.bool r7) (.slice x3 k3 c3) (.slice x6 k6 c6) 24)
  have hdr := HD.out
  have HB7 := hid hb
  clear hb OB6 HW6 BA6 za a0 a1 HD
  rcases hdr with ⟨hnum, rfl, hwd⟩ | ⟨hno, rfl⟩
  rotate_left
  · have NO := hid (rt_no2 HI.out hno)
    clear hno
    go_upto_region 11 with fail
    generalize w7.alloc (.cells #[.bool r7, .slice x3 k3 c3, .slice x6 k6 c6] 24) = w8 at *
    generalize w7.heap.size = b8 at *
    obtain ⟨hz, z0, z1, z2, zf⟩ := OB7.out
    go_wp2
    exact bodyPost_ret (v := .tuple #[.agg #[.bool false, .slice none 0 0, .slice none 0 0], .int .i64 11]) (by simp [results, Tryz.results70, go_sem, z0, z1, z2]) rfl ⟨false, none, 0, 0, fun _ => 0, none, 0, 0, fun _ => 0, 11, rfl, below_st HW7.out (Nat.le_refl _), .inr (.inr ⟨by omega, NO.out, rfl, rfl, rfl, rfl⟩)⟩
  have HNm := hid hnum
  have WD7 := hid ((hwd.below HB7.out).alloc (.cells #[.bool r7, .slice x3 k3 c3, .slice x6 k6 c6] 24))
  have hk6 := hwd.len_dn hnum.1.1
  clear hnum hwd
  have hrf := rf_eq WA7.out WD7.out
  go_upto_region 11 with fail
  generalize w7.alloc (.cells #[.bool r7, .slice x3 k3 c3, .slice x6 k6 c6] 24) = w8 at *
  generalize w7.heap.size = b8 at *
  have c8 := rForm_c (w := w8) (s := r7) (⟨WA7.out.rd, WA7.out.lm, WA7.out.cap, WA7.out.nil, WD7.out.rd, WD7.out.lm, WD7.out.cap, WD7.out.nil⟩ : Rw _ x3 k3 c3 f3 x6 k6 c6 f6) (by omega) (by omega)
  rw [hrf] at c8
  clear hrf
  by_cases hg : 0 < dn (bsh b (i + 1)) (L - (i + 1)) ∧ u.natAbs.gcd (dn (bsh b (i + 1)) (L - (i + 1))) = 1
  · rw [show (decide (0 < dn (bsh b (i + 1)) (L - (i + 1))) && decide (u.natAbs.gcd (dn (bsh b (i + 1)) (L - (i + 1))) = 1)) = true by simp [hg.1, hg.2]] at c8
    have C8 := hid c8
    have RN := hid (rn_made (L := 2000) WA7.out WD7.out hg.1 hg.2 (by omega) (by omega))
    have YES := hid (rt_yes HI.out HWh.out HNm.out hg)
    clear c8 hg
    obtain ⟨zr, r0, r1, r2⟩ := BR7.out
    go_wp2_with fail
    refine C8.out.mono ?_
    rintro e w9 ⟨rfl, hb⟩
    have OB9 := hid (OB7.out.below hb); have HW9 := hid (HW7.out.trans (hb.mono HW7.out.size)); have RN9 := hid (RN.out.below hb); have BR9 := hid (BR7.out.below hb)
    clear hb zr r0 r1 r2
    obtain ⟨zr, r0, r1, r2⟩ := BR9.out
    obtain ⟨hz, z0, z1, z2, zf⟩ := OB9.out
    go_wp2
    exact bodyPost_ret (v := .tuple #[.agg #[.bool r7, .slice x3 k3 c3, .slice x6 k6 c6], .int .i64 0]) (by simp [results, Tryz.results70, go_sem, z0, z1, z2]) rfl ⟨r7, x3, k3, c3, f3, x6, k6, c6, f6, 0, rfl, below_st HW9.out (Nat.le_refl _), .inr (.inl ⟨by omega, ⟨_, YES.out, OB9.out.rn RN9.out⟩, rfl⟩)⟩
  · rw [show (decide (0 < dn (bsh b (i + 1)) (L - (i + 1))) && decide (u.natAbs.gcd (dn (bsh b (i + 1)) (L - (i + 1))) = 1)) = false by
      rw [Bool.and_eq_false_iff, decide_eq_false_iff_not, decide_eq_false_iff_not]
      by_cases h : 0 < dn (bsh b (i + 1)) (L - (i + 1))
      · exact .inr (fun k => hg ⟨h, k⟩)
      · exact .inl h] at c8
    have C8 := hid c8
    have NO := hid (rt_no3 HI.out HWh.out hg)
    clear c8 hg
    obtain ⟨zr, r0, r1, r2⟩ := BR7.out
    go_wp2_with fail
    refine C8.out.mono ?_
    rintro e w9 ⟨rfl, hb⟩
    have OB9 := hid (OB7.out.below hb); have HW9 := hid (HW7.out.trans (hb.mono HW7.out.size))
    clear hb zr r0 r1 r2
    obtain ⟨hz, z0, z1, z2, zf⟩ := OB9.out
    go_wp2
    exact bodyPost_ret (v := .tuple #[.agg #[.bool false, .slice none 0 0, .slice none 0 0], .int .i64 11]) (by simp [results, Tryz.results70, go_sem, z0, z1, z2]) rfl ⟨false, none, 0, 0, fun _ => 0, none, 0, 0, fun _ => 0, 11, rfl, below_st HW9.out (Nat.le_refl _), .inr (.inr ⟨by omega, NO.out, rfl, rfl, rfl, rfl⟩)⟩

set_option maxRecDepth 100000 in
set_option maxHeartbeats 8000000 in
theorem rReadNone_c (t : ByteArray) (L : Nat) (b : Nat → Nat) (w : World) (hs : Sb t L b) (hL : L ≤ 1000) (hi : NoBar b L) :
    Calls Tryz.prog 70 #[.string t] w fun e w' => ∃ s x n c f y m d g er, e = .returned (.tuple #[.agg #[.bool s, .slice x n c, .slice y m d], .int .i64 er]) ∧ Below w.heap.size w w' ∧ RRead b L w' s x n c f y m d g er := by
  have h3 := ob_new w 24
  have h4 := below_alloc (Below.refl w.heap.size w) (.cells #[.bool false, .slice none 0 0, .slice none 0 0] 24)
  have hsz := hs.1
  have hd : decide ((1048576 : Int) < (t.size : Int)) = false := by simp; omega
  have S1 := hid hs
  have CUT := hid (fun W => cutNone_c hs (by omega) hi W)
  have HI := hid hi
  clear hs hi hsz
  go_enter Tryz.func70, Tryz.ntmps70
  go_wp2_with fail
  generalize w.alloc (.cells #[.bool false, .slice none 0 0, .slice none 0 0] 24) = w1 at *
  have OB1 := hid h3; have HW1 := hid h4
  clear h3 h4
  refine (CUT.out _).mono ?_
  rintro e w2 ⟨rfl, hb⟩
  have OB2 := hid (OB1.out.below hb); have HW2 := hid (HW1.out.trans (hb.mono HW1.out.size))
  clear hb OB1 HW1 CUT hd
  go_wp2_with fail
  refine (wRead_c t L b _ S1.out (by omega)).mono ?_
  rintro e w3 ⟨s3, x3, k3, c3, f3, er, rfl, hr, hans⟩
  have hb := hr.res.bel
  have WA3 := hid ((hr.wn rfl).alloc (.cells #[.bool s3, .slice x3 k3 c3] 102)); have OB3 := hid ((OB2.out.below hb).alloc (.cells #[.bool s3, .slice x3 k3 c3] 102)); have HW3 := hid (below_alloc (HW2.out.trans (hb.mono HW2.out.size)) (.cells #[.bool s3, .slice x3 k3 c3] 102))
  have BA3 : Hid (Bx (w3.alloc (.cells #[.bool s3, .slice x3 k3 c3] 102)) w3.heap.size s3 x3 k3 c3) := ⟨by simp, kN0, kN1⟩
  have hcs := wread_cases hans (by omega)
  clear hb hr hans OB2 HW2
  rcases hcs with ⟨rfl, hwh⟩ | ⟨rfl, hno⟩
  rotate_left
  · have NO := hid (rt_no4 HI.out hno)
    clear hno
    go_upto_region 5 with fail
    generalize w3.alloc (.cells #[.bool s3, .slice x3 k3 c3] 102) = w4 at *
    generalize w3.heap.size = b3 at *
    obtain ⟨hz, z0, z1, z2, zf⟩ := OB3.out
    go_wp2
    exact bodyPost_ret (v := .tuple #[.agg #[.bool false, .slice none 0 0, .slice none 0 0], .int .i64 11]) (by simp [results, Tryz.results70, go_sem, z0, z1, z2]) rfl ⟨false, none, 0, 0, fun _ => 0, none, 0, 0, fun _ => 0, 11, rfl, below_st HW3.out (Nat.le_refl _), .inr (.inr ⟨by omega, NO.out, rfl, rfl, rfl, rfl⟩)⟩
  have HWh := hid hwh
  have hk3 := isWh_len WA3.out hwh
  clear hwh
  generalize wv s3 f3 k3 = u at *
  go_wp2_with fail
  generalize w3.alloc (.cells #[.bool s3, .slice x3 k3 c3] 102) = w4 at *
  generalize w3.heap.size = b3 at *
  refine (ratOne_c _).mono ?_
  rintro e w5 ⟨x5, f5, rfl, hb, hone⟩
  have OB5 := hid (OB3.out.below hb); have HW5 := hid (HW3.out.trans (hb.mono HW3.out.size)); have BA5 := hid (BA3.out.below hb); have WA5 := hid (WA3.out.below hb); have WD5 := hid hone
  clear hb OB3 HW3 BA3 WA3 hone
  obtain ⟨za, a0, a1⟩ := BA5.out
  go_wp2_with fail
  refine (rsigned_c s3 x3 x5 k3 c3 1 1 _ (by omega)).mono ?_
  rintro e w7 ⟨r7, rfl, HR7, hb⟩
  obtain rfl := sgn_same WA5.out HR7.out
  have OB7 := hid ((OB5.out.below hb).alloc (.cells #[.bool r7, .slice x3 k3 c3, .slice x5 1 1] 24)); have HW7 := hid (below_alloc (HW5.out.trans (hb.mono HW5.out.size)) (.cells #[.bool r7, .slice x3 k3 c3, .slice x5 1 1] 24)); have WA7 := hid ((WA5.out.below hb).alloc (.cells #[.bool r7, .slice x3 k3 c3, .slice x5 1 1] 24)); have WD7 := hid ((WD5.out.below hb).alloc (.cells #[.bool r7, .slice x3 k3 c3, .slice x5 1 1] 24))
  have BR7 := hid (bx3_at w7 (.bool r7) (.slice x3 k3 c3) (.slice x5 1 1) 24)
  clear hb OB5 HW5 BA5 WA5 WD5 za a0 a1
  have hrf : rfB r7 f3 k3 f5 1 = true := by
    rw [rf_eq (D := 1) WA7.out WD7.out]; simp
  go_upto_region 11 with fail
  generalize w7.alloc (.cells #[.bool r7, .slice x3 k3 c3, .slice x5 1 1] 24) = w8 at *
  generalize w7.heap.size = b8 at *
  have c8 := rForm_c (w := w8) (s := r7) (⟨WA7.out.rd, WA7.out.lm, WA7.out.cap, WA7.out.nil, WD7.out.rd, WD7.out.lm, WD7.out.cap, WD7.out.nil⟩ : Rw _ x3 k3 c3 f3 x5 1 1 f5) (by omega) (by omega)
  rw [hrf] at c8
  have C8 := hid c8
  have RN := hid (rn_whole (L := 2000) WA7.out WD7.out (by omega) (by omega))
  have YES : Hid (RT b L (u : Rat)) := .inr ⟨u, HI.out, HWh.out, rfl⟩
  clear hrf c8
  obtain ⟨zr, r0, r1, r2⟩ := BR7.out
  go_wp2_with fail
  refine C8.out.mono ?_
  rintro e w9 ⟨rfl, hb⟩
  have OB9 := hid (OB7.out.below hb); have HW9 := hid (HW7.out.trans (hb.mono HW7.out.size)); have RN9 := hid (RN.out.below hb); have BR9 := hid (BR7.out.below hb)
  clear hb zr r0 r1 r2
  obtain ⟨zr, r0, r1, r2⟩ := BR9.out
  obtain ⟨hz, z0, z1, z2, zf⟩ := OB9.out
  go_wp2
  exact bodyPost_ret (v := .tuple #[.agg #[.bool r7, .slice x3 k3 c3, .slice x5 1 1], .int .i64 0]) (by simp [results, Tryz.results70, go_sem, z0, z1, z2]) rfl ⟨r7, x3, k3, c3, f3, x5, 1, 1, f5, 0, rfl, below_st HW9.out (Nat.le_refl _), .inr (.inl ⟨by omega, ⟨_, YES.out, OB9.out.rn RN9.out⟩, rfl⟩)⟩

theorem rRead_g (t : ByteArray) (b : Nat → Nat) (w : World) (hs : Sb t t.size b) (hL : t.size ≤ 1000 ∨ 1048576 < t.size) :
    Calls Tryz.prog 70 #[.string t] w fun e w' => ∃ s x n c f y m d g er, e = .returned (.tuple #[.agg #[.bool s, .slice x n c, .slice y m d], .int .i64 er]) ∧ Below w.heap.size w w' ∧ RRead b t.size w' s x n c f y m d g er := by
  rcases hL with hL | hL
  · rcases bar_or b t.size with ⟨i, hi⟩ | hi
    · exact rReadBar_c t t.size b i w hs hL hi
    · exact rReadNone_c t t.size b w hs hL hi
  · exact (rReadLong_c t w hL).mono (fun _ _ ⟨h1, h2⟩ => ⟨false, none, 0, 0, fun _ => 0, none, 0, 0, fun _ => 0, 2, h1, h2, .inl ⟨hL, rfl, rfl, rfl, rfl⟩⟩)
end Go.Proofs.YtbindadjepfkcaaGreatDoor
namespace Go.Proofs.YtbindadjepfkcaaGreatDoor
open Go.RowKit

theorem dn_congr {b c : Nat → Nat} {n : Nat} (h : ∀ k, k < n → b k = c k) : dn b n = dn c n := by
  induction n with
  | zero => rfl
  | succ n ih => show dn b n * 10 + (b n - 48) = dn c n * 10 + (c n - 48); rw [ih (fun k hk => h k (by omega)), h n (by omega)]
/-- A digit of the number that digits tell. -/
theorem dn_digit {b : Nat → Nat} {L k : Nat} (hd : Dig b L) (hk : k < L) : dg8 (dn b L) (L - 1 - k) = b k := by
  have e := dn_split b (k + 1) (L - 1 - k)
  rw [show k + 1 + (L - 1 - k) = L by omega] at e
  have hl := dn_lt (hd.bsh (i := k + 1) (n := L - 1 - k) (by omega))
  have hp : 0 < 10 ^ (L - 1 - k) := Nat.pow_pos (by decide)
  have e2 : dn b L / 10 ^ (L - 1 - k) = dn b (k + 1) := by
    rw [e, Nat.add_comm, Nat.add_mul_div_right _ _ hp, Nat.div_eq_of_lt hl]; omega
  have hb := hd k hk
  unfold dg8
  rw [e2]
  show 48 + (dn b k * 10 + (b k - 48)) % 10 = b k
  omega
theorem dn_ndigits {b : Nat → Nat} {L : Nat} (h : IsNum b L) : Lib.nDigits (dn b L) = L := by
  obtain ⟨hd, hL, h1⟩ := h
  have hlt := dn_lt hd
  by_cases h0 : L = 1
  · subst h0
    rw [Lib.nDigits_small (by simpa using hlt)]
  · have hne : b 0 ≠ 48 := by rcases h1 with h | h; exact absurd h h0; exact h
    have hb := hd 0 hL
    have e := dn_split b 1 (L - 1)
    rw [show 1 + (L - 1) = L by omega] at e
    have e1 : dn b 1 = b 0 - 48 := by show dn b 0 * 10 + (b 0 - 48) = _; simp [dn]
    have hge : 10 ^ (L - 1) ≤ dn b L := by
      rw [e, e1]
      have : 1 * 10 ^ (L - 1) ≤ (b 0 - 48) * 10 ^ (L - 1) := Nat.mul_le_mul_right _ (by omega)
      omega
    have := Lib.nDigits_unique (L - 1) (dn b L) hge (by rw [show L - 1 + 1 = L by omega]; exact hlt)
    omega
/-- A text that is read is the one that is written. -/
theorem text_of_read {s : ByteArray} {L : Nat} {b : Nat → Nat} (hs : Sb s L b) (h : IsNum b L) : s = ⟨(Lib.decDigits (dn b L)).toArray⟩ := by
  have h1 := sb_dec (dn b L)
  rw [dn_ndigits h] at h1
  exact sb_eq hs (h1.congr (fun k hk => dn_digit h.1 hk))
theorem dg8_dig (V N L : Nat) : Dig (fun k => dg8 V (N - k)) L := fun k _ => by
  show 48 ≤ dg8 V _ ∧ dg8 V _ ≤ 57
  unfold dg8
  omega
theorem lt_ndigits (V : Nat) : V < 10 ^ Lib.nDigits V := by
  have h : ∀ (N V : Nat), Lib.nDigits V = N + 1 → V < 10 ^ (N + 1) := by
    intro N
    induction N with
    | zero =>
      intro V h
      by_cases hu : V < 10
      · simpa using hu
      · rw [Lib.nDigits_big hu] at h; have := Lib.nDigits_pos (V / 10); omega
    | succ N ih =>
      intro V h
      by_cases hu : V < 10
      · rw [Lib.nDigits_small hu] at h; omega
      · rw [Lib.nDigits_big hu] at h
        have := ih (V / 10) (by omega)
        rw [Nat.pow_succ]; omega
  have hp := Lib.nDigits_pos V
  have := h (Lib.nDigits V - 1) V (by omega)
  rwa [show Lib.nDigits V - 1 + 1 = Lib.nDigits V by omega] at this
/-- The digits of a number tell it. -/
theorem dn_dec (V : Nat) : dn (fun k => dg8 V (Lib.nDigits V - 1 - k)) (Lib.nDigits V) = V := by
  have h : ∀ k, k ≤ Lib.nDigits V → dn (fun k => dg8 V (Lib.nDigits V - 1 - k)) k = V / 10 ^ (Lib.nDigits V - k) := by
    intro k
    induction k with
    | zero => intro _; rw [Nat.sub_zero, Nat.div_eq_of_lt (lt_ndigits V)]; rfl
    | succ k ih =>
      intro hk
      show dn _ k * 10 + (dg8 V (Lib.nDigits V - 1 - k) - 48) = _
      rw [ih (by omega), show Lib.nDigits V - k = (Lib.nDigits V - (k + 1)) + 1 by omega, Nat.pow_succ, ← Nat.div_div_eq_div_mul, show Lib.nDigits V - 1 - k = Lib.nDigits V - (k + 1) by omega]
      unfold dg8
      omega
  have := h (Lib.nDigits V) (Nat.le_refl _)
  rw [this]; simp
theorem isNum_dec (V : Nat) : IsNum (fun k => dg8 V (Lib.nDigits V - 1 - k)) (Lib.nDigits V) := by
  have hp := Lib.nDigits_pos V
  refine ⟨dg8_dig _ _ _, hp, ?_⟩
  by_cases h1 : Lib.nDigits V = 1
  · exact .inl h1
  · right
    have hV : 0 < V := by
      apply Nat.pos_of_ne_zero
      rintro rfl
      exact h1 (Lib.nDigits_small (by omega))
    have := dgi_top hV
    unfold dgi at this
    show 48 + V / 10 ^ (Lib.nDigits V - 1 - 0) % 10 ≠ 48
    rw [Nat.sub_zero]
    omega
end Go.Proofs.YtbindadjepfkcaaGreatDoor
namespace Go.Proofs.YtbindadjepfkcaaGreatDoor
open Go.RowKit

theorem IsNum.congr {b b' : Nat → Nat} {L : Nat} (h : ∀ k, k < L → b k = b' k) (hn : IsNum b L) : IsNum b' L := by
  obtain ⟨h1, h2, h3⟩ := hn
  refine ⟨fun k hk => by rw [← h k hk]; exact h1 k hk, h2, ?_⟩
  rcases h3 with h3 | h3
  · exact .inl h3
  · exact .inr (by rw [← h 0 (by omega)]; exact h3)
theorem Sb.append {s t : ByteArray} {L M : Nat} {b c : Nat → Nat} (hs : Sb s L b) (ht : Sb t M c) : Sb (s ++ t) (L + M) (fun k => if k < L then b k else c (k - L)) := by
  obtain ⟨h1, h2⟩ := hs
  obtain ⟨k1, k2⟩ := ht
  refine ⟨by rw [ByteArray.size_append, h1, k1], fun k hk => ?_⟩
  show _ = (if k < L then b k else c (k - L))
  by_cases hl : k < L
  · rw [if_pos hl, ← h2 k (by omega)]
    congr 1
    exact ByteArray.getElem_append_left (by omega)
  · rw [if_neg hl]
    rw [ByteArray.size_append] at hk
    have := k2 (k - L) (by omega)
    rw [← this]
    congr 1
    subst h1
    exact ByteArray.getElem_append_right (by omega)
theorem Sb.same {s : ByteArray} {L : Nat} {b c : Nat → Nat} (h : Sb s L b) (k : Sb s L c) : ∀ j, j < L → b j = c j := fun j hj => by
  rw [← h.2 j (by rw [h.1]; exact hj), k.2 j (by rw [h.1]; exact hj)]
theorem IsWh.congr {b b' : Nat → Nat} {L : Nat} {u : Int} (h : ∀ k, k < L → b k = b' k) (hn : IsWh b L u) : IsWh b' L u := by
  rcases hn with ⟨⟨h1, h2⟩, ⟨h3, h4⟩, h5⟩ | ⟨h1, h2, h3⟩
  · have hb : ∀ k, k < L - 1 → bsh b 1 k = bsh b' 1 k := fun k hk => h (1 + k) (by omega)
    rw [dn_congr hb] at h4 h5
    exact .inl ⟨⟨h1, by rw [← h 0 h1]; exact h2⟩, ⟨h3.congr hb, h4⟩, h5⟩
  · rw [dn_congr h] at h3
    exact .inr ⟨fun k => h1 ⟨k.1, by rw [h 0 k.1]; exact k.2⟩, h2.congr h, h3⟩
theorem RT.congr {b b' : Nat → Nat} {L : Nat} {q : Rat} (h : ∀ k, k < L → b k = b' k) (hn : RT b L q) : RT b' L q := by
  rcases hn with ⟨i, u, ⟨h1, h2, h3⟩, h4, h5, h6, h7, h8⟩ | ⟨u, h1, h2, h3⟩
  · have hb : ∀ k, k < L - (i + 1) → bsh b (i + 1) k = bsh b' (i + 1) k := fun k hk => h (i + 1 + k) (by omega)
    rw [dn_congr hb] at h6 h7 h8
    exact .inl ⟨i, u, ⟨h1, by rw [← h i h1]; exact h2, fun j hj => by rw [← h j (by omega)]; exact h3 j hj⟩, h4.congr (fun k hk => h k (by omega)), h5.congr hb, h6, h7, h8⟩
  · exact .inr ⟨u, fun j hj => by rw [← h j hj]; exact h1 j hj, h2.congr h, h3⟩
def bdec (V : Nat) : Nat → Nat := fun k => dg8 V (Lib.nDigits V - 1 - k)
def bwtx (s : Bool) (V : Nat) : Nat → Nat := fun k => if s then (if k < 1 then 45 else bdec V (k - 1)) else bdec V k
def lwtx (s : Bool) (V : Nat) : Nat := if s then 1 + Lib.nDigits V else Lib.nDigits V
theorem sb_wtx (s : Bool) (V : Nat) : Sb (wtx s V) (lwtx s V) (bwtx s V) := by
  cases s
  · exact sb_dec V
  · have h1 : Sb ⟨#[45]⟩ 1 (fun _ => 45) := ⟨rfl, fun k hk => by
      have hk1 : k < 1 := hk
      obtain rfl : k = 0 := by omega
      rfl⟩
    exact h1.append (sb_dec V)
theorem dig_ne {b : Nat → Nat} {L : Nat} (h : IsNum b L) {k : Nat} (hk : k < L) : b k ≠ 47 ∧ b k ≠ 45 := by
  have := h.1 k hk; omega
theorem isWh_wtx {s : Bool} {V : Nat} {u : Int} (hu : u = sg s V) (hp : s = true → 0 < V) : IsWh (bwtx s V) (lwtx s V) u := by
  have hn := isNum_dec V
  have hd := dn_dec V
  cases s
  · refine .inr ⟨fun h => (dig_ne hn h.1).2 h.2, hn, ?_⟩
    have hu' : u = (V : Int) := hu
    rw [hu']
    exact congrArg (fun x : Nat => (x : Int)) hd.symm
  · have e : ∀ k, bsh (bwtx true V) 1 k = bdec V k := fun k => by
      show (if (1 + k) < 1 then 45 else bdec V (1 + k - 1)) = bdec V k
      rw [if_neg (by omega), Nat.add_sub_cancel_left]
    have el : lwtx true V - 1 = Lib.nDigits V := by show 1 + Lib.nDigits V - 1 = _; omega
    have hd' : dn (bsh (bwtx true V) 1) (lwtx true V - 1) = V := by rw [el, dn_congr (fun k _ => e k)]; exact hd
    refine .inl ⟨⟨by show 0 < 1 + _; omega, rfl⟩, ⟨by rw [el]; exact hn.congr (fun k _ => (e k).symm), by rw [hd']; exact hp rfl⟩, ?_⟩
    rw [hd']; exact hu
theorem nobar_wtx (s : Bool) (V : Nat) : NoBar (bwtx s V) (lwtx s V) := fun j hj => by
  have hn := isNum_dec V
  cases s
  · exact (dig_ne hn hj).1
  · show (if j < 1 then 45 else bdec V (j - 1)) ≠ 47
    by_cases h : j < 1
    · rw [if_pos h]; decide
    · rw [if_neg h]
      have hj' : j < 1 + Lib.nDigits V := hj
      exact (dig_ne hn (k := j - 1) (by omega)).1
/-- The text of q is read as q. -/
theorem rt_qtx {s : Bool} {q : Rat} (hs : q.num = sg s q.num.natAbs) (hp : s = true → 0 < q.num.natAbs) : ∃ L b, Sb (qtx s q) L b ∧ RT b L q := by
  unfold qtx
  have hw := isWh_wtx hs hp
  by_cases h1 : q.den = 1
  · rw [if_pos h1]
    refine ⟨_, _, sb_wtx s _, .inr ⟨q.num, nobar_wtx s _, hw, ?_⟩⟩
    exact Rat.ext (by rw [Rat.num_intCast]) (by rw [Rat.den_intCast]; exact h1)
  · rw [if_neg h1]
    have hb : Sb ⟨#[47]⟩ 1 (fun _ => 47) := ⟨rfl, fun k hk => by
      have hk1 : k < 1 := hk
      obtain rfl : k = 0 := by omega
      rfl⟩
    have hd := q.den_pos
    have hg : q.num.natAbs.gcd q.den = 1 := q.reduced
    have hsb := ((sb_wtx s q.num.natAbs).append hb).append (sb_dec q.den)
    obtain ⟨i, hi⟩ : ∃ i, lwtx s q.num.natAbs = i := ⟨_, rfl⟩
    rw [hi] at hsb hw
    have hnb := nobar_wtx s q.num.natAbs
    rw [hi] at hnb
    obtain ⟨B, hB⟩ : ∃ B : Nat → Nat, B = (fun k => if k < i + 1 then (if k < i then bwtx s q.num.natAbs k else 47) else bdec q.den (k - (i + 1))) := ⟨_, rfl⟩
    have hb0 : ∀ k, k < i → B k = bwtx s q.num.natAbs k := fun k hk => by rw [hB]; show (if k < i + 1 then _ else _) = _; rw [if_pos (by omega), if_pos hk]
    have hb1 : B i = 47 := by rw [hB]; show (if i < i + 1 then _ else _) = _; rw [if_pos (by omega), if_neg (by omega)]
    have hb2 : ∀ k, bsh B (i + 1) k = bdec q.den k := fun k => by
      show B (i + 1 + k) = _
      rw [hB]; show (if i + 1 + k < i + 1 then _ else _) = _; rw [if_neg (by omega)]; congr 1; omega
    have hl : i + 1 + Lib.nDigits q.den - (i + 1) = Lib.nDigits q.den := by omega
    have hdn : dn (bsh B (i + 1)) (i + 1 + Lib.nDigits q.den - (i + 1)) = q.den := by rw [hl, dn_congr (fun k _ => hb2 k)]; exact dn_dec q.den
    have hnp := Lib.nDigits_pos q.den
    refine ⟨i + 1 + Lib.nDigits q.den, B, by rw [hB]; exact hsb, .inl ⟨i, q.num, ⟨by omega, hb1, fun j hj => by rw [hb0 j hj]; exact hnb j hj⟩, hw.congr (fun k hk => (hb0 k hk).symm), ?_, ?_, ?_, ?_⟩⟩
    · rw [hl]; exact (isNum_dec q.den).congr (fun k _ => (hb2 k).symm)
    · rw [hdn]; omega
    · rw [hdn]; exact hg
    · rw [hdn]
      have e0 : ((q.den : Nat) : Int).natAbs = q.den := by omega
      obtain ⟨e1, e2⟩ := make_made (u := q.num) (v := ((q.den : Nat) : Int)) (s := s) (t := false) hs (by show ((q.den : Nat) : Int) = (((q.den : Nat) : Int).natAbs : Int); omega) (by omega)
      rw [e0, hg, Nat.div_one] at e1 e2
      have e3 : (s != false) = s := by cases s <;> rfl
      rw [e3, ← hs] at e1
      exact Rat.ext e1.symm e2.symm
end Go.Proofs.YtbindadjepfkcaaGreatDoor
namespace Go.Proofs.YtbindadjepfkcaaGreatDoor
open Go.RowKit

/-- A box that holds a bound and may be written. -/
structure Wb (w : World) (B : Nat) (i : Int) (s : Bool) (x : Option Addr) (n c : Nat) (y : Option Addr) (m d : Nat) : Prop where
  bx : Bx4 w B (.int .i64 i) (.bool s) (.slice x n c) (.slice y m d)
  fr : ∀ o, w.frozen? ⟨B, o, none⟩ = false
theorem Wb.below {w w' B i s x n c y m d} (h : Wb w B i s x n c y m d) (hb : Below w.heap.size w w') : Wb w' B i s x n c y m d :=
  ⟨h.bx.below hb, fun o => ((bcell hb).2 _ _ h.bx.z).trans (h.fr o)⟩
theorem kWbb {w w' B i s x n c y m d} (hb : Below w.heap.size w w') (h : Wb w B i s x n c y m d) : Wb w' B i s x n c y m d := h.below hb
theorem kWbd {w B i s x n c y m d} (h : Wb w B i s x n c y m d) : Wb w.drew B i s x n c y m d := ⟨⟨h.bx.z, h.bx.x0, h.bx.x1, h.bx.x2, h.bx.x3⟩, h.fr⟩
theorem Wb.alloc {w B i s x n c y m d} (h : Wb w B i s x n c y m d) (o : Obj) : Wb (w.alloc o) B i s x n c y m d := h.below (below_alloc (Below.refl _ _) o)
theorem wb_at (w : World) (i : Int) (s : Bool) (x : Option Addr) (n c : Nat) (y : Option Addr) (m d : Nat) (t : TypeId) : Wb (w.alloc (.cells #[.int .i64 i, .bool s, .slice x n c, .slice y m d] t)) w.heap.size i s x n c y m d := by
  refine ⟨bx4_at _ _ _ _ _ _, fun o => ?_⟩
  have e := heap_alloc_new w (.cells #[.int .i64 i, .bool s, .slice x n c, .slice y m d] t)
  simp only [World.frozen?, e]; simp
theorem size_st4 (w : World) (B : Nat) (u0 u1 u2 u3 : Value) : ((((w.setCell ⟨B, 0, none⟩ u0).setCell ⟨B, 1, none⟩ u1).setCell ⟨B, 2, none⟩ u2).setCell ⟨B, 3, none⟩ u3).heap.size = w.heap.size := by simp [World.setCell]
theorem put4 {w : World} {B : Nat} {u0 u1 u2 u3 : Value} (hz : B < w.heap.size) (z0 : (w.cell? ⟨B, 0, none⟩).isSome = true) (z1 : (w.cell? ⟨B, 1, none⟩).isSome = true) (z2 : (w.cell? ⟨B, 2, none⟩).isSome = true) (z3 : (w.cell? ⟨B, 3, none⟩).isSome = true) :
    Bx4 ((((w.setCell ⟨B, 0, none⟩ u0).setCell ⟨B, 1, none⟩ u1).setCell ⟨B, 2, none⟩ u2).setCell ⟨B, 3, none⟩ u3) B u0 u1 u2 u3 :=
  ⟨by rw [size_st4]; exact hz, kCo (by decide) (kCo (by decide) (kCo (by decide) (kCe z0))), kCo (by decide) (kCo (by decide) (kCe (kIs z1))), kCo (by decide) (kCe (kIs (kIs z2))), kCe (kIs (kIs (kIs z3)))⟩
theorem Ob4.put {w B} (h : Ob4 w B) (i : Int) (s : Bool) (x : Option Addr) (n c : Nat) (y : Option Addr) (m d : Nat) : Wb ((((w.setCell ⟨B, 0, none⟩ (.int .i64 i)).setCell ⟨B, 1, none⟩ (.bool s)).setCell ⟨B, 2, none⟩ (.slice x n c)).setCell ⟨B, 3, none⟩ (.slice y m d)) B i s x n c y m d :=
  ⟨put4 h.z (kI0 h.z0) (kI0 h.z1) (kI0 h.z2) (kI0 h.z3), fun o => kFs (kFs (kFs (kFs (h.zf o))))⟩
theorem Wb.put {w B i' s' x' n' c' y' m' d'} (h : Wb w B i' s' x' n' c' y' m' d') (i : Int) (s : Bool) (x : Option Addr) (n c : Nat) (y : Option Addr) (m d : Nat) : Wb ((((w.setCell ⟨B, 0, none⟩ (.int .i64 i)).setCell ⟨B, 1, none⟩ (.bool s)).setCell ⟨B, 2, none⟩ (.slice x n c)).setCell ⟨B, 3, none⟩ (.slice y m d)) B i s x n c y m d :=
  ⟨put4 h.bx.z (kI0 h.bx.x0) (kI0 h.bx.x1) (kI0 h.bx.x2) (kI0 h.bx.x3), fun o => kFs (kFs (kFs (kFs (h.fr o))))⟩
theorem Wb.far4 {w B i s x n c y m d B' u0 u1 u2 u3} (h : Wb w B i s x n c y m d) (hne : B' ≠ B) : Wb ((((w.setCell ⟨B', 0, none⟩ u0).setCell ⟨B', 1, none⟩ u1).setCell ⟨B', 2, none⟩ u2).setCell ⟨B', 3, none⟩ u3) B i s x n c y m d :=
  ⟨⟨by rw [size_st4]; exact h.bx.z, kCs hne (kCs hne (kCs hne (kCs hne h.bx.x0))), kCs hne (kCs hne (kCs hne (kCs hne h.bx.x1))), kCs hne (kCs hne (kCs hne (kCs hne h.bx.x2))), kCs hne (kCs hne (kCs hne (kCs hne h.bx.x3)))⟩, fun o => kFs (kFs (kFs (kFs (h.fr o))))⟩
theorem Wb.rd {w B i s x n c y m d u0 u1 u2 u3 xx nn ff} (h : Wb w B i s x n c y m d) (hx : Rd .u64 w xx nn ff) : Rd .u64 ((((w.setCell ⟨B, 0, none⟩ u0).setCell ⟨B, 1, none⟩ u1).setCell ⟨B, 2, none⟩ u2).setCell ⟨B, 3, none⟩ u3) xx nn ff :=
  rd_setne (cell_off (by decide) (cell_off (by decide) (cell_off (by decide) h.bx.x3))) (fun i h => by cases h) (rd_setne (cell_off (by decide) (cell_off (by decide) h.bx.x2)) (fun i h => by cases h) (rd_setne (cell_off (by decide) h.bx.x1) (fun i h => by cases h) (rd_setne h.bx.x0 (fun i h => by cases h) hx)))
theorem Wb.oe {w B i s x n c y m d u0 u1 u2 u3 p P i' s' x' n' c' f' y' m' d' g' er} (h : Wb w B i s x n c y m d) (hx : OE p P w i' s' x' n' c' f' y' m' d' g' er) : OE p P ((((w.setCell ⟨B, 0, none⟩ u0).setCell ⟨B, 1, none⟩ u1).setCell ⟨B, 2, none⟩ u2).setCell ⟨B, 3, none⟩ u3) i' s' x' n' c' f' y' m' d' g' er := by
  rcases hx with h1 | ⟨h1, h2, q, h3, h4⟩
  · exact .inl h1
  · exact .inr ⟨h1, h2, q, h3, ⟨⟨⟨h.rd h4.rn.num.rd, h4.rn.num.lm, h4.rn.num.wf, h4.rn.num.cap, h4.rn.num.nil, h4.rn.num.val⟩, ⟨h.rd h4.rn.den.rd, h4.rn.den.lm, h4.rn.den.wf, h4.rn.den.cap, h4.rn.den.nil, h4.rn.den.val⟩, h4.rn.ln, h4.rn.ld⟩, h4.inf⟩⟩
theorem Ob4.oe {w B u0 u1 u2 u3 p P i' s' x' n' c' f' y' m' d' g' er} (h : Ob4 w B) (hx : OE p P w i' s' x' n' c' f' y' m' d' g' er) : OE p P ((((w.setCell ⟨B, 0, none⟩ u0).setCell ⟨B, 1, none⟩ u1).setCell ⟨B, 2, none⟩ u2).setCell ⟨B, 3, none⟩ u3) i' s' x' n' c' f' y' m' d' g' er := by
  rcases hx with h1 | ⟨h1, h2, q, h3, h4⟩
  · exact .inl h1
  · exact .inr ⟨h1, h2, q, h3, ⟨h.rn h4.rn, h4.inf⟩⟩
/-- A bound that was answered, in a box of its own. -/
structure ZAt (p : Bool) (P : Int → Rat → Prop) (w1 wx : World) (b8 : Nat) (i : Int) (s : Bool) (x : Option Addr) (n c : Nat) (f : Nat → Int) (y : Option Addr) (m d : Nat) (g : Nat → Int) (er : Int) : Prop where
  wb : Wb wx b8 i s x n c y m d
  bel : Below w1.heap.size w1 wx
  oe : OE p P wx i s x n c f y m d g er
  le : w1.heap.size ≤ b8
theorem zat_a {p P w1 v i s x n c f y m d g er} {t : TypeId} (hb : Below w1.heap.size w1 v) (h : OE p P v i s x n c f y m d g er) : ZAt p P w1 (v.alloc (.cells #[.int .i64 i, .bool s, .slice x n c, .slice y m d] t)) v.heap.size i s x n c f y m d g er := ⟨wb_at _ _ _ _ _ _ _ _ _ _, below_alloc hb _, h.alloc _, hb.size⟩
theorem zat_s {p P w1 v i s x n c f y m d g er} {b8 : Nat} (hb : Below w1.heap.size w1 v) (h : OE p P v i s x n c f y m d g er) (h8 : Ob4 v b8) (o8 : w1.heap.size ≤ b8) : ZAt p P w1 ((((v.setCell ⟨b8, 0, none⟩ (.int .i64 i)).setCell ⟨b8, 1, none⟩ (.bool s)).setCell ⟨b8, 2, none⟩ (.slice x n c)).setCell ⟨b8, 3, none⟩ (.slice y m d)) b8 i s x n c f y m d g er := ⟨h8.put _ _ _ _ _ _ _ _, below_st4 hb o8, h8.oe h, o8⟩
theorem zat_w {p P w1 v i s x n c f y m d g er i' s' x' n' c' y' m' d'} {b8 : Nat} (hb : Below w1.heap.size w1 v) (h : OE p P v i s x n c f y m d g er) (h8 : Wb v b8 i' s' x' n' c' y' m' d') (o8 : w1.heap.size ≤ b8) : ZAt p P w1 ((((v.setCell ⟨b8, 0, none⟩ (.int .i64 i)).setCell ⟨b8, 1, none⟩ (.bool s)).setCell ⟨b8, 2, none⟩ (.slice x n c)).setCell ⟨b8, 3, none⟩ (.slice y m d)) b8 i s x n c f y m d g er := ⟨h8.put _ _ _ _ _ _ _ _, below_st4 hb o8, h8.oe h, o8⟩
theorem two4_new {w w1 : World} {a0 a1 a2 a3 b0 b1 b2 b3 : Value} {t : TypeId} (hb : Below ((w.alloc (.cells #[a0, a1, a2, a3] t)).alloc (.cells #[b0, b1, b2, b3] t)).heap.size ((w.alloc (.cells #[a0, a1, a2, a3] t)).alloc (.cells #[b0, b1, b2, b3] t)) w1) :
    Bx4 w1 w.heap.size a0 a1 a2 a3 ∧ Bx4 w1 (w.heap.size + 1) b0 b1 b2 b3 ∧ Below w.heap.size w w1 := by
  have h1 := ((bx4_at w a0 a1 a2 a3 t).alloc (.cells #[b0, b1, b2, b3] t)).below hb
  have h2 := (bx4_at (w.alloc (.cells #[a0, a1, a2, a3] t)) b0 b1 b2 b3 t).below hb
  rw [size_alloc1] at h2
  exact ⟨h1, h2, (below_alloc (below_alloc (Below.refl w.heap.size w) _) _).trans (hb.mono (below_alloc (below_alloc (Below.refl w.heap.size w) _) _).size)⟩

set_option maxRecDepth 100000 in
set_option maxHeartbeats 16000000 in
theorem extOrders_c (ia : Int) (sa : Bool) (xa : Option Addr) (na ca : Nat) (fa : Nat → Int) (ya : Option Addr) (ma da : Nat) (ga : Nat → Int) (ib : Int) (sb : Bool) (xb : Option Addr) (nb cb : Nat) (fb : Nat → Int) (yb : Option Addr) (mb db : Nat) (gb : Nat → Int) (w : World) (ha : Rw w xa na ca fa ya ma da ga) (hb : Rw w xb nb cb fb yb mb db gb) (_htab : Tab w) :
    Calls Tryz.prog 3 #[.agg #[.int .i64 ia, .bool sa, .slice xa na ca, .slice ya ma da], .agg #[.int .i64 ib, .bool sb, .slice xb nb cb, .slice yb mb db]] w fun e w' => e = .returned (.bool true) ∧ Below w.heap.size w w' := by
  have HA := hid ha; have HB := hid hb
  have q1 := ha.cx; have q2 := ha.cy; have q3 := hb.cx; have q4 := hb.cy
  clear ha hb
  go_enter Tryz.func3, Tryz.ntmps3
  go_wp2_with fail
  refine (eAwake_c _).mono ?_
  rintro e w1 ⟨rfl, hbel⟩
  obtain ⟨ba, bb, hw⟩ := two4_new hbel
  have BA1 := hid ba; have BB1 := hid bb; have HW1 := hid hw
  clear hbel ba bb hw
  obtain ⟨za, a0, a1, a2, a3⟩ := BA1.out
  obtain ⟨zb, b0, b1, b2, b3⟩ := BB1.out
  go_wp2_with fail
  refine (elight_c (by omega) (by omega) (by omega) (by omega)).mono ?_
  rintro e w2 ⟨rfl, hb⟩
  clear za a0 a1 a2 a3 zb b0 b1 b2 b3
  have BA2 := hid (BA1.out.below hb); have BB2 := hid (BB1.out.below hb); have HW2 := hid (HW1.out.trans (hb.mono HW1.out.size))
  clear BA1 BB1 HW1 hb
  cases hl : (lg na ma 20 && lg nb mb 20)
  · go_wp2
    go_ret
    exact ⟨rfl, HW2.out⟩
  have hl1 : na ≤ 20 ∧ ma ≤ 20 ∧ nb ≤ 20 ∧ mb ≤ 20 := by
    simp only [lg, Bool.and_eq_true, decide_eq_true_eq] at hl
    exact ⟨hl.1.1, hl.1.2, hl.2.1, hl.2.2⟩
  obtain ⟨l1, l2, l3, l4⟩ := hl1
  clear hl
  obtain ⟨pa, hpa⟩ : ∃ p, efB ia sa fa na ga ma = p := ⟨_, rfl⟩
  obtain ⟨pb, hpb⟩ : ∃ p, efB ib sb fb nb gb mb = p := ⟨_, rfl⟩
  obtain ⟨qa, hqa⟩ : ∃ q, pa = true → En 100 w2 ia sa xa na ca fa ya ma da ga q := by
    cases pa
    · exact ⟨0, fun h => by cases h⟩
    · obtain ⟨q, hq⟩ := (HA.out.below HW2.out).en hpa (L := 100) (by omega) (by omega)
      exact ⟨q, fun _ => hq⟩
  obtain ⟨qb, hqb⟩ : ∃ q, pb = true → En 100 w2 ib sb xb nb cb fb yb mb db gb q := by
    cases pb
    · exact ⟨0, fun h => by cases h⟩
    · obtain ⟨q, hq⟩ := (HB.out.below HW2.out).en hpb (L := 100) (by omega) (by omega)
      exact ⟨q, fun _ => hq⟩
  have HPA := hid hpa; have HPB := hid hpb; have HQA := hid hqa; have HQB := hid hqb
  clear hpa hpb hqa hqb
  have RA2 := hid (HA.out.below HW2.out); have RB2 := hid (HB.out.below HW2.out)
  have hz2 : w.heap.size + 1 < w2.heap.size := BB2.out.z
  have TA : Hid (∀ W, Below w2.heap.size w2 W → Calls Tryz.prog 11 #[.agg #[.int .i64 ia, .bool sa, .slice xa na ca, .slice ya ma da]] W fun e w' => ∃ z c' z2 c2, e = .returned (.agg #[.int .i64 ia, .bool sa, .slice z na c', .slice z2 ma c2]) ∧ Below W.heap.size W w' ∧ Hid (Rw w' z na c' fa z2 ma c2 ga)) := fun W hW => xTwin_c (RA2.out.below hW) (by omega) (by omega)
  have TB : Hid (∀ W, Below w2.heap.size w2 W → Calls Tryz.prog 11 #[.agg #[.int .i64 ib, .bool sb, .slice xb nb cb, .slice yb mb db]] W fun e w' => ∃ z c' z2 c2, e = .returned (.agg #[.int .i64 ib, .bool sb, .slice z nb c', .slice z2 mb c2]) ∧ Below W.heap.size W w' ∧ Hid (Rw w' z nb c' fb z2 mb c2 gb)) := fun W hW => xTwin_c (RB2.out.below hW) (by omega) (by omega)
  have CC : Hid (∀ (W : World) (x : Option Addr) (c : Nat) (y : Option Addr) (d : Nat) (x' : Option Addr) (c' : Nat) (y' : Option Addr) (d' : Nat), Rw W x na c fa y ma d ga → Rw W x' nb c' fb y' mb d' gb → Calls Tryz.prog 10 #[.agg #[.int .i64 ia, .bool sa, .slice x na c, .slice y ma d], .agg #[.int .i64 ib, .bool sb, .slice x' nb c', .slice y' mb d']] W fun e w' => ∃ r er, e = .returned (.tuple #[.int .i64 r, .int .i64 er]) ∧ Below W.heap.size W w' ∧ Hid (OC (pa && pb) ia qa ib qb r er)) := fun W x c y d x' c' y' d' h1 h2 => eCmp_g h1 h2 (by omega) (by omega) (by omega) (by omega) HPA.out HPB.out (fun h => (HQA.out h).moved h1) (fun h => (HQB.out h).moved h2)
  have CMax : Hid (∀ (W : World) (x : Option Addr) (c : Nat) (y : Option Addr) (d : Nat) (x' : Option Addr) (c' : Nat) (y' : Option Addr) (d' : Nat), Rw W x na c fa y ma d ga → Rw W x' nb c' fb y' mb d' gb → Calls Tryz.prog 15 #[.agg #[.int .i64 ia, .bool sa, .slice x na c, .slice y ma d], .agg #[.int .i64 ib, .bool sb, .slice x' nb c', .slice y' mb d']] W fun e w' => ∃ i s x n c f y m d g er, e = .returned (.tuple #[.agg #[.int .i64 i, .bool s, .slice x n c, .slice y m d], .int .i64 er]) ∧ Below W.heap.size W w' ∧ Hid (OE (pa && pb) (EMax ia qa ib qb) w' i s x n c f y m d g er)) := fun W x c y d x' c' y' d' h1 h2 => eMax_g h1 h2 (by omega) (by omega) (by omega) (by omega) HPA.out HPB.out (fun h => (HQA.out h).moved h1) (fun h => (HQB.out h).moved h2)
  have CMin : Hid (∀ (W : World) (x : Option Addr) (c : Nat) (y : Option Addr) (d : Nat) (x' : Option Addr) (c' : Nat) (y' : Option Addr) (d' : Nat), Rw W x na c fa y ma d ga → Rw W x' nb c' fb y' mb d' gb → Calls Tryz.prog 18 #[.agg #[.int .i64 ia, .bool sa, .slice x na c, .slice y ma d], .agg #[.int .i64 ib, .bool sb, .slice x' nb c', .slice y' mb d']] W fun e w' => ∃ i s x n c f y m d g er, e = .returned (.tuple #[.agg #[.int .i64 i, .bool s, .slice x n c, .slice y m d], .int .i64 er]) ∧ Below W.heap.size W w' ∧ Hid (OE (pa && pb) (EMin ia qa ib qb) w' i s x n c f y m d g er)) := fun W x c y d x' c' y' d' h1 h2 => eMin_g h1 h2 (by omega) (by omega) (by omega) (by omega) HPA.out HPB.out (fun h => (HQA.out h).moved h1) (fun h => (HQB.out h).moved h2)
  go_upto_region 5 with fail
  go_cut [5, 6] from 17 to 24 (fun u t wx => ∃ (wy : World) (r er : Int), wy = wx ∧ u = .int .i64 r ∧ t = .int .i64 er ∧ Below w2.heap.size w2 wy ∧ Hid (OC (pa && pb) ia qa ib qb r er))
  case first =>
    obtain ⟨za, a0, a1, a2, a3⟩ := BA2.out
    obtain ⟨zb, b0, b1, b2, b3⟩ := BB2.out
    go_region_held3 (fun w' => w'.cell? ⟨w.heap.size, 0, none⟩ = some (.int .i64 ia) ∧ w'.cell? ⟨w.heap.size, 1, none⟩ = some (.bool sa) ∧ w'.cell? ⟨w.heap.size, 2, none⟩ = some (.slice xa na ca) ∧ w'.cell? ⟨w.heap.size, 3, none⟩ = some (.slice ya ma da) ∧ w'.cell? ⟨w.heap.size + 1, 0, none⟩ = some (.int .i64 ib) ∧ w'.cell? ⟨w.heap.size + 1, 1, none⟩ = some (.bool sb) ∧ w'.cell? ⟨w.heap.size + 1, 2, none⟩ = some (.slice xb nb cb) ∧ w'.cell? ⟨w.heap.size + 1, 3, none⟩ = some (.slice yb mb db))
      (refine ⟨?_, ?_, ?_, ?_, ?_, ?_, ?_, ?_⟩ <;> repeat (with_reducible first | assumption | refine kCd ?_ | refine kCb (by assumption) ?_))
      (first
        | (go_at_call 11; with_reducible refine (TA.out _ (by repeat (with_reducible first | assumption | exact Below.refl _ _ | refine Below.drew ?_ | refine kBa ?_ | refine kBb (by assumption) ?_))).mono ?_; rintro e v5 ⟨x5, c5, y5, d5, rfl, hb5, H5⟩)
        | (go_at_call 11; with_reducible refine (TB.out _ (by repeat (with_reducible first | assumption | exact Below.refl _ _ | refine Below.drew ?_ | refine kBa ?_ | refine kBb (by assumption) ?_))).mono ?_; rintro e v6 ⟨x6, c6, y6, d6, rfl, hb6, H6⟩)
        | (go_at_call 10; with_reducible refine (CC.out _ x5 c5 y5 d5 x6 c6 y6 d6 (by repeat (with_reducible first | exact H5.out | refine kRwd ?_ | refine kRwa ?_ | refine kRwb (by assumption) ?_)) (by repeat (with_reducible first | exact H6.out | refine kRwd ?_ | refine kRwa ?_ | refine kRwb (by assumption) ?_))).mono ?_; rintro e v7 ⟨r7, er7, rfl, hb7, H7⟩))
    all_goals
      go_wp2_with fail
      go_meet
      exact ⟨_, r7, er7, rfl, rfl, rfl, (by repeat (with_reducible first | assumption | exact Below.refl _ _ | refine Below.drew ?_ | refine kBa ?_ | refine kBb (by assumption) ?_)), H7⟩
  case rest =>
    obtain ⟨w3, r3, er3, rfl, rfl, rfl, hb, H3⟩ := hcut
    have HB3 := hid hb
    clear hb
    obtain ⟨za, a0, a1, a2, a3⟩ := BA2.out.below HB3.out
    obtain ⟨zb, b0, b1, b2, b3⟩ := BB2.out.below HB3.out
    go_wp2_with fail
    refine (docCmpX_g (RA2.out.below HB3.out) (RB2.out.below HB3.out) (by omega) (by omega) (by omega) (by omega) HPA.out HPB.out (fun h => (HQA.out h).below HB3.out) (fun h => (HQB.out h).below HB3.out)).mono ?_
    rintro e w4 ⟨r4, er4, rfl, hb, H4⟩
    obtain ⟨e1, e2⟩ := H3.out.uniq H4.out
    subst e1
    subst e2
    have hcn : (r4 != r4) = false := by simp
    have hen : (er4 != er4) = false := by simp
    have HB4 := hid (HB3.out.trans (hb.mono HB3.out.size))
    clear hb za a0 a1 a2 a3 zb b0 b1 b2 b3 H3 H4 CC
    have C1 : Hid (∀ W, Below w2.heap.size w2 W → Calls Tryz.prog 13 #[.agg #[.int .i64 ia, .bool sa, .slice xa na ca, .slice ya ma da]] W fun e w' => e = .returned (.bool pa) ∧ Below W.heap.size W w') := fun W hW => by
      have := eForm_c (i := ia) (s := sa) (RA2.out.below hW) (by omega) (by omega)
      rw [HPA.out] at this; exact this
    have C2 : Hid (∀ W, Below w2.heap.size w2 W → Calls Tryz.prog 14 #[.agg #[.int .i64 ia, .bool sa, .slice xa na ca, .slice ya ma da]] W fun e w' => e = .returned (.bool pa) ∧ Below W.heap.size W w') := fun W hW => by
      have := xForm_c (i := ia) (s := sa) (RA2.out.below hW) (by omega) (by omega)
      rw [HPA.out] at this; exact this
    have hpp : (pa != pa) = false := by simp
    go_upto_region 7 with fail
    go_cut [45] from 31 to 44 (fun u wx => ∃ (wy : World), wy = wx ∧ u = .bool false ∧ Below w2.heap.size w2 wy)
    case first =>
      have hb4 := HB4.out
      obtain ⟨za, a0, a1, a2, a3⟩ := BA2.out.below HB4.out
      go_region_held3 (fun w' => w'.cell? ⟨w.heap.size, 0, none⟩ = some (.int .i64 ia) ∧ w'.cell? ⟨w.heap.size, 1, none⟩ = some (.bool sa) ∧ w'.cell? ⟨w.heap.size, 2, none⟩ = some (.slice xa na ca) ∧ w'.cell? ⟨w.heap.size, 3, none⟩ = some (.slice ya ma da))
        (refine ⟨?_, ?_, ?_, ?_⟩ <;> repeat (with_reducible first | assumption | refine kCd ?_ | refine kCb (by assumption) ?_))
        (first
          | (go_at_call 13; with_reducible refine (C1.out _ (by repeat (with_reducible first | assumption | exact Below.refl _ _ | refine Below.drew ?_ | refine kBa ?_ | refine kBb (by assumption) ?_))).mono ?_; rintro e v5 ⟨rfl, hb5⟩)
          | (go_at_call 14; with_reducible refine (C2.out _ (by repeat (with_reducible first | assumption | exact Below.refl _ _ | refine Below.drew ?_ | refine kBa ?_ | refine kBb (by assumption) ?_))).mono ?_; rintro e v6 ⟨rfl, hb6⟩))
      all_goals
        go_wp2_with fail
        go_meet
        exact ⟨_, rfl, rfl, (by repeat (with_reducible first | assumption | exact Below.refl _ _ | refine Below.drew ?_ | refine kBa ?_ | refine kBb (by assumption) ?_))⟩
    case rest =>
      obtain ⟨w5, rfl, rfl, hb⟩ := hcut
      have HB5 := hid hb
      clear hb
      go_upto_region 9 with fail
      go_cut [9, 6] from 46 to 53 (fun u t wx => ∃ (wy : World) (b8 : Nat) (i : Int) (s : Bool) (x : Option Addr) (n c : Nat) (f : Nat → Int) (y : Option Addr) (m d : Nat) (g : Nat → Int) (er : Int), wy = wx ∧ u = .pointer (some ⟨b8, 0, none⟩) ∧ t = .int .i64 er ∧ ZAt (pa && pb) (EMax ia qa ib qb) w2 wy b8 i s x n c f y m d g er)
      case first =>
        have hrb := HB5.out
        have hzz := HB5.out.size
        obtain ⟨za, a0, a1, a2, a3⟩ := BA2.out.below HB5.out
        obtain ⟨zb, b0, b1, b2, b3⟩ := BB2.out.below HB5.out
        go_region_held3 (fun w' => w'.cell? ⟨w.heap.size, 0, none⟩ = some (.int .i64 ia) ∧ w'.cell? ⟨w.heap.size, 1, none⟩ = some (.bool sa) ∧ w'.cell? ⟨w.heap.size, 2, none⟩ = some (.slice xa na ca) ∧ w'.cell? ⟨w.heap.size, 3, none⟩ = some (.slice ya ma da) ∧ w'.cell? ⟨w.heap.size + 1, 0, none⟩ = some (.int .i64 ib) ∧ w'.cell? ⟨w.heap.size + 1, 1, none⟩ = some (.bool sb) ∧ w'.cell? ⟨w.heap.size + 1, 2, none⟩ = some (.slice xb nb cb) ∧ w'.cell? ⟨w.heap.size + 1, 3, none⟩ = some (.slice yb mb db))
          (refine ⟨?_, ?_, ?_, ?_, ?_, ?_, ?_, ?_⟩ <;> repeat (with_reducible first | assumption | refine kCd ?_ | refine kCa ?_ | refine kCs (by simp only [ne_eq]; omega) ?_ | refine kCb (by assumption) ?_))
          (first
            | (go_at_call 11; with_reducible refine (TA.out _ (by repeat (with_reducible first | assumption | exact Below.refl _ _ | refine Below.drew ?_ | refine kBa ?_ | refine kBb (by assumption) ?_))).mono ?_; rintro e v5 ⟨x5, c5, y5, d5, rfl, hb5, H5⟩; have hz5 := hb5.size; (try simp at hz5); (try (refine (fun (OX50 : Ob4 v5 (w5.heap.size)) => ?_) ?_; rotate_left; (focus (refine kO4b hb5 ?_; (repeat (with_reducible first | assumption | exact ob4_at rfl | refine Ob4.drew ?_ | refine kO4a ?_)); done)); obtain ⟨_, o50, p50, q50, r50, f50⟩ := id OX50)); (try (refine (fun (OX51 : Ob4 v5 (v6.heap.size)) => ?_) ?_; rotate_left; (focus (refine kO4b hb5 ?_; (repeat (with_reducible first | assumption | exact ob4_at rfl | refine Ob4.drew ?_ | refine kO4a ?_)); done)); obtain ⟨_, o51, p51, q51, r51, f51⟩ := id OX51)))
            | (go_at_call 11; with_reducible refine (TB.out _ (by repeat (with_reducible first | assumption | exact Below.refl _ _ | refine Below.drew ?_ | refine kBa ?_ | refine kBb (by assumption) ?_))).mono ?_; rintro e v6 ⟨x6, c6, y6, d6, rfl, hb6, H6⟩; have hz6 := hb6.size; (try simp at hz6); (try (refine (fun (OX60 : Ob4 v6 (w5.heap.size)) => ?_) ?_; rotate_left; (focus (refine kO4b hb6 ?_; (repeat (with_reducible first | assumption | exact ob4_at rfl | refine Ob4.drew ?_ | refine kO4a ?_)); done)); obtain ⟨_, o60, p60, q60, r60, f60⟩ := id OX60)); (try (refine (fun (OX61 : Ob4 v6 (v5.heap.size)) => ?_) ?_; rotate_left; (focus (refine kO4b hb6 ?_; (repeat (with_reducible first | assumption | exact ob4_at rfl | refine Ob4.drew ?_ | refine kO4a ?_)); done)); obtain ⟨_, o61, p61, q61, r61, f61⟩ := id OX61)))
            | (go_at_call 15; with_reducible refine (CMax.out _ x5 c5 y5 d5 x6 c6 y6 d6 (by repeat (with_reducible first | exact H5.out | refine kRwd ?_ | refine kRwa ?_ | refine kRwb (by assumption) ?_)) (by repeat (with_reducible first | exact H6.out | refine kRwd ?_ | refine kRwa ?_ | refine kRwb (by assumption) ?_))).mono ?_; rintro e v7 ⟨i7, s7, x7, n7, c7, f7, y7, m7, d7, g7, er7, rfl, hb7, H7⟩; have hz7 := hb7.size; (try simp at hz7); (try (refine (fun (OX70 : Ob4 v7 (w5.heap.size)) => ?_) ?_; rotate_left; (focus (refine kO4b hb7 ?_; (repeat (with_reducible first | assumption | exact ob4_at rfl | refine Ob4.drew ?_ | refine kO4a ?_)); done)); obtain ⟨_, o70, p70, q70, r70, f70⟩ := id OX70)); (try (refine (fun (OX71 : Ob4 v7 (v5.heap.size)) => ?_) ?_; rotate_left; (focus (refine kO4b hb7 ?_; (repeat (with_reducible first | assumption | exact ob4_at rfl | refine Ob4.drew ?_ | refine kO4a ?_)); done)); obtain ⟨_, o71, p71, q71, r71, f71⟩ := id OX71)); (try (refine (fun (OX72 : Ob4 v7 (v6.heap.size)) => ?_) ?_; rotate_left; (focus (refine kO4b hb7 ?_; (repeat (with_reducible first | assumption | exact ob4_at rfl | refine Ob4.drew ?_ | refine kO4a ?_)); done)); obtain ⟨_, o72, p72, q72, r72, f72⟩ := id OX72))))
        all_goals
          go_wp2_with fail
          go_meet
          have hbl : Below w2.heap.size w2 v7 := (by repeat (with_reducible first | assumption | exact Below.refl _ _ | refine Below.drew ?_ | refine kBa ?_ | refine kBb (by assumption) ?_))
          refine ⟨_, _, i7, s7, x7, n7, c7, f7, y7, m7, d7, g7, er7, rfl, rfl, rfl, ?_⟩
          with_reducible first
            | exact zat_a hbl H7.out
            | exact zat_s hbl H7.out (by first | (with_reducible assumption) | repeat (with_reducible first | exact ob4_at rfl | exact ob4_at (size_alloc1 _ _).symm | refine kO4b hb7 ?_ | refine kO4b hb6 ?_ | refine kO4b hb5 ?_ | refine Ob4.drew ?_ | refine kO4a ?_)) (by omega)
      case rest =>
        obtain ⟨w6, b9, i9, s9, x9, n9, c9, f9, y9, m9, d9, g9, er9, rfl, rfl, rfl, hZ⟩ := hcut
        have Z6 := hid hZ
        clear hZ
        obtain ⟨za, a0, a1, a2, a3⟩ := BA2.out.below Z6.out.bel
        obtain ⟨zb, b0, b1, b2, b3⟩ := BB2.out.below Z6.out.bel
        go_wp2_with fail
        refine (docMaxX_g (RA2.out.below Z6.out.bel) (RB2.out.below Z6.out.bel) (by omega) (by omega) (by omega) (by omega) HPA.out HPB.out (fun h => (HQA.out h).below Z6.out.bel) (fun h => (HQB.out h).below Z6.out.bel)).mono ?_
        rintro e w7 ⟨i10, s10, x10, n10, c10, f10, y10, m10, d10, g10, er10, rfl, hb, H10⟩
        have her := oe_er Z6.out.oe H10.out
        subst her
        have HB7 := hid (below_alloc (Z6.out.bel.trans (hb.mono Z6.out.bel.size)) (.cells #[.int .i64 i10, .bool s10, .slice x10 n10 c10, .slice y10 m10 d10] 26)); have W9 := hid ((Z6.out.wb.below hb).alloc (.cells #[.int .i64 i10, .bool s10, .slice x10 n10 c10, .slice y10 m10 d10] 26)); have W10 := hid (wb_at w7 i10 s10 x10 n10 c10 y10 m10 d10 26); have O9 := hid ((Z6.out.oe.below hb).alloc (.cells #[.int .i64 i10, .bool s10, .slice x10 n10 c10, .slice y10 m10 d10] 26)); have O10 := hid (H10.out.alloc (.cells #[.int .i64 i10, .bool s10, .slice x10 n10 c10, .slice y10 m10 d10] 26))
        have hle9 := Z6.out.le; have hlt9 := (Z6.out.wb.below hb).bx.z; have hle10 : w2.heap.size ≤ w7.heap.size := (Z6.out.bel.trans (hb.mono Z6.out.bel.size)).size
        clear hb H10 Z6 za a0 a1 a2 a3 zb b0 b1 b2 b3
        go_upto_region 11 with fail
        generalize w7.alloc (.cells #[.int .i64 i10, .bool s10, .slice x10 n10 c10, .slice y10 m10 d10] 26) = w8 at *
        generalize w7.heap.size = b10 at *
        have hne : b9 ≠ b10 := by omega
        obtain ⟨zp, p0, p1, p2, p3⟩ := W9.out.bx
        obtain ⟨zr, r0, r1, r2, r3⟩ := W10.out.bx
        go_wp2_with fail
        refine (lsame_c (fun W hW => oe_same (fun i q i' q' => EMax.uniq) (O9.out.below hW) (O10.out.below hW))).mono ?_
        rintro e w11 ⟨rfl, hb⟩
        have HB11 := hid (HB7.out.trans (hb.mono HB7.out.size)); have X9 := hid (W9.out.below hb); have X10 := hid (W10.out.below hb)
        clear hb zp p0 p1 p2 p3 zr r0 r1 r2 r3 W9 W10 O9 O10 HB7
        go_upto_region 13 with fail
        go_cut [6] from 66 to 73 (fun t wx => ∃ (wy : World) (i : Int) (s : Bool) (x : Option Addr) (n c : Nat) (f : Nat → Int) (y : Option Addr) (m d : Nat) (g : Nat → Int) (er : Int), wy = wx ∧ t = .int .i64 er ∧ ZAt (pa && pb) (EMin ia qa ib qb) w2 wy b9 i s x n c f y m d g er ∧ Wb wy b10 i10 s10 x10 n10 c10 y10 m10 d10)
        case first =>
          have hrb := HB11.out
          have hzz := HB11.out.size
          obtain ⟨za, a0, a1, a2, a3⟩ := BA2.out.below HB11.out
          obtain ⟨zb, b0, b1, b2, b3⟩ := BB2.out.below HB11.out
          obtain ⟨zp, p0, p1, p2, p3⟩ := X9.out.bx
          have pf := X9.out.fr
          go_region_held3 (fun w' => w'.cell? ⟨w.heap.size, 0, none⟩ = some (.int .i64 ia) ∧ w'.cell? ⟨w.heap.size, 1, none⟩ = some (.bool sa) ∧ w'.cell? ⟨w.heap.size, 2, none⟩ = some (.slice xa na ca) ∧ w'.cell? ⟨w.heap.size, 3, none⟩ = some (.slice ya ma da) ∧ w'.cell? ⟨w.heap.size + 1, 0, none⟩ = some (.int .i64 ib) ∧ w'.cell? ⟨w.heap.size + 1, 1, none⟩ = some (.bool sb) ∧ w'.cell? ⟨w.heap.size + 1, 2, none⟩ = some (.slice xb nb cb) ∧ w'.cell? ⟨w.heap.size + 1, 3, none⟩ = some (.slice yb mb db) ∧ (w'.cell? ⟨b9, 0, none⟩).isSome = true ∧ (w'.cell? ⟨b9, 1, none⟩).isSome = true ∧ (w'.cell? ⟨b9, 2, none⟩).isSome = true ∧ (w'.cell? ⟨b9, 3, none⟩).isSome = true ∧ w'.frozen? ⟨b9, 0, none⟩ = false ∧ w'.frozen? ⟨b9, 1, none⟩ = false ∧ w'.frozen? ⟨b9, 2, none⟩ = false ∧ w'.frozen? ⟨b9, 3, none⟩ = false)
            (refine ⟨?_, ?_, ?_, ?_, ?_, ?_, ?_, ?_, ?_, ?_, ?_, ?_, ?_, ?_, ?_, ?_⟩ <;> repeat (with_reducible first | assumption | exact pf _ | exact tf _ | exact uf _ | exact vf' _ | exact kI0 p0 | exact kI0 p1 | exact kI0 p2 | exact kI0 p3 | exact kI0 t0 | exact kI0 t1 | exact kI0 t2 | exact kI0 t3 | exact kI0 u0 | exact kI0 u1 | exact kI0 u2 | exact kI0 u3 | exact kI0 v0 | exact kI0 v1 | exact kI0 v2 | exact kI0 v3 | refine kCd ?_ | refine kId ?_ | refine kFd ?_ | refine kCs (by simp only [ne_eq]; omega) ?_ | refine kIs ?_ | refine kFs ?_ | refine kCb (by assumption) ?_ | refine kIb (by assumption) ?_))
            (first
              | (go_at_call 11; with_reducible refine (TA.out _ (by repeat (with_reducible first | assumption | exact Below.refl _ _ | refine Below.drew ?_ | refine kBa ?_ | refine kBb (by assumption) ?_))).mono ?_; rintro e v5 ⟨x5, c5, y5, d5, rfl, hb5, H5⟩; have hz5 := hb5.size; have Tt : Wb v5 b9 i9 s9 x9 n9 c9 y9 m9 d9 := (by repeat (with_reducible first | exact X9.out | exact Tt | exact Tu | exact Tv | refine kWbd ?_ | refine kWbb (by assumption) ?_)); obtain ⟨⟨_, t0, t1, t2, t3⟩, tf⟩ := id Tt)
              | (go_at_call 11; with_reducible refine (TB.out _ (by repeat (with_reducible first | assumption | exact Below.refl _ _ | refine Below.drew ?_ | refine kBa ?_ | refine kBb (by assumption) ?_))).mono ?_; rintro e v6 ⟨x6, c6, y6, d6, rfl, hb6, H6⟩; have hz6 := hb6.size; have Tu : Wb v6 b9 i9 s9 x9 n9 c9 y9 m9 d9 := (by repeat (with_reducible first | exact X9.out | exact Tt | exact Tu | exact Tv | refine kWbd ?_ | refine kWbb (by assumption) ?_)); obtain ⟨⟨_, u0, u1, u2, u3⟩, uf⟩ := id Tu)
              | (go_at_call 18; with_reducible refine (CMin.out _ x5 c5 y5 d5 x6 c6 y6 d6 (by repeat (with_reducible first | exact H5.out | refine kRwd ?_ | refine kRwa ?_ | refine kRwb (by assumption) ?_)) (by repeat (with_reducible first | exact H6.out | refine kRwd ?_ | refine kRwa ?_ | refine kRwb (by assumption) ?_))).mono ?_; rintro e v7 ⟨i7, s7, x7, n7, c7, f7, y7, m7, d7, g7, er7, rfl, hb7, H7⟩; have hz7 := hb7.size; have Tv : Wb v7 b9 i9 s9 x9 n9 c9 y9 m9 d9 := (by repeat (with_reducible first | exact X9.out | exact Tt | exact Tu | exact Tv | refine kWbd ?_ | refine kWbb (by assumption) ?_)); obtain ⟨⟨_, v0, v1, v2, v3⟩, vf'⟩ := id Tv))
          all_goals
            go_wp2_with fail
            go_meet
            have h10 : Wb v7 b10 i10 s10 x10 n10 c10 y10 m10 d10 := (by repeat (with_reducible first | exact X10.out | refine kWbd ?_ | refine kWbb (by assumption) ?_))
            have hbl : Below w2.heap.size w2 v7 := (by repeat (with_reducible first | assumption | exact Below.refl _ _ | refine Below.drew ?_ | refine kBa ?_ | refine kBb (by assumption) ?_))
            exact ⟨_, i7, s7, x7, n7, c7, f7, y7, m7, d7, g7, er7, rfl, rfl, zat_w hbl H7.out Tv hle9, h10.far4 hne⟩
        case rest =>
          obtain ⟨w12, i12, s12, x12, n12, c12, f12, y12, m12, d12, g12, er12, rfl, rfl, hZ, hX⟩ := hcut
          have Z12 := hid hZ; have X12 := hid hX
          clear hZ hX
          obtain ⟨za, a0, a1, a2, a3⟩ := BA2.out.below Z12.out.bel
          obtain ⟨zb, b0, b1, b2, b3⟩ := BB2.out.below Z12.out.bel
          go_wp2_with fail
          refine (docMinX_g (RA2.out.below Z12.out.bel) (RB2.out.below Z12.out.bel) (by omega) (by omega) (by omega) (by omega) HPA.out HPB.out (fun h => (HQA.out h).below Z12.out.bel) (fun h => (HQB.out h).below Z12.out.bel)).mono ?_
          rintro e w13 ⟨i13, s13, x13, n13, c13, f13, y13, m13, d13, g13, er13, rfl, hb, H13⟩
          have her := oe_er Z12.out.oe H13.out
          subst her
          have Y10 := hid (X12.out.below hb); have Y9 := hid (Z12.out.wb.below hb); have O12 := hid (Z12.out.oe.below hb); have HB13 := hid (Z12.out.bel.trans (hb.mono Z12.out.bel.size))
          clear hb za a0 a1 a2 a3 zb b0 b1 b2 b3 Z12 X12
          obtain ⟨zr, r0, r1, r2, r3⟩ := Y10.out.bx
          have rfz := Y10.out.fr
          go_upto_region 15 with fail
          have N9 := hid (Y9.out.far4 (u0 := .int .i64 i13) (u1 := .bool s13) (u2 := .slice x13 n13 c13) (u3 := .slice y13 m13 d13) hne.symm); have N10 := hid (Y10.out.put i13 s13 x13 n13 c13 y13 m13 d13); have OO9 := hid (Y10.out.oe (u0 := .int .i64 i13) (u1 := .bool s13) (u2 := .slice x13 n13 c13) (u3 := .slice y13 m13 d13) O12.out); have OO10 := hid (Y10.out.oe (u0 := .int .i64 i13) (u1 := .bool s13) (u2 := .slice x13 n13 c13) (u3 := .slice y13 m13 d13) H13.out); have HB14 := hid (below_st4 (u0 := .int .i64 i13) (u1 := .bool s13) (u2 := .slice x13 n13 c13) (u3 := .slice y13 m13 d13) HB13.out hle10)
          clear zr r0 r1 r2 r3 rfz Y9 Y10 O12 H13 HB13
          generalize (((w13.setCell ⟨b10, 0, none⟩ (.int .i64 i13)).setCell ⟨b10, 1, none⟩ (.bool s13)).setCell ⟨b10, 2, none⟩ (.slice x13 n13 c13)).setCell ⟨b10, 3, none⟩ (.slice y13 m13 d13) = w14 at *
          obtain ⟨zp, p0, p1, p2, p3⟩ := N9.out.bx
          obtain ⟨zr, r0, r1, r2, r3⟩ := N10.out.bx
          go_wp2_with fail
          refine (lsame_c (fun W hW => oe_same (fun i q i' q' => EMin.uniq) (OO9.out.below hW) (OO10.out.below hW))).mono ?_
          rintro e w15 ⟨rfl, hb⟩
          have HB15 := hid (HW2.out.trans ((HB14.out.trans (hb.mono HB14.out.size)).mono HW2.out.size))
          clear hb zp p0 p1 p2 p3 zr r0 r1 r2 r3
          go_wp2
          go_ret
          exact ⟨rfl, HB15.out⟩
end Go.Proofs.YtbindadjepfkcaaGreatDoor
