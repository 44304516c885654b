/-
  Walks of ext.Text, ext.Read and of the document's DocText, DocRead of bounds, whatever they are handed; of ExtTexts.
-/
import Derived.Test.YtbindadjepfkcaaGreatDoorZ11
import Derived.Test.YtbindadjepfkcaaGreatDoorZ12
namespace Go.Proofs.YtbindadjepfkcaaGreatDoor
open Go.RowKit


set_option maxRecDepth 100000 in
set_option maxHeartbeats 4000000 in
theorem xTwinT_c {w : World} {i : Int} {s : Bool} {x : Option Addr} {n c : Nat} {f : Nat → Int} {y : Option Addr} {m d : Nat} {g : Nat → Int} (h : Rw w x n c f y m d g) (hn : n ≤ 1000) (hm : m ≤ 1000) :
    Calls Tryz.prog 11 #[.agg #[.int .i64 i, .bool s, .slice x n c, .slice y m d]] w fun e w' => ∃ z c' z2 c2, e = .returned (.agg #[.int .i64 i, .bool s, .slice z n c', .slice z2 m c2]) ∧ Below w.heap.size w w' ∧ Hid (Rw w' z n c' f z2 m c2 g ∧ Tg w' z ∧ Tg w' z2) := by
  have h1 := (bx4_at w (.int .i64 i) (.bool s) (.slice x n c) (.slice y m d) 26).alloc (.cells #[.int .i64 0, .bool false, .slice none 0 0, .slice none 0 0] 26)
  have h2 := ob4_new (w.alloc (.cells #[.int .i64 i, .bool s, .slice x n c, .slice y m d] 26)) 26
  rw [size_alloc1] at h2
  have h3 := below_alloc (below_alloc (Below.refl w.heap.size w) (.cells #[.int .i64 i, .bool s, .slice x n c, .slice y m d] 26)) (.cells #[.int .i64 0, .bool false, .slice none 0 0, .slice none 0 0] 26)
  have h4 := h.below h3
  clear h
  go_enter Tryz.func11, Tryz.ntmps11
  go_wp2_with fail
  generalize (w.alloc (.cells #[.int .i64 i, .bool s, .slice x n c, .slice y m d] 26)).alloc (.cells #[.int .i64 0, .bool false, .slice none 0 0, .slice none 0 0] 26) = w1 at *
  have HN := hid h4; have OB := hid h2; have HW := hid h3
  obtain ⟨z, x0, x1, x2, x3⟩ := h1
  obtain ⟨hz, z0, z1, z2, z3, zf⟩ := h2
  clear h3 h4
  have C1 : Hid (∀ W, Below w1.heap.size w1 W → Calls Tryz.prog 22 #[.agg #[.bool s, .slice x n c, .slice y m d]] W fun e w' => ∃ z c' z2 c2, e = .returned (.agg #[.bool s, .slice z n c', .slice z2 m c2]) ∧ Below W.heap.size W w' ∧ Hid (Rw w' z n c' f z2 m c2 g ∧ Tg w' z ∧ Tg w' z2)) := fun W hW => qTwinT_c (HN.out.below hW) hn hm
  go_region_held3 (fun w' => w'.cell? ⟨w.heap.size, 0, none⟩ = some (.int .i64 i) ∧ w'.cell? ⟨w.heap.size, 1, none⟩ = some (.bool s) ∧ w'.cell? ⟨w.heap.size, 2, none⟩ = some (.slice x n c) ∧ w'.cell? ⟨w.heap.size, 3, none⟩ = some (.slice y m d) ∧ (w'.cell? ⟨w.heap.size + 1, 0, none⟩).isSome = true ∧ (w'.cell? ⟨w.heap.size + 1, 1, none⟩).isSome = true ∧ (w'.cell? ⟨w.heap.size + 1, 2, none⟩).isSome = true ∧ (w'.cell? ⟨w.heap.size + 1, 3, none⟩).isSome = true ∧ w'.frozen? ⟨w.heap.size + 1, 0, none⟩ = false ∧ w'.frozen? ⟨w.heap.size + 1, 1, none⟩ = false ∧ w'.frozen? ⟨w.heap.size + 1, 2, none⟩ = false ∧ w'.frozen? ⟨w.heap.size + 1, 3, none⟩ = false)
    (refine ⟨?_, ?_, ?_, ?_, ?_, ?_, ?_, ?_, ?_, ?_, ?_, ?_⟩ <;> repeat (with_reducible first | assumption | exact zf _ | exact tf _ | exact kI0 z0 | exact kI0 z1 | exact kI0 z2 | exact kI0 z3 | exact kI0 t0 | exact kI0 t1 | exact kI0 t2 | exact kI0 t3 | refine kCd ?_ | refine kId ?_ | refine kFd ?_ | refine kCs (by simp only [ne_eq]; omega) ?_ | refine kIs ?_ | refine kFs ?_ | refine kCb (by assumption) ?_ | refine kIb (by assumption) ?_))
    (first | (go_at_call 22; with_reducible refine (C1.out _ (by repeat (with_reducible first | assumption | exact Below.refl _ _ | refine Below.drew ?_ | refine kBb (by assumption) ?_))).mono ?_; rintro e v5 ⟨z5, c5, y5, d5, rfl, hb5, H5⟩; have Tt : Ob4 v5 (w.heap.size + 1) := (by repeat (with_reducible first | exact OB.out | refine Ob4.drew ?_ | refine kO4b (by assumption) ?_)); obtain ⟨_, t0, t1, t2, t3, tf⟩ := id Tt))
  all_goals
    have hb : Below w1.heap.size w1 v5 := (by repeat (with_reducible first | assumption | exact Below.refl _ _ | refine Below.drew ?_ | refine kBb (by assumption) ?_))
    go_wp2
    exact bodyPost_ret (v := .agg #[.int .i64 i, .bool s, .slice z5 n c5, .slice y5 m d5]) (by simp [results, Tryz.results11, go_sem, t0, t1, t2, t3]) rfl ⟨z5, c5, y5, d5, rfl, below_st4 (HW.out.trans (hb.mono HW.out.size)) (by omega), Tt.rw H5.out.1, (((H5.out.2.1.set _ _).set _ _).set _ _).set _ _, (((H5.out.2.2.set _ _).set _ _).set _ _).set _ _⟩

theorem sgn_uni {w w' s t x n c f x' n' d'} {v : Int} (ha : Wn w s x n c f v) (hb : Zn w' t x' n' d' v) : t = s := by
  have h1 := hb.sgn; have h2 := ha.sgn
  rcases Nat.eq_zero_or_pos v.natAbs with h0 | h0
  · have k1 := hb.pos; have k2 : s = true → 0 < n := fun h => sgn_of_wfB ha.wf h
    have z2 : n' = 0 := by
      rcases Nat.eq_zero_or_pos n' with h | h
      · exact h
      · have := hb.dn.pos' h; omega
    have zn : n = 0 := by
      rcases Nat.eq_zero_or_pos n with h | h
      · exact h
      · have h3 := vf_pos ha.lm ha.fm h
        have h4 := ha.mag.nv
        omega
    cases t
    · cases s
      · rfl
      · have := k2 rfl; omega
    · have := k1 rfl; omega
  · cases t <;> cases s <;> simp [sg] at h1 h2 <;> first | rfl | omega
/-- The text of a bound. -/
def etx (i : Int) (s : Bool) (q : Rat) : ByteArray := if i = -1 then ⟨#[45, 105, 110, 102]⟩ else if i = 1 then ⟨#[105, 110, 102]⟩ else qtx s q
def petx (p : Bool) (i : Int) (s : Bool) (q : Rat) : ByteArray := if p then etx i s q else ⟨#[]⟩

set_option maxRecDepth 100000 in
set_option maxHeartbeats 4000000 in
theorem eTextErr_c {w : World} {i : Int} {s : Bool} {x : Option Addr} {n c : Nat} {f : Nat → Int} {y : Option Addr} {m d : Nat} {g : Nat → Int} (h : Rw w x n c f y m d g) (hn : n ≤ 100) (hm : m ≤ 100) (hp : efB i s f n g m = false) :
    Calls Tryz.prog 30 #[.agg #[.int .i64 i, .bool s, .slice x n c, .slice y m d]] w fun e w' => e = .returned (.tuple #[.string ⟨#[]⟩, .int .i64 3]) ∧ Below w.heap.size w w' := by
  have BX := hid (bx4_at w (.int .i64 i) (.bool s) (.slice x n c) (.slice y m d) 26)
  have HW := hid (below_alloc (Below.refl w.heap.size w) (.cells #[.int .i64 i, .bool s, .slice x n c, .slice y m d] 26))
  have HR := hid (h.alloc (.cells #[.int .i64 i, .bool s, .slice x n c, .slice y m d] 26)); have HP := hid hp
  clear h hp
  go_enter Tryz.func30, Tryz.ntmps30
  go_upto_region 1 with fail
  generalize w.alloc (.cells #[.int .i64 i, .bool s, .slice x n c, .slice y m d] 26) = w1 at *
  obtain ⟨z, x0, x1, x2, x3⟩ := BX.out
  have cf := fun (t : TypeId) => allForm1_c (bx4_at w1 (.int .i64 i) (.bool s) (.slice x n c) (.slice y m d) t) (HR.out.alloc _) (by omega) (by omega)
  rw [HP.out] at cf
  have CF := hid cf
  clear cf
  go_wp2_with fail
  refine (CF.out _).mono ?_
  rintro e w2 ⟨rfl, hb⟩
  have HB1 : Hid (Below w1.heap.size w1 w2) := (below_alloc (Below.refl _ _) _).trans (hb.mono (by simp))
  have HB := hid (HW.out.trans (HB1.out.mono HW.out.size))
  clear hb z x0 x1 x2 x3 CF
  go_wp2
  go_ret2
  exact ⟨rfl, HB.out⟩

set_option maxRecDepth 100000 in
set_option maxHeartbeats 4000000 in
theorem eTextOk_c {w : World} {i : Int} {s : Bool} {x : Option Addr} {n c : Nat} {f : Nat → Int} {y : Option Addr} {m d : Nat} {g : Nat → Int} {q : Rat} (h : En 100 w i s x n c f y m d g q) (t1 : Tg w x) (t2 : Tg w y) (htab : Tab w) :
    Calls Tryz.prog 30 #[.agg #[.int .i64 i, .bool s, .slice x n c, .slice y m d]] w fun e w' => e = .returned (.tuple #[.string (etx i s q), .int .i64 0]) ∧ Below w.heap.size w w' := by
  have BX := hid (bx4_at w (.int .i64 i) (.bool s) (.slice x n c) (.slice y m d) 26)
  have HW := hid (below_alloc (Below.refl w.heap.size w) (.cells #[.int .i64 i, .bool s, .slice x n c, .slice y m d] 26))
  have HE0 := hid h; have HE := hid (h.alloc (.cells #[.int .i64 i, .bool s, .slice x n c, .slice y m d] 26)); have T1 := hid t1; have T2 := hid t2; have HTab := hid htab
  have hl1 := h.rn.ln; have hl2 := h.rn.ld
  have hi := h.inf
  clear h t1 t2 htab
  have hi3 : i = 0 ∨ i = -1 ∨ i = 1 := by
    rcases hi with h | ⟨h | h, _⟩
    · exact .inl h
    · exact .inr (.inl h)
    · exact .inr (.inr h)
  clear hi
  rcases hi3 with rfl | rfl | rfl
  all_goals
    go_enter Tryz.func30, Tryz.ntmps30
    go_upto_region 1 with fail
    generalize w.alloc _ = w1 at *
    obtain ⟨z, x0, x1, x2, x3⟩ := BX.out
    have cf := fun (t : TypeId) (k : Int) (hk : efB k s f n g m = true) (b : Bx4 (w1.alloc (.cells #[.int .i64 k, .bool s, .slice x n c, .slice y m d] t)) w1.heap.size (.int .i64 k) (.bool s) (.slice x n c) (.slice y m d)) => by
      have := allForm1_c b (HE.out.rn.rw.alloc _) (by omega) (by omega)
      rw [hk] at this
      exact this
    have CF := hid cf
    clear cf
    go_wp2_with fail
    refine (CF.out _ _ HE.out.ef (bx4_at _ _ _ _ _ _)).mono ?_
    rintro e w2 ⟨rfl, hb⟩
    have HB1 : Hid (Below w1.heap.size w1 w2) := (below_alloc (Below.refl _ _) _).trans (hb.mono (by simp))
    have HB := hid (HW.out.trans (HB1.out.mono HW.out.size))
    clear hb z x0 x1 x2 x3 CF
    obtain ⟨z, x0, x1, x2, x3⟩ := BX.out.below HB1.out
  · have ct := rTextOk_c (HE0.out.rn.below HB.out) (by omega) (T1.out.kept HB.out) (T2.out.kept HB.out) (HTab.out.below HB.out HTab.out.lt)
    have he : etx 0 s q = qtx s q := by simp [etx]
    obtain ⟨tx, htx⟩ : ∃ tx, qtx s q = tx := ⟨_, rfl⟩
    have HX : Hid (etx 0 s q = tx) := he.trans htx
    rw [htx] at ct
    have CT := hid ct
    clear ct he htx
    go_wp2_with fail
    refine CT.out.mono ?_
    rintro e w3 ⟨rfl, hb⟩
    have HB3 := hid (HB.out.trans (hb.mono HB.out.size))
    clear hb
    go_wp2
    go_ret2
    exact ⟨by rw [HX.out]; rfl, HB3.out⟩
  · go_wp2
    go_ret2
    exact ⟨by simp [etx], HB.out⟩
  · go_wp2
    go_ret2
    exact ⟨by simp [etx], HB.out⟩

set_option maxRecDepth 100000 in
set_option maxHeartbeats 4000000 in
theorem xText_c {w : World} {i : Int} {s : Bool} {x : Option Addr} {n c : Nat} {f : Nat → Int} {y : Option Addr} {m d : Nat} {g : Nat → Int} {q : Rat} (h : Fn w i s x n f y m g q) (hn : n ≤ 8192) (hm : m ≤ 8192) (s1 : (dec q.num.natAbs).size ≤ 81921) (s2 : (dec q.den).size ≤ 81921) :
    Calls Tryz.prog 69 #[.agg #[.int .i64 i, .bool s, .slice x n c, .slice y m d]] w fun e w' => e = .returned (.string (etx i s q)) ∧ Below w.heap.size w w' := by
  have BX := hid (bx4_at w (.int .i64 i) (.bool s) (.slice x n c) (.slice y m d) 72)
  have HW := hid (below_alloc (Below.refl w.heap.size w) (.cells #[.int .i64 i, .bool s, .slice x n c, .slice y m d] 72))
  have HF := hid (h.alloc (.cells #[.int .i64 i, .bool s, .slice x n c, .slice y m d] 72)); have S1 := hid s1; have S2 := hid s2
  have hi := h.inf
  clear h s1 s2
  have hi3 : i = 0 ∨ i = -1 ∨ i = 1 := by
    rcases hi with h | ⟨h | h, _⟩
    · exact .inl h
    · exact .inr (.inl h)
    · exact .inr (.inr h)
  clear hi
  rcases hi3 with rfl | rfl | rfl
  all_goals
    go_enter Tryz.func69, Tryz.ntmps69
    go_upto_region 1 with fail
    generalize w.alloc _ = w1 at *
    obtain ⟨z, x0, x1, x2, x3⟩ := BX.out
  · have ct := qText_c (c := c) (e := d) HF.out.qn hn hm S1.out S2.out
    have he : etx 0 s q = qtx s q := by simp [etx]
    obtain ⟨tx, htx⟩ : ∃ tx, qtx s q = tx := ⟨_, rfl⟩
    have HX : Hid (etx 0 s q = tx) := he.trans htx
    rw [htx] at ct
    have CT := hid ct
    clear ct he htx
    go_wp2_with fail
    refine CT.out.mono ?_
    rintro e w3 ⟨rfl, hb⟩
    have HB3 := hid (HW.out.trans (hb.mono HW.out.size))
    clear hb
    go_wp2
    go_ret
    exact ⟨by rw [HX.out]; rfl, HB3.out⟩
  · go_wp2
    go_ret
    exact ⟨by simp [etx], HW.out⟩
  · go_wp2
    go_ret
    exact ⟨by simp [etx], HW.out⟩

set_option maxRecDepth 100000 in
set_option maxHeartbeats 4000000 in
theorem docTextX_g {w : World} {i : Int} {s : Bool} {x : Option Addr} {n c : Nat} {f : Nat → Int} {y : Option Addr} {m d : Nat} {g : Nat → Int} {p : Bool} {q : Rat} (h : Rw w x n c f y m d g) (hn : n ≤ 100) (hm : m ≤ 100) (hp : efB i s f n g m = p) (hq : p = true → En 100 w i s x n c f y m d g q) :
    Calls Tryz.prog 31 #[.agg #[.int .i64 i, .bool s, .slice x n c, .slice y m d]] w fun e w' => e = .returned (.tuple #[.string (petx p i s q), .int .i64 (pte p)]) ∧ Below w.heap.size w w' := by
  have BX := hid (bx4_at w (.int .i64 i) (.bool s) (.slice x n c) (.slice y m d) 26)
  have HW := hid (below_alloc (Below.refl w.heap.size w) (.cells #[.int .i64 i, .bool s, .slice x n c, .slice y m d] 26))
  have HR := hid (h.alloc (.cells #[.int .i64 i, .bool s, .slice x n c, .slice y m d] 26)); have HP := hid hp; have HQ := hid (fun k => (hq k).alloc (.cells #[.int .i64 i, .bool s, .slice x n c, .slice y m d] 26))
  clear h hp hq
  go_enter Tryz.func31, Tryz.ntmps31
  go_upto_region 1 with fail
  generalize w.alloc (.cells #[.int .i64 i, .bool s, .slice x n c, .slice y m d] 26) = w1 at *
  obtain ⟨z, x0, x1, x2, x3⟩ := BX.out
  have cf := xForm_c (i := i) (s := s) HR.out (by omega) (by omega)
  rw [HP.out] at cf
  have CF := hid cf
  clear cf
  go_wp2_with fail
  refine CF.out.mono ?_
  rintro e w2 ⟨rfl, hb⟩
  have HB1 := hid hb
  have HB := hid (HW.out.trans (HB1.out.mono HW.out.size))
  clear hb z x0 x1 x2 x3 CF
  obtain ⟨pp, hpp⟩ : ∃ pp, p = pp := ⟨_, rfl⟩
  subst hpp
  cases hc : p
  · subst hc
    go_wp2
    go_ret2
    exact ⟨rfl, HB.out⟩
  subst hc
  have E1 := hid ((HQ.out rfl).below HB1.out)
  obtain ⟨z, x0, x1, x2, x3⟩ := BX.out.below HB1.out
  go_wp2_with fail
  refine (xFrom_c E1.out (by omega)).mono ?_
  rintro e w3 ⟨s3, x3', n3, c3, d3, y3, m3, e3, g3, rfl, hb, H3⟩
  have HB3 := hid (HB.out.trans (hb.mono HB.out.size))
  have hss : s3 = s := sgn_uni E1.out.rn.num H3.out.2.2.qn.num
  subst hss
  have l1 := H3.out.1; have l2 := H3.out.2.1; have l3 := E1.out.rn.ln; have l4 := E1.out.rn.ld
  have ct := xText_c (c := c3) (d := e3) H3.out.2.2 (by omega) (by omega) (dec_size E1.out.rn.num.mag (by omega)) (dec_size E1.out.rn.den (by omega))
  have CT := hid ct
  clear hb z x0 x1 x2 x3 ct
  obtain ⟨tx, htx⟩ : ∃ tx, etx i s3 q = tx := ⟨_, rfl⟩
  have HX : Hid (petx true i s3 q = tx) := htx
  rw [htx] at CT
  clear htx
  go_wp2_with fail
  refine CT.out.mono ?_
  rintro e w4 ⟨rfl, hb⟩
  have HB4 := hid (HB3.out.trans (hb.mono HB3.out.size))
  clear hb
  go_wp2
  go_ret2
  exact ⟨by rw [HX.out]; rfl, HB4.out⟩
theorem eText_g {w : World} {i : Int} {s : Bool} {x : Option Addr} {n c : Nat} {f : Nat → Int} {y : Option Addr} {m d : Nat} {g : Nat → Int} {p : Bool} {q : Rat} (h : Rw w x n c f y m d g) (hn : n ≤ 100) (hm : m ≤ 100) (hp : efB i s f n g m = p) (hq : p = true → En 100 w i s x n c f y m d g q) (t1 : Tg w x) (t2 : Tg w y) (htab : Tab w) :
    Calls Tryz.prog 30 #[.agg #[.int .i64 i, .bool s, .slice x n c, .slice y m d]] w fun e w' => e = .returned (.tuple #[.string (petx p i s q), .int .i64 (pte p)]) ∧ Below w.heap.size w w' := by
  cases p
  · exact eTextErr_c h hn hm hp
  · exact eTextOk_c (hq rfl) t1 t2 htab

/-- What Read answers. -/
def ERd (t : ByteArray) (b : Nat → Nat) (w' : World) (i : Int) (s : Bool) (x : Option Addr) (n c : Nat) (f : Nat → Int) (y : Option Addr) (m d : Nat) (g : Nat → Int) (er : Int) : Prop :=
  t = ⟨#[45, 105, 110, 102]⟩ ∧ er = 0 ∧ i = -1 ∧ Rn 2000 w' s x n c f y m d g 0 ∨ t = ⟨#[105, 110, 102]⟩ ∧ er = 0 ∧ i = 1 ∧ Rn 2000 w' s x n c f y m d g 0 ∨ (t ≠ ⟨#[45, 105, 110, 102]⟩ ∧ t ≠ ⟨#[105, 110, 102]⟩) ∧ i = 0 ∧ RRead b t.size w' s x n c f y m d g er
theorem ERd.below {t b w w' i s x n c f y m d g er} (h : ERd t b w i s x n c f y m d g er) (hb : Below w.heap.size w w') : ERd t b w' i s x n c f y m d g er := by
  rcases h with ⟨h1, h2, h3, h4⟩ | ⟨h1, h2, h3, h4⟩ | ⟨h1, h2, h3⟩
  · exact .inl ⟨h1, h2, h3, h4.below hb⟩
  · exact .inr (.inl ⟨h1, h2, h3, h4.below hb⟩)
  · exact .inr (.inr ⟨h1, h2, h3.below hb⟩)
theorem ERd.alloc {t b w i s x n c f y m d g er} (h : ERd t b w i s x n c f y m d g er) (o : Obj) : ERd t b (w.alloc o) i s x n c f y m d g er := h.below (below_alloc (Below.refl _ _) o)
theorem lo_hi : (⟨#[45, 105, 110, 102]⟩ : ByteArray) ≠ ⟨#[105, 110, 102]⟩ := by decide
theorem erd_agree {t b w i s x n c f y m d g er w' i' s' x' n' c' f' y' m' d' g' er'} (h : ERd t b w i s x n c f y m d g er) (k : ERd t b w' i' s' x' n' c' f' y' m' d' g' er') : i' = i ∧ er' = er := by
  rcases h with ⟨h1, h2, h3, _⟩ | ⟨h1, h2, h3, _⟩ | ⟨h1, h2, h3⟩ <;> rcases k with ⟨k1, k2, k3, _⟩ | ⟨k1, k2, k3, _⟩ | ⟨k1, k2, k3⟩
  · omega
  · exact absurd (h1.symm.trans k1) lo_hi
  · exact absurd h1 k1.1
  · exact absurd (k1.symm.trans h1) lo_hi
  · omega
  · exact absurd h1 k1.2
  · exact absurd k1 h1.1
  · exact absurd k1 h1.2
  · exact ⟨by omega, rr_er h3 k3⟩
theorem erd_same {t b w i s x n c f y m d g er s' x' n' c' f' y' m' d' g' er'} (h : ERd t b w i s x n c f y m d g er) (k : ERd t b w i s' x' n' c' f' y' m' d' g' er') :
    Calls Tryz.prog 35 #[.agg #[.int .i64 i, .bool s, .slice x n c, .slice y m d], .agg #[.int .i64 i, .bool s', .slice x' n' c', .slice y' m' d']] w fun e w' => e = .returned (.bool true) ∧ Below w.heap.size w w' := by
  refine xSame_of (fun W hW => ?_)
  have hh := h.below hW
  have kk := k.below hW
  rcases hh with ⟨h1, h2, h3, h4⟩ | ⟨h1, h2, h3, h4⟩ | ⟨h1, h2, h3⟩ <;> rcases kk with ⟨k1, k2, k3, k4⟩ | ⟨k1, k2, k3, k4⟩ | ⟨k1, k2, k3⟩
  · exact (rSame_n h4 k4 (by omega) (by omega)).mono (fun e w' ⟨j1, j2⟩ => ⟨by rw [j1]; simp, j2⟩)
  · omega
  · omega
  · omega
  · exact (rSame_n h4 k4 (by omega) (by omega)).mono (fun e w' ⟨j1, j2⟩ => ⟨by rw [j1]; simp, j2⟩)
  · omega
  · omega
  · omega
  · exact rr_same h3 k3
theorem Ob4.rr {w B u0 u1 u2 u3 b L s x n c f y m d g er} (h : Ob4 w B) (hx : RRead b L w s x n c f y m d g er) : RRead b L ((((w.setCell ⟨B, 0, none⟩ u0).setCell ⟨B, 1, none⟩ u1).setCell ⟨B, 2, none⟩ u2).setCell ⟨B, 3, none⟩ u3) s x n c f y m d g er := by
  rcases hx with h1 | ⟨h1, ⟨q, h2, h3⟩, h4⟩ | h1
  · exact .inl h1
  · exact .inr (.inl ⟨h1, ⟨q, h2, h.rn h3⟩, h4⟩)
  · exact .inr (.inr h1)
theorem str_ne {t u : ByteArray} {l : List UInt8} (hl : u.toList = l) (h : t ≠ u) : (t.toList == l) = false := by
  have := toList_ne h
  rwa [hl] at this

/-- A bound that Read answers. -/
def ERes (t : ByteArray) (b : Nat → Nat) (w w' : World) (e : Ending) : Prop := ∃ i s x n c f y m d g er, e = .returned (.tuple #[.agg #[.int .i64 i, .bool s, .slice x n c, .slice y m d], .int .i64 er]) ∧ Below w.heap.size w w' ∧ ERd t b w' i s x n c f y m d g er
set_option maxRecDepth 100000 in
set_option maxHeartbeats 4000000 in
theorem eRead_g (t : ByteArray) (b : Nat → Nat) (w : World) (hs : Sb t t.size b) (hL : t.size ≤ 1000 ∨ 1048576 < t.size) :
    Calls Tryz.prog 32 #[.string t] w fun e w' => ERes t b w w' e := by
  have h2 := ob4_new w 26
  have h3 := below_alloc (Below.refl w.heap.size w) (.cells #[.int .i64 0, .bool false, .slice none 0 0, .slice none 0 0] 26)
  have CR := hid (fun W => rRead_g t b W hs hL)
  clear hs hL
  by_cases hlo : t = ⟨#[45, 105, 110, 102]⟩
  · subst hlo
    clear CR
    go_enter Tryz.func32, Tryz.ntmps32
    go_wp2_with fail
    generalize w.alloc (.cells #[.int .i64 0, .bool false, .slice none 0 0, .slice none 0 0] 26) = w1 at *
    have OB := hid h2; have HW := hid h3
    clear h2 h3
    refine eLow_c.mono ?_
    rintro e w2 ⟨s2, x2, n2, c2, f2, y2, m2, d2, g2, rfl, hb, hr⟩
    have HB := hid (HW.out.trans (hb.mono HW.out.size)); have OB2 := hid (OB.out.below hb); have R2 := hid hr
    clear hb hr
    obtain ⟨hz, z0, z1, z2, z3, zf⟩ := OB2.out
    go_wp2
    exact bodyPost_ret (v := .tuple #[.agg #[.int .i64 (-1), .bool s2, .slice x2 n2 c2, .slice y2 m2 d2], .int .i64 0]) (by simp [results, Tryz.results32, go_sem, z0, z1, z2, z3]) rfl ⟨-1, s2, x2, n2, c2, f2, y2, m2, d2, g2, 0, rfl, below_st4 HB.out (Nat.le_refl _), .inl ⟨rfl, rfl, rfl, OB2.out.rn (R2.out.rn.mono (by omega))⟩⟩
  have q1 : (t.toList == [45, 105, 110, 102]) = false := str_ne (by rw [ByteArray.toList_eq]) hlo
  by_cases hhi : t = ⟨#[105, 110, 102]⟩
  · subst hhi
    clear CR q1
    go_enter Tryz.func32, Tryz.ntmps32
    go_wp2_with fail
    generalize w.alloc (.cells #[.int .i64 0, .bool false, .slice none 0 0, .slice none 0 0] 26) = w1 at *
    have OB := hid h2; have HW := hid h3
    clear h2 h3
    refine eHigh_c.mono ?_
    rintro e w2 ⟨s2, x2, n2, c2, f2, y2, m2, d2, g2, rfl, hb, hr⟩
    have HB := hid (HW.out.trans (hb.mono HW.out.size)); have OB2 := hid (OB.out.below hb); have R2 := hid hr
    clear hb hr
    obtain ⟨hz, z0, z1, z2, z3, zf⟩ := OB2.out
    go_wp2
    exact bodyPost_ret (v := .tuple #[.agg #[.int .i64 1, .bool s2, .slice x2 n2 c2, .slice y2 m2 d2], .int .i64 0]) (by simp [results, Tryz.results32, go_sem, z0, z1, z2, z3]) rfl ⟨1, s2, x2, n2, c2, f2, y2, m2, d2, g2, 0, rfl, below_st4 HB.out (Nat.le_refl _), .inr (.inl ⟨rfl, rfl, rfl, OB2.out.rn (R2.out.rn.mono (by omega))⟩)⟩
  have q2 : (t.toList == [105, 110, 102]) = false := str_ne (by rw [ByteArray.toList_eq]) hhi
  have HNE : Hid (t ≠ ⟨#[45, 105, 110, 102]⟩ ∧ t ≠ ⟨#[105, 110, 102]⟩) := ⟨hlo, hhi⟩
  clear hlo hhi
  go_enter Tryz.func32, Tryz.ntmps32
  go_wp2_with fail
  generalize w.alloc (.cells #[.int .i64 0, .bool false, .slice none 0 0, .slice none 0 0] 26) = w1 at *
  have OB := hid h2; have HW := hid h3
  clear h2 h3
  refine (CR.out _).mono ?_
  rintro e w2 ⟨s2, x2, n2, c2, f2, y2, m2, d2, g2, er, rfl, hb, hr⟩
  have HB := hid (below_alloc (HW.out.trans (hb.mono HW.out.size)) (.cells #[.bool s2, .slice x2 n2 c2, .slice y2 m2 d2] 24)); have OB2 := hid ((OB.out.below hb).alloc (.cells #[.bool s2, .slice x2 n2 c2, .slice y2 m2 d2] 24)); have R2 := hid (hr.alloc (.cells #[.bool s2, .slice x2 n2 c2, .slice y2 m2 d2] 24)); have BX2 := hid (bx3_at w2 (.bool s2) (.slice x2 n2 c2) (.slice y2 m2 d2) 24)
  clear hb hr
  go_upto_region 7 with fail
  generalize w2.alloc (.cells #[.bool s2, .slice x2 n2 c2, .slice y2 m2 d2] 24) = w3 at *
  generalize w2.heap.size = b3 at *
  by_cases he : er = 0
  · subst he
    obtain ⟨zx, x0, x1, x2'⟩ := BX2.out
    go_wp2_with fail
    refine enumber_c.mono ?_
    rintro e w4 ⟨rfl, hb⟩
    have HB4 := hid (HB.out.trans (hb.mono HB.out.size)); have OB4 := hid (OB2.out.below hb); have R4 := hid (R2.out.below hb)
    clear hb zx x0 x1 x2'
    obtain ⟨hz, z0, z1, z2, z3, zf⟩ := OB4.out
    go_wp2
    exact bodyPost_ret (v := .tuple #[.agg #[.int .i64 0, .bool s2, .slice x2 n2 c2, .slice y2 m2 d2], .int .i64 0]) (by simp [results, Tryz.results32, go_sem, z0, z1, z2, z3]) rfl ⟨0, s2, x2, n2, c2, f2, y2, m2, d2, g2, 0, rfl, below_st4 HB4.out (Nat.le_refl _), .inr (.inr ⟨HNE.out, rfl, OB4.out.rr R4.out⟩)⟩
  · have hen : (er != 0) = true := by simp; exact he
    have RR : Hid (ERd t b w3 0 false none 0 0 (fun _ => 0) none 0 0 (fun _ => 0) er) := by
      refine .inr (.inr ⟨HNE.out, rfl, ?_⟩)
      rcases R2.out with ⟨h1, h2, _⟩ | ⟨h1, _, h2⟩ | ⟨h1, h2, h3, _⟩
      · exact .inl ⟨h1, h2, rfl, rfl, rfl⟩
      · exact absurd h2 he
      · exact .inr (.inr ⟨h1, h2, h3, rfl, rfl, rfl⟩)
    clear he
    obtain ⟨hz, z0, z1, z2, z3, zf⟩ := OB2.out
    go_wp2
    refine bodyPost_ret (v := .tuple #[.agg #[.int .i64 0, .bool false, .slice none 0 0, .slice none 0 0], .int .i64 er]) (by simp [results, Tryz.results32, go_sem, z0, z1, z2, z3]) rfl ⟨0, false, none, 0, 0, fun _ => 0, none, 0, 0, fun _ => 0, er, rfl, below_st4 HB.out (Nat.le_refl _), ?_⟩
    rcases RR.out with ⟨_, _, k3, _⟩ | ⟨_, _, k3, _⟩ | ⟨k1, k2, k3⟩
    · omega
    · omega
    · exact .inr (.inr ⟨k1, rfl, OB2.out.rr k3⟩)

set_option maxRecDepth 100000 in
set_option maxHeartbeats 4000000 in
theorem xNumRaw_c {w : World} {s : Bool} {x : Option Addr} {n c : Nat} {y : Option Addr} {m d : Nat} : Calls Tryz.prog 59 #[.agg #[.bool s, .slice x n c, .slice y m d]] w fun e w' => e = .returned (.agg #[.int .i64 0, .bool s, .slice x n c, .slice y m d]) ∧ Below w.heap.size w w' := by
  have h1 := (bx3_at w (.bool s) (.slice x n c) (.slice y m d) 70).alloc (.cells #[.int .i64 0, .bool false, .slice none 0 0, .slice none 0 0] 72)
  have h2 := ob4_new (w.alloc (.cells #[.bool s, .slice x n c, .slice y m d] 70)) 72
  rw [size_alloc1] at h2
  have h3 := below_alloc (below_alloc (Below.refl w.heap.size w) (.cells #[.bool s, .slice x n c, .slice y m d] 70)) (.cells #[.int .i64 0, .bool false, .slice none 0 0, .slice none 0 0] 72)
  go_enter Tryz.func59, Tryz.ntmps59
  go_upto_region 1 with fail
  generalize (w.alloc (.cells #[.bool s, .slice x n c, .slice y m d] 70)).alloc (.cells #[.int .i64 0, .bool false, .slice none 0 0, .slice none 0 0] 72) = w1 at *
  have HW := hid h3
  obtain ⟨z, x0, x1, x2⟩ := h1
  obtain ⟨hz, z0, z1, z2, z3, zf⟩ := h2
  clear h3
  go_wp2
  exact bodyPost_ret (v := .agg #[.int .i64 0, .bool s, .slice x n c, .slice y m d]) (by simp [results, Tryz.results59, go_sem, z0, z1, z2, z3]) rfl ⟨rfl, below_st4 HW.out (by omega)⟩
/-- What the reference's Read answers. -/
def FRd (t : ByteArray) (b : Nat → Nat) (w' : World) (i : Int) (s : Bool) (x : Option Addr) (n : Nat) (d : Nat → Int) (y : Option Addr) (m : Nat) (g : Nat → Int) (ok : Bool) : Prop :=
  t = ⟨#[45, 105, 110, 102]⟩ ∧ ok = true ∧ i = -1 ∧ (n + m ≤ 2000 ∧ Qn w' s x n d y m g 0) ∨ t = ⟨#[105, 110, 102]⟩ ∧ ok = true ∧ i = 1 ∧ (n + m ≤ 2000 ∧ Qn w' s x n d y m g 0) ∨ (t ≠ ⟨#[45, 105, 110, 102]⟩ ∧ t ≠ ⟨#[105, 110, 102]⟩) ∧ i = 0 ∧ QRead b t.size w' s x n d y m g ok
set_option maxRecDepth 100000 in
set_option maxHeartbeats 4000000 in
theorem xRead_c (t : ByteArray) (b : Nat → Nat) (w : World) (hs : Sb t t.size b) (hL : t.size ≤ 1000) :
    Calls Tryz.prog 71 #[.string t] w fun e w' => ∃ i s x n c d y m c' g ok, e = .returned (.tuple #[.agg #[.int .i64 i, .bool s, .slice x n c, .slice y m c'], .bool ok]) ∧ Below w.heap.size w w' ∧ FRd t b w' i s x n d y m g ok := by
  have h2 := ob4_new w 72
  have h3 := below_alloc (Below.refl w.heap.size w) (.cells #[.int .i64 0, .bool false, .slice none 0 0, .slice none 0 0] 72)
  have CR := hid (fun W => qRead_c t b W hs hL)
  clear hs hL
  by_cases hlo : t = ⟨#[45, 105, 110, 102]⟩
  · subst hlo
    clear CR
    go_enter Tryz.func71, Tryz.ntmps71
    go_wp2_with fail
    generalize w.alloc (.cells #[.int .i64 0, .bool false, .slice none 0 0, .slice none 0 0] 72) = w1 at *
    have OB := hid h2; have HW := hid h3
    clear h2 h3
    refine xLow_c.mono ?_
    rintro e w2 ⟨s2, x2, n2, c2, d2, y2, m2, e2, g2, rfl, hb, H2⟩
    have HB := hid (HW.out.trans (hb.mono HW.out.size)); have OB2 := hid (OB.out.below hb)
    have l1 := H2.out.1; have l2 := H2.out.2.1
    clear hb
    obtain ⟨hz, z0, z1, z2, z3, zf⟩ := OB2.out
    go_wp2
    exact bodyPost_ret (v := .tuple #[.agg #[.int .i64 (-1), .bool s2, .slice x2 n2 c2, .slice y2 m2 e2], .bool true]) (by simp [results, Tryz.results71, go_sem, z0, z1, z2, z3]) rfl ⟨-1, s2, x2, n2, c2, d2, y2, m2, e2, g2, true, rfl, below_st4 HB.out (Nat.le_refl _), .inl ⟨rfl, rfl, rfl, by omega, OB2.out.qn H2.out.2.2.qn⟩⟩
  have q1 : (t.toList == [45, 105, 110, 102]) = false := str_ne (by rw [ByteArray.toList_eq]) hlo
  by_cases hhi : t = ⟨#[105, 110, 102]⟩
  · subst hhi
    clear CR q1
    go_enter Tryz.func71, Tryz.ntmps71
    go_wp2_with fail
    generalize w.alloc (.cells #[.int .i64 0, .bool false, .slice none 0 0, .slice none 0 0] 72) = w1 at *
    have OB := hid h2; have HW := hid h3
    clear h2 h3
    refine xHigh_c.mono ?_
    rintro e w2 ⟨s2, x2, n2, c2, d2, y2, m2, e2, g2, rfl, hb, H2⟩
    have HB := hid (HW.out.trans (hb.mono HW.out.size)); have OB2 := hid (OB.out.below hb)
    have l1 := H2.out.1; have l2 := H2.out.2.1
    clear hb
    obtain ⟨hz, z0, z1, z2, z3, zf⟩ := OB2.out
    go_wp2
    exact bodyPost_ret (v := .tuple #[.agg #[.int .i64 1, .bool s2, .slice x2 n2 c2, .slice y2 m2 e2], .bool true]) (by simp [results, Tryz.results71, go_sem, z0, z1, z2, z3]) rfl ⟨1, s2, x2, n2, c2, d2, y2, m2, e2, g2, true, rfl, below_st4 HB.out (Nat.le_refl _), .inr (.inl ⟨rfl, rfl, rfl, by omega, OB2.out.qn H2.out.2.2.qn⟩)⟩
  have q2 : (t.toList == [105, 110, 102]) = false := str_ne (by rw [ByteArray.toList_eq]) hhi
  have HNE : Hid (t ≠ ⟨#[45, 105, 110, 102]⟩ ∧ t ≠ ⟨#[105, 110, 102]⟩) := ⟨hlo, hhi⟩
  clear hlo hhi
  go_enter Tryz.func71, Tryz.ntmps71
  go_wp2_with fail
  generalize w.alloc (.cells #[.int .i64 0, .bool false, .slice none 0 0, .slice none 0 0] 72) = w1 at *
  have OB := hid h2; have HW := hid h3
  clear h2 h3
  refine (CR.out _).mono ?_
  rintro e w2 ⟨s2, x2, n2, c2, d2, y2, m2, e2, g2, ok, rfl, hb, hr⟩
  have HB := hid (below_alloc (HW.out.trans (hb.mono HW.out.size)) (.cells #[.bool s2, .slice x2 n2 c2, .slice y2 m2 e2] 70)); have OB2 := hid ((OB.out.below hb).alloc (.cells #[.bool s2, .slice x2 n2 c2, .slice y2 m2 e2] 70)); have BX2 := hid (bx3_at w2 (.bool s2) (.slice x2 n2 c2) (.slice y2 m2 e2) 70)
  have R2 : Hid (QRead b t.size (w2.alloc (.cells #[.bool s2, .slice x2 n2 c2, .slice y2 m2 e2] 70)) s2 x2 n2 d2 y2 m2 g2 ok) := by
    rcases hr with ⟨k1, ⟨q, k2, k3⟩, k4⟩ | k1
    · exact .inl ⟨k1, ⟨q, k2, k3.alloc _⟩, k4⟩
    · exact .inr k1
  clear hb hr
  go_upto_region 7 with fail
  generalize w2.alloc (.cells #[.bool s2, .slice x2 n2 c2, .slice y2 m2 e2] 70) = w3 at *
  generalize w2.heap.size = b3 at *
  obtain ⟨zx, x0, x1, x2'⟩ := BX2.out
  go_wp2_with fail
  refine (xNumRaw_c).mono ?_
  rintro e w4 ⟨rfl, hb⟩
  have HB4 := hid (HB.out.trans (hb.mono HB.out.size)); have OB4 := hid (OB2.out.below hb)
  have R4 : Hid (QRead b t.size w4 s2 x2 n2 d2 y2 m2 g2 ok) := by
    rcases R2.out with ⟨k1, ⟨q, k2, k3⟩, k4⟩ | k1
    · exact .inl ⟨k1, ⟨q, k2, k3.below hb⟩, k4⟩
    · exact .inr k1
  clear hb zx x0 x1 x2'
  obtain ⟨hz, z0, z1, z2, z3, zf⟩ := OB4.out
  go_wp2
  refine bodyPost_ret (v := .tuple #[.agg #[.int .i64 0, .bool s2, .slice x2 n2 c2, .slice y2 m2 e2], .bool ok]) (by simp [results, Tryz.results71, go_sem, z0, z1, z2, z3]) rfl ⟨0, s2, x2, n2, c2, d2, y2, m2, e2, g2, ok, rfl, below_st4 HB4.out (Nat.le_refl _), .inr (.inr ⟨HNE.out, rfl, ?_⟩)⟩
  rcases R4.out with ⟨k1, ⟨q, k2, k3⟩, k4⟩ | k1
  · exact .inl ⟨k1, ⟨q, k2, OB4.out.qn k3⟩, k4⟩
  · exact .inr k1

set_option maxRecDepth 100000 in
set_option maxHeartbeats 4000000 in
theorem docReadX_g (t : ByteArray) (b : Nat → Nat) (w : World) (hs : Sb t t.size b) (hL : t.size ≤ 1000 ∨ 1048576 < t.size) :
    Calls Tryz.prog 33 #[.string t] w fun e w' => ERes t b w w' e := by
  have h2 := ob4_new w 26
  have h3 := below_alloc (Below.refl w.heap.size w) (.cells #[.int .i64 0, .bool false, .slice none 0 0, .slice none 0 0] 26)
  rcases hL with hL | hL
  rotate_left
  · have hd : decide ((1048576 : Int) < (t.size : Int)) = true := by simp; omega
    have HNE : Hid (t ≠ ⟨#[45, 105, 110, 102]⟩ ∧ t ≠ ⟨#[105, 110, 102]⟩) := ⟨fun h => by rw [h] at hL; exact absurd hL (by decide), fun h => by rw [h] at hL; exact absurd hL (by decide)⟩
    have HL := hid hL
    clear hs h2 h3 hL
    go_enter Tryz.func33, Tryz.ntmps33
    go_wp2
    exact bodyPost_ret (v := .tuple #[.agg #[.int .i64 0, .bool false, .slice none 0 0, .slice none 0 0], .int .i64 2]) (by simp [results, Tryz.results33, go_sem]) rfl ⟨0, false, none, 0, 0, fun _ => 0, none, 0, 0, fun _ => 0, 2, rfl, below_alloc (Below.refl _ _) _, .inr (.inr ⟨HNE.out, rfl, .inl ⟨HL.out, rfl, rfl, rfl, rfl⟩⟩)⟩
  have hd : decide ((1048576 : Int) < (t.size : Int)) = false := by simp; omega
  have CR := hid (fun W => xRead_c t b W hs hL)
  have HL := hid hL
  clear hs hL
  go_enter Tryz.func33, Tryz.ntmps33
  go_wp2_with fail
  generalize w.alloc (.cells #[.int .i64 0, .bool false, .slice none 0 0, .slice none 0 0] 26) = w1 at *
  have OB := hid h2; have HW := hid h3
  clear h2 h3
  refine (CR.out _).mono ?_
  rintro e w2 ⟨i2, s2, x2, n2, c2, d2, y2, m2, e2, g2, ok, rfl, hb, hr⟩
  have HB := hid (below_alloc (HW.out.trans (hb.mono HW.out.size)) (.cells #[.int .i64 i2, .bool s2, .slice x2 n2 c2, .slice y2 m2 e2] 72)); have OB2 := hid ((OB.out.below hb).alloc (.cells #[.int .i64 i2, .bool s2, .slice x2 n2 c2, .slice y2 m2 e2] 72)); have BX2 := hid (bx4_at w2 (.int .i64 i2) (.bool s2) (.slice x2 n2 c2) (.slice y2 m2 e2) 72)
  have hcase : (ok = true ∧ ∃ q, Qn w2 s2 x2 n2 d2 y2 m2 g2 q ∧ n2 + m2 ≤ 2000 ∧ (i2 = 0 ∨ (i2 = -1 ∨ i2 = 1) ∧ q = 0) ∧ (∀ (w' : World) (x : Option Addr) (n c : Nat) (f : Nat → Int) (y : Option Addr) (m d : Nat) (g : Nat → Int), Rn 2000 w' s2 x n c f y m d g q → ERd t b w' i2 s2 x n c f y m d g 0)) ∨ (ok = false ∧ i2 = 0 ∧ ∀ w' : World, ERd t b w' 0 false none 0 0 (fun _ => 0) none 0 0 (fun _ => 0) 11) := by
    rcases hr with ⟨h1, h2, h3, h4, h5⟩ | ⟨h1, h2, h3, h4, h5⟩ | ⟨h1, h2, ⟨h3, ⟨q, h4, h5⟩, h6⟩ | ⟨h3, h4⟩⟩
    · exact .inl ⟨h2, 0, h5, h4, .inr ⟨.inl h3, rfl⟩, fun w' x n c f y m d g hh => .inl ⟨h1, rfl, h3, hh⟩⟩
    · exact .inl ⟨h2, 0, h5, h4, .inr ⟨.inr h3, rfl⟩, fun w' x n c f y m d g hh => .inr (.inl ⟨h1, rfl, h3, hh⟩)⟩
    · exact .inl ⟨h3, q, h5, h6, .inl h2, fun w' x n c f y m d g hh => .inr (.inr ⟨h1, h2, .inr (.inl ⟨by have := HL.out; omega, ⟨q, h4, hh⟩, rfl⟩)⟩)⟩
    · exact .inr ⟨h3, h2, fun w' => .inr (.inr ⟨h1, rfl, .inr (.inr ⟨by have := HL.out; omega, h4, rfl, rfl, rfl, rfl⟩)⟩)⟩
  clear hb hr hd
  rcases hcase with ⟨rfl, q, hqn, hnm, hinf, hall⟩ | ⟨rfl, hi0, hall⟩
  · have FN : Hid (Fn (w2.alloc (.cells #[.int .i64 i2, .bool s2, .slice x2 n2 c2, .slice y2 m2 e2] 72)) i2 s2 x2 n2 d2 y2 m2 g2 q) := ⟨hqn.alloc _, hinf⟩
    have HALL := hid hall
    clear hqn hinf hall
    go_upto_region 4 with fail
    generalize w2.alloc (.cells #[.int .i64 i2, .bool s2, .slice x2 n2 c2, .slice y2 m2 e2] 72) = w3 at *
    generalize w2.heap.size = b3 at *
    obtain ⟨zx, x0, x1, x2', x3⟩ := BX2.out
    go_wp2_with fail
    refine (xTo_c FN.out (by omega) (by omega)).mono ?_
    rintro e w4 ⟨x4, n4, c4, f4, y4, m4, d4, g4, rfl, hb, H4⟩
    have HB4 := hid (HB.out.trans (hb.mono HB.out.size)); have OB4 := hid (OB2.out.below hb)
    clear hb zx x0 x1 x2' x3
    obtain ⟨hz, z0, z1, z2, z3, zf⟩ := OB4.out
    go_wp2
    exact bodyPost_ret (v := .tuple #[.agg #[.int .i64 i2, .bool s2, .slice x4 n4 c4, .slice y4 m4 d4], .int .i64 0]) (by simp [results, Tryz.results33, go_sem, z0, z1, z2, z3]) rfl ⟨i2, s2, x4, n4, c4, f4, y4, m4, d4, g4, 0, rfl, below_st4 HB4.out (Nat.le_refl _), HALL.out _ _ _ _ _ _ _ _ _ (OB4.out.rn (H4.out.rn.mono (by omega)))⟩
  · have HALL := hid hall
    clear hall hi0
    go_upto_region 4 with fail
    generalize w2.alloc (.cells #[.int .i64 i2, .bool s2, .slice x2 n2 c2, .slice y2 m2 e2] 72) = w3 at *
    generalize w2.heap.size = b3 at *
    obtain ⟨hz, z0, z1, z2, z3, zf⟩ := OB2.out
    go_wp2
    exact bodyPost_ret (v := .tuple #[.agg #[.int .i64 0, .bool false, .slice none 0 0, .slice none 0 0], .int .i64 11]) (by simp [results, Tryz.results33, go_sem, z0, z1, z2, z3]) rfl ⟨0, false, none, 0, 0, fun _ => 0, none, 0, 0, fun _ => 0, 11, rfl, below_st4 HB.out (Nat.le_refl _), HALL.out _⟩

set_option maxRecDepth 100000 in
set_option maxHeartbeats 4000000 in
theorem extTexts_c (i : Int) (s : Bool) (x : Option Addr) (n c : Nat) (f : Nat → Int) (y : Option Addr) (m d : Nat) (g : Nat → Int) (t : ByteArray) (w : World) (h : Rw w x n c f y m d g) (hsz : t.size ≤ 9223372036854775807) (htab : Tab w) :
    Calls Tryz.prog 5 #[.agg #[.int .i64 i, .bool s, .slice x n c, .slice y m d], .string t] w fun e w' => e = .returned (.bool true) ∧ Below w.heap.size w w' := by
  have HR := hid h; have HTab := hid htab
  have q1 := h.cx; have q2 := h.cy
  obtain ⟨b, hb⟩ : ∃ b, Sb t t.size b := ⟨_, sb_self t⟩
  have HSb := hid hb
  clear h htab hb
  go_enter Tryz.func5, Tryz.ntmps5
  go_wp2_with fail
  refine (eAwake_c _).mono ?_
  rintro e w1 ⟨rfl, hb⟩
  have B1 := hid (bx4_new hb); have HW1 : Hid (Below w.heap.size w w1) := (below_alloc (Below.refl w.heap.size w) _).trans (hb.mono (by simp))
  clear hb
  obtain ⟨z, x0, x1, x2, x3⟩ := B1.out
  go_wp2_with fail
  refine (elight_c (by omega) (by omega) (by omega) (by omega)).mono ?_
  rintro e w2 ⟨rfl, hb⟩
  have B2 := hid (B1.out.below hb); have HW2 := hid (HW1.out.trans (hb.mono HW1.out.size))
  clear hb B1 HW1 z x0 x1 x2 x3
  cases hl : (lg n m 20 && lg n m 20)
  · go_wp2
    go_ret
    exact ⟨rfl, HW2.out⟩
  have hl1 : n ≤ 20 ∧ m ≤ 20 := by
    simp only [lg, Bool.and_eq_true, decide_eq_true_eq] at hl
    exact hl.1
  obtain ⟨l1, l2⟩ := hl1
  clear hl
  by_cases h3 : 1000 < t.size ∧ t.size ≤ 1048576
  · have d2 : decide ((1000 : Int) < (t.size : Int)) = true := by simp; omega
    have d3 : decide ((t.size : Int) ≤ 1048576) = true := by simp; omega
    go_wp2
    go_ret
    exact ⟨rfl, HW2.out⟩
  have hL : t.size ≤ 1000 ∨ 1048576 < t.size := by omega
  have HL := hid hL
  have hcond : decide ((1000 : Int) < (t.size : Int)) = false ∨ (decide ((1000 : Int) < (t.size : Int)) = true ∧ decide ((t.size : Int) ≤ 1048576) = false) := by
    by_cases h4 : 1000 < t.size
    · exact .inr ⟨by simp; omega, by simp; omega⟩
    · exact .inl (by simp; omega)
  obtain ⟨p, hp⟩ : ∃ p, efB i s f n g m = p := ⟨_, rfl⟩
  obtain ⟨q, hq⟩ : ∃ q, p = true → En 100 w2 i s x n c f y m d g q := by
    cases p
    · exact ⟨0, fun h => by cases h⟩
    · obtain ⟨q, hq⟩ := (HR.out.below HW2.out).en hp (L := 100) (by omega) (by omega)
      exact ⟨q, fun _ => hq⟩
  have HP := hid hp; have HQ := hid hq
  clear hp hq hL h3
  have R2 := hid (HR.out.below HW2.out)
  obtain ⟨z, x0, x1, x2, x3⟩ := B2.out
  rcases hcond with d2 | ⟨d2, d3⟩
  all_goals
    go_wp2_with fail
    refine (xTwinT_c R2.out (by omega) (by omega)).mono ?_
    rintro e w3 ⟨x3', c3, y3, e3, rfl, hb, H3⟩
    have HB3 := hid hb
    clear hb z x0 x1 x2 x3
    have HW3 := hid (HW2.out.trans (HB3.out.mono HW2.out.size))
    go_wp2_with fail
    refine (eText_g (p := p) (q := q) H3.out.1 (by omega) (by omega) HP.out (fun h => (HQ.out h).moved H3.out.1) H3.out.2.1 H3.out.2.2 (HTab.out.below HW3.out HTab.out.lt)).mono ?_
    rintro e w4 ⟨rfl, hb⟩
    have HB4 := hid (HB3.out.trans (hb.mono HB3.out.size))
    clear hb H3 HB3 HW3
    obtain ⟨z, x0, x1, x2, x3⟩ := B2.out.below HB4.out
    go_wp2_with fail
    refine (docTextX_g (p := p) (q := q) (R2.out.below HB4.out) (by omega) (by omega) HP.out (fun h => (HQ.out h).below HB4.out)).mono ?_
    rintro e w5 ⟨rfl, hb⟩
    have HW5 := hid (HW2.out.trans ((HB4.out.trans (hb.mono HB4.out.size)).mono HW2.out.size))
    clear hb z x0 x1 x2 x3 HB4
    generalize petx p i s q = tx at *
    generalize pte p = te at *
    go_wp2_with fail
    refine (eRead_g t b _ HSb.out HL.out).mono ?_
    rintro e w6 ⟨i6, s6, x6, n6, c6, f6, y6, m6, e6, g6, er6, rfl, hb, hr6⟩
    have HW6 := hid (below_alloc (HW5.out.trans (hb.mono HW5.out.size)) (.cells #[.int .i64 i6, .bool s6, .slice x6 n6 c6, .slice y6 m6 e6] 26)); have R6 := hid (hr6.alloc (.cells #[.int .i64 i6, .bool s6, .slice x6 n6 c6, .slice y6 m6 e6] 26)); have B6 := hid (bx4_at w6 (.int .i64 i6) (.bool s6) (.slice x6 n6 c6) (.slice y6 m6 e6) 26)
    clear hb hr6
    go_wp2_with fail
    generalize w6.alloc (.cells #[.int .i64 i6, .bool s6, .slice x6 n6 c6, .slice y6 m6 e6] 26) = w7 at *
    generalize w6.heap.size = b6 at *
    refine (docReadX_g t b _ HSb.out HL.out).mono ?_
    rintro e w8 ⟨i8, s8, x8, n8, c8, f8, y8, m8, e8, g8, er8, rfl, hb, hr8⟩
    obtain ⟨hi8, her⟩ := erd_agree R6.out hr8
    subst hi8
    subst her
    have HW8 := hid (below_alloc (HW6.out.trans (hb.mono HW6.out.size)) (.cells #[.int .i64 i8, .bool s8, .slice x8 n8 c8, .slice y8 m8 e8] 26)); have R8 := hid ((R6.out.below hb).alloc (.cells #[.int .i64 i8, .bool s8, .slice x8 n8 c8, .slice y8 m8 e8] 26)); have S8 := hid (hr8.alloc (.cells #[.int .i64 i8, .bool s8, .slice x8 n8 c8, .slice y8 m8 e8] 26)); have B8 := hid ((B6.out.below hb).alloc (.cells #[.int .i64 i8, .bool s8, .slice x8 n8 c8, .slice y8 m8 e8] 26)); have B9 := hid (bx4_at w8 (.int .i64 i8) (.bool s8) (.slice x8 n8 c8) (.slice y8 m8 e8) 26)
    clear hb hr8 HW6 B6
    go_upto_region 11 with fail
    generalize w8.alloc (.cells #[.int .i64 i8, .bool s8, .slice x8 n8 c8, .slice y8 m8 e8] 26) = w9 at *
    generalize w8.heap.size = b9 at *
    obtain ⟨zp, p0, p1, p2, p3⟩ := B8.out
    obtain ⟨zr, r0, r1, r2, r3⟩ := B9.out
    go_wp2_with fail
    refine (lsame_c (fun W hW => erd_same (R8.out.below hW) (S8.out.below hW))).mono ?_
    rintro e w10 ⟨rfl, hb⟩
    have HW10 := hid (HW8.out.trans (hb.mono HW8.out.size))
    clear hb zp p0 p1 p2 p3 zr r0 r1 r2 r3
    go_wp2
    go_ret
    exact ⟨rfl, HW10.out⟩
end Go.Proofs.YtbindadjepfkcaaGreatDoor
