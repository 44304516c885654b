/-
  The walk of package point's Broken, whatever it is handed (written by makers/n5.py). The walks of package point's Activities, Feasible, Value, whatever they are handed (written by makers/n6.py). The walks of package ray's times, free, endless, slope, by values (written by makers/ra1.py). The walks of package ray's slope, by values, of Recedes, Valid, whatever they are handed (written by makers/ra2.py).
-/
import Derived.Test.YtlemkhgicdnlnaaGreatZ10
import Derived.Test.YtlemkhgicdnlnaaGreatZ9
namespace Go.Proofs.YtlemkhgicdnlnaaGreat
open Go.RowKit

theorem tsB_mem {n : Nat} : ∀ {ts : List (Int × Rat)} {l : Int}, tsB n l ts = true → ∀ t ∈ ts, l < t.1 ∧ t.1 < (n : Int) ∧ t.2 ≠ 0
  | [], _, _, t, ht => by cases ht
  | (z, q) :: r, l, h, t, ht => by
    simp only [tsB, Bool.and_eq_true, decide_eq_true_eq] at h
    obtain ⟨h1, h2, h3, h4⟩ := h
    rcases List.mem_cons.1 ht with rfl | ht
    · exact ⟨h1, h2, h3⟩
    · have := tsB_mem h4 t ht
      exact ⟨by omega, this.2⟩
theorem tsB_len {n : Nat} : ∀ {ts : List (Int × Rat)} {l : Int}, tsB n l ts = true → l < (n : Int) → (ts.length : Int) ≤ n - 1 - l
  | [], l, _, hl => by simp; omega
  | (z, q) :: r, l, h, hl => by
    simp only [tsB, Bool.and_eq_true, decide_eq_true_eq] at h
    obtain ⟨h1, h2, h3, h4⟩ := h
    have := tsB_len h4 h2
    simp only [List.length_cons]
    omega
/-- A bound's Inf is -1, 0 or 1, and beside an infinity stands 0. -/
def BdOk (li : Int) (lq : Rat) (hi : Int) (hq : Rat) : Prop := (li = 0 ∨ (li = -1 ∨ li = 1) ∧ lq = 0) ∧ (hi = 0 ∨ (hi = -1 ∨ hi = 1) ∧ hq = 0)
theorem bdB_ok {li lq hi hq} (h : bdB li lq hi hq = true) : BdOk li lq hi hq := by
  simp only [bdB, Bool.and_eq_true, Bool.or_eq_true, decide_eq_true_eq] at h
  exact ⟨h.1.imp id (fun h => ⟨.inl h.1, h.2⟩), h.2.imp id (fun h => ⟨.inr h.1, h.2⟩)⟩
/-- What a well formed model's values keep to. -/
structure MvP (cs : List CV) (rs : List RV) : Prop where
  cl : cs.length ≤ 64
  rl : rs.length ≤ 64
  cb : ∀ v ∈ cs, BdOk v.li v.lq v.hi v.hq
  rb : ∀ v ∈ rs, BdOk v.li v.lq v.hi v.hq
  tc : ∀ v ∈ rs, ∀ t ∈ v.ts, 0 ≤ t.1 ∧ t.1 < (cs.length : Int)
  tl : ∀ v ∈ rs, v.ts.length ≤ 64
theorem mvOk_p {cs rs} (h : mvOk cs rs = true) : MvP cs rs := by
  simp only [mvOk, Bool.and_eq_true, decide_eq_true_eq, List.all_eq_true] at h
  obtain ⟨h1, h2, h3, h4, _⟩ := h
  refine ⟨h1, h2, fun v hv => bdB_ok (h3 v hv), fun v hv => bdB_ok (h4 v hv).1, fun v hv t ht => ?_, fun v hv => ?_⟩
  · have := tsB_mem (h4 v hv).2.1 t ht
    exact ⟨by omega, this.2.1⟩
  · have := tsB_len (h4 v hv).2.1 (by omega)
    omega
/-- Which columns, which rows are broken. -/
def bcB (cs : List CV) (xs : List Rat) (j : Nat) : Bool := match cs[j]?, xs[j]? with
  | some v, some q => !(kpsB q v.li v.lq v.hi v.hq)
  | _, _ => false
def brB (rs : List RV) (xs : List Rat) (j : Nat) : Bool := match rs[j]? with
  | some v => !(kpsB (actQ xs v) v.li v.lq v.hi v.hq)
  | none => false
/-- What Broken answers. -/
def BrAns (w w' : World) (e : Ending) (er : Int) (cs : List CV) (rs : List RV) (xs : List Rat) : Prop := Below w.heap.size w w' ∧
  ((er ≠ 0 ∧ e = .returned (.tuple #[.slice none 0 0, .slice none 0 0, .int .i64 er])) ∨ (er = 0 ∧ ∃ xa xc ya yc, e = .returned (.tuple #[.slice xa (crl (bcB cs xs) cs.length).length xc, .slice ya (crl (brB rs xs) rs.length).length yc, .int .i64 0]) ∧ Il w' xa (crl (bcB cs xs) cs.length) ∧ Il w' ya (crl (brB rs xs) rs.length)))
theorem en_of {L : Nat} {w : World} {i i' : Int} {t : Nm} {q : Rat} (h : NmV L w t q) (hL : L ≤ 4096) (hi : i = i') (hb : i' = 0 ∨ (i' = -1 ∨ i' = 1) ∧ q = 0) : En 4096 w i t.s t.x t.n t.c t.f t.y t.m t.d t.g q := ⟨Rn.mono h hL, by rw [hi]; exact hb⟩
set_option maxRecDepth 100000 in
set_option maxHeartbeats 8000000 in
theorem pBroken_v {w : World} {L : Nat} {M : Mo} {off : Rat} {cs : List CV} {rs : List RV} {ao : Option Addr} {k cap : Nat} {X : Nat → Nm} {xs : List Rat} {er : Int} (hW : MoW w M) (hx : Rl w ao k X) (hk : k ≤ 1048576) (he : pckE M k X = er) (hv : er = 0 → MoV L w M off cs rs ∧ mvOk cs rs = true ∧ Rf L w ao xs ∧ xs.length = k ∧ k = cs.length) (hL : L ≤ 30) :
    Calls Tryz.prog 54 #[M.val, .slice ao k cap] w fun e w' => BrAns w w' e er cs rs xs := by
  have CC := hid (fun W (hW2 : Below w.heap.size w W) => pcheck_c (cap := cap) (hW.below hW2) (hx.below hW2) hk)
  rw [he] at CC
  clear hW hx he
  obtain ⟨M0, hM0⟩ : ∃ z, M = z := ⟨_, rfl⟩
  have HV := hid hv
  clear hv
  rw [hM0] at HV CC ⊢
  have CA : Hid (er = 0 → ∀ W, Below w.heap.size w W → Calls Tryz.prog 76 #[M0.val, .slice ao k cap] W fun e w' => ∃ a c, e = .returned (.slice a rs.length c) ∧ Below W.heap.size W w' ∧ (rs.length ≤ c ∧ c ≤ 9223372036854775807) ∧ Hid (Rf (KA L) w' a (rs.map (actQ xs)))) := fun h0 W hW2 => by
    obtain ⟨v1, v2, v3, v4, v5⟩ := HV.out h0
    have mp := mvOk_p v2
    exact acts_c (v1.below hW2) (v3.below hW2) v4 (fun r hr t ht => by have := mp.tc r hr t ht; rw [v5]; exact this) mp.rl mp.tl (by omega)
  clear hM0
  obtain ⟨⟨s, x, n, c, f, y, m, d, g⟩, ca, ck, cc, C, ra, rk, rc, R⟩ := M0
  replace CC : Hid (∀ W, Below w.heap.size w W → Calls Tryz.prog 55 #[.agg #[.bool s, .slice x n c, .slice y m d, .slice ca ck cc, .slice ra rk rc], .slice ao k cap] W fun e w' => e = .returned (.int .i64 er) ∧ Below W.heap.size W w') := CC
  replace CA : Hid (er = 0 → ∀ W, Below w.heap.size w W → Calls Tryz.prog 76 #[.agg #[.bool s, .slice x n c, .slice y m d, .slice ca ck cc, .slice ra rk rc], .slice ao k cap] W fun e w' => ∃ a c, e = .returned (.slice a rs.length c) ∧ Below W.heap.size W w' ∧ (rs.length ≤ c ∧ c ≤ 9223372036854775807) ∧ Hid (Rf (KA L) w' a (rs.map (actQ xs)))) := CA
  show Calls Tryz.prog 54 #[.agg #[.bool s, .slice x n c, .slice y m d, .slice ca ck cc, .slice ra rk rc], .slice ao k cap] w _
  have hb := below_alloc (Below.refl w.heap.size w) (.cells #[.bool s, .slice x n c, .slice y m d, .slice ca ck cc, .slice ra rk rc] 28)
  have BM : Hid (Bk (w.alloc (.cells #[.bool s, .slice x n c, .slice y m d, .slice ca ck cc, .slice ra rk rc] 28)) w.heap.size [.bool s, .slice x n c, .slice y m d, .slice ca ck cc, .slice ra rk rc] 28) := bk_new w [.bool s, .slice x n c, .slice y m d, .slice ca ck cc, .slice ra rk rc] 28
  have HB := hid hb
  clear hb
  go_enter Tryz.func54, Tryz.ntmps54
  go_wp2_with fail
  generalize w.alloc (.cells #[.bool s, .slice x n c, .slice y m d, .slice ca ck cc, .slice ra rk rc] 28) = w0 at *
  refine (CC.out _ HB.out).mono ?_
  rintro e w1 ⟨rfl, hb⟩
  replace HB := hid (HB.out.trans (hb.mono HB.out.size)); replace BM := hid (BM.out.below hb)
  clear hb CC
  by_cases h0 : er = 0
  case neg =>
    have h1 : (er != 0) = true := by simpa using h0
    have H0 := hid h0
    go_wp2
    go_ret3
    exact ⟨HB.out, .inl ⟨H0.out, rfl⟩⟩
  have CA2 := hid (CA.out h0)
  obtain ⟨v1, v2, v3, v4, v5⟩ := HV.out h0
  have mp := mvOk_p v2
  subst h0
  have l64 := mp.cl; have r64 := mp.rl
  have HC : Hid (∀ j v, cs[j]? = some v → (∃ b o, ca = some ⟨b, o, none⟩ ∧ Cs w b (o + j * 12) (C j).vs) ∧ ColV L w (C j) v) := v1.cls
  have HR : Hid (∀ j v, rs[j]? = some v → (∃ b o, ra = some ⟨b, o, none⟩ ∧ Cs w b (o + j * 10) (R j).vs) ∧ RowV L w (R j) v) := v1.rls
  have hck : ck = cs.length := v1.ck
  have hrk : rk = rs.length := v1.rk
  subst hck hrk
  subst v5
  have HX := hid v3; have HXL := hid v4; have MP := hid mp
  clear v1 v2 v3 v4 mp CA HV
  have r3 := BM.out.cell (j := 3) rfl
  go_wp2_with fail
  clear r3
  go_loopw [8, 24] (fun ov t wr => ∃ (i : Nat), i ≤ cs.length ∧ t = .int .i64 i ∧ Hid (Below w1.heap.size w1 wr) ∧ Hid (RowG 3 1 w1.heap.size wr ov (crl (bcB cs xs) i).length (ils (crl (bcB cs xs) i)))) (fun _ t _ => cs.length - (intOf t).toNat)
  case atStart => exact ⟨0, by omega, rfl, Below.refl _ _, rowG_nil _ _ _ _⟩
  case round =>
    obtain ⟨i, hi, rfl, HB2, HRow⟩ := hrel
    by_cases hlt : i < cs.length
    · obtain ⟨v, hv⟩ : ∃ t, cs[i]? = some t := ⟨_, List.getElem?_eq_getElem (by omega)⟩
      have hvm := List.mem_of_getElem? hv
      obtain ⟨⟨b, o, hba, hc⟩, hV⟩ := HC.out i v hv
      subst hba
      have hbz := HB.out.trans (HB2.out.mono HB.out.size)
      obtain ⟨hblo, hbhi⟩ := MP.out.cb v hvm
      have e1 := en_of (hV.lq.below hbz) (by omega) hV.li hblo
      have e2 := en_of (hV.hq.below hbz) (by omega) hV.hi hbhi
      obtain ⟨⟨z, ⟨s0, x0, n0, c0, f0, y0, m0, d0, g0⟩, ⟨i1, ⟨s1, x1, n1, c1, f1, y1, m1, d1, g1⟩⟩, ⟨i2, ⟨s2, x2, n2, c2, f2, y2, m2, d2, g2⟩⟩⟩, hCi⟩ : ∃ t, C i = t := ⟨_, rfl⟩
      rw [hCi] at hc e1 e2
      replace e1 : En 4096 wr i1 s1 x1 n1 c1 f1 y1 m1 d1 g1 v.lq := e1
      replace e2 : En 4096 wr i2 s2 x2 n2 c2 f2 y2 m2 d2 g2 v.hq := e2
      have j1 : i1 = v.li := by have := hV.li; rw [hCi] at this; exact this
      have j2 : i2 = v.hi := by have := hV.hi; rw [hCi] at this; exact this
      replace hc := Cs.below hc hbz
      have q0 : wr.cell? ⟨b, o + i * 12, none⟩ = some (.string z) := hc 0 _ rfl
      have q1 : wr.cell? ⟨b, o + i * 12 + 1, none⟩ = some (.bool s0) := hc 1 _ rfl
      have q2 : wr.cell? ⟨b, o + i * 12 + 2, none⟩ = some (.slice x0 n0 c0) := hc 2 _ rfl
      have q3 : wr.cell? ⟨b, o + i * 12 + 3, none⟩ = some (.slice y0 m0 d0) := hc 3 _ rfl
      have q4 : wr.cell? ⟨b, o + i * 12 + 4, none⟩ = some (.int .i64 i1) := hc 4 _ rfl
      have q5 : wr.cell? ⟨b, o + i * 12 + 5, none⟩ = some (.bool s1) := hc 5 _ rfl
      have q6 : wr.cell? ⟨b, o + i * 12 + 6, none⟩ = some (.slice x1 n1 c1) := hc 6 _ rfl
      have q7 : wr.cell? ⟨b, o + i * 12 + 7, none⟩ = some (.slice y1 m1 d1) := hc 7 _ rfl
      have q8 : wr.cell? ⟨b, o + i * 12 + 8, none⟩ = some (.int .i64 i2) := hc 8 _ rfl
      have q9 : wr.cell? ⟨b, o + i * 12 + 9, none⟩ = some (.bool s2) := hc 9 _ rfl
      have q10 : wr.cell? ⟨b, o + i * 12 + 10, none⟩ = some (.slice x2 n2 c2) := hc 10 _ rfl
      have q11 : wr.cell? ⟨b, o + i * 12 + 11, none⟩ = some (.slice y2 m2 d2) := hc 11 _ rfl
      obtain ⟨r, hr⟩ : ∃ t, xs[i]? = some t := ⟨_, List.getElem?_eq_getElem (by have := HXL.out; omega)⟩
      obtain ⟨b', o', ⟨ss, sx, sn, sc, sf, sy, sm, sd, sg⟩, hax, ⟨p0, p1, p2⟩, hr'⟩ := (HX.out.below hbz) i r hr
      subst hax
      replace p0 : wr.cell? ⟨b', o' + i * 3, none⟩ = some (.bool ss) := p0
      replace p1 : wr.cell? ⟨b', o' + i * 3 + 1, none⟩ = some (.slice sx sn sc) := p1
      replace p2 : wr.cell? ⟨b', o' + i * 3 + 2, none⟩ = some (.slice sy sm sd) := p2
      replace hr' : Rn 4096 wr ss sx sn sc sf sy sm sd sg r := Rn.mono hr' (by omega)
      have HEQ : Hid (∀ {t}, (bcB cs xs) i = t → (!t) = kpsB r v.li v.lq v.hi v.hq) := by
        intro t ht; rw [← ht, bcB, hv, hr]; simp
      clear hr
      have hbt := below_alloc (Below.refl wr.heap.size wr) (.cells #[.string z, .bool s0, .slice x0 n0 c0, .slice y0 m0 d0, .int .i64 i1, .bool s1, .slice x1 n1 c1, .slice y1 m1 d1, .int .i64 i2, .bool s2, .slice x2 n2 c2, .slice y2 m2 d2] 72)
      have a4 : (wr.alloc (.cells #[.string z, .bool s0, .slice x0 n0 c0, .slice y0 m0 d0, .int .i64 i1, .bool s1, .slice x1 n1 c1, .slice y1 m1 d1, .int .i64 i2, .bool s2, .slice x2 n2 c2, .slice y2 m2 d2] 72)).cell? ⟨wr.heap.size, 4, none⟩ = some (.int .i64 i1) := by simp [go_sem]
      have a5 : (wr.alloc (.cells #[.string z, .bool s0, .slice x0 n0 c0, .slice y0 m0 d0, .int .i64 i1, .bool s1, .slice x1 n1 c1, .slice y1 m1 d1, .int .i64 i2, .bool s2, .slice x2 n2 c2, .slice y2 m2 d2] 72)).cell? ⟨wr.heap.size, 5, none⟩ = some (.bool s1) := by simp [go_sem]
      have a6 : (wr.alloc (.cells #[.string z, .bool s0, .slice x0 n0 c0, .slice y0 m0 d0, .int .i64 i1, .bool s1, .slice x1 n1 c1, .slice y1 m1 d1, .int .i64 i2, .bool s2, .slice x2 n2 c2, .slice y2 m2 d2] 72)).cell? ⟨wr.heap.size, 6, none⟩ = some (.slice x1 n1 c1) := by simp [go_sem]
      have a7 : (wr.alloc (.cells #[.string z, .bool s0, .slice x0 n0 c0, .slice y0 m0 d0, .int .i64 i1, .bool s1, .slice x1 n1 c1, .slice y1 m1 d1, .int .i64 i2, .bool s2, .slice x2 n2 c2, .slice y2 m2 d2] 72)).cell? ⟨wr.heap.size, 7, none⟩ = some (.slice y1 m1 d1) := by simp [go_sem]
      have a8 : (wr.alloc (.cells #[.string z, .bool s0, .slice x0 n0 c0, .slice y0 m0 d0, .int .i64 i1, .bool s1, .slice x1 n1 c1, .slice y1 m1 d1, .int .i64 i2, .bool s2, .slice x2 n2 c2, .slice y2 m2 d2] 72)).cell? ⟨wr.heap.size, 8, none⟩ = some (.int .i64 i2) := by simp [go_sem]
      have a9 : (wr.alloc (.cells #[.string z, .bool s0, .slice x0 n0 c0, .slice y0 m0 d0, .int .i64 i1, .bool s1, .slice x1 n1 c1, .slice y1 m1 d1, .int .i64 i2, .bool s2, .slice x2 n2 c2, .slice y2 m2 d2] 72)).cell? ⟨wr.heap.size, 9, none⟩ = some (.bool s2) := by simp [go_sem]
      have a10 : (wr.alloc (.cells #[.string z, .bool s0, .slice x0 n0 c0, .slice y0 m0 d0, .int .i64 i1, .bool s1, .slice x1 n1 c1, .slice y1 m1 d1, .int .i64 i2, .bool s2, .slice x2 n2 c2, .slice y2 m2 d2] 72)).cell? ⟨wr.heap.size, 10, none⟩ = some (.slice x2 n2 c2) := by simp [go_sem]
      have a11 : (wr.alloc (.cells #[.string z, .bool s0, .slice x0 n0 c0, .slice y0 m0 d0, .int .i64 i1, .bool s1, .slice x1 n1 c1, .slice y1 m1 d1, .int .i64 i2, .bool s2, .slice x2 n2 c2, .slice y2 m2 d2] 72)).cell? ⟨wr.heap.size, 11, none⟩ = some (.slice y2 m2 d2) := by simp [go_sem]
      obtain ⟨t1, ht1⟩ : ∃ t, (bcB cs xs) i = t := ⟨_, rfl⟩
      have HT1 := hid ht1
      have CK : Hid (∀ W, Below wr.heap.size wr W → Calls Tryz.prog 94 #[.agg #[.bool ss, .slice sx sn sc, .slice sy sm sd], .agg #[.int .i64 i1, .bool s1, .slice x1 n1 c1, .slice y1 m1 d1], .agg #[.int .i64 i2, .bool s2, .slice x2 n2 c2, .slice y2 m2 d2]] W fun e w' => e = .returned (.bool (!t1)) ∧ Below W.heap.size W w') := fun W hW2 => by
        have hk9 := keeps_c (hr'.below hW2) (e1.below hW2) (e2.below hW2)
        rw [j1, j2] at hk9
        rw [j1, j2, HEQ.out ht1]; exact hk9
      have hln := crl_len (bcB cs xs) i
      have i1' : ((i : Nat) : Int) < ((cs.length : Nat) : Int) := by omega
      clear hCi hc hV hvm hblo hbhi e1 e2 j1 j2 ht1 hr' HEQ hv
      go_upto_region 8 with fail
      clear q0 q1 q2 q3 q4 q5 q6 q7 q8 q9 q10 q11
      replace p0 := kCb hbt p0; replace p1 := kCb hbt p1; replace p2 := kCb hbt p2
      have HB3 := hid (HB2.out.trans (hbt.mono HB2.out.size)); have HRow3 := hid (HRow.out.below hbt)
      replace CK := hid (fun W (hW2 : Below (wr.alloc (.cells #[.string z, .bool s0, .slice x0 n0 c0, .slice y0 m0 d0, .int .i64 i1, .bool s1, .slice x1 n1 c1, .slice y1 m1 d1, .int .i64 i2, .bool s2, .slice x2 n2 c2, .slice y2 m2 d2] 72)).heap.size (wr.alloc (.cells #[.string z, .bool s0, .slice x0 n0 c0, .slice y0 m0 d0, .int .i64 i1, .bool s1, .slice x1 n1 c1, .slice y1 m1 d1, .int .i64 i2, .bool s2, .slice x2 n2 c2, .slice y2 m2 d2] 72)) W) => CK.out W (hbt.trans (hW2.mono hbt.size)))
      clear hbz hbt HB2 HRow
      generalize hbx : wr.heap.size = bx at *
      generalize wr.alloc (.cells #[.string z, .bool s0, .slice x0 n0 c0, .slice y0 m0 d0, .int .i64 i1, .bool s1, .slice x1 n1 c1, .slice y1 m1 d1, .int .i64 i2, .bool s2, .slice x2 n2 c2, .slice y2 m2 d2] 72) = w5 at *
      clear hbx
      go_region_held3 (fun w' => w'.cell? ⟨bx, 4, none⟩ = some (.int .i64 i1) ∧ w'.cell? ⟨bx, 5, none⟩ = some (.bool s1) ∧ w'.cell? ⟨bx, 6, none⟩ = some (.slice x1 n1 c1) ∧ w'.cell? ⟨bx, 7, none⟩ = some (.slice y1 m1 d1) ∧ w'.cell? ⟨bx, 8, none⟩ = some (.int .i64 i2) ∧ w'.cell? ⟨bx, 9, none⟩ = some (.bool s2) ∧ w'.cell? ⟨bx, 10, none⟩ = some (.slice x2 n2 c2) ∧ w'.cell? ⟨bx, 11, none⟩ = some (.slice y2 m2 d2) ∧ w'.cell? ⟨b', o' + i * 3, none⟩ = some (.bool ss) ∧ w'.cell? ⟨b', o' + i * 3 + 1, none⟩ = some (.slice sx sn sc) ∧ w'.cell? ⟨b', o' + i * 3 + 2, none⟩ = some (.slice sy sm sd))
        (refine ⟨?_, ?_, ?_, ?_, ?_, ?_, ?_, ?_, ?_, ?_, ?_⟩ <;> repeat (with_reducible first | assumption | refine kCd ?_ | refine kCb (by assumption) ?_))
        (first | (go_at_call 94; with_reducible refine (CK.out _ (by repeat (with_reducible first | assumption | exact Below.refl _ _ | refine Below.drew ?_ | refine kBa ?_ | refine kBb (by assumption) ?_))).mono ?_; rintro e w6 ⟨rfl, hb6⟩))
      have HB6 := hid (HB3.out.trans ((show Below w5.heap.size w5 w6 from (by repeat (with_reducible first | assumption | exact Below.refl _ _ | refine Below.drew ?_ | refine kBa ?_ | refine kBb (by assumption) ?_))).mono HB3.out.size)); have HRow6 := hid (HRow3.out.below (show Below w5.heap.size w5 w6 from (by repeat (with_reducible first | assumption | exact Below.refl _ _ | refine Below.drew ?_ | refine kBa ?_ | refine kBb (by assumption) ?_))))
      clear hb6 HB3 HRow3 CK p0 p1 p2 a4 a5 a6 a7 a8 a9 a10 a11
      cases t1
      · go_wp2
        go_roundw
        case rel => exact ⟨i + 1, by omega, by go_num, HB6.out, by show RowG _ _ _ _ _ _ _; rw [crl_no HT1.out]; exact HRow6.out⟩
        case measure => simp [intOf]; omega
      · have hsz := HB6.out.size
        go_wp2_with (at_builtin; go_must (refine wpList_append_one w6 rfl (.tmp 39) (.tmp 41) 99 rfl w1.heap.size 3 8 1 (.int .i64 0) Tryz.underlying99 Tryz.infoInt rfl (by decide) nzi u8 (crl (bcB cs xs) i).length (ils (crl (bcB cs xs) i)) rfl HRow6.out #[.int .i64 (i : Int)] rfl rfl (onei _) (noti _) ?p1 (by decide) hsz ?_))
        case p1 => omega
        intro g8 cap8 w8 hr8 hk8 hb8 hg8
        have HB8 := hid (hb8 w1 HB6.out (Nat.le_refl _))
        have HR8 : Hid (RowG 3 1 w1.heap.size w8 (.slice (some ⟨g8, 0, none⟩) ((crl (bcB cs xs) i).length + 1) cap8) (crl (bcB cs xs) (i + 1)).length (ils (crl (bcB cs xs) (i + 1)))) := by
          show RowG _ _ _ _ _ _ _
          rw [crl_yes HT1.out]
          simpa [ils] using hr8
        clear hr8 hk8 hb8 hg8 HRow6 HB6 hsz
        go_wp2
        go_roundw
        case rel => exact ⟨i + 1, by omega, by go_num, HB8.out, HR8.out⟩
        case measure => simp [intOf]; omega
    · have i4 : ¬ (((i : Nat) : Int) < ((cs.length : Nat) : Int)) := by omega
      have e9 : i = cs.length := by omega
      obtain ⟨xa, xc, hvs⟩ := HRow.out.slice
      have HL2 := HRow.out
      rw [hvs] at HL2
      have HIL := hid (rowg_il HL2)
      rw [e9] at HIL hvs
      subst hvs
      replace BM := hid (BM.out.below HB2.out)
      replace HB := hid (HB.out.trans (HB2.out.mono HB.out.size))
      clear HL2 HRow HB2 e9 HX HC
      have r0 := BM.out.cell (j := 0) rfl
      have r1 := BM.out.cell (j := 1) rfl
      have r2 := BM.out.cell (j := 2) rfl
      have r3 := BM.out.cell (j := 3) rfl
      have r4 := BM.out.cell (j := 4) rfl
      go_wp2_with fail
      refine (CA2.out _ HB.out).mono ?_
      rintro e w7 ⟨aa, ac, rfl, hb7, hac, HAct⟩
      replace HB := hid (HB.out.trans (hb7.mono HB.out.size)); replace BM := hid (BM.out.below hb7); have HCols := hid (HIL.out.below hb7)
      clear hb7 HIL r0 r1 r2 r3 r4 CA2
      have r4 := BM.out.cell (j := 4) rfl
      go_wp2_with fail
      clear r4
      go_loopw [9, 50] (fun ov t wr => ∃ (i : Nat), i ≤ rs.length ∧ t = .int .i64 i ∧ Hid (Below w7.heap.size w7 wr) ∧ Hid (RowG 3 1 w7.heap.size wr ov (crl (brB rs xs) i).length (ils (crl (brB rs xs) i)))) (fun _ t _ => rs.length - (intOf t).toNat)
      case atStart => exact ⟨0, by omega, rfl, Below.refl _ _, rowG_nil _ _ _ _⟩
      case round =>
        obtain ⟨i, hi, rfl, HB2, HRow⟩ := hrel
        by_cases hlt : i < rs.length
        · obtain ⟨v, hv⟩ : ∃ t, rs[i]? = some t := ⟨_, List.getElem?_eq_getElem (by omega)⟩
          have hvm := List.mem_of_getElem? hv
          obtain ⟨⟨b, o, hba, hc⟩, hV⟩ := HR.out i v hv
          subst hba
          have hbz := HB.out.trans (HB2.out.mono HB.out.size)
          obtain ⟨hblo, hbhi⟩ := MP.out.rb v hvm
          have e1 := en_of (hV.lq.below hbz) (by omega) hV.li hblo
          have e2 := en_of (hV.hq.below hbz) (by omega) hV.hi hbhi
          obtain ⟨⟨z, ⟨i1, ⟨s1, x1, n1, c1, f1, y1, m1, d1, g1⟩⟩, ⟨i2, ⟨s2, x2, n2, c2, f2, y2, m2, d2, g2⟩⟩, ta, tk, tc, tcol, tt⟩, hCi⟩ : ∃ t, R i = t := ⟨_, rfl⟩
          rw [hCi] at hc e1 e2
          replace e1 : En 4096 wr i1 s1 x1 n1 c1 f1 y1 m1 d1 g1 v.lq := e1
          replace e2 : En 4096 wr i2 s2 x2 n2 c2 f2 y2 m2 d2 g2 v.hq := e2
          have j1 : i1 = v.li := by have := hV.li; rw [hCi] at this; exact this
          have j2 : i2 = v.hi := by have := hV.hi; rw [hCi] at this; exact this
          replace hc := Cs.below hc hbz
          have q0 : wr.cell? ⟨b, o + i * 10, none⟩ = some (.string z) := hc 0 _ rfl
          have q1 : wr.cell? ⟨b, o + i * 10 + 1, none⟩ = some (.int .i64 i1) := hc 1 _ rfl
          have q2 : wr.cell? ⟨b, o + i * 10 + 2, none⟩ = some (.bool s1) := hc 2 _ rfl
          have q3 : wr.cell? ⟨b, o + i * 10 + 3, none⟩ = some (.slice x1 n1 c1) := hc 3 _ rfl
          have q4 : wr.cell? ⟨b, o + i * 10 + 4, none⟩ = some (.slice y1 m1 d1) := hc 4 _ rfl
          have q5 : wr.cell? ⟨b, o + i * 10 + 5, none⟩ = some (.int .i64 i2) := hc 5 _ rfl
          have q6 : wr.cell? ⟨b, o + i * 10 + 6, none⟩ = some (.bool s2) := hc 6 _ rfl
          have q7 : wr.cell? ⟨b, o + i * 10 + 7, none⟩ = some (.slice x2 n2 c2) := hc 7 _ rfl
          have q8 : wr.cell? ⟨b, o + i * 10 + 8, none⟩ = some (.slice y2 m2 d2) := hc 8 _ rfl
          have q9 : wr.cell? ⟨b, o + i * 10 + 9, none⟩ = some (.slice ta tk tc) := hc 9 _ rfl
          have hr : (rs.map (actQ xs))[i]? = some (actQ xs v) := by rw [List.getElem?_map, hv]; rfl
          obtain ⟨b', o', ⟨ss, sx, sn, sc, sf, sy, sm, sd, sg⟩, hax, ⟨p0, p1, p2⟩, hr'⟩ := (HAct.out.below HB2.out) i _ hr
          subst hax
          replace p0 : wr.cell? ⟨b', o' + i * 3, none⟩ = some (.bool ss) := p0
          replace p1 : wr.cell? ⟨b', o' + i * 3 + 1, none⟩ = some (.slice sx sn sc) := p1
          replace p2 : wr.cell? ⟨b', o' + i * 3 + 2, none⟩ = some (.slice sy sm sd) := p2
          replace hr' : Rn 4096 wr ss sx sn sc sf sy sm sd sg (actQ xs v) := Rn.mono hr' (by unfold KA; omega)
          have HEQ : Hid (∀ {t}, (brB rs xs) i = t → (!t) = kpsB (actQ xs v) v.li v.lq v.hi v.hq) := by
            intro t ht; rw [← ht, brB, hv]; simp
          clear hr
          have hbt := below_alloc (Below.refl wr.heap.size wr) (.cells #[.string z, .int .i64 i1, .bool s1, .slice x1 n1 c1, .slice y1 m1 d1, .int .i64 i2, .bool s2, .slice x2 n2 c2, .slice y2 m2 d2, .slice ta tk tc] 75)
          have a1 : (wr.alloc (.cells #[.string z, .int .i64 i1, .bool s1, .slice x1 n1 c1, .slice y1 m1 d1, .int .i64 i2, .bool s2, .slice x2 n2 c2, .slice y2 m2 d2, .slice ta tk tc] 75)).cell? ⟨wr.heap.size, 1, none⟩ = some (.int .i64 i1) := by simp [go_sem]
          have a2 : (wr.alloc (.cells #[.string z, .int .i64 i1, .bool s1, .slice x1 n1 c1, .slice y1 m1 d1, .int .i64 i2, .bool s2, .slice x2 n2 c2, .slice y2 m2 d2, .slice ta tk tc] 75)).cell? ⟨wr.heap.size, 2, none⟩ = some (.bool s1) := by simp [go_sem]
          have a3 : (wr.alloc (.cells #[.string z, .int .i64 i1, .bool s1, .slice x1 n1 c1, .slice y1 m1 d1, .int .i64 i2, .bool s2, .slice x2 n2 c2, .slice y2 m2 d2, .slice ta tk tc] 75)).cell? ⟨wr.heap.size, 3, none⟩ = some (.slice x1 n1 c1) := by simp [go_sem]
          have a4 : (wr.alloc (.cells #[.string z, .int .i64 i1, .bool s1, .slice x1 n1 c1, .slice y1 m1 d1, .int .i64 i2, .bool s2, .slice x2 n2 c2, .slice y2 m2 d2, .slice ta tk tc] 75)).cell? ⟨wr.heap.size, 4, none⟩ = some (.slice y1 m1 d1) := by simp [go_sem]
          have a5 : (wr.alloc (.cells #[.string z, .int .i64 i1, .bool s1, .slice x1 n1 c1, .slice y1 m1 d1, .int .i64 i2, .bool s2, .slice x2 n2 c2, .slice y2 m2 d2, .slice ta tk tc] 75)).cell? ⟨wr.heap.size, 5, none⟩ = some (.int .i64 i2) := by simp [go_sem]
          have a6 : (wr.alloc (.cells #[.string z, .int .i64 i1, .bool s1, .slice x1 n1 c1, .slice y1 m1 d1, .int .i64 i2, .bool s2, .slice x2 n2 c2, .slice y2 m2 d2, .slice ta tk tc] 75)).cell? ⟨wr.heap.size, 6, none⟩ = some (.bool s2) := by simp [go_sem]
          have a7 : (wr.alloc (.cells #[.string z, .int .i64 i1, .bool s1, .slice x1 n1 c1, .slice y1 m1 d1, .int .i64 i2, .bool s2, .slice x2 n2 c2, .slice y2 m2 d2, .slice ta tk tc] 75)).cell? ⟨wr.heap.size, 7, none⟩ = some (.slice x2 n2 c2) := by simp [go_sem]
          have a8 : (wr.alloc (.cells #[.string z, .int .i64 i1, .bool s1, .slice x1 n1 c1, .slice y1 m1 d1, .int .i64 i2, .bool s2, .slice x2 n2 c2, .slice y2 m2 d2, .slice ta tk tc] 75)).cell? ⟨wr.heap.size, 8, none⟩ = some (.slice y2 m2 d2) := by simp [go_sem]
          obtain ⟨t1, ht1⟩ : ∃ t, (brB rs xs) i = t := ⟨_, rfl⟩
          have HT1 := hid ht1
          have CK : Hid (∀ W, Below wr.heap.size wr W → Calls Tryz.prog 94 #[.agg #[.bool ss, .slice sx sn sc, .slice sy sm sd], .agg #[.int .i64 i1, .bool s1, .slice x1 n1 c1, .slice y1 m1 d1], .agg #[.int .i64 i2, .bool s2, .slice x2 n2 c2, .slice y2 m2 d2]] W fun e w' => e = .returned (.bool (!t1)) ∧ Below W.heap.size W w') := fun W hW2 => by
            have hk9 := keeps_c (hr'.below hW2) (e1.below hW2) (e2.below hW2)
            rw [j1, j2] at hk9
            rw [j1, j2, HEQ.out ht1]; exact hk9
          have hln := crl_len (brB rs xs) i
          have i1' : ((i : Nat) : Int) < ((rs.length : Nat) : Int) := by omega
          clear hCi hc hV hvm hblo hbhi e1 e2 j1 j2 ht1 hr' HEQ hv
          go_upto_region 15 with fail
          clear q0 q1 q2 q3 q4 q5 q6 q7 q8 q9
          replace p0 := kCb hbt p0; replace p1 := kCb hbt p1; replace p2 := kCb hbt p2
          have HB3 := hid (HB2.out.trans (hbt.mono HB2.out.size)); have HRow3 := hid (HRow.out.below hbt)
          replace CK := hid (fun W (hW2 : Below (wr.alloc (.cells #[.string z, .int .i64 i1, .bool s1, .slice x1 n1 c1, .slice y1 m1 d1, .int .i64 i2, .bool s2, .slice x2 n2 c2, .slice y2 m2 d2, .slice ta tk tc] 75)).heap.size (wr.alloc (.cells #[.string z, .int .i64 i1, .bool s1, .slice x1 n1 c1, .slice y1 m1 d1, .int .i64 i2, .bool s2, .slice x2 n2 c2, .slice y2 m2 d2, .slice ta tk tc] 75)) W) => CK.out W (hbt.trans (hW2.mono hbt.size)))
          clear hbz hbt HB2 HRow
          generalize hbx : wr.heap.size = bx at *
          generalize wr.alloc (.cells #[.string z, .int .i64 i1, .bool s1, .slice x1 n1 c1, .slice y1 m1 d1, .int .i64 i2, .bool s2, .slice x2 n2 c2, .slice y2 m2 d2, .slice ta tk tc] 75) = w5 at *
          clear hbx
          go_region_held3 (fun w' => w'.cell? ⟨bx, 1, none⟩ = some (.int .i64 i1) ∧ w'.cell? ⟨bx, 2, none⟩ = some (.bool s1) ∧ w'.cell? ⟨bx, 3, none⟩ = some (.slice x1 n1 c1) ∧ w'.cell? ⟨bx, 4, none⟩ = some (.slice y1 m1 d1) ∧ w'.cell? ⟨bx, 5, none⟩ = some (.int .i64 i2) ∧ w'.cell? ⟨bx, 6, none⟩ = some (.bool s2) ∧ w'.cell? ⟨bx, 7, none⟩ = some (.slice x2 n2 c2) ∧ w'.cell? ⟨bx, 8, none⟩ = some (.slice y2 m2 d2) ∧ w'.cell? ⟨b', o' + i * 3, none⟩ = some (.bool ss) ∧ w'.cell? ⟨b', o' + i * 3 + 1, none⟩ = some (.slice sx sn sc) ∧ w'.cell? ⟨b', o' + i * 3 + 2, none⟩ = some (.slice sy sm sd))
            (refine ⟨?_, ?_, ?_, ?_, ?_, ?_, ?_, ?_, ?_, ?_, ?_⟩ <;> repeat (with_reducible first | assumption | refine kCd ?_ | refine kCb (by assumption) ?_))
            (first | (go_at_call 94; with_reducible refine (CK.out _ (by repeat (with_reducible first | assumption | exact Below.refl _ _ | refine Below.drew ?_ | refine kBa ?_ | refine kBb (by assumption) ?_))).mono ?_; rintro e w6 ⟨rfl, hb6⟩))
          have HB6 := hid (HB3.out.trans ((show Below w5.heap.size w5 w6 from (by repeat (with_reducible first | assumption | exact Below.refl _ _ | refine Below.drew ?_ | refine kBa ?_ | refine kBb (by assumption) ?_))).mono HB3.out.size)); have HRow6 := hid (HRow3.out.below (show Below w5.heap.size w5 w6 from (by repeat (with_reducible first | assumption | exact Below.refl _ _ | refine Below.drew ?_ | refine kBa ?_ | refine kBb (by assumption) ?_))))
          clear hb6 HB3 HRow3 CK p0 p1 p2 a1 a2 a3 a4 a5 a6 a7 a8
          cases t1
          · go_wp2
            go_roundw
            case rel => exact ⟨i + 1, by omega, by go_num, HB6.out, by show RowG _ _ _ _ _ _ _; rw [crl_no HT1.out]; exact HRow6.out⟩
            case measure => simp [intOf]; omega
          · have hsz := HB6.out.size
            go_wp2_with (at_builtin; go_must (refine wpList_append_one w6 rfl (.tmp 65) (.tmp 67) 99 rfl w7.heap.size 3 8 1 (.int .i64 0) Tryz.underlying99 Tryz.infoInt rfl (by decide) nzi u9 (crl (brB rs xs) i).length (ils (crl (brB rs xs) i)) rfl HRow6.out #[.int .i64 (i : Int)] rfl rfl (onei _) (noti _) ?p1 (by decide) hsz ?_))
            case p1 => omega
            intro g8 cap8 w8 hr8 hk8 hb8 hg8
            have HB8 := hid (hb8 w7 HB6.out (Nat.le_refl _))
            have HR8 : Hid (RowG 3 1 w7.heap.size w8 (.slice (some ⟨g8, 0, none⟩) ((crl (brB rs xs) i).length + 1) cap8) (crl (brB rs xs) (i + 1)).length (ils (crl (brB rs xs) (i + 1)))) := by
              show RowG _ _ _ _ _ _ _
              rw [crl_yes HT1.out]
              simpa [ils] using hr8
            clear hr8 hk8 hb8 hg8 HRow6 HB6 hsz
            go_wp2
            go_roundw
            case rel => exact ⟨i + 1, by omega, by go_num, HB8.out, HR8.out⟩
            case measure => simp [intOf]; omega
        · have i4 : ¬ (((i : Nat) : Int) < ((rs.length : Nat) : Int)) := by omega
          have e9 : i = rs.length := by omega
          obtain ⟨ya, yc, hvs⟩ := HRow.out.slice
          have HL2 := HRow.out
          rw [hvs] at HL2
          have HIL := hid (rowg_il HL2)
          rw [e9] at HIL
          have HVS := hid hvs
          rw [e9] at HVS
          have HBF := hid (HB.out.trans (HB2.out.mono HB.out.size)); have HCF := hid (HCols.out.below HB2.out)
          clear hvs HL2 HRow HB2 HAct e9
          rw [HVS.out]
          go_wp2
          go_ret3
          exact ⟨HBF.out, .inr ⟨rfl, xa, xc, ya, yc, rfl, HCF.out, HIL.out⟩⟩
end Go.Proofs.YtlemkhgicdnlnaaGreat
namespace Go.Proofs.YtlemkhgicdnlnaaGreat
open Go.RowKit

/-- What Activities answers. -/
def AcAns (L : Nat) (w w' : World) (e : Ending) (er : Int) (rs : List RV) (xs : List Rat) : Prop := Below w.heap.size w w' ∧
  ((er ≠ 0 ∧ e = .returned (.tuple #[.slice none 0 0, .int .i64 er])) ∨ (er = 0 ∧ ∃ a c, e = .returned (.tuple #[.slice a rs.length c, .int .i64 0]) ∧ (rs.length ≤ c ∧ c ≤ 9223372036854775807) ∧ Rf (KA L) w' a (rs.map (actQ xs))))
/-- Are all bounds kept? -/
def feasB (cs : List CV) (rs : List RV) (xs : List Rat) : Bool := decide ((crl (bcB cs xs) cs.length).length = 0) && decide ((crl (brB rs xs) rs.length).length = 0)
/-- The value of numbers. -/
def costs (cs : List CV) (xs : List Rat) : List Rat := List.zipWith (fun v x => v.cost * x) cs xs
theorem gr_one {K base : Nat} {w : World} {s : Bool} {x : Option Addr} {n c : Nat} {f : Nat → Int} {y : Option Addr} {m d : Nat} {g : Nat → Int} {q : Rat} (h : Rn K w s x n c f y m d g q) (hb : base ≤ w.heap.size) : Gr K base (w.alloc (.cells #[.bool s, .slice x n c, .slice y m d] 24)) (.slice (some ⟨w.heap.size, 0, none⟩) 1 1) [q] := by
  refine ⟨fun _ => ⟨s, x, n, c, f, y, m, d, g⟩, ⟨rfl, .inr ⟨w.heap.size, 1, #[.bool s, .slice x n c, .slice y m d], rfl, hb, heap_alloc_new w _, Nat.le_refl _, by decide, rfl, rfl, nou_list (not3 _ _ _ _ _ _ _)⟩⟩, fun j q' e => ?_⟩
  cases j with
  | zero => cases e; exact h.alloc _
  | succ j => simp at e
set_option maxRecDepth 100000 in
set_option maxHeartbeats 4000000 in
theorem pActs_v {w : World} {L : Nat} {M : Mo} {off : Rat} {cs : List CV} {rs : List RV} {ao : Option Addr} {k cap : Nat} {X : Nat → Nm} {xs : List Rat} {er : Int} (hW : MoW w M) (hx : Rl w ao k X) (hk : k ≤ 1048576) (he : pckE M k X = er) (hv : er = 0 → MoV L w M off cs rs ∧ mvOk cs rs = true ∧ Rf L w ao xs ∧ xs.length = k ∧ k = cs.length) (hL : L ≤ 30) :
    Calls Tryz.prog 38 #[M.val, .slice ao k cap] w fun e w' => AcAns L w w' e er rs xs := by
  have CC := hid (fun W (hW2 : Below w.heap.size w W) => pcheck_c (cap := cap) (hW.below hW2) (hx.below hW2) hk)
  rw [he] at CC
  clear hW hx he
  have HV := hid hv
  clear hv
  have CA : Hid (er = 0 → ∀ W, Below w.heap.size w W → Calls Tryz.prog 76 #[M.val, .slice ao k cap] W fun e w' => ∃ a c, e = .returned (.slice a rs.length c) ∧ Below W.heap.size W w' ∧ (rs.length ≤ c ∧ c ≤ 9223372036854775807) ∧ Hid (Rf (KA L) w' a (rs.map (actQ xs)))) := fun h0 W hW2 => by
    obtain ⟨v1, v2, v3, v4, v5⟩ := HV.out h0
    have mp := mvOk_p v2
    exact acts_c (v1.below hW2) (v3.below hW2) v4 (fun r hr t ht => by have := mp.tc r hr t ht; rw [v5]; exact this) mp.rl mp.tl (by omega)
  obtain ⟨⟨s, x, n, c, f, y, m, d, g⟩, ca, ck, cc, C, ra, rk, rc, R⟩ := M
  replace CC : Hid (∀ W, Below w.heap.size w W → Calls Tryz.prog 55 #[.agg #[.bool s, .slice x n c, .slice y m d, .slice ca ck cc, .slice ra rk rc], .slice ao k cap] W fun e w' => e = .returned (.int .i64 er) ∧ Below W.heap.size W w') := CC
  replace CA : Hid (er = 0 → ∀ W, Below w.heap.size w W → Calls Tryz.prog 76 #[.agg #[.bool s, .slice x n c, .slice y m d, .slice ca ck cc, .slice ra rk rc], .slice ao k cap] W fun e w' => ∃ a c, e = .returned (.slice a rs.length c) ∧ Below W.heap.size W w' ∧ (rs.length ≤ c ∧ c ≤ 9223372036854775807) ∧ Hid (Rf (KA L) w' a (rs.map (actQ xs)))) := CA
  clear HV
  show Calls Tryz.prog 38 #[.agg #[.bool s, .slice x n c, .slice y m d, .slice ca ck cc, .slice ra rk rc], .slice ao k cap] w _
  have hb := below_alloc (Below.refl w.heap.size w) (.cells #[.bool s, .slice x n c, .slice y m d, .slice ca ck cc, .slice ra rk rc] 28)
  have BM : Hid (Bk (w.alloc (.cells #[.bool s, .slice x n c, .slice y m d, .slice ca ck cc, .slice ra rk rc] 28)) w.heap.size [.bool s, .slice x n c, .slice y m d, .slice ca ck cc, .slice ra rk rc] 28) := bk_new w [.bool s, .slice x n c, .slice y m d, .slice ca ck cc, .slice ra rk rc] 28
  have HB := hid hb
  clear hb
  go_enter Tryz.func38, Tryz.ntmps38
  go_wp2_with fail
  generalize w.alloc (.cells #[.bool s, .slice x n c, .slice y m d, .slice ca ck cc, .slice ra rk rc] 28) = w0 at *
  refine (CC.out _ HB.out).mono ?_
  rintro e w1 ⟨rfl, hb⟩
  replace HB := hid (HB.out.trans (hb.mono HB.out.size)); replace BM := hid (BM.out.below hb)
  clear hb CC
  by_cases h0 : er = 0
  case neg =>
    have h1 : (er != 0) = true := by simpa using h0
    have H0 := hid h0
    go_wp2
    go_ret2
    exact ⟨HB.out, .inl ⟨H0.out, rfl⟩⟩
  have CA2 := hid (CA.out h0)
  subst h0
  clear CA
  have r0 := BM.out.cell (j := 0) rfl
  have r1 := BM.out.cell (j := 1) rfl
  have r2 := BM.out.cell (j := 2) rfl
  have r3 := BM.out.cell (j := 3) rfl
  have r4 := BM.out.cell (j := 4) rfl
  go_wp2_with fail
  refine (CA2.out _ HB.out).mono ?_
  rintro e w2 ⟨aa, ac, rfl, hb, hac, HR⟩
  replace HB := hid (HB.out.trans (hb.mono HB.out.size))
  have HAC := hid hac
  clear hb hac r0 r1 r2 r3 r4 BM CA2
  go_wp2
  go_ret2
  exact ⟨HB.out, .inr ⟨rfl, aa, ac, rfl, HAC.out, HR.out⟩⟩
set_option maxRecDepth 100000 in
set_option maxHeartbeats 4000000 in
theorem pFeas_v {w : World} {L : Nat} {M : Mo} {off : Rat} {cs : List CV} {rs : List RV} {ao : Option Addr} {k cap : Nat} {X : Nat → Nm} {xs : List Rat} {er : Int} (hW : MoW w M) (hx : Rl w ao k X) (hk : k ≤ 1048576) (he : pckE M k X = er) (hv : er = 0 → MoV L w M off cs rs ∧ mvOk cs rs = true ∧ Rf L w ao xs ∧ xs.length = k ∧ k = cs.length) (hL : L ≤ 30) :
    Calls Tryz.prog 24 #[M.val, .slice ao k cap] w fun e w' => e = .returned (.tuple #[.bool (decide (er = 0) && feasB cs rs xs), .int .i64 er]) ∧ Below w.heap.size w w' := by
  have CB : Hid (∀ W, Below w.heap.size w W → Calls Tryz.prog 54 #[M.val, .slice ao k cap] W fun e w' => BrAns W w' e er cs rs xs) := fun W hW2 => pBroken_v (hW.below hW2) (hx.below hW2) hk he (fun h0 => ⟨(hv h0).1.below hW2, (hv h0).2.1, (hv h0).2.2.1.below hW2, (hv h0).2.2.2⟩) hL
  clear hW hx hv he
  obtain ⟨⟨s, x, n, c, f, y, m, d, g⟩, ca, ck, cc, C, ra, rk, rc, R⟩ := M
  replace CB : Hid (∀ W, Below w.heap.size w W → Calls Tryz.prog 54 #[.agg #[.bool s, .slice x n c, .slice y m d, .slice ca ck cc, .slice ra rk rc], .slice ao k cap] W fun e w' => BrAns W w' e er cs rs xs) := CB
  obtain ⟨l1, hl1⟩ : ∃ z, (crl (bcB cs xs) cs.length).length = z := ⟨_, rfl⟩
  obtain ⟨l2, hl2⟩ : ∃ z, (crl (brB rs xs) rs.length).length = z := ⟨_, rfl⟩
  have HF : Hid (feasB cs rs xs = (decide (l1 = 0) && decide (l2 = 0))) := by show _ = _; rw [feasB, hl1, hl2]
  unfold BrAns at CB
  rw [hl1, hl2] at CB
  clear hl1 hl2
  show Calls Tryz.prog 24 #[.agg #[.bool s, .slice x n c, .slice y m d, .slice ca ck cc, .slice ra rk rc], .slice ao k cap] w _
  have HB := hid (below_alloc (Below.refl w.heap.size w) (.cells #[.bool s, .slice x n c, .slice y m d, .slice ca ck cc, .slice ra rk rc] 28))
  go_enter Tryz.func24, Tryz.ntmps24
  go_wp2_with fail
  refine (CB.out _ HB.out).mono ?_
  rintro e w1 ⟨hb, hans⟩
  replace HB := hid (HB.out.trans (hb.mono HB.out.size))
  clear hb CB
  rcases hans with ⟨h0, rfl⟩ | ⟨h0, xa, xc, ya, yc, rfl, _, _⟩
  · have h1 : (er == 0) = false := by simpa using h0
    have HE : Hid (decide (er = 0) = false) := decide_eq_false h0
    clear h0
    go_wp2
    go_ret2
    exact ⟨by rw [HE.out]; rfl, HB.out⟩
  · subst h0
    by_cases c1 : l1 = 0
    · subst c1
      by_cases c2 : l2 = 0
      · subst c2
        go_wp2
        go_ret2
        exact ⟨by rw [HF.out]; rfl, HB.out⟩
      · have c3 : (((l2 : Nat) : Int) == 0) = false := by simp; omega
        have HE : Hid (decide (l2 = 0) = false) := decide_eq_false c2
        go_wp2
        go_ret2
        exact ⟨by rw [HF.out, HE.out]; rfl, HB.out⟩
    · have c3 : (((l1 : Nat) : Int) == 0) = false := by simp; omega
      have HE : Hid (decide (l1 = 0) = false) := decide_eq_false c1
      go_wp2
      go_ret2
      exact ⟨by rw [HF.out, HE.out]; rfl, HB.out⟩
end Go.Proofs.YtlemkhgicdnlnaaGreat
namespace Go.Proofs.YtlemkhgicdnlnaaGreat
open Go.RowKit

set_option maxRecDepth 100000 in
set_option maxHeartbeats 4000000 in
theorem rtimes_c {L : Nat} {w : World} {sa : Bool} {xa : Option Addr} {na ca : Nat} {fa : Nat → Int} {ya : Option Addr} {ma da : Nat} {ga : Nat → Int} {a : Rat} {sb : Bool} {xb : Option Addr} {nb cb : Nat} {fb : Nat → Int} {yb : Option Addr} {mb db : Nat} {gb : Nat → Int} {b : Rat} (ha : Rn L w sa xa na ca fa ya ma da ga a) (hb : Rn L w sb xb nb cb fb yb mb db gb b) (hL : L ≤ 200000) :
    Calls Tryz.prog 44 #[.agg #[.bool sa, .slice xa na ca, .slice ya ma da], .agg #[.bool sb, .slice xb nb cb, .slice yb mb db]] w fun e w' => RatAns (2 * L + 1) w w' e (a * b) := by
  have h1 := ((ha.alloc (.cells #[.bool sa, .slice xa na ca, .slice ya ma da] 24)).alloc (.cells #[.bool sb, .slice xb nb cb, .slice yb mb db] 24)).alloc (.cells #[.bool false, .slice none 0 0, .slice none 0 0] 24)
  have h2 := ((hb.alloc (.cells #[.bool sa, .slice xa na ca, .slice ya ma da] 24)).alloc (.cells #[.bool sb, .slice xb nb cb, .slice yb mb db] 24)).alloc (.cells #[.bool false, .slice none 0 0, .slice none 0 0] 24)
  have h3 := ob_new ((w.alloc (.cells #[.bool sa, .slice xa na ca, .slice ya ma da] 24)).alloc (.cells #[.bool sb, .slice xb nb cb, .slice yb mb db] 24)) 24
  rw [size_alloc1, size_alloc1] at h3
  have h4 := below_alloc (below_alloc (below_alloc (Below.refl w.heap.size w) (.cells #[.bool sa, .slice xa na ca, .slice ya ma da] 24)) (.cells #[.bool sb, .slice xb nb cb, .slice yb mb db] 24)) (.cells #[.bool false, .slice none 0 0, .slice none 0 0] 24)
  clear ha hb
  go_enter Tryz.func44, Tryz.ntmps44
  go_wp2_with fail
  generalize ((w.alloc (.cells #[.bool sa, .slice xa na ca, .slice ya ma da] 24)).alloc (.cells #[.bool sb, .slice xb nb cb, .slice yb mb db] 24)).alloc (.cells #[.bool false, .slice none 0 0, .slice none 0 0] 24) = w1 at *
  have OB1 := hid h3; have HW1 := hid h4
  refine (rMul_n h1 h2 hL).mono ?_
  clear h1 h2 h3 h4
  rintro e w2 ⟨s, x, n, c, f, y, m, d, g, rfl, hb2, hq⟩
  have hob := OB1.out.below hb2
  have hbw := HW1.out.trans (hb2.mono HW1.out.size)
  obtain ⟨hz, z0, z1, z2, zf⟩ := OB1.out.below hb2
  have HQ := hid hq; have HOB := hid hob; have HBW := hid hbw
  clear hq hob hbw hb2 OB1 HW1
  go_wp2
  exact bodyPost_ret (v := .agg #[.bool s, .slice x n c, .slice y m d]) (by simp [results, Tryz.results44, go_sem, z0, z1, z2, hz]) rfl ⟨s, x, n, c, f, y, m, d, g, rfl, below_alloc (below_st HBW.out (by omega)) _, (HOB.out.rn HQ.out).alloc _⟩
theorem Rn.sg {L w s x n c f y m d g q} (h : Rn L w s x n c f y m d g q) : s = decide (q < 0) := by
  have h1 := h.num.val; have h2 := h.num.wf; have h5 := vf_nonneg h.num.lm; have hz := h.q_zero
  cases s
  · have h3 : q.num = vf f n := by rw [← h1]; rfl
    have h4 : 0 ≤ q := Rat.num_nonneg.1 (by omega)
    rw [decide_eq_false (Rat.not_lt.2 h4)]
  · have hn : n ≠ 0 := fun e => by subst e; simp [wfB] at h2
    have h3 : q.num = - vf f n := by rw [← h1]; rfl
    have h4 : q < 0 := Rat.not_le.1 (fun e => by
      have h6 := Rat.num_nonneg.2 e
      exact hn (hz.1 (Rat.num_eq_zero.1 (by omega))))
    rw [decide_eq_true h4]
/-- Is there no bound on the side that a number goes to? -/
def frB (q : Rat) (li hi : Int) : Bool := if q = 0 then true else if q < 0 then decide (li ≠ 0) else decide (hi ≠ 0)
set_option maxRecDepth 100000 in
set_option maxHeartbeats 4000000 in
theorem free_c {w : World} {L : Nat} {s0 : Bool} {x0 : Option Addr} {n0 c0 : Nat} {f0 : Nat → Int} {y0 : Option Addr} {m0 d0 : Nat} {g0 : Nat → Int} {q : Rat} {i1 : Int} {s1 : Bool} {x1 : Option Addr} {n1 c1 : Nat} {y1 : Option Addr} {m1 d1 : Nat} {i2 : Int} {s2 : Bool} {x2 : Option Addr} {n2 c2 : Nat} {y2 : Option Addr} {m2 d2 : Nat} (h0 : Rn L w s0 x0 n0 c0 f0 y0 m0 d0 g0 q) :
    Calls Tryz.prog 77 #[.agg #[.bool s0, .slice x0 n0 c0, .slice y0 m0 d0], .agg #[.int .i64 i1, .bool s1, .slice x1 n1 c1, .slice y1 m1 d1], .agg #[.int .i64 i2, .bool s2, .slice x2 n2 c2, .slice y2 m2 d2]] w fun e w' => e = .returned (.bool (frB q i1 i2)) ∧ Below w.heap.size w w' := by
  have HB := hid (below_alloc (below_alloc (below_alloc (Below.refl w.heap.size w) (.cells #[.bool s0, .slice x0 n0 c0, .slice y0 m0 d0] 24)) (.cells #[.int .i64 i1, .bool s1, .slice x1 n1 c1, .slice y1 m1 d1] 70)) (.cells #[.int .i64 i2, .bool s2, .slice x2 n2 c2, .slice y2 m2 d2] 70))
  have hz := h0.q_zero; have hs := h0.sg
  clear h0
  go_enter Tryz.func77, Tryz.ntmps77
  by_cases c1 : n0 = 0
  · have HF : Hid (frB q i1 i2 = true) := by show _ = _; rw [frB, if_pos (hz.2 c1)]
    subst c1
    clear hz hs
    go_wp2
    go_ret
    exact ⟨by rw [HF.out]; rfl, HB.out⟩
  · have e1 : (((n0 : Nat) : Int) == 0) = false := by simp; omega
    have hq : q ≠ 0 := fun e => c1 (hz.1 e)
    cases s0
    · have HF : Hid (frB q i1 i2 = (i2 != 0)) := by show _ = _; rw [frB, if_neg hq, if_neg (by simpa using hs.symm)]; (by_cases e : i2 = 0 <;> simp [e])
      clear hz hs hq
      go_wp2
      go_ret
      exact ⟨by rw [HF.out]; rfl, HB.out⟩
    · have HF : Hid (frB q i1 i2 = (i1 != 0)) := by show _ = _; rw [frB, if_neg hq, if_pos (by simpa using hs.symm)]; (by_cases e : i1 = 0 <;> simp [e])
      clear hz hs hq
      go_wp2
      go_ret
      exact ⟨by rw [HF.out]; rfl, HB.out⟩
/-- All of the first n. -/
def allB (B : Nat → Bool) : Nat → Bool
  | 0 => true
  | i + 1 => allB B i && B i
theorem allB_iff {B : Nat → Bool} : ∀ {n : Nat}, allB B n = true ↔ ∀ j, j < n → B j = true
  | 0 => by simp [allB]
  | n + 1 => by
    rw [allB, Bool.and_eq_true, allB_iff]
    exact ⟨fun ⟨h1, h2⟩ j hj => (Nat.lt_succ_iff_lt_or_eq.1 hj).elim (h1 j) (fun e => e ▸ h2), fun h => ⟨fun j hj => h j (by omega), h n (by omega)⟩⟩
theorem allB_not {B : Nat → Bool} {n j : Nat} (hj : j < n) (h : B j = false) : allB B n = false := by
  cases e : allB B n
  · rfl
  · rw [allB_iff.1 e j hj] at h; cases h
/-- Which columns, which rows let a direction go on. -/
def fcB (cs : List CV) (ds : List Rat) (j : Nat) : Bool := match cs[j]?, ds[j]? with
  | some v, some q => frB q v.li v.hi
  | _, _ => false
def frwB (rs : List RV) (acl : List Rat) (j : Nat) : Bool := match rs[j]?, acl[j]? with
  | some v, some q => frB q v.li v.hi
  | _, _ => false
def endB (cs : List CV) (rs : List RV) (ds acl : List Rat) : Bool := allB (fcB cs ds) cs.length && allB (frwB rs acl) rs.length
set_option maxRecDepth 100000 in
set_option maxHeartbeats 8000000 in
theorem endless_c {w : World} {L K : Nat} {M : Mo} {off : Rat} {cs : List CV} {rs : List RV} {ao : Option Addr} {k cap : Nat} {ds : List Rat} {aa : Option Addr} {ka capa : Nat} {acl : List Rat} (h : MoV L w M off cs rs) (hx : Rf L w ao ds) (ha : Rf K w aa acl) (hk : ds.length = k) (hkc : k = cs.length) (hka : acl.length = ka) (hkr : ka = rs.length) (hcl : cs.length ≤ 64) (hrl : rs.length ≤ 64) :
    Calls Tryz.prog 39 #[M.val, .slice ao k cap, .slice aa ka capa] w fun e w' => e = .returned (.bool (endB cs rs ds acl)) ∧ Below w.heap.size w w' := by
  subst hkc hkr
  have hck : M.ck = cs.length := h.ck
  have hrk : M.rk = rs.length := h.rk
  have hC := h.cls
  have hR := h.rls
  clear h
  obtain ⟨⟨s, x, n, c, f, y, m, d, g⟩, ca, ck, cc, C, ra, rk, rc, R⟩ := M
  replace hck : ck = cs.length := hck
  replace hrk : rk = rs.length := hrk
  subst hck hrk
  have HC : Hid (∀ j v, cs[j]? = some v → (∃ b o, ca = some ⟨b, o, none⟩ ∧ Cs w b (o + j * 12) (C j).vs) ∧ ColV L w (C j) v) := hC
  have HR : Hid (∀ j v, rs[j]? = some v → (∃ b o, ra = some ⟨b, o, none⟩ ∧ Cs w b (o + j * 10) (R j).vs) ∧ RowV L w (R j) v) := hR
  have HX := hid hx; have HAct := hid ha
  clear hC hR hx ha
  show Calls Tryz.prog 39 #[.agg #[.bool s, .slice x n c, .slice y m d, .slice ca cs.length cc, .slice ra rs.length rc], .slice ao cs.length cap, .slice aa rs.length capa] w _
  have hb := below_alloc (Below.refl w.heap.size w) (.cells #[.bool s, .slice x n c, .slice y m d, .slice ca cs.length cc, .slice ra rs.length rc] 28)
  have BM : Hid (Bk (w.alloc (.cells #[.bool s, .slice x n c, .slice y m d, .slice ca cs.length cc, .slice ra rs.length rc] 28)) w.heap.size [.bool s, .slice x n c, .slice y m d, .slice ca cs.length cc, .slice ra rs.length rc] 28) := bk_new w [.bool s, .slice x n c, .slice y m d, .slice ca cs.length cc, .slice ra rs.length rc] 28
  have HB := hid hb
  clear hb
  go_enter Tryz.func39, Tryz.ntmps39
  have r3 := BM.out.cell (j := 3) rfl
  go_wp2_with fail
  clear r3
  generalize w.alloc (.cells #[.bool s, .slice x n c, .slice y m d, .slice ca cs.length cc, .slice ra rs.length rc] 28) = w1 at *
  go_loopw [14] (fun t wr => ∃ (i : Nat), i ≤ cs.length ∧ t = .int .i64 i ∧ Hid (Below w1.heap.size w1 wr) ∧ Hid (allB (fcB cs ds) i = true)) (fun t _ => cs.length - (intOf t).toNat)
  case atStart => exact ⟨0, by omega, rfl, Below.refl _ _, rfl⟩
  case round =>
    obtain ⟨i, hi, rfl, HB2, HAll⟩ := hrel
    by_cases hlt : i < cs.length
    · obtain ⟨v, hv⟩ : ∃ t, cs[i]? = some t := ⟨_, List.getElem?_eq_getElem (by omega)⟩
      obtain ⟨⟨b, o, hba, hc⟩, hV⟩ := HC.out i v hv
      subst hba
      have hbz := HB.out.trans (HB2.out.mono HB.out.size)
      obtain ⟨⟨z, ⟨s0, x0, n0, c0, f0, y0, m0, d0, g0⟩, ⟨i1, ⟨s1, x1, n1, c1, f1, y1, m1, d1, g1⟩⟩, ⟨i2, ⟨s2, x2, n2, c2, f2, y2, m2, d2, g2⟩⟩⟩, hCi⟩ : ∃ t, C i = t := ⟨_, rfl⟩
      rw [hCi] at hc
      have j1 : i1 = v.li := by have := hV.li; rw [hCi] at this; exact this
      have j2 : i2 = v.hi := by have := hV.hi; rw [hCi] at this; exact this
      replace hc := Cs.below hc hbz
      have q0 : wr.cell? ⟨b, o + i * 12, none⟩ = some (.string z) := hc 0 _ rfl
      have q1 : wr.cell? ⟨b, o + i * 12 + 1, none⟩ = some (.bool s0) := hc 1 _ rfl
      have q2 : wr.cell? ⟨b, o + i * 12 + 2, none⟩ = some (.slice x0 n0 c0) := hc 2 _ rfl
      have q3 : wr.cell? ⟨b, o + i * 12 + 3, none⟩ = some (.slice y0 m0 d0) := hc 3 _ rfl
      have q4 : wr.cell? ⟨b, o + i * 12 + 4, none⟩ = some (.int .i64 i1) := hc 4 _ rfl
      have q5 : wr.cell? ⟨b, o + i * 12 + 5, none⟩ = some (.bool s1) := hc 5 _ rfl
      have q6 : wr.cell? ⟨b, o + i * 12 + 6, none⟩ = some (.slice x1 n1 c1) := hc 6 _ rfl
      have q7 : wr.cell? ⟨b, o + i * 12 + 7, none⟩ = some (.slice y1 m1 d1) := hc 7 _ rfl
      have q8 : wr.cell? ⟨b, o + i * 12 + 8, none⟩ = some (.int .i64 i2) := hc 8 _ rfl
      have q9 : wr.cell? ⟨b, o + i * 12 + 9, none⟩ = some (.bool s2) := hc 9 _ rfl
      have q10 : wr.cell? ⟨b, o + i * 12 + 10, none⟩ = some (.slice x2 n2 c2) := hc 10 _ rfl
      have q11 : wr.cell? ⟨b, o + i * 12 + 11, none⟩ = some (.slice y2 m2 d2) := hc 11 _ rfl
      obtain ⟨r, hr⟩ : ∃ t, ds[i]? = some t := ⟨_, List.getElem?_eq_getElem (by omega)⟩
      obtain ⟨b', o', ⟨ss, sx, sn, sc, sf, sy, sm, sd, sg⟩, hax, ⟨p0, p1, p2⟩, hr'⟩ := (HX.out.below hbz) i r hr
      subst hax
      replace p0 : wr.cell? ⟨b', o' + i * 3, none⟩ = some (.bool ss) := p0
      replace p1 : wr.cell? ⟨b', o' + i * 3 + 1, none⟩ = some (.slice sx sn sc) := p1
      replace p2 : wr.cell? ⟨b', o' + i * 3 + 2, none⟩ = some (.slice sy sm sd) := p2
      replace hr' : Rn _ wr ss sx sn sc sf sy sm sd sg r := hr'
      have hbt := below_alloc (Below.refl wr.heap.size wr) (.cells #[.string z, .bool s0, .slice x0 n0 c0, .slice y0 m0 d0, .int .i64 i1, .bool s1, .slice x1 n1 c1, .slice y1 m1 d1, .int .i64 i2, .bool s2, .slice x2 n2 c2, .slice y2 m2 d2] 72)
      have a4 : (wr.alloc (.cells #[.string z, .bool s0, .slice x0 n0 c0, .slice y0 m0 d0, .int .i64 i1, .bool s1, .slice x1 n1 c1, .slice y1 m1 d1, .int .i64 i2, .bool s2, .slice x2 n2 c2, .slice y2 m2 d2] 72)).cell? ⟨wr.heap.size, 4, none⟩ = some (.int .i64 i1) := by simp [go_sem]
      have a5 : (wr.alloc (.cells #[.string z, .bool s0, .slice x0 n0 c0, .slice y0 m0 d0, .int .i64 i1, .bool s1, .slice x1 n1 c1, .slice y1 m1 d1, .int .i64 i2, .bool s2, .slice x2 n2 c2, .slice y2 m2 d2] 72)).cell? ⟨wr.heap.size, 5, none⟩ = some (.bool s1) := by simp [go_sem]
      have a6 : (wr.alloc (.cells #[.string z, .bool s0, .slice x0 n0 c0, .slice y0 m0 d0, .int .i64 i1, .bool s1, .slice x1 n1 c1, .slice y1 m1 d1, .int .i64 i2, .bool s2, .slice x2 n2 c2, .slice y2 m2 d2] 72)).cell? ⟨wr.heap.size, 6, none⟩ = some (.slice x1 n1 c1) := by simp [go_sem]
      have a7 : (wr.alloc (.cells #[.string z, .bool s0, .slice x0 n0 c0, .slice y0 m0 d0, .int .i64 i1, .bool s1, .slice x1 n1 c1, .slice y1 m1 d1, .int .i64 i2, .bool s2, .slice x2 n2 c2, .slice y2 m2 d2] 72)).cell? ⟨wr.heap.size, 7, none⟩ = some (.slice y1 m1 d1) := by simp [go_sem]
      have a8 : (wr.alloc (.cells #[.string z, .bool s0, .slice x0 n0 c0, .slice y0 m0 d0, .int .i64 i1, .bool s1, .slice x1 n1 c1, .slice y1 m1 d1, .int .i64 i2, .bool s2, .slice x2 n2 c2, .slice y2 m2 d2] 72)).cell? ⟨wr.heap.size, 8, none⟩ = some (.int .i64 i2) := by simp [go_sem]
      have a9 : (wr.alloc (.cells #[.string z, .bool s0, .slice x0 n0 c0, .slice y0 m0 d0, .int .i64 i1, .bool s1, .slice x1 n1 c1, .slice y1 m1 d1, .int .i64 i2, .bool s2, .slice x2 n2 c2, .slice y2 m2 d2] 72)).cell? ⟨wr.heap.size, 9, none⟩ = some (.bool s2) := by simp [go_sem]
      have a10 : (wr.alloc (.cells #[.string z, .bool s0, .slice x0 n0 c0, .slice y0 m0 d0, .int .i64 i1, .bool s1, .slice x1 n1 c1, .slice y1 m1 d1, .int .i64 i2, .bool s2, .slice x2 n2 c2, .slice y2 m2 d2] 72)).cell? ⟨wr.heap.size, 10, none⟩ = some (.slice x2 n2 c2) := by simp [go_sem]
      have a11 : (wr.alloc (.cells #[.string z, .bool s0, .slice x0 n0 c0, .slice y0 m0 d0, .int .i64 i1, .bool s1, .slice x1 n1 c1, .slice y1 m1 d1, .int .i64 i2, .bool s2, .slice x2 n2 c2, .slice y2 m2 d2] 72)).cell? ⟨wr.heap.size, 11, none⟩ = some (.slice y2 m2 d2) := by simp [go_sem]
      obtain ⟨t1, ht1⟩ : ∃ t, (fcB cs ds) i = t := ⟨_, rfl⟩
      have HT1 := hid ht1
      have CK : Hid (∀ W, Below wr.heap.size wr W → Calls Tryz.prog 77 #[.agg #[.bool ss, .slice sx sn sc, .slice sy sm sd], .agg #[.int .i64 i1, .bool s1, .slice x1 n1 c1, .slice y1 m1 d1], .agg #[.int .i64 i2, .bool s2, .slice x2 n2 c2, .slice y2 m2 d2]] W fun e w' => e = .returned (.bool t1) ∧ Below W.heap.size W w') := fun W hW2 => by
        have hk9 := free_c (i1 := i1) (s1 := s1) (x1 := x1) (n1 := n1) (c1 := c1) (y1 := y1) (m1 := m1) (d1 := d1) (i2 := i2) (s2 := s2) (x2 := x2) (n2 := n2) (c2 := c2) (y2 := y2) (m2 := m2) (d2 := d2) (hr'.below hW2)
        have e9 : t1 = frB r i1 i2 := by rw [← ht1, fcB, hv, hr, j1, j2]
        rw [e9]; exact hk9
      have i1' : ((i : Nat) : Int) < ((cs.length : Nat) : Int) := by omega
      clear hCi hc hV j1 j2 ht1 hr' hv hr
      go_upto_region 4 with fail
      clear q0 q1 q2 q3 q4 q5 q6 q7 q8 q9 q10 q11
      replace p0 := kCb hbt p0; replace p1 := kCb hbt p1; replace p2 := kCb hbt p2
      have HB3 := hid (HB2.out.trans (hbt.mono HB2.out.size))
      replace CK := hid (fun W (hW2 : Below (wr.alloc (.cells #[.string z, .bool s0, .slice x0 n0 c0, .slice y0 m0 d0, .int .i64 i1, .bool s1, .slice x1 n1 c1, .slice y1 m1 d1, .int .i64 i2, .bool s2, .slice x2 n2 c2, .slice y2 m2 d2] 72)).heap.size (wr.alloc (.cells #[.string z, .bool s0, .slice x0 n0 c0, .slice y0 m0 d0, .int .i64 i1, .bool s1, .slice x1 n1 c1, .slice y1 m1 d1, .int .i64 i2, .bool s2, .slice x2 n2 c2, .slice y2 m2 d2] 72)) W) => CK.out W (hbt.trans (hW2.mono hbt.size)))
      clear hbz hbt HB2
      generalize hbx : wr.heap.size = bx at *
      generalize wr.alloc (.cells #[.string z, .bool s0, .slice x0 n0 c0, .slice y0 m0 d0, .int .i64 i1, .bool s1, .slice x1 n1 c1, .slice y1 m1 d1, .int .i64 i2, .bool s2, .slice x2 n2 c2, .slice y2 m2 d2] 72) = w5 at *
      clear hbx
      go_region_held3 (fun w' => w'.cell? ⟨bx, 4, none⟩ = some (.int .i64 i1) ∧ w'.cell? ⟨bx, 5, none⟩ = some (.bool s1) ∧ w'.cell? ⟨bx, 6, none⟩ = some (.slice x1 n1 c1) ∧ w'.cell? ⟨bx, 7, none⟩ = some (.slice y1 m1 d1) ∧ w'.cell? ⟨bx, 8, none⟩ = some (.int .i64 i2) ∧ w'.cell? ⟨bx, 9, none⟩ = some (.bool s2) ∧ w'.cell? ⟨bx, 10, none⟩ = some (.slice x2 n2 c2) ∧ w'.cell? ⟨bx, 11, none⟩ = some (.slice y2 m2 d2) ∧ w'.cell? ⟨b', o' + i * 3, none⟩ = some (.bool ss) ∧ w'.cell? ⟨b', o' + i * 3 + 1, none⟩ = some (.slice sx sn sc) ∧ w'.cell? ⟨b', o' + i * 3 + 2, none⟩ = some (.slice sy sm sd))
        (refine ⟨?_, ?_, ?_, ?_, ?_, ?_, ?_, ?_, ?_, ?_, ?_⟩ <;> repeat (with_reducible first | assumption | refine kCd ?_ | refine kCb (by assumption) ?_))
        (first | (go_at_call 77; with_reducible refine (CK.out _ (by repeat (with_reducible first | assumption | exact Below.refl _ _ | refine Below.drew ?_ | refine kBa ?_ | refine kBb (by assumption) ?_))).mono ?_; rintro e w6 ⟨rfl, hb6⟩))
      have HB6 := hid (HB3.out.trans ((show Below w5.heap.size w5 w6 from (by repeat (with_reducible first | assumption | exact Below.refl _ _ | refine Below.drew ?_ | refine kBa ?_ | refine kBb (by assumption) ?_))).mono HB3.out.size))
      clear hb6 HB3 CK p0 p1 p2 a4 a5 a6 a7 a8 a9 a10 a11
      cases t1
      · have HF : Hid (endB cs rs ds acl = false) := by show _ = _; rw [endB, allB_not hlt HT1.out]; simp
        have HBF := hid (HB.out.trans (HB6.out.mono HB.out.size))
        go_wp2
        go_ret
        exact ⟨by rw [HF.out]; rfl, HBF.out⟩
      · go_wp2
        go_roundw
        case rel => exact ⟨i + 1, by omega, by go_num, HB6.out, by show _ = _; rw [allB, HAll.out, HT1.out]; rfl⟩
        case measure => simp [intOf]; omega
    · have i4 : ¬ (((i : Nat) : Int) < ((cs.length : Nat) : Int)) := by omega
      have e9 : i = cs.length := by omega
      have HCA : Hid (allB (fcB cs ds) cs.length = true) := by show _ = _; rw [← e9]; exact HAll.out
      replace BM := hid (BM.out.below HB2.out)
      replace HB := hid (HB.out.trans (HB2.out.mono HB.out.size))
      clear e9 HB2 HAll HC HX
      obtain ⟨w7, hw7⟩ : ∃ z : World, z = wr := ⟨_, rfl⟩
      subst hw7
      have r4 := BM.out.cell (j := 4) rfl
      go_wp2_with fail
      clear r4
      go_loopw [33] (fun t wr => ∃ (i : Nat), i ≤ rs.length ∧ t = .int .i64 i ∧ Hid (Below w7.heap.size w7 wr) ∧ Hid (allB (frwB rs acl) i = true)) (fun t _ => rs.length - (intOf t).toNat)
      case atStart => exact ⟨0, by omega, rfl, Below.refl _ _, rfl⟩
      case round =>
        obtain ⟨i, hi, rfl, HB2, HAll⟩ := hrel
        by_cases hlt : i < rs.length
        · obtain ⟨v, hv⟩ : ∃ t, rs[i]? = some t := ⟨_, List.getElem?_eq_getElem (by omega)⟩
          obtain ⟨⟨b, o, hba, hc⟩, hV⟩ := HR.out i v hv
          subst hba
          have hbz := HB.out.trans (HB2.out.mono HB.out.size)
          obtain ⟨⟨z, ⟨i1, ⟨s1, x1, n1, c1, f1, y1, m1, d1, g1⟩⟩, ⟨i2, ⟨s2, x2, n2, c2, f2, y2, m2, d2, g2⟩⟩, ta, tk, tc, tcol, tt⟩, hCi⟩ : ∃ t, R i = t := ⟨_, rfl⟩
          rw [hCi] at hc
          have j1 : i1 = v.li := by have := hV.li; rw [hCi] at this; exact this
          have j2 : i2 = v.hi := by have := hV.hi; rw [hCi] at this; exact this
          replace hc := Cs.below hc hbz
          have q0 : wr.cell? ⟨b, o + i * 10, none⟩ = some (.string z) := hc 0 _ rfl
          have q1 : wr.cell? ⟨b, o + i * 10 + 1, none⟩ = some (.int .i64 i1) := hc 1 _ rfl
          have q2 : wr.cell? ⟨b, o + i * 10 + 2, none⟩ = some (.bool s1) := hc 2 _ rfl
          have q3 : wr.cell? ⟨b, o + i * 10 + 3, none⟩ = some (.slice x1 n1 c1) := hc 3 _ rfl
          have q4 : wr.cell? ⟨b, o + i * 10 + 4, none⟩ = some (.slice y1 m1 d1) := hc 4 _ rfl
          have q5 : wr.cell? ⟨b, o + i * 10 + 5, none⟩ = some (.int .i64 i2) := hc 5 _ rfl
          have q6 : wr.cell? ⟨b, o + i * 10 + 6, none⟩ = some (.bool s2) := hc 6 _ rfl
          have q7 : wr.cell? ⟨b, o + i * 10 + 7, none⟩ = some (.slice x2 n2 c2) := hc 7 _ rfl
          have q8 : wr.cell? ⟨b, o + i * 10 + 8, none⟩ = some (.slice y2 m2 d2) := hc 8 _ rfl
          have q9 : wr.cell? ⟨b, o + i * 10 + 9, none⟩ = some (.slice ta tk tc) := hc 9 _ rfl
          obtain ⟨r, hr⟩ : ∃ t, acl[i]? = some t := ⟨_, List.getElem?_eq_getElem (by omega)⟩
          obtain ⟨b', o', ⟨ss, sx, sn, sc, sf, sy, sm, sd, sg⟩, hax, ⟨p0, p1, p2⟩, hr'⟩ := (HAct.out.below hbz) i r hr
          subst hax
          replace p0 : wr.cell? ⟨b', o' + i * 3, none⟩ = some (.bool ss) := p0
          replace p1 : wr.cell? ⟨b', o' + i * 3 + 1, none⟩ = some (.slice sx sn sc) := p1
          replace p2 : wr.cell? ⟨b', o' + i * 3 + 2, none⟩ = some (.slice sy sm sd) := p2
          replace hr' : Rn _ wr ss sx sn sc sf sy sm sd sg r := hr'
          have hbt := below_alloc (Below.refl wr.heap.size wr) (.cells #[.string z, .int .i64 i1, .bool s1, .slice x1 n1 c1, .slice y1 m1 d1, .int .i64 i2, .bool s2, .slice x2 n2 c2, .slice y2 m2 d2, .slice ta tk tc] 75)
          have a1 : (wr.alloc (.cells #[.string z, .int .i64 i1, .bool s1, .slice x1 n1 c1, .slice y1 m1 d1, .int .i64 i2, .bool s2, .slice x2 n2 c2, .slice y2 m2 d2, .slice ta tk tc] 75)).cell? ⟨wr.heap.size, 1, none⟩ = some (.int .i64 i1) := by simp [go_sem]
          have a2 : (wr.alloc (.cells #[.string z, .int .i64 i1, .bool s1, .slice x1 n1 c1, .slice y1 m1 d1, .int .i64 i2, .bool s2, .slice x2 n2 c2, .slice y2 m2 d2, .slice ta tk tc] 75)).cell? ⟨wr.heap.size, 2, none⟩ = some (.bool s1) := by simp [go_sem]
          have a3 : (wr.alloc (.cells #[.string z, .int .i64 i1, .bool s1, .slice x1 n1 c1, .slice y1 m1 d1, .int .i64 i2, .bool s2, .slice x2 n2 c2, .slice y2 m2 d2, .slice ta tk tc] 75)).cell? ⟨wr.heap.size, 3, none⟩ = some (.slice x1 n1 c1) := by simp [go_sem]
          have a4 : (wr.alloc (.cells #[.string z, .int .i64 i1, .bool s1, .slice x1 n1 c1, .slice y1 m1 d1, .int .i64 i2, .bool s2, .slice x2 n2 c2, .slice y2 m2 d2, .slice ta tk tc] 75)).cell? ⟨wr.heap.size, 4, none⟩ = some (.slice y1 m1 d1) := by simp [go_sem]
          have a5 : (wr.alloc (.cells #[.string z, .int .i64 i1, .bool s1, .slice x1 n1 c1, .slice y1 m1 d1, .int .i64 i2, .bool s2, .slice x2 n2 c2, .slice y2 m2 d2, .slice ta tk tc] 75)).cell? ⟨wr.heap.size, 5, none⟩ = some (.int .i64 i2) := by simp [go_sem]
          have a6 : (wr.alloc (.cells #[.string z, .int .i64 i1, .bool s1, .slice x1 n1 c1, .slice y1 m1 d1, .int .i64 i2, .bool s2, .slice x2 n2 c2, .slice y2 m2 d2, .slice ta tk tc] 75)).cell? ⟨wr.heap.size, 6, none⟩ = some (.bool s2) := by simp [go_sem]
          have a7 : (wr.alloc (.cells #[.string z, .int .i64 i1, .bool s1, .slice x1 n1 c1, .slice y1 m1 d1, .int .i64 i2, .bool s2, .slice x2 n2 c2, .slice y2 m2 d2, .slice ta tk tc] 75)).cell? ⟨wr.heap.size, 7, none⟩ = some (.slice x2 n2 c2) := by simp [go_sem]
          have a8 : (wr.alloc (.cells #[.string z, .int .i64 i1, .bool s1, .slice x1 n1 c1, .slice y1 m1 d1, .int .i64 i2, .bool s2, .slice x2 n2 c2, .slice y2 m2 d2, .slice ta tk tc] 75)).cell? ⟨wr.heap.size, 8, none⟩ = some (.slice y2 m2 d2) := by simp [go_sem]
          obtain ⟨t1, ht1⟩ : ∃ t, (frwB rs acl) i = t := ⟨_, rfl⟩
          have HT1 := hid ht1
          have CK : Hid (∀ W, Below wr.heap.size wr W → Calls Tryz.prog 77 #[.agg #[.bool ss, .slice sx sn sc, .slice sy sm sd], .agg #[.int .i64 i1, .bool s1, .slice x1 n1 c1, .slice y1 m1 d1], .agg #[.int .i64 i2, .bool s2, .slice x2 n2 c2, .slice y2 m2 d2]] W fun e w' => e = .returned (.bool t1) ∧ Below W.heap.size W w') := fun W hW2 => by
            have hk9 := free_c (i1 := i1) (s1 := s1) (x1 := x1) (n1 := n1) (c1 := c1) (y1 := y1) (m1 := m1) (d1 := d1) (i2 := i2) (s2 := s2) (x2 := x2) (n2 := n2) (c2 := c2) (y2 := y2) (m2 := m2) (d2 := d2) (hr'.below hW2)
            have e9 : t1 = frB r i1 i2 := by rw [← ht1, frwB, hv, hr, j1, j2]
            rw [e9]; exact hk9
          have i1' : ((i : Nat) : Int) < ((rs.length : Nat) : Int) := by omega
          clear hCi hc hV j1 j2 ht1 hr' hv hr
          go_upto_region 10 with fail
          clear q0 q1 q2 q3 q4 q5 q6 q7 q8 q9
          replace p0 := kCb hbt p0; replace p1 := kCb hbt p1; replace p2 := kCb hbt p2
          have HB3 := hid (HB2.out.trans (hbt.mono HB2.out.size))
          replace CK := hid (fun W (hW2 : Below (wr.alloc (.cells #[.string z, .int .i64 i1, .bool s1, .slice x1 n1 c1, .slice y1 m1 d1, .int .i64 i2, .bool s2, .slice x2 n2 c2, .slice y2 m2 d2, .slice ta tk tc] 75)).heap.size (wr.alloc (.cells #[.string z, .int .i64 i1, .bool s1, .slice x1 n1 c1, .slice y1 m1 d1, .int .i64 i2, .bool s2, .slice x2 n2 c2, .slice y2 m2 d2, .slice ta tk tc] 75)) W) => CK.out W (hbt.trans (hW2.mono hbt.size)))
          clear hbz hbt HB2
          generalize hbx : wr.heap.size = bx at *
          generalize wr.alloc (.cells #[.string z, .int .i64 i1, .bool s1, .slice x1 n1 c1, .slice y1 m1 d1, .int .i64 i2, .bool s2, .slice x2 n2 c2, .slice y2 m2 d2, .slice ta tk tc] 75) = w5 at *
          clear hbx
          go_region_held3 (fun w' => w'.cell? ⟨bx, 1, none⟩ = some (.int .i64 i1) ∧ w'.cell? ⟨bx, 2, none⟩ = some (.bool s1) ∧ w'.cell? ⟨bx, 3, none⟩ = some (.slice x1 n1 c1) ∧ w'.cell? ⟨bx, 4, none⟩ = some (.slice y1 m1 d1) ∧ w'.cell? ⟨bx, 5, none⟩ = some (.int .i64 i2) ∧ w'.cell? ⟨bx, 6, none⟩ = some (.bool s2) ∧ w'.cell? ⟨bx, 7, none⟩ = some (.slice x2 n2 c2) ∧ w'.cell? ⟨bx, 8, none⟩ = some (.slice y2 m2 d2) ∧ w'.cell? ⟨b', o' + i * 3, none⟩ = some (.bool ss) ∧ w'.cell? ⟨b', o' + i * 3 + 1, none⟩ = some (.slice sx sn sc) ∧ w'.cell? ⟨b', o' + i * 3 + 2, none⟩ = some (.slice sy sm sd))
            (refine ⟨?_, ?_, ?_, ?_, ?_, ?_, ?_, ?_, ?_, ?_, ?_⟩ <;> repeat (with_reducible first | assumption | refine kCd ?_ | refine kCb (by assumption) ?_))
            (first | (go_at_call 77; with_reducible refine (CK.out _ (by repeat (with_reducible first | assumption | exact Below.refl _ _ | refine Below.drew ?_ | refine kBa ?_ | refine kBb (by assumption) ?_))).mono ?_; rintro e w6 ⟨rfl, hb6⟩))
          have HB6 := hid (HB3.out.trans ((show Below w5.heap.size w5 w6 from (by repeat (with_reducible first | assumption | exact Below.refl _ _ | refine Below.drew ?_ | refine kBa ?_ | refine kBb (by assumption) ?_))).mono HB3.out.size))
          clear hb6 HB3 CK p0 p1 p2 a1 a2 a3 a4 a5 a6 a7 a8
          cases t1
          · have HF : Hid (endB cs rs ds acl = false) := by show _ = _; rw [endB, allB_not hlt HT1.out]; simp
            have HBF := hid (HB.out.trans (HB6.out.mono HB.out.size))
            go_wp2
            go_ret
            exact ⟨by rw [HF.out]; rfl, HBF.out⟩
          · go_wp2
            go_roundw
            case rel => exact ⟨i + 1, by omega, by go_num, HB6.out, by show _ = _; rw [allB, HAll.out, HT1.out]; rfl⟩
            case measure => simp [intOf]; omega
        · have i4 : ¬ (((i : Nat) : Int) < ((rs.length : Nat) : Int)) := by omega
          have e9 : i = rs.length := by omega
          have HF : Hid (endB cs rs ds acl = true) := by show _ = _; rw [endB, HCA.out, ← e9, HAll.out]; rfl
          have HBF := hid (HB.out.trans (HB2.out.mono HB.out.size))
          clear e9 HB2 HAll
          go_wp2
          go_ret
          exact ⟨by rw [HF.out]; rfl, HBF.out⟩
end Go.Proofs.YtlemkhgicdnlnaaGreat
namespace Go.Proofs.YtlemkhgicdnlnaaGreat
open Go.RowKit

/-- By how much the value grows along a direction. -/
def slpQ (cs : List CV) (ds : List Rat) : Rat := psum (costs cs ds) 0
set_option maxRecDepth 100000 in
set_option maxHeartbeats 8000000 in
theorem slope_c {w : World} {L : Nat} {M : Mo} {off : Rat} {cs : List CV} {rs : List RV} {ao : Option Addr} {k cap : Nat} {xs : List Rat} (h : MoV L w M off cs rs) (hx : Rf L w ao xs) (hk : xs.length = k) (hkc : k = cs.length) (l64 : cs.length ≤ 64) (hL : L ≤ 100) :
    Calls Tryz.prog 32 #[M.val, .slice ao k cap] w fun e w' => RatAns (KA L) w w' e (slpQ cs xs) := by
  subst hkc
  have hck : M.ck = cs.length := h.ck
  have hC := h.cls
  clear h
  obtain ⟨⟨s, x, n, c, f, y, m, d, g⟩, ca, ck, cc, C, ra, rk, rc, R⟩ := M
  replace hck : ck = cs.length := hck
  subst hck
  have HC : Hid (∀ j v, cs[j]? = some v → (∃ b o, ca = some ⟨b, o, none⟩ ∧ Cs w b (o + j * 12) (C j).vs) ∧ ColV L w (C j) v) := hC
  have HX := hid hx; have HXL := hid hk
  clear hC hx hk
  show Calls Tryz.prog 32 #[.agg #[.bool s, .slice x n c, .slice y m d, .slice ca cs.length cc, .slice ra rk rc], .slice ao cs.length cap] w _
  have hb := below_alloc (below_alloc (Below.refl w.heap.size w) (.cells #[.bool s, .slice x n c, .slice y m d, .slice ca cs.length cc, .slice ra rk rc] 28)) (.cells #[.bool false, .slice none 0 0, .slice none 0 0] 24)
  have BM : Hid (Bk ((w.alloc (.cells #[.bool s, .slice x n c, .slice y m d, .slice ca cs.length cc, .slice ra rk rc] 28)).alloc (.cells #[.bool false, .slice none 0 0, .slice none 0 0] 24)) w.heap.size [.bool s, .slice x n c, .slice y m d, .slice ca cs.length cc, .slice ra rk rc] 28) := (bk_new w [.bool s, .slice x n c, .slice y m d, .slice ca cs.length cc, .slice ra rk rc] 28).below (below_alloc (Below.refl _ _) _)
  have hob := ob_new (w.alloc (.cells #[.bool s, .slice x n c, .slice y m d, .slice ca cs.length cc, .slice ra rk rc] 28)) 24
  rw [size_alloc1] at hob
  have OB := hid hob; have HB := hid hb
  clear hb hob
  go_enter Tryz.func32, Tryz.ntmps32
  have r0 := BM.out.cell (j := 0) rfl
  have r1 := BM.out.cell (j := 1) rfl
  have r2 := BM.out.cell (j := 2) rfl
  have r3 := BM.out.cell (j := 3) rfl
  have r4 := BM.out.cell (j := 4) rfl
  go_wp2_with fail
  clear r0 r1 r2 r3 r4
  generalize ((w.alloc (.cells #[.bool s, .slice x n c, .slice y m d, .slice ca cs.length cc, .slice ra rk rc] 28)).alloc (.cells #[.bool false, .slice none 0 0, .slice none 0 0] 24)) = w1 at *
  go_loopw [5, 11] (fun ov t wr => ∃ (i : Nat), i ≤ cs.length ∧ t = .int .i64 i ∧ Hid (Below w1.heap.size w1 wr) ∧ Hid (Gr (2 * L + 1) w1.heap.size wr ov ((costs cs xs).take i))) (fun _ t _ => cs.length - (intOf t).toNat)
  case atStart => exact ⟨0, by omega, rfl, Below.refl _ _, gr_nil _ _ _⟩
  case round =>
    obtain ⟨i, hi, rfl, HB2, HG2⟩ := hrel
    have hcl : (costs cs xs).length = cs.length := by unfold costs; rw [List.length_zipWith, HXL.out, Nat.min_self]
    have hgl : ((costs cs xs).take i).length = i := by rw [List.length_take]; omega
    by_cases hlt : i < cs.length
    · obtain ⟨v, hv⟩ : ∃ t, cs[i]? = some t := ⟨_, List.getElem?_eq_getElem (by omega)⟩
      obtain ⟨⟨b, o, hba, hc⟩, hV⟩ := HC.out i v hv
      subst hba
      have hbz := HB.out.trans (HB2.out.mono HB.out.size)
      have hcost := hV.cost.below hbz
      obtain ⟨⟨z, ⟨s0, x0, n0, c0, f0, y0, m0, d0, g0⟩, ⟨i1, ⟨s1, x1, n1, c1, f1, y1, m1, d1, g1⟩⟩, ⟨i2, ⟨s2, x2, n2, c2, f2, y2, m2, d2, g2⟩⟩⟩, hCi⟩ : ∃ t, C i = t := ⟨_, rfl⟩
      rw [hCi] at hc hcost
      replace hcost : Rn L wr s0 x0 n0 c0 f0 y0 m0 d0 g0 v.cost := hcost
      replace hc := Cs.below hc hbz
      have q0 : wr.cell? ⟨b, o + i * 12, none⟩ = some (.string z) := hc 0 _ rfl
      have q1 : wr.cell? ⟨b, o + i * 12 + 1, none⟩ = some (.bool s0) := hc 1 _ rfl
      have q2 : wr.cell? ⟨b, o + i * 12 + 2, none⟩ = some (.slice x0 n0 c0) := hc 2 _ rfl
      have q3 : wr.cell? ⟨b, o + i * 12 + 3, none⟩ = some (.slice y0 m0 d0) := hc 3 _ rfl
      have q4 : wr.cell? ⟨b, o + i * 12 + 4, none⟩ = some (.int .i64 i1) := hc 4 _ rfl
      have q5 : wr.cell? ⟨b, o + i * 12 + 5, none⟩ = some (.bool s1) := hc 5 _ rfl
      have q6 : wr.cell? ⟨b, o + i * 12 + 6, none⟩ = some (.slice x1 n1 c1) := hc 6 _ rfl
      have q7 : wr.cell? ⟨b, o + i * 12 + 7, none⟩ = some (.slice y1 m1 d1) := hc 7 _ rfl
      have q8 : wr.cell? ⟨b, o + i * 12 + 8, none⟩ = some (.int .i64 i2) := hc 8 _ rfl
      have q9 : wr.cell? ⟨b, o + i * 12 + 9, none⟩ = some (.bool s2) := hc 9 _ rfl
      have q10 : wr.cell? ⟨b, o + i * 12 + 10, none⟩ = some (.slice x2 n2 c2) := hc 10 _ rfl
      have q11 : wr.cell? ⟨b, o + i * 12 + 11, none⟩ = some (.slice y2 m2 d2) := hc 11 _ rfl
      obtain ⟨r, hr⟩ : ∃ t, xs[i]? = some t := ⟨_, List.getElem?_eq_getElem (by have := HXL.out; omega)⟩
      obtain ⟨b', o', ⟨ss, sx, sn, sc, sf, sy, sm, sd, sg⟩, hax, ⟨p0, p1, p2⟩, hr'⟩ := (HX.out.below hbz) i r hr
      subst hax
      replace p0 : wr.cell? ⟨b', o' + i * 3, none⟩ = some (.bool ss) := p0
      replace p1 : wr.cell? ⟨b', o' + i * 3 + 1, none⟩ = some (.slice sx sn sc) := p1
      replace p2 : wr.cell? ⟨b', o' + i * 3 + 2, none⟩ = some (.slice sy sm sd) := p2
      replace hr' : Rn L wr ss sx sn sc sf sy sm sd sg r := hr'
      have HCI : Hid ((costs cs xs).take (i + 1) = (costs cs xs).take i ++ [v.cost * r]) := by
        show _ = _
        rw [List.take_add_one]
        congr 1
        unfold costs
        rw [List.getElem?_zipWith, hv, hr]; rfl
      have hbt := below_alloc (Below.refl wr.heap.size wr) (.cells #[.string z, .bool s0, .slice x0 n0 c0, .slice y0 m0 d0, .int .i64 i1, .bool s1, .slice x1 n1 c1, .slice y1 m1 d1, .int .i64 i2, .bool s2, .slice x2 n2 c2, .slice y2 m2 d2] 72)
      have a1 : (wr.alloc (.cells #[.string z, .bool s0, .slice x0 n0 c0, .slice y0 m0 d0, .int .i64 i1, .bool s1, .slice x1 n1 c1, .slice y1 m1 d1, .int .i64 i2, .bool s2, .slice x2 n2 c2, .slice y2 m2 d2] 72)).cell? ⟨wr.heap.size, 1, none⟩ = some (.bool s0) := by simp [go_sem]
      have a2 : (wr.alloc (.cells #[.string z, .bool s0, .slice x0 n0 c0, .slice y0 m0 d0, .int .i64 i1, .bool s1, .slice x1 n1 c1, .slice y1 m1 d1, .int .i64 i2, .bool s2, .slice x2 n2 c2, .slice y2 m2 d2] 72)).cell? ⟨wr.heap.size, 2, none⟩ = some (.slice x0 n0 c0) := by simp [go_sem]
      have a3 : (wr.alloc (.cells #[.string z, .bool s0, .slice x0 n0 c0, .slice y0 m0 d0, .int .i64 i1, .bool s1, .slice x1 n1 c1, .slice y1 m1 d1, .int .i64 i2, .bool s2, .slice x2 n2 c2, .slice y2 m2 d2] 72)).cell? ⟨wr.heap.size, 3, none⟩ = some (.slice y0 m0 d0) := by simp [go_sem]
      have i1' : ((i : Nat) : Int) < ((cs.length : Nat) : Int) := by omega
      clear hCi hc hV hv hr
      go_upto_region 5 with fail
      clear q0 q1 q2 q3 q4 q5 q6 q7 q8 q9 q10 q11
      replace p0 := kCb hbt p0; replace p1 := kCb hbt p1; replace p2 := kCb hbt p2
      have HB3 := hid (HB2.out.trans (hbt.mono HB2.out.size)); have HG3 := hid (HG2.out.below hbt); have R1 := hid (hcost.below hbt); have R2 := hid (hr'.below hbt)
      clear hbz hbt HB2 HG2 hcost hr'
      generalize hbx : wr.heap.size = bx at *
      generalize wr.alloc (.cells #[.string z, .bool s0, .slice x0 n0 c0, .slice y0 m0 d0, .int .i64 i1, .bool s1, .slice x1 n1 c1, .slice y1 m1 d1, .int .i64 i2, .bool s2, .slice x2 n2 c2, .slice y2 m2 d2] 72) = w5 at *
      clear hbx
      refine wp_region_phase (S := (fun w' => w'.cell? ⟨bx, 1, none⟩ = some (.bool s0) ∧ w'.cell? ⟨bx, 2, none⟩ = some (.slice x0 n0 c0) ∧ w'.cell? ⟨bx, 3, none⟩ = some (.slice y0 m0 d0) ∧ w'.cell? ⟨b', o' + i * 3, none⟩ = some (.bool ss) ∧ w'.cell? ⟨b', o' + i * 3 + 1, none⟩ = some (.slice sx sn sc) ∧ w'.cell? ⟨b', o' + i * 3 + 2, none⟩ = some (.slice sy sm sd))) 7 (by kernel_rfl) ⟨kCd a1, kCd a2, kCd a3, kCd p0, kCd p1, kCd p2⟩ (fun hHeld => ?_)
      refine wpAnyP_skim (i := 0) (v := ?_) rfl (by kernel_rfl) (by kernel_rfl) (by kernel_rfl) (by kernel_rfl) (fun _ _ _ h => h) (Or.inl ⟨by rfl, ?_⟩) (fun _ => by assumption) ?_
      rotate_left
      (focus (intro w0 hSw; go_simp <;> with_reducible rfl))
      simp only [List.getElem_toArray, List.getElem_cons_zero, Act.put, List.setIfInBounds_toArray, List.set_cons_zero, List.set_cons_succ]
      refine wpAnyP_skim (i := 1) (v := ?_) rfl (by kernel_rfl) (by kernel_rfl) (by kernel_rfl) (by kernel_rfl) (fun _ _ _ h => h) (Or.inl ⟨by rfl, ?_⟩) (fun _ => by assumption) ?_
      rotate_left
      (focus (intro w0 hSw; go_simp <;> with_reducible rfl))
      simp only [List.getElem_toArray, List.getElem_cons_succ, List.getElem_cons_zero, Act.put, List.setIfInBounds_toArray, List.set_cons_zero, List.set_cons_succ]
      refine wpAnyP_takeA (i := 2) (v := ?_) rfl (by kernel_rfl) (by kernel_rfl) (by kernel_rfl) (by kernel_rfl) (by kernel_rfl) (by kernel_rfl) (fun _ _ _ h => h) (Or.inl ⟨by rfl, ?_⟩) (by assumption) ?_
      rotate_left
      (focus (intro w0 hSw; (try dsimp only at hSw); go_simp <;> with_reducible rfl))
      simp only [List.getElem_toArray, List.getElem_cons_succ, List.getElem_cons_zero, Act.put, List.setIfInBounds_toArray, List.set_cons_zero, List.set_cons_succ]
      refine wpAnyP_skim (i := 3) (v := ?_) rfl (by kernel_rfl) (by kernel_rfl) (by kernel_rfl) (by kernel_rfl) (fun _ _ _ h => h) (Or.inl ⟨by rfl, ?_⟩) (fun _ => by assumption) ?_
      rotate_left
      (focus (intro w0 hSw; go_simp <;> with_reducible rfl))
      simp only [List.getElem_toArray, List.getElem_cons_succ, List.getElem_cons_zero, Act.put, List.setIfInBounds_toArray, List.set_cons_zero, List.set_cons_succ]
      refine wpAnyP_skim (i := 4) (v := ?_) rfl (by kernel_rfl) (by kernel_rfl) (by kernel_rfl) (by kernel_rfl) (fun _ _ _ h => h) (Or.inl ⟨by rfl, ?_⟩) (fun _ => by assumption) ?_
      rotate_left
      (focus (intro w0 hSw; go_simp <;> with_reducible rfl))
      simp only [List.getElem_toArray, List.getElem_cons_succ, List.getElem_cons_zero, Act.put, List.setIfInBounds_toArray, List.set_cons_zero, List.set_cons_succ]
      refine wpAnyP_skim (i := 5) (v := ?_) rfl (by kernel_rfl) (by kernel_rfl) (by kernel_rfl) (by kernel_rfl) (fun _ _ _ h => h) (Or.inl ⟨by rfl, ?_⟩) (fun _ => by assumption) ?_
      rotate_left
      (focus (intro w0 hSw; go_simp <;> with_reducible rfl))
      simp only [List.getElem_toArray, List.getElem_cons_succ, List.getElem_cons_zero, Act.put, List.setIfInBounds_toArray, List.set_cons_zero, List.set_cons_succ]
      refine wpAnyP_takeA (i := 6) (v := ?_) rfl (by kernel_rfl) (by kernel_rfl) (by kernel_rfl) (by kernel_rfl) (by kernel_rfl) (by kernel_rfl) (fun _ _ _ h => h) (Or.inl ⟨by rfl, ?_⟩) (by assumption) ?_
      rotate_left
      (focus (intro w0 hSw; (try dsimp only at hSw); go_simp <;> with_reducible rfl))
      simp only [List.getElem_toArray, List.getElem_cons_succ, List.getElem_cons_zero, Act.put, List.setIfInBounds_toArray, List.set_cons_zero, List.set_cons_succ]
      refine wpAnyP_ready (rs := [7]) (by kernel_rfl) (by simp) ?_
      refine AllReadyP.cons (o := _) rfl (fun K hK => ?_) ?_
      rotate_left
      exact AllReadyP.nil
      go_simp
      go_at_call 44
      refine (rtimes_c (L := L) (kRnd R1.out) (kRnd R2.out) (by omega)).mono ?_
      rintro e w6 ⟨s6, x6, n6, c6, f6, y6, m6, d6, g6, rfl, hb6, hq6⟩
      (try go_wp2_with fail)
      refine hK.out _ _ (fun h => by cases h) (fun _ => ?_)
      clear hK K
      try simp only [Act.put, List.setIfInBounds_toArray, List.set_cons_zero, List.set_cons_succ]
      refine wpAnyP_ready (rs := [8]) (by kernel_rfl) (by simp) ?_
      refine AllReadyP.cons (o := _) rfl (fun K hK => ?_) ?_
      rotate_left
      exact AllReadyP.nil
      go_simp
      refine hK.out _ _ (fun h => by cases h) (fun _ => ?_)
      clear hK K
      try simp only [Act.put, List.setIfInBounds_toArray, List.set_cons_zero, List.set_cons_succ]
      refine wpAnyP_ready (rs := [9]) (by kernel_rfl) (by simp) ?_
      refine AllReadyP.cons (o := _) rfl (fun K hK => ?_) ?_
      rotate_left
      exact AllReadyP.nil
      obtain ⟨T, hrow, hT⟩ := (Gr.below HG3.out (Below.drew (Below.refl w5.heap.size w5))).below hb6
      rw [hgl] at hrow
      refine step_append_one w6 rfl (.tmp 16) (.tmp 24) 29 rfl w1.heap.size 24 56 3 (.agg #[.bool false, .slice none 0 0, .slice none 0 0]) Tryz.underlying29 Tryz.infoRat rfl (by decide) nz3 u5 i _ rfl hrow #[.bool s6, .slice x6 n6 c6, .slice y6 m6 d6] rfl rfl (one3 _ _ _ _ _ _ _) (not3 _ _ _ _ _ _ _) (by omega) (by decide) ?hz ?_
      case hz => exact (HB3.out.drew.trans (hb6.mono HB3.out.drew.size)).size
      intro g8 cap8 w8 hr8 hk8 hb8 hg8
      have HB8 : Hid (Below w1.heap.size w1 w8) := hb8 w1 (HB3.out.drew.trans (hb6.mono HB3.out.drew.size)) (Nat.le_refl _)
      have HG8 : Hid (Gr (2 * L + 1) w1.heap.size w8 (.slice (some ⟨g8, 0, none⟩) (i + 1) cap8) ((costs cs xs).take (i + 1))) := by
        have hp8 := gr_push (p := (costs cs xs).take i) hT (by rw [hgl]; exact hr8) hk8 hq6
        rw [hgl] at hp8
        rw [HCI.out]; exact hp8
      clear hr8 hk8 hb8 hg8 hrow hT hb6 hq6 HG3 HB3 R1 R2
      refine hK.out _ _ (fun h => by cases h) (fun _ => ?_)
      clear hK K
      simp only [List.getElem_toArray, List.getElem_cons_succ, List.getElem_cons_zero, Act.put, List.setIfInBounds_toArray, List.set_cons_zero, List.set_cons_succ]
      refine wpAnyP_skim (i := 10) (v := ?_) rfl (by kernel_rfl) (by kernel_rfl) (by kernel_rfl) (by kernel_rfl) (fun _ _ _ h => h) (Or.inl ⟨by rfl, ?_⟩) (fun h => by cases h) ?_
      rotate_left
      (focus (intro w0 hSw; go_simp <;> with_reducible rfl))
      simp only [List.getElem_toArray, List.getElem_cons_succ, List.getElem_cons_zero, Act.put, List.setIfInBounds_toArray, List.set_cons_zero, List.set_cons_succ]
      refine wpAnyP_done (by kernel_rfl) ?_ _
      clear hHeld a1 a2 a3 p0 p1 p2
      go_wp2
      go_roundw
      case rel => exact ⟨i + 1, by omega, by go_num, HB8.out, HG8.out⟩
      case measure => simp [intOf]; omega
    · have i4 : ¬ (((i : Nat) : Int) < ((cs.length : Nat) : Int)) := by omega
      have e9 : i = cs.length := by omega
      obtain ⟨va, vc, hvs, hvc⟩ := HG2.out.slice
      rw [hgl] at hvs
      have HG4 := HG2.out
      rw [hvs] at HG4
      replace HG4 := hid (show Rf (2 * L + 1) wr va (costs cs xs) by have := HG4.rf; rw [List.take_of_length_le (by omega)] at this; exact this)
      subst hvs
      have HLen := hid (show (costs cs xs).length = i by omega)
      have hi65 : i ≤ 64 := by omega
      replace HB := hid (HB.out.trans (HB2.out.mono HB.out.size)); replace OB := hid (OB.out.below HB2.out)
      clear HG2 HB2 hgl hcl e9 HC HX BM
      go_wp2_with fail
      refine (pSum_c (L := 2 * L + 1) HG4.out HLen.out (by omega) (by omega)).mono ?_
      rintro e w6 ⟨s6, x6, n6, c6, f6, y6, m6, d6, g6, rfl, hb6, hq6⟩
      replace HB := hid (HB.out.trans (hb6.mono HB.out.size)); replace OB := hid (OB.out.below hb6)
      have HQ := hid (show Rn (KA L) w6 s6 x6 n6 c6 f6 y6 m6 d6 g6 (slpQ cs xs) from hq6.mono (by unfold KA; have : i * (2 * L + 1 + 1) ≤ 64 * (2 * L + 1 + 1) := Nat.mul_le_mul_right _ hi65; omega))
      clear hb6 hq6 HG4 HLen
      obtain ⟨hz, z0, z1, z2, zf⟩ := OB.out
      go_wp2
      exact bodyPost_ret (v := .agg #[.bool s6, .slice x6 n6 c6, .slice y6 m6 d6]) (by simp [results, Tryz.results32, go_sem, z0, z1, z2]) rfl ⟨s6, x6, n6, c6, f6, y6, m6, d6, g6, rfl, below_st HB.out (by omega), OB.out.rn HQ.out⟩
/-- Does a direction recede, by values? -/
def recB (e0 er : Int) (cs : List CV) (rs : List RV) (ds : List Rat) : Bool := decide (e0 = 0) && (decide (er = 0) && endB cs rs ds (rs.map (actQ ds)))
set_option maxRecDepth 100000 in
set_option maxHeartbeats 4000000 in
theorem rRec_v {w : World} {L : Nat} {M : Mo} {off : Rat} {cs : List CV} {rs : List RV} {ao : Option Addr} {k cap : Nat} {X : Nat → Nm} {ds : List Rat} {e0 er : Int} (hW : MoW w M) (hx : Rl w ao k X) (hk : k ≤ 1048576) (hc : chkE M = e0) (he : pckE M k X = er) (hv : er = 0 → MoV L w M off cs rs ∧ mvOk cs rs = true ∧ Rf L w ao ds ∧ ds.length = k ∧ k = cs.length) (hL : L ≤ 30) :
    Calls Tryz.prog 13 #[M.val, .slice ao k cap] w fun e w' => e = .returned (.tuple #[.bool (recB e0 er cs rs ds), .int .i64 e0]) ∧ Below w.heap.size w w' := by
  have CC := hid (fun W (hW2 : Below w.heap.size w W) => check_w (hW.below hW2))
  rw [hc] at CC
  have CA : Hid (∀ W, Below w.heap.size w W → Calls Tryz.prog 38 #[M.val, .slice ao k cap] W fun e w' => AcAns L W w' e er rs ds) := fun W hW2 => pActs_v (hW.below hW2) (hx.below hW2) hk he (fun h0 => ⟨(hv h0).1.below hW2, (hv h0).2.1, (hv h0).2.2.1.below hW2, (hv h0).2.2.2⟩) hL
  have CE : Hid (er = 0 → ∀ W aa ca, Below w.heap.size w W → Rf (KA L) W aa (rs.map (actQ ds)) → Calls Tryz.prog 39 #[M.val, .slice ao k cap, .slice aa rs.length ca] W fun e w' => e = .returned (.bool (endB cs rs ds (rs.map (actQ ds)))) ∧ Below W.heap.size W w') := fun h0 W aa ca hW2 ha => by
    obtain ⟨v1, v2, v3, v4, v5⟩ := hv h0
    have mp := mvOk_p v2
    exact endless_c (v1.below hW2) (v3.below hW2) ha v4 v5 (by rw [List.length_map]) rfl mp.cl mp.rl
  clear hW hx hv he hc
  obtain ⟨⟨s, x, n, c, f, y, m, d, g⟩, ca, ck, cc, C, ra, rk, rc, R⟩ := M
  replace CC : Hid (∀ W, Below w.heap.size w W → Calls Tryz.prog 37 #[.agg #[.bool s, .slice x n c, .slice y m d, .slice ca ck cc, .slice ra rk rc]] W fun e w' => e = .returned (.int .i64 e0) ∧ Below W.heap.size W w') := CC
  replace CA : Hid (∀ W, Below w.heap.size w W → Calls Tryz.prog 38 #[.agg #[.bool s, .slice x n c, .slice y m d, .slice ca ck cc, .slice ra rk rc], .slice ao k cap] W fun e w' => AcAns L W w' e er rs ds) := CA
  replace CE : Hid (er = 0 → ∀ W aa ca', Below w.heap.size w W → Rf (KA L) W aa (rs.map (actQ ds)) → Calls Tryz.prog 39 #[.agg #[.bool s, .slice x n c, .slice y m d, .slice ca ck cc, .slice ra rk rc], .slice ao k cap, .slice aa rs.length ca'] W fun e w' => e = .returned (.bool (endB cs rs ds (rs.map (actQ ds)))) ∧ Below W.heap.size W w') := CE
  show Calls Tryz.prog 13 #[.agg #[.bool s, .slice x n c, .slice y m d, .slice ca ck cc, .slice ra rk rc], .slice ao k cap] w _
  have hb := below_alloc (Below.refl w.heap.size w) (.cells #[.bool s, .slice x n c, .slice y m d, .slice ca ck cc, .slice ra rk rc] 28)
  have BM : Hid (Bk (w.alloc (.cells #[.bool s, .slice x n c, .slice y m d, .slice ca ck cc, .slice ra rk rc] 28)) w.heap.size [.bool s, .slice x n c, .slice y m d, .slice ca ck cc, .slice ra rk rc] 28) := bk_new w [.bool s, .slice x n c, .slice y m d, .slice ca ck cc, .slice ra rk rc] 28
  have HB := hid hb
  clear hb
  go_enter Tryz.func13, Tryz.ntmps13
  go_wp2_with fail
  generalize w.alloc (.cells #[.bool s, .slice x n c, .slice y m d, .slice ca ck cc, .slice ra rk rc] 28) = w0 at *
  refine (CC.out _ HB.out).mono ?_
  rintro e w1 ⟨rfl, hb⟩
  replace HB := hid (HB.out.trans (hb.mono HB.out.size)); replace BM := hid (BM.out.below hb)
  clear hb CC
  by_cases h0 : e0 = 0
  case neg =>
    have h1 : (e0 != 0) = true := by simpa using h0
    have HF : Hid (recB e0 er cs rs ds = false) := by show _ = _; rw [recB, decide_eq_false h0]; rfl
    clear h0
    go_wp2
    go_ret2
    exact ⟨by rw [HF.out]; rfl, HB.out⟩
  subst h0
  have r0 := BM.out.cell (j := 0) rfl
  have r1 := BM.out.cell (j := 1) rfl
  have r2 := BM.out.cell (j := 2) rfl
  have r3 := BM.out.cell (j := 3) rfl
  have r4 := BM.out.cell (j := 4) rfl
  go_wp2_with fail
  refine (CA.out _ HB.out).mono ?_
  rintro e w2 ⟨hb, hans⟩
  replace HB := hid (HB.out.trans (hb.mono HB.out.size)); replace BM := hid (BM.out.below hb)
  clear hb CA r0 r1 r2 r3 r4
  rcases hans with ⟨h0, rfl⟩ | ⟨h0, aa, ac, rfl, hac, hR⟩
  · have h1 : (er == 0) = false := by simpa using h0
    have HF : Hid (recB 0 er cs rs ds = false) := by show _ = _; rw [recB, decide_eq_false h0]; rfl
    clear h0 CE
    go_wp2
    go_ret2
    exact ⟨by rw [HF.out]; rfl, HB.out⟩
  · have CE2 := hid (CE.out h0)
    subst h0
    have HR := hid hR
    clear hR CE hac
    have r0 := BM.out.cell (j := 0) rfl
    have r1 := BM.out.cell (j := 1) rfl
    have r2 := BM.out.cell (j := 2) rfl
    have r3 := BM.out.cell (j := 3) rfl
    have r4 := BM.out.cell (j := 4) rfl
    go_wp2_with fail
    refine (CE2.out _ aa ac HB.out HR.out).mono ?_
    rintro e w3 ⟨rfl, hb⟩
    replace HB := hid (HB.out.trans (hb.mono HB.out.size))
    clear hb CE2 r0 r1 r2 r3 r4 BM
    have HF : Hid (recB 0 0 cs rs ds = endB cs rs ds (rs.map (actQ ds))) := by show _ = _; simp [recB]
    go_wp2
    go_ret2
    exact ⟨by rw [HF.out]; rfl, HB.out⟩
/-- Does a ray show that a model is unbounded, by values? -/
def valB (e0 er ex : Int) (cs : List CV) (rs : List RV) (ds xs : List Rat) : Bool := recB e0 er cs rs ds && (decide (ex = 0) && feasB cs rs xs && decide (slpQ cs ds < 0))
set_option maxRecDepth 100000 in
set_option maxHeartbeats 4000000 in
theorem rValid_v {w : World} {L : Nat} {M : Mo} {off : Rat} {cs : List CV} {rs : List RV} {ao : Option Addr} {k cap : Nat} {X : Nat → Nm} {ds : List Rat} {e0 er : Int} (hW : MoW w M) (hx : Rl w ao k X) (hk : k ≤ 1048576) (hc : chkE M = e0) (he : pckE M k X = er) (hv : er = 0 → MoV L w M off cs rs ∧ mvOk cs rs = true ∧ Rf L w ao ds ∧ ds.length = k ∧ k = cs.length) (hL : L ≤ 30) {ax : Option Addr} {kx capx : Nat} {Y : Nat → Nm} {xs : List Rat} {ex : Int} (hy : Rl w ax kx Y) (hkx : kx ≤ 1048576) (hex : pckE M kx Y = ex) (hvx : ex = 0 → MoV L w M off cs rs ∧ mvOk cs rs = true ∧ Rf L w ax xs ∧ xs.length = kx ∧ kx = cs.length) :
    Calls Tryz.prog 9 #[M.val, .agg #[.slice ax kx capx, .slice ao k cap]] w fun e w' => e = .returned (.tuple #[.bool (valB e0 er ex cs rs ds xs), .int .i64 e0]) ∧ Below w.heap.size w w' := by
  have CR : Hid (∀ W, Below w.heap.size w W → Calls Tryz.prog 13 #[M.val, .slice ao k cap] W fun e w' => e = .returned (.tuple #[.bool (recB e0 er cs rs ds), .int .i64 e0]) ∧ Below W.heap.size W w') := fun W hW2 => rRec_v (hW.below hW2) (hx.below hW2) hk hc he (fun h0 => ⟨(hv h0).1.below hW2, (hv h0).2.1, (hv h0).2.2.1.below hW2, (hv h0).2.2.2⟩) hL
  have CF : Hid (∀ W, Below w.heap.size w W → Calls Tryz.prog 24 #[M.val, .slice ax kx capx] W fun e w' => e = .returned (.tuple #[.bool (decide (ex = 0) && feasB cs rs xs), .int .i64 ex]) ∧ Below W.heap.size W w') := fun W hW2 => pFeas_v (hW.below hW2) (hy.below hW2) hkx hex (fun h0 => ⟨(hvx h0).1.below hW2, (hvx h0).2.1, (hvx h0).2.2.1.below hW2, (hvx h0).2.2.2⟩) hL
  have CS : Hid (recB e0 er cs rs ds = true → ∀ W, Below w.heap.size w W → Calls Tryz.prog 32 #[M.val, .slice ao k cap] W fun e w' => RatAns (KA L) W w' e (slpQ cs ds)) := fun h0 W hW2 => by
    have h1 : er = 0 := by simp only [recB, Bool.and_eq_true, decide_eq_true_eq] at h0; exact h0.2.1
    obtain ⟨v1, v2, v3, v4, v5⟩ := hv h1
    exact slope_c (v1.below hW2) (v3.below hW2) v4 v5 (mvOk_p v2).cl (by omega)
  have HE0 : Hid (recB e0 er cs rs ds = true → e0 = 0) := fun h0 => by simp only [recB, Bool.and_eq_true, decide_eq_true_eq] at h0; exact h0.1
  clear hW hx hv he hc hy hex hvx
  obtain ⟨rb, hrb⟩ : ∃ z, recB e0 er cs rs ds = z := ⟨_, rfl⟩
  obtain ⟨fb, hfb⟩ : ∃ z, (decide (ex = 0) && feasB cs rs xs) = z := ⟨_, rfl⟩
  have HV : Hid (valB e0 er ex cs rs ds xs = (rb && (fb && decide (slpQ cs ds < 0)))) := by show _ = _; rw [valB, hrb, hfb]
  rw [hrb] at CR CS HE0
  rw [hfb] at CF
  clear hrb hfb
  obtain ⟨⟨s, x, n, c, f, y, m, d, g⟩, ca, ck, cc, C, ra, rk, rc, R⟩ := M
  replace CR : Hid (∀ W, Below w.heap.size w W → Calls Tryz.prog 13 #[.agg #[.bool s, .slice x n c, .slice y m d, .slice ca ck cc, .slice ra rk rc], .slice ao k cap] W fun e w' => e = .returned (.tuple #[.bool rb, .int .i64 e0]) ∧ Below W.heap.size W w') := CR
  replace CF : Hid (∀ W, Below w.heap.size w W → Calls Tryz.prog 24 #[.agg #[.bool s, .slice x n c, .slice y m d, .slice ca ck cc, .slice ra rk rc], .slice ax kx capx] W fun e w' => e = .returned (.tuple #[.bool fb, .int .i64 ex]) ∧ Below W.heap.size W w') := CF
  replace CS : Hid (rb = true → ∀ W, Below w.heap.size w W → Calls Tryz.prog 32 #[.agg #[.bool s, .slice x n c, .slice y m d, .slice ca ck cc, .slice ra rk rc], .slice ao k cap] W fun e w' => RatAns (KA L) W w' e (slpQ cs ds)) := CS
  show Calls Tryz.prog 9 #[.agg #[.bool s, .slice x n c, .slice y m d, .slice ca ck cc, .slice ra rk rc], .agg #[.slice ax kx capx, .slice ao k cap]] w _
  have hb := below_alloc (below_alloc (Below.refl w.heap.size w) (.cells #[.bool s, .slice x n c, .slice y m d, .slice ca ck cc, .slice ra rk rc] 28)) (.cells #[.slice ax kx capx, .slice ao k cap] 31)
  have BM : Hid (Bk ((w.alloc (.cells #[.bool s, .slice x n c, .slice y m d, .slice ca ck cc, .slice ra rk rc] 28)).alloc (.cells #[.slice ax kx capx, .slice ao k cap] 31)) w.heap.size [.bool s, .slice x n c, .slice y m d, .slice ca ck cc, .slice ra rk rc] 28) := (bk_new w [.bool s, .slice x n c, .slice y m d, .slice ca ck cc, .slice ra rk rc] 28).below (below_alloc (Below.refl _ _) _)
  have BY : Hid (Bk ((w.alloc (.cells #[.bool s, .slice x n c, .slice y m d, .slice ca ck cc, .slice ra rk rc] 28)).alloc (.cells #[.slice ax kx capx, .slice ao k cap] 31)) (w.heap.size + 1) [.slice ax kx capx, .slice ao k cap] 31) := by
    have := bk_new (w.alloc (.cells #[.bool s, .slice x n c, .slice y m d, .slice ca ck cc, .slice ra rk rc] 28)) [.slice ax kx capx, .slice ao k cap] 31
    rw [size_alloc1] at this; exact this
  have HB := hid hb
  clear hb
  go_enter Tryz.func9, Tryz.ntmps9
  have r0 := BM.out.cell (j := 0) rfl
  have r1 := BM.out.cell (j := 1) rfl
  have r2 := BM.out.cell (j := 2) rfl
  have r3 := BM.out.cell (j := 3) rfl
  have r4 := BM.out.cell (j := 4) rfl
  have t0 := BY.out.cell (j := 0) rfl
  have t1 := BY.out.cell (j := 1) rfl
  go_wp2_with fail
  clear r0 r1 r2 r3 r4 t0 t1
  generalize (w.alloc (.cells #[.bool s, .slice x n c, .slice y m d, .slice ca ck cc, .slice ra rk rc] 28)).alloc (.cells #[.slice ax kx capx, .slice ao k cap] 31) = w0 at *
  refine (CR.out _ HB.out).mono ?_
  rintro e w1 ⟨rfl, hb⟩
  replace HB := hid (HB.out.trans (hb.mono HB.out.size)); replace BM := hid (BM.out.below hb); replace BY := hid (BY.out.below hb)
  clear hb CR
  cases rb
  · go_wp2
    go_ret2
    exact ⟨by rw [HV.out]; rfl, HB.out⟩
  have e0z : e0 = 0 := HE0.out rfl
  subst e0z
  have r0 := BM.out.cell (j := 0) rfl
  have r1 := BM.out.cell (j := 1) rfl
  have r2 := BM.out.cell (j := 2) rfl
  have r3 := BM.out.cell (j := 3) rfl
  have r4 := BM.out.cell (j := 4) rfl
  have t0 := BY.out.cell (j := 0) rfl
  have t1 := BY.out.cell (j := 1) rfl
  go_wp2_with fail
  clear r0 r1 r2 r3 r4 t0 t1
  refine (CF.out _ HB.out).mono ?_
  rintro e w2 ⟨rfl, hb⟩
  replace HB := hid (HB.out.trans (hb.mono HB.out.size)); replace BM := hid (BM.out.below hb); replace BY := hid (BY.out.below hb)
  clear hb CF
  cases fb
  · go_wp2
    go_ret2
    exact ⟨by rw [HV.out]; rfl, HB.out⟩
  have CS2 := hid (CS.out (by first | rfl | trivial))
  have r0 := BM.out.cell (j := 0) rfl
  have r1 := BM.out.cell (j := 1) rfl
  have r2 := BM.out.cell (j := 2) rfl
  have r3 := BM.out.cell (j := 3) rfl
  have r4 := BM.out.cell (j := 4) rfl
  have t0 := BY.out.cell (j := 0) rfl
  have t1 := BY.out.cell (j := 1) rfl
  go_wp2_with fail
  clear r0 r1 r2 r3 r4 t0 t1
  refine (CS2.out _ HB.out).mono ?_
  rintro e w3 ⟨s6, x6, n6, c6, f6, y6, m6, d6, g6, rfl, hb, hq⟩
  replace HB := hid (HB.out.trans (hb.mono HB.out.size))
  have HS : Hid (s6 = decide (slpQ cs ds < 0)) := hq.sg
  clear hb hq CS CS2 BM BY
  have hf0 : ∀ (W : World), (Instr.field 24 (.agg #[.bool s6, .slice x6 n6 c6, .slice y6 m6 d6]) 0).run Tryz.prog W = .ok (.bool s6) W := by intros; kernel_rfl
  go_wp2
  go_ret2
  exact ⟨by rw [HV.out, ← HS.out]; cases s6 <;> rfl, HB.out⟩
end Go.Proofs.YtlemkhgicdnlnaaGreat
