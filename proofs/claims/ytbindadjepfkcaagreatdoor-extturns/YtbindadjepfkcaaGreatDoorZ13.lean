/-
  Walks of the document's reference for rat: Zero, Read, DocRead. Walks of ext.Text, ext.Read and of the document's DocText, DocRead of bounds, whatever they are handed; of ExtTexts. The walk of ExtTurns.
-/
import Derived.Test.YtbindadjepfkcaaGreatDoorZ12
import Derived.Test.YtbindadjepfkcaaGreatDoorZ11
namespace Go.Proofs.YtbindadjepfkcaaGreatDoor
open Go.RowKit

theorem zread_cases {w w' : World} {L : Nat} {b : Nat → Nat} {t : Bool} {x : Option Addr} {m : Nat} {d : Nat → Int} {ok : Bool} (h : ZRead w w' L b t x m d ok) : ok = true ∧ (∃ u, IsWh b L u ∧ Zn w' t x m d u) ∨ ok = false ∧ ∀ u, ¬ IsWh b L u := by
  obtain ⟨_, h1, _, h2, h3, _, h4, h5⟩ := h
  cases ok
  · refine .inr ⟨rfl, fun u hu => ?_⟩
    have : false = true := h4.2 (by
      rcases hu with ⟨k1, k2, _⟩ | ⟨k1, k2, _⟩
      · exact .inl ⟨k1.1, k1.2, k2.1, k2.2⟩
      · exact .inr ⟨k1, k2⟩)
    cases this
  · refine .inl ⟨rfl, ?_⟩
    have hn := h4.1 rfl
    rcases h5 rfl with ⟨k1, k2, k3, k4, k5⟩ | ⟨k1, k2, k3⟩
    · rcases hn with ⟨_, _, n1, n2⟩ | ⟨n1, _⟩
      · subst k1
        refine ⟨-(dn (bsh b 1) (L - 1) : Nat), .inl ⟨⟨k2, k3⟩, ⟨n1, n2⟩, rfl⟩, ⟨h1, h2, h3, by rw [k5]; omega⟩, ?_, fun _ => k4⟩
        show -((dn (bsh b 1) (L - 1) : Nat) : Int) = -(((-((dn (bsh b 1) (L - 1) : Nat) : Int)).natAbs : Nat) : Int)
        omega
      · exact absurd ⟨k2, k3⟩ n1
    · rcases hn with ⟨n1, n2, _⟩ | ⟨_, n1⟩
      · exact absurd ⟨n1, n2⟩ k2
      · subst k1
        refine ⟨(dn b L : Nat), .inr ⟨k2, n1, rfl⟩, ⟨h1, h2, h3, by rw [k3]; omega⟩, ?_, fun h => by cases h⟩
        show ((dn b L : Nat) : Int) = ((((dn b L : Nat) : Int).natAbs : Nat) : Int)
        omega
theorem kB3d {w B a0 a1 a2} (h : Bx3 w B a0 a1 a2) : Bx3 w.drew B a0 a1 a2 := ⟨h.z, h.x0, h.x1, h.x2⟩
theorem kB3b {w w' B a0 a1 a2} (hb : Below w.heap.size w w') (h : Bx3 w B a0 a1 a2) : Bx3 w' B a0 a1 a2 := h.below hb
theorem mk_sgn35 {r s : Bool} {k : Nat} (h : r = (s && decide (0 < k))) : r = true → 0 < k := fun e => by
  rw [e] at h
  have h2 : s = true ∧ 0 < k := by simpa using h.symm
  exact h2.2
theorem cmpD_c {w : World} {x : Option Addr} {n c : Nat} {d : Nat → Int} {A : Nat} {y : Option Addr} {m e : Nat} {g : Nat → Int} {B : Nat} (ha : Dn w x n d A) (hb : Dn w y m g B) (hn : n ≤ 100000) (hm : m ≤ 100000) :
    Calls Tryz.prog 106 #[.slice x n c, .slice y m e] w fun en w' => ∃ r, en = .returned (.int .i64 r) ∧ Below w.heap.size w w' ∧ Hid (Ord r A B) :=
  (rcmp_c x y n m c e d g w (by omega) (by omega) ha.rd hb.rd ha.dg hb.dg ha.fm hb.fm).mono (fun _ _ ⟨⟨q, h1⟩, r, h2, h3⟩ => ⟨r, h2, by rw [h1]; exact below_drewN (Below.refl _ _) q, by rw [ha.val, hb.val] at h3; exact h3⟩)

set_option maxRecDepth 100000 in
set_option maxHeartbeats 4000000 in
theorem qZero_c {w : World} : Calls Tryz.prog 53 #[] w fun e w' => ∃ s x n c y m c', e = .returned (.agg #[.bool s, .slice x n c, .slice y m c']) ∧ Below w.heap.size w w' := by
  have h2 := ob_new w 70
  have h3 := below_alloc (Below.refl w.heap.size w) (.cells #[.bool false, .slice none 0 0, .slice none 0 0] 70)
  go_enter Tryz.func53, Tryz.ntmps53
  go_wp2_with fail
  generalize w.alloc (.cells #[.bool false, .slice none 0 0, .slice none 0 0] 70) = w1 at *
  have OB := hid h2; have HW := hid h3
  clear h2 h3
  refine (qInt_c (z := 0) (by decide) (by decide)).mono ?_
  rintro e w2 ⟨s2, x2, n2, c2, d2, y2, m2, e2, g2, rfl, hb, _, _, _⟩
  have HB := hid (HW.out.trans (hb.mono HW.out.size))
  obtain ⟨hz, z0, z1, z2, zf⟩ := OB.out.below hb
  clear hb
  go_wp2
  exact bodyPost_ret (v := .agg #[.bool s2, .slice x2 n2 c2, .slice y2 m2 e2]) (by simp [results, Tryz.results53, go_sem, z0, z1, z2]) rfl ⟨s2, x2, n2, c2, y2, m2, e2, rfl, below_st HB.out (Nat.le_refl _)⟩

/-- What Read answers. -/
def QRead (b : Nat → Nat) (L : Nat) (w' : World) (s : Bool) (x : Option Addr) (n : Nat) (d : Nat → Int) (y : Option Addr) (m : Nat) (g : Nat → Int) (ok : Bool) : Prop :=
  ok = true ∧ (∃ q, RT b L q ∧ Qn w' s x n d y m g q) ∧ n + m ≤ 2000 ∨ ok = false ∧ ∀ q, ¬ RT b L q
theorem qn_made {w s x n d u y m g} {D : Nat} (ha : Zn w s x n d u) (hb : Dn w y m g D) (h0 : 0 < D) (hg : u.natAbs.gcd D = 1) : Qn w s x n d y m g ((u : Rat) / (((D : Nat) : Int) : Rat)) := by
  have e0 : ((D : Nat) : Int).natAbs = D := by omega
  obtain ⟨e1, e2⟩ := make_made (u := u) (v := ((D : Nat) : Int)) (s := s) (t := false) ha.sgn (by show ((D : Nat) : Int) = (((D : Nat) : Int).natAbs : Int); omega) (by omega)
  rw [e0, hg, Nat.div_one] at e1 e2
  refine ⟨?_, ?_⟩
  · have e3 : (s != false) = s := by cases s <;> rfl
    rw [e1, e3, ← ha.sgn]; exact ha
  · rw [e2]; exact hb
theorem div_gcd_one {u B : Nat} (hB : 0 < B) : B / u.gcd B = B ↔ u.gcd B = 1 := by
  have h1 := Nat.div_mul_cancel (Nat.gcd_dvd_right u B)
  have h2 : 0 < u.gcd B := Nat.gcd_pos_of_pos_right _ hB
  constructor
  · intro h
    rw [h] at h1
    have : B * u.gcd B = B * 1 := by omega
    exact Nat.eq_of_mul_eq_mul_left hB this
  · intro h; rw [h, Nat.div_one]

set_option maxRecDepth 100000 in
set_option maxHeartbeats 16000000 in
theorem qRead_c (t : ByteArray) (b : Nat → Nat) (w : World) (hs : Sb t t.size b) (hL : t.size ≤ 1000) :
    Calls Tryz.prog 104 #[.string t] w fun e w' => ∃ s x n c d y m c' g ok, e = .returned (.tuple #[.agg #[.bool s, .slice x n c, .slice y m c'], .bool ok]) ∧ Below w.heap.size w w' ∧ QRead b t.size w' s x n d y m g ok := by
  have OB1 := hid (ob_new w 70)
  have HW1 := hid (below_alloc (Below.refl w.heap.size w) (.cells #[.bool false, .slice none 0 0, .slice none 0 0] 70))
  have HSb := hid hs
  have HB := hid hs.2
  clear hs
  go_enter Tryz.func104, Tryz.ntmps104
  go_upto_region 1 with fail
  generalize w.alloc (.cells #[.bool false, .slice none 0 0, .slice none 0 0] 70) = w1 at *
  go_wp2
  go_loop [4] (fun v => ∃ (k : Nat), k ≤ t.size ∧ v = .int .i64 k ∧ Hid (NoBar b k)) (fun v => t.size - (intOf v).toNat)
  case atStart => exact ⟨0, by omega, rfl, fun j hj => by omega⟩
  case round =>
    obtain ⟨k, hk, rfl, HN⟩ := hrel
    by_cases hlt : k < t.size
    · obtain ⟨x, hx⟩ : ∃ x, b k = x := ⟨_, rfl⟩
      have hc : (t[k]'hlt).toNat = x := by rw [HB.out k hlt, hx]
      by_cases h47 : x = 47
      · have HBar : Hid (Bar b t.size k) := ⟨hlt, by rw [hx]; exact h47, HN.out⟩
        have hxb : ((x : Int) != 47) = false := by simp; omega
        clear hx h47
        have S1 := hid (HSb.out.take (c := k) (by omega))
        go_wp2_with fail
        refine (zRead_c (t.extract 0 k) k b _ S1.out (by omega)).mono ?_
        rintro e w2 ⟨s2, x2, m2, c2, d2, ok2, rfl, hzr⟩
        have hb := hzr.1
        have hm2 : m2 ≤ k := hzr.2.2.1
        have hcs := zread_cases hzr
        have OB3 := hid ((OB1.out.below hb).alloc (.cells #[.bool s2, .slice x2 m2 c2] 68)); have HW3 := hid (below_alloc (HW1.out.trans (hb.mono HW1.out.size)) (.cells #[.bool s2, .slice x2 m2 c2] 68))
        have BZ3 : Hid (Bx (w2.alloc (.cells #[.bool s2, .slice x2 m2 c2] 68)) w2.heap.size s2 x2 m2 c2) := ⟨by simp, kN0, kN1⟩
        have hzb : w.heap.size < w2.heap.size := (OB1.out.below hb).z
        clear hzr hb
        rcases hcs with ⟨rfl, u, hwh, hzn⟩ | ⟨rfl, hno⟩
        rotate_left
        · have NO := hid (rt_no1 HBar.out hno)
          clear hno
          go_upto_region 5 with fail
          generalize w2.alloc (.cells #[.bool s2, .slice x2 m2 c2] 68) = w3 at *
          generalize w2.heap.size = b3 at *
          obtain ⟨za, a0, a1⟩ := BZ3.out
          obtain ⟨hz, z0, z1, z2, zf⟩ := OB3.out
          have C1 : Hid (∀ W : World, Calls Tryz.prog 111 #[.int .u64 1] W fun e w' => ∃ z k cap d, e = .returned (.slice z k cap) ∧ Below W.heap.size W w' ∧ Hid (k ≤ 1 ∧ Dn w' z k d 1)) := fun W => dWord_c (V := 1) (by decide)
          go_wp2_with fail
          go_region_held3 (fun w' => w'.cell? ⟨b3, 0, none⟩ = some (.bool s2) ∧ w'.cell? ⟨b3, 1, none⟩ = some (.slice x2 m2 c2) ∧ (w'.cell? ⟨w.heap.size, 0, none⟩).isSome = true ∧ (w'.cell? ⟨w.heap.size, 1, none⟩).isSome = true ∧ (w'.cell? ⟨w.heap.size, 2, none⟩).isSome = true ∧ w'.frozen? ⟨w.heap.size, 0, none⟩ = false ∧ w'.frozen? ⟨w.heap.size, 1, none⟩ = false ∧ w'.frozen? ⟨w.heap.size, 2, none⟩ = false)
            (refine ⟨?_, ?_, ?_, ?_, ?_, ?_, ?_, ?_⟩ <;> repeat (with_reducible first | assumption | exact zf _ | exact tf _ | exact uf _ | exact vf' _ | exact kI0 z0 | exact kI0 z1 | exact kI0 z2 | exact kI0 t0 | exact kI0 t1 | exact kI0 t2 | exact kI0 u0 | exact kI0 u1 | exact kI0 u2 | exact kI0 v0 | exact kI0 v1 | exact kI0 v2 | refine kCd ?_ | refine kId ?_ | refine kFd ?_ | refine kCs (by simp only [ne_eq]; omega) ?_ | refine kIs ?_ | refine kFs ?_ | refine kCb (by assumption) ?_ | refine kIb (by assumption) ?_))
            (first | (go_at_call 111; with_reducible refine (C1.out _).mono ?_; rintro e w5 ⟨zb, kb, cb, db, rfl, hb5, HP⟩; have Tt : Ob w5 w.heap.size := (by repeat (with_reducible first | exact OB3.out | exact Tt | exact Tu | exact Tv | refine Ob.drew ?_ | refine kOb (by assumption) ?_)); obtain ⟨_, t0, t1, t2, tf⟩ := id Tt))
          all_goals
            have hb : Below w3.heap.size w3 w5 := (by repeat (with_reducible first | assumption | exact Below.refl _ _ | refine Below.drew ?_ | refine kBb (by assumption) ?_))
            have hkb := HP.out.1
            go_wp2
            exact bodyPost_ret (v := .tuple #[.agg #[.bool s2, .slice x2 m2 c2, .slice zb kb cb], .bool false]) (by simp [results, Tryz.results104, go_sem, t0, t1, t2]) rfl ⟨s2, x2, m2, c2, d2, zb, kb, cb, db, false, rfl, below_st (HW3.out.trans (hb.mono HW3.out.size)) (by omega), .inr ⟨rfl, NO.out⟩⟩
        have HWh := hid hwh
        have ZN3 := hid (hzn.alloc (.cells #[.bool s2, .slice x2 m2 c2] 68))
        clear hwh hzn
        go_upto_region 5 with fail
        generalize w2.alloc (.cells #[.bool s2, .slice x2 m2 c2] 68) = w3 at *
        generalize w2.heap.size = b3 at *
        have hkn : ((k : Int) == (t.size : Int)) = false := by simp; omega
        have S2 := hid (HSb.out.drop (c := k + 1) (by omega))
        go_wp2_with fail
        refine (rread_c (t.extract (k + 1) t.size) (t.size - (k + 1)) (bsh b (k + 1)) _ S2.out (by omega)).mono ?_
        rintro e w4 ⟨x4, k4, c4, D4, rfl, hans⟩
        have hb := hans.1
        have hk4 : k4 ≤ t.size - (k + 1) := hans.2.2.1
        have OB4 := hid (OB3.out.below hb); have HW4 := hid (HW3.out.trans (hb.mono HW3.out.size)); have BZ4 := hid (BZ3.out.below hb); have ZN4 := hid (ZN3.out.below hb); have HA4 := hid hans
        clear hb hans OB3 HW3 BZ3 ZN3
        cases hR : numB (bsh b (k + 1)) (t.size - (k + 1))
        · have hnn : ¬ IsNum (bsh b (k + 1)) (t.size - (k + 1)) := fun h => by rw [numB_true h] at hR; cases hR
          have NO := hid (rt_no2 HBar.out (fun h => hnn h.1))
          go_wp2_with fail
          refine qZero_c.mono ?_
          rintro e w6 ⟨s6, x6, n6, c6, y6, m6, e6, rfl, hb⟩
          have HW6 := hid (HW4.out.trans (hb.mono HW4.out.size))
          obtain ⟨hz, z0, z1, z2, zf⟩ := OB4.out.below hb
          clear hb
          go_wp2
          exact bodyPost_ret (v := .tuple #[.agg #[.bool s6, .slice x6 n6 c6, .slice y6 m6 e6], .bool false]) (by simp [results, Tryz.results104, go_sem, z0, z1, z2]) rfl ⟨s6, x6, n6, c6, fun _ => 0, y6, m6, e6, fun _ => 0, false, rfl, below_st HW6.out (Nat.le_refl _), .inr ⟨rfl, NO.out⟩⟩
        have hnum : IsNum (bsh b (k + 1)) (t.size - (k + 1)) := (numB_iff _ _).1 hR
        obtain ⟨B, hBe⟩ : ∃ B, dn (bsh b (k + 1)) (t.size - (k + 1)) = B := ⟨_, rfl⟩
        have hdn : Dn w4 x4 k4 D4 B := ⟨HA4.out.2.1, HA4.out.2.2.2.1, HA4.out.2.2.2.2.1, by rw [HA4.out.2.2.2.2.2.1 hR, hBe]⟩
        by_cases h0 : k4 = 0
        · have hB0 : B = 0 := by rw [h0] at hdn; exact hdn.zero
          have hl0 : ((k4 : Int) == 0) = true := by simp; omega
          have hng : ¬ (IsNum (bsh b (k + 1)) (t.size - (k + 1)) ∧ 0 < dn (bsh b (k + 1)) (t.size - (k + 1))) := fun h => by rw [hBe] at h; omega
          clear hBe hdn hB0
          have NO := hid (rt_no3 HBar.out HWh.out (fun h => hng ⟨hnum, h.1⟩))
          go_wp2_with fail
          refine qZero_c.mono ?_
          rintro e w6 ⟨s6, x6, n6, c6, y6, m6, e6, rfl, hb⟩
          have HW6 := hid (HW4.out.trans (hb.mono HW4.out.size))
          obtain ⟨hz, z0, z1, z2, zf⟩ := OB4.out.below hb
          clear hb
          go_wp2
          exact bodyPost_ret (v := .tuple #[.agg #[.bool s6, .slice x6 n6 c6, .slice y6 m6 e6], .bool false]) (by simp [results, Tryz.results104, go_sem, z0, z1, z2]) rfl ⟨s6, x6, n6, c6, fun _ => 0, y6, m6, e6, fun _ => 0, false, rfl, below_st HW6.out (Nat.le_refl _), .inr ⟨rfl, NO.out⟩⟩
        have hl0 : ((k4 : Int) == 0) = false := by simp; omega
        have hBp := hdn.pos' (by omega)
        have HNm := hid hnum; have HBe := hid hBe; have HBp := hid hBp; have DN4 := hid hdn
        clear hnum hBe hBp hdn hR HA4
        obtain ⟨za, a0, a1⟩ := BZ4.out
        go_wp2_with fail
        refine (mkQ_c (s := s2) (c := c2) (e := c4) ZN4.out.dn DN4.out ZN4.out.pos (by omega) (by omega) HBp.out).mono ?_
        rintro e w5 ⟨r5, z5, k5, c5, d5, z6, k6, c6, d6, rfl, hb, hk5, hk6, hr5, hd5, hd6⟩
        have OB6 := hid ((OB4.out.below hb).alloc (.cells #[.bool r5, .slice z5 k5 c5, .slice z6 k6 c6] 70)); have HW6 := hid (below_alloc (HW4.out.trans (hb.mono HW4.out.size)) (.cells #[.bool r5, .slice z5 k5 c5, .slice z6 k6 c6] 70)); have BQ6 := hid (bx3_at w5 (.bool r5) (.slice z5 k5 c5) (.slice z6 k6 c6) 70); have E6 := hid ((DN4.out.below hb).alloc (.cells #[.bool r5, .slice z5 k5 c5, .slice z6 k6 c6] 70)); have D5 := hid (hd5.alloc (.cells #[.bool r5, .slice z5 k5 c5, .slice z6 k6 c6] 70)); have D6 := hid (hd6.alloc (.cells #[.bool r5, .slice z5 k5 c5, .slice z6 k6 c6] 70))
        have HR5 := hid hr5; have hzq6 : w.heap.size < w5.heap.size := (OB4.out.below hb).z
        have ZN5 := hid ZN4.out.sgn
        clear hb hr5 hd5 hd6 za a0 a1 OB4 HW4 BZ4 DN4
        go_upto_region 11 with fail
        generalize w5.alloc (.cells #[.bool r5, .slice z5 k5 c5, .slice z6 k6 c6] 70) = w6 at *
        generalize w5.heap.size = b6 at *
        by_cases hg : u.natAbs.gcd B = 1
        · have HGy := hid ((div_gcd_one (u := u.natAbs) HBp.out).2 hg)
          by_cases hB1 : 1 < B
          · have HB1 := hid hB1
            have YES := hid (rt_yes HBar.out HWh.out ⟨HNm.out, by rw [HBe.out]; omega⟩ (by rw [HBe.out]; exact ⟨HBp.out, hg⟩))
            have QN6 : Hid (Qn w6 r5 z5 k5 d5 z6 k6 d6 ((u : Rat) / (((dn (bsh b (k + 1)) (t.size - (k + 1)) : Nat) : Int) : Rat))) := by
              rw [HBe.out]
              have h1 := D5.out; have h2 := D6.out
              rw [hg, Nat.div_one] at h1 h2
              have hpos : r5 = true → 0 < k5 := mk_sgn35 HR5.out
              have hsg : u = sg r5 u.natAbs := by
                rcases Nat.eq_zero_or_pos u.natAbs with h | h
                · have : u = 0 := by omega
                  subst this; cases r5 <;> rfl
                · have : 0 < k5 := h1.pos h
                  rw [HR5.out, decide_eq_true this, Bool.and_true]; exact ZN5.out
              exact qn_made ⟨h1, hsg, hpos⟩ h2 HBp.out hg
            clear hg hB1
            have CM : Hid (∀ W, Below w6.heap.size w6 W → Calls Tryz.prog 106 #[.slice z6 k6 c6, .slice x4 k4 c4] W fun e w' => e = .returned (.int .i64 0) ∧ Below W.heap.size W w') := fun W hW => (cmpD_c (D6.out.below hW) (E6.out.below hW) (by omega) (by omega)).mono (fun _ _ ⟨c, h1, h2, h3⟩ => ⟨by
              have := HGy.out
              rcases h3.out with ⟨_, h⟩ | ⟨h, _⟩ | ⟨_, h⟩
              · omega
              · rw [h1, h]
              · omega, h2⟩)
            have C1 : Hid (∀ W : World, Calls Tryz.prog 111 #[.int .u64 1] W fun e w' => ∃ z k cap d, e = .returned (.slice z k cap) ∧ Below W.heap.size W w' ∧ Hid (k ≤ 1 ∧ Dn w' z k d 1)) := fun W => dWord_c (V := 1) (by decide)
            have CN : Hid (∀ (W : World) (z : Option Addr) (k c : Nat) (d : Nat → Int), k ≤ 1 → Dn W x4 k4 D4 B → Dn W z k d 1 → Calls Tryz.prog 106 #[.slice x4 k4 c4, .slice z k c] W fun e w' => e = .returned (.int .i64 1) ∧ Below W.heap.size W w') := fun W z k c d hk h1 h2 => (cmpD_c h1 h2 (by omega) (by omega)).mono (fun _ _ ⟨c, h1, h2, h3⟩ => ⟨by
              have := HB1.out; have := HBp.out
              rcases h3.out with ⟨_, h⟩ | ⟨h0, h⟩ | ⟨h0, h⟩
              · omega
              · first | omega | rw [h1, h0]
              · first | omega | rw [h1, h0], h2⟩)
            obtain ⟨zq, q0, q1, q2⟩ := BQ6.out
            obtain ⟨hz, z0, z1, z2, zf⟩ := OB6.out
            have OB3 := OB6
            go_region_held3 (fun w' => w'.cell? ⟨b6, 0, none⟩ = some (.bool r5) ∧ w'.cell? ⟨b6, 1, none⟩ = some (.slice z5 k5 c5) ∧ w'.cell? ⟨b6, 2, none⟩ = some (.slice z6 k6 c6) ∧ (w'.cell? ⟨w.heap.size, 0, none⟩).isSome = true ∧ (w'.cell? ⟨w.heap.size, 1, none⟩).isSome = true ∧ (w'.cell? ⟨w.heap.size, 2, none⟩).isSome = true ∧ w'.frozen? ⟨w.heap.size, 0, none⟩ = false ∧ w'.frozen? ⟨w.heap.size, 1, none⟩ = false ∧ w'.frozen? ⟨w.heap.size, 2, none⟩ = false)
              (refine ⟨?_, ?_, ?_, ?_, ?_, ?_, ?_, ?_, ?_⟩ <;> repeat (with_reducible first | assumption | exact zf _ | exact tf _ | exact uf _ | exact vf' _ | exact kI0 z0 | exact kI0 z1 | exact kI0 z2 | exact kI0 t0 | exact kI0 t1 | exact kI0 t2 | exact kI0 u0 | exact kI0 u1 | exact kI0 u2 | exact kI0 v0 | exact kI0 v1 | exact kI0 v2 | refine kCd ?_ | refine kId ?_ | refine kFd ?_ | refine kCs (by simp only [ne_eq]; omega) ?_ | refine kIs ?_ | refine kFs ?_ | refine kCb (by assumption) ?_ | refine kIb (by assumption) ?_))
              (first
                | (go_at_call 106; with_reducible refine (CM.out _ (by repeat (with_reducible first | assumption | exact Below.refl _ _ | refine Below.drew ?_ | refine kBb (by assumption) ?_))).mono ?_; rintro e v7 ⟨rfl, hb7⟩; have Tt : Ob v7 w.heap.size := (by repeat (with_reducible first | exact OB3.out | exact Tt | exact Tu | exact Tv | refine Ob.drew ?_ | refine kOb (by assumption) ?_)); obtain ⟨_, t0, t1, t2, tf⟩ := id Tt)
                | (go_at_call 111; with_reducible refine (C1.out _).mono ?_; rintro e v8 ⟨z8, k8, c8, d8, rfl, hb8, H8⟩; have Tu : Ob v8 w.heap.size := (by repeat (with_reducible first | exact OB3.out | exact Tt | exact Tu | exact Tv | refine Ob.drew ?_ | refine kOb (by assumption) ?_)); obtain ⟨_, u0, u1, u2, uf⟩ := id Tu)
                | (go_at_call 106; with_reducible refine (CN.out _ z8 k8 c8 d8 H8.out.1 (by repeat (with_reducible first | exact E6.out | refine Dn.drew ?_ | refine kDb (by assumption) ?_)) (by repeat (with_reducible first | exact H8.out.2 | refine Dn.drew ?_ | refine kDb (by assumption) ?_))).mono ?_; rintro e v9 ⟨rfl, hb9⟩; have Tv : Ob v9 w.heap.size := (by repeat (with_reducible first | exact OB3.out | exact Tt | exact Tu | exact Tv | refine Ob.drew ?_ | refine kOb (by assumption) ?_)); obtain ⟨_, v0, v1, v2, vf'⟩ := id Tv))
            all_goals
              have hb : Below w6.heap.size w6 v9 := (by repeat (with_reducible first | assumption | exact Below.refl _ _ | refine Below.drew ?_ | refine kBb (by assumption) ?_))
              go_wp2
              exact bodyPost_ret (v := .tuple #[.agg #[.bool r5, .slice z5 k5 c5, .slice z6 k6 c6], .bool true]) (by simp [results, Tryz.results104, go_sem, v0, v1, v2]) rfl ⟨r5, z5, k5, c5, d5, z6, k6, c6, d6, true, rfl, below_st (HW6.out.trans (hb.mono HW6.out.size)) (by omega), .inl ⟨rfl, ⟨_, YES.out, Tv.qn (QN6.out.below hb)⟩, by omega⟩⟩
          · have HB1 := hid hB1
            have NO := hid (rt_no2 HBar.out (fun h => by rw [HBe.out] at h; have := HBp.out; omega))
            clear hg hB1
            have CM : Hid (∀ W, Below w6.heap.size w6 W → Calls Tryz.prog 106 #[.slice z6 k6 c6, .slice x4 k4 c4] W fun e w' => e = .returned (.int .i64 0) ∧ Below W.heap.size W w') := fun W hW => (cmpD_c (D6.out.below hW) (E6.out.below hW) (by omega) (by omega)).mono (fun _ _ ⟨c, h1, h2, h3⟩ => ⟨by
              have := HGy.out
              rcases h3.out with ⟨_, h⟩ | ⟨h, _⟩ | ⟨_, h⟩
              · omega
              · rw [h1, h]
              · omega, h2⟩)
            have C1 : Hid (∀ W : World, Calls Tryz.prog 111 #[.int .u64 1] W fun e w' => ∃ z k cap d, e = .returned (.slice z k cap) ∧ Below W.heap.size W w' ∧ Hid (k ≤ 1 ∧ Dn w' z k d 1)) := fun W => dWord_c (V := 1) (by decide)
            have CN : Hid (∀ (W : World) (z : Option Addr) (k c : Nat) (d : Nat → Int), k ≤ 1 → Dn W x4 k4 D4 B → Dn W z k d 1 → Calls Tryz.prog 106 #[.slice x4 k4 c4, .slice z k c] W fun e w' => e = .returned (.int .i64 0) ∧ Below W.heap.size W w') := fun W z k c d hk h1 h2 => (cmpD_c h1 h2 (by omega) (by omega)).mono (fun _ _ ⟨c, h1, h2, h3⟩ => ⟨by
              have := HB1.out; have := HBp.out
              rcases h3.out with ⟨_, h⟩ | ⟨h0, h⟩ | ⟨h0, h⟩
              · omega
              · first | omega | rw [h1, h0]
              · first | omega | rw [h1, h0], h2⟩)
            obtain ⟨zq, q0, q1, q2⟩ := BQ6.out
            obtain ⟨hz, z0, z1, z2, zf⟩ := OB6.out
            have OB3 := OB6
            go_region_held3 (fun w' => w'.cell? ⟨b6, 0, none⟩ = some (.bool r5) ∧ w'.cell? ⟨b6, 1, none⟩ = some (.slice z5 k5 c5) ∧ w'.cell? ⟨b6, 2, none⟩ = some (.slice z6 k6 c6) ∧ (w'.cell? ⟨w.heap.size, 0, none⟩).isSome = true ∧ (w'.cell? ⟨w.heap.size, 1, none⟩).isSome = true ∧ (w'.cell? ⟨w.heap.size, 2, none⟩).isSome = true ∧ w'.frozen? ⟨w.heap.size, 0, none⟩ = false ∧ w'.frozen? ⟨w.heap.size, 1, none⟩ = false ∧ w'.frozen? ⟨w.heap.size, 2, none⟩ = false)
              (refine ⟨?_, ?_, ?_, ?_, ?_, ?_, ?_, ?_, ?_⟩ <;> repeat (with_reducible first | assumption | exact zf _ | exact tf _ | exact uf _ | exact vf' _ | exact kI0 z0 | exact kI0 z1 | exact kI0 z2 | exact kI0 t0 | exact kI0 t1 | exact kI0 t2 | exact kI0 u0 | exact kI0 u1 | exact kI0 u2 | exact kI0 v0 | exact kI0 v1 | exact kI0 v2 | refine kCd ?_ | refine kId ?_ | refine kFd ?_ | refine kCs (by simp only [ne_eq]; omega) ?_ | refine kIs ?_ | refine kFs ?_ | refine kCb (by assumption) ?_ | refine kIb (by assumption) ?_))
              (first
                | (go_at_call 106; with_reducible refine (CM.out _ (by repeat (with_reducible first | assumption | exact Below.refl _ _ | refine Below.drew ?_ | refine kBb (by assumption) ?_))).mono ?_; rintro e v7 ⟨rfl, hb7⟩; have Tt : Ob v7 w.heap.size := (by repeat (with_reducible first | exact OB3.out | exact Tt | exact Tu | exact Tv | refine Ob.drew ?_ | refine kOb (by assumption) ?_)); obtain ⟨_, t0, t1, t2, tf⟩ := id Tt)
                | (go_at_call 111; with_reducible refine (C1.out _).mono ?_; rintro e v8 ⟨z8, k8, c8, d8, rfl, hb8, H8⟩; have Tu : Ob v8 w.heap.size := (by repeat (with_reducible first | exact OB3.out | exact Tt | exact Tu | exact Tv | refine Ob.drew ?_ | refine kOb (by assumption) ?_)); obtain ⟨_, u0, u1, u2, uf⟩ := id Tu)
                | (go_at_call 106; with_reducible refine (CN.out _ z8 k8 c8 d8 H8.out.1 (by repeat (with_reducible first | exact E6.out | refine Dn.drew ?_ | refine kDb (by assumption) ?_)) (by repeat (with_reducible first | exact H8.out.2 | refine Dn.drew ?_ | refine kDb (by assumption) ?_))).mono ?_; rintro e v9 ⟨rfl, hb9⟩; have Tv : Ob v9 w.heap.size := (by repeat (with_reducible first | exact OB3.out | exact Tt | exact Tu | exact Tv | refine Ob.drew ?_ | refine kOb (by assumption) ?_)); obtain ⟨_, v0, v1, v2, vf'⟩ := id Tv))
            all_goals
              have hb : Below w6.heap.size w6 v9 := (by repeat (with_reducible first | assumption | exact Below.refl _ _ | refine Below.drew ?_ | refine kBb (by assumption) ?_))
              go_wp2
              exact bodyPost_ret (v := .tuple #[.agg #[.bool r5, .slice z5 k5 c5, .slice z6 k6 c6], .bool false]) (by simp [results, Tryz.results104, go_sem, v0, v1, v2]) rfl ⟨r5, z5, k5, c5, d5, z6, k6, c6, d6, false, rfl, below_st (HW6.out.trans (hb.mono HW6.out.size)) (by omega), .inr ⟨rfl, NO.out⟩⟩
        · have HGn := hid (fun h => hg ((div_gcd_one (u := u.natAbs) HBp.out).1 h))
          have NO := hid (rt_no3 HBar.out HWh.out (fun h => by rw [HBe.out] at h; exact hg h.2))
          clear hg
          have CM : Hid (∀ W, Below w6.heap.size w6 W → Calls Tryz.prog 106 #[.slice z6 k6 c6, .slice x4 k4 c4] W fun e w' => e = .returned (.int .i64 (-1)) ∧ Below W.heap.size W w') := fun W hW => (cmpD_c (D6.out.below hW) (E6.out.below hW) (by omega) (by omega)).mono (fun _ _ ⟨c, h1, h2, h3⟩ => ⟨by
            have hle := Nat.div_le_self B (u.natAbs.gcd B)
            rcases h3.out with ⟨h, _⟩ | ⟨_, h⟩ | ⟨_, h⟩
            · rw [h1, h]
            · exact absurd (by omega : B / u.natAbs.gcd B = B) HGn.out
            · omega, h2⟩)
          obtain ⟨zq, q0, q1, q2⟩ := BQ6.out
          obtain ⟨hz, z0, z1, z2, zf⟩ := OB6.out
          have OB3 := OB6
          first
            | (go_region_with
                (first
                  | (go_at_call 106; with_reducible refine (CM.out _ (by repeat (with_reducible first | assumption | exact Below.refl _ _ | refine Below.drew ?_ | refine kBb (by assumption) ?_))).mono ?_; rintro e v7 ⟨rfl, hb7⟩; have Tq : Bx3 v7 b6 (.bool r5) (.slice z5 k5 c5) (.slice z6 k6 c6) := (by repeat (with_reducible first | exact BQ6.out | refine kB3d ?_ | refine kB3b (by assumption) ?_)); obtain ⟨_, y0, y1, y2⟩ := id Tq; have Tt : Ob v7 w.heap.size := (by repeat (with_reducible first | exact OB3.out | exact Tt | exact Tu | exact Tv | refine Ob.drew ?_ | refine kOb (by assumption) ?_)); obtain ⟨_, t0, t1, t2, tf⟩ := id Tt)))
            | fail
          all_goals
            have hb : Below w6.heap.size w6 v7 := (by repeat (with_reducible first | assumption | exact Below.refl _ _ | refine Below.drew ?_ | refine kBb (by assumption) ?_))
            go_wp2
            exact bodyPost_ret (v := .tuple #[.agg #[.bool r5, .slice z5 k5 c5, .slice z6 k6 c6], .bool false]) (by simp [results, Tryz.results104, go_sem, t0, t1, t2]) rfl ⟨r5, z5, k5, c5, d5, z6, k6, c6, d6, false, rfl, below_st (HW6.out.trans (hb.mono HW6.out.size)) (by omega), .inr ⟨rfl, NO.out⟩⟩
      · have hxb : ((x : Int) != 47) = true := by simp; omega
        have HX : Hid (b k ≠ 47) := by rw [hx]; exact h47
        clear hx h47
        go_wp2
        go_round
        case rel =>
          refine ⟨k + 1, by omega, by go_num, fun j hj => ?_⟩
          by_cases hjk : j = k
          · subst hjk; exact HX.out
          · exact HN.out j (by omega)
        case measure => simp [intOf]; omega
    · obtain rfl : k = t.size := by omega
      have HNo := hid HN.out
      have S1 := HSb
      go_wp2_with fail
      refine (zRead_c t t.size b _ S1.out (by omega)).mono ?_
      rintro e w2 ⟨s2, x2, m2, c2, d2, ok2, rfl, hzr⟩
      have hb := hzr.1
      have hm2 : m2 ≤ t.size := hzr.2.2.1
      have hcs := zread_cases hzr
      have OB3 := hid ((OB1.out.below hb).alloc (.cells #[.bool s2, .slice x2 m2 c2] 68)); have HW3 := hid (below_alloc (HW1.out.trans (hb.mono HW1.out.size)) (.cells #[.bool s2, .slice x2 m2 c2] 68))
      have BZ3 : Hid (Bx (w2.alloc (.cells #[.bool s2, .slice x2 m2 c2] 68)) w2.heap.size s2 x2 m2 c2) := ⟨by simp, kN0, kN1⟩
      have hzb : w.heap.size < w2.heap.size := (OB1.out.below hb).z
      clear hzr hb
      rcases hcs with ⟨rfl, u, hwh, hzn⟩ | ⟨rfl, hno⟩
      rotate_left
      · have NO := hid (rt_no4 HNo.out hno)
        clear hno
        go_upto_region 5 with fail
        generalize w2.alloc (.cells #[.bool s2, .slice x2 m2 c2] 68) = w3 at *
        generalize w2.heap.size = b3 at *
        obtain ⟨za, a0, a1⟩ := BZ3.out
        obtain ⟨hz, z0, z1, z2, zf⟩ := OB3.out
        have C1 : Hid (∀ W : World, Calls Tryz.prog 111 #[.int .u64 1] W fun e w' => ∃ z k cap d, e = .returned (.slice z k cap) ∧ Below W.heap.size W w' ∧ Hid (k ≤ 1 ∧ Dn w' z k d 1)) := fun W => dWord_c (V := 1) (by decide)
        go_wp2_with fail
        go_region_held3 (fun w' => w'.cell? ⟨b3, 0, none⟩ = some (.bool s2) ∧ w'.cell? ⟨b3, 1, none⟩ = some (.slice x2 m2 c2) ∧ (w'.cell? ⟨w.heap.size, 0, none⟩).isSome = true ∧ (w'.cell? ⟨w.heap.size, 1, none⟩).isSome = true ∧ (w'.cell? ⟨w.heap.size, 2, none⟩).isSome = true ∧ w'.frozen? ⟨w.heap.size, 0, none⟩ = false ∧ w'.frozen? ⟨w.heap.size, 1, none⟩ = false ∧ w'.frozen? ⟨w.heap.size, 2, none⟩ = false)
          (refine ⟨?_, ?_, ?_, ?_, ?_, ?_, ?_, ?_⟩ <;> repeat (with_reducible first | assumption | exact zf _ | exact tf _ | exact uf _ | exact vf' _ | exact kI0 z0 | exact kI0 z1 | exact kI0 z2 | exact kI0 t0 | exact kI0 t1 | exact kI0 t2 | exact kI0 u0 | exact kI0 u1 | exact kI0 u2 | exact kI0 v0 | exact kI0 v1 | exact kI0 v2 | refine kCd ?_ | refine kId ?_ | refine kFd ?_ | refine kCs (by simp only [ne_eq]; omega) ?_ | refine kIs ?_ | refine kFs ?_ | refine kCb (by assumption) ?_ | refine kIb (by assumption) ?_))
          (first | (go_at_call 111; with_reducible refine (C1.out _).mono ?_; rintro e w5 ⟨zb, kb, cb, db, rfl, hb5, HP⟩; have Tt : Ob w5 w.heap.size := (by repeat (with_reducible first | exact OB3.out | exact Tt | exact Tu | exact Tv | refine Ob.drew ?_ | refine kOb (by assumption) ?_)); obtain ⟨_, t0, t1, t2, tf⟩ := id Tt))
        all_goals
          have hb : Below w3.heap.size w3 w5 := (by repeat (with_reducible first | assumption | exact Below.refl _ _ | refine Below.drew ?_ | refine kBb (by assumption) ?_))
          have hkb := HP.out.1
          go_wp2
          exact bodyPost_ret (v := .tuple #[.agg #[.bool s2, .slice x2 m2 c2, .slice zb kb cb], .bool false]) (by simp [results, Tryz.results104, go_sem, t0, t1, t2]) rfl ⟨s2, x2, m2, c2, d2, zb, kb, cb, db, false, rfl, below_st (HW3.out.trans (hb.mono HW3.out.size)) (by omega), .inr ⟨rfl, NO.out⟩⟩
      have HWh := hid hwh
      have ZN3 := hid (hzn.alloc (.cells #[.bool s2, .slice x2 m2 c2] 68))
      clear hwh hzn
      go_upto_region 5 with fail
      generalize w2.alloc (.cells #[.bool s2, .slice x2 m2 c2] 68) = w3 at *
      generalize w2.heap.size = b3 at *
      have hkn : ((t.size : Int) == (t.size : Int)) = true := by simp
      have YES : Hid (RT b t.size (u : Rat)) := .inr ⟨u, HNo.out, HWh.out, rfl⟩
      obtain ⟨za, a0, a1⟩ := BZ3.out
      obtain ⟨hz, z0, z1, z2, zf⟩ := OB3.out
      have C1 : Hid (∀ W : World, Calls Tryz.prog 111 #[.int .u64 1] W fun e w' => ∃ z k cap d, e = .returned (.slice z k cap) ∧ Below W.heap.size W w' ∧ Hid (k ≤ 1 ∧ Dn w' z k d 1)) := fun W => dWord_c (V := 1) (by decide)
      go_wp2_with fail
      go_region_held3 (fun w' => w'.cell? ⟨b3, 0, none⟩ = some (.bool s2) ∧ w'.cell? ⟨b3, 1, none⟩ = some (.slice x2 m2 c2) ∧ (w'.cell? ⟨w.heap.size, 0, none⟩).isSome = true ∧ (w'.cell? ⟨w.heap.size, 1, none⟩).isSome = true ∧ (w'.cell? ⟨w.heap.size, 2, none⟩).isSome = true ∧ w'.frozen? ⟨w.heap.size, 0, none⟩ = false ∧ w'.frozen? ⟨w.heap.size, 1, none⟩ = false ∧ w'.frozen? ⟨w.heap.size, 2, none⟩ = false)
        (refine ⟨?_, ?_, ?_, ?_, ?_, ?_, ?_, ?_⟩ <;> repeat (with_reducible first | assumption | exact zf _ | exact tf _ | exact uf _ | exact vf' _ | exact kI0 z0 | exact kI0 z1 | exact kI0 z2 | exact kI0 t0 | exact kI0 t1 | exact kI0 t2 | exact kI0 u0 | exact kI0 u1 | exact kI0 u2 | exact kI0 v0 | exact kI0 v1 | exact kI0 v2 | refine kCd ?_ | refine kId ?_ | refine kFd ?_ | refine kCs (by simp only [ne_eq]; omega) ?_ | refine kIs ?_ | refine kFs ?_ | refine kCb (by assumption) ?_ | refine kIb (by assumption) ?_))
        (first | (go_at_call 111; with_reducible refine (C1.out _).mono ?_; rintro e w5 ⟨zb, kb, cb, db, rfl, hb5, HP⟩; have Tt : Ob w5 w.heap.size := (by repeat (with_reducible first | exact OB3.out | exact Tt | exact Tu | exact Tv | refine Ob.drew ?_ | refine kOb (by assumption) ?_)); obtain ⟨_, t0, t1, t2, tf⟩ := id Tt))
      all_goals
        have hb : Below w3.heap.size w3 w5 := (by repeat (with_reducible first | assumption | exact Below.refl _ _ | refine Below.drew ?_ | refine kBb (by assumption) ?_))
        have hkb := HP.out.1
        go_wp2
        exact bodyPost_ret (v := .tuple #[.agg #[.bool s2, .slice x2 m2 c2, .slice zb kb cb], .bool true]) (by simp [results, Tryz.results104, go_sem, t0, t1, t2]) rfl ⟨s2, x2, m2, c2, d2, zb, kb, cb, db, true, rfl, below_st (HW3.out.trans (hb.mono HW3.out.size)) (by omega), .inl ⟨rfl, ⟨_, YES.out, Tt.qn ⟨by rw [Rat.num_intCast]; exact ZN3.out.below hb, by rw [Rat.den_intCast]; exact HP.out.2⟩⟩, by omega⟩⟩
end Go.Proofs.YtbindadjepfkcaaGreatDoor
namespace Go.Proofs.YtbindadjepfkcaaGreatDoor
open Go.RowKit


set_option maxRecDepth 100000 in
set_option maxHeartbeats 4000000 in
theorem xTwinT_c {w : World} {i : Int} {s : Bool} {x : Option Addr} {n c : Nat} {f : Nat → Int} {y : Option Addr} {m d : Nat} {g : Nat → Int} (h : Rw w x n c f y m d g) (hn : n ≤ 1000) (hm : m ≤ 1000) :
    Calls Tryz.prog 11 #[.agg #[.int .i64 i, .bool s, .slice x n c, .slice y m d]] w fun e w' => ∃ z c' z2 c2, e = .returned (.agg #[.int .i64 i, .bool s, .slice z n c', .slice z2 m c2]) ∧ Below w.heap.size w w' ∧ Hid (Rw w' z n c' f z2 m c2 g ∧ Tg w' z ∧ Tg w' z2) := by
  have h1 := (bx4_at w (.int .i64 i) (.bool s) (.slice x n c) (.slice y m d) 26).alloc (.cells #[.int .i64 0, .bool false, .slice none 0 0, .slice none 0 0] 26)
  have h2 := ob4_new (w.alloc (.cells #[.int .i64 i, .bool s, .slice x n c, .slice y m d] 26)) 26
  rw [size_alloc1] at h2
  have h3 := below_alloc (below_alloc (Below.refl w.heap.size w) (.cells #[.int .i64 i, .bool s, .slice x n c, .slice y m d] 26)) (.cells #[.int .i64 0, .bool false, .slice none 0 0, .slice none 0 0] 26)
  have h4 := h.below h3
  clear h
  go_enter Tryz.func11, Tryz.ntmps11
  go_wp2_with fail
  generalize (w.alloc (.cells #[.int .i64 i, .bool s, .slice x n c, .slice y m d] 26)).alloc (.cells #[.int .i64 0, .bool false, .slice none 0 0, .slice none 0 0] 26) = w1 at *
  have HN := hid h4; have OB := hid h2; have HW := hid h3
  obtain ⟨z, x0, x1, x2, x3⟩ := h1
  obtain ⟨hz, z0, z1, z2, z3, zf⟩ := h2
  clear h3 h4
  have C1 : Hid (∀ W, Below w1.heap.size w1 W → Calls Tryz.prog 22 #[.agg #[.bool s, .slice x n c, .slice y m d]] W fun e w' => ∃ z c' z2 c2, e = .returned (.agg #[.bool s, .slice z n c', .slice z2 m c2]) ∧ Below W.heap.size W w' ∧ Hid (Rw w' z n c' f z2 m c2 g ∧ Tg w' z ∧ Tg w' z2)) := fun W hW => qTwinT_c (HN.out.below hW) hn hm
  go_region_held3 (fun w' => w'.cell? ⟨w.heap.size, 0, none⟩ = some (.int .i64 i) ∧ w'.cell? ⟨w.heap.size, 1, none⟩ = some (.bool s) ∧ w'.cell? ⟨w.heap.size, 2, none⟩ = some (.slice x n c) ∧ w'.cell? ⟨w.heap.size, 3, none⟩ = some (.slice y m d) ∧ (w'.cell? ⟨w.heap.size + 1, 0, none⟩).isSome = true ∧ (w'.cell? ⟨w.heap.size + 1, 1, none⟩).isSome = true ∧ (w'.cell? ⟨w.heap.size + 1, 2, none⟩).isSome = true ∧ (w'.cell? ⟨w.heap.size + 1, 3, none⟩).isSome = true ∧ w'.frozen? ⟨w.heap.size + 1, 0, none⟩ = false ∧ w'.frozen? ⟨w.heap.size + 1, 1, none⟩ = false ∧ w'.frozen? ⟨w.heap.size + 1, 2, none⟩ = false ∧ w'.frozen? ⟨w.heap.size + 1, 3, none⟩ = false)
    (refine ⟨?_, ?_, ?_, ?_, ?_, ?_, ?_, ?_, ?_, ?_, ?_, ?_⟩ <;> repeat (with_reducible first | assumption | exact zf _ | exact tf _ | exact kI0 z0 | exact kI0 z1 | exact kI0 z2 | exact kI0 z3 | exact kI0 t0 | exact kI0 t1 | exact kI0 t2 | exact kI0 t3 | refine kCd ?_ | refine kId ?_ | refine kFd ?_ | refine kCs (by simp only [ne_eq]; omega) ?_ | refine kIs ?_ | refine kFs ?_ | refine kCb (by assumption) ?_ | refine kIb (by assumption) ?_))
    (first | (go_at_call 22; with_reducible refine (C1.out _ (by repeat (with_reducible first | assumption | exact Below.refl _ _ | refine Below.drew ?_ | refine kBb (by assumption) ?_))).mono ?_; rintro e v5 ⟨z5, c5, y5, d5, rfl, hb5, H5⟩; have Tt : Ob4 v5 (w.heap.size + 1) := (by repeat (with_reducible first | exact OB.out | refine Ob4.drew ?_ | refine kO4b (by assumption) ?_)); obtain ⟨_, t0, t1, t2, t3, tf⟩ := id Tt))
  all_goals
    have hb : Below w1.heap.size w1 v5 := (by repeat (with_reducible first | assumption | exact Below.refl _ _ | refine Below.drew ?_ | refine kBb (by assumption) ?_))
    go_wp2
    exact bodyPost_ret (v := .agg #[.int .i64 i, .bool s, .slice z5 n c5, .slice y5 m d5]) (by simp [results, Tryz.results11, go_sem, t0, t1, t2, t3]) rfl ⟨z5, c5, y5, d5, rfl, below_st4 (HW.out.trans (hb.mono HW.out.size)) (by omega), Tt.rw H5.out.1, (((H5.out.2.1.set _ _).set _ _).set _ _).set _ _, (((H5.out.2.2.set _ _).set _ _).set _ _).set _ _⟩

theorem sgn_uni {w w' s t x n c f x' n' d'} {v : Int} (ha : Wn w s x n c f v) (hb : Zn w' t x' n' d' v) : t = s := by
  have h1 := hb.sgn; have h2 := ha.sgn
  rcases Nat.eq_zero_or_pos v.natAbs with h0 | h0
  · have k1 := hb.pos; have k2 : s = true → 0 < n := fun h => sgn_of_wfB ha.wf h
    have z2 : n' = 0 := by
      rcases Nat.eq_zero_or_pos n' with h | h
      · exact h
      · have := hb.dn.pos' h; omega
    have zn : n = 0 := by
      rcases Nat.eq_zero_or_pos n with h | h
      · exact h
      · have h3 := vf_pos ha.lm ha.fm h
        have h4 := ha.mag.nv
        omega
    cases t
    · cases s
      · rfl
      · have := k2 rfl; omega
    · have := k1 rfl; omega
  · cases t <;> cases s <;> simp [sg] at h1 h2 <;> first | rfl | omega
/-- The text of a bound. -/
def etx (i : Int) (s : Bool) (q : Rat) : ByteArray := if i = -1 then ⟨#[45, 105, 110, 102]⟩ else if i = 1 then ⟨#[105, 110, 102]⟩ else qtx s q
def petx (p : Bool) (i : Int) (s : Bool) (q : Rat) : ByteArray := if p then etx i s q else ⟨#[]⟩

set_option maxRecDepth 100000 in
set_option maxHeartbeats 4000000 in
theorem eTextErr_c {w : World} {i : Int} {s : Bool} {x : Option Addr} {n c : Nat} {f : Nat → Int} {y : Option Addr} {m d : Nat} {g : Nat → Int} (h : Rw w x n c f y m d g) (hn : n ≤ 100) (hm : m ≤ 100) (hp : efB i s f n g m = false) :
    Calls Tryz.prog 30 #[.agg #[.int .i64 i, .bool s, .slice x n c, .slice y m d]] w fun e w' => e = .returned (.tuple #[.string ⟨#[]⟩, .int .i64 3]) ∧ Below w.heap.size w w' := by
  have BX := hid (bx4_at w (.int .i64 i) (.bool s) (.slice x n c) (.slice y m d) 26)
  have HW := hid (below_alloc (Below.refl w.heap.size w) (.cells #[.int .i64 i, .bool s, .slice x n c, .slice y m d] 26))
  have HR := hid (h.alloc (.cells #[.int .i64 i, .bool s, .slice x n c, .slice y m d] 26)); have HP := hid hp
  clear h hp
  go_enter Tryz.func30, Tryz.ntmps30
  go_upto_region 1 with fail
  generalize w.alloc (.cells #[.int .i64 i, .bool s, .slice x n c, .slice y m d] 26) = w1 at *
  obtain ⟨z, x0, x1, x2, x3⟩ := BX.out
  have cf := fun (t : TypeId) => allForm1_c (bx4_at w1 (.int .i64 i) (.bool s) (.slice x n c) (.slice y m d) t) (HR.out.alloc _) (by omega) (by omega)
  rw [HP.out] at cf
  have CF := hid cf
  clear cf
  go_wp2_with fail
  refine (CF.out _).mono ?_
  rintro e w2 ⟨rfl, hb⟩
  have HB1 : Hid (Below w1.heap.size w1 w2) := (below_alloc (Below.refl _ _) _).trans (hb.mono (by simp))
  have HB := hid (HW.out.trans (HB1.out.mono HW.out.size))
  clear hb z x0 x1 x2 x3 CF
  go_wp2
  go_ret2
  exact ⟨rfl, HB.out⟩

set_option maxRecDepth 100000 in
set_option maxHeartbeats 4000000 in
theorem eTextOk_u {w : World} {i : Int} {s : Bool} {x : Option Addr} {n c : Nat} {f : Nat → Int} {y : Option Addr} {m d : Nat} {g : Nat → Int} {q : Rat} (h : En 100 w i s x n c f y m d g q) (htab : Tab w) :
    Calls Tryz.prog 30 #[.agg #[.int .i64 i, .bool s, .slice x n c, .slice y m d]] w fun e w' => e = .returned (.tuple #[.string (etx i s q), .int .i64 0]) ∧ Below w.heap.size w w' := by
  have BX := hid (bx4_at w (.int .i64 i) (.bool s) (.slice x n c) (.slice y m d) 26)
  have HW := hid (below_alloc (Below.refl w.heap.size w) (.cells #[.int .i64 i, .bool s, .slice x n c, .slice y m d] 26))
  have HE0 := hid h; have HE := hid (h.alloc (.cells #[.int .i64 i, .bool s, .slice x n c, .slice y m d] 26)); have HTab := hid htab
  have hl1 := h.rn.ln; have hl2 := h.rn.ld
  have hi := h.inf
  clear h htab
  have hi3 : i = 0 ∨ i = -1 ∨ i = 1 := by
    rcases hi with h | ⟨h | h, _⟩
    · exact .inl h
    · exact .inr (.inl h)
    · exact .inr (.inr h)
  clear hi
  rcases hi3 with rfl | rfl | rfl
  all_goals
    go_enter Tryz.func30, Tryz.ntmps30
    go_upto_region 1 with fail
    generalize w.alloc _ = w1 at *
    obtain ⟨z, x0, x1, x2, x3⟩ := BX.out
    have cf := fun (t : TypeId) (k : Int) (hk : efB k s f n g m = true) (b : Bx4 (w1.alloc (.cells #[.int .i64 k, .bool s, .slice x n c, .slice y m d] t)) w1.heap.size (.int .i64 k) (.bool s) (.slice x n c) (.slice y m d)) => by
      have := allForm1_c b (HE.out.rn.rw.alloc _) (by omega) (by omega)
      rw [hk] at this
      exact this
    have CF := hid cf
    clear cf
    go_wp2_with fail
    refine (CF.out _ _ HE.out.ef (bx4_at _ _ _ _ _ _)).mono ?_
    rintro e w2 ⟨rfl, hb⟩
    have HB1 : Hid (Below w1.heap.size w1 w2) := (below_alloc (Below.refl _ _) _).trans (hb.mono (by simp))
    have HB := hid (HW.out.trans (HB1.out.mono HW.out.size))
    clear hb z x0 x1 x2 x3 CF
    obtain ⟨z, x0, x1, x2, x3⟩ := BX.out.below HB1.out
  · have ct := rTextOk_u (HE0.out.rn.below HB.out) (by omega) (HTab.out.below HB.out HTab.out.lt)
    have he : etx 0 s q = qtx s q := by simp [etx]
    obtain ⟨tx, htx⟩ : ∃ tx, qtx s q = tx := ⟨_, rfl⟩
    have HX : Hid (etx 0 s q = tx) := he.trans htx
    rw [htx] at ct
    have CT := hid ct
    clear ct he htx
    go_wp2_with fail
    refine CT.out.mono ?_
    rintro e w3 ⟨rfl, hb⟩
    have HB3 := hid (HB.out.trans (hb.mono HB.out.size))
    clear hb
    go_wp2
    go_ret2
    exact ⟨by rw [HX.out]; rfl, HB3.out⟩
  · go_wp2
    go_ret2
    exact ⟨by simp [etx], HB.out⟩
  · go_wp2
    go_ret2
    exact ⟨by simp [etx], HB.out⟩

theorem eTextOk_c {w : World} {i : Int} {s : Bool} {x : Option Addr} {n c : Nat} {f : Nat → Int} {y : Option Addr} {m d : Nat} {g : Nat → Int} {q : Rat} (h : En 100 w i s x n c f y m d g q) (_ : Tg w x) (_ : Tg w y) (htab : Tab w) :
    Calls Tryz.prog 30 #[.agg #[.int .i64 i, .bool s, .slice x n c, .slice y m d]] w fun e w' => e = .returned (.tuple #[.string (etx i s q), .int .i64 0]) ∧ Below w.heap.size w w' := eTextOk_u h htab

set_option maxRecDepth 100000 in
set_option maxHeartbeats 4000000 in
theorem xText_c {w : World} {i : Int} {s : Bool} {x : Option Addr} {n c : Nat} {f : Nat → Int} {y : Option Addr} {m d : Nat} {g : Nat → Int} {q : Rat} (h : Fn w i s x n f y m g q) (hn : n ≤ 8192) (hm : m ≤ 8192) (s1 : (dec q.num.natAbs).size ≤ 81921) (s2 : (dec q.den).size ≤ 81921) :
    Calls Tryz.prog 69 #[.agg #[.int .i64 i, .bool s, .slice x n c, .slice y m d]] w fun e w' => e = .returned (.string (etx i s q)) ∧ Below w.heap.size w w' := by
  have BX := hid (bx4_at w (.int .i64 i) (.bool s) (.slice x n c) (.slice y m d) 72)
  have HW := hid (below_alloc (Below.refl w.heap.size w) (.cells #[.int .i64 i, .bool s, .slice x n c, .slice y m d] 72))
  have HF := hid (h.alloc (.cells #[.int .i64 i, .bool s, .slice x n c, .slice y m d] 72)); have S1 := hid s1; have S2 := hid s2
  have hi := h.inf
  clear h s1 s2
  have hi3 : i = 0 ∨ i = -1 ∨ i = 1 := by
    rcases hi with h | ⟨h | h, _⟩
    · exact .inl h
    · exact .inr (.inl h)
    · exact .inr (.inr h)
  clear hi
  rcases hi3 with rfl | rfl | rfl
  all_goals
    go_enter Tryz.func69, Tryz.ntmps69
    go_upto_region 1 with fail
    generalize w.alloc _ = w1 at *
    obtain ⟨z, x0, x1, x2, x3⟩ := BX.out
  · have ct := qText_c (c := c) (e := d) HF.out.qn hn hm S1.out S2.out
    have he : etx 0 s q = qtx s q := by simp [etx]
    obtain ⟨tx, htx⟩ : ∃ tx, qtx s q = tx := ⟨_, rfl⟩
    have HX : Hid (etx 0 s q = tx) := he.trans htx
    rw [htx] at ct
    have CT := hid ct
    clear ct he htx
    go_wp2_with fail
    refine CT.out.mono ?_
    rintro e w3 ⟨rfl, hb⟩
    have HB3 := hid (HW.out.trans (hb.mono HW.out.size))
    clear hb
    go_wp2
    go_ret
    exact ⟨by rw [HX.out]; rfl, HB3.out⟩
  · go_wp2
    go_ret
    exact ⟨by simp [etx], HW.out⟩
  · go_wp2
    go_ret
    exact ⟨by simp [etx], HW.out⟩

set_option maxRecDepth 100000 in
set_option maxHeartbeats 4000000 in
theorem docTextX_g {w : World} {i : Int} {s : Bool} {x : Option Addr} {n c : Nat} {f : Nat → Int} {y : Option Addr} {m d : Nat} {g : Nat → Int} {p : Bool} {q : Rat} (h : Rw w x n c f y m d g) (hn : n ≤ 100) (hm : m ≤ 100) (hp : efB i s f n g m = p) (hq : p = true → En 100 w i s x n c f y m d g q) :
    Calls Tryz.prog 31 #[.agg #[.int .i64 i, .bool s, .slice x n c, .slice y m d]] w fun e w' => e = .returned (.tuple #[.string (petx p i s q), .int .i64 (pte p)]) ∧ Below w.heap.size w w' := by
  have BX := hid (bx4_at w (.int .i64 i) (.bool s) (.slice x n c) (.slice y m d) 26)
  have HW := hid (below_alloc (Below.refl w.heap.size w) (.cells #[.int .i64 i, .bool s, .slice x n c, .slice y m d] 26))
  have HR := hid (h.alloc (.cells #[.int .i64 i, .bool s, .slice x n c, .slice y m d] 26)); have HP := hid hp; have HQ := hid (fun k => (hq k).alloc (.cells #[.int .i64 i, .bool s, .slice x n c, .slice y m d] 26))
  clear h hp hq
  go_enter Tryz.func31, Tryz.ntmps31
  go_upto_region 1 with fail
  generalize w.alloc (.cells #[.int .i64 i, .bool s, .slice x n c, .slice y m d] 26) = w1 at *
  obtain ⟨z, x0, x1, x2, x3⟩ := BX.out
  have cf := xForm_c (i := i) (s := s) HR.out (by omega) (by omega)
  rw [HP.out] at cf
  have CF := hid cf
  clear cf
  go_wp2_with fail
  refine CF.out.mono ?_
  rintro e w2 ⟨rfl, hb⟩
  have HB1 := hid hb
  have HB := hid (HW.out.trans (HB1.out.mono HW.out.size))
  clear hb z x0 x1 x2 x3 CF
  obtain ⟨pp, hpp⟩ : ∃ pp, p = pp := ⟨_, rfl⟩
  subst hpp
  cases hc : p
  · subst hc
    go_wp2
    go_ret2
    exact ⟨rfl, HB.out⟩
  subst hc
  have E1 := hid ((HQ.out rfl).below HB1.out)
  obtain ⟨z, x0, x1, x2, x3⟩ := BX.out.below HB1.out
  go_wp2_with fail
  refine (xFrom_c E1.out (by omega)).mono ?_
  rintro e w3 ⟨s3, x3', n3, c3, d3, y3, m3, e3, g3, rfl, hb, H3⟩
  have HB3 := hid (HB.out.trans (hb.mono HB.out.size))
  have hss : s3 = s := sgn_uni E1.out.rn.num H3.out.2.2.qn.num
  subst hss
  have l1 := H3.out.1; have l2 := H3.out.2.1; have l3 := E1.out.rn.ln; have l4 := E1.out.rn.ld
  have ct := xText_c (c := c3) (d := e3) H3.out.2.2 (by omega) (by omega) (dec_size E1.out.rn.num.mag (by omega)) (dec_size E1.out.rn.den (by omega))
  have CT := hid ct
  clear hb z x0 x1 x2 x3 ct
  obtain ⟨tx, htx⟩ : ∃ tx, etx i s3 q = tx := ⟨_, rfl⟩
  have HX : Hid (petx true i s3 q = tx) := htx
  rw [htx] at CT
  clear htx
  go_wp2_with fail
  refine CT.out.mono ?_
  rintro e w4 ⟨rfl, hb⟩
  have HB4 := hid (HB3.out.trans (hb.mono HB3.out.size))
  clear hb
  go_wp2
  go_ret2
  exact ⟨by rw [HX.out]; rfl, HB4.out⟩
theorem eText_u {w : World} {i : Int} {s : Bool} {x : Option Addr} {n c : Nat} {f : Nat → Int} {y : Option Addr} {m d : Nat} {g : Nat → Int} {p : Bool} {q : Rat} (h : Rw w x n c f y m d g) (hn : n ≤ 100) (hm : m ≤ 100) (hp : efB i s f n g m = p) (hq : p = true → En 100 w i s x n c f y m d g q) (htab : Tab w) :
    Calls Tryz.prog 30 #[.agg #[.int .i64 i, .bool s, .slice x n c, .slice y m d]] w fun e w' => e = .returned (.tuple #[.string (petx p i s q), .int .i64 (pte p)]) ∧ Below w.heap.size w w' := by
  cases p
  · exact eTextErr_c h hn hm hp
  · exact eTextOk_u (hq rfl) htab
theorem eText_g {w : World} {i : Int} {s : Bool} {x : Option Addr} {n c : Nat} {f : Nat → Int} {y : Option Addr} {m d : Nat} {g : Nat → Int} {p : Bool} {q : Rat} (h : Rw w x n c f y m d g) (hn : n ≤ 100) (hm : m ≤ 100) (hp : efB i s f n g m = p) (hq : p = true → En 100 w i s x n c f y m d g q) (_ : Tg w x) (_ : Tg w y) (htab : Tab w) :
    Calls Tryz.prog 30 #[.agg #[.int .i64 i, .bool s, .slice x n c, .slice y m d]] w fun e w' => e = .returned (.tuple #[.string (petx p i s q), .int .i64 (pte p)]) ∧ Below w.heap.size w w' := eText_u h hn hm hp hq htab

/-- What Read answers. -/
def ERd (t : ByteArray) (b : Nat → Nat) (w' : World) (i : Int) (s : Bool) (x : Option Addr) (n c : Nat) (f : Nat → Int) (y : Option Addr) (m d : Nat) (g : Nat → Int) (er : Int) : Prop :=
  t = ⟨#[45, 105, 110, 102]⟩ ∧ er = 0 ∧ i = -1 ∧ Rn 2000 w' s x n c f y m d g 0 ∨ t = ⟨#[105, 110, 102]⟩ ∧ er = 0 ∧ i = 1 ∧ Rn 2000 w' s x n c f y m d g 0 ∨ (t ≠ ⟨#[45, 105, 110, 102]⟩ ∧ t ≠ ⟨#[105, 110, 102]⟩) ∧ i = 0 ∧ RRead b t.size w' s x n c f y m d g er
theorem ERd.below {t b w w' i s x n c f y m d g er} (h : ERd t b w i s x n c f y m d g er) (hb : Below w.heap.size w w') : ERd t b w' i s x n c f y m d g er := by
  rcases h with ⟨h1, h2, h3, h4⟩ | ⟨h1, h2, h3, h4⟩ | ⟨h1, h2, h3⟩
  · exact .inl ⟨h1, h2, h3, h4.below hb⟩
  · exact .inr (.inl ⟨h1, h2, h3, h4.below hb⟩)
  · exact .inr (.inr ⟨h1, h2, h3.below hb⟩)
theorem ERd.alloc {t b w i s x n c f y m d g er} (h : ERd t b w i s x n c f y m d g er) (o : Obj) : ERd t b (w.alloc o) i s x n c f y m d g er := h.below (below_alloc (Below.refl _ _) o)
theorem lo_hi : (⟨#[45, 105, 110, 102]⟩ : ByteArray) ≠ ⟨#[105, 110, 102]⟩ := by decide
theorem erd_agree {t b w i s x n c f y m d g er w' i' s' x' n' c' f' y' m' d' g' er'} (h : ERd t b w i s x n c f y m d g er) (k : ERd t b w' i' s' x' n' c' f' y' m' d' g' er') : i' = i ∧ er' = er := by
  rcases h with ⟨h1, h2, h3, _⟩ | ⟨h1, h2, h3, _⟩ | ⟨h1, h2, h3⟩ <;> rcases k with ⟨k1, k2, k3, _⟩ | ⟨k1, k2, k3, _⟩ | ⟨k1, k2, k3⟩
  · omega
  · exact absurd (h1.symm.trans k1) lo_hi
  · exact absurd h1 k1.1
  · exact absurd (k1.symm.trans h1) lo_hi
  · omega
  · exact absurd h1 k1.2
  · exact absurd k1 h1.1
  · exact absurd k1 h1.2
  · exact ⟨by omega, rr_er h3 k3⟩
theorem erd_same {t b w i s x n c f y m d g er s' x' n' c' f' y' m' d' g' er'} (h : ERd t b w i s x n c f y m d g er) (k : ERd t b w i s' x' n' c' f' y' m' d' g' er') :
    Calls Tryz.prog 35 #[.agg #[.int .i64 i, .bool s, .slice x n c, .slice y m d], .agg #[.int .i64 i, .bool s', .slice x' n' c', .slice y' m' d']] w fun e w' => e = .returned (.bool true) ∧ Below w.heap.size w w' := by
  refine xSame_of (fun W hW => ?_)
  have hh := h.below hW
  have kk := k.below hW
  rcases hh with ⟨h1, h2, h3, h4⟩ | ⟨h1, h2, h3, h4⟩ | ⟨h1, h2, h3⟩ <;> rcases kk with ⟨k1, k2, k3, k4⟩ | ⟨k1, k2, k3, k4⟩ | ⟨k1, k2, k3⟩
  · exact (rSame_n h4 k4 (by omega) (by omega)).mono (fun e w' ⟨j1, j2⟩ => ⟨by rw [j1]; simp, j2⟩)
  · omega
  · omega
  · omega
  · exact (rSame_n h4 k4 (by omega) (by omega)).mono (fun e w' ⟨j1, j2⟩ => ⟨by rw [j1]; simp, j2⟩)
  · omega
  · omega
  · omega
  · exact rr_same h3 k3
theorem Ob4.rr {w B u0 u1 u2 u3 b L s x n c f y m d g er} (h : Ob4 w B) (hx : RRead b L w s x n c f y m d g er) : RRead b L ((((w.setCell ⟨B, 0, none⟩ u0).setCell ⟨B, 1, none⟩ u1).setCell ⟨B, 2, none⟩ u2).setCell ⟨B, 3, none⟩ u3) s x n c f y m d g er := by
  rcases hx with h1 | ⟨h1, ⟨q, h2, h3⟩, h4⟩ | h1
  · exact .inl h1
  · exact .inr (.inl ⟨h1, ⟨q, h2, h.rn h3⟩, h4⟩)
  · exact .inr (.inr h1)
theorem str_ne {t u : ByteArray} {l : List UInt8} (hl : u.toList = l) (h : t ≠ u) : (t.toList == l) = false := by
  have := toList_ne h
  rwa [hl] at this

/-- A bound that Read answers. -/
def ERes (t : ByteArray) (b : Nat → Nat) (w w' : World) (e : Ending) : Prop := ∃ i s x n c f y m d g er, e = .returned (.tuple #[.agg #[.int .i64 i, .bool s, .slice x n c, .slice y m d], .int .i64 er]) ∧ Below w.heap.size w w' ∧ ERd t b w' i s x n c f y m d g er
set_option maxRecDepth 100000 in
set_option maxHeartbeats 4000000 in
theorem eRead_g (t : ByteArray) (b : Nat → Nat) (w : World) (hs : Sb t t.size b) (hL : t.size ≤ 1000 ∨ 1048576 < t.size) :
    Calls Tryz.prog 32 #[.string t] w fun e w' => ERes t b w w' e := by
  have h2 := ob4_new w 26
  have h3 := below_alloc (Below.refl w.heap.size w) (.cells #[.int .i64 0, .bool false, .slice none 0 0, .slice none 0 0] 26)
  have CR := hid (fun W => rRead_g t b W hs hL)
  clear hs hL
  by_cases hlo : t = ⟨#[45, 105, 110, 102]⟩
  · subst hlo
    clear CR
    go_enter Tryz.func32, Tryz.ntmps32
    go_wp2_with fail
    generalize w.alloc (.cells #[.int .i64 0, .bool false, .slice none 0 0, .slice none 0 0] 26) = w1 at *
    have OB := hid h2; have HW := hid h3
    clear h2 h3
    refine eLow_c.mono ?_
    rintro e w2 ⟨s2, x2, n2, c2, f2, y2, m2, d2, g2, rfl, hb, hr⟩
    have HB := hid (HW.out.trans (hb.mono HW.out.size)); have OB2 := hid (OB.out.below hb); have R2 := hid hr
    clear hb hr
    obtain ⟨hz, z0, z1, z2, z3, zf⟩ := OB2.out
    go_wp2
    exact bodyPost_ret (v := .tuple #[.agg #[.int .i64 (-1), .bool s2, .slice x2 n2 c2, .slice y2 m2 d2], .int .i64 0]) (by simp [results, Tryz.results32, go_sem, z0, z1, z2, z3]) rfl ⟨-1, s2, x2, n2, c2, f2, y2, m2, d2, g2, 0, rfl, below_st4 HB.out (Nat.le_refl _), .inl ⟨rfl, rfl, rfl, OB2.out.rn (R2.out.rn.mono (by omega))⟩⟩
  have q1 : (t.toList == [45, 105, 110, 102]) = false := str_ne (by rw [ByteArray.toList_eq]) hlo
  by_cases hhi : t = ⟨#[105, 110, 102]⟩
  · subst hhi
    clear CR q1
    go_enter Tryz.func32, Tryz.ntmps32
    go_wp2_with fail
    generalize w.alloc (.cells #[.int .i64 0, .bool false, .slice none 0 0, .slice none 0 0] 26) = w1 at *
    have OB := hid h2; have HW := hid h3
    clear h2 h3
    refine eHigh_c.mono ?_
    rintro e w2 ⟨s2, x2, n2, c2, f2, y2, m2, d2, g2, rfl, hb, hr⟩
    have HB := hid (HW.out.trans (hb.mono HW.out.size)); have OB2 := hid (OB.out.below hb); have R2 := hid hr
    clear hb hr
    obtain ⟨hz, z0, z1, z2, z3, zf⟩ := OB2.out
    go_wp2
    exact bodyPost_ret (v := .tuple #[.agg #[.int .i64 1, .bool s2, .slice x2 n2 c2, .slice y2 m2 d2], .int .i64 0]) (by simp [results, Tryz.results32, go_sem, z0, z1, z2, z3]) rfl ⟨1, s2, x2, n2, c2, f2, y2, m2, d2, g2, 0, rfl, below_st4 HB.out (Nat.le_refl _), .inr (.inl ⟨rfl, rfl, rfl, OB2.out.rn (R2.out.rn.mono (by omega))⟩)⟩
  have q2 : (t.toList == [105, 110, 102]) = false := str_ne (by rw [ByteArray.toList_eq]) hhi
  have HNE : Hid (t ≠ ⟨#[45, 105, 110, 102]⟩ ∧ t ≠ ⟨#[105, 110, 102]⟩) := ⟨hlo, hhi⟩
  clear hlo hhi
  go_enter Tryz.func32, Tryz.ntmps32
  go_wp2_with fail
  generalize w.alloc (.cells #[.int .i64 0, .bool false, .slice none 0 0, .slice none 0 0] 26) = w1 at *
  have OB := hid h2; have HW := hid h3
  clear h2 h3
  refine (CR.out _).mono ?_
  rintro e w2 ⟨s2, x2, n2, c2, f2, y2, m2, d2, g2, er, rfl, hb, hr⟩
  have HB := hid (below_alloc (HW.out.trans (hb.mono HW.out.size)) (.cells #[.bool s2, .slice x2 n2 c2, .slice y2 m2 d2] 24)); have OB2 := hid ((OB.out.below hb).alloc (.cells #[.bool s2, .slice x2 n2 c2, .slice y2 m2 d2] 24)); have R2 := hid (hr.alloc (.cells #[.bool s2, .slice x2 n2 c2, .slice y2 m2 d2] 24)); have BX2 := hid (bx3_at w2 (.bool s2) (.slice x2 n2 c2) (.slice y2 m2 d2) 24)
  clear hb hr
  go_upto_region 7 with fail
  generalize w2.alloc (.cells #[.bool s2, .slice x2 n2 c2, .slice y2 m2 d2] 24) = w3 at *
  generalize w2.heap.size = b3 at *
  by_cases he : er = 0
  · subst he
    obtain ⟨zx, x0, x1, x2'⟩ := BX2.out
    go_wp2_with fail
    refine enumber_c.mono ?_
    rintro e w4 ⟨rfl, hb⟩
    have HB4 := hid (HB.out.trans (hb.mono HB.out.size)); have OB4 := hid (OB2.out.below hb); have R4 := hid (R2.out.below hb)
    clear hb zx x0 x1 x2'
    obtain ⟨hz, z0, z1, z2, z3, zf⟩ := OB4.out
    go_wp2
    exact bodyPost_ret (v := .tuple #[.agg #[.int .i64 0, .bool s2, .slice x2 n2 c2, .slice y2 m2 d2], .int .i64 0]) (by simp [results, Tryz.results32, go_sem, z0, z1, z2, z3]) rfl ⟨0, s2, x2, n2, c2, f2, y2, m2, d2, g2, 0, rfl, below_st4 HB4.out (Nat.le_refl _), .inr (.inr ⟨HNE.out, rfl, OB4.out.rr R4.out⟩)⟩
  · have hen : (er != 0) = true := by simp; exact he
    have RR : Hid (ERd t b w3 0 false none 0 0 (fun _ => 0) none 0 0 (fun _ => 0) er) := by
      refine .inr (.inr ⟨HNE.out, rfl, ?_⟩)
      rcases R2.out with ⟨h1, h2, _⟩ | ⟨h1, _, h2⟩ | ⟨h1, h2, h3, _⟩
      · exact .inl ⟨h1, h2, rfl, rfl, rfl⟩
      · exact absurd h2 he
      · exact .inr (.inr ⟨h1, h2, h3, rfl, rfl, rfl⟩)
    clear he
    obtain ⟨hz, z0, z1, z2, z3, zf⟩ := OB2.out
    go_wp2
    refine bodyPost_ret (v := .tuple #[.agg #[.int .i64 0, .bool false, .slice none 0 0, .slice none 0 0], .int .i64 er]) (by simp [results, Tryz.results32, go_sem, z0, z1, z2, z3]) rfl ⟨0, false, none, 0, 0, fun _ => 0, none, 0, 0, fun _ => 0, er, rfl, below_st4 HB.out (Nat.le_refl _), ?_⟩
    rcases RR.out with ⟨_, _, k3, _⟩ | ⟨_, _, k3, _⟩ | ⟨k1, k2, k3⟩
    · omega
    · omega
    · exact .inr (.inr ⟨k1, rfl, OB2.out.rr k3⟩)

set_option maxRecDepth 100000 in
set_option maxHeartbeats 4000000 in
theorem xNumRaw_c {w : World} {s : Bool} {x : Option Addr} {n c : Nat} {y : Option Addr} {m d : Nat} : Calls Tryz.prog 59 #[.agg #[.bool s, .slice x n c, .slice y m d]] w fun e w' => e = .returned (.agg #[.int .i64 0, .bool s, .slice x n c, .slice y m d]) ∧ Below w.heap.size w w' := by
  have h1 := (bx3_at w (.bool s) (.slice x n c) (.slice y m d) 70).alloc (.cells #[.int .i64 0, .bool false, .slice none 0 0, .slice none 0 0] 72)
  have h2 := ob4_new (w.alloc (.cells #[.bool s, .slice x n c, .slice y m d] 70)) 72
  rw [size_alloc1] at h2
  have h3 := below_alloc (below_alloc (Below.refl w.heap.size w) (.cells #[.bool s, .slice x n c, .slice y m d] 70)) (.cells #[.int .i64 0, .bool false, .slice none 0 0, .slice none 0 0] 72)
  go_enter Tryz.func59, Tryz.ntmps59
  go_upto_region 1 with fail
  generalize (w.alloc (.cells #[.bool s, .slice x n c, .slice y m d] 70)).alloc (.cells #[.int .i64 0, .bool false, .slice none 0 0, .slice none 0 0] 72) = w1 at *
  have HW := hid h3
  obtain ⟨z, x0, x1, x2⟩ := h1
  obtain ⟨hz, z0, z1, z2, z3, zf⟩ := h2
  clear h3
  go_wp2
  exact bodyPost_ret (v := .agg #[.int .i64 0, .bool s, .slice x n c, .slice y m d]) (by simp [results, Tryz.results59, go_sem, z0, z1, z2, z3]) rfl ⟨rfl, below_st4 HW.out (by omega)⟩
/-- What the reference's Read answers. -/
def FRd (t : ByteArray) (b : Nat → Nat) (w' : World) (i : Int) (s : Bool) (x : Option Addr) (n : Nat) (d : Nat → Int) (y : Option Addr) (m : Nat) (g : Nat → Int) (ok : Bool) : Prop :=
  t = ⟨#[45, 105, 110, 102]⟩ ∧ ok = true ∧ i = -1 ∧ (n + m ≤ 2000 ∧ Qn w' s x n d y m g 0) ∨ t = ⟨#[105, 110, 102]⟩ ∧ ok = true ∧ i = 1 ∧ (n + m ≤ 2000 ∧ Qn w' s x n d y m g 0) ∨ (t ≠ ⟨#[45, 105, 110, 102]⟩ ∧ t ≠ ⟨#[105, 110, 102]⟩) ∧ i = 0 ∧ QRead b t.size w' s x n d y m g ok
set_option maxRecDepth 100000 in
set_option maxHeartbeats 4000000 in
theorem xRead_c (t : ByteArray) (b : Nat → Nat) (w : World) (hs : Sb t t.size b) (hL : t.size ≤ 1000) :
    Calls Tryz.prog 71 #[.string t] w fun e w' => ∃ i s x n c d y m c' g ok, e = .returned (.tuple #[.agg #[.int .i64 i, .bool s, .slice x n c, .slice y m c'], .bool ok]) ∧ Below w.heap.size w w' ∧ FRd t b w' i s x n d y m g ok := by
  have h2 := ob4_new w 72
  have h3 := below_alloc (Below.refl w.heap.size w) (.cells #[.int .i64 0, .bool false, .slice none 0 0, .slice none 0 0] 72)
  have CR := hid (fun W => qRead_c t b W hs hL)
  clear hs hL
  by_cases hlo : t = ⟨#[45, 105, 110, 102]⟩
  · subst hlo
    clear CR
    go_enter Tryz.func71, Tryz.ntmps71
    go_wp2_with fail
    generalize w.alloc (.cells #[.int .i64 0, .bool false, .slice none 0 0, .slice none 0 0] 72) = w1 at *
    have OB := hid h2; have HW := hid h3
    clear h2 h3
    refine xLow_c.mono ?_
    rintro e w2 ⟨s2, x2, n2, c2, d2, y2, m2, e2, g2, rfl, hb, H2⟩
    have HB := hid (HW.out.trans (hb.mono HW.out.size)); have OB2 := hid (OB.out.below hb)
    have l1 := H2.out.1; have l2 := H2.out.2.1
    clear hb
    obtain ⟨hz, z0, z1, z2, z3, zf⟩ := OB2.out
    go_wp2
    exact bodyPost_ret (v := .tuple #[.agg #[.int .i64 (-1), .bool s2, .slice x2 n2 c2, .slice y2 m2 e2], .bool true]) (by simp [results, Tryz.results71, go_sem, z0, z1, z2, z3]) rfl ⟨-1, s2, x2, n2, c2, d2, y2, m2, e2, g2, true, rfl, below_st4 HB.out (Nat.le_refl _), .inl ⟨rfl, rfl, rfl, by omega, OB2.out.qn H2.out.2.2.qn⟩⟩
  have q1 : (t.toList == [45, 105, 110, 102]) = false := str_ne (by rw [ByteArray.toList_eq]) hlo
  by_cases hhi : t = ⟨#[105, 110, 102]⟩
  · subst hhi
    clear CR q1
    go_enter Tryz.func71, Tryz.ntmps71
    go_wp2_with fail
    generalize w.alloc (.cells #[.int .i64 0, .bool false, .slice none 0 0, .slice none 0 0] 72) = w1 at *
    have OB := hid h2; have HW := hid h3
    clear h2 h3
    refine xHigh_c.mono ?_
    rintro e w2 ⟨s2, x2, n2, c2, d2, y2, m2, e2, g2, rfl, hb, H2⟩
    have HB := hid (HW.out.trans (hb.mono HW.out.size)); have OB2 := hid (OB.out.below hb)
    have l1 := H2.out.1; have l2 := H2.out.2.1
    clear hb
    obtain ⟨hz, z0, z1, z2, z3, zf⟩ := OB2.out
    go_wp2
    exact bodyPost_ret (v := .tuple #[.agg #[.int .i64 1, .bool s2, .slice x2 n2 c2, .slice y2 m2 e2], .bool true]) (by simp [results, Tryz.results71, go_sem, z0, z1, z2, z3]) rfl ⟨1, s2, x2, n2, c2, d2, y2, m2, e2, g2, true, rfl, below_st4 HB.out (Nat.le_refl _), .inr (.inl ⟨rfl, rfl, rfl, by omega, OB2.out.qn H2.out.2.2.qn⟩)⟩
  have q2 : (t.toList == [105, 110, 102]) = false := str_ne (by rw [ByteArray.toList_eq]) hhi
  have HNE : Hid (t ≠ ⟨#[45, 105, 110, 102]⟩ ∧ t ≠ ⟨#[105, 110, 102]⟩) := ⟨hlo, hhi⟩
  clear hlo hhi
  go_enter Tryz.func71, Tryz.ntmps71
  go_wp2_with fail
  generalize w.alloc (.cells #[.int .i64 0, .bool false, .slice none 0 0, .slice none 0 0] 72) = w1 at *
  have OB := hid h2; have HW := hid h3
  clear h2 h3
  refine (CR.out _).mono ?_
  rintro e w2 ⟨s2, x2, n2, c2, d2, y2, m2, e2, g2, ok, rfl, hb, hr⟩
  have HB := hid (below_alloc (HW.out.trans (hb.mono HW.out.size)) (.cells #[.bool s2, .slice x2 n2 c2, .slice y2 m2 e2] 70)); have OB2 := hid ((OB.out.below hb).alloc (.cells #[.bool s2, .slice x2 n2 c2, .slice y2 m2 e2] 70)); have BX2 := hid (bx3_at w2 (.bool s2) (.slice x2 n2 c2) (.slice y2 m2 e2) 70)
  have R2 : Hid (QRead b t.size (w2.alloc (.cells #[.bool s2, .slice x2 n2 c2, .slice y2 m2 e2] 70)) s2 x2 n2 d2 y2 m2 g2 ok) := by
    rcases hr with ⟨k1, ⟨q, k2, k3⟩, k4⟩ | k1
    · exact .inl ⟨k1, ⟨q, k2, k3.alloc _⟩, k4⟩
    · exact .inr k1
  clear hb hr
  go_upto_region 7 with fail
  generalize w2.alloc (.cells #[.bool s2, .slice x2 n2 c2, .slice y2 m2 e2] 70) = w3 at *
  generalize w2.heap.size = b3 at *
  obtain ⟨zx, x0, x1, x2'⟩ := BX2.out
  go_wp2_with fail
  refine (xNumRaw_c).mono ?_
  rintro e w4 ⟨rfl, hb⟩
  have HB4 := hid (HB.out.trans (hb.mono HB.out.size)); have OB4 := hid (OB2.out.below hb)
  have R4 : Hid (QRead b t.size w4 s2 x2 n2 d2 y2 m2 g2 ok) := by
    rcases R2.out with ⟨k1, ⟨q, k2, k3⟩, k4⟩ | k1
    · exact .inl ⟨k1, ⟨q, k2, k3.below hb⟩, k4⟩
    · exact .inr k1
  clear hb zx x0 x1 x2'
  obtain ⟨hz, z0, z1, z2, z3, zf⟩ := OB4.out
  go_wp2
  refine bodyPost_ret (v := .tuple #[.agg #[.int .i64 0, .bool s2, .slice x2 n2 c2, .slice y2 m2 e2], .bool ok]) (by simp [results, Tryz.results71, go_sem, z0, z1, z2, z3]) rfl ⟨0, s2, x2, n2, c2, d2, y2, m2, e2, g2, ok, rfl, below_st4 HB4.out (Nat.le_refl _), .inr (.inr ⟨HNE.out, rfl, ?_⟩)⟩
  rcases R4.out with ⟨k1, ⟨q, k2, k3⟩, k4⟩ | k1
  · exact .inl ⟨k1, ⟨q, k2, OB4.out.qn k3⟩, k4⟩
  · exact .inr k1

set_option maxRecDepth 100000 in
set_option maxHeartbeats 4000000 in
theorem docReadX_g (t : ByteArray) (b : Nat → Nat) (w : World) (hs : Sb t t.size b) (hL : t.size ≤ 1000 ∨ 1048576 < t.size) :
    Calls Tryz.prog 33 #[.string t] w fun e w' => ERes t b w w' e := by
  have h2 := ob4_new w 26
  have h3 := below_alloc (Below.refl w.heap.size w) (.cells #[.int .i64 0, .bool false, .slice none 0 0, .slice none 0 0] 26)
  rcases hL with hL | hL
  rotate_left
  · have hd : decide ((1048576 : Int) < (t.size : Int)) = true := by simp; omega
    have HNE : Hid (t ≠ ⟨#[45, 105, 110, 102]⟩ ∧ t ≠ ⟨#[105, 110, 102]⟩) := ⟨fun h => by rw [h] at hL; exact absurd hL (by decide), fun h => by rw [h] at hL; exact absurd hL (by decide)⟩
    have HL := hid hL
    clear hs h2 h3 hL
    go_enter Tryz.func33, Tryz.ntmps33
    go_wp2
    exact bodyPost_ret (v := .tuple #[.agg #[.int .i64 0, .bool false, .slice none 0 0, .slice none 0 0], .int .i64 2]) (by simp [results, Tryz.results33, go_sem]) rfl ⟨0, false, none, 0, 0, fun _ => 0, none, 0, 0, fun _ => 0, 2, rfl, below_alloc (Below.refl _ _) _, .inr (.inr ⟨HNE.out, rfl, .inl ⟨HL.out, rfl, rfl, rfl, rfl⟩⟩)⟩
  have hd : decide ((1048576 : Int) < (t.size : Int)) = false := by simp; omega
  have CR := hid (fun W => xRead_c t b W hs hL)
  have HL := hid hL
  clear hs hL
  go_enter Tryz.func33, Tryz.ntmps33
  go_wp2_with fail
  generalize w.alloc (.cells #[.int .i64 0, .bool false, .slice none 0 0, .slice none 0 0] 26) = w1 at *
  have OB := hid h2; have HW := hid h3
  clear h2 h3
  refine (CR.out _).mono ?_
  rintro e w2 ⟨i2, s2, x2, n2, c2, d2, y2, m2, e2, g2, ok, rfl, hb, hr⟩
  have HB := hid (below_alloc (HW.out.trans (hb.mono HW.out.size)) (.cells #[.int .i64 i2, .bool s2, .slice x2 n2 c2, .slice y2 m2 e2] 72)); have OB2 := hid ((OB.out.below hb).alloc (.cells #[.int .i64 i2, .bool s2, .slice x2 n2 c2, .slice y2 m2 e2] 72)); have BX2 := hid (bx4_at w2 (.int .i64 i2) (.bool s2) (.slice x2 n2 c2) (.slice y2 m2 e2) 72)
  have hcase : (ok = true ∧ ∃ q, Qn w2 s2 x2 n2 d2 y2 m2 g2 q ∧ n2 + m2 ≤ 2000 ∧ (i2 = 0 ∨ (i2 = -1 ∨ i2 = 1) ∧ q = 0) ∧ (∀ (w' : World) (x : Option Addr) (n c : Nat) (f : Nat → Int) (y : Option Addr) (m d : Nat) (g : Nat → Int), Rn 2000 w' s2 x n c f y m d g q → ERd t b w' i2 s2 x n c f y m d g 0)) ∨ (ok = false ∧ i2 = 0 ∧ ∀ w' : World, ERd t b w' 0 false none 0 0 (fun _ => 0) none 0 0 (fun _ => 0) 11) := by
    rcases hr with ⟨h1, h2, h3, h4, h5⟩ | ⟨h1, h2, h3, h4, h5⟩ | ⟨h1, h2, ⟨h3, ⟨q, h4, h5⟩, h6⟩ | ⟨h3, h4⟩⟩
    · exact .inl ⟨h2, 0, h5, h4, .inr ⟨.inl h3, rfl⟩, fun w' x n c f y m d g hh => .inl ⟨h1, rfl, h3, hh⟩⟩
    · exact .inl ⟨h2, 0, h5, h4, .inr ⟨.inr h3, rfl⟩, fun w' x n c f y m d g hh => .inr (.inl ⟨h1, rfl, h3, hh⟩)⟩
    · exact .inl ⟨h3, q, h5, h6, .inl h2, fun w' x n c f y m d g hh => .inr (.inr ⟨h1, h2, .inr (.inl ⟨by have := HL.out; omega, ⟨q, h4, hh⟩, rfl⟩)⟩)⟩
    · exact .inr ⟨h3, h2, fun w' => .inr (.inr ⟨h1, rfl, .inr (.inr ⟨by have := HL.out; omega, h4, rfl, rfl, rfl, rfl⟩)⟩)⟩
  clear hb hr hd
  rcases hcase with ⟨rfl, q, hqn, hnm, hinf, hall⟩ | ⟨rfl, hi0, hall⟩
  · have FN : Hid (Fn (w2.alloc (.cells #[.int .i64 i2, .bool s2, .slice x2 n2 c2, .slice y2 m2 e2] 72)) i2 s2 x2 n2 d2 y2 m2 g2 q) := ⟨hqn.alloc _, hinf⟩
    have HALL := hid hall
    clear hqn hinf hall
    go_upto_region 4 with fail
    generalize w2.alloc (.cells #[.int .i64 i2, .bool s2, .slice x2 n2 c2, .slice y2 m2 e2] 72) = w3 at *
    generalize w2.heap.size = b3 at *
    obtain ⟨zx, x0, x1, x2', x3⟩ := BX2.out
    go_wp2_with fail
    refine (xTo_c FN.out (by omega) (by omega)).mono ?_
    rintro e w4 ⟨x4, n4, c4, f4, y4, m4, d4, g4, rfl, hb, H4⟩
    have HB4 := hid (HB.out.trans (hb.mono HB.out.size)); have OB4 := hid (OB2.out.below hb)
    clear hb zx x0 x1 x2' x3
    obtain ⟨hz, z0, z1, z2, z3, zf⟩ := OB4.out
    go_wp2
    exact bodyPost_ret (v := .tuple #[.agg #[.int .i64 i2, .bool s2, .slice x4 n4 c4, .slice y4 m4 d4], .int .i64 0]) (by simp [results, Tryz.results33, go_sem, z0, z1, z2, z3]) rfl ⟨i2, s2, x4, n4, c4, f4, y4, m4, d4, g4, 0, rfl, below_st4 HB4.out (Nat.le_refl _), HALL.out _ _ _ _ _ _ _ _ _ (OB4.out.rn (H4.out.rn.mono (by omega)))⟩
  · have HALL := hid hall
    clear hall hi0
    go_upto_region 4 with fail
    generalize w2.alloc (.cells #[.int .i64 i2, .bool s2, .slice x2 n2 c2, .slice y2 m2 e2] 72) = w3 at *
    generalize w2.heap.size = b3 at *
    obtain ⟨hz, z0, z1, z2, z3, zf⟩ := OB2.out
    go_wp2
    exact bodyPost_ret (v := .tuple #[.agg #[.int .i64 0, .bool false, .slice none 0 0, .slice none 0 0], .int .i64 11]) (by simp [results, Tryz.results33, go_sem, z0, z1, z2, z3]) rfl ⟨0, false, none, 0, 0, fun _ => 0, none, 0, 0, fun _ => 0, 11, rfl, below_st4 HB.out (Nat.le_refl _), HALL.out _⟩

set_option maxRecDepth 100000 in
set_option maxHeartbeats 4000000 in
theorem extTexts_c (i : Int) (s : Bool) (x : Option Addr) (n c : Nat) (f : Nat → Int) (y : Option Addr) (m d : Nat) (g : Nat → Int) (t : ByteArray) (w : World) (h : Rw w x n c f y m d g) (hsz : t.size ≤ 9223372036854775807) (htab : Tab w) :
    Calls Tryz.prog 5 #[.agg #[.int .i64 i, .bool s, .slice x n c, .slice y m d], .string t] w fun e w' => e = .returned (.bool true) ∧ Below w.heap.size w w' := by
  have HR := hid h; have HTab := hid htab
  have q1 := h.cx; have q2 := h.cy
  obtain ⟨b, hb⟩ : ∃ b, Sb t t.size b := ⟨_, sb_self t⟩
  have HSb := hid hb
  clear h htab hb
  go_enter Tryz.func5, Tryz.ntmps5
  go_wp2_with fail
  refine (eAwake_c _).mono ?_
  rintro e w1 ⟨rfl, hb⟩
  have B1 := hid (bx4_new hb); have HW1 : Hid (Below w.heap.size w w1) := (below_alloc (Below.refl w.heap.size w) _).trans (hb.mono (by simp))
  clear hb
  obtain ⟨z, x0, x1, x2, x3⟩ := B1.out
  go_wp2_with fail
  refine (elight_c (by omega) (by omega) (by omega) (by omega)).mono ?_
  rintro e w2 ⟨rfl, hb⟩
  have B2 := hid (B1.out.below hb); have HW2 := hid (HW1.out.trans (hb.mono HW1.out.size))
  clear hb B1 HW1 z x0 x1 x2 x3
  cases hl : (lg n m 20 && lg n m 20)
  · go_wp2
    go_ret
    exact ⟨rfl, HW2.out⟩
  have hl1 : n ≤ 20 ∧ m ≤ 20 := by
    simp only [lg, Bool.and_eq_true, decide_eq_true_eq] at hl
    exact hl.1
  obtain ⟨l1, l2⟩ := hl1
  clear hl
  by_cases h3 : 1000 < t.size ∧ t.size ≤ 1048576
  · have d2 : decide ((1000 : Int) < (t.size : Int)) = true := by simp; omega
    have d3 : decide ((t.size : Int) ≤ 1048576) = true := by simp; omega
    go_wp2
    go_ret
    exact ⟨rfl, HW2.out⟩
  have hL : t.size ≤ 1000 ∨ 1048576 < t.size := by omega
  have HL := hid hL
  have hcond : decide ((1000 : Int) < (t.size : Int)) = false ∨ (decide ((1000 : Int) < (t.size : Int)) = true ∧ decide ((t.size : Int) ≤ 1048576) = false) := by
    by_cases h4 : 1000 < t.size
    · exact .inr ⟨by simp; omega, by simp; omega⟩
    · exact .inl (by simp; omega)
  obtain ⟨p, hp⟩ : ∃ p, efB i s f n g m = p := ⟨_, rfl⟩
  obtain ⟨q, hq⟩ : ∃ q, p = true → En 100 w2 i s x n c f y m d g q := by
    cases p
    · exact ⟨0, fun h => by cases h⟩
    · obtain ⟨q, hq⟩ := (HR.out.below HW2.out).en hp (L := 100) (by omega) (by omega)
      exact ⟨q, fun _ => hq⟩
  have HP := hid hp; have HQ := hid hq
  clear hp hq hL h3
  have R2 := hid (HR.out.below HW2.out)
  obtain ⟨z, x0, x1, x2, x3⟩ := B2.out
  rcases hcond with d2 | ⟨d2, d3⟩
  all_goals
    go_wp2_with fail
    refine (xTwinT_c R2.out (by omega) (by omega)).mono ?_
    rintro e w3 ⟨x3', c3, y3, e3, rfl, hb, H3⟩
    have HB3 := hid hb
    clear hb z x0 x1 x2 x3
    have HW3 := hid (HW2.out.trans (HB3.out.mono HW2.out.size))
    go_wp2_with fail
    refine (eText_g (p := p) (q := q) H3.out.1 (by omega) (by omega) HP.out (fun h => (HQ.out h).moved H3.out.1) H3.out.2.1 H3.out.2.2 (HTab.out.below HW3.out HTab.out.lt)).mono ?_
    rintro e w4 ⟨rfl, hb⟩
    have HB4 := hid (HB3.out.trans (hb.mono HB3.out.size))
    clear hb H3 HB3 HW3
    obtain ⟨z, x0, x1, x2, x3⟩ := B2.out.below HB4.out
    go_wp2_with fail
    refine (docTextX_g (p := p) (q := q) (R2.out.below HB4.out) (by omega) (by omega) HP.out (fun h => (HQ.out h).below HB4.out)).mono ?_
    rintro e w5 ⟨rfl, hb⟩
    have HW5 := hid (HW2.out.trans ((HB4.out.trans (hb.mono HB4.out.size)).mono HW2.out.size))
    clear hb z x0 x1 x2 x3 HB4
    generalize petx p i s q = tx at *
    generalize pte p = te at *
    go_wp2_with fail
    refine (eRead_g t b _ HSb.out HL.out).mono ?_
    rintro e w6 ⟨i6, s6, x6, n6, c6, f6, y6, m6, e6, g6, er6, rfl, hb, hr6⟩
    have HW6 := hid (below_alloc (HW5.out.trans (hb.mono HW5.out.size)) (.cells #[.int .i64 i6, .bool s6, .slice x6 n6 c6, .slice y6 m6 e6] 26)); have R6 := hid (hr6.alloc (.cells #[.int .i64 i6, .bool s6, .slice x6 n6 c6, .slice y6 m6 e6] 26)); have B6 := hid (bx4_at w6 (.int .i64 i6) (.bool s6) (.slice x6 n6 c6) (.slice y6 m6 e6) 26)
    clear hb hr6
    go_wp2_with fail
    generalize w6.alloc (.cells #[.int .i64 i6, .bool s6, .slice x6 n6 c6, .slice y6 m6 e6] 26) = w7 at *
    generalize w6.heap.size = b6 at *
    refine (docReadX_g t b _ HSb.out HL.out).mono ?_
    rintro e w8 ⟨i8, s8, x8, n8, c8, f8, y8, m8, e8, g8, er8, rfl, hb, hr8⟩
    obtain ⟨hi8, her⟩ := erd_agree R6.out hr8
    subst hi8
    subst her
    have HW8 := hid (below_alloc (HW6.out.trans (hb.mono HW6.out.size)) (.cells #[.int .i64 i8, .bool s8, .slice x8 n8 c8, .slice y8 m8 e8] 26)); have R8 := hid ((R6.out.below hb).alloc (.cells #[.int .i64 i8, .bool s8, .slice x8 n8 c8, .slice y8 m8 e8] 26)); have S8 := hid (hr8.alloc (.cells #[.int .i64 i8, .bool s8, .slice x8 n8 c8, .slice y8 m8 e8] 26)); have B8 := hid ((B6.out.below hb).alloc (.cells #[.int .i64 i8, .bool s8, .slice x8 n8 c8, .slice y8 m8 e8] 26)); have B9 := hid (bx4_at w8 (.int .i64 i8) (.bool s8) (.slice x8 n8 c8) (.slice y8 m8 e8) 26)
    clear hb hr8 HW6 B6
    go_upto_region 11 with fail
    generalize w8.alloc (.cells #[.int .i64 i8, .bool s8, .slice x8 n8 c8, .slice y8 m8 e8] 26) = w9 at *
    generalize w8.heap.size = b9 at *
    obtain ⟨zp, p0, p1, p2, p3⟩ := B8.out
    obtain ⟨zr, r0, r1, r2, r3⟩ := B9.out
    go_wp2_with fail
    refine (lsame_c (fun W hW => erd_same (R8.out.below hW) (S8.out.below hW))).mono ?_
    rintro e w10 ⟨rfl, hb⟩
    have HW10 := hid (HW8.out.trans (hb.mono HW8.out.size))
    clear hb zp p0 p1 p2 p3 zr r0 r1 r2 r3
    go_wp2
    go_ret
    exact ⟨rfl, HW10.out⟩
end Go.Proofs.YtbindadjepfkcaaGreatDoor
namespace Go.Proofs.YtbindadjepfkcaaGreatDoor
open Go.RowKit

theorem three443_new {w w1 : World} {a0 a1 a2 a3 b0 b1 b2 b3 r0 r1 r2 : Value} {t u : TypeId} (hb : Below (((w.alloc (.cells #[a0, a1, a2, a3] t)).alloc (.cells #[b0, b1, b2, b3] t)).alloc (.cells #[r0, r1, r2] u)).heap.size (((w.alloc (.cells #[a0, a1, a2, a3] t)).alloc (.cells #[b0, b1, b2, b3] t)).alloc (.cells #[r0, r1, r2] u)) w1) :
    Bx4 w1 w.heap.size a0 a1 a2 a3 ∧ Bx4 w1 (w.heap.size + 1) b0 b1 b2 b3 ∧ Bx3 w1 (w.heap.size + 2) r0 r1 r2 ∧ Below w.heap.size w w1 := by
  have h1 := (((bx4_at w a0 a1 a2 a3 t).alloc (.cells #[b0, b1, b2, b3] t)).alloc (.cells #[r0, r1, r2] u)).below hb
  have h2 := ((bx4_at (w.alloc (.cells #[a0, a1, a2, a3] t)) b0 b1 b2 b3 t).alloc (.cells #[r0, r1, r2] u)).below hb
  have h3 := (bx3_at ((w.alloc (.cells #[a0, a1, a2, a3] t)).alloc (.cells #[b0, b1, b2, b3] t)) r0 r1 r2 u).below hb
  rw [size_alloc1] at h2
  rw [size_alloc1, size_alloc1] at h3
  exact ⟨h1, h2, h3, (below_alloc (below_alloc (below_alloc (Below.refl w.heap.size w) _) _) _).trans (hb.mono (below_alloc (below_alloc (below_alloc (Below.refl w.heap.size w) _) _) _).size)⟩
theorem Rn.wr {L w s x n c f y m d g q} (h : Rn L w s x n c f y m d g q) : Rw w x n c f y m d g := h.rw
theorem Wb.oxt {w B i s x n c y m d u0 u1 u2 u3 k P i' s' x' n' c' f' y' m' d' g' er} (h : Wb w B i s x n c y m d) (hx : OX k P w i' s' x' n' c' f' y' m' d' g' er) : OX k P ((((w.setCell ⟨B, 0, none⟩ u0).setCell ⟨B, 1, none⟩ u1).setCell ⟨B, 2, none⟩ u2).setCell ⟨B, 3, none⟩ u3) i' s' x' n' c' f' y' m' d' g' er := by
  rcases hx with ⟨h0, h1 | ⟨h1, q, h3, h4⟩⟩
  · exact ⟨h0, .inl h1⟩
  · exact ⟨h0, .inr ⟨h1, q, h3, ⟨⟨⟨h.rd h4.rn.num.rd, h4.rn.num.lm, h4.rn.num.wf, h4.rn.num.cap, h4.rn.num.nil, h4.rn.num.val⟩, ⟨h.rd h4.rn.den.rd, h4.rn.den.lm, h4.rn.den.wf, h4.rn.den.cap, h4.rn.den.nil, h4.rn.den.val⟩, h4.rn.ln, h4.rn.ld⟩, h4.inf⟩⟩⟩
theorem eord_three {c i j : Int} {a b : Rat} (h : EOrd c i a j b) : c = -1 ∨ c = 0 ∨ c = 1 := by
  rcases h with ⟨h, _⟩ | ⟨h, _⟩ | ⟨h, _⟩ <;> omega
theorem rn_sg {L w s x n c f y m d g q} (h : Rn L w s x n c f y m d g q) : q.num = sg s q.num.natAbs := by
  have h1 := h.num.mag.val
  have h2 := h.num.val
  have h3 := vf_nonneg h.num.lm
  unfold wv at h1 h2
  unfold sg
  cases s <;> simp at * <;> omega
theorem rn_pos {L w x n c f y m d g q} (h : Rn L w false x n c f y m d g q) (hn : n ≠ 0) : 0 < q := by
  have h1 := rn_sg h
  have h2 : q.num ≠ 0 := fun e => hn ((h.q_zero).1 (by rw [Rat.num_eq_zero] at e; exact e))
  have h3 : 0 < q.num := by simp [sg] at h1; omega
  have h4 : 0 ≤ q := Rat.num_nonneg.1 (by omega)
  have h5 : q ≠ 0 := fun e => h2 (by rw [e]; rfl)
  grind
theorem rn_neg {L w x n c f y m d g q} (h : Rn L w true x n c f y m d g q) (hn : n ≠ 0) : q < 0 := by
  have h1 := rn_sg h
  have h2 : q.num ≠ 0 := fun e => hn ((h.q_zero).1 (by rw [Rat.num_eq_zero] at e; exact e))
  have h3 : q.num < 0 := by simp [sg] at h1; omega
  have h4 : ¬ 0 ≤ q := fun e => by have := Rat.num_nonneg.2 e; omega
  grind
theorem pw_tenN (n : Nat) : pw n ≤ ((10 ^ (20 * n) : Nat) : Int) := by
  induction n with
  | zero => simp [pw]
  | succ n ih =>
    have e : (10 ^ (20 * (n + 1)) : Nat) = 100000000000000000000 * 10 ^ (20 * n) := by rw [Nat.mul_add, Nat.pow_add, Nat.mul_comm]
    rw [e]
    have := pw_pos n
    simp only [pw]
    generalize (10 ^ (20 * n) : Nat) = T at *
    omega
theorem dec_lo {V : Nat} (h : (V : Int) < pw 20) : (dec V).size ≤ 400 := by
  have h1 := pw_tenN 20
  have h2 : V < 10 ^ (20 * 20) := by
    generalize (10 ^ (20 * 20) : Nat) = T at *
    omega
  have h3 := nDigits_le h2 (by omega)
  have h4 : (dec V).size = Lib.nDigits V := (sb_dec V).1
  omega
theorem wtx_lo {s : Bool} {V : Nat} (h : (V : Int) < pw 20) : (wtx s V).size ≤ 401 := by
  have h1 := dec_lo h
  have h2 : (⟨#[45]⟩ : ByteArray).size = 1 := rfl
  unfold wtx
  cases s
  · simp; omega
  · simp only [if_true, ByteArray.size_append]; omega
theorem qtx_lo {s : Bool} {q : Rat} (h : Lo 20 q) : (qtx s q).size ≤ 1000 := by
  have h1 := wtx_lo (s := s) h.1
  have h2 := dec_lo h.2
  have h3 : (⟨#[47]⟩ : ByteArray).size = 1 := rfl
  unfold qtx
  split
  · omega
  · simp only [ByteArray.size_append]; omega
def bl4 : Nat → Nat | 0 => 45 | 1 => 105 | 2 => 110 | _ => 102
def bl3 : Nat → Nat | 0 => 105 | 1 => 110 | _ => 102
theorem sb_lo : Sb ⟨#[45, 105, 110, 102]⟩ 4 bl4 := ⟨rfl, fun k hk => by
  have hk4 : k < 4 := hk
  match k, hk4 with
  | 0, _ => rfl
  | 1, _ => rfl
  | 2, _ => rfl
  | 3, _ => rfl⟩
theorem sb_hi : Sb ⟨#[105, 110, 102]⟩ 3 bl3 := ⟨rfl, fun k hk => by
  have hk4 : k < 3 := hk
  match k, hk4 with
  | 0, _ => rfl
  | 1, _ => rfl
  | 2, _ => rfl⟩
theorem rt_lo {q : Rat} : ¬ RT bl4 4 q := by
  rintro (⟨i, u, ⟨h1, h2, _⟩, _⟩ | ⟨u, _, h, _⟩)
  · match i, h1, h2 with
    | 0, _, h => exact absurd h (by decide)
    | 1, _, h => exact absurd h (by decide)
    | 2, _, h => exact absurd h (by decide)
    | 3, _, h => exact absurd h (by decide)
  · rcases h with ⟨_, ⟨h, _⟩, _⟩ | ⟨h, _⟩
    · have h3 : bsh bl4 1 0 ≤ 57 := (h.1 0 (by omega)).2
      exact absurd h3 (by decide)
    · exact h ⟨by omega, rfl⟩
theorem rt_hi {q : Rat} : ¬ RT bl3 3 q := by
  rintro (⟨i, u, ⟨h1, h2, _⟩, _⟩ | ⟨u, _, h, _⟩)
  · match i, h1, h2 with
    | 0, _, h => exact absurd h (by decide)
    | 1, _, h => exact absurd h (by decide)
    | 2, _, h => exact absurd h (by decide)
  · rcases h with ⟨⟨_, h⟩, _⟩ | ⟨_, h, _⟩
    · exact absurd h (by decide)
    · have h3 : bl3 0 ≤ 57 := (h.1 0 (by omega)).2
      exact absurd h3 (by decide)
/-- The text of a bound in form is read as the bound. -/
theorem etx_back {w : World} {L : Nat} {i : Int} {s : Bool} {x : Option Addr} {n c : Nat} {f : Nat → Int} {y : Option Addr} {m d : Nat} {g : Nat → Int} {q : Rat} (h : En L w i s x n c f y m d g q) (hl : Lo 20 q) : ∃ b, Sb (etx i s q) (etx i s q).size b ∧ (etx i s q).size ≤ 1000 ∧ ∀ (w' : World) (i' : Int) (s' : Bool) (x' : Option Addr) (n' c' : Nat) (f' : Nat → Int) (y' : Option Addr) (m' d' : Nat) (g' : Nat → Int) (er : Int), ERd (etx i s q) b w' i' s' x' n' c' f' y' m' d' g' er → er = 0 ∧ i = i' ∧ Rn 2000 w' s' x' n' c' f' y' m' d' g' q := by
  rcases h.inf with h0 | ⟨h0 | h0, hq⟩
  · subst h0
    have e : etx 0 s q = qtx s q := by simp [etx]
    rw [e]
    have hp : s = true → 0 < q.num.natAbs := fun hs => by
      have h1 := ((wfB_iff _ _ _).1 h.rn.num.wf).2 hs
      have h2 := h.rn.num_zero
      omega
    obtain ⟨M, b, hsb, hrt⟩ := rt_qtx (rn_sg h.rn) hp
    have hM := hsb.1
    have hsz := qtx_lo (s := s) hl
    subst hM
    refine ⟨b, hsb, hsz, fun _ _ _ _ _ _ _ _ _ _ _ _ k => ?_⟩
    rcases k with ⟨k1, _⟩ | ⟨k1, _⟩ | ⟨_, k2, k3⟩
    · rw [k1] at hsb hrt
      exact absurd (hrt.congr (hsb.same sb_lo)) rt_lo
    · rw [k1] at hsb hrt
      exact absurd (hrt.congr (hsb.same sb_hi)) rt_hi
    · rcases k3 with ⟨k4, _⟩ | ⟨_, ⟨q', k5, k6⟩, k7⟩ | ⟨_, k5, _⟩
      · omega
      · rw [hrt.uniq k5]; exact ⟨k7, k2.symm, k6⟩
      · exact absurd hrt (k5 q)
  · subst h0
    have e : etx (-1) s q = ⟨#[45, 105, 110, 102]⟩ := by simp [etx]
    rw [e, hq]
    refine ⟨bl4, sb_lo, by decide, fun _ _ _ _ _ _ _ _ _ _ _ _ k => ?_⟩
    rcases k with ⟨_, k2, k3, k4⟩ | ⟨k1, _⟩ | ⟨⟨k1, _⟩, _⟩
    · exact ⟨k2, k3.symm, k4⟩
    · exact absurd k1 lo_hi
    · exact absurd rfl k1
  · subst h0
    have e : etx 1 s q = ⟨#[105, 110, 102]⟩ := by simp [etx]
    rw [e, hq]
    refine ⟨bl3, sb_hi, by decide, fun _ _ _ _ _ _ _ _ _ _ _ _ k => ?_⟩
    rcases k with ⟨k1, _⟩ | ⟨_, k2, k3, k4⟩ | ⟨⟨_, k1⟩, _⟩
    · exact absurd k1.symm lo_hi
    · exact ⟨k2, k3.symm, k4⟩
    · exact absurd rfl k1

set_option maxRecDepth 100000 in
set_option maxHeartbeats 16000000 in
theorem extTurns_c (ia : Int) (sa : Bool) (xa : Option Addr) (na ca : Nat) (fa : Nat → Int) (ya : Option Addr) (ma da : Nat) (ga : Nat → Int) (ib : Int) (sb : Bool) (xb : Option Addr) (nb cb : Nat) (fb : Nat → Int) (yb : Option Addr) (mb db : Nat) (gb : Nat → Int) (sr : Bool) (xr : Option Addr) (nr cr : Nat) (fr : Nat → Int) (yr : Option Addr) (mr dr : Nat) (gr : Nat → Int) (w : World) (ha : Rw w xa na ca fa ya ma da ga) (hb : Rw w xb nb cb fb yb mb db gb) (hr : Rw w xr nr cr fr yr mr dr gr) (htab : Tab w) :
    Calls Tryz.prog 6 #[.agg #[.int .i64 ia, .bool sa, .slice xa na ca, .slice ya ma da], .agg #[.int .i64 ib, .bool sb, .slice xb nb cb, .slice yb mb db], .agg #[.bool sr, .slice xr nr cr, .slice yr mr dr]] w fun e w' => e = .returned (.bool true) ∧ Below w.heap.size w w' := by
  have HA := hid ha; have HB := hid hb; have HR := hid hr; have HTab := hid htab
  have q1 := ha.cx; have q2 := ha.cy; have q3 := hb.cx; have q4 := hb.cy; have q5 := hr.cx; have q6 := hr.cy
  clear ha hb hr htab
  go_enter Tryz.func6, Tryz.ntmps6
  go_wp2_with fail
  refine (eAwake_c _).mono ?_
  rintro e w1 ⟨rfl, hbel⟩
  obtain ⟨ba, bb, br, hw⟩ := three443_new hbel
  have BA := hid ba; have BB := hid bb; have BR := hid br; have HW := hid hw
  clear hbel ba bb br hw
  obtain ⟨z0, z1, z2, z3, z4⟩ := BA.out
  obtain ⟨t0, t1, t2, t3, t4⟩ := BB.out
  go_wp2_with fail
  refine (elight_c (by omega) (by omega) (by omega) (by omega)).mono ?_
  rintro e w2 ⟨rfl, hb⟩
  have BA2 := hid (BA.out.below hb); have BB2 := hid (BB.out.below hb); have BR2 := hid (BR.out.below hb); have HW2 := hid (HW.out.trans (hb.mono HW.out.size))
  clear hb BA BB BR HW z0 z1 z2 z3 z4 t0 t1 t2 t3 t4
  have BA := BA2; have BB := BB2; have BR := BR2; have HW := HW2
  clear BA2 BB2 BR2 HW2
  cases hl : (lg na ma 20 && lg nb mb 20)
  · go_wp2
    go_ret
    exact ⟨rfl, HW.out⟩
  have hl1 : (na ≤ 20 ∧ ma ≤ 20) ∧ (nb ≤ 20 ∧ mb ≤ 20) := by
    simp only [lg, Bool.and_eq_true, decide_eq_true_eq] at hl
    exact hl
  obtain ⟨⟨l1, l2⟩, l3, l4⟩ := hl1
  clear hl
  obtain ⟨z0, z1, z2, z3⟩ := BR.out
  go_wp2_with fail
  refine (rLight_c sr xr yr nr cr mr dr _ (by omega) (by omega)).mono ?_
  rintro e w3 ⟨rfl, hb⟩
  have BA2 := hid (BA.out.below hb); have BB2 := hid (BB.out.below hb); have BR2 := hid (BR.out.below hb); have HW2 := hid (HW.out.trans (hb.mono HW.out.size))
  clear hb BA BB BR HW z0 z1 z2 z3
  have BA := BA2; have BB := BB2; have BR := BR2; have HW := HW2
  clear BA2 BB2 BR2 HW2
  cases hl : lg nr mr 20
  · go_wp2
    go_ret
    exact ⟨rfl, HW.out⟩
  have hl1 : nr ≤ 20 ∧ mr ≤ 20 := by
    simp only [lg, Bool.and_eq_true, decide_eq_true_eq] at hl
    exact hl
  obtain ⟨l5, l6⟩ := hl1
  clear hl
  obtain ⟨z0, z1, z2, z3, z4⟩ := BA.out
  go_wp2_with fail
  refine (eForm_c (HA.out.below HW.out) (by omega) (by omega)).mono ?_
  rintro e w4 ⟨rfl, hb⟩
  have BA2 := hid (BA.out.below hb); have BB2 := hid (BB.out.below hb); have BR2 := hid (BR.out.below hb); have HW2 := hid (HW.out.trans (hb.mono HW.out.size))
  clear hb BA BB BR HW z0 z1 z2 z3 z4
  have BA := BA2; have BB := BB2; have BR := BR2; have HW := HW2
  clear BA2 BB2 BR2 HW2
  cases hfa : efB ia sa fa na ga ma
  · go_wp2
    go_ret
    exact ⟨rfl, HW.out⟩
  obtain ⟨z0, z1, z2, z3, z4⟩ := BB.out
  go_wp2_with fail
  refine (eForm_c (HB.out.below HW.out) (by omega) (by omega)).mono ?_
  rintro e w5 ⟨rfl, hb⟩
  have BA2 := hid (BA.out.below hb); have BB2 := hid (BB.out.below hb); have BR2 := hid (BR.out.below hb); have HW2 := hid (HW.out.trans (hb.mono HW.out.size))
  clear hb BA BB BR HW z0 z1 z2 z3 z4
  have BA := BA2; have BB := BB2; have BR := BR2; have HW := HW2
  clear BA2 BB2 BR2 HW2
  cases hfb : efB ib sb fb nb gb mb
  · go_wp2
    go_ret
    exact ⟨rfl, HW.out⟩
  obtain ⟨z0, z1, z2, z3⟩ := BR.out
  go_wp2_with fail
  refine (qForm_c (HR.out.below HW.out) (by omega) (by omega)).mono ?_
  rintro e w6 ⟨rfl, hb⟩
  have BA2 := hid (BA.out.below hb); have BB2 := hid (BB.out.below hb); have BR2 := hid (BR.out.below hb); have HW2 := hid (HW.out.trans (hb.mono HW.out.size))
  clear hb BA BB BR HW z0 z1 z2 z3
  have BA := BA2; have BB := BB2; have BR := BR2; have HW := HW2
  clear BA2 BB2 BR2 HW2
  cases hfr : rfB sr fr nr gr mr
  · go_wp2
    go_ret
    exact ⟨rfl, HW.out⟩
  obtain ⟨z0, z1, z2, z3⟩ := BR.out
  by_cases h0 : nr = 0
  · have h0i : ((nr : Int) == 0) = true := by simp; omega
    go_wp2
    go_ret
    exact ⟨rfl, HW.out⟩
  have h0i : ((nr : Int) == 0) = false := by simp; omega
  clear z0 z1 z2 z3
  obtain ⟨a, ha⟩ := (HA.out.below HW.out).en hfa (L := 100) (by omega) (by omega)
  obtain ⟨b, hb⟩ := (HB.out.below HW.out).en hfb (L := 100) (by omega) (by omega)
  obtain ⟨r, hr⟩ := (HR.out.below HW.out).rn hfr (L := 100) (by omega) (by omega)
  have LA := hid (ha.rn.lo l1 l2); have LB := hid (hb.rn.lo l3 l4); have LR := hid (hr.lo l5 l6)
  have FA := hid hfa; have FB := hid hfb; have FR := hid hfr
  have EA := hid ha; have EB := hid hb; have ER := hid hr
  have hk : Hid (ks (true && true) nr = 0) := hid (by simp [ks, h0])
  clear ha hb hr hfa hfb hfr
  have HB6 : Hid (Below w6.heap.size w6 w6) := Below.refl _ _
  -- Cmp(a, b)
  obtain ⟨za, a0, a1, a2, a3⟩ := BA.out.below HB6.out
  obtain ⟨zb, b0, b1, b2, b3⟩ := BB.out.below HB6.out
  obtain ⟨zr, r0, r1, r2⟩ := BR.out.below HB6.out
  go_wp2_with fail
  refine (eCmp_g EA.out.rn.rw EB.out.rn.rw (by omega) (by omega) (by omega) (by omega) FA.out FB.out (fun _ => EA.out) (fun _ => EB.out)).mono ?_
  rintro e w7 ⟨cc, er, rfl, hb, H7⟩
  obtain ⟨he, hO⟩ := OC.get H7.out
  subst he
  have OC1 := hid hO; have HB7 := hid hb
  clear H7 hO hb HB6 za a0 a1 a2 a3 zb b0 b1 b2 b3 zr r0 r1 r2
  obtain ⟨za, a0, a1, a2, a3⟩ := BA.out.below HB7.out
  obtain ⟨zb, b0, b1, b2, b3⟩ := BB.out.below HB7.out
  obtain ⟨zr, r0, r1, r2⟩ := BR.out.below HB7.out
  go_wp2_with fail
  refine (eScale_g (EA.out.rn.rw.below HB7.out) (ER.out.rw.below HB7.out) (by omega) (by omega) (by omega) (by omega) FA.out FR.out (fun _ => EA.out.below HB7.out) (fun _ => ER.out.below HB7.out)).mono ?_
  rintro e w8 ⟨i1, s1, x1, n1, c1, f1, y1, m1, d1, g1, e1, rfl, hb, HH⟩
  have hh := HH.out
  rw [hk.out] at hh
  obtain ⟨he, q1, hP, hE⟩ := hh.get
  subst he
  have P1 := hid hP
  have E1 := hid (((hE.cut (lo_scale hP LA.out LR.out)).mono (L' := 100) (by omega)).alloc (.cells #[.int .i64 i1, .bool s1, .slice x1 n1 c1, .slice y1 m1 d1] 26))
  have l1 := E1.out.rn.ln; have k1 := E1.out.rn.ld
  have X1 := hid (wb_at w8 i1 s1 x1 n1 c1 y1 m1 d1 26)
  have hl1 : w6.heap.size ≤ w8.heap.size := (HB7.out.trans (hb.mono HB7.out.size)).size
  have HBn := hid (below_alloc (HB7.out.trans (hb.mono HB7.out.size)) (.cells #[.int .i64 i1, .bool s1, .slice x1 n1 c1, .slice y1 m1 d1] 26))
  clear hb HH hh hP hE HB7 za a0 a1 a2 a3 zb b0 b1 b2 b3 zr r0 r1 r2
  have HB9 := HBn; clear HBn
  go_upto_region 7 with fail
  generalize w8.alloc (.cells #[.int .i64 i1, .bool s1, .slice x1 n1 c1, .slice y1 m1 d1] 26) = w9 at *
  generalize w8.heap.size = B1 at *
  obtain ⟨za, a0, a1, a2, a3⟩ := BA.out.below HB9.out
  obtain ⟨zb, b0, b1, b2, b3⟩ := BB.out.below HB9.out
  obtain ⟨zr, r0, r1, r2⟩ := BR.out.below HB9.out
  go_wp2_with fail
  refine (eScale_g (EB.out.rn.rw.below HB9.out) (ER.out.rw.below HB9.out) (by omega) (by omega) (by omega) (by omega) FB.out FR.out (fun _ => EB.out.below HB9.out) (fun _ => ER.out.below HB9.out)).mono ?_
  rintro e w10 ⟨i2, s2, x2, n2, c2, f2, y2, m2, d2, g2, e2, rfl, hb, HH⟩
  have hh := HH.out
  rw [hk.out] at hh
  obtain ⟨he, q2, hP, hE⟩ := hh.get
  subst he
  have P2 := hid hP
  have E2 := hid (((hE.cut (lo_scale hP LB.out LR.out)).mono (L' := 100) (by omega)).alloc (.cells #[.int .i64 i2, .bool s2, .slice x2 n2 c2, .slice y2 m2 d2] 26))
  have l2 := E2.out.rn.ln; have k2 := E2.out.rn.ld
  have X2 := hid (wb_at w10 i2 s2 x2 n2 c2 y2 m2 d2 26)
  have hl2 : w6.heap.size ≤ w10.heap.size := (HB9.out.trans (hb.mono HB9.out.size)).size
  have HBn := hid (below_alloc (HB9.out.trans (hb.mono HB9.out.size)) (.cells #[.int .i64 i2, .bool s2, .slice x2 n2 c2, .slice y2 m2 d2] 26))
  have X1n := hid ((X1.out.below hb).alloc (.cells #[.int .i64 i2, .bool s2, .slice x2 n2 c2, .slice y2 m2 d2] 26)); have E1n := hid ((E1.out.below hb).alloc (.cells #[.int .i64 i2, .bool s2, .slice x2 n2 c2, .slice y2 m2 d2] 26))
  clear hb HH hh hP hE HB9 za a0 a1 a2 a3 zb b0 b1 b2 b3 zr r0 r1 r2
  clear X1 E1; have X1 := X1n; have E1 := E1n; clear X1n E1n
  have HB11 := HBn; clear HBn
  go_upto_region 8 with fail
  generalize w10.alloc (.cells #[.int .i64 i2, .bool s2, .slice x2 n2 c2, .slice y2 m2 d2] 26) = w11 at *
  generalize w10.heap.size = B2 at *
  obtain ⟨zp, pp0, pp1, pp2, pp3⟩ := X1.out.bx
  obtain ⟨zq, qq0, qq1, qq2, qq3⟩ := X2.out.bx
  go_wp2_with fail
  refine (eCmp_g E1.out.rn.rw E2.out.rn.rw (by omega) (by omega) (by omega) (by omega) E1.out.ef E2.out.ef (fun _ => E1.out) (fun _ => E2.out)).mono ?_
  rintro e w12 ⟨dd, er, rfl, hb, HH⟩
  obtain ⟨he, hO⟩ := OC.get HH.out
  subst he
  have Odd := hid hO
  have HBn := hid (HB11.out.trans (hb.mono HB11.out.size))
  clear hb HH hO HB11 zp pp0 pp1 pp2 pp3 zq qq0 qq1 qq2 qq3 X1 X2 E1 E2
  have HB12 := HBn; clear HBn
  obtain ⟨za, a0, a1, a2, a3⟩ := BA.out.below HB12.out
  obtain ⟨zb, b0, b1, b2, b3⟩ := BB.out.below HB12.out
  obtain ⟨zr, r0, r1, r2⟩ := BR.out.below HB12.out
  go_wp2_with fail
  refine (eShift_g (EA.out.rn.rw.below HB12.out) (ER.out.rw.below HB12.out) (by omega) (by omega) (by omega) (by omega) FA.out FR.out (fun _ => EA.out.below HB12.out) (fun _ => ER.out.below HB12.out)).mono ?_
  rintro e w13 ⟨i3, s3, x3, n3, c3, f3, y3, m3, d3, g3, e3, rfl, hb, HH⟩
  have hh := HH.out
  skip
  obtain ⟨he, q3, hP, hE⟩ := hh.get
  subst he
  have P3 := hid hP
  have E3 := hid (((hE.cut (lo_shift hP LA.out LR.out)).mono (L' := 100) (by omega)).alloc (.cells #[.int .i64 i3, .bool s3, .slice x3 n3 c3, .slice y3 m3 d3] 26))
  have l3 := E3.out.rn.ln; have k3 := E3.out.rn.ld
  have X3 := hid (wb_at w13 i3 s3 x3 n3 c3 y3 m3 d3 26)
  have hl3 : w6.heap.size ≤ w13.heap.size := (HB12.out.trans (hb.mono HB12.out.size)).size
  have HBn := hid (below_alloc (HB12.out.trans (hb.mono HB12.out.size)) (.cells #[.int .i64 i3, .bool s3, .slice x3 n3 c3, .slice y3 m3 d3] 26))
  clear hb HH hh hP hE HB12 za a0 a1 a2 a3 zb b0 b1 b2 b3 zr r0 r1 r2
  have HB14 := HBn; clear HBn
  go_upto_region 10 with fail
  generalize w13.alloc (.cells #[.int .i64 i3, .bool s3, .slice x3 n3 c3, .slice y3 m3 d3] 26) = w14 at *
  generalize w13.heap.size = B3 at *
  obtain ⟨za, a0, a1, a2, a3⟩ := BA.out.below HB14.out
  obtain ⟨zb, b0, b1, b2, b3⟩ := BB.out.below HB14.out
  obtain ⟨zr, r0, r1, r2⟩ := BR.out.below HB14.out
  go_wp2_with fail
  refine (eShift_g (EB.out.rn.rw.below HB14.out) (ER.out.rw.below HB14.out) (by omega) (by omega) (by omega) (by omega) FB.out FR.out (fun _ => EB.out.below HB14.out) (fun _ => ER.out.below HB14.out)).mono ?_
  rintro e w15 ⟨i4, s4, x4, n4, c4, f4, y4, m4, d4, g4, e4, rfl, hb, HH⟩
  have hh := HH.out
  skip
  obtain ⟨he, q4, hP, hE⟩ := hh.get
  subst he
  have P4 := hid hP
  have E4 := hid (((hE.cut (lo_shift hP LB.out LR.out)).mono (L' := 100) (by omega)).alloc (.cells #[.int .i64 i4, .bool s4, .slice x4 n4 c4, .slice y4 m4 d4] 26))
  have l4 := E4.out.rn.ln; have k4 := E4.out.rn.ld
  have X4 := hid (wb_at w15 i4 s4 x4 n4 c4 y4 m4 d4 26)
  have hl4 : w6.heap.size ≤ w15.heap.size := (HB14.out.trans (hb.mono HB14.out.size)).size
  have HBn := hid (below_alloc (HB14.out.trans (hb.mono HB14.out.size)) (.cells #[.int .i64 i4, .bool s4, .slice x4 n4 c4, .slice y4 m4 d4] 26))
  have X3n := hid ((X3.out.below hb).alloc (.cells #[.int .i64 i4, .bool s4, .slice x4 n4 c4, .slice y4 m4 d4] 26)); have E3n := hid ((E3.out.below hb).alloc (.cells #[.int .i64 i4, .bool s4, .slice x4 n4 c4, .slice y4 m4 d4] 26))
  clear hb HH hh hP hE HB14 za a0 a1 a2 a3 zb b0 b1 b2 b3 zr r0 r1 r2
  clear X3 E3; have X3 := X3n; have E3 := E3n; clear X3n E3n
  have HB16 := HBn; clear HBn
  go_upto_region 11 with fail
  generalize w15.alloc (.cells #[.int .i64 i4, .bool s4, .slice x4 n4 c4, .slice y4 m4 d4] 26) = w16 at *
  generalize w15.heap.size = B4 at *
  obtain ⟨zp, pp0, pp1, pp2, pp3⟩ := X3.out.bx
  obtain ⟨zq, qq0, qq1, qq2, qq3⟩ := X4.out.bx
  go_wp2_with fail
  refine (eCmp_g E3.out.rn.rw E4.out.rn.rw (by omega) (by omega) (by omega) (by omega) E3.out.ef E4.out.ef (fun _ => E3.out) (fun _ => E4.out)).mono ?_
  rintro e w17 ⟨ff, er, rfl, hb, HH⟩
  obtain ⟨he, hO⟩ := OC.get HH.out
  subst he
  have Off := hid hO
  have HBn := hid (HB16.out.trans (hb.mono HB16.out.size))
  clear hb HH hO HB16 zp pp0 pp1 pp2 pp3 zq qq0 qq1 qq2 qq3 X3 X4 E3 E4
  have HB17 := HBn; clear HBn
  have hff : cc = ff := ((eord_shift P3.out P4.out OC1.out).one Off.out).symm
  subst hff
  obtain ⟨za, a0, a1, a2, a3⟩ := BA.out.below HB17.out
  obtain ⟨zb, b0, b1, b2, b3⟩ := BB.out.below HB17.out
  obtain ⟨zr, r0, r1, r2⟩ := BR.out.below HB17.out
  go_wp2_with fail
  refine (eNeg_g (EA.out.rn.rw.below HB17.out) (by omega) (by omega) FA.out (fun _ => EA.out.below HB17.out)).mono ?_
  rintro e w18 ⟨i5, s5, x5, n5, c5, f5, y5, m5, d5, g5, e5, rfl, hb, HH⟩
  have hh := HH.out
  skip
  obtain ⟨he, q5, hP, hE⟩ := hh.get
  subst he
  have P5 := hid hP
  have E5 := hid (((hE.cut ((lo_ng hP LA.out).mono (by omega : 20 ≤ 100))).mono (L' := 100) (by omega)).alloc (.cells #[.int .i64 i5, .bool s5, .slice x5 n5 c5, .slice y5 m5 d5] 26))
  have l5 := E5.out.rn.ln; have k5 := E5.out.rn.ld
  have X5 := hid (wb_at w18 i5 s5 x5 n5 c5 y5 m5 d5 26)
  have hl5 : w6.heap.size ≤ w18.heap.size := (HB17.out.trans (hb.mono HB17.out.size)).size
  have HBn := hid (below_alloc (HB17.out.trans (hb.mono HB17.out.size)) (.cells #[.int .i64 i5, .bool s5, .slice x5 n5 c5, .slice y5 m5 d5] 26))
  clear hb HH hh hP hE HB17 za a0 a1 a2 a3 zb b0 b1 b2 b3 zr r0 r1 r2
  have HB19 := HBn; clear HBn
  go_upto_region 13 with fail
  generalize w18.alloc (.cells #[.int .i64 i5, .bool s5, .slice x5 n5 c5, .slice y5 m5 d5] 26) = w19 at *
  generalize w18.heap.size = B5 at *
  obtain ⟨⟨zp, pp0, pp1, pp2, pp3⟩, pf⟩ := X5.out
  go_wp2_with fail
  refine (eNeg_g E5.out.rn.rw (by omega) (by omega) E5.out.ef (fun _ => E5.out)).mono ?_
  rintro e w20 ⟨i6, s6, x6, n6, c6, f6, y6, m6, d6, g6, e6, rfl, hb, HH⟩
  have X5n := hid (X5.out.below hb)
  clear zp pp0 pp1 pp2 pp3 pf X5
  obtain ⟨⟨zp, pp0, pp1, pp2, pp3⟩, pf⟩ := X5n.out
  have hh := HH.out
  have he := hh.get.1
  subst he
  go_upto_region 14 with fail
  have Y6 := hid (X5n.out.put i6 s6 x6 n6 c6 y6 m6 d6); have O6 := hid (X5n.out.oxt (u0 := .int .i64 i6) (u1 := .bool s6) (u2 := .slice x6 n6 c6) (u3 := .slice y6 m6 d6) hh)
  have HBn := hid (below_st4 (u0 := .int .i64 i6) (u1 := .bool s6) (u2 := .slice x6 n6 c6) (u3 := .slice y6 m6 d6) (HB19.out.trans (hb.mono HB19.out.size)) hl5)
  clear zp pp0 pp1 pp2 pp3 pf X5n hh HH hb HB19 E5
  generalize (((w20.setCell ⟨B5, 0, none⟩ (.int .i64 i6)).setCell ⟨B5, 1, none⟩ (.bool s6)).setCell ⟨B5, 2, none⟩ (.slice x6 n6 c6)).setCell ⟨B5, 3, none⟩ (.slice y6 m6 d6) = w21 at *
  obtain ⟨_, q6, hP6, hE6⟩ := O6.out.get
  have hi6 : ia = i6 := by have e1 := P5.out.1; have e2 := hP6.1; omega
  have hq6 : a = q6 := by rw [hP6.2, P5.out.2, Rat.neg_neg]
  subst hi6 hq6
  have E6 := hid hE6
  clear hP6 hE6 O6 P5
  obtain ⟨zp, pp0, pp1, pp2, pp3⟩ := Y6.out.bx
  obtain ⟨za, a0, a1, a2, a3⟩ := BA.out.below HBn.out
  go_wp2_with fail
  refine (xSame_of (fun W hW => (rSame_n (E6.out.rn.below hW) ((EA.out.below HBn.out).rn.below hW) (by omega) (by omega)).mono (fun e w' ⟨j1, j2⟩ => ⟨by rw [j1]; simp, j2⟩))).mono ?_
  rintro e w22 ⟨rfl, hb⟩
  have HBm := hid (HBn.out.trans (hb.mono HBn.out.size))
  clear hb zp pp0 pp1 pp2 pp3 za a0 a1 a2 a3 Y6 E6 HBn
  obtain ⟨za, a0, a1, a2, a3⟩ := BA.out.below HBm.out
  have ct := eText_u (EA.out.rn.rw.below HBm.out) (by omega) (by omega) FA.out (fun _ => EA.out.below HBm.out) (HTab.out.below (HW.out.trans (HBm.out.mono HW.out.size)) HTab.out.lt)
  obtain ⟨bt, hsb, hsz, hbk⟩ := etx_back EA.out LA.out
  obtain ⟨tx, htx⟩ : ∃ tx, etx ia sa a = tx := ⟨_, rfl⟩
  rw [show petx true ia sa a = tx from htx, show pte true = 0 from rfl] at ct
  rw [htx] at hsb hsz hbk
  have CT := hid ct; have SB := hid hsb; have BK := hid hbk
  clear ct hsb htx hbk
  go_wp2_with fail
  refine CT.out.mono ?_
  rintro e w23 ⟨rfl, hb⟩
  have HBn := hid (HBm.out.trans (hb.mono HBm.out.size))
  clear hb za a0 a1 a2 a3 HBm CT
  have CR := hid (eRead_g tx bt w23 SB.out (.inl hsz))
  go_wp2_with fail
  refine CR.out.mono ?_
  rintro e w24 ⟨i7, s7, x7, n7, c7, f7, y7, m7, d7, g7, e7, rfl, hb, HH⟩
  obtain ⟨he, hi, hR⟩ := BK.out _ _ _ _ _ _ _ _ _ _ _ _ HH
  subst he
  subst hi
  have X7 := hid (wb_at w24 ia s7 x7 n7 c7 y7 m7 d7 26)
  have R7 := hid (hR.alloc (.cells #[.int .i64 ia, .bool s7, .slice x7 n7 c7, .slice y7 m7 d7] 26))
  have HBm := hid (below_alloc (HBn.out.trans (hb.mono HBn.out.size)) (.cells #[.int .i64 ia, .bool s7, .slice x7 n7 c7, .slice y7 m7 d7] 26))
  clear hb HH hR HBn CR BK SB
  go_upto_region 18 with fail
  generalize w24.alloc (.cells #[.int .i64 ia, .bool s7, .slice x7 n7 c7, .slice y7 m7 d7] 26) = w25 at *
  generalize w24.heap.size = B7 at *
  obtain ⟨zp, pp0, pp1, pp2, pp3⟩ := X7.out.bx
  obtain ⟨za, a0, a1, a2, a3⟩ := BA.out.below HBm.out
  go_wp2_with fail
  refine (xSame_of (fun W hW => (rSame_n (R7.out.below hW) ((EA.out.below HBm.out).rn.below hW) (by omega) (by omega)).mono (fun e w' ⟨j1, j2⟩ => ⟨by rw [j1]; simp, j2⟩))).mono ?_
  rintro e wz ⟨rfl, hb⟩
  have HBz := hid (HBm.out.trans (hb.mono HBm.out.size))
  have HWz := hid (HW.out.trans (HBz.out.mono HW.out.size))
  clear hb zp pp0 pp1 pp2 pp3 za a0 a1 a2 a3 X7 R7 HBm
  obtain ⟨zr, r0, r1, r2⟩ := BR.out.below HBz.out
  have hcc := eord_three OC1.out
  cases hsr : sr
  · have hr0 := rn_pos (hsr ▸ ER.out) h0
    have hd : cc = dd := Odd.out.one (eord_scale_pos hr0 (hsr ▸ P1.out) (hsr ▸ P2.out) OC1.out)
    subst hd
    clear hr0
    go_wp2
    go_ret
    exact ⟨by simp, HWz.out⟩
  · have hr0 := rn_neg (hsr ▸ ER.out) h0
    have hd : -cc = dd := Odd.out.one (eord_scale_neg hr0 (hsr ▸ P1.out) (hsr ▸ P2.out) OC1.out)
    subst hd
    clear hr0
    rcases hcc with rfl | rfl | rfl
    all_goals
      go_wp2
      go_ret
      exact ⟨by simp, HWz.out⟩
end Go.Proofs.YtbindadjepfkcaaGreatDoor
