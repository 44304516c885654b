/-
  The walk of RatSums.
-/
import Derived.Test.YtndiiknbkjlbiaaGreatDoorZ11
import Derived.Test.YtndiiknbkjlbiaaGreatDoorZ10
namespace Go.Proofs.YtndiiknbkjlbiaaGreatDoor
open Go.RowKit

theorem kRwa {w x n c f y m d g} {o : Obj} (h : Rw w x n c f y m d g) : Rw (w.alloc o) x n c f y m d g := h.below (below_alloc (Below.refl _ _) o)
theorem OQ.below {p kind qa qb w w' s x n c f y m d g er} (h : OQ p kind qa qb w s x n c f y m d g er) (hb : Below w.heap.size w w') : OQ p kind qa qb w' s x n c f y m d g er := by
  rcases h with h | h | ⟨h1, h2, h3, h4⟩
  · exact .inl h
  · exact .inr (.inl h)
  · exact .inr (.inr ⟨h1, h2, h3, h4.below hb⟩)
theorem OQ.alloc {p kind qa qb w s x n c f y m d g er} (h : OQ p kind qa qb w s x n c f y m d g er) (o : Obj) : OQ p kind qa qb (w.alloc o) s x n c f y m d g er := h.below (below_alloc (Below.refl _ _) o)
theorem sameNone_c {w : World} {x y x' y' : Option Addr} {c d c' d' : Nat} : Calls Tryz.prog 8 #[.agg #[.bool false, .slice x 0 c, .slice y 0 d], .agg #[.bool false, .slice x' 0 c', .slice y' 0 d']] w fun e w' => e = .returned (.bool true) ∧ Below w.heap.size w w' := by
  refine (rSame_c false x y 0 c 0 d (fun _ => 0) (fun _ => 0) false x' y' 0 c' 0 d' (fun _ => 0) (fun _ => 0) w Rd.zero Rd.zero Rd.zero Rd.zero (by omega) (by omega) (by omega) (by omega)).mono ?_
  rintro e w' ⟨b, rfl, h1, h2⟩
  have : b = true := h2.2 ⟨rfl, ⟨rfl, fun j hj => by omega⟩, ⟨rfl, fun j hj => by omega⟩⟩
  subst this
  exact ⟨rfl, h1⟩
theorem oq_er {p kind qa qb w s x n c f y m d g er w' s' x' n' c' f' y' m' d' g' er'} (h : OQ p kind qa qb w s x n c f y m d g er) (h' : OQ p kind qa qb w' s' x' n' c' f' y' m' d' g' er') : er' = er := by
  rcases h with ⟨h1, h2, _⟩ | ⟨h1, h0, h2, _⟩ | ⟨h1, h0, h2, _⟩ <;> rcases h' with ⟨k1, k2, _⟩ | ⟨k1, k0, k2, _⟩ | ⟨k1, k0, k2, _⟩ <;> first | omega | (rw [h1] at k1; cases k1) | exact absurd h0 k0 | exact absurd k0 h0
theorem oq_same {p kind qa qb w s x n c f y m d g er s' x' n' c' f' y' m' d' g' er'} (h : OQ p kind qa qb w s x n c f y m d g er) (h' : OQ p kind qa qb w s' x' n' c' f' y' m' d' g' er') :
    Calls Tryz.prog 8 #[.agg #[.bool s, .slice x n c, .slice y m d], .agg #[.bool s', .slice x' n' c', .slice y' m' d']] w fun e w' => e = .returned (.bool true) ∧ Below w.heap.size w w' := by
  rcases h with ⟨h1, h2, h3, h4, h5⟩ | ⟨h1, h0, h2, h3, h4, h5⟩ | ⟨h1, h0, h2, h3⟩ <;> rcases h' with ⟨k1, k2, k3, k4, k5⟩ | ⟨k1, k0, k2, k3, k4, k5⟩ | ⟨k1, k0, k2, k3⟩
  · subst h3 h4 h5 k3 k4 k5; exact sameNone_c
  · rw [h1] at k1; cases k1
  · rw [h1] at k1; cases k1
  · rw [h1] at k1; cases k1
  · subst h3 h4 h5 k3 k4 k5; exact sameNone_c
  · exact absurd h0 k0
  · rw [h1] at k1; cases k1
  · exact absurd k0 h0
  · refine (rSame_n h3 k3 (by omega) (by omega)).mono ?_
    rintro e w' ⟨rfl, hb⟩
    exact ⟨by simp, hb⟩
/-- A number in a box of its own. -/
structure SAt (p : Bool) (kind : Nat) (qa qb : Rat) (w1 wx : World) (b8 : Nat) (s : Bool) (x : Option Addr) (n c : Nat) (f : Nat → Int) (y : Option Addr) (m d : Nat) (g : Nat → Int) (er : Int) : Prop where
  bx : Bx3 wx b8 (.bool s) (.slice x n c) (.slice y m d)
  bel : Below w1.heap.size w1 wx
  oq : OQ p kind qa qb wx s x n c f y m d g er
theorem sat_a {p kind qa qb w1 v s x n c f y m d g er} {t : TypeId} (hb : Below w1.heap.size w1 v) (h : OQ p kind qa qb v s x n c f y m d g er) : SAt p kind qa qb w1 (v.alloc (.cells #[.bool s, .slice x n c, .slice y m d] t)) v.heap.size s x n c f y m d g er := ⟨bx3_at _ _ _ _ _, below_alloc hb _, h.alloc _⟩
theorem sat_s {p kind qa qb w1 v s x n c f y m d g er} {b8 : Nat} (hb : Below w1.heap.size w1 v) (h : OQ p kind qa qb v s x n c f y m d g er) (h8 : Ob v b8) (o8 : w1.heap.size ≤ b8) : SAt p kind qa qb w1 (((v.setCell ⟨b8, 0, none⟩ (.bool s)).setCell ⟨b8, 1, none⟩ (.slice x n c)).setCell ⟨b8, 2, none⟩ (.slice y m d)) b8 s x n c f y m d g er := ⟨h8.put _ _ _, below_st hb o8, h.st h8⟩

set_option maxRecDepth 100000 in
set_option maxHeartbeats 16000000 in
theorem ratSums_c (sa : Bool) (xa : Option Addr) (na ca : Nat) (fa : Nat → Int) (ya : Option Addr) (ma da : Nat) (ga : Nat → Int) (sb : Bool) (xb : Option Addr) (nb cb : Nat) (fb : Nat → Int) (yb : Option Addr) (mb db : Nat) (gb : Nat → Int) (z : Int) (w : World) (ha : Rw w xa na ca fa ya ma da ga) (hb : Rw w xb nb cb fb yb mb db gb) (hz : -9223372036854775808 ≤ z ∧ z ≤ 9223372036854775807) (htab : Tab w) :
    Calls Tryz.prog 3 #[.agg #[.bool sa, .slice xa na ca, .slice ya ma da], .agg #[.bool sb, .slice xb nb cb, .slice yb mb db], .int .i64 z] w fun e w' => e = .returned (.bool true) ∧ Below w.heap.size w w' := by
  have HTab := hid htab; have HA := hid ha; have HB := hid hb
  have q1 := ha.cx; have q2 := ha.cy; have q3 := hb.cx; have q4 := hb.cy
  clear ha hb htab
  go_enter Tryz.func3, Tryz.ntmps3
  go_wp2_with fail
  refine (rAwake_c _ (HTab.out.below (below_alloc (below_alloc (Below.refl w.heap.size w) _) _) HTab.out.lt)).mono ?_
  rintro e w1 ⟨rfl, hbel⟩
  obtain ⟨ba, bb, hw⟩ := two_new hbel
  have BA1 := hid ba; have BB1 := hid bb; have HW1 := hid hw
  clear hbel ba bb hw
  go_wp2_with fail
  refine (rOf_c hz.1 hz.2).mono ?_
  rintro e w2 ⟨s2, x2, n2, c2, f2, y2, m2, d2, g2, rfl, hb, hr2⟩
  have HB2 := hid hb; have R2 := hid hr2
  clear hb hr2
  go_wp2_with fail
  refine (docOfQ_c hz.1 hz.2).mono ?_
  rintro e w3 ⟨s3, x3, n3, c3, f3, y3, m3, d3, g3, rfl, hb, hr3⟩
  have HB3 := hid (HB2.out.trans (hb.mono HB2.out.size)); have R3 := hid hr3; have R23 := hid (R2.out.below hb)
  clear hb hr3 R2
  go_wp2_with fail
  refine (rSame_n R23.out R3.out (by omega) (by omega)).mono ?_
  rintro e w4 ⟨rfl, hb⟩
  have HB4 := hid (HB3.out.trans (hb.mono HB3.out.size))
  have hqq : (decide ((z : Rat) = (z : Rat))) = true := by simp
  clear hb R23 R3
  obtain ⟨za, a0, a1, a2⟩ := BA1.out.below HB4.out
  obtain ⟨zb, b0, b1, b2⟩ := BB1.out.below HB4.out
  go_wp2_with fail
  refine (rlight2_c sa xa ya na ca ma da sb xb yb nb cb mb db _ (by omega) (by omega) (by omega) (by omega)).mono ?_
  rintro e w5 ⟨rfl, hb⟩
  clear za a0 a1 a2 zb b0 b1 b2 hqq
  have BA2 := hid ((BA1.out.below HB4.out).below hb); have BB2 := hid ((BB1.out.below HB4.out).below hb); have HW2 := hid (HW1.out.trans ((HB4.out.trans (hb.mono HB4.out.size)).mono HW1.out.size))
  clear BA1 BB1 HW1 hb HB2 HB3 HB4
  cases hl : (lg na ma 20 && lg nb mb 20)
  · go_wp2
    go_ret
    exact ⟨rfl, HW2.out⟩
  have hl1 : na ≤ 20 ∧ ma ≤ 20 ∧ nb ≤ 20 ∧ mb ≤ 20 := by
    simp only [lg, Bool.and_eq_true, decide_eq_true_eq] at hl
    exact ⟨hl.1.1, hl.1.2, hl.2.1, hl.2.2⟩
  obtain ⟨l1, l2, l3, l4⟩ := hl1
  clear hl
  obtain ⟨pa, hpa⟩ : ∃ p, rfB sa fa na ga ma = p := ⟨_, rfl⟩
  obtain ⟨pb, hpb⟩ : ∃ p, rfB sb fb nb gb mb = p := ⟨_, rfl⟩
  obtain ⟨qa, hqa⟩ : ∃ q, pa = true → Rn 100 w5 sa xa na ca fa ya ma da ga q := by
    cases pa
    · exact ⟨0, fun h => by cases h⟩
    · obtain ⟨q, hq⟩ := (HA.out.below HW2.out).rn hpa (L := 100) (by omega) (by omega)
      exact ⟨q, fun _ => hq⟩
  obtain ⟨qb, hqb⟩ : ∃ q, pb = true → Rn 100 w5 sb xb nb cb fb yb mb db gb q := by
    cases pb
    · exact ⟨0, fun h => by cases h⟩
    · obtain ⟨q, hq⟩ := (HB.out.below HW2.out).rn hpb (L := 100) (by omega) (by omega)
      exact ⟨q, fun _ => hq⟩
  have HPA := hid hpa; have HPB := hid hpb; have HQA := hid hqa; have HQB := hid hqb
  clear hpa hpb hqa hqb
  have RA2 := hid (HA.out.below HW2.out); have RB2 := hid (HB.out.below HW2.out)
  have TA : Hid (∀ W, Below w5.heap.size w5 W → Calls Tryz.prog 13 #[.agg #[.bool sa, .slice xa na ca, .slice ya ma da]] W fun e w' => ∃ z c' z2 c2, e = .returned (.agg #[.bool sa, .slice z na c', .slice z2 ma c2]) ∧ Below W.heap.size W w' ∧ Hid (Rw w' z na c' fa z2 ma c2 ga)) := fun W hW => qTwin_c (RA2.out.below hW) (by omega) (by omega)
  have TB : Hid (∀ W, Below w5.heap.size w5 W → Calls Tryz.prog 13 #[.agg #[.bool sb, .slice xb nb cb, .slice yb mb db]] W fun e w' => ∃ z c' z2 c2, e = .returned (.agg #[.bool sb, .slice z nb c', .slice z2 mb c2]) ∧ Below W.heap.size W w' ∧ Hid (Rw w' z nb c' fb z2 mb c2 gb)) := fun W hW => qTwin_c (RB2.out.below hW) (by omega) (by omega)
  have CC : Hid (∀ (kind : Nat) (_ : kind < 4) (W : World) (x : Option Addr) (c : Nat) (y : Option Addr) (d : Nat) (x' : Option Addr) (c' : Nat) (y' : Option Addr) (d' : Nat), Rw W x na c fa y ma d ga → Rw W x' nb c' fb y' mb d' gb → Calls Tryz.prog 12 #[.int .i64 kind, .agg #[.bool sa, .slice x na c, .slice y ma d], .agg #[.bool sb, .slice x' nb c', .slice y' mb d']] W fun e w' => ∃ s x n c f y m d g er, e = .returned (.tuple #[.agg #[.bool s, .slice x n c, .slice y m d], .int .i64 er]) ∧ Below W.heap.size W w' ∧ Hid (OQ (pa && pb) kind qa qb w' s x n c f y m d g er)) := fun kind hk W x c y d x' c' y' d' h1 h2 => call_q h1 h2 (by omega) (by omega) (by omega) (by omega) HPA.out HPB.out (fun h => (HQA.out h).moved h1) (fun h => (HQB.out h).moved h2) kind hk
  have DC : Hid (∀ (kind : Nat) (_ : kind < 4) (W : World), Below w5.heap.size w5 W → Calls Tryz.prog 14 #[.int .i64 kind, .agg #[.bool sa, .slice xa na ca, .slice ya ma da], .agg #[.bool sb, .slice xb nb cb, .slice yb mb db]] W fun e w' => ∃ s x n c f y m d g er, e = .returned (.tuple #[.agg #[.bool s, .slice x n c, .slice y m d], .int .i64 er]) ∧ Below W.heap.size W w' ∧ Hid (OQ (pa && pb) kind qa qb w' s x n c f y m d g er)) := fun kind hk W hW => doc_q (RA2.out.below hW) (RB2.out.below hW) (by omega) (by omega) (by omega) (by omega) HPA.out HPB.out (fun h => (HQA.out h).below hW) (fun h => (HQB.out h).below hW) kind hk
  go_wp2
  go_loopw [30] (fun t wr => ∃ kind : Nat, kind ≤ 4 ∧ t = .int .i64 kind ∧ Hid (Below w5.heap.size w5 wr)) (fun t _ => 4 - (intOf t).toNat)
  case atStart => exact ⟨0, by omega, rfl, Below.refl _ _⟩
  case round =>
    obtain ⟨kind, hk, rfl, HBr⟩ := hrel
    obtain ⟨za, a0, a1, a2⟩ := BA2.out.below HBr.out
    obtain ⟨zb, b0, b1, b2⟩ := BB2.out.below HBr.out
    by_cases hlt : kind < 4
    · have hd : decide ((kind : Int) < 4) = true := by simp; omega
      go_upto_region 8 with fail
      go_cut [8, 9] from 33 to 41 (fun u t wx => ∃ (wy : World) (b8 : Nat) (s : Bool) (x : Option Addr) (n c : Nat) (f : Nat → Int) (y : Option Addr) (m d : Nat) (g : Nat → Int) (er : Int), wy = wx ∧ u = .pointer (some ⟨b8, 0, none⟩) ∧ t = .int .i64 er ∧ SAt (pa && pb) kind qa qb wr wy b8 s x n c f y m d g er)
      case first =>
        have hrb := HBr.out
        go_region_held3 (fun w' => w'.cell? ⟨w.heap.size, 0, none⟩ = some (.bool sa) ∧ w'.cell? ⟨w.heap.size, 1, none⟩ = some (.slice xa na ca) ∧ w'.cell? ⟨w.heap.size, 2, none⟩ = some (.slice ya ma da) ∧ w'.cell? ⟨w.heap.size + 1, 0, none⟩ = some (.bool sb) ∧ w'.cell? ⟨w.heap.size + 1, 1, none⟩ = some (.slice xb nb cb) ∧ w'.cell? ⟨w.heap.size + 1, 2, none⟩ = some (.slice yb mb db))
          (refine ⟨?_, ?_, ?_, ?_, ?_, ?_⟩ <;> repeat (with_reducible first | assumption | refine kCd ?_ | refine kCa ?_ | refine kCs (by simp only [ne_eq]; omega) ?_ | refine kCb (by assumption) ?_))
          (first
            | (go_at_call 13; with_reducible refine (TA.out _ (by repeat (with_reducible first | assumption | exact Below.refl _ _ | refine Below.drew ?_ | refine kBa ?_ | refine kBb (by assumption) ?_))).mono ?_; rintro e v5 ⟨x5, c5, y5, d5, rfl, hb5, H5⟩; have hzi := hb5.size; (try simp at hzi); obtain ⟨hc5, hf5⟩ := bcell hb5; (try have q100 : wr.heap.size < v5.heap.size := by omega))
            | (go_at_call 13; with_reducible refine (TB.out _ (by repeat (with_reducible first | assumption | exact Below.refl _ _ | refine Below.drew ?_ | refine kBa ?_ | refine kBb (by assumption) ?_))).mono ?_; rintro e v6 ⟨x6, c6, y6, d6, rfl, hb6, H6⟩; have hzj := hb6.size; (try simp at hzj); obtain ⟨hc6, hf6⟩ := bcell hb6; (try have q100 : wr.heap.size < v6.heap.size := by omega); (try have q102 : v5.heap.size < v6.heap.size := by omega))
            | (go_at_call 12; with_reducible refine (CC.out kind hlt _ x5 c5 y5 d5 x6 c6 y6 d6 (by repeat (with_reducible first | exact H5.out | refine kRwd ?_ | refine kRwa ?_ | refine kRwb (by assumption) ?_)) (by repeat (with_reducible first | exact H6.out | refine kRwd ?_ | refine kRwa ?_ | refine kRwb (by assumption) ?_))).mono ?_; rintro e v7 ⟨s7, x7, n7, c7, f7, y7, m7, d7, g7, e7, rfl, hb7, H7⟩; have hzk := hb7.size; (try simp at hzk); obtain ⟨hc7, hf7⟩ := bcell hb7; (try have q100 : wr.heap.size < v7.heap.size := by omega); (try have q102 : v5.heap.size < v7.heap.size := by omega); (try have q104 : v6.heap.size < v7.heap.size := by omega)))
        all_goals
          go_wp2_with fail
          go_meet
          clear hrb
          have hbl : Below wr.heap.size wr v7 := (by repeat (with_reducible first | assumption | exact Below.refl _ _ | refine Below.drew ?_ | refine kBa ?_ | refine kBb (by assumption) ?_))
          refine ⟨_, _, s7, x7, n7, c7, f7, y7, m7, d7, g7, e7, rfl, rfl, rfl, ?_⟩
          with_reducible first
            | exact sat_a hbl H7.out
            | exact sat_s hbl H7.out (by repeat (with_reducible first | exact ob_at rfl | exact ob_at (size_alloc1 _ _).symm | refine kOb hb7 ?_ | refine kOb hb6 ?_ | refine kOb hb5 ?_ | refine Ob.drew ?_ | refine kObA ?_)) (by omega)
      case rest =>
        obtain ⟨w9, b8, s8, x8, n8, c8, f8, y8, m8, d8, g8, e8, rfl, rfl, rfl, hb8, hb, hoq⟩ := hcut
        have HB9 := hid (HBr.out.trans (hb.mono HBr.out.size)); have BX9 := hid hb8; have O9 := hid hoq
        clear hb hb8 hoq za a0 a1 a2 zb b0 b1 b2
        obtain ⟨za, a0, a1, a2⟩ := BA2.out.below HB9.out
        obtain ⟨zb, b0, b1, b2⟩ := BB2.out.below HB9.out
        go_wp2_with fail
        refine (DC.out kind hlt _ HB9.out).mono ?_
        rintro e w10 ⟨s10, x10, n10, c10, f10, y10, m10, d10, g10, e10, rfl, hb, H10⟩
        have her := oq_er O9.out H10.out
        subst her
        have HB10 := hid (HB9.out.trans (hb.mono HB9.out.size)); have BX10 := hid (BX9.out.below hb); have O10 := hid (O9.out.below hb)
        have hen : (e10 != e10) = false := by simp
        clear hb za a0 a1 a2 zb b0 b1 b2
        obtain ⟨zx, p0, p1, p2⟩ := BX10.out
        go_wp2_with fail
        refine (oq_same (O10.out.alloc _) (H10.out.alloc _)).mono ?_
        rintro e w11 ⟨rfl, hb⟩
        have HB11 := hid ((below_alloc HB10.out _).trans (hb.mono (below_alloc HB10.out _).size))
        clear hb zx p0 p1 p2
        go_wp2
        go_roundw
        case rel => exact ⟨kind + 1, by omega, by go_num, HB11.out⟩
        case measure => simp [intOf]; omega
    · have hk4 : kind = 4 := by omega
      subst hk4
      have NR : Hid (∀ (W : World) (x : Option Addr) (c : Nat) (y : Option Addr) (d : Nat), Rw W x na c fa y ma d ga → Calls Tryz.prog 15 #[.agg #[.bool sa, .slice x na c, .slice y ma d]] W fun e w' => ∃ s x n c f y m d g er, e = .returned (.tuple #[.agg #[.bool s, .slice x n c, .slice y m d], .int .i64 er]) ∧ Below W.heap.size W w' ∧ Hid (OQ pa 0 (-qa) 0 w' s x n c f y m d g er)) := fun W x c y d h1 => by
        cases hp : pa
        · exact (rNegErr_c h1 (by omega) (by omega) (by rw [HPA.out]; exact hp)).mono (fun _ _ ⟨k1, k2⟩ => ⟨false, none, 0, 0, fun _ => 0, none, 0, 0, fun _ => 0, 3, k1, k2, .inl ⟨rfl, rfl, rfl, rfl, rfl⟩⟩)
        · exact (rNeg_n ((HQA.out hp).moved h1) (by omega)).mono (fun _ _ ⟨s, x, n, c, f, y, m, d, g, k1, k2, k3⟩ => ⟨s, x, n, c, f, y, m, d, g, 0, k1, k2, .inr (.inr ⟨rfl, fun h => by omega, rfl, by show Rn 2000 _ _ _ _ _ _ _ _ _ _ (-qa + 0); rw [Rat.add_zero]; exact k3.mono (by omega)⟩)⟩)
      have DN : Hid (∀ W, Below w5.heap.size w5 W → Calls Tryz.prog 16 #[.agg #[.bool sa, .slice xa na ca, .slice ya ma da]] W fun e w' => ∃ s x n c f y m d g er, e = .returned (.tuple #[.agg #[.bool s, .slice x n c, .slice y m d], .int .i64 er]) ∧ Below W.heap.size W w' ∧ Hid (OQ pa 0 (-qa) 0 w' s x n c f y m d g er)) := fun W hW => by
        have h1 := RA2.out.below hW
        cases hp : pa
        · exact (docNegErr_c h1 (by omega) (by omega) (by rw [HPA.out]; exact hp)).mono (fun _ _ ⟨k1, k2⟩ => ⟨false, none, 0, 0, fun _ => 0, none, 0, 0, fun _ => 0, 3, k1, k2, .inl ⟨rfl, rfl, rfl, rfl, rfl⟩⟩)
        · exact (docNegOk_c h1 ((HQA.out hp).below hW)).mono (fun _ _ ⟨s, x, n, c, f, y, m, d, g, k1, k2, k3⟩ => ⟨s, x, n, c, f, y, m, d, g, 0, k1, k2, .inr (.inr ⟨rfl, fun h => by omega, rfl, by show Rn 2000 _ _ _ _ _ _ _ _ _ _ (-qa + 0); rw [Rat.add_zero]; exact k3.mono (by omega)⟩)⟩)
      go_wp2_with fail
      refine (TA.out _ HBr.out).mono ?_
      rintro e w8 ⟨x8, c8, y8, d8, rfl, hb, H8⟩
      have HB8 := hid (HBr.out.trans (hb.mono HBr.out.size))
      clear hb za a0 a1 a2 zb b0 b1 b2
      go_wp2_with fail
      refine (NR.out _ x8 c8 y8 d8 H8.out).mono ?_
      rintro e w9 ⟨s9, x9, n9, c9, f9, y9, m9, d9, g9, e9, rfl, hb, H9⟩
      have HB9 := hid (below_alloc (HB8.out.trans (hb.mono HB8.out.size)) (.cells #[.bool s9, .slice x9 n9 c9, .slice y9 m9 d9] 24)); have O9 := hid (H9.out.alloc (.cells #[.bool s9, .slice x9 n9 c9, .slice y9 m9 d9] 24))
      have B9 := hid (bx3_at w9 (.bool s9) (.slice x9 n9 c9) (.slice y9 m9 d9) 24)
      clear hb H8 H9
      obtain ⟨za, a0, a1, a2⟩ := BA2.out.below HB9.out
      obtain ⟨z9', p0, p1, p2⟩ := B9.out
      go_wp2_with fail
      generalize w9.alloc (.cells #[.bool s9, .slice x9 n9 c9, .slice y9 m9 d9] 24) = w10 at *
      generalize w9.heap.size = b9 at *
      refine (DN.out _ HB9.out).mono ?_
      rintro e w11 ⟨s11, x11, n11, c11, f11, y11, m11, d11, g11, e11, rfl, hb, H11⟩
      have her := oq_er O9.out H11.out
      subst her
      have HB11 := hid (below_alloc (HB9.out.trans (hb.mono HB9.out.size)) (.cells #[.bool s11, .slice x11 n11 c11, .slice y11 m11 d11] 24)); have O11 := hid ((O9.out.below hb).alloc (.cells #[.bool s11, .slice x11 n11 c11, .slice y11 m11 d11] 24)); have P11 := hid (H11.out.alloc (.cells #[.bool s11, .slice x11 n11 c11, .slice y11 m11 d11] 24)); have B11 := hid ((B9.out.below hb).alloc (.cells #[.bool s11, .slice x11 n11 c11, .slice y11 m11 d11] 24)); have B12 := hid (bx3_at w11 (.bool s11) (.slice x11 n11 c11) (.slice y11 m11 d11) 24)
      have hee : (e11 == e11) = true := by simp
      clear hb za a0 a1 a2 z9' p0 p1 p2 H11
      go_wp2_with fail
      generalize w11.alloc (.cells #[.bool s11, .slice x11 n11 c11, .slice y11 m11 d11] 24) = w12 at *
      generalize w11.heap.size = b12 at *
      obtain ⟨za, a0, a1, a2⟩ := BA2.out.below HB11.out
      obtain ⟨zp, p0, p1, p2⟩ := B11.out
      obtain ⟨zr, r0, r1, r2⟩ := B12.out
      have S1 : Hid (∀ W, Below w12.heap.size w12 W → Calls Tryz.prog 8 #[.agg #[.bool s9, .slice x9 n9 c9, .slice y9 m9 d9], .agg #[.bool s11, .slice x11 n11 c11, .slice y11 m11 d11]] W fun e w' => e = .returned (.bool true) ∧ Below W.heap.size W w') := fun W hW => oq_same (O11.out.below hW) (P11.out.below hW)
      have S2 : Hid (∀ W, Below w12.heap.size w12 W → Calls Tryz.prog 17 #[.agg #[.bool sa, .slice xa na ca, .slice ya ma da]] W fun e w' => e = .returned (.bool pa) ∧ Below W.heap.size W w') := fun W hW => by
        have := rForm_c (s := sa) ((RA2.out.below HB11.out).below hW) (by omega) (by omega)
        rw [HPA.out] at this; exact this
      have S3 : Hid (∀ W, Below w12.heap.size w12 W → Calls Tryz.prog 18 #[.agg #[.bool sa, .slice xa na ca, .slice ya ma da]] W fun e w' => e = .returned (.bool pa) ∧ Below W.heap.size W w') := fun W hW => by
        have := qForm_c (s := sa) ((RA2.out.below HB11.out).below hW) (by omega) (by omega)
        rw [HPA.out] at this; exact this
      have hpp : (pa == pa) = true := by cases pa <;> rfl
      go_region_held3 (fun w' => w'.cell? ⟨w.heap.size, 0, none⟩ = some (.bool sa) ∧ w'.cell? ⟨w.heap.size, 1, none⟩ = some (.slice xa na ca) ∧ w'.cell? ⟨w.heap.size, 2, none⟩ = some (.slice ya ma da) ∧ w'.cell? ⟨b9, 0, none⟩ = some (.bool s9) ∧ w'.cell? ⟨b9, 1, none⟩ = some (.slice x9 n9 c9) ∧ w'.cell? ⟨b9, 2, none⟩ = some (.slice y9 m9 d9) ∧ w'.cell? ⟨b12, 0, none⟩ = some (.bool s11) ∧ w'.cell? ⟨b12, 1, none⟩ = some (.slice x11 n11 c11) ∧ w'.cell? ⟨b12, 2, none⟩ = some (.slice y11 m11 d11))
        (refine ⟨?_, ?_, ?_, ?_, ?_, ?_, ?_, ?_, ?_⟩ <;> repeat (with_reducible first | assumption | refine kCd ?_ | refine kCb (by assumption) ?_))
        (first
          | (go_at_call 8; with_reducible refine (S1.out _ (by repeat (with_reducible first | assumption | exact Below.refl _ _ | refine Below.drew ?_ | refine kBb (by assumption) ?_))).mono ?_; rintro e v1 ⟨rfl, hv1⟩)
          | (go_at_call 17; with_reducible refine (S2.out _ (by repeat (with_reducible first | assumption | exact Below.refl _ _ | refine Below.drew ?_ | refine kBb (by assumption) ?_))).mono ?_; rintro e v2 ⟨rfl, hv2⟩)
          | (go_at_call 18; with_reducible refine (S3.out _ (by repeat (with_reducible first | assumption | exact Below.refl _ _ | refine Below.drew ?_ | refine kBb (by assumption) ?_))).mono ?_; rintro e v3 ⟨rfl, hv3⟩))
      all_goals
        have hb : Below w12.heap.size w12 v3 := (by repeat (with_reducible first | assumption | exact Below.refl _ _ | refine Below.drew ?_ | refine kBb (by assumption) ?_))
        have HBz := hid (HW2.out.trans ((HB11.out.trans (hb.mono HB11.out.size)).mono HW2.out.size))
        clear hb
        go_wp2
        go_ret
        exact ⟨rfl, HBz.out⟩
end Go.Proofs.YtndiiknbkjlbiaaGreatDoor
