/-
  The walk of the law RayAlongs (written by makers/rd2.py).
-/
import Derived.Test.YtlemkhgicdnlnaaGreatZ12
import Derived.BigQuiet
namespace Go.Proofs.YtlemkhgicdnlnaaGreat
open Go.RowKit

/-- What is handed to RayAlongs, once it is light. -/
structure Cl13 (w : World) (ax : Option Addr) (kx : Nat) (Y : Nat → Nm) (ao : Option Addr) (ko : Nat) (X : Nat → Nm) (t : Nm) : Prop where
  hy : Rl w ax kx Y
  hx : Rl w ao ko X
  sy : ShK 8 kx Y
  sx : ShK 8 ko X
  ht : Rw w t.x t.n t.c t.f t.y t.m t.d t.g
  lt : t.n ≤ 8 ∧ t.m ≤ 8
/-- Two answers along a ray are alike. -/
theorem sameAl_c {w : World} {L : Nat} {er : Int} {kx : Nat} {xs ds : List Rat} {t : Rat} {a b : Option Addr} {na ca nb cb : Nat} (hL : L ≤ 100) (hk : kx ≤ 300) (h : er ≠ 0 ∧ (na = 0 ∧ nb = 0) ∨ er = 0 ∧ (na = kx ∧ nb = kx) ∧ (alng xs ds t).length = kx ∧ Rf (KL L) w a (alng xs ds t) ∧ Rf (KD L) w b (alng xs ds t)) :
    Calls Tryz.prog 20 #[.slice a na ca, .slice b nb cb] w fun e w' => e = .returned (.bool true) ∧ Below w.heap.size w w' := by
  rcases h with ⟨_, rfl, rfl⟩ | ⟨_, ⟨rfl, rfl⟩, h1, h2, h3⟩
  · exact samesEq_c (L := 1) (L' := 1) (p := []) (fun j q hj => by simp at hj) (fun j q hj => by simp at hj) rfl (by decide) (by decide) (by decide)
  · exact samesEq_c h2 h3 h1 (by omega) (by unfold KL; omega) (by unfold KD; omega)
set_option maxRecDepth 100000 in
set_option maxHeartbeats 8000000 in
theorem rayAlongs_c {w : World} {ax : Option Addr} {kx cx : Nat} {Y : Nat → Nm} {ao : Option Addr} {ko co : Nat} {X : Nat → Nm} {ts : Bool} {tx : Option Addr} {tn tc : Nat} {tf : Nat → Int} {ty : Option Addr} {tm td : Nat} {tg : Nat → Int} (hy : Rr w ax kx Y) (hx : Rr w ao ko X) (hkx : kx ≤ 9223372036854775807) (hko : ko ≤ 9223372036854775807) (ht : Rw w tx tn tc tf ty tm td tg) :
    Calls Tryz.prog 4 #[.agg #[.slice ax kx cx, .slice ao ko co], .agg #[.bool ts, .slice tx tn tc, .slice ty tm td]] w fun e w' => e = .returned (.bool true) ∧ Below w.heap.size w w' := by
  obtain ⟨la, hla⟩ : ∃ t, (lgL 8 kx Y && lgL 8 ko X) = t := ⟨_, rfl⟩
  obtain ⟨lt, hlt⟩ : ∃ t, lg tn tm 8 = t := ⟨_, rfl⟩
  have CA := hid (fun w' (hw : Below w.heap.size w w') => light13_c (capx := cx) (cap := co) 8 (hy.below hw) (hx.below hw) hkx hko)
  rw [hla] at CA
  have CT := hid (fun w' => rLightK_c 8 ts tx ty tn tc tm td w')
  rw [hlt] at CT
  have HC : Hid (la = true → lt = true → Cl13 w ax kx Y ao ko X ⟨ts, tx, tn, tc, tf, ty, tm, td, tg⟩) := fun e1 e2 => by
    subst e1; subst e2
    simp only [Bool.and_eq_true] at hla
    have q1 := hla.1; have q2 := hla.2
    simp only [lg, Bool.and_eq_true, decide_eq_true_eq] at hlt
    refine ⟨?_, ?_, lgL_shK q1, lgL_shK q2, ht, hlt⟩
    · simp only [lgL, Bool.and_eq_true] at q1; exact hy.rl q1.2 (by decide)
    · simp only [lgL, Bool.and_eq_true] at q2; exact hx.rl q2.2 (by decide)
  clear hy hx ht hla hlt hkx hko
  replace CA : Hid (∀ w', Below w.heap.size w w' → Calls Tryz.prog 8 #[.agg #[.slice ax kx cx, .slice ao ko co], .int .i64 8] w' fun e w2 => e = .returned (.bool la) ∧ Below w'.heap.size w' w2) := CA
  replace CT : Hid (∀ w', Calls Tryz.prog 16 #[.agg #[.bool ts, .slice tx tn tc, .slice ty tm td], .int .i64 8] w' fun e w2 => e = .returned (.bool lt) ∧ Below w'.heap.size w' w2) := CT
  have HB := hid (below_alloc (below_alloc (Below.refl w.heap.size w) (.cells #[.slice ax kx cx, .slice ao ko co] 31)) (.cells #[.bool ts, .slice tx tn tc, .slice ty tm td] 24))
  have BA : Hid (Bk ((w.alloc (.cells #[.slice ax kx cx, .slice ao ko co] 31)).alloc (.cells #[.bool ts, .slice tx tn tc, .slice ty tm td] 24)) w.heap.size [.slice ax kx cx, .slice ao ko co] 31) := (bk_new w [.slice ax kx cx, .slice ao ko co] 31).below (below_alloc (Below.refl _ _) _)
  have BB : Hid (Bk ((w.alloc (.cells #[.slice ax kx cx, .slice ao ko co] 31)).alloc (.cells #[.bool ts, .slice tx tn tc, .slice ty tm td] 24)) (w.heap.size + 1) [.bool ts, .slice tx tn tc, .slice ty tm td] 24) := by
    have := bk_new (w.alloc (.cells #[.slice ax kx cx, .slice ao ko co] 31)) [.bool ts, .slice tx tn tc, .slice ty tm td] 24
    rw [size_alloc1] at this; exact this
  go_enter Tryz.func4, Tryz.ntmps4
  go_wp2_with fail
  generalize ((w.alloc (.cells #[.slice ax kx cx, .slice ao ko co] 31)).alloc (.cells #[.bool ts, .slice tx tn tc, .slice ty tm td] 24)) = v0 at *
  refine (awake13_c _).mono ?_
  rintro e v1 ⟨rfl, hb⟩
  replace HB := hid (HB.out.trans (hb.mono HB.out.size)); replace BA := hid (BA.out.below hb); replace BB := hid (BB.out.below hb)
  clear hb
  have a0 := BA.out.cell (j := 0) rfl
  have a1 := BA.out.cell (j := 1) rfl
  go_wp2_with fail
  clear a0 a1
  refine (CA.out _ HB.out).mono ?_
  rintro e v2 ⟨rfl, hb⟩
  replace HB := hid (HB.out.trans (hb.mono HB.out.size)); replace BA := hid (BA.out.below hb); replace BB := hid (BB.out.below hb)
  clear hb
  clear CA
  cases la
  · go_wp2
    go_ret
    exact ⟨rfl, HB.out⟩
  have b0 := BB.out.cell (j := 0) rfl
  have b1 := BB.out.cell (j := 1) rfl
  have b2 := BB.out.cell (j := 2) rfl
  go_wp2_with fail
  clear b0 b1 b2
  refine (CT.out _).mono ?_
  rintro e v3 ⟨rfl, hb⟩
  replace HB := hid (HB.out.trans (hb.mono HB.out.size)); replace BA := hid (BA.out.below hb); replace BB := hid (BB.out.below hb)
  clear hb
  clear CT
  cases lt
  · go_wp2
    go_ret
    exact ⟨rfl, HB.out⟩
  replace HC := hid (HC.out (by first | rfl | trivial) (by first | rfl | trivial))
  have RA := hid (fun W (hW : Below w.heap.size w W) => twinRayK_c (K := 8) (capx := cx) (cap := co) (HC.out.hy.below hW) HC.out.sy (HC.out.hx.below hW) HC.out.sx (by decide))
  have TT : Hid (∀ W, Below w.heap.size w W → Calls Tryz.prog 18 #[.agg #[.bool ts, .slice tx tn tc, .slice ty tm td]] W fun e w' => ∃ t' : Nm, e = .returned (.agg #[.bool t'.s, .slice t'.x t'.n t'.c, .slice t'.y t'.m t'.d]) ∧ Below W.heap.size W w' ∧ Hid (Sn ⟨ts, tx, tn, tc, tf, ty, tm, td, tg⟩ t' ∧ Rw w' t'.x t'.n t'.c t'.f t'.y t'.m t'.d t'.g)) := fun W hW => by
    refine (qTwin_c (s := ts) (HC.out.ht.below hW) (Nat.le_trans HC.out.lt.1 (by decide)) (Nat.le_trans HC.out.lt.2 (by decide))).mono ?_
    rintro e w6 ⟨z6, c6, z7, c7, rfl, hb6, HQ⟩
    exact ⟨⟨ts, z6, tn, c6, tf, z7, tm, c7, tg⟩, rfl, hb6, hid ⟨⟨rfl, rfl, rfl, rfl, rfl⟩, HQ.out⟩⟩
  obtain ⟨er, her⟩ : ∃ e, alE ⟨ts, tx, tn, tc, tf, ty, tm, td, tg⟩ kx Y ko X = e := ⟨_, rfl⟩
  obtain ⟨q, hq⟩ : ∃ e, nq ⟨ts, tx, tn, tc, tf, ty, tm, td, tg⟩ = e := ⟨_, rfl⟩
  have AL : Hid (∀ W (t' : Nm) z2 c2 Y2 z3 c3 X3, (Tx W z2 kx Y Y2 ∧ Tx W z3 ko X X3) → (Sn ⟨ts, tx, tn, tc, tf, ty, tm, td, tg⟩ t' ∧ Rw W t'.x t'.n t'.c t'.f t'.y t'.m t'.d t'.g) → Calls Tryz.prog 17 #[.agg #[.slice z2 kx c2, .slice z3 ko c3], .agg #[.bool t'.s, .slice t'.x t'.n t'.c, .slice t'.y t'.m t'.d]] W fun e w' => ∃ a n c, e = .returned (.tuple #[.slice a n c, .int .i64 er]) ∧ Below W.heap.size W w' ∧ Hid (er ≠ 0 ∧ n = 0 ∨ er = 0 ∧ n = kx ∧ (alng (psOf kx Y) (psOf ko X) q).length = kx ∧ Rf (KL 8) w' a (alng (psOf kx Y) (psOf ko X) q))) := fun W t' z2 c2 Y2 z3 c3 X3 h1 h2 => by
    have := alongTwK_c (capx := c2) (cap := c3) h1.1 HC.out.sy h1.2 HC.out.sx h2.2 h2.1 HC.out.lt
    rw [her, hq] at this
    refine this.mono ?_
    rintro e w' ⟨hb, ⟨h0, rfl⟩ | ⟨h0, a, c, rfl, hc, hr⟩⟩
    · exact ⟨none, 0, 0, rfl, hb, hid (.inl ⟨h0, rfl⟩)⟩
    · have hkk : ko = kx := by
        rw [alE_of, h0] at her
        split at her
        · split at her
          · assumption
          · exact absurd her (by decide)
        · exact absurd her (by decide)
      exact ⟨a, kx, c, by rw [h0], hb, hid (.inr ⟨h0, rfl, (alng_len (by rw [psOf_len, psOf_len, hkk])).trans (psOf_len _ _), hr⟩)⟩
  have DA : Hid (∀ W, Below w.heap.size w W → Calls Tryz.prog 19 #[.agg #[.slice ax kx cx, .slice ao ko co], .agg #[.bool ts, .slice tx tn tc, .slice ty tm td]] W fun e w' => ∃ a n c, e = .returned (.tuple #[.slice a n c, .int .i64 er]) ∧ Below W.heap.size W w' ∧ Hid (er ≠ 0 ∧ n = 0 ∨ er = 0 ∧ n = kx ∧ Rf (KD 8) w' a (alng (psOf kx Y) (psOf ko X) q))) := fun W hW => by
    have hts : NmS W ⟨ts, tx, tn, tc, tf, ty, tm, td, tg⟩ := ⟨HC.out.ht.below hW, Nat.le_trans HC.out.lt.1 (by decide), Nat.le_trans HC.out.lt.2 (by decide)⟩
    have l1 := HC.out.sy.1; have l2 := HC.out.sx.1; have l3 := HC.out.lt
    refine (docAlong_c (L := 8) (xs := psOf kx Y) (ds := psOf ko X) (tq := q) (HC.out.hy.below hW) (HC.out.hx.below hW) hts (by omega) (by omega) (fun j hj => by have := HC.out.sy.2 j hj; omega) (fun j hj => by have := HC.out.sx.2 j hj; omega) ⟨Nat.le_trans l3.1 (by decide), Nat.le_trans l3.2 (by decide)⟩ her (fun h0 => ?_) (by decide)).mono ?_
    · rw [alE_of, h0] at her
      split at her
      · rename_i h
        simp only [Bool.and_eq_true] at h
        split at her
        · rename_i h2
          refine ⟨(HC.out.hy.below hW).rfC h.1 HC.out.sy.2, psOf_len _ _, (HC.out.hx.below hW).rfC h.2.1 HC.out.sx.2, psOf_len _ _, h2, ?_⟩
          have := NmS.val (K := 8) hts h.2.2 l3
          rw [hq] at this
          exact this
        · exact absurd her (by decide)
      · exact absurd her (by decide)
    · rintro e w' ⟨hb, ⟨h0, rfl⟩ | ⟨h0, a, c, rfl, hc, hr⟩⟩
      · exact ⟨none, 0, 0, rfl, hb, hid (.inl ⟨h0, rfl⟩)⟩
      · exact ⟨a, kx, c, by rw [h0], hb, hid (.inr ⟨h0, rfl, hr⟩)⟩
  have HL := hid HC.out.sy.1
  clear HC her hq
  go_upto_region 5 with fail
  have a0 := BA.out.cell (j := 0) rfl
  have a1 := BA.out.cell (j := 1) rfl
  have b0 := BB.out.cell (j := 0) rfl
  have b1 := BB.out.cell (j := 1) rfl
  have b2 := BB.out.cell (j := 2) rfl
  have RAn := hid (fun W (hW : Below v3.heap.size v3 W) => RA.out W (HB.out.trans (hW.mono HB.out.size)))
  have TTn := hid (fun W (hW : Below v3.heap.size v3 W) => TT.out W (HB.out.trans (hW.mono HB.out.size)))
  go_region_held3 (fun w' => w'.cell? ⟨w.heap.size, 0, none⟩ = some (.slice ax kx cx) ∧ w'.cell? ⟨w.heap.size, 1, none⟩ = some (.slice ao ko co) ∧ w'.cell? ⟨w.heap.size + 1, 0, none⟩ = some (.bool ts) ∧ w'.cell? ⟨w.heap.size + 1, 1, none⟩ = some (.slice tx tn tc) ∧ w'.cell? ⟨w.heap.size + 1, 2, none⟩ = some (.slice ty tm td))
    (refine ⟨?_, ?_, ?_, ?_, ?_⟩ <;> repeat (with_reducible first | assumption | refine kCd ?_ | refine kCb (by assumption) ?_))
    (first
      | (go_at_call 11; with_reducible refine (RAn.out _ (by repeat (with_reducible first | assumption | exact Below.refl _ _ | refine Below.drew ?_ | refine kBa ?_ | refine kBb (by assumption) ?_))).mono ?_; rintro e u1 ⟨z2, c2, Y2, z3, c3, X3, rfl, hb1, H1⟩)
      | (go_at_call 18; with_reducible refine (TTn.out _ (by repeat (with_reducible first | assumption | exact Below.refl _ _ | refine Below.drew ?_ | refine kBa ?_ | refine kBb (by assumption) ?_))).mono ?_; rintro e u2 ⟨t', rfl, hb2, H2⟩)
      | (go_at_call 17; with_reducible refine (AL.out _ t' z2 c2 Y2 z3 c3 X3 ⟨H1.out.1.below (by repeat (with_reducible first | assumption | exact Below.refl _ _ | refine Below.drew ?_ | refine kBa ?_ | refine kBb (by assumption) ?_)), H1.out.2.below (by repeat (with_reducible first | assumption | exact Below.refl _ _ | refine Below.drew ?_ | refine kBa ?_ | refine kBb (by assumption) ?_))⟩ ⟨H2.out.1, H2.out.2.below (by repeat (with_reducible first | assumption | exact Below.refl _ _ | refine Below.drew ?_ | refine kBa ?_ | refine kBb (by assumption) ?_))⟩).mono ?_; rintro e v4 ⟨al, nl, cl, rfl, hb3, HA⟩))
  all_goals
    have hb : Below v3.heap.size v3 v4 := (by repeat (with_reducible first | assumption | exact Below.refl _ _ | refine Below.drew ?_ | refine kBa ?_ | refine kBb (by assumption) ?_))
    replace HB := hid (HB.out.trans (hb.mono HB.out.size)); replace BA := hid (BA.out.below hb); replace BB := hid (BB.out.below hb)
    clear hb a0 a1 b0 b1 b2 RAn TTn hb1 hb2 hb3 H1 H2 RA TT AL
    have a0 := BA.out.cell (j := 0) rfl
    have a1 := BA.out.cell (j := 1) rfl
    have b0 := BB.out.cell (j := 0) rfl
    have b1 := BB.out.cell (j := 1) rfl
    have b2 := BB.out.cell (j := 2) rfl
    go_wp2_with fail
    clear a0 a1 b0 b1 b2
    refine (DA.out _ HB.out).mono ?_
    rintro e v5 ⟨ad, nd, cd, rfl, hb, HD⟩
    have HS : Hid (er ≠ 0 ∧ (nl = 0 ∧ nd = 0) ∨ er = 0 ∧ (nl = kx ∧ nd = kx) ∧ (alng (psOf kx Y) (psOf ko X) q).length = kx ∧ Rf (KL 8) v5 al (alng (psOf kx Y) (psOf ko X) q) ∧ Rf (KD 8) v5 ad (alng (psOf kx Y) (psOf ko X) q)) := by
      rcases HA.out with ⟨h0, h1⟩ | ⟨h0, h1, h2, h3⟩
      · rcases HD.out with ⟨_, k1⟩ | ⟨k0, _⟩
        · exact .inl ⟨h0, h1, k1⟩
        · exact absurd k0 h0
      · rcases HD.out with ⟨k0, _⟩ | ⟨_, k1, k2⟩
        · exact absurd h0 k0
        · exact .inr ⟨h0, ⟨h1, k1⟩, h2, h3.below hb, k2⟩
    replace HB := hid (HB.out.trans (hb.mono HB.out.size))
    clear hb HA HD BA BB DA
    go_wp2_with fail
    refine (sameAl_c (ca := cl) (cb := cd) (L := 8) (by decide) HL.out HS.out).mono ?_
    rintro e v6 ⟨rfl, hb⟩
    replace HB := hid (HB.out.trans (hb.mono HB.out.size))
    clear hb HS
    go_wp2
    go_ret
    exact ⟨by simp, HB.out⟩
/-- RayAlongs, by what views give. -/
theorem rayAlongs_x {w : World} {ax : Option Addr} {kx cx : Nat} {Y : Nat → Nm} {ao : Option Addr} {ko co : Nat} {X : Nat → Nm} {t : Nm} (hy : Rr w ax kx Y) (hx : Rr w ao ko X) (hkx : kx ≤ 9223372036854775807) (hko : ko ≤ 9223372036854775807) (ht : NmB w t) :
    Calls Tryz.prog 4 #[.agg #[.slice ax kx cx, .slice ao ko co], .agg #[.bool t.s, .slice t.x t.n t.c, .slice t.y t.m t.d]] w fun e w' => e = .returned (.bool true) ∧ Below w.heap.size w w' := rayAlongs_c hy hx hkx hko ht.1
end Go.Proofs.YtlemkhgicdnlnaaGreat
