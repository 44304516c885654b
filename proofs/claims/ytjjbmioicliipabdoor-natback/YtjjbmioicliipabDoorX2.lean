/-
  Walks of package nat's reading: joinPieces, fromDigits, Read.
-/
import Derived.Test.YtjjbmioicliipabDoorX1
import Derived.Test.YtjjbmioicliipabDoorT5
import Derived.Deep.CutRange
import Derived.Deep.RegionHeld3
namespace Go.Proofs.YtjjbmioicliipabDoor
open Go.RowKit

set_option maxRecDepth 100000 in
set_option maxHeartbeats 4000000 in
theorem join_c (c : Nat) : ∀ (s : ByteArray) (L : Nat) (b : Nat → Nat) (bo : Option Addr) (cb : Nat) (w : World) (_ : Sb s L b) (_ : Dig b L) (_ : L ≤ 19 * 2 ^ c) (_ : Bas w bo c) (_ : c ≤ cb) (_ : cb ≤ maxLen) (_ : bo = none → cb = 0) (_ : c ≤ 30),
    Calls Tryd.prog 36 #[.string s, .slice bo c cb] w fun e w' => ∃ ao k cap f, e = .returned (.slice ao k cap) ∧ Res (4 * 2 ^ c) w w' ao k cap f ∧ vf f k = (dn b L : Nat) := by
  induction c with
  | zero =>
    intro s L b bo cb w hs hd hL hbas hcb hcbm hnil hc30
    have C1 := hid (readPiece_c s L b w hs (by simpa using hL) hd)
    have hlt : dn b L < 10 ^ 19 := Nat.lt_of_lt_of_le (dn_lt hd) (Nat.pow_le_pow_right (by decide) (by simpa using hL))
    obtain ⟨V, hV⟩ : ∃ V, dn b L = V := ⟨_, rfl⟩
    rw [hV] at C1 hlt ⊢
    have hlt2 : (V : Int) < 18446744073709551616 := by omega
    clear hs hd hL hbas hV hlt hnil
    go_enter Tryd.func36, Tryd.ntmps36
    go_wp2_with fail
    refine C1.out.mono ?_
    rintro e w1 ⟨rfl, rfl⟩
    go_wp2_with fail
    refine (fromWord_c V _ (by omega) hlt2).mono ?_
    rintro e w1 ⟨ao, k, cap, f, rfl, hres, hv⟩
    have HV := hid hv
    clear hv
    go_wp2
    go_ret
    exact ⟨ao, k, cap, f, rfl, hres.mono (by omega), HV.out⟩
  | succ c ih =>
    intro s L b bo cb w hs hd hL hbas hcb hcbm hnil hc30
    have IH := hid ih
    obtain ⟨p, hp⟩ : ∃ p, p = 2 ^ c := ⟨_, rfl⟩
    have hp0 : 1 ≤ p := by rw [hp]; exact Nat.pow_pos (by decide)
    have hp1 : p ≤ 1073741824 := by rw [hp]; exact Nat.pow_le_pow_right (n := 2) (by decide) (show c ≤ 30 by omega)
    have e4 : 4 * 2 ^ (c + 1) = 8 * p := by rw [Nat.pow_succ, ← hp]; omega
    rw [e4]
    have hL2 : L ≤ 2 * (19 * p) := by rw [Nat.pow_succ, ← hp] at hL; omega
    obtain ⟨K, hK⟩ : ∃ K, K = 19 * p := ⟨_, rfl⟩
    have hsh : IntKind.i64.wrap (19 * 2 ^ c) = (K : Int) := by
      have : (19 * 2 ^ c : Int) = K := by rw [hK, hp]; simp
      rw [this, IntKind.wrap_i64]; omega
    obtain ⟨cut, hcut⟩ : ∃ cut, cut = L - K := ⟨_, rfl⟩
    have hmax : max ((L : Int) - (K : Int)) 0 = (cut : Int) := by omega
    have hcL : cut ≤ L := by omega
    have hval : (dn b L : Int) = (dn b cut : Int) * tens c + (dn (bsh b cut) (L - cut) : Int) := by
      have e1 := dn_split b cut (L - cut)
      rw [show cut + (L - cut) = L by omega] at e1
      rw [e1]
      by_cases h : K ≤ L
      · have : L - cut = 19 * 2 ^ c := by rw [← hp]; omega
        rw [this]; unfold tens; simp
      · have : cut = 0 := by omega
        rw [this]; simp [dn]
    have hs1 := hs.take hcL
    have hs2 := hs.drop hcL
    obtain ⟨gb, u, arr, fr, hbo, hg, hcu, hnum⟩ := hbas c (by omega)
    subst hbo
    have hB0 := hbas.take (show c ≤ c + 1 by omega)
    have hsz := hs.1
    subst hsz
    have C1 := hid (fun W (h : Bas W (some ⟨gb, 0, none⟩) c) => ih (s.extract 0 cut) cut b (some ⟨gb, 0, none⟩) cb W hs1 (hd.mono hcL) (by rw [← hp]; omega) h (by omega) hcbm hnil (by omega))
    have C2 := hid (fun W (h : Bas W (some ⟨gb, 0, none⟩) c) => ih (s.extract cut s.size) (s.size - cut) (bsh b cut) (some ⟨gb, 0, none⟩) cb W hs2 (hd.bsh (by omega)) (by rw [← hp]; omega) h (by omega) hcbm hnil (by omega))
    have HVal := hid hval; have BAS := hid hbas; have BAS0 := hid hB0; have HPe := hid hp
    rw [← hp] at C1 C2
    have q1 : (cut : Int) ≤ (s.size : Int) := by omega
    have q2 : (c : Int) ≤ (cb : Int) := by omega
    have q3 : (c : Int) ≤ ((c + 1 : Nat) : Int) := by omega
    unfold maxLen at hcbm
    have hK2 : K ≤ 20401094656 := by omega
    have hL3 : s.size ≤ 40802189312 := by omega
    clear hs hd hL hbas hval hs1 hs2 hg hcu hnum hB0 hp e4 hK hcut hnil ih IH hL2 arr fr u
    go_enter Tryd.func36, Tryd.ntmps36
    go_upto_region 5 with fail
    go_cut [7] from 23 to 29 (fun v wx => ∃ ao k cap f, v = .slice ao k cap ∧ Res (4 * p) w wx ao k cap f ∧ vf f k = (dn b cut : Nat))
    case first =>
      go_region_with (go_at_call 36; refine (C1.out _ (by exact BAS0.out)).mono ?_; rintro e wl ⟨a1, k1, c1, f1, rfl, hres1, hv1⟩; have HV1 := hid hv1; clear hv1)
      all_goals
        go_wp2_with fail
        go_meet
        have B := hres1.bel
        exact ⟨a1, k1, c1, f1, rfl, hres1.ahead (by repeat (first | exact Below.refl _ _ | refine below_drewN ?_ _ | refine Below.drew ?_)), HV1.out⟩
    case rest =>
    rename World => w1
    obtain ⟨a1, k1, c1, f1, rfl, hres1, hv1⟩ := hcut
    have RES1 := hid hres1; have HV1 := hid hv1
    have BAS1 := hid (BAS.out.below hres1.bel); have BAS01 := hid (BAS0.out.below hres1.bel)
    clear hres1 hv1 BAS BAS0 C1
    go_upto_region 6 with fail
    go_cut [8] from 30 to 36 (fun v wx => ∃ ao k cap f, v = .slice ao k cap ∧ Res (4 * p) w1 wx ao k cap f ∧ vf f k = (dn (bsh b cut) (s.size - cut) : Nat))
    case first =>
      go_region_with (go_at_call 36; refine (C2.out _ (by exact BAS01.out)).mono ?_; rintro e wl ⟨a2, k2, c2, f2, rfl, hres2, hv2⟩; have HV2 := hid hv2; clear hv2)
      all_goals
        go_wp2_with fail
        go_meet
        have B := hres2.bel
        exact ⟨a2, k2, c2, f2, rfl, hres2.ahead (by repeat (first | exact Below.refl _ _ | refine below_drewN ?_ _ | refine Below.drew ?_)), HV2.out⟩
    case rest =>
    rename World => w2
    obtain ⟨a2, k2, c2, f2, rfl, hres2, hv2⟩ := hcut
    have BAS2 := hid (BAS1.out.below hres2.bel)
    obtain ⟨gb', u, arr, fr, hbo, hg, hcu, hnum⟩ := BAS2.out c (by omega)
    cases hbo
    obtain ⟨a3, n3, c3, f3, rfl, hr3, ht3, hl3, hf3, hn3, hvf3, hcap3, hcapm3⟩ := hnum
    rw [← HPe.out] at hn3
    have l1 := RES1.out.ncap
    have l2 := hres2.ncap
    have R1 := hid (RES1.out.rd.below hres2.bel (Nat.le_refl _)); have L1 := hid RES1.out.lm; have BE1 := hid RES1.out.bel; have BE2 := hid hres2.bel
    have R2 := hid hres2.rd; have L2 := hid hres2.lm; have HV2 := hid hv2; have R3 := hid hr3; have L3 := hid hl3; have HV3 := hid hvf3
    clear hres2 hv2 hr3 ht3 hl3 hf3 hvf3 hg BAS1 BAS01 BAS2 C2 RES1
    go_wp2_with fail
    refine (mul_c a1 a3 k1 n3 c1 c3 f1 f3 w2 (by omega) (by omega) l1.1 hcap3 (by omega) hcapm3 R1.out R3.out L1.out L3.out).mono ?_
    rintro e w3 ⟨a4, k4, c4, f4, rfl, hres4, hv4⟩
    have HV4 := hid hv4; have l4 := hres4.ncap
    have R4 := hid hres4.rd; have L4 := hid hres4.lm; have R22 := hid (R2.out.below hres4.bel (Nat.le_refl _)); have BE4 := hid hres4.bel
    clear hv4 hres4 R2 R1 R3
    go_wp2_with fail
    refine (add_c a4 a2 k4 k2 c4 c2 f4 f2 w3 (by omega) (by omega) R4.out R22.out L4.out L2.out).mono ?_
    rintro e w4 ⟨a5, k5, c5, f5, rfl, hres5, hv5⟩
    have HV5 := hid hv5
    clear hv5
    go_wp2
    go_ret
    have z1 := BE1.out.size; have z2 := BE2.out.size
    refine ⟨a5, k5, c5, f5, rfl, (hres5.ahead (BE1.out.trans ((BE2.out.mono z1).trans (BE4.out.mono (by omega))))).mono (by omega), ?_⟩
    rw [HV5.out, HV4.out, HV1.out, HV2.out, HV3.out, HVal.out]
end Go.Proofs.YtjjbmioicliipabDoor
