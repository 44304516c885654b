/-
  Walks of package nat's reading: isNumber, readPiece. The walk of the document's reference for nat: Text. Walks of package nat's reading: joinPieces, fromDigits, Read. Walks of package nat's reading: fromDigits, Read. Walks of nat's Text, and of the document's reference: DocText, DocRead. Walks of package whole's calls Text, Read. The walk of package whole's call Read. What the walks of whole's statements share: light, boxes and numbers carried along. Rational numbers in lowest terms: what numerators and denominators become by sums, products, quotients. Walks of package rat's helpers: isOne, one, gcd, over, numerator, denominator, signed. Rational numbers in form that can be read; the walks of package rat's add and mul. Walks of package rat's calls Form, Add, Sub, Mul, Quo on numbers in form; the document's Same and Light. Walks of the document's reference for whole: Form, From, Text, Read, DocText, DocRead. Walks of the document's reference for rat: word, Mk of short numbers. Walks of the document's reference for rat: Mk of short numbers. Walks of the document's reference for rat: To, DocMake of short numbers; the statements' own num. Walks of the statements' own num, and of package rat's calls Make and Floor. The walk of package rat's call Floor.
-/
import Derived.Test.YtlpmfmphglgocaaGreatDoorZ0
import Derived.Test.YtlpmfmphglgocaaGreatDoorZ1
import Derived.Test.YtlpmfmphglgocaaGreatDoorZ2
import Derived.Test.YtlpmfmphglgocaaGreatDoorZ3
import Derived.Test.YtlpmfmphglgocaaGreatDoorZ4
import Derived.Test.YtlpmfmphglgocaaGreatDoorZ5
import Derived.Test.YtlpmfmphglgocaaGreatDoorZ6
import Derived.Test.YtlpmfmphglgocaaGreatDoorZ7
import Derived.Test.YtlpmfmphglgocaaGreatDoorZ8
import Derived.Test.YtlpmfmphglgocaaGreatDoorZ9
import Derived.Test.YtlpmfmphglgocaaGreatDoorYRatkeeps0
import Derived.Deep.CutRange
import Derived.Deep.RegionHeld3
namespace Go.Proofs.YtlpmfmphglgocaaGreatDoor
open Go.RowKit

/-- The string has the bytes b, L of them. -/
def Sb (s : ByteArray) (L : Nat) (b : Nat → Nat) : Prop := s.size = L ∧ ∀ k (h : k < s.size), (s[k]'h).toNat = b k
/-- All are decimal digits. -/
def Dig (b : Nat → Nat) (L : Nat) : Prop := ∀ k, k < L → 48 ≤ b k ∧ b k ≤ 57
def bsh (b : Nat → Nat) (i : Nat) : Nat → Nat := fun k => b (i + k)
theorem dn_split (b : Nat → Nat) (i n : Nat) : dn b (i + n) = dn b i * 10 ^ n + dn (bsh b i) n := by
  induction n with
  | zero => simp [dn]
  | succ n ih =>
    show dn b (i + n) * 10 + (b (i + n) - 48) = dn b i * 10 ^ (n + 1) + (dn (bsh b i) n * 10 + (b (i + n) - 48))
    rw [ih, Nat.pow_succ]
    grind
theorem dn_lt {b : Nat → Nat} {n : Nat} (h : Dig b n) : dn b n < 10 ^ n := by
  induction n with
  | zero => simp [dn]
  | succ n ih =>
    have h1 := ih (fun k hk => h k (by omega))
    have h2 := h n (by omega)
    show dn b n * 10 + (b n - 48) < 10 ^ (n + 1)
    rw [Nat.pow_succ]; omega
theorem Dig.mono {b L L'} (h : Dig b L) (hl : L' ≤ L) : Dig b L' := fun k hk => h k (by omega)
theorem Dig.bsh {b L i n} (h : Dig b L) (hl : i + n ≤ L) : Dig (bsh b i) n := fun k hk => h (i + k) (by omega)
theorem Sb.take {s L b} (h : Sb s L b) {c : Nat} (hc : c ≤ L) : Sb (s.extract 0 c) c b := by
  obtain ⟨h1, h2⟩ := h
  refine ⟨by simp; omega, fun k hk => ?_⟩
  have hk' : k < c := by simp at hk; omega
  have := h2 k (by omega)
  rw [← this, ByteArray.getElem_extract]
  simp
theorem Sb.drop {s L b} (h : Sb s L b) {c : Nat} (hc : c ≤ L) : Sb (s.extract c L) (L - c) (bsh b c) := by
  obtain ⟨h1, h2⟩ := h
  refine ⟨by simp; omega, fun k hk => ?_⟩
  have hk' : k < L - c := by simp at hk; omega
  have := h2 (c + k) (by omega)
  show _ = b (c + k)
  rw [← this, ByteArray.getElem_extract]

set_option maxRecDepth 100000 in
set_option maxHeartbeats 1000000 in
theorem readPiece_c (s : ByteArray) (L : Nat) (b : Nat → Nat) (w : World) (hs : Sb s L b) (hL : L ≤ 19) (hd : Dig b L) :
    Calls Tryz.prog 178 #[.string s] w fun e w' => e = .returned (.int .u64 (dn b L)) ∧ w' = w := by
  obtain ⟨rfl, hb⟩ := hs
  have HB := hid hb
  have HD := hid hd
  clear hb hd
  go_enter Tryz.func178, Tryz.ntmps178
  go_wp2
  go_loop [3, 7] (fun c t => ∃ (k v : Nat), k ≤ s.size ∧ t = .int .i64 k ∧ c = .int .u64 v ∧ Hid (dn b k = v)) (fun _ t => s.size - (intOf t).toNat)
  case atStart => exact ⟨0, 0, by omega, rfl, rfl, rfl⟩
  case round =>
    obtain ⟨k, v, hk, rfl, rfl, HV⟩ := hrel
    by_cases hlt : k < s.size
    · obtain ⟨x, hx⟩ : ∃ x, b k = x := ⟨_, rfl⟩
      have hc : (s[k]'hlt).toNat = x := by rw [HB.out k hlt, hx]
      have hx1 := HD.out k hlt
      rw [hx] at hx1
      obtain ⟨x0, x1⟩ := hx1
      have hv : v < 10 ^ k := by rw [← HV.out]; exact dn_lt (HD.out.mono (by omega))
      have hv2 : v < 10 ^ 18 := Nat.lt_of_lt_of_le hv (Nat.pow_le_pow_right (by decide) (by omega))
      have hv3 : (v : Int) < 1000000000000000000 := by omega
      have hsub : ((x : Int) - 48) % 256 = ((x - 48 : Nat) : Int) := by omega
      have HX := hid hx
      clear hv hv2 hx
      go_wp2
      go_round
      case rel =>
        refine ⟨k + 1, v * 10 + (x - 48), by omega, by go_num, ?_, ?_⟩
        · congr 1; omega
        · show dn b k * 10 + (b k - 48) = _
          rw [HV.out, HX.out]
      case measure => simp [intOf]; omega
    · obtain rfl : k = s.size := by omega
      go_wp2
      go_ret
      exact ⟨by rw [HV.out]; rfl, rfl⟩

/-- isNumber, told. -/
def IsNum (b : Nat → Nat) (L : Nat) : Prop := Dig b L ∧ 0 < L ∧ (L = 1 ∨ b 0 ≠ 48)
def digB (b : Nat → Nat) : Nat → Bool | 0 => true | n + 1 => digB b n && (decide (48 ≤ b n) && decide (b n ≤ 57))
theorem digB_iff (b : Nat → Nat) (L : Nat) : digB b L = true ↔ Dig b L := by
  induction L with
  | zero => exact ⟨fun _ k hk => by omega, fun _ => rfl⟩
  | succ n ih =>
    simp only [digB, Bool.and_eq_true, decide_eq_true_eq, ih]
    constructor
    · rintro ⟨h, h1, h2⟩ k hk
      by_cases hkn : k = n
      · subst hkn; exact ⟨h1, h2⟩
      · exact h k (by omega)
    · exact fun h => ⟨fun k hk => h k (by omega), h n (by omega)⟩
def numB (b : Nat → Nat) (L : Nat) : Bool := digB b L && (decide (0 < L) && (decide (L = 1) || !decide (b 0 = 48)))
theorem numB_iff (b : Nat → Nat) (L : Nat) : numB b L = true ↔ IsNum b L := by
  simp [numB, IsNum, digB_iff]
theorem numB_true {b : Nat → Nat} {L : Nat} (h : IsNum b L) : numB b L = true := (numB_iff b L).2 h
theorem numB_false {b : Nat → Nat} {L : Nat} (h : ¬ IsNum b L) : numB b L = false := by
  cases hn : numB b L
  · rfl
  · exact absurd ((numB_iff b L).1 hn) h

theorem sb_eq {s t : ByteArray} {L : Nat} {b : Nat → Nat} (hs : Sb s L b) (ht : Sb t L b) : s = t := by
  obtain ⟨h1, h2⟩ := hs
  obtain ⟨h3, h4⟩ := ht
  apply ByteArray.ext_getElem (by omega)
  intro i hi hj
  apply UInt8.toNat_inj.1
  rw [h2 i hi, h4 i hj]
theorem sb_zero {s : ByteArray} {b : Nat → Nat} (hs : Sb s 1 b) (h : b 0 = 48) : s = ⟨#[48]⟩ := by
  refine sb_eq hs ⟨rfl, fun k hk => ?_⟩
  obtain rfl : k = 0 := by have : (ByteArray.mk #[48]).size = 1 := rfl
                           omega
  rw [h]; rfl
theorem toList_ne {s t : ByteArray} (h : s ≠ t) : (s.toList == t.toList) = false := by
  simp only [ByteArray.toList_eq, beq_eq_false_iff_ne]
  intro he
  exact h (ByteArray.ext (Array.toList_inj.1 he))
theorem toList_isE {s : ByteArray} (h : s.size ≠ 0) : s.toList.isEmpty = false := by
  rw [ByteArray.toList_eq]
  have : s.data.size ≠ 0 := h
  cases hl : s.data.toList with
  | nil => exact absurd (by rw [← Array.length_toList, hl]; rfl) this
  | cons a l => rfl

set_option maxRecDepth 100000 in
set_option maxHeartbeats 1000000 in
theorem isNumber_c (s : ByteArray) (L : Nat) (b : Nat → Nat) (w : World) (hs : Sb s L b) (hL : L ≤ 9223372036854775807) :
    Calls Tryz.prog 125 #[.string s] w fun e w' => e = .returned (.bool (numB b L)) ∧ w' = w := by
  have HSb := hid hs
  obtain ⟨rfl, hb⟩ := hs
  have HB := hid hb
  clear hb
  obtain ⟨R, hR⟩ : ∃ R, numB b s.size = R := ⟨_, rfl⟩
  rw [hR]
  have HRe := hid hR
  clear hR
  go_enter Tryz.func125, Tryz.ntmps125
  go_wp2
  go_loop [6] (fun t => ∃ (k : Nat), k ≤ s.size ∧ t = .int .i64 k ∧ Hid (Dig b k)) (fun t => s.size - (intOf t).toNat)
  case atStart => exact ⟨0, by omega, rfl, fun j hj => by omega⟩
  case round =>
    obtain ⟨k, hk, rfl, HD⟩ := hrel
    by_cases hlt : k < s.size
    · obtain ⟨x, hx⟩ : ∃ x, b k = x := ⟨_, rfl⟩
      have hc : (s[k]'hlt).toNat = x := by rw [HB.out k hlt, hx]
      have HX := hid hx
      clear hx
      by_cases h1 : x < 48
      · have h1b : decide ((x : Int) < 48) = true := by simp; omega
        have hf : R = false := by rw [← HRe.out]; exact numB_false (fun h => by have := h.1 k hlt; rw [HX.out] at this; omega)
        subst hf
        go_wp2
        go_ret
        exact ⟨rfl, rfl⟩
      · have h1b : decide ((x : Int) < 48) = false := by simp; omega
        by_cases h2 : 57 < x
        · have h2b : decide ((57 : Int) < x) = true := by simp; omega
          have hf : R = false := by rw [← HRe.out]; exact numB_false (fun h => by have := h.1 k hlt; rw [HX.out] at this; omega)
          subst hf
          go_wp2
          go_ret
          exact ⟨rfl, rfl⟩
        · have h2b : decide ((57 : Int) < x) = false := by simp; omega
          go_wp2
          go_round
          case rel =>
            refine ⟨k + 1, by omega, by go_num, fun j hj => ?_⟩
            by_cases hjk : j = k
            · subst hjk; rw [HX.out]; omega
            · exact HD.out j (by omega)
          case measure => simp [intOf]; omega
    · obtain rfl : k = s.size := by omega
      by_cases h0 : s.size = 0
      · have e0 : s = ⟨#[]⟩ := by
          have : s.data.size = 0 := h0
          cases s with | mk d => simp at this; subst this; rfl
        have hf : R = false := by rw [← HRe.out]; exact numB_false (fun h => by have := h.2.1; omega)
        subst hf
        subst e0
        go_wp2
        go_ret
        exact ⟨rfl, rfl⟩
      · obtain ⟨x, hx⟩ : ∃ x, b 0 = x := ⟨_, rfl⟩
        have hc : (s[0]'(by omega)).toNat = x := by rw [HB.out 0 (by omega), hx]
        have HX := hid hx
        clear hx
        by_cases hz : s = ⟨#[48]⟩
        · have h1 : s.size = 1 := by rw [hz]; rfl
          have hf : R = true := by rw [← HRe.out]; exact numB_true ⟨HD.out, by omega, .inl h1⟩
          subst hf
          clear h1 hc
          subst hz
          go_wp2
          go_ret
          exact ⟨rfl, rfl⟩
        · have heq : (s.toList == [48]) = false := by have := toList_ne hz; rwa [ByteArray.toList_eq ⟨#[48]⟩] at this
          have hem := toList_isE h0
          by_cases hx0 : x = 48
          · have hf : R = false := by
              rw [← HRe.out]
              refine numB_false (fun h => ?_)
              rcases h.2.2 with h1 | h1
              · have hs := HSb.out
                rw [h1] at hs
                exact hz (sb_zero hs (by rw [HX.out]; exact hx0))
              · rw [HX.out] at h1; exact h1 hx0
            subst hf
            have hxb : ((x : Int) != 48) = false := by simp; omega
            clear hz
            go_wp2
            go_ret
            exact ⟨rfl, rfl⟩
          · have hf : R = true := by rw [← HRe.out]; exact numB_true ⟨HD.out, by omega, .inr (by rw [HX.out]; exact hx0)⟩
            subst hf
            have hxb : ((x : Int) != 48) = true := by simp; omega
            clear hz
            go_wp2
            go_ret
            exact ⟨rfl, rfl⟩
end Go.Proofs.YtlpmfmphglgocaaGreatDoor
namespace Go.Proofs.YtlpmfmphglgocaaGreatDoor
open Go.RowKit

theorem Sb.congr {s L b c} (h : Sb s L b) (he : ∀ k, k < L → b k = c k) : Sb s L c := ⟨h.1, fun k hk => by rw [h.2 k hk, he k (by have := h.1; omega)]⟩
end Go.Proofs.YtlpmfmphglgocaaGreatDoor
namespace Go.Proofs.YtlpmfmphglgocaaGreatDoor
open Go.RowKit

set_option maxRecDepth 100000 in
set_option maxHeartbeats 4000000 in
theorem join_c (c : Nat) : ∀ (s : ByteArray) (L : Nat) (b : Nat → Nat) (bo : Option Addr) (cb : Nat) (w : World) (_ : Sb s L b) (_ : Dig b L) (_ : L ≤ 19 * 2 ^ c) (_ : Bas w bo c) (_ : c ≤ cb) (_ : cb ≤ maxLen) (_ : bo = none → cb = 0) (_ : c ≤ 30),
    Calls Tryz.prog 162 #[.string s, .slice bo c cb] w fun e w' => ∃ ao k cap f, e = .returned (.slice ao k cap) ∧ Res (4 * 2 ^ c) w w' ao k cap f ∧ vf f k = (dn b L : Nat) := by
  induction c with
  | zero =>
    intro s L b bo cb w hs hd hL hbas hcb hcbm hnil hc30
    have C1 := hid (readPiece_c s L b w hs (by simpa using hL) hd)
    have hlt : dn b L < 10 ^ 19 := Nat.lt_of_lt_of_le (dn_lt hd) (Nat.pow_le_pow_right (by decide) (by simpa using hL))
    obtain ⟨V, hV⟩ : ∃ V, dn b L = V := ⟨_, rfl⟩
    rw [hV] at C1 hlt ⊢
    have hlt2 : (V : Int) < 18446744073709551616 := by omega
    clear hs hd hL hbas hV hlt hnil
    go_enter Tryz.func162, Tryz.ntmps162
    go_wp2_with fail
    refine C1.out.mono ?_
    rintro e w1 ⟨rfl, rfl⟩
    go_wp2_with fail
    refine (fromWord_c V _ (by omega) hlt2).mono ?_
    rintro e w1 ⟨ao, k, cap, f, rfl, hres, hv⟩
    have HV := hid hv
    clear hv
    go_wp2
    go_ret
    exact ⟨ao, k, cap, f, rfl, hres.mono (by omega), HV.out⟩
  | succ c ih =>
    intro s L b bo cb w hs hd hL hbas hcb hcbm hnil hc30
    have IH := hid ih
    obtain ⟨p, hp⟩ : ∃ p, p = 2 ^ c := ⟨_, rfl⟩
    have hp0 : 1 ≤ p := by rw [hp]; exact Nat.pow_pos (by decide)
    have hp1 : p ≤ 1073741824 := by rw [hp]; exact Nat.pow_le_pow_right (n := 2) (by decide) (show c ≤ 30 by omega)
    have e4 : 4 * 2 ^ (c + 1) = 8 * p := by rw [Nat.pow_succ, ← hp]; omega
    rw [e4]
    have hL2 : L ≤ 2 * (19 * p) := by rw [Nat.pow_succ, ← hp] at hL; omega
    obtain ⟨K, hK⟩ : ∃ K, K = 19 * p := ⟨_, rfl⟩
    have hsh : IntKind.i64.wrap (19 * 2 ^ c) = (K : Int) := by
      have : (19 * 2 ^ c : Int) = K := by rw [hK, hp]; simp
      rw [this, IntKind.wrap_i64]; omega
    obtain ⟨cut, hcut⟩ : ∃ cut, cut = L - K := ⟨_, rfl⟩
    have hmax : max ((L : Int) - (K : Int)) 0 = (cut : Int) := by omega
    have hcL : cut ≤ L := by omega
    have hval : (dn b L : Int) = (dn b cut : Int) * tens c + (dn (bsh b cut) (L - cut) : Int) := by
      have e1 := dn_split b cut (L - cut)
      rw [show cut + (L - cut) = L by omega] at e1
      rw [e1]
      by_cases h : K ≤ L
      · have : L - cut = 19 * 2 ^ c := by rw [← hp]; omega
        rw [this]; unfold tens; simp
      · have : cut = 0 := by omega
        rw [this]; simp [dn]
    have hs1 := hs.take hcL
    have hs2 := hs.drop hcL
    obtain ⟨gb, u, arr, fr, hbo, hg, hcu, hnum⟩ := hbas c (by omega)
    subst hbo
    have hB0 := hbas.take (show c ≤ c + 1 by omega)
    have hsz := hs.1
    subst hsz
    have C1 := hid (fun W (h : Bas W (some ⟨gb, 0, none⟩) c) => ih (s.extract 0 cut) cut b (some ⟨gb, 0, none⟩) cb W hs1 (hd.mono hcL) (by rw [← hp]; omega) h (by omega) hcbm hnil (by omega))
    have C2 := hid (fun W (h : Bas W (some ⟨gb, 0, none⟩) c) => ih (s.extract cut s.size) (s.size - cut) (bsh b cut) (some ⟨gb, 0, none⟩) cb W hs2 (hd.bsh (by omega)) (by rw [← hp]; omega) h (by omega) hcbm hnil (by omega))
    have HVal := hid hval; have BAS := hid hbas; have BAS0 := hid hB0; have HPe := hid hp
    rw [← hp] at C1 C2
    have q1 : (cut : Int) ≤ (s.size : Int) := by omega
    have q2 : (c : Int) ≤ (cb : Int) := by omega
    have q3 : (c : Int) ≤ ((c + 1 : Nat) : Int) := by omega
    unfold maxLen at hcbm
    have hK2 : K ≤ 20401094656 := by omega
    have hL3 : s.size ≤ 40802189312 := by omega
    clear hs hd hL hbas hval hs1 hs2 hg hcu hnum hB0 hp e4 hK hcut hnil ih IH hL2 arr fr u
    go_enter Tryz.func162, Tryz.ntmps162
    go_upto_region 5 with fail
    go_cut [7] from 23 to 29 (fun v wx => ∃ ao k cap f, v = .slice ao k cap ∧ Res (4 * p) w wx ao k cap f ∧ vf f k = (dn b cut : Nat))
    case first =>
      go_region_with (go_at_call 162; refine (C1.out _ (by exact BAS0.out)).mono ?_; rintro e wl ⟨a1, k1, c1, f1, rfl, hres1, hv1⟩; have HV1 := hid hv1; clear hv1)
      all_goals
        go_wp2_with fail
        go_meet
        have B := hres1.bel
        exact ⟨a1, k1, c1, f1, rfl, hres1.ahead (by repeat (first | exact Below.refl _ _ | refine below_drewN ?_ _ | refine Below.drew ?_)), HV1.out⟩
    case rest =>
    rename World => w1
    obtain ⟨a1, k1, c1, f1, rfl, hres1, hv1⟩ := hcut
    have RES1 := hid hres1; have HV1 := hid hv1
    have BAS1 := hid (BAS.out.below hres1.bel); have BAS01 := hid (BAS0.out.below hres1.bel)
    clear hres1 hv1 BAS BAS0 C1
    go_upto_region 6 with fail
    go_cut [8] from 30 to 36 (fun v wx => ∃ ao k cap f, v = .slice ao k cap ∧ Res (4 * p) w1 wx ao k cap f ∧ vf f k = (dn (bsh b cut) (s.size - cut) : Nat))
    case first =>
      go_region_with (go_at_call 162; refine (C2.out _ (by exact BAS01.out)).mono ?_; rintro e wl ⟨a2, k2, c2, f2, rfl, hres2, hv2⟩; have HV2 := hid hv2; clear hv2)
      all_goals
        go_wp2_with fail
        go_meet
        have B := hres2.bel
        exact ⟨a2, k2, c2, f2, rfl, hres2.ahead (by repeat (first | exact Below.refl _ _ | refine below_drewN ?_ _ | refine Below.drew ?_)), HV2.out⟩
    case rest =>
    rename World => w2
    obtain ⟨a2, k2, c2, f2, rfl, hres2, hv2⟩ := hcut
    have BAS2 := hid (BAS1.out.below hres2.bel)
    obtain ⟨gb', u, arr, fr, hbo, hg, hcu, hnum⟩ := BAS2.out c (by omega)
    cases hbo
    obtain ⟨a3, n3, c3, f3, rfl, hr3, ht3, hl3, hf3, hn3, hvf3, hcap3, hcapm3⟩ := hnum
    rw [← HPe.out] at hn3
    have l1 := RES1.out.ncap
    have l2 := hres2.ncap
    have R1 := hid (RES1.out.rd.below hres2.bel (Nat.le_refl _)); have L1 := hid RES1.out.lm; have BE1 := hid RES1.out.bel; have BE2 := hid hres2.bel
    have R2 := hid hres2.rd; have L2 := hid hres2.lm; have HV2 := hid hv2; have R3 := hid hr3; have L3 := hid hl3; have HV3 := hid hvf3
    clear hres2 hv2 hr3 ht3 hl3 hf3 hvf3 hg BAS1 BAS01 BAS2 C2 RES1
    go_wp2_with fail
    refine (mul_c a1 a3 k1 n3 c1 c3 f1 f3 w2 (by omega) (by omega) l1.1 hcap3 (by omega) hcapm3 R1.out R3.out L1.out L3.out).mono ?_
    rintro e w3 ⟨a4, k4, c4, f4, rfl, hres4, hv4⟩
    have HV4 := hid hv4; have l4 := hres4.ncap
    have R4 := hid hres4.rd; have L4 := hid hres4.lm; have R22 := hid (R2.out.below hres4.bel (Nat.le_refl _)); have BE4 := hid hres4.bel
    clear hv4 hres4 R2 R1 R3
    go_wp2_with fail
    refine (add_c a4 a2 k4 k2 c4 c2 f4 f2 w3 (by omega) (by omega) R4.out R22.out L4.out L2.out).mono ?_
    rintro e w4 ⟨a5, k5, c5, f5, rfl, hres5, hv5⟩
    have HV5 := hid hv5
    clear hv5
    go_wp2
    go_ret
    have z1 := BE1.out.size; have z2 := BE2.out.size
    refine ⟨a5, k5, c5, f5, rfl, (hres5.ahead (BE1.out.trans ((BE2.out.mono z1).trans (BE4.out.mono (by omega))))).mono (by omega), ?_⟩
    rw [HV5.out, HV4.out, HV1.out, HV2.out, HV3.out, HVal.out]
end Go.Proofs.YtlpmfmphglgocaaGreatDoor
namespace Go.Proofs.YtlpmfmphglgocaaGreatDoor
open Go.RowKit

set_option maxHeartbeats 1000000 in
theorem fromDigits_c (s : ByteArray) (L : Nat) (b : Nat → Nat) (w : World) (hs : Sb s L b) (hd : Dig b L) (hL : L ≤ 1048576) :
    Calls Tryz.prog 126 #[.string s] w fun e w' => ∃ ao k cap f, e = .returned (.slice ao k cap) ∧ Res 4294967296 w w' ao k cap f ∧ vf f k = (dn b L : Nat) := by
  obtain ⟨p, hp⟩ : ∃ p, p = (L + 18) / 19 := ⟨_, rfl⟩
  obtain ⟨c, hc⟩ : ∃ c, c = lev p := ⟨_, rfl⟩
  have hpc : p ≤ 2 ^ c := by rw [hc]; exact lev_ge p (by omega)
  have hc30 : c ≤ 16 := by rw [hc]; exact lev_le p 16 (by omega) (by omega)
  have hLc : L ≤ 19 * 2 ^ c := by omega
  have h2c : 2 ^ c ≤ 65536 := Nat.pow_le_pow_right (n := 2) (by omega) hc30
  have C1 := hid (levels_c p p w rfl (by omega))
  rw [← hc] at C1
  have C2 := hid (bases_c c w (by omega))
  have C3 := hid (fun bo cb W h1 h2 h3 h4 => join_c c s L b bo cb W hs hd hLc h1 h2 h3 h4 (by omega))
  have hsz := hs.1
  subst hsz
  have d1 : Int.tdiv ((s.size : Int) + 18) 19 = (p : Int) := by rw [Int.tdiv_eq_ediv_of_nonneg (by omega)]; omega
  have d2 : ((s.size : Int) + 18) / 19 = (p : Int) := by omega
  have d3 : Int.tdiv ((s.size : Int) + 19 - 1) 19 = (p : Int) := by rw [Int.tdiv_eq_ediv_of_nonneg (by omega)]; omega
  have d4 : ((s.size : Int) + 19 - 1) / 19 = (p : Int) := by omega
  have H2c := hid h2c
  clear hs hd hLc hpc hp hc h2c
  go_enter Tryz.func126, Tryz.ntmps126
  go_wp2_with fail
  refine C1.out.mono ?_
  rintro e w1 ⟨rfl, rfl⟩
  go_wp2_with fail
  refine C2.out.mono ?_
  rintro e w1 ⟨bo, cap, rfl, hbel, hcc, hcm, hnil, hbas⟩
  have HBel := hid hbel
  have C4 := hid (C3.out bo cap w1 hbas hcc hcm hnil)
  clear hbas hnil C3 C2 C1 hbel
  go_wp2_with fail
  refine C4.out.mono ?_
  rintro e w2 ⟨a1, k1, c1, f1, rfl, hres, hv⟩
  have HV := hid hv
  clear hv
  go_wp2
  go_ret
  exact ⟨a1, k1, c1, f1, rfl, (hres.ahead HBel.out).mono (by have := H2c.out; omega), HV.out⟩

/-- What Read answers. -/
def ReadAns (L : Nat) (b : Nat → Nat) (k : Nat) (f : Nat → Int) (er : Int) : Prop :=
  1048576 < L ∧ er = 2 ∧ k = 0 ∨ L ≤ 1048576 ∧ ¬ IsNum b L ∧ er = 11 ∧ k = 0 ∨ L ≤ 1048576 ∧ IsNum b L ∧ er = 0 ∧ vf f k = (dn b L : Nat)

set_option maxHeartbeats 1000000 in
theorem Read_c (s : ByteArray) (L : Nat) (b : Nat → Nat) (w : World) (hs : Sb s L b) :
    Calls Tryz.prog 100 #[.string s] w fun e w' => ∃ ao k cap f er, e = .returned (.tuple #[.slice ao k cap, .int .i64 er]) ∧ Res 4294967296 w w' ao k cap f ∧ ReadAns L b k f er := by
  have hsz := hs.1
  subst hsz
  by_cases hL : 1048576 < s.size
  · have HLt := hid hL
    go_enter Tryz.func100, Tryz.ntmps100
    go_wp2
    go_ret2
    exact ⟨_, _, _, fun _ => 0, _, rfl, Res.nil _ (Below.refl _ _), .inl ⟨HLt.out, rfl, rfl⟩⟩
  · have c1 := isNumber_c s s.size b w hs (by omega)
    cases hn : numB b s.size
    · rw [hn] at c1
      have C1 := hid c1
      have HN := hid (show ¬ IsNum b s.size from fun h => by rw [numB_true h] at hn; cases hn)
      clear c1 hn hs
      go_enter Tryz.func100, Tryz.ntmps100
      go_wp2_with fail
      refine C1.out.mono ?_
      rintro e w1 ⟨rfl, rfl⟩
      go_wp2
      go_ret2
      exact ⟨_, _, _, fun _ => 0, _, rfl, Res.nil _ (Below.refl _ _), .inr (.inl ⟨by omega, HN.out, rfl, rfl⟩)⟩
    · rw [hn] at c1
      have C1 := hid c1
      have HY := hid ((numB_iff b s.size).1 hn)
      have C2 := hid (fromDigits_c s s.size b w hs HY.out.1 (by omega))
      clear c1 hn hs
      go_enter Tryz.func100, Tryz.ntmps100
      go_wp2_with fail
      refine C1.out.mono ?_
      rintro e w1 ⟨rfl, rfl⟩
      go_wp2_with fail
      refine C2.out.mono ?_
      rintro e w2 ⟨a1, k1, c1, f1, rfl, hres, hv⟩
      have HV := hid hv
      clear hv
      go_wp2
      go_ret2
      exact ⟨_, _, _, f1, _, rfl, hres, .inr (.inr ⟨by omega, HY.out, rfl, HV.out⟩)⟩
end Go.Proofs.YtlpmfmphglgocaaGreatDoor
namespace Go.Proofs.YtlpmfmphglgocaaGreatDoor
open Go.RowKit

theorem divOk_all {X Y : Int} (hY : 0 < Y) : DivOk X Y := by
  intro ao bo n m ca cb f h' w hn hm hr hs hf hh ff fh hX hY'
  have h2 : m ≠ 0 := fun h0 => by subst h0; simp [vf] at hY'; omega
  exact divMod_c ao bo n m ca cb f h' w hn hm hr hs hf hh ff fh (by omega)
theorem tens_pos (j : Nat) : 0 < tens j := Int.pow_pos (by decide)

/-- The text of a number, or none. -/
def txt (f : Nat → Int) (n : Nat) : ByteArray := if fmB f n then ⟨(Lib.decDigits (vf f n).toNat).toArray⟩ else ⟨#[]⟩
def ter (f : Nat → Int) (n : Nat) : Int := if fmB f n then 0 else 3

set_option maxHeartbeats 1000000 in
theorem TextAll_u (ao : Option Addr) (n ca : Nat) (f : Nat → Int) (w : World) (hn : n ≤ 4096) (hr : Rd .u64 w ao n f) (hf : Lm f n) (htab : Tab w) (hca : n ≤ ca) (hcam : ca ≤ 9223372036854775807) :
    Calls Tryz.prog 62 #[.slice ao n ca] w fun e w' => e = .returned (.tuple #[.string (txt f n), .int .i64 (ter f n)]) ∧ Below w.heap.size w w' := by
  cases hfa : fmB f n
  · have c1 := form_c ao n ca f w (by omega) hr
    rw [hfa] at c1
    have C1 := hid c1
    have E1 := hid (show txt f n = ⟨#[]⟩ by simp [txt, hfa]); have E2 := hid (show ter f n = 3 by simp [ter, hfa])
    rw [E1.out, E2.out]
    clear c1 hfa hr hf htab
    go_enter Tryz.func62, Tryz.ntmps62
    go_wp2_with fail
    refine C1.out.mono ?_
    rintro e w1 ⟨rfl, rfl⟩
    go_wp2
    go_ret2
    exact ⟨rfl, Below.refl _ _⟩
  · have h0 := vf_nonneg hf
    have := Text_u ao n ca _ f (vf f n).toNat w hn hr hf (fm_of hfa) (by omega) htab rfl hca hcam (fun j _ X _ _ => divOk_all (tens_pos j))
    rw [show txt f n = ⟨(Lib.decDigits (vf f n).toNat).toArray⟩ by simp [txt, hfa], show ter f n = 0 by simp [ter, hfa]]
    exact this

theorem TextAll_c (ao : Option Addr) (n ca : Nat) (f : Nat → Int) (w : World) (hn : n ≤ 4096) (hr : Rd .u64 w ao n f) (_ : Tg w ao) (hf : Lm f n) (htab : Tab w) (hca : n ≤ ca) (hcam : ca ≤ 9223372036854775807) :
    Calls Tryz.prog 62 #[.slice ao n ca] w fun e w' => e = .returned (.tuple #[.string (txt f n), .int .i64 (ter f n)]) ∧ Below w.heap.size w w' := TextAll_u ao n ca f w hn hr hf htab hca hcam

end Go.Proofs.YtlpmfmphglgocaaGreatDoor
namespace Go.Proofs.YtlpmfmphglgocaaGreatDoor
open Go.RowKit

theorem ndigits_le : ∀ (k V : Nat), V < 10 ^ (k + 1) → Lib.nDigits V ≤ k + 1
  | 0, V, h => by rw [Lib.nDigits_small (by simpa using h)]; omega
  | k + 1, V, h => by
    by_cases hu : V < 10
    · rw [Lib.nDigits_small hu]; omega
    · rw [Lib.nDigits_big hu]
      have := ndigits_le k (V / 10) (by rw [Nat.div_lt_iff_lt_mul (by decide)]; rw [Nat.pow_succ] at h; exact h)
      omega
theorem pw_ten (n : Nat) : pw n ≤ (10 : Int) ^ (20 * n) := by
  induction n with
  | zero => decide
  | succ n ih =>
    rw [pw_succ, show 20 * (n + 1) = 20 * n + 20 by omega, Int.pow_add]
    have h1 : (18446744073709551616 : Int) ≤ 10 ^ 20 := by decide
    have h2 := pw_pos n
    calc (18446744073709551616 : Int) * pw n ≤ 10 ^ 20 * pw n := Int.mul_le_mul_of_nonneg_right h1 (Int.le_of_lt h2)
      _ ≤ 10 ^ 20 * 10 ^ (20 * n) := Int.mul_le_mul_of_nonneg_left ih (by decide)
      _ = 10 ^ (20 * n) * 10 ^ 20 := Int.mul_comm _ _
theorem txt_size {f : Nat → Int} {n : Nat} (hf : Lm f n) (hn : n ≤ 4096) : (txt f n).size ≤ 81921 := by
  unfold txt
  split
  · show ((Lib.decDigits (vf f n).toNat).toArray).size ≤ _
    rw [List.size_toArray, Lib.decDigits_length]
    have h1 := vf_lt hf; have h0 := vf_nonneg hf; have h2 := pw_ten n
    have h3 : (vf f n).toNat < 10 ^ (20 * n + 1) := by
      have e : ((10 ^ (20 * n) : Nat) : Int) = (10 : Int) ^ (20 * n) := by simp
      have h4 : (vf f n).toNat < 10 ^ (20 * n) := by omega
      exact Nat.lt_of_lt_of_le h4 (Nat.pow_le_pow_right (by decide) (by omega))
    have := ndigits_le (20 * n) _ h3
    omega
  · show 0 ≤ _; omega
/-- The text of a whole number, or none. -/
def wtxt (s : Bool) (f : Nat → Int) (n : Nat) : ByteArray := if wfB s f n then (if s then ⟨#[45]⟩ ++ txt f n else txt f n) else ⟨#[]⟩
def wter (s : Bool) (f : Nat → Int) (n : Nat) : Int := if wfB s f n then 0 else 3

set_option maxHeartbeats 1000000 in
theorem wText_u (s : Bool) (ao : Option Addr) (n ca : Nat) (f : Nat → Int) (w : World) (hn : n ≤ 4096) (hr : Rd .u64 w ao n f) (hf : Lm f n) (htab : Tab w) (hca : n ≤ ca) (hcam : ca ≤ 9223372036854775807) :
    Calls Tryz.prog 60 #[.agg #[.bool s, .slice ao n ca]] w fun e w' => e = .returned (.tuple #[.string (wtxt s f n), .int .i64 (wter s f n)]) ∧ Below w.heap.size w w' := by
  have HR := hid hr; have HF := hid hf; have HTab := hid htab
  clear hr hf htab
  cases hfa : wfB s f n
  · rw [show wtxt s f n = ⟨#[]⟩ by simp [wtxt, hfa], show wter s f n = 3 by simp [wter, hfa]]
    have c1 := fun W hr' => wForm_c s ao n ca f W (by omega) hr'
    rw [hfa] at c1
    have C1 := hid c1
    clear c1 hfa
    go_enter Tryz.func60, Tryz.ntmps60
    go_wp2_with fail
    refine (C1.out _ (HR.out.alloc _)).mono ?_
    rintro e w1 ⟨rfl, hb⟩
    obtain ⟨_, _, hw⟩ := boxes1 hb
    have HW := hid hw
    clear hb hw
    go_wp2
    go_ret2
    exact ⟨rfl, HW.out⟩
  · have hfm : fmB f n = true := (fmB_iff f n).2 (fm_of_wfB hfa)
    have HE := hid (show wtxt s f n = (if s then ⟨#[45]⟩ ++ txt f n else txt f n) by simp [wtxt, hfa])
    rw [show wter s f n = 0 by simp [wter, hfa]]
    have HT0 := hid (show ter f n = 0 by simp [ter, hfm])
    have c1 := fun W hr' => wForm_c s ao n ca f W (by omega) hr'
    rw [hfa] at c1
    have C1 := hid c1
    clear c1 hfa hfm
    have hsz := txt_size HF.out hn
    cases s
    all_goals
      go_enter Tryz.func60, Tryz.ntmps60
      go_wp2_with fail
      refine (C1.out _ (HR.out.alloc _)).mono ?_
      rintro e w1 ⟨rfl, hb⟩
      obtain ⟨⟨hz, x0, x1⟩, xf, hw⟩ := boxes1 hb
      have HW := hid hw
      clear hb hw
      have ct := TextAll_u ao n ca f w1 hn (HR.out.below HW.out (Nat.le_refl _)) HF.out (HTab.out.below HW.out HTab.out.lt) hca hcam
      rw [HT0.out] at ct
      have CT := hid ct
      clear ct
      go_wp2_with fail
      refine CT.out.mono ?_
      rintro e w2 ⟨rfl, hb⟩
      obtain ⟨⟨hz, x0, x1⟩, xf, hw⟩ := keep1 hb ⟨hz, x0, x1⟩ xf HW.out
      have HW2 := hid hw
      clear hb hw
      go_wp2
      go_ret2
      exact ⟨by rw [HE.out]; rfl, HW2.out⟩
theorem wText_c (s : Bool) (ao : Option Addr) (n ca : Nat) (f : Nat → Int) (w : World) (hn : n ≤ 4096) (hr : Rd .u64 w ao n f) (_ : Tg w ao) (hf : Lm f n) (htab : Tab w) (hca : n ≤ ca) (hcam : ca ≤ 9223372036854775807) :
    Calls Tryz.prog 60 #[.agg #[.bool s, .slice ao n ca]] w fun e w' => e = .returned (.tuple #[.string (wtxt s f n), .int .i64 (wter s f n)]) ∧ Below w.heap.size w w' := wText_u s ao n ca f w hn hr hf htab hca hcam
end Go.Proofs.YtlpmfmphglgocaaGreatDoor
namespace Go.Proofs.YtlpmfmphglgocaaGreatDoor
open Go.RowKit

/-- Does a text begin with a minus? -/
def mnB (s : ByteArray) : Bool := (s.extract 0 1).toList == [45]
theorem mnB_iff {s : ByteArray} {L : Nat} {b : Nat → Nat} (hs : Sb s L b) : mnB s = true ↔ 0 < L ∧ b 0 = 45 := by
  unfold mnB
  rw [ByteArray.toList_eq, beq_iff_eq]
  by_cases hL : 0 < L
  · have hsb := hs.take (c := 1) (by omega)
    generalize s.extract 0 1 = t at hsb
    obtain ⟨⟨l⟩⟩ := t
    obtain ⟨h1, h2⟩ := hsb
    match l, h1, h2 with
    | [x], _, h2 =>
      have h4 : x.toNat = b 0 := h2 0 (show 0 < [x].length by simp)
      constructor
      · intro h
        have hx : x = 45 := by simpa using h
        exact ⟨hL, by rw [← h4, hx]; rfl⟩
      · rintro ⟨_, h5⟩
        have hx : x = 45 := UInt8.toNat_inj.1 (by rw [h4, h5]; rfl)
        rw [hx]
    | [], h1, _ => exact absurd h1 (by decide)
    | _ :: _ :: _, h1, _ => have := h1; simp [ByteArray.size] at this
  · constructor
    · intro h
      have h5 : (s.extract 0 1).size = 1 := by show (s.extract 0 1).data.size = 1; rw [← Array.length_toList, h]; rfl
      rw [ByteArray.size_extract, hs.1] at h5
      omega
    · intro h; exact absurd h.1 hL
theorem sb_self (s : ByteArray) : Sb s s.size (fun k => if h : k < s.size then (s[k]'h).toNat else 0) := ⟨rfl, fun k h => by simp [h]⟩
theorem mnB_short {s : ByteArray} (h : ¬ 1 ≤ s.size) : mnB s = false := by
  cases hb : mnB s with
  | false => rfl
  | true => exact absurd ((mnB_iff (sb_self s)).1 hb).1 (by omega)
theorem hasMinus_c (s : ByteArray) (w : World) (hm : s.size ≤ 9223372036854775807) :
    Calls Tryz.prog 161 #[.string s, .string ⟨#[45]⟩] w fun e w' => e = .returned (.bool (mnB s)) ∧ w' = w := by
  by_cases h : 1 ≤ s.size
  · have hd : decide ((1 : Int) ≤ (s.size : Int)) = true := by simp; omega
    go_enter Tryz.func161, Tryz.ntmps161
    go_wp2
    go_ret
    exact ⟨rfl, rfl⟩
  · have hd : decide ((1 : Int) ≤ (s.size : Int)) = false := by simp; omega
    have hf : mnB s = false := mnB_short h
    rw [hf]
    clear hf
    go_enter Tryz.func161, Tryz.ntmps161
    go_wp2
    go_ret
    exact ⟨rfl, rfl⟩
theorem cutLite_yes (s : ByteArray) (w : World) (hm : s.size ≤ 9223372036854775807) (hy : mnB s = true) (hs : 1 ≤ s.size) :
    Calls Tryz.prog 124 #[.string s, .string ⟨#[45]⟩] w fun e w' => e = .returned (.tuple #[.string (s.extract 1 s.size), .bool true]) ∧ w' = w := by
  have c := hasMinus_c s w hm
  rw [hy] at c
  have C := hid c
  clear c hy
  go_enter Tryz.func124, Tryz.ntmps124
  go_wp2_with fail
  refine C.out.mono ?_
  rintro e w1 ⟨rfl, rfl⟩
  go_wp2
  go_ret2
  exact ⟨rfl, rfl⟩
theorem cutLite_no (s : ByteArray) (w : World) (hm : s.size ≤ 9223372036854775807) (hy : mnB s = false) :
    Calls Tryz.prog 124 #[.string s, .string ⟨#[45]⟩] w fun e w' => e = .returned (.tuple #[.string s, .bool false]) ∧ w' = w := by
  have c := hasMinus_c s w hm
  rw [hy] at c
  have C := hid c
  clear c hy
  go_enter Tryz.func124, Tryz.ntmps124
  go_wp2_with fail
  refine C.out.mono ?_
  rintro e w1 ⟨rfl, rfl⟩
  go_wp2
  go_ret2
  exact ⟨rfl, rfl⟩
theorem cut_yes (s : ByteArray) (w : World) (hm : s.size ≤ 9223372036854775807) (hy : mnB s = true) (hs : 1 ≤ s.size) :
    Calls Tryz.prog 99 #[.string s, .string ⟨#[45]⟩] w fun e w' => e = .returned (.tuple #[.string (s.extract 1 s.size), .bool true]) ∧ w' = w := by
  have C := hid (cutLite_yes s w hm hy hs)
  clear hy
  go_enter Tryz.func99, Tryz.ntmps99
  go_wp2_with fail
  refine C.out.mono ?_
  rintro e w1 ⟨rfl, rfl⟩
  go_wp2
  go_ret2
  exact ⟨rfl, rfl⟩
theorem cut_no (s : ByteArray) (w : World) (hm : s.size ≤ 9223372036854775807) (hy : mnB s = false) :
    Calls Tryz.prog 99 #[.string s, .string ⟨#[45]⟩] w fun e w' => e = .returned (.tuple #[.string s, .bool false]) ∧ w' = w := by
  have C := hid (cutLite_no s w hm hy)
  clear hy
  go_enter Tryz.func99, Tryz.ntmps99
  go_wp2_with fail
  refine C.out.mono ?_
  rintro e w1 ⟨rfl, rfl⟩
  go_wp2
  go_ret2
  exact ⟨rfl, rfl⟩


/-- What Read answers: neg, digits, the number. -/
def WRead (L : Nat) (b : Nat → Nat) (r : Bool) (k : Nat) (f : Nat → Int) (er : Int) : Prop :=
  1048576 < L ∧ er = 2 ∧ k = 0 ∨ L ≤ 1048576 ∧ 0 < L ∧ b 0 = 45 ∧ IsNum (bsh b 1) (L - 1) ∧ 0 < dn (bsh b 1) (L - 1) ∧ er = 0 ∧ wv r f k = - (dn (bsh b 1) (L - 1) : Nat) ∨
  L ≤ 1048576 ∧ ¬ (0 < L ∧ b 0 = 45) ∧ IsNum b L ∧ er = 0 ∧ wv r f k = (dn b L : Nat) ∨
  L ≤ 1048576 ∧ ¬ (0 < L ∧ b 0 = 45 ∧ IsNum (bsh b 1) (L - 1) ∧ 0 < dn (bsh b 1) (L - 1)) ∧ ¬ (¬ (0 < L ∧ b 0 = 45) ∧ IsNum b L) ∧ er = 11 ∧ k = 0

set_option maxHeartbeats 1000000 in
theorem wRead_c (s : ByteArray) (L : Nat) (b : Nat → Nat) (w : World) (hs : Sb s L b) (hL : L ≤ 9223372036854775807) :
    Calls Tryz.prog 64 #[.string s] w fun e w' => ∃ r ao k cap f er, e = .returned (.tuple #[.agg #[.bool r, .slice ao k cap], .int .i64 er]) ∧ WRes 4294967296 w w' r ao k cap f ∧ WRead L b r k f er := by
  have hsz := hs.1
  subst hsz
  by_cases hlong : 1048576 < s.size
  · have hd : decide ((1048576 : Int) < (s.size : Int)) = true := by simp; omega
    go_enter Tryz.func64, Tryz.ntmps64
    go_wp2
    exact bodyPost_ret (v := .tuple #[.agg #[.bool false, .slice none 0 0], .int .i64 2]) (by simp [results, Tryz.results64, go_sem]) rfl ⟨false, none, 0, 0, fun _ => 0, 2, rfl, ⟨Asw.none _ (below_alloc (Below.refl _ _) _), fun h => by cases h⟩, .inl ⟨hlong, rfl, rfl⟩⟩
  · have hd : decide ((1048576 : Int) < (s.size : Int)) = false := by simp; omega
    cases hmn : mnB s
    · have hnm : Hid (¬ (0 < s.size ∧ b 0 = 45)) := by
        show ¬ (0 < s.size ∧ b 0 = 45)
        rw [← mnB_iff hs, hmn]; simp
      have CC := hid (fun W => cut_no s W hL hmn)
      have HSb := hid hs
      clear hmn hs
      go_enter Tryz.func64, Tryz.ntmps64
      go_wp2_with fail
      refine (CC.out _).mono ?_
      rintro e w1 ⟨rfl, rfl⟩
      go_wp2_with fail
      refine (Read_c s s.size b _ HSb.out).mono ?_
      rintro e w2 ⟨xa, k, cx, g, er, rfl, hres, hans⟩
      obtain ⟨⟨hz, z0, z1⟩, zf, hw⟩ := boxes1 hres.bel
      have HRes := hid hres; have HW := hid hw; have HAns := hid hans; have hk : k ≤ 4294967296 := hres.le
      clear hres hw hans
      rcases HAns.out with ⟨h1, _⟩ | ⟨_, h1, h2, h3⟩ | ⟨_, h1, h2, h3⟩
      · exact absurd h1 hlong
      · subst h2; subst h3
        have HN := hid h1
        clear h1 HAns
        go_wp2
        refine bodyPost_ret (v := .tuple #[.agg #[.bool false, .slice none 0 0], .int .i64 11]) (by simp [results, Tryz.results64, go_sem, z0, z1]) rfl ⟨false, none, 0, 0, fun _ => 0, 11, rfl, ⟨Asw.none _ ?_, fun h => by cases h⟩, .inr (.inr (.inr ⟨by omega, fun x => hnm.out ⟨x.1, x.2.1⟩, fun x => HN.out x.2, rfl, rfl⟩))⟩
        exact below_turned HW.out HW.out.size (((Turned.refl _ (w.heap.size + 1) _).set (by first | omega | (simp; done) | (simp; omega)) (by first | omega | (simp; done) | (simp; omega)) _).set (by first | omega | (simp; done) | (simp; omega)) (by first | omega | (simp; done) | (simp; omega)) _) (Nat.le_refl _)
      · subst h2
        have HN := hid h1; have HV := hid h3
        clear h1 h3 HAns
        go_wp2_with fail
        refine (signed_c _ xa k cx _ (by omega)).mono ?_
        rintro e w3 ⟨r, o, rfl, hsg, rfl⟩
        go_wp2
        refine bodyPost_ret (v := .tuple #[.agg #[.bool r, .slice xa k cx], .int .i64 0]) (by simp [results, Tryz.results64, go_sem, z0, z1, hz]) rfl ⟨r, xa, k, cx, g, 0, rfl, WRes.mk' hsg ((HRes.out.turned (below_alloc (Below.refl _ _) _) ?_).ans (by omega)), .inr (.inr (.inl ⟨by omega, hnm.out, HN.out, rfl, ?_⟩))⟩
        · exact (((Turned.refl _ _ _).set (by first | omega | (simp; done) | (simp; omega)) (by first | omega | (simp; done) | (simp; omega)) _).set (by first | omega | (simp; done) | (simp; omega)) (by first | omega | (simp; done) | (simp; omega)) _).alloc _
        · rw [wv_sign hsg, wv_false]; exact HV.out
    · obtain ⟨h0, h1⟩ := (mnB_iff hs).1 hmn
      have hmi : Hid (0 < s.size ∧ b 0 = 45) := ⟨h0, h1⟩
      have CC := hid (fun W => cut_yes s W hL hmn h0)
      have HSb := hid (hs.drop (c := 1) h0)
      clear hmn hs h1
      go_enter Tryz.func64, Tryz.ntmps64
      go_wp2_with fail
      refine (CC.out _).mono ?_
      rintro e w1 ⟨rfl, rfl⟩
      go_wp2_with fail
      refine (Read_c (s.extract 1 s.size) (s.size - 1) (bsh b 1) _ HSb.out).mono ?_
      rintro e w2 ⟨xa, k, cx, g, er, rfl, hres, hans⟩
      obtain ⟨⟨hz, z0, z1⟩, zf, hw⟩ := boxes1 hres.bel
      have HRes := hid hres; have HW := hid hw; have HAns := hid hans; have hk : k ≤ 4294967296 := hres.le
      clear hres hw hans
      rcases HAns.out with ⟨h1, _⟩ | ⟨_, h1, h2, h3⟩ | ⟨_, h1, h2, h3⟩
      · omega
      · subst h2; subst h3
        have HN := hid h1
        clear h1 HAns
        go_wp2
        refine bodyPost_ret (v := .tuple #[.agg #[.bool false, .slice none 0 0], .int .i64 11]) (by simp [results, Tryz.results64, go_sem, z0, z1]) rfl ⟨false, none, 0, 0, fun _ => 0, 11, rfl, ⟨Asw.none _ ?_, fun h => by cases h⟩, .inr (.inr (.inr ⟨by omega, fun x => HN.out x.2.2.1, fun x => x.1 hmi.out, rfl, rfl⟩))⟩
        exact below_turned HW.out HW.out.size (((Turned.refl _ (w.heap.size + 1) _).set (by first | omega | (simp; done) | (simp; omega)) (by first | omega | (simp; done) | (simp; omega)) _).set (by first | omega | (simp; done) | (simp; omega)) (by first | omega | (simp; done) | (simp; omega)) _) (Nat.le_refl _)
      · subst h2
        have HN := hid h1; have HV := hid h3
        clear h1 h3 HAns
        by_cases hk0 : k = 0
        · subst hk0
          have hdn : Hid (dn (bsh b 1) (s.size - 1) = 0) := by
            show dn (bsh b 1) (s.size - 1) = 0
            have := HV.out; simp [vf] at this; omega
          go_wp2
          refine bodyPost_ret (v := .tuple #[.agg #[.bool false, .slice none 0 0], .int .i64 11]) (by simp [results, Tryz.results64, go_sem, z0, z1]) rfl ⟨false, none, 0, 0, fun _ => 0, 11, rfl, ⟨Asw.none _ ?_, fun h => by cases h⟩, .inr (.inr (.inr ⟨by omega, fun x => by have := hdn.out; have := x.2.2.2; omega, fun x => x.1 hmi.out, rfl, rfl⟩))⟩
          exact below_turned HW.out HW.out.size (((Turned.refl _ (w.heap.size + 1) _).set (by first | omega | (simp; done) | (simp; omega)) (by first | omega | (simp; done) | (simp; omega)) _).set (by first | omega | (simp; done) | (simp; omega)) (by first | omega | (simp; done) | (simp; omega)) _) (Nat.le_refl _)
        · have hki : ((k : Int) == 0) = false := by simp; omega
          have hdn : Hid (0 < dn (bsh b 1) (s.size - 1)) := by
            show 0 < dn (bsh b 1) (s.size - 1)
            have := HV.out; have := vf_pos HRes.out.lm HRes.out.fm (show 0 < k by omega); omega
          go_wp2_with fail
          refine (signed_c _ xa k cx _ (by omega)).mono ?_
          rintro e w3 ⟨r, o, rfl, hsg, rfl⟩
          go_wp2
          refine bodyPost_ret (v := .tuple #[.agg #[.bool r, .slice xa k cx], .int .i64 0]) (by simp [results, Tryz.results64, go_sem, z0, z1, hz]) rfl ⟨r, xa, k, cx, g, 0, rfl, WRes.mk' hsg ((HRes.out.turned (below_alloc (Below.refl _ _) _) ?_).ans (by omega)), .inr (.inl ⟨by omega, hmi.out.1, hmi.out.2, HN.out, hdn.out, rfl, ?_⟩)⟩
          · exact (((Turned.refl _ _ _).set (by first | omega | (simp; done) | (simp; omega)) (by first | omega | (simp; done) | (simp; omega)) _).set (by first | omega | (simp; done) | (simp; omega)) (by first | omega | (simp; done) | (simp; omega)) _).alloc _
          · rw [wv_sign hsg, wv_true, HV.out]
end Go.Proofs.YtlpmfmphglgocaaGreatDoor
namespace Go.Proofs.YtlpmfmphglgocaaGreatDoor
open Go.RowKit

/-- Two numbers' calls, both in form. -/
theorem add_n {w : World} {s t x y n m c d f g u v} (ha : Wn w s x n c f u) (hb : Wn w t y m d g v) (hn : n ≤ 1048576) (hm : m ≤ 1048576) :
    Calls Tryz.prog 88 #[.agg #[.bool s, .slice x n c], .agg #[.bool t, .slice y m d]] w fun e w' => ∃ r z k e' h, e = .returned (.tuple #[.agg #[.bool r, .slice z k e'], .int .i64 0]) ∧ Below w.heap.size w w' ∧ k ≤ max n m + 1 ∧ Wn w' r z k e' h (u + v) := by
  refine (wAdd_c s t x y n m c d f g w (by omega) (by omega) ha.rd hb.rd ha.lm hb.lm).mono ?_
  rintro e w' ⟨r, z, k, e', h, er, rfl, hres, hans⟩
  obtain ⟨rfl, hv⟩ := hans.ok ⟨ha.wf, hb.wf⟩
  exact ⟨r, z, k, e', h, rfl, hres.res.bel, hres.res.le, hres.wn (by rw [hv, ha.val, hb.val])⟩
theorem same_n {w : World} {s t x y n m c d f g u} (ha : Wn w s x n c f u) (hb : Wn w t y m d g u) (hn : n ≤ 1048576) (hm : m ≤ 1048576) :
    Calls Tryz.prog 24 #[.agg #[.bool s, .slice x n c], .agg #[.bool t, .slice y m d]] w fun e w' => e = .returned (.bool true) ∧ Below w.heap.size w w' :=
  wSame_true s t x y n m c d f g w (by omega) (by omega) ha.rd hb.rd ha.lm hb.lm ha.wf hb.wf (ha.val.trans hb.val.symm)
end Go.Proofs.YtlpmfmphglgocaaGreatDoor
namespace Go.Proofs.YtlpmfmphglgocaaGreatDoor
open Go.RowKit

theorem rinv {b : Rat} {t : Bool} {B : Nat} (hb : b.num = sg t B) (h0 : 0 < B) : (b⁻¹).num = sg t b.den ∧ (b⁻¹).den = B := by
  have e1 : b⁻¹ = Rat.inv b := rfl
  rw [e1]
  unfold Rat.inv
  cases t
  · have h1 : b.num = B := hb
    rw [dif_neg (by omega), dif_pos (by omega)]
    exact ⟨rfl, by show b.num.natAbs = B; omega⟩
  · have h1 : b.num = -(B : Int) := hb
    rw [dif_pos (by omega)]
    exact ⟨rfl, by show b.num.natAbs = B; omega⟩
theorem rmake {s t : Bool} {NA NB G : Nat} (hB : 0 < NB * G) (hG : G = (NA * G).gcd (NB * G)) :
    (((sg s (NA * G) : Int) : Rat) / (sg t (NB * G) : Int)).num = sg (s != t) NA ∧ (((sg s (NA * G) : Int) : Rat) / (sg t (NB * G) : Int)).den = NB := by
  have hNB : 0 < NB := Nat.pos_of_mul_pos_right hB
  have hG0 : 0 < G := Nat.pos_of_mul_pos_left hB
  have hc : (sg (s != t) NA).natAbs.Coprime NB := by
    have h1 : (sg (s != t) NA).natAbs = NA := by cases s <;> cases t <;> simp [sg]
    rw [h1]
    have : NA.gcd NB * G = G := by rw [← Nat.gcd_mul_right]; exact hG.symm
    exact Nat.eq_of_mul_eq_mul_right hG0 (by rw [this, Nat.one_mul])
  have h2 : ((sg s (NA * G) : Int) : Rat) / (sg t (NB * G) : Int) = ⟨sg (s != t) NA, NB, by omega, hc⟩ := by
    rw [Rat.mk_eq_divInt, ← Rat.divInt_eq_div, Rat.divInt_eq_divInt_iff]
    · cases s <;> cases t <;> simp [sg] <;> grind
    · cases t <;> simp [sg] <;> omega
    · omega
  rw [h2]; exact ⟨rfl, rfl⟩
theorem rfloor (a : Rat) : a.floor = a.num / a.den := by
  unfold Rat.floor
  split
  · next h => rw [h]; simp
  · rfl
end Go.Proofs.YtlpmfmphglgocaaGreatDoor
namespace Go.Proofs.YtlpmfmphglgocaaGreatDoor
open Go.RowKit

theorem natMul_n {w : World} {x n c f y m d g} {A B : Nat} (ha : Wn w false x n c f A) (hb : Wn w false y m d g B) (hn : n ≤ 1048576) (hm : m ≤ 1048576) :
    Calls Tryz.prog 89 #[.slice x n c, .slice y m d] w fun e w' => ∃ z k e' h, e = .returned (.tuple #[.slice z k e', .int .i64 0]) ∧ Below w.heap.size w w' ∧ k ≤ n + m ∧ Wn w' false z k e' h (A * B : Nat) := by
  refine (Mul_c x y n m c d f g w (by omega) (by omega) ha.cap.1 hb.cap.1 ha.cap.2 hb.cap.2 ha.rd hb.rd ha.lm hb.lm).mono ?_
  rintro e w' ⟨z, k, e', h, er, rfl, hres, hv⟩
  have hr := hres.ans (by omega)
  rcases hv with ⟨_, _, rfl, hv⟩ | ⟨h1, _⟩
  · refine ⟨z, k, e', h, rfl, hr.bel, hr.le, hr.rd, hr.lm, (wfB_iff _ _ _).2 ⟨hr.fm, fun h => by cases h⟩, hr.ncap, hr.nil', ?_⟩
    show vf h k = _
    rw [hv, ha.nv, hb.nv]; simp
  · exact absurd ⟨ha.fm, hb.fm⟩ h1
end Go.Proofs.YtlpmfmphglgocaaGreatDoor
namespace Go.Proofs.YtlpmfmphglgocaaGreatDoor
open Go.RowKit

/-- One without an error. -/
def RatTup (L : Nat) (w w' : World) (e : Ending) (q : Rat) : Prop := ∃ s x n c f y m d g, e = .returned (.tuple #[.agg #[.bool s, .slice x n c, .slice y m d], .int .i64 0]) ∧ Below w.heap.size w w' ∧ Rn L w' s x n c f y m d g q
set_option maxRecDepth 100000 in
set_option maxHeartbeats 4000000 in
theorem ratadd_c {L : Nat} {w : World} {sa : Bool} {xa : Option Addr} {na ca : Nat} {fa : Nat → Int} {ya : Option Addr} {ma da : Nat} {ga : Nat → Int} {a : Rat} {sb : Bool} {xb : Option Addr} {nb cb : Nat} {fb : Nat → Int} {yb : Option Addr} {mb db : Nat} {gb : Nat → Int} {b : Rat} (ha : Rn L w sa xa na ca fa ya ma da ga a) (hb : Rn L w sb xb nb cb fb yb mb db gb b) (hL : L ≤ 200000) :
    Calls Tryz.prog 55 #[.agg #[.bool sa, .slice xa na ca, .slice ya ma da], .agg #[.bool sb, .slice xb nb cb, .slice yb mb db]] w fun e w' => RatAns (2 * L + 1) w w' e (a + b) := by
  have HA0 := hid ha; have HB0 := hid hb
  have b1 := ha.ln; have b2 := ha.ld; have b3 := hb.ln; have b4 := hb.ld
  clear ha hb
  go_enter Tryz.func55, Tryz.ntmps55
  go_wp2_with fail
  refine (ratGcd_c (((HA0.out.den.alloc _).alloc _).alloc _) (((HB0.out.den.alloc _).alloc _).alloc _) (by omega) (by omega)).mono ?_
  rintro e w1 ⟨zg, kg, cg, fg, rfl, hbel, hg⟩
  obtain ⟨⟨hz, x0, x1, x2, y0, y1, y2, z0, z1, z2, zf⟩, hw⟩ := three_new hbel
  have T1 : Hid (Three w.heap.size w1 _ _ _ _ _ _ _ _ _) := ⟨hz, x0, x1, x2, y0, y1, y2, z0, z1, z2, zf⟩
  have HW1 := hid hw; have WG1 := hid hg; have HA1 := hid (HA0.out.below hw); have HB1 := hid (HB0.out.below hw)
  have hG0 : 0 < a.den.gcd b.den := Nat.gcd_pos_of_pos_left _ a.den_pos
  have hkg : kg ≤ L := Nat.le_trans (hg.len_le HA1.out.den (Nat.gcd_le_left _ a.den_pos)) (by omega)
  clear hbel hw hg HA0 HB0
  have C1 : Hid ((∀ W, Below w1.heap.size w1 W → Calls Tryz.prog 86 #[.slice ya ma da, .slice zg kg cg] W fun e w' => ∃ z k e' h, e = .returned (.slice z k e') ∧ Below W.heap.size W w' ∧ Hid (k ≤ L ∧ Wn w' false z k e' h (a.den / a.den.gcd b.den : Nat)))) := fun W hW => (over_c (HA1.out.den.below hW) (WG1.out.below hW) hG0 (by omega) (by omega)).mono (fun e w' ⟨z, k, e', h, h1, h2, h3⟩ => ⟨z, k, e', h, h1, h2, by have := h3.out.1; omega, h3.out.2⟩)
  have C2 : Hid ((∀ W, Below w1.heap.size w1 W → Calls Tryz.prog 86 #[.slice yb mb db, .slice zg kg cg] W fun e w' => ∃ z k e' h, e = .returned (.slice z k e') ∧ Below W.heap.size W w' ∧ Hid (k ≤ L ∧ Wn w' false z k e' h (b.den / a.den.gcd b.den : Nat)))) := fun W hW => (over_c (HB1.out.den.below hW) (WG1.out.below hW) hG0 (by omega) (by omega)).mono (fun e w' ⟨z, k, e', h, h1, h2, h3⟩ => ⟨z, k, e', h, h1, h2, by have := h3.out.1; omega, h3.out.2⟩)
  go_wp2_with fail
  go_region_held3 (fun w' => w'.cell? ⟨w.heap.size, 2, none⟩ = some (.slice ya ma da) ∧ w'.cell? ⟨w.heap.size + 1, 2, none⟩ = some (.slice yb mb db))
    (refine ⟨?_, ?_⟩ <;> repeat (with_reducible first | assumption | refine kCd ?_ | refine kCa ?_ | refine kCb (by assumption) ?_))
    (first
      | (go_at_call 86; with_reducible refine (C1.out _ (by repeat (with_reducible first | assumption | exact Below.refl _ _ | refine Below.drew ?_ | refine kBa ?_ | refine kBb (by assumption) ?_))).mono ?_; rintro e w2 ⟨zp, kp, cp, fp, rfl, hb2, HP⟩)
      | (go_at_call 86; with_reducible refine (C2.out _ (by repeat (with_reducible first | assumption | exact Below.refl _ _ | refine Below.drew ?_ | refine kBa ?_ | refine kBb (by assumption) ?_))).mono ?_; rintro e w3 ⟨zq, kq, cq, fq, rfl, hb3, HQ⟩))
  have hb : Below w1.heap.size w1 w3 := (by repeat (with_reducible first | assumption | exact Below.refl _ _ | refine Below.drew ?_ | refine kBa ?_ | refine kBb (by assumption) ?_))
  have hkp := HP.out.1; have hkq := HQ.out.1
  have WP3 := hid (HP.out.2.below hb3)
  have WQ3 := hid HQ.out.2
  clear HP HQ C1 C2 hb2 hb3
  have HA3 := hid (HA1.out.below hb); have HB3 := hid (HB1.out.below hb); have T3 := hid (T1.out.below hb); have WG3 := hid (WG1.out.below hb); have HW3 := hid (HW1.out.trans (hb.mono HW1.out.size))
  clear HA1 HB1 T1 WG1 HW1 hb
  clear hz x0 x1 x2 y0 y1 y2 z0 z1 z2 zf
  obtain ⟨hz, x0, x1, x2, y0, y1, y2, z0, z1, z2, zf⟩ := T3.out
  have hza : w.heap.size < w3.heap.size := by omega
  have hzb : w.heap.size + 1 < w3.heap.size := by omega
  go_wp2_with fail
  refine (numer_c sa xa ya na ca ma da _).mono ?_
  rintro e w4 ⟨rfl, hb⟩
  have HA4 := hid (HA3.out.below hb); have HB4 := hid (HB3.out.below hb); have T4 := hid (T3.out.below hb); have WG4 := hid (WG3.out.below hb); have WP4 := hid (WP3.out.below hb); have WQ4 := hid (WQ3.out.below hb); have HW4 := hid (HW3.out.trans (hb.mono HW3.out.size))
  clear HA3 HB3 T3 WG3 WP3 WQ3 HW3 hb
  clear hza hzb hz x0 x1 x2 y0 y1 y2 z0 z1 z2 zf
  obtain ⟨hz, x0, x1, x2, y0, y1, y2, z0, z1, z2, zf⟩ := T4.out
  have hza : w.heap.size < w4.heap.size := by omega
  have hzb : w.heap.size + 1 < w4.heap.size := by omega
  go_wp2_with fail
  refine (mul_n HA4.out.num WQ4.out (by omega) (by omega)).mono ?_
  rintro e w5 ⟨s5, p5, k5, c5, f5, rfl, hb, hk5, hp⟩
  have WX5 := hid hp
  clear hp WQ4
  have HA5 := hid (HA4.out.below hb); have HB5 := hid (HB4.out.below hb); have T5 := hid (T4.out.below hb); have WG5 := hid (WG4.out.below hb); have WP5 := hid (WP4.out.below hb); have HW5 := hid (HW4.out.trans (hb.mono HW4.out.size))
  clear HA4 HB4 T4 WG4 WP4 HW4 hb
  clear hza hzb hz x0 x1 x2 y0 y1 y2 z0 z1 z2 zf
  obtain ⟨hz, x0, x1, x2, y0, y1, y2, z0, z1, z2, zf⟩ := T5.out
  have hza : w.heap.size < w5.heap.size := by omega
  have hzb : w.heap.size + 1 < w5.heap.size := by omega
  go_wp2_with fail
  refine (numer_c sb xb yb nb cb mb db _).mono ?_
  rintro e w6 ⟨rfl, hb⟩
  have BX6 := hid (bx_new hb)
  have HB6 := hid (HB5.out.next hb); have T6 := hid (T5.out.next hb); have WG6 := hid (WG5.out.next hb); have WP6 := hid (WP5.out.next hb); have WX6 := hid (WX5.out.next hb); have HW6 := hid ((below_alloc HW5.out _).trans (hb.mono (below_alloc HW5.out _).size))
  clear HB5 T5 WG5 WP5 WX5 HW5 hb
  clear hza hzb hz x0 x1 x2 y0 y1 y2 z0 z1 z2 zf
  obtain ⟨hz, x0, x1, x2, y0, y1, y2, z0, z1, z2, zf⟩ := T6.out
  have hza : w.heap.size < w6.heap.size := by omega
  have hzb : w.heap.size + 1 < w6.heap.size := by omega
  go_wp2_with fail
  refine (mul_n HB6.out.num WP6.out (by omega) (by omega)).mono ?_
  rintro e w7 ⟨s7, p7, k7, c7, f7, rfl, hb, hk7, hp⟩
  have WY7 := hid hp
  clear hp
  have HB7 := hid (HB6.out.below hb); have T7 := hid (T6.out.below hb); have WG7 := hid (WG6.out.below hb); have WP7 := hid (WP6.out.below hb); have WX7 := hid (WX6.out.below hb); have BX7 := hid (BX6.out.below hb); have HW7 := hid (HW6.out.trans (hb.mono HW6.out.size))
  clear HB6 T6 WG6 WP6 WX6 BX6 HW6 hb
  clear hza hzb hz x0 x1 x2 y0 y1 y2 z0 z1 z2 zf
  obtain ⟨hz, x0, x1, x2, y0, y1, y2, z0, z1, z2, zf⟩ := T7.out
  have hza : w.heap.size < w7.heap.size := by omega
  have hzb : w.heap.size + 1 < w7.heap.size := by omega
  obtain ⟨hzx, bx0, bx1⟩ := BX7.out
  go_wp2_with fail
  refine (add_n (WX7.out.alloc _) (WY7.out.alloc _) (by omega) (by omega)).mono ?_
  rintro e w8 ⟨s8, p8, k8, c8, f8, rfl, hb, hk8, hp⟩
  have WS8 := hid hp
  clear hp hzx bx0 bx1 WX7 WY7 BX7
  have HB8 := hid (HB7.out.next hb); have T8 := hid (T7.out.next hb); have WG8 := hid (WG7.out.next hb); have WP8 := hid (WP7.out.next hb); have HW8 := hid ((below_alloc HW7.out _).trans (hb.mono (below_alloc HW7.out _).size))
  clear HB7 T7 WG7 WP7 HW7 hb
  clear hza hzb hz x0 x1 x2 y0 y1 y2 z0 z1 z2 zf
  obtain ⟨hz, x0, x1, x2, y0, y1, y2, z0, z1, z2, zf⟩ := T8.out
  have hza : w.heap.size < w8.heap.size := by omega
  have hzb : w.heap.size + 1 < w8.heap.size := by omega
  have hz8 := hz
  obtain ⟨S, hS⟩ : ∃ S, S = a.num * (b.den / a.den.gcd b.den : Nat) + b.num * (a.den / a.den.gcd b.den : Nat) := ⟨_, rfl⟩
  rw [← hS] at WS8
  have HS := hid hS
  clear hS
  go_wp2_with fail
  refine (ratGcd_c (WS8.out.mag.alloc _) (WG8.out.alloc _) (by omega) (by omega)).mono ?_
  rintro e w9 ⟨zl, kl, cl, fl, rfl, hb, hl⟩
  have WL9 := hid hl; have BS9 := hid (bx_new hb)
  have hl0 : 0 < S.natAbs.gcd (a.den.gcd b.den) := Nat.gcd_pos_of_pos_right _ hG0
  have hkl : kl ≤ L := Nat.le_trans (hl.len_le WG8.out (Nat.gcd_le_right _ hG0)) (by omega)
  clear hl WG8
  have HB9 := hid (HB8.out.next hb); have T9 := hid (T8.out.next hb); have WP9 := hid (WP8.out.next hb); have WS9 := hid (WS8.out.next hb); have HW9 := hid ((below_alloc HW8.out _).trans (hb.mono (below_alloc HW8.out _).size))
  clear HB8 T8 WP8 WS8 HW8 hb
  clear hza hzb hz x0 x1 x2 y0 y1 y2 z0 z1 z2 zf
  obtain ⟨hz, x0, x1, x2, y0, y1, y2, z0, z1, z2, zf⟩ := T9.out
  have hza : w.heap.size < w9.heap.size := by omega
  have hzb : w.heap.size + 1 < w9.heap.size := by omega
  go_wp2_with fail
  refine (over_c HB9.out.den WL9.out hl0 (by omega) (by omega)).mono ?_
  rintro e w10 ⟨zo, ko, co, fo, rfl, hb, HO⟩
  have hko := HO.out.1; have WO10 := hid HO.out.2
  clear HO HB9
  have T10 := hid (T9.out.below hb); have WP10 := hid (WP9.out.below hb); have WS10 := hid (WS9.out.below hb); have WL10 := hid (WL9.out.below hb); have BS10 := hid (BS9.out.below hb); have HW10 := hid (HW9.out.trans (hb.mono HW9.out.size))
  clear T9 WP9 WS9 WL9 BS9 HW9 hb
  clear hza hzb hz x0 x1 x2 y0 y1 y2 z0 z1 z2 zf
  obtain ⟨hz, x0, x1, x2, y0, y1, y2, z0, z1, z2, zf⟩ := T10.out
  have hza : w.heap.size < w10.heap.size := by omega
  have hzb : w.heap.size + 1 < w10.heap.size := by omega
  go_wp2_with fail
  refine (natMul_n WP10.out WO10.out (by omega) (by omega)).mono ?_
  rintro e w11 ⟨zd, kd, cd, fd, rfl, hb, hkd, hp⟩
  have WD11 := hid hp
  clear hp WP10 WO10
  have T11 := hid (T10.out.below hb); have WS11 := hid (WS10.out.below hb); have WL11 := hid (WL10.out.below hb); have BS11 := hid (BS10.out.below hb); have HW11 := hid (HW10.out.trans (hb.mono HW10.out.size))
  clear T10 WS10 WL10 BS10 HW10 hb
  clear hza hzb hz x0 x1 x2 y0 y1 y2 z0 z1 z2 zf
  obtain ⟨hz, x0, x1, x2, y0, y1, y2, z0, z1, z2, zf⟩ := T11.out
  have hza : w.heap.size < w11.heap.size := by omega
  have hzb : w.heap.size + 1 < w11.heap.size := by omega
  obtain ⟨hzs, bs0, bs1⟩ := BS11.out
  have C3 : Hid (∀ W, Below w11.heap.size w11 W → Calls Tryz.prog 86 #[.slice p8 k8 c8, .slice zl kl cl] W fun e w' => ∃ z k e' h, e = .returned (.slice z k e') ∧ Below W.heap.size W w' ∧ Hid (k ≤ k8 ∧ Wn w' false z k e' h (S.natAbs / S.natAbs.gcd (a.den.gcd b.den) : Nat))) := fun W hW => over_c (WS11.out.mag.below hW) (WL11.out.below hW) hl0 (by omega) (by omega)
  have C4 : Hid (∀ (W : World) (z : Option Addr) (k c : Nat), k ≤ 1048576 → Calls Tryz.prog 52 #[.bool s8, .slice z k c, .slice zd kd cd] W fun e w' => ∃ r, e = .returned (.agg #[.bool r, .slice z k c, .slice zd kd cd]) ∧ Below W.heap.size W w' ∧ Hid (r = (s8 && decide (0 < k)))) := fun W z k c hk => (rsigned_c s8 z zd k c kd cd W (by omega)).mono (fun e w' ⟨r, h1, h2, h3⟩ => ⟨r, h1, h3, h2⟩)
  go_wp2_with fail
  go_region_held3 (fun w' => w'.cell? ⟨w8.heap.size, 0, none⟩ = some (.bool s8) ∧ w'.cell? ⟨w8.heap.size, 1, none⟩ = some (.slice p8 k8 c8) ∧ (w'.cell? ⟨w.heap.size + 1 + 1, 0, none⟩).isSome = true ∧ (w'.cell? ⟨w.heap.size + 1 + 1, 1, none⟩).isSome = true ∧ (w'.cell? ⟨w.heap.size + 1 + 1, 2, none⟩).isSome = true ∧ w'.frozen? ⟨w.heap.size + 1 + 1, 0, none⟩ = false ∧ w'.frozen? ⟨w.heap.size + 1 + 1, 1, none⟩ = false ∧ w'.frozen? ⟨w.heap.size + 1 + 1, 2, none⟩ = false)
    (refine ⟨?_, ?_, ?_, ?_, ?_, ?_, ?_, ?_⟩ <;> repeat (with_reducible first | assumption | exact zf _ | exact uf _ | exact vf' _ | exact kI0 z0 | exact kI0 z1 | exact kI0 z2 | exact kI0 u0 | exact kI0 u1 | exact kI0 u2 | exact kI0 v0 | exact kI0 v1 | exact kI0 v2 | refine kCd ?_ | refine kId ?_ | refine kFd ?_ | refine kCs (by simp only [ne_eq]; omega) ?_ | refine kIs ?_ | refine kFs ?_ | refine kCb (by assumption) ?_ | refine kIb (by assumption) ?_))
    (first
      | (go_at_call 86; with_reducible refine (C3.out _ (by repeat (with_reducible first | assumption | exact Below.refl _ _ | refine Below.drew ?_ | refine kBa ?_ | refine kBb (by assumption) ?_))).mono ?_; rintro e w12 ⟨zn, kn, cn, fn, rfl, hb2, HN⟩; have hkn : kn ≤ 1048576 := (by have := HN.out.1; omega); have TU : Three w.heap.size w12 (.bool sa) (.slice xa na ca) (.slice ya ma da) (.bool sb) (.slice xb nb cb) (.slice yb mb db) (.bool false) (.slice none 0 0) (.slice none 0 0) := (by repeat (with_reducible first | exact T11.out | exact TU | refine kTd ?_ | refine kTb (by assumption) ?_)); obtain ⟨_, _, _, _, _, _, _, u0, u1, u2, uf⟩ := id TU)
      | (go_at_call 52; with_reducible refine (C4.out _ zn kn cn hkn).mono ?_; rintro e w13 ⟨rs, rfl, hb3, HRS⟩; have TV : Three w.heap.size w13 (.bool sa) (.slice xa na ca) (.slice ya ma da) (.bool sb) (.slice xb nb cb) (.slice yb mb db) (.bool false) (.slice none 0 0) (.slice none 0 0) := (by repeat (with_reducible first | exact T11.out | exact TU | refine kTd ?_ | refine kTb (by assumption) ?_)); obtain ⟨_, _, _, _, _, _, _, v0, v1, v2, vf'⟩ := id TV))
  have WN : Wn w13 false zn kn cn fn _ := HN.out.2.below hb3
  have hw13 : Below w11.heap.size w11 w13 := (by repeat (with_reducible first | assumption | exact Below.refl _ _ | refine Below.drew ?_ | refine kBa ?_ | refine kBb (by assumption) ?_))
  have hm := add_made HS.out WS11.out.sgn
  have hkn' := HN.out.1
  go_wp2
  refine bodyPost_ret (v := .agg #[.bool rs, .slice zn kn cn, .slice zd kd cd]) (by simp [results, Tryz.results55, go_sem, v0, v1, v2]) rfl ⟨rs, zn, kn, cn, fn, zd, kd, cd, fd, rfl, below_store (HW11.out.trans (hw13.mono HW11.out.size)), ⟨?_, ?_, ?_, ?_⟩⟩
  · rw [← hm.1]; exact TV.store (WN.resign HRS.out)
  · rw [← hm.2]; exact TV.store (WD11.out.below hw13)
  · omega
  · omega
end Go.Proofs.YtlpmfmphglgocaaGreatDoor
namespace Go.Proofs.YtlpmfmphglgocaaGreatDoor
open Go.RowKit

set_option maxRecDepth 100000 in
set_option maxHeartbeats 4000000 in
theorem rAdd_n {L : Nat} {w : World} {sa : Bool} {xa : Option Addr} {na ca : Nat} {fa : Nat → Int} {ya : Option Addr} {ma da : Nat} {ga : Nat → Int} {a : Rat} {sb : Bool} {xb : Option Addr} {nb cb : Nat} {fb : Nat → Int} {yb : Option Addr} {mb db : Nat} {gb : Nat → Int} {b : Rat} (ha : Rn L w sa xa na ca fa ya ma da ga a) (hb : Rn L w sb xb nb cb fb yb mb db gb b) (hL : L ≤ 200000) :
    Calls Tryz.prog 19 #[.agg #[.bool sa, .slice xa na ca, .slice ya ma da], .agg #[.bool sb, .slice xb nb cb, .slice yb mb db]] w fun e w' => RatTup (2 * L + 1) w w' e (a + b) := by
  have HA0 := hid ha; have HB0 := hid hb
  clear ha hb
  go_enter Tryz.func19, Tryz.ntmps19
  go_wp2_with fail
  refine (rForm_n (((HA0.out.alloc _).alloc _).alloc _) (by omega)).mono ?_
  rintro e w1 ⟨rfl, hbel⟩
  obtain ⟨⟨hz, x0, x1, x2, y0, y1, y2, z0, z1, z2, zf⟩, hw⟩ := three_new hbel
  have T1 : Hid (Three w.heap.size w1 _ _ _ _ _ _ _ _ _) := ⟨hz, x0, x1, x2, y0, y1, y2, z0, z1, z2, zf⟩
  have HW1 := hid hw; have HA1 := hid (HA0.out.below hw); have HB1 := hid (HB0.out.below hw)
  clear hbel hw HA0 HB0
  go_wp2_with fail
  refine (rForm_n HB1.out (by omega)).mono ?_
  rintro e w2 ⟨rfl, hb⟩
  have HA2 := hid (HA1.out.below hb); have HB2 := hid (HB1.out.below hb); have T2 := hid (T1.out.below hb); have HW2 := hid (HW1.out.trans (hb.mono HW1.out.size))
  clear HA1 HB1 T1 HW1 hb
  clear hz x0 x1 x2 y0 y1 y2 z0 z1 z2 zf
  obtain ⟨hz, x0, x1, x2, y0, y1, y2, z0, z1, z2, zf⟩ := T2.out
  have hza : w.heap.size < w2.heap.size := by omega
  have hzb : w.heap.size + 1 < w2.heap.size := by omega
  go_wp2_with fail
  refine (ratadd_c HA2.out HB2.out hL).mono ?_
  rintro e w3 ⟨rs, zn, kn, cn, fn, zd, kd, cd, fd, rfl, hb, hr⟩
  have HR := hid hr
  clear hr
  have T3 := hid (T2.out.below hb); have HW3 := hid (HW2.out.trans (hb.mono HW2.out.size))
  clear T2 HW2 hb
  clear hza hzb hz x0 x1 x2 y0 y1 y2 z0 z1 z2 zf
  obtain ⟨hz, x0, x1, x2, y0, y1, y2, z0, z1, z2, zf⟩ := T3.out
  have hza : w.heap.size < w3.heap.size := by omega
  have hzb : w.heap.size + 1 < w3.heap.size := by omega
  go_wp2
  refine bodyPost_ret (v := .tuple #[.agg #[.bool rs, .slice zn kn cn, .slice zd kd cd], .int .i64 0]) (by simp [results, Tryz.results19, go_sem, z0, z1, z2]) rfl ⟨rs, zn, kn, cn, fn, zd, kd, cd, fd, rfl, below_store HW3.out, ⟨?_, ?_, HR.out.ln, HR.out.ld⟩⟩
  · exact T3.out.store HR.out.num
  · exact T3.out.store HR.out.den

theorem Rn.invert {L w s x n c f y m d g q} {r : Bool} (h : Rn L w s x n c f y m d g q) (h0 : 0 < n) (hr : r = (s && decide (0 < m))) : Rn L w r y m d g x n c f q⁻¹ := by
  have h2 := h.num.sgn
  have hm : 0 < m := h.den.pos (by have := q.den_pos; omega)
  have hq : 0 < q.num.natAbs := by
    have h3 := vf_pos h.num.lm h.num.fm h0
    have h4 := h.num.mag.nv
    omega
  obtain ⟨e1, e2⟩ := rinv h2 hq
  refine ⟨?_, ?_, h.ld, h.ln⟩
  · rw [e1]; exact h.den.resign hr
  · rw [e2]; exact h.num.mag

end Go.Proofs.YtlpmfmphglgocaaGreatDoor
namespace Go.Proofs.YtlpmfmphglgocaaGreatDoor
open Go.RowKit

theorem rwForm_c (s : Bool) (ao : Option Addr) (n cap : Nat) (f : Nat → Int) (w : World) (hm : n ≤ 9223372036854775807) (hr : Rd .u64 w ao n f) :
    Calls Tryz.prog 90 #[.agg #[.bool s, .slice ao n cap]] w fun e w' => e = .returned (.bool (wfB s f n)) ∧ Below w.heap.size w w' := by
  have hba : Below w.heap.size w (w.alloc (.cells #[.bool s, .slice ao n cap] 44)) := below_alloc (Below.refl _ _) _
  have c1 := rform_c ao n cap f (w.alloc (.cells #[.bool s, .slice ao n cap] 44)) hm (hr.alloc _)
  have HB := hid hba
  clear hr hba
  have hwf : wfB s f n = (fmB f n && !(s && decide (n = 0))) := rfl
  rw [hwf]
  clear hwf
  cases hfa : fmB f n
  · rw [hfa] at c1
    have C1 := hid c1
    clear c1 hfa
    go_enter Tryz.func90, Tryz.ntmps90
    go_wp2_with fail
    refine C1.out.mono ?_
    rintro e w1 ⟨rfl, rfl⟩
    go_wp2
    go_ret
    exact ⟨rfl, HB.out⟩
  · rw [hfa] at c1
    have C1 := hid c1
    clear c1 hfa
    cases s
    · go_enter Tryz.func90, Tryz.ntmps90
      go_wp2_with fail
      refine C1.out.mono ?_
      rintro e w1 ⟨rfl, rfl⟩
      go_wp2
      go_ret
      exact ⟨rfl, HB.out⟩
    · by_cases hn0 : n = 0
      · subst hn0
        go_enter Tryz.func90, Tryz.ntmps90
        go_wp2_with fail
        refine C1.out.mono ?_
        rintro e w1 ⟨rfl, rfl⟩
        go_wp2
        go_ret
        exact ⟨rfl, HB.out⟩
      · have hni : ((n : Int) == 0) = false := by simp; omega
        have hdn : decide (n = 0) = false := by simp; omega
        rw [hdn]
        clear hdn
        go_enter Tryz.func90, Tryz.ntmps90
        go_wp2_with fail
        refine C1.out.mono ?_
        rintro e w1 ⟨rfl, rfl⟩
        go_wp2
        go_ret
        exact ⟨rfl, HB.out⟩

end Go.Proofs.YtlpmfmphglgocaaGreatDoor
namespace Go.Proofs.YtlpmfmphglgocaaGreatDoor
open Go.RowKit

set_option maxRecDepth 100000 in
set_option maxHeartbeats 800000 in
theorem rword_c {w : World} {x n c d} {V : Nat} (h : Dn w x n d V) (hn : n ≤ 2) :
    Calls Tryz.prog 114 #[.slice x n c] w fun e w' => e = .returned (.int .u64 V) ∧ w' = w := by
  have H := hid h
  clear h
  go_enter Tryz.func114, Tryz.ntmps114
  go_wp2
  go_loop [3, 4] (fun t u => ∃ (k : Nat) (z : Int), k ≤ n ∧ z = (k : Int) - 1 ∧ u = .int .i64 z ∧ ∃ X : Int, t = .int .u64 X ∧ Hid (X = vd (sh d k) (n - k))) (fun _ u => (intOf u + 1).toNat)
  case atStart => exact ⟨n, (n : Int) - 1, by omega, rfl, rfl, 0, rfl, by rw [Nat.sub_self]; rfl⟩
  case round =>
    obtain ⟨k, z, hk, hz, rfl, X, rfl, HX⟩ := hrel
    rcases Nat.eq_zero_or_pos k with h0 | h0
    · subst h0
      have hz' : z < 0 := by omega
      have hd : decide ((0 : Int) ≤ z) = false := by simp; omega
      go_wp2
      go_ret
      refine ⟨?_, rfl⟩
      have h1 : vd (sh d 0) (n - 0) = vd d n := by
        have : sh d 0 = d := by funext j; simp [sh]
        rw [this]; rfl
      have : X = V := by rw [HX.out, h1, H.out.val]
      rw [this]; rfl
    · obtain ⟨j, rfl⟩ : ∃ j, k = j + 1 := ⟨k - 1, by omega⟩
      have hz' : z = (j : Int) := by omega
      subst hz'
      have hr := H.out.rd
      obtain ⟨b, o, rfl⟩ := hr.at (by omega)
      obtain ⟨y, hy⟩ : ∃ y, d j = y := ⟨_, rfl⟩
      have hcell : w.cell? ⟨b, o + j, none⟩ = some (.int .u64 y) := by rw [← hy]; exact hr.cell (by omega)
      obtain ⟨y0, y1⟩ := H.out.dg j (by omega)
      rw [hy] at y0 y1
      have hX : 0 ≤ X ∧ X < 4294967296 := by
        rw [HX.out]
        rcases (show n - (j + 1) = 0 ∨ n - (j + 1) = 1 by omega) with e | e
        · rw [e]; simp [vd]
        · rw [e]
          have e1 : vd (sh d (j + 1)) 1 = d (j + 1) := by simp [vd, pd, sh]
          rw [e1]
          exact H.out.dg (j + 1) (by omega)
      obtain ⟨X0, X1⟩ := hX
      have hs : X * 4294967296 + y = vd (sh d j) (n - j) := by
        rw [show n - j = (n - (j + 1)) + 1 by omega, vd_cons, hy, HX.out]; omega
      have HS := hid hs
      clear hs hy hr hz
      go_wp2
      go_round
      case rel => exact ⟨j, (j : Int) - 1, by omega, rfl, rfl, X * 4294967296 + y, rfl, HS.out⟩
      case measure => simp [intOf]
end Go.Proofs.YtlpmfmphglgocaaGreatDoor
namespace Go.Proofs.YtlpmfmphglgocaaGreatDoor
open Go.RowKit

theorem zMk_c (s : Bool) (ao : Option Addr) (n cap : Nat) (w : World) (hm : n ≤ 9223372036854775807) :
    Calls Tryz.prog 92 #[.bool s, .slice ao n cap] w fun e w' => ∃ r, e = .returned (.agg #[.bool r, .slice ao n cap]) ∧ Hid (r = (s && decide (0 < n))) ∧ Below w.heap.size w w' := by
  have key : ∀ u, Below w.heap.size w (w.alloc u) := fun u => below_alloc (Below.refl w.heap.size w) u
  cases s
  · go_enter Tryz.func92, Tryz.ntmps92
    go_wp2
    exact bodyPost_ret (v := .agg #[.bool false, .slice ao n cap]) (by simp [results, Tryz.results92, go_sem]) rfl ⟨false, rfl, rfl, key _⟩
  · by_cases hn0 : 0 < n
    · have hni : decide ((0 : Int) < (n : Int)) = true := by simp; omega
      have hdn : decide (0 < n) = true := by simp; omega
      rw [hdn]
      clear hdn
      go_enter Tryz.func92, Tryz.ntmps92
      go_wp2
      exact bodyPost_ret (v := .agg #[.bool true, .slice ao n cap]) (by simp [results, Tryz.results92, go_sem]) rfl ⟨true, rfl, rfl, key _⟩
    · have hni : decide ((0 : Int) < (n : Int)) = false := by simp; omega
      have hdn : decide (0 < n) = false := by simp; omega
      rw [hdn]
      clear hdn
      go_enter Tryz.func92, Tryz.ntmps92
      go_wp2
      exact bodyPost_ret (v := .agg #[.bool false, .slice ao n cap]) (by simp [results, Tryz.results92, go_sem]) rfl ⟨false, rfl, rfl, key _⟩

theorem kDb {w w' x n d V} (hb : Below w.heap.size w w') (h : Dn w x n d V) : Dn w' x n d V := h.below hb
theorem dn64 {w x n d V} (h : Dn w x n d V) (hn : n ≤ 2) : V < 18446744073709551616 := by
  have h1 := vd_lt h.dg
  rw [h.val] at h1
  rcases (show n = 0 ∨ n = 1 ∨ n = 2 by omega) with rfl | rfl | rfl <;> simp [pd] at h1 <;> omega

set_option maxRecDepth 100000 in
set_option maxHeartbeats 4000000 in
theorem mkSmall_c {w : World} {s x n c d y m e g} {A B : Nat} (ha : Dn w x n d A) (hb : Dn w y m g B) (h0 : 0 < A) (hn : n ≤ 2) (hm : m ≤ 2) (hB : 0 < B) :
    Calls Tryz.prog 91 #[.agg #[.bool s, .slice x n c], .slice y m e] w fun en w' => ∃ r z k c' d' z2 k2 c2 d2, en = .returned (.agg #[.bool r, .slice z k c', .slice z2 k2 c2]) ∧ Below w.heap.size w w' ∧ k ≤ 2 ∧ k2 ≤ 2 ∧ r = (s && decide (0 < k)) ∧ Dn w' z k d' (A / A.gcd B) ∧ Dn w' z2 k2 d2 (B / A.gcd B) := by
  have hA64 := dn64 ha hn; have hB64 := dn64 hb hm
  have hnp : 0 < n := by
    rcases Nat.eq_zero_or_pos n with h | h
    · subst h; have : (0 : Int) = A := ha.val; omega
    · exact h
  have h1 := (ha.alloc (.cells #[.bool s, .slice x n c] 69)).alloc (.cells #[.bool false, .slice none 0 0, .slice none 0 0] 71)
  have h2 := (hb.alloc (.cells #[.bool s, .slice x n c] 69)).alloc (.cells #[.bool false, .slice none 0 0, .slice none 0 0] 71)
  have h3 := ob_new (w.alloc (.cells #[.bool s, .slice x n c] 69)) 71
  rw [size_alloc1] at h3
  have h4 := below_alloc (below_alloc (Below.refl w.heap.size w) (.cells #[.bool s, .slice x n c] 69)) (.cells #[.bool false, .slice none 0 0, .slice none 0 0] 71)
  have h5 : (((w.alloc (.cells #[.bool s, .slice x n c] 69)).alloc (.cells #[.bool false, .slice none 0 0, .slice none 0 0] 71)).cell? ⟨w.heap.size, 0, none⟩ = some (.bool s)) := by simp [go_sem]
  clear ha hb
  have hn0 : ((n : Int) == 0) = false := by simp; omega
  have hn2 : decide ((n : Int) ≤ 2) = true := by simp; omega
  have hm2 : decide ((m : Int) ≤ 2) = true := by simp; omega
  go_enter Tryz.func91, Tryz.ntmps91
  go_wp2_with fail
  generalize (w.alloc (.cells #[.bool s, .slice x n c] 69)).alloc (.cells #[.bool false, .slice none 0 0, .slice none 0 0] 71) = w1 at *
  have HA := hid h1; have HB := hid h2; have OB := hid h3; have HW := hid h4
  obtain ⟨hz, z0, z1, z2, zf⟩ := h3
  clear h1 h2 h4
  refine (rword_c HA.out hn).mono ?_
  rintro en w2 ⟨rfl, rfl⟩
  go_wp2_with fail
  refine (rword_c HB.out hm).mono ?_
  rintro en w3 ⟨rfl, rfl⟩
  go_wp2
  go_loopw [7, 8] (fun t u wr => ∃ (G R q : Nat), t = .int .u64 G ∧ u = .int .u64 R ∧ wr = w3.drewN q ∧ 0 < G ∧ G < 18446744073709551616 ∧ R < 18446744073709551616 ∧ Hid (G.gcd R = A.gcd B)) (fun _ u _ => (intOf u).toNat)
  case atStart => exact ⟨A, B, 0, rfl, rfl, rfl, h0, hA64, hB64, rfl⟩
  case round =>
    obtain ⟨G, R, q, rfl, rfl, rfl, hG0, hG64, hR64, HG⟩ := hrel
    by_cases hR : 0 < R
    · have hd : decide ((0 : Int) < (R : Int)) = true := by simp; omega
      have hne : ((R : Int) == 0) = false := by simp; omega
      have hne' : (R : Int) ≠ 0 := by omega
      go_wp2
      go_quiet (fail)
      go_wp2
      go_roundw
      case rel => exact ⟨R, G % R, _, rfl, by simp, by (repeat rw [World.drewN_drewN]) <;> rfl, hR, hR64, by have := Nat.mod_lt G hR; omega, hid (by rw [Nat.gcd_comm, ← Nat.gcd_rec, Nat.gcd_comm]; exact HG.out)⟩
      case measure => have := Nat.mod_lt G hR; simp only [intOf]; omega
    · have hd : decide ((0 : Int) < (R : Int)) = false := by simp; omega
      have hR0 : R = 0 := by omega
      subst hR0
      have hg : G = A.gcd B := by have := HG.out; rw [Nat.gcd_zero_right] at this; exact this
      go_wp2
      have hwq : Below w.heap.size w (w3.drewN q) := below_drewN HW.out q
      have OQ := OB.out.drewN q
      have hcq : (w3.drewN q).cell? ⟨w.heap.size, 0, none⟩ = some (.bool s) := h5
      have hGi : (G : Int) ≠ 0 := by omega
      have hGi' : ((G : Int) == 0) = false := by simp; omega
      have hGp : (0 : Int) < (G : Int) := by omega
      have hGm : (G : Int) < 18446744073709551616 := by omega
      have hA0 : (0 : Int) ≤ (A : Int) := by omega
      have hAm : (A : Int) < 18446744073709551616 := by omega
      have hB0 : (0 : Int) ≤ (B : Int) := by omega
      have hBm : (B : Int) < 18446744073709551616 := by omega
      obtain ⟨QA, hqa⟩ : ∃ q : Int, (A : Int) / (G : Int) = q := ⟨_, rfl⟩
      obtain ⟨QB, hqb⟩ : ∃ q : Int, (B : Int) / (G : Int) = q := ⟨_, rfl⟩
      have hQA0 : 0 ≤ QA := by rw [← hqa]; exact Int.ediv_nonneg hA0 (by omega)
      have hQB0 : 0 ≤ QB := by rw [← hqb]; exact Int.ediv_nonneg hB0 (by omega)
      have hQA1 : QA < 18446744073709551616 := by have := Int.ediv_le_self (b := (G : Int)) hA0; omega
      have hQB1 : QB < 18446744073709551616 := by have := Int.ediv_le_self (b := (G : Int)) hB0; omega
      have HqA : Hid (QA = ((A / G : Nat) : Int)) := hid (by rw [← hqa]; exact (Int.natCast_ediv _ _).symm)
      have HqB : Hid (QB = ((B / G : Nat) : Int)) := hid (by rw [← hqb]; exact (Int.natCast_ediv _ _).symm)
      have HG2 := hid hg
      clear hg
      clear HG hz z0 z1 z2 zf OB h5
      generalize w3.drewN q = w4 at *
      clear hG64 hA64 hB64 hR64 hd hG0
      generalize hgi : (G : Int) = Gi at *
      generalize hai : (A : Int) = Ai at *
      generalize hbi : (B : Int) = Bi at *
      have HgI := hid hgi; have HaI := hid hai; have HbI := hid hbi
      have hGn : ¬ (Gi = 0) := hGi
      clear hgi hai hbi hGi
      have hwa : IntKind.u64.wrap (Ai.tdiv Gi) = QA := by rw [Int.tdiv_eq_ediv_of_nonneg hA0, hqa, IntKind.wrap_u64]; omega
      have hwb : IntKind.u64.wrap (Bi.tdiv Gi) = QB := by rw [Int.tdiv_eq_ediv_of_nonneg hB0, hqb, IntKind.wrap_u64]; omega
      clear hqa hqb
      obtain ⟨hz, z0, z1, z2, zf⟩ := id OQ
      have C1 : Hid (∀ W, Below w4.heap.size w4 W → Calls Tryz.prog 85 #[.int .u64 QA] W fun e w' => ∃ z k cap d, e = .returned (.slice z k cap) ∧ Below W.heap.size W w' ∧ Hid (k ≤ 2 ∧ Dn w' z k d (A / G))) := fun W hW => by
        exact (word2_c QA W hQA0 hQA1).mono (fun e w' ⟨k, cap, h1, h2, h3, h4, h5, h6, h7⟩ => ⟨_, k, cap, _, h1, h2, h3, h4, h5, h6, h7.trans HqA.out⟩)
      have C2 : Hid (∀ W, Below w4.heap.size w4 W → Calls Tryz.prog 85 #[.int .u64 QB] W fun e w' => ∃ z k cap d, e = .returned (.slice z k cap) ∧ Below W.heap.size W w' ∧ Hid (k ≤ 2 ∧ Dn w' z k d (B / G))) := fun W hW => by
        exact (word2_c QB W hQB0 hQB1).mono (fun e w' ⟨k, cap, h1, h2, h3, h4, h5, h6, h7⟩ => ⟨_, k, cap, _, h1, h2, h3, h4, h5, h6, h7.trans HqB.out⟩)
      have C3 : Hid (∀ (W : World) (z : Option Addr) (k cap : Nat), k ≤ 2 → Calls Tryz.prog 92 #[.bool s, .slice z k cap] W fun e w' => ∃ r, e = .returned (.agg #[.bool r, .slice z k cap]) ∧ Below W.heap.size W w' ∧ Hid (r = (s && decide (0 < k)))) := fun W z k cap hk => (zMk_c s z k cap W (by omega)).mono (fun e w' ⟨r, h1, h2, h3⟩ => ⟨r, h1, h3, h2⟩)
      go_region_held3 (fun w' => w'.cell? ⟨w.heap.size, 0, none⟩ = some (.bool s) ∧ (w'.cell? ⟨w.heap.size + 1, 0, none⟩).isSome = true ∧ (w'.cell? ⟨w.heap.size + 1, 1, none⟩).isSome = true ∧ (w'.cell? ⟨w.heap.size + 1, 2, none⟩).isSome = true ∧ w'.frozen? ⟨w.heap.size + 1, 0, none⟩ = false ∧ w'.frozen? ⟨w.heap.size + 1, 1, none⟩ = false ∧ w'.frozen? ⟨w.heap.size + 1, 2, none⟩ = false)
        (refine ⟨?_, ?_, ?_, ?_, ?_, ?_, ?_⟩ <;> repeat (with_reducible first | assumption | exact zf _ | exact tf _ | exact uf _ | exact vf' _ | exact kI0 z0 | exact kI0 z1 | exact kI0 z2 | exact kI0 t0 | exact kI0 t1 | exact kI0 t2 | exact kI0 u0 | exact kI0 u1 | exact kI0 u2 | exact kI0 v0 | exact kI0 v1 | exact kI0 v2 | refine kCd ?_ | refine kId ?_ | refine kFd ?_ | refine kCs (by simp only [ne_eq]; omega) ?_ | refine kIs ?_ | refine kFs ?_ | refine kCb (by assumption) ?_ | refine kIb (by assumption) ?_))
        (first
          | (go_at_call 85; with_reducible refine (C1.out _ (by repeat (with_reducible first | assumption | exact Below.refl _ _ | refine Below.drew ?_ | refine kBa ?_ | refine kBb (by assumption) ?_))).mono ?_; rintro e w5 ⟨za, ka, ca, da, rfl, hb5, HP⟩; have hka : ka ≤ 2 := HP.out.1; have TU : Ob w5 (w.heap.size + 1) := (by repeat (with_reducible first | exact OQ | exact TU | exact TV | exact TW | refine Ob.drew ?_ | refine kOb (by assumption) ?_)); obtain ⟨_, t0, t1, t2, tf⟩ := id TU)
          | (go_at_call 92; with_reducible refine (C3.out _ za ka ca hka).mono ?_; rintro e w6 ⟨r, rfl, hb6, HR⟩; have TV : Ob w6 (w.heap.size + 1) := (by repeat (with_reducible first | exact OQ | exact TU | exact TV | exact TW | refine Ob.drew ?_ | refine kOb (by assumption) ?_)); obtain ⟨_, u0, u1, u2, uf⟩ := id TV)
          | (go_at_call 85; with_reducible refine (C2.out _ (by repeat (with_reducible first | assumption | exact Below.refl _ _ | refine Below.drew ?_ | refine kBa ?_ | refine kBb (by assumption) ?_))).mono ?_; rintro e w7 ⟨zb, kb, cb, db, rfl, hb7, HQ⟩; have hkb : kb ≤ 2 := HQ.out.1; have TW : Ob w7 (w.heap.size + 1) := (by repeat (with_reducible first | exact OQ | exact TU | exact TV | exact TW | refine Ob.drew ?_ | refine kOb (by assumption) ?_)); obtain ⟨_, v0, v1, v2, vf'⟩ := id TW))
      have hb : Below w4.heap.size w4 w7 := (by repeat (with_reducible first | assumption | exact Below.refl _ _ | refine Below.drew ?_ | refine kBa ?_ | refine kBb (by assumption) ?_))
      have DA := HP.out.2; have DB := HQ.out.2
      have DA7 : Dn w7 za ka da (A / G) := (by repeat (with_reducible first | exact DA | refine Dn.drew ?_ | refine kDb (by first | exact hb6 | exact hb7) ?_))
      go_wp2
      refine bodyPost_ret (v := .agg #[.bool r, .slice za ka ca, .slice zb kb cb]) (by simp [results, Tryz.results91, go_sem, v0, v1, v2]) rfl ⟨r, za, ka, ca, da, zb, kb, cb, db, rfl, below_st (hwq.trans (hb.mono hwq.size)) (by omega), hka, hkb, HR.out, ?_, ?_⟩
      · rw [← HG2.out]; exact TW.dn DA7
      · rw [← HG2.out]; exact TW.dn DB
end Go.Proofs.YtlpmfmphglgocaaGreatDoor
namespace Go.Proofs.YtlpmfmphglgocaaGreatDoor
open Go.RowKit

theorem make_made {u v : Int} {s t : Bool} (hu : u = sg s u.natAbs) (hv : v = sg t v.natAbs) (h0 : 0 < v.natAbs) :
    ((u : Rat) / (v : Rat)).num = sg (s != t) (u.natAbs / u.natAbs.gcd v.natAbs) ∧ ((u : Rat) / (v : Rat)).den = v.natAbs / u.natAbs.gcd v.natAbs := by
  have e1 := Nat.div_mul_cancel (Nat.gcd_dvd_left u.natAbs v.natAbs)
  have e2 := Nat.div_mul_cancel (Nat.gcd_dvd_right u.natAbs v.natAbs)
  have := rmake (s := s) (t := t) (NA := u.natAbs / u.natAbs.gcd v.natAbs) (NB := v.natAbs / u.natAbs.gcd v.natAbs) (G := u.natAbs.gcd v.natAbs) (by rw [e2]; exact h0) (by rw [e1, e2])
  rw [e1, e2, ← hu, ← hv] at this
  exact this
/-- A number that a call answers without an error; its lists lie in blocks of limbs. -/
def RatTgt (L : Nat) (w w' : World) (e : Ending) (q : Rat) : Prop := ∃ s x n c f y m d g, e = .returned (.tuple #[.agg #[.bool s, .slice x n c, .slice y m d], .int .i64 0]) ∧ Below w.heap.size w w' ∧ Rn L w' s x n c f y m d g q ∧ Tg w' x ∧ Tg w' y
/-- The like, alone. -/
def RatTga (L : Nat) (w w' : World) (e : Ending) (q : Rat) : Prop := ∃ s x n c f y m d g, e = .returned (.agg #[.bool s, .slice x n c, .slice y m d]) ∧ Below w.heap.size w w' ∧ Rn L w' s x n c f y m d g q ∧ Tg w' x ∧ Tg w' y
theorem fromDn_c {w s x n c f v} (h : Wn w s x n c f v) (hn : n ≤ 1048576) :
    Calls Tryz.prog 93 #[.slice x n c] w fun e w' => ∃ z k c', e = .returned (.slice z k c') ∧ Below w.heap.size w w' ∧ Hid (k ≤ 2 * n ∧ Dn w' z k (dig f) v.natAbs) :=
  (from_c x n c f w hn h.rd h.lm).mono (fun _ _ ⟨z, k, c', h1, h2, h3, h4, _, h6, h7, h8⟩ => ⟨z, k, c', h1, h2, h4, h3, h6, h7, h8.trans h.mag.nv⟩)

theorem mk_boxes {w w1 : World} {sa xa na ca sb xb nb cb} (hb : Below (((w.alloc (.cells #[.bool sa, .slice xa na ca] 44)).alloc (.cells #[.bool sb, .slice xb nb cb] 44)).alloc (.cells #[.bool false, .slice none 0 0, .slice none 0 0] 24)).heap.size (((w.alloc (.cells #[.bool sa, .slice xa na ca] 44)).alloc (.cells #[.bool sb, .slice xb nb cb] 44)).alloc (.cells #[.bool false, .slice none 0 0, .slice none 0 0] 24)) w1) :
    Bx w1 w.heap.size sa xa na ca ∧ Bx w1 (w.heap.size + 1) sb xb nb cb ∧ Ob w1 (w.heap.size + 1 + 1) ∧ Below w.heap.size w w1 := by
  have h0 : Bx (w.alloc (.cells #[.bool sa, .slice xa na ca] 44)) w.heap.size sa xa na ca := ⟨by simp, kN0, kN1⟩
  have h1 : Bx ((w.alloc (.cells #[.bool sa, .slice xa na ca] 44)).alloc (.cells #[.bool sb, .slice xb nb cb] 44)) (w.heap.size + 1) sb xb nb cb := by
    have := size_alloc1 w (.cells #[.bool sa, .slice xa na ca] 44)
    refine ⟨by simp, ?_, ?_⟩
    · rw [← this]; exact kN0
    · rw [← this]; exact kN1
  have h2 := ob_new ((w.alloc (.cells #[.bool sa, .slice xa na ca] 44)).alloc (.cells #[.bool sb, .slice xb nb cb] 44)) 24
  rw [size_alloc1, size_alloc1] at h2
  exact ⟨((h0.alloc _).alloc _).below hb, (h1.alloc _).below hb, h2.below hb, (below_alloc (below_alloc (below_alloc (Below.refl w.heap.size w) _) _) _).trans (hb.mono (by simp; omega))⟩

set_option maxRecDepth 100000 in
set_option maxHeartbeats 4000000 in
theorem docMake_c {w : World} {sa : Bool} {xa : Option Addr} {na ca : Nat} {fa : Nat → Int} {sb : Bool} {xb : Option Addr} {nb cb : Nat} {fb : Nat → Int} {u v : Int} (ha : Wn w sa xa na ca fa u) (hb : Wn w sb xb nb cb fb v) (hu : u ≠ 0) (hv : v ≠ 0) (hna : na ≤ 1) (hnb1 : nb ≤ 1) :
    Calls Tryz.prog 56 #[.agg #[.bool sa, .slice xa na ca], .agg #[.bool sb, .slice xb nb cb]] w fun e w' => RatTgt 2 w w' e ((u : Rat) / (v : Rat)) := by
  have HA0 := hid ha; have HB0 := hid hb
  have hvA : 0 < v.natAbs := by omega
  have hnb : 0 < nb := hb.mag.pos (by omega)
  clear ha hb
  have hn0 : ((nb : Int) == 0) = false := by simp; omega
  go_enter Tryz.func56, Tryz.ntmps56
  go_wp2_with fail
  refine (rwForm_c sa xa na ca fa _ (by omega) (((HA0.out.alloc _).alloc _).alloc _).rd).mono ?_
  rintro e w1 ⟨rfl, hb⟩
  rw [HA0.out.wf]
  obtain ⟨ba, bb, ob, hw⟩ := mk_boxes hb
  have BA1 := hid ba; have BB1 := hid bb; have OB1 := hid ob; have HW1 := hid hw; have HA1 := hid (HA0.out.below hw); have HB1 := hid (HB0.out.below hw)
  clear ba bb ob hw hb HA0 HB0
  obtain ⟨zb, b0, b1⟩ := BB1.out
  go_wp2_with fail
  refine (rwForm_c sb xb nb cb fb _ (by omega) HB1.out.rd).mono ?_
  rintro e w2 ⟨rfl, hb⟩
  rw [HB1.out.wf]
  clear zb b0 b1
  have BA2 := hid (BA1.out.below hb); have BB2 := hid (BB1.out.below hb); have OB2 := hid (OB1.out.below hb); have HA2 := hid (HA1.out.below hb); have HB2 := hid (HB1.out.below hb); have HW2 := hid (HW1.out.trans (hb.mono HW1.out.size))
  clear BA1 BB1 OB1 HA1 HB1 HW1 hb
  obtain ⟨za, a0, a1⟩ := BA2.out
  obtain ⟨zb, b0, b1⟩ := BB2.out
  obtain ⟨hz, z0, z1, z2, zf⟩ := OB2.out
  have hO2 := OB2.out
  have C1 : Hid (∀ W, Below w2.heap.size w2 W → Calls Tryz.prog 93 #[.slice xa na ca] W fun e w' => ∃ z k c', e = .returned (.slice z k c') ∧ Below W.heap.size W w' ∧ Hid (k ≤ 2 * na ∧ Dn w' z k (dig fa) u.natAbs)) := fun W hW => fromDn_c (HA2.out.below hW) (by omega)
  have C2 : Hid (∀ W, Below w2.heap.size w2 W → Calls Tryz.prog 93 #[.slice xb nb cb] W fun e w' => ∃ z k c', e = .returned (.slice z k c') ∧ Below W.heap.size W w' ∧ Hid (k ≤ 2 * nb ∧ Dn w' z k (dig fb) v.natAbs)) := fun W hW => fromDn_c (HB2.out.below hW) (by omega)
  have C3 : Hid (∀ (W : World) (z : Option Addr) (k cap : Nat), k ≤ 2 → Calls Tryz.prog 92 #[.bool (!(sa == sb)), .slice z k cap] W fun e w' => ∃ r, e = .returned (.agg #[.bool r, .slice z k cap]) ∧ Below W.heap.size W w' ∧ Hid (r = ((!(sa == sb)) && decide (0 < k)))) := fun W z k cap hk => (zMk_c (!(sa == sb)) z k cap W (by omega)).mono (fun e w' ⟨r, h1, h2, h3⟩ => ⟨r, h1, h3, h2⟩)
  have C4 : Hid (∀ (W : World) (r : Bool) (z : Option Addr) (k cap : Nat) (y : Option Addr) (m e : Nat), k ≤ 2 → m ≤ 2 → Dn W z k (dig fa) u.natAbs → Dn W y m (dig fb) v.natAbs → Calls Tryz.prog 91 #[.agg #[.bool r, .slice z k cap], .slice y m e] W fun e w' => ∃ r' z k c' z2 k2 c2, e = .returned (.agg #[.bool r', .slice z k c', .slice z2 k2 c2]) ∧ Below W.heap.size W w' ∧ Hid (k ≤ 2 ∧ k2 ≤ 2 ∧ r' = (r && decide (0 < k)) ∧ (∃ d', Dn w' z k d' (u.natAbs / u.natAbs.gcd v.natAbs)) ∧ ∃ d2, Dn w' z2 k2 d2 (v.natAbs / u.natAbs.gcd v.natAbs))) := fun W r z k cap y m e hk hm h1 h2 => (mkSmall_c h1 h2 (by omega) hk hm hvA).mono (fun e w' ⟨r', z, k, c', d', z2, k2, c2, d2, h1, h2, h3, h4, h5, h6, h7⟩ => ⟨r', z, k, c', z2, k2, c2, h1, h2, h3, h4, h5, ⟨d', h6⟩, d2, h7⟩)
  have C5 : Hid (∀ (W : World) (r : Bool) (z : Option Addr) (k cap : Nat) (y : Option Addr) (m e : Nat), k ≤ 2 → m ≤ 2 → (∃ d', Dn W z k d' (u.natAbs / u.natAbs.gcd v.natAbs)) → (∃ d2, Dn W y m d2 (v.natAbs / u.natAbs.gcd v.natAbs)) → Calls Tryz.prog 75 #[.agg #[.bool r, .slice z k cap, .slice y m e]] W fun en w' => ∃ z k' c' f z2 k2 c2 f2, en = .returned (.agg #[.bool r, .slice z k' c', .slice z2 k2 c2]) ∧ Below W.heap.size W w' ∧ Hid (k' ≤ k ∧ k2 ≤ m ∧ Wn w' false z k' c' f ((u.natAbs / u.natAbs.gcd v.natAbs : Nat) : Int) ∧ Wn w' false z2 k2 c2 f2 ((v.natAbs / u.natAbs.gcd v.natAbs : Nat) : Int) ∧ Tg w' z ∧ Tg w' z2)) := fun W r z k cap y m e hk hm ⟨_, h1⟩ ⟨_, h2⟩ => qTo_c h1 h2 (by omega) (by omega)
  go_wp2_with fail
  go_region_held3 (fun w' => w'.cell? ⟨w.heap.size, 0, none⟩ = some (.bool sa) ∧ w'.cell? ⟨w.heap.size, 1, none⟩ = some (.slice xa na ca) ∧ w'.cell? ⟨w.heap.size + 1, 0, none⟩ = some (.bool sb) ∧ w'.cell? ⟨w.heap.size + 1, 1, none⟩ = some (.slice xb nb cb) ∧ (w'.cell? ⟨w.heap.size + 1 + 1, 0, none⟩).isSome = true ∧ (w'.cell? ⟨w.heap.size + 1 + 1, 1, none⟩).isSome = true ∧ (w'.cell? ⟨w.heap.size + 1 + 1, 2, none⟩).isSome = true ∧ w'.frozen? ⟨w.heap.size + 1 + 1, 0, none⟩ = false ∧ w'.frozen? ⟨w.heap.size + 1 + 1, 1, none⟩ = false ∧ w'.frozen? ⟨w.heap.size + 1 + 1, 2, none⟩ = false)
    (refine ⟨?_, ?_, ?_, ?_, ?_, ?_, ?_, ?_, ?_, ?_⟩ <;> repeat (with_reducible first | assumption | exact zf _ | exact kI0 z0 | exact kI0 z1 | exact kI0 z2 | exact tf _ | exact kI0 t0 | exact kI0 t1 | exact kI0 t2 | exact uf _ | exact kI0 u0 | exact kI0 u1 | exact kI0 u2 | exact vf _ | exact kI0 v0 | exact kI0 v1 | exact kI0 v2 | exact sf _ | exact kI0 s0 | exact kI0 s1 | exact kI0 s2 | exact rf _ | exact kI0 r0 | exact kI0 r1 | exact kI0 r2 | refine kCd ?_ | refine kId ?_ | refine kFd ?_ | refine kCs (by simp only [ne_eq]; omega) ?_ | refine kIs ?_ | refine kFs ?_ | refine kCb (by assumption) ?_ | refine kIb (by assumption) ?_))
    (first
      | (go_at_call 93; with_reducible refine (C1.out _ (by repeat (with_reducible first | assumption | exact Below.refl _ _ | refine Below.drew ?_ | refine kBa ?_ | refine kBb (by assumption) ?_))).mono ?_; rintro e w5 ⟨zp, kp, cp, rfl, hb5, HP⟩; have hkp : kp ≤ 2 := (by have := HP.out.1; omega); have TU : Ob w5 (w.heap.size + 1 + 1) := (by repeat (with_reducible first | exact OB | exact hO2 | exact TU | exact TV | exact TW | exact TX | exact TY | refine Ob.drew ?_ | refine kOb (by assumption) ?_)); obtain ⟨_, t0, t1, t2, tf⟩ := id TU)
      | (go_at_call 92; with_reducible refine (C3.out _ zp kp cp hkp).mono ?_; rintro e w6 ⟨r, rfl, hb6, HR⟩; have TV : Ob w6 (w.heap.size + 1 + 1) := (by repeat (with_reducible first | exact OB | exact hO2 | exact TU | exact TV | exact TW | exact TX | exact TY | refine Ob.drew ?_ | refine kOb (by assumption) ?_)); obtain ⟨_, u0, u1, u2, uf⟩ := id TV)
      | (go_at_call 93; with_reducible refine (C2.out _ (by repeat (with_reducible first | assumption | exact Below.refl _ _ | refine Below.drew ?_ | refine kBa ?_ | refine kBb (by assumption) ?_))).mono ?_; rintro e w7 ⟨zq, kq, cq, rfl, hb7, HQ⟩; have hkq : kq ≤ 2 := (by have := HQ.out.1; omega); have TW : Ob w7 (w.heap.size + 1 + 1) := (by repeat (with_reducible first | exact OB | exact hO2 | exact TU | exact TV | exact TW | exact TX | exact TY | refine Ob.drew ?_ | refine kOb (by assumption) ?_)); obtain ⟨_, v0, v1, v2, vf⟩ := id TW)
      | (go_at_call 91; with_reducible refine (C4.out _ r zp kp cp zq kq cq hkp hkq ((HP.out.2.below hb6).below hb7) HQ.out.2).mono ?_; rintro e w8 ⟨r', zr, kr, cr, zs, ks, cs, rfl, hb8, HM⟩; have TX : Ob w8 (w.heap.size + 1 + 1) := (by repeat (with_reducible first | exact OB | exact hO2 | exact TU | exact TV | exact TW | exact TX | exact TY | refine Ob.drew ?_ | refine kOb (by assumption) ?_)); obtain ⟨_, s0, s1, s2, sf⟩ := id TX)
      | (go_at_call 75; with_reducible refine (C5.out _ r' zr kr cr zs ks cs HM.out.1 HM.out.2.1 HM.out.2.2.2.1 HM.out.2.2.2.2).mono ?_; rintro e w9 ⟨zn, kn, cn, fn, zd, kd, cd, fd, rfl, hb9, HT⟩; have TY : Ob w9 (w.heap.size + 1 + 1) := (by repeat (with_reducible first | exact OB | exact hO2 | exact TU | exact TV | exact TW | exact TX | exact TY | refine Ob.drew ?_ | refine kOb (by assumption) ?_)); obtain ⟨_, r0, r1, r2, rf⟩ := id TY))
  have hb : Below w2.heap.size w2 w9 := (by repeat (with_reducible first | assumption | exact Below.refl _ _ | refine Below.drew ?_ | refine kBa ?_ | refine kBb (by assumption) ?_))
  have hT := HT.out
  obtain ⟨e1, e2⟩ := make_made HA2.out.sgn HB2.out.sgn hvA
  have hM := HM.out
  have hRR : r' = ((sa != sb) && decide (0 < kn)) := by
    rw [hM.2.2.1, HR.out]
    have e3 : 0 < u.natAbs / u.natAbs.gcd v.natAbs := Nat.div_pos (Nat.gcd_le_left _ (by omega)) (Nat.gcd_pos_of_pos_right _ hvA)
    have k1 : 0 < kn := hT.2.2.1.pos (by omega)
    have k2 : 0 < kr := by omega
    have k3 : 0 < kp := by
      rcases Nat.eq_zero_or_pos kp with h | h
      · have h2 := HP.out.2.val; rw [h] at h2; have : (0 : Int) = u.natAbs := h2; omega
      · exact h
    simp [k1, k2, k3, bne]
  go_wp2
  refine bodyPost_ret (v := .tuple #[.agg #[.bool r', .slice zn kn cn, .slice zd kd cd], .int .i64 0]) (by simp [results, Tryz.results56, go_sem, r0, r1, r2]) rfl ⟨r', zn, kn, cn, fn, zd, kd, cd, fd, rfl, below_st (HW2.out.trans (hb.mono HW2.out.size)) (by omega), ⟨?_, ?_, by omega, by omega⟩, ((hT.2.2.2.2.1.set _ _).set _ _).set _ _, ((hT.2.2.2.2.2.set _ _).set _ _).set _ _⟩
  · rw [e1]; exact TY.wn (hT.2.2.1.resign hRR)
  · rw [e2]; exact TY.wn hT.2.2.2.1
end Go.Proofs.YtlpmfmphglgocaaGreatDoor
namespace Go.Proofs.YtlpmfmphglgocaaGreatDoor
open Go.RowKit

theorem Wn.len1 {w s x n c f v} (h : Wn w s x n c f v) (hv : v.natAbs < 18446744073709551616) : n ≤ 1 := by
  rcases Nat.lt_or_ge 1 n with h2 | h2
  · have h1 := vf_form_ge h.lm h.fm (by omega)
    have h3 := pw_mono (show 1 ≤ n - 1 by omega)
    have h4 : pw 1 = 18446744073709551616 := by simp [pw]
    have h5 := h.mag.nv
    omega
  · omega
set_option maxRecDepth 100000 in
set_option maxHeartbeats 4000000 in
theorem num_c (w : World) (n d : Int) (hn : -9223372036854775808 ≤ n ∧ n ≤ 9223372036854775807) (hd : -9223372036854775808 ≤ d ∧ d ≤ 9223372036854775807) (h1 : n ≠ 0) (h2 : d ≠ 0) :
    Calls Tryz.prog 20 #[.int .i64 n, .int .i64 d] w fun e w' => RatTga 2 w w' e ((n : Rat) / (d : Rat)) := by
  have h3 := ob_new w 24
  have h4 := below_alloc (Below.refl w.heap.size w) (.cells #[.bool false, .slice none 0 0, .slice none 0 0] 24)
  go_enter Tryz.func20, Tryz.ntmps20
  go_wp2_with fail
  generalize w.alloc (.cells #[.bool false, .slice none 0 0, .slice none 0 0] 24) = w1 at *
  have OB1 := hid h3; have HW1 := hid h4
  clear h3 h4
  refine (docOf_c n _ hn.1 hn.2).mono ?_
  rintro e w2 ⟨s2, x2, k2, c2, f2, rfl, hr2, hv2⟩
  have hb := hr2.res.bel
  have WN2 := hid (hr2.wn hv2)
  have hk2 := (hr2.wn hv2).len1 (by omega)
  clear hr2 hv2
  have OB2 := hid (OB1.out.below hb); have HW2 := hid (HW1.out.trans (hb.mono HW1.out.size))
  clear OB1 HW1 hb
  go_wp2_with fail
  refine (docOf_c d _ hd.1 hd.2).mono ?_
  rintro e w3 ⟨s3, x3, k3, c3, f3, rfl, hr3, hv3⟩
  have hb := hr3.res.bel
  have WD3 := hid (hr3.wn hv3)
  have hk3 := (hr3.wn hv3).len1 (by omega)
  clear hr3 hv3
  have OB3 := hid (OB2.out.below hb); have WN3 := hid (WN2.out.below hb); have HW3 := hid (HW2.out.trans (hb.mono HW2.out.size))
  clear OB2 WN2 HW2 hb
  go_wp2_with fail
  refine (docMake_c WN3.out WD3.out h1 h2 hk2 hk3).mono ?_
  rintro e w4 ⟨rs, zn, kn, cn, fn, zd, kd, cd, fd, rfl, hb, hr, ht1, ht2⟩
  have HR := hid hr; have G1 := hid ht1; have G2 := hid ht2
  clear hr ht1 ht2
  have OB4 := hid (OB3.out.below hb); have HW4 := hid (HW3.out.trans (hb.mono HW3.out.size))
  clear OB3 HW3 hb
  obtain ⟨hz, z0, z1, z2, zf⟩ := OB4.out
  go_wp2
  exact bodyPost_ret (v := .agg #[.bool rs, .slice zn kn cn, .slice zd kd cd]) (by simp [results, Tryz.results20, go_sem, z0, z1, z2, hz]) rfl ⟨rs, zn, kn, cn, fn, zd, kd, cd, fd, rfl, below_alloc (below_st HW4.out (Nat.le_refl _)) _, (OB4.out.rn HR.out).alloc _, (((G1.out.set _ _).set _ _).set _ _).alloc _, (((G2.out.set _ _).set _ _).set _ _).alloc _⟩

set_option maxRecDepth 100000 in
set_option maxHeartbeats 4000000 in
theorem rMake_n {w : World} {sa : Bool} {xa : Option Addr} {na ca : Nat} {fa : Nat → Int} {sb : Bool} {xb : Option Addr} {nb cb : Nat} {fb : Nat → Int} {u v : Int} (ha : Wn w sa xa na ca fa u) (hb : Wn w sb xb nb cb fb v) {L : Nat} (hv : v ≠ 0) (hna : na ≤ L) (hnbL : nb ≤ L) (hL : L ≤ 1000) :
    Calls Tryz.prog 17 #[.agg #[.bool sa, .slice xa na ca], .agg #[.bool sb, .slice xb nb cb]] w fun e w' => RatTup L w w' e ((u : Rat) / (v : Rat)) := by
  have HA0 := hid ha; have HB0 := hid hb
  have hvA : 0 < v.natAbs := by omega
  have hnb : 0 < nb := hb.mag.pos (by omega)
  clear ha hb
  have hn0 : ((nb : Int) == 0) = false := by simp; omega
  go_enter Tryz.func17, Tryz.ntmps17
  go_wp2_with fail
  refine (wForm_c sa xa na ca fa _ (by omega) (((HA0.out.alloc _).alloc _).alloc _).rd).mono ?_
  rintro e w1 ⟨rfl, hb⟩
  rw [HA0.out.wf]
  obtain ⟨ba, bb, ob, hw⟩ := mk_boxes hb
  have BA1 := hid ba; have BB1 := hid bb; have OB1 := hid ob; have HW1 := hid hw; have HA1 := hid (HA0.out.below hw); have HB1 := hid (HB0.out.below hw)
  clear ba bb ob hw hb HA0 HB0
  obtain ⟨zb, b0, b1⟩ := BB1.out
  go_wp2_with fail
  refine (wForm_c sb xb nb cb fb _ (by omega) HB1.out.rd).mono ?_
  rintro e w2 ⟨rfl, hb⟩
  rw [HB1.out.wf]
  clear zb b0 b1
  have BA2 := hid (BA1.out.below hb); have BB2 := hid (BB1.out.below hb); have OB2 := hid (OB1.out.below hb); have HA2 := hid (HA1.out.below hb); have HB2 := hid (HB1.out.below hb); have HW2 := hid (HW1.out.trans (hb.mono HW1.out.size))
  clear BA1 BB1 OB1 HA1 HB1 HW1 hb
  obtain ⟨za, a0, a1⟩ := BA2.out
  obtain ⟨zb, b0, b1⟩ := BB2.out
  obtain ⟨hz, z0, z1, z2, zf⟩ := OB2.out
  go_wp2_with fail
  refine (ratGcd_c HA2.out.mag HB2.out.mag (by omega) (by omega)).mono ?_
  rintro e w3 ⟨zg, kg, cg, fg, rfl, hb, hg⟩
  have WG3 := hid hg
  have hG0 : 0 < u.natAbs.gcd v.natAbs := Nat.gcd_pos_of_pos_right _ hvA
  have hkg : kg ≤ L := Nat.le_trans (hg.len_le HB2.out.mag (Nat.gcd_le_right _ hvA)) (by omega)
  clear hg za a0 a1 zb b0 b1 hz z0 z1 z2 zf
  have BA3 := hid (BA2.out.below hb); have BB3 := hid (BB2.out.below hb); have OB3 := hid (OB2.out.below hb); have HA3 := hid (HA2.out.below hb); have HB3 := hid (HB2.out.below hb); have HW3 := hid (HW2.out.trans (hb.mono HW2.out.size))
  clear BA2 BB2 OB2 HA2 HB2 HW2 hb
  obtain ⟨za, a0, a1⟩ := BA3.out
  obtain ⟨zb, b0, b1⟩ := BB3.out
  go_wp2_with fail
  refine (div_n HA3.out.mag WG3.out hG0 (by omega) (by omega)).mono ?_
  rintro e w4 ⟨zn, kn, cn, fn, zx, kx, cx, rfl, hb, hkn, hn⟩
  have WN4 := hid hn
  clear hn za a0 a1 zb b0 b1
  have BA4 := hid (BA3.out.below hb); have BB4 := hid (BB3.out.below hb); have OB4 := hid (OB3.out.below hb); have HA4 := hid (HA3.out.below hb); have HB4 := hid (HB3.out.below hb); have WG4 := hid (WG3.out.below hb); have HW4 := hid (HW3.out.trans (hb.mono HW3.out.size))
  clear BA3 BB3 OB3 HA3 HB3 WG3 HW3 hb
  obtain ⟨za, a0, a1⟩ := BA4.out
  obtain ⟨zb, b0, b1⟩ := BB4.out
  go_wp2_with fail
  refine (div_n HB4.out.mag WG4.out hG0 (by omega) (by omega)).mono ?_
  rintro e w5 ⟨zd, kd, cd, fd, zy, ky, cy, rfl, hb, hkd, hn⟩
  have WD5 := hid hn
  clear hn za a0 a1 zb b0 b1
  have BA5 := hid (BA4.out.below hb); have BB5 := hid (BB4.out.below hb); have OB5 := hid (OB4.out.below hb); have HA5 := hid (HA4.out.below hb); have HB5 := hid (HB4.out.below hb); have WN5 := hid (WN4.out.below hb); have HW5 := hid (HW4.out.trans (hb.mono HW4.out.size))
  clear BA4 BB4 OB4 HA4 HB4 WN4 HW4 hb
  obtain ⟨za, a0, a1⟩ := BA5.out
  obtain ⟨zb, b0, b1⟩ := BB5.out
  obtain ⟨e1, e2⟩ := make_made HA5.out.sgn HB5.out.sgn hvA
  have E1 := hid e1; have E2 := hid e2
  clear e1 e2
  go_wp2_with fail
  refine (rsigned_c _ zn zd kn cn kd cd _ (by omega)).mono ?_
  rintro e w6 ⟨rs, rfl, HRS, hb⟩
  clear za a0 a1 zb b0 b1
  have OB6 := hid (OB5.out.below hb); have WN6 := hid (WN5.out.below hb); have WD6 := hid (WD5.out.below hb); have HW6 := hid (HW5.out.trans (hb.mono HW5.out.size))
  clear OB5 WN5 WD5 HW5 hb
  obtain ⟨hz, z0, z1, z2, zf⟩ := OB6.out
  go_wp2
  refine bodyPost_ret (v := .tuple #[.agg #[.bool rs, .slice zn kn cn, .slice zd kd cd], .int .i64 0]) (by simp [results, Tryz.results17, go_sem, z0, z1, z2]) rfl ⟨rs, zn, kn, cn, fn, zd, kd, cd, fd, rfl, below_st HW6.out (by omega), ⟨?_, ?_, by omega, by omega⟩⟩
  · rw [E1.out]; exact OB6.out.wn (WN6.out.resign HRS.out)
  · rw [E2.out]; exact OB6.out.wn WD6.out
end Go.Proofs.YtlpmfmphglgocaaGreatDoor
namespace Go.Proofs.YtlpmfmphglgocaaGreatDoor
open Go.RowKit

/-- A new box for an answer of two cells. -/
structure Ob2 (w : World) (B : Nat) : Prop where
  z : B < w.heap.size
  z0 : w.cell? ⟨B, 0, none⟩ = some (.bool false)
  z1 : w.cell? ⟨B, 1, none⟩ = some (.slice none 0 0)
  zf : ∀ o, w.frozen? ⟨B, o, none⟩ = false
theorem Ob2.below {w w' B} (h : Ob2 w B) (hb : Below w.heap.size w w') : Ob2 w' B := by
  obtain ⟨h1, h2⟩ := bcell hb
  exact ⟨Nat.lt_of_lt_of_le h.z hb.size, kCb hb h.z0, kCb hb h.z1, fun o => (h2 _ _ h.z).trans (h.zf o)⟩
theorem ob2_new (w : World) (t : TypeId) : Ob2 (w.alloc (.cells #[.bool false, .slice none 0 0] t)) w.heap.size := by
  refine ⟨by simp, by simp [go_sem], by simp [go_sem], fun o => ?_⟩
  have e := heap_alloc_new w (.cells #[.bool false, .slice none 0 0] t)
  simp only [World.frozen?, e]; simp
theorem Ob2.wn {w B u0 u1 s x n c f v} (h : Ob2 w B) (hx : Wn w s x n c f v) : Wn ((w.setCell ⟨B, 0, none⟩ u0).setCell ⟨B, 1, none⟩ u1) s x n c f v :=
  ⟨rd_setne (cell_off (by decide) h.z1) (fun i h => by cases h) (rd_setne h.z0 (fun i h => by cases h) hx.rd), hx.lm, hx.wf, hx.cap, hx.nil, hx.val⟩
theorem below_st2 {w0 w : World} {B : Nat} {u0 u1 : Value} (hw : Below w0.heap.size w0 w) (hB : w0.heap.size ≤ B) :
    Below w0.heap.size w0 ((w.setCell ⟨B, 0, none⟩ u0).setCell ⟨B, 1, none⟩ u1) :=
  below_turned hw hw.size (((Turned.refl w0.heap.size (B + 1) w).set (x := ⟨B, 0, none⟩) hB (by simp) _).set (x := ⟨B, 1, none⟩) hB (by simp) _) (Nat.le_refl _)
theorem flr_ediv {a b q r : Int} (hb : 0 < b) (h : Flr a b q r) : q = a / b := by
  obtain ⟨h1, h2⟩ := h
  have h3 : 0 ≤ r ∧ r < b := by omega
  have h4 : a / b = q := by
    rw [h1, Int.add_comm, Int.add_mul_ediv_right _ _ (by omega), Int.ediv_eq_zero_of_lt h3.1 h3.2]; omega
  exact h4.symm
theorem fl_of {L : Nat} {w1 wx W5 w5 : World} {b4 : Nat} {r1 : Bool} {p1 : Option Addr} {k1 c1 n : Nat} {q : Nat → Int} {v : Int} (hn : n ≤ L) (hW : Below w1.heap.size w1 W5) (hD : WRes (n + 2) W5 w5 r1 p1 k1 c1 q ∧ wv r1 q k1 = v) (hT : Turned w1.heap.size W5.heap.size w5 wx) (hb : Bx wx b4 r1 p1 k1 c1) : FlAt L w1 wx b4 r1 p1 k1 c1 v := by
  have hQ := hD.1.res.turned hW hT
  have := hQ.le
  exact ⟨hb, hQ.bel, ⟨q, hQ.rd, hQ.lm, hD.1.wfB, hQ.ncap, hQ.nil', hD.2⟩, by omega⟩

set_option maxRecDepth 100000 in
set_option maxHeartbeats 8000000 in
theorem rFloor_n {L : Nat} {w : World} {sa : Bool} {xa : Option Addr} {na ca : Nat} {fa : Nat → Int} {ya : Option Addr} {ma da : Nat} {ga : Nat → Int} {a : Rat} (ha : Rn L w sa xa na ca fa ya ma da ga a) (hL : L ≤ 1000) :
    Calls Tryz.prog 21 #[.agg #[.bool sa, .slice xa na ca, .slice ya ma da]] w fun e w' => ∃ s z k c f, e = .returned (.tuple #[.agg #[.bool s, .slice z k c], .int .i64 0]) ∧ Below w.heap.size w w' ∧ k ≤ L + 2 ∧ Wn w' s z k c f a.floor := by
  have HA0 := hid ha
  have b1 := ha.ln; have b2 := ha.ld
  clear ha
  go_enter Tryz.func21, Tryz.ntmps21
  go_wp2_with fail
  refine (rForm_n ((HA0.out.alloc _).alloc _) (by omega)).mono ?_
  rintro e w1 ⟨rfl, hbel⟩
  have hbx := ((bx3_at w _ _ _ _).alloc _).below hbel
  have hob := (ob2_new (w.alloc _) _).below hbel
  rw [size_alloc1] at hob
  have HW1 : Hid (Below w.heap.size w w1) := (below_alloc (below_alloc (Below.refl w.heap.size w) _) _).trans (hbel.mono (by simp; omega))
  have HA1 := hid (HA0.out.below HW1.out); have OB1 := hid hob
  clear hbel hob HA0
  obtain ⟨za, x0, x1, x2⟩ := hbx
  have C1 : Hid (∀ W, Below w1.heap.size w1 W → Calls Tryz.prog 58 #[.agg #[.bool sa, .slice xa na ca, .slice ya ma da]] W fun e w' => e = .returned (.agg #[.bool sa, .slice xa na ca]) ∧ Below W.heap.size W w') := fun W _ => numer_c sa xa ya na ca ma da W
  have C2 : Hid (∀ W, Below w1.heap.size w1 W → Calls Tryz.prog 59 #[.agg #[.bool sa, .slice xa na ca, .slice ya ma da]] W fun e w' => e = .returned (.agg #[.bool false, .slice ya ma da]) ∧ Below W.heap.size W w') := fun W _ => denom_c sa xa ya na ca ma da W
  have C3 : Hid (∀ W, Below w1.heap.size w1 W → Calls Tryz.prog 57 #[.agg #[.bool sa, .slice xa na ca], .agg #[.bool false, .slice ya ma da]] W fun e w' => ∃ r1 p1 k1 c1 q r2 p2 k2 c2, e = .returned (.tuple #[.agg #[.bool r1, .slice p1 k1 c1], .agg #[.bool r2, .slice p2 k2 c2], .int .i64 0]) ∧ Below W.heap.size W w' ∧ Hid (WRes (na + 2) W w' r1 p1 k1 c1 q ∧ wv r1 q k1 = a.floor)) := fun W hW => by
    have hh := HA1.out.below hW
    refine (wDivide_c sa false xa ya na ma ca da fa ga W (by omega) (by omega) hh.num.rd hh.den.rd hh.num.lm hh.den.lm).mono ?_
    rintro e w' ⟨r1, p1, k1, c1, q, r2, p2, k2, c2, r, er, rfl, h1, h2, h3⟩
    have hd := a.den_pos
    have hm0 : 0 < ma := hh.den.pos (by omega)
    rcases h3 with ⟨_, _, rfl, h4⟩ | ⟨_, h4, _⟩ | ⟨h4, _⟩
    · refine ⟨r1, p1, k1, c1, q, r2, p2, k2, c2, rfl, h1.res.bel, h1, ?_⟩
      rw [hh.num.val, hh.den.val] at h4
      rw [flr_ediv (by omega) h4, rfloor]
    · omega
    · exact absurd ⟨hh.num.wf, hh.den.wf⟩ h4
  go_upto_region 3 with fail
  go_cut [4, 5, 6] from 11 to 19 (fun u v t wx => ∃ b4 b5 s z k c, u = .pointer (some ⟨b4, 0, none⟩) ∧ v = .pointer (some ⟨b5, 0, none⟩) ∧ t = .int .i64 0 ∧ FlAt L w1 wx b4 s z k c a.floor)
  case first =>
    go_region_held3 (fun w' => w'.cell? ⟨w.heap.size, 0, none⟩ = some (.bool sa) ∧ w'.cell? ⟨w.heap.size, 1, none⟩ = some (.slice xa na ca) ∧ w'.cell? ⟨w.heap.size, 2, none⟩ = some (.slice ya ma da))
      (refine ⟨?_, ?_, ?_⟩ <;> repeat (with_reducible first | assumption | refine kCd ?_ | refine kCa ?_ | refine kCs (by simp only [ne_eq]; omega) ?_ | refine kCb (by assumption) ?_))
      (first
        | (go_at_call 58; with_reducible refine (C1.out _ (by repeat (with_reducible first | assumption | exact Below.refl _ _ | refine Below.drew ?_ | refine kBa ?_ | refine kBb (by assumption) ?_))).mono ?_; rintro e w3 ⟨rfl, hb3⟩; have hza := hb3.size; (try simp at hza); obtain ⟨hc3, hf3⟩ := bcell hb3; (try have q100 : w1.heap.size < w3.heap.size := by omega); (try have q101 : w1.heap.size + 1 < w3.heap.size := by omega))
        | (go_at_call 59; with_reducible refine (C2.out _ (by repeat (with_reducible first | assumption | exact Below.refl _ _ | refine Below.drew ?_ | refine kBa ?_ | refine kBb (by assumption) ?_))).mono ?_; rintro e w4 ⟨rfl, hb4⟩; have hzb := hb4.size; (try simp at hzb); obtain ⟨hc4, hf4⟩ := bcell hb4; (try have q100 : w1.heap.size < w4.heap.size := by omega); (try have q101 : w1.heap.size + 1 < w4.heap.size := by omega); (try have q102 : w3.heap.size < w4.heap.size := by omega); (try have q103 : w3.heap.size + 1 < w4.heap.size := by omega))
        | (go_at_call 57; with_reducible refine (C3.out _ (by repeat (with_reducible first | assumption | exact Below.refl _ _ | refine Below.drew ?_ | refine kBa ?_ | refine kBb (by assumption) ?_))).mono ?_; rintro e w5 ⟨r1, p1, k1, c1, q, r2, p2, k2, c2, rfl, hb5, HD⟩; have hzc := hb5.size; (try simp at hzc); obtain ⟨hc5, hf5⟩ := bcell hb5; (try have q100 : w1.heap.size < w5.heap.size := by omega); (try have q101 : w1.heap.size + 1 < w5.heap.size := by omega); (try have q102 : w3.heap.size < w5.heap.size := by omega); (try have q103 : w3.heap.size + 1 < w5.heap.size := by omega); (try have q104 : w4.heap.size < w5.heap.size := by omega); (try have q105 : w4.heap.size + 1 < w5.heap.size := by omega)))
    all_goals
      go_wp2_with fail
      go_meet
      refine ⟨_, _, r1, p1, k1, c1, rfl, rfl, rfl, fl_of b1 (by repeat (with_reducible first | assumption | exact Below.refl _ _ | refine Below.drew ?_ | refine kBa ?_ | refine kBb (by assumption) ?_)) HD.out (by repeat (with_reducible first | exact Turned.refl _ _ _ | refine Turned.drew ?_ | refine Turned.alloc ?_ _ | refine Turned.set ?_ (by first | omega | (simp; done) | (simp; omega)) (by first | omega | (simp; done) | (simp; omega)) _)) ⟨(by first | omega | (simp; done) | (simp; omega)), (by repeat (with_reducible first | assumption | exact kN0 | exact kN1 | (refine kM0 ?_; (simp <;> fail)) | (refine kM1 ?_; (simp <;> fail)) | exact kI0 kN0 | exact kI0 kN1 | (refine kI0 (kM0 ?_); (simp <;> fail)) | (refine kI0 (kM1 ?_); (simp <;> fail)) | refine kCd ?_ | refine kCe ?_ | refine kCo (by decide) ?_ | refine kCs (by simp only [ne_eq]; omega) ?_ | refine kCa ?_ | refine kCb (by assumption) ?_ | refine kId ?_ | refine kIs ?_ | refine kIa ?_ | refine kIb (by assumption) ?_)), (by repeat (with_reducible first | assumption | exact kN0 | exact kN1 | (refine kM0 ?_; (simp <;> fail)) | (refine kM1 ?_; (simp <;> fail)) | exact kI0 kN0 | exact kI0 kN1 | (refine kI0 (kM0 ?_); (simp <;> fail)) | (refine kI0 (kM1 ?_); (simp <;> fail)) | refine kCd ?_ | refine kCe ?_ | refine kCo (by decide) ?_ | refine kCs (by simp only [ne_eq]; omega) ?_ | refine kCa ?_ | refine kCb (by assumption) ?_ | refine kId ?_ | refine kIs ?_ | refine kIa ?_ | refine kIb (by assumption) ?_))⟩⟩
  case rest =>
    obtain ⟨b4, b5, s, z, k, c, rfl, rfl, rfl, hbx, hbel, ⟨f, hwn⟩, hle⟩ := hcut
    have OB2' := hid (OB1.out.below hbel); have HW2 := hid (HW1.out.trans (hbel.mono HW1.out.size)); have WN := hid hwn
    clear hbel hwn x0 x1 x2 za C1 C2 C3 OB1 HW1
    obtain ⟨zb, y0, y1⟩ := hbx
    obtain ⟨hz, z0, z1, zf⟩ := OB2'.out
    go_wp2
    exact bodyPost_ret (v := .tuple #[.agg #[.bool s, .slice z k c], .int .i64 0]) (by simp [results, Tryz.results21, go_sem, z0, z1]) rfl ⟨s, z, k, c, f, rfl, below_st2 HW2.out (by omega), hle, OB2'.out.wn WN.out⟩
end Go.Proofs.YtlpmfmphglgocaaGreatDoor
