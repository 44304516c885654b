/-
  Walks of package nat's reading: isNumber, readPiece.
-/
import Derived.Test.YtjjbmioicliipabDoorT3
namespace Go.Proofs.YtjjbmioicliipabDoor
open Go.RowKit

/-- The string has the bytes b, L of them. -/
def Sb (s : ByteArray) (L : Nat) (b : Nat → Nat) : Prop := s.size = L ∧ ∀ k (h : k < s.size), (s[k]'h).toNat = b k
/-- All are decimal digits. -/
def Dig (b : Nat → Nat) (L : Nat) : Prop := ∀ k, k < L → 48 ≤ b k ∧ b k ≤ 57
/-- The number that the first n digits tell. -/
def dn (b : Nat → Nat) : Nat → Nat | 0 => 0 | n + 1 => dn b n * 10 + (b n - 48)
def bsh (b : Nat → Nat) (i : Nat) : Nat → Nat := fun k => b (i + k)
theorem dn_split (b : Nat → Nat) (i n : Nat) : dn b (i + n) = dn b i * 10 ^ n + dn (bsh b i) n := by
  induction n with
  | zero => simp [dn]
  | succ n ih =>
    show dn b (i + n) * 10 + (b (i + n) - 48) = dn b i * 10 ^ (n + 1) + (dn (bsh b i) n * 10 + (b (i + n) - 48))
    rw [ih, Nat.pow_succ]
    grind
theorem dn_lt {b : Nat → Nat} {n : Nat} (h : Dig b n) : dn b n < 10 ^ n := by
  induction n with
  | zero => simp [dn]
  | succ n ih =>
    have h1 := ih (fun k hk => h k (by omega))
    have h2 := h n (by omega)
    show dn b n * 10 + (b n - 48) < 10 ^ (n + 1)
    rw [Nat.pow_succ]; omega
theorem Dig.mono {b L L'} (h : Dig b L) (hl : L' ≤ L) : Dig b L' := fun k hk => h k (by omega)
theorem Dig.bsh {b L i n} (h : Dig b L) (hl : i + n ≤ L) : Dig (bsh b i) n := fun k hk => h (i + k) (by omega)
theorem Sb.take {s L b} (h : Sb s L b) {c : Nat} (hc : c ≤ L) : Sb (s.extract 0 c) c b := by
  obtain ⟨h1, h2⟩ := h
  refine ⟨by simp; omega, fun k hk => ?_⟩
  have hk' : k < c := by simp at hk; omega
  have := h2 k (by omega)
  rw [← this, ByteArray.getElem_extract]
  simp
theorem Sb.drop {s L b} (h : Sb s L b) {c : Nat} (hc : c ≤ L) : Sb (s.extract c L) (L - c) (bsh b c) := by
  obtain ⟨h1, h2⟩ := h
  refine ⟨by simp; omega, fun k hk => ?_⟩
  have hk' : k < L - c := by simp at hk; omega
  have := h2 (c + k) (by omega)
  show _ = b (c + k)
  rw [← this, ByteArray.getElem_extract]

set_option maxRecDepth 100000 in
set_option maxHeartbeats 1000000 in
theorem readPiece_c (s : ByteArray) (L : Nat) (b : Nat → Nat) (w : World) (hs : Sb s L b) (hL : L ≤ 19) (hd : Dig b L) :
    Calls Tryd.prog 52 #[.string s] w fun e w' => e = .returned (.int .u64 (dn b L)) ∧ w' = w := by
  obtain ⟨rfl, hb⟩ := hs
  have HB := hid hb
  have HD := hid hd
  clear hb hd
  go_enter Tryd.func52, Tryd.ntmps52
  go_wp2
  go_loop [3, 7] (fun c t => ∃ (k v : Nat), k ≤ s.size ∧ t = .int .i64 k ∧ c = .int .u64 v ∧ Hid (dn b k = v)) (fun _ t => s.size - (intOf t).toNat)
  case atStart => exact ⟨0, 0, by omega, rfl, rfl, rfl⟩
  case round =>
    obtain ⟨k, v, hk, rfl, rfl, HV⟩ := hrel
    by_cases hlt : k < s.size
    · obtain ⟨x, hx⟩ : ∃ x, b k = x := ⟨_, rfl⟩
      have hc : (s[k]'hlt).toNat = x := by rw [HB.out k hlt, hx]
      have hx1 := HD.out k hlt
      rw [hx] at hx1
      obtain ⟨x0, x1⟩ := hx1
      have hv : v < 10 ^ k := by rw [← HV.out]; exact dn_lt (HD.out.mono (by omega))
      have hv2 : v < 10 ^ 18 := Nat.lt_of_lt_of_le hv (Nat.pow_le_pow_right (by decide) (by omega))
      have hv3 : (v : Int) < 1000000000000000000 := by omega
      have hsub : ((x : Int) - 48) % 256 = ((x - 48 : Nat) : Int) := by omega
      have HX := hid hx
      clear hv hv2 hx
      go_wp2
      go_round
      case rel =>
        refine ⟨k + 1, v * 10 + (x - 48), by omega, by go_num, ?_, ?_⟩
        · congr 1; omega
        · show dn b k * 10 + (b k - 48) = _
          rw [HV.out, HX.out]
      case measure => simp [intOf]; omega
    · obtain rfl : k = s.size := by omega
      go_wp2
      go_ret
      exact ⟨by rw [HV.out]; rfl, rfl⟩

/-- isNumber, told. -/
def IsNum (b : Nat → Nat) (L : Nat) : Prop := Dig b L ∧ 0 < L ∧ (L = 1 ∨ b 0 ≠ 48)
def digB (b : Nat → Nat) : Nat → Bool | 0 => true | n + 1 => digB b n && (decide (48 ≤ b n) && decide (b n ≤ 57))
theorem digB_iff (b : Nat → Nat) (L : Nat) : digB b L = true ↔ Dig b L := by
  induction L with
  | zero => exact ⟨fun _ k hk => by omega, fun _ => rfl⟩
  | succ n ih =>
    simp only [digB, Bool.and_eq_true, decide_eq_true_eq, ih]
    constructor
    · rintro ⟨h, h1, h2⟩ k hk
      by_cases hkn : k = n
      · subst hkn; exact ⟨h1, h2⟩
      · exact h k (by omega)
    · exact fun h => ⟨fun k hk => h k (by omega), h n (by omega)⟩
def numB (b : Nat → Nat) (L : Nat) : Bool := digB b L && (decide (0 < L) && (decide (L = 1) || !decide (b 0 = 48)))
theorem numB_iff (b : Nat → Nat) (L : Nat) : numB b L = true ↔ IsNum b L := by
  simp [numB, IsNum, digB_iff]
theorem numB_true {b : Nat → Nat} {L : Nat} (h : IsNum b L) : numB b L = true := (numB_iff b L).2 h
theorem numB_false {b : Nat → Nat} {L : Nat} (h : ¬ IsNum b L) : numB b L = false := by
  cases hn : numB b L
  · rfl
  · exact absurd ((numB_iff b L).1 hn) h

theorem sb_eq {s t : ByteArray} {L : Nat} {b : Nat → Nat} (hs : Sb s L b) (ht : Sb t L b) : s = t := by
  obtain ⟨h1, h2⟩ := hs
  obtain ⟨h3, h4⟩ := ht
  apply ByteArray.ext_getElem (by omega)
  intro i hi hj
  apply UInt8.toNat_inj.1
  rw [h2 i hi, h4 i hj]
theorem sb_zero {s : ByteArray} {b : Nat → Nat} (hs : Sb s 1 b) (h : b 0 = 48) : s = ⟨#[48]⟩ := by
  refine sb_eq hs ⟨rfl, fun k hk => ?_⟩
  obtain rfl : k = 0 := by have : (ByteArray.mk #[48]).size = 1 := rfl
                           omega
  rw [h]; rfl
theorem toList_ne {s t : ByteArray} (h : s ≠ t) : (s.toList == t.toList) = false := by
  simp only [ByteArray.toList_eq, beq_eq_false_iff_ne]
  intro he
  exact h (ByteArray.ext (Array.toList_inj.1 he))
theorem toList_isE {s : ByteArray} (h : s.size ≠ 0) : s.toList.isEmpty = false := by
  rw [ByteArray.toList_eq]
  have : s.data.size ≠ 0 := h
  cases hl : s.data.toList with
  | nil => exact absurd (by rw [← Array.length_toList, hl]; rfl) this
  | cons a l => rfl

set_option maxRecDepth 100000 in
set_option maxHeartbeats 1000000 in
theorem isNumber_c (s : ByteArray) (L : Nat) (b : Nat → Nat) (w : World) (hs : Sb s L b) (hL : L ≤ 9223372036854775807) :
    Calls Tryd.prog 20 #[.string s] w fun e w' => e = .returned (.bool (numB b L)) ∧ w' = w := by
  have HSb := hid hs
  obtain ⟨rfl, hb⟩ := hs
  have HB := hid hb
  clear hb
  obtain ⟨R, hR⟩ : ∃ R, numB b s.size = R := ⟨_, rfl⟩
  rw [hR]
  have HRe := hid hR
  clear hR
  go_enter Tryd.func20, Tryd.ntmps20
  go_wp2
  go_loop [6] (fun t => ∃ (k : Nat), k ≤ s.size ∧ t = .int .i64 k ∧ Hid (Dig b k)) (fun t => s.size - (intOf t).toNat)
  case atStart => exact ⟨0, by omega, rfl, fun j hj => by omega⟩
  case round =>
    obtain ⟨k, hk, rfl, HD⟩ := hrel
    by_cases hlt : k < s.size
    · obtain ⟨x, hx⟩ : ∃ x, b k = x := ⟨_, rfl⟩
      have hc : (s[k]'hlt).toNat = x := by rw [HB.out k hlt, hx]
      have HX := hid hx
      clear hx
      by_cases h1 : x < 48
      · have h1b : decide ((x : Int) < 48) = true := by simp; omega
        have hf : R = false := by rw [← HRe.out]; exact numB_false (fun h => by have := h.1 k hlt; rw [HX.out] at this; omega)
        subst hf
        go_wp2
        go_ret
        exact ⟨rfl, rfl⟩
      · have h1b : decide ((x : Int) < 48) = false := by simp; omega
        by_cases h2 : 57 < x
        · have h2b : decide ((57 : Int) < x) = true := by simp; omega
          have hf : R = false := by rw [← HRe.out]; exact numB_false (fun h => by have := h.1 k hlt; rw [HX.out] at this; omega)
          subst hf
          go_wp2
          go_ret
          exact ⟨rfl, rfl⟩
        · have h2b : decide ((57 : Int) < x) = false := by simp; omega
          go_wp2
          go_round
          case rel =>
            refine ⟨k + 1, by omega, by go_num, fun j hj => ?_⟩
            by_cases hjk : j = k
            · subst hjk; rw [HX.out]; omega
            · exact HD.out j (by omega)
          case measure => simp [intOf]; omega
    · obtain rfl : k = s.size := by omega
      by_cases h0 : s.size = 0
      · have e0 : s = ⟨#[]⟩ := by
          have : s.data.size = 0 := h0
          cases s with | mk d => simp at this; subst this; rfl
        have hf : R = false := by rw [← HRe.out]; exact numB_false (fun h => by have := h.2.1; omega)
        subst hf
        subst e0
        go_wp2
        go_ret
        exact ⟨rfl, rfl⟩
      · obtain ⟨x, hx⟩ : ∃ x, b 0 = x := ⟨_, rfl⟩
        have hc : (s[0]'(by omega)).toNat = x := by rw [HB.out 0 (by omega), hx]
        have HX := hid hx
        clear hx
        by_cases hz : s = ⟨#[48]⟩
        · have h1 : s.size = 1 := by rw [hz]; rfl
          have hf : R = true := by rw [← HRe.out]; exact numB_true ⟨HD.out, by omega, .inl h1⟩
          subst hf
          clear h1 hc
          subst hz
          go_wp2
          go_ret
          exact ⟨rfl, rfl⟩
        · have heq : (s.toList == [48]) = false := by have := toList_ne hz; rwa [ByteArray.toList_eq ⟨#[48]⟩] at this
          have hem := toList_isE h0
          by_cases hx0 : x = 48
          · have hf : R = false := by
              rw [← HRe.out]
              refine numB_false (fun h => ?_)
              rcases h.2.2 with h1 | h1
              · have hs := HSb.out
                rw [h1] at hs
                exact hz (sb_zero hs (by rw [HX.out]; exact hx0))
              · rw [HX.out] at h1; exact h1 hx0
            subst hf
            have hxb : ((x : Int) != 48) = false := by simp; omega
            clear hz
            go_wp2
            go_ret
            exact ⟨rfl, rfl⟩
          · have hf : R = true := by rw [← HRe.out]; exact numB_true ⟨HD.out, by omega, .inr (by rw [HX.out]; exact hx0)⟩
            subst hf
            have hxb : ((x : Int) != 48) = true := by simp; omega
            clear hz
            go_wp2
            go_ret
            exact ⟨rfl, rfl⟩
end Go.Proofs.YtjjbmioicliipabDoor
