/-
  The walk of the document's reference for nat: Text.
-/
import Derived.Test.YtjjbmioicliipabDoorY1
import Derived.Test.YtjjbmioicliipabDoorX1
import Derived.Test.YtjjbmioicliipabDoorSm
namespace Go.Proofs.YtjjbmioicliipabDoor
open Go.RowKit

theorem Sb.mid {s L b} (h : Sb s L b) {i j : Nat} (hij : i ≤ j) (hj : j ≤ L) : Sb (s.extract i j) (j - i) (bsh b i) := by
  obtain ⟨h1, h2⟩ := h
  refine ⟨by simp; omega, fun k hk => ?_⟩
  have hk' : k < j - i := by simp at hk; omega
  have := h2 (i + k) (by omega)
  show _ = b (i + k)
  rw [← this, ByteArray.getElem_extract]
theorem Sb.app {s t L M b c} (hs : Sb s L b) (ht : Sb t M c) : Sb (s ++ t) (L + M) (fun k => if k < L then b k else c (k - L)) := by
  obtain ⟨h1, h2⟩ := hs
  obtain ⟨h3, h4⟩ := ht
  refine ⟨by simp; omega, fun k hk => ?_⟩
  simp only [ByteArray.size_append] at hk
  show _ = if k < L then b k else c (k - L)
  by_cases h : k < L
  · rw [if_pos h, ← h2 k (by omega), ByteArray.getElem_append_left (by omega)]
  · rw [if_neg h, ← h4 (k - L) (by omega), ByteArray.getElem_append_right (by omega)]
    simp only [h1]
theorem Sb.congr {s L b c} (h : Sb s L b) (he : ∀ k, k < L → b k = c k) : Sb s L c := ⟨h.1, fun k hk => by rw [h.2 k hk, he k (by have := h.1; omega)]⟩
theorem sb_digits : Sb ⟨#[48, 49, 50, 51, 52, 53, 54, 55, 56, 57]⟩ 10 (fun k => 48 + k) := by
  refine ⟨rfl, fun k hk => ?_⟩
  have : k < 10 := hk
  have : ∀ k : Fin 10, ((ByteArray.mk #[48, 49, 50, 51, 52, 53, 54, 55, 56, 57])[k.1]'(k.2)).toNat = 48 + k.1 := by decide
  exact this ⟨k, hk⟩
/-- The digit of V at place e, as a byte. -/
def dg8 (V e : Nat) : Nat := 48 + V / 10 ^ e % 10
/-- The string holds the last m digits of V. -/
def Low10 (s : ByteArray) (V m : Nat) : Prop := Sb s m (fun k => dg8 V (m - 1 - k))
theorem sb_nil (b : Nat → Nat) : Sb ⟨#[]⟩ 0 b := by
  refine ⟨rfl, fun k hk => absurd hk ?_⟩
  have : (ByteArray.mk #[]).size = 0 := rfl
  omega
theorem low_nil (V : Nat) : Low10 ⟨#[]⟩ V 0 := sb_nil _
theorem sb_dec (V : Nat) : Sb ⟨(Lib.decDigits V).toArray⟩ (Lib.nDigits V) (fun k => dg8 V (Lib.nDigits V - 1 - k)) := by
  refine ⟨by show (Lib.decDigits V).toArray.size = _; simp [Lib.decDigits_length], fun k hk => ?_⟩
  have hk' : k < Lib.nDigits V := by
    have : (ByteArray.mk (Lib.decDigits V).toArray).size = Lib.nDigits V := by show (Lib.decDigits V).toArray.size = _; simp [Lib.decDigits_length]
    omega
  have h := byt_dec V k hk'
  unfold byt dgi at h
  rw [List.getD_eq_getElem?_getD, List.getElem?_eq_getElem (by rw [Lib.decDigits_length]; exact hk')] at h
  simp only [Option.getD_some] at h
  show ((Lib.decDigits V).toArray[k]'_).toNat = 48 + V / 10 ^ (Lib.nDigits V - 1 - k) % 10
  simp only [List.getElem_toArray]
  omega
/-- A digit put in front. -/
theorem Sb.front {p : ByteArray} {b : Nat → Nat} {i d : Nat} (h : Sb p i b) (hd : d < 10) : Sb ((ByteArray.mk #[48, 49, 50, 51, 52, 53, 54, 55, 56, 57]).extract d (d + 1) ++ p) (i + 1) (fun k => if k = 0 then 48 + d else b (k - 1)) := by
  have := (sb_digits.mid (i := d) (j := d + 1) (by omega) (by omega)).app h
  rw [show d + 1 - d = 1 by omega, Nat.add_comm 1 i] at this
  refine this.congr (fun k hk => ?_)
  by_cases h0 : k = 0
  · subst h0; simp [bsh]
  · rw [if_neg (by omega), if_neg h0]

theorem dig_low (Q R i : Nat) (hi : i < 9) : (Q * 1000000000 + R) / 10 ^ i % 10 = R / 10 ^ i % 10 := by
  rcases (show i = 0 ∨ i = 1 ∨ i = 2 ∨ i = 3 ∨ i = 4 ∨ i = 5 ∨ i = 6 ∨ i = 7 ∨ i = 8 by omega) with rfl | rfl | rfl | rfl | rfl | rfl | rfl | rfl | rfl <;> simp only [Nat.reducePow] <;> omega
/-- One round of the text. -/
theorem text_step {q : Nat → Int} {V m i k1 Qn Rn nn n : Nat} (hq : vd q k1 = (Qn : Int)) (h1 : 0 < k1 → 0 < Qn) (h2 : k1 = 0 → Qn = 0) (hA : V / 10 ^ m = Qn * 1000000000 + Rn) (hpos : 0 < V / 10 ^ m) (hB : V < 10 ^ (10 * n)) (hR : Rn < 1000000000) (hn : nn = Rn / 10 ^ i) (hI : i = 0 ∨ 0 < Qn ∨ 0 < Rn / 10 ^ (i - 1)) (hex : i = 9 ∨ k1 = 0 ∧ nn = 0) :
    vd q k1 = (V / 10 ^ (m + i) : Nat) ∧ (k1 = 0 → m + i = Lib.nDigits V) ∧ m + i ≤ 10 * n ∧ V / 10 ^ (m + i) < V / 10 ^ m := by
  have hVQ : V / 10 ^ (m + i) = Qn := by
    rw [Nat.pow_add, ← Nat.div_div_eq_div_mul, hA]
    rcases hex with rfl | ⟨hk, hz⟩
    · simp only [Nat.reducePow]; omega
    · have := h2 hk
      subst this
      rw [hn] at hz
      simpa using hz
  have hend : k1 = 0 → m + i = Lib.nDigits V := by
    intro hk
    have hQ := h2 hk
    subst hQ
    have hRp : 0 < Rn := by omega
    have hi0 : i ≠ 0 := by
      rintro rfl
      rcases hex with h | ⟨_, hz⟩
      · omega
      · rw [hn] at hz; simp at hz; omega
    have hR1 : 0 < Rn / 10 ^ (i - 1) := by
      rcases hI with h | h | h
      · omega
      · omega
      · exact h
    have e1 : V / 10 ^ (m + i - 1) = Rn / 10 ^ (i - 1) := by
      rw [show m + i - 1 = m + (i - 1) by omega, Nat.pow_add, ← Nat.div_div_eq_div_mul, hA]; simp
    have l1 : 10 ^ (m + i - 1) ≤ V := by
      apply Nat.le_of_not_lt; intro hlt
      rw [Nat.div_eq_of_lt hlt] at e1; omega
    have l2 : V < 10 ^ (m + i) := by
      apply Nat.lt_of_not_le; intro hle
      have := Nat.div_pos hle (Nat.pow_pos (n := m + i) (by decide : 0 < 10)); omega
    have := Lib.nDigits_unique (m + i - 1) V l1 (by rw [show m + i - 1 + 1 = m + i by omega]; exact l2)
    omega
  refine ⟨by rw [hVQ]; exact hq, hend, ?_, ?_⟩
  · by_cases hk : k1 = 0
    · rw [hend hk]
      by_cases h10 : 1 ≤ 10 * n
      · exact nDigits_le hB h10
      · have : 10 * n = 0 := by omega
        rw [this] at hB
        simp at hB
        subst hB
        simp at hpos
    · have hp : 10 ^ (m + i) ≤ V := by
        apply Nat.le_of_not_lt; intro hlt
        rw [Nat.div_eq_of_lt hlt] at hVQ
        have := h1 (by omega); omega
      have : 10 ^ (m + i) < 10 ^ (10 * n) := Nat.lt_of_le_of_lt hp hB
      exact Nat.le_of_lt ((Nat.pow_lt_pow_iff_right (by decide)).1 this)
  · rw [hVQ, hA]; rw [hA] at hpos; omega
theorem low_app {p s : ByteArray} {V m i : Nat} (hp : Sb p i (fun k => dg8 V (m + i - 1 - k))) (hs : Low10 s V m) : Low10 (p ++ s) V (m + i) := by
  have := hp.app hs
  rw [Nat.add_comm i m] at this
  refine this.congr (fun k hk => ?_)
  by_cases h : k < i
  · rw [if_pos h]
  · rw [if_neg h]; congr 1; omega
theorem vd_pos_iff {q : Nat → Int} {k Q : Nat} (hd : Dg q k) (hf : Fm q k) (hv : vd q k = (Q : Int)) : 0 < k → 0 < Q := fun h => by
  have := vd_form_ge hd hf h; have := pd_pos (k - 1); omega
theorem vd_zero_of {q : Nat → Int} {k Q : Nat} (hv : vd q k = (Q : Int)) (h : k = 0) : Q = 0 := by subst h; simp [vd] at hv; omega

end Go.Proofs.YtjjbmioicliipabDoor
