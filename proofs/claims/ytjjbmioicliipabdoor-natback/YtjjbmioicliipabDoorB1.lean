/-
  A number's text is read again; a text that is read is the one that is written: on plain numbers and bytes.
-/
import Derived.Test.YtjjbmioicliipabDoorY2
import Derived.Test.YtjjbmioicliipabDoorT5
namespace Go.Proofs.YtjjbmioicliipabDoor
open Go.RowKit

theorem dn_congr {b c : Nat → Nat} {n : Nat} (h : ∀ k, k < n → b k = c k) : dn b n = dn c n := by
  induction n with
  | zero => rfl
  | succ n ih => show dn b n * 10 + (b n - 48) = dn c n * 10 + (c n - 48); rw [ih (fun k hk => h k (by omega)), h n (by omega)]
/-- A digit of the number that digits tell. -/
theorem dn_digit {b : Nat → Nat} {L k : Nat} (hd : Dig b L) (hk : k < L) : dg8 (dn b L) (L - 1 - k) = b k := by
  have e := dn_split b (k + 1) (L - 1 - k)
  rw [show k + 1 + (L - 1 - k) = L by omega] at e
  have hl := dn_lt (hd.bsh (i := k + 1) (n := L - 1 - k) (by omega))
  have hp : 0 < 10 ^ (L - 1 - k) := Nat.pow_pos (by decide)
  have e2 : dn b L / 10 ^ (L - 1 - k) = dn b (k + 1) := by
    rw [e, Nat.add_comm, Nat.add_mul_div_right _ _ hp, Nat.div_eq_of_lt hl]; omega
  have hb := hd k hk
  unfold dg8
  rw [e2]
  show 48 + (dn b k * 10 + (b k - 48)) % 10 = b k
  omega
theorem dn_ndigits {b : Nat → Nat} {L : Nat} (h : IsNum b L) : Lib.nDigits (dn b L) = L := by
  obtain ⟨hd, hL, h1⟩ := h
  have hlt := dn_lt hd
  by_cases h0 : L = 1
  · subst h0
    rw [Lib.nDigits_small (by simpa using hlt)]
  · have hne : b 0 ≠ 48 := by rcases h1 with h | h; exact absurd h h0; exact h
    have hb := hd 0 hL
    have e := dn_split b 1 (L - 1)
    rw [show 1 + (L - 1) = L by omega] at e
    have e1 : dn b 1 = b 0 - 48 := by show dn b 0 * 10 + (b 0 - 48) = _; simp [dn]
    have hge : 10 ^ (L - 1) ≤ dn b L := by
      rw [e, e1]
      have : 1 * 10 ^ (L - 1) ≤ (b 0 - 48) * 10 ^ (L - 1) := Nat.mul_le_mul_right _ (by omega)
      omega
    have := Lib.nDigits_unique (L - 1) (dn b L) hge (by rw [show L - 1 + 1 = L by omega]; exact hlt)
    omega
/-- A text that is read is the one that is written. -/
theorem text_of_read {s : ByteArray} {L : Nat} {b : Nat → Nat} (hs : Sb s L b) (h : IsNum b L) : s = ⟨(Lib.decDigits (dn b L)).toArray⟩ := by
  have h1 := sb_dec (dn b L)
  rw [dn_ndigits h] at h1
  exact sb_eq hs (h1.congr (fun k hk => dn_digit h.1 hk))
theorem dg8_dig (V N L : Nat) : Dig (fun k => dg8 V (N - k)) L := fun k _ => by
  show 48 ≤ dg8 V _ ∧ dg8 V _ ≤ 57
  unfold dg8
  omega
theorem lt_ndigits (V : Nat) : V < 10 ^ Lib.nDigits V := by
  have h : ∀ (N V : Nat), Lib.nDigits V = N + 1 → V < 10 ^ (N + 1) := by
    intro N
    induction N with
    | zero =>
      intro V h
      by_cases hu : V < 10
      · simpa using hu
      · rw [Lib.nDigits_big hu] at h; have := Lib.nDigits_pos (V / 10); omega
    | succ N ih =>
      intro V h
      by_cases hu : V < 10
      · rw [Lib.nDigits_small hu] at h; omega
      · rw [Lib.nDigits_big hu] at h
        have := ih (V / 10) (by omega)
        rw [Nat.pow_succ]; omega
  have hp := Lib.nDigits_pos V
  have := h (Lib.nDigits V - 1) V (by omega)
  rwa [show Lib.nDigits V - 1 + 1 = Lib.nDigits V by omega] at this
/-- The digits of a number tell it. -/
theorem dn_dec (V : Nat) : dn (fun k => dg8 V (Lib.nDigits V - 1 - k)) (Lib.nDigits V) = V := by
  have h : ∀ k, k ≤ Lib.nDigits V → dn (fun k => dg8 V (Lib.nDigits V - 1 - k)) k = V / 10 ^ (Lib.nDigits V - k) := by
    intro k
    induction k with
    | zero => intro _; rw [Nat.sub_zero, Nat.div_eq_of_lt (lt_ndigits V)]; rfl
    | succ k ih =>
      intro hk
      show dn _ k * 10 + (dg8 V (Lib.nDigits V - 1 - k) - 48) = _
      rw [ih (by omega), show Lib.nDigits V - k = (Lib.nDigits V - (k + 1)) + 1 by omega, Nat.pow_succ, ← Nat.div_div_eq_div_mul, show Lib.nDigits V - 1 - k = Lib.nDigits V - (k + 1) by omega]
      unfold dg8
      omega
  have := h (Lib.nDigits V) (Nat.le_refl _)
  rw [this]; simp
theorem isNum_dec (V : Nat) : IsNum (fun k => dg8 V (Lib.nDigits V - 1 - k)) (Lib.nDigits V) := by
  have hp := Lib.nDigits_pos V
  refine ⟨dg8_dig _ _ _, hp, ?_⟩
  by_cases h1 : Lib.nDigits V = 1
  · exact .inl h1
  · right
    have hV : 0 < V := by
      apply Nat.pos_of_ne_zero
      rintro rfl
      exact h1 (Lib.nDigits_small (by omega))
    have := dgi_top hV
    unfold dgi at this
    show 48 + V / 10 ^ (Lib.nDigits V - 1 - 0) % 10 ≠ 48
    rw [Nat.sub_zero]
    omega
end Go.Proofs.YtjjbmioicliipabDoor
