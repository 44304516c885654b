/-
  The same words for digits to the base 2^32.
-/
import Derived.Test.YtjjbmioicliipabDoorMem
namespace Go.Proofs.YtjjbmioicliipabDoor
open Go.RowKit

/-- The value of the first n limbs. -/
def pd : Nat → Int | 0 => 1 | n + 1 => 4294967296 * pd n
def vd (f : Nat → Int) : Nat → Int | 0 => 0 | n + 1 => vd f n + f n * pd n
/-- Each of the first n is a limb. -/
def Dg (f : Nat → Int) (n : Nat) : Prop := ∀ j, j < n → 0 ≤ f j ∧ f j < 4294967296
theorem pd_pos (n : Nat) : 0 < pd n := by induction n with | zero => decide | succ n ih => simp only [pd]; omega
theorem pd_succ (n : Nat) : pd (n + 1) = 4294967296 * pd n := rfl
theorem pd_add (m n : Nat) : pd (m + n) = pd m * pd n := by
  induction n with
  | zero => simp [pd]
  | succ n ih => rw [← Nat.add_assoc, pd_succ, ih, pd_succ]; grind
theorem vd_succ (f : Nat → Int) (n : Nat) : vd f (n + 1) = vd f n + f n * pd n := rfl
theorem vd_congr {f g : Nat → Int} {n : Nat} (h : ∀ j, j < n → f j = g j) : vd f n = vd g n := by
  induction n with
  | zero => rfl
  | succ n ih => rw [vd_succ, vd_succ, ih (fun j hj => h j (by omega)), h n (by omega)]
theorem Dg.mono {f n m} (h : Dg f n) (hm : m ≤ n) : Dg f m := fun j hj => h j (by omega)
theorem Dg.congr {f g : Nat → Int} {n : Nat} (h : Dg f n) (he : ∀ j, j < n → f j = g j) : Dg g n := fun j hj => by rw [← he j hj]; exact h j hj
theorem Dg.upd {f n} (h : Dg f n) {i : Nat} {v : Int} (hv : 0 ≤ v ∧ v < 4294967296) : Dg (upd f i v) n := fun j hj => by
  by_cases hji : j = i
  · subst hji; rw [upd_same]; exact hv
  · rw [upd_other _ _ _ _ hji]; exact h j hj
theorem Dg.sh {f n} (h : Dg f n) {o m : Nat} (hm : o + m ≤ n) : Dg (sh f o) m := fun j hj => h (o + j) (by omega)
theorem vd_nonneg {f : Nat → Int} {n : Nat} (h : Dg f n) : 0 ≤ vd f n := by
  induction n with
  | zero => simp [vd]
  | succ n ih =>
    have h1 := ih (h.mono (by omega))
    have h2 := Int.mul_nonneg (h n (by omega)).1 (Int.le_of_lt (pd_pos n))
    rw [vd_succ]; omega
theorem vd_lt {f : Nat → Int} {n : Nat} (h : Dg f n) : vd f n < pd n := by
  induction n with
  | zero => simp [vd, pd]
  | succ n ih =>
    have h1 := ih (h.mono (by omega))
    have h2 : (f n + 1) * pd n ≤ 4294967296 * pd n := Int.mul_le_mul_of_nonneg_right (by have := (h n (by omega)).2; omega) (Int.le_of_lt (pd_pos n))
    rw [Int.add_mul, Int.one_mul] at h2
    rw [vd_succ, pd_succ]; omega
/-- A number cut in two. -/
theorem vd_split (f : Nat → Int) (m n : Nat) : vd f (m + n) = vd f m + vd (sh f m) n * pd m := by
  induction n with
  | zero => simp [vd]
  | succ n ih => rw [← Nat.add_assoc, vd_succ, ih, vd_succ, pd_add, sh_at]; grind
theorem vd_zero {f : Nat → Int} {n : Nat} (h : ∀ j, j < n → f j = 0) : vd f n = 0 := by
  induction n with
  | zero => rfl
  | succ n ih => rw [vd_succ, ih (fun j hj => h j (by omega)), h n (by omega)]; simp
/-- Noughts at the end count nothing. -/
theorem vd_ext {f : Nat → Int} {m n : Nat} (hm : m ≤ n) (h : ∀ j, m ≤ j → j < n → f j = 0) : vd f n = vd f m := by
  obtain ⟨d, rfl⟩ := Nat.exists_eq_add_of_le hm
  rw [vd_split, vd_zero (f := sh f m) (fun j hj => h _ (by omega) (by omega))]; simp
theorem vd_form_ge {f : Nat → Int} {n : Nat} (h : Dg f n) (hf : Fm f n) (hn : 0 < n) : pd (n - 1) ≤ vd f n := by
  obtain ⟨m, rfl⟩ : ∃ m, n = m + 1 := ⟨n - 1, by omega⟩
  have h0 := vd_nonneg (h.mono (m := m) (by omega))
  have h1 := h m (by omega)
  have h2 : f m ≠ 0 := by rcases hf with h | h; omega; simpa using h
  have h3 : 1 * pd m ≤ f m * pd m := Int.mul_le_mul_of_nonneg_right (by omega) (Int.le_of_lt (pd_pos m))
  rw [vd_succ]; simp at h3 ⊢; omega
theorem pd_mono {m n : Nat} (h : m ≤ n) : pd m ≤ pd n := by
  induction n with
  | zero => obtain rfl : m = 0 := by omega
            exact Int.le_refl _
  | succ n ih =>
    by_cases hm : m = n + 1
    · subst hm; exact Int.le_refl _
    · have := ih (by omega); have := pd_pos n; rw [pd_succ]; omega
/-- One number, one list (of one length). -/
theorem vd_inj_same {f g : Nat → Int} {n : Nat} (hf : Dg f n) (hg : Dg g n) (h : vd f n = vd g n) : ∀ j, j < n → f j = g j := by
  induction n with
  | zero => intro j hj; omega
  | succ n ih =>
    have a1 := vd_nonneg (hf.mono (m := n) (by omega)); have a2 := vd_lt (hf.mono (m := n) (by omega))
    have b1 := vd_nonneg (hg.mono (m := n) (by omega)); have b2 := vd_lt (hg.mono (m := n) (by omega))
    rw [vd_succ, vd_succ] at h
    have hp := pd_pos n
    have e : f n = g n := by
      rcases Int.lt_trichotomy (f n) (g n) with hl | hl | hl
      · have : (f n + 1) * pd n ≤ g n * pd n := Int.mul_le_mul_of_nonneg_right (by omega) (Int.le_of_lt hp)
        rw [Int.add_mul, Int.one_mul] at this; omega
      · exact hl
      · have : (g n + 1) * pd n ≤ f n * pd n := Int.mul_le_mul_of_nonneg_right (by omega) (Int.le_of_lt hp)
        rw [Int.add_mul, Int.one_mul] at this; omega
    have hr := ih (hf.mono (by omega)) (hg.mono (by omega)) (by rw [e] at h; omega)
    intro j hj
    by_cases hjn : j = n
    · subst hjn; exact e
    · exact hr j (by omega)
theorem vd_len {f g : Nat → Int} {n m : Nat} (hf : Dg f n) (hg : Dg g m) (ff : Fm f n) (h : vd f n ≤ vd g m) : n ≤ m := by
  apply Nat.le_of_not_lt
  intro hlt
  have h1 := vd_form_ge hf ff (by omega)
  have h2 := vd_lt hg
  have h3 := pd_mono (m := m) (n := n - 1) (by omega)
  omega
/-- One number, one list in form. -/
theorem vd_inj {f g : Nat → Int} {n m : Nat} (hf : Dg f n) (hg : Dg g m) (ff : Fm f n) (fg : Fm g m) (h : vd f n = vd g m) : n = m ∧ ∀ j, j < n → f j = g j := by
  have e : n = m := Nat.le_antisymm (vd_len hf hg ff (by omega)) (vd_len hg hf fg (by omega))
  subst e
  exact ⟨rfl, vd_inj_same hf hg h⟩
/-- The trimmed list. -/
theorem trim_vald {f : Nat → Int} {m n : Nat} (hm : m ≤ n) (hz : ∀ j, m ≤ j → j < n → f j = 0) : vd f m = vd f n := (vd_ext hm hz).symm
end Go.Proofs.YtjjbmioicliipabDoor
