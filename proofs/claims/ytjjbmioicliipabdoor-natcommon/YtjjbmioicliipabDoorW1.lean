/-
  Walks of package nat's smallest functions: Form, order, cmp, trim, padded, clone, fromWord: what each call answers and what it does to memory.
-/
import Derived.Test.YtjjbmioicliipabDoorProg
import Derived.Test.YtjjbmioicliipabDoorMem
import Derived.WalkKit
import Derived.WalkSpells
import Derived.WalkLawsBesides
import Derived.Deep.QuietTactic
import Derived.BigQuiet
import Derived.Deep.Draws
namespace Go.Proofs.YtjjbmioicliipabDoor
open Go.RowKit

/-- The order of two numbers, as a number. -/
def Ord (c a b : Int) : Prop := c = -1 ∧ a < b ∨ c = 0 ∧ a = b ∨ c = 1 ∧ b < a

theorem order_c (b : Bool) (w : World) : Calls Tryd.prog 42 #[.bool b] w fun e w' => e = .returned (.int .i64 (if b then -1 else 1)) ∧ w' = w := by
  cases b
  all_goals
    go_enter Tryd.func42, Tryd.ntmps42
    go_wp2
    go_ret
    exact ⟨rfl, rfl⟩

set_option maxHeartbeats 400000 in
theorem form_c (ao : Option Addr) (n cap : Nat) (f : Nat → Int) (w : World) (hm : n ≤ 9223372036854775807) (hr : Rd .u64 w ao n f) :
    Calls Tryd.prog 10 #[.slice ao n cap] w fun e w' => e = .returned (.bool (fmB f n)) ∧ w' = w := by
  by_cases h0 : n = 0
  · subst h0
    have e : fmB f 0 = true := by simp [fmB]
    go_enter Tryd.func10, Tryd.ntmps10
    go_wp2
    go_ret
    exact ⟨by rw [e]; rfl, rfl⟩
  · obtain ⟨b, o, rfl⟩ := hr.at (by omega)
    obtain ⟨x, hx⟩ : ∃ x, f (n - 1) = x := ⟨_, rfl⟩
    have hc : w.cell? ⟨b, o + (n - 1), none⟩ = some (.int .u64 x) := by rw [← hx]; exact hr.cell (by omega)
    have h1 : ((n : Int) == 0) = false := by simp; omega
    have e : fmB f n = (x != 0) := by simp [fmB, h0, hx, bne]; rfl
    have E := hid e
    clear hr hx e
    go_enter Tryd.func10, Tryd.ntmps10
    go_wp2
    go_ret
    exact ⟨by rw [E.out]; rfl, rfl⟩

set_option maxHeartbeats 400000 in
theorem trim_c (ao : Option Addr) (n cap : Nat) (f : Nat → Int) (w : World) (hc : n ≤ cap) (hm : cap ≤ 140737488355328) (hr : Rd .u64 w ao n f) :
    Calls Tryd.prog 33 #[.slice ao n cap] w fun e w' => w' = w ∧ ∃ m, m ≤ n ∧ (∀ j, m ≤ j → j < n → f j = 0) ∧
      (m = 0 ∧ e = .returned (.slice none 0 0) ∨ 0 < m ∧ f (m - 1) ≠ 0 ∧ e = .returned (.slice ao m cap)) := by
  go_enter Tryd.func33, Tryd.ntmps33
  go_wp2
  go_loop [3] (fun t => ∃ m : Nat, m ≤ n ∧ t = .int .i64 m ∧ Hid (∀ j, m ≤ j → j < n → f j = 0)) (fun t => (intOf t).toNat)
  case atStart => exact ⟨n, Nat.le_refl _, rfl, fun j h1 h2 => by omega⟩
  case round =>
    obtain ⟨m, hmn, rfl, HZ⟩ := hrel
    by_cases h0 : 0 < m
    · obtain ⟨b, o, rfl⟩ := hr.at (by omega)
      obtain ⟨x, hx⟩ : ∃ x, f (m - 1) = x := ⟨_, rfl⟩
      have hcell : w.cell? ⟨b, o + (m - 1), none⟩ = some (.int .u64 x) := by rw [← hx]; exact hr.cell (by omega)
      have HX : Hid (f (m - 1) = x) := hx
      clear hx hr
      by_cases hx0 : x = 0
      · subst hx0
        go_wp2
        go_round
        case rel =>
          refine ⟨m - 1, by omega, by go_num, fun j h1 h2 => ?_⟩
          by_cases hj : j = m - 1
          · rw [hj]; exact HX.out
          · exact HZ.out j (by omega) h2
        case measure => simp [intOf]; omega
      · have hx1 : (x == 0) = false := by simp [hx0]
        go_wp2
        go_ret
        exact ⟨rfl, m, hmn, HZ.out, .inr ⟨h0, by rw [HX.out]; exact hx0, rfl⟩⟩
    · have h00 : m = 0 := by omega
      subst h00
      go_wp2
      go_ret
      exact ⟨rfl, 0, hmn, HZ.out, .inl ⟨rfl, rfl⟩⟩

/-- Two lists that are alike from place k on. -/
theorem cmp_step {f g : Nat → Int} {n k : Nat} (hf : Lm f n) (hg : Lm g n) (hk : k < n) (he : ∀ j, k < j → j < n → f j = g j) (hl : f k < g k) : vf f n < vf g n := by
  obtain ⟨d, rfl⟩ := Nat.exists_eq_add_of_le (show k + 1 ≤ n by omega)
  have e : vf (sh f (k + 1)) d = vf (sh g (k + 1)) d := vf_congr (fun j hj => he _ (by omega) (by omega))
  have a := vf_lt (hf.mono (m := k) (by omega)); have b := vf_nonneg (hg.mono (m := k) (by omega))
  have hp : (f k + 1) * pw k ≤ g k * pw k := Int.mul_le_mul_of_nonneg_right (by omega) (Int.le_of_lt (pw_pos k))
  rw [Int.add_mul, Int.one_mul] at hp
  rw [vf_split f (k + 1) d, vf_split g (k + 1) d, e, vf_succ f k, vf_succ g k]
  omega

set_option maxHeartbeats 800000 in
theorem cmp_c (ao bo : Option Addr) (n m ca cb : Nat) (f g : Nat → Int) (w : World) (hm : n ≤ 140737488355328) (hm' : m ≤ 140737488355328)
    (hr : Rd .u64 w ao n f) (hs : Rd .u64 w bo m g) (hf : Lm f n) (hg : Lm g m) (ff : Fm f n) (fg : Fm g m) :
    Calls Tryd.prog 24 #[.slice ao n ca, .slice bo m cb] w fun e w' => (∃ q, w' = w.drewN q) ∧ ∃ c, e = .returned (.int .i64 c) ∧ Ord c (vf f n) (vf g m) := by
  have FF := hid ff
  have FG := hid fg
  have HF := hid hf
  have HG := hid hg
  clear ff fg hf hg
  rcases Nat.lt_trichotomy n m with hlt | heq | hlt
  · have h1 : ((n : Int) != m) = true := by simp; omega
    have h2 : decide ((n : Int) < m) = true := by simp; omega
    have h3 : vf f n < vf g m := by
      apply Int.lt_of_not_ge; intro h
      have := vf_len HG.out HF.out FG.out h; omega
    have H3 := hid h3
    clear h3
    go_enter Tryd.func24, Tryd.ntmps24
    go_wp2_with (go_at_call 42; refine (order_c _ _).mono ?_; rintro e w' ⟨rfl, rfl⟩)
    go_ret
    exact ⟨⟨0, rfl⟩, -1, rfl, .inl ⟨rfl, H3.out⟩⟩
  · subst heq
    have h1 : ((n : Int) != n) = false := by simp
    go_enter Tryd.func24, Tryd.ntmps24
    go_wp2
    go_loopw [20] (fun t wr => ∃ i : Nat, i ≤ n ∧ t = .int .i64 i ∧ Hid (∀ j, n - i ≤ j → j < n → f j = g j) ∧ ∃ q, wr = w.drewN q) (fun t _ => n - (intOf t).toNat)
    case atStart => exact ⟨0, by omega, rfl, fun j h1 h2 => by omega, 0, rfl⟩
    case round =>
      obtain ⟨i, hin, rfl, HE, q, rfl⟩ := hrel
      by_cases hlt : i < n
      · obtain ⟨b, o, rfl⟩ := hr.at (by omega)
        obtain ⟨b', o', rfl⟩ := hs.at (by omega)
        obtain ⟨x, hx⟩ : ∃ x, f (n - 1 - i) = x := ⟨_, rfl⟩
        obtain ⟨y, hy⟩ : ∃ y, g (n - 1 - i) = y := ⟨_, rfl⟩
        have hca : w.cell? ⟨b, o + (n - 1 - i), none⟩ = some (.int .u64 x) := by rw [← hx]; exact hr.cell (by omega)
        have hcb : w.cell? ⟨b', o' + (n - 1 - i), none⟩ = some (.int .u64 y) := by rw [← hy]; exact hs.cell (by omega)
        have HX : Hid (f (n - 1 - i) = x) := hx
        have HY : Hid (g (n - 1 - i) = y) := hy
        clear hx hy hr hs
        by_cases hxy : x = y
        · subst hxy
          have hne : (x != x) = false := by simp
          go_wp2
          go_quiet (fail)
          go_wp2
          go_roundw
          case rel =>
            refine ⟨i + 1, by omega, by go_num, fun j h1 h2 => ?_, _, rfl⟩
            by_cases hj : j = n - 1 - i
            · rw [hj]; exact HX.out.trans HY.out.symm
            · exact HE.out j (by omega) h2
          case measure => simp [intOf]; omega
        · have hne : (x != y) = true := by simp [hxy]
          by_cases hl : x < y
          · have hd : decide (x < y) = true := by simp [hl]
            go_wp2
            go_quiet (fail)
            go_wp2
            go_quiet ((go_at_call 42; exact (order_c _ _).mono (fun _ _ h => ⟨h.1, _, h.2⟩)))
            go_wp2
            go_ret
            refine ⟨⟨_, by (repeat rw [World.drewN_drewN]) <;> rfl⟩, -1, rfl, .inl ⟨rfl, cmp_step HF.out HG.out (k := n - 1 - i) (by omega) (fun j h1 h2 => HE.out j (by omega) h2) (by rw [HX.out, HY.out]; exact hl)⟩⟩
          · have hd : decide (x < y) = false := by simp; omega
            go_wp2
            go_quiet (fail)
            go_wp2
            go_quiet ((go_at_call 42; exact (order_c _ _).mono (fun _ _ h => ⟨h.1, _, h.2⟩)))
            go_wp2
            go_ret
            refine ⟨⟨_, by (repeat rw [World.drewN_drewN]) <;> rfl⟩, 1, rfl, .inr (.inr ⟨rfl, cmp_step HG.out HF.out (k := n - 1 - i) (by omega) (fun j h1 h2 => (HE.out j (by omega) h2).symm) (by rw [HX.out, HY.out]; omega)⟩)⟩
      · have hi : i = n := by omega
        subst hi
        go_wp2
        go_ret
        exact ⟨⟨_, rfl⟩, 0, rfl, .inr (.inl ⟨rfl, vf_congr (fun j hj => HE.out j (by omega) hj)⟩)⟩
  · have h1 : ((n : Int) != m) = true := by simp; omega
    have h2 : decide ((n : Int) < m) = false := by simp; omega
    have h3 : vf g m < vf f n := by
      apply Int.lt_of_not_ge; intro h
      have := vf_len HF.out HG.out FF.out h; omega
    have H3 := hid h3
    clear h3
    go_enter Tryd.func24, Tryd.ntmps24
    go_wp2_with (go_at_call 42; refine (order_c _ _).mono ?_; rintro e w' ⟨rfl, rfl⟩)
    go_ret
    exact ⟨⟨0, rfl⟩, 1, rfl, .inr (.inr ⟨rfl, H3.out⟩)⟩
end Go.Proofs.YtjjbmioicliipabDoor
