/-
  Walks of the document's reference for nat: Form, Twin, Same, Low, two, light.
-/
import Derived.Test.YtjjbmioicliipaaDoorW5
import Derived.Test.YtjjbmioicliipaaDoorMem32
namespace Go.Proofs.YtjjbmioicliipaaDoor
open Go.RowKit

set_option maxHeartbeats 400000 in
theorem rform_c (ao : Option Addr) (n cap : Nat) (f : Nat → Int) (w : World) (hm : n ≤ 9223372036854775807) (hr : Rd .u64 w ao n f) :
    Calls Tryd.prog 10 #[.slice ao n cap] w fun e w' => e = .returned (.bool (fmB f n)) ∧ w' = w := by
  by_cases h0 : n = 0
  · subst h0
    have e : fmB f 0 = true := by simp [fmB]
    go_enter Tryd.func10, Tryd.ntmps10
    go_wp2
    go_ret
    exact ⟨by rw [e]; rfl, rfl⟩
  · obtain ⟨b, o, rfl⟩ := hr.at (by omega)
    obtain ⟨x, hx⟩ : ∃ x, f (n - 1) = x := ⟨_, rfl⟩
    have hc : w.cell? ⟨b, o + (n - 1), none⟩ = some (.int .u64 x) := by rw [← hx]; exact hr.cell (by omega)
    have h1 : ((n : Int) == 0) = false := by simp; omega
    have e : fmB f n = (x != 0) := by simp [fmB, h0, hx, bne]; rfl
    have E := hid e
    clear hr hx e
    go_enter Tryd.func10, Tryd.ntmps10
    go_wp2
    go_ret
    exact ⟨by rw [E.out]; rfl, rfl⟩

set_option maxHeartbeats 400000 in
theorem light_c (ao bo : Option Addr) (n m ca cb : Nat) (w : World) :
    Calls Tryd.prog 11 #[.slice ao n ca, .slice bo m cb] w fun e w' => e = .returned (.bool (decide (n ≤ 60 ∧ m ≤ 60))) ∧ w' = w := by
  by_cases h1 : n ≤ 60
  · have d1 : decide ((n : Int) ≤ 60) = true := by simp; omega
    by_cases h2 : m ≤ 60
    · have d2 : decide ((m : Int) ≤ 60) = true := by simp; omega
      have E : Hid (decide (n ≤ 60 ∧ m ≤ 60) = true) := by show _ = _; simp [h1, h2]
      go_enter Tryd.func11, Tryd.ntmps11
      go_wp2
      go_ret
      exact ⟨by rw [E.out]; rfl, rfl⟩
    · have d2 : decide ((m : Int) ≤ 60) = false := by simp; omega
      have E : Hid (decide (n ≤ 60 ∧ m ≤ 60) = false) := by show _ = _; simp [h2]
      go_enter Tryd.func11, Tryd.ntmps11
      go_wp2
      go_ret
      exact ⟨by rw [E.out]; rfl, rfl⟩
  · have d1 : decide ((n : Int) ≤ 60) = false := by simp; omega
    have E : Hid (decide (n ≤ 60 ∧ m ≤ 60) = false) := by show _ = _; simp [h1]
    go_enter Tryd.func11, Tryd.ntmps11
    go_wp2
    go_ret
    exact ⟨by rw [E.out]; rfl, rfl⟩

set_option maxHeartbeats 400000 in
/-- Low: the digits without noughts at the end. -/
theorem low_c (ao : Option Addr) (n cap : Nat) (f : Nat → Int) (w : World) (hc : n ≤ cap) (hm : cap ≤ 9223372036854775807) (hr : Rd .u64 w ao n f) (hnil : ao = none → cap = 0) :
    Calls Tryd.prog 52 #[.slice ao n cap] w fun e w' => w' = w ∧ ∃ m, m ≤ n ∧ (∀ j, m ≤ j → j < n → f j = 0) ∧ Fm f m ∧ e = .returned (.slice ao m cap) := by
  go_enter Tryd.func52, Tryd.ntmps52
  go_wp2
  go_loop [3] (fun t => ∃ m : Nat, m ≤ n ∧ t = .int .i64 m ∧ Hid (∀ j, m ≤ j → j < n → f j = 0)) (fun t => (intOf t).toNat)
  case atStart => exact ⟨n, Nat.le_refl _, rfl, fun j h1 h2 => by omega⟩
  case round =>
    obtain ⟨m, hmn, rfl, HZ⟩ := hrel
    by_cases h0 : 0 < m
    · obtain ⟨b, o, rfl⟩ := hr.at (by omega)
      obtain ⟨x, hx⟩ : ∃ x, f (m - 1) = x := ⟨_, rfl⟩
      have hcell : w.cell? ⟨b, o + (m - 1), none⟩ = some (.int .u64 x) := by rw [← hx]; exact hr.cell (by omega)
      have HX : Hid (f (m - 1) = x) := hx
      clear hx hr
      by_cases hx0 : x = 0
      · subst hx0
        go_wp2
        go_round
        case rel =>
          refine ⟨m - 1, by omega, by go_num, fun j h1 h2 => ?_⟩
          by_cases hj : j = m - 1
          · rw [hj]; exact HX.out
          · exact HZ.out j (by omega) h2
        case measure => simp [intOf]; omega
      · have hx1 : (x == 0) = false := by simp [hx0]
        go_wp2
        go_ret
        exact ⟨rfl, m, hmn, HZ.out, .inr (by rw [HX.out]; exact hx0), rfl⟩
    · have h00 : m = 0 := by omega
      subst h00
      cases ao with
      | none =>
        obtain rfl : cap = 0 := hnil rfl
        go_wp2
        go_ret
        exact ⟨rfl, 0, hmn, HZ.out, .inl rfl, rfl⟩
      | some ad =>
        clear hnil
        go_wp2
        go_ret
        exact ⟨rfl, 0, hmn, HZ.out, .inl rfl, rfl⟩

/-- Two lists are alike. -/
def Alk (n m : Nat) (f g : Nat → Int) : Prop := n = m ∧ ∀ j, j < n → f j = g j

set_option maxHeartbeats 800000 in
/-- Same: are two lists alike? -/
theorem same_c (ao bo : Option Addr) (n m ca cb : Nat) (f g : Nat → Int) (w : World) (hm : n ≤ 140737488355328) (hm' : m ≤ 140737488355328) (hr : Rd .u64 w ao n f) (hs : Rd .u64 w bo m g) :
    Calls Tryd.prog 15 #[.slice ao n ca, .slice bo m cb] w fun e w' => (∃ q, w' = w.drewN q) ∧ ∃ b, e = .returned (.bool b) ∧ (b = true ↔ Alk n m f g) := by
  by_cases hnm : n = m
  · subst hnm
    have h1 : ((n : Int) != n) = false := by simp
    go_enter Tryd.func15, Tryd.ntmps15
    go_wp2
    go_loopw [13] (fun t wr => ∃ i : Nat, i ≤ n ∧ t = .int .i64 i ∧ Hid (∀ j, j < i → f j = g j) ∧ ∃ q, wr = w.drewN q) (fun t _ => n - (intOf t).toNat)
    case atStart => exact ⟨0, by omega, rfl, fun j h1 => by omega, 0, rfl⟩
    case round =>
      obtain ⟨i, hin, rfl, HE, q, rfl⟩ := hrel
      by_cases hlt : i < n
      · obtain ⟨b, o, rfl⟩ := hr.at (by omega)
        obtain ⟨b', o', rfl⟩ := hs.at (by omega)
        obtain ⟨x, hx⟩ : ∃ x, f i = x := ⟨_, rfl⟩
        obtain ⟨y, hy⟩ : ∃ y, g i = y := ⟨_, rfl⟩
        have hca : w.cell? ⟨b, o + i, none⟩ = some (.int .u64 x) := by rw [← hx]; exact hr.cell (by omega)
        have hcb : w.cell? ⟨b', o' + i, none⟩ = some (.int .u64 y) := by rw [← hy]; exact hs.cell (by omega)
        have HX : Hid (f i = x) := hx
        have HY : Hid (g i = y) := hy
        clear hx hy hr hs
        by_cases hxy : x = y
        · subst hxy
          have hne : (x != x) = false := by simp
          go_wp2
          go_quiet (fail)
          go_wp2
          go_roundw
          case rel =>
            refine ⟨i + 1, by omega, by go_num, fun j h1 => ?_, _, rfl⟩
            by_cases hj : j = i
            · rw [hj]; exact HX.out.trans HY.out.symm
            · exact HE.out j (by omega)
          case measure => simp [intOf]; omega
        · have hne : (x != y) = true := by simp [hxy]
          go_wp2
          go_quiet (fail)
          go_wp2
          go_ret
          refine ⟨⟨_, by (repeat rw [World.drewN_drewN]) <;> rfl⟩, false, rfl, ⟨fun h => (by cases h), fun h => ?_⟩⟩
          have := h.2 i hlt
          rw [HX.out, HY.out] at this
          exact absurd this hxy
      · have hi : i = n := by omega
        subst hi
        go_wp2
        go_ret
        exact ⟨⟨_, rfl⟩, true, rfl, ⟨fun _ => ⟨rfl, HE.out⟩, fun _ => rfl⟩⟩
  · have h1 : ((n : Int) != m) = true := by simp; omega
    go_enter Tryd.func15, Tryd.ntmps15
    go_wp2
    go_ret
    exact ⟨⟨0, rfl⟩, false, rfl, ⟨fun h => (by cases h), fun h => absurd h.1 hnm⟩⟩
end Go.Proofs.YtjjbmioicliipaaDoor
