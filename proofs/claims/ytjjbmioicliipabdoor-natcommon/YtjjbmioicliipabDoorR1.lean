/-
  Walks of the document's reference for nat: Form, Twin, Same, Low, two, light.
-/
import Derived.Test.YtjjbmioicliipabDoorW5
import Derived.Test.YtjjbmioicliipabDoorMem32
namespace Go.Proofs.YtjjbmioicliipabDoor
open Go.RowKit

set_option maxHeartbeats 400000 in
theorem light_c (ao bo : Option Addr) (n m ca cb : Nat) (w : World) :
    Calls Tryd.prog 6 #[.slice ao n ca, .slice bo m cb] w fun e w' => e = .returned (.bool (decide (n ≤ 60 ∧ m ≤ 60))) ∧ w' = w := by
  by_cases h1 : n ≤ 60
  · have d1 : decide ((n : Int) ≤ 60) = true := by simp; omega
    by_cases h2 : m ≤ 60
    · have d2 : decide ((m : Int) ≤ 60) = true := by simp; omega
      have E : Hid (decide (n ≤ 60 ∧ m ≤ 60) = true) := by show _ = _; simp [h1, h2]
      go_enter Tryd.func6, Tryd.ntmps6
      go_wp2
      go_ret
      exact ⟨by rw [E.out]; rfl, rfl⟩
    · have d2 : decide ((m : Int) ≤ 60) = false := by simp; omega
      have E : Hid (decide (n ≤ 60 ∧ m ≤ 60) = false) := by show _ = _; simp [h2]
      go_enter Tryd.func6, Tryd.ntmps6
      go_wp2
      go_ret
      exact ⟨by rw [E.out]; rfl, rfl⟩
  · have d1 : decide ((n : Int) ≤ 60) = false := by simp; omega
    have E : Hid (decide (n ≤ 60 ∧ m ≤ 60) = false) := by show _ = _; simp [h1]
    go_enter Tryd.func6, Tryd.ntmps6
    go_wp2
    go_ret
    exact ⟨by rw [E.out]; rfl, rfl⟩

/-- Two lists are alike. -/
def Alk (n m : Nat) (f g : Nat → Int) : Prop := n = m ∧ ∀ j, j < n → f j = g j

set_option maxHeartbeats 800000 in
/-- Same: are two lists alike? -/
theorem same_c (ao bo : Option Addr) (n m ca cb : Nat) (f g : Nat → Int) (w : World) (hm : n ≤ 140737488355328) (hm' : m ≤ 140737488355328) (hr : Rd .u64 w ao n f) (hs : Rd .u64 w bo m g) :
    Calls Tryd.prog 9 #[.slice ao n ca, .slice bo m cb] w fun e w' => (∃ q, w' = w.drewN q) ∧ ∃ b, e = .returned (.bool b) ∧ (b = true ↔ Alk n m f g) := by
  by_cases hnm : n = m
  · subst hnm
    have h1 : ((n : Int) != n) = false := by simp
    go_enter Tryd.func9, Tryd.ntmps9
    go_wp2
    go_loopw [13] (fun t wr => ∃ i : Nat, i ≤ n ∧ t = .int .i64 i ∧ Hid (∀ j, j < i → f j = g j) ∧ ∃ q, wr = w.drewN q) (fun t _ => n - (intOf t).toNat)
    case atStart => exact ⟨0, by omega, rfl, fun j h1 => by omega, 0, rfl⟩
    case round =>
      obtain ⟨i, hin, rfl, HE, q, rfl⟩ := hrel
      by_cases hlt : i < n
      · obtain ⟨b, o, rfl⟩ := hr.at (by omega)
        obtain ⟨b', o', rfl⟩ := hs.at (by omega)
        obtain ⟨x, hx⟩ : ∃ x, f i = x := ⟨_, rfl⟩
        obtain ⟨y, hy⟩ : ∃ y, g i = y := ⟨_, rfl⟩
        have hca : w.cell? ⟨b, o + i, none⟩ = some (.int .u64 x) := by rw [← hx]; exact hr.cell (by omega)
        have hcb : w.cell? ⟨b', o' + i, none⟩ = some (.int .u64 y) := by rw [← hy]; exact hs.cell (by omega)
        have HX : Hid (f i = x) := hx
        have HY : Hid (g i = y) := hy
        clear hx hy hr hs
        by_cases hxy : x = y
        · subst hxy
          have hne : (x != x) = false := by simp
          go_wp2
          go_quiet (fail)
          go_wp2
          go_roundw
          case rel =>
            refine ⟨i + 1, by omega, by go_num, fun j h1 => ?_, _, rfl⟩
            by_cases hj : j = i
            · rw [hj]; exact HX.out.trans HY.out.symm
            · exact HE.out j (by omega)
          case measure => simp [intOf]; omega
        · have hne : (x != y) = true := by simp [hxy]
          go_wp2
          go_quiet (fail)
          go_wp2
          go_ret
          refine ⟨⟨_, by (repeat rw [World.drewN_drewN]) <;> rfl⟩, false, rfl, ⟨fun h => (by cases h), fun h => ?_⟩⟩
          have := h.2 i hlt
          rw [HX.out, HY.out] at this
          exact absurd this hxy
      · have hi : i = n := by omega
        subst hi
        go_wp2
        go_ret
        exact ⟨⟨_, rfl⟩, true, rfl, ⟨fun _ => ⟨rfl, HE.out⟩, fun _ => rfl⟩⟩
  · have h1 : ((n : Int) != m) = true := by simp; omega
    go_enter Tryd.func9, Tryd.ntmps9
    go_wp2
    go_ret
    exact ⟨⟨0, rfl⟩, false, rfl, ⟨fun h => (by cases h), fun h => absurd h.1 hnm⟩⟩
end Go.Proofs.YtjjbmioicliipabDoor
