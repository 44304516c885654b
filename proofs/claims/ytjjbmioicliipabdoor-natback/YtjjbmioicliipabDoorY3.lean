/-
  Walks of the document's reference for nat: Read, DocRead, DocText.
-/
import Derived.Test.YtjjbmioicliipabDoorY2
import Derived.Test.YtjjbmioicliipabDoorR5
import Derived.Deep.CutRange
namespace Go.Proofs.YtjjbmioicliipabDoor
open Go.RowKit

/-- Block g: its first k numbers are D. -/
def PB (w : World) (g cap k : Nat) (D : Nat → Int) : Prop := ∃ arr : Array Value, w.heap[g]? = some (.cells arr 32 (0, 0)) ∧ arr.size = cap ∧ ∀ j, j < k → arr[j]? = some (.int .u64 (D j))
theorem PB.cell {w g cap k D} (h : PB w g cap k D) {j : Nat} (hj : j < k) : w.cell? ⟨g, j, none⟩ = some (.int .u64 (D j)) := by
  obtain ⟨arr, h1, h2, h3⟩ := h
  simp [World.cell?, h1, h3 j hj]
theorem PB.frozen {w g cap k D} (h : PB w g cap k D) (j : Nat) : w.frozen? ⟨g, j, none⟩ = false := by
  obtain ⟨arr, h1, h2, h3⟩ := h
  simp [World.frozen?, h1]
theorem PB.lt {w g cap k D} (h : PB w g cap k D) : g < w.heap.size := by
  obtain ⟨arr, h1, h2, h3⟩ := h
  exact (Array.getElem?_eq_some_iff.1 h1).1
theorem PB.set {w g cap k D} (h : PB w g cap k D) (i : Nat) (v : Int) : PB (w.setCell ⟨g, i, none⟩ (.int .u64 v)) g cap k (upd D i v) := by
  obtain ⟨arr, h1, h2, h3⟩ := h
  refine ⟨arr.setIfInBounds i (.int .u64 v), ?_, by simpa using h2, fun j hj => ?_⟩
  · simp [World.setCell, Array.getElem?_modify, h1]
  · have hlt : j < arr.size := (Array.getElem?_eq_some_iff.1 (h3 j hj)).1
    by_cases hji : j = i
    · subst hji; simp [upd, hlt]
    · rw [Array.getElem?_setIfInBounds, if_neg (by omega), h3 j hj]; simp [upd, hji]
theorem Own.pb {w base v k D} (h : Own .u64 32 w base v k D) : (v = .slice none 0 0 ∧ k = 0) ∨ ∃ g cap, v = .slice (some ⟨g, 0, none⟩) k cap ∧ base ≤ g ∧ k ≤ cap ∧ cap ≤ maxLen ∧ PB w g cap k D := by
  obtain ⟨h1, h2⟩ := h
  rcases h2 with ⟨rfl, rfl⟩ | ⟨g, cap, cur, rfl, hb, hg, hn, hm, hs, ht⟩
  · exact .inl ⟨rfl, rfl⟩
  · refine .inr ⟨g, cap, rfl, hb, hn, hm, cur, hg, by omega, fun j hj => ?_⟩
    have e1 : (lst .u64 D k)[j]? = cur.toList[j]? := by
      rw [← ht, List.getElem?_take, if_pos (by omega)]
    rw [lst_get .u64 D k j hj] at e1
    simpa using e1.symm
theorem PB.own {w g cap k D} (h : PB w g cap k D) {base : Nat} (hb : base ≤ g) (hk : k ≤ cap) (hm : cap ≤ maxLen) : Own .u64 32 w base (.slice (some ⟨g, 0, none⟩) k cap) k D := by
  obtain ⟨arr, h1, h2, h3⟩ := h
  refine ⟨by rw [lst_length]; omega, .inr ⟨g, cap, arr, rfl, hb, h1, hk, hm, by omega, ?_⟩⟩
  apply List.ext_getElem?
  intro j
  by_cases hj : j < k
  · rw [List.getElem?_take, if_pos (by omega), lst_get _ _ _ _ hj]; simpa using h3 j hj
  · rw [List.getElem?_eq_none (by simp; omega), List.getElem?_eq_none (by rw [lst_length]; omega)]

/-- Ten times a number and a digit: one round. -/
theorem ten_step {D D' : Nat → Int} {j : Nat} {cc x t : Int} (hv : vd D' j + cc * pd j = 10 * vd D j + x) (ht : t = cc + 10 * D j) :
    vd (upd D' j (t % 4294967296)) (j + 1) + (t / 4294967296) * pd (j + 1) = 10 * vd D (j + 1) + x := by
  have e1 : vd (upd D' j (t % 4294967296)) j = vd D' j := vd_congr (fun i hi => upd_other _ _ _ _ (by omega))
  rw [vd_succ, e1, upd_same, vd_succ, pd_succ]
  have e2 := Int.mul_ediv_add_emod t 4294967296
  have e3 : t * pd j = (4294967296 * (t / 4294967296) + t % 4294967296) * pd j := by rw [e2]
  rw [ht] at e3
  rw [← ht] at e3
  grind
theorem fm_top {D : Nat → Int} {k : Nat} (hd : Dg D k) (hv : k = 0 ∨ pd (k - 1) ≤ vd D k) : Fm D k := by
  by_cases h0 : k = 0
  · exact .inl h0
  · right
    intro hz
    obtain ⟨m, rfl⟩ : ∃ m, k = m + 1 := ⟨k - 1, by omega⟩
    have h1 := vd_lt (hd.mono (m := m) (by omega))
    simp only [Nat.add_sub_cancel] at hz hv
    rw [vd_succ, hz] at hv
    omega

/-- What the reference's Read leaves. -/
def RAns (w w' : World) (ao : Option Addr) (k : Nat) (D : Nat → Int) (L : Nat) (b : Nat → Nat) (R : Bool) : Prop :=
  Below w.heap.size w w' ∧ Rd .u64 w' ao k D ∧ k ≤ L ∧ Dg D k ∧ Fm D k ∧ (R = true → vd D k = (dn b L : Nat))
theorem RAns.no (w : World) (L : Nat) (b : Nat → Nat) : RAns w w none 0 (fun _ => 0) L b false :=
  ⟨Below.refl _ _, Rd.zero, by omega, fun j hj => by omega, .inl rfl, fun h => by cases h⟩

end Go.Proofs.YtjjbmioicliipabDoor
