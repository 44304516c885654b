/-
  Walks of package nat's greatest common divisor: shorten.
-/
import Derived.Test.YtjjbmioicliipabDoorG5
namespace Go.Proofs.YtjjbmioicliipabDoor
open Go.RowKit

/-- The number that a list in memory tells. -/
noncomputable def vOf (w : World) (v : Value) : Nat := match v with
  | .slice (some a) k _ => (vf (fun j => match w.cell? ⟨a.block, a.off + j, none⟩ with | some (.int _ z) => z | _ => 0) k).toNat
  | _ => 0
theorem vOf_none (w : World) (k c : Nat) : vOf w (.slice none k c) = 0 := rfl
theorem One.vOf {base w x k c g A} (h : One base w x k c g A) : vOf w (.slice x k c) = A.toNat := by
  obtain ⟨P, rfl, h2, h3, h4, h5, h6, h7, h8, h9⟩ := h
  rw [← h9]
  show (vf _ k).toNat = _
  congr 1
  refine vf_congr (fun j hj => ?_)
  have := h6.cell (j := j) (by omega)
  simp only [Nat.zero_add]
  rw [this]
theorem Two.vOf {base w x1 k1 c1 x2 k2 c2 A B} (h : Two base w x1 k1 c1 x2 k2 c2 A B) : vOf w (.slice x2 k2 c2) = B.toNat := by
  obtain ⟨g1, h1, h2, h3, h4⟩ := h
  rcases h4 with ⟨rfl, rfl, rfl, rfl⟩ | ⟨g2, _, h5⟩
  · rfl
  · exact h5.vOf

set_option maxRecDepth 100000 in
set_option maxHeartbeats 4000000 in
theorem shorten_c (base : Nat) (x1 x2 : Option Addr) (k1 c1 k2 c2 K : Nat) (A B : Int) (w : World) (h : Two base w x1 k1 c1 x2 k2 c2 A B) (hAK : A < pw K) (hK : K ≤ 8796093022207) (hbase : base ≤ w.heap.size) :
    Calls Tryd.prog 26 #[.slice x1 k1 c1, .slice x2 k2 c2] w fun e w' => ∃ y1 l1 d1 y2 l2 d2 A' B', e = .returned (.tuple #[.slice y1 l1 d1, .slice y2 l2 d2]) ∧ Below base w w' ∧ Two base w' y1 l1 d1 y2 l2 d2 A' B' ∧ Cd A' B' A B ∧ l2 ≤ 1 ∧ A' ≤ A := by
  have HT := hid h; have HAK := hid hAK
  clear h hAK
  go_enter Tryd.func26, Tryd.ntmps26
  go_wp2
  go_loopw [0, 1] (fun u v wr => ∃ (y1 : Option Addr) (l1 d1 : Nat) (y2 : Option Addr) (l2 d2 : Nat) (A' B' : Int), u = .slice y1 l1 d1 ∧ v = .slice y2 l2 d2 ∧ Hid (Below base w wr) ∧ base ≤ wr.heap.size ∧ Hid (Two base wr y1 l1 d1 y2 l2 d2 A' B') ∧ Hid (Cd A' B' A B) ∧ Hid (A' ≤ A)) (fun _ v wr => vOf wr v)
  case atStart => exact ⟨x1, k1, c1, x2, k2, c2, A, B, rfl, rfl, Below.refl _ _, hbase, HT.out, Cd.refl _ _, Int.le_refl _⟩
  case round =>
    clear HT
    obtain ⟨y1, l1, d1, y2, l2, d2, A', B', rfl, rfl, HB, hbs, HT, HC, HA⟩ := hrel
    by_cases hl : 1 < l2
    · have hlb : decide ((1 : Int) < (l2 : Int)) = true := by simp; omega
      have CE := hid (euclid_c base y1 y2 l1 d1 l2 d2 K A' B' wr HT.out (by omega) (by have := HA.out; have := HAK.out; omega) hK hbs)
      go_wp2_with fail
      refine CE.out.mono ?_
      rintro e w2 ⟨z1, m1, f1, z2, m2, f2, A2, B2, rfl, hb2, ht2, hc2, hlt, hle⟩
      have H1 := hid (HB.out.trans hb2); have H2 := hid ht2; have H3 := hid (hc2.trans HC.out); have H4 := hid hlt; have H5 := hid (show A2 ≤ A by have := HA.out; omega)
      have hsz := hb2.size
      clear hb2 ht2 hc2 hlt hle CE
      go_wp2
      go_roundw
      case rel => exact ⟨z1, m1, f1, z2, m2, f2, A2, B2, rfl, rfl, H1.out, by omega, H2.out, H3.out, H5.out⟩
      case measure =>
        have e1 := H2.out.vOf
        have e2 := HT.out.vOf
        have h0 : 0 ≤ B2 := by obtain ⟨_, _, h, _⟩ := H2.out; exact h
        have hlt := H4.out
        show vOf w2 (.slice z2 m2 f2) < vOf wr (.slice y2 l2 d2)
        rw [e1, e2]; omega
    · have hlb : decide ((1 : Int) < (l2 : Int)) = false := by simp; omega
      go_wp2
      go_ret2
      exact ⟨y1, l1, d1, y2, l2, d2, A', B', rfl, HB.out, HT.out, HC.out, by omega, HA.out⟩
end Go.Proofs.YtjjbmioicliipabDoor
