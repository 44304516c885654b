/-
  Walks of package nat's reading: fromDigits, Read.
-/
import Derived.Test.YtjjbmioicliipabDoorX2
namespace Go.Proofs.YtjjbmioicliipabDoor
open Go.RowKit

set_option maxHeartbeats 1000000 in
theorem fromDigits_c (s : ByteArray) (L : Nat) (b : Nat → Nat) (w : World) (hs : Sb s L b) (hd : Dig b L) (hL : L ≤ 1048576) :
    Calls Tryd.prog 21 #[.string s] w fun e w' => ∃ ao k cap f, e = .returned (.slice ao k cap) ∧ Res 4294967296 w w' ao k cap f ∧ vf f k = (dn b L : Nat) := by
  obtain ⟨p, hp⟩ : ∃ p, p = (L + 18) / 19 := ⟨_, rfl⟩
  obtain ⟨c, hc⟩ : ∃ c, c = lev p := ⟨_, rfl⟩
  have hpc : p ≤ 2 ^ c := by rw [hc]; exact lev_ge p (by omega)
  have hc30 : c ≤ 16 := by rw [hc]; exact lev_le p 16 (by omega) (by omega)
  have hLc : L ≤ 19 * 2 ^ c := by omega
  have h2c : 2 ^ c ≤ 65536 := Nat.pow_le_pow_right (n := 2) (by omega) hc30
  have C1 := hid (levels_c p p w rfl (by omega))
  rw [← hc] at C1
  have C2 := hid (bases_c c w (by omega))
  have C3 := hid (fun bo cb W h1 h2 h3 h4 => join_c c s L b bo cb W hs hd hLc h1 h2 h3 h4 (by omega))
  have hsz := hs.1
  subst hsz
  have d1 : Int.tdiv ((s.size : Int) + 18) 19 = (p : Int) := by rw [Int.tdiv_eq_ediv_of_nonneg (by omega)]; omega
  have d2 : ((s.size : Int) + 18) / 19 = (p : Int) := by omega
  have d3 : Int.tdiv ((s.size : Int) + 19 - 1) 19 = (p : Int) := by rw [Int.tdiv_eq_ediv_of_nonneg (by omega)]; omega
  have d4 : ((s.size : Int) + 19 - 1) / 19 = (p : Int) := by omega
  have H2c := hid h2c
  clear hs hd hLc hpc hp hc h2c
  go_enter Tryd.func21, Tryd.ntmps21
  go_wp2_with fail
  refine C1.out.mono ?_
  rintro e w1 ⟨rfl, rfl⟩
  go_wp2_with fail
  refine C2.out.mono ?_
  rintro e w1 ⟨bo, cap, rfl, hbel, hcc, hcm, hnil, hbas⟩
  have HBel := hid hbel
  have C4 := hid (C3.out bo cap w1 hbas hcc hcm hnil)
  clear hbas hnil C3 C2 C1 hbel
  go_wp2_with fail
  refine C4.out.mono ?_
  rintro e w2 ⟨a1, k1, c1, f1, rfl, hres, hv⟩
  have HV := hid hv
  clear hv
  go_wp2
  go_ret
  exact ⟨a1, k1, c1, f1, rfl, (hres.ahead HBel.out).mono (by have := H2c.out; omega), HV.out⟩

/-- What Read answers. -/
def ReadAns (L : Nat) (b : Nat → Nat) (k : Nat) (f : Nat → Int) (er : Int) : Prop :=
  1048576 < L ∧ er = 2 ∧ k = 0 ∨ L ≤ 1048576 ∧ ¬ IsNum b L ∧ er = 11 ∧ k = 0 ∨ L ≤ 1048576 ∧ IsNum b L ∧ er = 0 ∧ vf f k = (dn b L : Nat)

set_option maxHeartbeats 1000000 in
theorem Read_c (s : ByteArray) (L : Nat) (b : Nat → Nat) (w : World) (hs : Sb s L b) :
    Calls Tryd.prog 13 #[.string s] w fun e w' => ∃ ao k cap f er, e = .returned (.tuple #[.slice ao k cap, .int .i64 er]) ∧ Res 4294967296 w w' ao k cap f ∧ ReadAns L b k f er := by
  have hsz := hs.1
  subst hsz
  by_cases hL : 1048576 < s.size
  · have HLt := hid hL
    go_enter Tryd.func13, Tryd.ntmps13
    go_wp2
    go_ret2
    exact ⟨_, _, _, fun _ => 0, _, rfl, Res.nil _ (Below.refl _ _), .inl ⟨HLt.out, rfl, rfl⟩⟩
  · have c1 := isNumber_c s s.size b w hs (by omega)
    cases hn : numB b s.size
    · rw [hn] at c1
      have C1 := hid c1
      have HN := hid (show ¬ IsNum b s.size from fun h => by rw [numB_true h] at hn; cases hn)
      clear c1 hn hs
      go_enter Tryd.func13, Tryd.ntmps13
      go_wp2_with fail
      refine C1.out.mono ?_
      rintro e w1 ⟨rfl, rfl⟩
      go_wp2
      go_ret2
      exact ⟨_, _, _, fun _ => 0, _, rfl, Res.nil _ (Below.refl _ _), .inr (.inl ⟨by omega, HN.out, rfl, rfl⟩)⟩
    · rw [hn] at c1
      have C1 := hid c1
      have HY := hid ((numB_iff b s.size).1 hn)
      have C2 := hid (fromDigits_c s s.size b w hs HY.out.1 (by omega))
      clear c1 hn hs
      go_enter Tryd.func13, Tryd.ntmps13
      go_wp2_with fail
      refine C1.out.mono ?_
      rintro e w1 ⟨rfl, rfl⟩
      go_wp2_with fail
      refine C2.out.mono ?_
      rintro e w2 ⟨a1, k1, c1, f1, rfl, hres, hv⟩
      have HV := hid hv
      clear hv
      go_wp2
      go_ret2
      exact ⟨_, _, _, f1, _, rfl, hres, .inr (.inr ⟨by omega, HY.out, rfl, HV.out⟩)⟩
end Go.Proofs.YtjjbmioicliipabDoor
