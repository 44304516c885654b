/-
  Walks of nat's Text, and of the document's reference: DocText, DocRead.
-/
import Derived.Test.YtjjbmioicliipaaDoorY3
import Derived.Test.YtjjbmioicliipaaDoorX3
import Derived.Test.YtjjbmioicliipaaDoorA1
import Derived.Test.YtjjbmioicliipaaDoorD6
namespace Go.Proofs.YtjjbmioicliipaaDoor
open Go.RowKit

theorem divOk_all {X Y : Int} (hY : 0 < Y) : DivOk X Y := by
  intro ao bo n m ca cb f h' w hn hm hr hs hf hh ff fh hX hY'
  have h2 : m ≠ 0 := fun h0 => by subst h0; simp [vf] at hY'; omega
  exact divMod_c ao bo n m ca cb f h' w hn hm hr hs hf hh ff fh (by omega)
theorem tens_pos (j : Nat) : 0 < tens j := Int.pow_pos (by decide)

/-- The text of a number, or none. -/
def txt (f : Nat → Int) (n : Nat) : ByteArray := if fmB f n then ⟨(Lib.decDigits (vf f n).toNat).toArray⟩ else ⟨#[]⟩
def ter (f : Nat → Int) (n : Nat) : Int := if fmB f n then 0 else 3

set_option maxHeartbeats 1000000 in
theorem TextAll_c (ao : Option Addr) (n ca : Nat) (f : Nat → Int) (w : World) (hn : n ≤ 4096) (hr : Rd .u64 w ao n f) (htg : Tg w ao) (hf : Lm f n) (htab : Tab w) (hca : n ≤ ca) (hcam : ca ≤ 9223372036854775807) :
    Calls Tryd.prog 22 #[.slice ao n ca] w fun e w' => e = .returned (.tuple #[.string (txt f n), .int .i64 (ter f n)]) ∧ Below w.heap.size w w' := by
  cases hfa : fmB f n
  · have c1 := form_c ao n ca f w (by omega) hr
    rw [hfa] at c1
    have C1 := hid c1
    have E1 := hid (show txt f n = ⟨#[]⟩ by simp [txt, hfa]); have E2 := hid (show ter f n = 3 by simp [ter, hfa])
    rw [E1.out, E2.out]
    clear c1 hfa hr htg hf htab
    go_enter Tryd.func22, Tryd.ntmps22
    go_wp2_with fail
    refine C1.out.mono ?_
    rintro e w1 ⟨rfl, rfl⟩
    go_wp2
    go_ret2
    exact ⟨rfl, Below.refl _ _⟩
  · have h0 := vf_nonneg hf
    have := Text_c ao n ca _ f (vf f n).toNat w hn hr htg hf (fm_of hfa) (by omega) htab rfl hca hcam (fun j _ X _ _ => divOk_all (tens_pos j))
    rw [show txt f n = ⟨(Lib.decDigits (vf f n).toNat).toArray⟩ by simp [txt, hfa], show ter f n = 0 by simp [ter, hfa]]
    exact this

set_option maxHeartbeats 1000000 in
theorem docText_c (ao : Option Addr) (n ca : Nat) (f : Nat → Int) (w : World) (hn : n ≤ 4096) (hr : Rd .u64 w ao n f) (hf : Lm f n) :
    Calls Tryd.prog 23 #[.slice ao n ca] w fun e w' => e = .returned (.tuple #[.string (txt f n), .int .i64 (ter f n)]) ∧ Below w.heap.size w w' := by
  cases hfa : fmB f n
  · have c1 := rform_c ao n ca f w (by omega) hr
    rw [hfa] at c1
    have C1 := hid c1
    have E1 := hid (show txt f n = ⟨#[]⟩ by simp [txt, hfa]); have E2 := hid (show ter f n = 3 by simp [ter, hfa])
    rw [E1.out, E2.out]
    clear c1 hfa hr hf
    go_enter Tryd.func23, Tryd.ntmps23
    go_wp2_with fail
    refine C1.out.mono ?_
    rintro e w1 ⟨rfl, rfl⟩
    go_wp2
    go_ret2
    exact ⟨rfl, Below.refl _ _⟩
  · have c1 := rform_c ao n ca f w (by omega) hr
    rw [hfa] at c1
    have C1 := hid c1
    have h0 := vf_nonneg hf
    obtain ⟨V, hV⟩ : ∃ V, (vf f n).toNat = V := ⟨_, rfl⟩
    have E1 := hid (show txt f n = ⟨(Lib.decDigits V).toArray⟩ by simp [txt, hfa, hV]); have E2 := hid (show ter f n = 0 by simp [ter, hfa])
    have C2 := hid (from_c ao n ca f w (by omega) hr hf)
    have HV := hid (show vf f n = (V : Int) by omega)
    rw [E1.out, E2.out]
    clear c1 hfa hr hf h0 hV
    go_enter Tryd.func23, Tryd.ntmps23
    go_wp2_with fail
    refine C1.out.mono ?_
    rintro e w1 ⟨rfl, rfl⟩
    go_wp2_with fail
    refine C2.out.mono ?_
    rintro e w1 ⟨a1, n1, c1, rfl, hb1, hr1, hl1, _, hd1, hf1, hv1⟩
    rw [HV.out] at hv1
    have C3 := hid (rtext_c a1 n1 c1 (dig f) V w1 (by omega) hr1 hd1 hf1 hv1)
    have HB1 := hid hb1
    clear hr1 hd1 hf1 hv1 hb1 C2
    go_wp2_with fail
    refine C3.out.mono ?_
    rintro e w2 ⟨rfl, hb2⟩
    have HB2 := hid (HB1.out.trans (hb2.mono HB1.out.size))
    clear hb2
    go_wp2
    go_ret2
    exact ⟨rfl, HB2.out⟩

set_option maxHeartbeats 1000000 in
theorem docRead_c (s : ByteArray) (L : Nat) (b : Nat → Nat) (w : World) (hs : Sb s L b) :
    Calls Tryd.prog 25 #[.string s] w fun e w' => ∃ ao k cap f er, e = .returned (.tuple #[.slice ao k cap, .int .i64 er]) ∧ Ans 1048576 w w' ao k f ∧ ReadAns L b k f er := by
  have hsz := hs.1
  subst hsz
  by_cases hL : 1048576 < s.size
  · have HLt := hid hL
    go_enter Tryd.func25, Tryd.ntmps25
    go_wp2
    go_ret2
    exact ⟨_, _, _, fun _ => 0, _, rfl, ⟨Below.refl _ _, Rd.zero, by omega, fun j hj => by omega, .inl rfl⟩, .inl ⟨HLt.out, rfl, rfl⟩⟩
  · have c1 := rread_c s s.size b w hs (by omega)
    cases hn : numB b s.size
    · rw [hn] at c1
      have C1 := hid c1
      have HN := hid (show ¬ IsNum b s.size from fun h => by rw [numB_true h] at hn; cases hn)
      clear c1 hn hs
      go_enter Tryd.func25, Tryd.ntmps25
      go_wp2_with fail
      refine C1.out.mono ?_
      rintro e w1 ⟨a1, k1, c1, D, rfl, hans⟩
      have HB := hid hans.1
      clear hans
      go_wp2
      go_ret2
      exact ⟨_, _, _, fun _ => 0, _, rfl, ⟨HB.out, Rd.zero, by omega, fun j hj => by omega, .inl rfl⟩, .inr (.inl ⟨by omega, HN.out, rfl, rfl⟩)⟩
    · rw [hn] at c1
      have C1 := hid c1
      have HY := hid ((numB_iff b s.size).1 hn)
      clear c1 hn hs
      go_enter Tryd.func25, Tryd.ntmps25
      go_wp2_with fail
      refine C1.out.mono ?_
      rintro e w1 ⟨a1, k1, c1, D, rfl, hans⟩
      obtain ⟨hbel, hrd, hk, hdg, hfm, hv⟩ := hans
      have hv' := hv rfl
      have HB := hid hbel; have HV := hid hv'
      have C2 := hid (to_c a1 k1 c1 D w1 (by omega) hrd hdg hfm)
      clear hbel hrd hdg hfm hv hv' C1
      go_wp2_with fail
      refine C2.out.mono ?_
      rintro e w2 ⟨a4, n4, c4, F4, rfl, hb4, hr4, hl4, hd4, hf4, hv4⟩
      have HD4 := hid hd4; have HF4 := hid hf4; have HV4 := hid hv4; have HR4 := hid hr4; have HB4 := hid hb4
      clear hd4 hf4 hv4 hr4 hb4
      go_wp2
      go_ret2
      exact ⟨_, _, _, F4, _, rfl, ⟨HB.out.trans (HB4.out.mono HB.out.size), HR4.out, by omega, HD4.out, HF4.out⟩, .inr (.inr ⟨by omega, HY.out, rfl, by rw [HV4.out, HV.out]⟩)⟩
end Go.Proofs.YtjjbmioicliipaaDoor
