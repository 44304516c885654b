/-
  Walks of nat's Text, and of the document's reference: DocText, DocRead.
-/
import Derived.Test.YtjjbmioicliipabDoorY3
import Derived.Test.YtjjbmioicliipabDoorX3
import Derived.Test.YtjjbmioicliipabDoorA1
import Derived.Test.YtjjbmioicliipabDoorD6
namespace Go.Proofs.YtjjbmioicliipabDoor
open Go.RowKit

theorem divOk_all {X Y : Int} (hY : 0 < Y) : DivOk X Y := by
  intro ao bo n m ca cb f h' w hn hm hr hs hf hh ff fh hX hY'
  have h2 : m ≠ 0 := fun h0 => by subst h0; simp [vf] at hY'; omega
  exact divMod_c ao bo n m ca cb f h' w hn hm hr hs hf hh ff fh (by omega)
theorem tens_pos (j : Nat) : 0 < tens j := Int.pow_pos (by decide)

/-- The text of a number, or none. -/
def txt (f : Nat → Int) (n : Nat) : ByteArray := if fmB f n then ⟨(Lib.decDigits (vf f n).toNat).toArray⟩ else ⟨#[]⟩
def ter (f : Nat → Int) (n : Nat) : Int := if fmB f n then 0 else 3

set_option maxHeartbeats 1000000 in
theorem TextAll_c (ao : Option Addr) (n ca : Nat) (f : Nat → Int) (w : World) (hn : n ≤ 4096) (hr : Rd .u64 w ao n f) (htg : Tg w ao) (hf : Lm f n) (htab : Tab w) (hca : n ≤ ca) (hcam : ca ≤ 9223372036854775807) :
    Calls Tryd.prog 14 #[.slice ao n ca] w fun e w' => e = .returned (.tuple #[.string (txt f n), .int .i64 (ter f n)]) ∧ Below w.heap.size w w' := by
  cases hfa : fmB f n
  · have c1 := form_c ao n ca f w (by omega) hr
    rw [hfa] at c1
    have C1 := hid c1
    have E1 := hid (show txt f n = ⟨#[]⟩ by simp [txt, hfa]); have E2 := hid (show ter f n = 3 by simp [ter, hfa])
    rw [E1.out, E2.out]
    clear c1 hfa hr htg hf htab
    go_enter Tryd.func14, Tryd.ntmps14
    go_wp2_with fail
    refine C1.out.mono ?_
    rintro e w1 ⟨rfl, rfl⟩
    go_wp2
    go_ret2
    exact ⟨rfl, Below.refl _ _⟩
  · have h0 := vf_nonneg hf
    have := Text_c ao n ca _ f (vf f n).toNat w hn hr htg hf (fm_of hfa) (by omega) htab rfl hca hcam (fun j _ X _ _ => divOk_all (tens_pos j))
    rw [show txt f n = ⟨(Lib.decDigits (vf f n).toNat).toArray⟩ by simp [txt, hfa], show ter f n = 0 by simp [ter, hfa]]
    exact this

end Go.Proofs.YtjjbmioicliipabDoor
