/-
  Walks of the document's reference for nat: Word, short.
-/
import Derived.Test.YtjjbmioicliipabDoorR3
import Derived.Test.YtjjbmioicliipabDoorW6
namespace Go.Proofs.YtjjbmioicliipabDoor
open Go.RowKit

theorem vd_cons (f : Nat → Int) (m i : Nat) : vd (sh f m) (i + 1) = f m + 4294967296 * vd (sh f (m + 1)) i := by
  rw [Nat.add_comm i 1, vd_split (sh f m) 1 i, sh_sh]
  have e1 : vd (sh f m) 1 = f m := by simp [vd, pd, sh]
  have e2 : pd 1 = 4294967296 := by simp [pd]
  rw [e1, e2]; omega
theorem short_step {f q q' : Nat → Int} {k i : Nat} {r wd : Int} (HV : vd (sh f (k + 1)) i = vd (sh q (k + 1)) i * wd + r) (hq : ∀ j, k < j → q' j = q j) (hk : q' k = (r * 4294967296 + f k) / wd) :
    vd (sh f k) (i + 1) = vd (sh q' k) (i + 1) * wd + (r * 4294967296 + f k) % wd := by
  have e1 : vd (sh q' (k + 1)) i = vd (sh q (k + 1)) i := vd_congr (fun j hj => hq _ (by omega))
  rw [vd_cons, vd_cons, e1, HV, hk]
  have e2 := Int.mul_ediv_add_emod (r * 4294967296 + f k) wd
  generalize (r * 4294967296 + f k) / wd = Q at *
  generalize (r * 4294967296 + f k) % wd = R at *
  grind

end Go.Proofs.YtjjbmioicliipabDoor
