/-
  Numbers times 2^n, limb by limb and digit by digit; a list made with room behind it. No Go text is named here.
-/
import Derived.Test.YtjjbmioicliipabDoorLw
import Derived.Test.YtjjbmioicliipabDoorMem32
namespace Go.Proofs.YtjjbmioicliipabDoor
open Go.RowKit

theorem pw_pow (k : Nat) : pw k = 2 ^ (64 * k) := by
  induction k with
  | zero => rfl
  | succ k ih => rw [pw_succ, ih, show 64 * (k + 1) = 64 * k + 64 by omega, Int.pow_add, Int.mul_comm]; rfl
theorem pd_pow (k : Nat) : pd k = 2 ^ (32 * k) := by
  induction k with
  | zero => rfl
  | succ k ih => rw [pd_succ, ih, show 32 * (k + 1) = 32 * k + 32 by omega, Int.pow_add, Int.mul_comm]; rfl

/-- A limb times P, cut in two (P * Q = 2^64). -/
theorem limb_cut {x P Q : Int} (x0 : 0 ≤ x) (x1 : x < 18446744073709551616) (hPQ : P * Q = 18446744073709551616) (p0 : 0 < P) (q0 : 0 < Q) :
    (x * P) % 18446744073709551616 = (x % Q) * P ∧ 0 ≤ x / Q ∧ x / Q < P ∧ 0 ≤ (x % Q) * P ∧ (x % Q) * P ≤ 18446744073709551616 - P := by
  have e1 : (x * P) % 18446744073709551616 = (x % Q) * P := by rw [← hPQ, Int.mul_comm x P, Int.mul_emod_mul_of_pos _ _ p0, Int.mul_comm]
  refine ⟨e1, Int.ediv_nonneg x0 (Int.le_of_lt q0), ?_, Int.mul_nonneg (Int.emod_nonneg _ (by omega)) (Int.le_of_lt p0), ?_⟩
  · exact Int.ediv_lt_of_lt_mul q0 (by rw [hPQ]; exact x1)
  · have h1 := Int.emod_lt_of_pos x q0
    have h2 : (x % Q + 1) * P ≤ Q * P := Int.mul_le_mul_of_nonneg_right (by omega) (Int.le_of_lt p0)
    rw [Int.add_mul, Int.one_mul, Int.mul_comm Q P, hPQ] at h2
    omega

/-- One round of a shift to the left. -/
theorem shl_step {F a : Nat → Int} {o k : Nat} {P Q x y : Int} (hv : vf (sh F o) (k + 1) = vf a k * P) (hx : a k = x) (hy : F (o + k) = y) (hPQ : P * Q = 18446744073709551616) :
    vf (sh (upd (upd F (o + k) (y + x % Q * P)) (o + k + 1) (x / Q)) o) (k + 1 + 1) = vf a (k + 1) * P := by
  have e1 : vf (sh (upd (upd F (o + k) (y + x % Q * P)) (o + k + 1) (x / Q)) o) k = vf (sh F o) k := vf_congr (fun j hj => by rw [sh_at, sh_at, upd_other _ _ _ _ (by omega), upd_other _ _ _ _ (by omega)])
  have e2 : sh (upd (upd F (o + k) (y + x % Q * P)) (o + k + 1) (x / Q)) o k = y + x % Q * P := by rw [sh_at, upd_other _ _ _ _ (by omega), upd_same]
  have e3 : sh (upd (upd F (o + k) (y + x % Q * P)) (o + k + 1) (x / Q)) o (k + 1) = x / Q := by rw [sh_at, ← Nat.add_assoc, upd_same]
  rw [vf_succ, vf_succ, e1, e2, e3, vf_succ, pw_succ]
  rw [vf_succ, sh_at, hy] at hv
  have e4 := Int.mul_ediv_add_emod x Q
  rw [hx, ← hPQ]
  have e5 : x * pw k * P = (Q * (x / Q) + x % Q) * pw k * P := by rw [e4]
  rw [Int.add_mul (vf a k), e5, ← hv]
  grind

/-- What a list reads from place o on, noughts ahead of it. -/
theorem vf_ahead {F : Nat → Int} {o n : Nat} (h : ∀ j, j < o → F j = 0) : vf F (o + n) = vf (sh F o) n * pw o := by
  rw [vf_split, vf_zero h]; omega

/-- One round of a shift to the left, on digits. -/
theorem dshl_step {D a : Nat → Int} {o k : Nat} {P x c : Int} (hv : vd D (o + k) + c * pd (o + k) = vd a k * (P * pd o)) (hx : a k = x) :
    vd (cat D (o + k) (fun _ => (c + x * P) % 4294967296)) (o + k + 1) + ((c + x * P) / 4294967296) * pd (o + k + 1) = vd a (k + 1) * (P * pd o) := by
  have e1 : vd (cat D (o + k) (fun _ => (c + x * P) % 4294967296)) (o + k) = vd D (o + k) := vd_congr (fun j hj => cat_in hj)
  have e2 : cat D (o + k) (fun _ => (c + x * P) % 4294967296) (o + k) = (c + x * P) % 4294967296 := cat_out (Nat.le_refl _)
  rw [vd_succ, e1, e2, pd_succ, vd_succ, hx]
  have e3 := Int.mul_ediv_add_emod (c + x * P) 4294967296
  have e4 : (c + x * P) * pd (o + k) = (4294967296 * ((c + x * P) / 4294967296) + (c + x * P) % 4294967296) * pd (o + k) := by rw [e3]
  rw [Int.add_mul (vd a k), ← hv]
  have e5 : x * pd k * (P * pd o) = x * P * pd (o + k) := by rw [pd_add]; grind
  rw [e5]
  grind
theorem dshl_carry {P x c : Int} (c0 : 0 ≤ c) (c1 : c < P) (x0 : 0 ≤ x) (x1 : x < 4294967296) (p0 : 0 < P) : 0 ≤ c + x * P ∧ c + x * P < 4294967296 * P ∧ (c + x * P) / 4294967296 < P ∧ 0 ≤ x * P ∧ x * P < 4294967296 * P := by
  have h1 : 0 ≤ x * P := Int.mul_nonneg x0 (Int.le_of_lt p0)
  have h2 : (x + 1) * P ≤ 4294967296 * P := Int.mul_le_mul_of_nonneg_right (by omega) (Int.le_of_lt p0)
  rw [Int.add_mul, Int.one_mul] at h2
  refine ⟨by omega, by omega, ?_, h1, by omega⟩
  exact Int.ediv_lt_of_lt_mul (by decide) (by omega)

/-- 'make([]T, l, c)': a block of c noughts. -/
theorem wpList_make_two {P : Program} (k : IntKind) (w : World) {ops : Array Oper} {rest : List Oper} {o : Oper} {a : Act} {Q : Exit → Act → World → Prop}
    (hg : o.guard = none) (lo co : Operand) (t : TypeId) (hop : o.op = Op.makeSlice t lo co)
    (e : TypeId) (bytes : Nat) (h1 : P.underlying t = some (.slice e)) (h2 : (P.info? e).map (fun i => (i.zero, i.size, i.bytes)) = some (some (.int k 0), 1, bytes))
    (kl kc : IntKind) (L C : Int) (l c : Nat) (hl : a.eval lo = .int kl L) (hc : a.eval co = .int kc C) (hL : L = (l : Int)) (hC : C = (c : Int)) (hlc : l ≤ c) (b2 : bytes * c ≤ 281474976710656) (b3 : c ≤ maxLen)
    (hK : ∀ w', Blk k e w' w.heap.size c (fun _ => 0) → Below w.heap.size w w' → wpList P ops Q rest (a.put o.dst (.slice (some ⟨w.heap.size, 0, none⟩) l c)) w') :
    wpList P ops Q (o :: rest) a w := by
  obtain ⟨i, hi, hz0, hz1, hz2⟩ := info_parts h2
  subst hL
  subst hC
  refine wpList_plain hg fun K hK' => ?_
  have b2' : (i.bytes : Int) * (c : Int) ≤ 281474976710656 := by
    have h : ((i.bytes * c : Nat) : Int) ≤ 281474976710656 := by rw [hz2]; omega
    rwa [Int.natCast_mul] at h
  have hrun := run_make (P := P) w t e i (.int k 0) h1 hi hz0 kl kc (l : Int) (c : Int) (by omega) (by omega) b2' (by unfold maxLen at b3; omega)
  simp only [Int.toNat_natCast, hz1, Nat.mul_one] at hrun
  unfold Oper.wp
  simp [execOp, hop, hl, hc, hrun, Result.andThen]
  refine hK' _ _ (hK _ ⟨_, heap_alloc_new w _, size_madeCells _ _, fun j hj => ?_⟩ ((Below.refl _ _).alloc (Nat.le_refl _) _))
  have hm : (madeCells (Value.int k 0).cells c).toList = List.replicate c (.int k 0) := toList_madeCells_one _ _
  have : (madeCells (Value.int k 0).cells c).toList[j]? = some (.int k 0) := by rw [hm, List.getElem?_replicate, if_pos hj]
  simpa using this
end Go.Proofs.YtjjbmioicliipabDoor
