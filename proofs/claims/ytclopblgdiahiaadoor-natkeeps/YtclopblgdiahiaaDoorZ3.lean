/-
  Numbers times 2^n, limb by limb and digit by digit; a list made with room behind it. No Go text is named here. Walks of package nat's shl and Shl: a number times 2^n. The walk of package nat's shrBits: a number by 2^n. The walk of package nat's divLong: quotient and rest of long numbers. The walk of package nat's divLong, and divMod for all numbers. Walks of nat's calls Mul and DivMod, whatever they are handed. Euclid's steps by the highest bits (Lehmer's way, Collins' condition), on plain numbers. No Go text is named here. Walks of package nat's greatest common divisor: findSteps. Walks of package nat's greatest common divisor: bitsFrom, highBits. Walks of package nat's greatest common divisor: highBits. The walk of package nat's steps.apply.
-/
import Derived.Test.YtclopblgdiahiaaDoorZ0
import Derived.Test.YtclopblgdiahiaaDoorZ2
import Derived.Test.YtclopblgdiahiaaDoorZ1
import Derived.BigRegion
import Derived.BigQuiet
namespace Go.Proofs.YtclopblgdiahiaaDoor
open Go.RowKit

theorem pw_pow (k : Nat) : pw k = 2 ^ (64 * k) := by
  induction k with
  | zero => rfl
  | succ k ih => rw [pw_succ, ih, show 64 * (k + 1) = 64 * k + 64 by omega, Int.pow_add, Int.mul_comm]; rfl
theorem pd_pow (k : Nat) : pd k = 2 ^ (32 * k) := by
  induction k with
  | zero => rfl
  | succ k ih => rw [pd_succ, ih, show 32 * (k + 1) = 32 * k + 32 by omega, Int.pow_add, Int.mul_comm]; rfl

/-- A limb times P, cut in two (P * Q = 2^64). -/
theorem limb_cut {x P Q : Int} (x0 : 0 ≤ x) (x1 : x < 18446744073709551616) (hPQ : P * Q = 18446744073709551616) (p0 : 0 < P) (q0 : 0 < Q) :
    (x * P) % 18446744073709551616 = (x % Q) * P ∧ 0 ≤ x / Q ∧ x / Q < P ∧ 0 ≤ (x % Q) * P ∧ (x % Q) * P ≤ 18446744073709551616 - P := by
  have e1 : (x * P) % 18446744073709551616 = (x % Q) * P := by rw [← hPQ, Int.mul_comm x P, Int.mul_emod_mul_of_pos _ _ p0, Int.mul_comm]
  refine ⟨e1, Int.ediv_nonneg x0 (Int.le_of_lt q0), ?_, Int.mul_nonneg (Int.emod_nonneg _ (by omega)) (Int.le_of_lt p0), ?_⟩
  · exact Int.ediv_lt_of_lt_mul q0 (by rw [hPQ]; exact x1)
  · have h1 := Int.emod_lt_of_pos x q0
    have h2 : (x % Q + 1) * P ≤ Q * P := Int.mul_le_mul_of_nonneg_right (by omega) (Int.le_of_lt p0)
    rw [Int.add_mul, Int.one_mul, Int.mul_comm Q P, hPQ] at h2
    omega

/-- One round of a shift to the left. -/
theorem shl_step {F a : Nat → Int} {o k : Nat} {P Q x y : Int} (hv : vf (sh F o) (k + 1) = vf a k * P) (hx : a k = x) (hy : F (o + k) = y) (hPQ : P * Q = 18446744073709551616) :
    vf (sh (upd (upd F (o + k) (y + x % Q * P)) (o + k + 1) (x / Q)) o) (k + 1 + 1) = vf a (k + 1) * P := by
  have e1 : vf (sh (upd (upd F (o + k) (y + x % Q * P)) (o + k + 1) (x / Q)) o) k = vf (sh F o) k := vf_congr (fun j hj => by rw [sh_at, sh_at, upd_other _ _ _ _ (by omega), upd_other _ _ _ _ (by omega)])
  have e2 : sh (upd (upd F (o + k) (y + x % Q * P)) (o + k + 1) (x / Q)) o k = y + x % Q * P := by rw [sh_at, upd_other _ _ _ _ (by omega), upd_same]
  have e3 : sh (upd (upd F (o + k) (y + x % Q * P)) (o + k + 1) (x / Q)) o (k + 1) = x / Q := by rw [sh_at, ← Nat.add_assoc, upd_same]
  rw [vf_succ, vf_succ, e1, e2, e3, vf_succ, pw_succ]
  rw [vf_succ, sh_at, hy] at hv
  have e4 := Int.mul_ediv_add_emod x Q
  rw [hx, ← hPQ]
  have e5 : x * pw k * P = (Q * (x / Q) + x % Q) * pw k * P := by rw [e4]
  rw [Int.add_mul (vf a k), e5, ← hv]
  grind

/-- What a list reads from place o on, noughts ahead of it. -/
theorem vf_ahead {F : Nat → Int} {o n : Nat} (h : ∀ j, j < o → F j = 0) : vf F (o + n) = vf (sh F o) n * pw o := by
  rw [vf_split, vf_zero h]; omega

/-- One round of a shift to the left, on digits. -/
theorem dshl_step {D a : Nat → Int} {o k : Nat} {P x c : Int} (hv : vd D (o + k) + c * pd (o + k) = vd a k * (P * pd o)) (hx : a k = x) :
    vd (cat D (o + k) (fun _ => (c + x * P) % 4294967296)) (o + k + 1) + ((c + x * P) / 4294967296) * pd (o + k + 1) = vd a (k + 1) * (P * pd o) := by
  have e1 : vd (cat D (o + k) (fun _ => (c + x * P) % 4294967296)) (o + k) = vd D (o + k) := vd_congr (fun j hj => cat_in hj)
  have e2 : cat D (o + k) (fun _ => (c + x * P) % 4294967296) (o + k) = (c + x * P) % 4294967296 := cat_out (Nat.le_refl _)
  rw [vd_succ, e1, e2, pd_succ, vd_succ, hx]
  have e3 := Int.mul_ediv_add_emod (c + x * P) 4294967296
  have e4 : (c + x * P) * pd (o + k) = (4294967296 * ((c + x * P) / 4294967296) + (c + x * P) % 4294967296) * pd (o + k) := by rw [e3]
  rw [Int.add_mul (vd a k), ← hv]
  have e5 : x * pd k * (P * pd o) = x * P * pd (o + k) := by rw [pd_add]; grind
  rw [e5]
  grind
theorem dshl_carry {P x c : Int} (c0 : 0 ≤ c) (c1 : c < P) (x0 : 0 ≤ x) (x1 : x < 4294967296) (p0 : 0 < P) : 0 ≤ c + x * P ∧ c + x * P < 4294967296 * P ∧ (c + x * P) / 4294967296 < P ∧ 0 ≤ x * P ∧ x * P < 4294967296 * P := by
  have h1 : 0 ≤ x * P := Int.mul_nonneg x0 (Int.le_of_lt p0)
  have h2 : (x + 1) * P ≤ 4294967296 * P := Int.mul_le_mul_of_nonneg_right (by omega) (Int.le_of_lt p0)
  rw [Int.add_mul, Int.one_mul] at h2
  refine ⟨by omega, by omega, ?_, h1, by omega⟩
  exact Int.ediv_lt_of_lt_mul (by decide) (by omega)

/-- 'make([]T, l, c)': a block of c noughts. -/
theorem wpList_make_two {P : Program} (k : IntKind) (w : World) {ops : Array Oper} {rest : List Oper} {o : Oper} {a : Act} {Q : Exit → Act → World → Prop}
    (hg : o.guard = none) (lo co : Operand) (t : TypeId) (hop : o.op = Op.makeSlice t lo co)
    (e : TypeId) (bytes : Nat) (h1 : P.underlying t = some (.slice e)) (h2 : (P.info? e).map (fun i => (i.zero, i.size, i.bytes)) = some (some (.int k 0), 1, bytes))
    (kl kc : IntKind) (L C : Int) (l c : Nat) (hl : a.eval lo = .int kl L) (hc : a.eval co = .int kc C) (hL : L = (l : Int)) (hC : C = (c : Int)) (hlc : l ≤ c) (b2 : bytes * c ≤ 281474976710656) (b3 : c ≤ maxLen)
    (hK : ∀ w', Blk k e w' w.heap.size c (fun _ => 0) → Below w.heap.size w w' → wpList P ops Q rest (a.put o.dst (.slice (some ⟨w.heap.size, 0, none⟩) l c)) w') :
    wpList P ops Q (o :: rest) a w := by
  obtain ⟨i, hi, hz0, hz1, hz2⟩ := info_parts h2
  subst hL
  subst hC
  refine wpList_plain hg fun K hK' => ?_
  have b2' : (i.bytes : Int) * (c : Int) ≤ 281474976710656 := by
    have h : ((i.bytes * c : Nat) : Int) ≤ 281474976710656 := by rw [hz2]; omega
    rwa [Int.natCast_mul] at h
  have hrun := run_make (P := P) w t e i (.int k 0) h1 hi hz0 kl kc (l : Int) (c : Int) (by omega) (by omega) b2' (by unfold maxLen at b3; omega)
  simp only [Int.toNat_natCast, hz1, Nat.mul_one] at hrun
  unfold Oper.wp
  simp [execOp, hop, hl, hc, hrun, Result.andThen]
  refine hK' _ _ (hK _ ⟨_, heap_alloc_new w _, size_madeCells _ _, fun j hj => ?_⟩ ((Below.refl _ _).alloc (Nat.le_refl _) _))
  have hm : (madeCells (Value.int k 0).cells c).toList = List.replicate c (.int k 0) := toList_madeCells_one _ _
  have : (madeCells (Value.int k 0).cells c).toList[j]? = some (.int k 0) := by rw [hm, List.getElem?_replicate, if_pos hj]
  simpa using this
end Go.Proofs.YtclopblgdiahiaaDoor
namespace Go.Proofs.YtclopblgdiahiaaDoor
open Go.RowKit

theorem or_comm64 (x y : Int) : bits BinOp.or .u64 x y = bits BinOp.or .u64 y x := by simp only [bits]; rw [BitVec.or_comm]

/-- The numbers of one round of shl. -/
theorem shl_nums (x y s : Int) (x0 : 0 ≤ x) (x1 : x < 18446744073709551616) (s0 : 0 ≤ s) (s1 : s ≤ 63) (y0 : 0 ≤ y) (y1 : y < 2 ^ s.toNat) :
    ∃ L Z H, IntKind.u64.wrap (x * 2 ^ s.toNat) = L ∧ 0 ≤ L ∧ L < 18446744073709551616 ∧ bits BinOp.or .u64 y L = Z ∧ 0 ≤ Z ∧ Z < 18446744073709551616 ∧ x / 2 ^ (64 - s).toNat = H ∧ 0 ≤ H ∧ H < 18446744073709551616 ∧ Hid (H < 2 ^ s.toNat) ∧ Hid (Z = y + x % 2 ^ (64 - s).toNat * 2 ^ s.toNat) := by
  have hPQ : (2 : Int) ^ s.toNat * 2 ^ (64 - s).toNat = 18446744073709551616 := by rw [← Int.pow_add, show s.toNat + (64 - s).toNat = 64 by omega]; rfl
  have p0 : (0 : Int) < 2 ^ s.toNat := Int.pow_pos (by decide)
  have q0 : (0 : Int) < 2 ^ (64 - s).toNat := Int.pow_pos (by decide)
  obtain ⟨c1, c2, c3, c4, c5⟩ := limb_cut x0 x1 hPQ p0 q0
  have hP : (2 : Int) ^ s.toNat ≤ 18446744073709551616 := by
    rw [← hPQ]
    have := Int.mul_le_mul_of_nonneg_left (show (1 : Int) ≤ 2 ^ (64 - s).toNat by omega) (Int.le_of_lt p0)
    omega
  have hL : IntKind.u64.wrap (x * 2 ^ s.toNat) = x % 2 ^ (64 - s).toNat * 2 ^ s.toNat := by rw [IntKind.wrap_u64, c1]
  refine ⟨_, _, _, hL, c4, by omega, ?_, ?_, ?_, rfl, c2, by omega, c3, rfl⟩
  · rw [or_comm64 y, bits_join .u64 64 (by decide) wraps_u64 s.toNat _ _ c4 (Int.mul_emod_left _ _) (by omega) y0 y1 (by omega), Int.add_comm]
  · omega
  · omega

set_option maxRecDepth 100000 in
set_option maxHeartbeats 1000000 in
/-- shl: a * 2^(64 * skip + s). -/
theorem shl_c (ao : Option Addr) (n cap skip : Nat) (z s : Int) (f : Nat → Int) (w : World) (hn : n ≤ 8796093022208) (hk : skip ≤ 1048576) (s0 : 0 ≤ s) (s1 : s ≤ 63) (hz : z = 64 * skip + s) (hr : Rd .u64 w ao n f) (hf : Lm f n) :
    Calls Tryd.prog 24 #[.slice ao n cap, .int .i64 z] w fun e w' => ∃ ao' m cap' f', e = .returned (.slice ao' m cap') ∧ Res (skip + n + 1) w w' ao' m cap' f' ∧ vf f' m = vf f n * 2 ^ s.toNat * pw skip := by
  have HF := hid hf
  have HRd := hid hr
  clear hf hr
  have z0 : 0 ≤ z := by omega
  have z1 : z ≤ 67108927 := by omega
  have h1 : z / 64 = (skip : Int) := by omega
  have h2 : z % 64 = s := by omega
  have h3 : Int.tdiv z 64 = (skip : Int) := by rw [Int.tdiv_eq_ediv_of_nonneg z0]; exact h1
  have h4 : Int.tmod z 64 = s := by rw [Int.tmod_eq_emod_of_nonneg z0]; exact h2
  clear hz
  go_enter Tryd.func24, Tryd.ntmps24
  go_wp2_with (at_make; refine wpList_make_blk .u64 w rfl (.tmp 17) (.tmp 17) 22 rfl 26 8 Tryd.underlying22 Tryd.infoU64 .i64 .i64 _ _ (skip + n + 1) rfl rfl (by omega) (by omega) (by omega) (by unfold maxLen; omega) ?_; intro w1 hb1 hbel1)
  go_loopw [21] (fun t wr => ∃ (k : Nat) (F : Nat → Int), k ≤ n ∧ t = .int .i64 k ∧ Below w.heap.size w wr ∧ Blk .u64 26 wr w.heap.size (skip + n + 1) F ∧ Hid (Lm F (skip + n + 1)) ∧ Hid (∀ j, j < skip ∨ skip + k < j → F j = 0) ∧ Hid (F (skip + k) < 2 ^ s.toNat) ∧ Hid (vf (sh F skip) (k + 1) = vf f k * 2 ^ s.toNat)) (fun t _ => n - (intOf t).toNat)
  case atStart => exact ⟨0, fun _ => 0, by omega, rfl, hbel1, hb1, fun j hj => ⟨Int.le_refl 0, show (0 : Int) < 18446744073709551616 by decide⟩, fun j hj => rfl, Int.pow_pos (by decide), by simp [Hid, vf, sh]⟩
  case round =>
    clear hb1 hbel1
    obtain ⟨k, F, hkn, rfl, hbel, hbl, HL, HZ, HT, HV⟩ := hrel
    by_cases hlt : k < n
    · have hr := HRd.out
      obtain ⟨b, ob, rfl⟩ := hr.at (by omega)
      obtain ⟨y, hy⟩ : ∃ y, F (skip + k) = y := ⟨_, rfl⟩
      obtain ⟨x, hx⟩ : ∃ x, f k = x := ⟨_, rfl⟩
      have hcell : wr.cell? ⟨w.heap.size, skip + k, none⟩ = some (.int .u64 y) := by rw [← hy]; exact hbl.cell (by omega)
      have hcelb : wr.cell? ⟨b, ob + k, none⟩ = some (.int .u64 x) := by rw [← hx]; exact (hr.below hbel (Nat.le_refl _)).cell hlt
      have hbw : b < w.heap.size := World.block_lt_of_cell? w _ (hr.cell hlt)
      have hfz := hbl.frozen (skip + k)
      have hfz2 := hbl.frozen (skip + k + 1)
      obtain ⟨y0, y1⟩ := HL.out (skip + k) (by omega)
      obtain ⟨x0, x1⟩ := HF.out k hlt
      rw [hx] at x0 x1
      rw [hy] at y0 y1
      obtain ⟨L, Z, H, eL, L0, L1, eZ, Z0, Z1, eH, H0, H1, HH, HZ2⟩ := shl_nums x y s x0 x1 s0 s1 y0 (by rw [← hy]; exact HT.out)
      have HX := hid hx
      have HY := hid hy
      clear hx hy hr
      have hcelb2 : ∀ (v : Value), (wr.setCell ⟨w.heap.size, skip + k, none⟩ v).cell? ⟨b, ob + k, none⟩ = some (.int .u64 x) := fun v => by
        rw [World.cell?_of_block (Below.heap_setCell _ _ _ _ (by simp; omega))]; exact hcelb
      have hcelb3 : ∀ (v : Value), (wr.setCell ⟨w.heap.size, skip + k, none⟩ v).drew.cell? ⟨b, ob + k, none⟩ = some (.int .u64 x) := hcelb2
      have hcell2 : wr.cell? ⟨w.heap.size, skip + k + 1, none⟩ = some (.int .u64 0) := by rw [← HZ.out (skip + k + 1) (by omega)]; exact hbl.cell (by omega)
      go_wp2
      go_region
      all_goals
        go_wp2
        go_roundw
        case rel =>
          refine ⟨k + 1, _, by omega, by go_num, ?_, ((hbl.set (skip + k) Z).set (skip + k + 1) H), ?_, ?_, ?_, ?_⟩
          · exact below_only hbel ((((Only.refl _ _).setCell _ _ _).setCell _ _ _).drew) (Nat.le_refl _) hbel.size
          · exact (HL.out.upd ⟨Z0, Z1⟩).upd ⟨H0, H1⟩
          · intro j hj
            rw [upd_other _ _ _ _ (by omega), upd_other _ _ _ _ (by omega)]
            exact HZ.out j (by omega)
          · show _ < _
            rw [← Nat.add_assoc, upd_same]; exact HH.out
          · have := shl_step (Q := 2 ^ (64 - s).toNat) HV.out HX.out HY.out (by rw [← Int.pow_add, show s.toNat + (64 - s).toNat = 64 by omega]; rfl)
            rw [← HZ2.out, eH] at this
            exact this
        case measure => simp [intOf]; omega
    · have hkn2 : k = n := by omega
      subst hkn2
      go_wp2_with fail
      refine (trim_res w.heap.size (skip + k + 1) (skip + k + 1) F w wr hbel (Nat.le_refl _) hbl (Nat.le_refl _) (by omega) HL.out).mono ?_
      rintro e w3 ⟨rfl, ao2, m, cap2, rfl, hres, hmn, hv⟩
      have HV3 := hid hv
      clear hv
      go_wp2
      go_ret
      refine ⟨ao2, m, cap2, F, rfl, hres, ?_⟩
      rw [HV3.out, Nat.add_assoc, vf_ahead (fun j hj => HZ.out j (.inl hj)), HV.out]
end Go.Proofs.YtclopblgdiahiaaDoor
namespace Go.Proofs.YtclopblgdiahiaaDoor
open Go.RowKit

/-- The numbers of one round of shrBits. -/
theorem shr_nums (x y s : Int) (x0 : 0 ≤ x) (x1 : x < 18446744073709551616) (s0 : 0 ≤ s) (s1 : s ≤ 63) (y0 : 0 ≤ y) (y1 : y < 2 ^ (64 - s).toNat) :
    ∃ L Z H, IntKind.u64.wrap (x * 2 ^ (64 - s).toNat) = L ∧ 0 ≤ L ∧ L < 18446744073709551616 ∧ bits BinOp.or .u64 y L = Z ∧ 0 ≤ Z ∧ Z < 18446744073709551616 ∧ x / 2 ^ s.toNat = H ∧ 0 ≤ H ∧ H < 18446744073709551616 ∧ Hid (H < 2 ^ (64 - s).toNat) ∧ Hid (Z = y + x % 2 ^ s.toNat * 2 ^ (64 - s).toNat) := by
  have hPQ : (2 : Int) ^ (64 - s).toNat * 2 ^ s.toNat = 18446744073709551616 := by rw [← Int.pow_add, show (64 - s).toNat + s.toNat = 64 by omega]; rfl
  have p0 : (0 : Int) < 2 ^ (64 - s).toNat := Int.pow_pos (by decide)
  have q0 : (0 : Int) < 2 ^ s.toNat := Int.pow_pos (by decide)
  obtain ⟨c1, c2, c3, c4, c5⟩ := limb_cut x0 x1 hPQ p0 q0
  have hP : (2 : Int) ^ (64 - s).toNat ≤ 18446744073709551616 := by
    rw [← hPQ]
    have := Int.mul_le_mul_of_nonneg_left (show (1 : Int) ≤ 2 ^ s.toNat by omega) (Int.le_of_lt p0)
    omega
  have hL : IntKind.u64.wrap (x * 2 ^ (64 - s).toNat) = x % 2 ^ s.toNat * 2 ^ (64 - s).toNat := by rw [IntKind.wrap_u64, c1]
  refine ⟨_, _, _, hL, c4, by omega, ?_, ?_, ?_, rfl, c2, by omega, c3, rfl⟩
  · rw [or_comm64 y, bits_join .u64 64 (by decide) wraps_u64 (64 - s).toNat _ _ c4 (Int.mul_emod_left _ _) (by omega) y0 y1 (by omega), Int.add_comm]
  · omega
  · omega

theorem shr_step {D a : Nat → Int} {j : Nat} {P Q x y r : Int} (hv : vf D (j + 1) * P + r = vf a (j + 1)) (hx : a (j + 1) = x) (hy : D j = y) (hPQ : Q * P = 18446744073709551616) :
    vf (upd (upd D (j + 1) (x / P)) j (y + x % P * Q)) (j + 1 + 1) * P + r = vf a (j + 1 + 1) := by
  have e1 : vf (upd (upd D (j + 1) (x / P)) j (y + x % P * Q)) j = vf D j := vf_congr (fun i hi => by rw [upd_other _ _ _ _ (by omega), upd_other _ _ _ _ (by omega)])
  have e2 : upd (upd D (j + 1) (x / P)) j (y + x % P * Q) (j + 1) = x / P := by rw [upd_other _ _ _ _ (by omega), upd_same]
  rw [vf_succ, vf_succ, e1, e2, upd_same, vf_succ a (j + 1), hx, ← hv, vf_succ D j, hy, pw_succ, ← hPQ]
  have e4 := Int.mul_ediv_add_emod x P
  have e5 : x * (Q * P * pw j) = (P * (x / P) + x % P) * (Q * P * pw j) := by rw [e4]
  rw [e5]
  grind
theorem shr_step0 {D a : Nat → Int} {P x : Int} (hx : a 0 = x) : vf (upd D 0 (x / P)) 1 * P + x % P = vf a 1 := by
  have e4 := Int.mul_ediv_add_emod x P
  simp only [vf, pw, upd_same, hx, Int.zero_add, Int.mul_one]
  have : x / P * P = P * (x / P) := Int.mul_comm _ _
  omega

set_option maxRecDepth 100000 in
set_option maxHeartbeats 1000000 in
theorem shrBits_c (ao : Option Addr) (n cap : Nat) (s : Int) (f : Nat → Int) (w : World) (hn : n ≤ 17592186044416) (s0 : 0 ≤ s) (s1 : s ≤ 63) (hr : Rd .u64 w ao n f) (hf : Lm f n) :
    Calls Tryd.prog 47 #[.slice ao n cap, .int .i64 s] w fun e w' => ∃ ao' m cap' f' r, e = .returned (.slice ao' m cap') ∧ Res n w w' ao' m cap' f' ∧ 0 ≤ r ∧ r < 2 ^ s.toNat ∧ vf f' m * 2 ^ s.toNat + r = vf f n := by
  have HF := hid hf
  have HRd := hid hr
  clear hf hr
  have P0 : Hid ((0 : Int) < 2 ^ s.toNat) := Int.pow_pos (by decide)
  have Q0 : Hid ((0 : Int) < 2 ^ (64 - s).toNat) := Int.pow_pos (by decide)
  go_enter Tryd.func47, Tryd.ntmps47
  go_wp2_with (at_make; refine wpList_make_blk .u64 w rfl (.tmp 8) (.tmp 8) 22 rfl 26 8 Tryd.underlying22 Tryd.infoU64 .i64 .i64 _ _ n rfl rfl rfl rfl (by omega) (by unfold maxLen; omega) ?_; intro w1 hb1 hbel1)
  go_loopw [12] (fun t wr => ∃ (k : Nat) (D : Nat → Int) (r : Int), k ≤ n ∧ t = .int .i64 k ∧ Below w.heap.size w wr ∧ Blk .u64 26 wr w.heap.size n D ∧ Hid (Lm D n) ∧ Hid (0 ≤ r ∧ r < 2 ^ s.toNat) ∧ Hid (∀ j, j + 1 = k → D j < 2 ^ (64 - s).toNat) ∧ Hid (vf D k * 2 ^ s.toNat + r = vf f k)) (fun t _ => n - (intOf t).toNat)
  case atStart => exact ⟨0, fun _ => 0, 0, by omega, rfl, hbel1, hb1, fun j hj => ⟨Int.le_refl 0, show (0 : Int) < 18446744073709551616 by decide⟩, ⟨Int.le_refl 0, P0.out⟩, fun j hj => by omega, by simp [Hid, vf]⟩
  case round =>
    clear hb1 hbel1
    obtain ⟨k, D, r, hkn, rfl, hbel, hbl, HL, HR, HT, HV⟩ := hrel
    by_cases hlt : k < n
    · have hr := HRd.out
      obtain ⟨b, ob, rfl⟩ := hr.at (by omega)
      have hbw : b < w.heap.size := World.block_lt_of_cell? w _ (hr.cell hlt)
      have hrr := hid (hr.below hbel (Nat.le_refl _))
      clear hr
      cases k with
      | zero =>
        obtain ⟨x, hx⟩ : ∃ x, f 0 = x := ⟨_, rfl⟩
        have hcelb : wr.cell? ⟨b, ob, none⟩ = some (.int .u64 x) := by rw [← hx]; exact hrr.out.cell hlt
        have hcell := hbl.cell (j := 0) hlt
        have hfz := hbl.frozen 0
        obtain ⟨x0, x1⟩ := HF.out 0 hlt
        rw [hx] at x0 x1
        obtain ⟨L, Z, H, eL, L0, L1, eZ, Z0, Z1, eH, H0, H1, HH, HZ2⟩ := shr_nums x 0 s x0 x1 s0 s1 (Int.le_refl _) Q0.out
        have HX := hid hx
        clear hx
        go_wp2
        go_roundw
        case rel =>
          refine ⟨1, _, x % 2 ^ s.toNat, by omega, by go_num, below_only hbel ((Only.refl _ _).setCell _ _ _) (Nat.le_refl _) hbel.size, hbl.set 0 H, HL.out.upd ⟨H0, H1⟩, ⟨Int.emod_nonneg _ (by have := P0.out; omega), Int.emod_lt_of_pos _ P0.out⟩, fun j hj => ?_, ?_⟩
          · obtain rfl : j = 0 := by omega
            rw [upd_same]; exact HH.out
          · rw [← eH]; exact shr_step0 HX.out
        case measure => simp [intOf]; omega
      | succ j =>
        obtain ⟨x, hx⟩ : ∃ x, f (j + 1) = x := ⟨_, rfl⟩
        obtain ⟨y, hy⟩ : ∃ y, D j = y := ⟨_, rfl⟩
        have hcelb : wr.cell? ⟨b, ob + (j + 1), none⟩ = some (.int .u64 x) := by rw [← hx]; exact hrr.out.cell hlt
        have hcell := hbl.cell (j := j + 1) hlt
        have hcely : wr.cell? ⟨w.heap.size, j, none⟩ = some (.int .u64 y) := by rw [← hy]; exact hbl.cell (by omega)
        have hfz := hbl.frozen (j + 1)
        have hfz2 := hbl.frozen j
        obtain ⟨x0, x1⟩ := HF.out (j + 1) hlt
        obtain ⟨y0, y1⟩ := HL.out j (by omega)
        rw [hx] at x0 x1
        rw [hy] at y0 y1
        obtain ⟨L, Z, H, eL, L0, L1, eZ, Z0, Z1, eH, H0, H1, HH, HZ2⟩ := shr_nums x y s x0 x1 s0 s1 y0 (by rw [← hy]; exact HT.out j rfl)
        have HX := hid hx
        have HY := hid hy
        clear hx hy
        have hcelb2 : ∀ (v : Value), (wr.setCell ⟨w.heap.size, j + 1, none⟩ v).cell? ⟨b, ob + (j + 1), none⟩ = some (.int .u64 x) := fun v => by
          rw [World.cell?_of_block (Below.heap_setCell _ _ _ _ (by simp; omega))]; exact hcelb
        go_wp2
        go_region
        all_goals
          go_wp2
          go_roundw
          case rel =>
            refine ⟨j + 1 + 1, _, r, by omega, by go_num, ?_, ((hbl.set (j + 1) H).set j Z), ?_, HR.out, fun i hi => ?_, ?_⟩
            · exact below_only hbel ((((Only.refl _ _).setCell _ _ _).setCell _ _ _).drew) (Nat.le_refl _) hbel.size
            · exact (HL.out.upd ⟨H0, H1⟩).upd ⟨Z0, Z1⟩
            · obtain rfl : i = j + 1 := by omega
              rw [upd_other _ _ _ _ (by omega), upd_same]; exact HH.out
            · have := shr_step (Q := 2 ^ (64 - s).toNat) HV.out HX.out HY.out (by rw [← Int.pow_add, show (64 - s).toNat + s.toNat = 64 by omega]; rfl)
              rw [← HZ2.out, eH] at this
              exact this
          case measure => simp [intOf]; omega
    · have hkn2 : k = n := by omega
      subst hkn2
      go_wp2_with fail
      refine (trim_res w.heap.size k k D w wr hbel (Nat.le_refl _) hbl (Nat.le_refl _) (by omega) HL.out).mono ?_
      rintro e w3 ⟨rfl, ao2, m, cap2, rfl, hres, hmn, hv⟩
      have HV3 := hid hv
      clear hv
      go_wp2
      go_ret
      exact ⟨ao2, m, cap2, D, r, rfl, hres, HR.out.1, HR.out.2, by rw [HV3.out, HV.out]⟩
end Go.Proofs.YtclopblgdiahiaaDoor
namespace Go.Proofs.YtclopblgdiahiaaDoor
open Go.RowKit

theorem top_zero {f : Nat → Int} {m : Nat} (h : Lm f (m + 1)) (hv : vf f (m + 1) < pw m) : f m = 0 ∧ vf f m = vf f (m + 1) := by
  have h0 := vf_nonneg (h.mono (m := m) (by omega))
  have h1 := h m (by omega)
  rw [vf_succ] at hv ⊢
  have hz : f m = 0 := by
    apply Int.le_antisymm _ h1.1
    apply Int.le_of_lt_add_one
    apply Int.lt_of_not_ge
    intro hge
    have : 1 * pw m ≤ f m * pw m := Int.mul_le_mul_of_nonneg_right (by omega) (Int.le_of_lt (pw_pos m))
    omega
  rw [hz]; simp
theorem top_ge {f : Nat → Int} {k : Nat} {c : Int} (h : Lm f (k + 1)) (hv : c * pw k ≤ vf f (k + 1)) : c ≤ f k := by
  apply Int.le_of_lt_add_one
  have h1 := vf_lt (h.mono (m := k) (by omega))
  rw [vf_succ] at hv
  have : c * pw k < (f k + 1) * pw k := by rw [Int.add_mul, Int.one_mul]; omega
  exact Int.lt_of_mul_lt_mul_right this (Int.le_of_lt (pw_pos k))
theorem win_val {U U' : Nat → Int} {p l N : Nat} {X : Int} (hN : p + l ≤ N) (he : ∀ j, j < p ∨ p + l ≤ j → U' j = U j) (hv : vf (sh U' p) l = vf (sh U p) l - X) : vf U' N = vf U N - X * pw p := by
  obtain ⟨r, rfl⟩ := Nat.exists_eq_add_of_le hN
  rw [Nat.add_assoc, vf_split U' p, vf_split U p, vf_split (sh U' p) l, vf_split (sh U p) l, sh_sh, sh_sh, vf_congr (f := U') (g := U) (n := p) (fun j hj => he j (by omega)), vf_congr (f := sh U' (p + l)) (g := sh U (p + l)) (n := r) (fun j hj => he _ (by omega)), hv]
  grind
theorem vf_upd {Q : Nat → Int} {p N : Nat} {t : Int} (hp : p < N) (h0 : Q p = 0) : vf (upd Q p t) N = vf Q N + t * pw p := by
  have := win_val (U := Q) (U' := upd Q p t) (p := p) (l := 1) (N := N) (X := -t) (by omega) (fun j hj => upd_other _ _ _ _ (by omega)) (by simp [vf, pw, sh, upd, h0])
  rw [this]; grind

theorem norm_V {h : Nat → Int} {k : Nat} {y P : Int} (hl : Lm h (k + 1)) (hy : h k = y) (p0 : 0 < P) (h1 : 9223372036854775808 ≤ y * P) (h2 : (y + 1) * P ≤ 18446744073709551616) : 9223372036854775808 * pw k ≤ vf h (k + 1) * P ∧ vf h (k + 1) * P < pw (k + 1) := by
  have lo := vf_nonneg (hl.mono (m := k) (by omega))
  have hi := vf_lt (hl.mono (m := k) (by omega))
  have pk := pw_pos k
  rw [vf_succ, hy, pw_succ, Int.add_mul]
  have e0 : 0 ≤ vf h k * P := Int.mul_nonneg lo (Int.le_of_lt p0)
  have e1 : 9223372036854775808 * pw k ≤ y * P * pw k := Int.mul_le_mul_of_nonneg_right h1 (Int.le_of_lt pk)
  have e2 : (y + 1) * P * pw k ≤ 18446744073709551616 * pw k := Int.mul_le_mul_of_nonneg_right h2 (Int.le_of_lt pk)
  have e3 : y * pw k * P = y * P * pw k := by grind
  have e4 : (y + 1) * P * pw k = y * P * pw k + pw k * P := by grind
  have e5 : vf h k * P < pw k * P := (Int.mul_lt_mul_right p0).2 hi
  rw [e3]
  omega
theorem norm_len {fv : Nat → Int} {kv k : Nat} {V : Int} (hl : Lm fv kv) (hf : Fm fv kv) (hv : vf fv kv = V) (h1 : 9223372036854775808 * pw k ≤ V) (h2 : V < pw (k + 1)) : kv = k + 1 := by
  have pk := pw_pos k
  have a : k + 1 ≤ kv := by
    apply Nat.le_of_not_lt; intro hlt
    have b1 := vf_lt hl
    have b2 := pw_mono (show kv ≤ k by omega)
    omega
  have b : kv ≤ k + 1 := by
    apply Nat.le_of_not_lt; intro hlt
    have b1 := vf_form_ge hl hf (by omega)
    have b2 := pw_mono (show k + 1 ≤ kv - 1 by omega)
    omega
  omega
/-- The highest limbs are less than the divisor. -/
theorem first_top {U : Nat → Int} {lq k : Nat} {A P V : Int} (hU : Lm U (lq + (k + 1))) (hv : vf U (lq + (k + 1)) = A * P) (hA : A < pw (lq + k)) (p0 : 0 < P) (p1 : P ≤ 9223372036854775808) (hV : 9223372036854775808 * pw k ≤ V) : vf (sh U lq) (k + 1) < V := by
  have lo := vf_nonneg (hU.mono (m := lq) (by omega))
  rw [vf_split] at hv
  have e1 : A * P < pw (lq + k) * P := (Int.mul_lt_mul_right p0).2 hA
  have e2 : P * pw k ≤ 9223372036854775808 * pw k := Int.mul_le_mul_of_nonneg_right p1 (Int.le_of_lt (pw_pos k))
  have e3 : P * pw k * pw lq ≤ V * pw lq := Int.mul_le_mul_of_nonneg_right (by omega) (Int.le_of_lt (pw_pos lq))
  have e4 : pw (lq + k) * P = P * pw k * pw lq := by rw [pw_add]; grind
  have : vf (sh U lq) (k + 1) * pw lq < V * pw lq := by omega
  exact Int.lt_of_mul_lt_mul_right this (Int.le_of_lt (pw_pos lq))
theorem win_lt {U : Nat → Int} {p m : Nat} {V : Int} (hU : Lm U (p + 1)) (h : vf (sh U (p + 1)) m < V) : vf (sh U p) (m + 1) < V * 18446744073709551616 := by
  have := hU p (by omega)
  rw [vf_cons]; omega

/-- Leading noughts of a limb. -/
theorem lead_nums (y : Nat) (y0 : 0 < y) (y1 : y < 18446744073709551616) : ∃ s : Int, 0 ≤ s ∧ s ≤ 63 ∧ (64 - (Lib.bitLen y : Int)) = s ∧ 9223372036854775808 ≤ (y : Int) * 2 ^ s.toNat ∧ ((y : Int) + 1) * 2 ^ s.toNat ≤ 18446744073709551616 := by
  obtain ⟨b, hb⟩ : ∃ b, Lib.bitLen y = b := ⟨_, rfl⟩
  obtain ⟨b1, b2, b3⟩ := bitLen_bounds b y hb y0 y1
  have b64 : b ≤ 64 := by rw [← hb]; exact Lib.bitLen_le y 64 (by omega) (by omega)
  rw [hb]
  have es : (64 - (b : Int)).toNat = 64 - b := by omega
  refine ⟨64 - (b : Int), by omega, by omega, rfl, ?_, ?_⟩
  · rw [es]
    have e1 : (2 : Int) ^ (b - 1) * 2 ^ (64 - b) = 9223372036854775808 := by rw [← Int.pow_add, show b - 1 + (64 - b) = 63 by omega]; rfl
    have e2 : (2 : Int) ^ (b - 1) ≤ y := by exact_mod_cast b2
    have := Int.mul_le_mul_of_nonneg_right e2 (Int.le_of_lt (show (0 : Int) < 2 ^ (64 - b) from Int.pow_pos (by decide)))
    omega
  · rw [es]
    have e1 : (2 : Int) ^ b * 2 ^ (64 - b) = 18446744073709551616 := by rw [← Int.pow_add, show b + (64 - b) = 64 by omega]; rfl
    have e2 : (y : Int) + 1 ≤ 2 ^ b := by exact_mod_cast b3
    have := Int.mul_le_mul_of_nonneg_right e2 (Int.le_of_lt (show (0 : Int) < 2 ^ (64 - b) from Int.pow_pos (by decide)))
    omega
end Go.Proofs.YtclopblgdiahiaaDoor
namespace Go.Proofs.YtclopblgdiahiaaDoor
open Go.RowKit

/-- Quotient and rest out of what is left of the shifted numbers. -/
theorem rest_of {A B P V U q R r : Int} (p0 : 0 < P) (hV : V = B * P) (h : U + V * q = A * P) (hU : U < V) (hR : R * P + r = U) (r0 : 0 ≤ r) (r1 : r < P) : A = q * B + R ∧ R < B := by
  have e1 : (A - q * B) * P = U := by rw [Int.sub_mul]; rw [hV] at h; have : q * B * P = B * P * q := by grind
                                      omega
  have e2 : U / P = A - q * B := by rw [← e1]; exact Int.mul_ediv_cancel _ (by omega)
  have e3 : U / P = R := by rw [← hR, Int.add_comm, Int.add_mul_ediv_right _ _ (by omega), Int.ediv_eq_zero_of_lt r0 r1]; omega
  refine ⟨by omega, ?_⟩
  have : R * P < B * P := by rw [← hV]; omega
  exact Int.lt_of_mul_lt_mul_right this (Int.le_of_lt p0)

set_option maxRecDepth 100000 in
set_option maxHeartbeats 8000000 in
theorem divLong_cA (ao bo : Option Addr) (n m ca cb : Nat) (f h : Nat → Int) (w : World) (hn : n ≤ 8796093022208) (hm : m ≤ 8796093022208) (hr : Rd .u64 w ao n f) (hs : Rd .u64 w bo m h) (hf : Lm f n) (hh : Lm h m) (fh : Fm h m) (h2 : 2 ≤ m) (hle : vf h m ≤ vf f n) :
    Calls Tryd.prog 31 #[.slice ao n ca, .slice bo m cb] w fun e w' => ∃ a1 k1 c1 q a2 k2 c2 r, e = .returned (.tuple #[.slice a1 k1 c1, .slice a2 k2 c2]) ∧ Res n w w' a1 k1 c1 q ∧ Res (n + 1) w w' a2 k2 c2 r ∧ vf f n = vf q k1 * vf h m + vf r k2 ∧ 0 ≤ vf r k2 ∧ vf r k2 < vf h m ∧ Apart a1 a2 := by
  have hmn : m ≤ n := vf_len hh hf fh hle
  obtain ⟨k, rfl⟩ : ∃ k, m = k + 1 := ⟨m - 1, by omega⟩
  obtain ⟨lq, rfl⟩ : ∃ lq, n = lq + k := ⟨n - k, by omega⟩
  obtain ⟨b, ob, rfl⟩ := hs.at (by omega)
  obtain ⟨y, hy⟩ : ∃ y, h k = y := ⟨_, rfl⟩
  have hcell : w.cell? ⟨b, ob + k, none⟩ = some (.int .u64 y) := by rw [← hy]; exact hs.cell (by omega)
  have hy01 := hh k (by omega)
  have hyne : y ≠ 0 := by rw [← hy]; rcases fh with h | h; omega; simpa using h
  rw [hy] at hy01
  obtain ⟨y, rfl⟩ := Int.eq_ofNat_of_zero_le hy01.1
  obtain ⟨s, s0, s1, hse, hP1, hP2⟩ := lead_nums y (by omega) (by omega)
  have cl := Tryd.bits_LeadingZeros64 (y : Int) w (by omega) (by omega)
  rw [Int.toNat_natCast, hse] at cl
  obtain ⟨P, hP⟩ : ∃ P : Int, 2 ^ s.toNat = P := ⟨_, rfl⟩
  have p0 : 0 < P := by rw [← hP]; exact Int.pow_pos (by decide)
  have p1 : P ≤ 9223372036854775808 := by
    rw [← hP]
    have e1 : (2 : Int) ^ s.toNat * 2 ^ (63 - s).toNat = 9223372036854775808 := by rw [← Int.pow_add, show s.toNat + (63 - s).toNat = 63 by omega]; rfl
    have e2 : (0 : Int) < 2 ^ (63 - s).toNat := Int.pow_pos (by decide)
    have := Int.mul_le_mul_of_nonneg_left (show (1 : Int) ≤ 2 ^ (63 - s).toNat by omega) (Int.le_of_lt (show (0 : Int) < 2 ^ s.toNat from Int.pow_pos (by decide)))
    omega
  have hP1' : 9223372036854775808 ≤ (y : Int) * P := by rw [← hP]; exact hP1
  have hP2' : ((y : Int) + 1) * P ≤ 18446744073709551616 := by rw [← hP]; exact hP2
  obtain ⟨hV1, hV2⟩ := norm_V hh hy p0 hP1' hP2'
  have hA := vf_lt hf
  have CL := hid cl; have HF := hid hf; have HH := hid hh; have HR := hid hr; have HS := hid hs; have HP := hid hP; have PP0 := hid p0; have PP1 := hid p1; have HV1 := hid hV1; have HV2 := hid hV2; have HA := hid hA
  clear cl hf hh hr hs hP p0 p1 hV1 hV2 hA hP1 hP2 hP1' hP2' hse fh hle hy
  go_enter Tryd.func31, Tryd.ntmps31
  go_wp2_with fail
  refine CL.out.mono ?_
  rintro e w' ⟨rfl, rfl⟩
  go_wp2_with fail
  refine (shl_c (some ⟨b, ob, none⟩) (k + 1) cb 0 s s h _ (by omega) (by omega) s0 s1 (by omega) HS.out HH.out).mono ?_
  rintro e w1 ⟨av, kv, cv, fv, rfl, hresv, hvv⟩
  rw [HP.out] at hvv
  have hvv2 : vf fv kv = vf h (k + 1) * P := by rw [hvv]; simp [pw]
  have hkv := norm_len hresv.lm hresv.fm hvv2 HV1.out HV2.out
  subst hkv
  have htop := top_ge hresv.lm (by rw [hvv2]; exact HV1.out)
  obtain ⟨gv, hav, hgv0, hgv, hblv⟩ : ∃ gv, av = some ⟨gv, 0, none⟩ ∧ w'.heap.size ≤ gv ∧ gv < w1.heap.size ∧ Rd .u64 w1 (some ⟨gv, 0, none⟩) (k + 1) fv := by
    rcases hresv.own with ⟨_, h, _⟩ | ⟨g, e, hg, _, hn, _, hb⟩
    · omega
    · exact ⟨g, e, hg, hb.lt, hb.rd0 hn⟩
  subst hav
  have HVV := hid hvv2; have HTop := hid htop; have HRv := hid hblv; have LV := hid hresv.lm; have BV := hid hresv.bel
  have HR1 := hid (HR.out.below BV.out (Nat.le_refl _))
  clear hvv hvv2 htop hblv hresv CL hcell HS HR
  go_wp2_with fail
  refine (shl_c ao (lq + k) ca 0 s s f w1 (by omega) (by omega) s0 s1 (by omega) HR1.out HF.out).mono ?_
  rintro e w2 ⟨au, ku, cu, fu, rfl, hresu, hvu⟩
  rw [HP.out] at hvu
  have hvu2 : vf fu ku = vf f (lq + k) * P := by rw [hvu]; simp [pw]
  have hkul : ku ≤ lq + k + 1 := by have := hresu.le; omega
  have HVU := hid hvu2; have HRu := hid hresu.rd; have LU := hid hresu.lm; have BU := hid hresu.bel
  have HRv2 := hid (HRv.out.below BU.out (Nat.le_refl _))
  clear hvu hvu2 hresu HR1 HRv
  go_wp2_with fail
  refine (padded_c au ku cu (lq + k + 1) _ fu w2 (by omega) hkul (by omega) HRu.out).mono ?_
  rintro e w3 ⟨rfl, hbel3, hb3⟩
  have HRv3 := hid (HRv2.out.below hbel3 (Nat.le_refl _))
  have BP := hid hbel3; have HB3 := hid hb3
  clear HRv2 HRu hbel3 hb3
  go_wp2_with (at_make; refine wpList_make_blk .u64 w3 rfl (.tmp 35) (.tmp 35) 22 rfl 26 8 Tryd.underlying22 Tryd.infoU64 .i64 .i64 _ _ lq rfl rfl (by omega) (by omega) (by omega) (by unfold maxLen; omega) ?_; intro w4 hb4 hbel4)
  have G3 : w2.heap.size < w3.heap.size := HB3.out.lt
  have G4 : w3.heap.size < w4.heap.size := hb4.lt
  have z1 := BV.out.size; have z2 := BU.out.size
  have HB4 := hid (HB3.out.below hbel4 G3)
  have HRv4 := hid (HRv3.out.below hbel4 (Nat.le_refl _))
  have BALL := hid (BV.out.trans ((BU.out.mono z1).trans ((BP.out.mono (by omega)).trans (hbel4.mono (by omega)))))
  obtain ⟨V, hV⟩ : ∃ V, vf h (k + 1) * P = V := ⟨_, rfl⟩
  have hval0 : vf (ext fu ku) (lq + (k + 1)) = vf f (lq + k) * P := by rw [vf_ext_list _ _ _ (by omega), HVU.out]
  have hL0 : Lm (ext fu ku) (lq + (k + 1)) := fun j hj => by
    by_cases hjn : j < ku
    · rw [ext_in _ _ _ hjn]; exact LU.out j hjn
    · rw [ext_out _ _ _ (by omega)]; omega
  have htop0 := first_top hL0 hval0 HA.out PP0.out PP1.out (V := V) (by rw [← hV]; exact HV1.out)
  have VAL0 := hid hval0; have L0 := hid hL0; have TOP0 := hid htop0; have VV := hid hV; have HB4q := hid hb4
  have hVlt : V < pw (k + 1) := by rw [← hV]; exact HV2.out
  have hvfv : vf fv (k + 1) = V := by rw [HVV.out, hV]
  have VLT := hid hVlt; have VFV := hid hvfv
  clear hval0 hL0 htop0 hV hb4 hVlt hvfv HB3 HRv3 BV BU BP HVV HV1 HV2 HVU LU hbel4
  generalize hG : w2.heap.size = G at G3 G4 z2 HB4 ⊢
  generalize hH : w3.heap.size = H at G3 G4 HB4q ⊢
  clear hG hH
  go_loopw [39] (fun t wr => ∃ (i : Nat) (U Q : Nat → Int), i ≤ lq ∧ t = .int .i64 i ∧ Below w'.heap.size w' wr ∧ Hid (w4.heap.size ≤ wr.heap.size) ∧ Hid (Blk .u64 26 wr G (lq + k + 1) U) ∧ Hid (Lm U (lq + k + 1)) ∧ Hid (Blk .u64 26 wr H lq Q) ∧ Hid (Lm Q lq) ∧ Hid (Rd .u64 wr (some ⟨gv, 0, none⟩) (k + 1) fv) ∧ Hid (∀ j, j < lq - i → Q j = 0) ∧ Hid (∀ j, lq - i + (k + 1) ≤ j → j < lq + k + 1 → U j = 0) ∧ Hid (vf (sh U (lq - i)) (k + 1) < V) ∧ Hid (vf U (lq + k + 1) + V * vf Q lq = vf f (lq + k) * P)) (fun t _ => lq - (intOf t).toNat)
  case atStart => exact ⟨0, ext fu ku, fun _ => 0, by omega, rfl, BALL.out, Nat.le_refl _, HB4.out, L0.out, HB4q.out, lm_zero _, HRv4.out, fun _ _ => rfl, fun j h1 h2 => by omega, TOP0.out, (by show _ = _; rw [vf_zero (f := fun _ => 0) (fun _ _ => rfl), VAL0.out.symm]; simp; rfl)⟩
  case round =>
    clear BALL HB4 L0 HB4q HRv4 TOP0 VAL0
    obtain ⟨i, U, Q, hi, rfl, hbel, HSz, HBU, HLU, HBQ, HLQ, HRv, HQz, HUz, HTp, HVal⟩ := hrel
    by_cases hlt : i < lq
    · obtain ⟨p, hp⟩ : ∃ p, lq - i = p + 1 := ⟨lq - i - 1, by omega⟩
      have hpi : (lq : Int) - 1 - (i : Int) = (p : Int) := by omega
      have hp2 : p < lq := by omega
      have hp3 : ¬ (p = lq + k + 1) := by omega
      have HPe := hid hp
      clear hp
      have hw := win_lt (p := p) (HLU.out.mono (by omega)) (by rw [← HPe.out]; exact HTp.out)
      have HW := hid hw
      clear hw
      have hbl := HBU.out
      have z3 := HSz.out
      go_wp2_with fail
      rw [show p + (k + 1) + 1 - p = k + 1 + 1 by omega]
      refine (takeOut_c G p (k + 1) (lq + k + 1 - p) (lq + k + 1) U gv 0 cv fv wr HBU.out HLU.out (by omega) (by omega) (by omega) (by omega) HRv.out LV.out (by omega) h2 HTop.out (by rw [VFV.out]; exact HW.out)).mono ?_
      rintro e w5 ⟨t, rfl, ht0, ht1, hon, U', hbu', hlu', heu', hvu', hlt'⟩
      rw [VFV.out] at hvu' hlt'
      have hbq' := HBQ.out.only hon (by omega)
      have hcelq := hbq'.cell (j := p) hp2
      have hfzq := hbq'.frozen p
      obtain ⟨hz, hzv⟩ := top_zero (hlu'.sh (o := p) (m := k + 1 + 1) (by omega)) (Int.lt_trans hlt' VLT.out)
      have hbel5 : Below w'.heap.size w' w5 := below_only hbel hon (by omega) hbel.size
      have HB5 := hid hbu'; have HQ5 := hid hbq'; have HL5 := hid hlu'; have HE5 := hid heu'; have HV5 := hid hvu'; have HLT5 := hid hlt'; have HZ5 := hid hz; have HZV5 := hid hzv; have HON := hid hon
      have HR5 := hid (HRv.out.only hon (off_some (by omega)))
      clear hbu' hbq' hlu' heu' hvu' hlt' hz hzv hon hbl
      go_wp2
      go_roundw
      case rel =>
        refine ⟨i + 1, U', upd Q p t, by omega, by go_num, below_only hbel5 ((Only.refl _ _).setCell _ _ _) (by omega) hbel5.size, ?_, HB5.out.setOther (by simp; omega) _, HL5.out, HQ5.out.set p t, HLQ.out.upd ⟨ht0, ht1⟩, HR5.out.only ((Only.refl _ _).setCell _ _ _) (off_some (by omega)), ?_, ?_, ?_, ?_⟩
        · have := HON.out.size
          show _ ≤ _
          simp [World.setCell]; omega
        · intro j hj
          have := HPe.out
          rw [upd_other _ _ _ _ (by omega)]
          exact HQz.out j (by omega)
        · intro j h1 h2
          have hpe := HPe.out
          by_cases hj : j = p + (k + 1)
          · subst hj; exact HZ5.out
          · rw [HE5.out j (by omega)]
            exact HUz.out j (by omega) h2
        · have hpe := HPe.out
          show _ < _
          rw [show lq - (i + 1) = p by omega, HZV5.out]; exact HLT5.out
        · have e1 := win_val (N := lq + k + 1) (by omega) HE5.out HV5.out
          have e2 := vf_upd (Q := Q) (N := lq) (t := t) hp2 (HQz.out p (by have := HPe.out; omega))
          have e3 := HVal.out
          show _ = _
          rw [e1, e2, Int.mul_add, ← e3]
          grind
      case measure => simp [intOf]; omega
    · have hil : i = lq := by omega
      subst hil
      have z3 := HSz.out
      have hUz : vf U (i + k + 1) = vf U (k + 1) := vf_ext (by omega) (fun j h1 h2 => HUz.out j (by omega) h2)
      have hTp := HTp.out
      rw [Nat.sub_self, sh_zero] at hTp
      have hVal := HVal.out
      rw [hUz] at hVal
      have TPE := hid hTp; have VALE := hid hVal
      clear hUz hTp hVal
      have i1 : ((k + 1 : Nat) : Int) ≤ ((i + k + 1 : Nat) : Int) := by omega
      go_wp2_with fail
      go_region_with (first | (go_at_call_of 27 H; refine (trim_res H i i Q w' _ (by repeat (first | exact hbel | refine below_drewN ?_ _ | refine Below.drew ?_)) (by omega) (by exact HBQ.out) (Nat.le_refl _) (by omega) HLQ.out).mono ?_; rintro e w6 ⟨rfl, a1, k1, c1, rfl, hres1, hk1, hv1⟩; have HRes1 := hid hres1; have HVq := hid hv1; clear hres1 hv1) | (go_at_call_of 27 G; refine (trim_res G (i + k + 1) (k + 1) U w' _ (by repeat (first | exact hbel | refine below_drewN ?_ _ | refine Below.drew ?_)) (by omega) (by exact HBU.out) (by omega) (by omega) HLU.out).mono ?_; rintro e w6 ⟨rfl, a2, k2, c2, rfl, hres2, hk2, hv2⟩; have HRes2 := hid hres2; have HVr := hid hv2; clear hres2 hv2) | (go_at_call 47; refine (shrBits_c a2 k2 c2 s U _ (by omega) s0 s1 (by exact HRes2.out.rd) HRes2.out.lm).mono ?_; rintro e w7 ⟨a3, k3, c3, R, r, rfl, hres3, r0, r1, hv3⟩; have HRes3 := hid hres3; have HV3 := hid hv3; clear hres3 hv3))
      all_goals
        go_wp2
        go_ret2
        have B := HRes3.out.bel
        have e3 := HV3.out
        rw [HP.out, HVr.out] at e3
        rw [HP.out] at r1
        obtain ⟨g1, g2⟩ := rest_of PP0.out VV.out.symm VALE.out TPE.out e3 r0 r1
        refine ⟨a1, k1, c1, Q, a3, k3, c3, R, rfl, (HRes1.out.later ⟨B.os, B.tape, B.output, B.size, B.block⟩).mono (by omega), (HRes3.out.ahead (by repeat (first | exact hbel | refine below_drewN ?_ _ | refine Below.drew ?_))).mono (by omega), ?_, vf_nonneg HRes3.out.lm, g2, HRes3.out.apart HRes1.out.und (Nat.le_refl _)⟩
        rw [HVq.out]; exact g1

/-- divMod: for all numbers. -/
theorem divMod_longA (ao bo : Option Addr) (n m ca cb : Nat) (f h : Nat → Int) (w : World) (hn : n ≤ 8796093022208) (hm : m ≤ 8796093022208) (hr : Rd .u64 w ao n f) (hs : Rd .u64 w bo m h) (hf : Lm f n) (hh : Lm h m) (ff : Fm f n) (fh : Fm h m) (h2 : 2 ≤ m) (hle : vf h m ≤ vf f n) :
    Calls Tryd.prog 18 #[.slice ao n ca, .slice bo m cb] w fun e w' => ∃ a1 k1 c1 q a2 k2 c2 r, e = .returned (.tuple #[.slice a1 k1 c1, .slice a2 k2 c2]) ∧ Res n w w' a1 k1 c1 q ∧ Res (n + 1) w w' a2 k2 c2 r ∧ vf f n = vf q k1 * vf h m + vf r k2 ∧ 0 ≤ vf r k2 ∧ vf r k2 < vf h m ∧ Apart a1 a2 := by
  have cc := cmp_c ao bo n m ca cb f h w (by omega) (by omega) hr hs hf hh ff fh
  have CC := hid cc
  have CL := hid (fun q => divLong_cA ao bo n m ca cb f h (w.drewN q) hn hm hr hs hf hh fh h2 hle)
  have HLe := hid hle
  have h1 : ((m : Int) == 1) = false := by simp; omega
  clear cc hr hs hf hh ff fh hle
  go_enter Tryd.func18, Tryd.ntmps18
  go_wp2_with fail
  refine CC.out.mono ?_
  rintro e w1 ⟨⟨q, rfl⟩, c, rfl, ho⟩
  have hc : 0 ≤ c := by have := HLe.out; unfold Ord at ho; omega
  clear ho
  go_wp2_with fail
  refine (CL.out q).mono ?_
  rintro e w2 ⟨a1, k1, c1, q1, a2, k2, c2, r, rfl, hres1, hres2, hv, hr0, hr1, hap⟩
  have HV := hid hv; have HR0 := hid hr0; have HR1 := hid hr1; have HAP := hid hap
  clear hv hr0 hr1 hap
  go_wp2
  go_ret2
  have hb := below_drewN (Below.refl w.heap.size w) q
  exact ⟨a1, k1, c1, q1, a2, k2, c2, r, rfl, hres1.ahead hb, hres2.ahead hb, HV.out, HR0.out, HR1.out, HAP.out⟩

theorem divMod_cA (ao bo : Option Addr) (n m ca cb : Nat) (f h : Nat → Int) (w : World) (hn : n ≤ 8796093022208) (hm : m ≤ 8796093022208) (hr : Rd .u64 w ao n f) (hs : Rd .u64 w bo m h) (hf : Lm f n) (hh : Lm h m) (ff : Fm f n) (fh : Fm h m) (hm0 : 0 < m) :
    Calls Tryd.prog 18 #[.slice ao n ca, .slice bo m cb] w fun e w' => ∃ a1 k1 c1 q a2 k2 c2 r, e = .returned (.tuple #[.slice a1 k1 c1, .slice a2 k2 c2]) ∧ Res n w w' a1 k1 c1 q ∧ Res (n + 1) w w' a2 k2 c2 r ∧ vf f n = vf q k1 * vf h m + vf r k2 ∧ 0 ≤ vf r k2 ∧ vf r k2 < vf h m ∧ Apart a1 a2 := by
  by_cases hsm : m = 1 ∨ vf f n < vf h m
  · exact divMod_smallA ao bo n m ca cb f h w hn hm hr hs hf hh ff fh hsm
  · exact divMod_longA ao bo n m ca cb f h w hn hm hr hs hf hh ff fh (by omega) (by omega)
theorem divMod_c (ao bo : Option Addr) (n m ca cb : Nat) (f h : Nat → Int) (w : World) (hn : n ≤ 8796093022208) (hm : m ≤ 8796093022208) (hr : Rd .u64 w ao n f) (hs : Rd .u64 w bo m h) (hf : Lm f n) (hh : Lm h m) (ff : Fm f n) (fh : Fm h m) (hm0 : 0 < m) :
    Calls Tryd.prog 18 #[.slice ao n ca, .slice bo m cb] w fun e w' => ∃ a1 k1 c1 q a2 k2 c2 r, e = .returned (.tuple #[.slice a1 k1 c1, .slice a2 k2 c2]) ∧ Res n w w' a1 k1 c1 q ∧ Res (n + 1) w w' a2 k2 c2 r ∧ vf f n = vf q k1 * vf h m + vf r k2 ∧ 0 ≤ vf r k2 ∧ vf r k2 < vf h m :=
  (divMod_cA ao bo n m ca cb f h w hn hm hr hs hf hh ff fh hm0).mono fun _ _ ⟨a1, k1, c1, q, a2, k2, c2, r, h1, h2, h3, h4, h5, h6, _⟩ => ⟨a1, k1, c1, q, a2, k2, c2, r, h1, h2, h3, h4, h5, h6⟩
end Go.Proofs.YtclopblgdiahiaaDoor
namespace Go.Proofs.YtclopblgdiahiaaDoor
open Go.RowKit

set_option maxHeartbeats 800000 in
theorem Mul_c (ao bo : Option Addr) (n m ca cb : Nat) (f h : Nat → Int) (w : World) (hn : n ≤ 1099511627776) (hm : m ≤ 1099511627776) (hca : n ≤ ca) (hcb : m ≤ cb) (hcam : ca ≤ 9223372036854775807) (hcbm : cb ≤ 9223372036854775807) (hr : Rd .u64 w ao n f) (hs : Rd .u64 w bo m h) (hf : Lm f n) (hh : Lm h m) :
    Calls Tryd.prog 14 #[.slice ao n ca, .slice bo m cb] w fun e w' => ∃ ao' k cap' f' er, e = .returned (.tuple #[.slice ao' k cap', .int .i64 er]) ∧ Res (n + m) w w' ao' k cap' f' ∧
      (Fm f n ∧ Fm h m ∧ er = 0 ∧ vf f' k = vf f n * vf h m ∨ ¬ (Fm f n ∧ Fm h m) ∧ er = 3 ∧ k = 0) := by
  have HF := (show Hid (Lm f n) from hf)
  have HH := (show Hid (Lm h m) from hh)
  clear hf hh
  cases hfa : fmB f n
  · have c1 := fun w' hr' => form_c ao n ca f w' (by omega) hr'
    rw [hfa] at c1
    have HN := hid (nfm_of hfa)
    have C1 := hid c1
    clear c1 hfa
    go_enter Tryd.func14, Tryd.ntmps14
    go_wp2_with (go_at_call 16; refine (C1.out _ hr).mono ?_; rintro e w' ⟨rfl, rfl⟩)
    go_ret2
    exact ⟨_, _, _, f, _, rfl, Res.nil f (Below.refl _ _), .inr ⟨fun x => HN.out x.1, rfl, rfl⟩⟩
  · have c1 := fun w' hr' => form_c ao n ca f w' (by omega) hr'
    rw [hfa] at c1
    have FA := hid (fm_of hfa)
    have C1 := hid c1
    clear c1 hfa
    cases hfb : fmB h m
    · have c2 := fun w' hr' => form_c bo m cb h w' (by omega) hr'
      rw [hfb] at c2
      have HN := hid (nfm_of hfb)
      have C2 := hid c2
      clear c2 hfb
      go_enter Tryd.func14, Tryd.ntmps14
      go_wp2_with fail
      refine (C1.out _ hr).mono ?_
      rintro e w' ⟨rfl, rfl⟩
      go_wp2_with fail
      refine (C2.out _ hs).mono ?_
      rintro e w' ⟨rfl, rfl⟩
      go_wp2
      go_ret2
      exact ⟨_, _, _, f, _, rfl, Res.nil f (Below.refl _ _), .inr ⟨fun x => HN.out x.2, rfl, rfl⟩⟩
    · have c2 := fun w' hr' => form_c bo m cb h w' (by omega) hr'
      rw [hfb] at c2
      have FB := hid (fm_of hfb)
      have C2 := hid c2
      clear c2 hfb
      go_enter Tryd.func14, Tryd.ntmps14
      go_wp2_with fail
      refine (C1.out _ hr).mono ?_
      rintro e w' ⟨rfl, rfl⟩
      go_wp2_with fail
      refine (C2.out _ hs).mono ?_
      rintro e w' ⟨rfl, rfl⟩
      go_wp2_with fail
      refine (mul_c ao bo n m ca cb f h _ hn hm hca hcb hcam hcbm hr hs HF.out HH.out).mono ?_
      rintro e w' ⟨ao', k, cap', f', rfl, hres, hv⟩
      have HV := hid hv
      clear hv
      go_wp2
      go_ret2
      exact ⟨_, _, _, f', _, rfl, hres, .inl ⟨FA.out, FB.out, rfl, HV.out⟩⟩

/-- What DivMod answers. -/
def DivAns (n m : Nat) (f h : Nat → Int) (k1 k2 : Nat) (q r : Nat → Int) (er : Int) : Prop :=
  Fm f n ∧ Fm h m ∧ 0 < m ∧ er = 0 ∧ vf f n = vf q k1 * vf h m + vf r k2 ∧ 0 ≤ vf r k2 ∧ vf r k2 < vf h m ∨ Fm f n ∧ Fm h m ∧ m = 0 ∧ er = 4 ∧ k1 = 0 ∧ k2 = 0 ∨ ¬ (Fm f n ∧ Fm h m) ∧ er = 3 ∧ k1 = 0 ∧ k2 = 0

set_option maxHeartbeats 800000 in
theorem DivMod_cA (ao bo : Option Addr) (n m ca cb : Nat) (f h : Nat → Int) (w : World) (hn : n ≤ 8796093022208) (hm : m ≤ 8796093022208) (hr : Rd .u64 w ao n f) (hs : Rd .u64 w bo m h) (hf : Lm f n) (hh : Lm h m) :
    Calls Tryd.prog 10 #[.slice ao n ca, .slice bo m cb] w fun e w' => ∃ a1 k1 c1 q a2 k2 c2 r er, e = .returned (.tuple #[.slice a1 k1 c1, .slice a2 k2 c2, .int .i64 er]) ∧ Res n w w' a1 k1 c1 q ∧ Res (n + 1) w w' a2 k2 c2 r ∧ DivAns n m f h k1 k2 q r er ∧ Apart a1 a2 := by
  have HF := (show Hid (Lm f n) from hf)
  have HH := (show Hid (Lm h m) from hh)
  clear hf hh
  cases hfa : fmB f n
  · have c1 := fun w' hr' => form_c ao n ca f w' (by omega) hr'
    rw [hfa] at c1
    have HN := hid (nfm_of hfa)
    have C1 := hid c1
    clear c1 hfa
    go_enter Tryd.func10, Tryd.ntmps10
    go_wp2_with (go_at_call 16; refine (C1.out _ hr).mono ?_; rintro e w' ⟨rfl, rfl⟩)
    go_ret3
    exact ⟨_, _, _, f, _, _, _, f, _, rfl, Res.nil f (Below.refl _ _), Res.nil f (Below.refl _ _), .inr (.inr ⟨fun x => HN.out x.1, rfl, rfl, rfl⟩), apart_none _⟩
  · have c1 := fun w' hr' => form_c ao n ca f w' (by omega) hr'
    rw [hfa] at c1
    have FA := hid (fm_of hfa)
    have C1 := hid c1
    clear c1 hfa
    cases hfb : fmB h m
    · have c2 := fun w' hr' => form_c bo m cb h w' (by omega) hr'
      rw [hfb] at c2
      have HN := hid (nfm_of hfb)
      have C2 := hid c2
      clear c2 hfb
      go_enter Tryd.func10, Tryd.ntmps10
      go_wp2_with fail
      refine (C1.out _ hr).mono ?_
      rintro e w' ⟨rfl, rfl⟩
      go_wp2_with fail
      refine (C2.out _ hs).mono ?_
      rintro e w' ⟨rfl, rfl⟩
      go_wp2
      go_ret3
      exact ⟨_, _, _, f, _, _, _, f, _, rfl, Res.nil f (Below.refl _ _), Res.nil f (Below.refl _ _), .inr (.inr ⟨fun x => HN.out x.2, rfl, rfl, rfl⟩), apart_none _⟩
    · have c2 := fun w' hr' => form_c bo m cb h w' (by omega) hr'
      rw [hfb] at c2
      have FB := hid (fm_of hfb)
      have C2 := hid c2
      clear c2 hfb
      by_cases hm0 : m = 0
      · subst hm0
        go_enter Tryd.func10, Tryd.ntmps10
        go_wp2_with fail
        refine (C1.out _ hr).mono ?_
        rintro e w' ⟨rfl, rfl⟩
        go_wp2_with fail
        refine (C2.out _ hs).mono ?_
        rintro e w' ⟨rfl, rfl⟩
        go_wp2
        go_ret3
        exact ⟨_, _, _, f, _, _, _, f, _, rfl, Res.nil f (Below.refl _ _), Res.nil f (Below.refl _ _), .inr (.inl ⟨FA.out, FB.out, rfl, rfl, rfl, rfl⟩), apart_none _⟩
      · have hmi : ((m : Int) == 0) = false := by simp; omega
        go_enter Tryd.func10, Tryd.ntmps10
        go_wp2_with fail
        refine (C1.out _ hr).mono ?_
        rintro e w' ⟨rfl, rfl⟩
        go_wp2_with fail
        refine (C2.out _ hs).mono ?_
        rintro e w' ⟨rfl, rfl⟩
        go_wp2_with fail
        refine (divMod_cA ao bo n m ca cb f h _ hn hm hr hs HF.out HH.out FA.out FB.out (by omega)).mono ?_
        rintro e w' ⟨a1, k1, c1, q, a2, k2, c2, r, rfl, hres1, hres2, hv, hr0, hr1, hap⟩
        have HV := hid hv; have HR0 := hid hr0; have HR1 := hid hr1; have HAP := hid hap
        clear hv hr0 hr1 hap
        go_wp2
        go_ret3
        exact ⟨_, _, _, q, _, _, _, r, _, rfl, hres1, hres2, .inl ⟨FA.out, FB.out, by omega, rfl, HV.out, HR0.out, HR1.out⟩, HAP.out⟩
theorem DivMod_c (ao bo : Option Addr) (n m ca cb : Nat) (f h : Nat → Int) (w : World) (hn : n ≤ 8796093022208) (hm : m ≤ 8796093022208) (hr : Rd .u64 w ao n f) (hs : Rd .u64 w bo m h) (hf : Lm f n) (hh : Lm h m) :
    Calls Tryd.prog 10 #[.slice ao n ca, .slice bo m cb] w fun e w' => ∃ a1 k1 c1 q a2 k2 c2 r er, e = .returned (.tuple #[.slice a1 k1 c1, .slice a2 k2 c2, .int .i64 er]) ∧ Res n w w' a1 k1 c1 q ∧ Res (n + 1) w w' a2 k2 c2 r ∧ DivAns n m f h k1 k2 q r er :=
  (DivMod_cA ao bo n m ca cb f h w hn hm hr hs hf hh).mono fun _ _ ⟨a1, k1, c1, q, a2, k2, c2, r, er, h1, h2, h3, h4, _⟩ => ⟨a1, k1, c1, q, a2, k2, c2, r, er, h1, h2, h3, h4⟩
end Go.Proofs.YtclopblgdiahiaaDoor
namespace Go.Proofs.YtclopblgdiahiaaDoor
open Go.RowKit

/-- The two numbers that steps lead to. -/
def stU (odd : Bool) (a0 b0 A B : Int) : Int := if odd then b0 * B - a0 * A else a0 * A - b0 * B
def stV (odd : Bool) (a1 b1 A B : Int) : Int := if odd then a1 * A - b1 * B else b1 * B - a1 * A
/-- The same common divisors. -/
def Cd (u v A B : Int) : Prop := ∀ d : Int, (d ∣ u ∧ d ∣ v) ↔ (d ∣ A ∧ d ∣ B)
theorem Cd.refl (A B : Int) : Cd A B A B := fun _ => Iff.rfl
theorem Cd.step {u v A B : Int} (h : Cd u v A B) (q : Int) : Cd v (u - q * v) A B := fun d => by
  rw [← h d]
  constructor
  · rintro ⟨h1, h2⟩
    refine ⟨?_, h1⟩
    have := Int.dvd_add h2 (Int.dvd_mul_of_dvd_right (b := q) h1)
    rwa [Int.sub_add_cancel] at this
  · rintro ⟨h1, h2⟩
    exact ⟨h2, Int.dvd_sub h1 (Int.dvd_mul_of_dvd_right (b := q) h2)⟩
theorem Cd.trans {u v A B C D : Int} (h : Cd u v A B) (k : Cd A B C D) : Cd u v C D := fun d => (h d).trans (k d)
theorem Cd.swap {u v A B : Int} (h : Cd u v A B) : Cd v u A B := fun d => by rw [← h d]; exact And.comm

/-- What some steps lead to, for all numbers that begin with the bits x and y. -/
def Led (odd : Bool) (a0 b0 a1 b1 x y : Int) : Prop := ∀ T ra rb : Int, 0 ≤ ra → ra < T → 0 ≤ rb → rb < T →
  0 ≤ stV odd a1 b1 (x * T + ra) (y * T + rb) ∧ stV odd a1 b1 (x * T + ra) (y * T + rb) < stU odd a0 b0 (x * T + ra) (y * T + rb) ∧ stU odd a0 b0 (x * T + ra) (y * T + rb) ≤ y * T + rb ∧ Cd (stU odd a0 b0 (x * T + ra) (y * T + rb)) (stV odd a1 b1 (x * T + ra) (y * T + rb)) (x * T + ra) (y * T + rb)

/-- The state of the search. -/
structure Lh (odd : Bool) (a b a0 b0 a1 b1 x y : Int) : Prop where
  a_0 : 0 ≤ a
  b_0 : 0 ≤ b
  ua : a = stU odd a0 b0 x y
  ub : b = stV odd a1 b1 x y
  top : x = b1 * a + b0 * b
  p0 : 0 ≤ a0
  p1 : 0 ≤ b0
  p2 : 0 ≤ a1
  p3 : 1 ≤ b1
  st : (odd = false ∧ a0 = 1 ∧ b0 = 0 ∧ a1 = 0 ∧ b1 = 1) ∨ (a0 ≤ b0 ∧ a1 ≤ b1 ∧ 1 ≤ b0 ∧ b1 ≤ b ∧ b < a ∧ Led odd a0 b0 a1 b1 x y)

theorem lh_start {x y : Int} (hx : 0 ≤ x) (hy : 0 ≤ y) : Lh false x y 1 0 0 1 x y :=
  ⟨hx, hy, by simp [stU], by simp [stV], by omega, by omega, by omega, by omega, by omega, .inl ⟨rfl, rfl, rfl, rfl, rfl⟩⟩

theorem stU_next {odd : Bool} {a1 b1 A B : Int} : stU (!odd) a1 b1 A B = stV odd a1 b1 A B := by cases odd <;> simp [stU, stV]
theorem stV_next {odd : Bool} {a0 b0 a1 b1 q A B : Int} : stV (!odd) (a0 + q * a1) (b0 + q * b1) A B = stU odd a0 b0 A B - q * stV odd a1 b1 A B := by
  cases odd <;> simp only [stU, stV, Bool.not_false, Bool.not_true, if_true, if_false, Bool.false_eq_true] <;> grind

/-- A number is near its highest bits. -/
theorem stV_low {odd : Bool} {a1 b1 x y T ra rb : Int} (h0 : 0 ≤ a1) (h1 : a1 ≤ b1) (r0 : 0 ≤ ra) (r1 : ra < T) (s0 : 0 ≤ rb) (s1 : rb < T) :
    stV odd a1 b1 x y * T - b1 * (T - 1) ≤ stV odd a1 b1 (x * T + ra) (y * T + rb) ∧ stV odd a1 b1 (x * T + ra) (y * T + rb) ≤ stV odd a1 b1 x y * T + b1 * (T - 1) := by
  have m1 : 0 ≤ a1 * ra := Int.mul_nonneg h0 r0
  have m2 : 0 ≤ b1 * rb := Int.mul_nonneg (by omega) s0
  have m3 : a1 * ra ≤ b1 * ra := Int.mul_le_mul_of_nonneg_right h1 r0
  have m4 : b1 * ra ≤ b1 * (T - 1) := Int.mul_le_mul_of_nonneg_left (by omega) (by omega)
  have m5 : b1 * rb ≤ b1 * (T - 1) := Int.mul_le_mul_of_nonneg_left (by omega) (by omega)
  cases odd
  · have e : stV false a1 b1 (x * T + ra) (y * T + rb) = stV false a1 b1 x y * T + b1 * rb - a1 * ra := by simp only [stV, Bool.false_eq_true, if_false]; grind
    rw [e]; omega
  · have e : stV true a1 b1 (x * T + ra) (y * T + rb) = stV true a1 b1 x y * T + a1 * ra - b1 * rb := by simp only [stV, if_true]; grind
    rw [e]; omega

/-- One step, where Collins' condition holds. -/
theorem lh_step {odd : Bool} {a b a0 b0 a1 b1 x y : Int} (h : Lh odd a b a0 b0 a1 b1 x y) (hxy : y ≤ x) (hb : 0 < b) (c1 : b0 + a / b * b1 ≤ a - a / b * b) (c2 : b1 + (b0 + a / b * b1) ≤ b - (a - a / b * b)) :
    Lh (!odd) b (a - a / b * b) a1 b1 (a0 + a / b * a1) (b0 + a / b * b1) x y := by
  obtain ⟨q, hq⟩ : ∃ q, a / b = q := ⟨_, rfl⟩
  rw [hq] at c1 c2 ⊢
  have hq0 : 0 ≤ q := by rw [← hq]; exact Int.ediv_nonneg h.a_0 h.b_0
  have hr0 : 0 ≤ a - q * b := by
    have := Int.emod_nonneg a (show b ≠ 0 by omega); have e := Int.mul_ediv_add_emod a b
    rw [hq, Int.mul_comm] at e; omega
  have hb1 : 0 ≤ q * b1 := Int.mul_nonneg hq0 (by have := h.p3; omega)
  have ha1 : 0 ≤ q * a1 := Int.mul_nonneg hq0 h.p2
  have p0 := h.p0; have p1 := h.p1; have p2 := h.p2; have p3 := h.p3
  have hua := h.ua; have hub := h.ub; have htop := h.top
  -- the quotient is not 0 at the first step
  have hmono : a0 + q * a1 ≤ b0 + q * b1 ∧ a1 ≤ b1 := by
    rcases h.st with ⟨rfl, rfl, rfl, rfl, rfl⟩ | ⟨s1, s2, _, _, _, _⟩
    · have ea : a = x := by rw [hua]; simp [stU]
      have eb : b = y := by rw [hub]; simp [stV]
      have : 1 ≤ q := by rw [← hq]; exact (Int.le_ediv_iff_mul_le hb).2 (by omega)
      omega
    · have : q * a1 ≤ q * b1 := Int.mul_le_mul_of_nonneg_left s2 hq0
      omega
  have hb1' : 1 ≤ b0 + q * b1 := by
    rcases h.st with ⟨rfl, rfl, rfl, rfl, rfl⟩ | ⟨s1, s2, s3, _, _, _⟩
    · omega
    · omega
  refine ⟨h.b_0, hr0, ?_, ?_, ?_, p2, by omega, by omega, hb1', .inr ⟨hmono.2, hmono.1, p3, c1, by omega, ?_⟩⟩
  · rw [stU_next]; exact hub
  · rw [stV_next, ← hua, ← hub]
  · rw [htop]; grind
  · intro T ra rb r0 r1 s0 s1
    have hV : stV (!odd) (a0 + q * a1) (b0 + q * b1) x y = a - q * b := by rw [stV_next, ← hua, ← hub]
    have lo := stV_low (odd := !odd) (x := x) (y := y) (by omega) hmono.1 r0 r1 s0 s1
    have lo2 := stV_low (odd := odd) (x := x) (y := y) p2 hmono.2 r0 r1 s0 s1
    rw [hV] at lo
    rw [← hub] at lo2
    have hT : 1 ≤ T := by omega
    have k1 : (b0 + q * b1) * T ≤ (a - q * b) * T := Int.mul_le_mul_of_nonneg_right c1 (by omega)
    have k2 : (b1 + (b0 + q * b1)) * T ≤ (b - (a - q * b)) * T := Int.mul_le_mul_of_nonneg_right c2 (by omega)
    have x1 : (b0 + q * b1) * (T - 1) = (b0 + q * b1) * T - (b0 + q * b1) := by rw [Int.mul_sub, Int.mul_one]
    have x2 : b1 * (T - 1) = b1 * T - b1 := by rw [Int.mul_sub, Int.mul_one]
    have x3 : (b1 + (b0 + q * b1)) * T = b1 * T + (b0 + q * b1) * T := by rw [Int.add_mul]
    have x4 : (b - (a - q * b)) * T = b * T - (a - q * b) * T := by rw [Int.sub_mul]
    rw [stU_next]
    refine ⟨by omega, by omega, ?_, ?_⟩
    · rcases h.st with ⟨rfl, rfl, rfl, rfl, rfl⟩ | ⟨_, _, _, _, _, hl⟩
      · simp [stV]
      · obtain ⟨_, l2, l3, _⟩ := hl T ra rb r0 r1 s0 s1
        omega
    · rw [stV_next]
      refine Cd.step ?_ q
      rcases h.st with ⟨rfl, rfl, rfl, rfl, rfl⟩ | ⟨_, _, _, _, _, hl⟩
      · simp only [stU, stV, Bool.false_eq_true, if_false]
        have e1 : 1 * (x * T + ra) - 0 * (y * T + rb) = x * T + ra := by omega
        have e2 : 1 * (y * T + rb) - 0 * (x * T + ra) = y * T + rb := by omega
        rw [e1, e2]; exact Cd.refl _ _
      · exact (hl T ra rb r0 r1 s0 s1).2.2.2
/-- The new factors are at most x. -/
theorem lh_room {odd : Bool} {a b a0 b0 a1 b1 x y : Int} (h : Lh odd a b a0 b0 a1 b1 x y) (hxy : y ≤ x) (hb : 0 < b) : b0 + a / b * b1 ≤ x ∧ a0 + a / b * a1 ≤ x ∧ 0 ≤ a / b * a1 ∧ 0 ≤ a / b * b1 ∧ (0 < a - a / b * b → b1 + (b0 + a / b * b1) ≤ x) ∧ 1 ≤ b0 + a / b * b1 := by
  obtain ⟨q, hq⟩ : ∃ q, a / b = q := ⟨_, rfl⟩
  rw [hq]
  have hq0 : 0 ≤ q := by rw [← hq]; exact Int.ediv_nonneg h.a_0 h.b_0
  have hr0 : 0 ≤ a - q * b := by
    have := Int.emod_nonneg a (show b ≠ 0 by omega); have e := Int.mul_ediv_add_emod a b
    rw [hq, Int.mul_comm] at e; omega
  have p0 := h.p0; have p1 := h.p1; have p2 := h.p2; have p3 := h.p3
  have hb1 : 0 ≤ q * b1 := Int.mul_nonneg hq0 (by omega)
  have ha1 : 0 ≤ q * a1 := Int.mul_nonneg hq0 h.p2
  have e : x = (b0 + q * b1) * b + b1 * (a - q * b) := by rw [h.top]; grind
  have f1 : (b0 + q * b1) * 1 ≤ (b0 + q * b1) * b := Int.mul_le_mul_of_nonneg_left (by omega) (by omega)
  have f2 : 0 ≤ b1 * (a - q * b) := Int.mul_nonneg (by omega) hr0
  refine ⟨by omega, ?_, ha1, hb1, fun hp => ?_, ?_⟩
  · rcases h.st with ⟨rfl, rfl, rfl, rfl, rfl⟩ | ⟨s1, s2, _, _, _, _⟩
    · have eb : b = y := by rw [h.ub]; simp [stV]
      omega
    · have : q * a1 ≤ q * b1 := Int.mul_le_mul_of_nonneg_left s2 hq0
      omega
  · have f3 : b1 * 1 ≤ b1 * (a - q * b) := Int.mul_le_mul_of_nonneg_left (by omega) (by omega)
    omega
  · rcases h.st with ⟨rfl, rfl, rfl, rfl, rfl⟩ | ⟨s1, s2, s3, _, _, _⟩
    · have ea : a = x := by rw [h.ua]; simp [stU]
      have eb : b = y := by rw [h.ub]; simp [stV]
      have : 1 ≤ q := by rw [← hq]; exact (Int.le_ediv_iff_mul_le hb).2 (by omega)
      omega
    · omega
/-- Some steps: their factors have room, and what they lead to. -/
theorem lh_some {odd : Bool} {a b a0 b0 a1 b1 x y : Int} (h : Lh odd a b a0 b0 a1 b1 x y) (hb0 : b0 ≠ 0) : Led odd a0 b0 a1 b1 x y ∧ a0 + 2 ≤ x ∧ b0 + 2 ≤ x ∧ a1 + 2 ≤ x ∧ b1 + 2 ≤ x := by
  rcases h.st with ⟨_, _, h0, _⟩ | ⟨s1, s2, s3, s4, s5, hl⟩
  · exact absurd h0 hb0
  · have p3 := h.p3; have p1 := h.p1
    have e := h.top
    have m1 : b1 * 2 ≤ b1 * a := Int.mul_le_mul_of_nonneg_left (by omega) (by omega)
    have m2 : b0 * 1 ≤ b0 * b := Int.mul_le_mul_of_nonneg_left (by omega) (by omega)
    exact ⟨hl, by omega, by omega, by omega, by omega⟩
theorem lh_none {odd : Bool} {a b a0 b0 a1 b1 x y : Int} (h : Lh odd a b a0 b0 a1 b1 x y) : 0 ≤ a0 ∧ 0 ≤ b0 ∧ 0 ≤ a1 ∧ 0 ≤ b1 := ⟨h.p0, h.p1, h.p2, by have := h.p3; omega⟩
end Go.Proofs.YtclopblgdiahiaaDoor
namespace Go.Proofs.YtclopblgdiahiaaDoor
open Go.RowKit

/-- Block g holds the five fields of steps. -/
def SB (w : World) (g : Nat) (a0 b0 a1 b1 : Int) (odd : Bool) : Prop := w.heap[g]? = some (.cells #[.int .u64 a0, .int .u64 b0, .int .u64 a1, .int .u64 b1, .bool odd] 78 (0, 0))
theorem SB.cells {w g a0 b0 a1 b1 odd} (h : SB w g a0 b0 a1 b1 odd) : w.cell? ⟨g, 0, none⟩ = some (.int .u64 a0) ∧ w.cell? ⟨g, 1, none⟩ = some (.int .u64 b0) ∧ w.cell? ⟨g, 2, none⟩ = some (.int .u64 a1) ∧ w.cell? ⟨g, 3, none⟩ = some (.int .u64 b1) ∧ w.cell? ⟨g, 4, none⟩ = some (.bool odd) := by
  unfold SB at h
  simp [World.cell?, h]
theorem SB.frozen {w g a0 b0 a1 b1 odd} (h : SB w g a0 b0 a1 b1 odd) (j : Nat) : w.frozen? ⟨g, j, none⟩ = false := by
  unfold SB at h
  simp [World.frozen?, h]
theorem SB.lt {w g a0 b0 a1 b1 odd} (h : SB w g a0 b0 a1 b1 odd) : g < w.heap.size := (Array.getElem?_eq_some_iff.1 h).1
theorem SB.below {w w' g a0 b0 a1 b1 odd} (h : SB w g a0 b0 a1 b1 odd) (hb : Below w.heap.size w w') : SB w' g a0 b0 a1 b1 odd := (hb.block g h.lt).trans h

theorem SB.set5 {w g a0 b0 a1 b1 odd} (h : SB w g a0 b0 a1 b1 odd) (c0 d0 c1 d1 : Int) (o : Bool) : SB (((((w.setCell ⟨g, 0, none⟩ (.int .u64 c0)).setCell ⟨g, 1, none⟩ (.int .u64 d0)).setCell ⟨g, 2, none⟩ (.int .u64 c1)).setCell ⟨g, 3, none⟩ (.int .u64 d1)).setCell ⟨g, 4, none⟩ (.bool o)) g c0 d0 c1 d1 o := by
  unfold SB at h ⊢
  simp [World.setCell, Array.getElem?_modify, h]
theorem only_set5 (w : World) (g : Nat) (u0 u1 u2 u3 u4 : Value) : Only g w (((((w.setCell ⟨g, 0, none⟩ u0).setCell ⟨g, 1, none⟩ u1).setCell ⟨g, 2, none⟩ u2).setCell ⟨g, 3, none⟩ u3).setCell ⟨g, 4, none⟩ u4) :=
  (((((Only.refl _ _).setCell _ _ _).setCell _ _ _).setCell _ _ _).setCell _ _ _).setCell _ _ _
/-- What findSteps answers. -/
def FsAns (w w' : World) (e : Ending) (x y : Int) : Prop := Below w.heap.size w w' ∧ ∃ a0 b0 a1 b1 odd a b, e = .returned (.agg #[.int .u64 a0, .int .u64 b0, .int .u64 a1, .int .u64 b1, .bool odd]) ∧ Lh odd a b a0 b0 a1 b1 x y ∧ b0 ≤ x ∧ a0 ≤ x ∧ a1 ≤ x ∧ b1 ≤ x

set_option maxRecDepth 100000 in
set_option maxHeartbeats 4000000 in
theorem findSteps_c (x y : Int) (w : World) (y0 : 0 ≤ y) (hyx : y ≤ x) (x0 : 1 ≤ x) (x1 : x < 18446744073709551616) :
    Calls Tryd.prog 61 #[.int .u64 x, .int .u64 y] w fun e w' => FsAns w w' e x y := by
  go_enter Tryd.func61, Tryd.ntmps61
  go_wp2
  go_loopw [0, 1] (fun c d wr => ∃ (a b a0 b0 a1 b1 : Int) (odd : Bool), c = .int .u64 a ∧ d = .int .u64 b ∧ 0 ≤ a ∧ a ≤ x ∧ 0 ≤ b ∧ b ≤ x ∧ Below w.heap.size w wr ∧ Hid (SB wr w.heap.size 0 0 0 0 false) ∧ Hid (SB wr (w.heap.size + 1) a0 b0 a1 b1 odd) ∧ Hid (Lh odd a b a0 b0 a1 b1 x y) ∧ Hid (b0 ≤ x ∧ a0 ≤ x ∧ a1 ≤ x ∧ b1 ≤ x)) (fun _ d _ => (intOf d).toNat)
  case atStart =>
    refine ⟨x, y, 1, 0, 0, 1, false, rfl, rfl, by omega, by omega, by omega, by omega, ((Below.refl _ _).alloc (Nat.le_refl _) _).alloc (by simp) _, ?_, ?_, lh_start (by omega) y0, ?_⟩
    · exact Below.heap_alloc _ _ _ (by simp) |>.trans (heap_alloc_new w _)
    · show _ = _
      have := heap_alloc_new (w.alloc (.cells #[.int .u64 0, .int .u64 0, .int .u64 0, .int .u64 0, .bool false] 78)) (.cells #[.int .u64 1, .int .u64 0, .int .u64 0, .int .u64 1, .bool false] 78)
      simpa using this
    · show _ ∧ _ ∧ _ ∧ _
      omega
  case round =>
    obtain ⟨a, b, a0, b0, a1, b1, odd, rfl, rfl, ha0, hax, hb0, hbx, hbel, HG, HS, HL, HX⟩ := hrel
    obtain ⟨s0, s1, s2, s3, s4⟩ := HS.out.cells
    obtain ⟨r0, r1, r2, r3, r4⟩ := HG.out.cells
    have fz := HS.out.frozen
    have fr := HG.out.frozen
    have alS : ∀ o, SB (wr.alloc o) (w.heap.size + 1) a0 b0 a1 b1 odd := fun o => HS.out.below ((Below.refl _ _).alloc (Nat.le_refl _) o)
    have alG : ∀ o, SB (wr.alloc o) w.heap.size 0 0 0 0 false := fun o => HG.out.below ((Below.refl _ _).alloc (Nat.le_refl _) o)
    have sa0 := fun o => (alS o).cells.1
    have sa1 := fun o => (alS o).cells.2.1
    have sa2 := fun o => (alS o).cells.2.2.1
    have sa3 := fun o => (alS o).cells.2.2.2.1
    have sa4 := fun o => (alS o).cells.2.2.2.2
    have ga0 := fun o => (alG o).cells.1
    have ga1 := fun o => (alG o).cells.2.1
    have ga2 := fun o => (alG o).cells.2.2.1
    have ga3 := fun o => (alG o).cells.2.2.2.1
    have ga4 := fun o => (alG o).cells.2.2.2.2
    have fza := fun o => (alS o).frozen
    have fra := fun o => (alG o).frozen
    have ltS := HS.out.lt
    clear alS alG
    by_cases hbz : b = 0
    · subst hbz
      go_wp2
      obtain ⟨t0, t1, t2, t3, t4⟩ := (HG.out.set5 a0 b0 a1 b1 odd).cells
      refine bodyPost_ret (v := .agg #[.int .u64 a0, .int .u64 b0, .int .u64 a1, .int .u64 b1, .bool odd]) (by simp [results, Tryd.results61, go_sem, t0, t1, t2, t3, t4]) rfl ⟨?_, a0, b0, a1, b1, odd, _, _, rfl, HL.out, HX.out⟩
      exact below_only hbel (only_set5 _ _ _ _ _ _ _) (Nat.le_refl _) hbel.size
    · have hbp : 0 < b := by omega
      have hbb : (b != 0) = true := by simp [hbz]
      obtain ⟨m1, m2, m3, m4, m5, m6⟩ := lh_room HL.out hyx hbp
      have cstep := lh_step HL.out hyx hbp
      obtain ⟨q, hq⟩ : ∃ q, a / b = q := ⟨_, rfl⟩
      have hq0 : 0 ≤ q := by rw [← hq]; exact Int.ediv_nonneg ha0 hb0
      have hpr : 0 ≤ a - q * b ∧ a - q * b < b ∧ 0 ≤ q * b := by
        have e1 := Int.emod_nonneg a hbz; have e2 := Int.emod_lt_of_pos a hbp; have e := Int.mul_ediv_add_emod a b
        rw [hq, Int.mul_comm] at e
        exact ⟨by omega, by omega, Int.mul_nonneg hq0 hb0⟩
      rw [hq] at m1 m2 m3 m4 m5 m6 cstep
      obtain ⟨p, hp⟩ : ∃ p, q * b = p := ⟨_, rfl⟩
      obtain ⟨qa, hqa⟩ : ∃ p, q * a1 = p := ⟨_, rfl⟩
      obtain ⟨qb, hqb⟩ : ∃ p, q * b1 = p := ⟨_, rfl⟩
      rw [hp] at hpr m5 cstep
      rw [hqa] at m2 m3 cstep
      rw [hqb] at m1 m4 m5 m6 cstep
      obtain ⟨p1, p2, p3⟩ := hpr
      obtain ⟨l0, l1, l2, l3⟩ := (⟨HL.out.p0, HL.out.p1, HL.out.p2, HL.out.p3⟩ : 0 ≤ a0 ∧ 0 ≤ b0 ∧ 0 ≤ a1 ∧ 1 ≤ b1)
      obtain ⟨z1, z2, z3, z4⟩ := HX.out
      have CS := hid cstep
      have M5 := hid m5
      clear cstep m5
      by_cases c1 : a - p < b0 + qb
      · have c1b : decide (a - p < b0 + qb) = true := by simp [c1]
        go_wp2
        obtain ⟨t0, t1, t2, t3, t4⟩ := ((HG.out.below ((Below.refl _ _).alloc (Nat.le_refl _) (.cells #[.int .u64 a1, .int .u64 b1, .int .u64 (a0 + qa), .int .u64 (b0 + qb), .bool !odd] 78))).set5 a0 b0 a1 b1 odd).cells
        refine bodyPost_ret (v := .agg #[.int .u64 a0, .int .u64 b0, .int .u64 a1, .int .u64 b1, .bool odd]) (by simp [results, Tryd.results61, go_sem, t0, t1, t2, t3, t4]) rfl ⟨?_, a0, b0, a1, b1, odd, _, _, rfl, HL.out, HX.out⟩
        exact below_only (hbel.alloc hbel.size _) (only_set5 _ _ _ _ _ _ _) (Nat.le_refl _) (by have := hbel.size; simp; omega)
      · have c1b : decide (a - p < b0 + qb) = false := by simp; omega
        have hm5 := M5.out (by omega)
        by_cases c2 : b - (a - p) < b1 + (b0 + qb)
        · have c2b : decide (b - (a - p) < b1 + (b0 + qb)) = true := by simp [c2]
          go_wp2
          obtain ⟨t0, t1, t2, t3, t4⟩ := ((HG.out.below ((Below.refl _ _).alloc (Nat.le_refl _) (.cells #[.int .u64 a1, .int .u64 b1, .int .u64 (a0 + qa), .int .u64 (b0 + qb), .bool !odd] 78))).set5 a0 b0 a1 b1 odd).cells
          refine bodyPost_ret (v := .agg #[.int .u64 a0, .int .u64 b0, .int .u64 a1, .int .u64 b1, .bool odd]) (by simp [results, Tryd.results61, go_sem, t0, t1, t2, t3, t4]) rfl ⟨?_, a0, b0, a1, b1, odd, _, _, rfl, HL.out, HX.out⟩
          exact below_only (hbel.alloc hbel.size _) (only_set5 _ _ _ _ _ _ _) (Nat.le_refl _) (by have := hbel.size; simp; omega)
        · have c2b : decide (b - (a - p) < b1 + (b0 + qb)) = false := by simp; omega
          have NX := hid (CS.out (by omega) (by omega))
          go_wp2
          go_region
          all_goals
            go_wp2
            go_roundw
            case rel =>
              have o1 : Only (w.heap.size + 1) wr _ := only_set5 wr (w.heap.size + 1) (.int .u64 a1) (.int .u64 b1) (.int .u64 (a0 + qa)) (.int .u64 (b0 + qb)) (.bool !odd)
              have b1' := below_only hbel o1 (by omega) hbel.size
              refine ⟨b, a - p, a1, b1, a0 + qa, b0 + qb, !odd, rfl, rfl, by omega, by omega, by omega, by omega, (b1'.alloc b1'.size _).drew, ?_, ?_, NX.out, ?_⟩
              · exact (show SB _ _ _ _ _ _ _ from (o1.block _ HG.out.lt (by omega)).trans HG.out).below ((Below.refl _ _).alloc (Nat.le_refl _) _).drew
              · exact (HS.out.set5 a1 b1 (a0 + qa) (b0 + qb) (!odd)).below ((Below.refl _ _).alloc (Nat.le_refl _) _).drew
              · show _ ∧ _ ∧ _ ∧ _
                omega
            case measure => simp [intOf]; omega
end Go.Proofs.YtclopblgdiahiaaDoor
namespace Go.Proofs.YtclopblgdiahiaaDoor
open Go.RowKit

/-- The bits of two limbs, put together. -/
theorem bits_two (h l s : Int) (h0 : 0 ≤ h) (l0 : 0 ≤ l) (l1 : l < 18446744073709551616) (s0 : 0 ≤ s) (s1 : s ≤ 63) (hh : h < 2 ^ (64 - s).toNat) :
    ∃ H D Z, IntKind.u64.wrap (h * 2 ^ s.toNat) = H ∧ 0 ≤ H ∧ H < 18446744073709551616 ∧ l / 2 ^ (64 - s).toNat = D ∧ 0 ≤ D ∧ D < 18446744073709551616 ∧ bits BinOp.or .u64 H D = Z ∧ 0 ≤ Z ∧ Z < 18446744073709551616 ∧ Hid (h * 18446744073709551616 + l = Z * 2 ^ (64 - s).toNat + l % 2 ^ (64 - s).toNat) := by
  have hPQ : (2 : Int) ^ s.toNat * 2 ^ (64 - s).toNat = 18446744073709551616 := by rw [← Int.pow_add, show s.toNat + (64 - s).toNat = 64 by omega]; rfl
  have p0 : (0 : Int) < 2 ^ s.toNat := Int.pow_pos (by decide)
  have q0 : (0 : Int) < 2 ^ (64 - s).toNat := Int.pow_pos (by decide)
  obtain ⟨P, hP⟩ : ∃ P : Int, 2 ^ s.toNat = P := ⟨_, rfl⟩
  obtain ⟨Q, hQ⟩ : ∃ Q : Int, 2 ^ (64 - s).toNat = Q := ⟨_, rfl⟩
  have d1 : l / Q < P := Int.ediv_lt_of_lt_mul (by omega) (by rw [← hP, ← hQ, hPQ]; exact l1)
  have d0 : 0 ≤ l / Q := Int.ediv_nonneg l0 (by omega)
  have h1 : (h + 1) * P ≤ Q * P := Int.mul_le_mul_of_nonneg_right (by omega) (by omega)
  have hPQ' : Q * P = 18446744073709551616 := by rw [← hP, ← hQ, Int.mul_comm]; exact hPQ
  have hP0 : 0 ≤ h * P := Int.mul_nonneg h0 (by omega)
  rw [Int.add_mul, Int.one_mul, hPQ'] at h1
  have hPle : P ≤ 18446744073709551616 := by omega
  have hw : IntKind.u64.wrap (h * 2 ^ s.toNat) = h * P := by rw [hP, IntKind.wrap_u64]; omega
  refine ⟨_, _, h * P + l / Q, hw, hP0, by omega, rfl, by rw [hQ]; exact d0, by rw [hQ]; omega, ?_, ?_, ?_, ?_⟩
  · rw [hQ]
    exact bits_join .u64 64 (by decide) wraps_u64 s.toNat _ _ hP0 (by rw [hP]; exact Int.mul_emod_left _ _) (by omega) d0 (by rw [hP]; exact d1) (by omega)
  · omega
  · omega
  · show _ = _
    rw [hQ]
    have e := Int.mul_ediv_add_emod l Q
    rw [Int.add_mul, Int.mul_assoc, Int.mul_comm P Q, hPQ', Int.mul_comm (l / Q) Q]
    omega

set_option maxRecDepth 100000 in
set_option maxHeartbeats 1000000 in
theorem bitsFrom_c (ao : Option Addr) (n cap k : Nat) (z : Int) (f : Nat → Int) (s : Int) (w : World) (hn : n ≤ 140737488355328) (hk : k + 1 ≤ 140737488355328) (hz : z = (k : Int) + 1) (hr : Rd .u64 w ao n f) (hf : Lm f n) (s0 : 0 ≤ s) (s1 : s ≤ 63) (hh : ext f n (k + 1) < 2 ^ (64 - s).toNat) :
    ∃ Z, 0 ≤ Z ∧ Z < 18446744073709551616 ∧ ext f n (k + 1) * 18446744073709551616 + ext f n k = Z * 2 ^ (64 - s).toNat + ext f n k % 2 ^ (64 - s).toNat ∧ Calls Tryd.prog 76 #[.slice ao n cap, .int .i64 z, .int .i64 s] w fun e w' => e = .returned (.int .u64 Z) ∧ ∃ q, w' = w.drewN q := by
  have lm : ∀ j, 0 ≤ ext f n j ∧ ext f n j < 18446744073709551616 := fun j => by
    by_cases hj : j < n
    · rw [ext_in _ _ _ hj]; exact hf j hj
    · rw [ext_out _ _ _ (by omega)]; omega
  have C1 := hid (fun W (h : Rd .u64 W ao n f) => limbAt_c ao n cap f (k + 1) W hn hk h)
  have C2 := hid (fun W (h : Rd .u64 W ao n f) => limbAt_c ao n cap f k W hn (by omega) h)
  obtain ⟨x, hx⟩ : ∃ x, ext f n (k + 1) = x := ⟨_, rfl⟩
  obtain ⟨y, hy⟩ : ∃ y, ext f n k = y := ⟨_, rfl⟩
  have lx := lm (k + 1); have ly := lm k
  rw [hx] at lx hh C1 ⊢
  rw [hy] at ly C2 ⊢
  obtain ⟨H, D, Z, e1, H0, H1, e2, D0, D1, e3, Z0, Z1, HZ⟩ := bits_two x y s lx.1 ly.1 ly.2 s0 s1 hh
  refine ⟨Z, Z0, Z1, HZ.out, ?_⟩
  have HR := hid hr
  obtain ⟨x0, x1⟩ := lx
  obtain ⟨y0, y1⟩ := ly
  have z0 : 1 ≤ z := by omega
  have z1 : z ≤ 140737488355328 := by omega
  have C3 := C2
  rw [show ((k + 1 : Nat) : Int) = z by omega] at C1
  rw [show ((k : Nat) : Int) = z - 1 by omega] at C3
  have C4 := C3
  rw [show z - 1 = IntKind.i64.wrap (z - 1) by rw [IntKind.wrap_i64]; omega] at C4
  have D1 := hid (fun q => (C1.out (w.drewN q) (show Rd .u64 (w.drewN q) ao n f from hr)).mono (R' := fun e w'' => e = .returned (.int .u64 x) ∧ ∃ n, w'' = w.drewN n) (fun _ _ h => ⟨h.1, _, h.2⟩))
  have D3 := hid (fun q => (C3.out (w.drewN q) (show Rd .u64 (w.drewN q) ao n f from hr)).mono (R' := fun e w'' => e = .returned (.int .u64 y) ∧ ∃ n, w'' = w.drewN n) (fun _ _ h => ⟨h.1, _, h.2⟩))
  have D4 := hid (fun q => (C4.out (w.drewN q) (show Rd .u64 (w.drewN q) ao n f from hr)).mono (R' := fun e w'' => e = .returned (.int .u64 y) ∧ ∃ n, w'' = w.drewN n) (fun _ _ h => ⟨h.1, _, h.2⟩))
  clear hr hf lm hx hy hh hz C2 hk C1 C3 C4
  go_enter Tryd.func76, Tryd.ntmps76
  go_wp2
  go_quiet (first | (go_at_call 51; with_reducible exact D1.out _) | (go_at_call 51; with_reducible exact D3.out _) | (go_at_call 51; with_reducible exact D4.out _))
  go_wp2
  go_ret
  exact ⟨rfl, _, rfl⟩
end Go.Proofs.YtclopblgdiahiaaDoor
namespace Go.Proofs.YtclopblgdiahiaaDoor
open Go.RowKit

theorem hb_num {g : Nat → Int} {k : Nat} {Z Q : Int} (hl : Lm g (k + 2)) (q0 : 0 < Q) (he : g (k + 1) * 18446744073709551616 + g k = Z * Q + g k % Q) :
    vf g (k + 2) = Z * (Q * pw k) + (g k % Q * pw k + vf g k) ∧ 0 ≤ g k % Q * pw k + vf g k ∧ g k % Q * pw k + vf g k < Q * pw k := by
  have r0 := Int.emod_nonneg (g k) (show Q ≠ 0 by omega)
  have r1 := Int.emod_lt_of_pos (g k) q0
  have v0 := vf_nonneg (hl.mono (m := k) (by omega))
  have v1 := vf_lt (hl.mono (m := k) (by omega))
  have p0 := pw_pos k
  have m0 : 0 ≤ g k % Q * pw k := Int.mul_nonneg r0 (by omega)
  have m1 : (g k % Q + 1) * pw k ≤ Q * pw k := Int.mul_le_mul_of_nonneg_right (by omega) (by omega)
  rw [Int.add_mul, Int.one_mul] at m1
  refine ⟨?_, by omega, by omega⟩
  rw [top2, he]; grind
theorem top_le {f g : Nat → Int} {k : Nat} (hf : Lm f (k + 1)) (hg : Lm g (k + 1)) (h : vf g (k + 1) ≤ vf f (k + 1)) : g k ≤ f k := by
  apply Int.le_of_lt_add_one
  have a1 := vf_lt (hf.mono (m := k) (by omega)); have a2 := vf_nonneg (hg.mono (m := k) (by omega))
  rw [vf_succ, vf_succ] at h
  have : g k * pw k < (f k + 1) * pw k := by rw [Int.add_mul, Int.one_mul]; omega
  exact Int.lt_of_mul_lt_mul_right this (Int.le_of_lt (pw_pos k))

/-- The highest bits of two numbers, at the same places. -/
def Top2 (A B x y : Int) : Prop := 9223372036854775808 ≤ x ∧ x < 18446744073709551616 ∧ 0 ≤ y ∧ y ≤ x ∧ ∃ T ra rb, A = x * T + ra ∧ B = y * T + rb ∧ 0 ≤ ra ∧ ra < T ∧ 0 ≤ rb ∧ rb < T

set_option maxRecDepth 100000 in
set_option maxHeartbeats 2000000 in
theorem highBits_c (ao bo : Option Addr) (n m ca cb : Nat) (f h : Nat → Int) (w : World) (hn : n ≤ 8796093022208) (hn2 : 2 ≤ n) (hmn : m ≤ n) (hr : Rd .u64 w ao n f) (hs : Rd .u64 w bo m h) (hf : Lm f n) (hh : Lm h m) (ff : Fm f n) (hle : vf h m ≤ vf f n) :
    ∃ x y, Top2 (vf f n) (vf h m) x y ∧ Calls Tryd.prog 62 #[.slice ao n ca, .slice bo m cb] w fun e w' => e = .returned (.tuple #[.int .u64 x, .int .u64 y]) ∧ ∃ q, w' = w.drewN q := by
  obtain ⟨k, rfl⟩ : ∃ k, n = k + 2 := ⟨n - 2, by omega⟩
  obtain ⟨b, ob, rfl⟩ := hr.at (by omega)
  obtain ⟨y, hy⟩ : ∃ y, f (k + 1) = y := ⟨_, rfl⟩
  have hcell : w.cell? ⟨b, ob + (k + 1), none⟩ = some (.int .u64 y) := by rw [← hy]; exact hr.cell (by omega)
  have hy01 := hf (k + 1) (by omega)
  have hyne : y ≠ 0 := by rw [← hy]; rcases ff with h | h; omega; simpa using h
  rw [hy] at hy01
  obtain ⟨y, rfl⟩ := Int.eq_ofNat_of_zero_le hy01.1
  obtain ⟨s, s0, s1, hse, hP1, hP2⟩ := lead_nums y (by omega) (by omega)
  have cl := Tryd.bits_LeadingZeros64 (y : Int) w (by omega) (by omega)
  rw [Int.toNat_natCast, hse] at cl
  have hPQ : (2 : Int) ^ s.toNat * 2 ^ (64 - s).toNat = 18446744073709551616 := by rw [← Int.pow_add, show s.toNat + (64 - s).toNat = 64 by omega]; rfl
  obtain ⟨P, hP⟩ : ∃ P : Int, 2 ^ s.toNat = P := ⟨_, rfl⟩
  obtain ⟨Q, hQ⟩ : ∃ Q : Int, 2 ^ (64 - s).toNat = Q := ⟨_, rfl⟩
  have p0 : 0 < P := by rw [← hP]; exact Int.pow_pos (by decide)
  have q0 : 0 < Q := by rw [← hQ]; exact Int.pow_pos (by decide)
  rw [hP] at hP1 hP2 hPQ
  rw [hQ] at hPQ
  have hyQ : (y : Int) < Q := by
    have : ((y : Int) + 1) * P ≤ Q * P := by rw [Int.mul_comm Q P, hPQ]; exact hP2
    have := Int.le_of_mul_le_mul_right this p0
    omega
  have lmx : Lm (ext h m) (k + 2) := fun j hj => by
    by_cases hjm : j < m
    · rw [ext_in _ _ _ hjm]; exact hh j hjm
    · rw [ext_out _ _ _ (by omega)]; omega
  have hvh : vf (ext h m) (k + 2) = vf h m := vf_ext_list _ _ _ hmn
  have htop := top_le hf lmx (by rw [hvh]; exact hle)
  rw [hy] at htop
  have e1 : ext f (k + 2) (k + 1) = f (k + 1) := ext_in _ _ _ (by omega)
  have e0 : ext f (k + 2) k = f k := ext_in _ _ _ (by omega)
  obtain ⟨z, hz⟩ : ∃ z, (k : Int) + 2 - 1 = z := ⟨_, rfl⟩
  have hzn : z.toNat = k + 1 := by omega
  have hz0 : 0 ≤ z := by omega
  have hz1 : z < (k : Int) + 2 := by omega
  obtain ⟨X, X0, X1, hX, cX⟩ := bitsFrom_c (some ⟨b, ob, none⟩) (k + 2) ca k z f s w (by omega) (by omega) (by omega) hr hf s0 s1 (by rw [e1, hy, hQ]; exact hyQ)
  have cY0 := fun q => bitsFrom_c bo m cb k z h s (w.drewN q) (by omega) (by omega) (by omega) (show Rd .u64 (w.drewN q) bo m h from hs) hh s0 s1 (by rw [hQ]; omega)
  rw [e1, e0, hQ] at hX
  obtain ⟨Y, Y0, Y1, hY, _⟩ := cY0 0
  rw [hQ] at hY
  have cY : ∀ q, Calls Tryd.prog 76 #[.slice bo m cb, .int .i64 z, .int .i64 s] (w.drewN q) fun e w' => e = .returned (.int .u64 Y) ∧ ∃ n, w' = (w.drewN q).drewN n := fun q => by
    obtain ⟨Y', a1, a2, a3, a4⟩ := cY0 q
    rw [hQ] at a3
    have : Y' = Y := by
      have e : Y' * Q = Y * Q := by omega
      exact Int.eq_of_mul_eq_mul_right (by omega) e
    rw [this] at a4
    exact a4
  obtain ⟨A1, A2, A3⟩ := hb_num hf q0 hX
  obtain ⟨B1, B2, B3⟩ := hb_num lmx q0 hY
  rw [hvh] at B1
  have hXlow : 9223372036854775808 ≤ X := by
    have m1 : 9223372036854775808 * Q ≤ (y : Int) * P * Q := Int.mul_le_mul_of_nonneg_right hP1 (by omega)
    rw [Int.mul_assoc, hPQ] at m1
    have r1 := Int.emod_lt_of_pos (f k) q0
    have fk := hf k (by omega)
    have : 9223372036854775808 * Q < (X + 1) * Q := by rw [Int.add_mul, Int.one_mul, hy] at *; omega
    have := Int.lt_of_mul_lt_mul_right this (by omega)
    omega
  have hYX : Y ≤ X := by
    have hT : 0 < Q * pw k := Int.mul_pos q0 (pw_pos k)
    have : Y * (Q * pw k) < (X + 1) * (Q * pw k) := by rw [Int.add_mul, Int.one_mul]; omega
    have := Int.lt_of_mul_lt_mul_right this (by omega)
    omega
  refine ⟨X, Y, ⟨hXlow, X1, Y0, hYX, Q * pw k, _, _, A1, B1, A2, A3, B2, B3⟩, ?_⟩
  have CL := hid cl; have CX := hid cX; have CY := hid cY
  clear cl cX cY cY0 hf hh hr hs ff hle hP1 hP2 hPQ hX hY A1 A2 A3 B1 B2 B3 hvh htop lmx e1 e0 hy hse hP hQ
  go_enter Tryd.func62, Tryd.ntmps62
  go_wp2_with fail
  refine CL.out.mono ?_
  rintro e w' ⟨rfl, rfl⟩
  go_wp2_with fail
  refine CX.out.mono ?_
  rintro e w' ⟨rfl, q1, rfl⟩
  go_wp2_with fail
  refine (CY.out _).mono ?_
  rintro e w' ⟨rfl, q2, rfl⟩
  go_wp2
  go_ret2
  exact ⟨rfl, _, by (repeat rw [World.drewN_drewN]) <;> rfl⟩
end Go.Proofs.YtclopblgdiahiaaDoor
namespace Go.Proofs.YtclopblgdiahiaaDoor
open Go.RowKit

/-- One limb of both numbers. -/
theorem app_step {p' p q : Nat → Int} {i : Nat} {ca cb c d x y h1 l1 h2 l2 bo v : Int} (hv : vf p' i + (ca - cb) * pw i = c * vf p i - d * vf q i) (hx : p i = x) (hy : q i = y) (e1 : x * c + ca = h1 * 18446744073709551616 + l1) (e2 : y * d + cb = h2 * 18446744073709551616 + l2) (ev : v = l1 - l2 + bo * 18446744073709551616) :
    vf (upd p' i v) (i + 1) + (h1 - (h2 + bo)) * pw (i + 1) = c * vf p (i + 1) - d * vf q (i + 1) := by
  have e : vf (upd p' i v) i = vf p' i := vf_congr (fun j hj => upd_other _ _ _ _ (by omega))
  rw [vf_succ, vf_succ, vf_succ, e, upd_same, pw_succ, hx, hy, ev]
  grind
/-- A number below pw m, told by what it is but for multiples of pw m. -/
theorem mod_one {u v p t s : Int} (h : u + t * p = v + s * p) (u0 : 0 ≤ u) (u1 : u < p) (v0 : 0 ≤ v) (v1 : v < p) : u = v := by
  have e : u - v = (s - t) * p := by rw [Int.sub_mul]; omega
  have hz : s - t = 0 := by
    rcases Int.lt_trichotomy (s - t) 0 with h | h | h
    · have : (s - t) * p ≤ (-1) * p := Int.mul_le_mul_of_nonneg_right (by omega) (by omega)
      omega
    · exact h
    · have : 1 * p ≤ (s - t) * p := Int.mul_le_mul_of_nonneg_right (by omega) (by omega)
      omega
  rw [hz] at e; omega

/-- Nothing but blocks g and h has turned; there may be new ones. -/
structure Only2 (g h : Nat) (w w' : World) : Prop where
  os : w'.os = w.os
  tape : w'.tape = w.tape
  output : w'.output = w.output
  size : w.heap.size ≤ w'.heap.size
  block : ∀ k, k < w.heap.size → k ≠ g → k ≠ h → w'.heap[k]? = w.heap[k]?
theorem Only2.refl (g h : Nat) (w : World) : Only2 g h w w := ⟨rfl, rfl, rfl, Nat.le_refl _, fun _ _ _ _ => rfl⟩
theorem Only2.of1 {g h : Nat} {w w' : World} (o : Only g w w') : Only2 g h w w' := ⟨o.os, o.tape, o.output, o.size, fun k a b _ => o.block k a b⟩
theorem Only2.of2 {g h : Nat} {w w' : World} (o : Only h w w') : Only2 g h w w' := ⟨o.os, o.tape, o.output, o.size, fun k a _ b => o.block k a b⟩
theorem Only2.trans {g h : Nat} {a b c : World} (x : Only2 g h a b) (y : Only2 g h b c) : Only2 g h a c :=
  ⟨y.os.trans x.os, y.tape.trans x.tape, y.output.trans x.output, Nat.le_trans x.size y.size, fun k h1 h2 h3 => (y.block k (Nat.lt_of_lt_of_le h1 x.size) h2 h3).trans (x.block k h1 h2 h3)⟩
theorem Only2.swap {g h : Nat} {a b : World} (x : Only2 g h a b) : Only2 h g a b := ⟨x.os, x.tape, x.output, x.size, fun k h1 h2 h3 => x.block k h1 h3 h2⟩
theorem Only2.drewN {g h : Nat} {a b : World} (x : Only2 g h a b) (q : Nat) : Only2 g h a (b.drewN q) := ⟨x.os, x.tape, x.output, x.size, x.block⟩
theorem Only2.below {g h B : Nat} {w0 w w' : World} (hb : Below B w0 w) (x : Only2 g h w w') (hg : B ≤ g) (hh : B ≤ h) (hB : B ≤ w.heap.size) : Below B w0 w' :=
  hb.trans ⟨x.os, x.tape, x.output, x.size, fun k hk => x.block k (by omega) (by omega) (by omega)⟩
theorem SB.only2 {w w' g h s a0 b0 a1 b1 odd} (x : SB w s a0 b0 a1 b1 odd) (o : Only2 g h w w') (hg : s ≠ g) (hh : s ≠ h) : SB w' s a0 b0 a1 b1 odd := (o.block s x.lt hg hh).trans x

/-- mulAdd with its bounds. -/
theorem mad_of (x c z : Int) (x0 : 0 ≤ x) (x1 : x < 18446744073709551616) (c0 : 0 ≤ c) (c1 : c < 18446744073709551615) (z0 : 0 ≤ z) (z1 : z ≤ c) :
    ∃ h l, (∀ w, Calls Tryd.prog 75 #[.int .u64 x, .int .u64 c, .int .u64 z] w fun e w' => e = .returned (.tuple #[.int .u64 h, .int .u64 l]) ∧ w' = w) ∧ 0 ≤ h ∧ h ≤ c ∧ 0 ≤ l ∧ l < 18446744073709551616 ∧ Hid (x * c + z = h * 18446744073709551616 + l) := by
  have hb : 0 ≤ x * c ∧ x * c ≤ 18446744073709551615 * c := ⟨Int.mul_nonneg x0 c0, Int.mul_le_mul_of_nonneg_right (by omega) c0⟩
  refine ⟨_, _, fun w => mulAdd_c x c z w x0 x1 c0 (by omega) z0 (by omega), ?_, ?_, ?_, ?_, ?_⟩
  · omega
  · omega
  · omega
  · omega
  · show _ = _; omega
theorem mad_of' (x c z : Int) (x0 : 0 ≤ x) (x1 : x < 18446744073709551616) (c0 : 0 ≤ c) (c1 : c < 18446744073709551615) (z0 : 0 ≤ z) (z1 : z ≤ c + 1) :
    ∃ h l, (∀ w, Calls Tryd.prog 75 #[.int .u64 x, .int .u64 c, .int .u64 z] w fun e w' => e = .returned (.tuple #[.int .u64 h, .int .u64 l]) ∧ w' = w) ∧ 0 ≤ h ∧ h ≤ c ∧ 0 ≤ l ∧ l < 18446744073709551616 ∧ Hid (x * c + z = h * 18446744073709551616 + l) := by
  have hb : 0 ≤ x * c ∧ x * c ≤ 18446744073709551615 * c := ⟨Int.mul_nonneg x0 c0, Int.mul_le_mul_of_nonneg_right (by omega) c0⟩
  refine ⟨_, _, fun w => mulAdd_c x c z w x0 x1 c0 (by omega) z0 (by omega), ?_, ?_, ?_, ?_, ?_⟩
  · omega
  · omega
  · omega
  · omega
  · show _ = _; omega
theorem sub_of (l k : Int) (l0 : 0 ≤ l) (l1 : l < 18446744073709551616) (k0 : 0 ≤ k) (k1 : k < 18446744073709551616) :
    ∃ d o, (∀ w, (callFunc 56 #[.int .u64 l, .int .u64 k, .int .u64 0]).run Tryd.prog w = .ok (.value (.tuple #[.int .u64 d, .int .u64 o])) w) ∧ 0 ≤ d ∧ d < 18446744073709551616 ∧ 0 ≤ o ∧ o ≤ 1 ∧ Hid (d = l - k + o * 18446744073709551616) := by
  refine ⟨_, _, fun w => sub64_0 l k l0 k0 k1 w, by omega, by omega, (bor_01 _ _).1, (bor_01 _ _).2, ?_⟩
  show _ = _
  unfold bor; split <;> omega

set_option maxRecDepth 100000 in
set_option maxHeartbeats 8000000 in
theorem apply_c (ga gb Na Nb n m : Nat) (F H : Nat → Int) (a0 b0 a1 b1 : Int) (odd : Bool) (w : World) (hba : Blk .u64 26 w ga Na F) (hbb : Blk .u64 26 w gb Nb H) (la : Lm F Na) (lb : Lm H Nb) (hne : ga ≠ gb) (hnN : n ≤ Na) (hmN : m ≤ Nb) (hmn : m ≤ n) (hm1 : 1 ≤ m) (hNa : Na ≤ 140737488355328) (hNb : Nb ≤ 140737488355328)
    (p0 : 0 ≤ a0 ∧ a0 ≤ 18446744073709551613) (p1 : 0 ≤ b0 ∧ b0 ≤ 18446744073709551613) (p2 : 0 ≤ a1 ∧ a1 ≤ 18446744073709551613) (p3 : 0 ≤ b1 ∧ b1 ≤ 18446744073709551613) (U V : Int) (hU : stU odd a0 b0 (vf F n) (vf H m) = U) (hV : stV odd a1 b1 (vf F n) (vf H m) = V) (u0 : 0 ≤ U) (u1 : U < pw m) (v0 : 0 ≤ V) (v1 : V < pw m) :
    Calls Tryd.prog 64 #[.agg #[.int .u64 a0, .int .u64 b0, .int .u64 a1, .int .u64 b1, .bool odd], .slice (some ⟨ga, 0, none⟩) n Na, .slice (some ⟨gb, 0, none⟩) m Nb] w fun e w' => Only2 ga gb w w' ∧ ∃ gp gq Np Nq k1 k2 c1 c2 P Q x1 x2, e = .returned (.tuple #[.slice x1 k1 c1, .slice x2 k2 c2]) ∧ (gp = ga ∧ gq = gb ∨ gp = gb ∧ gq = ga) ∧ Blk .u64 26 w' gp Np P ∧ Blk .u64 26 w' gq Nq Q ∧ Lm P Np ∧ Lm Q Nq ∧ Np ≤ 140737488355328 ∧ Nq ≤ 140737488355328 ∧ (x1 = none ∧ k1 = 0 ∧ c1 = 0 ∨ x1 = some ⟨gp, 0, none⟩ ∧ 0 < k1 ∧ c1 = Np) ∧ (x2 = none ∧ k2 = 0 ∧ c2 = 0 ∨ x2 = some ⟨gq, 0, none⟩ ∧ 0 < k2 ∧ c2 = Nq) ∧ k1 ≤ Np ∧ k2 ≤ Nq ∧ Fm P k1 ∧ Fm Q k2 ∧ vf P k1 = U ∧ vf Q k2 = V := by
  have HBa := hid hba; have HBb := hid hbb; have HLa := hid la; have HLb := hid lb; have HU := hid hU; have HV := hid hV
  have U1 := hid u1; have V1 := hid v1
  have ga_lt := hba.lt; have gb_lt := hbb.lt
  clear hba hbb la lb hU hV u1 v1
  obtain ⟨p00, p01⟩ := p0; obtain ⟨p10, p11⟩ := p1; obtain ⟨p20, p21⟩ := p2; obtain ⟨p30, p31⟩ := p3
  have i1 : (m : Int) ≤ (Na : Int) := by omega
  go_enter Tryd.func64, Tryd.ntmps64
  cases odd
  · skip
    go_wp2
    have hS0 : SB (w.alloc (.cells #[.int .u64 a0, .int .u64 b0, .int .u64 a1, .int .u64 b1, .bool false] 78)) w.heap.size a0 b0 a1 b1 false := heap_alloc_new w _
    have hP0 := HBa.out.alloc (.cells #[.int .u64 a0, .int .u64 b0, .int .u64 a1, .int .u64 b1, .bool false] 78)
    have hQ0 := HBb.out.alloc (.cells #[.int .u64 a0, .int .u64 b0, .int .u64 a1, .int .u64 b1, .bool false] 78)
    have HS0 := hid hS0; have HP0 := hid hP0; have HQ0 := hid hQ0
    clear hS0 hP0 hQ0
    go_loopw [8, 9, 10, 11, 12, 40] (fun c1 c2 c3 c4 c5 t wr => ∃ (i : Nat) (pa lb pb la bw : Int) (P Q : Nat → Int), i ≤ m ∧ t = .int .i64 i ∧ c1 = .int .u64 pa ∧ c2 = .int .u64 lb ∧ c3 = .int .u64 pb ∧ c4 = .int .u64 la ∧ c5 = .int .u64 bw ∧ 0 ≤ pa ∧ pa ≤ a0 ∧ 0 ≤ lb ∧ lb ≤ b0 + 1 ∧ 0 ≤ pb ∧ pb ≤ b1 ∧ 0 ≤ la ∧ la ≤ a1 + 1 ∧ Hid (Only2 ga gb w wr) ∧ Hid (w.heap.size < wr.heap.size) ∧ Hid (SB wr w.heap.size a0 b0 a1 b1 false) ∧ Hid (Blk .u64 26 wr ga Na P) ∧ Hid (Blk .u64 26 wr gb Nb Q) ∧ Hid (Lm P Na) ∧ Hid (Lm Q Nb) ∧ Hid (∀ j, i ≤ j → P j = F j) ∧ Hid (∀ j, i ≤ j → Q j = H j) ∧ Hid (vf P i + (pa - lb) * pw i = a0 * vf F i - b0 * vf H i) ∧ Hid (vf Q i + (pb - la) * pw i = b1 * vf H i - a1 * vf F i)) (fun _ _ _ _ _ t _ => m - (intOf t).toNat)
    case atStart => exact ⟨0, 0, 0, 0, 0, 0, F, H, by omega, rfl, rfl, rfl, rfl, rfl, rfl, by omega, by omega, by omega, by omega, by omega, by omega, by omega, by omega, Only2.of1 ((Only.refl _ _).alloc _), (by show _ < _; simp), HS0.out, HP0.out, HQ0.out, HLa.out, HLb.out, fun _ _ => rfl, fun _ _ => rfl, by simp [Hid, vf, pw], by simp [Hid, vf, pw]⟩
    case round =>
      clear HS0 HP0 HQ0
      obtain ⟨i, pa, lb, pb, la, bw, P, Q, hi, rfl, rfl, rfl, rfl, rfl, rfl, a1', a2, a3, a4, a5, a6, a7, a8, HO, HSz, HS, HP, HQ, HLP, HLQ, HEP, HEQ, HV1, HV2⟩ := hrel
      by_cases hlt : i < m
      · obtain ⟨x, hx⟩ : ∃ x, P i = x := ⟨_, rfl⟩
        obtain ⟨y, hy⟩ : ∃ y, Q i = y := ⟨_, rfl⟩
        have hcx : wr.cell? ⟨ga, i, none⟩ = some (.int .u64 x) := by rw [← hx]; exact HP.out.cell (by omega)
        have hcy : wr.cell? ⟨gb, i, none⟩ = some (.int .u64 y) := by rw [← hy]; exact HQ.out.cell (by omega)
        have fzp := HP.out.frozen i
        have fzq := HQ.out.frozen i
        obtain ⟨s0, s1, s2, s3, s4⟩ := HS.out.cells
        have hgs1 : w.heap.size ≠ ga := by omega
        have hgs2 : w.heap.size ≠ gb := by omega
        have t2 : ∀ v, (wr.setCell ⟨ga, i, none⟩ v).cell? ⟨w.heap.size, 2, none⟩ = some (.int .u64 a1) := fun v => (World.cell?_of_block (Below.heap_setCell _ _ _ _ (by simpa using hgs1))).trans s2
        have t3 : ∀ v, (wr.setCell ⟨ga, i, none⟩ v).cell? ⟨w.heap.size, 3, none⟩ = some (.int .u64 b1) := fun v => (World.cell?_of_block (Below.heap_setCell _ _ _ _ (by simpa using hgs1))).trans s3
        have tq : ∀ v, (wr.setCell ⟨ga, i, none⟩ v).cell? ⟨gb, i, none⟩ = some (.int .u64 y) := fun v => (World.cell?_of_block (Below.heap_setCell _ _ _ _ (by simp; omega))).trans hcy
        have fq : ∀ v, (wr.setCell ⟨ga, i, none⟩ (.int .u64 v)).frozen? ⟨gb, i, none⟩ = false := fun v => (HQ.out.setOther (a := ⟨ga, i, none⟩) (by simp; omega) (.int .u64 v)).frozen i
        have bx := HLP.out i (by omega); have by' := HLQ.out i (by omega)
        rw [hx] at bx; rw [hy] at by'
        obtain ⟨x0, x1⟩ := bx; obtain ⟨y0, y1⟩ := by'
        have HX := hid (show F i = x by rw [← HEP.out i (Nat.le_refl _), hx]); have HY := hid (show H i = y by rw [← HEQ.out i (Nat.le_refl _), hy])
        clear hx hy
        obtain ⟨h1, l1, M1, q10, q11, r10, r11, E1⟩ := mad_of x a0 pa x0 x1 p00 (by omega) a1' a2
        obtain ⟨h2, l2, M2, q20, q21, r20, r21, E2⟩ := mad_of' y b0 lb y0 y1 p10 (by omega) a3 a4
        obtain ⟨h3, l3, M3, q30, q31, r30, r31, E3⟩ := mad_of y b1 pb y0 y1 p30 (by omega) a5 a6
        obtain ⟨h4, l4, M4, q40, q41, r40, r41, E4⟩ := mad_of' x a1 la x0 x1 p20 (by omega) a7 a8
        obtain ⟨d1, o1', S1, d10, d11, o10, o11, F1⟩ := sub_of l1 l2 r10 r11 r20 r21
        obtain ⟨d2, o2', S2, d20, d21, o20, o21, F2⟩ := sub_of l3 l4 r30 r31 r40 r41
        have CM1 := hid M1; have CM2 := hid M2; have CM3 := hid M3; have CM4 := hid M4
        clear M1 M2 M3 M4
        go_wp2
        go_quiet (fail)
        go_wp2_with fail
        refine (CM1.out _).mono ?_
        rintro e w1 ⟨rfl, rfl⟩
        go_wp2_with fail
        refine (CM2.out _).mono ?_
        rintro e w1 ⟨rfl, rfl⟩
        go_wp2_with fail
        refine (CM3.out _).mono ?_
        rintro e w1 ⟨rfl, rfl⟩
        go_wp2_with fail
        refine (CM4.out _).mono ?_
        rintro e w1 ⟨rfl, rfl⟩
        go_wp2
        go_roundw
        case rel =>
          have o1 : Only ga wr _ := (Only.refl ga wr).setCell i none (.int .u64 d1)
          have o2 : Only gb (wr.setCell ⟨ga, i, none⟩ (.int .u64 d1)) _ := (Only.refl gb (wr.setCell ⟨ga, i, none⟩ (.int .u64 d1))).setCell i none (.int .u64 d2)
          have oo := (Only2.of1 (h := gb) o1).trans (Only2.of2 (g := ga) o2)
          have hsz := HSz.out
          refine ⟨i + 1, h1, h2 + o1', h3, h4 + o2', o2', upd P i d1, upd Q i d2, by omega, by go_num, rfl, rfl, rfl, rfl, rfl, by omega, by omega, by omega, by omega, by omega, by omega, by omega, by omega, ?_, ?_, ?_, ?_, ?_, HLP.out.upd ⟨d10, d11⟩, HLQ.out.upd ⟨d20, d21⟩, ?_, ?_, ?_, ?_⟩
          · exact HO.out.trans ⟨oo.os, oo.tape, oo.output, oo.size, oo.block⟩
          · show _ < _
            have := oo.size
            exact Nat.lt_of_lt_of_le hsz this
          · exact HS.out.only2 ⟨oo.os, oo.tape, oo.output, oo.size, oo.block⟩ hgs1 hgs2
          · exact (HP.out.set i d1).setOther (a := ⟨gb, i, none⟩) (by simp; omega) (.int .u64 d2)
          · exact (HQ.out.setOther (a := ⟨ga, i, none⟩) (by simp; omega) (.int .u64 d1)).set i d2
          · intro j hj
            rw [upd_other _ _ _ _ (by omega)]; exact HEP.out j (by omega)
          · intro j hj
            rw [upd_other _ _ _ _ (by omega)]; exact HEQ.out j (by omega)
          · exact app_step HV1.out HX.out HY.out E1.out E2.out F1.out
          · exact app_step HV2.out HY.out HX.out E3.out E4.out F2.out
        case measure => simp [intOf]; omega
      · obtain rfl : i = m := by omega
        have n1 := vf_nonneg (HLP.out.mono (m := i) (by omega)); have n2 := vf_lt (HLP.out.mono (m := i) (by omega))
        have n3 := vf_nonneg (HLQ.out.mono (m := i) (by omega)); have n4 := vf_lt (HLQ.out.mono (m := i) (by omega))
        have hcut : vf F n = vf F i + vf (sh F i) (n - i) * pw i := by rw [← vf_split, show i + (n - i) = n by omega]
        have hPu : vf P i = U := by
          have e := HU.out
          simp only [stU, if_false, Bool.false_eq_true] at e
          rw [hcut] at e
          refine mod_one (p := pw i) (t := pa - lb) (s := -(a0 * vf (sh F i) (n - i))) ?_ n1 n2 u0 U1.out
          rw [HV1.out, ← e]; grind
        have hQv : vf Q i = V := by
          have e := HV.out
          simp only [stV, if_false, Bool.false_eq_true] at e
          rw [hcut] at e
          refine mod_one (p := pw i) (t := pb - la) (s := a1 * vf (sh F i) (n - i)) ?_ n3 n4 v0 V1.out
          rw [HV2.out, ← e]; grind
        have HPu := hid hPu; have HQv := hid hQv
        clear n1 n2 n3 n4 hcut hPu hQv
        go_wp2_with fail
        refine (trim_c (some ⟨ga, 0, none⟩) i Na P wr (by omega) (by omega) (HP.out.rd0 (by omega))).mono ?_
        rintro e w1 ⟨rfl, k1, hk1, hz1, he1⟩
        have Z1 := hid hz1
        clear hz1
        obtain ⟨x1, c1, hx1, hf1, hc1⟩ : ∃ x1 c1, e = .returned (.slice x1 k1 c1) ∧ Fm P k1 ∧ (x1 = none ∧ k1 = 0 ∧ c1 = 0 ∨ x1 = some ⟨ga, 0, none⟩ ∧ 0 < k1 ∧ c1 = Na) := by
          rcases he1 with ⟨h0, he⟩ | ⟨h0, hn0, he⟩
          · exact ⟨none, 0, by rw [he, h0], .inl h0, .inl ⟨rfl, h0, rfl⟩⟩
          · exact ⟨_, _, he, .inr hn0, .inr ⟨rfl, h0, rfl⟩⟩
        subst hx1
        have HF1 := hid hf1; have HC1 := hid hc1
        clear he1 hf1 hc1
        go_wp2_with fail
        refine (trim_c (some ⟨gb, 0, none⟩) i Nb Q _ (by omega) (by omega) (HQ.out.rd0 (by omega))).mono ?_
        rintro e w1 ⟨rfl, k2, hk2, hz2, he2⟩
        have Z2 := hid hz2
        clear hz2
        obtain ⟨x2, c2, hx2, hf2, hc2⟩ : ∃ x2 c2, e = .returned (.slice x2 k2 c2) ∧ Fm Q k2 ∧ (x2 = none ∧ k2 = 0 ∧ c2 = 0 ∨ x2 = some ⟨gb, 0, none⟩ ∧ 0 < k2 ∧ c2 = Nb) := by
          rcases he2 with ⟨h0, he⟩ | ⟨h0, hn0, he⟩
          · exact ⟨none, 0, by rw [he, h0], .inl h0, .inl ⟨rfl, h0, rfl⟩⟩
          · exact ⟨_, _, he, .inr hn0, .inr ⟨rfl, h0, rfl⟩⟩
        subst hx2
        have HF2 := hid hf2; have HC2 := hid hc2
        clear he2 hf2 hc2
        go_wp2
        go_ret2
        refine ⟨HO.out, ga, gb, Na, Nb, k1, k2, c1, c2, P, Q, x1, x2, rfl, .inl ⟨rfl, rfl⟩, HP.out, HQ.out, HLP.out, HLQ.out, by omega, by omega, HC1.out, HC2.out, by omega, by omega, HF1.out, HF2.out, ?_, ?_⟩
        · rw [trim_val hk1 Z1.out]; exact HPu.out
        · rw [trim_val hk2 Z2.out]; exact HQv.out
  · skip
    go_wp2
    have hS0 : SB (w.alloc (.cells #[.int .u64 b0, .int .u64 a0, .int .u64 b1, .int .u64 a1, .bool true] 78)) w.heap.size b0 a0 b1 a1 true := heap_alloc_new w _
    have hP0 := HBb.out.alloc (.cells #[.int .u64 b0, .int .u64 a0, .int .u64 b1, .int .u64 a1, .bool true] 78)
    have hQ0 := HBa.out.alloc (.cells #[.int .u64 b0, .int .u64 a0, .int .u64 b1, .int .u64 a1, .bool true] 78)
    have HS0 := hid hS0; have HP0 := hid hP0; have HQ0 := hid hQ0
    clear hS0 hP0 hQ0
    go_loopw [8, 9, 10, 11, 12, 40] (fun c1 c2 c3 c4 c5 t wr => ∃ (i : Nat) (pa lb pb la bw : Int) (P Q : Nat → Int), i ≤ m ∧ t = .int .i64 i ∧ c1 = .int .u64 pa ∧ c2 = .int .u64 lb ∧ c3 = .int .u64 pb ∧ c4 = .int .u64 la ∧ c5 = .int .u64 bw ∧ 0 ≤ pa ∧ pa ≤ b0 ∧ 0 ≤ lb ∧ lb ≤ a0 + 1 ∧ 0 ≤ pb ∧ pb ≤ a1 ∧ 0 ≤ la ∧ la ≤ b1 + 1 ∧ Hid (Only2 gb ga w wr) ∧ Hid (w.heap.size < wr.heap.size) ∧ Hid (SB wr w.heap.size b0 a0 b1 a1 true) ∧ Hid (Blk .u64 26 wr gb Nb P) ∧ Hid (Blk .u64 26 wr ga Na Q) ∧ Hid (Lm P Nb) ∧ Hid (Lm Q Na) ∧ Hid (∀ j, i ≤ j → P j = H j) ∧ Hid (∀ j, i ≤ j → Q j = F j) ∧ Hid (vf P i + (pa - lb) * pw i = b0 * vf H i - a0 * vf F i) ∧ Hid (vf Q i + (pb - la) * pw i = a1 * vf F i - b1 * vf H i)) (fun _ _ _ _ _ t _ => m - (intOf t).toNat)
    case atStart => exact ⟨0, 0, 0, 0, 0, 0, H, F, by omega, rfl, rfl, rfl, rfl, rfl, rfl, by omega, by omega, by omega, by omega, by omega, by omega, by omega, by omega, Only2.of1 ((Only.refl _ _).alloc _), (by show _ < _; simp), HS0.out, HP0.out, HQ0.out, HLb.out, HLa.out, fun _ _ => rfl, fun _ _ => rfl, by simp [Hid, vf, pw], by simp [Hid, vf, pw]⟩
    case round =>
      clear HS0 HP0 HQ0
      obtain ⟨i, pa, lb, pb, la, bw, P, Q, hi, rfl, rfl, rfl, rfl, rfl, rfl, a1', a2, a3, a4, a5, a6, a7, a8, HO, HSz, HS, HP, HQ, HLP, HLQ, HEP, HEQ, HV1, HV2⟩ := hrel
      by_cases hlt : i < m
      · obtain ⟨x, hx⟩ : ∃ x, P i = x := ⟨_, rfl⟩
        obtain ⟨y, hy⟩ : ∃ y, Q i = y := ⟨_, rfl⟩
        have hcx : wr.cell? ⟨gb, i, none⟩ = some (.int .u64 x) := by rw [← hx]; exact HP.out.cell (by omega)
        have hcy : wr.cell? ⟨ga, i, none⟩ = some (.int .u64 y) := by rw [← hy]; exact HQ.out.cell (by omega)
        have fzp := HP.out.frozen i
        have fzq := HQ.out.frozen i
        obtain ⟨s0, s1, s2, s3, s4⟩ := HS.out.cells
        have hgs1 : w.heap.size ≠ gb := by omega
        have hgs2 : w.heap.size ≠ ga := by omega
        have t2 : ∀ v, (wr.setCell ⟨gb, i, none⟩ v).cell? ⟨w.heap.size, 2, none⟩ = some (.int .u64 b1) := fun v => (World.cell?_of_block (Below.heap_setCell _ _ _ _ (by simpa using hgs1))).trans s2
        have t3 : ∀ v, (wr.setCell ⟨gb, i, none⟩ v).cell? ⟨w.heap.size, 3, none⟩ = some (.int .u64 a1) := fun v => (World.cell?_of_block (Below.heap_setCell _ _ _ _ (by simpa using hgs1))).trans s3
        have tq : ∀ v, (wr.setCell ⟨gb, i, none⟩ v).cell? ⟨ga, i, none⟩ = some (.int .u64 y) := fun v => (World.cell?_of_block (Below.heap_setCell _ _ _ _ (by simp; omega))).trans hcy
        have fq : ∀ v, (wr.setCell ⟨gb, i, none⟩ (.int .u64 v)).frozen? ⟨ga, i, none⟩ = false := fun v => (HQ.out.setOther (a := ⟨gb, i, none⟩) (by simp; omega) (.int .u64 v)).frozen i
        have bx := HLP.out i (by omega); have by' := HLQ.out i (by omega)
        rw [hx] at bx; rw [hy] at by'
        obtain ⟨x0, x1⟩ := bx; obtain ⟨y0, y1⟩ := by'
        have HX := hid (show H i = x by rw [← HEP.out i (Nat.le_refl _), hx]); have HY := hid (show F i = y by rw [← HEQ.out i (Nat.le_refl _), hy])
        clear hx hy
        obtain ⟨h1, l1, M1, q10, q11, r10, r11, E1⟩ := mad_of x b0 pa x0 x1 p10 (by omega) a1' a2
        obtain ⟨h2, l2, M2, q20, q21, r20, r21, E2⟩ := mad_of' y a0 lb y0 y1 p00 (by omega) a3 a4
        obtain ⟨h3, l3, M3, q30, q31, r30, r31, E3⟩ := mad_of y a1 pb y0 y1 p20 (by omega) a5 a6
        obtain ⟨h4, l4, M4, q40, q41, r40, r41, E4⟩ := mad_of' x b1 la x0 x1 p30 (by omega) a7 a8
        obtain ⟨d1, o1', S1, d10, d11, o10, o11, F1⟩ := sub_of l1 l2 r10 r11 r20 r21
        obtain ⟨d2, o2', S2, d20, d21, o20, o21, F2⟩ := sub_of l3 l4 r30 r31 r40 r41
        have CM1 := hid M1; have CM2 := hid M2; have CM3 := hid M3; have CM4 := hid M4
        clear M1 M2 M3 M4
        go_wp2
        go_quiet (fail)
        go_wp2_with fail
        refine (CM1.out _).mono ?_
        rintro e w1 ⟨rfl, rfl⟩
        go_wp2_with fail
        refine (CM2.out _).mono ?_
        rintro e w1 ⟨rfl, rfl⟩
        go_wp2_with fail
        refine (CM3.out _).mono ?_
        rintro e w1 ⟨rfl, rfl⟩
        go_wp2_with fail
        refine (CM4.out _).mono ?_
        rintro e w1 ⟨rfl, rfl⟩
        go_wp2
        go_roundw
        case rel =>
          have o1 : Only gb wr _ := (Only.refl gb wr).setCell i none (.int .u64 d1)
          have o2 : Only ga (wr.setCell ⟨gb, i, none⟩ (.int .u64 d1)) _ := (Only.refl ga (wr.setCell ⟨gb, i, none⟩ (.int .u64 d1))).setCell i none (.int .u64 d2)
          have oo := (Only2.of1 (h := ga) o1).trans (Only2.of2 (g := gb) o2)
          have hsz := HSz.out
          refine ⟨i + 1, h1, h2 + o1', h3, h4 + o2', o2', upd P i d1, upd Q i d2, by omega, by go_num, rfl, rfl, rfl, rfl, rfl, by omega, by omega, by omega, by omega, by omega, by omega, by omega, by omega, ?_, ?_, ?_, ?_, ?_, HLP.out.upd ⟨d10, d11⟩, HLQ.out.upd ⟨d20, d21⟩, ?_, ?_, ?_, ?_⟩
          · exact HO.out.trans ⟨oo.os, oo.tape, oo.output, oo.size, oo.block⟩
          · show _ < _
            have := oo.size
            exact Nat.lt_of_lt_of_le hsz this
          · exact HS.out.only2 ⟨oo.os, oo.tape, oo.output, oo.size, oo.block⟩ hgs1 hgs2
          · exact (HP.out.set i d1).setOther (a := ⟨ga, i, none⟩) (by simp; omega) (.int .u64 d2)
          · exact (HQ.out.setOther (a := ⟨gb, i, none⟩) (by simp; omega) (.int .u64 d1)).set i d2
          · intro j hj
            rw [upd_other _ _ _ _ (by omega)]; exact HEP.out j (by omega)
          · intro j hj
            rw [upd_other _ _ _ _ (by omega)]; exact HEQ.out j (by omega)
          · exact app_step HV1.out HX.out HY.out E1.out E2.out F1.out
          · exact app_step HV2.out HY.out HX.out E3.out E4.out F2.out
        case measure => simp [intOf]; omega
      · obtain rfl : i = m := by omega
        have n1 := vf_nonneg (HLP.out.mono (m := i) (by omega)); have n2 := vf_lt (HLP.out.mono (m := i) (by omega))
        have n3 := vf_nonneg (HLQ.out.mono (m := i) (by omega)); have n4 := vf_lt (HLQ.out.mono (m := i) (by omega))
        have hcut : vf F n = vf F i + vf (sh F i) (n - i) * pw i := by rw [← vf_split, show i + (n - i) = n by omega]
        have hPu : vf P i = U := by
          have e := HU.out
          simp only [stU, if_true] at e
          rw [hcut] at e
          refine mod_one (p := pw i) (t := pa - lb) (s := a0 * vf (sh F i) (n - i)) ?_ n1 n2 u0 U1.out
          rw [HV1.out, ← e]; grind
        have hQv : vf Q i = V := by
          have e := HV.out
          simp only [stV, if_true] at e
          rw [hcut] at e
          refine mod_one (p := pw i) (t := pb - la) (s := -(a1 * vf (sh F i) (n - i))) ?_ n3 n4 v0 V1.out
          rw [HV2.out, ← e]; grind
        have HPu := hid hPu; have HQv := hid hQv
        clear n1 n2 n3 n4 hcut hPu hQv
        go_wp2_with fail
        refine (trim_c (some ⟨gb, 0, none⟩) i Nb P wr (by omega) (by omega) (HP.out.rd0 (by omega))).mono ?_
        rintro e w1 ⟨rfl, k1, hk1, hz1, he1⟩
        have Z1 := hid hz1
        clear hz1
        obtain ⟨x1, c1, hx1, hf1, hc1⟩ : ∃ x1 c1, e = .returned (.slice x1 k1 c1) ∧ Fm P k1 ∧ (x1 = none ∧ k1 = 0 ∧ c1 = 0 ∨ x1 = some ⟨gb, 0, none⟩ ∧ 0 < k1 ∧ c1 = Nb) := by
          rcases he1 with ⟨h0, he⟩ | ⟨h0, hn0, he⟩
          · exact ⟨none, 0, by rw [he, h0], .inl h0, .inl ⟨rfl, h0, rfl⟩⟩
          · exact ⟨_, _, he, .inr hn0, .inr ⟨rfl, h0, rfl⟩⟩
        subst hx1
        have HF1 := hid hf1; have HC1 := hid hc1
        clear he1 hf1 hc1
        go_wp2_with fail
        refine (trim_c (some ⟨ga, 0, none⟩) i Na Q _ (by omega) (by omega) (HQ.out.rd0 (by omega))).mono ?_
        rintro e w1 ⟨rfl, k2, hk2, hz2, he2⟩
        have Z2 := hid hz2
        clear hz2
        obtain ⟨x2, c2, hx2, hf2, hc2⟩ : ∃ x2 c2, e = .returned (.slice x2 k2 c2) ∧ Fm Q k2 ∧ (x2 = none ∧ k2 = 0 ∧ c2 = 0 ∨ x2 = some ⟨ga, 0, none⟩ ∧ 0 < k2 ∧ c2 = Na) := by
          rcases he2 with ⟨h0, he⟩ | ⟨h0, hn0, he⟩
          · exact ⟨none, 0, by rw [he, h0], .inl h0, .inl ⟨rfl, h0, rfl⟩⟩
          · exact ⟨_, _, he, .inr hn0, .inr ⟨rfl, h0, rfl⟩⟩
        subst hx2
        have HF2 := hid hf2; have HC2 := hid hc2
        clear he2 hf2 hc2
        go_wp2
        go_ret2
        refine ⟨HO.out.swap, gb, ga, Nb, Na, k1, k2, c1, c2, P, Q, x1, x2, rfl, .inr ⟨rfl, rfl⟩, HP.out, HQ.out, HLP.out, HLQ.out, by omega, by omega, HC1.out, HC2.out, by omega, by omega, HF1.out, HF2.out, ?_, ?_⟩
        · rw [trim_val hk1 Z1.out]; exact HPu.out
        · rw [trim_val hk2 Z2.out]; exact HQv.out
end Go.Proofs.YtclopblgdiahiaaDoor
