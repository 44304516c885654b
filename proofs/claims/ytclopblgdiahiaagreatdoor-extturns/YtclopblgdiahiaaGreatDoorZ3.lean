/-
  Numbers times 2^n, limb by limb and digit by digit; a list made with room behind it. No Go text is named here. Walks of package nat's shl and Shl: a number times 2^n. The walk of package nat's shrBits: a number by 2^n. The walk of package nat's divLong: quotient and rest of long numbers. The walk of package nat's divLong, and divMod for all numbers. Walks of nat's calls Mul and DivMod, whatever they are handed. Walks of package nat's texts: bytes.TrimLeft of noughts, digits, Text. Walks of the document's reference for nat: Form, Twin, Same, Low, two, light. Walks of package nat's calls Text, DivMod and Gcd. The walk of the statements' own look at answers that the document fixes (awake). Walks of package whole: Form, signed.
-/
import Derived.Test.YtclopblgdiahiaaGreatDoorZ0
import Derived.Test.YtclopblgdiahiaaGreatDoorZ2
import Derived.Test.YtclopblgdiahiaaGreatDoorZ1
namespace Go.Proofs.YtclopblgdiahiaaGreatDoor
open Go.RowKit

theorem pw_pow (k : Nat) : pw k = 2 ^ (64 * k) := by
  induction k with
  | zero => rfl
  | succ k ih => rw [pw_succ, ih, show 64 * (k + 1) = 64 * k + 64 by omega, Int.pow_add, Int.mul_comm]; rfl
theorem pd_pow (k : Nat) : pd k = 2 ^ (32 * k) := by
  induction k with
  | zero => rfl
  | succ k ih => rw [pd_succ, ih, show 32 * (k + 1) = 32 * k + 32 by omega, Int.pow_add, Int.mul_comm]; rfl

/-- A limb times P, cut in two (P * Q = 2^64). -/
theorem limb_cut {x P Q : Int} (x0 : 0 ≤ x) (x1 : x < 18446744073709551616) (hPQ : P * Q = 18446744073709551616) (p0 : 0 < P) (q0 : 0 < Q) :
    (x * P) % 18446744073709551616 = (x % Q) * P ∧ 0 ≤ x / Q ∧ x / Q < P ∧ 0 ≤ (x % Q) * P ∧ (x % Q) * P ≤ 18446744073709551616 - P := by
  have e1 : (x * P) % 18446744073709551616 = (x % Q) * P := by rw [← hPQ, Int.mul_comm x P, Int.mul_emod_mul_of_pos _ _ p0, Int.mul_comm]
  refine ⟨e1, Int.ediv_nonneg x0 (Int.le_of_lt q0), ?_, Int.mul_nonneg (Int.emod_nonneg _ (by omega)) (Int.le_of_lt p0), ?_⟩
  · exact Int.ediv_lt_of_lt_mul q0 (by rw [hPQ]; exact x1)
  · have h1 := Int.emod_lt_of_pos x q0
    have h2 : (x % Q + 1) * P ≤ Q * P := Int.mul_le_mul_of_nonneg_right (by omega) (Int.le_of_lt p0)
    rw [Int.add_mul, Int.one_mul, Int.mul_comm Q P, hPQ] at h2
    omega

/-- One round of a shift to the left. -/
theorem shl_step {F a : Nat → Int} {o k : Nat} {P Q x y : Int} (hv : vf (sh F o) (k + 1) = vf a k * P) (hx : a k = x) (hy : F (o + k) = y) (hPQ : P * Q = 18446744073709551616) :
    vf (sh (upd (upd F (o + k) (y + x % Q * P)) (o + k + 1) (x / Q)) o) (k + 1 + 1) = vf a (k + 1) * P := by
  have e1 : vf (sh (upd (upd F (o + k) (y + x % Q * P)) (o + k + 1) (x / Q)) o) k = vf (sh F o) k := vf_congr (fun j hj => by rw [sh_at, sh_at, upd_other _ _ _ _ (by omega), upd_other _ _ _ _ (by omega)])
  have e2 : sh (upd (upd F (o + k) (y + x % Q * P)) (o + k + 1) (x / Q)) o k = y + x % Q * P := by rw [sh_at, upd_other _ _ _ _ (by omega), upd_same]
  have e3 : sh (upd (upd F (o + k) (y + x % Q * P)) (o + k + 1) (x / Q)) o (k + 1) = x / Q := by rw [sh_at, ← Nat.add_assoc, upd_same]
  rw [vf_succ, vf_succ, e1, e2, e3, vf_succ, pw_succ]
  rw [vf_succ, sh_at, hy] at hv
  have e4 := Int.mul_ediv_add_emod x Q
  rw [hx, ← hPQ]
  have e5 : x * pw k * P = (Q * (x / Q) + x % Q) * pw k * P := by rw [e4]
  rw [Int.add_mul (vf a k), e5, ← hv]
  grind

/-- What a list reads from place o on, noughts ahead of it. -/
theorem vf_ahead {F : Nat → Int} {o n : Nat} (h : ∀ j, j < o → F j = 0) : vf F (o + n) = vf (sh F o) n * pw o := by
  rw [vf_split, vf_zero h]; omega

/-- One round of a shift to the left, on digits. -/
theorem dshl_step {D a : Nat → Int} {o k : Nat} {P x c : Int} (hv : vd D (o + k) + c * pd (o + k) = vd a k * (P * pd o)) (hx : a k = x) :
    vd (cat D (o + k) (fun _ => (c + x * P) % 4294967296)) (o + k + 1) + ((c + x * P) / 4294967296) * pd (o + k + 1) = vd a (k + 1) * (P * pd o) := by
  have e1 : vd (cat D (o + k) (fun _ => (c + x * P) % 4294967296)) (o + k) = vd D (o + k) := vd_congr (fun j hj => cat_in hj)
  have e2 : cat D (o + k) (fun _ => (c + x * P) % 4294967296) (o + k) = (c + x * P) % 4294967296 := cat_out (Nat.le_refl _)
  rw [vd_succ, e1, e2, pd_succ, vd_succ, hx]
  have e3 := Int.mul_ediv_add_emod (c + x * P) 4294967296
  have e4 : (c + x * P) * pd (o + k) = (4294967296 * ((c + x * P) / 4294967296) + (c + x * P) % 4294967296) * pd (o + k) := by rw [e3]
  rw [Int.add_mul (vd a k), ← hv]
  have e5 : x * pd k * (P * pd o) = x * P * pd (o + k) := by rw [pd_add]; grind
  rw [e5]
  grind
theorem dshl_carry {P x c : Int} (c0 : 0 ≤ c) (c1 : c < P) (x0 : 0 ≤ x) (x1 : x < 4294967296) (p0 : 0 < P) : 0 ≤ c + x * P ∧ c + x * P < 4294967296 * P ∧ (c + x * P) / 4294967296 < P ∧ 0 ≤ x * P ∧ x * P < 4294967296 * P := by
  have h1 : 0 ≤ x * P := Int.mul_nonneg x0 (Int.le_of_lt p0)
  have h2 : (x + 1) * P ≤ 4294967296 * P := Int.mul_le_mul_of_nonneg_right (by omega) (Int.le_of_lt p0)
  rw [Int.add_mul, Int.one_mul] at h2
  refine ⟨by omega, by omega, ?_, h1, by omega⟩
  exact Int.ediv_lt_of_lt_mul (by decide) (by omega)

/-- 'make([]T, l, c)': a block of c noughts. -/
theorem wpList_make_two {P : Program} (k : IntKind) (w : World) {ops : Array Oper} {rest : List Oper} {o : Oper} {a : Act} {Q : Exit → Act → World → Prop}
    (hg : o.guard = none) (lo co : Operand) (t : TypeId) (hop : o.op = Op.makeSlice t lo co)
    (e : TypeId) (bytes : Nat) (h1 : P.underlying t = some (.slice e)) (h2 : (P.info? e).map (fun i => (i.zero, i.size, i.bytes)) = some (some (.int k 0), 1, bytes))
    (kl kc : IntKind) (L C : Int) (l c : Nat) (hl : a.eval lo = .int kl L) (hc : a.eval co = .int kc C) (hL : L = (l : Int)) (hC : C = (c : Int)) (hlc : l ≤ c) (b2 : bytes * c ≤ 281474976710656) (b3 : c ≤ maxLen)
    (hK : ∀ w', Blk k e w' w.heap.size c (fun _ => 0) → Below w.heap.size w w' → wpList P ops Q rest (a.put o.dst (.slice (some ⟨w.heap.size, 0, none⟩) l c)) w') :
    wpList P ops Q (o :: rest) a w := by
  obtain ⟨i, hi, hz0, hz1, hz2⟩ := info_parts h2
  subst hL
  subst hC
  refine wpList_plain hg fun K hK' => ?_
  have b2' : (i.bytes : Int) * (c : Int) ≤ 281474976710656 := by
    have h : ((i.bytes * c : Nat) : Int) ≤ 281474976710656 := by rw [hz2]; omega
    rwa [Int.natCast_mul] at h
  have hrun := run_make (P := P) w t e i (.int k 0) h1 hi hz0 kl kc (l : Int) (c : Int) (by omega) (by omega) b2' (by unfold maxLen at b3; omega)
  simp only [Int.toNat_natCast, hz1, Nat.mul_one] at hrun
  unfold Oper.wp
  simp [execOp, hop, hl, hc, hrun, Result.andThen]
  refine hK' _ _ (hK _ ⟨_, heap_alloc_new w _, size_madeCells _ _, fun j hj => ?_⟩ ((Below.refl _ _).alloc (Nat.le_refl _) _))
  have hm : (madeCells (Value.int k 0).cells c).toList = List.replicate c (.int k 0) := toList_madeCells_one _ _
  have : (madeCells (Value.int k 0).cells c).toList[j]? = some (.int k 0) := by rw [hm, List.getElem?_replicate, if_pos hj]
  simpa using this
end Go.Proofs.YtclopblgdiahiaaGreatDoor
namespace Go.Proofs.YtclopblgdiahiaaGreatDoor
open Go.RowKit

theorem or_comm64 (x y : Int) : bits BinOp.or .u64 x y = bits BinOp.or .u64 y x := by simp only [bits]; rw [BitVec.or_comm]

/-- The numbers of one round of shl. -/
theorem shl_nums (x y s : Int) (x0 : 0 ≤ x) (x1 : x < 18446744073709551616) (s0 : 0 ≤ s) (s1 : s ≤ 63) (y0 : 0 ≤ y) (y1 : y < 2 ^ s.toNat) :
    ∃ L Z H, IntKind.u64.wrap (x * 2 ^ s.toNat) = L ∧ 0 ≤ L ∧ L < 18446744073709551616 ∧ bits BinOp.or .u64 y L = Z ∧ 0 ≤ Z ∧ Z < 18446744073709551616 ∧ x / 2 ^ (64 - s).toNat = H ∧ 0 ≤ H ∧ H < 18446744073709551616 ∧ Hid (H < 2 ^ s.toNat) ∧ Hid (Z = y + x % 2 ^ (64 - s).toNat * 2 ^ s.toNat) := by
  have hPQ : (2 : Int) ^ s.toNat * 2 ^ (64 - s).toNat = 18446744073709551616 := by rw [← Int.pow_add, show s.toNat + (64 - s).toNat = 64 by omega]; rfl
  have p0 : (0 : Int) < 2 ^ s.toNat := Int.pow_pos (by decide)
  have q0 : (0 : Int) < 2 ^ (64 - s).toNat := Int.pow_pos (by decide)
  obtain ⟨c1, c2, c3, c4, c5⟩ := limb_cut x0 x1 hPQ p0 q0
  have hP : (2 : Int) ^ s.toNat ≤ 18446744073709551616 := by
    rw [← hPQ]
    have := Int.mul_le_mul_of_nonneg_left (show (1 : Int) ≤ 2 ^ (64 - s).toNat by omega) (Int.le_of_lt p0)
    omega
  have hL : IntKind.u64.wrap (x * 2 ^ s.toNat) = x % 2 ^ (64 - s).toNat * 2 ^ s.toNat := by rw [IntKind.wrap_u64, c1]
  refine ⟨_, _, _, hL, c4, by omega, ?_, ?_, ?_, rfl, c2, by omega, c3, rfl⟩
  · rw [or_comm64 y, bits_join .u64 64 (by decide) wraps_u64 s.toNat _ _ c4 (Int.mul_emod_left _ _) (by omega) y0 y1 (by omega), Int.add_comm]
  · omega
  · omega

set_option maxRecDepth 100000 in
set_option maxHeartbeats 1000000 in
/-- shl: a * 2^(64 * skip + s). -/
theorem shl_c (ao : Option Addr) (n cap skip : Nat) (z s : Int) (f : Nat → Int) (w : World) (hn : n ≤ 8796093022208) (hk : skip ≤ 1048576) (s0 : 0 ≤ s) (s1 : s ≤ 63) (hz : z = 64 * skip + s) (hr : Rd .u64 w ao n f) (hf : Lm f n) :
    Calls Tryz.prog 153 #[.slice ao n cap, .int .i64 z] w fun e w' => ∃ ao' m cap' f', e = .returned (.slice ao' m cap') ∧ Res (skip + n + 1) w w' ao' m cap' f' ∧ vf f' m = vf f n * 2 ^ s.toNat * pw skip := by
  have HF := hid hf
  have HRd := hid hr
  clear hf hr
  have z0 : 0 ≤ z := by omega
  have z1 : z ≤ 67108927 := by omega
  have h1 : z / 64 = (skip : Int) := by omega
  have h2 : z % 64 = s := by omega
  have h3 : Int.tdiv z 64 = (skip : Int) := by rw [Int.tdiv_eq_ediv_of_nonneg z0]; exact h1
  have h4 : Int.tmod z 64 = s := by rw [Int.tmod_eq_emod_of_nonneg z0]; exact h2
  clear hz
  go_enter Tryz.func153, Tryz.ntmps153
  go_wp2_with (at_make; refine wpList_make_blk .u64 w rfl (.tmp 17) (.tmp 17) 22 rfl 28 8 Tryz.underlying22 Tryz.infoU64 .i64 .i64 _ _ (skip + n + 1) rfl rfl (by omega) (by omega) (by omega) (by unfold maxLen; omega) ?_; intro w1 hb1 hbel1)
  go_loopw [21] (fun t wr => ∃ (k : Nat) (F : Nat → Int), k ≤ n ∧ t = .int .i64 k ∧ Below w.heap.size w wr ∧ Blk .u64 28 wr w.heap.size (skip + n + 1) F ∧ Hid (Lm F (skip + n + 1)) ∧ Hid (∀ j, j < skip ∨ skip + k < j → F j = 0) ∧ Hid (F (skip + k) < 2 ^ s.toNat) ∧ Hid (vf (sh F skip) (k + 1) = vf f k * 2 ^ s.toNat)) (fun t _ => n - (intOf t).toNat)
  case atStart => exact ⟨0, fun _ => 0, by omega, rfl, hbel1, hb1, fun j hj => ⟨Int.le_refl 0, show (0 : Int) < 18446744073709551616 by decide⟩, fun j hj => rfl, Int.pow_pos (by decide), by simp [Hid, vf, sh]⟩
  case round =>
    clear hb1 hbel1
    obtain ⟨k, F, hkn, rfl, hbel, hbl, HL, HZ, HT, HV⟩ := hrel
    by_cases hlt : k < n
    · have hr := HRd.out
      obtain ⟨b, ob, rfl⟩ := hr.at (by omega)
      obtain ⟨y, hy⟩ : ∃ y, F (skip + k) = y := ⟨_, rfl⟩
      obtain ⟨x, hx⟩ : ∃ x, f k = x := ⟨_, rfl⟩
      have hcell : wr.cell? ⟨w.heap.size, skip + k, none⟩ = some (.int .u64 y) := by rw [← hy]; exact hbl.cell (by omega)
      have hcelb : wr.cell? ⟨b, ob + k, none⟩ = some (.int .u64 x) := by rw [← hx]; exact (hr.below hbel (Nat.le_refl _)).cell hlt
      have hbw : b < w.heap.size := World.block_lt_of_cell? w _ (hr.cell hlt)
      have hfz := hbl.frozen (skip + k)
      have hfz2 := hbl.frozen (skip + k + 1)
      obtain ⟨y0, y1⟩ := HL.out (skip + k) (by omega)
      obtain ⟨x0, x1⟩ := HF.out k hlt
      rw [hx] at x0 x1
      rw [hy] at y0 y1
      obtain ⟨L, Z, H, eL, L0, L1, eZ, Z0, Z1, eH, H0, H1, HH, HZ2⟩ := shl_nums x y s x0 x1 s0 s1 y0 (by rw [← hy]; exact HT.out)
      have HX := hid hx
      have HY := hid hy
      clear hx hy hr
      have hcelb2 : ∀ (v : Value), (wr.setCell ⟨w.heap.size, skip + k, none⟩ v).cell? ⟨b, ob + k, none⟩ = some (.int .u64 x) := fun v => by
        rw [World.cell?_of_block (Below.heap_setCell _ _ _ _ (by simp; omega))]; exact hcelb
      have hcelb3 : ∀ (v : Value), (wr.setCell ⟨w.heap.size, skip + k, none⟩ v).drew.cell? ⟨b, ob + k, none⟩ = some (.int .u64 x) := hcelb2
      have hcell2 : wr.cell? ⟨w.heap.size, skip + k + 1, none⟩ = some (.int .u64 0) := by rw [← HZ.out (skip + k + 1) (by omega)]; exact hbl.cell (by omega)
      go_wp2
      go_region
      all_goals
        go_wp2
        go_roundw
        case rel =>
          refine ⟨k + 1, _, by omega, by go_num, ?_, ((hbl.set (skip + k) Z).set (skip + k + 1) H), ?_, ?_, ?_, ?_⟩
          · exact below_only hbel ((((Only.refl _ _).setCell _ _ _).setCell _ _ _).drew) (Nat.le_refl _) hbel.size
          · exact (HL.out.upd ⟨Z0, Z1⟩).upd ⟨H0, H1⟩
          · intro j hj
            rw [upd_other _ _ _ _ (by omega), upd_other _ _ _ _ (by omega)]
            exact HZ.out j (by omega)
          · show _ < _
            rw [← Nat.add_assoc, upd_same]; exact HH.out
          · have := shl_step (Q := 2 ^ (64 - s).toNat) HV.out HX.out HY.out (by rw [← Int.pow_add, show s.toNat + (64 - s).toNat = 64 by omega]; rfl)
            rw [← HZ2.out, eH] at this
            exact this
        case measure => simp [intOf]; omega
    · have hkn2 : k = n := by omega
      subst hkn2
      go_wp2_with fail
      refine (trim_res w.heap.size (skip + k + 1) (skip + k + 1) F w wr hbel (Nat.le_refl _) hbl (Nat.le_refl _) (by omega) HL.out).mono ?_
      rintro e w3 ⟨rfl, ao2, m, cap2, rfl, hres, hmn, hv⟩
      have HV3 := hid hv
      clear hv
      go_wp2
      go_ret
      refine ⟨ao2, m, cap2, F, rfl, hres, ?_⟩
      rw [HV3.out, Nat.add_assoc, vf_ahead (fun j hj => HZ.out j (.inl hj)), HV.out]
end Go.Proofs.YtclopblgdiahiaaGreatDoor
namespace Go.Proofs.YtclopblgdiahiaaGreatDoor
open Go.RowKit

/-- The numbers of one round of shrBits. -/
theorem shr_nums (x y s : Int) (x0 : 0 ≤ x) (x1 : x < 18446744073709551616) (s0 : 0 ≤ s) (s1 : s ≤ 63) (y0 : 0 ≤ y) (y1 : y < 2 ^ (64 - s).toNat) :
    ∃ L Z H, IntKind.u64.wrap (x * 2 ^ (64 - s).toNat) = L ∧ 0 ≤ L ∧ L < 18446744073709551616 ∧ bits BinOp.or .u64 y L = Z ∧ 0 ≤ Z ∧ Z < 18446744073709551616 ∧ x / 2 ^ s.toNat = H ∧ 0 ≤ H ∧ H < 18446744073709551616 ∧ Hid (H < 2 ^ (64 - s).toNat) ∧ Hid (Z = y + x % 2 ^ s.toNat * 2 ^ (64 - s).toNat) := by
  have hPQ : (2 : Int) ^ (64 - s).toNat * 2 ^ s.toNat = 18446744073709551616 := by rw [← Int.pow_add, show (64 - s).toNat + s.toNat = 64 by omega]; rfl
  have p0 : (0 : Int) < 2 ^ (64 - s).toNat := Int.pow_pos (by decide)
  have q0 : (0 : Int) < 2 ^ s.toNat := Int.pow_pos (by decide)
  obtain ⟨c1, c2, c3, c4, c5⟩ := limb_cut x0 x1 hPQ p0 q0
  have hP : (2 : Int) ^ (64 - s).toNat ≤ 18446744073709551616 := by
    rw [← hPQ]
    have := Int.mul_le_mul_of_nonneg_left (show (1 : Int) ≤ 2 ^ s.toNat by omega) (Int.le_of_lt p0)
    omega
  have hL : IntKind.u64.wrap (x * 2 ^ (64 - s).toNat) = x % 2 ^ s.toNat * 2 ^ (64 - s).toNat := by rw [IntKind.wrap_u64, c1]
  refine ⟨_, _, _, hL, c4, by omega, ?_, ?_, ?_, rfl, c2, by omega, c3, rfl⟩
  · rw [or_comm64 y, bits_join .u64 64 (by decide) wraps_u64 (64 - s).toNat _ _ c4 (Int.mul_emod_left _ _) (by omega) y0 y1 (by omega), Int.add_comm]
  · omega
  · omega

theorem shr_step {D a : Nat → Int} {j : Nat} {P Q x y r : Int} (hv : vf D (j + 1) * P + r = vf a (j + 1)) (hx : a (j + 1) = x) (hy : D j = y) (hPQ : Q * P = 18446744073709551616) :
    vf (upd (upd D (j + 1) (x / P)) j (y + x % P * Q)) (j + 1 + 1) * P + r = vf a (j + 1 + 1) := by
  have e1 : vf (upd (upd D (j + 1) (x / P)) j (y + x % P * Q)) j = vf D j := vf_congr (fun i hi => by rw [upd_other _ _ _ _ (by omega), upd_other _ _ _ _ (by omega)])
  have e2 : upd (upd D (j + 1) (x / P)) j (y + x % P * Q) (j + 1) = x / P := by rw [upd_other _ _ _ _ (by omega), upd_same]
  rw [vf_succ, vf_succ, e1, e2, upd_same, vf_succ a (j + 1), hx, ← hv, vf_succ D j, hy, pw_succ, ← hPQ]
  have e4 := Int.mul_ediv_add_emod x P
  have e5 : x * (Q * P * pw j) = (P * (x / P) + x % P) * (Q * P * pw j) := by rw [e4]
  rw [e5]
  grind
theorem shr_step0 {D a : Nat → Int} {P x : Int} (hx : a 0 = x) : vf (upd D 0 (x / P)) 1 * P + x % P = vf a 1 := by
  have e4 := Int.mul_ediv_add_emod x P
  simp only [vf, pw, upd_same, hx, Int.zero_add, Int.mul_one]
  have : x / P * P = P * (x / P) := Int.mul_comm _ _
  omega

set_option maxRecDepth 100000 in
set_option maxHeartbeats 1000000 in
theorem shrBits_c (ao : Option Addr) (n cap : Nat) (s : Int) (f : Nat → Int) (w : World) (hn : n ≤ 17592186044416) (s0 : 0 ≤ s) (s1 : s ≤ 63) (hr : Rd .u64 w ao n f) (hf : Lm f n) :
    Calls Tryz.prog 155 #[.slice ao n cap, .int .i64 s] w fun e w' => ∃ ao' m cap' f' r, e = .returned (.slice ao' m cap') ∧ Res n w w' ao' m cap' f' ∧ 0 ≤ r ∧ r < 2 ^ s.toNat ∧ vf f' m * 2 ^ s.toNat + r = vf f n := by
  have HF := hid hf
  have HRd := hid hr
  clear hf hr
  have P0 : Hid ((0 : Int) < 2 ^ s.toNat) := Int.pow_pos (by decide)
  have Q0 : Hid ((0 : Int) < 2 ^ (64 - s).toNat) := Int.pow_pos (by decide)
  go_enter Tryz.func155, Tryz.ntmps155
  go_wp2_with (at_make; refine wpList_make_blk .u64 w rfl (.tmp 8) (.tmp 8) 22 rfl 28 8 Tryz.underlying22 Tryz.infoU64 .i64 .i64 _ _ n rfl rfl rfl rfl (by omega) (by unfold maxLen; omega) ?_; intro w1 hb1 hbel1)
  go_loopw [12] (fun t wr => ∃ (k : Nat) (D : Nat → Int) (r : Int), k ≤ n ∧ t = .int .i64 k ∧ Below w.heap.size w wr ∧ Blk .u64 28 wr w.heap.size n D ∧ Hid (Lm D n) ∧ Hid (0 ≤ r ∧ r < 2 ^ s.toNat) ∧ Hid (∀ j, j + 1 = k → D j < 2 ^ (64 - s).toNat) ∧ Hid (vf D k * 2 ^ s.toNat + r = vf f k)) (fun t _ => n - (intOf t).toNat)
  case atStart => exact ⟨0, fun _ => 0, 0, by omega, rfl, hbel1, hb1, fun j hj => ⟨Int.le_refl 0, show (0 : Int) < 18446744073709551616 by decide⟩, ⟨Int.le_refl 0, P0.out⟩, fun j hj => by omega, by simp [Hid, vf]⟩
  case round =>
    clear hb1 hbel1
    obtain ⟨k, D, r, hkn, rfl, hbel, hbl, HL, HR, HT, HV⟩ := hrel
    by_cases hlt : k < n
    · have hr := HRd.out
      obtain ⟨b, ob, rfl⟩ := hr.at (by omega)
      have hbw : b < w.heap.size := World.block_lt_of_cell? w _ (hr.cell hlt)
      have hrr := hid (hr.below hbel (Nat.le_refl _))
      clear hr
      cases k with
      | zero =>
        obtain ⟨x, hx⟩ : ∃ x, f 0 = x := ⟨_, rfl⟩
        have hcelb : wr.cell? ⟨b, ob, none⟩ = some (.int .u64 x) := by rw [← hx]; exact hrr.out.cell hlt
        have hcell := hbl.cell (j := 0) hlt
        have hfz := hbl.frozen 0
        obtain ⟨x0, x1⟩ := HF.out 0 hlt
        rw [hx] at x0 x1
        obtain ⟨L, Z, H, eL, L0, L1, eZ, Z0, Z1, eH, H0, H1, HH, HZ2⟩ := shr_nums x 0 s x0 x1 s0 s1 (Int.le_refl _) Q0.out
        have HX := hid hx
        clear hx
        go_wp2
        go_roundw
        case rel =>
          refine ⟨1, _, x % 2 ^ s.toNat, by omega, by go_num, below_only hbel ((Only.refl _ _).setCell _ _ _) (Nat.le_refl _) hbel.size, hbl.set 0 H, HL.out.upd ⟨H0, H1⟩, ⟨Int.emod_nonneg _ (by have := P0.out; omega), Int.emod_lt_of_pos _ P0.out⟩, fun j hj => ?_, ?_⟩
          · obtain rfl : j = 0 := by omega
            rw [upd_same]; exact HH.out
          · rw [← eH]; exact shr_step0 HX.out
        case measure => simp [intOf]; omega
      | succ j =>
        obtain ⟨x, hx⟩ : ∃ x, f (j + 1) = x := ⟨_, rfl⟩
        obtain ⟨y, hy⟩ : ∃ y, D j = y := ⟨_, rfl⟩
        have hcelb : wr.cell? ⟨b, ob + (j + 1), none⟩ = some (.int .u64 x) := by rw [← hx]; exact hrr.out.cell hlt
        have hcell := hbl.cell (j := j + 1) hlt
        have hcely : wr.cell? ⟨w.heap.size, j, none⟩ = some (.int .u64 y) := by rw [← hy]; exact hbl.cell (by omega)
        have hfz := hbl.frozen (j + 1)
        have hfz2 := hbl.frozen j
        obtain ⟨x0, x1⟩ := HF.out (j + 1) hlt
        obtain ⟨y0, y1⟩ := HL.out j (by omega)
        rw [hx] at x0 x1
        rw [hy] at y0 y1
        obtain ⟨L, Z, H, eL, L0, L1, eZ, Z0, Z1, eH, H0, H1, HH, HZ2⟩ := shr_nums x y s x0 x1 s0 s1 y0 (by rw [← hy]; exact HT.out j rfl)
        have HX := hid hx
        have HY := hid hy
        clear hx hy
        have hcelb2 : ∀ (v : Value), (wr.setCell ⟨w.heap.size, j + 1, none⟩ v).cell? ⟨b, ob + (j + 1), none⟩ = some (.int .u64 x) := fun v => by
          rw [World.cell?_of_block (Below.heap_setCell _ _ _ _ (by simp; omega))]; exact hcelb
        go_wp2
        go_region
        all_goals
          go_wp2
          go_roundw
          case rel =>
            refine ⟨j + 1 + 1, _, r, by omega, by go_num, ?_, ((hbl.set (j + 1) H).set j Z), ?_, HR.out, fun i hi => ?_, ?_⟩
            · exact below_only hbel ((((Only.refl _ _).setCell _ _ _).setCell _ _ _).drew) (Nat.le_refl _) hbel.size
            · exact (HL.out.upd ⟨H0, H1⟩).upd ⟨Z0, Z1⟩
            · obtain rfl : i = j + 1 := by omega
              rw [upd_other _ _ _ _ (by omega), upd_same]; exact HH.out
            · have := shr_step (Q := 2 ^ (64 - s).toNat) HV.out HX.out HY.out (by rw [← Int.pow_add, show (64 - s).toNat + s.toNat = 64 by omega]; rfl)
              rw [← HZ2.out, eH] at this
              exact this
          case measure => simp [intOf]; omega
    · have hkn2 : k = n := by omega
      subst hkn2
      go_wp2_with fail
      refine (trim_res w.heap.size k k D w wr hbel (Nat.le_refl _) hbl (Nat.le_refl _) (by omega) HL.out).mono ?_
      rintro e w3 ⟨rfl, ao2, m, cap2, rfl, hres, hmn, hv⟩
      have HV3 := hid hv
      clear hv
      go_wp2
      go_ret
      exact ⟨ao2, m, cap2, D, r, rfl, hres, HR.out.1, HR.out.2, by rw [HV3.out, HV.out]⟩
end Go.Proofs.YtclopblgdiahiaaGreatDoor
namespace Go.Proofs.YtclopblgdiahiaaGreatDoor
open Go.RowKit

theorem top_zero {f : Nat → Int} {m : Nat} (h : Lm f (m + 1)) (hv : vf f (m + 1) < pw m) : f m = 0 ∧ vf f m = vf f (m + 1) := by
  have h0 := vf_nonneg (h.mono (m := m) (by omega))
  have h1 := h m (by omega)
  rw [vf_succ] at hv ⊢
  have hz : f m = 0 := by
    apply Int.le_antisymm _ h1.1
    apply Int.le_of_lt_add_one
    apply Int.lt_of_not_ge
    intro hge
    have : 1 * pw m ≤ f m * pw m := Int.mul_le_mul_of_nonneg_right (by omega) (Int.le_of_lt (pw_pos m))
    omega
  rw [hz]; simp
theorem top_ge {f : Nat → Int} {k : Nat} {c : Int} (h : Lm f (k + 1)) (hv : c * pw k ≤ vf f (k + 1)) : c ≤ f k := by
  apply Int.le_of_lt_add_one
  have h1 := vf_lt (h.mono (m := k) (by omega))
  rw [vf_succ] at hv
  have : c * pw k < (f k + 1) * pw k := by rw [Int.add_mul, Int.one_mul]; omega
  exact Int.lt_of_mul_lt_mul_right this (Int.le_of_lt (pw_pos k))
theorem win_val {U U' : Nat → Int} {p l N : Nat} {X : Int} (hN : p + l ≤ N) (he : ∀ j, j < p ∨ p + l ≤ j → U' j = U j) (hv : vf (sh U' p) l = vf (sh U p) l - X) : vf U' N = vf U N - X * pw p := by
  obtain ⟨r, rfl⟩ := Nat.exists_eq_add_of_le hN
  rw [Nat.add_assoc, vf_split U' p, vf_split U p, vf_split (sh U' p) l, vf_split (sh U p) l, sh_sh, sh_sh, vf_congr (f := U') (g := U) (n := p) (fun j hj => he j (by omega)), vf_congr (f := sh U' (p + l)) (g := sh U (p + l)) (n := r) (fun j hj => he _ (by omega)), hv]
  grind
theorem vf_upd {Q : Nat → Int} {p N : Nat} {t : Int} (hp : p < N) (h0 : Q p = 0) : vf (upd Q p t) N = vf Q N + t * pw p := by
  have := win_val (U := Q) (U' := upd Q p t) (p := p) (l := 1) (N := N) (X := -t) (by omega) (fun j hj => upd_other _ _ _ _ (by omega)) (by simp [vf, pw, sh, upd, h0])
  rw [this]; grind

theorem norm_V {h : Nat → Int} {k : Nat} {y P : Int} (hl : Lm h (k + 1)) (hy : h k = y) (p0 : 0 < P) (h1 : 9223372036854775808 ≤ y * P) (h2 : (y + 1) * P ≤ 18446744073709551616) : 9223372036854775808 * pw k ≤ vf h (k + 1) * P ∧ vf h (k + 1) * P < pw (k + 1) := by
  have lo := vf_nonneg (hl.mono (m := k) (by omega))
  have hi := vf_lt (hl.mono (m := k) (by omega))
  have pk := pw_pos k
  rw [vf_succ, hy, pw_succ, Int.add_mul]
  have e0 : 0 ≤ vf h k * P := Int.mul_nonneg lo (Int.le_of_lt p0)
  have e1 : 9223372036854775808 * pw k ≤ y * P * pw k := Int.mul_le_mul_of_nonneg_right h1 (Int.le_of_lt pk)
  have e2 : (y + 1) * P * pw k ≤ 18446744073709551616 * pw k := Int.mul_le_mul_of_nonneg_right h2 (Int.le_of_lt pk)
  have e3 : y * pw k * P = y * P * pw k := by grind
  have e4 : (y + 1) * P * pw k = y * P * pw k + pw k * P := by grind
  have e5 : vf h k * P < pw k * P := (Int.mul_lt_mul_right p0).2 hi
  rw [e3]
  omega
theorem norm_len {fv : Nat → Int} {kv k : Nat} {V : Int} (hl : Lm fv kv) (hf : Fm fv kv) (hv : vf fv kv = V) (h1 : 9223372036854775808 * pw k ≤ V) (h2 : V < pw (k + 1)) : kv = k + 1 := by
  have pk := pw_pos k
  have a : k + 1 ≤ kv := by
    apply Nat.le_of_not_lt; intro hlt
    have b1 := vf_lt hl
    have b2 := pw_mono (show kv ≤ k by omega)
    omega
  have b : kv ≤ k + 1 := by
    apply Nat.le_of_not_lt; intro hlt
    have b1 := vf_form_ge hl hf (by omega)
    have b2 := pw_mono (show k + 1 ≤ kv - 1 by omega)
    omega
  omega
/-- The highest limbs are less than the divisor. -/
theorem first_top {U : Nat → Int} {lq k : Nat} {A P V : Int} (hU : Lm U (lq + (k + 1))) (hv : vf U (lq + (k + 1)) = A * P) (hA : A < pw (lq + k)) (p0 : 0 < P) (p1 : P ≤ 9223372036854775808) (hV : 9223372036854775808 * pw k ≤ V) : vf (sh U lq) (k + 1) < V := by
  have lo := vf_nonneg (hU.mono (m := lq) (by omega))
  rw [vf_split] at hv
  have e1 : A * P < pw (lq + k) * P := (Int.mul_lt_mul_right p0).2 hA
  have e2 : P * pw k ≤ 9223372036854775808 * pw k := Int.mul_le_mul_of_nonneg_right p1 (Int.le_of_lt (pw_pos k))
  have e3 : P * pw k * pw lq ≤ V * pw lq := Int.mul_le_mul_of_nonneg_right (by omega) (Int.le_of_lt (pw_pos lq))
  have e4 : pw (lq + k) * P = P * pw k * pw lq := by rw [pw_add]; grind
  have : vf (sh U lq) (k + 1) * pw lq < V * pw lq := by omega
  exact Int.lt_of_mul_lt_mul_right this (Int.le_of_lt (pw_pos lq))
theorem win_lt {U : Nat → Int} {p m : Nat} {V : Int} (hU : Lm U (p + 1)) (h : vf (sh U (p + 1)) m < V) : vf (sh U p) (m + 1) < V * 18446744073709551616 := by
  have := hU p (by omega)
  rw [vf_cons]; omega

/-- Leading noughts of a limb. -/
theorem lead_nums (y : Nat) (y0 : 0 < y) (y1 : y < 18446744073709551616) : ∃ s : Int, 0 ≤ s ∧ s ≤ 63 ∧ (64 - (Lib.bitLen y : Int)) = s ∧ 9223372036854775808 ≤ (y : Int) * 2 ^ s.toNat ∧ ((y : Int) + 1) * 2 ^ s.toNat ≤ 18446744073709551616 := by
  obtain ⟨b, hb⟩ : ∃ b, Lib.bitLen y = b := ⟨_, rfl⟩
  obtain ⟨b1, b2, b3⟩ := bitLen_bounds b y hb y0 y1
  have b64 : b ≤ 64 := by rw [← hb]; exact Lib.bitLen_le y 64 (by omega) (by omega)
  rw [hb]
  have es : (64 - (b : Int)).toNat = 64 - b := by omega
  refine ⟨64 - (b : Int), by omega, by omega, rfl, ?_, ?_⟩
  · rw [es]
    have e1 : (2 : Int) ^ (b - 1) * 2 ^ (64 - b) = 9223372036854775808 := by rw [← Int.pow_add, show b - 1 + (64 - b) = 63 by omega]; rfl
    have e2 : (2 : Int) ^ (b - 1) ≤ y := by exact_mod_cast b2
    have := Int.mul_le_mul_of_nonneg_right e2 (Int.le_of_lt (show (0 : Int) < 2 ^ (64 - b) from Int.pow_pos (by decide)))
    omega
  · rw [es]
    have e1 : (2 : Int) ^ b * 2 ^ (64 - b) = 18446744073709551616 := by rw [← Int.pow_add, show b + (64 - b) = 64 by omega]; rfl
    have e2 : (y : Int) + 1 ≤ 2 ^ b := by exact_mod_cast b3
    have := Int.mul_le_mul_of_nonneg_right e2 (Int.le_of_lt (show (0 : Int) < 2 ^ (64 - b) from Int.pow_pos (by decide)))
    omega
end Go.Proofs.YtclopblgdiahiaaGreatDoor
namespace Go.Proofs.YtclopblgdiahiaaGreatDoor
open Go.RowKit

/-- Quotient and rest out of what is left of the shifted numbers. -/
theorem rest_of {A B P V U q R r : Int} (p0 : 0 < P) (hV : V = B * P) (h : U + V * q = A * P) (hU : U < V) (hR : R * P + r = U) (r0 : 0 ≤ r) (r1 : r < P) : A = q * B + R ∧ R < B := by
  have e1 : (A - q * B) * P = U := by rw [Int.sub_mul]; rw [hV] at h; have : q * B * P = B * P * q := by grind
                                      omega
  have e2 : U / P = A - q * B := by rw [← e1]; exact Int.mul_ediv_cancel _ (by omega)
  have e3 : U / P = R := by rw [← hR, Int.add_comm, Int.add_mul_ediv_right _ _ (by omega), Int.ediv_eq_zero_of_lt r0 r1]; omega
  refine ⟨by omega, ?_⟩
  have : R * P < B * P := by rw [← hV]; omega
  exact Int.lt_of_mul_lt_mul_right this (Int.le_of_lt p0)

set_option maxRecDepth 100000 in
set_option maxHeartbeats 8000000 in
theorem divLong_cA (ao bo : Option Addr) (n m ca cb : Nat) (f h : Nat → Int) (w : World) (hn : n ≤ 8796093022208) (hm : m ≤ 8796093022208) (hr : Rd .u64 w ao n f) (hs : Rd .u64 w bo m h) (hf : Lm f n) (hh : Lm h m) (fh : Fm h m) (h2 : 2 ≤ m) (hle : vf h m ≤ vf f n) :
    Calls Tryz.prog 134 #[.slice ao n ca, .slice bo m cb] w fun e w' => ∃ a1 k1 c1 q a2 k2 c2 r, e = .returned (.tuple #[.slice a1 k1 c1, .slice a2 k2 c2]) ∧ Res n w w' a1 k1 c1 q ∧ Res (n + 1) w w' a2 k2 c2 r ∧ vf f n = vf q k1 * vf h m + vf r k2 ∧ 0 ≤ vf r k2 ∧ vf r k2 < vf h m ∧ Apart a1 a2 := by
  have hmn : m ≤ n := vf_len hh hf fh hle
  obtain ⟨k, rfl⟩ : ∃ k, m = k + 1 := ⟨m - 1, by omega⟩
  obtain ⟨lq, rfl⟩ : ∃ lq, n = lq + k := ⟨n - k, by omega⟩
  obtain ⟨b, ob, rfl⟩ := hs.at (by omega)
  obtain ⟨y, hy⟩ : ∃ y, h k = y := ⟨_, rfl⟩
  have hcell : w.cell? ⟨b, ob + k, none⟩ = some (.int .u64 y) := by rw [← hy]; exact hs.cell (by omega)
  have hy01 := hh k (by omega)
  have hyne : y ≠ 0 := by rw [← hy]; rcases fh with h | h; omega; simpa using h
  rw [hy] at hy01
  obtain ⟨y, rfl⟩ := Int.eq_ofNat_of_zero_le hy01.1
  obtain ⟨s, s0, s1, hse, hP1, hP2⟩ := lead_nums y (by omega) (by omega)
  have cl := Tryz.bits_LeadingZeros64 (y : Int) w (by omega) (by omega)
  rw [Int.toNat_natCast, hse] at cl
  obtain ⟨P, hP⟩ : ∃ P : Int, 2 ^ s.toNat = P := ⟨_, rfl⟩
  have p0 : 0 < P := by rw [← hP]; exact Int.pow_pos (by decide)
  have p1 : P ≤ 9223372036854775808 := by
    rw [← hP]
    have e1 : (2 : Int) ^ s.toNat * 2 ^ (63 - s).toNat = 9223372036854775808 := by rw [← Int.pow_add, show s.toNat + (63 - s).toNat = 63 by omega]; rfl
    have e2 : (0 : Int) < 2 ^ (63 - s).toNat := Int.pow_pos (by decide)
    have := Int.mul_le_mul_of_nonneg_left (show (1 : Int) ≤ 2 ^ (63 - s).toNat by omega) (Int.le_of_lt (show (0 : Int) < 2 ^ s.toNat from Int.pow_pos (by decide)))
    omega
  have hP1' : 9223372036854775808 ≤ (y : Int) * P := by rw [← hP]; exact hP1
  have hP2' : ((y : Int) + 1) * P ≤ 18446744073709551616 := by rw [← hP]; exact hP2
  obtain ⟨hV1, hV2⟩ := norm_V hh hy p0 hP1' hP2'
  have hA := vf_lt hf
  have CL := hid cl; have HF := hid hf; have HH := hid hh; have HR := hid hr; have HS := hid hs; have HP := hid hP; have PP0 := hid p0; have PP1 := hid p1; have HV1 := hid hV1; have HV2 := hid hV2; have HA := hid hA
  clear cl hf hh hr hs hP p0 p1 hV1 hV2 hA hP1 hP2 hP1' hP2' hse fh hle hy
  go_enter Tryz.func134, Tryz.ntmps134
  go_wp2_with fail
  refine CL.out.mono ?_
  rintro e w' ⟨rfl, rfl⟩
  go_wp2_with fail
  refine (shl_c (some ⟨b, ob, none⟩) (k + 1) cb 0 s s h _ (by omega) (by omega) s0 s1 (by omega) HS.out HH.out).mono ?_
  rintro e w1 ⟨av, kv, cv, fv, rfl, hresv, hvv⟩
  rw [HP.out] at hvv
  have hvv2 : vf fv kv = vf h (k + 1) * P := by rw [hvv]; simp [pw]
  have hkv := norm_len hresv.lm hresv.fm hvv2 HV1.out HV2.out
  subst hkv
  have htop := top_ge hresv.lm (by rw [hvv2]; exact HV1.out)
  obtain ⟨gv, hav, hgv0, hgv, hblv⟩ : ∃ gv, av = some ⟨gv, 0, none⟩ ∧ w'.heap.size ≤ gv ∧ gv < w1.heap.size ∧ Rd .u64 w1 (some ⟨gv, 0, none⟩) (k + 1) fv := by
    rcases hresv.own with ⟨_, h, _⟩ | ⟨g, e, hg, _, hn, _, hb⟩
    · omega
    · exact ⟨g, e, hg, hb.lt, hb.rd0 hn⟩
  subst hav
  have HVV := hid hvv2; have HTop := hid htop; have HRv := hid hblv; have LV := hid hresv.lm; have BV := hid hresv.bel
  have HR1 := hid (HR.out.below BV.out (Nat.le_refl _))
  clear hvv hvv2 htop hblv hresv CL hcell HS HR
  go_wp2_with fail
  refine (shl_c ao (lq + k) ca 0 s s f w1 (by omega) (by omega) s0 s1 (by omega) HR1.out HF.out).mono ?_
  rintro e w2 ⟨au, ku, cu, fu, rfl, hresu, hvu⟩
  rw [HP.out] at hvu
  have hvu2 : vf fu ku = vf f (lq + k) * P := by rw [hvu]; simp [pw]
  have hkul : ku ≤ lq + k + 1 := by have := hresu.le; omega
  have HVU := hid hvu2; have HRu := hid hresu.rd; have LU := hid hresu.lm; have BU := hid hresu.bel
  have HRv2 := hid (HRv.out.below BU.out (Nat.le_refl _))
  clear hvu hvu2 hresu HR1 HRv
  go_wp2_with fail
  refine (padded_c au ku cu (lq + k + 1) _ fu w2 (by omega) hkul (by omega) HRu.out).mono ?_
  rintro e w3 ⟨rfl, hbel3, hb3⟩
  have HRv3 := hid (HRv2.out.below hbel3 (Nat.le_refl _))
  have BP := hid hbel3; have HB3 := hid hb3
  clear HRv2 HRu hbel3 hb3
  go_wp2_with (at_make; refine wpList_make_blk .u64 w3 rfl (.tmp 35) (.tmp 35) 22 rfl 28 8 Tryz.underlying22 Tryz.infoU64 .i64 .i64 _ _ lq rfl rfl (by omega) (by omega) (by omega) (by unfold maxLen; omega) ?_; intro w4 hb4 hbel4)
  have G3 : w2.heap.size < w3.heap.size := HB3.out.lt
  have G4 : w3.heap.size < w4.heap.size := hb4.lt
  have z1 := BV.out.size; have z2 := BU.out.size
  have HB4 := hid (HB3.out.below hbel4 G3)
  have HRv4 := hid (HRv3.out.below hbel4 (Nat.le_refl _))
  have BALL := hid (BV.out.trans ((BU.out.mono z1).trans ((BP.out.mono (by omega)).trans (hbel4.mono (by omega)))))
  obtain ⟨V, hV⟩ : ∃ V, vf h (k + 1) * P = V := ⟨_, rfl⟩
  have hval0 : vf (ext fu ku) (lq + (k + 1)) = vf f (lq + k) * P := by rw [vf_ext_list _ _ _ (by omega), HVU.out]
  have hL0 : Lm (ext fu ku) (lq + (k + 1)) := fun j hj => by
    by_cases hjn : j < ku
    · rw [ext_in _ _ _ hjn]; exact LU.out j hjn
    · rw [ext_out _ _ _ (by omega)]; omega
  have htop0 := first_top hL0 hval0 HA.out PP0.out PP1.out (V := V) (by rw [← hV]; exact HV1.out)
  have VAL0 := hid hval0; have L0 := hid hL0; have TOP0 := hid htop0; have VV := hid hV; have HB4q := hid hb4
  have hVlt : V < pw (k + 1) := by rw [← hV]; exact HV2.out
  have hvfv : vf fv (k + 1) = V := by rw [HVV.out, hV]
  have VLT := hid hVlt; have VFV := hid hvfv
  clear hval0 hL0 htop0 hV hb4 hVlt hvfv HB3 HRv3 BV BU BP HVV HV1 HV2 HVU LU hbel4
  generalize hG : w2.heap.size = G at G3 G4 z2 HB4 ⊢
  generalize hH : w3.heap.size = H at G3 G4 HB4q ⊢
  clear hG hH
  go_loopw [39] (fun t wr => ∃ (i : Nat) (U Q : Nat → Int), i ≤ lq ∧ t = .int .i64 i ∧ Below w'.heap.size w' wr ∧ Hid (w4.heap.size ≤ wr.heap.size) ∧ Hid (Blk .u64 28 wr G (lq + k + 1) U) ∧ Hid (Lm U (lq + k + 1)) ∧ Hid (Blk .u64 28 wr H lq Q) ∧ Hid (Lm Q lq) ∧ Hid (Rd .u64 wr (some ⟨gv, 0, none⟩) (k + 1) fv) ∧ Hid (∀ j, j < lq - i → Q j = 0) ∧ Hid (∀ j, lq - i + (k + 1) ≤ j → j < lq + k + 1 → U j = 0) ∧ Hid (vf (sh U (lq - i)) (k + 1) < V) ∧ Hid (vf U (lq + k + 1) + V * vf Q lq = vf f (lq + k) * P)) (fun t _ => lq - (intOf t).toNat)
  case atStart => exact ⟨0, ext fu ku, fun _ => 0, by omega, rfl, BALL.out, Nat.le_refl _, HB4.out, L0.out, HB4q.out, lm_zero _, HRv4.out, fun _ _ => rfl, fun j h1 h2 => by omega, TOP0.out, (by show _ = _; rw [vf_zero (f := fun _ => 0) (fun _ _ => rfl), VAL0.out.symm]; simp; rfl)⟩
  case round =>
    clear BALL HB4 L0 HB4q HRv4 TOP0 VAL0
    obtain ⟨i, U, Q, hi, rfl, hbel, HSz, HBU, HLU, HBQ, HLQ, HRv, HQz, HUz, HTp, HVal⟩ := hrel
    by_cases hlt : i < lq
    · obtain ⟨p, hp⟩ : ∃ p, lq - i = p + 1 := ⟨lq - i - 1, by omega⟩
      have hpi : (lq : Int) - 1 - (i : Int) = (p : Int) := by omega
      have hp2 : p < lq := by omega
      have hp3 : ¬ (p = lq + k + 1) := by omega
      have HPe := hid hp
      clear hp
      have hw := win_lt (p := p) (HLU.out.mono (by omega)) (by rw [← HPe.out]; exact HTp.out)
      have HW := hid hw
      clear hw
      have hbl := HBU.out
      have z3 := HSz.out
      go_wp2_with fail
      rw [show p + (k + 1) + 1 - p = k + 1 + 1 by omega]
      refine (takeOut_c G p (k + 1) (lq + k + 1 - p) (lq + k + 1) U gv 0 cv fv wr HBU.out HLU.out (by omega) (by omega) (by omega) (by omega) HRv.out LV.out (by omega) h2 HTop.out (by rw [VFV.out]; exact HW.out)).mono ?_
      rintro e w5 ⟨t, rfl, ht0, ht1, hon, U', hbu', hlu', heu', hvu', hlt'⟩
      rw [VFV.out] at hvu' hlt'
      have hbq' := HBQ.out.only hon (by omega)
      have hcelq := hbq'.cell (j := p) hp2
      have hfzq := hbq'.frozen p
      obtain ⟨hz, hzv⟩ := top_zero (hlu'.sh (o := p) (m := k + 1 + 1) (by omega)) (Int.lt_trans hlt' VLT.out)
      have hbel5 : Below w'.heap.size w' w5 := below_only hbel hon (by omega) hbel.size
      have HB5 := hid hbu'; have HQ5 := hid hbq'; have HL5 := hid hlu'; have HE5 := hid heu'; have HV5 := hid hvu'; have HLT5 := hid hlt'; have HZ5 := hid hz; have HZV5 := hid hzv; have HON := hid hon
      have HR5 := hid (HRv.out.only hon (off_some (by omega)))
      clear hbu' hbq' hlu' heu' hvu' hlt' hz hzv hon hbl
      go_wp2
      go_roundw
      case rel =>
        refine ⟨i + 1, U', upd Q p t, by omega, by go_num, below_only hbel5 ((Only.refl _ _).setCell _ _ _) (by omega) hbel5.size, ?_, HB5.out.setOther (by simp; omega) _, HL5.out, HQ5.out.set p t, HLQ.out.upd ⟨ht0, ht1⟩, HR5.out.only ((Only.refl _ _).setCell _ _ _) (off_some (by omega)), ?_, ?_, ?_, ?_⟩
        · have := HON.out.size
          show _ ≤ _
          simp [World.setCell]; omega
        · intro j hj
          have := HPe.out
          rw [upd_other _ _ _ _ (by omega)]
          exact HQz.out j (by omega)
        · intro j h1 h2
          have hpe := HPe.out
          by_cases hj : j = p + (k + 1)
          · subst hj; exact HZ5.out
          · rw [HE5.out j (by omega)]
            exact HUz.out j (by omega) h2
        · have hpe := HPe.out
          show _ < _
          rw [show lq - (i + 1) = p by omega, HZV5.out]; exact HLT5.out
        · have e1 := win_val (N := lq + k + 1) (by omega) HE5.out HV5.out
          have e2 := vf_upd (Q := Q) (N := lq) (t := t) hp2 (HQz.out p (by have := HPe.out; omega))
          have e3 := HVal.out
          show _ = _
          rw [e1, e2, Int.mul_add, ← e3]
          grind
      case measure => simp [intOf]; omega
    · have hil : i = lq := by omega
      subst hil
      have z3 := HSz.out
      have hUz : vf U (i + k + 1) = vf U (k + 1) := vf_ext (by omega) (fun j h1 h2 => HUz.out j (by omega) h2)
      have hTp := HTp.out
      rw [Nat.sub_self, sh_zero] at hTp
      have hVal := HVal.out
      rw [hUz] at hVal
      have TPE := hid hTp; have VALE := hid hVal
      clear hUz hTp hVal
      have i1 : ((k + 1 : Nat) : Int) ≤ ((i + k + 1 : Nat) : Int) := by omega
      go_wp2_with fail
      go_region_with (first | (go_at_call_of 137 H; refine (trim_res H i i Q w' _ (by repeat (first | exact hbel | refine below_drewN ?_ _ | refine Below.drew ?_)) (by omega) (by exact HBQ.out) (Nat.le_refl _) (by omega) HLQ.out).mono ?_; rintro e w6 ⟨rfl, a1, k1, c1, rfl, hres1, hk1, hv1⟩; have HRes1 := hid hres1; have HVq := hid hv1; clear hres1 hv1) | (go_at_call_of 137 G; refine (trim_res G (i + k + 1) (k + 1) U w' _ (by repeat (first | exact hbel | refine below_drewN ?_ _ | refine Below.drew ?_)) (by omega) (by exact HBU.out) (by omega) (by omega) HLU.out).mono ?_; rintro e w6 ⟨rfl, a2, k2, c2, rfl, hres2, hk2, hv2⟩; have HRes2 := hid hres2; have HVr := hid hv2; clear hres2 hv2) | (go_at_call 155; refine (shrBits_c a2 k2 c2 s U _ (by omega) s0 s1 (by exact HRes2.out.rd) HRes2.out.lm).mono ?_; rintro e w7 ⟨a3, k3, c3, R, r, rfl, hres3, r0, r1, hv3⟩; have HRes3 := hid hres3; have HV3 := hid hv3; clear hres3 hv3))
      all_goals
        go_wp2
        go_ret2
        have B := HRes3.out.bel
        have e3 := HV3.out
        rw [HP.out, HVr.out] at e3
        rw [HP.out] at r1
        obtain ⟨g1, g2⟩ := rest_of PP0.out VV.out.symm VALE.out TPE.out e3 r0 r1
        refine ⟨a1, k1, c1, Q, a3, k3, c3, R, rfl, (HRes1.out.later ⟨B.os, B.tape, B.output, B.size, B.block⟩).mono (by omega), (HRes3.out.ahead (by repeat (first | exact hbel | refine below_drewN ?_ _ | refine Below.drew ?_))).mono (by omega), ?_, vf_nonneg HRes3.out.lm, g2, HRes3.out.apart HRes1.out.und (Nat.le_refl _)⟩
        rw [HVq.out]; exact g1

/-- divMod: for all numbers. -/
theorem divMod_longA (ao bo : Option Addr) (n m ca cb : Nat) (f h : Nat → Int) (w : World) (hn : n ≤ 8796093022208) (hm : m ≤ 8796093022208) (hr : Rd .u64 w ao n f) (hs : Rd .u64 w bo m h) (hf : Lm f n) (hh : Lm h m) (ff : Fm f n) (fh : Fm h m) (h2 : 2 ≤ m) (hle : vf h m ≤ vf f n) :
    Calls Tryz.prog 112 #[.slice ao n ca, .slice bo m cb] w fun e w' => ∃ a1 k1 c1 q a2 k2 c2 r, e = .returned (.tuple #[.slice a1 k1 c1, .slice a2 k2 c2]) ∧ Res n w w' a1 k1 c1 q ∧ Res (n + 1) w w' a2 k2 c2 r ∧ vf f n = vf q k1 * vf h m + vf r k2 ∧ 0 ≤ vf r k2 ∧ vf r k2 < vf h m ∧ Apart a1 a2 := by
  have cc := cmp_c ao bo n m ca cb f h w (by omega) (by omega) hr hs hf hh ff fh
  have CC := hid cc
  have CL := hid (fun q => divLong_cA ao bo n m ca cb f h (w.drewN q) hn hm hr hs hf hh fh h2 hle)
  have HLe := hid hle
  have h1 : ((m : Int) == 1) = false := by simp; omega
  clear cc hr hs hf hh ff fh hle
  go_enter Tryz.func112, Tryz.ntmps112
  go_wp2_with fail
  refine CC.out.mono ?_
  rintro e w1 ⟨⟨q, rfl⟩, c, rfl, ho⟩
  have hc : 0 ≤ c := by have := HLe.out; unfold Ord at ho; omega
  clear ho
  go_wp2_with fail
  refine (CL.out q).mono ?_
  rintro e w2 ⟨a1, k1, c1, q1, a2, k2, c2, r, rfl, hres1, hres2, hv, hr0, hr1, hap⟩
  have HV := hid hv; have HR0 := hid hr0; have HR1 := hid hr1; have HAP := hid hap
  clear hv hr0 hr1 hap
  go_wp2
  go_ret2
  have hb := below_drewN (Below.refl w.heap.size w) q
  exact ⟨a1, k1, c1, q1, a2, k2, c2, r, rfl, hres1.ahead hb, hres2.ahead hb, HV.out, HR0.out, HR1.out, HAP.out⟩

theorem divMod_cA (ao bo : Option Addr) (n m ca cb : Nat) (f h : Nat → Int) (w : World) (hn : n ≤ 8796093022208) (hm : m ≤ 8796093022208) (hr : Rd .u64 w ao n f) (hs : Rd .u64 w bo m h) (hf : Lm f n) (hh : Lm h m) (ff : Fm f n) (fh : Fm h m) (hm0 : 0 < m) :
    Calls Tryz.prog 112 #[.slice ao n ca, .slice bo m cb] w fun e w' => ∃ a1 k1 c1 q a2 k2 c2 r, e = .returned (.tuple #[.slice a1 k1 c1, .slice a2 k2 c2]) ∧ Res n w w' a1 k1 c1 q ∧ Res (n + 1) w w' a2 k2 c2 r ∧ vf f n = vf q k1 * vf h m + vf r k2 ∧ 0 ≤ vf r k2 ∧ vf r k2 < vf h m ∧ Apart a1 a2 := by
  by_cases hsm : m = 1 ∨ vf f n < vf h m
  · exact divMod_smallA ao bo n m ca cb f h w hn hm hr hs hf hh ff fh hsm
  · exact divMod_longA ao bo n m ca cb f h w hn hm hr hs hf hh ff fh (by omega) (by omega)
theorem divMod_c (ao bo : Option Addr) (n m ca cb : Nat) (f h : Nat → Int) (w : World) (hn : n ≤ 8796093022208) (hm : m ≤ 8796093022208) (hr : Rd .u64 w ao n f) (hs : Rd .u64 w bo m h) (hf : Lm f n) (hh : Lm h m) (ff : Fm f n) (fh : Fm h m) (hm0 : 0 < m) :
    Calls Tryz.prog 112 #[.slice ao n ca, .slice bo m cb] w fun e w' => ∃ a1 k1 c1 q a2 k2 c2 r, e = .returned (.tuple #[.slice a1 k1 c1, .slice a2 k2 c2]) ∧ Res n w w' a1 k1 c1 q ∧ Res (n + 1) w w' a2 k2 c2 r ∧ vf f n = vf q k1 * vf h m + vf r k2 ∧ 0 ≤ vf r k2 ∧ vf r k2 < vf h m :=
  (divMod_cA ao bo n m ca cb f h w hn hm hr hs hf hh ff fh hm0).mono fun _ _ ⟨a1, k1, c1, q, a2, k2, c2, r, h1, h2, h3, h4, h5, h6, _⟩ => ⟨a1, k1, c1, q, a2, k2, c2, r, h1, h2, h3, h4, h5, h6⟩
end Go.Proofs.YtclopblgdiahiaaGreatDoor
namespace Go.Proofs.YtclopblgdiahiaaGreatDoor
open Go.RowKit

set_option maxHeartbeats 800000 in
theorem Mul_c (ao bo : Option Addr) (n m ca cb : Nat) (f h : Nat → Int) (w : World) (hn : n ≤ 1099511627776) (hm : m ≤ 1099511627776) (hca : n ≤ ca) (hcb : m ≤ cb) (hcam : ca ≤ 9223372036854775807) (hcbm : cb ≤ 9223372036854775807) (hr : Rd .u64 w ao n f) (hs : Rd .u64 w bo m h) (hf : Lm f n) (hh : Lm h m) :
    Calls Tryz.prog 86 #[.slice ao n ca, .slice bo m cb] w fun e w' => ∃ ao' k cap' f' er, e = .returned (.tuple #[.slice ao' k cap', .int .i64 er]) ∧ Res (n + m) w w' ao' k cap' f' ∧
      (Fm f n ∧ Fm h m ∧ er = 0 ∧ vf f' k = vf f n * vf h m ∨ ¬ (Fm f n ∧ Fm h m) ∧ er = 3 ∧ k = 0) := by
  have HF := (show Hid (Lm f n) from hf)
  have HH := (show Hid (Lm h m) from hh)
  clear hf hh
  cases hfa : fmB f n
  · have c1 := fun w' hr' => form_c ao n ca f w' (by omega) hr'
    rw [hfa] at c1
    have HN := hid (nfm_of hfa)
    have C1 := hid c1
    clear c1 hfa
    go_enter Tryz.func86, Tryz.ntmps86
    go_wp2_with (go_at_call 84; refine (C1.out _ hr).mono ?_; rintro e w' ⟨rfl, rfl⟩)
    go_ret2
    exact ⟨_, _, _, f, _, rfl, Res.nil f (Below.refl _ _), .inr ⟨fun x => HN.out x.1, rfl, rfl⟩⟩
  · have c1 := fun w' hr' => form_c ao n ca f w' (by omega) hr'
    rw [hfa] at c1
    have FA := hid (fm_of hfa)
    have C1 := hid c1
    clear c1 hfa
    cases hfb : fmB h m
    · have c2 := fun w' hr' => form_c bo m cb h w' (by omega) hr'
      rw [hfb] at c2
      have HN := hid (nfm_of hfb)
      have C2 := hid c2
      clear c2 hfb
      go_enter Tryz.func86, Tryz.ntmps86
      go_wp2_with fail
      refine (C1.out _ hr).mono ?_
      rintro e w' ⟨rfl, rfl⟩
      go_wp2_with fail
      refine (C2.out _ hs).mono ?_
      rintro e w' ⟨rfl, rfl⟩
      go_wp2
      go_ret2
      exact ⟨_, _, _, f, _, rfl, Res.nil f (Below.refl _ _), .inr ⟨fun x => HN.out x.2, rfl, rfl⟩⟩
    · have c2 := fun w' hr' => form_c bo m cb h w' (by omega) hr'
      rw [hfb] at c2
      have FB := hid (fm_of hfb)
      have C2 := hid c2
      clear c2 hfb
      go_enter Tryz.func86, Tryz.ntmps86
      go_wp2_with fail
      refine (C1.out _ hr).mono ?_
      rintro e w' ⟨rfl, rfl⟩
      go_wp2_with fail
      refine (C2.out _ hs).mono ?_
      rintro e w' ⟨rfl, rfl⟩
      go_wp2_with fail
      refine (mul_c ao bo n m ca cb f h _ hn hm hca hcb hcam hcbm hr hs HF.out HH.out).mono ?_
      rintro e w' ⟨ao', k, cap', f', rfl, hres, hv⟩
      have HV := hid hv
      clear hv
      go_wp2
      go_ret2
      exact ⟨_, _, _, f', _, rfl, hres, .inl ⟨FA.out, FB.out, rfl, HV.out⟩⟩

/-- What DivMod answers. -/
def DivAns (n m : Nat) (f h : Nat → Int) (k1 k2 : Nat) (q r : Nat → Int) (er : Int) : Prop :=
  Fm f n ∧ Fm h m ∧ 0 < m ∧ er = 0 ∧ vf f n = vf q k1 * vf h m + vf r k2 ∧ 0 ≤ vf r k2 ∧ vf r k2 < vf h m ∨ Fm f n ∧ Fm h m ∧ m = 0 ∧ er = 4 ∧ k1 = 0 ∧ k2 = 0 ∨ ¬ (Fm f n ∧ Fm h m) ∧ er = 3 ∧ k1 = 0 ∧ k2 = 0

set_option maxHeartbeats 800000 in
theorem DivMod_cA (ao bo : Option Addr) (n m ca cb : Nat) (f h : Nat → Int) (w : World) (hn : n ≤ 8796093022208) (hm : m ≤ 8796093022208) (hr : Rd .u64 w ao n f) (hs : Rd .u64 w bo m h) (hf : Lm f n) (hh : Lm h m) :
    Calls Tryz.prog 75 #[.slice ao n ca, .slice bo m cb] w fun e w' => ∃ a1 k1 c1 q a2 k2 c2 r er, e = .returned (.tuple #[.slice a1 k1 c1, .slice a2 k2 c2, .int .i64 er]) ∧ Res n w w' a1 k1 c1 q ∧ Res (n + 1) w w' a2 k2 c2 r ∧ DivAns n m f h k1 k2 q r er ∧ Apart a1 a2 := by
  have HF := (show Hid (Lm f n) from hf)
  have HH := (show Hid (Lm h m) from hh)
  clear hf hh
  cases hfa : fmB f n
  · have c1 := fun w' hr' => form_c ao n ca f w' (by omega) hr'
    rw [hfa] at c1
    have HN := hid (nfm_of hfa)
    have C1 := hid c1
    clear c1 hfa
    go_enter Tryz.func75, Tryz.ntmps75
    go_wp2_with (go_at_call 84; refine (C1.out _ hr).mono ?_; rintro e w' ⟨rfl, rfl⟩)
    go_ret3
    exact ⟨_, _, _, f, _, _, _, f, _, rfl, Res.nil f (Below.refl _ _), Res.nil f (Below.refl _ _), .inr (.inr ⟨fun x => HN.out x.1, rfl, rfl, rfl⟩), apart_none _⟩
  · have c1 := fun w' hr' => form_c ao n ca f w' (by omega) hr'
    rw [hfa] at c1
    have FA := hid (fm_of hfa)
    have C1 := hid c1
    clear c1 hfa
    cases hfb : fmB h m
    · have c2 := fun w' hr' => form_c bo m cb h w' (by omega) hr'
      rw [hfb] at c2
      have HN := hid (nfm_of hfb)
      have C2 := hid c2
      clear c2 hfb
      go_enter Tryz.func75, Tryz.ntmps75
      go_wp2_with fail
      refine (C1.out _ hr).mono ?_
      rintro e w' ⟨rfl, rfl⟩
      go_wp2_with fail
      refine (C2.out _ hs).mono ?_
      rintro e w' ⟨rfl, rfl⟩
      go_wp2
      go_ret3
      exact ⟨_, _, _, f, _, _, _, f, _, rfl, Res.nil f (Below.refl _ _), Res.nil f (Below.refl _ _), .inr (.inr ⟨fun x => HN.out x.2, rfl, rfl, rfl⟩), apart_none _⟩
    · have c2 := fun w' hr' => form_c bo m cb h w' (by omega) hr'
      rw [hfb] at c2
      have FB := hid (fm_of hfb)
      have C2 := hid c2
      clear c2 hfb
      by_cases hm0 : m = 0
      · subst hm0
        go_enter Tryz.func75, Tryz.ntmps75
        go_wp2_with fail
        refine (C1.out _ hr).mono ?_
        rintro e w' ⟨rfl, rfl⟩
        go_wp2_with fail
        refine (C2.out _ hs).mono ?_
        rintro e w' ⟨rfl, rfl⟩
        go_wp2
        go_ret3
        exact ⟨_, _, _, f, _, _, _, f, _, rfl, Res.nil f (Below.refl _ _), Res.nil f (Below.refl _ _), .inr (.inl ⟨FA.out, FB.out, rfl, rfl, rfl, rfl⟩), apart_none _⟩
      · have hmi : ((m : Int) == 0) = false := by simp; omega
        go_enter Tryz.func75, Tryz.ntmps75
        go_wp2_with fail
        refine (C1.out _ hr).mono ?_
        rintro e w' ⟨rfl, rfl⟩
        go_wp2_with fail
        refine (C2.out _ hs).mono ?_
        rintro e w' ⟨rfl, rfl⟩
        go_wp2_with fail
        refine (divMod_cA ao bo n m ca cb f h _ hn hm hr hs HF.out HH.out FA.out FB.out (by omega)).mono ?_
        rintro e w' ⟨a1, k1, c1, q, a2, k2, c2, r, rfl, hres1, hres2, hv, hr0, hr1, hap⟩
        have HV := hid hv; have HR0 := hid hr0; have HR1 := hid hr1; have HAP := hid hap
        clear hv hr0 hr1 hap
        go_wp2
        go_ret3
        exact ⟨_, _, _, q, _, _, _, r, _, rfl, hres1, hres2, .inl ⟨FA.out, FB.out, by omega, rfl, HV.out, HR0.out, HR1.out⟩, HAP.out⟩
theorem DivMod_c (ao bo : Option Addr) (n m ca cb : Nat) (f h : Nat → Int) (w : World) (hn : n ≤ 8796093022208) (hm : m ≤ 8796093022208) (hr : Rd .u64 w ao n f) (hs : Rd .u64 w bo m h) (hf : Lm f n) (hh : Lm h m) :
    Calls Tryz.prog 75 #[.slice ao n ca, .slice bo m cb] w fun e w' => ∃ a1 k1 c1 q a2 k2 c2 r er, e = .returned (.tuple #[.slice a1 k1 c1, .slice a2 k2 c2, .int .i64 er]) ∧ Res n w w' a1 k1 c1 q ∧ Res (n + 1) w w' a2 k2 c2 r ∧ DivAns n m f h k1 k2 q r er :=
  (DivMod_cA ao bo n m ca cb f h w hn hm hr hs hf hh).mono fun _ _ ⟨a1, k1, c1, q, a2, k2, c2, r, er, h1, h2, h3, h4, _⟩ => ⟨a1, k1, c1, q, a2, k2, c2, r, er, h1, h2, h3, h4⟩
end Go.Proofs.YtclopblgdiahiaaGreatDoor
namespace Go.Proofs.YtclopblgdiahiaaGreatDoor
open Go.RowKit

set_option maxHeartbeats 1000000 in
theorem trimByte_c (g o L cap k0 : Nat) (t : Nat → Int) (w : World) (hr : Rd .u8 w (some ⟨g, o, none⟩) L t) (hL : L ≤ cap) (hk0 : k0 < L) (hz : ∀ j, j < k0 → t j = 48) (hnz : t k0 ≠ 48) :
    Calls Tryz.prog 162 #[.slice (some ⟨g, o, none⟩) L cap, .int .u8 48] w fun e w' => e = .returned (.slice (some ⟨g, o + k0, none⟩) (L - k0) (cap - k0)) ∧ w' = w := by
  have HZ := hid hz
  clear hz
  go_enter Tryz.func162, Tryz.ntmps162
  go_wp2
  go_loop [0] (fun v => ∃ k : Nat, k ≤ k0 ∧ v = .slice (some ⟨g, o + k, none⟩) (L - k) (cap - k)) (fun v => match v with | .slice _ n _ => n | _ => 0)
  case atStart => exact ⟨0, by omega, rfl⟩
  case round =>
    obtain ⟨k, hk, rfl⟩ := hrel
    obtain ⟨x, hx⟩ : ∃ x, t k = x := ⟨_, rfl⟩
    have hcell : w.cell? ⟨g, o + k, none⟩ = some (.int .u8 x) := by rw [← hx]; exact hr.cell (by omega)
    have hpos : (0 : Int) < ((L - k : Nat) : Int) := by omega
    by_cases hkk : k < k0
    · have hx48 : x = 48 := by rw [← hx]; exact HZ.out k hkk
      subst hx48
      clear hx hr
      have hne : ¬ (1 = cap - k) := by omega
      have hne2 : ¬ (cap - k = 1) := by omega
      have hone : (1 : Int) ≤ ((L - k : Nat) : Int) := by omega
      go_wp2
      go_round
      case rel => exact ⟨k + 1, by omega, by simp only [Value.slice.injEq, Option.some.injEq, Addr.mk.injEq]; exact ⟨⟨trivial, by omega, trivial⟩, by omega, by omega⟩⟩
      case measure => simp; omega
    · obtain rfl : k = k0 := by omega
      have hx1 : (x == 48) = false := by rw [← hx]; simp [hnz]
      have hne0 : (((L - k : Nat) : Int) == 0) = false := by simp; omega
      clear hx hr hnz
      go_wp2
      go_ret
      exact ⟨rfl, rfl⟩

set_option maxRecDepth 100000 in
set_option maxHeartbeats 1000000 in
theorem trimLeft_c (g o L cap k0 : Nat) (t : Nat → Int) (w : World) (hr : Rd .u8 w (some ⟨g, o, none⟩) L t) (hL : L ≤ cap) (hk0 : k0 < L) (hz : ∀ j, j < k0 → t j = 48) (hnz : t k0 ≠ 48) :
    Calls Tryz.prog 143 #[.slice (some ⟨g, o, none⟩) L cap, .string ⟨#[48]⟩] w fun e w' => e = .returned (.slice (some ⟨g, o + k0, none⟩) (L - k0) (cap - k0)) ∧ w' = w := by
  have C := hid (trimByte_c g o L cap k0 t w hr hL hk0 hz hnz)
  have h0 : ((L : Int) == 0) = false := by simp; omega
  clear hr hz hnz
  go_enter Tryz.func143, Tryz.ntmps143
  go_wp2_with fail
  refine C.out.mono ?_
  rintro e w1 ⟨rfl, rfl⟩
  go_wp2
  go_ret
  exact ⟨rfl, rfl⟩

theorem lev_ge (n : Nat) (hn : n ≤ 18446744073709551616) : n ≤ 2 ^ lev n := by
  unfold lev
  by_cases h : n ≤ 1
  · rw [if_pos h]; simpa using h
  · rw [if_neg h]
    have := (bitLen_bounds _ (n - 1) rfl (by omega) (by omega)).2.2
    omega
theorem lev_le (n k : Nat) (hk : k ≤ 64) (h : n ≤ 2 ^ k) : lev n ≤ k := by
  unfold lev
  split
  · omega
  · exact Lib.bitLen_le (n - 1) k hk (by omega)
theorem dgi_top {V : Nat} (hV : 0 < V) : dgi V (Lib.nDigits V - 1) ≠ 48 := by
  have h1 : ∀ (k V : Nat), 0 < V → Lib.nDigits V = k + 1 → V / 10 ^ k % 10 ≠ 0 := by
    intro k
    induction k with
    | zero =>
      intro V hV h
      by_cases hu : V < 10
      · simp; omega
      · rw [Lib.nDigits_big hu] at h; have := Lib.nDigits_pos (V / 10); omega
    | succ k ih =>
      intro V hV h
      by_cases hu : V < 10
      · rw [Lib.nDigits_small hu] at h; omega
      · rw [Lib.nDigits_big hu] at h
        have := ih (V / 10) (by omega) (by omega)
        rw [Nat.div_div_eq_div_mul, ← Nat.pow_succ'] at this
        exact this
  have hp := Lib.nDigits_pos V
  have := h1 (Lib.nDigits V - 1) V hV (by omega)
  unfold dgi
  omega
/-- A number of n limbs has room in so many pieces. -/
theorem room_pieces {n p c : Nat} {V : Int} (hV : V < pw n) (hp : 64 * n ≤ 63 * p) (hc : p ≤ 2 ^ c) : V < ((10 ^ (19 * 2 ^ c) : Nat) : Int) := by
  have h1 : pw n = ((2 ^ (64 * n) : Nat) : Int) := by
    clear hV hp
    induction n with
    | zero => rfl
    | succ n ih => rw [pw_succ, ih, Nat.mul_add, Nat.pow_add]; simp; omega
  have h2 : 2 ^ (64 * n) ≤ 2 ^ (63 * p) := Nat.pow_le_pow_right (by omega) hp
  have h3 : 2 ^ (63 * p) ≤ 10 ^ (19 * p) := by
    rw [Nat.pow_mul, Nat.pow_mul]; exact Nat.pow_le_pow_left (by decide) p
  have h4 : 10 ^ (19 * p) ≤ 10 ^ (19 * 2 ^ c) := Nat.pow_le_pow_right (by omega) (Nat.mul_le_mul_left 19 hc)
  omega
theorem cv_text {P : Program} (w : World) (tB tS tE : TypeId) (g o cap : Nat) (t : Nat → Int) (V : Nat) (h1 : P.underlying tB = some (.slice tE)) (h2 : P.underlying tE = some (.int .u8)) (h3 : P.underlying tS = some .string) (hr : Rd .u8 w (some ⟨g, o, none⟩) (Lib.nDigits V) t) (ht : ∀ j, j < Lib.nDigits V → t j = dgi V (Lib.nDigits V - 1 - j)) :
    (convert tB tS (.slice (some ⟨g, o, none⟩) (Lib.nDigits V) cap)).run P w = .ok (.string ⟨(Lib.decDigits V).toArray⟩) w := by
  have h := run_convert_bytes_back (P := P) w tB tS tE ⟨g, o, none⟩ cap (Lib.decDigits V) h1 h2 h3 (fun j hj => by
    rw [Lib.decDigits_length] at hj
    have e := byt_dec V j hj
    have hc := hr.cell hj
    rw [ht j hj, ← e] at hc
    rw [Lib.add_plain, hc]
    unfold byt
    rw [List.getD_eq_getElem?_getD, List.getElem?_eq_getElem (by rw [Lib.decDigits_length]; exact hj)]
    rfl)
  rw [Lib.decDigits_length] at h
  exact h

set_option maxRecDepth 100000 in
set_option maxHeartbeats 2000000 in
/-- digits: the decimal digits. -/
theorem digits_c (ao : Option Addr) (n ca c : Nat) (f : Nat → Int) (V : Nat) (w : World) (hn : n ≤ 4096) (hr : Rd .u64 w ao n f) (hf : Lm f n) (ff : Fm f n) (hV : vf f n = V) (htab : Tab w) (hc : c = lev ((64 * n + 62) / 63)) (hca : n ≤ ca) (hcam : ca ≤ 9223372036854775807) (hdiv : ∀ j, j < c → ∀ X, 0 ≤ X → X ≤ (V : Int) → DivOk X (tens j)) :
    Calls Tryz.prog 116 #[.slice ao n ca] w fun e w' => e = .returned (.string ⟨(Lib.decDigits V).toArray⟩) ∧ Below w.heap.size w w' := by
  by_cases h0 : n = 0
  · subst h0
    have hV0 : V = 0 := by simp [vf] at hV; omega
    have E := hid (show Lib.decDigits V = [48] by rw [hV0, Lib.decDigits_one (by omega)]; rfl)
    clear hr hf ff hV hdiv
    go_enter Tryz.func116, Tryz.ntmps116
    go_wp2
    go_ret
    exact ⟨by rw [E.out]; rfl, Below.refl _ _⟩
  · have hVp : 0 < V := by
      have := vf_form_ge hf ff (by omega); have := pw_pos (n - 1); omega
    obtain ⟨p, hp⟩ : ∃ p, p = (64 * n + 62) / 63 := ⟨_, rfl⟩
    have hp1 : 1 ≤ p := by omega
    have hp2 : p ≤ 8192 := by omega
    rw [← hp] at hc
    have hc13 : c ≤ 13 := by rw [hc]; exact lev_le p 13 (by omega) (by omega)
    have hpc : p ≤ 2 ^ c := by rw [hc]; exact lev_ge p (by omega)
    obtain ⟨K, hK⟩ : ∃ K, K = 19 * 2 ^ c := ⟨_, rfl⟩
    have h2c : 2 ^ c ≤ 8192 := Nat.pow_le_pow_right (n := 2) (by omega) hc13
    have h2c1 : 1 ≤ 2 ^ c := Nat.pow_pos (by omega)
    have hKb : K ≤ 155648 := by omega
    have hK1 : 19 ≤ K := by omega
    have hVK : V < 10 ^ K := by
      have := room_pieces (n := n) (p := p) (c := c) (V := (V : Int)) (by rw [← hV]; exact vf_lt hf) (by omega) hpc
      rw [← hK] at this
      exact_mod_cast this
    have hnd := nDigits_le hVK (by omega)
    have hndp := Lib.nDigits_pos V
    have hsh : IntKind.i64.wrap (19 * 2 ^ c) = (K : Int) := by
      have : (19 * 2 ^ c : Int) = K := by rw [hK]; simp
      rw [this, IntKind.wrap_i64]; omega
    have C1 := hid (fun (z : Int) hz W => levels_c p z W hz (by omega))
    have C2 := hid (fun W => bases_c c W (by omega))
    have HNum := hid (show Nu w (.slice ao n ca) n (V : Int) from ⟨ao, n, ca, f, rfl, hr, hf, ff, Nat.le_refl _, hV, hca, hcam⟩)
    have HDv := hid hdiv; have HP := hid hp; have HC := hid hc; have HKK := hid hK; have HVK := hid hVK; have HT := hid htab
    have hhi : ((n : Int) * 64 + 63 - 1) / 63 = (p : Int) := by rw [hp]; omega
    clear hdiv hr hf ff hV hp hc hK hVK htab hpc h2c h2c1
    have h0i : ((n : Int) == 0) = false := by simp; omega
    go_enter Tryz.func116, Tryz.ntmps116
    go_wp2_with fail
    refine (C1.out _ rfl _).mono ?_
    rintro e w1 ⟨rfl, rfl⟩
    rw [← HC.out]
    clear C1
    go_wp2_with (at_make; refine wpList_make_blk .u8 w1 rfl (.tmp 16) (.tmp 16) 137 rfl 5 1 Tryz.underlying137 Tryz.infoU8 .i64 .i64 K K K rfl rfl rfl rfl (by omega) (by unfold maxLen; omega) ?_; intro w2 hb2 hbel2)
    have HBk2 := hid hb2
    have HNum2 := hid (HNum.out.below hbel2)
    have HT2 := hid (HT.out.below hbel2 HT.out.lt)
    clear hb2
    refine (C2.out _).mono ?_
    rintro e w3 ⟨bo, cap, rfl, hbel3, hcap, hcapm, _, hbas⟩
    have HBk3 := hid (HBk2.out.below hbel3 HBk2.out.lt)
    have HNum3 := hid (HNum2.out.below hbel3)
    have HT3 := hid (HT2.out.below hbel3 HT2.out.lt)
    have HBas := hid hbas
    have hgl : 5 < w1.heap.size := HT.out.lt
    clear C2 HBk2 HNum2 HT2 hbas
    go_wp2_with fail
    refine (putDigits_c V c HDv.out w1.heap.size 0 K K K (fun _ => 0) ao n ca n V bo cap w3 HBk3.out (by omega) (by omega) HKK.out (Nat.le_refl _) (by omega) HNum3.out (by omega) HVK.out (Int.le_refl _) HBas.out hcap hcapm (by omega) HT3.out hgl).mono ?_
    rintro e w4 ⟨rfl, hon4, t, hb4, he4, hd4⟩
    have hd5 : ∀ j, j < K → t j = dgi V (K - 1 - j) := fun j hj => by have := hd4 j hj; rwa [Nat.zero_add] at this
    have HBk4 := hid hb4; have HD := hid hd5
    have hbel4 : Below w1.heap.size w1 w4 := below_only (hbel2.trans (hbel3.mono hbel2.size)) hon4 (Nat.le_refl _) (Nat.le_trans hbel2.size hbel3.size)
    clear he4 hd4 hd5 hb4 HBk3 HNum3 HT3 HBas hon4 hbel3 hbel2 HNum HT
    obtain ⟨k0, hk0⟩ : ∃ k0, k0 = K - Lib.nDigits V := ⟨_, rfl⟩
    have hk1 : K - k0 = Lib.nDigits V := by omega
    have hk2 : k0 < K := by omega
    have hrd := HBk4.out.rd0 (Nat.le_refl _)
    have c5 := (trimLeft_c w1.heap.size 0 K K k0 t w4 hrd (Nat.le_refl _) hk2 (fun j hj => by rw [HD.out j (by omega)]; exact dgi_front (by omega)) (by rw [HD.out k0 hk2, show K - 1 - k0 = Lib.nDigits V - 1 by omega]; exact dgi_top hVp))
    rw [Nat.zero_add] at c5
    have C5 := hid c5
    clear c5
    have hcv := cv_text (P := Tryz.prog) w4 137 9 5 w1.heap.size (0 + k0) (K - k0) (sh t k0) V Tryz.underlying137 Tryz.underlying5 Tryz.underlying9 (by have := hrd.drop (i := k0) (m := Lib.nDigits V) (by omega); exact this) (fun j hj => by rw [sh_at, HD.out _ (by omega)]; congr 1; omega)
    rw [← hk1, Nat.zero_add] at hcv
    clear hrd hk0 hk1
    go_wp2_with fail
    refine C5.out.mono ?_
    rintro e w5 ⟨rfl, rfl⟩
    go_wp2
    go_ret
    exact ⟨rfl, hbel4⟩
end Go.Proofs.YtclopblgdiahiaaGreatDoor
namespace Go.Proofs.YtclopblgdiahiaaGreatDoor
open Go.RowKit

set_option maxHeartbeats 400000 in
theorem rform_c (ao : Option Addr) (n cap : Nat) (f : Nat → Int) (w : World) (hm : n ≤ 9223372036854775807) (hr : Rd .u64 w ao n f) :
    Calls Tryz.prog 65 #[.slice ao n cap] w fun e w' => e = .returned (.bool (fmB f n)) ∧ w' = w := by
  by_cases h0 : n = 0
  · subst h0
    have e : fmB f 0 = true := by simp [fmB]
    go_enter Tryz.func65, Tryz.ntmps65
    go_wp2
    go_ret
    exact ⟨by rw [e]; rfl, rfl⟩
  · obtain ⟨b, o, rfl⟩ := hr.at (by omega)
    obtain ⟨x, hx⟩ : ∃ x, f (n - 1) = x := ⟨_, rfl⟩
    have hc : w.cell? ⟨b, o + (n - 1), none⟩ = some (.int .u64 x) := by rw [← hx]; exact hr.cell (by omega)
    have h1 : ((n : Int) == 0) = false := by simp; omega
    have e : fmB f n = (x != 0) := by simp [fmB, h0, hx, bne]; rfl
    have E := hid e
    clear hr hx e
    go_enter Tryz.func65, Tryz.ntmps65
    go_wp2
    go_ret
    exact ⟨by rw [E.out]; rfl, rfl⟩

set_option maxHeartbeats 400000 in
/-- Low: the digits without noughts at the end. -/
theorem low_c (ao : Option Addr) (n cap : Nat) (f : Nat → Int) (w : World) (hc : n ≤ cap) (hm : cap ≤ 9223372036854775807) (hr : Rd .u64 w ao n f) (hnil : ao = none → cap = 0) :
    Calls Tryz.prog 109 #[.slice ao n cap] w fun e w' => w' = w ∧ ∃ m, m ≤ n ∧ (∀ j, m ≤ j → j < n → f j = 0) ∧ Fm f m ∧ e = .returned (.slice ao m cap) := by
  go_enter Tryz.func109, Tryz.ntmps109
  go_wp2
  go_loop [3] (fun t => ∃ m : Nat, m ≤ n ∧ t = .int .i64 m ∧ Hid (∀ j, m ≤ j → j < n → f j = 0)) (fun t => (intOf t).toNat)
  case atStart => exact ⟨n, Nat.le_refl _, rfl, fun j h1 h2 => by omega⟩
  case round =>
    obtain ⟨m, hmn, rfl, HZ⟩ := hrel
    by_cases h0 : 0 < m
    · obtain ⟨b, o, rfl⟩ := hr.at (by omega)
      obtain ⟨x, hx⟩ : ∃ x, f (m - 1) = x := ⟨_, rfl⟩
      have hcell : w.cell? ⟨b, o + (m - 1), none⟩ = some (.int .u64 x) := by rw [← hx]; exact hr.cell (by omega)
      have HX : Hid (f (m - 1) = x) := hx
      clear hx hr
      by_cases hx0 : x = 0
      · subst hx0
        go_wp2
        go_round
        case rel =>
          refine ⟨m - 1, by omega, by go_num, fun j h1 h2 => ?_⟩
          by_cases hj : j = m - 1
          · rw [hj]; exact HX.out
          · exact HZ.out j (by omega) h2
        case measure => simp [intOf]; omega
      · have hx1 : (x == 0) = false := by simp [hx0]
        go_wp2
        go_ret
        exact ⟨rfl, m, hmn, HZ.out, .inr (by rw [HX.out]; exact hx0), rfl⟩
    · have h00 : m = 0 := by omega
      subst h00
      cases ao with
      | none =>
        obtain rfl : cap = 0 := hnil rfl
        go_wp2
        go_ret
        exact ⟨rfl, 0, hmn, HZ.out, .inl rfl, rfl⟩
      | some ad =>
        clear hnil
        go_wp2
        go_ret
        exact ⟨rfl, 0, hmn, HZ.out, .inl rfl, rfl⟩

/-- Two lists are alike. -/
def Alk (n m : Nat) (f g : Nat → Int) : Prop := n = m ∧ ∀ j, j < n → f j = g j

set_option maxHeartbeats 800000 in
/-- Same: are two lists alike? -/
theorem same_c (ao bo : Option Addr) (n m ca cb : Nat) (f g : Nat → Int) (w : World) (hm : n ≤ 140737488355328) (hm' : m ≤ 140737488355328) (hr : Rd .u64 w ao n f) (hs : Rd .u64 w bo m g) :
    Calls Tryz.prog 43 #[.slice ao n ca, .slice bo m cb] w fun e w' => (∃ q, w' = w.drewN q) ∧ ∃ b, e = .returned (.bool b) ∧ (b = true ↔ Alk n m f g) := by
  by_cases hnm : n = m
  · subst hnm
    have h1 : ((n : Int) != n) = false := by simp
    go_enter Tryz.func43, Tryz.ntmps43
    go_wp2
    go_loopw [13] (fun t wr => ∃ i : Nat, i ≤ n ∧ t = .int .i64 i ∧ Hid (∀ j, j < i → f j = g j) ∧ ∃ q, wr = w.drewN q) (fun t _ => n - (intOf t).toNat)
    case atStart => exact ⟨0, by omega, rfl, fun j h1 => by omega, 0, rfl⟩
    case round =>
      obtain ⟨i, hin, rfl, HE, q, rfl⟩ := hrel
      by_cases hlt : i < n
      · obtain ⟨b, o, rfl⟩ := hr.at (by omega)
        obtain ⟨b', o', rfl⟩ := hs.at (by omega)
        obtain ⟨x, hx⟩ : ∃ x, f i = x := ⟨_, rfl⟩
        obtain ⟨y, hy⟩ : ∃ y, g i = y := ⟨_, rfl⟩
        have hca : w.cell? ⟨b, o + i, none⟩ = some (.int .u64 x) := by rw [← hx]; exact hr.cell (by omega)
        have hcb : w.cell? ⟨b', o' + i, none⟩ = some (.int .u64 y) := by rw [← hy]; exact hs.cell (by omega)
        have HX : Hid (f i = x) := hx
        have HY : Hid (g i = y) := hy
        clear hx hy hr hs
        by_cases hxy : x = y
        · subst hxy
          have hne : (x != x) = false := by simp
          go_wp2
          go_quiet (fail)
          go_wp2
          go_roundw
          case rel =>
            refine ⟨i + 1, by omega, by go_num, fun j h1 => ?_, _, rfl⟩
            by_cases hj : j = i
            · rw [hj]; exact HX.out.trans HY.out.symm
            · exact HE.out j (by omega)
          case measure => simp [intOf]; omega
        · have hne : (x != y) = true := by simp [hxy]
          go_wp2
          go_quiet (fail)
          go_wp2
          go_ret
          refine ⟨⟨_, by (repeat rw [World.drewN_drewN]) <;> rfl⟩, false, rfl, ⟨fun h => (by cases h), fun h => ?_⟩⟩
          have := h.2 i hlt
          rw [HX.out, HY.out] at this
          exact absurd this hxy
      · have hi : i = n := by omega
        subst hi
        go_wp2
        go_ret
        exact ⟨⟨_, rfl⟩, true, rfl, ⟨fun _ => ⟨rfl, HE.out⟩, fun _ => rfl⟩⟩
  · have h1 : ((n : Int) != m) = true := by simp; omega
    go_enter Tryz.func43, Tryz.ntmps43
    go_wp2
    go_ret
    exact ⟨⟨0, rfl⟩, false, rfl, ⟨fun h => (by cases h), fun h => absurd h.1 hnm⟩⟩
end Go.Proofs.YtclopblgdiahiaaGreatDoor
namespace Go.Proofs.YtclopblgdiahiaaGreatDoor
open Go.RowKit

set_option maxHeartbeats 1000000 in
theorem Text_u (ao : Option Addr) (n ca c : Nat) (f : Nat → Int) (V : Nat) (w : World) (hn : n ≤ 4096) (hr : Rd .u64 w ao n f) (hf : Lm f n) (ff : Fm f n) (hV : vf f n = V) (htab : Tab w) (hc : c = lev ((64 * n + 62) / 63)) (hca : n ≤ ca) (hcam : ca ≤ 9223372036854775807) (hdiv : ∀ j, j < c → ∀ X, 0 ≤ X → X ≤ (V : Int) → DivOk X (tens j)) :
    Calls Tryz.prog 79 #[.slice ao n ca] w fun e w' => e = .returned (.tuple #[.string ⟨(Lib.decDigits V).toArray⟩, .int .i64 0]) ∧ Below w.heap.size w w' := by
  have c1 := form_c ao n ca f w (by omega) hr
  rw [(fmB_iff f n).2 ff] at c1
  have C1 := hid c1
  have C2 := hid (digits_c ao n ca c f V w hn hr hf ff hV htab hc hca hcam hdiv)
  clear c1 hr hf ff hV htab hc hdiv
  go_enter Tryz.func79, Tryz.ntmps79
  go_wp2_with fail
  refine C1.out.mono ?_
  rintro e w1 ⟨rfl, rfl⟩
  go_wp2_with fail
  refine C2.out.mono ?_
  rintro e w1 ⟨rfl, hb⟩
  go_wp2
  go_ret2
  exact ⟨rfl, hb⟩

theorem Text_c (ao : Option Addr) (n ca c : Nat) (f : Nat → Int) (V : Nat) (w : World) (hn : n ≤ 4096) (hr : Rd .u64 w ao n f) (_ : Tg w ao) (hf : Lm f n) (ff : Fm f n) (hV : vf f n = V) (htab : Tab w) (hc : c = lev ((64 * n + 62) / 63)) (hca : n ≤ ca) (hcam : ca ≤ 9223372036854775807) (hdiv : ∀ j, j < c → ∀ X, 0 ≤ X → X ≤ (V : Int) → DivOk X (tens j)) :
    Calls Tryz.prog 79 #[.slice ao n ca] w fun e w' => e = .returned (.tuple #[.string ⟨(Lib.decDigits V).toArray⟩, .int .i64 0]) ∧ Below w.heap.size w w' := Text_u ao n ca c f V w hn hr hf ff hV htab hc hca hcam hdiv

set_option maxHeartbeats 1000000 in
theorem DivMod_of (ao bo : Option Addr) (n m ca cb : Nat) (f h : Nat → Int) (w : World) (hn : n ≤ 8796093022208) (hm : m ≤ 8796093022208) (hr : Rd .u64 w ao n f) (hs : Rd .u64 w bo m h) (hf : Lm f n) (hh : Lm h m) (ff : Fm f n) (fh : Fm h m) (hm0 : 0 < m) (hd : DivOk (vf f n) (vf h m)) :
    Calls Tryz.prog 75 #[.slice ao n ca, .slice bo m cb] w fun e w' => ∃ a1 k1 c1 q a2 k2 c2 r, e = .returned (.tuple #[.slice a1 k1 c1, .slice a2 k2 c2, .int .i64 0]) ∧ Res n w w' a1 k1 c1 q ∧ Res (n + 1) w w' a2 k2 c2 r ∧ vf f n = vf q k1 * vf h m + vf r k2 ∧ 0 ≤ vf r k2 ∧ vf r k2 < vf h m := by
  have c1 := form_c ao n ca f w (by omega) hr
  rw [(fmB_iff f n).2 ff] at c1
  have c2 := form_c bo m cb h w (by omega) hs
  rw [(fmB_iff h m).2 fh] at c2
  have C1 := hid c1; have C2 := hid c2
  have C3 := hid (hd ao bo n m ca cb f h w hn hm hr hs hf hh ff fh rfl rfl)
  have hmi : ((m : Int) == 0) = false := by simp; omega
  clear c1 c2 hr hs hf hh ff fh hd
  go_enter Tryz.func75, Tryz.ntmps75
  go_wp2_with fail
  refine C1.out.mono ?_
  rintro e w1 ⟨rfl, rfl⟩
  go_wp2_with fail
  refine C2.out.mono ?_
  rintro e w1 ⟨rfl, rfl⟩
  go_wp2_with fail
  refine C3.out.mono ?_
  rintro e w1 ⟨a1, k1, c1, q, a2, k2, c2, r, rfl, hrest⟩
  have HR := hid hrest
  clear hrest
  go_wp2
  go_ret3
  exact ⟨a1, k1, c1, q, a2, k2, c2, r, rfl, HR.out⟩

set_option maxHeartbeats 1000000 in
/-- gcd where the first number is the lesser and has one limb. -/
theorem gcd_one_sw (bo : Option Addr) (b o n ca cb : Nat) (f : Nat → Int) (x : Nat) (w : World) (hn : n ≤ 8796093022208) (hr : Rd .u64 w bo n f) (hf : Lm f n) (ff : Fm f n) (hx : w.cell? ⟨b, o, none⟩ = some (.int .u64 x)) (x0 : 0 < x) (x1 : x < 18446744073709551616) (hlt : (x : Int) < vf f n) :
    Calls Tryz.prog 147 #[.slice (some ⟨b, o, none⟩) 1 ca, .slice bo n cb] w fun e w' => ∃ ao' k cap' f', e = .returned (.slice ao' k cap') ∧ Res 1 w w' ao' k cap' f' ∧ vf f' k = (Nat.gcd x (vf f n % x).toNat : Nat) := by
  have hs : Rd .u64 w (some ⟨b, o, none⟩) 1 (fun _ => (x : Int)) := Rd.mk (fun j hj => by obtain rfl : j = 0 := by omega
                                                                                          exact hx)
  have cc := cmp_c (some ⟨b, o, none⟩) bo 1 n ca cb (fun _ => (x : Int)) f w (by omega) (by omega) hs hr (lm_const (by omega) (by omega) 1) hf (.inr (by simp; omega)) ff
  have hv1 : vf (fun _ => (x : Int)) 1 = x := by simp [vf, pw]
  rw [hv1] at cc
  obtain ⟨R, hR⟩ : ∃ R : Nat, (vf f n % x) = R := ⟨(vf f n % x).toNat, by have := Int.emod_nonneg (vf f n) (show (x : Int) ≠ 0 by omega); omega⟩
  have hR1 : (R : Int) < x := by rw [← hR]; exact Int.emod_lt_of_pos _ (by omega)
  have cm := fun w' hr' => modWord_c bo n cb f x w' (by omega) hr' hf (by omega) (by omega)
  rw [hR] at cm
  have cg := fun w' => gcdWord_c x R w' (by omega) (by omega)
  have hgl : Nat.gcd x R < 18446744073709551616 := Nat.lt_of_le_of_lt (Nat.gcd_le_left _ x0) x1
  have hfin : Nat.gcd x (vf f n % x).toNat = Nat.gcd x R := by rw [hR]; simp
  generalize Nat.gcd x R = G at *
  have CC := hid cc; have CM := hid cm; have CG := hid cg; have HFin := hid hfin; have HRd := hid hr
  have HLt := hid hlt
  clear cc cm cg hfin hr hs hv1 hR hlt hf ff
  go_enter Tryz.func147, Tryz.ntmps147
  go_wp2_with fail
  refine CC.out.mono ?_
  rintro e w1 ⟨⟨q, rfl⟩, c, rfl, ho⟩
  have hc : c = -1 := by have := HLt.out; unfold Ord at ho; omega
  subst hc
  clear ho
  go_wp2
  go_region_with (first | (go_at_call 170; refine (CM.out _ (by exact HRd.out)).mono ?_; rintro e w' ⟨rfl, q1, rfl⟩) | (go_at_call 169; refine (CG.out _).mono ?_; rintro e w' ⟨rfl, q2, rfl⟩) | (go_at_call 133; refine (fromWord_c G _ (by omega) (by omega)).mono ?_; rintro e w' ⟨ao', m', cap', f', rfl, hres, hv'⟩))
  all_goals
    go_wp2
    go_ret
    exact ⟨ao', m', cap', f', rfl, hres.ahead (by repeat (first | exact Below.refl _ _ | refine below_drewN ?_ _ | refine Below.drew ?_)), by rw [HFin.out]; exact hv'⟩

/-- Gcd(12, 18), as the statements' own look asks it. -/
theorem Gcd_sw (bo : Option Addr) (b o n ca cb : Nat) (f : Nat → Int) (x : Nat) (w : World) (hn : n ≤ 8796093022208) (hr : Rd .u64 w bo n f) (hf : Lm f n) (ff : Fm f n) (hx : w.cell? ⟨b, o, none⟩ = some (.int .u64 x)) (x0 : 0 < x) (x1 : x < 18446744073709551616) (hlt : (x : Int) < vf f n) :
    Calls Tryz.prog 124 #[.slice (some ⟨b, o, none⟩) 1 ca, .slice bo n cb] w fun e w' => ∃ ao' k cap' f', e = .returned (.tuple #[.slice ao' k cap', .int .i64 0]) ∧ Res 1 w w' ao' k cap' f' ∧ vf f' k = (Nat.gcd x (vf f n % x).toNat : Nat) := by
  have hs : Rd .u64 w (some ⟨b, o, none⟩) 1 (fun _ => (x : Int)) := Rd.mk (fun j hj => by obtain rfl : j = 0 := by omega
                                                                                          exact hx)
  have c1 := form_c (some ⟨b, o, none⟩) 1 ca (fun _ => (x : Int)) w (by omega) hs
  rw [(fmB_iff _ 1).2 (.inr (by simp; omega))] at c1
  have c2 := form_c bo n cb f w (by omega) hr
  rw [(fmB_iff f n).2 ff] at c2
  have C1 := hid c1; have C2 := hid c2
  have C3 := hid (gcd_one_sw bo b o n ca cb f x w hn hr hf ff hx x0 x1 hlt)
  clear c1 c2 hr hs hf ff hx hlt
  go_enter Tryz.func124, Tryz.ntmps124
  go_wp2_with fail
  refine C1.out.mono ?_
  rintro e w1 ⟨rfl, rfl⟩
  go_wp2_with fail
  refine C2.out.mono ?_
  rintro e w1 ⟨rfl, rfl⟩
  go_wp2_with fail
  refine C3.out.mono ?_
  rintro e w1 ⟨ao', k, cap', f', rfl, hrest⟩
  have HR := hid hrest
  clear hrest
  go_wp2
  go_ret2
  exact ⟨ao', k, cap', f', rfl, HR.out⟩

/-- Same of two lists of one number. -/
theorem same_true (ao bo : Option Addr) (n m ca cb : Nat) (f g : Nat → Int) (w : World) (hm : n ≤ 140737488355328) (hm' : m ≤ 140737488355328) (hr : Rd .u64 w ao n f) (hs : Rd .u64 w bo m g) (hf : Lm f n) (hg : Lm g m) (ff : Fm f n) (fg : Fm g m) (hv : vf f n = vf g m) :
    Calls Tryz.prog 43 #[.slice ao n ca, .slice bo m cb] w fun e w' => e = .returned (.bool true) ∧ ∃ q, w' = w.drewN q := by
  refine (same_c ao bo n m ca cb f g w hm hm' hr hs).mono ?_
  rintro e w' ⟨hq, b, rfl, hb⟩
  have : b = true := hb.2 (vf_inj hf hg ff fg hv)
  subst this
  exact ⟨rfl, hq⟩
end Go.Proofs.YtclopblgdiahiaaGreatDoor
namespace Go.Proofs.YtclopblgdiahiaaGreatDoor
open Go.RowKit

/-- Two limbs. -/
def lim2 (x y : Int) : Nat → Int := fun j => if j = 0 then x else y
theorem lm_lim2 {x y : Int} (hx : 0 ≤ x ∧ x < 18446744073709551616) (hy : 0 ≤ y ∧ y < 18446744073709551616) (n : Nat) : Lm (lim2 x y) n := fun j _ => by
  unfold lim2; split
  · exact hx
  · exact hy
theorem vf_lim2 (x y : Int) : vf (lim2 x y) 2 = x + y * 18446744073709551616 := by simp [vf, pw, lim2]
theorem vf_one (x : Int) : vf (fun _ => x) 1 = x := by simp [vf, pw]
theorem rd_newP (w : World) (e : TypeId) (x y : Int) : Rd .u64 (w.alloc (.cells #[.int .u64 x, .int .u64 y] e)) (some ⟨w.heap.size, 0, none⟩) 2 (lim2 x y) :=
  Rd.mk (fun j hj => by
    rw [Nat.zero_add, World.cell?_alloc_new]
    rcases (show j = 0 ∨ j = 1 by omega) with rfl | rfl <;> simp [lim2])
theorem tg_new (w : World) (c : Array Value) : Tg (w.alloc (.cells c 28)) (some ⟨w.heap.size, 0, none⟩) := fun a ha => by
  cases ha; exact ⟨_, _, heap_alloc_new w _⟩
theorem Rd.alloc {k w ao n f} (h : Rd k w ao n f) (o : Obj) : Rd k (w.alloc o) ao n f := h.below ((Below.refl _ _).alloc (Nat.le_refl _) o) (Nat.le_refl _)
theorem below_alloc {w0 w : World} (h : Below w0.heap.size w0 w) (o : Obj) : Below w0.heap.size w0 (w.alloc o) := h.alloc h.size o
theorem fm1 {x : Int} (h : x ≠ 0) : Fm (fun _ => x) 1 := .inr h
theorem tens_zero : tens 0 = 10000000000000000000 := by simp [tens]
theorem tens_one : tens 1 = 100000000000000000000000000000000000000 := by simp [tens]
theorem text_64 : Lib.decDigits 18446744073709551616 = [49, 56, 52, 52, 54, 55, 52, 52, 48, 55, 51, 55, 48, 57, 53, 53, 49, 54, 49, 54] := by
  have hn : Lib.nDigits 18446744073709551616 = 20 := Lib.nDigits_unique 19 _ (by decide) (by decide)
  rw [Lib.decDigits_eq, hn]
  decide +kernel

/-- Text of 2^64. -/
theorem text_look (w : World) (htab : Tab w) : Calls Tryz.prog 79 #[.slice (some ⟨w.heap.size, 0, none⟩) 2 2] (w.alloc (.cells #[.int .u64 0, .int .u64 1] 28)) fun e w' => e = .returned (.tuple #[.string ⟨#[49, 56, 52, 52, 54, 55, 52, 52, 48, 55, 51, 55, 48, 57, 53, 53, 49, 54, 49, 54]⟩, .int .i64 0]) ∧ Below w.heap.size w w' := by
  have hl : lev ((64 * 2 + 62) / 63) = 2 := by decide +kernel
  have hbel : Below w.heap.size w (w.alloc (.cells #[.int .u64 0, .int .u64 1] 28)) := (Below.refl _ _).alloc (Nat.le_refl _) _
  refine (Text_c (some ⟨w.heap.size, 0, none⟩) 2 2 2 (lim2 0 1) 18446744073709551616 (w.alloc (.cells #[.int .u64 0, .int .u64 1] 28)) (by omega) (rd_newP w _ 0 1) (tg_new w _) (lm_lim2 (by omega) (by omega) 2) (.inr (by simp [lim2])) (by rw [vf_lim2]; rfl) (htab.below hbel htab.lt) hl.symm (by omega) (by omega) ?_).mono ?_
  · intro j hj X hX hXV
    rcases (show j = 0 ∨ j = 1 by omega) with rfl | rfl
    · rw [tens_zero]; exact divOk_small (by omega) (.inl (by omega))
    · rw [tens_one]; exact divOk_small (by omega) (.inr (by omega))
  · rintro e w' ⟨rfl, hb⟩
    refine ⟨by rw [text_64], hbel.trans (hb.mono ?_)⟩
    simp

/-- A number that was answered and can be read. -/
structure Got (w w' : World) (ao : Option Addr) (n : Nat) (f : Nat → Int) (V : Int) : Prop where
  bel : Below w.heap.size w w'
  rd : Rd .u64 w' ao n f
  lm : Lm f n
  fm : Fm f n
  le : n ≤ 4
  val : vf f n = V
theorem Res.got {C w0 w w' ao n cap f V} (h : Res C w w' ao n cap f) (hb : Below w0.heap.size w0 w) (hC : C ≤ 4) (hv : vf f n = V) : Got w0 w' ao n f V :=
  ⟨hb.trans (h.bel.mono hb.size), h.rd, h.lm, h.fm, by have := h.le; omega, hv⟩
theorem Got.below {w w' w'' ao n f V} (h : Got w w' ao n f V) (hb : Below w'.heap.size w' w'') : Got w w'' ao n f V :=
  ⟨h.bel.trans (hb.mono h.bel.size), h.rd.below hb (Nat.le_refl _), h.lm, h.fm, h.le, h.val⟩
theorem size_alloc1 (w : World) (o : Obj) : (w.alloc o).heap.size = w.heap.size + 1 := by simp

theorem add_look (w : World) : Calls Tryz.prog 76 #[.slice (some ⟨w.heap.size, 0, none⟩) 1 1, .slice (some ⟨w.heap.size + 1, 0, none⟩) 1 1] ((w.alloc (.cells #[.int .u64 18446744073709551615] 28)).alloc (.cells #[.int .u64 1] 28)) fun e w' => ∃ a n c f, e = .returned (.tuple #[.slice a n c, .int .i64 0]) ∧ Got w w' a n f 18446744073709551616 := by
  rw [← size_alloc1 w (.cells #[.int .u64 18446744073709551615] 28)]
  refine (Add_c _ _ 1 1 1 1 (fun _ => 18446744073709551615) (fun _ => 1) _ (by omega) (by omega) ((rd_new1 w _ _).alloc _) (rd_new1 _ _ _) (lm_const (by omega) (by omega) 1) (lm_const (by omega) (by omega) 1)).mono ?_
  rintro e w' ⟨a, n, c, f, er, rfl, hres, hcase⟩
  rcases hcase with ⟨_, _, rfl, hv⟩ | ⟨hn, _⟩
  · exact ⟨a, n, c, f, rfl, hres.got (below_alloc (below_alloc (Below.refl _ _) _) _) (by omega) (by rw [hv, vf_one, vf_one]; rfl)⟩
  · exact absurd ⟨fm1 (by omega), fm1 (by omega)⟩ hn
theorem div_look (w : World) : Calls Tryz.prog 75 #[.slice (some ⟨w.heap.size, 0, none⟩) 2 2, .slice (some ⟨w.heap.size + 1, 0, none⟩) 1 1] ((w.alloc (.cells #[.int .u64 0, .int .u64 1] 28)).alloc (.cells #[.int .u64 3] 28)) fun e w' => ∃ a1 n1 c1 f1 a2 n2 c2 f2, e = .returned (.tuple #[.slice a1 n1 c1, .slice a2 n2 c2, .int .i64 0]) ∧ Got w w' a1 n1 f1 6148914691236517205 ∧ Got w w' a2 n2 f2 1 := by
  rw [← size_alloc1 w (.cells #[.int .u64 0, .int .u64 1] 28)]
  refine (DivMod_of _ _ 2 1 2 1 (lim2 0 1) (fun _ => 3) _ (by omega) (by omega) ((rd_newP w _ _ _).alloc _) (rd_new1 _ _ _) (lm_lim2 (by omega) (by omega) 2) (lm_const (by omega) (by omega) 1) (.inr (by simp [lim2])) (fm1 (by omega)) (by omega) ?_).mono ?_
  · rw [vf_lim2, vf_one]; exact divOk_small (by omega) (.inl (by omega))
  · rintro e w' ⟨a1, k1, c1, q, a2, k2, c2, r, rfl, h1, h2, hv, r0, r1⟩
    rw [vf_lim2, vf_one] at hv
    rw [vf_one] at r1
    have hb := below_alloc (below_alloc (Below.refl w.heap.size w) (.cells #[.int .u64 0, .int .u64 1] 28)) (.cells #[.int .u64 3] 28)
    exact ⟨a1, k1, c1, q, a2, k2, c2, r, rfl, h1.got hb (by omega) (by omega), h2.got hb (by omega) (by omega)⟩
theorem gcd_look (w : World) : Calls Tryz.prog 124 #[.slice (some ⟨w.heap.size, 0, none⟩) 1 1, .slice (some ⟨w.heap.size + 1, 0, none⟩) 1 1] ((w.alloc (.cells #[.int .u64 12] 28)).alloc (.cells #[.int .u64 18] 28)) fun e w' => ∃ a n c f, e = .returned (.tuple #[.slice a n c, .int .i64 0]) ∧ Got w w' a n f 6 := by
  rw [← size_alloc1 w (.cells #[.int .u64 12] 28)]
  refine (Gcd_sw _ w.heap.size 0 1 1 1 (fun _ => 18) 12 _ (by omega) (rd_new1 _ _ _) (lm_const (by omega) (by omega) 1) (fm1 (by omega)) (by have := ((rd_new1 w 28 12).alloc (.cells #[.int .u64 18] 28)).cell (j := 0) (by omega); exact this) (by omega) (by omega) (by rw [vf_one]; decide)).mono ?_
  rintro e w' ⟨a, k, c, f, rfl, hres, hv⟩
  exact ⟨a, k, c, f, rfl, hres.got (below_alloc (below_alloc (Below.refl _ _) _) _) (by omega) (by rw [hv, vf_one]; decide)⟩
theorem sub_look (w : World) : Calls Tryz.prog 77 #[.slice (some ⟨w.heap.size, 0, none⟩) 1 1, .slice (some ⟨w.heap.size + 1, 0, none⟩) 1 1] ((w.alloc (.cells #[.int .u64 1] 28)).alloc (.cells #[.int .u64 2] 28)) fun e w' => ∃ a n c, e = .returned (.tuple #[.slice a n c, .int .i64 1]) ∧ Below w.heap.size w w' := by
  rw [← size_alloc1 w (.cells #[.int .u64 1] 28)]
  refine (Sub_c _ _ 1 1 1 1 (fun _ => 1) (fun _ => 2) _ (by omega) (by omega) ((rd_new1 w _ _).alloc _) (rd_new1 _ _ _) (lm_const (by omega) (by omega) 1) (lm_const (by omega) (by omega) 1)).mono ?_
  rintro e w' ⟨a, n, c, f, er, rfl, hres, hcase⟩
  rw [vf_one, vf_one] at hcase
  rcases hcase with ⟨_, _, hle, _⟩ | ⟨_, _, _, rfl, _⟩ | ⟨hn, _⟩
  · omega
  · have hb := below_alloc (below_alloc (Below.refl w.heap.size w) (.cells #[.int .u64 1] 28)) (.cells #[.int .u64 2] 28)
    exact ⟨a, n, c, rfl, hb.trans (hres.bel.mono hb.size)⟩
  · exact absurd ⟨fm1 (by omega), fm1 (by omega)⟩ hn
theorem same_look1 {w0 w : World} {ao : Option Addr} {n ca : Nat} {f : Nat → Int} {V : Int} (h : Got w0 w ao n f V) (x : Int) (hx : 0 < x ∧ x < 18446744073709551616) (hV : V = x) : Calls Tryz.prog 43 #[.slice ao n ca, .slice (some ⟨w.heap.size, 0, none⟩) 1 1] (w.alloc (.cells #[.int .u64 x] 28)) fun e w' => e = .returned (.bool true) ∧ Below w.heap.size w w' := by
  refine (same_true ao _ n 1 ca 1 f (fun _ => x) _ (by have := h.le; omega) (by omega) (h.rd.alloc _) (rd_new1 _ _ _) h.lm (lm_const (by omega) hx.2 1) h.fm (fm1 (by omega)) (by rw [h.val, vf_one]; exact hV)).mono ?_
  rintro e w' ⟨rfl, q, rfl⟩
  exact ⟨rfl, below_drewN (below_alloc (Below.refl _ _) _) q⟩
theorem same_look2 {w0 w : World} {ao : Option Addr} {n ca : Nat} {f : Nat → Int} (h : Got w0 w ao n f 18446744073709551616) : Calls Tryz.prog 43 #[.slice ao n ca, .slice (some ⟨w.heap.size, 0, none⟩) 2 2] (w.alloc (.cells #[.int .u64 0, .int .u64 1] 28)) fun e w' => e = .returned (.bool true) ∧ Below w.heap.size w w' := by
  refine (same_true ao _ n 2 ca 2 f (lim2 0 1) _ (by have := h.le; omega) (by omega) (h.rd.alloc _) (rd_newP _ _ _ _) h.lm (lm_lim2 (by omega) (by omega) 2) h.fm (.inr (by simp [lim2])) (by rw [h.val, vf_lim2]; rfl)).mono ?_
  rintro e w' ⟨rfl, q, rfl⟩
  exact ⟨rfl, below_drewN (below_alloc (Below.refl _ _) _) q⟩

end Go.Proofs.YtclopblgdiahiaaGreatDoor
namespace Go.Proofs.YtclopblgdiahiaaGreatDoor
open Go.RowKit

/-- In form, sign and limbs. -/
def wfB (s : Bool) (f : Nat → Int) (n : Nat) : Bool := fmB f n && !(s && decide (n = 0))
/-- Old cells and marks read as before. -/
theorem bcell {W w1 : World} {B : Nat} (hb : Below B W w1) : (∀ b o, b < B → w1.cell? ⟨b, o, none⟩ = W.cell? ⟨b, o, none⟩) ∧ (∀ b o, b < B → w1.frozen? ⟨b, o, none⟩ = W.frozen? ⟨b, o, none⟩) :=
  ⟨fun b o h => hb.cell (p := ⟨b, o, none⟩) h, fun b o h => hb.frozen (p := ⟨b, o, none⟩) h⟩

theorem drewN_below {w w' : World} {q : Nat} (h : w' = w.drewN q) : Below w.heap.size w w' := by rw [h]; exact below_drewN (Below.refl _ _) _

theorem wForm_c (s : Bool) (ao : Option Addr) (n cap : Nat) (f : Nat → Int) (w : World) (hm : n ≤ 9223372036854775807) (hr : Rd .u64 w ao n f) :
    Calls Tryz.prog 37 #[.agg #[.bool s, .slice ao n cap]] w fun e w' => e = .returned (.bool (wfB s f n)) ∧ Below w.heap.size w w' := by
  have hba : Below w.heap.size w (w.alloc (.cells #[.bool s, .slice ao n cap] 24)) := below_alloc (Below.refl _ _) _
  have c1 := form_c ao n cap f (w.alloc (.cells #[.bool s, .slice ao n cap] 24)) hm (hr.alloc _)
  have HB := hid hba
  clear hr hba
  have hwf : wfB s f n = (fmB f n && !(s && decide (n = 0))) := rfl
  rw [hwf]
  clear hwf
  cases hfa : fmB f n
  · rw [hfa] at c1
    have C1 := hid c1
    clear c1 hfa
    go_enter Tryz.func37, Tryz.ntmps37
    go_wp2_with fail
    refine C1.out.mono ?_
    rintro e w1 ⟨rfl, rfl⟩
    go_wp2
    go_ret
    exact ⟨rfl, HB.out⟩
  · rw [hfa] at c1
    have C1 := hid c1
    clear c1 hfa
    cases s
    · go_enter Tryz.func37, Tryz.ntmps37
      go_wp2_with fail
      refine C1.out.mono ?_
      rintro e w1 ⟨rfl, rfl⟩
      go_wp2
      go_ret
      exact ⟨rfl, HB.out⟩
    · by_cases hn0 : n = 0
      · subst hn0
        go_enter Tryz.func37, Tryz.ntmps37
        go_wp2_with fail
        refine C1.out.mono ?_
        rintro e w1 ⟨rfl, rfl⟩
        go_wp2
        go_ret
        exact ⟨rfl, HB.out⟩
      · have hni : ((n : Int) == 0) = false := by simp; omega
        have hdn : decide (n = 0) = false := by simp; omega
        rw [hdn]
        clear hdn
        go_enter Tryz.func37, Tryz.ntmps37
        go_wp2_with fail
        refine C1.out.mono ?_
        rintro e w1 ⟨rfl, rfl⟩
        go_wp2
        go_ret
        exact ⟨rfl, HB.out⟩

theorem signed_c (s : Bool) (ao : Option Addr) (n cap : Nat) (w : World) (hm : n ≤ 9223372036854775807) :
    Calls Tryz.prog 78 #[.bool s, .slice ao n cap] w fun e w' => ∃ r o, e = .returned (.agg #[.bool r, .slice ao n cap]) ∧ Hid (r = (s && decide (0 < n))) ∧ w' = w.alloc o := by
  cases s
  · go_enter Tryz.func78, Tryz.ntmps78
    go_wp2
    exact bodyPost_ret (v := .agg #[.bool false, .slice ao n cap]) (by simp [results, Tryz.results78, go_sem]) rfl ⟨false, _, rfl, rfl, rfl⟩
  · by_cases hn0 : 0 < n
    · have hni : decide ((0 : Int) < (n : Int)) = true := by simp; omega
      have hdn : decide (0 < n) = true := by simp; omega
      rw [hdn]
      clear hdn
      go_enter Tryz.func78, Tryz.ntmps78
      go_wp2
      exact bodyPost_ret (v := .agg #[.bool true, .slice ao n cap]) (by simp [results, Tryz.results78, go_sem]) rfl ⟨true, _, rfl, rfl, rfl⟩
    · have hni : decide ((0 : Int) < (n : Int)) = false := by simp; omega
      have hdn : decide (0 < n) = false := by simp; omega
      rw [hdn]
      clear hdn
      go_enter Tryz.func78, Tryz.ntmps78
      go_wp2
      exact bodyPost_ret (v := .agg #[.bool false, .slice ao n cap]) (by simp [results, Tryz.results78, go_sem]) rfl ⟨false, _, rfl, rfl, rfl⟩

/-- The number that sign and limbs tell. -/
def wv (s : Bool) (f : Nat → Int) (n : Nat) : Int := if s then - vf f n else vf f n
/-- Nothing but blocks from lo on and below hi has turned; there may be new blocks. -/
structure Turned (lo hi : Nat) (w w' : World) : Prop where
  os : w'.os = w.os
  tape : w'.tape = w.tape
  output : w'.output = w.output
  size : w.heap.size ≤ w'.heap.size
  block : ∀ k, k < w.heap.size → k < lo ∨ hi ≤ k → w'.heap[k]? = w.heap[k]?
theorem Turned.refl (lo hi : Nat) (w : World) : Turned lo hi w w := ⟨rfl, rfl, rfl, Nat.le_refl _, fun _ _ _ => rfl⟩
theorem Turned.trans {lo hi : Nat} {a b c : World} (h : Turned lo hi a b) (k : Turned lo hi b c) : Turned lo hi a c :=
  ⟨k.os.trans h.os, k.tape.trans h.tape, k.output.trans h.output, Nat.le_trans h.size k.size, fun i hi hn => (k.block i (Nat.lt_of_lt_of_le hi h.size) hn).trans (h.block i hi hn)⟩
theorem Turned.set {lo hi : Nat} {a w : World} (h : Turned lo hi a w) {x : Addr} (h1 : lo ≤ x.block) (h2 : x.block < hi) (u : Value) : Turned lo hi a (w.setCell x u) :=
  h.trans ⟨rfl, rfl, rfl, by simp [World.setCell], fun k _ hn => Below.heap_setCell _ _ _ _ (by omega)⟩
theorem Turned.alloc {lo hi : Nat} {a w : World} (h : Turned lo hi a w) (o : Obj) : Turned lo hi a (w.alloc o) :=
  h.trans ⟨rfl, rfl, rfl, by simp, fun k hk _ => Below.heap_alloc _ _ _ hk⟩
theorem Turned.drew {lo hi : Nat} {a w : World} (h : Turned lo hi a w) : Turned lo hi a w.drew := ⟨h.os, h.tape, h.output, h.size, h.block⟩
theorem Turned.below {lo hi : Nat} {a w w' : World} (h : Turned lo hi a w) (hb : Below w.heap.size w w') : Turned lo hi a w' :=
  h.trans ⟨hb.os, hb.tape, hb.output, hb.size, fun k hk _ => hb.block k hk⟩
theorem below_turned {B : Nat} {w0 w w' : World} (hb : Below B w0 w) (hB : B ≤ w.heap.size) {lo hi : Nat} (h : Turned lo hi w w') (hl : B ≤ lo) : Below B w0 w' :=
  hb.trans ⟨h.os, h.tape, h.output, h.size, fun k hk => h.block k (by omega) (.inl (by omega))⟩
theorem Res.turned {C w0 w w' w'' ao n cap f} (h : Res C w w' ao n cap f) (hb : Below w0.heap.size w0 w) (ht : Turned w0.heap.size w.heap.size w' w'') : Res C w0 w'' ao n cap f := by
  have hb2 : Below w0.heap.size w0 w' := hb.trans (h.bel.mono hb.size)
  refine ⟨below_turned hb2 hb2.size ht (Nat.le_refl _), ?_, h.lmc, h.fm⟩
  rcases h.own with ⟨rfl, rfl, rfl⟩ | ⟨g, rfl, h1, h2, h3, h4, h5⟩
  · exact .inl ⟨rfl, rfl, rfl⟩
  · exact .inr ⟨g, rfl, by have := hb.size; omega, h2, h3, h4, h5.of (ht.block g h5.lt (.inr h1))⟩

/-- A list that a call answers: memory of the call's own, in form. -/
structure Asw (C : Nat) (w w' : World) (ao : Option Addr) (n cap : Nat) (f : Nat → Int) : Prop where
  bel : Below w.heap.size w w'
  own : Own .u64 28 w' w.heap.size (.slice ao n cap) n f
  lm : Lm f n
  fm : Fm f n
  le : n ≤ C
theorem Own.of {k e w w' base ao n cap f} (h : Own k e w base (.slice ao n cap) n f) (hh : ∀ a, ao = some a → w'.heap[a.block]? = w.heap[a.block]?) : Own k e w' base (.slice ao n cap) n f := by
  obtain ⟨h1, h2⟩ := h
  refine ⟨h1, ?_⟩
  rcases h2 with ⟨h3, h4⟩ | ⟨g, cap', cur, hv, hb, hg, hn, hm, hs, ht⟩
  · exact .inl ⟨h3, h4⟩
  · cases hv
    exact .inr ⟨g, cap, cur, rfl, hb, (hh _ rfl).trans hg, hn, hm, hs, ht⟩
theorem Own.base {k e w base base' v n f} (h : Own k e w base v n f) (hb : base' ≤ base) : Own k e w base' v n f := by
  obtain ⟨h1, h2⟩ := h
  refine ⟨h1, ?_⟩
  rcases h2 with ⟨h3, h4⟩ | ⟨g, cap', cur, hv, hb', hg, hn, hm, hs, ht⟩
  · exact .inl ⟨h3, h4⟩
  · exact .inr ⟨g, cap', cur, hv, Nat.le_trans hb hb', hg, hn, hm, hs, ht⟩
theorem Own.slice {k e w base ao n cap f} (h : Own k e w base (.slice ao n cap) n f) : n ≤ cap ∧ cap ≤ 9223372036854775807 ∧ (ao = none → n = 0 ∧ cap = 0) ∧ Rd k w ao n f ∧ ∀ a, ao = some a → base ≤ a.block ∧ a.block < w.heap.size := by
  obtain ⟨ao', cap', e', h1, h2, h3, h4, h5⟩ := h.shape
  cases e'
  refine ⟨h1, by unfold maxLen at h3; omega, fun e => ⟨by have := h2 e; omega, h2 e⟩, h4, h5⟩
theorem Asw.rd {C w w' ao n cap f} (h : Asw C w w' ao n cap f) : Rd .u64 w' ao n f := h.own.slice.2.2.2.1
theorem Asw.ncap {C w w' ao n cap f} (h : Asw C w w' ao n cap f) : n ≤ cap ∧ cap ≤ 9223372036854775807 := ⟨h.own.slice.1, h.own.slice.2.1⟩
theorem Asw.nil' {C w w' ao n cap f} (h : Asw C w w' ao n cap f) : ao = none → n = 0 ∧ cap = 0 := h.own.slice.2.2.1
theorem Asw.mono {C C' w w' ao n cap f} (h : Asw C w w' ao n cap f) (hC : C ≤ C') : Asw C' w w' ao n cap f := ⟨h.bel, h.own, h.lm, h.fm, Nat.le_trans h.le hC⟩
theorem Asw.none {C : Nat} {w w' : World} (f : Nat → Int) (h : Below w.heap.size w w') : Asw C w w' none 0 0 f := ⟨h, own_nil _ _ _ _ _, fun j hj => by omega, .inl rfl, Nat.zero_le _⟩
theorem Asw.turned {C w0 w w' w'' ao n cap f} (h : Asw C w w' ao n cap f) (hb : Below w0.heap.size w0 w) (ht : Turned w0.heap.size w.heap.size w' w'') : Asw C w0 w'' ao n cap f := by
  have hb2 : Below w0.heap.size w0 w' := hb.trans (h.bel.mono hb.size)
  refine ⟨below_turned hb2 hb2.size ht (Nat.le_refl _), (h.own.of ?_).base hb.size, h.lm, h.fm, h.le⟩
  intro a ha
  obtain ⟨h1, h2⟩ := h.own.slice.2.2.2.2 a ha
  exact ht.block _ h2 (.inr h1)
theorem Asw.ahead {C w0 w w' ao n cap f} (h : Asw C w w' ao n cap f) (hb : Below w0.heap.size w0 w) : Asw C w0 w' ao n cap f := h.turned hb (Turned.refl _ _ _)
theorem Asw.later {C w w' w'' ao n cap f} (h : Asw C w w' ao n cap f) (hb : Below w'.heap.size w' w'') : Asw C w w'' ao n cap f :=
  ⟨h.bel.trans (hb.mono h.bel.size), h.own.below hb, h.lm, h.fm, h.le⟩
theorem Res.ans {C w w' ao n cap f} (h : Res C w w' ao n cap f) (hC : C ≤ 9223372036854775807) : Asw C w w' ao n cap f := by
  refine ⟨h.bel, ?_, h.lm, h.fm, h.le⟩
  rcases h.own with ⟨rfl, rfl, rfl⟩ | ⟨g, rfl, h1, h2, h3, h4, h5⟩
  · exact own_nil _ _ _ _ _
  · exact own_of_blk h5 h1 h3 (by unfold maxLen; omega)
/-- An answer of whole: limbs of its own, in form, and a sign that 0 has not. -/
structure WRes (C : Nat) (w w' : World) (s : Bool) (ao : Option Addr) (n cap : Nat) (f : Nat → Int) : Prop where
  res : Asw C w w' ao n cap f
  sgn : s = true → 0 < n
theorem wfB_iff (s : Bool) (f : Nat → Int) (n : Nat) : wfB s f n = true ↔ Fm f n ∧ (s = true → 0 < n) := by
  rw [← fmB_iff]; unfold wfB; cases s <;> simp; omega
theorem WRes.wfB {C w w' s ao n cap f} (h : WRes C w w' s ao n cap f) : wfB s f n = true := (wfB_iff s f n).2 ⟨h.res.fm, h.sgn⟩
theorem wv_false (f : Nat → Int) (n : Nat) : wv false f n = vf f n := rfl
theorem wv_true (f : Nat → Int) (n : Nat) : wv true f n = - vf f n := rfl
theorem WRes.mk' {C w w' ao n cap f} {r s : Bool} (hr : Hid (r = (s && decide (0 < n)))) (h : Asw C w w' ao n cap f) : WRes C w w' r ao n cap f := ⟨h, fun h => by rw [hr.out] at h; simp at h; exact h.2⟩
theorem wv_sign {f n} {r s : Bool} (hr : Hid (r = (s && decide (0 < n)))) : wv r f n = wv s f n := by
  rw [hr.out]
  by_cases hn : 0 < n
  · simp [hn]
  · obtain rfl : n = 0 := by omega
    cases s <;> simp [wv, vf]

set_option maxHeartbeats 1000000 in
theorem wadd_same (s : Bool) (ao bo : Option Addr) (n m ca cb : Nat) (f h : Nat → Int) (w : World) (hn : n ≤ 8796093022208) (hm : m ≤ 8796093022208) (hr : Rd .u64 w ao n f) (hs : Rd .u64 w bo m h) (hf : Lm f n) (hh : Lm h m) (ff : Fm f n) (fh : Fm h m) :
    Calls Tryz.prog 85 #[.agg #[.bool s, .slice ao n ca], .agg #[.bool s, .slice bo m cb]] w fun e w' => ∃ r ao' k cap' f', e = .returned (.agg #[.bool r, .slice ao' k cap']) ∧ WRes (max n m + 1) w w' r ao' k cap' f' ∧ wv r f' k = wv s f n + wv s h m := by
  have HR := hid hr; have HS := hid hs; have HF := hid hf; have HH := hid hh; have FF := hid ff; have FH := hid fh
  clear hr hs hf hh ff fh
  cases s
  all_goals
    go_enter Tryz.func85, Tryz.ntmps85
    go_wp2_with fail
    refine (Add_c ao bo n m ca cb f h _ hn hm (((HR.out.alloc _).alloc _).alloc _) (((HS.out.alloc _).alloc _).alloc _) HF.out HH.out).mono ?_
    rintro e w1 ⟨xa, k, cx, g, er, rfl, hres, hc⟩
    obtain ⟨rfl, hv⟩ : er = 0 ∧ vf g k = vf f n + vf h m := by
      rcases hc with ⟨_, _, h1, h2⟩ | ⟨h1, _⟩
      · exact ⟨h1, h2⟩
      · exact absurd ⟨FF.out, FH.out⟩ h1
    clear hc
    have hk : k ≤ max n m + 1 := hres.le
    obtain ⟨hc1, hf1⟩ := bcell hres.bel
    have hz : w.heap.size + 1 + 1 < w1.heap.size := by have := hres.bel.size; simp at this; omega
    have HRes := hid hres; have HV := hid hv
    clear hres hv
    go_wp2_with fail
    refine (signed_c _ xa k cx _ (by omega)).mono ?_
    rintro e w2 ⟨r, o, rfl, hsg, rfl⟩
    go_wp2
    refine bodyPost_ret (v := .agg #[.bool r, .slice xa k cx]) (by simp [results, Tryz.results85, go_sem, hc1, hz]) rfl ⟨r, xa, k, cx, g, rfl, WRes.mk' hsg ((HRes.out.turned (below_alloc (below_alloc (below_alloc (Below.refl w.heap.size w) _) _) _) ?_).ans (by omega)), ?_⟩
    · exact (((Turned.refl _ _ _).set (by simp; omega) (by simp) _).set (by simp; omega) (by simp) _).alloc _
    · rw [wv_sign hsg]; simp only [wv_false, wv_true, HV.out]; try omega

theorem beq_bool_ne {s t : Bool} (h : (s == t) = false) : s = !t := by cases s <;> cases t <;> simp_all
set_option maxHeartbeats 1000000 in
theorem wadd_diff (s t : Bool) (hst : (s == t) = false) (ao bo : Option Addr) (n m ca cb : Nat) (f h : Nat → Int) (w : World) (hn : n ≤ 8796093022208) (hm : m ≤ 8796093022208) (hr : Rd .u64 w ao n f) (hs : Rd .u64 w bo m h) (hf : Lm f n) (hh : Lm h m) (ff : Fm f n) (fh : Fm h m) :
    Calls Tryz.prog 85 #[.agg #[.bool s, .slice ao n ca], .agg #[.bool t, .slice bo m cb]] w fun e w' => ∃ r ao' k cap' f', e = .returned (.agg #[.bool r, .slice ao' k cap']) ∧ WRes (max n m + 1) w w' r ao' k cap' f' ∧ wv r f' k = wv s f n + wv t h m := by
  have HR := hid hr; have HS := hid hs; have HF := hid hf; have HH := hid hh; have FF := hid ff; have FH := hid fh
  have HST := hid (beq_bool_ne hst)
  clear hr hs hf hh ff fh
  go_enter Tryz.func85, Tryz.ntmps85
  go_wp2_with fail
  refine (Cmp_c ao bo n m ca cb f h _ hn hm (((HR.out.alloc _).alloc _).alloc _) (((HS.out.alloc _).alloc _).alloc _) HF.out HH.out).mono ?_
  rintro e w1 ⟨⟨q, hq⟩, c, er, rfl, hc⟩
  obtain ⟨rfl, ho⟩ : er = 0 ∧ Ord c (vf f n) (vf h m) := by
    rcases hc with ⟨_, _, h1, h2⟩ | ⟨h1, _⟩
    · exact ⟨h1, h2⟩
    · exact absurd ⟨FF.out, FH.out⟩ h1
  clear hc
  have hb := drewN_below hq
  obtain ⟨hc1, hf1⟩ := bcell hb
  have hz : w.heap.size + 1 + 1 < w1.heap.size := by have := hb.size; simp at this; omega
  have x0 : w1.cell? ⟨w.heap.size, 0, none⟩ = some (.bool s) := (hc1 _ _ (by simp; omega)).trans (by simp [go_sem])
  have x1 : w1.cell? ⟨w.heap.size, 1, none⟩ = some (.slice ao n ca) := (hc1 _ _ (by simp; omega)).trans (by simp [go_sem])
  have y0 : w1.cell? ⟨w.heap.size + 1, 0, none⟩ = some (.bool t) := (hc1 _ _ (by simp)).trans (by simp [go_sem])
  have y1 : w1.cell? ⟨w.heap.size + 1, 1, none⟩ = some (.slice bo m cb) := (hc1 _ _ (by simp)).trans (by simp [go_sem])
  have z0 : w1.cell? ⟨w.heap.size + 1 + 1, 0, none⟩ = some (.bool false) := (hc1 _ _ (by simp)).trans (by simp [go_sem])
  have z1 : w1.cell? ⟨w.heap.size + 1 + 1, 1, none⟩ = some (.slice none 0 0) := (hc1 _ _ (by simp)).trans (by simp [go_sem])
  have HO := hid ho
  have hbw : Below w.heap.size w w1 := (below_alloc (below_alloc (below_alloc (Below.refl w.heap.size w) _) _) _).trans (hb.mono (by simp; omega))
  have HBw := hid hbw
  clear ho hq hb hc1 hbw
  by_cases hc0 : c < 0
  · have hlt : vf f n < vf h m := by have := HO.out; unfold Ord at this; omega
    have HLT := hid hlt
    clear hlt
    go_wp2_with fail
    have hb2 := below_turned HBw.out HBw.out.size (((((Turned.refl w.heap.size (w.heap.size + 1 + 1 + 1) w1).set (x := ⟨w.heap.size, 0, none⟩) (by simp) (by simp; omega) (.bool t)).set (x := ⟨w.heap.size, 1, none⟩) (by simp) (by simp; omega) (.slice bo m cb)).set (x := ⟨w.heap.size + 1, 0, none⟩) (by simp) (by simp) (.bool s)).set (x := ⟨w.heap.size + 1, 1, none⟩) (by simp) (by simp) (.slice ao n ca)) (Nat.le_refl _)
    refine (Sub_c bo ao m n cb ca h f _ hm hn (HS.out.below hb2 (Nat.le_refl _)) (HR.out.below hb2 (Nat.le_refl _)) HH.out HF.out).mono ?_
    rintro e w2 ⟨xa, k, cx, g, er, rfl, hres, hc⟩
    obtain ⟨rfl, hv⟩ : er = 0 ∧ vf g k = vf h m - vf f n := by
      rcases hc with ⟨_, _, _, h1, h2⟩ | ⟨_, _, h1, _⟩ | ⟨h1, _⟩
      · exact ⟨h1, h2⟩
      · have := HLT.out; omega
      · exact absurd ⟨FH.out, FF.out⟩ h1
    clear hc
    obtain ⟨hc2, hf2⟩ := bcell hres.bel
    have hz2 : w.heap.size + 1 + 1 < w2.heap.size := by have := hres.bel.size; (try simp at this); omega
    have u0 : w2.cell? ⟨w.heap.size, 0, none⟩ = some (.bool t) := (hc2 _ _ (by simp; omega)).trans (by simp [go_sem, x0])
    have z0 : w2.cell? ⟨w.heap.size + 1 + 1, 0, none⟩ = some (.bool false) := (hc2 _ _ (by simp; omega)).trans (by simp [go_sem, z0])
    have z1 : w2.cell? ⟨w.heap.size + 1 + 1, 1, none⟩ = some (.slice none 0 0) := (hc2 _ _ (by simp; omega)).trans (by simp [go_sem, z1])
    have hk : k ≤ m := hres.le
    have HRes := hid hres; have HV := hid hv; have HB2 := hid hb2
    clear hres hv hb2 hc2
    go_wp2_with fail
    refine (signed_c _ xa k cx _ (by omega)).mono ?_
    rintro e w3 ⟨r, o, rfl, hsg, rfl⟩
    go_wp2
    refine bodyPost_ret (v := .agg #[.bool r, .slice xa k cx]) (by simp [results, Tryz.results85, go_sem, z0, z1, hz2]) rfl ⟨r, xa, k, cx, g, rfl, WRes.mk' hsg (((HRes.out.turned HB2.out ?_).mono (by omega)).ans (by omega)), ?_⟩
    · exact (((Turned.refl _ _ _).set (by first | omega | (simp; done) | (simp; omega)) (by first | omega | (simp; done) | (simp; omega)) _).set (by first | omega | (simp; done) | (simp; omega)) (by first | omega | (simp; done) | (simp; omega)) _).alloc _
    · rw [wv_sign hsg, HST.out]; have := HV.out; cases t <;> simp only [Bool.not_false, Bool.not_true, wv_false, wv_true] <;> omega
  · have hlt : vf h m ≤ vf f n := by have := HO.out; unfold Ord at this; omega
    have HLT := hid hlt
    clear hlt
    go_wp2_with fail
    have hb2 := HBw.out
    refine (Sub_c ao bo n m ca cb f h _ hn hm (HR.out.below hb2 (Nat.le_refl _)) (HS.out.below hb2 (Nat.le_refl _)) HF.out HH.out).mono ?_
    rintro e w2 ⟨xa, k, cx, g, er, rfl, hres, hc⟩
    obtain ⟨rfl, hv⟩ : er = 0 ∧ vf g k = vf f n - vf h m := by
      rcases hc with ⟨_, _, _, h1, h2⟩ | ⟨_, _, h1, _⟩ | ⟨h1, _⟩
      · exact ⟨h1, h2⟩
      · have := HLT.out; omega
      · exact absurd ⟨FF.out, FH.out⟩ h1
    clear hc
    obtain ⟨hc2, hf2⟩ := bcell hres.bel
    have hz2 : w.heap.size + 1 + 1 < w2.heap.size := by have := hres.bel.size; (try simp at this); omega
    have u0 : w2.cell? ⟨w.heap.size, 0, none⟩ = some (.bool s) := (hc2 _ _ (by omega)).trans x0
    have z0 : w2.cell? ⟨w.heap.size + 1 + 1, 0, none⟩ = some (.bool false) := (hc2 _ _ (by omega)).trans z0
    have z1 : w2.cell? ⟨w.heap.size + 1 + 1, 1, none⟩ = some (.slice none 0 0) := (hc2 _ _ (by omega)).trans z1
    have hk : k ≤ n := hres.le
    have HRes := hid hres; have HV := hid hv; have HB2 := hid hb2
    clear hres hv hb2 hc2
    go_wp2_with fail
    refine (signed_c _ xa k cx _ (by omega)).mono ?_
    rintro e w3 ⟨r, o, rfl, hsg, rfl⟩
    go_wp2
    refine bodyPost_ret (v := .agg #[.bool r, .slice xa k cx]) (by simp [results, Tryz.results85, go_sem, z0, z1, hz2]) rfl ⟨r, xa, k, cx, g, rfl, WRes.mk' hsg (((HRes.out.turned HB2.out ?_).mono (by omega)).ans (by omega)), ?_⟩
    · exact (((Turned.refl _ _ _).set (by first | omega | (simp; done) | (simp; omega)) (by first | omega | (simp; done) | (simp; omega)) _).set (by first | omega | (simp; done) | (simp; omega)) (by first | omega | (simp; done) | (simp; omega)) _).alloc _
    · rw [wv_sign hsg, HST.out]; have := HV.out; cases t <;> simp only [Bool.not_false, Bool.not_true, wv_false, wv_true] <;> omega

theorem wadd_c (s t : Bool) (ao bo : Option Addr) (n m ca cb : Nat) (f h : Nat → Int) (w : World) (hn : n ≤ 8796093022208) (hm : m ≤ 8796093022208) (hr : Rd .u64 w ao n f) (hs : Rd .u64 w bo m h) (hf : Lm f n) (hh : Lm h m) (ff : Fm f n) (fh : Fm h m) :
    Calls Tryz.prog 85 #[.agg #[.bool s, .slice ao n ca], .agg #[.bool t, .slice bo m cb]] w fun e w' => ∃ r ao' k cap' f', e = .returned (.agg #[.bool r, .slice ao' k cap']) ∧ WRes (max n m + 1) w w' r ao' k cap' f' ∧ wv r f' k = wv s f n + wv t h m := by
  cases hst : (s == t)
  · exact wadd_diff s t hst ao bo n m ca cb f h w hn hm hr hs hf hh ff fh
  · obtain rfl : s = t := by simpa using hst
    exact wadd_same s ao bo n m ca cb f h w hn hm hr hs hf hh ff fh
end Go.Proofs.YtclopblgdiahiaaGreatDoor
