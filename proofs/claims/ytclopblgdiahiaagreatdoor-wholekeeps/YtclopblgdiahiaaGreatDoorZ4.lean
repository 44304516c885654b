/-
  Walks of package nat's greatest common divisor: highBits. The walk of package nat's steps.apply. Walks of package nat's greatest common divisor: some, euclid. Walks of package nat's greatest common divisor: shorten. Walks of package nat's greatest common divisor: gcd, Gcd. The walk of nat's call Gcd, whatever it is handed. Walks of the document's reference for nat: Form, Twin, Same, Low, two, light. Walks of the document's reference for nat: Twin, From, To. Walks of the document's reference for nat: Cmp, Add, Sub on digits, and the calls DocAdd, DocSub, DocCmp.
-/
import Derived.Test.YtclopblgdiahiaaGreatDoorZ3
import Derived.Test.YtclopblgdiahiaaGreatDoorZ2
import Derived.BigQuiet
import Derived.Test.YtclopblgdiahiaaGreatDoorZ1
namespace Go.Proofs.YtclopblgdiahiaaGreatDoor
open Go.RowKit

theorem hb_num {g : Nat → Int} {k : Nat} {Z Q : Int} (hl : Lm g (k + 2)) (q0 : 0 < Q) (he : g (k + 1) * 18446744073709551616 + g k = Z * Q + g k % Q) :
    vf g (k + 2) = Z * (Q * pw k) + (g k % Q * pw k + vf g k) ∧ 0 ≤ g k % Q * pw k + vf g k ∧ g k % Q * pw k + vf g k < Q * pw k := by
  have r0 := Int.emod_nonneg (g k) (show Q ≠ 0 by omega)
  have r1 := Int.emod_lt_of_pos (g k) q0
  have v0 := vf_nonneg (hl.mono (m := k) (by omega))
  have v1 := vf_lt (hl.mono (m := k) (by omega))
  have p0 := pw_pos k
  have m0 : 0 ≤ g k % Q * pw k := Int.mul_nonneg r0 (by omega)
  have m1 : (g k % Q + 1) * pw k ≤ Q * pw k := Int.mul_le_mul_of_nonneg_right (by omega) (by omega)
  rw [Int.add_mul, Int.one_mul] at m1
  refine ⟨?_, by omega, by omega⟩
  rw [top2, he]; grind
theorem top_le {f g : Nat → Int} {k : Nat} (hf : Lm f (k + 1)) (hg : Lm g (k + 1)) (h : vf g (k + 1) ≤ vf f (k + 1)) : g k ≤ f k := by
  apply Int.le_of_lt_add_one
  have a1 := vf_lt (hf.mono (m := k) (by omega)); have a2 := vf_nonneg (hg.mono (m := k) (by omega))
  rw [vf_succ, vf_succ] at h
  have : g k * pw k < (f k + 1) * pw k := by rw [Int.add_mul, Int.one_mul]; omega
  exact Int.lt_of_mul_lt_mul_right this (Int.le_of_lt (pw_pos k))

/-- The highest bits of two numbers, at the same places. -/
def Top2 (A B x y : Int) : Prop := 9223372036854775808 ≤ x ∧ x < 18446744073709551616 ∧ 0 ≤ y ∧ y ≤ x ∧ ∃ T ra rb, A = x * T + ra ∧ B = y * T + rb ∧ 0 ≤ ra ∧ ra < T ∧ 0 ≤ rb ∧ rb < T

set_option maxRecDepth 100000 in
set_option maxHeartbeats 2000000 in
theorem highBits_c (ao bo : Option Addr) (n m ca cb : Nat) (f h : Nat → Int) (w : World) (hn : n ≤ 8796093022208) (hn2 : 2 ≤ n) (hmn : m ≤ n) (hr : Rd .u64 w ao n f) (hs : Rd .u64 w bo m h) (hf : Lm f n) (hh : Lm h m) (ff : Fm f n) (hle : vf h m ≤ vf f n) :
    ∃ x y, Top2 (vf f n) (vf h m) x y ∧ Calls Tryz.prog 200 #[.slice ao n ca, .slice bo m cb] w fun e w' => e = .returned (.tuple #[.int .u64 x, .int .u64 y]) ∧ ∃ q, w' = w.drewN q := by
  obtain ⟨k, rfl⟩ : ∃ k, n = k + 2 := ⟨n - 2, by omega⟩
  obtain ⟨b, ob, rfl⟩ := hr.at (by omega)
  obtain ⟨y, hy⟩ : ∃ y, f (k + 1) = y := ⟨_, rfl⟩
  have hcell : w.cell? ⟨b, ob + (k + 1), none⟩ = some (.int .u64 y) := by rw [← hy]; exact hr.cell (by omega)
  have hy01 := hf (k + 1) (by omega)
  have hyne : y ≠ 0 := by rw [← hy]; rcases ff with h | h; omega; simpa using h
  rw [hy] at hy01
  obtain ⟨y, rfl⟩ := Int.eq_ofNat_of_zero_le hy01.1
  obtain ⟨s, s0, s1, hse, hP1, hP2⟩ := lead_nums y (by omega) (by omega)
  have cl := Tryz.bits_LeadingZeros64 (y : Int) w (by omega) (by omega)
  rw [Int.toNat_natCast, hse] at cl
  have hPQ : (2 : Int) ^ s.toNat * 2 ^ (64 - s).toNat = 18446744073709551616 := by rw [← Int.pow_add, show s.toNat + (64 - s).toNat = 64 by omega]; rfl
  obtain ⟨P, hP⟩ : ∃ P : Int, 2 ^ s.toNat = P := ⟨_, rfl⟩
  obtain ⟨Q, hQ⟩ : ∃ Q : Int, 2 ^ (64 - s).toNat = Q := ⟨_, rfl⟩
  have p0 : 0 < P := by rw [← hP]; exact Int.pow_pos (by decide)
  have q0 : 0 < Q := by rw [← hQ]; exact Int.pow_pos (by decide)
  rw [hP] at hP1 hP2 hPQ
  rw [hQ] at hPQ
  have hyQ : (y : Int) < Q := by
    have : ((y : Int) + 1) * P ≤ Q * P := by rw [Int.mul_comm Q P, hPQ]; exact hP2
    have := Int.le_of_mul_le_mul_right this p0
    omega
  have lmx : Lm (ext h m) (k + 2) := fun j hj => by
    by_cases hjm : j < m
    · rw [ext_in _ _ _ hjm]; exact hh j hjm
    · rw [ext_out _ _ _ (by omega)]; omega
  have hvh : vf (ext h m) (k + 2) = vf h m := vf_ext_list _ _ _ hmn
  have htop := top_le hf lmx (by rw [hvh]; exact hle)
  rw [hy] at htop
  have e1 : ext f (k + 2) (k + 1) = f (k + 1) := ext_in _ _ _ (by omega)
  have e0 : ext f (k + 2) k = f k := ext_in _ _ _ (by omega)
  obtain ⟨z, hz⟩ : ∃ z, (k : Int) + 2 - 1 = z := ⟨_, rfl⟩
  have hzn : z.toNat = k + 1 := by omega
  have hz0 : 0 ≤ z := by omega
  have hz1 : z < (k : Int) + 2 := by omega
  obtain ⟨X, X0, X1, hX, cX⟩ := bitsFrom_c (some ⟨b, ob, none⟩) (k + 2) ca k z f s w (by omega) (by omega) (by omega) hr hf s0 s1 (by rw [e1, hy, hQ]; exact hyQ)
  have cY0 := fun q => bitsFrom_c bo m cb k z h s (w.drewN q) (by omega) (by omega) (by omega) (show Rd .u64 (w.drewN q) bo m h from hs) hh s0 s1 (by rw [hQ]; omega)
  rw [e1, e0, hQ] at hX
  obtain ⟨Y, Y0, Y1, hY, _⟩ := cY0 0
  rw [hQ] at hY
  have cY : ∀ q, Calls Tryz.prog 207 #[.slice bo m cb, .int .i64 z, .int .i64 s] (w.drewN q) fun e w' => e = .returned (.int .u64 Y) ∧ ∃ n, w' = (w.drewN q).drewN n := fun q => by
    obtain ⟨Y', a1, a2, a3, a4⟩ := cY0 q
    rw [hQ] at a3
    have : Y' = Y := by
      have e : Y' * Q = Y * Q := by omega
      exact Int.eq_of_mul_eq_mul_right (by omega) e
    rw [this] at a4
    exact a4
  obtain ⟨A1, A2, A3⟩ := hb_num hf q0 hX
  obtain ⟨B1, B2, B3⟩ := hb_num lmx q0 hY
  rw [hvh] at B1
  have hXlow : 9223372036854775808 ≤ X := by
    have m1 : 9223372036854775808 * Q ≤ (y : Int) * P * Q := Int.mul_le_mul_of_nonneg_right hP1 (by omega)
    rw [Int.mul_assoc, hPQ] at m1
    have r1 := Int.emod_lt_of_pos (f k) q0
    have fk := hf k (by omega)
    have : 9223372036854775808 * Q < (X + 1) * Q := by rw [Int.add_mul, Int.one_mul, hy] at *; omega
    have := Int.lt_of_mul_lt_mul_right this (by omega)
    omega
  have hYX : Y ≤ X := by
    have hT : 0 < Q * pw k := Int.mul_pos q0 (pw_pos k)
    have : Y * (Q * pw k) < (X + 1) * (Q * pw k) := by rw [Int.add_mul, Int.one_mul]; omega
    have := Int.lt_of_mul_lt_mul_right this (by omega)
    omega
  refine ⟨X, Y, ⟨hXlow, X1, Y0, hYX, Q * pw k, _, _, A1, B1, A2, A3, B2, B3⟩, ?_⟩
  have CL := hid cl; have CX := hid cX; have CY := hid cY
  clear cl cX cY cY0 hf hh hr hs ff hle hP1 hP2 hPQ hX hY A1 A2 A3 B1 B2 B3 hvh htop lmx e1 e0 hy hse hP hQ
  go_enter Tryz.func200, Tryz.ntmps200
  go_wp2_with fail
  refine CL.out.mono ?_
  rintro e w' ⟨rfl, rfl⟩
  go_wp2_with fail
  refine CX.out.mono ?_
  rintro e w' ⟨rfl, q1, rfl⟩
  go_wp2_with fail
  refine (CY.out _).mono ?_
  rintro e w' ⟨rfl, q2, rfl⟩
  go_wp2
  go_ret2
  exact ⟨rfl, _, by (repeat rw [World.drewN_drewN]) <;> rfl⟩
end Go.Proofs.YtclopblgdiahiaaGreatDoor
namespace Go.Proofs.YtclopblgdiahiaaGreatDoor
open Go.RowKit

/-- One limb of both numbers. -/
theorem app_step {p' p q : Nat → Int} {i : Nat} {ca cb c d x y h1 l1 h2 l2 bo v : Int} (hv : vf p' i + (ca - cb) * pw i = c * vf p i - d * vf q i) (hx : p i = x) (hy : q i = y) (e1 : x * c + ca = h1 * 18446744073709551616 + l1) (e2 : y * d + cb = h2 * 18446744073709551616 + l2) (ev : v = l1 - l2 + bo * 18446744073709551616) :
    vf (upd p' i v) (i + 1) + (h1 - (h2 + bo)) * pw (i + 1) = c * vf p (i + 1) - d * vf q (i + 1) := by
  have e : vf (upd p' i v) i = vf p' i := vf_congr (fun j hj => upd_other _ _ _ _ (by omega))
  rw [vf_succ, vf_succ, vf_succ, e, upd_same, pw_succ, hx, hy, ev]
  grind
/-- A number below pw m, told by what it is but for multiples of pw m. -/
theorem mod_one {u v p t s : Int} (h : u + t * p = v + s * p) (u0 : 0 ≤ u) (u1 : u < p) (v0 : 0 ≤ v) (v1 : v < p) : u = v := by
  have e : u - v = (s - t) * p := by rw [Int.sub_mul]; omega
  have hz : s - t = 0 := by
    rcases Int.lt_trichotomy (s - t) 0 with h | h | h
    · have : (s - t) * p ≤ (-1) * p := Int.mul_le_mul_of_nonneg_right (by omega) (by omega)
      omega
    · exact h
    · have : 1 * p ≤ (s - t) * p := Int.mul_le_mul_of_nonneg_right (by omega) (by omega)
      omega
  rw [hz] at e; omega

/-- Nothing but blocks g and h has turned; there may be new ones. -/
structure Only2 (g h : Nat) (w w' : World) : Prop where
  os : w'.os = w.os
  tape : w'.tape = w.tape
  output : w'.output = w.output
  size : w.heap.size ≤ w'.heap.size
  block : ∀ k, k < w.heap.size → k ≠ g → k ≠ h → w'.heap[k]? = w.heap[k]?
theorem Only2.refl (g h : Nat) (w : World) : Only2 g h w w := ⟨rfl, rfl, rfl, Nat.le_refl _, fun _ _ _ _ => rfl⟩
theorem Only2.of1 {g h : Nat} {w w' : World} (o : Only g w w') : Only2 g h w w' := ⟨o.os, o.tape, o.output, o.size, fun k a b _ => o.block k a b⟩
theorem Only2.of2 {g h : Nat} {w w' : World} (o : Only h w w') : Only2 g h w w' := ⟨o.os, o.tape, o.output, o.size, fun k a _ b => o.block k a b⟩
theorem Only2.trans {g h : Nat} {a b c : World} (x : Only2 g h a b) (y : Only2 g h b c) : Only2 g h a c :=
  ⟨y.os.trans x.os, y.tape.trans x.tape, y.output.trans x.output, Nat.le_trans x.size y.size, fun k h1 h2 h3 => (y.block k (Nat.lt_of_lt_of_le h1 x.size) h2 h3).trans (x.block k h1 h2 h3)⟩
theorem Only2.swap {g h : Nat} {a b : World} (x : Only2 g h a b) : Only2 h g a b := ⟨x.os, x.tape, x.output, x.size, fun k h1 h2 h3 => x.block k h1 h3 h2⟩
theorem Only2.drewN {g h : Nat} {a b : World} (x : Only2 g h a b) (q : Nat) : Only2 g h a (b.drewN q) := ⟨x.os, x.tape, x.output, x.size, x.block⟩
theorem Only2.below {g h B : Nat} {w0 w w' : World} (hb : Below B w0 w) (x : Only2 g h w w') (hg : B ≤ g) (hh : B ≤ h) (hB : B ≤ w.heap.size) : Below B w0 w' :=
  hb.trans ⟨x.os, x.tape, x.output, x.size, fun k hk => x.block k (by omega) (by omega) (by omega)⟩
theorem SB.only2 {w w' g h s a0 b0 a1 b1 odd} (x : SB w s a0 b0 a1 b1 odd) (o : Only2 g h w w') (hg : s ≠ g) (hh : s ≠ h) : SB w' s a0 b0 a1 b1 odd := (o.block s x.lt hg hh).trans x

/-- mulAdd with its bounds. -/
theorem mad_of (x c z : Int) (x0 : 0 ≤ x) (x1 : x < 18446744073709551616) (c0 : 0 ≤ c) (c1 : c < 18446744073709551615) (z0 : 0 ≤ z) (z1 : z ≤ c) :
    ∃ h l, (∀ w, Calls Tryz.prog 195 #[.int .u64 x, .int .u64 c, .int .u64 z] w fun e w' => e = .returned (.tuple #[.int .u64 h, .int .u64 l]) ∧ w' = w) ∧ 0 ≤ h ∧ h ≤ c ∧ 0 ≤ l ∧ l < 18446744073709551616 ∧ Hid (x * c + z = h * 18446744073709551616 + l) := by
  have hb : 0 ≤ x * c ∧ x * c ≤ 18446744073709551615 * c := ⟨Int.mul_nonneg x0 c0, Int.mul_le_mul_of_nonneg_right (by omega) c0⟩
  refine ⟨_, _, fun w => mulAdd_c x c z w x0 x1 c0 (by omega) z0 (by omega), ?_, ?_, ?_, ?_, ?_⟩
  · omega
  · omega
  · omega
  · omega
  · show _ = _; omega
theorem mad_of' (x c z : Int) (x0 : 0 ≤ x) (x1 : x < 18446744073709551616) (c0 : 0 ≤ c) (c1 : c < 18446744073709551615) (z0 : 0 ≤ z) (z1 : z ≤ c + 1) :
    ∃ h l, (∀ w, Calls Tryz.prog 195 #[.int .u64 x, .int .u64 c, .int .u64 z] w fun e w' => e = .returned (.tuple #[.int .u64 h, .int .u64 l]) ∧ w' = w) ∧ 0 ≤ h ∧ h ≤ c ∧ 0 ≤ l ∧ l < 18446744073709551616 ∧ Hid (x * c + z = h * 18446744073709551616 + l) := by
  have hb : 0 ≤ x * c ∧ x * c ≤ 18446744073709551615 * c := ⟨Int.mul_nonneg x0 c0, Int.mul_le_mul_of_nonneg_right (by omega) c0⟩
  refine ⟨_, _, fun w => mulAdd_c x c z w x0 x1 c0 (by omega) z0 (by omega), ?_, ?_, ?_, ?_, ?_⟩
  · omega
  · omega
  · omega
  · omega
  · show _ = _; omega
theorem sub_of (l k : Int) (l0 : 0 ≤ l) (l1 : l < 18446744073709551616) (k0 : 0 ≤ k) (k1 : k < 18446744073709551616) :
    ∃ d o, (∀ w, (callFunc 158 #[.int .u64 l, .int .u64 k, .int .u64 0]).run Tryz.prog w = .ok (.value (.tuple #[.int .u64 d, .int .u64 o])) w) ∧ 0 ≤ d ∧ d < 18446744073709551616 ∧ 0 ≤ o ∧ o ≤ 1 ∧ Hid (d = l - k + o * 18446744073709551616) := by
  refine ⟨_, _, fun w => sub64_0 l k l0 k0 k1 w, by omega, by omega, (bor_01 _ _).1, (bor_01 _ _).2, ?_⟩
  show _ = _
  unfold bor; split <;> omega

set_option maxRecDepth 100000 in
set_option maxHeartbeats 8000000 in
theorem apply_c (ga gb Na Nb n m : Nat) (F H : Nat → Int) (a0 b0 a1 b1 : Int) (odd : Bool) (w : World) (hba : Blk .u64 28 w ga Na F) (hbb : Blk .u64 28 w gb Nb H) (la : Lm F Na) (lb : Lm H Nb) (hne : ga ≠ gb) (hnN : n ≤ Na) (hmN : m ≤ Nb) (hmn : m ≤ n) (hm1 : 1 ≤ m) (hNa : Na ≤ 140737488355328) (hNb : Nb ≤ 140737488355328)
    (p0 : 0 ≤ a0 ∧ a0 ≤ 18446744073709551613) (p1 : 0 ≤ b0 ∧ b0 ≤ 18446744073709551613) (p2 : 0 ≤ a1 ∧ a1 ≤ 18446744073709551613) (p3 : 0 ≤ b1 ∧ b1 ≤ 18446744073709551613) (U V : Int) (hU : stU odd a0 b0 (vf F n) (vf H m) = U) (hV : stV odd a1 b1 (vf F n) (vf H m) = V) (u0 : 0 ≤ U) (u1 : U < pw m) (v0 : 0 ≤ V) (v1 : V < pw m) :
    Calls Tryz.prog 202 #[.agg #[.int .u64 a0, .int .u64 b0, .int .u64 a1, .int .u64 b1, .bool odd], .slice (some ⟨ga, 0, none⟩) n Na, .slice (some ⟨gb, 0, none⟩) m Nb] w fun e w' => Only2 ga gb w w' ∧ ∃ gp gq Np Nq k1 k2 c1 c2 P Q x1 x2, e = .returned (.tuple #[.slice x1 k1 c1, .slice x2 k2 c2]) ∧ (gp = ga ∧ gq = gb ∨ gp = gb ∧ gq = ga) ∧ Blk .u64 28 w' gp Np P ∧ Blk .u64 28 w' gq Nq Q ∧ Lm P Np ∧ Lm Q Nq ∧ Np ≤ 140737488355328 ∧ Nq ≤ 140737488355328 ∧ (x1 = none ∧ k1 = 0 ∧ c1 = 0 ∨ x1 = some ⟨gp, 0, none⟩ ∧ 0 < k1 ∧ c1 = Np) ∧ (x2 = none ∧ k2 = 0 ∧ c2 = 0 ∨ x2 = some ⟨gq, 0, none⟩ ∧ 0 < k2 ∧ c2 = Nq) ∧ k1 ≤ Np ∧ k2 ≤ Nq ∧ Fm P k1 ∧ Fm Q k2 ∧ vf P k1 = U ∧ vf Q k2 = V := by
  have HBa := hid hba; have HBb := hid hbb; have HLa := hid la; have HLb := hid lb; have HU := hid hU; have HV := hid hV
  have U1 := hid u1; have V1 := hid v1
  have ga_lt := hba.lt; have gb_lt := hbb.lt
  clear hba hbb la lb hU hV u1 v1
  obtain ⟨p00, p01⟩ := p0; obtain ⟨p10, p11⟩ := p1; obtain ⟨p20, p21⟩ := p2; obtain ⟨p30, p31⟩ := p3
  have i1 : (m : Int) ≤ (Na : Int) := by omega
  go_enter Tryz.func202, Tryz.ntmps202
  cases odd
  · skip
    go_wp2
    have hS0 : SB (w.alloc (.cells #[.int .u64 a0, .int .u64 b0, .int .u64 a1, .int .u64 b1, .bool false] 183)) w.heap.size a0 b0 a1 b1 false := heap_alloc_new w _
    have hP0 := HBa.out.alloc (.cells #[.int .u64 a0, .int .u64 b0, .int .u64 a1, .int .u64 b1, .bool false] 183)
    have hQ0 := HBb.out.alloc (.cells #[.int .u64 a0, .int .u64 b0, .int .u64 a1, .int .u64 b1, .bool false] 183)
    have HS0 := hid hS0; have HP0 := hid hP0; have HQ0 := hid hQ0
    clear hS0 hP0 hQ0
    go_loopw [8, 9, 10, 11, 12, 40] (fun c1 c2 c3 c4 c5 t wr => ∃ (i : Nat) (pa lb pb la bw : Int) (P Q : Nat → Int), i ≤ m ∧ t = .int .i64 i ∧ c1 = .int .u64 pa ∧ c2 = .int .u64 lb ∧ c3 = .int .u64 pb ∧ c4 = .int .u64 la ∧ c5 = .int .u64 bw ∧ 0 ≤ pa ∧ pa ≤ a0 ∧ 0 ≤ lb ∧ lb ≤ b0 + 1 ∧ 0 ≤ pb ∧ pb ≤ b1 ∧ 0 ≤ la ∧ la ≤ a1 + 1 ∧ Hid (Only2 ga gb w wr) ∧ Hid (w.heap.size < wr.heap.size) ∧ Hid (SB wr w.heap.size a0 b0 a1 b1 false) ∧ Hid (Blk .u64 28 wr ga Na P) ∧ Hid (Blk .u64 28 wr gb Nb Q) ∧ Hid (Lm P Na) ∧ Hid (Lm Q Nb) ∧ Hid (∀ j, i ≤ j → P j = F j) ∧ Hid (∀ j, i ≤ j → Q j = H j) ∧ Hid (vf P i + (pa - lb) * pw i = a0 * vf F i - b0 * vf H i) ∧ Hid (vf Q i + (pb - la) * pw i = b1 * vf H i - a1 * vf F i)) (fun _ _ _ _ _ t _ => m - (intOf t).toNat)
    case atStart => exact ⟨0, 0, 0, 0, 0, 0, F, H, by omega, rfl, rfl, rfl, rfl, rfl, rfl, by omega, by omega, by omega, by omega, by omega, by omega, by omega, by omega, Only2.of1 ((Only.refl _ _).alloc _), (by show _ < _; simp), HS0.out, HP0.out, HQ0.out, HLa.out, HLb.out, fun _ _ => rfl, fun _ _ => rfl, by simp [Hid, vf, pw], by simp [Hid, vf, pw]⟩
    case round =>
      clear HS0 HP0 HQ0
      obtain ⟨i, pa, lb, pb, la, bw, P, Q, hi, rfl, rfl, rfl, rfl, rfl, rfl, a1', a2, a3, a4, a5, a6, a7, a8, HO, HSz, HS, HP, HQ, HLP, HLQ, HEP, HEQ, HV1, HV2⟩ := hrel
      by_cases hlt : i < m
      · obtain ⟨x, hx⟩ : ∃ x, P i = x := ⟨_, rfl⟩
        obtain ⟨y, hy⟩ : ∃ y, Q i = y := ⟨_, rfl⟩
        have hcx : wr.cell? ⟨ga, i, none⟩ = some (.int .u64 x) := by rw [← hx]; exact HP.out.cell (by omega)
        have hcy : wr.cell? ⟨gb, i, none⟩ = some (.int .u64 y) := by rw [← hy]; exact HQ.out.cell (by omega)
        have fzp := HP.out.frozen i
        have fzq := HQ.out.frozen i
        obtain ⟨s0, s1, s2, s3, s4⟩ := HS.out.cells
        have hgs1 : w.heap.size ≠ ga := by omega
        have hgs2 : w.heap.size ≠ gb := by omega
        have t2 : ∀ v, (wr.setCell ⟨ga, i, none⟩ v).cell? ⟨w.heap.size, 2, none⟩ = some (.int .u64 a1) := fun v => (World.cell?_of_block (Below.heap_setCell _ _ _ _ (by simpa using hgs1))).trans s2
        have t3 : ∀ v, (wr.setCell ⟨ga, i, none⟩ v).cell? ⟨w.heap.size, 3, none⟩ = some (.int .u64 b1) := fun v => (World.cell?_of_block (Below.heap_setCell _ _ _ _ (by simpa using hgs1))).trans s3
        have tq : ∀ v, (wr.setCell ⟨ga, i, none⟩ v).cell? ⟨gb, i, none⟩ = some (.int .u64 y) := fun v => (World.cell?_of_block (Below.heap_setCell _ _ _ _ (by simp; omega))).trans hcy
        have fq : ∀ v, (wr.setCell ⟨ga, i, none⟩ (.int .u64 v)).frozen? ⟨gb, i, none⟩ = false := fun v => (HQ.out.setOther (a := ⟨ga, i, none⟩) (by simp; omega) (.int .u64 v)).frozen i
        have bx := HLP.out i (by omega); have by' := HLQ.out i (by omega)
        rw [hx] at bx; rw [hy] at by'
        obtain ⟨x0, x1⟩ := bx; obtain ⟨y0, y1⟩ := by'
        have HX := hid (show F i = x by rw [← HEP.out i (Nat.le_refl _), hx]); have HY := hid (show H i = y by rw [← HEQ.out i (Nat.le_refl _), hy])
        clear hx hy
        obtain ⟨h1, l1, M1, q10, q11, r10, r11, E1⟩ := mad_of x a0 pa x0 x1 p00 (by omega) a1' a2
        obtain ⟨h2, l2, M2, q20, q21, r20, r21, E2⟩ := mad_of' y b0 lb y0 y1 p10 (by omega) a3 a4
        obtain ⟨h3, l3, M3, q30, q31, r30, r31, E3⟩ := mad_of y b1 pb y0 y1 p30 (by omega) a5 a6
        obtain ⟨h4, l4, M4, q40, q41, r40, r41, E4⟩ := mad_of' x a1 la x0 x1 p20 (by omega) a7 a8
        obtain ⟨d1, o1', S1, d10, d11, o10, o11, F1⟩ := sub_of l1 l2 r10 r11 r20 r21
        obtain ⟨d2, o2', S2, d20, d21, o20, o21, F2⟩ := sub_of l3 l4 r30 r31 r40 r41
        have CM1 := hid M1; have CM2 := hid M2; have CM3 := hid M3; have CM4 := hid M4
        clear M1 M2 M3 M4
        go_wp2
        go_quiet (fail)
        go_wp2_with fail
        refine (CM1.out _).mono ?_
        rintro e w1 ⟨rfl, rfl⟩
        go_wp2_with fail
        refine (CM2.out _).mono ?_
        rintro e w1 ⟨rfl, rfl⟩
        go_wp2_with fail
        refine (CM3.out _).mono ?_
        rintro e w1 ⟨rfl, rfl⟩
        go_wp2_with fail
        refine (CM4.out _).mono ?_
        rintro e w1 ⟨rfl, rfl⟩
        go_wp2
        go_roundw
        case rel =>
          have o1 : Only ga wr _ := (Only.refl ga wr).setCell i none (.int .u64 d1)
          have o2 : Only gb (wr.setCell ⟨ga, i, none⟩ (.int .u64 d1)) _ := (Only.refl gb (wr.setCell ⟨ga, i, none⟩ (.int .u64 d1))).setCell i none (.int .u64 d2)
          have oo := (Only2.of1 (h := gb) o1).trans (Only2.of2 (g := ga) o2)
          have hsz := HSz.out
          refine ⟨i + 1, h1, h2 + o1', h3, h4 + o2', o2', upd P i d1, upd Q i d2, by omega, by go_num, rfl, rfl, rfl, rfl, rfl, by omega, by omega, by omega, by omega, by omega, by omega, by omega, by omega, ?_, ?_, ?_, ?_, ?_, HLP.out.upd ⟨d10, d11⟩, HLQ.out.upd ⟨d20, d21⟩, ?_, ?_, ?_, ?_⟩
          · exact HO.out.trans ⟨oo.os, oo.tape, oo.output, oo.size, oo.block⟩
          · show _ < _
            have := oo.size
            exact Nat.lt_of_lt_of_le hsz this
          · exact HS.out.only2 ⟨oo.os, oo.tape, oo.output, oo.size, oo.block⟩ hgs1 hgs2
          · exact (HP.out.set i d1).setOther (a := ⟨gb, i, none⟩) (by simp; omega) (.int .u64 d2)
          · exact (HQ.out.setOther (a := ⟨ga, i, none⟩) (by simp; omega) (.int .u64 d1)).set i d2
          · intro j hj
            rw [upd_other _ _ _ _ (by omega)]; exact HEP.out j (by omega)
          · intro j hj
            rw [upd_other _ _ _ _ (by omega)]; exact HEQ.out j (by omega)
          · exact app_step HV1.out HX.out HY.out E1.out E2.out F1.out
          · exact app_step HV2.out HY.out HX.out E3.out E4.out F2.out
        case measure => simp [intOf]; omega
      · obtain rfl : i = m := by omega
        have n1 := vf_nonneg (HLP.out.mono (m := i) (by omega)); have n2 := vf_lt (HLP.out.mono (m := i) (by omega))
        have n3 := vf_nonneg (HLQ.out.mono (m := i) (by omega)); have n4 := vf_lt (HLQ.out.mono (m := i) (by omega))
        have hcut : vf F n = vf F i + vf (sh F i) (n - i) * pw i := by rw [← vf_split, show i + (n - i) = n by omega]
        have hPu : vf P i = U := by
          have e := HU.out
          simp only [stU, if_false, Bool.false_eq_true] at e
          rw [hcut] at e
          refine mod_one (p := pw i) (t := pa - lb) (s := -(a0 * vf (sh F i) (n - i))) ?_ n1 n2 u0 U1.out
          rw [HV1.out, ← e]; grind
        have hQv : vf Q i = V := by
          have e := HV.out
          simp only [stV, if_false, Bool.false_eq_true] at e
          rw [hcut] at e
          refine mod_one (p := pw i) (t := pb - la) (s := a1 * vf (sh F i) (n - i)) ?_ n3 n4 v0 V1.out
          rw [HV2.out, ← e]; grind
        have HPu := hid hPu; have HQv := hid hQv
        clear n1 n2 n3 n4 hcut hPu hQv
        go_wp2_with fail
        refine (trim_c (some ⟨ga, 0, none⟩) i Na P wr (by omega) (by omega) (HP.out.rd0 (by omega))).mono ?_
        rintro e w1 ⟨rfl, k1, hk1, hz1, he1⟩
        have Z1 := hid hz1
        clear hz1
        obtain ⟨x1, c1, hx1, hf1, hc1⟩ : ∃ x1 c1, e = .returned (.slice x1 k1 c1) ∧ Fm P k1 ∧ (x1 = none ∧ k1 = 0 ∧ c1 = 0 ∨ x1 = some ⟨ga, 0, none⟩ ∧ 0 < k1 ∧ c1 = Na) := by
          rcases he1 with ⟨h0, he⟩ | ⟨h0, hn0, he⟩
          · exact ⟨none, 0, by rw [he, h0], .inl h0, .inl ⟨rfl, h0, rfl⟩⟩
          · exact ⟨_, _, he, .inr hn0, .inr ⟨rfl, h0, rfl⟩⟩
        subst hx1
        have HF1 := hid hf1; have HC1 := hid hc1
        clear he1 hf1 hc1
        go_wp2_with fail
        refine (trim_c (some ⟨gb, 0, none⟩) i Nb Q _ (by omega) (by omega) (HQ.out.rd0 (by omega))).mono ?_
        rintro e w1 ⟨rfl, k2, hk2, hz2, he2⟩
        have Z2 := hid hz2
        clear hz2
        obtain ⟨x2, c2, hx2, hf2, hc2⟩ : ∃ x2 c2, e = .returned (.slice x2 k2 c2) ∧ Fm Q k2 ∧ (x2 = none ∧ k2 = 0 ∧ c2 = 0 ∨ x2 = some ⟨gb, 0, none⟩ ∧ 0 < k2 ∧ c2 = Nb) := by
          rcases he2 with ⟨h0, he⟩ | ⟨h0, hn0, he⟩
          · exact ⟨none, 0, by rw [he, h0], .inl h0, .inl ⟨rfl, h0, rfl⟩⟩
          · exact ⟨_, _, he, .inr hn0, .inr ⟨rfl, h0, rfl⟩⟩
        subst hx2
        have HF2 := hid hf2; have HC2 := hid hc2
        clear he2 hf2 hc2
        go_wp2
        go_ret2
        refine ⟨HO.out, ga, gb, Na, Nb, k1, k2, c1, c2, P, Q, x1, x2, rfl, .inl ⟨rfl, rfl⟩, HP.out, HQ.out, HLP.out, HLQ.out, by omega, by omega, HC1.out, HC2.out, by omega, by omega, HF1.out, HF2.out, ?_, ?_⟩
        · rw [trim_val hk1 Z1.out]; exact HPu.out
        · rw [trim_val hk2 Z2.out]; exact HQv.out
  · skip
    go_wp2
    have hS0 : SB (w.alloc (.cells #[.int .u64 b0, .int .u64 a0, .int .u64 b1, .int .u64 a1, .bool true] 183)) w.heap.size b0 a0 b1 a1 true := heap_alloc_new w _
    have hP0 := HBb.out.alloc (.cells #[.int .u64 b0, .int .u64 a0, .int .u64 b1, .int .u64 a1, .bool true] 183)
    have hQ0 := HBa.out.alloc (.cells #[.int .u64 b0, .int .u64 a0, .int .u64 b1, .int .u64 a1, .bool true] 183)
    have HS0 := hid hS0; have HP0 := hid hP0; have HQ0 := hid hQ0
    clear hS0 hP0 hQ0
    go_loopw [8, 9, 10, 11, 12, 40] (fun c1 c2 c3 c4 c5 t wr => ∃ (i : Nat) (pa lb pb la bw : Int) (P Q : Nat → Int), i ≤ m ∧ t = .int .i64 i ∧ c1 = .int .u64 pa ∧ c2 = .int .u64 lb ∧ c3 = .int .u64 pb ∧ c4 = .int .u64 la ∧ c5 = .int .u64 bw ∧ 0 ≤ pa ∧ pa ≤ b0 ∧ 0 ≤ lb ∧ lb ≤ a0 + 1 ∧ 0 ≤ pb ∧ pb ≤ a1 ∧ 0 ≤ la ∧ la ≤ b1 + 1 ∧ Hid (Only2 gb ga w wr) ∧ Hid (w.heap.size < wr.heap.size) ∧ Hid (SB wr w.heap.size b0 a0 b1 a1 true) ∧ Hid (Blk .u64 28 wr gb Nb P) ∧ Hid (Blk .u64 28 wr ga Na Q) ∧ Hid (Lm P Nb) ∧ Hid (Lm Q Na) ∧ Hid (∀ j, i ≤ j → P j = H j) ∧ Hid (∀ j, i ≤ j → Q j = F j) ∧ Hid (vf P i + (pa - lb) * pw i = b0 * vf H i - a0 * vf F i) ∧ Hid (vf Q i + (pb - la) * pw i = a1 * vf F i - b1 * vf H i)) (fun _ _ _ _ _ t _ => m - (intOf t).toNat)
    case atStart => exact ⟨0, 0, 0, 0, 0, 0, H, F, by omega, rfl, rfl, rfl, rfl, rfl, rfl, by omega, by omega, by omega, by omega, by omega, by omega, by omega, by omega, Only2.of1 ((Only.refl _ _).alloc _), (by show _ < _; simp), HS0.out, HP0.out, HQ0.out, HLb.out, HLa.out, fun _ _ => rfl, fun _ _ => rfl, by simp [Hid, vf, pw], by simp [Hid, vf, pw]⟩
    case round =>
      clear HS0 HP0 HQ0
      obtain ⟨i, pa, lb, pb, la, bw, P, Q, hi, rfl, rfl, rfl, rfl, rfl, rfl, a1', a2, a3, a4, a5, a6, a7, a8, HO, HSz, HS, HP, HQ, HLP, HLQ, HEP, HEQ, HV1, HV2⟩ := hrel
      by_cases hlt : i < m
      · obtain ⟨x, hx⟩ : ∃ x, P i = x := ⟨_, rfl⟩
        obtain ⟨y, hy⟩ : ∃ y, Q i = y := ⟨_, rfl⟩
        have hcx : wr.cell? ⟨gb, i, none⟩ = some (.int .u64 x) := by rw [← hx]; exact HP.out.cell (by omega)
        have hcy : wr.cell? ⟨ga, i, none⟩ = some (.int .u64 y) := by rw [← hy]; exact HQ.out.cell (by omega)
        have fzp := HP.out.frozen i
        have fzq := HQ.out.frozen i
        obtain ⟨s0, s1, s2, s3, s4⟩ := HS.out.cells
        have hgs1 : w.heap.size ≠ gb := by omega
        have hgs2 : w.heap.size ≠ ga := by omega
        have t2 : ∀ v, (wr.setCell ⟨gb, i, none⟩ v).cell? ⟨w.heap.size, 2, none⟩ = some (.int .u64 b1) := fun v => (World.cell?_of_block (Below.heap_setCell _ _ _ _ (by simpa using hgs1))).trans s2
        have t3 : ∀ v, (wr.setCell ⟨gb, i, none⟩ v).cell? ⟨w.heap.size, 3, none⟩ = some (.int .u64 a1) := fun v => (World.cell?_of_block (Below.heap_setCell _ _ _ _ (by simpa using hgs1))).trans s3
        have tq : ∀ v, (wr.setCell ⟨gb, i, none⟩ v).cell? ⟨ga, i, none⟩ = some (.int .u64 y) := fun v => (World.cell?_of_block (Below.heap_setCell _ _ _ _ (by simp; omega))).trans hcy
        have fq : ∀ v, (wr.setCell ⟨gb, i, none⟩ (.int .u64 v)).frozen? ⟨ga, i, none⟩ = false := fun v => (HQ.out.setOther (a := ⟨gb, i, none⟩) (by simp; omega) (.int .u64 v)).frozen i
        have bx := HLP.out i (by omega); have by' := HLQ.out i (by omega)
        rw [hx] at bx; rw [hy] at by'
        obtain ⟨x0, x1⟩ := bx; obtain ⟨y0, y1⟩ := by'
        have HX := hid (show H i = x by rw [← HEP.out i (Nat.le_refl _), hx]); have HY := hid (show F i = y by rw [← HEQ.out i (Nat.le_refl _), hy])
        clear hx hy
        obtain ⟨h1, l1, M1, q10, q11, r10, r11, E1⟩ := mad_of x b0 pa x0 x1 p10 (by omega) a1' a2
        obtain ⟨h2, l2, M2, q20, q21, r20, r21, E2⟩ := mad_of' y a0 lb y0 y1 p00 (by omega) a3 a4
        obtain ⟨h3, l3, M3, q30, q31, r30, r31, E3⟩ := mad_of y a1 pb y0 y1 p20 (by omega) a5 a6
        obtain ⟨h4, l4, M4, q40, q41, r40, r41, E4⟩ := mad_of' x b1 la x0 x1 p30 (by omega) a7 a8
        obtain ⟨d1, o1', S1, d10, d11, o10, o11, F1⟩ := sub_of l1 l2 r10 r11 r20 r21
        obtain ⟨d2, o2', S2, d20, d21, o20, o21, F2⟩ := sub_of l3 l4 r30 r31 r40 r41
        have CM1 := hid M1; have CM2 := hid M2; have CM3 := hid M3; have CM4 := hid M4
        clear M1 M2 M3 M4
        go_wp2
        go_quiet (fail)
        go_wp2_with fail
        refine (CM1.out _).mono ?_
        rintro e w1 ⟨rfl, rfl⟩
        go_wp2_with fail
        refine (CM2.out _).mono ?_
        rintro e w1 ⟨rfl, rfl⟩
        go_wp2_with fail
        refine (CM3.out _).mono ?_
        rintro e w1 ⟨rfl, rfl⟩
        go_wp2_with fail
        refine (CM4.out _).mono ?_
        rintro e w1 ⟨rfl, rfl⟩
        go_wp2
        go_roundw
        case rel =>
          have o1 : Only gb wr _ := (Only.refl gb wr).setCell i none (.int .u64 d1)
          have o2 : Only ga (wr.setCell ⟨gb, i, none⟩ (.int .u64 d1)) _ := (Only.refl ga (wr.setCell ⟨gb, i, none⟩ (.int .u64 d1))).setCell i none (.int .u64 d2)
          have oo := (Only2.of1 (h := ga) o1).trans (Only2.of2 (g := gb) o2)
          have hsz := HSz.out
          refine ⟨i + 1, h1, h2 + o1', h3, h4 + o2', o2', upd P i d1, upd Q i d2, by omega, by go_num, rfl, rfl, rfl, rfl, rfl, by omega, by omega, by omega, by omega, by omega, by omega, by omega, by omega, ?_, ?_, ?_, ?_, ?_, HLP.out.upd ⟨d10, d11⟩, HLQ.out.upd ⟨d20, d21⟩, ?_, ?_, ?_, ?_⟩
          · exact HO.out.trans ⟨oo.os, oo.tape, oo.output, oo.size, oo.block⟩
          · show _ < _
            have := oo.size
            exact Nat.lt_of_lt_of_le hsz this
          · exact HS.out.only2 ⟨oo.os, oo.tape, oo.output, oo.size, oo.block⟩ hgs1 hgs2
          · exact (HP.out.set i d1).setOther (a := ⟨ga, i, none⟩) (by simp; omega) (.int .u64 d2)
          · exact (HQ.out.setOther (a := ⟨gb, i, none⟩) (by simp; omega) (.int .u64 d1)).set i d2
          · intro j hj
            rw [upd_other _ _ _ _ (by omega)]; exact HEP.out j (by omega)
          · intro j hj
            rw [upd_other _ _ _ _ (by omega)]; exact HEQ.out j (by omega)
          · exact app_step HV1.out HX.out HY.out E1.out E2.out F1.out
          · exact app_step HV2.out HY.out HX.out E3.out E4.out F2.out
        case measure => simp [intOf]; omega
      · obtain rfl : i = m := by omega
        have n1 := vf_nonneg (HLP.out.mono (m := i) (by omega)); have n2 := vf_lt (HLP.out.mono (m := i) (by omega))
        have n3 := vf_nonneg (HLQ.out.mono (m := i) (by omega)); have n4 := vf_lt (HLQ.out.mono (m := i) (by omega))
        have hcut : vf F n = vf F i + vf (sh F i) (n - i) * pw i := by rw [← vf_split, show i + (n - i) = n by omega]
        have hPu : vf P i = U := by
          have e := HU.out
          simp only [stU, if_true] at e
          rw [hcut] at e
          refine mod_one (p := pw i) (t := pa - lb) (s := a0 * vf (sh F i) (n - i)) ?_ n1 n2 u0 U1.out
          rw [HV1.out, ← e]; grind
        have hQv : vf Q i = V := by
          have e := HV.out
          simp only [stV, if_true] at e
          rw [hcut] at e
          refine mod_one (p := pw i) (t := pb - la) (s := -(a1 * vf (sh F i) (n - i))) ?_ n3 n4 v0 V1.out
          rw [HV2.out, ← e]; grind
        have HPu := hid hPu; have HQv := hid hQv
        clear n1 n2 n3 n4 hcut hPu hQv
        go_wp2_with fail
        refine (trim_c (some ⟨gb, 0, none⟩) i Nb P wr (by omega) (by omega) (HP.out.rd0 (by omega))).mono ?_
        rintro e w1 ⟨rfl, k1, hk1, hz1, he1⟩
        have Z1 := hid hz1
        clear hz1
        obtain ⟨x1, c1, hx1, hf1, hc1⟩ : ∃ x1 c1, e = .returned (.slice x1 k1 c1) ∧ Fm P k1 ∧ (x1 = none ∧ k1 = 0 ∧ c1 = 0 ∨ x1 = some ⟨gb, 0, none⟩ ∧ 0 < k1 ∧ c1 = Nb) := by
          rcases he1 with ⟨h0, he⟩ | ⟨h0, hn0, he⟩
          · exact ⟨none, 0, by rw [he, h0], .inl h0, .inl ⟨rfl, h0, rfl⟩⟩
          · exact ⟨_, _, he, .inr hn0, .inr ⟨rfl, h0, rfl⟩⟩
        subst hx1
        have HF1 := hid hf1; have HC1 := hid hc1
        clear he1 hf1 hc1
        go_wp2_with fail
        refine (trim_c (some ⟨ga, 0, none⟩) i Na Q _ (by omega) (by omega) (HQ.out.rd0 (by omega))).mono ?_
        rintro e w1 ⟨rfl, k2, hk2, hz2, he2⟩
        have Z2 := hid hz2
        clear hz2
        obtain ⟨x2, c2, hx2, hf2, hc2⟩ : ∃ x2 c2, e = .returned (.slice x2 k2 c2) ∧ Fm Q k2 ∧ (x2 = none ∧ k2 = 0 ∧ c2 = 0 ∨ x2 = some ⟨ga, 0, none⟩ ∧ 0 < k2 ∧ c2 = Na) := by
          rcases he2 with ⟨h0, he⟩ | ⟨h0, hn0, he⟩
          · exact ⟨none, 0, by rw [he, h0], .inl h0, .inl ⟨rfl, h0, rfl⟩⟩
          · exact ⟨_, _, he, .inr hn0, .inr ⟨rfl, h0, rfl⟩⟩
        subst hx2
        have HF2 := hid hf2; have HC2 := hid hc2
        clear he2 hf2 hc2
        go_wp2
        go_ret2
        refine ⟨HO.out.swap, gb, ga, Nb, Na, k1, k2, c1, c2, P, Q, x1, x2, rfl, .inr ⟨rfl, rfl⟩, HP.out, HQ.out, HLP.out, HLQ.out, by omega, by omega, HC1.out, HC2.out, by omega, by omega, HF1.out, HF2.out, ?_, ?_⟩
        · rw [trim_val hk1 Z1.out]; exact HPu.out
        · rw [trim_val hk2 Z2.out]; exact HQv.out
end Go.Proofs.YtclopblgdiahiaaGreatDoor
namespace Go.Proofs.YtclopblgdiahiaaGreatDoor
open Go.RowKit

set_option maxHeartbeats 400000 in
theorem some_c (a0 b0 a1 b1 : Int) (odd : Bool) (w : World) : Calls Tryz.prog 201 #[.agg #[.int .u64 a0, .int .u64 b0, .int .u64 a1, .int .u64 b1, .bool odd]] w fun e w' => e = .returned (.bool (b0 != 0)) ∧ Below w.heap.size w w' := by
  go_enter Tryz.func201, Tryz.ntmps201
  go_wp2
  go_ret
  exact ⟨rfl, (Below.refl _ _).alloc (Nat.le_refl _) _⟩

/-- A number in a block of the call's own (blocks from base on). -/
def One (base : Nat) (w : World) (x : Option Addr) (k c g : Nat) (A : Int) : Prop := ∃ P, x = some ⟨g, 0, none⟩ ∧ 0 < k ∧ k ≤ c ∧ c ≤ 140737488355328 ∧ base ≤ g ∧ Blk .u64 28 w g c P ∧ Lm P c ∧ Fm P k ∧ vf P k = A
theorem One.below {base w w' x k c g A} (h : One base w x k c g A) (hb : Below w.heap.size w w') : One base w' x k c g A := by
  obtain ⟨P, h1, h2, h3, h4, h5, h6, h7, h8, h9⟩ := h
  exact ⟨P, h1, h2, h3, h4, h5, h6.below hb h6.lt, h7, h8, h9⟩
/-- Two numbers, the second maybe 0, in blocks of their own. -/
def Two (base : Nat) (w : World) (x1 : Option Addr) (k1 c1 : Nat) (x2 : Option Addr) (k2 c2 : Nat) (A B : Int) : Prop :=
  ∃ g1, One base w x1 k1 c1 g1 A ∧ 0 ≤ B ∧ B ≤ A ∧ ((x2 = none ∧ k2 = 0 ∧ c2 = 0 ∧ B = 0) ∨ ∃ g2, g1 ≠ g2 ∧ One base w x2 k2 c2 g2 B)
theorem Two.below {base w w' x1 k1 c1 x2 k2 c2 A B} (h : Two base w x1 k1 c1 x2 k2 c2 A B) (hb : Below w.heap.size w w') : Two base w' x1 k1 c1 x2 k2 c2 A B := by
  obtain ⟨g1, h1, h2, h3, h4⟩ := h
  exact ⟨g1, h1.below hb, h2, h3, h4.imp id (fun ⟨g2, a, b⟩ => ⟨g2, a, b.below hb⟩)⟩

set_option maxRecDepth 100000 in
set_option maxHeartbeats 8000000 in
theorem euclid_c (base : Nat) (x1 x2 : Option Addr) (k1 c1 k2 c2 K : Nat) (A B : Int) (w : World) (h : Two base w x1 k1 c1 x2 k2 c2 A B) (hk2 : 2 ≤ k2) (hAK : A < pw K) (hK : K ≤ 8796093022207) (hbase : base ≤ w.heap.size) :
    Calls Tryz.prog 191 #[.slice x1 k1 c1, .slice x2 k2 c2] w fun e w' => ∃ y1 l1 d1 y2 l2 d2 A' B', e = .returned (.tuple #[.slice y1 l1 d1, .slice y2 l2 d2]) ∧ Below base w w' ∧ Two base w' y1 l1 d1 y2 l2 d2 A' B' ∧ Cd A' B' A B ∧ B' < B ∧ A' ≤ A := by
  obtain ⟨g1, ⟨P, rfl, a1, a2, a3, a4, hbP, lP, fP, vP⟩, b0, b1, h2⟩ := h
  rcases h2 with ⟨_, hz, _⟩ | ⟨g2, hne, Q, rfl, e1, e2, e3, e4, hbQ, lQ, fQ, vQ⟩
  · omega
  have hk1K : k1 ≤ K := mid_len (lP.mono a2) fP (by rw [vP]; exact hAK)
  have hk21 : k2 ≤ k1 := vf_len (lQ.mono e2) (lP.mono a2) fQ (by rw [vP, vQ]; exact b1)
  have hA0 : 0 ≤ A := by rw [← vP]; exact vf_nonneg (lP.mono a2)
  have hBlt : B < pw k2 := by rw [← vQ]; exact vf_lt (lQ.mono e2)
  obtain ⟨x, y, hT, cH⟩ := highBits_c (some ⟨g1, 0, none⟩) (some ⟨g2, 0, none⟩) k1 k2 c1 c2 P Q w (by omega) (by omega) hk21 (hbP.rd0 a2) (hbQ.rd0 e2) (lP.mono a2) (lQ.mono e2) fP (by rw [vP, vQ]; exact b1)
  rw [vP, vQ] at hT
  obtain ⟨t1, t2, t3, t4, T, ra, rb, hA, hB, ra0, ra1, rb0, rb1⟩ := hT
  have CH := hid cH
  have CF := hid (fun W => findSteps_c x y W t3 t4 (by omega) t2)
  have HP := hid hbP; have HQ := hid hbQ; have LP := hid lP; have LQ := hid lQ; have FP := hid fP; have FQ := hid fQ; have VP := hid vP; have VQ := hid vQ; have HA := hid hA; have HB := hid hB; have BLT := hid hBlt
  clear cH hbP hbQ lP lQ fP fQ vP vQ hA hB hBlt hAK
  go_enter Tryz.func191, Tryz.ntmps191
  go_wp2_with fail
  refine CH.out.mono ?_
  rintro e w1 ⟨rfl, q1, rfl⟩
  go_wp2_with fail
  refine (CF.out _).mono ?_
  rintro e w2 ⟨hbel2, a0, b0', a1', b1', odd, a, b, rfl, hL, hx0⟩
  have HL := hid hL; have HX0 := hid hx0
  have BE2 := hid (show Below w.heap.size w w2 from ⟨hbel2.os, hbel2.tape, hbel2.output, hbel2.size, hbel2.block⟩)
  clear hL hx0 hbel2 CF CH
  go_wp2_with fail
  refine (some_c a0 b0' a1' b1' odd _).mono ?_
  rintro e w3 ⟨rfl, hbel3⟩
  have hS3 : SB w3 w2.heap.size a0 b0' a1' b1' odd := (show SB (w2.alloc _) w2.heap.size a0 b0' a1' b1' odd from heap_alloc_new w2 _).below hbel3
  have z2 := BE2.out.size
  have BE3 := hid (show Below w.heap.size w w3 from (BE2.out.alloc z2 _).trans (hbel3.mono (by simp; omega)))
  have HP3 := hid (HP.out.below BE3.out HP.out.lt); have HQ3 := hid (HQ.out.below BE3.out HQ.out.lt)
  obtain ⟨s0, s1, s2, s3, s4⟩ := hS3.cells
  have g1lt := HP.out.lt; have g2lt := HQ.out.lt
  clear hbel3 hS3 HP HQ
  by_cases hz : b0' = 0
  · have hzb : (b0' != 0) = false := by simp [hz]
    rw [hzb]
    go_wp2_with fail
    refine (divMod_c (some ⟨g1, 0, none⟩) (some ⟨g2, 0, none⟩) k1 k2 c1 c2 P Q w3 (by omega) (by omega) (HP3.out.rd0 a2) (HQ3.out.rd0 e2) (LP.out.mono a2) (LQ.out.mono e2) FP.out FQ.out (by omega)).mono ?_
    rintro e w4 ⟨xq, kq, cq, q, xr, kr, cr, r, rfl, hresq, hresr, hv, hr0, hr1⟩
    rw [VP.out, VQ.out] at hv
    rw [VQ.out] at hr1
    have HV := hid hv; have HR0 := hid hr0; have HR1 := hid hr1; have HRS := hid hresr
    have HQ4 := hid (HQ3.out.below hresr.bel HQ3.out.lt)
    clear hv hr0 hr1 hresq hresr
    go_wp2
    go_ret2
    have hb4 := BE3.out.trans (HRS.out.bel.mono BE3.out.size)
    refine ⟨_, k2, c2, _, kr, cr, B, vf r kr, rfl, hb4.mono hbase, ⟨g2, ⟨Q, rfl, by omega, e2, e3, e4, HQ4.out, LQ.out, FQ.out, VQ.out⟩, HR0.out, by have := HR1.out; omega, ?_⟩, ?_, HR1.out, b1⟩
    · have hnc := HRS.out.ncap
      have z3 := BE3.out.size
      rcases HRS.out.own with ⟨rfl, rfl, rfl⟩ | ⟨gr, rfl, hgr, hk0, hkc, hcC, hbr⟩
      · exact .inl ⟨rfl, rfl, rfl, rfl⟩
      · exact .inr ⟨gr, by omega, r, rfl, hk0, hkc, by omega, by omega, hbr, HRS.out.lmc, HRS.out.fm, rfl⟩
    · have e : vf r kr = A - vf q kq * B := by have := HV.out; omega
      rw [e]
      exact (Cd.refl A B).step _
  · have hzb : (b0' != 0) = true := by simp [hz]
    rw [hzb]
    obtain ⟨hled, m0, m1, m2, m3⟩ := lh_some HL.out hz
    obtain ⟨n0, n1, n2, n3⟩ := lh_none HL.out
    have hl := hled T ra rb ra0 ra1 rb0 rb1
    rw [← HA.out, ← HB.out] at hl
    obtain ⟨l1, l2, l3, l4⟩ := hl
    have HC := hid l4
    clear l4 hled
    obtain ⟨U, hU⟩ : ∃ U, stU odd a0 b0' A B = U := ⟨_, rfl⟩
    obtain ⟨V, hV⟩ : ∃ V, stV odd a1' b1' A B = V := ⟨_, rfl⟩
    rw [hU, hV] at HC
    rw [hV] at l1 l2
    rw [hU] at l2 l3
    have CA := hid (apply_c g1 g2 c1 c2 k1 k2 P Q a0 b0' a1' b1' odd w3 HP3.out HQ3.out LP.out LQ.out hne a2 e2 hk21 (by omega) a3 e3 ⟨n0, by omega⟩ ⟨n1, by omega⟩ ⟨n2, by omega⟩ ⟨n3, by omega⟩ U V (by rw [VP.out, VQ.out]; exact hU) (by rw [VP.out, VQ.out]; exact hV) (by omega) (by have := BLT.out; omega) (by omega) (by have := BLT.out; omega))
    clear hU hV hz
    go_wp2_with fail
    refine CA.out.mono ?_
    rintro e w4 ⟨hon2, gp, gq, Np, Nq, t1', t2', d1, d2, P', Q', y1, y2, rfl, hside, hbp, hbq, lp, lq, hNp, hNq, hx1, hx2, hl1, hl2, fp, fq, vp, vq⟩
    have H1 := hid hside; have H2 := hid hbp; have H3 := hid hbq; have H4 := hid lp; have H5 := hid lq; have H6 := hid hx1; have H7 := hid hx2; have H8 := hid fp; have H9 := hid fq; have H10 := hid vp; have H11 := hid vq; have HON := hid hon2
    clear hside hbp hbq lp lq hx1 hx2 fp fq vp vq hon2 CA
    go_wp2
    go_ret2
    have z3 := BE3.out.size
    have hb4 : Below base w w4 := HON.out.below (BE3.out.mono hbase) a4 e4 (by omega)
    have hgp : base ≤ gp ∧ base ≤ gq ∧ gp ≠ gq := by rcases H1.out with ⟨rfl, rfl⟩ | ⟨rfl, rfl⟩ <;> omega
    refine ⟨y1, t1', d1, y2, t2', d2, U, V, rfl, hb4, ⟨gp, ?_, by omega, by omega, ?_⟩, HC.out, by omega, by omega⟩
    · rcases H6.out with ⟨_, hk0, _⟩ | ⟨h1, h2, h3⟩
      · have := H10.out
        rw [hk0] at this
        simp [vf] at this
        omega
      · exact ⟨P', h1, h2, by omega, by omega, hgp.1, by rw [h3]; exact H2.out, by rw [h3]; exact H4.out, H8.out, H10.out⟩
    · rcases H7.out with ⟨h1, h2, h3⟩ | ⟨h1, h2, h3⟩
      · left
        refine ⟨h1, h2, h3, ?_⟩
        rw [← H11.out, h2]; rfl
      · exact .inr ⟨gq, hgp.2.2, Q', h1, h2, by omega, by omega, hgp.2.1, by rw [h3]; exact H3.out, by rw [h3]; exact H5.out, H9.out, H11.out⟩
end Go.Proofs.YtclopblgdiahiaaGreatDoor
namespace Go.Proofs.YtclopblgdiahiaaGreatDoor
open Go.RowKit

/-- The number that a list in memory tells. -/
noncomputable def vOf (w : World) (v : Value) : Nat := match v with
  | .slice (some a) k _ => (vf (fun j => match w.cell? ⟨a.block, a.off + j, none⟩ with | some (.int _ z) => z | _ => 0) k).toNat
  | _ => 0
theorem vOf_none (w : World) (k c : Nat) : vOf w (.slice none k c) = 0 := rfl
theorem One.vOf {base w x k c g A} (h : One base w x k c g A) : vOf w (.slice x k c) = A.toNat := by
  obtain ⟨P, rfl, h2, h3, h4, h5, h6, h7, h8, h9⟩ := h
  rw [← h9]
  show (vf _ k).toNat = _
  congr 1
  refine vf_congr (fun j hj => ?_)
  have := h6.cell (j := j) (by omega)
  simp only [Nat.zero_add]
  rw [this]
theorem Two.vOf {base w x1 k1 c1 x2 k2 c2 A B} (h : Two base w x1 k1 c1 x2 k2 c2 A B) : vOf w (.slice x2 k2 c2) = B.toNat := by
  obtain ⟨g1, h1, h2, h3, h4⟩ := h
  rcases h4 with ⟨rfl, rfl, rfl, rfl⟩ | ⟨g2, _, h5⟩
  · rfl
  · exact h5.vOf

set_option maxRecDepth 100000 in
set_option maxHeartbeats 4000000 in
theorem shorten_c (base : Nat) (x1 x2 : Option Addr) (k1 c1 k2 c2 K : Nat) (A B : Int) (w : World) (h : Two base w x1 k1 c1 x2 k2 c2 A B) (hAK : A < pw K) (hK : K ≤ 8796093022207) (hbase : base ≤ w.heap.size) :
    Calls Tryz.prog 168 #[.slice x1 k1 c1, .slice x2 k2 c2] w fun e w' => ∃ y1 l1 d1 y2 l2 d2 A' B', e = .returned (.tuple #[.slice y1 l1 d1, .slice y2 l2 d2]) ∧ Below base w w' ∧ Two base w' y1 l1 d1 y2 l2 d2 A' B' ∧ Cd A' B' A B ∧ l2 ≤ 1 ∧ A' ≤ A := by
  have HT := hid h; have HAK := hid hAK
  clear h hAK
  go_enter Tryz.func168, Tryz.ntmps168
  go_wp2
  go_loopw [0, 1] (fun u v wr => ∃ (y1 : Option Addr) (l1 d1 : Nat) (y2 : Option Addr) (l2 d2 : Nat) (A' B' : Int), u = .slice y1 l1 d1 ∧ v = .slice y2 l2 d2 ∧ Hid (Below base w wr) ∧ base ≤ wr.heap.size ∧ Hid (Two base wr y1 l1 d1 y2 l2 d2 A' B') ∧ Hid (Cd A' B' A B) ∧ Hid (A' ≤ A)) (fun _ v wr => vOf wr v)
  case atStart => exact ⟨x1, k1, c1, x2, k2, c2, A, B, rfl, rfl, Below.refl _ _, hbase, HT.out, Cd.refl _ _, Int.le_refl _⟩
  case round =>
    clear HT
    obtain ⟨y1, l1, d1, y2, l2, d2, A', B', rfl, rfl, HB, hbs, HT, HC, HA⟩ := hrel
    by_cases hl : 1 < l2
    · have hlb : decide ((1 : Int) < (l2 : Int)) = true := by simp; omega
      have CE := hid (euclid_c base y1 y2 l1 d1 l2 d2 K A' B' wr HT.out (by omega) (by have := HA.out; have := HAK.out; omega) hK hbs)
      go_wp2_with fail
      refine CE.out.mono ?_
      rintro e w2 ⟨z1, m1, f1, z2, m2, f2, A2, B2, rfl, hb2, ht2, hc2, hlt, hle⟩
      have H1 := hid (HB.out.trans hb2); have H2 := hid ht2; have H3 := hid (hc2.trans HC.out); have H4 := hid hlt; have H5 := hid (show A2 ≤ A by have := HA.out; omega)
      have hsz := hb2.size
      clear hb2 ht2 hc2 hlt hle CE
      go_wp2
      go_roundw
      case rel => exact ⟨z1, m1, f1, z2, m2, f2, A2, B2, rfl, rfl, H1.out, by omega, H2.out, H3.out, H5.out⟩
      case measure =>
        have e1 := H2.out.vOf
        have e2 := HT.out.vOf
        have h0 : 0 ≤ B2 := by obtain ⟨_, _, h, _⟩ := H2.out; exact h
        have hlt := H4.out
        show vOf w2 (.slice z2 m2 f2) < vOf wr (.slice y2 l2 d2)
        rw [e1, e2]; omega
    · have hlb : decide ((1 : Int) < (l2 : Int)) = false := by simp; omega
      go_wp2
      go_ret2
      exact ⟨y1, l1, d1, y2, l2, d2, A', B', rfl, HB.out, HT.out, HC.out, by omega, HA.out⟩
end Go.Proofs.YtclopblgdiahiaaGreatDoor
namespace Go.Proofs.YtclopblgdiahiaaGreatDoor
open Go.RowKit

theorem cd_gcd {u v A B : Int} (h : Cd u v A B) (u0 : 0 ≤ u) (v0 : 0 ≤ v) (A0 : 0 ≤ A) (B0 : 0 ≤ B) : Nat.gcd u.toNat v.toNat = Nat.gcd A.toNat B.toNat := by
  have key : ∀ {p q r s : Int}, Cd p q r s → 0 ≤ p → 0 ≤ q → 0 ≤ r → 0 ≤ s → Nat.gcd p.toNat q.toNat ∣ Nat.gcd r.toNat s.toNat := by
    intro p q r s h p0 q0 r0 s0
    have h1 : ((Nat.gcd p.toNat q.toNat : Nat) : Int) ∣ p := by
      have := Int.natCast_dvd_natCast.2 (Nat.gcd_dvd_left p.toNat q.toNat)
      rwa [Int.toNat_of_nonneg p0] at this
    have h2 : ((Nat.gcd p.toNat q.toNat : Nat) : Int) ∣ q := by
      have := Int.natCast_dvd_natCast.2 (Nat.gcd_dvd_right p.toNat q.toNat)
      rwa [Int.toNat_of_nonneg q0] at this
    obtain ⟨h3, h4⟩ := (h _).1 ⟨h1, h2⟩
    refine Nat.dvd_gcd ?_ ?_
    · apply Int.natCast_dvd_natCast.1; rwa [Int.toNat_of_nonneg r0]
    · apply Int.natCast_dvd_natCast.1; rwa [Int.toNat_of_nonneg s0]
  exact Nat.dvd_antisymm (key h u0 v0 A0 B0) (key (fun d => (h d).symm) A0 B0 u0 v0)

set_option maxRecDepth 100000 in
set_option maxHeartbeats 8000000 in
theorem gcd_c (ao bo : Option Addr) (n m ca cb : Nat) (f h : Nat → Int) (w : World) (hn : n ≤ 8796093022207) (hm : m ≤ 8796093022207) (hr : Rd .u64 w ao n f) (hs : Rd .u64 w bo m h) (hf : Lm f n) (hh : Lm h m) (ff : Fm f n) (fh : Fm h m) :
    Calls Tryz.prog 147 #[.slice ao n ca, .slice bo m cb] w fun e w' => ∃ ao' k cap' f', e = .returned (.slice ao' k cap') ∧ Res (max n m + 1) w w' ao' k cap' f' ∧ vf f' k = (Nat.gcd (vf f n).toNat (vf h m).toNat : Nat) := by
  have CC := hid (cmp_c ao bo n m ca cb f h w (by omega) (by omega) hr hs hf hh ff fh)
  have HRa := hid hr; have HRb := hid hs; have HLa := hid hf; have HLb := hid hh; have HFa := hid ff; have HFb := hid fh
  clear hr hs hf hh ff fh
  by_cases hlt : vf f n < vf h m
  · skip
    have HLt := hid hlt
    clear hlt
    rcases (show n = 0 ∨ n = 1 ∨ 2 ≤ n by omega) with hb0 | hb1 | hb2
    · have hBz : vf f n = 0 := by rw [hb0]; rfl
      have HBz := hid hBz
      subst hb0
      clear hBz
      go_enter Tryz.func147, Tryz.ntmps147
      go_wp2_with fail
      refine CC.out.mono ?_
      rintro e w1 ⟨⟨q, rfl⟩, c, rfl, ho⟩
      have hc : c = -1 := by have := HLt.out; unfold Ord at ho; omega
      subst hc
      clear ho
      go_wp2_with fail
      refine (clone_c bo m cb h _ (by omega) (show Rd .u64 (w.drewN q) bo m h from HRb.out) HLb.out).mono ?_
      rintro e w9 ⟨xr, kr, cr, rfl, hres, hkr, hv⟩
      have HRS := hid hres; have HVr := hid hv
      clear hres hv
      go_wp2
      go_ret
      refine ⟨xr, kr, cr, h, rfl, (HRS.out.ahead (below_drewN (Below.refl w.heap.size w) q)).mono (by omega), ?_⟩
      rw [HVr.out, show vf h m = vf h m from rfl]
      rw [show vf f 0 = 0 from rfl]; rw [Nat.gcd_comm]; simp [Int.toNat_of_nonneg (vf_nonneg HLb.out)]
    · subst hb1
      obtain ⟨bb, ob, rfl⟩ := HRa.out.at (by omega)
      obtain ⟨x, hx⟩ : ∃ x, f 0 = x := ⟨_, rfl⟩
      have hcell : w.cell? ⟨bb, ob, none⟩ = some (.int .u64 x) := by rw [← hx]; exact HRa.out.cell (j := 0) (by omega)
      have hx01 := HLa.out 0 (by omega)
      have hx2 : x ≠ 0 := by rw [← hx]; rcases HFa.out with h | h; omega; exact h
      rw [hx] at hx01
      obtain ⟨xn, rfl⟩ := Int.eq_ofNat_of_zero_le hx01.1
      have HVB := hid (show vf f 1 = (xn : Int) by simp [vf, pw, hx])
      clear hx
      go_enter Tryz.func147, Tryz.ntmps147
      go_wp2_with fail
      refine CC.out.mono ?_
      rintro e w1 ⟨⟨q, rfl⟩, c, rfl, ho⟩
      have hc : c = -1 := by have := HLt.out; unfold Ord at ho; omega
      subst hc
      clear ho
      have hA0 := vf_nonneg HLb.out
      obtain ⟨R, hR⟩ : ∃ R : Nat, (vf h m % (xn : Int)) = R := ⟨(vf h m % (xn : Int)).toNat, by have := Int.emod_nonneg (vf h m) (show (xn : Int) ≠ 0 by omega); omega⟩
      have hR1 : (R : Int) < xn := by rw [← hR]; exact Int.emod_lt_of_pos _ (by omega)
      have cm := fun W hr' => modWord_c bo m cb h xn W (by omega) hr' HLb.out (by omega) (by omega)
      rw [hR] at cm
      have cg := fun W => gcdWord_c xn R W (by omega) (by omega)
      have hgl : Nat.gcd xn R < 18446744073709551616 := Nat.lt_of_le_of_lt (Nat.gcd_le_left _ (by omega)) (by omega)
      have hfin : Nat.gcd xn R = Nat.gcd (vf h m).toNat xn := by
        have e : R = (vf h m).toNat % xn := by
          have : ((vf h m).toNat : Int) = vf h m := Int.toNat_of_nonneg hA0
          have h2 : (((vf h m).toNat % xn : Nat) : Int) = vf h m % (xn : Int) := by rw [Int.natCast_emod, this]
          omega
        rw [e, Nat.gcd_comm (vf h m).toNat xn, Nat.gcd_rec xn (vf h m).toNat, Nat.gcd_comm]
      generalize Nat.gcd xn R = G at *
      have CM := hid cm; have CG := hid cg; have HFin := hid hfin; have HRd := hid (show Rd .u64 (w.drewN q) bo m h from HRb.out)
      clear cm cg hfin hR hA0
      go_wp2
      go_region_with (first | (go_at_call 170; refine (CM.out _ (by exact HRd.out)).mono ?_; rintro e w' ⟨rfl, q1, rfl⟩) | (go_at_call 169; refine (CG.out _).mono ?_; rintro e w' ⟨rfl, q2, rfl⟩) | (go_at_call 133; refine (fromWord_c G _ (by omega) (by omega)).mono ?_; rintro e w' ⟨xr, kr, cr, fr, rfl, hres, hv'⟩))
      all_goals
        go_wp2
        go_ret
        refine ⟨xr, kr, cr, fr, rfl, (hres.ahead (by repeat (first | exact (below_drewN (Below.refl w.heap.size w) q) | exact Below.refl _ _ | refine below_drewN ?_ _ | refine Below.drew ?_))).mono (by omega), ?_⟩
        rw [hv', HFin.out, HVB.out]
        rw [Int.toNat_natCast, Nat.gcd_comm]
    · have CA := hid (fun W (hW : Rd .u64 W bo m h) => clone_c bo m cb h W (by omega) hW HLb.out)
      have CB := hid (fun W (hW : Rd .u64 W ao n f) => clone_c ao n ca f W (by omega) hW HLa.out)
      have d1 : decide ((1 : Int) < (n : Int)) = true := by simp; omega
      go_enter Tryz.func147, Tryz.ntmps147
      go_wp2_with fail
      refine CC.out.mono ?_
      rintro e w1 ⟨⟨q, rfl⟩, c, rfl, ho⟩
      have hc : c = -1 := by have := HLt.out; unfold Ord at ho; omega
      subst hc
      clear ho
      go_wp2_with fail
      refine (CA.out _ (by exact HRb.out)).mono ?_
      rintro e w2 ⟨xa', ka, ca', rfl, hresa, hka, hva⟩
      have hRb2 := HRa.out.below (show Below w.heap.size w w2 from ⟨hresa.bel.os, hresa.bel.tape, hresa.bel.output, hresa.bel.size, hresa.bel.block⟩) (Nat.le_refl _)
      have RESA := hid hresa; have HVa := hid hva; have HRb2 := hid hRb2
      clear hresa hva hRb2 CA
      go_wp2_with fail
      refine (CB.out _ HRb2.out).mono ?_
      rintro e w3 ⟨xb', kb, cb', rfl, hresb, hkb, hvb⟩
      have hTwo : Two w.heap.size w3 xa' ka ca' xb' kb cb' (vf h m) (vf f n) := by
        have hz : w.heap.size ≤ w2.heap.size := RESA.out.bel.size
        have hBp : 0 < vf f n := by have := vf_form_ge HLa.out HFa.out (by omega); have := pw_pos (n - 1); omega
        have hle : vf f n ≤ vf h m := by have := HLt.out; omega
        rcases RESA.out.own with ⟨_, h0, _⟩ | ⟨ga, e1, e2, e3, e4, e5, e6⟩
        · have := HVa.out; rw [h0] at this; simp [vf] at this; omega
        · rcases hresb.own with ⟨_, h0, _⟩ | ⟨gb, f1, f2, f3, f4, f5, f6⟩
          · rw [h0] at hvb; simp [vf] at hvb; omega
          · refine ⟨ga, ⟨h, e1, e3, e4, by omega, by simpa using e2, e6.below hresb.bel e6.lt, RESA.out.lmc, RESA.out.fm, HVa.out⟩, by omega, hle, .inr ⟨gb, ?_, f, f1, f3, f4, by omega, by omega, f6, hresb.lmc, hresb.fm, hvb⟩⟩
            have := e6.lt; omega
      have hb3 : Below w.heap.size w w3 := (show Below w.heap.size w w2 from ⟨RESA.out.bel.os, RESA.out.bel.tape, RESA.out.bel.output, RESA.out.bel.size, RESA.out.bel.block⟩).trans (hresb.bel.mono RESA.out.bel.size)
      have CS := hid (shorten_c w.heap.size xa' xb' ka ca' kb cb' m (vf h m) (vf f n) w3 hTwo (vf_lt HLb.out) (by omega) hb3.size)
      have BE3 := hid hb3
      clear hTwo hb3 hresb hvb RESA HVa HRb2 CB d1
      go_wp2_with fail
      refine CS.out.mono ?_
      rintro e w4 ⟨y1, l1, d1, y2, l2, d2, A', B', rfl, hb4, hT, hC, hl2, hA'⟩
      obtain ⟨g1, ⟨P, rfl, o1, o2, o3, o4, hbP, lP, fP, vP⟩, B0, BA, h2⟩ := hT
      have BE4 := hid (BE3.out.trans hb4)
      have HCd := hid hC
      have hl1 : l1 ≤ m := by
        have := vf_lt HLb.out
        exact mid_len (lP.mono o2) fP (by rw [vP]; omega)
      have HP := hid (hbP.rd0 o2); have LP := hid (lP.mono o2); have VP := hid vP
      clear hb4 hC hbP lP fP vP CS
      have hgc : Hid (Nat.gcd A'.toNat B'.toNat = Nat.gcd (vf h m).toNat (vf f n).toNat) := cd_gcd HCd.out (by omega) B0 (vf_nonneg HLb.out) (vf_nonneg HLa.out)
      rcases h2 with ⟨rfl, rfl, rfl, rfl⟩ | ⟨g2, hne, Q, rfl, u1, u2, u3, u4, hbQ, lQ, fQ, vQ⟩
      · have hA0 : 0 ≤ A' := by omega
        clear B0 BA
        go_wp2_with fail
        refine (clone_c (some ⟨g1, 0, none⟩) l1 d1 P _ (by omega) HP.out LP.out).mono ?_
        rintro e w9 ⟨xr, kr, cr, rfl, hres, hkr, hv⟩
        have HRS := hid hres; have HVr := hid hv
        clear hres hv
        go_wp2
        go_ret
        refine ⟨xr, kr, cr, P, rfl, (HRS.out.ahead BE4.out).mono (by omega), ?_⟩
        rw [HVr.out, VP.out]
        rw [Nat.gcd_comm]; rw [← hgc.out]; simp [Int.toNat_of_nonneg hA0]
      · obtain rfl : l2 = 1 := by omega
        obtain ⟨x, hx⟩ : ∃ x, Q 0 = x := ⟨_, rfl⟩
        have hcell : w4.cell? ⟨g2, 0, none⟩ = some (.int .u64 x) := by rw [← hx]; exact hbQ.cell (j := 0) (by omega)
        have hx01 := lQ 0 (by omega)
        have hx2 : x ≠ 0 := by rw [← hx]; rcases fQ with h | h; omega; exact h
        rw [hx] at hx01
        obtain ⟨xn, rfl⟩ := Int.eq_ofNat_of_zero_le hx01.1
        have hvB : B' = (xn : Int) := by rw [← vQ]; simp [vf, pw, hx]
        subst hvB
        clear hx hbQ lQ fQ vQ B0 BA
        have hA0 := vf_nonneg LP.out
        obtain ⟨R, hR⟩ : ∃ R : Nat, (vf P l1 % (xn : Int)) = R := ⟨(vf P l1 % (xn : Int)).toNat, by have := Int.emod_nonneg (vf P l1) (show (xn : Int) ≠ 0 by omega); omega⟩
        have hR1 : (R : Int) < xn := by rw [← hR]; exact Int.emod_lt_of_pos _ (by omega)
        have cm := fun W hr' => modWord_c (some ⟨g1, 0, none⟩) l1 d1 P xn W (by omega) hr' LP.out (by omega) (by omega)
        rw [hR] at cm
        have cg := fun W => gcdWord_c xn R W (by omega) (by omega)
        have hgl : Nat.gcd xn R < 18446744073709551616 := Nat.lt_of_le_of_lt (Nat.gcd_le_left _ (by omega)) (by omega)
        have hfin : Nat.gcd xn R = Nat.gcd (vf P l1).toNat xn := by
          have e : R = (vf P l1).toNat % xn := by
            have : ((vf P l1).toNat : Int) = vf P l1 := Int.toNat_of_nonneg hA0
            have h2 : (((vf P l1).toNat % xn : Nat) : Int) = vf P l1 % (xn : Int) := by rw [Int.natCast_emod, this]
            omega
          rw [e, Nat.gcd_comm (vf P l1).toNat xn, Nat.gcd_rec xn (vf P l1).toNat, Nat.gcd_comm]
        generalize Nat.gcd xn R = G at *
        have CM := hid cm; have CG := hid cg; have HFin := hid hfin; have HRd := hid HP.out
        clear cm cg hfin hR hA0
        go_wp2
        go_region_with (first | (go_at_call 170; refine (CM.out _ (by exact HRd.out)).mono ?_; rintro e w' ⟨rfl, q1, rfl⟩) | (go_at_call 169; refine (CG.out _).mono ?_; rintro e w' ⟨rfl, q2, rfl⟩) | (go_at_call 133; refine (fromWord_c G _ (by omega) (by omega)).mono ?_; rintro e w' ⟨xr, kr, cr, fr, rfl, hres, hv'⟩))
        all_goals
          go_wp2
          go_ret
          refine ⟨xr, kr, cr, fr, rfl, (hres.ahead (by repeat (first | exact BE4.out | exact Below.refl _ _ | refine below_drewN ?_ _ | refine Below.drew ?_))).mono (by omega), ?_⟩
          rw [hv', HFin.out, VP.out]
          rw [Nat.gcd_comm (vf f n).toNat, ← hgc.out, Int.toNat_natCast]
  · skip
    have HLt := hid hlt
    clear hlt
    rcases (show m = 0 ∨ m = 1 ∨ 2 ≤ m by omega) with hb0 | hb1 | hb2
    · have hBz : vf h m = 0 := by rw [hb0]; rfl
      have HBz := hid hBz
      subst hb0
      clear hBz
      go_enter Tryz.func147, Tryz.ntmps147
      go_wp2_with fail
      refine CC.out.mono ?_
      rintro e w1 ⟨⟨q, rfl⟩, c, rfl, ho⟩
      have hc : 0 ≤ c := by have := HLt.out; unfold Ord at ho; omega
      clear ho
      go_wp2_with fail
      refine (clone_c ao n ca f _ (by omega) (show Rd .u64 (w.drewN q) ao n f from HRa.out) HLa.out).mono ?_
      rintro e w9 ⟨xr, kr, cr, rfl, hres, hkr, hv⟩
      have HRS := hid hres; have HVr := hid hv
      clear hres hv
      go_wp2
      go_ret
      refine ⟨xr, kr, cr, f, rfl, (HRS.out.ahead (below_drewN (Below.refl w.heap.size w) q)).mono (by omega), ?_⟩
      rw [HVr.out, show vf f n = vf f n from rfl]
      rw [show vf h 0 = 0 from rfl]; simp [Int.toNat_of_nonneg (vf_nonneg HLa.out)]
    · subst hb1
      obtain ⟨bb, ob, rfl⟩ := HRb.out.at (by omega)
      obtain ⟨x, hx⟩ : ∃ x, h 0 = x := ⟨_, rfl⟩
      have hcell : w.cell? ⟨bb, ob, none⟩ = some (.int .u64 x) := by rw [← hx]; exact HRb.out.cell (j := 0) (by omega)
      have hx01 := HLb.out 0 (by omega)
      have hx2 : x ≠ 0 := by rw [← hx]; rcases HFb.out with h | h; omega; exact h
      rw [hx] at hx01
      obtain ⟨xn, rfl⟩ := Int.eq_ofNat_of_zero_le hx01.1
      have HVB := hid (show vf h 1 = (xn : Int) by simp [vf, pw, hx])
      clear hx
      go_enter Tryz.func147, Tryz.ntmps147
      go_wp2_with fail
      refine CC.out.mono ?_
      rintro e w1 ⟨⟨q, rfl⟩, c, rfl, ho⟩
      have hc : 0 ≤ c := by have := HLt.out; unfold Ord at ho; omega
      clear ho
      have hA0 := vf_nonneg HLa.out
      obtain ⟨R, hR⟩ : ∃ R : Nat, (vf f n % (xn : Int)) = R := ⟨(vf f n % (xn : Int)).toNat, by have := Int.emod_nonneg (vf f n) (show (xn : Int) ≠ 0 by omega); omega⟩
      have hR1 : (R : Int) < xn := by rw [← hR]; exact Int.emod_lt_of_pos _ (by omega)
      have cm := fun W hr' => modWord_c ao n ca f xn W (by omega) hr' HLa.out (by omega) (by omega)
      rw [hR] at cm
      have cg := fun W => gcdWord_c xn R W (by omega) (by omega)
      have hgl : Nat.gcd xn R < 18446744073709551616 := Nat.lt_of_le_of_lt (Nat.gcd_le_left _ (by omega)) (by omega)
      have hfin : Nat.gcd xn R = Nat.gcd (vf f n).toNat xn := by
        have e : R = (vf f n).toNat % xn := by
          have : ((vf f n).toNat : Int) = vf f n := Int.toNat_of_nonneg hA0
          have h2 : (((vf f n).toNat % xn : Nat) : Int) = vf f n % (xn : Int) := by rw [Int.natCast_emod, this]
          omega
        rw [e, Nat.gcd_comm (vf f n).toNat xn, Nat.gcd_rec xn (vf f n).toNat, Nat.gcd_comm]
      generalize Nat.gcd xn R = G at *
      have CM := hid cm; have CG := hid cg; have HFin := hid hfin; have HRd := hid (show Rd .u64 (w.drewN q) ao n f from HRa.out)
      clear cm cg hfin hR hA0
      go_wp2
      go_region_with (first | (go_at_call 170; refine (CM.out _ (by exact HRd.out)).mono ?_; rintro e w' ⟨rfl, q1, rfl⟩) | (go_at_call 169; refine (CG.out _).mono ?_; rintro e w' ⟨rfl, q2, rfl⟩) | (go_at_call 133; refine (fromWord_c G _ (by omega) (by omega)).mono ?_; rintro e w' ⟨xr, kr, cr, fr, rfl, hres, hv'⟩))
      all_goals
        go_wp2
        go_ret
        refine ⟨xr, kr, cr, fr, rfl, (hres.ahead (by repeat (first | exact (below_drewN (Below.refl w.heap.size w) q) | exact Below.refl _ _ | refine below_drewN ?_ _ | refine Below.drew ?_))).mono (by omega), ?_⟩
        rw [hv', HFin.out, HVB.out]
        rw [Int.toNat_natCast]
    · have CA := hid (fun W (hW : Rd .u64 W ao n f) => clone_c ao n ca f W (by omega) hW HLa.out)
      have CB := hid (fun W (hW : Rd .u64 W bo m h) => clone_c bo m cb h W (by omega) hW HLb.out)
      have d1 : decide ((1 : Int) < (m : Int)) = true := by simp; omega
      go_enter Tryz.func147, Tryz.ntmps147
      go_wp2_with fail
      refine CC.out.mono ?_
      rintro e w1 ⟨⟨q, rfl⟩, c, rfl, ho⟩
      have hc : 0 ≤ c := by have := HLt.out; unfold Ord at ho; omega
      clear ho
      go_wp2_with fail
      refine (CA.out _ (by exact HRa.out)).mono ?_
      rintro e w2 ⟨xa', ka, ca', rfl, hresa, hka, hva⟩
      have hRb2 := HRb.out.below (show Below w.heap.size w w2 from ⟨hresa.bel.os, hresa.bel.tape, hresa.bel.output, hresa.bel.size, hresa.bel.block⟩) (Nat.le_refl _)
      have RESA := hid hresa; have HVa := hid hva; have HRb2 := hid hRb2
      clear hresa hva hRb2 CA
      go_wp2_with fail
      refine (CB.out _ HRb2.out).mono ?_
      rintro e w3 ⟨xb', kb, cb', rfl, hresb, hkb, hvb⟩
      have hTwo : Two w.heap.size w3 xa' ka ca' xb' kb cb' (vf f n) (vf h m) := by
        have hz : w.heap.size ≤ w2.heap.size := RESA.out.bel.size
        have hBp : 0 < vf h m := by have := vf_form_ge HLb.out HFb.out (by omega); have := pw_pos (m - 1); omega
        have hle : vf h m ≤ vf f n := by have := HLt.out; omega
        rcases RESA.out.own with ⟨_, h0, _⟩ | ⟨ga, e1, e2, e3, e4, e5, e6⟩
        · have := HVa.out; rw [h0] at this; simp [vf] at this; omega
        · rcases hresb.own with ⟨_, h0, _⟩ | ⟨gb, f1, f2, f3, f4, f5, f6⟩
          · rw [h0] at hvb; simp [vf] at hvb; omega
          · refine ⟨ga, ⟨f, e1, e3, e4, by omega, by simpa using e2, e6.below hresb.bel e6.lt, RESA.out.lmc, RESA.out.fm, HVa.out⟩, by omega, hle, .inr ⟨gb, ?_, h, f1, f3, f4, by omega, by omega, f6, hresb.lmc, hresb.fm, hvb⟩⟩
            have := e6.lt; omega
      have hb3 : Below w.heap.size w w3 := (show Below w.heap.size w w2 from ⟨RESA.out.bel.os, RESA.out.bel.tape, RESA.out.bel.output, RESA.out.bel.size, RESA.out.bel.block⟩).trans (hresb.bel.mono RESA.out.bel.size)
      have CS := hid (shorten_c w.heap.size xa' xb' ka ca' kb cb' n (vf f n) (vf h m) w3 hTwo (vf_lt HLa.out) (by omega) hb3.size)
      have BE3 := hid hb3
      clear hTwo hb3 hresb hvb RESA HVa HRb2 CB d1
      go_wp2_with fail
      refine CS.out.mono ?_
      rintro e w4 ⟨y1, l1, d1, y2, l2, d2, A', B', rfl, hb4, hT, hC, hl2, hA'⟩
      obtain ⟨g1, ⟨P, rfl, o1, o2, o3, o4, hbP, lP, fP, vP⟩, B0, BA, h2⟩ := hT
      have BE4 := hid (BE3.out.trans hb4)
      have HCd := hid hC
      have hl1 : l1 ≤ n := by
        have := vf_lt HLa.out
        exact mid_len (lP.mono o2) fP (by rw [vP]; omega)
      have HP := hid (hbP.rd0 o2); have LP := hid (lP.mono o2); have VP := hid vP
      clear hb4 hC hbP lP fP vP CS
      have hgc : Hid (Nat.gcd A'.toNat B'.toNat = Nat.gcd (vf f n).toNat (vf h m).toNat) := cd_gcd HCd.out (by omega) B0 (vf_nonneg HLa.out) (vf_nonneg HLb.out)
      rcases h2 with ⟨rfl, rfl, rfl, rfl⟩ | ⟨g2, hne, Q, rfl, u1, u2, u3, u4, hbQ, lQ, fQ, vQ⟩
      · have hA0 : 0 ≤ A' := by omega
        clear B0 BA
        go_wp2_with fail
        refine (clone_c (some ⟨g1, 0, none⟩) l1 d1 P _ (by omega) HP.out LP.out).mono ?_
        rintro e w9 ⟨xr, kr, cr, rfl, hres, hkr, hv⟩
        have HRS := hid hres; have HVr := hid hv
        clear hres hv
        go_wp2
        go_ret
        refine ⟨xr, kr, cr, P, rfl, (HRS.out.ahead BE4.out).mono (by omega), ?_⟩
        rw [HVr.out, VP.out]
        rw [← hgc.out]; simp [Int.toNat_of_nonneg hA0]
      · obtain rfl : l2 = 1 := by omega
        obtain ⟨x, hx⟩ : ∃ x, Q 0 = x := ⟨_, rfl⟩
        have hcell : w4.cell? ⟨g2, 0, none⟩ = some (.int .u64 x) := by rw [← hx]; exact hbQ.cell (j := 0) (by omega)
        have hx01 := lQ 0 (by omega)
        have hx2 : x ≠ 0 := by rw [← hx]; rcases fQ with h | h; omega; exact h
        rw [hx] at hx01
        obtain ⟨xn, rfl⟩ := Int.eq_ofNat_of_zero_le hx01.1
        have hvB : B' = (xn : Int) := by rw [← vQ]; simp [vf, pw, hx]
        subst hvB
        clear hx hbQ lQ fQ vQ B0 BA
        have hA0 := vf_nonneg LP.out
        obtain ⟨R, hR⟩ : ∃ R : Nat, (vf P l1 % (xn : Int)) = R := ⟨(vf P l1 % (xn : Int)).toNat, by have := Int.emod_nonneg (vf P l1) (show (xn : Int) ≠ 0 by omega); omega⟩
        have hR1 : (R : Int) < xn := by rw [← hR]; exact Int.emod_lt_of_pos _ (by omega)
        have cm := fun W hr' => modWord_c (some ⟨g1, 0, none⟩) l1 d1 P xn W (by omega) hr' LP.out (by omega) (by omega)
        rw [hR] at cm
        have cg := fun W => gcdWord_c xn R W (by omega) (by omega)
        have hgl : Nat.gcd xn R < 18446744073709551616 := Nat.lt_of_le_of_lt (Nat.gcd_le_left _ (by omega)) (by omega)
        have hfin : Nat.gcd xn R = Nat.gcd (vf P l1).toNat xn := by
          have e : R = (vf P l1).toNat % xn := by
            have : ((vf P l1).toNat : Int) = vf P l1 := Int.toNat_of_nonneg hA0
            have h2 : (((vf P l1).toNat % xn : Nat) : Int) = vf P l1 % (xn : Int) := by rw [Int.natCast_emod, this]
            omega
          rw [e, Nat.gcd_comm (vf P l1).toNat xn, Nat.gcd_rec xn (vf P l1).toNat, Nat.gcd_comm]
        generalize Nat.gcd xn R = G at *
        have CM := hid cm; have CG := hid cg; have HFin := hid hfin; have HRd := hid HP.out
        clear cm cg hfin hR hA0
        go_wp2
        go_region_with (first | (go_at_call 170; refine (CM.out _ (by exact HRd.out)).mono ?_; rintro e w' ⟨rfl, q1, rfl⟩) | (go_at_call 169; refine (CG.out _).mono ?_; rintro e w' ⟨rfl, q2, rfl⟩) | (go_at_call 133; refine (fromWord_c G _ (by omega) (by omega)).mono ?_; rintro e w' ⟨xr, kr, cr, fr, rfl, hres, hv'⟩))
        all_goals
          go_wp2
          go_ret
          refine ⟨xr, kr, cr, fr, rfl, (hres.ahead (by repeat (first | exact BE4.out | exact Below.refl _ _ | refine below_drewN ?_ _ | refine Below.drew ?_))).mono (by omega), ?_⟩
          rw [hv', HFin.out, VP.out]
          rw [← hgc.out, Int.toNat_natCast]
end Go.Proofs.YtclopblgdiahiaaGreatDoor
namespace Go.Proofs.YtclopblgdiahiaaGreatDoor
open Go.RowKit

set_option maxHeartbeats 800000 in
theorem Gcd_c (ao bo : Option Addr) (n m ca cb : Nat) (f h : Nat → Int) (w : World) (hn : n ≤ 8796093022207) (hm : m ≤ 8796093022207) (hr : Rd .u64 w ao n f) (hs : Rd .u64 w bo m h) (hf : Lm f n) (hh : Lm h m) :
    Calls Tryz.prog 124 #[.slice ao n ca, .slice bo m cb] w fun e w' => ∃ ao' k cap' f' er, e = .returned (.tuple #[.slice ao' k cap', .int .i64 er]) ∧ Res (max n m + 1) w w' ao' k cap' f' ∧
      (Fm f n ∧ Fm h m ∧ er = 0 ∧ vf f' k = (Nat.gcd (vf f n).toNat (vf h m).toNat : Nat) ∨ ¬ (Fm f n ∧ Fm h m) ∧ er = 3 ∧ k = 0) := by
  have HF := (show Hid (Lm f n) from hf)
  have HH := (show Hid (Lm h m) from hh)
  clear hf hh
  cases hfa : fmB f n
  · have c1 := fun w' hr' => form_c ao n ca f w' (by omega) hr'
    rw [hfa] at c1
    have HN := hid (nfm_of hfa)
    have C1 := hid c1
    clear c1 hfa
    go_enter Tryz.func124, Tryz.ntmps124
    go_wp2_with (go_at_call 84; refine (C1.out _ hr).mono ?_; rintro e w' ⟨rfl, rfl⟩)
    go_ret2
    exact ⟨_, _, _, f, _, rfl, Res.nil f (Below.refl _ _), .inr ⟨fun x => HN.out x.1, rfl, rfl⟩⟩
  · have c1 := fun w' hr' => form_c ao n ca f w' (by omega) hr'
    rw [hfa] at c1
    have FA := hid (fm_of hfa)
    have C1 := hid c1
    clear c1 hfa
    cases hfb : fmB h m
    · have c2 := fun w' hr' => form_c bo m cb h w' (by omega) hr'
      rw [hfb] at c2
      have HN := hid (nfm_of hfb)
      have C2 := hid c2
      clear c2 hfb
      go_enter Tryz.func124, Tryz.ntmps124
      go_wp2_with fail
      refine (C1.out _ hr).mono ?_
      rintro e w' ⟨rfl, rfl⟩
      go_wp2_with fail
      refine (C2.out _ hs).mono ?_
      rintro e w' ⟨rfl, rfl⟩
      go_wp2
      go_ret2
      exact ⟨_, _, _, f, _, rfl, Res.nil f (Below.refl _ _), .inr ⟨fun x => HN.out x.2, rfl, rfl⟩⟩
    · have c2 := fun w' hr' => form_c bo m cb h w' (by omega) hr'
      rw [hfb] at c2
      have FB := hid (fm_of hfb)
      have C2 := hid c2
      clear c2 hfb
      go_enter Tryz.func124, Tryz.ntmps124
      go_wp2_with fail
      refine (C1.out _ hr).mono ?_
      rintro e w' ⟨rfl, rfl⟩
      go_wp2_with fail
      refine (C2.out _ hs).mono ?_
      rintro e w' ⟨rfl, rfl⟩
      go_wp2_with fail
      refine (gcd_c ao bo n m ca cb f h _ hn hm hr hs HF.out HH.out FA.out FB.out).mono ?_
      rintro e w' ⟨ao', k, cap', f', rfl, hres, hv⟩
      have HV := hid hv
      clear hv
      go_wp2
      go_ret2
      exact ⟨_, _, _, f', _, rfl, hres, .inl ⟨FA.out, FB.out, rfl, HV.out⟩⟩
end Go.Proofs.YtclopblgdiahiaaGreatDoor
namespace Go.Proofs.YtclopblgdiahiaaGreatDoor
open Go.RowKit

set_option maxHeartbeats 400000 in
theorem rform_c (ao : Option Addr) (n cap : Nat) (f : Nat → Int) (w : World) (hm : n ≤ 9223372036854775807) (hr : Rd .u64 w ao n f) :
    Calls Tryz.prog 65 #[.slice ao n cap] w fun e w' => e = .returned (.bool (fmB f n)) ∧ w' = w := by
  by_cases h0 : n = 0
  · subst h0
    have e : fmB f 0 = true := by simp [fmB]
    go_enter Tryz.func65, Tryz.ntmps65
    go_wp2
    go_ret
    exact ⟨by rw [e]; rfl, rfl⟩
  · obtain ⟨b, o, rfl⟩ := hr.at (by omega)
    obtain ⟨x, hx⟩ : ∃ x, f (n - 1) = x := ⟨_, rfl⟩
    have hc : w.cell? ⟨b, o + (n - 1), none⟩ = some (.int .u64 x) := by rw [← hx]; exact hr.cell (by omega)
    have h1 : ((n : Int) == 0) = false := by simp; omega
    have e : fmB f n = (x != 0) := by simp [fmB, h0, hx, bne]; rfl
    have E := hid e
    clear hr hx e
    go_enter Tryz.func65, Tryz.ntmps65
    go_wp2
    go_ret
    exact ⟨by rw [E.out]; rfl, rfl⟩

set_option maxHeartbeats 400000 in
/-- Low: the digits without noughts at the end. -/
theorem low_c (ao : Option Addr) (n cap : Nat) (f : Nat → Int) (w : World) (hc : n ≤ cap) (hm : cap ≤ 9223372036854775807) (hr : Rd .u64 w ao n f) (hnil : ao = none → cap = 0) :
    Calls Tryz.prog 109 #[.slice ao n cap] w fun e w' => w' = w ∧ ∃ m, m ≤ n ∧ (∀ j, m ≤ j → j < n → f j = 0) ∧ Fm f m ∧ e = .returned (.slice ao m cap) := by
  go_enter Tryz.func109, Tryz.ntmps109
  go_wp2
  go_loop [3] (fun t => ∃ m : Nat, m ≤ n ∧ t = .int .i64 m ∧ Hid (∀ j, m ≤ j → j < n → f j = 0)) (fun t => (intOf t).toNat)
  case atStart => exact ⟨n, Nat.le_refl _, rfl, fun j h1 h2 => by omega⟩
  case round =>
    obtain ⟨m, hmn, rfl, HZ⟩ := hrel
    by_cases h0 : 0 < m
    · obtain ⟨b, o, rfl⟩ := hr.at (by omega)
      obtain ⟨x, hx⟩ : ∃ x, f (m - 1) = x := ⟨_, rfl⟩
      have hcell : w.cell? ⟨b, o + (m - 1), none⟩ = some (.int .u64 x) := by rw [← hx]; exact hr.cell (by omega)
      have HX : Hid (f (m - 1) = x) := hx
      clear hx hr
      by_cases hx0 : x = 0
      · subst hx0
        go_wp2
        go_round
        case rel =>
          refine ⟨m - 1, by omega, by go_num, fun j h1 h2 => ?_⟩
          by_cases hj : j = m - 1
          · rw [hj]; exact HX.out
          · exact HZ.out j (by omega) h2
        case measure => simp [intOf]; omega
      · have hx1 : (x == 0) = false := by simp [hx0]
        go_wp2
        go_ret
        exact ⟨rfl, m, hmn, HZ.out, .inr (by rw [HX.out]; exact hx0), rfl⟩
    · have h00 : m = 0 := by omega
      subst h00
      cases ao with
      | none =>
        obtain rfl : cap = 0 := hnil rfl
        go_wp2
        go_ret
        exact ⟨rfl, 0, hmn, HZ.out, .inl rfl, rfl⟩
      | some ad =>
        clear hnil
        go_wp2
        go_ret
        exact ⟨rfl, 0, hmn, HZ.out, .inl rfl, rfl⟩

/-- Two lists are alike. -/
def Alk (n m : Nat) (f g : Nat → Int) : Prop := n = m ∧ ∀ j, j < n → f j = g j

set_option maxHeartbeats 800000 in
/-- Same: are two lists alike? -/
theorem same_c (ao bo : Option Addr) (n m ca cb : Nat) (f g : Nat → Int) (w : World) (hm : n ≤ 140737488355328) (hm' : m ≤ 140737488355328) (hr : Rd .u64 w ao n f) (hs : Rd .u64 w bo m g) :
    Calls Tryz.prog 43 #[.slice ao n ca, .slice bo m cb] w fun e w' => (∃ q, w' = w.drewN q) ∧ ∃ b, e = .returned (.bool b) ∧ (b = true ↔ Alk n m f g) := by
  by_cases hnm : n = m
  · subst hnm
    have h1 : ((n : Int) != n) = false := by simp
    go_enter Tryz.func43, Tryz.ntmps43
    go_wp2
    go_loopw [13] (fun t wr => ∃ i : Nat, i ≤ n ∧ t = .int .i64 i ∧ Hid (∀ j, j < i → f j = g j) ∧ ∃ q, wr = w.drewN q) (fun t _ => n - (intOf t).toNat)
    case atStart => exact ⟨0, by omega, rfl, fun j h1 => by omega, 0, rfl⟩
    case round =>
      obtain ⟨i, hin, rfl, HE, q, rfl⟩ := hrel
      by_cases hlt : i < n
      · obtain ⟨b, o, rfl⟩ := hr.at (by omega)
        obtain ⟨b', o', rfl⟩ := hs.at (by omega)
        obtain ⟨x, hx⟩ : ∃ x, f i = x := ⟨_, rfl⟩
        obtain ⟨y, hy⟩ : ∃ y, g i = y := ⟨_, rfl⟩
        have hca : w.cell? ⟨b, o + i, none⟩ = some (.int .u64 x) := by rw [← hx]; exact hr.cell (by omega)
        have hcb : w.cell? ⟨b', o' + i, none⟩ = some (.int .u64 y) := by rw [← hy]; exact hs.cell (by omega)
        have HX : Hid (f i = x) := hx
        have HY : Hid (g i = y) := hy
        clear hx hy hr hs
        by_cases hxy : x = y
        · subst hxy
          have hne : (x != x) = false := by simp
          go_wp2
          go_quiet (fail)
          go_wp2
          go_roundw
          case rel =>
            refine ⟨i + 1, by omega, by go_num, fun j h1 => ?_, _, rfl⟩
            by_cases hj : j = i
            · rw [hj]; exact HX.out.trans HY.out.symm
            · exact HE.out j (by omega)
          case measure => simp [intOf]; omega
        · have hne : (x != y) = true := by simp [hxy]
          go_wp2
          go_quiet (fail)
          go_wp2
          go_ret
          refine ⟨⟨_, by (repeat rw [World.drewN_drewN]) <;> rfl⟩, false, rfl, ⟨fun h => (by cases h), fun h => ?_⟩⟩
          have := h.2 i hlt
          rw [HX.out, HY.out] at this
          exact absurd this hxy
      · have hi : i = n := by omega
        subst hi
        go_wp2
        go_ret
        exact ⟨⟨_, rfl⟩, true, rfl, ⟨fun _ => ⟨rfl, HE.out⟩, fun _ => rfl⟩⟩
  · have h1 : ((n : Int) != m) = true := by simp; omega
    go_enter Tryz.func43, Tryz.ntmps43
    go_wp2
    go_ret
    exact ⟨⟨0, rfl⟩, false, rfl, ⟨fun h => (by cases h), fun h => absurd h.1 hnm⟩⟩
end Go.Proofs.YtclopblgdiahiaaGreatDoor
namespace Go.Proofs.YtclopblgdiahiaaGreatDoor
open Go.RowKit

set_option maxRecDepth 100000 in
set_option maxHeartbeats 400000 in
/-- Twin: a list of its own. -/
theorem twin_c (ao : Option Addr) (n cap : Nat) (f : Nat → Int) (w : World) (hn : n ≤ 1048576) (hr : Rd .u64 w ao n f) (hnil : ao = none → n = 0 ∧ cap = 0) :
    Calls Tryz.prog 38 #[.slice ao n cap] w fun e w' => ∃ ao' cap', e = .returned (.slice ao' n cap') ∧ Below w.heap.size w w' ∧ Rd .u64 w' ao' n f ∧ Own .u64 28 w' w.heap.size (.slice ao' n cap') n f := by
  cases ao with
  | none =>
    obtain ⟨rfl, rfl⟩ := hnil rfl
    go_enter Tryz.func38, Tryz.ntmps38
    obtain ⟨i0, hi, hz0, hz1, hz2⟩ := info_parts Tryz.infoU64
    go_wp2_with (at_builtin; refine wpList_append_own_none rfl (.tmp 4) (.tmp 5) 22 rfl w.heap.size 28 i0 1 Tryz.underlying22 hi (.slice none 0 0) 0 [] rfl (World.ownsRow_nil _ _ _ _) rfl ?_)
    go_ret
    exact ⟨none, 0, rfl, Below.refl _ _, Rd.zero, own_nil _ _ _ _ _⟩
  | some ad =>
    clear hnil
    have HR := hid hr
    clear hr
    go_enter Tryz.func38, Tryz.ntmps38
    obtain ⟨i0, hi, hz0, hz1, hz2⟩ := info_parts Tryz.infoU64
    go_wp2_with (at_builtin; refine wpList_append_own w rfl (.tmp 4) (.tmp 5) 22 rfl w.heap.size 28 i0 (.int .u64 0) 1 8 Tryz.underlying22 hi hz0 hz1 hz2 rfl (by decide) (.slice none 0 0) 0 [] rfl (World.ownsRow_nil _ _ _ _) ad n cap (lst .u64 f n) rfl (by rw [lst_length, Nat.mul_one]) ?c1 (lst_one _ _ _) ?c2 ?c3 (Nat.le_refl _) ?_)
    case c1 =>
      intro j u hu
      obtain ⟨hj, rfl⟩ := lst_getE hu
      obtain ⟨b, o, e, hc⟩ := HR.out j hj
      cases e
      rw [addr_add]; exact hc
    case c2 => unfold maxLen; omega
    case c3 => omega
    intro v' w' hown hgr _
    have hown' : Own .u64 28 w' w.heap.size v' n f := hown
    have hbel : Below w.heap.size w w' := (Below.refl _ _).grown hgr (Nat.le_refl _) (fun k h => by simp [Value.ownBlock] at h)
    have hs := hown'.shape
    obtain ⟨ao', cap', hv, hcc, hnn, hml, hrd, hlt⟩ := hs
    rw [hv] at hown' ⊢
    clear hown hgr hv
    have HO := hid hown'
    clear hown'
    go_wp2
    go_ret
    exact ⟨ao', cap', rfl, hbel, hrd, HO.out⟩

/-- The two digits of a limb. -/
def two32 (x : Int) : Nat → Int := fun j => if j = 0 then x % 4294967296 else x / 4294967296
/-- The digits of limbs. -/
def dig (f : Nat → Int) : Nat → Int := fun j => if j % 2 = 0 then f (j / 2) % 4294967296 else f (j / 2) / 4294967296
theorem dig_cat (f : Nat → Int) (k : Nat) : ∀ j, j < 2 * k + 2 → cat (dig f) (2 * k) (two32 (f k)) j = dig f j := by
  intro j hj
  by_cases h : j < 2 * k
  · exact cat_in h
  · rw [cat_out (by omega)]
    by_cases h2 : j = 2 * k
    · subst h2
      have e1 : 2 * k - 2 * k = 0 := by omega
      have e2 : 2 * k / 2 = k := by omega
      have e3 : 2 * k % 2 = 0 := by omega
      simp [two32, dig]
    · obtain rfl : j = 2 * k + 1 := by omega
      have e1 : 2 * k + 1 - 2 * k = 1 := by omega
      have e2 : (2 * k + 1) / 2 = k := by omega
      have e3 : (2 * k + 1) % 2 = 1 := by omega
      simp [two32, dig, e1, e2, e3]
theorem pd_two (k : Nat) : pd (2 * k) = pw k := by
  induction k with
  | zero => rfl
  | succ k ih =>
    have e : 2 * (k + 1) = 2 * k + 1 + 1 := by omega
    rw [e, pd_succ, pd_succ, pw_succ, ih]; omega
theorem dig_lm {f : Nat → Int} {n : Nat} (h : Lm f n) : Dg (dig f) (2 * n) := by
  intro j hj
  have := h (j / 2) (by omega)
  unfold dig
  split <;> omega
theorem dig_val (f : Nat → Int) (n : Nat) : vd (dig f) (2 * n) = vf f n := by
  induction n with
  | zero => rfl
  | succ k ih =>
    have e : 2 * (k + 1) = 2 * k + 1 + 1 := by omega
    have e2 : (2 * k + 1) / 2 = k := by omega
    have e3 : (2 * k + 1) % 2 = 1 := by omega
    have e4 : 2 * k / 2 = k := by omega
    have e5 : 2 * k % 2 = 0 := by omega
    have a1 : dig f (2 * k) = f k % 4294967296 := by simp [dig]
    have a2 : dig f (2 * k + 1) = f k / 4294967296 := by simp [dig, e2, e3]
    rw [e, vd_succ, vd_succ, ih, vf_succ, pd_succ, pd_two, a1, a2]
    have e6 : f k = 4294967296 * (f k / 4294967296) + f k % 4294967296 := by omega
    have e7 : f k * pw k = (4294967296 * (f k / 4294967296) + f k % 4294967296) * pw k := by rw [← e6]
    rw [e7]
    grind

theorem rd_new2 (w : World) (e : TypeId) (x : Int) : Rd .u64 (w.alloc (.cells #[.int .u64 (x % 4294967296), .int .u64 (x / 4294967296)] e)) (some ⟨w.heap.size, 0, none⟩) 2 (two32 x) :=
  Rd.mk (fun j hj => by
    rw [Nat.zero_add, World.cell?_alloc_new]
    rcases (show j = 0 ∨ j = 1 by omega) with rfl | rfl <;> simp [two32])

set_option maxRecDepth 100000 in
set_option maxHeartbeats 1000000 in
/-- From: the digits of limbs. -/
theorem fromNew_c (ao : Option Addr) (n cap : Nat) (f : Nat → Int) (w : World) (hn : n ≤ 1048576) (hr : Rd .u64 w ao n f) (hf : Lm f n) :
    Calls Tryz.prog 67 #[.slice ao n cap] w fun e w' => ∃ ao' m cap', e = .returned (.slice ao' m cap') ∧ (∀ a, ao' = some a → w.heap.size ≤ a.block) ∧ m ≤ cap' ∧ cap' ≤ 9223372036854775807 ∧ Below w.heap.size w w' ∧ Rd .u64 w' ao' m (dig f) ∧ m ≤ 2 * n ∧ (ao' = none → m = 0) ∧ Dg (dig f) m ∧ Fm (dig f) m ∧ vd (dig f) m = vf f n := by
  have HR := hid hr
  have HF := hid hf
  clear hr hf
  obtain ⟨i0, hi, hz0, hz1, hz2⟩ := info_parts Tryz.infoU64
  go_enter Tryz.func67, Tryz.ntmps67
  go_wp2_with (at_make; refine wpList_make_own w rfl (.const (.int .i64 0)) (.tmp 8) 22 rfl w.heap.size 28 i0 (.int .u64 0) 1 Tryz.underlying22 hi hz0 hz1 .i64 .i64 (2 * (n : Int)) (2 * n) rfl rfl (by omega) (by rw [hz2]; omega) (by unfold maxLen; omega) (Nat.le_refl _) ?_; intro w1 hown1 hgr1)
  have hb1 : Below w.heap.size w w1 := (Below.refl _ _).grown hgr1 (Nat.le_refl _) (fun k h => by cases h)
  have ho1 : Own .u64 28 w1 w.heap.size (.slice (some ⟨w.heap.size, 0, none⟩) 0 (2 * n)) 0 (dig f) := hown1
  clear hown1 hgr1
  have HO1 := hid ho1
  clear ho1
  go_loopw [3, 12] (fun v t wr => ∃ k : Nat, k ≤ n ∧ t = .int .i64 k ∧ Below w.heap.size w wr ∧ Hid (Own .u64 28 wr w.heap.size v (2 * k) (dig f))) (fun _ t _ => n - (intOf t).toNat)
  case atStart => exact ⟨0, by omega, rfl, hb1, HO1.out⟩
  case round =>
    clear hb1 HO1
    obtain ⟨k, hk, rfl, hbel, HO⟩ := hrel
    by_cases hlt : k < n
    · have hr := HR.out
      obtain ⟨b, o, rfl⟩ := hr.at (by omega)
      obtain ⟨x, hx⟩ : ∃ x, f k = x := ⟨_, rfl⟩
      have hcell : wr.cell? ⟨b, o + k, none⟩ = some (.int .u64 x) := by rw [← hx]; exact (hr.below hbel (Nat.le_refl _)).cell hlt
      obtain ⟨x0, x1⟩ := HF.out k hlt
      rw [hx] at x0 x1
      have HX := hid hx
      clear hx hr
      go_wp2_with (at_builtin; refine wpList_append_own_list .u64 _ rfl (.tmp 16) (.tmp 21) 22 rfl w.heap.size 28 8 Tryz.underlying22 Tryz.infoU64 _ (2 * k) (dig f) rfl (Own.alloc HO.out _) wr.heap.size 0 2 2 (two32 x) rfl (rd_new2 wr _ x) ?c1 ?c2 ?c3 ?_)
      case c1 => unfold maxLen; omega
      case c2 => omega
      case c3 => have := hbel.size; simp; omega
      intro v' w' hown hgr
      have hown2 : Own .u64 28 w' w.heap.size v' (2 * (k + 1)) (dig f) := (show Own .u64 28 w' w.heap.size v' (2 * k + 2) _ from hown).congr (fun j hj => by rw [← HX.out]; exact dig_cat f k j hj)
      have hbel2 : Below w.heap.size w w' := (hbel.alloc hbel.size _).grown hgr (by have := hbel.size; simp; omega) (fun k h => (Own.ge HO.out k h))
      have HO2 := hid hown2
      clear hown hgr hown2 HO
      go_wp2
      go_roundw
      case rel => exact ⟨k + 1, by omega, by go_num, hbel2, HO2.out⟩
      case measure => simp [intOf]; omega
    · have hkn : k = n := by omega
      subst hkn
      obtain ⟨ao', cap', hv, hcc, hnn, hml, hrd, hlt2⟩ := HO.out.shape
      unfold maxLen at hml
      subst hv
      have HNew := hid (fun a ha => (hlt2 a ha).1)
      clear HO hlt2
      go_wp2_with fail
      refine (low_c ao' (2 * k) cap' (dig f) wr hcc hml hrd hnn).mono ?_
      rintro e w2 ⟨rfl, m, hm, hz, hfm, rfl⟩
      have HZ := hid hz
      have HFM := hid hfm
      clear hz hfm
      go_wp2
      go_ret
      refine ⟨ao', m, cap', rfl, HNew.out, by omega, hml, hbel, hrd.take hm, hm, fun h => ?_, (dig_lm HF.out).mono hm, HFM.out, ?_⟩
      · have := hnn h; omega
      · rw [trim_vald hm HZ.out]; exact dig_val f k

theorem from_c (ao : Option Addr) (n cap : Nat) (f : Nat → Int) (w : World) (hn : n ≤ 1048576) (hr : Rd .u64 w ao n f) (hf : Lm f n) :
    Calls Tryz.prog 67 #[.slice ao n cap] w fun e w' => ∃ ao' m cap', e = .returned (.slice ao' m cap') ∧ Below w.heap.size w w' ∧ Rd .u64 w' ao' m (dig f) ∧ m ≤ 2 * n ∧ (ao' = none → m = 0) ∧ Dg (dig f) m ∧ Fm (dig f) m ∧ vd (dig f) m = vf f n :=
  (fromNew_c ao n cap f w hn hr hf).mono (fun _ _ ⟨a, m, c, h1, _, _, _, h2⟩ => ⟨a, m, c, h1, h2⟩)

/-- The limbs of digits. -/
def lim (d : Nat → Int) (n : Nat) : Nat → Int := fun j => ext d n (2 * j) + 4294967296 * ext d n (2 * j + 1)
theorem ext_dg {d : Nat → Int} {n : Nat} (h : Dg d n) (j : Nat) : 0 ≤ ext d n j ∧ ext d n j < 4294967296 := by
  by_cases hj : j < n
  · rw [ext_in _ _ _ hj]; exact h j hj
  · rw [ext_out _ _ _ (by omega)]; omega
theorem lim_lm {d : Nat → Int} {n : Nat} (h : Dg d n) (k : Nat) : Lm (lim d n) k := fun j _ => by
  have a := ext_dg h (2 * j); have b := ext_dg h (2 * j + 1)
  unfold lim; omega
theorem lim_val (d : Nat → Int) (n k : Nat) : vf (lim d n) k = vd (ext d n) (2 * k) := by
  induction k with
  | zero => rfl
  | succ k ih =>
    have e : 2 * (k + 1) = 2 * k + 1 + 1 := by omega
    rw [e, vd_succ, vd_succ, ← ih, vf_succ, pd_succ, pd_two, lim]; grind
theorem vd_ext_list (h : Nat → Int) (m n : Nat) (hn : m ≤ n) : vd (ext h m) n = vd h m := by
  rw [vd_ext hn (fun j h1 _ => ext_out h m j h1)]
  exact vd_congr (fun j hj => ext_in h m j hj)
theorem lim_fm {d : Nat → Int} {n k : Nat} (h : Dg d n) (hf : Fm d n) (h1 : n ≤ 2 * k) (h2 : 2 * k ≤ n + 1) : Fm (lim d n) k := by
  by_cases h0 : n = 0
  · left; omega
  · right
    have hd : d (n - 1) ≠ 0 := by rcases hf with h | h; omega; exact h
    have a := ext_dg h (2 * (k - 1)); have b := ext_dg h (2 * (k - 1) + 1)
    unfold lim
    rcases (show n - 1 = 2 * (k - 1) ∨ n - 1 = 2 * (k - 1) + 1 by omega) with e | e
    · have := ext_in d n (2 * (k - 1)) (by omega)
      rw [← e] at this a ⊢
      omega
    · have := ext_in d n (2 * (k - 1) + 1) (by omega)
      rw [← e] at this b ⊢
      omega
theorem cat_one {f : Nat → Int} {k : Nat} {x : Int} (h : f k = x) : ∀ j, j < k + 1 → cat f k (fun _ => x) j = f j := by
  intro j hj
  by_cases h1 : j < k
  · exact cat_in h1
  · obtain rfl : j = k := by omega
    rw [cat_out (Nat.le_refl _), h]

set_option maxRecDepth 100000 in
set_option maxHeartbeats 1000000 in
/-- To: the limbs of digits. -/
theorem toOwn_c (ao : Option Addr) (n cap : Nat) (d : Nat → Int) (w : World) (hn : n ≤ 1048576) (hr : Rd .u64 w ao n d) (hd : Dg d n) (hfm : Fm d n) :
    Calls Tryz.prog 120 #[.slice ao n cap] w fun e w' => ∃ ao' m cap' f, e = .returned (.slice ao' m cap') ∧ Own .u64 28 w' w.heap.size (.slice ao' m cap') m f ∧ Below w.heap.size w w' ∧ Rd .u64 w' ao' m f ∧ m ≤ n ∧ Lm f m ∧ Fm f m ∧ vf f m = vd d n := by
  have HR := hid hr
  have HD := hid hd
  have HFM := hid hfm
  clear hr hd hfm
  go_enter Tryz.func120, Tryz.ntmps120
  go_wp2
  go_loopw [3, 4] (fun v t wr => ∃ k : Nat, 2 * k ≤ n + 1 ∧ t = .int .i64 (2 * k) ∧ Below w.heap.size w wr ∧ Hid (Own .u64 28 wr w.heap.size v k (lim d n))) (fun _ t _ => n + 2 - (intOf t).toNat)
  case atStart => exact ⟨0, by omega, rfl, Below.refl _ _, own_nil _ _ _ _ _⟩
  case round =>
    obtain ⟨k, hk, rfl, hbel, HO⟩ := hrel
    by_cases hlt : 2 * k < n
    · have hr := HR.out
      obtain ⟨b, o, rfl⟩ := hr.at (by omega)
      obtain ⟨x, hx⟩ : ∃ x, d (2 * k) = x := ⟨_, rfl⟩
      have hcell : wr.cell? ⟨b, o + 2 * k, none⟩ = some (.int .u64 x) := by rw [← hx]; exact (hr.below hbel (Nat.le_refl _)).cell hlt
      obtain ⟨x0, x1⟩ := HD.out (2 * k) hlt
      rw [hx] at x0 x1
      have HX := hid hx
      clear hx
      by_cases hlt2 : 2 * k + 1 < n
      · obtain ⟨y, hy⟩ : ∃ y, d (2 * k + 1) = y := ⟨_, rfl⟩
        have hcell2 : wr.cell? ⟨b, o + (2 * k + 1), none⟩ = some (.int .u64 y) := by rw [← hy]; exact (hr.below hbel (Nat.le_refl _)).cell hlt2
        obtain ⟨y0, y1⟩ := HD.out (2 * k + 1) hlt2
        rw [hy] at y0 y1
        have HY := hid hy
        clear hy hr
        have hl : lim d n k = x + y * 4294967296 := by unfold lim; rw [ext_in _ _ _ hlt, ext_in _ _ _ hlt2, HX.out, HY.out]; omega
        have HLm := hid hl
        clear hl
        go_wp2_with (at_builtin; refine wpList_append_own_list .u64 _ rfl (.tmp 29) (.tmp 31) 22 rfl w.heap.size 28 8 Tryz.underlying22 Tryz.infoU64 _ k (lim d n) rfl (Own.alloc HO.out _) wr.heap.size 0 1 1 (fun _ => x + y * 4294967296) rfl (rd_new1 wr _ _) ?c1 ?c2 ?c3 ?_)
        case c1 => unfold maxLen; omega
        case c2 => omega
        case c3 => have := hbel.size; simp; omega
        intro v' w' hown hgr
        have hown2 : Own .u64 28 w' w.heap.size v' (k + 1) (lim d n) := Own.congr hown (cat_one HLm.out)
        have hbel2 : Below w.heap.size w w' := (hbel.alloc hbel.size _).grown hgr (by have := hbel.size; simp; omega) (fun k h => (Own.ge HO.out k h))
        have HO2 := hid hown2
        clear hown hgr hown2 HO
        go_wp2
        go_roundw
        case rel => exact ⟨k + 1, by omega, by go_num, hbel2, HO2.out⟩
        case measure => simp [intOf]; omega
      · have hl : lim d n k = x := by unfold lim; rw [ext_in _ _ _ hlt, ext_out _ _ _ (by omega), HX.out]; omega
        have HLm := hid hl
        clear hl hr
        go_wp2_with (at_builtin; refine wpList_append_own_list .u64 _ rfl (.tmp 29) (.tmp 31) 22 rfl w.heap.size 28 8 Tryz.underlying22 Tryz.infoU64 _ k (lim d n) rfl (Own.alloc HO.out _) wr.heap.size 0 1 1 (fun _ => x) rfl (rd_new1 wr _ _) ?c1 ?c2 ?c3 ?_)
        case c1 => unfold maxLen; omega
        case c2 => omega
        case c3 => have := hbel.size; simp; omega
        intro v' w' hown hgr
        have hown2 : Own .u64 28 w' w.heap.size v' (k + 1) (lim d n) := Own.congr hown (cat_one HLm.out)
        have hbel2 : Below w.heap.size w w' := (hbel.alloc hbel.size _).grown hgr (by have := hbel.size; simp; omega) (fun k h => (Own.ge HO.out k h))
        have HO2 := hid hown2
        clear hown hgr hown2 HO
        go_wp2
        go_roundw
        case rel => exact ⟨k + 1, by omega, by go_num, hbel2, HO2.out⟩
        case measure => simp [intOf]; omega
    · obtain ⟨ao', cap', hv, hcc, hnn, hml, hrd, hlt2⟩ := HO.out.shape
      subst hv
      clear hlt2
      go_wp2
      go_ret
      exact ⟨ao', k, cap', _, rfl, HO.out, hbel, hrd, by omega, lim_lm HD.out k, lim_fm HD.out HFM.out (by omega) hk, by rw [lim_val, vd_ext_list _ _ _ (by omega)]⟩
theorem to_c (ao : Option Addr) (n cap : Nat) (d : Nat → Int) (w : World) (hn : n ≤ 1048576) (hr : Rd .u64 w ao n d) (hd : Dg d n) (hfm : Fm d n) :
    Calls Tryz.prog 120 #[.slice ao n cap] w fun e w' => ∃ ao' m cap' f, e = .returned (.slice ao' m cap') ∧ Below w.heap.size w w' ∧ Rd .u64 w' ao' m f ∧ m ≤ n ∧ Lm f m ∧ Fm f m ∧ vf f m = vd d n :=
  (toOwn_c ao n cap d w hn hr hd hfm).mono (fun _ _ ⟨a, m, c, f, h1, _, h2⟩ => ⟨a, m, c, f, h1, h2⟩)
end Go.Proofs.YtclopblgdiahiaaGreatDoor
namespace Go.Proofs.YtclopblgdiahiaaGreatDoor
open Go.RowKit

theorem dcmp_step {f g : Nat → Int} {n k : Nat} (hf : Dg f n) (hg : Dg g n) (hk : k < n) (he : ∀ j, k < j → j < n → f j = g j) (hl : f k < g k) : vd f n < vd g n := by
  obtain ⟨d, rfl⟩ := Nat.exists_eq_add_of_le (show k + 1 ≤ n by omega)
  have e : vd (sh f (k + 1)) d = vd (sh g (k + 1)) d := vd_congr (fun j hj => he _ (by omega) (by omega))
  have a := vd_lt (hf.mono (m := k) (by omega)); have b := vd_nonneg (hg.mono (m := k) (by omega))
  have hp : (f k + 1) * pd k ≤ g k * pd k := Int.mul_le_mul_of_nonneg_right (by omega) (Int.le_of_lt (pd_pos k))
  rw [Int.add_mul, Int.one_mul] at hp
  rw [vd_split f (k + 1) d, vd_split g (k + 1) d, e, vd_succ f k, vd_succ g k]
  omega
theorem vd_cat1 (D : Nat → Int) (k : Nat) (x : Int) : vd (cat D k (fun _ => x)) (k + 1) = vd D k + x * pd k := by
  rw [vd_succ, vd_congr (f := cat D k (fun _ => x)) (g := D) (fun j hj => cat_in hj), cat_out (Nat.le_refl _)]
theorem dg_cat1 {D : Nat → Int} {k : Nat} {x : Int} (h : Dg D k) (hx : 0 ≤ x ∧ x < 4294967296) : Dg (cat D k (fun _ => x)) (k + 1) := fun j hj => by
  by_cases h1 : j < k
  · rw [cat_in h1]; exact h j h1
  · rw [cat_out (by omega)]; exact hx
/-- One digit of a sum. -/
theorem dadd_limb {V x c p : Int} : V + ((x + c) % 4294967296) * p + ((x + c) / 4294967296) * (4294967296 * p) = V + x * p + c * p := by
  have e : x + c = 4294967296 * ((x + c) / 4294967296) + (x + c) % 4294967296 := by omega
  grind
theorem dcarry_step {D F G : Nat → Int} {k : Nat} {cc x y : Int} (HV : vd D k + cc * pd k = vd F k + vd G k) (hx : F k = x) (hy : G k = y) :
    vd (cat D k (fun _ => (cc + x + y) % 4294967296)) (k + 1) + ((cc + x + y) / 4294967296) * pd (k + 1) = vd F (k + 1) + vd G (k + 1) := by
  rw [vd_cat1, vd_succ, vd_succ, pd_succ, hx, hy]
  have := dadd_limb (V := vd D k) (x := x + y) (c := cc) (p := pd k)
  have e : x + y + cc = cc + x + y := by omega
  rw [e] at this
  rw [this]
  grind
theorem dborrow_step {D F G : Nat → Int} {k : Nat} {cc x y v c' : Int} (HV : vd D k - cc * pd k = vd F k - vd G k) (hx : F k = x) (hy : G k = y) (hv : v = x - (cc + y) + 4294967296 * c') :
    vd (cat D k (fun _ => v)) (k + 1) - c' * pd (k + 1) = vd F (k + 1) - vd G (k + 1) := by
  rw [vd_cat1, vd_succ, vd_succ, pd_succ, hx, hy, hv]
  grind

set_option maxHeartbeats 800000 in
theorem rcmp_c (ao bo : Option Addr) (n m ca cb : Nat) (f g : Nat → Int) (w : World) (hm : n ≤ 140737488355328) (hm' : m ≤ 140737488355328)
    (hr : Rd .u64 w ao n f) (hs : Rd .u64 w bo m g) (hf : Dg f n) (hg : Dg g m) (ff : Fm f n) (fg : Fm g m) :
    Calls Tryz.prog 106 #[.slice ao n ca, .slice bo m cb] w fun e w' => (∃ q, w' = w.drewN q) ∧ ∃ c, e = .returned (.int .i64 c) ∧ Ord c (vd f n) (vd g m) := by
  have FF := hid ff
  have FG := hid fg
  have HF := hid hf
  have HG := hid hg
  clear ff fg hf hg
  rcases Nat.lt_trichotomy n m with hlt | heq | hlt
  · have h1 : ((n : Int) != m) = true := by simp; omega
    have h2 : decide ((n : Int) < m) = true := by simp; omega
    have h3 : vd f n < vd g m := by
      apply Int.lt_of_not_ge; intro h
      have := vd_len HG.out HF.out FG.out h; omega
    have H3 := hid h3
    clear h3
    go_enter Tryz.func106, Tryz.ntmps106
    go_wp2
    go_ret
    exact ⟨⟨0, rfl⟩, -1, rfl, .inl ⟨rfl, H3.out⟩⟩
  · subst heq
    have h1 : ((n : Int) != n) = false := by simp
    go_enter Tryz.func106, Tryz.ntmps106
    go_wp2
    go_loopw [5] (fun t wr => ∃ i : Nat, i ≤ n ∧ t = .int .i64 ((i : Int) - 1) ∧ Hid (∀ j, i ≤ j → j < n → f j = g j) ∧ ∃ q, wr = w.drewN q) (fun t _ => ((intOf t) + 1).toNat)
    case atStart => exact ⟨n, by omega, rfl, fun j h1 h2 => by omega, 0, rfl⟩
    case round =>
      obtain ⟨i, hin, rfl, HE, q, rfl⟩ := hrel
      by_cases hlt : 0 < i
      · obtain ⟨b, o, rfl⟩ := hr.at (by omega)
        obtain ⟨b', o', rfl⟩ := hs.at (by omega)
        obtain ⟨x, hx⟩ : ∃ x, f (i - 1) = x := ⟨_, rfl⟩
        obtain ⟨y, hy⟩ : ∃ y, g (i - 1) = y := ⟨_, rfl⟩
        have hca : w.cell? ⟨b, o + (i - 1), none⟩ = some (.int .u64 x) := by rw [← hx]; exact hr.cell (by omega)
        have hcb : w.cell? ⟨b', o' + (i - 1), none⟩ = some (.int .u64 y) := by rw [← hy]; exact hs.cell (by omega)
        have HX := hid hx
        have HY := hid hy
        clear hx hy hr hs
        rcases Int.lt_trichotomy x y with hl | hxy | hl
        · have hd : decide (x < y) = true := by simp [hl]
          go_wp2
          go_quiet (fail)
          go_wp2
          go_ret
          refine ⟨⟨_, by (repeat rw [World.drewN_drewN]) <;> rfl⟩, -1, rfl, .inl ⟨rfl, dcmp_step HF.out HG.out (k := i - 1) (by omega) (fun j h1 h2 => HE.out j (by omega) h2) (by rw [HX.out, HY.out]; exact hl)⟩⟩
        · subst hxy
          have hd : decide (x < x) = false := by simp
          go_wp2
          go_quiet (fail)
          go_wp2
          go_quiet (fail)
          go_wp2
          go_roundw
          case rel =>
            refine ⟨i - 1, by omega, by go_num, fun j h1 h2 => ?_, _, by (repeat rw [World.drewN_drewN]) <;> rfl⟩
            by_cases hj : j = i - 1
            · rw [hj]; exact HX.out.trans HY.out.symm
            · exact HE.out j (by omega) h2
          case measure => simp [intOf]; omega
        · have hd : decide (x < y) = false := by simp; omega
          have hd2 : decide (y < x) = true := by simp [hl]
          go_wp2
          go_quiet (fail)
          go_wp2
          go_quiet (fail)
          go_wp2
          go_ret
          refine ⟨⟨_, by (repeat rw [World.drewN_drewN]) <;> rfl⟩, 1, rfl, .inr (.inr ⟨rfl, dcmp_step HG.out HF.out (k := i - 1) (by omega) (fun j h1 h2 => (HE.out j (by omega) h2).symm) (by rw [HX.out, HY.out]; omega)⟩)⟩
      · have hi : i = 0 := by omega
        subst hi
        go_wp2
        go_ret
        exact ⟨⟨_, rfl⟩, 0, rfl, .inr (.inl ⟨rfl, vd_congr (fun j hj => HE.out j (by omega) hj)⟩)⟩
  · have h1 : ((n : Int) != m) = true := by simp; omega
    have h2 : decide ((n : Int) < m) = false := by simp; omega
    have h3 : vd g m < vd f n := by
      apply Int.lt_of_not_ge; intro h
      have := vd_len HF.out HG.out FF.out h; omega
    have H3 := hid h3
    clear h3
    go_enter Tryz.func106, Tryz.ntmps106
    go_wp2
    go_ret
    exact ⟨⟨0, rfl⟩, 1, rfl, .inr (.inr ⟨rfl, H3.out⟩)⟩

set_option maxRecDepth 100000 in
set_option maxHeartbeats 2000000 in
/-- Add: the sum, on digits. -/
theorem raddO_c (ao bo : Option Addr) (n m ca cb : Nat) (f h : Nat → Int) (w : World) (hn : n ≤ 1048576) (hm : m ≤ 1048576) (hr : Rd .u64 w ao n f) (hs : Rd .u64 w bo m h) (hf : Dg f n) (hh : Dg h m) :
    Calls Tryz.prog 173 #[.slice ao n ca, .slice bo m cb] w fun e w' => ∃ ao' k cap' D, e = .returned (.slice ao' k cap') ∧ Below w.heap.size w w' ∧ Rd .u64 w' ao' k D ∧ k ≤ n + m + 1 ∧ Dg D k ∧ Fm D k ∧ (∀ a, ao' = some a → w.heap.size ≤ a.block) ∧ vd D k = vd f n + vd h m := by
  obtain ⟨i0, hi, hz0, hz1, hz2⟩ := info_parts Tryz.infoU64
  have RA0 := hid hr
  have RB0 := hid hs
  have DA0 := hid hf
  have DB0 := hid hh
  clear hr hs hf hh
  by_cases hsw : n < m
  · have RA := RB0
    have RB := RA0
    have DA := DB0
    have DB := DA0
    clear RA0 RB0 DA0 DB0
    go_enter Tryz.func173, Tryz.ntmps173
    go_wp2_with (at_make; refine wpList_make_own w rfl (.const (.int .i64 0)) (.tmp 18) 22 rfl w.heap.size 28 i0 (.int .u64 0) 1 Tryz.underlying22 hi hz0 hz1 .i64 .i64 ((m : Int) + 1) (m + 1) rfl rfl (by omega) (by rw [hz2]; omega) (by unfold maxLen; omega) (Nat.le_refl _) ?_; intro w1 hown1 hgr1)
    have hb1 : Below w.heap.size w w1 := (Below.refl _ _).grown hgr1 (Nat.le_refl _) (fun k h => by cases h)
    have HO1 := hid (show Own .u64 28 w1 w.heap.size (.slice (some ⟨w.heap.size, 0, none⟩) 0 (m + 1)) 0 (fun _ => 0) from hown1)
    clear hown1 hgr1
    go_loopw [5, 6, 22] (fun v c t wr => ∃ (k : Nat) (cc : Int) (D : Nat → Int), k ≤ m ∧ t = .int .i64 k ∧ c = .int .u64 cc ∧ 0 ≤ cc ∧ cc ≤ 1 ∧ Below w.heap.size w wr ∧ Hid (Own .u64 28 wr w.heap.size v k D) ∧ Hid (Dg D k) ∧ Hid (vd D k + cc * pd k = vd h k + vd (ext f n) k)) (fun _ _ t _ => m - (intOf t).toNat)
    case atStart => exact ⟨0, 0, fun _ => 0, by omega, rfl, rfl, by omega, by omega, hb1, HO1.out, fun j hj => by omega, by simp [Hid, vd, pd]⟩
    case round =>
      clear hb1 HO1
      obtain ⟨k, cc, D, hk, rfl, rfl, c0, c1, hbel, HO, HDg, HV⟩ := hrel
      by_cases hlt : k < m
      · have hrA := RA.out
        obtain ⟨b, o, rfl⟩ := hrA.at (by omega)
        obtain ⟨x, hx⟩ : ∃ x, h k = x := ⟨_, rfl⟩
        have hcell : wr.cell? ⟨b, o + k, none⟩ = some (.int .u64 x) := by rw [← hx]; exact (hrA.below hbel (Nat.le_refl _)).cell hlt
        obtain ⟨x0, x1⟩ := DA.out k hlt
        rw [hx] at x0 x1
        have HX := hid hx
        clear hx hrA
        by_cases hlt2 : k < n
        · have hrB := RB.out
          obtain ⟨b', o', rfl⟩ := hrB.at (by omega)
          obtain ⟨y, hy⟩ : ∃ y, f k = y := ⟨_, rfl⟩
          have hcelb : wr.cell? ⟨b', o' + k, none⟩ = some (.int .u64 y) := by rw [← hy]; exact (hrB.below hbel (Nat.le_refl _)).cell hlt2
          obtain ⟨y0, y1⟩ := DB.out k hlt2
          rw [hy] at y0 y1
          have HY := hid (show ext f n k = y from (ext_in _ _ _ hlt2).trans hy)
          clear hy hrB
          go_wp2_with (at_builtin; refine wpList_append_own_list .u64 _ rfl (.tmp 40) (.tmp 43) 22 rfl w.heap.size 28 8 Tryz.underlying22 Tryz.infoU64 _ k D rfl (Own.alloc HO.out _) wr.heap.size 0 1 1 (fun _ => (cc + x + y) % 4294967296) rfl (rd_new1 wr _ _) ?c1 ?c2 ?c3 ?_)
          case c1 => unfold maxLen; omega
          case c2 => omega
          case c3 => have := hbel.size; simp; omega
          intro v' w' hown hgr
          have hbel2 : Below w.heap.size w w' := (hbel.alloc hbel.size _).grown hgr (by have := hbel.size; simp; omega) (fun k h => (Own.ge HO.out k h))
          have HO2 := hid hown
          clear hown hgr HO
          go_wp2
          go_roundw
          case rel => exact ⟨k + 1, _, _, by omega, by go_num, rfl, by omega, by omega, hbel2, HO2.out, dg_cat1 HDg.out (by omega), dcarry_step HV.out HX.out HY.out⟩
          case measure => simp [intOf]; omega
        · have HY := hid (show ext f n k = 0 from ext_out _ _ _ (by omega))
          go_wp2_with (at_builtin; refine wpList_append_own_list .u64 _ rfl (.tmp 40) (.tmp 43) 22 rfl w.heap.size 28 8 Tryz.underlying22 Tryz.infoU64 _ k D rfl (Own.alloc HO.out _) wr.heap.size 0 1 1 (fun _ => (cc + x) % 4294967296) rfl (rd_new1 wr _ _) ?c1 ?c2 ?c3 ?_)
          case c1 => unfold maxLen; omega
          case c2 => omega
          case c3 => have := hbel.size; simp; omega
          intro v' w' hown hgr
          have hbel2 : Below w.heap.size w w' := (hbel.alloc hbel.size _).grown hgr (by have := hbel.size; simp; omega) (fun k h => (Own.ge HO.out k h))
          have HO2 := hid hown
          clear hown hgr HO
          go_wp2
          go_roundw
          case rel => exact ⟨k + 1, _, _, by omega, by go_num, rfl, by omega, by omega, hbel2, HO2.out, dg_cat1 HDg.out (by omega), (by have := dcarry_step HV.out HX.out HY.out; simpa [Hid] using this)⟩
          case measure => simp [intOf]; omega
      · have hkn : k = m := by omega
        subst hkn
        go_wp2_with (at_builtin; refine wpList_append_own_list .u64 _ rfl (.tmp 48) (.tmp 50) 22 rfl w.heap.size 28 8 Tryz.underlying22 Tryz.infoU64 _ k D rfl (Own.alloc HO.out _) wr.heap.size 0 1 1 (fun _ => cc) rfl (rd_new1 wr _ _) ?c1 ?c2 ?c3 ?_)
        case c1 => unfold maxLen; omega
        case c2 => omega
        case c3 => have := hbel.size; simp; omega
        intro v' w' hown hgr
        have hbel2 : Below w.heap.size w w' := (hbel.alloc hbel.size _).grown hgr (by have := hbel.size; simp; omega) (fun k h => (Own.ge HO.out k h))
        obtain ⟨ao', cap', hv, hcc, hnn, hml, hrd, hlt3⟩ := Own.shape hown
        unfold maxLen at hml
        subst hv
        have HLT := hid hlt3
        clear hown hgr HO hlt3
        go_wp2_with fail
        refine (low_c ao' (k + 1) cap' (cat D k (fun _ => cc)) w' hcc hml hrd hnn).mono ?_
        rintro e w2 ⟨rfl, m', hm1, hz, hfm, rfl⟩
        have HZ := hid hz
        have HFM := hid hfm
        clear hz hfm
        go_wp2
        go_ret
        refine ⟨ao', m', cap', _, rfl, hbel2, hrd.take hm1, by omega, (dg_cat1 HDg.out (by omega)).mono hm1, HFM.out, fun a ha => (HLT.out a ha).1, ?_⟩
        rw [trim_vald hm1 HZ.out, vd_cat1, HV.out, vd_ext_list _ _ _ (by omega)]
        omega
  · have RA := RA0
    have RB := RB0
    have DA := DA0
    have DB := DB0
    clear RA0 RB0 DA0 DB0
    go_enter Tryz.func173, Tryz.ntmps173
    go_wp2_with (at_make; refine wpList_make_own w rfl (.const (.int .i64 0)) (.tmp 18) 22 rfl w.heap.size 28 i0 (.int .u64 0) 1 Tryz.underlying22 hi hz0 hz1 .i64 .i64 ((n : Int) + 1) (n + 1) rfl rfl (by omega) (by rw [hz2]; omega) (by unfold maxLen; omega) (Nat.le_refl _) ?_; intro w1 hown1 hgr1)
    have hb1 : Below w.heap.size w w1 := (Below.refl _ _).grown hgr1 (Nat.le_refl _) (fun k h => by cases h)
    have HO1 := hid (show Own .u64 28 w1 w.heap.size (.slice (some ⟨w.heap.size, 0, none⟩) 0 (n + 1)) 0 (fun _ => 0) from hown1)
    clear hown1 hgr1
    go_loopw [5, 6, 22] (fun v c t wr => ∃ (k : Nat) (cc : Int) (D : Nat → Int), k ≤ n ∧ t = .int .i64 k ∧ c = .int .u64 cc ∧ 0 ≤ cc ∧ cc ≤ 1 ∧ Below w.heap.size w wr ∧ Hid (Own .u64 28 wr w.heap.size v k D) ∧ Hid (Dg D k) ∧ Hid (vd D k + cc * pd k = vd f k + vd (ext h m) k)) (fun _ _ t _ => n - (intOf t).toNat)
    case atStart => exact ⟨0, 0, fun _ => 0, by omega, rfl, rfl, by omega, by omega, hb1, HO1.out, fun j hj => by omega, by simp [Hid, vd, pd]⟩
    case round =>
      clear hb1 HO1
      obtain ⟨k, cc, D, hk, rfl, rfl, c0, c1, hbel, HO, HDg, HV⟩ := hrel
      by_cases hlt : k < n
      · have hrA := RA.out
        obtain ⟨b, o, rfl⟩ := hrA.at (by omega)
        obtain ⟨x, hx⟩ : ∃ x, f k = x := ⟨_, rfl⟩
        have hcell : wr.cell? ⟨b, o + k, none⟩ = some (.int .u64 x) := by rw [← hx]; exact (hrA.below hbel (Nat.le_refl _)).cell hlt
        obtain ⟨x0, x1⟩ := DA.out k hlt
        rw [hx] at x0 x1
        have HX := hid hx
        clear hx hrA
        by_cases hlt2 : k < m
        · have hrB := RB.out
          obtain ⟨b', o', rfl⟩ := hrB.at (by omega)
          obtain ⟨y, hy⟩ : ∃ y, h k = y := ⟨_, rfl⟩
          have hcelb : wr.cell? ⟨b', o' + k, none⟩ = some (.int .u64 y) := by rw [← hy]; exact (hrB.below hbel (Nat.le_refl _)).cell hlt2
          obtain ⟨y0, y1⟩ := DB.out k hlt2
          rw [hy] at y0 y1
          have HY := hid (show ext h m k = y from (ext_in _ _ _ hlt2).trans hy)
          clear hy hrB
          go_wp2_with (at_builtin; refine wpList_append_own_list .u64 _ rfl (.tmp 40) (.tmp 43) 22 rfl w.heap.size 28 8 Tryz.underlying22 Tryz.infoU64 _ k D rfl (Own.alloc HO.out _) wr.heap.size 0 1 1 (fun _ => (cc + x + y) % 4294967296) rfl (rd_new1 wr _ _) ?c1 ?c2 ?c3 ?_)
          case c1 => unfold maxLen; omega
          case c2 => omega
          case c3 => have := hbel.size; simp; omega
          intro v' w' hown hgr
          have hbel2 : Below w.heap.size w w' := (hbel.alloc hbel.size _).grown hgr (by have := hbel.size; simp; omega) (fun k h => (Own.ge HO.out k h))
          have HO2 := hid hown
          clear hown hgr HO
          go_wp2
          go_roundw
          case rel => exact ⟨k + 1, _, _, by omega, by go_num, rfl, by omega, by omega, hbel2, HO2.out, dg_cat1 HDg.out (by omega), dcarry_step HV.out HX.out HY.out⟩
          case measure => simp [intOf]; omega
        · have HY := hid (show ext h m k = 0 from ext_out _ _ _ (by omega))
          go_wp2_with (at_builtin; refine wpList_append_own_list .u64 _ rfl (.tmp 40) (.tmp 43) 22 rfl w.heap.size 28 8 Tryz.underlying22 Tryz.infoU64 _ k D rfl (Own.alloc HO.out _) wr.heap.size 0 1 1 (fun _ => (cc + x) % 4294967296) rfl (rd_new1 wr _ _) ?c1 ?c2 ?c3 ?_)
          case c1 => unfold maxLen; omega
          case c2 => omega
          case c3 => have := hbel.size; simp; omega
          intro v' w' hown hgr
          have hbel2 : Below w.heap.size w w' := (hbel.alloc hbel.size _).grown hgr (by have := hbel.size; simp; omega) (fun k h => (Own.ge HO.out k h))
          have HO2 := hid hown
          clear hown hgr HO
          go_wp2
          go_roundw
          case rel => exact ⟨k + 1, _, _, by omega, by go_num, rfl, by omega, by omega, hbel2, HO2.out, dg_cat1 HDg.out (by omega), (by have := dcarry_step HV.out HX.out HY.out; simpa [Hid] using this)⟩
          case measure => simp [intOf]; omega
      · have hkn : k = n := by omega
        subst hkn
        go_wp2_with (at_builtin; refine wpList_append_own_list .u64 _ rfl (.tmp 48) (.tmp 50) 22 rfl w.heap.size 28 8 Tryz.underlying22 Tryz.infoU64 _ k D rfl (Own.alloc HO.out _) wr.heap.size 0 1 1 (fun _ => cc) rfl (rd_new1 wr _ _) ?c1 ?c2 ?c3 ?_)
        case c1 => unfold maxLen; omega
        case c2 => omega
        case c3 => have := hbel.size; simp; omega
        intro v' w' hown hgr
        have hbel2 : Below w.heap.size w w' := (hbel.alloc hbel.size _).grown hgr (by have := hbel.size; simp; omega) (fun k h => (Own.ge HO.out k h))
        obtain ⟨ao', cap', hv, hcc, hnn, hml, hrd, hlt3⟩ := Own.shape hown
        unfold maxLen at hml
        subst hv
        have HLT := hid hlt3
        clear hown hgr HO hlt3
        go_wp2_with fail
        refine (low_c ao' (k + 1) cap' (cat D k (fun _ => cc)) w' hcc hml hrd hnn).mono ?_
        rintro e w2 ⟨rfl, m', hm1, hz, hfm, rfl⟩
        have HZ := hid hz
        have HFM := hid hfm
        clear hz hfm
        go_wp2
        go_ret
        refine ⟨ao', m', cap', _, rfl, hbel2, hrd.take hm1, by omega, (dg_cat1 HDg.out (by omega)).mono hm1, HFM.out, fun a ha => (HLT.out a ha).1, ?_⟩
        rw [trim_vald hm1 HZ.out, vd_cat1, HV.out, vd_ext_list _ _ _ (by omega)]

/-- The same, without the place. -/
theorem radd_c (ao bo : Option Addr) (n m ca cb : Nat) (f h : Nat → Int) (w : World) (hn : n ≤ 1048576) (hm : m ≤ 1048576) (hr : Rd .u64 w ao n f) (hs : Rd .u64 w bo m h) (hf : Dg f n) (hh : Dg h m) :
    Calls Tryz.prog 173 #[.slice ao n ca, .slice bo m cb] w fun e w' => ∃ ao' k cap' D, e = .returned (.slice ao' k cap') ∧ Below w.heap.size w w' ∧ Rd .u64 w' ao' k D ∧ k ≤ n + m + 1 ∧ Dg D k ∧ Fm D k ∧ vd D k = vd f n + vd h m :=
  (raddO_c ao bo n m ca cb f h w hn hm hr hs hf hh).mono (fun _ _ ⟨a, k, c, D, h1, h2, h3, h4, h5, h6, _, h7⟩ => ⟨a, k, c, D, h1, h2, h3, h4, h5, h6, h7⟩)

end Go.Proofs.YtclopblgdiahiaaGreatDoor
