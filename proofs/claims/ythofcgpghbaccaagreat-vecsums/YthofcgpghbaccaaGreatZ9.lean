/-
  The walk of the document's reference for nat: bit, Bits, DivMod. Walks of nat.Shl and of the document's reference: Shl, DocShl. The walk of the document's reference for nat: half, Gcd. The walk of the document's reference for nat: Gcd. Walks of the document's reference for nat: DocMul, DocDivMod, DocGcd. Walks of the document's reference for whole: Neg, Add, Sub, Mul, Sign, Cmp. Walks of the document's reference for whole: Sub, Sign, Cmp, two, DocNeg, DocCmp. Walks of the document's reference for whole: DocNeg, DocCmp, Doc. Walks of the document's reference for rat: Form. Walks of the document's reference for rat: Mk, whatever the numbers' lengths.
-/
import Derived.Test.YthofcgpghbaccaaGreatZ6
import Derived.Test.YthofcgpghbaccaaGreatZ2
import Derived.Test.YthofcgpghbaccaaGreatZ4
namespace Go.Proofs.YthofcgpghbaccaaGreat
open Go.RowKit

theorem drewN_bel {w w' : World} {q : Nat} (h : w' = w.drewN q) : Below w.heap.size w w' := by rw [h]; exact below_drewN (Below.refl _ _) _
/-- One digit otherwise. -/
theorem vd_upd {Q : Nat → Int} {p N : Nat} {t : Int} (hp : p < N) : vd (upd Q p t) N = vd Q N + (t - Q p) * pd p := by
  obtain ⟨d, rfl⟩ : ∃ d, N = p + 1 + d := ⟨N - (p + 1), by omega⟩
  have e1 : vd (upd Q p t) p = vd Q p := vd_congr (fun j hj => upd_other _ _ _ _ (by omega))
  have e2 : vd (sh (upd Q p t) (p + 1)) d = vd (sh Q (p + 1)) d := vd_congr (fun j hj => upd_other _ _ _ _ (by omega))
  rw [vd_split (upd Q p t) (p + 1) d, vd_split Q (p + 1) d, vd_succ, vd_succ, e1, e2, upd_same]
  grind
theorem p2_pos (s : Nat) : (0 : Int) < 2 ^ s := Int.pow_pos (by decide)
theorem p2_32 {s : Nat} (h : s ≤ 32) : (2 : Int) ^ s * 2 ^ (32 - s) = 4294967296 := by rw [← Int.pow_add, show s + (32 - s) = 32 by omega]; rfl
theorem p2_le {s : Nat} (h : s ≤ 31) : (2 : Int) ^ s ≤ 2147483648 := by
  have : (2 : Int) ^ s * 2 ^ (31 - s) = 2147483648 := by rw [← Int.pow_add, show s + (31 - s) = 31 by omega]; rfl
  have q0 : (0 : Int) < 2 ^ (31 - s) := p2_pos _
  have := Int.mul_le_mul_of_nonneg_left (show (1 : Int) ≤ 2 ^ (31 - s) by omega) (Int.le_of_lt (p2_pos s))
  omega
theorem p2_succ (s : Nat) : (2 : Int) ^ (s + 1) = 2 * 2 ^ s := by rw [Int.pow_succ, Int.mul_comm]
/-- What is less than one and not below none, is none. -/
theorem none_of_lt {D p : Int} (h0 : 0 ≤ D * p) (h1 : D * p < p) (hp : 0 < p) : D = 0 := by
  rcases Int.lt_trichotomy D 0 with h | h | h
  · have := Int.mul_le_mul_of_nonneg_right (show D ≤ -1 by omega) (Int.le_of_lt hp); omega
  · exact h
  · have := Int.mul_le_mul_of_nonneg_right (show 1 ≤ D by omega) (Int.le_of_lt hp); omega
/-- There is room for the bit. -/
theorem bit_room {Q : Nat → Int} {n j s : Nat} {V : Int} (h : Dg Q n) (hj : j < n) (hs : s ≤ 31) (hv : vd Q n = V * (2 ^ (s + 1) * pd j)) : Q j + 2 ^ s < 4294967296 := by
  obtain ⟨d, rfl⟩ : ∃ d, n = j + 1 + d := ⟨n - (j + 1), by omega⟩
  have a0 := vd_nonneg (h.mono (m := j) (by omega))
  have a1 := vd_lt (h.mono (m := j) (by omega))
  have hp := pd_pos j
  obtain ⟨q0, q1⟩ := h j (by omega)
  rw [vd_split, vd_succ, pd_succ] at hv
  generalize vd (sh Q (j + 1)) d = T at hv
  have e : vd Q j = (V * 2 ^ (s + 1) - Q j - T * 4294967296) * pd j := by grind
  have z := none_of_lt (D := V * 2 ^ (s + 1) - Q j - T * 4294967296) (p := pd j) (by omega) (by omega) hp
  have m := p2_32 (s := s + 1) (by omega)
  have e3 : Q j = 2 ^ (s + 1) * (V - T * 2 ^ (32 - (s + 1))) := by grind
  have g0 := p2_pos (s + 1)
  have g1 := p2_succ s
  generalize (V - T * 2 ^ (32 - (s + 1))) = E at e3
  have : E < 2 ^ (32 - (s + 1)) := by
    apply Int.lt_of_not_ge; intro hge
    have := Int.mul_le_mul_of_nonneg_left hge (Int.le_of_lt g0)
    omega
  have := Int.mul_le_mul_of_nonneg_left (show E ≤ 2 ^ (32 - (s + 1)) - 1 by omega) (Int.le_of_lt g0)
  rw [Int.mul_sub, Int.mul_one, m] at this
  have := p2_pos s
  omega
/-- The bit of a digit is the number's. -/
theorem bit_num {f : Nat → Int} {n j s : Nat} (h : Dg f n) (hj : j < n) (hs : s ≤ 31) : f j / 2 ^ s % 2 = vd f n / 2 ^ (32 * j + s) % 2 := by
  obtain ⟨d, rfl⟩ : ∃ d, n = j + 1 + d := ⟨n - (j + 1), by omega⟩
  have a0 := vd_nonneg (h.mono (m := j) (by omega))
  have a1 := vd_lt (h.mono (m := j) (by omega))
  have hp := pd_pos j
  rw [vd_split, vd_succ, pd_succ, Int.pow_add, ← pd_pow]
  generalize vd (sh f (j + 1)) d = T
  have e : vd f j + f j * pd j + T * (4294967296 * pd j) = vd f j + (f j + T * 4294967296) * pd j := by grind
  rw [e, ← Int.ediv_ediv_of_nonneg (Int.le_of_lt hp), Int.add_mul_ediv_right _ _ (by omega), Int.ediv_eq_zero_of_lt a0 a1, Int.zero_add]
  have m := p2_32 (s := s) (by omega)
  have e2 : f j + T * 4294967296 = f j + (T * 2 ^ (32 - s)) * 2 ^ s := by rw [← m]; grind
  have g := p2_pos s
  rw [e2, Int.add_mul_ediv_right _ _ (by omega)]
  have e3 : (2 : Int) ^ (32 - s) = 2 * 2 ^ (31 - s) := by rw [show 32 - s = (31 - s) + 1 by omega, p2_succ]
  rw [e3]
  generalize f j / 2 ^ s = u
  have e4 : T * (2 * 2 ^ (31 - s)) = 2 * (T * 2 ^ (31 - s)) := by grind
  rw [e4]; omega
/-- One bit more. -/
theorem bit_step {A M : Int} {k : Nat} (h : A / 2 ^ (k + 1) = M) : A / 2 ^ k = 2 * M + A / 2 ^ k % 2 := by
  have : A / 2 ^ (k + 1) = A / 2 ^ k / 2 := by rw [Int.pow_succ, Int.ediv_ediv_of_nonneg (Int.le_of_lt (p2_pos k))]
  omega
/-- The highest digit's bits are the number's. -/
theorem bits_top {f : Nat → Int} {n c : Nat} (h : Dg f (n + 1)) (hc : f n < 2 ^ c) : vd f (n + 1) < 2 ^ (32 * n + c) := by
  have a1 := vd_lt (h.mono (m := n) (by omega))
  have hp := pd_pos n
  rw [vd_succ, Int.pow_add, ← pd_pow]
  have := Int.mul_le_mul_of_nonneg_right (show f n + 1 ≤ 2 ^ c by omega) (Int.le_of_lt hp)
  rw [Int.add_mul, Int.one_mul] at this
  rw [Int.mul_comm (pd n)]
  omega
theorem bits_half {x t : Int} {c : Nat} (h1 : x * 2 ^ c ≤ t) (h2 : t < (x + 1) * 2 ^ c) : x / 2 * 2 ^ (c + 1) ≤ t ∧ t < (x / 2 + 1) * 2 ^ (c + 1) := by
  have g := p2_pos c
  rw [p2_succ]
  have k1 := Int.mul_le_mul_of_nonneg_right (show 2 * (x / 2) ≤ x by omega) (Int.le_of_lt g)
  have k2 := Int.mul_le_mul_of_nonneg_right (show x + 1 ≤ 2 * (x / 2) + 2 by omega) (Int.le_of_lt g)
  generalize (2 : Int) ^ c = P at *
  generalize x / 2 = y at *
  constructor
  · have : y * (2 * P) = 2 * y * P := by grind
    omega
  · have : (y + 1) * (2 * P) = (2 * y + 2) * P := by grind
    omega
theorem bits_few {x t : Int} {c : Nat} (h1 : x * 2 ^ c ≤ t) (hx : 0 < x) (ht : t < 4294967296) : c < 32 := by
  apply Nat.lt_of_not_le; intro h
  obtain ⟨d, rfl⟩ := Nat.exists_eq_add_of_le h
  have g := p2_pos d
  have g2 := p2_pos (32 + d)
  have k1 := Int.mul_le_mul_of_nonneg_right (show 1 ≤ x by omega) (Int.le_of_lt g2)
  have : (2 : Int) ^ (32 + d) = 4294967296 * 2 ^ d := by rw [Int.pow_add]; rfl
  have k2 := Int.mul_le_mul_of_nonneg_left (show (1 : Int) ≤ 2 ^ d by omega) (show (0 : Int) ≤ 4294967296 by decide)
  omega

set_option maxRecDepth 100000 in
set_option maxHeartbeats 1000000 in
theorem rbit_c (ao : Option Addr) (n cap : Nat) (f : Nat → Int) (i : Nat) (w : World) (hn : n ≤ 1048576) (hr : Rd .u64 w ao n f) (hf : Dg f n) (hi : i < 32 * n) :
    Calls Tryz.prog 103 #[.slice ao n cap, .int .i64 i] w fun e w' => e = .returned (.int .u64 (vd f n / 2 ^ i % 2)) ∧ w' = w := by
  obtain ⟨j, s, rfl, hs⟩ : ∃ j s, i = 32 * j + s ∧ s ≤ 31 := ⟨i / 32, i % 32, by omega, by omega⟩
  have hj : j < n := by omega
  rw [← bit_num hf hj hs]
  obtain ⟨b, o, rfl⟩ := hr.at (by omega)
  obtain ⟨x, hx⟩ : ∃ x, f j = x := ⟨_, rfl⟩
  have hcell := hr.cell hj
  obtain ⟨x0, x1⟩ := hf j hj
  rw [hx] at hcell x0 x1 ⊢
  obtain ⟨z, hz⟩ : ∃ z : Int, ((32 * j + s : Nat) : Int) = z := ⟨_, rfl⟩
  rw [hz]
  have z0 : 0 ≤ z := by omega
  have z1 : z ≤ 67108927 := by omega
  have h3 : Int.tdiv z 32 = (j : Int) := by rw [Int.tdiv_eq_ediv_of_nonneg z0]; omega
  have h4 : Int.tmod z 32 = (s : Int) := by rw [Int.tmod_eq_emod_of_nonneg z0]; omega
  have d0 : 0 ≤ x / 2 ^ s := Int.ediv_nonneg x0 (Int.le_of_lt (p2_pos s))
  have d1 : x / 2 ^ s < 4294967296 := Int.lt_of_le_of_lt (Int.ediv_le_self _ x0) x1
  have HX := hid hx
  clear hx hz hr hf hi
  go_enter Tryz.func103, Tryz.ntmps103
  go_wp2
  go_ret
  exact ⟨rfl, rfl⟩

set_option maxRecDepth 100000 in
set_option maxHeartbeats 1000000 in
theorem rbits_c (ao : Option Addr) (n cap : Nat) (f : Nat → Int) (w : World) (hn : n ≤ 1048576) (hr : Rd .u64 w ao n f) (hf : Dg f n) :
    Calls Tryz.prog 102 #[.slice ao n cap] w fun e w' => ∃ B : Nat, e = .returned (.int .i64 B) ∧ (∃ q, w' = w.drewN q) ∧ Hid (B ≤ 32 * n ∧ vd f n < 2 ^ B) := by
  cases n with
  | zero =>
    go_enter Tryz.func102, Tryz.ntmps102
    go_wp2
    go_ret
    exact ⟨0, rfl, ⟨0, rfl⟩, by omega, by simp [vd]⟩
  | succ n =>
    obtain ⟨b, o, rfl⟩ := hr.at (by omega)
    obtain ⟨t, ht⟩ : ∃ t, f n = t := ⟨_, rfl⟩
    have hcell := hr.cell (j := n) (by omega)
    obtain ⟨t0, t1⟩ := hf n (by omega)
    rw [ht] at hcell t0 t1
    have HT := hid ht; have HF := hid hf
    clear ht hr hf
    go_enter Tryz.func102, Tryz.ntmps102
    go_wp2
    go_loopw [3, 4] (fun u v wr => ∃ (c : Nat) (x : Int), c ≤ 32 ∧ u = .int .i64 ((32 * n + c : Nat) : Int) ∧ v = .int .u64 x ∧ 0 ≤ x ∧ x < 4294967296 ∧ Hid (x * 2 ^ c ≤ t ∧ t < (x + 1) * 2 ^ c) ∧ ∃ q, wr = w.drewN q) (fun _ v _ => (intOf v).toNat)
    case atStart => exact ⟨0, t, by omega, by go_num, rfl, t0, t1, ⟨by rw [Int.pow_zero, Int.mul_one]; exact Int.le_refl _, by rw [Int.pow_zero, Int.mul_one]; omega⟩, 0, rfl⟩
    case round =>
      obtain ⟨c, x, hc, rfl, rfl, x0, x1, HX, q, rfl⟩ := hrel
      by_cases hx : 0 < x
      · have hfew := bits_few HX.out.1 hx t1
        have hh := bits_half HX.out.1 HX.out.2
        have HH := hid hh
        clear hh
        go_wp2
        go_roundw
        case rel => exact ⟨c + 1, x / 2, by omega, by go_num, by go_num, by omega, by omega, HH.out, q, rfl⟩
        case measure => simp [intOf]; omega
      · obtain rfl : x = 0 := by omega
        have htop := bits_top (c := c) HF.out (by rw [HT.out]; have := HX.out.2; simpa using this)
        have HTop := hid htop
        clear htop
        go_wp2
        go_ret
        exact ⟨32 * n + c, rfl, ⟨q, rfl⟩, by omega, HTop.out⟩

theorem dWord_c {w : World} {V : Nat} (hV : V < 4294967296) :
    Calls Tryz.prog 92 #[.int .u64 (V : Int)] w fun e w' => ∃ z k c d, e = .returned (.slice z k c) ∧ Below w.heap.size w w' ∧ Hid (k ≤ 1 ∧ Dn w' z k d V) :=
  (word_c V w (by omega) (by omega)).mono (fun _ _ ⟨k, h1, h2, h3, h4, h5, h6⟩ => ⟨_, k, 2, _, h1, h2, h3, h4, fun j hj => ⟨by omega, by omega⟩, h6, by
    rcases (show k = 0 ∨ k = 1 by omega) with h | h
    · subst h; have := h5 rfl; simp [vd]; omega
    · subst h; simp [vd, pd]⟩)
theorem dAddO_c {w x n c d A y m e g B} (ha : Dn w x n d A) (hb : Dn w y m g B) (hn : n ≤ 1048576) (hm : m ≤ 1048576) :
    Calls Tryz.prog 95 #[.slice x n c, .slice y m e] w fun e w' => ∃ z k c' q, e = .returned (.slice z k c') ∧ Below w.heap.size w w' ∧ Hid (k ≤ n + m + 1 ∧ Dn w' z k q (A + B) ∧ ∀ a, z = some a → w.heap.size ≤ a.block) :=
  (raddO_c x y n m c e d g w (by omega) (by omega) ha.rd hb.rd ha.dg hb.dg).mono (fun _ _ ⟨z, k, c', q, h1, h2, h3, h4, h5, h6, h8, h7⟩ => ⟨z, k, c', q, h1, h2, h4, ⟨h3, h5, h6, by rw [h7, ha.val, hb.val]; omega⟩, h8⟩)
theorem dSubO_c {w x n c d A y m e g B} (ha : Dn w x n d A) (hb : Dn w y m g B) (hn : n ≤ 1048576) (hm : m ≤ 1048576) (hle : B ≤ A) :
    Calls Tryz.prog 89 #[.slice x n c, .slice y m e] w fun e w' => ∃ z k c' q, e = .returned (.slice z k c') ∧ Below w.heap.size w w' ∧ Hid (k ≤ n ∧ Dn w' z k q (A - B) ∧ ∀ a, z = some a → w.heap.size ≤ a.block) :=
  (rsubO_c x y n m c e d g w (by omega) (by omega) (vd_len hb.dg ha.dg hb.fm (by rw [ha.val, hb.val]; omega)) ha.rd hb.rd ha.dg hb.dg (by rw [ha.val, hb.val]; omega)).mono (fun _ _ ⟨z, k, c', q, h1, h2, h3, h4, h5, h6, h8, h7⟩ => ⟨z, k, c', q, h1, h2, h4, ⟨h3, h5, h6, by rw [h7, ha.val, hb.val]; omega⟩, h8⟩)
theorem Dn.len {w x n d A y m g B} (ha : Dn w x n d A) (hb : Dn w y m g B) (hle : A ≤ B) : n ≤ m := vd_len ha.dg hb.dg ha.fm (by rw [ha.val, hb.val]; omega)
theorem Dn.setq {w x n d A} {G i : Nat} {u : Value} (h : Dn w x n d A) (hG : ∀ a, x = some a → G < a.block) : Dn (w.setCell ⟨G, i, none⟩ u) x n d A := ⟨h.rd.only ((Only.refl _ _).setCell _ _ _) (fun a ha => by have := hG a ha; omega), h.dg, h.fm, h.val⟩
theorem div_next0 {A V Qv R β : Nat} {k : Nat} (h : A / 2 ^ (k + 1) = Qv * V + R) (hb : A / 2 ^ k % 2 = β) : A / 2 ^ k = 2 * Qv * V + (R + R + β) := by
  have : A / 2 ^ (k + 1) = A / 2 ^ k / 2 := by rw [Nat.pow_succ, Nat.div_div_eq_div_mul]
  have e : 2 * Qv * V = 2 * (Qv * V) := Nat.mul_assoc _ _ _
  omega
theorem div_next1 {A V Qv R β : Nat} {k : Nat} (h : A / 2 ^ (k + 1) = Qv * V + R) (hb : A / 2 ^ k % 2 = β) (hge : V ≤ R + R + β) : A / 2 ^ k = (2 * Qv + 1) * V + (R + R + β - V) := by
  have := div_next0 h hb
  rw [Nat.add_mul, Nat.one_mul]; omega
theorem div_end {A V Q R : Nat} (h : A = Q * V + R) (hR : R < V) : A / V = Q ∧ A % V = R := by
  subst h
  constructor
  · rw [Nat.mul_comm, Nat.mul_add_div (by omega), Nat.div_eq_of_lt hR, Nat.add_zero]
  · rw [Nat.mul_comm, Nat.mul_add_mod, Nat.mod_eq_of_lt hR]

set_option maxRecDepth 100000 in
set_option maxHeartbeats 4000000 in
theorem rdivL_c {w : World} {x : Option Addr} {n c : Nat} {f : Nat → Int} {A : Nat} {y : Option Addr} {m e : Nat} {g : Nat → Int} {V : Nat} (ha : Dn w x n f A) (hb : Dn w y m g V) (hn : n ≤ 262144) (hm : m ≤ 262144) (hV : 0 < V) (hm1 : m ≠ 1) :
    Calls Tryz.prog 94 #[.slice x n c, .slice y m e] w fun e w' => ∃ zq kq cq q zr kr cr r, e = .returned (.tuple #[.slice zq kq cq, .slice zr kr cr]) ∧ Below w.heap.size w w' ∧ Hid (kq ≤ n ∧ kr ≤ m ∧ Dn w' zq kq q (A / V) ∧ Dn w' zr kr r (A % V)) := by
  have HA := hid ha; have HB := hid hb
  clear ha hb
  have hmd : ((m : Int) == 1) = false := by simp; omega
  go_enter Tryz.func94, Tryz.ntmps94
  go_wp2_with (at_make; refine wpList_make_blk .u64 w rfl (.tmp 20) (.tmp 20) 23 rfl 74 8 Tryz.underlying23 Tryz.infoU64 .i64 .i64 n n n rfl rfl rfl rfl (by omega) (by unfold maxLen; omega) ?_; intro wa hba hbela)
  have HAa := hid (HA.out.below hbela); have HBa := hid (HB.out.below hbela)
  have HQ := hid hba; have HW := hid hbela
  clear hba hbela
  refine (rbits_c x n c f _ (by omega) HAa.out.rd HAa.out.dg).mono ?_
  rintro e w1 ⟨B, rfl, ⟨q0, hq⟩, HBt⟩
  have hb := drewN_bel hq
  have HQ1 := hid (HQ.out.below hb HQ.out.lt); have HW1 := hid (HW.out.trans (hb.mono HW.out.size))
  clear hq hb HQ HW HAa HBa
  have hB32 := HBt.out.1
  go_wp2
  go_loopw [7, 8] (fun u t wr => ∃ (k kr cr R Qv : Nat) (z : Option Addr) (d Q : Nat → Int), k ≤ B ∧ t = .int .i64 ((k : Int) - 1) ∧ u = .slice z kr cr ∧ Hid (Below w.heap.size w wr) ∧ Hid (Blk .u64 74 wr w.heap.size n Q) ∧ Hid (Dg Q n) ∧ Hid (Dn wr z kr d R) ∧ Hid (∀ a, z = some a → w.heap.size < a.block) ∧ Hid (R < V) ∧ Hid (vd Q n = ((Qv * 2 ^ k : Nat) : Int)) ∧ Hid (A / 2 ^ k = Qv * V + R)) (fun _ t _ => (intOf t + 1).toNat)
  case atStart =>
    refine ⟨B, 0, 0, 0, 0, none, fun _ => 0, fun _ => 0, by omega, rfl, rfl, HW1.out, HQ1.out, fun j _ => ⟨Int.le_refl 0, show (0 : Int) < 4294967296 by decide⟩, ⟨Rd.zero, fun j hj => by omega, .inl rfl, rfl⟩, (fun a h => by cases h), hV, hid (by rw [vd_zero (fun _ _ => rfl)]; simp), hid ?_⟩
    have h2 := HBt.out.2
    rw [HA.out.val] at h2
    rw [Nat.div_eq_of_lt (by exact_mod_cast h2)]; omega
  case round =>
    clear HQ1 HW1
    obtain ⟨k, kr, cr, R, Qv, z, d, Q, hk, rfl, rfl, HWr, HQr, HDg, HR, HO, HRV, HVq, HVa⟩ := hrel
    have HAr := hid (HA.out.below HWr.out); have HBr := hid (HB.out.below HWr.out)
    have hkr : kr ≤ m := HR.out.len HBr.out (Nat.le_of_lt HRV.out)
    cases k with
    | zero =>
      go_wp2_with fail
      refine (low_c (some ⟨w.heap.size, 0, none⟩) n n Q wr (Nat.le_refl _) (by omega) (HQr.out.rd0 (Nat.le_refl _)) (fun h => by cases h)).mono ?_
      rintro e w2 ⟨rfl, k1, hk1, hz, hfm, rfl⟩
      have HZ2 := hid hz; have HFM := hid hfm
      clear hz hfm
      go_wp2
      go_ret2
      have hA : A = Qv * V + R := by have := HVa.out; simpa using this
      obtain ⟨e1, e2⟩ := div_end hA HRV.out
      refine ⟨_, k1, _, Q, z, kr, cr, d, rfl, HWr.out, hk1, hkr, ⟨(HQr.out.rd0 (Nat.le_refl _)).take hk1, HDg.out.mono hk1, HFM.out, ?_⟩, by rw [e2]; exact HR.out⟩
      rw [trim_vald hk1 HZ2.out, HVq.out, e1]; simp
    | succ k =>
      have hkb : k < 32 * n := by have := HBt.out.1; omega
      obtain ⟨β, hβ⟩ : ∃ β, A / 2 ^ k % 2 = β := ⟨_, rfl⟩
      have hβ1 : β < 2 := by rw [← hβ]; exact Nat.mod_lt _ (by decide)
      have HBe := hid hβ
      have CB := hid (show ∀ W, Below wr.heap.size wr W → Calls Tryz.prog 103 #[.slice x n c, .int .i64 (k : Int)] W fun e w' => e = .returned (.int .u64 (β : Int)) ∧ w' = W from fun W hW => (rbit_c x n c f k W (by omega) (HAr.out.below hW).rd HAr.out.dg hkb).mono (fun e w' ⟨h1, h2⟩ => ⟨by rw [h1, HAr.out.val, ← hβ]; simp, h2⟩))
      clear hβ
      go_wp2_with fail
      refine (dAddO_c HR.out HR.out (by omega) (by omega)).mono ?_
      rintro e w2 ⟨z2, k2, c2, d2, rfl, hb2, H2⟩
      have HB2 := hid hb2
      clear hb2
      go_wp2_with fail
      refine (CB.out _ HB2.out).mono ?_
      rintro e w3 ⟨rfl, rfl⟩
      go_wp2_with fail
      refine (dWord_c (V := β) (by omega)).mono ?_
      rintro e w4 ⟨z4, k4, c4, d4, rfl, hb4, H4⟩
      have HB4 := hid hb4
      clear hb4
      have hk2 := H2.out.1; have hk4 := H4.out.1
      go_wp2_with fail
      refine (dAddO_c (H2.out.2.1.below HB4.out) H4.out.2 (by omega) (by omega)).mono ?_
      rintro e w5 ⟨z5, k5, c5, d5, rfl, hb5, H5⟩
      have HB5 := hid (HB2.out.trans ((HB4.out.mono HB2.out.size).trans (hb5.mono (Nat.le_trans HB2.out.size HB4.out.size))))
      have hk5 := H5.out.1
      have HO5 : Hid (∀ a, z5 = some a → w.heap.size < a.block) := fun a ha => by
        have h1 := H5.out.2.2 a ha; have h2 := HB2.out.size; have h3 := HB4.out.size; have h4 := HQr.out.lt; omega
      clear hb5 HB2 HB4 H2 H4 CB
      go_wp2_with fail
      refine (rcmp_c z5 y k5 m c5 e d5 g _ (by omega) (by omega) H5.out.2.1.rd (HBr.out.below HB5.out).rd H5.out.2.1.dg HBr.out.dg H5.out.2.1.fm HBr.out.fm).mono ?_
      rintro e w6 ⟨⟨q6, hq6⟩, cc, rfl, hord⟩
      have hb6 := drewN_bel hq6
      rw [H5.out.2.1.val, HBr.out.val] at hord
      have HB6 := hid (HB5.out.trans (hb6.mono HB5.out.size)); have H6 := hid (H5.out.2.1.below hb6)
      clear hq6 hb6 HB5 H5
      by_cases hge : V ≤ R + R + β
      · have hsg : decide ((0 : Int) ≤ cc) = true := by
          rcases hord with ⟨h1, h2⟩ | ⟨h1, h2⟩ | ⟨h1, h2⟩ <;> subst h1 <;> first | rfl | (exfalso; omega)
        clear hord
        go_wp2_with fail
        refine (dSubO_c H6.out (HBr.out.below HB6.out) (by omega) (by omega) hge).mono ?_
        rintro e w7 ⟨z7, k7, c7, d7, rfl, hb7, H7⟩
        have HB7 := hid (HB6.out.trans (hb7.mono HB6.out.size))
        have HO7 : Hid (∀ a, z7 = some a → w.heap.size < a.block) := fun a ha => by
          have h1 := H7.out.2.2 a ha; have h2 := HB6.out.size; have h4 := HQr.out.lt; omega
        clear hb7 HB6 H6 hsg
        obtain ⟨j, s, hjs, hs⟩ : ∃ j s, k = 32 * j + s ∧ s ≤ 31 := ⟨k / 32, k % 32, by omega, by omega⟩
        have hj : j < n := by omega
        have HQ7 := hid (HQr.out.below HB7.out HQr.out.lt)
        obtain ⟨u, hu⟩ : ∃ u, Q j = u := ⟨_, rfl⟩
        have hcell := HQ7.out.cell hj
        have hfz := HQ7.out.frozen j
        obtain ⟨u0, u1⟩ := HDg.out j hj
        have hpow : ((Qv * 2 ^ (k + 1) : Nat) : Int) = (Qv : Int) * (2 ^ (s + 1) * pd j) := by
          rw [pd_pow, ← Int.pow_add, hjs, show s + 1 + 32 * j = 32 * j + s + 1 by omega]; simp
        have hroom := bit_room HDg.out hj hs (HVq.out.trans hpow)
        rw [hu] at hcell u0 u1 hroom
        have hp0 := p2_pos s
        have hp1 := p2_le hs
        obtain ⟨P, hP⟩ : ∃ P : Int, 2 ^ s = P := ⟨_, rfl⟩
        rw [hP] at hp0 hp1 hroom
        have z1 : (k : Int) ≤ 67108927 := by omega
        have h3 : Int.tdiv (k : Int) 32 = (j : Int) := by rw [Int.tdiv_eq_ediv_of_nonneg (by omega)]; omega
        have h4 : Int.tmod (k : Int) 32 = (s : Int) := by rw [Int.tmod_eq_emod_of_nonneg (by omega)]; omega
        have h5 : IntKind.u64.wrap (2 ^ s) = P := by rw [hP, IntKind.wrap_u64]; omega
        have h6 : k / 32 = j := by omega
        have h7 : k % 32 = s := by omega
        have h8 : (k : Int) / 32 = (j : Int) := by omega
        have h9 : (k : Int) % 32 = (s : Int) := by omega
        have HU := hid hu; have HP := hid hP; have HJS := hid hjs
        clear hu hP hpow hjs
        go_wp2_with fail
        go_region
        all_goals go_wp2
        go_roundw
        case rel =>
          refine ⟨k, k7, c7, R + R + β - V, 2 * Qv + 1, z7, d7, upd Q j (u + P), by omega, by go_num, rfl, below_only (HWr.out.trans (HB7.out.mono HWr.out.size)) (((Only.refl _ _).setCell _ _ _).drew) (Nat.le_refl _) (Nat.le_trans HWr.out.size HB7.out.size), (HQ7.out.set _ _).drew, HDg.out.upd ⟨by omega, hroom⟩, (H7.out.2.1.setq HO7.out).drew, HO7.out, hid ?_, hid ?_, hid (div_next1 HVa.out HBe.out hge)⟩
          · have := HRV.out; omega
          · rw [vd_upd hj, HVq.out, HU.out, ← HP.out, pd_pow, show u + 2 ^ s - u = (2 : Int) ^ s by omega, ← Int.pow_add, show s + 32 * j = k by have := HJS.out; omega, Nat.pow_succ]
            push_cast
            grind
        case measure => simp [intOf]
      · have hsg : decide ((0 : Int) ≤ cc) = false := by
          rcases hord with ⟨h1, h2⟩ | ⟨h1, h2⟩ | ⟨h1, h2⟩ <;> subst h1 <;> first | rfl | (exfalso; omega)
        clear hord
        go_wp2
        go_roundw
        case rel =>
          refine ⟨k, k5, c5, R + R + β, 2 * Qv, z5, d5, Q, by omega, by go_num, rfl, HWr.out.trans (HB6.out.mono HWr.out.size), HQr.out.below HB6.out HQr.out.lt, HDg.out, H6.out, HO5.out, hid (by omega), hid ?_, hid (div_next0 HVa.out HBe.out)⟩
          rw [HVq.out, Nat.pow_succ]; push_cast; grind
        case measure => simp [intOf]

set_option maxRecDepth 100000 in
set_option maxHeartbeats 2000000 in
theorem rdivS_c {w : World} {x : Option Addr} {n c : Nat} {f : Nat → Int} {A : Nat} {y : Option Addr} {e : Nat} {g : Nat → Int} {V : Nat} (ha : Dn w x n f A) (hb : Dn w y 1 g V) (hn : n ≤ 262144) :
    Calls Tryz.prog 94 #[.slice x n c, .slice y 1 e] w fun e w' => ∃ zq kq cq q zr kr cr r, e = .returned (.tuple #[.slice zq kq cq, .slice zr kr cr]) ∧ Below w.heap.size w w' ∧ Hid (kq ≤ n ∧ kr ≤ 1 ∧ Dn w' zq kq q (A / V) ∧ Dn w' zr kr r (A % V)) := by
  obtain ⟨b, o, rfl⟩ := hb.rd.at (by omega)
  have hcell := hb.rd.cell (j := 0) (by omega)
  obtain ⟨t0, t1⟩ := hb.dg 0 (by omega)
  have hv := hb.val
  have hne : g 0 ≠ 0 := by rcases hb.fm with h | h; omega; exact h
  obtain ⟨t, ht⟩ : ∃ t, g 0 = t := ⟨_, rfl⟩
  have hv1 : vd g 1 = g 0 := by simp [vd, pd]
  rw [hv1] at hv
  rw [ht] at hcell t0 t1 hv hne
  rw [Nat.add_zero] at hcell
  have HA := hid ha; have HV := hid hv
  clear ha hb ht hv hv1
  go_enter Tryz.func94, Tryz.ntmps94
  go_wp2_with fail
  refine (short_c x n c f t _ (by omega) HA.out.rd HA.out.dg (by omega) t1).mono ?_
  rintro e w2 ⟨a1, k1, c1, q, a2, k2, c2, R, rfl, hb2, hk1, hr1, hd1, hf1, hk2, hr2, hx2, hf2, hR0, hR1, hval⟩
  have hq0 := vd_nonneg hd1
  have hres : Hid (k1 ≤ n ∧ k2 ≤ 1 ∧ Dn w2 a1 k1 q (A / V) ∧ Dn w2 a2 k2 (fun _ => R) (A % V)) := by
    obtain ⟨Q, hQ⟩ : ∃ Q : Nat, vd q k1 = Q := ⟨(vd q k1).toNat, by omega⟩
    obtain ⟨r, hr⟩ : ∃ r : Nat, R = r := ⟨R.toNat, by omega⟩
    have e1 : A = Q * V + r := by
      rw [HA.out.val, hQ, hr, HV.out] at hval
      exact_mod_cast hval
    obtain ⟨e2, e3⟩ := div_end e1 (by have := HV.out; omega)
    refine ⟨hk1, hk2, ⟨hr1, hd1, hf1, by rw [hQ, e2]⟩, ⟨hr2, fun j hj => ⟨hR0, by omega⟩, hf2, ?_⟩⟩
    rw [e3]
    rcases (show k2 = 0 ∨ k2 = 1 by omega) with h | h
    · subst h; have := hx2 rfl; simp [vd]; omega
    · subst h; simp [vd, pd]; exact hr
  have HB2 := hid hb2
  clear hb2 hr1 hd1 hf1 hr2 hx2 hf2 hval hq0
  go_wp2
  go_ret2
  exact ⟨a1, k1, c1, q, a2, k2, c2, _, rfl, HB2.out, hres.out⟩

theorem rdiv_c {w : World} {x : Option Addr} {n c : Nat} {f : Nat → Int} {A : Nat} {y : Option Addr} {m e : Nat} {g : Nat → Int} {V : Nat} (ha : Dn w x n f A) (hb : Dn w y m g V) (hn : n ≤ 262144) (hm : m ≤ 262144) (hV : 0 < V) :
    Calls Tryz.prog 94 #[.slice x n c, .slice y m e] w fun e w' => ∃ zq kq cq q zr kr cr r, e = .returned (.tuple #[.slice zq kq cq, .slice zr kr cr]) ∧ Below w.heap.size w w' ∧ Hid (kq ≤ n ∧ kr ≤ m ∧ Dn w' zq kq q (A / V) ∧ Dn w' zr kr r (A % V)) := by
  by_cases h1 : m = 1
  · subst h1; exact rdivS_c ha hb hn
  · exact rdivL_c ha hb hn hm hV h1
end Go.Proofs.YthofcgpghbaccaaGreat
namespace Go.Proofs.YthofcgpghbaccaaGreat
open Go.RowKit

theorem pow_z {z : Int} (z0 : 0 ≤ z) : (2 : Int) ^ (z % 64).toNat * pw (z / 64).toNat = 2 ^ z.toNat := by
  rw [pw_pow, ← Int.pow_add]; congr 1; omega
theorem pow_zd {z : Int} (z0 : 0 ≤ z) : (2 : Int) ^ (z % 32).toNat * pd (z / 32).toNat = 2 ^ z.toNat := by
  rw [pd_pow, ← Int.pow_add]; congr 1; omega

set_option maxRecDepth 100000 in
set_option maxHeartbeats 2000000 in
/-- Shl of the reference: a * 2^(32 * o + s), on digits. -/
theorem rshl_c (ao : Option Addr) (n ca o : Nat) (z s : Int) (f : Nat → Int) (w : World) (hn : n ≤ 1048576) (ho : o ≤ 1048576) (s0 : 0 ≤ s) (s1 : s ≤ 31) (hz : z = 32 * o + s) (hr : Rd .u64 w ao n f) (hf : Dg f n) :
    Calls Tryz.prog 90 #[.slice ao n ca, .int .i64 z] w fun e w' => ∃ ao' k cap' D, e = .returned (.slice ao' k cap') ∧ Below w.heap.size w w' ∧ Rd .u64 w' ao' k D ∧ k ≤ o + n + 1 ∧ Dg D k ∧ Fm D k ∧ vd D k = vd f n * (2 ^ s.toNat * pd o) := by
  have HF := hid hf
  have HRd := hid hr
  clear hf hr
  have z0 : 0 ≤ z := by omega
  have z1 : z ≤ 67108927 := by omega
  have h1 : z / 32 = (o : Int) := by omega
  have h2 : z % 32 = s := by omega
  have h3 : Int.tdiv z 32 = (o : Int) := by rw [Int.tdiv_eq_ediv_of_nonneg z0]; exact h1
  have h4 : Int.tmod z 32 = s := by rw [Int.tmod_eq_emod_of_nonneg z0]; exact h2
  clear hz
  by_cases hn0 : n = 0
  · subst hn0
    go_enter Tryz.func90, Tryz.ntmps90
    go_wp2
    go_ret
    exact ⟨none, 0, 0, f, rfl, Below.refl _ _, Rd.zero, by omega, fun j hj => by omega, .inl rfl, by simp [vd]⟩
  · have hnz : ((n : Int) == 0) = false := by simp; omega
    have p0 : (0 : Int) < 2 ^ s.toNat := Int.pow_pos (by decide)
    have p1 : (2 : Int) ^ s.toNat ≤ 2147483648 := by
      have : (2 : Int) ^ s.toNat * 2 ^ (31 - s).toNat = 2147483648 := by rw [← Int.pow_add, show s.toNat + (31 - s).toNat = 31 by omega]; rfl
      have q0 : (0 : Int) < 2 ^ (31 - s).toNat := Int.pow_pos (by decide)
      have := Int.mul_le_mul_of_nonneg_left (show (1 : Int) ≤ 2 ^ (31 - s).toNat by omega) (Int.le_of_lt p0)
      omega
    have P0 := hid p0
    have P1 := hid p1
    clear p0 p1
    go_enter Tryz.func90, Tryz.ntmps90
    go_wp2_with (at_make; refine wpList_make_two .u64 w rfl (.tmp 13) (.tmp 19) 23 rfl 74 8 Tryz.underlying23 Tryz.infoU64 .i64 .i64 _ _ o (o + n + 1) rfl rfl (by omega) (by omega) (by omega) (by omega) (by unfold maxLen; omega) ?_; intro w1 hb1 hbel1)
    have HO1 := hid (own_of_blk hb1 (base := w.heap.size) (n := o) (Nat.le_refl _) (by omega) (by unfold maxLen; omega))
    clear hb1
    go_loopw [5, 6, 23] (fun v c t wr => ∃ (k : Nat) (cc : Int) (D : Nat → Int), k ≤ n ∧ t = .int .i64 k ∧ c = .int .u64 cc ∧ 0 ≤ cc ∧ cc < 2147483648 ∧ Hid (cc < 2 ^ s.toNat) ∧ Below w.heap.size w wr ∧ Hid (Own .u64 74 wr w.heap.size v (o + k) D) ∧ Hid (Dg D (o + k)) ∧ Hid (vd D (o + k) + cc * pd (o + k) = vd f k * (2 ^ s.toNat * pd o))) (fun _ _ t _ => n - (intOf t).toNat)
    case atStart => exact ⟨0, 0, fun _ => 0, by omega, rfl, rfl, by omega, by omega, P0.out, hbel1, HO1.out, fun j hj => ⟨Int.le_refl 0, show (0 : Int) < 4294967296 by decide⟩, by simp [Hid, vd, vd_zero]⟩
    case round =>
      clear hbel1 HO1
      obtain ⟨k, cc, D, hk, rfl, rfl, c0, c1, HC, hbel, HO, HDg, HV⟩ := hrel
      by_cases hlt : k < n
      · have hrA := HRd.out
        obtain ⟨b, ob, rfl⟩ := hrA.at (by omega)
        obtain ⟨x, hx⟩ : ∃ x, f k = x := ⟨_, rfl⟩
        have hcell : wr.cell? ⟨b, ob + k, none⟩ = some (.int .u64 x) := by rw [← hx]; exact (hrA.below hbel (Nat.le_refl _)).cell hlt
        obtain ⟨x0, x1⟩ := HF.out k hlt
        rw [hx] at x0 x1
        have HX := hid hx
        clear hx hrA
        obtain ⟨d1, d2, d3, d4, d5⟩ := dshl_carry c0 HC.out x0 x1 P0.out
        obtain ⟨X, eX, HXe⟩ : ∃ X, IntKind.u64.wrap (x * 2 ^ s.toNat) = X ∧ Hid (X = x * 2 ^ s.toNat) := ⟨x * 2 ^ s.toNat, by have := P1.out; rw [IntKind.wrap_u64]; omega, rfl⟩
        have X0 : 0 ≤ X := by rw [HXe.out]; exact d4
        have X1 : X < 9223372036854775808 := by have := P1.out; rw [HXe.out]; omega
        have HD3 := hid d3
        clear d1 d2 d3 d4 d5
        go_wp2_with (at_builtin; refine wpList_append_own_list .u64 _ rfl (.tmp 33) (.tmp 36) 23 rfl w.heap.size 74 8 Tryz.underlying23 Tryz.infoU64 _ (o + k) D rfl (Own.alloc HO.out _) wr.heap.size 0 1 1 (fun _ => (cc + X) % 4294967296) rfl (rd_new1 wr _ _) ?c1 ?c2 ?c3 ?_)
        case c1 => unfold maxLen; omega
        case c2 => omega
        case c3 => have := hbel.size; simp; omega
        intro v' w' hown hgr
        have hbel2 : Below w.heap.size w w' := (hbel.alloc hbel.size _).grown hgr (by have := hbel.size; simp; omega) (fun k h => (Own.ge HO.out k h))
        have HO2 := hid hown
        clear hown hgr HO
        go_wp2
        go_roundw
        case rel =>
          refine ⟨k + 1, _, _, by omega, by go_num, rfl, by omega, ?_, ?_, hbel2, HO2.out, dg_cat1 HDg.out (by omega), ?_⟩
          · have h5 := HD3.out; have h6 := P1.out; rw [← HXe.out] at h5; omega
          · have h5 := HD3.out; rw [← HXe.out] at h5; exact h5
          · have h5 := dshl_step HV.out HX.out
            rw [← HXe.out] at h5; exact h5
        case measure => simp [intOf]; omega
      · have hkn : k = n := by omega
        subst hkn
        go_wp2_with (at_builtin; refine wpList_append_own_list .u64 _ rfl (.tmp 41) (.tmp 43) 23 rfl w.heap.size 74 8 Tryz.underlying23 Tryz.infoU64 _ (o + k) D rfl (Own.alloc HO.out _) wr.heap.size 0 1 1 (fun _ => cc) rfl (rd_new1 wr _ _) ?c1 ?c2 ?c3 ?_)
        case c1 => unfold maxLen; omega
        case c2 => omega
        case c3 => have := hbel.size; simp; omega
        intro v' w' hown hgr
        have hbel2 : Below w.heap.size w w' := (hbel.alloc hbel.size _).grown hgr (by have := hbel.size; simp; omega) (fun k h => (Own.ge HO.out k h))
        obtain ⟨ao', cap', hv, hcc, hnn, hml, hrd, hlt3⟩ := Own.shape hown
        unfold maxLen at hml
        subst hv
        clear hown hgr HO hlt3
        go_wp2_with fail
        refine (low_c ao' (o + k + 1) cap' (cat D (o + k) (fun _ => cc)) w' hcc hml hrd hnn).mono ?_
        rintro e w2 ⟨rfl, m', hm1, hz, hfm, rfl⟩
        have HZ := hid hz
        have HFM := hid hfm
        clear hz hfm
        go_wp2
        go_ret
        refine ⟨ao', m', cap', _, rfl, hbel2, hrd.take hm1, by omega, (dg_cat1 HDg.out (by omega)).mono hm1, HFM.out, ?_⟩
        rw [trim_vald hm1 HZ.out, vd_cat1, HV.out]

end Go.Proofs.YthofcgpghbaccaaGreat
namespace Go.Proofs.YthofcgpghbaccaaGreat
open Go.RowKit

theorem two_cop {b : Nat} (h : b % 2 = 1) : Nat.Coprime 2 b := by
  unfold Nat.Coprime
  have h1 : Nat.gcd 2 b ∣ 2 := Nat.gcd_dvd_left _ _
  have h2 : Nat.gcd 2 b ∣ b := Nat.gcd_dvd_right _ _
  have h3 := Nat.le_of_dvd (by decide) h1
  have h4 : Nat.gcd 2 b ≠ 0 := by intro h; rw [h] at h1; simp at h1
  rcases (show Nat.gcd 2 b = 1 ∨ Nat.gcd 2 b = 2 by omega) with h5 | h5
  · exact h5
  · rw [h5] at h2; omega
theorem gcd_half2 {a b : Nat} (ha : a % 2 = 0) (hb : b % 2 = 0) : Nat.gcd a b = Nat.gcd (a / 2) (b / 2) * 2 := by
  rw [← Nat.gcd_mul_right, show a / 2 * 2 = a by omega, show b / 2 * 2 = b by omega]
theorem gcd_halfl {a b : Nat} (ha : a % 2 = 0) (hb : b % 2 = 1) : Nat.gcd (a / 2) b = Nat.gcd a b := by
  have := Nat.Coprime.gcd_mul_left_cancel (a / 2) (two_cop hb)
  rw [show 2 * (a / 2) = a by omega] at this
  exact this.symm
theorem gcd_halfr {a b : Nat} (ha : a % 2 = 1) (hb : b % 2 = 0) : Nat.gcd a (b / 2) = Nat.gcd a b := by
  rw [Nat.gcd_comm, gcd_halfl hb ha, Nat.gcd_comm]
theorem gcd_take {a b : Nat} (h : b ≤ a) : Nat.gcd (a - b) b = Nat.gcd a b := by
  have := Nat.gcd_add_self_left b (a - b)
  rw [Nat.sub_add_cancel h] at this
  exact this.symm
/-- The number that digits in memory tell. -/
noncomputable def dOf (w : World) (v : Value) : Nat := match v with
  | .slice (some a) k _ => (vd (fun j => match w.cell? ⟨a.block, a.off + j, none⟩ with | some (.int _ z) => z | _ => 0) k).toNat
  | _ => 0
theorem Dn.dOf {w x n c d V} (h : Dn w x n d V) : dOf w (.slice x n c) = V := by
  rcases Nat.eq_zero_or_pos n with h0 | h0
  · subst h0
    rw [h.zero]
    cases x <;> rfl
  · obtain ⟨b, o, rfl⟩ := h.rd.at h0
    have e : vd (fun j => match w.cell? ⟨b, o + j, none⟩ with | some (.int _ z) => z | _ => 0) n = vd d n := vd_congr (fun j hj => by
      have := h.rd.cell hj
      simp only [this])
    show (vd _ n).toNat = V
    rw [e, h.val]; simp
/-- The lowest digit tells whether a number is even. -/
theorem Dn.par {w x n d V} (h : Dn w x n d V) (hn : 0 < n) : (d 0 % 2 = 0 ↔ V % 2 = 0) := by
  obtain ⟨m, rfl⟩ : ∃ m, n = m + 1 := ⟨n - 1, by omega⟩
  have h1 := vd_cons d 0 m
  rw [sh_zero, h.val] at h1
  omega
/-- Half of a number, digit by digit. -/
theorem half_step {D f : Nat → Int} {k : Nat} {b0 b b' v : Int} (h : 2 * vd D k = vd f k - b0 + b * pd k) (hv : 2 * v = f k - b + b' * 4294967296) (D' : Nat → Int) (hD : ∀ j, j < k → D' j = D j) (hk : D' k = v) : 2 * vd D' (k + 1) = vd f (k + 1) - b0 + b' * pd (k + 1) := by
  rw [vd_succ, vd_succ, pd_succ, vd_congr hD, hk]
  grind

set_option maxRecDepth 100000 in
set_option maxHeartbeats 2000000 in
theorem rhalf_c {w : World} {x : Option Addr} {n c : Nat} {f : Nat → Int} {A : Nat} (ha : Dn w x n f A) (hn : n ≤ 1048576) (hA : A % 2 = 0) (hA0 : 0 < A) :
    Calls Tryz.prog 87 #[.slice x n c] w fun e w' => ∃ z k c' d, e = .returned (.slice z k c') ∧ Below w.heap.size w w' ∧ Hid (k ≤ n ∧ Dn w' z k d (A / 2)) := by
  have hn0 := ha.pos hA0
  have hpar := (ha.par hn0).2 hA
  have HA := hid ha; have HPar := hid hpar
  clear ha hpar
  go_enter Tryz.func87, Tryz.ntmps87
  go_wp2_with (at_make; refine wpList_make_blk .u64 w rfl (.tmp 7) (.tmp 7) 23 rfl 74 8 Tryz.underlying23 Tryz.infoU64 .i64 .i64 n n n rfl rfl rfl rfl (by omega) (by unfold maxLen; omega) ?_; intro wa hba hbela)
  go_loopw [11] (fun t wr => ∃ (k : Nat) (Q : Nat → Int), k ≤ n ∧ t = .int .i64 k ∧ Below w.heap.size w wr ∧ Blk .u64 74 wr w.heap.size n Q ∧ Hid (Dg Q n) ∧ Hid (2 * vd Q k = vd f k - f 0 % 2 + (ext f n k % 2) * pd k)) (fun t _ => n - (intOf t).toNat)
  case atStart => exact ⟨0, fun _ => 0, by omega, rfl, hbela, hba, fun j _ => ⟨Int.le_refl 0, show (0 : Int) < 4294967296 by decide⟩, hid (by rw [ext_in _ _ _ hn0]; simp [vd, pd]; omega)⟩
  case round =>
    clear hba hbela
    obtain ⟨k, Q, hk, rfl, hbel, hbl, HDg, HV⟩ := hrel
    by_cases hlt : k < n
    · have hr := HA.out.rd
      obtain ⟨b, o, rfl⟩ := hr.at (by omega)
      obtain ⟨y, hy⟩ : ∃ y, f k = y := ⟨_, rfl⟩
      have hcell : wr.cell? ⟨b, o + k, none⟩ = some (.int .u64 y) := by rw [← hy]; exact (hr.below hbel (Nat.le_refl _)).cell hlt
      obtain ⟨y0, y1⟩ := HA.out.dg k hlt
      rw [hy] at y0 y1
      have hcz := hbl.cell (j := k) hlt
      have hfz := hbl.frozen k
      have hbb : b ≠ w.heap.size := by have := hr.und (by omega) _ rfl; simp at this; omega
      have HX := hid (show ext f n k = y from (ext_in _ _ _ hlt).trans hy)
      have HY := hid hy
      by_cases hlt2 : k + 1 < n
      · obtain ⟨u, hu⟩ : ∃ u, f (k + 1) = u := ⟨_, rfl⟩
        have hcelu : wr.cell? ⟨b, o + (k + 1), none⟩ = some (.int .u64 u) := by rw [← hu]; exact (hr.below hbel (Nat.le_refl _)).cell hlt2
        obtain ⟨u0, u1⟩ := HA.out.dg (k + 1) hlt2
        rw [hu] at u0 u1
        have HU := hid (show ext f n (k + 1) = u from (ext_in _ _ _ hlt2).trans hu)
        obtain ⟨s, hs⟩ : ∃ s, y / 2 + u % 2 * 2147483648 = s := ⟨_, rfl⟩
        have hst := half_step (D' := upd (upd Q k (y / 2)) k s) (v := s) (b' := u % 2) HV.out (by rw [HX.out, hy]; omega) (fun j hj => by rw [upd_other _ _ _ _ (by omega), upd_other _ _ _ _ (by omega)]) (upd_same _ _ _)
        have HSt := hid hst; have HS := hid hs
        have hbl2 := hbl.set k (y / 2)
        have hcz2 := hbl2.cell (j := k) hlt
        rw [upd_same] at hcz2
        have hfz2 := hbl2.frozen k
        have hcu2 : (wr.setCell ⟨w.heap.size, k, none⟩ (.int .u64 (y / 2))).cell? ⟨b, o + (k + 1), none⟩ = some (.int .u64 u) := by
          rw [World.cell?_setCell_other _ _ _ _ (fun he => hbb (congrArg Addr.block he).symm)]; exact hcelu
        have HBl := hid hbl2
        clear hst hy hu hr hbl2 hs
        go_wp2_with fail
        go_region
        all_goals go_wp2
        go_roundw
        case rel =>
          refine ⟨k + 1, _, by omega, by go_num, ?_, (HBl.out.set _ _).drew, (HDg.out.upd ⟨?_, ?_⟩).upd ⟨?_, ?_⟩, hid ?_⟩
          · exact below_only hbel ((((Only.refl _ _).setCell _ _ _).setCell _ _ _).drew) (Nat.le_refl _) hbel.size
          · omega
          · omega
          · omega
          · omega
          · rw [HU.out]; have e := HSt.out; rw [← HS.out] at e; exact e
        case measure => simp [intOf]; omega
      · have HU := hid (show ext f n (k + 1) = 0 from ext_out _ _ _ (by omega))
        have hst := half_step (D' := upd Q k (y / 2)) (v := y / 2) (b' := 0) HV.out (by rw [HX.out, hy]; omega) (fun j hj => by rw [upd_other _ _ _ _ (by omega)]) (upd_same _ _ _)
        have HSt := hid hst
        clear hst hy hr
        go_wp2
        go_roundw
        case rel =>
          refine ⟨k + 1, _, by omega, by go_num, ?_, hbl.set _ _, HDg.out.upd ⟨?_, ?_⟩, hid ?_⟩
          · exact below_only hbel ((Only.refl _ _).setCell _ _ _) (Nat.le_refl _) hbel.size
          · omega
          · omega
          · rw [HU.out]; exact HSt.out
        case measure => simp [intOf]; omega
    · obtain rfl : k = n := by omega
      go_wp2_with fail
      refine (low_c (some ⟨w.heap.size, 0, none⟩) k k Q wr (Nat.le_refl _) (by omega) (hbl.rd0 (Nat.le_refl _)) (fun h => by cases h)).mono ?_
      rintro e w2 ⟨rfl, k1, hk1, hz, hfm, rfl⟩
      have HZ2 := hid hz; have HFM := hid hfm
      clear hz hfm
      go_wp2
      go_ret
      refine ⟨_, k1, _, Q, rfl, hbel, hk1, (hbl.rd0 (Nat.le_refl _)).take hk1, HDg.out.mono hk1, HFM.out, ?_⟩
      rw [trim_vald hk1 HZ2.out]
      have h1 := HV.out
      rw [ext_out _ _ _ (Nat.le_refl _), HPar.out, HA.out.val] at h1
      omega
end Go.Proofs.YthofcgpghbaccaaGreat
namespace Go.Proofs.YthofcgpghbaccaaGreat
open Go.RowKit

theorem twos_few {w x n d A} {a k : Nat} (h : Dn w x n d A) (ha : a * 2 ^ k = A) (h0 : 0 < a) : k < 32 * n := by
  have h1 := vd_lt h.dg
  rw [h.val, pd_pow] at h1
  have h2 : A < 2 ^ (32 * n) := by exact_mod_cast h1
  apply Nat.lt_of_not_le; intro hge
  have h3 : 2 ^ (32 * n) ≤ 2 ^ k := Nat.pow_le_pow_right (by decide) hge
  have h4 : 1 * 2 ^ k ≤ a * 2 ^ k := Nat.mul_le_mul_right _ h0
  omega
theorem half_half {a k A : Nat} (h : a * 2 ^ k = A) (ha : a % 2 = 0) : a / 2 * 2 ^ (k + 1) = A := by
  rw [Nat.pow_succ, ← h]
  have : a = a / 2 * 2 := by omega
  generalize a / 2 = u at *
  subst this
  rw [Nat.mul_assoc, Nat.mul_comm (2 ^ k) 2]
theorem par_dec {z : Int} {v : Nat} (h : (z % 2 = 0 ↔ v % 2 = 0)) (hv : v % 2 = 1) : ¬ (z % 2 = 0) := fun e => by have := h.1 e; omega

set_option maxRecDepth 100000 in
set_option maxHeartbeats 8000000 in
theorem rgcd_c {w : World} {x : Option Addr} {n c : Nat} {f : Nat → Int} {A : Nat} {y : Option Addr} {m e : Nat} {g : Nat → Int} {B : Nat} (ha : Dn w x n f A) (hb : Dn w y m g B) (hn : n ≤ 262144) (hm : m ≤ 262144) :
    Calls Tryz.prog 64 #[.slice x n c, .slice y m e] w fun e w' => ∃ z k c' d, e = .returned (.slice z k c') ∧ Below w.heap.size w w' ∧ Hid (k ≤ n + m ∧ Dn w' z k d (Nat.gcd A B)) := by
  by_cases hn0 : n = 0
  · subst hn0
    have hA := ha.zero
    have HB := hid hb; have HA0 := hid hA
    clear ha hb hA
    go_enter Tryz.func64, Tryz.ntmps64
    go_wp2
    go_ret
    exact ⟨y, m, e, g, rfl, Below.refl _ _, by omega, by rw [HA0.out, Nat.gcd_zero_left]; exact HB.out⟩
  by_cases hm0 : m = 0
  · subst hm0
    have hB := hb.zero
    have HA := hid ha; have HB0 := hid hB
    have hnd : ((n : Int) == 0) = false := by simp; omega
    clear ha hb hB
    go_enter Tryz.func64, Tryz.ntmps64
    go_wp2
    go_ret
    exact ⟨x, n, c, f, rfl, Below.refl _ _, by omega, by rw [HB0.out, Nat.gcd_zero_right]; exact HA.out⟩
  have hnd : ((n : Int) == 0) = false := by simp; omega
  have hmd : ((m : Int) == 0) = false := by simp; omega
  have HAp := hid (ha.pos' (by omega)); have HBp := hid (hb.pos' (by omega))
  have HA := hid ha; have HB := hid hb
  clear ha hb
  go_enter Tryz.func64, Tryz.ntmps64
  go_wp2
  go_loopw [0, 1, 5] (fun u v t wr => ∃ (za : Option Addr) (na ca a : Nat) (fa : Nat → Int) (zb : Option Addr) (nb cb b : Nat) (fb : Nat → Int) (k : Nat), u = .slice za na ca ∧ v = .slice zb nb cb ∧ t = .int .i64 (k : Int) ∧ na ≤ n ∧ nb ≤ m ∧ k ≤ 32 * n ∧ Hid (Below w.heap.size w wr) ∧ Hid (Dn wr za na fa a) ∧ Hid (Dn wr zb nb fb b) ∧ Hid (0 < a ∧ 0 < b ∧ a * 2 ^ k = A ∧ Nat.gcd a b * 2 ^ k = Nat.gcd A B)) (fun _ _ t _ => 32 * n + 1 - (intOf t).toNat)
  case atStart => exact ⟨x, n, c, A, f, y, m, e, B, g, 0, rfl, rfl, rfl, by omega, by omega, by omega, Below.refl _ _, HA.out, HB.out, HAp.out, HBp.out, by simp, by simp⟩
  case round =>
    obtain ⟨za, na, ca, a, fa, zb, nb, cb, b, fb, k, rfl, rfl, rfl, hna, hnb, hk, HW, HDa, HDb, HV⟩ := hrel
    have hna0 := HDa.out.pos HV.out.1
    have hnb0 := HDb.out.pos HV.out.2.1
    have hkk := twos_few HA.out HV.out.2.2.1 HV.out.1
    obtain ⟨ba, oa, rfl⟩ := HDa.out.rd.at hna0
    obtain ⟨bb, ob, rfl⟩ := HDb.out.rd.at hnb0
    have hca := HDa.out.rd.cell hna0
    have hcb := HDb.out.rd.cell hnb0
    obtain ⟨xa, hxa⟩ : ∃ t, fa 0 = t := ⟨_, rfl⟩
    obtain ⟨xb, hxb⟩ : ∃ t, fb 0 = t := ⟨_, rfl⟩
    obtain ⟨xa0, xa1⟩ := HDa.out.dg 0 hna0
    obtain ⟨xb0, xb1⟩ := HDb.out.dg 0 hnb0
    have hpa := HDa.out.par hna0
    have hpb := HDb.out.par hnb0
    rw [hxa] at hca xa0 xa1 hpa
    rw [hxb] at hcb xb0 xb1 hpb
    rw [Nat.add_zero] at hca hcb
    clear hxa hxb
    by_cases hev : a % 2 = 0 ∧ b % 2 = 0
    · have hea : xa % 2 = 0 := hpa.2 hev.1
      have heb : xb % 2 = 0 := hpb.2 hev.2
      have HE := hid hev
      clear hev hpa hpb
      go_wp2_with fail
      refine (rhalf_c HDa.out (by omega) HE.out.1 HV.out.1).mono ?_
      rintro e w2 ⟨z2, k2, c2, d2, rfl, hb2, H2⟩
      have HB2 := hid hb2
      clear hb2
      go_wp2_with fail
      refine (rhalf_c (HDb.out.below HB2.out) (by omega) HE.out.2 HV.out.2.1).mono ?_
      rintro e w3 ⟨z3, k3, c3, d3, rfl, hb3, H3⟩
      have HB3 := hid hb3
      have hk2 := H2.out.1; have hk3 := H3.out.1
      clear hb3
      go_wp2
      go_roundw
      case rel =>
        refine ⟨z2, k2, c2, a / 2, d2, z3, k3, c3, b / 2, d3, k + 1, rfl, rfl, by go_num, by omega, by omega, by omega, HW.out.trans ((HB2.out.trans (HB3.out.mono HB2.out.size)).mono HW.out.size), H2.out.2.below HB3.out, H3.out.2, ?_, ?_, half_half HV.out.2.2.1 HE.out.1, ?_⟩
        · have := HE.out; have := HV.out.1; omega
        · have := HE.out; have := HV.out.2.1; omega
        · rw [← HV.out.2.2.2, gcd_half2 HE.out.1 HE.out.2, Nat.pow_succ, Nat.mul_assoc, Nat.mul_comm 2 (2 ^ k)]
      case measure => simp [intOf]; omega
    · have hodd : a % 2 = 1 ∨ b % 2 = 1 := by omega
      have HOd := hid hodd
      have hcase : (xa % 2 == 0) = false ∨ (xa % 2 = 0 ∧ (xb % 2 == 0) = false) := by
        by_cases h1 : xa % 2 = 0
        · right; refine ⟨h1, by simp; intro h2; exact hev ⟨hpa.1 h1, hpb.1 h2⟩⟩
        · exact .inl (by simp; exact h1)
      obtain ⟨g0, hg0⟩ : ∃ g0, Nat.gcd a b = g0 := ⟨_, rfl⟩
      have HG0 := hid hg0; have HG1 : Hid (g0 * 2 ^ k = Nat.gcd A B) := by rw [← hg0]; exact HV.out.2.2.2
      clear hev hpa hpb hodd hg0
      rcases hcase with hcd | ⟨hcd, hcd2⟩
      all_goals
        go_wp2
        go_loopw [0, 1] (fun u v wr => ∃ (za : Option Addr) (na ca a : Nat) (fa : Nat → Int) (zb : Option Addr) (nb cb b : Nat) (fb : Nat → Int), u = .slice za na ca ∧ v = .slice zb nb cb ∧ na ≤ n + m ∧ nb ≤ n + m ∧ Hid (Below w.heap.size w wr) ∧ Hid (Dn wr za na fa a) ∧ Hid (Dn wr zb nb fb b) ∧ Hid (0 < b ∧ (a % 2 = 1 ∨ b % 2 = 1) ∧ Nat.gcd a b = g0)) (fun u v wr => dOf wr u + dOf wr v)
        case atStart => exact ⟨_, na, ca, a, fa, _, nb, cb, b, fb, rfl, rfl, by omega, by omega, HW.out, HDa.out, HDb.out, HV.out.2.1, HOd.out, HG0.out⟩
        case round =>
          clear hcd HDa HDb HW hca hcb HOd HG0 HV
          obtain ⟨za, na, ca, a, fa, zb, nb, cb, b, fb, rfl, rfl, hna, hnb, HW, HDa, HDb, HV⟩ := hrel
          obtain ⟨wr1, hwr⟩ : ∃ x : World, x = wr := ⟨wr, rfl⟩; subst hwr
          by_cases hz : na = 0
          · subst hz
            have ha0 := HDa.out.zero
            have hbg : b = g0 := by have := HV.out.2.2; rw [ha0, Nat.gcd_zero_left] at this; exact this
            have HBG := hid hbg
            clear ha0 hbg
            go_wp2_with fail
            refine (rshl_c zb nb cb (k / 32) k ((k % 32 : Nat) : Int) fb _ (by omega) (by omega) (by omega) (by omega) (by omega) HDb.out.rd HDb.out.dg).mono ?_
            rintro e w9 ⟨z9, k9, c9, d9, rfl, hb9, hr9, hk9, hd9, hf9, hv9⟩
            have hdn : Dn w9 z9 k9 d9 (Nat.gcd A B) := ⟨hr9, hd9, hf9, by
              rw [hv9, HDb.out.val, HBG.out, ← HG1.out, pd_pow, ← Int.pow_add, show ((k % 32 : Nat) : Int).toNat + 32 * (k / 32) = k by omega]
              simp⟩
            have hle := hdn.len (HA.out.below (HW.out.trans (hb9.mono HW.out.size))) (Nat.le_of_dvd HAp.out (Nat.gcd_dvd_left _ _))
            have H9 := hid hdn; have HB9 := hid hb9
            clear hdn hb9 hr9 hd9 hf9 hv9
            go_wp2
            go_ret
            exact ⟨z9, k9, c9, d9, rfl, HW.out.trans (HB9.out.mono HW.out.size), by omega, H9.out⟩
          · have hz0 : 0 < na := by omega
            have hzd : decide (0 < na) = true := decide_eq_true hz0
            have ha0 := HDa.out.pos' (by omega)
            have HA0 := hid ha0
            clear ha0
            go_wp2
            go_loopw [0] (fun u wr => ∃ (zc : Option Addr) (nc cc c : Nat) (fc : Nat → Int), u = .slice zc nc cc ∧ nc ≤ n + m ∧ Hid (Below wr1.heap.size wr1 wr) ∧ Hid (Dn wr zc nc fc c) ∧ Hid (0 < c ∧ c ≤ a ∧ (c % 2 = 1 ∨ b % 2 = 1) ∧ Nat.gcd c b = g0)) (fun u wr => dOf wr u)
            case atStart => exact ⟨za, na, ca, a, fa, rfl, hna, Below.refl _ _, HDa.out, HA0.out, Nat.le_refl _, HV.out.2⟩
            case round =>
              obtain ⟨zc, nc, cc, c, fc, rfl, hnc, HW2, HDc, HV2⟩ := hrel
              obtain ⟨wr2, hwr⟩ : ∃ x : World, x = wr := ⟨wr, rfl⟩; subst hwr
              have hnc0 := HDc.out.pos HV2.out.1
              obtain ⟨bc, oc, rfl⟩ := HDc.out.rd.at hnc0
              have hcc := HDc.out.rd.cell hnc0
              obtain ⟨xc, hxc⟩ : ∃ t, fc 0 = t := ⟨_, rfl⟩
              obtain ⟨xc0, xc1⟩ := HDc.out.dg 0 hnc0
              have hpc := HDc.out.par hnc0
              rw [hxc] at hcc xc0 xc1 hpc
              rw [Nat.add_zero] at hcc
              clear hxc
              by_cases hec : c % 2 = 0
              · have hec' : xc % 2 = 0 := hpc.2 hec
                have HE := hid hec
                clear hec hpc
                go_wp2_with fail
                refine (rhalf_c HDc.out (by omega) HE.out HV2.out.1).mono ?_
                rintro e w4 ⟨z4, k4, c4, d4, rfl, hb4, H4⟩
                have HB4 := hid hb4
                have hk4 := H4.out.1
                clear hb4
                go_wp2
                go_roundw
                case rel =>
                  have h1 := HV2.out.1; have h2 := HV2.out.2.1; have h3 := HE.out; have h4 := HV2.out.2.2.1
                  exact ⟨z4, k4, c4, c / 2, d4, rfl, by omega, HW2.out.trans (HB4.out.mono HW2.out.size), H4.out.2, by omega, by omega, by omega, (gcd_halfl h3 (by omega)).trans HV2.out.2.2.2⟩
                case measure =>
                  show dOf w4 (.slice z4 k4 c4) < dOf wr2 (.slice _ nc cc)
                  rw [H4.out.2.dOf, HDc.out.dOf]
                  have := HV2.out.1; omega
              · have hec' : (xc % 2 == 0) = false := by simp; intro h; exact hec (hpc.1 h)
                have HE := hid (show c % 2 = 1 by omega)
                clear hec hpc
                have HDb2 := hid (HDb.out.below HW2.out)
                go_wp2
                go_loopw [1] (fun v wr => ∃ (ze : Option Addr) (ne ce e : Nat) (fe : Nat → Int), v = .slice ze ne ce ∧ ne ≤ n + m ∧ Hid (Below wr2.heap.size wr2 wr) ∧ Hid (Dn wr ze ne fe e) ∧ Hid (0 < e ∧ e ≤ b ∧ Nat.gcd c e = g0)) (fun v wr => dOf wr v)
                case atStart => exact ⟨zb, nb, cb, b, fb, rfl, hnb, Below.refl _ _, HDb2.out, HV.out.1, Nat.le_refl _, HV2.out.2.2.2⟩
                case round =>
                  obtain ⟨ze, ne, ce, e', fe, rfl, hne, HW3, HDe, HV3⟩ := hrel
                  obtain ⟨wr3, hwr⟩ : ∃ x : World, x = wr := ⟨wr, rfl⟩; subst hwr
                  have hne0 := HDe.out.pos HV3.out.1
                  obtain ⟨be, oe, rfl⟩ := HDe.out.rd.at hne0
                  have hce := HDe.out.rd.cell hne0
                  obtain ⟨xe, hxe⟩ : ∃ t, fe 0 = t := ⟨_, rfl⟩
                  obtain ⟨xe0, xe1⟩ := HDe.out.dg 0 hne0
                  have hpe := HDe.out.par hne0
                  rw [hxe] at hce xe0 xe1 hpe
                  rw [Nat.add_zero] at hce
                  clear hxe hcc
                  by_cases hee : e' % 2 = 0
                  · have hee' : xe % 2 = 0 := hpe.2 hee
                    have HEe := hid hee
                    clear hee hpe
                    go_wp2_with fail
                    refine (rhalf_c HDe.out (by omega) HEe.out HV3.out.1).mono ?_
                    rintro e w5 ⟨z5, k5, c5, d5, rfl, hb5, H5⟩
                    have HB5 := hid hb5
                    have hk5 := H5.out.1
                    clear hb5
                    go_wp2
                    go_roundw
                    case rel =>
                      have h1 := HV3.out.1; have h2 := HV3.out.2.1; have h3 := HEe.out
                      exact ⟨z5, k5, c5, e' / 2, d5, rfl, by omega, HW3.out.trans (HB5.out.mono HW3.out.size), H5.out.2, by omega, by omega, (gcd_halfr HE.out h3).trans HV3.out.2.2⟩
                    case measure =>
                      show dOf w5 (.slice z5 k5 c5) < dOf wr3 (.slice _ ne ce)
                      rw [H5.out.2.dOf, HDe.out.dOf]
                      have := HV3.out.1; omega
                  · have hee' : (xe % 2 == 0) = false := by simp; intro h; exact hee (hpe.1 h)
                    have HEe := hid (show e' % 2 = 1 by omega)
                    clear hee hpe
                    have HDc3 := hid (HDc.out.below HW3.out)
                    have HWs := hid (HW.out.trans ((HW2.out.trans (HW3.out.mono HW2.out.size)).mono HW.out.size))
                    go_wp2_with fail
                    refine (rcmp_c _ _ nc ne cc ce fc fe _ (by omega) (by omega) HDc3.out.rd HDe.out.rd HDc3.out.dg HDe.out.dg HDc3.out.fm HDe.out.fm).mono ?_
                    rintro e w6 ⟨⟨q6, hq6⟩, c6, rfl, hord⟩
                    have hb6 := drewN_bel hq6
                    rw [HDc3.out.val, HDe.out.val] at hord
                    have HDc6 := hid (HDc3.out.below hb6); have HDe6 := hid (HDe.out.below hb6); have HW6 := hid (HWs.out.trans (hb6.mono HWs.out.size))
                    clear hq6 hb6
                    by_cases hlt : c < e'
                    · have hsg : decide (c6 < 0) = true := by
                        rcases hord with ⟨h1, h2⟩ | ⟨h1, h2⟩ | ⟨h1, h2⟩ <;> subst h1 <;> first | rfl | (exfalso; omega)
                      clear hord
                      go_wp2_with fail
                      refine (dSubO_c HDe6.out HDc6.out (by omega) (by omega) (by omega)).mono ?_
                      rintro e w7 ⟨z7, k7, c7, d7, rfl, hb7, H7⟩
                      have HB7 := hid hb7
                      have hk7 := H7.out.1
                      clear hb7 hsg
                      go_wp2
                      go_roundw
                      case rel =>
                        refine ⟨z7, k7, c7, e' - c, d7, _, nc, cc, c, fc, rfl, rfl, by omega, hnc, HW6.out.trans (HB7.out.mono HW6.out.size), H7.out.2.1, HDc6.out.below HB7.out, HV2.out.1, .inr HE.out, ?_⟩
                        rw [gcd_take (by omega), Nat.gcd_comm]; exact HV3.out.2.2
                      case measure =>
                        show dOf w7 (.slice z7 k7 c7) + dOf w7 (.slice _ nc cc) < dOf wr1 (.slice za na ca) + dOf wr1 (.slice zb nb cb)
                        rw [H7.out.2.1.dOf, (HDc6.out.below HB7.out).dOf, HDa.out.dOf, HDb.out.dOf]
                        have h1 := HV2.out; have h2 := HV3.out; omega
                    · have hsg : decide (c6 < 0) = false := by
                        rcases hord with ⟨h1, h2⟩ | ⟨h1, h2⟩ | ⟨h1, h2⟩ <;> subst h1 <;> first | rfl | (exfalso; omega)
                      clear hord
                      go_wp2_with fail
                      refine (dSubO_c HDc6.out HDe6.out (by omega) (by omega) (by omega)).mono ?_
                      rintro e w7 ⟨z7, k7, c7, d7, rfl, hb7, H7⟩
                      have HB7 := hid hb7
                      have hk7 := H7.out.1
                      clear hb7 hsg
                      go_wp2
                      go_roundw
                      case rel =>
                        refine ⟨z7, k7, c7, c - e', d7, _, ne, ce, e', fe, rfl, rfl, by omega, hne, HW6.out.trans (HB7.out.mono HW6.out.size), H7.out.2.1, HDe6.out.below HB7.out, HV3.out.1, .inr HEe.out, ?_⟩
                        rw [gcd_take (by omega)]; exact HV3.out.2.2
                      case measure =>
                        show dOf w7 (.slice z7 k7 c7) + dOf w7 (.slice _ ne ce) < dOf wr1 (.slice za na ca) + dOf wr1 (.slice zb nb cb)
                        rw [H7.out.2.1.dOf, (HDe6.out.below HB7.out).dOf, HDa.out.dOf, HDb.out.dOf]
                        have h1 := HV2.out; have h2 := HV3.out; omega
end Go.Proofs.YthofcgpghbaccaaGreat
namespace Go.Proofs.YthofcgpghbaccaaGreat
open Go.RowKit

theorem fromD_c {w : World} {ao : Option Addr} {n cap : Nat} {f : Nat → Int} (hn : n ≤ 32768) (hr : Rd .u64 w ao n f) (hf : Lm f n) :
    Calls Tryz.prog 65 #[.slice ao n cap] w fun e w' => ∃ z k c d, e = .returned (.slice z k c) ∧ Below w.heap.size w w' ∧ Hid (k ≤ 2 * n ∧ Dn w' z k d (vf f n).toNat) :=
  (from_c ao n cap f w (by omega) hr hf).mono (fun _ _ ⟨z, k, c, h1, h2, h3, h4, _, h5, h6, h7⟩ => ⟨z, k, c, _, h1, h2, h4, h3, h5, h6, by rw [h7]; have := vf_nonneg hf; omega⟩)
theorem toL_c {w : World} {z : Option Addr} {k c : Nat} {d : Nat → Int} {V : Nat} (h : Dn w z k d V) (hk : k ≤ 1048576) :
    Calls Tryz.prog 71 #[.slice z k c] w fun e w' => ∃ x n c' f, e = .returned (.slice x n c') ∧ Below w.heap.size w w' ∧ Hid (n ≤ k ∧ Rd .u64 w' x n f ∧ Lm f n ∧ Fm f n ∧ vf f n = V) :=
  (to_c z k c d w (by omega) h.rd h.dg h.fm).mono (fun _ _ ⟨x, n, c', f, h1, h2, h3, h4, h5, h6, h7⟩ => ⟨x, n, c', f, h1, h2, h4, h3, h5, h6, by rw [h7, h.val]⟩)

end Go.Proofs.YthofcgpghbaccaaGreat
namespace Go.Proofs.YthofcgpghbaccaaGreat
open Go.RowKit

theorem Ob2.drew {w B} (h : Ob2 w B) : Ob2 w.drew B := ⟨h.z, h.z0, h.z1, h.zf⟩
theorem kO2b {w w' B} (hb : Below w.heap.size w w') (h : Ob2 w B) : Ob2 w' B := h.below hb
theorem Ob2.alloc {w B} (h : Ob2 w B) (o : Obj) : Ob2 (w.alloc o) B := h.below (below_alloc (Below.refl _ _) o)
theorem Ob2.next {w w' B} {o : Obj} (h : Ob2 w B) (hb : Below (w.alloc o).heap.size (w.alloc o) w') : Ob2 w' B := (h.alloc o).below hb
theorem Ob2.dn {w B u0 u1 x n d V} (h : Ob2 w B) (hx : Dn w x n d V) : Dn ((w.setCell ⟨B, 0, none⟩ u0).setCell ⟨B, 1, none⟩ u1) x n d V :=
  ⟨rd_setne (cell_off (by decide) h.z1) (fun i h => by cases h) (rd_setne h.z0 (fun i h => by cases h) hx.rd), hx.dg, hx.fm, hx.val⟩
/-- A whole number of the reference: sign and digits. -/
structure Zn (w : World) (s : Bool) (x : Option Addr) (n : Nat) (d : Nat → Int) (v : Int) : Prop where
  dn : Dn w x n d v.natAbs
  sgn : v = sg s v.natAbs
  pos : s = true → 0 < n
theorem Zn.below {w w' s x n d v} (h : Zn w s x n d v) (hb : Below w.heap.size w w') : Zn w' s x n d v := ⟨h.dn.below hb, h.sgn, h.pos⟩
theorem Zn.alloc {w s x n d v} (h : Zn w s x n d v) (o : Obj) : Zn (w.alloc o) s x n d v := ⟨h.dn.alloc o, h.sgn, h.pos⟩
theorem Zn.next {w w' s x n d v} {o : Obj} (h : Zn w s x n d v) (hb : Below (w.alloc o).heap.size (w.alloc o) w') : Zn w' s x n d v := (h.alloc o).below hb
theorem Zn.of {w z k d V} {r s : Bool} (h : Dn w z k d V) (hr : r = (s && decide (0 < k))) : Zn w r z k d (sg s V) := by
  refine ⟨by rw [sg_natAbs]; exact h, ?_, fun h => by rw [hr] at h; simp at h; exact h.2⟩
  rw [sg_natAbs]
  rcases Nat.eq_zero_or_pos k with h0 | h0
  · subst h0
    have := h.zero
    subst this
    cases s <;> cases r <;> rfl
  · have : r = s := by rw [hr]; simp [h0]
    rw [this]
theorem mkZ_c {w : World} {s : Bool} {z : Option Addr} {k c : Nat} (hk : k ≤ 1048576) :
    Calls Tryz.prog 69 #[.bool s, .slice z k c] w fun e w' => ∃ r, e = .returned (.agg #[.bool r, .slice z k c]) ∧ Below w.heap.size w w' ∧ Hid (r = (s && decide (0 < k))) := (zMk_c s z k c w (by omega)).mono (fun _ _ ⟨r, h1, h2, h3⟩ => ⟨r, h1, h3, h2⟩)
/-- A whole number of the reference that a call answers. -/
def ZAns (L : Nat) (w w' : World) (e : Ending) (v : Int) : Prop := ∃ s x n c d, e = .returned (.agg #[.bool s, .slice x n c]) ∧ Below w.heap.size w w' ∧ n ≤ L ∧ Zn w' s x n d v
theorem zboxes {w : World} (sa : Bool) (xa : Option Addr) (na ca : Nat) (sb : Bool) (xb : Option Addr) (nb cb : Nat) (t : TypeId) :
    Bx (((w.alloc (.cells #[.bool sa, .slice xa na ca] t)).alloc (.cells #[.bool sb, .slice xb nb cb] t)).alloc (.cells #[.bool false, .slice none 0 0] t)) w.heap.size sa xa na ca ∧ Bx (((w.alloc (.cells #[.bool sa, .slice xa na ca] t)).alloc (.cells #[.bool sb, .slice xb nb cb] t)).alloc (.cells #[.bool false, .slice none 0 0] t)) (w.heap.size + 1) sb xb nb cb ∧ Ob2 (((w.alloc (.cells #[.bool sa, .slice xa na ca] t)).alloc (.cells #[.bool sb, .slice xb nb cb] t)).alloc (.cells #[.bool false, .slice none 0 0] t)) (w.heap.size + 1 + 1) ∧ Below w.heap.size w (((w.alloc (.cells #[.bool sa, .slice xa na ca] t)).alloc (.cells #[.bool sb, .slice xb nb cb] t)).alloc (.cells #[.bool false, .slice none 0 0] t)) := by
  have h0 : Bx (w.alloc (.cells #[.bool sa, .slice xa na ca] t)) w.heap.size sa xa na ca := ⟨by simp, kN0, kN1⟩
  have h1 : Bx ((w.alloc (.cells #[.bool sa, .slice xa na ca] t)).alloc (.cells #[.bool sb, .slice xb nb cb] t)) (w.heap.size + 1) sb xb nb cb := by
    have := size_alloc1 w (.cells #[.bool sa, .slice xa na ca] t)
    refine ⟨by simp, ?_, ?_⟩
    · rw [← this]; exact kN0
    · rw [← this]; exact kN1
  have h2 := ob2_new ((w.alloc (.cells #[.bool sa, .slice xa na ca] t)).alloc (.cells #[.bool sb, .slice xb nb cb] t)) t
  rw [size_alloc1, size_alloc1] at h2
  exact ⟨(h0.alloc _).alloc _, h1.alloc _, h2, below_alloc (below_alloc (below_alloc (Below.refl w.heap.size w) _) _) _⟩
theorem zmul_val {u v : Int} {s t : Bool} (hu : u = sg s u.natAbs) (hv : v = sg t v.natAbs) : u * v = sg (!(s == t)) (u.natAbs * v.natAbs) := by
  have := sg_mul s t u.natAbs v.natAbs
  rw [← hu, ← hv] at this
  exact this
theorem zadd_same {u v : Int} {s t : Bool} (h : s = t) (hu : u = sg s u.natAbs) (hv : v = sg t v.natAbs) : u + v = sg s (u.natAbs + v.natAbs) := by
  subst h
  cases s
  · have e1 : u = u.natAbs := hu
    have e2 : v = v.natAbs := hv
    show u + v = ((u.natAbs + v.natAbs : Nat) : Int); omega
  · have e1 : u = -(u.natAbs : Int) := hu
    have e2 : v = -(v.natAbs : Int) := hv
    show u + v = -((u.natAbs + v.natAbs : Nat) : Int); omega
theorem zadd_more {u v : Int} {s t : Bool} (h : ¬ s = t) (hu : u = sg s u.natAbs) (hv : v = sg t v.natAbs) (hle : v.natAbs ≤ u.natAbs) : u + v = sg s (u.natAbs - v.natAbs) := by
  cases s <;> cases t
  · exact absurd rfl h
  · have e1 : u = u.natAbs := hu
    have e2 : v = -(v.natAbs : Int) := hv
    show u + v = ((u.natAbs - v.natAbs : Nat) : Int); omega
  · have e1 : u = -(u.natAbs : Int) := hu
    have e2 : v = v.natAbs := hv
    show u + v = -((u.natAbs - v.natAbs : Nat) : Int); omega
  · exact absurd rfl h
theorem zadd_less {u v : Int} {s t : Bool} (h : ¬ s = t) (hu : u = sg s u.natAbs) (hv : v = sg t v.natAbs) (hle : u.natAbs ≤ v.natAbs) : u + v = sg t (v.natAbs - u.natAbs) := by
  rw [Int.add_comm]; exact zadd_more (fun e => h e.symm) hv hu hle

set_option maxRecDepth 100000 in
set_option maxHeartbeats 4000000 in
theorem zMul_c {w : World} {sa : Bool} {xa : Option Addr} {na ca : Nat} {da : Nat → Int} {sb : Bool} {xb : Option Addr} {nb cb : Nat} {db : Nat → Int} {u v : Int} (ha : Zn w sa xa na da u) (hb : Zn w sb xb nb db v) (hn : na ≤ 131072) (hm : nb ≤ 131072) :
    Calls Tryz.prog 68 #[.agg #[.bool sa, .slice xa na ca], .agg #[.bool sb, .slice xb nb cb]] w fun e w' => ZAns (na + nb) w w' e (u * v) := by
  obtain ⟨ba, bb, ob, hw⟩ := zboxes (w := w) sa xa na ca sb xb nb cb 61
  have h1 := ((ha.alloc (.cells #[.bool sa, .slice xa na ca] 61)).alloc (.cells #[.bool sb, .slice xb nb cb] 61)).alloc (.cells #[.bool false, .slice none 0 0] 61)
  have h2 := ((hb.alloc (.cells #[.bool sa, .slice xa na ca] 61)).alloc (.cells #[.bool sb, .slice xb nb cb] 61)).alloc (.cells #[.bool false, .slice none 0 0] 61)
  clear ha hb
  go_enter Tryz.func68, Tryz.ntmps68
  go_wp2_with fail
  generalize ((w.alloc (.cells #[.bool sa, .slice xa na ca] 61)).alloc (.cells #[.bool sb, .slice xb nb cb] 61)).alloc (.cells #[.bool false, .slice none 0 0] 61) = w1 at *
  have HA := hid h1; have HB := hid h2; have HW := hid hw
  obtain ⟨za, a0, a1⟩ := ba
  obtain ⟨zb, b0, b1⟩ := bb
  obtain ⟨hz, z0, z1, zf⟩ := id ob
  clear h1 h2 hw
  have C1 : Hid (∀ W, Below w1.heap.size w1 W → Calls Tryz.prog 70 #[.slice xa na ca, .slice xb nb cb] W fun e w' => ∃ z k c' q, e = .returned (.slice z k c') ∧ Below W.heap.size W w' ∧ Hid (k ≤ na + nb ∧ Dn w' z k q (u.natAbs * v.natAbs))) := fun W hW => dMul_c (HA.out.dn.below hW) (HB.out.dn.below hW) (by omega) (by omega)
  have C2 : Hid (∀ (W : World) (z : Option Addr) (k c : Nat), k ≤ na + nb → Calls Tryz.prog 69 #[.bool (!(sa == sb)), .slice z k c] W fun e w' => ∃ r, e = .returned (.agg #[.bool r, .slice z k c]) ∧ Below W.heap.size W w' ∧ Hid (r = ((!(sa == sb)) && decide (0 < k)))) := fun W z k c hk => mkZ_c (by omega)
  go_wp2_with fail
  go_region_held3 (fun w' => w'.cell? ⟨w.heap.size, 0, none⟩ = some (.bool sa) ∧ w'.cell? ⟨w.heap.size, 1, none⟩ = some (.slice xa na ca) ∧ w'.cell? ⟨w.heap.size + 1, 0, none⟩ = some (.bool sb) ∧ w'.cell? ⟨w.heap.size + 1, 1, none⟩ = some (.slice xb nb cb) ∧ (w'.cell? ⟨w.heap.size + 1 + 1, 0, none⟩).isSome = true ∧ (w'.cell? ⟨w.heap.size + 1 + 1, 1, none⟩).isSome = true ∧ w'.frozen? ⟨w.heap.size + 1 + 1, 0, none⟩ = false ∧ w'.frozen? ⟨w.heap.size + 1 + 1, 1, none⟩ = false)
    (refine ⟨?_, ?_, ?_, ?_, ?_, ?_, ?_, ?_⟩ <;> repeat (with_reducible first | assumption | exact zf _ | exact kI0 z0 | exact kI0 z1 | exact tf _ | exact kI0 t0 | exact kI0 t1 | exact uf _ | exact kI0 u0 | exact kI0 u1 | refine kCd ?_ | refine kId ?_ | refine kFd ?_ | refine kCs (by simp only [ne_eq]; omega) ?_ | refine kIs ?_ | refine kFs ?_ | refine kCb (by assumption) ?_ | refine kIb (by assumption) ?_))
    (first
      | (go_at_call 70; with_reducible refine (C1.out _ (by repeat (with_reducible first | assumption | exact Below.refl _ _ | refine Below.drew ?_ | refine kBa ?_ | refine kBb (by assumption) ?_))).mono ?_; rintro e v5 ⟨zp, kp, cp, qp, rfl, hv5, HP⟩; have TU : Ob2 v5 (w.heap.size + 1 + 1) := (by repeat (with_reducible first | exact ob | exact TU | exact TV | refine Ob2.drew ?_ | refine kO2b (by assumption) ?_)); obtain ⟨_, t0, t1, tf⟩ := id TU)
      | (go_at_call 69; with_reducible refine (C2.out _ zp kp cp HP.out.1).mono ?_; rintro e v6 ⟨rr, rfl, hv6, HR⟩; have TV : Ob2 v6 (w.heap.size + 1 + 1) := (by repeat (with_reducible first | exact ob | exact TU | exact TV | refine Ob2.drew ?_ | refine kO2b (by assumption) ?_)); obtain ⟨_, u0, u1, uf⟩ := id TV))
  have hb : Below w1.heap.size w1 v6 := (by repeat (with_reducible first | assumption | exact Below.refl _ _ | refine Below.drew ?_ | refine kBa ?_ | refine kBb (by assumption) ?_))
  have DP := HP.out.2.below hv6
  go_wp2
  refine bodyPost_ret (v := .agg #[.bool rr, .slice zp kp cp]) (by simp [results, Tryz.results68, go_sem, u0, u1]) rfl ⟨rr, zp, kp, cp, qp, rfl, below_st2 (HW.out.trans (hb.mono HW.out.size)) (by omega), by have := HP.out.1; omega, ?_⟩
  rw [zmul_val HA.out.sgn HB.out.sgn]
  exact Zn.of (TV.dn DP) HR.out

set_option maxRecDepth 100000 in
set_option maxHeartbeats 4000000 in
theorem zAdd_same {w : World} {sa : Bool} {xa : Option Addr} {na ca : Nat} {da : Nat → Int} {sb : Bool} {xb : Option Addr} {nb cb : Nat} {db : Nat → Int} {u v : Int} (ha : Zn w sa xa na da u) (hb : Zn w sb xb nb db v) (hn : na ≤ 131072) (hm : nb ≤ 131072) (hs : sa = sb) :
    Calls Tryz.prog 67 #[.agg #[.bool sa, .slice xa na ca], .agg #[.bool sb, .slice xb nb cb]] w fun e w' => ZAns (na + nb + 1) w w' e (u + v) := by
  obtain ⟨ba, bb, ob, hw⟩ := zboxes (w := w) sa xa na ca sb xb nb cb 61
  have h1 := ((ha.alloc (.cells #[.bool sa, .slice xa na ca] 61)).alloc (.cells #[.bool sb, .slice xb nb cb] 61)).alloc (.cells #[.bool false, .slice none 0 0] 61)
  have h2 := ((hb.alloc (.cells #[.bool sa, .slice xa na ca] 61)).alloc (.cells #[.bool sb, .slice xb nb cb] 61)).alloc (.cells #[.bool false, .slice none 0 0] 61)
  clear ha hb
  have hse := beq_bool_true hs
  have HS := hid hs
  clear hs
  go_enter Tryz.func67, Tryz.ntmps67
  go_wp2_with fail
  generalize ((w.alloc (.cells #[.bool sa, .slice xa na ca] 61)).alloc (.cells #[.bool sb, .slice xb nb cb] 61)).alloc (.cells #[.bool false, .slice none 0 0] 61) = w1 at *
  have HA := hid h1; have HB := hid h2; have HW := hid hw
  obtain ⟨za, a0, a1⟩ := ba
  obtain ⟨zb, b0, b1⟩ := bb
  obtain ⟨hz, z0, z1, zf⟩ := id ob
  clear h1 h2 hw
  have C1 : Hid (∀ W, Below w1.heap.size w1 W → Calls Tryz.prog 95 #[.slice xa na ca, .slice xb nb cb] W fun e w' => ∃ z k c' q, e = .returned (.slice z k c') ∧ Below W.heap.size W w' ∧ Hid (k ≤ na + nb + 1 ∧ Dn w' z k q (u.natAbs + v.natAbs))) := fun W hW => dAdd_c (HA.out.dn.below hW) (HB.out.dn.below hW) (by omega) (by omega)
  have C2 : Hid (∀ (W : World) (z : Option Addr) (k c : Nat), k ≤ na + nb + 1 → Calls Tryz.prog 69 #[.bool (sa), .slice z k c] W fun e w' => ∃ r, e = .returned (.agg #[.bool r, .slice z k c]) ∧ Below W.heap.size W w' ∧ Hid (r = ((sa) && decide (0 < k)))) := fun W z k c hk => mkZ_c (by omega)
  go_wp2_with fail
  go_region_held3 (fun w' => w'.cell? ⟨w.heap.size, 0, none⟩ = some (.bool sa) ∧ w'.cell? ⟨w.heap.size, 1, none⟩ = some (.slice xa na ca) ∧ w'.cell? ⟨w.heap.size + 1, 0, none⟩ = some (.bool sb) ∧ w'.cell? ⟨w.heap.size + 1, 1, none⟩ = some (.slice xb nb cb) ∧ (w'.cell? ⟨w.heap.size + 1 + 1, 0, none⟩).isSome = true ∧ (w'.cell? ⟨w.heap.size + 1 + 1, 1, none⟩).isSome = true ∧ w'.frozen? ⟨w.heap.size + 1 + 1, 0, none⟩ = false ∧ w'.frozen? ⟨w.heap.size + 1 + 1, 1, none⟩ = false)
    (refine ⟨?_, ?_, ?_, ?_, ?_, ?_, ?_, ?_⟩ <;> repeat (with_reducible first | assumption | exact zf _ | exact kI0 z0 | exact kI0 z1 | exact tf _ | exact kI0 t0 | exact kI0 t1 | exact uf _ | exact kI0 u0 | exact kI0 u1 | refine kCd ?_ | refine kId ?_ | refine kFd ?_ | refine kCs (by simp only [ne_eq]; omega) ?_ | refine kIs ?_ | refine kFs ?_ | refine kCb (by assumption) ?_ | refine kIb (by assumption) ?_))
    (first
      | (go_at_call 95; with_reducible refine (C1.out _ (by repeat (with_reducible first | assumption | exact Below.refl _ _ | refine Below.drew ?_ | refine kBa ?_ | refine kBb (by assumption) ?_))).mono ?_; rintro e v5 ⟨zp, kp, cp, qp, rfl, hv5, HP⟩; have TU : Ob2 v5 (w.heap.size + 1 + 1) := (by repeat (with_reducible first | exact ob | exact TU | exact TV | refine Ob2.drew ?_ | refine kO2b (by assumption) ?_)); obtain ⟨_, t0, t1, tf⟩ := id TU)
      | (go_at_call 69; with_reducible refine (C2.out _ zp kp cp HP.out.1).mono ?_; rintro e v6 ⟨rr, rfl, hv6, HR⟩; have TV : Ob2 v6 (w.heap.size + 1 + 1) := (by repeat (with_reducible first | exact ob | exact TU | exact TV | refine Ob2.drew ?_ | refine kO2b (by assumption) ?_)); obtain ⟨_, u0, u1, uf⟩ := id TV))
  have hb : Below w1.heap.size w1 v6 := (by repeat (with_reducible first | assumption | exact Below.refl _ _ | refine Below.drew ?_ | refine kBa ?_ | refine kBb (by assumption) ?_))
  have DP := HP.out.2.below hv6
  go_wp2
  refine bodyPost_ret (v := .agg #[.bool rr, .slice zp kp cp]) (by simp [results, Tryz.results67, go_sem, u0, u1]) rfl ⟨rr, zp, kp, cp, qp, rfl, below_st2 (HW.out.trans (hb.mono HW.out.size)) (by omega), by have := HP.out.1; omega, ?_⟩
  rw [zadd_same HS.out HA.out.sgn HB.out.sgn]
  exact Zn.of (TV.dn DP) HR.out

set_option maxRecDepth 100000 in
set_option maxHeartbeats 4000000 in
theorem zAdd_more {w : World} {sa : Bool} {xa : Option Addr} {na ca : Nat} {da : Nat → Int} {sb : Bool} {xb : Option Addr} {nb cb : Nat} {db : Nat → Int} {u v : Int} (ha : Zn w sa xa na da u) (hb : Zn w sb xb nb db v) (hn : na ≤ 131072) (hm : nb ≤ 131072) (hs : ¬ sa = sb) (hle : v.natAbs ≤ u.natAbs) :
    Calls Tryz.prog 67 #[.agg #[.bool sa, .slice xa na ca], .agg #[.bool sb, .slice xb nb cb]] w fun e w' => ZAns (na + nb + 1) w w' e (u + v) := by
  obtain ⟨ba, bb, ob, hw⟩ := zboxes (w := w) sa xa na ca sb xb nb cb 61
  have h1 := ((ha.alloc (.cells #[.bool sa, .slice xa na ca] 61)).alloc (.cells #[.bool sb, .slice xb nb cb] 61)).alloc (.cells #[.bool false, .slice none 0 0] 61)
  have h2 := ((hb.alloc (.cells #[.bool sa, .slice xa na ca] 61)).alloc (.cells #[.bool sb, .slice xb nb cb] 61)).alloc (.cells #[.bool false, .slice none 0 0] 61)
  clear ha hb
  have hse := beq_bool_false hs
  have HS := hid hs
  clear hs
  go_enter Tryz.func67, Tryz.ntmps67
  go_wp2_with fail
  generalize ((w.alloc (.cells #[.bool sa, .slice xa na ca] 61)).alloc (.cells #[.bool sb, .slice xb nb cb] 61)).alloc (.cells #[.bool false, .slice none 0 0] 61) = w1 at *
  have HA := hid h1; have HB := hid h2; have HW := hid hw
  obtain ⟨za, a0, a1⟩ := ba
  obtain ⟨zb, b0, b1⟩ := bb
  obtain ⟨hz, z0, z1, zf⟩ := id ob
  clear h1 h2 hw
  refine (rcmp_c xa xb na nb ca cb da db _ (by omega) (by omega) HA.out.dn.rd HB.out.dn.rd HA.out.dn.dg HB.out.dn.dg HA.out.dn.fm HB.out.dn.fm).mono ?_
  rintro e w2 ⟨⟨q, hq⟩, cc, rfl, hord⟩
  have hb := drewN_below hq
  clear hq
  rw [HA.out.dn.val, HB.out.dn.val] at hord
  have hsg : decide ((0 : Int) ≤ cc) = true := by
    rcases hord with ⟨h1, h2⟩ | ⟨h1, h2⟩ | ⟨h1, h2⟩ <;> subst h1 <;> first | rfl | (exfalso; omega)
  have HA2 := hid (HA.out.below hb); have HB2 := hid (HB.out.below hb); have HW2 := hid (HW.out.trans (hb.mono HW.out.size)); have ob2 := ob.below hb
  have a0' := kCb hb a0; have a1' := kCb hb a1; have b0' := kCb hb b0; have b1' := kCb hb b1
  clear hb hord a0 a1 b0 b1 hz z0 z1 zf za zb HW HA HB ob
  obtain ⟨hz, z0, z1, zf⟩ := id ob2
  have HA := hid HA2.out; have HB := hid HB2.out; have HW := hid HW2.out
  have C1 : Hid (∀ W, Below w2.heap.size w2 W → Calls Tryz.prog 89 #[.slice xa na ca, .slice xb nb cb] W fun e w' => ∃ z k c' q, e = .returned (.slice z k c') ∧ Below W.heap.size W w' ∧ Hid (k ≤ na ∧ Dn w' z k q (u.natAbs - v.natAbs))) := fun W hW => dSub_c (HA.out.dn.below hW) (HB.out.dn.below hW) (by omega) (by omega) hle
  have C2 : Hid (∀ (W : World) (z : Option Addr) (k c : Nat), k ≤ na → Calls Tryz.prog 69 #[.bool (sa), .slice z k c] W fun e w' => ∃ r, e = .returned (.agg #[.bool r, .slice z k c]) ∧ Below W.heap.size W w' ∧ Hid (r = ((sa) && decide (0 < k)))) := fun W z k c hk => mkZ_c (by omega)
  go_wp2_with fail
  go_region_held3 (fun w' => w'.cell? ⟨w.heap.size, 0, none⟩ = some (.bool sa) ∧ w'.cell? ⟨w.heap.size, 1, none⟩ = some (.slice xa na ca) ∧ w'.cell? ⟨w.heap.size + 1, 0, none⟩ = some (.bool sb) ∧ w'.cell? ⟨w.heap.size + 1, 1, none⟩ = some (.slice xb nb cb) ∧ (w'.cell? ⟨w.heap.size + 1 + 1, 0, none⟩).isSome = true ∧ (w'.cell? ⟨w.heap.size + 1 + 1, 1, none⟩).isSome = true ∧ w'.frozen? ⟨w.heap.size + 1 + 1, 0, none⟩ = false ∧ w'.frozen? ⟨w.heap.size + 1 + 1, 1, none⟩ = false)
    (refine ⟨?_, ?_, ?_, ?_, ?_, ?_, ?_, ?_⟩ <;> repeat (with_reducible first | assumption | exact zf _ | exact kI0 z0 | exact kI0 z1 | exact tf _ | exact kI0 t0 | exact kI0 t1 | exact uf _ | exact kI0 u0 | exact kI0 u1 | refine kCd ?_ | refine kId ?_ | refine kFd ?_ | refine kCs (by simp only [ne_eq]; omega) ?_ | refine kIs ?_ | refine kFs ?_ | refine kCb (by assumption) ?_ | refine kIb (by assumption) ?_))
    (first
      | (go_at_call 89; with_reducible refine (C1.out _ (by repeat (with_reducible first | assumption | exact Below.refl _ _ | refine Below.drew ?_ | refine kBa ?_ | refine kBb (by assumption) ?_))).mono ?_; rintro e v5 ⟨zp, kp, cp, qp, rfl, hv5, HP⟩; have TU : Ob2 v5 (w.heap.size + 1 + 1) := (by repeat (with_reducible first | exact ob2 | exact TU | exact TV | refine Ob2.drew ?_ | refine kO2b (by assumption) ?_)); obtain ⟨_, t0, t1, tf⟩ := id TU)
      | (go_at_call 69; with_reducible refine (C2.out _ zp kp cp HP.out.1).mono ?_; rintro e v6 ⟨rr, rfl, hv6, HR⟩; have TV : Ob2 v6 (w.heap.size + 1 + 1) := (by repeat (with_reducible first | exact ob2 | exact TU | exact TV | refine Ob2.drew ?_ | refine kO2b (by assumption) ?_)); obtain ⟨_, u0, u1, uf⟩ := id TV))
  have hb : Below w2.heap.size w2 v6 := (by repeat (with_reducible first | assumption | exact Below.refl _ _ | refine Below.drew ?_ | refine kBa ?_ | refine kBb (by assumption) ?_))
  have DP := HP.out.2.below hv6
  go_wp2
  refine bodyPost_ret (v := .agg #[.bool rr, .slice zp kp cp]) (by simp [results, Tryz.results67, go_sem, u0, u1]) rfl ⟨rr, zp, kp, cp, qp, rfl, below_st2 (HW.out.trans (hb.mono HW.out.size)) (by omega), by have := HP.out.1; omega, ?_⟩
  rw [zadd_more HS.out HA.out.sgn HB.out.sgn hle]
  exact Zn.of (TV.dn DP) HR.out

set_option maxRecDepth 100000 in
set_option maxHeartbeats 4000000 in
theorem zAdd_less {w : World} {sa : Bool} {xa : Option Addr} {na ca : Nat} {da : Nat → Int} {sb : Bool} {xb : Option Addr} {nb cb : Nat} {db : Nat → Int} {u v : Int} (ha : Zn w sa xa na da u) (hb : Zn w sb xb nb db v) (hn : na ≤ 131072) (hm : nb ≤ 131072) (hs : ¬ sa = sb) (hlt : u.natAbs < v.natAbs) :
    Calls Tryz.prog 67 #[.agg #[.bool sa, .slice xa na ca], .agg #[.bool sb, .slice xb nb cb]] w fun e w' => ZAns (na + nb + 1) w w' e (u + v) := by
  obtain ⟨ba, bb, ob, hw⟩ := zboxes (w := w) sa xa na ca sb xb nb cb 61
  have h1 := ((ha.alloc (.cells #[.bool sa, .slice xa na ca] 61)).alloc (.cells #[.bool sb, .slice xb nb cb] 61)).alloc (.cells #[.bool false, .slice none 0 0] 61)
  have h2 := ((hb.alloc (.cells #[.bool sa, .slice xa na ca] 61)).alloc (.cells #[.bool sb, .slice xb nb cb] 61)).alloc (.cells #[.bool false, .slice none 0 0] 61)
  clear ha hb
  have hse := beq_bool_false hs
  have HS := hid hs
  clear hs
  go_enter Tryz.func67, Tryz.ntmps67
  go_wp2_with fail
  generalize ((w.alloc (.cells #[.bool sa, .slice xa na ca] 61)).alloc (.cells #[.bool sb, .slice xb nb cb] 61)).alloc (.cells #[.bool false, .slice none 0 0] 61) = w1 at *
  have HA := hid h1; have HB := hid h2; have HW := hid hw
  obtain ⟨za, a0, a1⟩ := ba
  obtain ⟨zb, b0, b1⟩ := bb
  obtain ⟨hz, z0, z1, zf⟩ := id ob
  clear h1 h2 hw
  refine (rcmp_c xa xb na nb ca cb da db _ (by omega) (by omega) HA.out.dn.rd HB.out.dn.rd HA.out.dn.dg HB.out.dn.dg HA.out.dn.fm HB.out.dn.fm).mono ?_
  rintro e w2 ⟨⟨q, hq⟩, cc, rfl, hord⟩
  have hb := drewN_below hq
  clear hq
  rw [HA.out.dn.val, HB.out.dn.val] at hord
  have hsg : decide ((0 : Int) ≤ cc) = false := by
    rcases hord with ⟨h1, h2⟩ | ⟨h1, h2⟩ | ⟨h1, h2⟩ <;> subst h1 <;> first | rfl | (exfalso; omega)
  have HA2 := hid (HA.out.below hb); have HB2 := hid (HB.out.below hb); have HW2 := hid (HW.out.trans (hb.mono HW.out.size)); have ob2 := ob.below hb
  have a0' := kCb hb a0; have a1' := kCb hb a1; have b0' := kCb hb b0; have b1' := kCb hb b1
  clear hb hord a0 a1 b0 b1 hz z0 z1 zf za zb HW HA HB ob
  obtain ⟨hz, z0, z1, zf⟩ := id ob2
  have HA := hid HA2.out; have HB := hid HB2.out; have HW := hid HW2.out
  have C1 : Hid (∀ W, Below w2.heap.size w2 W → Calls Tryz.prog 89 #[.slice xb nb cb, .slice xa na ca] W fun e w' => ∃ z k c' q, e = .returned (.slice z k c') ∧ Below W.heap.size W w' ∧ Hid (k ≤ nb ∧ Dn w' z k q (v.natAbs - u.natAbs))) := fun W hW => dSub_c (HB.out.dn.below hW) (HA.out.dn.below hW) (by omega) (by omega) (by omega)
  have C2 : Hid (∀ (W : World) (z : Option Addr) (k c : Nat), k ≤ nb → Calls Tryz.prog 69 #[.bool (sb), .slice z k c] W fun e w' => ∃ r, e = .returned (.agg #[.bool r, .slice z k c]) ∧ Below W.heap.size W w' ∧ Hid (r = ((sb) && decide (0 < k)))) := fun W z k c hk => mkZ_c (by omega)
  go_wp2_with fail
  go_region_held3 (fun w' => w'.cell? ⟨w.heap.size, 0, none⟩ = some (.bool sa) ∧ w'.cell? ⟨w.heap.size, 1, none⟩ = some (.slice xa na ca) ∧ w'.cell? ⟨w.heap.size + 1, 0, none⟩ = some (.bool sb) ∧ w'.cell? ⟨w.heap.size + 1, 1, none⟩ = some (.slice xb nb cb) ∧ (w'.cell? ⟨w.heap.size + 1 + 1, 0, none⟩).isSome = true ∧ (w'.cell? ⟨w.heap.size + 1 + 1, 1, none⟩).isSome = true ∧ w'.frozen? ⟨w.heap.size + 1 + 1, 0, none⟩ = false ∧ w'.frozen? ⟨w.heap.size + 1 + 1, 1, none⟩ = false)
    (refine ⟨?_, ?_, ?_, ?_, ?_, ?_, ?_, ?_⟩ <;> repeat (with_reducible first | assumption | exact zf _ | exact kI0 z0 | exact kI0 z1 | exact tf _ | exact kI0 t0 | exact kI0 t1 | exact uf _ | exact kI0 u0 | exact kI0 u1 | refine kCd ?_ | refine kId ?_ | refine kFd ?_ | refine kCs (by simp only [ne_eq]; omega) ?_ | refine kIs ?_ | refine kFs ?_ | refine kCb (by assumption) ?_ | refine kIb (by assumption) ?_))
    (first
      | (go_at_call 89; with_reducible refine (C1.out _ (by repeat (with_reducible first | assumption | exact Below.refl _ _ | refine Below.drew ?_ | refine kBa ?_ | refine kBb (by assumption) ?_))).mono ?_; rintro e v5 ⟨zp, kp, cp, qp, rfl, hv5, HP⟩; have TU : Ob2 v5 (w.heap.size + 1 + 1) := (by repeat (with_reducible first | exact ob2 | exact TU | exact TV | refine Ob2.drew ?_ | refine kO2b (by assumption) ?_)); obtain ⟨_, t0, t1, tf⟩ := id TU)
      | (go_at_call 69; with_reducible refine (C2.out _ zp kp cp HP.out.1).mono ?_; rintro e v6 ⟨rr, rfl, hv6, HR⟩; have TV : Ob2 v6 (w.heap.size + 1 + 1) := (by repeat (with_reducible first | exact ob2 | exact TU | exact TV | refine Ob2.drew ?_ | refine kO2b (by assumption) ?_)); obtain ⟨_, u0, u1, uf⟩ := id TV))
  have hb : Below w2.heap.size w2 v6 := (by repeat (with_reducible first | assumption | exact Below.refl _ _ | refine Below.drew ?_ | refine kBa ?_ | refine kBb (by assumption) ?_))
  have DP := HP.out.2.below hv6
  go_wp2
  refine bodyPost_ret (v := .agg #[.bool rr, .slice zp kp cp]) (by simp [results, Tryz.results67, go_sem, u0, u1]) rfl ⟨rr, zp, kp, cp, qp, rfl, below_st2 (HW.out.trans (hb.mono HW.out.size)) (by omega), by have := HP.out.1; omega, ?_⟩
  rw [zadd_less HS.out HA.out.sgn HB.out.sgn (by omega)]
  exact Zn.of (TV.dn DP) HR.out

theorem zAdd_c {w : World} {sa : Bool} {xa : Option Addr} {na ca : Nat} {da : Nat → Int} {sb : Bool} {xb : Option Addr} {nb cb : Nat} {db : Nat → Int} {u v : Int} (ha : Zn w sa xa na da u) (hb : Zn w sb xb nb db v) (hn : na ≤ 131072) (hm : nb ≤ 131072) :
    Calls Tryz.prog 67 #[.agg #[.bool sa, .slice xa na ca], .agg #[.bool sb, .slice xb nb cb]] w fun e w' => ZAns (na + nb + 1) w w' e (u + v) := by
  by_cases hs : sa = sb
  · exact zAdd_same ha hb hn hm hs
  · by_cases hle : v.natAbs ≤ u.natAbs
    · exact zAdd_more ha hb hn hm hs hle
    · exact zAdd_less ha hb hn hm hs (by omega)
end Go.Proofs.YthofcgpghbaccaaGreat
namespace Go.Proofs.YthofcgpghbaccaaGreat
open Go.RowKit

theorem zSign_c {w : World} {sa : Bool} {xa : Option Addr} {na ca : Nat} {da : Nat → Int} {u : Int} (ha : Zn w sa xa na da u) (hn : na ≤ 1048576) :
    Calls Tryz.prog 98 #[.agg #[.bool sa, .slice xa na ca]] w fun e w' => ∃ c, e = .returned (.int .i64 c) ∧ Below w.heap.size w w' ∧ Ord c u 0 := by
  have hbe := below_alloc (Below.refl w.heap.size w) (.cells #[.bool sa, .slice xa na ca] 61)
  have hsg := ha.sgn
  rcases Nat.eq_zero_or_pos na with h0 | h0
  · subst h0
    have hz := ha.dn.zero
    have hu : u = 0 := by omega
    subst hu
    clear ha hsg hz
    go_enter Tryz.func98, Tryz.ntmps98
    go_wp2
    go_ret
    exact ⟨0, rfl, hbe, .inr (.inl ⟨rfl, rfl⟩)⟩
  · have hp := ha.dn.pos' h0
    have hn0 : ((na : Int) == 0) = false := by simp; omega
    cases sa
    · have e : u = u.natAbs := hsg
      have hu : 0 < u := by omega
      clear ha hsg e
      go_enter Tryz.func98, Tryz.ntmps98
      go_wp2
      go_ret
      exact ⟨1, rfl, hbe, .inr (.inr ⟨rfl, hu⟩)⟩
    · have e : u = -(u.natAbs : Int) := hsg
      have hu : u < 0 := by omega
      clear ha hsg e
      go_enter Tryz.func98, Tryz.ntmps98
      go_wp2
      go_ret
      exact ⟨-1, rfl, hbe, .inl ⟨rfl, hu⟩⟩
/-- The error of two numbers. -/
def e2 (s : Bool) (f : Nat → Int) (n : Nat) (t : Bool) (h : Nat → Int) (m : Nat) : Int := if wfB s f n && wfB t h m then 0 else 3
end Go.Proofs.YthofcgpghbaccaaGreat
namespace Go.Proofs.YthofcgpghbaccaaGreat
open Go.RowKit

/-- What a call answers: a number, or an error. -/
def WGot (L : Nat) (w w' : World) (e : Ending) (p : Bool) (v : Int) : Prop := ∃ r z k c f, e = .returned (.tuple #[.agg #[.bool r, .slice z k c], .int .i64 (if p then 0 else 3)]) ∧ Below w.heap.size w w' ∧ k ≤ L ∧ Wn w' r z k c f (if p then v else 0)
/-- What Cmp answers: an order, or an error. -/
def CmpGot (w w' : World) (e : Ending) (p : Bool) (u v : Int) : Prop := ∃ c, e = .returned (.tuple #[.int .i64 c, .int .i64 (if p then 0 else 3)]) ∧ Below w.heap.size w w' ∧ (if p then Ord c u v else c = 0)
def kv (kind : Nat) (u v : Int) : Int := if kind = 0 then u + v else if kind = 1 then u - v else u * v
theorem wn_none (w : World) (v : Int) : Wn w false none 0 0 (fun _ => 0) (if false = true then v else 0) := ⟨Rd.zero, fun j hj => by omega, by decide, by omega, fun _ => ⟨rfl, rfl⟩, rfl⟩
theorem kBs' {w0 w : World} {p : Addr} {v : Value} (hB : w0.heap.size ≤ p.block) (h : Below w0.heap.size w0 w) : Below w0.heap.size w0 (w.setCell p v) :=
  below_turned h h.size ((Turned.refl w0.heap.size (p.block + 1) w).set hB (Nat.lt_succ_self _) v) (Nat.le_refl _)
theorem kZd {w s x n d v} (h : Zn w s x n d v) : Zn w.drew s x n d v := ⟨h.dn.drew, h.sgn, h.pos⟩
theorem kZa {w s x n d v} {o : Obj} (h : Zn w s x n d v) : Zn (w.alloc o) s x n d v := h.alloc o
theorem kZb {w w' s x n d v} (hb : Below w.heap.size w w') (h : Zn w s x n d v) : Zn w' s x n d v := h.below hb
theorem ob2_at {w : World} {t : TypeId} {B : Nat} (h : B = w.heap.size) : Ob2 (w.alloc (.cells #[.bool false, .slice none 0 0] t)) B := by subst h; exact ob2_new w t
theorem kO2a {w : World} {B : Nat} {o : Obj} (h : Ob2 w B) : Ob2 (w.alloc o) B := h.alloc o
theorem kO2s {w : World} {B : Nat} {p : Addr} {v : Value} (hp : p.block ≠ B) (h : Ob2 w B) : Ob2 (w.setCell p v) B := ⟨by simpa [World.setCell] using h.z, kCs hp h.z0, kCs hp h.z1, fun o => kFs (h.zf o)⟩
theorem kZo {w B u0 u1 s x n d v} (h : Ob2 w B) (hx : Zn w s x n d v) : Zn ((w.setCell ⟨B, 0, none⟩ u0).setCell ⟨B, 1, none⟩ u1) s x n d v := ⟨h.dn hx.dn, hx.sgn, hx.pos⟩
theorem kZ0 {w : World} {b : Nat} {u : Value} {s x n d v} (hp : w.cell? ⟨b, 0, none⟩ = some (.bool false)) (h : Zn w s x n d v) : Zn (w.setCell ⟨b, 0, none⟩ u) s x n d v := ⟨⟨rd_setne hp (fun i h => by cases h) h.dn.rd, h.dn.dg, h.dn.fm, h.dn.val⟩, h.sgn, h.pos⟩
theorem kZ1 {w : World} {b : Nat} {u : Value} {s x n d v} (hp : w.cell? ⟨b, 1, none⟩ = some (.slice none 0 0)) (h : Zn w s x n d v) : Zn (w.setCell ⟨b, 1, none⟩ u) s x n d v := ⟨⟨rd_setne hp (fun i h => by cases h) h.dn.rd, h.dn.dg, h.dn.fm, h.dn.val⟩, h.sgn, h.pos⟩

end Go.Proofs.YthofcgpghbaccaaGreat
namespace Go.Proofs.YthofcgpghbaccaaGreat
open Go.RowKit

theorem vf_one_iff {g : Nat → Int} {m : Nat} (hl : Lm g m) (hf : Fm g m) : vf g m = 1 ↔ m = 1 ∧ g 0 = 1 := by
  constructor
  · intro h
    have h1 : Lm (fun _ => (1 : Int)) 1 := fun j _ => ⟨show (0 : Int) ≤ 1 by decide, show (1 : Int) < 18446744073709551616 by decide⟩
    have h2 : vf (fun _ => (1 : Int)) 1 = 1 := by decide
    obtain ⟨e1, e2⟩ := vf_inj hl h1 hf (.inr (by decide)) (h.trans h2.symm)
    exact ⟨e1, e2 0 (by omega)⟩
  · rintro ⟨rfl, h⟩
    simp [vf, pw, h]
theorem Dn.one_iff {w x k d V} (h : Dn w x k d V) : V = 1 ↔ k = 1 ∧ d 0 = 1 := by
  constructor
  · intro hV
    have h1 : Dg (fun _ => (1 : Int)) 1 := fun j _ => ⟨show (0 : Int) ≤ 1 by decide, show (1 : Int) < 4294967296 by decide⟩
    have h2 : vd (fun _ => (1 : Int)) 1 = 1 := by decide
    obtain ⟨e1, e2⟩ := vd_inj h.dg h1 h.fm (.inr (by decide)) (by rw [h.val, hV, h2]; rfl)
    exact ⟨e1, e2 0 (by omega)⟩
  · rintro ⟨rfl, h0⟩
    have := h.val
    simp [vd, pd, h0] at this
    omega

set_option maxRecDepth 100000 in
set_option maxHeartbeats 8000000 in
theorem qForm_c {w : World} {s : Bool} {x : Option Addr} {n c : Nat} {f : Nat → Int} {y : Option Addr} {m d : Nat} {g : Nat → Int} (h : Rw w x n c f y m d g) (hn : n ≤ 1000) (hm : m ≤ 1000) :
    Calls Tryz.prog 32 #[.agg #[.bool s, .slice x n c, .slice y m d]] w fun e w' => e = .returned (.bool (rfB s f n g m)) ∧ Below w.heap.size w w' := by
  obtain ⟨b, hb⟩ : ∃ b, rfB s f n g m = b := ⟨_, rfl⟩
  rw [hb]
  have H := hid h; have HB := hid hb
  have hw := below_alloc (Below.refl w.heap.size w) (.cells #[.bool s, .slice x n c, .slice y m d] 25)
  have hcx := bx3_new (Below.refl (w.alloc (.cells #[.bool s, .slice x n c, .slice y m d] 25)).heap.size _)
  clear h hb
  go_enter Tryz.func32, Tryz.ntmps32
  go_wp2_with fail
  generalize w.alloc (.cells #[.bool s, .slice x n c, .slice y m d] 25) = w1 at *
  have HW := hid hw; have BX := hid hcx
  clear hw hcx
  obtain ⟨z, x0, x1, x2⟩ := BX.out
  have c1 := rform_c x n c f w1 (by omega) (H.out.rx.below HW.out (Nat.le_refl _))
  cases h1 : fmB f n
  · have hbf : b = false := by rw [← HB.out]; simp [rfB, wfB, h1]
    subst hbf
    rw [h1] at c1
    refine c1.mono ?_
    rintro e w2 ⟨rfl, hw2⟩
    replace hw2 := hw2.symm
    subst hw2
    clear c1
    go_wp2
    go_ret
    exact ⟨rfl, HW.out⟩
  rw [h1] at c1
  refine c1.mono ?_
  rintro e w2 ⟨rfl, hw2⟩
  replace hw2 := hw2.symm
  subst hw2
  clear c1
  have F1 := hid h1
  clear h1
  have c2 := rform_c y m d g w1 (by omega) (H.out.ry.below HW.out (Nat.le_refl _))
  go_wp2_with fail
  cases h2 : fmB g m
  · have hbf : b = false := by rw [← HB.out]; simp [rfB, h2]
    subst hbf
    rw [h2] at c2
    refine c2.mono ?_
    rintro e w2 ⟨rfl, hw2⟩
    replace hw2 := hw2.symm
    subst hw2
    clear c2
    go_wp2
    go_ret
    exact ⟨rfl, HW.out⟩
  rw [h2] at c2
  refine c2.mono ?_
  rintro e w2 ⟨rfl, hw2⟩
  replace hw2 := hw2.symm
  subst hw2
  clear c2
  have F2 := hid h2
  clear h2
  by_cases hm0 : m = 0
  · subst hm0
    have hbf : b = false := by rw [← HB.out]; simp [rfB]
    subst hbf
    go_wp2
    go_ret
    exact ⟨rfl, HW.out⟩
  have hmd : ((m : Int) == 0) = false := by simp; omega
  by_cases hn0 : n = 0
  · subst hn0
    cases s
    · by_cases hm1 : m = 1
      · subst hm1
        have hry := H.out.ry.below HW.out (Nat.le_refl _)
        obtain ⟨bk, o, rfl⟩ := hry.at (by omega)
        have hcell := hry.cell (j := 0) (by omega)
        obtain ⟨t, ht⟩ : ∃ t, g 0 = t := ⟨_, rfl⟩
        rw [ht, Nat.add_zero] at hcell
        have hbf : b = (t == 1) := by
          rw [← HB.out, ← ht]
          have e := vf_one_iff H.out.ly (fm_of F2.out)
          have h0 := vf_nonneg H.out.ly
          have e1 : (vf g 1).toNat = 1 ↔ g 0 = 1 := by
            constructor
            · intro h; exact (e.1 (by omega)).2
            · intro h; have := e.2 ⟨rfl, h⟩; omega
          by_cases hg : g 0 = 1
          · simp [rfB, wfB, vf, hg, fmB, pw]
          · have hg' : ¬ ((vf g 1).toNat = 1) := fun h => hg (e1.1 h)
            have e3 : (vf f 0).toNat.gcd (vf g 1).toNat = (vf g 1).toNat := by simp [vf]
            simp [rfB, e3, hg', hg]
        have HBF := hid hbf
        clear ht hry hbf
        go_wp2
        go_ret
        exact ⟨by rw [HBF.out]; rfl, HW.out⟩
      · have hm1d : ((m : Int) == 1) = false := by simp; omega
        have hbf : b = false := by
          rw [← HB.out]
          have e := vf_one_iff H.out.ly (fm_of F2.out)
          have h0 := vf_nonneg H.out.ly
          have hg' : ¬ ((vf g m).toNat = 1) := fun h => hm1 (e.1 (by omega)).1
          have e3 : (vf f 0).toNat.gcd (vf g m).toNat = (vf g m).toNat := by simp [vf]
          simp [rfB, e3, hg']
        subst hbf
        go_wp2
        go_ret
        exact ⟨rfl, HW.out⟩
    · have hbf : b = false := by rw [← HB.out]; simp [rfB, wfB]
      subst hbf
      go_wp2
      go_ret
      exact ⟨rfl, HW.out⟩
  have hnd : ((n : Int) == 0) = false := by simp; omega
  have HBv : Hid (b = decide ((vf f n).toNat.gcd (vf g m).toNat = 1)) := by
    show b = _
    rw [← HB.out]
    have h3 : wfB s f n = true := (wfB_iff _ _ _).2 ⟨fm_of F1.out, fun _ => by omega⟩
    have h4 : decide (0 < m) = true := by simp; omega
    rw [show rfB s f n g m = (wfB s f n && (fmB g m && (decide (0 < m) && decide ((vf f n).toNat.gcd (vf g m).toNat = 1)))) from rfl, h3, F2.out, h4]
    simp
  have C1 : Hid (∀ W, Below w1.heap.size w1 W → Calls Tryz.prog 65 #[.slice x n c] W fun e w' => ∃ z k c d, e = .returned (.slice z k c) ∧ Below W.heap.size W w' ∧ Hid (k ≤ 2 * n ∧ Dn w' z k d (vf f n).toNat)) := fun W hW => fromD_c (by omega) ((H.out.below HW.out).below hW).rx H.out.lx
  have C2 : Hid (∀ W, Below w1.heap.size w1 W → Calls Tryz.prog 65 #[.slice y m d] W fun e w' => ∃ z k c d, e = .returned (.slice z k c) ∧ Below W.heap.size W w' ∧ Hid (k ≤ 2 * m ∧ Dn w' z k d (vf g m).toNat)) := fun W hW => fromD_c (by omega) ((H.out.below HW.out).below hW).ry H.out.ly
  have C3 : Hid (∀ (W : World) (z5 : Option Addr) (k5 c5 : Nat) (d5 : Nat → Int) (z6 : Option Addr) (k6 c6 : Nat) (d6 : Nat → Int), k5 ≤ 2 * n → k6 ≤ 2 * m → Dn W z5 k5 d5 (vf f n).toNat → Dn W z6 k6 d6 (vf g m).toNat → Calls Tryz.prog 64 #[.slice z5 k5 c5, .slice z6 k6 c6] W fun e w' => ∃ z k c' d, e = .returned (.slice z k c') ∧ Below W.heap.size W w' ∧ Hid (k ≤ k5 + k6 ∧ Dn w' z k d ((vf f n).toNat.gcd (vf g m).toNat))) := fun W z5 k5 c5 d5 z6 k6 c6 d6 h1 h2 h3 h4 => rgcd_c h3 h4 (by omega) (by omega)
  go_wp2_with fail
  go_region_held3 (fun w' => w'.cell? ⟨w.heap.size, 1, none⟩ = some (.slice x n c) ∧ w'.cell? ⟨w.heap.size, 2, none⟩ = some (.slice y m d))
    (refine ⟨?_, ?_⟩ <;> repeat (with_reducible first | assumption | refine kCd ?_ | refine kCb (by assumption) ?_))
    (first
      | (go_at_call 65; with_reducible refine (C1.out _ (by repeat (with_reducible first | assumption | exact Below.refl _ _ | refine Below.drew ?_ | refine kBb (by assumption) ?_))).mono ?_; rintro e v5 ⟨z5, k5, c5, d5, rfl, hb5, H5⟩)
      | (go_at_call 65; with_reducible refine (C2.out _ (by repeat (with_reducible first | assumption | exact Below.refl _ _ | refine Below.drew ?_ | refine kBb (by assumption) ?_))).mono ?_; rintro e v6 ⟨z6, k6, c6, d6, rfl, hb6, H6⟩)
      | (go_at_call 64; with_reducible refine (C3.out _ z5 k5 c5 d5 z6 k6 c6 d6 H5.out.1 H6.out.1 (by repeat (with_reducible first | exact H5.out.2 | refine Dn.drew ?_ | refine kDb (by assumption) ?_)) (by repeat (with_reducible first | exact H6.out.2 | refine Dn.drew ?_ | refine kDb (by assumption) ?_))).mono ?_; rintro e v7 ⟨z7, k7, c7, d7, rfl, hb7, H7⟩))
  all_goals
    have hb : Below w1.heap.size w1 v7 := (by repeat (with_reducible first | assumption | exact Below.refl _ _ | refine Below.drew ?_ | refine kBb (by assumption) ?_))
    have HBw := hid (HW.out.trans (hb.mono HW.out.size))
    have hone := H7.out.2.one_iff
    have hk7 := H7.out.1
    have hk5 := H5.out.1
    have hk6 := H6.out.1
    by_cases hk1 : k7 = 1
    · subst hk1
      have hr7 := H7.out.2.rd
      obtain ⟨bk, o, rfl⟩ := hr7.at (by omega)
      have hcell := hr7.cell (j := 0) (by omega)
      obtain ⟨t, ht⟩ : ∃ t, d7 0 = t := ⟨_, rfl⟩
      rw [ht, Nat.add_zero] at hcell
      rw [ht] at hone
      have hbf : b = (t == 1) := by
        rw [HBv.out]
        by_cases h1 : t = 1
        · simp [hone.2 ⟨rfl, h1⟩, h1]
        · have hx : ¬ ((vf f n).toNat.gcd (vf g m).toNat = 1) := fun h => h1 (hone.1 h).2
          simp [hx, h1]
      have HBF := hid hbf
      clear ht hr7 hbf hone hb
      go_wp2
      go_ret
      exact ⟨by rw [HBF.out]; rfl, HBw.out⟩
    · have hk1d : ((k7 : Int) == 1) = false := by simp; omega
      have hbf : b = false := by
        have hx : ¬ ((vf f n).toNat.gcd (vf g m).toNat = 1) := fun h => hk1 (hone.1 h).1
        rw [HBv.out]; simp [hx]
      subst hbf
      clear hone hb
      go_wp2
      go_ret
      exact ⟨rfl, HBw.out⟩
end Go.Proofs.YthofcgpghbaccaaGreat
namespace Go.Proofs.YthofcgpghbaccaaGreat
open Go.RowKit

/-- What Mk answers. -/
def MkGot (s : Bool) (n m : Nat) (A B : Nat) (w w' : World) (en : Ending) : Prop := ∃ r z k c' d' z2 k2 c2 d2, en = .returned (.agg #[.bool r, .slice z k c', .slice z2 k2 c2]) ∧ Below w.heap.size w w' ∧ k ≤ n + 2 ∧ k2 ≤ m + 2 ∧ r = (s && decide (0 < k)) ∧ Dn w' z k d' (A / A.gcd B) ∧ Dn w' z2 k2 d2 (B / A.gcd B)
theorem and_pos {s : Bool} {n : Nat} (h : 0 < n) : s = (s && decide (0 < n)) := by simp [h]

set_option maxRecDepth 100000 in
set_option maxHeartbeats 8000000 in
theorem mkZero_c {w : World} {s : Bool} {x : Option Addr} {c : Nat} {d : Nat → Int} {y : Option Addr} {m e : Nat} {g : Nat → Int} {A B : Nat} (ha : Dn w x 0 d A) (_hb : Dn w y m g B) (hs : s = false) (hB : 0 < B) :
    Calls Tryz.prog 66 #[.agg #[.bool s, .slice x 0 c], .slice y m e] w fun en w' => MkGot s 0 m A B w w' en := by
  have hA := ha.zero
  have h3 := ob_new (w.alloc (.cells #[.bool s, .slice x 0 c] 61)) 63
  rw [size_alloc1] at h3
  have h4 := below_alloc (below_alloc (Below.refl w.heap.size w) (.cells #[.bool s, .slice x 0 c] 61)) (.cells #[.bool false, .slice none 0 0, .slice none 0 0] 63)
  have h5 : Bx ((w.alloc (.cells #[.bool s, .slice x 0 c] 61)).alloc (.cells #[.bool false, .slice none 0 0, .slice none 0 0] 63)) w.heap.size s x 0 c := Bx.alloc ⟨by simp, kN0, kN1⟩ _
  clear ha
  have HA := hid hA; have HS := hid hs
  clear hA hs
  go_enter Tryz.func66, Tryz.ntmps66
  go_wp2_with fail
  generalize (w.alloc (.cells #[.bool s, .slice x 0 c] 61)).alloc (.cells #[.bool false, .slice none 0 0, .slice none 0 0] 63) = w1 at *
  have OB := hid h3; have HW := hid h4
  obtain ⟨hz, z0, z1, z2, zf⟩ := h3
  obtain ⟨za, a0, a1⟩ := h5
  clear h4
  have C1 : Hid (∀ W : World, Calls Tryz.prog 92 #[.int .u64 1] W fun e w' => ∃ z k cap d, e = .returned (.slice z k cap) ∧ Below W.heap.size W w' ∧ Hid (k ≤ 1 ∧ Dn w' z k d 1)) := fun W => dWord_c (V := 1) (by decide)
  go_region_held3 (fun w' => w'.cell? ⟨w.heap.size, 0, none⟩ = some (.bool s) ∧ w'.cell? ⟨w.heap.size, 1, none⟩ = some (.slice x 0 c) ∧ (w'.cell? ⟨w.heap.size + 1, 0, none⟩).isSome = true ∧ (w'.cell? ⟨w.heap.size + 1, 1, none⟩).isSome = true ∧ (w'.cell? ⟨w.heap.size + 1, 2, none⟩).isSome = true ∧ w'.frozen? ⟨w.heap.size + 1, 0, none⟩ = false ∧ w'.frozen? ⟨w.heap.size + 1, 1, none⟩ = false ∧ w'.frozen? ⟨w.heap.size + 1, 2, none⟩ = false)
    (refine ⟨?_, ?_, ?_, ?_, ?_, ?_, ?_, ?_⟩ <;> repeat (with_reducible first | assumption | exact zf _ | exact tf _ | exact kI0 z0 | exact kI0 z1 | exact kI0 z2 | exact kI0 t0 | exact kI0 t1 | exact kI0 t2 | refine kCd ?_ | refine kId ?_ | refine kFd ?_ | refine kCs (by simp only [ne_eq]; omega) ?_ | refine kIs ?_ | refine kFs ?_ | refine kCb (by assumption) ?_ | refine kIb (by assumption) ?_))
    (first | (go_at_call 92; with_reducible refine (C1.out _).mono ?_; rintro e w5 ⟨zb, kb, cb, db, rfl, hb5, HP⟩; have TU : Ob w5 (w.heap.size + 1) := (by repeat (with_reducible first | exact OB.out | refine Ob.drew ?_ | refine kOb (by assumption) ?_)); obtain ⟨_, t0, t1, t2, tf⟩ := id TU))
  all_goals
    have hb : Below w1.heap.size w1 w5 := (by repeat (with_reducible first | assumption | exact Below.refl _ _ | refine Below.drew ?_ | refine kBb (by assumption) ?_))
    go_wp2
    refine bodyPost_ret (v := .agg #[.bool s, .slice x 0 c, .slice zb kb cb]) (by simp [results, Tryz.results66, go_sem, t0, t1, t2]) rfl ⟨s, x, 0, c, fun _ => 0, zb, kb, cb, db, rfl, below_st (HW.out.trans (hb.mono HW.out.size)) (by omega), by omega, by have := HP.out.1; omega, by rw [HS.out]; rfl, ?_, ?_⟩
    · rw [HA.out, Nat.zero_div]; exact ⟨Rd.zero, fun j hj => by omega, .inl rfl, rfl⟩
    · rw [HA.out, Nat.gcd_zero_left, Nat.div_self hB]; exact TU.dn HP.out.2

set_option maxRecDepth 100000 in
set_option maxHeartbeats 8000000 in
theorem mkLong_c {w : World} {s : Bool} {x : Option Addr} {n c : Nat} {d : Nat → Int} {y : Option Addr} {m e : Nat} {g : Nat → Int} {A B : Nat} (ha : Dn w x n d A) (hb : Dn w y m g B) (h0 : 0 < A) (hn : n ≤ 131072) (hm : m ≤ 131072) (hB : 0 < B) (hl : ¬ (n ≤ 2 ∧ m ≤ 2)) :
    Calls Tryz.prog 66 #[.agg #[.bool s, .slice x n c], .slice y m e] w fun en w' => MkGot s n m A B w w' en := by
  have hn0 := ha.pos h0
  have h1 := (ha.alloc (.cells #[.bool s, .slice x n c] 61)).alloc (.cells #[.bool false, .slice none 0 0, .slice none 0 0] 63)
  have h2 := (hb.alloc (.cells #[.bool s, .slice x n c] 61)).alloc (.cells #[.bool false, .slice none 0 0, .slice none 0 0] 63)
  have h3 := ob_new (w.alloc (.cells #[.bool s, .slice x n c] 61)) 63
  rw [size_alloc1] at h3
  have h4 := below_alloc (below_alloc (Below.refl w.heap.size w) (.cells #[.bool s, .slice x n c] 61)) (.cells #[.bool false, .slice none 0 0, .slice none 0 0] 63)
  have h5 : Bx ((w.alloc (.cells #[.bool s, .slice x n c] 61)).alloc (.cells #[.bool false, .slice none 0 0, .slice none 0 0] 63)) w.heap.size s x n c := Bx.alloc ⟨by simp, kN0, kN1⟩ _
  clear ha hb
  have hnd : ((n : Int) == 0) = false := by simp; omega
  have hcase : decide ((n : Int) ≤ 2) = false ∨ (decide ((n : Int) ≤ 2) = true ∧ decide ((m : Int) ≤ 2) = false) := by
    by_cases h : n ≤ 2
    · right; exact ⟨decide_eq_true (by omega), decide_eq_false (by omega)⟩
    · left; exact decide_eq_false (by omega)
  have HBp := hid hB; have HAp := hid h0
  have HGp := hid (show 0 < A.gcd B from Nat.gcd_pos_of_pos_left _ h0)
  clear hl hB h0
  go_enter Tryz.func66, Tryz.ntmps66
  rcases hcase with hd1 | ⟨hd1, hd2⟩
  all_goals
    go_wp2_with fail
    generalize (w.alloc (.cells #[.bool s, .slice x n c] 61)).alloc (.cells #[.bool false, .slice none 0 0, .slice none 0 0] 63) = w1 at *
    have HA := hid h1; have HB := hid h2; have OB := hid h3; have HW := hid h4; have BX := hid h5
    clear h1 h2 h3 h4 h5
    refine (rgcd_c HA.out HB.out (by omega) (by omega)).mono ?_
    rintro en w2 ⟨zg, kg, cg, dg, rfl, hb2, HG⟩
    have HB2 := hid hb2
    have hkg := HG.out.1
    have hone := HG.out.2.one_iff
    clear hb2
    obtain ⟨za, a0, a1⟩ := BX.out.below HB2.out
    by_cases hg1 : A.gcd B = 1
    · obtain ⟨hk1, hd0⟩ := hone.1 hg1
      subst hk1
      have hr := HG.out.2.rd
      obtain ⟨bk, o, rfl⟩ := hr.at (by omega)
      have hcell := hr.cell (j := 0) (by omega)
      rw [hd0, Nat.add_zero] at hcell
      have HG1 := hid hg1
      clear hg1 hone hr hd0
      obtain ⟨hz, z0, z1, z2, zf⟩ := OB.out.below HB2.out
      go_wp2
      refine bodyPost_ret (v := .agg #[.bool s, .slice x n c, .slice y m e]) (by simp [results, Tryz.results66, go_sem, z0, z1, z2]) rfl ⟨s, x, n, c, d, y, m, e, g, rfl, below_st (HW.out.trans (HB2.out.mono HW.out.size)) (by omega), by omega, by omega, and_pos hn0, ?_, ?_⟩
      · rw [HG1.out, Nat.div_one]; exact (OB.out.below HB2.out).dn (HA.out.below HB2.out)
      · rw [HG1.out, Nat.div_one]; exact (OB.out.below HB2.out).dn (HB.out.below HB2.out)
    · have hgc : ((kg : Int) == 1) = false ∨ (kg = 1 ∧ (dg 0 == 1) = false) := by
        by_cases hk : kg = 1
        · right; refine ⟨hk, ?_⟩
          simp; intro h; exact hg1 (hone.2 ⟨hk, h⟩)
        · left; simp; omega
      have HGn := hid hg1
      clear hg1 hone
      rcases hgc with hgk | ⟨hgk, hgd⟩
      all_goals
        try (subst hgk; have hr := HG.out.2.rd; obtain ⟨bk, o, rfl⟩ := hr.at (by omega); have hcell := hr.cell (j := 0) (by omega); rw [Nat.add_zero] at hcell; clear hr)
        go_wp2_with fail
        refine (rdiv_c (HA.out.below HB2.out) HG.out.2 (by omega) (by omega) HGp.out).mono ?_
        rintro en w3 ⟨zq, kq, cq, dq, zr, kr, cr, dr, rfl, hb3, H3⟩
        have HB3 := hid hb3; have hkq := H3.out.1
        clear hb3
        go_wp2_with fail
        refine (rdiv_c ((HB.out.below HB2.out).below HB3.out) (HG.out.2.below HB3.out) (by omega) (by omega) HGp.out).mono ?_
        rintro en w4 ⟨zp, kp, cp, dp, zs, ks, cs, ds, rfl, hb4, H4⟩
        have HB4 := hid (HB2.out.trans ((HB3.out.trans (hb4.mono HB3.out.size)).mono HB2.out.size)); have HB34 := hid hb4
        have hkp := H4.out.1
        clear hb4 za a0 a1
        obtain ⟨za, a0, a1⟩ := BX.out.below HB4.out
        go_wp2_with fail
        refine (mkZ_c (by omega)).mono ?_
        rintro en w5 ⟨r5, rfl, hb5, HR5⟩
        have HB5 := hid (HB4.out.trans (hb5.mono HB4.out.size))
        have DQ := hid ((H3.out.2.2.1.below HB34.out).below hb5); have DP := hid (H4.out.2.2.1.below hb5)
        clear hb5 za a0 a1
        obtain ⟨hz, z0, z1, z2, zf⟩ := OB.out.below HB5.out
        go_wp2
        exact bodyPost_ret (v := .agg #[.bool r5, .slice zq kq cq, .slice zp kp cp]) (by simp [results, Tryz.results66, go_sem, z0, z1, z2]) rfl ⟨r5, zq, kq, cq, dq, zp, kp, cp, dp, rfl, below_st (HW.out.trans (HB5.out.mono HW.out.size)) (by omega), by omega, by omega, HR5.out, (OB.out.below HB5.out).dn DQ.out, (OB.out.below HB5.out).dn DP.out⟩

theorem mkQ_c {w : World} {s : Bool} {x : Option Addr} {n c : Nat} {d : Nat → Int} {y : Option Addr} {m e : Nat} {g : Nat → Int} {A B : Nat} (ha : Dn w x n d A) (hb : Dn w y m g B) (hs : s = true → 0 < n) (hn : n ≤ 131072) (hm : m ≤ 131072) (hB : 0 < B) :
    Calls Tryz.prog 66 #[.agg #[.bool s, .slice x n c], .slice y m e] w fun en w' => MkGot s n m A B w w' en := by
  rcases Nat.eq_zero_or_pos n with h0 | h0
  · subst h0
    exact mkZero_c ha hb (by cases s; rfl; exact absurd (hs rfl) (by omega)) hB
  · have hA := ha.pos' h0
    by_cases hl : n ≤ 2 ∧ m ≤ 2
    · exact (mkSmall_c ha hb hA hl.1 hl.2 hB).mono (fun _ _ ⟨r, z, k, c', d', z2, k2, c2, d2, h1, h2, h3, h4, h5, h6, h7⟩ => ⟨r, z, k, c', d', z2, k2, c2, d2, h1, h2, by omega, by omega, h5, h6, h7⟩)
    · exact mkLong_c ha hb hA hn hm hB hl
end Go.Proofs.YthofcgpghbaccaaGreat
