/-
  Walks of package rat's helpers: isOne, one, gcd, over, numerator, denominator, signed. Rational numbers in form that can be read; the walks of package rat's add and mul. The walk of package rat's mul. Walks of package rat's calls Form, Add, Sub, Mul, Quo on numbers in form; the document's Same and Light. How an argument that is a rational number is opened. Walks of the document's reference for whole: Form, From, Text, Read, DocText, DocRead. The walk of the document's reference for nat: Mul. Digits to the base 2^32 that can be read, with their number; the reference's Add, Sub, Mul on them. Walks of the document's reference for rat: word, Mk of short numbers. Walks of the document's reference for rat: Mk of short numbers. Walks of the document's reference for rat: To, DocMake of short numbers; the statements' own num. Walks of the statements' own num, and of package rat's calls Make and Floor. The walk of package rat's call Floor.
-/
import Derived.Test.YtlpmfmphglgocaaGreatDoorZ5
import Derived.Test.YtlpmfmphglgocaaGreatDoorZ2
import Derived.Test.YtlpmfmphglgocaaGreatDoorZ4
namespace Go.Proofs.YtlpmfmphglgocaaGreatDoor
open Go.RowKit

theorem Wn.fm {w s x n c f v} (h : Wn w s x n c f v) : Fm f n := fm_of_wfB h.wf
theorem Wn.nv {w x n c f v} (h : Wn w false x n c f v) : vf f n = v := h.val
theorem Wn.pos {w x n c f v} (h : Wn w false x n c f v) (hv : 0 < v) : 0 < n := by
  rcases Nat.eq_zero_or_pos n with h0 | h0
  · subst h0; have : (0 : Int) = v := h.nv; omega
  · exact h0
theorem one_iff {f : Nat → Int} {n : Nat} {A : Int} (hl : Lm f n) (hf : Fm f n) (hv : vf f n = A) : A = 1 ↔ n = 1 ∧ f 0 = 1 := by
  have v1 : vf f 1 = f 0 := by simp [vf, pw]
  constructor
  · intro h
    have h0 : n ≠ 0 := fun h0 => by subst h0; simp [vf] at hv; omega
    have h1 := vf_form_ge hl hf (by omega)
    have hn : n = 1 := by
      rcases Nat.lt_or_ge 1 n with h2 | h2
      · have h3 := pw_mono (show 1 ≤ n - 1 by omega)
        have : pw 1 = 18446744073709551616 := by simp [pw]
        omega
      · omega
    subst hn
    exact ⟨rfl, by rw [← v1, hv, h]⟩
  · rintro ⟨rfl, h⟩
    rw [← hv, v1, h]
theorem isOne_c {w : World} {x n c f} {A : Int} (ha : Wn w false x n c f A) :
    Calls Tryz.prog 61 #[.slice x n c] w fun e w' => e = .returned (.bool (decide (A = 1))) ∧ w' = w := by
  have hi := one_iff ha.lm ha.fm ha.nv
  have hr := ha.rd
  have hn : n ≤ 9223372036854775807 := by have := ha.cap; omega
  by_cases h1 : n = 1
  · subst h1
    obtain ⟨b, o, rfl⟩ := hr.at (by omega)
    obtain ⟨y, hy⟩ : ∃ y, f 0 = y := ⟨_, rfl⟩
    have hc : w.cell? ⟨b, o, none⟩ = some (.int .u64 y) := by rw [← hy]; exact hr.cell (j := 0) (by omega)
    have e : decide (A = 1) = (y == 1) := by
      rw [hy] at hi
      by_cases h : y = 1 <;> simp_all
    have E := hid e
    clear hr hy e hi ha
    go_enter Tryz.func61, Tryz.ntmps61
    go_wp2
    go_ret
    exact ⟨by rw [E.out]; rfl, rfl⟩
  · have h1' : ((n : Int) == 1) = false := by simp; omega
    have e : decide (A = 1) = false := by simp; intro h; exact h1 (hi.1 h).1
    have E := hid e
    clear hr e hi ha
    go_enter Tryz.func61, Tryz.ntmps61
    go_wp2
    go_ret
    exact ⟨by rw [E.out]; rfl, rfl⟩
/-- A new list of the number 1. -/
theorem ratOne_c (w : World) :
    Calls Tryz.prog 65 #[] w fun e w' => ∃ x f, e = .returned (.slice x 1 1) ∧ Below w.heap.size w w' ∧ Wn w' false x 1 1 f 1 := by
  go_enter Tryz.func65, Tryz.ntmps65
  go_wp2
  go_ret
  refine ⟨_, fun _ => 1, rfl, ?_, ?_⟩
  · exact below_alloc (Below.refl _ _) _
  · refine ⟨Rd.mk (fun j hj => ?_), fun j _ => by simp, ?_, by omega, (fun h => by cases h), ?_⟩
    · have : j = 0 := by omega
      subst this
      simp [go_sem]
    · decide
    · simp [wv, vf, pw]
theorem gcd_n {w : World} {x n c f y m d g} {A B : Nat} (ha : Wn w false x n c f A) (hb : Wn w false y m d g B) (hn : n ≤ 1048576) (hm : m ≤ 1048576) :
    Calls Tryz.prog 82 #[.slice x n c, .slice y m d] w fun e w' => ∃ z k e' h, e = .returned (.tuple #[.slice z k e', .int .i64 0]) ∧ Below w.heap.size w w' ∧ Wn w' false z k e' h (A.gcd B : Nat) := by
  refine (Gcd_c x y n m c d f g w (by omega) (by omega) ha.rd hb.rd ha.lm hb.lm).mono ?_
  rintro e w' ⟨z, k, e', h, er, rfl, hres, hv⟩
  have hr := hres.ans (by omega)
  rcases hv with ⟨_, _, rfl, hv⟩ | ⟨h1, _⟩
  · refine ⟨z, k, e', h, rfl, hr.bel, hr.rd, hr.lm, (wfB_iff _ _ _).2 ⟨hr.fm, fun h => by cases h⟩, hr.ncap, hr.nil', ?_⟩
    show vf h k = _
    rw [hv, ha.nv, hb.nv]; simp
  · exact absurd ⟨ha.fm, hb.fm⟩ h1
theorem div_n {w : World} {x n c f y m d g} {A B : Nat} (ha : Wn w false x n c f A) (hb : Wn w false y m d g B) (h0 : 0 < B) (hn : n ≤ 1048576) (hm : m ≤ 1048576) :
    Calls Tryz.prog 51 #[.slice x n c, .slice y m d] w fun e w' => ∃ z k e' h z2 k2 e2, e = .returned (.tuple #[.slice z k e', .slice z2 k2 e2, .int .i64 0]) ∧ Below w.heap.size w w' ∧ k ≤ n ∧ Wn w' false z k e' h (A / B : Nat) := by
  refine (DivMod_c x y n m c d f g w (by omega) (by omega) ha.rd hb.rd ha.lm hb.lm).mono ?_
  rintro e w' ⟨z, k, e', h, z2, k2, e2, r, er, rfl, hres, _, hv⟩
  have hr := hres.ans (by omega)
  have hmp := hb.pos (by omega)
  rcases hv with ⟨_, _, _, rfl, hv, h1, h2⟩ | ⟨_, _, h1, _⟩ | ⟨h1, _⟩
  · refine ⟨z, k, e', h, z2, k2, e2, rfl, hr.bel, hr.le, hr.rd, hr.lm, (wfB_iff _ _ _).2 ⟨hr.fm, fun h => by cases h⟩, hr.ncap, hr.nil', ?_⟩
    show vf h k = _
    rw [ha.nv, hb.nv] at hv
    rw [hb.nv] at h2
    have hq := vf_nonneg hr.lm
    obtain ⟨Q, hQ⟩ := Int.eq_ofNat_of_zero_le hq
    obtain ⟨R, hR⟩ := Int.eq_ofNat_of_zero_le h1
    rw [hQ, hR] at hv
    rw [hR] at h2
    rw [hQ]
    have h3 : A = Q * B + R := by exact_mod_cast hv
    have h4 : R < B := by exact_mod_cast h2
    have : A / B = Q := by rw [h3, Nat.mul_comm, Nat.mul_add_div h0, Nat.div_eq_of_lt h4]; rfl
    rw [this]
  · omega
  · exact absurd ⟨ha.fm, hb.fm⟩ h1
theorem natMul_n {w : World} {x n c f y m d g} {A B : Nat} (ha : Wn w false x n c f A) (hb : Wn w false y m d g B) (hn : n ≤ 1048576) (hm : m ≤ 1048576) :
    Calls Tryz.prog 89 #[.slice x n c, .slice y m d] w fun e w' => ∃ z k e' h, e = .returned (.tuple #[.slice z k e', .int .i64 0]) ∧ Below w.heap.size w w' ∧ k ≤ n + m ∧ Wn w' false z k e' h (A * B : Nat) := by
  refine (Mul_c x y n m c d f g w (by omega) (by omega) ha.cap.1 hb.cap.1 ha.cap.2 hb.cap.2 ha.rd hb.rd ha.lm hb.lm).mono ?_
  rintro e w' ⟨z, k, e', h, er, rfl, hres, hv⟩
  have hr := hres.ans (by omega)
  rcases hv with ⟨_, _, rfl, hv⟩ | ⟨h1, _⟩
  · refine ⟨z, k, e', h, rfl, hr.bel, hr.le, hr.rd, hr.lm, (wfB_iff _ _ _).2 ⟨hr.fm, fun h => by cases h⟩, hr.ncap, hr.nil', ?_⟩
    show vf h k = _
    rw [hv, ha.nv, hb.nv]; simp
  · exact absurd ⟨ha.fm, hb.fm⟩ h1
/-- The limbs of a divisor are no more than those of what it divides. -/
theorem Wn.len_le {w w' x n c f y m d g} {A B : Nat} (ha : Wn w false x n c f A) (hb : Wn w' false y m d g B) (h : A ≤ B) : n ≤ m :=
  vf_len ha.lm hb.lm ha.fm (by rw [ha.nv, hb.nv]; exact_mod_cast h)
set_option maxHeartbeats 800000 in
theorem ratGcd_c {w : World} {x n c f y m d g} {A B : Nat} (ha : Wn w false x n c f A) (hb : Wn w false y m d g B) (hn : n ≤ 1048576) (hm : m ≤ 1048576) :
    Calls Tryz.prog 50 #[.slice x n c, .slice y m d] w fun e w' => ∃ z k e' h, e = .returned (.slice z k e') ∧ Below w.heap.size w w' ∧ Wn w' false z k e' h (A.gcd B : Nat) := by
  have C1 := hid (isOne_c ha); have C2 := hid (isOne_c hb); have C3 := hid (gcd_n ha hb hn hm)
  by_cases h1 : A = 1
  · have e1 : decide ((A : Int) = 1) = true := by simp [h1]
    have e2 : A.gcd B = 1 := by rw [h1]; simp
    rw [e2]
    rw [e1] at C1
    clear ha hb e1 e2 h1 C2 C3
    go_enter Tryz.func50, Tryz.ntmps50
    go_wp2_with fail
    refine C1.out.mono ?_
    rintro e w1 ⟨rfl, rfl⟩
    go_wp2_with fail
    refine (ratOne_c _).mono ?_
    rintro e w2 ⟨z, h, rfl, h1, h2⟩
    go_wp2
    go_ret
    exact ⟨z, 1, 1, h, rfl, h1, h2⟩
  · have e1 : decide ((A : Int) = 1) = false := by simp; omega
    rw [e1] at C1
    by_cases h2 : B = 1
    · have e1 : decide ((B : Int) = 1) = true := by simp [h2]
      have e2 : A.gcd B = 1 := by rw [h2]; simp
      rw [e2]
      rw [e1] at C2
      clear ha hb e1 e2 h1 C3
      go_enter Tryz.func50, Tryz.ntmps50
      go_wp2_with fail
      refine C1.out.mono ?_
      rintro e w1 ⟨rfl, rfl⟩
      go_wp2_with fail
      refine C2.out.mono ?_
      rintro e w1 ⟨rfl, rfl⟩
      go_wp2_with fail
      refine (ratOne_c _).mono ?_
      rintro e w2 ⟨z, h, rfl, h1, h2⟩
      go_wp2
      go_ret
      exact ⟨z, 1, 1, h, rfl, h1, h2⟩
    · have e1 : decide ((B : Int) = 1) = false := by simp; omega
      rw [e1] at C2
      clear ha hb e1 h1
      go_enter Tryz.func50, Tryz.ntmps50
      go_wp2_with fail
      refine C1.out.mono ?_
      rintro e w1 ⟨rfl, rfl⟩
      go_wp2_with fail
      refine C2.out.mono ?_
      rintro e w1 ⟨rfl, rfl⟩
      go_wp2_with fail
      refine C3.out.mono ?_
      rintro e w2 ⟨z, k, e', h, rfl, h1, h2⟩
      have H2 := hid h2
      clear h2
      go_wp2
      go_ret
      exact ⟨z, k, e', h, rfl, h1, H2.out⟩
set_option maxHeartbeats 800000 in
theorem over_c {w : World} {x n c f y m d g} {A B : Nat} (ha : Wn w false x n c f A) (hb : Wn w false y m d g B) (h0 : 0 < B) (hn : n ≤ 1048576) (hm : m ≤ 1048576) :
    Calls Tryz.prog 86 #[.slice x n c, .slice y m d] w fun e w' => ∃ z k e' h, e = .returned (.slice z k e') ∧ Below w.heap.size w w' ∧ Hid (k ≤ n ∧ Wn w' false z k e' h (A / B : Nat)) := by
  have C2 := hid (isOne_c hb); have C3 := hid (div_n ha hb h0 hn hm); have HA := hid ha
  by_cases h2 : B = 1
  · have e1 : decide ((B : Int) = 1) = true := by simp [h2]
    have e2 : A / B = A := by rw [h2]; simp
    rw [e2]
    rw [e1] at C2
    clear ha hb e1 e2 C3 h0 h2
    go_enter Tryz.func86, Tryz.ntmps86
    go_wp2_with fail
    refine C2.out.mono ?_
    rintro e w1 ⟨rfl, rfl⟩
    go_wp2
    go_ret
    exact ⟨x, n, c, f, rfl, Below.refl _ _, Nat.le_refl _, HA.out⟩
  · have e1 : decide ((B : Int) = 1) = false := by simp; omega
    rw [e1] at C2
    clear ha hb e1 h0 h2
    go_enter Tryz.func86, Tryz.ntmps86
    go_wp2_with fail
    refine C2.out.mono ?_
    rintro e w1 ⟨rfl, rfl⟩
    go_wp2_with fail
    refine C3.out.mono ?_
    rintro e w2 ⟨z, k, e', h, z2, k2, e2, rfl, h1, h2, h3⟩
    have H2 := hid (And.intro h2 h3)
    clear h2 h3
    go_wp2
    go_ret
    exact ⟨z, k, e', h, rfl, h1, H2.out⟩
theorem numer_c (s : Bool) (x y : Option Addr) (n c m d : Nat) (w : World) :
    Calls Tryz.prog 58 #[.agg #[.bool s, .slice x n c, .slice y m d]] w fun e w' => e = .returned (.agg #[.bool s, .slice x n c]) ∧ Below w.heap.size w w' := by
  go_enter Tryz.func58, Tryz.ntmps58
  go_wp2
  refine bodyPost_ret (v := .agg #[.bool s, .slice x n c]) (by simp [results, Tryz.results58, go_sem]) rfl ⟨rfl, ?_⟩
  exact below_alloc (below_alloc (Below.refl w.heap.size w) _) _
theorem denom_c (s : Bool) (x y : Option Addr) (n c m d : Nat) (w : World) :
    Calls Tryz.prog 59 #[.agg #[.bool s, .slice x n c, .slice y m d]] w fun e w' => e = .returned (.agg #[.bool false, .slice y m d]) ∧ Below w.heap.size w w' := by
  go_enter Tryz.func59, Tryz.ntmps59
  go_wp2
  refine bodyPost_ret (v := .agg #[.bool false, .slice y m d]) (by simp [results, Tryz.results59, go_sem]) rfl ⟨rfl, ?_⟩
  exact below_alloc (below_alloc (Below.refl w.heap.size w) _) _
theorem rsigned_c (s : Bool) (x y : Option Addr) (n c m d : Nat) (w : World) (hm : n ≤ 9223372036854775807) :
    Calls Tryz.prog 52 #[.bool s, .slice x n c, .slice y m d] w fun e w' => ∃ r, e = .returned (.agg #[.bool r, .slice x n c, .slice y m d]) ∧ Hid (r = (s && decide (0 < n))) ∧ Below w.heap.size w w' := by
  have key : ∀ u, Below w.heap.size w (w.alloc u) := fun u => below_alloc (Below.refl w.heap.size w) u
  cases s
  · go_enter Tryz.func52, Tryz.ntmps52
    go_wp2
    exact bodyPost_ret (v := .agg #[.bool false, .slice x n c, .slice y m d]) (by simp [results, Tryz.results52, go_sem]) rfl ⟨false, rfl, rfl, key _⟩
  · by_cases hn0 : 0 < n
    · have hni : decide ((0 : Int) < (n : Int)) = true := by simp; omega
      have hdn : decide (0 < n) = true := by simp; omega
      rw [hdn]
      clear hdn
      go_enter Tryz.func52, Tryz.ntmps52
      go_wp2
      exact bodyPost_ret (v := .agg #[.bool true, .slice x n c, .slice y m d]) (by simp [results, Tryz.results52, go_sem]) rfl ⟨true, rfl, rfl, key _⟩
    · have hni : decide ((0 : Int) < (n : Int)) = false := by simp; omega
      have hdn : decide (0 < n) = false := by simp; omega
      rw [hdn]
      clear hdn
      go_enter Tryz.func52, Tryz.ntmps52
      go_wp2
      exact bodyPost_ret (v := .agg #[.bool false, .slice x n c, .slice y m d]) (by simp [results, Tryz.results52, go_sem]) rfl ⟨false, rfl, rfl, key _⟩
end Go.Proofs.YtlpmfmphglgocaaGreatDoor
namespace Go.Proofs.YtlpmfmphglgocaaGreatDoor
open Go.RowKit

/-- A rational number in form that can be read, of at most L limbs above and below. -/
structure Rn (L : Nat) (w : World) (s : Bool) (x : Option Addr) (n c : Nat) (f : Nat → Int) (y : Option Addr) (m d : Nat) (g : Nat → Int) (q : Rat) : Prop where
  num : Wn w s x n c f q.num
  den : Wn w false y m d g (q.den : Int)
  ln : n ≤ L
  ld : m ≤ L
theorem Rn.below {L w w' s x n c f y m d g q} (h : Rn L w s x n c f y m d g q) (hb : Below w.heap.size w w') : Rn L w' s x n c f y m d g q := ⟨h.num.below hb, h.den.below hb, h.ln, h.ld⟩
theorem Rn.alloc {L w s x n c f y m d g q} (h : Rn L w s x n c f y m d g q) (o : Obj) : Rn L (w.alloc o) s x n c f y m d g q := ⟨h.num.alloc o, h.den.alloc o, h.ln, h.ld⟩
theorem Rn.next {L w w' s x n c f y m d g q} {o : Obj} (h : Rn L w s x n c f y m d g q) (hb : Below (w.alloc o).heap.size (w.alloc o) w') : Rn L w' s x n c f y m d g q := (h.alloc o).below hb
theorem Rn.mono {L L' w s x n c f y m d g q} (h : Rn L w s x n c f y m d g q) (hL : L ≤ L') : Rn L' w s x n c f y m d g q := ⟨h.num, h.den, Nat.le_trans h.ln hL, Nat.le_trans h.ld hL⟩
theorem Wn.mag {w s x n c f v} (h : Wn w s x n c f v) : Wn w false x n c f (v.natAbs : Nat) := by
  refine ⟨h.rd, h.lm, (wfB_iff _ _ _).2 ⟨h.fm, fun h => by cases h⟩, h.cap, h.nil, ?_⟩
  have h0 := vf_nonneg h.lm
  have hv := h.val
  show vf f n = _
  cases s
  · rw [wv_false] at hv; omega
  · rw [wv_true] at hv; omega
theorem Wn.sgn {w s x n c f v} (h : Wn w s x n c f v) : v = sg s v.natAbs := by
  have h0 := vf_nonneg h.lm
  have hv := h.val
  cases s
  · rw [wv_false] at hv; show v = (v.natAbs : Int); omega
  · rw [wv_true] at hv; show v = -(v.natAbs : Int); omega
theorem Wn.resign {w x n c f} {A : Nat} {r s : Bool} (h : Wn w false x n c f (A : Int)) (hr : r = (s && decide (0 < n))) : Wn w r x n c f (sg s A) := by
  refine ⟨h.rd, h.lm, (wfB_iff _ _ _).2 ⟨h.fm, fun h => by rw [hr] at h; simp at h; exact h.2⟩, h.cap, h.nil, ?_⟩
  have hv := h.nv
  rcases Nat.eq_zero_or_pos n with h0 | h0
  · subst h0
    have hA : (0 : Int) = A := hv
    have : A = 0 := by omega
    subst this; subst hr
    cases s <;> rfl
  · have : r = s := by rw [hr]; simp [h0]
    subst this
    cases r
    · exact hv
    · show -vf f n = -(A : Int); rw [hv]
/-- Three boxes of three cells from block B on; the third can be written. -/
structure Three (B : Nat) (w : World) (a0 a1 a2 b0 b1 b2 c0 c1 c2 : Value) : Prop where
  z : B + 1 + 1 < w.heap.size
  x0 : w.cell? ⟨B, 0, none⟩ = some a0
  x1 : w.cell? ⟨B, 1, none⟩ = some a1
  x2 : w.cell? ⟨B, 2, none⟩ = some a2
  y0 : w.cell? ⟨B + 1, 0, none⟩ = some b0
  y1 : w.cell? ⟨B + 1, 1, none⟩ = some b1
  y2 : w.cell? ⟨B + 1, 2, none⟩ = some b2
  z0 : w.cell? ⟨B + 1 + 1, 0, none⟩ = some c0
  z1 : w.cell? ⟨B + 1 + 1, 1, none⟩ = some c1
  z2 : w.cell? ⟨B + 1 + 1, 2, none⟩ = some c2
  zf : ∀ o, w.frozen? ⟨B + 1 + 1, o, none⟩ = false
theorem Three.below {B w w' a0 a1 a2 b0 b1 b2 c0 c1 c2} (h : Three B w a0 a1 a2 b0 b1 b2 c0 c1 c2) (hb : Below w.heap.size w w') : Three B w' a0 a1 a2 b0 b1 b2 c0 c1 c2 := by
  obtain ⟨h1, h2⟩ := bcell hb
  have hz := hb.size
  have z := h.z
  exact ⟨by omega, kCb hb h.x0, kCb hb h.x1, kCb hb h.x2, kCb hb h.y0, kCb hb h.y1, kCb hb h.y2, kCb hb h.z0, kCb hb h.z1, kCb hb h.z2, fun o => (h2 _ _ (by omega)).trans (h.zf o)⟩
theorem Three.alloc {B w a0 a1 a2 b0 b1 b2 c0 c1 c2} (h : Three B w a0 a1 a2 b0 b1 b2 c0 c1 c2) (o : Obj) : Three B (w.alloc o) a0 a1 a2 b0 b1 b2 c0 c1 c2 := h.below (below_alloc (Below.refl _ _) o)
theorem three_new {w w1 : World} {a0 a1 a2 b0 b1 b2 c0 c1 c2 : Value} {t : TypeId} (hb : Below (((w.alloc (.cells #[a0, a1, a2] t)).alloc (.cells #[b0, b1, b2] t)).alloc (.cells #[c0, c1, c2] t)).heap.size (((w.alloc (.cells #[a0, a1, a2] t)).alloc (.cells #[b0, b1, b2] t)).alloc (.cells #[c0, c1, c2] t)) w1) :
    Three w.heap.size w1 a0 a1 a2 b0 b1 b2 c0 c1 c2 ∧ Below w.heap.size w w1 := by
  have h0 : Three w.heap.size (((w.alloc (.cells #[a0, a1, a2] t)).alloc (.cells #[b0, b1, b2] t)).alloc (.cells #[c0, c1, c2] t)) a0 a1 a2 b0 b1 b2 c0 c1 c2 := by
    refine ⟨by simp, by simp [go_sem], by simp [go_sem], by simp [go_sem], by simp [go_sem], by simp [go_sem], by simp [go_sem], by simp [go_sem], by simp [go_sem], by simp [go_sem], fun o => ?_⟩
    have e := heap_alloc_new ((w.alloc (.cells #[a0, a1, a2] t)).alloc (.cells #[b0, b1, b2] t)) (.cells #[c0, c1, c2] t)
    rw [size_alloc1, size_alloc1] at e
    simp only [World.frozen?, e]; simp
  exact ⟨h0.below hb, (below_alloc (below_alloc (below_alloc (Below.refl w.heap.size w) _) _) _).trans (hb.mono (by simp; omega))⟩
/-- A rational number that a call answers. -/
def RatAns (L : Nat) (w w' : World) (e : Ending) (q : Rat) : Prop := ∃ s x n c f y m d g, e = .returned (.agg #[.bool s, .slice x n c, .slice y m d]) ∧ Below w.heap.size w w' ∧ Rn L w' s x n c f y m d g q
/-- One without an error. -/
def RatTup (L : Nat) (w w' : World) (e : Ending) (q : Rat) : Prop := ∃ s x n c f y m d g, e = .returned (.tuple #[.agg #[.bool s, .slice x n c, .slice y m d], .int .i64 0]) ∧ Below w.heap.size w w' ∧ Rn L w' s x n c f y m d g q
theorem kIb {w w' : World} {a : Addr} (hb : Below w.heap.size w w') (h : (w.cell? a).isSome = true) : (w'.cell? a).isSome = true := by
  obtain ⟨u, hu⟩ := Option.isSome_iff_exists.1 h
  rw [kCb hb hu]; rfl
theorem kWd {w s x n c f v} (h : Wn w s x n c f v) : Wn w.drew s x n c f v := ⟨h.rd, h.lm, h.wf, h.cap, h.nil, h.val⟩
theorem kWb {w w' s x n c f v} (hb : Below w.heap.size w w') (h : Wn w s x n c f v) : Wn w' s x n c f v := h.below hb
theorem kTd {B w a0 a1 a2 b0 b1 b2 c0 c1 c2} (h : Three B w a0 a1 a2 b0 b1 b2 c0 c1 c2) : Three B w.drew a0 a1 a2 b0 b1 b2 c0 c1 c2 := ⟨h.z, h.x0, h.x1, h.x2, h.y0, h.y1, h.y2, h.z0, h.z1, h.z2, h.zf⟩
theorem kTb {B w w' a0 a1 a2 b0 b1 b2 c0 c1 c2} (hb : Below w.heap.size w w') (h : Three B w a0 a1 a2 b0 b1 b2 c0 c1 c2) : Three B w' a0 a1 a2 b0 b1 b2 c0 c1 c2 := h.below hb
theorem Three.next {B w w' a0 a1 a2 b0 b1 b2 c0 c1 c2} {o : Obj} (h : Three B w a0 a1 a2 b0 b1 b2 c0 c1 c2) (hb : Below (w.alloc o).heap.size (w.alloc o) w') : Three B w' a0 a1 a2 b0 b1 b2 c0 c1 c2 := (h.alloc o).below hb
theorem cell_off {w : World} {b i j : Nat} {u v : Value} (hij : i ≠ j) (h : w.cell? ⟨b, j, none⟩ = some u) : (w.setCell ⟨b, i, none⟩ v).cell? ⟨b, j, none⟩ = some u := by
  rw [World.cell?_setCell_other _ _ _ _ (fun he => hij (congrArg Addr.off he))]; exact h
theorem Wn.set {w : World} {p : Addr} {v u : Value} {s x n c f z} (hp : w.cell? p = some v) (hv : ∀ i, v ≠ .int .u64 i) (h : Wn w s x n c f z) : Wn (w.setCell p u) s x n c f z := by
  refine ⟨fun j hj => ?_, h.lm, h.wf, h.cap, h.nil, h.val⟩
  obtain ⟨b, o, hx, hc⟩ := h.rd j hj
  refine ⟨b, o, hx, ?_⟩
  rw [World.cell?_setCell_other _ _ _ _ (fun he => hv _ (Option.some.inj (hp.symm.trans (he ▸ hc))))]
  exact hc
/-- The answer's box is written. -/
theorem Three.store {B w a0 a1 a2 b0 b1 b2 e0 e1 n1 m1 e2 n2 m2 u0 u1 u2 s x n c f v} (h : Three B w a0 a1 a2 b0 b1 b2 (.bool e0) (.slice e1 n1 m1) (.slice e2 n2 m2)) (hx : Wn w s x n c f v) :
    Wn (((w.setCell ⟨B + 1 + 1, 0, none⟩ u0).setCell ⟨B + 1 + 1, 1, none⟩ u1).setCell ⟨B + 1 + 1, 2, none⟩ u2) s x n c f v :=
  ((hx.set h.z0 (fun i h => by cases h)).set (cell_off (by decide) h.z1) (fun i h => by cases h)).set (cell_off (by decide) (cell_off (by decide) h.z2)) (fun i h => by cases h)
theorem below_store {w0 w : World} {u0 u1 u2 : Value} (hw : Below w0.heap.size w0 w) :
    Below w0.heap.size w0 (((w.setCell ⟨w0.heap.size + 1 + 1, 0, none⟩ u0).setCell ⟨w0.heap.size + 1 + 1, 1, none⟩ u1).setCell ⟨w0.heap.size + 1 + 1, 2, none⟩ u2) :=
  below_turned hw hw.size ((((Turned.refl w0.heap.size (w0.heap.size + 1 + 1 + 1) w).set (x := ⟨w0.heap.size + 1 + 1, 0, none⟩) (by simp; omega) (by simp) _).set (x := ⟨w0.heap.size + 1 + 1, 1, none⟩) (by simp; omega) (by simp) _).set (x := ⟨w0.heap.size + 1 + 1, 2, none⟩) (by simp; omega) (by simp) _) (Nat.le_refl _)
theorem add_made {a b : Rat} {s : Bool} {S : Int} (hS : S = a.num * (b.den / a.den.gcd b.den : Nat) + b.num * (a.den / a.den.gcd b.den : Nat)) (hs : S = sg s S.natAbs) :
    sg s (S.natAbs / S.natAbs.gcd (a.den.gcd b.den)) = (a + b).num ∧ a.den / a.den.gcd b.den * (b.den / S.natAbs.gcd (a.den.gcd b.den)) = (a + b).den := by
  have hG : 0 < a.den.gcd b.den := Nat.gcd_pos_of_pos_left _ a.den_pos
  have hL : 0 < S.natAbs.gcd (a.den.gcd b.den) := Nat.gcd_pos_of_pos_right _ hG
  obtain ⟨K, hK⟩ := Nat.gcd_dvd_left S.natAbs (a.den.gcd b.den)
  have hN : sg s (S.natAbs / S.natAbs.gcd (a.den.gcd b.den)) * (S.natAbs.gcd (a.den.gcd b.den) : Nat) = S := by
    have h1 : S.natAbs / S.natAbs.gcd (a.den.gcd b.den) = K := by
      have := Nat.mul_div_cancel_left K hL
      rw [← hK] at this; exact this
    rw [h1]
    generalize S.natAbs.gcd (a.den.gcd b.den) = l at hK
    rw [hs, hK]
    cases s
    · show (K : Int) * l = ((l * K : Nat) : Int); rw [Int.natCast_mul, Int.mul_comm]
    · show (-(K : Int)) * l = -((l * K : Nat) : Int); rw [Int.natCast_mul, Int.neg_mul, Int.mul_comm]
  have := radd (a := a) (b := b) rfl (Nat.div_mul_cancel (Nat.gcd_dvd_left _ _)) (Nat.div_mul_cancel (Nat.gcd_dvd_right _ _)) hS rfl (Nat.div_mul_cancel (Nat.dvd_trans (Nat.gcd_dvd_right _ _) (Nat.gcd_dvd_right _ _))) hN
  exact ⟨this.1.symm, this.2.symm⟩

set_option maxRecDepth 100000 in
set_option maxHeartbeats 4000000 in
theorem ratadd_c {L : Nat} {w : World} {sa : Bool} {xa : Option Addr} {na ca : Nat} {fa : Nat → Int} {ya : Option Addr} {ma da : Nat} {ga : Nat → Int} {a : Rat} {sb : Bool} {xb : Option Addr} {nb cb : Nat} {fb : Nat → Int} {yb : Option Addr} {mb db : Nat} {gb : Nat → Int} {b : Rat} (ha : Rn L w sa xa na ca fa ya ma da ga a) (hb : Rn L w sb xb nb cb fb yb mb db gb b) (hL : L ≤ 200000) :
    Calls Tryz.prog 55 #[.agg #[.bool sa, .slice xa na ca, .slice ya ma da], .agg #[.bool sb, .slice xb nb cb, .slice yb mb db]] w fun e w' => RatAns (2 * L + 1) w w' e (a + b) := by
  have HA0 := hid ha; have HB0 := hid hb
  have b1 := ha.ln; have b2 := ha.ld; have b3 := hb.ln; have b4 := hb.ld
  clear ha hb
  go_enter Tryz.func55, Tryz.ntmps55
  go_wp2_with fail
  refine (ratGcd_c (((HA0.out.den.alloc _).alloc _).alloc _) (((HB0.out.den.alloc _).alloc _).alloc _) (by omega) (by omega)).mono ?_
  rintro e w1 ⟨zg, kg, cg, fg, rfl, hbel, hg⟩
  obtain ⟨⟨hz, x0, x1, x2, y0, y1, y2, z0, z1, z2, zf⟩, hw⟩ := three_new hbel
  have T1 : Hid (Three w.heap.size w1 _ _ _ _ _ _ _ _ _) := ⟨hz, x0, x1, x2, y0, y1, y2, z0, z1, z2, zf⟩
  have HW1 := hid hw; have WG1 := hid hg; have HA1 := hid (HA0.out.below hw); have HB1 := hid (HB0.out.below hw)
  have hG0 : 0 < a.den.gcd b.den := Nat.gcd_pos_of_pos_left _ a.den_pos
  have hkg : kg ≤ L := Nat.le_trans (hg.len_le HA1.out.den (Nat.gcd_le_left _ a.den_pos)) (by omega)
  clear hbel hw hg HA0 HB0
  have C1 : Hid ((∀ W, Below w1.heap.size w1 W → Calls Tryz.prog 86 #[.slice ya ma da, .slice zg kg cg] W fun e w' => ∃ z k e' h, e = .returned (.slice z k e') ∧ Below W.heap.size W w' ∧ Hid (k ≤ L ∧ Wn w' false z k e' h (a.den / a.den.gcd b.den : Nat)))) := fun W hW => (over_c (HA1.out.den.below hW) (WG1.out.below hW) hG0 (by omega) (by omega)).mono (fun e w' ⟨z, k, e', h, h1, h2, h3⟩ => ⟨z, k, e', h, h1, h2, by have := h3.out.1; omega, h3.out.2⟩)
  have C2 : Hid ((∀ W, Below w1.heap.size w1 W → Calls Tryz.prog 86 #[.slice yb mb db, .slice zg kg cg] W fun e w' => ∃ z k e' h, e = .returned (.slice z k e') ∧ Below W.heap.size W w' ∧ Hid (k ≤ L ∧ Wn w' false z k e' h (b.den / a.den.gcd b.den : Nat)))) := fun W hW => (over_c (HB1.out.den.below hW) (WG1.out.below hW) hG0 (by omega) (by omega)).mono (fun e w' ⟨z, k, e', h, h1, h2, h3⟩ => ⟨z, k, e', h, h1, h2, by have := h3.out.1; omega, h3.out.2⟩)
  go_wp2_with fail
  go_region_held3 (fun w' => w'.cell? ⟨w.heap.size, 2, none⟩ = some (.slice ya ma da) ∧ w'.cell? ⟨w.heap.size + 1, 2, none⟩ = some (.slice yb mb db))
    (refine ⟨?_, ?_⟩ <;> repeat (with_reducible first | assumption | refine kCd ?_ | refine kCa ?_ | refine kCb (by assumption) ?_))
    (first
      | (go_at_call 86; with_reducible refine (C1.out _ (by repeat (with_reducible first | assumption | exact Below.refl _ _ | refine Below.drew ?_ | refine kBa ?_ | refine kBb (by assumption) ?_))).mono ?_; rintro e w2 ⟨zp, kp, cp, fp, rfl, hb2, HP⟩)
      | (go_at_call 86; with_reducible refine (C2.out _ (by repeat (with_reducible first | assumption | exact Below.refl _ _ | refine Below.drew ?_ | refine kBa ?_ | refine kBb (by assumption) ?_))).mono ?_; rintro e w3 ⟨zq, kq, cq, fq, rfl, hb3, HQ⟩))
  have hb : Below w1.heap.size w1 w3 := (by repeat (with_reducible first | assumption | exact Below.refl _ _ | refine Below.drew ?_ | refine kBa ?_ | refine kBb (by assumption) ?_))
  have hkp := HP.out.1; have hkq := HQ.out.1
  have WP3 := hid (HP.out.2.below hb3)
  have WQ3 := hid HQ.out.2
  clear HP HQ C1 C2 hb2 hb3
  have HA3 := hid (HA1.out.below hb); have HB3 := hid (HB1.out.below hb); have T3 := hid (T1.out.below hb); have WG3 := hid (WG1.out.below hb); have HW3 := hid (HW1.out.trans (hb.mono HW1.out.size))
  clear HA1 HB1 T1 WG1 HW1 hb
  clear hz x0 x1 x2 y0 y1 y2 z0 z1 z2 zf
  obtain ⟨hz, x0, x1, x2, y0, y1, y2, z0, z1, z2, zf⟩ := T3.out
  have hza : w.heap.size < w3.heap.size := by omega
  have hzb : w.heap.size + 1 < w3.heap.size := by omega
  go_wp2_with fail
  refine (numer_c sa xa ya na ca ma da _).mono ?_
  rintro e w4 ⟨rfl, hb⟩
  have HA4 := hid (HA3.out.below hb); have HB4 := hid (HB3.out.below hb); have T4 := hid (T3.out.below hb); have WG4 := hid (WG3.out.below hb); have WP4 := hid (WP3.out.below hb); have WQ4 := hid (WQ3.out.below hb); have HW4 := hid (HW3.out.trans (hb.mono HW3.out.size))
  clear HA3 HB3 T3 WG3 WP3 WQ3 HW3 hb
  clear hza hzb hz x0 x1 x2 y0 y1 y2 z0 z1 z2 zf
  obtain ⟨hz, x0, x1, x2, y0, y1, y2, z0, z1, z2, zf⟩ := T4.out
  have hza : w.heap.size < w4.heap.size := by omega
  have hzb : w.heap.size + 1 < w4.heap.size := by omega
  go_wp2_with fail
  refine (mul_n HA4.out.num WQ4.out (by omega) (by omega)).mono ?_
  rintro e w5 ⟨s5, p5, k5, c5, f5, rfl, hb, hk5, hp⟩
  have WX5 := hid hp
  clear hp WQ4
  have HA5 := hid (HA4.out.below hb); have HB5 := hid (HB4.out.below hb); have T5 := hid (T4.out.below hb); have WG5 := hid (WG4.out.below hb); have WP5 := hid (WP4.out.below hb); have HW5 := hid (HW4.out.trans (hb.mono HW4.out.size))
  clear HA4 HB4 T4 WG4 WP4 HW4 hb
  clear hza hzb hz x0 x1 x2 y0 y1 y2 z0 z1 z2 zf
  obtain ⟨hz, x0, x1, x2, y0, y1, y2, z0, z1, z2, zf⟩ := T5.out
  have hza : w.heap.size < w5.heap.size := by omega
  have hzb : w.heap.size + 1 < w5.heap.size := by omega
  go_wp2_with fail
  refine (numer_c sb xb yb nb cb mb db _).mono ?_
  rintro e w6 ⟨rfl, hb⟩
  have BX6 := hid (bx_new hb)
  have HB6 := hid (HB5.out.next hb); have T6 := hid (T5.out.next hb); have WG6 := hid (WG5.out.next hb); have WP6 := hid (WP5.out.next hb); have WX6 := hid (WX5.out.next hb); have HW6 := hid ((below_alloc HW5.out _).trans (hb.mono (below_alloc HW5.out _).size))
  clear HB5 T5 WG5 WP5 WX5 HW5 hb
  clear hza hzb hz x0 x1 x2 y0 y1 y2 z0 z1 z2 zf
  obtain ⟨hz, x0, x1, x2, y0, y1, y2, z0, z1, z2, zf⟩ := T6.out
  have hza : w.heap.size < w6.heap.size := by omega
  have hzb : w.heap.size + 1 < w6.heap.size := by omega
  go_wp2_with fail
  refine (mul_n HB6.out.num WP6.out (by omega) (by omega)).mono ?_
  rintro e w7 ⟨s7, p7, k7, c7, f7, rfl, hb, hk7, hp⟩
  have WY7 := hid hp
  clear hp
  have HB7 := hid (HB6.out.below hb); have T7 := hid (T6.out.below hb); have WG7 := hid (WG6.out.below hb); have WP7 := hid (WP6.out.below hb); have WX7 := hid (WX6.out.below hb); have BX7 := hid (BX6.out.below hb); have HW7 := hid (HW6.out.trans (hb.mono HW6.out.size))
  clear HB6 T6 WG6 WP6 WX6 BX6 HW6 hb
  clear hza hzb hz x0 x1 x2 y0 y1 y2 z0 z1 z2 zf
  obtain ⟨hz, x0, x1, x2, y0, y1, y2, z0, z1, z2, zf⟩ := T7.out
  have hza : w.heap.size < w7.heap.size := by omega
  have hzb : w.heap.size + 1 < w7.heap.size := by omega
  obtain ⟨hzx, bx0, bx1⟩ := BX7.out
  go_wp2_with fail
  refine (add_n (WX7.out.alloc _) (WY7.out.alloc _) (by omega) (by omega)).mono ?_
  rintro e w8 ⟨s8, p8, k8, c8, f8, rfl, hb, hk8, hp⟩
  have WS8 := hid hp
  clear hp hzx bx0 bx1 WX7 WY7 BX7
  have HB8 := hid (HB7.out.next hb); have T8 := hid (T7.out.next hb); have WG8 := hid (WG7.out.next hb); have WP8 := hid (WP7.out.next hb); have HW8 := hid ((below_alloc HW7.out _).trans (hb.mono (below_alloc HW7.out _).size))
  clear HB7 T7 WG7 WP7 HW7 hb
  clear hza hzb hz x0 x1 x2 y0 y1 y2 z0 z1 z2 zf
  obtain ⟨hz, x0, x1, x2, y0, y1, y2, z0, z1, z2, zf⟩ := T8.out
  have hza : w.heap.size < w8.heap.size := by omega
  have hzb : w.heap.size + 1 < w8.heap.size := by omega
  have hz8 := hz
  obtain ⟨S, hS⟩ : ∃ S, S = a.num * (b.den / a.den.gcd b.den : Nat) + b.num * (a.den / a.den.gcd b.den : Nat) := ⟨_, rfl⟩
  rw [← hS] at WS8
  have HS := hid hS
  clear hS
  go_wp2_with fail
  refine (ratGcd_c (WS8.out.mag.alloc _) (WG8.out.alloc _) (by omega) (by omega)).mono ?_
  rintro e w9 ⟨zl, kl, cl, fl, rfl, hb, hl⟩
  have WL9 := hid hl; have BS9 := hid (bx_new hb)
  have hl0 : 0 < S.natAbs.gcd (a.den.gcd b.den) := Nat.gcd_pos_of_pos_right _ hG0
  have hkl : kl ≤ L := Nat.le_trans (hl.len_le WG8.out (Nat.gcd_le_right _ hG0)) (by omega)
  clear hl WG8
  have HB9 := hid (HB8.out.next hb); have T9 := hid (T8.out.next hb); have WP9 := hid (WP8.out.next hb); have WS9 := hid (WS8.out.next hb); have HW9 := hid ((below_alloc HW8.out _).trans (hb.mono (below_alloc HW8.out _).size))
  clear HB8 T8 WP8 WS8 HW8 hb
  clear hza hzb hz x0 x1 x2 y0 y1 y2 z0 z1 z2 zf
  obtain ⟨hz, x0, x1, x2, y0, y1, y2, z0, z1, z2, zf⟩ := T9.out
  have hza : w.heap.size < w9.heap.size := by omega
  have hzb : w.heap.size + 1 < w9.heap.size := by omega
  go_wp2_with fail
  refine (over_c HB9.out.den WL9.out hl0 (by omega) (by omega)).mono ?_
  rintro e w10 ⟨zo, ko, co, fo, rfl, hb, HO⟩
  have hko := HO.out.1; have WO10 := hid HO.out.2
  clear HO HB9
  have T10 := hid (T9.out.below hb); have WP10 := hid (WP9.out.below hb); have WS10 := hid (WS9.out.below hb); have WL10 := hid (WL9.out.below hb); have BS10 := hid (BS9.out.below hb); have HW10 := hid (HW9.out.trans (hb.mono HW9.out.size))
  clear T9 WP9 WS9 WL9 BS9 HW9 hb
  clear hza hzb hz x0 x1 x2 y0 y1 y2 z0 z1 z2 zf
  obtain ⟨hz, x0, x1, x2, y0, y1, y2, z0, z1, z2, zf⟩ := T10.out
  have hza : w.heap.size < w10.heap.size := by omega
  have hzb : w.heap.size + 1 < w10.heap.size := by omega
  go_wp2_with fail
  refine (natMul_n WP10.out WO10.out (by omega) (by omega)).mono ?_
  rintro e w11 ⟨zd, kd, cd, fd, rfl, hb, hkd, hp⟩
  have WD11 := hid hp
  clear hp WP10 WO10
  have T11 := hid (T10.out.below hb); have WS11 := hid (WS10.out.below hb); have WL11 := hid (WL10.out.below hb); have BS11 := hid (BS10.out.below hb); have HW11 := hid (HW10.out.trans (hb.mono HW10.out.size))
  clear T10 WS10 WL10 BS10 HW10 hb
  clear hza hzb hz x0 x1 x2 y0 y1 y2 z0 z1 z2 zf
  obtain ⟨hz, x0, x1, x2, y0, y1, y2, z0, z1, z2, zf⟩ := T11.out
  have hza : w.heap.size < w11.heap.size := by omega
  have hzb : w.heap.size + 1 < w11.heap.size := by omega
  obtain ⟨hzs, bs0, bs1⟩ := BS11.out
  have C3 : Hid (∀ W, Below w11.heap.size w11 W → Calls Tryz.prog 86 #[.slice p8 k8 c8, .slice zl kl cl] W fun e w' => ∃ z k e' h, e = .returned (.slice z k e') ∧ Below W.heap.size W w' ∧ Hid (k ≤ k8 ∧ Wn w' false z k e' h (S.natAbs / S.natAbs.gcd (a.den.gcd b.den) : Nat))) := fun W hW => over_c (WS11.out.mag.below hW) (WL11.out.below hW) hl0 (by omega) (by omega)
  have C4 : Hid (∀ (W : World) (z : Option Addr) (k c : Nat), k ≤ 1048576 → Calls Tryz.prog 52 #[.bool s8, .slice z k c, .slice zd kd cd] W fun e w' => ∃ r, e = .returned (.agg #[.bool r, .slice z k c, .slice zd kd cd]) ∧ Below W.heap.size W w' ∧ Hid (r = (s8 && decide (0 < k)))) := fun W z k c hk => (rsigned_c s8 z zd k c kd cd W (by omega)).mono (fun e w' ⟨r, h1, h2, h3⟩ => ⟨r, h1, h3, h2⟩)
  go_wp2_with fail
  go_region_held3 (fun w' => w'.cell? ⟨w8.heap.size, 0, none⟩ = some (.bool s8) ∧ w'.cell? ⟨w8.heap.size, 1, none⟩ = some (.slice p8 k8 c8) ∧ (w'.cell? ⟨w.heap.size + 1 + 1, 0, none⟩).isSome = true ∧ (w'.cell? ⟨w.heap.size + 1 + 1, 1, none⟩).isSome = true ∧ (w'.cell? ⟨w.heap.size + 1 + 1, 2, none⟩).isSome = true ∧ w'.frozen? ⟨w.heap.size + 1 + 1, 0, none⟩ = false ∧ w'.frozen? ⟨w.heap.size + 1 + 1, 1, none⟩ = false ∧ w'.frozen? ⟨w.heap.size + 1 + 1, 2, none⟩ = false)
    (refine ⟨?_, ?_, ?_, ?_, ?_, ?_, ?_, ?_⟩ <;> repeat (with_reducible first | assumption | exact zf _ | exact uf _ | exact vf' _ | exact kI0 z0 | exact kI0 z1 | exact kI0 z2 | exact kI0 u0 | exact kI0 u1 | exact kI0 u2 | exact kI0 v0 | exact kI0 v1 | exact kI0 v2 | refine kCd ?_ | refine kId ?_ | refine kFd ?_ | refine kCs (by simp only [ne_eq]; omega) ?_ | refine kIs ?_ | refine kFs ?_ | refine kCb (by assumption) ?_ | refine kIb (by assumption) ?_))
    (first
      | (go_at_call 86; with_reducible refine (C3.out _ (by repeat (with_reducible first | assumption | exact Below.refl _ _ | refine Below.drew ?_ | refine kBa ?_ | refine kBb (by assumption) ?_))).mono ?_; rintro e w12 ⟨zn, kn, cn, fn, rfl, hb2, HN⟩; have hkn : kn ≤ 1048576 := (by have := HN.out.1; omega); have TU : Three w.heap.size w12 (.bool sa) (.slice xa na ca) (.slice ya ma da) (.bool sb) (.slice xb nb cb) (.slice yb mb db) (.bool false) (.slice none 0 0) (.slice none 0 0) := (by repeat (with_reducible first | exact T11.out | exact TU | refine kTd ?_ | refine kTb (by assumption) ?_)); obtain ⟨_, _, _, _, _, _, _, u0, u1, u2, uf⟩ := id TU)
      | (go_at_call 52; with_reducible refine (C4.out _ zn kn cn hkn).mono ?_; rintro e w13 ⟨rs, rfl, hb3, HRS⟩; have TV : Three w.heap.size w13 (.bool sa) (.slice xa na ca) (.slice ya ma da) (.bool sb) (.slice xb nb cb) (.slice yb mb db) (.bool false) (.slice none 0 0) (.slice none 0 0) := (by repeat (with_reducible first | exact T11.out | exact TU | refine kTd ?_ | refine kTb (by assumption) ?_)); obtain ⟨_, _, _, _, _, _, _, v0, v1, v2, vf'⟩ := id TV))
  have WN : Wn w13 false zn kn cn fn _ := HN.out.2.below hb3
  have hw13 : Below w11.heap.size w11 w13 := (by repeat (with_reducible first | assumption | exact Below.refl _ _ | refine Below.drew ?_ | refine kBa ?_ | refine kBb (by assumption) ?_))
  have hm := add_made HS.out WS11.out.sgn
  have hkn' := HN.out.1
  go_wp2
  refine bodyPost_ret (v := .agg #[.bool rs, .slice zn kn cn, .slice zd kd cd]) (by simp [results, Tryz.results55, go_sem, v0, v1, v2]) rfl ⟨rs, zn, kn, cn, fn, zd, kd, cd, fd, rfl, below_store (HW11.out.trans (hw13.mono HW11.out.size)), ⟨?_, ?_, ?_, ?_⟩⟩
  · rw [← hm.1]; exact TV.store (WN.resign HRS.out)
  · rw [← hm.2]; exact TV.store (WD11.out.below hw13)
  · omega
  · omega
end Go.Proofs.YtlpmfmphglgocaaGreatDoor
namespace Go.Proofs.YtlpmfmphglgocaaGreatDoor
open Go.RowKit

theorem mul_made {a b : Rat} {s t : Bool} (ha : a.num = sg s a.num.natAbs) (hb : b.num = sg t b.num.natAbs) :
    sg (s != t) (a.num.natAbs / a.num.natAbs.gcd b.den * (b.num.natAbs / b.num.natAbs.gcd a.den)) = (a * b).num ∧ a.den / b.num.natAbs.gcd a.den * (b.den / a.num.natAbs.gcd b.den) = (a * b).den := by
  have := rmul (a := a) (b := b) (s := s) (t := t) (G := a.num.natAbs.gcd b.den) (H := b.num.natAbs.gcd a.den) (NA := a.num.natAbs / a.num.natAbs.gcd b.den) (NB := b.num.natAbs / b.num.natAbs.gcd a.den) (DA := a.den / b.num.natAbs.gcd a.den) (DB := b.den / a.num.natAbs.gcd b.den)
    (by rw [Nat.div_mul_cancel (Nat.gcd_dvd_left _ _)]; exact ha) (by rw [Nat.div_mul_cancel (Nat.gcd_dvd_left _ _)]; exact hb) rfl rfl (Nat.div_mul_cancel (Nat.gcd_dvd_right _ _)) (Nat.div_mul_cancel (Nat.gcd_dvd_right _ _))
  exact ⟨this.1.symm, this.2.symm⟩

end Go.Proofs.YtlpmfmphglgocaaGreatDoor
namespace Go.Proofs.YtlpmfmphglgocaaGreatDoor
open Go.RowKit

/-- Two lists of limbs that can be read: numerator and denominator, in form or not. -/
structure Rw (w : World) (x : Option Addr) (n c : Nat) (f : Nat → Int) (y : Option Addr) (m d : Nat) (g : Nat → Int) : Prop where
  rx : Rd .u64 w x n f
  lx : Lm f n
  cx : n ≤ c ∧ c ≤ 9223372036854775807
  nx : x = none → n = 0 ∧ c = 0
  ry : Rd .u64 w y m g
  ly : Lm g m
  cy : m ≤ d ∧ d ≤ 9223372036854775807
  ny : y = none → m = 0 ∧ d = 0
theorem Rw.below {w w' x n c f y m d g} (h : Rw w x n c f y m d g) (hb : Below w.heap.size w w') : Rw w' x n c f y m d g := ⟨h.rx.below hb (Nat.le_refl _), h.lx, h.cx, h.nx, h.ry.below hb (Nat.le_refl _), h.ly, h.cy, h.ny⟩
theorem Rw.alloc {w x n c f y m d g} (h : Rw w x n c f y m d g) (o : Obj) : Rw (w.alloc o) x n c f y m d g := h.below (below_alloc (Below.refl _ _) o)
/-- In form: sign, limbs, and nothing in common. -/
def rfB (s : Bool) (f : Nat → Int) (n : Nat) (g : Nat → Int) (m : Nat) : Bool := wfB s f n && (fmB g m && (decide (0 < m) && decide ((vf f n).toNat.gcd (vf g m).toNat = 1)))
theorem natAbs_wv {s : Bool} {f : Nat → Int} {n : Nat} (h : Lm f n) : (wv s f n).natAbs = (vf f n).toNat := by
  have h0 := vf_nonneg h
  cases s
  · rw [wv_false]; omega
  · rw [wv_true]; omega
/-- What is in form is a number. -/
theorem Rw.rn {w s x n c f y m d g L} (h : Rw w x n c f y m d g) (hf : rfB s f n g m = true) (hn : n ≤ L) (hm : m ≤ L) : ∃ q, Rn L w s x n c f y m d g q := by
  simp only [rfB, Bool.and_eq_true, decide_eq_true_eq] at hf
  obtain ⟨h1, h2, h3, h4⟩ := hf
  have hp := vf_pos h.ly (fm_of h2) h3
  refine ⟨⟨wv s f n, (vf g m).toNat, by omega, by rw [natAbs_wv h.lx]; exact h4⟩, ⟨h.rx, h.lx, h1, h.cx, h.nx, rfl⟩, ⟨h.ry, h.ly, (wfB_iff _ _ _).2 ⟨fm_of h2, fun h => by cases h⟩, h.cy, h.ny, ?_⟩, hn, hm⟩
  show vf g m = ((vf g m).toNat : Int)
  omega
theorem Rn.rw {L w s x n c f y m d g q} (h : Rn L w s x n c f y m d g q) : Rw w x n c f y m d g := ⟨h.num.rd, h.num.lm, h.num.cap, h.num.nil, h.den.rd, h.den.lm, h.den.cap, h.den.nil⟩
theorem Rn.rf {L w s x n c f y m d g q} (h : Rn L w s x n c f y m d g q) : rfB s f n g m = true := by
  simp only [rfB, Bool.and_eq_true, decide_eq_true_eq]
  have hd := q.den_pos
  refine ⟨h.num.wf, (fmB_iff _ _).2 h.den.fm, h.den.pos (by omega), ?_⟩
  rw [← natAbs_wv (s := s) h.num.lm, h.num.val, h.den.nv]
  exact q.reduced
theorem Rn.inj {L L' w w' s t x n c f y m d g x' n' c' f' y' m' d' g' q r} (h : Rn L w s x n c f y m d g q) (h' : Rn L' w' t x' n' c' f' y' m' d' g' r) : (s = t ∧ Alk n n' f f' ∧ Alk m m' g g') ↔ q = r := by
  constructor
  · rintro ⟨rfl, ⟨rfl, h1⟩, ⟨rfl, h2⟩⟩
    have e1 : vf f n = vf f' n := vf_congr h1
    have e2 : vf g m = vf g' m := vf_congr h2
    refine Rat.ext ?_ ?_
    · rw [← h.num.val, ← h'.num.val]
      cases s
      · rw [wv_false, wv_false, e1]
      · rw [wv_true, wv_true, e1]
    · have := h.den.nv; have := h'.den.nv; omega
  · rintro rfl
    have ha := vf_nonneg h.num.lm; have hb := vf_nonneg h'.num.lm
    have e2 := vf_inj h.den.lm h'.den.lm h.den.fm h'.den.fm (h.den.nv.trans h'.den.nv.symm)
    have v1 := h.num.val; have v2 := h'.num.val
    have p1 := sgn_of_wfB h.num.wf; have p2 := sgn_of_wfB h'.num.wf
    have q1 : 0 < n → 0 < vf f n := vf_pos h.num.lm h.num.fm
    have q2 : 0 < n' → 0 < vf f' n' := vf_pos h'.num.lm h'.num.fm
    cases s <;> cases t
    · rw [wv_false] at v1 v2
      exact ⟨rfl, vf_inj h.num.lm h'.num.lm h.num.fm h'.num.fm (v1.trans v2.symm), e2⟩
    · rw [wv_false] at v1; rw [wv_true] at v2
      have := q2 (p2 rfl)
      omega
    · rw [wv_true] at v1; rw [wv_false] at v2
      have := q1 (p1 rfl)
      omega
    · rw [wv_true] at v1 v2
      exact ⟨rfl, vf_inj h.num.lm h'.num.lm h.num.fm h'.num.fm (by omega), e2⟩
/-- A box of three cells at block B. -/
structure Bx3 (w : World) (B : Nat) (a0 a1 a2 : Value) : Prop where
  z : B < w.heap.size
  x0 : w.cell? ⟨B, 0, none⟩ = some a0
  x1 : w.cell? ⟨B, 1, none⟩ = some a1
  x2 : w.cell? ⟨B, 2, none⟩ = some a2
theorem Bx3.below {w w' B a0 a1 a2} (h : Bx3 w B a0 a1 a2) (hb : Below w.heap.size w w') : Bx3 w' B a0 a1 a2 := ⟨Nat.lt_of_lt_of_le h.z hb.size, kCb hb h.x0, kCb hb h.x1, kCb hb h.x2⟩
theorem Bx3.alloc {w B a0 a1 a2} (h : Bx3 w B a0 a1 a2) (o : Obj) : Bx3 (w.alloc o) B a0 a1 a2 := h.below (below_alloc (Below.refl _ _) o)
theorem Bx3.next {w w' B a0 a1 a2} {o : Obj} (h : Bx3 w B a0 a1 a2) (hb : Below (w.alloc o).heap.size (w.alloc o) w') : Bx3 w' B a0 a1 a2 := (h.alloc o).below hb
theorem bx3_at (w : World) (a0 a1 a2 : Value) (t : TypeId) : Bx3 (w.alloc (.cells #[a0, a1, a2] t)) w.heap.size a0 a1 a2 := ⟨by simp, by simp [go_sem], by simp [go_sem], by simp [go_sem]⟩
theorem bx3_new {w w' : World} {a0 a1 a2 : Value} {t : TypeId} (hb : Below (w.alloc (.cells #[a0, a1, a2] t)).heap.size (w.alloc (.cells #[a0, a1, a2] t)) w') : Bx3 w' w.heap.size a0 a1 a2 := (bx3_at w a0 a1 a2 t).below hb

set_option maxHeartbeats 1000000 in
theorem rForm_c {w : World} {s x n c f y m d g} (h : Rw w x n c f y m d g) (hn : n ≤ 1048576) (hm : m ≤ 1048576) :
    Calls Tryz.prog 25 #[.agg #[.bool s, .slice x n c, .slice y m d]] w fun e w' => e = .returned (.bool (rfB s f n g m)) ∧ Below w.heap.size w w' := by
  have H := hid h
  have hrf : rfB s f n g m = (wfB s f n && (fmB g m && (decide (0 < m) && decide ((vf f n).toNat.gcd (vf g m).toNat = 1)))) := rfl
  rw [hrf]
  clear h hrf
  go_enter Tryz.func25, Tryz.ntmps25
  go_wp2_with fail
  refine (numer_c s x y n c m d _).mono ?_
  rintro e w1 ⟨rfl, hb⟩
  have B1 := hid (bx3_new hb); have HW1 : Hid (Below w.heap.size w w1) := (below_alloc (Below.refl w.heap.size w) _).trans (hb.mono (by simp))
  clear hb
  obtain ⟨z, x0, x1, x2⟩ := B1.out
  go_wp2_with fail
  refine (wForm_c s x n c f _ (by omega) (H.out.rx.below HW1.out (Nat.le_refl _))).mono ?_
  rintro e w2 ⟨rfl, hb⟩
  have B2 := hid (B1.out.below hb); have HW2 := hid (HW1.out.trans (hb.mono HW1.out.size))
  clear hb B1 z x0 x1 x2 HW1
  obtain ⟨z, x0, x1, x2⟩ := B2.out
  cases h1 : wfB s f n
  · have E : Hid ((wfB s f n && (fmB g m && (decide (0 < m) && decide ((vf f n).toNat.gcd (vf g m).toNat = 1)))) = false) := hid (by rw [h1]; rfl)
    go_wp2
    go_ret
    exact ⟨by rw [E.out]; rfl, HW2.out⟩
  have F1 := hid h1
  clear h1
  have c2 := form_c y m d g w2 (by omega) (H.out.ry.below HW2.out (Nat.le_refl _))
  go_wp2_with fail
  refine c2.mono ?_
  rintro e w3 ⟨rfl, rfl⟩
  clear c2
  cases h2 : fmB g m
  · have E : Hid ((wfB s f n && (fmB g m && (decide (0 < m) && decide ((vf f n).toNat.gcd (vf g m).toNat = 1)))) = false) := hid (by rw [F1.out, h2]; rfl)
    go_wp2
    go_ret
    exact ⟨by rw [E.out]; rfl, HW2.out⟩
  by_cases h3 : 0 < m
  · have h3' : ((m : Int) == 0) = false := by simp; omega
    have hd3 : decide (0 < m) = true := by simp; omega
    have E : Hid ((wfB s f n && (fmB g m && (decide (0 < m) && decide ((vf f n).toNat.gcd (vf g m).toNat = 1)))) = decide ((((vf f n).toNat.gcd (vf g m).toNat : Nat) : Int) = 1)) := hid (by
      rw [F1.out, h2, hd3, Bool.true_and, Bool.true_and, Bool.true_and]
      by_cases h : (vf f n).toNat.gcd (vf g m).toNat = 1
      · simp [h]
      · have : ¬ ((((vf f n).toNat.gcd (vf g m).toNat : Nat) : Int) = 1) := by omega
        simp [h, this])
    have hh := (H.out.below HW2.out)
    have W1 : Wn w3 false x n c f ((vf f n).toNat : Nat) := ⟨hh.rx, hh.lx, (wfB_iff _ _ _).2 ⟨fm_of_wfB F1.out, fun h => by cases h⟩, hh.cx, hh.nx, by have := vf_nonneg hh.lx; show vf f n = _; omega⟩
    have W2 : Wn w3 false y m d g ((vf g m).toNat : Nat) := ⟨hh.ry, hh.ly, (wfB_iff _ _ _).2 ⟨fm_of h2, fun h => by cases h⟩, hh.cy, hh.ny, by have := vf_nonneg hh.ly; show vf g m = _; omega⟩
    have C3 := hid (ratGcd_c W1 W2 (by omega) (by omega))
    clear hh W1 W2 hd3 h2 h3
    go_wp2_with fail
    refine C3.out.mono ?_
    rintro e w4 ⟨zg, kg, cg, fg, rfl, hb, hg⟩
    have C4 := hid (isOne_c hg)
    clear hg
    go_wp2_with fail
    refine C4.out.mono ?_
    rintro e w5 ⟨rfl, rfl⟩
    go_wp2
    go_ret
    exact ⟨by rw [E.out]; rfl, HW2.out.trans (hb.mono HW2.out.size)⟩
  · have h3' : m = 0 := by omega
    have E : Hid ((wfB s f n && (fmB g m && (decide (0 < m) && decide ((vf f n).toNat.gcd (vf g m).toNat = 1)))) = false) := hid (by simp [h3'])
    subst h3'
    go_wp2
    go_ret
    exact ⟨by rw [E.out]; rfl, HW2.out⟩
theorem rForm_n {L w s x n c f y m d g q} (h : Rn L w s x n c f y m d g q) (hL : L ≤ 1048576) :
    Calls Tryz.prog 25 #[.agg #[.bool s, .slice x n c, .slice y m d]] w fun e w' => e = .returned (.bool true) ∧ Below w.heap.size w w' := by
  have h1 := h.ln; have h2 := h.ld
  have := rForm_c (s := s) h.rw (by omega) (by omega)
  rw [h.rf] at this
  exact this

set_option maxRecDepth 100000 in
set_option maxHeartbeats 4000000 in
theorem rAdd_n {L : Nat} {w : World} {sa : Bool} {xa : Option Addr} {na ca : Nat} {fa : Nat → Int} {ya : Option Addr} {ma da : Nat} {ga : Nat → Int} {a : Rat} {sb : Bool} {xb : Option Addr} {nb cb : Nat} {fb : Nat → Int} {yb : Option Addr} {mb db : Nat} {gb : Nat → Int} {b : Rat} (ha : Rn L w sa xa na ca fa ya ma da ga a) (hb : Rn L w sb xb nb cb fb yb mb db gb b) (hL : L ≤ 200000) :
    Calls Tryz.prog 19 #[.agg #[.bool sa, .slice xa na ca, .slice ya ma da], .agg #[.bool sb, .slice xb nb cb, .slice yb mb db]] w fun e w' => RatTup (2 * L + 1) w w' e (a + b) := by
  have HA0 := hid ha; have HB0 := hid hb
  clear ha hb
  go_enter Tryz.func19, Tryz.ntmps19
  go_wp2_with fail
  refine (rForm_n (((HA0.out.alloc _).alloc _).alloc _) (by omega)).mono ?_
  rintro e w1 ⟨rfl, hbel⟩
  obtain ⟨⟨hz, x0, x1, x2, y0, y1, y2, z0, z1, z2, zf⟩, hw⟩ := three_new hbel
  have T1 : Hid (Three w.heap.size w1 _ _ _ _ _ _ _ _ _) := ⟨hz, x0, x1, x2, y0, y1, y2, z0, z1, z2, zf⟩
  have HW1 := hid hw; have HA1 := hid (HA0.out.below hw); have HB1 := hid (HB0.out.below hw)
  clear hbel hw HA0 HB0
  go_wp2_with fail
  refine (rForm_n HB1.out (by omega)).mono ?_
  rintro e w2 ⟨rfl, hb⟩
  have HA2 := hid (HA1.out.below hb); have HB2 := hid (HB1.out.below hb); have T2 := hid (T1.out.below hb); have HW2 := hid (HW1.out.trans (hb.mono HW1.out.size))
  clear HA1 HB1 T1 HW1 hb
  clear hz x0 x1 x2 y0 y1 y2 z0 z1 z2 zf
  obtain ⟨hz, x0, x1, x2, y0, y1, y2, z0, z1, z2, zf⟩ := T2.out
  have hza : w.heap.size < w2.heap.size := by omega
  have hzb : w.heap.size + 1 < w2.heap.size := by omega
  go_wp2_with fail
  refine (ratadd_c HA2.out HB2.out hL).mono ?_
  rintro e w3 ⟨rs, zn, kn, cn, fn, zd, kd, cd, fd, rfl, hb, hr⟩
  have HR := hid hr
  clear hr
  have T3 := hid (T2.out.below hb); have HW3 := hid (HW2.out.trans (hb.mono HW2.out.size))
  clear T2 HW2 hb
  clear hza hzb hz x0 x1 x2 y0 y1 y2 z0 z1 z2 zf
  obtain ⟨hz, x0, x1, x2, y0, y1, y2, z0, z1, z2, zf⟩ := T3.out
  have hza : w.heap.size < w3.heap.size := by omega
  have hzb : w.heap.size + 1 < w3.heap.size := by omega
  go_wp2
  refine bodyPost_ret (v := .tuple #[.agg #[.bool rs, .slice zn kn cn, .slice zd kd cd], .int .i64 0]) (by simp [results, Tryz.results19, go_sem, z0, z1, z2]) rfl ⟨rs, zn, kn, cn, fn, zd, kd, cd, fd, rfl, below_store HW3.out, ⟨?_, ?_, HR.out.ln, HR.out.ld⟩⟩
  · exact T3.out.store HR.out.num
  · exact T3.out.store HR.out.den

theorem Rn.negate {L w s x n c f y m d g q} {r : Bool} (h : Rn L w s x n c f y m d g q) (hr : r = (!s && decide (0 < n))) : Rn L w r x n c f y m d g (-q) := by
  refine ⟨?_, h.den, h.ln, h.ld⟩
  have h1 := h.num.mag.resign (s := !s) hr
  have h2 := h.num.sgn
  show Wn w r x n c f (-q.num)
  have : -q.num = sg (!s) q.num.natAbs := by
    generalize q.num.natAbs = A at h2
    rw [h2]
    cases s
    · rfl
    · show - -(A : Int) = A; omega
  rw [this]
  exact h1
theorem Rn.invert {L w s x n c f y m d g q} {r : Bool} (h : Rn L w s x n c f y m d g q) (h0 : 0 < n) (hr : r = (s && decide (0 < m))) : Rn L w r y m d g x n c f q⁻¹ := by
  have h2 := h.num.sgn
  have hm : 0 < m := h.den.pos (by have := q.den_pos; omega)
  have hq : 0 < q.num.natAbs := by
    have h3 := vf_pos h.num.lm h.num.fm h0
    have h4 := h.num.mag.nv
    omega
  obtain ⟨e1, e2⟩ := rinv h2 hq
  refine ⟨?_, ?_, h.ld, h.ln⟩
  · rw [e1]; exact h.den.resign hr
  · rw [e2]; exact h.num.mag

end Go.Proofs.YtlpmfmphglgocaaGreatDoor
namespace Go.Proofs.YtlpmfmphglgocaaGreatDoor
open Go.ChangeShapes Go.WideShapes Go.ChangeAt Go.RowKit

theorem Tryz.readR : Tryz.prog.readableRec 24 = true := by kernel_rfl
theorem Tryz.sizeR : 24 < Tryz.prog.types.size := of_decide_eq_true (by kernel_rfl)
theorem Tryz.cellsR : Tryz.prog.cellsOf 24 = 3 := by kernel_rfl

/-- A struct of three fields: each is read by itself. -/
theorem fields3 {H : Type} {enc : TypeId × Value → H} {P : Program} {w : World} {base : Nat} {spare : Nat → Bool} {held : Bool} {t : TypeId} {f0 f1 f2 : Field} {fuel : Nat} {cs : List Value} {x : DataW H × List MemPlace} (ht : P.underlying t = some (.struct #[f0, f1, f2])) (h : DataW.trod enc P w base spare held fuel t cs = some x) :
    ∃ y0 y1 y2 k, DataW.trod enc P w base spare held k f0.type ((cs.drop f0.offset).take (P.cellsOf f0.type)) = some y0 ∧ DataW.trod enc P w base spare held k f1.type ((cs.drop f1.offset).take (P.cellsOf f1.type)) = some y1 ∧ DataW.trod enc P w base spare held k f2.type ((cs.drop f2.offset).take (P.cellsOf f2.type)) = some y2 := by
  obtain ⟨ys, k, _, rfl, _, hlen, hf⟩ := DataW.trod_struct ht h
  match ys, hlen with
  | [y0, y1, y2], _ => exact ⟨y0, y1, y2, k, by simpa using hf 0 f0 rfl, by simpa using hf 1 f1 rfl, by simpa using hf 2 f2 rfl⟩
set_option maxRecDepth 100000 in
/-- An argument that is a rational number. -/
theorem viewR {H : Type} {enc : TypeId × Value → H} {W : World} {base : Nat} {v : Value} {d : DataW H} {p : List MemPlace} (hok : Value.okWide Tryz.prog W .any base 24 v) (h : DataW.Trod enc Tryz.prog W 0 (fun _ => true) true 24 v d p) :
    ∃ s x n c f y m b g, v = .agg #[.bool s, .slice x n c, .slice y m b] ∧ Rw W x n c f y m b g := by
  obtain ⟨cs, rfl, hsz⟩ := okWide_struct Tryz.underlying24 hok
  rw [Tryz.cellsR] at hsz
  obtain ⟨fuel, hf⟩ := h
  obtain ⟨y0, y1, y2, k, h0, h1, h2⟩ := fields3 Tryz.underlying24 hf
  obtain ⟨l⟩ := cs
  match l, hsz with
  | [c0, c1, c2], _ =>
    have h0' : DataW.trod enc Tryz.prog W 0 (fun _ => true) true k 4 [c0] = some y0 := h0
    have h1' : DataW.trod enc Tryz.prog W 0 (fun _ => true) true k 22 [c1] = some y1 := h1
    have h2' : DataW.trod enc Tryz.prog W 0 (fun _ => true) true k 22 [c2] = some y2 := h2
    obtain ⟨s, hs, _⟩ := DataW.trod_bool Tryz.underlying4 h0'
    obtain ⟨ao, n, cap, f, rfl, hr, hlm, hnil, hc⟩ := viewL h1'
    obtain ⟨bo, m, cap', g, rfl, hr', hlm', hnil', hc'⟩ := viewL h2'
    simp at hs
    subst hs
    exact ⟨s, ao, n, cap, f, bo, m, cap', g, rfl, hr, hlm, hc, hnil, hr', hlm', hc', hnil'⟩
end Go.Proofs.YtlpmfmphglgocaaGreatDoor
namespace Go.Proofs.YtlpmfmphglgocaaGreatDoor
open Go.RowKit

theorem rwForm_c (s : Bool) (ao : Option Addr) (n cap : Nat) (f : Nat → Int) (w : World) (hm : n ≤ 9223372036854775807) (hr : Rd .u64 w ao n f) :
    Calls Tryz.prog 90 #[.agg #[.bool s, .slice ao n cap]] w fun e w' => e = .returned (.bool (wfB s f n)) ∧ Below w.heap.size w w' := by
  have hba : Below w.heap.size w (w.alloc (.cells #[.bool s, .slice ao n cap] 44)) := below_alloc (Below.refl _ _) _
  have c1 := rform_c ao n cap f (w.alloc (.cells #[.bool s, .slice ao n cap] 44)) hm (hr.alloc _)
  have HB := hid hba
  clear hr hba
  have hwf : wfB s f n = (fmB f n && !(s && decide (n = 0))) := rfl
  rw [hwf]
  clear hwf
  cases hfa : fmB f n
  · rw [hfa] at c1
    have C1 := hid c1
    clear c1 hfa
    go_enter Tryz.func90, Tryz.ntmps90
    go_wp2_with fail
    refine C1.out.mono ?_
    rintro e w1 ⟨rfl, rfl⟩
    go_wp2
    go_ret
    exact ⟨rfl, HB.out⟩
  · rw [hfa] at c1
    have C1 := hid c1
    clear c1 hfa
    cases s
    · go_enter Tryz.func90, Tryz.ntmps90
      go_wp2_with fail
      refine C1.out.mono ?_
      rintro e w1 ⟨rfl, rfl⟩
      go_wp2
      go_ret
      exact ⟨rfl, HB.out⟩
    · by_cases hn0 : n = 0
      · subst hn0
        go_enter Tryz.func90, Tryz.ntmps90
        go_wp2_with fail
        refine C1.out.mono ?_
        rintro e w1 ⟨rfl, rfl⟩
        go_wp2
        go_ret
        exact ⟨rfl, HB.out⟩
      · have hni : ((n : Int) == 0) = false := by simp; omega
        have hdn : decide (n = 0) = false := by simp; omega
        rw [hdn]
        clear hdn
        go_enter Tryz.func90, Tryz.ntmps90
        go_wp2_with fail
        refine C1.out.mono ?_
        rintro e w1 ⟨rfl, rfl⟩
        go_wp2
        go_ret
        exact ⟨rfl, HB.out⟩

end Go.Proofs.YtlpmfmphglgocaaGreatDoor
namespace Go.Proofs.YtlpmfmphglgocaaGreatDoor
open Go.RowKit

end Go.Proofs.YtlpmfmphglgocaaGreatDoor
namespace Go.Proofs.YtlpmfmphglgocaaGreatDoor
open Go.RowKit

/-- Digits in form that can be read, with their number. -/
structure Dn (w : World) (x : Option Addr) (n : Nat) (d : Nat → Int) (V : Nat) : Prop where
  rd : Rd .u64 w x n d
  dg : Dg d n
  fm : Fm d n
  val : vd d n = V
theorem Dn.below {w w' x n d V} (h : Dn w x n d V) (hb : Below w.heap.size w w') : Dn w' x n d V := ⟨h.rd.below hb (Nat.le_refl _), h.dg, h.fm, h.val⟩
theorem Dn.alloc {w x n d V} (h : Dn w x n d V) (o : Obj) : Dn (w.alloc o) x n d V := ⟨h.rd.below ((Below.refl _ _).alloc (Nat.le_refl _) o) (Nat.le_refl _), h.dg, h.fm, h.val⟩
theorem Dn.next {w w' x n d V} {o : Obj} (h : Dn w x n d V) (hb : Below (w.alloc o).heap.size (w.alloc o) w') : Dn w' x n d V := (h.alloc o).below hb
theorem Dn.drew {w x n d V} (h : Dn w x n d V) : Dn w.drew x n d V := ⟨h.rd, h.dg, h.fm, h.val⟩
theorem Dn.pos {w x n d V} (h : Dn w x n d V) (hV : 0 < V) : 0 < n := by
  rcases Nat.eq_zero_or_pos n with h0 | h0
  · subst h0; have : (0 : Int) = V := h.val; omega
  · exact h0
theorem Dn.zero {w x d V} (h : Dn w x 0 d V) : V = 0 := by have : (0 : Int) = V := h.val; omega
end Go.Proofs.YtlpmfmphglgocaaGreatDoor
namespace Go.Proofs.YtlpmfmphglgocaaGreatDoor
open Go.RowKit

set_option maxRecDepth 100000 in
set_option maxHeartbeats 800000 in
theorem rword_c {w : World} {x n c d} {V : Nat} (h : Dn w x n d V) (hn : n ≤ 2) :
    Calls Tryz.prog 114 #[.slice x n c] w fun e w' => e = .returned (.int .u64 V) ∧ w' = w := by
  have H := hid h
  clear h
  go_enter Tryz.func114, Tryz.ntmps114
  go_wp2
  go_loop [3, 4] (fun t u => ∃ (k : Nat) (z : Int), k ≤ n ∧ z = (k : Int) - 1 ∧ u = .int .i64 z ∧ ∃ X : Int, t = .int .u64 X ∧ Hid (X = vd (sh d k) (n - k))) (fun _ u => (intOf u + 1).toNat)
  case atStart => exact ⟨n, (n : Int) - 1, by omega, rfl, rfl, 0, rfl, by rw [Nat.sub_self]; rfl⟩
  case round =>
    obtain ⟨k, z, hk, hz, rfl, X, rfl, HX⟩ := hrel
    rcases Nat.eq_zero_or_pos k with h0 | h0
    · subst h0
      have hz' : z < 0 := by omega
      have hd : decide ((0 : Int) ≤ z) = false := by simp; omega
      go_wp2
      go_ret
      refine ⟨?_, rfl⟩
      have h1 : vd (sh d 0) (n - 0) = vd d n := by
        have : sh d 0 = d := by funext j; simp [sh]
        rw [this]; rfl
      have : X = V := by rw [HX.out, h1, H.out.val]
      rw [this]; rfl
    · obtain ⟨j, rfl⟩ : ∃ j, k = j + 1 := ⟨k - 1, by omega⟩
      have hz' : z = (j : Int) := by omega
      subst hz'
      have hr := H.out.rd
      obtain ⟨b, o, rfl⟩ := hr.at (by omega)
      obtain ⟨y, hy⟩ : ∃ y, d j = y := ⟨_, rfl⟩
      have hcell : w.cell? ⟨b, o + j, none⟩ = some (.int .u64 y) := by rw [← hy]; exact hr.cell (by omega)
      obtain ⟨y0, y1⟩ := H.out.dg j (by omega)
      rw [hy] at y0 y1
      have hX : 0 ≤ X ∧ X < 4294967296 := by
        rw [HX.out]
        rcases (show n - (j + 1) = 0 ∨ n - (j + 1) = 1 by omega) with e | e
        · rw [e]; simp [vd]
        · rw [e]
          have e1 : vd (sh d (j + 1)) 1 = d (j + 1) := by simp [vd, pd, sh]
          rw [e1]
          exact H.out.dg (j + 1) (by omega)
      obtain ⟨X0, X1⟩ := hX
      have hs : X * 4294967296 + y = vd (sh d j) (n - j) := by
        rw [show n - j = (n - (j + 1)) + 1 by omega, vd_cons, hy, HX.out]; omega
      have HS := hid hs
      clear hs hy hr hz
      go_wp2
      go_round
      case rel => exact ⟨j, (j : Int) - 1, by omega, rfl, rfl, X * 4294967296 + y, rfl, HS.out⟩
      case measure => simp [intOf]
end Go.Proofs.YtlpmfmphglgocaaGreatDoor
namespace Go.Proofs.YtlpmfmphglgocaaGreatDoor
open Go.RowKit

theorem zMk_c (s : Bool) (ao : Option Addr) (n cap : Nat) (w : World) (hm : n ≤ 9223372036854775807) :
    Calls Tryz.prog 92 #[.bool s, .slice ao n cap] w fun e w' => ∃ r, e = .returned (.agg #[.bool r, .slice ao n cap]) ∧ Hid (r = (s && decide (0 < n))) ∧ Below w.heap.size w w' := by
  have key : ∀ u, Below w.heap.size w (w.alloc u) := fun u => below_alloc (Below.refl w.heap.size w) u
  cases s
  · go_enter Tryz.func92, Tryz.ntmps92
    go_wp2
    exact bodyPost_ret (v := .agg #[.bool false, .slice ao n cap]) (by simp [results, Tryz.results92, go_sem]) rfl ⟨false, rfl, rfl, key _⟩
  · by_cases hn0 : 0 < n
    · have hni : decide ((0 : Int) < (n : Int)) = true := by simp; omega
      have hdn : decide (0 < n) = true := by simp; omega
      rw [hdn]
      clear hdn
      go_enter Tryz.func92, Tryz.ntmps92
      go_wp2
      exact bodyPost_ret (v := .agg #[.bool true, .slice ao n cap]) (by simp [results, Tryz.results92, go_sem]) rfl ⟨true, rfl, rfl, key _⟩
    · have hni : decide ((0 : Int) < (n : Int)) = false := by simp; omega
      have hdn : decide (0 < n) = false := by simp; omega
      rw [hdn]
      clear hdn
      go_enter Tryz.func92, Tryz.ntmps92
      go_wp2
      exact bodyPost_ret (v := .agg #[.bool false, .slice ao n cap]) (by simp [results, Tryz.results92, go_sem]) rfl ⟨false, rfl, rfl, key _⟩

/-- A new box for an answer of three cells. -/
structure Ob (w : World) (B : Nat) : Prop where
  z : B < w.heap.size
  z0 : w.cell? ⟨B, 0, none⟩ = some (.bool false)
  z1 : w.cell? ⟨B, 1, none⟩ = some (.slice none 0 0)
  z2 : w.cell? ⟨B, 2, none⟩ = some (.slice none 0 0)
  zf : ∀ o, w.frozen? ⟨B, o, none⟩ = false
theorem Ob.below {w w' B} (h : Ob w B) (hb : Below w.heap.size w w') : Ob w' B := by
  obtain ⟨h1, h2⟩ := bcell hb
  exact ⟨Nat.lt_of_lt_of_le h.z hb.size, kCb hb h.z0, kCb hb h.z1, kCb hb h.z2, fun o => (h2 _ _ h.z).trans (h.zf o)⟩
theorem kOb {w w' B} (hb : Below w.heap.size w w') (h : Ob w B) : Ob w' B := h.below hb
theorem kDb {w w' x n d V} (hb : Below w.heap.size w w') (h : Dn w x n d V) : Dn w' x n d V := h.below hb
theorem Ob.alloc {w B} (h : Ob w B) (o : Obj) : Ob (w.alloc o) B := h.below (below_alloc (Below.refl _ _) o)
theorem Ob.next {w w' B} {o : Obj} (h : Ob w B) (hb : Below (w.alloc o).heap.size (w.alloc o) w') : Ob w' B := (h.alloc o).below hb
theorem Ob.drew {w B} (h : Ob w B) : Ob w.drew B := ⟨h.z, h.z0, h.z1, h.z2, h.zf⟩
theorem Ob.drewN {w B} (h : Ob w B) (q : Nat) : Ob (w.drewN q) B := ⟨h.z, h.z0, h.z1, h.z2, h.zf⟩
theorem ob_new (w : World) (t : TypeId) : Ob (w.alloc (.cells #[.bool false, .slice none 0 0, .slice none 0 0] t)) w.heap.size := by
  refine ⟨by simp, by simp [go_sem], by simp [go_sem], by simp [go_sem], fun o => ?_⟩
  have e := heap_alloc_new w (.cells #[.bool false, .slice none 0 0, .slice none 0 0] t)
  simp only [World.frozen?, e]; simp
theorem rd_setne {w : World} {p : Addr} {v u : Value} {x n f} (hp : w.cell? p = some v) (hv : ∀ i, v ≠ .int .u64 i) (h : Rd .u64 w x n f) : Rd .u64 (w.setCell p u) x n f := by
  intro j hj
  obtain ⟨b, o, hx, hc⟩ := h j hj
  refine ⟨b, o, hx, ?_⟩
  rw [World.cell?_setCell_other _ _ _ _ (fun he => hv _ (Option.some.inj (hp.symm.trans (he ▸ hc))))]
  exact hc
theorem Ob.rd {w B u0 u1 u2 x n f} (h : Ob w B) (hx : Rd .u64 w x n f) : Rd .u64 (((w.setCell ⟨B, 0, none⟩ u0).setCell ⟨B, 1, none⟩ u1).setCell ⟨B, 2, none⟩ u2) x n f :=
  rd_setne (cell_off (by decide) (cell_off (by decide) h.z2)) (fun i h => by cases h) (rd_setne (cell_off (by decide) h.z1) (fun i h => by cases h) (rd_setne h.z0 (fun i h => by cases h) hx))
theorem Ob.wn {w B u0 u1 u2 s x n c f v} (h : Ob w B) (hx : Wn w s x n c f v) : Wn (((w.setCell ⟨B, 0, none⟩ u0).setCell ⟨B, 1, none⟩ u1).setCell ⟨B, 2, none⟩ u2) s x n c f v := ⟨h.rd hx.rd, hx.lm, hx.wf, hx.cap, hx.nil, hx.val⟩
theorem Ob.dn {w B u0 u1 u2 x n d V} (h : Ob w B) (hx : Dn w x n d V) : Dn (((w.setCell ⟨B, 0, none⟩ u0).setCell ⟨B, 1, none⟩ u1).setCell ⟨B, 2, none⟩ u2) x n d V := ⟨h.rd hx.rd, hx.dg, hx.fm, hx.val⟩
theorem Ob.rn {w B u0 u1 u2 L s x n c f y m d g q} (h : Ob w B) (hx : Rn L w s x n c f y m d g q) : Rn L (((w.setCell ⟨B, 0, none⟩ u0).setCell ⟨B, 1, none⟩ u1).setCell ⟨B, 2, none⟩ u2) s x n c f y m d g q := ⟨h.wn hx.num, h.wn hx.den, hx.ln, hx.ld⟩
theorem below_st {w0 w : World} {B : Nat} {u0 u1 u2 : Value} (hw : Below w0.heap.size w0 w) (hB : w0.heap.size ≤ B) :
    Below w0.heap.size w0 (((w.setCell ⟨B, 0, none⟩ u0).setCell ⟨B, 1, none⟩ u1).setCell ⟨B, 2, none⟩ u2) :=
  below_turned hw hw.size ((((Turned.refl w0.heap.size (B + 1) w).set (x := ⟨B, 0, none⟩) hB (by simp) _).set (x := ⟨B, 1, none⟩) hB (by simp) _).set (x := ⟨B, 2, none⟩) hB (by simp) _) (Nat.le_refl _)
theorem Dn.drewN {w x n d V} (h : Dn w x n d V) (q : Nat) : Dn (w.drewN q) x n d V := ⟨h.rd, h.dg, h.fm, h.val⟩
theorem dn64 {w x n d V} (h : Dn w x n d V) (hn : n ≤ 2) : V < 18446744073709551616 := by
  have h1 := vd_lt h.dg
  rw [h.val] at h1
  rcases (show n = 0 ∨ n = 1 ∨ n = 2 by omega) with rfl | rfl | rfl <;> simp [pd] at h1 <;> omega

set_option maxRecDepth 100000 in
set_option maxHeartbeats 4000000 in
theorem mkSmall_c {w : World} {s x n c d y m e g} {A B : Nat} (ha : Dn w x n d A) (hb : Dn w y m g B) (h0 : 0 < A) (hn : n ≤ 2) (hm : m ≤ 2) (hB : 0 < B) :
    Calls Tryz.prog 91 #[.agg #[.bool s, .slice x n c], .slice y m e] w fun en w' => ∃ r z k c' d' z2 k2 c2 d2, en = .returned (.agg #[.bool r, .slice z k c', .slice z2 k2 c2]) ∧ Below w.heap.size w w' ∧ k ≤ 2 ∧ k2 ≤ 2 ∧ r = (s && decide (0 < k)) ∧ Dn w' z k d' (A / A.gcd B) ∧ Dn w' z2 k2 d2 (B / A.gcd B) := by
  have hA64 := dn64 ha hn; have hB64 := dn64 hb hm
  have hnp : 0 < n := by
    rcases Nat.eq_zero_or_pos n with h | h
    · subst h; have : (0 : Int) = A := ha.val; omega
    · exact h
  have h1 := (ha.alloc (.cells #[.bool s, .slice x n c] 69)).alloc (.cells #[.bool false, .slice none 0 0, .slice none 0 0] 71)
  have h2 := (hb.alloc (.cells #[.bool s, .slice x n c] 69)).alloc (.cells #[.bool false, .slice none 0 0, .slice none 0 0] 71)
  have h3 := ob_new (w.alloc (.cells #[.bool s, .slice x n c] 69)) 71
  rw [size_alloc1] at h3
  have h4 := below_alloc (below_alloc (Below.refl w.heap.size w) (.cells #[.bool s, .slice x n c] 69)) (.cells #[.bool false, .slice none 0 0, .slice none 0 0] 71)
  have h5 : (((w.alloc (.cells #[.bool s, .slice x n c] 69)).alloc (.cells #[.bool false, .slice none 0 0, .slice none 0 0] 71)).cell? ⟨w.heap.size, 0, none⟩ = some (.bool s)) := by simp [go_sem]
  clear ha hb
  have hn0 : ((n : Int) == 0) = false := by simp; omega
  have hn2 : decide ((n : Int) ≤ 2) = true := by simp; omega
  have hm2 : decide ((m : Int) ≤ 2) = true := by simp; omega
  go_enter Tryz.func91, Tryz.ntmps91
  go_wp2_with fail
  generalize (w.alloc (.cells #[.bool s, .slice x n c] 69)).alloc (.cells #[.bool false, .slice none 0 0, .slice none 0 0] 71) = w1 at *
  have HA := hid h1; have HB := hid h2; have OB := hid h3; have HW := hid h4
  obtain ⟨hz, z0, z1, z2, zf⟩ := h3
  clear h1 h2 h4
  refine (rword_c HA.out hn).mono ?_
  rintro en w2 ⟨rfl, rfl⟩
  go_wp2_with fail
  refine (rword_c HB.out hm).mono ?_
  rintro en w3 ⟨rfl, rfl⟩
  go_wp2
  go_loopw [7, 8] (fun t u wr => ∃ (G R q : Nat), t = .int .u64 G ∧ u = .int .u64 R ∧ wr = w3.drewN q ∧ 0 < G ∧ G < 18446744073709551616 ∧ R < 18446744073709551616 ∧ Hid (G.gcd R = A.gcd B)) (fun _ u _ => (intOf u).toNat)
  case atStart => exact ⟨A, B, 0, rfl, rfl, rfl, h0, hA64, hB64, rfl⟩
  case round =>
    obtain ⟨G, R, q, rfl, rfl, rfl, hG0, hG64, hR64, HG⟩ := hrel
    by_cases hR : 0 < R
    · have hd : decide ((0 : Int) < (R : Int)) = true := by simp; omega
      have hne : ((R : Int) == 0) = false := by simp; omega
      have hne' : (R : Int) ≠ 0 := by omega
      go_wp2
      go_quiet (fail)
      go_wp2
      go_roundw
      case rel => exact ⟨R, G % R, _, rfl, by simp, by (repeat rw [World.drewN_drewN]) <;> rfl, hR, hR64, by have := Nat.mod_lt G hR; omega, hid (by rw [Nat.gcd_comm, ← Nat.gcd_rec, Nat.gcd_comm]; exact HG.out)⟩
      case measure => have := Nat.mod_lt G hR; simp only [intOf]; omega
    · have hd : decide ((0 : Int) < (R : Int)) = false := by simp; omega
      have hR0 : R = 0 := by omega
      subst hR0
      have hg : G = A.gcd B := by have := HG.out; rw [Nat.gcd_zero_right] at this; exact this
      go_wp2
      have hwq : Below w.heap.size w (w3.drewN q) := below_drewN HW.out q
      have OQ := OB.out.drewN q
      have hcq : (w3.drewN q).cell? ⟨w.heap.size, 0, none⟩ = some (.bool s) := h5
      have hGi : (G : Int) ≠ 0 := by omega
      have hGi' : ((G : Int) == 0) = false := by simp; omega
      have hGp : (0 : Int) < (G : Int) := by omega
      have hGm : (G : Int) < 18446744073709551616 := by omega
      have hA0 : (0 : Int) ≤ (A : Int) := by omega
      have hAm : (A : Int) < 18446744073709551616 := by omega
      have hB0 : (0 : Int) ≤ (B : Int) := by omega
      have hBm : (B : Int) < 18446744073709551616 := by omega
      obtain ⟨QA, hqa⟩ : ∃ q : Int, (A : Int) / (G : Int) = q := ⟨_, rfl⟩
      obtain ⟨QB, hqb⟩ : ∃ q : Int, (B : Int) / (G : Int) = q := ⟨_, rfl⟩
      have hQA0 : 0 ≤ QA := by rw [← hqa]; exact Int.ediv_nonneg hA0 (by omega)
      have hQB0 : 0 ≤ QB := by rw [← hqb]; exact Int.ediv_nonneg hB0 (by omega)
      have hQA1 : QA < 18446744073709551616 := by have := Int.ediv_le_self (b := (G : Int)) hA0; omega
      have hQB1 : QB < 18446744073709551616 := by have := Int.ediv_le_self (b := (G : Int)) hB0; omega
      have HqA : Hid (QA = ((A / G : Nat) : Int)) := hid (by rw [← hqa]; exact (Int.natCast_ediv _ _).symm)
      have HqB : Hid (QB = ((B / G : Nat) : Int)) := hid (by rw [← hqb]; exact (Int.natCast_ediv _ _).symm)
      have HG2 := hid hg
      clear hg
      clear HG hz z0 z1 z2 zf OB h5
      generalize w3.drewN q = w4 at *
      clear hG64 hA64 hB64 hR64 hd hG0
      generalize hgi : (G : Int) = Gi at *
      generalize hai : (A : Int) = Ai at *
      generalize hbi : (B : Int) = Bi at *
      have HgI := hid hgi; have HaI := hid hai; have HbI := hid hbi
      have hGn : ¬ (Gi = 0) := hGi
      clear hgi hai hbi hGi
      have hwa : IntKind.u64.wrap (Ai.tdiv Gi) = QA := by rw [Int.tdiv_eq_ediv_of_nonneg hA0, hqa, IntKind.wrap_u64]; omega
      have hwb : IntKind.u64.wrap (Bi.tdiv Gi) = QB := by rw [Int.tdiv_eq_ediv_of_nonneg hB0, hqb, IntKind.wrap_u64]; omega
      clear hqa hqb
      obtain ⟨hz, z0, z1, z2, zf⟩ := id OQ
      have C1 : Hid (∀ W, Below w4.heap.size w4 W → Calls Tryz.prog 85 #[.int .u64 QA] W fun e w' => ∃ z k cap d, e = .returned (.slice z k cap) ∧ Below W.heap.size W w' ∧ Hid (k ≤ 2 ∧ Dn w' z k d (A / G))) := fun W hW => by
        exact (word2_c QA W hQA0 hQA1).mono (fun e w' ⟨k, cap, h1, h2, h3, h4, h5, h6, h7⟩ => ⟨_, k, cap, _, h1, h2, h3, h4, h5, h6, h7.trans HqA.out⟩)
      have C2 : Hid (∀ W, Below w4.heap.size w4 W → Calls Tryz.prog 85 #[.int .u64 QB] W fun e w' => ∃ z k cap d, e = .returned (.slice z k cap) ∧ Below W.heap.size W w' ∧ Hid (k ≤ 2 ∧ Dn w' z k d (B / G))) := fun W hW => by
        exact (word2_c QB W hQB0 hQB1).mono (fun e w' ⟨k, cap, h1, h2, h3, h4, h5, h6, h7⟩ => ⟨_, k, cap, _, h1, h2, h3, h4, h5, h6, h7.trans HqB.out⟩)
      have C3 : Hid (∀ (W : World) (z : Option Addr) (k cap : Nat), k ≤ 2 → Calls Tryz.prog 92 #[.bool s, .slice z k cap] W fun e w' => ∃ r, e = .returned (.agg #[.bool r, .slice z k cap]) ∧ Below W.heap.size W w' ∧ Hid (r = (s && decide (0 < k)))) := fun W z k cap hk => (zMk_c s z k cap W (by omega)).mono (fun e w' ⟨r, h1, h2, h3⟩ => ⟨r, h1, h3, h2⟩)
      go_region_held3 (fun w' => w'.cell? ⟨w.heap.size, 0, none⟩ = some (.bool s) ∧ (w'.cell? ⟨w.heap.size + 1, 0, none⟩).isSome = true ∧ (w'.cell? ⟨w.heap.size + 1, 1, none⟩).isSome = true ∧ (w'.cell? ⟨w.heap.size + 1, 2, none⟩).isSome = true ∧ w'.frozen? ⟨w.heap.size + 1, 0, none⟩ = false ∧ w'.frozen? ⟨w.heap.size + 1, 1, none⟩ = false ∧ w'.frozen? ⟨w.heap.size + 1, 2, none⟩ = false)
        (refine ⟨?_, ?_, ?_, ?_, ?_, ?_, ?_⟩ <;> repeat (with_reducible first | assumption | exact zf _ | exact tf _ | exact uf _ | exact vf' _ | exact kI0 z0 | exact kI0 z1 | exact kI0 z2 | exact kI0 t0 | exact kI0 t1 | exact kI0 t2 | exact kI0 u0 | exact kI0 u1 | exact kI0 u2 | exact kI0 v0 | exact kI0 v1 | exact kI0 v2 | refine kCd ?_ | refine kId ?_ | refine kFd ?_ | refine kCs (by simp only [ne_eq]; omega) ?_ | refine kIs ?_ | refine kFs ?_ | refine kCb (by assumption) ?_ | refine kIb (by assumption) ?_))
        (first
          | (go_at_call 85; with_reducible refine (C1.out _ (by repeat (with_reducible first | assumption | exact Below.refl _ _ | refine Below.drew ?_ | refine kBa ?_ | refine kBb (by assumption) ?_))).mono ?_; rintro e w5 ⟨za, ka, ca, da, rfl, hb5, HP⟩; have hka : ka ≤ 2 := HP.out.1; have TU : Ob w5 (w.heap.size + 1) := (by repeat (with_reducible first | exact OQ | exact TU | exact TV | exact TW | refine Ob.drew ?_ | refine kOb (by assumption) ?_)); obtain ⟨_, t0, t1, t2, tf⟩ := id TU)
          | (go_at_call 92; with_reducible refine (C3.out _ za ka ca hka).mono ?_; rintro e w6 ⟨r, rfl, hb6, HR⟩; have TV : Ob w6 (w.heap.size + 1) := (by repeat (with_reducible first | exact OQ | exact TU | exact TV | exact TW | refine Ob.drew ?_ | refine kOb (by assumption) ?_)); obtain ⟨_, u0, u1, u2, uf⟩ := id TV)
          | (go_at_call 85; with_reducible refine (C2.out _ (by repeat (with_reducible first | assumption | exact Below.refl _ _ | refine Below.drew ?_ | refine kBa ?_ | refine kBb (by assumption) ?_))).mono ?_; rintro e w7 ⟨zb, kb, cb, db, rfl, hb7, HQ⟩; have hkb : kb ≤ 2 := HQ.out.1; have TW : Ob w7 (w.heap.size + 1) := (by repeat (with_reducible first | exact OQ | exact TU | exact TV | exact TW | refine Ob.drew ?_ | refine kOb (by assumption) ?_)); obtain ⟨_, v0, v1, v2, vf'⟩ := id TW))
      have hb : Below w4.heap.size w4 w7 := (by repeat (with_reducible first | assumption | exact Below.refl _ _ | refine Below.drew ?_ | refine kBa ?_ | refine kBb (by assumption) ?_))
      have DA := HP.out.2; have DB := HQ.out.2
      have DA7 : Dn w7 za ka da (A / G) := (by repeat (with_reducible first | exact DA | refine Dn.drew ?_ | refine kDb (by first | exact hb6 | exact hb7) ?_))
      go_wp2
      refine bodyPost_ret (v := .agg #[.bool r, .slice za ka ca, .slice zb kb cb]) (by simp [results, Tryz.results91, go_sem, v0, v1, v2]) rfl ⟨r, za, ka, ca, da, zb, kb, cb, db, rfl, below_st (hwq.trans (hb.mono hwq.size)) (by omega), hka, hkb, HR.out, ?_, ?_⟩
      · rw [← HG2.out]; exact TW.dn DA7
      · rw [← HG2.out]; exact TW.dn DB
end Go.Proofs.YtlpmfmphglgocaaGreatDoor
namespace Go.Proofs.YtlpmfmphglgocaaGreatDoor
open Go.RowKit

theorem Tg.set {w x} (h : Tg w x) (p : Addr) (u : Value) : Tg (w.setCell p u) x := fun a ha => by
  obtain ⟨arr, fr, hh⟩ := h a ha
  by_cases e : a.block = p.block
  · refine ⟨if p.spot.isSome then arr else arr.setIfInBounds p.off u, fr, ?_⟩
    rw [e] at hh ⊢
    simp [World.setCell, Array.getElem?_modify, hh]
  · exact ⟨arr, fr, (Below.heap_setCell w p u a.block e).trans hh⟩
theorem Tg.alloc {w x} (h : Tg w x) (o : Obj) : Tg (w.alloc o) x := h.below (below_alloc (Below.refl _ _) o)
theorem make_made {u v : Int} {s t : Bool} (hu : u = sg s u.natAbs) (hv : v = sg t v.natAbs) (h0 : 0 < v.natAbs) :
    ((u : Rat) / (v : Rat)).num = sg (s != t) (u.natAbs / u.natAbs.gcd v.natAbs) ∧ ((u : Rat) / (v : Rat)).den = v.natAbs / u.natAbs.gcd v.natAbs := by
  have e1 := Nat.div_mul_cancel (Nat.gcd_dvd_left u.natAbs v.natAbs)
  have e2 := Nat.div_mul_cancel (Nat.gcd_dvd_right u.natAbs v.natAbs)
  have := rmake (s := s) (t := t) (NA := u.natAbs / u.natAbs.gcd v.natAbs) (NB := v.natAbs / u.natAbs.gcd v.natAbs) (G := u.natAbs.gcd v.natAbs) (by rw [e2]; exact h0) (by rw [e1, e2])
  rw [e1, e2, ← hu, ← hv] at this
  exact this
/-- A number that a call answers without an error; its lists lie in blocks of limbs. -/
def RatTgt (L : Nat) (w w' : World) (e : Ending) (q : Rat) : Prop := ∃ s x n c f y m d g, e = .returned (.tuple #[.agg #[.bool s, .slice x n c, .slice y m d], .int .i64 0]) ∧ Below w.heap.size w w' ∧ Rn L w' s x n c f y m d g q ∧ Tg w' x ∧ Tg w' y
/-- The like, alone. -/
def RatTga (L : Nat) (w w' : World) (e : Ending) (q : Rat) : Prop := ∃ s x n c f y m d g, e = .returned (.agg #[.bool s, .slice x n c, .slice y m d]) ∧ Below w.heap.size w w' ∧ Rn L w' s x n c f y m d g q ∧ Tg w' x ∧ Tg w' y
theorem own_wn {w base x n c f} {V : Nat} (h : Own .u64 28 w base (.slice x n c) n f) (hl : Lm f n) (hf : Fm f n) (hv : vf f n = V) : Wn w false x n c f (V : Int) := by
  obtain ⟨h1, h2, h3, h4, _⟩ := h.slice
  exact ⟨h4, hl, (wfB_iff _ _ _).2 ⟨hf, fun h => by cases h⟩, ⟨h1, h2⟩, h3, hv⟩
theorem toWn_c {w x n c d} {V : Nat} (h : Dn w x n d V) (hn : n ≤ 1048576) :
    Calls Tryz.prog 84 #[.slice x n c] w fun e w' => ∃ z k c' f, e = .returned (.slice z k c') ∧ Below w.heap.size w w' ∧ Hid (k ≤ n ∧ Wn w' false z k c' f (V : Int) ∧ Tg w' z) :=
  (toOwn_c x n c d w hn h.rd h.dg h.fm).mono (fun _ _ ⟨z, k, c', f, h1, h2, h3, _, h4, h5, h6, h7⟩ => ⟨z, k, c', f, h1, h3, h4, own_wn h2 h5 h6 (h7.trans h.val), h2.tg⟩)
theorem fromDn_c {w s x n c f v} (h : Wn w s x n c f v) (hn : n ≤ 1048576) :
    Calls Tryz.prog 93 #[.slice x n c] w fun e w' => ∃ z k c', e = .returned (.slice z k c') ∧ Below w.heap.size w w' ∧ Hid (k ≤ 2 * n ∧ Dn w' z k (dig f) v.natAbs) :=
  (from_c x n c f w hn h.rd h.lm).mono (fun _ _ ⟨z, k, c', h1, h2, h3, h4, _, h6, h7, h8⟩ => ⟨z, k, c', h1, h2, h4, h3, h6, h7, h8.trans h.mag.nv⟩)

set_option maxRecDepth 100000 in
set_option maxHeartbeats 4000000 in
theorem qTo_c {w : World} {r : Bool} {x n c d y m e g} {A B : Nat} (ha : Dn w x n d A) (hb : Dn w y m g B) (hn : n ≤ 131072) (hm : m ≤ 131072) :
    Calls Tryz.prog 75 #[.agg #[.bool r, .slice x n c, .slice y m e]] w fun en w' => ∃ z k c' f z2 k2 c2 f2, en = .returned (.agg #[.bool r, .slice z k c', .slice z2 k2 c2]) ∧ Below w.heap.size w w' ∧ k ≤ n ∧ k2 ≤ m ∧ Wn w' false z k c' f (A : Int) ∧ Wn w' false z2 k2 c2 f2 (B : Int) ∧ Tg w' z ∧ Tg w' z2 := by
  have h1 := (ha.alloc (.cells #[.bool r, .slice x n c, .slice y m e] 71)).alloc (.cells #[.bool false, .slice none 0 0, .slice none 0 0] 24)
  have h2 := (hb.alloc (.cells #[.bool r, .slice x n c, .slice y m e] 71)).alloc (.cells #[.bool false, .slice none 0 0, .slice none 0 0] 24)
  have h3 := ob_new (w.alloc (.cells #[.bool r, .slice x n c, .slice y m e] 71)) 24
  rw [size_alloc1] at h3
  have h4 := below_alloc (below_alloc (Below.refl w.heap.size w) (.cells #[.bool r, .slice x n c, .slice y m e] 71)) (.cells #[.bool false, .slice none 0 0, .slice none 0 0] 24)
  have h5 := (bx3_at w (.bool r) (.slice x n c) (.slice y m e) 71).alloc (.cells #[.bool false, .slice none 0 0, .slice none 0 0] 24)
  clear ha hb
  go_enter Tryz.func75, Tryz.ntmps75
  go_wp2_with fail
  generalize (w.alloc (.cells #[.bool r, .slice x n c, .slice y m e] 71)).alloc (.cells #[.bool false, .slice none 0 0, .slice none 0 0] 24) = w1 at *
  have HA := hid h1; have HB := hid h2; have OB := h3; have HW := hid h4
  obtain ⟨hz, z0, z1, z2, zf⟩ := h3
  obtain ⟨hy, x0, x1, x2⟩ := h5
  clear h1 h2 h4
  have C1 : Hid (∀ W, Below w1.heap.size w1 W → Calls Tryz.prog 84 #[.slice x n c] W fun e w' => ∃ z k c' f, e = .returned (.slice z k c') ∧ Below W.heap.size W w' ∧ Hid (k ≤ n ∧ Wn w' false z k c' f (A : Int) ∧ Tg w' z)) := fun W hW => toWn_c (HA.out.below hW) (by omega)
  have C2 : Hid (∀ W, Below w1.heap.size w1 W → Calls Tryz.prog 84 #[.slice y m e] W fun e w' => ∃ z k c' f, e = .returned (.slice z k c') ∧ Below W.heap.size W w' ∧ Hid (k ≤ m ∧ Wn w' false z k c' f (B : Int) ∧ Tg w' z)) := fun W hW => toWn_c (HB.out.below hW) (by omega)
  go_region_held3 (fun w' => w'.cell? ⟨w.heap.size, 0, none⟩ = some (.bool r) ∧ w'.cell? ⟨w.heap.size, 1, none⟩ = some (.slice x n c) ∧ w'.cell? ⟨w.heap.size, 2, none⟩ = some (.slice y m e) ∧ (w'.cell? ⟨w.heap.size + 1, 0, none⟩).isSome = true ∧ (w'.cell? ⟨w.heap.size + 1, 1, none⟩).isSome = true ∧ (w'.cell? ⟨w.heap.size + 1, 2, none⟩).isSome = true ∧ w'.frozen? ⟨w.heap.size + 1, 0, none⟩ = false ∧ w'.frozen? ⟨w.heap.size + 1, 1, none⟩ = false ∧ w'.frozen? ⟨w.heap.size + 1, 2, none⟩ = false)
    (refine ⟨?_, ?_, ?_, ?_, ?_, ?_, ?_, ?_, ?_⟩ <;> repeat (with_reducible first | assumption | exact zf _ | exact kI0 z0 | exact kI0 z1 | exact kI0 z2 | exact tf _ | exact kI0 t0 | exact kI0 t1 | exact kI0 t2 | exact uf _ | exact kI0 u0 | exact kI0 u1 | exact kI0 u2 | refine kCd ?_ | refine kId ?_ | refine kFd ?_ | refine kCs (by simp only [ne_eq]; omega) ?_ | refine kIs ?_ | refine kFs ?_ | refine kCb (by assumption) ?_ | refine kIb (by assumption) ?_))
    (first
      | (go_at_call 84; with_reducible refine (C1.out _ (by repeat (with_reducible first | assumption | exact Below.refl _ _ | refine Below.drew ?_ | refine kBa ?_ | refine kBb (by assumption) ?_))).mono ?_; rintro e w5 ⟨za, ka, ca, fa, rfl, hb5, HP⟩; have TU : Ob w5 (w.heap.size + 1) := (by repeat (with_reducible first | exact OB | exact hO2 | exact TU | exact TV | exact TW | exact TX | exact TY | refine Ob.drew ?_ | refine kOb (by assumption) ?_)); obtain ⟨_, t0, t1, t2, tf⟩ := id TU)
      | (go_at_call 84; with_reducible refine (C2.out _ (by repeat (with_reducible first | assumption | exact Below.refl _ _ | refine Below.drew ?_ | refine kBa ?_ | refine kBb (by assumption) ?_))).mono ?_; rintro e w6 ⟨zb, kb, cb, fb, rfl, hb6, HQ⟩; have TV : Ob w6 (w.heap.size + 1) := (by repeat (with_reducible first | exact OB | exact hO2 | exact TU | exact TV | exact TW | exact TX | exact TY | refine Ob.drew ?_ | refine kOb (by assumption) ?_)); obtain ⟨_, u0, u1, u2, uf⟩ := id TV))
  have WA : Wn w6 false za ka ca fa (A : Int) := HP.out.2.1.below hb6
  have hb : Below w1.heap.size w1 w6 := (by repeat (with_reducible first | assumption | exact Below.refl _ _ | refine Below.drew ?_ | refine kBa ?_ | refine kBb (by assumption) ?_))
  go_wp2
  exact bodyPost_ret (v := .agg #[.bool r, .slice za ka ca, .slice zb kb cb]) (by simp [results, Tryz.results75, go_sem, u0, u1, u2]) rfl ⟨za, ka, ca, fa, zb, kb, cb, fb, rfl, below_st (HW.out.trans (hb.mono HW.out.size)) (by omega), HP.out.1, HQ.out.1, TV.wn WA, TV.wn HQ.out.2.1, ((((HP.out.2.2.below hb6).set _ _).set _ _).set _ _), (((HQ.out.2.2.set _ _).set _ _).set _ _)⟩

theorem mk_boxes {w w1 : World} {sa xa na ca sb xb nb cb} (hb : Below (((w.alloc (.cells #[.bool sa, .slice xa na ca] 44)).alloc (.cells #[.bool sb, .slice xb nb cb] 44)).alloc (.cells #[.bool false, .slice none 0 0, .slice none 0 0] 24)).heap.size (((w.alloc (.cells #[.bool sa, .slice xa na ca] 44)).alloc (.cells #[.bool sb, .slice xb nb cb] 44)).alloc (.cells #[.bool false, .slice none 0 0, .slice none 0 0] 24)) w1) :
    Bx w1 w.heap.size sa xa na ca ∧ Bx w1 (w.heap.size + 1) sb xb nb cb ∧ Ob w1 (w.heap.size + 1 + 1) ∧ Below w.heap.size w w1 := by
  have h0 : Bx (w.alloc (.cells #[.bool sa, .slice xa na ca] 44)) w.heap.size sa xa na ca := ⟨by simp, kN0, kN1⟩
  have h1 : Bx ((w.alloc (.cells #[.bool sa, .slice xa na ca] 44)).alloc (.cells #[.bool sb, .slice xb nb cb] 44)) (w.heap.size + 1) sb xb nb cb := by
    have := size_alloc1 w (.cells #[.bool sa, .slice xa na ca] 44)
    refine ⟨by simp, ?_, ?_⟩
    · rw [← this]; exact kN0
    · rw [← this]; exact kN1
  have h2 := ob_new ((w.alloc (.cells #[.bool sa, .slice xa na ca] 44)).alloc (.cells #[.bool sb, .slice xb nb cb] 44)) 24
  rw [size_alloc1, size_alloc1] at h2
  exact ⟨((h0.alloc _).alloc _).below hb, (h1.alloc _).below hb, h2.below hb, (below_alloc (below_alloc (below_alloc (Below.refl w.heap.size w) _) _) _).trans (hb.mono (by simp; omega))⟩

set_option maxRecDepth 100000 in
set_option maxHeartbeats 4000000 in
theorem docMake_c {w : World} {sa : Bool} {xa : Option Addr} {na ca : Nat} {fa : Nat → Int} {sb : Bool} {xb : Option Addr} {nb cb : Nat} {fb : Nat → Int} {u v : Int} (ha : Wn w sa xa na ca fa u) (hb : Wn w sb xb nb cb fb v) (hu : u ≠ 0) (hv : v ≠ 0) (hna : na ≤ 1) (hnb1 : nb ≤ 1) :
    Calls Tryz.prog 56 #[.agg #[.bool sa, .slice xa na ca], .agg #[.bool sb, .slice xb nb cb]] w fun e w' => RatTgt 2 w w' e ((u : Rat) / (v : Rat)) := by
  have HA0 := hid ha; have HB0 := hid hb
  have hvA : 0 < v.natAbs := by omega
  have hnb : 0 < nb := hb.mag.pos (by omega)
  clear ha hb
  have hn0 : ((nb : Int) == 0) = false := by simp; omega
  go_enter Tryz.func56, Tryz.ntmps56
  go_wp2_with fail
  refine (rwForm_c sa xa na ca fa _ (by omega) (((HA0.out.alloc _).alloc _).alloc _).rd).mono ?_
  rintro e w1 ⟨rfl, hb⟩
  rw [HA0.out.wf]
  obtain ⟨ba, bb, ob, hw⟩ := mk_boxes hb
  have BA1 := hid ba; have BB1 := hid bb; have OB1 := hid ob; have HW1 := hid hw; have HA1 := hid (HA0.out.below hw); have HB1 := hid (HB0.out.below hw)
  clear ba bb ob hw hb HA0 HB0
  obtain ⟨zb, b0, b1⟩ := BB1.out
  go_wp2_with fail
  refine (rwForm_c sb xb nb cb fb _ (by omega) HB1.out.rd).mono ?_
  rintro e w2 ⟨rfl, hb⟩
  rw [HB1.out.wf]
  clear zb b0 b1
  have BA2 := hid (BA1.out.below hb); have BB2 := hid (BB1.out.below hb); have OB2 := hid (OB1.out.below hb); have HA2 := hid (HA1.out.below hb); have HB2 := hid (HB1.out.below hb); have HW2 := hid (HW1.out.trans (hb.mono HW1.out.size))
  clear BA1 BB1 OB1 HA1 HB1 HW1 hb
  obtain ⟨za, a0, a1⟩ := BA2.out
  obtain ⟨zb, b0, b1⟩ := BB2.out
  obtain ⟨hz, z0, z1, z2, zf⟩ := OB2.out
  have hO2 := OB2.out
  have C1 : Hid (∀ W, Below w2.heap.size w2 W → Calls Tryz.prog 93 #[.slice xa na ca] W fun e w' => ∃ z k c', e = .returned (.slice z k c') ∧ Below W.heap.size W w' ∧ Hid (k ≤ 2 * na ∧ Dn w' z k (dig fa) u.natAbs)) := fun W hW => fromDn_c (HA2.out.below hW) (by omega)
  have C2 : Hid (∀ W, Below w2.heap.size w2 W → Calls Tryz.prog 93 #[.slice xb nb cb] W fun e w' => ∃ z k c', e = .returned (.slice z k c') ∧ Below W.heap.size W w' ∧ Hid (k ≤ 2 * nb ∧ Dn w' z k (dig fb) v.natAbs)) := fun W hW => fromDn_c (HB2.out.below hW) (by omega)
  have C3 : Hid (∀ (W : World) (z : Option Addr) (k cap : Nat), k ≤ 2 → Calls Tryz.prog 92 #[.bool (!(sa == sb)), .slice z k cap] W fun e w' => ∃ r, e = .returned (.agg #[.bool r, .slice z k cap]) ∧ Below W.heap.size W w' ∧ Hid (r = ((!(sa == sb)) && decide (0 < k)))) := fun W z k cap hk => (zMk_c (!(sa == sb)) z k cap W (by omega)).mono (fun e w' ⟨r, h1, h2, h3⟩ => ⟨r, h1, h3, h2⟩)
  have C4 : Hid (∀ (W : World) (r : Bool) (z : Option Addr) (k cap : Nat) (y : Option Addr) (m e : Nat), k ≤ 2 → m ≤ 2 → Dn W z k (dig fa) u.natAbs → Dn W y m (dig fb) v.natAbs → Calls Tryz.prog 91 #[.agg #[.bool r, .slice z k cap], .slice y m e] W fun e w' => ∃ r' z k c' z2 k2 c2, e = .returned (.agg #[.bool r', .slice z k c', .slice z2 k2 c2]) ∧ Below W.heap.size W w' ∧ Hid (k ≤ 2 ∧ k2 ≤ 2 ∧ r' = (r && decide (0 < k)) ∧ (∃ d', Dn w' z k d' (u.natAbs / u.natAbs.gcd v.natAbs)) ∧ ∃ d2, Dn w' z2 k2 d2 (v.natAbs / u.natAbs.gcd v.natAbs))) := fun W r z k cap y m e hk hm h1 h2 => (mkSmall_c h1 h2 (by omega) hk hm hvA).mono (fun e w' ⟨r', z, k, c', d', z2, k2, c2, d2, h1, h2, h3, h4, h5, h6, h7⟩ => ⟨r', z, k, c', z2, k2, c2, h1, h2, h3, h4, h5, ⟨d', h6⟩, d2, h7⟩)
  have C5 : Hid (∀ (W : World) (r : Bool) (z : Option Addr) (k cap : Nat) (y : Option Addr) (m e : Nat), k ≤ 2 → m ≤ 2 → (∃ d', Dn W z k d' (u.natAbs / u.natAbs.gcd v.natAbs)) → (∃ d2, Dn W y m d2 (v.natAbs / u.natAbs.gcd v.natAbs)) → Calls Tryz.prog 75 #[.agg #[.bool r, .slice z k cap, .slice y m e]] W fun en w' => ∃ z k' c' f z2 k2 c2 f2, en = .returned (.agg #[.bool r, .slice z k' c', .slice z2 k2 c2]) ∧ Below W.heap.size W w' ∧ Hid (k' ≤ k ∧ k2 ≤ m ∧ Wn w' false z k' c' f ((u.natAbs / u.natAbs.gcd v.natAbs : Nat) : Int) ∧ Wn w' false z2 k2 c2 f2 ((v.natAbs / u.natAbs.gcd v.natAbs : Nat) : Int) ∧ Tg w' z ∧ Tg w' z2)) := fun W r z k cap y m e hk hm ⟨_, h1⟩ ⟨_, h2⟩ => qTo_c h1 h2 (by omega) (by omega)
  go_wp2_with fail
  go_region_held3 (fun w' => w'.cell? ⟨w.heap.size, 0, none⟩ = some (.bool sa) ∧ w'.cell? ⟨w.heap.size, 1, none⟩ = some (.slice xa na ca) ∧ w'.cell? ⟨w.heap.size + 1, 0, none⟩ = some (.bool sb) ∧ w'.cell? ⟨w.heap.size + 1, 1, none⟩ = some (.slice xb nb cb) ∧ (w'.cell? ⟨w.heap.size + 1 + 1, 0, none⟩).isSome = true ∧ (w'.cell? ⟨w.heap.size + 1 + 1, 1, none⟩).isSome = true ∧ (w'.cell? ⟨w.heap.size + 1 + 1, 2, none⟩).isSome = true ∧ w'.frozen? ⟨w.heap.size + 1 + 1, 0, none⟩ = false ∧ w'.frozen? ⟨w.heap.size + 1 + 1, 1, none⟩ = false ∧ w'.frozen? ⟨w.heap.size + 1 + 1, 2, none⟩ = false)
    (refine ⟨?_, ?_, ?_, ?_, ?_, ?_, ?_, ?_, ?_, ?_⟩ <;> repeat (with_reducible first | assumption | exact zf _ | exact kI0 z0 | exact kI0 z1 | exact kI0 z2 | exact tf _ | exact kI0 t0 | exact kI0 t1 | exact kI0 t2 | exact uf _ | exact kI0 u0 | exact kI0 u1 | exact kI0 u2 | exact vf _ | exact kI0 v0 | exact kI0 v1 | exact kI0 v2 | exact sf _ | exact kI0 s0 | exact kI0 s1 | exact kI0 s2 | exact rf _ | exact kI0 r0 | exact kI0 r1 | exact kI0 r2 | refine kCd ?_ | refine kId ?_ | refine kFd ?_ | refine kCs (by simp only [ne_eq]; omega) ?_ | refine kIs ?_ | refine kFs ?_ | refine kCb (by assumption) ?_ | refine kIb (by assumption) ?_))
    (first
      | (go_at_call 93; with_reducible refine (C1.out _ (by repeat (with_reducible first | assumption | exact Below.refl _ _ | refine Below.drew ?_ | refine kBa ?_ | refine kBb (by assumption) ?_))).mono ?_; rintro e w5 ⟨zp, kp, cp, rfl, hb5, HP⟩; have hkp : kp ≤ 2 := (by have := HP.out.1; omega); have TU : Ob w5 (w.heap.size + 1 + 1) := (by repeat (with_reducible first | exact OB | exact hO2 | exact TU | exact TV | exact TW | exact TX | exact TY | refine Ob.drew ?_ | refine kOb (by assumption) ?_)); obtain ⟨_, t0, t1, t2, tf⟩ := id TU)
      | (go_at_call 92; with_reducible refine (C3.out _ zp kp cp hkp).mono ?_; rintro e w6 ⟨r, rfl, hb6, HR⟩; have TV : Ob w6 (w.heap.size + 1 + 1) := (by repeat (with_reducible first | exact OB | exact hO2 | exact TU | exact TV | exact TW | exact TX | exact TY | refine Ob.drew ?_ | refine kOb (by assumption) ?_)); obtain ⟨_, u0, u1, u2, uf⟩ := id TV)
      | (go_at_call 93; with_reducible refine (C2.out _ (by repeat (with_reducible first | assumption | exact Below.refl _ _ | refine Below.drew ?_ | refine kBa ?_ | refine kBb (by assumption) ?_))).mono ?_; rintro e w7 ⟨zq, kq, cq, rfl, hb7, HQ⟩; have hkq : kq ≤ 2 := (by have := HQ.out.1; omega); have TW : Ob w7 (w.heap.size + 1 + 1) := (by repeat (with_reducible first | exact OB | exact hO2 | exact TU | exact TV | exact TW | exact TX | exact TY | refine Ob.drew ?_ | refine kOb (by assumption) ?_)); obtain ⟨_, v0, v1, v2, vf⟩ := id TW)
      | (go_at_call 91; with_reducible refine (C4.out _ r zp kp cp zq kq cq hkp hkq ((HP.out.2.below hb6).below hb7) HQ.out.2).mono ?_; rintro e w8 ⟨r', zr, kr, cr, zs, ks, cs, rfl, hb8, HM⟩; have TX : Ob w8 (w.heap.size + 1 + 1) := (by repeat (with_reducible first | exact OB | exact hO2 | exact TU | exact TV | exact TW | exact TX | exact TY | refine Ob.drew ?_ | refine kOb (by assumption) ?_)); obtain ⟨_, s0, s1, s2, sf⟩ := id TX)
      | (go_at_call 75; with_reducible refine (C5.out _ r' zr kr cr zs ks cs HM.out.1 HM.out.2.1 HM.out.2.2.2.1 HM.out.2.2.2.2).mono ?_; rintro e w9 ⟨zn, kn, cn, fn, zd, kd, cd, fd, rfl, hb9, HT⟩; have TY : Ob w9 (w.heap.size + 1 + 1) := (by repeat (with_reducible first | exact OB | exact hO2 | exact TU | exact TV | exact TW | exact TX | exact TY | refine Ob.drew ?_ | refine kOb (by assumption) ?_)); obtain ⟨_, r0, r1, r2, rf⟩ := id TY))
  have hb : Below w2.heap.size w2 w9 := (by repeat (with_reducible first | assumption | exact Below.refl _ _ | refine Below.drew ?_ | refine kBa ?_ | refine kBb (by assumption) ?_))
  have hT := HT.out
  obtain ⟨e1, e2⟩ := make_made HA2.out.sgn HB2.out.sgn hvA
  have hM := HM.out
  have hRR : r' = ((sa != sb) && decide (0 < kn)) := by
    rw [hM.2.2.1, HR.out]
    have e3 : 0 < u.natAbs / u.natAbs.gcd v.natAbs := Nat.div_pos (Nat.gcd_le_left _ (by omega)) (Nat.gcd_pos_of_pos_right _ hvA)
    have k1 : 0 < kn := hT.2.2.1.pos (by omega)
    have k2 : 0 < kr := by omega
    have k3 : 0 < kp := by
      rcases Nat.eq_zero_or_pos kp with h | h
      · have h2 := HP.out.2.val; rw [h] at h2; have : (0 : Int) = u.natAbs := h2; omega
      · exact h
    simp [k1, k2, k3, bne]
  go_wp2
  refine bodyPost_ret (v := .tuple #[.agg #[.bool r', .slice zn kn cn, .slice zd kd cd], .int .i64 0]) (by simp [results, Tryz.results56, go_sem, r0, r1, r2]) rfl ⟨r', zn, kn, cn, fn, zd, kd, cd, fd, rfl, below_st (HW2.out.trans (hb.mono HW2.out.size)) (by omega), ⟨?_, ?_, by omega, by omega⟩, ((hT.2.2.2.2.1.set _ _).set _ _).set _ _, ((hT.2.2.2.2.2.set _ _).set _ _).set _ _⟩
  · rw [e1]; exact TY.wn (hT.2.2.1.resign hRR)
  · rw [e2]; exact TY.wn hT.2.2.2.1
end Go.Proofs.YtlpmfmphglgocaaGreatDoor
namespace Go.Proofs.YtlpmfmphglgocaaGreatDoor
open Go.RowKit

theorem Wn.len1 {w s x n c f v} (h : Wn w s x n c f v) (hv : v.natAbs < 18446744073709551616) : n ≤ 1 := by
  rcases Nat.lt_or_ge 1 n with h2 | h2
  · have h1 := vf_form_ge h.lm h.fm (by omega)
    have h3 := pw_mono (show 1 ≤ n - 1 by omega)
    have h4 : pw 1 = 18446744073709551616 := by simp [pw]
    have h5 := h.mag.nv
    omega
  · omega
set_option maxRecDepth 100000 in
set_option maxHeartbeats 4000000 in
theorem num_c (w : World) (n d : Int) (hn : -9223372036854775808 ≤ n ∧ n ≤ 9223372036854775807) (hd : -9223372036854775808 ≤ d ∧ d ≤ 9223372036854775807) (h1 : n ≠ 0) (h2 : d ≠ 0) :
    Calls Tryz.prog 20 #[.int .i64 n, .int .i64 d] w fun e w' => RatTga 2 w w' e ((n : Rat) / (d : Rat)) := by
  have h3 := ob_new w 24
  have h4 := below_alloc (Below.refl w.heap.size w) (.cells #[.bool false, .slice none 0 0, .slice none 0 0] 24)
  go_enter Tryz.func20, Tryz.ntmps20
  go_wp2_with fail
  generalize w.alloc (.cells #[.bool false, .slice none 0 0, .slice none 0 0] 24) = w1 at *
  have OB1 := hid h3; have HW1 := hid h4
  clear h3 h4
  refine (docOf_c n _ hn.1 hn.2).mono ?_
  rintro e w2 ⟨s2, x2, k2, c2, f2, rfl, hr2, hv2⟩
  have hb := hr2.res.bel
  have WN2 := hid (hr2.wn hv2)
  have hk2 := (hr2.wn hv2).len1 (by omega)
  clear hr2 hv2
  have OB2 := hid (OB1.out.below hb); have HW2 := hid (HW1.out.trans (hb.mono HW1.out.size))
  clear OB1 HW1 hb
  go_wp2_with fail
  refine (docOf_c d _ hd.1 hd.2).mono ?_
  rintro e w3 ⟨s3, x3, k3, c3, f3, rfl, hr3, hv3⟩
  have hb := hr3.res.bel
  have WD3 := hid (hr3.wn hv3)
  have hk3 := (hr3.wn hv3).len1 (by omega)
  clear hr3 hv3
  have OB3 := hid (OB2.out.below hb); have WN3 := hid (WN2.out.below hb); have HW3 := hid (HW2.out.trans (hb.mono HW2.out.size))
  clear OB2 WN2 HW2 hb
  go_wp2_with fail
  refine (docMake_c WN3.out WD3.out h1 h2 hk2 hk3).mono ?_
  rintro e w4 ⟨rs, zn, kn, cn, fn, zd, kd, cd, fd, rfl, hb, hr, ht1, ht2⟩
  have HR := hid hr; have G1 := hid ht1; have G2 := hid ht2
  clear hr ht1 ht2
  have OB4 := hid (OB3.out.below hb); have HW4 := hid (HW3.out.trans (hb.mono HW3.out.size))
  clear OB3 HW3 hb
  obtain ⟨hz, z0, z1, z2, zf⟩ := OB4.out
  go_wp2
  exact bodyPost_ret (v := .agg #[.bool rs, .slice zn kn cn, .slice zd kd cd]) (by simp [results, Tryz.results20, go_sem, z0, z1, z2, hz]) rfl ⟨rs, zn, kn, cn, fn, zd, kd, cd, fd, rfl, below_alloc (below_st HW4.out (Nat.le_refl _)) _, (OB4.out.rn HR.out).alloc _, (((G1.out.set _ _).set _ _).set _ _).alloc _, (((G2.out.set _ _).set _ _).set _ _).alloc _⟩

set_option maxRecDepth 100000 in
set_option maxHeartbeats 4000000 in
theorem rMake_n {w : World} {sa : Bool} {xa : Option Addr} {na ca : Nat} {fa : Nat → Int} {sb : Bool} {xb : Option Addr} {nb cb : Nat} {fb : Nat → Int} {u v : Int} (ha : Wn w sa xa na ca fa u) (hb : Wn w sb xb nb cb fb v) {L : Nat} (hv : v ≠ 0) (hna : na ≤ L) (hnbL : nb ≤ L) (hL : L ≤ 1000) :
    Calls Tryz.prog 17 #[.agg #[.bool sa, .slice xa na ca], .agg #[.bool sb, .slice xb nb cb]] w fun e w' => RatTup L w w' e ((u : Rat) / (v : Rat)) := by
  have HA0 := hid ha; have HB0 := hid hb
  have hvA : 0 < v.natAbs := by omega
  have hnb : 0 < nb := hb.mag.pos (by omega)
  clear ha hb
  have hn0 : ((nb : Int) == 0) = false := by simp; omega
  go_enter Tryz.func17, Tryz.ntmps17
  go_wp2_with fail
  refine (wForm_c sa xa na ca fa _ (by omega) (((HA0.out.alloc _).alloc _).alloc _).rd).mono ?_
  rintro e w1 ⟨rfl, hb⟩
  rw [HA0.out.wf]
  obtain ⟨ba, bb, ob, hw⟩ := mk_boxes hb
  have BA1 := hid ba; have BB1 := hid bb; have OB1 := hid ob; have HW1 := hid hw; have HA1 := hid (HA0.out.below hw); have HB1 := hid (HB0.out.below hw)
  clear ba bb ob hw hb HA0 HB0
  obtain ⟨zb, b0, b1⟩ := BB1.out
  go_wp2_with fail
  refine (wForm_c sb xb nb cb fb _ (by omega) HB1.out.rd).mono ?_
  rintro e w2 ⟨rfl, hb⟩
  rw [HB1.out.wf]
  clear zb b0 b1
  have BA2 := hid (BA1.out.below hb); have BB2 := hid (BB1.out.below hb); have OB2 := hid (OB1.out.below hb); have HA2 := hid (HA1.out.below hb); have HB2 := hid (HB1.out.below hb); have HW2 := hid (HW1.out.trans (hb.mono HW1.out.size))
  clear BA1 BB1 OB1 HA1 HB1 HW1 hb
  obtain ⟨za, a0, a1⟩ := BA2.out
  obtain ⟨zb, b0, b1⟩ := BB2.out
  obtain ⟨hz, z0, z1, z2, zf⟩ := OB2.out
  go_wp2_with fail
  refine (ratGcd_c HA2.out.mag HB2.out.mag (by omega) (by omega)).mono ?_
  rintro e w3 ⟨zg, kg, cg, fg, rfl, hb, hg⟩
  have WG3 := hid hg
  have hG0 : 0 < u.natAbs.gcd v.natAbs := Nat.gcd_pos_of_pos_right _ hvA
  have hkg : kg ≤ L := Nat.le_trans (hg.len_le HB2.out.mag (Nat.gcd_le_right _ hvA)) (by omega)
  clear hg za a0 a1 zb b0 b1 hz z0 z1 z2 zf
  have BA3 := hid (BA2.out.below hb); have BB3 := hid (BB2.out.below hb); have OB3 := hid (OB2.out.below hb); have HA3 := hid (HA2.out.below hb); have HB3 := hid (HB2.out.below hb); have HW3 := hid (HW2.out.trans (hb.mono HW2.out.size))
  clear BA2 BB2 OB2 HA2 HB2 HW2 hb
  obtain ⟨za, a0, a1⟩ := BA3.out
  obtain ⟨zb, b0, b1⟩ := BB3.out
  go_wp2_with fail
  refine (div_n HA3.out.mag WG3.out hG0 (by omega) (by omega)).mono ?_
  rintro e w4 ⟨zn, kn, cn, fn, zx, kx, cx, rfl, hb, hkn, hn⟩
  have WN4 := hid hn
  clear hn za a0 a1 zb b0 b1
  have BA4 := hid (BA3.out.below hb); have BB4 := hid (BB3.out.below hb); have OB4 := hid (OB3.out.below hb); have HA4 := hid (HA3.out.below hb); have HB4 := hid (HB3.out.below hb); have WG4 := hid (WG3.out.below hb); have HW4 := hid (HW3.out.trans (hb.mono HW3.out.size))
  clear BA3 BB3 OB3 HA3 HB3 WG3 HW3 hb
  obtain ⟨za, a0, a1⟩ := BA4.out
  obtain ⟨zb, b0, b1⟩ := BB4.out
  go_wp2_with fail
  refine (div_n HB4.out.mag WG4.out hG0 (by omega) (by omega)).mono ?_
  rintro e w5 ⟨zd, kd, cd, fd, zy, ky, cy, rfl, hb, hkd, hn⟩
  have WD5 := hid hn
  clear hn za a0 a1 zb b0 b1
  have BA5 := hid (BA4.out.below hb); have BB5 := hid (BB4.out.below hb); have OB5 := hid (OB4.out.below hb); have HA5 := hid (HA4.out.below hb); have HB5 := hid (HB4.out.below hb); have WN5 := hid (WN4.out.below hb); have HW5 := hid (HW4.out.trans (hb.mono HW4.out.size))
  clear BA4 BB4 OB4 HA4 HB4 WN4 HW4 hb
  obtain ⟨za, a0, a1⟩ := BA5.out
  obtain ⟨zb, b0, b1⟩ := BB5.out
  obtain ⟨e1, e2⟩ := make_made HA5.out.sgn HB5.out.sgn hvA
  have E1 := hid e1; have E2 := hid e2
  clear e1 e2
  go_wp2_with fail
  refine (rsigned_c _ zn zd kn cn kd cd _ (by omega)).mono ?_
  rintro e w6 ⟨rs, rfl, HRS, hb⟩
  clear za a0 a1 zb b0 b1
  have OB6 := hid (OB5.out.below hb); have WN6 := hid (WN5.out.below hb); have WD6 := hid (WD5.out.below hb); have HW6 := hid (HW5.out.trans (hb.mono HW5.out.size))
  clear OB5 WN5 WD5 HW5 hb
  obtain ⟨hz, z0, z1, z2, zf⟩ := OB6.out
  go_wp2
  refine bodyPost_ret (v := .tuple #[.agg #[.bool rs, .slice zn kn cn, .slice zd kd cd], .int .i64 0]) (by simp [results, Tryz.results17, go_sem, z0, z1, z2]) rfl ⟨rs, zn, kn, cn, fn, zd, kd, cd, fd, rfl, below_st HW6.out (by omega), ⟨?_, ?_, by omega, by omega⟩⟩
  · rw [E1.out]; exact OB6.out.wn (WN6.out.resign HRS.out)
  · rw [E2.out]; exact OB6.out.wn WD6.out
end Go.Proofs.YtlpmfmphglgocaaGreatDoor
namespace Go.Proofs.YtlpmfmphglgocaaGreatDoor
open Go.RowKit

theorem kM0 {w : World} {g : Nat} {x y : Value} {t : TypeId} (h : g = w.heap.size) : (w.alloc (.cells #[x, y] t)).cell? ⟨g, 0, none⟩ = some x := by subst h; exact kN0
theorem kM1 {w : World} {g : Nat} {x y : Value} {t : TypeId} (h : g = w.heap.size) : (w.alloc (.cells #[x, y] t)).cell? ⟨g, 1, none⟩ = some y := by subst h; exact kN1
theorem kCe {w : World} {a : Addr} {v : Value} (h : (w.cell? a).isSome = true) : (w.setCell a v).cell? a = some v := World.cell?_setCell_same' w a v h
theorem kCo {w : World} {b i j : Nat} {u v : Value} (hij : i ≠ j) (h : w.cell? ⟨b, j, none⟩ = some u) : (w.setCell ⟨b, i, none⟩ v).cell? ⟨b, j, none⟩ = some u := by
  rw [World.cell?_setCell_other _ _ _ _ (fun he => hij (congrArg Addr.off he))]; exact h
/-- A new box for an answer of two cells. -/
structure Ob2 (w : World) (B : Nat) : Prop where
  z : B < w.heap.size
  z0 : w.cell? ⟨B, 0, none⟩ = some (.bool false)
  z1 : w.cell? ⟨B, 1, none⟩ = some (.slice none 0 0)
  zf : ∀ o, w.frozen? ⟨B, o, none⟩ = false
theorem Ob2.below {w w' B} (h : Ob2 w B) (hb : Below w.heap.size w w') : Ob2 w' B := by
  obtain ⟨h1, h2⟩ := bcell hb
  exact ⟨Nat.lt_of_lt_of_le h.z hb.size, kCb hb h.z0, kCb hb h.z1, fun o => (h2 _ _ h.z).trans (h.zf o)⟩
theorem ob2_new (w : World) (t : TypeId) : Ob2 (w.alloc (.cells #[.bool false, .slice none 0 0] t)) w.heap.size := by
  refine ⟨by simp, by simp [go_sem], by simp [go_sem], fun o => ?_⟩
  have e := heap_alloc_new w (.cells #[.bool false, .slice none 0 0] t)
  simp only [World.frozen?, e]; simp
theorem Ob2.wn {w B u0 u1 s x n c f v} (h : Ob2 w B) (hx : Wn w s x n c f v) : Wn ((w.setCell ⟨B, 0, none⟩ u0).setCell ⟨B, 1, none⟩ u1) s x n c f v :=
  ⟨rd_setne (cell_off (by decide) h.z1) (fun i h => by cases h) (rd_setne h.z0 (fun i h => by cases h) hx.rd), hx.lm, hx.wf, hx.cap, hx.nil, hx.val⟩
theorem below_st2 {w0 w : World} {B : Nat} {u0 u1 : Value} (hw : Below w0.heap.size w0 w) (hB : w0.heap.size ≤ B) :
    Below w0.heap.size w0 ((w.setCell ⟨B, 0, none⟩ u0).setCell ⟨B, 1, none⟩ u1) :=
  below_turned hw hw.size (((Turned.refl w0.heap.size (B + 1) w).set (x := ⟨B, 0, none⟩) hB (by simp) _).set (x := ⟨B, 1, none⟩) hB (by simp) _) (Nat.le_refl _)
theorem flr_ediv {a b q r : Int} (hb : 0 < b) (h : Flr a b q r) : q = a / b := by
  obtain ⟨h1, h2⟩ := h
  have h3 : 0 ≤ r ∧ r < b := by omega
  have h4 : a / b = q := by
    rw [h1, Int.add_comm, Int.add_mul_ediv_right _ _ (by omega), Int.ediv_eq_zero_of_lt h3.1 h3.2]; omega
  exact h4.symm
/-- What stands behind the quotient. -/
structure FlAt (L : Nat) (w1 wx : World) (b4 : Nat) (s : Bool) (z : Option Addr) (k c : Nat) (v : Int) : Prop where
  bx : Bx wx b4 s z k c
  bel : Below w1.heap.size w1 wx
  wn : ∃ f, Wn wx s z k c f v
  le : k ≤ L + 2
theorem fl_of {L : Nat} {w1 wx W5 w5 : World} {b4 : Nat} {r1 : Bool} {p1 : Option Addr} {k1 c1 n : Nat} {q : Nat → Int} {v : Int} (hn : n ≤ L) (hW : Below w1.heap.size w1 W5) (hD : WRes (n + 2) W5 w5 r1 p1 k1 c1 q ∧ wv r1 q k1 = v) (hT : Turned w1.heap.size W5.heap.size w5 wx) (hb : Bx wx b4 r1 p1 k1 c1) : FlAt L w1 wx b4 r1 p1 k1 c1 v := by
  have hQ := hD.1.res.turned hW hT
  have := hQ.le
  exact ⟨hb, hQ.bel, ⟨q, hQ.rd, hQ.lm, hD.1.wfB, hQ.ncap, hQ.nil', hD.2⟩, by omega⟩

set_option maxRecDepth 100000 in
set_option maxHeartbeats 8000000 in
theorem rFloor_n {L : Nat} {w : World} {sa : Bool} {xa : Option Addr} {na ca : Nat} {fa : Nat → Int} {ya : Option Addr} {ma da : Nat} {ga : Nat → Int} {a : Rat} (ha : Rn L w sa xa na ca fa ya ma da ga a) (hL : L ≤ 1000) :
    Calls Tryz.prog 21 #[.agg #[.bool sa, .slice xa na ca, .slice ya ma da]] w fun e w' => ∃ s z k c f, e = .returned (.tuple #[.agg #[.bool s, .slice z k c], .int .i64 0]) ∧ Below w.heap.size w w' ∧ k ≤ L + 2 ∧ Wn w' s z k c f a.floor := by
  have HA0 := hid ha
  have b1 := ha.ln; have b2 := ha.ld
  clear ha
  go_enter Tryz.func21, Tryz.ntmps21
  go_wp2_with fail
  refine (rForm_n ((HA0.out.alloc _).alloc _) (by omega)).mono ?_
  rintro e w1 ⟨rfl, hbel⟩
  have hbx := ((bx3_at w _ _ _ _).alloc _).below hbel
  have hob := (ob2_new (w.alloc _) _).below hbel
  rw [size_alloc1] at hob
  have HW1 : Hid (Below w.heap.size w w1) := (below_alloc (below_alloc (Below.refl w.heap.size w) _) _).trans (hbel.mono (by simp; omega))
  have HA1 := hid (HA0.out.below HW1.out); have OB1 := hid hob
  clear hbel hob HA0
  obtain ⟨za, x0, x1, x2⟩ := hbx
  have C1 : Hid (∀ W, Below w1.heap.size w1 W → Calls Tryz.prog 58 #[.agg #[.bool sa, .slice xa na ca, .slice ya ma da]] W fun e w' => e = .returned (.agg #[.bool sa, .slice xa na ca]) ∧ Below W.heap.size W w') := fun W _ => numer_c sa xa ya na ca ma da W
  have C2 : Hid (∀ W, Below w1.heap.size w1 W → Calls Tryz.prog 59 #[.agg #[.bool sa, .slice xa na ca, .slice ya ma da]] W fun e w' => e = .returned (.agg #[.bool false, .slice ya ma da]) ∧ Below W.heap.size W w') := fun W _ => denom_c sa xa ya na ca ma da W
  have C3 : Hid (∀ W, Below w1.heap.size w1 W → Calls Tryz.prog 57 #[.agg #[.bool sa, .slice xa na ca], .agg #[.bool false, .slice ya ma da]] W fun e w' => ∃ r1 p1 k1 c1 q r2 p2 k2 c2, e = .returned (.tuple #[.agg #[.bool r1, .slice p1 k1 c1], .agg #[.bool r2, .slice p2 k2 c2], .int .i64 0]) ∧ Below W.heap.size W w' ∧ Hid (WRes (na + 2) W w' r1 p1 k1 c1 q ∧ wv r1 q k1 = a.floor)) := fun W hW => by
    have hh := HA1.out.below hW
    refine (wDivide_c sa false xa ya na ma ca da fa ga W (by omega) (by omega) hh.num.rd hh.den.rd hh.num.lm hh.den.lm).mono ?_
    rintro e w' ⟨r1, p1, k1, c1, q, r2, p2, k2, c2, r, er, rfl, h1, h2, h3⟩
    have hd := a.den_pos
    have hm0 : 0 < ma := hh.den.pos (by omega)
    rcases h3 with ⟨_, _, rfl, h4⟩ | ⟨_, h4, _⟩ | ⟨h4, _⟩
    · refine ⟨r1, p1, k1, c1, q, r2, p2, k2, c2, rfl, h1.res.bel, h1, ?_⟩
      rw [hh.num.val, hh.den.val] at h4
      rw [flr_ediv (by omega) h4, rfloor]
    · omega
    · exact absurd ⟨hh.num.wf, hh.den.wf⟩ h4
  go_upto_region 3 with fail
  go_cut [4, 5, 6] from 11 to 19 (fun u v t wx => ∃ b4 b5 s z k c, u = .pointer (some ⟨b4, 0, none⟩) ∧ v = .pointer (some ⟨b5, 0, none⟩) ∧ t = .int .i64 0 ∧ FlAt L w1 wx b4 s z k c a.floor)
  case first =>
    go_region_held3 (fun w' => w'.cell? ⟨w.heap.size, 0, none⟩ = some (.bool sa) ∧ w'.cell? ⟨w.heap.size, 1, none⟩ = some (.slice xa na ca) ∧ w'.cell? ⟨w.heap.size, 2, none⟩ = some (.slice ya ma da))
      (refine ⟨?_, ?_, ?_⟩ <;> repeat (with_reducible first | assumption | refine kCd ?_ | refine kCa ?_ | refine kCs (by simp only [ne_eq]; omega) ?_ | refine kCb (by assumption) ?_))
      (first
        | (go_at_call 58; with_reducible refine (C1.out _ (by repeat (with_reducible first | assumption | exact Below.refl _ _ | refine Below.drew ?_ | refine kBa ?_ | refine kBb (by assumption) ?_))).mono ?_; rintro e w3 ⟨rfl, hb3⟩; have hza := hb3.size; (try simp at hza); obtain ⟨hc3, hf3⟩ := bcell hb3; (try have q100 : w1.heap.size < w3.heap.size := by omega); (try have q101 : w1.heap.size + 1 < w3.heap.size := by omega))
        | (go_at_call 59; with_reducible refine (C2.out _ (by repeat (with_reducible first | assumption | exact Below.refl _ _ | refine Below.drew ?_ | refine kBa ?_ | refine kBb (by assumption) ?_))).mono ?_; rintro e w4 ⟨rfl, hb4⟩; have hzb := hb4.size; (try simp at hzb); obtain ⟨hc4, hf4⟩ := bcell hb4; (try have q100 : w1.heap.size < w4.heap.size := by omega); (try have q101 : w1.heap.size + 1 < w4.heap.size := by omega); (try have q102 : w3.heap.size < w4.heap.size := by omega); (try have q103 : w3.heap.size + 1 < w4.heap.size := by omega))
        | (go_at_call 57; with_reducible refine (C3.out _ (by repeat (with_reducible first | assumption | exact Below.refl _ _ | refine Below.drew ?_ | refine kBa ?_ | refine kBb (by assumption) ?_))).mono ?_; rintro e w5 ⟨r1, p1, k1, c1, q, r2, p2, k2, c2, rfl, hb5, HD⟩; have hzc := hb5.size; (try simp at hzc); obtain ⟨hc5, hf5⟩ := bcell hb5; (try have q100 : w1.heap.size < w5.heap.size := by omega); (try have q101 : w1.heap.size + 1 < w5.heap.size := by omega); (try have q102 : w3.heap.size < w5.heap.size := by omega); (try have q103 : w3.heap.size + 1 < w5.heap.size := by omega); (try have q104 : w4.heap.size < w5.heap.size := by omega); (try have q105 : w4.heap.size + 1 < w5.heap.size := by omega)))
    all_goals
      go_wp2_with fail
      go_meet
      refine ⟨_, _, r1, p1, k1, c1, rfl, rfl, rfl, fl_of b1 (by repeat (with_reducible first | assumption | exact Below.refl _ _ | refine Below.drew ?_ | refine kBa ?_ | refine kBb (by assumption) ?_)) HD.out (by repeat (with_reducible first | exact Turned.refl _ _ _ | refine Turned.drew ?_ | refine Turned.alloc ?_ _ | refine Turned.set ?_ (by first | omega | (simp; done) | (simp; omega)) (by first | omega | (simp; done) | (simp; omega)) _)) ⟨(by first | omega | (simp; done) | (simp; omega)), (by repeat (with_reducible first | assumption | exact kN0 | exact kN1 | (refine kM0 ?_; (simp <;> fail)) | (refine kM1 ?_; (simp <;> fail)) | exact kI0 kN0 | exact kI0 kN1 | (refine kI0 (kM0 ?_); (simp <;> fail)) | (refine kI0 (kM1 ?_); (simp <;> fail)) | refine kCd ?_ | refine kCe ?_ | refine kCo (by decide) ?_ | refine kCs (by simp only [ne_eq]; omega) ?_ | refine kCa ?_ | refine kCb (by assumption) ?_ | refine kId ?_ | refine kIs ?_ | refine kIa ?_ | refine kIb (by assumption) ?_)), (by repeat (with_reducible first | assumption | exact kN0 | exact kN1 | (refine kM0 ?_; (simp <;> fail)) | (refine kM1 ?_; (simp <;> fail)) | exact kI0 kN0 | exact kI0 kN1 | (refine kI0 (kM0 ?_); (simp <;> fail)) | (refine kI0 (kM1 ?_); (simp <;> fail)) | refine kCd ?_ | refine kCe ?_ | refine kCo (by decide) ?_ | refine kCs (by simp only [ne_eq]; omega) ?_ | refine kCa ?_ | refine kCb (by assumption) ?_ | refine kId ?_ | refine kIs ?_ | refine kIa ?_ | refine kIb (by assumption) ?_))⟩⟩
  case rest =>
    obtain ⟨b4, b5, s, z, k, c, rfl, rfl, rfl, hbx, hbel, ⟨f, hwn⟩, hle⟩ := hcut
    have OB2' := hid (OB1.out.below hbel); have HW2 := hid (HW1.out.trans (hbel.mono HW1.out.size)); have WN := hid hwn
    clear hbel hwn x0 x1 x2 za C1 C2 C3 OB1 HW1
    obtain ⟨zb, y0, y1⟩ := hbx
    obtain ⟨hz, z0, z1, zf⟩ := OB2'.out
    go_wp2
    exact bodyPost_ret (v := .tuple #[.agg #[.bool s, .slice z k c], .int .i64 0]) (by simp [results, Tryz.results21, go_sem, z0, z1]) rfl ⟨s, z, k, c, f, rfl, below_st2 HW2.out (by omega), hle, OB2'.out.wn WN.out⟩
end Go.Proofs.YtlpmfmphglgocaaGreatDoor
