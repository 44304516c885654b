/-
  Walks of package whole's calls Add, Sub, Mul. Walks of package whole: slices.Clone, Neg, Cmp, Of. The walk of package whole's call Divide. Walks of the document's reference for nat: Twin, From, To. Walks of the document's reference for nat: Cmp, Add, Sub on digits, and the calls DocAdd, DocSub, DocCmp. Walks of the document's reference for nat: Word, short. Walks of the document's reference for whole: Same, Twin, DocOf. Walks of package nat's reading: isNumber, readPiece. The walk of the document's reference for nat: Text. Walks of the document's reference for nat: Sub on digits, and the calls DocAdd, DocSub, DocCmp. Walks of the document's reference for nat: the calls DocAdd, DocSub, DocCmp. Walks of the document's reference for nat: Read, DocRead, DocText. Walks of package nat's reading: joinPieces, fromDigits, Read. Walks of package nat's reading: fromDigits, Read. Walks of nat's Text, and of the document's reference: DocText, DocRead. Walks of package whole's calls Text, Read. The walk of package whole's call Read. The walk of the statements' own look at answers of whole that the document fixes (awake). What the walks of whole's statements share: light, boxes and numbers carried along. Rational numbers in lowest terms: what numerators and denominators become by sums, products, quotients. Euclid's steps by the highest bits (Lehmer's way, Collins' condition), on plain numbers. No Go text is named here. Walks of package nat's greatest common divisor: findSteps. Walks of package nat's greatest common divisor: bitsFrom, highBits. Walks of package nat's greatest common divisor: highBits. The walk of package nat's steps.apply.
-/
import Derived.Test.YtllpllebmknmpaaZ1
import Derived.Lib.LazyBuf
import Derived.Deep.RegionHeld3
import Derived.Test.YtllpllebmknmpaaZ0
import Derived.Deep.CutRange
import Derived.BigRegion
import Derived.BigQuiet
namespace Go.Proofs.Ytllpllebmknmpaa
open Go.RowKit

def W2 (s : Bool) (f : Nat → Int) (n : Nat) (t : Bool) (h : Nat → Int) (m : Nat) : Prop := wfB s f n = true ∧ wfB t h m = true
theorem fm_of_wfB {s : Bool} {f : Nat → Int} {n : Nat} (h : wfB s f n = true) : Fm f n := ((wfB_iff s f n).1 h).1
theorem sgn_of_wfB {s : Bool} {f : Nat → Int} {n : Nat} (h : wfB s f n = true) : s = true → 0 < n := ((wfB_iff s f n).1 h).2
end Go.Proofs.Ytllpllebmknmpaa
namespace Go.Proofs.Ytllpllebmknmpaa
open Go.RowKit

def W1 (s : Bool) (f : Nat → Int) (n : Nat) : Prop := wfB s f n = true
theorem vf_pos {f : Nat → Int} {n : Nat} (h : Lm f n) (hf : Fm f n) (hn : 0 < n) : 0 < vf f n := by
  have h1 := vf_form_ge h hf hn; have h2 := pw_pos (n - 1); omega
theorem wrapU (x : Int) : IntKind.u64.wrap x = x % 18446744073709551616 := by simp [IntKind.wrap, IntKind.signed, IntKind.bits]
end Go.Proofs.Ytllpllebmknmpaa
namespace Go.Proofs.Ytllpllebmknmpaa
open Go.RowKit

theorem Turned.mono {lo hi hi' : Nat} {a b : World} (h : Turned lo hi a b) (hh : hi ≤ hi') : Turned lo hi' a b := ⟨h.os, h.tape, h.output, h.size, fun k hk hn => h.block k hk (by omega)⟩
theorem isSome_setCell (w : World) (p q : Addr) (v : Value) (h : (w.cell? q).isSome = true) : ((w.setCell p v).cell? q).isSome = true := by
  obtain ⟨u, hu⟩ := Option.isSome_iff_exists.1 h
  obtain ⟨u', hu'⟩ := cell?_setCell_some (p := p) (x := v) hu
  rw [hu']; rfl
theorem kCs {w : World} {p a : Addr} {u v : Value} (hb : p.block ≠ a.block) (h : w.cell? a = some u) : (w.setCell p v).cell? a = some u := (World.cell?_setCell_far w p a v hb).trans h
theorem kCd {w : World} {a : Addr} {v : Value} (h : w.cell? a = some v) : w.drew.cell? a = some v := h
theorem kIs {w : World} {p a : Addr} {v : Value} (h : (w.cell? a).isSome = true) : ((w.setCell p v).cell? a).isSome = true := isSome_setCell w p a v h
theorem kId {w : World} {a : Addr} (h : (w.cell? a).isSome = true) : (w.drew.cell? a).isSome = true := h
theorem kFs {w : World} {p a : Addr} {v : Value} (h : w.frozen? a = false) : (w.setCell p v).frozen? a = false := by rw [World.frozen?_setCell]; exact h
theorem kFd {w : World} {a : Addr} (h : w.frozen? a = false) : w.drew.frozen? a = false := h
end Go.Proofs.Ytllpllebmknmpaa
namespace Go.Proofs.Ytllpllebmknmpaa
open Go.RowKit

set_option maxRecDepth 100000 in
set_option maxHeartbeats 400000 in
/-- Twin: a list of its own. -/
theorem twin_c (ao : Option Addr) (n cap : Nat) (f : Nat → Int) (w : World) (hn : n ≤ 17592186044416) (hr : Rd .u64 w ao n f) (hnil : ao = none → n = 0 ∧ cap = 0) :
    Calls Try.prog 50 #[.slice ao n cap] w fun e w' => ∃ ao' cap', e = .returned (.slice ao' n cap') ∧ Below w.heap.size w w' ∧ Rd .u64 w' ao' n f ∧ Own .u64 63 w' w.heap.size (.slice ao' n cap') n f := by
  cases ao with
  | none =>
    obtain ⟨rfl, rfl⟩ := hnil rfl
    go_enter Try.func50, Try.ntmps50
    obtain ⟨i0, hi, hz0, hz1, hz2⟩ := info_parts Try.infoU64
    go_wp2_with (at_builtin; refine wpList_append_own_none rfl (.tmp 4) (.tmp 5) 64 rfl w.heap.size 63 i0 1 Try.underlying64 hi (.slice none 0 0) 0 [] rfl (World.ownsRow_nil _ _ _ _) rfl ?_)
    go_ret
    exact ⟨none, 0, rfl, Below.refl _ _, Rd.zero, own_nil _ _ _ _ _⟩
  | some ad =>
    clear hnil
    have HR := hid hr
    clear hr
    go_enter Try.func50, Try.ntmps50
    obtain ⟨i0, hi, hz0, hz1, hz2⟩ := info_parts Try.infoU64
    go_wp2_with (at_builtin; refine wpList_append_own w rfl (.tmp 4) (.tmp 5) 64 rfl w.heap.size 63 i0 (.int .u64 0) 1 8 Try.underlying64 hi hz0 hz1 hz2 rfl (by decide) (.slice none 0 0) 0 [] rfl (World.ownsRow_nil _ _ _ _) ad n cap (lst .u64 f n) rfl (by rw [lst_length, Nat.mul_one]) ?c1 (lst_one _ _ _) ?c2 ?c3 (Nat.le_refl _) ?_)
    case c1 =>
      intro j u hu
      obtain ⟨hj, rfl⟩ := lst_getE hu
      obtain ⟨b, o, e, hc⟩ := HR.out j hj
      cases e
      rw [addr_add]; exact hc
    case c2 => unfold maxLen; omega
    case c3 => omega
    intro v' w' hown hgr _
    have hown' : Own .u64 63 w' w.heap.size v' n f := hown
    have hbel : Below w.heap.size w w' := (Below.refl _ _).grown hgr (Nat.le_refl _) (fun k h => by simp [Value.ownBlock] at h)
    have hs := hown'.shape
    obtain ⟨ao', cap', hv, hcc, hnn, hml, hrd, hlt⟩ := hs
    rw [hv] at hown' ⊢
    clear hown hgr hv
    have HO := hid hown'
    clear hown'
    go_wp2
    go_ret
    exact ⟨ao', cap', rfl, hbel, hrd, HO.out⟩

/-- The two digits of a limb. -/
def two32 (x : Int) : Nat → Int := fun j => if j = 0 then x % 4294967296 else x / 4294967296
/-- The digits of limbs. -/
def dig (f : Nat → Int) : Nat → Int := fun j => if j % 2 = 0 then f (j / 2) % 4294967296 else f (j / 2) / 4294967296
theorem dig_cat (f : Nat → Int) (k : Nat) : ∀ j, j < 2 * k + 2 → cat (dig f) (2 * k) (two32 (f k)) j = dig f j := by
  intro j hj
  by_cases h : j < 2 * k
  · exact cat_in h
  · rw [cat_out (by omega)]
    by_cases h2 : j = 2 * k
    · subst h2
      have e1 : 2 * k - 2 * k = 0 := by omega
      have e2 : 2 * k / 2 = k := by omega
      have e3 : 2 * k % 2 = 0 := by omega
      simp [two32, dig]
    · obtain rfl : j = 2 * k + 1 := by omega
      have e1 : 2 * k + 1 - 2 * k = 1 := by omega
      have e2 : (2 * k + 1) / 2 = k := by omega
      have e3 : (2 * k + 1) % 2 = 1 := by omega
      simp [two32, dig, e1, e2, e3]
theorem pd_two (k : Nat) : pd (2 * k) = pw k := by
  induction k with
  | zero => rfl
  | succ k ih =>
    have e : 2 * (k + 1) = 2 * k + 1 + 1 := by omega
    rw [e, pd_succ, pd_succ, pw_succ, ih]; omega
theorem dig_lm {f : Nat → Int} {n : Nat} (h : Lm f n) : Dg (dig f) (2 * n) := by
  intro j hj
  have := h (j / 2) (by omega)
  unfold dig
  split <;> omega
theorem dig_val (f : Nat → Int) (n : Nat) : vd (dig f) (2 * n) = vf f n := by
  induction n with
  | zero => rfl
  | succ k ih =>
    have e : 2 * (k + 1) = 2 * k + 1 + 1 := by omega
    have e2 : (2 * k + 1) / 2 = k := by omega
    have e3 : (2 * k + 1) % 2 = 1 := by omega
    have e4 : 2 * k / 2 = k := by omega
    have e5 : 2 * k % 2 = 0 := by omega
    have a1 : dig f (2 * k) = f k % 4294967296 := by simp [dig]
    have a2 : dig f (2 * k + 1) = f k / 4294967296 := by simp [dig, e2, e3]
    rw [e, vd_succ, vd_succ, ih, vf_succ, pd_succ, pd_two, a1, a2]
    have e6 : f k = 4294967296 * (f k / 4294967296) + f k % 4294967296 := by omega
    have e7 : f k * pw k = (4294967296 * (f k / 4294967296) + f k % 4294967296) * pw k := by rw [← e6]
    rw [e7]
    grind

theorem rd_new2 (w : World) (e : TypeId) (x : Int) : Rd .u64 (w.alloc (.cells #[.int .u64 (x % 4294967296), .int .u64 (x / 4294967296)] e)) (some ⟨w.heap.size, 0, none⟩) 2 (two32 x) :=
  Rd.mk (fun j hj => by
    rw [Nat.zero_add, World.cell?_alloc_new]
    rcases (show j = 0 ∨ j = 1 by omega) with rfl | rfl <;> simp [two32])

set_option maxRecDepth 100000 in
set_option maxHeartbeats 1000000 in
/-- From: the digits of limbs. -/
theorem fromNew_c (ao : Option Addr) (n cap : Nat) (f : Nat → Int) (w : World) (hn : n ≤ 1048576) (hr : Rd .u64 w ao n f) (hf : Lm f n) :
    Calls Try.prog 60 #[.slice ao n cap] w fun e w' => ∃ ao' m cap', e = .returned (.slice ao' m cap') ∧ (∀ a, ao' = some a → w.heap.size ≤ a.block) ∧ m ≤ cap' ∧ cap' ≤ 9223372036854775807 ∧ Below w.heap.size w w' ∧ Rd .u64 w' ao' m (dig f) ∧ m ≤ 2 * n ∧ (ao' = none → m = 0) ∧ Dg (dig f) m ∧ Fm (dig f) m ∧ vd (dig f) m = vf f n := by
  have HR := hid hr
  have HF := hid hf
  clear hr hf
  obtain ⟨i0, hi, hz0, hz1, hz2⟩ := info_parts Try.infoU64
  go_enter Try.func60, Try.ntmps60
  go_wp2_with (at_make; refine wpList_make_own w rfl (.const (.int .i64 0)) (.tmp 8) 64 rfl w.heap.size 63 i0 (.int .u64 0) 1 Try.underlying64 hi hz0 hz1 .i64 .i64 (2 * (n : Int)) (2 * n) rfl rfl (by omega) (by rw [hz2]; omega) (by unfold maxLen; omega) (Nat.le_refl _) ?_; intro w1 hown1 hgr1)
  have hb1 : Below w.heap.size w w1 := (Below.refl _ _).grown hgr1 (Nat.le_refl _) (fun k h => by cases h)
  have ho1 : Own .u64 63 w1 w.heap.size (.slice (some ⟨w.heap.size, 0, none⟩) 0 (2 * n)) 0 (dig f) := hown1
  clear hown1 hgr1
  have HO1 := hid ho1
  clear ho1
  go_loopw [3, 12] (fun v t wr => ∃ k : Nat, k ≤ n ∧ t = .int .i64 k ∧ Below w.heap.size w wr ∧ Hid (Own .u64 63 wr w.heap.size v (2 * k) (dig f))) (fun _ t _ => n - (intOf t).toNat)
  case atStart => exact ⟨0, by omega, rfl, hb1, HO1.out⟩
  case round =>
    clear hb1 HO1
    obtain ⟨k, hk, rfl, hbel, HO⟩ := hrel
    by_cases hlt : k < n
    · have hr := HR.out
      obtain ⟨b, o, rfl⟩ := hr.at (by omega)
      obtain ⟨x, hx⟩ : ∃ x, f k = x := ⟨_, rfl⟩
      have hcell : wr.cell? ⟨b, o + k, none⟩ = some (.int .u64 x) := by rw [← hx]; exact (hr.below hbel (Nat.le_refl _)).cell hlt
      obtain ⟨x0, x1⟩ := HF.out k hlt
      rw [hx] at x0 x1
      have HX := hid hx
      clear hx hr
      go_wp2_with (at_builtin; refine wpList_append_own_list .u64 _ rfl (.tmp 16) (.tmp 21) 64 rfl w.heap.size 63 8 Try.underlying64 Try.infoU64 _ (2 * k) (dig f) rfl (Own.alloc HO.out _) wr.heap.size 0 2 2 (two32 x) rfl (rd_new2 wr _ x) ?c1 ?c2 ?c3 ?_)
      case c1 => unfold maxLen; omega
      case c2 => omega
      case c3 => have := hbel.size; simp; omega
      intro v' w' hown hgr
      have hown2 : Own .u64 63 w' w.heap.size v' (2 * (k + 1)) (dig f) := (show Own .u64 63 w' w.heap.size v' (2 * k + 2) _ from hown).congr (fun j hj => by rw [← HX.out]; exact dig_cat f k j hj)
      have hbel2 : Below w.heap.size w w' := (hbel.alloc hbel.size _).grown hgr (by have := hbel.size; simp; omega) (fun k h => (Own.ge HO.out k h))
      have HO2 := hid hown2
      clear hown hgr hown2 HO
      go_wp2
      go_roundw
      case rel => exact ⟨k + 1, by omega, by go_num, hbel2, HO2.out⟩
      case measure => simp [intOf]; omega
    · have hkn : k = n := by omega
      subst hkn
      obtain ⟨ao', cap', hv, hcc, hnn, hml, hrd, hlt2⟩ := HO.out.shape
      unfold maxLen at hml
      subst hv
      have HNew := hid (fun a ha => (hlt2 a ha).1)
      clear HO hlt2
      go_wp2_with fail
      refine (low_c ao' (2 * k) cap' (dig f) wr hcc hml hrd hnn).mono ?_
      rintro e w2 ⟨rfl, m, hm, hz, hfm, rfl⟩
      have HZ := hid hz
      have HFM := hid hfm
      clear hz hfm
      go_wp2
      go_ret
      refine ⟨ao', m, cap', rfl, HNew.out, by omega, hml, hbel, hrd.take hm, hm, fun h => ?_, (dig_lm HF.out).mono hm, HFM.out, ?_⟩
      · have := hnn h; omega
      · rw [trim_vald hm HZ.out]; exact dig_val f k

theorem from_c (ao : Option Addr) (n cap : Nat) (f : Nat → Int) (w : World) (hn : n ≤ 1048576) (hr : Rd .u64 w ao n f) (hf : Lm f n) :
    Calls Try.prog 60 #[.slice ao n cap] w fun e w' => ∃ ao' m cap', e = .returned (.slice ao' m cap') ∧ Below w.heap.size w w' ∧ Rd .u64 w' ao' m (dig f) ∧ m ≤ 2 * n ∧ (ao' = none → m = 0) ∧ Dg (dig f) m ∧ Fm (dig f) m ∧ vd (dig f) m = vf f n :=
  (fromNew_c ao n cap f w hn hr hf).mono (fun _ _ ⟨a, m, c, h1, _, _, _, h2⟩ => ⟨a, m, c, h1, h2⟩)

/-- The limbs of digits. -/
def lim (d : Nat → Int) (n : Nat) : Nat → Int := fun j => ext d n (2 * j) + 4294967296 * ext d n (2 * j + 1)
theorem ext_dg {d : Nat → Int} {n : Nat} (h : Dg d n) (j : Nat) : 0 ≤ ext d n j ∧ ext d n j < 4294967296 := by
  by_cases hj : j < n
  · rw [ext_in _ _ _ hj]; exact h j hj
  · rw [ext_out _ _ _ (by omega)]; omega
theorem lim_lm {d : Nat → Int} {n : Nat} (h : Dg d n) (k : Nat) : Lm (lim d n) k := fun j _ => by
  have a := ext_dg h (2 * j); have b := ext_dg h (2 * j + 1)
  unfold lim; omega
theorem lim_val (d : Nat → Int) (n k : Nat) : vf (lim d n) k = vd (ext d n) (2 * k) := by
  induction k with
  | zero => rfl
  | succ k ih =>
    have e : 2 * (k + 1) = 2 * k + 1 + 1 := by omega
    rw [e, vd_succ, vd_succ, ← ih, vf_succ, pd_succ, pd_two, lim]; grind
theorem vd_ext_list (h : Nat → Int) (m n : Nat) (hn : m ≤ n) : vd (ext h m) n = vd h m := by
  rw [vd_ext hn (fun j h1 _ => ext_out h m j h1)]
  exact vd_congr (fun j hj => ext_in h m j hj)
theorem lim_fm {d : Nat → Int} {n k : Nat} (h : Dg d n) (hf : Fm d n) (h1 : n ≤ 2 * k) (h2 : 2 * k ≤ n + 1) : Fm (lim d n) k := by
  by_cases h0 : n = 0
  · left; omega
  · right
    have hd : d (n - 1) ≠ 0 := by rcases hf with h | h; omega; exact h
    have a := ext_dg h (2 * (k - 1)); have b := ext_dg h (2 * (k - 1) + 1)
    unfold lim
    rcases (show n - 1 = 2 * (k - 1) ∨ n - 1 = 2 * (k - 1) + 1 by omega) with e | e
    · have := ext_in d n (2 * (k - 1)) (by omega)
      rw [← e] at this a ⊢
      omega
    · have := ext_in d n (2 * (k - 1) + 1) (by omega)
      rw [← e] at this b ⊢
      omega
theorem cat_one {f : Nat → Int} {k : Nat} {x : Int} (h : f k = x) : ∀ j, j < k + 1 → cat f k (fun _ => x) j = f j := by
  intro j hj
  by_cases h1 : j < k
  · exact cat_in h1
  · obtain rfl : j = k := by omega
    rw [cat_out (Nat.le_refl _), h]

set_option maxRecDepth 100000 in
set_option maxHeartbeats 1000000 in
/-- To: the limbs of digits. -/
theorem toOwn_c (ao : Option Addr) (n cap : Nat) (d : Nat → Int) (w : World) (hn : n ≤ 1048576) (hr : Rd .u64 w ao n d) (hd : Dg d n) (hfm : Fm d n) :
    Calls Try.prog 55 #[.slice ao n cap] w fun e w' => ∃ ao' m cap' f, e = .returned (.slice ao' m cap') ∧ Own .u64 63 w' w.heap.size (.slice ao' m cap') m f ∧ Below w.heap.size w w' ∧ Rd .u64 w' ao' m f ∧ m ≤ n ∧ Lm f m ∧ Fm f m ∧ vf f m = vd d n := by
  have HR := hid hr
  have HD := hid hd
  have HFM := hid hfm
  clear hr hd hfm
  go_enter Try.func55, Try.ntmps55
  go_wp2
  go_loopw [3, 4] (fun v t wr => ∃ k : Nat, 2 * k ≤ n + 1 ∧ t = .int .i64 (2 * k) ∧ Below w.heap.size w wr ∧ Hid (Own .u64 63 wr w.heap.size v k (lim d n))) (fun _ t _ => n + 2 - (intOf t).toNat)
  case atStart => exact ⟨0, by omega, rfl, Below.refl _ _, own_nil _ _ _ _ _⟩
  case round =>
    obtain ⟨k, hk, rfl, hbel, HO⟩ := hrel
    by_cases hlt : 2 * k < n
    · have hr := HR.out
      obtain ⟨b, o, rfl⟩ := hr.at (by omega)
      obtain ⟨x, hx⟩ : ∃ x, d (2 * k) = x := ⟨_, rfl⟩
      have hcell : wr.cell? ⟨b, o + 2 * k, none⟩ = some (.int .u64 x) := by rw [← hx]; exact (hr.below hbel (Nat.le_refl _)).cell hlt
      obtain ⟨x0, x1⟩ := HD.out (2 * k) hlt
      rw [hx] at x0 x1
      have HX := hid hx
      clear hx
      by_cases hlt2 : 2 * k + 1 < n
      · obtain ⟨y, hy⟩ : ∃ y, d (2 * k + 1) = y := ⟨_, rfl⟩
        have hcell2 : wr.cell? ⟨b, o + (2 * k + 1), none⟩ = some (.int .u64 y) := by rw [← hy]; exact (hr.below hbel (Nat.le_refl _)).cell hlt2
        obtain ⟨y0, y1⟩ := HD.out (2 * k + 1) hlt2
        rw [hy] at y0 y1
        have HY := hid hy
        clear hy hr
        have hl : lim d n k = x + y * 4294967296 := by unfold lim; rw [ext_in _ _ _ hlt, ext_in _ _ _ hlt2, HX.out, HY.out]; omega
        have HLm := hid hl
        clear hl
        go_wp2_with (at_builtin; refine wpList_append_own_list .u64 _ rfl (.tmp 29) (.tmp 31) 64 rfl w.heap.size 63 8 Try.underlying64 Try.infoU64 _ k (lim d n) rfl (Own.alloc HO.out _) wr.heap.size 0 1 1 (fun _ => x + y * 4294967296) rfl (rd_new1 wr _ _) ?c1 ?c2 ?c3 ?_)
        case c1 => unfold maxLen; omega
        case c2 => omega
        case c3 => have := hbel.size; simp; omega
        intro v' w' hown hgr
        have hown2 : Own .u64 63 w' w.heap.size v' (k + 1) (lim d n) := Own.congr hown (cat_one HLm.out)
        have hbel2 : Below w.heap.size w w' := (hbel.alloc hbel.size _).grown hgr (by have := hbel.size; simp; omega) (fun k h => (Own.ge HO.out k h))
        have HO2 := hid hown2
        clear hown hgr hown2 HO
        go_wp2
        go_roundw
        case rel => exact ⟨k + 1, by omega, by go_num, hbel2, HO2.out⟩
        case measure => simp [intOf]; omega
      · have hl : lim d n k = x := by unfold lim; rw [ext_in _ _ _ hlt, ext_out _ _ _ (by omega), HX.out]; omega
        have HLm := hid hl
        clear hl hr
        go_wp2_with (at_builtin; refine wpList_append_own_list .u64 _ rfl (.tmp 29) (.tmp 31) 64 rfl w.heap.size 63 8 Try.underlying64 Try.infoU64 _ k (lim d n) rfl (Own.alloc HO.out _) wr.heap.size 0 1 1 (fun _ => x) rfl (rd_new1 wr _ _) ?c1 ?c2 ?c3 ?_)
        case c1 => unfold maxLen; omega
        case c2 => omega
        case c3 => have := hbel.size; simp; omega
        intro v' w' hown hgr
        have hown2 : Own .u64 63 w' w.heap.size v' (k + 1) (lim d n) := Own.congr hown (cat_one HLm.out)
        have hbel2 : Below w.heap.size w w' := (hbel.alloc hbel.size _).grown hgr (by have := hbel.size; simp; omega) (fun k h => (Own.ge HO.out k h))
        have HO2 := hid hown2
        clear hown hgr hown2 HO
        go_wp2
        go_roundw
        case rel => exact ⟨k + 1, by omega, by go_num, hbel2, HO2.out⟩
        case measure => simp [intOf]; omega
    · obtain ⟨ao', cap', hv, hcc, hnn, hml, hrd, hlt2⟩ := HO.out.shape
      subst hv
      clear hlt2
      go_wp2
      go_ret
      exact ⟨ao', k, cap', _, rfl, HO.out, hbel, hrd, by omega, lim_lm HD.out k, lim_fm HD.out HFM.out (by omega) hk, by rw [lim_val, vd_ext_list _ _ _ (by omega)]⟩
end Go.Proofs.Ytllpllebmknmpaa
namespace Go.Proofs.Ytllpllebmknmpaa
open Go.RowKit

theorem dcmp_step {f g : Nat → Int} {n k : Nat} (hf : Dg f n) (hg : Dg g n) (hk : k < n) (he : ∀ j, k < j → j < n → f j = g j) (hl : f k < g k) : vd f n < vd g n := by
  obtain ⟨d, rfl⟩ := Nat.exists_eq_add_of_le (show k + 1 ≤ n by omega)
  have e : vd (sh f (k + 1)) d = vd (sh g (k + 1)) d := vd_congr (fun j hj => he _ (by omega) (by omega))
  have a := vd_lt (hf.mono (m := k) (by omega)); have b := vd_nonneg (hg.mono (m := k) (by omega))
  have hp : (f k + 1) * pd k ≤ g k * pd k := Int.mul_le_mul_of_nonneg_right (by omega) (Int.le_of_lt (pd_pos k))
  rw [Int.add_mul, Int.one_mul] at hp
  rw [vd_split f (k + 1) d, vd_split g (k + 1) d, e, vd_succ f k, vd_succ g k]
  omega
theorem vd_cat1 (D : Nat → Int) (k : Nat) (x : Int) : vd (cat D k (fun _ => x)) (k + 1) = vd D k + x * pd k := by
  rw [vd_succ, vd_congr (f := cat D k (fun _ => x)) (g := D) (fun j hj => cat_in hj), cat_out (Nat.le_refl _)]
theorem dg_cat1 {D : Nat → Int} {k : Nat} {x : Int} (h : Dg D k) (hx : 0 ≤ x ∧ x < 4294967296) : Dg (cat D k (fun _ => x)) (k + 1) := fun j hj => by
  by_cases h1 : j < k
  · rw [cat_in h1]; exact h j h1
  · rw [cat_out (by omega)]; exact hx
theorem dborrow_step {D F G : Nat → Int} {k : Nat} {cc x y v c' : Int} (HV : vd D k - cc * pd k = vd F k - vd G k) (hx : F k = x) (hy : G k = y) (hv : v = x - (cc + y) + 4294967296 * c') :
    vd (cat D k (fun _ => v)) (k + 1) - c' * pd (k + 1) = vd F (k + 1) - vd G (k + 1) := by
  rw [vd_cat1, vd_succ, vd_succ, pd_succ, hx, hy, hv]
  grind

set_option maxHeartbeats 800000 in
theorem rcmp_c (ao bo : Option Addr) (n m ca cb : Nat) (f g : Nat → Int) (w : World) (hm : n ≤ 140737488355328) (hm' : m ≤ 140737488355328)
    (hr : Rd .u64 w ao n f) (hs : Rd .u64 w bo m g) (hf : Dg f n) (hg : Dg g m) (ff : Fm f n) (fg : Fm g m) :
    Calls Try.prog 69 #[.slice ao n ca, .slice bo m cb] w fun e w' => (∃ q, w' = w.drewN q) ∧ ∃ c, e = .returned (.int .i64 c) ∧ Ord c (vd f n) (vd g m) := by
  have FF := hid ff
  have FG := hid fg
  have HF := hid hf
  have HG := hid hg
  clear ff fg hf hg
  rcases Nat.lt_trichotomy n m with hlt | heq | hlt
  · have h1 : ((n : Int) != m) = true := by simp; omega
    have h2 : decide ((n : Int) < m) = true := by simp; omega
    have h3 : vd f n < vd g m := by
      apply Int.lt_of_not_ge; intro h
      have := vd_len HG.out HF.out FG.out h; omega
    have H3 := hid h3
    clear h3
    go_enter Try.func69, Try.ntmps69
    go_wp2
    go_ret
    exact ⟨⟨0, rfl⟩, -1, rfl, .inl ⟨rfl, H3.out⟩⟩
  · subst heq
    have h1 : ((n : Int) != n) = false := by simp
    go_enter Try.func69, Try.ntmps69
    go_wp2
    go_loopw [5] (fun t wr => ∃ i : Nat, i ≤ n ∧ t = .int .i64 ((i : Int) - 1) ∧ Hid (∀ j, i ≤ j → j < n → f j = g j) ∧ ∃ q, wr = w.drewN q) (fun t _ => ((intOf t) + 1).toNat)
    case atStart => exact ⟨n, by omega, rfl, fun j h1 h2 => by omega, 0, rfl⟩
    case round =>
      obtain ⟨i, hin, rfl, HE, q, rfl⟩ := hrel
      by_cases hlt : 0 < i
      · obtain ⟨b, o, rfl⟩ := hr.at (by omega)
        obtain ⟨b', o', rfl⟩ := hs.at (by omega)
        obtain ⟨x, hx⟩ : ∃ x, f (i - 1) = x := ⟨_, rfl⟩
        obtain ⟨y, hy⟩ : ∃ y, g (i - 1) = y := ⟨_, rfl⟩
        have hca : w.cell? ⟨b, o + (i - 1), none⟩ = some (.int .u64 x) := by rw [← hx]; exact hr.cell (by omega)
        have hcb : w.cell? ⟨b', o' + (i - 1), none⟩ = some (.int .u64 y) := by rw [← hy]; exact hs.cell (by omega)
        have HX := hid hx
        have HY := hid hy
        clear hx hy hr hs
        rcases Int.lt_trichotomy x y with hl | hxy | hl
        · have hd : decide (x < y) = true := by simp [hl]
          go_wp2
          go_quiet (fail)
          go_wp2
          go_ret
          refine ⟨⟨_, by (repeat rw [World.drewN_drewN]) <;> rfl⟩, -1, rfl, .inl ⟨rfl, dcmp_step HF.out HG.out (k := i - 1) (by omega) (fun j h1 h2 => HE.out j (by omega) h2) (by rw [HX.out, HY.out]; exact hl)⟩⟩
        · subst hxy
          have hd : decide (x < x) = false := by simp
          go_wp2
          go_quiet (fail)
          go_wp2
          go_quiet (fail)
          go_wp2
          go_roundw
          case rel =>
            refine ⟨i - 1, by omega, by go_num, fun j h1 h2 => ?_, _, by (repeat rw [World.drewN_drewN]) <;> rfl⟩
            by_cases hj : j = i - 1
            · rw [hj]; exact HX.out.trans HY.out.symm
            · exact HE.out j (by omega) h2
          case measure => simp [intOf]; omega
        · have hd : decide (x < y) = false := by simp; omega
          have hd2 : decide (y < x) = true := by simp [hl]
          go_wp2
          go_quiet (fail)
          go_wp2
          go_quiet (fail)
          go_wp2
          go_ret
          refine ⟨⟨_, by (repeat rw [World.drewN_drewN]) <;> rfl⟩, 1, rfl, .inr (.inr ⟨rfl, dcmp_step HG.out HF.out (k := i - 1) (by omega) (fun j h1 h2 => (HE.out j (by omega) h2).symm) (by rw [HX.out, HY.out]; omega)⟩)⟩
      · have hi : i = 0 := by omega
        subst hi
        go_wp2
        go_ret
        exact ⟨⟨_, rfl⟩, 0, rfl, .inr (.inl ⟨rfl, vd_congr (fun j hj => HE.out j (by omega) hj)⟩)⟩
  · have h1 : ((n : Int) != m) = true := by simp; omega
    have h2 : decide ((n : Int) < m) = false := by simp; omega
    have h3 : vd g m < vd f n := by
      apply Int.lt_of_not_ge; intro h
      have := vd_len HF.out HG.out FF.out h; omega
    have H3 := hid h3
    clear h3
    go_enter Try.func69, Try.ntmps69
    go_wp2
    go_ret
    exact ⟨⟨0, rfl⟩, 1, rfl, .inr (.inr ⟨rfl, H3.out⟩)⟩

end Go.Proofs.Ytllpllebmknmpaa
namespace Go.Proofs.Ytllpllebmknmpaa
open Go.RowKit

set_option maxRecDepth 100000 in
set_option maxHeartbeats 400000 in
/-- Word: the digits of a number below 2^32. -/
theorem word_c (x : Int) (w : World) (x0 : 0 ≤ x) (x1 : x < 4294967296) :
    Calls Try.prog 57 #[.int .u64 x] w fun e w' => ∃ k, e = .returned (.slice (some ⟨w.heap.size, 0, none⟩) k 2) ∧ Below w.heap.size w w' ∧ k ≤ 1 ∧ Rd .u64 w' (some ⟨w.heap.size, 0, none⟩) k (fun _ => x) ∧ (k = 0 → x = 0) ∧ Fm (fun _ => x) k := by
  have hr := rd_new2 w 63 x
  have m1 : x % 4294967296 = x := by omega
  have m2 : x / 4294967296 = 0 := by omega
  rw [m1, m2] at hr
  have HR := hid hr
  clear hr
  go_enter Try.func57, Try.ntmps57
  go_wp2_with fail
  refine (low_c (some ⟨w.heap.size, 0, none⟩) 2 2 (two32 x) _ (by omega) (by omega) HR.out (fun h => by cases h)).mono ?_
  rintro e w1 ⟨rfl, k, hk, hz, hfm, rfl⟩
  have hk1 : k ≤ 1 := by
    rcases hfm with h | h
    · omega
    · apply Nat.le_of_not_lt; intro h2
      obtain rfl : k = 2 := by omega
      exact h (by simp [two32, m2])
  have hx0 : k = 0 → x = 0 := fun h => by
    have := hz 0 (by omega) (by omega)
    simp [two32, m1] at this
    exact this
  have hr1 : ∀ j, j < k → two32 x j = x := by
    intro j hj
    obtain rfl : j = 0 := by omega
    simp [two32, m1]
  have hf1 : Fm (fun _ => x) k := by
    rcases hfm with h | h
    · exact .inl h
    · by_cases h0 : k = 0
      · exact .inl h0
      · right; rw [hr1 _ (by omega)] at h; exact h
  have HR1 := hid hr1; have HX0 := hid hx0; have HF1 := hid hf1
  clear hz hfm hr1 hx0 hf1
  go_wp2
  go_ret
  exact ⟨k, rfl, (Below.refl _ _).alloc (Nat.le_refl _) _, hk1, (HR.out.take hk).congr HR1.out, HX0.out, HF1.out⟩

theorem vd_cons (f : Nat → Int) (m i : Nat) : vd (sh f m) (i + 1) = f m + 4294967296 * vd (sh f (m + 1)) i := by
  rw [Nat.add_comm i 1, vd_split (sh f m) 1 i, sh_sh]
  have e1 : vd (sh f m) 1 = f m := by simp [vd, pd, sh]
  have e2 : pd 1 = 4294967296 := by simp [pd]
  rw [e1, e2]; omega
end Go.Proofs.Ytllpllebmknmpaa
namespace Go.Proofs.Ytllpllebmknmpaa
open Go.RowKit

set_option maxHeartbeats 1000000 in
/-- Word: the digits of a limb. -/
theorem word2_c (x : Int) (w : World) (x0 : 0 ≤ x) (x1 : x < 18446744073709551616) :
    Calls Try.prog 57 #[.int .u64 x] w fun e w' => ∃ k cap, e = .returned (.slice (some ⟨w.heap.size, 0, none⟩) k cap) ∧ Below w.heap.size w w' ∧ k ≤ 2 ∧ Rd .u64 w' (some ⟨w.heap.size, 0, none⟩) k (two32 x) ∧ Dg (two32 x) k ∧ Fm (two32 x) k ∧ vd (two32 x) k = x := by
  have hr := rd_new2 w 63 x
  have HR := hid hr
  clear hr
  go_enter Try.func57, Try.ntmps57
  go_wp2_with fail
  refine (low_c (some ⟨w.heap.size, 0, none⟩) 2 2 (two32 x) _ (by omega) (by omega) HR.out (fun h => by cases h)).mono ?_
  rintro e w1 ⟨rfl, k, hk, hz, hfm, rfl⟩
  have hdg : Dg (two32 x) k := fun j hj => by
    unfold two32
    split <;> omega
  have hv2 : vd (two32 x) 2 = x := by simp [vd, pd, two32]; omega
  have hv : vd (two32 x) k = x := (vd_ext hk hz).symm.trans hv2
  have HD := hid hdg; have HF := hid hfm; have HV := hid hv; have HRk := hid (HR.out.take hk)
  clear hdg hfm hv hv2 hz
  go_wp2
  go_ret
  exact ⟨k, 2, rfl, below_alloc (Below.refl _ _) _, hk, HRk.out, HD.out, HF.out, HV.out⟩

/-- A whole number of the reference: sign and digits. -/
structure ZRes (C : Nat) (w w' : World) (s : Bool) (ao : Option Addr) (n : Nat) (d : Nat → Int) (z : Int) : Prop where
  bel : Below w.heap.size w w'
  rd : Rd .u64 w' ao n d
  dg : Dg d n
  fm : Fm d n
  le : n ≤ C
  sgn : s = true → 0 < n
  val : (if s then - vd d n else vd d n) = z
  nil : ao = none → n = 0
def ZOne (C : Nat) (w w' : World) (e : Ending) (z : Int) : Prop := ∃ s ao n cap d, e = .returned (.agg #[.bool s, .slice ao n cap]) ∧ ZRes C w w' s ao n d z

theorem Rd.turned {k w w' ao n f} {lo hi : Nat} (h : Rd k w ao n f) (ht : Turned lo hi w w') (hu : ∀ a, ao = some a → a.block < lo ∨ hi ≤ a.block) : Rd k w' ao n f := fun j hj => by
  obtain ⟨b, o, e, hc⟩ := h j hj
  exact ⟨b, o, e, (World.cell?_of_block (ht.block b (World.block_lt_of_cell? w _ hc) (hu _ e))).trans hc⟩
/-- One box laid ahead of a call, as it reads behind it. -/
theorem boxes1 {w w1 : World} {c0 c1 : Value} {t : TypeId} (hb : Below (w.alloc (.cells #[c0, c1] t)).heap.size (w.alloc (.cells #[c0, c1] t)) w1) :
    (w.heap.size < w1.heap.size ∧ w1.cell? ⟨w.heap.size, 0, none⟩ = some c0 ∧ w1.cell? ⟨w.heap.size, 1, none⟩ = some c1) ∧ (∀ o, w1.frozen? ⟨w.heap.size, o, none⟩ = false) ∧ Below w.heap.size w w1 := by
  obtain ⟨h1, h2⟩ := bcell hb
  have hz := hb.size
  simp at hz
  refine ⟨⟨by omega, (h1 _ _ (by simp)).trans (by simp [go_sem]), (h1 _ _ (by simp)).trans (by simp [go_sem])⟩, fun o => (h2 _ _ (by simp)).trans (by
    have e := heap_alloc_new w (.cells #[c0, c1] t)
    simp only [World.frozen?, e]; simp), ?_⟩
  exact (below_alloc (Below.refl w.heap.size w) _).trans (hb.mono (by simp))
set_option maxHeartbeats 1000000 in
theorem zInt_c (z : Int) (w : World) (h0 : -9223372036854775808 ≤ z) (h1 : z ≤ 9223372036854775807) :
    Calls Try.prog 56 #[.int .i64 z] w fun e w' => ZOne 2 w w' e z := by
  by_cases hneg : z < 0
  · have hW : IntKind.u64.wrap (-(z + 1)) = -(z + 1) := by simp only [wrapU]; omega
    go_enter Try.func56, Try.ntmps56
    go_wp2_with fail
    rw [show -(z + 1) + 1 = -z by omega]
    refine (word2_c (-z) _ (by omega) (by omega)).mono ?_
    rintro e w1 ⟨k, cap, rfl, hb, hk, hr, hd, hf, hv⟩
    obtain ⟨⟨hz, z0, z1⟩, zf, hw⟩ := boxes1 hb
    have HW := hid hw; have HR := hid hr; have HD := hid hd; have HF := hid hf; have HV := hid hv
    have hk0 : Hid (0 < k) := by
      show 0 < k
      apply Nat.pos_of_ne_zero; intro hk0; subst hk0; simp [vd] at hv; omega
    clear hb hw hr hd hf hv
    go_wp2
    refine bodyPost_ret (v := .agg #[.bool true, .slice (some ⟨(w.alloc (.cells #[.bool false, .slice none 0 0] 100)).heap.size, 0, none⟩) k cap]) (by simp [results, Try.results56, go_sem, z0, z1]) rfl ⟨true, _, k, cap, two32 (-z), rfl, ?_⟩
    have hT := ((Turned.refl w.heap.size (w.heap.size + 1) w1).set (x := ⟨w.heap.size, 0, none⟩) (by first | omega | (simp; done) | (simp; omega)) (by first | omega | (simp; done) | (simp; omega)) (.bool true)).set (x := ⟨w.heap.size, 1, none⟩) (by first | omega | (simp; done) | (simp; omega)) (by first | omega | (simp; done) | (simp; omega)) (.slice (some ⟨w.heap.size + 1, 0, none⟩) k cap)
    refine ⟨below_turned HW.out HW.out.size (by simpa using hT) (Nat.le_refl _), HR.out.turned (by simpa using hT) (fun a ha => by cases ha; simp), HD.out, HF.out, hk, fun _ => hk0.out, ?_, fun h => by cases h⟩
    rw [if_pos rfl, HV.out]; omega
  · go_enter Try.func56, Try.ntmps56
    go_wp2_with fail
    refine (word2_c z _ (by omega) (by omega)).mono ?_
    rintro e w1 ⟨k, cap, rfl, hb, hk, hr, hd, hf, hv⟩
    obtain ⟨⟨hz, z0, z1⟩, zf, hw⟩ := boxes1 hb
    have HW := hid hw; have HR := hid hr; have HD := hid hd; have HF := hid hf; have HV := hid hv
    clear hb hw hr hd hf hv
    go_wp2
    refine bodyPost_ret (v := .agg #[.bool false, .slice (some ⟨(w.alloc (.cells #[.bool false, .slice none 0 0] 100)).heap.size, 0, none⟩) k cap]) (by simp [results, Try.results56, go_sem, z0, z1]) rfl ⟨false, _, k, cap, two32 z, rfl, ?_⟩
    have hT := ((Turned.refl w.heap.size (w.heap.size + 1) w1).set (x := ⟨w.heap.size, 0, none⟩) (by first | omega | (simp; done) | (simp; omega)) (by first | omega | (simp; done) | (simp; omega)) (.bool false)).set (x := ⟨w.heap.size, 1, none⟩) (by first | omega | (simp; done) | (simp; omega)) (by first | omega | (simp; done) | (simp; omega)) (.slice (some ⟨w.heap.size + 1, 0, none⟩) k cap)
    refine ⟨below_turned HW.out HW.out.size (by simpa using hT) (Nat.le_refl _), HR.out.turned (by simpa using hT) (fun a ha => by cases ha; simp), HD.out, HF.out, hk, (fun h => by cases h), ?_, (fun h => by cases h)⟩
    exact HV.out

theorem kI0 {w : World} {a : Addr} {v : Value} (h : w.cell? a = some v) : (w.cell? a).isSome = true := by rw [h]; rfl
end Go.Proofs.Ytllpllebmknmpaa
namespace Go.Proofs.Ytllpllebmknmpaa
open Go.RowKit

/-- The number that the first n digits tell. -/
def dn (b : Nat → Nat) : Nat → Nat | 0 => 0 | n + 1 => dn b n * 10 + (b n - 48)
end Go.Proofs.Ytllpllebmknmpaa
namespace Go.Proofs.Ytllpllebmknmpaa
open Go.RowKit

end Go.Proofs.Ytllpllebmknmpaa
namespace Go.Proofs.Ytllpllebmknmpaa
open Go.RowKit

set_option maxRecDepth 100000 in
set_option maxHeartbeats 2000000 in
/-- Sub: the difference, on digits. -/
theorem rsubO_c (ao bo : Option Addr) (n m ca cb : Nat) (f h : Nat → Int) (w : World) (hn : n ≤ 1048576) (hm : m ≤ 1048576) (hmn : m ≤ n) (hr : Rd .u64 w ao n f) (hs : Rd .u64 w bo m h) (hf : Dg f n) (hh : Dg h m) (hle : vd h m ≤ vd f n) :
    Calls Try.prog 70 #[.slice ao n ca, .slice bo m cb] w fun e w' => ∃ ao' k cap' D, e = .returned (.slice ao' k cap') ∧ Below w.heap.size w w' ∧ Rd .u64 w' ao' k D ∧ k ≤ n ∧ Dg D k ∧ Fm D k ∧ (∀ a, ao' = some a → w.heap.size ≤ a.block) ∧ vd D k = vd f n - vd h m := by
  obtain ⟨i0, hi, hz0, hz1, hz2⟩ := info_parts Try.infoU64
  have RA := hid hr
  have RB := hid hs
  have DA := hid hf
  have DB := hid hh
  have HLe := hid hle
  clear hr hs hf hh hle
  go_enter Try.func70, Try.ntmps70
  go_wp2_with (at_make; refine wpList_make_own w rfl (.const (.int .i64 0)) (.tmp 11) 64 rfl w.heap.size 63 i0 (.int .u64 0) 1 Try.underlying64 hi hz0 hz1 .i64 .i64 n n rfl rfl (by omega) (by rw [hz2]; omega) (by unfold maxLen; omega) (Nat.le_refl _) ?_; intro w1 hown1 hgr1)
  have hb1 : Below w.heap.size w w1 := (Below.refl _ _).grown hgr1 (Nat.le_refl _) (fun k h => by cases h)
  have HO1 := hid (show Own .u64 63 w1 w.heap.size (.slice (some ⟨w.heap.size, 0, none⟩) 0 n) 0 (fun _ => 0) from hown1)
  clear hown1 hgr1
  go_loopw [5, 6, 15] (fun v c t wr => ∃ (k : Nat) (cc : Int) (D : Nat → Int), k ≤ n ∧ t = .int .i64 k ∧ c = .int .u64 cc ∧ 0 ≤ cc ∧ cc ≤ 1 ∧ Below w.heap.size w wr ∧ Hid (Own .u64 63 wr w.heap.size v k D) ∧ Hid (Dg D k) ∧ Hid (vd D k - cc * pd k = vd f k - vd (ext h m) k)) (fun _ _ t _ => n - (intOf t).toNat)
  case atStart => exact ⟨0, 0, fun _ => 0, by omega, rfl, rfl, by omega, by omega, hb1, HO1.out, fun j hj => by omega, by simp [Hid, vd, pd]⟩
  case round =>
    clear hb1 HO1
    obtain ⟨k, cc, D, hk, rfl, rfl, c0, c1, hbel, HO, HDg, HV⟩ := hrel
    by_cases hlt : k < n
    · have hrA := RA.out
      obtain ⟨b, o, rfl⟩ := hrA.at (by omega)
      obtain ⟨x, hx⟩ : ∃ x, f k = x := ⟨_, rfl⟩
      have hcell : wr.cell? ⟨b, o + k, none⟩ = some (.int .u64 x) := by rw [← hx]; exact (hrA.below hbel (Nat.le_refl _)).cell hlt
      obtain ⟨x0, x1⟩ := DA.out k hlt
      rw [hx] at x0 x1
      have HX := hid hx
      clear hx hrA
      by_cases hlt2 : k < m
      · have hrB := RB.out
        obtain ⟨b', o', rfl⟩ := hrB.at (by omega)
        obtain ⟨y, hy⟩ : ∃ y, h k = y := ⟨_, rfl⟩
        have hcelb : wr.cell? ⟨b', o' + k, none⟩ = some (.int .u64 y) := by rw [← hy]; exact (hrB.below hbel (Nat.le_refl _)).cell hlt2
        obtain ⟨y0, y1⟩ := DB.out k hlt2
        rw [hy] at y0 y1
        have HY := hid (show ext h m k = y from (ext_in _ _ _ hlt2).trans hy)
        clear hy hrB
        by_cases hxy : x < cc + y
        · go_wp2_with (at_builtin; refine wpList_append_own_list .u64 _ rfl (.tmp 36) (.tmp 40) 64 rfl w.heap.size 63 8 Try.underlying64 Try.infoU64 _ k D rfl (Own.alloc HO.out _) wr.heap.size 0 1 1 (fun _ => x + 4294967296 - (cc + y)) rfl (rd_new1 wr _ _) ?c1 ?c2 ?c3 ?_)
          case c1 => unfold maxLen; omega
          case c2 => omega
          case c3 => have := hbel.size; simp; omega
          intro v' w' hown hgr
          have hbel2 : Below w.heap.size w w' := (hbel.alloc hbel.size _).grown hgr (by have := hbel.size; simp; omega) (fun k h => (Own.ge HO.out k h))
          have HO2 := hid hown
          clear hown hgr HO
          go_wp2
          go_roundw
          case rel => exact ⟨k + 1, 1, _, by omega, by go_num, rfl, by omega, by omega, hbel2, HO2.out, dg_cat1 HDg.out (by omega), dborrow_step HV.out HX.out HY.out (by omega)⟩
          case measure => simp [intOf]; omega
        · go_wp2_with (at_builtin; refine wpList_append_own_list .u64 _ rfl (.tmp 36) (.tmp 40) 64 rfl w.heap.size 63 8 Try.underlying64 Try.infoU64 _ k D rfl (Own.alloc HO.out _) wr.heap.size 0 1 1 (fun _ => x - (cc + y)) rfl (rd_new1 wr _ _) ?c1 ?c2 ?c3 ?_)
          case c1 => unfold maxLen; omega
          case c2 => omega
          case c3 => have := hbel.size; simp; omega
          intro v' w' hown hgr
          have hbel2 : Below w.heap.size w w' := (hbel.alloc hbel.size _).grown hgr (by have := hbel.size; simp; omega) (fun k h => (Own.ge HO.out k h))
          have HO2 := hid hown
          clear hown hgr HO
          go_wp2
          go_roundw
          case rel => exact ⟨k + 1, 0, _, by omega, by go_num, rfl, by omega, by omega, hbel2, HO2.out, dg_cat1 HDg.out (by omega), dborrow_step HV.out HX.out HY.out (by omega)⟩
          case measure => simp [intOf]; omega
      · have HY := hid (show ext h m k = 0 from ext_out _ _ _ (by omega))
        by_cases hxy : x < cc
        · go_wp2_with (at_builtin; refine wpList_append_own_list .u64 _ rfl (.tmp 36) (.tmp 40) 64 rfl w.heap.size 63 8 Try.underlying64 Try.infoU64 _ k D rfl (Own.alloc HO.out _) wr.heap.size 0 1 1 (fun _ => x + 4294967296 - cc) rfl (rd_new1 wr _ _) ?c1 ?c2 ?c3 ?_)
          case c1 => unfold maxLen; omega
          case c2 => omega
          case c3 => have := hbel.size; simp; omega
          intro v' w' hown hgr
          have hbel2 : Below w.heap.size w w' := (hbel.alloc hbel.size _).grown hgr (by have := hbel.size; simp; omega) (fun k h => (Own.ge HO.out k h))
          have HO2 := hid hown
          clear hown hgr HO
          go_wp2
          go_roundw
          case rel => exact ⟨k + 1, 1, _, by omega, by go_num, rfl, by omega, by omega, hbel2, HO2.out, dg_cat1 HDg.out (by omega), dborrow_step HV.out HX.out HY.out (by omega)⟩
          case measure => simp [intOf]; omega
        · go_wp2_with (at_builtin; refine wpList_append_own_list .u64 _ rfl (.tmp 36) (.tmp 40) 64 rfl w.heap.size 63 8 Try.underlying64 Try.infoU64 _ k D rfl (Own.alloc HO.out _) wr.heap.size 0 1 1 (fun _ => x - cc) rfl (rd_new1 wr _ _) ?c1 ?c2 ?c3 ?_)
          case c1 => unfold maxLen; omega
          case c2 => omega
          case c3 => have := hbel.size; simp; omega
          intro v' w' hown hgr
          have hbel2 : Below w.heap.size w w' := (hbel.alloc hbel.size _).grown hgr (by have := hbel.size; simp; omega) (fun k h => (Own.ge HO.out k h))
          have HO2 := hid hown
          clear hown hgr HO
          go_wp2
          go_roundw
          case rel => exact ⟨k + 1, 0, _, by omega, by go_num, rfl, by omega, by omega, hbel2, HO2.out, dg_cat1 HDg.out (by omega), dborrow_step HV.out HX.out HY.out (by omega)⟩
          case measure => simp [intOf]; omega
    · have hkn : k = n := by omega
      subst hkn
      obtain ⟨ao', cap', hv, hcc, hnn, hml, hrd, hlt3⟩ := HO.out.shape
      unfold maxLen at hml
      subst hv
      have HLT := hid hlt3
      clear HO hlt3
      go_wp2_with fail
      refine (low_c ao' k cap' D wr hcc hml hrd hnn).mono ?_
      rintro e w2 ⟨rfl, m', hm1, hz, hfm, rfl⟩
      have HZ := hid hz
      have HFM := hid hfm
      clear hz hfm
      go_wp2
      go_ret
      refine ⟨ao', m', cap', _, rfl, hbel, hrd.take hm1, by omega, HDg.out.mono hm1, HFM.out, fun a ha => (HLT.out a ha).1, ?_⟩
      have hv := HV.out
      have h1 := vd_lt HDg.out
      have h2 := HLe.out
      rw [vd_ext_list _ _ _ hmn] at hv
      rw [trim_vald hm1 HZ.out]
      by_cases hc : cc = 0
      · subst hc; simpa using hv
      · obtain rfl : cc = 1 := by omega
        omega

end Go.Proofs.Ytllpllebmknmpaa
namespace Go.Proofs.Ytllpllebmknmpaa
open Go.RowKit

end Go.Proofs.Ytllpllebmknmpaa
namespace Go.Proofs.Ytllpllebmknmpaa
open Go.RowKit

/-- Block g: its first k numbers are D. -/
def PB (w : World) (g cap k : Nat) (D : Nat → Int) : Prop := ∃ arr : Array Value, w.heap[g]? = some (.cells arr 63 (0, 0)) ∧ arr.size = cap ∧ ∀ j, j < k → arr[j]? = some (.int .u64 (D j))
theorem PB.cell {w g cap k D} (h : PB w g cap k D) {j : Nat} (hj : j < k) : w.cell? ⟨g, j, none⟩ = some (.int .u64 (D j)) := by
  obtain ⟨arr, h1, h2, h3⟩ := h
  simp [World.cell?, h1, h3 j hj]
theorem PB.frozen {w g cap k D} (h : PB w g cap k D) (j : Nat) : w.frozen? ⟨g, j, none⟩ = false := by
  obtain ⟨arr, h1, h2, h3⟩ := h
  simp [World.frozen?, h1]
theorem PB.lt {w g cap k D} (h : PB w g cap k D) : g < w.heap.size := by
  obtain ⟨arr, h1, h2, h3⟩ := h
  exact (Array.getElem?_eq_some_iff.1 h1).1
theorem PB.set {w g cap k D} (h : PB w g cap k D) (i : Nat) (v : Int) : PB (w.setCell ⟨g, i, none⟩ (.int .u64 v)) g cap k (upd D i v) := by
  obtain ⟨arr, h1, h2, h3⟩ := h
  refine ⟨arr.setIfInBounds i (.int .u64 v), ?_, by simpa using h2, fun j hj => ?_⟩
  · simp [World.setCell, Array.getElem?_modify, h1]
  · have hlt : j < arr.size := (Array.getElem?_eq_some_iff.1 (h3 j hj)).1
    by_cases hji : j = i
    · subst hji; simp [upd, hlt]
    · rw [Array.getElem?_setIfInBounds, if_neg (by omega), h3 j hj]; simp [upd, hji]
theorem Own.pb {w base v k D} (h : Own .u64 63 w base v k D) : (v = .slice none 0 0 ∧ k = 0) ∨ ∃ g cap, v = .slice (some ⟨g, 0, none⟩) k cap ∧ base ≤ g ∧ k ≤ cap ∧ cap ≤ maxLen ∧ PB w g cap k D := by
  obtain ⟨h1, h2⟩ := h
  rcases h2 with ⟨rfl, rfl⟩ | ⟨g, cap, cur, rfl, hb, hg, hn, hm, hs, ht⟩
  · exact .inl ⟨rfl, rfl⟩
  · refine .inr ⟨g, cap, rfl, hb, hn, hm, cur, hg, by omega, fun j hj => ?_⟩
    have e1 : (lst .u64 D k)[j]? = cur.toList[j]? := by
      rw [← ht, List.getElem?_take, if_pos (by omega)]
    rw [lst_get .u64 D k j hj] at e1
    simpa using e1.symm
theorem PB.own {w g cap k D} (h : PB w g cap k D) {base : Nat} (hb : base ≤ g) (hk : k ≤ cap) (hm : cap ≤ maxLen) : Own .u64 63 w base (.slice (some ⟨g, 0, none⟩) k cap) k D := by
  obtain ⟨arr, h1, h2, h3⟩ := h
  refine ⟨by rw [lst_length]; omega, .inr ⟨g, cap, arr, rfl, hb, h1, hk, hm, by omega, ?_⟩⟩
  apply List.ext_getElem?
  intro j
  by_cases hj : j < k
  · rw [List.getElem?_take, if_pos (by omega), lst_get _ _ _ _ hj]; simpa using h3 j hj
  · rw [List.getElem?_eq_none (by simp; omega), List.getElem?_eq_none (by rw [lst_length]; omega)]

end Go.Proofs.Ytllpllebmknmpaa
namespace Go.Proofs.Ytllpllebmknmpaa
open Go.RowKit

end Go.Proofs.Ytllpllebmknmpaa
namespace Go.Proofs.Ytllpllebmknmpaa
open Go.RowKit

end Go.Proofs.Ytllpllebmknmpaa
namespace Go.Proofs.Ytllpllebmknmpaa
open Go.RowKit

end Go.Proofs.Ytllpllebmknmpaa
namespace Go.Proofs.Ytllpllebmknmpaa
open Go.RowKit

theorem Tg.kept {w w' : World} {ao : Option Addr} (h : Tg w ao) (hb : Below w.heap.size w w') : Tg w' ao := fun a ha => by
  obtain ⟨arr, fr, he⟩ := h a ha
  exact ⟨arr, fr, (hb.block _ (Array.getElem?_eq_some_iff.1 he).1).trans he⟩
end Go.Proofs.Ytllpllebmknmpaa
namespace Go.Proofs.Ytllpllebmknmpaa
open Go.RowKit

end Go.Proofs.Ytllpllebmknmpaa
namespace Go.Proofs.Ytllpllebmknmpaa
open Go.RowKit

theorem Own.tg {w base ao n cap f} (h : Own .u64 63 w base (.slice ao n cap) n f) : Tg w ao := fun a ha => by
  obtain ⟨h1, h2⟩ := h
  rcases h2 with ⟨hv, _⟩ | ⟨g, cap', cur, hv, hb, hg, hn, hm, hs, ht⟩
  · cases hv; cases ha
  · cases hv; cases ha; exact ⟨_, _, hg⟩
theorem kCb {w w' : World} {a : Addr} {v : Value} (hb : Below w.heap.size w w') (h : w.cell? a = some v) : w'.cell? a = some v := (hb.cell (World.block_lt_of_cell? w a h)).trans h
theorem kBa {w0 w : World} {o : Obj} (h : Below w0.heap.size w0 w) : Below w0.heap.size w0 (w.alloc o) := below_alloc h o
theorem kBb {w0 w w' : World} (hb : Below w.heap.size w w') (h : Below w0.heap.size w0 w) : Below w0.heap.size w0 w' := h.trans (hb.mono h.size)
end Go.Proofs.Ytllpllebmknmpaa
namespace Go.Proofs.Ytllpllebmknmpaa
open Go.RowKit

/-- A whole number in form that can be read. -/
structure Wn (w : World) (s : Bool) (x : Option Addr) (n c : Nat) (f : Nat → Int) (v : Int) : Prop where
  rd : Rd .u64 w x n f
  lm : Lm f n
  wf : wfB s f n = true
  cap : n ≤ c ∧ c ≤ 9223372036854775807
  nil : x = none → n = 0 ∧ c = 0
  val : wv s f n = v
theorem Wn.below {w w' : World} {s x n c f v} (h : Wn w s x n c f v) (hb : Below w.heap.size w w') : Wn w' s x n c f v := ⟨h.rd.below hb (Nat.le_refl _), h.lm, h.wf, h.cap, h.nil, h.val⟩
theorem Wn.alloc {w : World} {s x n c f v} (h : Wn w s x n c f v) (o : Obj) : Wn (w.alloc o) s x n c f v := ⟨h.rd.alloc o, h.lm, h.wf, h.cap, h.nil, h.val⟩
end Go.Proofs.Ytllpllebmknmpaa
namespace Go.Proofs.Ytllpllebmknmpaa
open Go.RowKit

/-- A whole number by its sign and its magnitude. -/
def sg (s : Bool) (A : Nat) : Int := if s then -(A : Int) else A
theorem sg_natAbs (s : Bool) (A : Nat) : (sg s A).natAbs = A := by cases s <;> simp [sg]
end Go.Proofs.Ytllpllebmknmpaa
namespace Go.Proofs.Ytllpllebmknmpaa
open Go.RowKit

/-- The two numbers that steps lead to. -/
def stU (odd : Bool) (a0 b0 A B : Int) : Int := if odd then b0 * B - a0 * A else a0 * A - b0 * B
def stV (odd : Bool) (a1 b1 A B : Int) : Int := if odd then a1 * A - b1 * B else b1 * B - a1 * A
/-- The same common divisors. -/
def Cd (u v A B : Int) : Prop := ∀ d : Int, (d ∣ u ∧ d ∣ v) ↔ (d ∣ A ∧ d ∣ B)
theorem Cd.refl (A B : Int) : Cd A B A B := fun _ => Iff.rfl
theorem Cd.step {u v A B : Int} (h : Cd u v A B) (q : Int) : Cd v (u - q * v) A B := fun d => by
  rw [← h d]
  constructor
  · rintro ⟨h1, h2⟩
    refine ⟨?_, h1⟩
    have := Int.dvd_add h2 (Int.dvd_mul_of_dvd_right (b := q) h1)
    rwa [Int.sub_add_cancel] at this
  · rintro ⟨h1, h2⟩
    exact ⟨h2, Int.dvd_sub h1 (Int.dvd_mul_of_dvd_right (b := q) h2)⟩
theorem Cd.trans {u v A B C D : Int} (h : Cd u v A B) (k : Cd A B C D) : Cd u v C D := fun d => (h d).trans (k d)
theorem Cd.swap {u v A B : Int} (h : Cd u v A B) : Cd v u A B := fun d => by rw [← h d]; exact And.comm

/-- What some steps lead to, for all numbers that begin with the bits x and y. -/
def Led (odd : Bool) (a0 b0 a1 b1 x y : Int) : Prop := ∀ T ra rb : Int, 0 ≤ ra → ra < T → 0 ≤ rb → rb < T →
  0 ≤ stV odd a1 b1 (x * T + ra) (y * T + rb) ∧ stV odd a1 b1 (x * T + ra) (y * T + rb) < stU odd a0 b0 (x * T + ra) (y * T + rb) ∧ stU odd a0 b0 (x * T + ra) (y * T + rb) ≤ y * T + rb ∧ Cd (stU odd a0 b0 (x * T + ra) (y * T + rb)) (stV odd a1 b1 (x * T + ra) (y * T + rb)) (x * T + ra) (y * T + rb)

/-- The state of the search. -/
structure Lh (odd : Bool) (a b a0 b0 a1 b1 x y : Int) : Prop where
  a_0 : 0 ≤ a
  b_0 : 0 ≤ b
  ua : a = stU odd a0 b0 x y
  ub : b = stV odd a1 b1 x y
  top : x = b1 * a + b0 * b
  p0 : 0 ≤ a0
  p1 : 0 ≤ b0
  p2 : 0 ≤ a1
  p3 : 1 ≤ b1
  st : (odd = false ∧ a0 = 1 ∧ b0 = 0 ∧ a1 = 0 ∧ b1 = 1) ∨ (a0 ≤ b0 ∧ a1 ≤ b1 ∧ 1 ≤ b0 ∧ b1 ≤ b ∧ b < a ∧ Led odd a0 b0 a1 b1 x y)

theorem lh_start {x y : Int} (hx : 0 ≤ x) (hy : 0 ≤ y) : Lh false x y 1 0 0 1 x y :=
  ⟨hx, hy, by simp [stU], by simp [stV], by omega, by omega, by omega, by omega, by omega, .inl ⟨rfl, rfl, rfl, rfl, rfl⟩⟩

theorem stU_next {odd : Bool} {a1 b1 A B : Int} : stU (!odd) a1 b1 A B = stV odd a1 b1 A B := by cases odd <;> simp [stU, stV]
theorem stV_next {odd : Bool} {a0 b0 a1 b1 q A B : Int} : stV (!odd) (a0 + q * a1) (b0 + q * b1) A B = stU odd a0 b0 A B - q * stV odd a1 b1 A B := by
  cases odd <;> simp only [stU, stV, Bool.not_false, Bool.not_true, if_true, if_false, Bool.false_eq_true] <;> grind

/-- A number is near its highest bits. -/
theorem stV_low {odd : Bool} {a1 b1 x y T ra rb : Int} (h0 : 0 ≤ a1) (h1 : a1 ≤ b1) (r0 : 0 ≤ ra) (r1 : ra < T) (s0 : 0 ≤ rb) (s1 : rb < T) :
    stV odd a1 b1 x y * T - b1 * (T - 1) ≤ stV odd a1 b1 (x * T + ra) (y * T + rb) ∧ stV odd a1 b1 (x * T + ra) (y * T + rb) ≤ stV odd a1 b1 x y * T + b1 * (T - 1) := by
  have m1 : 0 ≤ a1 * ra := Int.mul_nonneg h0 r0
  have m2 : 0 ≤ b1 * rb := Int.mul_nonneg (by omega) s0
  have m3 : a1 * ra ≤ b1 * ra := Int.mul_le_mul_of_nonneg_right h1 r0
  have m4 : b1 * ra ≤ b1 * (T - 1) := Int.mul_le_mul_of_nonneg_left (by omega) (by omega)
  have m5 : b1 * rb ≤ b1 * (T - 1) := Int.mul_le_mul_of_nonneg_left (by omega) (by omega)
  cases odd
  · have e : stV false a1 b1 (x * T + ra) (y * T + rb) = stV false a1 b1 x y * T + b1 * rb - a1 * ra := by simp only [stV, Bool.false_eq_true, if_false]; grind
    rw [e]; omega
  · have e : stV true a1 b1 (x * T + ra) (y * T + rb) = stV true a1 b1 x y * T + a1 * ra - b1 * rb := by simp only [stV, if_true]; grind
    rw [e]; omega

/-- One step, where Collins' condition holds. -/
theorem lh_step {odd : Bool} {a b a0 b0 a1 b1 x y : Int} (h : Lh odd a b a0 b0 a1 b1 x y) (hxy : y ≤ x) (hb : 0 < b) (c1 : b0 + a / b * b1 ≤ a - a / b * b) (c2 : b1 + (b0 + a / b * b1) ≤ b - (a - a / b * b)) :
    Lh (!odd) b (a - a / b * b) a1 b1 (a0 + a / b * a1) (b0 + a / b * b1) x y := by
  obtain ⟨q, hq⟩ : ∃ q, a / b = q := ⟨_, rfl⟩
  rw [hq] at c1 c2 ⊢
  have hq0 : 0 ≤ q := by rw [← hq]; exact Int.ediv_nonneg h.a_0 h.b_0
  have hr0 : 0 ≤ a - q * b := by
    have := Int.emod_nonneg a (show b ≠ 0 by omega); have e := Int.mul_ediv_add_emod a b
    rw [hq, Int.mul_comm] at e; omega
  have hb1 : 0 ≤ q * b1 := Int.mul_nonneg hq0 (by have := h.p3; omega)
  have ha1 : 0 ≤ q * a1 := Int.mul_nonneg hq0 h.p2
  have p0 := h.p0; have p1 := h.p1; have p2 := h.p2; have p3 := h.p3
  have hua := h.ua; have hub := h.ub; have htop := h.top
  -- the quotient is not 0 at the first step
  have hmono : a0 + q * a1 ≤ b0 + q * b1 ∧ a1 ≤ b1 := by
    rcases h.st with ⟨rfl, rfl, rfl, rfl, rfl⟩ | ⟨s1, s2, _, _, _, _⟩
    · have ea : a = x := by rw [hua]; simp [stU]
      have eb : b = y := by rw [hub]; simp [stV]
      have : 1 ≤ q := by rw [← hq]; exact (Int.le_ediv_iff_mul_le hb).2 (by omega)
      omega
    · have : q * a1 ≤ q * b1 := Int.mul_le_mul_of_nonneg_left s2 hq0
      omega
  have hb1' : 1 ≤ b0 + q * b1 := by
    rcases h.st with ⟨rfl, rfl, rfl, rfl, rfl⟩ | ⟨s1, s2, s3, _, _, _⟩
    · omega
    · omega
  refine ⟨h.b_0, hr0, ?_, ?_, ?_, p2, by omega, by omega, hb1', .inr ⟨hmono.2, hmono.1, p3, c1, by omega, ?_⟩⟩
  · rw [stU_next]; exact hub
  · rw [stV_next, ← hua, ← hub]
  · rw [htop]; grind
  · intro T ra rb r0 r1 s0 s1
    have hV : stV (!odd) (a0 + q * a1) (b0 + q * b1) x y = a - q * b := by rw [stV_next, ← hua, ← hub]
    have lo := stV_low (odd := !odd) (x := x) (y := y) (by omega) hmono.1 r0 r1 s0 s1
    have lo2 := stV_low (odd := odd) (x := x) (y := y) p2 hmono.2 r0 r1 s0 s1
    rw [hV] at lo
    rw [← hub] at lo2
    have hT : 1 ≤ T := by omega
    have k1 : (b0 + q * b1) * T ≤ (a - q * b) * T := Int.mul_le_mul_of_nonneg_right c1 (by omega)
    have k2 : (b1 + (b0 + q * b1)) * T ≤ (b - (a - q * b)) * T := Int.mul_le_mul_of_nonneg_right c2 (by omega)
    have x1 : (b0 + q * b1) * (T - 1) = (b0 + q * b1) * T - (b0 + q * b1) := by rw [Int.mul_sub, Int.mul_one]
    have x2 : b1 * (T - 1) = b1 * T - b1 := by rw [Int.mul_sub, Int.mul_one]
    have x3 : (b1 + (b0 + q * b1)) * T = b1 * T + (b0 + q * b1) * T := by rw [Int.add_mul]
    have x4 : (b - (a - q * b)) * T = b * T - (a - q * b) * T := by rw [Int.sub_mul]
    rw [stU_next]
    refine ⟨by omega, by omega, ?_, ?_⟩
    · rcases h.st with ⟨rfl, rfl, rfl, rfl, rfl⟩ | ⟨_, _, _, _, _, hl⟩
      · simp [stV]
      · obtain ⟨_, l2, l3, _⟩ := hl T ra rb r0 r1 s0 s1
        omega
    · rw [stV_next]
      refine Cd.step ?_ q
      rcases h.st with ⟨rfl, rfl, rfl, rfl, rfl⟩ | ⟨_, _, _, _, _, hl⟩
      · simp only [stU, stV, Bool.false_eq_true, if_false]
        have e1 : 1 * (x * T + ra) - 0 * (y * T + rb) = x * T + ra := by omega
        have e2 : 1 * (y * T + rb) - 0 * (x * T + ra) = y * T + rb := by omega
        rw [e1, e2]; exact Cd.refl _ _
      · exact (hl T ra rb r0 r1 s0 s1).2.2.2
/-- The new factors are at most x. -/
theorem lh_room {odd : Bool} {a b a0 b0 a1 b1 x y : Int} (h : Lh odd a b a0 b0 a1 b1 x y) (hxy : y ≤ x) (hb : 0 < b) : b0 + a / b * b1 ≤ x ∧ a0 + a / b * a1 ≤ x ∧ 0 ≤ a / b * a1 ∧ 0 ≤ a / b * b1 ∧ (0 < a - a / b * b → b1 + (b0 + a / b * b1) ≤ x) ∧ 1 ≤ b0 + a / b * b1 := by
  obtain ⟨q, hq⟩ : ∃ q, a / b = q := ⟨_, rfl⟩
  rw [hq]
  have hq0 : 0 ≤ q := by rw [← hq]; exact Int.ediv_nonneg h.a_0 h.b_0
  have hr0 : 0 ≤ a - q * b := by
    have := Int.emod_nonneg a (show b ≠ 0 by omega); have e := Int.mul_ediv_add_emod a b
    rw [hq, Int.mul_comm] at e; omega
  have p0 := h.p0; have p1 := h.p1; have p2 := h.p2; have p3 := h.p3
  have hb1 : 0 ≤ q * b1 := Int.mul_nonneg hq0 (by omega)
  have ha1 : 0 ≤ q * a1 := Int.mul_nonneg hq0 h.p2
  have e : x = (b0 + q * b1) * b + b1 * (a - q * b) := by rw [h.top]; grind
  have f1 : (b0 + q * b1) * 1 ≤ (b0 + q * b1) * b := Int.mul_le_mul_of_nonneg_left (by omega) (by omega)
  have f2 : 0 ≤ b1 * (a - q * b) := Int.mul_nonneg (by omega) hr0
  refine ⟨by omega, ?_, ha1, hb1, fun hp => ?_, ?_⟩
  · rcases h.st with ⟨rfl, rfl, rfl, rfl, rfl⟩ | ⟨s1, s2, _, _, _, _⟩
    · have eb : b = y := by rw [h.ub]; simp [stV]
      omega
    · have : q * a1 ≤ q * b1 := Int.mul_le_mul_of_nonneg_left s2 hq0
      omega
  · have f3 : b1 * 1 ≤ b1 * (a - q * b) := Int.mul_le_mul_of_nonneg_left (by omega) (by omega)
    omega
  · rcases h.st with ⟨rfl, rfl, rfl, rfl, rfl⟩ | ⟨s1, s2, s3, _, _, _⟩
    · have ea : a = x := by rw [h.ua]; simp [stU]
      have eb : b = y := by rw [h.ub]; simp [stV]
      have : 1 ≤ q := by rw [← hq]; exact (Int.le_ediv_iff_mul_le hb).2 (by omega)
      omega
    · omega
/-- Some steps: their factors have room, and what they lead to. -/
theorem lh_some {odd : Bool} {a b a0 b0 a1 b1 x y : Int} (h : Lh odd a b a0 b0 a1 b1 x y) (hb0 : b0 ≠ 0) : Led odd a0 b0 a1 b1 x y ∧ a0 + 2 ≤ x ∧ b0 + 2 ≤ x ∧ a1 + 2 ≤ x ∧ b1 + 2 ≤ x := by
  rcases h.st with ⟨_, _, h0, _⟩ | ⟨s1, s2, s3, s4, s5, hl⟩
  · exact absurd h0 hb0
  · have p3 := h.p3; have p1 := h.p1
    have e := h.top
    have m1 : b1 * 2 ≤ b1 * a := Int.mul_le_mul_of_nonneg_left (by omega) (by omega)
    have m2 : b0 * 1 ≤ b0 * b := Int.mul_le_mul_of_nonneg_left (by omega) (by omega)
    exact ⟨hl, by omega, by omega, by omega, by omega⟩
theorem lh_none {odd : Bool} {a b a0 b0 a1 b1 x y : Int} (h : Lh odd a b a0 b0 a1 b1 x y) : 0 ≤ a0 ∧ 0 ≤ b0 ∧ 0 ≤ a1 ∧ 0 ≤ b1 := ⟨h.p0, h.p1, h.p2, by have := h.p3; omega⟩
end Go.Proofs.Ytllpllebmknmpaa
namespace Go.Proofs.Ytllpllebmknmpaa
open Go.RowKit

/-- Block g holds the five fields of steps. -/
def SB (w : World) (g : Nat) (a0 b0 a1 b1 : Int) (odd : Bool) : Prop := w.heap[g]? = some (.cells #[.int .u64 a0, .int .u64 b0, .int .u64 a1, .int .u64 b1, .bool odd] 134 (0, 0))
theorem SB.cells {w g a0 b0 a1 b1 odd} (h : SB w g a0 b0 a1 b1 odd) : w.cell? ⟨g, 0, none⟩ = some (.int .u64 a0) ∧ w.cell? ⟨g, 1, none⟩ = some (.int .u64 b0) ∧ w.cell? ⟨g, 2, none⟩ = some (.int .u64 a1) ∧ w.cell? ⟨g, 3, none⟩ = some (.int .u64 b1) ∧ w.cell? ⟨g, 4, none⟩ = some (.bool odd) := by
  unfold SB at h
  simp [World.cell?, h]
theorem SB.frozen {w g a0 b0 a1 b1 odd} (h : SB w g a0 b0 a1 b1 odd) (j : Nat) : w.frozen? ⟨g, j, none⟩ = false := by
  unfold SB at h
  simp [World.frozen?, h]
theorem SB.lt {w g a0 b0 a1 b1 odd} (h : SB w g a0 b0 a1 b1 odd) : g < w.heap.size := (Array.getElem?_eq_some_iff.1 h).1
theorem SB.below {w w' g a0 b0 a1 b1 odd} (h : SB w g a0 b0 a1 b1 odd) (hb : Below w.heap.size w w') : SB w' g a0 b0 a1 b1 odd := (hb.block g h.lt).trans h

theorem SB.set5 {w g a0 b0 a1 b1 odd} (h : SB w g a0 b0 a1 b1 odd) (c0 d0 c1 d1 : Int) (o : Bool) : SB (((((w.setCell ⟨g, 0, none⟩ (.int .u64 c0)).setCell ⟨g, 1, none⟩ (.int .u64 d0)).setCell ⟨g, 2, none⟩ (.int .u64 c1)).setCell ⟨g, 3, none⟩ (.int .u64 d1)).setCell ⟨g, 4, none⟩ (.bool o)) g c0 d0 c1 d1 o := by
  unfold SB at h ⊢
  simp [World.setCell, Array.getElem?_modify, h]
theorem only_set5 (w : World) (g : Nat) (u0 u1 u2 u3 u4 : Value) : Only g w (((((w.setCell ⟨g, 0, none⟩ u0).setCell ⟨g, 1, none⟩ u1).setCell ⟨g, 2, none⟩ u2).setCell ⟨g, 3, none⟩ u3).setCell ⟨g, 4, none⟩ u4) :=
  (((((Only.refl _ _).setCell _ _ _).setCell _ _ _).setCell _ _ _).setCell _ _ _).setCell _ _ _
/-- What findSteps answers. -/
def FsAns (w w' : World) (e : Ending) (x y : Int) : Prop := Below w.heap.size w w' ∧ ∃ a0 b0 a1 b1 odd a b, e = .returned (.agg #[.int .u64 a0, .int .u64 b0, .int .u64 a1, .int .u64 b1, .bool odd]) ∧ Lh odd a b a0 b0 a1 b1 x y ∧ b0 ≤ x ∧ a0 ≤ x ∧ a1 ≤ x ∧ b1 ≤ x

set_option maxRecDepth 100000 in
set_option maxHeartbeats 4000000 in
theorem findSteps_c (x y : Int) (w : World) (y0 : 0 ≤ y) (hyx : y ≤ x) (x0 : 1 ≤ x) (x1 : x < 18446744073709551616) :
    Calls Try.prog 86 #[.int .u64 x, .int .u64 y] w fun e w' => FsAns w w' e x y := by
  go_enter Try.func86, Try.ntmps86
  go_wp2
  go_loopw [0, 1] (fun c d wr => ∃ (a b a0 b0 a1 b1 : Int) (odd : Bool), c = .int .u64 a ∧ d = .int .u64 b ∧ 0 ≤ a ∧ a ≤ x ∧ 0 ≤ b ∧ b ≤ x ∧ Below w.heap.size w wr ∧ Hid (SB wr w.heap.size 0 0 0 0 false) ∧ Hid (SB wr (w.heap.size + 1) a0 b0 a1 b1 odd) ∧ Hid (Lh odd a b a0 b0 a1 b1 x y) ∧ Hid (b0 ≤ x ∧ a0 ≤ x ∧ a1 ≤ x ∧ b1 ≤ x)) (fun _ d _ => (intOf d).toNat)
  case atStart =>
    refine ⟨x, y, 1, 0, 0, 1, false, rfl, rfl, by omega, by omega, by omega, by omega, ((Below.refl _ _).alloc (Nat.le_refl _) _).alloc (by simp) _, ?_, ?_, lh_start (by omega) y0, ?_⟩
    · exact Below.heap_alloc _ _ _ (by simp) |>.trans (heap_alloc_new w _)
    · show _ = _
      have := heap_alloc_new (w.alloc (.cells #[.int .u64 0, .int .u64 0, .int .u64 0, .int .u64 0, .bool false] 134)) (.cells #[.int .u64 1, .int .u64 0, .int .u64 0, .int .u64 1, .bool false] 134)
      simpa using this
    · show _ ∧ _ ∧ _ ∧ _
      omega
  case round =>
    obtain ⟨a, b, a0, b0, a1, b1, odd, rfl, rfl, ha0, hax, hb0, hbx, hbel, HG, HS, HL, HX⟩ := hrel
    obtain ⟨s0, s1, s2, s3, s4⟩ := HS.out.cells
    obtain ⟨r0, r1, r2, r3, r4⟩ := HG.out.cells
    have fz := HS.out.frozen
    have fr := HG.out.frozen
    have alS : ∀ o, SB (wr.alloc o) (w.heap.size + 1) a0 b0 a1 b1 odd := fun o => HS.out.below ((Below.refl _ _).alloc (Nat.le_refl _) o)
    have alG : ∀ o, SB (wr.alloc o) w.heap.size 0 0 0 0 false := fun o => HG.out.below ((Below.refl _ _).alloc (Nat.le_refl _) o)
    have sa0 := fun o => (alS o).cells.1
    have sa1 := fun o => (alS o).cells.2.1
    have sa2 := fun o => (alS o).cells.2.2.1
    have sa3 := fun o => (alS o).cells.2.2.2.1
    have sa4 := fun o => (alS o).cells.2.2.2.2
    have ga0 := fun o => (alG o).cells.1
    have ga1 := fun o => (alG o).cells.2.1
    have ga2 := fun o => (alG o).cells.2.2.1
    have ga3 := fun o => (alG o).cells.2.2.2.1
    have ga4 := fun o => (alG o).cells.2.2.2.2
    have fza := fun o => (alS o).frozen
    have fra := fun o => (alG o).frozen
    have ltS := HS.out.lt
    clear alS alG
    by_cases hbz : b = 0
    · subst hbz
      go_wp2
      obtain ⟨t0, t1, t2, t3, t4⟩ := (HG.out.set5 a0 b0 a1 b1 odd).cells
      refine bodyPost_ret (v := .agg #[.int .u64 a0, .int .u64 b0, .int .u64 a1, .int .u64 b1, .bool odd]) (by simp [results, Try.results86, go_sem, t0, t1, t2, t3, t4]) rfl ⟨?_, a0, b0, a1, b1, odd, _, _, rfl, HL.out, HX.out⟩
      exact below_only hbel (only_set5 _ _ _ _ _ _ _) (Nat.le_refl _) hbel.size
    · have hbp : 0 < b := by omega
      have hbb : (b != 0) = true := by simp [hbz]
      obtain ⟨m1, m2, m3, m4, m5, m6⟩ := lh_room HL.out hyx hbp
      have cstep := lh_step HL.out hyx hbp
      obtain ⟨q, hq⟩ : ∃ q, a / b = q := ⟨_, rfl⟩
      have hq0 : 0 ≤ q := by rw [← hq]; exact Int.ediv_nonneg ha0 hb0
      have hpr : 0 ≤ a - q * b ∧ a - q * b < b ∧ 0 ≤ q * b := by
        have e1 := Int.emod_nonneg a hbz; have e2 := Int.emod_lt_of_pos a hbp; have e := Int.mul_ediv_add_emod a b
        rw [hq, Int.mul_comm] at e
        exact ⟨by omega, by omega, Int.mul_nonneg hq0 hb0⟩
      rw [hq] at m1 m2 m3 m4 m5 m6 cstep
      obtain ⟨p, hp⟩ : ∃ p, q * b = p := ⟨_, rfl⟩
      obtain ⟨qa, hqa⟩ : ∃ p, q * a1 = p := ⟨_, rfl⟩
      obtain ⟨qb, hqb⟩ : ∃ p, q * b1 = p := ⟨_, rfl⟩
      rw [hp] at hpr m5 cstep
      rw [hqa] at m2 m3 cstep
      rw [hqb] at m1 m4 m5 m6 cstep
      obtain ⟨p1, p2, p3⟩ := hpr
      obtain ⟨l0, l1, l2, l3⟩ := (⟨HL.out.p0, HL.out.p1, HL.out.p2, HL.out.p3⟩ : 0 ≤ a0 ∧ 0 ≤ b0 ∧ 0 ≤ a1 ∧ 1 ≤ b1)
      obtain ⟨z1, z2, z3, z4⟩ := HX.out
      have CS := hid cstep
      have M5 := hid m5
      clear cstep m5
      by_cases c1 : a - p < b0 + qb
      · have c1b : decide (a - p < b0 + qb) = true := by simp [c1]
        go_wp2
        obtain ⟨t0, t1, t2, t3, t4⟩ := ((HG.out.below ((Below.refl _ _).alloc (Nat.le_refl _) (.cells #[.int .u64 a1, .int .u64 b1, .int .u64 (a0 + qa), .int .u64 (b0 + qb), .bool !odd] 134))).set5 a0 b0 a1 b1 odd).cells
        refine bodyPost_ret (v := .agg #[.int .u64 a0, .int .u64 b0, .int .u64 a1, .int .u64 b1, .bool odd]) (by simp [results, Try.results86, go_sem, t0, t1, t2, t3, t4]) rfl ⟨?_, a0, b0, a1, b1, odd, _, _, rfl, HL.out, HX.out⟩
        exact below_only (hbel.alloc hbel.size _) (only_set5 _ _ _ _ _ _ _) (Nat.le_refl _) (by have := hbel.size; simp; omega)
      · have c1b : decide (a - p < b0 + qb) = false := by simp; omega
        have hm5 := M5.out (by omega)
        by_cases c2 : b - (a - p) < b1 + (b0 + qb)
        · have c2b : decide (b - (a - p) < b1 + (b0 + qb)) = true := by simp [c2]
          go_wp2
          obtain ⟨t0, t1, t2, t3, t4⟩ := ((HG.out.below ((Below.refl _ _).alloc (Nat.le_refl _) (.cells #[.int .u64 a1, .int .u64 b1, .int .u64 (a0 + qa), .int .u64 (b0 + qb), .bool !odd] 134))).set5 a0 b0 a1 b1 odd).cells
          refine bodyPost_ret (v := .agg #[.int .u64 a0, .int .u64 b0, .int .u64 a1, .int .u64 b1, .bool odd]) (by simp [results, Try.results86, go_sem, t0, t1, t2, t3, t4]) rfl ⟨?_, a0, b0, a1, b1, odd, _, _, rfl, HL.out, HX.out⟩
          exact below_only (hbel.alloc hbel.size _) (only_set5 _ _ _ _ _ _ _) (Nat.le_refl _) (by have := hbel.size; simp; omega)
        · have c2b : decide (b - (a - p) < b1 + (b0 + qb)) = false := by simp; omega
          have NX := hid (CS.out (by omega) (by omega))
          go_wp2
          go_region
          all_goals
            go_wp2
            go_roundw
            case rel =>
              have o1 : Only (w.heap.size + 1) wr _ := only_set5 wr (w.heap.size + 1) (.int .u64 a1) (.int .u64 b1) (.int .u64 (a0 + qa)) (.int .u64 (b0 + qb)) (.bool !odd)
              have b1' := below_only hbel o1 (by omega) hbel.size
              refine ⟨b, a - p, a1, b1, a0 + qa, b0 + qb, !odd, rfl, rfl, by omega, by omega, by omega, by omega, (b1'.alloc b1'.size _).drew, ?_, ?_, NX.out, ?_⟩
              · exact (show SB _ _ _ _ _ _ _ from (o1.block _ HG.out.lt (by omega)).trans HG.out).below ((Below.refl _ _).alloc (Nat.le_refl _) _).drew
              · exact (HS.out.set5 a1 b1 (a0 + qa) (b0 + qb) (!odd)).below ((Below.refl _ _).alloc (Nat.le_refl _) _).drew
              · show _ ∧ _ ∧ _ ∧ _
                omega
            case measure => simp [intOf]; omega
end Go.Proofs.Ytllpllebmknmpaa
namespace Go.Proofs.Ytllpllebmknmpaa
open Go.RowKit

/-- The bits of two limbs, put together. -/
theorem bits_two (h l s : Int) (h0 : 0 ≤ h) (l0 : 0 ≤ l) (l1 : l < 18446744073709551616) (s0 : 0 ≤ s) (s1 : s ≤ 63) (hh : h < 2 ^ (64 - s).toNat) :
    ∃ H D Z, IntKind.u64.wrap (h * 2 ^ s.toNat) = H ∧ 0 ≤ H ∧ H < 18446744073709551616 ∧ l / 2 ^ (64 - s).toNat = D ∧ 0 ≤ D ∧ D < 18446744073709551616 ∧ bits BinOp.or .u64 H D = Z ∧ 0 ≤ Z ∧ Z < 18446744073709551616 ∧ Hid (h * 18446744073709551616 + l = Z * 2 ^ (64 - s).toNat + l % 2 ^ (64 - s).toNat) := by
  have hPQ : (2 : Int) ^ s.toNat * 2 ^ (64 - s).toNat = 18446744073709551616 := by rw [← Int.pow_add, show s.toNat + (64 - s).toNat = 64 by omega]; rfl
  have p0 : (0 : Int) < 2 ^ s.toNat := Int.pow_pos (by decide)
  have q0 : (0 : Int) < 2 ^ (64 - s).toNat := Int.pow_pos (by decide)
  obtain ⟨P, hP⟩ : ∃ P : Int, 2 ^ s.toNat = P := ⟨_, rfl⟩
  obtain ⟨Q, hQ⟩ : ∃ Q : Int, 2 ^ (64 - s).toNat = Q := ⟨_, rfl⟩
  have d1 : l / Q < P := Int.ediv_lt_of_lt_mul (by omega) (by rw [← hP, ← hQ, hPQ]; exact l1)
  have d0 : 0 ≤ l / Q := Int.ediv_nonneg l0 (by omega)
  have h1 : (h + 1) * P ≤ Q * P := Int.mul_le_mul_of_nonneg_right (by omega) (by omega)
  have hPQ' : Q * P = 18446744073709551616 := by rw [← hP, ← hQ, Int.mul_comm]; exact hPQ
  have hP0 : 0 ≤ h * P := Int.mul_nonneg h0 (by omega)
  rw [Int.add_mul, Int.one_mul, hPQ'] at h1
  have hPle : P ≤ 18446744073709551616 := by omega
  have hw : IntKind.u64.wrap (h * 2 ^ s.toNat) = h * P := by rw [hP, IntKind.wrap_u64]; omega
  refine ⟨_, _, h * P + l / Q, hw, hP0, by omega, rfl, by rw [hQ]; exact d0, by rw [hQ]; omega, ?_, ?_, ?_, ?_⟩
  · rw [hQ]
    exact bits_join .u64 64 (by decide) wraps_u64 s.toNat _ _ hP0 (by rw [hP]; exact Int.mul_emod_left _ _) (by omega) d0 (by rw [hP]; exact d1) (by omega)
  · omega
  · omega
  · show _ = _
    rw [hQ]
    have e := Int.mul_ediv_add_emod l Q
    rw [Int.add_mul, Int.mul_assoc, Int.mul_comm P Q, hPQ', Int.mul_comm (l / Q) Q]
    omega

set_option maxRecDepth 100000 in
set_option maxHeartbeats 1000000 in
theorem bitsFrom_c (ao : Option Addr) (n cap k : Nat) (z : Int) (f : Nat → Int) (s : Int) (w : World) (hn : n ≤ 140737488355328) (hk : k + 1 ≤ 140737488355328) (hz : z = (k : Int) + 1) (hr : Rd .u64 w ao n f) (hf : Lm f n) (s0 : 0 ≤ s) (s1 : s ≤ 63) (hh : ext f n (k + 1) < 2 ^ (64 - s).toNat) :
    ∃ Z, 0 ≤ Z ∧ Z < 18446744073709551616 ∧ ext f n (k + 1) * 18446744073709551616 + ext f n k = Z * 2 ^ (64 - s).toNat + ext f n k % 2 ^ (64 - s).toNat ∧ Calls Try.prog 92 #[.slice ao n cap, .int .i64 z, .int .i64 s] w fun e w' => e = .returned (.int .u64 Z) ∧ ∃ q, w' = w.drewN q := by
  have lm : ∀ j, 0 ≤ ext f n j ∧ ext f n j < 18446744073709551616 := fun j => by
    by_cases hj : j < n
    · rw [ext_in _ _ _ hj]; exact hf j hj
    · rw [ext_out _ _ _ (by omega)]; omega
  have C1 := hid (fun W (h : Rd .u64 W ao n f) => limbAt_c ao n cap f (k + 1) W hn hk h)
  have C2 := hid (fun W (h : Rd .u64 W ao n f) => limbAt_c ao n cap f k W hn (by omega) h)
  obtain ⟨x, hx⟩ : ∃ x, ext f n (k + 1) = x := ⟨_, rfl⟩
  obtain ⟨y, hy⟩ : ∃ y, ext f n k = y := ⟨_, rfl⟩
  have lx := lm (k + 1); have ly := lm k
  rw [hx] at lx hh C1 ⊢
  rw [hy] at ly C2 ⊢
  obtain ⟨H, D, Z, e1, H0, H1, e2, D0, D1, e3, Z0, Z1, HZ⟩ := bits_two x y s lx.1 ly.1 ly.2 s0 s1 hh
  refine ⟨Z, Z0, Z1, HZ.out, ?_⟩
  have HR := hid hr
  obtain ⟨x0, x1⟩ := lx
  obtain ⟨y0, y1⟩ := ly
  have z0 : 1 ≤ z := by omega
  have z1 : z ≤ 140737488355328 := by omega
  have C3 := C2
  rw [show ((k + 1 : Nat) : Int) = z by omega] at C1
  rw [show ((k : Nat) : Int) = z - 1 by omega] at C3
  have C4 := C3
  rw [show z - 1 = IntKind.i64.wrap (z - 1) by rw [IntKind.wrap_i64]; omega] at C4
  have D1 := hid (fun q => (C1.out (w.drewN q) (show Rd .u64 (w.drewN q) ao n f from hr)).mono (R' := fun e w'' => e = .returned (.int .u64 x) ∧ ∃ n, w'' = w.drewN n) (fun _ _ h => ⟨h.1, _, h.2⟩))
  have D3 := hid (fun q => (C3.out (w.drewN q) (show Rd .u64 (w.drewN q) ao n f from hr)).mono (R' := fun e w'' => e = .returned (.int .u64 y) ∧ ∃ n, w'' = w.drewN n) (fun _ _ h => ⟨h.1, _, h.2⟩))
  have D4 := hid (fun q => (C4.out (w.drewN q) (show Rd .u64 (w.drewN q) ao n f from hr)).mono (R' := fun e w'' => e = .returned (.int .u64 y) ∧ ∃ n, w'' = w.drewN n) (fun _ _ h => ⟨h.1, _, h.2⟩))
  clear hr hf lm hx hy hh hz C2 hk C1 C3 C4
  go_enter Try.func92, Try.ntmps92
  go_wp2
  go_quiet (first | (go_at_call 98; with_reducible exact D1.out _) | (go_at_call 98; with_reducible exact D3.out _) | (go_at_call 98; with_reducible exact D4.out _))
  go_wp2
  go_ret
  exact ⟨rfl, _, rfl⟩
end Go.Proofs.Ytllpllebmknmpaa
namespace Go.Proofs.Ytllpllebmknmpaa
open Go.RowKit

theorem hb_num {g : Nat → Int} {k : Nat} {Z Q : Int} (hl : Lm g (k + 2)) (q0 : 0 < Q) (he : g (k + 1) * 18446744073709551616 + g k = Z * Q + g k % Q) :
    vf g (k + 2) = Z * (Q * pw k) + (g k % Q * pw k + vf g k) ∧ 0 ≤ g k % Q * pw k + vf g k ∧ g k % Q * pw k + vf g k < Q * pw k := by
  have r0 := Int.emod_nonneg (g k) (show Q ≠ 0 by omega)
  have r1 := Int.emod_lt_of_pos (g k) q0
  have v0 := vf_nonneg (hl.mono (m := k) (by omega))
  have v1 := vf_lt (hl.mono (m := k) (by omega))
  have p0 := pw_pos k
  have m0 : 0 ≤ g k % Q * pw k := Int.mul_nonneg r0 (by omega)
  have m1 : (g k % Q + 1) * pw k ≤ Q * pw k := Int.mul_le_mul_of_nonneg_right (by omega) (by omega)
  rw [Int.add_mul, Int.one_mul] at m1
  refine ⟨?_, by omega, by omega⟩
  rw [top2, he]; grind
theorem top_le {f g : Nat → Int} {k : Nat} (hf : Lm f (k + 1)) (hg : Lm g (k + 1)) (h : vf g (k + 1) ≤ vf f (k + 1)) : g k ≤ f k := by
  apply Int.le_of_lt_add_one
  have a1 := vf_lt (hf.mono (m := k) (by omega)); have a2 := vf_nonneg (hg.mono (m := k) (by omega))
  rw [vf_succ, vf_succ] at h
  have : g k * pw k < (f k + 1) * pw k := by rw [Int.add_mul, Int.one_mul]; omega
  exact Int.lt_of_mul_lt_mul_right this (Int.le_of_lt (pw_pos k))

/-- The highest bits of two numbers, at the same places. -/
def Top2 (A B x y : Int) : Prop := 9223372036854775808 ≤ x ∧ x < 18446744073709551616 ∧ 0 ≤ y ∧ y ≤ x ∧ ∃ T ra rb, A = x * T + ra ∧ B = y * T + rb ∧ 0 ≤ ra ∧ ra < T ∧ 0 ≤ rb ∧ rb < T

set_option maxRecDepth 100000 in
set_option maxHeartbeats 2000000 in
theorem highBits_c (ao bo : Option Addr) (n m ca cb : Nat) (f h : Nat → Int) (w : World) (hn : n ≤ 8796093022208) (hn2 : 2 ≤ n) (hmn : m ≤ n) (hr : Rd .u64 w ao n f) (hs : Rd .u64 w bo m h) (hf : Lm f n) (hh : Lm h m) (ff : Fm f n) (hle : vf h m ≤ vf f n) :
    ∃ x y, Top2 (vf f n) (vf h m) x y ∧ Calls Try.prog 87 #[.slice ao n ca, .slice bo m cb] w fun e w' => e = .returned (.tuple #[.int .u64 x, .int .u64 y]) ∧ ∃ q, w' = w.drewN q := by
  obtain ⟨k, rfl⟩ : ∃ k, n = k + 2 := ⟨n - 2, by omega⟩
  obtain ⟨b, ob, rfl⟩ := hr.at (by omega)
  obtain ⟨y, hy⟩ : ∃ y, f (k + 1) = y := ⟨_, rfl⟩
  have hcell : w.cell? ⟨b, ob + (k + 1), none⟩ = some (.int .u64 y) := by rw [← hy]; exact hr.cell (by omega)
  have hy01 := hf (k + 1) (by omega)
  have hyne : y ≠ 0 := by rw [← hy]; rcases ff with h | h; omega; simpa using h
  rw [hy] at hy01
  obtain ⟨y, rfl⟩ := Int.eq_ofNat_of_zero_le hy01.1
  obtain ⟨s, s0, s1, hse, hP1, hP2⟩ := lead_nums y (by omega) (by omega)
  have cl := Try.bits_LeadingZeros64 (y : Int) w (by omega) (by omega)
  rw [Int.toNat_natCast, hse] at cl
  have hPQ : (2 : Int) ^ s.toNat * 2 ^ (64 - s).toNat = 18446744073709551616 := by rw [← Int.pow_add, show s.toNat + (64 - s).toNat = 64 by omega]; rfl
  obtain ⟨P, hP⟩ : ∃ P : Int, 2 ^ s.toNat = P := ⟨_, rfl⟩
  obtain ⟨Q, hQ⟩ : ∃ Q : Int, 2 ^ (64 - s).toNat = Q := ⟨_, rfl⟩
  have p0 : 0 < P := by rw [← hP]; exact Int.pow_pos (by decide)
  have q0 : 0 < Q := by rw [← hQ]; exact Int.pow_pos (by decide)
  rw [hP] at hP1 hP2 hPQ
  rw [hQ] at hPQ
  have hyQ : (y : Int) < Q := by
    have : ((y : Int) + 1) * P ≤ Q * P := by rw [Int.mul_comm Q P, hPQ]; exact hP2
    have := Int.le_of_mul_le_mul_right this p0
    omega
  have lmx : Lm (ext h m) (k + 2) := fun j hj => by
    by_cases hjm : j < m
    · rw [ext_in _ _ _ hjm]; exact hh j hjm
    · rw [ext_out _ _ _ (by omega)]; omega
  have hvh : vf (ext h m) (k + 2) = vf h m := vf_ext_list _ _ _ hmn
  have htop := top_le hf lmx (by rw [hvh]; exact hle)
  rw [hy] at htop
  have e1 : ext f (k + 2) (k + 1) = f (k + 1) := ext_in _ _ _ (by omega)
  have e0 : ext f (k + 2) k = f k := ext_in _ _ _ (by omega)
  obtain ⟨z, hz⟩ : ∃ z, (k : Int) + 2 - 1 = z := ⟨_, rfl⟩
  have hzn : z.toNat = k + 1 := by omega
  have hz0 : 0 ≤ z := by omega
  have hz1 : z < (k : Int) + 2 := by omega
  obtain ⟨X, X0, X1, hX, cX⟩ := bitsFrom_c (some ⟨b, ob, none⟩) (k + 2) ca k z f s w (by omega) (by omega) (by omega) hr hf s0 s1 (by rw [e1, hy, hQ]; exact hyQ)
  have cY0 := fun q => bitsFrom_c bo m cb k z h s (w.drewN q) (by omega) (by omega) (by omega) (show Rd .u64 (w.drewN q) bo m h from hs) hh s0 s1 (by rw [hQ]; omega)
  rw [e1, e0, hQ] at hX
  obtain ⟨Y, Y0, Y1, hY, _⟩ := cY0 0
  rw [hQ] at hY
  have cY : ∀ q, Calls Try.prog 92 #[.slice bo m cb, .int .i64 z, .int .i64 s] (w.drewN q) fun e w' => e = .returned (.int .u64 Y) ∧ ∃ n, w' = (w.drewN q).drewN n := fun q => by
    obtain ⟨Y', a1, a2, a3, a4⟩ := cY0 q
    rw [hQ] at a3
    have : Y' = Y := by
      have e : Y' * Q = Y * Q := by omega
      exact Int.eq_of_mul_eq_mul_right (by omega) e
    rw [this] at a4
    exact a4
  obtain ⟨A1, A2, A3⟩ := hb_num hf q0 hX
  obtain ⟨B1, B2, B3⟩ := hb_num lmx q0 hY
  rw [hvh] at B1
  have hXlow : 9223372036854775808 ≤ X := by
    have m1 : 9223372036854775808 * Q ≤ (y : Int) * P * Q := Int.mul_le_mul_of_nonneg_right hP1 (by omega)
    rw [Int.mul_assoc, hPQ] at m1
    have r1 := Int.emod_lt_of_pos (f k) q0
    have fk := hf k (by omega)
    have : 9223372036854775808 * Q < (X + 1) * Q := by rw [Int.add_mul, Int.one_mul, hy] at *; omega
    have := Int.lt_of_mul_lt_mul_right this (by omega)
    omega
  have hYX : Y ≤ X := by
    have hT : 0 < Q * pw k := Int.mul_pos q0 (pw_pos k)
    have : Y * (Q * pw k) < (X + 1) * (Q * pw k) := by rw [Int.add_mul, Int.one_mul]; omega
    have := Int.lt_of_mul_lt_mul_right this (by omega)
    omega
  refine ⟨X, Y, ⟨hXlow, X1, Y0, hYX, Q * pw k, _, _, A1, B1, A2, A3, B2, B3⟩, ?_⟩
  have CL := hid cl; have CX := hid cX; have CY := hid cY
  clear cl cX cY cY0 hf hh hr hs ff hle hP1 hP2 hPQ hX hY A1 A2 A3 B1 B2 B3 hvh htop lmx e1 e0 hy hse hP hQ
  go_enter Try.func87, Try.ntmps87
  go_wp2_with fail
  refine CL.out.mono ?_
  rintro e w' ⟨rfl, rfl⟩
  go_wp2_with fail
  refine CX.out.mono ?_
  rintro e w' ⟨rfl, q1, rfl⟩
  go_wp2_with fail
  refine (CY.out _).mono ?_
  rintro e w' ⟨rfl, q2, rfl⟩
  go_wp2
  go_ret2
  exact ⟨rfl, _, by (repeat rw [World.drewN_drewN]) <;> rfl⟩
end Go.Proofs.Ytllpllebmknmpaa
namespace Go.Proofs.Ytllpllebmknmpaa
open Go.RowKit

/-- One limb of both numbers. -/
theorem app_step {p' p q : Nat → Int} {i : Nat} {ca cb c d x y h1 l1 h2 l2 bo v : Int} (hv : vf p' i + (ca - cb) * pw i = c * vf p i - d * vf q i) (hx : p i = x) (hy : q i = y) (e1 : x * c + ca = h1 * 18446744073709551616 + l1) (e2 : y * d + cb = h2 * 18446744073709551616 + l2) (ev : v = l1 - l2 + bo * 18446744073709551616) :
    vf (upd p' i v) (i + 1) + (h1 - (h2 + bo)) * pw (i + 1) = c * vf p (i + 1) - d * vf q (i + 1) := by
  have e : vf (upd p' i v) i = vf p' i := vf_congr (fun j hj => upd_other _ _ _ _ (by omega))
  rw [vf_succ, vf_succ, vf_succ, e, upd_same, pw_succ, hx, hy, ev]
  grind
/-- A number below pw m, told by what it is but for multiples of pw m. -/
theorem mod_one {u v p t s : Int} (h : u + t * p = v + s * p) (u0 : 0 ≤ u) (u1 : u < p) (v0 : 0 ≤ v) (v1 : v < p) : u = v := by
  have e : u - v = (s - t) * p := by rw [Int.sub_mul]; omega
  have hz : s - t = 0 := by
    rcases Int.lt_trichotomy (s - t) 0 with h | h | h
    · have : (s - t) * p ≤ (-1) * p := Int.mul_le_mul_of_nonneg_right (by omega) (by omega)
      omega
    · exact h
    · have : 1 * p ≤ (s - t) * p := Int.mul_le_mul_of_nonneg_right (by omega) (by omega)
      omega
  rw [hz] at e; omega

/-- Nothing but blocks g and h has turned; there may be new ones. -/
structure Only2 (g h : Nat) (w w' : World) : Prop where
  os : w'.os = w.os
  tape : w'.tape = w.tape
  output : w'.output = w.output
  size : w.heap.size ≤ w'.heap.size
  block : ∀ k, k < w.heap.size → k ≠ g → k ≠ h → w'.heap[k]? = w.heap[k]?
theorem Only2.refl (g h : Nat) (w : World) : Only2 g h w w := ⟨rfl, rfl, rfl, Nat.le_refl _, fun _ _ _ _ => rfl⟩
theorem Only2.of1 {g h : Nat} {w w' : World} (o : Only g w w') : Only2 g h w w' := ⟨o.os, o.tape, o.output, o.size, fun k a b _ => o.block k a b⟩
theorem Only2.of2 {g h : Nat} {w w' : World} (o : Only h w w') : Only2 g h w w' := ⟨o.os, o.tape, o.output, o.size, fun k a _ b => o.block k a b⟩
theorem Only2.trans {g h : Nat} {a b c : World} (x : Only2 g h a b) (y : Only2 g h b c) : Only2 g h a c :=
  ⟨y.os.trans x.os, y.tape.trans x.tape, y.output.trans x.output, Nat.le_trans x.size y.size, fun k h1 h2 h3 => (y.block k (Nat.lt_of_lt_of_le h1 x.size) h2 h3).trans (x.block k h1 h2 h3)⟩
theorem Only2.swap {g h : Nat} {a b : World} (x : Only2 g h a b) : Only2 h g a b := ⟨x.os, x.tape, x.output, x.size, fun k h1 h2 h3 => x.block k h1 h3 h2⟩
theorem Only2.drewN {g h : Nat} {a b : World} (x : Only2 g h a b) (q : Nat) : Only2 g h a (b.drewN q) := ⟨x.os, x.tape, x.output, x.size, x.block⟩
theorem Only2.below {g h B : Nat} {w0 w w' : World} (hb : Below B w0 w) (x : Only2 g h w w') (hg : B ≤ g) (hh : B ≤ h) (hB : B ≤ w.heap.size) : Below B w0 w' :=
  hb.trans ⟨x.os, x.tape, x.output, x.size, fun k hk => x.block k (by omega) (by omega) (by omega)⟩
theorem SB.only2 {w w' g h s a0 b0 a1 b1 odd} (x : SB w s a0 b0 a1 b1 odd) (o : Only2 g h w w') (hg : s ≠ g) (hh : s ≠ h) : SB w' s a0 b0 a1 b1 odd := (o.block s x.lt hg hh).trans x

/-- mulAdd with its bounds. -/
theorem mad_of (x c z : Int) (x0 : 0 ≤ x) (x1 : x < 18446744073709551616) (c0 : 0 ≤ c) (c1 : c < 18446744073709551615) (z0 : 0 ≤ z) (z1 : z ≤ c) :
    ∃ h l, (∀ w, Calls Try.prog 93 #[.int .u64 x, .int .u64 c, .int .u64 z] w fun e w' => e = .returned (.tuple #[.int .u64 h, .int .u64 l]) ∧ w' = w) ∧ 0 ≤ h ∧ h ≤ c ∧ 0 ≤ l ∧ l < 18446744073709551616 ∧ Hid (x * c + z = h * 18446744073709551616 + l) := by
  have hb : 0 ≤ x * c ∧ x * c ≤ 18446744073709551615 * c := ⟨Int.mul_nonneg x0 c0, Int.mul_le_mul_of_nonneg_right (by omega) c0⟩
  refine ⟨_, _, fun w => mulAdd_c x c z w x0 x1 c0 (by omega) z0 (by omega), ?_, ?_, ?_, ?_, ?_⟩
  · omega
  · omega
  · omega
  · omega
  · show _ = _; omega
theorem mad_of' (x c z : Int) (x0 : 0 ≤ x) (x1 : x < 18446744073709551616) (c0 : 0 ≤ c) (c1 : c < 18446744073709551615) (z0 : 0 ≤ z) (z1 : z ≤ c + 1) :
    ∃ h l, (∀ w, Calls Try.prog 93 #[.int .u64 x, .int .u64 c, .int .u64 z] w fun e w' => e = .returned (.tuple #[.int .u64 h, .int .u64 l]) ∧ w' = w) ∧ 0 ≤ h ∧ h ≤ c ∧ 0 ≤ l ∧ l < 18446744073709551616 ∧ Hid (x * c + z = h * 18446744073709551616 + l) := by
  have hb : 0 ≤ x * c ∧ x * c ≤ 18446744073709551615 * c := ⟨Int.mul_nonneg x0 c0, Int.mul_le_mul_of_nonneg_right (by omega) c0⟩
  refine ⟨_, _, fun w => mulAdd_c x c z w x0 x1 c0 (by omega) z0 (by omega), ?_, ?_, ?_, ?_, ?_⟩
  · omega
  · omega
  · omega
  · omega
  · show _ = _; omega
theorem sub_of (l k : Int) (l0 : 0 ≤ l) (l1 : l < 18446744073709551616) (k0 : 0 ≤ k) (k1 : k < 18446744073709551616) :
    ∃ d o, (∀ w, (callFunc 94 #[.int .u64 l, .int .u64 k, .int .u64 0]).run Try.prog w = .ok (.value (.tuple #[.int .u64 d, .int .u64 o])) w) ∧ 0 ≤ d ∧ d < 18446744073709551616 ∧ 0 ≤ o ∧ o ≤ 1 ∧ Hid (d = l - k + o * 18446744073709551616) := by
  refine ⟨_, _, fun w => sub64_0 l k l0 k0 k1 w, by omega, by omega, (bor_01 _ _).1, (bor_01 _ _).2, ?_⟩
  show _ = _
  unfold bor; split <;> omega

set_option maxRecDepth 100000 in
set_option maxHeartbeats 8000000 in
theorem apply_c (ga gb Na Nb n m : Nat) (F H : Nat → Int) (a0 b0 a1 b1 : Int) (odd : Bool) (w : World) (hba : Blk .u64 63 w ga Na F) (hbb : Blk .u64 63 w gb Nb H) (la : Lm F Na) (lb : Lm H Nb) (hne : ga ≠ gb) (hnN : n ≤ Na) (hmN : m ≤ Nb) (hmn : m ≤ n) (hm1 : 1 ≤ m) (hNa : Na ≤ 140737488355328) (hNb : Nb ≤ 140737488355328)
    (p0 : 0 ≤ a0 ∧ a0 ≤ 18446744073709551613) (p1 : 0 ≤ b0 ∧ b0 ≤ 18446744073709551613) (p2 : 0 ≤ a1 ∧ a1 ≤ 18446744073709551613) (p3 : 0 ≤ b1 ∧ b1 ≤ 18446744073709551613) (U V : Int) (hU : stU odd a0 b0 (vf F n) (vf H m) = U) (hV : stV odd a1 b1 (vf F n) (vf H m) = V) (u0 : 0 ≤ U) (u1 : U < pw m) (v0 : 0 ≤ V) (v1 : V < pw m) :
    Calls Try.prog 89 #[.agg #[.int .u64 a0, .int .u64 b0, .int .u64 a1, .int .u64 b1, .bool odd], .slice (some ⟨ga, 0, none⟩) n Na, .slice (some ⟨gb, 0, none⟩) m Nb] w fun e w' => Only2 ga gb w w' ∧ ∃ gp gq Np Nq k1 k2 c1 c2 P Q x1 x2, e = .returned (.tuple #[.slice x1 k1 c1, .slice x2 k2 c2]) ∧ (gp = ga ∧ gq = gb ∨ gp = gb ∧ gq = ga) ∧ Blk .u64 63 w' gp Np P ∧ Blk .u64 63 w' gq Nq Q ∧ Lm P Np ∧ Lm Q Nq ∧ Np ≤ 140737488355328 ∧ Nq ≤ 140737488355328 ∧ (x1 = none ∧ k1 = 0 ∧ c1 = 0 ∨ x1 = some ⟨gp, 0, none⟩ ∧ 0 < k1 ∧ c1 = Np) ∧ (x2 = none ∧ k2 = 0 ∧ c2 = 0 ∨ x2 = some ⟨gq, 0, none⟩ ∧ 0 < k2 ∧ c2 = Nq) ∧ k1 ≤ Np ∧ k2 ≤ Nq ∧ Fm P k1 ∧ Fm Q k2 ∧ vf P k1 = U ∧ vf Q k2 = V := by
  have HBa := hid hba; have HBb := hid hbb; have HLa := hid la; have HLb := hid lb; have HU := hid hU; have HV := hid hV
  have U1 := hid u1; have V1 := hid v1
  have ga_lt := hba.lt; have gb_lt := hbb.lt
  clear hba hbb la lb hU hV u1 v1
  obtain ⟨p00, p01⟩ := p0; obtain ⟨p10, p11⟩ := p1; obtain ⟨p20, p21⟩ := p2; obtain ⟨p30, p31⟩ := p3
  have i1 : (m : Int) ≤ (Na : Int) := by omega
  go_enter Try.func89, Try.ntmps89
  cases odd
  · skip
    go_wp2
    have hS0 : SB (w.alloc (.cells #[.int .u64 a0, .int .u64 b0, .int .u64 a1, .int .u64 b1, .bool false] 134)) w.heap.size a0 b0 a1 b1 false := heap_alloc_new w _
    have hP0 := HBa.out.alloc (.cells #[.int .u64 a0, .int .u64 b0, .int .u64 a1, .int .u64 b1, .bool false] 134)
    have hQ0 := HBb.out.alloc (.cells #[.int .u64 a0, .int .u64 b0, .int .u64 a1, .int .u64 b1, .bool false] 134)
    have HS0 := hid hS0; have HP0 := hid hP0; have HQ0 := hid hQ0
    clear hS0 hP0 hQ0
    go_loopw [8, 9, 10, 11, 12, 40] (fun c1 c2 c3 c4 c5 t wr => ∃ (i : Nat) (pa lb pb la bw : Int) (P Q : Nat → Int), i ≤ m ∧ t = .int .i64 i ∧ c1 = .int .u64 pa ∧ c2 = .int .u64 lb ∧ c3 = .int .u64 pb ∧ c4 = .int .u64 la ∧ c5 = .int .u64 bw ∧ 0 ≤ pa ∧ pa ≤ a0 ∧ 0 ≤ lb ∧ lb ≤ b0 + 1 ∧ 0 ≤ pb ∧ pb ≤ b1 ∧ 0 ≤ la ∧ la ≤ a1 + 1 ∧ Hid (Only2 ga gb w wr) ∧ Hid (w.heap.size < wr.heap.size) ∧ Hid (SB wr w.heap.size a0 b0 a1 b1 false) ∧ Hid (Blk .u64 63 wr ga Na P) ∧ Hid (Blk .u64 63 wr gb Nb Q) ∧ Hid (Lm P Na) ∧ Hid (Lm Q Nb) ∧ Hid (∀ j, i ≤ j → P j = F j) ∧ Hid (∀ j, i ≤ j → Q j = H j) ∧ Hid (vf P i + (pa - lb) * pw i = a0 * vf F i - b0 * vf H i) ∧ Hid (vf Q i + (pb - la) * pw i = b1 * vf H i - a1 * vf F i)) (fun _ _ _ _ _ t _ => m - (intOf t).toNat)
    case atStart => exact ⟨0, 0, 0, 0, 0, 0, F, H, by omega, rfl, rfl, rfl, rfl, rfl, rfl, by omega, by omega, by omega, by omega, by omega, by omega, by omega, by omega, Only2.of1 ((Only.refl _ _).alloc _), (by show _ < _; simp), HS0.out, HP0.out, HQ0.out, HLa.out, HLb.out, fun _ _ => rfl, fun _ _ => rfl, by simp [Hid, vf, pw], by simp [Hid, vf, pw]⟩
    case round =>
      clear HS0 HP0 HQ0
      obtain ⟨i, pa, lb, pb, la, bw, P, Q, hi, rfl, rfl, rfl, rfl, rfl, rfl, a1', a2, a3, a4, a5, a6, a7, a8, HO, HSz, HS, HP, HQ, HLP, HLQ, HEP, HEQ, HV1, HV2⟩ := hrel
      by_cases hlt : i < m
      · obtain ⟨x, hx⟩ : ∃ x, P i = x := ⟨_, rfl⟩
        obtain ⟨y, hy⟩ : ∃ y, Q i = y := ⟨_, rfl⟩
        have hcx : wr.cell? ⟨ga, i, none⟩ = some (.int .u64 x) := by rw [← hx]; exact HP.out.cell (by omega)
        have hcy : wr.cell? ⟨gb, i, none⟩ = some (.int .u64 y) := by rw [← hy]; exact HQ.out.cell (by omega)
        have fzp := HP.out.frozen i
        have fzq := HQ.out.frozen i
        obtain ⟨s0, s1, s2, s3, s4⟩ := HS.out.cells
        have hgs1 : w.heap.size ≠ ga := by omega
        have hgs2 : w.heap.size ≠ gb := by omega
        have t2 : ∀ v, (wr.setCell ⟨ga, i, none⟩ v).cell? ⟨w.heap.size, 2, none⟩ = some (.int .u64 a1) := fun v => (World.cell?_of_block (Below.heap_setCell _ _ _ _ (by simpa using hgs1))).trans s2
        have t3 : ∀ v, (wr.setCell ⟨ga, i, none⟩ v).cell? ⟨w.heap.size, 3, none⟩ = some (.int .u64 b1) := fun v => (World.cell?_of_block (Below.heap_setCell _ _ _ _ (by simpa using hgs1))).trans s3
        have tq : ∀ v, (wr.setCell ⟨ga, i, none⟩ v).cell? ⟨gb, i, none⟩ = some (.int .u64 y) := fun v => (World.cell?_of_block (Below.heap_setCell _ _ _ _ (by simp; omega))).trans hcy
        have fq : ∀ v, (wr.setCell ⟨ga, i, none⟩ (.int .u64 v)).frozen? ⟨gb, i, none⟩ = false := fun v => (HQ.out.setOther (a := ⟨ga, i, none⟩) (by simp; omega) (.int .u64 v)).frozen i
        have bx := HLP.out i (by omega); have by' := HLQ.out i (by omega)
        rw [hx] at bx; rw [hy] at by'
        obtain ⟨x0, x1⟩ := bx; obtain ⟨y0, y1⟩ := by'
        have HX := hid (show F i = x by rw [← HEP.out i (Nat.le_refl _), hx]); have HY := hid (show H i = y by rw [← HEQ.out i (Nat.le_refl _), hy])
        clear hx hy
        obtain ⟨h1, l1, M1, q10, q11, r10, r11, E1⟩ := mad_of x a0 pa x0 x1 p00 (by omega) a1' a2
        obtain ⟨h2, l2, M2, q20, q21, r20, r21, E2⟩ := mad_of' y b0 lb y0 y1 p10 (by omega) a3 a4
        obtain ⟨h3, l3, M3, q30, q31, r30, r31, E3⟩ := mad_of y b1 pb y0 y1 p30 (by omega) a5 a6
        obtain ⟨h4, l4, M4, q40, q41, r40, r41, E4⟩ := mad_of' x a1 la x0 x1 p20 (by omega) a7 a8
        obtain ⟨d1, o1', S1, d10, d11, o10, o11, F1⟩ := sub_of l1 l2 r10 r11 r20 r21
        obtain ⟨d2, o2', S2, d20, d21, o20, o21, F2⟩ := sub_of l3 l4 r30 r31 r40 r41
        have CM1 := hid M1; have CM2 := hid M2; have CM3 := hid M3; have CM4 := hid M4
        clear M1 M2 M3 M4
        go_wp2
        go_quiet (fail)
        go_wp2_with fail
        refine (CM1.out _).mono ?_
        rintro e w1 ⟨rfl, rfl⟩
        go_wp2_with fail
        refine (CM2.out _).mono ?_
        rintro e w1 ⟨rfl, rfl⟩
        go_wp2_with fail
        refine (CM3.out _).mono ?_
        rintro e w1 ⟨rfl, rfl⟩
        go_wp2_with fail
        refine (CM4.out _).mono ?_
        rintro e w1 ⟨rfl, rfl⟩
        go_wp2
        go_roundw
        case rel =>
          have o1 : Only ga wr _ := (Only.refl ga wr).setCell i none (.int .u64 d1)
          have o2 : Only gb (wr.setCell ⟨ga, i, none⟩ (.int .u64 d1)) _ := (Only.refl gb (wr.setCell ⟨ga, i, none⟩ (.int .u64 d1))).setCell i none (.int .u64 d2)
          have oo := (Only2.of1 (h := gb) o1).trans (Only2.of2 (g := ga) o2)
          have hsz := HSz.out
          refine ⟨i + 1, h1, h2 + o1', h3, h4 + o2', o2', upd P i d1, upd Q i d2, by omega, by go_num, rfl, rfl, rfl, rfl, rfl, by omega, by omega, by omega, by omega, by omega, by omega, by omega, by omega, ?_, ?_, ?_, ?_, ?_, HLP.out.upd ⟨d10, d11⟩, HLQ.out.upd ⟨d20, d21⟩, ?_, ?_, ?_, ?_⟩
          · exact HO.out.trans ⟨oo.os, oo.tape, oo.output, oo.size, oo.block⟩
          · show _ < _
            have := oo.size
            exact Nat.lt_of_lt_of_le hsz this
          · exact HS.out.only2 ⟨oo.os, oo.tape, oo.output, oo.size, oo.block⟩ hgs1 hgs2
          · exact (HP.out.set i d1).setOther (a := ⟨gb, i, none⟩) (by simp; omega) (.int .u64 d2)
          · exact (HQ.out.setOther (a := ⟨ga, i, none⟩) (by simp; omega) (.int .u64 d1)).set i d2
          · intro j hj
            rw [upd_other _ _ _ _ (by omega)]; exact HEP.out j (by omega)
          · intro j hj
            rw [upd_other _ _ _ _ (by omega)]; exact HEQ.out j (by omega)
          · exact app_step HV1.out HX.out HY.out E1.out E2.out F1.out
          · exact app_step HV2.out HY.out HX.out E3.out E4.out F2.out
        case measure => simp [intOf]; omega
      · obtain rfl : i = m := by omega
        have n1 := vf_nonneg (HLP.out.mono (m := i) (by omega)); have n2 := vf_lt (HLP.out.mono (m := i) (by omega))
        have n3 := vf_nonneg (HLQ.out.mono (m := i) (by omega)); have n4 := vf_lt (HLQ.out.mono (m := i) (by omega))
        have hcut : vf F n = vf F i + vf (sh F i) (n - i) * pw i := by rw [← vf_split, show i + (n - i) = n by omega]
        have hPu : vf P i = U := by
          have e := HU.out
          simp only [stU, if_false, Bool.false_eq_true] at e
          rw [hcut] at e
          refine mod_one (p := pw i) (t := pa - lb) (s := -(a0 * vf (sh F i) (n - i))) ?_ n1 n2 u0 U1.out
          rw [HV1.out, ← e]; grind
        have hQv : vf Q i = V := by
          have e := HV.out
          simp only [stV, if_false, Bool.false_eq_true] at e
          rw [hcut] at e
          refine mod_one (p := pw i) (t := pb - la) (s := a1 * vf (sh F i) (n - i)) ?_ n3 n4 v0 V1.out
          rw [HV2.out, ← e]; grind
        have HPu := hid hPu; have HQv := hid hQv
        clear n1 n2 n3 n4 hcut hPu hQv
        go_wp2_with fail
        refine (trim_c (some ⟨ga, 0, none⟩) i Na P wr (by omega) (by omega) (HP.out.rd0 (by omega))).mono ?_
        rintro e w1 ⟨rfl, k1, hk1, hz1, he1⟩
        have Z1 := hid hz1
        clear hz1
        obtain ⟨x1, c1, hx1, hf1, hc1⟩ : ∃ x1 c1, e = .returned (.slice x1 k1 c1) ∧ Fm P k1 ∧ (x1 = none ∧ k1 = 0 ∧ c1 = 0 ∨ x1 = some ⟨ga, 0, none⟩ ∧ 0 < k1 ∧ c1 = Na) := by
          rcases he1 with ⟨h0, he⟩ | ⟨h0, hn0, he⟩
          · exact ⟨none, 0, by rw [he, h0], .inl h0, .inl ⟨rfl, h0, rfl⟩⟩
          · exact ⟨_, _, he, .inr hn0, .inr ⟨rfl, h0, rfl⟩⟩
        subst hx1
        have HF1 := hid hf1; have HC1 := hid hc1
        clear he1 hf1 hc1
        go_wp2_with fail
        refine (trim_c (some ⟨gb, 0, none⟩) i Nb Q _ (by omega) (by omega) (HQ.out.rd0 (by omega))).mono ?_
        rintro e w1 ⟨rfl, k2, hk2, hz2, he2⟩
        have Z2 := hid hz2
        clear hz2
        obtain ⟨x2, c2, hx2, hf2, hc2⟩ : ∃ x2 c2, e = .returned (.slice x2 k2 c2) ∧ Fm Q k2 ∧ (x2 = none ∧ k2 = 0 ∧ c2 = 0 ∨ x2 = some ⟨gb, 0, none⟩ ∧ 0 < k2 ∧ c2 = Nb) := by
          rcases he2 with ⟨h0, he⟩ | ⟨h0, hn0, he⟩
          · exact ⟨none, 0, by rw [he, h0], .inl h0, .inl ⟨rfl, h0, rfl⟩⟩
          · exact ⟨_, _, he, .inr hn0, .inr ⟨rfl, h0, rfl⟩⟩
        subst hx2
        have HF2 := hid hf2; have HC2 := hid hc2
        clear he2 hf2 hc2
        go_wp2
        go_ret2
        refine ⟨HO.out, ga, gb, Na, Nb, k1, k2, c1, c2, P, Q, x1, x2, rfl, .inl ⟨rfl, rfl⟩, HP.out, HQ.out, HLP.out, HLQ.out, by omega, by omega, HC1.out, HC2.out, by omega, by omega, HF1.out, HF2.out, ?_, ?_⟩
        · rw [trim_val hk1 Z1.out]; exact HPu.out
        · rw [trim_val hk2 Z2.out]; exact HQv.out
  · skip
    go_wp2
    have hS0 : SB (w.alloc (.cells #[.int .u64 b0, .int .u64 a0, .int .u64 b1, .int .u64 a1, .bool true] 134)) w.heap.size b0 a0 b1 a1 true := heap_alloc_new w _
    have hP0 := HBb.out.alloc (.cells #[.int .u64 b0, .int .u64 a0, .int .u64 b1, .int .u64 a1, .bool true] 134)
    have hQ0 := HBa.out.alloc (.cells #[.int .u64 b0, .int .u64 a0, .int .u64 b1, .int .u64 a1, .bool true] 134)
    have HS0 := hid hS0; have HP0 := hid hP0; have HQ0 := hid hQ0
    clear hS0 hP0 hQ0
    go_loopw [8, 9, 10, 11, 12, 40] (fun c1 c2 c3 c4 c5 t wr => ∃ (i : Nat) (pa lb pb la bw : Int) (P Q : Nat → Int), i ≤ m ∧ t = .int .i64 i ∧ c1 = .int .u64 pa ∧ c2 = .int .u64 lb ∧ c3 = .int .u64 pb ∧ c4 = .int .u64 la ∧ c5 = .int .u64 bw ∧ 0 ≤ pa ∧ pa ≤ b0 ∧ 0 ≤ lb ∧ lb ≤ a0 + 1 ∧ 0 ≤ pb ∧ pb ≤ a1 ∧ 0 ≤ la ∧ la ≤ b1 + 1 ∧ Hid (Only2 gb ga w wr) ∧ Hid (w.heap.size < wr.heap.size) ∧ Hid (SB wr w.heap.size b0 a0 b1 a1 true) ∧ Hid (Blk .u64 63 wr gb Nb P) ∧ Hid (Blk .u64 63 wr ga Na Q) ∧ Hid (Lm P Nb) ∧ Hid (Lm Q Na) ∧ Hid (∀ j, i ≤ j → P j = H j) ∧ Hid (∀ j, i ≤ j → Q j = F j) ∧ Hid (vf P i + (pa - lb) * pw i = b0 * vf H i - a0 * vf F i) ∧ Hid (vf Q i + (pb - la) * pw i = a1 * vf F i - b1 * vf H i)) (fun _ _ _ _ _ t _ => m - (intOf t).toNat)
    case atStart => exact ⟨0, 0, 0, 0, 0, 0, H, F, by omega, rfl, rfl, rfl, rfl, rfl, rfl, by omega, by omega, by omega, by omega, by omega, by omega, by omega, by omega, Only2.of1 ((Only.refl _ _).alloc _), (by show _ < _; simp), HS0.out, HP0.out, HQ0.out, HLb.out, HLa.out, fun _ _ => rfl, fun _ _ => rfl, by simp [Hid, vf, pw], by simp [Hid, vf, pw]⟩
    case round =>
      clear HS0 HP0 HQ0
      obtain ⟨i, pa, lb, pb, la, bw, P, Q, hi, rfl, rfl, rfl, rfl, rfl, rfl, a1', a2, a3, a4, a5, a6, a7, a8, HO, HSz, HS, HP, HQ, HLP, HLQ, HEP, HEQ, HV1, HV2⟩ := hrel
      by_cases hlt : i < m
      · obtain ⟨x, hx⟩ : ∃ x, P i = x := ⟨_, rfl⟩
        obtain ⟨y, hy⟩ : ∃ y, Q i = y := ⟨_, rfl⟩
        have hcx : wr.cell? ⟨gb, i, none⟩ = some (.int .u64 x) := by rw [← hx]; exact HP.out.cell (by omega)
        have hcy : wr.cell? ⟨ga, i, none⟩ = some (.int .u64 y) := by rw [← hy]; exact HQ.out.cell (by omega)
        have fzp := HP.out.frozen i
        have fzq := HQ.out.frozen i
        obtain ⟨s0, s1, s2, s3, s4⟩ := HS.out.cells
        have hgs1 : w.heap.size ≠ gb := by omega
        have hgs2 : w.heap.size ≠ ga := by omega
        have t2 : ∀ v, (wr.setCell ⟨gb, i, none⟩ v).cell? ⟨w.heap.size, 2, none⟩ = some (.int .u64 b1) := fun v => (World.cell?_of_block (Below.heap_setCell _ _ _ _ (by simpa using hgs1))).trans s2
        have t3 : ∀ v, (wr.setCell ⟨gb, i, none⟩ v).cell? ⟨w.heap.size, 3, none⟩ = some (.int .u64 a1) := fun v => (World.cell?_of_block (Below.heap_setCell _ _ _ _ (by simpa using hgs1))).trans s3
        have tq : ∀ v, (wr.setCell ⟨gb, i, none⟩ v).cell? ⟨ga, i, none⟩ = some (.int .u64 y) := fun v => (World.cell?_of_block (Below.heap_setCell _ _ _ _ (by simp; omega))).trans hcy
        have fq : ∀ v, (wr.setCell ⟨gb, i, none⟩ (.int .u64 v)).frozen? ⟨ga, i, none⟩ = false := fun v => (HQ.out.setOther (a := ⟨gb, i, none⟩) (by simp; omega) (.int .u64 v)).frozen i
        have bx := HLP.out i (by omega); have by' := HLQ.out i (by omega)
        rw [hx] at bx; rw [hy] at by'
        obtain ⟨x0, x1⟩ := bx; obtain ⟨y0, y1⟩ := by'
        have HX := hid (show H i = x by rw [← HEP.out i (Nat.le_refl _), hx]); have HY := hid (show F i = y by rw [← HEQ.out i (Nat.le_refl _), hy])
        clear hx hy
        obtain ⟨h1, l1, M1, q10, q11, r10, r11, E1⟩ := mad_of x b0 pa x0 x1 p10 (by omega) a1' a2
        obtain ⟨h2, l2, M2, q20, q21, r20, r21, E2⟩ := mad_of' y a0 lb y0 y1 p00 (by omega) a3 a4
        obtain ⟨h3, l3, M3, q30, q31, r30, r31, E3⟩ := mad_of y a1 pb y0 y1 p20 (by omega) a5 a6
        obtain ⟨h4, l4, M4, q40, q41, r40, r41, E4⟩ := mad_of' x b1 la x0 x1 p30 (by omega) a7 a8
        obtain ⟨d1, o1', S1, d10, d11, o10, o11, F1⟩ := sub_of l1 l2 r10 r11 r20 r21
        obtain ⟨d2, o2', S2, d20, d21, o20, o21, F2⟩ := sub_of l3 l4 r30 r31 r40 r41
        have CM1 := hid M1; have CM2 := hid M2; have CM3 := hid M3; have CM4 := hid M4
        clear M1 M2 M3 M4
        go_wp2
        go_quiet (fail)
        go_wp2_with fail
        refine (CM1.out _).mono ?_
        rintro e w1 ⟨rfl, rfl⟩
        go_wp2_with fail
        refine (CM2.out _).mono ?_
        rintro e w1 ⟨rfl, rfl⟩
        go_wp2_with fail
        refine (CM3.out _).mono ?_
        rintro e w1 ⟨rfl, rfl⟩
        go_wp2_with fail
        refine (CM4.out _).mono ?_
        rintro e w1 ⟨rfl, rfl⟩
        go_wp2
        go_roundw
        case rel =>
          have o1 : Only gb wr _ := (Only.refl gb wr).setCell i none (.int .u64 d1)
          have o2 : Only ga (wr.setCell ⟨gb, i, none⟩ (.int .u64 d1)) _ := (Only.refl ga (wr.setCell ⟨gb, i, none⟩ (.int .u64 d1))).setCell i none (.int .u64 d2)
          have oo := (Only2.of1 (h := ga) o1).trans (Only2.of2 (g := gb) o2)
          have hsz := HSz.out
          refine ⟨i + 1, h1, h2 + o1', h3, h4 + o2', o2', upd P i d1, upd Q i d2, by omega, by go_num, rfl, rfl, rfl, rfl, rfl, by omega, by omega, by omega, by omega, by omega, by omega, by omega, by omega, ?_, ?_, ?_, ?_, ?_, HLP.out.upd ⟨d10, d11⟩, HLQ.out.upd ⟨d20, d21⟩, ?_, ?_, ?_, ?_⟩
          · exact HO.out.trans ⟨oo.os, oo.tape, oo.output, oo.size, oo.block⟩
          · show _ < _
            have := oo.size
            exact Nat.lt_of_lt_of_le hsz this
          · exact HS.out.only2 ⟨oo.os, oo.tape, oo.output, oo.size, oo.block⟩ hgs1 hgs2
          · exact (HP.out.set i d1).setOther (a := ⟨ga, i, none⟩) (by simp; omega) (.int .u64 d2)
          · exact (HQ.out.setOther (a := ⟨gb, i, none⟩) (by simp; omega) (.int .u64 d1)).set i d2
          · intro j hj
            rw [upd_other _ _ _ _ (by omega)]; exact HEP.out j (by omega)
          · intro j hj
            rw [upd_other _ _ _ _ (by omega)]; exact HEQ.out j (by omega)
          · exact app_step HV1.out HX.out HY.out E1.out E2.out F1.out
          · exact app_step HV2.out HY.out HX.out E3.out E4.out F2.out
        case measure => simp [intOf]; omega
      · obtain rfl : i = m := by omega
        have n1 := vf_nonneg (HLP.out.mono (m := i) (by omega)); have n2 := vf_lt (HLP.out.mono (m := i) (by omega))
        have n3 := vf_nonneg (HLQ.out.mono (m := i) (by omega)); have n4 := vf_lt (HLQ.out.mono (m := i) (by omega))
        have hcut : vf F n = vf F i + vf (sh F i) (n - i) * pw i := by rw [← vf_split, show i + (n - i) = n by omega]
        have hPu : vf P i = U := by
          have e := HU.out
          simp only [stU, if_true] at e
          rw [hcut] at e
          refine mod_one (p := pw i) (t := pa - lb) (s := a0 * vf (sh F i) (n - i)) ?_ n1 n2 u0 U1.out
          rw [HV1.out, ← e]; grind
        have hQv : vf Q i = V := by
          have e := HV.out
          simp only [stV, if_true] at e
          rw [hcut] at e
          refine mod_one (p := pw i) (t := pb - la) (s := -(a1 * vf (sh F i) (n - i))) ?_ n3 n4 v0 V1.out
          rw [HV2.out, ← e]; grind
        have HPu := hid hPu; have HQv := hid hQv
        clear n1 n2 n3 n4 hcut hPu hQv
        go_wp2_with fail
        refine (trim_c (some ⟨gb, 0, none⟩) i Nb P wr (by omega) (by omega) (HP.out.rd0 (by omega))).mono ?_
        rintro e w1 ⟨rfl, k1, hk1, hz1, he1⟩
        have Z1 := hid hz1
        clear hz1
        obtain ⟨x1, c1, hx1, hf1, hc1⟩ : ∃ x1 c1, e = .returned (.slice x1 k1 c1) ∧ Fm P k1 ∧ (x1 = none ∧ k1 = 0 ∧ c1 = 0 ∨ x1 = some ⟨gb, 0, none⟩ ∧ 0 < k1 ∧ c1 = Nb) := by
          rcases he1 with ⟨h0, he⟩ | ⟨h0, hn0, he⟩
          · exact ⟨none, 0, by rw [he, h0], .inl h0, .inl ⟨rfl, h0, rfl⟩⟩
          · exact ⟨_, _, he, .inr hn0, .inr ⟨rfl, h0, rfl⟩⟩
        subst hx1
        have HF1 := hid hf1; have HC1 := hid hc1
        clear he1 hf1 hc1
        go_wp2_with fail
        refine (trim_c (some ⟨ga, 0, none⟩) i Na Q _ (by omega) (by omega) (HQ.out.rd0 (by omega))).mono ?_
        rintro e w1 ⟨rfl, k2, hk2, hz2, he2⟩
        have Z2 := hid hz2
        clear hz2
        obtain ⟨x2, c2, hx2, hf2, hc2⟩ : ∃ x2 c2, e = .returned (.slice x2 k2 c2) ∧ Fm Q k2 ∧ (x2 = none ∧ k2 = 0 ∧ c2 = 0 ∨ x2 = some ⟨ga, 0, none⟩ ∧ 0 < k2 ∧ c2 = Na) := by
          rcases he2 with ⟨h0, he⟩ | ⟨h0, hn0, he⟩
          · exact ⟨none, 0, by rw [he, h0], .inl h0, .inl ⟨rfl, h0, rfl⟩⟩
          · exact ⟨_, _, he, .inr hn0, .inr ⟨rfl, h0, rfl⟩⟩
        subst hx2
        have HF2 := hid hf2; have HC2 := hid hc2
        clear he2 hf2 hc2
        go_wp2
        go_ret2
        refine ⟨HO.out.swap, gb, ga, Nb, Na, k1, k2, c1, c2, P, Q, x1, x2, rfl, .inr ⟨rfl, rfl⟩, HP.out, HQ.out, HLP.out, HLQ.out, by omega, by omega, HC1.out, HC2.out, by omega, by omega, HF1.out, HF2.out, ?_, ?_⟩
        · rw [trim_val hk1 Z1.out]; exact HPu.out
        · rw [trim_val hk2 Z2.out]; exact HQv.out
end Go.Proofs.Ytllpllebmknmpaa
