/-
  Walks of the document's reference for nat: Twin, From, To. Walks of the document's reference for nat: Cmp, Add, Sub on digits, and the calls DocAdd, DocSub, DocCmp. Walks of the document's reference for nat: Sub on digits, and the calls DocAdd, DocSub, DocCmp. Walks of the document's reference for nat: the calls DocAdd, DocSub, DocCmp. The walk of the statement NatSums. Euclid's steps by the highest bits (Lehmer's way, Collins' condition), on plain numbers. No Go text is named here. Walks of package nat's greatest common divisor: findSteps. Walks of package nat's long division, its parts: addWord and addTo with what goes over, mulSubFrom, guess. The walk of package nat's guess: a digit of a long quotient. The walk of package nat's takeOut: a digit of a long quotient, and what is left.
-/
import Derived.Test.YtbmdhfpgkemilaaGreatDoorZ2
import Derived.Test.YtbmdhfpgkemilaaGreatDoorZ0
import Derived.Test.YtbmdhfpgkemilaaGreatDoorZ1
import Derived.BigRegion
import Derived.BigQuiet
namespace Go.Proofs.YtbmdhfpgkemilaaGreatDoor
open Go.RowKit

set_option maxRecDepth 100000 in
set_option maxHeartbeats 400000 in
/-- Twin: a list of its own. -/
theorem twin_c (ao : Option Addr) (n cap : Nat) (f : Nat → Int) (w : World) (hn : n ≤ 1048576) (hr : Rd .u64 w ao n f) (hnil : ao = none → n = 0 ∧ cap = 0) :
    Calls Tryz.prog 11 #[.slice ao n cap] w fun e w' => ∃ ao' cap', e = .returned (.slice ao' n cap') ∧ Below w.heap.size w w' ∧ Rd .u64 w' ao' n f ∧ Own .u64 43 w' w.heap.size (.slice ao' n cap') n f := by
  cases ao with
  | none =>
    obtain ⟨rfl, rfl⟩ := hnil rfl
    go_enter Tryz.func11, Tryz.ntmps11
    obtain ⟨i0, hi, hz0, hz1, hz2⟩ := info_parts Tryz.infoU64
    go_wp2_with (at_builtin; refine wpList_append_own_none rfl (.tmp 4) (.tmp 5) 22 rfl w.heap.size 43 i0 1 Tryz.underlying22 hi (.slice none 0 0) 0 [] rfl (World.ownsRow_nil _ _ _ _) rfl ?_)
    go_ret
    exact ⟨none, 0, rfl, Below.refl _ _, Rd.zero, own_nil _ _ _ _ _⟩
  | some ad =>
    clear hnil
    have HR := hid hr
    clear hr
    go_enter Tryz.func11, Tryz.ntmps11
    obtain ⟨i0, hi, hz0, hz1, hz2⟩ := info_parts Tryz.infoU64
    go_wp2_with (at_builtin; refine wpList_append_own w rfl (.tmp 4) (.tmp 5) 22 rfl w.heap.size 43 i0 (.int .u64 0) 1 8 Tryz.underlying22 hi hz0 hz1 hz2 rfl (by decide) (.slice none 0 0) 0 [] rfl (World.ownsRow_nil _ _ _ _) ad n cap (lst .u64 f n) rfl (by rw [lst_length, Nat.mul_one]) ?c1 (lst_one _ _ _) ?c2 ?c3 (Nat.le_refl _) ?_)
    case c1 =>
      intro j u hu
      obtain ⟨hj, rfl⟩ := lst_getE hu
      obtain ⟨b, o, e, hc⟩ := HR.out j hj
      cases e
      rw [addr_add]; exact hc
    case c2 => unfold maxLen; omega
    case c3 => omega
    intro v' w' hown hgr _
    have hown' : Own .u64 43 w' w.heap.size v' n f := hown
    have hbel : Below w.heap.size w w' := (Below.refl _ _).grown hgr (Nat.le_refl _) (fun k h => by simp [Value.ownBlock] at h)
    have hs := hown'.shape
    obtain ⟨ao', cap', hv, hcc, hnn, hml, hrd, hlt⟩ := hs
    rw [hv] at hown' ⊢
    clear hown hgr hv
    have HO := hid hown'
    clear hown'
    go_wp2
    go_ret
    exact ⟨ao', cap', rfl, hbel, hrd, HO.out⟩

/-- The two digits of a limb. -/
def two32 (x : Int) : Nat → Int := fun j => if j = 0 then x % 4294967296 else x / 4294967296
/-- The digits of limbs. -/
def dig (f : Nat → Int) : Nat → Int := fun j => if j % 2 = 0 then f (j / 2) % 4294967296 else f (j / 2) / 4294967296
theorem dig_cat (f : Nat → Int) (k : Nat) : ∀ j, j < 2 * k + 2 → cat (dig f) (2 * k) (two32 (f k)) j = dig f j := by
  intro j hj
  by_cases h : j < 2 * k
  · exact cat_in h
  · rw [cat_out (by omega)]
    by_cases h2 : j = 2 * k
    · subst h2
      have e1 : 2 * k - 2 * k = 0 := by omega
      have e2 : 2 * k / 2 = k := by omega
      have e3 : 2 * k % 2 = 0 := by omega
      simp [two32, dig]
    · obtain rfl : j = 2 * k + 1 := by omega
      have e1 : 2 * k + 1 - 2 * k = 1 := by omega
      have e2 : (2 * k + 1) / 2 = k := by omega
      have e3 : (2 * k + 1) % 2 = 1 := by omega
      simp [two32, dig, e1, e2, e3]
theorem pd_two (k : Nat) : pd (2 * k) = pw k := by
  induction k with
  | zero => rfl
  | succ k ih =>
    have e : 2 * (k + 1) = 2 * k + 1 + 1 := by omega
    rw [e, pd_succ, pd_succ, pw_succ, ih]; omega
theorem dig_lm {f : Nat → Int} {n : Nat} (h : Lm f n) : Dg (dig f) (2 * n) := by
  intro j hj
  have := h (j / 2) (by omega)
  unfold dig
  split <;> omega
theorem dig_val (f : Nat → Int) (n : Nat) : vd (dig f) (2 * n) = vf f n := by
  induction n with
  | zero => rfl
  | succ k ih =>
    have e : 2 * (k + 1) = 2 * k + 1 + 1 := by omega
    have e2 : (2 * k + 1) / 2 = k := by omega
    have e3 : (2 * k + 1) % 2 = 1 := by omega
    have e4 : 2 * k / 2 = k := by omega
    have e5 : 2 * k % 2 = 0 := by omega
    have a1 : dig f (2 * k) = f k % 4294967296 := by simp [dig]
    have a2 : dig f (2 * k + 1) = f k / 4294967296 := by simp [dig, e2, e3]
    rw [e, vd_succ, vd_succ, ih, vf_succ, pd_succ, pd_two, a1, a2]
    have e6 : f k = 4294967296 * (f k / 4294967296) + f k % 4294967296 := by omega
    have e7 : f k * pw k = (4294967296 * (f k / 4294967296) + f k % 4294967296) * pw k := by rw [← e6]
    rw [e7]
    grind

theorem rd_new2 (w : World) (e : TypeId) (x : Int) : Rd .u64 (w.alloc (.cells #[.int .u64 (x % 4294967296), .int .u64 (x / 4294967296)] e)) (some ⟨w.heap.size, 0, none⟩) 2 (two32 x) :=
  Rd.mk (fun j hj => by
    rw [Nat.zero_add, World.cell?_alloc_new]
    rcases (show j = 0 ∨ j = 1 by omega) with rfl | rfl <;> simp [two32])

set_option maxRecDepth 100000 in
set_option maxHeartbeats 1000000 in
/-- From: the digits of limbs. -/
theorem fromNew_c (ao : Option Addr) (n cap : Nat) (f : Nat → Int) (w : World) (hn : n ≤ 1048576) (hr : Rd .u64 w ao n f) (hf : Lm f n) :
    Calls Tryz.prog 51 #[.slice ao n cap] w fun e w' => ∃ ao' m cap', e = .returned (.slice ao' m cap') ∧ (∀ a, ao' = some a → w.heap.size ≤ a.block) ∧ m ≤ cap' ∧ cap' ≤ 9223372036854775807 ∧ Below w.heap.size w w' ∧ Rd .u64 w' ao' m (dig f) ∧ m ≤ 2 * n ∧ (ao' = none → m = 0) ∧ Dg (dig f) m ∧ Fm (dig f) m ∧ vd (dig f) m = vf f n := by
  have HR := hid hr
  have HF := hid hf
  clear hr hf
  obtain ⟨i0, hi, hz0, hz1, hz2⟩ := info_parts Tryz.infoU64
  go_enter Tryz.func51, Tryz.ntmps51
  go_wp2_with (at_make; refine wpList_make_own w rfl (.const (.int .i64 0)) (.tmp 8) 22 rfl w.heap.size 43 i0 (.int .u64 0) 1 Tryz.underlying22 hi hz0 hz1 .i64 .i64 (2 * (n : Int)) (2 * n) rfl rfl (by omega) (by rw [hz2]; omega) (by unfold maxLen; omega) (Nat.le_refl _) ?_; intro w1 hown1 hgr1)
  have hb1 : Below w.heap.size w w1 := (Below.refl _ _).grown hgr1 (Nat.le_refl _) (fun k h => by cases h)
  have ho1 : Own .u64 43 w1 w.heap.size (.slice (some ⟨w.heap.size, 0, none⟩) 0 (2 * n)) 0 (dig f) := hown1
  clear hown1 hgr1
  have HO1 := hid ho1
  clear ho1
  go_loopw [3, 12] (fun v t wr => ∃ k : Nat, k ≤ n ∧ t = .int .i64 k ∧ Below w.heap.size w wr ∧ Hid (Own .u64 43 wr w.heap.size v (2 * k) (dig f))) (fun _ t _ => n - (intOf t).toNat)
  case atStart => exact ⟨0, by omega, rfl, hb1, HO1.out⟩
  case round =>
    clear hb1 HO1
    obtain ⟨k, hk, rfl, hbel, HO⟩ := hrel
    by_cases hlt : k < n
    · have hr := HR.out
      obtain ⟨b, o, rfl⟩ := hr.at (by omega)
      obtain ⟨x, hx⟩ : ∃ x, f k = x := ⟨_, rfl⟩
      have hcell : wr.cell? ⟨b, o + k, none⟩ = some (.int .u64 x) := by rw [← hx]; exact (hr.below hbel (Nat.le_refl _)).cell hlt
      obtain ⟨x0, x1⟩ := HF.out k hlt
      rw [hx] at x0 x1
      have HX := hid hx
      clear hx hr
      go_wp2_with (at_builtin; refine wpList_append_own_list .u64 _ rfl (.tmp 16) (.tmp 21) 22 rfl w.heap.size 43 8 Tryz.underlying22 Tryz.infoU64 _ (2 * k) (dig f) rfl (Own.alloc HO.out _) wr.heap.size 0 2 2 (two32 x) rfl (rd_new2 wr _ x) ?c1 ?c2 ?c3 ?_)
      case c1 => unfold maxLen; omega
      case c2 => omega
      case c3 => have := hbel.size; simp; omega
      intro v' w' hown hgr
      have hown2 : Own .u64 43 w' w.heap.size v' (2 * (k + 1)) (dig f) := (show Own .u64 43 w' w.heap.size v' (2 * k + 2) _ from hown).congr (fun j hj => by rw [← HX.out]; exact dig_cat f k j hj)
      have hbel2 : Below w.heap.size w w' := (hbel.alloc hbel.size _).grown hgr (by have := hbel.size; simp; omega) (fun k h => (Own.ge HO.out k h))
      have HO2 := hid hown2
      clear hown hgr hown2 HO
      go_wp2
      go_roundw
      case rel => exact ⟨k + 1, by omega, by go_num, hbel2, HO2.out⟩
      case measure => simp [intOf]; omega
    · have hkn : k = n := by omega
      subst hkn
      obtain ⟨ao', cap', hv, hcc, hnn, hml, hrd, hlt2⟩ := HO.out.shape
      unfold maxLen at hml
      subst hv
      have HNew := hid (fun a ha => (hlt2 a ha).1)
      clear HO hlt2
      go_wp2_with fail
      refine (low_c ao' (2 * k) cap' (dig f) wr hcc hml hrd hnn).mono ?_
      rintro e w2 ⟨rfl, m, hm, hz, hfm, rfl⟩
      have HZ := hid hz
      have HFM := hid hfm
      clear hz hfm
      go_wp2
      go_ret
      refine ⟨ao', m, cap', rfl, HNew.out, by omega, hml, hbel, hrd.take hm, hm, fun h => ?_, (dig_lm HF.out).mono hm, HFM.out, ?_⟩
      · have := hnn h; omega
      · rw [trim_vald hm HZ.out]; exact dig_val f k

theorem from_c (ao : Option Addr) (n cap : Nat) (f : Nat → Int) (w : World) (hn : n ≤ 1048576) (hr : Rd .u64 w ao n f) (hf : Lm f n) :
    Calls Tryz.prog 51 #[.slice ao n cap] w fun e w' => ∃ ao' m cap', e = .returned (.slice ao' m cap') ∧ Below w.heap.size w w' ∧ Rd .u64 w' ao' m (dig f) ∧ m ≤ 2 * n ∧ (ao' = none → m = 0) ∧ Dg (dig f) m ∧ Fm (dig f) m ∧ vd (dig f) m = vf f n :=
  (fromNew_c ao n cap f w hn hr hf).mono (fun _ _ ⟨a, m, c, h1, _, _, _, h2⟩ => ⟨a, m, c, h1, h2⟩)

/-- The limbs of digits. -/
def lim (d : Nat → Int) (n : Nat) : Nat → Int := fun j => ext d n (2 * j) + 4294967296 * ext d n (2 * j + 1)
theorem ext_dg {d : Nat → Int} {n : Nat} (h : Dg d n) (j : Nat) : 0 ≤ ext d n j ∧ ext d n j < 4294967296 := by
  by_cases hj : j < n
  · rw [ext_in _ _ _ hj]; exact h j hj
  · rw [ext_out _ _ _ (by omega)]; omega
theorem lim_lm {d : Nat → Int} {n : Nat} (h : Dg d n) (k : Nat) : Lm (lim d n) k := fun j _ => by
  have a := ext_dg h (2 * j); have b := ext_dg h (2 * j + 1)
  unfold lim; omega
theorem lim_val (d : Nat → Int) (n k : Nat) : vf (lim d n) k = vd (ext d n) (2 * k) := by
  induction k with
  | zero => rfl
  | succ k ih =>
    have e : 2 * (k + 1) = 2 * k + 1 + 1 := by omega
    rw [e, vd_succ, vd_succ, ← ih, vf_succ, pd_succ, pd_two, lim]; grind
theorem vd_ext_list (h : Nat → Int) (m n : Nat) (hn : m ≤ n) : vd (ext h m) n = vd h m := by
  rw [vd_ext hn (fun j h1 _ => ext_out h m j h1)]
  exact vd_congr (fun j hj => ext_in h m j hj)
theorem lim_fm {d : Nat → Int} {n k : Nat} (h : Dg d n) (hf : Fm d n) (h1 : n ≤ 2 * k) (h2 : 2 * k ≤ n + 1) : Fm (lim d n) k := by
  by_cases h0 : n = 0
  · left; omega
  · right
    have hd : d (n - 1) ≠ 0 := by rcases hf with h | h; omega; exact h
    have a := ext_dg h (2 * (k - 1)); have b := ext_dg h (2 * (k - 1) + 1)
    unfold lim
    rcases (show n - 1 = 2 * (k - 1) ∨ n - 1 = 2 * (k - 1) + 1 by omega) with e | e
    · have := ext_in d n (2 * (k - 1)) (by omega)
      rw [← e] at this a ⊢
      omega
    · have := ext_in d n (2 * (k - 1) + 1) (by omega)
      rw [← e] at this b ⊢
      omega
theorem cat_one {f : Nat → Int} {k : Nat} {x : Int} (h : f k = x) : ∀ j, j < k + 1 → cat f k (fun _ => x) j = f j := by
  intro j hj
  by_cases h1 : j < k
  · exact cat_in h1
  · obtain rfl : j = k := by omega
    rw [cat_out (Nat.le_refl _), h]

set_option maxRecDepth 100000 in
set_option maxHeartbeats 1000000 in
/-- To: the limbs of digits. -/
theorem toOwn_c (ao : Option Addr) (n cap : Nat) (d : Nat → Int) (w : World) (hn : n ≤ 1048576) (hr : Rd .u64 w ao n d) (hd : Dg d n) (hfm : Fm d n) :
    Calls Tryz.prog 49 #[.slice ao n cap] w fun e w' => ∃ ao' m cap' f, e = .returned (.slice ao' m cap') ∧ Own .u64 43 w' w.heap.size (.slice ao' m cap') m f ∧ Below w.heap.size w w' ∧ Rd .u64 w' ao' m f ∧ m ≤ n ∧ Lm f m ∧ Fm f m ∧ vf f m = vd d n := by
  have HR := hid hr
  have HD := hid hd
  have HFM := hid hfm
  clear hr hd hfm
  go_enter Tryz.func49, Tryz.ntmps49
  go_wp2
  go_loopw [3, 4] (fun v t wr => ∃ k : Nat, 2 * k ≤ n + 1 ∧ t = .int .i64 (2 * k) ∧ Below w.heap.size w wr ∧ Hid (Own .u64 43 wr w.heap.size v k (lim d n))) (fun _ t _ => n + 2 - (intOf t).toNat)
  case atStart => exact ⟨0, by omega, rfl, Below.refl _ _, own_nil _ _ _ _ _⟩
  case round =>
    obtain ⟨k, hk, rfl, hbel, HO⟩ := hrel
    by_cases hlt : 2 * k < n
    · have hr := HR.out
      obtain ⟨b, o, rfl⟩ := hr.at (by omega)
      obtain ⟨x, hx⟩ : ∃ x, d (2 * k) = x := ⟨_, rfl⟩
      have hcell : wr.cell? ⟨b, o + 2 * k, none⟩ = some (.int .u64 x) := by rw [← hx]; exact (hr.below hbel (Nat.le_refl _)).cell hlt
      obtain ⟨x0, x1⟩ := HD.out (2 * k) hlt
      rw [hx] at x0 x1
      have HX := hid hx
      clear hx
      by_cases hlt2 : 2 * k + 1 < n
      · obtain ⟨y, hy⟩ : ∃ y, d (2 * k + 1) = y := ⟨_, rfl⟩
        have hcell2 : wr.cell? ⟨b, o + (2 * k + 1), none⟩ = some (.int .u64 y) := by rw [← hy]; exact (hr.below hbel (Nat.le_refl _)).cell hlt2
        obtain ⟨y0, y1⟩ := HD.out (2 * k + 1) hlt2
        rw [hy] at y0 y1
        have HY := hid hy
        clear hy hr
        have hl : lim d n k = x + y * 4294967296 := by unfold lim; rw [ext_in _ _ _ hlt, ext_in _ _ _ hlt2, HX.out, HY.out]; omega
        have HLm := hid hl
        clear hl
        go_wp2_with (at_builtin; refine wpList_append_own_list .u64 _ rfl (.tmp 29) (.tmp 31) 22 rfl w.heap.size 43 8 Tryz.underlying22 Tryz.infoU64 _ k (lim d n) rfl (Own.alloc HO.out _) wr.heap.size 0 1 1 (fun _ => x + y * 4294967296) rfl (rd_new1 wr _ _) ?c1 ?c2 ?c3 ?_)
        case c1 => unfold maxLen; omega
        case c2 => omega
        case c3 => have := hbel.size; simp; omega
        intro v' w' hown hgr
        have hown2 : Own .u64 43 w' w.heap.size v' (k + 1) (lim d n) := Own.congr hown (cat_one HLm.out)
        have hbel2 : Below w.heap.size w w' := (hbel.alloc hbel.size _).grown hgr (by have := hbel.size; simp; omega) (fun k h => (Own.ge HO.out k h))
        have HO2 := hid hown2
        clear hown hgr hown2 HO
        go_wp2
        go_roundw
        case rel => exact ⟨k + 1, by omega, by go_num, hbel2, HO2.out⟩
        case measure => simp [intOf]; omega
      · have hl : lim d n k = x := by unfold lim; rw [ext_in _ _ _ hlt, ext_out _ _ _ (by omega), HX.out]; omega
        have HLm := hid hl
        clear hl hr
        go_wp2_with (at_builtin; refine wpList_append_own_list .u64 _ rfl (.tmp 29) (.tmp 31) 22 rfl w.heap.size 43 8 Tryz.underlying22 Tryz.infoU64 _ k (lim d n) rfl (Own.alloc HO.out _) wr.heap.size 0 1 1 (fun _ => x) rfl (rd_new1 wr _ _) ?c1 ?c2 ?c3 ?_)
        case c1 => unfold maxLen; omega
        case c2 => omega
        case c3 => have := hbel.size; simp; omega
        intro v' w' hown hgr
        have hown2 : Own .u64 43 w' w.heap.size v' (k + 1) (lim d n) := Own.congr hown (cat_one HLm.out)
        have hbel2 : Below w.heap.size w w' := (hbel.alloc hbel.size _).grown hgr (by have := hbel.size; simp; omega) (fun k h => (Own.ge HO.out k h))
        have HO2 := hid hown2
        clear hown hgr hown2 HO
        go_wp2
        go_roundw
        case rel => exact ⟨k + 1, by omega, by go_num, hbel2, HO2.out⟩
        case measure => simp [intOf]; omega
    · obtain ⟨ao', cap', hv, hcc, hnn, hml, hrd, hlt2⟩ := HO.out.shape
      subst hv
      clear hlt2
      go_wp2
      go_ret
      exact ⟨ao', k, cap', _, rfl, HO.out, hbel, hrd, by omega, lim_lm HD.out k, lim_fm HD.out HFM.out (by omega) hk, by rw [lim_val, vd_ext_list _ _ _ (by omega)]⟩
theorem to_c (ao : Option Addr) (n cap : Nat) (d : Nat → Int) (w : World) (hn : n ≤ 1048576) (hr : Rd .u64 w ao n d) (hd : Dg d n) (hfm : Fm d n) :
    Calls Tryz.prog 49 #[.slice ao n cap] w fun e w' => ∃ ao' m cap' f, e = .returned (.slice ao' m cap') ∧ Below w.heap.size w w' ∧ Rd .u64 w' ao' m f ∧ m ≤ n ∧ Lm f m ∧ Fm f m ∧ vf f m = vd d n :=
  (toOwn_c ao n cap d w hn hr hd hfm).mono (fun _ _ ⟨a, m, c, f, h1, _, h2⟩ => ⟨a, m, c, f, h1, h2⟩)
end Go.Proofs.YtbmdhfpgkemilaaGreatDoor
namespace Go.Proofs.YtbmdhfpgkemilaaGreatDoor
open Go.RowKit

theorem dcmp_step {f g : Nat → Int} {n k : Nat} (hf : Dg f n) (hg : Dg g n) (hk : k < n) (he : ∀ j, k < j → j < n → f j = g j) (hl : f k < g k) : vd f n < vd g n := by
  obtain ⟨d, rfl⟩ := Nat.exists_eq_add_of_le (show k + 1 ≤ n by omega)
  have e : vd (sh f (k + 1)) d = vd (sh g (k + 1)) d := vd_congr (fun j hj => he _ (by omega) (by omega))
  have a := vd_lt (hf.mono (m := k) (by omega)); have b := vd_nonneg (hg.mono (m := k) (by omega))
  have hp : (f k + 1) * pd k ≤ g k * pd k := Int.mul_le_mul_of_nonneg_right (by omega) (Int.le_of_lt (pd_pos k))
  rw [Int.add_mul, Int.one_mul] at hp
  rw [vd_split f (k + 1) d, vd_split g (k + 1) d, e, vd_succ f k, vd_succ g k]
  omega
theorem vd_cat1 (D : Nat → Int) (k : Nat) (x : Int) : vd (cat D k (fun _ => x)) (k + 1) = vd D k + x * pd k := by
  rw [vd_succ, vd_congr (f := cat D k (fun _ => x)) (g := D) (fun j hj => cat_in hj), cat_out (Nat.le_refl _)]
theorem dg_cat1 {D : Nat → Int} {k : Nat} {x : Int} (h : Dg D k) (hx : 0 ≤ x ∧ x < 4294967296) : Dg (cat D k (fun _ => x)) (k + 1) := fun j hj => by
  by_cases h1 : j < k
  · rw [cat_in h1]; exact h j h1
  · rw [cat_out (by omega)]; exact hx
/-- One digit of a sum. -/
theorem dadd_limb {V x c p : Int} : V + ((x + c) % 4294967296) * p + ((x + c) / 4294967296) * (4294967296 * p) = V + x * p + c * p := by
  have e : x + c = 4294967296 * ((x + c) / 4294967296) + (x + c) % 4294967296 := by omega
  grind
theorem dcarry_step {D F G : Nat → Int} {k : Nat} {cc x y : Int} (HV : vd D k + cc * pd k = vd F k + vd G k) (hx : F k = x) (hy : G k = y) :
    vd (cat D k (fun _ => (cc + x + y) % 4294967296)) (k + 1) + ((cc + x + y) / 4294967296) * pd (k + 1) = vd F (k + 1) + vd G (k + 1) := by
  rw [vd_cat1, vd_succ, vd_succ, pd_succ, hx, hy]
  have := dadd_limb (V := vd D k) (x := x + y) (c := cc) (p := pd k)
  have e : x + y + cc = cc + x + y := by omega
  rw [e] at this
  rw [this]
  grind
theorem dborrow_step {D F G : Nat → Int} {k : Nat} {cc x y v c' : Int} (HV : vd D k - cc * pd k = vd F k - vd G k) (hx : F k = x) (hy : G k = y) (hv : v = x - (cc + y) + 4294967296 * c') :
    vd (cat D k (fun _ => v)) (k + 1) - c' * pd (k + 1) = vd F (k + 1) - vd G (k + 1) := by
  rw [vd_cat1, vd_succ, vd_succ, pd_succ, hx, hy, hv]
  grind

set_option maxHeartbeats 800000 in
theorem rcmp_c (ao bo : Option Addr) (n m ca cb : Nat) (f g : Nat → Int) (w : World) (hm : n ≤ 140737488355328) (hm' : m ≤ 140737488355328)
    (hr : Rd .u64 w ao n f) (hs : Rd .u64 w bo m g) (hf : Dg f n) (hg : Dg g m) (ff : Fm f n) (fg : Fm g m) :
    Calls Tryz.prog 115 #[.slice ao n ca, .slice bo m cb] w fun e w' => (∃ q, w' = w.drewN q) ∧ ∃ c, e = .returned (.int .i64 c) ∧ Ord c (vd f n) (vd g m) := by
  have FF := hid ff
  have FG := hid fg
  have HF := hid hf
  have HG := hid hg
  clear ff fg hf hg
  rcases Nat.lt_trichotomy n m with hlt | heq | hlt
  · have h1 : ((n : Int) != m) = true := by simp; omega
    have h2 : decide ((n : Int) < m) = true := by simp; omega
    have h3 : vd f n < vd g m := by
      apply Int.lt_of_not_ge; intro h
      have := vd_len HG.out HF.out FG.out h; omega
    have H3 := hid h3
    clear h3
    go_enter Tryz.func115, Tryz.ntmps115
    go_wp2
    go_ret
    exact ⟨⟨0, rfl⟩, -1, rfl, .inl ⟨rfl, H3.out⟩⟩
  · subst heq
    have h1 : ((n : Int) != n) = false := by simp
    go_enter Tryz.func115, Tryz.ntmps115
    go_wp2
    go_loopw [5] (fun t wr => ∃ i : Nat, i ≤ n ∧ t = .int .i64 ((i : Int) - 1) ∧ Hid (∀ j, i ≤ j → j < n → f j = g j) ∧ ∃ q, wr = w.drewN q) (fun t _ => ((intOf t) + 1).toNat)
    case atStart => exact ⟨n, by omega, rfl, fun j h1 h2 => by omega, 0, rfl⟩
    case round =>
      obtain ⟨i, hin, rfl, HE, q, rfl⟩ := hrel
      by_cases hlt : 0 < i
      · obtain ⟨b, o, rfl⟩ := hr.at (by omega)
        obtain ⟨b', o', rfl⟩ := hs.at (by omega)
        obtain ⟨x, hx⟩ : ∃ x, f (i - 1) = x := ⟨_, rfl⟩
        obtain ⟨y, hy⟩ : ∃ y, g (i - 1) = y := ⟨_, rfl⟩
        have hca : w.cell? ⟨b, o + (i - 1), none⟩ = some (.int .u64 x) := by rw [← hx]; exact hr.cell (by omega)
        have hcb : w.cell? ⟨b', o' + (i - 1), none⟩ = some (.int .u64 y) := by rw [← hy]; exact hs.cell (by omega)
        have HX := hid hx
        have HY := hid hy
        clear hx hy hr hs
        rcases Int.lt_trichotomy x y with hl | hxy | hl
        · have hd : decide (x < y) = true := by simp [hl]
          go_wp2
          go_quiet (fail)
          go_wp2
          go_ret
          refine ⟨⟨_, by (repeat rw [World.drewN_drewN]) <;> rfl⟩, -1, rfl, .inl ⟨rfl, dcmp_step HF.out HG.out (k := i - 1) (by omega) (fun j h1 h2 => HE.out j (by omega) h2) (by rw [HX.out, HY.out]; exact hl)⟩⟩
        · subst hxy
          have hd : decide (x < x) = false := by simp
          go_wp2
          go_quiet (fail)
          go_wp2
          go_quiet (fail)
          go_wp2
          go_roundw
          case rel =>
            refine ⟨i - 1, by omega, by go_num, fun j h1 h2 => ?_, _, by (repeat rw [World.drewN_drewN]) <;> rfl⟩
            by_cases hj : j = i - 1
            · rw [hj]; exact HX.out.trans HY.out.symm
            · exact HE.out j (by omega) h2
          case measure => simp [intOf]; omega
        · have hd : decide (x < y) = false := by simp; omega
          have hd2 : decide (y < x) = true := by simp [hl]
          go_wp2
          go_quiet (fail)
          go_wp2
          go_quiet (fail)
          go_wp2
          go_ret
          refine ⟨⟨_, by (repeat rw [World.drewN_drewN]) <;> rfl⟩, 1, rfl, .inr (.inr ⟨rfl, dcmp_step HG.out HF.out (k := i - 1) (by omega) (fun j h1 h2 => (HE.out j (by omega) h2).symm) (by rw [HX.out, HY.out]; omega)⟩)⟩
      · have hi : i = 0 := by omega
        subst hi
        go_wp2
        go_ret
        exact ⟨⟨_, rfl⟩, 0, rfl, .inr (.inl ⟨rfl, vd_congr (fun j hj => HE.out j (by omega) hj)⟩)⟩
  · have h1 : ((n : Int) != m) = true := by simp; omega
    have h2 : decide ((n : Int) < m) = false := by simp; omega
    have h3 : vd g m < vd f n := by
      apply Int.lt_of_not_ge; intro h
      have := vd_len HF.out HG.out FF.out h; omega
    have H3 := hid h3
    clear h3
    go_enter Tryz.func115, Tryz.ntmps115
    go_wp2
    go_ret
    exact ⟨⟨0, rfl⟩, 1, rfl, .inr (.inr ⟨rfl, H3.out⟩)⟩

set_option maxRecDepth 100000 in
set_option maxHeartbeats 2000000 in
/-- Add: the sum, on digits. -/
theorem raddO_c (ao bo : Option Addr) (n m ca cb : Nat) (f h : Nat → Int) (w : World) (hn : n ≤ 1048576) (hm : m ≤ 1048576) (hr : Rd .u64 w ao n f) (hs : Rd .u64 w bo m h) (hf : Dg f n) (hh : Dg h m) :
    Calls Tryz.prog 112 #[.slice ao n ca, .slice bo m cb] w fun e w' => ∃ ao' k cap' D, e = .returned (.slice ao' k cap') ∧ Below w.heap.size w w' ∧ Rd .u64 w' ao' k D ∧ k ≤ n + m + 1 ∧ Dg D k ∧ Fm D k ∧ (∀ a, ao' = some a → w.heap.size ≤ a.block) ∧ vd D k = vd f n + vd h m := by
  obtain ⟨i0, hi, hz0, hz1, hz2⟩ := info_parts Tryz.infoU64
  have RA0 := hid hr
  have RB0 := hid hs
  have DA0 := hid hf
  have DB0 := hid hh
  clear hr hs hf hh
  by_cases hsw : n < m
  · have RA := RB0
    have RB := RA0
    have DA := DB0
    have DB := DA0
    clear RA0 RB0 DA0 DB0
    go_enter Tryz.func112, Tryz.ntmps112
    go_wp2_with (at_make; refine wpList_make_own w rfl (.const (.int .i64 0)) (.tmp 18) 22 rfl w.heap.size 43 i0 (.int .u64 0) 1 Tryz.underlying22 hi hz0 hz1 .i64 .i64 ((m : Int) + 1) (m + 1) rfl rfl (by omega) (by rw [hz2]; omega) (by unfold maxLen; omega) (Nat.le_refl _) ?_; intro w1 hown1 hgr1)
    have hb1 : Below w.heap.size w w1 := (Below.refl _ _).grown hgr1 (Nat.le_refl _) (fun k h => by cases h)
    have HO1 := hid (show Own .u64 43 w1 w.heap.size (.slice (some ⟨w.heap.size, 0, none⟩) 0 (m + 1)) 0 (fun _ => 0) from hown1)
    clear hown1 hgr1
    go_loopw [5, 6, 22] (fun v c t wr => ∃ (k : Nat) (cc : Int) (D : Nat → Int), k ≤ m ∧ t = .int .i64 k ∧ c = .int .u64 cc ∧ 0 ≤ cc ∧ cc ≤ 1 ∧ Below w.heap.size w wr ∧ Hid (Own .u64 43 wr w.heap.size v k D) ∧ Hid (Dg D k) ∧ Hid (vd D k + cc * pd k = vd h k + vd (ext f n) k)) (fun _ _ t _ => m - (intOf t).toNat)
    case atStart => exact ⟨0, 0, fun _ => 0, by omega, rfl, rfl, by omega, by omega, hb1, HO1.out, fun j hj => by omega, by simp [Hid, vd, pd]⟩
    case round =>
      clear hb1 HO1
      obtain ⟨k, cc, D, hk, rfl, rfl, c0, c1, hbel, HO, HDg, HV⟩ := hrel
      by_cases hlt : k < m
      · have hrA := RA.out
        obtain ⟨b, o, rfl⟩ := hrA.at (by omega)
        obtain ⟨x, hx⟩ : ∃ x, h k = x := ⟨_, rfl⟩
        have hcell : wr.cell? ⟨b, o + k, none⟩ = some (.int .u64 x) := by rw [← hx]; exact (hrA.below hbel (Nat.le_refl _)).cell hlt
        obtain ⟨x0, x1⟩ := DA.out k hlt
        rw [hx] at x0 x1
        have HX := hid hx
        clear hx hrA
        by_cases hlt2 : k < n
        · have hrB := RB.out
          obtain ⟨b', o', rfl⟩ := hrB.at (by omega)
          obtain ⟨y, hy⟩ : ∃ y, f k = y := ⟨_, rfl⟩
          have hcelb : wr.cell? ⟨b', o' + k, none⟩ = some (.int .u64 y) := by rw [← hy]; exact (hrB.below hbel (Nat.le_refl _)).cell hlt2
          obtain ⟨y0, y1⟩ := DB.out k hlt2
          rw [hy] at y0 y1
          have HY := hid (show ext f n k = y from (ext_in _ _ _ hlt2).trans hy)
          clear hy hrB
          go_wp2_with (at_builtin; refine wpList_append_own_list .u64 _ rfl (.tmp 40) (.tmp 43) 22 rfl w.heap.size 43 8 Tryz.underlying22 Tryz.infoU64 _ k D rfl (Own.alloc HO.out _) wr.heap.size 0 1 1 (fun _ => (cc + x + y) % 4294967296) rfl (rd_new1 wr _ _) ?c1 ?c2 ?c3 ?_)
          case c1 => unfold maxLen; omega
          case c2 => omega
          case c3 => have := hbel.size; simp; omega
          intro v' w' hown hgr
          have hbel2 : Below w.heap.size w w' := (hbel.alloc hbel.size _).grown hgr (by have := hbel.size; simp; omega) (fun k h => (Own.ge HO.out k h))
          have HO2 := hid hown
          clear hown hgr HO
          go_wp2
          go_roundw
          case rel => exact ⟨k + 1, _, _, by omega, by go_num, rfl, by omega, by omega, hbel2, HO2.out, dg_cat1 HDg.out (by omega), dcarry_step HV.out HX.out HY.out⟩
          case measure => simp [intOf]; omega
        · have HY := hid (show ext f n k = 0 from ext_out _ _ _ (by omega))
          go_wp2_with (at_builtin; refine wpList_append_own_list .u64 _ rfl (.tmp 40) (.tmp 43) 22 rfl w.heap.size 43 8 Tryz.underlying22 Tryz.infoU64 _ k D rfl (Own.alloc HO.out _) wr.heap.size 0 1 1 (fun _ => (cc + x) % 4294967296) rfl (rd_new1 wr _ _) ?c1 ?c2 ?c3 ?_)
          case c1 => unfold maxLen; omega
          case c2 => omega
          case c3 => have := hbel.size; simp; omega
          intro v' w' hown hgr
          have hbel2 : Below w.heap.size w w' := (hbel.alloc hbel.size _).grown hgr (by have := hbel.size; simp; omega) (fun k h => (Own.ge HO.out k h))
          have HO2 := hid hown
          clear hown hgr HO
          go_wp2
          go_roundw
          case rel => exact ⟨k + 1, _, _, by omega, by go_num, rfl, by omega, by omega, hbel2, HO2.out, dg_cat1 HDg.out (by omega), (by have := dcarry_step HV.out HX.out HY.out; simpa [Hid] using this)⟩
          case measure => simp [intOf]; omega
      · have hkn : k = m := by omega
        subst hkn
        go_wp2_with (at_builtin; refine wpList_append_own_list .u64 _ rfl (.tmp 48) (.tmp 50) 22 rfl w.heap.size 43 8 Tryz.underlying22 Tryz.infoU64 _ k D rfl (Own.alloc HO.out _) wr.heap.size 0 1 1 (fun _ => cc) rfl (rd_new1 wr _ _) ?c1 ?c2 ?c3 ?_)
        case c1 => unfold maxLen; omega
        case c2 => omega
        case c3 => have := hbel.size; simp; omega
        intro v' w' hown hgr
        have hbel2 : Below w.heap.size w w' := (hbel.alloc hbel.size _).grown hgr (by have := hbel.size; simp; omega) (fun k h => (Own.ge HO.out k h))
        obtain ⟨ao', cap', hv, hcc, hnn, hml, hrd, hlt3⟩ := Own.shape hown
        unfold maxLen at hml
        subst hv
        have HLT := hid hlt3
        clear hown hgr HO hlt3
        go_wp2_with fail
        refine (low_c ao' (k + 1) cap' (cat D k (fun _ => cc)) w' hcc hml hrd hnn).mono ?_
        rintro e w2 ⟨rfl, m', hm1, hz, hfm, rfl⟩
        have HZ := hid hz
        have HFM := hid hfm
        clear hz hfm
        go_wp2
        go_ret
        refine ⟨ao', m', cap', _, rfl, hbel2, hrd.take hm1, by omega, (dg_cat1 HDg.out (by omega)).mono hm1, HFM.out, fun a ha => (HLT.out a ha).1, ?_⟩
        rw [trim_vald hm1 HZ.out, vd_cat1, HV.out, vd_ext_list _ _ _ (by omega)]
        omega
  · have RA := RA0
    have RB := RB0
    have DA := DA0
    have DB := DB0
    clear RA0 RB0 DA0 DB0
    go_enter Tryz.func112, Tryz.ntmps112
    go_wp2_with (at_make; refine wpList_make_own w rfl (.const (.int .i64 0)) (.tmp 18) 22 rfl w.heap.size 43 i0 (.int .u64 0) 1 Tryz.underlying22 hi hz0 hz1 .i64 .i64 ((n : Int) + 1) (n + 1) rfl rfl (by omega) (by rw [hz2]; omega) (by unfold maxLen; omega) (Nat.le_refl _) ?_; intro w1 hown1 hgr1)
    have hb1 : Below w.heap.size w w1 := (Below.refl _ _).grown hgr1 (Nat.le_refl _) (fun k h => by cases h)
    have HO1 := hid (show Own .u64 43 w1 w.heap.size (.slice (some ⟨w.heap.size, 0, none⟩) 0 (n + 1)) 0 (fun _ => 0) from hown1)
    clear hown1 hgr1
    go_loopw [5, 6, 22] (fun v c t wr => ∃ (k : Nat) (cc : Int) (D : Nat → Int), k ≤ n ∧ t = .int .i64 k ∧ c = .int .u64 cc ∧ 0 ≤ cc ∧ cc ≤ 1 ∧ Below w.heap.size w wr ∧ Hid (Own .u64 43 wr w.heap.size v k D) ∧ Hid (Dg D k) ∧ Hid (vd D k + cc * pd k = vd f k + vd (ext h m) k)) (fun _ _ t _ => n - (intOf t).toNat)
    case atStart => exact ⟨0, 0, fun _ => 0, by omega, rfl, rfl, by omega, by omega, hb1, HO1.out, fun j hj => by omega, by simp [Hid, vd, pd]⟩
    case round =>
      clear hb1 HO1
      obtain ⟨k, cc, D, hk, rfl, rfl, c0, c1, hbel, HO, HDg, HV⟩ := hrel
      by_cases hlt : k < n
      · have hrA := RA.out
        obtain ⟨b, o, rfl⟩ := hrA.at (by omega)
        obtain ⟨x, hx⟩ : ∃ x, f k = x := ⟨_, rfl⟩
        have hcell : wr.cell? ⟨b, o + k, none⟩ = some (.int .u64 x) := by rw [← hx]; exact (hrA.below hbel (Nat.le_refl _)).cell hlt
        obtain ⟨x0, x1⟩ := DA.out k hlt
        rw [hx] at x0 x1
        have HX := hid hx
        clear hx hrA
        by_cases hlt2 : k < m
        · have hrB := RB.out
          obtain ⟨b', o', rfl⟩ := hrB.at (by omega)
          obtain ⟨y, hy⟩ : ∃ y, h k = y := ⟨_, rfl⟩
          have hcelb : wr.cell? ⟨b', o' + k, none⟩ = some (.int .u64 y) := by rw [← hy]; exact (hrB.below hbel (Nat.le_refl _)).cell hlt2
          obtain ⟨y0, y1⟩ := DB.out k hlt2
          rw [hy] at y0 y1
          have HY := hid (show ext h m k = y from (ext_in _ _ _ hlt2).trans hy)
          clear hy hrB
          go_wp2_with (at_builtin; refine wpList_append_own_list .u64 _ rfl (.tmp 40) (.tmp 43) 22 rfl w.heap.size 43 8 Tryz.underlying22 Tryz.infoU64 _ k D rfl (Own.alloc HO.out _) wr.heap.size 0 1 1 (fun _ => (cc + x + y) % 4294967296) rfl (rd_new1 wr _ _) ?c1 ?c2 ?c3 ?_)
          case c1 => unfold maxLen; omega
          case c2 => omega
          case c3 => have := hbel.size; simp; omega
          intro v' w' hown hgr
          have hbel2 : Below w.heap.size w w' := (hbel.alloc hbel.size _).grown hgr (by have := hbel.size; simp; omega) (fun k h => (Own.ge HO.out k h))
          have HO2 := hid hown
          clear hown hgr HO
          go_wp2
          go_roundw
          case rel => exact ⟨k + 1, _, _, by omega, by go_num, rfl, by omega, by omega, hbel2, HO2.out, dg_cat1 HDg.out (by omega), dcarry_step HV.out HX.out HY.out⟩
          case measure => simp [intOf]; omega
        · have HY := hid (show ext h m k = 0 from ext_out _ _ _ (by omega))
          go_wp2_with (at_builtin; refine wpList_append_own_list .u64 _ rfl (.tmp 40) (.tmp 43) 22 rfl w.heap.size 43 8 Tryz.underlying22 Tryz.infoU64 _ k D rfl (Own.alloc HO.out _) wr.heap.size 0 1 1 (fun _ => (cc + x) % 4294967296) rfl (rd_new1 wr _ _) ?c1 ?c2 ?c3 ?_)
          case c1 => unfold maxLen; omega
          case c2 => omega
          case c3 => have := hbel.size; simp; omega
          intro v' w' hown hgr
          have hbel2 : Below w.heap.size w w' := (hbel.alloc hbel.size _).grown hgr (by have := hbel.size; simp; omega) (fun k h => (Own.ge HO.out k h))
          have HO2 := hid hown
          clear hown hgr HO
          go_wp2
          go_roundw
          case rel => exact ⟨k + 1, _, _, by omega, by go_num, rfl, by omega, by omega, hbel2, HO2.out, dg_cat1 HDg.out (by omega), (by have := dcarry_step HV.out HX.out HY.out; simpa [Hid] using this)⟩
          case measure => simp [intOf]; omega
      · have hkn : k = n := by omega
        subst hkn
        go_wp2_with (at_builtin; refine wpList_append_own_list .u64 _ rfl (.tmp 48) (.tmp 50) 22 rfl w.heap.size 43 8 Tryz.underlying22 Tryz.infoU64 _ k D rfl (Own.alloc HO.out _) wr.heap.size 0 1 1 (fun _ => cc) rfl (rd_new1 wr _ _) ?c1 ?c2 ?c3 ?_)
        case c1 => unfold maxLen; omega
        case c2 => omega
        case c3 => have := hbel.size; simp; omega
        intro v' w' hown hgr
        have hbel2 : Below w.heap.size w w' := (hbel.alloc hbel.size _).grown hgr (by have := hbel.size; simp; omega) (fun k h => (Own.ge HO.out k h))
        obtain ⟨ao', cap', hv, hcc, hnn, hml, hrd, hlt3⟩ := Own.shape hown
        unfold maxLen at hml
        subst hv
        have HLT := hid hlt3
        clear hown hgr HO hlt3
        go_wp2_with fail
        refine (low_c ao' (k + 1) cap' (cat D k (fun _ => cc)) w' hcc hml hrd hnn).mono ?_
        rintro e w2 ⟨rfl, m', hm1, hz, hfm, rfl⟩
        have HZ := hid hz
        have HFM := hid hfm
        clear hz hfm
        go_wp2
        go_ret
        refine ⟨ao', m', cap', _, rfl, hbel2, hrd.take hm1, by omega, (dg_cat1 HDg.out (by omega)).mono hm1, HFM.out, fun a ha => (HLT.out a ha).1, ?_⟩
        rw [trim_vald hm1 HZ.out, vd_cat1, HV.out, vd_ext_list _ _ _ (by omega)]

/-- The same, without the place. -/
theorem radd_c (ao bo : Option Addr) (n m ca cb : Nat) (f h : Nat → Int) (w : World) (hn : n ≤ 1048576) (hm : m ≤ 1048576) (hr : Rd .u64 w ao n f) (hs : Rd .u64 w bo m h) (hf : Dg f n) (hh : Dg h m) :
    Calls Tryz.prog 112 #[.slice ao n ca, .slice bo m cb] w fun e w' => ∃ ao' k cap' D, e = .returned (.slice ao' k cap') ∧ Below w.heap.size w w' ∧ Rd .u64 w' ao' k D ∧ k ≤ n + m + 1 ∧ Dg D k ∧ Fm D k ∧ vd D k = vd f n + vd h m :=
  (raddO_c ao bo n m ca cb f h w hn hm hr hs hf hh).mono (fun _ _ ⟨a, k, c, D, h1, h2, h3, h4, h5, h6, _, h7⟩ => ⟨a, k, c, D, h1, h2, h3, h4, h5, h6, h7⟩)

end Go.Proofs.YtbmdhfpgkemilaaGreatDoor
namespace Go.Proofs.YtbmdhfpgkemilaaGreatDoor
open Go.RowKit

set_option maxRecDepth 100000 in
set_option maxHeartbeats 2000000 in
/-- Sub: the difference, on digits. -/
theorem rsubO_c (ao bo : Option Addr) (n m ca cb : Nat) (f h : Nat → Int) (w : World) (hn : n ≤ 1048576) (hm : m ≤ 1048576) (hmn : m ≤ n) (hr : Rd .u64 w ao n f) (hs : Rd .u64 w bo m h) (hf : Dg f n) (hh : Dg h m) (hle : vd h m ≤ vd f n) :
    Calls Tryz.prog 116 #[.slice ao n ca, .slice bo m cb] w fun e w' => ∃ ao' k cap' D, e = .returned (.slice ao' k cap') ∧ Below w.heap.size w w' ∧ Rd .u64 w' ao' k D ∧ k ≤ n ∧ Dg D k ∧ Fm D k ∧ (∀ a, ao' = some a → w.heap.size ≤ a.block) ∧ vd D k = vd f n - vd h m := by
  obtain ⟨i0, hi, hz0, hz1, hz2⟩ := info_parts Tryz.infoU64
  have RA := hid hr
  have RB := hid hs
  have DA := hid hf
  have DB := hid hh
  have HLe := hid hle
  clear hr hs hf hh hle
  go_enter Tryz.func116, Tryz.ntmps116
  go_wp2_with (at_make; refine wpList_make_own w rfl (.const (.int .i64 0)) (.tmp 11) 22 rfl w.heap.size 43 i0 (.int .u64 0) 1 Tryz.underlying22 hi hz0 hz1 .i64 .i64 n n rfl rfl (by omega) (by rw [hz2]; omega) (by unfold maxLen; omega) (Nat.le_refl _) ?_; intro w1 hown1 hgr1)
  have hb1 : Below w.heap.size w w1 := (Below.refl _ _).grown hgr1 (Nat.le_refl _) (fun k h => by cases h)
  have HO1 := hid (show Own .u64 43 w1 w.heap.size (.slice (some ⟨w.heap.size, 0, none⟩) 0 n) 0 (fun _ => 0) from hown1)
  clear hown1 hgr1
  go_loopw [5, 6, 15] (fun v c t wr => ∃ (k : Nat) (cc : Int) (D : Nat → Int), k ≤ n ∧ t = .int .i64 k ∧ c = .int .u64 cc ∧ 0 ≤ cc ∧ cc ≤ 1 ∧ Below w.heap.size w wr ∧ Hid (Own .u64 43 wr w.heap.size v k D) ∧ Hid (Dg D k) ∧ Hid (vd D k - cc * pd k = vd f k - vd (ext h m) k)) (fun _ _ t _ => n - (intOf t).toNat)
  case atStart => exact ⟨0, 0, fun _ => 0, by omega, rfl, rfl, by omega, by omega, hb1, HO1.out, fun j hj => by omega, by simp [Hid, vd, pd]⟩
  case round =>
    clear hb1 HO1
    obtain ⟨k, cc, D, hk, rfl, rfl, c0, c1, hbel, HO, HDg, HV⟩ := hrel
    by_cases hlt : k < n
    · have hrA := RA.out
      obtain ⟨b, o, rfl⟩ := hrA.at (by omega)
      obtain ⟨x, hx⟩ : ∃ x, f k = x := ⟨_, rfl⟩
      have hcell : wr.cell? ⟨b, o + k, none⟩ = some (.int .u64 x) := by rw [← hx]; exact (hrA.below hbel (Nat.le_refl _)).cell hlt
      obtain ⟨x0, x1⟩ := DA.out k hlt
      rw [hx] at x0 x1
      have HX := hid hx
      clear hx hrA
      by_cases hlt2 : k < m
      · have hrB := RB.out
        obtain ⟨b', o', rfl⟩ := hrB.at (by omega)
        obtain ⟨y, hy⟩ : ∃ y, h k = y := ⟨_, rfl⟩
        have hcelb : wr.cell? ⟨b', o' + k, none⟩ = some (.int .u64 y) := by rw [← hy]; exact (hrB.below hbel (Nat.le_refl _)).cell hlt2
        obtain ⟨y0, y1⟩ := DB.out k hlt2
        rw [hy] at y0 y1
        have HY := hid (show ext h m k = y from (ext_in _ _ _ hlt2).trans hy)
        clear hy hrB
        by_cases hxy : x < cc + y
        · go_wp2_with (at_builtin; refine wpList_append_own_list .u64 _ rfl (.tmp 36) (.tmp 40) 22 rfl w.heap.size 43 8 Tryz.underlying22 Tryz.infoU64 _ k D rfl (Own.alloc HO.out _) wr.heap.size 0 1 1 (fun _ => x + 4294967296 - (cc + y)) rfl (rd_new1 wr _ _) ?c1 ?c2 ?c3 ?_)
          case c1 => unfold maxLen; omega
          case c2 => omega
          case c3 => have := hbel.size; simp; omega
          intro v' w' hown hgr
          have hbel2 : Below w.heap.size w w' := (hbel.alloc hbel.size _).grown hgr (by have := hbel.size; simp; omega) (fun k h => (Own.ge HO.out k h))
          have HO2 := hid hown
          clear hown hgr HO
          go_wp2
          go_roundw
          case rel => exact ⟨k + 1, 1, _, by omega, by go_num, rfl, by omega, by omega, hbel2, HO2.out, dg_cat1 HDg.out (by omega), dborrow_step HV.out HX.out HY.out (by omega)⟩
          case measure => simp [intOf]; omega
        · go_wp2_with (at_builtin; refine wpList_append_own_list .u64 _ rfl (.tmp 36) (.tmp 40) 22 rfl w.heap.size 43 8 Tryz.underlying22 Tryz.infoU64 _ k D rfl (Own.alloc HO.out _) wr.heap.size 0 1 1 (fun _ => x - (cc + y)) rfl (rd_new1 wr _ _) ?c1 ?c2 ?c3 ?_)
          case c1 => unfold maxLen; omega
          case c2 => omega
          case c3 => have := hbel.size; simp; omega
          intro v' w' hown hgr
          have hbel2 : Below w.heap.size w w' := (hbel.alloc hbel.size _).grown hgr (by have := hbel.size; simp; omega) (fun k h => (Own.ge HO.out k h))
          have HO2 := hid hown
          clear hown hgr HO
          go_wp2
          go_roundw
          case rel => exact ⟨k + 1, 0, _, by omega, by go_num, rfl, by omega, by omega, hbel2, HO2.out, dg_cat1 HDg.out (by omega), dborrow_step HV.out HX.out HY.out (by omega)⟩
          case measure => simp [intOf]; omega
      · have HY := hid (show ext h m k = 0 from ext_out _ _ _ (by omega))
        by_cases hxy : x < cc
        · go_wp2_with (at_builtin; refine wpList_append_own_list .u64 _ rfl (.tmp 36) (.tmp 40) 22 rfl w.heap.size 43 8 Tryz.underlying22 Tryz.infoU64 _ k D rfl (Own.alloc HO.out _) wr.heap.size 0 1 1 (fun _ => x + 4294967296 - cc) rfl (rd_new1 wr _ _) ?c1 ?c2 ?c3 ?_)
          case c1 => unfold maxLen; omega
          case c2 => omega
          case c3 => have := hbel.size; simp; omega
          intro v' w' hown hgr
          have hbel2 : Below w.heap.size w w' := (hbel.alloc hbel.size _).grown hgr (by have := hbel.size; simp; omega) (fun k h => (Own.ge HO.out k h))
          have HO2 := hid hown
          clear hown hgr HO
          go_wp2
          go_roundw
          case rel => exact ⟨k + 1, 1, _, by omega, by go_num, rfl, by omega, by omega, hbel2, HO2.out, dg_cat1 HDg.out (by omega), dborrow_step HV.out HX.out HY.out (by omega)⟩
          case measure => simp [intOf]; omega
        · go_wp2_with (at_builtin; refine wpList_append_own_list .u64 _ rfl (.tmp 36) (.tmp 40) 22 rfl w.heap.size 43 8 Tryz.underlying22 Tryz.infoU64 _ k D rfl (Own.alloc HO.out _) wr.heap.size 0 1 1 (fun _ => x - cc) rfl (rd_new1 wr _ _) ?c1 ?c2 ?c3 ?_)
          case c1 => unfold maxLen; omega
          case c2 => omega
          case c3 => have := hbel.size; simp; omega
          intro v' w' hown hgr
          have hbel2 : Below w.heap.size w w' := (hbel.alloc hbel.size _).grown hgr (by have := hbel.size; simp; omega) (fun k h => (Own.ge HO.out k h))
          have HO2 := hid hown
          clear hown hgr HO
          go_wp2
          go_roundw
          case rel => exact ⟨k + 1, 0, _, by omega, by go_num, rfl, by omega, by omega, hbel2, HO2.out, dg_cat1 HDg.out (by omega), dborrow_step HV.out HX.out HY.out (by omega)⟩
          case measure => simp [intOf]; omega
    · have hkn : k = n := by omega
      subst hkn
      obtain ⟨ao', cap', hv, hcc, hnn, hml, hrd, hlt3⟩ := HO.out.shape
      unfold maxLen at hml
      subst hv
      have HLT := hid hlt3
      clear HO hlt3
      go_wp2_with fail
      refine (low_c ao' k cap' D wr hcc hml hrd hnn).mono ?_
      rintro e w2 ⟨rfl, m', hm1, hz, hfm, rfl⟩
      have HZ := hid hz
      have HFM := hid hfm
      clear hz hfm
      go_wp2
      go_ret
      refine ⟨ao', m', cap', _, rfl, hbel, hrd.take hm1, by omega, HDg.out.mono hm1, HFM.out, fun a ha => (HLT.out a ha).1, ?_⟩
      have hv := HV.out
      have h1 := vd_lt HDg.out
      have h2 := HLe.out
      rw [vd_ext_list _ _ _ hmn] at hv
      rw [trim_vald hm1 HZ.out]
      by_cases hc : cc = 0
      · subst hc; simpa using hv
      · obtain rfl : cc = 1 := by omega
        omega

/-- The same, without the place. -/
theorem rsub_c (ao bo : Option Addr) (n m ca cb : Nat) (f h : Nat → Int) (w : World) (hn : n ≤ 1048576) (hm : m ≤ 1048576) (hmn : m ≤ n) (hr : Rd .u64 w ao n f) (hs : Rd .u64 w bo m h) (hf : Dg f n) (hh : Dg h m) (hle : vd h m ≤ vd f n) :
    Calls Tryz.prog 116 #[.slice ao n ca, .slice bo m cb] w fun e w' => ∃ ao' k cap' D, e = .returned (.slice ao' k cap') ∧ Below w.heap.size w w' ∧ Rd .u64 w' ao' k D ∧ k ≤ n ∧ Dg D k ∧ Fm D k ∧ vd D k = vd f n - vd h m :=
  (rsubO_c ao bo n m ca cb f h w hn hm hmn hr hs hf hh hle).mono (fun _ _ ⟨a, k, c, D, h1, h2, h3, h4, h5, h6, _, h7⟩ => ⟨a, k, c, D, h1, h2, h3, h4, h5, h6, h7⟩)

set_option maxHeartbeats 800000 in
theorem two_c (ao bo : Option Addr) (n m ca cb : Nat) (f h : Nat → Int) (w : World) (hn : n ≤ 8796093022208) (hm : m ≤ 8796093022208) (hr : Rd .u64 w ao n f) (hs : Rd .u64 w bo m h) :
    Calls Tryz.prog 48 #[.slice ao n ca, .slice bo m cb] w fun e w' => e = .returned (.int .i64 (if fmB f n && fmB h m then 0 else 3)) ∧ w' = w := by
  cases hfa : fmB f n
  · have c1 := rform_c ao n ca f w (by omega) hr
    rw [hfa] at c1
    have C1 := hid c1
    clear c1 hfa
    go_enter Tryz.func48, Tryz.ntmps48
    go_wp2_with (go_at_call 94; refine C1.out.mono ?_; rintro e w' ⟨rfl, rfl⟩)
    go_ret
    exact ⟨rfl, rfl⟩
  · have c1 := rform_c ao n ca f w (by omega) hr
    rw [hfa] at c1
    have C1 := hid c1
    clear c1 hfa
    cases hfb : fmB h m
    all_goals
      have c2 := rform_c bo m cb h w (by omega) hs
      rw [hfb] at c2
      have C2 := hid c2
      clear c2 hfb
      go_enter Tryz.func48, Tryz.ntmps48
      go_wp2_with fail
      refine C1.out.mono ?_
      rintro e w' ⟨rfl, rfl⟩
      go_wp2_with fail
      refine C2.out.mono ?_
      rintro e w' ⟨rfl, rfl⟩
      go_wp2
      go_ret
      exact ⟨rfl, rfl⟩
end Go.Proofs.YtbmdhfpgkemilaaGreatDoor
namespace Go.Proofs.YtbmdhfpgkemilaaGreatDoor
open Go.RowKit

/-- A number that the reference answers: it can be read; in form. -/
structure Ans (C : Nat) (w w' : World) (ao : Option Addr) (n : Nat) (f : Nat → Int) : Prop where
  bel : Below w.heap.size w w'
  rd : Rd .u64 w' ao n f
  le : n ≤ C
  lm : Lm f n
  fm : Fm f n

theorem and_fm {f h : Nat → Int} {n m : Nat} (e : (fmB f n && fmB h m) = true) : Fm f n ∧ Fm h m := by
  simp only [Bool.and_eq_true] at e
  exact ⟨fm_of e.1, fm_of e.2⟩
theorem nand_fm {f h : Nat → Int} {n m : Nat} (e : (fmB f n && fmB h m) = false) : ¬ (Fm f n ∧ Fm h m) := fun ⟨a, b⟩ => by
  rw [(fmB_iff f n).2 a, (fmB_iff h m).2 b] at e
  cases e

end Go.Proofs.YtbmdhfpgkemilaaGreatDoor
namespace Go.Proofs.YtbmdhfpgkemilaaGreatDoor
open Go.RowKit

theorem add_agree {F H : Prop} {e1 e2 s : Int} {k1 k2 : Nat} {g1 g2 : Nat → Int} (h1 : F ∧ H ∧ e1 = 0 ∧ vf g1 k1 = s ∨ ¬ (F ∧ H) ∧ e1 = 3 ∧ k1 = 0) (h2 : F ∧ H ∧ e2 = 0 ∧ vf g2 k2 = s ∨ ¬ (F ∧ H) ∧ e2 = 3 ∧ k2 = 0) : e2 = e1 ∧ vf g1 k1 = vf g2 k2 := by
  rcases h1 with ⟨a, b, rfl, c⟩ | ⟨a, rfl, rfl⟩ <;> rcases h2 with ⟨a', b', rfl, c'⟩ | ⟨a', rfl, rfl⟩
  · exact ⟨rfl, c.trans c'.symm⟩
  · exact absurd ⟨a, b⟩ a'
  · exact absurd ⟨a', b'⟩ a
  · exact ⟨rfl, rfl⟩
theorem sub_agree {F H L1 L2 : Prop} {e1 e2 s : Int} {k1 k2 : Nat} {g1 g2 : Nat → Int} (hx : L1 → ¬ L2) (h1 : F ∧ H ∧ L1 ∧ e1 = 0 ∧ vf g1 k1 = s ∨ F ∧ H ∧ L2 ∧ e1 = 1 ∧ k1 = 0 ∨ ¬ (F ∧ H) ∧ e1 = 3 ∧ k1 = 0) (h2 : F ∧ H ∧ L1 ∧ e2 = 0 ∧ vf g2 k2 = s ∨ F ∧ H ∧ L2 ∧ e2 = 1 ∧ k2 = 0 ∨ ¬ (F ∧ H) ∧ e2 = 3 ∧ k2 = 0) : e2 = e1 ∧ vf g1 k1 = vf g2 k2 := by
  rcases h1 with ⟨a, b, l, rfl, c⟩ | ⟨a, b, l, rfl, rfl⟩ | ⟨a, rfl, rfl⟩ <;> rcases h2 with ⟨a', b', l', rfl, c'⟩ | ⟨a', b', l', rfl, rfl⟩ | ⟨a', rfl, rfl⟩
  · exact ⟨rfl, c.trans c'.symm⟩
  · exact absurd l' (hx l)
  · exact absurd ⟨a, b⟩ a'
  · exact absurd l (hx l')
  · exact ⟨rfl, rfl⟩
  · exact absurd ⟨a, b⟩ a'
  · exact absurd ⟨a', b'⟩ a
  · exact absurd ⟨a', b'⟩ a
  · exact ⟨rfl, rfl⟩
theorem ord_inj {c d a b : Int} (h1 : Ord c a b) (h2 : Ord d a b) : c = d := by unfold Ord at h1 h2; omega
theorem cmp_agree {F H : Prop} {e1 e2 c1 c2 a b : Int} (h1 : F ∧ H ∧ e1 = 0 ∧ Ord c1 a b ∨ ¬ (F ∧ H) ∧ e1 = 3 ∧ c1 = 0) (h2 : F ∧ H ∧ e2 = 0 ∧ Ord c2 a b ∨ ¬ (F ∧ H) ∧ e2 = 3 ∧ c2 = 0) : e2 = e1 ∧ c2 = c1 := by
  rcases h1 with ⟨a, b, rfl, c⟩ | ⟨a, rfl, rfl⟩ <;> rcases h2 with ⟨a', b', rfl, c'⟩ | ⟨a', rfl, rfl⟩
  · exact ⟨rfl, ord_inj c' c⟩
  · exact absurd ⟨a, b⟩ a'
  · exact absurd ⟨a', b'⟩ a
  · exact ⟨rfl, rfl⟩

end Go.Proofs.YtbmdhfpgkemilaaGreatDoor
namespace Go.Proofs.YtbmdhfpgkemilaaGreatDoor
open Go.RowKit

/-- The two numbers that steps lead to. -/
def stU (odd : Bool) (a0 b0 A B : Int) : Int := if odd then b0 * B - a0 * A else a0 * A - b0 * B
def stV (odd : Bool) (a1 b1 A B : Int) : Int := if odd then a1 * A - b1 * B else b1 * B - a1 * A
/-- The same common divisors. -/
def Cd (u v A B : Int) : Prop := ∀ d : Int, (d ∣ u ∧ d ∣ v) ↔ (d ∣ A ∧ d ∣ B)
theorem Cd.refl (A B : Int) : Cd A B A B := fun _ => Iff.rfl
theorem Cd.step {u v A B : Int} (h : Cd u v A B) (q : Int) : Cd v (u - q * v) A B := fun d => by
  rw [← h d]
  constructor
  · rintro ⟨h1, h2⟩
    refine ⟨?_, h1⟩
    have := Int.dvd_add h2 (Int.dvd_mul_of_dvd_right (b := q) h1)
    rwa [Int.sub_add_cancel] at this
  · rintro ⟨h1, h2⟩
    exact ⟨h2, Int.dvd_sub h1 (Int.dvd_mul_of_dvd_right (b := q) h2)⟩
theorem Cd.trans {u v A B C D : Int} (h : Cd u v A B) (k : Cd A B C D) : Cd u v C D := fun d => (h d).trans (k d)
theorem Cd.swap {u v A B : Int} (h : Cd u v A B) : Cd v u A B := fun d => by rw [← h d]; exact And.comm

/-- What some steps lead to, for all numbers that begin with the bits x and y. -/
def Led (odd : Bool) (a0 b0 a1 b1 x y : Int) : Prop := ∀ T ra rb : Int, 0 ≤ ra → ra < T → 0 ≤ rb → rb < T →
  0 ≤ stV odd a1 b1 (x * T + ra) (y * T + rb) ∧ stV odd a1 b1 (x * T + ra) (y * T + rb) < stU odd a0 b0 (x * T + ra) (y * T + rb) ∧ stU odd a0 b0 (x * T + ra) (y * T + rb) ≤ y * T + rb ∧ Cd (stU odd a0 b0 (x * T + ra) (y * T + rb)) (stV odd a1 b1 (x * T + ra) (y * T + rb)) (x * T + ra) (y * T + rb)

/-- The state of the search. -/
structure Lh (odd : Bool) (a b a0 b0 a1 b1 x y : Int) : Prop where
  a_0 : 0 ≤ a
  b_0 : 0 ≤ b
  ua : a = stU odd a0 b0 x y
  ub : b = stV odd a1 b1 x y
  top : x = b1 * a + b0 * b
  p0 : 0 ≤ a0
  p1 : 0 ≤ b0
  p2 : 0 ≤ a1
  p3 : 1 ≤ b1
  st : (odd = false ∧ a0 = 1 ∧ b0 = 0 ∧ a1 = 0 ∧ b1 = 1) ∨ (a0 ≤ b0 ∧ a1 ≤ b1 ∧ 1 ≤ b0 ∧ b1 ≤ b ∧ b < a ∧ Led odd a0 b0 a1 b1 x y)

theorem lh_start {x y : Int} (hx : 0 ≤ x) (hy : 0 ≤ y) : Lh false x y 1 0 0 1 x y :=
  ⟨hx, hy, by simp [stU], by simp [stV], by omega, by omega, by omega, by omega, by omega, .inl ⟨rfl, rfl, rfl, rfl, rfl⟩⟩

theorem stU_next {odd : Bool} {a1 b1 A B : Int} : stU (!odd) a1 b1 A B = stV odd a1 b1 A B := by cases odd <;> simp [stU, stV]
theorem stV_next {odd : Bool} {a0 b0 a1 b1 q A B : Int} : stV (!odd) (a0 + q * a1) (b0 + q * b1) A B = stU odd a0 b0 A B - q * stV odd a1 b1 A B := by
  cases odd <;> simp only [stU, stV, Bool.not_false, Bool.not_true, if_true, if_false, Bool.false_eq_true] <;> grind

/-- A number is near its highest bits. -/
theorem stV_low {odd : Bool} {a1 b1 x y T ra rb : Int} (h0 : 0 ≤ a1) (h1 : a1 ≤ b1) (r0 : 0 ≤ ra) (r1 : ra < T) (s0 : 0 ≤ rb) (s1 : rb < T) :
    stV odd a1 b1 x y * T - b1 * (T - 1) ≤ stV odd a1 b1 (x * T + ra) (y * T + rb) ∧ stV odd a1 b1 (x * T + ra) (y * T + rb) ≤ stV odd a1 b1 x y * T + b1 * (T - 1) := by
  have m1 : 0 ≤ a1 * ra := Int.mul_nonneg h0 r0
  have m2 : 0 ≤ b1 * rb := Int.mul_nonneg (by omega) s0
  have m3 : a1 * ra ≤ b1 * ra := Int.mul_le_mul_of_nonneg_right h1 r0
  have m4 : b1 * ra ≤ b1 * (T - 1) := Int.mul_le_mul_of_nonneg_left (by omega) (by omega)
  have m5 : b1 * rb ≤ b1 * (T - 1) := Int.mul_le_mul_of_nonneg_left (by omega) (by omega)
  cases odd
  · have e : stV false a1 b1 (x * T + ra) (y * T + rb) = stV false a1 b1 x y * T + b1 * rb - a1 * ra := by simp only [stV, Bool.false_eq_true, if_false]; grind
    rw [e]; omega
  · have e : stV true a1 b1 (x * T + ra) (y * T + rb) = stV true a1 b1 x y * T + a1 * ra - b1 * rb := by simp only [stV, if_true]; grind
    rw [e]; omega

/-- One step, where Collins' condition holds. -/
theorem lh_step {odd : Bool} {a b a0 b0 a1 b1 x y : Int} (h : Lh odd a b a0 b0 a1 b1 x y) (hxy : y ≤ x) (hb : 0 < b) (c1 : b0 + a / b * b1 ≤ a - a / b * b) (c2 : b1 + (b0 + a / b * b1) ≤ b - (a - a / b * b)) :
    Lh (!odd) b (a - a / b * b) a1 b1 (a0 + a / b * a1) (b0 + a / b * b1) x y := by
  obtain ⟨q, hq⟩ : ∃ q, a / b = q := ⟨_, rfl⟩
  rw [hq] at c1 c2 ⊢
  have hq0 : 0 ≤ q := by rw [← hq]; exact Int.ediv_nonneg h.a_0 h.b_0
  have hr0 : 0 ≤ a - q * b := by
    have := Int.emod_nonneg a (show b ≠ 0 by omega); have e := Int.mul_ediv_add_emod a b
    rw [hq, Int.mul_comm] at e; omega
  have hb1 : 0 ≤ q * b1 := Int.mul_nonneg hq0 (by have := h.p3; omega)
  have ha1 : 0 ≤ q * a1 := Int.mul_nonneg hq0 h.p2
  have p0 := h.p0; have p1 := h.p1; have p2 := h.p2; have p3 := h.p3
  have hua := h.ua; have hub := h.ub; have htop := h.top
  -- the quotient is not 0 at the first step
  have hmono : a0 + q * a1 ≤ b0 + q * b1 ∧ a1 ≤ b1 := by
    rcases h.st with ⟨rfl, rfl, rfl, rfl, rfl⟩ | ⟨s1, s2, _, _, _, _⟩
    · have ea : a = x := by rw [hua]; simp [stU]
      have eb : b = y := by rw [hub]; simp [stV]
      have : 1 ≤ q := by rw [← hq]; exact (Int.le_ediv_iff_mul_le hb).2 (by omega)
      omega
    · have : q * a1 ≤ q * b1 := Int.mul_le_mul_of_nonneg_left s2 hq0
      omega
  have hb1' : 1 ≤ b0 + q * b1 := by
    rcases h.st with ⟨rfl, rfl, rfl, rfl, rfl⟩ | ⟨s1, s2, s3, _, _, _⟩
    · omega
    · omega
  refine ⟨h.b_0, hr0, ?_, ?_, ?_, p2, by omega, by omega, hb1', .inr ⟨hmono.2, hmono.1, p3, c1, by omega, ?_⟩⟩
  · rw [stU_next]; exact hub
  · rw [stV_next, ← hua, ← hub]
  · rw [htop]; grind
  · intro T ra rb r0 r1 s0 s1
    have hV : stV (!odd) (a0 + q * a1) (b0 + q * b1) x y = a - q * b := by rw [stV_next, ← hua, ← hub]
    have lo := stV_low (odd := !odd) (x := x) (y := y) (by omega) hmono.1 r0 r1 s0 s1
    have lo2 := stV_low (odd := odd) (x := x) (y := y) p2 hmono.2 r0 r1 s0 s1
    rw [hV] at lo
    rw [← hub] at lo2
    have hT : 1 ≤ T := by omega
    have k1 : (b0 + q * b1) * T ≤ (a - q * b) * T := Int.mul_le_mul_of_nonneg_right c1 (by omega)
    have k2 : (b1 + (b0 + q * b1)) * T ≤ (b - (a - q * b)) * T := Int.mul_le_mul_of_nonneg_right c2 (by omega)
    have x1 : (b0 + q * b1) * (T - 1) = (b0 + q * b1) * T - (b0 + q * b1) := by rw [Int.mul_sub, Int.mul_one]
    have x2 : b1 * (T - 1) = b1 * T - b1 := by rw [Int.mul_sub, Int.mul_one]
    have x3 : (b1 + (b0 + q * b1)) * T = b1 * T + (b0 + q * b1) * T := by rw [Int.add_mul]
    have x4 : (b - (a - q * b)) * T = b * T - (a - q * b) * T := by rw [Int.sub_mul]
    rw [stU_next]
    refine ⟨by omega, by omega, ?_, ?_⟩
    · rcases h.st with ⟨rfl, rfl, rfl, rfl, rfl⟩ | ⟨_, _, _, _, _, hl⟩
      · simp [stV]
      · obtain ⟨_, l2, l3, _⟩ := hl T ra rb r0 r1 s0 s1
        omega
    · rw [stV_next]
      refine Cd.step ?_ q
      rcases h.st with ⟨rfl, rfl, rfl, rfl, rfl⟩ | ⟨_, _, _, _, _, hl⟩
      · simp only [stU, stV, Bool.false_eq_true, if_false]
        have e1 : 1 * (x * T + ra) - 0 * (y * T + rb) = x * T + ra := by omega
        have e2 : 1 * (y * T + rb) - 0 * (x * T + ra) = y * T + rb := by omega
        rw [e1, e2]; exact Cd.refl _ _
      · exact (hl T ra rb r0 r1 s0 s1).2.2.2
/-- The new factors are at most x. -/
theorem lh_room {odd : Bool} {a b a0 b0 a1 b1 x y : Int} (h : Lh odd a b a0 b0 a1 b1 x y) (hxy : y ≤ x) (hb : 0 < b) : b0 + a / b * b1 ≤ x ∧ a0 + a / b * a1 ≤ x ∧ 0 ≤ a / b * a1 ∧ 0 ≤ a / b * b1 ∧ (0 < a - a / b * b → b1 + (b0 + a / b * b1) ≤ x) ∧ 1 ≤ b0 + a / b * b1 := by
  obtain ⟨q, hq⟩ : ∃ q, a / b = q := ⟨_, rfl⟩
  rw [hq]
  have hq0 : 0 ≤ q := by rw [← hq]; exact Int.ediv_nonneg h.a_0 h.b_0
  have hr0 : 0 ≤ a - q * b := by
    have := Int.emod_nonneg a (show b ≠ 0 by omega); have e := Int.mul_ediv_add_emod a b
    rw [hq, Int.mul_comm] at e; omega
  have p0 := h.p0; have p1 := h.p1; have p2 := h.p2; have p3 := h.p3
  have hb1 : 0 ≤ q * b1 := Int.mul_nonneg hq0 (by omega)
  have ha1 : 0 ≤ q * a1 := Int.mul_nonneg hq0 h.p2
  have e : x = (b0 + q * b1) * b + b1 * (a - q * b) := by rw [h.top]; grind
  have f1 : (b0 + q * b1) * 1 ≤ (b0 + q * b1) * b := Int.mul_le_mul_of_nonneg_left (by omega) (by omega)
  have f2 : 0 ≤ b1 * (a - q * b) := Int.mul_nonneg (by omega) hr0
  refine ⟨by omega, ?_, ha1, hb1, fun hp => ?_, ?_⟩
  · rcases h.st with ⟨rfl, rfl, rfl, rfl, rfl⟩ | ⟨s1, s2, _, _, _, _⟩
    · have eb : b = y := by rw [h.ub]; simp [stV]
      omega
    · have : q * a1 ≤ q * b1 := Int.mul_le_mul_of_nonneg_left s2 hq0
      omega
  · have f3 : b1 * 1 ≤ b1 * (a - q * b) := Int.mul_le_mul_of_nonneg_left (by omega) (by omega)
    omega
  · rcases h.st with ⟨rfl, rfl, rfl, rfl, rfl⟩ | ⟨s1, s2, s3, _, _, _⟩
    · have ea : a = x := by rw [h.ua]; simp [stU]
      have eb : b = y := by rw [h.ub]; simp [stV]
      have : 1 ≤ q := by rw [← hq]; exact (Int.le_ediv_iff_mul_le hb).2 (by omega)
      omega
    · omega
/-- Some steps: their factors have room, and what they lead to. -/
theorem lh_some {odd : Bool} {a b a0 b0 a1 b1 x y : Int} (h : Lh odd a b a0 b0 a1 b1 x y) (hb0 : b0 ≠ 0) : Led odd a0 b0 a1 b1 x y ∧ a0 + 2 ≤ x ∧ b0 + 2 ≤ x ∧ a1 + 2 ≤ x ∧ b1 + 2 ≤ x := by
  rcases h.st with ⟨_, _, h0, _⟩ | ⟨s1, s2, s3, s4, s5, hl⟩
  · exact absurd h0 hb0
  · have p3 := h.p3; have p1 := h.p1
    have e := h.top
    have m1 : b1 * 2 ≤ b1 * a := Int.mul_le_mul_of_nonneg_left (by omega) (by omega)
    have m2 : b0 * 1 ≤ b0 * b := Int.mul_le_mul_of_nonneg_left (by omega) (by omega)
    exact ⟨hl, by omega, by omega, by omega, by omega⟩
theorem lh_none {odd : Bool} {a b a0 b0 a1 b1 x y : Int} (h : Lh odd a b a0 b0 a1 b1 x y) : 0 ≤ a0 ∧ 0 ≤ b0 ∧ 0 ≤ a1 ∧ 0 ≤ b1 := ⟨h.p0, h.p1, h.p2, by have := h.p3; omega⟩
end Go.Proofs.YtbmdhfpgkemilaaGreatDoor
namespace Go.Proofs.YtbmdhfpgkemilaaGreatDoor
open Go.RowKit

/-- Block g holds the five fields of steps. -/
def SB (w : World) (g : Nat) (a0 b0 a1 b1 : Int) (odd : Bool) : Prop := w.heap[g]? = some (.cells #[.int .u64 a0, .int .u64 b0, .int .u64 a1, .int .u64 b1, .bool odd] 166 (0, 0))
theorem SB.cells {w g a0 b0 a1 b1 odd} (h : SB w g a0 b0 a1 b1 odd) : w.cell? ⟨g, 0, none⟩ = some (.int .u64 a0) ∧ w.cell? ⟨g, 1, none⟩ = some (.int .u64 b0) ∧ w.cell? ⟨g, 2, none⟩ = some (.int .u64 a1) ∧ w.cell? ⟨g, 3, none⟩ = some (.int .u64 b1) ∧ w.cell? ⟨g, 4, none⟩ = some (.bool odd) := by
  unfold SB at h
  simp [World.cell?, h]
theorem SB.frozen {w g a0 b0 a1 b1 odd} (h : SB w g a0 b0 a1 b1 odd) (j : Nat) : w.frozen? ⟨g, j, none⟩ = false := by
  unfold SB at h
  simp [World.frozen?, h]
theorem SB.lt {w g a0 b0 a1 b1 odd} (h : SB w g a0 b0 a1 b1 odd) : g < w.heap.size := (Array.getElem?_eq_some_iff.1 h).1
theorem SB.below {w w' g a0 b0 a1 b1 odd} (h : SB w g a0 b0 a1 b1 odd) (hb : Below w.heap.size w w') : SB w' g a0 b0 a1 b1 odd := (hb.block g h.lt).trans h

theorem SB.set5 {w g a0 b0 a1 b1 odd} (h : SB w g a0 b0 a1 b1 odd) (c0 d0 c1 d1 : Int) (o : Bool) : SB (((((w.setCell ⟨g, 0, none⟩ (.int .u64 c0)).setCell ⟨g, 1, none⟩ (.int .u64 d0)).setCell ⟨g, 2, none⟩ (.int .u64 c1)).setCell ⟨g, 3, none⟩ (.int .u64 d1)).setCell ⟨g, 4, none⟩ (.bool o)) g c0 d0 c1 d1 o := by
  unfold SB at h ⊢
  simp [World.setCell, Array.getElem?_modify, h]
theorem only_set5 (w : World) (g : Nat) (u0 u1 u2 u3 u4 : Value) : Only g w (((((w.setCell ⟨g, 0, none⟩ u0).setCell ⟨g, 1, none⟩ u1).setCell ⟨g, 2, none⟩ u2).setCell ⟨g, 3, none⟩ u3).setCell ⟨g, 4, none⟩ u4) :=
  (((((Only.refl _ _).setCell _ _ _).setCell _ _ _).setCell _ _ _).setCell _ _ _).setCell _ _ _
/-- What findSteps answers. -/
def FsAns (w w' : World) (e : Ending) (x y : Int) : Prop := Below w.heap.size w w' ∧ ∃ a0 b0 a1 b1 odd a b, e = .returned (.agg #[.int .u64 a0, .int .u64 b0, .int .u64 a1, .int .u64 b1, .bool odd]) ∧ Lh odd a b a0 b0 a1 b1 x y ∧ b0 ≤ x ∧ a0 ≤ x ∧ a1 ≤ x ∧ b1 ≤ x

set_option maxRecDepth 100000 in
set_option maxHeartbeats 4000000 in
theorem findSteps_c (x y : Int) (w : World) (y0 : 0 ≤ y) (hyx : y ≤ x) (x0 : 1 ≤ x) (x1 : x < 18446744073709551616) :
    Calls Tryz.prog 179 #[.int .u64 x, .int .u64 y] w fun e w' => FsAns w w' e x y := by
  go_enter Tryz.func179, Tryz.ntmps179
  go_wp2
  go_loopw [0, 1] (fun c d wr => ∃ (a b a0 b0 a1 b1 : Int) (odd : Bool), c = .int .u64 a ∧ d = .int .u64 b ∧ 0 ≤ a ∧ a ≤ x ∧ 0 ≤ b ∧ b ≤ x ∧ Below w.heap.size w wr ∧ Hid (SB wr w.heap.size 0 0 0 0 false) ∧ Hid (SB wr (w.heap.size + 1) a0 b0 a1 b1 odd) ∧ Hid (Lh odd a b a0 b0 a1 b1 x y) ∧ Hid (b0 ≤ x ∧ a0 ≤ x ∧ a1 ≤ x ∧ b1 ≤ x)) (fun _ d _ => (intOf d).toNat)
  case atStart =>
    refine ⟨x, y, 1, 0, 0, 1, false, rfl, rfl, by omega, by omega, by omega, by omega, ((Below.refl _ _).alloc (Nat.le_refl _) _).alloc (by simp) _, ?_, ?_, lh_start (by omega) y0, ?_⟩
    · exact Below.heap_alloc _ _ _ (by simp) |>.trans (heap_alloc_new w _)
    · show _ = _
      have := heap_alloc_new (w.alloc (.cells #[.int .u64 0, .int .u64 0, .int .u64 0, .int .u64 0, .bool false] 166)) (.cells #[.int .u64 1, .int .u64 0, .int .u64 0, .int .u64 1, .bool false] 166)
      simpa using this
    · show _ ∧ _ ∧ _ ∧ _
      omega
  case round =>
    obtain ⟨a, b, a0, b0, a1, b1, odd, rfl, rfl, ha0, hax, hb0, hbx, hbel, HG, HS, HL, HX⟩ := hrel
    obtain ⟨s0, s1, s2, s3, s4⟩ := HS.out.cells
    obtain ⟨r0, r1, r2, r3, r4⟩ := HG.out.cells
    have fz := HS.out.frozen
    have fr := HG.out.frozen
    have alS : ∀ o, SB (wr.alloc o) (w.heap.size + 1) a0 b0 a1 b1 odd := fun o => HS.out.below ((Below.refl _ _).alloc (Nat.le_refl _) o)
    have alG : ∀ o, SB (wr.alloc o) w.heap.size 0 0 0 0 false := fun o => HG.out.below ((Below.refl _ _).alloc (Nat.le_refl _) o)
    have sa0 := fun o => (alS o).cells.1
    have sa1 := fun o => (alS o).cells.2.1
    have sa2 := fun o => (alS o).cells.2.2.1
    have sa3 := fun o => (alS o).cells.2.2.2.1
    have sa4 := fun o => (alS o).cells.2.2.2.2
    have ga0 := fun o => (alG o).cells.1
    have ga1 := fun o => (alG o).cells.2.1
    have ga2 := fun o => (alG o).cells.2.2.1
    have ga3 := fun o => (alG o).cells.2.2.2.1
    have ga4 := fun o => (alG o).cells.2.2.2.2
    have fza := fun o => (alS o).frozen
    have fra := fun o => (alG o).frozen
    have ltS := HS.out.lt
    clear alS alG
    by_cases hbz : b = 0
    · subst hbz
      go_wp2
      obtain ⟨t0, t1, t2, t3, t4⟩ := (HG.out.set5 a0 b0 a1 b1 odd).cells
      refine bodyPost_ret (v := .agg #[.int .u64 a0, .int .u64 b0, .int .u64 a1, .int .u64 b1, .bool odd]) (by simp [results, Tryz.results179, go_sem, t0, t1, t2, t3, t4]) rfl ⟨?_, a0, b0, a1, b1, odd, _, _, rfl, HL.out, HX.out⟩
      exact below_only hbel (only_set5 _ _ _ _ _ _ _) (Nat.le_refl _) hbel.size
    · have hbp : 0 < b := by omega
      have hbb : (b != 0) = true := by simp [hbz]
      obtain ⟨m1, m2, m3, m4, m5, m6⟩ := lh_room HL.out hyx hbp
      have cstep := lh_step HL.out hyx hbp
      obtain ⟨q, hq⟩ : ∃ q, a / b = q := ⟨_, rfl⟩
      have hq0 : 0 ≤ q := by rw [← hq]; exact Int.ediv_nonneg ha0 hb0
      have hpr : 0 ≤ a - q * b ∧ a - q * b < b ∧ 0 ≤ q * b := by
        have e1 := Int.emod_nonneg a hbz; have e2 := Int.emod_lt_of_pos a hbp; have e := Int.mul_ediv_add_emod a b
        rw [hq, Int.mul_comm] at e
        exact ⟨by omega, by omega, Int.mul_nonneg hq0 hb0⟩
      rw [hq] at m1 m2 m3 m4 m5 m6 cstep
      obtain ⟨p, hp⟩ : ∃ p, q * b = p := ⟨_, rfl⟩
      obtain ⟨qa, hqa⟩ : ∃ p, q * a1 = p := ⟨_, rfl⟩
      obtain ⟨qb, hqb⟩ : ∃ p, q * b1 = p := ⟨_, rfl⟩
      rw [hp] at hpr m5 cstep
      rw [hqa] at m2 m3 cstep
      rw [hqb] at m1 m4 m5 m6 cstep
      obtain ⟨p1, p2, p3⟩ := hpr
      obtain ⟨l0, l1, l2, l3⟩ := (⟨HL.out.p0, HL.out.p1, HL.out.p2, HL.out.p3⟩ : 0 ≤ a0 ∧ 0 ≤ b0 ∧ 0 ≤ a1 ∧ 1 ≤ b1)
      obtain ⟨z1, z2, z3, z4⟩ := HX.out
      have CS := hid cstep
      have M5 := hid m5
      clear cstep m5
      by_cases c1 : a - p < b0 + qb
      · have c1b : decide (a - p < b0 + qb) = true := by simp [c1]
        go_wp2
        obtain ⟨t0, t1, t2, t3, t4⟩ := ((HG.out.below ((Below.refl _ _).alloc (Nat.le_refl _) (.cells #[.int .u64 a1, .int .u64 b1, .int .u64 (a0 + qa), .int .u64 (b0 + qb), .bool !odd] 166))).set5 a0 b0 a1 b1 odd).cells
        refine bodyPost_ret (v := .agg #[.int .u64 a0, .int .u64 b0, .int .u64 a1, .int .u64 b1, .bool odd]) (by simp [results, Tryz.results179, go_sem, t0, t1, t2, t3, t4]) rfl ⟨?_, a0, b0, a1, b1, odd, _, _, rfl, HL.out, HX.out⟩
        exact below_only (hbel.alloc hbel.size _) (only_set5 _ _ _ _ _ _ _) (Nat.le_refl _) (by have := hbel.size; simp; omega)
      · have c1b : decide (a - p < b0 + qb) = false := by simp; omega
        have hm5 := M5.out (by omega)
        by_cases c2 : b - (a - p) < b1 + (b0 + qb)
        · have c2b : decide (b - (a - p) < b1 + (b0 + qb)) = true := by simp [c2]
          go_wp2
          obtain ⟨t0, t1, t2, t3, t4⟩ := ((HG.out.below ((Below.refl _ _).alloc (Nat.le_refl _) (.cells #[.int .u64 a1, .int .u64 b1, .int .u64 (a0 + qa), .int .u64 (b0 + qb), .bool !odd] 166))).set5 a0 b0 a1 b1 odd).cells
          refine bodyPost_ret (v := .agg #[.int .u64 a0, .int .u64 b0, .int .u64 a1, .int .u64 b1, .bool odd]) (by simp [results, Tryz.results179, go_sem, t0, t1, t2, t3, t4]) rfl ⟨?_, a0, b0, a1, b1, odd, _, _, rfl, HL.out, HX.out⟩
          exact below_only (hbel.alloc hbel.size _) (only_set5 _ _ _ _ _ _ _) (Nat.le_refl _) (by have := hbel.size; simp; omega)
        · have c2b : decide (b - (a - p) < b1 + (b0 + qb)) = false := by simp; omega
          have NX := hid (CS.out (by omega) (by omega))
          go_wp2
          go_region
          all_goals
            go_wp2
            go_roundw
            case rel =>
              have o1 : Only (w.heap.size + 1) wr _ := only_set5 wr (w.heap.size + 1) (.int .u64 a1) (.int .u64 b1) (.int .u64 (a0 + qa)) (.int .u64 (b0 + qb)) (.bool !odd)
              have b1' := below_only hbel o1 (by omega) hbel.size
              refine ⟨b, a - p, a1, b1, a0 + qa, b0 + qb, !odd, rfl, rfl, by omega, by omega, by omega, by omega, (b1'.alloc b1'.size _).drew, ?_, ?_, NX.out, ?_⟩
              · exact (show SB _ _ _ _ _ _ _ from (o1.block _ HG.out.lt (by omega)).trans HG.out).below ((Below.refl _ _).alloc (Nat.le_refl _) _).drew
              · exact (HS.out.set5 a1 b1 (a0 + qa) (b0 + qb) (!odd)).below ((Below.refl _ _).alloc (Nat.le_refl _) _).drew
              · show _ ∧ _ ∧ _ ∧ _
                omega
            case measure => simp [intOf]; omega
end Go.Proofs.YtbmdhfpgkemilaaGreatDoor
namespace Go.Proofs.YtbmdhfpgkemilaaGreatDoor
open Go.RowKit

set_option maxHeartbeats 800000 in
/-- addWord: the number in the first n limbs from o on grows by w0; c goes over. -/
theorem addWord_g (g o n cap N : Nat) (f : Nat → Int) (w0 : Int) (w : World) (hb : Blk .u64 43 w g N f) (hf : Lm f N) (ho : o + n ≤ N) (hm : N ≤ 140737488355328) (h0 : 0 ≤ w0) (h1 : w0 < 18446744073709551616) :
    Calls Tryz.prog 163 #[.slice (some ⟨g, o, none⟩) n cap, .int .u64 w0] w fun e w' => e = .returned (.tuple #[]) ∧ Only g w w' ∧
      ∃ f' c, Blk .u64 43 w' g N f' ∧ Lm f' N ∧ (∀ j, j < o ∨ o + n ≤ j → f' j = f j) ∧ 0 ≤ c ∧ vf (sh f' o) n + c * pw n = vf (sh f o) n + w0 := by
  go_enter Tryz.func163, Tryz.ntmps163
  go_wp2
  go_loopw [1, 7] (fun c t wr => ∃ (k : Nat) (cc : Int) (f' : Nat → Int), k ≤ n ∧ t = .int .i64 k ∧ c = .int .u64 cc ∧ 0 ≤ cc ∧ cc < 18446744073709551616 ∧ Only g w wr ∧ Blk .u64 43 wr g N f' ∧ Hid (Lm f' N) ∧ Hid (∀ j, j < o ∨ o + k ≤ j → f' j = f j) ∧
      Hid (vf (sh f' o) k + cc * pw k = vf (sh f o) k + vf (fun _ => 0) k + w0)) (fun _ t _ => n - (intOf t).toNat)
  case atStart => exact ⟨0, w0, f, by omega, rfl, rfl, h0, h1, Only.refl _ _, hb, hf, fun _ _ => rfl, by simp [Hid, vf, pw]⟩
  case round =>
    obtain ⟨k, cc, f', hk, rfl, rfl, c0, c1, hon, hbl, HL, HE, HV⟩ := hrel
    have z0 : ∀ i, vf (fun _ => 0) i = 0 := fun i => vf_zero (fun _ _ => rfl)
    have Z0 := hid z0
    clear z0
    by_cases hlt : k < n
    · by_cases hc : cc = 0
      · subst hc
        go_wp2
        refine bodyPost_ret (v := .tuple #[]) (results_none rfl _ _ _) rfl ⟨rfl, hon, f', 0, hbl, HL.out, fun j hj => HE.out j (by omega), by omega, ?_⟩
        have hv := HV.out
        obtain ⟨d, rfl⟩ := Nat.exists_eq_add_of_le (show k ≤ n by omega)
        rw [vf_split, vf_split (sh f o), sh_sh, sh_sh, vf_congr (f := sh f' (o + k)) (g := sh f (o + k)) (fun j hj => HE.out _ (by omega))]
        rw [Z0.out] at hv
        omega
      · have hc1 : (cc == 0) = false := by simp [hc]
        obtain ⟨x, hx⟩ : ∃ x, f' (o + k) = x := ⟨_, rfl⟩
        have hcell : wr.cell? ⟨g, o + k, none⟩ = some (.int .u64 x) := by rw [← hx]; exact hbl.cell (by omega)
        have hfz := hbl.frozen (o + k)
        have hx01 := HL.out (o + k) (by omega)
        rw [hx] at hx01
        obtain ⟨x0, x1⟩ := hx01
        have HX := hid hx
        clear hx
        go_wp2_with (simp only [add64_0 x cc x0 c0])
        go_roundw
        case rel =>
          refine ⟨k + 1, _, upd f' (o + k) ((x + cc) % 18446744073709551616), by omega, by go_num, rfl, by omega, by omega, hon.setCell _ _ _, hbl.set _ _, HL.out.upd (by omega), ?_, ?_⟩
          · intro j hj
            rw [upd_other _ _ _ _ (by omega)]
            exact HE.out j (by omega)
          · have := carry_step (y := 0) HV.out (HE.out _ (by omega)) rfl
            rw [HX.out] at this
            simpa [Hid] using this
        case measure => simp [intOf]; omega
    · have hkn : k = n := by omega
      subst hkn
      go_wp2
      refine bodyPost_end (v := .tuple #[]) (results_none rfl _ _ _) rfl ⟨rfl, hon, f', cc, hbl, HL.out, HE.out, c0, ?_⟩
      have hv := HV.out
      rw [Z0.out] at hv
      omega

set_option maxHeartbeats 1000000 in
/-- addTo: the number in the first n limbs from o on grows by the number b; c goes over. -/
theorem addTo_g (g o n cap N : Nat) (f : Nat → Int) (bo : Option Addr) (m cb : Nat) (h : Nat → Int) (w : World) (hb : Blk .u64 43 w g N f) (hf : Lm f N) (ho : o + n ≤ N) (hm : N ≤ 140737488355328)
    (hr : Rd .u64 w bo m h) (hh : Lm h m) (hoff : 0 < m → Off bo g) (hmn : m < n) (hcap : n ≤ cap) (hcm : cap ≤ 140737488355328) :
    Calls Tryz.prog 142 #[.slice (some ⟨g, o, none⟩) n cap, .slice bo m cb] w fun e w' => e = .returned (.tuple #[]) ∧ Only g w w' ∧
      ∃ f' c, Blk .u64 43 w' g N f' ∧ Lm f' N ∧ (∀ j, j < o ∨ o + n ≤ j → f' j = f j) ∧ 0 ≤ c ∧ vf (sh f' o) n + c * pw n = vf (sh f o) n + vf h m := by
  have HH := (show Hid (Lm h m) from hh)
  have HRd := (show Hid (Rd .u64 w bo m h) from hr)
  clear hh hr
  go_enter Tryz.func142, Tryz.ntmps142
  go_wp2
  go_loopw [4, 8] (fun c t wr => ∃ (k : Nat) (cc : Int) (f' : Nat → Int), k ≤ m ∧ t = .int .i64 k ∧ c = .int .u64 cc ∧ 0 ≤ cc ∧ cc ≤ 1 ∧ Only g w wr ∧ Blk .u64 43 wr g N f' ∧ Hid (Lm f' N) ∧ Hid (∀ j, j < o ∨ o + k ≤ j → f' j = f j) ∧
      Hid (vf (sh f' o) k + cc * pw k = vf (sh f o) k + vf h k + 0)) (fun _ t _ => m - (intOf t).toNat)
  case atStart => exact ⟨0, 0, f, by omega, rfl, rfl, by omega, by omega, Only.refl _ _, hb, hf, fun _ _ => rfl, by simp [Hid, vf, pw]⟩
  case round =>
    obtain ⟨k, cc, f', hk, rfl, rfl, c0, c1, hon, hbl, HL, HE, HV⟩ := hrel
    by_cases hlt : k < m
    · have hr := HRd.out
      obtain ⟨b, ob, rfl⟩ := hr.at (by omega)
      obtain ⟨x, hx⟩ : ∃ x, f' (o + k) = x := ⟨_, rfl⟩
      obtain ⟨y, hy⟩ : ∃ y, h k = y := ⟨_, rfl⟩
      have hcell : wr.cell? ⟨g, o + k, none⟩ = some (.int .u64 x) := by rw [← hx]; exact hbl.cell (by omega)
      have hcelb : wr.cell? ⟨b, ob + k, none⟩ = some (.int .u64 y) := by rw [← hy]; exact (hr.only hon (hoff (by omega))).cell hlt
      have hfz := hbl.frozen (o + k)
      have hx01 := HL.out (o + k) (by omega)
      have hy01 := HH.out k hlt
      rw [hx] at hx01
      rw [hy] at hy01
      obtain ⟨x0, x1⟩ := hx01
      obtain ⟨y0, y1⟩ := hy01
      have HX := hid hx
      have HY := hid hy
      clear hx hy hr
      have hadd := fun w => add64 x y cc x0 y0 c0 c1 w
      go_wp2
      go_region
      all_goals
        go_wp2
        go_roundw
        case rel =>
          refine ⟨k + 1, _, upd f' (o + k) ((x + y + cc) % 18446744073709551616), by omega, by go_num, rfl, by omega, by omega, ?_, ?_, HL.out.upd (by omega), ?_, ?_⟩
          · exact (hon.setCell _ _ _).drew
          · exact (hbl.set _ _).drew
          · intro j hj
            rw [upd_other _ _ _ _ (by omega)]
            exact HE.out j (by omega)
          · have := carry_step (y := y) HV.out (HE.out _ (by omega)) HY.out
            rw [HX.out] at this
            exact this
        case measure => simp [intOf]; omega
    · have hkm : k = m := by omega
      subst hkm
      obtain ⟨d, rfl⟩ := Nat.exists_eq_add_of_le (Nat.le_of_lt hmn)
      have HS := hid (show ∀ j, j < d → sh f' (o + k) j = sh f (o + k) j from fun j hj => HE.out _ (by omega))
      have hne : ¬ (k = cap) := by omega
      go_wp2_with fail
      refine (addWord_g g (o + k) d (cap - k) N f' cc wr hbl HL.out (by omega) hm c0 (by omega)).mono ?_
      rintro e w' ⟨rfl, hon2, f2, c2, hb2, hl2, he2, hc2, hv2⟩
      have HV2 := hid hv2
      clear hv2
      go_wp2
      refine bodyPost_end (v := .tuple #[]) (results_none rfl _ _ _) rfl ⟨rfl, hon.trans hon2, f2, c2, hb2, hl2, fun j hj => (he2 j (by omega)).trans (HE.out j (by omega)), hc2, ?_⟩
      have hv := HV.out
      have hv2 := HV2.out
      rw [vf_split, vf_split (sh f o), sh_sh, sh_sh, pw_add, vf_congr (f := sh f2 o) (g := sh f' o) (n := k) (fun j hj => he2 _ (by omega))]
      rw [vf_congr HS.out] at hv2
      have e1 : (vf (sh f2 (o + k)) d + c2 * pw d) * pw k = (vf (sh f (o + k)) d + cc) * pw k := by rw [hv2]
      rw [Int.add_mul, Int.add_mul, Int.mul_assoc c2, Int.mul_comm (pw d)] at e1
      omega

/-- One limb of a product taken. -/
theorem mulsub_step {f f' G : Nat → Int} {o k : Nat} {ov wd x y hi l d b : Int} (HV : vf (sh f' o) k + vf G k * wd = vf (sh f o) k + ov * pw k) (hE : f' (o + k) = f (o + k)) (hx : f' (o + k) = x) (hy : G k = y) (h1 : y * wd + ov = hi * 18446744073709551616 + l) (h2 : d = x - l + b * 18446744073709551616) :
    vf (sh (upd f' (o + k) d) o) (k + 1) + vf G (k + 1) * wd = vf (sh f o) (k + 1) + (hi + b) * pw (k + 1) := by
  have e1 : vf (sh (upd f' (o + k) d) o) k = vf (sh f' o) k := vf_congr (fun j hj => upd_other _ _ _ _ (by omega))
  rw [vf_succ, vf_succ, vf_succ, e1, pw_succ, sh_at, sh_at, upd_same, hy, ← hE, hx, h2]
  grind

set_option maxHeartbeats 1000000 in
/-- mulSubFrom: a * wd is taken from the first limbs of d; what was borrowed is answered. -/
theorem mulSubFrom_c (g o n cap N : Nat) (f : Nat → Int) (bo : Option Addr) (m cb : Nat) (h : Nat → Int) (wd : Int) (w : World) (hb : Blk .u64 43 w g N f) (hf : Lm f N) (ho : o + n ≤ N)
    (hr : Rd .u64 w bo m h) (hh : Lm h m) (hoff : 0 < m → Off bo g) (hmn : m ≤ n) (hcap : n ≤ cap) (hcm : cap ≤ 140737488355328) (d0 : 0 ≤ wd) (d1 : wd < 18446744073709551616) :
    Calls Tryz.prog 178 #[.slice (some ⟨g, o, none⟩) n cap, .slice bo m cb, .int .u64 wd] w fun e w' => ∃ ov, e = .returned (.int .u64 ov) ∧ 0 ≤ ov ∧ ov < 18446744073709551616 ∧ Only g w w' ∧
      ∃ f', Blk .u64 43 w' g N f' ∧ Lm f' N ∧ (∀ j, j < o ∨ o + m ≤ j → f' j = f j) ∧ vf (sh f' o) m + vf h m * wd = vf (sh f o) m + ov * pw m := by
  have HH := hid hh
  have HRd := hid hr
  clear hh hr
  go_enter Tryz.func178, Tryz.ntmps178
  go_wp2
  go_loopw [7, 18] (fun c t wr => ∃ (k : Nat) (ov : Int) (f' : Nat → Int), k ≤ m ∧ t = .int .i64 k ∧ c = .int .u64 ov ∧ 0 ≤ ov ∧ ov < 18446744073709551616 ∧ Only g w wr ∧ Blk .u64 43 wr g N f' ∧ Hid (Lm f' N) ∧ Hid (∀ j, j < o ∨ o + k ≤ j → f' j = f j) ∧
      Hid (vf (sh f' o) k + vf h k * wd = vf (sh f o) k + ov * pw k)) (fun _ t _ => m - (intOf t).toNat)
  case atStart => exact ⟨0, 0, f, by omega, rfl, rfl, by omega, by omega, Only.refl _ _, hb, hf, fun _ _ => rfl, by simp [Hid, vf, pw]⟩
  case round =>
    obtain ⟨k, ov, f', hk, rfl, rfl, v0, v1, hon, hbl, HL, HE, HV⟩ := hrel
    by_cases hlt : k < m
    · have hr := HRd.out
      obtain ⟨b, ob, rfl⟩ := hr.at (by omega)
      obtain ⟨x, hx⟩ : ∃ x, f' (o + k) = x := ⟨_, rfl⟩
      obtain ⟨y, hy⟩ : ∃ y, h k = y := ⟨_, rfl⟩
      have hcell : wr.cell? ⟨g, o + k, none⟩ = some (.int .u64 x) := by rw [← hx]; exact hbl.cell (by omega)
      have hcelb : wr.cell? ⟨b, ob + k, none⟩ = some (.int .u64 y) := by rw [← hy]; exact (hr.only hon (hoff (by omega))).cell hlt
      have hfz := hbl.frozen (o + k)
      have hx01 := HL.out (o + k) (by omega)
      have hy01 := HH.out k hlt
      rw [hx] at hx01
      rw [hy] at hy01
      obtain ⟨x0, x1⟩ := hx01
      obtain ⟨y0, y1⟩ := hy01
      have HX := hid hx
      have HY := hid hy
      clear hx hy hr
      have c1 := fun w => mulAdd_c y wd ov w y0 y1 d0 d1 v0 v1
      have hbd := prod_bounds y0 y1 d0 d1
      obtain ⟨hi, hhi⟩ : ∃ hi, (y * wd + ov) / 18446744073709551616 = hi := ⟨_, rfl⟩
      obtain ⟨l, hl⟩ : ∃ l, (y * wd + ov) % 18446744073709551616 = l := ⟨_, rfl⟩
      rw [hhi, hl] at c1
      have hP : y * wd + ov = hi * 18446744073709551616 + l := by omega
      have i0 : 0 ≤ hi := by omega
      have i1 : hi + bor x l < 18446744073709551616 := by have := bor_01 x l; unfold bor; split <;> omega
      have l0 : 0 ≤ l := by omega
      have l1 : l < 18446744073709551616 := by omega
      obtain ⟨bb, hbb⟩ : ∃ bb, bor x l = bb := ⟨_, rfl⟩
      have bb0 : 0 ≤ bb := by rw [← hbb]; exact (bor_01 _ _).1
      have bb1 : bb ≤ 1 := by rw [← hbb]; exact (bor_01 _ _).2
      have hd : (x - l) % 18446744073709551616 = x - l + bb * 18446744073709551616 := by
        rw [← hbb]; unfold bor; split <;> omega
      have hsub := fun w => sub64_0 x l x0 l0 l1 w
      simp only [hbb] at hsub
      obtain ⟨dd, hdd⟩ : ∃ dd, (x - l) % 18446744073709551616 = dd := ⟨_, rfl⟩
      rw [hdd] at hd
      rw [hbb] at i1
      simp only [hdd] at hsub
      have dd0 : 0 ≤ dd ∧ dd < 18446744073709551616 := by omega
      have C1 := hid c1; have HP := hid hP; have HD := hid hd
      clear c1 hP hbd hhi hl hd hdd hbb
      go_wp2_with fail
      refine (C1.out _).mono ?_
      rintro e wx ⟨rfl, rfl⟩
      go_wp2
      go_roundw
      case rel =>
        refine ⟨k + 1, hi + bb, upd f' (o + k) dd, by omega, by go_num, rfl, by omega, by omega, hon.setCell _ _ _, hbl.set _ _, HL.out.upd dd0, ?_, ?_⟩
        · intro j hj
          rw [upd_other _ _ _ _ (by omega)]
          exact HE.out j (by omega)
        · exact mulsub_step HV.out (HE.out _ (by omega)) HX.out HY.out HP.out HD.out
      case measure => simp [intOf]; omega
    · have hkm : k = m := by omega
      subst hkm
      go_wp2
      go_ret
      exact ⟨ov, rfl, v0, v1, hon, f', hbl, HL.out, HE.out, HV.out⟩
end Go.Proofs.YtbmdhfpgkemilaaGreatDoor
namespace Go.Proofs.YtbmdhfpgkemilaaGreatDoor
open Go.RowKit

/-- A guess t and what it leaves of the two highest limbs. -/
structure Gk (X u0 v1 v0 t r : Int) : Prop where
  eq : t * v1 + r = X
  up : t = 18446744073709551615 ∨ X * 18446744073709551616 + u0 < (t + 1) * (v1 * 18446744073709551616 + v0)
theorem gk_mul {X u0 v1 v0 t r : Int} (h : Gk X u0 v1 v0 t r) : t * (v1 * 18446744073709551616 + v0) = (X - r) * 18446744073709551616 + t * v0 := by
  have := h.eq
  have e : t * v1 = X - r := by omega
  rw [Int.mul_add, ← Int.mul_assoc, e]
theorem gk_fit {X u0 v1 v0 t r : Int} (h : Gk X u0 v1 v0 t r) (hl : t * v0 ≤ r * 18446744073709551616 + u0) : t * (v1 * 18446744073709551616 + v0) ≤ X * 18446744073709551616 + u0 := by
  rw [gk_mul h]; omega
theorem gk_big {X u0 v1 v0 t r : Int} (h : Gk X u0 v1 v0 t r) (t1 : t < 18446744073709551616) (v00 : 0 ≤ v0) (v01 : v0 < 18446744073709551616) (u00 : 0 ≤ u0) (hr : 18446744073709551616 ≤ r) : t * (v1 * 18446744073709551616 + v0) ≤ X * 18446744073709551616 + u0 := by
  refine gk_fit h ?_
  have : t * v0 ≤ 18446744073709551616 * v0 := Int.mul_le_mul_of_nonneg_right (by omega) v00
  omega
theorem gk_pos {u0 v0 t r : Int} (r0 : 0 ≤ r) (u00 : 0 ≤ u0) (v00 : 0 ≤ v0) (hl : r * 18446744073709551616 + u0 < t * v0) : 0 < t := by
  apply Int.lt_of_not_ge
  intro h
  have : t * v0 ≤ 0 * v0 := Int.mul_le_mul_of_nonneg_right h v00
  omega
theorem gk_step {X u0 v1 v0 t r : Int} (h : Gk X u0 v1 v0 (t + 1) r) (hl : r * 18446744073709551616 + u0 < (t + 1) * v0) : Gk X u0 v1 v0 t (r + v1) := by
  refine ⟨?_, .inr ?_⟩
  · have := h.eq; rw [Int.add_mul] at this; omega
  · rw [gk_mul h]; omega
theorem gk_first {u2 u1 u0 v1 v0 : Int} (a0 : 0 ≤ u2) (a1 : u2 < v1) (b0 : 0 ≤ u1) (b1 : u1 < 18446744073709551616) (_c0 : 0 ≤ u0) (c1 : u0 < 18446744073709551616) (d0 : 0 ≤ v0) :
    Gk (u2 * 18446744073709551616 + u1) u0 v1 v0 ((u2 * 18446744073709551616 + u1) / v1) ((u2 * 18446744073709551616 + u1) % v1) ∧ 0 ≤ (u2 * 18446744073709551616 + u1) / v1 ∧ (u2 * 18446744073709551616 + u1) / v1 < 18446744073709551616 ∧ 0 ≤ (u2 * 18446744073709551616 + u1) % v1 ∧ (u2 * 18446744073709551616 + u1) % v1 < v1 := by
  have hv : 0 < v1 := by omega
  obtain ⟨X, hX⟩ : ∃ X, u2 * 18446744073709551616 + u1 = X := ⟨_, rfl⟩
  rw [hX]
  have e1 := Int.mul_ediv_add_emod X v1
  have e2 := Int.emod_nonneg X (show v1 ≠ 0 by omega)
  have e3 := Int.emod_lt_of_pos X hv
  have e4 : 0 ≤ X / v1 := Int.ediv_nonneg (by omega) (by omega)
  have e5 : X / v1 < 18446744073709551616 := Int.ediv_lt_of_lt_mul hv (by
    have : u2 + 1 ≤ v1 := by omega
    have := Int.mul_le_mul_of_nonneg_left this (show (0 : Int) ≤ 18446744073709551616 by decide)
    omega)
  refine ⟨⟨by rw [Int.mul_comm]; exact e1, .inr ?_⟩, e4, e5, e2, e3⟩
  have e6 : (X / v1 + 1) * v1 = v1 * (X / v1) + v1 := by rw [Int.add_mul, Int.mul_comm]; omega
  have e7 : 0 ≤ (X / v1 + 1) * v0 := Int.mul_nonneg (by omega) d0
  rw [Int.mul_add, ← Int.mul_assoc, e6]
  omega

set_option maxRecDepth 100000 in
set_option maxHeartbeats 4000000 in
theorem guess_c (u2 u1 u0 v1 v0 : Int) (w : World) (a0 : 0 ≤ u2) (a1 : u2 ≤ v1) (b0 : 0 ≤ u1) (b1 : u1 < 18446744073709551616) (c0 : 0 ≤ u0) (c1 : u0 < 18446744073709551616) (d0 : 0 ≤ v0) (d1 : v0 < 18446744073709551616) (e0 : 0 < v1) (e1 : v1 < 18446744073709551616) :
    Calls Tryz.prog 177 #[.int .u64 u2, .int .u64 u1, .int .u64 u0, .int .u64 v1, .int .u64 v0] w fun e w' => (∃ q, w' = w.drewN q) ∧ ∃ t, e = .returned (.int .u64 t) ∧ 0 ≤ t ∧ t < 18446744073709551616 ∧
      t * (v1 * 18446744073709551616 + v0) ≤ (u2 * 18446744073709551616 + u1) * 18446744073709551616 + u0 ∧ (t = 18446744073709551615 ∨ (u2 * 18446744073709551616 + u1) * 18446744073709551616 + u0 < (t + 1) * (v1 * 18446744073709551616 + v0)) := by
  by_cases hlt : u2 < v1
  · obtain ⟨g1, g2, g3, g4, g5⟩ := gk_first (u0 := u0) (v0 := v0) a0 hlt b0 b1 c0 c1 d0
    have CD := hid (div64_c u2 u1 v1 w a0 hlt e1 b0 b1)
    obtain ⟨X, hX⟩ : ∃ X, u2 * 18446744073709551616 + u1 = X := ⟨_, rfl⟩
    rw [hX] at g1 g2 g3 g4 g5 CD ⊢
    obtain ⟨t0, ht0⟩ : ∃ t0, X / v1 = t0 := ⟨_, rfl⟩
    obtain ⟨r0, hr0⟩ : ∃ r0, X % v1 = r0 := ⟨_, rfl⟩
    rw [ht0, hr0] at g1 CD
    rw [ht0] at g2 g3
    rw [hr0] at g4 g5
    have G := hid g1
    clear g1 hX ht0 hr0
    go_enter Tryz.func177, Tryz.ntmps177
    go_wp2_with fail
    refine CD.out.mono ?_
    rintro e w1 ⟨rfl, q, rfl⟩
    go_wp2
    go_loop [11, 12, 13] (fun c d e => ∃ t r k : Int, c = .int .u64 t ∧ d = .int .u64 r ∧ e = .int .u64 k ∧ 0 ≤ t ∧ t < 18446744073709551616 ∧ 0 ≤ r ∧ r < 18446744073709551616 ∧ 0 ≤ k ∧ k ≤ 1 ∧ Hid (Gk X u0 v1 v0 t (r + k * 18446744073709551616))) (fun c _ _ => (intOf c).toNat)
    case atStart => exact ⟨t0, r0, 0, rfl, rfl, rfl, g2, g3, g4, by omega, by omega, by omega, by have := G.out; simpa [Hid] using this⟩
    case round =>
      clear G g2 g3 g4 g5
      obtain ⟨t, r, k, rfl, rfl, rfl, t0a, t0b, r0a, r0b, k0, k1, G⟩ := hrel
      by_cases hk : k = 0
      · subst hk
        have G2 := G.out
        rw [show r + 0 * 18446744073709551616 = r by omega] at G2
        have GG := hid G2
        clear G2 G
        have c1 := fun W => mul64_c t v0 W t0a t0b d0 d1
        have hbd := prod_bounds t0a t0b d0 d1
        obtain ⟨P, hP⟩ : ∃ P, t * v0 = P := ⟨_, rfl⟩
        rw [hP] at c1 hbd
        obtain ⟨hi, hhi⟩ : ∃ hi, P / 18446744073709551616 = hi := ⟨_, rfl⟩
        obtain ⟨lo, hlo⟩ : ∃ lo, P % 18446744073709551616 = lo := ⟨_, rfl⟩
        rw [hhi, hlo] at c1
        have hPP : P = hi * 18446744073709551616 + lo := by omega
        have i0 : 0 ≤ hi := by omega
        have i1 : hi < 18446744073709551616 := by omega
        have l0 : 0 ≤ lo := by omega
        have l1 : lo < 18446744073709551616 := by omega
        have C1 := hid c1; have HP := hid hP; have HPP := hid hPP
        clear c1 hP hPP hhi hlo hbd
        by_cases hfit : P ≤ r * 18446744073709551616 + u0
        · have FIT := hid (gk_fit GG.out (by rw [HP.out]; exact hfit))
          have UP := hid GG.out.up
          by_cases hhr : hi < r
          · clear hfit
            go_wp2_with fail
            refine (C1.out _).mono ?_
            rintro e wx ⟨rfl, rfl⟩
            go_wp2
            go_ret
            exact ⟨⟨q, rfl⟩, t, rfl, t0a, t0b, FIT.out, UP.out⟩
          · have hhe : hi = r := by have := HPP.out; omega
            have hlu : lo ≤ u0 := by have := HPP.out; omega
            subst hhe
            clear hfit
            have hee : (hi == hi) = true := by simp
            go_wp2_with fail
            refine (C1.out _).mono ?_
            rintro e wx ⟨rfl, rfl⟩
            go_wp2
            go_ret
            exact ⟨⟨q, rfl⟩, t, rfl, t0a, t0b, FIT.out, UP.out⟩
        · have hgt : r * 18446744073709551616 + u0 < t * v0 := by rw [HP.out]; omega
          have htp := gk_pos r0a c0 d0 hgt
          obtain ⟨s, rfl⟩ : ∃ s, t = s + 1 := ⟨t - 1, by omega⟩
          have G1 := hid (gk_step GG.out hgt)
          clear GG hgt
          have G3 : Hid (Gk X u0 v1 v0 s ((r + v1) % 18446744073709551616 + (r + v1) / 18446744073709551616 * 18446744073709551616)) := by
            show Gk _ _ _ _ _ _
            have : (r + v1) % 18446744073709551616 + (r + v1) / 18446744073709551616 * 18446744073709551616 = r + v1 := by omega
            rw [this]; exact G1.out
          clear G1
          have hs : s + 1 - 1 = s := by omega
          by_cases hhr : r < hi
          · have hne : (hi == r) = false := by simp; omega
            clear hfit
            go_wp2_with fail
            refine (C1.out _).mono ?_
            rintro e wx ⟨rfl, rfl⟩
            go_wp2_with (simp only [add64_0 r v1 r0a (Int.le_of_lt e0)])
            go_round
            case rel => exact ⟨s, _, _, by go_num, rfl, rfl, by omega, by omega, by omega, by omega, by omega, by omega, G3.out⟩
            case measure => simp [intOf]; omega
          · have hhe : hi = r := by have := HPP.out; omega
            have hlu : ¬ lo ≤ u0 := by have := HPP.out; omega
            subst hhe
            clear hfit
            have hee : (hi == hi) = true := by simp
            go_wp2_with fail
            refine (C1.out _).mono ?_
            rintro e wx ⟨rfl, rfl⟩
            go_wp2_with (simp only [add64_0 hi v1 r0a (Int.le_of_lt e0)])
            go_round
            case rel => exact ⟨s, _, _, by go_num, rfl, rfl, by omega, by omega, by omega, by omega, by omega, by omega, G3.out⟩
            case measure => simp [intOf]; omega
      · have hk1 : k = 1 := by omega
        subst hk1
        have BIG := hid (gk_big G.out t0b d0 d1 c0 (by omega))
        have UP := hid G.out.up
        go_wp2
        go_ret
        exact ⟨⟨q, rfl⟩, t, rfl, t0a, t0b, BIG.out, UP.out⟩
  · obtain rfl : u2 = v1 := by omega
    obtain ⟨X, hX⟩ : ∃ X, u2 * 18446744073709551616 + u1 = X := ⟨_, rfl⟩
    rw [hX]
    have G : Hid (Gk X u0 u2 v0 18446744073709551615 ((u1 + u2) % 18446744073709551616 + (u1 + u2) / 18446744073709551616 * 18446744073709551616)) := by
      show Gk _ _ _ _ _ _
      exact ⟨by omega, .inl rfl⟩
    clear hX
    go_enter Tryz.func177, Tryz.ntmps177
    go_wp2_with (simp only [add64_0 u1 u2 b0 a0])
    go_loop [11, 12, 13] (fun c d e => ∃ t r k : Int, c = .int .u64 t ∧ d = .int .u64 r ∧ e = .int .u64 k ∧ 0 ≤ t ∧ t < 18446744073709551616 ∧ 0 ≤ r ∧ r < 18446744073709551616 ∧ 0 ≤ k ∧ k ≤ 1 ∧ Hid (Gk X u0 u2 v0 t (r + k * 18446744073709551616))) (fun c _ _ => (intOf c).toNat)
    case atStart => exact ⟨18446744073709551615, _, _, rfl, rfl, rfl, by omega, by omega, by omega, by omega, by omega, by omega, G.out⟩
    case round =>
      clear G
      obtain ⟨t, r, k, rfl, rfl, rfl, t0a, t0b, r0a, r0b, k0, k1, G⟩ := hrel
      by_cases hk : k = 0
      · subst hk
        have G2 := G.out
        rw [show r + 0 * 18446744073709551616 = r by omega] at G2
        have GG := hid G2
        clear G2 G
        have c1 := fun W => mul64_c t v0 W t0a t0b d0 d1
        have hbd := prod_bounds t0a t0b d0 d1
        obtain ⟨P, hP⟩ : ∃ P, t * v0 = P := ⟨_, rfl⟩
        rw [hP] at c1 hbd
        obtain ⟨hi, hhi⟩ : ∃ hi, P / 18446744073709551616 = hi := ⟨_, rfl⟩
        obtain ⟨lo, hlo⟩ : ∃ lo, P % 18446744073709551616 = lo := ⟨_, rfl⟩
        rw [hhi, hlo] at c1
        have hPP : P = hi * 18446744073709551616 + lo := by omega
        have i0 : 0 ≤ hi := by omega
        have i1 : hi < 18446744073709551616 := by omega
        have l0 : 0 ≤ lo := by omega
        have l1 : lo < 18446744073709551616 := by omega
        have C1 := hid c1; have HP := hid hP; have HPP := hid hPP
        clear c1 hP hPP hhi hlo hbd
        by_cases hfit : P ≤ r * 18446744073709551616 + u0
        · have FIT := hid (gk_fit GG.out (by rw [HP.out]; exact hfit))
          have UP := hid GG.out.up
          by_cases hhr : hi < r
          · clear hfit
            go_wp2_with fail
            refine (C1.out _).mono ?_
            rintro e wx ⟨rfl, rfl⟩
            go_wp2
            go_ret
            exact ⟨⟨0, rfl⟩, t, rfl, t0a, t0b, FIT.out, UP.out⟩
          · have hhe : hi = r := by have := HPP.out; omega
            have hlu : lo ≤ u0 := by have := HPP.out; omega
            subst hhe
            clear hfit
            have hee : (hi == hi) = true := by simp
            go_wp2_with fail
            refine (C1.out _).mono ?_
            rintro e wx ⟨rfl, rfl⟩
            go_wp2
            go_ret
            exact ⟨⟨0, rfl⟩, t, rfl, t0a, t0b, FIT.out, UP.out⟩
        · have hgt : r * 18446744073709551616 + u0 < t * v0 := by rw [HP.out]; omega
          have htp := gk_pos r0a c0 d0 hgt
          obtain ⟨s, rfl⟩ : ∃ s, t = s + 1 := ⟨t - 1, by omega⟩
          have G1 := hid (gk_step GG.out hgt)
          clear GG hgt
          have G3 : Hid (Gk X u0 u2 v0 s ((r + u2) % 18446744073709551616 + (r + u2) / 18446744073709551616 * 18446744073709551616)) := by
            show Gk _ _ _ _ _ _
            have : (r + u2) % 18446744073709551616 + (r + u2) / 18446744073709551616 * 18446744073709551616 = r + u2 := by omega
            rw [this]; exact G1.out
          clear G1
          have hs : s + 1 - 1 = s := by omega
          by_cases hhr : r < hi
          · have hne : (hi == r) = false := by simp; omega
            clear hfit
            go_wp2_with fail
            refine (C1.out _).mono ?_
            rintro e wx ⟨rfl, rfl⟩
            go_wp2_with (simp only [add64_0 r u2 r0a (Int.le_of_lt e0)])
            go_round
            case rel => exact ⟨s, _, _, by go_num, rfl, rfl, by omega, by omega, by omega, by omega, by omega, by omega, G3.out⟩
            case measure => simp [intOf]; omega
          · have hhe : hi = r := by have := HPP.out; omega
            have hlu : ¬ lo ≤ u0 := by have := HPP.out; omega
            subst hhe
            clear hfit
            have hee : (hi == hi) = true := by simp
            go_wp2_with fail
            refine (C1.out _).mono ?_
            rintro e wx ⟨rfl, rfl⟩
            go_wp2_with (simp only [add64_0 hi u2 r0a (Int.le_of_lt e0)])
            go_round
            case rel => exact ⟨s, _, _, by go_num, rfl, rfl, by omega, by omega, by omega, by omega, by omega, by omega, G3.out⟩
            case measure => simp [intOf]; omega
      · have hk1 : k = 1 := by omega
        subst hk1
        have BIG := hid (gk_big G.out t0b d0 d1 c0 (by omega))
        have UP := hid G.out.up
        go_wp2
        go_ret
        exact ⟨⟨0, rfl⟩, t, rfl, t0a, t0b, BIG.out, UP.out⟩
end Go.Proofs.YtbmdhfpgkemilaaGreatDoor
namespace Go.Proofs.YtbmdhfpgkemilaaGreatDoor
open Go.RowKit

/-- The guess, told by what it is. -/
def gq (T V : Int) : Int := if T / V ≤ 18446744073709551615 then T / V else 18446744073709551615
theorem gq_of {T V t : Int} (hV : 0 < V) (t1 : t < 18446744073709551616) (h1 : t * V ≤ T) (h2 : t = 18446744073709551615 ∨ T < (t + 1) * V) : t = gq T V := by
  have e1 := Int.mul_ediv_add_emod T V
  have e2 := Int.emod_nonneg T (show V ≠ 0 by omega)
  have e3 := Int.emod_lt_of_pos T hV
  have le : t ≤ T / V := (Int.le_ediv_iff_mul_le hV).2 h1
  unfold gq
  rcases h2 with rfl | h2
  · split <;> omega
  · have : T / V < t + 1 := (Int.ediv_lt_iff_lt_mul hV).2 h2
    rw [if_pos (by omega)]; omega

theorem guess_q (u2 u1 u0 v1 v0 : Int) (w : World) (a0 : 0 ≤ u2) (a1 : u2 ≤ v1) (b0 : 0 ≤ u1) (b1 : u1 < 18446744073709551616) (c0 : 0 ≤ u0) (c1 : u0 < 18446744073709551616) (d0 : 0 ≤ v0) (d1 : v0 < 18446744073709551616) (e0 : 0 < v1) (e1 : v1 < 18446744073709551616) :
    Calls Tryz.prog 177 #[.int .u64 u2, .int .u64 u1, .int .u64 u0, .int .u64 v1, .int .u64 v0] w fun e w' => e = .returned (.int .u64 (gq ((u2 * 18446744073709551616 + u1) * 18446744073709551616 + u0) (v1 * 18446744073709551616 + v0))) ∧ ∃ q, w' = w.drewN q := by
  refine (guess_c u2 u1 u0 v1 v0 w a0 a1 b0 b1 c0 c1 d0 d1 e0 e1).mono ?_
  rintro e w' ⟨hq, t, rfl, t0, t1, h1, h2⟩
  refine ⟨?_, hq⟩
  rw [← gq_of (by omega) t1 h1 h2]
theorem gq_is {T V : Int} (hT : 0 ≤ T) (hV : 0 < V) : 0 ≤ gq T V ∧ gq T V < 18446744073709551616 ∧ gq T V * V ≤ T ∧ (gq T V = 18446744073709551615 ∨ T < (gq T V + 1) * V) := by
  have e1 := Int.mul_ediv_add_emod T V
  have e2 := Int.emod_nonneg T (show V ≠ 0 by omega)
  have e3 := Int.emod_lt_of_pos T hV
  have e4 : 0 ≤ T / V := Int.ediv_nonneg hT (by omega)
  have e5 : T / V * V = V * (T / V) := Int.mul_comm _ _
  unfold gq
  split
  · exact ⟨e4, by omega, by omega, .inr (by rw [Int.add_mul]; omega)⟩
  · refine ⟨by decide, by decide, ?_, .inl rfl⟩
    have : 18446744073709551615 * V ≤ T / V * V := Int.mul_le_mul_of_nonneg_right (by omega) (by omega)
    omega

theorem top2 (f : Nat → Int) (m : Nat) : vf f (m + 2) = vf f m + (f (m + 1) * 18446744073709551616 + f m) * pw m := by
  rw [vf_succ, vf_succ, pw_succ]; grind
theorem top3 (f : Nat → Int) (m : Nat) : vf f (m + 2 + 1) = vf f m + ((f (m + 2) * 18446744073709551616 + f (m + 1)) * 18446744073709551616 + f m) * pw m := by
  rw [vf_succ, vf_succ, vf_succ, pw_succ (m + 1), pw_succ m]; grind

/-- A guess by the highest limbs is right or one too great. -/
theorem div_range {lu lv T V2 t p U V : Int} (hU : U = lu + T * p) (hV : V = lv + V2 * p) (a0 : 0 ≤ lu) (a1 : lu < p) (b0 : 0 ≤ lv) (b1 : lv < p) (hUV : U < V * 18446744073709551616) (hV2 : 18446744073709551616 ≤ V2) (t0 : 0 ≤ t) (t1 : t < 18446744073709551616) (h1 : t * V2 ≤ T) (h2 : t = 18446744073709551615 ∨ T < (t + 1) * V2) :
    U < (t + 1) * V ∧ (t - 1) * V ≤ U := by
  have hp : 0 < p := by omega
  constructor
  · rcases h2 with rfl | h2
    · omega
    · have e1 : (T + 1) * p ≤ (t + 1) * V2 * p := Int.mul_le_mul_of_nonneg_right (by omega) (Int.le_of_lt hp)
      have e2 : 0 ≤ (t + 1) * lv := Int.mul_nonneg (by omega) b0
      rw [hV, Int.mul_add, ← Int.mul_assoc, hU]
      rw [Int.add_mul, Int.one_mul] at e1
      omega
  · have hT : 0 ≤ T := Int.le_trans (Int.mul_nonneg t0 (by omega)) h1
    have hTp : 0 ≤ T * p := Int.mul_nonneg hT (Int.le_of_lt hp)
    by_cases h0 : t = 0
    · subst h0
      have : 0 ≤ V2 * p := Int.mul_nonneg (by omega) (Int.le_of_lt hp)
      omega
    · have e1 : (t - 1) * V ≤ (t - 1) * ((V2 + 1) * p) := Int.mul_le_mul_of_nonneg_left (by rw [Int.add_mul, Int.one_mul]; omega) (by omega)
      have e2 : (t - 1) * (V2 + 1) = t * V2 + t - V2 - 1 := by grind
      have e3 : (t - 1) * (V2 + 1) * p ≤ T * p := Int.mul_le_mul_of_nonneg_right (by rw [e2]; omega) (Int.le_of_lt hp)
      rw [← Int.mul_assoc] at e1
      omega

theorem only_drewN {g : Nat} {a w : World} (h : Only g a w) (q : Nat) : Only g a (w.drewN q) := ⟨h.os, h.tape, h.output, h.size, h.block⟩

/-- What takeOut leaves. -/
structure Took (g o n N : Nat) (f : Nat → Int) (w w' : World) (V t : Int) : Prop where
  t0 : 0 ≤ t
  t1 : t < 18446744073709551616
  only : Only g w w'
  res : ∃ f', Blk .u64 43 w' g N f' ∧ Lm f' N ∧ (∀ j, j < o ∨ o + (n + 1) ≤ j → f' j = f j) ∧ vf (sh f' o) (n + 1) = vf (sh f o) (n + 1) - t * V ∧ vf (sh f' o) (n + 1) < V

set_option maxRecDepth 100000 in
set_option maxHeartbeats 4000000 in
theorem takeOut_c (g o n cap N : Nat) (f : Nat → Int) (b ob cb : Nat) (h : Nat → Int) (w : World) (hb : Blk .u64 43 w g N f) (hf : Lm f N) (ho : o + (n + 1) ≤ N) (hN : N ≤ 17592186044416) (hcap : n + 1 ≤ cap) (hcm : cap ≤ 17592186044416)
    (hr : Rd .u64 w (some ⟨b, ob, none⟩) n h) (hh : Lm h n) (hoff : b ≠ g) (hn2 : 2 ≤ n) (htop : 9223372036854775808 ≤ h (n - 1)) (hUV : vf (sh f o) (n + 1) < vf h n * 18446744073709551616) :
    Calls Tryz.prog 153 #[.slice (some ⟨g, o, none⟩) (n + 1) cap, .slice (some ⟨b, ob, none⟩) n cb] w fun e w' => ∃ t, e = .returned (.int .u64 t) ∧ Took g o n N f w w' (vf h n) t := by
  obtain ⟨m, rfl⟩ : ∃ m, n = m + 2 := ⟨n - 2, by omega⟩
  obtain ⟨x2, hx2⟩ : ∃ x, f (o + (m + 2)) = x := ⟨_, rfl⟩
  obtain ⟨x1, hx1⟩ : ∃ x, f (o + (m + 1)) = x := ⟨_, rfl⟩
  obtain ⟨x0, hx0⟩ : ∃ x, f (o + m) = x := ⟨_, rfl⟩
  obtain ⟨y1, hy1⟩ : ∃ x, h (m + 1) = x := ⟨_, rfl⟩
  obtain ⟨y0, hy0⟩ : ∃ x, h m = x := ⟨_, rfl⟩
  have hcx2 : w.cell? ⟨g, o + (m + 2), none⟩ = some (.int .u64 x2) := by rw [← hx2]; exact hb.cell (by omega)
  have hcx1 : w.cell? ⟨g, o + (m + 1), none⟩ = some (.int .u64 x1) := by rw [← hx1]; exact hb.cell (by omega)
  have hcx0 : w.cell? ⟨g, o + m, none⟩ = some (.int .u64 x0) := by rw [← hx0]; exact hb.cell (by omega)
  have hcy1 : w.cell? ⟨b, ob + (m + 1), none⟩ = some (.int .u64 y1) := by rw [← hy1]; exact hr.cell (by omega)
  have hcy0 : w.cell? ⟨b, ob + m, none⟩ = some (.int .u64 y0) := by rw [← hy0]; exact hr.cell (by omega)
  have bx2 := hf (o + (m + 2)) (by omega)
  have bx1 := hf (o + (m + 1)) (by omega)
  have bx0 := hf (o + m) (by omega)
  have by1 := hh (m + 1) (by omega)
  have by0 := hh m (by omega)
  rw [hx2] at bx2; rw [hx1] at bx1; rw [hx0] at bx0; rw [hy1] at by1; rw [hy0] at by0
  have htop' : 9223372036854775808 ≤ y1 := by rw [← hy1]; exact htop
  have hU := top3 (sh f o) m
  have hV := top2 h m
  simp only [sh_at] at hU
  rw [hx2, hx1, hx0] at hU
  rw [hy1, hy0] at hV
  have lu0 := vf_nonneg (hf.sh (o := o) (m := m) (by omega))
  have lu1 := vf_lt (hf.sh (o := o) (m := m) (by omega))
  have lv0 := vf_nonneg (hh.mono (m := m) (by omega))
  have lv1 := vf_lt (hh.mono (m := m) (by omega))
  have hV0 := vf_nonneg hh
  have hV1 := vf_lt hh
  have hx2y1 : x2 ≤ y1 := by
    apply Int.le_of_lt_add_one
    have p0 := pw_pos m
    have e1 : ((x2 * 18446744073709551616 + x1) * 18446744073709551616 + x0) * pw m < ((y1 + 1) * 18446744073709551616 * 18446744073709551616) * pw m := by
      have a2 : (y1 * 18446744073709551616 + y0 + 1) * pw m ≤ ((y1 + 1) * 18446744073709551616) * pw m := Int.mul_le_mul_of_nonneg_right (by omega) (Int.le_of_lt p0)
      rw [Int.add_mul _ 1, Int.one_mul] at a2
      have a3 : ((y1 + 1) * 18446744073709551616 * 18446744073709551616) * pw m = ((y1 + 1) * 18446744073709551616) * pw m * 18446744073709551616 := by grind
      rw [a3]
      omega
    have e2 := Int.lt_of_mul_lt_mul_right e1 (Int.le_of_lt p0)
    omega
  obtain ⟨T, hT⟩ : ∃ T, (x2 * 18446744073709551616 + x1) * 18446744073709551616 + x0 = T := ⟨_, rfl⟩
  obtain ⟨V2, hV2⟩ : ∃ V2, y1 * 18446744073709551616 + y0 = V2 := ⟨_, rfl⟩
  have cg := fun W => guess_q x2 x1 x0 y1 y0 W bx2.1 hx2y1 bx1.1 bx1.2 bx0.1 bx0.2 by0.1 by0.2 (by omega) by1.2
  have hgi := gq_is (T := T) (V := V2) (by omega) (by omega)
  rw [hT] at hU cg
  rw [hV2] at hV cg
  obtain ⟨t, ht⟩ : ∃ t, gq T V2 = t := ⟨_, rfl⟩
  rw [ht] at cg hgi
  obtain ⟨t0, t1, ht1, ht2⟩ := hgi
  have hrange := div_range hU hV lu0 lu1 lv0 lv1 hUV (by omega) t0 t1 ht1 ht2
  have CG := hid cg; have RNG := hid hrange; have HB := hid hb; have HF := hid hf; have HR := hid hr; have HH := hid hh; have HX2 := hid hx2
  have hfz := hb.frozen (o + (m + 2))
  have BV0 := hid hV0; have BV1 := hid hV1
  clear cg hrange hb hf hr hh hT hV2 ht ht1 ht2 hU hV lu0 lu1 lv0 lv1 hUV hx2 hx1 hx0 hy1 hy0 htop hV0 hV1
  have i1 : ((m + 2 : Nat) : Int) < ((m + 2 + 1 : Nat) : Int) := by omega
  obtain ⟨bx2a, bx2b⟩ := bx2
  go_enter Tryz.func153, Tryz.ntmps153
  go_wp2
  go_quiet ((go_at_call 177; exact (CG.out _).mono (fun _ _ h => ⟨h.1, (by obtain ⟨q, hq⟩ := h.2; exact ⟨_, by rw [hq, World.drewN_drewN]⟩)⟩)))
  go_wp2_with fail
  refine (mulSubFrom_c g o (m + 2 + 1) cap N f (some ⟨b, ob, none⟩) (m + 2) cb h t (w.drewN _) HB.out HF.out ho HR.out HH.out (fun _ => off_some hoff) (by omega) hcap (by omega) t0 t1).mono ?_
  rintro e w1 ⟨ov, rfl, v0, v1, hon1, f1, hb1, hl1, he1, hv1⟩
  have HV1 := hid hv1
  have hx2' : f1 (o + (m + 2)) = x2 := (he1 _ (by omega)).trans HX2.out
  have hcx2' : w1.cell? ⟨g, o + (m + 2), none⟩ = some (.int .u64 x2) := by rw [← hx2']; exact hb1.cell (by omega)
  have hfz1 := hb1.frozen (o + (m + 2))
  have HX2' := hid hx2'
  have HE1 := hid he1; have HL1 := hid hl1; have HB1 := hid hb1
  clear hv1 hx2' he1 hl1 hb1 hcx2 hcx1 hcx0 hcy1 hcy0 hfz
  have n1 := vf_nonneg (HL1.out.sh (o := o) (m := m + 2) (by omega))
  have n2 := vf_lt (HL1.out.sh (o := o) (m := m + 2) (by omega))
  have N1 := hid n1; have N2 := hid n2
  clear n1 n2
  have hUe : vf (sh f o) (m + 2 + 1) = vf (sh f o) (m + 2) + x2 * pw (m + 2) := by rw [vf_succ, sh_at, HX2.out]
  have hmain : vf (sh f1 o) (m + 2) + (x2 - ov) * pw (m + 2) = vf (sh f o) (m + 2 + 1) - t * vf h (m + 2) := by
    have := HV1.out
    rw [hUe, Int.sub_mul, Int.mul_comm t]; omega
  have HMain := hid hmain
  have U0 := hid (vf_nonneg (HF.out.sh (o := o) (m := m + 2 + 1) (by omega)))
  have PW := hid (pw_pos (m + 2))
  have hupd : ∀ z, vf (sh (upd f1 (o + (m + 2)) z) o) (m + 2 + 1) = vf (sh f1 o) (m + 2) + z * pw (m + 2) := fun z => by
    rw [vf_succ, sh_at, upd_same, vf_congr (f := sh (upd f1 (o + (m + 2)) z) o) (g := sh f1 o) (fun j hj => upd_other _ _ _ _ (by omega))]
  have HUpd := hid hupd
  clear hUe hmain hupd CG
  by_cases hs : x2 < ov
  · have hneg : vf (sh f o) (m + 2 + 1) - t * vf h (m + 2) < 0 := by
      rw [← HMain.out]
      have := N2.out
      have e : (x2 - ov) * pw (m + 2) ≤ (-1) * pw (m + 2) := Int.mul_le_mul_of_nonneg_right (by omega) (Int.le_of_lt PW.out)
      omega
    have ht : 0 < t := by
      apply Int.lt_of_not_ge
      intro h0
      obtain rfl : t = 0 := by omega
      have := U0.out
      omega
    obtain ⟨s, rfl⟩ : ∃ s, t = s + 1 := ⟨t - 1, by omega⟩
    have hs1 : s + 1 - 1 = s := by omega
    have hw : IntKind.u64.wrap (x2 - ov) = x2 - ov + 18446744073709551616 := by rw [IntKind.wrap_u64]; omega
    have hsb : decide (x2 < ov) = true := by simp [hs]
    have hw2 : IntKind.u64.wrap (s + 1 - 1) = s := by rw [IntKind.wrap_u64]; omega
    have HNeg := hid hneg
    clear hneg
    go_wp2_with fail
    refine (addTo_g g o (m + 2 + 1) cap N _ (some ⟨b, ob, none⟩) (m + 2) cb h _ (HB1.out.set _ _) (HL1.out.upd (by omega)) ho (by omega) ((HR.out.only (only_drewN (Only.refl g w) _) (off_some hoff)).only (hon1.trans ((Only.refl _ _).setCell _ _ _)) (off_some hoff)) HH.out (fun _ => off_some hoff) (by omega) hcap (by omega)).mono ?_
    rintro e w2 ⟨rfl, hon2, f3, c, hb3, hl3, he3, hc0, hv3⟩
    have HV3 := hid hv3; have HB3 := hid hb3; have HL3 := hid hl3; have HE3 := hid he3
    clear hv3 hb3 hl3 he3
    go_wp2
    go_ret
    have r1 := RNG.out
    have r2 := HNeg.out
    have a1 := HV3.out
    rw [HUpd.out, Int.add_mul (x2 - ov), ← Int.add_assoc, HMain.out, ← pw_succ (m + 2)] at a1
    rw [show s + 1 - 1 = s by omega] at r1
    have a2 := vf_nonneg (HL3.out.sh (o := o) (m := m + 2 + 1) (by omega))
    have a3 := vf_lt (HL3.out.sh (o := o) (m := m + 2 + 1) (by omega))
    have a4 : (s + 1) * vf h (m + 2) = s * vf h (m + 2) + vf h (m + 2) := by rw [Int.add_mul, Int.one_mul]
    have a5 : (s + 1 + 1) * vf h (m + 2) = s * vf h (m + 2) + vf h (m + 2) + vf h (m + 2) := by rw [Int.add_mul, Int.add_mul, Int.one_mul]
    have a6 : pw (m + 2) < pw (m + 2 + 1) := by have := pw_pos (m + 2); rw [pw_succ (m + 2)]; omega
    have a7 := BV1.out
    have a8 := pw_pos (m + 2 + 1)
    have hc1 : c = 1 := by
      have hc2 : c < 2 := by
        apply Int.lt_of_not_ge; intro hc
        have : 2 * pw (m + 2 + 1) ≤ c * pw (m + 2 + 1) := Int.mul_le_mul_of_nonneg_right hc (Int.le_of_lt a8)
        omega
      have hc3 : c ≠ 0 := by
        rintro rfl
        omega
      omega
    subst hc1
    refine ⟨s, rfl, by omega, by omega, ((only_drewN (Only.refl g w) _).trans hon1).trans (((Only.refl _ _).setCell _ _ _).trans hon2), f3, HB3.out, HL3.out, fun j hj => ?_, by omega, by omega⟩
    rw [HE3.out j hj, upd_other _ _ _ _ (by omega), HE1.out j (by omega)]
  · have hw : IntKind.u64.wrap (x2 - ov) = x2 - ov := by rw [IntKind.wrap_u64]; omega
    have hsb : decide (x2 < ov) = false := by simp; omega
    go_wp2
    go_ret
    have r1 := RNG.out
    have a0 := HMain.out
    have a1 := HUpd.out (x2 - ov)
    have a4 : (t + 1) * vf h (m + 2) = t * vf h (m + 2) + vf h (m + 2) := by rw [Int.add_mul, Int.one_mul]
    refine ⟨t, rfl, t0, t1, ((only_drewN (Only.refl g w) _).trans hon1).trans ((Only.refl _ _).setCell _ _ _), upd f1 (o + (m + 2)) (x2 - ov), HB1.out.set _ _, HL1.out.upd (by omega), fun j hj => ?_, by omega, by omega⟩
    rw [upd_other _ _ _ _ (by omega), HE1.out j (by omega)]
end Go.Proofs.YtbmdhfpgkemilaaGreatDoor
