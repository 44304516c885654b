/-
  Walks of the document's reference for nat: Twin, From, To.
-/
import Derived.Test.YtjjbmioicliipaaDoorR1
namespace Go.Proofs.YtjjbmioicliipaaDoor
open Go.RowKit

set_option maxRecDepth 100000 in
set_option maxHeartbeats 400000 in
/-- Twin: a list of its own. -/
theorem twin_c (ao : Option Addr) (n cap : Nat) (f : Nat → Int) (w : World) (hn : n ≤ 1048576) (hr : Rd .u64 w ao n f) (hnil : ao = none → n = 0 ∧ cap = 0) :
    Calls Tryd.prog 13 #[.slice ao n cap] w fun e w' => ∃ ao' cap', e = .returned (.slice ao' n cap') ∧ Below w.heap.size w w' ∧ Rd .u64 w' ao' n f ∧ Own .u64 46 w' w.heap.size (.slice ao' n cap') n f := by
  cases ao with
  | none =>
    obtain ⟨rfl, rfl⟩ := hnil rfl
    go_enter Tryd.func13, Tryd.ntmps13
    obtain ⟨i0, hi, hz0, hz1, hz2⟩ := info_parts Tryd.infoU64
    go_wp2_with (at_builtin; refine wpList_append_own_none rfl (.tmp 4) (.tmp 5) 22 rfl w.heap.size 46 i0 1 Tryd.underlying22 hi (.slice none 0 0) 0 [] rfl (World.ownsRow_nil _ _ _ _) rfl ?_)
    go_ret
    exact ⟨none, 0, rfl, Below.refl _ _, Rd.zero, own_nil _ _ _ _ _⟩
  | some ad =>
    clear hnil
    have HR := hid hr
    clear hr
    go_enter Tryd.func13, Tryd.ntmps13
    obtain ⟨i0, hi, hz0, hz1, hz2⟩ := info_parts Tryd.infoU64
    go_wp2_with (at_builtin; refine wpList_append_own w rfl (.tmp 4) (.tmp 5) 22 rfl w.heap.size 46 i0 (.int .u64 0) 1 8 Tryd.underlying22 hi hz0 hz1 hz2 rfl (by decide) (.slice none 0 0) 0 [] rfl (World.ownsRow_nil _ _ _ _) ad n cap (lst .u64 f n) rfl (by rw [lst_length, Nat.mul_one]) ?c1 (lst_one _ _ _) ?c2 ?c3 (Nat.le_refl _) ?_)
    case c1 =>
      intro j u hu
      obtain ⟨hj, rfl⟩ := lst_getE hu
      obtain ⟨b, o, e, hc⟩ := HR.out j hj
      cases e
      rw [addr_add]; exact hc
    case c2 => unfold maxLen; omega
    case c3 => omega
    intro v' w' hown hgr _
    have hown' : Own .u64 46 w' w.heap.size v' n f := hown
    have hbel : Below w.heap.size w w' := (Below.refl _ _).grown hgr (Nat.le_refl _) (fun k h => by simp [Value.ownBlock] at h)
    have hs := hown'.shape
    obtain ⟨ao', cap', hv, hcc, hnn, hml, hrd, hlt⟩ := hs
    rw [hv] at hown' ⊢
    clear hown hgr hv
    have HO := hid hown'
    clear hown'
    go_wp2
    go_ret
    exact ⟨ao', cap', rfl, hbel, hrd, HO.out⟩

/-- The two digits of a limb. -/
def two32 (x : Int) : Nat → Int := fun j => if j = 0 then x % 4294967296 else x / 4294967296
/-- The digits of limbs. -/
def dig (f : Nat → Int) : Nat → Int := fun j => if j % 2 = 0 then f (j / 2) % 4294967296 else f (j / 2) / 4294967296
theorem dig_cat (f : Nat → Int) (k : Nat) : ∀ j, j < 2 * k + 2 → cat (dig f) (2 * k) (two32 (f k)) j = dig f j := by
  intro j hj
  by_cases h : j < 2 * k
  · exact cat_in h
  · rw [cat_out (by omega)]
    by_cases h2 : j = 2 * k
    · subst h2
      have e1 : 2 * k - 2 * k = 0 := by omega
      have e2 : 2 * k / 2 = k := by omega
      have e3 : 2 * k % 2 = 0 := by omega
      simp [two32, dig]
    · obtain rfl : j = 2 * k + 1 := by omega
      have e1 : 2 * k + 1 - 2 * k = 1 := by omega
      have e2 : (2 * k + 1) / 2 = k := by omega
      have e3 : (2 * k + 1) % 2 = 1 := by omega
      simp [two32, dig, e1, e2, e3]
theorem pd_two (k : Nat) : pd (2 * k) = pw k := by
  induction k with
  | zero => rfl
  | succ k ih =>
    have e : 2 * (k + 1) = 2 * k + 1 + 1 := by omega
    rw [e, pd_succ, pd_succ, pw_succ, ih]; omega
theorem dig_lm {f : Nat → Int} {n : Nat} (h : Lm f n) : Dg (dig f) (2 * n) := by
  intro j hj
  have := h (j / 2) (by omega)
  unfold dig
  split <;> omega
theorem dig_val (f : Nat → Int) (n : Nat) : vd (dig f) (2 * n) = vf f n := by
  induction n with
  | zero => rfl
  | succ k ih =>
    have e : 2 * (k + 1) = 2 * k + 1 + 1 := by omega
    have e2 : (2 * k + 1) / 2 = k := by omega
    have e3 : (2 * k + 1) % 2 = 1 := by omega
    have e4 : 2 * k / 2 = k := by omega
    have e5 : 2 * k % 2 = 0 := by omega
    have a1 : dig f (2 * k) = f k % 4294967296 := by simp [dig]
    have a2 : dig f (2 * k + 1) = f k / 4294967296 := by simp [dig, e2, e3]
    rw [e, vd_succ, vd_succ, ih, vf_succ, pd_succ, pd_two, a1, a2]
    have e6 : f k = 4294967296 * (f k / 4294967296) + f k % 4294967296 := by omega
    have e7 : f k * pw k = (4294967296 * (f k / 4294967296) + f k % 4294967296) * pw k := by rw [← e6]
    rw [e7]
    grind

theorem rd_new2 (w : World) (e : TypeId) (x : Int) : Rd .u64 (w.alloc (.cells #[.int .u64 (x % 4294967296), .int .u64 (x / 4294967296)] e)) (some ⟨w.heap.size, 0, none⟩) 2 (two32 x) :=
  Rd.mk (fun j hj => by
    rw [Nat.zero_add, World.cell?_alloc_new]
    rcases (show j = 0 ∨ j = 1 by omega) with rfl | rfl <;> simp [two32])

set_option maxRecDepth 100000 in
set_option maxHeartbeats 1000000 in
/-- From: the digits of limbs. -/
theorem from_c (ao : Option Addr) (n cap : Nat) (f : Nat → Int) (w : World) (hn : n ≤ 1048576) (hr : Rd .u64 w ao n f) (hf : Lm f n) :
    Calls Tryd.prog 34 #[.slice ao n cap] w fun e w' => ∃ ao' m cap', e = .returned (.slice ao' m cap') ∧ Below w.heap.size w w' ∧ Rd .u64 w' ao' m (dig f) ∧ m ≤ 2 * n ∧ (ao' = none → m = 0) ∧ Dg (dig f) m ∧ Fm (dig f) m ∧ vd (dig f) m = vf f n := by
  have HR := hid hr
  have HF := hid hf
  clear hr hf
  obtain ⟨i0, hi, hz0, hz1, hz2⟩ := info_parts Tryd.infoU64
  go_enter Tryd.func34, Tryd.ntmps34
  go_wp2_with (at_make; refine wpList_make_own w rfl (.const (.int .i64 0)) (.tmp 8) 22 rfl w.heap.size 46 i0 (.int .u64 0) 1 Tryd.underlying22 hi hz0 hz1 .i64 .i64 (2 * (n : Int)) (2 * n) rfl rfl (by omega) (by rw [hz2]; omega) (by unfold maxLen; omega) (Nat.le_refl _) ?_; intro w1 hown1 hgr1)
  have hb1 : Below w.heap.size w w1 := (Below.refl _ _).grown hgr1 (Nat.le_refl _) (fun k h => by cases h)
  have ho1 : Own .u64 46 w1 w.heap.size (.slice (some ⟨w.heap.size, 0, none⟩) 0 (2 * n)) 0 (dig f) := hown1
  clear hown1 hgr1
  have HO1 := hid ho1
  clear ho1
  go_loopw [3, 12] (fun v t wr => ∃ k : Nat, k ≤ n ∧ t = .int .i64 k ∧ Below w.heap.size w wr ∧ Hid (Own .u64 46 wr w.heap.size v (2 * k) (dig f))) (fun _ t _ => n - (intOf t).toNat)
  case atStart => exact ⟨0, by omega, rfl, hb1, HO1.out⟩
  case round =>
    clear hb1 HO1
    obtain ⟨k, hk, rfl, hbel, HO⟩ := hrel
    by_cases hlt : k < n
    · have hr := HR.out
      obtain ⟨b, o, rfl⟩ := hr.at (by omega)
      obtain ⟨x, hx⟩ : ∃ x, f k = x := ⟨_, rfl⟩
      have hcell : wr.cell? ⟨b, o + k, none⟩ = some (.int .u64 x) := by rw [← hx]; exact (hr.below hbel (Nat.le_refl _)).cell hlt
      obtain ⟨x0, x1⟩ := HF.out k hlt
      rw [hx] at x0 x1
      have HX := hid hx
      clear hx hr
      go_wp2_with (at_builtin; refine wpList_append_own_list .u64 _ rfl (.tmp 16) (.tmp 21) 22 rfl w.heap.size 46 8 Tryd.underlying22 Tryd.infoU64 _ (2 * k) (dig f) rfl (Own.alloc HO.out _) wr.heap.size 0 2 2 (two32 x) rfl (rd_new2 wr _ x) ?c1 ?c2 ?c3 ?_)
      case c1 => unfold maxLen; omega
      case c2 => omega
      case c3 => have := hbel.size; simp; omega
      intro v' w' hown hgr
      have hown2 : Own .u64 46 w' w.heap.size v' (2 * (k + 1)) (dig f) := (show Own .u64 46 w' w.heap.size v' (2 * k + 2) _ from hown).congr (fun j hj => by rw [← HX.out]; exact dig_cat f k j hj)
      have hbel2 : Below w.heap.size w w' := (hbel.alloc hbel.size _).grown hgr (by have := hbel.size; simp; omega) (fun k h => (Own.ge HO.out k h))
      have HO2 := hid hown2
      clear hown hgr hown2 HO
      go_wp2
      go_roundw
      case rel => exact ⟨k + 1, by omega, by go_num, hbel2, HO2.out⟩
      case measure => simp [intOf]; omega
    · have hkn : k = n := by omega
      subst hkn
      obtain ⟨ao', cap', hv, hcc, hnn, hml, hrd, hlt2⟩ := HO.out.shape
      unfold maxLen at hml
      subst hv
      clear HO hlt2
      go_wp2_with fail
      refine (low_c ao' (2 * k) cap' (dig f) wr hcc hml hrd hnn).mono ?_
      rintro e w2 ⟨rfl, m, hm, hz, hfm, rfl⟩
      have HZ := hid hz
      have HFM := hid hfm
      clear hz hfm
      go_wp2
      go_ret
      refine ⟨ao', m, cap', rfl, hbel, hrd.take hm, hm, fun h => ?_, (dig_lm HF.out).mono hm, HFM.out, ?_⟩
      · have := hnn h; omega
      · rw [trim_vald hm HZ.out]; exact dig_val f k

/-- The limbs of digits. -/
def lim (d : Nat → Int) (n : Nat) : Nat → Int := fun j => ext d n (2 * j) + 4294967296 * ext d n (2 * j + 1)
theorem ext_dg {d : Nat → Int} {n : Nat} (h : Dg d n) (j : Nat) : 0 ≤ ext d n j ∧ ext d n j < 4294967296 := by
  by_cases hj : j < n
  · rw [ext_in _ _ _ hj]; exact h j hj
  · rw [ext_out _ _ _ (by omega)]; omega
theorem lim_lm {d : Nat → Int} {n : Nat} (h : Dg d n) (k : Nat) : Lm (lim d n) k := fun j _ => by
  have a := ext_dg h (2 * j); have b := ext_dg h (2 * j + 1)
  unfold lim; omega
theorem lim_val (d : Nat → Int) (n k : Nat) : vf (lim d n) k = vd (ext d n) (2 * k) := by
  induction k with
  | zero => rfl
  | succ k ih =>
    have e : 2 * (k + 1) = 2 * k + 1 + 1 := by omega
    rw [e, vd_succ, vd_succ, ← ih, vf_succ, pd_succ, pd_two, lim]; grind
theorem vd_ext_list (h : Nat → Int) (m n : Nat) (hn : m ≤ n) : vd (ext h m) n = vd h m := by
  rw [vd_ext hn (fun j h1 _ => ext_out h m j h1)]
  exact vd_congr (fun j hj => ext_in h m j hj)
theorem lim_fm {d : Nat → Int} {n k : Nat} (h : Dg d n) (hf : Fm d n) (h1 : n ≤ 2 * k) (h2 : 2 * k ≤ n + 1) : Fm (lim d n) k := by
  by_cases h0 : n = 0
  · left; omega
  · right
    have hd : d (n - 1) ≠ 0 := by rcases hf with h | h; omega; exact h
    have a := ext_dg h (2 * (k - 1)); have b := ext_dg h (2 * (k - 1) + 1)
    unfold lim
    rcases (show n - 1 = 2 * (k - 1) ∨ n - 1 = 2 * (k - 1) + 1 by omega) with e | e
    · have := ext_in d n (2 * (k - 1)) (by omega)
      rw [← e] at this a ⊢
      omega
    · have := ext_in d n (2 * (k - 1) + 1) (by omega)
      rw [← e] at this b ⊢
      omega
theorem cat_one {f : Nat → Int} {k : Nat} {x : Int} (h : f k = x) : ∀ j, j < k + 1 → cat f k (fun _ => x) j = f j := by
  intro j hj
  by_cases h1 : j < k
  · exact cat_in h1
  · obtain rfl : j = k := by omega
    rw [cat_out (Nat.le_refl _), h]

set_option maxRecDepth 100000 in
set_option maxHeartbeats 1000000 in
/-- To: the limbs of digits. -/
theorem to_c (ao : Option Addr) (n cap : Nat) (d : Nat → Int) (w : World) (hn : n ≤ 1048576) (hr : Rd .u64 w ao n d) (hd : Dg d n) (hfm : Fm d n) :
    Calls Tryd.prog 32 #[.slice ao n cap] w fun e w' => ∃ ao' m cap' f, e = .returned (.slice ao' m cap') ∧ Below w.heap.size w w' ∧ Rd .u64 w' ao' m f ∧ m ≤ n ∧ Lm f m ∧ Fm f m ∧ vf f m = vd d n := by
  have HR := hid hr
  have HD := hid hd
  have HFM := hid hfm
  clear hr hd hfm
  go_enter Tryd.func32, Tryd.ntmps32
  go_wp2
  go_loopw [3, 4] (fun v t wr => ∃ k : Nat, 2 * k ≤ n + 1 ∧ t = .int .i64 (2 * k) ∧ Below w.heap.size w wr ∧ Hid (Own .u64 46 wr w.heap.size v k (lim d n))) (fun _ t _ => n + 2 - (intOf t).toNat)
  case atStart => exact ⟨0, by omega, rfl, Below.refl _ _, own_nil _ _ _ _ _⟩
  case round =>
    obtain ⟨k, hk, rfl, hbel, HO⟩ := hrel
    by_cases hlt : 2 * k < n
    · have hr := HR.out
      obtain ⟨b, o, rfl⟩ := hr.at (by omega)
      obtain ⟨x, hx⟩ : ∃ x, d (2 * k) = x := ⟨_, rfl⟩
      have hcell : wr.cell? ⟨b, o + 2 * k, none⟩ = some (.int .u64 x) := by rw [← hx]; exact (hr.below hbel (Nat.le_refl _)).cell hlt
      obtain ⟨x0, x1⟩ := HD.out (2 * k) hlt
      rw [hx] at x0 x1
      have HX := hid hx
      clear hx
      by_cases hlt2 : 2 * k + 1 < n
      · obtain ⟨y, hy⟩ : ∃ y, d (2 * k + 1) = y := ⟨_, rfl⟩
        have hcell2 : wr.cell? ⟨b, o + (2 * k + 1), none⟩ = some (.int .u64 y) := by rw [← hy]; exact (hr.below hbel (Nat.le_refl _)).cell hlt2
        obtain ⟨y0, y1⟩ := HD.out (2 * k + 1) hlt2
        rw [hy] at y0 y1
        have HY := hid hy
        clear hy hr
        have hl : lim d n k = x + y * 4294967296 := by unfold lim; rw [ext_in _ _ _ hlt, ext_in _ _ _ hlt2, HX.out, HY.out]; omega
        have HLm := hid hl
        clear hl
        go_wp2_with (at_builtin; refine wpList_append_own_list .u64 _ rfl (.tmp 29) (.tmp 31) 22 rfl w.heap.size 46 8 Tryd.underlying22 Tryd.infoU64 _ k (lim d n) rfl (Own.alloc HO.out _) wr.heap.size 0 1 1 (fun _ => x + y * 4294967296) rfl (rd_new1 wr _ _) ?c1 ?c2 ?c3 ?_)
        case c1 => unfold maxLen; omega
        case c2 => omega
        case c3 => have := hbel.size; simp; omega
        intro v' w' hown hgr
        have hown2 : Own .u64 46 w' w.heap.size v' (k + 1) (lim d n) := Own.congr hown (cat_one HLm.out)
        have hbel2 : Below w.heap.size w w' := (hbel.alloc hbel.size _).grown hgr (by have := hbel.size; simp; omega) (fun k h => (Own.ge HO.out k h))
        have HO2 := hid hown2
        clear hown hgr hown2 HO
        go_wp2
        go_roundw
        case rel => exact ⟨k + 1, by omega, by go_num, hbel2, HO2.out⟩
        case measure => simp [intOf]; omega
      · have hl : lim d n k = x := by unfold lim; rw [ext_in _ _ _ hlt, ext_out _ _ _ (by omega), HX.out]; omega
        have HLm := hid hl
        clear hl hr
        go_wp2_with (at_builtin; refine wpList_append_own_list .u64 _ rfl (.tmp 29) (.tmp 31) 22 rfl w.heap.size 46 8 Tryd.underlying22 Tryd.infoU64 _ k (lim d n) rfl (Own.alloc HO.out _) wr.heap.size 0 1 1 (fun _ => x) rfl (rd_new1 wr _ _) ?c1 ?c2 ?c3 ?_)
        case c1 => unfold maxLen; omega
        case c2 => omega
        case c3 => have := hbel.size; simp; omega
        intro v' w' hown hgr
        have hown2 : Own .u64 46 w' w.heap.size v' (k + 1) (lim d n) := Own.congr hown (cat_one HLm.out)
        have hbel2 : Below w.heap.size w w' := (hbel.alloc hbel.size _).grown hgr (by have := hbel.size; simp; omega) (fun k h => (Own.ge HO.out k h))
        have HO2 := hid hown2
        clear hown hgr hown2 HO
        go_wp2
        go_roundw
        case rel => exact ⟨k + 1, by omega, by go_num, hbel2, HO2.out⟩
        case measure => simp [intOf]; omega
    · obtain ⟨ao', cap', hv, hcc, hnn, hml, hrd, hlt2⟩ := HO.out.shape
      subst hv
      clear HO hlt2
      go_wp2
      go_ret
      exact ⟨ao', k, cap', _, rfl, hbel, hrd, by omega, lim_lm HD.out k, lim_fm HD.out HFM.out (by omega) hk, by rw [lim_val, vd_ext_list _ _ _ (by omega)]⟩
end Go.Proofs.YtjjbmioicliipaaDoor
