/-
  Walks of the document's reference for nat: Cmp, Add, Sub on digits, and the calls DocAdd, DocSub, DocCmp.
-/
import Derived.Test.YtjjbmioicliipaaDoorR2
namespace Go.Proofs.YtjjbmioicliipaaDoor
open Go.RowKit

theorem dcmp_step {f g : Nat → Int} {n k : Nat} (hf : Dg f n) (hg : Dg g n) (hk : k < n) (he : ∀ j, k < j → j < n → f j = g j) (hl : f k < g k) : vd f n < vd g n := by
  obtain ⟨d, rfl⟩ := Nat.exists_eq_add_of_le (show k + 1 ≤ n by omega)
  have e : vd (sh f (k + 1)) d = vd (sh g (k + 1)) d := vd_congr (fun j hj => he _ (by omega) (by omega))
  have a := vd_lt (hf.mono (m := k) (by omega)); have b := vd_nonneg (hg.mono (m := k) (by omega))
  have hp : (f k + 1) * pd k ≤ g k * pd k := Int.mul_le_mul_of_nonneg_right (by omega) (Int.le_of_lt (pd_pos k))
  rw [Int.add_mul, Int.one_mul] at hp
  rw [vd_split f (k + 1) d, vd_split g (k + 1) d, e, vd_succ f k, vd_succ g k]
  omega
theorem vd_cat1 (D : Nat → Int) (k : Nat) (x : Int) : vd (cat D k (fun _ => x)) (k + 1) = vd D k + x * pd k := by
  rw [vd_succ, vd_congr (f := cat D k (fun _ => x)) (g := D) (fun j hj => cat_in hj), cat_out (Nat.le_refl _)]
theorem dg_cat1 {D : Nat → Int} {k : Nat} {x : Int} (h : Dg D k) (hx : 0 ≤ x ∧ x < 4294967296) : Dg (cat D k (fun _ => x)) (k + 1) := fun j hj => by
  by_cases h1 : j < k
  · rw [cat_in h1]; exact h j h1
  · rw [cat_out (by omega)]; exact hx
/-- One digit of a sum. -/
theorem dadd_limb {V x c p : Int} : V + ((x + c) % 4294967296) * p + ((x + c) / 4294967296) * (4294967296 * p) = V + x * p + c * p := by
  have e : x + c = 4294967296 * ((x + c) / 4294967296) + (x + c) % 4294967296 := by omega
  grind
theorem dcarry_step {D F G : Nat → Int} {k : Nat} {cc x y : Int} (HV : vd D k + cc * pd k = vd F k + vd G k) (hx : F k = x) (hy : G k = y) :
    vd (cat D k (fun _ => (cc + x + y) % 4294967296)) (k + 1) + ((cc + x + y) / 4294967296) * pd (k + 1) = vd F (k + 1) + vd G (k + 1) := by
  rw [vd_cat1, vd_succ, vd_succ, pd_succ, hx, hy]
  have := dadd_limb (V := vd D k) (x := x + y) (c := cc) (p := pd k)
  have e : x + y + cc = cc + x + y := by omega
  rw [e] at this
  rw [this]
  grind
theorem dborrow_step {D F G : Nat → Int} {k : Nat} {cc x y v c' : Int} (HV : vd D k - cc * pd k = vd F k - vd G k) (hx : F k = x) (hy : G k = y) (hv : v = x - (cc + y) + 4294967296 * c') :
    vd (cat D k (fun _ => v)) (k + 1) - c' * pd (k + 1) = vd F (k + 1) - vd G (k + 1) := by
  rw [vd_cat1, vd_succ, vd_succ, pd_succ, hx, hy, hv]
  grind

set_option maxHeartbeats 800000 in
theorem rcmp_c (ao bo : Option Addr) (n m ca cb : Nat) (f g : Nat → Int) (w : World) (hm : n ≤ 140737488355328) (hm' : m ≤ 140737488355328)
    (hr : Rd .u64 w ao n f) (hs : Rd .u64 w bo m g) (hf : Dg f n) (hg : Dg g m) (ff : Fm f n) (fg : Fm g m) :
    Calls Tryd.prog 37 #[.slice ao n ca, .slice bo m cb] w fun e w' => (∃ q, w' = w.drewN q) ∧ ∃ c, e = .returned (.int .i64 c) ∧ Ord c (vd f n) (vd g m) := by
  have FF := hid ff
  have FG := hid fg
  have HF := hid hf
  have HG := hid hg
  clear ff fg hf hg
  rcases Nat.lt_trichotomy n m with hlt | heq | hlt
  · have h1 : ((n : Int) != m) = true := by simp; omega
    have h2 : decide ((n : Int) < m) = true := by simp; omega
    have h3 : vd f n < vd g m := by
      apply Int.lt_of_not_ge; intro h
      have := vd_len HG.out HF.out FG.out h; omega
    have H3 := hid h3
    clear h3
    go_enter Tryd.func37, Tryd.ntmps37
    go_wp2
    go_ret
    exact ⟨⟨0, rfl⟩, -1, rfl, .inl ⟨rfl, H3.out⟩⟩
  · subst heq
    have h1 : ((n : Int) != n) = false := by simp
    go_enter Tryd.func37, Tryd.ntmps37
    go_wp2
    go_loopw [5] (fun t wr => ∃ i : Nat, i ≤ n ∧ t = .int .i64 ((i : Int) - 1) ∧ Hid (∀ j, i ≤ j → j < n → f j = g j) ∧ ∃ q, wr = w.drewN q) (fun t _ => ((intOf t) + 1).toNat)
    case atStart => exact ⟨n, by omega, rfl, fun j h1 h2 => by omega, 0, rfl⟩
    case round =>
      obtain ⟨i, hin, rfl, HE, q, rfl⟩ := hrel
      by_cases hlt : 0 < i
      · obtain ⟨b, o, rfl⟩ := hr.at (by omega)
        obtain ⟨b', o', rfl⟩ := hs.at (by omega)
        obtain ⟨x, hx⟩ : ∃ x, f (i - 1) = x := ⟨_, rfl⟩
        obtain ⟨y, hy⟩ : ∃ y, g (i - 1) = y := ⟨_, rfl⟩
        have hca : w.cell? ⟨b, o + (i - 1), none⟩ = some (.int .u64 x) := by rw [← hx]; exact hr.cell (by omega)
        have hcb : w.cell? ⟨b', o' + (i - 1), none⟩ = some (.int .u64 y) := by rw [← hy]; exact hs.cell (by omega)
        have HX := hid hx
        have HY := hid hy
        clear hx hy hr hs
        rcases Int.lt_trichotomy x y with hl | hxy | hl
        · have hd : decide (x < y) = true := by simp [hl]
          go_wp2
          go_quiet (fail)
          go_wp2
          go_ret
          refine ⟨⟨_, by (repeat rw [World.drewN_drewN]) <;> rfl⟩, -1, rfl, .inl ⟨rfl, dcmp_step HF.out HG.out (k := i - 1) (by omega) (fun j h1 h2 => HE.out j (by omega) h2) (by rw [HX.out, HY.out]; exact hl)⟩⟩
        · subst hxy
          have hd : decide (x < x) = false := by simp
          go_wp2
          go_quiet (fail)
          go_wp2
          go_quiet (fail)
          go_wp2
          go_roundw
          case rel =>
            refine ⟨i - 1, by omega, by go_num, fun j h1 h2 => ?_, _, by (repeat rw [World.drewN_drewN]) <;> rfl⟩
            by_cases hj : j = i - 1
            · rw [hj]; exact HX.out.trans HY.out.symm
            · exact HE.out j (by omega) h2
          case measure => simp [intOf]; omega
        · have hd : decide (x < y) = false := by simp; omega
          have hd2 : decide (y < x) = true := by simp [hl]
          go_wp2
          go_quiet (fail)
          go_wp2
          go_quiet (fail)
          go_wp2
          go_ret
          refine ⟨⟨_, by (repeat rw [World.drewN_drewN]) <;> rfl⟩, 1, rfl, .inr (.inr ⟨rfl, dcmp_step HG.out HF.out (k := i - 1) (by omega) (fun j h1 h2 => (HE.out j (by omega) h2).symm) (by rw [HX.out, HY.out]; omega)⟩)⟩
      · have hi : i = 0 := by omega
        subst hi
        go_wp2
        go_ret
        exact ⟨⟨_, rfl⟩, 0, rfl, .inr (.inl ⟨rfl, vd_congr (fun j hj => HE.out j (by omega) hj)⟩)⟩
  · have h1 : ((n : Int) != m) = true := by simp; omega
    have h2 : decide ((n : Int) < m) = false := by simp; omega
    have h3 : vd g m < vd f n := by
      apply Int.lt_of_not_ge; intro h
      have := vd_len HF.out HG.out FF.out h; omega
    have H3 := hid h3
    clear h3
    go_enter Tryd.func37, Tryd.ntmps37
    go_wp2
    go_ret
    exact ⟨⟨0, rfl⟩, 1, rfl, .inr (.inr ⟨rfl, H3.out⟩)⟩

set_option maxRecDepth 100000 in
set_option maxHeartbeats 2000000 in
/-- Add: the sum, on digits. -/
theorem radd_c (ao bo : Option Addr) (n m ca cb : Nat) (f h : Nat → Int) (w : World) (hn : n ≤ 1048576) (hm : m ≤ 1048576) (hr : Rd .u64 w ao n f) (hs : Rd .u64 w bo m h) (hf : Dg f n) (hh : Dg h m) :
    Calls Tryd.prog 33 #[.slice ao n ca, .slice bo m cb] w fun e w' => ∃ ao' k cap' D, e = .returned (.slice ao' k cap') ∧ Below w.heap.size w w' ∧ Rd .u64 w' ao' k D ∧ k ≤ n + m + 1 ∧ Dg D k ∧ Fm D k ∧ vd D k = vd f n + vd h m := by
  obtain ⟨i0, hi, hz0, hz1, hz2⟩ := info_parts Tryd.infoU64
  have RA0 := hid hr
  have RB0 := hid hs
  have DA0 := hid hf
  have DB0 := hid hh
  clear hr hs hf hh
  by_cases hsw : n < m
  · have RA := RB0
    have RB := RA0
    have DA := DB0
    have DB := DA0
    clear RA0 RB0 DA0 DB0
    go_enter Tryd.func33, Tryd.ntmps33
    go_wp2_with (at_make; refine wpList_make_own w rfl (.const (.int .i64 0)) (.tmp 18) 22 rfl w.heap.size 46 i0 (.int .u64 0) 1 Tryd.underlying22 hi hz0 hz1 .i64 .i64 ((m : Int) + 1) (m + 1) rfl rfl (by omega) (by rw [hz2]; omega) (by unfold maxLen; omega) (Nat.le_refl _) ?_; intro w1 hown1 hgr1)
    have hb1 : Below w.heap.size w w1 := (Below.refl _ _).grown hgr1 (Nat.le_refl _) (fun k h => by cases h)
    have HO1 := hid (show Own .u64 46 w1 w.heap.size (.slice (some ⟨w.heap.size, 0, none⟩) 0 (m + 1)) 0 (fun _ => 0) from hown1)
    clear hown1 hgr1
    go_loopw [5, 6, 22] (fun v c t wr => ∃ (k : Nat) (cc : Int) (D : Nat → Int), k ≤ m ∧ t = .int .i64 k ∧ c = .int .u64 cc ∧ 0 ≤ cc ∧ cc ≤ 1 ∧ Below w.heap.size w wr ∧ Hid (Own .u64 46 wr w.heap.size v k D) ∧ Hid (Dg D k) ∧ Hid (vd D k + cc * pd k = vd h k + vd (ext f n) k)) (fun _ _ t _ => m - (intOf t).toNat)
    case atStart => exact ⟨0, 0, fun _ => 0, by omega, rfl, rfl, by omega, by omega, hb1, HO1.out, fun j hj => by omega, by simp [Hid, vd, pd]⟩
    case round =>
      clear hb1 HO1
      obtain ⟨k, cc, D, hk, rfl, rfl, c0, c1, hbel, HO, HDg, HV⟩ := hrel
      by_cases hlt : k < m
      · have hrA := RA.out
        obtain ⟨b, o, rfl⟩ := hrA.at (by omega)
        obtain ⟨x, hx⟩ : ∃ x, h k = x := ⟨_, rfl⟩
        have hcell : wr.cell? ⟨b, o + k, none⟩ = some (.int .u64 x) := by rw [← hx]; exact (hrA.below hbel (Nat.le_refl _)).cell hlt
        obtain ⟨x0, x1⟩ := DA.out k hlt
        rw [hx] at x0 x1
        have HX := hid hx
        clear hx hrA
        by_cases hlt2 : k < n
        · have hrB := RB.out
          obtain ⟨b', o', rfl⟩ := hrB.at (by omega)
          obtain ⟨y, hy⟩ : ∃ y, f k = y := ⟨_, rfl⟩
          have hcelb : wr.cell? ⟨b', o' + k, none⟩ = some (.int .u64 y) := by rw [← hy]; exact (hrB.below hbel (Nat.le_refl _)).cell hlt2
          obtain ⟨y0, y1⟩ := DB.out k hlt2
          rw [hy] at y0 y1
          have HY := hid (show ext f n k = y from (ext_in _ _ _ hlt2).trans hy)
          clear hy hrB
          go_wp2_with (at_builtin; refine wpList_append_own_list .u64 _ rfl (.tmp 40) (.tmp 43) 22 rfl w.heap.size 46 8 Tryd.underlying22 Tryd.infoU64 _ k D rfl (Own.alloc HO.out _) wr.heap.size 0 1 1 (fun _ => (cc + x + y) % 4294967296) rfl (rd_new1 wr _ _) ?c1 ?c2 ?c3 ?_)
          case c1 => unfold maxLen; omega
          case c2 => omega
          case c3 => have := hbel.size; simp; omega
          intro v' w' hown hgr
          have hbel2 : Below w.heap.size w w' := (hbel.alloc hbel.size _).grown hgr (by have := hbel.size; simp; omega) (fun k h => (Own.ge HO.out k h))
          have HO2 := hid hown
          clear hown hgr HO
          go_wp2
          go_roundw
          case rel => exact ⟨k + 1, _, _, by omega, by go_num, rfl, by omega, by omega, hbel2, HO2.out, dg_cat1 HDg.out (by omega), dcarry_step HV.out HX.out HY.out⟩
          case measure => simp [intOf]; omega
        · have HY := hid (show ext f n k = 0 from ext_out _ _ _ (by omega))
          go_wp2_with (at_builtin; refine wpList_append_own_list .u64 _ rfl (.tmp 40) (.tmp 43) 22 rfl w.heap.size 46 8 Tryd.underlying22 Tryd.infoU64 _ k D rfl (Own.alloc HO.out _) wr.heap.size 0 1 1 (fun _ => (cc + x) % 4294967296) rfl (rd_new1 wr _ _) ?c1 ?c2 ?c3 ?_)
          case c1 => unfold maxLen; omega
          case c2 => omega
          case c3 => have := hbel.size; simp; omega
          intro v' w' hown hgr
          have hbel2 : Below w.heap.size w w' := (hbel.alloc hbel.size _).grown hgr (by have := hbel.size; simp; omega) (fun k h => (Own.ge HO.out k h))
          have HO2 := hid hown
          clear hown hgr HO
          go_wp2
          go_roundw
          case rel => exact ⟨k + 1, _, _, by omega, by go_num, rfl, by omega, by omega, hbel2, HO2.out, dg_cat1 HDg.out (by omega), (by have := dcarry_step HV.out HX.out HY.out; simpa [Hid] using this)⟩
          case measure => simp [intOf]; omega
      · have hkn : k = m := by omega
        subst hkn
        go_wp2_with (at_builtin; refine wpList_append_own_list .u64 _ rfl (.tmp 48) (.tmp 50) 22 rfl w.heap.size 46 8 Tryd.underlying22 Tryd.infoU64 _ k D rfl (Own.alloc HO.out _) wr.heap.size 0 1 1 (fun _ => cc) rfl (rd_new1 wr _ _) ?c1 ?c2 ?c3 ?_)
        case c1 => unfold maxLen; omega
        case c2 => omega
        case c3 => have := hbel.size; simp; omega
        intro v' w' hown hgr
        have hbel2 : Below w.heap.size w w' := (hbel.alloc hbel.size _).grown hgr (by have := hbel.size; simp; omega) (fun k h => (Own.ge HO.out k h))
        obtain ⟨ao', cap', hv, hcc, hnn, hml, hrd, hlt3⟩ := Own.shape hown
        unfold maxLen at hml
        subst hv
        clear hown hgr HO hlt3
        go_wp2_with fail
        refine (low_c ao' (k + 1) cap' (cat D k (fun _ => cc)) w' hcc hml hrd hnn).mono ?_
        rintro e w2 ⟨rfl, m', hm1, hz, hfm, rfl⟩
        have HZ := hid hz
        have HFM := hid hfm
        clear hz hfm
        go_wp2
        go_ret
        refine ⟨ao', m', cap', _, rfl, hbel2, hrd.take hm1, by omega, (dg_cat1 HDg.out (by omega)).mono hm1, HFM.out, ?_⟩
        rw [trim_vald hm1 HZ.out, vd_cat1, HV.out, vd_ext_list _ _ _ (by omega)]
        omega
  · have RA := RA0
    have RB := RB0
    have DA := DA0
    have DB := DB0
    clear RA0 RB0 DA0 DB0
    go_enter Tryd.func33, Tryd.ntmps33
    go_wp2_with (at_make; refine wpList_make_own w rfl (.const (.int .i64 0)) (.tmp 18) 22 rfl w.heap.size 46 i0 (.int .u64 0) 1 Tryd.underlying22 hi hz0 hz1 .i64 .i64 ((n : Int) + 1) (n + 1) rfl rfl (by omega) (by rw [hz2]; omega) (by unfold maxLen; omega) (Nat.le_refl _) ?_; intro w1 hown1 hgr1)
    have hb1 : Below w.heap.size w w1 := (Below.refl _ _).grown hgr1 (Nat.le_refl _) (fun k h => by cases h)
    have HO1 := hid (show Own .u64 46 w1 w.heap.size (.slice (some ⟨w.heap.size, 0, none⟩) 0 (n + 1)) 0 (fun _ => 0) from hown1)
    clear hown1 hgr1
    go_loopw [5, 6, 22] (fun v c t wr => ∃ (k : Nat) (cc : Int) (D : Nat → Int), k ≤ n ∧ t = .int .i64 k ∧ c = .int .u64 cc ∧ 0 ≤ cc ∧ cc ≤ 1 ∧ Below w.heap.size w wr ∧ Hid (Own .u64 46 wr w.heap.size v k D) ∧ Hid (Dg D k) ∧ Hid (vd D k + cc * pd k = vd f k + vd (ext h m) k)) (fun _ _ t _ => n - (intOf t).toNat)
    case atStart => exact ⟨0, 0, fun _ => 0, by omega, rfl, rfl, by omega, by omega, hb1, HO1.out, fun j hj => by omega, by simp [Hid, vd, pd]⟩
    case round =>
      clear hb1 HO1
      obtain ⟨k, cc, D, hk, rfl, rfl, c0, c1, hbel, HO, HDg, HV⟩ := hrel
      by_cases hlt : k < n
      · have hrA := RA.out
        obtain ⟨b, o, rfl⟩ := hrA.at (by omega)
        obtain ⟨x, hx⟩ : ∃ x, f k = x := ⟨_, rfl⟩
        have hcell : wr.cell? ⟨b, o + k, none⟩ = some (.int .u64 x) := by rw [← hx]; exact (hrA.below hbel (Nat.le_refl _)).cell hlt
        obtain ⟨x0, x1⟩ := DA.out k hlt
        rw [hx] at x0 x1
        have HX := hid hx
        clear hx hrA
        by_cases hlt2 : k < m
        · have hrB := RB.out
          obtain ⟨b', o', rfl⟩ := hrB.at (by omega)
          obtain ⟨y, hy⟩ : ∃ y, h k = y := ⟨_, rfl⟩
          have hcelb : wr.cell? ⟨b', o' + k, none⟩ = some (.int .u64 y) := by rw [← hy]; exact (hrB.below hbel (Nat.le_refl _)).cell hlt2
          obtain ⟨y0, y1⟩ := DB.out k hlt2
          rw [hy] at y0 y1
          have HY := hid (show ext h m k = y from (ext_in _ _ _ hlt2).trans hy)
          clear hy hrB
          go_wp2_with (at_builtin; refine wpList_append_own_list .u64 _ rfl (.tmp 40) (.tmp 43) 22 rfl w.heap.size 46 8 Tryd.underlying22 Tryd.infoU64 _ k D rfl (Own.alloc HO.out _) wr.heap.size 0 1 1 (fun _ => (cc + x + y) % 4294967296) rfl (rd_new1 wr _ _) ?c1 ?c2 ?c3 ?_)
          case c1 => unfold maxLen; omega
          case c2 => omega
          case c3 => have := hbel.size; simp; omega
          intro v' w' hown hgr
          have hbel2 : Below w.heap.size w w' := (hbel.alloc hbel.size _).grown hgr (by have := hbel.size; simp; omega) (fun k h => (Own.ge HO.out k h))
          have HO2 := hid hown
          clear hown hgr HO
          go_wp2
          go_roundw
          case rel => exact ⟨k + 1, _, _, by omega, by go_num, rfl, by omega, by omega, hbel2, HO2.out, dg_cat1 HDg.out (by omega), dcarry_step HV.out HX.out HY.out⟩
          case measure => simp [intOf]; omega
        · have HY := hid (show ext h m k = 0 from ext_out _ _ _ (by omega))
          go_wp2_with (at_builtin; refine wpList_append_own_list .u64 _ rfl (.tmp 40) (.tmp 43) 22 rfl w.heap.size 46 8 Tryd.underlying22 Tryd.infoU64 _ k D rfl (Own.alloc HO.out _) wr.heap.size 0 1 1 (fun _ => (cc + x) % 4294967296) rfl (rd_new1 wr _ _) ?c1 ?c2 ?c3 ?_)
          case c1 => unfold maxLen; omega
          case c2 => omega
          case c3 => have := hbel.size; simp; omega
          intro v' w' hown hgr
          have hbel2 : Below w.heap.size w w' := (hbel.alloc hbel.size _).grown hgr (by have := hbel.size; simp; omega) (fun k h => (Own.ge HO.out k h))
          have HO2 := hid hown
          clear hown hgr HO
          go_wp2
          go_roundw
          case rel => exact ⟨k + 1, _, _, by omega, by go_num, rfl, by omega, by omega, hbel2, HO2.out, dg_cat1 HDg.out (by omega), (by have := dcarry_step HV.out HX.out HY.out; simpa [Hid] using this)⟩
          case measure => simp [intOf]; omega
      · have hkn : k = n := by omega
        subst hkn
        go_wp2_with (at_builtin; refine wpList_append_own_list .u64 _ rfl (.tmp 48) (.tmp 50) 22 rfl w.heap.size 46 8 Tryd.underlying22 Tryd.infoU64 _ k D rfl (Own.alloc HO.out _) wr.heap.size 0 1 1 (fun _ => cc) rfl (rd_new1 wr _ _) ?c1 ?c2 ?c3 ?_)
        case c1 => unfold maxLen; omega
        case c2 => omega
        case c3 => have := hbel.size; simp; omega
        intro v' w' hown hgr
        have hbel2 : Below w.heap.size w w' := (hbel.alloc hbel.size _).grown hgr (by have := hbel.size; simp; omega) (fun k h => (Own.ge HO.out k h))
        obtain ⟨ao', cap', hv, hcc, hnn, hml, hrd, hlt3⟩ := Own.shape hown
        unfold maxLen at hml
        subst hv
        clear hown hgr HO hlt3
        go_wp2_with fail
        refine (low_c ao' (k + 1) cap' (cat D k (fun _ => cc)) w' hcc hml hrd hnn).mono ?_
        rintro e w2 ⟨rfl, m', hm1, hz, hfm, rfl⟩
        have HZ := hid hz
        have HFM := hid hfm
        clear hz hfm
        go_wp2
        go_ret
        refine ⟨ao', m', cap', _, rfl, hbel2, hrd.take hm1, by omega, (dg_cat1 HDg.out (by omega)).mono hm1, HFM.out, ?_⟩
        rw [trim_vald hm1 HZ.out, vd_cat1, HV.out, vd_ext_list _ _ _ (by omega)]
end Go.Proofs.YtjjbmioicliipaaDoor
