/-
  Walks of the document's reference for nat: Sub on digits, and the calls DocAdd, DocSub, DocCmp.
-/
import Derived.Test.YtjjbmioicliipaaDoorR3
namespace Go.Proofs.YtjjbmioicliipaaDoor
open Go.RowKit

set_option maxRecDepth 100000 in
set_option maxHeartbeats 2000000 in
/-- Sub: the difference, on digits. -/
theorem rsub_c (ao bo : Option Addr) (n m ca cb : Nat) (f h : Nat → Int) (w : World) (hn : n ≤ 1048576) (hm : m ≤ 1048576) (hmn : m ≤ n) (hr : Rd .u64 w ao n f) (hs : Rd .u64 w bo m h) (hf : Dg f n) (hh : Dg h m) (hle : vd h m ≤ vd f n) :
    Calls Tryd.prog 38 #[.slice ao n ca, .slice bo m cb] w fun e w' => ∃ ao' k cap' D, e = .returned (.slice ao' k cap') ∧ Below w.heap.size w w' ∧ Rd .u64 w' ao' k D ∧ k ≤ n ∧ Dg D k ∧ Fm D k ∧ vd D k = vd f n - vd h m := by
  obtain ⟨i0, hi, hz0, hz1, hz2⟩ := info_parts Tryd.infoU64
  have RA := hid hr
  have RB := hid hs
  have DA := hid hf
  have DB := hid hh
  have HLe := hid hle
  clear hr hs hf hh hle
  go_enter Tryd.func38, Tryd.ntmps38
  go_wp2_with (at_make; refine wpList_make_own w rfl (.const (.int .i64 0)) (.tmp 11) 22 rfl w.heap.size 46 i0 (.int .u64 0) 1 Tryd.underlying22 hi hz0 hz1 .i64 .i64 n n rfl rfl (by omega) (by rw [hz2]; omega) (by unfold maxLen; omega) (Nat.le_refl _) ?_; intro w1 hown1 hgr1)
  have hb1 : Below w.heap.size w w1 := (Below.refl _ _).grown hgr1 (Nat.le_refl _) (fun k h => by cases h)
  have HO1 := hid (show Own .u64 46 w1 w.heap.size (.slice (some ⟨w.heap.size, 0, none⟩) 0 n) 0 (fun _ => 0) from hown1)
  clear hown1 hgr1
  go_loopw [5, 6, 15] (fun v c t wr => ∃ (k : Nat) (cc : Int) (D : Nat → Int), k ≤ n ∧ t = .int .i64 k ∧ c = .int .u64 cc ∧ 0 ≤ cc ∧ cc ≤ 1 ∧ Below w.heap.size w wr ∧ Hid (Own .u64 46 wr w.heap.size v k D) ∧ Hid (Dg D k) ∧ Hid (vd D k - cc * pd k = vd f k - vd (ext h m) k)) (fun _ _ t _ => n - (intOf t).toNat)
  case atStart => exact ⟨0, 0, fun _ => 0, by omega, rfl, rfl, by omega, by omega, hb1, HO1.out, fun j hj => by omega, by simp [Hid, vd, pd]⟩
  case round =>
    clear hb1 HO1
    obtain ⟨k, cc, D, hk, rfl, rfl, c0, c1, hbel, HO, HDg, HV⟩ := hrel
    by_cases hlt : k < n
    · have hrA := RA.out
      obtain ⟨b, o, rfl⟩ := hrA.at (by omega)
      obtain ⟨x, hx⟩ : ∃ x, f k = x := ⟨_, rfl⟩
      have hcell : wr.cell? ⟨b, o + k, none⟩ = some (.int .u64 x) := by rw [← hx]; exact (hrA.below hbel (Nat.le_refl _)).cell hlt
      obtain ⟨x0, x1⟩ := DA.out k hlt
      rw [hx] at x0 x1
      have HX := hid hx
      clear hx hrA
      by_cases hlt2 : k < m
      · have hrB := RB.out
        obtain ⟨b', o', rfl⟩ := hrB.at (by omega)
        obtain ⟨y, hy⟩ : ∃ y, h k = y := ⟨_, rfl⟩
        have hcelb : wr.cell? ⟨b', o' + k, none⟩ = some (.int .u64 y) := by rw [← hy]; exact (hrB.below hbel (Nat.le_refl _)).cell hlt2
        obtain ⟨y0, y1⟩ := DB.out k hlt2
        rw [hy] at y0 y1
        have HY := hid (show ext h m k = y from (ext_in _ _ _ hlt2).trans hy)
        clear hy hrB
        by_cases hxy : x < cc + y
        · go_wp2_with (at_builtin; refine wpList_append_own_list .u64 _ rfl (.tmp 36) (.tmp 40) 22 rfl w.heap.size 46 8 Tryd.underlying22 Tryd.infoU64 _ k D rfl (Own.alloc HO.out _) wr.heap.size 0 1 1 (fun _ => x + 4294967296 - (cc + y)) rfl (rd_new1 wr _ _) ?c1 ?c2 ?c3 ?_)
          case c1 => unfold maxLen; omega
          case c2 => omega
          case c3 => have := hbel.size; simp; omega
          intro v' w' hown hgr
          have hbel2 : Below w.heap.size w w' := (hbel.alloc hbel.size _).grown hgr (by have := hbel.size; simp; omega) (fun k h => (Own.ge HO.out k h))
          have HO2 := hid hown
          clear hown hgr HO
          go_wp2
          go_roundw
          case rel => exact ⟨k + 1, 1, _, by omega, by go_num, rfl, by omega, by omega, hbel2, HO2.out, dg_cat1 HDg.out (by omega), dborrow_step HV.out HX.out HY.out (by omega)⟩
          case measure => simp [intOf]; omega
        · go_wp2_with (at_builtin; refine wpList_append_own_list .u64 _ rfl (.tmp 36) (.tmp 40) 22 rfl w.heap.size 46 8 Tryd.underlying22 Tryd.infoU64 _ k D rfl (Own.alloc HO.out _) wr.heap.size 0 1 1 (fun _ => x - (cc + y)) rfl (rd_new1 wr _ _) ?c1 ?c2 ?c3 ?_)
          case c1 => unfold maxLen; omega
          case c2 => omega
          case c3 => have := hbel.size; simp; omega
          intro v' w' hown hgr
          have hbel2 : Below w.heap.size w w' := (hbel.alloc hbel.size _).grown hgr (by have := hbel.size; simp; omega) (fun k h => (Own.ge HO.out k h))
          have HO2 := hid hown
          clear hown hgr HO
          go_wp2
          go_roundw
          case rel => exact ⟨k + 1, 0, _, by omega, by go_num, rfl, by omega, by omega, hbel2, HO2.out, dg_cat1 HDg.out (by omega), dborrow_step HV.out HX.out HY.out (by omega)⟩
          case measure => simp [intOf]; omega
      · have HY := hid (show ext h m k = 0 from ext_out _ _ _ (by omega))
        by_cases hxy : x < cc
        · go_wp2_with (at_builtin; refine wpList_append_own_list .u64 _ rfl (.tmp 36) (.tmp 40) 22 rfl w.heap.size 46 8 Tryd.underlying22 Tryd.infoU64 _ k D rfl (Own.alloc HO.out _) wr.heap.size 0 1 1 (fun _ => x + 4294967296 - cc) rfl (rd_new1 wr _ _) ?c1 ?c2 ?c3 ?_)
          case c1 => unfold maxLen; omega
          case c2 => omega
          case c3 => have := hbel.size; simp; omega
          intro v' w' hown hgr
          have hbel2 : Below w.heap.size w w' := (hbel.alloc hbel.size _).grown hgr (by have := hbel.size; simp; omega) (fun k h => (Own.ge HO.out k h))
          have HO2 := hid hown
          clear hown hgr HO
          go_wp2
          go_roundw
          case rel => exact ⟨k + 1, 1, _, by omega, by go_num, rfl, by omega, by omega, hbel2, HO2.out, dg_cat1 HDg.out (by omega), dborrow_step HV.out HX.out HY.out (by omega)⟩
          case measure => simp [intOf]; omega
        · go_wp2_with (at_builtin; refine wpList_append_own_list .u64 _ rfl (.tmp 36) (.tmp 40) 22 rfl w.heap.size 46 8 Tryd.underlying22 Tryd.infoU64 _ k D rfl (Own.alloc HO.out _) wr.heap.size 0 1 1 (fun _ => x - cc) rfl (rd_new1 wr _ _) ?c1 ?c2 ?c3 ?_)
          case c1 => unfold maxLen; omega
          case c2 => omega
          case c3 => have := hbel.size; simp; omega
          intro v' w' hown hgr
          have hbel2 : Below w.heap.size w w' := (hbel.alloc hbel.size _).grown hgr (by have := hbel.size; simp; omega) (fun k h => (Own.ge HO.out k h))
          have HO2 := hid hown
          clear hown hgr HO
          go_wp2
          go_roundw
          case rel => exact ⟨k + 1, 0, _, by omega, by go_num, rfl, by omega, by omega, hbel2, HO2.out, dg_cat1 HDg.out (by omega), dborrow_step HV.out HX.out HY.out (by omega)⟩
          case measure => simp [intOf]; omega
    · have hkn : k = n := by omega
      subst hkn
      obtain ⟨ao', cap', hv, hcc, hnn, hml, hrd, hlt3⟩ := HO.out.shape
      unfold maxLen at hml
      subst hv
      clear HO hlt3
      go_wp2_with fail
      refine (low_c ao' k cap' D wr hcc hml hrd hnn).mono ?_
      rintro e w2 ⟨rfl, m', hm1, hz, hfm, rfl⟩
      have HZ := hid hz
      have HFM := hid hfm
      clear hz hfm
      go_wp2
      go_ret
      refine ⟨ao', m', cap', _, rfl, hbel, hrd.take hm1, by omega, HDg.out.mono hm1, HFM.out, ?_⟩
      have hv := HV.out
      have h1 := vd_lt HDg.out
      have h2 := HLe.out
      rw [vd_ext_list _ _ _ hmn] at hv
      rw [trim_vald hm1 HZ.out]
      by_cases hc : cc = 0
      · subst hc; simpa using hv
      · obtain rfl : cc = 1 := by omega
        omega

set_option maxHeartbeats 800000 in
theorem two_c (ao bo : Option Addr) (n m ca cb : Nat) (f h : Nat → Int) (w : World) (hn : n ≤ 8796093022208) (hm : m ≤ 8796093022208) (hr : Rd .u64 w ao n f) (hs : Rd .u64 w bo m h) :
    Calls Tryd.prog 31 #[.slice ao n ca, .slice bo m cb] w fun e w' => e = .returned (.int .i64 (if fmB f n && fmB h m then 0 else 3)) ∧ w' = w := by
  cases hfa : fmB f n
  · have c1 := rform_c ao n ca f w (by omega) hr
    rw [hfa] at c1
    have C1 := hid c1
    clear c1 hfa
    go_enter Tryd.func31, Tryd.ntmps31
    go_wp2_with (go_at_call 10; refine C1.out.mono ?_; rintro e w' ⟨rfl, rfl⟩)
    go_ret
    exact ⟨rfl, rfl⟩
  · have c1 := rform_c ao n ca f w (by omega) hr
    rw [hfa] at c1
    have C1 := hid c1
    clear c1 hfa
    cases hfb : fmB h m
    all_goals
      have c2 := rform_c bo m cb h w (by omega) hs
      rw [hfb] at c2
      have C2 := hid c2
      clear c2 hfb
      go_enter Tryd.func31, Tryd.ntmps31
      go_wp2_with fail
      refine C1.out.mono ?_
      rintro e w' ⟨rfl, rfl⟩
      go_wp2_with fail
      refine C2.out.mono ?_
      rintro e w' ⟨rfl, rfl⟩
      go_wp2
      go_ret
      exact ⟨rfl, rfl⟩
end Go.Proofs.YtjjbmioicliipaaDoor
