/-
  Walks of nat.Shl and of the document's reference: Shl, DocShl.
-/
import Derived.Test.YtjjbmioicliipaaDoorS1
import Derived.Test.YtjjbmioicliipaaDoorR5
namespace Go.Proofs.YtjjbmioicliipaaDoor
open Go.RowKit

theorem pow_z {z : Int} (z0 : 0 ≤ z) : (2 : Int) ^ (z % 64).toNat * pw (z / 64).toNat = 2 ^ z.toNat := by
  rw [pw_pow, ← Int.pow_add]; congr 1; omega
theorem pow_zd {z : Int} (z0 : 0 ≤ z) : (2 : Int) ^ (z % 32).toNat * pd (z / 32).toNat = 2 ^ z.toNat := by
  rw [pd_pow, ← Int.pow_add]; congr 1; omega

set_option maxHeartbeats 800000 in
theorem Shl_c (ao : Option Addr) (n ca : Nat) (z : Int) (f : Nat → Int) (w : World) (hn : n ≤ 1048576) (hr : Rd .u64 w ao n f) (hf : Lm f n) :
    Calls Tryd.prog 20 #[.slice ao n ca, .int .i64 z] w fun e w' => ∃ ao' k cap' f' er, e = .returned (.tuple #[.slice ao' k cap', .int .i64 er]) ∧ Res (n + 1025) w w' ao' k cap' f' ∧
      ((z < 0 ∨ 65536 < z) ∧ er = 1 ∧ k = 0 ∨ 0 ≤ z ∧ z ≤ 65536 ∧ ¬ Fm f n ∧ er = 3 ∧ k = 0 ∨ 0 ≤ z ∧ z ≤ 65536 ∧ Fm f n ∧ er = 0 ∧ vf f' k = vf f n * 2 ^ z.toNat) := by
  have HF := hid hf
  clear hf
  by_cases h1 : z < 0
  · go_enter Tryd.func20, Tryd.ntmps20
    go_wp2
    go_ret2
    exact ⟨_, _, _, f, _, rfl, Res.nil f (Below.refl _ _), .inl ⟨.inl h1, rfl, rfl⟩⟩
  · by_cases h2 : 65536 < z
    · go_enter Tryd.func20, Tryd.ntmps20
      go_wp2
      go_ret2
      exact ⟨_, _, _, f, _, rfl, Res.nil f (Below.refl _ _), .inl (by first | exact ⟨.inr h2, rfl, rfl⟩ | exact ⟨rfl, rfl⟩)⟩
    · cases hfa : fmB f n
      · have c1 := fun w' hr' => form_c ao n ca f w' (by omega) hr'
        rw [hfa] at c1
        have HN := hid (nfm_of hfa)
        have C1 := hid c1
        clear c1 hfa
        go_enter Tryd.func20, Tryd.ntmps20
        go_wp2_with (go_at_call 9; refine (C1.out _ hr).mono ?_; rintro e w' ⟨rfl, rfl⟩)
        go_ret2
        exact ⟨_, _, _, f, _, rfl, Res.nil f (Below.refl _ _), .inr (.inl ⟨by omega, by omega, HN.out, rfl, rfl⟩)⟩
      · have c1 := fun w' hr' => form_c ao n ca f w' (by omega) hr'
        rw [hfa] at c1
        have FA := hid (fm_of hfa)
        have C1 := hid c1
        clear c1 hfa
        go_enter Tryd.func20, Tryd.ntmps20
        go_wp2_with fail
        refine (C1.out _ hr).mono ?_
        rintro e w' ⟨rfl, rfl⟩
        go_wp2_with fail
        refine (shl_c ao n ca (z / 64).toNat z (z % 64) f _ hn (by omega) (by omega) (by omega) (by omega) hr HF.out).mono ?_
        rintro e w' ⟨ao', k, cap', f', rfl, hres, hv⟩
        have HV := hid hv
        clear hv
        go_wp2
        go_ret2
        exact ⟨_, _, _, f', _, rfl, hres.mono (by omega), .inr (.inr ⟨by omega, by omega, FA.out, rfl, by rw [HV.out, Int.mul_assoc, pow_z (by omega)]⟩)⟩

set_option maxRecDepth 100000 in
set_option maxHeartbeats 2000000 in
/-- Shl of the reference: a * 2^(32 * o + s), on digits. -/
theorem rshl_c (ao : Option Addr) (n ca o : Nat) (z s : Int) (f : Nat → Int) (w : World) (hn : n ≤ 1048576) (ho : o ≤ 1048576) (s0 : 0 ≤ s) (s1 : s ≤ 31) (hz : z = 32 * o + s) (hr : Rd .u64 w ao n f) (hf : Dg f n) :
    Calls Tryd.prog 40 #[.slice ao n ca, .int .i64 z] w fun e w' => ∃ ao' k cap' D, e = .returned (.slice ao' k cap') ∧ Below w.heap.size w w' ∧ Rd .u64 w' ao' k D ∧ k ≤ o + n + 1 ∧ Dg D k ∧ Fm D k ∧ vd D k = vd f n * (2 ^ s.toNat * pd o) := by
  have HF := hid hf
  have HRd := hid hr
  clear hf hr
  have z0 : 0 ≤ z := by omega
  have z1 : z ≤ 67108927 := by omega
  have h1 : z / 32 = (o : Int) := by omega
  have h2 : z % 32 = s := by omega
  have h3 : Int.tdiv z 32 = (o : Int) := by rw [Int.tdiv_eq_ediv_of_nonneg z0]; exact h1
  have h4 : Int.tmod z 32 = s := by rw [Int.tmod_eq_emod_of_nonneg z0]; exact h2
  clear hz
  by_cases hn0 : n = 0
  · subst hn0
    go_enter Tryd.func40, Tryd.ntmps40
    go_wp2
    go_ret
    exact ⟨none, 0, 0, f, rfl, Below.refl _ _, Rd.zero, by omega, fun j hj => by omega, .inl rfl, by simp [vd]⟩
  · have hnz : ((n : Int) == 0) = false := by simp; omega
    have p0 : (0 : Int) < 2 ^ s.toNat := Int.pow_pos (by decide)
    have p1 : (2 : Int) ^ s.toNat ≤ 2147483648 := by
      have : (2 : Int) ^ s.toNat * 2 ^ (31 - s).toNat = 2147483648 := by rw [← Int.pow_add, show s.toNat + (31 - s).toNat = 31 by omega]; rfl
      have q0 : (0 : Int) < 2 ^ (31 - s).toNat := Int.pow_pos (by decide)
      have := Int.mul_le_mul_of_nonneg_left (show (1 : Int) ≤ 2 ^ (31 - s).toNat by omega) (Int.le_of_lt p0)
      omega
    have P0 := hid p0
    have P1 := hid p1
    clear p0 p1
    go_enter Tryd.func40, Tryd.ntmps40
    go_wp2_with (at_make; refine wpList_make_two .u64 w rfl (.tmp 13) (.tmp 19) 22 rfl 46 8 Tryd.underlying22 Tryd.infoU64 .i64 .i64 _ _ o (o + n + 1) rfl rfl (by omega) (by omega) (by omega) (by omega) (by unfold maxLen; omega) ?_; intro w1 hb1 hbel1)
    have HO1 := hid (own_of_blk hb1 (base := w.heap.size) (n := o) (Nat.le_refl _) (by omega) (by unfold maxLen; omega))
    clear hb1
    go_loopw [5, 6, 23] (fun v c t wr => ∃ (k : Nat) (cc : Int) (D : Nat → Int), k ≤ n ∧ t = .int .i64 k ∧ c = .int .u64 cc ∧ 0 ≤ cc ∧ cc < 2147483648 ∧ Hid (cc < 2 ^ s.toNat) ∧ Below w.heap.size w wr ∧ Hid (Own .u64 46 wr w.heap.size v (o + k) D) ∧ Hid (Dg D (o + k)) ∧ Hid (vd D (o + k) + cc * pd (o + k) = vd f k * (2 ^ s.toNat * pd o))) (fun _ _ t _ => n - (intOf t).toNat)
    case atStart => exact ⟨0, 0, fun _ => 0, by omega, rfl, rfl, by omega, by omega, P0.out, hbel1, HO1.out, fun j hj => ⟨Int.le_refl 0, show (0 : Int) < 4294967296 by decide⟩, by simp [Hid, vd, vd_zero]⟩
    case round =>
      clear hbel1 HO1
      obtain ⟨k, cc, D, hk, rfl, rfl, c0, c1, HC, hbel, HO, HDg, HV⟩ := hrel
      by_cases hlt : k < n
      · have hrA := HRd.out
        obtain ⟨b, ob, rfl⟩ := hrA.at (by omega)
        obtain ⟨x, hx⟩ : ∃ x, f k = x := ⟨_, rfl⟩
        have hcell : wr.cell? ⟨b, ob + k, none⟩ = some (.int .u64 x) := by rw [← hx]; exact (hrA.below hbel (Nat.le_refl _)).cell hlt
        obtain ⟨x0, x1⟩ := HF.out k hlt
        rw [hx] at x0 x1
        have HX := hid hx
        clear hx hrA
        obtain ⟨d1, d2, d3, d4, d5⟩ := dshl_carry c0 HC.out x0 x1 P0.out
        obtain ⟨X, eX, HXe⟩ : ∃ X, IntKind.u64.wrap (x * 2 ^ s.toNat) = X ∧ Hid (X = x * 2 ^ s.toNat) := ⟨x * 2 ^ s.toNat, by have := P1.out; rw [IntKind.wrap_u64]; omega, rfl⟩
        have X0 : 0 ≤ X := by rw [HXe.out]; exact d4
        have X1 : X < 9223372036854775808 := by have := P1.out; rw [HXe.out]; omega
        have HD3 := hid d3
        clear d1 d2 d3 d4 d5
        go_wp2_with (at_builtin; refine wpList_append_own_list .u64 _ rfl (.tmp 33) (.tmp 36) 22 rfl w.heap.size 46 8 Tryd.underlying22 Tryd.infoU64 _ (o + k) D rfl (Own.alloc HO.out _) wr.heap.size 0 1 1 (fun _ => (cc + X) % 4294967296) rfl (rd_new1 wr _ _) ?c1 ?c2 ?c3 ?_)
        case c1 => unfold maxLen; omega
        case c2 => omega
        case c3 => have := hbel.size; simp; omega
        intro v' w' hown hgr
        have hbel2 : Below w.heap.size w w' := (hbel.alloc hbel.size _).grown hgr (by have := hbel.size; simp; omega) (fun k h => (Own.ge HO.out k h))
        have HO2 := hid hown
        clear hown hgr HO
        go_wp2
        go_roundw
        case rel =>
          refine ⟨k + 1, _, _, by omega, by go_num, rfl, by omega, ?_, ?_, hbel2, HO2.out, dg_cat1 HDg.out (by omega), ?_⟩
          · have h5 := HD3.out; have h6 := P1.out; rw [← HXe.out] at h5; omega
          · have h5 := HD3.out; rw [← HXe.out] at h5; exact h5
          · have h5 := dshl_step HV.out HX.out
            rw [← HXe.out] at h5; exact h5
        case measure => simp [intOf]; omega
      · have hkn : k = n := by omega
        subst hkn
        go_wp2_with (at_builtin; refine wpList_append_own_list .u64 _ rfl (.tmp 41) (.tmp 43) 22 rfl w.heap.size 46 8 Tryd.underlying22 Tryd.infoU64 _ (o + k) D rfl (Own.alloc HO.out _) wr.heap.size 0 1 1 (fun _ => cc) rfl (rd_new1 wr _ _) ?c1 ?c2 ?c3 ?_)
        case c1 => unfold maxLen; omega
        case c2 => omega
        case c3 => have := hbel.size; simp; omega
        intro v' w' hown hgr
        have hbel2 : Below w.heap.size w w' := (hbel.alloc hbel.size _).grown hgr (by have := hbel.size; simp; omega) (fun k h => (Own.ge HO.out k h))
        obtain ⟨ao', cap', hv, hcc, hnn, hml, hrd, hlt3⟩ := Own.shape hown
        unfold maxLen at hml
        subst hv
        clear hown hgr HO hlt3
        go_wp2_with fail
        refine (low_c ao' (o + k + 1) cap' (cat D (o + k) (fun _ => cc)) w' hcc hml hrd hnn).mono ?_
        rintro e w2 ⟨rfl, m', hm1, hz, hfm, rfl⟩
        have HZ := hid hz
        have HFM := hid hfm
        clear hz hfm
        go_wp2
        go_ret
        refine ⟨ao', m', cap', _, rfl, hbel2, hrd.take hm1, by omega, (dg_cat1 HDg.out (by omega)).mono hm1, HFM.out, ?_⟩
        rw [trim_vald hm1 HZ.out, vd_cat1, HV.out]

set_option maxHeartbeats 1000000 in
theorem docShl_c (ao : Option Addr) (n ca : Nat) (z : Int) (f : Nat → Int) (w : World) (hn : n ≤ 65536) (hr : Rd .u64 w ao n f) (hf : Lm f n) :
    Calls Tryd.prog 21 #[.slice ao n ca, .int .i64 z] w fun e w' => ∃ ao' k cap' f' er, e = .returned (.tuple #[.slice ao' k cap', .int .i64 er]) ∧ Ans 1048576 w w' ao' k f' ∧
      ((z < 0 ∨ 65536 < z) ∧ er = 1 ∧ k = 0 ∨ 0 ≤ z ∧ z ≤ 65536 ∧ ¬ Fm f n ∧ er = 3 ∧ k = 0 ∨ 0 ≤ z ∧ z ≤ 65536 ∧ Fm f n ∧ er = 0 ∧ vf f' k = vf f n * 2 ^ z.toNat) := by
  have HF := hid hf
  clear hf
  by_cases h1 : z < 0
  · go_enter Tryd.func21, Tryd.ntmps21
    go_wp2
    go_ret2
    exact ⟨_, _, _, f, _, rfl, ⟨Below.refl _ _, Rd.zero, by omega, fun j hj => by omega, .inl rfl⟩, .inl ⟨.inl h1, rfl, rfl⟩⟩
  · by_cases h2 : 65536 < z
    · go_enter Tryd.func21, Tryd.ntmps21
      go_wp2
      go_ret2
      exact ⟨_, _, _, f, _, rfl, ⟨Below.refl _ _, Rd.zero, by omega, fun j hj => by omega, .inl rfl⟩, .inl (by first | exact ⟨.inr h2, rfl, rfl⟩ | exact ⟨rfl, rfl⟩)⟩
    · cases hfa : fmB f n
      · have c1 := fun w' hr' => rform_c ao n ca f w' (by omega) hr'
        rw [hfa] at c1
        have HN := hid (nfm_of hfa)
        have C1 := hid c1
        clear c1 hfa
        go_enter Tryd.func21, Tryd.ntmps21
        go_wp2_with (go_at_call 10; refine (C1.out _ hr).mono ?_; rintro e w' ⟨rfl, rfl⟩)
        go_ret2
        exact ⟨_, _, _, f, _, rfl, ⟨Below.refl _ _, Rd.zero, by omega, fun j hj => by omega, .inl rfl⟩, .inr (.inl ⟨by omega, by omega, HN.out, rfl, rfl⟩)⟩
      · have c1 := fun w' hr' => rform_c ao n ca f w' (by omega) hr'
        rw [hfa] at c1
        have FA := hid (fm_of hfa)
        have C1 := hid c1
        clear c1 hfa
        go_enter Tryd.func21, Tryd.ntmps21
        go_wp2_with fail
        refine (C1.out _ hr).mono ?_
        rintro e w' ⟨rfl, rfl⟩
        go_wp2_with fail
        refine (from_c ao n ca f _ (by omega) hr HF.out).mono ?_
        rintro e w1 ⟨a1, n1, c1, rfl, hb1, hr1, hl1, _, hd1, hf1, hv1⟩
        have HD1 := hid hd1; have HF1 := hid hf1; have HV1 := hid hv1
        clear hd1 hf1 hv1
        go_wp2_with fail
        refine (rshl_c a1 n1 c1 (z / 32).toNat z (z % 32) (dig f) w1 (by omega) (by omega) (by omega) (by omega) (by omega) hr1 HD1.out).mono ?_
        rintro e w3 ⟨a3, n3, c3, D, rfl, hb3, hr3, hl3, hd3, hf3, hv3⟩
        have HD3 := hid hd3; have HF3 := hid hf3; have HV3 := hid hv3
        clear hd3 hf3 hv3
        go_wp2_with fail
        refine (to_c a3 n3 c3 D w3 (by omega) hr3 HD3.out HF3.out).mono ?_
        rintro e w4 ⟨a4, n4, c4, F4, rfl, hb4, hr4, hl4, hd4, hf4, hv4⟩
        have HD4 := hid hd4; have HF4 := hid hf4; have HV4 := hid hv4
        clear hd4 hf4 hv4
        go_wp2
        go_ret2
        have hb := hb1.trans ((hb3.mono hb1.size).trans (hb4.mono (Nat.le_trans hb1.size hb3.size)))
        exact ⟨_, _, _, F4, _, rfl, ⟨hb, hr4, by omega, HD4.out, HF4.out⟩, .inr (.inr ⟨by omega, by omega, FA.out, rfl, by rw [HV4.out, HV3.out, HV1.out, pow_zd (by omega)]⟩)⟩
end Go.Proofs.YtjjbmioicliipaaDoor
