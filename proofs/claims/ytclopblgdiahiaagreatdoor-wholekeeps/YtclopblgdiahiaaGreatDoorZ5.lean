/-
  Walks of the document's reference for nat: Sub on digits, and the calls DocAdd, DocSub, DocCmp. Walks of the document's reference for nat: the calls DocAdd, DocSub, DocCmp. Walks of nat.Shl and of the document's reference: Shl, DocShl. Walks of package nat's texts: bytes.TrimLeft of noughts, digits, Text. Walks of package nat's calls Text, DivMod and Gcd. The walk of the statements' own look at answers that the document fixes (awake). The walk of the statement's answers: the lists that nat's calls answer, each in a block of its own. Walks of package whole: Form, signed. Walks of package whole's calls Add, Sub, Mul. Walks of package whole: slices.Clone, Neg, Cmp, Of.
-/
import Derived.Test.YtclopblgdiahiaaGreatDoorZ4
import Derived.Test.YtclopblgdiahiaaGreatDoorZ3
import Derived.Test.YtclopblgdiahiaaGreatDoorZ2
import Derived.Lib.LazyBuf
namespace Go.Proofs.YtclopblgdiahiaaGreatDoor
open Go.RowKit

set_option maxRecDepth 100000 in
set_option maxHeartbeats 2000000 in
/-- Sub: the difference, on digits. -/
theorem rsubO_c (ao bo : Option Addr) (n m ca cb : Nat) (f h : Nat → Int) (w : World) (hn : n ≤ 1048576) (hm : m ≤ 1048576) (hmn : m ≤ n) (hr : Rd .u64 w ao n f) (hs : Rd .u64 w bo m h) (hf : Dg f n) (hh : Dg h m) (hle : vd h m ≤ vd f n) :
    Calls Tryz.prog 107 #[.slice ao n ca, .slice bo m cb] w fun e w' => ∃ ao' k cap' D, e = .returned (.slice ao' k cap') ∧ Below w.heap.size w w' ∧ Rd .u64 w' ao' k D ∧ k ≤ n ∧ Dg D k ∧ Fm D k ∧ (∀ a, ao' = some a → w.heap.size ≤ a.block) ∧ vd D k = vd f n - vd h m := by
  obtain ⟨i0, hi, hz0, hz1, hz2⟩ := info_parts Tryz.infoU64
  have RA := hid hr
  have RB := hid hs
  have DA := hid hf
  have DB := hid hh
  have HLe := hid hle
  clear hr hs hf hh hle
  go_enter Tryz.func107, Tryz.ntmps107
  go_wp2_with (at_make; refine wpList_make_own w rfl (.const (.int .i64 0)) (.tmp 11) 22 rfl w.heap.size 28 i0 (.int .u64 0) 1 Tryz.underlying22 hi hz0 hz1 .i64 .i64 n n rfl rfl (by omega) (by rw [hz2]; omega) (by unfold maxLen; omega) (Nat.le_refl _) ?_; intro w1 hown1 hgr1)
  have hb1 : Below w.heap.size w w1 := (Below.refl _ _).grown hgr1 (Nat.le_refl _) (fun k h => by cases h)
  have HO1 := hid (show Own .u64 28 w1 w.heap.size (.slice (some ⟨w.heap.size, 0, none⟩) 0 n) 0 (fun _ => 0) from hown1)
  clear hown1 hgr1
  go_loopw [5, 6, 15] (fun v c t wr => ∃ (k : Nat) (cc : Int) (D : Nat → Int), k ≤ n ∧ t = .int .i64 k ∧ c = .int .u64 cc ∧ 0 ≤ cc ∧ cc ≤ 1 ∧ Below w.heap.size w wr ∧ Hid (Own .u64 28 wr w.heap.size v k D) ∧ Hid (Dg D k) ∧ Hid (vd D k - cc * pd k = vd f k - vd (ext h m) k)) (fun _ _ t _ => n - (intOf t).toNat)
  case atStart => exact ⟨0, 0, fun _ => 0, by omega, rfl, rfl, by omega, by omega, hb1, HO1.out, fun j hj => by omega, by simp [Hid, vd, pd]⟩
  case round =>
    clear hb1 HO1
    obtain ⟨k, cc, D, hk, rfl, rfl, c0, c1, hbel, HO, HDg, HV⟩ := hrel
    by_cases hlt : k < n
    · have hrA := RA.out
      obtain ⟨b, o, rfl⟩ := hrA.at (by omega)
      obtain ⟨x, hx⟩ : ∃ x, f k = x := ⟨_, rfl⟩
      have hcell : wr.cell? ⟨b, o + k, none⟩ = some (.int .u64 x) := by rw [← hx]; exact (hrA.below hbel (Nat.le_refl _)).cell hlt
      obtain ⟨x0, x1⟩ := DA.out k hlt
      rw [hx] at x0 x1
      have HX := hid hx
      clear hx hrA
      by_cases hlt2 : k < m
      · have hrB := RB.out
        obtain ⟨b', o', rfl⟩ := hrB.at (by omega)
        obtain ⟨y, hy⟩ : ∃ y, h k = y := ⟨_, rfl⟩
        have hcelb : wr.cell? ⟨b', o' + k, none⟩ = some (.int .u64 y) := by rw [← hy]; exact (hrB.below hbel (Nat.le_refl _)).cell hlt2
        obtain ⟨y0, y1⟩ := DB.out k hlt2
        rw [hy] at y0 y1
        have HY := hid (show ext h m k = y from (ext_in _ _ _ hlt2).trans hy)
        clear hy hrB
        by_cases hxy : x < cc + y
        · go_wp2_with (at_builtin; refine wpList_append_own_list .u64 _ rfl (.tmp 36) (.tmp 40) 22 rfl w.heap.size 28 8 Tryz.underlying22 Tryz.infoU64 _ k D rfl (Own.alloc HO.out _) wr.heap.size 0 1 1 (fun _ => x + 4294967296 - (cc + y)) rfl (rd_new1 wr _ _) ?c1 ?c2 ?c3 ?_)
          case c1 => unfold maxLen; omega
          case c2 => omega
          case c3 => have := hbel.size; simp; omega
          intro v' w' hown hgr
          have hbel2 : Below w.heap.size w w' := (hbel.alloc hbel.size _).grown hgr (by have := hbel.size; simp; omega) (fun k h => (Own.ge HO.out k h))
          have HO2 := hid hown
          clear hown hgr HO
          go_wp2
          go_roundw
          case rel => exact ⟨k + 1, 1, _, by omega, by go_num, rfl, by omega, by omega, hbel2, HO2.out, dg_cat1 HDg.out (by omega), dborrow_step HV.out HX.out HY.out (by omega)⟩
          case measure => simp [intOf]; omega
        · go_wp2_with (at_builtin; refine wpList_append_own_list .u64 _ rfl (.tmp 36) (.tmp 40) 22 rfl w.heap.size 28 8 Tryz.underlying22 Tryz.infoU64 _ k D rfl (Own.alloc HO.out _) wr.heap.size 0 1 1 (fun _ => x - (cc + y)) rfl (rd_new1 wr _ _) ?c1 ?c2 ?c3 ?_)
          case c1 => unfold maxLen; omega
          case c2 => omega
          case c3 => have := hbel.size; simp; omega
          intro v' w' hown hgr
          have hbel2 : Below w.heap.size w w' := (hbel.alloc hbel.size _).grown hgr (by have := hbel.size; simp; omega) (fun k h => (Own.ge HO.out k h))
          have HO2 := hid hown
          clear hown hgr HO
          go_wp2
          go_roundw
          case rel => exact ⟨k + 1, 0, _, by omega, by go_num, rfl, by omega, by omega, hbel2, HO2.out, dg_cat1 HDg.out (by omega), dborrow_step HV.out HX.out HY.out (by omega)⟩
          case measure => simp [intOf]; omega
      · have HY := hid (show ext h m k = 0 from ext_out _ _ _ (by omega))
        by_cases hxy : x < cc
        · go_wp2_with (at_builtin; refine wpList_append_own_list .u64 _ rfl (.tmp 36) (.tmp 40) 22 rfl w.heap.size 28 8 Tryz.underlying22 Tryz.infoU64 _ k D rfl (Own.alloc HO.out _) wr.heap.size 0 1 1 (fun _ => x + 4294967296 - cc) rfl (rd_new1 wr _ _) ?c1 ?c2 ?c3 ?_)
          case c1 => unfold maxLen; omega
          case c2 => omega
          case c3 => have := hbel.size; simp; omega
          intro v' w' hown hgr
          have hbel2 : Below w.heap.size w w' := (hbel.alloc hbel.size _).grown hgr (by have := hbel.size; simp; omega) (fun k h => (Own.ge HO.out k h))
          have HO2 := hid hown
          clear hown hgr HO
          go_wp2
          go_roundw
          case rel => exact ⟨k + 1, 1, _, by omega, by go_num, rfl, by omega, by omega, hbel2, HO2.out, dg_cat1 HDg.out (by omega), dborrow_step HV.out HX.out HY.out (by omega)⟩
          case measure => simp [intOf]; omega
        · go_wp2_with (at_builtin; refine wpList_append_own_list .u64 _ rfl (.tmp 36) (.tmp 40) 22 rfl w.heap.size 28 8 Tryz.underlying22 Tryz.infoU64 _ k D rfl (Own.alloc HO.out _) wr.heap.size 0 1 1 (fun _ => x - cc) rfl (rd_new1 wr _ _) ?c1 ?c2 ?c3 ?_)
          case c1 => unfold maxLen; omega
          case c2 => omega
          case c3 => have := hbel.size; simp; omega
          intro v' w' hown hgr
          have hbel2 : Below w.heap.size w w' := (hbel.alloc hbel.size _).grown hgr (by have := hbel.size; simp; omega) (fun k h => (Own.ge HO.out k h))
          have HO2 := hid hown
          clear hown hgr HO
          go_wp2
          go_roundw
          case rel => exact ⟨k + 1, 0, _, by omega, by go_num, rfl, by omega, by omega, hbel2, HO2.out, dg_cat1 HDg.out (by omega), dborrow_step HV.out HX.out HY.out (by omega)⟩
          case measure => simp [intOf]; omega
    · have hkn : k = n := by omega
      subst hkn
      obtain ⟨ao', cap', hv, hcc, hnn, hml, hrd, hlt3⟩ := HO.out.shape
      unfold maxLen at hml
      subst hv
      have HLT := hid hlt3
      clear HO hlt3
      go_wp2_with fail
      refine (low_c ao' k cap' D wr hcc hml hrd hnn).mono ?_
      rintro e w2 ⟨rfl, m', hm1, hz, hfm, rfl⟩
      have HZ := hid hz
      have HFM := hid hfm
      clear hz hfm
      go_wp2
      go_ret
      refine ⟨ao', m', cap', _, rfl, hbel, hrd.take hm1, by omega, HDg.out.mono hm1, HFM.out, fun a ha => (HLT.out a ha).1, ?_⟩
      have hv := HV.out
      have h1 := vd_lt HDg.out
      have h2 := HLe.out
      rw [vd_ext_list _ _ _ hmn] at hv
      rw [trim_vald hm1 HZ.out]
      by_cases hc : cc = 0
      · subst hc; simpa using hv
      · obtain rfl : cc = 1 := by omega
        omega

/-- The same, without the place. -/
theorem rsub_c (ao bo : Option Addr) (n m ca cb : Nat) (f h : Nat → Int) (w : World) (hn : n ≤ 1048576) (hm : m ≤ 1048576) (hmn : m ≤ n) (hr : Rd .u64 w ao n f) (hs : Rd .u64 w bo m h) (hf : Dg f n) (hh : Dg h m) (hle : vd h m ≤ vd f n) :
    Calls Tryz.prog 107 #[.slice ao n ca, .slice bo m cb] w fun e w' => ∃ ao' k cap' D, e = .returned (.slice ao' k cap') ∧ Below w.heap.size w w' ∧ Rd .u64 w' ao' k D ∧ k ≤ n ∧ Dg D k ∧ Fm D k ∧ vd D k = vd f n - vd h m :=
  (rsubO_c ao bo n m ca cb f h w hn hm hmn hr hs hf hh hle).mono (fun _ _ ⟨a, k, c, D, h1, h2, h3, h4, h5, h6, _, h7⟩ => ⟨a, k, c, D, h1, h2, h3, h4, h5, h6, h7⟩)

end Go.Proofs.YtclopblgdiahiaaGreatDoor
namespace Go.Proofs.YtclopblgdiahiaaGreatDoor
open Go.RowKit

/-- A number that the reference answers: it can be read; in form. -/
structure Ans (C : Nat) (w w' : World) (ao : Option Addr) (n : Nat) (f : Nat → Int) : Prop where
  bel : Below w.heap.size w w'
  rd : Rd .u64 w' ao n f
  le : n ≤ C
  lm : Lm f n
  fm : Fm f n

theorem and_fm {f h : Nat → Int} {n m : Nat} (e : (fmB f n && fmB h m) = true) : Fm f n ∧ Fm h m := by
  simp only [Bool.and_eq_true] at e
  exact ⟨fm_of e.1, fm_of e.2⟩
theorem nand_fm {f h : Nat → Int} {n m : Nat} (e : (fmB f n && fmB h m) = false) : ¬ (Fm f n ∧ Fm h m) := fun ⟨a, b⟩ => by
  rw [(fmB_iff f n).2 a, (fmB_iff h m).2 b] at e
  cases e

end Go.Proofs.YtclopblgdiahiaaGreatDoor
namespace Go.Proofs.YtclopblgdiahiaaGreatDoor
open Go.RowKit

theorem pow_z {z : Int} (z0 : 0 ≤ z) : (2 : Int) ^ (z % 64).toNat * pw (z / 64).toNat = 2 ^ z.toNat := by
  rw [pw_pow, ← Int.pow_add]; congr 1; omega
theorem pow_zd {z : Int} (z0 : 0 ≤ z) : (2 : Int) ^ (z % 32).toNat * pd (z / 32).toNat = 2 ^ z.toNat := by
  rw [pd_pow, ← Int.pow_add]; congr 1; omega

set_option maxRecDepth 100000 in
set_option maxHeartbeats 2000000 in
/-- Shl of the reference: a * 2^(32 * o + s), on digits. -/
theorem rshl_c (ao : Option Addr) (n ca o : Nat) (z s : Int) (f : Nat → Int) (w : World) (hn : n ≤ 1048576) (ho : o ≤ 1048576) (s0 : 0 ≤ s) (s1 : s ≤ 31) (hz : z = 32 * o + s) (hr : Rd .u64 w ao n f) (hf : Dg f n) :
    Calls Tryz.prog 108 #[.slice ao n ca, .int .i64 z] w fun e w' => ∃ ao' k cap' D, e = .returned (.slice ao' k cap') ∧ Below w.heap.size w w' ∧ Rd .u64 w' ao' k D ∧ k ≤ o + n + 1 ∧ Dg D k ∧ Fm D k ∧ vd D k = vd f n * (2 ^ s.toNat * pd o) := by
  have HF := hid hf
  have HRd := hid hr
  clear hf hr
  have z0 : 0 ≤ z := by omega
  have z1 : z ≤ 67108927 := by omega
  have h1 : z / 32 = (o : Int) := by omega
  have h2 : z % 32 = s := by omega
  have h3 : Int.tdiv z 32 = (o : Int) := by rw [Int.tdiv_eq_ediv_of_nonneg z0]; exact h1
  have h4 : Int.tmod z 32 = s := by rw [Int.tmod_eq_emod_of_nonneg z0]; exact h2
  clear hz
  by_cases hn0 : n = 0
  · subst hn0
    go_enter Tryz.func108, Tryz.ntmps108
    go_wp2
    go_ret
    exact ⟨none, 0, 0, f, rfl, Below.refl _ _, Rd.zero, by omega, fun j hj => by omega, .inl rfl, by simp [vd]⟩
  · have hnz : ((n : Int) == 0) = false := by simp; omega
    have p0 : (0 : Int) < 2 ^ s.toNat := Int.pow_pos (by decide)
    have p1 : (2 : Int) ^ s.toNat ≤ 2147483648 := by
      have : (2 : Int) ^ s.toNat * 2 ^ (31 - s).toNat = 2147483648 := by rw [← Int.pow_add, show s.toNat + (31 - s).toNat = 31 by omega]; rfl
      have q0 : (0 : Int) < 2 ^ (31 - s).toNat := Int.pow_pos (by decide)
      have := Int.mul_le_mul_of_nonneg_left (show (1 : Int) ≤ 2 ^ (31 - s).toNat by omega) (Int.le_of_lt p0)
      omega
    have P0 := hid p0
    have P1 := hid p1
    clear p0 p1
    go_enter Tryz.func108, Tryz.ntmps108
    go_wp2_with (at_make; refine wpList_make_two .u64 w rfl (.tmp 13) (.tmp 19) 22 rfl 28 8 Tryz.underlying22 Tryz.infoU64 .i64 .i64 _ _ o (o + n + 1) rfl rfl (by omega) (by omega) (by omega) (by omega) (by unfold maxLen; omega) ?_; intro w1 hb1 hbel1)
    have HO1 := hid (own_of_blk hb1 (base := w.heap.size) (n := o) (Nat.le_refl _) (by omega) (by unfold maxLen; omega))
    clear hb1
    go_loopw [5, 6, 23] (fun v c t wr => ∃ (k : Nat) (cc : Int) (D : Nat → Int), k ≤ n ∧ t = .int .i64 k ∧ c = .int .u64 cc ∧ 0 ≤ cc ∧ cc < 2147483648 ∧ Hid (cc < 2 ^ s.toNat) ∧ Below w.heap.size w wr ∧ Hid (Own .u64 28 wr w.heap.size v (o + k) D) ∧ Hid (Dg D (o + k)) ∧ Hid (vd D (o + k) + cc * pd (o + k) = vd f k * (2 ^ s.toNat * pd o))) (fun _ _ t _ => n - (intOf t).toNat)
    case atStart => exact ⟨0, 0, fun _ => 0, by omega, rfl, rfl, by omega, by omega, P0.out, hbel1, HO1.out, fun j hj => ⟨Int.le_refl 0, show (0 : Int) < 4294967296 by decide⟩, by simp [Hid, vd, vd_zero]⟩
    case round =>
      clear hbel1 HO1
      obtain ⟨k, cc, D, hk, rfl, rfl, c0, c1, HC, hbel, HO, HDg, HV⟩ := hrel
      by_cases hlt : k < n
      · have hrA := HRd.out
        obtain ⟨b, ob, rfl⟩ := hrA.at (by omega)
        obtain ⟨x, hx⟩ : ∃ x, f k = x := ⟨_, rfl⟩
        have hcell : wr.cell? ⟨b, ob + k, none⟩ = some (.int .u64 x) := by rw [← hx]; exact (hrA.below hbel (Nat.le_refl _)).cell hlt
        obtain ⟨x0, x1⟩ := HF.out k hlt
        rw [hx] at x0 x1
        have HX := hid hx
        clear hx hrA
        obtain ⟨d1, d2, d3, d4, d5⟩ := dshl_carry c0 HC.out x0 x1 P0.out
        obtain ⟨X, eX, HXe⟩ : ∃ X, IntKind.u64.wrap (x * 2 ^ s.toNat) = X ∧ Hid (X = x * 2 ^ s.toNat) := ⟨x * 2 ^ s.toNat, by have := P1.out; rw [IntKind.wrap_u64]; omega, rfl⟩
        have X0 : 0 ≤ X := by rw [HXe.out]; exact d4
        have X1 : X < 9223372036854775808 := by have := P1.out; rw [HXe.out]; omega
        have HD3 := hid d3
        clear d1 d2 d3 d4 d5
        go_wp2_with (at_builtin; refine wpList_append_own_list .u64 _ rfl (.tmp 33) (.tmp 36) 22 rfl w.heap.size 28 8 Tryz.underlying22 Tryz.infoU64 _ (o + k) D rfl (Own.alloc HO.out _) wr.heap.size 0 1 1 (fun _ => (cc + X) % 4294967296) rfl (rd_new1 wr _ _) ?c1 ?c2 ?c3 ?_)
        case c1 => unfold maxLen; omega
        case c2 => omega
        case c3 => have := hbel.size; simp; omega
        intro v' w' hown hgr
        have hbel2 : Below w.heap.size w w' := (hbel.alloc hbel.size _).grown hgr (by have := hbel.size; simp; omega) (fun k h => (Own.ge HO.out k h))
        have HO2 := hid hown
        clear hown hgr HO
        go_wp2
        go_roundw
        case rel =>
          refine ⟨k + 1, _, _, by omega, by go_num, rfl, by omega, ?_, ?_, hbel2, HO2.out, dg_cat1 HDg.out (by omega), ?_⟩
          · have h5 := HD3.out; have h6 := P1.out; rw [← HXe.out] at h5; omega
          · have h5 := HD3.out; rw [← HXe.out] at h5; exact h5
          · have h5 := dshl_step HV.out HX.out
            rw [← HXe.out] at h5; exact h5
        case measure => simp [intOf]; omega
      · have hkn : k = n := by omega
        subst hkn
        go_wp2_with (at_builtin; refine wpList_append_own_list .u64 _ rfl (.tmp 41) (.tmp 43) 22 rfl w.heap.size 28 8 Tryz.underlying22 Tryz.infoU64 _ (o + k) D rfl (Own.alloc HO.out _) wr.heap.size 0 1 1 (fun _ => cc) rfl (rd_new1 wr _ _) ?c1 ?c2 ?c3 ?_)
        case c1 => unfold maxLen; omega
        case c2 => omega
        case c3 => have := hbel.size; simp; omega
        intro v' w' hown hgr
        have hbel2 : Below w.heap.size w w' := (hbel.alloc hbel.size _).grown hgr (by have := hbel.size; simp; omega) (fun k h => (Own.ge HO.out k h))
        obtain ⟨ao', cap', hv, hcc, hnn, hml, hrd, hlt3⟩ := Own.shape hown
        unfold maxLen at hml
        subst hv
        clear hown hgr HO hlt3
        go_wp2_with fail
        refine (low_c ao' (o + k + 1) cap' (cat D (o + k) (fun _ => cc)) w' hcc hml hrd hnn).mono ?_
        rintro e w2 ⟨rfl, m', hm1, hz, hfm, rfl⟩
        have HZ := hid hz
        have HFM := hid hfm
        clear hz hfm
        go_wp2
        go_ret
        refine ⟨ao', m', cap', _, rfl, hbel2, hrd.take hm1, by omega, (dg_cat1 HDg.out (by omega)).mono hm1, HFM.out, ?_⟩
        rw [trim_vald hm1 HZ.out, vd_cat1, HV.out]

end Go.Proofs.YtclopblgdiahiaaGreatDoor
namespace Go.Proofs.YtclopblgdiahiaaGreatDoor
open Go.RowKit

set_option maxHeartbeats 1000000 in
theorem trimByte_c (g o L cap k0 : Nat) (t : Nat → Int) (w : World) (hr : Rd .u8 w (some ⟨g, o, none⟩) L t) (hL : L ≤ cap) (hk0 : k0 < L) (hz : ∀ j, j < k0 → t j = 48) (hnz : t k0 ≠ 48) :
    Calls Tryz.prog 162 #[.slice (some ⟨g, o, none⟩) L cap, .int .u8 48] w fun e w' => e = .returned (.slice (some ⟨g, o + k0, none⟩) (L - k0) (cap - k0)) ∧ w' = w := by
  have HZ := hid hz
  clear hz
  go_enter Tryz.func162, Tryz.ntmps162
  go_wp2
  go_loop [0] (fun v => ∃ k : Nat, k ≤ k0 ∧ v = .slice (some ⟨g, o + k, none⟩) (L - k) (cap - k)) (fun v => match v with | .slice _ n _ => n | _ => 0)
  case atStart => exact ⟨0, by omega, rfl⟩
  case round =>
    obtain ⟨k, hk, rfl⟩ := hrel
    obtain ⟨x, hx⟩ : ∃ x, t k = x := ⟨_, rfl⟩
    have hcell : w.cell? ⟨g, o + k, none⟩ = some (.int .u8 x) := by rw [← hx]; exact hr.cell (by omega)
    have hpos : (0 : Int) < ((L - k : Nat) : Int) := by omega
    by_cases hkk : k < k0
    · have hx48 : x = 48 := by rw [← hx]; exact HZ.out k hkk
      subst hx48
      clear hx hr
      have hne : ¬ (1 = cap - k) := by omega
      have hne2 : ¬ (cap - k = 1) := by omega
      have hone : (1 : Int) ≤ ((L - k : Nat) : Int) := by omega
      go_wp2
      go_round
      case rel => exact ⟨k + 1, by omega, by simp only [Value.slice.injEq, Option.some.injEq, Addr.mk.injEq]; exact ⟨⟨trivial, by omega, trivial⟩, by omega, by omega⟩⟩
      case measure => simp; omega
    · obtain rfl : k = k0 := by omega
      have hx1 : (x == 48) = false := by rw [← hx]; simp [hnz]
      have hne0 : (((L - k : Nat) : Int) == 0) = false := by simp; omega
      clear hx hr hnz
      go_wp2
      go_ret
      exact ⟨rfl, rfl⟩

set_option maxRecDepth 100000 in
set_option maxHeartbeats 1000000 in
theorem trimLeft_c (g o L cap k0 : Nat) (t : Nat → Int) (w : World) (hr : Rd .u8 w (some ⟨g, o, none⟩) L t) (hL : L ≤ cap) (hk0 : k0 < L) (hz : ∀ j, j < k0 → t j = 48) (hnz : t k0 ≠ 48) :
    Calls Tryz.prog 143 #[.slice (some ⟨g, o, none⟩) L cap, .string ⟨#[48]⟩] w fun e w' => e = .returned (.slice (some ⟨g, o + k0, none⟩) (L - k0) (cap - k0)) ∧ w' = w := by
  have C := hid (trimByte_c g o L cap k0 t w hr hL hk0 hz hnz)
  have h0 : ((L : Int) == 0) = false := by simp; omega
  clear hr hz hnz
  go_enter Tryz.func143, Tryz.ntmps143
  go_wp2_with fail
  refine C.out.mono ?_
  rintro e w1 ⟨rfl, rfl⟩
  go_wp2
  go_ret
  exact ⟨rfl, rfl⟩

theorem lev_ge (n : Nat) (hn : n ≤ 18446744073709551616) : n ≤ 2 ^ lev n := by
  unfold lev
  by_cases h : n ≤ 1
  · rw [if_pos h]; simpa using h
  · rw [if_neg h]
    have := (bitLen_bounds _ (n - 1) rfl (by omega) (by omega)).2.2
    omega
theorem lev_le (n k : Nat) (hk : k ≤ 64) (h : n ≤ 2 ^ k) : lev n ≤ k := by
  unfold lev
  split
  · omega
  · exact Lib.bitLen_le (n - 1) k hk (by omega)
theorem dgi_top {V : Nat} (hV : 0 < V) : dgi V (Lib.nDigits V - 1) ≠ 48 := by
  have h1 : ∀ (k V : Nat), 0 < V → Lib.nDigits V = k + 1 → V / 10 ^ k % 10 ≠ 0 := by
    intro k
    induction k with
    | zero =>
      intro V hV h
      by_cases hu : V < 10
      · simp; omega
      · rw [Lib.nDigits_big hu] at h; have := Lib.nDigits_pos (V / 10); omega
    | succ k ih =>
      intro V hV h
      by_cases hu : V < 10
      · rw [Lib.nDigits_small hu] at h; omega
      · rw [Lib.nDigits_big hu] at h
        have := ih (V / 10) (by omega) (by omega)
        rw [Nat.div_div_eq_div_mul, ← Nat.pow_succ'] at this
        exact this
  have hp := Lib.nDigits_pos V
  have := h1 (Lib.nDigits V - 1) V hV (by omega)
  unfold dgi
  omega
/-- A number of n limbs has room in so many pieces. -/
theorem room_pieces {n p c : Nat} {V : Int} (hV : V < pw n) (hp : 64 * n ≤ 63 * p) (hc : p ≤ 2 ^ c) : V < ((10 ^ (19 * 2 ^ c) : Nat) : Int) := by
  have h1 : pw n = ((2 ^ (64 * n) : Nat) : Int) := by
    clear hV hp
    induction n with
    | zero => rfl
    | succ n ih => rw [pw_succ, ih, Nat.mul_add, Nat.pow_add]; simp; omega
  have h2 : 2 ^ (64 * n) ≤ 2 ^ (63 * p) := Nat.pow_le_pow_right (by omega) hp
  have h3 : 2 ^ (63 * p) ≤ 10 ^ (19 * p) := by
    rw [Nat.pow_mul, Nat.pow_mul]; exact Nat.pow_le_pow_left (by decide) p
  have h4 : 10 ^ (19 * p) ≤ 10 ^ (19 * 2 ^ c) := Nat.pow_le_pow_right (by omega) (Nat.mul_le_mul_left 19 hc)
  omega
theorem cv_text {P : Program} (w : World) (tB tS tE : TypeId) (g o cap : Nat) (t : Nat → Int) (V : Nat) (h1 : P.underlying tB = some (.slice tE)) (h2 : P.underlying tE = some (.int .u8)) (h3 : P.underlying tS = some .string) (hr : Rd .u8 w (some ⟨g, o, none⟩) (Lib.nDigits V) t) (ht : ∀ j, j < Lib.nDigits V → t j = dgi V (Lib.nDigits V - 1 - j)) :
    (convert tB tS (.slice (some ⟨g, o, none⟩) (Lib.nDigits V) cap)).run P w = .ok (.string ⟨(Lib.decDigits V).toArray⟩) w := by
  have h := run_convert_bytes_back (P := P) w tB tS tE ⟨g, o, none⟩ cap (Lib.decDigits V) h1 h2 h3 (fun j hj => by
    rw [Lib.decDigits_length] at hj
    have e := byt_dec V j hj
    have hc := hr.cell hj
    rw [ht j hj, ← e] at hc
    rw [Lib.add_plain, hc]
    unfold byt
    rw [List.getD_eq_getElem?_getD, List.getElem?_eq_getElem (by rw [Lib.decDigits_length]; exact hj)]
    rfl)
  rw [Lib.decDigits_length] at h
  exact h

set_option maxRecDepth 100000 in
set_option maxHeartbeats 2000000 in
/-- digits: the decimal digits. -/
theorem digits_c (ao : Option Addr) (n ca c : Nat) (f : Nat → Int) (V : Nat) (w : World) (hn : n ≤ 4096) (hr : Rd .u64 w ao n f) (hf : Lm f n) (ff : Fm f n) (hV : vf f n = V) (htab : Tab w) (hc : c = lev ((64 * n + 62) / 63)) (hca : n ≤ ca) (hcam : ca ≤ 9223372036854775807) (hdiv : ∀ j, j < c → ∀ X, 0 ≤ X → X ≤ (V : Int) → DivOk X (tens j)) :
    Calls Tryz.prog 116 #[.slice ao n ca] w fun e w' => e = .returned (.string ⟨(Lib.decDigits V).toArray⟩) ∧ Below w.heap.size w w' := by
  by_cases h0 : n = 0
  · subst h0
    have hV0 : V = 0 := by simp [vf] at hV; omega
    have E := hid (show Lib.decDigits V = [48] by rw [hV0, Lib.decDigits_one (by omega)]; rfl)
    clear hr hf ff hV hdiv
    go_enter Tryz.func116, Tryz.ntmps116
    go_wp2
    go_ret
    exact ⟨by rw [E.out]; rfl, Below.refl _ _⟩
  · have hVp : 0 < V := by
      have := vf_form_ge hf ff (by omega); have := pw_pos (n - 1); omega
    obtain ⟨p, hp⟩ : ∃ p, p = (64 * n + 62) / 63 := ⟨_, rfl⟩
    have hp1 : 1 ≤ p := by omega
    have hp2 : p ≤ 8192 := by omega
    rw [← hp] at hc
    have hc13 : c ≤ 13 := by rw [hc]; exact lev_le p 13 (by omega) (by omega)
    have hpc : p ≤ 2 ^ c := by rw [hc]; exact lev_ge p (by omega)
    obtain ⟨K, hK⟩ : ∃ K, K = 19 * 2 ^ c := ⟨_, rfl⟩
    have h2c : 2 ^ c ≤ 8192 := Nat.pow_le_pow_right (n := 2) (by omega) hc13
    have h2c1 : 1 ≤ 2 ^ c := Nat.pow_pos (by omega)
    have hKb : K ≤ 155648 := by omega
    have hK1 : 19 ≤ K := by omega
    have hVK : V < 10 ^ K := by
      have := room_pieces (n := n) (p := p) (c := c) (V := (V : Int)) (by rw [← hV]; exact vf_lt hf) (by omega) hpc
      rw [← hK] at this
      exact_mod_cast this
    have hnd := nDigits_le hVK (by omega)
    have hndp := Lib.nDigits_pos V
    have hsh : IntKind.i64.wrap (19 * 2 ^ c) = (K : Int) := by
      have : (19 * 2 ^ c : Int) = K := by rw [hK]; simp
      rw [this, IntKind.wrap_i64]; omega
    have C1 := hid (fun (z : Int) hz W => levels_c p z W hz (by omega))
    have C2 := hid (fun W => bases_c c W (by omega))
    have HNum := hid (show Nu w (.slice ao n ca) n (V : Int) from ⟨ao, n, ca, f, rfl, hr, hf, ff, Nat.le_refl _, hV, hca, hcam⟩)
    have HDv := hid hdiv; have HP := hid hp; have HC := hid hc; have HKK := hid hK; have HVK := hid hVK; have HT := hid htab
    have hhi : ((n : Int) * 64 + 63 - 1) / 63 = (p : Int) := by rw [hp]; omega
    clear hdiv hr hf ff hV hp hc hK hVK htab hpc h2c h2c1
    have h0i : ((n : Int) == 0) = false := by simp; omega
    go_enter Tryz.func116, Tryz.ntmps116
    go_wp2_with fail
    refine (C1.out _ rfl _).mono ?_
    rintro e w1 ⟨rfl, rfl⟩
    rw [← HC.out]
    clear C1
    go_wp2_with (at_make; refine wpList_make_blk .u8 w1 rfl (.tmp 16) (.tmp 16) 137 rfl 5 1 Tryz.underlying137 Tryz.infoU8 .i64 .i64 K K K rfl rfl rfl rfl (by omega) (by unfold maxLen; omega) ?_; intro w2 hb2 hbel2)
    have HBk2 := hid hb2
    have HNum2 := hid (HNum.out.below hbel2)
    have HT2 := hid (HT.out.below hbel2 HT.out.lt)
    clear hb2
    refine (C2.out _).mono ?_
    rintro e w3 ⟨bo, cap, rfl, hbel3, hcap, hcapm, _, hbas⟩
    have HBk3 := hid (HBk2.out.below hbel3 HBk2.out.lt)
    have HNum3 := hid (HNum2.out.below hbel3)
    have HT3 := hid (HT2.out.below hbel3 HT2.out.lt)
    have HBas := hid hbas
    have hgl : 5 < w1.heap.size := HT.out.lt
    clear C2 HBk2 HNum2 HT2 hbas
    go_wp2_with fail
    refine (putDigits_c V c HDv.out w1.heap.size 0 K K K (fun _ => 0) ao n ca n V bo cap w3 HBk3.out (by omega) (by omega) HKK.out (Nat.le_refl _) (by omega) HNum3.out (by omega) HVK.out (Int.le_refl _) HBas.out hcap hcapm (by omega) HT3.out hgl).mono ?_
    rintro e w4 ⟨rfl, hon4, t, hb4, he4, hd4⟩
    have hd5 : ∀ j, j < K → t j = dgi V (K - 1 - j) := fun j hj => by have := hd4 j hj; rwa [Nat.zero_add] at this
    have HBk4 := hid hb4; have HD := hid hd5
    have hbel4 : Below w1.heap.size w1 w4 := below_only (hbel2.trans (hbel3.mono hbel2.size)) hon4 (Nat.le_refl _) (Nat.le_trans hbel2.size hbel3.size)
    clear he4 hd4 hd5 hb4 HBk3 HNum3 HT3 HBas hon4 hbel3 hbel2 HNum HT
    obtain ⟨k0, hk0⟩ : ∃ k0, k0 = K - Lib.nDigits V := ⟨_, rfl⟩
    have hk1 : K - k0 = Lib.nDigits V := by omega
    have hk2 : k0 < K := by omega
    have hrd := HBk4.out.rd0 (Nat.le_refl _)
    have c5 := (trimLeft_c w1.heap.size 0 K K k0 t w4 hrd (Nat.le_refl _) hk2 (fun j hj => by rw [HD.out j (by omega)]; exact dgi_front (by omega)) (by rw [HD.out k0 hk2, show K - 1 - k0 = Lib.nDigits V - 1 by omega]; exact dgi_top hVp))
    rw [Nat.zero_add] at c5
    have C5 := hid c5
    clear c5
    have hcv := cv_text (P := Tryz.prog) w4 137 9 5 w1.heap.size (0 + k0) (K - k0) (sh t k0) V Tryz.underlying137 Tryz.underlying5 Tryz.underlying9 (by have := hrd.drop (i := k0) (m := Lib.nDigits V) (by omega); exact this) (fun j hj => by rw [sh_at, HD.out _ (by omega)]; congr 1; omega)
    rw [← hk1, Nat.zero_add] at hcv
    clear hrd hk0 hk1
    go_wp2_with fail
    refine C5.out.mono ?_
    rintro e w5 ⟨rfl, rfl⟩
    go_wp2
    go_ret
    exact ⟨rfl, hbel4⟩
end Go.Proofs.YtclopblgdiahiaaGreatDoor
namespace Go.Proofs.YtclopblgdiahiaaGreatDoor
open Go.RowKit

set_option maxHeartbeats 1000000 in
theorem Text_u (ao : Option Addr) (n ca c : Nat) (f : Nat → Int) (V : Nat) (w : World) (hn : n ≤ 4096) (hr : Rd .u64 w ao n f) (hf : Lm f n) (ff : Fm f n) (hV : vf f n = V) (htab : Tab w) (hc : c = lev ((64 * n + 62) / 63)) (hca : n ≤ ca) (hcam : ca ≤ 9223372036854775807) (hdiv : ∀ j, j < c → ∀ X, 0 ≤ X → X ≤ (V : Int) → DivOk X (tens j)) :
    Calls Tryz.prog 79 #[.slice ao n ca] w fun e w' => e = .returned (.tuple #[.string ⟨(Lib.decDigits V).toArray⟩, .int .i64 0]) ∧ Below w.heap.size w w' := by
  have c1 := form_c ao n ca f w (by omega) hr
  rw [(fmB_iff f n).2 ff] at c1
  have C1 := hid c1
  have C2 := hid (digits_c ao n ca c f V w hn hr hf ff hV htab hc hca hcam hdiv)
  clear c1 hr hf ff hV htab hc hdiv
  go_enter Tryz.func79, Tryz.ntmps79
  go_wp2_with fail
  refine C1.out.mono ?_
  rintro e w1 ⟨rfl, rfl⟩
  go_wp2_with fail
  refine C2.out.mono ?_
  rintro e w1 ⟨rfl, hb⟩
  go_wp2
  go_ret2
  exact ⟨rfl, hb⟩

theorem Text_c (ao : Option Addr) (n ca c : Nat) (f : Nat → Int) (V : Nat) (w : World) (hn : n ≤ 4096) (hr : Rd .u64 w ao n f) (_ : Tg w ao) (hf : Lm f n) (ff : Fm f n) (hV : vf f n = V) (htab : Tab w) (hc : c = lev ((64 * n + 62) / 63)) (hca : n ≤ ca) (hcam : ca ≤ 9223372036854775807) (hdiv : ∀ j, j < c → ∀ X, 0 ≤ X → X ≤ (V : Int) → DivOk X (tens j)) :
    Calls Tryz.prog 79 #[.slice ao n ca] w fun e w' => e = .returned (.tuple #[.string ⟨(Lib.decDigits V).toArray⟩, .int .i64 0]) ∧ Below w.heap.size w w' := Text_u ao n ca c f V w hn hr hf ff hV htab hc hca hcam hdiv

set_option maxHeartbeats 1000000 in
theorem DivMod_of (ao bo : Option Addr) (n m ca cb : Nat) (f h : Nat → Int) (w : World) (hn : n ≤ 8796093022208) (hm : m ≤ 8796093022208) (hr : Rd .u64 w ao n f) (hs : Rd .u64 w bo m h) (hf : Lm f n) (hh : Lm h m) (ff : Fm f n) (fh : Fm h m) (hm0 : 0 < m) (hd : DivOk (vf f n) (vf h m)) :
    Calls Tryz.prog 75 #[.slice ao n ca, .slice bo m cb] w fun e w' => ∃ a1 k1 c1 q a2 k2 c2 r, e = .returned (.tuple #[.slice a1 k1 c1, .slice a2 k2 c2, .int .i64 0]) ∧ Res n w w' a1 k1 c1 q ∧ Res (n + 1) w w' a2 k2 c2 r ∧ vf f n = vf q k1 * vf h m + vf r k2 ∧ 0 ≤ vf r k2 ∧ vf r k2 < vf h m := by
  have c1 := form_c ao n ca f w (by omega) hr
  rw [(fmB_iff f n).2 ff] at c1
  have c2 := form_c bo m cb h w (by omega) hs
  rw [(fmB_iff h m).2 fh] at c2
  have C1 := hid c1; have C2 := hid c2
  have C3 := hid (hd ao bo n m ca cb f h w hn hm hr hs hf hh ff fh rfl rfl)
  have hmi : ((m : Int) == 0) = false := by simp; omega
  clear c1 c2 hr hs hf hh ff fh hd
  go_enter Tryz.func75, Tryz.ntmps75
  go_wp2_with fail
  refine C1.out.mono ?_
  rintro e w1 ⟨rfl, rfl⟩
  go_wp2_with fail
  refine C2.out.mono ?_
  rintro e w1 ⟨rfl, rfl⟩
  go_wp2_with fail
  refine C3.out.mono ?_
  rintro e w1 ⟨a1, k1, c1, q, a2, k2, c2, r, rfl, hrest⟩
  have HR := hid hrest
  clear hrest
  go_wp2
  go_ret3
  exact ⟨a1, k1, c1, q, a2, k2, c2, r, rfl, HR.out⟩

set_option maxHeartbeats 1000000 in
/-- gcd where the first number is the lesser and has one limb. -/
theorem gcd_one_sw (bo : Option Addr) (b o n ca cb : Nat) (f : Nat → Int) (x : Nat) (w : World) (hn : n ≤ 8796093022208) (hr : Rd .u64 w bo n f) (hf : Lm f n) (ff : Fm f n) (hx : w.cell? ⟨b, o, none⟩ = some (.int .u64 x)) (x0 : 0 < x) (x1 : x < 18446744073709551616) (hlt : (x : Int) < vf f n) :
    Calls Tryz.prog 147 #[.slice (some ⟨b, o, none⟩) 1 ca, .slice bo n cb] w fun e w' => ∃ ao' k cap' f', e = .returned (.slice ao' k cap') ∧ Res 1 w w' ao' k cap' f' ∧ vf f' k = (Nat.gcd x (vf f n % x).toNat : Nat) := by
  have hs : Rd .u64 w (some ⟨b, o, none⟩) 1 (fun _ => (x : Int)) := Rd.mk (fun j hj => by obtain rfl : j = 0 := by omega
                                                                                          exact hx)
  have cc := cmp_c (some ⟨b, o, none⟩) bo 1 n ca cb (fun _ => (x : Int)) f w (by omega) (by omega) hs hr (lm_const (by omega) (by omega) 1) hf (.inr (by simp; omega)) ff
  have hv1 : vf (fun _ => (x : Int)) 1 = x := by simp [vf, pw]
  rw [hv1] at cc
  obtain ⟨R, hR⟩ : ∃ R : Nat, (vf f n % x) = R := ⟨(vf f n % x).toNat, by have := Int.emod_nonneg (vf f n) (show (x : Int) ≠ 0 by omega); omega⟩
  have hR1 : (R : Int) < x := by rw [← hR]; exact Int.emod_lt_of_pos _ (by omega)
  have cm := fun w' hr' => modWord_c bo n cb f x w' (by omega) hr' hf (by omega) (by omega)
  rw [hR] at cm
  have cg := fun w' => gcdWord_c x R w' (by omega) (by omega)
  have hgl : Nat.gcd x R < 18446744073709551616 := Nat.lt_of_le_of_lt (Nat.gcd_le_left _ x0) x1
  have hfin : Nat.gcd x (vf f n % x).toNat = Nat.gcd x R := by rw [hR]; simp
  generalize Nat.gcd x R = G at *
  have CC := hid cc; have CM := hid cm; have CG := hid cg; have HFin := hid hfin; have HRd := hid hr
  have HLt := hid hlt
  clear cc cm cg hfin hr hs hv1 hR hlt hf ff
  go_enter Tryz.func147, Tryz.ntmps147
  go_wp2_with fail
  refine CC.out.mono ?_
  rintro e w1 ⟨⟨q, rfl⟩, c, rfl, ho⟩
  have hc : c = -1 := by have := HLt.out; unfold Ord at ho; omega
  subst hc
  clear ho
  go_wp2
  go_region_with (first | (go_at_call 170; refine (CM.out _ (by exact HRd.out)).mono ?_; rintro e w' ⟨rfl, q1, rfl⟩) | (go_at_call 169; refine (CG.out _).mono ?_; rintro e w' ⟨rfl, q2, rfl⟩) | (go_at_call 133; refine (fromWord_c G _ (by omega) (by omega)).mono ?_; rintro e w' ⟨ao', m', cap', f', rfl, hres, hv'⟩))
  all_goals
    go_wp2
    go_ret
    exact ⟨ao', m', cap', f', rfl, hres.ahead (by repeat (first | exact Below.refl _ _ | refine below_drewN ?_ _ | refine Below.drew ?_)), by rw [HFin.out]; exact hv'⟩

/-- Gcd(12, 18), as the statements' own look asks it. -/
theorem Gcd_sw (bo : Option Addr) (b o n ca cb : Nat) (f : Nat → Int) (x : Nat) (w : World) (hn : n ≤ 8796093022208) (hr : Rd .u64 w bo n f) (hf : Lm f n) (ff : Fm f n) (hx : w.cell? ⟨b, o, none⟩ = some (.int .u64 x)) (x0 : 0 < x) (x1 : x < 18446744073709551616) (hlt : (x : Int) < vf f n) :
    Calls Tryz.prog 124 #[.slice (some ⟨b, o, none⟩) 1 ca, .slice bo n cb] w fun e w' => ∃ ao' k cap' f', e = .returned (.tuple #[.slice ao' k cap', .int .i64 0]) ∧ Res 1 w w' ao' k cap' f' ∧ vf f' k = (Nat.gcd x (vf f n % x).toNat : Nat) := by
  have hs : Rd .u64 w (some ⟨b, o, none⟩) 1 (fun _ => (x : Int)) := Rd.mk (fun j hj => by obtain rfl : j = 0 := by omega
                                                                                          exact hx)
  have c1 := form_c (some ⟨b, o, none⟩) 1 ca (fun _ => (x : Int)) w (by omega) hs
  rw [(fmB_iff _ 1).2 (.inr (by simp; omega))] at c1
  have c2 := form_c bo n cb f w (by omega) hr
  rw [(fmB_iff f n).2 ff] at c2
  have C1 := hid c1; have C2 := hid c2
  have C3 := hid (gcd_one_sw bo b o n ca cb f x w hn hr hf ff hx x0 x1 hlt)
  clear c1 c2 hr hs hf ff hx hlt
  go_enter Tryz.func124, Tryz.ntmps124
  go_wp2_with fail
  refine C1.out.mono ?_
  rintro e w1 ⟨rfl, rfl⟩
  go_wp2_with fail
  refine C2.out.mono ?_
  rintro e w1 ⟨rfl, rfl⟩
  go_wp2_with fail
  refine C3.out.mono ?_
  rintro e w1 ⟨ao', k, cap', f', rfl, hrest⟩
  have HR := hid hrest
  clear hrest
  go_wp2
  go_ret2
  exact ⟨ao', k, cap', f', rfl, HR.out⟩

/-- Same of two lists of one number. -/
theorem same_true (ao bo : Option Addr) (n m ca cb : Nat) (f g : Nat → Int) (w : World) (hm : n ≤ 140737488355328) (hm' : m ≤ 140737488355328) (hr : Rd .u64 w ao n f) (hs : Rd .u64 w bo m g) (hf : Lm f n) (hg : Lm g m) (ff : Fm f n) (fg : Fm g m) (hv : vf f n = vf g m) :
    Calls Tryz.prog 43 #[.slice ao n ca, .slice bo m cb] w fun e w' => e = .returned (.bool true) ∧ ∃ q, w' = w.drewN q := by
  refine (same_c ao bo n m ca cb f g w hm hm' hr hs).mono ?_
  rintro e w' ⟨hq, b, rfl, hb⟩
  have : b = true := hb.2 (vf_inj hf hg ff fg hv)
  subst this
  exact ⟨rfl, hq⟩
end Go.Proofs.YtclopblgdiahiaaGreatDoor
namespace Go.Proofs.YtclopblgdiahiaaGreatDoor
open Go.RowKit

/-- Two limbs. -/
def lim2 (x y : Int) : Nat → Int := fun j => if j = 0 then x else y
theorem lm_lim2 {x y : Int} (hx : 0 ≤ x ∧ x < 18446744073709551616) (hy : 0 ≤ y ∧ y < 18446744073709551616) (n : Nat) : Lm (lim2 x y) n := fun j _ => by
  unfold lim2; split
  · exact hx
  · exact hy
theorem vf_lim2 (x y : Int) : vf (lim2 x y) 2 = x + y * 18446744073709551616 := by simp [vf, pw, lim2]
theorem vf_one (x : Int) : vf (fun _ => x) 1 = x := by simp [vf, pw]
theorem rd_newP (w : World) (e : TypeId) (x y : Int) : Rd .u64 (w.alloc (.cells #[.int .u64 x, .int .u64 y] e)) (some ⟨w.heap.size, 0, none⟩) 2 (lim2 x y) :=
  Rd.mk (fun j hj => by
    rw [Nat.zero_add, World.cell?_alloc_new]
    rcases (show j = 0 ∨ j = 1 by omega) with rfl | rfl <;> simp [lim2])
theorem tg_new (w : World) (c : Array Value) : Tg (w.alloc (.cells c 28)) (some ⟨w.heap.size, 0, none⟩) := fun a ha => by
  cases ha; exact ⟨_, _, heap_alloc_new w _⟩
theorem Rd.alloc {k w ao n f} (h : Rd k w ao n f) (o : Obj) : Rd k (w.alloc o) ao n f := h.below ((Below.refl _ _).alloc (Nat.le_refl _) o) (Nat.le_refl _)
theorem below_alloc {w0 w : World} (h : Below w0.heap.size w0 w) (o : Obj) : Below w0.heap.size w0 (w.alloc o) := h.alloc h.size o
theorem fm1 {x : Int} (h : x ≠ 0) : Fm (fun _ => x) 1 := .inr h
theorem tens_zero : tens 0 = 10000000000000000000 := by simp [tens]
theorem tens_one : tens 1 = 100000000000000000000000000000000000000 := by simp [tens]
theorem text_64 : Lib.decDigits 18446744073709551616 = [49, 56, 52, 52, 54, 55, 52, 52, 48, 55, 51, 55, 48, 57, 53, 53, 49, 54, 49, 54] := by
  have hn : Lib.nDigits 18446744073709551616 = 20 := Lib.nDigits_unique 19 _ (by decide) (by decide)
  rw [Lib.decDigits_eq, hn]
  decide +kernel

/-- Text of 2^64. -/
theorem text_look (w : World) (htab : Tab w) : Calls Tryz.prog 79 #[.slice (some ⟨w.heap.size, 0, none⟩) 2 2] (w.alloc (.cells #[.int .u64 0, .int .u64 1] 28)) fun e w' => e = .returned (.tuple #[.string ⟨#[49, 56, 52, 52, 54, 55, 52, 52, 48, 55, 51, 55, 48, 57, 53, 53, 49, 54, 49, 54]⟩, .int .i64 0]) ∧ Below w.heap.size w w' := by
  have hl : lev ((64 * 2 + 62) / 63) = 2 := by decide +kernel
  have hbel : Below w.heap.size w (w.alloc (.cells #[.int .u64 0, .int .u64 1] 28)) := (Below.refl _ _).alloc (Nat.le_refl _) _
  refine (Text_c (some ⟨w.heap.size, 0, none⟩) 2 2 2 (lim2 0 1) 18446744073709551616 (w.alloc (.cells #[.int .u64 0, .int .u64 1] 28)) (by omega) (rd_newP w _ 0 1) (tg_new w _) (lm_lim2 (by omega) (by omega) 2) (.inr (by simp [lim2])) (by rw [vf_lim2]; rfl) (htab.below hbel htab.lt) hl.symm (by omega) (by omega) ?_).mono ?_
  · intro j hj X hX hXV
    rcases (show j = 0 ∨ j = 1 by omega) with rfl | rfl
    · rw [tens_zero]; exact divOk_small (by omega) (.inl (by omega))
    · rw [tens_one]; exact divOk_small (by omega) (.inr (by omega))
  · rintro e w' ⟨rfl, hb⟩
    refine ⟨by rw [text_64], hbel.trans (hb.mono ?_)⟩
    simp

/-- A number that was answered and can be read. -/
structure Got (w w' : World) (ao : Option Addr) (n : Nat) (f : Nat → Int) (V : Int) : Prop where
  bel : Below w.heap.size w w'
  rd : Rd .u64 w' ao n f
  lm : Lm f n
  fm : Fm f n
  le : n ≤ 4
  val : vf f n = V
theorem Res.got {C w0 w w' ao n cap f V} (h : Res C w w' ao n cap f) (hb : Below w0.heap.size w0 w) (hC : C ≤ 4) (hv : vf f n = V) : Got w0 w' ao n f V :=
  ⟨hb.trans (h.bel.mono hb.size), h.rd, h.lm, h.fm, by have := h.le; omega, hv⟩
theorem Got.below {w w' w'' ao n f V} (h : Got w w' ao n f V) (hb : Below w'.heap.size w' w'') : Got w w'' ao n f V :=
  ⟨h.bel.trans (hb.mono h.bel.size), h.rd.below hb (Nat.le_refl _), h.lm, h.fm, h.le, h.val⟩
theorem size_alloc1 (w : World) (o : Obj) : (w.alloc o).heap.size = w.heap.size + 1 := by simp

theorem add_look (w : World) : Calls Tryz.prog 76 #[.slice (some ⟨w.heap.size, 0, none⟩) 1 1, .slice (some ⟨w.heap.size + 1, 0, none⟩) 1 1] ((w.alloc (.cells #[.int .u64 18446744073709551615] 28)).alloc (.cells #[.int .u64 1] 28)) fun e w' => ∃ a n c f, e = .returned (.tuple #[.slice a n c, .int .i64 0]) ∧ Got w w' a n f 18446744073709551616 := by
  rw [← size_alloc1 w (.cells #[.int .u64 18446744073709551615] 28)]
  refine (Add_c _ _ 1 1 1 1 (fun _ => 18446744073709551615) (fun _ => 1) _ (by omega) (by omega) ((rd_new1 w _ _).alloc _) (rd_new1 _ _ _) (lm_const (by omega) (by omega) 1) (lm_const (by omega) (by omega) 1)).mono ?_
  rintro e w' ⟨a, n, c, f, er, rfl, hres, hcase⟩
  rcases hcase with ⟨_, _, rfl, hv⟩ | ⟨hn, _⟩
  · exact ⟨a, n, c, f, rfl, hres.got (below_alloc (below_alloc (Below.refl _ _) _) _) (by omega) (by rw [hv, vf_one, vf_one]; rfl)⟩
  · exact absurd ⟨fm1 (by omega), fm1 (by omega)⟩ hn
theorem div_look (w : World) : Calls Tryz.prog 75 #[.slice (some ⟨w.heap.size, 0, none⟩) 2 2, .slice (some ⟨w.heap.size + 1, 0, none⟩) 1 1] ((w.alloc (.cells #[.int .u64 0, .int .u64 1] 28)).alloc (.cells #[.int .u64 3] 28)) fun e w' => ∃ a1 n1 c1 f1 a2 n2 c2 f2, e = .returned (.tuple #[.slice a1 n1 c1, .slice a2 n2 c2, .int .i64 0]) ∧ Got w w' a1 n1 f1 6148914691236517205 ∧ Got w w' a2 n2 f2 1 := by
  rw [← size_alloc1 w (.cells #[.int .u64 0, .int .u64 1] 28)]
  refine (DivMod_of _ _ 2 1 2 1 (lim2 0 1) (fun _ => 3) _ (by omega) (by omega) ((rd_newP w _ _ _).alloc _) (rd_new1 _ _ _) (lm_lim2 (by omega) (by omega) 2) (lm_const (by omega) (by omega) 1) (.inr (by simp [lim2])) (fm1 (by omega)) (by omega) ?_).mono ?_
  · rw [vf_lim2, vf_one]; exact divOk_small (by omega) (.inl (by omega))
  · rintro e w' ⟨a1, k1, c1, q, a2, k2, c2, r, rfl, h1, h2, hv, r0, r1⟩
    rw [vf_lim2, vf_one] at hv
    rw [vf_one] at r1
    have hb := below_alloc (below_alloc (Below.refl w.heap.size w) (.cells #[.int .u64 0, .int .u64 1] 28)) (.cells #[.int .u64 3] 28)
    exact ⟨a1, k1, c1, q, a2, k2, c2, r, rfl, h1.got hb (by omega) (by omega), h2.got hb (by omega) (by omega)⟩
theorem gcd_look (w : World) : Calls Tryz.prog 124 #[.slice (some ⟨w.heap.size, 0, none⟩) 1 1, .slice (some ⟨w.heap.size + 1, 0, none⟩) 1 1] ((w.alloc (.cells #[.int .u64 12] 28)).alloc (.cells #[.int .u64 18] 28)) fun e w' => ∃ a n c f, e = .returned (.tuple #[.slice a n c, .int .i64 0]) ∧ Got w w' a n f 6 := by
  rw [← size_alloc1 w (.cells #[.int .u64 12] 28)]
  refine (Gcd_sw _ w.heap.size 0 1 1 1 (fun _ => 18) 12 _ (by omega) (rd_new1 _ _ _) (lm_const (by omega) (by omega) 1) (fm1 (by omega)) (by have := ((rd_new1 w 28 12).alloc (.cells #[.int .u64 18] 28)).cell (j := 0) (by omega); exact this) (by omega) (by omega) (by rw [vf_one]; decide)).mono ?_
  rintro e w' ⟨a, k, c, f, rfl, hres, hv⟩
  exact ⟨a, k, c, f, rfl, hres.got (below_alloc (below_alloc (Below.refl _ _) _) _) (by omega) (by rw [hv, vf_one]; decide)⟩
theorem sub_look (w : World) : Calls Tryz.prog 77 #[.slice (some ⟨w.heap.size, 0, none⟩) 1 1, .slice (some ⟨w.heap.size + 1, 0, none⟩) 1 1] ((w.alloc (.cells #[.int .u64 1] 28)).alloc (.cells #[.int .u64 2] 28)) fun e w' => ∃ a n c, e = .returned (.tuple #[.slice a n c, .int .i64 1]) ∧ Below w.heap.size w w' := by
  rw [← size_alloc1 w (.cells #[.int .u64 1] 28)]
  refine (Sub_c _ _ 1 1 1 1 (fun _ => 1) (fun _ => 2) _ (by omega) (by omega) ((rd_new1 w _ _).alloc _) (rd_new1 _ _ _) (lm_const (by omega) (by omega) 1) (lm_const (by omega) (by omega) 1)).mono ?_
  rintro e w' ⟨a, n, c, f, er, rfl, hres, hcase⟩
  rw [vf_one, vf_one] at hcase
  rcases hcase with ⟨_, _, hle, _⟩ | ⟨_, _, _, rfl, _⟩ | ⟨hn, _⟩
  · omega
  · have hb := below_alloc (below_alloc (Below.refl w.heap.size w) (.cells #[.int .u64 1] 28)) (.cells #[.int .u64 2] 28)
    exact ⟨a, n, c, rfl, hb.trans (hres.bel.mono hb.size)⟩
  · exact absurd ⟨fm1 (by omega), fm1 (by omega)⟩ hn
theorem same_look1 {w0 w : World} {ao : Option Addr} {n ca : Nat} {f : Nat → Int} {V : Int} (h : Got w0 w ao n f V) (x : Int) (hx : 0 < x ∧ x < 18446744073709551616) (hV : V = x) : Calls Tryz.prog 43 #[.slice ao n ca, .slice (some ⟨w.heap.size, 0, none⟩) 1 1] (w.alloc (.cells #[.int .u64 x] 28)) fun e w' => e = .returned (.bool true) ∧ Below w.heap.size w w' := by
  refine (same_true ao _ n 1 ca 1 f (fun _ => x) _ (by have := h.le; omega) (by omega) (h.rd.alloc _) (rd_new1 _ _ _) h.lm (lm_const (by omega) hx.2 1) h.fm (fm1 (by omega)) (by rw [h.val, vf_one]; exact hV)).mono ?_
  rintro e w' ⟨rfl, q, rfl⟩
  exact ⟨rfl, below_drewN (below_alloc (Below.refl _ _) _) q⟩
theorem same_look2 {w0 w : World} {ao : Option Addr} {n ca : Nat} {f : Nat → Int} (h : Got w0 w ao n f 18446744073709551616) : Calls Tryz.prog 43 #[.slice ao n ca, .slice (some ⟨w.heap.size, 0, none⟩) 2 2] (w.alloc (.cells #[.int .u64 0, .int .u64 1] 28)) fun e w' => e = .returned (.bool true) ∧ Below w.heap.size w w' := by
  refine (same_true ao _ n 2 ca 2 f (lim2 0 1) _ (by have := h.le; omega) (by omega) (h.rd.alloc _) (rd_newP _ _ _ _) h.lm (lm_lim2 (by omega) (by omega) 2) h.fm (.inr (by simp [lim2])) (by rw [h.val, vf_lim2]; rfl)).mono ?_
  rintro e w' ⟨rfl, q, rfl⟩
  exact ⟨rfl, below_drewN (below_alloc (Below.refl _ _) _) q⟩

end Go.Proofs.YtclopblgdiahiaaGreatDoor
namespace Go.Proofs.YtclopblgdiahiaaGreatDoor
open Go.RowKit

/-- x where p holds, else 0. -/
noncomputable def pick (p : Prop) (x : Int) : Int := @ite Int p (Classical.propDecidable p) x 0
theorem pick_pos {p : Prop} {x : Int} (h : p) : pick p x = x := by unfold pick; exact if_pos h
theorem pick_neg {p : Prop} {x : Int} (h : ¬ p) : pick p x = 0 := by unfold pick; exact if_neg h
/-- The number of the answer j. -/
noncomputable def ansV (f : Nat → Int) (n : Nat) (h : Nat → Int) (m : Nat) : Nat → Int
  | 0 => pick (Fm f n ∧ Fm h m) (vf f n + vf h m)
  | 1 => pick (Fm f n ∧ Fm h m ∧ vf h m ≤ vf f n) (vf f n - vf h m)
  | 2 => pick (Fm f n ∧ Fm h m) (vf f n * vf h m)
  | 3 => pick (Fm f n ∧ Fm h m ∧ 0 < m) (vf f n / vf h m)
  | 4 => pick (Fm f n ∧ Fm h m ∧ 0 < m) (vf f n % vf h m)
  | 5 => pick (Fm f n ∧ Fm h m) (Nat.gcd (vf f n).toNat (vf h m).toNat : Nat)
  | 6 => pick (Fm f n) (vf f n * 2 ^ (3 : Int).toNat)
  | _ => pick (Fm f n) (vf f n * 2 ^ (0 : Int).toNat)
theorem vf_k0 {f : Nat → Int} {k : Nat} (h : k = 0) : vf f k = 0 := by subst h; rfl
theorem ans_two {f h f' : Nat → Int} {n m k : Nat} {er X : Int} (c : Fm f n ∧ Fm h m ∧ er = 0 ∧ vf f' k = X ∨ ¬ (Fm f n ∧ Fm h m) ∧ er = 3 ∧ k = 0) : vf f' k = pick (Fm f n ∧ Fm h m) X := by
  rcases c with ⟨a, b, _, e⟩ | ⟨a, _, e⟩
  · rw [pick_pos ⟨a, b⟩, e]
  · rw [pick_neg a, vf_k0 e]
theorem ans_sub {f h f' : Nat → Int} {n m k : Nat} {er : Int} (c : Fm f n ∧ Fm h m ∧ vf h m ≤ vf f n ∧ er = 0 ∧ vf f' k = vf f n - vf h m ∨ Fm f n ∧ Fm h m ∧ vf f n < vf h m ∧ er = 1 ∧ k = 0 ∨ ¬ (Fm f n ∧ Fm h m) ∧ er = 3 ∧ k = 0) : vf f' k = ansV f n h m 1 := by
  show _ = pick _ _
  rcases c with ⟨a, b, d, _, e⟩ | ⟨a, b, d, _, e⟩ | ⟨a, _, e⟩
  · rw [pick_pos ⟨a, b, d⟩, e]
  · rw [pick_neg (fun x => by have := x.2.2; omega), vf_k0 e]
  · rw [pick_neg (fun x => a ⟨x.1, x.2.1⟩), vf_k0 e]
theorem ans_div {f h q r : Nat → Int} {n m k1 k2 : Nat} {er : Int} (c : DivAns n m f h k1 k2 q r er) : vf q k1 = ansV f n h m 3 ∧ vf r k2 = ansV f n h m 4 := by
  show _ = pick _ _ ∧ _ = pick _ _
  rcases c with ⟨a, b, d, _, e, r0, r1⟩ | ⟨a, b, d, _, e, e'⟩ | ⟨a, _, e, e'⟩
  · rw [pick_pos ⟨a, b, d⟩, pick_pos ⟨a, b, d⟩]
    have hb : 0 < vf h m := by omega
    have h1 := (Int.ediv_emod_unique (a := vf f n) (b := vf h m) (r := vf r k2) (q := vf q k1) hb).2 ⟨by rw [e, Int.mul_comm]; omega, r0, r1⟩
    exact ⟨h1.1.symm, h1.2.symm⟩
  · rw [pick_neg (fun x => by have := x.2.2; omega), pick_neg (fun x => by have := x.2.2; omega), vf_k0 e, vf_k0 e']; exact ⟨rfl, rfl⟩
  · rw [pick_neg (fun x => a ⟨x.1, x.2.1⟩), pick_neg (fun x => a ⟨x.1, x.2.1⟩), vf_k0 e, vf_k0 e']; exact ⟨rfl, rfl⟩
theorem ans_shl {f f' : Nat → Int} {n k : Nat} {er z X : Int} (z0 : 0 ≤ z) (z1 : z ≤ 65536) (c : (z < 0 ∨ 65536 < z) ∧ er = 1 ∧ k = 0 ∨ 0 ≤ z ∧ z ≤ 65536 ∧ ¬ Fm f n ∧ er = 3 ∧ k = 0 ∨ 0 ≤ z ∧ z ≤ 65536 ∧ Fm f n ∧ er = 0 ∧ vf f' k = X) : vf f' k = pick (Fm f n) X := by
  rcases c with ⟨a, _⟩ | ⟨_, _, a, _, e⟩ | ⟨_, _, a, _, e⟩
  · omega
  · rw [pick_neg a, vf_k0 e]
  · rw [pick_pos a, e]
theorem all8 {P : Nat → Prop} (h0 : P 0) (h1 : P 1) (h2 : P 2) (h3 : P 3) (h4 : P 4) (h5 : P 5) (h6 : P 6) (h7 : P 7) : ∀ j, j < 8 → P j := by
  intro j hj
  match j, hj with
  | 0, _ => exact h0
  | 1, _ => exact h1
  | 2, _ => exact h2
  | 3, _ => exact h3
  | 4, _ => exact h4
  | 5, _ => exact h5
  | 6, _ => exact h6
  | 7, _ => exact h7
  | j + 8, h => omega
/-- Eight lists. -/
def eight (a b c d e f g h : Ls) : Nat → Ls
  | 0 => a | 1 => b | 2 => c | 3 => d | 4 => e | 5 => f | 6 => g | _ => h
theorem sym_dis {N : Nat} {L : Nat → Ls} (h : ∀ k, k < N → ∀ j, j < k → Apart (L j).p (L k).p) : ∀ j k, j < N → k < N → j ≠ k → Apart (L j).p (L k).p := by
  intro j k hj hk hjk
  by_cases hlt : j < k
  · exact h k hk j hlt
  · exact (h j hj k (by omega)).symm
/-- Lists that a call answers: in blocks of their own, each in form. -/
structure AnsF (N C : Nat) (w w' : World) (g : Nat) (L : Nat → Ls) (V : Nat → Int) : Prop where
  bel : Below w.heap.size w w'
  fam : Fam 22 w' g N L
  gs : w.heap.size ≤ g
  own : ∀ j, j < N → Lo .u64 28 w' (L j)
  dis : ∀ j k, j < N → k < N → j ≠ k → Apart (L j).p (L k).p
  loc : ∀ j, j < N → ∀ a, (L j).p = some a → a.block ≠ g ∧ w.heap.size ≤ a.block
  lm : ∀ j, j < N → Lm (L j).f (L j).n
  fm : ∀ j, j < N → Fm (L j).f (L j).n
  le : ∀ j, j < N → (L j).n ≤ C
  val : ∀ j, j < N → vf (L j).f (L j).n = V j
/-- One list of them: where it lies, before the row of all is laid. -/
structure An (C : Nat) (w0 w : World) (l : Ls) (v : Int) : Prop where
  own : Lo .u64 28 w l
  loc : ∀ a, l.p = some a → w0.heap.size ≤ a.block
  lm : Lm l.f l.n
  fm : Fm l.f l.n
  le : l.n ≤ C
  val : vf l.f l.n = v
theorem An.later {C w0 w w' l v} (h : An C w0 w l v) (hb : Below w.heap.size w w') : An C w0 w' l v := ⟨Own.below h.own hb, h.loc, h.lm, h.fm, h.le, h.val⟩
theorem An.und {C w0 w l v} (h : An C w0 w l v) : Und l.p w.heap.size := fun a ha => h.own.lt a ha
theorem Res.an {C D w0 w w' ao n cap f v} (h : Res C w w' ao n cap f) (hb : Below w0.heap.size w0 w) (hC : C ≤ D) (hD : D ≤ 4096) (hv : vf f n = v) : An D w0 w' ⟨ao, n, cap, f⟩ v := by
  refine ⟨?_, ?_, h.lm, h.fm, Nat.le_trans h.le hC, hv⟩
  · show Own _ _ _ _ _ _ _
    rcases h.own with ⟨rfl, rfl, rfl⟩ | ⟨g, rfl, h1, h2, h3, h4, h5⟩
    · exact own_nil _ _ _ _ _
    · exact own_of_blk h5 (Nat.zero_le _) h3 (by unfold maxLen; omega)
  · intro a ha
    have hs := hb.size
    rcases h.own with ⟨rfl, _, _⟩ | ⟨g, rfl, h1, h2, h3, h4, h5⟩
    · cases ha
    · cases ha; simp; omega
theorem fam8 (w : World) (a b c d e f g h : Ls) : Fam 22 (w.alloc (.cells #[.slice a.p a.n a.c, .slice b.p b.n b.c, .slice c.p c.n c.c, .slice d.p d.n d.c, .slice e.p e.n e.c, .slice f.p f.n f.c, .slice g.p g.n g.c, .slice h.p h.n h.c] 22)) w.heap.size 8 (eight a b c d e f g h) :=
  ⟨_, heap_alloc_new w _, rfl, all8 rfl rfl rfl rfl rfl rfl rfl rfl⟩
theorem ans8 {C : Nat} {w0 w : World} {a b c d e f g h : Ls} {V : Nat → Int} (hb : Below w0.heap.size w0 w) (h0 : An C w0 w a (V 0)) (h1 : An C w0 w b (V 1)) (h2 : An C w0 w c (V 2)) (h3 : An C w0 w d (V 3)) (h4 : An C w0 w e (V 4)) (h5 : An C w0 w f (V 5)) (h6 : An C w0 w g (V 6)) (h7 : An C w0 w h (V 7))
    (d01 : Apart a.p b.p) (d02 : Apart a.p c.p) (d12 : Apart b.p c.p) (d03 : Apart a.p d.p) (d13 : Apart b.p d.p) (d23 : Apart c.p d.p) (d04 : Apart a.p e.p) (d14 : Apart b.p e.p) (d24 : Apart c.p e.p) (d34 : Apart d.p e.p) (d05 : Apart a.p f.p) (d15 : Apart b.p f.p) (d25 : Apart c.p f.p) (d35 : Apart d.p f.p) (d45 : Apart e.p f.p) (d06 : Apart a.p g.p) (d16 : Apart b.p g.p) (d26 : Apart c.p g.p) (d36 : Apart d.p g.p) (d46 : Apart e.p g.p) (d56 : Apart f.p g.p) (d07 : Apart a.p h.p) (d17 : Apart b.p h.p) (d27 : Apart c.p h.p) (d37 : Apart d.p h.p) (d47 : Apart e.p h.p) (d57 : Apart f.p h.p) (d67 : Apart g.p h.p) :
    AnsF 8 C w0 (w.alloc (.cells #[.slice a.p a.n a.c, .slice b.p b.n b.c, .slice c.p c.n c.c, .slice d.p d.n d.c, .slice e.p e.n e.c, .slice f.p f.n f.c, .slice g.p g.n g.c, .slice h.p h.n h.c] 22)) w.heap.size (eight a b c d e f g h) V := by
  refine ⟨hb.alloc hb.size _, fam8 w a b c d e f g h, hb.size, all8 (h0.own.alloc _) (h1.own.alloc _) (h2.own.alloc _) (h3.own.alloc _) (h4.own.alloc _) (h5.own.alloc _) (h6.own.alloc _) (h7.own.alloc _), sym_dis (all8 ?_ ?_ ?_ ?_ ?_ ?_ ?_ ?_), all8 (fun x hx => ⟨Nat.ne_of_lt (h0.own.lt x hx), h0.loc x hx⟩) (fun x hx => ⟨Nat.ne_of_lt (h1.own.lt x hx), h1.loc x hx⟩) (fun x hx => ⟨Nat.ne_of_lt (h2.own.lt x hx), h2.loc x hx⟩) (fun x hx => ⟨Nat.ne_of_lt (h3.own.lt x hx), h3.loc x hx⟩) (fun x hx => ⟨Nat.ne_of_lt (h4.own.lt x hx), h4.loc x hx⟩) (fun x hx => ⟨Nat.ne_of_lt (h5.own.lt x hx), h5.loc x hx⟩) (fun x hx => ⟨Nat.ne_of_lt (h6.own.lt x hx), h6.loc x hx⟩) (fun x hx => ⟨Nat.ne_of_lt (h7.own.lt x hx), h7.loc x hx⟩), all8 h0.lm h1.lm h2.lm h3.lm h4.lm h5.lm h6.lm h7.lm, all8 h0.fm h1.fm h2.fm h3.fm h4.fm h5.fm h6.fm h7.fm, all8 h0.le h1.le h2.le h3.le h4.le h5.le h6.le h7.le, all8 h0.val h1.val h2.val h3.val h4.val h5.val h6.val h7.val⟩
  · intro j hj
    omega
  · intro j hj
    match j, hj with
    | 0, _ => exact d01
    | j + 1, h => omega
  · intro j hj
    match j, hj with
    | 0, _ => exact d02
    | 1, _ => exact d12
    | j + 2, h => omega
  · intro j hj
    match j, hj with
    | 0, _ => exact d03
    | 1, _ => exact d13
    | 2, _ => exact d23
    | j + 3, h => omega
  · intro j hj
    match j, hj with
    | 0, _ => exact d04
    | 1, _ => exact d14
    | 2, _ => exact d24
    | 3, _ => exact d34
    | j + 4, h => omega
  · intro j hj
    match j, hj with
    | 0, _ => exact d05
    | 1, _ => exact d15
    | 2, _ => exact d25
    | 3, _ => exact d35
    | 4, _ => exact d45
    | j + 5, h => omega
  · intro j hj
    match j, hj with
    | 0, _ => exact d06
    | 1, _ => exact d16
    | 2, _ => exact d26
    | 3, _ => exact d36
    | 4, _ => exact d46
    | 5, _ => exact d56
    | j + 6, h => omega
  · intro j hj
    match j, hj with
    | 0, _ => exact d07
    | 1, _ => exact d17
    | 2, _ => exact d27
    | 3, _ => exact d37
    | 4, _ => exact d47
    | 5, _ => exact d57
    | 6, _ => exact d67
    | j + 7, h => omega

end Go.Proofs.YtclopblgdiahiaaGreatDoor
namespace Go.Proofs.YtclopblgdiahiaaGreatDoor
open Go.RowKit

/-- In form, sign and limbs. -/
def wfB (s : Bool) (f : Nat → Int) (n : Nat) : Bool := fmB f n && !(s && decide (n = 0))
/-- Old cells and marks read as before. -/
theorem bcell {W w1 : World} {B : Nat} (hb : Below B W w1) : (∀ b o, b < B → w1.cell? ⟨b, o, none⟩ = W.cell? ⟨b, o, none⟩) ∧ (∀ b o, b < B → w1.frozen? ⟨b, o, none⟩ = W.frozen? ⟨b, o, none⟩) :=
  ⟨fun b o h => hb.cell (p := ⟨b, o, none⟩) h, fun b o h => hb.frozen (p := ⟨b, o, none⟩) h⟩

theorem drewN_below {w w' : World} {q : Nat} (h : w' = w.drewN q) : Below w.heap.size w w' := by rw [h]; exact below_drewN (Below.refl _ _) _

theorem wForm_c (s : Bool) (ao : Option Addr) (n cap : Nat) (f : Nat → Int) (w : World) (hm : n ≤ 9223372036854775807) (hr : Rd .u64 w ao n f) :
    Calls Tryz.prog 37 #[.agg #[.bool s, .slice ao n cap]] w fun e w' => e = .returned (.bool (wfB s f n)) ∧ Below w.heap.size w w' := by
  have hba : Below w.heap.size w (w.alloc (.cells #[.bool s, .slice ao n cap] 24)) := below_alloc (Below.refl _ _) _
  have c1 := form_c ao n cap f (w.alloc (.cells #[.bool s, .slice ao n cap] 24)) hm (hr.alloc _)
  have HB := hid hba
  clear hr hba
  have hwf : wfB s f n = (fmB f n && !(s && decide (n = 0))) := rfl
  rw [hwf]
  clear hwf
  cases hfa : fmB f n
  · rw [hfa] at c1
    have C1 := hid c1
    clear c1 hfa
    go_enter Tryz.func37, Tryz.ntmps37
    go_wp2_with fail
    refine C1.out.mono ?_
    rintro e w1 ⟨rfl, rfl⟩
    go_wp2
    go_ret
    exact ⟨rfl, HB.out⟩
  · rw [hfa] at c1
    have C1 := hid c1
    clear c1 hfa
    cases s
    · go_enter Tryz.func37, Tryz.ntmps37
      go_wp2_with fail
      refine C1.out.mono ?_
      rintro e w1 ⟨rfl, rfl⟩
      go_wp2
      go_ret
      exact ⟨rfl, HB.out⟩
    · by_cases hn0 : n = 0
      · subst hn0
        go_enter Tryz.func37, Tryz.ntmps37
        go_wp2_with fail
        refine C1.out.mono ?_
        rintro e w1 ⟨rfl, rfl⟩
        go_wp2
        go_ret
        exact ⟨rfl, HB.out⟩
      · have hni : ((n : Int) == 0) = false := by simp; omega
        have hdn : decide (n = 0) = false := by simp; omega
        rw [hdn]
        clear hdn
        go_enter Tryz.func37, Tryz.ntmps37
        go_wp2_with fail
        refine C1.out.mono ?_
        rintro e w1 ⟨rfl, rfl⟩
        go_wp2
        go_ret
        exact ⟨rfl, HB.out⟩

theorem signed_c (s : Bool) (ao : Option Addr) (n cap : Nat) (w : World) (hm : n ≤ 9223372036854775807) :
    Calls Tryz.prog 78 #[.bool s, .slice ao n cap] w fun e w' => ∃ r o, e = .returned (.agg #[.bool r, .slice ao n cap]) ∧ Hid (r = (s && decide (0 < n))) ∧ w' = w.alloc o := by
  cases s
  · go_enter Tryz.func78, Tryz.ntmps78
    go_wp2
    exact bodyPost_ret (v := .agg #[.bool false, .slice ao n cap]) (by simp [results, Tryz.results78, go_sem]) rfl ⟨false, _, rfl, rfl, rfl⟩
  · by_cases hn0 : 0 < n
    · have hni : decide ((0 : Int) < (n : Int)) = true := by simp; omega
      have hdn : decide (0 < n) = true := by simp; omega
      rw [hdn]
      clear hdn
      go_enter Tryz.func78, Tryz.ntmps78
      go_wp2
      exact bodyPost_ret (v := .agg #[.bool true, .slice ao n cap]) (by simp [results, Tryz.results78, go_sem]) rfl ⟨true, _, rfl, rfl, rfl⟩
    · have hni : decide ((0 : Int) < (n : Int)) = false := by simp; omega
      have hdn : decide (0 < n) = false := by simp; omega
      rw [hdn]
      clear hdn
      go_enter Tryz.func78, Tryz.ntmps78
      go_wp2
      exact bodyPost_ret (v := .agg #[.bool false, .slice ao n cap]) (by simp [results, Tryz.results78, go_sem]) rfl ⟨false, _, rfl, rfl, rfl⟩

/-- The number that sign and limbs tell. -/
def wv (s : Bool) (f : Nat → Int) (n : Nat) : Int := if s then - vf f n else vf f n
theorem Res.turned {C w0 w w' w'' ao n cap f} (h : Res C w w' ao n cap f) (hb : Below w0.heap.size w0 w) (ht : Turned w0.heap.size w.heap.size w' w'') : Res C w0 w'' ao n cap f := by
  have hb2 : Below w0.heap.size w0 w' := hb.trans (h.bel.mono hb.size)
  refine ⟨below_turned hb2 hb2.size ht (Nat.le_refl _), ?_, h.lmc, h.fm⟩
  rcases h.own with ⟨rfl, rfl, rfl⟩ | ⟨g, rfl, h1, h2, h3, h4, h5⟩
  · exact .inl ⟨rfl, rfl, rfl⟩
  · exact .inr ⟨g, rfl, by have := hb.size; omega, h2, h3, h4, h5.of (ht.block g h5.lt (.inr h1))⟩

/-- A list that a call answers: memory of the call's own, in form. -/
structure Asw (C : Nat) (w w' : World) (ao : Option Addr) (n cap : Nat) (f : Nat → Int) : Prop where
  bel : Below w.heap.size w w'
  own : Own .u64 28 w' w.heap.size (.slice ao n cap) n f
  lm : Lm f n
  fm : Fm f n
  le : n ≤ C
theorem Asw.rd {C w w' ao n cap f} (h : Asw C w w' ao n cap f) : Rd .u64 w' ao n f := h.own.slice.2.2.2.1
theorem Asw.ncap {C w w' ao n cap f} (h : Asw C w w' ao n cap f) : n ≤ cap ∧ cap ≤ 9223372036854775807 := ⟨h.own.slice.1, h.own.slice.2.1⟩
theorem Asw.nil' {C w w' ao n cap f} (h : Asw C w w' ao n cap f) : ao = none → n = 0 ∧ cap = 0 := h.own.slice.2.2.1
theorem Asw.mono {C C' w w' ao n cap f} (h : Asw C w w' ao n cap f) (hC : C ≤ C') : Asw C' w w' ao n cap f := ⟨h.bel, h.own, h.lm, h.fm, Nat.le_trans h.le hC⟩
theorem Asw.none {C : Nat} {w w' : World} (f : Nat → Int) (h : Below w.heap.size w w') : Asw C w w' none 0 0 f := ⟨h, own_nil _ _ _ _ _, fun j hj => by omega, .inl rfl, Nat.zero_le _⟩
theorem Asw.turned {C w0 w w' w'' ao n cap f} (h : Asw C w w' ao n cap f) (hb : Below w0.heap.size w0 w) (ht : Turned w0.heap.size w.heap.size w' w'') : Asw C w0 w'' ao n cap f := by
  have hb2 : Below w0.heap.size w0 w' := hb.trans (h.bel.mono hb.size)
  refine ⟨below_turned hb2 hb2.size ht (Nat.le_refl _), (h.own.of ?_).base hb.size, h.lm, h.fm, h.le⟩
  intro a ha
  obtain ⟨h1, h2⟩ := h.own.slice.2.2.2.2 a ha
  exact ht.block _ h2 (.inr h1)
theorem Asw.ahead {C w0 w w' ao n cap f} (h : Asw C w w' ao n cap f) (hb : Below w0.heap.size w0 w) : Asw C w0 w' ao n cap f := h.turned hb (Turned.refl _ _ _)
theorem Asw.later {C w w' w'' ao n cap f} (h : Asw C w w' ao n cap f) (hb : Below w'.heap.size w' w'') : Asw C w w'' ao n cap f :=
  ⟨h.bel.trans (hb.mono h.bel.size), h.own.below hb, h.lm, h.fm, h.le⟩
theorem Res.ans {C w w' ao n cap f} (h : Res C w w' ao n cap f) (hC : C ≤ 9223372036854775807) : Asw C w w' ao n cap f := by
  refine ⟨h.bel, ?_, h.lm, h.fm, h.le⟩
  rcases h.own with ⟨rfl, rfl, rfl⟩ | ⟨g, rfl, h1, h2, h3, h4, h5⟩
  · exact own_nil _ _ _ _ _
  · exact own_of_blk h5 h1 h3 (by unfold maxLen; omega)
/-- An answer of whole: limbs of its own, in form, and a sign that 0 has not. -/
structure WRes (C : Nat) (w w' : World) (s : Bool) (ao : Option Addr) (n cap : Nat) (f : Nat → Int) : Prop where
  res : Asw C w w' ao n cap f
  sgn : s = true → 0 < n
theorem wfB_iff (s : Bool) (f : Nat → Int) (n : Nat) : wfB s f n = true ↔ Fm f n ∧ (s = true → 0 < n) := by
  rw [← fmB_iff]; unfold wfB; cases s <;> simp; omega
theorem WRes.wfB {C w w' s ao n cap f} (h : WRes C w w' s ao n cap f) : wfB s f n = true := (wfB_iff s f n).2 ⟨h.res.fm, h.sgn⟩
theorem wv_false (f : Nat → Int) (n : Nat) : wv false f n = vf f n := rfl
theorem wv_true (f : Nat → Int) (n : Nat) : wv true f n = - vf f n := rfl
theorem WRes.mk' {C w w' ao n cap f} {r s : Bool} (hr : Hid (r = (s && decide (0 < n)))) (h : Asw C w w' ao n cap f) : WRes C w w' r ao n cap f := ⟨h, fun h => by rw [hr.out] at h; simp at h; exact h.2⟩
theorem wv_sign {f n} {r s : Bool} (hr : Hid (r = (s && decide (0 < n)))) : wv r f n = wv s f n := by
  rw [hr.out]
  by_cases hn : 0 < n
  · simp [hn]
  · obtain rfl : n = 0 := by omega
    cases s <;> simp [wv, vf]

set_option maxHeartbeats 1000000 in
theorem wadd_same (s : Bool) (ao bo : Option Addr) (n m ca cb : Nat) (f h : Nat → Int) (w : World) (hn : n ≤ 8796093022208) (hm : m ≤ 8796093022208) (hr : Rd .u64 w ao n f) (hs : Rd .u64 w bo m h) (hf : Lm f n) (hh : Lm h m) (ff : Fm f n) (fh : Fm h m) :
    Calls Tryz.prog 85 #[.agg #[.bool s, .slice ao n ca], .agg #[.bool s, .slice bo m cb]] w fun e w' => ∃ r ao' k cap' f', e = .returned (.agg #[.bool r, .slice ao' k cap']) ∧ WRes (max n m + 1) w w' r ao' k cap' f' ∧ wv r f' k = wv s f n + wv s h m := by
  have HR := hid hr; have HS := hid hs; have HF := hid hf; have HH := hid hh; have FF := hid ff; have FH := hid fh
  clear hr hs hf hh ff fh
  cases s
  all_goals
    go_enter Tryz.func85, Tryz.ntmps85
    go_wp2_with fail
    refine (Add_c ao bo n m ca cb f h _ hn hm (((HR.out.alloc _).alloc _).alloc _) (((HS.out.alloc _).alloc _).alloc _) HF.out HH.out).mono ?_
    rintro e w1 ⟨xa, k, cx, g, er, rfl, hres, hc⟩
    obtain ⟨rfl, hv⟩ : er = 0 ∧ vf g k = vf f n + vf h m := by
      rcases hc with ⟨_, _, h1, h2⟩ | ⟨h1, _⟩
      · exact ⟨h1, h2⟩
      · exact absurd ⟨FF.out, FH.out⟩ h1
    clear hc
    have hk : k ≤ max n m + 1 := hres.le
    obtain ⟨hc1, hf1⟩ := bcell hres.bel
    have hz : w.heap.size + 1 + 1 < w1.heap.size := by have := hres.bel.size; simp at this; omega
    have HRes := hid hres; have HV := hid hv
    clear hres hv
    go_wp2_with fail
    refine (signed_c _ xa k cx _ (by omega)).mono ?_
    rintro e w2 ⟨r, o, rfl, hsg, rfl⟩
    go_wp2
    refine bodyPost_ret (v := .agg #[.bool r, .slice xa k cx]) (by simp [results, Tryz.results85, go_sem, hc1, hz]) rfl ⟨r, xa, k, cx, g, rfl, WRes.mk' hsg ((HRes.out.turned (below_alloc (below_alloc (below_alloc (Below.refl w.heap.size w) _) _) _) ?_).ans (by omega)), ?_⟩
    · exact (((Turned.refl _ _ _).set (by simp; omega) (by simp) _).set (by simp; omega) (by simp) _).alloc _
    · rw [wv_sign hsg]; simp only [wv_false, wv_true, HV.out]; try omega

theorem beq_bool_ne {s t : Bool} (h : (s == t) = false) : s = !t := by cases s <;> cases t <;> simp_all
set_option maxHeartbeats 1000000 in
theorem wadd_diff (s t : Bool) (hst : (s == t) = false) (ao bo : Option Addr) (n m ca cb : Nat) (f h : Nat → Int) (w : World) (hn : n ≤ 8796093022208) (hm : m ≤ 8796093022208) (hr : Rd .u64 w ao n f) (hs : Rd .u64 w bo m h) (hf : Lm f n) (hh : Lm h m) (ff : Fm f n) (fh : Fm h m) :
    Calls Tryz.prog 85 #[.agg #[.bool s, .slice ao n ca], .agg #[.bool t, .slice bo m cb]] w fun e w' => ∃ r ao' k cap' f', e = .returned (.agg #[.bool r, .slice ao' k cap']) ∧ WRes (max n m + 1) w w' r ao' k cap' f' ∧ wv r f' k = wv s f n + wv t h m := by
  have HR := hid hr; have HS := hid hs; have HF := hid hf; have HH := hid hh; have FF := hid ff; have FH := hid fh
  have HST := hid (beq_bool_ne hst)
  clear hr hs hf hh ff fh
  go_enter Tryz.func85, Tryz.ntmps85
  go_wp2_with fail
  refine (Cmp_c ao bo n m ca cb f h _ hn hm (((HR.out.alloc _).alloc _).alloc _) (((HS.out.alloc _).alloc _).alloc _) HF.out HH.out).mono ?_
  rintro e w1 ⟨⟨q, hq⟩, c, er, rfl, hc⟩
  obtain ⟨rfl, ho⟩ : er = 0 ∧ Ord c (vf f n) (vf h m) := by
    rcases hc with ⟨_, _, h1, h2⟩ | ⟨h1, _⟩
    · exact ⟨h1, h2⟩
    · exact absurd ⟨FF.out, FH.out⟩ h1
  clear hc
  have hb := drewN_below hq
  obtain ⟨hc1, hf1⟩ := bcell hb
  have hz : w.heap.size + 1 + 1 < w1.heap.size := by have := hb.size; simp at this; omega
  have x0 : w1.cell? ⟨w.heap.size, 0, none⟩ = some (.bool s) := (hc1 _ _ (by simp; omega)).trans (by simp [go_sem])
  have x1 : w1.cell? ⟨w.heap.size, 1, none⟩ = some (.slice ao n ca) := (hc1 _ _ (by simp; omega)).trans (by simp [go_sem])
  have y0 : w1.cell? ⟨w.heap.size + 1, 0, none⟩ = some (.bool t) := (hc1 _ _ (by simp)).trans (by simp [go_sem])
  have y1 : w1.cell? ⟨w.heap.size + 1, 1, none⟩ = some (.slice bo m cb) := (hc1 _ _ (by simp)).trans (by simp [go_sem])
  have z0 : w1.cell? ⟨w.heap.size + 1 + 1, 0, none⟩ = some (.bool false) := (hc1 _ _ (by simp)).trans (by simp [go_sem])
  have z1 : w1.cell? ⟨w.heap.size + 1 + 1, 1, none⟩ = some (.slice none 0 0) := (hc1 _ _ (by simp)).trans (by simp [go_sem])
  have HO := hid ho
  have hbw : Below w.heap.size w w1 := (below_alloc (below_alloc (below_alloc (Below.refl w.heap.size w) _) _) _).trans (hb.mono (by simp; omega))
  have HBw := hid hbw
  clear ho hq hb hc1 hbw
  by_cases hc0 : c < 0
  · have hlt : vf f n < vf h m := by have := HO.out; unfold Ord at this; omega
    have HLT := hid hlt
    clear hlt
    go_wp2_with fail
    have hb2 := below_turned HBw.out HBw.out.size (((((Turned.refl w.heap.size (w.heap.size + 1 + 1 + 1) w1).set (x := ⟨w.heap.size, 0, none⟩) (by simp) (by simp; omega) (.bool t)).set (x := ⟨w.heap.size, 1, none⟩) (by simp) (by simp; omega) (.slice bo m cb)).set (x := ⟨w.heap.size + 1, 0, none⟩) (by simp) (by simp) (.bool s)).set (x := ⟨w.heap.size + 1, 1, none⟩) (by simp) (by simp) (.slice ao n ca)) (Nat.le_refl _)
    refine (Sub_c bo ao m n cb ca h f _ hm hn (HS.out.below hb2 (Nat.le_refl _)) (HR.out.below hb2 (Nat.le_refl _)) HH.out HF.out).mono ?_
    rintro e w2 ⟨xa, k, cx, g, er, rfl, hres, hc⟩
    obtain ⟨rfl, hv⟩ : er = 0 ∧ vf g k = vf h m - vf f n := by
      rcases hc with ⟨_, _, _, h1, h2⟩ | ⟨_, _, h1, _⟩ | ⟨h1, _⟩
      · exact ⟨h1, h2⟩
      · have := HLT.out; omega
      · exact absurd ⟨FH.out, FF.out⟩ h1
    clear hc
    obtain ⟨hc2, hf2⟩ := bcell hres.bel
    have hz2 : w.heap.size + 1 + 1 < w2.heap.size := by have := hres.bel.size; (try simp at this); omega
    have u0 : w2.cell? ⟨w.heap.size, 0, none⟩ = some (.bool t) := (hc2 _ _ (by simp; omega)).trans (by simp [go_sem, x0])
    have z0 : w2.cell? ⟨w.heap.size + 1 + 1, 0, none⟩ = some (.bool false) := (hc2 _ _ (by simp; omega)).trans (by simp [go_sem, z0])
    have z1 : w2.cell? ⟨w.heap.size + 1 + 1, 1, none⟩ = some (.slice none 0 0) := (hc2 _ _ (by simp; omega)).trans (by simp [go_sem, z1])
    have hk : k ≤ m := hres.le
    have HRes := hid hres; have HV := hid hv; have HB2 := hid hb2
    clear hres hv hb2 hc2
    go_wp2_with fail
    refine (signed_c _ xa k cx _ (by omega)).mono ?_
    rintro e w3 ⟨r, o, rfl, hsg, rfl⟩
    go_wp2
    refine bodyPost_ret (v := .agg #[.bool r, .slice xa k cx]) (by simp [results, Tryz.results85, go_sem, z0, z1, hz2]) rfl ⟨r, xa, k, cx, g, rfl, WRes.mk' hsg (((HRes.out.turned HB2.out ?_).mono (by omega)).ans (by omega)), ?_⟩
    · exact (((Turned.refl _ _ _).set (by first | omega | (simp; done) | (simp; omega)) (by first | omega | (simp; done) | (simp; omega)) _).set (by first | omega | (simp; done) | (simp; omega)) (by first | omega | (simp; done) | (simp; omega)) _).alloc _
    · rw [wv_sign hsg, HST.out]; have := HV.out; cases t <;> simp only [Bool.not_false, Bool.not_true, wv_false, wv_true] <;> omega
  · have hlt : vf h m ≤ vf f n := by have := HO.out; unfold Ord at this; omega
    have HLT := hid hlt
    clear hlt
    go_wp2_with fail
    have hb2 := HBw.out
    refine (Sub_c ao bo n m ca cb f h _ hn hm (HR.out.below hb2 (Nat.le_refl _)) (HS.out.below hb2 (Nat.le_refl _)) HF.out HH.out).mono ?_
    rintro e w2 ⟨xa, k, cx, g, er, rfl, hres, hc⟩
    obtain ⟨rfl, hv⟩ : er = 0 ∧ vf g k = vf f n - vf h m := by
      rcases hc with ⟨_, _, _, h1, h2⟩ | ⟨_, _, h1, _⟩ | ⟨h1, _⟩
      · exact ⟨h1, h2⟩
      · have := HLT.out; omega
      · exact absurd ⟨FF.out, FH.out⟩ h1
    clear hc
    obtain ⟨hc2, hf2⟩ := bcell hres.bel
    have hz2 : w.heap.size + 1 + 1 < w2.heap.size := by have := hres.bel.size; (try simp at this); omega
    have u0 : w2.cell? ⟨w.heap.size, 0, none⟩ = some (.bool s) := (hc2 _ _ (by omega)).trans x0
    have z0 : w2.cell? ⟨w.heap.size + 1 + 1, 0, none⟩ = some (.bool false) := (hc2 _ _ (by omega)).trans z0
    have z1 : w2.cell? ⟨w.heap.size + 1 + 1, 1, none⟩ = some (.slice none 0 0) := (hc2 _ _ (by omega)).trans z1
    have hk : k ≤ n := hres.le
    have HRes := hid hres; have HV := hid hv; have HB2 := hid hb2
    clear hres hv hb2 hc2
    go_wp2_with fail
    refine (signed_c _ xa k cx _ (by omega)).mono ?_
    rintro e w3 ⟨r, o, rfl, hsg, rfl⟩
    go_wp2
    refine bodyPost_ret (v := .agg #[.bool r, .slice xa k cx]) (by simp [results, Tryz.results85, go_sem, z0, z1, hz2]) rfl ⟨r, xa, k, cx, g, rfl, WRes.mk' hsg (((HRes.out.turned HB2.out ?_).mono (by omega)).ans (by omega)), ?_⟩
    · exact (((Turned.refl _ _ _).set (by first | omega | (simp; done) | (simp; omega)) (by first | omega | (simp; done) | (simp; omega)) _).set (by first | omega | (simp; done) | (simp; omega)) (by first | omega | (simp; done) | (simp; omega)) _).alloc _
    · rw [wv_sign hsg, HST.out]; have := HV.out; cases t <;> simp only [Bool.not_false, Bool.not_true, wv_false, wv_true] <;> omega

theorem wadd_c (s t : Bool) (ao bo : Option Addr) (n m ca cb : Nat) (f h : Nat → Int) (w : World) (hn : n ≤ 8796093022208) (hm : m ≤ 8796093022208) (hr : Rd .u64 w ao n f) (hs : Rd .u64 w bo m h) (hf : Lm f n) (hh : Lm h m) (ff : Fm f n) (fh : Fm h m) :
    Calls Tryz.prog 85 #[.agg #[.bool s, .slice ao n ca], .agg #[.bool t, .slice bo m cb]] w fun e w' => ∃ r ao' k cap' f', e = .returned (.agg #[.bool r, .slice ao' k cap']) ∧ WRes (max n m + 1) w w' r ao' k cap' f' ∧ wv r f' k = wv s f n + wv t h m := by
  cases hst : (s == t)
  · exact wadd_diff s t hst ao bo n m ca cb f h w hn hm hr hs hf hh ff fh
  · obtain rfl : s = t := by simpa using hst
    exact wadd_same s ao bo n m ca cb f h w hn hm hr hs hf hh ff fh
end Go.Proofs.YtclopblgdiahiaaGreatDoor
namespace Go.Proofs.YtclopblgdiahiaaGreatDoor
open Go.RowKit

/-- What a call of two numbers answers. -/
def WAns (P : Prop) (v : Int) (r : Bool) (k : Nat) (f : Nat → Int) (er : Int) : Prop := P ∧ er = 0 ∧ wv r f k = v ∨ ¬ P ∧ er = 3 ∧ k = 0
def W2 (s : Bool) (f : Nat → Int) (n : Nat) (t : Bool) (h : Nat → Int) (m : Nat) : Prop := wfB s f n = true ∧ wfB t h m = true
theorem fm_of_wfB {s : Bool} {f : Nat → Int} {n : Nat} (h : wfB s f n = true) : Fm f n := ((wfB_iff s f n).1 h).1
theorem sgn_of_wfB {s : Bool} {f : Nat → Int} {n : Nat} (h : wfB s f n = true) : s = true → 0 < n := ((wfB_iff s f n).1 h).2
/-- Three boxes laid ahead of a call, as they read behind it. -/
theorem boxes3 {w w1 : World} {a0 a1 b0 b1 c0 c1 : Value} {t : TypeId} (hb : Below (((w.alloc (.cells #[a0, a1] t)).alloc (.cells #[b0, b1] t)).alloc (.cells #[c0, c1] t)).heap.size (((w.alloc (.cells #[a0, a1] t)).alloc (.cells #[b0, b1] t)).alloc (.cells #[c0, c1] t)) w1) :
    (w.heap.size + 1 + 1 < w1.heap.size ∧ w1.cell? ⟨w.heap.size, 0, none⟩ = some a0 ∧ w1.cell? ⟨w.heap.size, 1, none⟩ = some a1 ∧ w1.cell? ⟨w.heap.size + 1, 0, none⟩ = some b0 ∧ w1.cell? ⟨w.heap.size + 1, 1, none⟩ = some b1 ∧ w1.cell? ⟨w.heap.size + 1 + 1, 0, none⟩ = some c0 ∧ w1.cell? ⟨w.heap.size + 1 + 1, 1, none⟩ = some c1) ∧ (∀ o, w1.frozen? ⟨w.heap.size + 1 + 1, o, none⟩ = false) ∧ Below w.heap.size w w1 := by
  obtain ⟨h1, h2⟩ := bcell hb
  have hz := hb.size
  simp at hz
  refine ⟨⟨by omega, (h1 _ _ (by simp; omega)).trans (by simp [go_sem]), (h1 _ _ (by simp; omega)).trans (by simp [go_sem]), (h1 _ _ (by simp)).trans (by simp [go_sem]), (h1 _ _ (by simp)).trans (by simp [go_sem]), (h1 _ _ (by simp)).trans (by simp [go_sem]), (h1 _ _ (by simp)).trans (by simp [go_sem])⟩, fun o => (h2 _ _ (by simp)).trans (by
    have e := heap_alloc_new ((w.alloc (.cells #[a0, a1] t)).alloc (.cells #[b0, b1] t)) (.cells #[c0, c1] t)
    rw [size_alloc1, size_alloc1] at e
    simp only [World.frozen?, e]; simp), ?_⟩
  exact (below_alloc (below_alloc (below_alloc (Below.refl w.heap.size w) _) _) _).trans (hb.mono (by simp; omega))
/-- Cells of three boxes behind a further call. -/
theorem keep3 {w w1 w2 : World} {a0 a1 b0 b1 c0 c1 : Value} (hb : Below w1.heap.size w1 w2) (h : w.heap.size + 1 + 1 < w1.heap.size ∧ w1.cell? ⟨w.heap.size, 0, none⟩ = some a0 ∧ w1.cell? ⟨w.heap.size, 1, none⟩ = some a1 ∧ w1.cell? ⟨w.heap.size + 1, 0, none⟩ = some b0 ∧ w1.cell? ⟨w.heap.size + 1, 1, none⟩ = some b1 ∧ w1.cell? ⟨w.heap.size + 1 + 1, 0, none⟩ = some c0 ∧ w1.cell? ⟨w.heap.size + 1 + 1, 1, none⟩ = some c1) (hf : ∀ o, w1.frozen? ⟨w.heap.size + 1 + 1, o, none⟩ = false) (hw : Below w.heap.size w w1) :
    (w.heap.size + 1 + 1 < w2.heap.size ∧ w2.cell? ⟨w.heap.size, 0, none⟩ = some a0 ∧ w2.cell? ⟨w.heap.size, 1, none⟩ = some a1 ∧ w2.cell? ⟨w.heap.size + 1, 0, none⟩ = some b0 ∧ w2.cell? ⟨w.heap.size + 1, 1, none⟩ = some b1 ∧ w2.cell? ⟨w.heap.size + 1 + 1, 0, none⟩ = some c0 ∧ w2.cell? ⟨w.heap.size + 1 + 1, 1, none⟩ = some c1) ∧ (∀ o, w2.frozen? ⟨w.heap.size + 1 + 1, o, none⟩ = false) ∧ Below w.heap.size w w2 := by
  obtain ⟨h1, h2⟩ := bcell hb
  have hz := hb.size
  obtain ⟨z, a, b, c, d, e, f⟩ := h
  exact ⟨⟨by omega, (h1 _ _ (by omega)).trans a, (h1 _ _ (by omega)).trans b, (h1 _ _ (by omega)).trans c, (h1 _ _ (by omega)).trans d, (h1 _ _ (by omega)).trans e, (h1 _ _ (by omega)).trans f⟩, fun o => (h2 _ _ (by omega)).trans (hf o), hw.trans (hb.mono hw.size)⟩

theorem wv_mul (s t : Bool) (f h g : Nat → Int) (n m k : Nat) (hv : vf g k = vf f n * vf h m) : wv (!(s == t)) g k = wv s f n * wv t h m := by
  cases s <;> cases t <;> simp [wv, hv, Int.neg_mul, Int.mul_neg]

set_option maxHeartbeats 1000000 in
theorem wAdd_c (s t : Bool) (ao bo : Option Addr) (n m ca cb : Nat) (f h : Nat → Int) (w : World) (hn : n ≤ 8796093022208) (hm : m ≤ 8796093022208) (hr : Rd .u64 w ao n f) (hs : Rd .u64 w bo m h) (hf : Lm f n) (hh : Lm h m) :
    Calls Tryz.prog 39 #[.agg #[.bool s, .slice ao n ca], .agg #[.bool t, .slice bo m cb]] w fun e w' => ∃ r ao' k cap' f' er, e = .returned (.tuple #[.agg #[.bool r, .slice ao' k cap'], .int .i64 er]) ∧ WRes (max n m + 1) w w' r ao' k cap' f' ∧ WAns (W2 s f n t h m) (wv s f n + wv t h m) r k f' er := by
  have HR := hid hr; have HS := hid hs; have HF := hid hf; have HH := hid hh
  clear hr hs hf hh
  cases hfa : wfB s f n
  · have c1 := fun W hr' => wForm_c s ao n ca f W (by omega) hr'
    rw [hfa] at c1
    have C1 := hid c1; have HN := hid hfa
    clear c1 hfa
    go_enter Tryz.func39, Tryz.ntmps39
    go_wp2_with fail
    refine (C1.out _ (((HR.out.alloc _).alloc _).alloc _)).mono ?_
    rintro e w1 ⟨rfl, hb⟩
    obtain ⟨⟨hz, x0, x1, y0, y1, z0, z1⟩, zf, hw⟩ := boxes3 hb
    have HB := hid hb; have HW := hid hw
    clear hb hw
    go_wp2
    refine bodyPost_ret (v := .tuple #[.agg #[.bool false, .slice none 0 0], .int .i64 3]) (by simp [results, Tryz.results39, go_sem, z0, z1]) rfl ⟨false, none, 0, 0, f, 3, rfl, ⟨Asw.none f ?_, fun h => by cases h⟩, .inr ⟨fun x => ?_, rfl, rfl⟩⟩
    · exact below_turned HW.out HW.out.size (((Turned.refl _ (w.heap.size + 1 + 1 + 1) _).set (by first | omega | (simp; done) | (simp; omega)) (by first | omega | (simp; done) | (simp; omega)) _).set (by first | omega | (simp; done) | (simp; omega)) (by first | omega | (simp; done) | (simp; omega)) _) (Nat.le_refl _)
    · have := x.1; rw [HN.out] at this; cases this
  · have c1 := fun W hr' => wForm_c s ao n ca f W (by omega) hr'
    rw [hfa] at c1
    have C1 := hid c1; have HA := hid hfa
    clear c1 hfa
    cases hfb : wfB t h m
    · have c2 := fun W hr' => wForm_c t bo m cb h W (by omega) hr'
      rw [hfb] at c2
      have C2 := hid c2; have HN := hid hfb
      clear c2 hfb
      go_enter Tryz.func39, Tryz.ntmps39
      go_wp2_with fail
      refine (C1.out _ (((HR.out.alloc _).alloc _).alloc _)).mono ?_
      rintro e w1 ⟨rfl, hb⟩
      obtain ⟨⟨hz, x0, x1, y0, y1, z0, z1⟩, zf, hw⟩ := boxes3 hb
      have HW := hid hw
      clear hb hw
      go_wp2_with fail
      refine (C2.out _ (HS.out.below HW.out (Nat.le_refl _))).mono ?_
      rintro e w2 ⟨rfl, hb⟩
      obtain ⟨⟨hz, x0, x1, y0, y1, z0, z1⟩, zf, hw⟩ := keep3 hb ⟨hz, x0, x1, y0, y1, z0, z1⟩ zf HW.out
      have HW2 := hid hw
      clear hb hw
      go_wp2
      refine bodyPost_ret (v := .tuple #[.agg #[.bool false, .slice none 0 0], .int .i64 3]) (by simp [results, Tryz.results39, go_sem, z0, z1]) rfl ⟨false, none, 0, 0, f, 3, rfl, ⟨Asw.none f ?_, fun h => by cases h⟩, .inr ⟨fun x => ?_, rfl, rfl⟩⟩
      · exact below_turned HW2.out HW2.out.size (((Turned.refl _ (w.heap.size + 1 + 1 + 1) _).set (by first | omega | (simp; done) | (simp; omega)) (by first | omega | (simp; done) | (simp; omega)) _).set (by first | omega | (simp; done) | (simp; omega)) (by first | omega | (simp; done) | (simp; omega)) _) (Nat.le_refl _)
      · have := x.2; rw [HN.out] at this; cases this
    · have c2 := fun W hr' => wForm_c t bo m cb h W (by omega) hr'
      rw [hfb] at c2
      have C2 := hid c2; have HB := hid hfb
      clear c2 hfb
      go_enter Tryz.func39, Tryz.ntmps39
      go_wp2_with fail
      refine (C1.out _ (((HR.out.alloc _).alloc _).alloc _)).mono ?_
      rintro e w1 ⟨rfl, hb⟩
      obtain ⟨⟨hz, x0, x1, y0, y1, z0, z1⟩, zf, hw⟩ := boxes3 hb
      have HW := hid hw
      clear hb hw
      go_wp2_with fail
      refine (C2.out _ (HS.out.below HW.out (Nat.le_refl _))).mono ?_
      rintro e w2 ⟨rfl, hb⟩
      obtain ⟨⟨hz, x0, x1, y0, y1, z0, z1⟩, zf, hw⟩ := keep3 hb ⟨hz, x0, x1, y0, y1, z0, z1⟩ zf HW.out
      have HW2 := hid hw
      clear hb hw
      go_wp2_with fail
      refine (wadd_c s t ao bo n m ca cb f h _ hn hm (HR.out.below HW2.out (Nat.le_refl _)) (HS.out.below HW2.out (Nat.le_refl _)) HF.out HH.out (fm_of_wfB HA.out) (fm_of_wfB HB.out)).mono ?_
      rintro e w3 ⟨r, xa, k, cx, g, rfl, hres, hv⟩
      obtain ⟨⟨hz, x0, x1, y0, y1, z0, z1⟩, zf, hw⟩ := keep3 hres.res.bel ⟨hz, x0, x1, y0, y1, z0, z1⟩ zf HW2.out
      have HRes := hid hres; have HV := hid hv
      clear hres hv hw
      go_wp2
      refine bodyPost_ret (v := .tuple #[.agg #[.bool r, .slice xa k cx], .int .i64 0]) (by simp [results, Tryz.results39, go_sem, z0, z1]) rfl ⟨r, xa, k, cx, g, 0, rfl, ?_, .inl ⟨⟨HA.out, HB.out⟩, rfl, ?_⟩⟩
      · exact ⟨HRes.out.res.turned HW2.out (((Turned.refl _ _ _).set (by first | omega | (simp; done) | (simp; omega)) (by first | omega | (simp; done) | (simp; omega)) _).set (by first | omega | (simp; done) | (simp; omega)) (by first | omega | (simp; done) | (simp; omega)) _), HRes.out.sgn⟩
      · exact HV.out

set_option maxHeartbeats 1000000 in
theorem wMul_c (s t : Bool) (ao bo : Option Addr) (n m ca cb : Nat) (f h : Nat → Int) (w : World) (hn : n ≤ 1099511627776) (hm : m ≤ 1099511627776) (hca : n ≤ ca) (hcb : m ≤ cb) (hcam : ca ≤ 9223372036854775807) (hcbm : cb ≤ 9223372036854775807) (hr : Rd .u64 w ao n f) (hs : Rd .u64 w bo m h) (hf : Lm f n) (hh : Lm h m) :
    Calls Tryz.prog 41 #[.agg #[.bool s, .slice ao n ca], .agg #[.bool t, .slice bo m cb]] w fun e w' => ∃ r ao' k cap' f' er, e = .returned (.tuple #[.agg #[.bool r, .slice ao' k cap'], .int .i64 er]) ∧ WRes (n + m) w w' r ao' k cap' f' ∧ WAns (W2 s f n t h m) (wv s f n * wv t h m) r k f' er := by
  have HR := hid hr; have HS := hid hs; have HF := hid hf; have HH := hid hh
  clear hr hs hf hh
  cases hfa : wfB s f n
  · have c1 := fun W hr' => wForm_c s ao n ca f W (by omega) hr'
    rw [hfa] at c1
    have C1 := hid c1; have HN := hid hfa
    clear c1 hfa
    go_enter Tryz.func41, Tryz.ntmps41
    go_wp2_with fail
    refine (C1.out _ (((HR.out.alloc _).alloc _).alloc _)).mono ?_
    rintro e w1 ⟨rfl, hb⟩
    obtain ⟨⟨hz, x0, x1, y0, y1, z0, z1⟩, zf, hw⟩ := boxes3 hb
    have HB := hid hb; have HW := hid hw
    clear hb hw
    go_wp2
    refine bodyPost_ret (v := .tuple #[.agg #[.bool false, .slice none 0 0], .int .i64 3]) (by simp [results, Tryz.results41, go_sem, z0, z1]) rfl ⟨false, none, 0, 0, f, 3, rfl, ⟨Asw.none f ?_, fun h => by cases h⟩, .inr ⟨fun x => ?_, rfl, rfl⟩⟩
    · exact below_turned HW.out HW.out.size (((Turned.refl _ (w.heap.size + 1 + 1 + 1) _).set (by first | omega | (simp; done) | (simp; omega)) (by first | omega | (simp; done) | (simp; omega)) _).set (by first | omega | (simp; done) | (simp; omega)) (by first | omega | (simp; done) | (simp; omega)) _) (Nat.le_refl _)
    · have := x.1; rw [HN.out] at this; cases this
  · have c1 := fun W hr' => wForm_c s ao n ca f W (by omega) hr'
    rw [hfa] at c1
    have C1 := hid c1; have HA := hid hfa
    clear c1 hfa
    cases hfb : wfB t h m
    · have c2 := fun W hr' => wForm_c t bo m cb h W (by omega) hr'
      rw [hfb] at c2
      have C2 := hid c2; have HN := hid hfb
      clear c2 hfb
      go_enter Tryz.func41, Tryz.ntmps41
      go_wp2_with fail
      refine (C1.out _ (((HR.out.alloc _).alloc _).alloc _)).mono ?_
      rintro e w1 ⟨rfl, hb⟩
      obtain ⟨⟨hz, x0, x1, y0, y1, z0, z1⟩, zf, hw⟩ := boxes3 hb
      have HW := hid hw
      clear hb hw
      go_wp2_with fail
      refine (C2.out _ (HS.out.below HW.out (Nat.le_refl _))).mono ?_
      rintro e w2 ⟨rfl, hb⟩
      obtain ⟨⟨hz, x0, x1, y0, y1, z0, z1⟩, zf, hw⟩ := keep3 hb ⟨hz, x0, x1, y0, y1, z0, z1⟩ zf HW.out
      have HW2 := hid hw
      clear hb hw
      go_wp2
      refine bodyPost_ret (v := .tuple #[.agg #[.bool false, .slice none 0 0], .int .i64 3]) (by simp [results, Tryz.results41, go_sem, z0, z1]) rfl ⟨false, none, 0, 0, f, 3, rfl, ⟨Asw.none f ?_, fun h => by cases h⟩, .inr ⟨fun x => ?_, rfl, rfl⟩⟩
      · exact below_turned HW2.out HW2.out.size (((Turned.refl _ (w.heap.size + 1 + 1 + 1) _).set (by first | omega | (simp; done) | (simp; omega)) (by first | omega | (simp; done) | (simp; omega)) _).set (by first | omega | (simp; done) | (simp; omega)) (by first | omega | (simp; done) | (simp; omega)) _) (Nat.le_refl _)
      · have := x.2; rw [HN.out] at this; cases this
    · have c2 := fun W hr' => wForm_c t bo m cb h W (by omega) hr'
      rw [hfb] at c2
      have C2 := hid c2; have HB := hid hfb
      clear c2 hfb
      go_enter Tryz.func41, Tryz.ntmps41
      go_wp2_with fail
      refine (C1.out _ (((HR.out.alloc _).alloc _).alloc _)).mono ?_
      rintro e w1 ⟨rfl, hb⟩
      obtain ⟨⟨hz, x0, x1, y0, y1, z0, z1⟩, zf, hw⟩ := boxes3 hb
      have HW := hid hw
      clear hb hw
      go_wp2_with fail
      refine (C2.out _ (HS.out.below HW.out (Nat.le_refl _))).mono ?_
      rintro e w2 ⟨rfl, hb⟩
      obtain ⟨⟨hz, x0, x1, y0, y1, z0, z1⟩, zf, hw⟩ := keep3 hb ⟨hz, x0, x1, y0, y1, z0, z1⟩ zf HW.out
      have HW2 := hid hw
      clear hb hw
      go_wp2_with fail
      refine (Mul_c ao bo n m ca cb f h _ hn hm hca hcb hcam hcbm (HR.out.below HW2.out (Nat.le_refl _)) (HS.out.below HW2.out (Nat.le_refl _)) HF.out HH.out).mono ?_
      rintro e w3 ⟨xa, k, cx, g, er, rfl, hres, hc⟩
      obtain ⟨rfl, hv⟩ : er = 0 ∧ vf g k = vf f n * vf h m := by
        rcases hc with ⟨_, _, h1, h2⟩ | ⟨h1, _⟩
        · exact ⟨h1, h2⟩
        · exact absurd ⟨fm_of_wfB HA.out, fm_of_wfB HB.out⟩ h1
      clear hc
      obtain ⟨⟨hz, x0, x1, y0, y1, z0, z1⟩, zf, hw⟩ := keep3 hres.bel ⟨hz, x0, x1, y0, y1, z0, z1⟩ zf HW2.out
      have hk : k ≤ n + m := hres.le
      have HRes := hid hres; have HV := hid hv
      clear hres hv hw
      go_wp2_with fail
      refine (signed_c _ xa k cx _ (by omega)).mono ?_
      rintro e w4 ⟨r, o, rfl, hsg, rfl⟩
      go_wp2
      refine bodyPost_ret (v := .tuple #[.agg #[.bool r, .slice xa k cx], .int .i64 0]) (by simp [results, Tryz.results41, go_sem, z0, z1, hz]) rfl ⟨r, xa, k, cx, g, 0, rfl, ?_, .inl ⟨⟨HA.out, HB.out⟩, rfl, ?_⟩⟩
      · exact WRes.mk' hsg ((HRes.out.turned HW2.out ((((Turned.refl _ _ _).set (by first | omega | (simp; done) | (simp; omega)) (by first | omega | (simp; done) | (simp; omega)) _).set (by first | omega | (simp; done) | (simp; omega)) (by first | omega | (simp; done) | (simp; omega)) _).alloc _)).ans (by omega))
      · rw [wv_sign hsg]; exact wv_mul s t f h g n m k HV.out

set_option maxHeartbeats 1000000 in
theorem wSub_c (s t : Bool) (ao bo : Option Addr) (n m ca cb : Nat) (f h : Nat → Int) (w : World) (hn : n ≤ 8796093022208) (hm : m ≤ 8796093022208) (hr : Rd .u64 w ao n f) (hs : Rd .u64 w bo m h) (hf : Lm f n) (hh : Lm h m) :
    Calls Tryz.prog 40 #[.agg #[.bool s, .slice ao n ca], .agg #[.bool t, .slice bo m cb]] w fun e w' => ∃ r ao' k cap' f' er, e = .returned (.tuple #[.agg #[.bool r, .slice ao' k cap'], .int .i64 er]) ∧ WRes (max n m + 1) w w' r ao' k cap' f' ∧ WAns (W2 s f n t h m) (wv s f n - wv t h m) r k f' er := by
  have HR := hid hr; have HS := hid hs; have HF := hid hf; have HH := hid hh
  clear hr hs hf hh
  cases hfa : wfB s f n
  · have c1 := fun W hr' => wForm_c s ao n ca f W (by omega) hr'
    rw [hfa] at c1
    have C1 := hid c1; have HN := hid hfa
    clear c1 hfa
    go_enter Tryz.func40, Tryz.ntmps40
    go_wp2_with fail
    refine (C1.out _ (((HR.out.alloc _).alloc _).alloc _)).mono ?_
    rintro e w1 ⟨rfl, hb⟩
    obtain ⟨⟨hz, x0, x1, y0, y1, z0, z1⟩, zf, hw⟩ := boxes3 hb
    have HB := hid hb; have HW := hid hw
    clear hb hw
    go_wp2
    refine bodyPost_ret (v := .tuple #[.agg #[.bool false, .slice none 0 0], .int .i64 3]) (by simp [results, Tryz.results40, go_sem, z0, z1]) rfl ⟨false, none, 0, 0, f, 3, rfl, ⟨Asw.none f ?_, fun h => by cases h⟩, .inr ⟨fun x => ?_, rfl, rfl⟩⟩
    · exact below_turned HW.out HW.out.size (((Turned.refl _ (w.heap.size + 1 + 1 + 1) _).set (by first | omega | (simp; done) | (simp; omega)) (by first | omega | (simp; done) | (simp; omega)) _).set (by first | omega | (simp; done) | (simp; omega)) (by first | omega | (simp; done) | (simp; omega)) _) (Nat.le_refl _)
    · have := x.1; rw [HN.out] at this; cases this
  · have c1 := fun W hr' => wForm_c s ao n ca f W (by omega) hr'
    rw [hfa] at c1
    have C1 := hid c1; have HA := hid hfa
    clear c1 hfa
    cases hfb : wfB t h m
    · have c2 := fun W hr' => wForm_c t bo m cb h W (by omega) hr'
      rw [hfb] at c2
      have C2 := hid c2; have HN := hid hfb
      clear c2 hfb
      go_enter Tryz.func40, Tryz.ntmps40
      go_wp2_with fail
      refine (C1.out _ (((HR.out.alloc _).alloc _).alloc _)).mono ?_
      rintro e w1 ⟨rfl, hb⟩
      obtain ⟨⟨hz, x0, x1, y0, y1, z0, z1⟩, zf, hw⟩ := boxes3 hb
      have HW := hid hw
      clear hb hw
      go_wp2_with fail
      refine (C2.out _ (HS.out.below HW.out (Nat.le_refl _))).mono ?_
      rintro e w2 ⟨rfl, hb⟩
      obtain ⟨⟨hz, x0, x1, y0, y1, z0, z1⟩, zf, hw⟩ := keep3 hb ⟨hz, x0, x1, y0, y1, z0, z1⟩ zf HW.out
      have HW2 := hid hw
      clear hb hw
      go_wp2
      refine bodyPost_ret (v := .tuple #[.agg #[.bool false, .slice none 0 0], .int .i64 3]) (by simp [results, Tryz.results40, go_sem, z0, z1]) rfl ⟨false, none, 0, 0, f, 3, rfl, ⟨Asw.none f ?_, fun h => by cases h⟩, .inr ⟨fun x => ?_, rfl, rfl⟩⟩
      · exact below_turned HW2.out HW2.out.size (((Turned.refl _ (w.heap.size + 1 + 1 + 1) _).set (by first | omega | (simp; done) | (simp; omega)) (by first | omega | (simp; done) | (simp; omega)) _).set (by first | omega | (simp; done) | (simp; omega)) (by first | omega | (simp; done) | (simp; omega)) _) (Nat.le_refl _)
      · have := x.2; rw [HN.out] at this; cases this
    · have c2 := fun W hr' => wForm_c t bo m cb h W (by omega) hr'
      rw [hfb] at c2
      have C2 := hid c2; have HB := hid hfb
      clear c2 hfb
      go_enter Tryz.func40, Tryz.ntmps40
      go_wp2_with fail
      refine (C1.out _ (((HR.out.alloc _).alloc _).alloc _)).mono ?_
      rintro e w1 ⟨rfl, hb⟩
      obtain ⟨⟨hz, x0, x1, y0, y1, z0, z1⟩, zf, hw⟩ := boxes3 hb
      have HW := hid hw
      clear hb hw
      go_wp2_with fail
      refine (C2.out _ (HS.out.below HW.out (Nat.le_refl _))).mono ?_
      rintro e w2 ⟨rfl, hb⟩
      obtain ⟨⟨hz, x0, x1, y0, y1, z0, z1⟩, zf, hw⟩ := keep3 hb ⟨hz, x0, x1, y0, y1, z0, z1⟩ zf HW.out
      have HW2 := hid hw
      clear hb hw
      have CA : Hid (∀ (W : World) (r1 : Bool), Below w2.heap.size w2 W → Calls Tryz.prog 85 #[.agg #[.bool s, .slice ao n ca], .agg #[.bool r1, .slice bo m cb]] W fun e w4 => ∃ r xa k cx g, e = .returned (.agg #[.bool r, .slice xa k cx]) ∧ Hid (WRes (max n m + 1) W w4 r xa k cx g ∧ wv r g k = wv s f n + wv r1 h m) ∧ w.heap.size + 1 + 1 < w4.heap.size ∧ w4.cell? ⟨w.heap.size + 1 + 1, 0, none⟩ = some (.bool false) ∧ w4.cell? ⟨w.heap.size + 1 + 1, 1, none⟩ = some (.slice none 0 0) ∧ ∀ o, w4.frozen? ⟨w.heap.size + 1 + 1, o, none⟩ = false) := by
        intro W r1 hW
        have hWw : Below w.heap.size w W := HW2.out.trans (hW.mono HW2.out.size)
        refine (wadd_c s r1 ao bo n m ca cb f h W hn hm (HR.out.below hWw (Nat.le_refl _)) (HS.out.below hWw (Nat.le_refl _)) HF.out HH.out (fm_of_wfB HA.out) (fm_of_wfB HB.out)).mono ?_
        rintro e w4 ⟨r, xa, k, cx, g, rfl, hres, hv⟩
        obtain ⟨⟨hz4, _, _, _, _, u0, u1⟩, uf, hw4⟩ := keep3 (hW.trans (hres.res.bel.mono hW.size)) ⟨hz, x0, x1, y0, y1, z0, z1⟩ zf HW2.out
        exact ⟨r, xa, k, cx, g, rfl, ⟨hres, hv⟩, hz4, u0, u1, uf⟩
      have hz0 : w.heap.size < w2.heap.size := by omega
      have hz1 : w.heap.size + 1 < w2.heap.size := by omega
      go_wp2
      go_region_with (first | (go_at_call 78; refine (signed_c _ bo m cb _ (by omega)).mono ?_; rintro e w3 ⟨r1, o, rfl, hsg, rfl⟩) | (go_at_call 85; refine (CA.out _ _ (by repeat (first | exact Below.refl _ _ | refine Below.drew ?_ | refine below_alloc ?_ _))).mono ?_; rintro e w4 ⟨r, xa, k, cx, g, rfl, HRV, hz4, u0, u1, uf⟩))
      all_goals
        go_wp2
        refine bodyPost_ret (v := .tuple #[.agg #[.bool r, .slice xa k cx], .int .i64 0]) (by simp [results, Tryz.results40, go_sem, u0, u1]) rfl ⟨r, xa, k, cx, g, 0, rfl, ?_, .inl ⟨⟨HA.out, HB.out⟩, rfl, ?_⟩⟩
        · exact ⟨HRV.out.1.res.turned (by repeat (first | exact HW2.out | refine Below.drew ?_ | refine below_alloc ?_ _)) (((Turned.refl _ _ _).set (by first | omega | (simp; done) | (simp; omega)) (by first | omega | (simp; done) | (simp; omega)) _).set (by first | omega | (simp; done) | (simp; omega)) (by first | omega | (simp; done) | (simp; omega)) _), HRV.out.1.sgn⟩
        · rw [HRV.out.2, wv_sign hsg]; cases t <;> simp only [Bool.not_false, Bool.not_true, wv_false, wv_true] <;> omega
end Go.Proofs.YtclopblgdiahiaaGreatDoor
namespace Go.Proofs.YtclopblgdiahiaaGreatDoor
open Go.RowKit

set_option maxRecDepth 100000 in
set_option maxHeartbeats 400000 in
/-- slices.Clone: a list of its own. -/
theorem sclone_c (ao : Option Addr) (n cap : Nat) (f : Nat → Int) (w : World) (hn : n ≤ 8796093022208) (hr : Rd .u64 w ao n f) (hnil : ao = none → n = 0 ∧ cap = 0) (hf : Lm f n) (ff : Fm f n) :
    Calls Tryz.prog 87 #[.slice ao n cap] w fun e w' => ∃ ao' cap', e = .returned (.slice ao' n cap') ∧ Asw n w w' ao' n cap' f := by
  have HF := hid hf; have FF := hid ff
  have hEq := fun W a l c => run_eql_slice_nil (P := Tryz.prog) W 22 28 a l c Tryz.underlying22
  clear hf ff
  cases ao with
  | none =>
    obtain ⟨rfl, rfl⟩ := hnil rfl
    go_enter Tryz.func87, Tryz.ntmps87
    go_wp2
    go_ret
    exact ⟨none, 0, rfl, Asw.none f (Below.refl _ _)⟩
  | some ad =>
    clear hnil
    have HR := hid hr
    clear hr
    go_enter Tryz.func87, Tryz.ntmps87
    obtain ⟨i0, hi, hz0, hz1, hz2⟩ := info_parts Tryz.infoU64
    have hw0 : Own .u64 28 (w.alloc (.cells #[] 28)) w.heap.size (.slice (some ⟨w.heap.size, 0, none⟩) 0 0) 0 f :=
      own_of_blk (N := 0) ⟨#[], heap_alloc_new w _, rfl, fun j hj => by omega⟩ (Nat.le_refl _) (Nat.le_refl _) (by simp [maxLen])
    have HW0 := hid hw0
    have HRa := hid (HR.out.alloc (.cells #[] 28))
    clear hw0
    go_wp2_with (at_builtin; refine wpList_append_own _ rfl (.tmp 5) (.tmp 6) 22 rfl w.heap.size 28 i0 (.int .u64 0) 1 8 Tryz.underlying22 hi hz0 hz1 hz2 rfl (by decide) (.slice (some ⟨w.heap.size, 0, none⟩) 0 0) 0 [] rfl HW0.out ad n cap (lst .u64 f n) rfl (by rw [lst_length, Nat.mul_one]) ?c1 (lst_one _ _ _) ?c2 ?c3 (by simp) ?_)
    case c1 =>
      intro j u hu
      obtain ⟨hj, rfl⟩ := lst_getE hu
      obtain ⟨b, o, e, hc⟩ := HRa.out j hj
      cases e
      rw [addr_add]; exact hc
    case c2 => unfold maxLen; omega
    case c3 => omega
    intro v' w' hown hgr _
    have hown' : Own .u64 28 w' w.heap.size v' n f := hown
    have hbel : Below w.heap.size w w' := ((Below.refl _ _).alloc (Nat.le_refl _) _).grown hgr (by simp) (fun k h => by simp [Value.ownBlock] at h; omega)
    have hs := hown'.shape
    obtain ⟨ao', cap', hv, hcc, hnn, hml, hrd, hlt⟩ := hs
    rw [hv] at hown' ⊢
    clear hown hgr hv
    have HO := hid hown'
    clear hown'
    go_wp2
    go_ret
    exact ⟨ao', cap', rfl, ⟨hbel, HO.out, HF.out, FF.out, Nat.le_refl _⟩⟩

def W1 (s : Bool) (f : Nat → Int) (n : Nat) : Prop := wfB s f n = true
/-- Two boxes laid ahead of a call, as they read behind it. -/
theorem boxes2 {w w1 : World} {a0 a1 c0 c1 : Value} {t : TypeId} (hb : Below ((w.alloc (.cells #[a0, a1] t)).alloc (.cells #[c0, c1] t)).heap.size ((w.alloc (.cells #[a0, a1] t)).alloc (.cells #[c0, c1] t)) w1) :
    (w.heap.size + 1 < w1.heap.size ∧ w1.cell? ⟨w.heap.size, 0, none⟩ = some a0 ∧ w1.cell? ⟨w.heap.size, 1, none⟩ = some a1 ∧ w1.cell? ⟨w.heap.size + 1, 0, none⟩ = some c0 ∧ w1.cell? ⟨w.heap.size + 1, 1, none⟩ = some c1) ∧ (∀ o, w1.frozen? ⟨w.heap.size + 1, o, none⟩ = false) ∧ Below w.heap.size w w1 := by
  obtain ⟨h1, h2⟩ := bcell hb
  have hz := hb.size
  simp at hz
  refine ⟨⟨by omega, (h1 _ _ (by simp; omega)).trans (by simp [go_sem]), (h1 _ _ (by simp; omega)).trans (by simp [go_sem]), (h1 _ _ (by simp)).trans (by simp [go_sem]), (h1 _ _ (by simp)).trans (by simp [go_sem])⟩, fun o => (h2 _ _ (by simp)).trans (by
    have e := heap_alloc_new (w.alloc (.cells #[a0, a1] t)) (.cells #[c0, c1] t)
    rw [size_alloc1] at e
    simp only [World.frozen?, e]; simp), ?_⟩
  exact (below_alloc (below_alloc (Below.refl w.heap.size w) _) _).trans (hb.mono (by simp; omega))
/-- Cells of two boxes behind a further call. -/
theorem keep2 {w w1 w2 : World} {a0 a1 c0 c1 : Value} (hb : Below w1.heap.size w1 w2) (h : w.heap.size + 1 < w1.heap.size ∧ w1.cell? ⟨w.heap.size, 0, none⟩ = some a0 ∧ w1.cell? ⟨w.heap.size, 1, none⟩ = some a1 ∧ w1.cell? ⟨w.heap.size + 1, 0, none⟩ = some c0 ∧ w1.cell? ⟨w.heap.size + 1, 1, none⟩ = some c1) (hf : ∀ o, w1.frozen? ⟨w.heap.size + 1, o, none⟩ = false) (hw : Below w.heap.size w w1) :
    (w.heap.size + 1 < w2.heap.size ∧ w2.cell? ⟨w.heap.size, 0, none⟩ = some a0 ∧ w2.cell? ⟨w.heap.size, 1, none⟩ = some a1 ∧ w2.cell? ⟨w.heap.size + 1, 0, none⟩ = some c0 ∧ w2.cell? ⟨w.heap.size + 1, 1, none⟩ = some c1) ∧ (∀ o, w2.frozen? ⟨w.heap.size + 1, o, none⟩ = false) ∧ Below w.heap.size w w2 := by
  obtain ⟨h1, h2⟩ := bcell hb
  have hz := hb.size
  obtain ⟨z, a, b, e, f⟩ := h
  exact ⟨⟨by omega, (h1 _ _ (by omega)).trans a, (h1 _ _ (by omega)).trans b, (h1 _ _ (by omega)).trans e, (h1 _ _ (by omega)).trans f⟩, fun o => (h2 _ _ (by omega)).trans (hf o), hw.trans (hb.mono hw.size)⟩

set_option maxHeartbeats 1000000 in
theorem wNeg_c (s : Bool) (ao : Option Addr) (n ca : Nat) (f : Nat → Int) (w : World) (hn : n ≤ 8796093022208) (hr : Rd .u64 w ao n f) (hnil : ao = none → n = 0 ∧ ca = 0) (hf : Lm f n) :
    Calls Tryz.prog 42 #[.agg #[.bool s, .slice ao n ca]] w fun e w' => ∃ r ao' k cap' f' er, e = .returned (.tuple #[.agg #[.bool r, .slice ao' k cap'], .int .i64 er]) ∧ WRes n w w' r ao' k cap' f' ∧ WAns (W1 s f n) (- wv s f n) r k f' er := by
  have HR := hid hr; have HF := hid hf; have HNil := hid hnil
  clear hr hf hnil
  cases hfa : wfB s f n
  · have c1 := fun W hr' => wForm_c s ao n ca f W (by omega) hr'
    rw [hfa] at c1
    have C1 := hid c1; have HN := hid hfa
    clear c1 hfa
    go_enter Tryz.func42, Tryz.ntmps42
    go_wp2_with fail
    refine (C1.out _ ((HR.out.alloc _).alloc _)).mono ?_
    rintro e w1 ⟨rfl, hb⟩
    obtain ⟨⟨hz, x0, x1, z0, z1⟩, zf, hw⟩ := boxes2 hb
    have HW := hid hw
    clear hb hw
    go_wp2
    refine bodyPost_ret (v := .tuple #[.agg #[.bool false, .slice none 0 0], .int .i64 3]) (by simp [results, Tryz.results42, go_sem, z0, z1]) rfl ⟨false, none, 0, 0, f, 3, rfl, ⟨Asw.none f ?_, fun h => by cases h⟩, (.inr ⟨(fun x => by have := HN.out.symm.trans x; cases this), rfl, rfl⟩)⟩
    exact below_turned HW.out HW.out.size (((Turned.refl _ (w.heap.size + 1 + 1) _).set (by first | omega | (simp; done) | (simp; omega)) (by first | omega | (simp; done) | (simp; omega)) _).set (by first | omega | (simp; done) | (simp; omega)) (by first | omega | (simp; done) | (simp; omega)) _) (Nat.le_refl _)
  · have c1 := fun W hr' => wForm_c s ao n ca f W (by omega) hr'
    rw [hfa] at c1
    have C1 := hid c1; have HA := hid hfa
    clear c1 hfa
    go_enter Tryz.func42, Tryz.ntmps42
    go_wp2_with fail
    refine (C1.out _ ((HR.out.alloc _).alloc _)).mono ?_
    rintro e w1 ⟨rfl, hb⟩
    obtain ⟨⟨hz, x0, x1, z0, z1⟩, zf, hw⟩ := boxes2 hb
    have HW := hid hw
    clear hb hw
    have CA : Hid (∀ (W : World), Below w1.heap.size w1 W → Calls Tryz.prog 87 #[.slice ao n ca] W fun e w4 => ∃ xa cx, e = .returned (.slice xa n cx) ∧ Hid (Asw n W w4 xa n cx f) ∧ (w.heap.size + 1 < w4.heap.size ∧ w4.cell? ⟨w.heap.size, 0, none⟩ = some (.bool s) ∧ w4.cell? ⟨w.heap.size, 1, none⟩ = some (.slice ao n ca) ∧ w4.cell? ⟨w.heap.size + 1, 0, none⟩ = some (.bool false) ∧ w4.cell? ⟨w.heap.size + 1, 1, none⟩ = some (.slice none 0 0)) ∧ ∀ o, w4.frozen? ⟨w.heap.size + 1, o, none⟩ = false) := by
      intro W hW
      have hWw : Below w.heap.size w W := HW.out.trans (hW.mono HW.out.size)
      refine (sclone_c ao n ca f W hn (HR.out.below hWw (Nat.le_refl _)) HNil.out HF.out (fm_of_wfB HA.out)).mono ?_
      rintro e w4 ⟨xa, cx, rfl, hans⟩
      obtain ⟨hu, uf, hw4⟩ := keep2 (hW.trans (hans.bel.mono hW.size)) ⟨hz, x0, x1, z0, z1⟩ zf HW.out
      exact ⟨xa, cx, rfl, hans, hu, uf⟩
    have hz0 : w.heap.size < w1.heap.size := by omega
    go_wp2
    go_region_with (first | (go_at_call 87; refine (CA.out _ (by repeat (first | exact Below.refl _ _ | refine Below.drew ?_ | refine below_alloc ?_ _))).mono ?_; rintro e w4 ⟨xa, cx, rfl, HAns, ⟨hz4, v0, v1, u0, u1⟩, uf⟩; have hz5 : w.heap.size < w4.heap.size := by omega) | (go_at_call 78; refine (signed_c _ xa n cx _ (by omega)).mono ?_; rintro e w5 ⟨r, o, rfl, hsg, rfl⟩))
    all_goals
      go_wp2
      refine bodyPost_ret (v := .tuple #[.agg #[.bool r, .slice xa n cx], .int .i64 0]) (by simp [results, Tryz.results42, go_sem, u0, u1, hz4]) rfl ⟨r, xa, n, cx, f, 0, rfl, WRes.mk' hsg (HAns.out.turned (by repeat (first | exact HW.out | refine Below.drew ?_ | refine below_alloc ?_ _)) ?_), .inl ⟨HA.out, rfl, ?_⟩⟩
      · exact (((Turned.refl _ _ _).set (by first | omega | (simp; done) | (simp; omega)) (by first | omega | (simp; done) | (simp; omega)) _).set (by first | omega | (simp; done) | (simp; omega)) (by first | omega | (simp; done) | (simp; omega)) _).alloc _
      · rw [wv_sign hsg]; cases s <;> simp only [Bool.not_false, Bool.not_true, wv_false, wv_true] <;> omega

theorem vf_pos {f : Nat → Int} {n : Nat} (h : Lm f n) (hf : Fm f n) (hn : 0 < n) : 0 < vf f n := by
  have h1 := vf_form_ge h hf hn; have h2 := pw_pos (n - 1); omega
/-- The order of two numbers; c is 0 beside a fault. -/
def WCmp (P : Prop) (a b : Int) (c er : Int) : Prop := P ∧ er = 0 ∧ Ord c a b ∨ ¬ P ∧ er = 3 ∧ c = 0
set_option maxHeartbeats 1000000 in
theorem wCmp_c (s t : Bool) (ao bo : Option Addr) (n m ca cb : Nat) (f h : Nat → Int) (w : World) (hn : n ≤ 8796093022208) (hm : m ≤ 8796093022208) (hr : Rd .u64 w ao n f) (hs : Rd .u64 w bo m h) (hf : Lm f n) (hh : Lm h m) :
    Calls Tryz.prog 111 #[.agg #[.bool s, .slice ao n ca], .agg #[.bool t, .slice bo m cb]] w fun e w' => ∃ c er, e = .returned (.tuple #[.int .i64 c, .int .i64 er]) ∧ Below w.heap.size w w' ∧ WCmp (W2 s f n t h m) (wv s f n) (wv t h m) c er := by
  have HR := hid hr; have HS := hid hs; have HF := hid hf; have HH := hid hh
  clear hr hs hf hh
  cases hfa : wfB s f n
  · have c1 := fun W hr' => wForm_c s ao n ca f W (by omega) hr'
    rw [hfa] at c1
    have C1 := hid c1; have HN := hid hfa
    clear c1 hfa
    go_enter Tryz.func111, Tryz.ntmps111
    go_wp2_with fail
    refine (C1.out _ ((HR.out.alloc _).alloc _)).mono ?_
    rintro e w1 ⟨rfl, hb⟩
    obtain ⟨⟨hz, x0, x1, z0, z1⟩, zf, hw⟩ := boxes2 hb
    have HW := hid hw
    clear hb hw
    go_wp2
    go_ret2
    exact ⟨0, 3, rfl, HW.out, .inr ⟨(fun x => by have := HN.out.symm.trans x.1; cases this), rfl, rfl⟩⟩
  · have c1 := fun W hr' => wForm_c s ao n ca f W (by omega) hr'
    rw [hfa] at c1
    have C1 := hid c1; have HA := hid hfa
    clear c1 hfa
    cases hfb : wfB t h m
    · have c2 := fun W hr' => wForm_c t bo m cb h W (by omega) hr'
      rw [hfb] at c2
      have C2 := hid c2; have HN := hid hfb
      clear c2 hfb
      go_enter Tryz.func111, Tryz.ntmps111
      go_wp2_with fail
      refine (C1.out _ ((HR.out.alloc _).alloc _)).mono ?_
      rintro e w1 ⟨rfl, hb⟩
      obtain ⟨⟨hz, x0, x1, z0, z1⟩, zf, hw⟩ := boxes2 hb
      have HW := hid hw
      clear hb hw
      go_wp2_with fail
      refine (C2.out _ (HS.out.below HW.out (Nat.le_refl _))).mono ?_
      rintro e w2 ⟨rfl, hb⟩
      obtain ⟨⟨hz, x0, x1, z0, z1⟩, zf, hw⟩ := keep2 hb ⟨hz, x0, x1, z0, z1⟩ zf HW.out
      have HW2 := hid hw
      clear hb hw
      go_wp2
      go_ret2
      exact ⟨0, 3, rfl, HW2.out, .inr ⟨(fun x => by have := HN.out.symm.trans x.2; cases this), rfl, rfl⟩⟩
    · have c2 := fun W hr' => wForm_c t bo m cb h W (by omega) hr'
      rw [hfb] at c2
      have C2 := hid c2; have HB := hid hfb
      clear c2 hfb
      cases s <;> cases t
      all_goals
        go_enter Tryz.func111, Tryz.ntmps111
        go_wp2_with fail
        refine (C1.out _ ((HR.out.alloc _).alloc _)).mono ?_
        rintro e w1 ⟨rfl, hb⟩
        obtain ⟨⟨hz, x0, x1, z0, z1⟩, zf, hw⟩ := boxes2 hb
        have HW := hid hw
        clear hb hw
        go_wp2_with fail
        refine (C2.out _ (HS.out.below HW.out (Nat.le_refl _))).mono ?_
        rintro e w2 ⟨rfl, hb⟩
        obtain ⟨⟨hz, x0, x1, z0, z1⟩, zf, hw⟩ := keep2 hb ⟨hz, x0, x1, z0, z1⟩ zf HW.out
        have HW2 := hid hw
        clear hb hw
        go_wp2_with fail
      · refine (Cmp_c ao bo n m ca cb f h _ hn hm (HR.out.below HW2.out (Nat.le_refl _)) (HS.out.below HW2.out (Nat.le_refl _)) HF.out HH.out).mono ?_
        rintro e w3 ⟨⟨q, hq⟩, c, er, rfl, hc⟩
        have HB3 := hid (drewN_below hq); have HC := hid hc
        clear hq hc
        go_wp2
        go_ret2
        refine ⟨c, er, rfl, HW2.out.trans (HB3.out.mono HW2.out.size), ?_⟩
        rcases HC.out with ⟨_, _, h1, h2⟩ | ⟨h1, _⟩
        · exact .inl ⟨⟨HA.out, HB.out⟩, h1, h2⟩
        · exact absurd ⟨fm_of_wfB HA.out, fm_of_wfB HB.out⟩ h1
      · go_ret2
        refine ⟨1, 0, rfl, HW2.out, .inl ⟨⟨HA.out, HB.out⟩, rfl, .inr (.inr ⟨rfl, ?_⟩)⟩⟩
        have h1 := vf_pos HH.out (fm_of_wfB HB.out) (sgn_of_wfB HB.out rfl)
        have h2 := vf_nonneg HF.out
        rw [wv_true, wv_false]; omega
      · go_ret2
        refine ⟨-1, 0, rfl, HW2.out, .inl ⟨⟨HA.out, HB.out⟩, rfl, .inl ⟨rfl, ?_⟩⟩⟩
        have h1 := vf_pos HF.out (fm_of_wfB HA.out) (sgn_of_wfB HA.out rfl)
        have h2 := vf_nonneg HH.out
        rw [wv_true, wv_false]; omega
      · refine (Cmp_c bo ao m n cb ca h f _ hm hn (HS.out.below HW2.out (Nat.le_refl _)) (HR.out.below HW2.out (Nat.le_refl _)) HH.out HF.out).mono ?_
        rintro e w3 ⟨⟨q, hq⟩, c, er, rfl, hc⟩
        have HB3 := hid (drewN_below hq); have HC := hid hc
        clear hq hc
        go_wp2
        go_ret2
        refine ⟨c, er, rfl, HW2.out.trans (HB3.out.mono HW2.out.size), ?_⟩
        rcases HC.out with ⟨_, _, h1, h2⟩ | ⟨h1, _⟩
        · refine .inl ⟨⟨HA.out, HB.out⟩, h1, ?_⟩
          unfold Ord at h2 ⊢; rw [wv_true, wv_true]; omega
        · exact absurd ⟨fm_of_wfB HB.out, fm_of_wfB HA.out⟩ h1

/-- One whole number is answered. -/
def WOne (C : Nat) (w w' : World) (e : Ending) (z : Int) : Prop := ∃ r ao k cap f, e = .returned (.agg #[.bool r, .slice ao k cap]) ∧ WRes C w w' r ao k cap f ∧ wv r f k = z
theorem wrapU (x : Int) : IntKind.u64.wrap x = x % 18446744073709551616 := by simp [IntKind.wrap, IntKind.signed, IntKind.bits]
theorem own_one (w : World) (base g : Nat) (z : Int) (hb : base ≤ w.heap.size) (hg : g = w.heap.size) : Own .u64 28 (w.alloc (.cells #[.int .u64 z] 28)) base (.slice (some ⟨g, 0, none⟩) 1 1) 1 (fun _ => z) := by
  subst hg
  refine own_of_blk (N := 1) ⟨_, heap_alloc_new w _, rfl, fun j hj => ?_⟩ hb (Nat.le_refl _) (by simp [maxLen])
  obtain rfl : j = 0 := by omega
  rfl
set_option maxHeartbeats 1000000 in
theorem wOf_c (z : Int) (w : World) (h0 : -9223372036854775808 ≤ z) (h1 : z ≤ 9223372036854775807) :
    Calls Tryz.prog 33 #[.int .i64 z] w fun e w' => WOne 1 w w' e z := by
  by_cases hz : z = 0
  · subst hz
    go_enter Tryz.func33, Tryz.ntmps33
    go_wp2
    exact bodyPost_ret (v := .agg #[.bool false, .slice none 0 0]) (by simp [results, Tryz.results33, go_sem]) rfl ⟨false, none, 0, 0, fun _ => 0, rfl, ⟨Asw.none _ (below_alloc (Below.refl _ _) _), fun h => by cases h⟩, rfl⟩
  · have hz0 : (z == 0) = false := by simp; omega
    by_cases hneg : z < 0
    · have hW : Hid (IntKind.u64.wrap (-IntKind.u64.wrap z) = -z) := by
        show IntKind.u64.wrap (-IntKind.u64.wrap z) = -z
        simp only [wrapU]; omega
      go_enter Tryz.func33, Tryz.ntmps33
      go_wp2
      rw [hW.out]
      refine bodyPost_ret (v := .agg #[.bool true, .slice (some ⟨w.heap.size + 1, 0, none⟩) 1 1]) (by simp [results, Tryz.results33, go_sem]) rfl ⟨true, _, 1, 1, fun _ => -z, rfl, ⟨⟨below_alloc (below_alloc (Below.refl _ _) _) _, own_one (w.alloc _) w.heap.size _ (-z) (by simp) (by simp), lm_const (x := -z) (by omega) (by omega) 1, .inr (show -z ≠ 0 by omega), Nat.le_refl _⟩, fun _ => by omega⟩, ?_⟩
      rw [wv_true, vf_one]; omega
    · have hW : Hid (IntKind.u64.wrap z = z) := by
        show IntKind.u64.wrap z = z
        simp only [wrapU]; omega
      go_enter Tryz.func33, Tryz.ntmps33
      go_wp2
      (try rw [hW.out])
      refine bodyPost_ret (v := .agg #[.bool false, .slice (some ⟨w.heap.size + 1, 0, none⟩) 1 1]) (by simp [results, Tryz.results33, go_sem]) rfl ⟨false, _, 1, 1, fun _ => z, rfl, ⟨⟨below_alloc (below_alloc (Below.refl _ _) _) _, own_one (w.alloc _) w.heap.size _ z (by simp) (by simp), lm_const (x := z) (by omega) (by omega) 1, .inr (show z ≠ 0 by omega), Nat.le_refl _⟩, fun _ => by omega⟩, ?_⟩
      rw [wv_false, vf_one]
end Go.Proofs.YtclopblgdiahiaaGreatDoor
