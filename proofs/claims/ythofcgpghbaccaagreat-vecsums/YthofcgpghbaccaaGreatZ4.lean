/-
  Walks of the document's reference for nat: Cmp, Add, Sub on digits, and the calls DocAdd, DocSub, DocCmp. Walks of the document's reference for nat: Word, short. Walks of the document's reference for whole: Same, Twin, DocOf. Walks of package nat's reading: isNumber, readPiece. The walk of the document's reference for nat: Text. Walks of the document's reference for nat: Sub on digits, and the calls DocAdd, DocSub, DocCmp. Walks of the document's reference for nat: the calls DocAdd, DocSub, DocCmp. Walks of the document's reference for nat: Read, DocRead, DocText. Walks of package nat's reading: joinPieces, fromDigits, Read. Walks of package nat's reading: fromDigits, Read. Walks of nat's Text, and of the document's reference: DocText, DocRead. Walks of package whole's calls Text, Read. The walk of package whole's call Read. The walk of the statements' own look at answers of whole that the document fixes (awake). What the walks of whole's statements share: light, boxes and numbers carried along. Rational numbers in lowest terms: what numerators and denominators become by sums, products, quotients. Euclid's steps by the highest bits (Lehmer's way, Collins' condition), on plain numbers. No Go text is named here. Walks of package nat's greatest common divisor: findSteps. Walks of package nat's greatest common divisor: bitsFrom, highBits. Walks of package nat's greatest common divisor: highBits.
-/
import Derived.Test.YthofcgpghbaccaaGreatZ3
import Derived.Test.YthofcgpghbaccaaGreatZ1
import Derived.Deep.RegionHeld3
import Derived.Test.YthofcgpghbaccaaGreatZ2
import Derived.Deep.CutRange
import Derived.Test.YthofcgpghbaccaaGreatZ0
import Derived.BigRegion
import Derived.BigQuiet
namespace Go.Proofs.YthofcgpghbaccaaGreat
open Go.RowKit

theorem dcmp_step {f g : Nat → Int} {n k : Nat} (hf : Dg f n) (hg : Dg g n) (hk : k < n) (he : ∀ j, k < j → j < n → f j = g j) (hl : f k < g k) : vd f n < vd g n := by
  obtain ⟨d, rfl⟩ := Nat.exists_eq_add_of_le (show k + 1 ≤ n by omega)
  have e : vd (sh f (k + 1)) d = vd (sh g (k + 1)) d := vd_congr (fun j hj => he _ (by omega) (by omega))
  have a := vd_lt (hf.mono (m := k) (by omega)); have b := vd_nonneg (hg.mono (m := k) (by omega))
  have hp : (f k + 1) * pd k ≤ g k * pd k := Int.mul_le_mul_of_nonneg_right (by omega) (Int.le_of_lt (pd_pos k))
  rw [Int.add_mul, Int.one_mul] at hp
  rw [vd_split f (k + 1) d, vd_split g (k + 1) d, e, vd_succ f k, vd_succ g k]
  omega
theorem vd_cat1 (D : Nat → Int) (k : Nat) (x : Int) : vd (cat D k (fun _ => x)) (k + 1) = vd D k + x * pd k := by
  rw [vd_succ, vd_congr (f := cat D k (fun _ => x)) (g := D) (fun j hj => cat_in hj), cat_out (Nat.le_refl _)]
theorem dg_cat1 {D : Nat → Int} {k : Nat} {x : Int} (h : Dg D k) (hx : 0 ≤ x ∧ x < 4294967296) : Dg (cat D k (fun _ => x)) (k + 1) := fun j hj => by
  by_cases h1 : j < k
  · rw [cat_in h1]; exact h j h1
  · rw [cat_out (by omega)]; exact hx
/-- One digit of a sum. -/
theorem dadd_limb {V x c p : Int} : V + ((x + c) % 4294967296) * p + ((x + c) / 4294967296) * (4294967296 * p) = V + x * p + c * p := by
  have e : x + c = 4294967296 * ((x + c) / 4294967296) + (x + c) % 4294967296 := by omega
  grind
theorem dcarry_step {D F G : Nat → Int} {k : Nat} {cc x y : Int} (HV : vd D k + cc * pd k = vd F k + vd G k) (hx : F k = x) (hy : G k = y) :
    vd (cat D k (fun _ => (cc + x + y) % 4294967296)) (k + 1) + ((cc + x + y) / 4294967296) * pd (k + 1) = vd F (k + 1) + vd G (k + 1) := by
  rw [vd_cat1, vd_succ, vd_succ, pd_succ, hx, hy]
  have := dadd_limb (V := vd D k) (x := x + y) (c := cc) (p := pd k)
  have e : x + y + cc = cc + x + y := by omega
  rw [e] at this
  rw [this]
  grind
theorem dborrow_step {D F G : Nat → Int} {k : Nat} {cc x y v c' : Int} (HV : vd D k - cc * pd k = vd F k - vd G k) (hx : F k = x) (hy : G k = y) (hv : v = x - (cc + y) + 4294967296 * c') :
    vd (cat D k (fun _ => v)) (k + 1) - c' * pd (k + 1) = vd F (k + 1) - vd G (k + 1) := by
  rw [vd_cat1, vd_succ, vd_succ, pd_succ, hx, hy, hv]
  grind

set_option maxHeartbeats 800000 in
theorem rcmp_c (ao bo : Option Addr) (n m ca cb : Nat) (f g : Nat → Int) (w : World) (hm : n ≤ 140737488355328) (hm' : m ≤ 140737488355328)
    (hr : Rd .u64 w ao n f) (hs : Rd .u64 w bo m g) (hf : Dg f n) (hg : Dg g m) (ff : Fm f n) (fg : Fm g m) :
    Calls Tryz.prog 88 #[.slice ao n ca, .slice bo m cb] w fun e w' => (∃ q, w' = w.drewN q) ∧ ∃ c, e = .returned (.int .i64 c) ∧ Ord c (vd f n) (vd g m) := by
  have FF := hid ff
  have FG := hid fg
  have HF := hid hf
  have HG := hid hg
  clear ff fg hf hg
  rcases Nat.lt_trichotomy n m with hlt | heq | hlt
  · have h1 : ((n : Int) != m) = true := by simp; omega
    have h2 : decide ((n : Int) < m) = true := by simp; omega
    have h3 : vd f n < vd g m := by
      apply Int.lt_of_not_ge; intro h
      have := vd_len HG.out HF.out FG.out h; omega
    have H3 := hid h3
    clear h3
    go_enter Tryz.func88, Tryz.ntmps88
    go_wp2
    go_ret
    exact ⟨⟨0, rfl⟩, -1, rfl, .inl ⟨rfl, H3.out⟩⟩
  · subst heq
    have h1 : ((n : Int) != n) = false := by simp
    go_enter Tryz.func88, Tryz.ntmps88
    go_wp2
    go_loopw [5] (fun t wr => ∃ i : Nat, i ≤ n ∧ t = .int .i64 ((i : Int) - 1) ∧ Hid (∀ j, i ≤ j → j < n → f j = g j) ∧ ∃ q, wr = w.drewN q) (fun t _ => ((intOf t) + 1).toNat)
    case atStart => exact ⟨n, by omega, rfl, fun j h1 h2 => by omega, 0, rfl⟩
    case round =>
      obtain ⟨i, hin, rfl, HE, q, rfl⟩ := hrel
      by_cases hlt : 0 < i
      · obtain ⟨b, o, rfl⟩ := hr.at (by omega)
        obtain ⟨b', o', rfl⟩ := hs.at (by omega)
        obtain ⟨x, hx⟩ : ∃ x, f (i - 1) = x := ⟨_, rfl⟩
        obtain ⟨y, hy⟩ : ∃ y, g (i - 1) = y := ⟨_, rfl⟩
        have hca : w.cell? ⟨b, o + (i - 1), none⟩ = some (.int .u64 x) := by rw [← hx]; exact hr.cell (by omega)
        have hcb : w.cell? ⟨b', o' + (i - 1), none⟩ = some (.int .u64 y) := by rw [← hy]; exact hs.cell (by omega)
        have HX := hid hx
        have HY := hid hy
        clear hx hy hr hs
        rcases Int.lt_trichotomy x y with hl | hxy | hl
        · have hd : decide (x < y) = true := by simp [hl]
          go_wp2
          go_quiet (fail)
          go_wp2
          go_ret
          refine ⟨⟨_, by (repeat rw [World.drewN_drewN]) <;> rfl⟩, -1, rfl, .inl ⟨rfl, dcmp_step HF.out HG.out (k := i - 1) (by omega) (fun j h1 h2 => HE.out j (by omega) h2) (by rw [HX.out, HY.out]; exact hl)⟩⟩
        · subst hxy
          have hd : decide (x < x) = false := by simp
          go_wp2
          go_quiet (fail)
          go_wp2
          go_quiet (fail)
          go_wp2
          go_roundw
          case rel =>
            refine ⟨i - 1, by omega, by go_num, fun j h1 h2 => ?_, _, by (repeat rw [World.drewN_drewN]) <;> rfl⟩
            by_cases hj : j = i - 1
            · rw [hj]; exact HX.out.trans HY.out.symm
            · exact HE.out j (by omega) h2
          case measure => simp [intOf]; omega
        · have hd : decide (x < y) = false := by simp; omega
          have hd2 : decide (y < x) = true := by simp [hl]
          go_wp2
          go_quiet (fail)
          go_wp2
          go_quiet (fail)
          go_wp2
          go_ret
          refine ⟨⟨_, by (repeat rw [World.drewN_drewN]) <;> rfl⟩, 1, rfl, .inr (.inr ⟨rfl, dcmp_step HG.out HF.out (k := i - 1) (by omega) (fun j h1 h2 => (HE.out j (by omega) h2).symm) (by rw [HX.out, HY.out]; omega)⟩)⟩
      · have hi : i = 0 := by omega
        subst hi
        go_wp2
        go_ret
        exact ⟨⟨_, rfl⟩, 0, rfl, .inr (.inl ⟨rfl, vd_congr (fun j hj => HE.out j (by omega) hj)⟩)⟩
  · have h1 : ((n : Int) != m) = true := by simp; omega
    have h2 : decide ((n : Int) < m) = false := by simp; omega
    have h3 : vd g m < vd f n := by
      apply Int.lt_of_not_ge; intro h
      have := vd_len HF.out HG.out FF.out h; omega
    have H3 := hid h3
    clear h3
    go_enter Tryz.func88, Tryz.ntmps88
    go_wp2
    go_ret
    exact ⟨⟨0, rfl⟩, 1, rfl, .inr (.inr ⟨rfl, H3.out⟩)⟩

set_option maxRecDepth 100000 in
set_option maxHeartbeats 2000000 in
/-- Add: the sum, on digits. -/
theorem raddO_c (ao bo : Option Addr) (n m ca cb : Nat) (f h : Nat → Int) (w : World) (hn : n ≤ 1048576) (hm : m ≤ 1048576) (hr : Rd .u64 w ao n f) (hs : Rd .u64 w bo m h) (hf : Dg f n) (hh : Dg h m) :
    Calls Tryz.prog 95 #[.slice ao n ca, .slice bo m cb] w fun e w' => ∃ ao' k cap' D, e = .returned (.slice ao' k cap') ∧ Below w.heap.size w w' ∧ Rd .u64 w' ao' k D ∧ k ≤ n + m + 1 ∧ Dg D k ∧ Fm D k ∧ (∀ a, ao' = some a → w.heap.size ≤ a.block) ∧ vd D k = vd f n + vd h m := by
  obtain ⟨i0, hi, hz0, hz1, hz2⟩ := info_parts Tryz.infoU64
  have RA0 := hid hr
  have RB0 := hid hs
  have DA0 := hid hf
  have DB0 := hid hh
  clear hr hs hf hh
  by_cases hsw : n < m
  · have RA := RB0
    have RB := RA0
    have DA := DB0
    have DB := DA0
    clear RA0 RB0 DA0 DB0
    go_enter Tryz.func95, Tryz.ntmps95
    go_wp2_with (at_make; refine wpList_make_own w rfl (.const (.int .i64 0)) (.tmp 18) 23 rfl w.heap.size 74 i0 (.int .u64 0) 1 Tryz.underlying23 hi hz0 hz1 .i64 .i64 ((m : Int) + 1) (m + 1) rfl rfl (by omega) (by rw [hz2]; omega) (by unfold maxLen; omega) (Nat.le_refl _) ?_; intro w1 hown1 hgr1)
    have hb1 : Below w.heap.size w w1 := (Below.refl _ _).grown hgr1 (Nat.le_refl _) (fun k h => by cases h)
    have HO1 := hid (show Own .u64 74 w1 w.heap.size (.slice (some ⟨w.heap.size, 0, none⟩) 0 (m + 1)) 0 (fun _ => 0) from hown1)
    clear hown1 hgr1
    go_loopw [5, 6, 22] (fun v c t wr => ∃ (k : Nat) (cc : Int) (D : Nat → Int), k ≤ m ∧ t = .int .i64 k ∧ c = .int .u64 cc ∧ 0 ≤ cc ∧ cc ≤ 1 ∧ Below w.heap.size w wr ∧ Hid (Own .u64 74 wr w.heap.size v k D) ∧ Hid (Dg D k) ∧ Hid (vd D k + cc * pd k = vd h k + vd (ext f n) k)) (fun _ _ t _ => m - (intOf t).toNat)
    case atStart => exact ⟨0, 0, fun _ => 0, by omega, rfl, rfl, by omega, by omega, hb1, HO1.out, fun j hj => by omega, by simp [Hid, vd, pd]⟩
    case round =>
      clear hb1 HO1
      obtain ⟨k, cc, D, hk, rfl, rfl, c0, c1, hbel, HO, HDg, HV⟩ := hrel
      by_cases hlt : k < m
      · have hrA := RA.out
        obtain ⟨b, o, rfl⟩ := hrA.at (by omega)
        obtain ⟨x, hx⟩ : ∃ x, h k = x := ⟨_, rfl⟩
        have hcell : wr.cell? ⟨b, o + k, none⟩ = some (.int .u64 x) := by rw [← hx]; exact (hrA.below hbel (Nat.le_refl _)).cell hlt
        obtain ⟨x0, x1⟩ := DA.out k hlt
        rw [hx] at x0 x1
        have HX := hid hx
        clear hx hrA
        by_cases hlt2 : k < n
        · have hrB := RB.out
          obtain ⟨b', o', rfl⟩ := hrB.at (by omega)
          obtain ⟨y, hy⟩ : ∃ y, f k = y := ⟨_, rfl⟩
          have hcelb : wr.cell? ⟨b', o' + k, none⟩ = some (.int .u64 y) := by rw [← hy]; exact (hrB.below hbel (Nat.le_refl _)).cell hlt2
          obtain ⟨y0, y1⟩ := DB.out k hlt2
          rw [hy] at y0 y1
          have HY := hid (show ext f n k = y from (ext_in _ _ _ hlt2).trans hy)
          clear hy hrB
          go_wp2_with (at_builtin; refine wpList_append_own_list .u64 _ rfl (.tmp 40) (.tmp 43) 23 rfl w.heap.size 74 8 Tryz.underlying23 Tryz.infoU64 _ k D rfl (Own.alloc HO.out _) wr.heap.size 0 1 1 (fun _ => (cc + x + y) % 4294967296) rfl (rd_new1 wr _ _) ?c1 ?c2 ?c3 ?_)
          case c1 => unfold maxLen; omega
          case c2 => omega
          case c3 => have := hbel.size; simp; omega
          intro v' w' hown hgr
          have hbel2 : Below w.heap.size w w' := (hbel.alloc hbel.size _).grown hgr (by have := hbel.size; simp; omega) (fun k h => (Own.ge HO.out k h))
          have HO2 := hid hown
          clear hown hgr HO
          go_wp2
          go_roundw
          case rel => exact ⟨k + 1, _, _, by omega, by go_num, rfl, by omega, by omega, hbel2, HO2.out, dg_cat1 HDg.out (by omega), dcarry_step HV.out HX.out HY.out⟩
          case measure => simp [intOf]; omega
        · have HY := hid (show ext f n k = 0 from ext_out _ _ _ (by omega))
          go_wp2_with (at_builtin; refine wpList_append_own_list .u64 _ rfl (.tmp 40) (.tmp 43) 23 rfl w.heap.size 74 8 Tryz.underlying23 Tryz.infoU64 _ k D rfl (Own.alloc HO.out _) wr.heap.size 0 1 1 (fun _ => (cc + x) % 4294967296) rfl (rd_new1 wr _ _) ?c1 ?c2 ?c3 ?_)
          case c1 => unfold maxLen; omega
          case c2 => omega
          case c3 => have := hbel.size; simp; omega
          intro v' w' hown hgr
          have hbel2 : Below w.heap.size w w' := (hbel.alloc hbel.size _).grown hgr (by have := hbel.size; simp; omega) (fun k h => (Own.ge HO.out k h))
          have HO2 := hid hown
          clear hown hgr HO
          go_wp2
          go_roundw
          case rel => exact ⟨k + 1, _, _, by omega, by go_num, rfl, by omega, by omega, hbel2, HO2.out, dg_cat1 HDg.out (by omega), (by have := dcarry_step HV.out HX.out HY.out; simpa [Hid] using this)⟩
          case measure => simp [intOf]; omega
      · have hkn : k = m := by omega
        subst hkn
        go_wp2_with (at_builtin; refine wpList_append_own_list .u64 _ rfl (.tmp 48) (.tmp 50) 23 rfl w.heap.size 74 8 Tryz.underlying23 Tryz.infoU64 _ k D rfl (Own.alloc HO.out _) wr.heap.size 0 1 1 (fun _ => cc) rfl (rd_new1 wr _ _) ?c1 ?c2 ?c3 ?_)
        case c1 => unfold maxLen; omega
        case c2 => omega
        case c3 => have := hbel.size; simp; omega
        intro v' w' hown hgr
        have hbel2 : Below w.heap.size w w' := (hbel.alloc hbel.size _).grown hgr (by have := hbel.size; simp; omega) (fun k h => (Own.ge HO.out k h))
        obtain ⟨ao', cap', hv, hcc, hnn, hml, hrd, hlt3⟩ := Own.shape hown
        unfold maxLen at hml
        subst hv
        have HLT := hid hlt3
        clear hown hgr HO hlt3
        go_wp2_with fail
        refine (low_c ao' (k + 1) cap' (cat D k (fun _ => cc)) w' hcc hml hrd hnn).mono ?_
        rintro e w2 ⟨rfl, m', hm1, hz, hfm, rfl⟩
        have HZ := hid hz
        have HFM := hid hfm
        clear hz hfm
        go_wp2
        go_ret
        refine ⟨ao', m', cap', _, rfl, hbel2, hrd.take hm1, by omega, (dg_cat1 HDg.out (by omega)).mono hm1, HFM.out, fun a ha => (HLT.out a ha).1, ?_⟩
        rw [trim_vald hm1 HZ.out, vd_cat1, HV.out, vd_ext_list _ _ _ (by omega)]
        omega
  · have RA := RA0
    have RB := RB0
    have DA := DA0
    have DB := DB0
    clear RA0 RB0 DA0 DB0
    go_enter Tryz.func95, Tryz.ntmps95
    go_wp2_with (at_make; refine wpList_make_own w rfl (.const (.int .i64 0)) (.tmp 18) 23 rfl w.heap.size 74 i0 (.int .u64 0) 1 Tryz.underlying23 hi hz0 hz1 .i64 .i64 ((n : Int) + 1) (n + 1) rfl rfl (by omega) (by rw [hz2]; omega) (by unfold maxLen; omega) (Nat.le_refl _) ?_; intro w1 hown1 hgr1)
    have hb1 : Below w.heap.size w w1 := (Below.refl _ _).grown hgr1 (Nat.le_refl _) (fun k h => by cases h)
    have HO1 := hid (show Own .u64 74 w1 w.heap.size (.slice (some ⟨w.heap.size, 0, none⟩) 0 (n + 1)) 0 (fun _ => 0) from hown1)
    clear hown1 hgr1
    go_loopw [5, 6, 22] (fun v c t wr => ∃ (k : Nat) (cc : Int) (D : Nat → Int), k ≤ n ∧ t = .int .i64 k ∧ c = .int .u64 cc ∧ 0 ≤ cc ∧ cc ≤ 1 ∧ Below w.heap.size w wr ∧ Hid (Own .u64 74 wr w.heap.size v k D) ∧ Hid (Dg D k) ∧ Hid (vd D k + cc * pd k = vd f k + vd (ext h m) k)) (fun _ _ t _ => n - (intOf t).toNat)
    case atStart => exact ⟨0, 0, fun _ => 0, by omega, rfl, rfl, by omega, by omega, hb1, HO1.out, fun j hj => by omega, by simp [Hid, vd, pd]⟩
    case round =>
      clear hb1 HO1
      obtain ⟨k, cc, D, hk, rfl, rfl, c0, c1, hbel, HO, HDg, HV⟩ := hrel
      by_cases hlt : k < n
      · have hrA := RA.out
        obtain ⟨b, o, rfl⟩ := hrA.at (by omega)
        obtain ⟨x, hx⟩ : ∃ x, f k = x := ⟨_, rfl⟩
        have hcell : wr.cell? ⟨b, o + k, none⟩ = some (.int .u64 x) := by rw [← hx]; exact (hrA.below hbel (Nat.le_refl _)).cell hlt
        obtain ⟨x0, x1⟩ := DA.out k hlt
        rw [hx] at x0 x1
        have HX := hid hx
        clear hx hrA
        by_cases hlt2 : k < m
        · have hrB := RB.out
          obtain ⟨b', o', rfl⟩ := hrB.at (by omega)
          obtain ⟨y, hy⟩ : ∃ y, h k = y := ⟨_, rfl⟩
          have hcelb : wr.cell? ⟨b', o' + k, none⟩ = some (.int .u64 y) := by rw [← hy]; exact (hrB.below hbel (Nat.le_refl _)).cell hlt2
          obtain ⟨y0, y1⟩ := DB.out k hlt2
          rw [hy] at y0 y1
          have HY := hid (show ext h m k = y from (ext_in _ _ _ hlt2).trans hy)
          clear hy hrB
          go_wp2_with (at_builtin; refine wpList_append_own_list .u64 _ rfl (.tmp 40) (.tmp 43) 23 rfl w.heap.size 74 8 Tryz.underlying23 Tryz.infoU64 _ k D rfl (Own.alloc HO.out _) wr.heap.size 0 1 1 (fun _ => (cc + x + y) % 4294967296) rfl (rd_new1 wr _ _) ?c1 ?c2 ?c3 ?_)
          case c1 => unfold maxLen; omega
          case c2 => omega
          case c3 => have := hbel.size; simp; omega
          intro v' w' hown hgr
          have hbel2 : Below w.heap.size w w' := (hbel.alloc hbel.size _).grown hgr (by have := hbel.size; simp; omega) (fun k h => (Own.ge HO.out k h))
          have HO2 := hid hown
          clear hown hgr HO
          go_wp2
          go_roundw
          case rel => exact ⟨k + 1, _, _, by omega, by go_num, rfl, by omega, by omega, hbel2, HO2.out, dg_cat1 HDg.out (by omega), dcarry_step HV.out HX.out HY.out⟩
          case measure => simp [intOf]; omega
        · have HY := hid (show ext h m k = 0 from ext_out _ _ _ (by omega))
          go_wp2_with (at_builtin; refine wpList_append_own_list .u64 _ rfl (.tmp 40) (.tmp 43) 23 rfl w.heap.size 74 8 Tryz.underlying23 Tryz.infoU64 _ k D rfl (Own.alloc HO.out _) wr.heap.size 0 1 1 (fun _ => (cc + x) % 4294967296) rfl (rd_new1 wr _ _) ?c1 ?c2 ?c3 ?_)
          case c1 => unfold maxLen; omega
          case c2 => omega
          case c3 => have := hbel.size; simp; omega
          intro v' w' hown hgr
          have hbel2 : Below w.heap.size w w' := (hbel.alloc hbel.size _).grown hgr (by have := hbel.size; simp; omega) (fun k h => (Own.ge HO.out k h))
          have HO2 := hid hown
          clear hown hgr HO
          go_wp2
          go_roundw
          case rel => exact ⟨k + 1, _, _, by omega, by go_num, rfl, by omega, by omega, hbel2, HO2.out, dg_cat1 HDg.out (by omega), (by have := dcarry_step HV.out HX.out HY.out; simpa [Hid] using this)⟩
          case measure => simp [intOf]; omega
      · have hkn : k = n := by omega
        subst hkn
        go_wp2_with (at_builtin; refine wpList_append_own_list .u64 _ rfl (.tmp 48) (.tmp 50) 23 rfl w.heap.size 74 8 Tryz.underlying23 Tryz.infoU64 _ k D rfl (Own.alloc HO.out _) wr.heap.size 0 1 1 (fun _ => cc) rfl (rd_new1 wr _ _) ?c1 ?c2 ?c3 ?_)
        case c1 => unfold maxLen; omega
        case c2 => omega
        case c3 => have := hbel.size; simp; omega
        intro v' w' hown hgr
        have hbel2 : Below w.heap.size w w' := (hbel.alloc hbel.size _).grown hgr (by have := hbel.size; simp; omega) (fun k h => (Own.ge HO.out k h))
        obtain ⟨ao', cap', hv, hcc, hnn, hml, hrd, hlt3⟩ := Own.shape hown
        unfold maxLen at hml
        subst hv
        have HLT := hid hlt3
        clear hown hgr HO hlt3
        go_wp2_with fail
        refine (low_c ao' (k + 1) cap' (cat D k (fun _ => cc)) w' hcc hml hrd hnn).mono ?_
        rintro e w2 ⟨rfl, m', hm1, hz, hfm, rfl⟩
        have HZ := hid hz
        have HFM := hid hfm
        clear hz hfm
        go_wp2
        go_ret
        refine ⟨ao', m', cap', _, rfl, hbel2, hrd.take hm1, by omega, (dg_cat1 HDg.out (by omega)).mono hm1, HFM.out, fun a ha => (HLT.out a ha).1, ?_⟩
        rw [trim_vald hm1 HZ.out, vd_cat1, HV.out, vd_ext_list _ _ _ (by omega)]

/-- The same, without the place. -/
theorem radd_c (ao bo : Option Addr) (n m ca cb : Nat) (f h : Nat → Int) (w : World) (hn : n ≤ 1048576) (hm : m ≤ 1048576) (hr : Rd .u64 w ao n f) (hs : Rd .u64 w bo m h) (hf : Dg f n) (hh : Dg h m) :
    Calls Tryz.prog 95 #[.slice ao n ca, .slice bo m cb] w fun e w' => ∃ ao' k cap' D, e = .returned (.slice ao' k cap') ∧ Below w.heap.size w w' ∧ Rd .u64 w' ao' k D ∧ k ≤ n + m + 1 ∧ Dg D k ∧ Fm D k ∧ vd D k = vd f n + vd h m :=
  (raddO_c ao bo n m ca cb f h w hn hm hr hs hf hh).mono (fun _ _ ⟨a, k, c, D, h1, h2, h3, h4, h5, h6, _, h7⟩ => ⟨a, k, c, D, h1, h2, h3, h4, h5, h6, h7⟩)

end Go.Proofs.YthofcgpghbaccaaGreat
namespace Go.Proofs.YthofcgpghbaccaaGreat
open Go.RowKit

set_option maxRecDepth 100000 in
set_option maxHeartbeats 400000 in
/-- Word: the digits of a number below 2^32. -/
theorem word_c (x : Int) (w : World) (x0 : 0 ≤ x) (x1 : x < 4294967296) :
    Calls Tryz.prog 92 #[.int .u64 x] w fun e w' => ∃ k, e = .returned (.slice (some ⟨w.heap.size, 0, none⟩) k 2) ∧ Below w.heap.size w w' ∧ k ≤ 1 ∧ Rd .u64 w' (some ⟨w.heap.size, 0, none⟩) k (fun _ => x) ∧ (k = 0 → x = 0) ∧ Fm (fun _ => x) k := by
  have hr := rd_new2 w 74 x
  have m1 : x % 4294967296 = x := by omega
  have m2 : x / 4294967296 = 0 := by omega
  rw [m1, m2] at hr
  have HR := hid hr
  clear hr
  go_enter Tryz.func92, Tryz.ntmps92
  go_wp2_with fail
  refine (low_c (some ⟨w.heap.size, 0, none⟩) 2 2 (two32 x) _ (by omega) (by omega) HR.out (fun h => by cases h)).mono ?_
  rintro e w1 ⟨rfl, k, hk, hz, hfm, rfl⟩
  have hk1 : k ≤ 1 := by
    rcases hfm with h | h
    · omega
    · apply Nat.le_of_not_lt; intro h2
      obtain rfl : k = 2 := by omega
      exact h (by simp [two32, m2])
  have hx0 : k = 0 → x = 0 := fun h => by
    have := hz 0 (by omega) (by omega)
    simp [two32, m1] at this
    exact this
  have hr1 : ∀ j, j < k → two32 x j = x := by
    intro j hj
    obtain rfl : j = 0 := by omega
    simp [two32, m1]
  have hf1 : Fm (fun _ => x) k := by
    rcases hfm with h | h
    · exact .inl h
    · by_cases h0 : k = 0
      · exact .inl h0
      · right; rw [hr1 _ (by omega)] at h; exact h
  have HR1 := hid hr1; have HX0 := hid hx0; have HF1 := hid hf1
  clear hz hfm hr1 hx0 hf1
  go_wp2
  go_ret
  exact ⟨k, rfl, (Below.refl _ _).alloc (Nat.le_refl _) _, hk1, (HR.out.take hk).congr HR1.out, HX0.out, HF1.out⟩

theorem vd_cons (f : Nat → Int) (m i : Nat) : vd (sh f m) (i + 1) = f m + 4294967296 * vd (sh f (m + 1)) i := by
  rw [Nat.add_comm i 1, vd_split (sh f m) 1 i, sh_sh]
  have e1 : vd (sh f m) 1 = f m := by simp [vd, pd, sh]
  have e2 : pd 1 = 4294967296 := by simp [pd]
  rw [e1, e2]; omega
theorem short_step {f q q' : Nat → Int} {k i : Nat} {r wd : Int} (HV : vd (sh f (k + 1)) i = vd (sh q (k + 1)) i * wd + r) (hq : ∀ j, k < j → q' j = q j) (hk : q' k = (r * 4294967296 + f k) / wd) :
    vd (sh f k) (i + 1) = vd (sh q' k) (i + 1) * wd + (r * 4294967296 + f k) % wd := by
  have e1 : vd (sh q' (k + 1)) i = vd (sh q (k + 1)) i := vd_congr (fun j hj => hq _ (by omega))
  rw [vd_cons, vd_cons, e1, HV, hk]
  have e2 := Int.mul_ediv_add_emod (r * 4294967296 + f k) wd
  generalize (r * 4294967296 + f k) / wd = Q at *
  generalize (r * 4294967296 + f k) % wd = R at *
  grind

set_option maxRecDepth 100000 in
set_option maxHeartbeats 1000000 in
theorem short_c (ao : Option Addr) (n cap : Nat) (f : Nat → Int) (wd : Int) (w : World) (hn : n ≤ 1048576) (hr : Rd .u64 w ao n f) (hf : Dg f n) (w0 : 0 < wd) (w1 : wd < 4294967296) :
    Calls Tryz.prog 101 #[.slice ao n cap, .int .u64 wd] w fun e w' => ∃ a1 k1 c1 q a2 k2 c2 R, e = .returned (.tuple #[.slice a1 k1 c1, .slice a2 k2 c2]) ∧ Below w.heap.size w w' ∧ k1 ≤ n ∧ Rd .u64 w' a1 k1 q ∧ Dg q k1 ∧ Fm q k1 ∧ k2 ≤ 1 ∧ Rd .u64 w' a2 k2 (fun _ => R) ∧ (k2 = 0 → R = 0) ∧ Fm (fun _ => R) k2 ∧ 0 ≤ R ∧ R < wd ∧ vd f n = vd q k1 * wd + R := by
  have HR := hid hr
  have HF := hid hf
  clear hr hf
  go_enter Tryz.func101, Tryz.ntmps101
  go_wp2_with (at_make; refine wpList_make_blk .u64 w rfl (.tmp 10) (.tmp 10) 23 rfl 74 8 Tryz.underlying23 Tryz.infoU64 .i64 .i64 n n n rfl rfl rfl rfl (by omega) (by unfold maxLen; omega) ?_; intro wa hba hbela)
  go_loopw [7, 8] (fun c t wr => ∃ (i : Nat) (r : Int) (Q : Nat → Int), i ≤ n ∧ t = .int .i64 ((i : Int) - 1) ∧ c = .int .u64 r ∧ 0 ≤ r ∧ r < wd ∧ Below w.heap.size w wr ∧ Blk .u64 74 wr w.heap.size n Q ∧ Hid (Dg Q n) ∧ Hid (vd (sh f i) (n - i) = vd (sh Q i) (n - i) * wd + r)) (fun _ t _ => (intOf t + 1).toNat)
  case atStart => exact ⟨n, 0, fun _ => 0, by omega, rfl, rfl, by omega, w0, hbela, hba, fun j _ => ⟨Int.le_refl 0, show (0 : Int) < 4294967296 by decide⟩, by simp [Hid, vd]⟩
  case round =>
    clear hba hbela
    obtain ⟨i, r, Q, hi, rfl, rfl, r0, r1, hbel, hbl, HL, HV⟩ := hrel
    cases i with
    | zero =>
      go_wp2_with fail
      refine (low_c (some ⟨w.heap.size, 0, none⟩) n n Q wr (Nat.le_refl _) (by omega) (hbl.rd0 (Nat.le_refl _)) (fun h => by cases h)).mono ?_
      rintro e w2 ⟨rfl, k1, hk1, hz, hfm, rfl⟩
      have HZ := hid hz; have HFM := hid hfm
      clear hz hfm
      go_wp2_with fail
      refine (word_c r _ r0 (by omega)).mono ?_
      rintro e w3 ⟨k2, rfl, hbel3, hk2, hr2, hx2, hf2⟩
      have HB3 := hid hbel3; have HR2 := hid hr2; have HX2 := hid hx2; have HF2 := hid hf2
      clear hbel3 hr2 hx2 hf2
      go_wp2
      go_ret2
      have v := HV.out
      rw [sh_zero, sh_zero, Nat.sub_zero] at v
      refine ⟨_, k1, n, Q, _, k2, 2, r, rfl, hbel.trans (HB3.out.mono hbel.size), hk1, ((hbl.rd0 (Nat.le_refl _)).take hk1).below HB3.out (Nat.le_refl _), HL.out.mono hk1, HFM.out, hk2, HR2.out, HX2.out, HF2.out, r0, r1, ?_⟩
      rw [trim_vald hk1 HZ.out]; exact v
    | succ k =>
      have hr := HR.out
      obtain ⟨b, o, rfl⟩ := hr.at (by omega)
      obtain ⟨x, hx⟩ : ∃ x, f k = x := ⟨_, rfl⟩
      have hcell : wr.cell? ⟨b, o + k, none⟩ = some (.int .u64 x) := by rw [← hx]; exact (hr.below hbel (Nat.le_refl _)).cell (by omega)
      have hcelq := hbl.cell (j := k) (by omega)
      have hfz := hbl.frozen k
      obtain ⟨x0, x1⟩ := HF.out k (by omega)
      rw [hx] at x0 x1
      obtain ⟨q, hq⟩ : ∃ q, (r * 4294967296 + x) / wd = q := ⟨_, rfl⟩
      obtain ⟨R, hR⟩ : ∃ R, (r * 4294967296 + x) % wd = R := ⟨_, rfl⟩
      have hR0 : 0 ≤ R := by rw [← hR]; exact Int.emod_nonneg _ (by omega)
      have hR1 : R < wd := by rw [← hR]; exact Int.emod_lt_of_pos _ w0
      have hq0 : 0 ≤ q := by rw [← hq]; exact Int.ediv_nonneg (by omega) (by omega)
      have hq1 : q < 4294967296 := by
        rw [← hq]
        apply Int.ediv_lt_of_lt_mul w0
        omega
      have hst := short_step (q' := upd Q k q) (k := k) (i := n - (k + 1)) HV.out (fun j hj => upd_other _ _ _ _ (by omega)) (by rw [upd_same, hx, hq])
      rw [hx, hR] at hst
      have HX := hid hx; have HSt := hid hst
      clear hx hst hr
      have hwd : ¬ (wd = 0) := by omega
      have hwdb : (wd == 0) = false := by simp; omega
      go_wp2
      go_roundw
      case rel =>
        refine ⟨k, R, upd Q k q, by omega, by go_num, (by rw [hR]), hR0, hR1, below_only hbel ((Only.refl _ _).setCell _ _ _) (Nat.le_refl _) hbel.size, hbl.set _ _, HL.out.upd ⟨hq0, hq1⟩, ?_⟩
        have e : n - k = n - (k + 1) + 1 := by omega
        show _ = _
        rw [e]; exact HSt.out
      case measure => simp [intOf]
end Go.Proofs.YthofcgpghbaccaaGreat
namespace Go.Proofs.YthofcgpghbaccaaGreat
open Go.RowKit

/-- What Same answers. -/
def SameAns (b s t : Bool) (n m : Nat) (f g : Nat → Int) : Prop := b = true ↔ s = t ∧ Alk n m f g
/-- One whole number has one form. -/
theorem wv_inj {s t : Bool} {n m : Nat} {f g : Nat → Int} (hf : Lm f n) (hg : Lm g m) (wf : wfB s f n = true) (wg : wfB t g m = true) (hv : wv s f n = wv t g m) : s = t ∧ Alk n m f g := by
  have h1 := vf_nonneg hf; have h2 := vf_nonneg hg
  have f1 := fm_of_wfB wf; have f2 := fm_of_wfB wg
  have p1 : s = true → 0 < vf f n := fun h => vf_pos hf f1 (sgn_of_wfB wf h)
  have p2 : t = true → 0 < vf g m := fun h => vf_pos hg f2 (sgn_of_wfB wg h)
  cases s <;> cases t <;> simp only [wv_false, wv_true] at hv
  · exact ⟨rfl, vf_inj hf hg f1 f2 hv⟩
  · have := p2 rfl; omega
  · have := p1 rfl; omega
  · exact ⟨rfl, vf_inj hf hg f1 f2 (by omega)⟩
set_option maxHeartbeats 1000000 in
/-- Word: the digits of a limb. -/
theorem word2_c (x : Int) (w : World) (x0 : 0 ≤ x) (x1 : x < 18446744073709551616) :
    Calls Tryz.prog 92 #[.int .u64 x] w fun e w' => ∃ k cap, e = .returned (.slice (some ⟨w.heap.size, 0, none⟩) k cap) ∧ Below w.heap.size w w' ∧ k ≤ 2 ∧ Rd .u64 w' (some ⟨w.heap.size, 0, none⟩) k (two32 x) ∧ Dg (two32 x) k ∧ Fm (two32 x) k ∧ vd (two32 x) k = x := by
  have hr := rd_new2 w 74 x
  have HR := hid hr
  clear hr
  go_enter Tryz.func92, Tryz.ntmps92
  go_wp2_with fail
  refine (low_c (some ⟨w.heap.size, 0, none⟩) 2 2 (two32 x) _ (by omega) (by omega) HR.out (fun h => by cases h)).mono ?_
  rintro e w1 ⟨rfl, k, hk, hz, hfm, rfl⟩
  have hdg : Dg (two32 x) k := fun j hj => by
    unfold two32
    split <;> omega
  have hv2 : vd (two32 x) 2 = x := by simp [vd, pd, two32]; omega
  have hv : vd (two32 x) k = x := (vd_ext hk hz).symm.trans hv2
  have HD := hid hdg; have HF := hid hfm; have HV := hid hv; have HRk := hid (HR.out.take hk)
  clear hdg hfm hv hv2 hz
  go_wp2
  go_ret
  exact ⟨k, 2, rfl, below_alloc (Below.refl _ _) _, hk, HRk.out, HD.out, HF.out, HV.out⟩

/-- A whole number of the reference: sign and digits. -/
structure ZRes (C : Nat) (w w' : World) (s : Bool) (ao : Option Addr) (n : Nat) (d : Nat → Int) (z : Int) : Prop where
  bel : Below w.heap.size w w'
  rd : Rd .u64 w' ao n d
  dg : Dg d n
  fm : Fm d n
  le : n ≤ C
  sgn : s = true → 0 < n
  val : (if s then - vd d n else vd d n) = z
  nil : ao = none → n = 0
def ZOne (C : Nat) (w w' : World) (e : Ending) (z : Int) : Prop := ∃ s ao n cap d, e = .returned (.agg #[.bool s, .slice ao n cap]) ∧ ZRes C w w' s ao n d z

theorem Rd.turned {k w w' ao n f} {lo hi : Nat} (h : Rd k w ao n f) (ht : Turned lo hi w w') (hu : ∀ a, ao = some a → a.block < lo ∨ hi ≤ a.block) : Rd k w' ao n f := fun j hj => by
  obtain ⟨b, o, e, hc⟩ := h j hj
  exact ⟨b, o, e, (World.cell?_of_block (ht.block b (World.block_lt_of_cell? w _ hc) (hu _ e))).trans hc⟩
/-- One box laid ahead of a call, as it reads behind it. -/
theorem boxes1 {w w1 : World} {c0 c1 : Value} {t : TypeId} (hb : Below (w.alloc (.cells #[c0, c1] t)).heap.size (w.alloc (.cells #[c0, c1] t)) w1) :
    (w.heap.size < w1.heap.size ∧ w1.cell? ⟨w.heap.size, 0, none⟩ = some c0 ∧ w1.cell? ⟨w.heap.size, 1, none⟩ = some c1) ∧ (∀ o, w1.frozen? ⟨w.heap.size, o, none⟩ = false) ∧ Below w.heap.size w w1 := by
  obtain ⟨h1, h2⟩ := bcell hb
  have hz := hb.size
  simp at hz
  refine ⟨⟨by omega, (h1 _ _ (by simp)).trans (by simp [go_sem]), (h1 _ _ (by simp)).trans (by simp [go_sem])⟩, fun o => (h2 _ _ (by simp)).trans (by
    have e := heap_alloc_new w (.cells #[c0, c1] t)
    simp only [World.frozen?, e]; simp), ?_⟩
  exact (below_alloc (Below.refl w.heap.size w) _).trans (hb.mono (by simp))
theorem keep1 {w w1 w2 : World} {c0 c1 : Value} (hb : Below w1.heap.size w1 w2) (h : w.heap.size < w1.heap.size ∧ w1.cell? ⟨w.heap.size, 0, none⟩ = some c0 ∧ w1.cell? ⟨w.heap.size, 1, none⟩ = some c1) (hf : ∀ o, w1.frozen? ⟨w.heap.size, o, none⟩ = false) (hw : Below w.heap.size w w1) :
    (w.heap.size < w2.heap.size ∧ w2.cell? ⟨w.heap.size, 0, none⟩ = some c0 ∧ w2.cell? ⟨w.heap.size, 1, none⟩ = some c1) ∧ (∀ o, w2.frozen? ⟨w.heap.size, o, none⟩ = false) ∧ Below w.heap.size w w2 := by
  obtain ⟨h1, h2⟩ := bcell hb
  have hz := hb.size
  obtain ⟨z, a, b⟩ := h
  exact ⟨⟨by omega, (h1 _ _ (by omega)).trans a, (h1 _ _ (by omega)).trans b⟩, fun o => (h2 _ _ (by omega)).trans (hf o), hw.trans (hb.mono hw.size)⟩

set_option maxHeartbeats 1000000 in
theorem zInt_c (z : Int) (w : World) (h0 : -9223372036854775808 ≤ z) (h1 : z ≤ 9223372036854775807) :
    Calls Tryz.prog 96 #[.int .i64 z] w fun e w' => ZOne 2 w w' e z := by
  by_cases hneg : z < 0
  · have hW : IntKind.u64.wrap (-(z + 1)) = -(z + 1) := by simp only [wrapU]; omega
    go_enter Tryz.func96, Tryz.ntmps96
    go_wp2_with fail
    rw [show -(z + 1) + 1 = -z by omega]
    refine (word2_c (-z) _ (by omega) (by omega)).mono ?_
    rintro e w1 ⟨k, cap, rfl, hb, hk, hr, hd, hf, hv⟩
    obtain ⟨⟨hz, z0, z1⟩, zf, hw⟩ := boxes1 hb
    have HW := hid hw; have HR := hid hr; have HD := hid hd; have HF := hid hf; have HV := hid hv
    have hk0 : Hid (0 < k) := by
      show 0 < k
      apply Nat.pos_of_ne_zero; intro hk0; subst hk0; simp [vd] at hv; omega
    clear hb hw hr hd hf hv
    go_wp2
    refine bodyPost_ret (v := .agg #[.bool true, .slice (some ⟨(w.alloc (.cells #[.bool false, .slice none 0 0] 61)).heap.size, 0, none⟩) k cap]) (by simp [results, Tryz.results96, go_sem, z0, z1]) rfl ⟨true, _, k, cap, two32 (-z), rfl, ?_⟩
    have hT := ((Turned.refl w.heap.size (w.heap.size + 1) w1).set (x := ⟨w.heap.size, 0, none⟩) (by first | omega | (simp; done) | (simp; omega)) (by first | omega | (simp; done) | (simp; omega)) (.bool true)).set (x := ⟨w.heap.size, 1, none⟩) (by first | omega | (simp; done) | (simp; omega)) (by first | omega | (simp; done) | (simp; omega)) (.slice (some ⟨w.heap.size + 1, 0, none⟩) k cap)
    refine ⟨below_turned HW.out HW.out.size (by simpa using hT) (Nat.le_refl _), HR.out.turned (by simpa using hT) (fun a ha => by cases ha; simp), HD.out, HF.out, hk, fun _ => hk0.out, ?_, fun h => by cases h⟩
    rw [if_pos rfl, HV.out]; omega
  · go_enter Tryz.func96, Tryz.ntmps96
    go_wp2_with fail
    refine (word2_c z _ (by omega) (by omega)).mono ?_
    rintro e w1 ⟨k, cap, rfl, hb, hk, hr, hd, hf, hv⟩
    obtain ⟨⟨hz, z0, z1⟩, zf, hw⟩ := boxes1 hb
    have HW := hid hw; have HR := hid hr; have HD := hid hd; have HF := hid hf; have HV := hid hv
    clear hb hw hr hd hf hv
    go_wp2
    refine bodyPost_ret (v := .agg #[.bool false, .slice (some ⟨(w.alloc (.cells #[.bool false, .slice none 0 0] 61)).heap.size, 0, none⟩) k cap]) (by simp [results, Tryz.results96, go_sem, z0, z1]) rfl ⟨false, _, k, cap, two32 z, rfl, ?_⟩
    have hT := ((Turned.refl w.heap.size (w.heap.size + 1) w1).set (x := ⟨w.heap.size, 0, none⟩) (by first | omega | (simp; done) | (simp; omega)) (by first | omega | (simp; done) | (simp; omega)) (.bool false)).set (x := ⟨w.heap.size, 1, none⟩) (by first | omega | (simp; done) | (simp; omega)) (by first | omega | (simp; done) | (simp; omega)) (.slice (some ⟨w.heap.size + 1, 0, none⟩) k cap)
    refine ⟨below_turned HW.out HW.out.size (by simpa using hT) (Nat.le_refl _), HR.out.turned (by simpa using hT) (fun a ha => by cases ha; simp), HD.out, HF.out, hk, (fun h => by cases h), ?_, (fun h => by cases h)⟩
    exact HV.out

theorem kI0 {w : World} {a : Addr} {v : Value} (h : w.cell? a = some v) : (w.cell? a).isSome = true := by rw [h]; rfl
/-- Two boxes of unlike types. -/
theorem boxes2' {w w1 : World} {a0 a1 c0 c1 : Value} {t u : TypeId} (hb : Below ((w.alloc (.cells #[a0, a1] t)).alloc (.cells #[c0, c1] u)).heap.size ((w.alloc (.cells #[a0, a1] t)).alloc (.cells #[c0, c1] u)) w1) :
    (w.heap.size + 1 < w1.heap.size ∧ w1.cell? ⟨w.heap.size, 0, none⟩ = some a0 ∧ w1.cell? ⟨w.heap.size, 1, none⟩ = some a1 ∧ w1.cell? ⟨w.heap.size + 1, 0, none⟩ = some c0 ∧ w1.cell? ⟨w.heap.size + 1, 1, none⟩ = some c1) ∧ (∀ o, w1.frozen? ⟨w.heap.size + 1, o, none⟩ = false) ∧ Below w.heap.size w w1 := by
  obtain ⟨h1, h2⟩ := bcell hb
  have hz := hb.size
  simp at hz
  refine ⟨⟨by omega, (h1 _ _ (by simp; omega)).trans (by simp [go_sem]), (h1 _ _ (by simp; omega)).trans (by simp [go_sem]), (h1 _ _ (by simp)).trans (by simp [go_sem]), (h1 _ _ (by simp)).trans (by simp [go_sem])⟩, fun o => (h2 _ _ (by simp)).trans (by
    have e := heap_alloc_new (w.alloc (.cells #[a0, a1] t)) (.cells #[c0, c1] u)
    rw [size_alloc1] at e
    simp only [World.frozen?, e]; simp), ?_⟩
  exact (below_alloc (below_alloc (Below.refl w.heap.size w) _) _).trans (hb.mono (by simp; omega))

end Go.Proofs.YthofcgpghbaccaaGreat
namespace Go.Proofs.YthofcgpghbaccaaGreat
open Go.RowKit

/-- The string has the bytes b, L of them. -/
def Sb (s : ByteArray) (L : Nat) (b : Nat → Nat) : Prop := s.size = L ∧ ∀ k (h : k < s.size), (s[k]'h).toNat = b k
/-- All are decimal digits. -/
def Dig (b : Nat → Nat) (L : Nat) : Prop := ∀ k, k < L → 48 ≤ b k ∧ b k ≤ 57
/-- The number that the first n digits tell. -/
def dn (b : Nat → Nat) : Nat → Nat | 0 => 0 | n + 1 => dn b n * 10 + (b n - 48)
def bsh (b : Nat → Nat) (i : Nat) : Nat → Nat := fun k => b (i + k)
theorem dn_split (b : Nat → Nat) (i n : Nat) : dn b (i + n) = dn b i * 10 ^ n + dn (bsh b i) n := by
  induction n with
  | zero => simp [dn]
  | succ n ih =>
    show dn b (i + n) * 10 + (b (i + n) - 48) = dn b i * 10 ^ (n + 1) + (dn (bsh b i) n * 10 + (b (i + n) - 48))
    rw [ih, Nat.pow_succ]
    grind
theorem dn_lt {b : Nat → Nat} {n : Nat} (h : Dig b n) : dn b n < 10 ^ n := by
  induction n with
  | zero => simp [dn]
  | succ n ih =>
    have h1 := ih (fun k hk => h k (by omega))
    have h2 := h n (by omega)
    show dn b n * 10 + (b n - 48) < 10 ^ (n + 1)
    rw [Nat.pow_succ]; omega
theorem Dig.mono {b L L'} (h : Dig b L) (hl : L' ≤ L) : Dig b L' := fun k hk => h k (by omega)
theorem Dig.bsh {b L i n} (h : Dig b L) (hl : i + n ≤ L) : Dig (bsh b i) n := fun k hk => h (i + k) (by omega)
theorem Sb.take {s L b} (h : Sb s L b) {c : Nat} (hc : c ≤ L) : Sb (s.extract 0 c) c b := by
  obtain ⟨h1, h2⟩ := h
  refine ⟨by simp; omega, fun k hk => ?_⟩
  have hk' : k < c := by simp at hk; omega
  have := h2 k (by omega)
  rw [← this, ByteArray.getElem_extract]
  simp
theorem Sb.drop {s L b} (h : Sb s L b) {c : Nat} (hc : c ≤ L) : Sb (s.extract c L) (L - c) (bsh b c) := by
  obtain ⟨h1, h2⟩ := h
  refine ⟨by simp; omega, fun k hk => ?_⟩
  have hk' : k < L - c := by simp at hk; omega
  have := h2 (c + k) (by omega)
  show _ = b (c + k)
  rw [← this, ByteArray.getElem_extract]

/-- isNumber, told. -/
def IsNum (b : Nat → Nat) (L : Nat) : Prop := Dig b L ∧ 0 < L ∧ (L = 1 ∨ b 0 ≠ 48)
def digB (b : Nat → Nat) : Nat → Bool | 0 => true | n + 1 => digB b n && (decide (48 ≤ b n) && decide (b n ≤ 57))
theorem digB_iff (b : Nat → Nat) (L : Nat) : digB b L = true ↔ Dig b L := by
  induction L with
  | zero => exact ⟨fun _ k hk => by omega, fun _ => rfl⟩
  | succ n ih =>
    simp only [digB, Bool.and_eq_true, decide_eq_true_eq, ih]
    constructor
    · rintro ⟨h, h1, h2⟩ k hk
      by_cases hkn : k = n
      · subst hkn; exact ⟨h1, h2⟩
      · exact h k (by omega)
    · exact fun h => ⟨fun k hk => h k (by omega), h n (by omega)⟩
def numB (b : Nat → Nat) (L : Nat) : Bool := digB b L && (decide (0 < L) && (decide (L = 1) || !decide (b 0 = 48)))
theorem numB_iff (b : Nat → Nat) (L : Nat) : numB b L = true ↔ IsNum b L := by
  simp [numB, IsNum, digB_iff]
theorem numB_true {b : Nat → Nat} {L : Nat} (h : IsNum b L) : numB b L = true := (numB_iff b L).2 h
theorem numB_false {b : Nat → Nat} {L : Nat} (h : ¬ IsNum b L) : numB b L = false := by
  cases hn : numB b L
  · rfl
  · exact absurd ((numB_iff b L).1 hn) h

theorem sb_eq {s t : ByteArray} {L : Nat} {b : Nat → Nat} (hs : Sb s L b) (ht : Sb t L b) : s = t := by
  obtain ⟨h1, h2⟩ := hs
  obtain ⟨h3, h4⟩ := ht
  apply ByteArray.ext_getElem (by omega)
  intro i hi hj
  apply UInt8.toNat_inj.1
  rw [h2 i hi, h4 i hj]
theorem sb_zero {s : ByteArray} {b : Nat → Nat} (hs : Sb s 1 b) (h : b 0 = 48) : s = ⟨#[48]⟩ := by
  refine sb_eq hs ⟨rfl, fun k hk => ?_⟩
  obtain rfl : k = 0 := by have : (ByteArray.mk #[48]).size = 1 := rfl
                           omega
  rw [h]; rfl
theorem toList_ne {s t : ByteArray} (h : s ≠ t) : (s.toList == t.toList) = false := by
  simp only [ByteArray.toList_eq, beq_eq_false_iff_ne]
  intro he
  exact h (ByteArray.ext (Array.toList_inj.1 he))
theorem toList_isE {s : ByteArray} (h : s.size ≠ 0) : s.toList.isEmpty = false := by
  rw [ByteArray.toList_eq]
  have : s.data.size ≠ 0 := h
  cases hl : s.data.toList with
  | nil => exact absurd (by rw [← Array.length_toList, hl]; rfl) this
  | cons a l => rfl

end Go.Proofs.YthofcgpghbaccaaGreat
namespace Go.Proofs.YthofcgpghbaccaaGreat
open Go.RowKit

theorem Sb.mid {s L b} (h : Sb s L b) {i j : Nat} (hij : i ≤ j) (hj : j ≤ L) : Sb (s.extract i j) (j - i) (bsh b i) := by
  obtain ⟨h1, h2⟩ := h
  refine ⟨by simp; omega, fun k hk => ?_⟩
  have hk' : k < j - i := by simp at hk; omega
  have := h2 (i + k) (by omega)
  show _ = b (i + k)
  rw [← this, ByteArray.getElem_extract]
theorem Sb.app {s t L M b c} (hs : Sb s L b) (ht : Sb t M c) : Sb (s ++ t) (L + M) (fun k => if k < L then b k else c (k - L)) := by
  obtain ⟨h1, h2⟩ := hs
  obtain ⟨h3, h4⟩ := ht
  refine ⟨by simp; omega, fun k hk => ?_⟩
  simp only [ByteArray.size_append] at hk
  show _ = if k < L then b k else c (k - L)
  by_cases h : k < L
  · rw [if_pos h, ← h2 k (by omega), ByteArray.getElem_append_left (by omega)]
  · rw [if_neg h, ← h4 (k - L) (by omega), ByteArray.getElem_append_right (by omega)]
    simp only [h1]
theorem Sb.congr {s L b c} (h : Sb s L b) (he : ∀ k, k < L → b k = c k) : Sb s L c := ⟨h.1, fun k hk => by rw [h.2 k hk, he k (by have := h.1; omega)]⟩
theorem sb_digits : Sb ⟨#[48, 49, 50, 51, 52, 53, 54, 55, 56, 57]⟩ 10 (fun k => 48 + k) := by
  refine ⟨rfl, fun k hk => ?_⟩
  have : k < 10 := hk
  have : ∀ k : Fin 10, ((ByteArray.mk #[48, 49, 50, 51, 52, 53, 54, 55, 56, 57])[k.1]'(k.2)).toNat = 48 + k.1 := by decide
  exact this ⟨k, hk⟩
/-- The digit of V at place e, as a byte. -/
def dg8 (V e : Nat) : Nat := 48 + V / 10 ^ e % 10
/-- The string holds the last m digits of V. -/
def Low10 (s : ByteArray) (V m : Nat) : Prop := Sb s m (fun k => dg8 V (m - 1 - k))
theorem sb_nil (b : Nat → Nat) : Sb ⟨#[]⟩ 0 b := by
  refine ⟨rfl, fun k hk => absurd hk ?_⟩
  have : (ByteArray.mk #[]).size = 0 := rfl
  omega
theorem low_nil (V : Nat) : Low10 ⟨#[]⟩ V 0 := sb_nil _
theorem sb_dec (V : Nat) : Sb ⟨(Lib.decDigits V).toArray⟩ (Lib.nDigits V) (fun k => dg8 V (Lib.nDigits V - 1 - k)) := by
  refine ⟨by show (Lib.decDigits V).toArray.size = _; simp [Lib.decDigits_length], fun k hk => ?_⟩
  have hk' : k < Lib.nDigits V := by
    have : (ByteArray.mk (Lib.decDigits V).toArray).size = Lib.nDigits V := by show (Lib.decDigits V).toArray.size = _; simp [Lib.decDigits_length]
    omega
  have h := byt_dec V k hk'
  unfold byt dgi at h
  rw [List.getD_eq_getElem?_getD, List.getElem?_eq_getElem (by rw [Lib.decDigits_length]; exact hk')] at h
  simp only [Option.getD_some] at h
  show ((Lib.decDigits V).toArray[k]'_).toNat = 48 + V / 10 ^ (Lib.nDigits V - 1 - k) % 10
  simp only [List.getElem_toArray]
  omega
/-- A digit put in front. -/
theorem Sb.front {p : ByteArray} {b : Nat → Nat} {i d : Nat} (h : Sb p i b) (hd : d < 10) : Sb ((ByteArray.mk #[48, 49, 50, 51, 52, 53, 54, 55, 56, 57]).extract d (d + 1) ++ p) (i + 1) (fun k => if k = 0 then 48 + d else b (k - 1)) := by
  have := (sb_digits.mid (i := d) (j := d + 1) (by omega) (by omega)).app h
  rw [show d + 1 - d = 1 by omega, Nat.add_comm 1 i] at this
  refine this.congr (fun k hk => ?_)
  by_cases h0 : k = 0
  · subst h0; simp [bsh]
  · rw [if_neg (by omega), if_neg h0]

theorem dig_low (Q R i : Nat) (hi : i < 9) : (Q * 1000000000 + R) / 10 ^ i % 10 = R / 10 ^ i % 10 := by
  rcases (show i = 0 ∨ i = 1 ∨ i = 2 ∨ i = 3 ∨ i = 4 ∨ i = 5 ∨ i = 6 ∨ i = 7 ∨ i = 8 by omega) with rfl | rfl | rfl | rfl | rfl | rfl | rfl | rfl | rfl <;> simp only [Nat.reducePow] <;> omega
/-- One round of the text. -/
theorem text_step {q : Nat → Int} {V m i k1 Qn Rn nn n : Nat} (hq : vd q k1 = (Qn : Int)) (h1 : 0 < k1 → 0 < Qn) (h2 : k1 = 0 → Qn = 0) (hA : V / 10 ^ m = Qn * 1000000000 + Rn) (hpos : 0 < V / 10 ^ m) (hB : V < 10 ^ (10 * n)) (hR : Rn < 1000000000) (hn : nn = Rn / 10 ^ i) (hI : i = 0 ∨ 0 < Qn ∨ 0 < Rn / 10 ^ (i - 1)) (hex : i = 9 ∨ k1 = 0 ∧ nn = 0) :
    vd q k1 = (V / 10 ^ (m + i) : Nat) ∧ (k1 = 0 → m + i = Lib.nDigits V) ∧ m + i ≤ 10 * n ∧ V / 10 ^ (m + i) < V / 10 ^ m := by
  have hVQ : V / 10 ^ (m + i) = Qn := by
    rw [Nat.pow_add, ← Nat.div_div_eq_div_mul, hA]
    rcases hex with rfl | ⟨hk, hz⟩
    · simp only [Nat.reducePow]; omega
    · have := h2 hk
      subst this
      rw [hn] at hz
      simpa using hz
  have hend : k1 = 0 → m + i = Lib.nDigits V := by
    intro hk
    have hQ := h2 hk
    subst hQ
    have hRp : 0 < Rn := by omega
    have hi0 : i ≠ 0 := by
      rintro rfl
      rcases hex with h | ⟨_, hz⟩
      · omega
      · rw [hn] at hz; simp at hz; omega
    have hR1 : 0 < Rn / 10 ^ (i - 1) := by
      rcases hI with h | h | h
      · omega
      · omega
      · exact h
    have e1 : V / 10 ^ (m + i - 1) = Rn / 10 ^ (i - 1) := by
      rw [show m + i - 1 = m + (i - 1) by omega, Nat.pow_add, ← Nat.div_div_eq_div_mul, hA]; simp
    have l1 : 10 ^ (m + i - 1) ≤ V := by
      apply Nat.le_of_not_lt; intro hlt
      rw [Nat.div_eq_of_lt hlt] at e1; omega
    have l2 : V < 10 ^ (m + i) := by
      apply Nat.lt_of_not_le; intro hle
      have := Nat.div_pos hle (Nat.pow_pos (n := m + i) (by decide : 0 < 10)); omega
    have := Lib.nDigits_unique (m + i - 1) V l1 (by rw [show m + i - 1 + 1 = m + i by omega]; exact l2)
    omega
  refine ⟨by rw [hVQ]; exact hq, hend, ?_, ?_⟩
  · by_cases hk : k1 = 0
    · rw [hend hk]
      by_cases h10 : 1 ≤ 10 * n
      · exact nDigits_le hB h10
      · have : 10 * n = 0 := by omega
        rw [this] at hB
        simp at hB
        subst hB
        simp at hpos
    · have hp : 10 ^ (m + i) ≤ V := by
        apply Nat.le_of_not_lt; intro hlt
        rw [Nat.div_eq_of_lt hlt] at hVQ
        have := h1 (by omega); omega
      have : 10 ^ (m + i) < 10 ^ (10 * n) := Nat.lt_of_le_of_lt hp hB
      exact Nat.le_of_lt ((Nat.pow_lt_pow_iff_right (by decide)).1 this)
  · rw [hVQ, hA]; rw [hA] at hpos; omega
theorem low_app {p s : ByteArray} {V m i : Nat} (hp : Sb p i (fun k => dg8 V (m + i - 1 - k))) (hs : Low10 s V m) : Low10 (p ++ s) V (m + i) := by
  have := hp.app hs
  rw [Nat.add_comm i m] at this
  refine this.congr (fun k hk => ?_)
  by_cases h : k < i
  · rw [if_pos h]
  · rw [if_neg h]; congr 1; omega
theorem vd_pos_iff {q : Nat → Int} {k Q : Nat} (hd : Dg q k) (hf : Fm q k) (hv : vd q k = (Q : Int)) : 0 < k → 0 < Q := fun h => by
  have := vd_form_ge hd hf h; have := pd_pos (k - 1); omega
theorem vd_zero_of {q : Nat → Int} {k Q : Nat} (hv : vd q k = (Q : Int)) (h : k = 0) : Q = 0 := by subst h; simp [vd] at hv; omega

end Go.Proofs.YthofcgpghbaccaaGreat
namespace Go.Proofs.YthofcgpghbaccaaGreat
open Go.RowKit

set_option maxRecDepth 100000 in
set_option maxHeartbeats 2000000 in
/-- Sub: the difference, on digits. -/
theorem rsubO_c (ao bo : Option Addr) (n m ca cb : Nat) (f h : Nat → Int) (w : World) (hn : n ≤ 1048576) (hm : m ≤ 1048576) (hmn : m ≤ n) (hr : Rd .u64 w ao n f) (hs : Rd .u64 w bo m h) (hf : Dg f n) (hh : Dg h m) (hle : vd h m ≤ vd f n) :
    Calls Tryz.prog 89 #[.slice ao n ca, .slice bo m cb] w fun e w' => ∃ ao' k cap' D, e = .returned (.slice ao' k cap') ∧ Below w.heap.size w w' ∧ Rd .u64 w' ao' k D ∧ k ≤ n ∧ Dg D k ∧ Fm D k ∧ (∀ a, ao' = some a → w.heap.size ≤ a.block) ∧ vd D k = vd f n - vd h m := by
  obtain ⟨i0, hi, hz0, hz1, hz2⟩ := info_parts Tryz.infoU64
  have RA := hid hr
  have RB := hid hs
  have DA := hid hf
  have DB := hid hh
  have HLe := hid hle
  clear hr hs hf hh hle
  go_enter Tryz.func89, Tryz.ntmps89
  go_wp2_with (at_make; refine wpList_make_own w rfl (.const (.int .i64 0)) (.tmp 11) 23 rfl w.heap.size 74 i0 (.int .u64 0) 1 Tryz.underlying23 hi hz0 hz1 .i64 .i64 n n rfl rfl (by omega) (by rw [hz2]; omega) (by unfold maxLen; omega) (Nat.le_refl _) ?_; intro w1 hown1 hgr1)
  have hb1 : Below w.heap.size w w1 := (Below.refl _ _).grown hgr1 (Nat.le_refl _) (fun k h => by cases h)
  have HO1 := hid (show Own .u64 74 w1 w.heap.size (.slice (some ⟨w.heap.size, 0, none⟩) 0 n) 0 (fun _ => 0) from hown1)
  clear hown1 hgr1
  go_loopw [5, 6, 15] (fun v c t wr => ∃ (k : Nat) (cc : Int) (D : Nat → Int), k ≤ n ∧ t = .int .i64 k ∧ c = .int .u64 cc ∧ 0 ≤ cc ∧ cc ≤ 1 ∧ Below w.heap.size w wr ∧ Hid (Own .u64 74 wr w.heap.size v k D) ∧ Hid (Dg D k) ∧ Hid (vd D k - cc * pd k = vd f k - vd (ext h m) k)) (fun _ _ t _ => n - (intOf t).toNat)
  case atStart => exact ⟨0, 0, fun _ => 0, by omega, rfl, rfl, by omega, by omega, hb1, HO1.out, fun j hj => by omega, by simp [Hid, vd, pd]⟩
  case round =>
    clear hb1 HO1
    obtain ⟨k, cc, D, hk, rfl, rfl, c0, c1, hbel, HO, HDg, HV⟩ := hrel
    by_cases hlt : k < n
    · have hrA := RA.out
      obtain ⟨b, o, rfl⟩ := hrA.at (by omega)
      obtain ⟨x, hx⟩ : ∃ x, f k = x := ⟨_, rfl⟩
      have hcell : wr.cell? ⟨b, o + k, none⟩ = some (.int .u64 x) := by rw [← hx]; exact (hrA.below hbel (Nat.le_refl _)).cell hlt
      obtain ⟨x0, x1⟩ := DA.out k hlt
      rw [hx] at x0 x1
      have HX := hid hx
      clear hx hrA
      by_cases hlt2 : k < m
      · have hrB := RB.out
        obtain ⟨b', o', rfl⟩ := hrB.at (by omega)
        obtain ⟨y, hy⟩ : ∃ y, h k = y := ⟨_, rfl⟩
        have hcelb : wr.cell? ⟨b', o' + k, none⟩ = some (.int .u64 y) := by rw [← hy]; exact (hrB.below hbel (Nat.le_refl _)).cell hlt2
        obtain ⟨y0, y1⟩ := DB.out k hlt2
        rw [hy] at y0 y1
        have HY := hid (show ext h m k = y from (ext_in _ _ _ hlt2).trans hy)
        clear hy hrB
        by_cases hxy : x < cc + y
        · go_wp2_with (at_builtin; refine wpList_append_own_list .u64 _ rfl (.tmp 36) (.tmp 40) 23 rfl w.heap.size 74 8 Tryz.underlying23 Tryz.infoU64 _ k D rfl (Own.alloc HO.out _) wr.heap.size 0 1 1 (fun _ => x + 4294967296 - (cc + y)) rfl (rd_new1 wr _ _) ?c1 ?c2 ?c3 ?_)
          case c1 => unfold maxLen; omega
          case c2 => omega
          case c3 => have := hbel.size; simp; omega
          intro v' w' hown hgr
          have hbel2 : Below w.heap.size w w' := (hbel.alloc hbel.size _).grown hgr (by have := hbel.size; simp; omega) (fun k h => (Own.ge HO.out k h))
          have HO2 := hid hown
          clear hown hgr HO
          go_wp2
          go_roundw
          case rel => exact ⟨k + 1, 1, _, by omega, by go_num, rfl, by omega, by omega, hbel2, HO2.out, dg_cat1 HDg.out (by omega), dborrow_step HV.out HX.out HY.out (by omega)⟩
          case measure => simp [intOf]; omega
        · go_wp2_with (at_builtin; refine wpList_append_own_list .u64 _ rfl (.tmp 36) (.tmp 40) 23 rfl w.heap.size 74 8 Tryz.underlying23 Tryz.infoU64 _ k D rfl (Own.alloc HO.out _) wr.heap.size 0 1 1 (fun _ => x - (cc + y)) rfl (rd_new1 wr _ _) ?c1 ?c2 ?c3 ?_)
          case c1 => unfold maxLen; omega
          case c2 => omega
          case c3 => have := hbel.size; simp; omega
          intro v' w' hown hgr
          have hbel2 : Below w.heap.size w w' := (hbel.alloc hbel.size _).grown hgr (by have := hbel.size; simp; omega) (fun k h => (Own.ge HO.out k h))
          have HO2 := hid hown
          clear hown hgr HO
          go_wp2
          go_roundw
          case rel => exact ⟨k + 1, 0, _, by omega, by go_num, rfl, by omega, by omega, hbel2, HO2.out, dg_cat1 HDg.out (by omega), dborrow_step HV.out HX.out HY.out (by omega)⟩
          case measure => simp [intOf]; omega
      · have HY := hid (show ext h m k = 0 from ext_out _ _ _ (by omega))
        by_cases hxy : x < cc
        · go_wp2_with (at_builtin; refine wpList_append_own_list .u64 _ rfl (.tmp 36) (.tmp 40) 23 rfl w.heap.size 74 8 Tryz.underlying23 Tryz.infoU64 _ k D rfl (Own.alloc HO.out _) wr.heap.size 0 1 1 (fun _ => x + 4294967296 - cc) rfl (rd_new1 wr _ _) ?c1 ?c2 ?c3 ?_)
          case c1 => unfold maxLen; omega
          case c2 => omega
          case c3 => have := hbel.size; simp; omega
          intro v' w' hown hgr
          have hbel2 : Below w.heap.size w w' := (hbel.alloc hbel.size _).grown hgr (by have := hbel.size; simp; omega) (fun k h => (Own.ge HO.out k h))
          have HO2 := hid hown
          clear hown hgr HO
          go_wp2
          go_roundw
          case rel => exact ⟨k + 1, 1, _, by omega, by go_num, rfl, by omega, by omega, hbel2, HO2.out, dg_cat1 HDg.out (by omega), dborrow_step HV.out HX.out HY.out (by omega)⟩
          case measure => simp [intOf]; omega
        · go_wp2_with (at_builtin; refine wpList_append_own_list .u64 _ rfl (.tmp 36) (.tmp 40) 23 rfl w.heap.size 74 8 Tryz.underlying23 Tryz.infoU64 _ k D rfl (Own.alloc HO.out _) wr.heap.size 0 1 1 (fun _ => x - cc) rfl (rd_new1 wr _ _) ?c1 ?c2 ?c3 ?_)
          case c1 => unfold maxLen; omega
          case c2 => omega
          case c3 => have := hbel.size; simp; omega
          intro v' w' hown hgr
          have hbel2 : Below w.heap.size w w' := (hbel.alloc hbel.size _).grown hgr (by have := hbel.size; simp; omega) (fun k h => (Own.ge HO.out k h))
          have HO2 := hid hown
          clear hown hgr HO
          go_wp2
          go_roundw
          case rel => exact ⟨k + 1, 0, _, by omega, by go_num, rfl, by omega, by omega, hbel2, HO2.out, dg_cat1 HDg.out (by omega), dborrow_step HV.out HX.out HY.out (by omega)⟩
          case measure => simp [intOf]; omega
    · have hkn : k = n := by omega
      subst hkn
      obtain ⟨ao', cap', hv, hcc, hnn, hml, hrd, hlt3⟩ := HO.out.shape
      unfold maxLen at hml
      subst hv
      have HLT := hid hlt3
      clear HO hlt3
      go_wp2_with fail
      refine (low_c ao' k cap' D wr hcc hml hrd hnn).mono ?_
      rintro e w2 ⟨rfl, m', hm1, hz, hfm, rfl⟩
      have HZ := hid hz
      have HFM := hid hfm
      clear hz hfm
      go_wp2
      go_ret
      refine ⟨ao', m', cap', _, rfl, hbel, hrd.take hm1, by omega, HDg.out.mono hm1, HFM.out, fun a ha => (HLT.out a ha).1, ?_⟩
      have hv := HV.out
      have h1 := vd_lt HDg.out
      have h2 := HLe.out
      rw [vd_ext_list _ _ _ hmn] at hv
      rw [trim_vald hm1 HZ.out]
      by_cases hc : cc = 0
      · subst hc; simpa using hv
      · obtain rfl : cc = 1 := by omega
        omega

/-- The same, without the place. -/
theorem rsub_c (ao bo : Option Addr) (n m ca cb : Nat) (f h : Nat → Int) (w : World) (hn : n ≤ 1048576) (hm : m ≤ 1048576) (hmn : m ≤ n) (hr : Rd .u64 w ao n f) (hs : Rd .u64 w bo m h) (hf : Dg f n) (hh : Dg h m) (hle : vd h m ≤ vd f n) :
    Calls Tryz.prog 89 #[.slice ao n ca, .slice bo m cb] w fun e w' => ∃ ao' k cap' D, e = .returned (.slice ao' k cap') ∧ Below w.heap.size w w' ∧ Rd .u64 w' ao' k D ∧ k ≤ n ∧ Dg D k ∧ Fm D k ∧ vd D k = vd f n - vd h m :=
  (rsubO_c ao bo n m ca cb f h w hn hm hmn hr hs hf hh hle).mono (fun _ _ ⟨a, k, c, D, h1, h2, h3, h4, h5, h6, _, h7⟩ => ⟨a, k, c, D, h1, h2, h3, h4, h5, h6, h7⟩)

end Go.Proofs.YthofcgpghbaccaaGreat
namespace Go.Proofs.YthofcgpghbaccaaGreat
open Go.RowKit

/-- A number that the reference answers: it can be read; in form. -/
structure Ans (C : Nat) (w w' : World) (ao : Option Addr) (n : Nat) (f : Nat → Int) : Prop where
  bel : Below w.heap.size w w'
  rd : Rd .u64 w' ao n f
  le : n ≤ C
  lm : Lm f n
  fm : Fm f n

theorem and_fm {f h : Nat → Int} {n m : Nat} (e : (fmB f n && fmB h m) = true) : Fm f n ∧ Fm h m := by
  simp only [Bool.and_eq_true] at e
  exact ⟨fm_of e.1, fm_of e.2⟩
theorem nand_fm {f h : Nat → Int} {n m : Nat} (e : (fmB f n && fmB h m) = false) : ¬ (Fm f n ∧ Fm h m) := fun ⟨a, b⟩ => by
  rw [(fmB_iff f n).2 a, (fmB_iff h m).2 b] at e
  cases e

end Go.Proofs.YthofcgpghbaccaaGreat
namespace Go.Proofs.YthofcgpghbaccaaGreat
open Go.RowKit

/-- Block g: its first k numbers are D. -/
def PB (w : World) (g cap k : Nat) (D : Nat → Int) : Prop := ∃ arr : Array Value, w.heap[g]? = some (.cells arr 74 (0, 0)) ∧ arr.size = cap ∧ ∀ j, j < k → arr[j]? = some (.int .u64 (D j))
theorem PB.cell {w g cap k D} (h : PB w g cap k D) {j : Nat} (hj : j < k) : w.cell? ⟨g, j, none⟩ = some (.int .u64 (D j)) := by
  obtain ⟨arr, h1, h2, h3⟩ := h
  simp [World.cell?, h1, h3 j hj]
theorem PB.frozen {w g cap k D} (h : PB w g cap k D) (j : Nat) : w.frozen? ⟨g, j, none⟩ = false := by
  obtain ⟨arr, h1, h2, h3⟩ := h
  simp [World.frozen?, h1]
theorem PB.lt {w g cap k D} (h : PB w g cap k D) : g < w.heap.size := by
  obtain ⟨arr, h1, h2, h3⟩ := h
  exact (Array.getElem?_eq_some_iff.1 h1).1
theorem PB.set {w g cap k D} (h : PB w g cap k D) (i : Nat) (v : Int) : PB (w.setCell ⟨g, i, none⟩ (.int .u64 v)) g cap k (upd D i v) := by
  obtain ⟨arr, h1, h2, h3⟩ := h
  refine ⟨arr.setIfInBounds i (.int .u64 v), ?_, by simpa using h2, fun j hj => ?_⟩
  · simp [World.setCell, Array.getElem?_modify, h1]
  · have hlt : j < arr.size := (Array.getElem?_eq_some_iff.1 (h3 j hj)).1
    by_cases hji : j = i
    · subst hji; simp [upd, hlt]
    · rw [Array.getElem?_setIfInBounds, if_neg (by omega), h3 j hj]; simp [upd, hji]
theorem Own.pb {w base v k D} (h : Own .u64 74 w base v k D) : (v = .slice none 0 0 ∧ k = 0) ∨ ∃ g cap, v = .slice (some ⟨g, 0, none⟩) k cap ∧ base ≤ g ∧ k ≤ cap ∧ cap ≤ maxLen ∧ PB w g cap k D := by
  obtain ⟨h1, h2⟩ := h
  rcases h2 with ⟨rfl, rfl⟩ | ⟨g, cap, cur, rfl, hb, hg, hn, hm, hs, ht⟩
  · exact .inl ⟨rfl, rfl⟩
  · refine .inr ⟨g, cap, rfl, hb, hn, hm, cur, hg, by omega, fun j hj => ?_⟩
    have e1 : (lst .u64 D k)[j]? = cur.toList[j]? := by
      rw [← ht, List.getElem?_take, if_pos (by omega)]
    rw [lst_get .u64 D k j hj] at e1
    simpa using e1.symm
theorem PB.own {w g cap k D} (h : PB w g cap k D) {base : Nat} (hb : base ≤ g) (hk : k ≤ cap) (hm : cap ≤ maxLen) : Own .u64 74 w base (.slice (some ⟨g, 0, none⟩) k cap) k D := by
  obtain ⟨arr, h1, h2, h3⟩ := h
  refine ⟨by rw [lst_length]; omega, .inr ⟨g, cap, arr, rfl, hb, h1, hk, hm, by omega, ?_⟩⟩
  apply List.ext_getElem?
  intro j
  by_cases hj : j < k
  · rw [List.getElem?_take, if_pos (by omega), lst_get _ _ _ _ hj]; simpa using h3 j hj
  · rw [List.getElem?_eq_none (by simp; omega), List.getElem?_eq_none (by rw [lst_length]; omega)]

/-- Ten times a number and a digit: one round. -/
theorem ten_step {D D' : Nat → Int} {j : Nat} {cc x t : Int} (hv : vd D' j + cc * pd j = 10 * vd D j + x) (ht : t = cc + 10 * D j) :
    vd (upd D' j (t % 4294967296)) (j + 1) + (t / 4294967296) * pd (j + 1) = 10 * vd D (j + 1) + x := by
  have e1 : vd (upd D' j (t % 4294967296)) j = vd D' j := vd_congr (fun i hi => upd_other _ _ _ _ (by omega))
  rw [vd_succ, e1, upd_same, vd_succ, pd_succ]
  have e2 := Int.mul_ediv_add_emod t 4294967296
  have e3 : t * pd j = (4294967296 * (t / 4294967296) + t % 4294967296) * pd j := by rw [e2]
  rw [ht] at e3
  rw [← ht] at e3
  grind
theorem fm_top {D : Nat → Int} {k : Nat} (hd : Dg D k) (hv : k = 0 ∨ pd (k - 1) ≤ vd D k) : Fm D k := by
  by_cases h0 : k = 0
  · exact .inl h0
  · right
    intro hz
    obtain ⟨m, rfl⟩ : ∃ m, k = m + 1 := ⟨k - 1, by omega⟩
    have h1 := vd_lt (hd.mono (m := m) (by omega))
    simp only [Nat.add_sub_cancel] at hz hv
    rw [vd_succ, hz] at hv
    omega

/-- What the reference's Read leaves. -/
def RAns (w w' : World) (ao : Option Addr) (k : Nat) (D : Nat → Int) (L : Nat) (b : Nat → Nat) (R : Bool) : Prop :=
  Below w.heap.size w w' ∧ Rd .u64 w' ao k D ∧ k ≤ L ∧ Dg D k ∧ Fm D k ∧ (R = true → vd D k = (dn b L : Nat)) ∧ (∀ a, ao = some a → w.heap.size ≤ a.block)
theorem RAns.no (w : World) (L : Nat) (b : Nat → Nat) : RAns w w none 0 (fun _ => 0) L b false :=
  ⟨Below.refl _ _, Rd.zero, by omega, fun j hj => by omega, .inl rfl, (fun h => by cases h), fun a h => by cases h⟩

end Go.Proofs.YthofcgpghbaccaaGreat
namespace Go.Proofs.YthofcgpghbaccaaGreat
open Go.RowKit

end Go.Proofs.YthofcgpghbaccaaGreat
namespace Go.Proofs.YthofcgpghbaccaaGreat
open Go.RowKit

/-- What Read answers. -/
def ReadAns (L : Nat) (b : Nat → Nat) (k : Nat) (f : Nat → Int) (er : Int) : Prop :=
  1048576 < L ∧ er = 2 ∧ k = 0 ∨ L ≤ 1048576 ∧ ¬ IsNum b L ∧ er = 11 ∧ k = 0 ∨ L ≤ 1048576 ∧ IsNum b L ∧ er = 0 ∧ vf f k = (dn b L : Nat)

end Go.Proofs.YthofcgpghbaccaaGreat
namespace Go.Proofs.YthofcgpghbaccaaGreat
open Go.RowKit

theorem divOk_all {X Y : Int} (hY : 0 < Y) : DivOk X Y := by
  intro ao bo n m ca cb f h' w hn hm hr hs hf hh ff fh hX hY'
  have h2 : m ≠ 0 := fun h0 => by subst h0; simp [vf] at hY'; omega
  exact divMod_c ao bo n m ca cb f h' w hn hm hr hs hf hh ff fh (by omega)
theorem tens_pos (j : Nat) : 0 < tens j := Int.pow_pos (by decide)

/-- The text of a number, or none. -/
def txt (f : Nat → Int) (n : Nat) : ByteArray := if fmB f n then ⟨(Lib.decDigits (vf f n).toNat).toArray⟩ else ⟨#[]⟩
def ter (f : Nat → Int) (n : Nat) : Int := if fmB f n then 0 else 3

end Go.Proofs.YthofcgpghbaccaaGreat
namespace Go.Proofs.YthofcgpghbaccaaGreat
open Go.RowKit

theorem Tg.kept {w w' : World} {ao : Option Addr} (h : Tg w ao) (hb : Below w.heap.size w w') : Tg w' ao := fun a ha => by
  obtain ⟨arr, fr, he⟩ := h a ha
  exact ⟨arr, fr, (hb.block _ (Array.getElem?_eq_some_iff.1 he).1).trans he⟩
theorem ndigits_le : ∀ (k V : Nat), V < 10 ^ (k + 1) → Lib.nDigits V ≤ k + 1
  | 0, V, h => by rw [Lib.nDigits_small (by simpa using h)]; omega
  | k + 1, V, h => by
    by_cases hu : V < 10
    · rw [Lib.nDigits_small hu]; omega
    · rw [Lib.nDigits_big hu]
      have := ndigits_le k (V / 10) (by rw [Nat.div_lt_iff_lt_mul (by decide)]; rw [Nat.pow_succ] at h; exact h)
      omega
theorem pw_ten (n : Nat) : pw n ≤ (10 : Int) ^ (20 * n) := by
  induction n with
  | zero => decide
  | succ n ih =>
    rw [pw_succ, show 20 * (n + 1) = 20 * n + 20 by omega, Int.pow_add]
    have h1 : (18446744073709551616 : Int) ≤ 10 ^ 20 := by decide
    have h2 := pw_pos n
    calc (18446744073709551616 : Int) * pw n ≤ 10 ^ 20 * pw n := Int.mul_le_mul_of_nonneg_right h1 (Int.le_of_lt h2)
      _ ≤ 10 ^ 20 * 10 ^ (20 * n) := Int.mul_le_mul_of_nonneg_left ih (by decide)
      _ = 10 ^ (20 * n) * 10 ^ 20 := Int.mul_comm _ _
theorem txt_size {f : Nat → Int} {n : Nat} (hf : Lm f n) (hn : n ≤ 4096) : (txt f n).size ≤ 81921 := by
  unfold txt
  split
  · show ((Lib.decDigits (vf f n).toNat).toArray).size ≤ _
    rw [List.size_toArray, Lib.decDigits_length]
    have h1 := vf_lt hf; have h0 := vf_nonneg hf; have h2 := pw_ten n
    have h3 : (vf f n).toNat < 10 ^ (20 * n + 1) := by
      have e : ((10 ^ (20 * n) : Nat) : Int) = (10 : Int) ^ (20 * n) := by simp
      have h4 : (vf f n).toNat < 10 ^ (20 * n) := by omega
      exact Nat.lt_of_lt_of_le h4 (Nat.pow_le_pow_right (by decide) (by omega))
    have := ndigits_le (20 * n) _ h3
    omega
  · show 0 ≤ _; omega
/-- The text of a whole number, or none. -/
def wtxt (s : Bool) (f : Nat → Int) (n : Nat) : ByteArray := if wfB s f n then (if s then ⟨#[45]⟩ ++ txt f n else txt f n) else ⟨#[]⟩
def wter (s : Bool) (f : Nat → Int) (n : Nat) : Int := if wfB s f n then 0 else 3

end Go.Proofs.YthofcgpghbaccaaGreat
namespace Go.Proofs.YthofcgpghbaccaaGreat
open Go.RowKit

/-- Does a text begin with a minus? -/
def mnB (s : ByteArray) : Bool := (s.extract 0 1).toList == [45]
theorem mnB_iff {s : ByteArray} {L : Nat} {b : Nat → Nat} (hs : Sb s L b) : mnB s = true ↔ 0 < L ∧ b 0 = 45 := by
  unfold mnB
  rw [ByteArray.toList_eq, beq_iff_eq]
  by_cases hL : 0 < L
  · have hsb := hs.take (c := 1) (by omega)
    generalize s.extract 0 1 = t at hsb
    obtain ⟨⟨l⟩⟩ := t
    obtain ⟨h1, h2⟩ := hsb
    match l, h1, h2 with
    | [x], _, h2 =>
      have h4 : x.toNat = b 0 := h2 0 (show 0 < [x].length by simp)
      constructor
      · intro h
        have hx : x = 45 := by simpa using h
        exact ⟨hL, by rw [← h4, hx]; rfl⟩
      · rintro ⟨_, h5⟩
        have hx : x = 45 := UInt8.toNat_inj.1 (by rw [h4, h5]; rfl)
        rw [hx]
    | [], h1, _ => exact absurd h1 (by decide)
    | _ :: _ :: _, h1, _ => have := h1; simp [ByteArray.size] at this
  · constructor
    · intro h
      have h5 : (s.extract 0 1).size = 1 := by show (s.extract 0 1).data.size = 1; rw [← Array.length_toList, h]; rfl
      rw [ByteArray.size_extract, hs.1] at h5
      omega
    · intro h; exact absurd h.1 hL
theorem sb_self (s : ByteArray) : Sb s s.size (fun k => if h : k < s.size then (s[k]'h).toNat else 0) := ⟨rfl, fun k h => by simp [h]⟩
theorem mnB_short {s : ByteArray} (h : ¬ 1 ≤ s.size) : mnB s = false := by
  cases hb : mnB s with
  | false => rfl
  | true => exact absurd ((mnB_iff (sb_self s)).1 hb).1 (by omega)
/-- What Read answers: neg, digits, the number. -/
def WRead (L : Nat) (b : Nat → Nat) (r : Bool) (k : Nat) (f : Nat → Int) (er : Int) : Prop :=
  1048576 < L ∧ er = 2 ∧ k = 0 ∨ L ≤ 1048576 ∧ 0 < L ∧ b 0 = 45 ∧ IsNum (bsh b 1) (L - 1) ∧ 0 < dn (bsh b 1) (L - 1) ∧ er = 0 ∧ wv r f k = - (dn (bsh b 1) (L - 1) : Nat) ∨
  L ≤ 1048576 ∧ ¬ (0 < L ∧ b 0 = 45) ∧ IsNum b L ∧ er = 0 ∧ wv r f k = (dn b L : Nat) ∨
  L ≤ 1048576 ∧ ¬ (0 < L ∧ b 0 = 45 ∧ IsNum (bsh b 1) (L - 1) ∧ 0 < dn (bsh b 1) (L - 1)) ∧ ¬ (¬ (0 < L ∧ b 0 = 45) ∧ IsNum b L) ∧ er = 11 ∧ k = 0

end Go.Proofs.YthofcgpghbaccaaGreat
namespace Go.Proofs.YthofcgpghbaccaaGreat
open Go.RowKit

theorem Own.tg {w base ao n cap f} (h : Own .u64 74 w base (.slice ao n cap) n f) : Tg w ao := fun a ha => by
  obtain ⟨h1, h2⟩ := h
  rcases h2 with ⟨hv, _⟩ | ⟨g, cap', cur, hv, hb, hg, hn, hm, hs, ht⟩
  · cases hv; cases ha
  · cases hv; cases ha; exact ⟨_, _, hg⟩
theorem text_63 : Lib.decDigits 9223372036854775808 = [57, 50, 50, 51, 51, 55, 50, 48, 51, 54, 56, 53, 52, 55, 55, 53, 56, 48, 56] := by
  have hn : Lib.nDigits 9223372036854775808 = 19 := Lib.nDigits_unique 18 _ (by decide) (by decide)
  rw [Lib.decDigits_eq, hn]
  decide +kernel
/-- Text of -2^63. -/
theorem wtxt_63 {s : Bool} {f : Nat → Int} {n : Nat} (hf : Lm f n) (hw : wfB s f n = true) (hv : wv s f n = -9223372036854775808) : wtxt s f n = ⟨#[45, 57, 50, 50, 51, 51, 55, 50, 48, 51, 54, 56, 53, 52, 55, 55, 53, 56, 48, 56]⟩ ∧ wter s f n = 0 := by
  have h0 := vf_nonneg hf
  have hfm : fmB f n = true := (fmB_iff f n).2 (fm_of_wfB hw)
  cases s
  · rw [wv_false] at hv; omega
  · rw [wv_true] at hv
    have e : (vf f n).toNat = 9223372036854775808 := by omega
    refine ⟨?_, by simp [wter, hw]⟩
    unfold wtxt txt
    rw [if_pos hw, if_pos rfl, if_pos hfm, e, text_63]
    rfl

theorem kN0 {w : World} {x y : Value} {t : TypeId} : (w.alloc (.cells #[x, y] t)).cell? ⟨w.heap.size, 0, none⟩ = some x := by simp [go_sem]
theorem kN1 {w : World} {x y : Value} {t : TypeId} : (w.alloc (.cells #[x, y] t)).cell? ⟨w.heap.size, 1, none⟩ = some y := by simp [go_sem]
theorem keep2' {w w1 w2 : World} {a0 a1 c0 c1 : Value} (hb : Below w1.heap.size w1 w2) (h : w.heap.size + 1 < w1.heap.size ∧ w1.cell? ⟨w.heap.size, 0, none⟩ = some a0 ∧ w1.cell? ⟨w.heap.size, 1, none⟩ = some a1 ∧ w1.cell? ⟨w.heap.size + 1, 0, none⟩ = some c0 ∧ w1.cell? ⟨w.heap.size + 1, 1, none⟩ = some c1) (hw : Below w.heap.size w w1) :
    (w.heap.size + 1 < w2.heap.size ∧ w2.cell? ⟨w.heap.size, 0, none⟩ = some a0 ∧ w2.cell? ⟨w.heap.size, 1, none⟩ = some a1 ∧ w2.cell? ⟨w.heap.size + 1, 0, none⟩ = some c0 ∧ w2.cell? ⟨w.heap.size + 1, 1, none⟩ = some c1) ∧ Below w.heap.size w w2 := by
  obtain ⟨h1, h2⟩ := bcell hb
  have hz := hb.size
  obtain ⟨z, a, b, e, f⟩ := h
  exact ⟨⟨by omega, (h1 _ _ (by omega)).trans a, (h1 _ _ (by omega)).trans b, (h1 _ _ (by omega)).trans e, (h1 _ _ (by omega)).trans f⟩, hw.trans (hb.mono hw.size)⟩
theorem sb_m12 : Sb ⟨#[45, 49, 50]⟩ 3 (fun k => if k = 0 then 45 else if k = 1 then 49 else 50) := ⟨rfl, fun k h => by
  have hk : k < 3 := h
  rcases (show k = 0 ∨ k = 1 ∨ k = 2 by omega) with rfl | rfl | rfl <;> rfl⟩
theorem read_m12 {r : Bool} {k : Nat} {f : Nat → Int} {er : Int} (h : WRead 3 (fun k => if k = 0 then 45 else if k = 1 then 49 else 50) r k f er) : er = 0 ∧ wv r f k = -12 := by
  have hn : IsNum (bsh (fun k => if k = 0 then 45 else if k = 1 then 49 else 50) 1) (3 - 1) := ⟨(digB_iff _ _).1 (by decide), by decide, .inr (by decide)⟩
  have hd : dn (bsh (fun k => if k = 0 then 45 else if k = 1 then 49 else 50) 1) (3 - 1) = 12 := by decide
  rcases h with ⟨h1, _⟩ | ⟨_, _, _, _, _, h1, h2⟩ | ⟨_, h1, _⟩ | ⟨_, h1, _⟩
  · omega
  · rw [hd] at h2; exact ⟨h1, h2⟩
  · exact absurd ⟨by decide, rfl⟩ h1
  · exact absurd ⟨by decide, rfl, hn, by rw [hd]; decide⟩ h1
theorem kCb {w w' : World} {a : Addr} {v : Value} (hb : Below w.heap.size w w') (h : w.cell? a = some v) : w'.cell? a = some v := (hb.cell (World.block_lt_of_cell? w a h)).trans h
theorem kBa {w0 w : World} {o : Obj} (h : Below w0.heap.size w0 w) : Below w0.heap.size w0 (w.alloc o) := below_alloc h o
theorem kBb {w0 w w' : World} (hb : Below w.heap.size w w') (h : Below w0.heap.size w0 w) : Below w0.heap.size w0 w' := h.trans (hb.mono h.size)
end Go.Proofs.YthofcgpghbaccaaGreat
namespace Go.Proofs.YthofcgpghbaccaaGreat
open Go.RowKit

/-- A box at block b holds this whole number. -/
def Bx (w : World) (b : Nat) (s : Bool) (x : Option Addr) (n c : Nat) : Prop := b < w.heap.size ∧ w.cell? ⟨b, 0, none⟩ = some (.bool s) ∧ w.cell? ⟨b, 1, none⟩ = some (.slice x n c)
theorem Bx.below {w w' : World} {b : Nat} {s x n c} (h : Bx w b s x n c) (hb : Below w.heap.size w w') : Bx w' b s x n c := ⟨Nat.lt_of_lt_of_le h.1 hb.size, kCb hb h.2.1, kCb hb h.2.2⟩
theorem Bx.alloc {w : World} {b : Nat} {s x n c} (h : Bx w b s x n c) (o : Obj) : Bx (w.alloc o) b s x n c := ⟨by have := h.1; simp; omega, kCa h.2.1, kCa h.2.2⟩
theorem Bx.next {w w' : World} {b : Nat} {s x n c} {o : Obj} (h : Bx w b s x n c) (hb : Below (w.alloc o).heap.size (w.alloc o) w') : Bx w' b s x n c := (h.alloc o).below hb
theorem bx_new {w w' : World} {s x n c} {t : TypeId} (hb : Below (w.alloc (.cells #[.bool s, .slice x n c] t)).heap.size (w.alloc (.cells #[.bool s, .slice x n c] t)) w') : Bx w' w.heap.size s x n c :=
  ⟨by have := hb.size; simp at this; omega, kCb hb kN0, kCb hb kN1⟩
/-- A whole number in form that can be read. -/
structure Wn (w : World) (s : Bool) (x : Option Addr) (n c : Nat) (f : Nat → Int) (v : Int) : Prop where
  rd : Rd .u64 w x n f
  lm : Lm f n
  wf : wfB s f n = true
  cap : n ≤ c ∧ c ≤ 9223372036854775807
  nil : x = none → n = 0 ∧ c = 0
  val : wv s f n = v
theorem Wn.below {w w' : World} {s x n c f v} (h : Wn w s x n c f v) (hb : Below w.heap.size w w') : Wn w' s x n c f v := ⟨h.rd.below hb (Nat.le_refl _), h.lm, h.wf, h.cap, h.nil, h.val⟩
theorem Wn.alloc {w : World} {s x n c f v} (h : Wn w s x n c f v) (o : Obj) : Wn (w.alloc o) s x n c f v := ⟨h.rd.alloc o, h.lm, h.wf, h.cap, h.nil, h.val⟩
theorem Wn.next {w w' : World} {s x n c f v} {o : Obj} (h : Wn w s x n c f v) (hb : Below (w.alloc o).heap.size (w.alloc o) w') : Wn w' s x n c f v := (h.alloc o).below hb
theorem WRes.wn {C w w' s x n c f v} (h : WRes C w w' s x n c f) (hv : wv s f n = v) : Wn w' s x n c f v := ⟨h.res.rd, h.res.lm, h.wfB, h.res.ncap, h.res.nil', hv⟩
theorem WAns.ok {P : Prop} {v : Int} {r k f er} (h : WAns P v r k f er) (hp : P) : er = 0 ∧ wv r f k = v := by
  rcases h with ⟨_, h1, h2⟩ | ⟨h1, _⟩
  · exact ⟨h1, h2⟩
  · exact absurd hp h1
/-- Two numbers' calls, both in form. -/
theorem add_n {w : World} {s t x y n m c d f g u v} (ha : Wn w s x n c f u) (hb : Wn w t y m d g v) (hn : n ≤ 1048576) (hm : m ≤ 1048576) :
    Calls Tryz.prog 107 #[.agg #[.bool s, .slice x n c], .agg #[.bool t, .slice y m d]] w fun e w' => ∃ r z k e' h, e = .returned (.tuple #[.agg #[.bool r, .slice z k e'], .int .i64 0]) ∧ Below w.heap.size w w' ∧ k ≤ max n m + 1 ∧ Wn w' r z k e' h (u + v) := by
  refine (wAdd_c s t x y n m c d f g w (by omega) (by omega) ha.rd hb.rd ha.lm hb.lm).mono ?_
  rintro e w' ⟨r, z, k, e', h, er, rfl, hres, hans⟩
  obtain ⟨rfl, hv⟩ := hans.ok ⟨ha.wf, hb.wf⟩
  exact ⟨r, z, k, e', h, rfl, hres.res.bel, hres.res.le, hres.wn (by rw [hv, ha.val, hb.val])⟩
theorem mul_n {w : World} {s t x y n m c d f g u v} (ha : Wn w s x n c f u) (hb : Wn w t y m d g v) (hn : n ≤ 1048576) (hm : m ≤ 1048576) :
    Calls Tryz.prog 106 #[.agg #[.bool s, .slice x n c], .agg #[.bool t, .slice y m d]] w fun e w' => ∃ r z k e' h, e = .returned (.tuple #[.agg #[.bool r, .slice z k e'], .int .i64 0]) ∧ Below w.heap.size w w' ∧ k ≤ n + m ∧ Wn w' r z k e' h (u * v) := by
  refine (wMul_c s t x y n m c d f g w (by omega) (by omega) ha.cap.1 hb.cap.1 ha.cap.2 hb.cap.2 ha.rd hb.rd ha.lm hb.lm).mono ?_
  rintro e w' ⟨r, z, k, e', h, er, rfl, hres, hans⟩
  obtain ⟨rfl, hv⟩ := hans.ok ⟨ha.wf, hb.wf⟩
  exact ⟨r, z, k, e', h, rfl, hres.res.bel, hres.res.le, hres.wn (by rw [hv, ha.val, hb.val])⟩
theorem form_n {w : World} {s x n c f u} (ha : Wn w s x n c f u) (hn : n ≤ 1048576) :
    Calls Tryz.prog 73 #[.agg #[.bool s, .slice x n c]] w fun e w' => e = .returned (.bool true) ∧ Below w.heap.size w w' := by
  have := wForm_c s x n c f w (by omega) ha.rd
  rw [ha.wf] at this
  exact this

def lgt (n m : Nat) : Bool := decide (n ≤ 60) && decide (m ≤ 60)
end Go.Proofs.YthofcgpghbaccaaGreat
namespace Go.Proofs.YthofcgpghbaccaaGreat
open Go.RowKit

/-- A whole number by its sign and its magnitude. -/
def sg (s : Bool) (A : Nat) : Int := if s then -(A : Int) else A
theorem sg_tdiv (s : Bool) (A G : Nat) (hG : 0 < G) : (sg s (A * G)).tdiv G = sg s A := by
  have h : (G : Int) ≠ 0 := by omega
  cases s
  · show ((A * G : Nat) : Int).tdiv G = A
    rw [Int.natCast_mul]; exact Int.mul_tdiv_cancel _ h
  · show (-((A * G : Nat) : Int)).tdiv G = -A
    rw [Int.neg_tdiv, Int.natCast_mul, Int.mul_tdiv_cancel _ h]
theorem sg_natAbs (s : Bool) (A : Nat) : (sg s A).natAbs = A := by cases s <;> simp [sg]
theorem sg_mul (s t : Bool) (A B : Nat) : sg s A * sg t B = sg (s != t) (A * B) := by
  cases s <;> cases t <;> simp [sg, Int.neg_mul, Int.mul_neg]
theorem radd {a b : Rat} {G RA RB L BL : Nat} {S N : Int} (hG : G = a.den.gcd b.den) (hA : RA * G = a.den) (hB : RB * G = b.den) (hS : S = a.num * RB + b.num * RA) (hL : L = S.natAbs.gcd G) (hBL : BL * L = b.den) (hN : N * L = S) :
    (a + b).num = N ∧ (a + b).den = RA * BL := by
  have hG0 : 0 < G := by rw [hG]; exact Nat.gcd_pos_of_pos_left _ a.den_pos
  have hL0 : 0 < L := by rw [hL]; exact Nat.gcd_pos_of_pos_right _ hG0
  have eA : a.den / G = RA := by rw [← hA]; exact Nat.mul_div_cancel _ hG0
  have eB : b.den / G = RB := by rw [← hB]; exact Nat.mul_div_cancel _ hG0
  have e1 : (a + b) = Rat.add a b := rfl
  rw [e1]
  unfold Rat.add
  simp only [← hG, eA, eB]
  split
  · next h1 =>
    have hL1 : L = 1 := by rw [hL, h1]; simp
    have : RA = a.den := by rw [← hA, h1]; simp
    have h2 : RB = b.den := by rw [← hB, h1]; simp
    have h3 : BL = b.den := by rw [← hBL, hL1]; simp
    have h4 : N = S := by rw [← hN, hL1]; simp
    subst this; subst h2; subst h3
    exact ⟨by rw [h4, hS], rfl⟩
  · rw [Rat.maybeNormalize_eq]
    have e2 : (a.num * (RB : Int) + b.num * (RA : Int)).natAbs.gcd G = L := by rw [hL, hS]
    refine ⟨?_, ?_⟩
    · simp only [e2]
      rw [Int.divExact_eq_tdiv]
      rw [← hS, ← hN]
      exact Int.mul_tdiv_cancel _ (by omega)
    · simp only [e2]
      rw [← hBL, ← Nat.mul_assoc]
      exact Nat.mul_div_cancel _ hL0
theorem rmul {a b : Rat} {s t : Bool} {G H NA NB DA DB : Nat} (ha : a.num = sg s (NA * G)) (hb : b.num = sg t (NB * H)) (hG : G = a.num.natAbs.gcd b.den) (hH : H = b.num.natAbs.gcd a.den) (h3 : DA * H = a.den) (h4 : DB * G = b.den) :
    (a * b).num = sg (s != t) (NA * NB) ∧ (a * b).den = DA * DB := by
  have hG0 : 0 < G := by rw [hG]; exact Nat.gcd_pos_of_pos_right _ b.den_pos
  have hH0 : 0 < H := by rw [hH]; exact Nat.gcd_pos_of_pos_right _ a.den_pos
  have e1 : (a * b) = Rat.mul a b := rfl
  rw [e1]
  unfold Rat.mul
  simp only [← hG, ← hH, Int.divExact_eq_tdiv, Nat.divExact_eq_div]
  refine ⟨?_, ?_⟩
  · rw [ha, hb, sg_tdiv _ _ _ hG0, sg_tdiv _ _ _ hH0, sg_mul]
  · rw [← h3, ← h4, Nat.mul_div_cancel _ hG0, Nat.mul_div_cancel _ hH0]
theorem rinv {b : Rat} {t : Bool} {B : Nat} (hb : b.num = sg t B) (h0 : 0 < B) : (b⁻¹).num = sg t b.den ∧ (b⁻¹).den = B := by
  have e1 : b⁻¹ = Rat.inv b := rfl
  rw [e1]
  unfold Rat.inv
  cases t
  · have h1 : b.num = B := hb
    rw [dif_neg (by omega), dif_pos (by omega)]
    exact ⟨rfl, by show b.num.natAbs = B; omega⟩
  · have h1 : b.num = -(B : Int) := hb
    rw [dif_pos (by omega)]
    exact ⟨rfl, by show b.num.natAbs = B; omega⟩
theorem rmake {s t : Bool} {NA NB G : Nat} (hB : 0 < NB * G) (hG : G = (NA * G).gcd (NB * G)) :
    (((sg s (NA * G) : Int) : Rat) / (sg t (NB * G) : Int)).num = sg (s != t) NA ∧ (((sg s (NA * G) : Int) : Rat) / (sg t (NB * G) : Int)).den = NB := by
  have hNB : 0 < NB := Nat.pos_of_mul_pos_right hB
  have hG0 : 0 < G := Nat.pos_of_mul_pos_left hB
  have hc : (sg (s != t) NA).natAbs.Coprime NB := by
    have h1 : (sg (s != t) NA).natAbs = NA := by cases s <;> cases t <;> simp [sg]
    rw [h1]
    have : NA.gcd NB * G = G := by rw [← Nat.gcd_mul_right]; exact hG.symm
    exact Nat.eq_of_mul_eq_mul_right hG0 (by rw [this, Nat.one_mul])
  have h2 : ((sg s (NA * G) : Int) : Rat) / (sg t (NB * G) : Int) = ⟨sg (s != t) NA, NB, by omega, hc⟩ := by
    rw [Rat.mk_eq_divInt, ← Rat.divInt_eq_div, Rat.divInt_eq_divInt_iff]
    · cases s <;> cases t <;> simp [sg] <;> grind
    · cases t <;> simp [sg] <;> omega
    · omega
  rw [h2]; exact ⟨rfl, rfl⟩
theorem rfloor (a : Rat) : a.floor = a.num / a.den := by
  unfold Rat.floor
  split
  · next h => rw [h]; simp
  · rfl
end Go.Proofs.YthofcgpghbaccaaGreat
namespace Go.Proofs.YthofcgpghbaccaaGreat
open Go.RowKit

/-- The two numbers that steps lead to. -/
def stU (odd : Bool) (a0 b0 A B : Int) : Int := if odd then b0 * B - a0 * A else a0 * A - b0 * B
def stV (odd : Bool) (a1 b1 A B : Int) : Int := if odd then a1 * A - b1 * B else b1 * B - a1 * A
/-- The same common divisors. -/
def Cd (u v A B : Int) : Prop := ∀ d : Int, (d ∣ u ∧ d ∣ v) ↔ (d ∣ A ∧ d ∣ B)
theorem Cd.refl (A B : Int) : Cd A B A B := fun _ => Iff.rfl
theorem Cd.step {u v A B : Int} (h : Cd u v A B) (q : Int) : Cd v (u - q * v) A B := fun d => by
  rw [← h d]
  constructor
  · rintro ⟨h1, h2⟩
    refine ⟨?_, h1⟩
    have := Int.dvd_add h2 (Int.dvd_mul_of_dvd_right (b := q) h1)
    rwa [Int.sub_add_cancel] at this
  · rintro ⟨h1, h2⟩
    exact ⟨h2, Int.dvd_sub h1 (Int.dvd_mul_of_dvd_right (b := q) h2)⟩
theorem Cd.trans {u v A B C D : Int} (h : Cd u v A B) (k : Cd A B C D) : Cd u v C D := fun d => (h d).trans (k d)
theorem Cd.swap {u v A B : Int} (h : Cd u v A B) : Cd v u A B := fun d => by rw [← h d]; exact And.comm

/-- What some steps lead to, for all numbers that begin with the bits x and y. -/
def Led (odd : Bool) (a0 b0 a1 b1 x y : Int) : Prop := ∀ T ra rb : Int, 0 ≤ ra → ra < T → 0 ≤ rb → rb < T →
  0 ≤ stV odd a1 b1 (x * T + ra) (y * T + rb) ∧ stV odd a1 b1 (x * T + ra) (y * T + rb) < stU odd a0 b0 (x * T + ra) (y * T + rb) ∧ stU odd a0 b0 (x * T + ra) (y * T + rb) ≤ y * T + rb ∧ Cd (stU odd a0 b0 (x * T + ra) (y * T + rb)) (stV odd a1 b1 (x * T + ra) (y * T + rb)) (x * T + ra) (y * T + rb)

/-- The state of the search. -/
structure Lh (odd : Bool) (a b a0 b0 a1 b1 x y : Int) : Prop where
  a_0 : 0 ≤ a
  b_0 : 0 ≤ b
  ua : a = stU odd a0 b0 x y
  ub : b = stV odd a1 b1 x y
  top : x = b1 * a + b0 * b
  p0 : 0 ≤ a0
  p1 : 0 ≤ b0
  p2 : 0 ≤ a1
  p3 : 1 ≤ b1
  st : (odd = false ∧ a0 = 1 ∧ b0 = 0 ∧ a1 = 0 ∧ b1 = 1) ∨ (a0 ≤ b0 ∧ a1 ≤ b1 ∧ 1 ≤ b0 ∧ b1 ≤ b ∧ b < a ∧ Led odd a0 b0 a1 b1 x y)

theorem lh_start {x y : Int} (hx : 0 ≤ x) (hy : 0 ≤ y) : Lh false x y 1 0 0 1 x y :=
  ⟨hx, hy, by simp [stU], by simp [stV], by omega, by omega, by omega, by omega, by omega, .inl ⟨rfl, rfl, rfl, rfl, rfl⟩⟩

theorem stU_next {odd : Bool} {a1 b1 A B : Int} : stU (!odd) a1 b1 A B = stV odd a1 b1 A B := by cases odd <;> simp [stU, stV]
theorem stV_next {odd : Bool} {a0 b0 a1 b1 q A B : Int} : stV (!odd) (a0 + q * a1) (b0 + q * b1) A B = stU odd a0 b0 A B - q * stV odd a1 b1 A B := by
  cases odd <;> simp only [stU, stV, Bool.not_false, Bool.not_true, if_true, if_false, Bool.false_eq_true] <;> grind

/-- A number is near its highest bits. -/
theorem stV_low {odd : Bool} {a1 b1 x y T ra rb : Int} (h0 : 0 ≤ a1) (h1 : a1 ≤ b1) (r0 : 0 ≤ ra) (r1 : ra < T) (s0 : 0 ≤ rb) (s1 : rb < T) :
    stV odd a1 b1 x y * T - b1 * (T - 1) ≤ stV odd a1 b1 (x * T + ra) (y * T + rb) ∧ stV odd a1 b1 (x * T + ra) (y * T + rb) ≤ stV odd a1 b1 x y * T + b1 * (T - 1) := by
  have m1 : 0 ≤ a1 * ra := Int.mul_nonneg h0 r0
  have m2 : 0 ≤ b1 * rb := Int.mul_nonneg (by omega) s0
  have m3 : a1 * ra ≤ b1 * ra := Int.mul_le_mul_of_nonneg_right h1 r0
  have m4 : b1 * ra ≤ b1 * (T - 1) := Int.mul_le_mul_of_nonneg_left (by omega) (by omega)
  have m5 : b1 * rb ≤ b1 * (T - 1) := Int.mul_le_mul_of_nonneg_left (by omega) (by omega)
  cases odd
  · have e : stV false a1 b1 (x * T + ra) (y * T + rb) = stV false a1 b1 x y * T + b1 * rb - a1 * ra := by simp only [stV, Bool.false_eq_true, if_false]; grind
    rw [e]; omega
  · have e : stV true a1 b1 (x * T + ra) (y * T + rb) = stV true a1 b1 x y * T + a1 * ra - b1 * rb := by simp only [stV, if_true]; grind
    rw [e]; omega

/-- One step, where Collins' condition holds. -/
theorem lh_step {odd : Bool} {a b a0 b0 a1 b1 x y : Int} (h : Lh odd a b a0 b0 a1 b1 x y) (hxy : y ≤ x) (hb : 0 < b) (c1 : b0 + a / b * b1 ≤ a - a / b * b) (c2 : b1 + (b0 + a / b * b1) ≤ b - (a - a / b * b)) :
    Lh (!odd) b (a - a / b * b) a1 b1 (a0 + a / b * a1) (b0 + a / b * b1) x y := by
  obtain ⟨q, hq⟩ : ∃ q, a / b = q := ⟨_, rfl⟩
  rw [hq] at c1 c2 ⊢
  have hq0 : 0 ≤ q := by rw [← hq]; exact Int.ediv_nonneg h.a_0 h.b_0
  have hr0 : 0 ≤ a - q * b := by
    have := Int.emod_nonneg a (show b ≠ 0 by omega); have e := Int.mul_ediv_add_emod a b
    rw [hq, Int.mul_comm] at e; omega
  have hb1 : 0 ≤ q * b1 := Int.mul_nonneg hq0 (by have := h.p3; omega)
  have ha1 : 0 ≤ q * a1 := Int.mul_nonneg hq0 h.p2
  have p0 := h.p0; have p1 := h.p1; have p2 := h.p2; have p3 := h.p3
  have hua := h.ua; have hub := h.ub; have htop := h.top
  -- the quotient is not 0 at the first step
  have hmono : a0 + q * a1 ≤ b0 + q * b1 ∧ a1 ≤ b1 := by
    rcases h.st with ⟨rfl, rfl, rfl, rfl, rfl⟩ | ⟨s1, s2, _, _, _, _⟩
    · have ea : a = x := by rw [hua]; simp [stU]
      have eb : b = y := by rw [hub]; simp [stV]
      have : 1 ≤ q := by rw [← hq]; exact (Int.le_ediv_iff_mul_le hb).2 (by omega)
      omega
    · have : q * a1 ≤ q * b1 := Int.mul_le_mul_of_nonneg_left s2 hq0
      omega
  have hb1' : 1 ≤ b0 + q * b1 := by
    rcases h.st with ⟨rfl, rfl, rfl, rfl, rfl⟩ | ⟨s1, s2, s3, _, _, _⟩
    · omega
    · omega
  refine ⟨h.b_0, hr0, ?_, ?_, ?_, p2, by omega, by omega, hb1', .inr ⟨hmono.2, hmono.1, p3, c1, by omega, ?_⟩⟩
  · rw [stU_next]; exact hub
  · rw [stV_next, ← hua, ← hub]
  · rw [htop]; grind
  · intro T ra rb r0 r1 s0 s1
    have hV : stV (!odd) (a0 + q * a1) (b0 + q * b1) x y = a - q * b := by rw [stV_next, ← hua, ← hub]
    have lo := stV_low (odd := !odd) (x := x) (y := y) (by omega) hmono.1 r0 r1 s0 s1
    have lo2 := stV_low (odd := odd) (x := x) (y := y) p2 hmono.2 r0 r1 s0 s1
    rw [hV] at lo
    rw [← hub] at lo2
    have hT : 1 ≤ T := by omega
    have k1 : (b0 + q * b1) * T ≤ (a - q * b) * T := Int.mul_le_mul_of_nonneg_right c1 (by omega)
    have k2 : (b1 + (b0 + q * b1)) * T ≤ (b - (a - q * b)) * T := Int.mul_le_mul_of_nonneg_right c2 (by omega)
    have x1 : (b0 + q * b1) * (T - 1) = (b0 + q * b1) * T - (b0 + q * b1) := by rw [Int.mul_sub, Int.mul_one]
    have x2 : b1 * (T - 1) = b1 * T - b1 := by rw [Int.mul_sub, Int.mul_one]
    have x3 : (b1 + (b0 + q * b1)) * T = b1 * T + (b0 + q * b1) * T := by rw [Int.add_mul]
    have x4 : (b - (a - q * b)) * T = b * T - (a - q * b) * T := by rw [Int.sub_mul]
    rw [stU_next]
    refine ⟨by omega, by omega, ?_, ?_⟩
    · rcases h.st with ⟨rfl, rfl, rfl, rfl, rfl⟩ | ⟨_, _, _, _, _, hl⟩
      · simp [stV]
      · obtain ⟨_, l2, l3, _⟩ := hl T ra rb r0 r1 s0 s1
        omega
    · rw [stV_next]
      refine Cd.step ?_ q
      rcases h.st with ⟨rfl, rfl, rfl, rfl, rfl⟩ | ⟨_, _, _, _, _, hl⟩
      · simp only [stU, stV, Bool.false_eq_true, if_false]
        have e1 : 1 * (x * T + ra) - 0 * (y * T + rb) = x * T + ra := by omega
        have e2 : 1 * (y * T + rb) - 0 * (x * T + ra) = y * T + rb := by omega
        rw [e1, e2]; exact Cd.refl _ _
      · exact (hl T ra rb r0 r1 s0 s1).2.2.2
/-- The new factors are at most x. -/
theorem lh_room {odd : Bool} {a b a0 b0 a1 b1 x y : Int} (h : Lh odd a b a0 b0 a1 b1 x y) (hxy : y ≤ x) (hb : 0 < b) : b0 + a / b * b1 ≤ x ∧ a0 + a / b * a1 ≤ x ∧ 0 ≤ a / b * a1 ∧ 0 ≤ a / b * b1 ∧ (0 < a - a / b * b → b1 + (b0 + a / b * b1) ≤ x) ∧ 1 ≤ b0 + a / b * b1 := by
  obtain ⟨q, hq⟩ : ∃ q, a / b = q := ⟨_, rfl⟩
  rw [hq]
  have hq0 : 0 ≤ q := by rw [← hq]; exact Int.ediv_nonneg h.a_0 h.b_0
  have hr0 : 0 ≤ a - q * b := by
    have := Int.emod_nonneg a (show b ≠ 0 by omega); have e := Int.mul_ediv_add_emod a b
    rw [hq, Int.mul_comm] at e; omega
  have p0 := h.p0; have p1 := h.p1; have p2 := h.p2; have p3 := h.p3
  have hb1 : 0 ≤ q * b1 := Int.mul_nonneg hq0 (by omega)
  have ha1 : 0 ≤ q * a1 := Int.mul_nonneg hq0 h.p2
  have e : x = (b0 + q * b1) * b + b1 * (a - q * b) := by rw [h.top]; grind
  have f1 : (b0 + q * b1) * 1 ≤ (b0 + q * b1) * b := Int.mul_le_mul_of_nonneg_left (by omega) (by omega)
  have f2 : 0 ≤ b1 * (a - q * b) := Int.mul_nonneg (by omega) hr0
  refine ⟨by omega, ?_, ha1, hb1, fun hp => ?_, ?_⟩
  · rcases h.st with ⟨rfl, rfl, rfl, rfl, rfl⟩ | ⟨s1, s2, _, _, _, _⟩
    · have eb : b = y := by rw [h.ub]; simp [stV]
      omega
    · have : q * a1 ≤ q * b1 := Int.mul_le_mul_of_nonneg_left s2 hq0
      omega
  · have f3 : b1 * 1 ≤ b1 * (a - q * b) := Int.mul_le_mul_of_nonneg_left (by omega) (by omega)
    omega
  · rcases h.st with ⟨rfl, rfl, rfl, rfl, rfl⟩ | ⟨s1, s2, s3, _, _, _⟩
    · have ea : a = x := by rw [h.ua]; simp [stU]
      have eb : b = y := by rw [h.ub]; simp [stV]
      have : 1 ≤ q := by rw [← hq]; exact (Int.le_ediv_iff_mul_le hb).2 (by omega)
      omega
    · omega
/-- Some steps: their factors have room, and what they lead to. -/
theorem lh_some {odd : Bool} {a b a0 b0 a1 b1 x y : Int} (h : Lh odd a b a0 b0 a1 b1 x y) (hb0 : b0 ≠ 0) : Led odd a0 b0 a1 b1 x y ∧ a0 + 2 ≤ x ∧ b0 + 2 ≤ x ∧ a1 + 2 ≤ x ∧ b1 + 2 ≤ x := by
  rcases h.st with ⟨_, _, h0, _⟩ | ⟨s1, s2, s3, s4, s5, hl⟩
  · exact absurd h0 hb0
  · have p3 := h.p3; have p1 := h.p1
    have e := h.top
    have m1 : b1 * 2 ≤ b1 * a := Int.mul_le_mul_of_nonneg_left (by omega) (by omega)
    have m2 : b0 * 1 ≤ b0 * b := Int.mul_le_mul_of_nonneg_left (by omega) (by omega)
    exact ⟨hl, by omega, by omega, by omega, by omega⟩
theorem lh_none {odd : Bool} {a b a0 b0 a1 b1 x y : Int} (h : Lh odd a b a0 b0 a1 b1 x y) : 0 ≤ a0 ∧ 0 ≤ b0 ∧ 0 ≤ a1 ∧ 0 ≤ b1 := ⟨h.p0, h.p1, h.p2, by have := h.p3; omega⟩
end Go.Proofs.YthofcgpghbaccaaGreat
namespace Go.Proofs.YthofcgpghbaccaaGreat
open Go.RowKit

/-- Block g holds the five fields of steps. -/
def SB (w : World) (g : Nat) (a0 b0 a1 b1 : Int) (odd : Bool) : Prop := w.heap[g]? = some (.cells #[.int .u64 a0, .int .u64 b0, .int .u64 a1, .int .u64 b1, .bool odd] 141 (0, 0))
theorem SB.cells {w g a0 b0 a1 b1 odd} (h : SB w g a0 b0 a1 b1 odd) : w.cell? ⟨g, 0, none⟩ = some (.int .u64 a0) ∧ w.cell? ⟨g, 1, none⟩ = some (.int .u64 b0) ∧ w.cell? ⟨g, 2, none⟩ = some (.int .u64 a1) ∧ w.cell? ⟨g, 3, none⟩ = some (.int .u64 b1) ∧ w.cell? ⟨g, 4, none⟩ = some (.bool odd) := by
  unfold SB at h
  simp [World.cell?, h]
theorem SB.frozen {w g a0 b0 a1 b1 odd} (h : SB w g a0 b0 a1 b1 odd) (j : Nat) : w.frozen? ⟨g, j, none⟩ = false := by
  unfold SB at h
  simp [World.frozen?, h]
theorem SB.lt {w g a0 b0 a1 b1 odd} (h : SB w g a0 b0 a1 b1 odd) : g < w.heap.size := (Array.getElem?_eq_some_iff.1 h).1
theorem SB.below {w w' g a0 b0 a1 b1 odd} (h : SB w g a0 b0 a1 b1 odd) (hb : Below w.heap.size w w') : SB w' g a0 b0 a1 b1 odd := (hb.block g h.lt).trans h

theorem SB.set5 {w g a0 b0 a1 b1 odd} (h : SB w g a0 b0 a1 b1 odd) (c0 d0 c1 d1 : Int) (o : Bool) : SB (((((w.setCell ⟨g, 0, none⟩ (.int .u64 c0)).setCell ⟨g, 1, none⟩ (.int .u64 d0)).setCell ⟨g, 2, none⟩ (.int .u64 c1)).setCell ⟨g, 3, none⟩ (.int .u64 d1)).setCell ⟨g, 4, none⟩ (.bool o)) g c0 d0 c1 d1 o := by
  unfold SB at h ⊢
  simp [World.setCell, Array.getElem?_modify, h]
theorem only_set5 (w : World) (g : Nat) (u0 u1 u2 u3 u4 : Value) : Only g w (((((w.setCell ⟨g, 0, none⟩ u0).setCell ⟨g, 1, none⟩ u1).setCell ⟨g, 2, none⟩ u2).setCell ⟨g, 3, none⟩ u3).setCell ⟨g, 4, none⟩ u4) :=
  (((((Only.refl _ _).setCell _ _ _).setCell _ _ _).setCell _ _ _).setCell _ _ _).setCell _ _ _
/-- What findSteps answers. -/
def FsAns (w w' : World) (e : Ending) (x y : Int) : Prop := Below w.heap.size w w' ∧ ∃ a0 b0 a1 b1 odd a b, e = .returned (.agg #[.int .u64 a0, .int .u64 b0, .int .u64 a1, .int .u64 b1, .bool odd]) ∧ Lh odd a b a0 b0 a1 b1 x y ∧ b0 ≤ x ∧ a0 ≤ x ∧ a1 ≤ x ∧ b1 ≤ x

set_option maxRecDepth 100000 in
set_option maxHeartbeats 4000000 in
theorem findSteps_c (x y : Int) (w : World) (y0 : 0 ≤ y) (hyx : y ≤ x) (x0 : 1 ≤ x) (x1 : x < 18446744073709551616) :
    Calls Tryz.prog 129 #[.int .u64 x, .int .u64 y] w fun e w' => FsAns w w' e x y := by
  go_enter Tryz.func129, Tryz.ntmps129
  go_wp2
  go_loopw [0, 1] (fun c d wr => ∃ (a b a0 b0 a1 b1 : Int) (odd : Bool), c = .int .u64 a ∧ d = .int .u64 b ∧ 0 ≤ a ∧ a ≤ x ∧ 0 ≤ b ∧ b ≤ x ∧ Below w.heap.size w wr ∧ Hid (SB wr w.heap.size 0 0 0 0 false) ∧ Hid (SB wr (w.heap.size + 1) a0 b0 a1 b1 odd) ∧ Hid (Lh odd a b a0 b0 a1 b1 x y) ∧ Hid (b0 ≤ x ∧ a0 ≤ x ∧ a1 ≤ x ∧ b1 ≤ x)) (fun _ d _ => (intOf d).toNat)
  case atStart =>
    refine ⟨x, y, 1, 0, 0, 1, false, rfl, rfl, by omega, by omega, by omega, by omega, ((Below.refl _ _).alloc (Nat.le_refl _) _).alloc (by simp) _, ?_, ?_, lh_start (by omega) y0, ?_⟩
    · exact Below.heap_alloc _ _ _ (by simp) |>.trans (heap_alloc_new w _)
    · show _ = _
      have := heap_alloc_new (w.alloc (.cells #[.int .u64 0, .int .u64 0, .int .u64 0, .int .u64 0, .bool false] 141)) (.cells #[.int .u64 1, .int .u64 0, .int .u64 0, .int .u64 1, .bool false] 141)
      simpa using this
    · show _ ∧ _ ∧ _ ∧ _
      omega
  case round =>
    obtain ⟨a, b, a0, b0, a1, b1, odd, rfl, rfl, ha0, hax, hb0, hbx, hbel, HG, HS, HL, HX⟩ := hrel
    obtain ⟨s0, s1, s2, s3, s4⟩ := HS.out.cells
    obtain ⟨r0, r1, r2, r3, r4⟩ := HG.out.cells
    have fz := HS.out.frozen
    have fr := HG.out.frozen
    have alS : ∀ o, SB (wr.alloc o) (w.heap.size + 1) a0 b0 a1 b1 odd := fun o => HS.out.below ((Below.refl _ _).alloc (Nat.le_refl _) o)
    have alG : ∀ o, SB (wr.alloc o) w.heap.size 0 0 0 0 false := fun o => HG.out.below ((Below.refl _ _).alloc (Nat.le_refl _) o)
    have sa0 := fun o => (alS o).cells.1
    have sa1 := fun o => (alS o).cells.2.1
    have sa2 := fun o => (alS o).cells.2.2.1
    have sa3 := fun o => (alS o).cells.2.2.2.1
    have sa4 := fun o => (alS o).cells.2.2.2.2
    have ga0 := fun o => (alG o).cells.1
    have ga1 := fun o => (alG o).cells.2.1
    have ga2 := fun o => (alG o).cells.2.2.1
    have ga3 := fun o => (alG o).cells.2.2.2.1
    have ga4 := fun o => (alG o).cells.2.2.2.2
    have fza := fun o => (alS o).frozen
    have fra := fun o => (alG o).frozen
    have ltS := HS.out.lt
    clear alS alG
    by_cases hbz : b = 0
    · subst hbz
      go_wp2
      obtain ⟨t0, t1, t2, t3, t4⟩ := (HG.out.set5 a0 b0 a1 b1 odd).cells
      refine bodyPost_ret (v := .agg #[.int .u64 a0, .int .u64 b0, .int .u64 a1, .int .u64 b1, .bool odd]) (by simp [results, Tryz.results129, go_sem, t0, t1, t2, t3, t4]) rfl ⟨?_, a0, b0, a1, b1, odd, _, _, rfl, HL.out, HX.out⟩
      exact below_only hbel (only_set5 _ _ _ _ _ _ _) (Nat.le_refl _) hbel.size
    · have hbp : 0 < b := by omega
      have hbb : (b != 0) = true := by simp [hbz]
      obtain ⟨m1, m2, m3, m4, m5, m6⟩ := lh_room HL.out hyx hbp
      have cstep := lh_step HL.out hyx hbp
      obtain ⟨q, hq⟩ : ∃ q, a / b = q := ⟨_, rfl⟩
      have hq0 : 0 ≤ q := by rw [← hq]; exact Int.ediv_nonneg ha0 hb0
      have hpr : 0 ≤ a - q * b ∧ a - q * b < b ∧ 0 ≤ q * b := by
        have e1 := Int.emod_nonneg a hbz; have e2 := Int.emod_lt_of_pos a hbp; have e := Int.mul_ediv_add_emod a b
        rw [hq, Int.mul_comm] at e
        exact ⟨by omega, by omega, Int.mul_nonneg hq0 hb0⟩
      rw [hq] at m1 m2 m3 m4 m5 m6 cstep
      obtain ⟨p, hp⟩ : ∃ p, q * b = p := ⟨_, rfl⟩
      obtain ⟨qa, hqa⟩ : ∃ p, q * a1 = p := ⟨_, rfl⟩
      obtain ⟨qb, hqb⟩ : ∃ p, q * b1 = p := ⟨_, rfl⟩
      rw [hp] at hpr m5 cstep
      rw [hqa] at m2 m3 cstep
      rw [hqb] at m1 m4 m5 m6 cstep
      obtain ⟨p1, p2, p3⟩ := hpr
      obtain ⟨l0, l1, l2, l3⟩ := (⟨HL.out.p0, HL.out.p1, HL.out.p2, HL.out.p3⟩ : 0 ≤ a0 ∧ 0 ≤ b0 ∧ 0 ≤ a1 ∧ 1 ≤ b1)
      obtain ⟨z1, z2, z3, z4⟩ := HX.out
      have CS := hid cstep
      have M5 := hid m5
      clear cstep m5
      by_cases c1 : a - p < b0 + qb
      · have c1b : decide (a - p < b0 + qb) = true := by simp [c1]
        go_wp2
        obtain ⟨t0, t1, t2, t3, t4⟩ := ((HG.out.below ((Below.refl _ _).alloc (Nat.le_refl _) (.cells #[.int .u64 a1, .int .u64 b1, .int .u64 (a0 + qa), .int .u64 (b0 + qb), .bool !odd] 141))).set5 a0 b0 a1 b1 odd).cells
        refine bodyPost_ret (v := .agg #[.int .u64 a0, .int .u64 b0, .int .u64 a1, .int .u64 b1, .bool odd]) (by simp [results, Tryz.results129, go_sem, t0, t1, t2, t3, t4]) rfl ⟨?_, a0, b0, a1, b1, odd, _, _, rfl, HL.out, HX.out⟩
        exact below_only (hbel.alloc hbel.size _) (only_set5 _ _ _ _ _ _ _) (Nat.le_refl _) (by have := hbel.size; simp; omega)
      · have c1b : decide (a - p < b0 + qb) = false := by simp; omega
        have hm5 := M5.out (by omega)
        by_cases c2 : b - (a - p) < b1 + (b0 + qb)
        · have c2b : decide (b - (a - p) < b1 + (b0 + qb)) = true := by simp [c2]
          go_wp2
          obtain ⟨t0, t1, t2, t3, t4⟩ := ((HG.out.below ((Below.refl _ _).alloc (Nat.le_refl _) (.cells #[.int .u64 a1, .int .u64 b1, .int .u64 (a0 + qa), .int .u64 (b0 + qb), .bool !odd] 141))).set5 a0 b0 a1 b1 odd).cells
          refine bodyPost_ret (v := .agg #[.int .u64 a0, .int .u64 b0, .int .u64 a1, .int .u64 b1, .bool odd]) (by simp [results, Tryz.results129, go_sem, t0, t1, t2, t3, t4]) rfl ⟨?_, a0, b0, a1, b1, odd, _, _, rfl, HL.out, HX.out⟩
          exact below_only (hbel.alloc hbel.size _) (only_set5 _ _ _ _ _ _ _) (Nat.le_refl _) (by have := hbel.size; simp; omega)
        · have c2b : decide (b - (a - p) < b1 + (b0 + qb)) = false := by simp; omega
          have NX := hid (CS.out (by omega) (by omega))
          go_wp2
          go_region
          all_goals
            go_wp2
            go_roundw
            case rel =>
              have o1 : Only (w.heap.size + 1) wr _ := only_set5 wr (w.heap.size + 1) (.int .u64 a1) (.int .u64 b1) (.int .u64 (a0 + qa)) (.int .u64 (b0 + qb)) (.bool !odd)
              have b1' := below_only hbel o1 (by omega) hbel.size
              refine ⟨b, a - p, a1, b1, a0 + qa, b0 + qb, !odd, rfl, rfl, by omega, by omega, by omega, by omega, (b1'.alloc b1'.size _).drew, ?_, ?_, NX.out, ?_⟩
              · exact (show SB _ _ _ _ _ _ _ from (o1.block _ HG.out.lt (by omega)).trans HG.out).below ((Below.refl _ _).alloc (Nat.le_refl _) _).drew
              · exact (HS.out.set5 a1 b1 (a0 + qa) (b0 + qb) (!odd)).below ((Below.refl _ _).alloc (Nat.le_refl _) _).drew
              · show _ ∧ _ ∧ _ ∧ _
                omega
            case measure => simp [intOf]; omega
end Go.Proofs.YthofcgpghbaccaaGreat
namespace Go.Proofs.YthofcgpghbaccaaGreat
open Go.RowKit

/-- The bits of two limbs, put together. -/
theorem bits_two (h l s : Int) (h0 : 0 ≤ h) (l0 : 0 ≤ l) (l1 : l < 18446744073709551616) (s0 : 0 ≤ s) (s1 : s ≤ 63) (hh : h < 2 ^ (64 - s).toNat) :
    ∃ H D Z, IntKind.u64.wrap (h * 2 ^ s.toNat) = H ∧ 0 ≤ H ∧ H < 18446744073709551616 ∧ l / 2 ^ (64 - s).toNat = D ∧ 0 ≤ D ∧ D < 18446744073709551616 ∧ bits BinOp.or .u64 H D = Z ∧ 0 ≤ Z ∧ Z < 18446744073709551616 ∧ Hid (h * 18446744073709551616 + l = Z * 2 ^ (64 - s).toNat + l % 2 ^ (64 - s).toNat) := by
  have hPQ : (2 : Int) ^ s.toNat * 2 ^ (64 - s).toNat = 18446744073709551616 := by rw [← Int.pow_add, show s.toNat + (64 - s).toNat = 64 by omega]; rfl
  have p0 : (0 : Int) < 2 ^ s.toNat := Int.pow_pos (by decide)
  have q0 : (0 : Int) < 2 ^ (64 - s).toNat := Int.pow_pos (by decide)
  obtain ⟨P, hP⟩ : ∃ P : Int, 2 ^ s.toNat = P := ⟨_, rfl⟩
  obtain ⟨Q, hQ⟩ : ∃ Q : Int, 2 ^ (64 - s).toNat = Q := ⟨_, rfl⟩
  have d1 : l / Q < P := Int.ediv_lt_of_lt_mul (by omega) (by rw [← hP, ← hQ, hPQ]; exact l1)
  have d0 : 0 ≤ l / Q := Int.ediv_nonneg l0 (by omega)
  have h1 : (h + 1) * P ≤ Q * P := Int.mul_le_mul_of_nonneg_right (by omega) (by omega)
  have hPQ' : Q * P = 18446744073709551616 := by rw [← hP, ← hQ, Int.mul_comm]; exact hPQ
  have hP0 : 0 ≤ h * P := Int.mul_nonneg h0 (by omega)
  rw [Int.add_mul, Int.one_mul, hPQ'] at h1
  have hPle : P ≤ 18446744073709551616 := by omega
  have hw : IntKind.u64.wrap (h * 2 ^ s.toNat) = h * P := by rw [hP, IntKind.wrap_u64]; omega
  refine ⟨_, _, h * P + l / Q, hw, hP0, by omega, rfl, by rw [hQ]; exact d0, by rw [hQ]; omega, ?_, ?_, ?_, ?_⟩
  · rw [hQ]
    exact bits_join .u64 64 (by decide) wraps_u64 s.toNat _ _ hP0 (by rw [hP]; exact Int.mul_emod_left _ _) (by omega) d0 (by rw [hP]; exact d1) (by omega)
  · omega
  · omega
  · show _ = _
    rw [hQ]
    have e := Int.mul_ediv_add_emod l Q
    rw [Int.add_mul, Int.mul_assoc, Int.mul_comm P Q, hPQ', Int.mul_comm (l / Q) Q]
    omega

set_option maxRecDepth 100000 in
set_option maxHeartbeats 1000000 in
theorem bitsFrom_c (ao : Option Addr) (n cap k : Nat) (z : Int) (f : Nat → Int) (s : Int) (w : World) (hn : n ≤ 140737488355328) (hk : k + 1 ≤ 140737488355328) (hz : z = (k : Int) + 1) (hr : Rd .u64 w ao n f) (hf : Lm f n) (s0 : 0 ≤ s) (s1 : s ≤ 63) (hh : ext f n (k + 1) < 2 ^ (64 - s).toNat) :
    ∃ Z, 0 ≤ Z ∧ Z < 18446744073709551616 ∧ ext f n (k + 1) * 18446744073709551616 + ext f n k = Z * 2 ^ (64 - s).toNat + ext f n k % 2 ^ (64 - s).toNat ∧ Calls Tryz.prog 139 #[.slice ao n cap, .int .i64 z, .int .i64 s] w fun e w' => e = .returned (.int .u64 Z) ∧ ∃ q, w' = w.drewN q := by
  have lm : ∀ j, 0 ≤ ext f n j ∧ ext f n j < 18446744073709551616 := fun j => by
    by_cases hj : j < n
    · rw [ext_in _ _ _ hj]; exact hf j hj
    · rw [ext_out _ _ _ (by omega)]; omega
  have C1 := hid (fun W (h : Rd .u64 W ao n f) => limbAt_c ao n cap f (k + 1) W hn hk h)
  have C2 := hid (fun W (h : Rd .u64 W ao n f) => limbAt_c ao n cap f k W hn (by omega) h)
  obtain ⟨x, hx⟩ : ∃ x, ext f n (k + 1) = x := ⟨_, rfl⟩
  obtain ⟨y, hy⟩ : ∃ y, ext f n k = y := ⟨_, rfl⟩
  have lx := lm (k + 1); have ly := lm k
  rw [hx] at lx hh C1 ⊢
  rw [hy] at ly C2 ⊢
  obtain ⟨H, D, Z, e1, H0, H1, e2, D0, D1, e3, Z0, Z1, HZ⟩ := bits_two x y s lx.1 ly.1 ly.2 s0 s1 hh
  refine ⟨Z, Z0, Z1, HZ.out, ?_⟩
  have HR := hid hr
  obtain ⟨x0, x1⟩ := lx
  obtain ⟨y0, y1⟩ := ly
  have z0 : 1 ≤ z := by omega
  have z1 : z ≤ 140737488355328 := by omega
  have C3 := C2
  rw [show ((k + 1 : Nat) : Int) = z by omega] at C1
  rw [show ((k : Nat) : Int) = z - 1 by omega] at C3
  have C4 := C3
  rw [show z - 1 = IntKind.i64.wrap (z - 1) by rw [IntKind.wrap_i64]; omega] at C4
  have D1 := hid (fun q => (C1.out (w.drewN q) (show Rd .u64 (w.drewN q) ao n f from hr)).mono (R' := fun e w'' => e = .returned (.int .u64 x) ∧ ∃ n, w'' = w.drewN n) (fun _ _ h => ⟨h.1, _, h.2⟩))
  have D3 := hid (fun q => (C3.out (w.drewN q) (show Rd .u64 (w.drewN q) ao n f from hr)).mono (R' := fun e w'' => e = .returned (.int .u64 y) ∧ ∃ n, w'' = w.drewN n) (fun _ _ h => ⟨h.1, _, h.2⟩))
  have D4 := hid (fun q => (C4.out (w.drewN q) (show Rd .u64 (w.drewN q) ao n f from hr)).mono (R' := fun e w'' => e = .returned (.int .u64 y) ∧ ∃ n, w'' = w.drewN n) (fun _ _ h => ⟨h.1, _, h.2⟩))
  clear hr hf lm hx hy hh hz C2 hk C1 C3 C4
  go_enter Tryz.func139, Tryz.ntmps139
  go_wp2
  go_quiet (first | (go_at_call 152; with_reducible exact D1.out _) | (go_at_call 152; with_reducible exact D3.out _) | (go_at_call 152; with_reducible exact D4.out _))
  go_wp2
  go_ret
  exact ⟨rfl, _, rfl⟩
end Go.Proofs.YthofcgpghbaccaaGreat
namespace Go.Proofs.YthofcgpghbaccaaGreat
open Go.RowKit

theorem hb_num {g : Nat → Int} {k : Nat} {Z Q : Int} (hl : Lm g (k + 2)) (q0 : 0 < Q) (he : g (k + 1) * 18446744073709551616 + g k = Z * Q + g k % Q) :
    vf g (k + 2) = Z * (Q * pw k) + (g k % Q * pw k + vf g k) ∧ 0 ≤ g k % Q * pw k + vf g k ∧ g k % Q * pw k + vf g k < Q * pw k := by
  have r0 := Int.emod_nonneg (g k) (show Q ≠ 0 by omega)
  have r1 := Int.emod_lt_of_pos (g k) q0
  have v0 := vf_nonneg (hl.mono (m := k) (by omega))
  have v1 := vf_lt (hl.mono (m := k) (by omega))
  have p0 := pw_pos k
  have m0 : 0 ≤ g k % Q * pw k := Int.mul_nonneg r0 (by omega)
  have m1 : (g k % Q + 1) * pw k ≤ Q * pw k := Int.mul_le_mul_of_nonneg_right (by omega) (by omega)
  rw [Int.add_mul, Int.one_mul] at m1
  refine ⟨?_, by omega, by omega⟩
  rw [top2, he]; grind
theorem top_le {f g : Nat → Int} {k : Nat} (hf : Lm f (k + 1)) (hg : Lm g (k + 1)) (h : vf g (k + 1) ≤ vf f (k + 1)) : g k ≤ f k := by
  apply Int.le_of_lt_add_one
  have a1 := vf_lt (hf.mono (m := k) (by omega)); have a2 := vf_nonneg (hg.mono (m := k) (by omega))
  rw [vf_succ, vf_succ] at h
  have : g k * pw k < (f k + 1) * pw k := by rw [Int.add_mul, Int.one_mul]; omega
  exact Int.lt_of_mul_lt_mul_right this (Int.le_of_lt (pw_pos k))

/-- The highest bits of two numbers, at the same places. -/
def Top2 (A B x y : Int) : Prop := 9223372036854775808 ≤ x ∧ x < 18446744073709551616 ∧ 0 ≤ y ∧ y ≤ x ∧ ∃ T ra rb, A = x * T + ra ∧ B = y * T + rb ∧ 0 ≤ ra ∧ ra < T ∧ 0 ≤ rb ∧ rb < T

set_option maxRecDepth 100000 in
set_option maxHeartbeats 2000000 in
theorem highBits_c (ao bo : Option Addr) (n m ca cb : Nat) (f h : Nat → Int) (w : World) (hn : n ≤ 8796093022208) (hn2 : 2 ≤ n) (hmn : m ≤ n) (hr : Rd .u64 w ao n f) (hs : Rd .u64 w bo m h) (hf : Lm f n) (hh : Lm h m) (ff : Fm f n) (hle : vf h m ≤ vf f n) :
    ∃ x y, Top2 (vf f n) (vf h m) x y ∧ Calls Tryz.prog 130 #[.slice ao n ca, .slice bo m cb] w fun e w' => e = .returned (.tuple #[.int .u64 x, .int .u64 y]) ∧ ∃ q, w' = w.drewN q := by
  obtain ⟨k, rfl⟩ : ∃ k, n = k + 2 := ⟨n - 2, by omega⟩
  obtain ⟨b, ob, rfl⟩ := hr.at (by omega)
  obtain ⟨y, hy⟩ : ∃ y, f (k + 1) = y := ⟨_, rfl⟩
  have hcell : w.cell? ⟨b, ob + (k + 1), none⟩ = some (.int .u64 y) := by rw [← hy]; exact hr.cell (by omega)
  have hy01 := hf (k + 1) (by omega)
  have hyne : y ≠ 0 := by rw [← hy]; rcases ff with h | h; omega; simpa using h
  rw [hy] at hy01
  obtain ⟨y, rfl⟩ := Int.eq_ofNat_of_zero_le hy01.1
  obtain ⟨s, s0, s1, hse, hP1, hP2⟩ := lead_nums y (by omega) (by omega)
  have cl := Tryz.bits_LeadingZeros64 (y : Int) w (by omega) (by omega)
  rw [Int.toNat_natCast, hse] at cl
  have hPQ : (2 : Int) ^ s.toNat * 2 ^ (64 - s).toNat = 18446744073709551616 := by rw [← Int.pow_add, show s.toNat + (64 - s).toNat = 64 by omega]; rfl
  obtain ⟨P, hP⟩ : ∃ P : Int, 2 ^ s.toNat = P := ⟨_, rfl⟩
  obtain ⟨Q, hQ⟩ : ∃ Q : Int, 2 ^ (64 - s).toNat = Q := ⟨_, rfl⟩
  have p0 : 0 < P := by rw [← hP]; exact Int.pow_pos (by decide)
  have q0 : 0 < Q := by rw [← hQ]; exact Int.pow_pos (by decide)
  rw [hP] at hP1 hP2 hPQ
  rw [hQ] at hPQ
  have hyQ : (y : Int) < Q := by
    have : ((y : Int) + 1) * P ≤ Q * P := by rw [Int.mul_comm Q P, hPQ]; exact hP2
    have := Int.le_of_mul_le_mul_right this p0
    omega
  have lmx : Lm (ext h m) (k + 2) := fun j hj => by
    by_cases hjm : j < m
    · rw [ext_in _ _ _ hjm]; exact hh j hjm
    · rw [ext_out _ _ _ (by omega)]; omega
  have hvh : vf (ext h m) (k + 2) = vf h m := vf_ext_list _ _ _ hmn
  have htop := top_le hf lmx (by rw [hvh]; exact hle)
  rw [hy] at htop
  have e1 : ext f (k + 2) (k + 1) = f (k + 1) := ext_in _ _ _ (by omega)
  have e0 : ext f (k + 2) k = f k := ext_in _ _ _ (by omega)
  obtain ⟨z, hz⟩ : ∃ z, (k : Int) + 2 - 1 = z := ⟨_, rfl⟩
  have hzn : z.toNat = k + 1 := by omega
  have hz0 : 0 ≤ z := by omega
  have hz1 : z < (k : Int) + 2 := by omega
  obtain ⟨X, X0, X1, hX, cX⟩ := bitsFrom_c (some ⟨b, ob, none⟩) (k + 2) ca k z f s w (by omega) (by omega) (by omega) hr hf s0 s1 (by rw [e1, hy, hQ]; exact hyQ)
  have cY0 := fun q => bitsFrom_c bo m cb k z h s (w.drewN q) (by omega) (by omega) (by omega) (show Rd .u64 (w.drewN q) bo m h from hs) hh s0 s1 (by rw [hQ]; omega)
  rw [e1, e0, hQ] at hX
  obtain ⟨Y, Y0, Y1, hY, _⟩ := cY0 0
  rw [hQ] at hY
  have cY : ∀ q, Calls Tryz.prog 139 #[.slice bo m cb, .int .i64 z, .int .i64 s] (w.drewN q) fun e w' => e = .returned (.int .u64 Y) ∧ ∃ n, w' = (w.drewN q).drewN n := fun q => by
    obtain ⟨Y', a1, a2, a3, a4⟩ := cY0 q
    rw [hQ] at a3
    have : Y' = Y := by
      have e : Y' * Q = Y * Q := by omega
      exact Int.eq_of_mul_eq_mul_right (by omega) e
    rw [this] at a4
    exact a4
  obtain ⟨A1, A2, A3⟩ := hb_num hf q0 hX
  obtain ⟨B1, B2, B3⟩ := hb_num lmx q0 hY
  rw [hvh] at B1
  have hXlow : 9223372036854775808 ≤ X := by
    have m1 : 9223372036854775808 * Q ≤ (y : Int) * P * Q := Int.mul_le_mul_of_nonneg_right hP1 (by omega)
    rw [Int.mul_assoc, hPQ] at m1
    have r1 := Int.emod_lt_of_pos (f k) q0
    have fk := hf k (by omega)
    have : 9223372036854775808 * Q < (X + 1) * Q := by rw [Int.add_mul, Int.one_mul, hy] at *; omega
    have := Int.lt_of_mul_lt_mul_right this (by omega)
    omega
  have hYX : Y ≤ X := by
    have hT : 0 < Q * pw k := Int.mul_pos q0 (pw_pos k)
    have : Y * (Q * pw k) < (X + 1) * (Q * pw k) := by rw [Int.add_mul, Int.one_mul]; omega
    have := Int.lt_of_mul_lt_mul_right this (by omega)
    omega
  refine ⟨X, Y, ⟨hXlow, X1, Y0, hYX, Q * pw k, _, _, A1, B1, A2, A3, B2, B3⟩, ?_⟩
  have CL := hid cl; have CX := hid cX; have CY := hid cY
  clear cl cX cY cY0 hf hh hr hs ff hle hP1 hP2 hPQ hX hY A1 A2 A3 B1 B2 B3 hvh htop lmx e1 e0 hy hse hP hQ
  go_enter Tryz.func130, Tryz.ntmps130
  go_wp2_with fail
  refine CL.out.mono ?_
  rintro e w' ⟨rfl, rfl⟩
  go_wp2_with fail
  refine CX.out.mono ?_
  rintro e w' ⟨rfl, q1, rfl⟩
  go_wp2_with fail
  refine (CY.out _).mono ?_
  rintro e w' ⟨rfl, q2, rfl⟩
  go_wp2
  go_ret2
  exact ⟨rfl, _, by (repeat rw [World.drewN_drewN]) <;> rfl⟩
end Go.Proofs.YthofcgpghbaccaaGreat
