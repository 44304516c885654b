/-
  The walk of the document's reference for nat: half, Gcd. The walk of the document's reference for nat: Gcd. Walks of the document's reference for nat: DocMul, DocDivMod, DocGcd. Walks of the document's reference for whole: Form, From, Text, Read, DocText, DocRead. Walks of the document's reference for rat: word, Mk of short numbers. Walks of the document's reference for rat: Mk of short numbers. Walks of the document's reference for rat: To, DocMake of short numbers; the statements' own num. Walks of the statements' own num, and of package rat's calls Make and Floor. The walk of package rat's call Floor. Walks of the document's Same and Light of rational numbers, and of the statements' own light. Walks of the document's reference for whole: Neg, Add, Sub, Mul, Sign, Cmp. Walks of the document's reference for whole: Sub, Sign, Cmp, two, DocNeg, DocCmp. Walks of the document's reference for whole: DocNeg, DocCmp, Doc. Walks of the document's reference for rat: Form.
-/
import Derived.Test.YtclopblgdiahiaaGreatDoorZ7
import Derived.Test.YtclopblgdiahiaaGreatDoorZ5
import Derived.Test.YtclopblgdiahiaaGreatDoorZ3
namespace Go.Proofs.YtclopblgdiahiaaGreatDoor
open Go.RowKit

theorem two_cop {b : Nat} (h : b % 2 = 1) : Nat.Coprime 2 b := by
  unfold Nat.Coprime
  have h1 : Nat.gcd 2 b ∣ 2 := Nat.gcd_dvd_left _ _
  have h2 : Nat.gcd 2 b ∣ b := Nat.gcd_dvd_right _ _
  have h3 := Nat.le_of_dvd (by decide) h1
  have h4 : Nat.gcd 2 b ≠ 0 := by intro h; rw [h] at h1; simp at h1
  rcases (show Nat.gcd 2 b = 1 ∨ Nat.gcd 2 b = 2 by omega) with h5 | h5
  · exact h5
  · rw [h5] at h2; omega
theorem gcd_half2 {a b : Nat} (ha : a % 2 = 0) (hb : b % 2 = 0) : Nat.gcd a b = Nat.gcd (a / 2) (b / 2) * 2 := by
  rw [← Nat.gcd_mul_right, show a / 2 * 2 = a by omega, show b / 2 * 2 = b by omega]
theorem gcd_halfl {a b : Nat} (ha : a % 2 = 0) (hb : b % 2 = 1) : Nat.gcd (a / 2) b = Nat.gcd a b := by
  have := Nat.Coprime.gcd_mul_left_cancel (a / 2) (two_cop hb)
  rw [show 2 * (a / 2) = a by omega] at this
  exact this.symm
theorem gcd_halfr {a b : Nat} (ha : a % 2 = 1) (hb : b % 2 = 0) : Nat.gcd a (b / 2) = Nat.gcd a b := by
  rw [Nat.gcd_comm, gcd_halfl hb ha, Nat.gcd_comm]
theorem gcd_take {a b : Nat} (h : b ≤ a) : Nat.gcd (a - b) b = Nat.gcd a b := by
  have := Nat.gcd_add_self_left b (a - b)
  rw [Nat.sub_add_cancel h] at this
  exact this.symm
/-- The number that digits in memory tell. -/
noncomputable def dOf (w : World) (v : Value) : Nat := match v with
  | .slice (some a) k _ => (vd (fun j => match w.cell? ⟨a.block, a.off + j, none⟩ with | some (.int _ z) => z | _ => 0) k).toNat
  | _ => 0
theorem Dn.dOf {w x n c d V} (h : Dn w x n d V) : dOf w (.slice x n c) = V := by
  rcases Nat.eq_zero_or_pos n with h0 | h0
  · subst h0
    rw [h.zero]
    cases x <;> rfl
  · obtain ⟨b, o, rfl⟩ := h.rd.at h0
    have e : vd (fun j => match w.cell? ⟨b, o + j, none⟩ with | some (.int _ z) => z | _ => 0) n = vd d n := vd_congr (fun j hj => by
      have := h.rd.cell hj
      simp only [this])
    show (vd _ n).toNat = V
    rw [e, h.val]; simp
/-- The lowest digit tells whether a number is even. -/
theorem Dn.par {w x n d V} (h : Dn w x n d V) (hn : 0 < n) : (d 0 % 2 = 0 ↔ V % 2 = 0) := by
  obtain ⟨m, rfl⟩ : ∃ m, n = m + 1 := ⟨n - 1, by omega⟩
  have h1 := vd_cons d 0 m
  rw [sh_zero, h.val] at h1
  omega
/-- Half of a number, digit by digit. -/
theorem half_step {D f : Nat → Int} {k : Nat} {b0 b b' v : Int} (h : 2 * vd D k = vd f k - b0 + b * pd k) (hv : 2 * v = f k - b + b' * 4294967296) (D' : Nat → Int) (hD : ∀ j, j < k → D' j = D j) (hk : D' k = v) : 2 * vd D' (k + 1) = vd f (k + 1) - b0 + b' * pd (k + 1) := by
  rw [vd_succ, vd_succ, pd_succ, vd_congr hD, hk]
  grind

set_option maxRecDepth 100000 in
set_option maxHeartbeats 2000000 in
theorem rhalf_c {w : World} {x : Option Addr} {n c : Nat} {f : Nat → Int} {A : Nat} (ha : Dn w x n f A) (hn : n ≤ 65536) (hA : A % 2 = 0) (hA0 : 0 < A) :
    Calls Tryz.prog 105 #[.slice x n c] w fun e w' => ∃ z k c' d, e = .returned (.slice z k c') ∧ Below w.heap.size w w' ∧ Hid (k ≤ n ∧ Dn w' z k d (A / 2)) := by
  have hn0 := ha.pos hA0
  have hpar := (ha.par hn0).2 hA
  have HA := hid ha; have HPar := hid hpar
  clear ha hpar
  go_enter Tryz.func105, Tryz.ntmps105
  go_wp2_with (at_make; refine wpList_make_blk .u64 w rfl (.tmp 7) (.tmp 7) 22 rfl 28 8 Tryz.underlying22 Tryz.infoU64 .i64 .i64 n n n rfl rfl rfl rfl (by omega) (by unfold maxLen; omega) ?_; intro wa hba hbela)
  go_loopw [11] (fun t wr => ∃ (k : Nat) (Q : Nat → Int), k ≤ n ∧ t = .int .i64 k ∧ Below w.heap.size w wr ∧ Blk .u64 28 wr w.heap.size n Q ∧ Hid (Dg Q n) ∧ Hid (2 * vd Q k = vd f k - f 0 % 2 + (ext f n k % 2) * pd k)) (fun t _ => n - (intOf t).toNat)
  case atStart => exact ⟨0, fun _ => 0, by omega, rfl, hbela, hba, fun j _ => ⟨Int.le_refl 0, show (0 : Int) < 4294967296 by decide⟩, hid (by rw [ext_in _ _ _ hn0]; simp [vd, pd]; omega)⟩
  case round =>
    clear hba hbela
    obtain ⟨k, Q, hk, rfl, hbel, hbl, HDg, HV⟩ := hrel
    by_cases hlt : k < n
    · have hr := HA.out.rd
      obtain ⟨b, o, rfl⟩ := hr.at (by omega)
      obtain ⟨y, hy⟩ : ∃ y, f k = y := ⟨_, rfl⟩
      have hcell : wr.cell? ⟨b, o + k, none⟩ = some (.int .u64 y) := by rw [← hy]; exact (hr.below hbel (Nat.le_refl _)).cell hlt
      obtain ⟨y0, y1⟩ := HA.out.dg k hlt
      rw [hy] at y0 y1
      have hcz := hbl.cell (j := k) hlt
      have hfz := hbl.frozen k
      have hbb : b ≠ w.heap.size := by have := hr.und (by omega) _ rfl; simp at this; omega
      have HX := hid (show ext f n k = y from (ext_in _ _ _ hlt).trans hy)
      have HY := hid hy
      by_cases hlt2 : k + 1 < n
      · obtain ⟨u, hu⟩ : ∃ u, f (k + 1) = u := ⟨_, rfl⟩
        have hcelu : wr.cell? ⟨b, o + (k + 1), none⟩ = some (.int .u64 u) := by rw [← hu]; exact (hr.below hbel (Nat.le_refl _)).cell hlt2
        obtain ⟨u0, u1⟩ := HA.out.dg (k + 1) hlt2
        rw [hu] at u0 u1
        have HU := hid (show ext f n (k + 1) = u from (ext_in _ _ _ hlt2).trans hu)
        obtain ⟨s, hs⟩ : ∃ s, y / 2 + u % 2 * 2147483648 = s := ⟨_, rfl⟩
        have hst := half_step (D' := upd (upd Q k (y / 2)) k s) (v := s) (b' := u % 2) HV.out (by rw [HX.out, hy]; omega) (fun j hj => by rw [upd_other _ _ _ _ (by omega), upd_other _ _ _ _ (by omega)]) (upd_same _ _ _)
        have HSt := hid hst; have HS := hid hs
        have hbl2 := hbl.set k (y / 2)
        have hcz2 := hbl2.cell (j := k) hlt
        rw [upd_same] at hcz2
        have hfz2 := hbl2.frozen k
        have hcu2 : (wr.setCell ⟨w.heap.size, k, none⟩ (.int .u64 (y / 2))).cell? ⟨b, o + (k + 1), none⟩ = some (.int .u64 u) := by
          rw [World.cell?_setCell_other _ _ _ _ (fun he => hbb (congrArg Addr.block he).symm)]; exact hcelu
        have HBl := hid hbl2
        clear hst hy hu hr hbl2 hs
        go_wp2_with fail
        go_region
        all_goals go_wp2
        go_roundw
        case rel =>
          refine ⟨k + 1, _, by omega, by go_num, ?_, (HBl.out.set _ _).drew, (HDg.out.upd ⟨?_, ?_⟩).upd ⟨?_, ?_⟩, hid ?_⟩
          · exact below_only hbel ((((Only.refl _ _).setCell _ _ _).setCell _ _ _).drew) (Nat.le_refl _) hbel.size
          · omega
          · omega
          · omega
          · omega
          · rw [HU.out]; have e := HSt.out; rw [← HS.out] at e; exact e
        case measure => simp [intOf]; omega
      · have HU := hid (show ext f n (k + 1) = 0 from ext_out _ _ _ (by omega))
        have hst := half_step (D' := upd Q k (y / 2)) (v := y / 2) (b' := 0) HV.out (by rw [HX.out, hy]; omega) (fun j hj => by rw [upd_other _ _ _ _ (by omega)]) (upd_same _ _ _)
        have HSt := hid hst
        clear hst hy hr
        go_wp2
        go_roundw
        case rel =>
          refine ⟨k + 1, _, by omega, by go_num, ?_, hbl.set _ _, HDg.out.upd ⟨?_, ?_⟩, hid ?_⟩
          · exact below_only hbel ((Only.refl _ _).setCell _ _ _) (Nat.le_refl _) hbel.size
          · omega
          · omega
          · rw [HU.out]; exact HSt.out
        case measure => simp [intOf]; omega
    · obtain rfl : k = n := by omega
      go_wp2_with fail
      refine (low_c (some ⟨w.heap.size, 0, none⟩) k k Q wr (Nat.le_refl _) (by omega) (hbl.rd0 (Nat.le_refl _)) (fun h => by cases h)).mono ?_
      rintro e w2 ⟨rfl, k1, hk1, hz, hfm, rfl⟩
      have HZ2 := hid hz; have HFM := hid hfm
      clear hz hfm
      go_wp2
      go_ret
      refine ⟨_, k1, _, Q, rfl, hbel, hk1, (hbl.rd0 (Nat.le_refl _)).take hk1, HDg.out.mono hk1, HFM.out, ?_⟩
      rw [trim_vald hk1 HZ2.out]
      have h1 := HV.out
      rw [ext_out _ _ _ (Nat.le_refl _), HPar.out, HA.out.val] at h1
      omega
end Go.Proofs.YtclopblgdiahiaaGreatDoor
namespace Go.Proofs.YtclopblgdiahiaaGreatDoor
open Go.RowKit

theorem twos_few {w x n d A} {a k : Nat} (h : Dn w x n d A) (ha : a * 2 ^ k = A) (h0 : 0 < a) : k < 32 * n := by
  have h1 := vd_lt h.dg
  rw [h.val, pd_pow] at h1
  have h2 : A < 2 ^ (32 * n) := by exact_mod_cast h1
  apply Nat.lt_of_not_le; intro hge
  have h3 : 2 ^ (32 * n) ≤ 2 ^ k := Nat.pow_le_pow_right (by decide) hge
  have h4 : 1 * 2 ^ k ≤ a * 2 ^ k := Nat.mul_le_mul_right _ h0
  omega
theorem half_half {a k A : Nat} (h : a * 2 ^ k = A) (ha : a % 2 = 0) : a / 2 * 2 ^ (k + 1) = A := by
  rw [Nat.pow_succ, ← h]
  have : a = a / 2 * 2 := by omega
  generalize a / 2 = u at *
  subst this
  rw [Nat.mul_assoc, Nat.mul_comm (2 ^ k) 2]
theorem par_dec {z : Int} {v : Nat} (h : (z % 2 = 0 ↔ v % 2 = 0)) (hv : v % 2 = 1) : ¬ (z % 2 = 0) := fun e => by have := h.1 e; omega

set_option maxRecDepth 100000 in
set_option maxHeartbeats 8000000 in
theorem rgcd_c {w : World} {x : Option Addr} {n c : Nat} {f : Nat → Int} {A : Nat} {y : Option Addr} {m e : Nat} {g : Nat → Int} {B : Nat} (ha : Dn w x n f A) (hb : Dn w y m g B) (hn : n ≤ 8192) (hm : m ≤ 8192) :
    Calls Tryz.prog 66 #[.slice x n c, .slice y m e] w fun e w' => ∃ z k c' d, e = .returned (.slice z k c') ∧ Below w.heap.size w w' ∧ Hid (k ≤ n + m ∧ Dn w' z k d (Nat.gcd A B)) := by
  by_cases hn0 : n = 0
  · subst hn0
    have hA := ha.zero
    have HB := hid hb; have HA0 := hid hA
    clear ha hb hA
    go_enter Tryz.func66, Tryz.ntmps66
    go_wp2
    go_ret
    exact ⟨y, m, e, g, rfl, Below.refl _ _, by omega, by rw [HA0.out, Nat.gcd_zero_left]; exact HB.out⟩
  by_cases hm0 : m = 0
  · subst hm0
    have hB := hb.zero
    have HA := hid ha; have HB0 := hid hB
    have hnd : ((n : Int) == 0) = false := by simp; omega
    clear ha hb hB
    go_enter Tryz.func66, Tryz.ntmps66
    go_wp2
    go_ret
    exact ⟨x, n, c, f, rfl, Below.refl _ _, by omega, by rw [HB0.out, Nat.gcd_zero_right]; exact HA.out⟩
  have hnd : ((n : Int) == 0) = false := by simp; omega
  have hmd : ((m : Int) == 0) = false := by simp; omega
  have HAp := hid (ha.pos' (by omega)); have HBp := hid (hb.pos' (by omega))
  have HA := hid ha; have HB := hid hb
  clear ha hb
  go_enter Tryz.func66, Tryz.ntmps66
  go_wp2
  go_loopw [0, 1, 5] (fun u v t wr => ∃ (za : Option Addr) (na ca a : Nat) (fa : Nat → Int) (zb : Option Addr) (nb cb b : Nat) (fb : Nat → Int) (k : Nat), u = .slice za na ca ∧ v = .slice zb nb cb ∧ t = .int .i64 (k : Int) ∧ na ≤ n ∧ nb ≤ m ∧ k ≤ 32 * n ∧ Hid (Below w.heap.size w wr) ∧ Hid (Dn wr za na fa a) ∧ Hid (Dn wr zb nb fb b) ∧ Hid (0 < a ∧ 0 < b ∧ a * 2 ^ k = A ∧ Nat.gcd a b * 2 ^ k = Nat.gcd A B)) (fun _ _ t _ => 32 * n + 1 - (intOf t).toNat)
  case atStart => exact ⟨x, n, c, A, f, y, m, e, B, g, 0, rfl, rfl, rfl, by omega, by omega, by omega, Below.refl _ _, HA.out, HB.out, HAp.out, HBp.out, by simp, by simp⟩
  case round =>
    obtain ⟨za, na, ca, a, fa, zb, nb, cb, b, fb, k, rfl, rfl, rfl, hna, hnb, hk, HW, HDa, HDb, HV⟩ := hrel
    have hna0 := HDa.out.pos HV.out.1
    have hnb0 := HDb.out.pos HV.out.2.1
    have hkk := twos_few HA.out HV.out.2.2.1 HV.out.1
    obtain ⟨ba, oa, rfl⟩ := HDa.out.rd.at hna0
    obtain ⟨bb, ob, rfl⟩ := HDb.out.rd.at hnb0
    have hca := HDa.out.rd.cell hna0
    have hcb := HDb.out.rd.cell hnb0
    obtain ⟨xa, hxa⟩ : ∃ t, fa 0 = t := ⟨_, rfl⟩
    obtain ⟨xb, hxb⟩ : ∃ t, fb 0 = t := ⟨_, rfl⟩
    obtain ⟨xa0, xa1⟩ := HDa.out.dg 0 hna0
    obtain ⟨xb0, xb1⟩ := HDb.out.dg 0 hnb0
    have hpa := HDa.out.par hna0
    have hpb := HDb.out.par hnb0
    rw [hxa] at hca xa0 xa1 hpa
    rw [hxb] at hcb xb0 xb1 hpb
    rw [Nat.add_zero] at hca hcb
    clear hxa hxb
    by_cases hev : a % 2 = 0 ∧ b % 2 = 0
    · have hea : xa % 2 = 0 := hpa.2 hev.1
      have heb : xb % 2 = 0 := hpb.2 hev.2
      have HE := hid hev
      clear hev hpa hpb
      go_wp2_with fail
      refine (rhalf_c HDa.out (by omega) HE.out.1 HV.out.1).mono ?_
      rintro e w2 ⟨z2, k2, c2, d2, rfl, hb2, H2⟩
      have HB2 := hid hb2
      clear hb2
      go_wp2_with fail
      refine (rhalf_c (HDb.out.below HB2.out) (by omega) HE.out.2 HV.out.2.1).mono ?_
      rintro e w3 ⟨z3, k3, c3, d3, rfl, hb3, H3⟩
      have HB3 := hid hb3
      have hk2 := H2.out.1; have hk3 := H3.out.1
      clear hb3
      go_wp2
      go_roundw
      case rel =>
        refine ⟨z2, k2, c2, a / 2, d2, z3, k3, c3, b / 2, d3, k + 1, rfl, rfl, by go_num, by omega, by omega, by omega, HW.out.trans ((HB2.out.trans (HB3.out.mono HB2.out.size)).mono HW.out.size), H2.out.2.below HB3.out, H3.out.2, ?_, ?_, half_half HV.out.2.2.1 HE.out.1, ?_⟩
        · have := HE.out; have := HV.out.1; omega
        · have := HE.out; have := HV.out.2.1; omega
        · rw [← HV.out.2.2.2, gcd_half2 HE.out.1 HE.out.2, Nat.pow_succ, Nat.mul_assoc, Nat.mul_comm 2 (2 ^ k)]
      case measure => simp [intOf]; omega
    · have hodd : a % 2 = 1 ∨ b % 2 = 1 := by omega
      have HOd := hid hodd
      have hcase : (xa % 2 == 0) = false ∨ (xa % 2 = 0 ∧ (xb % 2 == 0) = false) := by
        by_cases h1 : xa % 2 = 0
        · right; refine ⟨h1, by simp; intro h2; exact hev ⟨hpa.1 h1, hpb.1 h2⟩⟩
        · exact .inl (by simp; exact h1)
      obtain ⟨g0, hg0⟩ : ∃ g0, Nat.gcd a b = g0 := ⟨_, rfl⟩
      have HG0 := hid hg0; have HG1 : Hid (g0 * 2 ^ k = Nat.gcd A B) := by rw [← hg0]; exact HV.out.2.2.2
      clear hev hpa hpb hodd hg0
      rcases hcase with hcd | ⟨hcd, hcd2⟩
      all_goals
        go_wp2
        go_loopw [0, 1] (fun u v wr => ∃ (za : Option Addr) (na ca a : Nat) (fa : Nat → Int) (zb : Option Addr) (nb cb b : Nat) (fb : Nat → Int), u = .slice za na ca ∧ v = .slice zb nb cb ∧ na ≤ n + m ∧ nb ≤ n + m ∧ Hid (Below w.heap.size w wr) ∧ Hid (Dn wr za na fa a) ∧ Hid (Dn wr zb nb fb b) ∧ Hid (0 < b ∧ (a % 2 = 1 ∨ b % 2 = 1) ∧ Nat.gcd a b = g0)) (fun u v wr => dOf wr u + dOf wr v)
        case atStart => exact ⟨_, na, ca, a, fa, _, nb, cb, b, fb, rfl, rfl, by omega, by omega, HW.out, HDa.out, HDb.out, HV.out.2.1, HOd.out, HG0.out⟩
        case round =>
          clear hcd HDa HDb HW hca hcb HOd HG0 HV
          obtain ⟨za, na, ca, a, fa, zb, nb, cb, b, fb, rfl, rfl, hna, hnb, HW, HDa, HDb, HV⟩ := hrel
          obtain ⟨wr1, hwr⟩ : ∃ x : World, x = wr := ⟨wr, rfl⟩; subst hwr
          by_cases hz : na = 0
          · subst hz
            have ha0 := HDa.out.zero
            have hbg : b = g0 := by have := HV.out.2.2; rw [ha0, Nat.gcd_zero_left] at this; exact this
            have HBG := hid hbg
            clear ha0 hbg
            go_wp2_with fail
            refine (rshl_c zb nb cb (k / 32) k ((k % 32 : Nat) : Int) fb _ (by omega) (by omega) (by omega) (by omega) (by omega) HDb.out.rd HDb.out.dg).mono ?_
            rintro e w9 ⟨z9, k9, c9, d9, rfl, hb9, hr9, hk9, hd9, hf9, hv9⟩
            have hdn : Dn w9 z9 k9 d9 (Nat.gcd A B) := ⟨hr9, hd9, hf9, by
              rw [hv9, HDb.out.val, HBG.out, ← HG1.out, pd_pow, ← Int.pow_add, show ((k % 32 : Nat) : Int).toNat + 32 * (k / 32) = k by omega]
              simp⟩
            have hle := hdn.len (HA.out.below (HW.out.trans (hb9.mono HW.out.size))) (Nat.le_of_dvd HAp.out (Nat.gcd_dvd_left _ _))
            have H9 := hid hdn; have HB9 := hid hb9
            clear hdn hb9 hr9 hd9 hf9 hv9
            go_wp2
            go_ret
            exact ⟨z9, k9, c9, d9, rfl, HW.out.trans (HB9.out.mono HW.out.size), by omega, H9.out⟩
          · have hz0 : 0 < na := by omega
            have hzd : decide (0 < na) = true := decide_eq_true hz0
            have ha0 := HDa.out.pos' (by omega)
            have HA0 := hid ha0
            clear ha0
            go_wp2
            go_loopw [0] (fun u wr => ∃ (zc : Option Addr) (nc cc c : Nat) (fc : Nat → Int), u = .slice zc nc cc ∧ nc ≤ n + m ∧ Hid (Below wr1.heap.size wr1 wr) ∧ Hid (Dn wr zc nc fc c) ∧ Hid (0 < c ∧ c ≤ a ∧ (c % 2 = 1 ∨ b % 2 = 1) ∧ Nat.gcd c b = g0)) (fun u wr => dOf wr u)
            case atStart => exact ⟨za, na, ca, a, fa, rfl, hna, Below.refl _ _, HDa.out, HA0.out, Nat.le_refl _, HV.out.2⟩
            case round =>
              obtain ⟨zc, nc, cc, c, fc, rfl, hnc, HW2, HDc, HV2⟩ := hrel
              obtain ⟨wr2, hwr⟩ : ∃ x : World, x = wr := ⟨wr, rfl⟩; subst hwr
              have hnc0 := HDc.out.pos HV2.out.1
              obtain ⟨bc, oc, rfl⟩ := HDc.out.rd.at hnc0
              have hcc := HDc.out.rd.cell hnc0
              obtain ⟨xc, hxc⟩ : ∃ t, fc 0 = t := ⟨_, rfl⟩
              obtain ⟨xc0, xc1⟩ := HDc.out.dg 0 hnc0
              have hpc := HDc.out.par hnc0
              rw [hxc] at hcc xc0 xc1 hpc
              rw [Nat.add_zero] at hcc
              clear hxc
              by_cases hec : c % 2 = 0
              · have hec' : xc % 2 = 0 := hpc.2 hec
                have HE := hid hec
                clear hec hpc
                go_wp2_with fail
                refine (rhalf_c HDc.out (by omega) HE.out HV2.out.1).mono ?_
                rintro e w4 ⟨z4, k4, c4, d4, rfl, hb4, H4⟩
                have HB4 := hid hb4
                have hk4 := H4.out.1
                clear hb4
                go_wp2
                go_roundw
                case rel =>
                  have h1 := HV2.out.1; have h2 := HV2.out.2.1; have h3 := HE.out; have h4 := HV2.out.2.2.1
                  exact ⟨z4, k4, c4, c / 2, d4, rfl, by omega, HW2.out.trans (HB4.out.mono HW2.out.size), H4.out.2, by omega, by omega, by omega, (gcd_halfl h3 (by omega)).trans HV2.out.2.2.2⟩
                case measure =>
                  show dOf w4 (.slice z4 k4 c4) < dOf wr2 (.slice _ nc cc)
                  rw [H4.out.2.dOf, HDc.out.dOf]
                  have := HV2.out.1; omega
              · have hec' : (xc % 2 == 0) = false := by simp; intro h; exact hec (hpc.1 h)
                have HE := hid (show c % 2 = 1 by omega)
                clear hec hpc
                have HDb2 := hid (HDb.out.below HW2.out)
                go_wp2
                go_loopw [1] (fun v wr => ∃ (ze : Option Addr) (ne ce e : Nat) (fe : Nat → Int), v = .slice ze ne ce ∧ ne ≤ n + m ∧ Hid (Below wr2.heap.size wr2 wr) ∧ Hid (Dn wr ze ne fe e) ∧ Hid (0 < e ∧ e ≤ b ∧ Nat.gcd c e = g0)) (fun v wr => dOf wr v)
                case atStart => exact ⟨zb, nb, cb, b, fb, rfl, hnb, Below.refl _ _, HDb2.out, HV.out.1, Nat.le_refl _, HV2.out.2.2.2⟩
                case round =>
                  obtain ⟨ze, ne, ce, e', fe, rfl, hne, HW3, HDe, HV3⟩ := hrel
                  obtain ⟨wr3, hwr⟩ : ∃ x : World, x = wr := ⟨wr, rfl⟩; subst hwr
                  have hne0 := HDe.out.pos HV3.out.1
                  obtain ⟨be, oe, rfl⟩ := HDe.out.rd.at hne0
                  have hce := HDe.out.rd.cell hne0
                  obtain ⟨xe, hxe⟩ : ∃ t, fe 0 = t := ⟨_, rfl⟩
                  obtain ⟨xe0, xe1⟩ := HDe.out.dg 0 hne0
                  have hpe := HDe.out.par hne0
                  rw [hxe] at hce xe0 xe1 hpe
                  rw [Nat.add_zero] at hce
                  clear hxe hcc
                  by_cases hee : e' % 2 = 0
                  · have hee' : xe % 2 = 0 := hpe.2 hee
                    have HEe := hid hee
                    clear hee hpe
                    go_wp2_with fail
                    refine (rhalf_c HDe.out (by omega) HEe.out HV3.out.1).mono ?_
                    rintro e w5 ⟨z5, k5, c5, d5, rfl, hb5, H5⟩
                    have HB5 := hid hb5
                    have hk5 := H5.out.1
                    clear hb5
                    go_wp2
                    go_roundw
                    case rel =>
                      have h1 := HV3.out.1; have h2 := HV3.out.2.1; have h3 := HEe.out
                      exact ⟨z5, k5, c5, e' / 2, d5, rfl, by omega, HW3.out.trans (HB5.out.mono HW3.out.size), H5.out.2, by omega, by omega, (gcd_halfr HE.out h3).trans HV3.out.2.2⟩
                    case measure =>
                      show dOf w5 (.slice z5 k5 c5) < dOf wr3 (.slice _ ne ce)
                      rw [H5.out.2.dOf, HDe.out.dOf]
                      have := HV3.out.1; omega
                  · have hee' : (xe % 2 == 0) = false := by simp; intro h; exact hee (hpe.1 h)
                    have HEe := hid (show e' % 2 = 1 by omega)
                    clear hee hpe
                    have HDc3 := hid (HDc.out.below HW3.out)
                    have HWs := hid (HW.out.trans ((HW2.out.trans (HW3.out.mono HW2.out.size)).mono HW.out.size))
                    go_wp2_with fail
                    refine (rcmp_c _ _ nc ne cc ce fc fe _ (by omega) (by omega) HDc3.out.rd HDe.out.rd HDc3.out.dg HDe.out.dg HDc3.out.fm HDe.out.fm).mono ?_
                    rintro e w6 ⟨⟨q6, hq6⟩, c6, rfl, hord⟩
                    have hb6 := drewN_bel hq6
                    rw [HDc3.out.val, HDe.out.val] at hord
                    have HDc6 := hid (HDc3.out.below hb6); have HDe6 := hid (HDe.out.below hb6); have HW6 := hid (HWs.out.trans (hb6.mono HWs.out.size))
                    clear hq6 hb6
                    by_cases hlt : c < e'
                    · have hsg : decide (c6 < 0) = true := by
                        rcases hord with ⟨h1, h2⟩ | ⟨h1, h2⟩ | ⟨h1, h2⟩ <;> subst h1 <;> first | rfl | (exfalso; omega)
                      clear hord
                      go_wp2_with fail
                      refine (dSubO_c HDe6.out HDc6.out (by omega) (by omega) (by omega)).mono ?_
                      rintro e w7 ⟨z7, k7, c7, d7, rfl, hb7, H7⟩
                      have HB7 := hid hb7
                      have hk7 := H7.out.1
                      clear hb7 hsg
                      go_wp2
                      go_roundw
                      case rel =>
                        refine ⟨z7, k7, c7, e' - c, d7, _, nc, cc, c, fc, rfl, rfl, by omega, hnc, HW6.out.trans (HB7.out.mono HW6.out.size), H7.out.2.1, HDc6.out.below HB7.out, HV2.out.1, .inr HE.out, ?_⟩
                        rw [gcd_take (by omega), Nat.gcd_comm]; exact HV3.out.2.2
                      case measure =>
                        show dOf w7 (.slice z7 k7 c7) + dOf w7 (.slice _ nc cc) < dOf wr1 (.slice za na ca) + dOf wr1 (.slice zb nb cb)
                        rw [H7.out.2.1.dOf, (HDc6.out.below HB7.out).dOf, HDa.out.dOf, HDb.out.dOf]
                        have h1 := HV2.out; have h2 := HV3.out; omega
                    · have hsg : decide (c6 < 0) = false := by
                        rcases hord with ⟨h1, h2⟩ | ⟨h1, h2⟩ | ⟨h1, h2⟩ <;> subst h1 <;> first | rfl | (exfalso; omega)
                      clear hord
                      go_wp2_with fail
                      refine (dSubO_c HDc6.out HDe6.out (by omega) (by omega) (by omega)).mono ?_
                      rintro e w7 ⟨z7, k7, c7, d7, rfl, hb7, H7⟩
                      have HB7 := hid hb7
                      have hk7 := H7.out.1
                      clear hb7 hsg
                      go_wp2
                      go_roundw
                      case rel =>
                        refine ⟨z7, k7, c7, c - e', d7, _, ne, ce, e', fe, rfl, rfl, by omega, hne, HW6.out.trans (HB7.out.mono HW6.out.size), H7.out.2.1, HDe6.out.below HB7.out, HV3.out.1, .inr HEe.out, ?_⟩
                        rw [gcd_take (by omega)]; exact HV3.out.2.2
                      case measure =>
                        show dOf w7 (.slice z7 k7 c7) + dOf w7 (.slice _ ne ce) < dOf wr1 (.slice za na ca) + dOf wr1 (.slice zb nb cb)
                        rw [H7.out.2.1.dOf, (HDe6.out.below HB7.out).dOf, HDa.out.dOf, HDb.out.dOf]
                        have h1 := HV2.out; have h2 := HV3.out; omega
end Go.Proofs.YtclopblgdiahiaaGreatDoor
namespace Go.Proofs.YtclopblgdiahiaaGreatDoor
open Go.RowKit

theorem fromD_c {w : World} {ao : Option Addr} {n cap : Nat} {f : Nat → Int} (hn : n ≤ 4096) (hr : Rd .u64 w ao n f) (hf : Lm f n) :
    Calls Tryz.prog 67 #[.slice ao n cap] w fun e w' => ∃ z k c d, e = .returned (.slice z k c) ∧ Below w.heap.size w w' ∧ Hid (k ≤ 2 * n ∧ Dn w' z k d (vf f n).toNat) :=
  (from_c ao n cap f w (by omega) hr hf).mono (fun _ _ ⟨z, k, c, h1, h2, h3, h4, _, h5, h6, h7⟩ => ⟨z, k, c, _, h1, h2, h4, h3, h5, h6, by rw [h7]; have := vf_nonneg hf; omega⟩)
theorem toL_c {w : World} {z : Option Addr} {k c : Nat} {d : Nat → Int} {V : Nat} (h : Dn w z k d V) (hk : k ≤ 65536) :
    Calls Tryz.prog 120 #[.slice z k c] w fun e w' => ∃ x n c' f, e = .returned (.slice x n c') ∧ Below w.heap.size w w' ∧ Hid (n ≤ k ∧ Rd .u64 w' x n f ∧ Lm f n ∧ Fm f n ∧ vf f n = V) :=
  (to_c z k c d w (by omega) h.rd h.dg h.fm).mono (fun _ _ ⟨x, n, c', f, h1, h2, h3, h4, h5, h6, h7⟩ => ⟨x, n, c', f, h1, h2, h4, h3, h5, h6, by rw [h7, h.val]⟩)

end Go.Proofs.YtclopblgdiahiaaGreatDoor
namespace Go.Proofs.YtclopblgdiahiaaGreatDoor
open Go.RowKit

theorem rwForm_c (s : Bool) (ao : Option Addr) (n cap : Nat) (f : Nat → Int) (w : World) (hm : n ≤ 9223372036854775807) (hr : Rd .u64 w ao n f) :
    Calls Tryz.prog 126 #[.agg #[.bool s, .slice ao n cap]] w fun e w' => e = .returned (.bool (wfB s f n)) ∧ Below w.heap.size w w' := by
  have hba : Below w.heap.size w (w.alloc (.cells #[.bool s, .slice ao n cap] 24)) := below_alloc (Below.refl _ _) _
  have c1 := rform_c ao n cap f (w.alloc (.cells #[.bool s, .slice ao n cap] 24)) hm (hr.alloc _)
  have HB := hid hba
  clear hr hba
  have hwf : wfB s f n = (fmB f n && !(s && decide (n = 0))) := rfl
  rw [hwf]
  clear hwf
  cases hfa : fmB f n
  · rw [hfa] at c1
    have C1 := hid c1
    clear c1 hfa
    go_enter Tryz.func126, Tryz.ntmps126
    go_wp2_with fail
    refine C1.out.mono ?_
    rintro e w1 ⟨rfl, rfl⟩
    go_wp2
    go_ret
    exact ⟨rfl, HB.out⟩
  · rw [hfa] at c1
    have C1 := hid c1
    clear c1 hfa
    cases s
    · go_enter Tryz.func126, Tryz.ntmps126
      go_wp2_with fail
      refine C1.out.mono ?_
      rintro e w1 ⟨rfl, rfl⟩
      go_wp2
      go_ret
      exact ⟨rfl, HB.out⟩
    · by_cases hn0 : n = 0
      · subst hn0
        go_enter Tryz.func126, Tryz.ntmps126
        go_wp2_with fail
        refine C1.out.mono ?_
        rintro e w1 ⟨rfl, rfl⟩
        go_wp2
        go_ret
        exact ⟨rfl, HB.out⟩
      · have hni : ((n : Int) == 0) = false := by simp; omega
        have hdn : decide (n = 0) = false := by simp; omega
        rw [hdn]
        clear hdn
        go_enter Tryz.func126, Tryz.ntmps126
        go_wp2_with fail
        refine C1.out.mono ?_
        rintro e w1 ⟨rfl, rfl⟩
        go_wp2
        go_ret
        exact ⟨rfl, HB.out⟩

/-- What the reference's Read leaves. -/
def ZRead (w w' : World) (L : Nat) (b : Nat → Nat) (t : Bool) (x : Option Addr) (m : Nat) (d : Nat → Int) (ok : Bool) : Prop :=
  Below w.heap.size w w' ∧ Rd .u64 w' x m d ∧ m ≤ L ∧ Dg d m ∧ Fm d m ∧ (∀ a, x = some a → w.heap.size ≤ a.block) ∧
  (ok = true ↔ (0 < L ∧ b 0 = 45 ∧ IsNum (bsh b 1) (L - 1) ∧ 0 < dn (bsh b 1) (L - 1)) ∨ (¬ (0 < L ∧ b 0 = 45) ∧ IsNum b L)) ∧
  (ok = true → (t = true ∧ 0 < L ∧ b 0 = 45 ∧ 0 < m ∧ vd d m = (dn (bsh b 1) (L - 1) : Nat)) ∨ (t = false ∧ ¬ (0 < L ∧ b 0 = 45) ∧ vd d m = (dn b L : Nat)))

end Go.Proofs.YtclopblgdiahiaaGreatDoor
namespace Go.Proofs.YtclopblgdiahiaaGreatDoor
open Go.RowKit

set_option maxRecDepth 100000 in
set_option maxHeartbeats 800000 in
theorem rword_c {w : World} {x n c d} {V : Nat} (h : Dn w x n d V) (hn : n ≤ 2) :
    Calls Tryz.prog 148 #[.slice x n c] w fun e w' => e = .returned (.int .u64 V) ∧ w' = w := by
  have H := hid h
  clear h
  go_enter Tryz.func148, Tryz.ntmps148
  go_wp2
  go_loop [3, 4] (fun t u => ∃ (k : Nat) (z : Int), k ≤ n ∧ z = (k : Int) - 1 ∧ u = .int .i64 z ∧ ∃ X : Int, t = .int .u64 X ∧ Hid (X = vd (sh d k) (n - k))) (fun _ u => (intOf u + 1).toNat)
  case atStart => exact ⟨n, (n : Int) - 1, by omega, rfl, rfl, 0, rfl, by rw [Nat.sub_self]; rfl⟩
  case round =>
    obtain ⟨k, z, hk, hz, rfl, X, rfl, HX⟩ := hrel
    rcases Nat.eq_zero_or_pos k with h0 | h0
    · subst h0
      have hz' : z < 0 := by omega
      have hd : decide ((0 : Int) ≤ z) = false := by simp; omega
      go_wp2
      go_ret
      refine ⟨?_, rfl⟩
      have h1 : vd (sh d 0) (n - 0) = vd d n := by
        have : sh d 0 = d := by funext j; simp [sh]
        rw [this]; rfl
      have : X = V := by rw [HX.out, h1, H.out.val]
      rw [this]; rfl
    · obtain ⟨j, rfl⟩ : ∃ j, k = j + 1 := ⟨k - 1, by omega⟩
      have hz' : z = (j : Int) := by omega
      subst hz'
      have hr := H.out.rd
      obtain ⟨b, o, rfl⟩ := hr.at (by omega)
      obtain ⟨y, hy⟩ : ∃ y, d j = y := ⟨_, rfl⟩
      have hcell : w.cell? ⟨b, o + j, none⟩ = some (.int .u64 y) := by rw [← hy]; exact hr.cell (by omega)
      obtain ⟨y0, y1⟩ := H.out.dg j (by omega)
      rw [hy] at y0 y1
      have hX : 0 ≤ X ∧ X < 4294967296 := by
        rw [HX.out]
        rcases (show n - (j + 1) = 0 ∨ n - (j + 1) = 1 by omega) with e | e
        · rw [e]; simp [vd]
        · rw [e]
          have e1 : vd (sh d (j + 1)) 1 = d (j + 1) := by simp [vd, pd, sh]
          rw [e1]
          exact H.out.dg (j + 1) (by omega)
      obtain ⟨X0, X1⟩ := hX
      have hs : X * 4294967296 + y = vd (sh d j) (n - j) := by
        rw [show n - j = (n - (j + 1)) + 1 by omega, vd_cons, hy, HX.out]; omega
      have HS := hid hs
      clear hs hy hr hz
      go_wp2
      go_round
      case rel => exact ⟨j, (j : Int) - 1, by omega, rfl, rfl, X * 4294967296 + y, rfl, HS.out⟩
      case measure => simp [intOf]
end Go.Proofs.YtclopblgdiahiaaGreatDoor
namespace Go.Proofs.YtclopblgdiahiaaGreatDoor
open Go.RowKit

theorem zMk_c (s : Bool) (ao : Option Addr) (n cap : Nat) (w : World) (hm : n ≤ 9223372036854775807) :
    Calls Tryz.prog 128 #[.bool s, .slice ao n cap] w fun e w' => ∃ r, e = .returned (.agg #[.bool r, .slice ao n cap]) ∧ Hid (r = (s && decide (0 < n))) ∧ Below w.heap.size w w' := by
  have key : ∀ u, Below w.heap.size w (w.alloc u) := fun u => below_alloc (Below.refl w.heap.size w) u
  cases s
  · go_enter Tryz.func128, Tryz.ntmps128
    go_wp2
    exact bodyPost_ret (v := .agg #[.bool false, .slice ao n cap]) (by simp [results, Tryz.results128, go_sem]) rfl ⟨false, rfl, rfl, key _⟩
  · by_cases hn0 : 0 < n
    · have hni : decide ((0 : Int) < (n : Int)) = true := by simp; omega
      have hdn : decide (0 < n) = true := by simp; omega
      rw [hdn]
      clear hdn
      go_enter Tryz.func128, Tryz.ntmps128
      go_wp2
      exact bodyPost_ret (v := .agg #[.bool true, .slice ao n cap]) (by simp [results, Tryz.results128, go_sem]) rfl ⟨true, rfl, rfl, key _⟩
    · have hni : decide ((0 : Int) < (n : Int)) = false := by simp; omega
      have hdn : decide (0 < n) = false := by simp; omega
      rw [hdn]
      clear hdn
      go_enter Tryz.func128, Tryz.ntmps128
      go_wp2
      exact bodyPost_ret (v := .agg #[.bool false, .slice ao n cap]) (by simp [results, Tryz.results128, go_sem]) rfl ⟨false, rfl, rfl, key _⟩

/-- A new box for an answer of three cells. -/
structure Ob (w : World) (B : Nat) : Prop where
  z : B < w.heap.size
  z0 : w.cell? ⟨B, 0, none⟩ = some (.bool false)
  z1 : w.cell? ⟨B, 1, none⟩ = some (.slice none 0 0)
  z2 : w.cell? ⟨B, 2, none⟩ = some (.slice none 0 0)
  zf : ∀ o, w.frozen? ⟨B, o, none⟩ = false
theorem Ob.below {w w' B} (h : Ob w B) (hb : Below w.heap.size w w') : Ob w' B := by
  obtain ⟨h1, h2⟩ := bcell hb
  exact ⟨Nat.lt_of_lt_of_le h.z hb.size, kCb hb h.z0, kCb hb h.z1, kCb hb h.z2, fun o => (h2 _ _ h.z).trans (h.zf o)⟩
theorem kOb {w w' B} (hb : Below w.heap.size w w') (h : Ob w B) : Ob w' B := h.below hb
theorem kDb {w w' x n d V} (hb : Below w.heap.size w w') (h : Dn w x n d V) : Dn w' x n d V := h.below hb
theorem Ob.alloc {w B} (h : Ob w B) (o : Obj) : Ob (w.alloc o) B := h.below (below_alloc (Below.refl _ _) o)
theorem Ob.next {w w' B} {o : Obj} (h : Ob w B) (hb : Below (w.alloc o).heap.size (w.alloc o) w') : Ob w' B := (h.alloc o).below hb
theorem Ob.drew {w B} (h : Ob w B) : Ob w.drew B := ⟨h.z, h.z0, h.z1, h.z2, h.zf⟩
theorem Ob.drewN {w B} (h : Ob w B) (q : Nat) : Ob (w.drewN q) B := ⟨h.z, h.z0, h.z1, h.z2, h.zf⟩
theorem ob_new (w : World) (t : TypeId) : Ob (w.alloc (.cells #[.bool false, .slice none 0 0, .slice none 0 0] t)) w.heap.size := by
  refine ⟨by simp, by simp [go_sem], by simp [go_sem], by simp [go_sem], fun o => ?_⟩
  have e := heap_alloc_new w (.cells #[.bool false, .slice none 0 0, .slice none 0 0] t)
  simp only [World.frozen?, e]; simp
theorem rd_setne {w : World} {p : Addr} {v u : Value} {x n f} (hp : w.cell? p = some v) (hv : ∀ i, v ≠ .int .u64 i) (h : Rd .u64 w x n f) : Rd .u64 (w.setCell p u) x n f := by
  intro j hj
  obtain ⟨b, o, hx, hc⟩ := h j hj
  refine ⟨b, o, hx, ?_⟩
  rw [World.cell?_setCell_other _ _ _ _ (fun he => hv _ (Option.some.inj (hp.symm.trans (he ▸ hc))))]
  exact hc
theorem Ob.rd {w B u0 u1 u2 x n f} (h : Ob w B) (hx : Rd .u64 w x n f) : Rd .u64 (((w.setCell ⟨B, 0, none⟩ u0).setCell ⟨B, 1, none⟩ u1).setCell ⟨B, 2, none⟩ u2) x n f :=
  rd_setne (cell_off (by decide) (cell_off (by decide) h.z2)) (fun i h => by cases h) (rd_setne (cell_off (by decide) h.z1) (fun i h => by cases h) (rd_setne h.z0 (fun i h => by cases h) hx))
theorem Ob.wn {w B u0 u1 u2 s x n c f v} (h : Ob w B) (hx : Wn w s x n c f v) : Wn (((w.setCell ⟨B, 0, none⟩ u0).setCell ⟨B, 1, none⟩ u1).setCell ⟨B, 2, none⟩ u2) s x n c f v := ⟨h.rd hx.rd, hx.lm, hx.wf, hx.cap, hx.nil, hx.val⟩
theorem Ob.dn {w B u0 u1 u2 x n d V} (h : Ob w B) (hx : Dn w x n d V) : Dn (((w.setCell ⟨B, 0, none⟩ u0).setCell ⟨B, 1, none⟩ u1).setCell ⟨B, 2, none⟩ u2) x n d V := ⟨h.rd hx.rd, hx.dg, hx.fm, hx.val⟩
theorem Ob.rn {w B u0 u1 u2 L s x n c f y m d g q} (h : Ob w B) (hx : Rn L w s x n c f y m d g q) : Rn L (((w.setCell ⟨B, 0, none⟩ u0).setCell ⟨B, 1, none⟩ u1).setCell ⟨B, 2, none⟩ u2) s x n c f y m d g q := ⟨h.wn hx.num, h.wn hx.den, hx.ln, hx.ld⟩
theorem below_st {w0 w : World} {B : Nat} {u0 u1 u2 : Value} (hw : Below w0.heap.size w0 w) (hB : w0.heap.size ≤ B) :
    Below w0.heap.size w0 (((w.setCell ⟨B, 0, none⟩ u0).setCell ⟨B, 1, none⟩ u1).setCell ⟨B, 2, none⟩ u2) :=
  below_turned hw hw.size ((((Turned.refl w0.heap.size (B + 1) w).set (x := ⟨B, 0, none⟩) hB (by simp) _).set (x := ⟨B, 1, none⟩) hB (by simp) _).set (x := ⟨B, 2, none⟩) hB (by simp) _) (Nat.le_refl _)
theorem Dn.drewN {w x n d V} (h : Dn w x n d V) (q : Nat) : Dn (w.drewN q) x n d V := ⟨h.rd, h.dg, h.fm, h.val⟩
theorem dn64 {w x n d V} (h : Dn w x n d V) (hn : n ≤ 2) : V < 18446744073709551616 := by
  have h1 := vd_lt h.dg
  rw [h.val] at h1
  rcases (show n = 0 ∨ n = 1 ∨ n = 2 by omega) with rfl | rfl | rfl <;> simp [pd] at h1 <;> omega

set_option maxRecDepth 100000 in
set_option maxHeartbeats 4000000 in
theorem mkSmall_c {w : World} {s x n c d y m e g} {A B : Nat} (ha : Dn w x n d A) (hb : Dn w y m g B) (h0 : 0 < A) (hn : n ≤ 2) (hm : m ≤ 2) (hB : 0 < B) :
    Calls Tryz.prog 127 #[.agg #[.bool s, .slice x n c], .slice y m e] w fun en w' => ∃ r z k c' d' z2 k2 c2 d2, en = .returned (.agg #[.bool r, .slice z k c', .slice z2 k2 c2]) ∧ Below w.heap.size w w' ∧ k ≤ 2 ∧ k2 ≤ 2 ∧ r = (s && decide (0 < k)) ∧ Dn w' z k d' (A / A.gcd B) ∧ Dn w' z2 k2 d2 (B / A.gcd B) := by
  have hA64 := dn64 ha hn; have hB64 := dn64 hb hm
  have hnp : 0 < n := by
    rcases Nat.eq_zero_or_pos n with h | h
    · subst h; have : (0 : Int) = A := ha.val; omega
    · exact h
  have h1 := (ha.alloc (.cells #[.bool s, .slice x n c] 82)).alloc (.cells #[.bool false, .slice none 0 0, .slice none 0 0] 84)
  have h2 := (hb.alloc (.cells #[.bool s, .slice x n c] 82)).alloc (.cells #[.bool false, .slice none 0 0, .slice none 0 0] 84)
  have h3 := ob_new (w.alloc (.cells #[.bool s, .slice x n c] 82)) 84
  rw [size_alloc1] at h3
  have h4 := below_alloc (below_alloc (Below.refl w.heap.size w) (.cells #[.bool s, .slice x n c] 82)) (.cells #[.bool false, .slice none 0 0, .slice none 0 0] 84)
  have h5 : (((w.alloc (.cells #[.bool s, .slice x n c] 82)).alloc (.cells #[.bool false, .slice none 0 0, .slice none 0 0] 84)).cell? ⟨w.heap.size, 0, none⟩ = some (.bool s)) := by simp [go_sem]
  clear ha hb
  have hn0 : ((n : Int) == 0) = false := by simp; omega
  have hn2 : decide ((n : Int) ≤ 2) = true := by simp; omega
  have hm2 : decide ((m : Int) ≤ 2) = true := by simp; omega
  go_enter Tryz.func127, Tryz.ntmps127
  go_wp2_with fail
  generalize (w.alloc (.cells #[.bool s, .slice x n c] 82)).alloc (.cells #[.bool false, .slice none 0 0, .slice none 0 0] 84) = w1 at *
  have HA := hid h1; have HB := hid h2; have OB := hid h3; have HW := hid h4
  obtain ⟨hz, z0, z1, z2, zf⟩ := h3
  clear h1 h2 h4
  refine (rword_c HA.out hn).mono ?_
  rintro en w2 ⟨rfl, rfl⟩
  go_wp2_with fail
  refine (rword_c HB.out hm).mono ?_
  rintro en w3 ⟨rfl, rfl⟩
  go_wp2
  go_loopw [7, 8] (fun t u wr => ∃ (G R q : Nat), t = .int .u64 G ∧ u = .int .u64 R ∧ wr = w3.drewN q ∧ 0 < G ∧ G < 18446744073709551616 ∧ R < 18446744073709551616 ∧ Hid (G.gcd R = A.gcd B)) (fun _ u _ => (intOf u).toNat)
  case atStart => exact ⟨A, B, 0, rfl, rfl, rfl, h0, hA64, hB64, rfl⟩
  case round =>
    obtain ⟨G, R, q, rfl, rfl, rfl, hG0, hG64, hR64, HG⟩ := hrel
    by_cases hR : 0 < R
    · have hd : decide ((0 : Int) < (R : Int)) = true := by simp; omega
      have hne : ((R : Int) == 0) = false := by simp; omega
      have hne' : (R : Int) ≠ 0 := by omega
      go_wp2
      go_quiet (fail)
      go_wp2
      go_roundw
      case rel => exact ⟨R, G % R, _, rfl, by simp, by (repeat rw [World.drewN_drewN]) <;> rfl, hR, hR64, by have := Nat.mod_lt G hR; omega, hid (by rw [Nat.gcd_comm, ← Nat.gcd_rec, Nat.gcd_comm]; exact HG.out)⟩
      case measure => have := Nat.mod_lt G hR; simp only [intOf]; omega
    · have hd : decide ((0 : Int) < (R : Int)) = false := by simp; omega
      have hR0 : R = 0 := by omega
      subst hR0
      have hg : G = A.gcd B := by have := HG.out; rw [Nat.gcd_zero_right] at this; exact this
      go_wp2
      have hwq : Below w.heap.size w (w3.drewN q) := below_drewN HW.out q
      have OQ := OB.out.drewN q
      have hcq : (w3.drewN q).cell? ⟨w.heap.size, 0, none⟩ = some (.bool s) := h5
      have hGi : (G : Int) ≠ 0 := by omega
      have hGi' : ((G : Int) == 0) = false := by simp; omega
      have hGp : (0 : Int) < (G : Int) := by omega
      have hGm : (G : Int) < 18446744073709551616 := by omega
      have hA0 : (0 : Int) ≤ (A : Int) := by omega
      have hAm : (A : Int) < 18446744073709551616 := by omega
      have hB0 : (0 : Int) ≤ (B : Int) := by omega
      have hBm : (B : Int) < 18446744073709551616 := by omega
      obtain ⟨QA, hqa⟩ : ∃ q : Int, (A : Int) / (G : Int) = q := ⟨_, rfl⟩
      obtain ⟨QB, hqb⟩ : ∃ q : Int, (B : Int) / (G : Int) = q := ⟨_, rfl⟩
      have hQA0 : 0 ≤ QA := by rw [← hqa]; exact Int.ediv_nonneg hA0 (by omega)
      have hQB0 : 0 ≤ QB := by rw [← hqb]; exact Int.ediv_nonneg hB0 (by omega)
      have hQA1 : QA < 18446744073709551616 := by have := Int.ediv_le_self (b := (G : Int)) hA0; omega
      have hQB1 : QB < 18446744073709551616 := by have := Int.ediv_le_self (b := (G : Int)) hB0; omega
      have HqA : Hid (QA = ((A / G : Nat) : Int)) := hid (by rw [← hqa]; exact (Int.natCast_ediv _ _).symm)
      have HqB : Hid (QB = ((B / G : Nat) : Int)) := hid (by rw [← hqb]; exact (Int.natCast_ediv _ _).symm)
      have HG2 := hid hg
      clear hg
      clear HG hz z0 z1 z2 zf OB h5
      generalize w3.drewN q = w4 at *
      clear hG64 hA64 hB64 hR64 hd hG0
      generalize hgi : (G : Int) = Gi at *
      generalize hai : (A : Int) = Ai at *
      generalize hbi : (B : Int) = Bi at *
      have HgI := hid hgi; have HaI := hid hai; have HbI := hid hbi
      have hGn : ¬ (Gi = 0) := hGi
      clear hgi hai hbi hGi
      have hwa : IntKind.u64.wrap (Ai.tdiv Gi) = QA := by rw [Int.tdiv_eq_ediv_of_nonneg hA0, hqa, IntKind.wrap_u64]; omega
      have hwb : IntKind.u64.wrap (Bi.tdiv Gi) = QB := by rw [Int.tdiv_eq_ediv_of_nonneg hB0, hqb, IntKind.wrap_u64]; omega
      clear hqa hqb
      obtain ⟨hz, z0, z1, z2, zf⟩ := id OQ
      have C1 : Hid (∀ W, Below w4.heap.size w4 W → Calls Tryz.prog 121 #[.int .u64 QA] W fun e w' => ∃ z k cap d, e = .returned (.slice z k cap) ∧ Below W.heap.size W w' ∧ Hid (k ≤ 2 ∧ Dn w' z k d (A / G))) := fun W hW => by
        exact (word2_c QA W hQA0 hQA1).mono (fun e w' ⟨k, cap, h1, h2, h3, h4, h5, h6, h7⟩ => ⟨_, k, cap, _, h1, h2, h3, h4, h5, h6, h7.trans HqA.out⟩)
      have C2 : Hid (∀ W, Below w4.heap.size w4 W → Calls Tryz.prog 121 #[.int .u64 QB] W fun e w' => ∃ z k cap d, e = .returned (.slice z k cap) ∧ Below W.heap.size W w' ∧ Hid (k ≤ 2 ∧ Dn w' z k d (B / G))) := fun W hW => by
        exact (word2_c QB W hQB0 hQB1).mono (fun e w' ⟨k, cap, h1, h2, h3, h4, h5, h6, h7⟩ => ⟨_, k, cap, _, h1, h2, h3, h4, h5, h6, h7.trans HqB.out⟩)
      have C3 : Hid (∀ (W : World) (z : Option Addr) (k cap : Nat), k ≤ 2 → Calls Tryz.prog 128 #[.bool s, .slice z k cap] W fun e w' => ∃ r, e = .returned (.agg #[.bool r, .slice z k cap]) ∧ Below W.heap.size W w' ∧ Hid (r = (s && decide (0 < k)))) := fun W z k cap hk => (zMk_c s z k cap W (by omega)).mono (fun e w' ⟨r, h1, h2, h3⟩ => ⟨r, h1, h3, h2⟩)
      go_region_held3 (fun w' => w'.cell? ⟨w.heap.size, 0, none⟩ = some (.bool s) ∧ (w'.cell? ⟨w.heap.size + 1, 0, none⟩).isSome = true ∧ (w'.cell? ⟨w.heap.size + 1, 1, none⟩).isSome = true ∧ (w'.cell? ⟨w.heap.size + 1, 2, none⟩).isSome = true ∧ w'.frozen? ⟨w.heap.size + 1, 0, none⟩ = false ∧ w'.frozen? ⟨w.heap.size + 1, 1, none⟩ = false ∧ w'.frozen? ⟨w.heap.size + 1, 2, none⟩ = false)
        (refine ⟨?_, ?_, ?_, ?_, ?_, ?_, ?_⟩ <;> repeat (with_reducible first | assumption | exact zf _ | exact tf _ | exact uf _ | exact vf' _ | exact kI0 z0 | exact kI0 z1 | exact kI0 z2 | exact kI0 t0 | exact kI0 t1 | exact kI0 t2 | exact kI0 u0 | exact kI0 u1 | exact kI0 u2 | exact kI0 v0 | exact kI0 v1 | exact kI0 v2 | refine kCd ?_ | refine kId ?_ | refine kFd ?_ | refine kCs (by simp only [ne_eq]; omega) ?_ | refine kIs ?_ | refine kFs ?_ | refine kCb (by assumption) ?_ | refine kIb (by assumption) ?_))
        (first
          | (go_at_call 121; with_reducible refine (C1.out _ (by repeat (with_reducible first | assumption | exact Below.refl _ _ | refine Below.drew ?_ | refine kBa ?_ | refine kBb (by assumption) ?_))).mono ?_; rintro e w5 ⟨za, ka, ca, da, rfl, hb5, HP⟩; have hka : ka ≤ 2 := HP.out.1; have TU : Ob w5 (w.heap.size + 1) := (by repeat (with_reducible first | exact OQ | exact TU | exact TV | exact TW | refine Ob.drew ?_ | refine kOb (by assumption) ?_)); obtain ⟨_, t0, t1, t2, tf⟩ := id TU)
          | (go_at_call 128; with_reducible refine (C3.out _ za ka ca hka).mono ?_; rintro e w6 ⟨r, rfl, hb6, HR⟩; have TV : Ob w6 (w.heap.size + 1) := (by repeat (with_reducible first | exact OQ | exact TU | exact TV | exact TW | refine Ob.drew ?_ | refine kOb (by assumption) ?_)); obtain ⟨_, u0, u1, u2, uf⟩ := id TV)
          | (go_at_call 121; with_reducible refine (C2.out _ (by repeat (with_reducible first | assumption | exact Below.refl _ _ | refine Below.drew ?_ | refine kBa ?_ | refine kBb (by assumption) ?_))).mono ?_; rintro e w7 ⟨zb, kb, cb, db, rfl, hb7, HQ⟩; have hkb : kb ≤ 2 := HQ.out.1; have TW : Ob w7 (w.heap.size + 1) := (by repeat (with_reducible first | exact OQ | exact TU | exact TV | exact TW | refine Ob.drew ?_ | refine kOb (by assumption) ?_)); obtain ⟨_, v0, v1, v2, vf'⟩ := id TW))
      have hb : Below w4.heap.size w4 w7 := (by repeat (with_reducible first | assumption | exact Below.refl _ _ | refine Below.drew ?_ | refine kBa ?_ | refine kBb (by assumption) ?_))
      have DA := HP.out.2; have DB := HQ.out.2
      have DA7 : Dn w7 za ka da (A / G) := (by repeat (with_reducible first | exact DA | refine Dn.drew ?_ | refine kDb (by first | exact hb6 | exact hb7) ?_))
      go_wp2
      refine bodyPost_ret (v := .agg #[.bool r, .slice za ka ca, .slice zb kb cb]) (by simp [results, Tryz.results127, go_sem, v0, v1, v2]) rfl ⟨r, za, ka, ca, da, zb, kb, cb, db, rfl, below_st (hwq.trans (hb.mono hwq.size)) (by omega), hka, hkb, HR.out, ?_, ?_⟩
      · rw [← HG2.out]; exact TW.dn DA7
      · rw [← HG2.out]; exact TW.dn DB
end Go.Proofs.YtclopblgdiahiaaGreatDoor
namespace Go.Proofs.YtclopblgdiahiaaGreatDoor
open Go.RowKit

theorem Tg.set {w x} (h : Tg w x) (p : Addr) (u : Value) : Tg (w.setCell p u) x := fun a ha => by
  obtain ⟨arr, fr, hh⟩ := h a ha
  by_cases e : a.block = p.block
  · refine ⟨if p.spot.isSome then arr else arr.setIfInBounds p.off u, fr, ?_⟩
    rw [e] at hh ⊢
    simp [World.setCell, Array.getElem?_modify, hh]
  · exact ⟨arr, fr, (Below.heap_setCell w p u a.block e).trans hh⟩
theorem Tg.alloc {w x} (h : Tg w x) (o : Obj) : Tg (w.alloc o) x := h.below (below_alloc (Below.refl _ _) o)
theorem make_made {u v : Int} {s t : Bool} (hu : u = sg s u.natAbs) (hv : v = sg t v.natAbs) (h0 : 0 < v.natAbs) :
    ((u : Rat) / (v : Rat)).num = sg (s != t) (u.natAbs / u.natAbs.gcd v.natAbs) ∧ ((u : Rat) / (v : Rat)).den = v.natAbs / u.natAbs.gcd v.natAbs := by
  have e1 := Nat.div_mul_cancel (Nat.gcd_dvd_left u.natAbs v.natAbs)
  have e2 := Nat.div_mul_cancel (Nat.gcd_dvd_right u.natAbs v.natAbs)
  have := rmake (s := s) (t := t) (NA := u.natAbs / u.natAbs.gcd v.natAbs) (NB := v.natAbs / u.natAbs.gcd v.natAbs) (G := u.natAbs.gcd v.natAbs) (by rw [e2]; exact h0) (by rw [e1, e2])
  rw [e1, e2, ← hu, ← hv] at this
  exact this
/-- A number that a call answers without an error; its lists lie in blocks of limbs. -/
def RatTgt (L : Nat) (w w' : World) (e : Ending) (q : Rat) : Prop := ∃ s x n c f y m d g, e = .returned (.tuple #[.agg #[.bool s, .slice x n c, .slice y m d], .int .i64 0]) ∧ Below w.heap.size w w' ∧ Rn L w' s x n c f y m d g q ∧ Tg w' x ∧ Tg w' y
/-- The like, alone. -/
def RatTga (L : Nat) (w w' : World) (e : Ending) (q : Rat) : Prop := ∃ s x n c f y m d g, e = .returned (.agg #[.bool s, .slice x n c, .slice y m d]) ∧ Below w.heap.size w w' ∧ Rn L w' s x n c f y m d g q ∧ Tg w' x ∧ Tg w' y
theorem own_wn {w base x n c f} {V : Nat} (h : Own .u64 28 w base (.slice x n c) n f) (hl : Lm f n) (hf : Fm f n) (hv : vf f n = V) : Wn w false x n c f (V : Int) := by
  obtain ⟨h1, h2, h3, h4, _⟩ := h.slice
  exact ⟨h4, hl, (wfB_iff _ _ _).2 ⟨hf, fun h => by cases h⟩, ⟨h1, h2⟩, h3, hv⟩
theorem toWn_c {w x n c d} {V : Nat} (h : Dn w x n d V) (hn : n ≤ 1048576) :
    Calls Tryz.prog 120 #[.slice x n c] w fun e w' => ∃ z k c' f, e = .returned (.slice z k c') ∧ Below w.heap.size w w' ∧ Hid (k ≤ n ∧ Wn w' false z k c' f (V : Int) ∧ Tg w' z) :=
  (toOwn_c x n c d w hn h.rd h.dg h.fm).mono (fun _ _ ⟨z, k, c', f, h1, h2, h3, _, h4, h5, h6, h7⟩ => ⟨z, k, c', f, h1, h3, h4, own_wn h2 h5 h6 (h7.trans h.val), h2.tg⟩)
theorem fromDn_c {w s x n c f v} (h : Wn w s x n c f v) (hn : n ≤ 1048576) :
    Calls Tryz.prog 67 #[.slice x n c] w fun e w' => ∃ z k c', e = .returned (.slice z k c') ∧ Below w.heap.size w w' ∧ Hid (k ≤ 2 * n ∧ Dn w' z k (dig f) v.natAbs) :=
  (from_c x n c f w hn h.rd h.lm).mono (fun _ _ ⟨z, k, c', h1, h2, h3, h4, _, h6, h7, h8⟩ => ⟨z, k, c', h1, h2, h4, h3, h6, h7, h8.trans h.mag.nv⟩)

set_option maxRecDepth 100000 in
set_option maxHeartbeats 4000000 in
theorem qTo_c {w : World} {r : Bool} {x n c d y m e g} {A B : Nat} (ha : Dn w x n d A) (hb : Dn w y m g B) (hn : n ≤ 4096) (hm : m ≤ 4096) :
    Calls Tryz.prog 100 #[.agg #[.bool r, .slice x n c, .slice y m e]] w fun en w' => ∃ z k c' f z2 k2 c2 f2, en = .returned (.agg #[.bool r, .slice z k c', .slice z2 k2 c2]) ∧ Below w.heap.size w w' ∧ k ≤ n ∧ k2 ≤ m ∧ Wn w' false z k c' f (A : Int) ∧ Wn w' false z2 k2 c2 f2 (B : Int) ∧ Tg w' z ∧ Tg w' z2 := by
  have h1 := (ha.alloc (.cells #[.bool r, .slice x n c, .slice y m e] 84)).alloc (.cells #[.bool false, .slice none 0 0, .slice none 0 0] 32)
  have h2 := (hb.alloc (.cells #[.bool r, .slice x n c, .slice y m e] 84)).alloc (.cells #[.bool false, .slice none 0 0, .slice none 0 0] 32)
  have h3 := ob_new (w.alloc (.cells #[.bool r, .slice x n c, .slice y m e] 84)) 32
  rw [size_alloc1] at h3
  have h4 := below_alloc (below_alloc (Below.refl w.heap.size w) (.cells #[.bool r, .slice x n c, .slice y m e] 84)) (.cells #[.bool false, .slice none 0 0, .slice none 0 0] 32)
  have h5 := (bx3_at w (.bool r) (.slice x n c) (.slice y m e) 84).alloc (.cells #[.bool false, .slice none 0 0, .slice none 0 0] 32)
  clear ha hb
  go_enter Tryz.func100, Tryz.ntmps100
  go_wp2_with fail
  generalize (w.alloc (.cells #[.bool r, .slice x n c, .slice y m e] 84)).alloc (.cells #[.bool false, .slice none 0 0, .slice none 0 0] 32) = w1 at *
  have HA := hid h1; have HB := hid h2; have OB := h3; have HW := hid h4
  obtain ⟨hz, z0, z1, z2, zf⟩ := h3
  obtain ⟨hy, x0, x1, x2⟩ := h5
  clear h1 h2 h4
  have C1 : Hid (∀ W, Below w1.heap.size w1 W → Calls Tryz.prog 120 #[.slice x n c] W fun e w' => ∃ z k c' f, e = .returned (.slice z k c') ∧ Below W.heap.size W w' ∧ Hid (k ≤ n ∧ Wn w' false z k c' f (A : Int) ∧ Tg w' z)) := fun W hW => toWn_c (HA.out.below hW) (by omega)
  have C2 : Hid (∀ W, Below w1.heap.size w1 W → Calls Tryz.prog 120 #[.slice y m e] W fun e w' => ∃ z k c' f, e = .returned (.slice z k c') ∧ Below W.heap.size W w' ∧ Hid (k ≤ m ∧ Wn w' false z k c' f (B : Int) ∧ Tg w' z)) := fun W hW => toWn_c (HB.out.below hW) (by omega)
  go_region_held3 (fun w' => w'.cell? ⟨w.heap.size, 0, none⟩ = some (.bool r) ∧ w'.cell? ⟨w.heap.size, 1, none⟩ = some (.slice x n c) ∧ w'.cell? ⟨w.heap.size, 2, none⟩ = some (.slice y m e) ∧ (w'.cell? ⟨w.heap.size + 1, 0, none⟩).isSome = true ∧ (w'.cell? ⟨w.heap.size + 1, 1, none⟩).isSome = true ∧ (w'.cell? ⟨w.heap.size + 1, 2, none⟩).isSome = true ∧ w'.frozen? ⟨w.heap.size + 1, 0, none⟩ = false ∧ w'.frozen? ⟨w.heap.size + 1, 1, none⟩ = false ∧ w'.frozen? ⟨w.heap.size + 1, 2, none⟩ = false)
    (refine ⟨?_, ?_, ?_, ?_, ?_, ?_, ?_, ?_, ?_⟩ <;> repeat (with_reducible first | assumption | exact zf _ | exact kI0 z0 | exact kI0 z1 | exact kI0 z2 | exact tf _ | exact kI0 t0 | exact kI0 t1 | exact kI0 t2 | exact uf _ | exact kI0 u0 | exact kI0 u1 | exact kI0 u2 | refine kCd ?_ | refine kId ?_ | refine kFd ?_ | refine kCs (by simp only [ne_eq]; omega) ?_ | refine kIs ?_ | refine kFs ?_ | refine kCb (by assumption) ?_ | refine kIb (by assumption) ?_))
    (first
      | (go_at_call 120; with_reducible refine (C1.out _ (by repeat (with_reducible first | assumption | exact Below.refl _ _ | refine Below.drew ?_ | refine kBa ?_ | refine kBb (by assumption) ?_))).mono ?_; rintro e w5 ⟨za, ka, ca, fa, rfl, hb5, HP⟩; have TU : Ob w5 (w.heap.size + 1) := (by repeat (with_reducible first | exact OB | exact hO2 | exact TU | exact TV | exact TW | exact TX | exact TY | refine Ob.drew ?_ | refine kOb (by assumption) ?_)); obtain ⟨_, t0, t1, t2, tf⟩ := id TU)
      | (go_at_call 120; with_reducible refine (C2.out _ (by repeat (with_reducible first | assumption | exact Below.refl _ _ | refine Below.drew ?_ | refine kBa ?_ | refine kBb (by assumption) ?_))).mono ?_; rintro e w6 ⟨zb, kb, cb, fb, rfl, hb6, HQ⟩; have TV : Ob w6 (w.heap.size + 1) := (by repeat (with_reducible first | exact OB | exact hO2 | exact TU | exact TV | exact TW | exact TX | exact TY | refine Ob.drew ?_ | refine kOb (by assumption) ?_)); obtain ⟨_, u0, u1, u2, uf⟩ := id TV))
  have WA : Wn w6 false za ka ca fa (A : Int) := HP.out.2.1.below hb6
  have hb : Below w1.heap.size w1 w6 := (by repeat (with_reducible first | assumption | exact Below.refl _ _ | refine Below.drew ?_ | refine kBa ?_ | refine kBb (by assumption) ?_))
  go_wp2
  exact bodyPost_ret (v := .agg #[.bool r, .slice za ka ca, .slice zb kb cb]) (by simp [results, Tryz.results100, go_sem, u0, u1, u2]) rfl ⟨za, ka, ca, fa, zb, kb, cb, fb, rfl, below_st (HW.out.trans (hb.mono HW.out.size)) (by omega), HP.out.1, HQ.out.1, TV.wn WA, TV.wn HQ.out.2.1, ((((HP.out.2.2.below hb6).set _ _).set _ _).set _ _), (((HQ.out.2.2.set _ _).set _ _).set _ _)⟩

theorem mk_boxes {w w1 : World} {sa xa na ca sb xb nb cb} (hb : Below (((w.alloc (.cells #[.bool sa, .slice xa na ca] 24)).alloc (.cells #[.bool sb, .slice xb nb cb] 24)).alloc (.cells #[.bool false, .slice none 0 0, .slice none 0 0] 32)).heap.size (((w.alloc (.cells #[.bool sa, .slice xa na ca] 24)).alloc (.cells #[.bool sb, .slice xb nb cb] 24)).alloc (.cells #[.bool false, .slice none 0 0, .slice none 0 0] 32)) w1) :
    Bx w1 w.heap.size sa xa na ca ∧ Bx w1 (w.heap.size + 1) sb xb nb cb ∧ Ob w1 (w.heap.size + 1 + 1) ∧ Below w.heap.size w w1 := by
  have h0 : Bx (w.alloc (.cells #[.bool sa, .slice xa na ca] 24)) w.heap.size sa xa na ca := ⟨by simp, kN0, kN1⟩
  have h1 : Bx ((w.alloc (.cells #[.bool sa, .slice xa na ca] 24)).alloc (.cells #[.bool sb, .slice xb nb cb] 24)) (w.heap.size + 1) sb xb nb cb := by
    have := size_alloc1 w (.cells #[.bool sa, .slice xa na ca] 24)
    refine ⟨by simp, ?_, ?_⟩
    · rw [← this]; exact kN0
    · rw [← this]; exact kN1
  have h2 := ob_new ((w.alloc (.cells #[.bool sa, .slice xa na ca] 24)).alloc (.cells #[.bool sb, .slice xb nb cb] 24)) 32
  rw [size_alloc1, size_alloc1] at h2
  exact ⟨((h0.alloc _).alloc _).below hb, (h1.alloc _).below hb, h2.below hb, (below_alloc (below_alloc (below_alloc (Below.refl w.heap.size w) _) _) _).trans (hb.mono (by simp; omega))⟩

set_option maxRecDepth 100000 in
set_option maxHeartbeats 4000000 in
theorem docMake_c {w : World} {sa : Bool} {xa : Option Addr} {na ca : Nat} {fa : Nat → Int} {sb : Bool} {xb : Option Addr} {nb cb : Nat} {fb : Nat → Int} {u v : Int} (ha : Wn w sa xa na ca fa u) (hb : Wn w sb xb nb cb fb v) (hu : u ≠ 0) (hv : v ≠ 0) (hna : na ≤ 1) (hnb1 : nb ≤ 1) :
    Calls Tryz.prog 91 #[.agg #[.bool sa, .slice xa na ca], .agg #[.bool sb, .slice xb nb cb]] w fun e w' => RatTgt 2 w w' e ((u : Rat) / (v : Rat)) := by
  have HA0 := hid ha; have HB0 := hid hb
  have hvA : 0 < v.natAbs := by omega
  have hnb : 0 < nb := hb.mag.pos (by omega)
  clear ha hb
  have hn0 : ((nb : Int) == 0) = false := by simp; omega
  go_enter Tryz.func91, Tryz.ntmps91
  go_wp2_with fail
  refine (rwForm_c sa xa na ca fa _ (by omega) (((HA0.out.alloc _).alloc _).alloc _).rd).mono ?_
  rintro e w1 ⟨rfl, hb⟩
  rw [HA0.out.wf]
  obtain ⟨ba, bb, ob, hw⟩ := mk_boxes hb
  have BA1 := hid ba; have BB1 := hid bb; have OB1 := hid ob; have HW1 := hid hw; have HA1 := hid (HA0.out.below hw); have HB1 := hid (HB0.out.below hw)
  clear ba bb ob hw hb HA0 HB0
  obtain ⟨zb, b0, b1⟩ := BB1.out
  go_wp2_with fail
  refine (rwForm_c sb xb nb cb fb _ (by omega) HB1.out.rd).mono ?_
  rintro e w2 ⟨rfl, hb⟩
  rw [HB1.out.wf]
  clear zb b0 b1
  have BA2 := hid (BA1.out.below hb); have BB2 := hid (BB1.out.below hb); have OB2 := hid (OB1.out.below hb); have HA2 := hid (HA1.out.below hb); have HB2 := hid (HB1.out.below hb); have HW2 := hid (HW1.out.trans (hb.mono HW1.out.size))
  clear BA1 BB1 OB1 HA1 HB1 HW1 hb
  obtain ⟨za, a0, a1⟩ := BA2.out
  obtain ⟨zb, b0, b1⟩ := BB2.out
  obtain ⟨hz, z0, z1, z2, zf⟩ := OB2.out
  have hO2 := OB2.out
  have C1 : Hid (∀ W, Below w2.heap.size w2 W → Calls Tryz.prog 67 #[.slice xa na ca] W fun e w' => ∃ z k c', e = .returned (.slice z k c') ∧ Below W.heap.size W w' ∧ Hid (k ≤ 2 * na ∧ Dn w' z k (dig fa) u.natAbs)) := fun W hW => fromDn_c (HA2.out.below hW) (by omega)
  have C2 : Hid (∀ W, Below w2.heap.size w2 W → Calls Tryz.prog 67 #[.slice xb nb cb] W fun e w' => ∃ z k c', e = .returned (.slice z k c') ∧ Below W.heap.size W w' ∧ Hid (k ≤ 2 * nb ∧ Dn w' z k (dig fb) v.natAbs)) := fun W hW => fromDn_c (HB2.out.below hW) (by omega)
  have C3 : Hid (∀ (W : World) (z : Option Addr) (k cap : Nat), k ≤ 2 → Calls Tryz.prog 128 #[.bool (!(sa == sb)), .slice z k cap] W fun e w' => ∃ r, e = .returned (.agg #[.bool r, .slice z k cap]) ∧ Below W.heap.size W w' ∧ Hid (r = ((!(sa == sb)) && decide (0 < k)))) := fun W z k cap hk => (zMk_c (!(sa == sb)) z k cap W (by omega)).mono (fun e w' ⟨r, h1, h2, h3⟩ => ⟨r, h1, h3, h2⟩)
  have C4 : Hid (∀ (W : World) (r : Bool) (z : Option Addr) (k cap : Nat) (y : Option Addr) (m e : Nat), k ≤ 2 → m ≤ 2 → Dn W z k (dig fa) u.natAbs → Dn W y m (dig fb) v.natAbs → Calls Tryz.prog 127 #[.agg #[.bool r, .slice z k cap], .slice y m e] W fun e w' => ∃ r' z k c' z2 k2 c2, e = .returned (.agg #[.bool r', .slice z k c', .slice z2 k2 c2]) ∧ Below W.heap.size W w' ∧ Hid (k ≤ 2 ∧ k2 ≤ 2 ∧ r' = (r && decide (0 < k)) ∧ (∃ d', Dn w' z k d' (u.natAbs / u.natAbs.gcd v.natAbs)) ∧ ∃ d2, Dn w' z2 k2 d2 (v.natAbs / u.natAbs.gcd v.natAbs))) := fun W r z k cap y m e hk hm h1 h2 => (mkSmall_c h1 h2 (by omega) hk hm hvA).mono (fun e w' ⟨r', z, k, c', d', z2, k2, c2, d2, h1, h2, h3, h4, h5, h6, h7⟩ => ⟨r', z, k, c', z2, k2, c2, h1, h2, h3, h4, h5, ⟨d', h6⟩, d2, h7⟩)
  have C5 : Hid (∀ (W : World) (r : Bool) (z : Option Addr) (k cap : Nat) (y : Option Addr) (m e : Nat), k ≤ 2 → m ≤ 2 → (∃ d', Dn W z k d' (u.natAbs / u.natAbs.gcd v.natAbs)) → (∃ d2, Dn W y m d2 (v.natAbs / u.natAbs.gcd v.natAbs)) → Calls Tryz.prog 100 #[.agg #[.bool r, .slice z k cap, .slice y m e]] W fun en w' => ∃ z k' c' f z2 k2 c2 f2, en = .returned (.agg #[.bool r, .slice z k' c', .slice z2 k2 c2]) ∧ Below W.heap.size W w' ∧ Hid (k' ≤ k ∧ k2 ≤ m ∧ Wn w' false z k' c' f ((u.natAbs / u.natAbs.gcd v.natAbs : Nat) : Int) ∧ Wn w' false z2 k2 c2 f2 ((v.natAbs / u.natAbs.gcd v.natAbs : Nat) : Int) ∧ Tg w' z ∧ Tg w' z2)) := fun W r z k cap y m e hk hm ⟨_, h1⟩ ⟨_, h2⟩ => qTo_c h1 h2 (by omega) (by omega)
  go_wp2_with fail
  go_region_held3 (fun w' => w'.cell? ⟨w.heap.size, 0, none⟩ = some (.bool sa) ∧ w'.cell? ⟨w.heap.size, 1, none⟩ = some (.slice xa na ca) ∧ w'.cell? ⟨w.heap.size + 1, 0, none⟩ = some (.bool sb) ∧ w'.cell? ⟨w.heap.size + 1, 1, none⟩ = some (.slice xb nb cb) ∧ (w'.cell? ⟨w.heap.size + 1 + 1, 0, none⟩).isSome = true ∧ (w'.cell? ⟨w.heap.size + 1 + 1, 1, none⟩).isSome = true ∧ (w'.cell? ⟨w.heap.size + 1 + 1, 2, none⟩).isSome = true ∧ w'.frozen? ⟨w.heap.size + 1 + 1, 0, none⟩ = false ∧ w'.frozen? ⟨w.heap.size + 1 + 1, 1, none⟩ = false ∧ w'.frozen? ⟨w.heap.size + 1 + 1, 2, none⟩ = false)
    (refine ⟨?_, ?_, ?_, ?_, ?_, ?_, ?_, ?_, ?_, ?_⟩ <;> repeat (with_reducible first | assumption | exact zf _ | exact kI0 z0 | exact kI0 z1 | exact kI0 z2 | exact tf _ | exact kI0 t0 | exact kI0 t1 | exact kI0 t2 | exact uf _ | exact kI0 u0 | exact kI0 u1 | exact kI0 u2 | exact vf _ | exact kI0 v0 | exact kI0 v1 | exact kI0 v2 | exact sf _ | exact kI0 s0 | exact kI0 s1 | exact kI0 s2 | exact rf _ | exact kI0 r0 | exact kI0 r1 | exact kI0 r2 | refine kCd ?_ | refine kId ?_ | refine kFd ?_ | refine kCs (by simp only [ne_eq]; omega) ?_ | refine kIs ?_ | refine kFs ?_ | refine kCb (by assumption) ?_ | refine kIb (by assumption) ?_))
    (first
      | (go_at_call 67; with_reducible refine (C1.out _ (by repeat (with_reducible first | assumption | exact Below.refl _ _ | refine Below.drew ?_ | refine kBa ?_ | refine kBb (by assumption) ?_))).mono ?_; rintro e w5 ⟨zp, kp, cp, rfl, hb5, HP⟩; have hkp : kp ≤ 2 := (by have := HP.out.1; omega); have TU : Ob w5 (w.heap.size + 1 + 1) := (by repeat (with_reducible first | exact OB | exact hO2 | exact TU | exact TV | exact TW | exact TX | exact TY | refine Ob.drew ?_ | refine kOb (by assumption) ?_)); obtain ⟨_, t0, t1, t2, tf⟩ := id TU)
      | (go_at_call 128; with_reducible refine (C3.out _ zp kp cp hkp).mono ?_; rintro e w6 ⟨r, rfl, hb6, HR⟩; have TV : Ob w6 (w.heap.size + 1 + 1) := (by repeat (with_reducible first | exact OB | exact hO2 | exact TU | exact TV | exact TW | exact TX | exact TY | refine Ob.drew ?_ | refine kOb (by assumption) ?_)); obtain ⟨_, u0, u1, u2, uf⟩ := id TV)
      | (go_at_call 67; with_reducible refine (C2.out _ (by repeat (with_reducible first | assumption | exact Below.refl _ _ | refine Below.drew ?_ | refine kBa ?_ | refine kBb (by assumption) ?_))).mono ?_; rintro e w7 ⟨zq, kq, cq, rfl, hb7, HQ⟩; have hkq : kq ≤ 2 := (by have := HQ.out.1; omega); have TW : Ob w7 (w.heap.size + 1 + 1) := (by repeat (with_reducible first | exact OB | exact hO2 | exact TU | exact TV | exact TW | exact TX | exact TY | refine Ob.drew ?_ | refine kOb (by assumption) ?_)); obtain ⟨_, v0, v1, v2, vf⟩ := id TW)
      | (go_at_call 127; with_reducible refine (C4.out _ r zp kp cp zq kq cq hkp hkq ((HP.out.2.below hb6).below hb7) HQ.out.2).mono ?_; rintro e w8 ⟨r', zr, kr, cr, zs, ks, cs, rfl, hb8, HM⟩; have TX : Ob w8 (w.heap.size + 1 + 1) := (by repeat (with_reducible first | exact OB | exact hO2 | exact TU | exact TV | exact TW | exact TX | exact TY | refine Ob.drew ?_ | refine kOb (by assumption) ?_)); obtain ⟨_, s0, s1, s2, sf⟩ := id TX)
      | (go_at_call 100; with_reducible refine (C5.out _ r' zr kr cr zs ks cs HM.out.1 HM.out.2.1 HM.out.2.2.2.1 HM.out.2.2.2.2).mono ?_; rintro e w9 ⟨zn, kn, cn, fn, zd, kd, cd, fd, rfl, hb9, HT⟩; have TY : Ob w9 (w.heap.size + 1 + 1) := (by repeat (with_reducible first | exact OB | exact hO2 | exact TU | exact TV | exact TW | exact TX | exact TY | refine Ob.drew ?_ | refine kOb (by assumption) ?_)); obtain ⟨_, r0, r1, r2, rf⟩ := id TY))
  have hb : Below w2.heap.size w2 w9 := (by repeat (with_reducible first | assumption | exact Below.refl _ _ | refine Below.drew ?_ | refine kBa ?_ | refine kBb (by assumption) ?_))
  have hT := HT.out
  obtain ⟨e1, e2⟩ := make_made HA2.out.sgn HB2.out.sgn hvA
  have hM := HM.out
  have hRR : r' = ((sa != sb) && decide (0 < kn)) := by
    rw [hM.2.2.1, HR.out]
    have e3 : 0 < u.natAbs / u.natAbs.gcd v.natAbs := Nat.div_pos (Nat.gcd_le_left _ (by omega)) (Nat.gcd_pos_of_pos_right _ hvA)
    have k1 : 0 < kn := hT.2.2.1.pos (by omega)
    have k2 : 0 < kr := by omega
    have k3 : 0 < kp := by
      rcases Nat.eq_zero_or_pos kp with h | h
      · have h2 := HP.out.2.val; rw [h] at h2; have : (0 : Int) = u.natAbs := h2; omega
      · exact h
    simp [k1, k2, k3, bne]
  go_wp2
  refine bodyPost_ret (v := .tuple #[.agg #[.bool r', .slice zn kn cn, .slice zd kd cd], .int .i64 0]) (by simp [results, Tryz.results91, go_sem, r0, r1, r2]) rfl ⟨r', zn, kn, cn, fn, zd, kd, cd, fd, rfl, below_st (HW2.out.trans (hb.mono HW2.out.size)) (by omega), ⟨?_, ?_, by omega, by omega⟩, ((hT.2.2.2.2.1.set _ _).set _ _).set _ _, ((hT.2.2.2.2.2.set _ _).set _ _).set _ _⟩
  · rw [e1]; exact TY.wn (hT.2.2.1.resign hRR)
  · rw [e2]; exact TY.wn hT.2.2.2.1
end Go.Proofs.YtclopblgdiahiaaGreatDoor
namespace Go.Proofs.YtclopblgdiahiaaGreatDoor
open Go.RowKit

theorem Wn.len1 {w s x n c f v} (h : Wn w s x n c f v) (hv : v.natAbs < 18446744073709551616) : n ≤ 1 := by
  rcases Nat.lt_or_ge 1 n with h2 | h2
  · have h1 := vf_form_ge h.lm h.fm (by omega)
    have h3 := pw_mono (show 1 ≤ n - 1 by omega)
    have h4 : pw 1 = 18446744073709551616 := by simp [pw]
    have h5 := h.mag.nv
    omega
  · omega
set_option maxRecDepth 100000 in
set_option maxHeartbeats 4000000 in
theorem num_c (w : World) (n d : Int) (hn : -9223372036854775808 ≤ n ∧ n ≤ 9223372036854775807) (hd : -9223372036854775808 ≤ d ∧ d ≤ 9223372036854775807) (h1 : n ≠ 0) (h2 : d ≠ 0) :
    Calls Tryz.prog 46 #[.int .i64 n, .int .i64 d] w fun e w' => RatTga 2 w w' e ((n : Rat) / (d : Rat)) := by
  have h3 := ob_new w 32
  have h4 := below_alloc (Below.refl w.heap.size w) (.cells #[.bool false, .slice none 0 0, .slice none 0 0] 32)
  go_enter Tryz.func46, Tryz.ntmps46
  go_wp2_with fail
  generalize w.alloc (.cells #[.bool false, .slice none 0 0, .slice none 0 0] 32) = w1 at *
  have OB1 := hid h3; have HW1 := hid h4
  clear h3 h4
  refine (docOf_c n _ hn.1 hn.2).mono ?_
  rintro e w2 ⟨s2, x2, k2, c2, f2, rfl, hr2, hv2⟩
  have hb := hr2.res.bel
  have WN2 := hid (hr2.wn hv2)
  have hk2 := (hr2.wn hv2).len1 (by omega)
  clear hr2 hv2
  have OB2 := hid (OB1.out.below hb); have HW2 := hid (HW1.out.trans (hb.mono HW1.out.size))
  clear OB1 HW1 hb
  go_wp2_with fail
  refine (docOf_c d _ hd.1 hd.2).mono ?_
  rintro e w3 ⟨s3, x3, k3, c3, f3, rfl, hr3, hv3⟩
  have hb := hr3.res.bel
  have WD3 := hid (hr3.wn hv3)
  have hk3 := (hr3.wn hv3).len1 (by omega)
  clear hr3 hv3
  have OB3 := hid (OB2.out.below hb); have WN3 := hid (WN2.out.below hb); have HW3 := hid (HW2.out.trans (hb.mono HW2.out.size))
  clear OB2 WN2 HW2 hb
  go_wp2_with fail
  refine (docMake_c WN3.out WD3.out h1 h2 hk2 hk3).mono ?_
  rintro e w4 ⟨rs, zn, kn, cn, fn, zd, kd, cd, fd, rfl, hb, hr, ht1, ht2⟩
  have HR := hid hr; have G1 := hid ht1; have G2 := hid ht2
  clear hr ht1 ht2
  have OB4 := hid (OB3.out.below hb); have HW4 := hid (HW3.out.trans (hb.mono HW3.out.size))
  clear OB3 HW3 hb
  obtain ⟨hz, z0, z1, z2, zf⟩ := OB4.out
  go_wp2
  exact bodyPost_ret (v := .agg #[.bool rs, .slice zn kn cn, .slice zd kd cd]) (by simp [results, Tryz.results46, go_sem, z0, z1, z2, hz]) rfl ⟨rs, zn, kn, cn, fn, zd, kd, cd, fd, rfl, below_alloc (below_st HW4.out (Nat.le_refl _)) _, (OB4.out.rn HR.out).alloc _, (((G1.out.set _ _).set _ _).set _ _).alloc _, (((G2.out.set _ _).set _ _).set _ _).alloc _⟩

set_option maxRecDepth 100000 in
set_option maxHeartbeats 4000000 in
theorem rMake_n {w : World} {sa : Bool} {xa : Option Addr} {na ca : Nat} {fa : Nat → Int} {sb : Bool} {xb : Option Addr} {nb cb : Nat} {fb : Nat → Int} {u v : Int} (ha : Wn w sa xa na ca fa u) (hb : Wn w sb xb nb cb fb v) {L : Nat} (hv : v ≠ 0) (hna : na ≤ L) (hnbL : nb ≤ L) (hL : L ≤ 1000) :
    Calls Tryz.prog 44 #[.agg #[.bool sa, .slice xa na ca], .agg #[.bool sb, .slice xb nb cb]] w fun e w' => RatTup L w w' e ((u : Rat) / (v : Rat)) := by
  have HA0 := hid ha; have HB0 := hid hb
  have hvA : 0 < v.natAbs := by omega
  have hnb : 0 < nb := hb.mag.pos (by omega)
  clear ha hb
  have hn0 : ((nb : Int) == 0) = false := by simp; omega
  go_enter Tryz.func44, Tryz.ntmps44
  go_wp2_with fail
  refine (wForm_c sa xa na ca fa _ (by omega) (((HA0.out.alloc _).alloc _).alloc _).rd).mono ?_
  rintro e w1 ⟨rfl, hb⟩
  rw [HA0.out.wf]
  obtain ⟨ba, bb, ob, hw⟩ := mk_boxes hb
  have BA1 := hid ba; have BB1 := hid bb; have OB1 := hid ob; have HW1 := hid hw; have HA1 := hid (HA0.out.below hw); have HB1 := hid (HB0.out.below hw)
  clear ba bb ob hw hb HA0 HB0
  obtain ⟨zb, b0, b1⟩ := BB1.out
  go_wp2_with fail
  refine (wForm_c sb xb nb cb fb _ (by omega) HB1.out.rd).mono ?_
  rintro e w2 ⟨rfl, hb⟩
  rw [HB1.out.wf]
  clear zb b0 b1
  have BA2 := hid (BA1.out.below hb); have BB2 := hid (BB1.out.below hb); have OB2 := hid (OB1.out.below hb); have HA2 := hid (HA1.out.below hb); have HB2 := hid (HB1.out.below hb); have HW2 := hid (HW1.out.trans (hb.mono HW1.out.size))
  clear BA1 BB1 OB1 HA1 HB1 HW1 hb
  obtain ⟨za, a0, a1⟩ := BA2.out
  obtain ⟨zb, b0, b1⟩ := BB2.out
  obtain ⟨hz, z0, z1, z2, zf⟩ := OB2.out
  go_wp2_with fail
  refine (ratGcd_c HA2.out.mag HB2.out.mag (by omega) (by omega)).mono ?_
  rintro e w3 ⟨zg, kg, cg, fg, rfl, hb, hg⟩
  have WG3 := hid hg
  have hG0 : 0 < u.natAbs.gcd v.natAbs := Nat.gcd_pos_of_pos_right _ hvA
  have hkg : kg ≤ L := Nat.le_trans (hg.len_le HB2.out.mag (Nat.gcd_le_right _ hvA)) (by omega)
  clear hg za a0 a1 zb b0 b1 hz z0 z1 z2 zf
  have BA3 := hid (BA2.out.below hb); have BB3 := hid (BB2.out.below hb); have OB3 := hid (OB2.out.below hb); have HA3 := hid (HA2.out.below hb); have HB3 := hid (HB2.out.below hb); have HW3 := hid (HW2.out.trans (hb.mono HW2.out.size))
  clear BA2 BB2 OB2 HA2 HB2 HW2 hb
  obtain ⟨za, a0, a1⟩ := BA3.out
  obtain ⟨zb, b0, b1⟩ := BB3.out
  go_wp2_with fail
  refine (div_n HA3.out.mag WG3.out hG0 (by omega) (by omega)).mono ?_
  rintro e w4 ⟨zn, kn, cn, fn, zx, kx, cx, rfl, hb, hkn, hn⟩
  have WN4 := hid hn
  clear hn za a0 a1 zb b0 b1
  have BA4 := hid (BA3.out.below hb); have BB4 := hid (BB3.out.below hb); have OB4 := hid (OB3.out.below hb); have HA4 := hid (HA3.out.below hb); have HB4 := hid (HB3.out.below hb); have WG4 := hid (WG3.out.below hb); have HW4 := hid (HW3.out.trans (hb.mono HW3.out.size))
  clear BA3 BB3 OB3 HA3 HB3 WG3 HW3 hb
  obtain ⟨za, a0, a1⟩ := BA4.out
  obtain ⟨zb, b0, b1⟩ := BB4.out
  go_wp2_with fail
  refine (div_n HB4.out.mag WG4.out hG0 (by omega) (by omega)).mono ?_
  rintro e w5 ⟨zd, kd, cd, fd, zy, ky, cy, rfl, hb, hkd, hn⟩
  have WD5 := hid hn
  clear hn za a0 a1 zb b0 b1
  have BA5 := hid (BA4.out.below hb); have BB5 := hid (BB4.out.below hb); have OB5 := hid (OB4.out.below hb); have HA5 := hid (HA4.out.below hb); have HB5 := hid (HB4.out.below hb); have WN5 := hid (WN4.out.below hb); have HW5 := hid (HW4.out.trans (hb.mono HW4.out.size))
  clear BA4 BB4 OB4 HA4 HB4 WN4 HW4 hb
  obtain ⟨za, a0, a1⟩ := BA5.out
  obtain ⟨zb, b0, b1⟩ := BB5.out
  obtain ⟨e1, e2⟩ := make_made HA5.out.sgn HB5.out.sgn hvA
  have E1 := hid e1; have E2 := hid e2
  clear e1 e2
  go_wp2_with fail
  refine (rsigned_c _ zn zd kn cn kd cd _ (by omega)).mono ?_
  rintro e w6 ⟨rs, rfl, HRS, hb⟩
  clear za a0 a1 zb b0 b1
  have OB6 := hid (OB5.out.below hb); have WN6 := hid (WN5.out.below hb); have WD6 := hid (WD5.out.below hb); have HW6 := hid (HW5.out.trans (hb.mono HW5.out.size))
  clear OB5 WN5 WD5 HW5 hb
  obtain ⟨hz, z0, z1, z2, zf⟩ := OB6.out
  go_wp2
  refine bodyPost_ret (v := .tuple #[.agg #[.bool rs, .slice zn kn cn, .slice zd kd cd], .int .i64 0]) (by simp [results, Tryz.results44, go_sem, z0, z1, z2]) rfl ⟨rs, zn, kn, cn, fn, zd, kd, cd, fd, rfl, below_st HW6.out (by omega), ⟨?_, ?_, by omega, by omega⟩⟩
  · rw [E1.out]; exact OB6.out.wn (WN6.out.resign HRS.out)
  · rw [E2.out]; exact OB6.out.wn WD6.out
end Go.Proofs.YtclopblgdiahiaaGreatDoor
namespace Go.Proofs.YtclopblgdiahiaaGreatDoor
open Go.RowKit

theorem kM0 {w : World} {g : Nat} {x y : Value} {t : TypeId} (h : g = w.heap.size) : (w.alloc (.cells #[x, y] t)).cell? ⟨g, 0, none⟩ = some x := by subst h; exact kN0
theorem kM1 {w : World} {g : Nat} {x y : Value} {t : TypeId} (h : g = w.heap.size) : (w.alloc (.cells #[x, y] t)).cell? ⟨g, 1, none⟩ = some y := by subst h; exact kN1
theorem kCe {w : World} {a : Addr} {v : Value} (h : (w.cell? a).isSome = true) : (w.setCell a v).cell? a = some v := World.cell?_setCell_same' w a v h
theorem kCo {w : World} {b i j : Nat} {u v : Value} (hij : i ≠ j) (h : w.cell? ⟨b, j, none⟩ = some u) : (w.setCell ⟨b, i, none⟩ v).cell? ⟨b, j, none⟩ = some u := by
  rw [World.cell?_setCell_other _ _ _ _ (fun he => hij (congrArg Addr.off he))]; exact h
/-- A new box for an answer of two cells. -/
structure Ob2 (w : World) (B : Nat) : Prop where
  z : B < w.heap.size
  z0 : w.cell? ⟨B, 0, none⟩ = some (.bool false)
  z1 : w.cell? ⟨B, 1, none⟩ = some (.slice none 0 0)
  zf : ∀ o, w.frozen? ⟨B, o, none⟩ = false
theorem Ob2.below {w w' B} (h : Ob2 w B) (hb : Below w.heap.size w w') : Ob2 w' B := by
  obtain ⟨h1, h2⟩ := bcell hb
  exact ⟨Nat.lt_of_lt_of_le h.z hb.size, kCb hb h.z0, kCb hb h.z1, fun o => (h2 _ _ h.z).trans (h.zf o)⟩
theorem ob2_new (w : World) (t : TypeId) : Ob2 (w.alloc (.cells #[.bool false, .slice none 0 0] t)) w.heap.size := by
  refine ⟨by simp, by simp [go_sem], by simp [go_sem], fun o => ?_⟩
  have e := heap_alloc_new w (.cells #[.bool false, .slice none 0 0] t)
  simp only [World.frozen?, e]; simp
theorem Ob2.wn {w B u0 u1 s x n c f v} (h : Ob2 w B) (hx : Wn w s x n c f v) : Wn ((w.setCell ⟨B, 0, none⟩ u0).setCell ⟨B, 1, none⟩ u1) s x n c f v :=
  ⟨rd_setne (cell_off (by decide) h.z1) (fun i h => by cases h) (rd_setne h.z0 (fun i h => by cases h) hx.rd), hx.lm, hx.wf, hx.cap, hx.nil, hx.val⟩
theorem below_st2 {w0 w : World} {B : Nat} {u0 u1 : Value} (hw : Below w0.heap.size w0 w) (hB : w0.heap.size ≤ B) :
    Below w0.heap.size w0 ((w.setCell ⟨B, 0, none⟩ u0).setCell ⟨B, 1, none⟩ u1) :=
  below_turned hw hw.size (((Turned.refl w0.heap.size (B + 1) w).set (x := ⟨B, 0, none⟩) hB (by simp) _).set (x := ⟨B, 1, none⟩) hB (by simp) _) (Nat.le_refl _)
theorem flr_ediv {a b q r : Int} (hb : 0 < b) (h : Flr a b q r) : q = a / b := by
  obtain ⟨h1, h2⟩ := h
  have h3 : 0 ≤ r ∧ r < b := by omega
  have h4 : a / b = q := by
    rw [h1, Int.add_comm, Int.add_mul_ediv_right _ _ (by omega), Int.ediv_eq_zero_of_lt h3.1 h3.2]; omega
  exact h4.symm
/-- What stands behind the quotient. -/
structure FlAt (L : Nat) (w1 wx : World) (b4 : Nat) (s : Bool) (z : Option Addr) (k c : Nat) (v : Int) : Prop where
  bx : Bx wx b4 s z k c
  bel : Below w1.heap.size w1 wx
  wn : ∃ f, Wn wx s z k c f v
  le : k ≤ L + 2
theorem fl_of {L : Nat} {w1 wx W5 w5 : World} {b4 : Nat} {r1 : Bool} {p1 : Option Addr} {k1 c1 n : Nat} {q : Nat → Int} {v : Int} (hn : n ≤ L) (hW : Below w1.heap.size w1 W5) (hD : WRes (n + 2) W5 w5 r1 p1 k1 c1 q ∧ wv r1 q k1 = v) (hT : Turned w1.heap.size W5.heap.size w5 wx) (hb : Bx wx b4 r1 p1 k1 c1) : FlAt L w1 wx b4 r1 p1 k1 c1 v := by
  have hQ := hD.1.res.turned hW hT
  have := hQ.le
  exact ⟨hb, hQ.bel, ⟨q, hQ.rd, hQ.lm, hD.1.wfB, hQ.ncap, hQ.nil', hD.2⟩, by omega⟩

set_option maxRecDepth 100000 in
set_option maxHeartbeats 8000000 in
theorem rFloor_n {L : Nat} {w : World} {sa : Bool} {xa : Option Addr} {na ca : Nat} {fa : Nat → Int} {ya : Option Addr} {ma da : Nat} {ga : Nat → Int} {a : Rat} (ha : Rn L w sa xa na ca fa ya ma da ga a) (hL : L ≤ 1000) :
    Calls Tryz.prog 47 #[.agg #[.bool sa, .slice xa na ca, .slice ya ma da]] w fun e w' => ∃ s z k c f, e = .returned (.tuple #[.agg #[.bool s, .slice z k c], .int .i64 0]) ∧ Below w.heap.size w w' ∧ k ≤ L + 2 ∧ Wn w' s z k c f a.floor := by
  have HA0 := hid ha
  have b1 := ha.ln; have b2 := ha.ld
  clear ha
  go_enter Tryz.func47, Tryz.ntmps47
  go_wp2_with fail
  refine (rForm_n ((HA0.out.alloc _).alloc _) (by omega)).mono ?_
  rintro e w1 ⟨rfl, hbel⟩
  have hbx := ((bx3_at w _ _ _ _).alloc _).below hbel
  have hob := (ob2_new (w.alloc _) _).below hbel
  rw [size_alloc1] at hob
  have HW1 : Hid (Below w.heap.size w w1) := (below_alloc (below_alloc (Below.refl w.heap.size w) _) _).trans (hbel.mono (by simp; omega))
  have HA1 := hid (HA0.out.below HW1.out); have OB1 := hid hob
  clear hbel hob HA0
  obtain ⟨za, x0, x1, x2⟩ := hbx
  have C1 : Hid (∀ W, Below w1.heap.size w1 W → Calls Tryz.prog 92 #[.agg #[.bool sa, .slice xa na ca, .slice ya ma da]] W fun e w' => e = .returned (.agg #[.bool sa, .slice xa na ca]) ∧ Below W.heap.size W w') := fun W _ => numer_c sa xa ya na ca ma da W
  have C2 : Hid (∀ W, Below w1.heap.size w1 W → Calls Tryz.prog 93 #[.agg #[.bool sa, .slice xa na ca, .slice ya ma da]] W fun e w' => e = .returned (.agg #[.bool false, .slice ya ma da]) ∧ Below W.heap.size W w') := fun W _ => denom_c sa xa ya na ca ma da W
  have C3 : Hid (∀ W, Below w1.heap.size w1 W → Calls Tryz.prog 32 #[.agg #[.bool sa, .slice xa na ca], .agg #[.bool false, .slice ya ma da]] W fun e w' => ∃ r1 p1 k1 c1 q r2 p2 k2 c2, e = .returned (.tuple #[.agg #[.bool r1, .slice p1 k1 c1], .agg #[.bool r2, .slice p2 k2 c2], .int .i64 0]) ∧ Below W.heap.size W w' ∧ Hid (WRes (na + 2) W w' r1 p1 k1 c1 q ∧ wv r1 q k1 = a.floor)) := fun W hW => by
    have hh := HA1.out.below hW
    refine (wDivide_c sa false xa ya na ma ca da fa ga W (by omega) (by omega) hh.num.rd hh.den.rd hh.num.lm hh.den.lm).mono ?_
    rintro e w' ⟨r1, p1, k1, c1, q, r2, p2, k2, c2, r, er, rfl, h1, h2, h3⟩
    have hd := a.den_pos
    have hm0 : 0 < ma := hh.den.pos (by omega)
    rcases h3 with ⟨_, _, rfl, h4⟩ | ⟨_, h4, _⟩ | ⟨h4, _⟩
    · refine ⟨r1, p1, k1, c1, q, r2, p2, k2, c2, rfl, h1.res.bel, h1, ?_⟩
      rw [hh.num.val, hh.den.val] at h4
      rw [flr_ediv (by omega) h4, rfloor]
    · omega
    · exact absurd ⟨hh.num.wf, hh.den.wf⟩ h4
  go_upto_region 3 with fail
  go_cut [4, 5, 6] from 11 to 19 (fun u v t wx => ∃ b4 b5 s z k c, u = .pointer (some ⟨b4, 0, none⟩) ∧ v = .pointer (some ⟨b5, 0, none⟩) ∧ t = .int .i64 0 ∧ FlAt L w1 wx b4 s z k c a.floor)
  case first =>
    go_region_held3 (fun w' => w'.cell? ⟨w.heap.size, 0, none⟩ = some (.bool sa) ∧ w'.cell? ⟨w.heap.size, 1, none⟩ = some (.slice xa na ca) ∧ w'.cell? ⟨w.heap.size, 2, none⟩ = some (.slice ya ma da))
      (refine ⟨?_, ?_, ?_⟩ <;> repeat (with_reducible first | assumption | refine kCd ?_ | refine kCa ?_ | refine kCs (by simp only [ne_eq]; omega) ?_ | refine kCb (by assumption) ?_))
      (first
        | (go_at_call 92; with_reducible refine (C1.out _ (by repeat (with_reducible first | assumption | exact Below.refl _ _ | refine Below.drew ?_ | refine kBa ?_ | refine kBb (by assumption) ?_))).mono ?_; rintro e w3 ⟨rfl, hb3⟩; have hza := hb3.size; (try simp at hza); obtain ⟨hc3, hf3⟩ := bcell hb3; (try have q100 : w1.heap.size < w3.heap.size := by omega); (try have q101 : w1.heap.size + 1 < w3.heap.size := by omega))
        | (go_at_call 93; with_reducible refine (C2.out _ (by repeat (with_reducible first | assumption | exact Below.refl _ _ | refine Below.drew ?_ | refine kBa ?_ | refine kBb (by assumption) ?_))).mono ?_; rintro e w4 ⟨rfl, hb4⟩; have hzb := hb4.size; (try simp at hzb); obtain ⟨hc4, hf4⟩ := bcell hb4; (try have q100 : w1.heap.size < w4.heap.size := by omega); (try have q101 : w1.heap.size + 1 < w4.heap.size := by omega); (try have q102 : w3.heap.size < w4.heap.size := by omega); (try have q103 : w3.heap.size + 1 < w4.heap.size := by omega))
        | (go_at_call 32; with_reducible refine (C3.out _ (by repeat (with_reducible first | assumption | exact Below.refl _ _ | refine Below.drew ?_ | refine kBa ?_ | refine kBb (by assumption) ?_))).mono ?_; rintro e w5 ⟨r1, p1, k1, c1, q, r2, p2, k2, c2, rfl, hb5, HD⟩; have hzc := hb5.size; (try simp at hzc); obtain ⟨hc5, hf5⟩ := bcell hb5; (try have q100 : w1.heap.size < w5.heap.size := by omega); (try have q101 : w1.heap.size + 1 < w5.heap.size := by omega); (try have q102 : w3.heap.size < w5.heap.size := by omega); (try have q103 : w3.heap.size + 1 < w5.heap.size := by omega); (try have q104 : w4.heap.size < w5.heap.size := by omega); (try have q105 : w4.heap.size + 1 < w5.heap.size := by omega)))
    all_goals
      go_wp2_with fail
      go_meet
      refine ⟨_, _, r1, p1, k1, c1, rfl, rfl, rfl, fl_of b1 (by repeat (with_reducible first | assumption | exact Below.refl _ _ | refine Below.drew ?_ | refine kBa ?_ | refine kBb (by assumption) ?_)) HD.out (by repeat (with_reducible first | exact Turned.refl _ _ _ | refine Turned.drew ?_ | refine Turned.alloc ?_ _ | refine Turned.set ?_ (by first | omega | (simp; done) | (simp; omega)) (by first | omega | (simp; done) | (simp; omega)) _)) ⟨(by first | omega | (simp; done) | (simp; omega)), (by repeat (with_reducible first | assumption | exact kN0 | exact kN1 | (refine kM0 ?_; (simp <;> fail)) | (refine kM1 ?_; (simp <;> fail)) | exact kI0 kN0 | exact kI0 kN1 | (refine kI0 (kM0 ?_); (simp <;> fail)) | (refine kI0 (kM1 ?_); (simp <;> fail)) | refine kCd ?_ | refine kCe ?_ | refine kCo (by decide) ?_ | refine kCs (by simp only [ne_eq]; omega) ?_ | refine kCa ?_ | refine kCb (by assumption) ?_ | refine kId ?_ | refine kIs ?_ | refine kIa ?_ | refine kIb (by assumption) ?_)), (by repeat (with_reducible first | assumption | exact kN0 | exact kN1 | (refine kM0 ?_; (simp <;> fail)) | (refine kM1 ?_; (simp <;> fail)) | exact kI0 kN0 | exact kI0 kN1 | (refine kI0 (kM0 ?_); (simp <;> fail)) | (refine kI0 (kM1 ?_); (simp <;> fail)) | refine kCd ?_ | refine kCe ?_ | refine kCo (by decide) ?_ | refine kCs (by simp only [ne_eq]; omega) ?_ | refine kCa ?_ | refine kCb (by assumption) ?_ | refine kId ?_ | refine kIs ?_ | refine kIa ?_ | refine kIb (by assumption) ?_))⟩⟩
  case rest =>
    obtain ⟨b4, b5, s, z, k, c, rfl, rfl, rfl, hbx, hbel, ⟨f, hwn⟩, hle⟩ := hcut
    have OB2' := hid (OB1.out.below hbel); have HW2 := hid (HW1.out.trans (hbel.mono HW1.out.size)); have WN := hid hwn
    clear hbel hwn x0 x1 x2 za C1 C2 C3 OB1 HW1
    obtain ⟨zb, y0, y1⟩ := hbx
    obtain ⟨hz, z0, z1, zf⟩ := OB2'.out
    go_wp2
    exact bodyPost_ret (v := .tuple #[.agg #[.bool s, .slice z k c], .int .i64 0]) (by simp [results, Tryz.results47, go_sem, z0, z1]) rfl ⟨s, z, k, c, f, rfl, below_st2 HW2.out (by omega), hle, OB2'.out.wn WN.out⟩
end Go.Proofs.YtclopblgdiahiaaGreatDoor
namespace Go.Proofs.YtclopblgdiahiaaGreatDoor
open Go.RowKit

/-- Two boxes of three cells. -/
theorem two_new {w w1 : World} {a0 a1 a2 b0 b1 b2 : Value} {t : TypeId} (hb : Below ((w.alloc (.cells #[a0, a1, a2] t)).alloc (.cells #[b0, b1, b2] t)).heap.size ((w.alloc (.cells #[a0, a1, a2] t)).alloc (.cells #[b0, b1, b2] t)) w1) :
    Bx3 w1 w.heap.size a0 a1 a2 ∧ Bx3 w1 (w.heap.size + 1) b0 b1 b2 ∧ Below w.heap.size w w1 := by
  have h2 := bx3_at (w.alloc (.cells #[a0, a1, a2] t)) b0 b1 b2 t
  rw [size_alloc1] at h2
  exact ⟨((bx3_at w a0 a1 a2 t).alloc _).below hb, h2.below hb, (below_alloc (below_alloc (Below.refl w.heap.size w) _) _).trans (hb.mono (by simp; omega))⟩
theorem beq_bool_true {s t : Bool} (h : s = t) : (s == t) = true := by subst h; cases s <;> rfl
theorem beq_bool_false {s t : Bool} (h : ¬ s = t) : (s == t) = false := by cases s <;> cases t <;> first | rfl | exact absurd rfl h
set_option maxHeartbeats 1000000 in
theorem rSame_c (sa : Bool) (xa ya : Option Addr) (na ca ma da : Nat) (fa ga : Nat → Int) (sb : Bool) (xb yb : Option Addr) (nb cb mb db : Nat) (fb gb : Nat → Int) (w : World) (h1 : Rd .u64 w xa na fa) (h2 : Rd .u64 w ya ma ga) (h3 : Rd .u64 w xb nb fb) (h4 : Rd .u64 w yb mb gb) (l1 : na ≤ 140737488355328) (l2 : ma ≤ 140737488355328) (l3 : nb ≤ 140737488355328) (l4 : mb ≤ 140737488355328) :
    Calls Tryz.prog 16 #[.agg #[.bool sa, .slice xa na ca, .slice ya ma da], .agg #[.bool sb, .slice xb nb cb, .slice yb mb db]] w fun e w' => ∃ b, e = .returned (.bool b) ∧ Below w.heap.size w w' ∧ (b = true ↔ sa = sb ∧ Alk na nb fa fb ∧ Alk ma mb ga gb) := by
  have H1 := hid h1; have H2 := hid h2; have H3 := hid h3; have H4 := hid h4
  clear h1 h2 h3 h4
  by_cases hs : sa = sb
  · have hse := beq_bool_true hs
    have HS := hid hs
    clear hs
    go_enter Tryz.func16, Tryz.ntmps16
    go_wp2_with fail
    refine (same_c xa xb na nb ca cb fa fb _ l1 l3 ((H1.out.alloc _).alloc _) ((H3.out.alloc _).alloc _)).mono ?_
    rintro e w1 ⟨⟨q, hq⟩, b, rfl, hb1⟩
    obtain ⟨⟨za, x0, x1, x2⟩, ⟨zb, y0, y1, y2⟩, hw⟩ := two_new (drewN_below hq)
    have HW1 := hid hw; have HB1 := hid hb1
    clear hq hw hb1
    cases b
    · go_wp2
      go_ret
      exact ⟨false, rfl, HW1.out, (fun h => by cases h), fun h => HB1.out.2 h.2.1⟩
    · go_wp2_with fail
      refine (same_c ya yb ma mb da db ga gb _ l2 l4 (H2.out.below HW1.out (Nat.le_refl _)) (H4.out.below HW1.out (Nat.le_refl _))).mono ?_
      rintro e w2 ⟨⟨q, hq⟩, b, rfl, hb2⟩
      have HW2 := hid (HW1.out.trans ((drewN_below hq).mono HW1.out.size)); have HB2 := hid hb2
      clear hq hb2
      go_wp2
      go_ret
      exact ⟨b, rfl, HW2.out, fun h => ⟨HS.out, HB1.out.1 (by simp), HB2.out.1 h⟩, fun h => HB2.out.2 h.2.2⟩
  · have hse := beq_bool_false hs
    have HS := hid hs
    clear hs
    go_enter Tryz.func16, Tryz.ntmps16
    go_wp2
    go_ret
    exact ⟨false, rfl, below_alloc (below_alloc (Below.refl _ _) _) _, (fun h => by cases h), fun h => absurd h.1 HS.out⟩
theorem rSame_n {L L' w sa xa na ca fa ya ma da ga a sb xb nb cb fb yb mb db gb b} (ha : Rn L w sa xa na ca fa ya ma da ga a) (hb : Rn L' w sb xb nb cb fb yb mb db gb b) (h1 : L ≤ 4096) (h2 : L' ≤ 4096) :
    Calls Tryz.prog 16 #[.agg #[.bool sa, .slice xa na ca, .slice ya ma da], .agg #[.bool sb, .slice xb nb cb, .slice yb mb db]] w fun e w' => e = .returned (.bool (decide (a = b))) ∧ Below w.heap.size w w' := by
  have l1 := ha.ln; have l2 := ha.ld; have l3 := hb.ln; have l4 := hb.ld
  refine (rSame_c sa xa ya na ca ma da fa ga sb xb yb nb cb mb db fb gb w ha.num.rd ha.den.rd hb.num.rd hb.den.rd (by omega) (by omega) (by omega) (by omega)).mono ?_
  rintro e w' ⟨c, rfl, h3, h4⟩
  refine ⟨?_, h3⟩
  have h5 := h4.trans (ha.inj hb)
  cases c
  · have : ¬ (a = b) := fun h => by have := h5.2 h; cases this
    simp [this]
  · simp [h5.1 rfl]
def lg (n m k : Nat) : Bool := decide (n ≤ k) && decide (m ≤ k)
theorem rLight_c (s : Bool) (x y : Option Addr) (n c m d : Nat) (w : World) (hn : n ≤ 9223372036854775807) (hm : m ≤ 9223372036854775807) :
    Calls Tryz.prog 20 #[.agg #[.bool s, .slice x n c, .slice y m d], .int .i64 20] w fun e w' => e = .returned (.bool (lg n m 20)) ∧ Below w.heap.size w w' := by
  by_cases h1 : n ≤ 20
  · have d1 : decide ((n : Int) ≤ 20) = true := by simp; omega
    by_cases h2 : m ≤ 20
    · have d2 : decide ((m : Int) ≤ 20) = true := by simp; omega
      rw [show lg n m 20 = true by simp [lg, h1, h2]]
      go_enter Tryz.func20, Tryz.ntmps20
      go_wp2
      go_ret
      exact ⟨rfl, below_alloc (Below.refl _ _) _⟩
    · have d2 : decide ((m : Int) ≤ 20) = false := by simp; omega
      rw [show lg n m 20 = false by simp [lg, h2]]
      go_enter Tryz.func20, Tryz.ntmps20
      go_wp2
      go_ret
      exact ⟨rfl, below_alloc (Below.refl _ _) _⟩
  · have d1 : decide ((n : Int) ≤ 20) = false := by simp; omega
    rw [show lg n m 20 = false by simp [lg, h1]]
    go_enter Tryz.func20, Tryz.ntmps20
    go_wp2
    go_ret
    exact ⟨rfl, below_alloc (Below.refl _ _) _⟩
set_option maxHeartbeats 1000000 in
theorem rlight2_c (sa : Bool) (xa ya : Option Addr) (na ca ma da : Nat) (sb : Bool) (xb yb : Option Addr) (nb cb mb db : Nat) (w : World) (l1 : na ≤ 9223372036854775807) (l2 : ma ≤ 9223372036854775807) (l3 : nb ≤ 9223372036854775807) (l4 : mb ≤ 9223372036854775807) :
    Calls Tryz.prog 13 #[.agg #[.bool sa, .slice xa na ca, .slice ya ma da], .agg #[.bool sb, .slice xb nb cb, .slice yb mb db]] w fun e w' => e = .returned (.bool (lg na ma 20 && lg nb mb 20)) ∧ Below w.heap.size w w' := by
  go_enter Tryz.func13, Tryz.ntmps13
  go_wp2_with fail
  refine (rLight_c sa xa ya na ca ma da _ l1 l2).mono ?_
  rintro e w1 ⟨rfl, hb⟩
  obtain ⟨⟨za, x0, x1, x2⟩, ⟨zb, y0, y1, y2⟩, hw⟩ := two_new hb
  have HW1 := hid hw
  clear hb hw
  cases h1 : lg na ma 20
  · have E : Hid ((lg na ma 20 && lg nb mb 20) = false) := hid (by rw [h1]; rfl)
    go_wp2
    go_ret
    exact ⟨by rw [E.out]; rfl, HW1.out⟩
  · have E : Hid ((lg na ma 20 && lg nb mb 20) = lg nb mb 20) := hid (by rw [h1]; rfl)
    clear h1
    go_wp2_with fail
    refine (rLight_c sb xb yb nb cb mb db _ l3 l4).mono ?_
    rintro e w2 ⟨rfl, hb⟩
    go_wp2
    go_ret
    exact ⟨by rw [E.out]; rfl, HW1.out.trans (hb.mono HW1.out.size)⟩
end Go.Proofs.YtclopblgdiahiaaGreatDoor
namespace Go.Proofs.YtclopblgdiahiaaGreatDoor
open Go.RowKit

theorem Ob2.drew {w B} (h : Ob2 w B) : Ob2 w.drew B := ⟨h.z, h.z0, h.z1, h.zf⟩
theorem kO2b {w w' B} (hb : Below w.heap.size w w') (h : Ob2 w B) : Ob2 w' B := h.below hb
theorem Ob2.alloc {w B} (h : Ob2 w B) (o : Obj) : Ob2 (w.alloc o) B := h.below (below_alloc (Below.refl _ _) o)
theorem Ob2.next {w w' B} {o : Obj} (h : Ob2 w B) (hb : Below (w.alloc o).heap.size (w.alloc o) w') : Ob2 w' B := (h.alloc o).below hb
theorem Ob2.dn {w B u0 u1 x n d V} (h : Ob2 w B) (hx : Dn w x n d V) : Dn ((w.setCell ⟨B, 0, none⟩ u0).setCell ⟨B, 1, none⟩ u1) x n d V :=
  ⟨rd_setne (cell_off (by decide) h.z1) (fun i h => by cases h) (rd_setne h.z0 (fun i h => by cases h) hx.rd), hx.dg, hx.fm, hx.val⟩
/-- A whole number of the reference: sign and digits. -/
structure Zn (w : World) (s : Bool) (x : Option Addr) (n : Nat) (d : Nat → Int) (v : Int) : Prop where
  dn : Dn w x n d v.natAbs
  sgn : v = sg s v.natAbs
  pos : s = true → 0 < n
theorem Zn.below {w w' s x n d v} (h : Zn w s x n d v) (hb : Below w.heap.size w w') : Zn w' s x n d v := ⟨h.dn.below hb, h.sgn, h.pos⟩
theorem Zn.alloc {w s x n d v} (h : Zn w s x n d v) (o : Obj) : Zn (w.alloc o) s x n d v := ⟨h.dn.alloc o, h.sgn, h.pos⟩
theorem Zn.next {w w' s x n d v} {o : Obj} (h : Zn w s x n d v) (hb : Below (w.alloc o).heap.size (w.alloc o) w') : Zn w' s x n d v := (h.alloc o).below hb
theorem Zn.of {w z k d V} {r s : Bool} (h : Dn w z k d V) (hr : r = (s && decide (0 < k))) : Zn w r z k d (sg s V) := by
  refine ⟨by rw [sg_natAbs]; exact h, ?_, fun h => by rw [hr] at h; simp at h; exact h.2⟩
  rw [sg_natAbs]
  rcases Nat.eq_zero_or_pos k with h0 | h0
  · subst h0
    have := h.zero
    subst this
    cases s <;> cases r <;> rfl
  · have : r = s := by rw [hr]; simp [h0]
    rw [this]
theorem mkZ_c {w : World} {s : Bool} {z : Option Addr} {k c : Nat} (hk : k ≤ 100000) :
    Calls Tryz.prog 128 #[.bool s, .slice z k c] w fun e w' => ∃ r, e = .returned (.agg #[.bool r, .slice z k c]) ∧ Below w.heap.size w w' ∧ Hid (r = (s && decide (0 < k))) := (zMk_c s z k c w (by omega)).mono (fun _ _ ⟨r, h1, h2, h3⟩ => ⟨r, h1, h3, h2⟩)
/-- A whole number of the reference that a call answers. -/
def ZAns (L : Nat) (w w' : World) (e : Ending) (v : Int) : Prop := ∃ s x n c d, e = .returned (.agg #[.bool s, .slice x n c]) ∧ Below w.heap.size w w' ∧ n ≤ L ∧ Zn w' s x n d v
theorem zboxes {w : World} (sa : Bool) (xa : Option Addr) (na ca : Nat) (sb : Bool) (xb : Option Addr) (nb cb : Nat) (t : TypeId) :
    Bx (((w.alloc (.cells #[.bool sa, .slice xa na ca] t)).alloc (.cells #[.bool sb, .slice xb nb cb] t)).alloc (.cells #[.bool false, .slice none 0 0] t)) w.heap.size sa xa na ca ∧ Bx (((w.alloc (.cells #[.bool sa, .slice xa na ca] t)).alloc (.cells #[.bool sb, .slice xb nb cb] t)).alloc (.cells #[.bool false, .slice none 0 0] t)) (w.heap.size + 1) sb xb nb cb ∧ Ob2 (((w.alloc (.cells #[.bool sa, .slice xa na ca] t)).alloc (.cells #[.bool sb, .slice xb nb cb] t)).alloc (.cells #[.bool false, .slice none 0 0] t)) (w.heap.size + 1 + 1) ∧ Below w.heap.size w (((w.alloc (.cells #[.bool sa, .slice xa na ca] t)).alloc (.cells #[.bool sb, .slice xb nb cb] t)).alloc (.cells #[.bool false, .slice none 0 0] t)) := by
  have h0 : Bx (w.alloc (.cells #[.bool sa, .slice xa na ca] t)) w.heap.size sa xa na ca := ⟨by simp, kN0, kN1⟩
  have h1 : Bx ((w.alloc (.cells #[.bool sa, .slice xa na ca] t)).alloc (.cells #[.bool sb, .slice xb nb cb] t)) (w.heap.size + 1) sb xb nb cb := by
    have := size_alloc1 w (.cells #[.bool sa, .slice xa na ca] t)
    refine ⟨by simp, ?_, ?_⟩
    · rw [← this]; exact kN0
    · rw [← this]; exact kN1
  have h2 := ob2_new ((w.alloc (.cells #[.bool sa, .slice xa na ca] t)).alloc (.cells #[.bool sb, .slice xb nb cb] t)) t
  rw [size_alloc1, size_alloc1] at h2
  exact ⟨(h0.alloc _).alloc _, h1.alloc _, h2, below_alloc (below_alloc (below_alloc (Below.refl w.heap.size w) _) _) _⟩
theorem zmul_val {u v : Int} {s t : Bool} (hu : u = sg s u.natAbs) (hv : v = sg t v.natAbs) : u * v = sg (!(s == t)) (u.natAbs * v.natAbs) := by
  have := sg_mul s t u.natAbs v.natAbs
  rw [← hu, ← hv] at this
  exact this
theorem zadd_same {u v : Int} {s t : Bool} (h : s = t) (hu : u = sg s u.natAbs) (hv : v = sg t v.natAbs) : u + v = sg s (u.natAbs + v.natAbs) := by
  subst h
  cases s
  · have e1 : u = u.natAbs := hu
    have e2 : v = v.natAbs := hv
    show u + v = ((u.natAbs + v.natAbs : Nat) : Int); omega
  · have e1 : u = -(u.natAbs : Int) := hu
    have e2 : v = -(v.natAbs : Int) := hv
    show u + v = -((u.natAbs + v.natAbs : Nat) : Int); omega
theorem zadd_more {u v : Int} {s t : Bool} (h : ¬ s = t) (hu : u = sg s u.natAbs) (hv : v = sg t v.natAbs) (hle : v.natAbs ≤ u.natAbs) : u + v = sg s (u.natAbs - v.natAbs) := by
  cases s <;> cases t
  · exact absurd rfl h
  · have e1 : u = u.natAbs := hu
    have e2 : v = -(v.natAbs : Int) := hv
    show u + v = ((u.natAbs - v.natAbs : Nat) : Int); omega
  · have e1 : u = -(u.natAbs : Int) := hu
    have e2 : v = v.natAbs := hv
    show u + v = -((u.natAbs - v.natAbs : Nat) : Int); omega
  · exact absurd rfl h
theorem zadd_less {u v : Int} {s t : Bool} (h : ¬ s = t) (hu : u = sg s u.natAbs) (hv : v = sg t v.natAbs) (hle : u.natAbs ≤ v.natAbs) : u + v = sg t (v.natAbs - u.natAbs) := by
  rw [Int.add_comm]; exact zadd_more (fun e => h e.symm) hv hu hle

end Go.Proofs.YtclopblgdiahiaaGreatDoor
namespace Go.Proofs.YtclopblgdiahiaaGreatDoor
open Go.RowKit

theorem zToW_c {w s x n c d v} (h : Zn w s x n d v) (hn : n ≤ 100000) :
    Calls Tryz.prog 82 #[.agg #[.bool s, .slice x n c]] w fun e w' => ∃ r z k c' f, e = .returned (.agg #[.bool r, .slice z k c']) ∧ Below w.heap.size w w' ∧ Hid (k ≤ n ∧ Wn w' r z k c' f v) := by
  refine (zTo_c s x n c d v w (by omega) h.dn.rd h.dn.dg h.dn.fm h.pos ?_).mono ?_
  · rw [h.dn.val]
    have := h.sgn
    cases s
    · have e : v = v.natAbs := this
      show (v.natAbs : Int) = v; omega
    · have e : v = -(v.natAbs : Int) := this
      show -(v.natAbs : Int) = v; omega
  · rintro e w' ⟨r, z, k, c', f, rfl, h1, h2⟩
    exact ⟨r, z, k, c', f, rfl, h1.res.bel, h1.res.le, h1.wn h2⟩

/-- The error of two numbers. -/
def e2 (s : Bool) (f : Nat → Int) (n : Nat) (t : Bool) (h : Nat → Int) (m : Nat) : Int := if wfB s f n && wfB t h m then 0 else 3
end Go.Proofs.YtclopblgdiahiaaGreatDoor
namespace Go.Proofs.YtclopblgdiahiaaGreatDoor
open Go.RowKit

/-- What a call answers: a number, or an error. -/
def WGot (L : Nat) (w w' : World) (e : Ending) (p : Bool) (v : Int) : Prop := ∃ r z k c f, e = .returned (.tuple #[.agg #[.bool r, .slice z k c], .int .i64 (if p then 0 else 3)]) ∧ Below w.heap.size w w' ∧ k ≤ L ∧ Wn w' r z k c f (if p then v else 0)
/-- What Cmp answers: an order, or an error. -/
def CmpGot (w w' : World) (e : Ending) (p : Bool) (u v : Int) : Prop := ∃ c, e = .returned (.tuple #[.int .i64 c, .int .i64 (if p then 0 else 3)]) ∧ Below w.heap.size w w' ∧ (if p then Ord c u v else c = 0)
def kv (kind : Nat) (u v : Int) : Int := if kind = 0 then u + v else if kind = 1 then u - v else u * v
theorem wn_none (w : World) (v : Int) : Wn w false none 0 0 (fun _ => 0) (if false = true then v else 0) := ⟨Rd.zero, fun j hj => by omega, by decide, by omega, fun _ => ⟨rfl, rfl⟩, rfl⟩
theorem kBs' {w0 w : World} {p : Addr} {v : Value} (hB : w0.heap.size ≤ p.block) (h : Below w0.heap.size w0 w) : Below w0.heap.size w0 (w.setCell p v) :=
  below_turned h h.size ((Turned.refl w0.heap.size (p.block + 1) w).set hB (Nat.lt_succ_self _) v) (Nat.le_refl _)
theorem kZd {w s x n d v} (h : Zn w s x n d v) : Zn w.drew s x n d v := ⟨h.dn.drew, h.sgn, h.pos⟩
theorem kZa {w s x n d v} {o : Obj} (h : Zn w s x n d v) : Zn (w.alloc o) s x n d v := h.alloc o
theorem kZb {w w' s x n d v} (hb : Below w.heap.size w w') (h : Zn w s x n d v) : Zn w' s x n d v := h.below hb
theorem ob2_at {w : World} {t : TypeId} {B : Nat} (h : B = w.heap.size) : Ob2 (w.alloc (.cells #[.bool false, .slice none 0 0] t)) B := by subst h; exact ob2_new w t
theorem kO2a {w : World} {B : Nat} {o : Obj} (h : Ob2 w B) : Ob2 (w.alloc o) B := h.alloc o
theorem kO2s {w : World} {B : Nat} {p : Addr} {v : Value} (hp : p.block ≠ B) (h : Ob2 w B) : Ob2 (w.setCell p v) B := ⟨by simpa [World.setCell] using h.z, kCs hp h.z0, kCs hp h.z1, fun o => kFs (h.zf o)⟩
theorem kZo {w B u0 u1 s x n d v} (h : Ob2 w B) (hx : Zn w s x n d v) : Zn ((w.setCell ⟨B, 0, none⟩ u0).setCell ⟨B, 1, none⟩ u1) s x n d v := ⟨h.dn hx.dn, hx.sgn, hx.pos⟩
theorem kZ0 {w : World} {b : Nat} {u : Value} {s x n d v} (hp : w.cell? ⟨b, 0, none⟩ = some (.bool false)) (h : Zn w s x n d v) : Zn (w.setCell ⟨b, 0, none⟩ u) s x n d v := ⟨⟨rd_setne hp (fun i h => by cases h) h.dn.rd, h.dn.dg, h.dn.fm, h.dn.val⟩, h.sgn, h.pos⟩
theorem kZ1 {w : World} {b : Nat} {u : Value} {s x n d v} (hp : w.cell? ⟨b, 1, none⟩ = some (.slice none 0 0)) (h : Zn w s x n d v) : Zn (w.setCell ⟨b, 1, none⟩ u) s x n d v := ⟨⟨rd_setne hp (fun i h => by cases h) h.dn.rd, h.dn.dg, h.dn.fm, h.dn.val⟩, h.sgn, h.pos⟩

end Go.Proofs.YtclopblgdiahiaaGreatDoor
namespace Go.Proofs.YtclopblgdiahiaaGreatDoor
open Go.RowKit

theorem vf_one_iff {g : Nat → Int} {m : Nat} (hl : Lm g m) (hf : Fm g m) : vf g m = 1 ↔ m = 1 ∧ g 0 = 1 := by
  constructor
  · intro h
    have h1 : Lm (fun _ => (1 : Int)) 1 := fun j _ => ⟨show (0 : Int) ≤ 1 by decide, show (1 : Int) < 18446744073709551616 by decide⟩
    have h2 : vf (fun _ => (1 : Int)) 1 = 1 := by decide
    obtain ⟨e1, e2⟩ := vf_inj hl h1 hf (.inr (by decide)) (h.trans h2.symm)
    exact ⟨e1, e2 0 (by omega)⟩
  · rintro ⟨rfl, h⟩
    simp [vf, pw, h]
theorem Dn.one_iff {w x k d V} (h : Dn w x k d V) : V = 1 ↔ k = 1 ∧ d 0 = 1 := by
  constructor
  · intro hV
    have h1 : Dg (fun _ => (1 : Int)) 1 := fun j _ => ⟨show (0 : Int) ≤ 1 by decide, show (1 : Int) < 4294967296 by decide⟩
    have h2 : vd (fun _ => (1 : Int)) 1 = 1 := by decide
    obtain ⟨e1, e2⟩ := vd_inj h.dg h1 h.fm (.inr (by decide)) (by rw [h.val, hV, h2]; rfl)
    exact ⟨e1, e2 0 (by omega)⟩
  · rintro ⟨rfl, h0⟩
    have := h.val
    simp [vd, pd, h0] at this
    omega

set_option maxRecDepth 100000 in
set_option maxHeartbeats 8000000 in
theorem qForm_c {w : World} {s : Bool} {x : Option Addr} {n c : Nat} {f : Nat → Int} {y : Option Addr} {m d : Nat} {g : Nat → Int} (h : Rw w x n c f y m d g) (hn : n ≤ 1000) (hm : m ≤ 1000) :
    Calls Tryz.prog 22 #[.agg #[.bool s, .slice x n c, .slice y m d]] w fun e w' => e = .returned (.bool (rfB s f n g m)) ∧ Below w.heap.size w w' := by
  obtain ⟨b, hb⟩ : ∃ b, rfB s f n g m = b := ⟨_, rfl⟩
  rw [hb]
  have H := hid h; have HB := hid hb
  have hw := below_alloc (Below.refl w.heap.size w) (.cells #[.bool s, .slice x n c, .slice y m d] 32)
  have hcx := bx3_new (Below.refl (w.alloc (.cells #[.bool s, .slice x n c, .slice y m d] 32)).heap.size _)
  clear h hb
  go_enter Tryz.func22, Tryz.ntmps22
  go_wp2_with fail
  generalize w.alloc (.cells #[.bool s, .slice x n c, .slice y m d] 32) = w1 at *
  have HW := hid hw; have BX := hid hcx
  clear hw hcx
  obtain ⟨z, x0, x1, x2⟩ := BX.out
  have c1 := rform_c x n c f w1 (by omega) (H.out.rx.below HW.out (Nat.le_refl _))
  cases h1 : fmB f n
  · have hbf : b = false := by rw [← HB.out]; simp [rfB, wfB, h1]
    subst hbf
    rw [h1] at c1
    refine c1.mono ?_
    rintro e w2 ⟨rfl, hw2⟩
    replace hw2 := hw2.symm
    subst hw2
    clear c1
    go_wp2
    go_ret
    exact ⟨rfl, HW.out⟩
  rw [h1] at c1
  refine c1.mono ?_
  rintro e w2 ⟨rfl, hw2⟩
  replace hw2 := hw2.symm
  subst hw2
  clear c1
  have F1 := hid h1
  clear h1
  have c2 := rform_c y m d g w1 (by omega) (H.out.ry.below HW.out (Nat.le_refl _))
  go_wp2_with fail
  cases h2 : fmB g m
  · have hbf : b = false := by rw [← HB.out]; simp [rfB, h2]
    subst hbf
    rw [h2] at c2
    refine c2.mono ?_
    rintro e w2 ⟨rfl, hw2⟩
    replace hw2 := hw2.symm
    subst hw2
    clear c2
    go_wp2
    go_ret
    exact ⟨rfl, HW.out⟩
  rw [h2] at c2
  refine c2.mono ?_
  rintro e w2 ⟨rfl, hw2⟩
  replace hw2 := hw2.symm
  subst hw2
  clear c2
  have F2 := hid h2
  clear h2
  by_cases hm0 : m = 0
  · subst hm0
    have hbf : b = false := by rw [← HB.out]; simp [rfB]
    subst hbf
    go_wp2
    go_ret
    exact ⟨rfl, HW.out⟩
  have hmd : ((m : Int) == 0) = false := by simp; omega
  by_cases hn0 : n = 0
  · subst hn0
    cases s
    · by_cases hm1 : m = 1
      · subst hm1
        have hry := H.out.ry.below HW.out (Nat.le_refl _)
        obtain ⟨bk, o, rfl⟩ := hry.at (by omega)
        have hcell := hry.cell (j := 0) (by omega)
        obtain ⟨t, ht⟩ : ∃ t, g 0 = t := ⟨_, rfl⟩
        rw [ht, Nat.add_zero] at hcell
        have hbf : b = (t == 1) := by
          rw [← HB.out, ← ht]
          have e := vf_one_iff H.out.ly (fm_of F2.out)
          have h0 := vf_nonneg H.out.ly
          have e1 : (vf g 1).toNat = 1 ↔ g 0 = 1 := by
            constructor
            · intro h; exact (e.1 (by omega)).2
            · intro h; have := e.2 ⟨rfl, h⟩; omega
          by_cases hg : g 0 = 1
          · simp [rfB, wfB, vf, hg, fmB, pw]
          · have hg' : ¬ ((vf g 1).toNat = 1) := fun h => hg (e1.1 h)
            have e3 : (vf f 0).toNat.gcd (vf g 1).toNat = (vf g 1).toNat := by simp [vf]
            simp [rfB, e3, hg', hg]
        have HBF := hid hbf
        clear ht hry hbf
        go_wp2
        go_ret
        exact ⟨by rw [HBF.out]; rfl, HW.out⟩
      · have hm1d : ((m : Int) == 1) = false := by simp; omega
        have hbf : b = false := by
          rw [← HB.out]
          have e := vf_one_iff H.out.ly (fm_of F2.out)
          have h0 := vf_nonneg H.out.ly
          have hg' : ¬ ((vf g m).toNat = 1) := fun h => hm1 (e.1 (by omega)).1
          have e3 : (vf f 0).toNat.gcd (vf g m).toNat = (vf g m).toNat := by simp [vf]
          simp [rfB, e3, hg']
        subst hbf
        go_wp2
        go_ret
        exact ⟨rfl, HW.out⟩
    · have hbf : b = false := by rw [← HB.out]; simp [rfB, wfB]
      subst hbf
      go_wp2
      go_ret
      exact ⟨rfl, HW.out⟩
  have hnd : ((n : Int) == 0) = false := by simp; omega
  have HBv : Hid (b = decide ((vf f n).toNat.gcd (vf g m).toNat = 1)) := by
    show b = _
    rw [← HB.out]
    have h3 : wfB s f n = true := (wfB_iff _ _ _).2 ⟨fm_of F1.out, fun _ => by omega⟩
    have h4 : decide (0 < m) = true := by simp; omega
    rw [show rfB s f n g m = (wfB s f n && (fmB g m && (decide (0 < m) && decide ((vf f n).toNat.gcd (vf g m).toNat = 1)))) from rfl, h3, F2.out, h4]
    simp
  have C1 : Hid (∀ W, Below w1.heap.size w1 W → Calls Tryz.prog 67 #[.slice x n c] W fun e w' => ∃ z k c d, e = .returned (.slice z k c) ∧ Below W.heap.size W w' ∧ Hid (k ≤ 2 * n ∧ Dn w' z k d (vf f n).toNat)) := fun W hW => fromD_c (by omega) ((H.out.below HW.out).below hW).rx H.out.lx
  have C2 : Hid (∀ W, Below w1.heap.size w1 W → Calls Tryz.prog 67 #[.slice y m d] W fun e w' => ∃ z k c d, e = .returned (.slice z k c) ∧ Below W.heap.size W w' ∧ Hid (k ≤ 2 * m ∧ Dn w' z k d (vf g m).toNat)) := fun W hW => fromD_c (by omega) ((H.out.below HW.out).below hW).ry H.out.ly
  have C3 : Hid (∀ (W : World) (z5 : Option Addr) (k5 c5 : Nat) (d5 : Nat → Int) (z6 : Option Addr) (k6 c6 : Nat) (d6 : Nat → Int), k5 ≤ 2 * n → k6 ≤ 2 * m → Dn W z5 k5 d5 (vf f n).toNat → Dn W z6 k6 d6 (vf g m).toNat → Calls Tryz.prog 66 #[.slice z5 k5 c5, .slice z6 k6 c6] W fun e w' => ∃ z k c' d, e = .returned (.slice z k c') ∧ Below W.heap.size W w' ∧ Hid (k ≤ k5 + k6 ∧ Dn w' z k d ((vf f n).toNat.gcd (vf g m).toNat))) := fun W z5 k5 c5 d5 z6 k6 c6 d6 h1 h2 h3 h4 => rgcd_c h3 h4 (by omega) (by omega)
  go_wp2_with fail
  go_region_held3 (fun w' => w'.cell? ⟨w.heap.size, 1, none⟩ = some (.slice x n c) ∧ w'.cell? ⟨w.heap.size, 2, none⟩ = some (.slice y m d))
    (refine ⟨?_, ?_⟩ <;> repeat (with_reducible first | assumption | refine kCd ?_ | refine kCb (by assumption) ?_))
    (first
      | (go_at_call 67; with_reducible refine (C1.out _ (by repeat (with_reducible first | assumption | exact Below.refl _ _ | refine Below.drew ?_ | refine kBb (by assumption) ?_))).mono ?_; rintro e v5 ⟨z5, k5, c5, d5, rfl, hb5, H5⟩)
      | (go_at_call 67; with_reducible refine (C2.out _ (by repeat (with_reducible first | assumption | exact Below.refl _ _ | refine Below.drew ?_ | refine kBb (by assumption) ?_))).mono ?_; rintro e v6 ⟨z6, k6, c6, d6, rfl, hb6, H6⟩)
      | (go_at_call 66; with_reducible refine (C3.out _ z5 k5 c5 d5 z6 k6 c6 d6 H5.out.1 H6.out.1 (by repeat (with_reducible first | exact H5.out.2 | refine Dn.drew ?_ | refine kDb (by assumption) ?_)) (by repeat (with_reducible first | exact H6.out.2 | refine Dn.drew ?_ | refine kDb (by assumption) ?_))).mono ?_; rintro e v7 ⟨z7, k7, c7, d7, rfl, hb7, H7⟩))
  all_goals
    have hb : Below w1.heap.size w1 v7 := (by repeat (with_reducible first | assumption | exact Below.refl _ _ | refine Below.drew ?_ | refine kBb (by assumption) ?_))
    have HBw := hid (HW.out.trans (hb.mono HW.out.size))
    have hone := H7.out.2.one_iff
    have hk7 := H7.out.1
    have hk5 := H5.out.1
    have hk6 := H6.out.1
    by_cases hk1 : k7 = 1
    · subst hk1
      have hr7 := H7.out.2.rd
      obtain ⟨bk, o, rfl⟩ := hr7.at (by omega)
      have hcell := hr7.cell (j := 0) (by omega)
      obtain ⟨t, ht⟩ : ∃ t, d7 0 = t := ⟨_, rfl⟩
      rw [ht, Nat.add_zero] at hcell
      rw [ht] at hone
      have hbf : b = (t == 1) := by
        rw [HBv.out]
        by_cases h1 : t = 1
        · simp [hone.2 ⟨rfl, h1⟩, h1]
        · have hx : ¬ ((vf f n).toNat.gcd (vf g m).toNat = 1) := fun h => h1 (hone.1 h).2
          simp [hx, h1]
      have HBF := hid hbf
      clear ht hr7 hbf hone hb
      go_wp2
      go_ret
      exact ⟨by rw [HBF.out]; rfl, HBw.out⟩
    · have hk1d : ((k7 : Int) == 1) = false := by simp; omega
      have hbf : b = false := by
        have hx : ¬ ((vf f n).toNat.gcd (vf g m).toNat = 1) := fun h => hk1 (hone.1 h).1
        rw [HBv.out]; simp [hx]
      subst hbf
      clear hone hb
      go_wp2
      go_ret
      exact ⟨rfl, HBw.out⟩
end Go.Proofs.YtclopblgdiahiaaGreatDoor
