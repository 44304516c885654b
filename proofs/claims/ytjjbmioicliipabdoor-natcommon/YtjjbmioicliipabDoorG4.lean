/-
  The walk of package nat's steps.apply.
-/
import Derived.Test.YtjjbmioicliipabDoorG3
import Derived.Test.YtjjbmioicliipabDoorM4
import Derived.BigQuiet
namespace Go.Proofs.YtjjbmioicliipabDoor
open Go.RowKit

/-- One limb of both numbers. -/
theorem app_step {p' p q : Nat → Int} {i : Nat} {ca cb c d x y h1 l1 h2 l2 bo v : Int} (hv : vf p' i + (ca - cb) * pw i = c * vf p i - d * vf q i) (hx : p i = x) (hy : q i = y) (e1 : x * c + ca = h1 * 18446744073709551616 + l1) (e2 : y * d + cb = h2 * 18446744073709551616 + l2) (ev : v = l1 - l2 + bo * 18446744073709551616) :
    vf (upd p' i v) (i + 1) + (h1 - (h2 + bo)) * pw (i + 1) = c * vf p (i + 1) - d * vf q (i + 1) := by
  have e : vf (upd p' i v) i = vf p' i := vf_congr (fun j hj => upd_other _ _ _ _ (by omega))
  rw [vf_succ, vf_succ, vf_succ, e, upd_same, pw_succ, hx, hy, ev]
  grind
/-- A number below pw m, told by what it is but for multiples of pw m. -/
theorem mod_one {u v p t s : Int} (h : u + t * p = v + s * p) (u0 : 0 ≤ u) (u1 : u < p) (v0 : 0 ≤ v) (v1 : v < p) : u = v := by
  have e : u - v = (s - t) * p := by rw [Int.sub_mul]; omega
  have hz : s - t = 0 := by
    rcases Int.lt_trichotomy (s - t) 0 with h | h | h
    · have : (s - t) * p ≤ (-1) * p := Int.mul_le_mul_of_nonneg_right (by omega) (by omega)
      omega
    · exact h
    · have : 1 * p ≤ (s - t) * p := Int.mul_le_mul_of_nonneg_right (by omega) (by omega)
      omega
  rw [hz] at e; omega

/-- Nothing but blocks g and h has turned; there may be new ones. -/
structure Only2 (g h : Nat) (w w' : World) : Prop where
  os : w'.os = w.os
  tape : w'.tape = w.tape
  output : w'.output = w.output
  size : w.heap.size ≤ w'.heap.size
  block : ∀ k, k < w.heap.size → k ≠ g → k ≠ h → w'.heap[k]? = w.heap[k]?
theorem Only2.refl (g h : Nat) (w : World) : Only2 g h w w := ⟨rfl, rfl, rfl, Nat.le_refl _, fun _ _ _ _ => rfl⟩
theorem Only2.of1 {g h : Nat} {w w' : World} (o : Only g w w') : Only2 g h w w' := ⟨o.os, o.tape, o.output, o.size, fun k a b _ => o.block k a b⟩
theorem Only2.of2 {g h : Nat} {w w' : World} (o : Only h w w') : Only2 g h w w' := ⟨o.os, o.tape, o.output, o.size, fun k a _ b => o.block k a b⟩
theorem Only2.trans {g h : Nat} {a b c : World} (x : Only2 g h a b) (y : Only2 g h b c) : Only2 g h a c :=
  ⟨y.os.trans x.os, y.tape.trans x.tape, y.output.trans x.output, Nat.le_trans x.size y.size, fun k h1 h2 h3 => (y.block k (Nat.lt_of_lt_of_le h1 x.size) h2 h3).trans (x.block k h1 h2 h3)⟩
theorem Only2.swap {g h : Nat} {a b : World} (x : Only2 g h a b) : Only2 h g a b := ⟨x.os, x.tape, x.output, x.size, fun k h1 h2 h3 => x.block k h1 h3 h2⟩
theorem Only2.drewN {g h : Nat} {a b : World} (x : Only2 g h a b) (q : Nat) : Only2 g h a (b.drewN q) := ⟨x.os, x.tape, x.output, x.size, x.block⟩
theorem Only2.below {g h B : Nat} {w0 w w' : World} (hb : Below B w0 w) (x : Only2 g h w w') (hg : B ≤ g) (hh : B ≤ h) (hB : B ≤ w.heap.size) : Below B w0 w' :=
  hb.trans ⟨x.os, x.tape, x.output, x.size, fun k hk => x.block k (by omega) (by omega) (by omega)⟩
theorem SB.only2 {w w' g h s a0 b0 a1 b1 odd} (x : SB w s a0 b0 a1 b1 odd) (o : Only2 g h w w') (hg : s ≠ g) (hh : s ≠ h) : SB w' s a0 b0 a1 b1 odd := (o.block s x.lt hg hh).trans x

/-- mulAdd with its bounds. -/
theorem mad_of (x c z : Int) (x0 : 0 ≤ x) (x1 : x < 18446744073709551616) (c0 : 0 ≤ c) (c1 : c < 18446744073709551615) (z0 : 0 ≤ z) (z1 : z ≤ c) :
    ∃ h l, (∀ w, Calls Tryd.prog 79 #[.int .u64 x, .int .u64 c, .int .u64 z] w fun e w' => e = .returned (.tuple #[.int .u64 h, .int .u64 l]) ∧ w' = w) ∧ 0 ≤ h ∧ h ≤ c ∧ 0 ≤ l ∧ l < 18446744073709551616 ∧ Hid (x * c + z = h * 18446744073709551616 + l) := by
  have hb : 0 ≤ x * c ∧ x * c ≤ 18446744073709551615 * c := ⟨Int.mul_nonneg x0 c0, Int.mul_le_mul_of_nonneg_right (by omega) c0⟩
  refine ⟨_, _, fun w => mulAdd_c x c z w x0 x1 c0 (by omega) z0 (by omega), ?_, ?_, ?_, ?_, ?_⟩
  · omega
  · omega
  · omega
  · omega
  · show _ = _; omega
theorem mad_of' (x c z : Int) (x0 : 0 ≤ x) (x1 : x < 18446744073709551616) (c0 : 0 ≤ c) (c1 : c < 18446744073709551615) (z0 : 0 ≤ z) (z1 : z ≤ c + 1) :
    ∃ h l, (∀ w, Calls Tryd.prog 79 #[.int .u64 x, .int .u64 c, .int .u64 z] w fun e w' => e = .returned (.tuple #[.int .u64 h, .int .u64 l]) ∧ w' = w) ∧ 0 ≤ h ∧ h ≤ c ∧ 0 ≤ l ∧ l < 18446744073709551616 ∧ Hid (x * c + z = h * 18446744073709551616 + l) := by
  have hb : 0 ≤ x * c ∧ x * c ≤ 18446744073709551615 * c := ⟨Int.mul_nonneg x0 c0, Int.mul_le_mul_of_nonneg_right (by omega) c0⟩
  refine ⟨_, _, fun w => mulAdd_c x c z w x0 x1 c0 (by omega) z0 (by omega), ?_, ?_, ?_, ?_, ?_⟩
  · omega
  · omega
  · omega
  · omega
  · show _ = _; omega
theorem sub_of (l k : Int) (l0 : 0 ≤ l) (l1 : l < 18446744073709551616) (k0 : 0 ≤ k) (k1 : k < 18446744073709551616) :
    ∃ d o, (∀ w, (callFunc 61 #[.int .u64 l, .int .u64 k, .int .u64 0]).run Tryd.prog w = .ok (.value (.tuple #[.int .u64 d, .int .u64 o])) w) ∧ 0 ≤ d ∧ d < 18446744073709551616 ∧ 0 ≤ o ∧ o ≤ 1 ∧ Hid (d = l - k + o * 18446744073709551616) := by
  refine ⟨_, _, fun w => sub64_0 l k l0 k0 k1 w, by omega, by omega, (bor_01 _ _).1, (bor_01 _ _).2, ?_⟩
  show _ = _
  unfold bor; split <;> omega

set_option maxRecDepth 100000 in
set_option maxHeartbeats 8000000 in
theorem apply_c (ga gb Na Nb n m : Nat) (F H : Nat → Int) (a0 b0 a1 b1 : Int) (odd : Bool) (w : World) (hba : Blk .u64 32 w ga Na F) (hbb : Blk .u64 32 w gb Nb H) (la : Lm F Na) (lb : Lm H Nb) (hne : ga ≠ gb) (hnN : n ≤ Na) (hmN : m ≤ Nb) (hmn : m ≤ n) (hm1 : 1 ≤ m) (hNa : Na ≤ 140737488355328) (hNb : Nb ≤ 140737488355328)
    (p0 : 0 ≤ a0 ∧ a0 ≤ 18446744073709551613) (p1 : 0 ≤ b0 ∧ b0 ≤ 18446744073709551613) (p2 : 0 ≤ a1 ∧ a1 ≤ 18446744073709551613) (p3 : 0 ≤ b1 ∧ b1 ≤ 18446744073709551613) (U V : Int) (hU : stU odd a0 b0 (vf F n) (vf H m) = U) (hV : stV odd a1 b1 (vf F n) (vf H m) = V) (u0 : 0 ≤ U) (u1 : U < pw m) (v0 : 0 ≤ V) (v1 : V < pw m) :
    Calls Tryd.prog 65 #[.agg #[.int .u64 a0, .int .u64 b0, .int .u64 a1, .int .u64 b1, .bool odd], .slice (some ⟨ga, 0, none⟩) n Na, .slice (some ⟨gb, 0, none⟩) m Nb] w fun e w' => Only2 ga gb w w' ∧ ∃ gp gq Np Nq k1 k2 c1 c2 P Q x1 x2, e = .returned (.tuple #[.slice x1 k1 c1, .slice x2 k2 c2]) ∧ (gp = ga ∧ gq = gb ∨ gp = gb ∧ gq = ga) ∧ Blk .u64 32 w' gp Np P ∧ Blk .u64 32 w' gq Nq Q ∧ Lm P Np ∧ Lm Q Nq ∧ Np ≤ 140737488355328 ∧ Nq ≤ 140737488355328 ∧ (x1 = none ∧ k1 = 0 ∧ c1 = 0 ∨ x1 = some ⟨gp, 0, none⟩ ∧ 0 < k1 ∧ c1 = Np) ∧ (x2 = none ∧ k2 = 0 ∧ c2 = 0 ∨ x2 = some ⟨gq, 0, none⟩ ∧ 0 < k2 ∧ c2 = Nq) ∧ k1 ≤ Np ∧ k2 ≤ Nq ∧ Fm P k1 ∧ Fm Q k2 ∧ vf P k1 = U ∧ vf Q k2 = V := by
  have HBa := hid hba; have HBb := hid hbb; have HLa := hid la; have HLb := hid lb; have HU := hid hU; have HV := hid hV
  have U1 := hid u1; have V1 := hid v1
  have ga_lt := hba.lt; have gb_lt := hbb.lt
  clear hba hbb la lb hU hV u1 v1
  obtain ⟨p00, p01⟩ := p0; obtain ⟨p10, p11⟩ := p1; obtain ⟨p20, p21⟩ := p2; obtain ⟨p30, p31⟩ := p3
  have i1 : (m : Int) ≤ (Na : Int) := by omega
  go_enter Tryd.func65, Tryd.ntmps65
  cases odd
  · skip
    go_wp2
    have hS0 : SB (w.alloc (.cells #[.int .u64 a0, .int .u64 b0, .int .u64 a1, .int .u64 b1, .bool false] 79)) w.heap.size a0 b0 a1 b1 false := heap_alloc_new w _
    have hP0 := HBa.out.alloc (.cells #[.int .u64 a0, .int .u64 b0, .int .u64 a1, .int .u64 b1, .bool false] 79)
    have hQ0 := HBb.out.alloc (.cells #[.int .u64 a0, .int .u64 b0, .int .u64 a1, .int .u64 b1, .bool false] 79)
    have HS0 := hid hS0; have HP0 := hid hP0; have HQ0 := hid hQ0
    clear hS0 hP0 hQ0
    go_loopw [8, 9, 10, 11, 12, 40] (fun c1 c2 c3 c4 c5 t wr => ∃ (i : Nat) (pa lb pb la bw : Int) (P Q : Nat → Int), i ≤ m ∧ t = .int .i64 i ∧ c1 = .int .u64 pa ∧ c2 = .int .u64 lb ∧ c3 = .int .u64 pb ∧ c4 = .int .u64 la ∧ c5 = .int .u64 bw ∧ 0 ≤ pa ∧ pa ≤ a0 ∧ 0 ≤ lb ∧ lb ≤ b0 + 1 ∧ 0 ≤ pb ∧ pb ≤ b1 ∧ 0 ≤ la ∧ la ≤ a1 + 1 ∧ Hid (Only2 ga gb w wr) ∧ Hid (w.heap.size < wr.heap.size) ∧ Hid (SB wr w.heap.size a0 b0 a1 b1 false) ∧ Hid (Blk .u64 32 wr ga Na P) ∧ Hid (Blk .u64 32 wr gb Nb Q) ∧ Hid (Lm P Na) ∧ Hid (Lm Q Nb) ∧ Hid (∀ j, i ≤ j → P j = F j) ∧ Hid (∀ j, i ≤ j → Q j = H j) ∧ Hid (vf P i + (pa - lb) * pw i = a0 * vf F i - b0 * vf H i) ∧ Hid (vf Q i + (pb - la) * pw i = b1 * vf H i - a1 * vf F i)) (fun _ _ _ _ _ t _ => m - (intOf t).toNat)
    case atStart => exact ⟨0, 0, 0, 0, 0, 0, F, H, by omega, rfl, rfl, rfl, rfl, rfl, rfl, by omega, by omega, by omega, by omega, by omega, by omega, by omega, by omega, Only2.of1 ((Only.refl _ _).alloc _), (by show _ < _; simp), HS0.out, HP0.out, HQ0.out, HLa.out, HLb.out, fun _ _ => rfl, fun _ _ => rfl, by simp [Hid, vf, pw], by simp [Hid, vf, pw]⟩
    case round =>
      clear HS0 HP0 HQ0
      obtain ⟨i, pa, lb, pb, la, bw, P, Q, hi, rfl, rfl, rfl, rfl, rfl, rfl, a1', a2, a3, a4, a5, a6, a7, a8, HO, HSz, HS, HP, HQ, HLP, HLQ, HEP, HEQ, HV1, HV2⟩ := hrel
      by_cases hlt : i < m
      · obtain ⟨x, hx⟩ : ∃ x, P i = x := ⟨_, rfl⟩
        obtain ⟨y, hy⟩ : ∃ y, Q i = y := ⟨_, rfl⟩
        have hcx : wr.cell? ⟨ga, i, none⟩ = some (.int .u64 x) := by rw [← hx]; exact HP.out.cell (by omega)
        have hcy : wr.cell? ⟨gb, i, none⟩ = some (.int .u64 y) := by rw [← hy]; exact HQ.out.cell (by omega)
        have fzp := HP.out.frozen i
        have fzq := HQ.out.frozen i
        obtain ⟨s0, s1, s2, s3, s4⟩ := HS.out.cells
        have hgs1 : w.heap.size ≠ ga := by omega
        have hgs2 : w.heap.size ≠ gb := by omega
        have t2 : ∀ v, (wr.setCell ⟨ga, i, none⟩ v).cell? ⟨w.heap.size, 2, none⟩ = some (.int .u64 a1) := fun v => (World.cell?_of_block (Below.heap_setCell _ _ _ _ (by simpa using hgs1))).trans s2
        have t3 : ∀ v, (wr.setCell ⟨ga, i, none⟩ v).cell? ⟨w.heap.size, 3, none⟩ = some (.int .u64 b1) := fun v => (World.cell?_of_block (Below.heap_setCell _ _ _ _ (by simpa using hgs1))).trans s3
        have tq : ∀ v, (wr.setCell ⟨ga, i, none⟩ v).cell? ⟨gb, i, none⟩ = some (.int .u64 y) := fun v => (World.cell?_of_block (Below.heap_setCell _ _ _ _ (by simp; omega))).trans hcy
        have fq : ∀ v, (wr.setCell ⟨ga, i, none⟩ (.int .u64 v)).frozen? ⟨gb, i, none⟩ = false := fun v => (HQ.out.setOther (a := ⟨ga, i, none⟩) (by simp; omega) (.int .u64 v)).frozen i
        have bx := HLP.out i (by omega); have by' := HLQ.out i (by omega)
        rw [hx] at bx; rw [hy] at by'
        obtain ⟨x0, x1⟩ := bx; obtain ⟨y0, y1⟩ := by'
        have HX := hid (show F i = x by rw [← HEP.out i (Nat.le_refl _), hx]); have HY := hid (show H i = y by rw [← HEQ.out i (Nat.le_refl _), hy])
        clear hx hy
        obtain ⟨h1, l1, M1, q10, q11, r10, r11, E1⟩ := mad_of x a0 pa x0 x1 p00 (by omega) a1' a2
        obtain ⟨h2, l2, M2, q20, q21, r20, r21, E2⟩ := mad_of' y b0 lb y0 y1 p10 (by omega) a3 a4
        obtain ⟨h3, l3, M3, q30, q31, r30, r31, E3⟩ := mad_of y b1 pb y0 y1 p30 (by omega) a5 a6
        obtain ⟨h4, l4, M4, q40, q41, r40, r41, E4⟩ := mad_of' x a1 la x0 x1 p20 (by omega) a7 a8
        obtain ⟨d1, o1', S1, d10, d11, o10, o11, F1⟩ := sub_of l1 l2 r10 r11 r20 r21
        obtain ⟨d2, o2', S2, d20, d21, o20, o21, F2⟩ := sub_of l3 l4 r30 r31 r40 r41
        have CM1 := hid M1; have CM2 := hid M2; have CM3 := hid M3; have CM4 := hid M4
        clear M1 M2 M3 M4
        go_wp2
        go_quiet (fail)
        go_wp2_with fail
        refine (CM1.out _).mono ?_
        rintro e w1 ⟨rfl, rfl⟩
        go_wp2_with fail
        refine (CM2.out _).mono ?_
        rintro e w1 ⟨rfl, rfl⟩
        go_wp2_with fail
        refine (CM3.out _).mono ?_
        rintro e w1 ⟨rfl, rfl⟩
        go_wp2_with fail
        refine (CM4.out _).mono ?_
        rintro e w1 ⟨rfl, rfl⟩
        go_wp2
        go_roundw
        case rel =>
          have o1 : Only ga wr _ := (Only.refl ga wr).setCell i none (.int .u64 d1)
          have o2 : Only gb (wr.setCell ⟨ga, i, none⟩ (.int .u64 d1)) _ := (Only.refl gb (wr.setCell ⟨ga, i, none⟩ (.int .u64 d1))).setCell i none (.int .u64 d2)
          have oo := (Only2.of1 (h := gb) o1).trans (Only2.of2 (g := ga) o2)
          have hsz := HSz.out
          refine ⟨i + 1, h1, h2 + o1', h3, h4 + o2', o2', upd P i d1, upd Q i d2, by omega, by go_num, rfl, rfl, rfl, rfl, rfl, by omega, by omega, by omega, by omega, by omega, by omega, by omega, by omega, ?_, ?_, ?_, ?_, ?_, HLP.out.upd ⟨d10, d11⟩, HLQ.out.upd ⟨d20, d21⟩, ?_, ?_, ?_, ?_⟩
          · exact HO.out.trans ⟨oo.os, oo.tape, oo.output, oo.size, oo.block⟩
          · show _ < _
            have := oo.size
            exact Nat.lt_of_lt_of_le hsz this
          · exact HS.out.only2 ⟨oo.os, oo.tape, oo.output, oo.size, oo.block⟩ hgs1 hgs2
          · exact (HP.out.set i d1).setOther (a := ⟨gb, i, none⟩) (by simp; omega) (.int .u64 d2)
          · exact (HQ.out.setOther (a := ⟨ga, i, none⟩) (by simp; omega) (.int .u64 d1)).set i d2
          · intro j hj
            rw [upd_other _ _ _ _ (by omega)]; exact HEP.out j (by omega)
          · intro j hj
            rw [upd_other _ _ _ _ (by omega)]; exact HEQ.out j (by omega)
          · exact app_step HV1.out HX.out HY.out E1.out E2.out F1.out
          · exact app_step HV2.out HY.out HX.out E3.out E4.out F2.out
        case measure => simp [intOf]; omega
      · obtain rfl : i = m := by omega
        have n1 := vf_nonneg (HLP.out.mono (m := i) (by omega)); have n2 := vf_lt (HLP.out.mono (m := i) (by omega))
        have n3 := vf_nonneg (HLQ.out.mono (m := i) (by omega)); have n4 := vf_lt (HLQ.out.mono (m := i) (by omega))
        have hcut : vf F n = vf F i + vf (sh F i) (n - i) * pw i := by rw [← vf_split, show i + (n - i) = n by omega]
        have hPu : vf P i = U := by
          have e := HU.out
          simp only [stU, if_false, Bool.false_eq_true] at e
          rw [hcut] at e
          refine mod_one (p := pw i) (t := pa - lb) (s := -(a0 * vf (sh F i) (n - i))) ?_ n1 n2 u0 U1.out
          rw [HV1.out, ← e]; grind
        have hQv : vf Q i = V := by
          have e := HV.out
          simp only [stV, if_false, Bool.false_eq_true] at e
          rw [hcut] at e
          refine mod_one (p := pw i) (t := pb - la) (s := a1 * vf (sh F i) (n - i)) ?_ n3 n4 v0 V1.out
          rw [HV2.out, ← e]; grind
        have HPu := hid hPu; have HQv := hid hQv
        clear n1 n2 n3 n4 hcut hPu hQv
        go_wp2_with fail
        refine (trim_c (some ⟨ga, 0, none⟩) i Na P wr (by omega) (by omega) (HP.out.rd0 (by omega))).mono ?_
        rintro e w1 ⟨rfl, k1, hk1, hz1, he1⟩
        have Z1 := hid hz1
        clear hz1
        obtain ⟨x1, c1, hx1, hf1, hc1⟩ : ∃ x1 c1, e = .returned (.slice x1 k1 c1) ∧ Fm P k1 ∧ (x1 = none ∧ k1 = 0 ∧ c1 = 0 ∨ x1 = some ⟨ga, 0, none⟩ ∧ 0 < k1 ∧ c1 = Na) := by
          rcases he1 with ⟨h0, he⟩ | ⟨h0, hn0, he⟩
          · exact ⟨none, 0, by rw [he, h0], .inl h0, .inl ⟨rfl, h0, rfl⟩⟩
          · exact ⟨_, _, he, .inr hn0, .inr ⟨rfl, h0, rfl⟩⟩
        subst hx1
        have HF1 := hid hf1; have HC1 := hid hc1
        clear he1 hf1 hc1
        go_wp2_with fail
        refine (trim_c (some ⟨gb, 0, none⟩) i Nb Q _ (by omega) (by omega) (HQ.out.rd0 (by omega))).mono ?_
        rintro e w1 ⟨rfl, k2, hk2, hz2, he2⟩
        have Z2 := hid hz2
        clear hz2
        obtain ⟨x2, c2, hx2, hf2, hc2⟩ : ∃ x2 c2, e = .returned (.slice x2 k2 c2) ∧ Fm Q k2 ∧ (x2 = none ∧ k2 = 0 ∧ c2 = 0 ∨ x2 = some ⟨gb, 0, none⟩ ∧ 0 < k2 ∧ c2 = Nb) := by
          rcases he2 with ⟨h0, he⟩ | ⟨h0, hn0, he⟩
          · exact ⟨none, 0, by rw [he, h0], .inl h0, .inl ⟨rfl, h0, rfl⟩⟩
          · exact ⟨_, _, he, .inr hn0, .inr ⟨rfl, h0, rfl⟩⟩
        subst hx2
        have HF2 := hid hf2; have HC2 := hid hc2
        clear he2 hf2 hc2
        go_wp2
        go_ret2
        refine ⟨HO.out, ga, gb, Na, Nb, k1, k2, c1, c2, P, Q, x1, x2, rfl, .inl ⟨rfl, rfl⟩, HP.out, HQ.out, HLP.out, HLQ.out, by omega, by omega, HC1.out, HC2.out, by omega, by omega, HF1.out, HF2.out, ?_, ?_⟩
        · rw [trim_val hk1 Z1.out]; exact HPu.out
        · rw [trim_val hk2 Z2.out]; exact HQv.out
  · skip
    go_wp2
    have hS0 : SB (w.alloc (.cells #[.int .u64 b0, .int .u64 a0, .int .u64 b1, .int .u64 a1, .bool true] 79)) w.heap.size b0 a0 b1 a1 true := heap_alloc_new w _
    have hP0 := HBb.out.alloc (.cells #[.int .u64 b0, .int .u64 a0, .int .u64 b1, .int .u64 a1, .bool true] 79)
    have hQ0 := HBa.out.alloc (.cells #[.int .u64 b0, .int .u64 a0, .int .u64 b1, .int .u64 a1, .bool true] 79)
    have HS0 := hid hS0; have HP0 := hid hP0; have HQ0 := hid hQ0
    clear hS0 hP0 hQ0
    go_loopw [8, 9, 10, 11, 12, 40] (fun c1 c2 c3 c4 c5 t wr => ∃ (i : Nat) (pa lb pb la bw : Int) (P Q : Nat → Int), i ≤ m ∧ t = .int .i64 i ∧ c1 = .int .u64 pa ∧ c2 = .int .u64 lb ∧ c3 = .int .u64 pb ∧ c4 = .int .u64 la ∧ c5 = .int .u64 bw ∧ 0 ≤ pa ∧ pa ≤ b0 ∧ 0 ≤ lb ∧ lb ≤ a0 + 1 ∧ 0 ≤ pb ∧ pb ≤ a1 ∧ 0 ≤ la ∧ la ≤ b1 + 1 ∧ Hid (Only2 gb ga w wr) ∧ Hid (w.heap.size < wr.heap.size) ∧ Hid (SB wr w.heap.size b0 a0 b1 a1 true) ∧ Hid (Blk .u64 32 wr gb Nb P) ∧ Hid (Blk .u64 32 wr ga Na Q) ∧ Hid (Lm P Nb) ∧ Hid (Lm Q Na) ∧ Hid (∀ j, i ≤ j → P j = H j) ∧ Hid (∀ j, i ≤ j → Q j = F j) ∧ Hid (vf P i + (pa - lb) * pw i = b0 * vf H i - a0 * vf F i) ∧ Hid (vf Q i + (pb - la) * pw i = a1 * vf F i - b1 * vf H i)) (fun _ _ _ _ _ t _ => m - (intOf t).toNat)
    case atStart => exact ⟨0, 0, 0, 0, 0, 0, H, F, by omega, rfl, rfl, rfl, rfl, rfl, rfl, by omega, by omega, by omega, by omega, by omega, by omega, by omega, by omega, Only2.of1 ((Only.refl _ _).alloc _), (by show _ < _; simp), HS0.out, HP0.out, HQ0.out, HLb.out, HLa.out, fun _ _ => rfl, fun _ _ => rfl, by simp [Hid, vf, pw], by simp [Hid, vf, pw]⟩
    case round =>
      clear HS0 HP0 HQ0
      obtain ⟨i, pa, lb, pb, la, bw, P, Q, hi, rfl, rfl, rfl, rfl, rfl, rfl, a1', a2, a3, a4, a5, a6, a7, a8, HO, HSz, HS, HP, HQ, HLP, HLQ, HEP, HEQ, HV1, HV2⟩ := hrel
      by_cases hlt : i < m
      · obtain ⟨x, hx⟩ : ∃ x, P i = x := ⟨_, rfl⟩
        obtain ⟨y, hy⟩ : ∃ y, Q i = y := ⟨_, rfl⟩
        have hcx : wr.cell? ⟨gb, i, none⟩ = some (.int .u64 x) := by rw [← hx]; exact HP.out.cell (by omega)
        have hcy : wr.cell? ⟨ga, i, none⟩ = some (.int .u64 y) := by rw [← hy]; exact HQ.out.cell (by omega)
        have fzp := HP.out.frozen i
        have fzq := HQ.out.frozen i
        obtain ⟨s0, s1, s2, s3, s4⟩ := HS.out.cells
        have hgs1 : w.heap.size ≠ gb := by omega
        have hgs2 : w.heap.size ≠ ga := by omega
        have t2 : ∀ v, (wr.setCell ⟨gb, i, none⟩ v).cell? ⟨w.heap.size, 2, none⟩ = some (.int .u64 b1) := fun v => (World.cell?_of_block (Below.heap_setCell _ _ _ _ (by simpa using hgs1))).trans s2
        have t3 : ∀ v, (wr.setCell ⟨gb, i, none⟩ v).cell? ⟨w.heap.size, 3, none⟩ = some (.int .u64 a1) := fun v => (World.cell?_of_block (Below.heap_setCell _ _ _ _ (by simpa using hgs1))).trans s3
        have tq : ∀ v, (wr.setCell ⟨gb, i, none⟩ v).cell? ⟨ga, i, none⟩ = some (.int .u64 y) := fun v => (World.cell?_of_block (Below.heap_setCell _ _ _ _ (by simp; omega))).trans hcy
        have fq : ∀ v, (wr.setCell ⟨gb, i, none⟩ (.int .u64 v)).frozen? ⟨ga, i, none⟩ = false := fun v => (HQ.out.setOther (a := ⟨gb, i, none⟩) (by simp; omega) (.int .u64 v)).frozen i
        have bx := HLP.out i (by omega); have by' := HLQ.out i (by omega)
        rw [hx] at bx; rw [hy] at by'
        obtain ⟨x0, x1⟩ := bx; obtain ⟨y0, y1⟩ := by'
        have HX := hid (show H i = x by rw [← HEP.out i (Nat.le_refl _), hx]); have HY := hid (show F i = y by rw [← HEQ.out i (Nat.le_refl _), hy])
        clear hx hy
        obtain ⟨h1, l1, M1, q10, q11, r10, r11, E1⟩ := mad_of x b0 pa x0 x1 p10 (by omega) a1' a2
        obtain ⟨h2, l2, M2, q20, q21, r20, r21, E2⟩ := mad_of' y a0 lb y0 y1 p00 (by omega) a3 a4
        obtain ⟨h3, l3, M3, q30, q31, r30, r31, E3⟩ := mad_of y a1 pb y0 y1 p20 (by omega) a5 a6
        obtain ⟨h4, l4, M4, q40, q41, r40, r41, E4⟩ := mad_of' x b1 la x0 x1 p30 (by omega) a7 a8
        obtain ⟨d1, o1', S1, d10, d11, o10, o11, F1⟩ := sub_of l1 l2 r10 r11 r20 r21
        obtain ⟨d2, o2', S2, d20, d21, o20, o21, F2⟩ := sub_of l3 l4 r30 r31 r40 r41
        have CM1 := hid M1; have CM2 := hid M2; have CM3 := hid M3; have CM4 := hid M4
        clear M1 M2 M3 M4
        go_wp2
        go_quiet (fail)
        go_wp2_with fail
        refine (CM1.out _).mono ?_
        rintro e w1 ⟨rfl, rfl⟩
        go_wp2_with fail
        refine (CM2.out _).mono ?_
        rintro e w1 ⟨rfl, rfl⟩
        go_wp2_with fail
        refine (CM3.out _).mono ?_
        rintro e w1 ⟨rfl, rfl⟩
        go_wp2_with fail
        refine (CM4.out _).mono ?_
        rintro e w1 ⟨rfl, rfl⟩
        go_wp2
        go_roundw
        case rel =>
          have o1 : Only gb wr _ := (Only.refl gb wr).setCell i none (.int .u64 d1)
          have o2 : Only ga (wr.setCell ⟨gb, i, none⟩ (.int .u64 d1)) _ := (Only.refl ga (wr.setCell ⟨gb, i, none⟩ (.int .u64 d1))).setCell i none (.int .u64 d2)
          have oo := (Only2.of1 (h := ga) o1).trans (Only2.of2 (g := gb) o2)
          have hsz := HSz.out
          refine ⟨i + 1, h1, h2 + o1', h3, h4 + o2', o2', upd P i d1, upd Q i d2, by omega, by go_num, rfl, rfl, rfl, rfl, rfl, by omega, by omega, by omega, by omega, by omega, by omega, by omega, by omega, ?_, ?_, ?_, ?_, ?_, HLP.out.upd ⟨d10, d11⟩, HLQ.out.upd ⟨d20, d21⟩, ?_, ?_, ?_, ?_⟩
          · exact HO.out.trans ⟨oo.os, oo.tape, oo.output, oo.size, oo.block⟩
          · show _ < _
            have := oo.size
            exact Nat.lt_of_lt_of_le hsz this
          · exact HS.out.only2 ⟨oo.os, oo.tape, oo.output, oo.size, oo.block⟩ hgs1 hgs2
          · exact (HP.out.set i d1).setOther (a := ⟨ga, i, none⟩) (by simp; omega) (.int .u64 d2)
          · exact (HQ.out.setOther (a := ⟨gb, i, none⟩) (by simp; omega) (.int .u64 d1)).set i d2
          · intro j hj
            rw [upd_other _ _ _ _ (by omega)]; exact HEP.out j (by omega)
          · intro j hj
            rw [upd_other _ _ _ _ (by omega)]; exact HEQ.out j (by omega)
          · exact app_step HV1.out HX.out HY.out E1.out E2.out F1.out
          · exact app_step HV2.out HY.out HX.out E3.out E4.out F2.out
        case measure => simp [intOf]; omega
      · obtain rfl : i = m := by omega
        have n1 := vf_nonneg (HLP.out.mono (m := i) (by omega)); have n2 := vf_lt (HLP.out.mono (m := i) (by omega))
        have n3 := vf_nonneg (HLQ.out.mono (m := i) (by omega)); have n4 := vf_lt (HLQ.out.mono (m := i) (by omega))
        have hcut : vf F n = vf F i + vf (sh F i) (n - i) * pw i := by rw [← vf_split, show i + (n - i) = n by omega]
        have hPu : vf P i = U := by
          have e := HU.out
          simp only [stU, if_true] at e
          rw [hcut] at e
          refine mod_one (p := pw i) (t := pa - lb) (s := a0 * vf (sh F i) (n - i)) ?_ n1 n2 u0 U1.out
          rw [HV1.out, ← e]; grind
        have hQv : vf Q i = V := by
          have e := HV.out
          simp only [stV, if_true] at e
          rw [hcut] at e
          refine mod_one (p := pw i) (t := pb - la) (s := -(a1 * vf (sh F i) (n - i))) ?_ n3 n4 v0 V1.out
          rw [HV2.out, ← e]; grind
        have HPu := hid hPu; have HQv := hid hQv
        clear n1 n2 n3 n4 hcut hPu hQv
        go_wp2_with fail
        refine (trim_c (some ⟨gb, 0, none⟩) i Nb P wr (by omega) (by omega) (HP.out.rd0 (by omega))).mono ?_
        rintro e w1 ⟨rfl, k1, hk1, hz1, he1⟩
        have Z1 := hid hz1
        clear hz1
        obtain ⟨x1, c1, hx1, hf1, hc1⟩ : ∃ x1 c1, e = .returned (.slice x1 k1 c1) ∧ Fm P k1 ∧ (x1 = none ∧ k1 = 0 ∧ c1 = 0 ∨ x1 = some ⟨gb, 0, none⟩ ∧ 0 < k1 ∧ c1 = Nb) := by
          rcases he1 with ⟨h0, he⟩ | ⟨h0, hn0, he⟩
          · exact ⟨none, 0, by rw [he, h0], .inl h0, .inl ⟨rfl, h0, rfl⟩⟩
          · exact ⟨_, _, he, .inr hn0, .inr ⟨rfl, h0, rfl⟩⟩
        subst hx1
        have HF1 := hid hf1; have HC1 := hid hc1
        clear he1 hf1 hc1
        go_wp2_with fail
        refine (trim_c (some ⟨ga, 0, none⟩) i Na Q _ (by omega) (by omega) (HQ.out.rd0 (by omega))).mono ?_
        rintro e w1 ⟨rfl, k2, hk2, hz2, he2⟩
        have Z2 := hid hz2
        clear hz2
        obtain ⟨x2, c2, hx2, hf2, hc2⟩ : ∃ x2 c2, e = .returned (.slice x2 k2 c2) ∧ Fm Q k2 ∧ (x2 = none ∧ k2 = 0 ∧ c2 = 0 ∨ x2 = some ⟨ga, 0, none⟩ ∧ 0 < k2 ∧ c2 = Na) := by
          rcases he2 with ⟨h0, he⟩ | ⟨h0, hn0, he⟩
          · exact ⟨none, 0, by rw [he, h0], .inl h0, .inl ⟨rfl, h0, rfl⟩⟩
          · exact ⟨_, _, he, .inr hn0, .inr ⟨rfl, h0, rfl⟩⟩
        subst hx2
        have HF2 := hid hf2; have HC2 := hid hc2
        clear he2 hf2 hc2
        go_wp2
        go_ret2
        refine ⟨HO.out.swap, gb, ga, Nb, Na, k1, k2, c1, c2, P, Q, x1, x2, rfl, .inr ⟨rfl, rfl⟩, HP.out, HQ.out, HLP.out, HLQ.out, by omega, by omega, HC1.out, HC2.out, by omega, by omega, HF1.out, HF2.out, ?_, ?_⟩
        · rw [trim_val hk1 Z1.out]; exact HPu.out
        · rw [trim_val hk2 Z2.out]; exact HQv.out
end Go.Proofs.YtjjbmioicliipabDoor
