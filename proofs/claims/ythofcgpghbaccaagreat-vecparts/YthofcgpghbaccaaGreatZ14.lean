/-
  The walk of the reference's DocDense, whatever it is handed. VecParts: At and Dense answer just what the document says, whatever they are handed.
-/
import Derived.Test.YthofcgpghbaccaaGreatZ13
import Derived.Test.YthofcgpghbaccaaGreatZ7
import Derived.Test.YthofcgpghbaccaaGreatZ11
import Derived.Test.YthofcgpghbaccaaGreatZ12
namespace Go.Proofs.YthofcgpghbaccaaGreat
open Go.RowKit

/-- What DocDense answers. -/
def OD2 (z : Int) (fv fb : Bool) (L : Nat) (w' : World) (ao : Option Addr) (n : Nat) (er : Int) (v : List (Int × Rat)) : Prop :=
  ((z < 0 ∨ 64 < z) ∧ er = 1 ∧ n = 0) ∨ (0 ≤ z ∧ z ≤ 64 ∧ fv = false ∧ er = 3 ∧ n = 0) ∨ (0 ≤ z ∧ z ≤ 64 ∧ fv = true ∧ fb = false ∧ er = 7 ∧ n = 0) ∨ (0 ≤ z ∧ z ≤ 64 ∧ fv = true ∧ fb = true ∧ er = 0 ∧ (n : Int) = z ∧ Rf L w' ao (dense n v))

set_option maxRecDepth 100000 in
set_option maxHeartbeats 4000000 in
theorem docDense_c {w : World} {L : Nat} {av : Option Addr} {k cv : Nat} {col : Nat → Int} {T : Nat → Nm} {z : Int} {v : List (Int × Rat)}
    (hv : Tl w av k col T) (hk : k ≤ 10000) (hl : ∀ j, j < k → (T j).n ≤ 1000 ∧ (T j).m ≤ 1000) (hL : L ≤ 1000) (hL1 : 1 ≤ L) (fv : FvT L w av k col T v) :
    Calls Tryz.prog 24 #[.slice av k cv, .int .i64 z] w fun e w' => ∃ ao n cap er, e = .returned (.tuple #[.slice ao n cap, .int .i64 er]) ∧ Below w.heap.size w w' ∧ OD2 z (tfB k col T) (decide (k = 0) || decide (col (k - 1) < z)) (4 * L) w' ao n er v := by
  have HV := hid hv; have FV := hid fv
  clear hv fv
  by_cases hz0 : z < 0
  · go_enter Tryz.func24, Tryz.ntmps24
    go_wp2
    go_ret2
    exact ⟨none, 0, 0, 1, rfl, Below.refl _ _, .inl ⟨.inl hz0, rfl, rfl⟩⟩
  by_cases h64 : 64 < z
  · go_enter Tryz.func24, Tryz.ntmps24
    go_wp2
    go_ret2
    exact ⟨none, 0, 0, 1, rfl, Below.refl _ _, .inl ⟨.inr h64, rfl, rfl⟩⟩
  obtain ⟨n, rfl⟩ := Int.eq_ofNat_of_zero_le (show 0 ≤ z by omega)
  go_enter Tryz.func24, Tryz.ntmps24
  go_wp2_with fail
  refine (fForm_c (cap := cv) HV.out hk hl).mono ?_
  rintro e w1 ⟨rfl, hb1⟩
  have HB1 := hid hb1
  clear hb1
  cases hf : tfB k col T
  · have HF := hid hf
    clear hf
    go_wp2
    go_ret2
    exact ⟨none, 0, 0, 3, rfl, HB1.out, .inr (.inl ⟨by omega, by omega, HF.out, rfl, rfl⟩)⟩
  obtain ⟨lv, _, _, hq⟩ := FV.out hf
  have HQ0 := hid hq; have HF := hid hf
  clear FV hf hq
  obtain ⟨i0, hi, hz1, hz2, hz3⟩ := info_parts Tryz.infoRat
  by_cases hbad : 0 < k ∧ (n : Int) ≤ col (k - 1)
  · obtain ⟨r, rfl⟩ : ∃ r, k = r + 1 := ⟨k - 1, by omega⟩
    obtain ⟨b, o, rfl, hc, _⟩ := (HV.out.below HB1.out) r (by omega)
    have x0 := hc.x0
    obtain ⟨y, hy⟩ : ∃ y, col r = y := ⟨_, rfl⟩
    have hb2 := hbad.2
    rw [Nat.add_sub_cancel, hy] at hb2
    rw [hy] at x0
    have HFB : Hid ((decide (r + 1 = 0) || decide (col (r + 1 - 1) < (n : Int))) = false) := by
      show _ = _
      rw [Nat.add_sub_cancel, hy]; simp; omega
    have HY := hid hy; have HBd := hid hbad
    clear hc hy hbad hi hz1 hz2 hz3
    go_wp2
    go_ret2
    exact ⟨none, 0, 0, 7, rfl, HB1.out, .inr (.inr (.inl ⟨by omega, by omega, HF.out, HFB.out, rfl, rfl⟩))⟩
  have HFB : Hid ((decide (k = 0) || decide (col (k - 1) < (n : Int))) = true) := by
    show _ = _
    by_cases h0 : k = 0
    · simp [h0]
    · have : col (k - 1) < (n : Int) := by
        by_cases h1 : col (k - 1) < (n : Int)
        · exact h1
        · exact absurd ⟨by omega, by omega⟩ hbad
      simp [this]
  have key : ∀ {P : Prop}, (k = 0 → P) → ((∃ r b o y, k = r + 1 ∧ av = some ⟨b, o, none⟩ ∧ w1.cell? ⟨b, o + r * 4, none⟩ = some (.int .i64 y) ∧ y < (n : Int)) → P) → P := fun h0 h1 => by
    by_cases hk0 : k = 0
    · exact h0 hk0
    · obtain ⟨b, o, e, hc, _⟩ := (HV.out.below HB1.out) (k - 1) (by omega)
      exact h1 ⟨k - 1, b, o, col (k - 1), by omega, e, hc.x0, by
        by_cases h1 : col (k - 1) < (n : Int)
        · exact h1
        · exact absurd ⟨by omega, by omega⟩ hbad⟩
  clear hbad
  go_upto_region 5 with fail
  go_cut [19] from 20 to 33 (fun u wx => u = .bool false ∧ wx = w1)
  case first =>
    clear HQ0 HV hi hz1 hz2 hz3
    refine key (fun h0 => ?_) (fun ⟨r, b, o, y, hkr, hav, hx, hy⟩ => ?_)
    · subst h0
      clear key
      go_wp2_with fail
      go_meet
      exact ⟨rfl, rfl⟩
    · subst hkr; subst hav
      have i1 : (0 : Int) ≤ ((r : Nat) : Int) := by omega
      have i2 : ((r : Nat) : Int) < ((r : Nat) : Int) + 1 := by omega
      have i3 : ¬ ((n : Int) ≤ y) := by omega
      clear key
      go_wp2_with fail
      go_meet
      exact ⟨rfl, rfl⟩
  case rest =>
    clear key
    obtain ⟨rfl, rfl⟩ := hcut
    have HI := hid hi; have HZ1 := hid hz1; have HZ2 := hid hz2; have HZ3 := hid hz3
    clear hi hz1 hz2 hz3
    go_wp2_with fail
    go_loopw [6, 7] (fun ov t wr => ∃ (i : Nat) (T' : Nat → Nm), i ≤ n ∧ t = .int .i64 i ∧ Hid (Below w.heap.size w wr) ∧ Hid (RowG 25 3 w.heap.size wr ov i (rcells (rls i T'))) ∧ Hid (∀ j, j < i → Rn (4 * L) wr (T' j).s (T' j).x (T' j).n (T' j).c (T' j).f (T' j).y (T' j).m (T' j).d (T' j).g (atq (j : Int) v))) (fun _ t _ => n - (intOf t).toNat)
    case atStart => exact ⟨0, T, by omega, rfl, HB1, rowG_nil _ _ _ _, fun j hj => by omega⟩
    case round =>
      clear HB1
      obtain ⟨i, T', hi, rfl, HB, HRow, HT⟩ := hrel
      by_cases hlt : i < n
      · have i1 : ((i : Nat) : Int) < ((n : Nat) : Int) := by omega
        go_wp2_with fail
        refine (fromT_c (L := L) (cap := cv) (HV.out.below HB.out) hk (by omega) lv (fun j hj => by obtain ⟨q, a, b⟩ := HQ0.out j hj; exact ⟨q, a, b.below HB.out⟩)).mono ?_
        rintro e w2 ⟨aw, cw, rfl, hb, hcw, TQ⟩
        replace HB := hid (HB.out.trans (hb.mono HB.out.size)); replace HRow := hid (HRow.out.below hb)
        replace HT : Hid (∀ j, j < i → Rn (4 * L) w2 (T' j).s (T' j).x (T' j).n (T' j).c (T' j).f (T' j).y (T' j).m (T' j).d (T' j).g (atq (j : Int) v)) := fun j hj => (HT.out j hj).below hb
        clear hb
        go_wp2_with fail
        refine (fAt_c (cap := cw) (z := (i : Int)) TQ.out lv hk (by omega)).mono ?_
        rintro e w3 ⟨s, x, nn, c, d, y, m, e', g, rfl, hb, hl1, hl2, hq⟩
        replace HB := hid (HB.out.trans (hb.mono HB.out.size)); replace HRow := hid (HRow.out.below hb); have HQ := hid hq
        replace HT : Hid (∀ j, j < i → Rn (4 * L) w3 (T' j).s (T' j).x (T' j).n (T' j).c (T' j).f (T' j).y (T' j).m (T' j).d (T' j).g (atq (j : Int) v)) := fun j hj => (HT.out j hj).below hb
        clear hb hq TQ
        go_wp2_with fail
        refine (qToR_c HQ.out (by omega) (by omega)).mono ?_
        rintro e w4 ⟨z4, k4, c4, f4, z5, k5, c5, f5, rfl, hb, R4⟩
        replace HB := hid (HB.out.trans (hb.mono HB.out.size)); replace HRow := hid (HRow.out.below hb)
        replace HT : Hid (∀ j, j < i → Rn (4 * L) w4 (T' j).s (T' j).x (T' j).n (T' j).c (T' j).f (T' j).y (T' j).m (T' j).d (T' j).g (atq (j : Int) v)) := fun j hj => (HT.out j hj).below hb
        have hsz := HB.out.size
        clear hb HQ
        go_wp2_with (at_builtin; go_must (refine wpList_append_one w4 rfl (.tmp 39) (.tmp 45) 45 rfl w.heap.size 25 56 3 (.agg #[.bool false, .slice none 0 0, .slice none 0 0]) Tryz.underlying45 Tryz.infoRat rfl (by decide) nz3 u6 i (rcells (rls i T')) rfl HRow.out #[.bool s, .slice z4 k4 c4, .slice z5 k5 c5] rfl rfl (one3 _ _ _ _ _ _ _) (not3 _ _ _ _ _ _ _) ?p1 (by decide) hsz ?_))
        case p1 => omega
        intro g8 cap8 w8 hr8 hk8 hb8 hg8
        have HB8 := hid (hb8 w HB.out (Nat.le_refl _))
        have HR8 : Hid (RowG 25 3 w.heap.size w8 (.slice (some ⟨g8, 0, none⟩) (i + 1) cap8) (i + 1) (rcells (rls (i + 1) (putN T' i ⟨s, z4, k4, c4, f4, z5, k5, c5, f5⟩)))) := by
          show RowG _ _ _ _ _ _ _
          rw [rls_put]; exact hr8
        have HT8 : Hid (∀ j, j < i + 1 → Rn (4 * L) w8 (putN T' i ⟨s, z4, k4, c4, f4, z5, k5, c5, f5⟩ j).s (putN T' i ⟨s, z4, k4, c4, f4, z5, k5, c5, f5⟩ j).x (putN T' i ⟨s, z4, k4, c4, f4, z5, k5, c5, f5⟩ j).n (putN T' i ⟨s, z4, k4, c4, f4, z5, k5, c5, f5⟩ j).c (putN T' i ⟨s, z4, k4, c4, f4, z5, k5, c5, f5⟩ j).f (putN T' i ⟨s, z4, k4, c4, f4, z5, k5, c5, f5⟩ j).y (putN T' i ⟨s, z4, k4, c4, f4, z5, k5, c5, f5⟩ j).m (putN T' i ⟨s, z4, k4, c4, f4, z5, k5, c5, f5⟩ j).d (putN T' i ⟨s, z4, k4, c4, f4, z5, k5, c5, f5⟩ j).g (atq (j : Int) v)) := fun j hj => by
          by_cases e : j = i
          · subst e
            rw [putN_at]
            exact (R4.out.mono (by omega)).kp hk8
          · rw [putN_ne e]
            exact (HT.out j (by omega)).kp hk8
        clear hr8 hk8 hb8 hg8 HRow HT HB R4 hsz
        go_wp2
        go_roundw
        case rel => exact ⟨i + 1, _, by omega, by go_num, HB8.out, HR8.out, HT8.out⟩
        case measure => simp [intOf]; omega
      · have e1 : i = n := by omega
        have i1 : ¬ (((i : Nat) : Int) < ((n : Nat) : Int)) := by omega
        rw [e1] at HRow HT
        obtain ⟨aw, cw, rfl⟩ := HRow.out.slice
        have HE : Hid (Rf (4 * L) wr aw (dense n v)) := fun j q hj => by
          have hlt2 : j < n := by have := (List.getElem?_eq_some_iff.1 hj).1; rw [dense_len] at this; exact this
          obtain ⟨b, hb, h4⟩ := rowg_c3 HRow.out hlt2
          have e2 : q = atq (j : Int) v := by simp [dense, hlt2] at hj; exact hj.symm
          rw [e2]
          exact ⟨b, 0, T' j, hb, h4, HT.out j hlt2⟩
        clear e1
        go_wp2
        go_ret2
        exact ⟨aw, n, cw, 0, rfl, HB.out, .inr (.inr (.inr ⟨by omega, by omega, HF.out, HFB.out, rfl, rfl, HE.out⟩))⟩
end Go.Proofs.YthofcgpghbaccaaGreat
namespace Go.Proofs.YthofcgpghbaccaaGreat
open Go.RowKit

theorem OA.below {z f L w w' s x n c y m d er q} (h : OA z f L w s x n c y m d er q) (hb : Below w.heap.size w w') : OA z f L w' s x n c y m d er q := by
  rcases h with h | h | ⟨h1, h2, h3, f', g', hr⟩
  · exact .inl h
  · exact .inr (.inl h)
  · exact .inr (.inr ⟨h1, h2, h3, f', g', hr.below hb⟩)
theorem sameNil_c (W : World) : Calls Tryz.prog 22 #[.agg #[.bool false, .slice none 0 0, .slice none 0 0], .agg #[.bool false, .slice none 0 0, .slice none 0 0]] W fun e w' => e = .returned (.bool true) ∧ Below W.heap.size W w' := by
  refine (rSame_c false none none 0 0 0 0 (fun _ => 0) (fun _ => 0) false none none 0 0 0 0 (fun _ => 0) (fun _ => 0) W Rd.zero Rd.zero Rd.zero Rd.zero (by omega) (by omega) (by omega) (by omega)).mono ?_
  rintro e w' ⟨b, rfl, h3, h4⟩
  exact ⟨by rw [h4.2 ⟨rfl, ⟨rfl, fun j hj => by omega⟩, ⟨rfl, fun j hj => by omega⟩⟩], h3⟩
/-- Two answers by the same rule are alike. -/
theorem oa_same {z f L L' w s x n c y m d er s' x' n' c' y' m' d' er' q} (h1 : OA z f L w s x n c y m d er q) (h2 : OA z f L' w s' x' n' c' y' m' d' er' q) (hL : L ≤ 1048576) (hL' : L' ≤ 1048576) :
    er = er' ∧ Hid (∀ W, Below w.heap.size w W → Calls Tryz.prog 22 #[.agg #[.bool s, .slice x n c, .slice y m d], .agg #[.bool s', .slice x' n' c', .slice y' m' d']] W fun e w' => e = .returned (.bool true) ∧ Below W.heap.size W w') := by
  rcases h1 with ⟨a1, rfl, rfl, rfl, rfl, rfl, rfl, rfl, rfl⟩ | ⟨a1, a2, rfl, rfl, rfl, rfl, rfl, rfl, rfl, rfl⟩ | ⟨a1, a2, rfl, f1, g1, r1⟩ <;>
  rcases h2 with ⟨b1, rfl, rfl, rfl, rfl, rfl, rfl, rfl, rfl⟩ | ⟨b1, b2, rfl, rfl, rfl, rfl, rfl, rfl, rfl, rfl⟩ | ⟨b1, b2, rfl, f2, g2, r2⟩
  · exact ⟨rfl, fun W _ => sameNil_c W⟩
  · omega
  · omega
  · omega
  · exact ⟨rfl, fun W _ => sameNil_c W⟩
  · rw [a2] at b2; cases b2
  · omega
  · rw [a2] at b2; cases b2
  · exact ⟨rfl, fun W hW => rSameEq_c (r1.below hW) (r2.below hW) hL hL'⟩
theorem OD2.below {z fv fb L w w' ao n er v} (h : OD2 z fv fb L w ao n er v) (hb : Below w.heap.size w w') : OD2 z fv fb L w' ao n er v := by
  rcases h with h | h | h | ⟨h1, h2, h3, h4, h5, h6, h7⟩
  · exact .inl h
  · exact .inr (.inl h)
  · exact .inr (.inr (.inl h))
  · exact .inr (.inr (.inr ⟨h1, h2, h3, h4, h5, h6, h7.below hb⟩))
theorem OD.two {z fv fb L w ao n cap er v} (h : OD z fv fb L w ao n cap er v) : OD2 z fv fb L w ao n er v := by
  rcases h with ⟨h1, h2, _, h4, _⟩ | ⟨h1, h2, h3, h4, _, h6, _⟩ | ⟨h1, h2, h3, h4, h5, _, h7, _⟩ | ⟨h1, h2, h3, h4, h5, h6, _, _, h9⟩
  · exact .inl ⟨h1, h2, h4⟩
  · exact .inr (.inl ⟨h1, h2, h3, h4, h6⟩)
  · exact .inr (.inr (.inl ⟨h1, h2, h3, h4, h5, h7⟩))
  · exact .inr (.inr (.inr ⟨h1, h2, h3, h4, h5, h6, h9⟩))
theorem samesNil_c {W : World} {a b : Option Addr} {ca cb : Nat} : Calls Tryz.prog 25 #[.slice a 0 ca, .slice b 0 cb] W fun e w' => e = .returned (.bool true) ∧ Below W.heap.size W w' :=
  samesEq_c (L := 1) (L' := 1) (p := []) (fun j q hj => by simp at hj) (fun j q hj => by simp at hj) rfl (by decide) (by decide) (by decide)
theorem od_same {z fv fb L L' w ao n ca er ao' n' cb er' v} (h1 : OD2 z fv fb L w ao n er v) (h2 : OD2 z fv fb L' w ao' n' er' v) (hL : L ≤ 1048576) (hL' : L' ≤ 1048576) :
    er = er' ∧ Hid (∀ W, Below w.heap.size w W → Calls Tryz.prog 25 #[.slice ao n ca, .slice ao' n' cb] W fun e w' => e = .returned (.bool true) ∧ Below W.heap.size W w') := by
  rcases h1 with ⟨a1, rfl, rfl⟩ | ⟨a1, a2, a3, rfl, rfl⟩ | ⟨a1, a2, a3, a4, rfl, rfl⟩ | ⟨a1, a2, a3, a4, rfl, a5, a6⟩ <;>
  rcases h2 with ⟨b1, rfl, rfl⟩ | ⟨b1, b2, b3, rfl, rfl⟩ | ⟨b1, b2, b3, b4, rfl, rfl⟩ | ⟨b1, b2, b3, b4, rfl, b5, b6⟩
  · exact ⟨rfl, fun W _ => samesNil_c⟩
  · omega
  · omega
  · omega
  · omega
  · exact ⟨rfl, fun W _ => samesNil_c⟩
  · rw [a3] at b3; cases b3
  · rw [a3] at b3; cases b3
  · omega
  · rw [a3] at b3; cases b3
  · exact ⟨rfl, fun W _ => samesNil_c⟩
  · rw [a4] at b4; cases b4
  · omega
  · rw [a3] at b3; cases b3
  · rw [a4] at b4; cases b4
  · obtain rfl : n = n' := by omega
    exact ⟨rfl, fun W hW => samesEq_c (a6.below hW) (b6.below hW) (dense_len n v) (by omega) hL hL'⟩
/-- The values of a list's twin. -/
theorem fvt_twin {L w w' av aw k col T T' v} (h : FvT L w av k col T v) (ht : Tl w' aw k col T') (hs : ∀ j, j < k → Sn (T j) (T' j)) : tfB k col T' = tfB k col T ∧ (tfB k col T' = true → v.length = k ∧ Tf L w' aw v ∧ Vf v) := by
  have he : tfB k col T' = tfB k col T := tfr_sn (fun j _ hj => hs j (by omega))
  refine ⟨he, fun hf => ?_⟩
  rw [he] at hf
  obtain ⟨h1, _, h3, h4⟩ := h hf
  refine ⟨h1, fun j a q hj => ?_, h3⟩
  have hlt : j < k := by have := (List.getElem?_eq_some_iff.1 hj).1; omega
  obtain ⟨q', h5, h6⟩ := h4 j hlt
  rw [hj] at h5
  obtain ⟨rfl, rfl⟩ : a = col j ∧ q = q' := by simpa using h5
  obtain ⟨b, o, e, hc, hr⟩ := ht j hlt
  exact ⟨b, o, T' j, e, hc, h6.sn (hs j hlt) hr.1⟩

set_option maxRecDepth 100000 in
set_option maxHeartbeats 8000000 in
theorem vecParts_c (av : Option Addr) (k cv : Nat) (col : Nat → Int) (T : Nat → Nm) (z1 z2 : Int) (w : World) (hv : Tr w av k col T) (hcv : k ≤ cv ∧ cv ≤ 9223372036854775807) :
    Calls Tryz.prog 4 #[.slice av k cv, .int .i64 z1, .int .i64 z2] w fun e w' => e = .returned (.bool true) ∧ Below w.heap.size w w' := by
  have HV := hid hv
  clear hv
  go_enter Tryz.func4, Tryz.ntmps4
  go_wp2_with fail
  refine (vAwake_c _).mono ?_
  rintro e w1 ⟨rfl, hb⟩
  have HB := hid hb
  clear hb
  go_wp2_with fail
  refine (vLight_c (cap := cv) (HV.out.below HB.out) (by omega)).mono ?_
  rintro e w2 ⟨rfl, hb⟩
  replace HB := hid (HB.out.trans (hb.mono HB.out.size))
  clear hb
  cases hl1 : (decide (k ≤ 200) && nlg 10 T k 0)
  · go_wp2
    go_ret
    exact ⟨rfl, HB.out⟩
  rw [Bool.and_eq_true, decide_eq_true_eq] at hl1
  obtain ⟨hk200, hl1⟩ := hl1
  have TL := hid (HV.out.tl hl1 (by decide))
  have hall : ∀ j, j < k → (T j).n ≤ 10 ∧ (T j).m ≤ 10 := fun j hj => nlg_all hl1 j (by omega) (by omega)
  have hall2 : ∀ j, j < k → (T j).n ≤ 1000 ∧ (T j).m ≤ 1000 := fun j hj => ⟨Nat.le_trans (hall j hj).1 (by decide), Nat.le_trans (hall j hj).2 (by decide)⟩
  obtain ⟨v, hfv⟩ := fvt_ex TL.out hall
  have FV := hid hfv; have HA2 := hid hall2
  clear hall hall2 hl1 HV hfv
  go_wp2_with fail
  refine (twinT_c (cap := cv) (TL.out.below HB.out) (by omega) HA2.out).mono ?_
  rintro e w3 ⟨aw, cw, T1, rfl, hb, hcw, TT⟩
  replace HB := hid (HB.out.trans (hb.mono HB.out.size))
  obtain ⟨he1, hf1⟩ := fvt_twin (FV.out) TT.out.1 TT.out.2
  clear hb
  go_wp2_with fail
  refine (vAt_c (L := 10) (cv := cw) (z := z1) (v := v) TT.out.1 (by omega) (by decide) (by decide) (fun h => ⟨(hf1 h).1, (hf1 h).2.1⟩) rOf0_c).mono ?_
  rw [he1]
  rintro e w4 ⟨s1, x1, n1, c1, y1, m1, d1, er1, rfl, hb, ho⟩
  replace HB := hid (HB.out.trans (hb.mono HB.out.size))
  have O1 := hid ho
  clear hb ho TT he1 hf1
  have hA0 := bx3_at w4 (.bool s1) (.slice x1 n1 c1) (.slice y1 m1 d1) 25
  have hb := below_alloc (Below.refl w4.heap.size w4) (.cells #[.bool s1, .slice x1 n1 c1, .slice y1 m1 d1] 25)
  go_upto_region 6 with fail
  have BA := hid hA0
  generalize w4.alloc (.cells #[.bool s1, .slice x1 n1 c1, .slice y1 m1 d1] 25) = w5 at *
  replace HB := hid (HB.out.trans (hb.mono HB.out.size)); replace O1 := hid (O1.out.below hb)
  clear hb hA0
  generalize w4.heap.size = ba at *
  go_wp2_with fail
  refine (docAt_c (L := 10) (cv := cv) (z := z1) (v := v) (TL.out.below HB.out) (by omega) HA2.out (by decide) (by decide) (FV.out.below HB.out)).mono ?_
  rintro e w6 ⟨s2, x2, n2, c2, y2, m2, d2, er2, rfl, hb, ho⟩
  replace HB := hid (HB.out.trans (hb.mono HB.out.size)); replace O1 := hid (O1.out.below hb); replace BA := hid (BA.out.below hb)
  obtain ⟨her, hsm⟩ := oa_same O1.out ho (by decide) (by decide)
  subst her
  clear hb ho O1
  have hA0 := bx3_at w6 (.bool s2) (.slice x2 n2 c2) (.slice y2 m2 d2) 25
  have hb := below_alloc (Below.refl w6.heap.size w6) (.cells #[.bool s2, .slice x2 n2 c2, .slice y2 m2 d2] 25)
  go_upto_region 7 with fail
  have BB := hid hA0
  have SM := hid (hsm.out _ hb)
  generalize w6.alloc (.cells #[.bool s2, .slice x2 n2 c2, .slice y2 m2 d2] 25) = w7 at *
  replace HB := hid (HB.out.trans (hb.mono HB.out.size)); replace BA := hid (BA.out.below hb)
  clear hb hA0 hsm
  generalize w6.heap.size = bb at *
  obtain ⟨za, a0, a1, a2⟩ := BA.out
  obtain ⟨zb, b0, b1, b2⟩ := BB.out
  have hee : (er1 != er1) = false := by simp
  go_wp2_with fail
  refine SM.out.mono ?_
  rintro e w8 ⟨rfl, hb⟩
  replace HB := hid (HB.out.trans (hb.mono HB.out.size))
  clear hb SM BA BB za a0 a1 a2 zb b0 b1 b2
  go_wp2_with fail
  refine (twinT_c (cap := cv) (TL.out.below HB.out) (by omega) HA2.out).mono ?_
  rintro e w9 ⟨aw, cw, T1, rfl, hb, hcw, TT⟩
  replace HB := hid (HB.out.trans (hb.mono HB.out.size))
  obtain ⟨he1, hf1⟩ := fvt_twin (FV.out) TT.out.1 TT.out.2
  clear hb
  go_wp2_with fail
  refine (vDense_c (L := 10) (cv := cw) (z := z2) (v := v) TT.out.1 (by omega) (by decide) (by decide) hf1 rOf0_c).mono ?_
  rw [he1]
  rintro e w10 ⟨ad, nd, cd, er3, rfl, hb, ho⟩
  replace HB := hid (HB.out.trans (hb.mono HB.out.size))
  have O1 := hid ho.two
  clear hb ho TT he1 hf1
  go_wp2_with fail
  refine (docDense_c (L := 10) (cv := cv) (z := z2) (v := v) (TL.out.below HB.out) (by omega) HA2.out (by decide) (by decide) (FV.out.below HB.out)).mono ?_
  rintro e w11 ⟨ae, ne, ce, er4, rfl, hb, ho⟩
  replace HB := hid (HB.out.trans (hb.mono HB.out.size)); replace O1 := hid (O1.out.below hb)
  obtain ⟨her, hsm⟩ := od_same (ca := cd) (cb := ce) O1.out ho (by decide) (by decide)
  subst her
  clear hb ho O1
  have SM := hid (hsm.out _ (Below.refl _ _))
  clear hsm
  have hee2 : (er3 == er3) = true := by simp
  go_wp2_with fail
  refine SM.out.mono ?_
  rintro e w12 ⟨rfl, hb⟩
  replace HB := hid (HB.out.trans (hb.mono HB.out.size))
  clear hb SM
  go_wp2
  go_ret
  exact ⟨rfl, HB.out⟩
end Go.Proofs.YthofcgpghbaccaaGreat
