/-
  The walk of the reference's DocDense, whatever it is handed. VecParts: At and Dense answer just what the document says, whatever they are handed. Walks of the reference's Twins, Forms and Froms of lists of numbers. The walk of the reference's Dot. The walks of the reference's DocDot and DocSparse, whatever they are handed. The walk of the reference's DocSparse, whatever it is handed. VecDots: Dot and Sparse answer just what the document says, whatever they are handed. The walk of the reference's To of a list of terms.
-/
import Derived.Test.YthofcgpghbaccaaGreatZ13
import Derived.Test.YthofcgpghbaccaaGreatZ7
import Derived.Test.YthofcgpghbaccaaGreatZ11
import Derived.Test.YthofcgpghbaccaaGreatZ12
import Derived.Test.YthofcgpghbaccaaGreatZ9
namespace Go.Proofs.YthofcgpghbaccaaGreat
open Go.RowKit

/-- What DocDense answers. -/
def OD2 (z : Int) (fv fb : Bool) (L : Nat) (w' : World) (ao : Option Addr) (n : Nat) (er : Int) (v : List (Int × Rat)) : Prop :=
  ((z < 0 ∨ 64 < z) ∧ er = 1 ∧ n = 0) ∨ (0 ≤ z ∧ z ≤ 64 ∧ fv = false ∧ er = 3 ∧ n = 0) ∨ (0 ≤ z ∧ z ≤ 64 ∧ fv = true ∧ fb = false ∧ er = 7 ∧ n = 0) ∨ (0 ≤ z ∧ z ≤ 64 ∧ fv = true ∧ fb = true ∧ er = 0 ∧ (n : Int) = z ∧ Rf L w' ao (dense n v))

set_option maxRecDepth 100000 in
set_option maxHeartbeats 4000000 in
theorem docDense_c {w : World} {L : Nat} {av : Option Addr} {k cv : Nat} {col : Nat → Int} {T : Nat → Nm} {z : Int} {v : List (Int × Rat)}
    (hv : Tl w av k col T) (hk : k ≤ 10000) (hl : ∀ j, j < k → (T j).n ≤ 1000 ∧ (T j).m ≤ 1000) (hL : L ≤ 1000) (hL1 : 1 ≤ L) (fv : FvT L w av k col T v) :
    Calls Tryz.prog 24 #[.slice av k cv, .int .i64 z] w fun e w' => ∃ ao n cap er, e = .returned (.tuple #[.slice ao n cap, .int .i64 er]) ∧ Below w.heap.size w w' ∧ OD2 z (tfB k col T) (decide (k = 0) || decide (col (k - 1) < z)) (4 * L) w' ao n er v := by
  have HV := hid hv; have FV := hid fv
  clear hv fv
  by_cases hz0 : z < 0
  · go_enter Tryz.func24, Tryz.ntmps24
    go_wp2
    go_ret2
    exact ⟨none, 0, 0, 1, rfl, Below.refl _ _, .inl ⟨.inl hz0, rfl, rfl⟩⟩
  by_cases h64 : 64 < z
  · go_enter Tryz.func24, Tryz.ntmps24
    go_wp2
    go_ret2
    exact ⟨none, 0, 0, 1, rfl, Below.refl _ _, .inl ⟨.inr h64, rfl, rfl⟩⟩
  obtain ⟨n, rfl⟩ := Int.eq_ofNat_of_zero_le (show 0 ≤ z by omega)
  go_enter Tryz.func24, Tryz.ntmps24
  go_wp2_with fail
  refine (fForm_c (cap := cv) HV.out hk hl).mono ?_
  rintro e w1 ⟨rfl, hb1⟩
  have HB1 := hid hb1
  clear hb1
  cases hf : tfB k col T
  · have HF := hid hf
    clear hf
    go_wp2
    go_ret2
    exact ⟨none, 0, 0, 3, rfl, HB1.out, .inr (.inl ⟨by omega, by omega, HF.out, rfl, rfl⟩)⟩
  obtain ⟨lv, _, _, hq⟩ := FV.out hf
  have HQ0 := hid hq; have HF := hid hf
  clear FV hf hq
  obtain ⟨i0, hi, hz1, hz2, hz3⟩ := info_parts Tryz.infoRat
  by_cases hbad : 0 < k ∧ (n : Int) ≤ col (k - 1)
  · obtain ⟨r, rfl⟩ : ∃ r, k = r + 1 := ⟨k - 1, by omega⟩
    obtain ⟨b, o, rfl, hc, _⟩ := (HV.out.below HB1.out) r (by omega)
    have x0 := hc.x0
    obtain ⟨y, hy⟩ : ∃ y, col r = y := ⟨_, rfl⟩
    have hb2 := hbad.2
    rw [Nat.add_sub_cancel, hy] at hb2
    rw [hy] at x0
    have HFB : Hid ((decide (r + 1 = 0) || decide (col (r + 1 - 1) < (n : Int))) = false) := by
      show _ = _
      rw [Nat.add_sub_cancel, hy]; simp; omega
    have HY := hid hy; have HBd := hid hbad
    clear hc hy hbad hi hz1 hz2 hz3
    go_wp2
    go_ret2
    exact ⟨none, 0, 0, 7, rfl, HB1.out, .inr (.inr (.inl ⟨by omega, by omega, HF.out, HFB.out, rfl, rfl⟩))⟩
  have HFB : Hid ((decide (k = 0) || decide (col (k - 1) < (n : Int))) = true) := by
    show _ = _
    by_cases h0 : k = 0
    · simp [h0]
    · have : col (k - 1) < (n : Int) := by
        by_cases h1 : col (k - 1) < (n : Int)
        · exact h1
        · exact absurd ⟨by omega, by omega⟩ hbad
      simp [this]
  have key : ∀ {P : Prop}, (k = 0 → P) → ((∃ r b o y, k = r + 1 ∧ av = some ⟨b, o, none⟩ ∧ w1.cell? ⟨b, o + r * 4, none⟩ = some (.int .i64 y) ∧ y < (n : Int)) → P) → P := fun h0 h1 => by
    by_cases hk0 : k = 0
    · exact h0 hk0
    · obtain ⟨b, o, e, hc, _⟩ := (HV.out.below HB1.out) (k - 1) (by omega)
      exact h1 ⟨k - 1, b, o, col (k - 1), by omega, e, hc.x0, by
        by_cases h1 : col (k - 1) < (n : Int)
        · exact h1
        · exact absurd ⟨by omega, by omega⟩ hbad⟩
  clear hbad
  go_upto_region 5 with fail
  go_cut [19] from 20 to 33 (fun u wx => u = .bool false ∧ wx = w1)
  case first =>
    clear HQ0 HV hi hz1 hz2 hz3
    refine key (fun h0 => ?_) (fun ⟨r, b, o, y, hkr, hav, hx, hy⟩ => ?_)
    · subst h0
      clear key
      go_wp2_with fail
      go_meet
      exact ⟨rfl, rfl⟩
    · subst hkr; subst hav
      have i1 : (0 : Int) ≤ ((r : Nat) : Int) := by omega
      have i2 : ((r : Nat) : Int) < ((r : Nat) : Int) + 1 := by omega
      have i3 : ¬ ((n : Int) ≤ y) := by omega
      clear key
      go_wp2_with fail
      go_meet
      exact ⟨rfl, rfl⟩
  case rest =>
    clear key
    obtain ⟨rfl, rfl⟩ := hcut
    have HI := hid hi; have HZ1 := hid hz1; have HZ2 := hid hz2; have HZ3 := hid hz3
    clear hi hz1 hz2 hz3
    go_wp2_with fail
    go_loopw [6, 7] (fun ov t wr => ∃ (i : Nat) (T' : Nat → Nm), i ≤ n ∧ t = .int .i64 i ∧ Hid (Below w.heap.size w wr) ∧ Hid (RowG 25 3 w.heap.size wr ov i (rcells (rls i T'))) ∧ Hid (∀ j, j < i → Rn (4 * L) wr (T' j).s (T' j).x (T' j).n (T' j).c (T' j).f (T' j).y (T' j).m (T' j).d (T' j).g (atq (j : Int) v))) (fun _ t _ => n - (intOf t).toNat)
    case atStart => exact ⟨0, T, by omega, rfl, HB1, rowG_nil _ _ _ _, fun j hj => by omega⟩
    case round =>
      clear HB1
      obtain ⟨i, T', hi, rfl, HB, HRow, HT⟩ := hrel
      by_cases hlt : i < n
      · have i1 : ((i : Nat) : Int) < ((n : Nat) : Int) := by omega
        go_wp2_with fail
        refine (fromT_c (L := L) (cap := cv) (HV.out.below HB.out) hk (by omega) lv (fun j hj => by obtain ⟨q, a, b⟩ := HQ0.out j hj; exact ⟨q, a, b.below HB.out⟩)).mono ?_
        rintro e w2 ⟨aw, cw, rfl, hb, hcw, TQ⟩
        replace HB := hid (HB.out.trans (hb.mono HB.out.size)); replace HRow := hid (HRow.out.below hb)
        replace HT : Hid (∀ j, j < i → Rn (4 * L) w2 (T' j).s (T' j).x (T' j).n (T' j).c (T' j).f (T' j).y (T' j).m (T' j).d (T' j).g (atq (j : Int) v)) := fun j hj => (HT.out j hj).below hb
        clear hb
        go_wp2_with fail
        refine (fAt_c (cap := cw) (z := (i : Int)) TQ.out lv hk (by omega)).mono ?_
        rintro e w3 ⟨s, x, nn, c, d, y, m, e', g, rfl, hb, hl1, hl2, hq⟩
        replace HB := hid (HB.out.trans (hb.mono HB.out.size)); replace HRow := hid (HRow.out.below hb); have HQ := hid hq
        replace HT : Hid (∀ j, j < i → Rn (4 * L) w3 (T' j).s (T' j).x (T' j).n (T' j).c (T' j).f (T' j).y (T' j).m (T' j).d (T' j).g (atq (j : Int) v)) := fun j hj => (HT.out j hj).below hb
        clear hb hq TQ
        go_wp2_with fail
        refine (qToR_c HQ.out (by omega) (by omega)).mono ?_
        rintro e w4 ⟨z4, k4, c4, f4, z5, k5, c5, f5, rfl, hb, R4⟩
        replace HB := hid (HB.out.trans (hb.mono HB.out.size)); replace HRow := hid (HRow.out.below hb)
        replace HT : Hid (∀ j, j < i → Rn (4 * L) w4 (T' j).s (T' j).x (T' j).n (T' j).c (T' j).f (T' j).y (T' j).m (T' j).d (T' j).g (atq (j : Int) v)) := fun j hj => (HT.out j hj).below hb
        have hsz := HB.out.size
        clear hb HQ
        go_wp2_with (at_builtin; go_must (refine wpList_append_one w4 rfl (.tmp 39) (.tmp 45) 45 rfl w.heap.size 25 56 3 (.agg #[.bool false, .slice none 0 0, .slice none 0 0]) Tryz.underlying45 Tryz.infoRat rfl (by decide) nz3 u6 i (rcells (rls i T')) rfl HRow.out #[.bool s, .slice z4 k4 c4, .slice z5 k5 c5] rfl rfl (one3 _ _ _ _ _ _ _) (not3 _ _ _ _ _ _ _) ?p1 (by decide) hsz ?_))
        case p1 => omega
        intro g8 cap8 w8 hr8 hk8 hb8 hg8
        have HB8 := hid (hb8 w HB.out (Nat.le_refl _))
        have HR8 : Hid (RowG 25 3 w.heap.size w8 (.slice (some ⟨g8, 0, none⟩) (i + 1) cap8) (i + 1) (rcells (rls (i + 1) (putN T' i ⟨s, z4, k4, c4, f4, z5, k5, c5, f5⟩)))) := by
          show RowG _ _ _ _ _ _ _
          rw [rls_put]; exact hr8
        have HT8 : Hid (∀ j, j < i + 1 → Rn (4 * L) w8 (putN T' i ⟨s, z4, k4, c4, f4, z5, k5, c5, f5⟩ j).s (putN T' i ⟨s, z4, k4, c4, f4, z5, k5, c5, f5⟩ j).x (putN T' i ⟨s, z4, k4, c4, f4, z5, k5, c5, f5⟩ j).n (putN T' i ⟨s, z4, k4, c4, f4, z5, k5, c5, f5⟩ j).c (putN T' i ⟨s, z4, k4, c4, f4, z5, k5, c5, f5⟩ j).f (putN T' i ⟨s, z4, k4, c4, f4, z5, k5, c5, f5⟩ j).y (putN T' i ⟨s, z4, k4, c4, f4, z5, k5, c5, f5⟩ j).m (putN T' i ⟨s, z4, k4, c4, f4, z5, k5, c5, f5⟩ j).d (putN T' i ⟨s, z4, k4, c4, f4, z5, k5, c5, f5⟩ j).g (atq (j : Int) v)) := fun j hj => by
          by_cases e : j = i
          · subst e
            rw [putN_at]
            exact (R4.out.mono (by omega)).kp hk8
          · rw [putN_ne e]
            exact (HT.out j (by omega)).kp hk8
        clear hr8 hk8 hb8 hg8 HRow HT HB R4 hsz
        go_wp2
        go_roundw
        case rel => exact ⟨i + 1, _, by omega, by go_num, HB8.out, HR8.out, HT8.out⟩
        case measure => simp [intOf]; omega
      · have e1 : i = n := by omega
        have i1 : ¬ (((i : Nat) : Int) < ((n : Nat) : Int)) := by omega
        rw [e1] at HRow HT
        obtain ⟨aw, cw, rfl⟩ := HRow.out.slice
        have HE : Hid (Rf (4 * L) wr aw (dense n v)) := fun j q hj => by
          have hlt2 : j < n := by have := (List.getElem?_eq_some_iff.1 hj).1; rw [dense_len] at this; exact this
          obtain ⟨b, hb, h4⟩ := rowg_c3 HRow.out hlt2
          have e2 : q = atq (j : Int) v := by simp [dense, hlt2] at hj; exact hj.symm
          rw [e2]
          exact ⟨b, 0, T' j, hb, h4, HT.out j hlt2⟩
        clear e1
        go_wp2
        go_ret2
        exact ⟨aw, n, cw, 0, rfl, HB.out, .inr (.inr (.inr ⟨by omega, by omega, HF.out, HFB.out, rfl, rfl, HE.out⟩))⟩
end Go.Proofs.YthofcgpghbaccaaGreat
namespace Go.Proofs.YthofcgpghbaccaaGreat
open Go.RowKit

theorem OA.below {z f L w w' s x n c y m d er q} (h : OA z f L w s x n c y m d er q) (hb : Below w.heap.size w w') : OA z f L w' s x n c y m d er q := by
  rcases h with h | h | ⟨h1, h2, h3, f', g', hr⟩
  · exact .inl h
  · exact .inr (.inl h)
  · exact .inr (.inr ⟨h1, h2, h3, f', g', hr.below hb⟩)
theorem sameNil_c (W : World) : Calls Tryz.prog 22 #[.agg #[.bool false, .slice none 0 0, .slice none 0 0], .agg #[.bool false, .slice none 0 0, .slice none 0 0]] W fun e w' => e = .returned (.bool true) ∧ Below W.heap.size W w' := by
  refine (rSame_c false none none 0 0 0 0 (fun _ => 0) (fun _ => 0) false none none 0 0 0 0 (fun _ => 0) (fun _ => 0) W Rd.zero Rd.zero Rd.zero Rd.zero (by omega) (by omega) (by omega) (by omega)).mono ?_
  rintro e w' ⟨b, rfl, h3, h4⟩
  exact ⟨by rw [h4.2 ⟨rfl, ⟨rfl, fun j hj => by omega⟩, ⟨rfl, fun j hj => by omega⟩⟩], h3⟩
/-- Two answers by the same rule are alike. -/
theorem oa_same {z f L L' w s x n c y m d er s' x' n' c' y' m' d' er' q} (h1 : OA z f L w s x n c y m d er q) (h2 : OA z f L' w s' x' n' c' y' m' d' er' q) (hL : L ≤ 1048576) (hL' : L' ≤ 1048576) :
    er = er' ∧ Hid (∀ W, Below w.heap.size w W → Calls Tryz.prog 22 #[.agg #[.bool s, .slice x n c, .slice y m d], .agg #[.bool s', .slice x' n' c', .slice y' m' d']] W fun e w' => e = .returned (.bool true) ∧ Below W.heap.size W w') := by
  rcases h1 with ⟨a1, rfl, rfl, rfl, rfl, rfl, rfl, rfl, rfl⟩ | ⟨a1, a2, rfl, rfl, rfl, rfl, rfl, rfl, rfl, rfl⟩ | ⟨a1, a2, rfl, f1, g1, r1⟩ <;>
  rcases h2 with ⟨b1, rfl, rfl, rfl, rfl, rfl, rfl, rfl, rfl⟩ | ⟨b1, b2, rfl, rfl, rfl, rfl, rfl, rfl, rfl, rfl⟩ | ⟨b1, b2, rfl, f2, g2, r2⟩
  · exact ⟨rfl, fun W _ => sameNil_c W⟩
  · omega
  · omega
  · omega
  · exact ⟨rfl, fun W _ => sameNil_c W⟩
  · rw [a2] at b2; cases b2
  · omega
  · rw [a2] at b2; cases b2
  · exact ⟨rfl, fun W hW => rSameEq_c (r1.below hW) (r2.below hW) hL hL'⟩
theorem OD2.below {z fv fb L w w' ao n er v} (h : OD2 z fv fb L w ao n er v) (hb : Below w.heap.size w w') : OD2 z fv fb L w' ao n er v := by
  rcases h with h | h | h | ⟨h1, h2, h3, h4, h5, h6, h7⟩
  · exact .inl h
  · exact .inr (.inl h)
  · exact .inr (.inr (.inl h))
  · exact .inr (.inr (.inr ⟨h1, h2, h3, h4, h5, h6, h7.below hb⟩))
theorem OD.two {z fv fb L w ao n cap er v} (h : OD z fv fb L w ao n cap er v) : OD2 z fv fb L w ao n er v := by
  rcases h with ⟨h1, h2, _, h4, _⟩ | ⟨h1, h2, h3, h4, _, h6, _⟩ | ⟨h1, h2, h3, h4, h5, _, h7, _⟩ | ⟨h1, h2, h3, h4, h5, h6, _, _, h9⟩
  · exact .inl ⟨h1, h2, h4⟩
  · exact .inr (.inl ⟨h1, h2, h3, h4, h6⟩)
  · exact .inr (.inr (.inl ⟨h1, h2, h3, h4, h5, h7⟩))
  · exact .inr (.inr (.inr ⟨h1, h2, h3, h4, h5, h6, h9⟩))
theorem samesNil_c {W : World} {a b : Option Addr} {ca cb : Nat} : Calls Tryz.prog 25 #[.slice a 0 ca, .slice b 0 cb] W fun e w' => e = .returned (.bool true) ∧ Below W.heap.size W w' :=
  samesEq_c (L := 1) (L' := 1) (p := []) (fun j q hj => by simp at hj) (fun j q hj => by simp at hj) rfl (by decide) (by decide) (by decide)
theorem od_same {z fv fb L L' w ao n ca er ao' n' cb er' v} (h1 : OD2 z fv fb L w ao n er v) (h2 : OD2 z fv fb L' w ao' n' er' v) (hL : L ≤ 1048576) (hL' : L' ≤ 1048576) :
    er = er' ∧ Hid (∀ W, Below w.heap.size w W → Calls Tryz.prog 25 #[.slice ao n ca, .slice ao' n' cb] W fun e w' => e = .returned (.bool true) ∧ Below W.heap.size W w') := by
  rcases h1 with ⟨a1, rfl, rfl⟩ | ⟨a1, a2, a3, rfl, rfl⟩ | ⟨a1, a2, a3, a4, rfl, rfl⟩ | ⟨a1, a2, a3, a4, rfl, a5, a6⟩ <;>
  rcases h2 with ⟨b1, rfl, rfl⟩ | ⟨b1, b2, b3, rfl, rfl⟩ | ⟨b1, b2, b3, b4, rfl, rfl⟩ | ⟨b1, b2, b3, b4, rfl, b5, b6⟩
  · exact ⟨rfl, fun W _ => samesNil_c⟩
  · omega
  · omega
  · omega
  · omega
  · exact ⟨rfl, fun W _ => samesNil_c⟩
  · rw [a3] at b3; cases b3
  · rw [a3] at b3; cases b3
  · omega
  · rw [a3] at b3; cases b3
  · exact ⟨rfl, fun W _ => samesNil_c⟩
  · rw [a4] at b4; cases b4
  · omega
  · rw [a3] at b3; cases b3
  · rw [a4] at b4; cases b4
  · obtain rfl : n = n' := by omega
    exact ⟨rfl, fun W hW => samesEq_c (a6.below hW) (b6.below hW) (dense_len n v) (by omega) hL hL'⟩
/-- The values of a list's twin. -/
theorem fvt_twin {L w w' av aw k col T T' v} (h : FvT L w av k col T v) (ht : Tl w' aw k col T') (hs : ∀ j, j < k → Sn (T j) (T' j)) : tfB k col T' = tfB k col T ∧ (tfB k col T' = true → v.length = k ∧ Tf L w' aw v ∧ Vf v) := by
  have he : tfB k col T' = tfB k col T := tfr_sn (fun j _ hj => hs j (by omega))
  refine ⟨he, fun hf => ?_⟩
  rw [he] at hf
  obtain ⟨h1, _, h3, h4⟩ := h hf
  refine ⟨h1, fun j a q hj => ?_, h3⟩
  have hlt : j < k := by have := (List.getElem?_eq_some_iff.1 hj).1; omega
  obtain ⟨q', h5, h6⟩ := h4 j hlt
  rw [hj] at h5
  obtain ⟨rfl, rfl⟩ : a = col j ∧ q = q' := by simpa using h5
  obtain ⟨b, o, e, hc, hr⟩ := ht j hlt
  exact ⟨b, o, T' j, e, hc, h6.sn (hs j hlt) hr.1⟩

set_option maxRecDepth 100000 in
set_option maxHeartbeats 8000000 in
theorem vecParts_c (av : Option Addr) (k cv : Nat) (col : Nat → Int) (T : Nat → Nm) (z1 z2 : Int) (w : World) (hv : Tr w av k col T) (hcv : k ≤ cv ∧ cv ≤ 9223372036854775807) :
    Calls Tryz.prog 4 #[.slice av k cv, .int .i64 z1, .int .i64 z2] w fun e w' => e = .returned (.bool true) ∧ Below w.heap.size w w' := by
  have HV := hid hv
  clear hv
  go_enter Tryz.func4, Tryz.ntmps4
  go_wp2_with fail
  refine (vAwake_c _).mono ?_
  rintro e w1 ⟨rfl, hb⟩
  have HB := hid hb
  clear hb
  go_wp2_with fail
  refine (vLight_c (cap := cv) (HV.out.below HB.out) (by omega)).mono ?_
  rintro e w2 ⟨rfl, hb⟩
  replace HB := hid (HB.out.trans (hb.mono HB.out.size))
  clear hb
  cases hl1 : (decide (k ≤ 200) && nlg 10 T k 0)
  · go_wp2
    go_ret
    exact ⟨rfl, HB.out⟩
  rw [Bool.and_eq_true, decide_eq_true_eq] at hl1
  obtain ⟨hk200, hl1⟩ := hl1
  have TL := hid (HV.out.tl hl1 (by decide))
  have hall : ∀ j, j < k → (T j).n ≤ 10 ∧ (T j).m ≤ 10 := fun j hj => nlg_all hl1 j (by omega) (by omega)
  have hall2 : ∀ j, j < k → (T j).n ≤ 1000 ∧ (T j).m ≤ 1000 := fun j hj => ⟨Nat.le_trans (hall j hj).1 (by decide), Nat.le_trans (hall j hj).2 (by decide)⟩
  obtain ⟨v, hfv⟩ := fvt_ex TL.out hall
  have FV := hid hfv; have HA2 := hid hall2
  clear hall hall2 hl1 HV hfv
  go_wp2_with fail
  refine (twinT_c (cap := cv) (TL.out.below HB.out) (by omega) HA2.out).mono ?_
  rintro e w3 ⟨aw, cw, T1, rfl, hb, hcw, TT⟩
  replace HB := hid (HB.out.trans (hb.mono HB.out.size))
  obtain ⟨he1, hf1⟩ := fvt_twin (FV.out) TT.out.1 TT.out.2
  clear hb
  go_wp2_with fail
  refine (vAt_c (L := 10) (cv := cw) (z := z1) (v := v) TT.out.1 (by omega) (by decide) (by decide) (fun h => ⟨(hf1 h).1, (hf1 h).2.1⟩) rOf0_c).mono ?_
  rw [he1]
  rintro e w4 ⟨s1, x1, n1, c1, y1, m1, d1, er1, rfl, hb, ho⟩
  replace HB := hid (HB.out.trans (hb.mono HB.out.size))
  have O1 := hid ho
  clear hb ho TT he1 hf1
  have hA0 := bx3_at w4 (.bool s1) (.slice x1 n1 c1) (.slice y1 m1 d1) 25
  have hb := below_alloc (Below.refl w4.heap.size w4) (.cells #[.bool s1, .slice x1 n1 c1, .slice y1 m1 d1] 25)
  go_upto_region 6 with fail
  have BA := hid hA0
  generalize w4.alloc (.cells #[.bool s1, .slice x1 n1 c1, .slice y1 m1 d1] 25) = w5 at *
  replace HB := hid (HB.out.trans (hb.mono HB.out.size)); replace O1 := hid (O1.out.below hb)
  clear hb hA0
  generalize w4.heap.size = ba at *
  go_wp2_with fail
  refine (docAt_c (L := 10) (cv := cv) (z := z1) (v := v) (TL.out.below HB.out) (by omega) HA2.out (by decide) (by decide) (FV.out.below HB.out)).mono ?_
  rintro e w6 ⟨s2, x2, n2, c2, y2, m2, d2, er2, rfl, hb, ho⟩
  replace HB := hid (HB.out.trans (hb.mono HB.out.size)); replace O1 := hid (O1.out.below hb); replace BA := hid (BA.out.below hb)
  obtain ⟨her, hsm⟩ := oa_same O1.out ho (by decide) (by decide)
  subst her
  clear hb ho O1
  have hA0 := bx3_at w6 (.bool s2) (.slice x2 n2 c2) (.slice y2 m2 d2) 25
  have hb := below_alloc (Below.refl w6.heap.size w6) (.cells #[.bool s2, .slice x2 n2 c2, .slice y2 m2 d2] 25)
  go_upto_region 7 with fail
  have BB := hid hA0
  have SM := hid (hsm.out _ hb)
  generalize w6.alloc (.cells #[.bool s2, .slice x2 n2 c2, .slice y2 m2 d2] 25) = w7 at *
  replace HB := hid (HB.out.trans (hb.mono HB.out.size)); replace BA := hid (BA.out.below hb)
  clear hb hA0 hsm
  generalize w6.heap.size = bb at *
  obtain ⟨za, a0, a1, a2⟩ := BA.out
  obtain ⟨zb, b0, b1, b2⟩ := BB.out
  have hee : (er1 != er1) = false := by simp
  go_wp2_with fail
  refine SM.out.mono ?_
  rintro e w8 ⟨rfl, hb⟩
  replace HB := hid (HB.out.trans (hb.mono HB.out.size))
  clear hb SM BA BB za a0 a1 a2 zb b0 b1 b2
  go_wp2_with fail
  refine (twinT_c (cap := cv) (TL.out.below HB.out) (by omega) HA2.out).mono ?_
  rintro e w9 ⟨aw, cw, T1, rfl, hb, hcw, TT⟩
  replace HB := hid (HB.out.trans (hb.mono HB.out.size))
  obtain ⟨he1, hf1⟩ := fvt_twin (FV.out) TT.out.1 TT.out.2
  clear hb
  go_wp2_with fail
  refine (vDense_c (L := 10) (cv := cw) (z := z2) (v := v) TT.out.1 (by omega) (by decide) (by decide) hf1 rOf0_c).mono ?_
  rw [he1]
  rintro e w10 ⟨ad, nd, cd, er3, rfl, hb, ho⟩
  replace HB := hid (HB.out.trans (hb.mono HB.out.size))
  have O1 := hid ho.two
  clear hb ho TT he1 hf1
  go_wp2_with fail
  refine (docDense_c (L := 10) (cv := cv) (z := z2) (v := v) (TL.out.below HB.out) (by omega) HA2.out (by decide) (by decide) (FV.out.below HB.out)).mono ?_
  rintro e w11 ⟨ae, ne, ce, er4, rfl, hb, ho⟩
  replace HB := hid (HB.out.trans (hb.mono HB.out.size)); replace O1 := hid (O1.out.below hb)
  obtain ⟨her, hsm⟩ := od_same (ca := cd) (cb := ce) O1.out ho (by decide) (by decide)
  subst her
  clear hb ho O1
  have SM := hid (hsm.out _ (Below.refl _ _))
  clear hsm
  have hee2 : (er3 == er3) = true := by simp
  go_wp2_with fail
  refine SM.out.mono ?_
  rintro e w12 ⟨rfl, hb⟩
  replace HB := hid (HB.out.trans (hb.mono HB.out.size))
  clear hb SM
  go_wp2
  go_ret
  exact ⟨rfl, HB.out⟩
end Go.Proofs.YthofcgpghbaccaaGreat
namespace Go.Proofs.YthofcgpghbaccaaGreat
open Go.RowKit

theorem Tryz.infoQ : (Tryz.prog.info? 63).map (fun i => (i.zero, i.size, i.bytes)) = some (some (.agg #[.bool false, .slice none 0 0, .slice none 0 0]), 3, 56) := by kernel_rfl
theorem afr_sn {X X' : Nat → Nm} : ∀ {r i : Nat}, (∀ j, i ≤ j → j < i + r → Sn (X j) (X' j)) → afr X' r i = afr X r i := by
  intro r
  induction r with
  | zero => intro i _; rfl
  | succ r ih =>
    intro i h
    simp only [afr]
    rw [ih (fun j a b => h j (by omega) (by omega)), (h i (by omega) (by omega)).nfB]
/-- What Twins answers. -/
def TwsAns (w w' : World) (e : Ending) (k : Nat) (X : Nat → Nm) : Prop := ∃ aw cw X', e = .returned (.slice aw k cw) ∧ Below w.heap.size w w' ∧ (k ≤ cw ∧ cw ≤ 9223372036854775807) ∧ Hid (Rl w' aw k X' ∧ ∀ j, j < k → Sn (X j) (X' j))
/-- A list of the reference's numbers. -/
def Rqs (K : Nat) (w : World) (ao : Option Addr) (p : List Rat) : Prop :=
  ∀ (j : Nat) (q : Rat), p[j]? = some q → ∃ b o, ∃ t : Nm, ao = some ⟨b, o, none⟩ ∧ C3 w b (o + j * 3) (.bool t.s) (.slice t.x t.n t.c) (.slice t.y t.m t.d) ∧ QnT K w t q
theorem Rqs.below {K w w' ao p} (h : Rqs K w ao p) (hb : Below w.heap.size w w') : Rqs K w' ao p := fun j q hj => by
  obtain ⟨b, o, t, e, h1, h2⟩ := h j q hj
  exact ⟨b, o, t, e, h1.below hb, h2.below hb⟩
/-- What Froms answers. -/
def FrsAns (K : Nat) (w w' : World) (e : Ending) (k : Nat) (p : List Rat) : Prop := ∃ aw cw, e = .returned (.slice aw k cw) ∧ Below w.heap.size w w' ∧ (k ≤ cw ∧ cw ≤ 9223372036854775807) ∧ Hid (Rqs K w' aw p)

set_option maxRecDepth 100000 in
set_option maxHeartbeats 4000000 in
theorem forms_c {w : World} {ao : Option Addr} {k cap : Nat} {X : Nat → Nm} (h : Rl w ao k X) (hk : k ≤ 10000) (hl : ∀ j, j < k → (X j).n ≤ 1000 ∧ (X j).m ≤ 1000) :
    Calls Tryz.prog 59 #[.slice ao k cap] w fun e w' => e = .returned (.bool (afB k X)) ∧ Below w.heap.size w w' := by
  have H := hid h
  clear h
  go_enter Tryz.func59, Tryz.ntmps59
  go_wp2_with fail
  go_loopw [7] (fun t wr => ∃ (i : Nat), i ≤ k ∧ t = .int .i64 i ∧ Hid (Below w.heap.size w wr) ∧ Hid (afB k X = afr X (k - i) i)) (fun t _ => k - (intOf t).toNat)
  case atStart => exact ⟨0, by omega, rfl, Below.refl _ _, rfl⟩
  case round =>
    obtain ⟨i, hi, rfl, HB, HT⟩ := hrel
    by_cases hlt : i < k
    · obtain ⟨b, o, rfl, hc, hn, hn1, hn2⟩ := (H.out.below HB.out) i hlt
      obtain ⟨r, hr⟩ : ∃ r, k - i = r + 1 := ⟨k - i - 1, by omega⟩
      have hT : afB k X = (nfB (X i) && afr X r (i + 1)) := by rw [HT.out, hr]; rfl
      have hr2 : k - (i + 1) = r := by omega
      obtain ⟨⟨s, x, n, c, f, y, m, d, g⟩, hTi⟩ : ∃ t, X i = t := ⟨_, rfl⟩
      rw [hTi] at hc hn hn1 hn2 hT
      obtain ⟨x0, x1, x2⟩ := hc
      replace x0 : wr.cell? ⟨b, o + i * 3, none⟩ = some (.bool s) := x0
      replace x1 : wr.cell? ⟨b, o + i * 3 + 1, none⟩ = some (.slice x n c) := x1
      replace x2 : wr.cell? ⟨b, o + i * 3 + 2, none⟩ = some (.slice y m d) := x2
      replace hn : Rw wr x n c f y m d g := hn
      replace hn1 : n ≤ 65536 := hn1
      replace hn2 : m ≤ 65536 := hn2
      have hblk : Below wr.heap.size wr (wr.alloc (.cells #[.bool s, .slice x n c, .slice y m d] 25)) := below_alloc (Below.refl _ _) _
      obtain ⟨hl1, hl2⟩ := hl i hlt
      rw [hTi] at hl1 hl2
      have CF := hid (qForm_c (s := s) (hn.below hblk) hl1 hl2)
      have HTi := hid hT; have HR2 := hid hr2
      have i1 : ((i : Nat) : Int) < ((k : Nat) : Int) := by omega
      clear hT hr2 hTi hr hn hblk hl1 hl2
      cases hf : rfB s f n g m
      · have CF2 := CF
        rw [hf] at CF2
        have HNF : Hid (nfB ⟨s, x, n, c, f, y, m, d, g⟩ = false) := hf
        clear CF hf
        go_wp2_with fail
        refine CF2.out.mono ?_
        rintro e w1 ⟨rfl, hb1⟩
        obtain ⟨_, _, _, _, hb2⟩ := box3 hb1
        go_wp2
        go_ret
        refine ⟨?_, HB.out.trans (hb2.mono HB.out.size)⟩
        rw [HTi.out, HNF.out]; rfl
      · have CF2 := CF
        rw [hf] at CF2
        have HNF : Hid (nfB ⟨s, x, n, c, f, y, m, d, g⟩ = true) := hf
        clear CF hf
        go_wp2_with fail
        refine CF2.out.mono ?_
        rintro e w1 ⟨rfl, hb1⟩
        obtain ⟨_, _, _, _, hb2⟩ := box3 hb1
        have HB2 := hid (HB.out.trans (hb2.mono HB.out.size))
        clear hb1 hb2
        go_wp2
        go_roundw
        case rel =>
          refine ⟨i + 1, by omega, by go_num, HB2.out, ?_⟩
          show _ = _
          rw [HTi.out, HNF.out, HR2.out]; rfl
        case measure => simp [intOf]; omega
    · have e1 : i = k := by omega
      have HTe : Hid (afB k X = true) := by
        show _ = _
        rw [HT.out, e1, Nat.sub_self]; rfl
      have i2 : ¬ (((i : Nat) : Int) < ((k : Nat) : Int)) := by omega
      clear e1 HT
      go_wp2
      go_ret
      refine ⟨?_, HB.out⟩
      rw [HTe.out]; rfl

set_option maxRecDepth 100000 in
set_option maxHeartbeats 4000000 in
theorem twins_c {w : World} {ao : Option Addr} {k cap : Nat} {X : Nat → Nm} (h : Rl w ao k X) (hk : k ≤ 10000) (hl : ∀ j, j < k → (X j).n ≤ 1000 ∧ (X j).m ≤ 1000) :
    Calls Tryz.prog 28 #[.slice ao k cap] w fun e w' => TwsAns w w' e k X := by
  have H := hid h
  clear h
  go_enter Tryz.func28, Tryz.ntmps28
  go_wp2_with fail
  go_loopw [3, 8] (fun ov t wr => ∃ (i : Nat) (T' : Nat → Nm), i ≤ k ∧ t = .int .i64 i ∧ Hid (Below w.heap.size w wr) ∧ Hid (RowG 25 3 w.heap.size wr ov i (rcells (rls i T'))) ∧ Hid (∀ j, j < i → Sn (X j) (T' j) ∧ Rw wr (T' j).x (T' j).n (T' j).c (T' j).f (T' j).y (T' j).m (T' j).d (T' j).g)) (fun _ t _ => k - (intOf t).toNat)
  case atStart => exact ⟨0, X, by omega, rfl, Below.refl _ _, rowG_nil _ _ _ _, fun j hj => by omega⟩
  case round =>
    obtain ⟨i, T', hi, rfl, HB, HRow, HT⟩ := hrel
    by_cases hlt : i < k
    · obtain ⟨b, o, hao, hc, hn, hn1, hn2⟩ := (H.out.below HB.out) i hlt
      subst hao
      obtain ⟨⟨s, x, n, c, f, y, m, d, g⟩, hTi⟩ : ∃ t, X i = t := ⟨_, rfl⟩
      rw [hTi] at hc hn
      obtain ⟨x0, x1, x2⟩ := hc
      replace x0 : wr.cell? ⟨b, o + i * 3, none⟩ = some (.bool s) := x0
      replace x1 : wr.cell? ⟨b, o + i * 3 + 1, none⟩ = some (.slice x n c) := x1
      replace x2 : wr.cell? ⟨b, o + i * 3 + 2, none⟩ = some (.slice y m d) := x2
      have i1 : ((i : Nat) : Int) < ((k : Nat) : Int) := by omega
      obtain ⟨hn10, hm10⟩ := hl i hlt
      rw [hTi] at hn10 hm10
      replace hn : Rw wr x n c f y m d g := hn
      have hb5 := below_alloc (Below.refl wr.heap.size wr) (.cells #[.bool s, .slice x n c, .slice y m d] 25)
      have HN := hid (hn.below hb5); have HTi := hid hTi; have HRow5 := hid (HRow.out.below hb5); have HB5 := hid (HB.out.trans (hb5.mono HB.out.size))
      have HT5 : Hid (∀ j, j < i → Sn (X j) (T' j) ∧ Rw (wr.alloc (.cells #[.bool s, .slice x n c, .slice y m d] 25)) (T' j).x (T' j).n (T' j).c (T' j).f (T' j).y (T' j).m (T' j).d (T' j).g) := fun j hj => ⟨(HT.out j hj).1, (HT.out j hj).2.below hb5⟩
      clear hn hTi hb5 hn1 hn2
      go_wp2_with fail
      clear x0 x1 x2 HB HRow HT
      generalize wr.alloc (.cells #[.bool s, .slice x n c, .slice y m d] 25) = w5 at *
      refine (qTwin_c (s := s) HN.out hn10 hm10).mono ?_
      rintro e w6 ⟨z6, c6, z7, c7, rfl, hb6, HQ⟩
      have HB6 := hid (HB5.out.trans (hb6.mono HB5.out.size)); have HRow6 := hid (HRow5.out.below hb6)
      have HT6 : Hid (∀ j, j < i → Sn (X j) (T' j) ∧ Rw w6 (T' j).x (T' j).n (T' j).c (T' j).f (T' j).y (T' j).m (T' j).d (T' j).g) := fun j hj => ⟨(HT5.out j hj).1, (HT5.out j hj).2.below hb6⟩
      have hsz := HB6.out.size
      clear hb6 HB5 HRow5 HT5 HN
      go_wp2_with (at_builtin; go_must (refine wpList_append_one w6 rfl (.tmp 12) (.tmp 15) 45 rfl w.heap.size 25 56 3 (.agg #[.bool false, .slice none 0 0, .slice none 0 0]) Tryz.underlying45 Tryz.infoRat rfl (by decide) nz3 u3 i (rcells (rls i T')) rfl HRow6.out #[.bool s, .slice z6 n c6, .slice z7 m c7] rfl rfl (one3 _ _ _ _ _ _ _) (not3 _ _ _ _ _ _ _) ?p1 (by decide) hsz ?_))
      case p1 => omega
      intro g8 cap8 w8 hr8 hk8 hb8 hg8
      have HB8 := hid (hb8 w HB6.out (Nat.le_refl _))
      have HR8 : Hid (RowG 25 3 w.heap.size w8 (.slice (some ⟨g8, 0, none⟩) (i + 1) cap8) (i + 1) (rcells (rls (i + 1) (putN T' i ⟨s, z6, n, c6, f, z7, m, c7, g⟩)))) := by
        show RowG _ _ _ _ _ _ _
        rw [rls_put]; exact hr8
      have HT8 : Hid (∀ j, j < i + 1 → Sn (X j) (putN T' i ⟨s, z6, n, c6, f, z7, m, c7, g⟩ j) ∧ Rw w8 (putN T' i ⟨s, z6, n, c6, f, z7, m, c7, g⟩ j).x (putN T' i ⟨s, z6, n, c6, f, z7, m, c7, g⟩ j).n (putN T' i ⟨s, z6, n, c6, f, z7, m, c7, g⟩ j).c (putN T' i ⟨s, z6, n, c6, f, z7, m, c7, g⟩ j).f (putN T' i ⟨s, z6, n, c6, f, z7, m, c7, g⟩ j).y (putN T' i ⟨s, z6, n, c6, f, z7, m, c7, g⟩ j).m (putN T' i ⟨s, z6, n, c6, f, z7, m, c7, g⟩ j).d (putN T' i ⟨s, z6, n, c6, f, z7, m, c7, g⟩ j).g) := fun j hj => by
        by_cases e : j = i
        · subst e
          rw [putN_at]
          rw [HTi.out]
          exact ⟨⟨rfl, rfl, rfl, rfl, rfl⟩, Rw.kp HQ.out hk8⟩
        · rw [putN_ne e]
          exact ⟨(HT6.out j (by omega)).1, Rw.kp (HT6.out j (by omega)).2 hk8⟩
      clear hr8 hk8 hb8 hg8 HRow6 HT6 HB6 HQ hsz
      go_wp2
      go_roundw
      case rel => exact ⟨i + 1, _, by omega, by go_num, HB8.out, HR8.out, HT8.out⟩
      case measure => simp [intOf]; omega
    · have e1 : i = k := by omega
      have i1 : ¬ (((i : Nat) : Int) < ((k : Nat) : Int)) := by omega
      rw [e1] at HRow HT
      obtain ⟨aw, cw, rfl⟩ := HRow.out.slice
      have hcw : k ≤ cw ∧ cw ≤ 9223372036854775807 := by
        rcases HRow.out.2 with ⟨hv, h0⟩ | ⟨_, _, _, hv, _, _, h5, h6, _⟩
        · cases hv; omega
        · cases hv; unfold maxLen at h6; omega
      clear e1
      go_wp2
      go_ret
      exact ⟨aw, cw, T', rfl, HB.out, hcw, (fun j hj => by obtain ⟨b, hb, h4⟩ := rowg_c3 HRow.out hj; obtain ⟨⟨_, e2, _, e4, _⟩, h6⟩ := HT.out j hj; exact ⟨b, 0, hb, h4, h6, by rw [e2]; exact Nat.le_trans (hl j hj).1 (by decide), by rw [e4]; exact Nat.le_trans (hl j hj).2 (by decide)⟩), fun j hj => (HT.out j hj).1⟩

set_option maxRecDepth 100000 in
set_option maxHeartbeats 4000000 in
theorem froms_c {w : World} {L : Nat} {ao : Option Addr} {k cap : Nat} {X : Nat → Nm} {p : List Rat} (h : Rl w ao k X) (hk : k ≤ 10000) (hL : L ≤ 16000) (hlp : p.length = k) (hq : ∀ j, j < k → ∃ q, p[j]? = some q ∧ Rn L w (X j).s (X j).x (X j).n (X j).c (X j).f (X j).y (X j).m (X j).d (X j).g q) :
    Calls Tryz.prog 61 #[.slice ao k cap] w fun e w' => FrsAns (2 * L) w w' e k p := by
  have H := hid h
  clear h
  go_enter Tryz.func61, Tryz.ntmps61
  go_wp2_with fail
  go_loopw [3, 8] (fun ov t wr => ∃ (i : Nat) (T' : Nat → Nm), i ≤ k ∧ t = .int .i64 i ∧ Hid (Below w.heap.size w wr) ∧ Hid (RowG 63 3 w.heap.size wr ov i (rcells (rls i T'))) ∧ Hid (∀ j, j < i → ∃ q, p[j]? = some q ∧ QnT (2 * L) wr (T' j) q)) (fun _ t _ => k - (intOf t).toNat)
  case atStart => exact ⟨0, X, by omega, rfl, Below.refl _ _, rowG_nil _ _ _ _, fun j hj => by omega⟩
  case round =>
    obtain ⟨i, T', hi, rfl, HB, HRow, HT⟩ := hrel
    by_cases hlt : i < k
    · obtain ⟨b, o, hao, hc, hn, hn1, hn2⟩ := (H.out.below HB.out) i hlt
      subst hao
      obtain ⟨⟨s, x, n, c, f, y, m, d, g⟩, hTi⟩ : ∃ t, X i = t := ⟨_, rfl⟩
      rw [hTi] at hc hn
      obtain ⟨x0, x1, x2⟩ := hc
      replace x0 : wr.cell? ⟨b, o + i * 3, none⟩ = some (.bool s) := x0
      replace x1 : wr.cell? ⟨b, o + i * 3 + 1, none⟩ = some (.slice x n c) := x1
      replace x2 : wr.cell? ⟨b, o + i * 3 + 2, none⟩ = some (.slice y m d) := x2
      have i1 : ((i : Nat) : Int) < ((k : Nat) : Int) := by omega
      obtain ⟨q, hvq, hrn⟩ := hq i hlt
      rw [hTi] at hrn
      replace hn : Rn L wr s x n c f y m d g q := hrn.below HB.out
      have HVq := hid hvq
      have hb5 := below_alloc (Below.refl wr.heap.size wr) (.cells #[.bool s, .slice x n c, .slice y m d] 25)
      have HN := hid (hn.below hb5); have HTi := hid hTi; have HRow5 := hid (HRow.out.below hb5); have HB5 := hid (HB.out.trans (hb5.mono HB.out.size))
      have HT5 : Hid (∀ j, j < i → ∃ q, p[j]? = some q ∧ QnT (2 * L) (wr.alloc (.cells #[.bool s, .slice x n c, .slice y m d] 25)) (T' j) q) := fun j hj => by obtain ⟨q, h1, h2⟩ := HT.out j hj; exact ⟨q, h1, h2.below hb5⟩
      clear hn hTi hb5 hn1 hn2
      go_wp2_with fail
      clear x0 x1 x2 HB HRow HT
      generalize wr.alloc (.cells #[.bool s, .slice x n c, .slice y m d] 25) = w5 at *
      refine ((qFrom_c HN.out (by omega)).mono (R' := fun e w' => ∃ s6 x6 n6 c6 d6 y6 m6 e6 g6, e = .returned (.agg #[.bool s6, .slice x6 n6 c6, .slice y6 m6 e6]) ∧ Below w5.heap.size w5 w' ∧ Hid (n6 ≤ 2 * L ∧ m6 ≤ 2 * L ∧ Qn w' s6 x6 n6 d6 y6 m6 g6 q)) (fun _ _ ⟨s, x, n, c, d, y, m, c', g, h1, h2, h3, h4, h5⟩ => ⟨s, x, n, c, d, y, m, c', g, h1, h2, h3, h4, h5⟩)).mono ?_
      rintro e w6 ⟨s6, x6, n6, c6, d6, y6, m6, e6, g6, rfl, hb6, HQ⟩
      have HB6 := hid (HB5.out.trans (hb6.mono HB5.out.size)); have HRow6 := hid (HRow5.out.below hb6)
      have HT6 : Hid (∀ j, j < i → ∃ q, p[j]? = some q ∧ QnT (2 * L) w6 (T' j) q) := fun j hj => by obtain ⟨q, h1, h2⟩ := HT5.out j hj; exact ⟨q, h1, h2.below hb6⟩
      have hsz := HB6.out.size
      clear hb6 HB5 HRow5 HT5 HN
      go_wp2_with (at_builtin; go_must (refine wpList_append_one w6 rfl (.tmp 12) (.tmp 15) 93 rfl w.heap.size 63 56 3 (.agg #[.bool false, .slice none 0 0, .slice none 0 0]) Tryz.underlying93 Tryz.infoQ rfl (by decide) nz3 u3 i (rcells (rls i T')) rfl HRow6.out #[.bool s6, .slice x6 n6 c6, .slice y6 m6 e6] rfl rfl (one3 _ _ _ _ _ _ _) (not3 _ _ _ _ _ _ _) ?p1 (by decide) hsz ?_))
      case p1 => omega
      intro g8 cap8 w8 hr8 hk8 hb8 hg8
      have HB8 := hid (hb8 w HB6.out (Nat.le_refl _))
      have HR8 : Hid (RowG 63 3 w.heap.size w8 (.slice (some ⟨g8, 0, none⟩) (i + 1) cap8) (i + 1) (rcells (rls (i + 1) (putN T' i ⟨s6, x6, n6, c6, d6, y6, m6, e6, g6⟩)))) := by
        show RowG _ _ _ _ _ _ _
        rw [rls_put]; exact hr8
      have HT8 : Hid (∀ j, j < i + 1 → ∃ q, p[j]? = some q ∧ QnT (2 * L) w8 (putN T' i ⟨s6, x6, n6, c6, d6, y6, m6, e6, g6⟩ j) q) := fun j hj => by
        by_cases e : j = i
        · subst e
          rw [putN_at]
          exact ⟨q, HVq.out, QnT.kp (t := ⟨s6, x6, n6, c6, d6, y6, m6, e6, g6⟩) HQ.out hk8⟩
        · rw [putN_ne e]
          obtain ⟨q, h1, h2⟩ := HT6.out j (by omega); exact ⟨q, h1, h2.kp hk8⟩
      clear hr8 hk8 hb8 hg8 HRow6 HT6 HB6 HQ hsz
      go_wp2
      go_roundw
      case rel => exact ⟨i + 1, _, by omega, by go_num, HB8.out, HR8.out, HT8.out⟩
      case measure => simp [intOf]; omega
    · have e1 : i = k := by omega
      have i1 : ¬ (((i : Nat) : Int) < ((k : Nat) : Int)) := by omega
      rw [e1] at HRow HT
      obtain ⟨aw, cw, rfl⟩ := HRow.out.slice
      have hcw : k ≤ cw ∧ cw ≤ 9223372036854775807 := by
        rcases HRow.out.2 with ⟨hv, h0⟩ | ⟨_, _, _, hv, _, _, h5, h6, _⟩
        · cases hv; omega
        · cases hv; unfold maxLen at h6; omega
      clear e1
      go_wp2
      go_ret
      exact ⟨aw, cw, rfl, HB.out, hcw, (fun j q hj => by have hlt2 : j < k := by { have := (List.getElem?_eq_some_iff.1 hj).1; omega }; obtain ⟨b, hb, h4⟩ := rowg_c3 HRow.out hlt2; obtain ⟨q', h5, h6⟩ := HT.out j hlt2; rw [hj] at h5; obtain rfl := Option.some.inj h5; exact ⟨b, 0, T' j, hb, h4, h6⟩)⟩
end Go.Proofs.YthofcgpghbaccaaGreat
namespace Go.Proofs.YthofcgpghbaccaaGreat
open Go.RowKit

theorem Dn.len_pd {w x n d V} {K : Nat} (h : Dn w x n d V) (hv : (V : Int) < pd K) : n ≤ K := by
  by_cases hn : n ≤ K
  · exact hn
  · have h1 := vd_form_ge h.dg h.fm (by omega)
    have h2 := pd_mono (show K ≤ n - 1 by omega)
    have h3 := h.val
    omega
theorem Dn.lt_pd {w x n d V} {K : Nat} (h : Dn w x n d V) (hn : n ≤ K) : (V : Int) < pd K := by
  have h1 := vd_lt h.dg
  have h2 := pd_mono hn
  have h3 := h.val
  omega
/-- How long the reference's number is, by its value. -/
theorem Qn.len {w s x n d y m g q} {K : Nat} (h : Qn w s x n d y m g q) (hq : Lo K q) : n ≤ 2 * K ∧ m ≤ 2 * K :=
  ⟨h.num.dn.len_pd (by rw [pd_two]; exact hq.1), h.den.len_pd (by rw [pd_two]; exact hq.2)⟩
theorem Qn.lo {w s x n d y m g q} {K : Nat} (h : Qn w s x n d y m g q) (hn : n ≤ 2 * K) (hm : m ≤ 2 * K) : Lo K q :=
  ⟨by rw [← pd_two]; exact h.num.dn.lt_pd hn, by rw [← pd_two]; exact h.den.lt_pd hm⟩
theorem Sx.qn {w B s x n c y m d u0 u1 u2 s1 x1 n1 d1 y1 m1 g1 q} (S : Sx w B s x n c y m d) (h : Qn w s1 x1 n1 d1 y1 m1 g1 q) : Qn (((w.setCell ⟨B, 0, none⟩ u0).setCell ⟨B, 1, none⟩ u1).setCell ⟨B, 2, none⟩ u2) s1 x1 n1 d1 y1 m1 g1 q :=
  ⟨⟨⟨S.rd h.num.dn.rd, h.num.dn.dg, h.num.dn.fm, h.num.dn.val⟩, h.num.sgn, h.num.pos⟩, ⟨S.rd h.den.rd, h.den.dg, h.den.fm, h.den.val⟩⟩

set_option maxRecDepth 100000 in
set_option maxHeartbeats 8000000 in
theorem fDot_c {w : World} {L : Nat} {av ax : Option Addr} {k kx cv cx : Nat} {v : List (Int × Rat)} {p : List Rat}
    (hv : Tq (2 * L) w av v) (hx : Rqs (2 * L) w ax p) (lv : v.length = k) (lp : p.length = kx) (hk : k ≤ 64) (hL : L ≤ 100) (hbel : ∀ (j : Nat) (a : Int) (q : Rat), v[j]? = some (a, q) → 0 ≤ a ∧ a < kx) :
    Calls Tryz.prog 60 #[.slice av k cv, .slice ax kx cx] w fun e w' => QAns (2 * (4 + 64 * (2 * L + 2))) w w' e (dsum p v 0) := by
  have TV := hid hv; have TX := hid hx; have HBe := hid hbel
  have h2 := ob_new w 63
  have h3 := below_alloc (Below.refl w.heap.size w) (.cells #[.bool false, .slice none 0 0, .slice none 0 0] 63)
  clear hv hx hbel
  go_enter Tryz.func60, Tryz.ntmps60
  go_wp2_with fail
  generalize w.alloc (.cells #[.bool false, .slice none 0 0, .slice none 0 0] 63) = w0 at *
  have OB0 := hid h2; have HB0 := hid h3
  clear h2 h3
  refine (qZero_c _).mono ?_
  rintro e w4 ⟨s0, x0, n0, c0, d0, y0, m0, e0, g0, rfl, hb4, hl1, hl2, hq4⟩
  have OB4 := hid (OB0.out.below hb4); have HB4 := hid (HB0.out.trans (hb4.mono HB0.out.size)); have HQ4 := hid hq4
  clear OB0 HB0 hb4 hq4 hl1 hl2
  go_wp2_with fail
  have hSx : Sx (w4.alloc (.cells #[.bool s0, .slice x0 n0 c0, .slice y0 m0 e0] 63)) w4.heap.size s0 x0 n0 c0 y0 m0 e0 := ⟨by simp, by simp [go_sem], by simp [go_sem], by simp [go_sem], fun o => by simp only [World.frozen?, heap_alloc_new w4 (.cells #[.bool s0, .slice x0 n0 c0, .slice y0 m0 e0] 63)]; simp⟩
  have hal := below_alloc (Below.refl w4.heap.size w4) (.cells #[.bool s0, .slice x0 n0 c0, .slice y0 m0 e0] 63)
  have hne : w.heap.size < w4.heap.size := OB4.out.z
  have ST := hid hSx; have HB5 := hid (HB4.out.trans (hal.mono HB4.out.size)); have HQ5 := hid (HQ4.out.below hal); have OB5 := hid (OB4.out.below hal)
  clear hSx hal HB4 HQ4 OB4
  generalize w4.alloc (.cells #[.bool s0, .slice x0 n0 c0, .slice y0 m0 e0] 63) = w5' at *
  generalize w4.heap.size = B at *
  go_loopw [11] (fun t wr => ∃ (i : Nat) (acc : Rat) (s : Bool) (x : Option Addr) (n c : Nat) (d : Nat → Int) (y : Option Addr) (m e : Nat) (g : Nat → Int), i ≤ k ∧ t = .int .i64 i ∧ Hid (Below w.heap.size w wr) ∧ Hid (Sx wr B s x n c y m e) ∧ Hid (Ob wr w.heap.size) ∧ Hid (Lo (4 + i * (2 * L + 2)) acc ∧ Qn wr s x n d y m g acc) ∧ Hid (dsum p (v.drop i) acc = dsum p v 0)) (fun t _ => k - (intOf t).toNat)
  case atStart => exact ⟨0, 0, s0, x0, n0, c0, d0, y0, m0, e0, g0, by omega, rfl, HB5, ST, OB5, ⟨lo_zero (by omega), HQ5.out⟩, rfl⟩
  case round =>
    clear HB5 HQ5 OB5 ST
    obtain ⟨i, acc, s, x, n, c, d, y, m, e, g, hi, rfl, HB, HS, HO, HQ, HE⟩ := hrel
    by_cases hlt : i < k
    · obtain ⟨⟨a, q⟩, haq⟩ : ∃ t, v[i]? = some t := ⟨_, List.getElem?_eq_getElem (by omega)⟩
      obtain ⟨ha0, ha1⟩ := HBe.out i a q haq
      obtain ⟨an, rfl⟩ := Int.eq_ofNat_of_zero_le ha0
      obtain ⟨b, o, ⟨ts, tx, tn, tc, tf, ty, tm, td, tg⟩, hav, hc, hr⟩ := (TV.out.below HB.out) i an q haq
      obtain ⟨r, hr2⟩ : ∃ r, p[an]? = some r := ⟨_, List.getElem?_eq_getElem (by omega)⟩
      obtain ⟨b0, o0, _, hax0, hc0, _⟩ := TX.out an r hr2
      have hb0 := World.block_lt_of_cell? w _ hc0.x0
      obtain ⟨b', o', ⟨ss, sx, sn, sc, sf, sy, sm, sd, sg⟩, hax, hc', hr'⟩ := (TX.out.below HB.out) an r hr2
      have nB2 : B ≠ b' := by
        rw [hax0] at hax
        have : b0 = b' := by simpa using congrArg (fun a => (a.map Addr.block)) hax
        have hb1 : b0 < w.heap.size := hb0
        omega
      clear hc0 hb0 hax0
      have hav2 := hav; have hax2 := hax
      subst hav2; subst hax2
      obtain ⟨x0', x1', x2', x3'⟩ := hc
      obtain ⟨p0, p1, p2⟩ := hc'
      replace x0' : wr.cell? ⟨b, o + i * 4, none⟩ = some (.int .i64 an) := x0'
      replace x1' : wr.cell? ⟨b, o + i * 4 + 1, none⟩ = some (.bool ts) := x1'
      replace x2' : wr.cell? ⟨b, o + i * 4 + 2, none⟩ = some (.slice tx tn tc) := x2'
      replace x3' : wr.cell? ⟨b, o + i * 4 + 3, none⟩ = some (.slice ty tm td) := x3'
      replace p0 : wr.cell? ⟨b', o' + an * 3, none⟩ = some (.bool ss) := p0
      replace p1 : wr.cell? ⟨b', o' + an * 3 + 1, none⟩ = some (.slice sx sn sc) := p1
      replace p2 : wr.cell? ⟨b', o' + an * 3 + 2, none⟩ = some (.slice sy sm sd) := p2
      have HR1 : Hid (tn ≤ 2 * L ∧ tm ≤ 2 * L ∧ Qn wr ts tx tn tf ty tm tg q) := hr
      have HR2 : Hid (sn ≤ 2 * L ∧ sm ≤ 2 * L ∧ Qn wr ss sx sn sf sy sm sg r) := hr'
      have i2 : ((i : Nat) : Int) < ((k : Nat) : Int) := by omega
      have i3 : ((an : Nat) : Int) < ((kx : Nat) : Int) := by omega
      have HD : Hid (dsum p (v.drop (i + 1)) (acc + q * r) = dsum p v 0) := by
        show _ = _
        have e1 : v.drop i = ((an : Int), q) :: v.drop (i + 1) := by
          have hl : i < v.length := by omega
          have : v[i] = ((an : Int), q) := by rw [List.getElem?_eq_getElem hl] at haq; exact Option.some.inj haq
          rw [← this]; exact List.drop_eq_getElem_cons hl
        rw [← HE.out, e1]
        show _ = dsum p _ (acc + q * p.getD (an : Int).toNat 0)
        rw [Int.toNat_natCast, List.getD_eq_getElem?_getD, hr2]; rfl
      have nB1 : B ≠ wr.heap.size := by have := HS.out.z; omega
      clear hr hr' haq hr2 hav hax HE
      go_upto_region 5 with fail
      have hb5 := below_alloc (Below.refl wr.heap.size wr) (.cells #[.int .i64 an, .bool ts, .slice tx tn tc, .slice ty tm td] 106)
      have a0 : (wr.alloc (.cells #[.int .i64 an, .bool ts, .slice tx tn tc, .slice ty tm td] 106)).cell? ⟨wr.heap.size, 0, none⟩ = some (.int .i64 an) := by simp [go_sem]
      have a1 : (wr.alloc (.cells #[.int .i64 an, .bool ts, .slice tx tn tc, .slice ty tm td] 106)).cell? ⟨wr.heap.size, 1, none⟩ = some (.bool ts) := by simp [go_sem]
      have a2 : (wr.alloc (.cells #[.int .i64 an, .bool ts, .slice tx tn tc, .slice ty tm td] 106)).cell? ⟨wr.heap.size, 2, none⟩ = some (.slice tx tn tc) := by simp [go_sem]
      have a3 : (wr.alloc (.cells #[.int .i64 an, .bool ts, .slice tx tn tc, .slice ty tm td] 106)).cell? ⟨wr.heap.size, 3, none⟩ = some (.slice ty tm td) := by simp [go_sem]
      replace p0 := kCb hb5 p0; replace p1 := kCb hb5 p1; replace p2 := kCb hb5 p2
      replace HS := hid (HS.out.below hb5); replace HO := hid (HO.out.below hb5); replace HQ := hid (And.intro HQ.out.1 (HQ.out.2.below hb5)); replace HR1 := hid (And.intro HR1.out.1 (And.intro HR1.out.2.1 (HR1.out.2.2.below hb5))); replace HR2 := hid (And.intro HR2.out.1 (And.intro HR2.out.2.1 (HR2.out.2.2.below hb5)))
      replace HB := hid (HB.out.trans (hb5.mono HB.out.size))
      clear x0' x1' x2' x3' hb5
      generalize wr.alloc (.cells #[.int .i64 an, .bool ts, .slice tx tn tc, .slice ty tm td] 106) = w5 at *
      obtain ⟨sz, u0, u1, u2, uf⟩ := HS.out
      have hKi : 4 + i * (2 * L + 2) ≤ 4 + 64 * (2 * L + 2) := by
        have h1 : i * (2 * L + 2) ≤ 64 * (2 * L + 2) := Nat.mul_le_mul_right _ (by omega)
        omega
      obtain ⟨hq1, hq2⟩ := HQ.out.2.len HQ.out.1
      have CM : Hid (∀ W, Below w5.heap.size w5 W → Calls Tryz.prog 35 #[.agg #[.bool ts, .slice tx tn tc, .slice ty tm td], .agg #[.bool ss, .slice sx sn sc, .slice sy sm sd]] W fun e w' => ∃ s x n c d y m e' g, e = .returned (.agg #[.bool s, .slice x n c, .slice y m e']) ∧ Below W.heap.size W w' ∧ Hid (Lo (2 * L + 1) (q * r) ∧ Qn w' s x n d y m g (q * r))) := fun W hW =>
        (qMul_c (HR1.out.2.2.below hW) (HR2.out.2.2.below hW) (Nat.le_trans HR1.out.1 (by omega)) (Nat.le_trans HR1.out.2.1 (by omega)) (Nat.le_trans HR2.out.1 (by omega)) (Nat.le_trans HR2.out.2.1 (by omega))).mono (fun _ _ ⟨s, x, n, c, d, y, m, c', g, h1, h2, h3, h4, h5⟩ => ⟨s, x, n, c, d, y, m, c', g, h1, h2, Lo.mono (lo_mul (HR1.out.2.2.lo HR1.out.1 HR1.out.2.1) (HR2.out.2.2.lo HR2.out.1 HR2.out.2.1)) (by omega), h5⟩)
      have CA : Hid (∀ (W : World) (s1 : Bool) (x1 : Option Addr) (n1 c1 : Nat) (d1 : Nat → Int) (y1 : Option Addr) (m1 e1 : Nat) (g1 : Nat → Int), Below w5.heap.size w5 W → Lo (2 * L + 1) (q * r) ∧ Qn W s1 x1 n1 d1 y1 m1 g1 (q * r) → Calls Tryz.prog 33 #[.agg #[.bool s, .slice x n c, .slice y m e], .agg #[.bool s1, .slice x1 n1 c1, .slice y1 m1 e1]] W fun e w' => ∃ s x n c d y m e' g, e = .returned (.agg #[.bool s, .slice x n c, .slice y m e']) ∧ Below W.heap.size W w' ∧ Hid (Lo (4 + (i + 1) * (2 * L + 2)) (acc + q * r) ∧ Qn w' s x n d y m g (acc + q * r))) := fun W s1 x1 n1 c1 d1 y1 m1 e1 g1 hW hh => by
        obtain ⟨k1, k2⟩ := hh.2.len hh.1
        refine (qAdd_c (HQ.out.2.below hW) hh.2 (by omega) (by omega) (by omega) (by omega)).mono (fun _ _ ⟨s, x, n, c, d, y, m, c', g, h1, h2, h3, h4, h5⟩ => ⟨s, x, n, c, d, y, m, c', g, h1, h2, Lo.mono (lo_add HQ.out.1 hh.1) ?_, h5⟩)
        rw [Nat.add_mul]; omega
      clear hq1 hq2
      refine wp_region_held_drew (S := fun w' => w'.cell? ⟨wr.heap.size, 0, none⟩ = some (.int .i64 an) ∧ w'.cell? ⟨wr.heap.size, 1, none⟩ = some (.bool ts) ∧ w'.cell? ⟨wr.heap.size, 2, none⟩ = some (.slice tx tn tc) ∧ w'.cell? ⟨wr.heap.size, 3, none⟩ = some (.slice ty tm td) ∧ w'.cell? ⟨b', o' + an * 3, none⟩ = some (.bool ss) ∧ w'.cell? ⟨b', o' + an * 3 + 1, none⟩ = some (.slice sx sn sc) ∧ w'.cell? ⟨b', o' + an * 3 + 2, none⟩ = some (.slice sy sm sd)) (by kernel_rfl) ?_ (fun hHeld => ?_)
      · (refine ⟨?_, ?_, ?_, ?_, ?_, ?_, ?_⟩ <;> repeat (with_reducible first | assumption | refine kCd ?_))
      refine wpAnyH_take (i := 1) (v := ?_) rfl (by kernel_rfl) (by kernel_rfl) (by kernel_rfl) (fun _ _ _ h => h) (Or.inl ⟨by rfl, ?_⟩) (by assumption) ?_
      rotate_left
      (focus (intro w0 hSw; (try dsimp only at hSw); go_simp <;> with_reducible rfl))
      simp only [List.getElem_toArray, List.getElem_cons_succ, List.getElem_cons_zero, Act.put, List.setIfInBounds_toArray, List.set_cons_zero, List.set_cons_succ]
      refine wpAnyH_take (i := 2) (v := ?_) rfl (by kernel_rfl) (by kernel_rfl) (by kernel_rfl) (fun _ _ _ h => h) (Or.inl ⟨by rfl, ?_⟩) (by assumption) ?_
      rotate_left
      (focus (intro w0 hSw; (try dsimp only at hSw); go_simp <;> with_reducible rfl))
      simp only [List.getElem_toArray, List.getElem_cons_succ, List.getElem_cons_zero, Act.put, List.setIfInBounds_toArray, List.set_cons_zero, List.set_cons_succ]
      refine wpAnyH_take (i := 3) (v := ?_) rfl (by kernel_rfl) (by kernel_rfl) (by kernel_rfl) (fun _ _ _ h => h) (Or.inl ⟨by rfl, ?_⟩) (by assumption) ?_
      rotate_left
      (focus (intro w0 hSw; (try dsimp only at hSw); go_simp <;> with_reducible rfl))
      simp only [List.getElem_toArray, List.getElem_cons_succ, List.getElem_cons_zero, Act.put, List.setIfInBounds_toArray, List.set_cons_zero, List.set_cons_succ]
      refine wpAnyH_take (i := 4) (v := ?_) rfl (by kernel_rfl) (by kernel_rfl) (by kernel_rfl) (fun _ _ _ h => h) (Or.inl ⟨by rfl, ?_⟩) (by assumption) ?_
      rotate_left
      (focus (intro w0 hSw; (try dsimp only at hSw); go_simp <;> with_reducible rfl))
      simp only [List.getElem_toArray, List.getElem_cons_succ, List.getElem_cons_zero, Act.put, List.setIfInBounds_toArray, List.set_cons_zero, List.set_cons_succ]
      refine wpAnyH_take (i := 5) (v := ?_) rfl (by kernel_rfl) (by kernel_rfl) (by kernel_rfl) (fun _ _ _ h => h) (Or.inl ⟨by rfl, ?_⟩) (by assumption) ?_
      rotate_left
      (focus (intro w0 hSw; (try dsimp only at hSw); go_simp <;> with_reducible rfl))
      simp only [List.getElem_toArray, List.getElem_cons_succ, List.getElem_cons_zero, Act.put, List.setIfInBounds_toArray, List.set_cons_zero, List.set_cons_succ]
      refine wpAnyH_take (i := 6) (v := ?_) rfl (by kernel_rfl) (by kernel_rfl) (by kernel_rfl) (fun _ _ _ h => h) (Or.inl ⟨by rfl, ?_⟩) (by assumption) ?_
      rotate_left
      (focus (intro w0 hSw; (try dsimp only at hSw); go_simp <;> with_reducible rfl))
      simp only [List.getElem_toArray, List.getElem_cons_succ, List.getElem_cons_zero, Act.put, List.setIfInBounds_toArray, List.set_cons_zero, List.set_cons_succ]
      refine wpAnyH_take (i := 7) (v := ?_) rfl (by kernel_rfl) (by kernel_rfl) (by kernel_rfl) (fun _ _ _ h => h) (Or.inl ⟨by rfl, ?_⟩) (by assumption) ?_
      rotate_left
      (focus (intro w0 hSw; (try dsimp only at hSw); go_simp <;> with_reducible rfl))
      simp only [List.getElem_toArray, List.getElem_cons_succ, List.getElem_cons_zero, Act.put, List.setIfInBounds_toArray, List.set_cons_zero, List.set_cons_succ]
      refine wpAnyH_ready (rs := [0, 8]) (by kernel_rfl) (by simp) ?_
      refine AllReadyH.cons (o := _) rfl (fun K hK => ?_) ?_
      · go_simp
        refine hK.out _ _ ?_ (fun hHeld2 => ?_)
        · ((try dsimp only); (refine ⟨?_, ?_, ?_, ?_, ?_, ?_, ?_⟩ <;> repeat (with_reducible first | assumption | refine kCd ?_)))
        clear hK K
        try simp only [Act.put, List.setIfInBounds_toArray, List.set_cons_zero, List.set_cons_succ]
        refine wpAnyH_ready (rs := [8]) (by kernel_rfl) (by simp) ?_
        refine AllReadyH.cons (o := _) rfl (fun K hK => ?_) ?_
        rotate_left
        exact AllReadyH.nil
        go_simp
        go_at_call 35
        with_reducible refine (CM.out _ (by repeat (with_reducible first | assumption | exact Below.refl _ _ | refine Below.drew ?_ | refine kBb (by assumption) ?_))).mono ?_
        rintro e w6 ⟨s8, x8, n8, c8, d8, y8, m8, e8, g8, rfl, hb6, H8⟩
        have B6 : Below w5.heap.size w5 w6 := (by repeat (with_reducible first | assumption | exact Below.refl _ _ | refine Below.drew ?_ | refine kBb (by assumption) ?_))
        have S6 := HS.out.below B6
        obtain ⟨_, v0, v1, v2, vf6⟩ := id S6
        (try go_wp2_with fail)
        refine hK.out _ _ ?_ (fun hHeld3 => ?_)
        · ((try dsimp only); (refine ⟨?_, ?_, ?_, ?_, ?_, ?_, ?_⟩ <;> repeat (with_reducible first | assumption | refine kCb B6 ?_)))
        clear hK K
        try simp only [Act.put, List.setIfInBounds_toArray, List.set_cons_zero, List.set_cons_succ]
        refine wpAnyH_ready (rs := [9]) (by kernel_rfl) (by simp) ?_
        refine AllReadyH.cons (o := _) rfl (fun K hK => ?_) ?_
        rotate_left
        exact AllReadyH.nil
        go_simp
        go_at_call 33
        with_reducible refine (CA.out _ s8 x8 n8 c8 d8 y8 m8 e8 g8 (by repeat (with_reducible first | assumption | exact Below.refl _ _ | refine Below.drew ?_ | refine kBb (by assumption) ?_)) ⟨H8.out.1, H8.out.2⟩).mono ?_
        rintro e w7 ⟨s9, x9, n9, c9, d9, y9, m9, e9, g9, rfl, hb7, H9⟩
        have B7 : Below w5.heap.size w5 w7 := (by repeat (with_reducible first | assumption | exact Below.refl _ _ | refine Below.drew ?_ | refine kBb (by assumption) ?_))
        have S7 := HS.out.below B7
        have O7 := HO.out.below B7
        obtain ⟨_, t0, t1, t2, tf7⟩ := id S7
        (try go_wp2_with fail)
        refine hK.out _ _ ?_ (fun hHeld4 => ?_)
        · ((try dsimp only); (refine ⟨?_, ?_, ?_, ?_, ?_, ?_, ?_⟩ <;> repeat (with_reducible first | assumption | refine kCb B7 ?_)))
        clear hK K
        try simp only [Act.put, List.setIfInBounds_toArray, List.set_cons_zero, List.set_cons_succ]
        refine wpAnyH_ready (rs := [10]) (by kernel_rfl) (by simp) ?_
        refine AllReadyH.cons (o := _) rfl (fun K hK => ?_) ?_
        rotate_left
        exact AllReadyH.nil
        go_simp
        refine hK.out _ _ ?_ (fun hHeld9 => ?_)
        · ((try dsimp only); (refine ⟨?_, ?_, ?_, ?_, ?_, ?_, ?_⟩ <;> repeat (with_reducible first | assumption | refine kCs (by simp only [ne_eq]; omega) ?_ | refine kCb B7 ?_)))
        clear hK K
        try simp only [Act.put, List.setIfInBounds_toArray, List.set_cons_zero, List.set_cons_succ]
        refine wpAnyH_done (by kernel_rfl) ?_ _
        have R1 := hid (And.intro (S7.st (s1 := s9) (x1 := x9) (n1 := n9) (c1 := c9) (y1 := y9) (m1 := m9) (d1 := e9)) (And.intro (S7.qn (u0 := .bool s9) (u1 := .slice x9 n9 c9) (u2 := .slice y9 m9 e9) H9.out.2) (And.intro (O7.far3 (u0 := .bool s9) (u1 := .slice x9 n9 c9) (u2 := .slice y9 m9 e9) (show B ≠ w.heap.size by omega)) (below_st (B := B) (u0 := .bool s9) (u1 := .slice x9 n9 c9) (u2 := .slice y9 m9 e9) (HB.out.trans (B7.mono HB.out.size)) (by omega)))))
        have L9 := hid H9.out.1
        clear hHeld a0 a1 a2 a3 p0 p1 p2 u0 u1 u2 uf t0 t1 t2 tf7 CM CA S7 O7 B7 H8 H9 HS HO HQ HR1 HR2 HB
        generalize ((w7.setCell ⟨B, 0, none⟩ (.bool s9)).setCell ⟨B, 1, none⟩ (.slice x9 n9 c9)).setCell ⟨B, 2, none⟩ (.slice y9 m9 e9) = w9 at *
        go_wp2
        go_roundw
        case rel => exact ⟨i + 1, acc + q * r, s9, x9, n9, c9, d9, y9, m9, e9, g9, by omega, by go_num, R1.out.2.2.2, R1.out.1, R1.out.2.2.1, ⟨L9.out, R1.out.2.1⟩, HD.out⟩
        case measure => simp [intOf]; omega
      refine AllReadyH.cons (o := _) rfl (fun K hK => ?_) ?_
      · go_simp
        go_at_call 35
        with_reducible refine (CM.out _ (by repeat (with_reducible first | assumption | exact Below.refl _ _ | refine Below.drew ?_ | refine kBb (by assumption) ?_))).mono ?_
        rintro e w6 ⟨s8, x8, n8, c8, d8, y8, m8, e8, g8, rfl, hb6, H8⟩
        have B6 : Below w5.heap.size w5 w6 := (by repeat (with_reducible first | assumption | exact Below.refl _ _ | refine Below.drew ?_ | refine kBb (by assumption) ?_))
        have S6 := HS.out.below B6
        obtain ⟨_, v0, v1, v2, vf6⟩ := id S6
        (try go_wp2_with fail)
        refine hK.out _ _ ?_ (fun hHeld3 => ?_)
        · ((try dsimp only); (refine ⟨?_, ?_, ?_, ?_, ?_, ?_, ?_⟩ <;> repeat (with_reducible first | assumption | refine kCb B6 ?_)))
        clear hK K
        try simp only [Act.put, List.setIfInBounds_toArray, List.set_cons_zero, List.set_cons_succ]
        refine wpAnyH_ready (rs := [0]) (by kernel_rfl) (by simp) ?_
        refine AllReadyH.cons (o := _) rfl (fun K hK => ?_) ?_
        rotate_left
        exact AllReadyH.nil
        go_simp
        refine hK.out _ _ ?_ (fun hHeld2 => ?_)
        · ((try dsimp only); (refine ⟨?_, ?_, ?_, ?_, ?_, ?_, ?_⟩ <;> repeat (with_reducible first | assumption | refine kCb B6 ?_)))
        clear hK K
        try simp only [Act.put, List.setIfInBounds_toArray, List.set_cons_zero, List.set_cons_succ]
        refine wpAnyH_ready (rs := [9]) (by kernel_rfl) (by simp) ?_
        refine AllReadyH.cons (o := _) rfl (fun K hK => ?_) ?_
        rotate_left
        exact AllReadyH.nil
        go_simp
        go_at_call 33
        with_reducible refine (CA.out _ s8 x8 n8 c8 d8 y8 m8 e8 g8 (by repeat (with_reducible first | assumption | exact Below.refl _ _ | refine Below.drew ?_ | refine kBb (by assumption) ?_)) ⟨H8.out.1, H8.out.2⟩).mono ?_
        rintro e w7 ⟨s9, x9, n9, c9, d9, y9, m9, e9, g9, rfl, hb7, H9⟩
        have B7 : Below w5.heap.size w5 w7 := (by repeat (with_reducible first | assumption | exact Below.refl _ _ | refine Below.drew ?_ | refine kBb (by assumption) ?_))
        have S7 := HS.out.below B7
        have O7 := HO.out.below B7
        obtain ⟨_, t0, t1, t2, tf7⟩ := id S7
        (try go_wp2_with fail)
        refine hK.out _ _ ?_ (fun hHeld4 => ?_)
        · ((try dsimp only); (refine ⟨?_, ?_, ?_, ?_, ?_, ?_, ?_⟩ <;> repeat (with_reducible first | assumption | refine kCb B7 ?_)))
        clear hK K
        try simp only [Act.put, List.setIfInBounds_toArray, List.set_cons_zero, List.set_cons_succ]
        refine wpAnyH_ready (rs := [10]) (by kernel_rfl) (by simp) ?_
        refine AllReadyH.cons (o := _) rfl (fun K hK => ?_) ?_
        rotate_left
        exact AllReadyH.nil
        go_simp
        refine hK.out _ _ ?_ (fun hHeld9 => ?_)
        · ((try dsimp only); (refine ⟨?_, ?_, ?_, ?_, ?_, ?_, ?_⟩ <;> repeat (with_reducible first | assumption | refine kCs (by simp only [ne_eq]; omega) ?_ | refine kCb B7 ?_)))
        clear hK K
        try simp only [Act.put, List.setIfInBounds_toArray, List.set_cons_zero, List.set_cons_succ]
        refine wpAnyH_done (by kernel_rfl) ?_ _
        have R1 := hid (And.intro (S7.st (s1 := s9) (x1 := x9) (n1 := n9) (c1 := c9) (y1 := y9) (m1 := m9) (d1 := e9)) (And.intro (S7.qn (u0 := .bool s9) (u1 := .slice x9 n9 c9) (u2 := .slice y9 m9 e9) H9.out.2) (And.intro (O7.far3 (u0 := .bool s9) (u1 := .slice x9 n9 c9) (u2 := .slice y9 m9 e9) (show B ≠ w.heap.size by omega)) (below_st (B := B) (u0 := .bool s9) (u1 := .slice x9 n9 c9) (u2 := .slice y9 m9 e9) (HB.out.trans (B7.mono HB.out.size)) (by omega)))))
        have L9 := hid H9.out.1
        clear hHeld a0 a1 a2 a3 p0 p1 p2 u0 u1 u2 uf t0 t1 t2 tf7 CM CA S7 O7 B7 H8 H9 HS HO HQ HR1 HR2 HB
        generalize ((w7.setCell ⟨B, 0, none⟩ (.bool s9)).setCell ⟨B, 1, none⟩ (.slice x9 n9 c9)).setCell ⟨B, 2, none⟩ (.slice y9 m9 e9) = w9 at *
        go_wp2
        go_roundw
        case rel => exact ⟨i + 1, acc + q * r, s9, x9, n9, c9, d9, y9, m9, e9, g9, by omega, by go_num, R1.out.2.2.2, R1.out.1, R1.out.2.2.1, ⟨L9.out, R1.out.2.1⟩, HD.out⟩
        case measure => simp [intOf]; omega
      exact AllReadyH.nil
    · have e1 : i = k := by omega
      have HF : Hid (acc = dsum p v 0) := by
        show _ = _
        rw [← HE.out, e1, ← lv, List.drop_length]; rfl
      have i2 : ¬ (((i : Nat) : Int) < ((k : Nat) : Int)) := by omega
      have hKi : 4 + i * (2 * L + 2) ≤ 4 + 64 * (2 * L + 2) := by
        have h1 : i * (2 * L + 2) ≤ 64 * (2 * L + 2) := Nat.mul_le_mul_right _ (by omega)
        omega
      obtain ⟨hq1, hq2⟩ := HQ.out.2.len HQ.out.1
      obtain ⟨sz, u0, u1, u2, uf⟩ := HS.out
      obtain ⟨hz, z0, z1, z2, zf⟩ := HO.out
      clear e1 HE
      go_wp2
      exact bodyPost_ret (v := .agg #[.bool s, .slice x n c, .slice y m e]) (by simp [results, Tryz.results60, go_sem, z0, z1, z2]) rfl ⟨s, x, n, c, d, y, m, e, g, rfl, below_st HB.out (by omega), by omega, by omega, by rw [← HF.out]; exact HO.out.qn HQ.out.2⟩
end Go.Proofs.YthofcgpghbaccaaGreat
namespace Go.Proofs.YthofcgpghbaccaaGreat
open Go.RowKit

/-- The values of a list of numbers, where all are in form. -/
def FvQ (L : Nat) (w : World) (ax : Option Addr) (k : Nat) (X : Nat → Nm) (p : List Rat) : Prop :=
  afB k X = true → p.length = k ∧ Rf L w ax p ∧ ∀ j, j < k → ∃ q, p[j]? = some q ∧ Rn L w (X j).s (X j).x (X j).n (X j).c (X j).f (X j).y (X j).m (X j).d (X j).g q
theorem fvq_ex {L : Nat} {w : World} {ax : Option Addr} {k : Nat} {X : Nat → Nm} (h : Rl w ax k X) (hl : ∀ j, j < k → (X j).n ≤ L ∧ (X j).m ≤ L) : ∃ p, FvQ L w ax k X p := by
  by_cases hf : afB k X = true
  · obtain ⟨p, h1, h2, h3⟩ := rl_rf h hf hl
    exact ⟨p, fun _ => ⟨h1, h2, h3⟩⟩
  · exact ⟨[], fun h' => absurd h' hf⟩
theorem FvQ.below {L w w' ax k X p} (h : FvQ L w ax k X p) (hb : Below w.heap.size w w') : FvQ L w' ax k X p := fun hf => by
  obtain ⟨h1, h2, h3⟩ := h hf
  exact ⟨h1, h2.below hb, fun j hj => by obtain ⟨q, a, b⟩ := h3 j hj; exact ⟨q, a, b.below hb⟩⟩

set_option maxRecDepth 100000 in
set_option maxHeartbeats 4000000 in
theorem docDot_c {w : World} {L : Nat} {av ax : Option Addr} {k kx cv cx : Nat} {col : Nat → Int} {T X : Nat → Nm} {v : List (Int × Rat)} {p : List Rat}
    (hv : Tl w av k col T) (hx : Rl w ax kx X) (hk : k ≤ 10000) (hkx : kx ≤ 10000) (hl : ∀ j, j < k → (T j).n ≤ 1000 ∧ (T j).m ≤ 1000) (hlx : ∀ j, j < kx → (X j).n ≤ 1000 ∧ (X j).m ≤ 1000) (hL : L ≤ 100) (fv : FvT L w av k col T v) (fx : FvQ L w ax kx X p) :
    Calls Tryz.prog 29 #[.slice av k cv, .slice ax kx cx] w fun e w' => ∃ s x n c y m d er, e = .returned (.tuple #[.agg #[.bool s, .slice x n c, .slice y m d], .int .i64 er]) ∧ Below w.heap.size w w' ∧ OT kx (tfB k col T) (afB kx X) (decide (k = 0) || decide (col (k - 1) < (kx : Int))) (4 * (4 + 64 * (2 * L + 2))) w' s x n c y m d er (dsum p v 0) := by
  have HV := hid hv; have HX := hid hx; have FV := hid fv; have FX := hid fx
  have h2 := ob_new w 25
  have h3 := below_alloc (Below.refl w.heap.size w) (.cells #[.bool false, .slice none 0 0, .slice none 0 0] 25)
  clear hv hx fv fx
  by_cases h64 : 64 < kx
  · have i1 : (64 : Int) < ((kx : Nat) : Int) := by omega
    have HB3 := hid h3
    obtain ⟨hz, z0, z1, z2, zf⟩ := h2
    clear h3
    go_enter Tryz.func29, Tryz.ntmps29
    go_wp2
    exact bodyPost_ret (v := .tuple #[.agg #[.bool false, .slice none 0 0, .slice none 0 0], .int .i64 2]) (by simp [results, Tryz.results29, go_sem, z0, z1, z2]) rfl ⟨false, none, 0, 0, none, 0, 0, 2, rfl, HB3.out, .inl ⟨.inl h64, .inl ⟨h64, rfl⟩, rfl, rfl, rfl, rfl, rfl, rfl, rfl⟩⟩
  have i1 : ¬ ((64 : Int) < ((kx : Nat) : Int)) := by omega
  go_enter Tryz.func29, Tryz.ntmps29
  go_wp2_with fail
  generalize w.alloc (.cells #[.bool false, .slice none 0 0, .slice none 0 0] 25) = w0 at *
  refine (fForm_c (cap := cv) (HV.out.below h3) hk hl).mono ?_
  rintro e w1 ⟨rfl, hb1⟩
  have OB := hid (h2.below hb1); have HB := hid (h3.trans (hb1.mono h3.size))
  clear h2 h3 hb1
  cases hf : tfB k col T
  · have HF := hid hf
    obtain ⟨hz, z0, z1, z2, zf⟩ := OB.out
    clear hf
    go_wp2
    exact bodyPost_ret (v := .tuple #[.agg #[.bool false, .slice none 0 0, .slice none 0 0], .int .i64 3]) (by simp [results, Tryz.results29, go_sem, z0, z1, z2]) rfl ⟨false, none, 0, 0, none, 0, 0, 3, rfl, below_st HB.out (by omega), .inl ⟨.inr (by rw [HF.out]; rfl), .inr (.inl ⟨by omega, by rw [HF.out]; rfl, rfl⟩), rfl, rfl, rfl, rfl, rfl, rfl, rfl⟩⟩
  have HF := hid hf
  clear hf
  go_wp2_with fail
  refine (forms_c (cap := cx) (HX.out.below HB.out) hkx hlx).mono ?_
  rintro e w2 ⟨rfl, hb⟩
  replace OB := hid (OB.out.below hb); replace HB := hid (HB.out.trans (hb.mono HB.out.size))
  clear hb
  cases hfx : afB kx X
  · have HFX := hid hfx
    obtain ⟨hz, z0, z1, z2, zf⟩ := OB.out
    clear hfx
    go_wp2
    exact bodyPost_ret (v := .tuple #[.agg #[.bool false, .slice none 0 0, .slice none 0 0], .int .i64 3]) (by simp [results, Tryz.results29, go_sem, z0, z1, z2]) rfl ⟨false, none, 0, 0, none, 0, 0, 3, rfl, below_st HB.out (by omega), .inl ⟨.inr (by rw [HFX.out, Bool.and_false]; rfl), .inr (.inl ⟨by omega, by rw [HFX.out, Bool.and_false], rfl⟩), rfl, rfl, rfl, rfl, rfl, rfl, rfl⟩⟩
  have HFX := hid hfx
  clear hfx
  obtain ⟨lv, tv, vv, hq⟩ := (FV.out.below HB.out) HF.out
  obtain ⟨lp, tx, hqx⟩ := (FX.out.below HB.out) HFX.out
  have HQ0 := hid hq; have HQX := hid hqx; have VV := hid vv; have TV := hid tv
  clear FV FX hq hqx vv tv tx
  by_cases hbad : 0 < k ∧ (kx : Int) ≤ col (k - 1)
  · obtain ⟨r, rfl⟩ : ∃ r, k = r + 1 := ⟨k - 1, by omega⟩
    obtain ⟨b, o, rfl, hc, _⟩ := (HV.out.below HB.out) r (by omega)
    have x0 := hc.x0
    obtain ⟨y, hy⟩ : ∃ y, col r = y := ⟨_, rfl⟩
    have hb2 := hbad.2
    rw [Nat.add_sub_cancel, hy] at hb2
    rw [hy] at x0
    have HFB : Hid ((decide (r + 1 = 0) || decide (col (r + 1 - 1) < (kx : Int))) = false) := by
      show _ = _
      rw [Nat.add_sub_cancel, hy]; simp; omega
    have HY := hid hy; have HBd := hid hbad
    obtain ⟨hz, z0, z1, z2, zf⟩ := OB.out
    clear hc hy hbad
    go_wp2
    exact bodyPost_ret (v := .tuple #[.agg #[.bool false, .slice none 0 0, .slice none 0 0], .int .i64 7]) (by simp [results, Tryz.results29, go_sem, z0, z1, z2]) rfl ⟨false, none, 0, 0, none, 0, 0, 7, rfl, below_st HB.out (by omega), .inl ⟨.inr (by rw [HFB.out, Bool.and_false]), .inr (.inr ⟨by omega, HF.out, HFX.out, HFB.out, rfl⟩), rfl, rfl, rfl, rfl, rfl, rfl, rfl⟩⟩
  have hfb : (decide (k = 0) || decide (col (k - 1) < (kx : Int))) = true := by
    by_cases h0 : k = 0
    · simp [h0]
    · have : col (k - 1) < (kx : Int) := by
        by_cases h1 : col (k - 1) < (kx : Int)
        · exact h1
        · exact absurd ⟨by omega, by omega⟩ hbad
      simp [this]
  have HBe := hid (bel_of (HV.out.below HB.out) TV.out lv VV.out hfb); have HFB := hid hfb
  have key : ∀ {P : Prop}, (k = 0 → P) → ((∃ r b o y, k = r + 1 ∧ av = some ⟨b, o, none⟩ ∧ w2.cell? ⟨b, o + r * 4, none⟩ = some (.int .i64 y) ∧ y < (kx : Int)) → P) → P := fun h0 h1 => by
    by_cases hk0 : k = 0
    · exact h0 hk0
    · obtain ⟨b, o, e, hc, _⟩ := (HV.out.below HB.out) (k - 1) (by omega)
      exact h1 ⟨k - 1, b, o, col (k - 1), by omega, e, hc.x0, by
        by_cases h1 : col (k - 1) < (kx : Int)
        · exact h1
        · exact absurd ⟨by omega, by omega⟩ hbad⟩
  clear hbad hfb
  go_upto_region 5 with fail
  go_cut [21] from 22 to 36 (fun u wx => u = .bool false ∧ wx = w2)
  case first =>
    clear HQ0 HQX HV HX TV
    refine key (fun h0 => ?_) (fun ⟨r, b, o, y, hkr, hav, hx, hy⟩ => ?_)
    · subst h0
      clear key
      go_wp2_with fail
      go_meet
      exact ⟨rfl, rfl⟩
    · subst hkr; subst hav
      have i1 : (0 : Int) ≤ ((r : Nat) : Int) := by omega
      have i2 : ((r : Nat) : Int) < ((r : Nat) : Int) + 1 := by omega
      have i3 : ¬ ((kx : Int) ≤ y) := by omega
      clear key
      go_wp2_with fail
      go_meet
      exact ⟨rfl, rfl⟩
  case rest =>
    clear key
    obtain ⟨rfl, rfl⟩ := hcut
    have hvl := vf_len_le VV.out (vb_of (fun j a q e => (HBe.out j a q e).2))
    go_wp2_with fail
    refine (fromT_c (L := L) (cap := cv) (HV.out.below HB.out) hk (by omega) lv HQ0.out).mono ?_
    rintro e w3 ⟨aw, cw, rfl, hb, hcw, TQ⟩
    replace OB := hid (OB.out.below hb); have HB3 := hid (HB.out.trans (hb.mono HB.out.size))
    have HQX3 : Hid (∀ j, j < kx → ∃ q, p[j]? = some q ∧ Rn L w3 (X j).s (X j).x (X j).n (X j).c (X j).f (X j).y (X j).m (X j).d (X j).g q) := fun j hj => by obtain ⟨q, a, b⟩ := HQX.out j hj; exact ⟨q, a, b.below hb⟩
    clear hb HQ0 HQX HB
    go_wp2_with fail
    refine (froms_c (L := L) (cap := cx) (HX.out.below HB3.out) hkx (by omega) lp HQX3.out).mono ?_
    rintro e w4 ⟨ay, cy, rfl, hb, hcy, RQ⟩
    replace OB := hid (OB.out.below hb); have HB4 := hid (HB3.out.trans (hb.mono HB3.out.size)); replace TQ := hid (TQ.out.below hb)
    clear hb HQX3 HB3
    go_wp2_with fail
    refine (fDot_c (cv := cw) (cx := cy) TQ.out RQ.out lv lp (by omega) hL HBe.out).mono ?_
    rintro e w5 ⟨s, x, n, c, d, y, m, e', g, rfl, hb, hl1, hl2, hqd⟩
    replace OB := hid (OB.out.below hb); have HB5 := hid (HB4.out.trans (hb.mono HB4.out.size)); have HQ := hid hqd
    clear hb hqd TQ RQ HB4
    go_wp2_with fail
    refine (qToR_c HQ.out (by omega) (by omega)).mono ?_
    rintro e w6 ⟨z4, k4, c4, f4, z5, k5, c5, f5, rfl, hb, R4⟩
    replace OB := hid (OB.out.below hb); have HB6 := hid (HB5.out.trans (hb.mono HB5.out.size))
    obtain ⟨hz, z0, z1, z2, zf⟩ := OB.out
    clear hb HQ HB5
    go_wp2
    exact bodyPost_ret (v := .tuple #[.agg #[.bool s, .slice z4 k4 c4, .slice z5 k5 c5], .int .i64 0]) (by simp [results, Tryz.results29, go_sem, z0, z1, z2]) rfl ⟨s, z4, k4, c4, z5, k5, c5, 0, rfl, below_st HB6.out (by omega), .inr ⟨by omega, HF.out, HFX.out, HFB.out, rfl, f4, f5, OB.out.rn (R4.out.mono (by omega))⟩⟩
end Go.Proofs.YthofcgpghbaccaaGreat
namespace Go.Proofs.YthofcgpghbaccaaGreat
open Go.RowKit

theorem spr_snoc (q : Rat) : ∀ (p : List Rat) (i : Nat), spr (p ++ [q]) i = spr p i ++ nz ((i + p.length : Nat) : Int) q := by
  intro p
  induction p with
  | nil => intro i; simp [spr]
  | cons x p ih =>
    intro i
    show nz i x ++ spr (p ++ [q]) (i + 1) = (nz i x ++ spr p (i + 1)) ++ _
    rw [ih, List.append_assoc, show i + 1 + p.length = i + (x :: p).length by simp only [List.length_cons]; omega]
theorem spr_take {p : List Rat} {i : Nat} {q : Rat} (h : p[i]? = some q) : spr (p.take (i + 1)) 0 = spr (p.take i) 0 ++ nz (i : Int) q := by
  have hlt : i < p.length := (List.getElem?_eq_some_iff.1 h).1
  rw [List.take_add_one, h]
  show spr (p.take i ++ [q]) 0 = _
  rw [spr_snoc, List.length_take, show 0 + min i p.length = i by omega]
/-- Terms as they lie, by their values. -/
def Tvl (L : Nat) (w : World) (l : List (Int × Nm)) (vs : List (Int × Rat)) : Prop := l.length = vs.length ∧ ∀ (j : Nat) (a : Int) (q : Rat), vs[j]? = some (a, q) → ∃ t : Nm, l[j]? = some (a, t) ∧ Rn L w t.s t.x t.n t.c t.f t.y t.m t.d t.g q
theorem Tvl.below {L w w' l vs} (h : Tvl L w l vs) (hb : Below w.heap.size w w') : Tvl L w' l vs := ⟨h.1, fun j a q hj => by obtain ⟨t, h1, h2⟩ := h.2 j a q hj; exact ⟨t, h1, h2.below hb⟩⟩
theorem Tvl.kp {L w w' l vs} (h : Tvl L w l vs) (hk : Kp w w') : Tvl L w' l vs := ⟨h.1, fun j a q hj => by obtain ⟨t, h1, h2⟩ := h.2 j a q hj; exact ⟨t, h1, h2.kp hk⟩⟩
theorem Tvl.snoc {L w l vs z t q} (h : Tvl L w l vs) (hr : Rn L w t.s t.x t.n t.c t.f t.y t.m t.d t.g q) : Tvl L w (l ++ [(z, t)]) (vs ++ [(z, q)]) := by
  refine ⟨by simp [h.1], fun j a q' hj => ?_⟩
  by_cases hlt : j < vs.length
  · rw [List.getElem?_append_left hlt] at hj
    obtain ⟨t', h1, h2⟩ := h.2 j a q' hj
    exact ⟨t', by rw [List.getElem?_append_left (by rw [h.1]; exact hlt)]; exact h1, h2⟩
  · rw [List.getElem?_append_right (by omega)] at hj
    have hj0 : j - vs.length = 0 := by
      have := (List.getElem?_eq_some_iff.1 hj).1
      simp at this; omega
    rw [hj0] at hj
    obtain ⟨rfl, rfl⟩ : z = a ∧ q = q' := by simpa using hj
    exact ⟨t, by rw [List.getElem?_append_right (by rw [h.1]; omega), h.1, hj0]; rfl, hr⟩
theorem tvl_tf {L : Nat} {base : Nat} {w : World} {ao : Option Addr} {cap : Nat} {l : List (Int × Nm)} {vs : List (Int × Rat)} (h : Tvl L w l vs) (hr : RowG 69 4 base w (.slice ao l.length cap) l.length (tcells l)) : Tf L w ao vs := fun j a q hj => by
  obtain ⟨t, h1, h2⟩ := h.2 j a q hj
  have hlt : j < l.length := (List.getElem?_eq_some_iff.1 h1).1
  rcases hr.2 with ⟨hv, h0⟩ | ⟨g, cap', cur, hv, _⟩
  · omega
  · cases hv
    have hc : ∀ i, i < 4 → w.cell? ⟨g, 0 + j * 4 + i, none⟩ = (tcell a t)[i]? := fun i hi => by
      rw [Nat.zero_add]
      have e1 := tcells_get h1 i hi
      obtain ⟨u, hu⟩ : ∃ u, (tcell a t)[i]? = some u := ⟨_, List.getElem?_eq_getElem (by show i < 4; exact hi)⟩
      rw [hu] at e1 ⊢
      exact hr.cells e1
    exact ⟨g, 0, t, rfl, ⟨hc 0 (by decide), hc 1 (by decide), hc 2 (by decide), hc 3 (by decide)⟩, h2⟩
/-- What DocSparse answers. -/
def OS2 (k : Nat) (pf : Bool) (L : Nat) (w' : World) (ao : Option Addr) (n : Nat) (er : Int) (vs : List (Int × Rat)) : Prop :=
  64 < k ∧ er = 2 ∧ n = 0 ∨ k ≤ 64 ∧ pf = false ∧ er = 3 ∧ n = 0 ∨ k ≤ 64 ∧ pf = true ∧ er = 0 ∧ n = vs.length ∧ Tf L w' ao vs

set_option maxRecDepth 100000 in
set_option maxHeartbeats 4000000 in
theorem docSparse_c {w : World} {L : Nat} {ax : Option Addr} {k cx : Nat} {X : Nat → Nm} {p : List Rat}
    (hx : Rl w ax k X) (hk : k ≤ 10000) (hl : ∀ j, j < k → (X j).n ≤ 1000 ∧ (X j).m ≤ 1000) (fx : FvQ L w ax k X p) :
    Calls Tryz.prog 31 #[.slice ax k cx] w fun e w' => ∃ ao n cap er, e = .returned (.tuple #[.slice ao n cap, .int .i64 er]) ∧ Below w.heap.size w w' ∧ OS2 k (afB k X) L w' ao n er (spr p 0) := by
  have HX := hid hx; have FX := hid fx
  clear hx fx
  by_cases h64 : 64 < k
  · have i1 : (64 : Int) < ((k : Nat) : Int) := by omega
    go_enter Tryz.func31, Tryz.ntmps31
    go_wp2
    go_ret2
    exact ⟨none, 0, 0, 2, rfl, Below.refl _ _, .inl ⟨h64, rfl, rfl⟩⟩
  have i1 : ¬ ((64 : Int) < ((k : Nat) : Int)) := by omega
  go_enter Tryz.func31, Tryz.ntmps31
  go_wp2_with fail
  refine (forms_c (cap := cx) HX.out hk hl).mono ?_
  rintro e w1 ⟨rfl, hb1⟩
  have HB1 := hid hb1
  clear hb1
  cases hf : afB k X
  · have HF := hid hf
    clear hf
    go_wp2
    go_ret2
    exact ⟨none, 0, 0, 3, rfl, HB1.out, .inr (.inl ⟨by omega, HF.out, rfl, rfl⟩)⟩
  obtain ⟨lp, _, hq⟩ := FX.out hf
  have HQ0 := hid hq; have HF := hid hf
  clear FX hf hq
  go_wp2_with fail
  go_loopw [4, 15] (fun ov t wr => ∃ (i : Nat) (l : List (Int × Nm)), i ≤ k ∧ t = .int .i64 i ∧ l.length ≤ i ∧ Hid (Below w.heap.size w wr) ∧ Hid (RowG 69 4 w.heap.size wr ov l.length (tcells l)) ∧ Hid (Tvl L wr l (spr (p.take i) 0))) (fun _ t _ => k - (intOf t).toNat)
  case atStart => exact ⟨0, [], by omega, rfl, by simp, HB1, rowG_nil _ _ _ _, ⟨rfl, fun j a q hj => by simp [spr] at hj⟩⟩
  case round =>
    clear HB1
    obtain ⟨i, l, hi, rfl, hll, HB, HRow, HT⟩ := hrel
    by_cases hlt : i < k
    · obtain ⟨b, o, hao, hc, hn, hn1, hn2⟩ := (HX.out.below HB.out) i hlt
      subst hao
      obtain ⟨hl1, hl2⟩ := hl i hlt
      obtain ⟨q, hpq, hrn⟩ := HQ0.out i hlt
      obtain ⟨⟨s, x, n, c, f, y, m, d, g⟩, hTi⟩ : ∃ t, X i = t := ⟨_, rfl⟩
      rw [hTi] at hc hn hrn hl1 hl2
      obtain ⟨x0, x1, x2⟩ := hc
      replace x0 : wr.cell? ⟨b, o + i * 3, none⟩ = some (.bool s) := x0
      replace x1 : wr.cell? ⟨b, o + i * 3 + 1, none⟩ = some (.slice x n c) := x1
      replace x2 : wr.cell? ⟨b, o + i * 3 + 2, none⟩ = some (.slice y m d) := x2
      replace hrn : Rn L w s x n c f y m d g q := hrn
      replace hn : Rw wr x n c f y m d g := hn
      replace hl1 : n ≤ 1000 := hl1
      replace hl2 : m ≤ 1000 := hl2
      have i2 : ((i : Nat) : Int) < ((k : Nat) : Int) := by omega
      have hb5 := below_alloc (Below.refl wr.heap.size wr) (.cells #[.bool s, .slice x n c, .slice y m d] 25)
      have HN := hid (hn.below hb5); have HRow5 := hid (HRow.out.below hb5); have HB5 := hid (HB.out.trans (hb5.mono HB.out.size)); have HT5 := hid (HT.out.below hb5); have HRn := hid hrn; have HPq := hid hpq
      by_cases hn0 : n = 0
      · have HV : Hid (spr (p.take (i + 1)) 0 = spr (p.take i) 0) := by
          show _ = _
          have e0 := hrn.zero_iff.1 hn0
          rw [spr_take hpq, e0]; simp [nz]
        have hnd : ¬ ((0 : Int) < ((n : Nat) : Int)) := by omega
        clear hn hTi hb5 hn1 hn2 hrn hpq HN HRn HPq HB HRow HT hn0
        go_wp2
        go_roundw
        case rel => exact ⟨i + 1, l, by omega, by go_num, by omega, HB5.out, HRow5.out, by rw [HV.out]; exact HT5.out⟩
        case measure => simp [intOf]; omega
      · have HV : Hid (spr (p.take (i + 1)) 0 = spr (p.take i) 0 ++ [((i : Int), q)]) := by
          show _ = _
          have e0 : q ≠ 0 := fun e => hn0 (hrn.zero_iff.2 e)
          rw [spr_take hpq]; unfold nz; rw [if_neg e0]
        have hnd : (0 : Int) < ((n : Nat) : Int) := by omega
        clear hn hTi hb5 hn1 hn2 hrn hpq HPq HB HRow HT hn0
        go_wp2_with fail
        clear x0 x1 x2
        generalize wr.alloc (.cells #[.bool s, .slice x n c, .slice y m d] 25) = w5 at *
        refine (qTwin_c (s := s) HN.out hl1 hl2).mono ?_
        rintro e w6 ⟨z6, c6, z7, c7, rfl, hb6, HQ⟩
        have HB6 := hid (HB5.out.trans (hb6.mono HB5.out.size)); have HRow6 := hid (HRow5.out.below hb6); have HT6 := hid (HT5.out.below hb6)
        have HR6 : Hid (Rn L w6 s z6 n c6 f z7 m c7 g q) := Rn.sn (t := ⟨s, x, n, c, f, y, m, d, g⟩) (t' := ⟨s, z6, n, c6, f, z7, m, c7, g⟩) HRn.out ⟨rfl, rfl, rfl, rfl, rfl⟩ HQ.out
        have hsz := HB6.out.size
        clear hb6 HB5 HRow5 HT5 HN HQ HRn
        go_wp2_with (at_builtin; go_must (refine wpList_append_one w6 rfl (.tmp 24) (.tmp 29) 22 rfl w.heap.size 69 64 4 (.agg #[.int .i64 0, .bool false, .slice none 0 0, .slice none 0 0]) Tryz.underlying22 Tryz.infoTerm rfl (by decide) nz4 u4 l.length (tcells l) rfl HRow6.out #[.int .i64 i, .bool s, .slice z6 n c6, .slice z7 m c7] rfl rfl (one4 _ _ _ _ _ _ _ _) (not4 _ _ _ _ _ _ _ _) ?p1 (by decide) hsz ?_))
        case p1 => omega
        intro g8 cap8 w8 hr8 hk8 hb8 hg8
        have HB8 := hid (hb8 w HB6.out (Nat.le_refl _))
        have HR8 : Hid (RowG 69 4 w.heap.size w8 (.slice (some ⟨g8, 0, none⟩) (l.length + 1) cap8) (l ++ [((i : Int), (⟨s, z6, n, c6, f, z7, m, c7, g⟩ : Nm))]).length (tcells (l ++ [((i : Int), (⟨s, z6, n, c6, f, z7, m, c7, g⟩ : Nm))]))) := by
          show RowG _ _ _ _ _ _ _
          rw [tcells_append, List.length_append]; exact hr8
        have HT8 := hid ((HT6.out.kp hk8).snoc (z := (i : Int)) (t := ⟨s, z6, n, c6, f, z7, m, c7, g⟩) (HR6.out.kp hk8))
        clear hr8 hk8 hb8 hg8 HRow6 HT6 HB6 HR6 hsz
        go_wp2
        go_roundw
        case rel => exact ⟨i + 1, _, by omega, by go_num, by simp; omega, HB8.out, HR8.out, by rw [HV.out]; exact HT8.out⟩
        case measure => simp [intOf]; omega
    · have e1 : i = k := by omega
      have i2 : ¬ (((i : Nat) : Int) < ((k : Nat) : Int)) := by omega
      obtain ⟨aw, cw, rfl⟩ := HRow.out.slice
      have HE : Hid (l.length = (spr p 0).length ∧ Tf L wr aw (spr p 0)) := by
        have h := HT.out
        rw [e1, ← lp, List.take_length] at h
        exact ⟨h.1, tvl_tf h HRow.out⟩
      clear e1
      go_wp2
      go_ret2
      exact ⟨aw, l.length, cw, 0, rfl, HB.out, .inr (.inr ⟨by omega, HF.out, rfl, HE.out.1, HE.out.2⟩)⟩
end Go.Proofs.YthofcgpghbaccaaGreat
namespace Go.Proofs.YthofcgpghbaccaaGreat
open Go.RowKit

theorem OT.below {kx fv fx fb L w w' s x n c y m d er q} (h : OT kx fv fx fb L w s x n c y m d er q) (hb : Below w.heap.size w w') : OT kx fv fx fb L w' s x n c y m d er q := by
  rcases h with h | ⟨h1, h2, h3, h4, h5, f, g, hr⟩
  · exact .inl h
  · exact .inr ⟨h1, h2, h3, h4, h5, f, g, hr.below hb⟩
theorem de_inj {kx fv fx fb er er'} (h : DE kx fv fx fb er) (h' : DE kx fv fx fb er') : er = er' := by
  rcases h with ⟨a1, rfl⟩ | ⟨a1, a2, rfl⟩ | ⟨a1, a2, a3, a4, rfl⟩ <;> rcases h' with ⟨b1, rfl⟩ | ⟨b1, b2, rfl⟩ | ⟨b1, b2, b3, b4, rfl⟩
  · rfl
  · omega
  · omega
  · omega
  · rfl
  · rw [b2, b3] at a2; cases a2
  · omega
  · rw [a2, a3] at b2; cases b2
  · rfl
theorem ot_same {kx fv fx fb L L' w s x n c y m d er s' x' n' c' y' m' d' er' q} (h1 : OT kx fv fx fb L w s x n c y m d er q) (h2 : OT kx fv fx fb L' w s' x' n' c' y' m' d' er' q) (hL : L ≤ 1048576) (hL' : L' ≤ 1048576) :
    er = er' ∧ Hid (∀ W, Below w.heap.size w W → Calls Tryz.prog 22 #[.agg #[.bool s, .slice x n c, .slice y m d], .agg #[.bool s', .slice x' n' c', .slice y' m' d']] W fun e w' => e = .returned (.bool true) ∧ Below W.heap.size W w') := by
  rcases h1 with ⟨a1, a2, rfl, rfl, rfl, rfl, rfl, rfl, rfl⟩ | ⟨a1, a2, a3, a4, rfl, f1, g1, r1⟩ <;>
  rcases h2 with ⟨b1, b2, rfl, rfl, rfl, rfl, rfl, rfl, rfl⟩ | ⟨b1, b2, b3, b4, rfl, f2, g2, r2⟩
  · exact ⟨de_inj a2 b2, fun W _ => sameNil_c W⟩
  · exfalso
    rcases a1 with a1 | a1
    · omega
    · rw [b2, b3, b4] at a1; cases a1
  · exfalso
    rcases b1 with b1 | b1
    · omega
    · rw [a2, a3, a4] at b1; cases b1
  · exact ⟨rfl, fun W hW => rSameEq_c (r1.below hW) (r2.below hW) hL hL'⟩
theorem OS2.below {k pf L w w' ao n er vs} (h : OS2 k pf L w ao n er vs) (hb : Below w.heap.size w w') : OS2 k pf L w' ao n er vs := by
  rcases h with h | h | ⟨h1, h2, h3, h4, h5⟩
  · exact .inl h
  · exact .inr (.inl h)
  · exact .inr (.inr ⟨h1, h2, h3, h4, h5.below hb⟩)
theorem OS.two {k pf L w ao n cap er vs} (h : OS k pf L w ao n cap er vs) : OS2 k pf L w ao n er vs := by
  rcases h with ⟨h1, h2, _, h4, _⟩ | ⟨h1, h2, h3, _, h5, _⟩ | ⟨h1, h2, h3, h4, _, _, _, h8⟩
  · exact .inl ⟨h1, h2, h4⟩
  · exact .inr (.inl ⟨h1, h2, h3, h5⟩)
  · exact .inr (.inr ⟨h1, h2, h3, h4, h8⟩)
theorem vSameNil_c {W : World} {a b : Option Addr} {ca cb : Nat} : Calls Tryz.prog 15 #[.slice a 0 ca, .slice b 0 cb] W fun e w' => e = .returned (.bool true) ∧ Below W.heap.size W w' :=
  vSameEq_c (L := 1) (L' := 1) (v := []) (Tf.nil _ _ _) (Tf.nil _ _ _) rfl (by decide) (by decide) (by decide)
theorem os_same {k pf L L' w ao n ca er ao' n' cb er' vs} (h1 : OS2 k pf L w ao n er vs) (h2 : OS2 k pf L' w ao' n' er' vs) (hvs : pf = true → vs.length ≤ 100000) (hL : L ≤ 1048576) (hL' : L' ≤ 1048576) :
    er = er' ∧ Hid (∀ W, Below w.heap.size w W → Calls Tryz.prog 15 #[.slice ao n ca, .slice ao' n' cb] W fun e w' => e = .returned (.bool true) ∧ Below W.heap.size W w') := by
  rcases h1 with ⟨a1, rfl, rfl⟩ | ⟨a1, a2, rfl, rfl⟩ | ⟨a1, a2, rfl, rfl, a5⟩ <;>
  rcases h2 with ⟨b1, rfl, rfl⟩ | ⟨b1, b2, rfl, rfl⟩ | ⟨b1, b2, rfl, rfl, b5⟩
  · exact ⟨rfl, fun W _ => vSameNil_c⟩
  · omega
  · omega
  · omega
  · exact ⟨rfl, fun W _ => vSameNil_c⟩
  · rw [a2] at b2; cases b2
  · omega
  · rw [a2] at b2; cases b2
  · exact ⟨rfl, fun W hW => vSameEq_c (a5.below hW) (b5.below hW) rfl (by have := hvs a2; omega) hL hL'⟩
theorem fvq_twin {L w w' ax aw k X X' p} (h : FvQ L w ax k X p) (ht : Rl w' aw k X') (hs : ∀ j, j < k → Sn (X j) (X' j)) : afB k X' = afB k X ∧ (afB k X' = true → p.length = k ∧ Rf L w' aw p) := by
  have he : afB k X' = afB k X := afr_sn (fun j _ hj => hs j (by omega))
  refine ⟨he, fun hf => ?_⟩
  rw [he] at hf
  obtain ⟨h1, _, h4⟩ := h hf
  refine ⟨h1, fun j q hj => ?_⟩
  have hlt : j < k := by have := (List.getElem?_eq_some_iff.1 hj).1; omega
  obtain ⟨q', h5, h6⟩ := h4 j hlt
  rw [hj] at h5
  obtain rfl := Option.some.inj h5
  obtain ⟨b, o, e, hc, hr⟩ := ht j hlt
  exact ⟨b, o, X' j, e, hc, h6.sn (hs j hlt) hr.1⟩
theorem spr_len (p : List Rat) (i : Nat) : (spr p i).length ≤ p.length := by
  induction p generalizing i with
  | nil => simp [spr]
  | cons q p ih =>
    have h1 := nz_len (i : Int) q
    have h2 := ih (i + 1)
    simp only [spr, List.length_append, List.length_cons]; omega

set_option maxRecDepth 100000 in
set_option maxHeartbeats 8000000 in
theorem vecDots_c (av : Option Addr) (k cv : Nat) (col : Nat → Int) (T : Nat → Nm) (ax : Option Addr) (kx cx : Nat) (X : Nat → Nm) (w : World) (hv : Tr w av k col T) (hcv : k ≤ cv ∧ cv ≤ 9223372036854775807) (hx : Rr w ax kx X) (hcx : kx ≤ cx ∧ cx ≤ 9223372036854775807) :
    Calls Tryz.prog 5 #[.slice av k cv, .slice ax kx cx] w fun e w' => e = .returned (.bool true) ∧ Below w.heap.size w w' := by
  have HV := hid hv; have HX := hid hx
  clear hv hx
  go_enter Tryz.func5, Tryz.ntmps5
  go_wp2_with fail
  refine (vAwake_c _).mono ?_
  rintro e w1 ⟨rfl, hb⟩
  have HB := hid hb
  clear hb
  go_wp2_with fail
  refine (vLight_c (cap := cv) (HV.out.below HB.out) (by omega)).mono ?_
  rintro e w2 ⟨rfl, hb⟩
  replace HB := hid (HB.out.trans (hb.mono HB.out.size))
  clear hb
  cases hl1 : (decide (k ≤ 200) && nlg 10 T k 0)
  · go_wp2
    go_ret
    exact ⟨rfl, HB.out⟩
  go_wp2_with fail
  refine (rLights_c (cap := cx) 10 (HX.out.below HB.out) (by omega)).mono ?_
  rintro e w3 ⟨rfl, hb⟩
  replace HB := hid (HB.out.trans (hb.mono HB.out.size))
  clear hb
  cases hl2 : (decide (kx ≤ 300) && nlg 10 X kx 0)
  · go_wp2
    go_ret
    exact ⟨rfl, HB.out⟩
  rw [Bool.and_eq_true, decide_eq_true_eq] at hl1 hl2
  obtain ⟨hk200, hl1⟩ := hl1
  obtain ⟨hk300, hl2⟩ := hl2
  have TL := hid (HV.out.tl hl1 (by decide)); have RL := hid (HX.out.rl hl2 (by decide))
  have hall : ∀ j, j < k → (T j).n ≤ 10 ∧ (T j).m ≤ 10 := fun j hj => nlg_all hl1 j (by omega) (by omega)
  have hallx : ∀ j, j < kx → (X j).n ≤ 10 ∧ (X j).m ≤ 10 := fun j hj => nlg_all hl2 j (by omega) (by omega)
  have HA2 : Hid (∀ j, j < k → (T j).n ≤ 1000 ∧ (T j).m ≤ 1000) := fun j hj => ⟨Nat.le_trans (hall j hj).1 (by decide), Nat.le_trans (hall j hj).2 (by decide)⟩
  have HX2 : Hid (∀ j, j < kx → (X j).n ≤ 1000 ∧ (X j).m ≤ 1000) := fun j hj => ⟨Nat.le_trans (hallx j hj).1 (by decide), Nat.le_trans (hallx j hj).2 (by decide)⟩
  obtain ⟨v, hfv⟩ := fvt_ex TL.out hall
  obtain ⟨p, hfx⟩ := fvq_ex RL.out hallx
  have FV := hid hfv; have FX := hid hfx
  clear hall hallx hl1 hl2 HV HX hfv hfx
  go_wp2_with fail
  refine (twinT_c (cap := cv) (TL.out.below HB.out) (by omega) HA2.out).mono ?_
  rintro e w4 ⟨aw, cw, T1, rfl, hb, hcw, TT⟩
  replace HB := hid (HB.out.trans (hb.mono HB.out.size))
  clear hb
  go_wp2_with fail
  refine (twins_c (cap := cx) (RL.out.below HB.out) (by omega) HX2.out).mono ?_
  rintro e w5 ⟨ay, cy, X1, rfl, hb, hcy, XX⟩
  replace HB := hid (HB.out.trans (hb.mono HB.out.size))
  have T5 := hid (TT.out.1.below hb)
  obtain ⟨he1, hf1⟩ := fvt_twin (FV.out) T5.out TT.out.2
  obtain ⟨he2, hf2⟩ := fvq_twin (FX.out) XX.out.1 XX.out.2
  clear hb
  go_wp2_with fail
  refine (vDot_o (cv := cw) (cx := cy) (L := 10) (v := v) (p := p) T5.out XX.out.1 (by omega) (by omega) (by decide) (by decide) hf1 hf2).mono ?_
  rw [he1, he2]
  rintro e w6 ⟨s1, x1, n1, c1, y1, m1, d1, er1, rfl, hb, ho⟩
  replace HB := hid (HB.out.trans (hb.mono HB.out.size))
  have O1 := hid ho
  clear hb ho TT XX T5 he1 hf1 he2 hf2
  have hA0 := bx3_at w6 (.bool s1) (.slice x1 n1 c1) (.slice y1 m1 d1) 25
  have hb := below_alloc (Below.refl w6.heap.size w6) (.cells #[.bool s1, .slice x1 n1 c1, .slice y1 m1 d1] 25)
  go_upto_region 6 with fail
  have BA := hid hA0
  generalize w6.alloc (.cells #[.bool s1, .slice x1 n1 c1, .slice y1 m1 d1] 25) = w7 at *
  replace HB := hid (HB.out.trans (hb.mono HB.out.size)); replace O1 := hid (O1.out.below hb)
  clear hb hA0
  generalize w6.heap.size = ba at *
  go_wp2_with fail
  refine (docDot_c (L := 10) (cv := cv) (cx := cx) (v := v) (p := p) (TL.out.below HB.out) (RL.out.below HB.out) (by omega) (by omega) HA2.out HX2.out (by decide) (FV.out.below HB.out) (FX.out.below HB.out)).mono ?_
  rintro e w8 ⟨s2, x2, n2, c2, y2, m2, d2, er2, rfl, hb, ho⟩
  replace HB := hid (HB.out.trans (hb.mono HB.out.size)); replace O1 := hid (O1.out.below hb); replace BA := hid (BA.out.below hb)
  obtain ⟨her, hsm⟩ := ot_same O1.out ho (by decide) (by decide)
  subst her
  clear hb ho O1
  have hA0 := bx3_at w8 (.bool s2) (.slice x2 n2 c2) (.slice y2 m2 d2) 25
  have hb := below_alloc (Below.refl w8.heap.size w8) (.cells #[.bool s2, .slice x2 n2 c2, .slice y2 m2 d2] 25)
  go_upto_region 7 with fail
  have BB := hid hA0
  have SM := hid (hsm.out _ hb)
  generalize w8.alloc (.cells #[.bool s2, .slice x2 n2 c2, .slice y2 m2 d2] 25) = w9 at *
  replace HB := hid (HB.out.trans (hb.mono HB.out.size)); replace BA := hid (BA.out.below hb)
  clear hb hA0 hsm
  generalize w8.heap.size = bb at *
  obtain ⟨za, a0, a1, a2⟩ := BA.out
  obtain ⟨zb, b0, b1, b2⟩ := BB.out
  have hee : (er1 != er1) = false := by simp
  go_wp2_with fail
  refine SM.out.mono ?_
  rintro e w10 ⟨rfl, hb⟩
  replace HB := hid (HB.out.trans (hb.mono HB.out.size))
  clear hb SM BA BB za a0 a1 a2 zb b0 b1 b2
  go_wp2_with fail
  refine (twins_c (cap := cx) (RL.out.below HB.out) (by omega) HX2.out).mono ?_
  rintro e w11 ⟨ay, cy, X1, rfl, hb, hcy, XX⟩
  replace HB := hid (HB.out.trans (hb.mono HB.out.size))
  obtain ⟨he2, hf2⟩ := fvq_twin (FX.out) XX.out.1 XX.out.2
  clear hb
  go_wp2_with fail
  refine (vSparse_c (L := 10) (cx := cy) (p := p) XX.out.1 (by omega) (by decide) hf2).mono ?_
  rw [he2]
  rintro e w12 ⟨ad, nd, cd, er3, rfl, hb, ho⟩
  replace HB := hid (HB.out.trans (hb.mono HB.out.size))
  have O1 := hid ho.two
  clear hb ho XX he2 hf2
  go_wp2_with fail
  refine (docSparse_c (L := 10) (cx := cx) (p := p) (RL.out.below HB.out) (by omega) HX2.out (FX.out.below HB.out)).mono ?_
  rintro e w13 ⟨ae, ne, ce, er4, rfl, hb, ho⟩
  replace HB := hid (HB.out.trans (hb.mono HB.out.size)); replace O1 := hid (O1.out.below hb)
  obtain ⟨her, hsm⟩ := os_same (ca := cd) (cb := ce) O1.out ho (fun h => by have h1 := spr_len p 0; have h2 := (FX.out h).1; omega) (by decide) (by decide)
  subst her
  clear hb ho O1
  have SM := hid (hsm.out _ (Below.refl _ _))
  clear hsm
  have hee2 : (er3 == er3) = true := by simp
  go_wp2_with fail
  refine SM.out.mono ?_
  rintro e w14 ⟨rfl, hb⟩
  replace HB := hid (HB.out.trans (hb.mono HB.out.size))
  clear hb SM
  go_wp2
  go_ret
  exact ⟨rfl, HB.out⟩
end Go.Proofs.YthofcgpghbaccaaGreat
namespace Go.Proofs.YthofcgpghbaccaaGreat
open Go.RowKit

/-- What To answers. -/
def ToAns (L : Nat) (w w' : World) (e : Ending) (k : Nat) (v : List (Int × Rat)) : Prop := ∃ aw cw, e = .returned (.slice aw k cw) ∧ Below w.heap.size w w' ∧ (k ≤ cw ∧ cw ≤ 9223372036854775807) ∧ Hid (Tf L w' aw v)
/-- The columns of a list, by their places. -/
def colv (v : List (Int × Rat)) (j : Nat) : Int := (v.getD j (0, 0)).1

set_option maxRecDepth 100000 in
set_option maxHeartbeats 4000000 in
theorem toT_c {w : World} {K : Nat} {ao : Option Addr} {k cap : Nat} {v : List (Int × Rat)} (h : Tq K w ao v) (hk : k ≤ 10000) (hK : K ≤ 100000) (hlv : v.length = k) :
    Calls Tryz.prog 46 #[.slice ao k cap] w fun e w' => ToAns (2 * K) w w' e k v := by
  have H := hid h
  clear h
  go_enter Tryz.func46, Tryz.ntmps46
  go_wp2_with fail
  go_loopw [3, 8] (fun ov t wr => ∃ (i : Nat) (T' : Nat → Nm), i ≤ k ∧ t = .int .i64 i ∧ Hid (Below w.heap.size w wr) ∧ Hid (RowG 69 4 w.heap.size wr ov i (tcells (tls i (colv v) T'))) ∧ Hid (∀ j, j < i → ∃ q, v[j]? = some (colv v j, q) ∧ Rn (2 * K) wr (T' j).s (T' j).x (T' j).n (T' j).c (T' j).f (T' j).y (T' j).m (T' j).d (T' j).g q)) (fun _ t _ => k - (intOf t).toNat)
  case atStart => exact ⟨0, fun _ => ⟨false, none, 0, 0, fun _ => 0, none, 0, 0, fun _ => 0⟩, by omega, rfl, Below.refl _ _, rowG_nil _ _ _ _, fun j hj => by omega⟩
  case round =>
    obtain ⟨i, T', hi, rfl, HB, HRow, HT⟩ := hrel
    by_cases hlt : i < k
    · obtain ⟨⟨z, q⟩, hvq⟩ : ∃ t, v[i]? = some t := ⟨_, List.getElem?_eq_getElem (by omega)⟩
      obtain ⟨b, o, ⟨s, x, n, c, f, y, m, d, g⟩, hao, hc, hn0⟩ := (H.out.below HB.out) i z q hvq
      subst hao
      have hn : n ≤ K ∧ m ≤ K ∧ Qn wr s x n f y m g q := hn0
      have hz : colv v i = z := by unfold colv; rw [List.getD_eq_getElem?_getD, hvq]; rfl
      have HVq : Hid (v[i]? = some (colv v i, q)) := by show _ = _; rw [hz]; exact hvq
      clear hn0 hvq
      obtain ⟨x0, x1, x2, x3⟩ := hc
      replace x0 : wr.cell? ⟨b, o + i * 4, none⟩ = some (.int .i64 z) := x0
      replace x1 : wr.cell? ⟨b, o + i * 4 + 1, none⟩ = some (.bool s) := x1
      replace x2 : wr.cell? ⟨b, o + i * 4 + 2, none⟩ = some (.slice x n c) := x2
      replace x3 : wr.cell? ⟨b, o + i * 4 + 3, none⟩ = some (.slice y m d) := x3
      have i1 : ((i : Nat) : Int) < ((k : Nat) : Int) := by omega
      have HN := hid hn; have HZ := hid hz
      clear hn hz
      go_upto_region 5 with fail
      have hb5 := below_alloc (Below.refl wr.heap.size wr) (.cells #[.int .i64 z, .bool s, .slice x n c, .slice y m d] 106)
      have a0 : (wr.alloc (.cells #[.int .i64 z, .bool s, .slice x n c, .slice y m d] 106)).cell? ⟨wr.heap.size, 0, none⟩ = some (.int .i64 z) := by simp [go_sem]
      have a1 : (wr.alloc (.cells #[.int .i64 z, .bool s, .slice x n c, .slice y m d] 106)).cell? ⟨wr.heap.size, 1, none⟩ = some (.bool s) := by simp [go_sem]
      have a2 : (wr.alloc (.cells #[.int .i64 z, .bool s, .slice x n c, .slice y m d] 106)).cell? ⟨wr.heap.size, 2, none⟩ = some (.slice x n c) := by simp [go_sem]
      have a3 : (wr.alloc (.cells #[.int .i64 z, .bool s, .slice x n c, .slice y m d] 106)).cell? ⟨wr.heap.size, 3, none⟩ = some (.slice y m d) := by simp [go_sem]
      have hne : u3.ownBlock ≠ some wr.heap.size := fun e => by have := (HRow.out.lt _ e).2; omega
      replace HN := hid (And.intro HN.out.1 (And.intro HN.out.2.1 (HN.out.2.2.below hb5))); replace HRow := hid (HRow.out.below hb5)
      replace HT : Hid (∀ j, j < i → ∃ q, v[j]? = some (colv v j, q) ∧ Rn (2 * K) (wr.alloc (.cells #[.int .i64 z, .bool s, .slice x n c, .slice y m d] 106)) (T' j).s (T' j).x (T' j).n (T' j).c (T' j).f (T' j).y (T' j).m (T' j).d (T' j).g q) := fun j hj => by obtain ⟨q, h1, h2⟩ := HT.out j hj; exact ⟨q, h1, h2.below hb5⟩
      replace HB := hid (HB.out.trans (hb5.mono HB.out.size))
      clear x0 x1 x2 x3 hb5
      have hsz : w.heap.size ≤ (wr.alloc (.cells #[.int .i64 z, .bool s, .slice x n c, .slice y m d] 106)).heap.size := HB.out.size
      generalize wr.alloc (.cells #[.int .i64 z, .bool s, .slice x n c, .slice y m d] 106) = w5 at *
      have CT : Hid (∀ W, Below w5.heap.size w5 W → Calls Tryz.prog 36 #[.agg #[.bool s, .slice x n c, .slice y m d]] W fun e w' => ∃ z6 k6 c6 f6 z7 k7 c7 f7, e = .returned (.agg #[.bool s, .slice z6 k6 c6, .slice z7 k7 c7]) ∧ Below W.heap.size W w' ∧ Hid (Rn (2 * K) w' s z6 k6 c6 f6 z7 k7 c7 f7 q)) := fun W hW => (qToR_c (HN.out.2.2.below hW) (Nat.le_trans HN.out.1 (by omega)) (Nat.le_trans HN.out.2.1 (by omega))).mono (fun _ _ ⟨z, k, c, f, z2, k2, c2, f2, h1, h2, h3⟩ => ⟨z, k, c, f, z2, k2, c2, f2, h1, h2, h3.out.mono (by have := HN.out.1; have := HN.out.2.1; omega)⟩)
      go_region_held3 (fun w' => w'.cell? ⟨wr.heap.size, 0, none⟩ = some (.int .i64 z) ∧ w'.cell? ⟨wr.heap.size, 1, none⟩ = some (.bool s) ∧ w'.cell? ⟨wr.heap.size, 2, none⟩ = some (.slice x n c) ∧ w'.cell? ⟨wr.heap.size, 3, none⟩ = some (.slice y m d))
        (refine ⟨?_, ?_, ?_, ?_⟩ <;> repeat (with_reducible first | assumption | refine kCd ?_ | refine kCa ?_ | refine kCb (by assumption) ?_))
        (first
          | (go_at_call 36; with_reducible refine (CT.out _ (by repeat (with_reducible first | assumption | exact Below.refl _ _ | refine Below.drew ?_ | refine kBa ?_ | refine kBb (by assumption) ?_))).mono ?_; rintro e w6 ⟨z6, k6, c6, f6, z7, k7, c7, f7, rfl, hb6, HQ⟩; have B6 : Below w5.heap.size w5 w6 := (by repeat (with_reducible first | assumption | exact Below.refl _ _ | refine Below.drew ?_ | refine kBa ?_ | refine kBb (by assumption) ?_)); have HRow6 := HRow.out.below B6; have hz6 : w.heap.size ≤ w6.heap.size := Nat.le_trans hsz B6.size; have a06 := kCb B6 a0; have a16 := kCb B6 a1; have a26 := kCb B6 a2; have a36 := kCb B6 a3; have hlt6 := World.block_lt_of_cell? w6 _ a06)
          | (refine step_append_one w6 rfl (.tmp 12) (.tmp 19) 22 rfl w.heap.size 69 64 4 (.agg #[.int .i64 0, .bool false, .slice none 0 0, .slice none 0 0]) Tryz.underlying22 Tryz.infoTerm rfl (by decide) nz4 u3 i (tcells (tls i (colv v) T')) rfl HRow6 #[.int .i64 z, .bool s, .slice z6 k6 c6, .slice z7 k7 c7] rfl rfl (one4 _ _ _ _ _ _ _ _) (not4 _ _ _ _ _ _ _ _) ?p1 (by decide) hz6 ?_; (case p1 => omega); intro g8 cap8 w8 hr8 hk8 hb8 hg8; have h88 := hg8 wr.heap.size hlt6 hne; have a08 := (World.cell?_of_block (a := ⟨wr.heap.size, 0, none⟩) h88).trans a06; have a18 := (World.cell?_of_block (a := ⟨wr.heap.size, 1, none⟩) h88).trans a16; have a28 := (World.cell?_of_block (a := ⟨wr.heap.size, 2, none⟩) h88).trans a26; have a38 := (World.cell?_of_block (a := ⟨wr.heap.size, 3, none⟩) h88).trans a36))
      all_goals
        (have HB8 := hid (hb8 w (HB.out.trans (B6.mono HB.out.size)) (Nat.le_refl _))
         have HR8 : Hid (RowG 69 4 w.heap.size w8 (.slice (some ⟨g8, 0, none⟩) (i + 1) cap8) (i + 1) (tcells (tls (i + 1) (colv v) (putN T' i ⟨s, z6, k6, c6, f6, z7, k7, c7, f7⟩)))) := by
           show RowG _ _ _ _ _ _ _
           rw [tls_put, HZ.out]; exact hr8
         have HT8 : Hid (∀ j, j < i + 1 → ∃ q, v[j]? = some (colv v j, q) ∧ Rn (2 * K) w8 (putN T' i ⟨s, z6, k6, c6, f6, z7, k7, c7, f7⟩ j).s (putN T' i ⟨s, z6, k6, c6, f6, z7, k7, c7, f7⟩ j).x (putN T' i ⟨s, z6, k6, c6, f6, z7, k7, c7, f7⟩ j).n (putN T' i ⟨s, z6, k6, c6, f6, z7, k7, c7, f7⟩ j).c (putN T' i ⟨s, z6, k6, c6, f6, z7, k7, c7, f7⟩ j).f (putN T' i ⟨s, z6, k6, c6, f6, z7, k7, c7, f7⟩ j).y (putN T' i ⟨s, z6, k6, c6, f6, z7, k7, c7, f7⟩ j).m (putN T' i ⟨s, z6, k6, c6, f6, z7, k7, c7, f7⟩ j).d (putN T' i ⟨s, z6, k6, c6, f6, z7, k7, c7, f7⟩ j).g q) := fun j hj => by
           by_cases e : j = i
           · subst e
             rw [putN_at]
             exact ⟨q, HVq.out, HQ.out.kp hk8⟩
           · rw [putN_ne e]
             obtain ⟨q, h1, h2⟩ := HT.out j (by omega); exact ⟨q, h1, (h2.below B6).kp hk8⟩
         clear hr8 hk8 hb8 hg8 h88 a08 a18 a28 a38 a06 a16 a26 a36 hlt6 hne HRow6 B6 hb6 HQ HRow HT HB CT a0 a1 a2 a3 HN hz6
         go_wp2
         go_roundw
         case rel => exact ⟨i + 1, _, by omega, by go_num, HB8.out, HR8.out, HT8.out⟩
         case measure => simp [intOf]; omega)
    · have e1 : i = k := by omega
      have i1 : ¬ (((i : Nat) : Int) < ((k : Nat) : Int)) := by omega
      rw [e1] at HRow HT
      obtain ⟨aw, cw, rfl⟩ := HRow.out.slice
      have hcw : k ≤ cw ∧ cw ≤ 9223372036854775807 := by
        rcases HRow.out.2 with ⟨hv, h0⟩ | ⟨_, _, _, hv, _, _, h5, h6, _⟩
        · cases hv; omega
        · cases hv; unfold maxLen at h6; omega
      clear e1
      go_wp2
      go_ret
      exact ⟨aw, cw, rfl, HB.out, hcw, (fun j a q hj => by have hlt2 : j < k := by { have := (List.getElem?_eq_some_iff.1 hj).1; omega }; obtain ⟨b, hb, h4⟩ := rowg_c4 HRow.out hlt2; obtain ⟨q', h5, h6⟩ := HT.out j hlt2; rw [hj] at h5; obtain ⟨h7, rfl⟩ : a = colv v j ∧ q = q' := by { simpa using h5 }; rw [h7]; exact ⟨b, 0, T' j, hb, h4, h6⟩)⟩
end Go.Proofs.YthofcgpghbaccaaGreat
