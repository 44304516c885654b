/-
  The walks of the reference's DocPlus and DocScale, whatever they are handed. VecSums: Form, Plus and Scale answer just what the document says, whatever they are handed.
-/
import Derived.Test.YthofcgpghbaccaaGreatZ14
import Derived.Test.YthofcgpghbaccaaGreatZ13
import Derived.Test.YthofcgpghbaccaaGreatZ7
import Derived.Test.YthofcgpghbaccaaGreatZ11
namespace Go.Proofs.YthofcgpghbaccaaGreat
open Go.RowKit

/-- What DocPlus and DocScale answer. -/
def OV2 (p : Bool) (L : Nat) (w' : World) (ao : Option Addr) (n : Nat) (er : Int) (vs : List (Int × Rat)) : Prop :=
  p = false ∧ er = 3 ∧ n = 0 ∨ p = true ∧ er = 0 ∧ n = vs.length ∧ Tf L w' ao vs
theorem mg_len (r : Rat) : ∀ (n : Nat) (v w : List (Int × Rat)), v.length + w.length ≤ n → (mg r v w).length ≤ v.length + w.length := by
  intro n
  induction n with
  | zero =>
    intro v w hn
    obtain rfl : v = [] := List.eq_nil_of_length_eq_zero (by omega)
    obtain rfl : w = [] := List.eq_nil_of_length_eq_zero (by omega)
    rw [mg_nn]; simp
  | succ n ih =>
    intro v w hn
    match v, w with
    | [], [] => rw [mg_nn]; simp
    | (a, q) :: v, [] =>
      have h1 := ih v [] (by simp at hn ⊢; omega); have h2 := nz_len a q
      rw [mg_cn, List.length_append]; simp at h1 ⊢; omega
    | [], (b, p) :: w =>
      have h1 := ih [] w (by simp at hn ⊢; omega); have h2 := nz_len b (r * p)
      rw [mg_nc, List.length_append]; simp at h1 ⊢; omega
    | (a, q) :: v, (b, p) :: w =>
      simp only [List.length_cons] at hn
      by_cases h1 : a < b
      · have h3 := ih v ((b, p) :: w) (by simp only [List.length_cons]; omega); have h2 := nz_len a q
        rw [mg_lt _ _ _ _ _ _ _ h1, List.length_append]; simp only [List.length_cons] at h3 ⊢; omega
      · by_cases h2 : b < a
        · have h3 := ih ((a, q) :: v) w (by simp only [List.length_cons]; omega); have h4 := nz_len b (r * p)
          rw [mg_gt _ _ _ _ _ _ _ h2, List.length_append]; simp only [List.length_cons] at h3 ⊢; omega
        · obtain rfl : a = b := by omega
          have h3 := ih v w (by omega); have h4 := nz_len a (q + r * p)
          rw [mg_eq, List.length_append]; simp only [List.length_cons]; omega

set_option maxRecDepth 100000 in
set_option maxHeartbeats 8000000 in
theorem docPlus_c {w : World} {L : Nat} {av aw : Option Addr} {k k' cv cw : Nat} {col col' : Nat → Int} {T T' : Nat → Nm} {s : Bool} {x : Option Addr} {n c : Nat} {f : Nat → Int} {y : Option Addr} {m d : Nat} {g : Nat → Int} {v v' : List (Int × Rat)} {r : Rat}
    (hv : Tl w av k col T) (hw : Tl w aw k' col' T') (hr : Rw w x n c f y m d g) (hk : k ≤ 1000) (hk' : k' ≤ 1000) (hl : ∀ j, j < k → (T j).n ≤ 1000 ∧ (T j).m ≤ 1000) (hl' : ∀ j, j < k' → (T' j).n ≤ 1000 ∧ (T' j).m ≤ 1000) (hn : n ≤ 1000) (hm : m ≤ 1000) (hL : L ≤ 100)
    (fv : FvT L w av k col T v) (fw : FvT L w aw k' col' T' v') (fr : rfB s f n g m = true → Rn L w s x n c f y m d g r) :
    Calls Tryz.prog 14 #[.slice av k cv, .agg #[.bool s, .slice x n c, .slice y m d], .slice aw k' cw] w fun e w' => ∃ ao j cap er, e = .returned (.tuple #[.slice ao j cap, .int .i64 er]) ∧ Below w.heap.size w w' ∧ OV2 (tfB k col T && (rfB s f n g m && tfB k' col' T')) (2 * (10 * (2 * L) + 9)) w' ao j er (mg r v v') := by
  have HV := hid hv; have HW := hid hw; have HR := hid hr; have FV := hid fv; have FW := hid fw; have FR := hid fr
  have hb0 := below_alloc (Below.refl w.heap.size w) (.cells #[.bool s, .slice x n c, .slice y m d] 25)
  have hB0 := bx3_at w (.bool s) (.slice x n c) (.slice y m d) 25
  clear hv hw hr fv fw fr
  go_enter Tryz.func14, Tryz.ntmps14
  go_wp2_with fail
  generalize w.alloc (.cells #[.bool s, .slice x n c, .slice y m d] 25) = w0 at *
  refine (fForm_c (cap := cv) (HV.out.below hb0) (by omega) hl).mono ?_
  rintro e w1 ⟨rfl, hb⟩
  have HB := hid (hb0.trans (hb.mono hb0.size)); have BR := hid (hB0.below hb)
  clear hb hb0 hB0
  cases h1 : tfB k col T
  · have H1 := hid h1
    clear h1 BR
    go_wp2
    go_ret2
    exact ⟨none, 0, 0, 3, rfl, HB.out, .inl ⟨by rw [H1.out]; rfl, rfl, rfl⟩⟩
  have H1 := hid h1
  clear h1
  go_wp2_with fail
  refine (fForm_c (cap := cw) (HW.out.below HB.out) (by omega) hl').mono ?_
  rintro e w2 ⟨rfl, hb⟩
  replace HB := hid (HB.out.trans (hb.mono HB.out.size)); replace BR := hid (BR.out.below hb)
  clear hb
  cases h2 : tfB k' col' T'
  · have H2 := hid h2
    clear h2 BR
    go_wp2
    go_ret2
    exact ⟨none, 0, 0, 3, rfl, HB.out, .inl ⟨by rw [H1.out, H2.out, Bool.and_false]; rfl, rfl, rfl⟩⟩
  have H2 := hid h2
  clear h2
  obtain ⟨zr, r0, r1, r2⟩ := BR.out
  go_wp2_with fail
  refine (qForm_c (s := s) (HR.out.below HB.out) hn hm).mono ?_
  rintro e w3 ⟨rfl, hb⟩
  replace HB := hid (HB.out.trans (hb.mono HB.out.size)); replace BR := hid (BR.out.below hb)
  clear hb zr r0 r1 r2
  cases h3 : rfB s f n g m
  · have H3 := hid h3
    clear h3 BR
    go_wp2
    go_ret2
    exact ⟨none, 0, 0, 3, rfl, HB.out, .inl ⟨by rw [H1.out, H3.out]; rfl, rfl, rfl⟩⟩
  have H3 := hid h3
  clear h3
  obtain ⟨lv, _, _, hq⟩ := (FV.out.below HB.out) H1.out
  obtain ⟨lw, _, _, hqw⟩ := (FW.out.below HB.out) H2.out
  have HQ := hid hq; have HQw := hid hqw; have RR := hid ((FR.out H3.out).below HB.out)
  have TL := hid (HV.out.below HB.out); have TL' := hid (HW.out.below HB.out)
  have hgl : (mg r v v').length ≤ k + k' := by have := mg_len r _ v v' (Nat.le_refl _); omega
  obtain ⟨zr, r0, r1, r2⟩ := BR.out
  clear hq hqw FV FW FR HV HW HR
  generalize hbr : w.heap.size = br at *
  have C1 : Hid (∀ W, Below w3.heap.size w3 W → Calls Tryz.prog 48 #[.slice av k cv] W fun e w' => FrAns (2 * L) W w' e k v) := fun W hW => fromT_c (TL.out.below hW) (by omega) (by omega) lv (fun j hj => by obtain ⟨q, a, b⟩ := HQ.out j hj; exact ⟨q, a, b.below hW⟩)
  have C2 : Hid (∀ W, Below w3.heap.size w3 W → Calls Tryz.prog 34 #[.agg #[.bool s, .slice x n c, .slice y m d]] W fun e w' => QAns (2 * L) W w' e r) := fun W hW => qFrom_c (RR.out.below hW) (by omega)
  have C3 : Hid (∀ W, Below w3.heap.size w3 W → Calls Tryz.prog 48 #[.slice aw k' cw] W fun e w' => FrAns (2 * L) W w' e k' v') := fun W hW => fromT_c (TL'.out.below hW) (by omega) (by omega) lw (fun j hj => by obtain ⟨q, a, b⟩ := HQw.out j hj; exact ⟨q, a, b.below hW⟩)
  go_upto_region 3 with fail
  refine wp_region_held_drew (S := fun w' => w'.cell? ⟨br, 0, none⟩ = some (.bool s) ∧ w'.cell? ⟨br, 1, none⟩ = some (.slice x n c) ∧ w'.cell? ⟨br, 2, none⟩ = some (.slice y m d)) (by kernel_rfl) ?_ (fun hHeld => ?_)
  · (refine ⟨?_, ?_, ?_⟩ <;> repeat (with_reducible first | assumption | refine kCd ?_))
  refine wpAnyH_take (i := 0) (v := ?_) rfl (by kernel_rfl) (by kernel_rfl) (by kernel_rfl) (fun _ _ _ h => h) (Or.inl ⟨by rfl, ?_⟩) (by assumption) ?_
  rotate_left
  (focus (intro w0 hSw; (try dsimp only at hSw); go_simp <;> with_reducible rfl))
  simp only [List.getElem_toArray, List.getElem_cons_zero, Act.put, List.setIfInBounds_toArray, List.set_cons_zero, List.set_cons_succ]
  refine wpAnyH_take (i := 2) (v := ?_) rfl (by kernel_rfl) (by kernel_rfl) (by kernel_rfl) (fun _ _ _ h => h) (Or.inl ⟨by rfl, ?_⟩) (by assumption) ?_
  rotate_left
  (focus (intro w0 hSw; (try dsimp only at hSw); go_simp <;> with_reducible rfl))
  simp only [List.getElem_toArray, List.getElem_cons_succ, List.getElem_cons_zero, Act.put, List.setIfInBounds_toArray, List.set_cons_zero, List.set_cons_succ]
  refine wpAnyH_take (i := 4) (v := ?_) rfl (by kernel_rfl) (by kernel_rfl) (by kernel_rfl) (fun _ _ _ h => h) (Or.inl ⟨by rfl, ?_⟩) (by assumption) ?_
  rotate_left
  (focus (intro w0 hSw; (try dsimp only at hSw); go_simp <;> with_reducible rfl))
  simp only [List.getElem_toArray, List.getElem_cons_succ, List.getElem_cons_zero, Act.put, List.setIfInBounds_toArray, List.set_cons_zero, List.set_cons_succ]
  refine wpAnyH_ready (rs := [1]) (by kernel_rfl) (by simp) ?_
  refine AllReadyH.cons (o := _) rfl (fun K hK => ?_) ?_
  rotate_left
  exact AllReadyH.nil
  go_simp
  go_at_call 48
  with_reducible refine (C1.out _ (by repeat (with_reducible first | assumption | exact Below.refl _ _ | refine Below.drew ?_ | refine kBb (by assumption) ?_))).mono ?_
  rintro en w4 ⟨a4, c4, rfl, hb4, hc4, H4⟩
  have Bw4 : Below w3.heap.size w3 w4 := (by repeat (with_reducible first | assumption | exact Below.refl _ _ | refine Below.drew ?_ | refine kBb (by assumption) ?_))
  (try go_wp2_with fail)
  refine hK.out _ _ ?_ (fun hH1 => ?_)
  · ((try dsimp only); (refine ⟨?_, ?_, ?_⟩ <;> repeat (with_reducible first | assumption | refine kCb Bw4 ?_)))
  clear hK K
  try simp only [Act.put, List.setIfInBounds_toArray, List.set_cons_zero, List.set_cons_succ]
  refine wpAnyH_ready (rs := [3]) (by kernel_rfl) (by simp) ?_
  refine AllReadyH.cons (o := _) rfl (fun K hK => ?_) ?_
  rotate_left
  exact AllReadyH.nil
  go_simp
  go_at_call 34
  with_reducible refine (C2.out _ (by repeat (with_reducible first | assumption | exact Below.refl _ _ | refine Below.drew ?_ | refine kBb (by assumption) ?_))).mono ?_
  rintro en w5 ⟨s5, x5, n5, c5, d5, y5, m5, e5, g5, rfl, hb5, l51, l52, h5⟩
  have Bw5 : Below w3.heap.size w3 w5 := (by repeat (with_reducible first | assumption | exact Below.refl _ _ | refine Below.drew ?_ | refine kBb (by assumption) ?_))
  have H5 := hid h5
  clear h5
  (try go_wp2_with fail)
  refine hK.out _ _ ?_ (fun hH2 => ?_)
  · ((try dsimp only); (refine ⟨?_, ?_, ?_⟩ <;> repeat (with_reducible first | assumption | refine kCb Bw5 ?_)))
  clear hK K
  try simp only [Act.put, List.setIfInBounds_toArray, List.set_cons_zero, List.set_cons_succ]
  refine wpAnyH_ready (rs := [5]) (by kernel_rfl) (by simp) ?_
  refine AllReadyH.cons (o := _) rfl (fun K hK => ?_) ?_
  rotate_left
  exact AllReadyH.nil
  go_simp
  go_at_call 48
  with_reducible refine (C3.out _ (by repeat (with_reducible first | assumption | exact Below.refl _ _ | refine Below.drew ?_ | refine kBb (by assumption) ?_))).mono ?_
  rintro en w6 ⟨a6, c6, rfl, hb6, hc6, H6⟩
  have Bw6 : Below w3.heap.size w3 w6 := (by repeat (with_reducible first | assumption | exact Below.refl _ _ | refine Below.drew ?_ | refine kBb (by assumption) ?_))
  have T4 := (H4.out.below (hb5)).below hb6
  have Q5 := H5.out.below hb6
  (try go_wp2_with fail)
  refine hK.out _ _ ?_ (fun hH3 => ?_)
  · ((try dsimp only); (refine ⟨?_, ?_, ?_⟩ <;> repeat (with_reducible first | assumption | refine kCb Bw6 ?_)))
  clear hK K
  try simp only [Act.put, List.setIfInBounds_toArray, List.set_cons_zero, List.set_cons_succ]
  refine wpAnyH_ready (rs := [6]) (by kernel_rfl) (by simp) ?_
  refine AllReadyH.cons (o := _) rfl (fun K hK => ?_) ?_
  rotate_left
  exact AllReadyH.nil
  go_simp
  go_at_call 47
  with_reducible refine (fPlus_c (K := 2 * L) (cv := c4) (cw := c6) T4 H6.out Q5 l51 l52 lv lw (by omega) (by omega)).mono ?_
  rintro en w7 ⟨a7, c7, rfl, hb7, hc7, H7⟩
  have Bw7 : Below w3.heap.size w3 w7 := (by repeat (with_reducible first | assumption | exact Below.refl _ _ | refine Below.drew ?_ | refine kBb (by assumption) ?_))
  (try go_wp2_with fail)
  refine hK.out _ _ ?_ (fun hH4 => ?_)
  · ((try dsimp only); (refine ⟨?_, ?_, ?_⟩ <;> repeat (with_reducible first | assumption | refine kCb Bw7 ?_)))
  clear hK K
  try simp only [Act.put, List.setIfInBounds_toArray, List.set_cons_zero, List.set_cons_succ]
  refine wpAnyH_ready (rs := [7]) (by kernel_rfl) (by simp) ?_
  refine AllReadyH.cons (o := _) rfl (fun K hK => ?_) ?_
  rotate_left
  exact AllReadyH.nil
  go_simp
  go_at_call 46
  with_reducible refine (toT_c (K := 10 * (2 * L) + 9) (cap := c7) H7.out (by omega) (by omega) rfl).mono ?_
  rintro en w8 ⟨a8, c8, rfl, hb8, hc8, H8⟩
  have Bw8 : Below w3.heap.size w3 w8 := (by repeat (with_reducible first | assumption | exact Below.refl _ _ | refine Below.drew ?_ | refine kBb (by assumption) ?_))
  (try go_wp2_with fail)
  refine hK.out _ _ ?_ (fun hH5 => ?_)
  · ((try dsimp only); (refine ⟨?_, ?_, ?_⟩ <;> repeat (with_reducible first | assumption | refine kCb Bw8 ?_)))
  clear hK K
  try simp only [Act.put, List.setIfInBounds_toArray, List.set_cons_zero, List.set_cons_succ]
  refine wpAnyH_take (i := 8) (v := ?_) rfl (by kernel_rfl) (by kernel_rfl) (by kernel_rfl) (fun _ _ _ h => h) (Or.inl ⟨by rfl, ?_⟩) (by assumption) ?_
  rotate_left
  (focus (intro w0 hSw; (try dsimp only at hSw); go_simp <;> with_reducible rfl))
  simp only [List.getElem_toArray, List.getElem_cons_succ, List.getElem_cons_zero, Act.put, List.setIfInBounds_toArray, List.set_cons_zero, List.set_cons_succ]
  refine wpAnyH_take (i := 9) (v := ?_) rfl (by kernel_rfl) (by kernel_rfl) (by kernel_rfl) (fun _ _ _ h => h) (Or.inl ⟨by rfl, ?_⟩) (by assumption) ?_
  rotate_left
  (focus (intro w0 hSw; (try dsimp only at hSw); go_simp <;> with_reducible rfl))
  simp only [List.getElem_toArray, List.getElem_cons_succ, List.getElem_cons_zero, Act.put, List.setIfInBounds_toArray, List.set_cons_zero, List.set_cons_succ]
  refine wpAnyH_done (by kernel_rfl) ?_ _
  clear hHeld hH1 hH2 hH3 hH4 hH5 hb4 hb5 hb6 hb7 hb8 H4 H5 H6 H7 T4 Q5 Bw4 Bw5 Bw6 Bw7 C1 C2 C3 zr r0 r1 r2 BR
  go_wp2
  go_ret2
  exact ⟨a8, _, c8, 0, rfl, (by rw [hbr]; exact HB.out.trans (Bw8.mono (by have := HB.out.size; omega))), .inr ⟨by rw [H1.out, H2.out, H3.out]; rfl, rfl, rfl, H8.out⟩⟩

set_option maxRecDepth 100000 in
set_option maxHeartbeats 8000000 in
theorem docScale_c {w : World} {L : Nat} {aw : Option Addr} {k' cw : Nat} {col' : Nat → Int} {T' : Nat → Nm} {s : Bool} {x : Option Addr} {n c : Nat} {f : Nat → Int} {y : Option Addr} {m d : Nat} {g : Nat → Int} {v' : List (Int × Rat)} {r : Rat}
    (hw : Tl w aw k' col' T') (hr : Rw w x n c f y m d g) (hk' : k' ≤ 1000) (hl' : ∀ j, j < k' → (T' j).n ≤ 1000 ∧ (T' j).m ≤ 1000) (hn : n ≤ 1000) (hm : m ≤ 1000) (hL : L ≤ 100)
    (fw : FvT L w aw k' col' T' v') (fr : rfB s f n g m = true → Rn L w s x n c f y m d g r) :
    Calls Tryz.prog 19 #[.agg #[.bool s, .slice x n c, .slice y m d], .slice aw k' cw] w fun e w' => ∃ ao j cap er, e = .returned (.tuple #[.slice ao j cap, .int .i64 er]) ∧ Below w.heap.size w w' ∧ OV2 (rfB s f n g m && tfB k' col' T') (2 * (10 * (2 * L) + 9)) w' ao j er (mg r [] v') := by
  have HW := hid hw; have HR := hid hr; have FW := hid fw; have FR := hid fr
  have hb0 := below_alloc (Below.refl w.heap.size w) (.cells #[.bool s, .slice x n c, .slice y m d] 25)
  have hB0 := bx3_at w (.bool s) (.slice x n c) (.slice y m d) 25
  clear hw hr fw fr
  go_enter Tryz.func19, Tryz.ntmps19
  go_wp2_with fail
  generalize w.alloc (.cells #[.bool s, .slice x n c, .slice y m d] 25) = w0 at *
  refine (fForm_c (cap := cw) (HW.out.below hb0) (by omega) hl').mono ?_
  rintro e w2 ⟨rfl, hb⟩
  have HB := hid (hb0.trans (hb.mono hb0.size)); have BR := hid (hB0.below hb)
  clear hb hb0 hB0
  cases h2 : tfB k' col' T'
  · have H2 := hid h2
    clear h2 BR
    go_wp2
    go_ret2
    exact ⟨none, 0, 0, 3, rfl, HB.out, .inl ⟨by rw [H2.out, Bool.and_false], rfl, rfl⟩⟩
  have H2 := hid h2
  clear h2
  obtain ⟨zr, r0, r1, r2⟩ := BR.out
  go_wp2_with fail
  refine (qForm_c (s := s) (HR.out.below HB.out) hn hm).mono ?_
  rintro e w3 ⟨rfl, hb⟩
  replace HB := hid (HB.out.trans (hb.mono HB.out.size)); replace BR := hid (BR.out.below hb)
  clear hb zr r0 r1 r2
  cases h3 : rfB s f n g m
  · have H3 := hid h3
    clear h3 BR
    go_wp2
    go_ret2
    exact ⟨none, 0, 0, 3, rfl, HB.out, .inl ⟨by rw [H3.out]; rfl, rfl, rfl⟩⟩
  have H3 := hid h3
  clear h3
  obtain ⟨lw, _, _, hqw⟩ := (FW.out.below HB.out) H2.out
  have HQw := hid hqw; have RR := hid ((FR.out H3.out).below HB.out)
  have TL' := hid (HW.out.below HB.out)
  have hgl : (mg r [] v').length ≤ k' := by have := mg_len r _ [] v' (Nat.le_refl _); simp at this; omega
  obtain ⟨zr, r0, r1, r2⟩ := BR.out
  clear hqw FW FR HW HR
  go_wp2_with fail
  refine (qFrom_c RR.out (by omega)).mono ?_
  rintro e w4 ⟨s4, x4, n4, c4, d4, y4, m4, e4, g4, rfl, hb, hl1, hl2, hq4⟩
  replace HB := hid (HB.out.trans (hb.mono HB.out.size)); have QR := hid hq4
  have HQ4 : Hid (∀ j, j < k' → ∃ q, v'[j]? = some (col' j, q) ∧ Rn L w4 (T' j).s (T' j).x (T' j).n (T' j).c (T' j).f (T' j).y (T' j).m (T' j).d (T' j).g q) := fun j hj => by obtain ⟨q, a, b⟩ := HQw.out j hj; exact ⟨q, a, b.below hb⟩
  replace TL' := hid (TL'.out.below hb)
  clear hb hq4 HQw RR zr r0 r1 r2 BR
  go_wp2_with fail
  refine (fromT_c (L := L) (cap := cw) TL'.out (by omega) (by omega) lw HQ4.out).mono ?_
  rintro e w5 ⟨ay, cy, rfl, hb, hcy, TQ⟩
  replace HB := hid (HB.out.trans (hb.mono HB.out.size)); replace QR := hid (QR.out.below hb)
  clear hb HQ4 TL'
  go_wp2_with fail
  refine (fPlus_c (K := 2 * L) (cv := 0) (cw := cy) (v := []) (fun j a q hj => by simp at hj) TQ.out QR.out (by omega) (by omega) rfl lw (by simp; omega) (by omega)).mono ?_
  rintro e w6 ⟨az, cz, rfl, hb, hcz, TP⟩
  replace HB := hid (HB.out.trans (hb.mono HB.out.size))
  clear hb TQ QR
  obtain ⟨kp, hkp⟩ : ∃ kp, (mg r [] v').length = kp := ⟨_, rfl⟩
  rw [hkp] at hcz hgl ⊢
  go_wp2_with fail
  refine (toT_c (K := 10 * (2 * L) + 9) (cap := cz) TP.out (by omega) (by omega) hkp).mono ?_
  rintro e w7 ⟨a8, c8, rfl, hb, hc8, H8⟩
  replace HB := hid (HB.out.trans (hb.mono HB.out.size))
  clear hb TP
  go_wp2
  go_ret2
  exact ⟨a8, kp, c8, 0, rfl, HB.out, .inr ⟨by rw [H2.out, H3.out]; rfl, rfl, hkp.symm, H8.out⟩⟩
end Go.Proofs.YthofcgpghbaccaaGreat
namespace Go.Proofs.YthofcgpghbaccaaGreat
open Go.RowKit

theorem OV2.below {p L w w' ao n er vs} (h : OV2 p L w ao n er vs) (hb : Below w.heap.size w w') : OV2 p L w' ao n er vs := by
  rcases h with h | ⟨h1, h2, h3, h4⟩
  · exact .inl h
  · exact .inr ⟨h1, h2, h3, h4.below hb⟩
theorem OV.two {p L w ao n cap er vs} (h : OV p L w ao n cap er vs) : OV2 p L w ao n er vs := by
  rcases h with ⟨h1, h2, _, h4, _⟩ | ⟨h1, h2, h3, _, _, _, h7⟩
  · exact .inl ⟨h1, h2, h4⟩
  · exact .inr ⟨h1, h2, h3, h7⟩
theorem ov_same {p L L' w ao n ca er ao' n' cb er' vs} (h1 : OV2 p L w ao n er vs) (h2 : OV2 p L' w ao' n' er' vs) (hvs : p = true → vs.length ≤ 100000) (hL : L ≤ 1048576) (hL' : L' ≤ 1048576) :
    er = er' ∧ Hid (∀ W, Below w.heap.size w W → Calls Tryz.prog 15 #[.slice ao n ca, .slice ao' n' cb] W fun e w' => e = .returned (.bool true) ∧ Below W.heap.size W w') := by
  rcases h1 with ⟨a1, rfl, rfl⟩ | ⟨a1, rfl, rfl, a5⟩ <;> rcases h2 with ⟨b1, rfl, rfl⟩ | ⟨b1, rfl, rfl, b5⟩
  · exact ⟨rfl, fun W _ => vSameNil_c⟩
  · rw [a1] at b1; cases b1
  · rw [a1] at b1; cases b1
  · exact ⟨rfl, fun W hW => vSameEq_c (a5.below hW) (b5.below hW) rfl (by have := hvs a1; omega) hL hL'⟩

set_option maxRecDepth 100000 in
set_option maxHeartbeats 8000000 in
theorem vecSums_c (av : Option Addr) (k cv : Nat) (col : Nat → Int) (T : Nat → Nm) (s : Bool) (x : Option Addr) (n c : Nat) (f : Nat → Int) (y : Option Addr) (m d : Nat) (g : Nat → Int) (aw : Option Addr) (k' cw : Nat) (col' : Nat → Int) (T' : Nat → Nm) (w : World)
    (hv : Tr w av k col T) (hcv : k ≤ cv ∧ cv ≤ 9223372036854775807) (hr : Rw w x n c f y m d g) (hw : Tr w aw k' col' T') (hcw : k' ≤ cw ∧ cw ≤ 9223372036854775807) :
    Calls Tryz.prog 3 #[.slice av k cv, .agg #[.bool s, .slice x n c, .slice y m d], .slice aw k' cw] w fun e w' => e = .returned (.bool true) ∧ Below w.heap.size w w' := by
  have HV := hid hv; have HR := hid hr; have HW := hid hw
  have hB0 := bx3_at w (.bool s) (.slice x n c) (.slice y m d) 25
  have hb0 := below_alloc (Below.refl w.heap.size w) (.cells #[.bool s, .slice x n c, .slice y m d] 25)
  clear hv hr hw
  go_enter Tryz.func3, Tryz.ntmps3
  go_wp2_with fail
  generalize w.alloc (.cells #[.bool s, .slice x n c, .slice y m d] 25) = w0 at *
  refine (vAwake_c _).mono ?_
  rintro e w1 ⟨rfl, hb⟩
  have HB := hid (hb0.trans (hb.mono hb0.size)); have BR := hid (hB0.below hb)
  clear hb0 hB0 hb
  go_wp2_with fail
  refine (vLight_c (cap := cv) (HV.out.below HB.out) (by omega)).mono ?_
  rintro e w2 ⟨rfl, hb⟩
  replace HB := hid (HB.out.trans (hb.mono HB.out.size)); replace BR := hid (BR.out.below hb)
  clear hb
  cases hl1 : (decide (k ≤ 200) && nlg 10 T k 0)
  · clear BR
    go_wp2
    go_ret
    exact ⟨rfl, HB.out⟩
  go_wp2_with fail
  refine (vLight_c (cap := cw) (HW.out.below HB.out) (by omega)).mono ?_
  rintro e w2b ⟨rfl, hb⟩
  replace HB := hid (HB.out.trans (hb.mono HB.out.size)); replace BR := hid (BR.out.below hb)
  clear hb
  cases hl2 : (decide (k' ≤ 200) && nlg 10 T' k' 0)
  · clear BR
    go_wp2
    go_ret
    exact ⟨rfl, HB.out⟩
  obtain ⟨zr, r0, r1, r2⟩ := BR.out
  go_wp2_with fail
  refine (rLightK_c 10 s x y n c m d _).mono ?_
  rintro e w3 ⟨rfl, hb⟩
  clear zr r0 r1 r2
  replace HB := hid (HB.out.trans (hb.mono HB.out.size)); replace BR := hid (BR.out.below hb)
  clear hb
  cases hl3 : lg n m 10
  · clear BR
    go_wp2
    go_ret
    exact ⟨rfl, HB.out⟩
  rw [Bool.and_eq_true, decide_eq_true_eq] at hl1 hl2
  obtain ⟨hk200, hl1⟩ := hl1
  obtain ⟨hk200', hl2⟩ := hl2
  have hnm : n ≤ 10 ∧ m ≤ 10 := by simpa [lg] using hl3
  obtain ⟨hn10, hm10⟩ := hnm
  have TL := hid (HV.out.tl hl1 (by decide)); have TL' := hid (HW.out.tl hl2 (by decide))
  have hall : ∀ j, j < k → (T j).n ≤ 10 ∧ (T j).m ≤ 10 := fun j hj => nlg_all hl1 j (by omega) (by omega)
  have hall' : ∀ j, j < k' → (T' j).n ≤ 10 ∧ (T' j).m ≤ 10 := fun j hj => nlg_all hl2 j (by omega) (by omega)
  have HA2 : Hid (∀ j, j < k → (T j).n ≤ 1000 ∧ (T j).m ≤ 1000) := fun j hj => ⟨Nat.le_trans (hall j hj).1 (by decide), Nat.le_trans (hall j hj).2 (by decide)⟩
  have HW2 : Hid (∀ j, j < k' → (T' j).n ≤ 1000 ∧ (T' j).m ≤ 1000) := fun j hj => ⟨Nat.le_trans (hall' j hj).1 (by decide), Nat.le_trans (hall' j hj).2 (by decide)⟩
  obtain ⟨v, hfv⟩ := fvt_ex TL.out hall
  obtain ⟨v', hfw⟩ := fvt_ex TL'.out hall'
  obtain ⟨r, hfr⟩ : ∃ r : Rat, rfB s f n g m = true → Rn 10 w s x n c f y m d g r := by
    by_cases h : rfB s f n g m = true
    · obtain ⟨r, hr⟩ := HR.out.rn h hn10 hm10
      exact ⟨r, fun _ => hr⟩
    · exact ⟨0, fun h' => absurd h' h⟩
  have FV := hid hfv; have FW := hid hfw; have FR := hid hfr
  clear hall hall' hl1 hl2 hl3 HV HW hfv hfw hfr
  have HFrt : Hid (∀ (W : World) (z c1 z2 c2), Rw W z n c1 f z2 m c2 g → NmR W ⟨s, z, n, c1, f, z2, m, c2, g⟩ ∧ (nfB ⟨s, z, n, c1, f, z2, m, c2, g⟩ = true → Rn 10 W s z n c1 f z2 m c2 g r)) := fun W z c1 z2 c2 h => ⟨⟨h, by show n ≤ 65536; omega, by show m ≤ 65536; omega⟩, fun hf => Rn.sn (t := ⟨s, x, n, c, f, y, m, d, g⟩) (t' := ⟨s, z, n, c1, f, z2, m, c2, g⟩) (FR.out hf) ⟨rfl, rfl, rfl, rfl, rfl⟩ h⟩
  obtain ⟨zr, r0, r1, r2⟩ := BR.out
  have C1 : Hid (∀ W, Below w3.heap.size w3 W → Calls Tryz.prog 12 #[.slice av k cv] W fun e w' => TwAns W w' e k col T) := fun W hW => twinT_c ((TL.out.below HB.out).below hW) (by omega) HA2.out
  have C2 : Hid (∀ W, Below w3.heap.size w3 W → Calls Tryz.prog 13 #[.agg #[.bool s, .slice x n c, .slice y m d]] W fun e w' => ∃ z c' z2 c2, e = .returned (.agg #[.bool s, .slice z n c', .slice z2 m c2]) ∧ Below W.heap.size W w' ∧ Hid (Rw w' z n c' f z2 m c2 g)) := fun W hW => qTwin_c ((HR.out.below HB.out).below hW) (by omega) (by omega)
  have C3 : Hid (∀ W, Below w3.heap.size w3 W → Calls Tryz.prog 12 #[.slice aw k' cw] W fun e w' => TwAns W w' e k' col' T') := fun W hW => twinT_c ((TL'.out.below HB.out).below hW) (by omega) HW2.out
  have CP : Hid (∀ (W : World) (a1 : Option Addr) (c1 : Nat) (T1 : Nat → Nm) (z : Option Addr) (cz : Nat) (z2 : Option Addr) (cz2 : Nat) (a2 : Option Addr) (c2 : Nat) (T2 : Nat → Nm), Tl W a1 k col T1 → (∀ j, j < k → Sn (T j) (T1 j)) → k ≤ c1 ∧ c1 ≤ 9223372036854775807 → Rw W z n cz f z2 m cz2 g → Tl W a2 k' col' T2 → (∀ j, j < k' → Sn (T' j) (T2 j)) → k' ≤ c2 ∧ c2 ≤ 9223372036854775807 → Calls Tryz.prog 11 #[.slice a1 k c1, .agg #[.bool s, .slice z n cz, .slice z2 m cz2], .slice a2 k' c2] W fun e w' => ∃ ao j cap er, e = .returned (.tuple #[.slice ao j cap, .int .i64 er]) ∧ Below W.heap.size W w' ∧ Hid (OV2 (tfB k col T && (rfB s f n g m && tfB k' col' T')) 43 w' ao j er (mg r v v'))) := fun W a1 c1 T1 z cz z2 cz2 a2 c2 T2 t1 s1 b1 hz t2 s2 b2 => by
    obtain ⟨he1, hf1⟩ := fvt_twin FV.out t1 s1
    obtain ⟨he2, hf2⟩ := fvt_twin FW.out t2 s2
    obtain ⟨hnm, hfn⟩ := HFrt.out W z cz z2 cz2 hz
    refine (vPlus_c (v := v) (v' := v') (r := r) t1 t2 hnm (by omega) b1 b2 (L := 10) (by decide) (fun h => ⟨(hf1 h).1, (hf1 h).2.1⟩) (fun h => ⟨(hf2 h).1, (hf2 h).2.1⟩) hfn).mono ?_
    rintro e w' ⟨ao, j, cap, er, h1, h2, h3⟩
    rw [he1, he2] at h3
    exact ⟨ao, j, cap, er, h1, h2, h3.two⟩
  generalize hbr : w.heap.size = br at *
  go_upto_region 5 with fail
  refine wp_region_held_drew (S := fun w' => w'.cell? ⟨br, 0, none⟩ = some (.bool s) ∧ w'.cell? ⟨br, 1, none⟩ = some (.slice x n c) ∧ w'.cell? ⟨br, 2, none⟩ = some (.slice y m d)) (by kernel_rfl) ?_ (fun hHeld => ?_)
  · (refine ⟨?_, ?_, ?_⟩ <;> repeat (with_reducible first | assumption | refine kCd ?_))
  refine wpAnyH_take (i := 0) (v := ?_) rfl (by kernel_rfl) (by kernel_rfl) (by kernel_rfl) (fun _ _ _ h => h) (Or.inl ⟨by rfl, ?_⟩) (by assumption) ?_
  rotate_left
  (focus (intro w0 hSw; (try dsimp only at hSw); go_simp <;> with_reducible rfl))
  simp only [List.getElem_toArray, List.getElem_cons_zero, Act.put, List.setIfInBounds_toArray, List.set_cons_zero, List.set_cons_succ]
  refine wpAnyH_take (i := 2) (v := ?_) rfl (by kernel_rfl) (by kernel_rfl) (by kernel_rfl) (fun _ _ _ h => h) (Or.inl ⟨by rfl, ?_⟩) (by assumption) ?_
  rotate_left
  (focus (intro w0 hSw; (try dsimp only at hSw); go_simp <;> with_reducible rfl))
  simp only [List.getElem_toArray, List.getElem_cons_succ, List.getElem_cons_zero, Act.put, List.setIfInBounds_toArray, List.set_cons_zero, List.set_cons_succ]
  refine wpAnyH_take (i := 4) (v := ?_) rfl (by kernel_rfl) (by kernel_rfl) (by kernel_rfl) (fun _ _ _ h => h) (Or.inl ⟨by rfl, ?_⟩) (by assumption) ?_
  rotate_left
  (focus (intro w0 hSw; (try dsimp only at hSw); go_simp <;> with_reducible rfl))
  simp only [List.getElem_toArray, List.getElem_cons_succ, List.getElem_cons_zero, Act.put, List.setIfInBounds_toArray, List.set_cons_zero, List.set_cons_succ]
  refine wpAnyH_ready (rs := [1]) (by kernel_rfl) (by simp) ?_
  refine AllReadyH.cons (o := _) rfl (fun K hK => ?_) ?_
  rotate_left
  exact AllReadyH.nil
  go_simp
  go_at_call 12
  with_reducible refine (C1.out _ (by repeat (with_reducible first | assumption | exact Below.refl _ _ | refine Below.drew ?_ | refine kBb (by assumption) ?_))).mono ?_
  rintro en w4 ⟨a4, c4, T4n, rfl, hb4, hc4, H4⟩
  have Bw4 : Below w3.heap.size w3 w4 := (by repeat (with_reducible first | assumption | exact Below.refl _ _ | refine Below.drew ?_ | refine kBb (by assumption) ?_))
  (try go_wp2_with fail)
  refine hK.out _ _ ?_ (fun hH1 => ?_)
  · ((try dsimp only); (refine ⟨?_, ?_, ?_⟩ <;> repeat (with_reducible first | assumption | refine kCb Bw4 ?_)))
  clear hK K
  try simp only [Act.put, List.setIfInBounds_toArray, List.set_cons_zero, List.set_cons_succ]
  refine wpAnyH_ready (rs := [3]) (by kernel_rfl) (by simp) ?_
  refine AllReadyH.cons (o := _) rfl (fun K hK => ?_) ?_
  rotate_left
  exact AllReadyH.nil
  go_simp
  go_at_call 13
  with_reducible refine (C2.out _ (by repeat (with_reducible first | assumption | exact Below.refl _ _ | refine Below.drew ?_ | refine kBb (by assumption) ?_))).mono ?_
  rintro en w5 ⟨z5, c5, zz5, cc5, rfl, hb5, H5⟩
  have Bw5 : Below w3.heap.size w3 w5 := (by repeat (with_reducible first | assumption | exact Below.refl _ _ | refine Below.drew ?_ | refine kBb (by assumption) ?_))
  (try go_wp2_with fail)
  refine hK.out _ _ ?_ (fun hH2 => ?_)
  · ((try dsimp only); (refine ⟨?_, ?_, ?_⟩ <;> repeat (with_reducible first | assumption | refine kCb Bw5 ?_)))
  clear hK K
  try simp only [Act.put, List.setIfInBounds_toArray, List.set_cons_zero, List.set_cons_succ]
  refine wpAnyH_ready (rs := [5]) (by kernel_rfl) (by simp) ?_
  refine AllReadyH.cons (o := _) rfl (fun K hK => ?_) ?_
  rotate_left
  exact AllReadyH.nil
  go_simp
  go_at_call 12
  with_reducible refine (C3.out _ (by repeat (with_reducible first | assumption | exact Below.refl _ _ | refine Below.drew ?_ | refine kBb (by assumption) ?_))).mono ?_
  rintro en w6 ⟨a6, c6, T6n, rfl, hb6, hc6, H6⟩
  have Bw6 : Below w3.heap.size w3 w6 := (by repeat (with_reducible first | assumption | exact Below.refl _ _ | refine Below.drew ?_ | refine kBb (by assumption) ?_))
  have T4 := (H4.out.1.below hb5).below hb6
  have Q5 := H5.out.below hb6
  (try go_wp2_with fail)
  refine hK.out _ _ ?_ (fun hH3 => ?_)
  · ((try dsimp only); (refine ⟨?_, ?_, ?_⟩ <;> repeat (with_reducible first | assumption | refine kCb Bw6 ?_)))
  clear hK K
  try simp only [Act.put, List.setIfInBounds_toArray, List.set_cons_zero, List.set_cons_succ]
  refine wpAnyH_ready (rs := [6]) (by kernel_rfl) (by simp) ?_
  refine AllReadyH.cons (o := _) rfl (fun K hK => ?_) ?_
  rotate_left
  exact AllReadyH.nil
  go_simp
  go_at_call 11
  with_reducible refine (CP.out _ a4 c4 T4n z5 c5 zz5 cc5 a6 c6 T6n T4 H4.out.2 hc4 Q5 H6.out.1 H6.out.2 hc6).mono ?_
  rintro en w7 ⟨a7, j7, c7, er7, rfl, hb7, H7⟩
  have Bw7 : Below w3.heap.size w3 w7 := (by repeat (with_reducible first | assumption | exact Below.refl _ _ | refine Below.drew ?_ | refine kBb (by assumption) ?_))
  (try go_wp2_with fail)
  refine hK.out _ _ ?_ (fun hH4 => ?_)
  · ((try dsimp only); (refine ⟨?_, ?_, ?_⟩ <;> repeat (with_reducible first | assumption | refine kCb Bw7 ?_)))
  clear hK K
  try simp only [Act.put, List.setIfInBounds_toArray, List.set_cons_zero, List.set_cons_succ]
  refine wpAnyH_take (i := 7) (v := ?_) rfl (by kernel_rfl) (by kernel_rfl) (by kernel_rfl) (fun _ _ _ h => h) (Or.inl ⟨by rfl, ?_⟩) (by assumption) ?_
  rotate_left
  (focus (intro w0 hSw; (try dsimp only at hSw); go_simp <;> with_reducible rfl))
  simp only [List.getElem_toArray, List.getElem_cons_succ, List.getElem_cons_zero, Act.put, List.setIfInBounds_toArray, List.set_cons_zero, List.set_cons_succ]
  refine wpAnyH_take (i := 8) (v := ?_) rfl (by kernel_rfl) (by kernel_rfl) (by kernel_rfl) (fun _ _ _ h => h) (Or.inl ⟨by rfl, ?_⟩) (by assumption) ?_
  rotate_left
  (focus (intro w0 hSw; (try dsimp only at hSw); go_simp <;> with_reducible rfl))
  simp only [List.getElem_toArray, List.getElem_cons_succ, List.getElem_cons_zero, Act.put, List.setIfInBounds_toArray, List.set_cons_zero, List.set_cons_succ]
  refine wpAnyH_take (i := 9) (v := ?_) rfl (by kernel_rfl) (by kernel_rfl) (by kernel_rfl) (fun _ _ _ h => h) (Or.inl ⟨by rfl, ?_⟩) (by assumption) ?_
  rotate_left
  (focus (intro w0 hSw; (try dsimp only at hSw); go_simp <;> with_reducible rfl))
  simp only [List.getElem_toArray, List.getElem_cons_succ, List.getElem_cons_zero, Act.put, List.setIfInBounds_toArray, List.set_cons_zero, List.set_cons_succ]
  refine wpAnyH_take (i := 10) (v := ?_) rfl (by kernel_rfl) (by kernel_rfl) (by kernel_rfl) (fun _ _ _ h => h) (Or.inl ⟨by rfl, ?_⟩) (by assumption) ?_
  rotate_left
  (focus (intro w0 hSw; (try dsimp only at hSw); go_simp <;> with_reducible rfl))
  simp only [List.getElem_toArray, List.getElem_cons_succ, List.getElem_cons_zero, Act.put, List.setIfInBounds_toArray, List.set_cons_zero, List.set_cons_succ]
  refine wpAnyH_take (i := 11) (v := ?_) rfl (by kernel_rfl) (by kernel_rfl) (by kernel_rfl) (fun _ _ _ h => h) (Or.inl ⟨by rfl, ?_⟩) (by assumption) ?_
  rotate_left
  (focus (intro w0 hSw; (try dsimp only at hSw); go_simp <;> with_reducible rfl))
  simp only [List.getElem_toArray, List.getElem_cons_succ, List.getElem_cons_zero, Act.put, List.setIfInBounds_toArray, List.set_cons_zero, List.set_cons_succ]
  refine wpAnyH_done (by kernel_rfl) ?_ _
  replace HB : Hid (Below br w w7) := HB.out.trans (Bw7.mono (by have := HB.out.size; omega)); replace BR := hid (BR.out.below Bw7)
  have O1 := hid H7.out
  clear hHeld hH1 hH2 hH3 hH4 hb4 hb5 hb6 hb7 H4 H5 H6 H7 T4 Q5 Bw4 Bw5 Bw6 Bw7 C1 C2 C3 CP zr r0 r1 r2
  subst hbr
  obtain ⟨zr, r0, r1, r2⟩ := BR.out
  go_wp2_with fail
  refine (docPlus_c (L := 10) (cv := cv) (cw := cw) (v := v) (v' := v') (r := r) (TL.out.below HB.out) (TL'.out.below HB.out) (HR.out.below HB.out) (by omega) (by omega) HA2.out HW2.out (by omega) (by omega) (by decide) (FV.out.below HB.out) (FW.out.below HB.out) (fun h => (FR.out h).below HB.out)).mono ?_
  rintro e w8 ⟨ae, ne, ce, er4, rfl, hb, ho⟩
  replace HB := hid (HB.out.trans (hb.mono HB.out.size)); replace O1 := hid (O1.out.below hb); replace BR := hid (BR.out.below hb)
  obtain ⟨her, hsm⟩ := ov_same (ca := c7) (cb := ce) O1.out ho (fun h => by
    rw [Bool.and_eq_true, Bool.and_eq_true] at h
    have h1 := (FV.out h.1).1; have h2 := (FW.out h.2.2).1; have h3 := mg_len r _ v v' (Nat.le_refl _)
    omega) (by decide) (by decide)
  subst her
  have SM := hid (hsm.out _ (Below.refl _ _))
  clear hb ho O1 hsm zr r0 r1 r2
  have hee : (er7 != er7) = false := by simp
  go_wp2_with fail
  refine SM.out.mono ?_
  rintro e w9 ⟨rfl, hb⟩
  replace HB := hid (HB.out.trans (hb.mono HB.out.size)); replace BR := hid (BR.out.below hb)
  clear hb SM
  go_wp2_with fail
  refine (vForm_c (cap := cv) (TL.out.below HB.out) (by omega)).mono ?_
  rintro e w10 ⟨rfl, hb⟩
  replace HB := hid (HB.out.trans (hb.mono HB.out.size)); replace BR := hid (BR.out.below hb)
  clear hb
  go_wp2_with fail
  refine (fForm_c (cap := cv) (TL.out.below HB.out) (by omega) HA2.out).mono ?_
  rintro e w11 ⟨rfl, hb⟩
  replace HB := hid (HB.out.trans (hb.mono HB.out.size)); replace BR := hid (BR.out.below hb)
  clear hb
  have hbb : (tfB k col T != tfB k col T) = false := by cases tfB k col T <;> rfl
  obtain ⟨zr, r0, r1, r2⟩ := BR.out
  go_wp2_with fail
  refine (qTwin_c (s := s) (HR.out.below HB.out) (by omega) (by omega)).mono ?_
  rintro e w12 ⟨z5, c5, z6, c6, rfl, hb, H5⟩
  replace HB := hid (HB.out.trans (hb.mono HB.out.size)); replace BR := hid (BR.out.below hb)
  clear hb zr r0 r1 r2
  go_wp2_with fail
  refine (twinT_c (cap := cv) (TL.out.below HB.out) (by omega) HA2.out).mono ?_
  rintro e w13 ⟨a6, c66, T1, rfl, hb, hc66, TT⟩
  replace HB := hid (HB.out.trans (hb.mono HB.out.size)); replace BR := hid (BR.out.below hb); replace H5 := hid (H5.out.below hb)
  obtain ⟨he1, hf1⟩ := fvt_twin (FV.out) TT.out.1 TT.out.2
  obtain ⟨hnm, hfn⟩ := HFrt.out w13 z5 c5 z6 c6 H5.out
  clear hb
  go_wp2_with fail
  refine (vScale_c (v' := v) (r := r) TT.out.1 hnm (by omega) hc66 (L := 10) (by decide) (fun h => ⟨(hf1 h).1, (hf1 h).2.1⟩) hfn).mono ?_
  rw [he1]
  rintro e w14 ⟨ad, nd, cd, er5, rfl, hb, ho⟩
  replace HB := hid (HB.out.trans (hb.mono HB.out.size)); replace BR := hid (BR.out.below hb)
  have O1 : Hid (OV2 (rfB s f n g m && tfB k col T) 43 w14 ad nd er5 (mg r [] v)) := ho.two
  clear hb ho TT he1 hf1 hnm hfn H5
  obtain ⟨zr, r0, r1, r2⟩ := BR.out
  go_wp2_with fail
  refine (docScale_c (L := 10) (cw := cv) (v' := v) (r := r) (TL.out.below HB.out) (HR.out.below HB.out) (by omega) HA2.out (by omega) (by omega) (by decide) (FV.out.below HB.out) (fun h => (FR.out h).below HB.out)).mono ?_
  rintro e w15 ⟨ae2, ne2, ce2, er6, rfl, hb, ho⟩
  replace HB := hid (HB.out.trans (hb.mono HB.out.size)); replace O1 := hid (O1.out.below hb)
  obtain ⟨her, hsm⟩ := ov_same (ca := cd) (cb := ce2) O1.out ho (fun h => by
    rw [Bool.and_eq_true] at h
    have h1 := (FV.out h.2).1; have h3 := mg_len r _ [] v (Nat.le_refl _)
    simp at h3; omega) (by decide) (by decide)
  subst her
  have SM := hid (hsm.out _ (Below.refl _ _))
  clear hb ho O1 hsm zr r0 r1 r2 BR
  have hee2 : (er5 == er5) = true := by simp
  go_wp2_with fail
  refine SM.out.mono ?_
  rintro e w16 ⟨rfl, hb⟩
  replace HB := hid (HB.out.trans (hb.mono HB.out.size))
  clear hb SM
  go_wp2
  go_ret
  exact ⟨rfl, HB.out⟩
end Go.Proofs.YthofcgpghbaccaaGreat
