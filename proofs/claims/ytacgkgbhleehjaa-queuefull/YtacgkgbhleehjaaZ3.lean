/-
  The walk of the reference's with. Walks of the reference's Has, Push, Pop, Fix, Remove. Walks of the statements' same and step. The walk of the statements' step. The walk of the statement QueueRuns.
-/
import Derived.Test.YtacgkgbhleehjaaZ2
import Derived.Test.YtacgkgbhleehjaaZ0
namespace Go.Proofs.Ytacgkgbhleehjaa
open Go.RowKit Go.Sort Go.MapKept

theorem ins_at {l : List (Int × Int)} {x : Int × Int} {k : Nat} (hk : k ≤ l.length) (h1 : ∀ j, j < k → ahd (atL l j) x) (h2 : k = l.length ∨ ¬ ahd (atL l k) x) : l.take k ++ [x] ++ l.drop k = insL l x := by
  induction l generalizing k with
  | nil => simp at hk; subst hk; rfl
  | cons a r ih =>
    cases k with
    | zero =>
      have h3 : ¬ ahd a x := by
        rcases h2 with h2 | h2
        · simp at h2
        · exact h2
      simp [insL, ahB, h3]
    | succ k =>
      have h0 : ahd a x := h1 0 (by omega)
      have := ih (k := k) (by simpa using hk) (fun j hj => h1 (j + 1) (by omega)) (by simpa [atL] using h2)
      have e : insL (a :: r) x = a :: insL r x := by simp [insL, ahB, h0]
      rw [e, ← this]
      simp
theorem rl_one (w : World) (x0 x1 : Int) : RL (w.alloc (.cells #[.int .i64 x0, .int .i64 x1] 53)) (some ⟨w.heap.size, 0, none⟩) 1 (atL [(x0, x1)]) := fun j hj => by
  obtain rfl : j = 0 := by omega
  have := cells_at (heap_alloc w (.cells #[.int .i64 x0, .int .i64 x1] 53)).1
  exact ⟨w.heap.size, 0, rfl, this.1, this.2⟩
theorem kBd0 {w w' : World} (h : Below w.drew.heap.size w.drew w') : Below w.heap.size w w' := ⟨h.os, h.tape, h.output, h.size, h.block⟩
theorem kBd {w w' : World} {B : Nat} (h : Below w.drew.heap.size w.drew w') (hB : B ≤ w.heap.size) : Below B w w' := Below.mono (kBd0 h) hB
set_option maxRecDepth 100000 in
set_option maxHeartbeats 8000000 in
theorem withS_c {w : World} {b o cap : Nat} {l : List (Int × Int)} {x0 x1 : Int} (hr : RL w (some ⟨b, o, none⟩) l.length (atL l)) (hc : l.length ≤ cap) (hl : l.length ≤ 400000) : Calls Try.prog 32 #[.slice (some ⟨b, o, none⟩) l.length cap, .agg #[.int .i64 x0, .int .i64 x1]] w fun e w' => RrN w (insL l (x0, x1)) e w' := by
  have h1 : Below w.heap.size w (w.alloc (.cells #[.int .i64 x0, .int .i64 x1] 53)) := (Below.refl _ _).alloc (Nat.le_refl _) _
  have bx := cells_at (heap_alloc w (.cells #[.int .i64 x0, .int .i64 x1] 53)).1
  have H1 := hid h1; have HR := hid hr; have BX := hid bx
  have hc' : (l.length : Int) ≤ cap := by omega
  generalize hL : l.length = L at *
  have HL := hid hL
  clear h1 hr bx hL
  go_enter Try.func32, Try.ntmps32
  go_wp2_with fail
  generalize hw1 : w.alloc (.cells #[.int .i64 x0, .int .i64 x1] 53) = w1 at *
  generalize hB : w.heap.size = B at *
  have hBw := hid hB
  clear hw1
  go_loopw [5] (fun t wr => ∃ (k : Nat), k ≤ L ∧ t = .int .i64 k ∧ Hid (Below w1.heap.size w1 wr) ∧ Hid (∀ j, j < k → ahd (atL l j) (x0, x1))) (fun t _ => L - (intOf t).toNat)
  case atStart => exact ⟨0, by omega, rfl, Below.refl _ _, fun j hj => by omega⟩
  case round =>
    obtain ⟨k, hk, rfl, HB, HE⟩ := hrel
    have y0 : wr.cell? ⟨B, 0, none⟩ = some (.int .i64 x0) := kCb HB.out BX.out.1
    have y1 : wr.cell? ⟨B, 1, none⟩ = some (.int .i64 x1) := kCb HB.out BX.out.2
    have hs1 : w.heap.size ≤ w1.heap.size := H1.out.size
    have HW := hid (show Below w.heap.size w wr from by have := H1.out; rw [← hBw.out] at this; exact this.trans (HB.out.mono this.size))
    have HRr := hid (HR.out.below (show Below w.heap.size w wr from HW.out))
    by_cases hlt : k < L
    · have hlt' : (k : Int) < L := by omega
      obtain ⟨b', o', eb, c0, c1⟩ := HRr.out k hlt
      cases eb
      by_cases ha : ahd (atL l k) (x0, x1)
      · have HA := hid (fun W => ahead_c (atL l k) (x0, x1) W)
        have hav : ahB (atL l k) (x0, x1) = true := decide_eq_true ha
        rw [hav] at HA
        have HE2 := hid (show ∀ j, j < k + 1 → ahd (atL l j) (x0, x1) from fun j hj => by
          by_cases e : j = k
          · subst e; exact ha
          · exact HE.out j (by omega))
        generalize (atL l k).2 = d1 at *
        generalize (atL l k).1 = d0 at *
        clear ha hav HE
        go_wp2_with fail
        refine wp_region_held_drew (S := (fun w' => w'.cell? ⟨b, o + k * 2, none⟩ = some (.int .i64 d0) ∧ w'.cell? ⟨b, o + k * 2 + 1, none⟩ = some (.int .i64 d1) ∧ w'.cell? ⟨B, 0, none⟩ = some (.int .i64 x0) ∧ w'.cell? ⟨B, 1, none⟩ = some (.int .i64 x1))) (by kernel_rfl) ?_ (fun hHeld => ?_)
        · (refine ⟨?_, ?_, ?_, ?_⟩ <;> repeat (with_reducible first | assumption | refine kCd ?_))
        refine wpAnyH_take (i := 0) (v := ?_) rfl (by kernel_rfl) (by kernel_rfl) (by kernel_rfl) (fun _ _ _ h => h) (Or.inl ⟨by rfl, ?_⟩) (by assumption) ?_
        rotate_left
        (focus (intro w0 hSw; (try dsimp only at hSw); go_simp <;> with_reducible rfl))
        simp only [List.getElem_toArray, List.getElem_cons_zero, Act.put, List.setIfInBounds_toArray, List.set_cons_zero, List.set_cons_succ]
        refine wpAnyH_take (i := 1) (v := ?_) rfl (by kernel_rfl) (by kernel_rfl) (by kernel_rfl) (fun _ _ _ h => h) (Or.inl ⟨by rfl, ?_⟩) (by assumption) ?_
        rotate_left
        (focus (intro w0 hSw; (try dsimp only at hSw); go_simp <;> with_reducible rfl))
        simp only [List.getElem_toArray, List.getElem_cons_succ, List.getElem_cons_zero, Act.put, List.setIfInBounds_toArray, List.set_cons_zero, List.set_cons_succ]
        refine wpAnyH_take (i := 2) (v := ?_) rfl (by kernel_rfl) (by kernel_rfl) (by kernel_rfl) (fun _ _ _ h => h) (Or.inl ⟨by rfl, ?_⟩) (by assumption) ?_
        rotate_left
        (focus (intro w0 hSw; (try dsimp only at hSw); go_simp <;> with_reducible rfl))
        simp only [List.getElem_toArray, List.getElem_cons_succ, List.getElem_cons_zero, Act.put, List.setIfInBounds_toArray, List.set_cons_zero, List.set_cons_succ]
        refine wpAnyH_take (i := 3) (v := ?_) rfl (by kernel_rfl) (by kernel_rfl) (by kernel_rfl) (fun _ _ _ h => h) (Or.inl ⟨by rfl, ?_⟩) (by assumption) ?_
        rotate_left
        (focus (intro w0 hSw; (try dsimp only at hSw); go_simp <;> with_reducible rfl))
        simp only [List.getElem_toArray, List.getElem_cons_succ, List.getElem_cons_zero, Act.put, List.setIfInBounds_toArray, List.set_cons_zero, List.set_cons_succ]
        refine wpAnyH_take (i := 4) (v := ?_) rfl (by kernel_rfl) (by kernel_rfl) (by kernel_rfl) (fun _ _ _ h => h) (Or.inl ⟨by rfl, ?_⟩) (by assumption) ?_
        rotate_left
        (focus (intro w0 hSw; (try dsimp only at hSw); go_simp <;> with_reducible rfl))
        simp only [List.getElem_toArray, List.getElem_cons_succ, List.getElem_cons_zero, Act.put, List.setIfInBounds_toArray, List.set_cons_zero, List.set_cons_succ]
        refine wpAnyH_take (i := 5) (v := ?_) rfl (by kernel_rfl) (by kernel_rfl) (by kernel_rfl) (fun _ _ _ h => h) (Or.inl ⟨by rfl, ?_⟩) (by assumption) ?_
        rotate_left
        (focus (intro w0 hSw; (try dsimp only at hSw); go_simp <;> with_reducible rfl))
        simp only [List.getElem_toArray, List.getElem_cons_succ, List.getElem_cons_zero, Act.put, List.setIfInBounds_toArray, List.set_cons_zero, List.set_cons_succ]
        refine wpAnyH_take (i := 6) (v := ?_) rfl (by kernel_rfl) (by kernel_rfl) (by kernel_rfl) (fun _ _ _ h => h) (Or.inl ⟨by rfl, ?_⟩) (by assumption) ?_
        rotate_left
        (focus (intro w0 hSw; (try dsimp only at hSw); go_simp <;> with_reducible rfl))
        simp only [List.getElem_toArray, List.getElem_cons_succ, List.getElem_cons_zero, Act.put, List.setIfInBounds_toArray, List.set_cons_zero, List.set_cons_succ]
        refine wpAnyH_take (i := 7) (v := ?_) rfl (by kernel_rfl) (by kernel_rfl) (by kernel_rfl) (fun _ _ _ h => h) (Or.inl ⟨by rfl, ?_⟩) (by assumption) ?_
        rotate_left
        (focus (intro w0 hSw; (try dsimp only at hSw); go_simp <;> with_reducible rfl))
        simp only [List.getElem_toArray, List.getElem_cons_succ, List.getElem_cons_zero, Act.put, List.setIfInBounds_toArray, List.set_cons_zero, List.set_cons_succ]
        refine wpAnyH_take (i := 8) (v := ?_) rfl (by kernel_rfl) (by kernel_rfl) (by kernel_rfl) (fun _ _ _ h => h) (Or.inl ⟨by rfl, ?_⟩) (by assumption) ?_
        rotate_left
        (focus (intro w0 hSw; (try dsimp only at hSw); go_simp <;> with_reducible rfl))
        simp only [List.getElem_toArray, List.getElem_cons_succ, List.getElem_cons_zero, Act.put, List.setIfInBounds_toArray, List.set_cons_zero, List.set_cons_succ]
        refine wpAnyH_take (i := 9) (v := ?_) rfl (by kernel_rfl) (by kernel_rfl) (by kernel_rfl) (fun _ _ _ h => h) (Or.inl ⟨by rfl, ?_⟩) (by assumption) ?_
        rotate_left
        (focus (intro w0 hSw; (try dsimp only at hSw); go_simp <;> with_reducible rfl))
        simp only [List.getElem_toArray, List.getElem_cons_succ, List.getElem_cons_zero, Act.put, List.setIfInBounds_toArray, List.set_cons_zero, List.set_cons_succ]
        refine wpAnyH_ready (rs := [10]) (by kernel_rfl) (by simp) ?_
        refine AllReadyH.cons (o := _) rfl (fun K hK => ?_) ?_
        rotate_left
        exact AllReadyH.nil
        go_simp
        refine (HA.out _).mono ?_
        rintro e w4 ⟨rfl, hb4⟩
        refine hK.out _ _ ?_ (fun hH1 => ?_)
        · ((try dsimp only); (refine ⟨?_, ?_, ?_, ?_⟩ <;> repeat (with_reducible first | assumption | refine kCd ?_ | refine kCb (by assumption) ?_)))
        clear hK K
        try simp only [Act.put, List.setIfInBounds_toArray, List.set_cons_zero, List.set_cons_succ]
        refine wpAnyH_take (i := 11) (v := ?_) rfl (by kernel_rfl) (by kernel_rfl) (by kernel_rfl) (fun _ _ _ h => h) (Or.inl ⟨by rfl, ?_⟩) (by assumption) ?_
        rotate_left
        (focus (intro w0 hSw; (try dsimp only at hSw); go_simp <;> with_reducible rfl))
        simp only [List.getElem_toArray, List.getElem_cons_succ, List.getElem_cons_zero, Act.put, List.setIfInBounds_toArray, List.set_cons_zero, List.set_cons_succ]
        refine wpAnyH_done (by kernel_rfl) ?_ _
        go_wp2_with fail
        go_roundw
        case rel => exact ⟨k + 1, by omega, by go_num, HB.out.trans (kBd hb4 HB.out.size), HE2⟩
        case measure => simp [intOf]; omega
      · have HA := hid (fun W => ahead_c (atL l k) (x0, x1) W)
        have hav : ahB (atL l k) (x0, x1) = false := decide_eq_false ha
        rw [hav] at HA
        have HI := hid (ins_at (x := (x0, x1)) (by rw [HL.out]; omega) HE.out (.inr ha))
        generalize (atL l k).2 = d1 at *
        generalize (atL l k).1 = d0 at *
        clear ha hav HE
        go_wp2_with fail
        refine wp_region_held_drew (S := (fun w' => w'.cell? ⟨b, o + k * 2, none⟩ = some (.int .i64 d0) ∧ w'.cell? ⟨b, o + k * 2 + 1, none⟩ = some (.int .i64 d1) ∧ w'.cell? ⟨B, 0, none⟩ = some (.int .i64 x0) ∧ w'.cell? ⟨B, 1, none⟩ = some (.int .i64 x1))) (by kernel_rfl) ?_ (fun hHeld => ?_)
        · (refine ⟨?_, ?_, ?_, ?_⟩ <;> repeat (with_reducible first | assumption | refine kCd ?_))
        refine wpAnyH_take (i := 0) (v := ?_) rfl (by kernel_rfl) (by kernel_rfl) (by kernel_rfl) (fun _ _ _ h => h) (Or.inl ⟨by rfl, ?_⟩) (by assumption) ?_
        rotate_left
        (focus (intro w0 hSw; (try dsimp only at hSw); go_simp <;> with_reducible rfl))
        simp only [List.getElem_toArray, List.getElem_cons_zero, Act.put, List.setIfInBounds_toArray, List.set_cons_zero, List.set_cons_succ]
        refine wpAnyH_take (i := 1) (v := ?_) rfl (by kernel_rfl) (by kernel_rfl) (by kernel_rfl) (fun _ _ _ h => h) (Or.inl ⟨by rfl, ?_⟩) (by assumption) ?_
        rotate_left
        (focus (intro w0 hSw; (try dsimp only at hSw); go_simp <;> with_reducible rfl))
        simp only [List.getElem_toArray, List.getElem_cons_succ, List.getElem_cons_zero, Act.put, List.setIfInBounds_toArray, List.set_cons_zero, List.set_cons_succ]
        refine wpAnyH_take (i := 2) (v := ?_) rfl (by kernel_rfl) (by kernel_rfl) (by kernel_rfl) (fun _ _ _ h => h) (Or.inl ⟨by rfl, ?_⟩) (by assumption) ?_
        rotate_left
        (focus (intro w0 hSw; (try dsimp only at hSw); go_simp <;> with_reducible rfl))
        simp only [List.getElem_toArray, List.getElem_cons_succ, List.getElem_cons_zero, Act.put, List.setIfInBounds_toArray, List.set_cons_zero, List.set_cons_succ]
        refine wpAnyH_take (i := 3) (v := ?_) rfl (by kernel_rfl) (by kernel_rfl) (by kernel_rfl) (fun _ _ _ h => h) (Or.inl ⟨by rfl, ?_⟩) (by assumption) ?_
        rotate_left
        (focus (intro w0 hSw; (try dsimp only at hSw); go_simp <;> with_reducible rfl))
        simp only [List.getElem_toArray, List.getElem_cons_succ, List.getElem_cons_zero, Act.put, List.setIfInBounds_toArray, List.set_cons_zero, List.set_cons_succ]
        refine wpAnyH_take (i := 4) (v := ?_) rfl (by kernel_rfl) (by kernel_rfl) (by kernel_rfl) (fun _ _ _ h => h) (Or.inl ⟨by rfl, ?_⟩) (by assumption) ?_
        rotate_left
        (focus (intro w0 hSw; (try dsimp only at hSw); go_simp <;> with_reducible rfl))
        simp only [List.getElem_toArray, List.getElem_cons_succ, List.getElem_cons_zero, Act.put, List.setIfInBounds_toArray, List.set_cons_zero, List.set_cons_succ]
        refine wpAnyH_take (i := 5) (v := ?_) rfl (by kernel_rfl) (by kernel_rfl) (by kernel_rfl) (fun _ _ _ h => h) (Or.inl ⟨by rfl, ?_⟩) (by assumption) ?_
        rotate_left
        (focus (intro w0 hSw; (try dsimp only at hSw); go_simp <;> with_reducible rfl))
        simp only [List.getElem_toArray, List.getElem_cons_succ, List.getElem_cons_zero, Act.put, List.setIfInBounds_toArray, List.set_cons_zero, List.set_cons_succ]
        refine wpAnyH_take (i := 6) (v := ?_) rfl (by kernel_rfl) (by kernel_rfl) (by kernel_rfl) (fun _ _ _ h => h) (Or.inl ⟨by rfl, ?_⟩) (by assumption) ?_
        rotate_left
        (focus (intro w0 hSw; (try dsimp only at hSw); go_simp <;> with_reducible rfl))
        simp only [List.getElem_toArray, List.getElem_cons_succ, List.getElem_cons_zero, Act.put, List.setIfInBounds_toArray, List.set_cons_zero, List.set_cons_succ]
        refine wpAnyH_take (i := 7) (v := ?_) rfl (by kernel_rfl) (by kernel_rfl) (by kernel_rfl) (fun _ _ _ h => h) (Or.inl ⟨by rfl, ?_⟩) (by assumption) ?_
        rotate_left
        (focus (intro w0 hSw; (try dsimp only at hSw); go_simp <;> with_reducible rfl))
        simp only [List.getElem_toArray, List.getElem_cons_succ, List.getElem_cons_zero, Act.put, List.setIfInBounds_toArray, List.set_cons_zero, List.set_cons_succ]
        refine wpAnyH_take (i := 8) (v := ?_) rfl (by kernel_rfl) (by kernel_rfl) (by kernel_rfl) (fun _ _ _ h => h) (Or.inl ⟨by rfl, ?_⟩) (by assumption) ?_
        rotate_left
        (focus (intro w0 hSw; (try dsimp only at hSw); go_simp <;> with_reducible rfl))
        simp only [List.getElem_toArray, List.getElem_cons_succ, List.getElem_cons_zero, Act.put, List.setIfInBounds_toArray, List.set_cons_zero, List.set_cons_succ]
        refine wpAnyH_take (i := 9) (v := ?_) rfl (by kernel_rfl) (by kernel_rfl) (by kernel_rfl) (fun _ _ _ h => h) (Or.inl ⟨by rfl, ?_⟩) (by assumption) ?_
        rotate_left
        (focus (intro w0 hSw; (try dsimp only at hSw); go_simp <;> with_reducible rfl))
        simp only [List.getElem_toArray, List.getElem_cons_succ, List.getElem_cons_zero, Act.put, List.setIfInBounds_toArray, List.set_cons_zero, List.set_cons_succ]
        refine wpAnyH_ready (rs := [10]) (by kernel_rfl) (by simp) ?_
        refine AllReadyH.cons (o := _) rfl (fun K hK => ?_) ?_
        rotate_left
        exact AllReadyH.nil
        go_simp
        refine (HA.out _).mono ?_
        rintro e w4 ⟨rfl, hb4⟩
        refine hK.out _ _ ?_ (fun hH1 => ?_)
        · ((try dsimp only); (refine ⟨?_, ?_, ?_, ?_⟩ <;> repeat (with_reducible first | assumption | refine kCd ?_ | refine kCb (by assumption) ?_)))
        clear hK K
        try simp only [Act.put, List.setIfInBounds_toArray, List.set_cons_zero, List.set_cons_succ]
        refine wpAnyH_take (i := 11) (v := ?_) rfl (by kernel_rfl) (by kernel_rfl) (by kernel_rfl) (fun _ _ _ h => h) (Or.inl ⟨by rfl, ?_⟩) (by assumption) ?_
        rotate_left
        (focus (intro w0 hSw; (try dsimp only at hSw); go_simp <;> with_reducible rfl))
        simp only [List.getElem_toArray, List.getElem_cons_succ, List.getElem_cons_zero, Act.put, List.setIfInBounds_toArray, List.set_cons_zero, List.set_cons_succ]
        refine wpAnyH_done (by kernel_rfl) ?_ _
        have HB5 := hid (HW.out.trans (kBd hb4 HW.out.size))
        have HR5 := hid (HRr.out.below (kBd0 hb4))
        have z0 : w4.cell? ⟨B, 0, none⟩ = some (.int .i64 x0) := kCb (kBd0 hb4) y0
        have z1 : w4.cell? ⟨B, 1, none⟩ = some (.int .i64 x1) := kCb (kBd0 hb4) y1
        clear y0 y1 c0 c1 hb4 hH1 hHeld
        by_cases hcap : cap = k
        · exact absurd hcap (by omega)
        · go_wp2_with (at_builtin; first
                | (refine wpList_app rfl (.tmp 21) (.tmp 24) rfl rfl (v := .slice none 0 0) (l := []) (k := l.take k) rfl (own_nil _ w.heap.size) rfl ?p1 ?p2 ?p3 ?p4 ?p5 ?_; (case p1 => (have := HL.out; rw [List.length_take]; omega)); (case p2 => exact (HR5.out.take (by omega)).congr (fun j hj => atL_take hj)); (case p3 => exact fun e => by cases e); (case p4 => (simp; omega)); (case p5 => exact HB5.out.size); intro v1 w6 o1 g1; simp only [List.nil_append] at o1; have HO := hid o1; have HB6 := hid (below_gr HB5.out g1 (own_nil _ _)); have z2 := g1.cell z0 (by simp [Value.ownBlock]); have z3 := g1.cell z1 (by simp [Value.ownBlock]); clear o1 g1)
                | (refine wpList_app rfl (.tmp 26) (.tmp 28) rfl rfl (l := l.take k) (k := [(x0, x1)]) rfl (HO.out.alloc _) rfl ?p1 ?p2 ?p3 ?p4 ?p5 ?_; (case p1 => rfl); (case p2 => exact rl_one w6 x0 x1); (case p3 => exact fun e => by cases e); (case p4 => (rw [List.length_take]; omega)); (case p5 => (have := HB6.out.size; simp; omega)); intro v2 w7 o2 g2; have HO2 := hid o2; have HB7 := hid (below_gr (HB6.out.alloc HB6.out.size _) g2 (HO.out.alloc _)); clear o2 g2)
                | (refine wpList_app rfl (.tmp 30) (.tmp 33) rfl rfl (l := l.take k ++ [(x0, x1)]) (k := l.drop k) rfl HO2.out rfl ?p1 ?p2 ?p3 ?p4 ?p5 ?_; (case p1 => (have := HL.out; simp; omega)); (case p2 => exact ((HR.out.below HB7.out).off k (by omega)).congr (fun j hj => by rw [atL_drop])); (case p3 => exact fun e => by cases e); (case p4 => (simp; omega)); (case p5 => exact HB7.out.size); intro v3 w8 o3 g3; have HO3 := hid o3; have HB8 := hid (below_gr HB7.out g3 HO2.out); clear o3 g3))
          go_ret
          have hf := HO3.out
          rw [HI.out] at hf
          exact ⟨_, rfl, (rr_own hf).1, HB8.out, (rr_own hf).2⟩
    · have hlt' : decide ((k : Int) < L) = false := decide_eq_false (by omega)
      have HI := hid (ins_at (x := (x0, x1)) (by rw [HL.out]; omega) HE.out (.inl (by rw [HL.out]; omega)))
      go_wp2_with fail
      refine wp_region_held_drew (S := fun _ => True) (by kernel_rfl) trivial (fun hHeld => ?_)
      refine wpAnyH_take (i := 0) (v := ?_) rfl (by kernel_rfl) (by kernel_rfl) (by kernel_rfl) (fun _ _ _ h => h) (Or.inl ⟨by rfl, ?_⟩) (by assumption) ?_
      rotate_left
      (focus (intro w0 hSw; (try dsimp only at hSw); go_simp <;> with_reducible rfl))
      simp only [List.getElem_toArray, List.getElem_cons_zero, Act.put, List.setIfInBounds_toArray, List.set_cons_zero, List.set_cons_succ]
      refine wpAnyH_take (i := 1) (v := ?_) rfl (by kernel_rfl) (by kernel_rfl) (by kernel_rfl) (fun _ _ _ h => h) (Or.inl ⟨by rfl, ?_⟩) (by assumption) ?_
      rotate_left
      (focus (intro w0 hSw; (try dsimp only at hSw); go_simp <;> with_reducible rfl))
      simp only [List.getElem_toArray, List.getElem_cons_succ, List.getElem_cons_zero, Act.put, List.setIfInBounds_toArray, List.set_cons_zero, List.set_cons_succ]
      refine wpAnyH_take (i := 2) (v := ?_) rfl (by kernel_rfl) (by kernel_rfl) (by kernel_rfl) (fun _ _ _ h => h) (Or.inl ⟨by rfl, ?_⟩) (by assumption) ?_
      rotate_left
      (focus (intro w0 hSw; (try dsimp only at hSw); go_simp <;> with_reducible rfl))
      simp only [List.getElem_toArray, List.getElem_cons_succ, List.getElem_cons_zero, Act.put, List.setIfInBounds_toArray, List.set_cons_zero, List.set_cons_succ]
      refine wpAnyH_take (i := 3) (v := ?_) rfl (by kernel_rfl) (by kernel_rfl) (by kernel_rfl) (fun _ _ _ h => h) (Or.inl ⟨by rfl, ?_⟩) (by assumption) ?_
      rotate_left
      (focus (intro w0 hSw; (try dsimp only at hSw); go_simp <;> with_reducible rfl))
      simp only [List.getElem_toArray, List.getElem_cons_succ, List.getElem_cons_zero, Act.put, List.setIfInBounds_toArray, List.set_cons_zero, List.set_cons_succ]
      refine wpAnyH_take (i := 4) (v := ?_) rfl (by kernel_rfl) (by kernel_rfl) (by kernel_rfl) (fun _ _ _ h => h) (Or.inl ⟨by rfl, ?_⟩) (by assumption) ?_
      rotate_left
      (focus (intro w0 hSw; (try dsimp only at hSw); go_simp <;> with_reducible rfl))
      simp only [List.getElem_toArray, List.getElem_cons_succ, List.getElem_cons_zero, Act.put, List.setIfInBounds_toArray, List.set_cons_zero, List.set_cons_succ]
      refine wpAnyH_take (i := 5) (v := undef) rfl (by kernel_rfl) (by kernel_rfl) (by kernel_rfl) (fun _ _ _ h => h) (Or.inr ⟨by rfl, rfl⟩) (by assumption) ?_
      simp only [List.getElem_toArray, List.getElem_cons_succ, List.getElem_cons_zero, Act.put, List.setIfInBounds_toArray, List.set_cons_zero, List.set_cons_succ]
      refine wpAnyH_take (i := 6) (v := undef) rfl (by kernel_rfl) (by kernel_rfl) (by kernel_rfl) (fun _ _ _ h => h) (Or.inr ⟨by rfl, rfl⟩) (by assumption) ?_
      simp only [List.getElem_toArray, List.getElem_cons_succ, List.getElem_cons_zero, Act.put, List.setIfInBounds_toArray, List.set_cons_zero, List.set_cons_succ]
      refine wpAnyH_take (i := 7) (v := undef) rfl (by kernel_rfl) (by kernel_rfl) (by kernel_rfl) (fun _ _ _ h => h) (Or.inr ⟨by rfl, rfl⟩) (by assumption) ?_
      simp only [List.getElem_toArray, List.getElem_cons_succ, List.getElem_cons_zero, Act.put, List.setIfInBounds_toArray, List.set_cons_zero, List.set_cons_succ]
      refine wpAnyH_take (i := 8) (v := undef) rfl (by kernel_rfl) (by kernel_rfl) (by kernel_rfl) (fun _ _ _ h => h) (Or.inr ⟨by rfl, rfl⟩) (by assumption) ?_
      simp only [List.getElem_toArray, List.getElem_cons_succ, List.getElem_cons_zero, Act.put, List.setIfInBounds_toArray, List.set_cons_zero, List.set_cons_succ]
      refine wpAnyH_take (i := 9) (v := undef) rfl (by kernel_rfl) (by kernel_rfl) (by kernel_rfl) (fun _ _ _ h => h) (Or.inr ⟨by rfl, rfl⟩) (by assumption) ?_
      simp only [List.getElem_toArray, List.getElem_cons_succ, List.getElem_cons_zero, Act.put, List.setIfInBounds_toArray, List.set_cons_zero, List.set_cons_succ]
      refine wpAnyH_take (i := 10) (v := undef) rfl (by kernel_rfl) (by kernel_rfl) (by kernel_rfl) (fun _ _ _ h => h) (Or.inr ⟨by rfl, rfl⟩) (by assumption) ?_
      simp only [List.getElem_toArray, List.getElem_cons_succ, List.getElem_cons_zero, Act.put, List.setIfInBounds_toArray, List.set_cons_zero, List.set_cons_succ]
      refine wpAnyH_take (i := 11) (v := ?_) rfl (by kernel_rfl) (by kernel_rfl) (by kernel_rfl) (fun _ _ _ h => h) (Or.inl ⟨by rfl, ?_⟩) (by assumption) ?_
      rotate_left
      (focus (intro w0 hSw; (try dsimp only at hSw); go_simp <;> with_reducible rfl))
      simp only [List.getElem_toArray, List.getElem_cons_succ, List.getElem_cons_zero, Act.put, List.setIfInBounds_toArray, List.set_cons_zero, List.set_cons_succ]
      refine wpAnyH_done (by kernel_rfl) ?_ _
      have HB5 := hid (show Below w.heap.size w wr.drew from ⟨HW.out.os, HW.out.tape, HW.out.output, HW.out.size, HW.out.block⟩)
      have HR5 := hid (show RL wr.drew (some ⟨b, o, none⟩) L (atL l) from HRr.out)
      have z0 : wr.drew.cell? ⟨B, 0, none⟩ = some (.int .i64 x0) := y0
      have z1 : wr.drew.cell? ⟨B, 1, none⟩ = some (.int .i64 x1) := y1
      clear y0 y1 hHeld
      generalize wr.drew = w4 at *
      by_cases hcap : cap = k
      · go_wp2_with (at_builtin; first
              | (refine wpList_app rfl (.tmp 21) (.tmp 24) rfl rfl (v := .slice none 0 0) (l := []) (k := l.take k) rfl (own_nil _ w.heap.size) rfl ?p1 ?p2 ?p3 ?p4 ?p5 ?_; (case p1 => (have := HL.out; rw [List.length_take]; omega)); (case p2 => exact (HR5.out.take (by omega)).congr (fun j hj => atL_take hj)); (case p3 => exact fun e => by cases e); (case p4 => (simp; omega)); (case p5 => exact HB5.out.size); intro v1 w6 o1 g1; simp only [List.nil_append] at o1; have HO := hid o1; have HB6 := hid (below_gr HB5.out g1 (own_nil _ _)); have z2 := g1.cell z0 (by simp [Value.ownBlock]); have z3 := g1.cell z1 (by simp [Value.ownBlock]); clear o1 g1)
              | (refine wpList_app rfl (.tmp 26) (.tmp 28) rfl rfl (l := l.take k) (k := [(x0, x1)]) rfl (HO.out.alloc _) rfl ?p1 ?p2 ?p3 ?p4 ?p5 ?_; (case p1 => rfl); (case p2 => exact rl_one w6 x0 x1); (case p3 => exact fun e => by cases e); (case p4 => (rw [List.length_take]; omega)); (case p5 => (have := HB6.out.size; simp; omega)); intro v2 w7 o2 g2; have HO2 := hid o2; have HB7 := hid (below_gr (HB6.out.alloc HB6.out.size _) g2 (HO.out.alloc _)); clear o2 g2)
              | (refine wpList_app rfl (.tmp 30) (.tmp 33) rfl rfl (l := l.take k ++ [(x0, x1)]) (k := l.drop k) rfl HO2.out rfl ?p1 ?p2 ?p3 ?p4 ?p5 ?_; (case p1 => (have := HL.out; simp; omega)); (case p2 => (rw [show L - k = 0 by omega]; exact RL.nil _ _ _)); (case p3 => exact fun e => by cases e); (case p4 => (simp; omega)); (case p5 => exact HB7.out.size); intro v3 w8 o3 g3; have HO3 := hid o3; have HB8 := hid (below_gr HB7.out g3 HO2.out); clear o3 g3))
        go_ret
        have hf := HO3.out
        rw [HI.out] at hf
        exact ⟨_, rfl, (rr_own hf).1, HB8.out, (rr_own hf).2⟩
      · go_wp2_with (at_builtin; first
              | (refine wpList_app rfl (.tmp 21) (.tmp 24) rfl rfl (v := .slice none 0 0) (l := []) (k := l.take k) rfl (own_nil _ w.heap.size) rfl ?p1 ?p2 ?p3 ?p4 ?p5 ?_; (case p1 => (have := HL.out; rw [List.length_take]; omega)); (case p2 => exact (HR5.out.take (by omega)).congr (fun j hj => atL_take hj)); (case p3 => exact fun e => by cases e); (case p4 => (simp; omega)); (case p5 => exact HB5.out.size); intro v1 w6 o1 g1; simp only [List.nil_append] at o1; have HO := hid o1; have HB6 := hid (below_gr HB5.out g1 (own_nil _ _)); have z2 := g1.cell z0 (by simp [Value.ownBlock]); have z3 := g1.cell z1 (by simp [Value.ownBlock]); clear o1 g1)
              | (refine wpList_app rfl (.tmp 26) (.tmp 28) rfl rfl (l := l.take k) (k := [(x0, x1)]) rfl (HO.out.alloc _) rfl ?p1 ?p2 ?p3 ?p4 ?p5 ?_; (case p1 => rfl); (case p2 => exact rl_one w6 x0 x1); (case p3 => exact fun e => by cases e); (case p4 => (rw [List.length_take]; omega)); (case p5 => (have := HB6.out.size; simp; omega)); intro v2 w7 o2 g2; have HO2 := hid o2; have HB7 := hid (below_gr (HB6.out.alloc HB6.out.size _) g2 (HO.out.alloc _)); clear o2 g2)
              | (refine wpList_app rfl (.tmp 30) (.tmp 33) rfl rfl (l := l.take k ++ [(x0, x1)]) (k := l.drop k) rfl HO2.out rfl ?p1 ?p2 ?p3 ?p4 ?p5 ?_; (case p1 => (have := HL.out; simp; omega)); (case p2 => exact ((HR.out.below HB7.out).off k (by omega)).congr (fun j hj => by rw [atL_drop])); (case p3 => exact fun e => by cases e); (case p4 => (simp; omega)); (case p5 => exact HB7.out.size); intro v3 w8 o3 g3; have HO3 := hid o3; have HB8 := hid (below_gr HB7.out g3 HO2.out); clear o3 g3))
        go_ret
        have hf := HO3.out
        rw [HI.out] at hf
        exact ⟨_, rfl, (rr_own hf).1, HB8.out, (rr_own hf).2⟩
set_option maxRecDepth 100000 in
set_option maxHeartbeats 8000000 in
theorem withN_c (w : World) (x0 x1 : Int) : Calls Try.prog 32 #[.slice none 0 0, .agg #[.int .i64 x0, .int .i64 x1]] w fun e w' => RrN w [(x0, x1)] e w' := by
  have h1 : Below w.heap.size w (w.alloc (.cells #[.int .i64 x0, .int .i64 x1] 53)) := (Below.refl _ _).alloc (Nat.le_refl _) _
  have bx := cells_at (heap_alloc w (.cells #[.int .i64 x0, .int .i64 x1] 53)).1
  go_enter Try.func32, Try.ntmps32
  go_wp2_with fail
  have z0 : (w.alloc (.cells #[.int .i64 x0, .int .i64 x1] 53)).drew.cell? ⟨w.heap.size, 0, none⟩ = some (.int .i64 x0) := bx.1
  have z1 : (w.alloc (.cells #[.int .i64 x0, .int .i64 x1] 53)).drew.cell? ⟨w.heap.size, 1, none⟩ = some (.int .i64 x1) := bx.2
  have hb : Below w.heap.size w (w.alloc (.cells #[.int .i64 x0, .int .i64 x1] 53)).drew := ⟨h1.os, h1.tape, h1.output, h1.size, h1.block⟩
  have HB5 := hid hb
  clear bx h1 hb
  refine wp_loop_rounds 1 ?_
  rw [rounds_succ]
  go_wp2_with fail
  refine wp_region_held_drew (S := fun _ => True) (by kernel_rfl) trivial (fun hHeld => ?_)
  refine wpAnyH_take (i := 0) (v := ?_) rfl (by kernel_rfl) (by kernel_rfl) (by kernel_rfl) (fun _ _ _ h => h) (Or.inl ⟨by rfl, ?_⟩) (by assumption) ?_
  rotate_left
  (focus (intro w0 hSw; (try dsimp only at hSw); go_simp <;> with_reducible rfl))
  simp only [List.getElem_toArray, List.getElem_cons_zero, Act.put, List.setIfInBounds_toArray, List.set_cons_zero, List.set_cons_succ]
  refine wpAnyH_take (i := 1) (v := ?_) rfl (by kernel_rfl) (by kernel_rfl) (by kernel_rfl) (fun _ _ _ h => h) (Or.inl ⟨by rfl, ?_⟩) (by assumption) ?_
  rotate_left
  (focus (intro w0 hSw; (try dsimp only at hSw); go_simp <;> with_reducible rfl))
  simp only [List.getElem_toArray, List.getElem_cons_succ, List.getElem_cons_zero, Act.put, List.setIfInBounds_toArray, List.set_cons_zero, List.set_cons_succ]
  refine wpAnyH_take (i := 2) (v := ?_) rfl (by kernel_rfl) (by kernel_rfl) (by kernel_rfl) (fun _ _ _ h => h) (Or.inl ⟨by rfl, ?_⟩) (by assumption) ?_
  rotate_left
  (focus (intro w0 hSw; (try dsimp only at hSw); go_simp <;> with_reducible rfl))
  simp only [List.getElem_toArray, List.getElem_cons_succ, List.getElem_cons_zero, Act.put, List.setIfInBounds_toArray, List.set_cons_zero, List.set_cons_succ]
  refine wpAnyH_take (i := 3) (v := ?_) rfl (by kernel_rfl) (by kernel_rfl) (by kernel_rfl) (fun _ _ _ h => h) (Or.inl ⟨by rfl, ?_⟩) (by assumption) ?_
  rotate_left
  (focus (intro w0 hSw; (try dsimp only at hSw); go_simp <;> with_reducible rfl))
  simp only [List.getElem_toArray, List.getElem_cons_succ, List.getElem_cons_zero, Act.put, List.setIfInBounds_toArray, List.set_cons_zero, List.set_cons_succ]
  refine wpAnyH_take (i := 4) (v := ?_) rfl (by kernel_rfl) (by kernel_rfl) (by kernel_rfl) (fun _ _ _ h => h) (Or.inl ⟨by rfl, ?_⟩) (by assumption) ?_
  rotate_left
  (focus (intro w0 hSw; (try dsimp only at hSw); go_simp <;> with_reducible rfl))
  simp only [List.getElem_toArray, List.getElem_cons_succ, List.getElem_cons_zero, Act.put, List.setIfInBounds_toArray, List.set_cons_zero, List.set_cons_succ]
  refine wpAnyH_take (i := 5) (v := undef) rfl (by kernel_rfl) (by kernel_rfl) (by kernel_rfl) (fun _ _ _ h => h) (Or.inr ⟨by rfl, rfl⟩) (by assumption) ?_
  simp only [List.getElem_toArray, List.getElem_cons_succ, List.getElem_cons_zero, Act.put, List.setIfInBounds_toArray, List.set_cons_zero, List.set_cons_succ]
  refine wpAnyH_take (i := 6) (v := undef) rfl (by kernel_rfl) (by kernel_rfl) (by kernel_rfl) (fun _ _ _ h => h) (Or.inr ⟨by rfl, rfl⟩) (by assumption) ?_
  simp only [List.getElem_toArray, List.getElem_cons_succ, List.getElem_cons_zero, Act.put, List.setIfInBounds_toArray, List.set_cons_zero, List.set_cons_succ]
  refine wpAnyH_take (i := 7) (v := undef) rfl (by kernel_rfl) (by kernel_rfl) (by kernel_rfl) (fun _ _ _ h => h) (Or.inr ⟨by rfl, rfl⟩) (by assumption) ?_
  simp only [List.getElem_toArray, List.getElem_cons_succ, List.getElem_cons_zero, Act.put, List.setIfInBounds_toArray, List.set_cons_zero, List.set_cons_succ]
  refine wpAnyH_take (i := 8) (v := undef) rfl (by kernel_rfl) (by kernel_rfl) (by kernel_rfl) (fun _ _ _ h => h) (Or.inr ⟨by rfl, rfl⟩) (by assumption) ?_
  simp only [List.getElem_toArray, List.getElem_cons_succ, List.getElem_cons_zero, Act.put, List.setIfInBounds_toArray, List.set_cons_zero, List.set_cons_succ]
  refine wpAnyH_take (i := 9) (v := undef) rfl (by kernel_rfl) (by kernel_rfl) (by kernel_rfl) (fun _ _ _ h => h) (Or.inr ⟨by rfl, rfl⟩) (by assumption) ?_
  simp only [List.getElem_toArray, List.getElem_cons_succ, List.getElem_cons_zero, Act.put, List.setIfInBounds_toArray, List.set_cons_zero, List.set_cons_succ]
  refine wpAnyH_take (i := 10) (v := undef) rfl (by kernel_rfl) (by kernel_rfl) (by kernel_rfl) (fun _ _ _ h => h) (Or.inr ⟨by rfl, rfl⟩) (by assumption) ?_
  simp only [List.getElem_toArray, List.getElem_cons_succ, List.getElem_cons_zero, Act.put, List.setIfInBounds_toArray, List.set_cons_zero, List.set_cons_succ]
  refine wpAnyH_take (i := 11) (v := ?_) rfl (by kernel_rfl) (by kernel_rfl) (by kernel_rfl) (fun _ _ _ h => h) (Or.inl ⟨by rfl, ?_⟩) (by assumption) ?_
  rotate_left
  (focus (intro w0 hSw; (try dsimp only at hSw); go_simp <;> with_reducible rfl))
  simp only [List.getElem_toArray, List.getElem_cons_succ, List.getElem_cons_zero, Act.put, List.setIfInBounds_toArray, List.set_cons_zero, List.set_cons_succ]
  refine wpAnyH_done (by kernel_rfl) ?_ _
  generalize (w.alloc (.cells #[.int .i64 x0, .int .i64 x1] 53)).drew = w4 at *
  go_wp2_with (at_builtin; first
    | (refine wpList_app rfl (.tmp 21) (.tmp 24) rfl rfl (v := .slice none 0 0) (l := []) (k := []) rfl (own_nil _ w.heap.size) rfl ?p1 ?p2 ?p3 ?p4 ?p5 ?_; (case p1 => rfl); (case p2 => exact RL.nil _ _ _); (case p3 => exact fun _ => ⟨rfl, rfl⟩); (case p4 => simp); (case p5 => exact HB5.out.size); intro v1 w6 o1 g1; simp only [List.nil_append] at o1; have HO := hid o1; have HB6 := hid (below_gr HB5.out g1 (own_nil _ _)); have z2 := g1.cell z0 (by simp [Value.ownBlock]); have z3 := g1.cell z1 (by simp [Value.ownBlock]); clear o1 g1)
    | (refine wpList_app rfl (.tmp 26) (.tmp 28) rfl rfl (l := []) (k := [(x0, x1)]) rfl (HO.out.alloc _) rfl ?p1 ?p2 ?p3 ?p4 ?p5 ?_; (case p1 => rfl); (case p2 => exact rl_one w6 x0 x1); (case p3 => exact fun e => by cases e); (case p4 => simp); (case p5 => (have := HB6.out.size; simp; omega)); intro v2 w7 o2 g2; have HO2 := hid o2; have HB7 := hid (below_gr (HB6.out.alloc HB6.out.size _) g2 (HO.out.alloc _)); clear o2 g2)
    | (refine wpList_app rfl (.tmp 30) (.tmp 33) rfl rfl (l := [(x0, x1)]) (k := []) rfl HO2.out rfl ?p1 ?p2 ?p3 ?p4 ?p5 ?_; (case p1 => rfl); (case p2 => exact RL.nil _ _ _); (case p3 => exact fun _ => ⟨rfl, rfl⟩); (case p4 => simp); (case p5 => exact HB7.out.size); intro v3 w8 o3 g3; have HO3 := hid o3; have HB8 := hid (below_gr HB7.out g3 HO2.out); clear o3 g3))
  go_ret
  exact ⟨_, rfl, (rr_own (l := [(x0, x1)]) HO3.out).1, HB8.out, (rr_own (l := [(x0, x1)]) HO3.out).2⟩
set_option maxRecDepth 100000 in
set_option maxHeartbeats 8000000 in
theorem withE_c (w : World) (a : Addr) (cap : Nat) (ht : cap ≤ 9223372036854775807) (x0 x1 : Int) : Calls Try.prog 32 #[.slice (some a) 0 cap, .agg #[.int .i64 x0, .int .i64 x1]] w fun e w' => RrN w [(x0, x1)] e w' := by
  have h1 : Below w.heap.size w (w.alloc (.cells #[.int .i64 x0, .int .i64 x1] 53)) := (Below.refl _ _).alloc (Nat.le_refl _) _
  have bx := cells_at (heap_alloc w (.cells #[.int .i64 x0, .int .i64 x1] 53)).1
  go_enter Try.func32, Try.ntmps32
  go_wp2_with fail
  have z0 : (w.alloc (.cells #[.int .i64 x0, .int .i64 x1] 53)).drew.cell? ⟨w.heap.size, 0, none⟩ = some (.int .i64 x0) := bx.1
  have z1 : (w.alloc (.cells #[.int .i64 x0, .int .i64 x1] 53)).drew.cell? ⟨w.heap.size, 1, none⟩ = some (.int .i64 x1) := bx.2
  have hb : Below w.heap.size w (w.alloc (.cells #[.int .i64 x0, .int .i64 x1] 53)).drew := ⟨h1.os, h1.tape, h1.output, h1.size, h1.block⟩
  have HB5 := hid hb
  clear bx h1 hb
  refine wp_loop_rounds 1 ?_
  rw [rounds_succ]
  go_wp2_with fail
  refine wp_region_held_drew (S := fun _ => True) (by kernel_rfl) trivial (fun hHeld => ?_)
  refine wpAnyH_take (i := 0) (v := ?_) rfl (by kernel_rfl) (by kernel_rfl) (by kernel_rfl) (fun _ _ _ h => h) (Or.inl ⟨by rfl, ?_⟩) (by assumption) ?_
  rotate_left
  (focus (intro w0 hSw; (try dsimp only at hSw); go_simp <;> with_reducible rfl))
  simp only [List.getElem_toArray, List.getElem_cons_zero, Act.put, List.setIfInBounds_toArray, List.set_cons_zero, List.set_cons_succ]
  refine wpAnyH_take (i := 1) (v := ?_) rfl (by kernel_rfl) (by kernel_rfl) (by kernel_rfl) (fun _ _ _ h => h) (Or.inl ⟨by rfl, ?_⟩) (by assumption) ?_
  rotate_left
  (focus (intro w0 hSw; (try dsimp only at hSw); go_simp <;> with_reducible rfl))
  simp only [List.getElem_toArray, List.getElem_cons_succ, List.getElem_cons_zero, Act.put, List.setIfInBounds_toArray, List.set_cons_zero, List.set_cons_succ]
  refine wpAnyH_take (i := 2) (v := ?_) rfl (by kernel_rfl) (by kernel_rfl) (by kernel_rfl) (fun _ _ _ h => h) (Or.inl ⟨by rfl, ?_⟩) (by assumption) ?_
  rotate_left
  (focus (intro w0 hSw; (try dsimp only at hSw); go_simp <;> with_reducible rfl))
  simp only [List.getElem_toArray, List.getElem_cons_succ, List.getElem_cons_zero, Act.put, List.setIfInBounds_toArray, List.set_cons_zero, List.set_cons_succ]
  refine wpAnyH_take (i := 3) (v := ?_) rfl (by kernel_rfl) (by kernel_rfl) (by kernel_rfl) (fun _ _ _ h => h) (Or.inl ⟨by rfl, ?_⟩) (by assumption) ?_
  rotate_left
  (focus (intro w0 hSw; (try dsimp only at hSw); go_simp <;> with_reducible rfl))
  simp only [List.getElem_toArray, List.getElem_cons_succ, List.getElem_cons_zero, Act.put, List.setIfInBounds_toArray, List.set_cons_zero, List.set_cons_succ]
  refine wpAnyH_take (i := 4) (v := ?_) rfl (by kernel_rfl) (by kernel_rfl) (by kernel_rfl) (fun _ _ _ h => h) (Or.inl ⟨by rfl, ?_⟩) (by assumption) ?_
  rotate_left
  (focus (intro w0 hSw; (try dsimp only at hSw); go_simp <;> with_reducible rfl))
  simp only [List.getElem_toArray, List.getElem_cons_succ, List.getElem_cons_zero, Act.put, List.setIfInBounds_toArray, List.set_cons_zero, List.set_cons_succ]
  refine wpAnyH_take (i := 5) (v := undef) rfl (by kernel_rfl) (by kernel_rfl) (by kernel_rfl) (fun _ _ _ h => h) (Or.inr ⟨by rfl, rfl⟩) (by assumption) ?_
  simp only [List.getElem_toArray, List.getElem_cons_succ, List.getElem_cons_zero, Act.put, List.setIfInBounds_toArray, List.set_cons_zero, List.set_cons_succ]
  refine wpAnyH_take (i := 6) (v := undef) rfl (by kernel_rfl) (by kernel_rfl) (by kernel_rfl) (fun _ _ _ h => h) (Or.inr ⟨by rfl, rfl⟩) (by assumption) ?_
  simp only [List.getElem_toArray, List.getElem_cons_succ, List.getElem_cons_zero, Act.put, List.setIfInBounds_toArray, List.set_cons_zero, List.set_cons_succ]
  refine wpAnyH_take (i := 7) (v := undef) rfl (by kernel_rfl) (by kernel_rfl) (by kernel_rfl) (fun _ _ _ h => h) (Or.inr ⟨by rfl, rfl⟩) (by assumption) ?_
  simp only [List.getElem_toArray, List.getElem_cons_succ, List.getElem_cons_zero, Act.put, List.setIfInBounds_toArray, List.set_cons_zero, List.set_cons_succ]
  refine wpAnyH_take (i := 8) (v := undef) rfl (by kernel_rfl) (by kernel_rfl) (by kernel_rfl) (fun _ _ _ h => h) (Or.inr ⟨by rfl, rfl⟩) (by assumption) ?_
  simp only [List.getElem_toArray, List.getElem_cons_succ, List.getElem_cons_zero, Act.put, List.setIfInBounds_toArray, List.set_cons_zero, List.set_cons_succ]
  refine wpAnyH_take (i := 9) (v := undef) rfl (by kernel_rfl) (by kernel_rfl) (by kernel_rfl) (fun _ _ _ h => h) (Or.inr ⟨by rfl, rfl⟩) (by assumption) ?_
  simp only [List.getElem_toArray, List.getElem_cons_succ, List.getElem_cons_zero, Act.put, List.setIfInBounds_toArray, List.set_cons_zero, List.set_cons_succ]
  refine wpAnyH_take (i := 10) (v := undef) rfl (by kernel_rfl) (by kernel_rfl) (by kernel_rfl) (fun _ _ _ h => h) (Or.inr ⟨by rfl, rfl⟩) (by assumption) ?_
  simp only [List.getElem_toArray, List.getElem_cons_succ, List.getElem_cons_zero, Act.put, List.setIfInBounds_toArray, List.set_cons_zero, List.set_cons_succ]
  refine wpAnyH_take (i := 11) (v := ?_) rfl (by kernel_rfl) (by kernel_rfl) (by kernel_rfl) (fun _ _ _ h => h) (Or.inl ⟨by rfl, ?_⟩) (by assumption) ?_
  rotate_left
  (focus (intro w0 hSw; (try dsimp only at hSw); go_simp <;> with_reducible rfl))
  simp only [List.getElem_toArray, List.getElem_cons_succ, List.getElem_cons_zero, Act.put, List.setIfInBounds_toArray, List.set_cons_zero, List.set_cons_succ]
  refine wpAnyH_done (by kernel_rfl) ?_ _
  have hc0 : (0 : Int) ≤ cap := by omega
  generalize (w.alloc (.cells #[.int .i64 x0, .int .i64 x1] 53)).drew = w4 at *
  by_cases hcap : cap = 0
  · go_wp2_with (at_builtin; first
      | (refine wpList_app rfl (.tmp 21) (.tmp 24) rfl rfl (v := .slice none 0 0) (l := []) (k := []) rfl (own_nil _ w.heap.size) rfl ?p1 ?p2 ?p3 ?p4 ?p5 ?_; (case p1 => rfl); (case p2 => exact RL.nil _ _ _); (case p3 => exact fun e => by cases e); (case p4 => simp); (case p5 => exact HB5.out.size); intro v1 w6 o1 g1; simp only [List.nil_append] at o1; have HO := hid o1; have HB6 := hid (below_gr HB5.out g1 (own_nil _ _)); have z2 := g1.cell z0 (by simp [Value.ownBlock]); have z3 := g1.cell z1 (by simp [Value.ownBlock]); clear o1 g1)
      | (refine wpList_app rfl (.tmp 26) (.tmp 28) rfl rfl (l := []) (k := [(x0, x1)]) rfl (HO.out.alloc _) rfl ?p1 ?p2 ?p3 ?p4 ?p5 ?_; (case p1 => rfl); (case p2 => exact rl_one w6 x0 x1); (case p3 => exact fun e => by cases e); (case p4 => simp); (case p5 => (have := HB6.out.size; simp; omega)); intro v2 w7 o2 g2; have HO2 := hid o2; have HB7 := hid (below_gr (HB6.out.alloc HB6.out.size _) g2 (HO.out.alloc _)); clear o2 g2)
      | (refine wpList_app rfl (.tmp 30) (.tmp 33) rfl rfl (l := [(x0, x1)]) (k := []) rfl HO2.out rfl ?p1 ?p2 ?p3 ?p4 ?p5 ?_; (case p1 => rfl); (case p2 => exact RL.nil _ _ _); (case p3 => exact fun e => by cases e); (case p4 => simp); (case p5 => exact HB7.out.size); intro v3 w8 o3 g3; have HO3 := hid o3; have HB8 := hid (below_gr HB7.out g3 HO2.out); clear o3 g3))
    go_ret
    exact ⟨_, rfl, (rr_own (l := [(x0, x1)]) HO3.out).1, HB8.out, (rr_own (l := [(x0, x1)]) HO3.out).2⟩
  · go_wp2_with (at_builtin; first
      | (refine wpList_app rfl (.tmp 21) (.tmp 24) rfl rfl (v := .slice none 0 0) (l := []) (k := []) rfl (own_nil _ w.heap.size) rfl ?p1 ?p2 ?p3 ?p4 ?p5 ?_; (case p1 => rfl); (case p2 => exact RL.nil _ _ _); (case p3 => exact fun e => by cases e); (case p4 => simp); (case p5 => exact HB5.out.size); intro v1 w6 o1 g1; simp only [List.nil_append] at o1; have HO := hid o1; have HB6 := hid (below_gr HB5.out g1 (own_nil _ _)); have z2 := g1.cell z0 (by simp [Value.ownBlock]); have z3 := g1.cell z1 (by simp [Value.ownBlock]); clear o1 g1)
      | (refine wpList_app rfl (.tmp 26) (.tmp 28) rfl rfl (l := []) (k := [(x0, x1)]) rfl (HO.out.alloc _) rfl ?p1 ?p2 ?p3 ?p4 ?p5 ?_; (case p1 => rfl); (case p2 => exact rl_one w6 x0 x1); (case p3 => exact fun e => by cases e); (case p4 => simp); (case p5 => (have := HB6.out.size; simp; omega)); intro v2 w7 o2 g2; have HO2 := hid o2; have HB7 := hid (below_gr (HB6.out.alloc HB6.out.size _) g2 (HO.out.alloc _)); clear o2 g2)
      | (refine wpList_app rfl (.tmp 30) (.tmp 33) rfl rfl (l := [(x0, x1)]) (k := []) rfl HO2.out rfl ?p1 ?p2 ?p3 ?p4 ?p5 ?_; (case p1 => rfl); (case p2 => exact RL.nil _ _ _); (case p3 => exact fun e => by cases e); (case p4 => simp); (case p5 => exact HB7.out.size); intro v3 w8 o3 g3; have HO3 := hid o3; have HB8 := hid (below_gr HB7.out g3 HO2.out); clear o3 g3))
    go_ret
    exact ⟨_, rfl, (rr_own (l := [(x0, x1)]) HO3.out).1, HB8.out, (rr_own (l := [(x0, x1)]) HO3.out).2⟩
theorem with_c {w : World} {v : Value} {l : List (Int × Int)} (h : Rr w v l) (hl : l.length ≤ 400000) (x : Int × Int) : Calls Try.prog 32 #[v, .agg #[.int .i64 x.1, .int .i64 x.2]] w fun e w' => RrN w (insL l x) e w' := by
  obtain ⟨x0, x1⟩ := x
  obtain ⟨ao, cap, rfl, hr, hn, hc, ht⟩ := h
  cases ao with
  | none =>
    obtain ⟨h0, rfl⟩ := hn rfl
    obtain rfl : l = [] := List.eq_nil_of_length_eq_zero h0
    exact withN_c w x0 x1
  | some a =>
    by_cases h0 : l.length = 0
    · obtain rfl : l = [] := List.eq_nil_of_length_eq_zero h0
      exact withE_c w a cap ht x0 x1
    · obtain ⟨b, o, e, _⟩ := hr 0 (by omega)
      cases e
      exact withS_c hr hc hl
end Go.Proofs.Ytacgkgbhleehjaa
namespace Go.Proofs.Ytacgkgbhleehjaa
open Go.RowKit Go.Sort Go.MapKept

/-- Each number stands once: its place, and the list without it. -/
def PlOk (l : List (Int × Int)) : Prop := ∀ id, hasL l id = true → ∃ i : Nat, plL l id = i ∧ i < l.length ∧ l.eraseIdx i = delL l id
theorem idx_split {s t : List (Int × Int)} {x : Int × Int} {id : Int} (hs : ∀ y ∈ s, y.1 ≠ id) (hx : x.1 = id) : (s ++ x :: t).findIdx? (fun y => y.1 == id) = some s.length := by
  induction s with
  | nil => simp [List.findIdx?_cons, hx]
  | cons a r ih =>
    have ha : (a.1 == id) = false := beq_eq_false_iff_ne.2 (hs a (List.mem_cons_self ..))
    simp only [List.cons_append, List.findIdx?_cons, ha, Bool.false_eq_true, if_false]
    rw [ih (fun y hy => hs y (List.mem_cons_of_mem _ hy))]
    rfl
theorem Ql.plok {w q F l} (h : Ql w q F l) : PlOk l := by
  intro id hid'
  obtain ⟨key, hk⟩ := hasL_iff.1 hid'
  obtain ⟨s, t, e, h1, h2, h3⟩ := h.split hk
  rw [show (id, key).1 = id from rfl] at h1 h2 h3
  refine ⟨s.length, ?_, by rw [e]; simp, ?_⟩
  · unfold plL; rw [e, idx_split h1 rfl]
  · rw [h3, e, List.eraseIdx_append_of_length_le (Nat.le_refl _)]; simp
theorem pl_none {l : List (Int × Int)} {id : Int} (h : hasL l id = false) : plL l id = -1 := by
  unfold plL
  have : l.findIdx? (fun x => x.1 == id) = none := by
    rw [List.findIdx?_eq_none_iff]
    intro x hx
    cases hb : (x.1 == id) with
    | false => rfl
    | true => rw [show hasL l id = true from by unfold hasL; rw [List.any_eq_true]; exact ⟨x, hx, hb⟩] at h; cases h
  rw [this]
/-- A list behind a call of the reference. -/
def RrA (w : World) (v : Value) (l' : List (Int × Int)) (v' : Value) (w' : World) : Prop := Rr w' v' l' ∧ Below w.heap.size w w' ∧ ∀ k, Vb v' k → Vb v k ∨ (w.heap.size ≤ k ∧ k < w'.heap.size)
theorem rHas_c {w : World} {v : Value} {l : List (Int × Int)} (h : Rr w v l) (hl : l.length ≤ 400000) (hp : PlOk l) (id : Int) : Calls Try.prog 23 #[v, .int .i64 id] w fun e w' => e = .returned (.bool (hasL l id)) ∧ Below w.heap.size w w' := by
  have HC := hid (place_c h (by omega) id)
  cases hb : hasL l id with
  | true =>
    obtain ⟨i, e, _⟩ := hp id hb
    rw [e] at HC
    have h0 : decide ((0 : Int) ≤ (i : Int)) = true := decide_eq_true (by omega)
    clear h hp hb
    go_enter Try.func23, Try.ntmps23
    go_wp2_with (go_at_call 33; refine HC.out.mono ?_; rintro e w2 ⟨rfl, hb2⟩)
    go_ret
    exact ⟨rfl, hb2⟩
  | false =>
    rw [pl_none hb] at HC
    clear h hp hb
    go_enter Try.func23, Try.ntmps23
    go_wp2_with (go_at_call 33; refine HC.out.mono ?_; rintro e w2 ⟨rfl, hb2⟩)
    go_ret
    exact ⟨rfl, hb2⟩
theorem rPush_c {w : World} {v : Value} {l : List (Int × Int)} (h : Rr w v l) (hl : l.length ≤ 400000) (hp : PlOk l) (id key : Int) : Calls Try.prog 19 #[v, .int .i64 id, .int .i64 key] w fun e w' => ∃ v', e = .returned (.tuple #[v', .int .i64 (pushE l id)]) ∧ RrA w v (pushL l id key) v' w' := by
  have HC := hid (rHas_c h hl hp id)
  by_cases h1 : hasL l id = true
  · rw [h1] at HC
    rw [show pushE l id = 6 by simp [pushE, h1], show pushL l id key = l by simp [pushL, h1]]
    have HR := hid h
    obtain ⟨ao, cap, rfl, hr, hn, hc, ht⟩ := h
    clear hp h1 hr hn
    go_enter Try.func19, Try.ntmps19
    go_wp2_with (go_at_call 23; refine HC.out.mono ?_; rintro e w2 ⟨rfl, hb2⟩)
    go_ret2
    exact ⟨_, rfl, HR.out.below hb2, hb2, fun k hk => .inl hk⟩
  · have h1' : hasL l id = false := by simpa using h1
    rw [h1'] at HC
    have HR := hid h
    by_cases h2 : 4096 ≤ l.length
    · rw [show pushE l id = 10 by simp [pushE, h1', h2], show pushL l id key = l by simp [pushL, h1', h2]]
      obtain ⟨ao, cap, rfl, hr, hn, hc, ht⟩ := h
      have h2' : decide ((4096 : Int) ≤ l.length) = true := decide_eq_true (by omega)
      clear hp h1 hr hn
      go_enter Try.func19, Try.ntmps19
      go_wp2_with (go_at_call 23; refine HC.out.mono ?_; rintro e w2 ⟨rfl, hb2⟩)
      go_ret2
      exact ⟨_, rfl, HR.out.below hb2, hb2, fun k hk => .inl hk⟩
    · rw [show pushE l id = 0 by simp [pushE, h1', h2], show pushL l id key = insL l (id, key) by simp [pushL, h1', h2]]
      have HW := hid (fun W (hb : Below w.heap.size w W) => with_c (h.below hb) hl (id, key))
      obtain ⟨ao, cap, rfl, hr, hn, hc, ht⟩ := h
      have h2' : decide ((4096 : Int) ≤ l.length) = false := decide_eq_false (by omega)
      clear hp h1 hr hn
      go_enter Try.func19, Try.ntmps19
      go_wp2_with (first
        | (go_at_call 23; refine HC.out.mono ?_; rintro e w2 ⟨rfl, hb2⟩; have HB := hid hb2; clear hb2)
        | (go_at_call 32; refine (HW.out _ HB.out).mono ?_; rintro e w3 ⟨v3, rfl, hr3, hb3, hk3⟩))
      go_ret2
      exact ⟨_, rfl, hr3, HB.out.trans (hb3.mono HB.out.size), fun k hk => .inr ⟨Nat.le_trans HB.out.size (hk3 k hk).1, (hk3 k hk).2⟩⟩
theorem rRem_c {w : World} {v : Value} {l : List (Int × Int)} (h : Rr w v l) (hl : l.length ≤ 400000) (hp : PlOk l) (id : Int) : Calls Try.prog 22 #[v, .int .i64 id] w fun e w' => ∃ v', e = .returned (.tuple #[v', .int .i64 (fixE l id)]) ∧ RrA w v (remL l id) v' w' := by
  have HC := hid (place_c h (by omega) id)
  have HR := hid h
  cases h1 : hasL l id with
  | true =>
    rw [show fixE l id = 0 by simp [fixE, h1], show remL l id = delL l id by simp [remL, h1]]
    obtain ⟨i, e1, e2, e3⟩ := hp id h1
    rw [e1] at HC
    have HW := hid (fun W (hb : Below w.heap.size w W) => without_c (h.below hb) (by omega) e2)
    rw [e3] at HW
    have h0 : decide ((i : Int) < 0) = false := decide_eq_false (by omega)
    obtain ⟨ao, cap, rfl, hr, hn, hc, ht⟩ := h
    clear hp h1 hr hn e1 e3
    go_enter Try.func22, Try.ntmps22
    go_wp2_with (first
      | (go_at_call 33; refine HC.out.mono ?_; rintro e w2 ⟨rfl, hb2⟩; have HB := hid hb2; clear hb2)
      | (go_at_call 34; refine (HW.out _ HB.out).mono ?_; rintro e w3 ⟨v3, rfl, hr3, hb3, hk3⟩))
    go_ret2
    exact ⟨_, rfl, hr3, HB.out.trans (hb3.mono HB.out.size), fun k hk => .inr ⟨Nat.le_trans HB.out.size (hk3 k hk).1, (hk3 k hk).2⟩⟩
  | false =>
    rw [show fixE l id = 9 by simp [fixE, h1], show remL l id = l by simp [remL, h1]]
    rw [pl_none h1] at HC
    obtain ⟨ao, cap, rfl, hr, hn, hc, ht⟩ := h
    clear hp h1 hr hn
    go_enter Try.func22, Try.ntmps22
    go_wp2_with (go_at_call 33; refine HC.out.mono ?_; rintro e w2 ⟨rfl, hb2⟩)
    go_ret2
    exact ⟨_, rfl, HR.out.below hb2, hb2, fun k hk => .inl hk⟩
theorem rFix_c {w : World} {v : Value} {l : List (Int × Int)} (h : Rr w v l) (hl : l.length ≤ 400000) (hp : PlOk l) (id key : Int) : Calls Try.prog 21 #[v, .int .i64 id, .int .i64 key] w fun e w' => ∃ v', e = .returned (.tuple #[v', .int .i64 (fixE l id)]) ∧ RrA w v (fixL l id key) v' w' := by
  have HC := hid (place_c h (by omega) id)
  have HR := hid h
  cases h1 : hasL l id with
  | true =>
    rw [show fixE l id = 0 by simp [fixE, h1], show fixL l id key = insL (delL l id) (id, key) by simp [fixL, h1]]
    obtain ⟨i, e1, e2, e3⟩ := hp id h1
    rw [e1] at HC
    have HW := hid (fun W (hb : Below w.heap.size w W) => without_c (h.below hb) (by omega) e2)
    rw [e3] at HW
    have HW2 := hid (fun (W : World) (u : Value) (hu : Rr W u (delL l id)) => with_c hu (by have := List.length_filter_le (fun x : Int × Int => decide (x.1 ≠ id)) l; unfold delL; omega) (id, key))
    have h0 : decide ((i : Int) < 0) = false := decide_eq_false (by omega)
    obtain ⟨ao, cap, rfl, hr, hn, hc, ht⟩ := h
    clear hp h1 hr hn e1 e3
    go_enter Try.func21, Try.ntmps21
    go_wp2_with (first
      | (go_at_call 33; refine HC.out.mono ?_; rintro e w2 ⟨rfl, hb2⟩; have HB := hid hb2; clear hb2)
      | (go_at_call 34; refine (HW.out _ HB.out).mono ?_; rintro e w3 ⟨v3, rfl, hr3, hb3, hk3⟩; have HR3 := hid hr3; have HB3 := hid (HB.out.trans (hb3.mono HB.out.size)); clear hr3 hb3 hk3)
      | (go_at_call 32; refine (HW2.out _ _ HR3.out).mono ?_; rintro e w4 ⟨v4, rfl, hr4, hb4, hk4⟩))
    go_ret2
    exact ⟨_, rfl, hr4, HB3.out.trans (hb4.mono HB3.out.size), fun k hk => .inr ⟨Nat.le_trans HB3.out.size (hk4 k hk).1, (hk4 k hk).2⟩⟩
  | false =>
    rw [show fixE l id = 9 by simp [fixE, h1], show fixL l id key = l by simp [fixL, h1]]
    rw [pl_none h1] at HC
    obtain ⟨ao, cap, rfl, hr, hn, hc, ht⟩ := h
    clear hp h1 hr hn
    go_enter Try.func21, Try.ntmps21
    go_wp2_with (go_at_call 33; refine HC.out.mono ?_; rintro e w2 ⟨rfl, hb2⟩)
    go_ret2
    exact ⟨_, rfl, HR.out.below hb2, hb2, fun k hk => .inl hk⟩
theorem rPop0_c {w : World} {v : Value} (h : Rr w v []) : Calls Try.prog 20 #[v] w fun e w' => e = .returned (.tuple #[.agg #[.int .i64 0, .int .i64 0], v, .int .i64 9]) ∧ Below w.heap.size w w' := by
  obtain ⟨ao, cap, rfl, hr, hn, hc, ht⟩ := h
  clear hr hn
  simp only [List.length_nil] at *
  go_enter Try.func20, Try.ntmps20
  go_wp2_with fail
  refine bodyPost_ret (v := .tuple #[.agg #[.int .i64 0, .int .i64 0], .slice ao 0 cap, .int .i64 9]) (by simp [results, Try.results20, go_sem]) rfl ⟨rfl, (Below.refl _ _).alloc (Nat.le_refl _) _⟩
set_option maxRecDepth 100000 in
set_option maxHeartbeats 4000000 in
theorem rPop_c {w : World} {v : Value} {a : Int × Int} {r : List (Int × Int)} (h : Rr w v (a :: r)) (hl : r.length ≤ 400000) : Calls Try.prog 20 #[v] w fun e w' => ∃ v', e = .returned (.tuple #[.agg #[.int .i64 a.1, .int .i64 a.2], v', .int .i64 0]) ∧ RrA w v r v' w' := by
  obtain ⟨ao, cap, rfl, hr, hn, hc, ht⟩ := h
  obtain ⟨b, o, rfl, c0, c1⟩ := hr 0 (by simp)
  rw [show atL (a :: r) 0 = a from rfl] at c0 c1
  obtain ⟨a0, a1⟩ := a
  have hbx := (heap_alloc w (.cells #[.int .i64 0, .int .i64 0] 53)).1
  have hal : Below w.heap.size w (w.alloc (.cells #[.int .i64 0, .int .i64 0] 53)) := (Below.refl _ _).alloc (Nat.le_refl _) _
  have hlt : b < w.heap.size := World.block_lt_of_cell? w _ c0
  have HR := hid (show RL w (some ⟨b, o + 2, none⟩) r.length (atL r) from ((hr.off 1 (n' := r.length) (by simp)).congr (fun j hj => by rw [Nat.add_comm 1 j]; rfl)))
  simp only [List.length_cons, Nat.zero_mul, Nat.add_zero] at *
  have hp : (0 : Int) < (r.length : Int) + 1 := by omega
  have hp2 : (1 : Int) ≤ (r.length : Int) + 1 := by omega
  have hp3 : (r.length : Int) + 1 ≤ cap := by omega
  have e1 : ((r.length : Int) + 1 == 0) = false := by simp; omega
  have k0 := (cells_at hbx).1; have k1 := (cells_at hbx).2; have z0 := free_at (o := 0) hbx; have z1 := free_at (o := 1) hbx
  have d0 := kCb hal c0; have d1 := kCb hal c1
  have HA := hid hal
  have hne : w.heap.size ≠ b := by omega
  clear hr hn hbx hal c0 c1
  go_enter Try.func20, Try.ntmps20
  go_wp2_with fail
  generalize w.alloc (.cells #[.int .i64 0, .int .i64 0] 53) = w1 at *
  have r1 : ((w1.setCell ⟨w.heap.size, 0, none⟩ (.int .i64 a0)).setCell ⟨w.heap.size, 1, none⟩ (.int .i64 a1)).cell? ⟨w.heap.size, 1, none⟩ = some (.int .i64 a1) := World.cell?_setCell_same _ _ _ (by rw [World.cell?_setCell_other _ _ _ _ (by simp)]; exact k1)
  have r0 : ((w1.setCell ⟨w.heap.size, 0, none⟩ (.int .i64 a0)).setCell ⟨w.heap.size, 1, none⟩ (.int .i64 a1)).cell? ⟨w.heap.size, 0, none⟩ = some (.int .i64 a0) := by rw [World.cell?_setCell_other _ _ _ _ (by simp)]; exact World.cell?_setCell_same _ _ _ k0
  have hbT : Below w.heap.size w ((w1.setCell ⟨w.heap.size, 0, none⟩ (.int .i64 a0)).setCell ⟨w.heap.size, 1, none⟩ (.int .i64 a1)).drew := ⟨HA.out.os, HA.out.tape, HA.out.output, by have := HA.out.size; show w.heap.size ≤ ((w1.setCell _ _).setCell _ _).heap.size; simp [World.setCell]; exact this, fun k hk => ((Below.heap_setCell _ _ _ _ (by simp; omega)).trans (Below.heap_setCell _ _ _ _ (by simp; omega))).trans (HA.out.block k hk)⟩
  have HBT := hid hbT
  clear hbT
  by_cases hcap : cap = 1
  · go_region
    clear k0 k1 z0 z1 d0 d1
    go_wp2_with fail
    refine bodyPost_ret (v := .tuple #[.agg #[.int .i64 a0, .int .i64 a1], .slice (some ⟨b, o, none⟩) r.length 0, .int .i64 0]) (by simp [results, Try.results20, go_sem, r0, r1]) rfl ⟨_, rfl, ⟨some ⟨b, o, none⟩, 0, rfl, ?_, (fun e => by cases e), by omega, by omega⟩, HBT.out, ?_⟩
    · rw [show r.length = 0 by omega]; exact RL.nil _ _ _
    · rintro k ⟨ao, n, c, e, ad, ha, hb⟩
      cases e; cases ha
      exact .inl ⟨_, _, _, rfl, _, rfl, hb⟩
  · go_region
    clear k0 k1 z0 z1 d0 d1
    go_wp2_with fail
    refine bodyPost_ret (v := .tuple #[.agg #[.int .i64 a0, .int .i64 a1], .slice (some ⟨b, o + 2, none⟩) r.length (cap - 1), .int .i64 0]) (by simp [results, Try.results20, go_sem, r0, r1]) rfl ⟨_, rfl, ⟨some ⟨b, o + 2, none⟩, cap - 1, rfl, ?_, (fun e => by cases e), by omega, by omega⟩, HBT.out, ?_⟩
    · exact HR.out.below HBT.out
    · rintro k ⟨ao, n, c, e, ad, ha, hb⟩
      cases e; cases ha
      exact .inl ⟨_, _, _, rfl, _, rfl, hb⟩
end Go.Proofs.Ytacgkgbhleehjaa
namespace Go.Proofs.Ytacgkgbhleehjaa
open Go.RowKit Go.Sort Go.MapKept

theorem it_rl {w w' : World} {l : List (Int × Int)} {ao : Option Addr} {cap : Nat} (h : (ao = none ∧ l = [] ∧ cap = 0) ∨ ∃ g, ao = some ⟨g, 0, none⟩ ∧ w.heap.size ≤ g ∧ Ro w' g cap l.length (atL l)) : RL w' ao l.length (atL l) := by
  rcases h with ⟨rfl, rfl, rfl⟩ | ⟨g, rfl, _, hr⟩
  · exact RL.nil _ _ _
  · intro j hj
    exact ⟨g, 0, rfl, by rw [Nat.zero_add]; exact hr.c0 j hj, by rw [Nat.zero_add]; exact hr.c1 j hj⟩
set_option maxRecDepth 100000 in
set_option maxHeartbeats 4000000 in
theorem same_c {w : World} {ao : Option Addr} {ca : Nat} {l : List (Int × Int)} {v : Value} (ha : RL w ao l.length (atL l)) (hv : Rr w v l) (hl : l.length ≤ 1000000) : Calls Try.prog 10 #[.slice ao l.length ca, v] w fun e w' => e = .returned (.bool true) ∧ ∃ q, w' = w.drewN q := by
  obtain ⟨bo, cb, rfl, hb, _, _, _⟩ := hv
  have HA := hid ha; have HB := hid hb
  have e0 : ((l.length : Int) != (l.length : Int)) = false := by simp
  clear ha hb
  generalize l.length = n at *
  go_enter Try.func10, Try.ntmps10
  go_wp2_with fail
  go_loopw [13] (fun t wr => ∃ (i q : Nat), i ≤ n ∧ t = .int .i64 i ∧ Hid (wr = w.drewN q)) (fun t _ => n - (intOf t).toNat)
  case atStart => exact ⟨0, 0, by omega, rfl, rfl⟩
  case round =>
    obtain ⟨i, q, hi, rfl, HW⟩ := hrel
    by_cases hlt : i < n
    · have hlt' : (i : Int) < n := by omega
      obtain ⟨b1, o1, rfl, c0, c1⟩ := HA.out i hlt
      obtain ⟨b2, o2, rfl, d0, d1⟩ := HB.out i hlt
      have c0' : wr.cell? ⟨b1, o1 + i * 2, none⟩ = some (.int .i64 (atL l i).1) := by rw [HW.out]; exact c0
      have c1' : wr.cell? ⟨b1, o1 + i * 2 + 1, none⟩ = some (.int .i64 (atL l i).2) := by rw [HW.out]; exact c1
      have d0' : wr.cell? ⟨b2, o2 + i * 2, none⟩ = some (.int .i64 (atL l i).1) := by rw [HW.out]; exact d0
      have d1' : wr.cell? ⟨b2, o2 + i * 2 + 1, none⟩ = some (.int .i64 (atL l i).2) := by rw [HW.out]; exact d1
      generalize (atL l i).2 = y at *
      generalize (atL l i).1 = x at *
      have ex : (x != x) = false := by simp
      have ey : (y != y) = false := by simp
      clear c0 c1 d0 d1
      go_wp2_with fail
      go_quiet (fail)
      go_wp2_with fail
      go_roundw
      case rel => exact ⟨i + 1, _, by omega, by go_num, hid (by rw [HW.out, World.drewN_drewN])⟩
      case measure => simp [intOf]; omega
    · have hlt' : decide ((i : Int) < n) = false := decide_eq_false (by omega)
      go_wp2_with fail
      go_ret
      exact ⟨rfl, q, HW.out⟩
end Go.Proofs.Ytacgkgbhleehjaa
namespace Go.Proofs.Ytacgkgbhleehjaa
open Go.RowKit Go.Sort Go.MapKept

/-- The queue and the reference's list beside it. -/
def Qr (w : World) (q : Nat) (F : Nat → Prop) (l : List (Int × Int)) (v : Value) : Prop := Ql w q F l ∧ Rr w v l ∧ ∀ k, Vb v k → k < w.heap.size ∧ ¬ F k
theorem Qr.below {w w' q F l v} (h : Qr w q F l v) (hb : Below w.heap.size w w') : Qr w' q F l v := ⟨h.1.below hb, h.2.1.below hb, fun k hk => ⟨Nat.lt_of_lt_of_le (h.2.2 k hk).1 hb.size, (h.2.2 k hk).2⟩⟩
/-- What a step answers: true, and both go on. -/
def StA (w : World) (q : Nat) (F : Nat → Prop) (l : List (Int × Int)) (_ : Value) (e : Ending) (w' : World) : Prop :=
  ∃ v' l' F', e = .returned (.tuple #[v', .bool true]) ∧ Qr w' q F' l' v' ∧ Tn F w w' ∧ (∀ k, F' k → F k ∨ w.heap.size ≤ k) ∧ l'.length ≤ l.length + 1
theorem cells3 {w : World} {q : Nat} {u v x : Value} {t : TypeId} {fr : Nat × Nat} (h : w.heap[q]? = some (.cells #[u, v, x] t fr)) : w.cell? ⟨q, 0, none⟩ = some u ∧ w.cell? ⟨q, 1, none⟩ = some v ∧ w.cell? ⟨q, 2, none⟩ = some x := by
  refine ⟨?_, ?_, ?_⟩ <;> simp [World.cell?, h]
/-- The list stays while the queue's blocks turn. -/
theorem rr_tn {w w' : World} {F : Nat → Prop} {l : List (Int × Int)} {v : Value} (h : Rr w v l) (hd : ∀ k, Vb v k → k < w.heap.size ∧ ¬ F k) (ht : Tn F w w') : Rr w' v l :=
  h.kept (fun k hk => ht.block k (hd k hk).1 (hd k hk).2)
theorem len_pushL (l : List (Int × Int)) (id key : Int) : (pushL l id key).length ≤ l.length + 1 := by
  unfold pushL
  split
  · omega
  · split
    · omega
    · rw [len_insL]; omega
theorem len_delL (l : List (Int × Int)) (id : Int) : (delL l id).length ≤ l.length := List.length_filter_le _ _
theorem len_fixL (l : List (Int × Int)) (id key : Int) : (fixL l id key).length ≤ l.length + 1 := by
  unfold fixL
  split
  · rw [len_insL]; have := len_delL l id; omega
  · omega
theorem len_remL (l : List (Int × Int)) (id : Int) : (remL l id).length ≤ l.length + 1 := by
  unfold remL
  split
  · have := len_delL l id; omega
  · omega
theorem RrA.below {w w2 w3 : World} {v v' : Value} {l' : List (Int × Int)} (h : RrA w v l' v' w2) (hb : Below w2.heap.size w2 w3) : RrA w v l' v' w3 := ⟨h.1.below hb, h.2.1.trans (hb.mono h.2.1.size), fun k hk => (h.2.2 k hk).imp id (fun e => ⟨e.1, Nat.lt_of_lt_of_le e.2 hb.size⟩)⟩
/-- Behind a call of the reference, then of the queue. -/
theorem st_done {w w1 w2 w3 : World} {q : Nat} {F : Nat → Prop} {l l' : List (Int × Int)} {v v' : Value} (h : Qr w q F l v) (h1 : Below w.heap.size w w1) (hr : RrA w1 v l' v' w2) (hq : QlA w2 q F l' w3) (hl : l'.length ≤ l.length + 1)  :
    ∃ F', Qr w3 q F' l' v' ∧ Tn F w w3 ∧ (∀ k, F' k → F k ∨ w.heap.size ≤ k) ∧ l'.length ≤ l.length + 1 := by
  obtain ⟨F', hq', ht, hF⟩ := hq
  obtain ⟨hr1, hb2, hv⟩ := hr
  have hz := h1.size; have hz2 := hb2.size
  have hd : ∀ k, Vb v' k → k < w2.heap.size ∧ ¬ F k := fun k hk => by
    rcases hv k hk with hv | hv
    · exact ⟨by have := (h.2.2 k hv).1; omega, (h.2.2 k hv).2⟩
    · exact ⟨hv.2, fun e => by have := h.1.qu.lt k e; omega⟩
  have hb : Below w.heap.size w w2 := h1.trans (hb2.mono hz)
  refine ⟨F', ⟨hq', rr_tn hr1 hd ht, fun k hk => ⟨Nat.lt_of_lt_of_le (hd k hk).1 ht.size, fun e => ?_⟩⟩, (Tn.of_below hb).comp ht (fun k hk => .inl hk), fun k hk => (hF k hk).imp id (fun e => by omega), hl⟩
  rcases hF k e with e | e
  · exact (hd k hk).2 e
  · have := (hd k hk).1; omega
set_option maxRecDepth 100000 in
set_option maxHeartbeats 4000000 in
theorem step0_c {w : World} {q : Nat} {F : Nat → Prop} {l : List (Int × Int)} {v : Value} {id key : Int} (h : Qr w q F l v) (hl : l.length ≤ 300000)  : Calls Try.prog 9 #[.pointer (some ⟨q, 0, none⟩), v, .agg #[.int .i64 0, .int .i64 id, .int .i64 key]] w fun e w' => StA w q F l v e w' := by
  have bx := heap_alloc w (.cells #[.int .i64 0, .int .i64 id, .int .i64 key] 28)
  have hal : Below w.heap.size w (w.alloc (.cells #[.int .i64 0, .int .i64 id, .int .i64 key] 28)) := (Below.refl _ _).alloc (Nat.le_refl _) _
  have hq1 := h.below hal
  obtain ⟨ao, cap, rfl, _, _, _, _⟩ := h.2.1
  have B0 := (cells3 bx.1).1; have B1 := (cells3 bx.1).2.1; have B2 := (cells3 bx.1).2.2
  have HQ := hid hq1; have HAL := hid hal; have H0 := hid h
  have hlen : l.length ≤ 1000000 := by omega
  have hlen4 : l.length ≤ 400000 := by omega
  have hBs : w.heap.size < (w.alloc (.cells #[.int .i64 0, .int .i64 id, .int .i64 key] 28)).heap.size := by simp
  have hBF : ¬ F w.heap.size := fun e => by have := h.1.qu.lt _ e; omega
  clear h bx hal hq1
  go_enter Try.func9, Try.ntmps9
  go_wp2_with fail
  generalize w.alloc (.cells #[.int .i64 0, .int .i64 id, .int .i64 key] 28) = w1 at *
  generalize hB : w.heap.size = B at *
  have e9 : (pushE l id == pushE l id) = true := by simp
  have HP := hid (rPush_c HQ.out.2.1 hlen4 HQ.out.1.plok id key)
  generalize hpe : pushE l id = pe at *
  have HPE := hid hpe
  clear hpe
  go_wp2_with (first
    | (go_at_call 19; refine HP.out.mono ?_; rintro e w2 ⟨v2, rfl, hr2⟩; have HR2 := hid hr2; have C1 : w2.cell? ⟨B, 1, none⟩ = some (.int .i64 id) := kCb hr2.2.1 B1; have C2 : w2.cell? ⟨B, 2, none⟩ = some (.int .i64 key) := kCb hr2.2.1 B2; have HL := hid (lpush_c (HQ.out.1.below hr2.2.1) id key); rw [HPE.out] at HL; clear hr2)
    | (go_at_call 13; refine HL.out.mono ?_; rintro e w3 ⟨rfl, hq3⟩))
  go_ret2
  obtain ⟨F', h1, h2, h3, h4⟩ := st_done H0.out (hB ▸ HAL.out) HR2.out hq3 (len_pushL _ _ _)
  exact ⟨v2, _, F', rfl, h1, h2, h3, h4⟩
set_option maxRecDepth 100000 in
set_option maxHeartbeats 4000000 in
theorem step3_c {w : World} {q : Nat} {F : Nat → Prop} {l : List (Int × Int)} {v : Value} {id key : Int} (h : Qr w q F l v) (hl : l.length ≤ 300000)  : Calls Try.prog 9 #[.pointer (some ⟨q, 0, none⟩), v, .agg #[.int .i64 3, .int .i64 id, .int .i64 key]] w fun e w' => StA w q F l v e w' := by
  have bx := heap_alloc w (.cells #[.int .i64 3, .int .i64 id, .int .i64 key] 28)
  have hal : Below w.heap.size w (w.alloc (.cells #[.int .i64 3, .int .i64 id, .int .i64 key] 28)) := (Below.refl _ _).alloc (Nat.le_refl _) _
  have hq1 := h.below hal
  obtain ⟨ao, cap, rfl, _, _, _, _⟩ := h.2.1
  have B0 := (cells3 bx.1).1; have B1 := (cells3 bx.1).2.1; have B2 := (cells3 bx.1).2.2
  have HQ := hid hq1; have HAL := hid hal; have H0 := hid h
  have hlen : l.length ≤ 1000000 := by omega
  have hlen4 : l.length ≤ 400000 := by omega
  have hBs : w.heap.size < (w.alloc (.cells #[.int .i64 3, .int .i64 id, .int .i64 key] 28)).heap.size := by simp
  have hBF : ¬ F w.heap.size := fun e => by have := h.1.qu.lt _ e; omega
  clear h bx hal hq1
  go_enter Try.func9, Try.ntmps9
  go_wp2_with fail
  generalize w.alloc (.cells #[.int .i64 3, .int .i64 id, .int .i64 key] 28) = w1 at *
  generalize hB : w.heap.size = B at *
  have e9 : (fixE l id == fixE l id) = true := by simp
  have HP := hid (rFix_c HQ.out.2.1 hlen4 HQ.out.1.plok id key)
  generalize hpe : fixE l id = pe at *
  have HPE := hid hpe
  clear hpe
  go_wp2_with (first
    | (go_at_call 21; refine HP.out.mono ?_; rintro e w2 ⟨v2, rfl, hr2⟩; have HR2 := hid hr2; have C1 : w2.cell? ⟨B, 1, none⟩ = some (.int .i64 id) := kCb hr2.2.1 B1; have C2 : w2.cell? ⟨B, 2, none⟩ = some (.int .i64 key) := kCb hr2.2.1 B2; have HL := hid (lfix_c (HQ.out.1.below hr2.2.1) id key); rw [HPE.out] at HL; clear hr2)
    | (go_at_call 18; refine HL.out.mono ?_; rintro e w3 ⟨rfl, hq3⟩))
  go_ret2
  obtain ⟨F', h1, h2, h3, h4⟩ := st_done H0.out (hB ▸ HAL.out) HR2.out hq3 (len_fixL _ _ _)
  exact ⟨v2, _, F', rfl, h1, h2, h3, h4⟩
set_option maxRecDepth 100000 in
set_option maxHeartbeats 4000000 in
theorem step4_c {w : World} {q : Nat} {F : Nat → Prop} {l : List (Int × Int)} {v : Value} {id key : Int} (h : Qr w q F l v) (hl : l.length ≤ 300000)  : Calls Try.prog 9 #[.pointer (some ⟨q, 0, none⟩), v, .agg #[.int .i64 4, .int .i64 id, .int .i64 key]] w fun e w' => StA w q F l v e w' := by
  have bx := heap_alloc w (.cells #[.int .i64 4, .int .i64 id, .int .i64 key] 28)
  have hal : Below w.heap.size w (w.alloc (.cells #[.int .i64 4, .int .i64 id, .int .i64 key] 28)) := (Below.refl _ _).alloc (Nat.le_refl _) _
  have hq1 := h.below hal
  obtain ⟨ao, cap, rfl, _, _, _, _⟩ := h.2.1
  have B0 := (cells3 bx.1).1; have B1 := (cells3 bx.1).2.1; have B2 := (cells3 bx.1).2.2
  have HQ := hid hq1; have HAL := hid hal; have H0 := hid h
  have hlen : l.length ≤ 1000000 := by omega
  have hlen4 : l.length ≤ 400000 := by omega
  have hBs : w.heap.size < (w.alloc (.cells #[.int .i64 4, .int .i64 id, .int .i64 key] 28)).heap.size := by simp
  have hBF : ¬ F w.heap.size := fun e => by have := h.1.qu.lt _ e; omega
  clear h bx hal hq1
  go_enter Try.func9, Try.ntmps9
  go_wp2_with fail
  generalize w.alloc (.cells #[.int .i64 4, .int .i64 id, .int .i64 key] 28) = w1 at *
  generalize hB : w.heap.size = B at *
  have e9 : (fixE l id == fixE l id) = true := by simp
  have HP := hid (rRem_c HQ.out.2.1 hlen4 HQ.out.1.plok id)
  generalize hpe : fixE l id = pe at *
  have HPE := hid hpe
  clear hpe
  go_wp2_with (first
    | (go_at_call 22; refine HP.out.mono ?_; rintro e w2 ⟨v2, rfl, hr2⟩; have HR2 := hid hr2; have C1 : w2.cell? ⟨B, 1, none⟩ = some (.int .i64 id) := kCb hr2.2.1 B1; have HL := hid (lrem_c (HQ.out.1.below hr2.2.1) id); rw [HPE.out] at HL; clear hr2)
    | (go_at_call 14; refine HL.out.mono ?_; rintro e w3 ⟨rfl, hq3⟩))
  go_ret2
  obtain ⟨F', h1, h2, h3, h4⟩ := st_done H0.out (hB ▸ HAL.out) HR2.out hq3 (len_remL _ _)
  exact ⟨v2, _, F', rfl, h1, h2, h3, h4⟩
set_option maxRecDepth 100000 in
set_option maxHeartbeats 4000000 in
theorem step1a_c {w : World} {q : Nat} {F : Nat → Prop} {v : Value} {id key : Int} (h : Qr w q F [] v)  : Calls Try.prog 9 #[.pointer (some ⟨q, 0, none⟩), v, .agg #[.int .i64 1, .int .i64 id, .int .i64 key]] w fun e w' => StA w q F [] v e w' := by
  have bx := heap_alloc w (.cells #[.int .i64 1, .int .i64 id, .int .i64 key] 28)
  have hal : Below w.heap.size w (w.alloc (.cells #[.int .i64 1, .int .i64 id, .int .i64 key] 28)) := (Below.refl _ _).alloc (Nat.le_refl _) _
  have hq1 := h.below hal
  obtain ⟨ao, cap, rfl, _, _, _, _⟩ := h.2.1
  have B0 := (cells3 bx.1).1; have B1 := (cells3 bx.1).2.1; have B2 := (cells3 bx.1).2.2
  have HQ := hid hq1; have HAL := hid hal; have H0 := hid h
  have hBs : w.heap.size < (w.alloc (.cells #[.int .i64 1, .int .i64 id, .int .i64 key] 28)).heap.size := by simp
  have hBF : ¬ F w.heap.size := fun e => by have := h.1.qu.lt _ e; omega
  clear h bx hal hq1
  go_enter Try.func9, Try.ntmps9
  go_wp2_with fail
  generalize w.alloc (.cells #[.int .i64 1, .int .i64 id, .int .i64 key] 28) = w1 at *
  generalize hB : w.heap.size = B at *
  have HP := hid (rPop0_c HQ.out.2.1)
  go_wp2_with fail
  refine HP.out.mono ?_
  rintro e w2 ⟨rfl, hb2⟩
  go_wp2_with fail
  have HQ2 := HQ.out.below hb2
  have hal2 : Below w2.heap.size w2 (w2.alloc (.cells #[.int .i64 0, .int .i64 0] 53)) := (Below.refl _ _).alloc (Nat.le_refl _) _
  have bx := cells_at (heap_alloc w2 (.cells #[.int .i64 0, .int .i64 0] 53)).1
  have HQ3 := hid (HQ2.below hal2)
  have HB3 := hid (HAL.out.trans (((hb2.trans (hal2.mono hb2.size))).mono (by omega)))
  clear HQ2 hal2 hb2
  generalize w2.alloc (.cells #[.int .i64 0, .int .i64 0] 53) = w3 at *
  generalize w2.heap.size = X at *
  refine (lpop0_c HQ3.out.1).mono ?_
  rintro e w4 ⟨rfl, hb4⟩
  have x0 : (w4.alloc (.cells #[.int .i64 0, .int .i64 0] 40)).cell? ⟨X, 0, none⟩ = some (.int .i64 0) := kCa (kCb hb4 bx.1)
  have x1 : (w4.alloc (.cells #[.int .i64 0, .int .i64 0] 40)).cell? ⟨X, 1, none⟩ = some (.int .i64 0) := kCa (kCb hb4 bx.2)
  have HB4 := hid hb4
  clear hb4 bx
  go_wp2_with fail
  go_ret2
  have h5 := HB4.out.alloc HB4.out.size (.cells #[.int .i64 0, .int .i64 0] 40)
  have hbw : Below w.heap.size w (w4.alloc (.cells #[.int .i64 0, .int .i64 0] 40)) := by
    have := HB3.out; rw [← hB] at this; exact this.trans (h5.mono this.size)
  exact ⟨_, [], F, rfl, HQ3.out.below h5, Tn.of_below hbw, fun k hk => .inl hk, by simp⟩
set_option maxRecDepth 100000 in
set_option maxHeartbeats 4000000 in
theorem step2a_c {w : World} {q : Nat} {F : Nat → Prop} {v : Value} {id key : Int} (h : Qr w q F [] v)  : Calls Try.prog 9 #[.pointer (some ⟨q, 0, none⟩), v, .agg #[.int .i64 2, .int .i64 id, .int .i64 key]] w fun e w' => StA w q F [] v e w' := by
  have bx := heap_alloc w (.cells #[.int .i64 2, .int .i64 id, .int .i64 key] 28)
  have hal : Below w.heap.size w (w.alloc (.cells #[.int .i64 2, .int .i64 id, .int .i64 key] 28)) := (Below.refl _ _).alloc (Nat.le_refl _) _
  have hq1 := h.below hal
  obtain ⟨ao, cap, rfl, _, _, _, _⟩ := h.2.1
  have B0 := (cells3 bx.1).1; have B1 := (cells3 bx.1).2.1; have B2 := (cells3 bx.1).2.2
  have HQ := hid hq1; have HAL := hid hal; have H0 := hid h
  have hBs : w.heap.size < (w.alloc (.cells #[.int .i64 2, .int .i64 id, .int .i64 key] 28)).heap.size := by simp
  have hBF : ¬ F w.heap.size := fun e => by have := h.1.qu.lt _ e; omega
  clear h bx hal hq1
  go_enter Try.func9, Try.ntmps9
  go_wp2_with fail
  generalize w.alloc (.cells #[.int .i64 2, .int .i64 id, .int .i64 key] 28) = w1 at *
  generalize hB : w.heap.size = B at *
  have HP := hid (rPop0_c HQ.out.2.1)
  go_wp2_with fail
  refine HP.out.mono ?_
  rintro e w2 ⟨rfl, hb2⟩
  go_wp2_with fail
  have HQ2 := HQ.out.below hb2
  have hal2 : Below w2.heap.size w2 (w2.alloc (.cells #[.int .i64 0, .int .i64 0] 53)) := (Below.refl _ _).alloc (Nat.le_refl _) _
  have bx := cells_at (heap_alloc w2 (.cells #[.int .i64 0, .int .i64 0] 53)).1
  have HQ3 := hid (HQ2.below hal2)
  have HB3 := hid (HAL.out.trans (((hb2.trans (hal2.mono hb2.size))).mono (by omega)))
  clear HQ2 hal2 hb2
  generalize w2.alloc (.cells #[.int .i64 0, .int .i64 0] 53) = w3 at *
  generalize w2.heap.size = X at *
  refine (lpeek0_c HQ3.out.1).mono ?_
  rintro e w4 ⟨rfl, hb4⟩
  have x0 : (w4.alloc (.cells #[.int .i64 0, .int .i64 0] 40)).cell? ⟨X, 0, none⟩ = some (.int .i64 0) := kCa (kCb hb4 bx.1)
  have x1 : (w4.alloc (.cells #[.int .i64 0, .int .i64 0] 40)).cell? ⟨X, 1, none⟩ = some (.int .i64 0) := kCa (kCb hb4 bx.2)
  have HB4 := hid hb4
  clear hb4 bx
  go_wp2_with fail
  go_ret2
  have h5 := HB4.out.alloc HB4.out.size (.cells #[.int .i64 0, .int .i64 0] 40)
  have hbw : Below w.heap.size w (w4.alloc (.cells #[.int .i64 0, .int .i64 0] 40)) := by
    have := HB3.out; rw [← hB] at this; exact this.trans (h5.mono this.size)
  exact ⟨_, [], F, rfl, HQ3.out.below h5, Tn.of_below hbw, fun k hk => .inl hk, by simp⟩
set_option maxRecDepth 100000 in
set_option maxHeartbeats 4000000 in
theorem step1b_c {w : World} {q : Nat} {F : Nat → Prop} {a : Int × Int} {r : List (Int × Int)} {v : Value} {id key : Int} (h : Qr w q F (a :: r) v) (hl : r.length ≤ 300000)  : Calls Try.prog 9 #[.pointer (some ⟨q, 0, none⟩), v, .agg #[.int .i64 1, .int .i64 id, .int .i64 key]] w fun e w' => StA w q F (a :: r) v e w' := by
  obtain ⟨a0, a1⟩ := a
  have bx := heap_alloc w (.cells #[.int .i64 1, .int .i64 id, .int .i64 key] 28)
  have hal : Below w.heap.size w (w.alloc (.cells #[.int .i64 1, .int .i64 id, .int .i64 key] 28)) := (Below.refl _ _).alloc (Nat.le_refl _) _
  have hq1 := h.below hal
  obtain ⟨ao, cap, rfl, _, _, _, _⟩ := h.2.1
  have B0 := (cells3 bx.1).1; have B1 := (cells3 bx.1).2.1; have B2 := (cells3 bx.1).2.2
  have HQ := hid hq1; have HAL := hid hal; have H0 := hid h
  have hBs : w.heap.size < (w.alloc (.cells #[.int .i64 1, .int .i64 id, .int .i64 key] 28)).heap.size := by simp
  have hBF : ¬ F w.heap.size := fun e => by have := h.1.qu.lt _ e; omega
  clear h bx hal hq1
  go_enter Try.func9, Try.ntmps9
  go_wp2_with fail
  generalize w.alloc (.cells #[.int .i64 1, .int .i64 id, .int .i64 key] 28) = w1 at *
  generalize hB : w.heap.size = B at *
  have HP := hid (rPop_c HQ.out.2.1 (by omega))
  have ea : (a0 == a0) = true := by simp
  have eb : (a1 == a1) = true := by simp
  go_wp2_with fail
  refine HP.out.mono ?_
  rintro e w2 ⟨v2, rfl, hr2⟩
  go_wp2_with fail
  have hal2 : Below w2.heap.size w2 (w2.alloc (.cells #[.int .i64 a0, .int .i64 a1] 53)) := (Below.refl _ _).alloc (Nat.le_refl _) _
  have bx := cells_at (heap_alloc w2 (.cells #[.int .i64 a0, .int .i64 a1] 53)).1
  have hXs : w2.heap.size < (w2.alloc (.cells #[.int .i64 a0, .int .i64 a1] 53)).heap.size := by simp
  have HQ3 := hid ((HQ.out.below hr2.2.1).below hal2)
  have HR3 := hid (hr2.below hal2)
  have hXF : ¬ F w2.heap.size := fun e => by have := (HQ.out.below hr2.2.1).1.qu.lt _ e; omega
  clear hr2 hal2
  generalize w2.alloc (.cells #[.int .i64 a0, .int .i64 a1] 53) = w3 at *
  generalize w2.heap.size = X at *
  refine (lpop_c HQ3.out.1).mono ?_
  rintro e w4 ⟨rfl, hq4⟩
  have hq4' := hq4
  obtain ⟨F4, _, ht4, _⟩ := hq4'
  have y0 : w4.cell? ⟨X, 0, none⟩ = some (.int .i64 a0) := (World.cell?_of_block (a := ⟨X, 0, none⟩) (ht4.block X hXs hXF)).trans bx.1
  have y1 : w4.cell? ⟨X, 1, none⟩ = some (.int .i64 a1) := (World.cell?_of_block (a := ⟨X, 1, none⟩) (ht4.block X hXs hXF)).trans bx.2
  have x0 : (w4.alloc (.cells #[.int .i64 a0, .int .i64 a1] 40)).cell? ⟨X, 0, none⟩ = some (.int .i64 a0) := kCa y0
  have x1 : (w4.alloc (.cells #[.int .i64 a0, .int .i64 a1] 40)).cell? ⟨X, 1, none⟩ = some (.int .i64 a1) := kCa y1
  have HQ4 := hid hq4
  clear hq4 ht4 y0 y1 bx
  go_wp2_with fail
  go_ret2
  obtain ⟨F', h1, h2, h3, h4⟩ := st_done H0.out (hB ▸ HAL.out) HR3.out HQ4.out (by simp; omega)
  have h5 : Below w4.heap.size w4 (w4.alloc (.cells #[.int .i64 a0, .int .i64 a1] 40)) := (Below.refl _ _).alloc (Nat.le_refl _) _
  exact ⟨v2, _, F', rfl, h1.below h5, h2.comp (Tn.of_below (F := fun _ => False) h5) (fun k hk => hk.elim), h3, h4⟩
set_option maxRecDepth 100000 in
set_option maxHeartbeats 4000000 in
theorem step2b_c {w : World} {q : Nat} {F : Nat → Prop} {a : Int × Int} {r : List (Int × Int)} {v : Value} {id key : Int} (h : Qr w q F (a :: r) v) (hl : r.length ≤ 300000)  : Calls Try.prog 9 #[.pointer (some ⟨q, 0, none⟩), v, .agg #[.int .i64 2, .int .i64 id, .int .i64 key]] w fun e w' => StA w q F (a :: r) v e w' := by
  obtain ⟨a0, a1⟩ := a
  have bx := heap_alloc w (.cells #[.int .i64 2, .int .i64 id, .int .i64 key] 28)
  have hal : Below w.heap.size w (w.alloc (.cells #[.int .i64 2, .int .i64 id, .int .i64 key] 28)) := (Below.refl _ _).alloc (Nat.le_refl _) _
  have hq1 := h.below hal
  obtain ⟨ao, cap, rfl, _, _, _, _⟩ := h.2.1
  have B0 := (cells3 bx.1).1; have B1 := (cells3 bx.1).2.1; have B2 := (cells3 bx.1).2.2
  have HQ := hid hq1; have HAL := hid hal; have H0 := hid h
  have hBs : w.heap.size < (w.alloc (.cells #[.int .i64 2, .int .i64 id, .int .i64 key] 28)).heap.size := by simp
  have hBF : ¬ F w.heap.size := fun e => by have := h.1.qu.lt _ e; omega
  clear h bx hal hq1
  go_enter Try.func9, Try.ntmps9
  go_wp2_with fail
  generalize w.alloc (.cells #[.int .i64 2, .int .i64 id, .int .i64 key] 28) = w1 at *
  generalize hB : w.heap.size = B at *
  have HP := hid (rPop_c HQ.out.2.1 (by omega))
  have ea : (a0 == a0) = true := by simp
  have eb : (a1 == a1) = true := by simp
  go_wp2_with fail
  refine HP.out.mono ?_
  rintro e w2 ⟨v2, rfl, hr2⟩
  go_wp2_with fail
  have hal2 : Below w2.heap.size w2 (w2.alloc (.cells #[.int .i64 a0, .int .i64 a1] 53)) := (Below.refl _ _).alloc (Nat.le_refl _) _
  have bx := cells_at (heap_alloc w2 (.cells #[.int .i64 a0, .int .i64 a1] 53)).1
  have hXs : w2.heap.size < (w2.alloc (.cells #[.int .i64 a0, .int .i64 a1] 53)).heap.size := by simp
  have HQ3 := hid ((HQ.out.below hr2.2.1).below hal2)
  have HR3 := hid (hr2.below hal2)
  have hXF : ¬ F w2.heap.size := fun e => by have := (HQ.out.below hr2.2.1).1.qu.lt _ e; omega
  clear hr2 hal2
  generalize w2.alloc (.cells #[.int .i64 a0, .int .i64 a1] 53) = w3 at *
  generalize w2.heap.size = X at *
  refine (lpeek_c HQ3.out.1).mono ?_
  rintro e w4 ⟨rfl, hb4⟩
  have x0 : (w4.alloc (.cells #[.int .i64 a0, .int .i64 a1] 40)).cell? ⟨X, 0, none⟩ = some (.int .i64 a0) := kCa (kCb hb4 bx.1)
  have x1 : (w4.alloc (.cells #[.int .i64 a0, .int .i64 a1] 40)).cell? ⟨X, 1, none⟩ = some (.int .i64 a1) := kCa (kCb hb4 bx.2)
  have HB4 := hid hb4
  clear hb4 bx
  go_wp2_with fail
  go_ret2
  have h5 := HB4.out.alloc HB4.out.size (.cells #[.int .i64 a0, .int .i64 a1] 40)
  have hbw : Below w.heap.size w (w4.alloc (.cells #[.int .i64 a0, .int .i64 a1] 40)) := by
    have := HAL.out; rw [← hB] at this
    have h6 : Below w.heap.size w w3 := this.trans (HR3.out.2.1.mono this.size)
    exact h6.trans (h5.mono h6.size)
  exact ⟨_, (a0, a1) :: r, F, rfl, HQ3.out.below h5, Tn.of_below hbw, fun k hk => .inl hk, by simp⟩
set_option maxRecDepth 100000 in
set_option maxHeartbeats 4000000 in
theorem step5_c {w : World} {q : Nat} {F : Nat → Prop} {l : List (Int × Int)} {v : Value} {kind id key : Int} (h : Qr w q F l v) (hl : l.length ≤ 300000) (k0 : kind ≠ 0) (k1 : kind ≠ 1) (k2 : kind ≠ 2) (k3 : kind ≠ 3) (k4 : kind ≠ 4) : Calls Try.prog 9 #[.pointer (some ⟨q, 0, none⟩), v, .agg #[.int .i64 kind, .int .i64 id, .int .i64 key]] w fun e w' => StA w q F l v e w' := by
  have n0 : (kind == 0) = false := by simp [k0]
  have n1 : (kind == 1) = false := by simp [k1]
  have n2 : (kind == 2) = false := by simp [k2]
  have n3 : (kind == 3) = false := by simp [k3]
  have n4 : (kind == 4) = false := by simp [k4]
  have bx := heap_alloc w (.cells #[.int .i64 kind, .int .i64 id, .int .i64 key] 28)
  have hal : Below w.heap.size w (w.alloc (.cells #[.int .i64 kind, .int .i64 id, .int .i64 key] 28)) := (Below.refl _ _).alloc (Nat.le_refl _) _
  have hq1 := h.below hal
  obtain ⟨ao, cap, rfl, _, _, _, _⟩ := h.2.1
  have B0 := (cells3 bx.1).1; have B1 := (cells3 bx.1).2.1; have B2 := (cells3 bx.1).2.2
  have HQ := hid hq1; have HAL := hid hal; have H0 := hid h
  have hlen : l.length ≤ 1000000 := by omega
  have hlen4 : l.length ≤ 400000 := by omega
  have hBs : w.heap.size < (w.alloc (.cells #[.int .i64 kind, .int .i64 id, .int .i64 key] 28)).heap.size := by simp
  have hBF : ¬ F w.heap.size := fun e => by have := h.1.qu.lt _ e; omega
  clear h bx hal hq1
  go_enter Try.func9, Try.ntmps9
  go_wp2_with fail
  generalize w.alloc (.cells #[.int .i64 kind, .int .i64 id, .int .i64 key] 28) = w1 at *
  generalize hB : w.heap.size = B at *
  have HQd := hid (show Qr w1.drew q F l (.slice ao l.length cap) from HQ.out.below ⟨rfl, rfl, rfl, Nat.le_refl _, fun _ _ => rfl⟩)
  have D1 : w1.drew.cell? ⟨B, 1, none⟩ = some (.int .i64 id) := B1
  have HAd := hid (show Below w.heap.size w w1.drew from (by have := HAL.out; rw [← hB] at this; exact ⟨this.os, this.tape, this.output, this.size, this.block⟩))
  have hbb : ∀ b : Bool, (b == b) = true := fun b => by simp
  have hbb2 := hbb (hasL l id)
  have hnn : ((l.length : Int) == (l.length : Int)) = true := by simp
  clear HQ HAL
  have HQ := HQd
  clear HQd
  go_wp2_with fail
  refine wp_region_held_drew (S := (fun w' => w'.cell? ⟨B, 1, none⟩ = some (.int .i64 id))) (by kernel_rfl) ?_ (fun hHeld => ?_)
  · (repeat (with_reducible first | assumption | refine kCd ?_))
  generalize w1.drew = wd at *
  refine wpAnyH_take (i := 0) (v := ?_) rfl (by kernel_rfl) (by kernel_rfl) (by kernel_rfl) (fun _ _ _ h => h) (Or.inl ⟨by rfl, ?_⟩) (by assumption) ?_
  rotate_left
  (focus (intro w0 hSw; (try dsimp only at hSw); go_simp <;> with_reducible rfl))
  simp only [List.getElem_toArray, List.getElem_cons_zero, Act.put, List.setIfInBounds_toArray, List.set_cons_zero, List.set_cons_succ]
  refine wpAnyH_take (i := 1) (v := ?_) rfl (by kernel_rfl) (by kernel_rfl) (by kernel_rfl) (fun _ _ _ h => h) (Or.inl ⟨by rfl, ?_⟩) (by assumption) ?_
  rotate_left
  (focus (intro w0 hSw; (try dsimp only at hSw); go_simp <;> with_reducible rfl))
  simp only [List.getElem_toArray, List.getElem_cons_succ, List.getElem_cons_zero, Act.put, List.setIfInBounds_toArray, List.set_cons_zero, List.set_cons_succ]
  refine wpAnyH_take (i := 3) (v := ?_) rfl (by kernel_rfl) (by kernel_rfl) (by kernel_rfl) (fun _ _ _ h => h) (Or.inl ⟨by rfl, ?_⟩) (by assumption) ?_
  rotate_left
  (focus (intro w0 hSw; (try dsimp only at hSw); go_simp <;> with_reducible rfl))
  simp only [List.getElem_toArray, List.getElem_cons_succ, List.getElem_cons_zero, Act.put, List.setIfInBounds_toArray, List.set_cons_zero, List.set_cons_succ]
  refine wpAnyH_ready (rs := [2]) (by kernel_rfl) (by simp) ?_
  refine AllReadyH.cons (o := _) rfl (fun K hK => ?_) ?_
  rotate_left
  exact AllReadyH.nil
  go_simp
  refine (items_c HQ.out.1).mono ?_
  rintro e w2 ⟨ao2, cap2, rfl, l2, t2, hb2, hi2⟩
  have HB2 := hid hb2; have HI2 := hid (it_rl hi2); clear hi2 l2
  refine hK.out _ _ ?_ (fun hH1 => ?_)
  · ((try dsimp only); repeat (with_reducible first | assumption | refine kCd ?_ | refine kCb (by assumption) ?_))
  clear hK K
  try simp only [Act.put, List.setIfInBounds_toArray, List.set_cons_zero, List.set_cons_succ]
  refine wpAnyH_ready (rs := [4]) (by kernel_rfl) (by simp) ?_
  refine AllReadyH.cons (o := _) rfl (fun K hK => ?_) ?_
  rotate_left
  exact AllReadyH.nil
  go_simp
  refine (same_c HI2.out (HQ.out.2.1.below HB2.out) hlen).mono ?_
  rintro e w3 ⟨rfl, q3, rfl⟩
  have hb3 : Below w2.heap.size w2 (w2.drewN q3) := ⟨rfl, rfl, rfl, Nat.le_refl _, fun _ _ => rfl⟩
  refine hK.out _ _ ?_ (fun hH2 => ?_)
  · ((try dsimp only); repeat (with_reducible first | assumption | refine kCd ?_ | refine kCb (by assumption) ?_))
  clear hK K
  try simp only [Act.put, List.setIfInBounds_toArray, List.set_cons_zero, List.set_cons_succ]
  refine wpAnyH_take (i := 5) (v := ?_) rfl (by kernel_rfl) (by kernel_rfl) (by kernel_rfl) (fun _ _ _ h => h) (Or.inl ⟨by rfl, ?_⟩) (by assumption) ?_
  rotate_left
  (focus (intro w0 hSw; (try dsimp only at hSw); go_simp <;> with_reducible rfl))
  simp only [List.getElem_toArray, List.getElem_cons_succ, List.getElem_cons_zero, Act.put, List.setIfInBounds_toArray, List.set_cons_zero, List.set_cons_succ]
  refine wpAnyH_take (i := 6) (v := ?_) rfl (by kernel_rfl) (by kernel_rfl) (by kernel_rfl) (fun _ _ _ h => h) (Or.inl ⟨by rfl, ?_⟩) (by assumption) ?_
  rotate_left
  (focus (intro w0 hSw; (try dsimp only at hSw); go_simp <;> with_reducible rfl))
  simp only [List.getElem_toArray, List.getElem_cons_succ, List.getElem_cons_zero, Act.put, List.setIfInBounds_toArray, List.set_cons_zero, List.set_cons_succ]
  refine wpAnyH_take (i := 7) (v := ?_) rfl (by kernel_rfl) (by kernel_rfl) (by kernel_rfl) (fun _ _ _ h => h) (Or.inl ⟨by rfl, ?_⟩) (by assumption) ?_
  rotate_left
  (focus (intro w0 hSw; (try dsimp only at hSw); go_simp <;> with_reducible rfl))
  simp only [List.getElem_toArray, List.getElem_cons_succ, List.getElem_cons_zero, Act.put, List.setIfInBounds_toArray, List.set_cons_zero, List.set_cons_succ]
  refine wpAnyH_take (i := 8) (v := ?_) rfl (by kernel_rfl) (by kernel_rfl) (by kernel_rfl) (fun _ _ _ h => h) (Or.inl ⟨by rfl, ?_⟩) (by assumption) ?_
  rotate_left
  (focus (intro w0 hSw; (try dsimp only at hSw); go_simp <;> with_reducible rfl))
  simp only [List.getElem_toArray, List.getElem_cons_succ, List.getElem_cons_zero, Act.put, List.setIfInBounds_toArray, List.set_cons_zero, List.set_cons_succ]
  refine wpAnyH_take (i := 10) (v := ?_) rfl (by kernel_rfl) (by kernel_rfl) (by kernel_rfl) (fun _ _ _ h => h) (Or.inl ⟨by rfl, ?_⟩) (by assumption) ?_
  rotate_left
  (focus (intro w0 hSw; (try dsimp only at hSw); go_simp <;> with_reducible rfl))
  simp only [List.getElem_toArray, List.getElem_cons_succ, List.getElem_cons_zero, Act.put, List.setIfInBounds_toArray, List.set_cons_zero, List.set_cons_succ]
  refine wpAnyH_take (i := 11) (v := ?_) rfl (by kernel_rfl) (by kernel_rfl) (by kernel_rfl) (fun _ _ _ h => h) (Or.inl ⟨by rfl, ?_⟩) (by assumption) ?_
  rotate_left
  (focus (intro w0 hSw; (try dsimp only at hSw); go_simp <;> with_reducible rfl))
  simp only [List.getElem_toArray, List.getElem_cons_succ, List.getElem_cons_zero, Act.put, List.setIfInBounds_toArray, List.set_cons_zero, List.set_cons_succ]
  refine wpAnyH_take (i := 12) (v := ?_) rfl (by kernel_rfl) (by kernel_rfl) (by kernel_rfl) (fun _ _ _ h => h) (Or.inl ⟨by rfl, ?_⟩) (by assumption) ?_
  rotate_left
  (focus (intro w0 hSw; (try dsimp only at hSw); go_simp <;> with_reducible rfl))
  simp only [List.getElem_toArray, List.getElem_cons_succ, List.getElem_cons_zero, Act.put, List.setIfInBounds_toArray, List.set_cons_zero, List.set_cons_succ]
  refine wpAnyH_ready (rs := [9]) (by kernel_rfl) (by simp) ?_
  refine AllReadyH.cons (o := _) rfl (fun K hK => ?_) ?_
  rotate_left
  exact AllReadyH.nil
  go_simp
  refine (lhas_c ((HQ.out.1.below HB2.out).below hb3) id).mono ?_
  rintro e w4 ⟨rfl, rfl⟩
  refine hK.out _ _ ?_ (fun hH3 => ?_)
  · ((try dsimp only); repeat (with_reducible first | assumption | refine kCd ?_ | refine kCb (by assumption) ?_))
  clear hK K
  try simp only [Act.put, List.setIfInBounds_toArray, List.set_cons_zero, List.set_cons_succ]
  refine wpAnyH_ready (rs := [13]) (by kernel_rfl) (by simp) ?_
  refine AllReadyH.cons (o := _) rfl (fun K hK => ?_) ?_
  rotate_left
  exact AllReadyH.nil
  go_simp
  refine (rHas_c ((HQ.out.2.1.below HB2.out).below hb3) hlen4 HQ.out.1.plok id).mono ?_
  rintro e w5 ⟨rfl, hb5⟩
  have HB5 := hid hb5
  refine hK.out _ _ ?_ (fun hH4 => ?_)
  · ((try dsimp only); repeat (with_reducible first | assumption | refine kCd ?_ | refine kCb (by assumption) ?_))
  clear hK K
  try simp only [Act.put, List.setIfInBounds_toArray, List.set_cons_zero, List.set_cons_succ]
  refine wpAnyH_take (i := 14) (v := ?_) rfl (by kernel_rfl) (by kernel_rfl) (by kernel_rfl) (fun _ _ _ h => h) (Or.inl ⟨by rfl, ?_⟩) (by assumption) ?_
  rotate_left
  (focus (intro w0 hSw; (try dsimp only at hSw); go_simp <;> with_reducible rfl))
  simp only [List.getElem_toArray, List.getElem_cons_succ, List.getElem_cons_zero, Act.put, List.setIfInBounds_toArray, List.set_cons_zero, List.set_cons_succ]
  refine wpAnyH_take (i := 15) (v := ?_) rfl (by kernel_rfl) (by kernel_rfl) (by kernel_rfl) (fun _ _ _ h => h) (Or.inl ⟨by rfl, ?_⟩) (by assumption) ?_
  rotate_left
  (focus (intro w0 hSw; (try dsimp only at hSw); go_simp <;> with_reducible rfl))
  simp only [List.getElem_toArray, List.getElem_cons_succ, List.getElem_cons_zero, Act.put, List.setIfInBounds_toArray, List.set_cons_zero, List.set_cons_succ]
  refine wpAnyH_take (i := 16) (v := ?_) rfl (by kernel_rfl) (by kernel_rfl) (by kernel_rfl) (fun _ _ _ h => h) (Or.inl ⟨by rfl, ?_⟩) (by assumption) ?_
  rotate_left
  (focus (intro w0 hSw; (try dsimp only at hSw); go_simp <;> with_reducible rfl))
  simp only [List.getElem_toArray, List.getElem_cons_succ, List.getElem_cons_zero, Act.put, List.setIfInBounds_toArray, List.set_cons_zero, List.set_cons_succ]
  refine wpAnyH_take (i := 17) (v := ?_) rfl (by kernel_rfl) (by kernel_rfl) (by kernel_rfl) (fun _ _ _ h => h) (Or.inl ⟨by rfl, ?_⟩) (by assumption) ?_
  rotate_left
  (focus (intro w0 hSw; (try dsimp only at hSw); go_simp <;> with_reducible rfl))
  simp only [List.getElem_toArray, List.getElem_cons_succ, List.getElem_cons_zero, Act.put, List.setIfInBounds_toArray, List.set_cons_zero, List.set_cons_succ]
  refine wpAnyH_take (i := 19) (v := ?_) rfl (by kernel_rfl) (by kernel_rfl) (by kernel_rfl) (fun _ _ _ h => h) (Or.inl ⟨by rfl, ?_⟩) (by assumption) ?_
  rotate_left
  (focus (intro w0 hSw; (try dsimp only at hSw); go_simp <;> with_reducible rfl))
  simp only [List.getElem_toArray, List.getElem_cons_succ, List.getElem_cons_zero, Act.put, List.setIfInBounds_toArray, List.set_cons_zero, List.set_cons_succ]
  refine wpAnyH_take (i := 20) (v := ?_) rfl (by kernel_rfl) (by kernel_rfl) (by kernel_rfl) (fun _ _ _ h => h) (Or.inl ⟨by rfl, ?_⟩) (by assumption) ?_
  rotate_left
  (focus (intro w0 hSw; (try dsimp only at hSw); go_simp <;> with_reducible rfl))
  simp only [List.getElem_toArray, List.getElem_cons_succ, List.getElem_cons_zero, Act.put, List.setIfInBounds_toArray, List.set_cons_zero, List.set_cons_succ]
  refine wpAnyH_ready (rs := [18]) (by kernel_rfl) (by simp) ?_
  refine AllReadyH.cons (o := _) rfl (fun K hK => ?_) ?_
  rotate_left
  exact AllReadyH.nil
  go_simp
  refine (llen_c (((HQ.out.1.below HB2.out).below hb3).below HB5.out)).mono ?_
  rintro e w6 ⟨rfl, rfl⟩
  refine hK.out _ _ ?_ (fun hH5 => ?_)
  · ((try dsimp only); repeat (with_reducible first | assumption | refine kCd ?_ | refine kCb (by assumption) ?_))
  clear hK K
  try simp only [Act.put, List.setIfInBounds_toArray, List.set_cons_zero, List.set_cons_succ]
  refine wpAnyH_take (i := 21) (v := ?_) rfl (by kernel_rfl) (by kernel_rfl) (by kernel_rfl) (fun _ _ _ h => h) (Or.inl ⟨by rfl, ?_⟩) (by assumption) ?_
  rotate_left
  (focus (intro w0 hSw; (try dsimp only at hSw); go_simp <;> with_reducible rfl))
  simp only [List.getElem_toArray, List.getElem_cons_succ, List.getElem_cons_zero, Act.put, List.setIfInBounds_toArray, List.set_cons_zero, List.set_cons_succ]
  refine wpAnyH_take (i := 22) (v := ?_) rfl (by kernel_rfl) (by kernel_rfl) (by kernel_rfl) (fun _ _ _ h => h) (Or.inl ⟨by rfl, ?_⟩) (by assumption) ?_
  rotate_left
  (focus (intro w0 hSw; (try dsimp only at hSw); go_simp <;> with_reducible rfl))
  simp only [List.getElem_toArray, List.getElem_cons_succ, List.getElem_cons_zero, Act.put, List.setIfInBounds_toArray, List.set_cons_zero, List.set_cons_succ]
  refine wpAnyH_ready (rs := [23]) (by kernel_rfl) (by simp) ?_
  refine AllReadyH.cons (o := _) rfl (fun K hK => ?_) ?_
  rotate_left
  exact AllReadyH.nil
  go_simp
  refine hK.out _ _ ?_ (fun hH6 => ?_)
  · ((try dsimp only); repeat (with_reducible first | assumption | refine kCd ?_ | refine kCb (by assumption) ?_))
  clear hK K
  try simp only [Act.put, List.setIfInBounds_toArray, List.set_cons_zero, List.set_cons_succ]
  refine wpAnyH_ready (rs := [24]) (by kernel_rfl) (by simp) ?_
  refine AllReadyH.cons (o := _) rfl (fun K hK => ?_) ?_
  rotate_left
  exact AllReadyH.nil
  go_simp
  refine hK.out _ _ ?_ (fun hH7 => ?_)
  · ((try dsimp only); repeat (with_reducible first | assumption | refine kCd ?_ | refine kCb (by assumption) ?_))
  clear hK K
  try simp only [Act.put, List.setIfInBounds_toArray, List.set_cons_zero, List.set_cons_succ]
  refine wpAnyH_done (by kernel_rfl) ?_ _
  go_wp2_with fail
  go_ret2
  have hb : Below wd.heap.size wd w6 := (HB2.out.trans (hb3.mono HB2.out.size)).trans (HB5.out.mono (HB2.out.trans (hb3.mono HB2.out.size)).size)
  have hbw : Below w.heap.size w w6 := HAd.out.trans (hb.mono HAd.out.size)
  exact ⟨_, l, F, rfl, HQ.out.below hb, Tn.of_below hbw, fun k hk => .inl hk, by omega⟩
theorem step_c {w : World} {q : Nat} {F : Nat → Prop} {l : List (Int × Int)} {v : Value} (kind id key : Int) (h : Qr w q F l v) (hl : l.length ≤ 300000) : Calls Try.prog 9 #[.pointer (some ⟨q, 0, none⟩), v, .agg #[.int .i64 kind, .int .i64 id, .int .i64 key]] w fun e w' => StA w q F l v e w' := by
  by_cases k0 : kind = 0
  · subst k0; exact step0_c h hl
  by_cases k1 : kind = 1
  · subst k1
    cases l with
    | nil => exact step1a_c h
    | cons a r => exact step1b_c h (by simp at hl; omega)
  by_cases k2 : kind = 2
  · subst k2
    cases l with
    | nil => exact step2a_c h
    | cons a r => exact step2b_c h (by simp at hl; omega)
  by_cases k3 : kind = 3
  · subst k3; exact step3_c h hl
  by_cases k4 : kind = 4
  · subst k4; exact step4_c h hl
  exact step5_c h hl k0 k1 k2 k3 k4
end Go.Proofs.Ytacgkgbhleehjaa
namespace Go.Proofs.Ytacgkgbhleehjaa
open Go.RowKit Go.Sort Go.MapKept

theorem kBm {w0 w w' : World} (h : Below w0.heap.size w0 w) {F : Nat → Prop} (ht : Tn F w w') (hF : ∀ k, F k → w0.heap.size ≤ k) : Below w0.heap.size w0 w' := by
  have hs := h.size
  exact ⟨ht.os.trans h.os, ht.tape.trans h.tape, ht.output.trans h.output, Nat.le_trans hs ht.size, fun k hk => (ht.block k (by omega) (fun e => by have := hF k e; omega)).trans (h.block k hk)⟩
set_option maxRecDepth 100000 in
set_option maxHeartbeats 4000000 in
theorem runs_c (ao : Option Addr) (k c : Nat) (X : Nat → Op3) (w : World) (ho : Ops w ao k X) (_ : k ≤ c ∧ c ≤ 9223372036854775807) : Calls Try.prog 3 #[.slice ao k c] w fun e w' => e = .returned (.bool true) ∧ Below w.heap.size w w' := by
  have HO := hid ho
  clear ho
  by_cases hk : 600 < k
  · have hk' : decide ((600 : Int) < k) = true := decide_eq_true (by omega)
    go_enter Try.func3, Try.ntmps3
    go_wp2_with (go_at_call 7; refine (awake_c _).mono ?_; rintro e w1 ⟨rfl, hb1⟩)
    go_ret
    exact ⟨rfl, hb1⟩
  · have hk' : decide ((600 : Int) < k) = false := decide_eq_false (by omega)
    go_enter Try.func3, Try.ntmps3
    go_wp2_with fail
    refine (awake_c _).mono ?_
    rintro e w1 ⟨rfl, hb1⟩
    have HB1 := hid hb1
    clear hb1
    go_wp2_with fail
    refine (new_c _).mono ?_
    rintro e w2 ⟨rfl, rfl⟩
    have hq := ql_new w1
    have hal : Below w1.heap.size w1 (w1.alloc (.cells #[.slice none 0 0, .map none] 50)) := (Below.refl _ _).alloc (Nat.le_refl _) _
    have hQ : Qr (w1.alloc (.cells #[.slice none 0 0, .map none] 50)) w1.heap.size (fun k => k = w1.heap.size) [] (.slice none 0 0) := ⟨hq, ⟨none, 0, rfl, RL.nil _ _ _, fun _ => ⟨rfl, rfl⟩, Nat.le_refl _, by omega⟩, fun k ⟨_, _, _, e, a, ha, _⟩ => by cases e; cases ha⟩
    have HQ0 := hid hQ
    have HB2 := hid (HB1.out.trans (hal.mono HB1.out.size))
    have HN := hid (show ∀ k, k = w1.heap.size → w.heap.size ≤ k from fun k e => by have := HB1.out.size; omega)
    clear hq hal hQ HB1
    generalize w1.alloc (.cells #[.slice none 0 0, .map none] 50) = w2 at *
    generalize w1.heap.size = q at *
    go_wp2_with fail
    go_loopw [4, 17] (fun lv t wr => ∃ (i : Nat) (l : List (Int × Int)) (F : Nat → Prop), i ≤ k ∧ t = .int .i64 i ∧ Hid (Qr wr q F l lv) ∧ Hid (l.length ≤ i) ∧ Hid (Below w.heap.size w wr) ∧ Hid (∀ k, F k → w.heap.size ≤ k)) (fun _ t _ => k - (intOf t).toNat)
    case atStart => exact ⟨0, [], _, by omega, rfl, HQ0, Nat.le_refl _, HB2, HN⟩
    case round =>
      clear HQ0 HB2 HN
      obtain ⟨i, l, F, hi, rfl, HQ, HL, HB, HN⟩ := hrel
      by_cases hlt : i < k
      · have hlt' : (i : Int) < k := by omega
        obtain ⟨b, o, rfl, c0, c1, c2⟩ := (HO.out.below HB.out) i hlt
        rw [show o + (i * 3 + 1) = o + i * 3 + 1 by omega] at c1
        rw [show o + (i * 3 + 2) = o + i * 3 + 2 by omega] at c2
        generalize (X i).kind = kd at *
        generalize (X i).id = id' at *
        generalize (X i).key = ky at *
        have hal : Below wr.heap.size wr (wr.alloc (.cells #[.int .i64 kd, .int .i64 id', .int .i64 ky] 28)) := (Below.refl _ _).alloc (Nat.le_refl _) _
        have HS := hid (step_c kd id' ky (HQ.out.below hal) (by have := HL.out; omega))
        have HB3 := hid (HB.out.trans (hal.mono HB.out.size))
        have hsz := hal.size
        clear hal
        go_wp2_with (go_at_call 9; refine HS.out.mono ?_; rintro e w4 ⟨v4, l4, F4, rfl, hq4, ht4, hF4, hl4⟩)
        go_roundw
        case rel => exact ⟨i + 1, l4, F4, by omega, by go_num, hq4, by have := HL.out; exact (show l4.length ≤ i + 1 by omega), kBm HB3.out ht4 HN.out, fun k hk => (hF4 k hk).elim (HN.out k) (fun e => by have := HB.out.size; omega)⟩
        case measure => simp [intOf]; omega
      · have hlt' : decide ((i : Int) < k) = false := decide_eq_false (by omega)
        have hl6 : l.length ≤ 1000000 := by have := HL.out; omega
        have e9 : ((l.length : Int) == (l.length : Int)) = true := by simp
        obtain ⟨ao', cap', rfl, _⟩ := HQ.out.2.1
        go_wp2_with (first
          | (go_at_call 11; refine (items_c HQ.out.1).mono ?_; rintro e w5 ⟨ao5, cap5, rfl, _, _, hb5, hi5⟩; have HB5 := hid hb5; have HI5 := hid (it_rl hi5); clear hb5 hi5)
          | (go_at_call 10; refine (same_c HI5.out (HQ.out.2.1.below HB5.out) hl6).mono ?_; rintro e w6 ⟨rfl, q6, rfl⟩; have HB6 := hid (show Below w5.heap.size w5 (w5.drewN q6) from ⟨rfl, rfl, rfl, Nat.le_refl _, fun _ _ => rfl⟩))
          | (go_at_call 12; refine (llen_c ((HQ.out.1.below HB5.out).below HB6.out)).mono ?_; rintro e w7 ⟨rfl, rfl⟩))
        go_ret
        have h8 := HB5.out.trans (HB6.out.mono HB5.out.size)
        exact ⟨rfl, HB.out.trans (h8.mono HB.out.size)⟩
end Go.Proofs.Ytacgkgbhleehjaa
