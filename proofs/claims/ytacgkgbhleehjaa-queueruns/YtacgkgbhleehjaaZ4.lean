/-
  The walk of the statements' step. The walk of the statement QueueRuns.
-/
import Derived.Test.YtacgkgbhleehjaaZ3
import Derived.Test.YtacgkgbhleehjaaZ2
import Derived.Test.YtacgkgbhleehjaaZ0
namespace Go.Proofs.Ytacgkgbhleehjaa
open Go.RowKit Go.Sort Go.MapKept

/-- The queue and the reference's list beside it. -/
def Qr (w : World) (q : Nat) (F : Nat → Prop) (l : List (Int × Int)) (v : Value) : Prop := Ql w q F l ∧ Rr w v l ∧ ∀ k, Vb v k → k < w.heap.size ∧ ¬ F k
theorem Qr.below {w w' q F l v} (h : Qr w q F l v) (hb : Below w.heap.size w w') : Qr w' q F l v := ⟨h.1.below hb, h.2.1.below hb, fun k hk => ⟨Nat.lt_of_lt_of_le (h.2.2 k hk).1 hb.size, (h.2.2 k hk).2⟩⟩
/-- What a step answers: true, and both go on. -/
def StA (w : World) (q : Nat) (F : Nat → Prop) (l : List (Int × Int)) (_ : Value) (e : Ending) (w' : World) : Prop :=
  ∃ v' l' F', e = .returned (.tuple #[v', .bool true]) ∧ Qr w' q F' l' v' ∧ Tn F w w' ∧ (∀ k, F' k → F k ∨ w.heap.size ≤ k) ∧ l'.length ≤ l.length + 1
theorem cells3 {w : World} {q : Nat} {u v x : Value} {t : TypeId} {fr : Nat × Nat} (h : w.heap[q]? = some (.cells #[u, v, x] t fr)) : w.cell? ⟨q, 0, none⟩ = some u ∧ w.cell? ⟨q, 1, none⟩ = some v ∧ w.cell? ⟨q, 2, none⟩ = some x := by
  refine ⟨?_, ?_, ?_⟩ <;> simp [World.cell?, h]
/-- The list stays while the queue's blocks turn. -/
theorem rr_tn {w w' : World} {F : Nat → Prop} {l : List (Int × Int)} {v : Value} (h : Rr w v l) (hd : ∀ k, Vb v k → k < w.heap.size ∧ ¬ F k) (ht : Tn F w w') : Rr w' v l :=
  h.kept (fun k hk => ht.block k (hd k hk).1 (hd k hk).2)
theorem len_pushL (l : List (Int × Int)) (id key : Int) : (pushL l id key).length ≤ l.length + 1 := by
  unfold pushL
  split
  · omega
  · split
    · omega
    · rw [len_insL]; omega
theorem len_delL (l : List (Int × Int)) (id : Int) : (delL l id).length ≤ l.length := List.length_filter_le _ _
theorem len_fixL (l : List (Int × Int)) (id key : Int) : (fixL l id key).length ≤ l.length + 1 := by
  unfold fixL
  split
  · rw [len_insL]; have := len_delL l id; omega
  · omega
theorem len_remL (l : List (Int × Int)) (id : Int) : (remL l id).length ≤ l.length + 1 := by
  unfold remL
  split
  · have := len_delL l id; omega
  · omega
theorem RrA.below {w w2 w3 : World} {v v' : Value} {l' : List (Int × Int)} (h : RrA w v l' v' w2) (hb : Below w2.heap.size w2 w3) : RrA w v l' v' w3 := ⟨h.1.below hb, h.2.1.trans (hb.mono h.2.1.size), fun k hk => (h.2.2 k hk).imp id (fun e => ⟨e.1, Nat.lt_of_lt_of_le e.2 hb.size⟩)⟩
/-- Behind a call of the reference, then of the queue. -/
theorem st_done {w w1 w2 w3 : World} {q : Nat} {F : Nat → Prop} {l l' : List (Int × Int)} {v v' : Value} (h : Qr w q F l v) (h1 : Below w.heap.size w w1) (hr : RrA w1 v l' v' w2) (hq : QlA w2 q F l' w3) (hl : l'.length ≤ l.length + 1)  :
    ∃ F', Qr w3 q F' l' v' ∧ Tn F w w3 ∧ (∀ k, F' k → F k ∨ w.heap.size ≤ k) ∧ l'.length ≤ l.length + 1 := by
  obtain ⟨F', hq', ht, hF⟩ := hq
  obtain ⟨hr1, hb2, hv⟩ := hr
  have hz := h1.size; have hz2 := hb2.size
  have hd : ∀ k, Vb v' k → k < w2.heap.size ∧ ¬ F k := fun k hk => by
    rcases hv k hk with hv | hv
    · exact ⟨by have := (h.2.2 k hv).1; omega, (h.2.2 k hv).2⟩
    · exact ⟨hv.2, fun e => by have := h.1.qu.lt k e; omega⟩
  have hb : Below w.heap.size w w2 := h1.trans (hb2.mono hz)
  refine ⟨F', ⟨hq', rr_tn hr1 hd ht, fun k hk => ⟨Nat.lt_of_lt_of_le (hd k hk).1 ht.size, fun e => ?_⟩⟩, (Tn.of_below hb).comp ht (fun k hk => .inl hk), fun k hk => (hF k hk).imp id (fun e => by omega), hl⟩
  rcases hF k e with e | e
  · exact (hd k hk).2 e
  · have := (hd k hk).1; omega
set_option maxRecDepth 100000 in
set_option maxHeartbeats 4000000 in
theorem step0_c {w : World} {q : Nat} {F : Nat → Prop} {l : List (Int × Int)} {v : Value} {id key : Int} (h : Qr w q F l v) (hl : l.length ≤ 300000)  : Calls Try.prog 9 #[.pointer (some ⟨q, 0, none⟩), v, .agg #[.int .i64 0, .int .i64 id, .int .i64 key]] w fun e w' => StA w q F l v e w' := by
  have bx := heap_alloc w (.cells #[.int .i64 0, .int .i64 id, .int .i64 key] 28)
  have hal : Below w.heap.size w (w.alloc (.cells #[.int .i64 0, .int .i64 id, .int .i64 key] 28)) := (Below.refl _ _).alloc (Nat.le_refl _) _
  have hq1 := h.below hal
  obtain ⟨ao, cap, rfl, _, _, _, _⟩ := h.2.1
  have B0 := (cells3 bx.1).1; have B1 := (cells3 bx.1).2.1; have B2 := (cells3 bx.1).2.2
  have HQ := hid hq1; have HAL := hid hal; have H0 := hid h
  have hlen : l.length ≤ 1000000 := by omega
  have hlen4 : l.length ≤ 400000 := by omega
  have hBs : w.heap.size < (w.alloc (.cells #[.int .i64 0, .int .i64 id, .int .i64 key] 28)).heap.size := by simp
  have hBF : ¬ F w.heap.size := fun e => by have := h.1.qu.lt _ e; omega
  clear h bx hal hq1
  go_enter Try.func9, Try.ntmps9
  go_wp2_with fail
  generalize w.alloc (.cells #[.int .i64 0, .int .i64 id, .int .i64 key] 28) = w1 at *
  generalize hB : w.heap.size = B at *
  have e9 : (pushE l id == pushE l id) = true := by simp
  have HP := hid (rPush_c HQ.out.2.1 hlen4 HQ.out.1.plok id key)
  generalize hpe : pushE l id = pe at *
  have HPE := hid hpe
  clear hpe
  go_wp2_with (first
    | (go_at_call 19; refine HP.out.mono ?_; rintro e w2 ⟨v2, rfl, hr2⟩; have HR2 := hid hr2; have C1 : w2.cell? ⟨B, 1, none⟩ = some (.int .i64 id) := kCb hr2.2.1 B1; have C2 : w2.cell? ⟨B, 2, none⟩ = some (.int .i64 key) := kCb hr2.2.1 B2; have HL := hid (lpush_c (HQ.out.1.below hr2.2.1) id key); rw [HPE.out] at HL; clear hr2)
    | (go_at_call 13; refine HL.out.mono ?_; rintro e w3 ⟨rfl, hq3⟩))
  go_ret2
  obtain ⟨F', h1, h2, h3, h4⟩ := st_done H0.out (hB ▸ HAL.out) HR2.out hq3 (len_pushL _ _ _)
  exact ⟨v2, _, F', rfl, h1, h2, h3, h4⟩
set_option maxRecDepth 100000 in
set_option maxHeartbeats 4000000 in
theorem step3_c {w : World} {q : Nat} {F : Nat → Prop} {l : List (Int × Int)} {v : Value} {id key : Int} (h : Qr w q F l v) (hl : l.length ≤ 300000)  : Calls Try.prog 9 #[.pointer (some ⟨q, 0, none⟩), v, .agg #[.int .i64 3, .int .i64 id, .int .i64 key]] w fun e w' => StA w q F l v e w' := by
  have bx := heap_alloc w (.cells #[.int .i64 3, .int .i64 id, .int .i64 key] 28)
  have hal : Below w.heap.size w (w.alloc (.cells #[.int .i64 3, .int .i64 id, .int .i64 key] 28)) := (Below.refl _ _).alloc (Nat.le_refl _) _
  have hq1 := h.below hal
  obtain ⟨ao, cap, rfl, _, _, _, _⟩ := h.2.1
  have B0 := (cells3 bx.1).1; have B1 := (cells3 bx.1).2.1; have B2 := (cells3 bx.1).2.2
  have HQ := hid hq1; have HAL := hid hal; have H0 := hid h
  have hlen : l.length ≤ 1000000 := by omega
  have hlen4 : l.length ≤ 400000 := by omega
  have hBs : w.heap.size < (w.alloc (.cells #[.int .i64 3, .int .i64 id, .int .i64 key] 28)).heap.size := by simp
  have hBF : ¬ F w.heap.size := fun e => by have := h.1.qu.lt _ e; omega
  clear h bx hal hq1
  go_enter Try.func9, Try.ntmps9
  go_wp2_with fail
  generalize w.alloc (.cells #[.int .i64 3, .int .i64 id, .int .i64 key] 28) = w1 at *
  generalize hB : w.heap.size = B at *
  have e9 : (fixE l id == fixE l id) = true := by simp
  have HP := hid (rFix_c HQ.out.2.1 hlen4 HQ.out.1.plok id key)
  generalize hpe : fixE l id = pe at *
  have HPE := hid hpe
  clear hpe
  go_wp2_with (first
    | (go_at_call 21; refine HP.out.mono ?_; rintro e w2 ⟨v2, rfl, hr2⟩; have HR2 := hid hr2; have C1 : w2.cell? ⟨B, 1, none⟩ = some (.int .i64 id) := kCb hr2.2.1 B1; have C2 : w2.cell? ⟨B, 2, none⟩ = some (.int .i64 key) := kCb hr2.2.1 B2; have HL := hid (lfix_c (HQ.out.1.below hr2.2.1) id key); rw [HPE.out] at HL; clear hr2)
    | (go_at_call 18; refine HL.out.mono ?_; rintro e w3 ⟨rfl, hq3⟩))
  go_ret2
  obtain ⟨F', h1, h2, h3, h4⟩ := st_done H0.out (hB ▸ HAL.out) HR2.out hq3 (len_fixL _ _ _)
  exact ⟨v2, _, F', rfl, h1, h2, h3, h4⟩
set_option maxRecDepth 100000 in
set_option maxHeartbeats 4000000 in
theorem step4_c {w : World} {q : Nat} {F : Nat → Prop} {l : List (Int × Int)} {v : Value} {id key : Int} (h : Qr w q F l v) (hl : l.length ≤ 300000)  : Calls Try.prog 9 #[.pointer (some ⟨q, 0, none⟩), v, .agg #[.int .i64 4, .int .i64 id, .int .i64 key]] w fun e w' => StA w q F l v e w' := by
  have bx := heap_alloc w (.cells #[.int .i64 4, .int .i64 id, .int .i64 key] 28)
  have hal : Below w.heap.size w (w.alloc (.cells #[.int .i64 4, .int .i64 id, .int .i64 key] 28)) := (Below.refl _ _).alloc (Nat.le_refl _) _
  have hq1 := h.below hal
  obtain ⟨ao, cap, rfl, _, _, _, _⟩ := h.2.1
  have B0 := (cells3 bx.1).1; have B1 := (cells3 bx.1).2.1; have B2 := (cells3 bx.1).2.2
  have HQ := hid hq1; have HAL := hid hal; have H0 := hid h
  have hlen : l.length ≤ 1000000 := by omega
  have hlen4 : l.length ≤ 400000 := by omega
  have hBs : w.heap.size < (w.alloc (.cells #[.int .i64 4, .int .i64 id, .int .i64 key] 28)).heap.size := by simp
  have hBF : ¬ F w.heap.size := fun e => by have := h.1.qu.lt _ e; omega
  clear h bx hal hq1
  go_enter Try.func9, Try.ntmps9
  go_wp2_with fail
  generalize w.alloc (.cells #[.int .i64 4, .int .i64 id, .int .i64 key] 28) = w1 at *
  generalize hB : w.heap.size = B at *
  have e9 : (fixE l id == fixE l id) = true := by simp
  have HP := hid (rRem_c HQ.out.2.1 hlen4 HQ.out.1.plok id)
  generalize hpe : fixE l id = pe at *
  have HPE := hid hpe
  clear hpe
  go_wp2_with (first
    | (go_at_call 22; refine HP.out.mono ?_; rintro e w2 ⟨v2, rfl, hr2⟩; have HR2 := hid hr2; have C1 : w2.cell? ⟨B, 1, none⟩ = some (.int .i64 id) := kCb hr2.2.1 B1; have HL := hid (lrem_c (HQ.out.1.below hr2.2.1) id); rw [HPE.out] at HL; clear hr2)
    | (go_at_call 14; refine HL.out.mono ?_; rintro e w3 ⟨rfl, hq3⟩))
  go_ret2
  obtain ⟨F', h1, h2, h3, h4⟩ := st_done H0.out (hB ▸ HAL.out) HR2.out hq3 (len_remL _ _)
  exact ⟨v2, _, F', rfl, h1, h2, h3, h4⟩
set_option maxRecDepth 100000 in
set_option maxHeartbeats 4000000 in
theorem step1a_c {w : World} {q : Nat} {F : Nat → Prop} {v : Value} {id key : Int} (h : Qr w q F [] v)  : Calls Try.prog 9 #[.pointer (some ⟨q, 0, none⟩), v, .agg #[.int .i64 1, .int .i64 id, .int .i64 key]] w fun e w' => StA w q F [] v e w' := by
  have bx := heap_alloc w (.cells #[.int .i64 1, .int .i64 id, .int .i64 key] 28)
  have hal : Below w.heap.size w (w.alloc (.cells #[.int .i64 1, .int .i64 id, .int .i64 key] 28)) := (Below.refl _ _).alloc (Nat.le_refl _) _
  have hq1 := h.below hal
  obtain ⟨ao, cap, rfl, _, _, _, _⟩ := h.2.1
  have B0 := (cells3 bx.1).1; have B1 := (cells3 bx.1).2.1; have B2 := (cells3 bx.1).2.2
  have HQ := hid hq1; have HAL := hid hal; have H0 := hid h
  have hBs : w.heap.size < (w.alloc (.cells #[.int .i64 1, .int .i64 id, .int .i64 key] 28)).heap.size := by simp
  have hBF : ¬ F w.heap.size := fun e => by have := h.1.qu.lt _ e; omega
  clear h bx hal hq1
  go_enter Try.func9, Try.ntmps9
  go_wp2_with fail
  generalize w.alloc (.cells #[.int .i64 1, .int .i64 id, .int .i64 key] 28) = w1 at *
  generalize hB : w.heap.size = B at *
  have HP := hid (rPop0_c HQ.out.2.1)
  go_wp2_with fail
  refine HP.out.mono ?_
  rintro e w2 ⟨rfl, hb2⟩
  go_wp2_with fail
  have HQ2 := HQ.out.below hb2
  have hal2 : Below w2.heap.size w2 (w2.alloc (.cells #[.int .i64 0, .int .i64 0] 53)) := (Below.refl _ _).alloc (Nat.le_refl _) _
  have bx := cells_at (heap_alloc w2 (.cells #[.int .i64 0, .int .i64 0] 53)).1
  have HQ3 := hid (HQ2.below hal2)
  have HB3 := hid (HAL.out.trans (((hb2.trans (hal2.mono hb2.size))).mono (by omega)))
  clear HQ2 hal2 hb2
  generalize w2.alloc (.cells #[.int .i64 0, .int .i64 0] 53) = w3 at *
  generalize w2.heap.size = X at *
  refine (lpop0_c HQ3.out.1).mono ?_
  rintro e w4 ⟨rfl, hb4⟩
  have x0 : (w4.alloc (.cells #[.int .i64 0, .int .i64 0] 40)).cell? ⟨X, 0, none⟩ = some (.int .i64 0) := kCa (kCb hb4 bx.1)
  have x1 : (w4.alloc (.cells #[.int .i64 0, .int .i64 0] 40)).cell? ⟨X, 1, none⟩ = some (.int .i64 0) := kCa (kCb hb4 bx.2)
  have HB4 := hid hb4
  clear hb4 bx
  go_wp2_with fail
  go_ret2
  have h5 := HB4.out.alloc HB4.out.size (.cells #[.int .i64 0, .int .i64 0] 40)
  have hbw : Below w.heap.size w (w4.alloc (.cells #[.int .i64 0, .int .i64 0] 40)) := by
    have := HB3.out; rw [← hB] at this; exact this.trans (h5.mono this.size)
  exact ⟨_, [], F, rfl, HQ3.out.below h5, Tn.of_below hbw, fun k hk => .inl hk, by simp⟩
set_option maxRecDepth 100000 in
set_option maxHeartbeats 4000000 in
theorem step2a_c {w : World} {q : Nat} {F : Nat → Prop} {v : Value} {id key : Int} (h : Qr w q F [] v)  : Calls Try.prog 9 #[.pointer (some ⟨q, 0, none⟩), v, .agg #[.int .i64 2, .int .i64 id, .int .i64 key]] w fun e w' => StA w q F [] v e w' := by
  have bx := heap_alloc w (.cells #[.int .i64 2, .int .i64 id, .int .i64 key] 28)
  have hal : Below w.heap.size w (w.alloc (.cells #[.int .i64 2, .int .i64 id, .int .i64 key] 28)) := (Below.refl _ _).alloc (Nat.le_refl _) _
  have hq1 := h.below hal
  obtain ⟨ao, cap, rfl, _, _, _, _⟩ := h.2.1
  have B0 := (cells3 bx.1).1; have B1 := (cells3 bx.1).2.1; have B2 := (cells3 bx.1).2.2
  have HQ := hid hq1; have HAL := hid hal; have H0 := hid h
  have hBs : w.heap.size < (w.alloc (.cells #[.int .i64 2, .int .i64 id, .int .i64 key] 28)).heap.size := by simp
  have hBF : ¬ F w.heap.size := fun e => by have := h.1.qu.lt _ e; omega
  clear h bx hal hq1
  go_enter Try.func9, Try.ntmps9
  go_wp2_with fail
  generalize w.alloc (.cells #[.int .i64 2, .int .i64 id, .int .i64 key] 28) = w1 at *
  generalize hB : w.heap.size = B at *
  have HP := hid (rPop0_c HQ.out.2.1)
  go_wp2_with fail
  refine HP.out.mono ?_
  rintro e w2 ⟨rfl, hb2⟩
  go_wp2_with fail
  have HQ2 := HQ.out.below hb2
  have hal2 : Below w2.heap.size w2 (w2.alloc (.cells #[.int .i64 0, .int .i64 0] 53)) := (Below.refl _ _).alloc (Nat.le_refl _) _
  have bx := cells_at (heap_alloc w2 (.cells #[.int .i64 0, .int .i64 0] 53)).1
  have HQ3 := hid (HQ2.below hal2)
  have HB3 := hid (HAL.out.trans (((hb2.trans (hal2.mono hb2.size))).mono (by omega)))
  clear HQ2 hal2 hb2
  generalize w2.alloc (.cells #[.int .i64 0, .int .i64 0] 53) = w3 at *
  generalize w2.heap.size = X at *
  refine (lpeek0_c HQ3.out.1).mono ?_
  rintro e w4 ⟨rfl, hb4⟩
  have x0 : (w4.alloc (.cells #[.int .i64 0, .int .i64 0] 40)).cell? ⟨X, 0, none⟩ = some (.int .i64 0) := kCa (kCb hb4 bx.1)
  have x1 : (w4.alloc (.cells #[.int .i64 0, .int .i64 0] 40)).cell? ⟨X, 1, none⟩ = some (.int .i64 0) := kCa (kCb hb4 bx.2)
  have HB4 := hid hb4
  clear hb4 bx
  go_wp2_with fail
  go_ret2
  have h5 := HB4.out.alloc HB4.out.size (.cells #[.int .i64 0, .int .i64 0] 40)
  have hbw : Below w.heap.size w (w4.alloc (.cells #[.int .i64 0, .int .i64 0] 40)) := by
    have := HB3.out; rw [← hB] at this; exact this.trans (h5.mono this.size)
  exact ⟨_, [], F, rfl, HQ3.out.below h5, Tn.of_below hbw, fun k hk => .inl hk, by simp⟩
set_option maxRecDepth 100000 in
set_option maxHeartbeats 4000000 in
theorem step1b_c {w : World} {q : Nat} {F : Nat → Prop} {a : Int × Int} {r : List (Int × Int)} {v : Value} {id key : Int} (h : Qr w q F (a :: r) v) (hl : r.length ≤ 300000)  : Calls Try.prog 9 #[.pointer (some ⟨q, 0, none⟩), v, .agg #[.int .i64 1, .int .i64 id, .int .i64 key]] w fun e w' => StA w q F (a :: r) v e w' := by
  obtain ⟨a0, a1⟩ := a
  have bx := heap_alloc w (.cells #[.int .i64 1, .int .i64 id, .int .i64 key] 28)
  have hal : Below w.heap.size w (w.alloc (.cells #[.int .i64 1, .int .i64 id, .int .i64 key] 28)) := (Below.refl _ _).alloc (Nat.le_refl _) _
  have hq1 := h.below hal
  obtain ⟨ao, cap, rfl, _, _, _, _⟩ := h.2.1
  have B0 := (cells3 bx.1).1; have B1 := (cells3 bx.1).2.1; have B2 := (cells3 bx.1).2.2
  have HQ := hid hq1; have HAL := hid hal; have H0 := hid h
  have hBs : w.heap.size < (w.alloc (.cells #[.int .i64 1, .int .i64 id, .int .i64 key] 28)).heap.size := by simp
  have hBF : ¬ F w.heap.size := fun e => by have := h.1.qu.lt _ e; omega
  clear h bx hal hq1
  go_enter Try.func9, Try.ntmps9
  go_wp2_with fail
  generalize w.alloc (.cells #[.int .i64 1, .int .i64 id, .int .i64 key] 28) = w1 at *
  generalize hB : w.heap.size = B at *
  have HP := hid (rPop_c HQ.out.2.1 (by omega))
  have ea : (a0 == a0) = true := by simp
  have eb : (a1 == a1) = true := by simp
  go_wp2_with fail
  refine HP.out.mono ?_
  rintro e w2 ⟨v2, rfl, hr2⟩
  go_wp2_with fail
  have hal2 : Below w2.heap.size w2 (w2.alloc (.cells #[.int .i64 a0, .int .i64 a1] 53)) := (Below.refl _ _).alloc (Nat.le_refl _) _
  have bx := cells_at (heap_alloc w2 (.cells #[.int .i64 a0, .int .i64 a1] 53)).1
  have hXs : w2.heap.size < (w2.alloc (.cells #[.int .i64 a0, .int .i64 a1] 53)).heap.size := by simp
  have HQ3 := hid ((HQ.out.below hr2.2.1).below hal2)
  have HR3 := hid (hr2.below hal2)
  have hXF : ¬ F w2.heap.size := fun e => by have := (HQ.out.below hr2.2.1).1.qu.lt _ e; omega
  clear hr2 hal2
  generalize w2.alloc (.cells #[.int .i64 a0, .int .i64 a1] 53) = w3 at *
  generalize w2.heap.size = X at *
  refine (lpop_c HQ3.out.1).mono ?_
  rintro e w4 ⟨rfl, hq4⟩
  have hq4' := hq4
  obtain ⟨F4, _, ht4, _⟩ := hq4'
  have y0 : w4.cell? ⟨X, 0, none⟩ = some (.int .i64 a0) := (World.cell?_of_block (a := ⟨X, 0, none⟩) (ht4.block X hXs hXF)).trans bx.1
  have y1 : w4.cell? ⟨X, 1, none⟩ = some (.int .i64 a1) := (World.cell?_of_block (a := ⟨X, 1, none⟩) (ht4.block X hXs hXF)).trans bx.2
  have x0 : (w4.alloc (.cells #[.int .i64 a0, .int .i64 a1] 40)).cell? ⟨X, 0, none⟩ = some (.int .i64 a0) := kCa y0
  have x1 : (w4.alloc (.cells #[.int .i64 a0, .int .i64 a1] 40)).cell? ⟨X, 1, none⟩ = some (.int .i64 a1) := kCa y1
  have HQ4 := hid hq4
  clear hq4 ht4 y0 y1 bx
  go_wp2_with fail
  go_ret2
  obtain ⟨F', h1, h2, h3, h4⟩ := st_done H0.out (hB ▸ HAL.out) HR3.out HQ4.out (by simp; omega)
  have h5 : Below w4.heap.size w4 (w4.alloc (.cells #[.int .i64 a0, .int .i64 a1] 40)) := (Below.refl _ _).alloc (Nat.le_refl _) _
  exact ⟨v2, _, F', rfl, h1.below h5, h2.comp (Tn.of_below (F := fun _ => False) h5) (fun k hk => hk.elim), h3, h4⟩
set_option maxRecDepth 100000 in
set_option maxHeartbeats 4000000 in
theorem step2b_c {w : World} {q : Nat} {F : Nat → Prop} {a : Int × Int} {r : List (Int × Int)} {v : Value} {id key : Int} (h : Qr w q F (a :: r) v) (hl : r.length ≤ 300000)  : Calls Try.prog 9 #[.pointer (some ⟨q, 0, none⟩), v, .agg #[.int .i64 2, .int .i64 id, .int .i64 key]] w fun e w' => StA w q F (a :: r) v e w' := by
  obtain ⟨a0, a1⟩ := a
  have bx := heap_alloc w (.cells #[.int .i64 2, .int .i64 id, .int .i64 key] 28)
  have hal : Below w.heap.size w (w.alloc (.cells #[.int .i64 2, .int .i64 id, .int .i64 key] 28)) := (Below.refl _ _).alloc (Nat.le_refl _) _
  have hq1 := h.below hal
  obtain ⟨ao, cap, rfl, _, _, _, _⟩ := h.2.1
  have B0 := (cells3 bx.1).1; have B1 := (cells3 bx.1).2.1; have B2 := (cells3 bx.1).2.2
  have HQ := hid hq1; have HAL := hid hal; have H0 := hid h
  have hBs : w.heap.size < (w.alloc (.cells #[.int .i64 2, .int .i64 id, .int .i64 key] 28)).heap.size := by simp
  have hBF : ¬ F w.heap.size := fun e => by have := h.1.qu.lt _ e; omega
  clear h bx hal hq1
  go_enter Try.func9, Try.ntmps9
  go_wp2_with fail
  generalize w.alloc (.cells #[.int .i64 2, .int .i64 id, .int .i64 key] 28) = w1 at *
  generalize hB : w.heap.size = B at *
  have HP := hid (rPop_c HQ.out.2.1 (by omega))
  have ea : (a0 == a0) = true := by simp
  have eb : (a1 == a1) = true := by simp
  go_wp2_with fail
  refine HP.out.mono ?_
  rintro e w2 ⟨v2, rfl, hr2⟩
  go_wp2_with fail
  have hal2 : Below w2.heap.size w2 (w2.alloc (.cells #[.int .i64 a0, .int .i64 a1] 53)) := (Below.refl _ _).alloc (Nat.le_refl _) _
  have bx := cells_at (heap_alloc w2 (.cells #[.int .i64 a0, .int .i64 a1] 53)).1
  have hXs : w2.heap.size < (w2.alloc (.cells #[.int .i64 a0, .int .i64 a1] 53)).heap.size := by simp
  have HQ3 := hid ((HQ.out.below hr2.2.1).below hal2)
  have HR3 := hid (hr2.below hal2)
  have hXF : ¬ F w2.heap.size := fun e => by have := (HQ.out.below hr2.2.1).1.qu.lt _ e; omega
  clear hr2 hal2
  generalize w2.alloc (.cells #[.int .i64 a0, .int .i64 a1] 53) = w3 at *
  generalize w2.heap.size = X at *
  refine (lpeek_c HQ3.out.1).mono ?_
  rintro e w4 ⟨rfl, hb4⟩
  have x0 : (w4.alloc (.cells #[.int .i64 a0, .int .i64 a1] 40)).cell? ⟨X, 0, none⟩ = some (.int .i64 a0) := kCa (kCb hb4 bx.1)
  have x1 : (w4.alloc (.cells #[.int .i64 a0, .int .i64 a1] 40)).cell? ⟨X, 1, none⟩ = some (.int .i64 a1) := kCa (kCb hb4 bx.2)
  have HB4 := hid hb4
  clear hb4 bx
  go_wp2_with fail
  go_ret2
  have h5 := HB4.out.alloc HB4.out.size (.cells #[.int .i64 a0, .int .i64 a1] 40)
  have hbw : Below w.heap.size w (w4.alloc (.cells #[.int .i64 a0, .int .i64 a1] 40)) := by
    have := HAL.out; rw [← hB] at this
    have h6 : Below w.heap.size w w3 := this.trans (HR3.out.2.1.mono this.size)
    exact h6.trans (h5.mono h6.size)
  exact ⟨_, (a0, a1) :: r, F, rfl, HQ3.out.below h5, Tn.of_below hbw, fun k hk => .inl hk, by simp⟩
set_option maxRecDepth 100000 in
set_option maxHeartbeats 4000000 in
theorem step5_c {w : World} {q : Nat} {F : Nat → Prop} {l : List (Int × Int)} {v : Value} {kind id key : Int} (h : Qr w q F l v) (hl : l.length ≤ 300000) (k0 : kind ≠ 0) (k1 : kind ≠ 1) (k2 : kind ≠ 2) (k3 : kind ≠ 3) (k4 : kind ≠ 4) : Calls Try.prog 9 #[.pointer (some ⟨q, 0, none⟩), v, .agg #[.int .i64 kind, .int .i64 id, .int .i64 key]] w fun e w' => StA w q F l v e w' := by
  have n0 : (kind == 0) = false := by simp [k0]
  have n1 : (kind == 1) = false := by simp [k1]
  have n2 : (kind == 2) = false := by simp [k2]
  have n3 : (kind == 3) = false := by simp [k3]
  have n4 : (kind == 4) = false := by simp [k4]
  have bx := heap_alloc w (.cells #[.int .i64 kind, .int .i64 id, .int .i64 key] 28)
  have hal : Below w.heap.size w (w.alloc (.cells #[.int .i64 kind, .int .i64 id, .int .i64 key] 28)) := (Below.refl _ _).alloc (Nat.le_refl _) _
  have hq1 := h.below hal
  obtain ⟨ao, cap, rfl, _, _, _, _⟩ := h.2.1
  have B0 := (cells3 bx.1).1; have B1 := (cells3 bx.1).2.1; have B2 := (cells3 bx.1).2.2
  have HQ := hid hq1; have HAL := hid hal; have H0 := hid h
  have hlen : l.length ≤ 1000000 := by omega
  have hlen4 : l.length ≤ 400000 := by omega
  have hBs : w.heap.size < (w.alloc (.cells #[.int .i64 kind, .int .i64 id, .int .i64 key] 28)).heap.size := by simp
  have hBF : ¬ F w.heap.size := fun e => by have := h.1.qu.lt _ e; omega
  clear h bx hal hq1
  go_enter Try.func9, Try.ntmps9
  go_wp2_with fail
  generalize w.alloc (.cells #[.int .i64 kind, .int .i64 id, .int .i64 key] 28) = w1 at *
  generalize hB : w.heap.size = B at *
  have HQd := hid (show Qr w1.drew q F l (.slice ao l.length cap) from HQ.out.below ⟨rfl, rfl, rfl, Nat.le_refl _, fun _ _ => rfl⟩)
  have D1 : w1.drew.cell? ⟨B, 1, none⟩ = some (.int .i64 id) := B1
  have HAd := hid (show Below w.heap.size w w1.drew from (by have := HAL.out; rw [← hB] at this; exact ⟨this.os, this.tape, this.output, this.size, this.block⟩))
  have hbb : ∀ b : Bool, (b == b) = true := fun b => by simp
  have hbb2 := hbb (hasL l id)
  have hnn : ((l.length : Int) == (l.length : Int)) = true := by simp
  clear HQ HAL
  have HQ := HQd
  clear HQd
  go_wp2_with fail
  refine wp_region_held_drew (S := (fun w' => w'.cell? ⟨B, 1, none⟩ = some (.int .i64 id))) (by kernel_rfl) ?_ (fun hHeld => ?_)
  · (repeat (with_reducible first | assumption | refine kCd ?_))
  generalize w1.drew = wd at *
  refine wpAnyH_take (i := 0) (v := ?_) rfl (by kernel_rfl) (by kernel_rfl) (by kernel_rfl) (fun _ _ _ h => h) (Or.inl ⟨by rfl, ?_⟩) (by assumption) ?_
  rotate_left
  (focus (intro w0 hSw; (try dsimp only at hSw); go_simp <;> with_reducible rfl))
  simp only [List.getElem_toArray, List.getElem_cons_zero, Act.put, List.setIfInBounds_toArray, List.set_cons_zero, List.set_cons_succ]
  refine wpAnyH_take (i := 1) (v := ?_) rfl (by kernel_rfl) (by kernel_rfl) (by kernel_rfl) (fun _ _ _ h => h) (Or.inl ⟨by rfl, ?_⟩) (by assumption) ?_
  rotate_left
  (focus (intro w0 hSw; (try dsimp only at hSw); go_simp <;> with_reducible rfl))
  simp only [List.getElem_toArray, List.getElem_cons_succ, List.getElem_cons_zero, Act.put, List.setIfInBounds_toArray, List.set_cons_zero, List.set_cons_succ]
  refine wpAnyH_take (i := 3) (v := ?_) rfl (by kernel_rfl) (by kernel_rfl) (by kernel_rfl) (fun _ _ _ h => h) (Or.inl ⟨by rfl, ?_⟩) (by assumption) ?_
  rotate_left
  (focus (intro w0 hSw; (try dsimp only at hSw); go_simp <;> with_reducible rfl))
  simp only [List.getElem_toArray, List.getElem_cons_succ, List.getElem_cons_zero, Act.put, List.setIfInBounds_toArray, List.set_cons_zero, List.set_cons_succ]
  refine wpAnyH_ready (rs := [2]) (by kernel_rfl) (by simp) ?_
  refine AllReadyH.cons (o := _) rfl (fun K hK => ?_) ?_
  rotate_left
  exact AllReadyH.nil
  go_simp
  refine (items_c HQ.out.1).mono ?_
  rintro e w2 ⟨ao2, cap2, rfl, l2, t2, hb2, hi2⟩
  have HB2 := hid hb2; have HI2 := hid (it_rl hi2); clear hi2 l2
  refine hK.out _ _ ?_ (fun hH1 => ?_)
  · ((try dsimp only); repeat (with_reducible first | assumption | refine kCd ?_ | refine kCb (by assumption) ?_))
  clear hK K
  try simp only [Act.put, List.setIfInBounds_toArray, List.set_cons_zero, List.set_cons_succ]
  refine wpAnyH_ready (rs := [4]) (by kernel_rfl) (by simp) ?_
  refine AllReadyH.cons (o := _) rfl (fun K hK => ?_) ?_
  rotate_left
  exact AllReadyH.nil
  go_simp
  refine (same_c HI2.out (HQ.out.2.1.below HB2.out) hlen).mono ?_
  rintro e w3 ⟨rfl, q3, rfl⟩
  have hb3 : Below w2.heap.size w2 (w2.drewN q3) := ⟨rfl, rfl, rfl, Nat.le_refl _, fun _ _ => rfl⟩
  refine hK.out _ _ ?_ (fun hH2 => ?_)
  · ((try dsimp only); repeat (with_reducible first | assumption | refine kCd ?_ | refine kCb (by assumption) ?_))
  clear hK K
  try simp only [Act.put, List.setIfInBounds_toArray, List.set_cons_zero, List.set_cons_succ]
  refine wpAnyH_take (i := 5) (v := ?_) rfl (by kernel_rfl) (by kernel_rfl) (by kernel_rfl) (fun _ _ _ h => h) (Or.inl ⟨by rfl, ?_⟩) (by assumption) ?_
  rotate_left
  (focus (intro w0 hSw; (try dsimp only at hSw); go_simp <;> with_reducible rfl))
  simp only [List.getElem_toArray, List.getElem_cons_succ, List.getElem_cons_zero, Act.put, List.setIfInBounds_toArray, List.set_cons_zero, List.set_cons_succ]
  refine wpAnyH_take (i := 6) (v := ?_) rfl (by kernel_rfl) (by kernel_rfl) (by kernel_rfl) (fun _ _ _ h => h) (Or.inl ⟨by rfl, ?_⟩) (by assumption) ?_
  rotate_left
  (focus (intro w0 hSw; (try dsimp only at hSw); go_simp <;> with_reducible rfl))
  simp only [List.getElem_toArray, List.getElem_cons_succ, List.getElem_cons_zero, Act.put, List.setIfInBounds_toArray, List.set_cons_zero, List.set_cons_succ]
  refine wpAnyH_take (i := 7) (v := ?_) rfl (by kernel_rfl) (by kernel_rfl) (by kernel_rfl) (fun _ _ _ h => h) (Or.inl ⟨by rfl, ?_⟩) (by assumption) ?_
  rotate_left
  (focus (intro w0 hSw; (try dsimp only at hSw); go_simp <;> with_reducible rfl))
  simp only [List.getElem_toArray, List.getElem_cons_succ, List.getElem_cons_zero, Act.put, List.setIfInBounds_toArray, List.set_cons_zero, List.set_cons_succ]
  refine wpAnyH_take (i := 8) (v := ?_) rfl (by kernel_rfl) (by kernel_rfl) (by kernel_rfl) (fun _ _ _ h => h) (Or.inl ⟨by rfl, ?_⟩) (by assumption) ?_
  rotate_left
  (focus (intro w0 hSw; (try dsimp only at hSw); go_simp <;> with_reducible rfl))
  simp only [List.getElem_toArray, List.getElem_cons_succ, List.getElem_cons_zero, Act.put, List.setIfInBounds_toArray, List.set_cons_zero, List.set_cons_succ]
  refine wpAnyH_take (i := 10) (v := ?_) rfl (by kernel_rfl) (by kernel_rfl) (by kernel_rfl) (fun _ _ _ h => h) (Or.inl ⟨by rfl, ?_⟩) (by assumption) ?_
  rotate_left
  (focus (intro w0 hSw; (try dsimp only at hSw); go_simp <;> with_reducible rfl))
  simp only [List.getElem_toArray, List.getElem_cons_succ, List.getElem_cons_zero, Act.put, List.setIfInBounds_toArray, List.set_cons_zero, List.set_cons_succ]
  refine wpAnyH_take (i := 11) (v := ?_) rfl (by kernel_rfl) (by kernel_rfl) (by kernel_rfl) (fun _ _ _ h => h) (Or.inl ⟨by rfl, ?_⟩) (by assumption) ?_
  rotate_left
  (focus (intro w0 hSw; (try dsimp only at hSw); go_simp <;> with_reducible rfl))
  simp only [List.getElem_toArray, List.getElem_cons_succ, List.getElem_cons_zero, Act.put, List.setIfInBounds_toArray, List.set_cons_zero, List.set_cons_succ]
  refine wpAnyH_take (i := 12) (v := ?_) rfl (by kernel_rfl) (by kernel_rfl) (by kernel_rfl) (fun _ _ _ h => h) (Or.inl ⟨by rfl, ?_⟩) (by assumption) ?_
  rotate_left
  (focus (intro w0 hSw; (try dsimp only at hSw); go_simp <;> with_reducible rfl))
  simp only [List.getElem_toArray, List.getElem_cons_succ, List.getElem_cons_zero, Act.put, List.setIfInBounds_toArray, List.set_cons_zero, List.set_cons_succ]
  refine wpAnyH_ready (rs := [9]) (by kernel_rfl) (by simp) ?_
  refine AllReadyH.cons (o := _) rfl (fun K hK => ?_) ?_
  rotate_left
  exact AllReadyH.nil
  go_simp
  refine (lhas_c ((HQ.out.1.below HB2.out).below hb3) id).mono ?_
  rintro e w4 ⟨rfl, rfl⟩
  refine hK.out _ _ ?_ (fun hH3 => ?_)
  · ((try dsimp only); repeat (with_reducible first | assumption | refine kCd ?_ | refine kCb (by assumption) ?_))
  clear hK K
  try simp only [Act.put, List.setIfInBounds_toArray, List.set_cons_zero, List.set_cons_succ]
  refine wpAnyH_ready (rs := [13]) (by kernel_rfl) (by simp) ?_
  refine AllReadyH.cons (o := _) rfl (fun K hK => ?_) ?_
  rotate_left
  exact AllReadyH.nil
  go_simp
  refine (rHas_c ((HQ.out.2.1.below HB2.out).below hb3) hlen4 HQ.out.1.plok id).mono ?_
  rintro e w5 ⟨rfl, hb5⟩
  have HB5 := hid hb5
  refine hK.out _ _ ?_ (fun hH4 => ?_)
  · ((try dsimp only); repeat (with_reducible first | assumption | refine kCd ?_ | refine kCb (by assumption) ?_))
  clear hK K
  try simp only [Act.put, List.setIfInBounds_toArray, List.set_cons_zero, List.set_cons_succ]
  refine wpAnyH_take (i := 14) (v := ?_) rfl (by kernel_rfl) (by kernel_rfl) (by kernel_rfl) (fun _ _ _ h => h) (Or.inl ⟨by rfl, ?_⟩) (by assumption) ?_
  rotate_left
  (focus (intro w0 hSw; (try dsimp only at hSw); go_simp <;> with_reducible rfl))
  simp only [List.getElem_toArray, List.getElem_cons_succ, List.getElem_cons_zero, Act.put, List.setIfInBounds_toArray, List.set_cons_zero, List.set_cons_succ]
  refine wpAnyH_take (i := 15) (v := ?_) rfl (by kernel_rfl) (by kernel_rfl) (by kernel_rfl) (fun _ _ _ h => h) (Or.inl ⟨by rfl, ?_⟩) (by assumption) ?_
  rotate_left
  (focus (intro w0 hSw; (try dsimp only at hSw); go_simp <;> with_reducible rfl))
  simp only [List.getElem_toArray, List.getElem_cons_succ, List.getElem_cons_zero, Act.put, List.setIfInBounds_toArray, List.set_cons_zero, List.set_cons_succ]
  refine wpAnyH_take (i := 16) (v := ?_) rfl (by kernel_rfl) (by kernel_rfl) (by kernel_rfl) (fun _ _ _ h => h) (Or.inl ⟨by rfl, ?_⟩) (by assumption) ?_
  rotate_left
  (focus (intro w0 hSw; (try dsimp only at hSw); go_simp <;> with_reducible rfl))
  simp only [List.getElem_toArray, List.getElem_cons_succ, List.getElem_cons_zero, Act.put, List.setIfInBounds_toArray, List.set_cons_zero, List.set_cons_succ]
  refine wpAnyH_take (i := 17) (v := ?_) rfl (by kernel_rfl) (by kernel_rfl) (by kernel_rfl) (fun _ _ _ h => h) (Or.inl ⟨by rfl, ?_⟩) (by assumption) ?_
  rotate_left
  (focus (intro w0 hSw; (try dsimp only at hSw); go_simp <;> with_reducible rfl))
  simp only [List.getElem_toArray, List.getElem_cons_succ, List.getElem_cons_zero, Act.put, List.setIfInBounds_toArray, List.set_cons_zero, List.set_cons_succ]
  refine wpAnyH_take (i := 19) (v := ?_) rfl (by kernel_rfl) (by kernel_rfl) (by kernel_rfl) (fun _ _ _ h => h) (Or.inl ⟨by rfl, ?_⟩) (by assumption) ?_
  rotate_left
  (focus (intro w0 hSw; (try dsimp only at hSw); go_simp <;> with_reducible rfl))
  simp only [List.getElem_toArray, List.getElem_cons_succ, List.getElem_cons_zero, Act.put, List.setIfInBounds_toArray, List.set_cons_zero, List.set_cons_succ]
  refine wpAnyH_take (i := 20) (v := ?_) rfl (by kernel_rfl) (by kernel_rfl) (by kernel_rfl) (fun _ _ _ h => h) (Or.inl ⟨by rfl, ?_⟩) (by assumption) ?_
  rotate_left
  (focus (intro w0 hSw; (try dsimp only at hSw); go_simp <;> with_reducible rfl))
  simp only [List.getElem_toArray, List.getElem_cons_succ, List.getElem_cons_zero, Act.put, List.setIfInBounds_toArray, List.set_cons_zero, List.set_cons_succ]
  refine wpAnyH_ready (rs := [18]) (by kernel_rfl) (by simp) ?_
  refine AllReadyH.cons (o := _) rfl (fun K hK => ?_) ?_
  rotate_left
  exact AllReadyH.nil
  go_simp
  refine (llen_c (((HQ.out.1.below HB2.out).below hb3).below HB5.out)).mono ?_
  rintro e w6 ⟨rfl, rfl⟩
  refine hK.out _ _ ?_ (fun hH5 => ?_)
  · ((try dsimp only); repeat (with_reducible first | assumption | refine kCd ?_ | refine kCb (by assumption) ?_))
  clear hK K
  try simp only [Act.put, List.setIfInBounds_toArray, List.set_cons_zero, List.set_cons_succ]
  refine wpAnyH_take (i := 21) (v := ?_) rfl (by kernel_rfl) (by kernel_rfl) (by kernel_rfl) (fun _ _ _ h => h) (Or.inl ⟨by rfl, ?_⟩) (by assumption) ?_
  rotate_left
  (focus (intro w0 hSw; (try dsimp only at hSw); go_simp <;> with_reducible rfl))
  simp only [List.getElem_toArray, List.getElem_cons_succ, List.getElem_cons_zero, Act.put, List.setIfInBounds_toArray, List.set_cons_zero, List.set_cons_succ]
  refine wpAnyH_take (i := 22) (v := ?_) rfl (by kernel_rfl) (by kernel_rfl) (by kernel_rfl) (fun _ _ _ h => h) (Or.inl ⟨by rfl, ?_⟩) (by assumption) ?_
  rotate_left
  (focus (intro w0 hSw; (try dsimp only at hSw); go_simp <;> with_reducible rfl))
  simp only [List.getElem_toArray, List.getElem_cons_succ, List.getElem_cons_zero, Act.put, List.setIfInBounds_toArray, List.set_cons_zero, List.set_cons_succ]
  refine wpAnyH_ready (rs := [23]) (by kernel_rfl) (by simp) ?_
  refine AllReadyH.cons (o := _) rfl (fun K hK => ?_) ?_
  rotate_left
  exact AllReadyH.nil
  go_simp
  refine hK.out _ _ ?_ (fun hH6 => ?_)
  · ((try dsimp only); repeat (with_reducible first | assumption | refine kCd ?_ | refine kCb (by assumption) ?_))
  clear hK K
  try simp only [Act.put, List.setIfInBounds_toArray, List.set_cons_zero, List.set_cons_succ]
  refine wpAnyH_ready (rs := [24]) (by kernel_rfl) (by simp) ?_
  refine AllReadyH.cons (o := _) rfl (fun K hK => ?_) ?_
  rotate_left
  exact AllReadyH.nil
  go_simp
  refine hK.out _ _ ?_ (fun hH7 => ?_)
  · ((try dsimp only); repeat (with_reducible first | assumption | refine kCd ?_ | refine kCb (by assumption) ?_))
  clear hK K
  try simp only [Act.put, List.setIfInBounds_toArray, List.set_cons_zero, List.set_cons_succ]
  refine wpAnyH_done (by kernel_rfl) ?_ _
  go_wp2_with fail
  go_ret2
  have hb : Below wd.heap.size wd w6 := (HB2.out.trans (hb3.mono HB2.out.size)).trans (HB5.out.mono (HB2.out.trans (hb3.mono HB2.out.size)).size)
  have hbw : Below w.heap.size w w6 := HAd.out.trans (hb.mono HAd.out.size)
  exact ⟨_, l, F, rfl, HQ.out.below hb, Tn.of_below hbw, fun k hk => .inl hk, by omega⟩
theorem step_c {w : World} {q : Nat} {F : Nat → Prop} {l : List (Int × Int)} {v : Value} (kind id key : Int) (h : Qr w q F l v) (hl : l.length ≤ 300000) : Calls Try.prog 9 #[.pointer (some ⟨q, 0, none⟩), v, .agg #[.int .i64 kind, .int .i64 id, .int .i64 key]] w fun e w' => StA w q F l v e w' := by
  by_cases k0 : kind = 0
  · subst k0; exact step0_c h hl
  by_cases k1 : kind = 1
  · subst k1
    cases l with
    | nil => exact step1a_c h
    | cons a r => exact step1b_c h (by simp at hl; omega)
  by_cases k2 : kind = 2
  · subst k2
    cases l with
    | nil => exact step2a_c h
    | cons a r => exact step2b_c h (by simp at hl; omega)
  by_cases k3 : kind = 3
  · subst k3; exact step3_c h hl
  by_cases k4 : kind = 4
  · subst k4; exact step4_c h hl
  exact step5_c h hl k0 k1 k2 k3 k4
end Go.Proofs.Ytacgkgbhleehjaa
namespace Go.Proofs.Ytacgkgbhleehjaa
open Go.RowKit Go.Sort Go.MapKept

theorem kBm {w0 w w' : World} (h : Below w0.heap.size w0 w) {F : Nat → Prop} (ht : Tn F w w') (hF : ∀ k, F k → w0.heap.size ≤ k) : Below w0.heap.size w0 w' := by
  have hs := h.size
  exact ⟨ht.os.trans h.os, ht.tape.trans h.tape, ht.output.trans h.output, Nat.le_trans hs ht.size, fun k hk => (ht.block k (by omega) (fun e => by have := hF k e; omega)).trans (h.block k hk)⟩
set_option maxRecDepth 100000 in
set_option maxHeartbeats 4000000 in
theorem runs_c (ao : Option Addr) (k c : Nat) (X : Nat → Op3) (w : World) (ho : Ops w ao k X) (_ : k ≤ c ∧ c ≤ 9223372036854775807) : Calls Try.prog 3 #[.slice ao k c] w fun e w' => e = .returned (.bool true) ∧ Below w.heap.size w w' := by
  have HO := hid ho
  clear ho
  by_cases hk : 600 < k
  · have hk' : decide ((600 : Int) < k) = true := decide_eq_true (by omega)
    go_enter Try.func3, Try.ntmps3
    go_wp2_with (go_at_call 7; refine (awake_c _).mono ?_; rintro e w1 ⟨rfl, hb1⟩)
    go_ret
    exact ⟨rfl, hb1⟩
  · have hk' : decide ((600 : Int) < k) = false := decide_eq_false (by omega)
    go_enter Try.func3, Try.ntmps3
    go_wp2_with fail
    refine (awake_c _).mono ?_
    rintro e w1 ⟨rfl, hb1⟩
    have HB1 := hid hb1
    clear hb1
    go_wp2_with fail
    refine (new_c _).mono ?_
    rintro e w2 ⟨rfl, rfl⟩
    have hq := ql_new w1
    have hal : Below w1.heap.size w1 (w1.alloc (.cells #[.slice none 0 0, .map none] 50)) := (Below.refl _ _).alloc (Nat.le_refl _) _
    have hQ : Qr (w1.alloc (.cells #[.slice none 0 0, .map none] 50)) w1.heap.size (fun k => k = w1.heap.size) [] (.slice none 0 0) := ⟨hq, ⟨none, 0, rfl, RL.nil _ _ _, fun _ => ⟨rfl, rfl⟩, Nat.le_refl _, by omega⟩, fun k ⟨_, _, _, e, a, ha, _⟩ => by cases e; cases ha⟩
    have HQ0 := hid hQ
    have HB2 := hid (HB1.out.trans (hal.mono HB1.out.size))
    have HN := hid (show ∀ k, k = w1.heap.size → w.heap.size ≤ k from fun k e => by have := HB1.out.size; omega)
    clear hq hal hQ HB1
    generalize w1.alloc (.cells #[.slice none 0 0, .map none] 50) = w2 at *
    generalize w1.heap.size = q at *
    go_wp2_with fail
    go_loopw [4, 17] (fun lv t wr => ∃ (i : Nat) (l : List (Int × Int)) (F : Nat → Prop), i ≤ k ∧ t = .int .i64 i ∧ Hid (Qr wr q F l lv) ∧ Hid (l.length ≤ i) ∧ Hid (Below w.heap.size w wr) ∧ Hid (∀ k, F k → w.heap.size ≤ k)) (fun _ t _ => k - (intOf t).toNat)
    case atStart => exact ⟨0, [], _, by omega, rfl, HQ0, Nat.le_refl _, HB2, HN⟩
    case round =>
      clear HQ0 HB2 HN
      obtain ⟨i, l, F, hi, rfl, HQ, HL, HB, HN⟩ := hrel
      by_cases hlt : i < k
      · have hlt' : (i : Int) < k := by omega
        obtain ⟨b, o, rfl, c0, c1, c2⟩ := (HO.out.below HB.out) i hlt
        rw [show o + (i * 3 + 1) = o + i * 3 + 1 by omega] at c1
        rw [show o + (i * 3 + 2) = o + i * 3 + 2 by omega] at c2
        generalize (X i).kind = kd at *
        generalize (X i).id = id' at *
        generalize (X i).key = ky at *
        have hal : Below wr.heap.size wr (wr.alloc (.cells #[.int .i64 kd, .int .i64 id', .int .i64 ky] 28)) := (Below.refl _ _).alloc (Nat.le_refl _) _
        have HS := hid (step_c kd id' ky (HQ.out.below hal) (by have := HL.out; omega))
        have HB3 := hid (HB.out.trans (hal.mono HB.out.size))
        have hsz := hal.size
        clear hal
        go_wp2_with (go_at_call 9; refine HS.out.mono ?_; rintro e w4 ⟨v4, l4, F4, rfl, hq4, ht4, hF4, hl4⟩)
        go_roundw
        case rel => exact ⟨i + 1, l4, F4, by omega, by go_num, hq4, by have := HL.out; exact (show l4.length ≤ i + 1 by omega), kBm HB3.out ht4 HN.out, fun k hk => (hF4 k hk).elim (HN.out k) (fun e => by have := HB.out.size; omega)⟩
        case measure => simp [intOf]; omega
      · have hlt' : decide ((i : Int) < k) = false := decide_eq_false (by omega)
        have hl6 : l.length ≤ 1000000 := by have := HL.out; omega
        have e9 : ((l.length : Int) == (l.length : Int)) = true := by simp
        obtain ⟨ao', cap', rfl, _⟩ := HQ.out.2.1
        go_wp2_with (first
          | (go_at_call 11; refine (items_c HQ.out.1).mono ?_; rintro e w5 ⟨ao5, cap5, rfl, _, _, hb5, hi5⟩; have HB5 := hid hb5; have HI5 := hid (it_rl hi5); clear hb5 hi5)
          | (go_at_call 10; refine (same_c HI5.out (HQ.out.2.1.below HB5.out) hl6).mono ?_; rintro e w6 ⟨rfl, q6, rfl⟩; have HB6 := hid (show Below w5.heap.size w5 (w5.drewN q6) from ⟨rfl, rfl, rfl, Nat.le_refl _, fun _ _ => rfl⟩))
          | (go_at_call 12; refine (llen_c ((HQ.out.1.below HB5.out).below HB6.out)).mono ?_; rintro e w7 ⟨rfl, rfl⟩))
        go_ret
        have h8 := HB5.out.trans (HB6.out.mono HB5.out.size)
        exact ⟨rfl, HB.out.trans (h8.mono HB.out.size)⟩
end Go.Proofs.Ytacgkgbhleehjaa
