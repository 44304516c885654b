/-
  Walks of the queue's Pop, Peek, Fix, Remove. The queue as a list in order: what its calls answer. The walks of awake and of the statement QueueNone.
-/
import Derived.Test.YtacgkgbhleehjaaZ1
namespace Go.Proofs.Ytacgkgbhleehjaa
open Go.RowKit Go.Sort Go.MapKept

theorem popN_c (w : World) : Calls Try.prog 16 #[.pointer none] w fun e w' => e = .returned (.tuple #[.agg #[.int .i64 0, .int .i64 0], .int .i64 9]) ∧ Below w.heap.size w w' := by
  go_enter Try.func16, Try.ntmps16
  go_wp2_with (go_at_call 12; refine (qlenN_c _).mono ?_; rintro e w2 ⟨rfl, rfl⟩)
  refine bodyPost_ret (v := .tuple #[.agg #[.int .i64 0, .int .i64 0], .int .i64 9]) (by simp [results, Try.results16, go_sem]) rfl ?_
  exact ⟨rfl, (Below.refl _ _).alloc (Nat.le_refl _) _⟩
theorem peekN_c (w : World) : Calls Try.prog 17 #[.pointer none] w fun e w' => e = .returned (.tuple #[.agg #[.int .i64 0, .int .i64 0], .int .i64 9]) ∧ Below w.heap.size w w' := by
  go_enter Try.func17, Try.ntmps17
  go_wp2_with (go_at_call 12; refine (qlenN_c _).mono ?_; rintro e w2 ⟨rfl, rfl⟩)
  refine bodyPost_ret (v := .tuple #[.agg #[.int .i64 0, .int .i64 0], .int .i64 9]) (by simp [results, Try.results17, go_sem]) rfl ?_
  exact ⟨rfl, (Below.refl _ _).alloc (Nat.le_refl _) _⟩
theorem fixN_c (w : World) (id key : Int) : Calls Try.prog 18 #[.pointer none, .int .i64 id, .int .i64 key] w fun e w' => e = .returned (.int .i64 9) ∧ w' = w := by
  go_enter Try.func18, Try.ntmps18
  go_wp2_with (go_at_call 15; refine (hasN_c _ _).mono ?_; rintro e w2 ⟨rfl, rfl⟩)
  go_ret
  exact ⟨rfl, rfl⟩
theorem remN_c (w : World) (id : Int) : Calls Try.prog 14 #[.pointer none, .int .i64 id] w fun e w' => e = .returned (.int .i64 9) ∧ w' = w := by
  go_enter Try.func14, Try.ntmps14
  go_wp2_with (go_at_call 15; refine (hasN_c _ _).mono ?_; rintro e w2 ⟨rfl, rfl⟩)
  go_ret
  exact ⟨rfl, rfl⟩
theorem popE_c {w : World} {q : Nat} {F : Nat → Prop} {A : Int × Int → Prop} (h : Qu w q F 0 A) : Calls Try.prog 16 #[.pointer (some ⟨q, 0, none⟩)] w fun e w' => e = .returned (.tuple #[.agg #[.int .i64 0, .int .i64 0], .int .i64 9]) ∧ Below w.heap.size w w' := by
  have HL := hid (fun (W : World) (hb : Below w.heap.size w W) => qlen_c (h.below hb))
  clear h
  go_enter Try.func16, Try.ntmps16
  go_wp2_with (go_at_call 12; refine (HL.out _ ((Below.refl _ _).alloc (Nat.le_refl _) _)).mono ?_; rintro e w2 ⟨rfl, rfl⟩)
  refine bodyPost_ret (v := .tuple #[.agg #[.int .i64 0, .int .i64 0], .int .i64 9]) (by simp [results, Try.results16, go_sem]) rfl ?_
  exact ⟨rfl, (Below.refl _ _).alloc (Nat.le_refl _) _⟩
theorem peekE_c {w : World} {q : Nat} {F : Nat → Prop} {A : Int × Int → Prop} (h : Qu w q F 0 A) : Calls Try.prog 17 #[.pointer (some ⟨q, 0, none⟩)] w fun e w' => e = .returned (.tuple #[.agg #[.int .i64 0, .int .i64 0], .int .i64 9]) ∧ Below w.heap.size w w' := by
  have HL := hid (fun (W : World) (hb : Below w.heap.size w W) => qlen_c (h.below hb))
  clear h
  go_enter Try.func17, Try.ntmps17
  go_wp2_with (go_at_call 12; refine (HL.out _ ((Below.refl _ _).alloc (Nat.le_refl _) _)).mono ?_; rintro e w2 ⟨rfl, rfl⟩)
  refine bodyPost_ret (v := .tuple #[.agg #[.int .i64 0, .int .i64 0], .int .i64 9]) (by simp [results, Try.results17, go_sem]) rfl ?_
  exact ⟨rfl, (Below.refl _ _).alloc (Nat.le_refl _) _⟩
/-- The first item. -/
def Fst (A : Int × Int → Prop) (x : Int × Int) : Prop := A x ∧ ∀ y, A y → ¬ ahd y x
theorem qpeek_c {w : World} {q n : Nat} {F : Nat → Prop} {A : Int × Int → Prop} (h : Qu w q F (n + 1) A) : Calls Try.prog 17 #[.pointer (some ⟨q, 0, none⟩)] w fun e w' => ∃ x, e = .returned (.tuple #[.agg #[.int .i64 x.1, .int .i64 x.2], .int .i64 0]) ∧ Fst A x ∧ Below w.heap.size w w' := by
  have HL := hid (fun (W : World) (hb : Below w.heap.size w W) => qlen_c (h.below hb))
  rcases h with ⟨_, h1, _⟩ | ⟨g, cap, m, d, h0, h1, h2, h3⟩
  · omega
  have hlim := h0.lim
  have f0 := h0.f0; have a0 := h0.c0 0 (by omega); have a1 := h0.c1 0 (by omega)
  have hf : Fst A (d 0) := ⟨(h2 _).2 ⟨0, by omega, rfl⟩, fun y hy => by obtain ⟨i, hi, rfl⟩ := (h2 y).1 hy; exact h1.first i hi⟩
  have HF := hid hf
  generalize d 0 = x at *
  obtain ⟨x0, x1⟩ := x
  have e1 : ((n : Int) + 1 == 0) = false := by simp; omega
  rw [Nat.zero_mul] at a0 a1
  have c1 : (w.alloc (.cells #[.int .i64 0, .int .i64 0] 40)).cell? ⟨q, 0, none⟩ = some (.slice (some ⟨g, 0, none⟩) (n + 1) cap) := kCa f0
  have c2 : (w.alloc (.cells #[.int .i64 0, .int .i64 0] 40)).cell? ⟨g, 0, none⟩ = some (.int .i64 x0) := kCa a0
  have c3 : (w.alloc (.cells #[.int .i64 0, .int .i64 0] 40)).cell? ⟨g, 1, none⟩ = some (.int .i64 x1) := kCa a1
  have hp : (0 : Int) < (n : Int) + 1 := by omega
  clear hf h0 h1 h2 h3
  go_enter Try.func17, Try.ntmps17
  go_wp2_with (go_at_call 12; refine (HL.out _ ((Below.refl _ _).alloc (Nat.le_refl _) _)).mono ?_; rintro e w2 ⟨rfl, rfl⟩)
  refine bodyPost_ret (v := .tuple #[.agg #[.int .i64 x0, .int .i64 x1], .int .i64 0]) (by simp [results, Try.results17, go_sem]) rfl ?_
  exact ⟨(x0, x1), rfl, HF.out, (Below.refl _ _).alloc (Nat.le_refl _) _⟩
theorem tn_set {F : Nat → Prop} {w w' : World} (h : Tn F w w') {a : Addr} {v : Value} (ha : w.heap.size ≤ a.block) : Tn F w (w'.setCell a v) :=
  ⟨h.os, h.tape, h.output, by simp [World.setCell]; exact h.size, fun k hk hf => (Below.heap_setCell _ _ _ _ (by omega)).trans (h.block k hk hf)⟩
theorem qpop_c {w : World} {q n : Nat} {F : Nat → Prop} {A : Int × Int → Prop} (h : Qu w q F (n + 1) A) : Calls Try.prog 16 #[.pointer (some ⟨q, 0, none⟩)] w fun e w' => ∃ x, e = .returned (.tuple #[.agg #[.int .i64 x.1, .int .i64 x.2], .int .i64 0]) ∧ Fst A x ∧ QuA w q F n (fun y => A y ∧ y ≠ x) w' := by
  have HL := hid (fun (W : World) (hb : Below w.heap.size w W) => qlen_c (h.below hb))
  rcases h with ⟨_, h1, _⟩ | ⟨g, cap, m, d, h0, h1, h2, h3⟩
  · omega
  have hlim := h0.lim; have hlt := h0.lt
  have hf : Fst A (d 0) := ⟨(h2 _).2 ⟨0, by omega, rfl⟩, fun y hy => by obtain ⟨i, hi, rfl⟩ := (h2 y).1 hy; exact h1.first i hi⟩
  have HF := hid hf
  have hB1 : Below w.heap.size w (w.alloc (.cells #[.int .i64 0, .int .i64 0] 40)) := (Below.refl _ _).alloc (Nat.le_refl _) _
  have HP := hid (hpop_c (h0.below hB1) h1)
  have hbx := (heap_alloc w (.cells #[.int .i64 0, .int .i64 0] 40)).1
  have hsz : (w.alloc (.cells #[.int .i64 0, .int .i64 0] 40)).heap.size = w.heap.size + 1 := by simp
  have HA := hid (fun (d' : Nat → Int × Int) (hd : ∀ x, (∃ k, k < n ∧ d' k = x) ↔ ∃ k, k < n + 1 ∧ k ≠ 0 ∧ d k = x) (x : Int × Int) => show (A x ∧ x ≠ d 0) ↔ ∃ i, i < n ∧ d' i = x from by
    rw [hd x, h2 x]
    constructor
    · rintro ⟨⟨i, hi, e⟩, hne⟩
      exact ⟨i, hi, fun e0 => hne (by subst e0; exact e.symm), e⟩
    · rintro ⟨i, hi, hne, e⟩
      exact ⟨⟨i, hi, e⟩, fun e2 => hne (h0.inj i 0 hi (by omega) (by rw [e, e2]))⟩)
  have H3 := hid h3
  have e1 : ((n : Int) + 1 == 0) = false := by simp; omega
  clear hf h0 h1 h2 h3
  generalize hd0 : d 0 = x at *
  obtain ⟨x0, x1⟩ := x
  have ta : ∀ W, (Instr.typeAssert (.iface 40 (.agg #[.int .i64 x0, .int .i64 x1])) 20 40 false).run Try.prog W = .ok (.agg #[.int .i64 x0, .int .i64 x1]) W := fun W => by kernel_rfl
  have HL1 := hid (HL.out _ hB1); have HB1 := hid hB1
  clear HL hB1
  go_enter Try.func16, Try.ntmps16
  go_wp2_with fail
  generalize w.alloc (.cells #[.int .i64 0, .int .i64 0] 40) = wB at *
  refine HL1.out.mono ?_
  rintro e w2 ⟨rfl, rfl⟩
  go_wp2_with fail
  refine HP.out.mono ?_
  rintro e w4 ⟨rfl, d', hq4, hh4, hm4, ht4⟩
  rw [hd0]
  have hx4 : w4.heap[w.heap.size]? = some (.cells #[.int .i64 0, .int .i64 0] 40 (0, 0)) := (ht4.block _ (by omega) (by rintro (e | e | e) <;> omega)).trans hbx
  have k0 := (cells_at hx4).1; have k1 := (cells_at hx4).2
  have z0 := free_at (o := 0) hx4; have z1 := free_at (o := 1) hx4
  have r1 : ((w4.setCell ⟨w.heap.size, 0, none⟩ (.int .i64 x0)).setCell ⟨w.heap.size, 1, none⟩ (.int .i64 x1)).cell? ⟨w.heap.size, 1, none⟩ = some (.int .i64 x1) := World.cell?_setCell_same _ _ _ (by rw [World.cell?_setCell_other _ _ _ _ (by simp)]; exact k1)
  have r0 : ((w4.setCell ⟨w.heap.size, 0, none⟩ (.int .i64 x0)).setCell ⟨w.heap.size, 1, none⟩ (.int .i64 x1)).cell? ⟨w.heap.size, 0, none⟩ = some (.int .i64 x0) := by rw [World.cell?_setCell_other _ _ _ _ (by simp)]; exact World.cell?_setCell_same _ _ _ k0
  have HQ4 := hid hq4; have HH4 := hid hh4; have HM4 := hid hm4; have HT4 := hid ht4
  clear hq4 hh4 hm4 ht4 hx4 hbx hsz
  go_wp2
  refine bodyPost_ret (v := .tuple #[.agg #[.int .i64 x0, .int .i64 x1], .int .i64 0]) (by simp [results, Try.results16, go_sem, r0, r1]) rfl ?_
  have hT : Tn F w ((w4.setCell ⟨w.heap.size, 0, none⟩ (.int .i64 x0)).setCell ⟨w.heap.size, 1, none⟩ (.int .i64 x1)) := tn_set (tn_set ((Tn.of_below HB1.out).comp HT4.out (fun k hk => .inl ((H3.out k).2 hk))) (Nat.le_refl _)) (Nat.le_refl _)
  have hlt4 := hlt
  refine ⟨(x0, x1), rfl, HF.out, _, .inr ⟨g, cap, m, d', HQ4.out.of ?_ ?_ ?_, HH4.out, fun x => HA.out d' HM4.out x, fun k => .rfl⟩, hT, fun k hk => .inl ((H3.out k).2 hk)⟩
  · exact (Below.heap_setCell _ _ _ _ (by simp; omega)).trans (Below.heap_setCell _ _ _ _ (by simp; omega))
  · exact (Below.heap_setCell _ _ _ _ (by simp; omega)).trans (Below.heap_setCell _ _ _ _ (by simp; omega))
  · exact (Below.heap_setCell _ _ _ _ (by simp; omega)).trans (Below.heap_setCell _ _ _ _ (by simp; omega))
theorem fixE_c {w : World} {q n : Nat} {F : Nat → Prop} {A : Int × Int → Prop} (h : Qu w q F n A) (id key : Int) (hb : ¬ ∃ key, A (id, key)) :
    Calls Try.prog 18 #[.pointer (some ⟨q, 0, none⟩), .int .i64 id, .int .i64 key] w fun e w' => e = .returned (.int .i64 9) ∧ w' = w := by
  have HC := hid (has_c h id false ⟨fun e => (by cases e), fun e => absurd e hb⟩)
  clear h hb
  go_enter Try.func18, Try.ntmps18
  go_wp2_with (go_at_call 15; refine HC.out.mono ?_; rintro e w2 ⟨rfl, rfl⟩)
  go_ret
  exact ⟨rfl, rfl⟩
theorem remE_c {w : World} {q n : Nat} {F : Nat → Prop} {A : Int × Int → Prop} (h : Qu w q F n A) (id : Int) (hb : ¬ ∃ key, A (id, key)) :
    Calls Try.prog 14 #[.pointer (some ⟨q, 0, none⟩), .int .i64 id] w fun e w' => e = .returned (.int .i64 9) ∧ w' = w := by
  have HC := hid (has_c h id false ⟨fun e => (by cases e), fun e => absurd e hb⟩)
  clear h hb
  go_enter Try.func14, Try.ntmps14
  go_wp2_with (go_at_call 15; refine HC.out.mono ?_; rintro e w2 ⟨rfl, rfl⟩)
  go_ret
  exact ⟨rfl, rfl⟩
theorem Qi.key {w q g cap m n d} (h : Qi w q g cap m n d) {i : Nat} (hi : i < n) (key : Int) : Qi (w.setCell ⟨g, i * 2 + 1, none⟩ (.int .i64 key)) q g cap m n (upf d i ((d i).1, key)) := by
  have hs : ∀ k, k ≠ g → (w.setCell ⟨g, i * 2 + 1, none⟩ (.int .i64 key)).heap[k]? = w.heap[k]? := fun k hk => Below.heap_setCell _ _ _ _ hk
  have h1 : ∀ k, (upf d i ((d i).1, key) k).1 = (d k).1 := fun k => by
    by_cases e : k = i
    · subst e; rw [upf_at]
    · rw [upf_ne e]
  refine ⟨(hs q h.qg).trans h.st, ⟨set_blk h.ro.blk, fun k hk => ?_, fun k hk => ?_⟩, h.le, h.top, h.lim, (h.mp.of (hs m h.gm.symm)).congr (fun a b => ?_), fun a b ha hb e => h.inj a b ha hb (by rw [← h1 a, ← h1 b]; exact e)⟩
  · rw [World.cell?_setCell_other _ _ _ _ (by simp <;> omega), h1]; exact h.c0 k hk
  · by_cases e : k = i
    · subst e; rw [upf_at]; exact World.cell?_setCell_same _ _ _ (h.c1 k hk)
    · rw [upf_ne e, World.cell?_setCell_other _ _ _ _ (by simp <;> omega)]; exact h.c1 k hk
  · constructor
    · rintro ⟨k, hk, e1, e2⟩; exact ⟨k, hk, by rw [← h1]; exact e1, e2⟩
    · rintro ⟨k, hk, e1, e2⟩; exact ⟨k, hk, by rw [h1]; exact e1, e2⟩
theorem qfix_c {w : World} {q n : Nat} {F : Nat → Prop} {A : Int × Int → Prop} (h : Qu w q F n A) (id key : Int) (hb : ∃ key, A (id, key)) :
    Calls Try.prog 18 #[.pointer (some ⟨q, 0, none⟩), .int .i64 id, .int .i64 key] w fun e w' => e = .returned (.int .i64 0) ∧ QuA w q F n (fun x => (A x ∧ x.1 ≠ id) ∨ x = (id, key)) w' := by
  have HC := hid (has_c h id true ⟨fun _ => hb, fun _ => rfl⟩)
  rcases h with ⟨_, _, h2, _⟩ | ⟨g, cap, m, d, h0, h1, h2, h3⟩
  · obtain ⟨key, hk⟩ := hb; exact absurd hk (h2 _)
  obtain ⟨key0, hk0⟩ := hb
  obtain ⟨i, hi, he⟩ := (h2 _).1 hk0
  have hlim := h0.lim
  have f0 := h0.f0; have f1 := h0.f1
  have c1 := h0.c1 i hi; have z1 := h0.fr (i * 2 + 1)
  have hl := h0.mp.look (P := Try.prog) (t := 46) Try.underlying46 Try.underlying3 (k := id) (v := i) ⟨i, hi, by rw [he], rfl⟩ false
  simp only [Bool.false_eq_true, if_false] at hl
  have hi' : (i : Int) < n := by omega
  have HX := hid (hfix_c (h0.key hi key) hi (hdn_put h1))
  have e1 : (d i).1 = id := by rw [he]
  have HA := hid (fun (d' : Nat → Int × Int) (hm : Mv n (upf d i ((d i).1, key)) d') (x : Int × Int) => show ((A x ∧ x.1 ≠ id) ∨ x = (id, key)) ↔ ∃ k, k < n ∧ d' k = x from by
    rw [hm.mem x]
    constructor
    · rintro (⟨hx, hne⟩ | rfl)
      · obtain ⟨k, hk, e⟩ := (h2 x).1 hx
        refine ⟨k, hk, ?_⟩
        rw [upf_ne (fun e3 => hne (by rw [← e, e3, e1]))]
        exact e
      · exact ⟨i, hi, by rw [upf_at, e1]⟩
    · rintro ⟨k, hk, e⟩
      by_cases e3 : k = i
      · subst e3; rw [upf_at, e1] at e; exact .inr e.symm
      · rw [upf_ne e3] at e
        refine .inl ⟨(h2 x).2 ⟨k, hk, e⟩, fun e4 => e3 (h0.inj k i hk hi (by rw [e, e4, e1]))⟩)
  have H3 := hid h3
  have HS := hid (show One g w (w.setCell ⟨g, i * 2 + 1, none⟩ (.int .i64 key)) from ⟨rfl, rfl, rfl, by simp [World.setCell], fun k hk => Below.heap_setCell _ _ _ _ hk⟩)
  clear h0 h1 h2 h3 he hk0
  go_enter Try.func18, Try.ntmps18
  go_wp2_with (first
    | (go_at_call 15; refine HC.out.mono ?_; rintro e w2 ⟨rfl, rfl⟩)
    | (go_at_call 31; refine HX.out.mono ?_; rintro e w3 ⟨rfl, d', hq3, hh3, hm3, ht3⟩))
  go_ret
  have ho := HS.out
  refine ⟨rfl, _, .inr ⟨g, cap, m, d', hq3, hh3, fun x => HA.out d' hm3 x, fun k => .rfl⟩, ?_, fun k hk => .inl ((H3.out k).2 hk)⟩
  refine Tn.comp (G := fun k => k = g ∨ k = m) (w1 := _) ⟨ho.os, ho.tape, ho.output, by rw [ho.size]; exact Nat.le_refl _, fun k hk hf => ho.block k (fun e => hf ((H3.out k).2 (.inr (.inl e))))⟩ ht3 (fun k hk => .inl ((H3.out k).2 (.inr hk)))
set_option maxRecDepth 100000 in
set_option maxHeartbeats 4000000 in
theorem qrem_c {w : World} {q n : Nat} {F : Nat → Prop} {A : Int × Int → Prop} (h : Qu w q F (n + 1) A) (id : Int) (hb : ∃ key, A (id, key)) :
    Calls Try.prog 14 #[.pointer (some ⟨q, 0, none⟩), .int .i64 id] w fun e w' => e = .returned (.int .i64 0) ∧ QuA w q F n (fun x => A x ∧ x.1 ≠ id) w' := by
  have HC := hid (has_c h id true ⟨fun _ => hb, fun _ => rfl⟩)
  rcases h with ⟨_, _, h2, _⟩ | ⟨g, cap, m, d, h0, h1, h2, h3⟩
  · obtain ⟨key, hk⟩ := hb; exact absurd hk (h2 _)
  obtain ⟨key0, hk0⟩ := hb
  obtain ⟨i, hi, he⟩ := (h2 _).1 hk0
  have hlim := h0.lim
  have hd : Qi w.drew q g cap m (n + 1) d := h0.of rfl rfl rfl
  have f1 := hd.f1
  have hl := hd.mp.look (P := Try.prog) (t := 46) Try.underlying46 Try.underlying3 (k := id) (v := i) ⟨i, hi, by rw [he], rfl⟩ false
  simp only [Bool.false_eq_true, if_false] at hl
  have HR := hid (hrem_c hd h1 hi)
  have e1 : (d i).1 = id := by rw [he]
  have HA := hid (fun (d' : Nat → Int × Int) (hm : ∀ x, (∃ k, k < n ∧ d' k = x) ↔ ∃ k, k < n + 1 ∧ k ≠ i ∧ d k = x) (x : Int × Int) => show (A x ∧ x.1 ≠ id) ↔ ∃ k, k < n ∧ d' k = x from by
    rw [hm x, h2 x]
    constructor
    · rintro ⟨⟨k, hk, e⟩, hne⟩
      exact ⟨k, hk, fun e3 => hne (by rw [← e, e3, e1]), e⟩
    · rintro ⟨k, hk, hne, e⟩
      exact ⟨⟨k, hk, e⟩, fun e4 => hne (h0.inj k i hk hi (by rw [e, e4, e1]))⟩)
  have H3 := hid h3
  clear h0 h1 h2 h3 he hk0 hd
  go_enter Try.func14, Try.ntmps14
  go_wp2_with (first
    | (go_at_call 15; refine HC.out.mono ?_; rintro e w2 ⟨rfl, rfl⟩))
  refine wp_region_held_drew (S := fun _ => True) (by kernel_rfl) trivial (fun hHeld => ?_)
  refine wpAnyH_take (i := 0) (v := ?_) rfl (by kernel_rfl) (by kernel_rfl) (by kernel_rfl) (fun _ _ _ h => h) (Or.inl ⟨by rfl, ?_⟩) (by assumption) ?_
  rotate_left
  (focus (intro w0 hSw; (try dsimp only at hSw); go_simp <;> with_reducible rfl))
  simp only [List.getElem_toArray, List.getElem_cons_zero, Act.put, List.setIfInBounds_toArray, List.set_cons_zero, List.set_cons_succ]
  refine wpAnyH_take (i := 1) (v := ?_) rfl (by kernel_rfl) (by kernel_rfl) (by kernel_rfl) (fun _ _ _ h => h) (Or.inl ⟨by rfl, ?_⟩) (by assumption) ?_
  rotate_left
  (focus (intro w0 hSw; (try dsimp only at hSw); go_simp <;> with_reducible rfl))
  simp only [List.getElem_toArray, List.getElem_cons_succ, List.getElem_cons_zero, Act.put, List.setIfInBounds_toArray, List.set_cons_zero, List.set_cons_succ]
  refine wpAnyH_take (i := 2) (v := ?_) rfl (by kernel_rfl) (by kernel_rfl) (by kernel_rfl) (fun _ _ _ h => h) (Or.inl ⟨by rfl, ?_⟩) (by assumption) ?_
  rotate_left
  (focus (intro w0 hSw; (try dsimp only at hSw); go_simp <;> with_reducible rfl))
  simp only [List.getElem_toArray, List.getElem_cons_succ, List.getElem_cons_zero, Act.put, List.setIfInBounds_toArray, List.set_cons_zero, List.set_cons_succ]
  refine wpAnyH_take (i := 3) (v := ?_) rfl (by kernel_rfl) (by kernel_rfl) (by kernel_rfl) (fun _ _ _ h => h) (Or.inl ⟨by rfl, ?_⟩) (by assumption) ?_
  rotate_left
  (focus (intro w0 hSw; (try dsimp only at hSw); go_simp <;> with_reducible rfl))
  simp only [List.getElem_toArray, List.getElem_cons_succ, List.getElem_cons_zero, Act.put, List.setIfInBounds_toArray, List.set_cons_zero, List.set_cons_succ]
  refine wpAnyH_take (i := 4) (v := ?_) rfl (by kernel_rfl) (by kernel_rfl) (by kernel_rfl) (fun _ _ _ h => h) (Or.inl ⟨by rfl, ?_⟩) (by assumption) ?_
  rotate_left
  (focus (intro w0 hSw; (try dsimp only at hSw); go_simp <;> with_reducible rfl))
  simp only [List.getElem_toArray, List.getElem_cons_succ, List.getElem_cons_zero, Act.put, List.setIfInBounds_toArray, List.set_cons_zero, List.set_cons_succ]
  refine wpAnyH_take (i := 5) (v := ?_) rfl (by kernel_rfl) (by kernel_rfl) (by kernel_rfl) (fun _ _ _ h => h) (Or.inl ⟨by rfl, ?_⟩) (by assumption) ?_
  rotate_left
  (focus (intro w0 hSw; (try dsimp only at hSw); go_simp <;> with_reducible rfl))
  simp only [List.getElem_toArray, List.getElem_cons_succ, List.getElem_cons_zero, Act.put, List.setIfInBounds_toArray, List.set_cons_zero, List.set_cons_succ]
  refine wpAnyH_take (i := 6) (v := ?_) rfl (by kernel_rfl) (by kernel_rfl) (by kernel_rfl) (fun _ _ _ h => h) (Or.inl ⟨by rfl, ?_⟩) (by assumption) ?_
  rotate_left
  (focus (intro w0 hSw; (try dsimp only at hSw); go_simp <;> with_reducible rfl))
  simp only [List.getElem_toArray, List.getElem_cons_succ, List.getElem_cons_zero, Act.put, List.setIfInBounds_toArray, List.set_cons_zero, List.set_cons_succ]
  refine wpAnyH_take (i := 7) (v := ?_) rfl (by kernel_rfl) (by kernel_rfl) (by kernel_rfl) (fun _ _ _ h => h) (Or.inl ⟨by rfl, ?_⟩) (by assumption) ?_
  rotate_left
  (focus (intro w0 hSw; (try dsimp only at hSw); go_simp <;> with_reducible rfl))
  simp only [List.getElem_toArray, List.getElem_cons_succ, List.getElem_cons_zero, Act.put, List.setIfInBounds_toArray, List.set_cons_zero, List.set_cons_succ]
  refine wpAnyH_take (i := 9) (v := ?_) rfl (by kernel_rfl) (by kernel_rfl) (by kernel_rfl) (fun _ _ _ h => h) (Or.inl ⟨by rfl, ?_⟩) (by assumption) ?_
  rotate_left
  (focus (intro w0 hSw; (try dsimp only at hSw); go_simp <;> with_reducible rfl))
  simp only [List.getElem_toArray, List.getElem_cons_succ, List.getElem_cons_zero, Act.put, List.setIfInBounds_toArray, List.set_cons_zero, List.set_cons_succ]
  refine wpAnyH_ready (rs := [8]) (by kernel_rfl) (by simp) ?_
  refine AllReadyH.cons (o := _) rfl (fun K hK => ?_) ?_
  rotate_left
  exact AllReadyH.nil
  go_simp
  refine hK.out _ _ trivial (fun hH1 => ?_)
  clear hK K
  try simp only [Act.put, List.setIfInBounds_toArray, List.set_cons_zero, List.set_cons_succ]
  refine wpAnyH_ready (rs := [10]) (by kernel_rfl) (by simp) ?_
  refine AllReadyH.cons (o := _) rfl (fun K hK => ?_) ?_
  rotate_left
  exact AllReadyH.nil
  go_simp
  refine hK.out _ _ trivial (fun hH2 => ?_)
  clear hK K
  try simp only [Act.put, List.setIfInBounds_toArray, List.set_cons_zero, List.set_cons_succ]
  refine wpAnyH_ready (rs := [11]) (by kernel_rfl) (by simp) ?_
  refine AllReadyH.cons (o := _) rfl (fun K hK => ?_) ?_
  rotate_left
  exact AllReadyH.nil
  go_simp
  refine HR.out.mono ?_
  rintro e w4 ⟨⟨v, rfl⟩, hq4⟩
  refine hK.out _ _ trivial (fun hH3 => ?_)
  clear hK K
  refine wpAnyH_done (by kernel_rfl) ?_ _
  go_wp2
  go_ret
  obtain ⟨d', hq5, hh5, hm5, ht5⟩ := hq4
  exact ⟨rfl, _, .inr ⟨g, cap, m, d', hq5, hh5, fun x => HA.out d' hm5 x, fun k => .rfl⟩, ⟨ht5.os, ht5.tape, ht5.output, ht5.size, fun k hk hf => ht5.block k hk (fun e => hf ((H3.out k).2 e))⟩, fun k hk => .inl ((H3.out k).2 hk)⟩
end Go.Proofs.Ytacgkgbhleehjaa
namespace Go.Proofs.Ytacgkgbhleehjaa
open Go.RowKit Go.Sort

/-- The queue holds the items of l, which stand in order. -/
structure Ql (w : World) (q : Nat) (F : Nat → Prop) (l : List (Int × Int)) : Prop where
  qu : Qu w q F l.length (fun x => x ∈ l)
  ord : l.Pairwise ahd
/-- The queue behind a call. -/
def QlA (w : World) (q : Nat) (F : Nat → Prop) (l' : List (Int × Int)) (w' : World) : Prop :=
  ∃ F', Ql w' q F' l' ∧ Tn F w w' ∧ ∀ k, F' k → F k ∨ w.heap.size ≤ k
def ahB (x p : Int × Int) : Bool := decide (ahd x p)
def insL (l : List (Int × Int)) (p : Int × Int) : List (Int × Int) := l.takeWhile (ahB · p) ++ p :: l.dropWhile (ahB · p)
def delL (l : List (Int × Int)) (id : Int) : List (Int × Int) := l.filter (fun x => decide (x.1 ≠ id))
def hasL (l : List (Int × Int)) (id : Int) : Bool := l.any (fun x => x.1 == id)
theorem hasL_iff {l : List (Int × Int)} {id : Int} : hasL l id = true ↔ ∃ key, (id, key) ∈ l := by
  unfold hasL
  simp only [List.any_eq_true, beq_iff_eq]
  exact ⟨fun ⟨x, hx, e⟩ => ⟨x.2, by rw [← e]; exact hx⟩, fun ⟨k, hk⟩ => ⟨_, hk, rfl⟩⟩
theorem hasL_not {l : List (Int × Int)} {id : Int} (h : hasL l id = false) : ¬ ∃ key, (id, key) ∈ l := fun e => by rw [hasL_iff.2 e] at h; cases h
theorem tw_dw (l : List (Int × Int)) (p : Int × Int) : l.takeWhile (ahB · p) ++ l.dropWhile (ahB · p) = l := List.takeWhile_append_dropWhile
theorem mem_insL {l : List (Int × Int)} {p x : Int × Int} : x ∈ insL l p ↔ x ∈ l ∨ x = p := by
  unfold insL
  have h : x ∈ l ↔ x ∈ l.takeWhile (ahB · p) ∨ x ∈ l.dropWhile (ahB · p) := by rw [← List.mem_append, tw_dw]
  rw [h]
  simp only [List.mem_append, List.mem_cons]
  constructor
  · rintro (h | h | h)
    · exact .inl (.inl h)
    · exact .inr h
    · exact .inl (.inr h)
  · rintro ((h | h) | h)
    · exact .inl h
    · exact .inr (.inr h)
    · exact .inr (.inl h)
theorem len_insL (l : List (Int × Int)) (p : Int × Int) : (insL l p).length = l.length + 1 := by
  have h := congrArg List.length (tw_dw l p)
  unfold insL
  simp only [List.length_append, List.length_cons] at h ⊢
  omega
theorem ord_insL {l : List (Int × Int)} {p : Int × Int} (h : l.Pairwise ahd) (hp : ∀ x ∈ l, x ≠ p) : (insL l p).Pairwise ahd := by
  induction l with
  | nil => simp [insL]
  | cons a r ih =>
    obtain ⟨h1, h2⟩ := List.pairwise_cons.1 h
    by_cases ha : ahd a p
    · have e : insL (a :: r) p = a :: insL r p := by simp [insL, ahB, ha]
      rw [e]
      refine List.pairwise_cons.2 ⟨fun x hx => ?_, ih h2 (fun x hx => hp x (List.mem_cons_of_mem _ hx))⟩
      rcases mem_insL.1 hx with hx | rfl
      · exact h1 x hx
      · exact ha
    · have e : insL (a :: r) p = p :: a :: r := by simp [insL, ahB, ha]
      rw [e]
      refine List.pairwise_cons.2 ⟨fun x hx => ?_, h⟩
      have hpa : ahd p a := (ahd_tri ha).resolve_left (hp a (List.mem_cons_self ..))
      rcases List.mem_cons.1 hx with rfl | hx
      · exact hpa
      · exact ahd_trans hpa (h1 x hx)
theorem mem_delL {l : List (Int × Int)} {id : Int} {x : Int × Int} : x ∈ delL l id ↔ x ∈ l ∧ x.1 ≠ id := by
  unfold delL; simp
theorem ord_delL {l : List (Int × Int)} (id : Int) (h : l.Pairwise ahd) : (delL l id).Pairwise ahd := h.filter _
theorem Ql.uniq {w q F l} (h : Ql w q F l) {x y : Int × Int} (hx : x ∈ l) (hy : y ∈ l) (e : x.1 = y.1) : x = y := h.qu.uniq hx hy e
/-- Where an item stands. -/
theorem Ql.split {w q F l} (h : Ql w q F l) {x : Int × Int} (hx : x ∈ l) : ∃ s t, l = s ++ x :: t ∧ (∀ y ∈ s, y.1 ≠ x.1) ∧ (∀ y ∈ t, y.1 ≠ x.1) ∧ delL l x.1 = s ++ t := by
  obtain ⟨s, t, rfl⟩ := List.append_of_mem hx
  have ho := h.ord
  rw [List.pairwise_append] at ho
  obtain ⟨h1, h2, h3⟩ := ho
  obtain ⟨h4, h5⟩ := List.pairwise_cons.1 h2
  have hs : ∀ y ∈ s, y.1 ≠ x.1 := fun y hy e => by
    have := h.uniq (x := y) (y := x) (by simp [hy]) (by simp) e
    subst this
    exact ahd_irrefl _ (h3 y hy y (by simp))
  have ht : ∀ y ∈ t, y.1 ≠ x.1 := fun y hy e => by
    have := h.uniq (x := y) (y := x) (by simp [hy]) (by simp) e
    subst this
    exact ahd_irrefl _ (h4 y hy)
  refine ⟨s, t, rfl, hs, ht, ?_⟩
  unfold delL
  rw [List.filter_append, List.filter_cons]
  simp only [ne_eq, not_true_eq_false, decide_false, Bool.false_eq_true, if_false]
  rw [List.filter_eq_self.2 (fun y hy => by simpa using hs y hy), List.filter_eq_self.2 (fun y hy => by simpa using ht y hy)]
theorem Ql.len_del {w q F l} (h : Ql w q F l) {id : Int} (hx : ∃ key, (id, key) ∈ l) : (delL l id).length + 1 = l.length := by
  obtain ⟨key, hk⟩ := hx
  obtain ⟨s, t, e, _, _, e2⟩ := h.split hk
  rw [show (id, key).1 = id from rfl] at e2
  rw [e2, e]; simp; omega
theorem Ql.below {w w' q F l} (h : Ql w q F l) (hb : Below w.heap.size w w') : Ql w' q F l := ⟨h.qu.below hb, h.ord⟩
theorem Ql.of {w w' q F l} (h : Ql w q F l) (hb : ∀ k, F k → w'.heap[k]? = w.heap[k]?) : Ql w' q F l := ⟨h.qu.of hb, h.ord⟩
theorem ql_new (w : World) : Ql (w.alloc (.cells #[.slice none 0 0, .map none] 50)) w.heap.size (fun k => k = w.heap.size) [] := ⟨(qu_new w).congr (fun x => by simp), .nil⟩
variable {w : World} {q : Nat} {F : Nat → Prop} {l : List (Int × Int)}
theorem llen_c (h : Ql w q F l) : Calls Try.prog 12 #[.pointer (some ⟨q, 0, none⟩)] w fun e w' => e = .returned (.int .i64 l.length) ∧ w' = w := qlen_c h.qu
theorem lhas_c (h : Ql w q F l) (id : Int) : Calls Try.prog 15 #[.pointer (some ⟨q, 0, none⟩), .int .i64 id] w fun e w' => e = .returned (.bool (hasL l id)) ∧ w' = w := has_c h.qu id _ hasL_iff
/-- What Push answers. -/
def pushE (l : List (Int × Int)) (id : Int) : Int := if hasL l id then 6 else if 4096 ≤ l.length then 10 else 0
def pushL (l : List (Int × Int)) (id key : Int) : List (Int × Int) := if hasL l id then l else if 4096 ≤ l.length then l else insL l (id, key)
theorem qla_same (h : Ql w q F l) : QlA w q F l w := ⟨F, h, Tn.refl _ _, fun _ hk => .inl hk⟩
theorem lpush_c (h : Ql w q F l) (id key : Int) : Calls Try.prog 13 #[.pointer (some ⟨q, 0, none⟩), .int .i64 id, .int .i64 key] w fun e w' => e = .returned (.int .i64 (pushE l id)) ∧ QlA w q F (pushL l id key) w' := by
  by_cases h1 : hasL l id = true
  · rw [show pushE l id = 6 by simp [pushE, h1], show pushL l id key = l by simp [pushL, h1]]
    refine (pushE_c h.qu id key (hasL_iff.1 h1)).mono ?_
    rintro e w' ⟨rfl, rfl⟩
    exact ⟨rfl, qla_same h⟩
  · have h1' : hasL l id = false := by simpa using h1
    have hn := hasL_not h1'
    by_cases h2 : 4096 ≤ l.length
    · rw [show pushE l id = 10 by simp [pushE, h1', h2], show pushL l id key = l by simp [pushL, h1', h2]]
      refine (pushF_c h.qu id key hn h2).mono ?_
      rintro e w' ⟨rfl, rfl⟩
      exact ⟨rfl, qla_same h⟩
    · rw [show pushE l id = 0 by simp [pushE, h1', h2], show pushL l id key = insL l (id, key) by simp [pushL, h1', h2]]
      refine (qpush_c h.qu id key hn (by omega)).mono ?_
      rintro e w' ⟨rfl, F', hq, ht, hF⟩
      refine ⟨rfl, F', ⟨?_, ord_insL h.ord (fun x hx e => hn ⟨key, e ▸ hx⟩)⟩, ht, hF⟩
      rw [len_insL]
      exact hq.congr (fun x => mem_insL)
theorem fst_head {x : Int × Int} {a : Int × Int} {r : List (Int × Int)} (ho : (a :: r).Pairwise ahd) (h : Fst (fun y => y ∈ a :: r) x) : x = a := by
  obtain ⟨h1, h2⟩ := h
  rcases List.mem_cons.1 h1 with rfl | h1
  · rfl
  · exact absurd ((List.pairwise_cons.1 ho).1 x h1) (h2 a (List.mem_cons_self ..))
theorem lpeek_c {a : Int × Int} {r : List (Int × Int)} (h : Ql w q F (a :: r)) : Calls Try.prog 17 #[.pointer (some ⟨q, 0, none⟩)] w fun e w' => e = .returned (.tuple #[.agg #[.int .i64 a.1, .int .i64 a.2], .int .i64 0]) ∧ Below w.heap.size w w' := by
  refine (qpeek_c (n := r.length) h.qu).mono ?_
  rintro e w' ⟨x, rfl, hx, hb⟩
  rw [fst_head h.ord hx]
  exact ⟨rfl, hb⟩
theorem lpeek0_c (h : Ql w q F []) : Calls Try.prog 17 #[.pointer (some ⟨q, 0, none⟩)] w fun e w' => e = .returned (.tuple #[.agg #[.int .i64 0, .int .i64 0], .int .i64 9]) ∧ Below w.heap.size w w' := peekE_c h.qu
theorem lpop0_c (h : Ql w q F []) : Calls Try.prog 16 #[.pointer (some ⟨q, 0, none⟩)] w fun e w' => e = .returned (.tuple #[.agg #[.int .i64 0, .int .i64 0], .int .i64 9]) ∧ Below w.heap.size w w' := popE_c h.qu
theorem lpop_c {a : Int × Int} {r : List (Int × Int)} (h : Ql w q F (a :: r)) : Calls Try.prog 16 #[.pointer (some ⟨q, 0, none⟩)] w fun e w' => e = .returned (.tuple #[.agg #[.int .i64 a.1, .int .i64 a.2], .int .i64 0]) ∧ QlA w q F r w' := by
  refine (qpop_c (n := r.length) h.qu).mono ?_
  rintro e w' ⟨x, rfl, hx, F', hq, ht, hF⟩
  have e := fst_head h.ord hx
  subst e
  obtain ⟨h1, h2⟩ := List.pairwise_cons.1 h.ord
  refine ⟨rfl, F', ⟨hq.congr (fun y => ?_), h2⟩, ht, hF⟩
  constructor
  · intro hy
    exact ⟨List.mem_cons_of_mem _ hy, fun e => ahd_irrefl _ (by have := h1 y hy; rw [e] at this; exact this)⟩
  · rintro ⟨hy, hne⟩
    exact (List.mem_cons.1 hy).resolve_left hne
def fixE (l : List (Int × Int)) (id : Int) : Int := if hasL l id then 0 else 9
def fixL (l : List (Int × Int)) (id key : Int) : List (Int × Int) := if hasL l id then insL (delL l id) (id, key) else l
def remL (l : List (Int × Int)) (id : Int) : List (Int × Int) := if hasL l id then delL l id else l
theorem lfix_c (h : Ql w q F l) (id key : Int) : Calls Try.prog 18 #[.pointer (some ⟨q, 0, none⟩), .int .i64 id, .int .i64 key] w fun e w' => e = .returned (.int .i64 (fixE l id)) ∧ QlA w q F (fixL l id key) w' := by
  by_cases h1 : hasL l id = true
  · rw [show fixE l id = 0 by simp [fixE, h1], show fixL l id key = insL (delL l id) (id, key) by simp [fixL, h1]]
    have hx := hasL_iff.1 h1
    refine (qfix_c h.qu id key hx).mono ?_
    rintro e w' ⟨rfl, F', hq, ht, hF⟩
    refine ⟨rfl, F', ⟨?_, ord_insL (ord_delL id h.ord) (fun x hx e => (mem_delL.1 hx).2 (by rw [e]))⟩, ht, hF⟩
    rw [len_insL, h.len_del hx]
    exact hq.congr (fun x => by rw [mem_insL, mem_delL])
  · have h1' : hasL l id = false := by simpa using h1
    rw [show fixE l id = 9 by simp [fixE, h1'], show fixL l id key = l by simp [fixL, h1']]
    refine (fixE_c h.qu id key (hasL_not h1')).mono ?_
    rintro e w' ⟨rfl, rfl⟩
    exact ⟨rfl, qla_same h⟩
theorem lrem_c (h : Ql w q F l) (id : Int) : Calls Try.prog 14 #[.pointer (some ⟨q, 0, none⟩), .int .i64 id] w fun e w' => e = .returned (.int .i64 (fixE l id)) ∧ QlA w q F (remL l id) w' := by
  by_cases h1 : hasL l id = true
  · rw [show fixE l id = 0 by simp [fixE, h1], show remL l id = delL l id by simp [remL, h1]]
    have hx := hasL_iff.1 h1
    have hl := h.len_del hx
    have hq0 := h.qu
    rw [← hl] at hq0
    refine (qrem_c hq0 id hx).mono ?_
    rintro e w' ⟨rfl, F', hq, ht, hF⟩
    exact ⟨rfl, F', ⟨hq.congr (fun x => mem_delL), ord_delL id h.ord⟩, ht, hF⟩
  · have h1' : hasL l id = false := by simpa using h1
    rw [show fixE l id = 9 by simp [fixE, h1'], show remL l id = l by simp [remL, h1']]
    refine (remE_c h.qu id (hasL_not h1')).mono ?_
    rintro e w' ⟨rfl, rfl⟩
    exact ⟨rfl, qla_same h⟩
theorem itemsN_c (w : World) : Calls Try.prog 11 #[.pointer none] w fun e w' => e = .returned (.slice none 0 0) ∧ w' = w := by
  go_enter Try.func11, Try.ntmps11
  go_wp2
  go_ret
  exact ⟨rfl, rfl⟩
end Go.Proofs.Ytacgkgbhleehjaa
namespace Go.Proofs.Ytacgkgbhleehjaa
open Go.RowKit Go.Sort Go.MapKept

/-- A queue that the call itself made. -/
structure Qb (w0 w : World) (q : Nat) (F : Nat → Prop) (l : List (Int × Int)) : Prop where
  ql : Ql w q F l
  bel : Below w0.heap.size w0 w
  new : ∀ k, F k → w0.heap.size ≤ k
theorem Qb.step {w0 w w' q F l l'} (h : Qb w0 w q F l) (ha : QlA w q F l' w') : ∃ F', Qb w0 w' q F' l' ∧ Tn F w w' ∧ ∀ k, F' k → F k ∨ w.heap.size ≤ k := by
  obtain ⟨F', hq, ht, hF⟩ := ha
  have hs := h.bel.size
  refine ⟨F', ⟨hq, ⟨ht.os.trans h.bel.os, ht.tape.trans h.bel.tape, ht.output.trans h.bel.output, Nat.le_trans hs ht.size, fun k hk => (ht.block k (by omega) (fun e => by have := h.new k e; omega)).trans (h.bel.block k hk)⟩, fun k hk => (hF k hk).elim (h.new k) (fun e => by omega)⟩, ht, hF⟩
theorem Qb.below {w0 w w' q F l} (h : Qb w0 w q F l) (hb : Below w.heap.size w w') : Qb w0 w' q F l :=
  ⟨h.ql.below hb, h.bel.trans (hb.mono h.bel.size), h.new⟩
theorem push_i {w : World} {q : Nat} {F : Nat → Prop} {l l' : List (Int × Int)} {id key e : Int} (h : Ql w q F l) (he : pushE l id = e) (hl : pushL l id key = l') : Calls Try.prog 13 #[.pointer (some ⟨q, 0, none⟩), .int .i64 id, .int .i64 key] w fun r w' => r = .returned (.int .i64 e) ∧ QlA w q F l' w' := by
  have := lpush_c h id key; rw [he, hl] at this; exact this
theorem fix_i {w : World} {q : Nat} {F : Nat → Prop} {l l' : List (Int × Int)} {id key e : Int} (h : Ql w q F l) (he : fixE l id = e) (hl : fixL l id key = l') : Calls Try.prog 18 #[.pointer (some ⟨q, 0, none⟩), .int .i64 id, .int .i64 key] w fun r w' => r = .returned (.int .i64 e) ∧ QlA w q F l' w' := by
  have := lfix_c h id key; rw [he, hl] at this; exact this
theorem has_i {w : World} {q : Nat} {F : Nat → Prop} {l : List (Int × Int)} {id : Int} {b : Bool} (h : Ql w q F l) (he : hasL l id = b) : Calls Try.prog 15 #[.pointer (some ⟨q, 0, none⟩), .int .i64 id] w fun r w' => r = .returned (.bool b) ∧ w' = w := by
  have := lhas_c h id; rw [he] at this; exact this
theorem eq_item (a b c d : Int) (w : World) : (binOp .eql 40 (.agg #[.int .i64 a, .int .i64 b]) (.agg #[.int .i64 c, .int .i64 d])).run Try.prog w = .ok (.bool (a == c && b == d)) w := by
  have u3 := Try.underlying3
  have a3 := Try.isAgg3
  have z3 := Try.sizeOf3
  have hS : Try.prog.underlying 40 = some (.struct (Try.prog.fieldsOf 40)) := by kernel_rfl
  have hp : Try.prog.stoodInHeld 40 = false := by kernel_rfl
  rw [run_eql_struct, show (10000 : Nat) = 9999 + 1 from rfl, run_equalIn_agg w 9999 40 _ _ hS hp]
  simp only [Program.fieldsOf, Try.underlying40]
  go_simp
  by_cases h1 : a = c <;> by_cases h2 : b = d <;> simp [h1, h2]
set_option maxRecDepth 100000 in
set_option maxHeartbeats 4000000 in
theorem awake_c (w : World) : Calls Try.prog 7 #[] w fun e w' => e = .returned (.bool true) ∧ Below w.heap.size w w' := by
  go_enter Try.func7, Try.ntmps7
  go_wp2_with fail
  refine (new_c _).mono ?_
  rintro e w1 ⟨rfl, rfl⟩
  have h1 : Qb w _ w.heap.size _ [] := ⟨ql_new w, (Below.refl _ _).alloc (Nat.le_refl _) _, fun k hk => by omega⟩
  generalize w.alloc (.cells #[.slice none 0 0, .map none] 50) = w1 at *
  obtain ⟨q, hq⟩ : ∃ x, w.heap.size = x := ⟨_, rfl⟩
  rw [hq]
  rw [hq] at h1
  go_wp2_with fail
  refine (push_i (l' := [(3, 5)]) (e := 0) h1.ql (by decide) (by decide)).mono ?_
  rintro e w2 ⟨rfl, h2⟩
  obtain ⟨F2, h2, _, _⟩ := h1.step h2
  have H2 := hid h2
  clear h1 h2
  go_wp2_with fail
  refine (push_i (l' := [(1, 5), (3, 5)]) (e := 0) H2.out.ql (by decide) (by decide)).mono ?_
  rintro e w3 ⟨rfl, h3⟩
  obtain ⟨F3, h3, _, _⟩ := H2.out.step h3
  have H3 := hid h3
  clear H2 h3
  go_wp2_with fail
  refine (push_i (l' := [(1, 5), (3, 5), (2, 9)]) (e := 0) H3.out.ql (by decide) (by decide)).mono ?_
  rintro e w4 ⟨rfl, h4⟩
  obtain ⟨F4, h4, _, _⟩ := H3.out.step h4
  have H4 := hid h4
  clear H3 h4
  go_wp2_with fail
  refine (push_i (l' := [(1, 5), (3, 5), (2, 9)]) (e := 6) H4.out.ql (by decide) (by decide)).mono ?_
  rintro e w5 ⟨rfl, h5⟩
  obtain ⟨F5, h5, _, _⟩ := H4.out.step h5
  have H5 := hid h5
  clear H4 h5
  go_wp2_with fail
  refine (lpeek_c H5.out.ql).mono ?_
  rintro e w6 ⟨rfl, hb6⟩
  have H6 := hid (H5.out.below hb6)
  clear H5 hb6
  go_wp2_with fail
  have h7 := H6.out.below (w' := w6.alloc (.cells #[.int .i64 1, .int .i64 5] 40)) ((Below.refl _ _).alloc (Nat.le_refl _) _)
  have bx := (heap_alloc w6 (.cells #[.int .i64 1, .int .i64 5] 40)).1
  have nF : ¬ F5 w6.heap.size := fun e => by have := H6.out.ql.qu.lt _ e; omega
  have sz7 : w6.heap.size < (w6.alloc (.cells #[.int .i64 1, .int .i64 5] 40)).heap.size := by simp
  generalize w6.alloc (.cells #[.int .i64 1, .int .i64 5] 40) = w7 at *
  generalize w6.heap.size = B at *
  have H7 := hid h7; have BX := hid bx; have NF := hid nF; have SZ := hid sz7
  clear h7 bx nF sz7 H6
  refine (fix_i (l' := [(2, 0), (1, 5), (3, 5)]) (e := 0) H7.out.ql (by decide) (by decide)).mono ?_
  rintro e w8 ⟨rfl, h8⟩
  obtain ⟨F8, h8, t8, n8⟩ := H7.out.step h8
  have H8 := hid h8; have BX8 := hid ((t8.block B SZ.out NF.out).trans BX.out); have NF8 := hid (show ¬ F8 B from fun e => (n8 B e).elim NF.out (fun e2 => by have := SZ.out; omega)); have SZ8 := hid (Nat.lt_of_lt_of_le SZ.out t8.size)
  clear h8 t8 n8 BX NF SZ H7
  go_wp2_with fail
  refine (lpop_c H8.out.ql).mono ?_
  rintro e w9 ⟨rfl, h9⟩
  obtain ⟨F9, h9, t9, n9⟩ := H8.out.step h9
  have b9 := cells_at ((t9.block B SZ8.out NF8.out).trans BX8.out)
  have x0 : (w9.alloc (.cells #[.int .i64 2, .int .i64 0] 40)).cell? ⟨B, 0, none⟩ = some (.int .i64 1) := kCa b9.1
  have x1 : (w9.alloc (.cells #[.int .i64 2, .int .i64 0] 40)).cell? ⟨B, 1, none⟩ = some (.int .i64 5) := kCa b9.2
  have eqs := fun a b c d W => eq_item a b c d W
  have H9 := hid h9
  clear h9 t9 n9 BX8 NF8 SZ8 H8 b9
  have H10 := hid (H9.out.below (w' := w9.alloc (.cells #[.int .i64 2, .int .i64 0] 40)) ((Below.refl _ _).alloc (Nat.le_refl _) _))
  clear H9
  go_wp2_with (first
    | (go_at_call 12; refine (llen_c H10.out.ql).mono ?_; rintro e w11 ⟨rfl, rfl⟩)
    | (go_at_call 15; first | (with_reducible refine (has_i (id := 3) (b := true) H10.out.ql (by decide)).mono ?_; rintro e w12 ⟨rfl, rfl⟩) | (with_reducible refine (has_i (id := 2) (b := false) H10.out.ql (by decide)).mono ?_; rintro e w13 ⟨rfl, rfl⟩)))
  go_ret
  exact ⟨rfl, H10.out.bel⟩
theorem none_c (id key : Int) (w : World) : Calls Try.prog 6 #[.int .i64 id, .int .i64 key] w fun e w' => e = .returned (.bool true) ∧ Below w.heap.size w w' := by
  go_enter Try.func6, Try.ntmps6
  go_wp2_with fail
  refine (awake_c _).mono ?_
  rintro e w1 ⟨rfl, hb1⟩
  have H1 := hid hb1
  clear hb1
  go_wp2_with fail
  refine (popN_c _).mono ?_
  rintro e w2 ⟨rfl, hb2⟩
  have H2 := hid ((H1.out.trans (hb2.mono H1.out.size)).alloc (H1.out.trans (hb2.mono H1.out.size)).size (.cells #[.int .i64 0, .int .i64 0] 40))
  have bx := cells_at (heap_alloc w2 (.cells #[.int .i64 0, .int .i64 0] 40)).1
  clear H1 hb2
  go_wp2_with fail
  generalize w2.alloc (.cells #[.int .i64 0, .int .i64 0] 40) = w3 at *
  generalize w2.heap.size = B at *
  refine (peekN_c _).mono ?_
  rintro e w4 ⟨rfl, hb4⟩
  have x0 : w4.cell? ⟨B, 0, none⟩ = some (.int .i64 0) := (hb4.cell (World.block_lt_of_cell? w3 _ bx.1)).trans bx.1
  have x1 : w4.cell? ⟨B, 1, none⟩ = some (.int .i64 0) := (hb4.cell (World.block_lt_of_cell? w3 _ bx.2)).trans bx.2
  have H4 := hid (H2.out.trans (hb4.mono H2.out.size))
  have y0 : (w4.alloc (.cells #[.int .i64 0, .int .i64 0] 40)).cell? ⟨B, 0, none⟩ = some (.int .i64 0) := kCa x0
  have y1 : (w4.alloc (.cells #[.int .i64 0, .int .i64 0] 40)).cell? ⟨B, 1, none⟩ = some (.int .i64 0) := kCa x1
  have eqs := fun a b c d W => eq_item a b c d W
  clear H2 hb4 bx x0 x1
  go_wp2_with (first
    | (go_at_call 13; refine (pushN_c _ _ _).mono ?_; rintro e w5 ⟨rfl, rfl⟩)
    | (go_at_call 18; refine (fixN_c _ _ _).mono ?_; rintro e w6 ⟨rfl, rfl⟩)
    | (go_at_call 14; refine (remN_c _ _).mono ?_; rintro e w7 ⟨rfl, rfl⟩)
    | (go_at_call 15; refine (hasN_c _ _).mono ?_; rintro e w8 ⟨rfl, rfl⟩)
    | (go_at_call 12; refine (qlenN_c _).mono ?_; rintro e w9 ⟨rfl, rfl⟩)
    | (go_at_call 11; refine (itemsN_c _).mono ?_; rintro e w10 ⟨rfl, rfl⟩))
  go_ret
  exact ⟨rfl, H4.out.alloc H4.out.size _⟩
end Go.Proofs.Ytacgkgbhleehjaa
