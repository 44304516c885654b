/-
  Walks of the queue's Pop, Peek, Fix, Remove. The queue as a list in order: what its calls answer. The walks of awake and of the statement QueueNone. The layings of slices.SortFunc and slices.Clone at the items of the queue. The walk of the queue's Items: a copy of the row, sorted. Walks of the reference's lists of items: ahead, place, without, with. Walks of the reference's place, without, with.
-/
import Derived.Test.YtacgkgbhleehjaaZ1
import Derived.Shelf.SlGeneric
import Derived.Shelf.SlSortCmp.NoneTotal
import Derived.Shelf.SlicesE.Clone
import Derived.Ground.SlsfProg
import Derived.Ground.SlgnProg
import Derived.Test.YtacgkgbhleehjaaProg
import Derived.Laws.OwnMore
namespace Go.Proofs.Ytacgkgbhleehjaa
open Go.RowKit Go.Sort Go.MapKept

theorem popN_c (w : World) : Calls Try.prog 16 #[.pointer none] w fun e w' => e = .returned (.tuple #[.agg #[.int .i64 0, .int .i64 0], .int .i64 9]) ∧ Below w.heap.size w w' := by
  go_enter Try.func16, Try.ntmps16
  go_wp2_with (go_at_call 12; refine (qlenN_c _).mono ?_; rintro e w2 ⟨rfl, rfl⟩)
  refine bodyPost_ret (v := .tuple #[.agg #[.int .i64 0, .int .i64 0], .int .i64 9]) (by simp [results, Try.results16, go_sem]) rfl ?_
  exact ⟨rfl, (Below.refl _ _).alloc (Nat.le_refl _) _⟩
theorem peekN_c (w : World) : Calls Try.prog 17 #[.pointer none] w fun e w' => e = .returned (.tuple #[.agg #[.int .i64 0, .int .i64 0], .int .i64 9]) ∧ Below w.heap.size w w' := by
  go_enter Try.func17, Try.ntmps17
  go_wp2_with (go_at_call 12; refine (qlenN_c _).mono ?_; rintro e w2 ⟨rfl, rfl⟩)
  refine bodyPost_ret (v := .tuple #[.agg #[.int .i64 0, .int .i64 0], .int .i64 9]) (by simp [results, Try.results17, go_sem]) rfl ?_
  exact ⟨rfl, (Below.refl _ _).alloc (Nat.le_refl _) _⟩
theorem fixN_c (w : World) (id key : Int) : Calls Try.prog 18 #[.pointer none, .int .i64 id, .int .i64 key] w fun e w' => e = .returned (.int .i64 9) ∧ w' = w := by
  go_enter Try.func18, Try.ntmps18
  go_wp2_with (go_at_call 15; refine (hasN_c _ _).mono ?_; rintro e w2 ⟨rfl, rfl⟩)
  go_ret
  exact ⟨rfl, rfl⟩
theorem remN_c (w : World) (id : Int) : Calls Try.prog 14 #[.pointer none, .int .i64 id] w fun e w' => e = .returned (.int .i64 9) ∧ w' = w := by
  go_enter Try.func14, Try.ntmps14
  go_wp2_with (go_at_call 15; refine (hasN_c _ _).mono ?_; rintro e w2 ⟨rfl, rfl⟩)
  go_ret
  exact ⟨rfl, rfl⟩
theorem popE_c {w : World} {q : Nat} {F : Nat → Prop} {A : Int × Int → Prop} (h : Qu w q F 0 A) : Calls Try.prog 16 #[.pointer (some ⟨q, 0, none⟩)] w fun e w' => e = .returned (.tuple #[.agg #[.int .i64 0, .int .i64 0], .int .i64 9]) ∧ Below w.heap.size w w' := by
  have HL := hid (fun (W : World) (hb : Below w.heap.size w W) => qlen_c (h.below hb))
  clear h
  go_enter Try.func16, Try.ntmps16
  go_wp2_with (go_at_call 12; refine (HL.out _ ((Below.refl _ _).alloc (Nat.le_refl _) _)).mono ?_; rintro e w2 ⟨rfl, rfl⟩)
  refine bodyPost_ret (v := .tuple #[.agg #[.int .i64 0, .int .i64 0], .int .i64 9]) (by simp [results, Try.results16, go_sem]) rfl ?_
  exact ⟨rfl, (Below.refl _ _).alloc (Nat.le_refl _) _⟩
theorem peekE_c {w : World} {q : Nat} {F : Nat → Prop} {A : Int × Int → Prop} (h : Qu w q F 0 A) : Calls Try.prog 17 #[.pointer (some ⟨q, 0, none⟩)] w fun e w' => e = .returned (.tuple #[.agg #[.int .i64 0, .int .i64 0], .int .i64 9]) ∧ Below w.heap.size w w' := by
  have HL := hid (fun (W : World) (hb : Below w.heap.size w W) => qlen_c (h.below hb))
  clear h
  go_enter Try.func17, Try.ntmps17
  go_wp2_with (go_at_call 12; refine (HL.out _ ((Below.refl _ _).alloc (Nat.le_refl _) _)).mono ?_; rintro e w2 ⟨rfl, rfl⟩)
  refine bodyPost_ret (v := .tuple #[.agg #[.int .i64 0, .int .i64 0], .int .i64 9]) (by simp [results, Try.results17, go_sem]) rfl ?_
  exact ⟨rfl, (Below.refl _ _).alloc (Nat.le_refl _) _⟩
/-- The first item. -/
def Fst (A : Int × Int → Prop) (x : Int × Int) : Prop := A x ∧ ∀ y, A y → ¬ ahd y x
theorem qpeek_c {w : World} {q n : Nat} {F : Nat → Prop} {A : Int × Int → Prop} (h : Qu w q F (n + 1) A) : Calls Try.prog 17 #[.pointer (some ⟨q, 0, none⟩)] w fun e w' => ∃ x, e = .returned (.tuple #[.agg #[.int .i64 x.1, .int .i64 x.2], .int .i64 0]) ∧ Fst A x ∧ Below w.heap.size w w' := by
  have HL := hid (fun (W : World) (hb : Below w.heap.size w W) => qlen_c (h.below hb))
  rcases h with ⟨_, h1, _⟩ | ⟨g, cap, m, d, h0, h1, h2, h3⟩
  · omega
  have hlim := h0.lim
  have f0 := h0.f0; have a0 := h0.c0 0 (by omega); have a1 := h0.c1 0 (by omega)
  have hf : Fst A (d 0) := ⟨(h2 _).2 ⟨0, by omega, rfl⟩, fun y hy => by obtain ⟨i, hi, rfl⟩ := (h2 y).1 hy; exact h1.first i hi⟩
  have HF := hid hf
  generalize d 0 = x at *
  obtain ⟨x0, x1⟩ := x
  have e1 : ((n : Int) + 1 == 0) = false := by simp; omega
  rw [Nat.zero_mul] at a0 a1
  have c1 : (w.alloc (.cells #[.int .i64 0, .int .i64 0] 40)).cell? ⟨q, 0, none⟩ = some (.slice (some ⟨g, 0, none⟩) (n + 1) cap) := kCa f0
  have c2 : (w.alloc (.cells #[.int .i64 0, .int .i64 0] 40)).cell? ⟨g, 0, none⟩ = some (.int .i64 x0) := kCa a0
  have c3 : (w.alloc (.cells #[.int .i64 0, .int .i64 0] 40)).cell? ⟨g, 1, none⟩ = some (.int .i64 x1) := kCa a1
  have hp : (0 : Int) < (n : Int) + 1 := by omega
  clear hf h0 h1 h2 h3
  go_enter Try.func17, Try.ntmps17
  go_wp2_with (go_at_call 12; refine (HL.out _ ((Below.refl _ _).alloc (Nat.le_refl _) _)).mono ?_; rintro e w2 ⟨rfl, rfl⟩)
  refine bodyPost_ret (v := .tuple #[.agg #[.int .i64 x0, .int .i64 x1], .int .i64 0]) (by simp [results, Try.results17, go_sem]) rfl ?_
  exact ⟨(x0, x1), rfl, HF.out, (Below.refl _ _).alloc (Nat.le_refl _) _⟩
theorem tn_set {F : Nat → Prop} {w w' : World} (h : Tn F w w') {a : Addr} {v : Value} (ha : w.heap.size ≤ a.block) : Tn F w (w'.setCell a v) :=
  ⟨h.os, h.tape, h.output, by simp [World.setCell]; exact h.size, fun k hk hf => (Below.heap_setCell _ _ _ _ (by omega)).trans (h.block k hk hf)⟩
theorem qpop_c {w : World} {q n : Nat} {F : Nat → Prop} {A : Int × Int → Prop} (h : Qu w q F (n + 1) A) : Calls Try.prog 16 #[.pointer (some ⟨q, 0, none⟩)] w fun e w' => ∃ x, e = .returned (.tuple #[.agg #[.int .i64 x.1, .int .i64 x.2], .int .i64 0]) ∧ Fst A x ∧ QuA w q F n (fun y => A y ∧ y ≠ x) w' := by
  have HL := hid (fun (W : World) (hb : Below w.heap.size w W) => qlen_c (h.below hb))
  rcases h with ⟨_, h1, _⟩ | ⟨g, cap, m, d, h0, h1, h2, h3⟩
  · omega
  have hlim := h0.lim; have hlt := h0.lt
  have hf : Fst A (d 0) := ⟨(h2 _).2 ⟨0, by omega, rfl⟩, fun y hy => by obtain ⟨i, hi, rfl⟩ := (h2 y).1 hy; exact h1.first i hi⟩
  have HF := hid hf
  have hB1 : Below w.heap.size w (w.alloc (.cells #[.int .i64 0, .int .i64 0] 40)) := (Below.refl _ _).alloc (Nat.le_refl _) _
  have HP := hid (hpop_c (h0.below hB1) h1)
  have hbx := (heap_alloc w (.cells #[.int .i64 0, .int .i64 0] 40)).1
  have hsz : (w.alloc (.cells #[.int .i64 0, .int .i64 0] 40)).heap.size = w.heap.size + 1 := by simp
  have HA := hid (fun (d' : Nat → Int × Int) (hd : ∀ x, (∃ k, k < n ∧ d' k = x) ↔ ∃ k, k < n + 1 ∧ k ≠ 0 ∧ d k = x) (x : Int × Int) => show (A x ∧ x ≠ d 0) ↔ ∃ i, i < n ∧ d' i = x from by
    rw [hd x, h2 x]
    constructor
    · rintro ⟨⟨i, hi, e⟩, hne⟩
      exact ⟨i, hi, fun e0 => hne (by subst e0; exact e.symm), e⟩
    · rintro ⟨i, hi, hne, e⟩
      exact ⟨⟨i, hi, e⟩, fun e2 => hne (h0.inj i 0 hi (by omega) (by rw [e, e2]))⟩)
  have H3 := hid h3
  have e1 : ((n : Int) + 1 == 0) = false := by simp; omega
  clear hf h0 h1 h2 h3
  generalize hd0 : d 0 = x at *
  obtain ⟨x0, x1⟩ := x
  have ta : ∀ W, (Instr.typeAssert (.iface 40 (.agg #[.int .i64 x0, .int .i64 x1])) 20 40 false).run Try.prog W = .ok (.agg #[.int .i64 x0, .int .i64 x1]) W := fun W => by kernel_rfl
  have HL1 := hid (HL.out _ hB1); have HB1 := hid hB1
  clear HL hB1
  go_enter Try.func16, Try.ntmps16
  go_wp2_with fail
  generalize w.alloc (.cells #[.int .i64 0, .int .i64 0] 40) = wB at *
  refine HL1.out.mono ?_
  rintro e w2 ⟨rfl, rfl⟩
  go_wp2_with fail
  refine HP.out.mono ?_
  rintro e w4 ⟨rfl, d', hq4, hh4, hm4, ht4⟩
  rw [hd0]
  have hx4 : w4.heap[w.heap.size]? = some (.cells #[.int .i64 0, .int .i64 0] 40 (0, 0)) := (ht4.block _ (by omega) (by rintro (e | e | e) <;> omega)).trans hbx
  have k0 := (cells_at hx4).1; have k1 := (cells_at hx4).2
  have z0 := free_at (o := 0) hx4; have z1 := free_at (o := 1) hx4
  have r1 : ((w4.setCell ⟨w.heap.size, 0, none⟩ (.int .i64 x0)).setCell ⟨w.heap.size, 1, none⟩ (.int .i64 x1)).cell? ⟨w.heap.size, 1, none⟩ = some (.int .i64 x1) := World.cell?_setCell_same _ _ _ (by rw [World.cell?_setCell_other _ _ _ _ (by simp)]; exact k1)
  have r0 : ((w4.setCell ⟨w.heap.size, 0, none⟩ (.int .i64 x0)).setCell ⟨w.heap.size, 1, none⟩ (.int .i64 x1)).cell? ⟨w.heap.size, 0, none⟩ = some (.int .i64 x0) := by rw [World.cell?_setCell_other _ _ _ _ (by simp)]; exact World.cell?_setCell_same _ _ _ k0
  have HQ4 := hid hq4; have HH4 := hid hh4; have HM4 := hid hm4; have HT4 := hid ht4
  clear hq4 hh4 hm4 ht4 hx4 hbx hsz
  go_wp2
  refine bodyPost_ret (v := .tuple #[.agg #[.int .i64 x0, .int .i64 x1], .int .i64 0]) (by simp [results, Try.results16, go_sem, r0, r1]) rfl ?_
  have hT : Tn F w ((w4.setCell ⟨w.heap.size, 0, none⟩ (.int .i64 x0)).setCell ⟨w.heap.size, 1, none⟩ (.int .i64 x1)) := tn_set (tn_set ((Tn.of_below HB1.out).comp HT4.out (fun k hk => .inl ((H3.out k).2 hk))) (Nat.le_refl _)) (Nat.le_refl _)
  have hlt4 := hlt
  refine ⟨(x0, x1), rfl, HF.out, _, .inr ⟨g, cap, m, d', HQ4.out.of ?_ ?_ ?_, HH4.out, fun x => HA.out d' HM4.out x, fun k => .rfl⟩, hT, fun k hk => .inl ((H3.out k).2 hk)⟩
  · exact (Below.heap_setCell _ _ _ _ (by simp; omega)).trans (Below.heap_setCell _ _ _ _ (by simp; omega))
  · exact (Below.heap_setCell _ _ _ _ (by simp; omega)).trans (Below.heap_setCell _ _ _ _ (by simp; omega))
  · exact (Below.heap_setCell _ _ _ _ (by simp; omega)).trans (Below.heap_setCell _ _ _ _ (by simp; omega))
theorem fixE_c {w : World} {q n : Nat} {F : Nat → Prop} {A : Int × Int → Prop} (h : Qu w q F n A) (id key : Int) (hb : ¬ ∃ key, A (id, key)) :
    Calls Try.prog 18 #[.pointer (some ⟨q, 0, none⟩), .int .i64 id, .int .i64 key] w fun e w' => e = .returned (.int .i64 9) ∧ w' = w := by
  have HC := hid (has_c h id false ⟨fun e => (by cases e), fun e => absurd e hb⟩)
  clear h hb
  go_enter Try.func18, Try.ntmps18
  go_wp2_with (go_at_call 15; refine HC.out.mono ?_; rintro e w2 ⟨rfl, rfl⟩)
  go_ret
  exact ⟨rfl, rfl⟩
theorem remE_c {w : World} {q n : Nat} {F : Nat → Prop} {A : Int × Int → Prop} (h : Qu w q F n A) (id : Int) (hb : ¬ ∃ key, A (id, key)) :
    Calls Try.prog 14 #[.pointer (some ⟨q, 0, none⟩), .int .i64 id] w fun e w' => e = .returned (.int .i64 9) ∧ w' = w := by
  have HC := hid (has_c h id false ⟨fun e => (by cases e), fun e => absurd e hb⟩)
  clear h hb
  go_enter Try.func14, Try.ntmps14
  go_wp2_with (go_at_call 15; refine HC.out.mono ?_; rintro e w2 ⟨rfl, rfl⟩)
  go_ret
  exact ⟨rfl, rfl⟩
theorem Qi.key {w q g cap m n d} (h : Qi w q g cap m n d) {i : Nat} (hi : i < n) (key : Int) : Qi (w.setCell ⟨g, i * 2 + 1, none⟩ (.int .i64 key)) q g cap m n (upf d i ((d i).1, key)) := by
  have hs : ∀ k, k ≠ g → (w.setCell ⟨g, i * 2 + 1, none⟩ (.int .i64 key)).heap[k]? = w.heap[k]? := fun k hk => Below.heap_setCell _ _ _ _ hk
  have h1 : ∀ k, (upf d i ((d i).1, key) k).1 = (d k).1 := fun k => by
    by_cases e : k = i
    · subst e; rw [upf_at]
    · rw [upf_ne e]
  refine ⟨(hs q h.qg).trans h.st, ⟨set_blk h.ro.blk, fun k hk => ?_, fun k hk => ?_⟩, h.le, h.top, h.lim, (h.mp.of (hs m h.gm.symm)).congr (fun a b => ?_), fun a b ha hb e => h.inj a b ha hb (by rw [← h1 a, ← h1 b]; exact e)⟩
  · rw [World.cell?_setCell_other _ _ _ _ (by simp <;> omega), h1]; exact h.c0 k hk
  · by_cases e : k = i
    · subst e; rw [upf_at]; exact World.cell?_setCell_same _ _ _ (h.c1 k hk)
    · rw [upf_ne e, World.cell?_setCell_other _ _ _ _ (by simp <;> omega)]; exact h.c1 k hk
  · constructor
    · rintro ⟨k, hk, e1, e2⟩; exact ⟨k, hk, by rw [← h1]; exact e1, e2⟩
    · rintro ⟨k, hk, e1, e2⟩; exact ⟨k, hk, by rw [h1]; exact e1, e2⟩
theorem qfix_c {w : World} {q n : Nat} {F : Nat → Prop} {A : Int × Int → Prop} (h : Qu w q F n A) (id key : Int) (hb : ∃ key, A (id, key)) :
    Calls Try.prog 18 #[.pointer (some ⟨q, 0, none⟩), .int .i64 id, .int .i64 key] w fun e w' => e = .returned (.int .i64 0) ∧ QuA w q F n (fun x => (A x ∧ x.1 ≠ id) ∨ x = (id, key)) w' := by
  have HC := hid (has_c h id true ⟨fun _ => hb, fun _ => rfl⟩)
  rcases h with ⟨_, _, h2, _⟩ | ⟨g, cap, m, d, h0, h1, h2, h3⟩
  · obtain ⟨key, hk⟩ := hb; exact absurd hk (h2 _)
  obtain ⟨key0, hk0⟩ := hb
  obtain ⟨i, hi, he⟩ := (h2 _).1 hk0
  have hlim := h0.lim
  have f0 := h0.f0; have f1 := h0.f1
  have c1 := h0.c1 i hi; have z1 := h0.fr (i * 2 + 1)
  have hl := h0.mp.look (P := Try.prog) (t := 46) Try.underlying46 Try.underlying3 (k := id) (v := i) ⟨i, hi, by rw [he], rfl⟩ false
  simp only [Bool.false_eq_true, if_false] at hl
  have hi' : (i : Int) < n := by omega
  have HX := hid (hfix_c (h0.key hi key) hi (hdn_put h1))
  have e1 : (d i).1 = id := by rw [he]
  have HA := hid (fun (d' : Nat → Int × Int) (hm : Mv n (upf d i ((d i).1, key)) d') (x : Int × Int) => show ((A x ∧ x.1 ≠ id) ∨ x = (id, key)) ↔ ∃ k, k < n ∧ d' k = x from by
    rw [hm.mem x]
    constructor
    · rintro (⟨hx, hne⟩ | rfl)
      · obtain ⟨k, hk, e⟩ := (h2 x).1 hx
        refine ⟨k, hk, ?_⟩
        rw [upf_ne (fun e3 => hne (by rw [← e, e3, e1]))]
        exact e
      · exact ⟨i, hi, by rw [upf_at, e1]⟩
    · rintro ⟨k, hk, e⟩
      by_cases e3 : k = i
      · subst e3; rw [upf_at, e1] at e; exact .inr e.symm
      · rw [upf_ne e3] at e
        refine .inl ⟨(h2 x).2 ⟨k, hk, e⟩, fun e4 => e3 (h0.inj k i hk hi (by rw [e, e4, e1]))⟩)
  have H3 := hid h3
  have HS := hid (show One g w (w.setCell ⟨g, i * 2 + 1, none⟩ (.int .i64 key)) from ⟨rfl, rfl, rfl, by simp [World.setCell], fun k hk => Below.heap_setCell _ _ _ _ hk⟩)
  clear h0 h1 h2 h3 he hk0
  go_enter Try.func18, Try.ntmps18
  go_wp2_with (first
    | (go_at_call 15; refine HC.out.mono ?_; rintro e w2 ⟨rfl, rfl⟩)
    | (go_at_call 31; refine HX.out.mono ?_; rintro e w3 ⟨rfl, d', hq3, hh3, hm3, ht3⟩))
  go_ret
  have ho := HS.out
  refine ⟨rfl, _, .inr ⟨g, cap, m, d', hq3, hh3, fun x => HA.out d' hm3 x, fun k => .rfl⟩, ?_, fun k hk => .inl ((H3.out k).2 hk)⟩
  refine Tn.comp (G := fun k => k = g ∨ k = m) (w1 := _) ⟨ho.os, ho.tape, ho.output, by rw [ho.size]; exact Nat.le_refl _, fun k hk hf => ho.block k (fun e => hf ((H3.out k).2 (.inr (.inl e))))⟩ ht3 (fun k hk => .inl ((H3.out k).2 (.inr hk)))
set_option maxRecDepth 100000 in
set_option maxHeartbeats 4000000 in
theorem qrem_c {w : World} {q n : Nat} {F : Nat → Prop} {A : Int × Int → Prop} (h : Qu w q F (n + 1) A) (id : Int) (hb : ∃ key, A (id, key)) :
    Calls Try.prog 14 #[.pointer (some ⟨q, 0, none⟩), .int .i64 id] w fun e w' => e = .returned (.int .i64 0) ∧ QuA w q F n (fun x => A x ∧ x.1 ≠ id) w' := by
  have HC := hid (has_c h id true ⟨fun _ => hb, fun _ => rfl⟩)
  rcases h with ⟨_, _, h2, _⟩ | ⟨g, cap, m, d, h0, h1, h2, h3⟩
  · obtain ⟨key, hk⟩ := hb; exact absurd hk (h2 _)
  obtain ⟨key0, hk0⟩ := hb
  obtain ⟨i, hi, he⟩ := (h2 _).1 hk0
  have hlim := h0.lim
  have hd : Qi w.drew q g cap m (n + 1) d := h0.of rfl rfl rfl
  have f1 := hd.f1
  have hl := hd.mp.look (P := Try.prog) (t := 46) Try.underlying46 Try.underlying3 (k := id) (v := i) ⟨i, hi, by rw [he], rfl⟩ false
  simp only [Bool.false_eq_true, if_false] at hl
  have HR := hid (hrem_c hd h1 hi)
  have e1 : (d i).1 = id := by rw [he]
  have HA := hid (fun (d' : Nat → Int × Int) (hm : ∀ x, (∃ k, k < n ∧ d' k = x) ↔ ∃ k, k < n + 1 ∧ k ≠ i ∧ d k = x) (x : Int × Int) => show (A x ∧ x.1 ≠ id) ↔ ∃ k, k < n ∧ d' k = x from by
    rw [hm x, h2 x]
    constructor
    · rintro ⟨⟨k, hk, e⟩, hne⟩
      exact ⟨k, hk, fun e3 => hne (by rw [← e, e3, e1]), e⟩
    · rintro ⟨k, hk, hne, e⟩
      exact ⟨⟨k, hk, e⟩, fun e4 => hne (h0.inj k i hk hi (by rw [e, e4, e1]))⟩)
  have H3 := hid h3
  clear h0 h1 h2 h3 he hk0 hd
  go_enter Try.func14, Try.ntmps14
  go_wp2_with (first
    | (go_at_call 15; refine HC.out.mono ?_; rintro e w2 ⟨rfl, rfl⟩))
  refine wp_region_held_drew (S := fun _ => True) (by kernel_rfl) trivial (fun hHeld => ?_)
  refine wpAnyH_take (i := 0) (v := ?_) rfl (by kernel_rfl) (by kernel_rfl) (by kernel_rfl) (fun _ _ _ h => h) (Or.inl ⟨by rfl, ?_⟩) (by assumption) ?_
  rotate_left
  (focus (intro w0 hSw; (try dsimp only at hSw); go_simp <;> with_reducible rfl))
  simp only [List.getElem_toArray, List.getElem_cons_zero, Act.put, List.setIfInBounds_toArray, List.set_cons_zero, List.set_cons_succ]
  refine wpAnyH_take (i := 1) (v := ?_) rfl (by kernel_rfl) (by kernel_rfl) (by kernel_rfl) (fun _ _ _ h => h) (Or.inl ⟨by rfl, ?_⟩) (by assumption) ?_
  rotate_left
  (focus (intro w0 hSw; (try dsimp only at hSw); go_simp <;> with_reducible rfl))
  simp only [List.getElem_toArray, List.getElem_cons_succ, List.getElem_cons_zero, Act.put, List.setIfInBounds_toArray, List.set_cons_zero, List.set_cons_succ]
  refine wpAnyH_take (i := 2) (v := ?_) rfl (by kernel_rfl) (by kernel_rfl) (by kernel_rfl) (fun _ _ _ h => h) (Or.inl ⟨by rfl, ?_⟩) (by assumption) ?_
  rotate_left
  (focus (intro w0 hSw; (try dsimp only at hSw); go_simp <;> with_reducible rfl))
  simp only [List.getElem_toArray, List.getElem_cons_succ, List.getElem_cons_zero, Act.put, List.setIfInBounds_toArray, List.set_cons_zero, List.set_cons_succ]
  refine wpAnyH_take (i := 3) (v := ?_) rfl (by kernel_rfl) (by kernel_rfl) (by kernel_rfl) (fun _ _ _ h => h) (Or.inl ⟨by rfl, ?_⟩) (by assumption) ?_
  rotate_left
  (focus (intro w0 hSw; (try dsimp only at hSw); go_simp <;> with_reducible rfl))
  simp only [List.getElem_toArray, List.getElem_cons_succ, List.getElem_cons_zero, Act.put, List.setIfInBounds_toArray, List.set_cons_zero, List.set_cons_succ]
  refine wpAnyH_take (i := 4) (v := ?_) rfl (by kernel_rfl) (by kernel_rfl) (by kernel_rfl) (fun _ _ _ h => h) (Or.inl ⟨by rfl, ?_⟩) (by assumption) ?_
  rotate_left
  (focus (intro w0 hSw; (try dsimp only at hSw); go_simp <;> with_reducible rfl))
  simp only [List.getElem_toArray, List.getElem_cons_succ, List.getElem_cons_zero, Act.put, List.setIfInBounds_toArray, List.set_cons_zero, List.set_cons_succ]
  refine wpAnyH_take (i := 5) (v := ?_) rfl (by kernel_rfl) (by kernel_rfl) (by kernel_rfl) (fun _ _ _ h => h) (Or.inl ⟨by rfl, ?_⟩) (by assumption) ?_
  rotate_left
  (focus (intro w0 hSw; (try dsimp only at hSw); go_simp <;> with_reducible rfl))
  simp only [List.getElem_toArray, List.getElem_cons_succ, List.getElem_cons_zero, Act.put, List.setIfInBounds_toArray, List.set_cons_zero, List.set_cons_succ]
  refine wpAnyH_take (i := 6) (v := ?_) rfl (by kernel_rfl) (by kernel_rfl) (by kernel_rfl) (fun _ _ _ h => h) (Or.inl ⟨by rfl, ?_⟩) (by assumption) ?_
  rotate_left
  (focus (intro w0 hSw; (try dsimp only at hSw); go_simp <;> with_reducible rfl))
  simp only [List.getElem_toArray, List.getElem_cons_succ, List.getElem_cons_zero, Act.put, List.setIfInBounds_toArray, List.set_cons_zero, List.set_cons_succ]
  refine wpAnyH_take (i := 7) (v := ?_) rfl (by kernel_rfl) (by kernel_rfl) (by kernel_rfl) (fun _ _ _ h => h) (Or.inl ⟨by rfl, ?_⟩) (by assumption) ?_
  rotate_left
  (focus (intro w0 hSw; (try dsimp only at hSw); go_simp <;> with_reducible rfl))
  simp only [List.getElem_toArray, List.getElem_cons_succ, List.getElem_cons_zero, Act.put, List.setIfInBounds_toArray, List.set_cons_zero, List.set_cons_succ]
  refine wpAnyH_take (i := 9) (v := ?_) rfl (by kernel_rfl) (by kernel_rfl) (by kernel_rfl) (fun _ _ _ h => h) (Or.inl ⟨by rfl, ?_⟩) (by assumption) ?_
  rotate_left
  (focus (intro w0 hSw; (try dsimp only at hSw); go_simp <;> with_reducible rfl))
  simp only [List.getElem_toArray, List.getElem_cons_succ, List.getElem_cons_zero, Act.put, List.setIfInBounds_toArray, List.set_cons_zero, List.set_cons_succ]
  refine wpAnyH_ready (rs := [8]) (by kernel_rfl) (by simp) ?_
  refine AllReadyH.cons (o := _) rfl (fun K hK => ?_) ?_
  rotate_left
  exact AllReadyH.nil
  go_simp
  refine hK.out _ _ trivial (fun hH1 => ?_)
  clear hK K
  try simp only [Act.put, List.setIfInBounds_toArray, List.set_cons_zero, List.set_cons_succ]
  refine wpAnyH_ready (rs := [10]) (by kernel_rfl) (by simp) ?_
  refine AllReadyH.cons (o := _) rfl (fun K hK => ?_) ?_
  rotate_left
  exact AllReadyH.nil
  go_simp
  refine hK.out _ _ trivial (fun hH2 => ?_)
  clear hK K
  try simp only [Act.put, List.setIfInBounds_toArray, List.set_cons_zero, List.set_cons_succ]
  refine wpAnyH_ready (rs := [11]) (by kernel_rfl) (by simp) ?_
  refine AllReadyH.cons (o := _) rfl (fun K hK => ?_) ?_
  rotate_left
  exact AllReadyH.nil
  go_simp
  refine HR.out.mono ?_
  rintro e w4 ⟨⟨v, rfl⟩, hq4⟩
  refine hK.out _ _ trivial (fun hH3 => ?_)
  clear hK K
  refine wpAnyH_done (by kernel_rfl) ?_ _
  go_wp2
  go_ret
  obtain ⟨d', hq5, hh5, hm5, ht5⟩ := hq4
  exact ⟨rfl, _, .inr ⟨g, cap, m, d', hq5, hh5, fun x => HA.out d' hm5 x, fun k => .rfl⟩, ⟨ht5.os, ht5.tape, ht5.output, ht5.size, fun k hk hf => ht5.block k hk (fun e => hf ((H3.out k).2 e))⟩, fun k hk => .inl ((H3.out k).2 hk)⟩
end Go.Proofs.Ytacgkgbhleehjaa
namespace Go.Proofs.Ytacgkgbhleehjaa
open Go.RowKit Go.Sort

/-- The queue holds the items of l, which stand in order. -/
structure Ql (w : World) (q : Nat) (F : Nat → Prop) (l : List (Int × Int)) : Prop where
  qu : Qu w q F l.length (fun x => x ∈ l)
  ord : l.Pairwise ahd
/-- The queue behind a call. -/
def QlA (w : World) (q : Nat) (F : Nat → Prop) (l' : List (Int × Int)) (w' : World) : Prop :=
  ∃ F', Ql w' q F' l' ∧ Tn F w w' ∧ ∀ k, F' k → F k ∨ w.heap.size ≤ k
def ahB (x p : Int × Int) : Bool := decide (ahd x p)
def insL (l : List (Int × Int)) (p : Int × Int) : List (Int × Int) := l.takeWhile (ahB · p) ++ p :: l.dropWhile (ahB · p)
def delL (l : List (Int × Int)) (id : Int) : List (Int × Int) := l.filter (fun x => decide (x.1 ≠ id))
def hasL (l : List (Int × Int)) (id : Int) : Bool := l.any (fun x => x.1 == id)
theorem hasL_iff {l : List (Int × Int)} {id : Int} : hasL l id = true ↔ ∃ key, (id, key) ∈ l := by
  unfold hasL
  simp only [List.any_eq_true, beq_iff_eq]
  exact ⟨fun ⟨x, hx, e⟩ => ⟨x.2, by rw [← e]; exact hx⟩, fun ⟨k, hk⟩ => ⟨_, hk, rfl⟩⟩
theorem hasL_not {l : List (Int × Int)} {id : Int} (h : hasL l id = false) : ¬ ∃ key, (id, key) ∈ l := fun e => by rw [hasL_iff.2 e] at h; cases h
theorem tw_dw (l : List (Int × Int)) (p : Int × Int) : l.takeWhile (ahB · p) ++ l.dropWhile (ahB · p) = l := List.takeWhile_append_dropWhile
theorem mem_insL {l : List (Int × Int)} {p x : Int × Int} : x ∈ insL l p ↔ x ∈ l ∨ x = p := by
  unfold insL
  have h : x ∈ l ↔ x ∈ l.takeWhile (ahB · p) ∨ x ∈ l.dropWhile (ahB · p) := by rw [← List.mem_append, tw_dw]
  rw [h]
  simp only [List.mem_append, List.mem_cons]
  constructor
  · rintro (h | h | h)
    · exact .inl (.inl h)
    · exact .inr h
    · exact .inl (.inr h)
  · rintro ((h | h) | h)
    · exact .inl h
    · exact .inr (.inr h)
    · exact .inr (.inl h)
theorem len_insL (l : List (Int × Int)) (p : Int × Int) : (insL l p).length = l.length + 1 := by
  have h := congrArg List.length (tw_dw l p)
  unfold insL
  simp only [List.length_append, List.length_cons] at h ⊢
  omega
theorem ord_insL {l : List (Int × Int)} {p : Int × Int} (h : l.Pairwise ahd) (hp : ∀ x ∈ l, x ≠ p) : (insL l p).Pairwise ahd := by
  induction l with
  | nil => simp [insL]
  | cons a r ih =>
    obtain ⟨h1, h2⟩ := List.pairwise_cons.1 h
    by_cases ha : ahd a p
    · have e : insL (a :: r) p = a :: insL r p := by simp [insL, ahB, ha]
      rw [e]
      refine List.pairwise_cons.2 ⟨fun x hx => ?_, ih h2 (fun x hx => hp x (List.mem_cons_of_mem _ hx))⟩
      rcases mem_insL.1 hx with hx | rfl
      · exact h1 x hx
      · exact ha
    · have e : insL (a :: r) p = p :: a :: r := by simp [insL, ahB, ha]
      rw [e]
      refine List.pairwise_cons.2 ⟨fun x hx => ?_, h⟩
      have hpa : ahd p a := (ahd_tri ha).resolve_left (hp a (List.mem_cons_self ..))
      rcases List.mem_cons.1 hx with rfl | hx
      · exact hpa
      · exact ahd_trans hpa (h1 x hx)
theorem mem_delL {l : List (Int × Int)} {id : Int} {x : Int × Int} : x ∈ delL l id ↔ x ∈ l ∧ x.1 ≠ id := by
  unfold delL; simp
theorem ord_delL {l : List (Int × Int)} (id : Int) (h : l.Pairwise ahd) : (delL l id).Pairwise ahd := h.filter _
theorem Ql.uniq {w q F l} (h : Ql w q F l) {x y : Int × Int} (hx : x ∈ l) (hy : y ∈ l) (e : x.1 = y.1) : x = y := h.qu.uniq hx hy e
/-- Where an item stands. -/
theorem Ql.split {w q F l} (h : Ql w q F l) {x : Int × Int} (hx : x ∈ l) : ∃ s t, l = s ++ x :: t ∧ (∀ y ∈ s, y.1 ≠ x.1) ∧ (∀ y ∈ t, y.1 ≠ x.1) ∧ delL l x.1 = s ++ t := by
  obtain ⟨s, t, rfl⟩ := List.append_of_mem hx
  have ho := h.ord
  rw [List.pairwise_append] at ho
  obtain ⟨h1, h2, h3⟩ := ho
  obtain ⟨h4, h5⟩ := List.pairwise_cons.1 h2
  have hs : ∀ y ∈ s, y.1 ≠ x.1 := fun y hy e => by
    have := h.uniq (x := y) (y := x) (by simp [hy]) (by simp) e
    subst this
    exact ahd_irrefl _ (h3 y hy y (by simp))
  have ht : ∀ y ∈ t, y.1 ≠ x.1 := fun y hy e => by
    have := h.uniq (x := y) (y := x) (by simp [hy]) (by simp) e
    subst this
    exact ahd_irrefl _ (h4 y hy)
  refine ⟨s, t, rfl, hs, ht, ?_⟩
  unfold delL
  rw [List.filter_append, List.filter_cons]
  simp only [ne_eq, not_true_eq_false, decide_false, Bool.false_eq_true, if_false]
  rw [List.filter_eq_self.2 (fun y hy => by simpa using hs y hy), List.filter_eq_self.2 (fun y hy => by simpa using ht y hy)]
theorem Ql.len_del {w q F l} (h : Ql w q F l) {id : Int} (hx : ∃ key, (id, key) ∈ l) : (delL l id).length + 1 = l.length := by
  obtain ⟨key, hk⟩ := hx
  obtain ⟨s, t, e, _, _, e2⟩ := h.split hk
  rw [show (id, key).1 = id from rfl] at e2
  rw [e2, e]; simp; omega
theorem Ql.below {w w' q F l} (h : Ql w q F l) (hb : Below w.heap.size w w') : Ql w' q F l := ⟨h.qu.below hb, h.ord⟩
theorem Ql.of {w w' q F l} (h : Ql w q F l) (hb : ∀ k, F k → w'.heap[k]? = w.heap[k]?) : Ql w' q F l := ⟨h.qu.of hb, h.ord⟩
theorem ql_new (w : World) : Ql (w.alloc (.cells #[.slice none 0 0, .map none] 50)) w.heap.size (fun k => k = w.heap.size) [] := ⟨(qu_new w).congr (fun x => by simp), .nil⟩
variable {w : World} {q : Nat} {F : Nat → Prop} {l : List (Int × Int)}
theorem llen_c (h : Ql w q F l) : Calls Try.prog 12 #[.pointer (some ⟨q, 0, none⟩)] w fun e w' => e = .returned (.int .i64 l.length) ∧ w' = w := qlen_c h.qu
theorem lhas_c (h : Ql w q F l) (id : Int) : Calls Try.prog 15 #[.pointer (some ⟨q, 0, none⟩), .int .i64 id] w fun e w' => e = .returned (.bool (hasL l id)) ∧ w' = w := has_c h.qu id _ hasL_iff
/-- What Push answers. -/
def pushE (l : List (Int × Int)) (id : Int) : Int := if hasL l id then 6 else if 4096 ≤ l.length then 10 else 0
def pushL (l : List (Int × Int)) (id key : Int) : List (Int × Int) := if hasL l id then l else if 4096 ≤ l.length then l else insL l (id, key)
theorem qla_same (h : Ql w q F l) : QlA w q F l w := ⟨F, h, Tn.refl _ _, fun _ hk => .inl hk⟩
theorem lpush_c (h : Ql w q F l) (id key : Int) : Calls Try.prog 13 #[.pointer (some ⟨q, 0, none⟩), .int .i64 id, .int .i64 key] w fun e w' => e = .returned (.int .i64 (pushE l id)) ∧ QlA w q F (pushL l id key) w' := by
  by_cases h1 : hasL l id = true
  · rw [show pushE l id = 6 by simp [pushE, h1], show pushL l id key = l by simp [pushL, h1]]
    refine (pushE_c h.qu id key (hasL_iff.1 h1)).mono ?_
    rintro e w' ⟨rfl, rfl⟩
    exact ⟨rfl, qla_same h⟩
  · have h1' : hasL l id = false := by simpa using h1
    have hn := hasL_not h1'
    by_cases h2 : 4096 ≤ l.length
    · rw [show pushE l id = 10 by simp [pushE, h1', h2], show pushL l id key = l by simp [pushL, h1', h2]]
      refine (pushF_c h.qu id key hn h2).mono ?_
      rintro e w' ⟨rfl, rfl⟩
      exact ⟨rfl, qla_same h⟩
    · rw [show pushE l id = 0 by simp [pushE, h1', h2], show pushL l id key = insL l (id, key) by simp [pushL, h1', h2]]
      refine (qpush_c h.qu id key hn (by omega)).mono ?_
      rintro e w' ⟨rfl, F', hq, ht, hF⟩
      refine ⟨rfl, F', ⟨?_, ord_insL h.ord (fun x hx e => hn ⟨key, e ▸ hx⟩)⟩, ht, hF⟩
      rw [len_insL]
      exact hq.congr (fun x => mem_insL)
theorem fst_head {x : Int × Int} {a : Int × Int} {r : List (Int × Int)} (ho : (a :: r).Pairwise ahd) (h : Fst (fun y => y ∈ a :: r) x) : x = a := by
  obtain ⟨h1, h2⟩ := h
  rcases List.mem_cons.1 h1 with rfl | h1
  · rfl
  · exact absurd ((List.pairwise_cons.1 ho).1 x h1) (h2 a (List.mem_cons_self ..))
theorem lpeek_c {a : Int × Int} {r : List (Int × Int)} (h : Ql w q F (a :: r)) : Calls Try.prog 17 #[.pointer (some ⟨q, 0, none⟩)] w fun e w' => e = .returned (.tuple #[.agg #[.int .i64 a.1, .int .i64 a.2], .int .i64 0]) ∧ Below w.heap.size w w' := by
  refine (qpeek_c (n := r.length) h.qu).mono ?_
  rintro e w' ⟨x, rfl, hx, hb⟩
  rw [fst_head h.ord hx]
  exact ⟨rfl, hb⟩
theorem lpeek0_c (h : Ql w q F []) : Calls Try.prog 17 #[.pointer (some ⟨q, 0, none⟩)] w fun e w' => e = .returned (.tuple #[.agg #[.int .i64 0, .int .i64 0], .int .i64 9]) ∧ Below w.heap.size w w' := peekE_c h.qu
theorem lpop0_c (h : Ql w q F []) : Calls Try.prog 16 #[.pointer (some ⟨q, 0, none⟩)] w fun e w' => e = .returned (.tuple #[.agg #[.int .i64 0, .int .i64 0], .int .i64 9]) ∧ Below w.heap.size w w' := popE_c h.qu
theorem lpop_c {a : Int × Int} {r : List (Int × Int)} (h : Ql w q F (a :: r)) : Calls Try.prog 16 #[.pointer (some ⟨q, 0, none⟩)] w fun e w' => e = .returned (.tuple #[.agg #[.int .i64 a.1, .int .i64 a.2], .int .i64 0]) ∧ QlA w q F r w' := by
  refine (qpop_c (n := r.length) h.qu).mono ?_
  rintro e w' ⟨x, rfl, hx, F', hq, ht, hF⟩
  have e := fst_head h.ord hx
  subst e
  obtain ⟨h1, h2⟩ := List.pairwise_cons.1 h.ord
  refine ⟨rfl, F', ⟨hq.congr (fun y => ?_), h2⟩, ht, hF⟩
  constructor
  · intro hy
    exact ⟨List.mem_cons_of_mem _ hy, fun e => ahd_irrefl _ (by have := h1 y hy; rw [e] at this; exact this)⟩
  · rintro ⟨hy, hne⟩
    exact (List.mem_cons.1 hy).resolve_left hne
def fixE (l : List (Int × Int)) (id : Int) : Int := if hasL l id then 0 else 9
def fixL (l : List (Int × Int)) (id key : Int) : List (Int × Int) := if hasL l id then insL (delL l id) (id, key) else l
def remL (l : List (Int × Int)) (id : Int) : List (Int × Int) := if hasL l id then delL l id else l
theorem lfix_c (h : Ql w q F l) (id key : Int) : Calls Try.prog 18 #[.pointer (some ⟨q, 0, none⟩), .int .i64 id, .int .i64 key] w fun e w' => e = .returned (.int .i64 (fixE l id)) ∧ QlA w q F (fixL l id key) w' := by
  by_cases h1 : hasL l id = true
  · rw [show fixE l id = 0 by simp [fixE, h1], show fixL l id key = insL (delL l id) (id, key) by simp [fixL, h1]]
    have hx := hasL_iff.1 h1
    refine (qfix_c h.qu id key hx).mono ?_
    rintro e w' ⟨rfl, F', hq, ht, hF⟩
    refine ⟨rfl, F', ⟨?_, ord_insL (ord_delL id h.ord) (fun x hx e => (mem_delL.1 hx).2 (by rw [e]))⟩, ht, hF⟩
    rw [len_insL, h.len_del hx]
    exact hq.congr (fun x => by rw [mem_insL, mem_delL])
  · have h1' : hasL l id = false := by simpa using h1
    rw [show fixE l id = 9 by simp [fixE, h1'], show fixL l id key = l by simp [fixL, h1']]
    refine (fixE_c h.qu id key (hasL_not h1')).mono ?_
    rintro e w' ⟨rfl, rfl⟩
    exact ⟨rfl, qla_same h⟩
theorem lrem_c (h : Ql w q F l) (id : Int) : Calls Try.prog 14 #[.pointer (some ⟨q, 0, none⟩), .int .i64 id] w fun e w' => e = .returned (.int .i64 (fixE l id)) ∧ QlA w q F (remL l id) w' := by
  by_cases h1 : hasL l id = true
  · rw [show fixE l id = 0 by simp [fixE, h1], show remL l id = delL l id by simp [remL, h1]]
    have hx := hasL_iff.1 h1
    have hl := h.len_del hx
    have hq0 := h.qu
    rw [← hl] at hq0
    refine (qrem_c hq0 id hx).mono ?_
    rintro e w' ⟨rfl, F', hq, ht, hF⟩
    exact ⟨rfl, F', ⟨hq.congr (fun x => mem_delL), ord_delL id h.ord⟩, ht, hF⟩
  · have h1' : hasL l id = false := by simpa using h1
    rw [show fixE l id = 9 by simp [fixE, h1'], show remL l id = l by simp [remL, h1']]
    refine (remE_c h.qu id (hasL_not h1')).mono ?_
    rintro e w' ⟨rfl, rfl⟩
    exact ⟨rfl, qla_same h⟩
theorem itemsN_c (w : World) : Calls Try.prog 11 #[.pointer none] w fun e w' => e = .returned (.slice none 0 0) ∧ w' = w := by
  go_enter Try.func11, Try.ntmps11
  go_wp2
  go_ret
  exact ⟨rfl, rfl⟩
end Go.Proofs.Ytacgkgbhleehjaa
namespace Go.Proofs.Ytacgkgbhleehjaa
open Go.RowKit Go.Sort Go.MapKept

/-- A queue that the call itself made. -/
structure Qb (w0 w : World) (q : Nat) (F : Nat → Prop) (l : List (Int × Int)) : Prop where
  ql : Ql w q F l
  bel : Below w0.heap.size w0 w
  new : ∀ k, F k → w0.heap.size ≤ k
theorem Qb.step {w0 w w' q F l l'} (h : Qb w0 w q F l) (ha : QlA w q F l' w') : ∃ F', Qb w0 w' q F' l' ∧ Tn F w w' ∧ ∀ k, F' k → F k ∨ w.heap.size ≤ k := by
  obtain ⟨F', hq, ht, hF⟩ := ha
  have hs := h.bel.size
  refine ⟨F', ⟨hq, ⟨ht.os.trans h.bel.os, ht.tape.trans h.bel.tape, ht.output.trans h.bel.output, Nat.le_trans hs ht.size, fun k hk => (ht.block k (by omega) (fun e => by have := h.new k e; omega)).trans (h.bel.block k hk)⟩, fun k hk => (hF k hk).elim (h.new k) (fun e => by omega)⟩, ht, hF⟩
theorem Qb.below {w0 w w' q F l} (h : Qb w0 w q F l) (hb : Below w.heap.size w w') : Qb w0 w' q F l :=
  ⟨h.ql.below hb, h.bel.trans (hb.mono h.bel.size), h.new⟩
theorem push_i {w : World} {q : Nat} {F : Nat → Prop} {l l' : List (Int × Int)} {id key e : Int} (h : Ql w q F l) (he : pushE l id = e) (hl : pushL l id key = l') : Calls Try.prog 13 #[.pointer (some ⟨q, 0, none⟩), .int .i64 id, .int .i64 key] w fun r w' => r = .returned (.int .i64 e) ∧ QlA w q F l' w' := by
  have := lpush_c h id key; rw [he, hl] at this; exact this
theorem fix_i {w : World} {q : Nat} {F : Nat → Prop} {l l' : List (Int × Int)} {id key e : Int} (h : Ql w q F l) (he : fixE l id = e) (hl : fixL l id key = l') : Calls Try.prog 18 #[.pointer (some ⟨q, 0, none⟩), .int .i64 id, .int .i64 key] w fun r w' => r = .returned (.int .i64 e) ∧ QlA w q F l' w' := by
  have := lfix_c h id key; rw [he, hl] at this; exact this
theorem has_i {w : World} {q : Nat} {F : Nat → Prop} {l : List (Int × Int)} {id : Int} {b : Bool} (h : Ql w q F l) (he : hasL l id = b) : Calls Try.prog 15 #[.pointer (some ⟨q, 0, none⟩), .int .i64 id] w fun r w' => r = .returned (.bool b) ∧ w' = w := by
  have := lhas_c h id; rw [he] at this; exact this
theorem eq_item (a b c d : Int) (w : World) : (binOp .eql 40 (.agg #[.int .i64 a, .int .i64 b]) (.agg #[.int .i64 c, .int .i64 d])).run Try.prog w = .ok (.bool (a == c && b == d)) w := by
  have u3 := Try.underlying3
  have a3 := Try.isAgg3
  have z3 := Try.sizeOf3
  have hS : Try.prog.underlying 40 = some (.struct (Try.prog.fieldsOf 40)) := by kernel_rfl
  have hp : Try.prog.stoodInHeld 40 = false := by kernel_rfl
  rw [run_eql_struct, show (10000 : Nat) = 9999 + 1 from rfl, run_equalIn_agg w 9999 40 _ _ hS hp]
  simp only [Program.fieldsOf, Try.underlying40]
  go_simp
  by_cases h1 : a = c <;> by_cases h2 : b = d <;> simp [h1, h2]
set_option maxRecDepth 100000 in
set_option maxHeartbeats 4000000 in
theorem awake_c (w : World) : Calls Try.prog 7 #[] w fun e w' => e = .returned (.bool true) ∧ Below w.heap.size w w' := by
  go_enter Try.func7, Try.ntmps7
  go_wp2_with fail
  refine (new_c _).mono ?_
  rintro e w1 ⟨rfl, rfl⟩
  have h1 : Qb w _ w.heap.size _ [] := ⟨ql_new w, (Below.refl _ _).alloc (Nat.le_refl _) _, fun k hk => by omega⟩
  generalize w.alloc (.cells #[.slice none 0 0, .map none] 50) = w1 at *
  obtain ⟨q, hq⟩ : ∃ x, w.heap.size = x := ⟨_, rfl⟩
  rw [hq]
  rw [hq] at h1
  go_wp2_with fail
  refine (push_i (l' := [(3, 5)]) (e := 0) h1.ql (by decide) (by decide)).mono ?_
  rintro e w2 ⟨rfl, h2⟩
  obtain ⟨F2, h2, _, _⟩ := h1.step h2
  have H2 := hid h2
  clear h1 h2
  go_wp2_with fail
  refine (push_i (l' := [(1, 5), (3, 5)]) (e := 0) H2.out.ql (by decide) (by decide)).mono ?_
  rintro e w3 ⟨rfl, h3⟩
  obtain ⟨F3, h3, _, _⟩ := H2.out.step h3
  have H3 := hid h3
  clear H2 h3
  go_wp2_with fail
  refine (push_i (l' := [(1, 5), (3, 5), (2, 9)]) (e := 0) H3.out.ql (by decide) (by decide)).mono ?_
  rintro e w4 ⟨rfl, h4⟩
  obtain ⟨F4, h4, _, _⟩ := H3.out.step h4
  have H4 := hid h4
  clear H3 h4
  go_wp2_with fail
  refine (push_i (l' := [(1, 5), (3, 5), (2, 9)]) (e := 6) H4.out.ql (by decide) (by decide)).mono ?_
  rintro e w5 ⟨rfl, h5⟩
  obtain ⟨F5, h5, _, _⟩ := H4.out.step h5
  have H5 := hid h5
  clear H4 h5
  go_wp2_with fail
  refine (lpeek_c H5.out.ql).mono ?_
  rintro e w6 ⟨rfl, hb6⟩
  have H6 := hid (H5.out.below hb6)
  clear H5 hb6
  go_wp2_with fail
  have h7 := H6.out.below (w' := w6.alloc (.cells #[.int .i64 1, .int .i64 5] 40)) ((Below.refl _ _).alloc (Nat.le_refl _) _)
  have bx := (heap_alloc w6 (.cells #[.int .i64 1, .int .i64 5] 40)).1
  have nF : ¬ F5 w6.heap.size := fun e => by have := H6.out.ql.qu.lt _ e; omega
  have sz7 : w6.heap.size < (w6.alloc (.cells #[.int .i64 1, .int .i64 5] 40)).heap.size := by simp
  generalize w6.alloc (.cells #[.int .i64 1, .int .i64 5] 40) = w7 at *
  generalize w6.heap.size = B at *
  have H7 := hid h7; have BX := hid bx; have NF := hid nF; have SZ := hid sz7
  clear h7 bx nF sz7 H6
  refine (fix_i (l' := [(2, 0), (1, 5), (3, 5)]) (e := 0) H7.out.ql (by decide) (by decide)).mono ?_
  rintro e w8 ⟨rfl, h8⟩
  obtain ⟨F8, h8, t8, n8⟩ := H7.out.step h8
  have H8 := hid h8; have BX8 := hid ((t8.block B SZ.out NF.out).trans BX.out); have NF8 := hid (show ¬ F8 B from fun e => (n8 B e).elim NF.out (fun e2 => by have := SZ.out; omega)); have SZ8 := hid (Nat.lt_of_lt_of_le SZ.out t8.size)
  clear h8 t8 n8 BX NF SZ H7
  go_wp2_with fail
  refine (lpop_c H8.out.ql).mono ?_
  rintro e w9 ⟨rfl, h9⟩
  obtain ⟨F9, h9, t9, n9⟩ := H8.out.step h9
  have b9 := cells_at ((t9.block B SZ8.out NF8.out).trans BX8.out)
  have x0 : (w9.alloc (.cells #[.int .i64 2, .int .i64 0] 40)).cell? ⟨B, 0, none⟩ = some (.int .i64 1) := kCa b9.1
  have x1 : (w9.alloc (.cells #[.int .i64 2, .int .i64 0] 40)).cell? ⟨B, 1, none⟩ = some (.int .i64 5) := kCa b9.2
  have eqs := fun a b c d W => eq_item a b c d W
  have H9 := hid h9
  clear h9 t9 n9 BX8 NF8 SZ8 H8 b9
  have H10 := hid (H9.out.below (w' := w9.alloc (.cells #[.int .i64 2, .int .i64 0] 40)) ((Below.refl _ _).alloc (Nat.le_refl _) _))
  clear H9
  go_wp2_with (first
    | (go_at_call 12; refine (llen_c H10.out.ql).mono ?_; rintro e w11 ⟨rfl, rfl⟩)
    | (go_at_call 15; first | (with_reducible refine (has_i (id := 3) (b := true) H10.out.ql (by decide)).mono ?_; rintro e w12 ⟨rfl, rfl⟩) | (with_reducible refine (has_i (id := 2) (b := false) H10.out.ql (by decide)).mono ?_; rintro e w13 ⟨rfl, rfl⟩)))
  go_ret
  exact ⟨rfl, H10.out.bel⟩
theorem none_c (id key : Int) (w : World) : Calls Try.prog 6 #[.int .i64 id, .int .i64 key] w fun e w' => e = .returned (.bool true) ∧ Below w.heap.size w w' := by
  go_enter Try.func6, Try.ntmps6
  go_wp2_with fail
  refine (awake_c _).mono ?_
  rintro e w1 ⟨rfl, hb1⟩
  have H1 := hid hb1
  clear hb1
  go_wp2_with fail
  refine (popN_c _).mono ?_
  rintro e w2 ⟨rfl, hb2⟩
  have H2 := hid ((H1.out.trans (hb2.mono H1.out.size)).alloc (H1.out.trans (hb2.mono H1.out.size)).size (.cells #[.int .i64 0, .int .i64 0] 40))
  have bx := cells_at (heap_alloc w2 (.cells #[.int .i64 0, .int .i64 0] 40)).1
  clear H1 hb2
  go_wp2_with fail
  generalize w2.alloc (.cells #[.int .i64 0, .int .i64 0] 40) = w3 at *
  generalize w2.heap.size = B at *
  refine (peekN_c _).mono ?_
  rintro e w4 ⟨rfl, hb4⟩
  have x0 : w4.cell? ⟨B, 0, none⟩ = some (.int .i64 0) := (hb4.cell (World.block_lt_of_cell? w3 _ bx.1)).trans bx.1
  have x1 : w4.cell? ⟨B, 1, none⟩ = some (.int .i64 0) := (hb4.cell (World.block_lt_of_cell? w3 _ bx.2)).trans bx.2
  have H4 := hid (H2.out.trans (hb4.mono H2.out.size))
  have y0 : (w4.alloc (.cells #[.int .i64 0, .int .i64 0] 40)).cell? ⟨B, 0, none⟩ = some (.int .i64 0) := kCa x0
  have y1 : (w4.alloc (.cells #[.int .i64 0, .int .i64 0] 40)).cell? ⟨B, 1, none⟩ = some (.int .i64 0) := kCa x1
  have eqs := fun a b c d W => eq_item a b c d W
  clear H2 hb4 bx x0 x1
  go_wp2_with (first
    | (go_at_call 13; refine (pushN_c _ _ _).mono ?_; rintro e w5 ⟨rfl, rfl⟩)
    | (go_at_call 18; refine (fixN_c _ _ _).mono ?_; rintro e w6 ⟨rfl, rfl⟩)
    | (go_at_call 14; refine (remN_c _ _).mono ?_; rintro e w7 ⟨rfl, rfl⟩)
    | (go_at_call 15; refine (hasN_c _ _).mono ?_; rintro e w8 ⟨rfl, rfl⟩)
    | (go_at_call 12; refine (qlenN_c _).mono ?_; rintro e w9 ⟨rfl, rfl⟩)
    | (go_at_call 11; refine (itemsN_c _).mono ?_; rintro e w10 ⟨rfl, rfl⟩))
  go_ret
  exact ⟨rfl, H4.out.alloc H4.out.size _⟩
end Go.Proofs.Ytacgkgbhleehjaa
namespace Go.Proofs
open Go.Shelf
def Try.sortI_ren : Go.Shelf.Ren := ⟨fun | 6 => 25 | 15 => 36 | 14 => 35 | 28 => 50 | 29 => 51 | 20 => 42 | 21 => 43 | 22 => 44 | 23 => 45 | 24 => 46 | 25 => 47 | 26 => 48 | 27 => 49 | 46 => 53 | 47 => 54 | 48 => 55 | 49 => 56 | 50 => 57 | 57 => 58 | n => n, fun | 22 => 32 | 24 => 40 | 25 => 60 | 3 => 3 | 39 => 72 | 0 => 0 | 53 => 90 | 55 => 92 | 4 => 4 | 46 => 84 | 45 => 83 | 50 => 64 | 5 => 5 | 9 => 9 | 66 => 94 | 70 => 98 | 76 => 100 | 77 => 101 | n => n, fun | n => n⟩
theorem Try.sortI : Go.Proofs.SlLaysF0.n6 Try.prog Try.sortI_ren := {
  mixed := by kernel_rfl
  f6 := ⟨Try.f25.name, by decide, Try.func25.trans (congrArg some (by kernel_rfl))⟩
  f14 := ⟨Try.f35.name, by decide, Try.func35.trans (congrArg some (by kernel_rfl))⟩
  f15 := Try.func36.trans (congrArg some (by kernel_rfl))
  f20 := ⟨Try.f42.name, by decide, Try.func42.trans (congrArg some (by kernel_rfl))⟩
  f21 := ⟨Try.f43.name, by decide, Try.func43.trans (congrArg some (by kernel_rfl))⟩
  f22 := ⟨Try.f44.name, by decide, Try.func44.trans (congrArg some (by kernel_rfl))⟩
  f23 := ⟨Try.f45.name, by decide, Try.func45.trans (congrArg some (by kernel_rfl))⟩
  f24 := ⟨Try.f46.name, by decide, Try.func46.trans (congrArg some (by kernel_rfl))⟩
  f25 := ⟨Try.f47.name, by decide, Try.func47.trans (congrArg some (by kernel_rfl))⟩
  f26 := ⟨Try.f48.name, by decide, Try.func48.trans (congrArg some (by kernel_rfl))⟩
  f27 := ⟨Try.f49.name, by decide, Try.func49.trans (congrArg some (by kernel_rfl))⟩
  f28 := Try.func50.trans (congrArg some (by kernel_rfl))
  f29 := Try.func51.trans (congrArg some (by kernel_rfl))
  f46 := ⟨Try.f53.name, by decide, Try.func53.trans (congrArg some (by kernel_rfl))⟩
  f47 := Try.func54.trans (congrArg some (by kernel_rfl))
  f48 := Try.func55.trans (congrArg some (by kernel_rfl))
  f49 := ⟨Try.f56.name, by decide, Try.func56.trans (congrArg some (by kernel_rfl))⟩
  f50 := ⟨Try.f57.name, by decide, Try.func57.trans (congrArg some (by kernel_rfl))⟩
  f57 := ⟨Try.f58.name, by decide, Try.func58.trans (congrArg some (by kernel_rfl))⟩
  t0 := Try.underlying0
  a0 := Try.isAgg0
  z0 := Try.sizeOf0
  v0 := Try.zeroValue0
  t3 := Try.underlying3
  a3 := Try.isAgg3
  z3 := Try.sizeOf3
  v3 := Try.zeroValue3
  t4 := Try.underlying4
  a4 := Try.isAgg4
  z4 := Try.sizeOf4
  v4 := Try.zeroValue4
  t5 := Try.underlying5
  a5 := Try.isAgg5
  z5 := Try.sizeOf5
  v5 := Try.zeroValue5
  t9 := Try.underlying9
  a9 := Try.isAgg9
  z9 := Try.sizeOf9
  v9 := Try.zeroValue9
  t22 := Try.underlying32
  a22 := Try.isAgg32
  z22 := Try.sizeOf32
  v22 := Try.zeroValue32
  t25 := Try.underlying60
  a25 := Try.isAgg60
  z25 := Try.sizeOf60
  v25 := Try.zeroValue60
  t39 := Try.underlying72
  a39 := Try.isAgg72
  z39 := Try.sizeOf72
  v39 := Try.zeroValue72
  t45 := Try.underlying83
  a45 := Try.isAgg83
  z45 := Try.sizeOf83
  v45 := Try.zeroValue83
  t46 := Try.underlying84
  a46 := Try.isAgg84
  z46 := Try.sizeOf84
  v46 := Try.zeroValue84
  t50 := Try.underlying64
  a50 := Try.isAgg64
  z50 := Try.sizeOf64
  v50 := Try.zeroValue64
  t53 := Try.underlying90
  a53 := Try.isAgg90
  z53 := Try.sizeOf90
  v53 := Try.zeroValue90
  t55 := Try.underlying92
  a55 := Try.isAgg92
  z55 := Try.sizeOf92
  v55 := Try.zeroValue92
  t66 := Try.underlying94
  a66 := Try.isAgg94
  z66 := Try.sizeOf94
  v66 := Try.zeroValue94
  t70 := Try.underlying98
  a70 := Try.isAgg98
  z70 := Try.sizeOf98
  v70 := Try.zeroValue98
  t76 := Try.underlying100
  a76 := Try.isAgg100
  z76 := Try.sizeOf100
  v76 := Try.zeroValue100
  t77 := Try.underlying101
  a77 := Try.isAgg101
  z77 := Try.sizeOf101
  v77 := Try.zeroValue101 }
def Try.cloneI_ren : Go.Shelf.Ren := ⟨fun | 41 => 24 | n => n, fun | 22 => 32 | 23 => 40 | 4 => 4 | n => n, fun | n => n⟩
theorem Try.cloneI : Go.Proofs.SlLaysE0.n41 Try.prog Try.cloneI_ren := {
  mixed := by kernel_rfl
  f41 := ⟨Try.f24.name, by decide, Try.func24.trans (congrArg some (by kernel_rfl))⟩
  t4 := Try.underlying4
  a4 := Try.isAgg4
  z4 := Try.sizeOf4
  v4 := Try.zeroValue4
  t22 := Try.underlying32
  a22 := Try.isAgg32
  z22 := Try.sizeOf32
  v22 := Try.zeroValue32 }
end Go.Proofs
namespace Go.Proofs.Ytacgkgbhleehjaa
open Go.RowKit Go.Sort Go.MapKept Go.Shelf

/-- An item's two cells. -/
def encI (x : Int × Int) : List Value := [.int .i64 x.1, .int .i64 x.2]
theorem lt_ahd (x y : Int × Int) : ltOf cmpI x y = decide (ahd x y) := by
  unfold ltOf
  by_cases h : ahd x y
  · rw [decide_eq_true h, decide_eq_true ((cmpI_neg x y).2 h)]
  · rw [decide_eq_false h, decide_eq_false (fun e => h ((cmpI_neg x y).1 e))]
theorem swoI : SWO (ltOf cmpI) where
  irrefl x := by rw [lt_ahd]; exact decide_eq_false (ahd_irrefl x)
  trans x y z h1 h2 := by rw [lt_ahd] at *; exact decide_eq_true (ahd_trans (of_decide_eq_true h1) (of_decide_eq_true h2))
  ntrans x y z h1 h2 := by rw [lt_ahd] at *; exact decide_eq_false (ahd_not (of_decide_eq_false h1) (of_decide_eq_false h2))
/-- Two lists in order with the same items are one. -/
theorem ord_ext : ∀ {l k : List (Int × Int)}, l.Pairwise ahd → k.Pairwise ahd → (∀ x, x ∈ l ↔ x ∈ k) → l = k
  | [], [], _, _, _ => rfl
  | [], b :: k, _, _, h => by have := (h b).2 (List.mem_cons_self ..); cases this
  | a :: l, [], _, _, h => by have := (h a).1 (List.mem_cons_self ..); cases this
  | a :: l, b :: k, hl, hk, h => by
    obtain ⟨l1, l2⟩ := List.pairwise_cons.1 hl
    obtain ⟨k1, k2⟩ := List.pairwise_cons.1 hk
    have e : a = b := by
      rcases List.mem_cons.1 ((h a).1 (List.mem_cons_self ..)) with e | ha
      · exact e
      · rcases List.mem_cons.1 ((h b).2 (List.mem_cons_self ..)) with e | hb
        · exact e.symm
        · exact absurd (l1 b hb) (ahd_asymm (k1 a ha))
    subst e
    rw [ord_ext l2 k2 (fun x => ⟨fun hx => ?_, fun hx => ?_⟩)]
    · rcases List.mem_cons.1 ((h x).1 (List.mem_cons_of_mem _ hx)) with e | h'
      · subst e; exact absurd (l1 x hx) (ahd_irrefl _)
      · exact h'
    · rcases List.mem_cons.1 ((h x).2 (List.mem_cons_of_mem _ hx)) with e | h'
      · subst e; exact absurd (k1 x hx) (ahd_irrefl _)
      · exact h'
/-- The items of a list by their places. -/
def atL (l : List (Int × Int)) (i : Nat) : Int × Int := l.getD i (0, 0)
theorem atL_get {l : List (Int × Int)} {i : Nat} (h : i < l.length) : l[i]? = some (atL l i) := by
  unfold atL; rw [List.getD_eq_getElem?_getD, List.getElem?_eq_getElem h]; rfl
/-- What Items answers: a row of its own that holds the list. -/
def ItA (w : World) (l : List (Int × Int)) (e : Ending) (w' : World) : Prop :=
  ∃ ao cap, e = .returned (.slice ao l.length cap) ∧ l.length ≤ cap ∧ cap ≤ 9223372036854775807 ∧ Below w.heap.size w w' ∧ ((ao = none ∧ l = [] ∧ cap = 0) ∨ ∃ g, ao = some ⟨g, 0, none⟩ ∧ w.heap.size ≤ g ∧ Ro w' g cap l.length (atL l))
theorem flat_list (d : Nat → Int × Int) (n : Nat) : ∀ u ∈ flat d n, u.oneCell' = true := by
  induction n with
  | zero => intro u hu; cases hu
  | succ n ih =>
    intro u hu
    unfold flat at hu
    rcases List.mem_append.1 hu with hu | hu
    · exact ih u hu
    · simp at hu; rcases hu with rfl | rfl <;> rfl
theorem flat_cell {w : World} {g cap n : Nat} {d : Nat → Int × Int} (h : Ro w g cap n d) : ∀ (j : Nat) (u : Value), (flat d n)[j]? = some u → w.cell? ⟨g, 0 + j, none⟩ = some u := by
  intro j u hu
  have hj : j < n * 2 := by rw [← flat_len d n]; exact (List.getElem?_eq_some_iff.1 hu).1
  obtain ⟨h1, h2⟩ := flat_get (d := d) (n := n) (i := j / 2) (by omega)
  rw [Nat.zero_add]
  rcases Nat.mod_two_eq_zero_or_one j with e | e
  · have e2 : j / 2 * 2 = j := by omega
    have c := h.c0 (j / 2) (by omega)
    rw [e2] at h1 c
    rw [h1] at hu; rw [c, ← hu]
  · have e2 : j / 2 * 2 + 1 = j := by omega
    have c := h.c1 (j / 2) (by omega)
    rw [e2] at h2 c
    rw [h2] at hu; rw [c, ← hu]
theorem arr_get {n : Nat} (d : Nat → Int × Int) {i : Nat} (h : i < n) : ((Array.range n).map d)[i]! = d i := by
  rw [getElem!_pos _ i (by simpa using h)]; simp
theorem holds_ro {w : World} {g cap n : Nat} {d : Nat → Int × Int} (h : Ro w g cap n d) : HoldsK encI 2 w g 0 ((Array.range n).map d) := by
  intro j hj
  have hj' : j < n * 2 := by simpa using hj
  rw [get_flatK _ _ _ _ (by simpa using hj'), arr_get d (show j / 2 < n by omega), Nat.zero_add]
  obtain ⟨cur, hb, _⟩ := h.blk
  refine ⟨?_, free_at hb⟩
  rcases Nat.mod_two_eq_zero_or_one j with e | e
  · have c := h.c0 (j / 2) (by omega)
    rw [show j / 2 * 2 = j by omega] at c
    rw [c, e]; rfl
  · have c := h.c1 (j / 2) (by omega)
    rw [show j / 2 * 2 + 1 = j by omega] at c
    rw [c, e]; rfl
theorem ro_holds {w : World} {g cap n : Nat} {a : Array (Int × Int)} (hs : a.size = n) (hb : ∃ cur, w.heap[g]? = some (.cells cur 40 (0, 0)) ∧ cur.size = cap * 2) (h : HoldsK encI 2 w g 0 a) : Ro w g cap n (fun i => a[i]!) := by
  refine ⟨hb, fun i hi => ?_, fun i hi => ?_⟩
  · have := (h (i * 2) (by simp [hs]; omega)).1
    rw [get_flatK _ _ _ _ (by rw [hs]; omega), show i * 2 / 2 = i by omega, show i * 2 % 2 = 0 by omega, Nat.zero_add] at this
    exact this
  · have := (h (i * 2 + 1) (by simp [hs]; omega)).1
    rw [get_flatK _ _ _ _ (by rw [hs]; omega), show (i * 2 + 1) / 2 = i by omega, show (i * 2 + 1) % 2 = 1 by omega, Nat.zero_add] at this
    exact this
theorem blk_sort {w : World} {g cap m : Nat} {a : Array (Int × Int)} {os : Array Obj} (hb : ∃ cur, w.heap[g]? = some (.cells cur 40 (0, 0)) ∧ cur.size = cap) : ∃ cur, (sortWorldK encI 2 w g 0 m a os).heap[g]? = some (.cells cur 40 (0, 0)) ∧ cur.size = cap := by
  obtain ⟨cur, h1, h2⟩ := hb
  have hlt : g < w.heap.size := (Array.getElem?_eq_some_iff.1 h1).1
  refine ⟨putCells id 0 (flatK encI 2 a) cur, ?_, by simp [putCells, h2]⟩
  show ((putRowK encI 2 (Sort.ahead w m) g 0 a).heap ++ os)[g]? = _
  rw [Array.getElem?_append_left (by simp [putRowK, putRow, mapBlock, Sort.ahead]; exact hlt)]
  simp [putRowK, putRow, mapBlock, Sort.ahead, Array.getElem?_modify, h1, onCells]
theorem below_sort {w : World} {g m : Nat} {a : Array (Int × Int)} {os : Array Obj} (hg : g < w.heap.size) : Below g w (sortWorldK encI 2 w g 0 m a os) := by
  refine ⟨rfl, rfl, rfl, ?_, fun k hk => ?_⟩
  · show w.heap.size ≤ ((putRowK encI 2 (Sort.ahead w m) g 0 a).heap ++ os).size
    simp [putRowK, putRow, mapBlock, Sort.ahead]
  · show ((putRowK encI 2 (Sort.ahead w m) g 0 a).heap ++ os)[k]? = _
    have hkw : k < w.heap.size := by omega
    rw [Array.getElem?_append_left (by simp [putRowK, putRow, mapBlock, Sort.ahead]; exact hkw)]
    simp [putRowK, putRow, mapBlock, Sort.ahead, Array.getElem?_modify, Nat.ne_of_gt hk]
theorem sort_c {W : World} {g cap n : Nat} {d : Nat → Int × Int} (h : Ro W g cap n d) (hn : n ≤ 1000000) (inj : ∀ i j, i < n → j < n → (d i).1 = (d j).1 → i = j) {l : List (Int × Int)} (ho : l.Pairwise ahd) (hm : ∀ x, x ∈ l ↔ ∃ i, i < n ∧ d i = x) (hl : l.length = n) :
    Calls Try.prog 25 #[.slice (some ⟨g, 0, none⟩) n cap, .func (.func 26) #[] #[]] W fun e W' => e = .returned (.tuple #[]) ∧ Ro W' g cap n (atL l) ∧ Below g W W' := by
  obtain ⟨cur, hb, hcs⟩ := h.blk
  have hlt : g < W.heap.size := (Array.getElem?_eq_some_iff.1 hb).1
  have eg : ∀ args w, (callFunc 26 args).run Try.prog w = .ok (.enter 26 args) w := enters_of Try.func26 (by kernel_rfl) rfl
  have hsz : ((Array.range n).map d).size = n := by simp
  have hcon := AnyQ.slices_SortFunc Try.sortI 2 Try.isAgg40 Try.sizeOf40 encI (fun _ => rfl) (fun x v hv => by simp [encI] at hv; rcases hv with rfl | rfl <;> rfl) cmpI swoI 26 #[] g 0 cap ((Array.range n).map d) W eg (fun m os dk _ x y => by
    have := cmp_c (sortWorldK encI 2 W g 0 m dk os) x y
    exact this) (holds_ro h) hlt (by rw [hsz]; omega)
  rw [hsz] at hcon
  change Calls Try.prog 25 _ _ _ at hcon
  refine hcon.mono ?_
  rintro e W' ⟨rfl, d', k, os, hp, hs, rfl⟩
  have hds : d'.size = n := hp.1.trans hsz
  have hmem : ∀ x, x ∈ d'.toList ↔ ∃ i, i < n ∧ d i = x := fun x => by
    have h1 := hp.2.2
    rw [Array.extract_eq_self_of_le (by omega), Array.extract_eq_self_of_le (by rw [hsz]; exact Nat.le_refl _)] at h1
    rw [h1.mem_iff]
    simp
  have hnd : d'.toList.Nodup := by
    have h1 := hp.2.2
    rw [Array.extract_eq_self_of_le (by omega), Array.extract_eq_self_of_le (by rw [hsz]; exact Nat.le_refl _)] at h1
    rw [h1.nodup_iff]
    simp only [Array.toList_map, Array.toList_range]
    rw [List.Nodup, List.pairwise_map]
    refine List.Pairwise.imp_of_mem ?_ (List.nodup_range (n := n))
    intro a b ha hb' hne e
    exact hne (inj a b (List.mem_range.1 ha) (List.mem_range.1 hb') (by rw [e]))
  have hord : d'.toList.Pairwise ahd := by
    rw [List.pairwise_iff_getElem]
    intro i j hi hj hij
    have hi' : i < d'.size := by simpa using hi
    have hj' : j < d'.size := by simpa using hj
    have h2 := hs i j (Nat.zero_le _) hij (by omega)
    rw [lt_ahd, getElem!_pos d' i hi', getElem!_pos d' j hj'] at h2
    rcases ahd_tri (of_decide_eq_false h2) with e | e
    · exfalso
      have := (List.getElem_inj hnd).1 (show d'.toList[j] = d'.toList[i] by simpa using e)
      omega
    · simpa using e
  have hll : d'.toList = l := ord_ext hord ho (fun x => (hmem x).trans (hm x).symm)
  refine ⟨rfl, ?_, below_sort hlt⟩
  have hH : HoldsK encI 2 (sortWorldK encI 2 W g 0 k d' os) g 0 d' := holdsK_grow encI 2 _ _ _ _ _ (by show g < (putRowK encI 2 (Sort.ahead W k) g 0 d').heap.size; simp [putRowK, putRow, mapBlock, Sort.ahead]; exact hlt) (holdsK_putRowK encI 2 (Sort.ahead W k) g 0 _ d' (holdsK_ahead encI 2 W k g 0 _ (holds_ro h)) (by rw [hds, hsz]))
  refine (ro_holds hds (blk_sort h.blk) hH).congr (fun i hi => ?_)
  have hi' : i < d'.size := by omega
  show atL l i = d'[i]!
  rw [getElem!_pos d' i hi', ← hll]
  unfold atL
  rw [List.getD_eq_getElem?_getD, List.getElem?_eq_getElem (by simpa using hi')]
  simp
theorem sort0_c (p : Option Addr) (cap : Nat) (W : World) : Calls Try.prog 25 #[.slice p 0 cap, .func (.func 26) #[] #[]] W fun e W' => e = .returned (.tuple #[]) ∧ W' = W := by
  have := AnyF.slices_SortFunc_none Try.sortI p cap (.func (.func 26) #[] #[]) W
  exact this
theorem clone_c {W : World} {g cap n : Nat} {d : Nat → Int × Int} (h : Ro W g cap n d) (hn : n ≤ 1000000) :
    Calls Try.prog 24 #[.slice (some ⟨g, 0, none⟩) n cap] W fun e W' => ∃ g' cap', e = .returned (.slice (some ⟨g', 0, none⟩) n cap') ∧ W.heap.size ≤ g' ∧ n ≤ cap' ∧ cap' ≤ 9223372036854775807 ∧ Ro W' g' cap' n d ∧ Below W.heap.size W W' := by
  obtain ⟨i, hi, hz0, hz1, hz2⟩ := info_parts Try.infoItem
  have hcon := AnyE.slices_Clone Try.cloneI i _ 2 16 hi hz0 hz1 hz2 rfl (by decide) Try.sizeOf40 g 0 n cap (flat d n) W (flat_len d n) (by unfold maxLen; omega) (by omega) (flat_cell h) (flat_list d n)
  change Calls Try.prog 24 _ _ _ at hcon
  refine hcon.mono ?_
  rintro e W' ⟨v', rfl, ho, hne, hb⟩
  rcases ho.2 with ⟨hv, _⟩ | ⟨g', cap', cur, rfl, hg, hbk, h1, h2, hs, ht⟩
  · exact absurd hv hne
  · refine ⟨g', cap', rfl, hg, h1, by unfold maxLen at h2; omega, ⟨⟨cur, hbk, hs⟩, fun j hj => ?_, fun j hj => ?_⟩, hb⟩
    · have := (flat_get (d := d) hj).1
      rw [← ht, List.getElem?_take_of_lt (by omega)] at this
      simp [World.cell?, hbk]; simpa using this
    · have := (flat_get (d := d) hj).2
      rw [← ht, List.getElem?_take_of_lt (by omega)] at this
      simp [World.cell?, hbk]; simpa using this
theorem clone0_c (W : World) (n c : Nat) : Calls Try.prog 24 #[.slice none n c] W fun e W' => e = .returned (.slice none 0 0) ∧ W' = W := by
  have := AnyE.slices_Clone_nil Try.cloneI n c W
  exact this
theorem items_c {w : World} {q : Nat} {F : Nat → Prop} {l : List (Int × Int)} (h : Ql w q F l) : Calls Try.prog 11 #[.pointer (some ⟨q, 0, none⟩)] w fun e w' => ItA w l e w' := by
  have ho := h.ord
  rcases h.qu with ⟨h0, hn, _, _⟩ | ⟨g, cap, m, d, h0, h1, h2, h3⟩
  · obtain rfl : l = [] := List.eq_nil_of_length_eq_zero hn
    have f0 := (cells_at h0).1
    clear h h0
    go_enter Try.func11, Try.ntmps11
    go_wp2_with (first
      | (go_at_call 24; refine (clone0_c _ _ _).mono ?_; rintro e w2 ⟨rfl, rfl⟩)
      | (go_at_call 25; refine (sort0_c _ _ _).mono ?_; rintro e w3 ⟨rfl, rfl⟩))
    go_ret
    exact ⟨none, 0, rfl, Nat.le_refl _, by omega, Below.refl _ _, .inl ⟨rfl, rfl, rfl⟩⟩
  · have f0 := h0.f0
    have hlim := h0.lim
    have HC := hid (clone_c h0.ro hlim)
    have HI := hid h0.inj; have H2 := hid h2; have HO := hid ho
    clear h h0 h1 h2 h3 ho
    generalize hn : l.length = n at *
    have HN := hid hn
    clear hn
    go_enter Try.func11, Try.ntmps11
    go_wp2_with (first
      | (go_at_call 24; refine HC.out.mono ?_; rintro e w2 ⟨g', cap', rfl, hg, l1, l2, hr, hb⟩; have HR := hid hr; have HB := hid hb; have HG := hid hg; clear hr hb hg)
      | (go_at_call 25; refine (sort_c HR.out hlim HI.out HO.out H2.out HN.out).mono ?_; rintro e w3 ⟨rfl, hr3, hb3⟩))
    go_ret
    refine ⟨some ⟨g', 0, none⟩, cap', by rw [HN.out]; rfl, by rw [HN.out]; exact l1, l2, HB.out.trans (hb3.mono HG.out), .inr ⟨g', rfl, HG.out, by rw [HN.out]; exact hr3⟩⟩
end Go.Proofs.Ytacgkgbhleehjaa
namespace Go.Proofs.Ytacgkgbhleehjaa
open Go.RowKit Go.Sort Go.MapKept

/-- n items at an address. -/
def RL (w : World) (ao : Option Addr) (n : Nat) (d : Nat → Int × Int) : Prop :=
  ∀ j, j < n → ∃ b o, ao = some ⟨b, o, none⟩ ∧ w.cell? ⟨b, o + j * 2, none⟩ = some (.int .i64 (d j).1) ∧ w.cell? ⟨b, o + j * 2 + 1, none⟩ = some (.int .i64 (d j).2)
theorem RL.below {w w' ao n d} (h : RL w ao n d) (hb : Below w.heap.size w w') : RL w' ao n d := fun j hj => by
  obtain ⟨b, o, e, h0, h1⟩ := h j hj
  exact ⟨b, o, e, (hb.cell (World.block_lt_of_cell? w _ h0)).trans h0, (hb.cell (World.block_lt_of_cell? w _ h1)).trans h1⟩
theorem RL.kept {w w' ao n d} (h : RL w ao n d) (hk : ∀ a, ao = some a → w'.heap[a.block]? = w.heap[a.block]?) : RL w' ao n d := fun j hj => by
  obtain ⟨b, o, e, h0, h1⟩ := h j hj
  have hb := hk _ e
  exact ⟨b, o, e, (World.cell?_of_block (a := ⟨b, o + j * 2, none⟩) hb).trans h0, (World.cell?_of_block (a := ⟨b, o + j * 2 + 1, none⟩) hb).trans h1⟩
theorem RL.take {w ao n d m} (h : RL w ao n d) (hm : m ≤ n) : RL w ao m d := fun j hj => h j (by omega)
theorem RL.drop {w ao n d} (h : RL w ao n d) (k : Nat) (hk : k ≤ n) (cap : Nat) (hc : n ≤ cap) : RL w (if cap = k then ao else ao.map (·.add (k * 2))) (n - k) (fun j => d (k + j)) := fun j hj => by
  obtain ⟨b, o, e, h0, h1⟩ := h (k + j) (by omega)
  rw [if_neg (by omega)]
  subst e
  refine ⟨b, o + k * 2, ?_, ?_, ?_⟩
  · simp only [Option.map_some]
    congr 1
    by_cases hz : k * 2 = 0
    · rw [hz]; simp [Addr.add]
    · simp [Addr.add, hz]
  · rw [show o + k * 2 + j * 2 = o + (k + j) * 2 by omega]; exact h0
  · rw [show o + k * 2 + j * 2 + 1 = o + (k + j) * 2 + 1 by omega]; exact h1
/-- A list of the reference's items. -/
def Rr (w : World) (v : Value) (l : List (Int × Int)) : Prop :=
  ∃ ao cap, v = .slice ao l.length cap ∧ RL w ao l.length (atL l) ∧ (ao = none → l.length = 0 ∧ cap = 0) ∧ l.length ≤ cap ∧ cap ≤ 9223372036854775807
/-- Its memory. -/
def Vb (v : Value) (k : Nat) : Prop := ∃ ao n cap, v = .slice ao n cap ∧ ∃ a, ao = some a ∧ a.block = k
theorem Rr.below {w w' v l} (h : Rr w v l) (hb : Below w.heap.size w w') : Rr w' v l := by
  obtain ⟨ao, cap, e, h1, h2⟩ := h; exact ⟨ao, cap, e, h1.below hb, h2⟩
theorem Rr.kept {w w' v l} (h : Rr w v l) (hk : ∀ k, Vb v k → w'.heap[k]? = w.heap[k]?) : Rr w' v l := by
  obtain ⟨ao, cap, e, h1, h2⟩ := h; exact ⟨ao, cap, e, h1.kept (fun a ha => hk a.block ⟨ao, _, cap, e, a, ha, rfl⟩), h2⟩
theorem flat_getL {n : Nat} {d : Nat → Int × Int} {j : Nat} {u : Value} (hu : (flat d n)[j]? = some u) : j < n * 2 ∧ ((j % 2 = 0 ∧ u = .int .i64 (d (j / 2)).1) ∨ (j % 2 = 1 ∧ u = .int .i64 (d (j / 2)).2)) := by
  have hj : j < n * 2 := by rw [← flat_len d n]; exact (List.getElem?_eq_some_iff.1 hu).1
  obtain ⟨h1, h2⟩ := flat_get (d := d) (n := n) (i := j / 2) (by omega)
  refine ⟨hj, ?_⟩
  rcases Nat.mod_two_eq_zero_or_one j with e | e
  · rw [show j / 2 * 2 = j by omega] at h1
    rw [h1] at hu; exact .inl ⟨e, (Option.some.inj hu).symm⟩
  · rw [show j / 2 * 2 + 1 = j by omega] at h2
    rw [h2] at hu; exact .inr ⟨e, (Option.some.inj hu).symm⟩
theorem addr_add' (b o j : Nat) : (⟨b, o, none⟩ : Addr).add j = ⟨b, o + j, none⟩ := by
  by_cases h : j = 0
  · subst h; simp [Addr.add]
  · simp [Addr.add, h]
theorem RL.cells {w a n d} (h : RL w (some a) n d) : ∀ (j : Nat) (u : Value), (flat d n)[j]? = some u → w.cell? (a.add j) = some u := by
  intro j u hu
  obtain ⟨hj, hc⟩ := flat_getL hu
  obtain ⟨b, o, e, h0, h1⟩ := h (j / 2) (by omega)
  cases e
  rw [addr_add']
  rcases hc with ⟨e, rfl⟩ | ⟨e, rfl⟩
  · rw [show j = j / 2 * 2 by omega]; rw [show j / 2 * 2 / 2 = j / 2 by omega]; exact h0
  · rw [show o + j = o + j / 2 * 2 + 1 by omega]; exact h1
theorem Try.infoRef : (Try.prog.info? 53).map (fun i => (i.zero, i.size, i.bytes)) = some (some (.agg #[.int .i64 0, .int .i64 0]), 2, 16) := by kernel_rfl
/-- 'append(m, src...)', m the call's own. -/
theorem app_ref {w : World} {base : Nat} {v : Value} {n : Nat} {d : Nat → Int × Int} (h : w.ownsRow base 53 2 v n (flat d n)) {so : Option Addr} {m c : Nat} {e : Nat → Int × Int} (hs : RL w so m e) (hn : so = none → m = 0 ∧ c = 0) (hl : n + m ≤ 1000000) (hb : base ≤ w.heap.size) :
    ∃ v' w', (Builtin.append_ #[26, 26] 26 #[v, .slice so m c]).run Try.prog w = .ok v' w' ∧ w'.ownsRow base 53 2 v' (n + m) (flat d n ++ flat e m) ∧ w.grownBy w' v.ownBlock ∧ (v'.ownBlock = v.ownBlock ∨ v'.ownBlock = some w.heap.size) := by
  obtain ⟨i, hi, hz0, hz1, hz2⟩ := info_parts Try.infoRef
  cases so with
  | none =>
    obtain ⟨rfl, rfl⟩ := hn rfl
    refine ⟨v, w, run_append_owned_none (P := Try.prog) (w := w) base 26 26 53 i 2 Try.underlying26 hi v n _ h, ?_, ⟨rfl, rfl, rfl, Nat.le_refl _, fun _ _ _ => rfl⟩, .inl rfl⟩
    simpa [flat] using h
  | some a =>
    obtain ⟨v', w', h1, h2, h3, _, h5⟩ := run_append_own_at (P := Try.prog) w base 26 26 53 i _ 2 16 Try.underlying26 hi hz0 hz1 hz2 rfl (by decide) v n (flat d n) h a m c (flat e m) (flat_len e m) hs.cells (flat_list e m) (by unfold maxLen; omega) (by omega) hb
    exact ⟨v', w', h1, h2, h3, h5⟩
theorem flat_app (d e : Nat → Int × Int) (n m : Nat) : flat d n ++ flat e m = flat (fun i => if i < n then d i else e (i - n)) (n + m) := by
  induction m with
  | zero => simp only [flat, List.append_nil, Nat.add_zero]; exact (flat_congr (fun i hi => by simp [hi])).symm
  | succ m ih =>
    rw [show n + (m + 1) = (n + m) + 1 by omega]
    show flat d n ++ (flat e m ++ [.int .i64 (e m).1, .int .i64 (e m).2]) = flat (fun i => if i < n then d i else e (i - n)) (n + m) ++ _
    rw [← List.append_assoc, ih]
    have hnl : ¬ n + m < n := by omega
    simp [hnl]
theorem rr_own {w : World} {base : Nat} {v : Value} {l : List (Int × Int)} (h : w.ownsRow base 53 2 v l.length (flat (atL l) l.length)) : Rr w v l ∧ ∀ k, Vb v k → base ≤ k ∧ k < w.heap.size := by
  rcases h.2 with ⟨rfl, h0⟩ | ⟨g, cap, cur, rfl, hg, hbk, h1, h2, hs, ht⟩
  · rw [show l = [] from List.eq_nil_of_length_eq_zero h0]
    exact ⟨⟨none, 0, rfl, fun j hj => by simp at hj, fun _ => ⟨rfl, rfl⟩, Nat.le_refl _, by omega⟩, fun k ⟨ao, n, c, e, a, ha, _⟩ => by cases e; cases ha⟩
  · refine ⟨⟨some ⟨g, 0, none⟩, cap, rfl, fun j hj => ⟨g, 0, rfl, ?_, ?_⟩, (fun e => by cases e), h1, by unfold maxLen at h2; omega⟩, fun k ⟨ao, n, c, e, a, ha, hb⟩ => by cases e; cases ha; exact hb ▸ ⟨hg, (Array.getElem?_eq_some_iff.1 hbk).1⟩⟩
    · have := (flat_get (d := atL l) hj).1
      rw [← ht, List.getElem?_take_of_lt (by omega)] at this
      simp [World.cell?, hbk]; simpa using this
    · have := (flat_get (d := atL l) hj).2
      rw [← ht, List.getElem?_take_of_lt (by omega)] at this
      simp [World.cell?, hbk]; simpa using this
theorem atL_app {l k : List (Int × Int)} : ∀ i, i < (l ++ k).length → atL (l ++ k) i = if i < l.length then atL l i else atL k (i - l.length) := by
  intro i hi
  unfold atL
  simp only [List.getD_eq_getElem?_getD]
  split
  · rename_i h; rw [List.getElem?_append_left h]
  · rename_i h; rw [List.getElem?_append_right (by omega)]
theorem flat_appL (l k : List (Int × Int)) : flat (atL l) l.length ++ flat (atL k) k.length = flat (atL (l ++ k)) (l ++ k).length := by
  rw [flat_app, List.length_append]
  exact (flat_congr (fun i hi => atL_app i (by simpa using hi))).symm
theorem atL_take {l : List (Int × Int)} {k i : Nat} (hi : i < k) : atL (l.take k) i = atL l i := by
  unfold atL; simp [List.getD_eq_getElem?_getD, hi]
theorem atL_drop (l : List (Int × Int)) (k i : Nat) : atL (l.drop k) i = atL l (k + i) := by
  unfold atL; simp [List.getD_eq_getElem?_getD]
theorem RL.congr {w ao n d d'} (h : RL w ao n d) (e : ∀ i, i < n → d' i = d i) : RL w ao n d' := fun j hj => by rw [e j hj]; exact h j hj
/-- 'append(m, l[:k]...)', 'append(m, l[k:]...)' in the words of lists. -/
theorem app_list {w : World} {base : Nat} {v : Value} {l k : List (Int × Int)} (h : w.ownsRow base 53 2 v l.length (flat (atL l) l.length)) {so : Option Addr} {m c : Nat} (hm : m = k.length) (hs : RL w so m (atL k)) (hn : so = none → m = 0 ∧ c = 0) (hl : l.length + m ≤ 1000000) (hb : base ≤ w.heap.size) :
    ∃ v' w', (Builtin.append_ #[26, 26] 26 #[v, .slice so m c]).run Try.prog w = .ok v' w' ∧ w'.ownsRow base 53 2 v' (l ++ k).length (flat (atL (l ++ k)) (l ++ k).length) ∧ w.grownBy w' v.ownBlock := by
  subst hm
  obtain ⟨v', w', h1, h2, h3, _⟩ := app_ref h hs hn hl hb
  refine ⟨v', w', h1, ?_, h3⟩
  rw [flat_appL] at h2
  rw [List.length_append] at h2 ⊢
  exact h2
theorem below_gr {w0 w w' : World} {v : Value} {n : Nat} {xs : List Value} (hb : Below w0.heap.size w0 w) (hg : w.grownBy w' v.ownBlock) (ho : w.ownsRow w0.heap.size 53 2 v n xs) : Below w0.heap.size w0 w' := by
  have hs := hb.size
  refine ⟨hg.os.trans hb.os, hg.tape.trans hb.tape, hg.output.trans hb.output, Nat.le_trans hs hg.size, fun k hk => (hg.block k (by omega) (fun e => ?_)).trans (hb.block k hk)⟩
  rcases ho.2 with ⟨rfl, _⟩ | ⟨g, cap, cur, rfl, hgb, _⟩
  · cases e
  · have : k = g := by simpa [Value.ownBlock] using e
    omega
theorem own_nil (w : World) (base : Nat) : w.ownsRow base 53 2 (.slice none 0 0) ([] : List (Int × Int)).length (flat (atL []) ([] : List (Int × Int)).length) := ⟨rfl, .inl ⟨rfl, rfl⟩⟩
theorem kCb {w w' : World} {a : Addr} {v : Value} (hb : Below w.heap.size w w') (h : w.cell? a = some v) : w'.cell? a = some v := (hb.cell (World.block_lt_of_cell? w a h)).trans h
set_option maxRecDepth 100000 in
set_option maxHeartbeats 4000000 in
theorem ahead_c (a b : Int × Int) (w : World) : Calls Try.prog 41 #[.agg #[.int .i64 a.1, .int .i64 a.2], .agg #[.int .i64 b.1, .int .i64 b.2]] w fun e w' => e = .returned (.bool (ahB a b)) ∧ Below w.heap.size w w' := by
  obtain ⟨a1, a2⟩ := a
  obtain ⟨b1, b2⟩ := b
  have HB := hid (((Below.refl w.heap.size w).alloc (Nat.le_refl _) (.cells #[.int .i64 a1, .int .i64 a2] 53)).alloc ((Below.refl w.heap.size w).alloc (Nat.le_refl _) (.cells #[.int .i64 a1, .int .i64 a2] 53)).size (.cells #[.int .i64 b1, .int .i64 b2] 53))
  by_cases h1 : a2 < b2
  · have HV := hid (show ahB (a1, a2) (b1, b2) = true from decide_eq_true (.inl h1))
    have h1' : decide (a2 < b2) = true := decide_eq_true h1
    go_enter Try.func41, Try.ntmps41
    go_wp2
    go_ret
    exact ⟨by rw [HV.out]; rfl, HB.out⟩
  · have h1' : decide (a2 < b2) = false := decide_eq_false h1
    by_cases h2 : a2 = b2
    · have h2' : (a2 == b2) = true := by simp [h2]
      by_cases h3 : a1 < b1
      · have h3' : decide (a1 < b1) = true := decide_eq_true h3
        have HV := hid (show ahB (a1, a2) (b1, b2) = true from decide_eq_true (.inr ⟨h2, h3⟩))
        clear h1 h2 h3
        go_enter Try.func41, Try.ntmps41
        go_wp2
        go_ret
        exact ⟨by rw [HV.out]; rfl, HB.out⟩
      · have h3' : decide (a1 < b1) = false := decide_eq_false h3
        have HV := hid (show ahB (a1, a2) (b1, b2) = false from decide_eq_false (fun e => e.elim h1 (fun e => h3 e.2)))
        clear h1 h2 h3
        go_enter Try.func41, Try.ntmps41
        go_wp2
        go_ret
        exact ⟨by rw [HV.out]; rfl, HB.out⟩
    · have h2' : (a2 == b2) = false := by simp [h2]
      have HV := hid (show ahB (a1, a2) (b1, b2) = false from decide_eq_false (fun e => e.elim h1 (fun e => h2 e.1)))
      clear h1 h2
      go_enter Try.func41, Try.ntmps41
      go_wp2
      go_ret
      exact ⟨by rw [HV.out]; rfl, HB.out⟩
end Go.Proofs.Ytacgkgbhleehjaa
namespace Go.Proofs.Ytacgkgbhleehjaa
open Go.RowKit Go.Sort Go.MapKept

/-- Where a number stands; -1, if it doesn't. -/
def plL (l : List (Int × Int)) (id : Int) : Int := match l.findIdx? (fun x => x.1 == id) with
  | some i => i
  | none => -1
/-- .. from place i on. -/
def plF (l : List (Int × Int)) (id : Int) (i : Nat) : Int := match (l.drop i).findIdx? (fun x => x.1 == id) with
  | some j => ((i + j : Nat) : Int)
  | none => -1
theorem plF_zero (l : List (Int × Int)) (id : Int) : plL l id = plF l id 0 := by
  unfold plL plF
  simp only [List.drop_zero, Nat.zero_add]
theorem plF_end {l : List (Int × Int)} {id : Int} {i : Nat} (h : l.length ≤ i) : plF l id i = -1 := by
  unfold plF; rw [List.drop_of_length_le h]; rfl
theorem drop_at {l : List (Int × Int)} {i : Nat} (h : i < l.length) : l.drop i = atL l i :: l.drop (i + 1) := by
  rw [List.drop_eq_getElem_cons h]
  congr 1
  have := atL_get h
  rw [List.getElem?_eq_getElem h] at this
  exact Option.some.inj this
theorem plF_hit {l : List (Int × Int)} {id : Int} {i : Nat} (h : i < l.length) (e : (atL l i).1 = id) : plF l id i = i := by
  unfold plF; rw [drop_at h]; simp [List.findIdx?_cons, e]
theorem plF_miss {l : List (Int × Int)} {id : Int} {i : Nat} (h : i < l.length) (e : (atL l i).1 ≠ id) : plF l id i = plF l id (i + 1) := by
  unfold plF; rw [drop_at h]
  simp only [List.findIdx?_cons, beq_eq_false_iff_ne.2 e, Bool.false_eq_true, if_false]
  cases (l.drop (i + 1)).findIdx? (fun x => x.1 == id) with
  | none => rfl
  | some j => simp; omega
set_option maxRecDepth 100000 in
set_option maxHeartbeats 4000000 in
theorem place_c {w : World} {v : Value} {l : List (Int × Int)} (h : Rr w v l) (hl : l.length ≤ 1000000) (id : Int) : Calls Try.prog 33 #[v, .int .i64 id] w fun e w' => e = .returned (.int .i64 (plL l id)) ∧ Below w.heap.size w w' := by
  obtain ⟨ao, cap, rfl, hr, hn, hc, ht⟩ := h
  have HR := hid hr
  have HZ := hid (plF_zero l id)
  clear hr hn
  go_enter Try.func33, Try.ntmps33
  go_wp2_with fail
  go_loopw [9] (fun t wr => ∃ (i : Nat), i ≤ l.length ∧ t = .int .i64 i ∧ Hid (Below w.heap.size w wr) ∧ Hid (plF l id 0 = plF l id i)) (fun t _ => l.length - (intOf t).toNat)
  case atStart => exact ⟨0, by omega, rfl, Below.refl _ _, rfl⟩
  case round =>
    obtain ⟨i, hi, rfl, HB, HE⟩ := hrel
    by_cases hlt : i < l.length
    · obtain ⟨b, o, rfl, c0, c1⟩ := (HR.out.below HB.out) i hlt
      have hlt' : (i : Int) < l.length := by omega
      have HB2 := hid (HB.out.alloc HB.out.size (.cells #[.int .i64 (atL l i).1, .int .i64 (atL l i).2] 53))
      by_cases he : (atL l i).1 = id
      · have HP := hid (plF_hit hlt he)
        generalize (atL l i).2 = y at *
        generalize (atL l i).1 = x at *
        have he' : (x == id) = true := by simp [he]
        clear he
        go_wp2_with fail
        go_ret
        exact ⟨by rw [HZ.out, HE.out, HP.out]; rfl, HB2.out⟩
      · have HP := hid (plF_miss hlt he)
        generalize (atL l i).2 = y at *
        generalize (atL l i).1 = x at *
        have he' : (x == id) = false := by simp [he]
        clear he
        go_wp2_with fail
        go_roundw
        case rel => exact ⟨i + 1, by omega, by go_num, HB2, HE.out.trans HP.out⟩
        case measure => simp [intOf]; omega
    · have hlt' : decide ((i : Int) < l.length) = false := decide_eq_false (by omega)
      have HP := hid (plF_end (id := id) (show l.length ≤ i by omega))
      go_wp2_with fail
      go_ret
      exact ⟨by rw [HZ.out, HE.out, HP.out]; rfl, HB.out⟩
/-- A list that the reference made. -/
def RrN (w : World) (l : List (Int × Int)) (e : Ending) (w' : World) : Prop := ∃ v, e = .returned v ∧ Rr w' v l ∧ Below w.heap.size w w' ∧ ∀ k, Vb v k → w.heap.size ≤ k ∧ k < w'.heap.size
theorem erase_split (l : List (Int × Int)) (i : Nat) : l.eraseIdx i = l.take i ++ l.drop (i + 1) := List.eraseIdx_eq_take_drop_succ l i
/-- 'append(m, src...)' at the operation. -/
theorem wpList_app {w : World} {ops : Array Oper} {rest : List Oper} {o : Oper} {a : Act} {Q : Exit → Act → World → Prop} (hgd : o.guard = none) (s x : Operand)
    (ho : o.op = .call { callee := .builtin .append, args := #[s, x], argTypes := #[26, 26] }) (hty : o.type = 26) {base : Nat} {v : Value} {l k : List (Int × Int)} (hs : a.eval s = v) (h : w.ownsRow base 53 2 v l.length (flat (atL l) l.length))
    {so : Option Addr} {m c : Nat} (hx : a.eval x = .slice so m c) (hm : m = k.length) (hr : RL w so m (atL k)) (hn : so = none → m = 0 ∧ c = 0) (hl : l.length + m ≤ 1000000) (hb : base ≤ w.heap.size)
    (hK : ∀ v' w', w'.ownsRow base 53 2 v' (l ++ k).length (flat (atL (l ++ k)) (l ++ k).length) → w.grownBy w' v.ownBlock → wpList Try.prog ops Q rest (a.put o.dst v') w') : wpList Try.prog ops Q (o :: rest) a w := by
  refine wpList_plain hgd fun K hK' => ?_
  obtain ⟨v', w', hr', h2, h3⟩ := app_list h hm hr hn hl hb
  rw [← hty] at hr'
  unfold Oper.wp execOp
  simp only [ho, resolve, invoke, builtin, Sem.run_bind, Sem.run_pure, Result.andThen_ok, List.map_toArray, List.map_cons, List.map_nil, hs, hx]
  rw [hty] at hr'
  simp only [hty, hr']
  exact hK' _ _ (hK v' w' h2 h3)
theorem RL.off {w b o n d} (h : RL w (some ⟨b, o, none⟩) n d) (k : Nat) {n' : Nat} (hn : n' + k ≤ n) : RL w (some ⟨b, o + k * 2, none⟩) n' (fun j => d (k + j)) := fun j hj => by
  obtain ⟨b', o', e, h0, h1⟩ := h (k + j) (by omega)
  cases e
  refine ⟨b, o + k * 2, rfl, ?_, ?_⟩
  · rw [show o + k * 2 + j * 2 = o + (k + j) * 2 by omega]; exact h0
  · rw [show o + k * 2 + j * 2 + 1 = o + (k + j) * 2 + 1 by omega]; exact h1
theorem RL.nil (w : World) (ao : Option Addr) (d : Nat → Int × Int) : RL w ao 0 d := fun j hj => by omega
set_option maxRecDepth 100000 in
set_option maxHeartbeats 4000000 in
theorem without_c {w : World} {v : Value} {l : List (Int × Int)} (h : Rr w v l) (hl : l.length ≤ 500000) {i : Nat} (hi : i < l.length) : Calls Try.prog 34 #[v, .int .i64 i] w fun e w' => RrN w (l.eraseIdx i) e w' := by
  obtain ⟨ao, cap, rfl, hr, hn, hc, ht⟩ := h
  obtain ⟨b, o, rfl, _⟩ := hr 0 (by omega)
  have HR := hid hr
  have hi' : (i : Int) ≤ cap := by omega
  have hi2 : (i : Int) + 1 ≤ l.length := by omega
  have hi3 : (l.length : Int) ≤ cap := by omega
  generalize hL : l.length = L at *
  have HL := hid hL
  clear hr hn hL
  have HE := hid (show l.take i ++ l.drop (i + 1) = l.eraseIdx i from (erase_split l i).symm)
  by_cases hcap : cap = i + 1
  · go_enter Try.func34, Try.ntmps34
    go_wp2_with (at_builtin; first
      | (refine wpList_app rfl (.tmp 6) (.tmp 9) rfl rfl (l := []) (k := l.take i) rfl (own_nil w w.heap.size) rfl ?p1 ?p2 ?p3 ?p4 ?p5 ?_; (case p1 => (have := HL.out; rw [List.length_take]; omega)); (case p2 => exact (HR.out.take (by omega)).congr (fun j hj => atL_take hj)); (case p3 => exact fun e => by cases e); (case p4 => (simp; omega)); (case p5 => exact Nat.le_refl _); intro v1 w1 o1 g1; simp only [List.nil_append] at o1; have HO := hid o1; have HB1 := hid (below_gr (Below.refl w.heap.size w) g1 (own_nil w w.heap.size)); clear o1 g1)
      | (refine wpList_app rfl (.tmp 11) (.tmp 15) rfl rfl (l := l.take i) (k := l.drop (i + 1)) rfl HO.out rfl ?p1 ?p2 ?p3 ?p4 ?p5 ?_; (case p1 => (have := HL.out; simp; omega)); (case p2 => (rw [show L - (i + 1) = 0 by omega]; exact RL.nil _ _ _)); (case p3 => exact fun e => by cases e); (case p4 => (rw [List.length_take]; omega)); (case p5 => exact HB1.out.size); intro v2 w2 o2 g2; have HO2 := hid o2; have HB2 := hid (below_gr HB1.out g2 HO.out); clear o2 g2))
    go_ret
    have hf := HO2.out
    rw [HE.out] at hf
    exact ⟨_, rfl, (rr_own hf).1, HB2.out, (rr_own hf).2⟩
  · go_enter Try.func34, Try.ntmps34
    go_wp2_with (at_builtin; first
      | (refine wpList_app rfl (.tmp 6) (.tmp 9) rfl rfl (l := []) (k := l.take i) rfl (own_nil w w.heap.size) rfl ?p1 ?p2 ?p3 ?p4 ?p5 ?_; (case p1 => (have := HL.out; rw [List.length_take]; omega)); (case p2 => exact (HR.out.take (by omega)).congr (fun j hj => atL_take hj)); (case p3 => exact fun e => by cases e); (case p4 => (simp; omega)); (case p5 => exact Nat.le_refl _); intro v1 w1 o1 g1; simp only [List.nil_append] at o1; have HO := hid o1; have HB1 := hid (below_gr (Below.refl w.heap.size w) g1 (own_nil w w.heap.size)); clear o1 g1)
      | (refine wpList_app rfl (.tmp 11) (.tmp 15) rfl rfl (l := l.take i) (k := l.drop (i + 1)) rfl HO.out rfl ?p1 ?p2 ?p3 ?p4 ?p5 ?_; (case p1 => (have := HL.out; simp; omega)); (case p2 => exact ((HR.out.below HB1.out).off (i + 1) (by omega)).congr (fun j hj => by rw [atL_drop])); (case p3 => exact fun e => by cases e); (case p4 => (rw [List.length_take]; omega)); (case p5 => exact HB1.out.size); intro v2 w2 o2 g2; have HO2 := hid o2; have HB2 := hid (below_gr HB1.out g2 HO.out); clear o2 g2))
    go_ret
    have hf := HO2.out
    rw [HE.out] at hf
    exact ⟨_, rfl, (rr_own hf).1, HB2.out, (rr_own hf).2⟩
end Go.Proofs.Ytacgkgbhleehjaa
