/-
  The layings of slices.SortFunc and slices.Clone at the items of the queue. The walk of the queue's Items: a copy of the row, sorted. Walks of the reference's lists of items: ahead, place, without, with. Walks of the reference's place, without, with. The walk of the reference's with. Walks of the reference's Has, Push, Pop, Fix, Remove. Walks of the statements' same and step.
-/
import Derived.Shelf.SlGeneric
import Derived.Shelf.SlSortCmp.NoneTotal
import Derived.Shelf.SlicesE.Clone
import Derived.Ground.SlsfProg
import Derived.Ground.SlgnProg
import Derived.Test.YtacgkgbhleehjaaProg
import Derived.Test.YtacgkgbhleehjaaZ2
import Derived.Laws.OwnMore
namespace Go.Proofs
open Go.Shelf
def Try.sortI_ren : Go.Shelf.Ren := ⟨fun | 6 => 25 | 15 => 36 | 14 => 35 | 28 => 50 | 29 => 51 | 20 => 42 | 21 => 43 | 22 => 44 | 23 => 45 | 24 => 46 | 25 => 47 | 26 => 48 | 27 => 49 | 46 => 53 | 47 => 54 | 48 => 55 | 49 => 56 | 50 => 57 | 57 => 58 | n => n, fun | 22 => 32 | 24 => 40 | 25 => 60 | 3 => 3 | 39 => 72 | 0 => 0 | 53 => 90 | 55 => 92 | 4 => 4 | 46 => 84 | 45 => 83 | 50 => 64 | 5 => 5 | 9 => 9 | 66 => 94 | 70 => 98 | 76 => 100 | 77 => 101 | n => n, fun | n => n⟩
theorem Try.sortI : Go.Proofs.SlLaysF0.n6 Try.prog Try.sortI_ren := {
  mixed := by kernel_rfl
  f6 := ⟨Try.f25.name, by decide, Try.func25.trans (congrArg some (by kernel_rfl))⟩
  f14 := ⟨Try.f35.name, by decide, Try.func35.trans (congrArg some (by kernel_rfl))⟩
  f15 := Try.func36.trans (congrArg some (by kernel_rfl))
  f20 := ⟨Try.f42.name, by decide, Try.func42.trans (congrArg some (by kernel_rfl))⟩
  f21 := ⟨Try.f43.name, by decide, Try.func43.trans (congrArg some (by kernel_rfl))⟩
  f22 := ⟨Try.f44.name, by decide, Try.func44.trans (congrArg some (by kernel_rfl))⟩
  f23 := ⟨Try.f45.name, by decide, Try.func45.trans (congrArg some (by kernel_rfl))⟩
  f24 := ⟨Try.f46.name, by decide, Try.func46.trans (congrArg some (by kernel_rfl))⟩
  f25 := ⟨Try.f47.name, by decide, Try.func47.trans (congrArg some (by kernel_rfl))⟩
  f26 := ⟨Try.f48.name, by decide, Try.func48.trans (congrArg some (by kernel_rfl))⟩
  f27 := ⟨Try.f49.name, by decide, Try.func49.trans (congrArg some (by kernel_rfl))⟩
  f28 := Try.func50.trans (congrArg some (by kernel_rfl))
  f29 := Try.func51.trans (congrArg some (by kernel_rfl))
  f46 := ⟨Try.f53.name, by decide, Try.func53.trans (congrArg some (by kernel_rfl))⟩
  f47 := Try.func54.trans (congrArg some (by kernel_rfl))
  f48 := Try.func55.trans (congrArg some (by kernel_rfl))
  f49 := ⟨Try.f56.name, by decide, Try.func56.trans (congrArg some (by kernel_rfl))⟩
  f50 := ⟨Try.f57.name, by decide, Try.func57.trans (congrArg some (by kernel_rfl))⟩
  f57 := ⟨Try.f58.name, by decide, Try.func58.trans (congrArg some (by kernel_rfl))⟩
  t0 := Try.underlying0
  a0 := Try.isAgg0
  z0 := Try.sizeOf0
  v0 := Try.zeroValue0
  t3 := Try.underlying3
  a3 := Try.isAgg3
  z3 := Try.sizeOf3
  v3 := Try.zeroValue3
  t4 := Try.underlying4
  a4 := Try.isAgg4
  z4 := Try.sizeOf4
  v4 := Try.zeroValue4
  t5 := Try.underlying5
  a5 := Try.isAgg5
  z5 := Try.sizeOf5
  v5 := Try.zeroValue5
  t9 := Try.underlying9
  a9 := Try.isAgg9
  z9 := Try.sizeOf9
  v9 := Try.zeroValue9
  t22 := Try.underlying32
  a22 := Try.isAgg32
  z22 := Try.sizeOf32
  v22 := Try.zeroValue32
  t25 := Try.underlying60
  a25 := Try.isAgg60
  z25 := Try.sizeOf60
  v25 := Try.zeroValue60
  t39 := Try.underlying72
  a39 := Try.isAgg72
  z39 := Try.sizeOf72
  v39 := Try.zeroValue72
  t45 := Try.underlying83
  a45 := Try.isAgg83
  z45 := Try.sizeOf83
  v45 := Try.zeroValue83
  t46 := Try.underlying84
  a46 := Try.isAgg84
  z46 := Try.sizeOf84
  v46 := Try.zeroValue84
  t50 := Try.underlying64
  a50 := Try.isAgg64
  z50 := Try.sizeOf64
  v50 := Try.zeroValue64
  t53 := Try.underlying90
  a53 := Try.isAgg90
  z53 := Try.sizeOf90
  v53 := Try.zeroValue90
  t55 := Try.underlying92
  a55 := Try.isAgg92
  z55 := Try.sizeOf92
  v55 := Try.zeroValue92
  t66 := Try.underlying94
  a66 := Try.isAgg94
  z66 := Try.sizeOf94
  v66 := Try.zeroValue94
  t70 := Try.underlying98
  a70 := Try.isAgg98
  z70 := Try.sizeOf98
  v70 := Try.zeroValue98
  t76 := Try.underlying100
  a76 := Try.isAgg100
  z76 := Try.sizeOf100
  v76 := Try.zeroValue100
  t77 := Try.underlying101
  a77 := Try.isAgg101
  z77 := Try.sizeOf101
  v77 := Try.zeroValue101 }
def Try.cloneI_ren : Go.Shelf.Ren := ⟨fun | 41 => 24 | n => n, fun | 22 => 32 | 23 => 40 | 4 => 4 | n => n, fun | n => n⟩
theorem Try.cloneI : Go.Proofs.SlLaysE0.n41 Try.prog Try.cloneI_ren := {
  mixed := by kernel_rfl
  f41 := ⟨Try.f24.name, by decide, Try.func24.trans (congrArg some (by kernel_rfl))⟩
  t4 := Try.underlying4
  a4 := Try.isAgg4
  z4 := Try.sizeOf4
  v4 := Try.zeroValue4
  t22 := Try.underlying32
  a22 := Try.isAgg32
  z22 := Try.sizeOf32
  v22 := Try.zeroValue32 }
end Go.Proofs
namespace Go.Proofs.Ytacgkgbhleehjaa
open Go.RowKit Go.Sort Go.MapKept Go.Shelf

/-- An item's two cells. -/
def encI (x : Int × Int) : List Value := [.int .i64 x.1, .int .i64 x.2]
theorem lt_ahd (x y : Int × Int) : ltOf cmpI x y = decide (ahd x y) := by
  unfold ltOf
  by_cases h : ahd x y
  · rw [decide_eq_true h, decide_eq_true ((cmpI_neg x y).2 h)]
  · rw [decide_eq_false h, decide_eq_false (fun e => h ((cmpI_neg x y).1 e))]
theorem swoI : SWO (ltOf cmpI) where
  irrefl x := by rw [lt_ahd]; exact decide_eq_false (ahd_irrefl x)
  trans x y z h1 h2 := by rw [lt_ahd] at *; exact decide_eq_true (ahd_trans (of_decide_eq_true h1) (of_decide_eq_true h2))
  ntrans x y z h1 h2 := by rw [lt_ahd] at *; exact decide_eq_false (ahd_not (of_decide_eq_false h1) (of_decide_eq_false h2))
/-- Two lists in order with the same items are one. -/
theorem ord_ext : ∀ {l k : List (Int × Int)}, l.Pairwise ahd → k.Pairwise ahd → (∀ x, x ∈ l ↔ x ∈ k) → l = k
  | [], [], _, _, _ => rfl
  | [], b :: k, _, _, h => by have := (h b).2 (List.mem_cons_self ..); cases this
  | a :: l, [], _, _, h => by have := (h a).1 (List.mem_cons_self ..); cases this
  | a :: l, b :: k, hl, hk, h => by
    obtain ⟨l1, l2⟩ := List.pairwise_cons.1 hl
    obtain ⟨k1, k2⟩ := List.pairwise_cons.1 hk
    have e : a = b := by
      rcases List.mem_cons.1 ((h a).1 (List.mem_cons_self ..)) with e | ha
      · exact e
      · rcases List.mem_cons.1 ((h b).2 (List.mem_cons_self ..)) with e | hb
        · exact e.symm
        · exact absurd (l1 b hb) (ahd_asymm (k1 a ha))
    subst e
    rw [ord_ext l2 k2 (fun x => ⟨fun hx => ?_, fun hx => ?_⟩)]
    · rcases List.mem_cons.1 ((h x).1 (List.mem_cons_of_mem _ hx)) with e | h'
      · subst e; exact absurd (l1 x hx) (ahd_irrefl _)
      · exact h'
    · rcases List.mem_cons.1 ((h x).2 (List.mem_cons_of_mem _ hx)) with e | h'
      · subst e; exact absurd (k1 x hx) (ahd_irrefl _)
      · exact h'
/-- The items of a list by their places. -/
def atL (l : List (Int × Int)) (i : Nat) : Int × Int := l.getD i (0, 0)
theorem atL_get {l : List (Int × Int)} {i : Nat} (h : i < l.length) : l[i]? = some (atL l i) := by
  unfold atL; rw [List.getD_eq_getElem?_getD, List.getElem?_eq_getElem h]; rfl
/-- What Items answers: a row of its own that holds the list. -/
def ItA (w : World) (l : List (Int × Int)) (e : Ending) (w' : World) : Prop :=
  ∃ ao cap, e = .returned (.slice ao l.length cap) ∧ l.length ≤ cap ∧ cap ≤ 9223372036854775807 ∧ Below w.heap.size w w' ∧ ((ao = none ∧ l = [] ∧ cap = 0) ∨ ∃ g, ao = some ⟨g, 0, none⟩ ∧ w.heap.size ≤ g ∧ Ro w' g cap l.length (atL l))
theorem flat_list (d : Nat → Int × Int) (n : Nat) : ∀ u ∈ flat d n, u.oneCell' = true := by
  induction n with
  | zero => intro u hu; cases hu
  | succ n ih =>
    intro u hu
    unfold flat at hu
    rcases List.mem_append.1 hu with hu | hu
    · exact ih u hu
    · simp at hu; rcases hu with rfl | rfl <;> rfl
theorem flat_cell {w : World} {g cap n : Nat} {d : Nat → Int × Int} (h : Ro w g cap n d) : ∀ (j : Nat) (u : Value), (flat d n)[j]? = some u → w.cell? ⟨g, 0 + j, none⟩ = some u := by
  intro j u hu
  have hj : j < n * 2 := by rw [← flat_len d n]; exact (List.getElem?_eq_some_iff.1 hu).1
  obtain ⟨h1, h2⟩ := flat_get (d := d) (n := n) (i := j / 2) (by omega)
  rw [Nat.zero_add]
  rcases Nat.mod_two_eq_zero_or_one j with e | e
  · have e2 : j / 2 * 2 = j := by omega
    have c := h.c0 (j / 2) (by omega)
    rw [e2] at h1 c
    rw [h1] at hu; rw [c, ← hu]
  · have e2 : j / 2 * 2 + 1 = j := by omega
    have c := h.c1 (j / 2) (by omega)
    rw [e2] at h2 c
    rw [h2] at hu; rw [c, ← hu]
theorem arr_get {n : Nat} (d : Nat → Int × Int) {i : Nat} (h : i < n) : ((Array.range n).map d)[i]! = d i := by
  rw [getElem!_pos _ i (by simpa using h)]; simp
theorem holds_ro {w : World} {g cap n : Nat} {d : Nat → Int × Int} (h : Ro w g cap n d) : HoldsK encI 2 w g 0 ((Array.range n).map d) := by
  intro j hj
  have hj' : j < n * 2 := by simpa using hj
  rw [get_flatK _ _ _ _ (by simpa using hj'), arr_get d (show j / 2 < n by omega), Nat.zero_add]
  obtain ⟨cur, hb, _⟩ := h.blk
  refine ⟨?_, free_at hb⟩
  rcases Nat.mod_two_eq_zero_or_one j with e | e
  · have c := h.c0 (j / 2) (by omega)
    rw [show j / 2 * 2 = j by omega] at c
    rw [c, e]; rfl
  · have c := h.c1 (j / 2) (by omega)
    rw [show j / 2 * 2 + 1 = j by omega] at c
    rw [c, e]; rfl
theorem ro_holds {w : World} {g cap n : Nat} {a : Array (Int × Int)} (hs : a.size = n) (hb : ∃ cur, w.heap[g]? = some (.cells cur 40 (0, 0)) ∧ cur.size = cap * 2) (h : HoldsK encI 2 w g 0 a) : Ro w g cap n (fun i => a[i]!) := by
  refine ⟨hb, fun i hi => ?_, fun i hi => ?_⟩
  · have := (h (i * 2) (by simp [hs]; omega)).1
    rw [get_flatK _ _ _ _ (by rw [hs]; omega), show i * 2 / 2 = i by omega, show i * 2 % 2 = 0 by omega, Nat.zero_add] at this
    exact this
  · have := (h (i * 2 + 1) (by simp [hs]; omega)).1
    rw [get_flatK _ _ _ _ (by rw [hs]; omega), show (i * 2 + 1) / 2 = i by omega, show (i * 2 + 1) % 2 = 1 by omega, Nat.zero_add] at this
    exact this
theorem blk_sort {w : World} {g cap m : Nat} {a : Array (Int × Int)} {os : Array Obj} (hb : ∃ cur, w.heap[g]? = some (.cells cur 40 (0, 0)) ∧ cur.size = cap) : ∃ cur, (sortWorldK encI 2 w g 0 m a os).heap[g]? = some (.cells cur 40 (0, 0)) ∧ cur.size = cap := by
  obtain ⟨cur, h1, h2⟩ := hb
  have hlt : g < w.heap.size := (Array.getElem?_eq_some_iff.1 h1).1
  refine ⟨putCells id 0 (flatK encI 2 a) cur, ?_, by simp [putCells, h2]⟩
  show ((putRowK encI 2 (Sort.ahead w m) g 0 a).heap ++ os)[g]? = _
  rw [Array.getElem?_append_left (by simp [putRowK, putRow, mapBlock, Sort.ahead]; exact hlt)]
  simp [putRowK, putRow, mapBlock, Sort.ahead, Array.getElem?_modify, h1, onCells]
theorem below_sort {w : World} {g m : Nat} {a : Array (Int × Int)} {os : Array Obj} (hg : g < w.heap.size) : Below g w (sortWorldK encI 2 w g 0 m a os) := by
  refine ⟨rfl, rfl, rfl, ?_, fun k hk => ?_⟩
  · show w.heap.size ≤ ((putRowK encI 2 (Sort.ahead w m) g 0 a).heap ++ os).size
    simp [putRowK, putRow, mapBlock, Sort.ahead]
  · show ((putRowK encI 2 (Sort.ahead w m) g 0 a).heap ++ os)[k]? = _
    have hkw : k < w.heap.size := by omega
    rw [Array.getElem?_append_left (by simp [putRowK, putRow, mapBlock, Sort.ahead]; exact hkw)]
    simp [putRowK, putRow, mapBlock, Sort.ahead, Array.getElem?_modify, Nat.ne_of_gt hk]
theorem sort_c {W : World} {g cap n : Nat} {d : Nat → Int × Int} (h : Ro W g cap n d) (hn : n ≤ 1000000) (inj : ∀ i j, i < n → j < n → (d i).1 = (d j).1 → i = j) {l : List (Int × Int)} (ho : l.Pairwise ahd) (hm : ∀ x, x ∈ l ↔ ∃ i, i < n ∧ d i = x) (hl : l.length = n) :
    Calls Try.prog 25 #[.slice (some ⟨g, 0, none⟩) n cap, .func (.func 26) #[] #[]] W fun e W' => e = .returned (.tuple #[]) ∧ Ro W' g cap n (atL l) ∧ Below g W W' := by
  obtain ⟨cur, hb, hcs⟩ := h.blk
  have hlt : g < W.heap.size := (Array.getElem?_eq_some_iff.1 hb).1
  have eg : ∀ args w, (callFunc 26 args).run Try.prog w = .ok (.enter 26 args) w := enters_of Try.func26 (by kernel_rfl) rfl
  have hsz : ((Array.range n).map d).size = n := by simp
  have hcon := AnyQ.slices_SortFunc Try.sortI 2 Try.isAgg40 Try.sizeOf40 encI (fun _ => rfl) (fun x v hv => by simp [encI] at hv; rcases hv with rfl | rfl <;> rfl) cmpI swoI 26 #[] g 0 cap ((Array.range n).map d) W eg (fun m os dk _ x y => by
    have := cmp_c (sortWorldK encI 2 W g 0 m dk os) x y
    exact this) (holds_ro h) hlt (by rw [hsz]; omega)
  rw [hsz] at hcon
  change Calls Try.prog 25 _ _ _ at hcon
  refine hcon.mono ?_
  rintro e W' ⟨rfl, d', k, os, hp, hs, rfl⟩
  have hds : d'.size = n := hp.1.trans hsz
  have hmem : ∀ x, x ∈ d'.toList ↔ ∃ i, i < n ∧ d i = x := fun x => by
    have h1 := hp.2.2
    rw [Array.extract_eq_self_of_le (by omega), Array.extract_eq_self_of_le (by rw [hsz]; exact Nat.le_refl _)] at h1
    rw [h1.mem_iff]
    simp
  have hnd : d'.toList.Nodup := by
    have h1 := hp.2.2
    rw [Array.extract_eq_self_of_le (by omega), Array.extract_eq_self_of_le (by rw [hsz]; exact Nat.le_refl _)] at h1
    rw [h1.nodup_iff]
    simp only [Array.toList_map, Array.toList_range]
    rw [List.Nodup, List.pairwise_map]
    refine List.Pairwise.imp_of_mem ?_ (List.nodup_range (n := n))
    intro a b ha hb' hne e
    exact hne (inj a b (List.mem_range.1 ha) (List.mem_range.1 hb') (by rw [e]))
  have hord : d'.toList.Pairwise ahd := by
    rw [List.pairwise_iff_getElem]
    intro i j hi hj hij
    have hi' : i < d'.size := by simpa using hi
    have hj' : j < d'.size := by simpa using hj
    have h2 := hs i j (Nat.zero_le _) hij (by omega)
    rw [lt_ahd, getElem!_pos d' i hi', getElem!_pos d' j hj'] at h2
    rcases ahd_tri (of_decide_eq_false h2) with e | e
    · exfalso
      have := (List.getElem_inj hnd).1 (show d'.toList[j] = d'.toList[i] by simpa using e)
      omega
    · simpa using e
  have hll : d'.toList = l := ord_ext hord ho (fun x => (hmem x).trans (hm x).symm)
  refine ⟨rfl, ?_, below_sort hlt⟩
  have hH : HoldsK encI 2 (sortWorldK encI 2 W g 0 k d' os) g 0 d' := holdsK_grow encI 2 _ _ _ _ _ (by show g < (putRowK encI 2 (Sort.ahead W k) g 0 d').heap.size; simp [putRowK, putRow, mapBlock, Sort.ahead]; exact hlt) (holdsK_putRowK encI 2 (Sort.ahead W k) g 0 _ d' (holdsK_ahead encI 2 W k g 0 _ (holds_ro h)) (by rw [hds, hsz]))
  refine (ro_holds hds (blk_sort h.blk) hH).congr (fun i hi => ?_)
  have hi' : i < d'.size := by omega
  show atL l i = d'[i]!
  rw [getElem!_pos d' i hi', ← hll]
  unfold atL
  rw [List.getD_eq_getElem?_getD, List.getElem?_eq_getElem (by simpa using hi')]
  simp
theorem sort0_c (p : Option Addr) (cap : Nat) (W : World) : Calls Try.prog 25 #[.slice p 0 cap, .func (.func 26) #[] #[]] W fun e W' => e = .returned (.tuple #[]) ∧ W' = W := by
  have := AnyF.slices_SortFunc_none Try.sortI p cap (.func (.func 26) #[] #[]) W
  exact this
theorem clone_c {W : World} {g cap n : Nat} {d : Nat → Int × Int} (h : Ro W g cap n d) (hn : n ≤ 1000000) :
    Calls Try.prog 24 #[.slice (some ⟨g, 0, none⟩) n cap] W fun e W' => ∃ g' cap', e = .returned (.slice (some ⟨g', 0, none⟩) n cap') ∧ W.heap.size ≤ g' ∧ n ≤ cap' ∧ cap' ≤ 9223372036854775807 ∧ Ro W' g' cap' n d ∧ Below W.heap.size W W' := by
  obtain ⟨i, hi, hz0, hz1, hz2⟩ := info_parts Try.infoItem
  have hcon := AnyE.slices_Clone Try.cloneI i _ 2 16 hi hz0 hz1 hz2 rfl (by decide) Try.sizeOf40 g 0 n cap (flat d n) W (flat_len d n) (by unfold maxLen; omega) (by omega) (flat_cell h) (flat_list d n)
  change Calls Try.prog 24 _ _ _ at hcon
  refine hcon.mono ?_
  rintro e W' ⟨v', rfl, ho, hne, hb⟩
  rcases ho.2 with ⟨hv, _⟩ | ⟨g', cap', cur, rfl, hg, hbk, h1, h2, hs, ht⟩
  · exact absurd hv hne
  · refine ⟨g', cap', rfl, hg, h1, by unfold maxLen at h2; omega, ⟨⟨cur, hbk, hs⟩, fun j hj => ?_, fun j hj => ?_⟩, hb⟩
    · have := (flat_get (d := d) hj).1
      rw [← ht, List.getElem?_take_of_lt (by omega)] at this
      simp [World.cell?, hbk]; simpa using this
    · have := (flat_get (d := d) hj).2
      rw [← ht, List.getElem?_take_of_lt (by omega)] at this
      simp [World.cell?, hbk]; simpa using this
theorem clone0_c (W : World) (n c : Nat) : Calls Try.prog 24 #[.slice none n c] W fun e W' => e = .returned (.slice none 0 0) ∧ W' = W := by
  have := AnyE.slices_Clone_nil Try.cloneI n c W
  exact this
theorem items_c {w : World} {q : Nat} {F : Nat → Prop} {l : List (Int × Int)} (h : Ql w q F l) : Calls Try.prog 11 #[.pointer (some ⟨q, 0, none⟩)] w fun e w' => ItA w l e w' := by
  have ho := h.ord
  rcases h.qu with ⟨h0, hn, _, _⟩ | ⟨g, cap, m, d, h0, h1, h2, h3⟩
  · obtain rfl : l = [] := List.eq_nil_of_length_eq_zero hn
    have f0 := (cells_at h0).1
    clear h h0
    go_enter Try.func11, Try.ntmps11
    go_wp2_with (first
      | (go_at_call 24; refine (clone0_c _ _ _).mono ?_; rintro e w2 ⟨rfl, rfl⟩)
      | (go_at_call 25; refine (sort0_c _ _ _).mono ?_; rintro e w3 ⟨rfl, rfl⟩))
    go_ret
    exact ⟨none, 0, rfl, Nat.le_refl _, by omega, Below.refl _ _, .inl ⟨rfl, rfl, rfl⟩⟩
  · have f0 := h0.f0
    have hlim := h0.lim
    have HC := hid (clone_c h0.ro hlim)
    have HI := hid h0.inj; have H2 := hid h2; have HO := hid ho
    clear h h0 h1 h2 h3 ho
    generalize hn : l.length = n at *
    have HN := hid hn
    clear hn
    go_enter Try.func11, Try.ntmps11
    go_wp2_with (first
      | (go_at_call 24; refine HC.out.mono ?_; rintro e w2 ⟨g', cap', rfl, hg, l1, l2, hr, hb⟩; have HR := hid hr; have HB := hid hb; have HG := hid hg; clear hr hb hg)
      | (go_at_call 25; refine (sort_c HR.out hlim HI.out HO.out H2.out HN.out).mono ?_; rintro e w3 ⟨rfl, hr3, hb3⟩))
    go_ret
    refine ⟨some ⟨g', 0, none⟩, cap', by rw [HN.out]; rfl, by rw [HN.out]; exact l1, l2, HB.out.trans (hb3.mono HG.out), .inr ⟨g', rfl, HG.out, by rw [HN.out]; exact hr3⟩⟩
end Go.Proofs.Ytacgkgbhleehjaa
namespace Go.Proofs.Ytacgkgbhleehjaa
open Go.RowKit Go.Sort Go.MapKept

/-- n items at an address. -/
def RL (w : World) (ao : Option Addr) (n : Nat) (d : Nat → Int × Int) : Prop :=
  ∀ j, j < n → ∃ b o, ao = some ⟨b, o, none⟩ ∧ w.cell? ⟨b, o + j * 2, none⟩ = some (.int .i64 (d j).1) ∧ w.cell? ⟨b, o + j * 2 + 1, none⟩ = some (.int .i64 (d j).2)
theorem RL.below {w w' ao n d} (h : RL w ao n d) (hb : Below w.heap.size w w') : RL w' ao n d := fun j hj => by
  obtain ⟨b, o, e, h0, h1⟩ := h j hj
  exact ⟨b, o, e, (hb.cell (World.block_lt_of_cell? w _ h0)).trans h0, (hb.cell (World.block_lt_of_cell? w _ h1)).trans h1⟩
theorem RL.kept {w w' ao n d} (h : RL w ao n d) (hk : ∀ a, ao = some a → w'.heap[a.block]? = w.heap[a.block]?) : RL w' ao n d := fun j hj => by
  obtain ⟨b, o, e, h0, h1⟩ := h j hj
  have hb := hk _ e
  exact ⟨b, o, e, (World.cell?_of_block (a := ⟨b, o + j * 2, none⟩) hb).trans h0, (World.cell?_of_block (a := ⟨b, o + j * 2 + 1, none⟩) hb).trans h1⟩
theorem RL.take {w ao n d m} (h : RL w ao n d) (hm : m ≤ n) : RL w ao m d := fun j hj => h j (by omega)
theorem RL.drop {w ao n d} (h : RL w ao n d) (k : Nat) (hk : k ≤ n) (cap : Nat) (hc : n ≤ cap) : RL w (if cap = k then ao else ao.map (·.add (k * 2))) (n - k) (fun j => d (k + j)) := fun j hj => by
  obtain ⟨b, o, e, h0, h1⟩ := h (k + j) (by omega)
  rw [if_neg (by omega)]
  subst e
  refine ⟨b, o + k * 2, ?_, ?_, ?_⟩
  · simp only [Option.map_some]
    congr 1
    by_cases hz : k * 2 = 0
    · rw [hz]; simp [Addr.add]
    · simp [Addr.add, hz]
  · rw [show o + k * 2 + j * 2 = o + (k + j) * 2 by omega]; exact h0
  · rw [show o + k * 2 + j * 2 + 1 = o + (k + j) * 2 + 1 by omega]; exact h1
/-- A list of the reference's items. -/
def Rr (w : World) (v : Value) (l : List (Int × Int)) : Prop :=
  ∃ ao cap, v = .slice ao l.length cap ∧ RL w ao l.length (atL l) ∧ (ao = none → l.length = 0 ∧ cap = 0) ∧ l.length ≤ cap ∧ cap ≤ 9223372036854775807
/-- Its memory. -/
def Vb (v : Value) (k : Nat) : Prop := ∃ ao n cap, v = .slice ao n cap ∧ ∃ a, ao = some a ∧ a.block = k
theorem Rr.below {w w' v l} (h : Rr w v l) (hb : Below w.heap.size w w') : Rr w' v l := by
  obtain ⟨ao, cap, e, h1, h2⟩ := h; exact ⟨ao, cap, e, h1.below hb, h2⟩
theorem Rr.kept {w w' v l} (h : Rr w v l) (hk : ∀ k, Vb v k → w'.heap[k]? = w.heap[k]?) : Rr w' v l := by
  obtain ⟨ao, cap, e, h1, h2⟩ := h; exact ⟨ao, cap, e, h1.kept (fun a ha => hk a.block ⟨ao, _, cap, e, a, ha, rfl⟩), h2⟩
theorem flat_getL {n : Nat} {d : Nat → Int × Int} {j : Nat} {u : Value} (hu : (flat d n)[j]? = some u) : j < n * 2 ∧ ((j % 2 = 0 ∧ u = .int .i64 (d (j / 2)).1) ∨ (j % 2 = 1 ∧ u = .int .i64 (d (j / 2)).2)) := by
  have hj : j < n * 2 := by rw [← flat_len d n]; exact (List.getElem?_eq_some_iff.1 hu).1
  obtain ⟨h1, h2⟩ := flat_get (d := d) (n := n) (i := j / 2) (by omega)
  refine ⟨hj, ?_⟩
  rcases Nat.mod_two_eq_zero_or_one j with e | e
  · rw [show j / 2 * 2 = j by omega] at h1
    rw [h1] at hu; exact .inl ⟨e, (Option.some.inj hu).symm⟩
  · rw [show j / 2 * 2 + 1 = j by omega] at h2
    rw [h2] at hu; exact .inr ⟨e, (Option.some.inj hu).symm⟩
theorem addr_add' (b o j : Nat) : (⟨b, o, none⟩ : Addr).add j = ⟨b, o + j, none⟩ := by
  by_cases h : j = 0
  · subst h; simp [Addr.add]
  · simp [Addr.add, h]
theorem RL.cells {w a n d} (h : RL w (some a) n d) : ∀ (j : Nat) (u : Value), (flat d n)[j]? = some u → w.cell? (a.add j) = some u := by
  intro j u hu
  obtain ⟨hj, hc⟩ := flat_getL hu
  obtain ⟨b, o, e, h0, h1⟩ := h (j / 2) (by omega)
  cases e
  rw [addr_add']
  rcases hc with ⟨e, rfl⟩ | ⟨e, rfl⟩
  · rw [show j = j / 2 * 2 by omega]; rw [show j / 2 * 2 / 2 = j / 2 by omega]; exact h0
  · rw [show o + j = o + j / 2 * 2 + 1 by omega]; exact h1
theorem Try.infoRef : (Try.prog.info? 53).map (fun i => (i.zero, i.size, i.bytes)) = some (some (.agg #[.int .i64 0, .int .i64 0]), 2, 16) := by kernel_rfl
/-- 'append(m, src...)', m the call's own. -/
theorem app_ref {w : World} {base : Nat} {v : Value} {n : Nat} {d : Nat → Int × Int} (h : w.ownsRow base 53 2 v n (flat d n)) {so : Option Addr} {m c : Nat} {e : Nat → Int × Int} (hs : RL w so m e) (hn : so = none → m = 0 ∧ c = 0) (hl : n + m ≤ 1000000) (hb : base ≤ w.heap.size) :
    ∃ v' w', (Builtin.append_ #[26, 26] 26 #[v, .slice so m c]).run Try.prog w = .ok v' w' ∧ w'.ownsRow base 53 2 v' (n + m) (flat d n ++ flat e m) ∧ w.grownBy w' v.ownBlock ∧ (v'.ownBlock = v.ownBlock ∨ v'.ownBlock = some w.heap.size) := by
  obtain ⟨i, hi, hz0, hz1, hz2⟩ := info_parts Try.infoRef
  cases so with
  | none =>
    obtain ⟨rfl, rfl⟩ := hn rfl
    refine ⟨v, w, run_append_owned_none (P := Try.prog) (w := w) base 26 26 53 i 2 Try.underlying26 hi v n _ h, ?_, ⟨rfl, rfl, rfl, Nat.le_refl _, fun _ _ _ => rfl⟩, .inl rfl⟩
    simpa [flat] using h
  | some a =>
    obtain ⟨v', w', h1, h2, h3, _, h5⟩ := run_append_own_at (P := Try.prog) w base 26 26 53 i _ 2 16 Try.underlying26 hi hz0 hz1 hz2 rfl (by decide) v n (flat d n) h a m c (flat e m) (flat_len e m) hs.cells (flat_list e m) (by unfold maxLen; omega) (by omega) hb
    exact ⟨v', w', h1, h2, h3, h5⟩
theorem flat_app (d e : Nat → Int × Int) (n m : Nat) : flat d n ++ flat e m = flat (fun i => if i < n then d i else e (i - n)) (n + m) := by
  induction m with
  | zero => simp only [flat, List.append_nil, Nat.add_zero]; exact (flat_congr (fun i hi => by simp [hi])).symm
  | succ m ih =>
    rw [show n + (m + 1) = (n + m) + 1 by omega]
    show flat d n ++ (flat e m ++ [.int .i64 (e m).1, .int .i64 (e m).2]) = flat (fun i => if i < n then d i else e (i - n)) (n + m) ++ _
    rw [← List.append_assoc, ih]
    have hnl : ¬ n + m < n := by omega
    simp [hnl]
theorem rr_own {w : World} {base : Nat} {v : Value} {l : List (Int × Int)} (h : w.ownsRow base 53 2 v l.length (flat (atL l) l.length)) : Rr w v l ∧ ∀ k, Vb v k → base ≤ k ∧ k < w.heap.size := by
  rcases h.2 with ⟨rfl, h0⟩ | ⟨g, cap, cur, rfl, hg, hbk, h1, h2, hs, ht⟩
  · rw [show l = [] from List.eq_nil_of_length_eq_zero h0]
    exact ⟨⟨none, 0, rfl, fun j hj => by simp at hj, fun _ => ⟨rfl, rfl⟩, Nat.le_refl _, by omega⟩, fun k ⟨ao, n, c, e, a, ha, _⟩ => by cases e; cases ha⟩
  · refine ⟨⟨some ⟨g, 0, none⟩, cap, rfl, fun j hj => ⟨g, 0, rfl, ?_, ?_⟩, (fun e => by cases e), h1, by unfold maxLen at h2; omega⟩, fun k ⟨ao, n, c, e, a, ha, hb⟩ => by cases e; cases ha; exact hb ▸ ⟨hg, (Array.getElem?_eq_some_iff.1 hbk).1⟩⟩
    · have := (flat_get (d := atL l) hj).1
      rw [← ht, List.getElem?_take_of_lt (by omega)] at this
      simp [World.cell?, hbk]; simpa using this
    · have := (flat_get (d := atL l) hj).2
      rw [← ht, List.getElem?_take_of_lt (by omega)] at this
      simp [World.cell?, hbk]; simpa using this
theorem atL_app {l k : List (Int × Int)} : ∀ i, i < (l ++ k).length → atL (l ++ k) i = if i < l.length then atL l i else atL k (i - l.length) := by
  intro i hi
  unfold atL
  simp only [List.getD_eq_getElem?_getD]
  split
  · rename_i h; rw [List.getElem?_append_left h]
  · rename_i h; rw [List.getElem?_append_right (by omega)]
theorem flat_appL (l k : List (Int × Int)) : flat (atL l) l.length ++ flat (atL k) k.length = flat (atL (l ++ k)) (l ++ k).length := by
  rw [flat_app, List.length_append]
  exact (flat_congr (fun i hi => atL_app i (by simpa using hi))).symm
theorem atL_take {l : List (Int × Int)} {k i : Nat} (hi : i < k) : atL (l.take k) i = atL l i := by
  unfold atL; simp [List.getD_eq_getElem?_getD, hi]
theorem atL_drop (l : List (Int × Int)) (k i : Nat) : atL (l.drop k) i = atL l (k + i) := by
  unfold atL; simp [List.getD_eq_getElem?_getD]
theorem RL.congr {w ao n d d'} (h : RL w ao n d) (e : ∀ i, i < n → d' i = d i) : RL w ao n d' := fun j hj => by rw [e j hj]; exact h j hj
/-- 'append(m, l[:k]...)', 'append(m, l[k:]...)' in the words of lists. -/
theorem app_list {w : World} {base : Nat} {v : Value} {l k : List (Int × Int)} (h : w.ownsRow base 53 2 v l.length (flat (atL l) l.length)) {so : Option Addr} {m c : Nat} (hm : m = k.length) (hs : RL w so m (atL k)) (hn : so = none → m = 0 ∧ c = 0) (hl : l.length + m ≤ 1000000) (hb : base ≤ w.heap.size) :
    ∃ v' w', (Builtin.append_ #[26, 26] 26 #[v, .slice so m c]).run Try.prog w = .ok v' w' ∧ w'.ownsRow base 53 2 v' (l ++ k).length (flat (atL (l ++ k)) (l ++ k).length) ∧ w.grownBy w' v.ownBlock := by
  subst hm
  obtain ⟨v', w', h1, h2, h3, _⟩ := app_ref h hs hn hl hb
  refine ⟨v', w', h1, ?_, h3⟩
  rw [flat_appL] at h2
  rw [List.length_append] at h2 ⊢
  exact h2
theorem below_gr {w0 w w' : World} {v : Value} {n : Nat} {xs : List Value} (hb : Below w0.heap.size w0 w) (hg : w.grownBy w' v.ownBlock) (ho : w.ownsRow w0.heap.size 53 2 v n xs) : Below w0.heap.size w0 w' := by
  have hs := hb.size
  refine ⟨hg.os.trans hb.os, hg.tape.trans hb.tape, hg.output.trans hb.output, Nat.le_trans hs hg.size, fun k hk => (hg.block k (by omega) (fun e => ?_)).trans (hb.block k hk)⟩
  rcases ho.2 with ⟨rfl, _⟩ | ⟨g, cap, cur, rfl, hgb, _⟩
  · cases e
  · have : k = g := by simpa [Value.ownBlock] using e
    omega
theorem own_nil (w : World) (base : Nat) : w.ownsRow base 53 2 (.slice none 0 0) ([] : List (Int × Int)).length (flat (atL []) ([] : List (Int × Int)).length) := ⟨rfl, .inl ⟨rfl, rfl⟩⟩
theorem kCb {w w' : World} {a : Addr} {v : Value} (hb : Below w.heap.size w w') (h : w.cell? a = some v) : w'.cell? a = some v := (hb.cell (World.block_lt_of_cell? w a h)).trans h
set_option maxRecDepth 100000 in
set_option maxHeartbeats 4000000 in
theorem ahead_c (a b : Int × Int) (w : World) : Calls Try.prog 41 #[.agg #[.int .i64 a.1, .int .i64 a.2], .agg #[.int .i64 b.1, .int .i64 b.2]] w fun e w' => e = .returned (.bool (ahB a b)) ∧ Below w.heap.size w w' := by
  obtain ⟨a1, a2⟩ := a
  obtain ⟨b1, b2⟩ := b
  have HB := hid (((Below.refl w.heap.size w).alloc (Nat.le_refl _) (.cells #[.int .i64 a1, .int .i64 a2] 53)).alloc ((Below.refl w.heap.size w).alloc (Nat.le_refl _) (.cells #[.int .i64 a1, .int .i64 a2] 53)).size (.cells #[.int .i64 b1, .int .i64 b2] 53))
  by_cases h1 : a2 < b2
  · have HV := hid (show ahB (a1, a2) (b1, b2) = true from decide_eq_true (.inl h1))
    have h1' : decide (a2 < b2) = true := decide_eq_true h1
    go_enter Try.func41, Try.ntmps41
    go_wp2
    go_ret
    exact ⟨by rw [HV.out]; rfl, HB.out⟩
  · have h1' : decide (a2 < b2) = false := decide_eq_false h1
    by_cases h2 : a2 = b2
    · have h2' : (a2 == b2) = true := by simp [h2]
      by_cases h3 : a1 < b1
      · have h3' : decide (a1 < b1) = true := decide_eq_true h3
        have HV := hid (show ahB (a1, a2) (b1, b2) = true from decide_eq_true (.inr ⟨h2, h3⟩))
        clear h1 h2 h3
        go_enter Try.func41, Try.ntmps41
        go_wp2
        go_ret
        exact ⟨by rw [HV.out]; rfl, HB.out⟩
      · have h3' : decide (a1 < b1) = false := decide_eq_false h3
        have HV := hid (show ahB (a1, a2) (b1, b2) = false from decide_eq_false (fun e => e.elim h1 (fun e => h3 e.2)))
        clear h1 h2 h3
        go_enter Try.func41, Try.ntmps41
        go_wp2
        go_ret
        exact ⟨by rw [HV.out]; rfl, HB.out⟩
    · have h2' : (a2 == b2) = false := by simp [h2]
      have HV := hid (show ahB (a1, a2) (b1, b2) = false from decide_eq_false (fun e => e.elim h1 (fun e => h2 e.1)))
      clear h1 h2
      go_enter Try.func41, Try.ntmps41
      go_wp2
      go_ret
      exact ⟨by rw [HV.out]; rfl, HB.out⟩
end Go.Proofs.Ytacgkgbhleehjaa
namespace Go.Proofs.Ytacgkgbhleehjaa
open Go.RowKit Go.Sort Go.MapKept

/-- Where a number stands; -1, if it doesn't. -/
def plL (l : List (Int × Int)) (id : Int) : Int := match l.findIdx? (fun x => x.1 == id) with
  | some i => i
  | none => -1
/-- .. from place i on. -/
def plF (l : List (Int × Int)) (id : Int) (i : Nat) : Int := match (l.drop i).findIdx? (fun x => x.1 == id) with
  | some j => ((i + j : Nat) : Int)
  | none => -1
theorem plF_zero (l : List (Int × Int)) (id : Int) : plL l id = plF l id 0 := by
  unfold plL plF
  simp only [List.drop_zero, Nat.zero_add]
theorem plF_end {l : List (Int × Int)} {id : Int} {i : Nat} (h : l.length ≤ i) : plF l id i = -1 := by
  unfold plF; rw [List.drop_of_length_le h]; rfl
theorem drop_at {l : List (Int × Int)} {i : Nat} (h : i < l.length) : l.drop i = atL l i :: l.drop (i + 1) := by
  rw [List.drop_eq_getElem_cons h]
  congr 1
  have := atL_get h
  rw [List.getElem?_eq_getElem h] at this
  exact Option.some.inj this
theorem plF_hit {l : List (Int × Int)} {id : Int} {i : Nat} (h : i < l.length) (e : (atL l i).1 = id) : plF l id i = i := by
  unfold plF; rw [drop_at h]; simp [List.findIdx?_cons, e]
theorem plF_miss {l : List (Int × Int)} {id : Int} {i : Nat} (h : i < l.length) (e : (atL l i).1 ≠ id) : plF l id i = plF l id (i + 1) := by
  unfold plF; rw [drop_at h]
  simp only [List.findIdx?_cons, beq_eq_false_iff_ne.2 e, Bool.false_eq_true, if_false]
  cases (l.drop (i + 1)).findIdx? (fun x => x.1 == id) with
  | none => rfl
  | some j => simp; omega
set_option maxRecDepth 100000 in
set_option maxHeartbeats 4000000 in
theorem place_c {w : World} {v : Value} {l : List (Int × Int)} (h : Rr w v l) (hl : l.length ≤ 1000000) (id : Int) : Calls Try.prog 33 #[v, .int .i64 id] w fun e w' => e = .returned (.int .i64 (plL l id)) ∧ Below w.heap.size w w' := by
  obtain ⟨ao, cap, rfl, hr, hn, hc, ht⟩ := h
  have HR := hid hr
  have HZ := hid (plF_zero l id)
  clear hr hn
  go_enter Try.func33, Try.ntmps33
  go_wp2_with fail
  go_loopw [9] (fun t wr => ∃ (i : Nat), i ≤ l.length ∧ t = .int .i64 i ∧ Hid (Below w.heap.size w wr) ∧ Hid (plF l id 0 = plF l id i)) (fun t _ => l.length - (intOf t).toNat)
  case atStart => exact ⟨0, by omega, rfl, Below.refl _ _, rfl⟩
  case round =>
    obtain ⟨i, hi, rfl, HB, HE⟩ := hrel
    by_cases hlt : i < l.length
    · obtain ⟨b, o, rfl, c0, c1⟩ := (HR.out.below HB.out) i hlt
      have hlt' : (i : Int) < l.length := by omega
      have HB2 := hid (HB.out.alloc HB.out.size (.cells #[.int .i64 (atL l i).1, .int .i64 (atL l i).2] 53))
      by_cases he : (atL l i).1 = id
      · have HP := hid (plF_hit hlt he)
        generalize (atL l i).2 = y at *
        generalize (atL l i).1 = x at *
        have he' : (x == id) = true := by simp [he]
        clear he
        go_wp2_with fail
        go_ret
        exact ⟨by rw [HZ.out, HE.out, HP.out]; rfl, HB2.out⟩
      · have HP := hid (plF_miss hlt he)
        generalize (atL l i).2 = y at *
        generalize (atL l i).1 = x at *
        have he' : (x == id) = false := by simp [he]
        clear he
        go_wp2_with fail
        go_roundw
        case rel => exact ⟨i + 1, by omega, by go_num, HB2, HE.out.trans HP.out⟩
        case measure => simp [intOf]; omega
    · have hlt' : decide ((i : Int) < l.length) = false := decide_eq_false (by omega)
      have HP := hid (plF_end (id := id) (show l.length ≤ i by omega))
      go_wp2_with fail
      go_ret
      exact ⟨by rw [HZ.out, HE.out, HP.out]; rfl, HB.out⟩
/-- A list that the reference made. -/
def RrN (w : World) (l : List (Int × Int)) (e : Ending) (w' : World) : Prop := ∃ v, e = .returned v ∧ Rr w' v l ∧ Below w.heap.size w w' ∧ ∀ k, Vb v k → w.heap.size ≤ k ∧ k < w'.heap.size
theorem erase_split (l : List (Int × Int)) (i : Nat) : l.eraseIdx i = l.take i ++ l.drop (i + 1) := List.eraseIdx_eq_take_drop_succ l i
/-- 'append(m, src...)' at the operation. -/
theorem wpList_app {w : World} {ops : Array Oper} {rest : List Oper} {o : Oper} {a : Act} {Q : Exit → Act → World → Prop} (hgd : o.guard = none) (s x : Operand)
    (ho : o.op = .call { callee := .builtin .append, args := #[s, x], argTypes := #[26, 26] }) (hty : o.type = 26) {base : Nat} {v : Value} {l k : List (Int × Int)} (hs : a.eval s = v) (h : w.ownsRow base 53 2 v l.length (flat (atL l) l.length))
    {so : Option Addr} {m c : Nat} (hx : a.eval x = .slice so m c) (hm : m = k.length) (hr : RL w so m (atL k)) (hn : so = none → m = 0 ∧ c = 0) (hl : l.length + m ≤ 1000000) (hb : base ≤ w.heap.size)
    (hK : ∀ v' w', w'.ownsRow base 53 2 v' (l ++ k).length (flat (atL (l ++ k)) (l ++ k).length) → w.grownBy w' v.ownBlock → wpList Try.prog ops Q rest (a.put o.dst v') w') : wpList Try.prog ops Q (o :: rest) a w := by
  refine wpList_plain hgd fun K hK' => ?_
  obtain ⟨v', w', hr', h2, h3⟩ := app_list h hm hr hn hl hb
  rw [← hty] at hr'
  unfold Oper.wp execOp
  simp only [ho, resolve, invoke, builtin, Sem.run_bind, Sem.run_pure, Result.andThen_ok, List.map_toArray, List.map_cons, List.map_nil, hs, hx]
  rw [hty] at hr'
  simp only [hty, hr']
  exact hK' _ _ (hK v' w' h2 h3)
theorem RL.off {w b o n d} (h : RL w (some ⟨b, o, none⟩) n d) (k : Nat) {n' : Nat} (hn : n' + k ≤ n) : RL w (some ⟨b, o + k * 2, none⟩) n' (fun j => d (k + j)) := fun j hj => by
  obtain ⟨b', o', e, h0, h1⟩ := h (k + j) (by omega)
  cases e
  refine ⟨b, o + k * 2, rfl, ?_, ?_⟩
  · rw [show o + k * 2 + j * 2 = o + (k + j) * 2 by omega]; exact h0
  · rw [show o + k * 2 + j * 2 + 1 = o + (k + j) * 2 + 1 by omega]; exact h1
theorem RL.nil (w : World) (ao : Option Addr) (d : Nat → Int × Int) : RL w ao 0 d := fun j hj => by omega
set_option maxRecDepth 100000 in
set_option maxHeartbeats 4000000 in
theorem without_c {w : World} {v : Value} {l : List (Int × Int)} (h : Rr w v l) (hl : l.length ≤ 500000) {i : Nat} (hi : i < l.length) : Calls Try.prog 34 #[v, .int .i64 i] w fun e w' => RrN w (l.eraseIdx i) e w' := by
  obtain ⟨ao, cap, rfl, hr, hn, hc, ht⟩ := h
  obtain ⟨b, o, rfl, _⟩ := hr 0 (by omega)
  have HR := hid hr
  have hi' : (i : Int) ≤ cap := by omega
  have hi2 : (i : Int) + 1 ≤ l.length := by omega
  have hi3 : (l.length : Int) ≤ cap := by omega
  generalize hL : l.length = L at *
  have HL := hid hL
  clear hr hn hL
  have HE := hid (show l.take i ++ l.drop (i + 1) = l.eraseIdx i from (erase_split l i).symm)
  by_cases hcap : cap = i + 1
  · go_enter Try.func34, Try.ntmps34
    go_wp2_with (at_builtin; first
      | (refine wpList_app rfl (.tmp 6) (.tmp 9) rfl rfl (l := []) (k := l.take i) rfl (own_nil w w.heap.size) rfl ?p1 ?p2 ?p3 ?p4 ?p5 ?_; (case p1 => (have := HL.out; rw [List.length_take]; omega)); (case p2 => exact (HR.out.take (by omega)).congr (fun j hj => atL_take hj)); (case p3 => exact fun e => by cases e); (case p4 => (simp; omega)); (case p5 => exact Nat.le_refl _); intro v1 w1 o1 g1; simp only [List.nil_append] at o1; have HO := hid o1; have HB1 := hid (below_gr (Below.refl w.heap.size w) g1 (own_nil w w.heap.size)); clear o1 g1)
      | (refine wpList_app rfl (.tmp 11) (.tmp 15) rfl rfl (l := l.take i) (k := l.drop (i + 1)) rfl HO.out rfl ?p1 ?p2 ?p3 ?p4 ?p5 ?_; (case p1 => (have := HL.out; simp; omega)); (case p2 => (rw [show L - (i + 1) = 0 by omega]; exact RL.nil _ _ _)); (case p3 => exact fun e => by cases e); (case p4 => (rw [List.length_take]; omega)); (case p5 => exact HB1.out.size); intro v2 w2 o2 g2; have HO2 := hid o2; have HB2 := hid (below_gr HB1.out g2 HO.out); clear o2 g2))
    go_ret
    have hf := HO2.out
    rw [HE.out] at hf
    exact ⟨_, rfl, (rr_own hf).1, HB2.out, (rr_own hf).2⟩
  · go_enter Try.func34, Try.ntmps34
    go_wp2_with (at_builtin; first
      | (refine wpList_app rfl (.tmp 6) (.tmp 9) rfl rfl (l := []) (k := l.take i) rfl (own_nil w w.heap.size) rfl ?p1 ?p2 ?p3 ?p4 ?p5 ?_; (case p1 => (have := HL.out; rw [List.length_take]; omega)); (case p2 => exact (HR.out.take (by omega)).congr (fun j hj => atL_take hj)); (case p3 => exact fun e => by cases e); (case p4 => (simp; omega)); (case p5 => exact Nat.le_refl _); intro v1 w1 o1 g1; simp only [List.nil_append] at o1; have HO := hid o1; have HB1 := hid (below_gr (Below.refl w.heap.size w) g1 (own_nil w w.heap.size)); clear o1 g1)
      | (refine wpList_app rfl (.tmp 11) (.tmp 15) rfl rfl (l := l.take i) (k := l.drop (i + 1)) rfl HO.out rfl ?p1 ?p2 ?p3 ?p4 ?p5 ?_; (case p1 => (have := HL.out; simp; omega)); (case p2 => exact ((HR.out.below HB1.out).off (i + 1) (by omega)).congr (fun j hj => by rw [atL_drop])); (case p3 => exact fun e => by cases e); (case p4 => (rw [List.length_take]; omega)); (case p5 => exact HB1.out.size); intro v2 w2 o2 g2; have HO2 := hid o2; have HB2 := hid (below_gr HB1.out g2 HO.out); clear o2 g2))
    go_ret
    have hf := HO2.out
    rw [HE.out] at hf
    exact ⟨_, rfl, (rr_own hf).1, HB2.out, (rr_own hf).2⟩
end Go.Proofs.Ytacgkgbhleehjaa
namespace Go.Proofs.Ytacgkgbhleehjaa
open Go.RowKit Go.Sort Go.MapKept

theorem ins_at {l : List (Int × Int)} {x : Int × Int} {k : Nat} (hk : k ≤ l.length) (h1 : ∀ j, j < k → ahd (atL l j) x) (h2 : k = l.length ∨ ¬ ahd (atL l k) x) : l.take k ++ [x] ++ l.drop k = insL l x := by
  induction l generalizing k with
  | nil => simp at hk; subst hk; rfl
  | cons a r ih =>
    cases k with
    | zero =>
      have h3 : ¬ ahd a x := by
        rcases h2 with h2 | h2
        · simp at h2
        · exact h2
      simp [insL, ahB, h3]
    | succ k =>
      have h0 : ahd a x := h1 0 (by omega)
      have := ih (k := k) (by simpa using hk) (fun j hj => h1 (j + 1) (by omega)) (by simpa [atL] using h2)
      have e : insL (a :: r) x = a :: insL r x := by simp [insL, ahB, h0]
      rw [e, ← this]
      simp
theorem rl_one (w : World) (x0 x1 : Int) : RL (w.alloc (.cells #[.int .i64 x0, .int .i64 x1] 53)) (some ⟨w.heap.size, 0, none⟩) 1 (atL [(x0, x1)]) := fun j hj => by
  obtain rfl : j = 0 := by omega
  have := cells_at (heap_alloc w (.cells #[.int .i64 x0, .int .i64 x1] 53)).1
  exact ⟨w.heap.size, 0, rfl, this.1, this.2⟩
theorem kBd0 {w w' : World} (h : Below w.drew.heap.size w.drew w') : Below w.heap.size w w' := ⟨h.os, h.tape, h.output, h.size, h.block⟩
theorem kBd {w w' : World} {B : Nat} (h : Below w.drew.heap.size w.drew w') (hB : B ≤ w.heap.size) : Below B w w' := Below.mono (kBd0 h) hB
set_option maxRecDepth 100000 in
set_option maxHeartbeats 8000000 in
theorem withS_c {w : World} {b o cap : Nat} {l : List (Int × Int)} {x0 x1 : Int} (hr : RL w (some ⟨b, o, none⟩) l.length (atL l)) (hc : l.length ≤ cap) (hl : l.length ≤ 400000) : Calls Try.prog 32 #[.slice (some ⟨b, o, none⟩) l.length cap, .agg #[.int .i64 x0, .int .i64 x1]] w fun e w' => RrN w (insL l (x0, x1)) e w' := by
  have h1 : Below w.heap.size w (w.alloc (.cells #[.int .i64 x0, .int .i64 x1] 53)) := (Below.refl _ _).alloc (Nat.le_refl _) _
  have bx := cells_at (heap_alloc w (.cells #[.int .i64 x0, .int .i64 x1] 53)).1
  have H1 := hid h1; have HR := hid hr; have BX := hid bx
  have hc' : (l.length : Int) ≤ cap := by omega
  generalize hL : l.length = L at *
  have HL := hid hL
  clear h1 hr bx hL
  go_enter Try.func32, Try.ntmps32
  go_wp2_with fail
  generalize hw1 : w.alloc (.cells #[.int .i64 x0, .int .i64 x1] 53) = w1 at *
  generalize hB : w.heap.size = B at *
  have hBw := hid hB
  clear hw1
  go_loopw [5] (fun t wr => ∃ (k : Nat), k ≤ L ∧ t = .int .i64 k ∧ Hid (Below w1.heap.size w1 wr) ∧ Hid (∀ j, j < k → ahd (atL l j) (x0, x1))) (fun t _ => L - (intOf t).toNat)
  case atStart => exact ⟨0, by omega, rfl, Below.refl _ _, fun j hj => by omega⟩
  case round =>
    obtain ⟨k, hk, rfl, HB, HE⟩ := hrel
    have y0 : wr.cell? ⟨B, 0, none⟩ = some (.int .i64 x0) := kCb HB.out BX.out.1
    have y1 : wr.cell? ⟨B, 1, none⟩ = some (.int .i64 x1) := kCb HB.out BX.out.2
    have hs1 : w.heap.size ≤ w1.heap.size := H1.out.size
    have HW := hid (show Below w.heap.size w wr from by have := H1.out; rw [← hBw.out] at this; exact this.trans (HB.out.mono this.size))
    have HRr := hid (HR.out.below (show Below w.heap.size w wr from HW.out))
    by_cases hlt : k < L
    · have hlt' : (k : Int) < L := by omega
      obtain ⟨b', o', eb, c0, c1⟩ := HRr.out k hlt
      cases eb
      by_cases ha : ahd (atL l k) (x0, x1)
      · have HA := hid (fun W => ahead_c (atL l k) (x0, x1) W)
        have hav : ahB (atL l k) (x0, x1) = true := decide_eq_true ha
        rw [hav] at HA
        have HE2 := hid (show ∀ j, j < k + 1 → ahd (atL l j) (x0, x1) from fun j hj => by
          by_cases e : j = k
          · subst e; exact ha
          · exact HE.out j (by omega))
        generalize (atL l k).2 = d1 at *
        generalize (atL l k).1 = d0 at *
        clear ha hav HE
        go_wp2_with fail
        refine wp_region_held_drew (S := (fun w' => w'.cell? ⟨b, o + k * 2, none⟩ = some (.int .i64 d0) ∧ w'.cell? ⟨b, o + k * 2 + 1, none⟩ = some (.int .i64 d1) ∧ w'.cell? ⟨B, 0, none⟩ = some (.int .i64 x0) ∧ w'.cell? ⟨B, 1, none⟩ = some (.int .i64 x1))) (by kernel_rfl) ?_ (fun hHeld => ?_)
        · (refine ⟨?_, ?_, ?_, ?_⟩ <;> repeat (with_reducible first | assumption | refine kCd ?_))
        refine wpAnyH_take (i := 0) (v := ?_) rfl (by kernel_rfl) (by kernel_rfl) (by kernel_rfl) (fun _ _ _ h => h) (Or.inl ⟨by rfl, ?_⟩) (by assumption) ?_
        rotate_left
        (focus (intro w0 hSw; (try dsimp only at hSw); go_simp <;> with_reducible rfl))
        simp only [List.getElem_toArray, List.getElem_cons_zero, Act.put, List.setIfInBounds_toArray, List.set_cons_zero, List.set_cons_succ]
        refine wpAnyH_take (i := 1) (v := ?_) rfl (by kernel_rfl) (by kernel_rfl) (by kernel_rfl) (fun _ _ _ h => h) (Or.inl ⟨by rfl, ?_⟩) (by assumption) ?_
        rotate_left
        (focus (intro w0 hSw; (try dsimp only at hSw); go_simp <;> with_reducible rfl))
        simp only [List.getElem_toArray, List.getElem_cons_succ, List.getElem_cons_zero, Act.put, List.setIfInBounds_toArray, List.set_cons_zero, List.set_cons_succ]
        refine wpAnyH_take (i := 2) (v := ?_) rfl (by kernel_rfl) (by kernel_rfl) (by kernel_rfl) (fun _ _ _ h => h) (Or.inl ⟨by rfl, ?_⟩) (by assumption) ?_
        rotate_left
        (focus (intro w0 hSw; (try dsimp only at hSw); go_simp <;> with_reducible rfl))
        simp only [List.getElem_toArray, List.getElem_cons_succ, List.getElem_cons_zero, Act.put, List.setIfInBounds_toArray, List.set_cons_zero, List.set_cons_succ]
        refine wpAnyH_take (i := 3) (v := ?_) rfl (by kernel_rfl) (by kernel_rfl) (by kernel_rfl) (fun _ _ _ h => h) (Or.inl ⟨by rfl, ?_⟩) (by assumption) ?_
        rotate_left
        (focus (intro w0 hSw; (try dsimp only at hSw); go_simp <;> with_reducible rfl))
        simp only [List.getElem_toArray, List.getElem_cons_succ, List.getElem_cons_zero, Act.put, List.setIfInBounds_toArray, List.set_cons_zero, List.set_cons_succ]
        refine wpAnyH_take (i := 4) (v := ?_) rfl (by kernel_rfl) (by kernel_rfl) (by kernel_rfl) (fun _ _ _ h => h) (Or.inl ⟨by rfl, ?_⟩) (by assumption) ?_
        rotate_left
        (focus (intro w0 hSw; (try dsimp only at hSw); go_simp <;> with_reducible rfl))
        simp only [List.getElem_toArray, List.getElem_cons_succ, List.getElem_cons_zero, Act.put, List.setIfInBounds_toArray, List.set_cons_zero, List.set_cons_succ]
        refine wpAnyH_take (i := 5) (v := ?_) rfl (by kernel_rfl) (by kernel_rfl) (by kernel_rfl) (fun _ _ _ h => h) (Or.inl ⟨by rfl, ?_⟩) (by assumption) ?_
        rotate_left
        (focus (intro w0 hSw; (try dsimp only at hSw); go_simp <;> with_reducible rfl))
        simp only [List.getElem_toArray, List.getElem_cons_succ, List.getElem_cons_zero, Act.put, List.setIfInBounds_toArray, List.set_cons_zero, List.set_cons_succ]
        refine wpAnyH_take (i := 6) (v := ?_) rfl (by kernel_rfl) (by kernel_rfl) (by kernel_rfl) (fun _ _ _ h => h) (Or.inl ⟨by rfl, ?_⟩) (by assumption) ?_
        rotate_left
        (focus (intro w0 hSw; (try dsimp only at hSw); go_simp <;> with_reducible rfl))
        simp only [List.getElem_toArray, List.getElem_cons_succ, List.getElem_cons_zero, Act.put, List.setIfInBounds_toArray, List.set_cons_zero, List.set_cons_succ]
        refine wpAnyH_take (i := 7) (v := ?_) rfl (by kernel_rfl) (by kernel_rfl) (by kernel_rfl) (fun _ _ _ h => h) (Or.inl ⟨by rfl, ?_⟩) (by assumption) ?_
        rotate_left
        (focus (intro w0 hSw; (try dsimp only at hSw); go_simp <;> with_reducible rfl))
        simp only [List.getElem_toArray, List.getElem_cons_succ, List.getElem_cons_zero, Act.put, List.setIfInBounds_toArray, List.set_cons_zero, List.set_cons_succ]
        refine wpAnyH_take (i := 8) (v := ?_) rfl (by kernel_rfl) (by kernel_rfl) (by kernel_rfl) (fun _ _ _ h => h) (Or.inl ⟨by rfl, ?_⟩) (by assumption) ?_
        rotate_left
        (focus (intro w0 hSw; (try dsimp only at hSw); go_simp <;> with_reducible rfl))
        simp only [List.getElem_toArray, List.getElem_cons_succ, List.getElem_cons_zero, Act.put, List.setIfInBounds_toArray, List.set_cons_zero, List.set_cons_succ]
        refine wpAnyH_take (i := 9) (v := ?_) rfl (by kernel_rfl) (by kernel_rfl) (by kernel_rfl) (fun _ _ _ h => h) (Or.inl ⟨by rfl, ?_⟩) (by assumption) ?_
        rotate_left
        (focus (intro w0 hSw; (try dsimp only at hSw); go_simp <;> with_reducible rfl))
        simp only [List.getElem_toArray, List.getElem_cons_succ, List.getElem_cons_zero, Act.put, List.setIfInBounds_toArray, List.set_cons_zero, List.set_cons_succ]
        refine wpAnyH_ready (rs := [10]) (by kernel_rfl) (by simp) ?_
        refine AllReadyH.cons (o := _) rfl (fun K hK => ?_) ?_
        rotate_left
        exact AllReadyH.nil
        go_simp
        refine (HA.out _).mono ?_
        rintro e w4 ⟨rfl, hb4⟩
        refine hK.out _ _ ?_ (fun hH1 => ?_)
        · ((try dsimp only); (refine ⟨?_, ?_, ?_, ?_⟩ <;> repeat (with_reducible first | assumption | refine kCd ?_ | refine kCb (by assumption) ?_)))
        clear hK K
        try simp only [Act.put, List.setIfInBounds_toArray, List.set_cons_zero, List.set_cons_succ]
        refine wpAnyH_take (i := 11) (v := ?_) rfl (by kernel_rfl) (by kernel_rfl) (by kernel_rfl) (fun _ _ _ h => h) (Or.inl ⟨by rfl, ?_⟩) (by assumption) ?_
        rotate_left
        (focus (intro w0 hSw; (try dsimp only at hSw); go_simp <;> with_reducible rfl))
        simp only [List.getElem_toArray, List.getElem_cons_succ, List.getElem_cons_zero, Act.put, List.setIfInBounds_toArray, List.set_cons_zero, List.set_cons_succ]
        refine wpAnyH_done (by kernel_rfl) ?_ _
        go_wp2_with fail
        go_roundw
        case rel => exact ⟨k + 1, by omega, by go_num, HB.out.trans (kBd hb4 HB.out.size), HE2⟩
        case measure => simp [intOf]; omega
      · have HA := hid (fun W => ahead_c (atL l k) (x0, x1) W)
        have hav : ahB (atL l k) (x0, x1) = false := decide_eq_false ha
        rw [hav] at HA
        have HI := hid (ins_at (x := (x0, x1)) (by rw [HL.out]; omega) HE.out (.inr ha))
        generalize (atL l k).2 = d1 at *
        generalize (atL l k).1 = d0 at *
        clear ha hav HE
        go_wp2_with fail
        refine wp_region_held_drew (S := (fun w' => w'.cell? ⟨b, o + k * 2, none⟩ = some (.int .i64 d0) ∧ w'.cell? ⟨b, o + k * 2 + 1, none⟩ = some (.int .i64 d1) ∧ w'.cell? ⟨B, 0, none⟩ = some (.int .i64 x0) ∧ w'.cell? ⟨B, 1, none⟩ = some (.int .i64 x1))) (by kernel_rfl) ?_ (fun hHeld => ?_)
        · (refine ⟨?_, ?_, ?_, ?_⟩ <;> repeat (with_reducible first | assumption | refine kCd ?_))
        refine wpAnyH_take (i := 0) (v := ?_) rfl (by kernel_rfl) (by kernel_rfl) (by kernel_rfl) (fun _ _ _ h => h) (Or.inl ⟨by rfl, ?_⟩) (by assumption) ?_
        rotate_left
        (focus (intro w0 hSw; (try dsimp only at hSw); go_simp <;> with_reducible rfl))
        simp only [List.getElem_toArray, List.getElem_cons_zero, Act.put, List.setIfInBounds_toArray, List.set_cons_zero, List.set_cons_succ]
        refine wpAnyH_take (i := 1) (v := ?_) rfl (by kernel_rfl) (by kernel_rfl) (by kernel_rfl) (fun _ _ _ h => h) (Or.inl ⟨by rfl, ?_⟩) (by assumption) ?_
        rotate_left
        (focus (intro w0 hSw; (try dsimp only at hSw); go_simp <;> with_reducible rfl))
        simp only [List.getElem_toArray, List.getElem_cons_succ, List.getElem_cons_zero, Act.put, List.setIfInBounds_toArray, List.set_cons_zero, List.set_cons_succ]
        refine wpAnyH_take (i := 2) (v := ?_) rfl (by kernel_rfl) (by kernel_rfl) (by kernel_rfl) (fun _ _ _ h => h) (Or.inl ⟨by rfl, ?_⟩) (by assumption) ?_
        rotate_left
        (focus (intro w0 hSw; (try dsimp only at hSw); go_simp <;> with_reducible rfl))
        simp only [List.getElem_toArray, List.getElem_cons_succ, List.getElem_cons_zero, Act.put, List.setIfInBounds_toArray, List.set_cons_zero, List.set_cons_succ]
        refine wpAnyH_take (i := 3) (v := ?_) rfl (by kernel_rfl) (by kernel_rfl) (by kernel_rfl) (fun _ _ _ h => h) (Or.inl ⟨by rfl, ?_⟩) (by assumption) ?_
        rotate_left
        (focus (intro w0 hSw; (try dsimp only at hSw); go_simp <;> with_reducible rfl))
        simp only [List.getElem_toArray, List.getElem_cons_succ, List.getElem_cons_zero, Act.put, List.setIfInBounds_toArray, List.set_cons_zero, List.set_cons_succ]
        refine wpAnyH_take (i := 4) (v := ?_) rfl (by kernel_rfl) (by kernel_rfl) (by kernel_rfl) (fun _ _ _ h => h) (Or.inl ⟨by rfl, ?_⟩) (by assumption) ?_
        rotate_left
        (focus (intro w0 hSw; (try dsimp only at hSw); go_simp <;> with_reducible rfl))
        simp only [List.getElem_toArray, List.getElem_cons_succ, List.getElem_cons_zero, Act.put, List.setIfInBounds_toArray, List.set_cons_zero, List.set_cons_succ]
        refine wpAnyH_take (i := 5) (v := ?_) rfl (by kernel_rfl) (by kernel_rfl) (by kernel_rfl) (fun _ _ _ h => h) (Or.inl ⟨by rfl, ?_⟩) (by assumption) ?_
        rotate_left
        (focus (intro w0 hSw; (try dsimp only at hSw); go_simp <;> with_reducible rfl))
        simp only [List.getElem_toArray, List.getElem_cons_succ, List.getElem_cons_zero, Act.put, List.setIfInBounds_toArray, List.set_cons_zero, List.set_cons_succ]
        refine wpAnyH_take (i := 6) (v := ?_) rfl (by kernel_rfl) (by kernel_rfl) (by kernel_rfl) (fun _ _ _ h => h) (Or.inl ⟨by rfl, ?_⟩) (by assumption) ?_
        rotate_left
        (focus (intro w0 hSw; (try dsimp only at hSw); go_simp <;> with_reducible rfl))
        simp only [List.getElem_toArray, List.getElem_cons_succ, List.getElem_cons_zero, Act.put, List.setIfInBounds_toArray, List.set_cons_zero, List.set_cons_succ]
        refine wpAnyH_take (i := 7) (v := ?_) rfl (by kernel_rfl) (by kernel_rfl) (by kernel_rfl) (fun _ _ _ h => h) (Or.inl ⟨by rfl, ?_⟩) (by assumption) ?_
        rotate_left
        (focus (intro w0 hSw; (try dsimp only at hSw); go_simp <;> with_reducible rfl))
        simp only [List.getElem_toArray, List.getElem_cons_succ, List.getElem_cons_zero, Act.put, List.setIfInBounds_toArray, List.set_cons_zero, List.set_cons_succ]
        refine wpAnyH_take (i := 8) (v := ?_) rfl (by kernel_rfl) (by kernel_rfl) (by kernel_rfl) (fun _ _ _ h => h) (Or.inl ⟨by rfl, ?_⟩) (by assumption) ?_
        rotate_left
        (focus (intro w0 hSw; (try dsimp only at hSw); go_simp <;> with_reducible rfl))
        simp only [List.getElem_toArray, List.getElem_cons_succ, List.getElem_cons_zero, Act.put, List.setIfInBounds_toArray, List.set_cons_zero, List.set_cons_succ]
        refine wpAnyH_take (i := 9) (v := ?_) rfl (by kernel_rfl) (by kernel_rfl) (by kernel_rfl) (fun _ _ _ h => h) (Or.inl ⟨by rfl, ?_⟩) (by assumption) ?_
        rotate_left
        (focus (intro w0 hSw; (try dsimp only at hSw); go_simp <;> with_reducible rfl))
        simp only [List.getElem_toArray, List.getElem_cons_succ, List.getElem_cons_zero, Act.put, List.setIfInBounds_toArray, List.set_cons_zero, List.set_cons_succ]
        refine wpAnyH_ready (rs := [10]) (by kernel_rfl) (by simp) ?_
        refine AllReadyH.cons (o := _) rfl (fun K hK => ?_) ?_
        rotate_left
        exact AllReadyH.nil
        go_simp
        refine (HA.out _).mono ?_
        rintro e w4 ⟨rfl, hb4⟩
        refine hK.out _ _ ?_ (fun hH1 => ?_)
        · ((try dsimp only); (refine ⟨?_, ?_, ?_, ?_⟩ <;> repeat (with_reducible first | assumption | refine kCd ?_ | refine kCb (by assumption) ?_)))
        clear hK K
        try simp only [Act.put, List.setIfInBounds_toArray, List.set_cons_zero, List.set_cons_succ]
        refine wpAnyH_take (i := 11) (v := ?_) rfl (by kernel_rfl) (by kernel_rfl) (by kernel_rfl) (fun _ _ _ h => h) (Or.inl ⟨by rfl, ?_⟩) (by assumption) ?_
        rotate_left
        (focus (intro w0 hSw; (try dsimp only at hSw); go_simp <;> with_reducible rfl))
        simp only [List.getElem_toArray, List.getElem_cons_succ, List.getElem_cons_zero, Act.put, List.setIfInBounds_toArray, List.set_cons_zero, List.set_cons_succ]
        refine wpAnyH_done (by kernel_rfl) ?_ _
        have HB5 := hid (HW.out.trans (kBd hb4 HW.out.size))
        have HR5 := hid (HRr.out.below (kBd0 hb4))
        have z0 : w4.cell? ⟨B, 0, none⟩ = some (.int .i64 x0) := kCb (kBd0 hb4) y0
        have z1 : w4.cell? ⟨B, 1, none⟩ = some (.int .i64 x1) := kCb (kBd0 hb4) y1
        clear y0 y1 c0 c1 hb4 hH1 hHeld
        by_cases hcap : cap = k
        · exact absurd hcap (by omega)
        · go_wp2_with (at_builtin; first
                | (refine wpList_app rfl (.tmp 21) (.tmp 24) rfl rfl (v := .slice none 0 0) (l := []) (k := l.take k) rfl (own_nil _ w.heap.size) rfl ?p1 ?p2 ?p3 ?p4 ?p5 ?_; (case p1 => (have := HL.out; rw [List.length_take]; omega)); (case p2 => exact (HR5.out.take (by omega)).congr (fun j hj => atL_take hj)); (case p3 => exact fun e => by cases e); (case p4 => (simp; omega)); (case p5 => exact HB5.out.size); intro v1 w6 o1 g1; simp only [List.nil_append] at o1; have HO := hid o1; have HB6 := hid (below_gr HB5.out g1 (own_nil _ _)); have z2 := g1.cell z0 (by simp [Value.ownBlock]); have z3 := g1.cell z1 (by simp [Value.ownBlock]); clear o1 g1)
                | (refine wpList_app rfl (.tmp 26) (.tmp 28) rfl rfl (l := l.take k) (k := [(x0, x1)]) rfl (HO.out.alloc _) rfl ?p1 ?p2 ?p3 ?p4 ?p5 ?_; (case p1 => rfl); (case p2 => exact rl_one w6 x0 x1); (case p3 => exact fun e => by cases e); (case p4 => (rw [List.length_take]; omega)); (case p5 => (have := HB6.out.size; simp; omega)); intro v2 w7 o2 g2; have HO2 := hid o2; have HB7 := hid (below_gr (HB6.out.alloc HB6.out.size _) g2 (HO.out.alloc _)); clear o2 g2)
                | (refine wpList_app rfl (.tmp 30) (.tmp 33) rfl rfl (l := l.take k ++ [(x0, x1)]) (k := l.drop k) rfl HO2.out rfl ?p1 ?p2 ?p3 ?p4 ?p5 ?_; (case p1 => (have := HL.out; simp; omega)); (case p2 => exact ((HR.out.below HB7.out).off k (by omega)).congr (fun j hj => by rw [atL_drop])); (case p3 => exact fun e => by cases e); (case p4 => (simp; omega)); (case p5 => exact HB7.out.size); intro v3 w8 o3 g3; have HO3 := hid o3; have HB8 := hid (below_gr HB7.out g3 HO2.out); clear o3 g3))
          go_ret
          have hf := HO3.out
          rw [HI.out] at hf
          exact ⟨_, rfl, (rr_own hf).1, HB8.out, (rr_own hf).2⟩
    · have hlt' : decide ((k : Int) < L) = false := decide_eq_false (by omega)
      have HI := hid (ins_at (x := (x0, x1)) (by rw [HL.out]; omega) HE.out (.inl (by rw [HL.out]; omega)))
      go_wp2_with fail
      refine wp_region_held_drew (S := fun _ => True) (by kernel_rfl) trivial (fun hHeld => ?_)
      refine wpAnyH_take (i := 0) (v := ?_) rfl (by kernel_rfl) (by kernel_rfl) (by kernel_rfl) (fun _ _ _ h => h) (Or.inl ⟨by rfl, ?_⟩) (by assumption) ?_
      rotate_left
      (focus (intro w0 hSw; (try dsimp only at hSw); go_simp <;> with_reducible rfl))
      simp only [List.getElem_toArray, List.getElem_cons_zero, Act.put, List.setIfInBounds_toArray, List.set_cons_zero, List.set_cons_succ]
      refine wpAnyH_take (i := 1) (v := ?_) rfl (by kernel_rfl) (by kernel_rfl) (by kernel_rfl) (fun _ _ _ h => h) (Or.inl ⟨by rfl, ?_⟩) (by assumption) ?_
      rotate_left
      (focus (intro w0 hSw; (try dsimp only at hSw); go_simp <;> with_reducible rfl))
      simp only [List.getElem_toArray, List.getElem_cons_succ, List.getElem_cons_zero, Act.put, List.setIfInBounds_toArray, List.set_cons_zero, List.set_cons_succ]
      refine wpAnyH_take (i := 2) (v := ?_) rfl (by kernel_rfl) (by kernel_rfl) (by kernel_rfl) (fun _ _ _ h => h) (Or.inl ⟨by rfl, ?_⟩) (by assumption) ?_
      rotate_left
      (focus (intro w0 hSw; (try dsimp only at hSw); go_simp <;> with_reducible rfl))
      simp only [List.getElem_toArray, List.getElem_cons_succ, List.getElem_cons_zero, Act.put, List.setIfInBounds_toArray, List.set_cons_zero, List.set_cons_succ]
      refine wpAnyH_take (i := 3) (v := ?_) rfl (by kernel_rfl) (by kernel_rfl) (by kernel_rfl) (fun _ _ _ h => h) (Or.inl ⟨by rfl, ?_⟩) (by assumption) ?_
      rotate_left
      (focus (intro w0 hSw; (try dsimp only at hSw); go_simp <;> with_reducible rfl))
      simp only [List.getElem_toArray, List.getElem_cons_succ, List.getElem_cons_zero, Act.put, List.setIfInBounds_toArray, List.set_cons_zero, List.set_cons_succ]
      refine wpAnyH_take (i := 4) (v := ?_) rfl (by kernel_rfl) (by kernel_rfl) (by kernel_rfl) (fun _ _ _ h => h) (Or.inl ⟨by rfl, ?_⟩) (by assumption) ?_
      rotate_left
      (focus (intro w0 hSw; (try dsimp only at hSw); go_simp <;> with_reducible rfl))
      simp only [List.getElem_toArray, List.getElem_cons_succ, List.getElem_cons_zero, Act.put, List.setIfInBounds_toArray, List.set_cons_zero, List.set_cons_succ]
      refine wpAnyH_take (i := 5) (v := undef) rfl (by kernel_rfl) (by kernel_rfl) (by kernel_rfl) (fun _ _ _ h => h) (Or.inr ⟨by rfl, rfl⟩) (by assumption) ?_
      simp only [List.getElem_toArray, List.getElem_cons_succ, List.getElem_cons_zero, Act.put, List.setIfInBounds_toArray, List.set_cons_zero, List.set_cons_succ]
      refine wpAnyH_take (i := 6) (v := undef) rfl (by kernel_rfl) (by kernel_rfl) (by kernel_rfl) (fun _ _ _ h => h) (Or.inr ⟨by rfl, rfl⟩) (by assumption) ?_
      simp only [List.getElem_toArray, List.getElem_cons_succ, List.getElem_cons_zero, Act.put, List.setIfInBounds_toArray, List.set_cons_zero, List.set_cons_succ]
      refine wpAnyH_take (i := 7) (v := undef) rfl (by kernel_rfl) (by kernel_rfl) (by kernel_rfl) (fun _ _ _ h => h) (Or.inr ⟨by rfl, rfl⟩) (by assumption) ?_
      simp only [List.getElem_toArray, List.getElem_cons_succ, List.getElem_cons_zero, Act.put, List.setIfInBounds_toArray, List.set_cons_zero, List.set_cons_succ]
      refine wpAnyH_take (i := 8) (v := undef) rfl (by kernel_rfl) (by kernel_rfl) (by kernel_rfl) (fun _ _ _ h => h) (Or.inr ⟨by rfl, rfl⟩) (by assumption) ?_
      simp only [List.getElem_toArray, List.getElem_cons_succ, List.getElem_cons_zero, Act.put, List.setIfInBounds_toArray, List.set_cons_zero, List.set_cons_succ]
      refine wpAnyH_take (i := 9) (v := undef) rfl (by kernel_rfl) (by kernel_rfl) (by kernel_rfl) (fun _ _ _ h => h) (Or.inr ⟨by rfl, rfl⟩) (by assumption) ?_
      simp only [List.getElem_toArray, List.getElem_cons_succ, List.getElem_cons_zero, Act.put, List.setIfInBounds_toArray, List.set_cons_zero, List.set_cons_succ]
      refine wpAnyH_take (i := 10) (v := undef) rfl (by kernel_rfl) (by kernel_rfl) (by kernel_rfl) (fun _ _ _ h => h) (Or.inr ⟨by rfl, rfl⟩) (by assumption) ?_
      simp only [List.getElem_toArray, List.getElem_cons_succ, List.getElem_cons_zero, Act.put, List.setIfInBounds_toArray, List.set_cons_zero, List.set_cons_succ]
      refine wpAnyH_take (i := 11) (v := ?_) rfl (by kernel_rfl) (by kernel_rfl) (by kernel_rfl) (fun _ _ _ h => h) (Or.inl ⟨by rfl, ?_⟩) (by assumption) ?_
      rotate_left
      (focus (intro w0 hSw; (try dsimp only at hSw); go_simp <;> with_reducible rfl))
      simp only [List.getElem_toArray, List.getElem_cons_succ, List.getElem_cons_zero, Act.put, List.setIfInBounds_toArray, List.set_cons_zero, List.set_cons_succ]
      refine wpAnyH_done (by kernel_rfl) ?_ _
      have HB5 := hid (show Below w.heap.size w wr.drew from ⟨HW.out.os, HW.out.tape, HW.out.output, HW.out.size, HW.out.block⟩)
      have HR5 := hid (show RL wr.drew (some ⟨b, o, none⟩) L (atL l) from HRr.out)
      have z0 : wr.drew.cell? ⟨B, 0, none⟩ = some (.int .i64 x0) := y0
      have z1 : wr.drew.cell? ⟨B, 1, none⟩ = some (.int .i64 x1) := y1
      clear y0 y1 hHeld
      generalize wr.drew = w4 at *
      by_cases hcap : cap = k
      · go_wp2_with (at_builtin; first
              | (refine wpList_app rfl (.tmp 21) (.tmp 24) rfl rfl (v := .slice none 0 0) (l := []) (k := l.take k) rfl (own_nil _ w.heap.size) rfl ?p1 ?p2 ?p3 ?p4 ?p5 ?_; (case p1 => (have := HL.out; rw [List.length_take]; omega)); (case p2 => exact (HR5.out.take (by omega)).congr (fun j hj => atL_take hj)); (case p3 => exact fun e => by cases e); (case p4 => (simp; omega)); (case p5 => exact HB5.out.size); intro v1 w6 o1 g1; simp only [List.nil_append] at o1; have HO := hid o1; have HB6 := hid (below_gr HB5.out g1 (own_nil _ _)); have z2 := g1.cell z0 (by simp [Value.ownBlock]); have z3 := g1.cell z1 (by simp [Value.ownBlock]); clear o1 g1)
              | (refine wpList_app rfl (.tmp 26) (.tmp 28) rfl rfl (l := l.take k) (k := [(x0, x1)]) rfl (HO.out.alloc _) rfl ?p1 ?p2 ?p3 ?p4 ?p5 ?_; (case p1 => rfl); (case p2 => exact rl_one w6 x0 x1); (case p3 => exact fun e => by cases e); (case p4 => (rw [List.length_take]; omega)); (case p5 => (have := HB6.out.size; simp; omega)); intro v2 w7 o2 g2; have HO2 := hid o2; have HB7 := hid (below_gr (HB6.out.alloc HB6.out.size _) g2 (HO.out.alloc _)); clear o2 g2)
              | (refine wpList_app rfl (.tmp 30) (.tmp 33) rfl rfl (l := l.take k ++ [(x0, x1)]) (k := l.drop k) rfl HO2.out rfl ?p1 ?p2 ?p3 ?p4 ?p5 ?_; (case p1 => (have := HL.out; simp; omega)); (case p2 => (rw [show L - k = 0 by omega]; exact RL.nil _ _ _)); (case p3 => exact fun e => by cases e); (case p4 => (simp; omega)); (case p5 => exact HB7.out.size); intro v3 w8 o3 g3; have HO3 := hid o3; have HB8 := hid (below_gr HB7.out g3 HO2.out); clear o3 g3))
        go_ret
        have hf := HO3.out
        rw [HI.out] at hf
        exact ⟨_, rfl, (rr_own hf).1, HB8.out, (rr_own hf).2⟩
      · go_wp2_with (at_builtin; first
              | (refine wpList_app rfl (.tmp 21) (.tmp 24) rfl rfl (v := .slice none 0 0) (l := []) (k := l.take k) rfl (own_nil _ w.heap.size) rfl ?p1 ?p2 ?p3 ?p4 ?p5 ?_; (case p1 => (have := HL.out; rw [List.length_take]; omega)); (case p2 => exact (HR5.out.take (by omega)).congr (fun j hj => atL_take hj)); (case p3 => exact fun e => by cases e); (case p4 => (simp; omega)); (case p5 => exact HB5.out.size); intro v1 w6 o1 g1; simp only [List.nil_append] at o1; have HO := hid o1; have HB6 := hid (below_gr HB5.out g1 (own_nil _ _)); have z2 := g1.cell z0 (by simp [Value.ownBlock]); have z3 := g1.cell z1 (by simp [Value.ownBlock]); clear o1 g1)
              | (refine wpList_app rfl (.tmp 26) (.tmp 28) rfl rfl (l := l.take k) (k := [(x0, x1)]) rfl (HO.out.alloc _) rfl ?p1 ?p2 ?p3 ?p4 ?p5 ?_; (case p1 => rfl); (case p2 => exact rl_one w6 x0 x1); (case p3 => exact fun e => by cases e); (case p4 => (rw [List.length_take]; omega)); (case p5 => (have := HB6.out.size; simp; omega)); intro v2 w7 o2 g2; have HO2 := hid o2; have HB7 := hid (below_gr (HB6.out.alloc HB6.out.size _) g2 (HO.out.alloc _)); clear o2 g2)
              | (refine wpList_app rfl (.tmp 30) (.tmp 33) rfl rfl (l := l.take k ++ [(x0, x1)]) (k := l.drop k) rfl HO2.out rfl ?p1 ?p2 ?p3 ?p4 ?p5 ?_; (case p1 => (have := HL.out; simp; omega)); (case p2 => exact ((HR.out.below HB7.out).off k (by omega)).congr (fun j hj => by rw [atL_drop])); (case p3 => exact fun e => by cases e); (case p4 => (simp; omega)); (case p5 => exact HB7.out.size); intro v3 w8 o3 g3; have HO3 := hid o3; have HB8 := hid (below_gr HB7.out g3 HO2.out); clear o3 g3))
        go_ret
        have hf := HO3.out
        rw [HI.out] at hf
        exact ⟨_, rfl, (rr_own hf).1, HB8.out, (rr_own hf).2⟩
set_option maxRecDepth 100000 in
set_option maxHeartbeats 8000000 in
theorem withN_c (w : World) (x0 x1 : Int) : Calls Try.prog 32 #[.slice none 0 0, .agg #[.int .i64 x0, .int .i64 x1]] w fun e w' => RrN w [(x0, x1)] e w' := by
  have h1 : Below w.heap.size w (w.alloc (.cells #[.int .i64 x0, .int .i64 x1] 53)) := (Below.refl _ _).alloc (Nat.le_refl _) _
  have bx := cells_at (heap_alloc w (.cells #[.int .i64 x0, .int .i64 x1] 53)).1
  go_enter Try.func32, Try.ntmps32
  go_wp2_with fail
  have z0 : (w.alloc (.cells #[.int .i64 x0, .int .i64 x1] 53)).drew.cell? ⟨w.heap.size, 0, none⟩ = some (.int .i64 x0) := bx.1
  have z1 : (w.alloc (.cells #[.int .i64 x0, .int .i64 x1] 53)).drew.cell? ⟨w.heap.size, 1, none⟩ = some (.int .i64 x1) := bx.2
  have hb : Below w.heap.size w (w.alloc (.cells #[.int .i64 x0, .int .i64 x1] 53)).drew := ⟨h1.os, h1.tape, h1.output, h1.size, h1.block⟩
  have HB5 := hid hb
  clear bx h1 hb
  refine wp_loop_rounds 1 ?_
  rw [rounds_succ]
  go_wp2_with fail
  refine wp_region_held_drew (S := fun _ => True) (by kernel_rfl) trivial (fun hHeld => ?_)
  refine wpAnyH_take (i := 0) (v := ?_) rfl (by kernel_rfl) (by kernel_rfl) (by kernel_rfl) (fun _ _ _ h => h) (Or.inl ⟨by rfl, ?_⟩) (by assumption) ?_
  rotate_left
  (focus (intro w0 hSw; (try dsimp only at hSw); go_simp <;> with_reducible rfl))
  simp only [List.getElem_toArray, List.getElem_cons_zero, Act.put, List.setIfInBounds_toArray, List.set_cons_zero, List.set_cons_succ]
  refine wpAnyH_take (i := 1) (v := ?_) rfl (by kernel_rfl) (by kernel_rfl) (by kernel_rfl) (fun _ _ _ h => h) (Or.inl ⟨by rfl, ?_⟩) (by assumption) ?_
  rotate_left
  (focus (intro w0 hSw; (try dsimp only at hSw); go_simp <;> with_reducible rfl))
  simp only [List.getElem_toArray, List.getElem_cons_succ, List.getElem_cons_zero, Act.put, List.setIfInBounds_toArray, List.set_cons_zero, List.set_cons_succ]
  refine wpAnyH_take (i := 2) (v := ?_) rfl (by kernel_rfl) (by kernel_rfl) (by kernel_rfl) (fun _ _ _ h => h) (Or.inl ⟨by rfl, ?_⟩) (by assumption) ?_
  rotate_left
  (focus (intro w0 hSw; (try dsimp only at hSw); go_simp <;> with_reducible rfl))
  simp only [List.getElem_toArray, List.getElem_cons_succ, List.getElem_cons_zero, Act.put, List.setIfInBounds_toArray, List.set_cons_zero, List.set_cons_succ]
  refine wpAnyH_take (i := 3) (v := ?_) rfl (by kernel_rfl) (by kernel_rfl) (by kernel_rfl) (fun _ _ _ h => h) (Or.inl ⟨by rfl, ?_⟩) (by assumption) ?_
  rotate_left
  (focus (intro w0 hSw; (try dsimp only at hSw); go_simp <;> with_reducible rfl))
  simp only [List.getElem_toArray, List.getElem_cons_succ, List.getElem_cons_zero, Act.put, List.setIfInBounds_toArray, List.set_cons_zero, List.set_cons_succ]
  refine wpAnyH_take (i := 4) (v := ?_) rfl (by kernel_rfl) (by kernel_rfl) (by kernel_rfl) (fun _ _ _ h => h) (Or.inl ⟨by rfl, ?_⟩) (by assumption) ?_
  rotate_left
  (focus (intro w0 hSw; (try dsimp only at hSw); go_simp <;> with_reducible rfl))
  simp only [List.getElem_toArray, List.getElem_cons_succ, List.getElem_cons_zero, Act.put, List.setIfInBounds_toArray, List.set_cons_zero, List.set_cons_succ]
  refine wpAnyH_take (i := 5) (v := undef) rfl (by kernel_rfl) (by kernel_rfl) (by kernel_rfl) (fun _ _ _ h => h) (Or.inr ⟨by rfl, rfl⟩) (by assumption) ?_
  simp only [List.getElem_toArray, List.getElem_cons_succ, List.getElem_cons_zero, Act.put, List.setIfInBounds_toArray, List.set_cons_zero, List.set_cons_succ]
  refine wpAnyH_take (i := 6) (v := undef) rfl (by kernel_rfl) (by kernel_rfl) (by kernel_rfl) (fun _ _ _ h => h) (Or.inr ⟨by rfl, rfl⟩) (by assumption) ?_
  simp only [List.getElem_toArray, List.getElem_cons_succ, List.getElem_cons_zero, Act.put, List.setIfInBounds_toArray, List.set_cons_zero, List.set_cons_succ]
  refine wpAnyH_take (i := 7) (v := undef) rfl (by kernel_rfl) (by kernel_rfl) (by kernel_rfl) (fun _ _ _ h => h) (Or.inr ⟨by rfl, rfl⟩) (by assumption) ?_
  simp only [List.getElem_toArray, List.getElem_cons_succ, List.getElem_cons_zero, Act.put, List.setIfInBounds_toArray, List.set_cons_zero, List.set_cons_succ]
  refine wpAnyH_take (i := 8) (v := undef) rfl (by kernel_rfl) (by kernel_rfl) (by kernel_rfl) (fun _ _ _ h => h) (Or.inr ⟨by rfl, rfl⟩) (by assumption) ?_
  simp only [List.getElem_toArray, List.getElem_cons_succ, List.getElem_cons_zero, Act.put, List.setIfInBounds_toArray, List.set_cons_zero, List.set_cons_succ]
  refine wpAnyH_take (i := 9) (v := undef) rfl (by kernel_rfl) (by kernel_rfl) (by kernel_rfl) (fun _ _ _ h => h) (Or.inr ⟨by rfl, rfl⟩) (by assumption) ?_
  simp only [List.getElem_toArray, List.getElem_cons_succ, List.getElem_cons_zero, Act.put, List.setIfInBounds_toArray, List.set_cons_zero, List.set_cons_succ]
  refine wpAnyH_take (i := 10) (v := undef) rfl (by kernel_rfl) (by kernel_rfl) (by kernel_rfl) (fun _ _ _ h => h) (Or.inr ⟨by rfl, rfl⟩) (by assumption) ?_
  simp only [List.getElem_toArray, List.getElem_cons_succ, List.getElem_cons_zero, Act.put, List.setIfInBounds_toArray, List.set_cons_zero, List.set_cons_succ]
  refine wpAnyH_take (i := 11) (v := ?_) rfl (by kernel_rfl) (by kernel_rfl) (by kernel_rfl) (fun _ _ _ h => h) (Or.inl ⟨by rfl, ?_⟩) (by assumption) ?_
  rotate_left
  (focus (intro w0 hSw; (try dsimp only at hSw); go_simp <;> with_reducible rfl))
  simp only [List.getElem_toArray, List.getElem_cons_succ, List.getElem_cons_zero, Act.put, List.setIfInBounds_toArray, List.set_cons_zero, List.set_cons_succ]
  refine wpAnyH_done (by kernel_rfl) ?_ _
  generalize (w.alloc (.cells #[.int .i64 x0, .int .i64 x1] 53)).drew = w4 at *
  go_wp2_with (at_builtin; first
    | (refine wpList_app rfl (.tmp 21) (.tmp 24) rfl rfl (v := .slice none 0 0) (l := []) (k := []) rfl (own_nil _ w.heap.size) rfl ?p1 ?p2 ?p3 ?p4 ?p5 ?_; (case p1 => rfl); (case p2 => exact RL.nil _ _ _); (case p3 => exact fun _ => ⟨rfl, rfl⟩); (case p4 => simp); (case p5 => exact HB5.out.size); intro v1 w6 o1 g1; simp only [List.nil_append] at o1; have HO := hid o1; have HB6 := hid (below_gr HB5.out g1 (own_nil _ _)); have z2 := g1.cell z0 (by simp [Value.ownBlock]); have z3 := g1.cell z1 (by simp [Value.ownBlock]); clear o1 g1)
    | (refine wpList_app rfl (.tmp 26) (.tmp 28) rfl rfl (l := []) (k := [(x0, x1)]) rfl (HO.out.alloc _) rfl ?p1 ?p2 ?p3 ?p4 ?p5 ?_; (case p1 => rfl); (case p2 => exact rl_one w6 x0 x1); (case p3 => exact fun e => by cases e); (case p4 => simp); (case p5 => (have := HB6.out.size; simp; omega)); intro v2 w7 o2 g2; have HO2 := hid o2; have HB7 := hid (below_gr (HB6.out.alloc HB6.out.size _) g2 (HO.out.alloc _)); clear o2 g2)
    | (refine wpList_app rfl (.tmp 30) (.tmp 33) rfl rfl (l := [(x0, x1)]) (k := []) rfl HO2.out rfl ?p1 ?p2 ?p3 ?p4 ?p5 ?_; (case p1 => rfl); (case p2 => exact RL.nil _ _ _); (case p3 => exact fun _ => ⟨rfl, rfl⟩); (case p4 => simp); (case p5 => exact HB7.out.size); intro v3 w8 o3 g3; have HO3 := hid o3; have HB8 := hid (below_gr HB7.out g3 HO2.out); clear o3 g3))
  go_ret
  exact ⟨_, rfl, (rr_own (l := [(x0, x1)]) HO3.out).1, HB8.out, (rr_own (l := [(x0, x1)]) HO3.out).2⟩
set_option maxRecDepth 100000 in
set_option maxHeartbeats 8000000 in
theorem withE_c (w : World) (a : Addr) (cap : Nat) (ht : cap ≤ 9223372036854775807) (x0 x1 : Int) : Calls Try.prog 32 #[.slice (some a) 0 cap, .agg #[.int .i64 x0, .int .i64 x1]] w fun e w' => RrN w [(x0, x1)] e w' := by
  have h1 : Below w.heap.size w (w.alloc (.cells #[.int .i64 x0, .int .i64 x1] 53)) := (Below.refl _ _).alloc (Nat.le_refl _) _
  have bx := cells_at (heap_alloc w (.cells #[.int .i64 x0, .int .i64 x1] 53)).1
  go_enter Try.func32, Try.ntmps32
  go_wp2_with fail
  have z0 : (w.alloc (.cells #[.int .i64 x0, .int .i64 x1] 53)).drew.cell? ⟨w.heap.size, 0, none⟩ = some (.int .i64 x0) := bx.1
  have z1 : (w.alloc (.cells #[.int .i64 x0, .int .i64 x1] 53)).drew.cell? ⟨w.heap.size, 1, none⟩ = some (.int .i64 x1) := bx.2
  have hb : Below w.heap.size w (w.alloc (.cells #[.int .i64 x0, .int .i64 x1] 53)).drew := ⟨h1.os, h1.tape, h1.output, h1.size, h1.block⟩
  have HB5 := hid hb
  clear bx h1 hb
  refine wp_loop_rounds 1 ?_
  rw [rounds_succ]
  go_wp2_with fail
  refine wp_region_held_drew (S := fun _ => True) (by kernel_rfl) trivial (fun hHeld => ?_)
  refine wpAnyH_take (i := 0) (v := ?_) rfl (by kernel_rfl) (by kernel_rfl) (by kernel_rfl) (fun _ _ _ h => h) (Or.inl ⟨by rfl, ?_⟩) (by assumption) ?_
  rotate_left
  (focus (intro w0 hSw; (try dsimp only at hSw); go_simp <;> with_reducible rfl))
  simp only [List.getElem_toArray, List.getElem_cons_zero, Act.put, List.setIfInBounds_toArray, List.set_cons_zero, List.set_cons_succ]
  refine wpAnyH_take (i := 1) (v := ?_) rfl (by kernel_rfl) (by kernel_rfl) (by kernel_rfl) (fun _ _ _ h => h) (Or.inl ⟨by rfl, ?_⟩) (by assumption) ?_
  rotate_left
  (focus (intro w0 hSw; (try dsimp only at hSw); go_simp <;> with_reducible rfl))
  simp only [List.getElem_toArray, List.getElem_cons_succ, List.getElem_cons_zero, Act.put, List.setIfInBounds_toArray, List.set_cons_zero, List.set_cons_succ]
  refine wpAnyH_take (i := 2) (v := ?_) rfl (by kernel_rfl) (by kernel_rfl) (by kernel_rfl) (fun _ _ _ h => h) (Or.inl ⟨by rfl, ?_⟩) (by assumption) ?_
  rotate_left
  (focus (intro w0 hSw; (try dsimp only at hSw); go_simp <;> with_reducible rfl))
  simp only [List.getElem_toArray, List.getElem_cons_succ, List.getElem_cons_zero, Act.put, List.setIfInBounds_toArray, List.set_cons_zero, List.set_cons_succ]
  refine wpAnyH_take (i := 3) (v := ?_) rfl (by kernel_rfl) (by kernel_rfl) (by kernel_rfl) (fun _ _ _ h => h) (Or.inl ⟨by rfl, ?_⟩) (by assumption) ?_
  rotate_left
  (focus (intro w0 hSw; (try dsimp only at hSw); go_simp <;> with_reducible rfl))
  simp only [List.getElem_toArray, List.getElem_cons_succ, List.getElem_cons_zero, Act.put, List.setIfInBounds_toArray, List.set_cons_zero, List.set_cons_succ]
  refine wpAnyH_take (i := 4) (v := ?_) rfl (by kernel_rfl) (by kernel_rfl) (by kernel_rfl) (fun _ _ _ h => h) (Or.inl ⟨by rfl, ?_⟩) (by assumption) ?_
  rotate_left
  (focus (intro w0 hSw; (try dsimp only at hSw); go_simp <;> with_reducible rfl))
  simp only [List.getElem_toArray, List.getElem_cons_succ, List.getElem_cons_zero, Act.put, List.setIfInBounds_toArray, List.set_cons_zero, List.set_cons_succ]
  refine wpAnyH_take (i := 5) (v := undef) rfl (by kernel_rfl) (by kernel_rfl) (by kernel_rfl) (fun _ _ _ h => h) (Or.inr ⟨by rfl, rfl⟩) (by assumption) ?_
  simp only [List.getElem_toArray, List.getElem_cons_succ, List.getElem_cons_zero, Act.put, List.setIfInBounds_toArray, List.set_cons_zero, List.set_cons_succ]
  refine wpAnyH_take (i := 6) (v := undef) rfl (by kernel_rfl) (by kernel_rfl) (by kernel_rfl) (fun _ _ _ h => h) (Or.inr ⟨by rfl, rfl⟩) (by assumption) ?_
  simp only [List.getElem_toArray, List.getElem_cons_succ, List.getElem_cons_zero, Act.put, List.setIfInBounds_toArray, List.set_cons_zero, List.set_cons_succ]
  refine wpAnyH_take (i := 7) (v := undef) rfl (by kernel_rfl) (by kernel_rfl) (by kernel_rfl) (fun _ _ _ h => h) (Or.inr ⟨by rfl, rfl⟩) (by assumption) ?_
  simp only [List.getElem_toArray, List.getElem_cons_succ, List.getElem_cons_zero, Act.put, List.setIfInBounds_toArray, List.set_cons_zero, List.set_cons_succ]
  refine wpAnyH_take (i := 8) (v := undef) rfl (by kernel_rfl) (by kernel_rfl) (by kernel_rfl) (fun _ _ _ h => h) (Or.inr ⟨by rfl, rfl⟩) (by assumption) ?_
  simp only [List.getElem_toArray, List.getElem_cons_succ, List.getElem_cons_zero, Act.put, List.setIfInBounds_toArray, List.set_cons_zero, List.set_cons_succ]
  refine wpAnyH_take (i := 9) (v := undef) rfl (by kernel_rfl) (by kernel_rfl) (by kernel_rfl) (fun _ _ _ h => h) (Or.inr ⟨by rfl, rfl⟩) (by assumption) ?_
  simp only [List.getElem_toArray, List.getElem_cons_succ, List.getElem_cons_zero, Act.put, List.setIfInBounds_toArray, List.set_cons_zero, List.set_cons_succ]
  refine wpAnyH_take (i := 10) (v := undef) rfl (by kernel_rfl) (by kernel_rfl) (by kernel_rfl) (fun _ _ _ h => h) (Or.inr ⟨by rfl, rfl⟩) (by assumption) ?_
  simp only [List.getElem_toArray, List.getElem_cons_succ, List.getElem_cons_zero, Act.put, List.setIfInBounds_toArray, List.set_cons_zero, List.set_cons_succ]
  refine wpAnyH_take (i := 11) (v := ?_) rfl (by kernel_rfl) (by kernel_rfl) (by kernel_rfl) (fun _ _ _ h => h) (Or.inl ⟨by rfl, ?_⟩) (by assumption) ?_
  rotate_left
  (focus (intro w0 hSw; (try dsimp only at hSw); go_simp <;> with_reducible rfl))
  simp only [List.getElem_toArray, List.getElem_cons_succ, List.getElem_cons_zero, Act.put, List.setIfInBounds_toArray, List.set_cons_zero, List.set_cons_succ]
  refine wpAnyH_done (by kernel_rfl) ?_ _
  have hc0 : (0 : Int) ≤ cap := by omega
  generalize (w.alloc (.cells #[.int .i64 x0, .int .i64 x1] 53)).drew = w4 at *
  by_cases hcap : cap = 0
  · go_wp2_with (at_builtin; first
      | (refine wpList_app rfl (.tmp 21) (.tmp 24) rfl rfl (v := .slice none 0 0) (l := []) (k := []) rfl (own_nil _ w.heap.size) rfl ?p1 ?p2 ?p3 ?p4 ?p5 ?_; (case p1 => rfl); (case p2 => exact RL.nil _ _ _); (case p3 => exact fun e => by cases e); (case p4 => simp); (case p5 => exact HB5.out.size); intro v1 w6 o1 g1; simp only [List.nil_append] at o1; have HO := hid o1; have HB6 := hid (below_gr HB5.out g1 (own_nil _ _)); have z2 := g1.cell z0 (by simp [Value.ownBlock]); have z3 := g1.cell z1 (by simp [Value.ownBlock]); clear o1 g1)
      | (refine wpList_app rfl (.tmp 26) (.tmp 28) rfl rfl (l := []) (k := [(x0, x1)]) rfl (HO.out.alloc _) rfl ?p1 ?p2 ?p3 ?p4 ?p5 ?_; (case p1 => rfl); (case p2 => exact rl_one w6 x0 x1); (case p3 => exact fun e => by cases e); (case p4 => simp); (case p5 => (have := HB6.out.size; simp; omega)); intro v2 w7 o2 g2; have HO2 := hid o2; have HB7 := hid (below_gr (HB6.out.alloc HB6.out.size _) g2 (HO.out.alloc _)); clear o2 g2)
      | (refine wpList_app rfl (.tmp 30) (.tmp 33) rfl rfl (l := [(x0, x1)]) (k := []) rfl HO2.out rfl ?p1 ?p2 ?p3 ?p4 ?p5 ?_; (case p1 => rfl); (case p2 => exact RL.nil _ _ _); (case p3 => exact fun e => by cases e); (case p4 => simp); (case p5 => exact HB7.out.size); intro v3 w8 o3 g3; have HO3 := hid o3; have HB8 := hid (below_gr HB7.out g3 HO2.out); clear o3 g3))
    go_ret
    exact ⟨_, rfl, (rr_own (l := [(x0, x1)]) HO3.out).1, HB8.out, (rr_own (l := [(x0, x1)]) HO3.out).2⟩
  · go_wp2_with (at_builtin; first
      | (refine wpList_app rfl (.tmp 21) (.tmp 24) rfl rfl (v := .slice none 0 0) (l := []) (k := []) rfl (own_nil _ w.heap.size) rfl ?p1 ?p2 ?p3 ?p4 ?p5 ?_; (case p1 => rfl); (case p2 => exact RL.nil _ _ _); (case p3 => exact fun e => by cases e); (case p4 => simp); (case p5 => exact HB5.out.size); intro v1 w6 o1 g1; simp only [List.nil_append] at o1; have HO := hid o1; have HB6 := hid (below_gr HB5.out g1 (own_nil _ _)); have z2 := g1.cell z0 (by simp [Value.ownBlock]); have z3 := g1.cell z1 (by simp [Value.ownBlock]); clear o1 g1)
      | (refine wpList_app rfl (.tmp 26) (.tmp 28) rfl rfl (l := []) (k := [(x0, x1)]) rfl (HO.out.alloc _) rfl ?p1 ?p2 ?p3 ?p4 ?p5 ?_; (case p1 => rfl); (case p2 => exact rl_one w6 x0 x1); (case p3 => exact fun e => by cases e); (case p4 => simp); (case p5 => (have := HB6.out.size; simp; omega)); intro v2 w7 o2 g2; have HO2 := hid o2; have HB7 := hid (below_gr (HB6.out.alloc HB6.out.size _) g2 (HO.out.alloc _)); clear o2 g2)
      | (refine wpList_app rfl (.tmp 30) (.tmp 33) rfl rfl (l := [(x0, x1)]) (k := []) rfl HO2.out rfl ?p1 ?p2 ?p3 ?p4 ?p5 ?_; (case p1 => rfl); (case p2 => exact RL.nil _ _ _); (case p3 => exact fun e => by cases e); (case p4 => simp); (case p5 => exact HB7.out.size); intro v3 w8 o3 g3; have HO3 := hid o3; have HB8 := hid (below_gr HB7.out g3 HO2.out); clear o3 g3))
    go_ret
    exact ⟨_, rfl, (rr_own (l := [(x0, x1)]) HO3.out).1, HB8.out, (rr_own (l := [(x0, x1)]) HO3.out).2⟩
theorem with_c {w : World} {v : Value} {l : List (Int × Int)} (h : Rr w v l) (hl : l.length ≤ 400000) (x : Int × Int) : Calls Try.prog 32 #[v, .agg #[.int .i64 x.1, .int .i64 x.2]] w fun e w' => RrN w (insL l x) e w' := by
  obtain ⟨x0, x1⟩ := x
  obtain ⟨ao, cap, rfl, hr, hn, hc, ht⟩ := h
  cases ao with
  | none =>
    obtain ⟨h0, rfl⟩ := hn rfl
    obtain rfl : l = [] := List.eq_nil_of_length_eq_zero h0
    exact withN_c w x0 x1
  | some a =>
    by_cases h0 : l.length = 0
    · obtain rfl : l = [] := List.eq_nil_of_length_eq_zero h0
      exact withE_c w a cap ht x0 x1
    · obtain ⟨b, o, e, _⟩ := hr 0 (by omega)
      cases e
      exact withS_c hr hc hl
end Go.Proofs.Ytacgkgbhleehjaa
namespace Go.Proofs.Ytacgkgbhleehjaa
open Go.RowKit Go.Sort Go.MapKept

/-- Each number stands once: its place, and the list without it. -/
def PlOk (l : List (Int × Int)) : Prop := ∀ id, hasL l id = true → ∃ i : Nat, plL l id = i ∧ i < l.length ∧ l.eraseIdx i = delL l id
theorem idx_split {s t : List (Int × Int)} {x : Int × Int} {id : Int} (hs : ∀ y ∈ s, y.1 ≠ id) (hx : x.1 = id) : (s ++ x :: t).findIdx? (fun y => y.1 == id) = some s.length := by
  induction s with
  | nil => simp [List.findIdx?_cons, hx]
  | cons a r ih =>
    have ha : (a.1 == id) = false := beq_eq_false_iff_ne.2 (hs a (List.mem_cons_self ..))
    simp only [List.cons_append, List.findIdx?_cons, ha, Bool.false_eq_true, if_false]
    rw [ih (fun y hy => hs y (List.mem_cons_of_mem _ hy))]
    rfl
theorem Ql.plok {w q F l} (h : Ql w q F l) : PlOk l := by
  intro id hid'
  obtain ⟨key, hk⟩ := hasL_iff.1 hid'
  obtain ⟨s, t, e, h1, h2, h3⟩ := h.split hk
  rw [show (id, key).1 = id from rfl] at h1 h2 h3
  refine ⟨s.length, ?_, by rw [e]; simp, ?_⟩
  · unfold plL; rw [e, idx_split h1 rfl]
  · rw [h3, e, List.eraseIdx_append_of_length_le (Nat.le_refl _)]; simp
theorem pl_none {l : List (Int × Int)} {id : Int} (h : hasL l id = false) : plL l id = -1 := by
  unfold plL
  have : l.findIdx? (fun x => x.1 == id) = none := by
    rw [List.findIdx?_eq_none_iff]
    intro x hx
    cases hb : (x.1 == id) with
    | false => rfl
    | true => rw [show hasL l id = true from by unfold hasL; rw [List.any_eq_true]; exact ⟨x, hx, hb⟩] at h; cases h
  rw [this]
/-- A list behind a call of the reference. -/
def RrA (w : World) (v : Value) (l' : List (Int × Int)) (v' : Value) (w' : World) : Prop := Rr w' v' l' ∧ Below w.heap.size w w' ∧ ∀ k, Vb v' k → Vb v k ∨ (w.heap.size ≤ k ∧ k < w'.heap.size)
theorem rHas_c {w : World} {v : Value} {l : List (Int × Int)} (h : Rr w v l) (hl : l.length ≤ 400000) (hp : PlOk l) (id : Int) : Calls Try.prog 23 #[v, .int .i64 id] w fun e w' => e = .returned (.bool (hasL l id)) ∧ Below w.heap.size w w' := by
  have HC := hid (place_c h (by omega) id)
  cases hb : hasL l id with
  | true =>
    obtain ⟨i, e, _⟩ := hp id hb
    rw [e] at HC
    have h0 : decide ((0 : Int) ≤ (i : Int)) = true := decide_eq_true (by omega)
    clear h hp hb
    go_enter Try.func23, Try.ntmps23
    go_wp2_with (go_at_call 33; refine HC.out.mono ?_; rintro e w2 ⟨rfl, hb2⟩)
    go_ret
    exact ⟨rfl, hb2⟩
  | false =>
    rw [pl_none hb] at HC
    clear h hp hb
    go_enter Try.func23, Try.ntmps23
    go_wp2_with (go_at_call 33; refine HC.out.mono ?_; rintro e w2 ⟨rfl, hb2⟩)
    go_ret
    exact ⟨rfl, hb2⟩
theorem rPush_c {w : World} {v : Value} {l : List (Int × Int)} (h : Rr w v l) (hl : l.length ≤ 400000) (hp : PlOk l) (id key : Int) : Calls Try.prog 19 #[v, .int .i64 id, .int .i64 key] w fun e w' => ∃ v', e = .returned (.tuple #[v', .int .i64 (pushE l id)]) ∧ RrA w v (pushL l id key) v' w' := by
  have HC := hid (rHas_c h hl hp id)
  by_cases h1 : hasL l id = true
  · rw [h1] at HC
    rw [show pushE l id = 6 by simp [pushE, h1], show pushL l id key = l by simp [pushL, h1]]
    have HR := hid h
    obtain ⟨ao, cap, rfl, hr, hn, hc, ht⟩ := h
    clear hp h1 hr hn
    go_enter Try.func19, Try.ntmps19
    go_wp2_with (go_at_call 23; refine HC.out.mono ?_; rintro e w2 ⟨rfl, hb2⟩)
    go_ret2
    exact ⟨_, rfl, HR.out.below hb2, hb2, fun k hk => .inl hk⟩
  · have h1' : hasL l id = false := by simpa using h1
    rw [h1'] at HC
    have HR := hid h
    by_cases h2 : 4096 ≤ l.length
    · rw [show pushE l id = 10 by simp [pushE, h1', h2], show pushL l id key = l by simp [pushL, h1', h2]]
      obtain ⟨ao, cap, rfl, hr, hn, hc, ht⟩ := h
      have h2' : decide ((4096 : Int) ≤ l.length) = true := decide_eq_true (by omega)
      clear hp h1 hr hn
      go_enter Try.func19, Try.ntmps19
      go_wp2_with (go_at_call 23; refine HC.out.mono ?_; rintro e w2 ⟨rfl, hb2⟩)
      go_ret2
      exact ⟨_, rfl, HR.out.below hb2, hb2, fun k hk => .inl hk⟩
    · rw [show pushE l id = 0 by simp [pushE, h1', h2], show pushL l id key = insL l (id, key) by simp [pushL, h1', h2]]
      have HW := hid (fun W (hb : Below w.heap.size w W) => with_c (h.below hb) hl (id, key))
      obtain ⟨ao, cap, rfl, hr, hn, hc, ht⟩ := h
      have h2' : decide ((4096 : Int) ≤ l.length) = false := decide_eq_false (by omega)
      clear hp h1 hr hn
      go_enter Try.func19, Try.ntmps19
      go_wp2_with (first
        | (go_at_call 23; refine HC.out.mono ?_; rintro e w2 ⟨rfl, hb2⟩; have HB := hid hb2; clear hb2)
        | (go_at_call 32; refine (HW.out _ HB.out).mono ?_; rintro e w3 ⟨v3, rfl, hr3, hb3, hk3⟩))
      go_ret2
      exact ⟨_, rfl, hr3, HB.out.trans (hb3.mono HB.out.size), fun k hk => .inr ⟨Nat.le_trans HB.out.size (hk3 k hk).1, (hk3 k hk).2⟩⟩
theorem rRem_c {w : World} {v : Value} {l : List (Int × Int)} (h : Rr w v l) (hl : l.length ≤ 400000) (hp : PlOk l) (id : Int) : Calls Try.prog 22 #[v, .int .i64 id] w fun e w' => ∃ v', e = .returned (.tuple #[v', .int .i64 (fixE l id)]) ∧ RrA w v (remL l id) v' w' := by
  have HC := hid (place_c h (by omega) id)
  have HR := hid h
  cases h1 : hasL l id with
  | true =>
    rw [show fixE l id = 0 by simp [fixE, h1], show remL l id = delL l id by simp [remL, h1]]
    obtain ⟨i, e1, e2, e3⟩ := hp id h1
    rw [e1] at HC
    have HW := hid (fun W (hb : Below w.heap.size w W) => without_c (h.below hb) (by omega) e2)
    rw [e3] at HW
    have h0 : decide ((i : Int) < 0) = false := decide_eq_false (by omega)
    obtain ⟨ao, cap, rfl, hr, hn, hc, ht⟩ := h
    clear hp h1 hr hn e1 e3
    go_enter Try.func22, Try.ntmps22
    go_wp2_with (first
      | (go_at_call 33; refine HC.out.mono ?_; rintro e w2 ⟨rfl, hb2⟩; have HB := hid hb2; clear hb2)
      | (go_at_call 34; refine (HW.out _ HB.out).mono ?_; rintro e w3 ⟨v3, rfl, hr3, hb3, hk3⟩))
    go_ret2
    exact ⟨_, rfl, hr3, HB.out.trans (hb3.mono HB.out.size), fun k hk => .inr ⟨Nat.le_trans HB.out.size (hk3 k hk).1, (hk3 k hk).2⟩⟩
  | false =>
    rw [show fixE l id = 9 by simp [fixE, h1], show remL l id = l by simp [remL, h1]]
    rw [pl_none h1] at HC
    obtain ⟨ao, cap, rfl, hr, hn, hc, ht⟩ := h
    clear hp h1 hr hn
    go_enter Try.func22, Try.ntmps22
    go_wp2_with (go_at_call 33; refine HC.out.mono ?_; rintro e w2 ⟨rfl, hb2⟩)
    go_ret2
    exact ⟨_, rfl, HR.out.below hb2, hb2, fun k hk => .inl hk⟩
theorem rFix_c {w : World} {v : Value} {l : List (Int × Int)} (h : Rr w v l) (hl : l.length ≤ 400000) (hp : PlOk l) (id key : Int) : Calls Try.prog 21 #[v, .int .i64 id, .int .i64 key] w fun e w' => ∃ v', e = .returned (.tuple #[v', .int .i64 (fixE l id)]) ∧ RrA w v (fixL l id key) v' w' := by
  have HC := hid (place_c h (by omega) id)
  have HR := hid h
  cases h1 : hasL l id with
  | true =>
    rw [show fixE l id = 0 by simp [fixE, h1], show fixL l id key = insL (delL l id) (id, key) by simp [fixL, h1]]
    obtain ⟨i, e1, e2, e3⟩ := hp id h1
    rw [e1] at HC
    have HW := hid (fun W (hb : Below w.heap.size w W) => without_c (h.below hb) (by omega) e2)
    rw [e3] at HW
    have HW2 := hid (fun (W : World) (u : Value) (hu : Rr W u (delL l id)) => with_c hu (by have := List.length_filter_le (fun x : Int × Int => decide (x.1 ≠ id)) l; unfold delL; omega) (id, key))
    have h0 : decide ((i : Int) < 0) = false := decide_eq_false (by omega)
    obtain ⟨ao, cap, rfl, hr, hn, hc, ht⟩ := h
    clear hp h1 hr hn e1 e3
    go_enter Try.func21, Try.ntmps21
    go_wp2_with (first
      | (go_at_call 33; refine HC.out.mono ?_; rintro e w2 ⟨rfl, hb2⟩; have HB := hid hb2; clear hb2)
      | (go_at_call 34; refine (HW.out _ HB.out).mono ?_; rintro e w3 ⟨v3, rfl, hr3, hb3, hk3⟩; have HR3 := hid hr3; have HB3 := hid (HB.out.trans (hb3.mono HB.out.size)); clear hr3 hb3 hk3)
      | (go_at_call 32; refine (HW2.out _ _ HR3.out).mono ?_; rintro e w4 ⟨v4, rfl, hr4, hb4, hk4⟩))
    go_ret2
    exact ⟨_, rfl, hr4, HB3.out.trans (hb4.mono HB3.out.size), fun k hk => .inr ⟨Nat.le_trans HB3.out.size (hk4 k hk).1, (hk4 k hk).2⟩⟩
  | false =>
    rw [show fixE l id = 9 by simp [fixE, h1], show fixL l id key = l by simp [fixL, h1]]
    rw [pl_none h1] at HC
    obtain ⟨ao, cap, rfl, hr, hn, hc, ht⟩ := h
    clear hp h1 hr hn
    go_enter Try.func21, Try.ntmps21
    go_wp2_with (go_at_call 33; refine HC.out.mono ?_; rintro e w2 ⟨rfl, hb2⟩)
    go_ret2
    exact ⟨_, rfl, HR.out.below hb2, hb2, fun k hk => .inl hk⟩
theorem rPop0_c {w : World} {v : Value} (h : Rr w v []) : Calls Try.prog 20 #[v] w fun e w' => e = .returned (.tuple #[.agg #[.int .i64 0, .int .i64 0], v, .int .i64 9]) ∧ Below w.heap.size w w' := by
  obtain ⟨ao, cap, rfl, hr, hn, hc, ht⟩ := h
  clear hr hn
  simp only [List.length_nil] at *
  go_enter Try.func20, Try.ntmps20
  go_wp2_with fail
  refine bodyPost_ret (v := .tuple #[.agg #[.int .i64 0, .int .i64 0], .slice ao 0 cap, .int .i64 9]) (by simp [results, Try.results20, go_sem]) rfl ⟨rfl, (Below.refl _ _).alloc (Nat.le_refl _) _⟩
set_option maxRecDepth 100000 in
set_option maxHeartbeats 4000000 in
theorem rPop_c {w : World} {v : Value} {a : Int × Int} {r : List (Int × Int)} (h : Rr w v (a :: r)) (hl : r.length ≤ 400000) : Calls Try.prog 20 #[v] w fun e w' => ∃ v', e = .returned (.tuple #[.agg #[.int .i64 a.1, .int .i64 a.2], v', .int .i64 0]) ∧ RrA w v r v' w' := by
  obtain ⟨ao, cap, rfl, hr, hn, hc, ht⟩ := h
  obtain ⟨b, o, rfl, c0, c1⟩ := hr 0 (by simp)
  rw [show atL (a :: r) 0 = a from rfl] at c0 c1
  obtain ⟨a0, a1⟩ := a
  have hbx := (heap_alloc w (.cells #[.int .i64 0, .int .i64 0] 53)).1
  have hal : Below w.heap.size w (w.alloc (.cells #[.int .i64 0, .int .i64 0] 53)) := (Below.refl _ _).alloc (Nat.le_refl _) _
  have hlt : b < w.heap.size := World.block_lt_of_cell? w _ c0
  have HR := hid (show RL w (some ⟨b, o + 2, none⟩) r.length (atL r) from ((hr.off 1 (n' := r.length) (by simp)).congr (fun j hj => by rw [Nat.add_comm 1 j]; rfl)))
  simp only [List.length_cons, Nat.zero_mul, Nat.add_zero] at *
  have hp : (0 : Int) < (r.length : Int) + 1 := by omega
  have hp2 : (1 : Int) ≤ (r.length : Int) + 1 := by omega
  have hp3 : (r.length : Int) + 1 ≤ cap := by omega
  have e1 : ((r.length : Int) + 1 == 0) = false := by simp; omega
  have k0 := (cells_at hbx).1; have k1 := (cells_at hbx).2; have z0 := free_at (o := 0) hbx; have z1 := free_at (o := 1) hbx
  have d0 := kCb hal c0; have d1 := kCb hal c1
  have HA := hid hal
  have hne : w.heap.size ≠ b := by omega
  clear hr hn hbx hal c0 c1
  go_enter Try.func20, Try.ntmps20
  go_wp2_with fail
  generalize w.alloc (.cells #[.int .i64 0, .int .i64 0] 53) = w1 at *
  have r1 : ((w1.setCell ⟨w.heap.size, 0, none⟩ (.int .i64 a0)).setCell ⟨w.heap.size, 1, none⟩ (.int .i64 a1)).cell? ⟨w.heap.size, 1, none⟩ = some (.int .i64 a1) := World.cell?_setCell_same _ _ _ (by rw [World.cell?_setCell_other _ _ _ _ (by simp)]; exact k1)
  have r0 : ((w1.setCell ⟨w.heap.size, 0, none⟩ (.int .i64 a0)).setCell ⟨w.heap.size, 1, none⟩ (.int .i64 a1)).cell? ⟨w.heap.size, 0, none⟩ = some (.int .i64 a0) := by rw [World.cell?_setCell_other _ _ _ _ (by simp)]; exact World.cell?_setCell_same _ _ _ k0
  have hbT : Below w.heap.size w ((w1.setCell ⟨w.heap.size, 0, none⟩ (.int .i64 a0)).setCell ⟨w.heap.size, 1, none⟩ (.int .i64 a1)).drew := ⟨HA.out.os, HA.out.tape, HA.out.output, by have := HA.out.size; show w.heap.size ≤ ((w1.setCell _ _).setCell _ _).heap.size; simp [World.setCell]; exact this, fun k hk => ((Below.heap_setCell _ _ _ _ (by simp; omega)).trans (Below.heap_setCell _ _ _ _ (by simp; omega))).trans (HA.out.block k hk)⟩
  have HBT := hid hbT
  clear hbT
  by_cases hcap : cap = 1
  · go_region
    clear k0 k1 z0 z1 d0 d1
    go_wp2_with fail
    refine bodyPost_ret (v := .tuple #[.agg #[.int .i64 a0, .int .i64 a1], .slice (some ⟨b, o, none⟩) r.length 0, .int .i64 0]) (by simp [results, Try.results20, go_sem, r0, r1]) rfl ⟨_, rfl, ⟨some ⟨b, o, none⟩, 0, rfl, ?_, (fun e => by cases e), by omega, by omega⟩, HBT.out, ?_⟩
    · rw [show r.length = 0 by omega]; exact RL.nil _ _ _
    · rintro k ⟨ao, n, c, e, ad, ha, hb⟩
      cases e; cases ha
      exact .inl ⟨_, _, _, rfl, _, rfl, hb⟩
  · go_region
    clear k0 k1 z0 z1 d0 d1
    go_wp2_with fail
    refine bodyPost_ret (v := .tuple #[.agg #[.int .i64 a0, .int .i64 a1], .slice (some ⟨b, o + 2, none⟩) r.length (cap - 1), .int .i64 0]) (by simp [results, Try.results20, go_sem, r0, r1]) rfl ⟨_, rfl, ⟨some ⟨b, o + 2, none⟩, cap - 1, rfl, ?_, (fun e => by cases e), by omega, by omega⟩, HBT.out, ?_⟩
    · exact HR.out.below HBT.out
    · rintro k ⟨ao, n, c, e, ad, ha, hb⟩
      cases e; cases ha
      exact .inl ⟨_, _, _, rfl, _, rfl, hb⟩
end Go.Proofs.Ytacgkgbhleehjaa
namespace Go.Proofs.Ytacgkgbhleehjaa
open Go.RowKit Go.Sort Go.MapKept

theorem it_rl {w w' : World} {l : List (Int × Int)} {ao : Option Addr} {cap : Nat} (h : (ao = none ∧ l = [] ∧ cap = 0) ∨ ∃ g, ao = some ⟨g, 0, none⟩ ∧ w.heap.size ≤ g ∧ Ro w' g cap l.length (atL l)) : RL w' ao l.length (atL l) := by
  rcases h with ⟨rfl, rfl, rfl⟩ | ⟨g, rfl, _, hr⟩
  · exact RL.nil _ _ _
  · intro j hj
    exact ⟨g, 0, rfl, by rw [Nat.zero_add]; exact hr.c0 j hj, by rw [Nat.zero_add]; exact hr.c1 j hj⟩
set_option maxRecDepth 100000 in
set_option maxHeartbeats 4000000 in
theorem same_c {w : World} {ao : Option Addr} {ca : Nat} {l : List (Int × Int)} {v : Value} (ha : RL w ao l.length (atL l)) (hv : Rr w v l) (hl : l.length ≤ 1000000) : Calls Try.prog 10 #[.slice ao l.length ca, v] w fun e w' => e = .returned (.bool true) ∧ ∃ q, w' = w.drewN q := by
  obtain ⟨bo, cb, rfl, hb, _, _, _⟩ := hv
  have HA := hid ha; have HB := hid hb
  have e0 : ((l.length : Int) != (l.length : Int)) = false := by simp
  clear ha hb
  generalize l.length = n at *
  go_enter Try.func10, Try.ntmps10
  go_wp2_with fail
  go_loopw [13] (fun t wr => ∃ (i q : Nat), i ≤ n ∧ t = .int .i64 i ∧ Hid (wr = w.drewN q)) (fun t _ => n - (intOf t).toNat)
  case atStart => exact ⟨0, 0, by omega, rfl, rfl⟩
  case round =>
    obtain ⟨i, q, hi, rfl, HW⟩ := hrel
    by_cases hlt : i < n
    · have hlt' : (i : Int) < n := by omega
      obtain ⟨b1, o1, rfl, c0, c1⟩ := HA.out i hlt
      obtain ⟨b2, o2, rfl, d0, d1⟩ := HB.out i hlt
      have c0' : wr.cell? ⟨b1, o1 + i * 2, none⟩ = some (.int .i64 (atL l i).1) := by rw [HW.out]; exact c0
      have c1' : wr.cell? ⟨b1, o1 + i * 2 + 1, none⟩ = some (.int .i64 (atL l i).2) := by rw [HW.out]; exact c1
      have d0' : wr.cell? ⟨b2, o2 + i * 2, none⟩ = some (.int .i64 (atL l i).1) := by rw [HW.out]; exact d0
      have d1' : wr.cell? ⟨b2, o2 + i * 2 + 1, none⟩ = some (.int .i64 (atL l i).2) := by rw [HW.out]; exact d1
      generalize (atL l i).2 = y at *
      generalize (atL l i).1 = x at *
      have ex : (x != x) = false := by simp
      have ey : (y != y) = false := by simp
      clear c0 c1 d0 d1
      go_wp2_with fail
      go_quiet (fail)
      go_wp2_with fail
      go_roundw
      case rel => exact ⟨i + 1, _, by omega, by go_num, hid (by rw [HW.out, World.drewN_drewN])⟩
      case measure => simp [intOf]; omega
    · have hlt' : decide ((i : Int) < n) = false := decide_eq_false (by omega)
      go_wp2_with fail
      go_ret
      exact ⟨rfl, q, HW.out⟩
end Go.Proofs.Ytacgkgbhleehjaa
