/-
  Rows of structs that a call makes by append, none of whose cells is a limb: what stays when they are written. No Go text is named here. The walk of package vec's putter (gather's own function). Lists of terms in form, as values; the walk of package vec's merge. The walks of package vec's gather and of the call Plus, on lists in form. Lists of terms in form have values; the walk of package vec's call Plus, whatever it is handed. The walks of package vec's calls Scale and Sparse, whatever they are handed. The walk of package vec's call Sparse, whatever it is handed. How long rational numbers are, by their values: sums and products. The call Dot of package vec, on lists in form whose columns lie below the number of the numbers. Package vec's call At. Lists of terms and lists of numbers, as values: sums, products with numbers, there and back. No Go text is named here. Between lists in memory and their values; rows of numbers that are made and written; the walk of package vec's call Dense, whatever it is handed. The walk of package vec's call Dense, whatever it is handed. Package vec's call Dot where it answers an error. Package vec's calls on lists in form, by their values; lists that are put together by their terms. append to a row of structs in a region that draws its order. No Go text is named here. The walk of package model's names (written by makers/f5.py). The walk of package model's allBelow (written by makers/f6.py). The walk of package model's Check, whatever it is handed (written by makers/f7.py). The walks of slices.Index of texts, of package model's place, Col and Row (written by makers/f8.py). Walks of the document's reference for ext: Twin, From, To, Num, Low, High, Same, Form, Cmp, Max, Min. Walks of ext: allForm, Cmp, Max, Min, whatever they are handed.
-/
import Derived.Test.YtgmllfcngnfpkaaGreatZ5
import Derived.BigQuiet
import Derived.Deep.RegionHeld3
import Derived.Test.YtgmllfcngnfpkaaGreatZ4
namespace Go.Proofs.YtgmllfcngnfpkaaGreat
open Go.RowKit

/-- No cell is a limb. -/
def NoU (cur : Array Value) : Prop := ∀ (i : Nat) (z : Int), cur[i]? ≠ some (Value.int .u64 z)
/-- Nothing that holds limbs has turned; there may be new blocks. -/
structure Kp (w w' : World) : Prop where
  os : w'.os = w.os
  tape : w'.tape = w.tape
  output : w'.output = w.output
  size : w.heap.size ≤ w'.heap.size
  block : ∀ k, k < w.heap.size → w'.heap[k]? = w.heap[k]? ∨ ∃ cur t fr, w.heap[k]? = some (.cells cur t fr) ∧ NoU cur
theorem Kp.refl (w : World) : Kp w w := ⟨rfl, rfl, rfl, Nat.le_refl _, fun _ _ => .inl rfl⟩
theorem Kp.trans {a b c : World} (h : Kp a b) (k : Kp b c) : Kp a c :=
  ⟨k.os.trans h.os, k.tape.trans h.tape, k.output.trans h.output, Nat.le_trans h.size k.size, fun i hi => by
    rcases h.block i hi with e | e
    · rcases k.block i (Nat.lt_of_lt_of_le hi h.size) with e2 | ⟨cur, t, fr, e2, e3⟩
      · exact .inl (e2.trans e)
      · exact .inr ⟨cur, t, fr, e.symm.trans e2, e3⟩
    · exact .inr e⟩
theorem Kp.of_below {w w' : World} (h : Below w.heap.size w w') : Kp w w' := ⟨h.os, h.tape, h.output, h.size, fun k hk => .inl (h.block k hk)⟩
theorem Kp.drew {a w : World} (h : Kp a w) : Kp a w.drew := ⟨h.os, h.tape, h.output, h.size, h.block⟩
theorem Kp.drewN {a w : World} (h : Kp a w) (q : Nat) : Kp a (w.drewN q) := ⟨h.os, h.tape, h.output, h.size, h.block⟩
theorem Kp.alloc {a w : World} (h : Kp a w) (o : Obj) : Kp a (w.alloc o) := h.trans (Kp.of_below (below_alloc (Below.refl _ _) o))
theorem Kp.set {a w : World} (h : Kp a w) {x : Addr} {cur : Array Value} {t : TypeId} {fr : Nat × Nat} (hx : w.heap[x.block]? = some (.cells cur t fr)) (hu : NoU cur) (u : Value) : Kp a (w.setCell x u) :=
  h.trans ⟨rfl, rfl, rfl, by simp [World.setCell], fun k _ => by
    by_cases e : k = x.block
    · subst e; exact .inr ⟨cur, t, fr, hx, hu⟩
    · exact .inl (Below.heap_setCell _ _ _ _ e)⟩
theorem Rd.kp {w w' ao n f} (h : Rd .u64 w ao n f) (hk : Kp w w') : Rd .u64 w' ao n f := fun j hj => by
  obtain ⟨b, o, e, hc⟩ := h j hj
  refine ⟨b, o, e, ?_⟩
  have hl := World.block_lt_of_cell? w _ hc
  rcases hk.block b hl with h1 | ⟨cur, t, fr, h1, h2⟩
  · exact (World.cell?_of_block (a := ⟨b, o + j, none⟩) h1).trans hc
  · exfalso
    simp [World.cell?, h1] at hc
    exact h2 _ _ hc
theorem Wn.kp {w w' s x n c f v} (h : Wn w s x n c f v) (hk : Kp w w') : Wn w' s x n c f v := ⟨h.rd.kp hk, h.lm, h.wf, h.cap, h.nil, h.val⟩
theorem Rn.kp {L w w' s x n c f y m d g q} (h : Rn L w s x n c f y m d g q) (hk : Kp w w') : Rn L w' s x n c f y m d g q := ⟨h.num.kp hk, h.den.kp hk, h.ln, h.ld⟩

/-- A row of structs of the call's own, from block 'base' on, or nil. -/
def RowG (e : TypeId) (sz base : Nat) (w : World) (v : Value) (n : Nat) (xs : List Value) : Prop :=
  xs.length = n * sz ∧ ((v = .slice none 0 0 ∧ n = 0) ∨ ∃ g cap cur, v = .slice (some ⟨g, 0, none⟩) n cap ∧ base ≤ g ∧ w.heap[g]? = some (.cells cur e (0, 0)) ∧ n ≤ cap ∧ cap ≤ maxLen ∧ cur.size = cap * sz ∧ cur.toList.take (n * sz) = xs ∧ NoU cur)
theorem rowG_nil (e : TypeId) (sz base : Nat) (w : World) : RowG e sz base w (.slice none 0 0) 0 [] := ⟨by simp, .inl ⟨rfl, rfl⟩⟩
theorem RowG.owns {e sz base w v n xs} (h : RowG e sz base w v n xs) : w.ownsRow base e sz v n xs := by
  obtain ⟨h1, h2⟩ := h
  refine ⟨h1, ?_⟩
  rcases h2 with h2 | ⟨g, cap, cur, a, b, c, d, e1, f, g1, _⟩
  · exact .inl h2
  · exact .inr ⟨g, cap, cur, a, b, c, d, e1, f, g1⟩
theorem RowG.of {e sz base w w' v n xs} (h : RowG e sz base w v n xs) (hh : ∀ g, v.ownBlock = some g → w'.heap[g]? = w.heap[g]?) : RowG e sz base w' v n xs := by
  obtain ⟨h1, h2⟩ := h
  refine ⟨h1, ?_⟩
  rcases h2 with h2 | ⟨g, cap, cur, rfl, b, c, d, e1, f, g1, k⟩
  · exact .inl h2
  · exact .inr ⟨g, cap, cur, rfl, b, (hh g rfl).trans c, d, e1, f, g1, k⟩
theorem RowG.lt {e sz base w v n xs} (h : RowG e sz base w v n xs) : ∀ g, v.ownBlock = some g → base ≤ g ∧ g < w.heap.size := by
  intro g0 hg0
  rcases h.2 with ⟨rfl, _⟩ | ⟨g, cap, cur, rfl, b, c, _⟩
  · cases hg0
  · have : g = g0 := by simpa [Value.ownBlock] using hg0
    subst this
    exact ⟨b, (Array.getElem?_eq_some_iff.1 c).1⟩
theorem RowG.below {e sz base w w' v n xs} (h : RowG e sz base w v n xs) (hb : Below w.heap.size w w') : RowG e sz base w' v n xs := h.of (fun g hg => hb.block g (h.lt g hg).2)
theorem RowG.cells {e sz base w n xs g cap} (h : RowG e sz base w (.slice (some ⟨g, 0, none⟩) n cap) n xs) {j : Nat} {u : Value} (hu : xs[j]? = some u) : w.cell? ⟨g, j, none⟩ = some u := by
  obtain ⟨h1, h2⟩ := h
  rcases h2 with ⟨h2, _⟩ | ⟨g', cap', cur, hv, b, c, d, e1, f, g1, k⟩
  · cases h2
  · cases hv
    have : cur.toList[j]? = some u := by
      rw [← g1] at hu
      rw [List.getElem?_take] at hu
      split at hu
      · exact hu
      · cases hu
    simp [World.cell?, c]
    simpa using this
theorem nou_append {a b : Array Value} (ha : NoU a) (hb : NoU b) : NoU (a ++ b) := fun i z h => by
  rw [Array.getElem?_append] at h
  split at h
  · exact ha _ _ h
  · exact hb _ _ h
theorem nou_list {l : List Value} (h : ∀ u ∈ l, ∀ z, u ≠ .int .u64 z) : NoU l.toArray := fun i z he => by
  rw [List.getElem?_toArray] at he
  exact h _ (List.mem_of_getElem? he) z rfl
theorem nou_mem {a : Array Value} (h : NoU a) : ∀ u ∈ a.toList, ∀ z, u ≠ .int .u64 z := fun u hu z e => by
  obtain ⟨i, hi⟩ := List.getElem?_of_mem hu
  subst e
  exact h i z (by simpa using hi)

/-- 'out = append(out, x)', out such a row, x one struct. -/
theorem wpList_append_G {P : Program} (w : World) {ops : Array Oper} {rest : List Oper} {o : Oper} {a : Act} {Q : Exit → Act → World → Prop} (hgd : o.guard = none) (s x : Operand) (t : TypeId)
    (ho : o.op = .call { callee := .builtin .append, args := #[s, x], argTypes := #[t, t] })
    (base : Nat) (e : TypeId) (i : TypeInfo) (z : Value) (size bytes : Nat) (ht : P.underlying t = some (.slice e)) (hi : P.info? e = some i) (hz : i.zero = some z)
    (hsize : i.size = size) (hby : i.bytes = bytes) (hzs : z.cells.size = size) (hsz : 0 < size) (hzu : NoU z.cells)
    (v : Value) (n : Nat) (xs : List Value) (hs : a.eval s = v) (hown : RowG e size base w v n xs)
    (ad : Addr) (m c : Nat) (news : List Value) (hx : a.eval x = .slice (some ad) m c) (hl : news.length = m * size) (hnews : ∀ j u, news[j]? = some u → w.cell? (ad.add j) = some u) (h1 : ∀ u ∈ news, u.oneCell' = true) (hnu : ∀ u ∈ news, ∀ z, u ≠ .int .u64 z)
    (hm0 : 0 < m) (h63 : n + m ≤ maxLen) (hbytes : (n + m) * bytes ≤ 140737488355328) (hbase : base ≤ w.heap.size)
    (hK : ∀ g cap' w', RowG e size base w' (.slice (some ⟨g, 0, none⟩) (n + m) cap') (n + m) (xs ++ news) → w.grownBy w' v.ownBlock → Kp w w' → wpList P ops Q rest (a.put o.dst (.slice (some ⟨g, 0, none⟩) (n + m) cap')) w') : wpList P ops Q (o :: rest) a w := by
  subst hsize; subst hby
  obtain ⟨v', w', hrun, h1', h2', h3'⟩ := run_append_own (P := P) w base t o.type e i z i.size i.bytes ht hi hz rfl rfl hzs hsz v n xs hown.owns ad m c news hl hnews h1 h63 hbytes hbase
  have hlen : (xs ++ news).length = (n + m) * i.size := by rw [List.length_append, hown.1, hl, Nat.add_mul]
  have hzc : ∀ k, NoU (Builtin.zeroCells z.cells k) := by
    intro k j y hj
    simp only [Builtin.zeroCells] at hj
    have hm := Array.mem_of_getElem? hj
    obtain ⟨q, _, he⟩ := Array.mem_map.1 hm
    have hlt : q % z.cells.size < z.cells.size := Nat.mod_lt _ (by omega)
    rw [getElem!_pos z.cells (q % z.cells.size) hlt] at he
    exact hzu (q % z.cells.size) y (by rw [Array.getElem?_eq_getElem hlt, he])
  have hnu' : NoU news.toArray := nou_list hnu
  have hw : ∃ g cap' cur', v' = .slice (some ⟨g, 0, none⟩) (n + m) cap' ∧ base ≤ g ∧ w'.heap[g]? = some (.cells cur' e (0, 0)) ∧ n + m ≤ cap' ∧ cap' ≤ maxLen ∧ cur'.size = cap' * i.size ∧ cur'.toList.take ((n + m) * i.size) = xs ++ news ∧ NoU cur' ∧ Kp w w' := by
    have hsm : n + m ≤ 9223372036854775807 := by unfold maxLen at h63; omega
    rcases h1'.2 with ⟨hv0, hn0⟩ | ⟨g', cap', cur', hv', hb', hg', hn', hc', hs', ht'⟩
    · omega
    · refine ⟨g', cap', cur', hv', hb', hg', hn', hc', hs', ht', ?_⟩
      rcases hown.2 with ⟨rfl, rfl⟩ | ⟨g, cap, cur, rfl, hbg, hg, hnc, hcm, hcs, htake, hnuc⟩
      · have hx0 : xs = [] := List.eq_nil_of_length_eq_zero (by simpa using hown.1)
        subst hx0
        have e1 := run_append_nil (P := P) w t o.type e i z ht hi hz ad m c news hl hnews hm0 (by omega) (by rw [Nat.zero_add] at hbytes; omega)
        rw [e1] at hrun
        injection hrun with e2 e3
        subst e3
        rw [hv'] at e2
        injection e2 with e4
        injection e4 with e5
        injection e5 with e6
        subst e6
        have e7 := heap_alloc_new w.drew (.cells (news.toArray ++ Builtin.zeroCells z.cells (grownCap w m 0 e - m)) e)
        rw [show w.heap.size = w.drew.heap.size from rfl, e7] at hg'
        injection hg' with e8
        injection e8 with e9
        rw [← e9]
        exact ⟨nou_append hnu' (hzc _), (Kp.refl w).drew.alloc _⟩
      · by_cases hroom : n + m ≤ cap
        · have e1 := run_append_room (P := P) w t o.type e i ht hi g n cap cur hg ad m c news hl hnews h1 hroom (by rw [hl, hcs, ← Nat.add_mul]; exact Nat.mul_le_mul_right _ hroom)
          rw [e1] at hrun
          injection hrun with e2 e3
          rw [hv'] at e2
          injection e2 with e4
          injection e4 with e5
          injection e5 with e6
          subst e6
          have e7 : w'.heap[g]? = some (.cells (cur.toList.take (n * i.size) ++ news ++ cur.toList.drop (n * i.size + news.length)).toArray e (0, 0)) := by rw [← e3]; exact setRow_heap w g cur _ e _ hg
          rw [e7] at hg'
          injection hg' with e8
          injection e8 with e9
          rw [← e9]
          refine ⟨nou_list ?_, h2'.os, h2'.tape, h2'.output, h2'.size, fun k hk => ?_⟩
          · intro u hu
            rcases List.mem_append.1 hu with hu | hu
            · rcases List.mem_append.1 hu with hu | hu
              · exact nou_mem hnuc u (List.mem_of_mem_take hu)
              · exact hnu u hu
            · exact nou_mem hnuc u (List.mem_of_mem_drop hu)
          · by_cases hkg : k = g
            · subst hkg; exact .inr ⟨cur, e, (0, 0), hg, hnuc⟩
            · exact .inl (h2'.block k hk (fun e => hkg (by simpa [Value.ownBlock] using e)))
        · have holds : ∀ j u, xs[j]? = some u → w.cell? ((⟨g, 0, none⟩ : Addr).add j) = some u := World.ownsRow.cells hown.owns (g := g) rfl
          have e1 := run_append_grow (P := P) w t o.type e i z ht hi hz ⟨g, 0, none⟩ n cap xs hown.1 holds ad m c news hl hnews (by omega) (by omega) (growslice_fits (by omega) hbytes)
          rw [e1] at hrun
          injection hrun with e2 e3
          subst e3
          rw [hv'] at e2
          injection e2 with e4
          injection e4 with e5
          injection e5 with e6
          subst e6
          have e7 := heap_alloc_new w.drew (.cells (xs.toArray ++ news.toArray ++ Builtin.zeroCells z.cells (grownCap w (n + m) cap e - (n + m))) e)
          rw [show w.heap.size = w.drew.heap.size from rfl, e7] at hg'
          injection hg' with e8
          injection e8 with e9
          rw [← e9]
          refine ⟨nou_append (nou_append (nou_list ?_) hnu') (hzc _), (Kp.refl w).drew.alloc _⟩
          intro u hu
          rw [← htake] at hu
          exact nou_mem hnuc u (List.mem_of_mem_take hu)
  obtain ⟨g, cap', cur', rfl, a1, a2, a3, a4, a5, a6, a7, a8⟩ := hw
  refine wpList_plain hgd fun _ hK' => ?_
  unfold Oper.wp execOp
  simp only [ho, resolve, invoke, builtin, Sem.run_bind, Sem.run_pure, Result.andThen_ok, List.map_toArray, List.map_cons, List.map_nil, hs, hx, hrun]
  exact hK' _ _ (hK g cap' w' ⟨hlen, .inr ⟨g, cap', cur', rfl, a1, a2, a3, a4, a5, a6, a7⟩⟩ h2' a8)
end Go.Proofs.YtgmllfcngnfpkaaGreat
namespace Go.Proofs.YtgmllfcngnfpkaaGreat
open Go.RowKit

theorem Tryz.infoTerm : (Tryz.prog.info? 62).map (fun i => (i.zero, i.size, i.bytes)) = some (some (.agg #[.int .i64 0, .bool false, .slice none 0 0, .slice none 0 0]), 4, 64) := by kernel_rfl
/-- The cells of a list of terms. -/
def tcell (z : Int) (t : Nm) : List Value := [.int .i64 z, .bool t.s, .slice t.x t.n t.c, .slice t.y t.m t.d]
def tcells (l : List (Int × Nm)) : List Value := l.flatMap (fun p => tcell p.1 p.2)
theorem tcells_append (l : List (Int × Nm)) (z : Int) (t : Nm) : tcells (l ++ [(z, t)]) = tcells l ++ tcell z t := by simp [tcells]
theorem RowG.slice {e sz base w v n xs} (h : RowG e sz base w v n xs) : ∃ ao cap, v = .slice ao n cap := by
  rcases h.2 with ⟨rfl, rfl⟩ | ⟨g, cap, cur, rfl, _⟩
  · exact ⟨none, 0, rfl⟩
  · exact ⟨_, cap, rfl⟩

end Go.Proofs.YtgmllfcngnfpkaaGreat
namespace Go.Proofs.YtgmllfcngnfpkaaGreat
open Go.RowKit

end Go.Proofs.YtgmllfcngnfpkaaGreat
namespace Go.Proofs.YtgmllfcngnfpkaaGreat
open Go.RowKit

theorem tcells_get {l : List (Int × Nm)} {j : Nat} {z : Int} {t : Nm} (h : l[j]? = some (z, t)) (i : Nat) (hi : i < 4) : (tcells l)[j * 4 + i]? = (tcell z t)[i]? := by
  induction l generalizing j with
  | nil => simp at h
  | cons p l ih =>
    have e1 : tcells (p :: l) = tcell p.1 p.2 ++ tcells l := rfl
    have e2 : (tcell p.1 p.2).length = 4 := rfl
    cases j with
    | zero =>
      simp at h
      subst h
      rw [e1, List.getElem?_append_left (by rw [e2]; omega), Nat.zero_mul, Nat.zero_add]
    | succ j =>
      rw [e1, List.getElem?_append_right (by rw [e2]; omega), e2, show (j + 1) * 4 + i - 4 = j * 4 + i by omega]
      exact ih (by simpa using h)
end Go.Proofs.YtgmllfcngnfpkaaGreat
namespace Go.Proofs.YtgmllfcngnfpkaaGreat
open Go.RowKit

theorem Nm.rn {w : World} {t : Nm} {L : Nat} (h : NmR w t) (hf : nfB t = true) (hn : t.n ≤ L) (hm : t.m ≤ L) : ∃ q, Rn L w t.s t.x t.n t.c t.f t.y t.m t.d t.g q := h.1.rn hf hn hm
end Go.Proofs.YtgmllfcngnfpkaaGreat
namespace Go.Proofs.YtgmllfcngnfpkaaGreat
open Go.RowKit

end Go.Proofs.YtgmllfcngnfpkaaGreat
namespace Go.Proofs.YtgmllfcngnfpkaaGreat
open Go.RowKit

end Go.Proofs.YtgmllfcngnfpkaaGreat
namespace Go.Proofs.YtgmllfcngnfpkaaGreat
open Go.RowKit

theorem Wn.lt_pw {w s x n c f v} (h : Wn w s x n c f v) : ((v.natAbs : Nat) : Int) < pw n := by
  have hm := h.mag
  have h1 := vf_lt hm.lm
  have h3 : vf f n = ((v.natAbs : Nat) : Int) := hm.val
  omega
/-- Numerator and denominator lie below so many limbs. -/
def Lo (K : Nat) (q : Rat) : Prop := ((q.num.natAbs : Nat) : Int) < pw K ∧ ((q.den : Nat) : Int) < pw K
theorem Lo.mono {K L q} (h : Lo K q) (hk : K ≤ L) : Lo L q := ⟨Int.lt_of_lt_of_le h.1 (pw_mono hk), Int.lt_of_lt_of_le h.2 (pw_mono hk)⟩
theorem Rn.lo {L w s x n c f y m d g q} {K : Nat} (h : Rn L w s x n c f y m d g q) (hn : n ≤ K) (hm : m ≤ K) : Lo K q :=
  ⟨Int.lt_of_lt_of_le h.num.lt_pw (pw_mono hn), Int.lt_of_lt_of_le (by have := h.den.lt_pw; simpa using this) (pw_mono hm)⟩
end Go.Proofs.YtgmllfcngnfpkaaGreat
namespace Go.Proofs.YtgmllfcngnfpkaaGreat
open Go.RowKit

end Go.Proofs.YtgmllfcngnfpkaaGreat
namespace Go.Proofs.YtgmllfcngnfpkaaGreat
open Go.RowKit

end Go.Proofs.YtgmllfcngnfpkaaGreat
namespace Go.Proofs.YtgmllfcngnfpkaaGreat
open Go.RowKit

end Go.Proofs.YtgmllfcngnfpkaaGreat
namespace Go.Proofs.YtgmllfcngnfpkaaGreat
open Go.RowKit

theorem Rn.nm {L w q} {t : Nm} (h : Rn L w t.s t.x t.n t.c t.f t.y t.m t.d t.g q) (hL : L ≤ 65536) : NmR w t ∧ nfB t = true :=
  ⟨⟨h.rw, Nat.le_trans h.ln hL, Nat.le_trans h.ld hL⟩, h.rf⟩
theorem tfr_of {col : Nat → Int} {T : Nat → Nm} : ∀ {r i : Nat} {last : Int}, (∀ j, i ≤ j → j < i + r → nfB (T j) = true ∧ 0 < (T j).n) → (∀ j, i ≤ j → j + 1 < i + r → col j < col (j + 1)) → (0 < r → last < col i) → tfr col T r i last = true := by
  intro r
  induction r with
  | zero => intro i last _ _ _; rfl
  | succ r ih =>
    intro i last h1 h2 h3
    simp only [tfr, Bool.and_eq_true, decide_eq_true_eq]
    exact ⟨h3 (by omega), (h1 i (by omega) (by omega)).1, (h1 i (by omega) (by omega)).2, ih (fun j a b => h1 j (by omega) (by omega)) (fun j a b => h2 j (by omega) (by omega)) (fun h => h2 i (by omega) (by omega))⟩
end Go.Proofs.YtgmllfcngnfpkaaGreat
namespace Go.Proofs.YtgmllfcngnfpkaaGreat
open Go.RowKit

end Go.Proofs.YtgmllfcngnfpkaaGreat
namespace Go.Proofs.YtgmllfcngnfpkaaGreat
open Go.RowKit

end Go.Proofs.YtgmllfcngnfpkaaGreat
namespace Go.Proofs.YtgmllfcngnfpkaaGreat
open Go.RowKit

end Go.Proofs.YtgmllfcngnfpkaaGreat
namespace Go.Proofs.YtgmllfcngnfpkaaGreat
open Go.RowKit

/-- The same in a region that draws its order. -/
theorem step_append_G {P : Program} (w : World) {ops : Array Oper} {o : Oper} {a : Act} {K : Act → World → Prop} {Q : Exit → Act → World → Prop} {E : Prop} (hgd : o.guard = none) (s x : Operand) (t : TypeId)
    (ho : o.op = .call { callee := .builtin .append, args := #[s, x], argTypes := #[t, t] })
    (base : Nat) (e : TypeId) (i : TypeInfo) (z : Value) (size bytes : Nat) (ht : P.underlying t = some (.slice e)) (hi : P.info? e = some i) (hz : i.zero = some z)
    (hsize : i.size = size) (hby : i.bytes = bytes) (hzs : z.cells.size = size) (hsz : 0 < size) (hzu : NoU z.cells)
    (v : Value) (n : Nat) (xs : List Value) (hs : a.eval s = v) (hown : RowG e size base w v n xs)
    (ad : Addr) (m c : Nat) (news : List Value) (hx : a.eval x = .slice (some ad) m c) (hl : news.length = m * size) (hnews : ∀ j u, news[j]? = some u → w.cell? (ad.add j) = some u) (h1 : ∀ u ∈ news, u.oneCell' = true) (hnu : ∀ u ∈ news, ∀ z, u ≠ .int .u64 z)
    (hm0 : 0 < m) (h63 : n + m ≤ maxLen) (hbytes : (n + m) * bytes ≤ 140737488355328) (hbase : base ≤ w.heap.size)
    (hK : ∀ g cap' w', RowG e size base w' (.slice (some ⟨g, 0, none⟩) (n + m) cap') (n + m) (xs ++ news) → w.grownBy w' v.ownBlock → Kp w w' → K (a.put o.dst (.slice (some ⟨g, 0, none⟩) (n + m) cap')) w') : if Region.wanted o (yielded ops a.tmps) = true then Oper.wp P o a w K Q else E := by
  subst hsize; subst hby
  obtain ⟨v', w', hrun, h1', h2', h3'⟩ := run_append_own (P := P) w base t o.type e i z i.size i.bytes ht hi hz rfl rfl hzs hsz v n xs hown.owns ad m c news hl hnews h1 h63 hbytes hbase
  have hlen : (xs ++ news).length = (n + m) * i.size := by rw [List.length_append, hown.1, hl, Nat.add_mul]
  have hzc : ∀ k, NoU (Builtin.zeroCells z.cells k) := by
    intro k j y hj
    simp only [Builtin.zeroCells] at hj
    have hm := Array.mem_of_getElem? hj
    obtain ⟨q, _, he⟩ := Array.mem_map.1 hm
    have hlt : q % z.cells.size < z.cells.size := Nat.mod_lt _ (by omega)
    rw [getElem!_pos z.cells (q % z.cells.size) hlt] at he
    exact hzu (q % z.cells.size) y (by rw [Array.getElem?_eq_getElem hlt, he])
  have hnu' : NoU news.toArray := nou_list hnu
  have hw : ∃ g cap' cur', v' = .slice (some ⟨g, 0, none⟩) (n + m) cap' ∧ base ≤ g ∧ w'.heap[g]? = some (.cells cur' e (0, 0)) ∧ n + m ≤ cap' ∧ cap' ≤ maxLen ∧ cur'.size = cap' * i.size ∧ cur'.toList.take ((n + m) * i.size) = xs ++ news ∧ NoU cur' ∧ Kp w w' := by
    have hsm : n + m ≤ 9223372036854775807 := by unfold maxLen at h63; omega
    rcases h1'.2 with ⟨hv0, hn0⟩ | ⟨g', cap', cur', hv', hb', hg', hn', hc', hs', ht'⟩
    · omega
    · refine ⟨g', cap', cur', hv', hb', hg', hn', hc', hs', ht', ?_⟩
      rcases hown.2 with ⟨rfl, rfl⟩ | ⟨g, cap, cur, rfl, hbg, hg, hnc, hcm, hcs, htake, hnuc⟩
      · have hx0 : xs = [] := List.eq_nil_of_length_eq_zero (by simpa using hown.1)
        subst hx0
        have e1 := run_append_nil (P := P) w t o.type e i z ht hi hz ad m c news hl hnews hm0 (by omega) (by rw [Nat.zero_add] at hbytes; omega)
        rw [e1] at hrun
        injection hrun with e2 e3
        subst e3
        rw [hv'] at e2
        injection e2 with e4
        injection e4 with e5
        injection e5 with e6
        subst e6
        have e7 := heap_alloc_new w.drew (.cells (news.toArray ++ Builtin.zeroCells z.cells (grownCap w m 0 e - m)) e)
        rw [show w.heap.size = w.drew.heap.size from rfl, e7] at hg'
        injection hg' with e8
        injection e8 with e9
        rw [← e9]
        exact ⟨nou_append hnu' (hzc _), (Kp.refl w).drew.alloc _⟩
      · by_cases hroom : n + m ≤ cap
        · have e1 := run_append_room (P := P) w t o.type e i ht hi g n cap cur hg ad m c news hl hnews h1 hroom (by rw [hl, hcs, ← Nat.add_mul]; exact Nat.mul_le_mul_right _ hroom)
          rw [e1] at hrun
          injection hrun with e2 e3
          rw [hv'] at e2
          injection e2 with e4
          injection e4 with e5
          injection e5 with e6
          subst e6
          have e7 : w'.heap[g]? = some (.cells (cur.toList.take (n * i.size) ++ news ++ cur.toList.drop (n * i.size + news.length)).toArray e (0, 0)) := by rw [← e3]; exact setRow_heap w g cur _ e _ hg
          rw [e7] at hg'
          injection hg' with e8
          injection e8 with e9
          rw [← e9]
          refine ⟨nou_list ?_, h2'.os, h2'.tape, h2'.output, h2'.size, fun k hk => ?_⟩
          · intro u hu
            rcases List.mem_append.1 hu with hu | hu
            · rcases List.mem_append.1 hu with hu | hu
              · exact nou_mem hnuc u (List.mem_of_mem_take hu)
              · exact hnu u hu
            · exact nou_mem hnuc u (List.mem_of_mem_drop hu)
          · by_cases hkg : k = g
            · subst hkg; exact .inr ⟨cur, e, (0, 0), hg, hnuc⟩
            · exact .inl (h2'.block k hk (fun e => hkg (by simpa [Value.ownBlock] using e)))
        · have holds : ∀ j u, xs[j]? = some u → w.cell? ((⟨g, 0, none⟩ : Addr).add j) = some u := World.ownsRow.cells hown.owns (g := g) rfl
          have e1 := run_append_grow (P := P) w t o.type e i z ht hi hz ⟨g, 0, none⟩ n cap xs hown.1 holds ad m c news hl hnews (by omega) (by omega) (growslice_fits (by omega) hbytes)
          rw [e1] at hrun
          injection hrun with e2 e3
          subst e3
          rw [hv'] at e2
          injection e2 with e4
          injection e4 with e5
          injection e5 with e6
          subst e6
          have e7 := heap_alloc_new w.drew (.cells (xs.toArray ++ news.toArray ++ Builtin.zeroCells z.cells (grownCap w (n + m) cap e - (n + m))) e)
          rw [show w.heap.size = w.drew.heap.size from rfl, e7] at hg'
          injection hg' with e8
          injection e8 with e9
          rw [← e9]
          refine ⟨nou_append (nou_append (nou_list ?_) hnu') (hzc _), (Kp.refl w).drew.alloc _⟩
          intro u hu
          rw [← htake] at hu
          exact nou_mem hnuc u (List.mem_of_mem_take hu)
  obtain ⟨g, cap', cur', rfl, a1, a2, a3, a4, a5, a6, a7, a8⟩ := hw
  have hwt : Region.wanted o (yielded ops a.tmps) = true := by simp [Region.wanted, hgd]
  rw [if_pos hwt]
  unfold Oper.wp execOp
  simp only [ho, resolve, invoke, builtin, Sem.run_bind, Sem.run_pure, Result.andThen_ok, List.map_toArray, List.map_cons, List.map_nil, hs, hx, hrun]
  exact hK g cap' w' ⟨hlen, .inr ⟨g, cap', cur', rfl, a1, a2, a3, a4, a5, a6, a7⟩⟩ h2' a8
/-- 'out = append(out, x)', x one struct that was just built, in a region that draws its order. -/
theorem step_append_one {P : Program} (w0 : World) {ops : Array Oper} {o : Oper} {a : Act} {K : Act → World → Prop} {Q : Exit → Act → World → Prop} {E : Prop} (hgd : o.guard = none) (s x : Operand) (t : TypeId)
    (ho : o.op = .call { callee := .builtin .append, args := #[s, x], argTypes := #[t, t] })
    (base : Nat) (e : TypeId) (bytes sz : Nat) (z : Value) (ht : P.underlying t = some (.slice e)) (hi : (P.info? e).map (fun i => (i.zero, i.size, i.bytes)) = some (some z, sz, bytes)) (hzs : z.cells.size = sz) (hsz : 0 < sz) (hzu : NoU z.cells)
    (v : Value) (n : Nat) (xs : List Value) (hs : a.eval s = v) (hown : RowG e sz base w0 v n xs) (c : Array Value) (hx : a.eval x = .slice (some ⟨w0.heap.size, 0, none⟩) 1 1) (hc : c.size = sz) (h1 : ∀ u ∈ c.toList, u.oneCell' = true) (hnu : ∀ u ∈ c.toList, ∀ q, u ≠ .int .u64 q) (hn : n ≤ 1000000) (hby : bytes ≤ 1000) (hbase : base ≤ w0.heap.size)
    (hK : ∀ g cap' w', RowG e sz base w' (.slice (some ⟨g, 0, none⟩) (n + 1) cap') (n + 1) (xs ++ c.toList) → Kp w0 w' → (∀ b0 : World, Below b0.heap.size b0 w0 → b0.heap.size ≤ base → Below b0.heap.size b0 w') → (∀ k, k < w0.heap.size → v.ownBlock ≠ some k → w'.heap[k]? = w0.heap[k]?) → K (a.put o.dst (.slice (some ⟨g, 0, none⟩) (n + 1) cap')) w') : if Region.wanted o (yielded ops a.tmps) = true then Oper.wp P o a (w0.alloc (.cells c e)) K Q else E := by
  obtain ⟨i, hi, hz0, hz1, hz2⟩ := info_parts hi
  have hal := below_alloc (Below.refl w0.heap.size w0) (.cells c e)
  have hblk := heap_alloc_new w0 (.cells c e)
  have hrow := hown.below hal
  refine step_append_G (w0.alloc (.cells c e)) hgd s x t ho base e i z sz bytes ht hi hz0 hz1 hz2 hzs hsz hzu v n xs hs hrow ⟨w0.heap.size, 0, none⟩ 1 1 c.toList hx (by simp [hc]) (fun j u hu => ?_) h1 hnu (by decide) (by unfold maxLen; omega) ?_ (by simp; omega) ?_
  · rw [addr_add, Nat.zero_add]
    simp only [World.cell?, hblk]
    simpa using hu
  · have : (n + 1) * bytes ≤ 1000001 * 1000 := Nat.mul_le_mul (by omega) hby
    omega
  · intro g cap' w' hr hgr hkp
    refine hK g cap' w' hr ((Kp.of_below hal).trans hkp) (fun b0 hb hle => ?_) (fun k hk hne => (hgr.block k (by simp; omega) (fun e => hne e.symm)).trans (hal.block k hk))
    have h2 : Below b0.heap.size b0 (w0.alloc (.cells c e)) := hb.trans (hal.mono hb.size)
    exact h2.grown hgr (by have := hb.size; simp; omega) (fun k hk => by have := (hrow.lt k hk).1; omega)
/-- The same outside such a region. -/
theorem wpList_append_one {P : Program} (w0 : World) {ops : Array Oper} {rest : List Oper} {o : Oper} {a : Act} {Q : Exit → Act → World → Prop} (hgd : o.guard = none) (s x : Operand) (t : TypeId)
    (ho : o.op = .call { callee := .builtin .append, args := #[s, x], argTypes := #[t, t] })
    (base : Nat) (e : TypeId) (bytes sz : Nat) (z : Value) (ht : P.underlying t = some (.slice e)) (hi : (P.info? e).map (fun i => (i.zero, i.size, i.bytes)) = some (some z, sz, bytes)) (hzs : z.cells.size = sz) (hsz : 0 < sz) (hzu : NoU z.cells)
    (v : Value) (n : Nat) (xs : List Value) (hs : a.eval s = v) (hown : RowG e sz base w0 v n xs) (c : Array Value) (hx : a.eval x = .slice (some ⟨w0.heap.size, 0, none⟩) 1 1) (hc : c.size = sz) (h1 : ∀ u ∈ c.toList, u.oneCell' = true) (hnu : ∀ u ∈ c.toList, ∀ q, u ≠ .int .u64 q) (hn : n ≤ 1000000) (hby : bytes ≤ 1000) (hbase : base ≤ w0.heap.size)
    (hK : ∀ g cap' w', RowG e sz base w' (.slice (some ⟨g, 0, none⟩) (n + 1) cap') (n + 1) (xs ++ c.toList) → Kp w0 w' → (∀ b0 : World, Below b0.heap.size b0 w0 → b0.heap.size ≤ base → Below b0.heap.size b0 w') → (∀ k, k < w0.heap.size → v.ownBlock ≠ some k → w'.heap[k]? = w0.heap[k]?) → wpList P ops Q rest (a.put o.dst (.slice (some ⟨g, 0, none⟩) (n + 1) cap')) w') : wpList P ops Q (o :: rest) a (w0.alloc (.cells c e)) := by
  obtain ⟨i, hi, hz0, hz1, hz2⟩ := info_parts hi
  have hal := below_alloc (Below.refl w0.heap.size w0) (.cells c e)
  have hblk := heap_alloc_new w0 (.cells c e)
  have hrow := hown.below hal
  refine wpList_append_G (w0.alloc (.cells c e)) hgd s x t ho base e i z sz bytes ht hi hz0 hz1 hz2 hzs hsz hzu v n xs hs hrow ⟨w0.heap.size, 0, none⟩ 1 1 c.toList hx (by simp [hc]) (fun j u hu => ?_) h1 hnu (by decide) (by unfold maxLen; omega) ?_ (by simp; omega) ?_
  · rw [addr_add, Nat.zero_add]
    simp only [World.cell?, hblk]
    simpa using hu
  · have : (n + 1) * bytes ≤ 1000001 * 1000 := Nat.mul_le_mul (by omega) hby
    omega
  · intro g cap' w' hr hgr hkp
    refine hK g cap' w' hr ((Kp.of_below hal).trans hkp) (fun b0 hb hle => ?_) (fun k hk hne => (hgr.block k (by simp; omega) (fun e => hne e.symm)).trans (hal.block k hk))
    have h2 : Below b0.heap.size b0 (w0.alloc (.cells c e)) := hb.trans (hal.mono hb.size)
    exact h2.grown hgr (by have := hb.size; simp; omega) (fun k hk => by have := (hrow.lt k hk).1; omega)
theorem one4 (z : Int) (s : Bool) (x : Option Addr) (n c : Nat) (y : Option Addr) (m d : Nat) : ∀ u ∈ (#[Value.int .i64 z, .bool s, .slice x n c, .slice y m d] : Array Value).toList, u.oneCell' = true := by
  intro u hu; simp at hu; rcases hu with rfl | rfl | rfl | rfl <;> rfl
theorem not4 (z : Int) (s : Bool) (x : Option Addr) (n c : Nat) (y : Option Addr) (m d : Nat) : ∀ u ∈ (#[Value.int .i64 z, .bool s, .slice x n c, .slice y m d] : Array Value).toList, ∀ q, u ≠ .int .u64 q := by
  intro u hu q; simp at hu; rcases hu with rfl | rfl | rfl | rfl <;> simp
theorem nz4 : NoU (Value.agg #[.int .i64 0, .bool false, .slice none 0 0, .slice none 0 0]).cells := nou_list (l := [Value.int .i64 0, .bool false, .slice none 0 0, .slice none 0 0]) (not4 0 false none 0 0 none 0 0)
theorem RowG.drew {e sz base w v n xs} (h : RowG e sz base w v n xs) : RowG e sz base w.drew v n xs := h
theorem Rw.kp {w w' x n c f y m d g} (h : Rw w x n c f y m d g) (hk : Kp w w') : Rw w' x n c f y m d g := ⟨h.rx.kp hk, h.lx, h.cx, h.nx, h.ry.kp hk, h.ly, h.cy, h.ny⟩
/-- The terms of a row, by their places. -/
def tls (i : Nat) (col : Nat → Int) (T : Nat → Nm) : List (Int × Nm) := (List.range i).map (fun j => (col j, T j))
def putN (T : Nat → Nm) (i : Nat) (t : Nm) : Nat → Nm := fun j => if j = i then t else T j
theorem putN_at (T : Nat → Nm) (i : Nat) (t : Nm) : putN T i t i = t := by simp [putN]
theorem putN_ne {T : Nat → Nm} {i j : Nat} {t : Nm} (h : j ≠ i) : putN T i t j = T j := by simp [putN, h]
theorem tls_put (i : Nat) (col : Nat → Int) (T : Nat → Nm) (t : Nm) : tcells (tls (i + 1) col (putN T i t)) = tcells (tls i col T) ++ tcell (col i) t := by
  have e : tls (i + 1) col (putN T i t) = tls i col T ++ [(col i, t)] := by
    unfold tls
    rw [List.range_succ, List.map_append, List.map_singleton, putN_at]
    congr 1
    apply List.map_congr_left
    intro j hj
    rw [putN_ne (by have := List.mem_range.1 hj; omega)]
  rw [e, tcells_append]
theorem tls_get {i j : Nat} {col : Nat → Int} {T : Nat → Nm} (h : j < i) : (tls i col T)[j]? = some (col j, T j) := by simp [tls, h]
/-- The same of numbers. -/
def rls (i : Nat) (T : Nat → Nm) : List Nm := (List.range i).map T
/-- The cells of such rows. -/
theorem rowg_c4 {e : TypeId} {base i : Nat} {w : World} {ao : Option Addr} {cap : Nat} {col : Nat → Int} {T : Nat → Nm} (h : RowG e 4 base w (.slice ao i cap) i (tcells (tls i col T))) {j : Nat} (hj : j < i) : ∃ b, ao = some ⟨b, 0, none⟩ ∧ C4 w b (0 + j * 4) (.int .i64 (col j)) (.bool (T j).s) (.slice (T j).x (T j).n (T j).c) (.slice (T j).y (T j).m (T j).d) := by
  rcases h.2 with ⟨hv, h0⟩ | ⟨g, cap', cur, hv, _⟩
  · omega
  · cases hv
    have hc : ∀ q, q < 4 → w.cell? ⟨g, 0 + j * 4 + q, none⟩ = (tcell (col j) (T j))[q]? := fun q hq => by
      rw [Nat.zero_add]
      have e1 := tcells_get (tls_get (col := col) (T := T) hj) q hq
      obtain ⟨u, hu⟩ : ∃ u, (tcell (col j) (T j))[q]? = some u := ⟨_, List.getElem?_eq_getElem (by show q < 4; exact hq)⟩
      rw [hu] at e1 ⊢
      exact h.cells e1
    exact ⟨g, rfl, ⟨hc 0 (by decide), hc 1 (by decide), hc 2 (by decide), hc 3 (by decide)⟩⟩
end Go.Proofs.YtgmllfcngnfpkaaGreat
namespace Go.Proofs.YtgmllfcngnfpkaaGreat
open Go.RowKit

theorem Tryz.infoStr : (Tryz.prog.info? 9).map (fun i => (i.zero, i.size, i.bytes)) = some (some (.string .empty), 1, 16) := by kernel_rfl
theorem one1 (s : ByteArray) : ∀ u ∈ (#[Value.string s] : Array Value).toList, u.oneCell' = true := by
  intro u hu; simp at hu; subst hu; rfl
theorem not1 (s : ByteArray) : ∀ u ∈ (#[Value.string s] : Array Value).toList, ∀ q, u ≠ .int .u64 q := by
  intro u hu q; simp at hu; subst hu; simp
theorem nz1 : NoU (Value.string .empty).cells := nou_list (l := [Value.string .empty]) (not1 .empty)
/-- The first i texts of S. -/
def sls (S : Nat → ByteArray) (i : Nat) : List Value := (List.range i).map fun j => Value.string (S j)
theorem sls_succ (S : Nat → ByteArray) (i : Nat) : sls S (i + 1) = sls S i ++ [.string (S i)] := by
  unfold sls; rw [List.range_succ, List.map_append, List.map_singleton]
theorem rowg_sl {e : TypeId} {base i : Nat} {w : World} {ao : Option Addr} {cap : Nat} {S : Nat → ByteArray} (h : RowG e 1 base w (.slice ao i cap) i (sls S i)) (hs : ∀ j, j < i → (S j).size ≤ 9223372036854775807) : Sl w ao i S := fun j hj => by
  rcases h.2 with ⟨hv, h0⟩ | ⟨g, cap', cur, hv, _⟩
  · omega
  · cases hv
    refine ⟨g, 0, rfl, ?_, hs j hj⟩
    rw [Nat.zero_add]
    exact h.cells (by simp [sls, hj])
def NmsAns (w w' : World) (e : Ending) (M : Mo) : Prop := ∃ xa xc ya yc, e = .returned (.tuple #[.slice xa M.ck xc, .slice ya M.rk yc]) ∧ Below w.heap.size w w' ∧ Sl w' xa M.ck (fun j => (M.C j).nm) ∧ Sl w' ya M.rk (fun j => (M.R j).nm)

set_option maxRecDepth 100000 in
set_option maxHeartbeats 4000000 in
theorem names_c {w : World} {M : Mo} (h : MoR w M) (hc64 : M.ck ≤ 1000) (hr64 : M.rk ≤ 1000) : Calls Tryz.prog 41 #[M.val] w fun r w' => NmsAns w w' r M := by
  obtain ⟨⟨s, x, n, c, f, y, m, d, g⟩, ca, ck, cc, C, ra, rk, rc, R⟩ := M
  obtain ⟨ho, hC, hR, hck, hrk⟩ := h
  replace hck : ck ≤ 1000 := hc64
  replace hrk : rk ≤ 1000 := hr64
  have HC : Hid (Cls w ca ck C) := hC
  have HRL : Hid (Rls w ra rk R) := hR
  have HCN := hid (show ∀ j, j < ck → (C j).nm.size ≤ 9223372036854775807 from fun j hj => by obtain ⟨_, _, _, _, h2⟩ := hC j hj; exact h2.nm)
  have HRN := hid (show ∀ j, j < rk → (R j).nm.size ≤ 9223372036854775807 from fun j hj => by obtain ⟨_, _, _, _, h2⟩ := hR j hj; exact h2.nm)
  clear ho hC hR hc64 hr64
  show Calls Tryz.prog 41 #[.agg #[.bool s, .slice x n c, .slice y m d, .slice ca ck cc, .slice ra rk rc]] w _
  go_enter Tryz.func41, Tryz.ntmps41
  go_wp2_with fail
  have HB1 := hid (below_alloc (Below.refl w.heap.size w) (.cells #[.bool s, .slice x n c, .slice y m d, .slice ca ck cc, .slice ra rk rc] 28))
  have HK4 := hid (show (w.alloc (.cells #[.bool s, .slice x n c, .slice y m d, .slice ca ck cc, .slice ra rk rc] 28)).cell? ⟨w.heap.size, 4, none⟩ = some (.slice ra rk rc) from by simp [go_sem])
  obtain ⟨w1, hw1⟩ : ∃ z, w.alloc (.cells #[.bool s, .slice x n c, .slice y m d, .slice ca ck cc, .slice ra rk rc] 28) = z := ⟨_, rfl⟩
  rw [hw1] at HB1 HK4 ⊢
  clear hw1
  go_loopw [2, 11] (fun ov t wr => ∃ (i : Nat), i ≤ ck ∧ t = .int .i64 i ∧ Hid (Below w1.heap.size w1 wr) ∧ Hid (RowG 9 1 w1.heap.size wr ov i (sls (fun j => (C j).nm) i))) (fun _ t _ => ck - (intOf t).toNat)
  case atStart => exact ⟨0, by omega, rfl, Below.refl _ _, rowG_nil _ _ _ _⟩
  case round =>
    obtain ⟨i, hi, rfl, HB, HRow⟩ := hrel
    by_cases hlt : i < ck
    · obtain ⟨b, o, rfl, hc, hn⟩ := (HC.out.below (HB1.out.trans (HB.out.mono HB1.out.size))) i hlt
      obtain ⟨⟨z, ⟨s0, x0, n0, c0, f0, y0, m0, d0, g0⟩, ⟨i1, ⟨s1, x1, n1, c1, f1, y1, m1, d1, g1⟩⟩, ⟨i2, ⟨s2, x2, n2, c2, f2, y2, m2, d2, g2⟩⟩⟩, hCi⟩ : ∃ t, C i = t := ⟨_, rfl⟩
      rw [hCi] at hc
      have q0 : wr.cell? ⟨b, o + i * 12, none⟩ = some (.string z) := hc 0 _ rfl
      have q1 : wr.cell? ⟨b, o + i * 12 + 1, none⟩ = some (.bool s0) := hc 1 _ rfl
      have q2 : wr.cell? ⟨b, o + i * 12 + 2, none⟩ = some (.slice x0 n0 c0) := hc 2 _ rfl
      have q3 : wr.cell? ⟨b, o + i * 12 + 3, none⟩ = some (.slice y0 m0 d0) := hc 3 _ rfl
      have q4 : wr.cell? ⟨b, o + i * 12 + 4, none⟩ = some (.int .i64 i1) := hc 4 _ rfl
      have q5 : wr.cell? ⟨b, o + i * 12 + 5, none⟩ = some (.bool s1) := hc 5 _ rfl
      have q6 : wr.cell? ⟨b, o + i * 12 + 6, none⟩ = some (.slice x1 n1 c1) := hc 6 _ rfl
      have q7 : wr.cell? ⟨b, o + i * 12 + 7, none⟩ = some (.slice y1 m1 d1) := hc 7 _ rfl
      have q8 : wr.cell? ⟨b, o + i * 12 + 8, none⟩ = some (.int .i64 i2) := hc 8 _ rfl
      have q9 : wr.cell? ⟨b, o + i * 12 + 9, none⟩ = some (.bool s2) := hc 9 _ rfl
      have q10 : wr.cell? ⟨b, o + i * 12 + 10, none⟩ = some (.slice x2 n2 c2) := hc 10 _ rfl
      have q11 : wr.cell? ⟨b, o + i * 12 + 11, none⟩ = some (.slice y2 m2 d2) := hc 11 _ rfl
      have HZ := hid (show (C i).nm = z from by rw [hCi])
      have i1' : ((i : Nat) : Int) < ((ck : Nat) : Int) := by omega
      have hb5 := below_alloc (Below.refl wr.heap.size wr) (.cells #[.string z, .bool s0, .slice x0 n0 c0, .slice y0 m0 d0, .int .i64 i1, .bool s1, .slice x1 n1 c1, .slice y1 m1 d1, .int .i64 i2, .bool s2, .slice x2 n2 c2, .slice y2 m2 d2] 77)
      have HRow5 := hid (HRow.out.below hb5); have HB5 := hid (HB.out.trans (hb5.mono HB.out.size))
      have k0 : (wr.alloc (.cells #[.string z, .bool s0, .slice x0 n0 c0, .slice y0 m0 d0, .int .i64 i1, .bool s1, .slice x1 n1 c1, .slice y1 m1 d1, .int .i64 i2, .bool s2, .slice x2 n2 c2, .slice y2 m2 d2] 77)).cell? ⟨wr.heap.size, 0, none⟩ = some (.string z) := by simp [go_sem]
      clear hCi hc hn hb5
      go_upto_region 4 with fail
      clear q0 q1 q2 q3 q4 q5 q6 q7 q8 q9 q10 q11 HB HRow
      generalize wr.alloc (.cells #[.string z, .bool s0, .slice x0 n0 c0, .slice y0 m0 d0, .int .i64 i1, .bool s1, .slice x1 n1 c1, .slice y1 m1 d1, .int .i64 i2, .bool s2, .slice x2 n2 c2, .slice y2 m2 d2] 77) = w6 at *
      have hsz := HB5.out.size
      go_wp2_with (at_builtin; go_must (refine wpList_append_one w6 rfl (.tmp 15) (.tmp 18) 98 rfl w1.heap.size 9 16 1 (.string .empty) Tryz.underlying98 Tryz.infoStr rfl (by decide) nz1 u2 i (sls (fun j => (C j).nm) i) rfl HRow5.out #[.string z] rfl rfl (one1 _) (not1 _) ?p1 (by decide) hsz ?_))
      case p1 => omega
      intro g8 cap8 w8 hr8 hk8 hb8 hg8
      have HB8 := hid (hb8 w1 HB5.out (Nat.le_refl _))
      have HR8 : Hid (RowG 9 1 w1.heap.size w8 (.slice (some ⟨g8, 0, none⟩) (i + 1) cap8) (i + 1) (sls (fun j => (C j).nm) (i + 1))) := by
        show RowG _ _ _ _ _ _ _
        rw [sls_succ, HZ.out]; exact hr8
      clear hr8 hk8 hb8 hg8 HRow5 HB5 hsz k0
      go_wp2
      go_roundw
      case rel => exact ⟨i + 1, by omega, by go_num, HB8.out, HR8.out⟩
      case measure => simp [intOf]; omega
    · have e1 : i = ck := by omega
      have i2 : ¬ (((i : Nat) : Int) < ((ck : Nat) : Int)) := by omega
      rw [e1] at HRow
      obtain ⟨xa, xc, rfl⟩ := HRow.out.slice
      have k4 := kCb HB.out HK4.out
      have HB5 := hid (HB1.out.trans (HB.out.mono HB1.out.size))
      have HSX := hid (rowg_sl HRow.out HCN.out)
      clear e1 HB HC HK4 HB1 HRow
      generalize wr = wa at *
      go_wp2_with fail
      go_loopw [3, 24] (fun ov t wr => ∃ (i : Nat), i ≤ rk ∧ t = .int .i64 i ∧ Hid (Below wa.heap.size wa wr) ∧ Hid (RowG 9 1 wa.heap.size wr ov i (sls (fun j => (R j).nm) i))) (fun _ t _ => rk - (intOf t).toNat)
      case atStart => exact ⟨0, by omega, rfl, Below.refl _ _, rowG_nil _ _ _ _⟩
      case round =>
        obtain ⟨i, hi, rfl, HB, HRow⟩ := hrel
        by_cases hlt : i < rk
        · obtain ⟨b, o, rfl, hc, hn⟩ := (HRL.out.below (HB5.out.trans (HB.out.mono HB5.out.size))) i hlt
          obtain ⟨⟨z, ⟨i1, ⟨s1, x1, n1, c1, f1, y1, m1, d1, g1⟩⟩, ⟨i2, ⟨s2, x2, n2, c2, f2, y2, m2, d2, g2⟩⟩, ta, tk, tc, tcol, tt⟩, hCi⟩ : ∃ t, R i = t := ⟨_, rfl⟩
          rw [hCi] at hc
          have q0 : wr.cell? ⟨b, o + i * 10, none⟩ = some (.string z) := hc 0 _ rfl
          have q1 : wr.cell? ⟨b, o + i * 10 + 1, none⟩ = some (.int .i64 i1) := hc 1 _ rfl
          have q2 : wr.cell? ⟨b, o + i * 10 + 2, none⟩ = some (.bool s1) := hc 2 _ rfl
          have q3 : wr.cell? ⟨b, o + i * 10 + 3, none⟩ = some (.slice x1 n1 c1) := hc 3 _ rfl
          have q4 : wr.cell? ⟨b, o + i * 10 + 4, none⟩ = some (.slice y1 m1 d1) := hc 4 _ rfl
          have q5 : wr.cell? ⟨b, o + i * 10 + 5, none⟩ = some (.int .i64 i2) := hc 5 _ rfl
          have q6 : wr.cell? ⟨b, o + i * 10 + 6, none⟩ = some (.bool s2) := hc 6 _ rfl
          have q7 : wr.cell? ⟨b, o + i * 10 + 7, none⟩ = some (.slice x2 n2 c2) := hc 7 _ rfl
          have q8 : wr.cell? ⟨b, o + i * 10 + 8, none⟩ = some (.slice y2 m2 d2) := hc 8 _ rfl
          have q9 : wr.cell? ⟨b, o + i * 10 + 9, none⟩ = some (.slice ta tk tc) := hc 9 _ rfl
          have HZ := hid (show (R i).nm = z from by rw [hCi])
          have i1' : ((i : Nat) : Int) < ((rk : Nat) : Int) := by omega
          have hb5 := below_alloc (Below.refl wr.heap.size wr) (.cells #[.string z, .int .i64 i1, .bool s1, .slice x1 n1 c1, .slice y1 m1 d1, .int .i64 i2, .bool s2, .slice x2 n2 c2, .slice y2 m2 d2, .slice ta tk tc] 75)
          have HRow5 := hid (HRow.out.below hb5); have HB6 := hid (HB.out.trans (hb5.mono HB.out.size))
          have k0 : (wr.alloc (.cells #[.string z, .int .i64 i1, .bool s1, .slice x1 n1 c1, .slice y1 m1 d1, .int .i64 i2, .bool s2, .slice x2 n2 c2, .slice y2 m2 d2, .slice ta tk tc] 75)).cell? ⟨wr.heap.size, 0, none⟩ = some (.string z) := by simp [go_sem]
          clear hCi hc hn hb5
          go_upto_region 9 with fail
          clear q0 q1 q2 q3 q4 q5 q6 q7 q8 q9 HB HRow
          generalize wr.alloc (.cells #[.string z, .int .i64 i1, .bool s1, .slice x1 n1 c1, .slice y1 m1 d1, .int .i64 i2, .bool s2, .slice x2 n2 c2, .slice y2 m2 d2, .slice ta tk tc] 75) = w6 at *
          have hsz := HB6.out.size
          go_wp2_with (at_builtin; go_must (refine wpList_append_one w6 rfl (.tmp 28) (.tmp 31) 98 rfl wa.heap.size 9 16 1 (.string .empty) Tryz.underlying98 Tryz.infoStr rfl (by decide) nz1 u3 i (sls (fun j => (R j).nm) i) rfl HRow5.out #[.string z] rfl rfl (one1 _) (not1 _) ?p1 (by decide) hsz ?_))
          case p1 => omega
          intro g8 cap8 w8 hr8 hk8 hb8 hg8
          have HB8 := hid (hb8 wa HB6.out (Nat.le_refl _))
          have HR8 : Hid (RowG 9 1 wa.heap.size w8 (.slice (some ⟨g8, 0, none⟩) (i + 1) cap8) (i + 1) (sls (fun j => (R j).nm) (i + 1))) := by
            show RowG _ _ _ _ _ _ _
            rw [sls_succ, HZ.out]; exact hr8
          clear hr8 hk8 hb8 hg8 HRow5 HB6 hsz k0
          go_wp2
          go_roundw
          case rel => exact ⟨i + 1, by omega, by go_num, HB8.out, HR8.out⟩
          case measure => simp [intOf]; omega
        · have e1 : i = rk := by omega
          have i2 : ¬ (((i : Nat) : Int) < ((rk : Nat) : Int)) := by omega
          rw [e1] at HRow
          obtain ⟨ya, yc, rfl⟩ := HRow.out.slice
          have HB6 := hid (HB5.out.trans (HB.out.mono HB5.out.size))
          have HSY := hid (rowg_sl HRow.out HRN.out)
          have HSX2 := hid (HSX.out.below HB.out)
          clear e1 HB HRow HSX
          go_wp2
          go_ret2
          exact ⟨xa, xc, ya, yc, rfl, HB6.out, HSX2.out, HSY.out⟩
end Go.Proofs.YtgmllfcngnfpkaaGreat
namespace Go.Proofs.YtgmllfcngnfpkaaGreat
open Go.RowKit

/-- The last term of a row lies at a column of k, or there is none. -/
def lastB (k : Nat) (r : Lr) : Bool := decide (r.tk = 0) || decide (r.col (r.tk - 1) < (k : Int))
def alB (k : Nat) (R : Nat → Lr) : Nat → Nat → Bool
  | 0, _ => true
  | r + 1, i => lastB k (R i) && alB k R r (i + 1)

set_option maxRecDepth 100000 in
set_option maxHeartbeats 4000000 in
theorem mBelow_c {w : World} {M : Mo} (h : MoR w M) : Calls Tryz.prog 45 #[M.val] w fun r w' => r = .returned (.bool (alB M.ck M.R M.rk 0)) ∧ Below w.heap.size w w' := by
  obtain ⟨⟨s, x, n, c, f, y, m, d, g⟩, ca, ck, cc, C, ra, rk, rc, R⟩ := M
  obtain ⟨ho, hC, hR, hck, hrk⟩ := h
  replace hck : ck ≤ 1048576 := hck
  replace hrk : rk ≤ 1048576 := hrk
  have HRL : Hid (Rls w ra rk R) := hR
  clear ho hC hR
  show Calls Tryz.prog 45 #[.agg #[.bool s, .slice x n c, .slice y m d, .slice ca ck cc, .slice ra rk rc]] w fun r w' => r = .returned (.bool (alB ck R rk 0)) ∧ Below w.heap.size w w'
  obtain ⟨ans, hans⟩ : ∃ z, alB ck R rk 0 = z := ⟨_, rfl⟩
  rw [hans]
  have HF := hid hans
  clear hans
  go_enter Tryz.func45, Tryz.ntmps45
  go_wp2_with fail
  have HB1 := hid (below_alloc (Below.refl w.heap.size w) (.cells #[.bool s, .slice x n c, .slice y m d, .slice ca ck cc, .slice ra rk rc] 28))
  have HK3 := hid (show (w.alloc (.cells #[.bool s, .slice x n c, .slice y m d, .slice ca ck cc, .slice ra rk rc] 28)).cell? ⟨w.heap.size, 3, none⟩ = some (.slice ca ck cc) from by simp [go_sem])
  obtain ⟨w1, hw1⟩ : ∃ z, w.alloc (.cells #[.bool s, .slice x n c, .slice y m d, .slice ca ck cc, .slice ra rk rc] 28) = z := ⟨_, rfl⟩
  rw [hw1] at HB1 HK3 ⊢
  clear hw1
  go_loopw [9] (fun t wr => ∃ (i : Nat), i ≤ rk ∧ t = .int .i64 i ∧ Hid (Below w1.heap.size w1 wr) ∧ Hid (ans = alB ck R (rk - i) i)) (fun t _ => rk - (intOf t).toNat)
  case atStart => exact ⟨0, by omega, rfl, Below.refl _ _, HF.out.symm⟩
  case round =>
    obtain ⟨i, hi, rfl, HB, HI⟩ := hrel
    by_cases hlt : i < rk
    · obtain ⟨b, o, rfl, hc, hn⟩ := (HRL.out.below (HB1.out.trans (HB.out.mono HB1.out.size))) i hlt
      obtain ⟨r, hr⟩ : ∃ r, rk - i = r + 1 := ⟨rk - i - 1, by omega⟩
      have hT : ans = (lastB ck (R i) && alB ck R r (i + 1)) := by rw [HI.out, hr]; rfl
      have hr2 : rk - (i + 1) = r := by omega
      obtain ⟨⟨z, ⟨i1, ⟨s1, x1, n1, c1, f1, y1, m1, d1, g1⟩⟩, ⟨i2, ⟨s2, x2, n2, c2, f2, y2, m2, d2, g2⟩⟩, ta, tk, tc, tcol, tt⟩, hCi⟩ : ∃ t, R i = t := ⟨_, rfl⟩
      rw [hCi] at hc hT hn
      have hTl : Tl wr ta tk tcol tt := hn.tl
      have htk : tk ≤ 1048576 := hn.tk
      have q0 : wr.cell? ⟨b, o + i * 10, none⟩ = some (.string z) := hc 0 _ rfl
      have q1 : wr.cell? ⟨b, o + i * 10 + 1, none⟩ = some (.int .i64 i1) := hc 1 _ rfl
      have q2 : wr.cell? ⟨b, o + i * 10 + 2, none⟩ = some (.bool s1) := hc 2 _ rfl
      have q3 : wr.cell? ⟨b, o + i * 10 + 3, none⟩ = some (.slice x1 n1 c1) := hc 3 _ rfl
      have q4 : wr.cell? ⟨b, o + i * 10 + 4, none⟩ = some (.slice y1 m1 d1) := hc 4 _ rfl
      have q5 : wr.cell? ⟨b, o + i * 10 + 5, none⟩ = some (.int .i64 i2) := hc 5 _ rfl
      have q6 : wr.cell? ⟨b, o + i * 10 + 6, none⟩ = some (.bool s2) := hc 6 _ rfl
      have q7 : wr.cell? ⟨b, o + i * 10 + 7, none⟩ = some (.slice x2 n2 c2) := hc 7 _ rfl
      have q8 : wr.cell? ⟨b, o + i * 10 + 8, none⟩ = some (.slice y2 m2 d2) := hc 8 _ rfl
      have q9 : wr.cell? ⟨b, o + i * 10 + 9, none⟩ = some (.slice ta tk tc) := hc 9 _ rfl
      have HT := hid hT; have HR := hid hr2
      have i1' : ((i : Nat) : Int) < ((rk : Nat) : Int) := by omega
      have hb5 := below_alloc (Below.refl wr.heap.size wr) (.cells #[.string z, .int .i64 i1, .bool s1, .slice x1 n1 c1, .slice y1 m1 d1, .int .i64 i2, .bool s2, .slice x2 n2 c2, .slice y2 m2 d2, .slice ta tk tc] 75)
      have HB5 := hid (HB.out.trans (hb5.mono HB.out.size))
      have HTL := hid (hTl.below hb5)
      have k9 : (wr.alloc (.cells #[.string z, .int .i64 i1, .bool s1, .slice x1 n1 c1, .slice y1 m1 d1, .int .i64 i2, .bool s2, .slice x2 n2 c2, .slice y2 m2 d2, .slice ta tk tc] 75)).cell? ⟨wr.heap.size, 9, none⟩ = some (.slice ta tk tc) := by simp [go_sem]
      have k3 := kCb HB5.out HK3.out
      clear hCi hc hn hb5 hT hr2 hr hTl
      go_upto_region 4 with fail
      clear q0 q1 q2 q3 q4 q5 q6 q7 q8 q9 HB HI
      generalize wr.alloc (.cells #[.string z, .int .i64 i1, .bool s1, .slice x1 n1 c1, .slice y1 m1 d1, .int .i64 i2, .bool s2, .slice x2 n2 c2, .slice y2 m2 d2, .slice ta tk tc] 75) = w6 at *
      rcases Nat.eq_zero_or_pos tk with h0 | h0
      · subst h0
        have HL := hid (show lastB ck ⟨z, ⟨i1, ⟨s1, x1, n1, c1, f1, y1, m1, d1, g1⟩⟩, ⟨i2, ⟨s2, x2, n2, c2, f2, y2, m2, d2, g2⟩⟩, ta, 0, tc, tcol, tt⟩ = true from by simp [lastB])
        go_upto_region 5 with fail
        have k9' : w6.drew.cell? ⟨wr.heap.size, 9, none⟩ = some (.slice ta 0 tc) := k9
        have k3' : w6.drew.cell? ⟨w.heap.size, 3, none⟩ = some (.slice ca ck cc) := k3
        go_quiet (fail)
        go_wp2
        go_roundw
        case rel =>
          refine ⟨i + 1, by omega, by go_num, ⟨HB5.out.os, HB5.out.tape, HB5.out.output, HB5.out.size, HB5.out.block⟩, ?_⟩
          show _ = _
          rw [HT.out, HL.out, HR.out]; rfl
        case measure => simp [intOf]; omega
      · obtain ⟨j, rfl⟩ : ∃ j, tk = j + 1 := ⟨tk - 1, by omega⟩
        obtain ⟨tb, tq, rfl, ⟨t0, _, _, _⟩, _⟩ := HTL.out j (by omega)
        obtain ⟨v, hv⟩ : ∃ v, tcol j = v := ⟨_, rfl⟩
        rw [hv] at t0
        have hg0 : decide ((((j + 1 : Nat) : Int)) > 0) = true := by simp
        have hsub : ((j + 1 : Nat) : Int) - 1 = ((j : Nat) : Int) := by omega
        by_cases hvk : v < (ck : Int)
        · have HL := hid (show lastB ck ⟨z, ⟨i1, ⟨s1, x1, n1, c1, f1, y1, m1, d1, g1⟩⟩, ⟨i2, ⟨s2, x2, n2, c2, f2, y2, m2, d2, g2⟩⟩, some ⟨tb, tq, none⟩, j + 1, tc, tcol, tt⟩ = true from by simp [lastB, hv, hvk])
          have hd : decide (v ≥ (ck : Int)) = false := by simp; omega
          go_upto_region 5 with fail
          have k9' : w6.drew.cell? ⟨wr.heap.size, 9, none⟩ = some (.slice (some ⟨tb, tq, none⟩) (j + 1) tc) := k9
          have k3' : w6.drew.cell? ⟨w.heap.size, 3, none⟩ = some (.slice ca ck cc) := k3
          have t0' : w6.drew.cell? ⟨tb, tq + j * 4, none⟩ = some (.int .i64 v) := t0
          go_quiet (fail)
          go_wp2
          go_roundw
          case rel =>
            refine ⟨i + 1, by omega, by go_num, ⟨HB5.out.os, HB5.out.tape, HB5.out.output, HB5.out.size, HB5.out.block⟩, ?_⟩
            show _ = _
            rw [HT.out, HL.out, HR.out]; rfl
          case measure => simp [intOf]; omega
        · have HL := hid (show lastB ck ⟨z, ⟨i1, ⟨s1, x1, n1, c1, f1, y1, m1, d1, g1⟩⟩, ⟨i2, ⟨s2, x2, n2, c2, f2, y2, m2, d2, g2⟩⟩, some ⟨tb, tq, none⟩, j + 1, tc, tcol, tt⟩ = false from by simp [lastB, hv]; omega)
          have hd : decide (v ≥ (ck : Int)) = true := by simp; omega
          go_upto_region 5 with fail
          have k9' : w6.drew.cell? ⟨wr.heap.size, 9, none⟩ = some (.slice (some ⟨tb, tq, none⟩) (j + 1) tc) := k9
          have k3' : w6.drew.cell? ⟨w.heap.size, 3, none⟩ = some (.slice ca ck cc) := k3
          have t0' : w6.drew.cell? ⟨tb, tq + j * 4, none⟩ = some (.int .i64 v) := t0
          go_quiet (fail)
          go_wp2
          go_ret
          have HB7 := HB1.out.trans (HB5.out.mono HB1.out.size)
          refine ⟨?_, ⟨HB7.os, HB7.tape, HB7.output, HB7.size, HB7.block⟩⟩
          rw [HT.out, HL.out]; rfl
    · have e1 : i = rk := by omega
      have HE : Hid (ans = true) := by show _ = _; rw [HI.out, e1, Nat.sub_self]; rfl
      have i2 : ¬ (((i : Nat) : Int) < ((rk : Nat) : Int)) := by omega
      have HB5 := hid (HB1.out.trans (HB.out.mono HB1.out.size))
      clear e1 HI HB
      go_wp2
      go_ret
      refine ⟨?_, HB5.out⟩
      rw [HE.out]; rfl
end Go.Proofs.YtgmllfcngnfpkaaGreat
namespace Go.Proofs.YtgmllfcngnfpkaaGreat
open Go.RowKit

/-- Check's answer: too long, in form, names of columns and of rows, twice among columns or rows, below. -/
def chkV (l t1 t2 t3 t4 t5 t6 : Bool) : Int := if l then 2 else if !t1 then 3 else if !(t2 && t3) then 5 else if t4 || t5 then 6 else if !t6 then 7 else 0
def chkE (M : Mo) : Int := chkV (decide (64 < M.ck) || decide (64 < M.rk)) (moF M) (nms (fun j => (M.C j).nm) M.ck 0) (nms (fun j => (M.R j).nm) M.rk 0) (twr (fun j => (M.C j).nm) M.ck 0) (twr (fun j => (M.R j).nm) M.rk 0) (alB M.ck M.R M.rk 0)

set_option maxRecDepth 100000 in
set_option maxHeartbeats 4000000 in
theorem check_c {w : World} {M : Mo} (h : MoR w M) : Calls Tryz.prog 14 #[M.val] w fun r w' => r = .returned (.int .i64 (chkE M)) ∧ Below w.heap.size w w' := by
  have hck := h.ck; have hrk := h.rk
  have CN := hid (fun w' (hw : Below w.heap.size w w') (h1 : M.ck ≤ 1000) (h2 : M.rk ≤ 1000) => names_c (w := w') (h.below hw) h1 h2)
  have CI := hid (fun w' (hw : Below w.heap.size w w') => inForm_c (w := w') (h.below hw))
  have CL := hid (fun w' (hw : Below w.heap.size w w') => mBelow_c (w := w') (h.below hw))
  obtain ⟨t1, ht1⟩ : ∃ z, moF M = z := ⟨_, rfl⟩
  obtain ⟨S, hS⟩ : ∃ S : Nat → ByteArray, (fun j => (M.C j).nm) = S := ⟨_, rfl⟩
  obtain ⟨Z, hZ⟩ : ∃ S : Nat → ByteArray, (fun j => (M.R j).nm) = S := ⟨_, rfl⟩
  obtain ⟨t2, ht2⟩ : ∃ z, nms S M.ck 0 = z := ⟨_, rfl⟩
  obtain ⟨t3, ht3⟩ : ∃ z, nms Z M.rk 0 = z := ⟨_, rfl⟩
  obtain ⟨t4, ht4⟩ : ∃ z, twr S M.ck 0 = z := ⟨_, rfl⟩
  obtain ⟨t5, ht5⟩ : ∃ z, twr Z M.rk 0 = z := ⟨_, rfl⟩
  obtain ⟨t6, ht6⟩ : ∃ z, alB M.ck M.R M.rk 0 = z := ⟨_, rfl⟩
  obtain ⟨ans, hans⟩ : ∃ z, chkE M = z := ⟨_, rfl⟩
  have hA : ans = chkV (decide (64 < M.ck) || decide (64 < M.rk)) t1 t2 t3 t4 t5 t6 := by rw [← hans, chkE, hS, hZ, ht1, ht2, ht3, ht4, ht5, ht6]
  rw [hans]
  unfold NmsAns at CN
  rw [ht1] at CI
  rw [ht6] at CL
  rw [hS, hZ] at CN
  clear hans ht1 ht6 hS hZ h
  obtain ⟨⟨s, x, n, c, f, y, m, d, g⟩, ca, ck, cc, C, ra, rk, rc, R⟩ := M
  replace hck : ck ≤ 1048576 := hck
  replace hrk : rk ≤ 1048576 := hrk
  have HA : Hid (ans = chkV (decide (64 < ck) || decide (64 < rk)) t1 t2 t3 t4 t5 t6) := hA
  have H2 : Hid (nms S ck 0 = t2) := ht2
  have H3 : Hid (nms Z rk 0 = t3) := ht3
  have H4 : Hid (twr S ck 0 = t4) := ht4
  have H5 : Hid (twr Z rk 0 = t5) := ht5
  replace CN : Hid (∀ w', Below w.heap.size w w' → ck ≤ 1000 → rk ≤ 1000 → Calls Tryz.prog 41 #[.agg #[.bool s, .slice x n c, .slice y m d, .slice ca ck cc, .slice ra rk rc]] w' fun e w2 => ∃ xa xc ya yc, e = .returned (.tuple #[.slice xa ck xc, .slice ya rk yc]) ∧ Below w'.heap.size w' w2 ∧ Sl w2 xa ck S ∧ Sl w2 ya rk Z) := CN
  replace CI : Hid (∀ w', Below w.heap.size w w' → Calls Tryz.prog 42 #[.agg #[.bool s, .slice x n c, .slice y m d, .slice ca ck cc, .slice ra rk rc]] w' fun e w2 => e = .returned (.bool t1) ∧ Below w'.heap.size w' w2) := CI
  replace CL : Hid (∀ w', Below w.heap.size w w' → Calls Tryz.prog 45 #[.agg #[.bool s, .slice x n c, .slice y m d, .slice ca ck cc, .slice ra rk rc]] w' fun e w2 => e = .returned (.bool t6) ∧ Below w'.heap.size w' w2) := CL
  clear hA ht2 ht3 ht4 ht5
  show Calls Tryz.prog 14 #[.agg #[.bool s, .slice x n c, .slice y m d, .slice ca ck cc, .slice ra rk rc]] w _
  by_cases h1 : 64 < ck
  · have HV : Hid (ans = 2) := by show _ = _; rw [HA.out]; simp [chkV, h1]
    have e1 : (ck : Int) > 64 := by omega
    clear HA h1
    go_enter Tryz.func14, Tryz.ntmps14
    go_wp2
    go_ret
    refine ⟨?_, below_alloc (Below.refl _ _) _⟩
    rw [HV.out]; rfl
  by_cases h2 : 64 < rk
  · have HV : Hid (ans = 2) := by show _ = _; rw [HA.out]; simp [chkV, h2]
    have e1 : ¬ (ck : Int) > 64 := by omega
    have e2 : (rk : Int) > 64 := by omega
    clear HA h1 h2
    go_enter Tryz.func14, Tryz.ntmps14
    go_wp2
    go_ret
    refine ⟨?_, below_alloc (Below.refl _ _) _⟩
    rw [HV.out]; rfl
  have HV : Hid (ans = chkV false t1 t2 t3 t4 t5 t6) := by show _ = _; rw [HA.out]; simp [h1, h2]
  have e1 : ¬ (ck : Int) > 64 := by omega
  have e2 : ¬ (rk : Int) > 64 := by omega
  have l1 : ck ≤ 1000 := by omega
  have l2 : rk ≤ 1000 := by omega
  clear HA h1 h2
  go_enter Tryz.func14, Tryz.ntmps14
  go_wp2_with fail
  have HB := hid (below_alloc (Below.refl w.heap.size w) (.cells #[.bool s, .slice x n c, .slice y m d, .slice ca ck cc, .slice ra rk rc] 28))
  refine (CN.out _ HB.out l1 l2).mono ?_
  rintro r w1 ⟨xa, xc, ya, yc, rfl, hb1, hSX, hSY⟩
  have k0 := kCb hb1 (a := ⟨w.heap.size, 0, none⟩) (v := .bool s) (by simp [go_sem])
  have k1 := kCb hb1 (a := ⟨w.heap.size, 1, none⟩) (v := .slice x n c) (by simp [go_sem])
  have k2 := kCb hb1 (a := ⟨w.heap.size, 2, none⟩) (v := .slice y m d) (by simp [go_sem])
  have k3 := kCb hb1 (a := ⟨w.heap.size, 3, none⟩) (v := .slice ca ck cc) (by simp [go_sem])
  have k4 := kCb hb1 (a := ⟨w.heap.size, 4, none⟩) (v := .slice ra rk rc) (by simp [go_sem])
  have HX := hid hSX; have HY := hid hSY
  have HB1 := hid (HB.out.trans (hb1.mono HB.out.size))
  clear hb1 HB CN hSX hSY
  go_wp2_with fail
  refine (CI.out _ HB1.out).mono ?_
  rintro r w2 ⟨rfl, hb2⟩
  replace HX := hid (HX.out.below hb2); replace HY := hid (HY.out.below hb2)
  replace k0 := kCb hb2 k0; replace k1 := kCb hb2 k1; replace k2 := kCb hb2 k2; replace k3 := kCb hb2 k3; replace k4 := kCb hb2 k4
  have HB2 := hid (HB1.out.trans (hb2.mono HB1.out.size))
  clear hb2 HB1 CI
  cases t1
  · go_wp2
    go_ret
    refine ⟨?_, HB2.out⟩
    rw [HV.out]; rfl
  have CA := hid (allNames_c (cap := xc) HX.out (by omega))
  rw [H2.out] at CA
  go_wp2_with fail
  refine CA.out.mono ?_
  rintro r w2' ⟨rfl, rfl⟩
  cases t2
  · go_wp2
    go_ret
    refine ⟨?_, HB2.out⟩
    rw [HV.out]; rfl
  have CA2 := hid (allNames_c (cap := yc) HY.out (by omega))
  rw [H3.out] at CA2
  go_wp2_with fail
  refine CA2.out.mono ?_
  rintro r w2' ⟨rfl, rfl⟩
  cases t3
  · go_wp2
    go_ret
    refine ⟨?_, HB2.out⟩
    rw [HV.out]; rfl
  have CT := hid (anyTwice_c (cap := xc) HX.out (by omega))
  rw [H4.out] at CT
  go_wp2_with fail
  refine CT.out.mono ?_
  rintro r w3 ⟨rfl, hb3⟩
  replace HY := hid (HY.out.below hb3)
  replace k0 := kCb hb3 k0; replace k1 := kCb hb3 k1; replace k2 := kCb hb3 k2; replace k3 := kCb hb3 k3; replace k4 := kCb hb3 k4
  have HB3 := hid (HB2.out.trans (hb3.mono HB2.out.size))
  clear hb3 HX CA CA2 CT
  cases t4
  case true =>
    go_wp2
    go_ret
    refine ⟨?_, HB3.out⟩
    rw [HV.out]; rfl
  have CT := hid (anyTwice_c (cap := yc) HY.out (by omega))
  rw [H5.out] at CT
  go_wp2_with fail
  refine CT.out.mono ?_
  rintro r w4 ⟨rfl, hb4⟩
  replace k0 := kCb hb4 k0; replace k1 := kCb hb4 k1; replace k2 := kCb hb4 k2; replace k3 := kCb hb4 k3; replace k4 := kCb hb4 k4
  have HB4 := hid (HB3.out.trans (hb4.mono HB3.out.size))
  clear hb4 HY CT HB2 HB3
  cases t5
  case true =>
    go_wp2
    go_ret
    refine ⟨?_, HB4.out⟩
    rw [HV.out]; rfl
  go_wp2_with fail
  refine (CL.out _ HB4.out).mono ?_
  rintro r w5 ⟨rfl, hb5⟩
  have HB5 := hid (HB4.out.trans (hb5.mono HB4.out.size))
  clear hb5 HB4 k0 k1 k2 k3 k4
  cases t6
  · go_wp2
    go_ret
    refine ⟨?_, HB5.out⟩
    rw [HV.out]; rfl
  · go_wp2
    go_ret
    refine ⟨?_, HB5.out⟩
    rw [HV.out]; rfl

set_option maxRecDepth 100000 in
set_option maxHeartbeats 4000000 in
theorem checkL_c {w : World} {M : Mo} (h : 64 < M.ck ∨ 64 < M.rk) : Calls Tryz.prog 14 #[M.val] w fun r w' => r = .returned (.int .i64 2) ∧ Below w.heap.size w w' := by
  obtain ⟨⟨s, x, n, c, f, y, m, d, g⟩, ca, ck, cc, C, ra, rk, rc, R⟩ := M
  replace h : 64 < ck ∨ 64 < rk := h
  show Calls Tryz.prog 14 #[.agg #[.bool s, .slice x n c, .slice y m d, .slice ca ck cc, .slice ra rk rc]] w _
  by_cases h1 : 64 < ck
  · have e1 : (ck : Int) > 64 := by omega
    clear h1 h
    go_enter Tryz.func14, Tryz.ntmps14
    go_wp2
    go_ret
    exact ⟨rfl, below_alloc (Below.refl _ _) _⟩
  · have e1 : ¬ (ck : Int) > 64 := by omega
    have e2 : (rk : Int) > 64 := by omega
    clear h1 h
    go_enter Tryz.func14, Tryz.ntmps14
    go_wp2
    go_ret
    exact ⟨rfl, below_alloc (Below.refl _ _) _⟩
/-- A model of any length: of one that is too long nothing is known. -/
def MoW (w : World) (M : Mo) : Prop := M.ck ≤ 64 → M.rk ≤ 64 → MoR w M
theorem MoW.below {w w' M} (h : MoW w M) (hb : Below w.heap.size w w') : MoW w' M := fun h1 h2 => (h h1 h2).below hb
theorem check_w {w : World} {M : Mo} (h : MoW w M) : Calls Tryz.prog 14 #[M.val] w fun r w' => r = .returned (.int .i64 (chkE M)) ∧ Below w.heap.size w w' := by
  by_cases h1 : 64 < M.ck ∨ 64 < M.rk
  · have e : chkE M = 2 := by
      have : (decide (64 < M.ck) || decide (64 < M.rk)) = true := by simpa using h1
      rw [chkE, this]; rfl
    rw [e]; exact checkL_c h1
  · exact check_c (h (by omega) (by omega))
/-- A model without an error is short, and all that Check asks holds. -/
theorem chkE_ok {M : Mo} (h : chkE M = 0) : M.ck ≤ 64 ∧ M.rk ≤ 64 ∧ moF M = true ∧ nms (fun j => (M.C j).nm) M.ck 0 = true ∧ nms (fun j => (M.R j).nm) M.rk 0 = true ∧ twr (fun j => (M.C j).nm) M.ck 0 = false ∧ twr (fun j => (M.R j).nm) M.rk 0 = false ∧ alB M.ck M.R M.rk 0 = true := by
  unfold chkE chkV at h
  split at h
  · cases h
  · rename_i h0
    split at h
    · cases h
    · rename_i h1
      split at h
      · cases h
      · rename_i h2
        split at h
        · cases h
        · rename_i h3
          split at h
          · cases h
          · rename_i h4
            simp at h0 h1 h2 h3 h4
            exact ⟨h0.1, h0.2, h1, h2.1, h2.2, h3.1, h3.2, h4⟩
end Go.Proofs.YtgmllfcngnfpkaaGreat
namespace Go.Proofs.YtgmllfcngnfpkaaGreat
open Go.RowKit

theorem str_ne {z y : ByteArray} (h : ¬ z = y) : (z.toList == y.toList) = false := by
  rw [Go.ByteArray.toList_eq, Go.ByteArray.toList_eq]
  refine beq_eq_false_iff_ne.2 fun e => h (ByteArray.ext (Array.toList_inj.1 e))
/-- The place of z among the r texts from place i on, or -1. -/
def idx (S : Nat → ByteArray) (z : ByteArray) : Nat → Nat → Int
  | 0, _ => -1
  | r + 1, i => if z = S i then (i : Int) else idx S z r (i + 1)
def plc (p : Int) : Int × Int := if p < 0 then (0, 9) else (p, 0)

set_option maxRecDepth 100000 in
set_option maxHeartbeats 2000000 in
theorem indexS_c {w : World} {ao : Option Addr} {k cap : Nat} {S : Nat → ByteArray} {z : ByteArray} (h : Sl w ao k S) (hk : k ≤ 1048576) :
    Calls Tryz.prog 89 #[.slice ao k cap, .string z] w fun e w' => e = .returned (.int .i64 (idx S z k 0)) ∧ w' = w := by
  have H := hid h
  clear h
  go_enter Tryz.func89, Tryz.ntmps89
  go_wp2_with fail
  go_loopw [8] (fun t wr => ∃ (i : Nat), i ≤ k ∧ t = .int .i64 i ∧ wr = w ∧ Hid (idx S z k 0 = idx S z (k - i) i)) (fun t _ => k - (intOf t).toNat)
  case atStart => exact ⟨0, by omega, rfl, rfl, rfl⟩
  case round =>
    obtain ⟨i, hi, rfl, rfl, HI⟩ := hrel
    by_cases hlt : i < k
    · obtain ⟨b, o, rfl, hc, hz⟩ := H.out i hlt
      obtain ⟨r, hr⟩ : ∃ r, k - i = r + 1 := ⟨k - i - 1, by omega⟩
      have hT : idx S z k 0 = (if z = S i then (i : Int) else idx S z r (i + 1)) := by rw [HI.out, hr]; rfl
      have hr2 : k - (i + 1) = r := by omega
      obtain ⟨y, hy⟩ : ∃ y, S i = y := ⟨_, rfl⟩
      rw [hy] at hT hc hz
      have HR := hid hr2
      have i1 : ((i : Nat) : Int) < ((k : Nat) : Int) := by omega
      by_cases hzy : z = y
      · rw [if_pos hzy] at hT
        subst hzy
        have HT := hid hT
        clear hT hr2 hr hy
        go_wp2
        go_ret
        refine ⟨?_, rfl⟩
        rw [HT.out]; rfl
      · rw [if_neg hzy] at hT
        have HT := hid hT
        have hne := str_ne hzy
        clear hT hr2 hr hy
        go_wp2
        go_roundw
        case rel =>
          refine ⟨i + 1, by omega, by go_num, trivial, ?_⟩
          show _ = _
          rw [HT.out, HR.out]
        case measure => simp [intOf]; omega
    · have e1 : i = k := by omega
      have HE : Hid (idx S z k 0 = -1) := by show _ = _; rw [HI.out, e1, Nat.sub_self]; rfl
      have i2 : ¬ (((i : Nat) : Int) < ((k : Nat) : Int)) := by omega
      clear e1 HI
      go_wp2
      go_ret
      refine ⟨?_, rfl⟩
      rw [HE.out]; rfl
theorem place_c {w : World} {ao : Option Addr} {k cap : Nat} {S : Nat → ByteArray} {z : ByteArray} (h : Sl w ao k S) (hk : k ≤ 1048576) :
    Calls Tryz.prog 57 #[.slice ao k cap, .string z] w fun e w' => e = .returned (.tuple #[.int .i64 (plc (idx S z k 0)).1, .int .i64 (plc (idx S z k 0)).2]) ∧ w' = w := by
  have C := hid (indexS_c (cap := cap) (z := z) h hk)
  obtain ⟨p, hp⟩ : ∃ p, idx S z k 0 = p := ⟨_, rfl⟩
  rw [hp] at C ⊢
  clear h hp
  by_cases h0 : p < 0
  · have HP := hid (show plc p = (0, 9) from by simp [plc, h0])
    go_enter Tryz.func57, Tryz.ntmps57
    go_wp2_with fail
    refine C.out.mono ?_
    rintro e w2 ⟨rfl, rfl⟩
    go_wp2
    go_ret2
    refine ⟨?_, rfl⟩
    rw [HP.out]; rfl
  · have HP := hid (show plc p = (p, 0) from by simp [plc, h0])
    go_enter Tryz.func57, Tryz.ntmps57
    go_wp2_with fail
    refine C.out.mono ?_
    rintro e w2 ⟨rfl, rfl⟩
    go_wp2
    go_ret2
    refine ⟨?_, rfl⟩
    rw [HP.out]; rfl
/-- Row's answer: the place and the error. -/
def atRow (M : Mo) (z : ByteArray) : Int × Int := if chkE M = 0 then plc (idx (fun j => (M.R j).nm) z M.rk 0) else (0, chkE M)
set_option maxRecDepth 100000 in
set_option maxHeartbeats 2000000 in
theorem mRow_c {w : World} {M : Mo} {z : ByteArray} (h : MoW w M) : Calls Tryz.prog 24 #[M.val, .string z] w fun e w' => e = .returned (.tuple #[.int .i64 (atRow M z).1, .int .i64 (atRow M z).2]) ∧ Below w.heap.size w w' := by
  have CC := hid (fun w' (hw : Below w.heap.size w w') => check_w (w := w') (h.below hw))
  obtain ⟨a, ha⟩ : ∃ a, atRow M z = a := ⟨_, rfl⟩
  rw [ha]
  obtain ⟨e, he⟩ : ∃ e, chkE M = e := ⟨_, rfl⟩
  rw [he] at CC
  by_cases h0 : e = 0
  · subst h0
    obtain ⟨l1, l2, _⟩ := chkE_ok he
    have CN := hid (fun w' (hw : Below w.heap.size w w') => names_c (w := w') ((h l1 l2).below hw) (by omega) (by omega))
    have hA : plc (idx (fun j => (M.R j).nm) z M.rk 0) = a := by rw [← ha, atRow, he]; rfl
    unfold NmsAns at CN
    have CP : Hid (∀ (w' : World) ao cap, Sl w' ao M.rk (fun j => (M.R j).nm) → Calls Tryz.prog 57 #[.slice ao M.rk cap, .string z] w' fun e w2 => e = .returned (.tuple #[.int .i64 a.1, .int .i64 a.2]) ∧ w2 = w') := fun w' ao cap hs => by
      have := place_c (cap := cap) (z := z) hs (by omega)
      rw [hA] at this
      exact this
    clear ha he h hA
    obtain ⟨⟨s, x, n, c, f, y, m, d, g⟩, ca, ck, cc, C, ra, rk, rc, R⟩ := M
    obtain ⟨a1, a2⟩ := a
    replace CC : Hid (∀ w', Below w.heap.size w w' → Calls Tryz.prog 14 #[.agg #[.bool s, .slice x n c, .slice y m d, .slice ca ck cc, .slice ra rk rc]] w' fun e w2 => e = .returned (.int .i64 0) ∧ Below w'.heap.size w' w2) := CC
    replace CN : Hid (∀ w', Below w.heap.size w w' → Calls Tryz.prog 41 #[.agg #[.bool s, .slice x n c, .slice y m d, .slice ca ck cc, .slice ra rk rc]] w' fun e w2 => ∃ xa xc ya yc, e = .returned (.tuple #[.slice xa ck xc, .slice ya rk yc]) ∧ Below w'.heap.size w' w2 ∧ Sl w2 xa ck (fun j => (C j).nm) ∧ Sl w2 ya rk (fun j => (R j).nm)) := CN
    replace CP : Hid (∀ (w' : World) ao cap, Sl w' ao rk (fun j => (R j).nm) → Calls Tryz.prog 57 #[.slice ao rk cap, .string z] w' fun e w2 => e = .returned (.tuple #[.int .i64 a1, .int .i64 a2]) ∧ w2 = w') := CP
    show Calls Tryz.prog 24 #[.agg #[.bool s, .slice x n c, .slice y m d, .slice ca ck cc, .slice ra rk rc], .string z] w fun e w' => e = .returned (.tuple #[.int .i64 a1, .int .i64 a2]) ∧ Below w.heap.size w w'
    go_enter Tryz.func24, Tryz.ntmps24
    go_wp2_with fail
    have HB := hid (below_alloc (Below.refl w.heap.size w) (.cells #[.bool s, .slice x n c, .slice y m d, .slice ca ck cc, .slice ra rk rc] 28))
    refine (CC.out _ HB.out).mono ?_
    rintro r w1 ⟨rfl, hb1⟩
    have k0 := kCb hb1 (a := ⟨w.heap.size, 0, none⟩) (v := .bool s) (by simp [go_sem])
    have k1 := kCb hb1 (a := ⟨w.heap.size, 1, none⟩) (v := .slice x n c) (by simp [go_sem])
    have k2 := kCb hb1 (a := ⟨w.heap.size, 2, none⟩) (v := .slice y m d) (by simp [go_sem])
    have k3 := kCb hb1 (a := ⟨w.heap.size, 3, none⟩) (v := .slice ca ck cc) (by simp [go_sem])
    have k4 := kCb hb1 (a := ⟨w.heap.size, 4, none⟩) (v := .slice ra rk rc) (by simp [go_sem])
    have HB1 := hid (HB.out.trans (hb1.mono HB.out.size))
    clear hb1 HB CC
    go_wp2_with fail
    refine (CN.out _ HB1.out).mono ?_
    rintro r w2 ⟨xa, xc, ya, yc, rfl, hb2, hSX, hSY⟩
    have HX := hid hSX; have HY := hid hSY
    have HB2 := hid (HB1.out.trans (hb2.mono HB1.out.size))
    clear hb2 HB1 CN k0 k1 k2 k3 k4 hSX hSY
    go_wp2_with fail
    refine (CP.out _ _ _ HY.out).mono ?_
    rintro r w3 ⟨rfl, rfl⟩
    go_wp2
    go_ret2
    exact ⟨rfl, HB2.out⟩
  · have hA : a = (0, e) := by rw [← ha, atRow, he, if_neg h0]
    subst hA
    have hne : (e != 0) = true := by simpa using h0
    clear ha he h
    obtain ⟨⟨s, x, n, c, f, y, m, d, g⟩, ca, ck, cc, C, ra, rk, rc, R⟩ := M
    replace CC : Hid (∀ w', Below w.heap.size w w' → Calls Tryz.prog 14 #[.agg #[.bool s, .slice x n c, .slice y m d, .slice ca ck cc, .slice ra rk rc]] w' fun e' w2 => e' = .returned (.int .i64 e) ∧ Below w'.heap.size w' w2) := CC
    show Calls Tryz.prog 24 #[.agg #[.bool s, .slice x n c, .slice y m d, .slice ca ck cc, .slice ra rk rc], .string z] w fun e' w' => e' = .returned (.tuple #[.int .i64 0, .int .i64 e]) ∧ Below w.heap.size w w'
    go_enter Tryz.func24, Tryz.ntmps24
    go_wp2_with fail
    have HB := hid (below_alloc (Below.refl w.heap.size w) (.cells #[.bool s, .slice x n c, .slice y m d, .slice ca ck cc, .slice ra rk rc] 28))
    refine (CC.out _ HB.out).mono ?_
    rintro r w1 ⟨rfl, hb1⟩
    have HB1 := hid (HB.out.trans (hb1.mono HB.out.size))
    clear hb1 HB CC
    go_wp2
    go_ret2
    exact ⟨rfl, HB1.out⟩
/-- Col's answer: the place and the error. -/
def atCol (M : Mo) (z : ByteArray) : Int × Int := if chkE M = 0 then plc (idx (fun j => (M.C j).nm) z M.ck 0) else (0, chkE M)
set_option maxRecDepth 100000 in
set_option maxHeartbeats 2000000 in
theorem mCol_c {w : World} {M : Mo} {z : ByteArray} (h : MoW w M) : Calls Tryz.prog 22 #[M.val, .string z] w fun e w' => e = .returned (.tuple #[.int .i64 (atCol M z).1, .int .i64 (atCol M z).2]) ∧ Below w.heap.size w w' := by
  have CC := hid (fun w' (hw : Below w.heap.size w w') => check_w (w := w') (h.below hw))
  obtain ⟨a, ha⟩ : ∃ a, atCol M z = a := ⟨_, rfl⟩
  rw [ha]
  obtain ⟨e, he⟩ : ∃ e, chkE M = e := ⟨_, rfl⟩
  rw [he] at CC
  by_cases h0 : e = 0
  · subst h0
    obtain ⟨l1, l2, _⟩ := chkE_ok he
    have CN := hid (fun w' (hw : Below w.heap.size w w') => names_c (w := w') ((h l1 l2).below hw) (by omega) (by omega))
    have hA : plc (idx (fun j => (M.C j).nm) z M.ck 0) = a := by rw [← ha, atCol, he]; rfl
    unfold NmsAns at CN
    have CP : Hid (∀ (w' : World) ao cap, Sl w' ao M.ck (fun j => (M.C j).nm) → Calls Tryz.prog 57 #[.slice ao M.ck cap, .string z] w' fun e w2 => e = .returned (.tuple #[.int .i64 a.1, .int .i64 a.2]) ∧ w2 = w') := fun w' ao cap hs => by
      have := place_c (cap := cap) (z := z) hs (by omega)
      rw [hA] at this
      exact this
    clear ha he h hA
    obtain ⟨⟨s, x, n, c, f, y, m, d, g⟩, ca, ck, cc, C, ra, rk, rc, R⟩ := M
    obtain ⟨a1, a2⟩ := a
    replace CC : Hid (∀ w', Below w.heap.size w w' → Calls Tryz.prog 14 #[.agg #[.bool s, .slice x n c, .slice y m d, .slice ca ck cc, .slice ra rk rc]] w' fun e w2 => e = .returned (.int .i64 0) ∧ Below w'.heap.size w' w2) := CC
    replace CN : Hid (∀ w', Below w.heap.size w w' → Calls Tryz.prog 41 #[.agg #[.bool s, .slice x n c, .slice y m d, .slice ca ck cc, .slice ra rk rc]] w' fun e w2 => ∃ xa xc ya yc, e = .returned (.tuple #[.slice xa ck xc, .slice ya rk yc]) ∧ Below w'.heap.size w' w2 ∧ Sl w2 xa ck (fun j => (C j).nm) ∧ Sl w2 ya rk (fun j => (R j).nm)) := CN
    replace CP : Hid (∀ (w' : World) ao cap, Sl w' ao ck (fun j => (C j).nm) → Calls Tryz.prog 57 #[.slice ao ck cap, .string z] w' fun e w2 => e = .returned (.tuple #[.int .i64 a1, .int .i64 a2]) ∧ w2 = w') := CP
    show Calls Tryz.prog 22 #[.agg #[.bool s, .slice x n c, .slice y m d, .slice ca ck cc, .slice ra rk rc], .string z] w fun e w' => e = .returned (.tuple #[.int .i64 a1, .int .i64 a2]) ∧ Below w.heap.size w w'
    go_enter Tryz.func22, Tryz.ntmps22
    go_wp2_with fail
    have HB := hid (below_alloc (Below.refl w.heap.size w) (.cells #[.bool s, .slice x n c, .slice y m d, .slice ca ck cc, .slice ra rk rc] 28))
    refine (CC.out _ HB.out).mono ?_
    rintro r w1 ⟨rfl, hb1⟩
    have k0 := kCb hb1 (a := ⟨w.heap.size, 0, none⟩) (v := .bool s) (by simp [go_sem])
    have k1 := kCb hb1 (a := ⟨w.heap.size, 1, none⟩) (v := .slice x n c) (by simp [go_sem])
    have k2 := kCb hb1 (a := ⟨w.heap.size, 2, none⟩) (v := .slice y m d) (by simp [go_sem])
    have k3 := kCb hb1 (a := ⟨w.heap.size, 3, none⟩) (v := .slice ca ck cc) (by simp [go_sem])
    have k4 := kCb hb1 (a := ⟨w.heap.size, 4, none⟩) (v := .slice ra rk rc) (by simp [go_sem])
    have HB1 := hid (HB.out.trans (hb1.mono HB.out.size))
    clear hb1 HB CC
    go_wp2_with fail
    refine (CN.out _ HB1.out).mono ?_
    rintro r w2 ⟨xa, xc, ya, yc, rfl, hb2, hSX, hSY⟩
    have HX := hid hSX; have HY := hid hSY
    have HB2 := hid (HB1.out.trans (hb2.mono HB1.out.size))
    clear hb2 HB1 CN k0 k1 k2 k3 k4 hSX hSY
    go_wp2_with fail
    refine (CP.out _ _ _ HX.out).mono ?_
    rintro r w3 ⟨rfl, rfl⟩
    go_wp2
    go_ret2
    exact ⟨rfl, HB2.out⟩
  · have hA : a = (0, e) := by rw [← ha, atCol, he, if_neg h0]
    subst hA
    have hne : (e != 0) = true := by simpa using h0
    clear ha he h
    obtain ⟨⟨s, x, n, c, f, y, m, d, g⟩, ca, ck, cc, C, ra, rk, rc, R⟩ := M
    replace CC : Hid (∀ w', Below w.heap.size w w' → Calls Tryz.prog 14 #[.agg #[.bool s, .slice x n c, .slice y m d, .slice ca ck cc, .slice ra rk rc]] w' fun e' w2 => e' = .returned (.int .i64 e) ∧ Below w'.heap.size w' w2) := CC
    show Calls Tryz.prog 22 #[.agg #[.bool s, .slice x n c, .slice y m d, .slice ca ck cc, .slice ra rk rc], .string z] w fun e' w' => e' = .returned (.tuple #[.int .i64 0, .int .i64 e]) ∧ Below w.heap.size w w'
    go_enter Tryz.func22, Tryz.ntmps22
    go_wp2_with fail
    have HB := hid (below_alloc (Below.refl w.heap.size w) (.cells #[.bool s, .slice x n c, .slice y m d, .slice ca ck cc, .slice ra rk rc] 28))
    refine (CC.out _ HB.out).mono ?_
    rintro r w1 ⟨rfl, hb1⟩
    have HB1 := hid (HB.out.trans (hb1.mono HB.out.size))
    clear hb1 HB CC
    go_wp2
    go_ret2
    exact ⟨rfl, HB1.out⟩
end Go.Proofs.YtgmllfcngnfpkaaGreat
namespace Go.Proofs.YtgmllfcngnfpkaaGreat
open Go.RowKit

/-- A bound of the reference. -/
structure Fn (w : World) (i : Int) (s : Bool) (x : Option Addr) (n : Nat) (d : Nat → Int) (y : Option Addr) (m : Nat) (g : Nat → Int) (q : Rat) : Prop where
  qn : Qn w s x n d y m g q
  inf : i = 0 ∨ (i = -1 ∨ i = 1) ∧ q = 0
theorem Fn.below {w w' i s x n d y m g q} (h : Fn w i s x n d y m g q) (hb : Below w.heap.size w w') : Fn w' i s x n d y m g q := ⟨h.qn.below hb, h.inf⟩
theorem Fn.alloc {w i s x n d y m g q} (h : Fn w i s x n d y m g q) (o : Obj) : Fn (w.alloc o) i s x n d y m g q := ⟨h.qn.alloc o, h.inf⟩

set_option maxRecDepth 100000 in
set_option maxHeartbeats 4000000 in
theorem xTwin_c {w : World} {i : Int} {s : Bool} {x : Option Addr} {n c : Nat} {f : Nat → Int} {y : Option Addr} {m d : Nat} {g : Nat → Int} (h : Rw w x n c f y m d g) (hn : n ≤ 17592186044416) (hm : m ≤ 17592186044416) :
    Calls Tryz.prog 37 #[.agg #[.int .i64 i, .bool s, .slice x n c, .slice y m d]] w fun e w' => ∃ z c' z2 c2, e = .returned (.agg #[.int .i64 i, .bool s, .slice z n c', .slice z2 m c2]) ∧ Below w.heap.size w w' ∧ Rw w' z n c' f z2 m c2 g := by
  have h1 := (bx4_at w (.int .i64 i) (.bool s) (.slice x n c) (.slice y m d) 73).alloc (.cells #[.int .i64 0, .bool false, .slice none 0 0, .slice none 0 0] 73)
  have h2 := ob4_new (w.alloc (.cells #[.int .i64 i, .bool s, .slice x n c, .slice y m d] 73)) 73
  rw [size_alloc1] at h2
  have h3 := below_alloc (below_alloc (Below.refl w.heap.size w) (.cells #[.int .i64 i, .bool s, .slice x n c, .slice y m d] 73)) (.cells #[.int .i64 0, .bool false, .slice none 0 0, .slice none 0 0] 73)
  have h4 := h.below h3
  clear h
  go_enter Tryz.func37, Tryz.ntmps37
  go_wp2_with fail
  generalize (w.alloc (.cells #[.int .i64 i, .bool s, .slice x n c, .slice y m d] 73)).alloc (.cells #[.int .i64 0, .bool false, .slice none 0 0, .slice none 0 0] 73) = w1 at *
  have HN := hid h4; have OB := hid h2; have HW := hid h3
  obtain ⟨z, x0, x1, x2, x3⟩ := h1
  obtain ⟨hz, z0, z1, z2, z3, zf⟩ := h2
  clear h3 h4
  have C1 : Hid (∀ W, Below w1.heap.size w1 W → Calls Tryz.prog 36 #[.agg #[.bool s, .slice x n c, .slice y m d]] W fun e w' => ∃ z c' z2 c2, e = .returned (.agg #[.bool s, .slice z n c', .slice z2 m c2]) ∧ Below W.heap.size W w' ∧ Hid (Rw w' z n c' f z2 m c2 g)) := fun W hW => qTwin_c (HN.out.below hW) hn hm
  go_region_held3 (fun w' => w'.cell? ⟨w.heap.size, 0, none⟩ = some (.int .i64 i) ∧ w'.cell? ⟨w.heap.size, 1, none⟩ = some (.bool s) ∧ w'.cell? ⟨w.heap.size, 2, none⟩ = some (.slice x n c) ∧ w'.cell? ⟨w.heap.size, 3, none⟩ = some (.slice y m d) ∧ (w'.cell? ⟨w.heap.size + 1, 0, none⟩).isSome = true ∧ (w'.cell? ⟨w.heap.size + 1, 1, none⟩).isSome = true ∧ (w'.cell? ⟨w.heap.size + 1, 2, none⟩).isSome = true ∧ (w'.cell? ⟨w.heap.size + 1, 3, none⟩).isSome = true ∧ w'.frozen? ⟨w.heap.size + 1, 0, none⟩ = false ∧ w'.frozen? ⟨w.heap.size + 1, 1, none⟩ = false ∧ w'.frozen? ⟨w.heap.size + 1, 2, none⟩ = false ∧ w'.frozen? ⟨w.heap.size + 1, 3, none⟩ = false)
    (refine ⟨?_, ?_, ?_, ?_, ?_, ?_, ?_, ?_, ?_, ?_, ?_, ?_⟩ <;> repeat (with_reducible first | assumption | exact zf _ | exact tf _ | exact kI0 z0 | exact kI0 z1 | exact kI0 z2 | exact kI0 z3 | exact kI0 t0 | exact kI0 t1 | exact kI0 t2 | exact kI0 t3 | refine kCd ?_ | refine kId ?_ | refine kFd ?_ | refine kCs (by simp only [ne_eq]; omega) ?_ | refine kIs ?_ | refine kFs ?_ | refine kCb (by assumption) ?_ | refine kIb (by assumption) ?_))
    (first | (go_at_call 36; with_reducible refine (C1.out _ (by repeat (with_reducible first | assumption | exact Below.refl _ _ | refine Below.drew ?_ | refine kBb (by assumption) ?_))).mono ?_; rintro e v5 ⟨z5, c5, y5, d5, rfl, hb5, H5⟩; have Tt : Ob4 v5 (w.heap.size + 1) := (by repeat (with_reducible first | exact OB.out | refine Ob4.drew ?_ | refine kO4b (by assumption) ?_)); obtain ⟨_, t0, t1, t2, t3, tf⟩ := id Tt))
  all_goals
    have hb : Below w1.heap.size w1 v5 := (by repeat (with_reducible first | assumption | exact Below.refl _ _ | refine Below.drew ?_ | refine kBb (by assumption) ?_))
    go_wp2
    exact bodyPost_ret (v := .agg #[.int .i64 i, .bool s, .slice z5 n c5, .slice y5 m d5]) (by simp [results, Tryz.results37, go_sem, t0, t1, t2, t3]) rfl ⟨z5, c5, y5, d5, rfl, below_st4 (HW.out.trans (hb.mono HW.out.size)) (by omega), Tt.rw H5.out⟩

set_option maxRecDepth 100000 in
set_option maxHeartbeats 4000000 in
theorem xTo_c {w : World} {i : Int} {s : Bool} {x : Option Addr} {n c : Nat} {f : Nat → Int} {y : Option Addr} {m d : Nat} {g : Nat → Int} {q : Rat} (h : Fn w i s x n f y m g q) (hn : n ≤ 4096) (hm : m ≤ 4096) :
    Calls Tryz.prog 70 #[.agg #[.int .i64 i, .bool s, .slice x n c, .slice y m d]] w fun e w' => ∃ z k c' f z2 k2 c2 f2, e = .returned (.agg #[.int .i64 i, .bool s, .slice z k c', .slice z2 k2 c2]) ∧ Below w.heap.size w w' ∧ Hid (En (n + m) w' i s z k c' f z2 k2 c2 f2 q) := by
  have h1 := (bx4_at w (.int .i64 i) (.bool s) (.slice x n c) (.slice y m d) 92).alloc (.cells #[.int .i64 0, .bool false, .slice none 0 0, .slice none 0 0] 73)
  have h2 := ob4_new (w.alloc (.cells #[.int .i64 i, .bool s, .slice x n c, .slice y m d] 92)) 73
  rw [size_alloc1] at h2
  have h3 := below_alloc (below_alloc (Below.refl w.heap.size w) (.cells #[.int .i64 i, .bool s, .slice x n c, .slice y m d] 92)) (.cells #[.int .i64 0, .bool false, .slice none 0 0, .slice none 0 0] 73)
  have h4 := h.below h3
  clear h
  go_enter Tryz.func70, Tryz.ntmps70
  go_wp2_with fail
  generalize (w.alloc (.cells #[.int .i64 i, .bool s, .slice x n c, .slice y m d] 92)).alloc (.cells #[.int .i64 0, .bool false, .slice none 0 0, .slice none 0 0] 73) = w1 at *
  have HN := hid h4; have OB := hid h2; have HW := hid h3
  obtain ⟨z, x0, x1, x2, x3⟩ := h1
  obtain ⟨hz, z0, z1, z2, z3, zf⟩ := h2
  clear h3 h4
  have C1 : Hid (∀ W, Below w1.heap.size w1 W → Calls Tryz.prog 29 #[.agg #[.bool s, .slice x n c, .slice y m d]] W fun e w' => ∃ z k c' f z2 k2 c2 f2, e = .returned (.agg #[.bool s, .slice z k c', .slice z2 k2 c2]) ∧ Below W.heap.size W w' ∧ Hid (Rn (n + m) w' s z k c' f z2 k2 c2 f2 q)) := fun W hW => qToR_c (HN.out.below hW).qn (Nat.le_trans hn (by decide)) (Nat.le_trans hm (by decide))
  go_region_held3 (fun w' => w'.cell? ⟨w.heap.size, 0, none⟩ = some (.int .i64 i) ∧ w'.cell? ⟨w.heap.size, 1, none⟩ = some (.bool s) ∧ w'.cell? ⟨w.heap.size, 2, none⟩ = some (.slice x n c) ∧ w'.cell? ⟨w.heap.size, 3, none⟩ = some (.slice y m d) ∧ (w'.cell? ⟨w.heap.size + 1, 0, none⟩).isSome = true ∧ (w'.cell? ⟨w.heap.size + 1, 1, none⟩).isSome = true ∧ (w'.cell? ⟨w.heap.size + 1, 2, none⟩).isSome = true ∧ (w'.cell? ⟨w.heap.size + 1, 3, none⟩).isSome = true ∧ w'.frozen? ⟨w.heap.size + 1, 0, none⟩ = false ∧ w'.frozen? ⟨w.heap.size + 1, 1, none⟩ = false ∧ w'.frozen? ⟨w.heap.size + 1, 2, none⟩ = false ∧ w'.frozen? ⟨w.heap.size + 1, 3, none⟩ = false)
    (refine ⟨?_, ?_, ?_, ?_, ?_, ?_, ?_, ?_, ?_, ?_, ?_, ?_⟩ <;> repeat (with_reducible first | assumption | exact zf _ | exact tf _ | exact kI0 z0 | exact kI0 z1 | exact kI0 z2 | exact kI0 z3 | exact kI0 t0 | exact kI0 t1 | exact kI0 t2 | exact kI0 t3 | refine kCd ?_ | refine kId ?_ | refine kFd ?_ | refine kCs (by simp only [ne_eq]; omega) ?_ | refine kIs ?_ | refine kFs ?_ | refine kCb (by assumption) ?_ | refine kIb (by assumption) ?_))
    (first | (go_at_call 29; with_reducible refine (C1.out _ (by repeat (with_reducible first | assumption | exact Below.refl _ _ | refine Below.drew ?_ | refine kBb (by assumption) ?_))).mono ?_; rintro e v5 ⟨z5, k5, c5, f5, y5, m5, d5, g5, rfl, hb5, H5⟩; have Tt : Ob4 v5 (w.heap.size + 1) := (by repeat (with_reducible first | exact OB.out | refine Ob4.drew ?_ | refine kO4b (by assumption) ?_)); obtain ⟨_, t0, t1, t2, t3, tf⟩ := id Tt))
  all_goals
    have hb : Below w1.heap.size w1 v5 := (by repeat (with_reducible first | assumption | exact Below.refl _ _ | refine Below.drew ?_ | refine kBb (by assumption) ?_))
    go_wp2
    exact bodyPost_ret (v := .agg #[.int .i64 i, .bool s, .slice z5 k5 c5, .slice y5 m5 d5]) (by simp [results, Tryz.results70, go_sem, t0, t1, t2, t3]) rfl ⟨z5, k5, c5, f5, y5, m5, d5, g5, rfl, below_st4 (HW.out.trans (hb.mono HW.out.size)) (by omega), ⟨Tt.rn H5.out, HN.out.inf⟩⟩

set_option maxRecDepth 100000 in
set_option maxHeartbeats 4000000 in
theorem qZero4_c {w : World} : Calls Tryz.prog 66 #[] w fun e w' => ∃ s x n c d y m c' g, e = .returned (.agg #[.bool s, .slice x n c, .slice y m c']) ∧ Below w.heap.size w w' ∧ Hid (n ≤ 2 ∧ m ≤ 2 ∧ Qn w' s x n d y m g 0) := by
  have h2 := ob_new w 68
  have h3 := below_alloc (Below.refl w.heap.size w) (.cells #[.bool false, .slice none 0 0, .slice none 0 0] 68)
  go_enter Tryz.func66, Tryz.ntmps66
  go_wp2_with fail
  generalize w.alloc (.cells #[.bool false, .slice none 0 0, .slice none 0 0] 68) = w1 at *
  have OB := hid h2; have HW := hid h3
  clear h2 h3
  refine (qInt_c (z := 0) (by decide) (by decide)).mono ?_
  rintro e w2 ⟨s2, x2, n2, c2, d2, y2, m2, e2, g2, rfl, hb, hl1, hl2, hq⟩
  have HB := hid (HW.out.trans (hb.mono HW.out.size)); have OB2 := hid (OB.out.below hb); have HQ := hid hq
  clear hb hq
  obtain ⟨hz, z0, z1, z2, zf⟩ := OB2.out
  go_wp2
  exact bodyPost_ret (v := .agg #[.bool s2, .slice x2 n2 c2, .slice y2 m2 e2]) (by simp [results, Tryz.results66, go_sem, z0, z1, z2]) rfl ⟨s2, x2, n2, c2, d2, y2, m2, e2, g2, rfl, below_st HB.out (Nat.le_refl _), hl1, hl2, OB2.out.qn HQ.out⟩

set_option maxRecDepth 100000 in
set_option maxHeartbeats 4000000 in
theorem xLow_c {w : World} : Calls Tryz.prog 71 #[] w fun e w' => ∃ s x n c d y m c' g, e = .returned (.agg #[.int .i64 (-1), .bool s, .slice x n c, .slice y m c']) ∧ Below w.heap.size w w' ∧ Hid (n ≤ 2 ∧ m ≤ 2 ∧ Fn w' (-1) s x n d y m g 0) := by
  have h2 := ob4_new w 92
  have h3 := below_alloc (Below.refl w.heap.size w) (.cells #[.int .i64 0, .bool false, .slice none 0 0, .slice none 0 0] 92)
  go_enter Tryz.func71, Tryz.ntmps71
  go_wp2_with fail
  generalize w.alloc (.cells #[.int .i64 0, .bool false, .slice none 0 0, .slice none 0 0] 92) = w1 at *
  have OB := hid h2; have HW := hid h3
  clear h2 h3
  refine qZero4_c.mono ?_
  rintro e w2 ⟨s2, x2, n2, c2, d2, y2, m2, e2, g2, rfl, hb, H2⟩
  have HB := hid (HW.out.trans (hb.mono HW.out.size)); have OB2 := hid (OB.out.below hb)
  clear hb
  obtain ⟨hz, z0, z1, z2, z3, zf⟩ := OB2.out
  go_wp2
  exact bodyPost_ret (v := .agg #[.int .i64 (-1), .bool s2, .slice x2 n2 c2, .slice y2 m2 e2]) (by simp [results, Tryz.results71, go_sem, z0, z1, z2, z3]) rfl ⟨s2, x2, n2, c2, d2, y2, m2, e2, g2, rfl, below_st4 HB.out (Nat.le_refl _), H2.out.1, H2.out.2.1, ⟨OB2.out.qn H2.out.2.2, .inr ⟨by decide, rfl⟩⟩⟩

set_option maxRecDepth 100000 in
set_option maxHeartbeats 4000000 in
theorem xHigh_c {w : World} : Calls Tryz.prog 72 #[] w fun e w' => ∃ s x n c d y m c' g, e = .returned (.agg #[.int .i64 1, .bool s, .slice x n c, .slice y m c']) ∧ Below w.heap.size w w' ∧ Hid (n ≤ 2 ∧ m ≤ 2 ∧ Fn w' 1 s x n d y m g 0) := by
  have h2 := ob4_new w 92
  have h3 := below_alloc (Below.refl w.heap.size w) (.cells #[.int .i64 0, .bool false, .slice none 0 0, .slice none 0 0] 92)
  go_enter Tryz.func72, Tryz.ntmps72
  go_wp2_with fail
  generalize w.alloc (.cells #[.int .i64 0, .bool false, .slice none 0 0, .slice none 0 0] 92) = w1 at *
  have OB := hid h2; have HW := hid h3
  clear h2 h3
  refine qZero4_c.mono ?_
  rintro e w2 ⟨s2, x2, n2, c2, d2, y2, m2, e2, g2, rfl, hb, H2⟩
  have HB := hid (HW.out.trans (hb.mono HW.out.size)); have OB2 := hid (OB.out.below hb)
  clear hb
  obtain ⟨hz, z0, z1, z2, z3, zf⟩ := OB2.out
  go_wp2
  exact bodyPost_ret (v := .agg #[.int .i64 1, .bool s2, .slice x2 n2 c2, .slice y2 m2 e2]) (by simp [results, Tryz.results72, go_sem, z0, z1, z2, z3]) rfl ⟨s2, x2, n2, c2, d2, y2, m2, e2, g2, rfl, below_st4 HB.out (Nat.le_refl _), H2.out.1, H2.out.2.1, ⟨OB2.out.qn H2.out.2.2, .inr ⟨by decide, rfl⟩⟩⟩

theorem zero_rf {w : World} {L : Nat} {s s' : Bool} {n n' m m' : Nat} {f f' g g' : Nat → Int} {x' : Option Addr} {c' : Nat} {y' : Option Addr} {d' : Nat} (hlg : Lm g m) (hz : Rn L w s' x' n' c' f' y' m' d' g' 0) : (s = s' ∧ Alk n n' f f' ∧ Alk m m' g g') ↔ (rfB s f n g m && decide (n = 0)) = true := by
  have hn' : n' = 0 := hz.q_zero.1 rfl
  have hs' : s' = false := by
    cases s'
    · rfl
    · have := sgn_of_wfB hz.num.wf rfl; omega
  have hden : vf g' m' = 1 := hz.den.nv
  have hone := one_iff hz.den.lm hz.den.fm hz.den.nv
  have hm' := hone.1 rfl
  constructor
  · rintro ⟨rfl, ⟨h1, _⟩, h2, h3⟩
    have e1 : n = 0 := by omega
    have e2 : m = 1 := by omega
    subst e1 e2
    have e3 : g 0 = 1 := by rw [h3 0 (by omega)]; exact hm'.2
    have v1 : vf g 1 = 1 := by simp [vf, pw, e3]
    have v0 : vf f 0 = 0 := rfl
    have w1 : wfB s f 0 = true := (wfB_iff _ _ _).2 ⟨.inl rfl, fun h => by rw [hs'] at h; cases h⟩
    have w2 : fmB g 1 = true := (fmB_iff _ _).2 (.inr (by show g 0 ≠ 0; omega))
    simp [rfB, w1, w2, v1, v0]
  · intro h
    simp only [Bool.and_eq_true, decide_eq_true_eq] at h
    obtain ⟨h1, rfl⟩ := h
    simp only [rfB, Bool.and_eq_true, decide_eq_true_eq] at h1
    obtain ⟨k1, k2, k3, k4⟩ := h1
    have hs : s = false := by
      cases s
      · rfl
      · have := sgn_of_wfB k1 rfl; omega
    have hv : vf g m = 1 := by
      have v0 : vf f 0 = 0 := rfl
      rw [v0] at k4
      have h2 : (vf g m).toNat = 1 := by simpa using k4
      omega
    obtain ⟨e1, e2⟩ := (one_iff hlg ((fmB_iff g m).1 k2) hv).1 rfl
    subst e1
    refine ⟨by rw [hs, hs'], ⟨by omega, fun j hj => by omega⟩, ⟨by omega, fun j hj => ?_⟩⟩
    have : j = 0 := by omega
    subst this
    rw [e2]; exact hm'.2.symm

set_option maxRecDepth 100000 in
set_option maxHeartbeats 4000000 in
theorem xForm_c {w : World} {i : Int} {s : Bool} {x : Option Addr} {n c : Nat} {f : Nat → Int} {y : Option Addr} {m d : Nat} {g : Nat → Int} (h : Rw w x n c f y m d g) (hn : n ≤ 1000) (hm : m ≤ 1000) :
    Calls Tryz.prog 84 #[.agg #[.int .i64 i, .bool s, .slice x n c, .slice y m d]] w fun e w' => e = .returned (.bool (efB i s f n g m)) ∧ Below w.heap.size w w' := by
  have HR := hid (h.alloc (.cells #[.int .i64 i, .bool s, .slice x n c, .slice y m d] 73))
  have BX := hid (bx4_at w (.int .i64 i) (.bool s) (.slice x n c) (.slice y m d) 73)
  have HW := hid (below_alloc (Below.refl w.heap.size w) (.cells #[.int .i64 i, .bool s, .slice x n c, .slice y m d] 73))
  have C1 : Hid (∀ W, Below (w.alloc (.cells #[.int .i64 i, .bool s, .slice x n c, .slice y m d] 73)).heap.size (w.alloc (.cells #[.int .i64 i, .bool s, .slice x n c, .slice y m d] 73)) W → Calls Tryz.prog 46 #[.agg #[.bool s, .slice x n c, .slice y m d]] W fun e w' => e = .returned (.bool (rfB s f n g m)) ∧ Below W.heap.size W w') := fun W hW => qForm_c (HR.out.below hW) hn hm
  have CZ : Hid (∀ W : World, Calls Tryz.prog 66 #[] W fun e w' => ∃ s x n c d y m c' g, e = .returned (.agg #[.bool s, .slice x n c, .slice y m c']) ∧ Below W.heap.size W w' ∧ Hid (n ≤ 2 ∧ m ≤ 2 ∧ Qn w' s x n d y m g 0)) := fun W => qZero4_c
  have CT : Hid (∀ (W : World) (s : Bool) (x : Option Addr) (n c : Nat) (d : Nat → Int) (y : Option Addr) (m e : Nat) (g : Nat → Int), n ≤ 2 → m ≤ 2 → Qn W s x n d y m g 0 → Calls Tryz.prog 29 #[.agg #[.bool s, .slice x n c, .slice y m e]] W fun en w' => ∃ z k c' f z2 k2 c2 f2, en = .returned (.agg #[.bool s, .slice z k c', .slice z2 k2 c2]) ∧ Below W.heap.size W w' ∧ Hid (Rn 4 w' s z k c' f z2 k2 c2 f2 0)) := fun W s x n c d y m e g h1 h2 h3 => (qToR_c h3 (by omega) (by omega)).mono (fun _ _ ⟨z, k, c', f, z2, k2, c2, f2, k1, k3, k4⟩ => ⟨z, k, c', f, z2, k2, c2, f2, k1, k3, k4.out.mono (by omega)⟩)
  have CS : Hid (∀ (W : World) (s' : Bool) (x' : Option Addr) (n' c' : Nat) (f' : Nat → Int) (y' : Option Addr) (m' d' : Nat) (g' : Nat → Int), Below (w.alloc (.cells #[.int .i64 i, .bool s, .slice x n c, .slice y m d] 73)).heap.size (w.alloc (.cells #[.int .i64 i, .bool s, .slice x n c, .slice y m d] 73)) W → Rn 4 W s' x' n' c' f' y' m' d' g' 0 → Calls Tryz.prog 28 #[.agg #[.bool s, .slice x n c, .slice y m d], .agg #[.bool s', .slice x' n' c', .slice y' m' d']] W fun e w' => e = .returned (.bool (rfB s f n g m && decide (n = 0))) ∧ Below W.heap.size W w') := fun W s' x' n' c' f' y' m' d' g' hW hz => by
    have hr := HR.out.below hW
    have b1 := hz.ln; have b2 := hz.ld
    refine (rSame_c s x y n c m d f g s' x' y' n' c' m' d' f' g' W hr.rx hr.ry hz.num.rd hz.den.rd (by omega) (by omega) (by omega) (by omega)).mono ?_
    rintro e w' ⟨b, rfl, h1, h2⟩
    have : b = (rfB s f n g m && decide (n = 0)) := Bool.eq_iff_iff.2 (h2.trans (zero_rf hr.ly hz))
    rw [this]
    exact ⟨rfl, h1⟩
  clear h
  by_cases h0 : i = 0
  · subst h0
    rw [show efB 0 s f n g m = rfB s f n g m by simp [efB]]
    clear CZ CT CS
    go_enter Tryz.func84, Tryz.ntmps84
    go_upto_region 1 with fail
    generalize w.alloc (.cells #[.int .i64 0, .bool s, .slice x n c, .slice y m d] 73) = w1 at *
    obtain ⟨z, x0, x1, x2, x3⟩ := BX.out
    go_wp2_with fail
    refine (C1.out _ (Below.refl _ _)).mono ?_
    rintro e w2 ⟨rfl, hb⟩
    have HB := hid (HW.out.trans (hb.mono HW.out.size))
    clear hb
    go_wp2
    go_ret
    exact ⟨rfl, HB.out⟩
  have e0 : (i == 0) = false := by simp; exact h0
  by_cases h1 : i = -1 ∨ i = 1
  · have hef : efB i s f n g m = (rfB s f n g m && decide (n = 0)) := by
      rcases h1 with rfl | rfl <;> simp [efB]
    rw [hef]
    clear hef h0 C1
    generalize (rfB s f n g m && decide (n = 0)) = p at *
    rcases h1 with rfl | rfl
    all_goals
      go_enter Tryz.func84, Tryz.ntmps84
      go_upto_region 1 with fail
      generalize w.alloc _ = w1 at *
      obtain ⟨z, x0, x1, x2, x3⟩ := BX.out
      go_wp2_with fail
      go_region_held3 (fun w' => w'.cell? ⟨w.heap.size, 1, none⟩ = some (.bool s) ∧ w'.cell? ⟨w.heap.size, 2, none⟩ = some (.slice x n c) ∧ w'.cell? ⟨w.heap.size, 3, none⟩ = some (.slice y m d))
        (refine ⟨?_, ?_, ?_⟩ <;> repeat (with_reducible first | assumption | refine kCd ?_ | refine kCb (by assumption) ?_))
        (first
          | (go_at_call 66; with_reducible refine (CZ.out _).mono ?_; rintro e v5 ⟨s5, x5, n5, c5, d5, y5, m5, e5, g5, rfl, hb5, H5⟩)
          | (go_at_call 29; with_reducible refine (CT.out _ s5 x5 n5 c5 d5 y5 m5 e5 g5 H5.out.1 H5.out.2.1 (by repeat (with_reducible first | exact H5.out.2.2 | refine kQd ?_ | refine kQb (by assumption) ?_))).mono ?_; rintro e v6 ⟨x6, n6, c6, f6, y6, m6, d6, g6, rfl, hb6, H6⟩)
          | (go_at_call 28; with_reducible refine (CS.out _ s5 x6 n6 c6 f6 y6 m6 d6 g6 (by repeat (with_reducible first | assumption | exact Below.refl _ _ | refine Below.drew ?_ | refine kBb (by assumption) ?_)) (by repeat (with_reducible first | exact H6.out | refine kRnd ?_ | refine kRnb (by assumption) ?_))).mono ?_; rintro e v7 ⟨rfl, hb7⟩))
      all_goals
        have hb : Below w1.heap.size w1 v7 := (by repeat (with_reducible first | assumption | exact Below.refl _ _ | refine Below.drew ?_ | refine kBb (by assumption) ?_))
        have HB := hid (HW.out.trans (hb.mono HW.out.size))
        clear hb
        go_wp2
        go_ret
        exact ⟨rfl, HB.out⟩
  · have e1 : (i == -1) = false := by simp; omega
    have e2 : (i == 1) = false := by simp; omega
    have hef : efB i s f n g m = false := by
      simp [efB]; omega
    rw [hef]
    clear hef h0 h1 C1 CZ CT CS
    go_enter Tryz.func84, Tryz.ntmps84
    go_upto_region 1 with fail
    generalize w.alloc (.cells #[.int .i64 i, .bool s, .slice x n c, .slice y m d] 73) = w1 at *
    obtain ⟨z, x0, x1, x2, x3⟩ := BX.out
    go_wp2
    go_ret
    exact ⟨rfl, HW.out⟩

end Go.Proofs.YtgmllfcngnfpkaaGreat
namespace Go.Proofs.YtgmllfcngnfpkaaGreat
open Go.RowKit

/-- A list of two bounds. -/
structure Li2 (w : World) (B : Nat) (a0 a1 a2 a3 b0 b1 b2 b3 : Value) : Prop where
  z : B < w.heap.size
  x0 : w.cell? ⟨B, 0, none⟩ = some a0
  x1 : w.cell? ⟨B, 1, none⟩ = some a1
  x2 : w.cell? ⟨B, 2, none⟩ = some a2
  x3 : w.cell? ⟨B, 3, none⟩ = some a3
  y0 : w.cell? ⟨B, 4, none⟩ = some b0
  y1 : w.cell? ⟨B, 5, none⟩ = some b1
  y2 : w.cell? ⟨B, 6, none⟩ = some b2
  y3 : w.cell? ⟨B, 7, none⟩ = some b3
theorem Li2.below {w w' B a0 a1 a2 a3 b0 b1 b2 b3} (h : Li2 w B a0 a1 a2 a3 b0 b1 b2 b3) (hb : Below w.heap.size w w') : Li2 w' B a0 a1 a2 a3 b0 b1 b2 b3 := ⟨Nat.lt_of_lt_of_le h.z hb.size, kCb hb h.x0, kCb hb h.x1, kCb hb h.x2, kCb hb h.x3, kCb hb h.y0, kCb hb h.y1, kCb hb h.y2, kCb hb h.y3⟩
theorem li2_at (w : World) (a0 a1 a2 a3 b0 b1 b2 b3 : Value) (t : TypeId) : Li2 (w.alloc (.cells #[a0, a1, a2, a3, b0, b1, b2, b3] t)) w.heap.size a0 a1 a2 a3 b0 b1 b2 b3 := ⟨by simp, by simp [go_sem], by simp [go_sem], by simp [go_sem], by simp [go_sem], by simp [go_sem], by simp [go_sem], by simp [go_sem], by simp [go_sem]⟩

set_option maxRecDepth 100000 in
set_option maxHeartbeats 4000000 in
theorem allForm2_c {w : World} {i1 : Int} {s1 : Bool} {x1 : Option Addr} {n1 c1 : Nat} {f1 : Nat → Int} {y1 : Option Addr} {m1 d1 : Nat} {g1 : Nat → Int} {i2 : Int} {s2 : Bool} {x2 : Option Addr} {n2 c2 : Nat} {f2 : Nat → Int} {y2 : Option Addr} {m2 d2 : Nat} {g2 : Nat → Int} {B : Nat} (hB : Li2 w B (.int .i64 i1) (.bool s1) (.slice x1 n1 c1) (.slice y1 m1 d1) (.int .i64 i2) (.bool s2) (.slice x2 n2 c2) (.slice y2 m2 d2)) (h1 : Rw w x1 n1 c1 f1 y1 m1 d1 g1) (h2 : Rw w x2 n2 c2 f2 y2 m2 d2 g2) (hn1 : n1 ≤ 4096) (hm1 : m1 ≤ 4096) (hn2 : n2 ≤ 4096) (hm2 : m2 ≤ 4096) :
    Calls Tryz.prog 95 #[.slice (some ⟨B, 0, none⟩) 2 2] w fun e w' => e = .returned (.bool (efB i1 s1 f1 n1 g1 m1 && efB i2 s2 f2 n2 g2 m2)) ∧ Below w.heap.size w w' := by
  have HB := hid hB; have HR1 := hid h1; have HR2 := hid h2
  obtain ⟨p, hp⟩ : ∃ p, efB i1 s1 f1 n1 g1 m1 = p := ⟨_, rfl⟩
  obtain ⟨q, hq⟩ : ∃ p, efB i2 s2 f2 n2 g2 m2 = p := ⟨_, rfl⟩
  have HP := hid hp; have HQ := hid hq
  rw [hp, hq]
  clear hB h1 h2 hp hq
  go_enter Tryz.func95, Tryz.ntmps95
  go_wp2
  go_loopw [7] (fun t wr => ∃ k : Nat, k ≤ 2 ∧ t = .int .i64 k ∧ Hid (Below w.heap.size w wr ∧ (0 < k → p = true) ∧ (1 < k → q = true))) (fun t _ => 2 - (intOf t).toNat)
  case atStart => exact ⟨0, by omega, rfl, Below.refl _ _, fun h => by omega, fun h => by omega⟩
  case round =>
    obtain ⟨k, hk, rfl, HI⟩ := hrel
    have HBr := hid HI.out.1
    rcases (show k = 0 ∨ k = 1 ∨ k = 2 by omega) with rfl | rfl | rfl
    · obtain ⟨z, e0, e1, e2, e3, _, _, _, _⟩ := HB.out.below HBr.out
      have c1 := eForm_c (i := i1) (s := s1) ((HR1.out.below HBr.out).alloc (.cells #[.int .i64 i1, .bool s1, .slice x1 n1 c1, .slice y1 m1 d1] 73)) hn1 hm1
      rw [HP.out] at c1
      have C1 := hid c1
      clear c1
      cases p
      · go_wp2_with fail
        refine C1.out.mono ?_
        rintro e w2 ⟨rfl, hb⟩
        have HW := hid ((below_alloc HBr.out _).trans (hb.mono (below_alloc HBr.out _).size))
        clear hb
        go_wp2
        go_ret
        exact ⟨rfl, HW.out⟩
      · go_wp2_with fail
        refine C1.out.mono ?_
        rintro e w2 ⟨rfl, hb⟩
        have HW := hid ((below_alloc HBr.out _).trans (hb.mono (below_alloc HBr.out _).size))
        clear hb
        go_wp2
        go_roundw
        case rel => exact ⟨1, by omega, by go_num, HW.out, by simp, by simp⟩
        case measure => simp [intOf]
    · obtain ⟨z, _, _, _, _, e0, e1, e2, e3⟩ := HB.out.below HBr.out
      have hpt := HI.out.2.1 (by omega)
      subst hpt
      have c1 := eForm_c (i := i2) (s := s2) ((HR2.out.below HBr.out).alloc (.cells #[.int .i64 i2, .bool s2, .slice x2 n2 c2, .slice y2 m2 d2] 73)) hn2 hm2
      rw [HQ.out] at c1
      have C1 := hid c1
      clear c1
      cases q
      · go_wp2_with fail
        refine C1.out.mono ?_
        rintro e w2 ⟨rfl, hb⟩
        have HW := hid ((below_alloc HBr.out _).trans (hb.mono (below_alloc HBr.out _).size))
        clear hb
        go_wp2
        go_ret
        exact ⟨rfl, HW.out⟩
      · go_wp2_with fail
        refine C1.out.mono ?_
        rintro e w2 ⟨rfl, hb⟩
        have HW := hid ((below_alloc HBr.out _).trans (hb.mono (below_alloc HBr.out _).size))
        clear hb
        go_wp2
        go_roundw
        case rel => exact ⟨2, by omega, by go_num, HW.out, by simp, by simp⟩
        case measure => simp [intOf]
    · have hpt := HI.out.2.1 (by omega)
      have hqt := HI.out.2.2 (by omega)
      subst hpt hqt
      go_wp2
      go_ret
      exact ⟨rfl, HBr.out⟩

/-- What Cmp answers. -/
def OC (p : Bool) (i : Int) (a : Rat) (j : Int) (b : Rat) (r er : Int) : Prop := p = false ∧ er = 3 ∧ r = 0 ∨ p = true ∧ er = 0 ∧ EOrd r i a j b
set_option maxRecDepth 100000 in
set_option maxHeartbeats 4000000 in
theorem eCmp_g {w : World} {i1 : Int} {s1 : Bool} {x1 : Option Addr} {n1 c1 : Nat} {f1 : Nat → Int} {y1 : Option Addr} {m1 d1 : Nat} {g1 : Nat → Int} {i2 : Int} {s2 : Bool} {x2 : Option Addr} {n2 c2 : Nat} {f2 : Nat → Int} {y2 : Option Addr} {m2 d2 : Nat} {g2 : Nat → Int} {qa qb : Rat} {p1 p2 : Bool} (h1 : Rw w x1 n1 c1 f1 y1 m1 d1 g1) (h2 : Rw w x2 n2 c2 f2 y2 m2 d2 g2) (hn1 : n1 ≤ 100) (hm1 : m1 ≤ 100) (hn2 : n2 ≤ 100) (hm2 : m2 ≤ 100) (hp1 : efB i1 s1 f1 n1 g1 m1 = p1) (hp2 : efB i2 s2 f2 n2 g2 m2 = p2) (hq1 : p1 = true → En 100 w i1 s1 x1 n1 c1 f1 y1 m1 d1 g1 qa) (hq2 : p2 = true → En 100 w i2 s2 x2 n2 c2 f2 y2 m2 d2 g2 qb) :
    Calls Tryz.prog 73 #[.agg #[.int .i64 i1, .bool s1, .slice x1 n1 c1, .slice y1 m1 d1], .agg #[.int .i64 i2, .bool s2, .slice x2 n2 c2, .slice y2 m2 d2]] w fun e w' => ∃ r er, e = .returned (.tuple #[.int .i64 r, .int .i64 er]) ∧ Below w.heap.size w w' ∧ Hid (OC (p1 && p2) i1 qa i2 qb r er) := by
  have HP1 := hid hp1; have HP2 := hid hp2
  have k1 := (bx4_at w (.int .i64 i1) (.bool s1) (.slice x1 n1 c1) (.slice y1 m1 d1) 73).alloc (.cells #[.int .i64 i2, .bool s2, .slice x2 n2 c2, .slice y2 m2 d2] 73)
  have k2 := bx4_at (w.alloc (.cells #[.int .i64 i1, .bool s1, .slice x1 n1 c1, .slice y1 m1 d1] 73)) (.int .i64 i2) (.bool s2) (.slice x2 n2 c2) (.slice y2 m2 d2) 73
  rw [size_alloc1] at k2
  have k3 := below_alloc (below_alloc (Below.refl w.heap.size w) (.cells #[.int .i64 i1, .bool s1, .slice x1 n1 c1, .slice y1 m1 d1] 73)) (.cells #[.int .i64 i2, .bool s2, .slice x2 n2 c2, .slice y2 m2 d2] 73)
  have HQ1 := hid (fun h => (hq1 h).below k3); have HQ2 := hid (fun h => (hq2 h).below k3); have HR1 := hid (h1.below k3); have HR2 := hid (h2.below k3)
  clear hp1 hp2 hq1 hq2 h1 h2
  go_enter Tryz.func73, Tryz.ntmps73
  go_upto_region 1 with fail
  generalize (w.alloc (.cells #[.int .i64 i1, .bool s1, .slice x1 n1 c1, .slice y1 m1 d1] 73)).alloc (.cells #[.int .i64 i2, .bool s2, .slice x2 n2 c2, .slice y2 m2 d2] 73) = w1 at *
  have HW := hid k3; have BA := hid k1; have BB := hid k2
  clear k1 k2 k3
  obtain ⟨za, a0, a1, a2, a3⟩ := BA.out
  obtain ⟨zb, b0, b1, b2, b3⟩ := BB.out
  go_wp2_with fail
  have cf := fun (t : TypeId) => allForm2_c (li2_at w1 (.int .i64 i1) (.bool s1) (.slice x1 n1 c1) (.slice y1 m1 d1) (.int .i64 i2) (.bool s2) (.slice x2 n2 c2) (.slice y2 m2 d2) t) (HR1.out.alloc _) (HR2.out.alloc _) (by omega) (by omega) (by omega) (by omega)
  rw [HP1.out, HP2.out] at cf
  refine (cf _).mono ?_
  rintro e w2 ⟨rfl, hb⟩
  have HB1 : Hid (Below w1.heap.size w1 w2) := (below_alloc (Below.refl _ _) _).trans (hb.mono (by simp))
  have HB := hid (HW.out.trans (HB1.out.mono HW.out.size))
  clear hb cf za a0 a1 a2 a3 zb b0 b1 b2 b3
  obtain ⟨pp, hp⟩ : ∃ pp, (p1 && p2) = pp := ⟨_, rfl⟩
  have HPP := hid hp
  rw [hp]
  cases pp
  · clear hp
    go_wp2
    go_ret2
    exact ⟨0, 3, rfl, HB.out, .inl ⟨HPP.out, rfl, rfl⟩⟩
  have hpp : p1 = true ∧ p2 = true := by simpa using hp
  have E1 := hid ((HQ1.out hpp.1).below HB1.out); have E2 := hid ((HQ2.out hpp.2).below HB1.out)
  clear hp hpp
  obtain ⟨za, a0, a1, a2, a3⟩ := BA.out.below HB1.out
  obtain ⟨zb, b0, b1, b2, b3⟩ := BB.out.below HB1.out
  by_cases hz : i1 = 0 ∧ i2 = 0
  · obtain ⟨rfl, rfl⟩ := hz
    go_wp2_with fail
    refine (rCmp_n E1.out.rn E2.out.rn (by omega)).mono ?_
    rintro e w3 ⟨r, rfl, hb, hr⟩
    have HB3 := hid (HB.out.trans (hb.mono HB.out.size)); have HRr := hid hr
    clear hb hr
    go_wp2
    go_ret2
    refine ⟨r, 0, rfl, HB3.out, .inr ⟨HPP.out, rfl, ?_⟩⟩
    rcases HRr.out with ⟨j1, j2⟩ | ⟨j1, j2⟩ | ⟨j1, j2⟩
    · exact .inl ⟨j1, .inr ⟨rfl, j2⟩⟩
    · exact .inr (.inl ⟨j1, rfl, j2⟩)
    · exact .inr (.inr ⟨j1, .inr ⟨rfl, j2⟩⟩)
  · have hcase : (i1 != 0) = true ∨ (i1 != 0) = false ∧ (i2 != 0) = true := by
      by_cases h : i1 = 0
      · right; subst h; exact ⟨by simp, by simp; intro h; exact hz ⟨rfl, h⟩⟩
      · left; simp; exact h
    have HEq : Hid (i1 = i2 → qa = qb) := by
      intro h
      have j1 := E1.out.inf; have j2 := E2.out.inf
      rcases j1 with j1 | j1
      · exact absurd ⟨j1, by omega⟩ hz
      · rcases j2 with j2 | j2
        · exact absurd ⟨by omega, j2⟩ hz
        · rw [j1.2, j2.2]
    clear hz
    rcases hcase with hc | ⟨hc, hc2⟩
    all_goals
      go_wp2_with fail
      refine compare_c.mono ?_
      rintro e w3 ⟨r, rfl, rfl, hr⟩
      have HRr := hid hr
      clear hr
      go_wp2
      go_ret2
      refine ⟨r, 0, rfl, HB.out, .inr ⟨HPP.out, rfl, ?_⟩⟩
      rcases HRr.out with ⟨j1, j2⟩ | ⟨j1, j2⟩ | ⟨j1, j2⟩
      · exact .inl ⟨j1, .inl j2⟩
      · exact .inr (.inl ⟨j1, j2, HEq.out j2⟩)
      · exact .inr (.inr ⟨j1, .inl j2⟩)

end Go.Proofs.YtgmllfcngnfpkaaGreat
