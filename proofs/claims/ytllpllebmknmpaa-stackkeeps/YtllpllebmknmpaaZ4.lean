/-
  Rows of structs that a call makes by append, none of whose cells is a limb: what stays when they are written. No Go text is named here. Blocks that are told whole, and what is written into them. The walk of package vec's putter (gather's own function). Lists of terms in form, as values; the walk of package vec's merge. The walks of package vec's gather and of the call Plus, on lists in form. Lists of terms in form have values; the walk of package vec's call Plus, whatever it is handed. The walks of package vec's calls Scale and Sparse, whatever they are handed. The walk of package vec's call Sparse, whatever it is handed. How long rational numbers are, by their values: sums and products. The call Dot of package vec, on lists in form whose columns lie below the number of the numbers. Package vec's call At. Lists of terms and lists of numbers, as values: sums, products with numbers, there and back. No Go text is named here. Between lists in memory and their values; rows of numbers that are made and written; the walk of package vec's call Dense, whatever it is handed. The walk of package vec's call Dense, whatever it is handed. Package vec's call Dot where it answers an error. The walk of the document's reference for nat: bit, Bits, DivMod. Walks of nat.Shl and of the document's reference: Shl, DocShl. The walk of the document's reference for nat: half, Gcd. The walk of the document's reference for nat: Gcd. Walks of the document's reference for nat: DocMul, DocDivMod, DocGcd. Walks of the document's reference for whole: Neg, Add, Sub, Mul, Sign, Cmp. Walks of the document's reference for whole: Sub, Sign, Cmp, two, DocNeg, DocCmp. Walks of the document's reference for whole: DocNeg, DocCmp, Doc. Walks of the document's reference for rat: Form. Walks of the document's reference for rat: Mk, whatever the numbers' lengths. Walks of the document's reference for rat: From, Neg, Sign, Add. Walks of the document's reference for whole: Divide. The walk of package rat's call Cmp. Walks of the document's reference for rat: Add, Sub, Cmp. Walks of rat's Sign and Cmp, whatever they are handed, and of the document's: DocSign, DocCmp. Walks of the document's reference for rat: Mul, Quo, Int, To, DocOf, DocNeg. Walks of rat's calls where they tell that a number is not in form, and of the document's Doc, DocNeg there; DocNeg. Walks of the document's reference for rat: Int, DocOf. The walk of the document's reference for rat: Doc, of numbers in form. Walks of rat's Add, Sub, Mul, Quo, whatever they are handed, and of the statements' call. The walk of rat.Of. Boxes of four cells. No Go text is named here. Package vec's calls on lists in form, by their values; lists that are put together by their terms. append to a row of structs in a region that draws its order. No Go text is named here. Walks of the document's reference for rat: Twin; the same digits elsewhere. The walk of the reference's Twin of a list of terms. The walk of the reference's From of a list of terms. Walks of the reference's Twins, Forms and Froms of lists of numbers.
-/
import Derived.Test.YtllpllebmknmpaaZ3
import Derived.BigQuiet
import Derived.Deep.RegionHeld3
import Derived.Test.YtllpllebmknmpaaZ1
import Derived.Test.YtllpllebmknmpaaZ2
namespace Go.Proofs.Ytllpllebmknmpaa
open Go.RowKit

/-- No cell is a limb. -/
def NoU (cur : Array Value) : Prop := ∀ (i : Nat) (z : Int), cur[i]? ≠ some (Value.int .u64 z)
/-- Nothing that holds limbs has turned; there may be new blocks. -/
structure Kp (w w' : World) : Prop where
  os : w'.os = w.os
  tape : w'.tape = w.tape
  output : w'.output = w.output
  size : w.heap.size ≤ w'.heap.size
  block : ∀ k, k < w.heap.size → w'.heap[k]? = w.heap[k]? ∨ ∃ cur t fr, w.heap[k]? = some (.cells cur t fr) ∧ NoU cur
theorem Kp.refl (w : World) : Kp w w := ⟨rfl, rfl, rfl, Nat.le_refl _, fun _ _ => .inl rfl⟩
theorem Kp.trans {a b c : World} (h : Kp a b) (k : Kp b c) : Kp a c :=
  ⟨k.os.trans h.os, k.tape.trans h.tape, k.output.trans h.output, Nat.le_trans h.size k.size, fun i hi => by
    rcases h.block i hi with e | e
    · rcases k.block i (Nat.lt_of_lt_of_le hi h.size) with e2 | ⟨cur, t, fr, e2, e3⟩
      · exact .inl (e2.trans e)
      · exact .inr ⟨cur, t, fr, e.symm.trans e2, e3⟩
    · exact .inr e⟩
theorem Kp.of_below {w w' : World} (h : Below w.heap.size w w') : Kp w w' := ⟨h.os, h.tape, h.output, h.size, fun k hk => .inl (h.block k hk)⟩
theorem Kp.drew {a w : World} (h : Kp a w) : Kp a w.drew := ⟨h.os, h.tape, h.output, h.size, h.block⟩
theorem Kp.drewN {a w : World} (h : Kp a w) (q : Nat) : Kp a (w.drewN q) := ⟨h.os, h.tape, h.output, h.size, h.block⟩
theorem Kp.alloc {a w : World} (h : Kp a w) (o : Obj) : Kp a (w.alloc o) := h.trans (Kp.of_below (below_alloc (Below.refl _ _) o))
theorem Kp.set {a w : World} (h : Kp a w) {x : Addr} {cur : Array Value} {t : TypeId} {fr : Nat × Nat} (hx : w.heap[x.block]? = some (.cells cur t fr)) (hu : NoU cur) (u : Value) : Kp a (w.setCell x u) :=
  h.trans ⟨rfl, rfl, rfl, by simp [World.setCell], fun k _ => by
    by_cases e : k = x.block
    · subst e; exact .inr ⟨cur, t, fr, hx, hu⟩
    · exact .inl (Below.heap_setCell _ _ _ _ e)⟩
theorem Rd.kp {w w' ao n f} (h : Rd .u64 w ao n f) (hk : Kp w w') : Rd .u64 w' ao n f := fun j hj => by
  obtain ⟨b, o, e, hc⟩ := h j hj
  refine ⟨b, o, e, ?_⟩
  have hl := World.block_lt_of_cell? w _ hc
  rcases hk.block b hl with h1 | ⟨cur, t, fr, h1, h2⟩
  · exact (World.cell?_of_block (a := ⟨b, o + j, none⟩) h1).trans hc
  · exfalso
    simp [World.cell?, h1] at hc
    exact h2 _ _ hc
theorem Wn.kp {w w' s x n c f v} (h : Wn w s x n c f v) (hk : Kp w w') : Wn w' s x n c f v := ⟨h.rd.kp hk, h.lm, h.wf, h.cap, h.nil, h.val⟩
theorem Rn.kp {L w w' s x n c f y m d g q} (h : Rn L w s x n c f y m d g q) (hk : Kp w w') : Rn L w' s x n c f y m d g q := ⟨h.num.kp hk, h.den.kp hk, h.ln, h.ld⟩

/-- A row of structs of the call's own, from block 'base' on, or nil. -/
def RowG (e : TypeId) (sz base : Nat) (w : World) (v : Value) (n : Nat) (xs : List Value) : Prop :=
  xs.length = n * sz ∧ ((v = .slice none 0 0 ∧ n = 0) ∨ ∃ g cap cur, v = .slice (some ⟨g, 0, none⟩) n cap ∧ base ≤ g ∧ w.heap[g]? = some (.cells cur e (0, 0)) ∧ n ≤ cap ∧ cap ≤ maxLen ∧ cur.size = cap * sz ∧ cur.toList.take (n * sz) = xs ∧ NoU cur)
theorem rowG_nil (e : TypeId) (sz base : Nat) (w : World) : RowG e sz base w (.slice none 0 0) 0 [] := ⟨by simp, .inl ⟨rfl, rfl⟩⟩
theorem RowG.owns {e sz base w v n xs} (h : RowG e sz base w v n xs) : w.ownsRow base e sz v n xs := by
  obtain ⟨h1, h2⟩ := h
  refine ⟨h1, ?_⟩
  rcases h2 with h2 | ⟨g, cap, cur, a, b, c, d, e1, f, g1, _⟩
  · exact .inl h2
  · exact .inr ⟨g, cap, cur, a, b, c, d, e1, f, g1⟩
theorem RowG.of {e sz base w w' v n xs} (h : RowG e sz base w v n xs) (hh : ∀ g, v.ownBlock = some g → w'.heap[g]? = w.heap[g]?) : RowG e sz base w' v n xs := by
  obtain ⟨h1, h2⟩ := h
  refine ⟨h1, ?_⟩
  rcases h2 with h2 | ⟨g, cap, cur, rfl, b, c, d, e1, f, g1, k⟩
  · exact .inl h2
  · exact .inr ⟨g, cap, cur, rfl, b, (hh g rfl).trans c, d, e1, f, g1, k⟩
theorem RowG.lt {e sz base w v n xs} (h : RowG e sz base w v n xs) : ∀ g, v.ownBlock = some g → base ≤ g ∧ g < w.heap.size := by
  intro g0 hg0
  rcases h.2 with ⟨rfl, _⟩ | ⟨g, cap, cur, rfl, b, c, _⟩
  · cases hg0
  · have : g = g0 := by simpa [Value.ownBlock] using hg0
    subst this
    exact ⟨b, (Array.getElem?_eq_some_iff.1 c).1⟩
theorem RowG.below {e sz base w w' v n xs} (h : RowG e sz base w v n xs) (hb : Below w.heap.size w w') : RowG e sz base w' v n xs := h.of (fun g hg => hb.block g (h.lt g hg).2)
theorem RowG.cells {e sz base w n xs g cap} (h : RowG e sz base w (.slice (some ⟨g, 0, none⟩) n cap) n xs) {j : Nat} {u : Value} (hu : xs[j]? = some u) : w.cell? ⟨g, j, none⟩ = some u := by
  obtain ⟨h1, h2⟩ := h
  rcases h2 with ⟨h2, _⟩ | ⟨g', cap', cur, hv, b, c, d, e1, f, g1, k⟩
  · cases h2
  · cases hv
    have : cur.toList[j]? = some u := by
      rw [← g1] at hu
      rw [List.getElem?_take] at hu
      split at hu
      · exact hu
      · cases hu
    simp [World.cell?, c]
    simpa using this
theorem nou_append {a b : Array Value} (ha : NoU a) (hb : NoU b) : NoU (a ++ b) := fun i z h => by
  rw [Array.getElem?_append] at h
  split at h
  · exact ha _ _ h
  · exact hb _ _ h
theorem nou_list {l : List Value} (h : ∀ u ∈ l, ∀ z, u ≠ .int .u64 z) : NoU l.toArray := fun i z he => by
  rw [List.getElem?_toArray] at he
  exact h _ (List.mem_of_getElem? he) z rfl
theorem nou_mem {a : Array Value} (h : NoU a) : ∀ u ∈ a.toList, ∀ z, u ≠ .int .u64 z := fun u hu z e => by
  obtain ⟨i, hi⟩ := List.getElem?_of_mem hu
  subst e
  exact h i z (by simpa using hi)

/-- 'out = append(out, x)', out such a row, x one struct. -/
theorem wpList_append_G {P : Program} (w : World) {ops : Array Oper} {rest : List Oper} {o : Oper} {a : Act} {Q : Exit → Act → World → Prop} (hgd : o.guard = none) (s x : Operand) (t : TypeId)
    (ho : o.op = .call { callee := .builtin .append, args := #[s, x], argTypes := #[t, t] })
    (base : Nat) (e : TypeId) (i : TypeInfo) (z : Value) (size bytes : Nat) (ht : P.underlying t = some (.slice e)) (hi : P.info? e = some i) (hz : i.zero = some z)
    (hsize : i.size = size) (hby : i.bytes = bytes) (hzs : z.cells.size = size) (hsz : 0 < size) (hzu : NoU z.cells)
    (v : Value) (n : Nat) (xs : List Value) (hs : a.eval s = v) (hown : RowG e size base w v n xs)
    (ad : Addr) (m c : Nat) (news : List Value) (hx : a.eval x = .slice (some ad) m c) (hl : news.length = m * size) (hnews : ∀ j u, news[j]? = some u → w.cell? (ad.add j) = some u) (h1 : ∀ u ∈ news, u.oneCell' = true) (hnu : ∀ u ∈ news, ∀ z, u ≠ .int .u64 z)
    (hm0 : 0 < m) (h63 : n + m ≤ maxLen) (hbytes : (n + m) * bytes ≤ 140737488355328) (hbase : base ≤ w.heap.size)
    (hK : ∀ g cap' w', RowG e size base w' (.slice (some ⟨g, 0, none⟩) (n + m) cap') (n + m) (xs ++ news) → w.grownBy w' v.ownBlock → Kp w w' → wpList P ops Q rest (a.put o.dst (.slice (some ⟨g, 0, none⟩) (n + m) cap')) w') : wpList P ops Q (o :: rest) a w := by
  subst hsize; subst hby
  obtain ⟨v', w', hrun, h1', h2', h3'⟩ := run_append_own (P := P) w base t o.type e i z i.size i.bytes ht hi hz rfl rfl hzs hsz v n xs hown.owns ad m c news hl hnews h1 h63 hbytes hbase
  have hlen : (xs ++ news).length = (n + m) * i.size := by rw [List.length_append, hown.1, hl, Nat.add_mul]
  have hzc : ∀ k, NoU (Builtin.zeroCells z.cells k) := by
    intro k j y hj
    simp only [Builtin.zeroCells] at hj
    have hm := Array.mem_of_getElem? hj
    obtain ⟨q, _, he⟩ := Array.mem_map.1 hm
    have hlt : q % z.cells.size < z.cells.size := Nat.mod_lt _ (by omega)
    rw [getElem!_pos z.cells (q % z.cells.size) hlt] at he
    exact hzu (q % z.cells.size) y (by rw [Array.getElem?_eq_getElem hlt, he])
  have hnu' : NoU news.toArray := nou_list hnu
  have hw : ∃ g cap' cur', v' = .slice (some ⟨g, 0, none⟩) (n + m) cap' ∧ base ≤ g ∧ w'.heap[g]? = some (.cells cur' e (0, 0)) ∧ n + m ≤ cap' ∧ cap' ≤ maxLen ∧ cur'.size = cap' * i.size ∧ cur'.toList.take ((n + m) * i.size) = xs ++ news ∧ NoU cur' ∧ Kp w w' := by
    have hsm : n + m ≤ 9223372036854775807 := by unfold maxLen at h63; omega
    rcases h1'.2 with ⟨hv0, hn0⟩ | ⟨g', cap', cur', hv', hb', hg', hn', hc', hs', ht'⟩
    · omega
    · refine ⟨g', cap', cur', hv', hb', hg', hn', hc', hs', ht', ?_⟩
      rcases hown.2 with ⟨rfl, rfl⟩ | ⟨g, cap, cur, rfl, hbg, hg, hnc, hcm, hcs, htake, hnuc⟩
      · have hx0 : xs = [] := List.eq_nil_of_length_eq_zero (by simpa using hown.1)
        subst hx0
        have e1 := run_append_nil (P := P) w t o.type e i z ht hi hz ad m c news hl hnews hm0 (by omega) (by rw [Nat.zero_add] at hbytes; omega)
        rw [e1] at hrun
        injection hrun with e2 e3
        subst e3
        rw [hv'] at e2
        injection e2 with e4
        injection e4 with e5
        injection e5 with e6
        subst e6
        have e7 := heap_alloc_new w.drew (.cells (news.toArray ++ Builtin.zeroCells z.cells (grownCap w m 0 e - m)) e)
        rw [show w.heap.size = w.drew.heap.size from rfl, e7] at hg'
        injection hg' with e8
        injection e8 with e9
        rw [← e9]
        exact ⟨nou_append hnu' (hzc _), (Kp.refl w).drew.alloc _⟩
      · by_cases hroom : n + m ≤ cap
        · have e1 := run_append_room (P := P) w t o.type e i ht hi g n cap cur hg ad m c news hl hnews h1 hroom (by rw [hl, hcs, ← Nat.add_mul]; exact Nat.mul_le_mul_right _ hroom)
          rw [e1] at hrun
          injection hrun with e2 e3
          rw [hv'] at e2
          injection e2 with e4
          injection e4 with e5
          injection e5 with e6
          subst e6
          have e7 : w'.heap[g]? = some (.cells (cur.toList.take (n * i.size) ++ news ++ cur.toList.drop (n * i.size + news.length)).toArray e (0, 0)) := by rw [← e3]; exact setRow_heap w g cur _ e _ hg
          rw [e7] at hg'
          injection hg' with e8
          injection e8 with e9
          rw [← e9]
          refine ⟨nou_list ?_, h2'.os, h2'.tape, h2'.output, h2'.size, fun k hk => ?_⟩
          · intro u hu
            rcases List.mem_append.1 hu with hu | hu
            · rcases List.mem_append.1 hu with hu | hu
              · exact nou_mem hnuc u (List.mem_of_mem_take hu)
              · exact hnu u hu
            · exact nou_mem hnuc u (List.mem_of_mem_drop hu)
          · by_cases hkg : k = g
            · subst hkg; exact .inr ⟨cur, e, (0, 0), hg, hnuc⟩
            · exact .inl (h2'.block k hk (fun e => hkg (by simpa [Value.ownBlock] using e)))
        · have holds : ∀ j u, xs[j]? = some u → w.cell? ((⟨g, 0, none⟩ : Addr).add j) = some u := World.ownsRow.cells hown.owns (g := g) rfl
          have e1 := run_append_grow (P := P) w t o.type e i z ht hi hz ⟨g, 0, none⟩ n cap xs hown.1 holds ad m c news hl hnews (by omega) (by omega) (growslice_fits (by omega) hbytes)
          rw [e1] at hrun
          injection hrun with e2 e3
          subst e3
          rw [hv'] at e2
          injection e2 with e4
          injection e4 with e5
          injection e5 with e6
          subst e6
          have e7 := heap_alloc_new w.drew (.cells (xs.toArray ++ news.toArray ++ Builtin.zeroCells z.cells (grownCap w (n + m) cap e - (n + m))) e)
          rw [show w.heap.size = w.drew.heap.size from rfl, e7] at hg'
          injection hg' with e8
          injection e8 with e9
          rw [← e9]
          refine ⟨nou_append (nou_append (nou_list ?_) hnu') (hzc _), (Kp.refl w).drew.alloc _⟩
          intro u hu
          rw [← htake] at hu
          exact nou_mem hnuc u (List.mem_of_mem_take hu)
  obtain ⟨g, cap', cur', rfl, a1, a2, a3, a4, a5, a6, a7, a8⟩ := hw
  refine wpList_plain hgd fun _ hK' => ?_
  unfold Oper.wp execOp
  simp only [ho, resolve, invoke, builtin, Sem.run_bind, Sem.run_pure, Result.andThen_ok, List.map_toArray, List.map_cons, List.map_nil, hs, hx, hrun]
  exact hK' _ _ (hK g cap' w' ⟨hlen, .inr ⟨g, cap', cur', rfl, a1, a2, a3, a4, a5, a6, a7⟩⟩ h2' a8)
end Go.Proofs.Ytllpllebmknmpaa
namespace Go.Proofs.Ytllpllebmknmpaa
open Go.RowKit

/-- A block, whole: it may be written. -/
def Bk (w : World) (B : Nat) (vs : List Value) (t : TypeId) : Prop := w.heap[B]? = some (.cells vs.toArray t (0, 0))
theorem bk_new (w : World) (vs : List Value) (t : TypeId) : Bk (w.alloc (.cells vs.toArray t)) w.heap.size vs t := heap_alloc_new w _
theorem Bk.lt {w B vs t} (h : Bk w B vs t) : B < w.heap.size := (Array.getElem?_eq_some_iff.1 h).1
theorem Bk.below {w w' B vs t} (h : Bk w B vs t) (hb : Below w.heap.size w w') : Bk w' B vs t := (hb.block B h.lt).trans h
theorem Bk.cell {w B vs t} (h : Bk w B vs t) {j : Nat} {v : Value} (hv : vs[j]? = some v) : w.cell? ⟨B, j, none⟩ = some v := by
  unfold Bk at h
  simp only [World.cell?, h]
  simpa using hv
theorem Bk.frozen {w B vs t} (h : Bk w B vs t) (o : Nat) : w.frozen? ⟨B, o, none⟩ = false := by
  unfold Bk at h
  simp [World.frozen?, h]
/-- One cell of a block that is written. -/
theorem Bk.set {w B vs t} (h : Bk w B vs t) (j : Nat) (v : Value) : Bk (w.setCell ⟨B, j, none⟩ v) B (vs.set j v) t := by
  unfold Bk at *
  simp [World.setCell, Array.getElem?_modify, h]
theorem Bk.of {w w' B vs t} (h : Bk w B vs t) (hb : w'.heap[B]? = w.heap[B]?) : Bk w' B vs t := hb.trans h
/-- A block's cells written one after another. -/
def stl (B : Nat) : Nat → List Value → World → World
  | _, [], w => w
  | o, v :: vs, w => stl B (o + 1) vs (w.setCell ⟨B, o, none⟩ v)
theorem stl_at (B : Nat) : ∀ (vs : List Value) (o : Nat) (w : World), (stl B o vs w).os = w.os ∧ (stl B o vs w).tape = w.tape ∧ (stl B o vs w).output = w.output ∧ (stl B o vs w).heap.size = w.heap.size ∧ ∀ k, k ≠ B → (stl B o vs w).heap[k]? = w.heap[k]?
  | [], o, w => ⟨rfl, rfl, rfl, rfl, fun _ _ => rfl⟩
  | v :: vs, o, w => by
    obtain ⟨h1, h2, h3, h4, h5⟩ := stl_at B vs (o + 1) (w.setCell ⟨B, o, none⟩ v)
    refine ⟨h1, h2, h3, ?_, fun k hk => ?_⟩
    · show (stl B (o + 1) vs (w.setCell ⟨B, o, none⟩ v)).heap.size = _
      rw [h4]; simp [World.setCell]
    · show (stl B (o + 1) vs (w.setCell ⟨B, o, none⟩ v)).heap[k]? = _
      rw [h5 k hk]; exact Below.heap_setCell _ _ _ _ hk
theorem st_new {w w6 : World} {B : Nat} {us : List Value} {t : TypeId} (vs : List Value) (h : Bk w6 B us t) (hu : NoU us.toArray) (hb : Below w.heap.size w w6) (hB : w.heap.size ≤ B) :
    Below w.heap.size w (stl B 0 vs w6) ∧ Kp w6 (stl B 0 vs w6) ∧ ∀ k, k ≠ B → (stl B 0 vs w6).heap[k]? = w6.heap[k]? := by
  obtain ⟨h1, h2, h3, h4, h5⟩ := stl_at B vs 0 w6
  refine ⟨hb.trans ⟨h1, h2, h3, by omega, fun k hk => h5 k (by omega)⟩, ⟨h1, h2, h3, by omega, fun k _ => ?_⟩, h5⟩
  by_cases hk : k = B
  · subst hk; exact .inr ⟨_, t, (0, 0), h, hu⟩
  · exact .inl (h5 k hk)
theorem stl_bk {B : Nat} {t : TypeId} : ∀ (vs us : List Value) (o : Nat) (w : World), us.length = o + vs.length → Bk w B us t → Bk (stl B o vs w) B (us.take o ++ vs) t
  | [], us, o, w, hl, h => by
    rw [List.append_nil, List.take_of_length_le (by simp at hl; omega)]; exact h
  | v :: vs, us, o, w, hl, h => by
    have hl' : us.length = o + (vs.length + 1) := hl
    have := stl_bk vs (us.set o v) (o + 1) (w.setCell ⟨B, o, none⟩ v) (by rw [List.length_set]; omega) (h.set o v)
    have e : (us.set o v).take (o + 1) ++ vs = us.take o ++ v :: vs := by
      rw [List.take_add_one, List.take_set_of_le (Nat.le_refl _), List.getElem?_set_self (by omega), List.append_assoc]; rfl
    rw [e] at this
    exact this
end Go.Proofs.Ytllpllebmknmpaa
namespace Go.Proofs.Ytllpllebmknmpaa
open Go.RowKit

theorem RowG.slice {e sz base w v n xs} (h : RowG e sz base w v n xs) : ∃ ao cap, v = .slice ao n cap := by
  rcases h.2 with ⟨rfl, rfl⟩ | ⟨g, cap, cur, rfl, _⟩
  · exact ⟨none, 0, rfl⟩
  · exact ⟨_, cap, rfl⟩

end Go.Proofs.Ytllpllebmknmpaa
namespace Go.Proofs.Ytllpllebmknmpaa
open Go.RowKit

theorem kBdn {w0 w : World} {q : Nat} (h : Below w0.heap.size w0 w) : Below w0.heap.size w0 (w.drewN q) := below_drewN h q
end Go.Proofs.Ytllpllebmknmpaa
namespace Go.Proofs.Ytllpllebmknmpaa
open Go.RowKit

end Go.Proofs.Ytllpllebmknmpaa
namespace Go.Proofs.Ytllpllebmknmpaa
open Go.RowKit

theorem Nm.rn {w : World} {t : Nm} {L : Nat} (h : NmR w t) (hf : nfB t = true) (hn : t.n ≤ L) (hm : t.m ≤ L) : ∃ q, Rn L w t.s t.x t.n t.c t.f t.y t.m t.d t.g q := h.1.rn hf hn hm
end Go.Proofs.Ytllpllebmknmpaa
namespace Go.Proofs.Ytllpllebmknmpaa
open Go.RowKit

/-- A list of numbers that reads as p, in form, of at most L limbs. -/
def Rf (L : Nat) (w : World) (ao : Option Addr) (p : List Rat) : Prop :=
  ∀ (j : Nat) (q : Rat), p[j]? = some q → ∃ b o, ∃ t : Nm, ao = some ⟨b, o, none⟩ ∧ C3 w b (o + j * 3) (.bool t.s) (.slice t.x t.n t.c) (.slice t.y t.m t.d) ∧ Rn L w t.s t.x t.n t.c t.f t.y t.m t.d t.g q
theorem Rf.below {L w w' ao p} (h : Rf L w ao p) (hb : Below w.heap.size w w') : Rf L w' ao p := fun j q hj => by
  obtain ⟨b, o, t, e, h1, h2⟩ := h j q hj
  exact ⟨b, o, t, e, h1.below hb, h2.below hb⟩
end Go.Proofs.Ytllpllebmknmpaa
namespace Go.Proofs.Ytllpllebmknmpaa
open Go.RowKit

theorem afr_all {X : Nat → Nm} : ∀ {r i : Nat}, afr X r i = true → ∀ j, i ≤ j → j < i + r → nfB (X j) = true := by
  intro r
  induction r with
  | zero => intro i _ j h1 h2; omega
  | succ r ih =>
    intro i h j hj hj2
    simp only [afr, Bool.and_eq_true] at h
    by_cases e : j = i
    · subst e; exact h.1
    · exact ih h.2 j (by omega) (by omega)
/-- A list of numbers in form has values. -/
theorem rl_rf {w : World} {ao : Option Addr} {k : Nat} {X : Nat → Nm} {L : Nat} (h : Rl w ao k X) (hf : afB k X = true) (hL : ∀ j, j < k → (X j).n ≤ L ∧ (X j).m ≤ L) : ∃ p : List Rat, p.length = k ∧ Rf L w ao p ∧ ∀ j, j < k → ∃ q, p[j]? = some q ∧ Rn L w (X j).s (X j).x (X j).n (X j).c (X j).f (X j).y (X j).m (X j).d (X j).g q := by
  have h1 := afr_all hf
  have hq : ∀ j, ∃ q, j < k → Rn L w (X j).s (X j).x (X j).n (X j).c (X j).f (X j).y (X j).m (X j).d (X j).g q := fun j => by
    by_cases hj : j < k
    · obtain ⟨b, o, _, _, hr⟩ := h j hj
      obtain ⟨q, hq⟩ := Nm.rn hr (h1 j (by omega) (by omega)) (hL j hj).1 (hL j hj).2
      exact ⟨q, fun _ => hq⟩
    · exact ⟨0, fun h => absurd h hj⟩
  have hQ := fun j => Classical.choose_spec (hq j)
  generalize hQe : (fun j => Classical.choose (hq j)) = Q at *
  have hQ2 : ∀ j, j < k → Rn L w (X j).s (X j).x (X j).n (X j).c (X j).f (X j).y (X j).m (X j).d (X j).g (Q j) := fun j hj => by rw [← hQe]; exact hQ j hj
  refine ⟨(List.range k).map Q, by simp, ?_, fun j hj => ⟨Q j, by simp [hj], hQ2 j hj⟩⟩
  intro j q hj
  have hlt : j < k := by
    have := (List.getElem?_eq_some_iff.1 hj).1
    simpa using this
  simp [hlt] at hj
  subst hj
  obtain ⟨b, o, e, hc, _⟩ := h j hlt
  exact ⟨b, o, X j, e, hc, hQ2 j hlt⟩

end Go.Proofs.Ytllpllebmknmpaa
namespace Go.Proofs.Ytllpllebmknmpaa
open Go.RowKit

theorem Wn.lt_pw {w s x n c f v} (h : Wn w s x n c f v) : ((v.natAbs : Nat) : Int) < pw n := by
  have hm := h.mag
  have h1 := vf_lt hm.lm
  have h3 : vf f n = ((v.natAbs : Nat) : Int) := hm.val
  omega
/-- Numerator and denominator lie below so many limbs. -/
def Lo (K : Nat) (q : Rat) : Prop := ((q.num.natAbs : Nat) : Int) < pw K ∧ ((q.den : Nat) : Int) < pw K
theorem Lo.mono {K L q} (h : Lo K q) (hk : K ≤ L) : Lo L q := ⟨Int.lt_of_lt_of_le h.1 (pw_mono hk), Int.lt_of_lt_of_le h.2 (pw_mono hk)⟩
theorem Rn.lo {L w s x n c f y m d g q} {K : Nat} (h : Rn L w s x n c f y m d g q) (hn : n ≤ K) (hm : m ≤ K) : Lo K q :=
  ⟨Int.lt_of_lt_of_le h.num.lt_pw (pw_mono hn), Int.lt_of_lt_of_le (by have := h.den.lt_pw; simpa using this) (pw_mono hm)⟩
end Go.Proofs.Ytllpllebmknmpaa
namespace Go.Proofs.Ytllpllebmknmpaa
open Go.RowKit

end Go.Proofs.Ytllpllebmknmpaa
namespace Go.Proofs.Ytllpllebmknmpaa
open Go.RowKit

end Go.Proofs.Ytllpllebmknmpaa
namespace Go.Proofs.Ytllpllebmknmpaa
open Go.RowKit

end Go.Proofs.Ytllpllebmknmpaa
namespace Go.Proofs.Ytllpllebmknmpaa
open Go.RowKit

theorem Try.infoRat : (Try.prog.info? 66).map (fun i => (i.zero, i.size, i.bytes)) = some (some (.agg #[.bool false, .slice none 0 0, .slice none 0 0]), 3, 56) := by kernel_rfl
theorem Rn.nm {L w q} {t : Nm} (h : Rn L w t.s t.x t.n t.c t.f t.y t.m t.d t.g q) (hL : L ≤ 65536) : NmR w t ∧ nfB t = true :=
  ⟨⟨h.rw, Nat.le_trans h.ln hL, Nat.le_trans h.ld hL⟩, h.rf⟩
/-- A row of n numbers in block B that may be written: no cell is a limb. -/
structure Rk (w : World) (B n : Nat) : Prop where
  z : B < w.heap.size
  has : ∀ o, o < n * 3 → ∃ u, w.cell? ⟨B, o, none⟩ = some u ∧ ∀ i, u ≠ Value.int .u64 i
  fz : ∀ o, w.frozen? ⟨B, o, none⟩ = false
theorem Rk.below {w w' B n} (h : Rk w B n) (hb : Below w.heap.size w w') : Rk w' B n := by
  obtain ⟨_, h2⟩ := bcell hb
  exact ⟨Nat.lt_of_lt_of_le h.z hb.size, fun o ho => by obtain ⟨u, h3, h4⟩ := h.has o ho; exact ⟨u, kCb hb h3, h4⟩, fun o => (h2 _ _ h.z).trans (h.fz o)⟩
theorem Rk.drew {w B n} (h : Rk w B n) : Rk w.drew B n := ⟨h.z, h.has, h.fz⟩
theorem Rk.set {w B n o u} (h : Rk w B n) (hu : ∀ i, u ≠ Value.int .u64 i) : Rk (w.setCell ⟨B, o, none⟩ u) B n :=
  ⟨by simpa [World.setCell] using h.z, fun o' ho' => by
    obtain ⟨u', h1, h2⟩ := h.has o' ho'
    by_cases e : o = o'
    · subst e; exact ⟨u, kCe (kI0 h1), hu⟩
    · exact ⟨u', kCo e h1, h2⟩, fun o' => kFs (h.fz o')⟩
theorem Rk.rd {w B n o u a k f} (h : Rk w B n) (ho : o < n * 3) (hx : Rd .u64 w a k f) : Rd .u64 (w.setCell ⟨B, o, none⟩ u) a k f := by
  obtain ⟨u', h1, h2⟩ := h.has o ho
  exact rd_setne h1 h2 hx
theorem Rk.rn {w B n o u L s x k c f y m d g q} (h : Rk w B n) (ho : o < n * 3) (hx : Rn L w s x k c f y m d g q) : Rn L (w.setCell ⟨B, o, none⟩ u) s x k c f y m d g q :=
  ⟨⟨h.rd ho hx.num.rd, hx.num.lm, hx.num.wf, hx.num.cap, hx.num.nil, hx.num.val⟩, ⟨h.rd ho hx.den.rd, hx.den.lm, hx.den.wf, hx.den.cap, hx.den.nil, hx.den.val⟩, hx.ln, hx.ld⟩
theorem below_at {w0 w : World} {B o : Nat} {u0 u1 u2 : Value} (hw : Below w0.heap.size w0 w) (hB : w0.heap.size ≤ B) :
    Below w0.heap.size w0 (((w.setCell ⟨B, o, none⟩ u0).setCell ⟨B, o + 1, none⟩ u1).setCell ⟨B, o + 2, none⟩ u2) :=
  below_turned hw hw.size ((((Turned.refl w0.heap.size (B + 1) w).set (x := ⟨B, o, none⟩) hB (by simp) _).set (x := ⟨B, o + 1, none⟩) hB (by simp) _).set (x := ⟨B, o + 2, none⟩) hB (by simp) _) (Nat.le_refl _)
/-- 'make([]api.Rat, n)'. -/
theorem wpList_make_rk {P : Program} (w : World) {ops : Array Oper} {rest : List Oper} {o : Oper} {a : Act} {Q : Exit → Act → World → Prop}
    (hg : o.guard = none) (l c : Operand) (t : TypeId) (hop : o.op = Op.makeSlice t l c)
    (e : TypeId) (bytes : Nat) (h1 : P.underlying t = some (.slice e)) (h2 : (P.info? e).map (fun i => (i.zero, i.size, i.bytes)) = some (some (.agg #[.bool false, .slice none 0 0, .slice none 0 0]), 3, bytes))
    (kl kc : IntKind) (L C : Int) (n : Nat) (hl : a.eval l = .int kl L) (hc : a.eval c = .int kc C) (hL : L = (n : Int)) (hC : C = (n : Int)) (b2 : bytes * n ≤ 281474976710656) (b3 : n ≤ maxLen)
    (hK : ∀ w', Rk w' w.heap.size n → Below w.heap.size w w' → wpList P ops Q rest (a.put o.dst (.slice (some ⟨w.heap.size, 0, none⟩) n n)) w') :
    wpList P ops Q (o :: rest) a w := by
  obtain ⟨i, hi, hz0, hz1, hz2⟩ := info_parts h2
  refine wpList_make_full w hg l c t hop w.heap.size e i _ 3 h1 hi hz0 hz1 kl kc L C n hl hc hL hC (by rw [hz2]; exact b2) b3 (Nat.le_refl _) ?_
  intro w' hown hgr
  refine hK w' ?_ ((Below.refl _ _).grown hgr (Nat.le_refl _) (fun k h => by cases h))
  obtain ⟨h1, h2⟩ := hown
  rcases h2 with ⟨hv, _⟩ | ⟨g, cap, cur, hv, hb, hg, hn, hm2, hs, ht⟩
  · cases hv
  · cases hv
    refine ⟨(Array.getElem?_eq_some_iff.1 hg).1, fun o ho => ?_, fun o => by simp [World.frozen?, hg]⟩
    have hlt : o < cur.size := by omega
    have h3 : cur.toList[o]? = (madeCells (Value.agg #[.bool false, .slice none 0 0, .slice none 0 0]).cells (n * 3)).toList[o]? := by rw [← ht, List.getElem?_take, if_pos (by omega)]
    have h4 : (madeCells (Value.agg #[.bool false, .slice none 0 0, .slice none 0 0]).cells (n * 3))[o]? = some ((Value.agg #[.bool false, .slice none 0 0, .slice none 0 0]).cells[o % 3]!) := by
      have hsz : (Value.agg #[.bool false, .slice none 0 0, .slice none 0 0]).cells.size = 3 := by rfl
      simp [madeCells, hsz, ho]
    refine ⟨_, (by simp only [World.cell?, hg]; simpa using h3.trans (by simpa using h4)), ?_⟩
    intro i
    rcases (show o % 3 = 0 ∨ o % 3 = 1 ∨ o % 3 = 2 by omega) with h | h | h <;> rw [h] <;> simp [Value.cells]
end Go.Proofs.Ytllpllebmknmpaa
namespace Go.Proofs.Ytllpllebmknmpaa
open Go.RowKit

end Go.Proofs.Ytllpllebmknmpaa
namespace Go.Proofs.Ytllpllebmknmpaa
open Go.RowKit

end Go.Proofs.Ytllpllebmknmpaa
namespace Go.Proofs.Ytllpllebmknmpaa
open Go.RowKit

theorem drewN_bel {w w' : World} {q : Nat} (h : w' = w.drewN q) : Below w.heap.size w w' := by rw [h]; exact below_drewN (Below.refl _ _) _
theorem dWord_c {w : World} {V : Nat} (hV : V < 4294967296) :
    Calls Try.prog 57 #[.int .u64 (V : Int)] w fun e w' => ∃ z k c d, e = .returned (.slice z k c) ∧ Below w.heap.size w w' ∧ Hid (k ≤ 1 ∧ Dn w' z k d V) :=
  (word_c V w (by omega) (by omega)).mono (fun _ _ ⟨k, h1, h2, h3, h4, h5, h6⟩ => ⟨_, k, 2, _, h1, h2, h3, h4, fun j hj => ⟨by omega, by omega⟩, h6, by
    rcases (show k = 0 ∨ k = 1 by omega) with h | h
    · subst h; have := h5 rfl; simp [vd]; omega
    · subst h; simp [vd, pd]⟩)
theorem dSubO_c {w x n c d A y m e g B} (ha : Dn w x n d A) (hb : Dn w y m g B) (hn : n ≤ 1048576) (hm : m ≤ 1048576) (hle : B ≤ A) :
    Calls Try.prog 70 #[.slice x n c, .slice y m e] w fun e w' => ∃ z k c' q, e = .returned (.slice z k c') ∧ Below w.heap.size w w' ∧ Hid (k ≤ n ∧ Dn w' z k q (A - B) ∧ ∀ a, z = some a → w.heap.size ≤ a.block) :=
  (rsubO_c x y n m c e d g w (by omega) (by omega) (vd_len hb.dg ha.dg hb.fm (by rw [ha.val, hb.val]; omega)) ha.rd hb.rd ha.dg hb.dg (by rw [ha.val, hb.val]; omega)).mono (fun _ _ ⟨z, k, c', q, h1, h2, h3, h4, h5, h6, h8, h7⟩ => ⟨z, k, c', q, h1, h2, h4, ⟨h3, h5, h6, by rw [h7, ha.val, hb.val]; omega⟩, h8⟩)
theorem Dn.len {w x n d A y m g B} (ha : Dn w x n d A) (hb : Dn w y m g B) (hle : A ≤ B) : n ≤ m := vd_len ha.dg hb.dg ha.fm (by rw [ha.val, hb.val]; omega)
end Go.Proofs.Ytllpllebmknmpaa
namespace Go.Proofs.Ytllpllebmknmpaa
open Go.RowKit

set_option maxRecDepth 100000 in
set_option maxHeartbeats 2000000 in
/-- Shl of the reference: a * 2^(32 * o + s), on digits. -/
theorem rshl_c (ao : Option Addr) (n ca o : Nat) (z s : Int) (f : Nat → Int) (w : World) (hn : n ≤ 1048576) (ho : o ≤ 1048576) (s0 : 0 ≤ s) (s1 : s ≤ 31) (hz : z = 32 * o + s) (hr : Rd .u64 w ao n f) (hf : Dg f n) :
    Calls Try.prog 71 #[.slice ao n ca, .int .i64 z] w fun e w' => ∃ ao' k cap' D, e = .returned (.slice ao' k cap') ∧ Below w.heap.size w w' ∧ Rd .u64 w' ao' k D ∧ k ≤ o + n + 1 ∧ Dg D k ∧ Fm D k ∧ vd D k = vd f n * (2 ^ s.toNat * pd o) := by
  have HF := hid hf
  have HRd := hid hr
  clear hf hr
  have z0 : 0 ≤ z := by omega
  have z1 : z ≤ 67108927 := by omega
  have h1 : z / 32 = (o : Int) := by omega
  have h2 : z % 32 = s := by omega
  have h3 : Int.tdiv z 32 = (o : Int) := by rw [Int.tdiv_eq_ediv_of_nonneg z0]; exact h1
  have h4 : Int.tmod z 32 = s := by rw [Int.tmod_eq_emod_of_nonneg z0]; exact h2
  clear hz
  by_cases hn0 : n = 0
  · subst hn0
    go_enter Try.func71, Try.ntmps71
    go_wp2
    go_ret
    exact ⟨none, 0, 0, f, rfl, Below.refl _ _, Rd.zero, by omega, fun j hj => by omega, .inl rfl, by simp [vd]⟩
  · have hnz : ((n : Int) == 0) = false := by simp; omega
    have p0 : (0 : Int) < 2 ^ s.toNat := Int.pow_pos (by decide)
    have p1 : (2 : Int) ^ s.toNat ≤ 2147483648 := by
      have : (2 : Int) ^ s.toNat * 2 ^ (31 - s).toNat = 2147483648 := by rw [← Int.pow_add, show s.toNat + (31 - s).toNat = 31 by omega]; rfl
      have q0 : (0 : Int) < 2 ^ (31 - s).toNat := Int.pow_pos (by decide)
      have := Int.mul_le_mul_of_nonneg_left (show (1 : Int) ≤ 2 ^ (31 - s).toNat by omega) (Int.le_of_lt p0)
      omega
    have P0 := hid p0
    have P1 := hid p1
    clear p0 p1
    go_enter Try.func71, Try.ntmps71
    go_wp2_with (at_make; refine wpList_make_two .u64 w rfl (.tmp 13) (.tmp 19) 64 rfl 63 8 Try.underlying64 Try.infoU64 .i64 .i64 _ _ o (o + n + 1) rfl rfl (by omega) (by omega) (by omega) (by omega) (by unfold maxLen; omega) ?_; intro w1 hb1 hbel1)
    have HO1 := hid (own_of_blk hb1 (base := w.heap.size) (n := o) (Nat.le_refl _) (by omega) (by unfold maxLen; omega))
    clear hb1
    go_loopw [5, 6, 23] (fun v c t wr => ∃ (k : Nat) (cc : Int) (D : Nat → Int), k ≤ n ∧ t = .int .i64 k ∧ c = .int .u64 cc ∧ 0 ≤ cc ∧ cc < 2147483648 ∧ Hid (cc < 2 ^ s.toNat) ∧ Below w.heap.size w wr ∧ Hid (Own .u64 63 wr w.heap.size v (o + k) D) ∧ Hid (Dg D (o + k)) ∧ Hid (vd D (o + k) + cc * pd (o + k) = vd f k * (2 ^ s.toNat * pd o))) (fun _ _ t _ => n - (intOf t).toNat)
    case atStart => exact ⟨0, 0, fun _ => 0, by omega, rfl, rfl, by omega, by omega, P0.out, hbel1, HO1.out, fun j hj => ⟨Int.le_refl 0, show (0 : Int) < 4294967296 by decide⟩, by simp [Hid, vd, vd_zero]⟩
    case round =>
      clear hbel1 HO1
      obtain ⟨k, cc, D, hk, rfl, rfl, c0, c1, HC, hbel, HO, HDg, HV⟩ := hrel
      by_cases hlt : k < n
      · have hrA := HRd.out
        obtain ⟨b, ob, rfl⟩ := hrA.at (by omega)
        obtain ⟨x, hx⟩ : ∃ x, f k = x := ⟨_, rfl⟩
        have hcell : wr.cell? ⟨b, ob + k, none⟩ = some (.int .u64 x) := by rw [← hx]; exact (hrA.below hbel (Nat.le_refl _)).cell hlt
        obtain ⟨x0, x1⟩ := HF.out k hlt
        rw [hx] at x0 x1
        have HX := hid hx
        clear hx hrA
        obtain ⟨d1, d2, d3, d4, d5⟩ := dshl_carry c0 HC.out x0 x1 P0.out
        obtain ⟨X, eX, HXe⟩ : ∃ X, IntKind.u64.wrap (x * 2 ^ s.toNat) = X ∧ Hid (X = x * 2 ^ s.toNat) := ⟨x * 2 ^ s.toNat, by have := P1.out; rw [IntKind.wrap_u64]; omega, rfl⟩
        have X0 : 0 ≤ X := by rw [HXe.out]; exact d4
        have X1 : X < 9223372036854775808 := by have := P1.out; rw [HXe.out]; omega
        have HD3 := hid d3
        clear d1 d2 d3 d4 d5
        go_wp2_with (at_builtin; refine wpList_append_own_list .u64 _ rfl (.tmp 33) (.tmp 36) 64 rfl w.heap.size 63 8 Try.underlying64 Try.infoU64 _ (o + k) D rfl (Own.alloc HO.out _) wr.heap.size 0 1 1 (fun _ => (cc + X) % 4294967296) rfl (rd_new1 wr _ _) ?c1 ?c2 ?c3 ?_)
        case c1 => unfold maxLen; omega
        case c2 => omega
        case c3 => have := hbel.size; simp; omega
        intro v' w' hown hgr
        have hbel2 : Below w.heap.size w w' := (hbel.alloc hbel.size _).grown hgr (by have := hbel.size; simp; omega) (fun k h => (Own.ge HO.out k h))
        have HO2 := hid hown
        clear hown hgr HO
        go_wp2
        go_roundw
        case rel =>
          refine ⟨k + 1, _, _, by omega, by go_num, rfl, by omega, ?_, ?_, hbel2, HO2.out, dg_cat1 HDg.out (by omega), ?_⟩
          · have h5 := HD3.out; have h6 := P1.out; rw [← HXe.out] at h5; omega
          · have h5 := HD3.out; rw [← HXe.out] at h5; exact h5
          · have h5 := dshl_step HV.out HX.out
            rw [← HXe.out] at h5; exact h5
        case measure => simp [intOf]; omega
      · have hkn : k = n := by omega
        subst hkn
        go_wp2_with (at_builtin; refine wpList_append_own_list .u64 _ rfl (.tmp 41) (.tmp 43) 64 rfl w.heap.size 63 8 Try.underlying64 Try.infoU64 _ (o + k) D rfl (Own.alloc HO.out _) wr.heap.size 0 1 1 (fun _ => cc) rfl (rd_new1 wr _ _) ?c1 ?c2 ?c3 ?_)
        case c1 => unfold maxLen; omega
        case c2 => omega
        case c3 => have := hbel.size; simp; omega
        intro v' w' hown hgr
        have hbel2 : Below w.heap.size w w' := (hbel.alloc hbel.size _).grown hgr (by have := hbel.size; simp; omega) (fun k h => (Own.ge HO.out k h))
        obtain ⟨ao', cap', hv, hcc, hnn, hml, hrd, hlt3⟩ := Own.shape hown
        unfold maxLen at hml
        subst hv
        clear hown hgr HO hlt3
        go_wp2_with fail
        refine (low_c ao' (o + k + 1) cap' (cat D (o + k) (fun _ => cc)) w' hcc hml hrd hnn).mono ?_
        rintro e w2 ⟨rfl, m', hm1, hz, hfm, rfl⟩
        have HZ := hid hz
        have HFM := hid hfm
        clear hz hfm
        go_wp2
        go_ret
        refine ⟨ao', m', cap', _, rfl, hbel2, hrd.take hm1, by omega, (dg_cat1 HDg.out (by omega)).mono hm1, HFM.out, ?_⟩
        rw [trim_vald hm1 HZ.out, vd_cat1, HV.out]

end Go.Proofs.Ytllpllebmknmpaa
namespace Go.Proofs.Ytllpllebmknmpaa
open Go.RowKit

theorem two_cop {b : Nat} (h : b % 2 = 1) : Nat.Coprime 2 b := by
  unfold Nat.Coprime
  have h1 : Nat.gcd 2 b ∣ 2 := Nat.gcd_dvd_left _ _
  have h2 : Nat.gcd 2 b ∣ b := Nat.gcd_dvd_right _ _
  have h3 := Nat.le_of_dvd (by decide) h1
  have h4 : Nat.gcd 2 b ≠ 0 := by intro h; rw [h] at h1; simp at h1
  rcases (show Nat.gcd 2 b = 1 ∨ Nat.gcd 2 b = 2 by omega) with h5 | h5
  · exact h5
  · rw [h5] at h2; omega
theorem gcd_half2 {a b : Nat} (ha : a % 2 = 0) (hb : b % 2 = 0) : Nat.gcd a b = Nat.gcd (a / 2) (b / 2) * 2 := by
  rw [← Nat.gcd_mul_right, show a / 2 * 2 = a by omega, show b / 2 * 2 = b by omega]
theorem gcd_halfl {a b : Nat} (ha : a % 2 = 0) (hb : b % 2 = 1) : Nat.gcd (a / 2) b = Nat.gcd a b := by
  have := Nat.Coprime.gcd_mul_left_cancel (a / 2) (two_cop hb)
  rw [show 2 * (a / 2) = a by omega] at this
  exact this.symm
theorem gcd_halfr {a b : Nat} (ha : a % 2 = 1) (hb : b % 2 = 0) : Nat.gcd a (b / 2) = Nat.gcd a b := by
  rw [Nat.gcd_comm, gcd_halfl hb ha, Nat.gcd_comm]
theorem gcd_take {a b : Nat} (h : b ≤ a) : Nat.gcd (a - b) b = Nat.gcd a b := by
  have := Nat.gcd_add_self_left b (a - b)
  rw [Nat.sub_add_cancel h] at this
  exact this.symm
/-- The number that digits in memory tell. -/
noncomputable def dOf (w : World) (v : Value) : Nat := match v with
  | .slice (some a) k _ => (vd (fun j => match w.cell? ⟨a.block, a.off + j, none⟩ with | some (.int _ z) => z | _ => 0) k).toNat
  | _ => 0
theorem Dn.dOf {w x n c d V} (h : Dn w x n d V) : dOf w (.slice x n c) = V := by
  rcases Nat.eq_zero_or_pos n with h0 | h0
  · subst h0
    rw [h.zero]
    cases x <;> rfl
  · obtain ⟨b, o, rfl⟩ := h.rd.at h0
    have e : vd (fun j => match w.cell? ⟨b, o + j, none⟩ with | some (.int _ z) => z | _ => 0) n = vd d n := vd_congr (fun j hj => by
      have := h.rd.cell hj
      simp only [this])
    show (vd _ n).toNat = V
    rw [e, h.val]; simp
/-- The lowest digit tells whether a number is even. -/
theorem Dn.par {w x n d V} (h : Dn w x n d V) (hn : 0 < n) : (d 0 % 2 = 0 ↔ V % 2 = 0) := by
  obtain ⟨m, rfl⟩ : ∃ m, n = m + 1 := ⟨n - 1, by omega⟩
  have h1 := vd_cons d 0 m
  rw [sh_zero, h.val] at h1
  omega
/-- Half of a number, digit by digit. -/
theorem half_step {D f : Nat → Int} {k : Nat} {b0 b b' v : Int} (h : 2 * vd D k = vd f k - b0 + b * pd k) (hv : 2 * v = f k - b + b' * 4294967296) (D' : Nat → Int) (hD : ∀ j, j < k → D' j = D j) (hk : D' k = v) : 2 * vd D' (k + 1) = vd f (k + 1) - b0 + b' * pd (k + 1) := by
  rw [vd_succ, vd_succ, pd_succ, vd_congr hD, hk]
  grind

set_option maxRecDepth 100000 in
set_option maxHeartbeats 2000000 in
theorem rhalf_c {w : World} {x : Option Addr} {n c : Nat} {f : Nat → Int} {A : Nat} (ha : Dn w x n f A) (hn : n ≤ 1048576) (hA : A % 2 = 0) (hA0 : 0 < A) :
    Calls Try.prog 68 #[.slice x n c] w fun e w' => ∃ z k c' d, e = .returned (.slice z k c') ∧ Below w.heap.size w w' ∧ Hid (k ≤ n ∧ Dn w' z k d (A / 2)) := by
  have hn0 := ha.pos hA0
  have hpar := (ha.par hn0).2 hA
  have HA := hid ha; have HPar := hid hpar
  clear ha hpar
  go_enter Try.func68, Try.ntmps68
  go_wp2_with (at_make; refine wpList_make_blk .u64 w rfl (.tmp 7) (.tmp 7) 64 rfl 63 8 Try.underlying64 Try.infoU64 .i64 .i64 n n n rfl rfl rfl rfl (by omega) (by unfold maxLen; omega) ?_; intro wa hba hbela)
  go_loopw [11] (fun t wr => ∃ (k : Nat) (Q : Nat → Int), k ≤ n ∧ t = .int .i64 k ∧ Below w.heap.size w wr ∧ Blk .u64 63 wr w.heap.size n Q ∧ Hid (Dg Q n) ∧ Hid (2 * vd Q k = vd f k - f 0 % 2 + (ext f n k % 2) * pd k)) (fun t _ => n - (intOf t).toNat)
  case atStart => exact ⟨0, fun _ => 0, by omega, rfl, hbela, hba, fun j _ => ⟨Int.le_refl 0, show (0 : Int) < 4294967296 by decide⟩, hid (by rw [ext_in _ _ _ hn0]; simp [vd, pd]; omega)⟩
  case round =>
    clear hba hbela
    obtain ⟨k, Q, hk, rfl, hbel, hbl, HDg, HV⟩ := hrel
    by_cases hlt : k < n
    · have hr := HA.out.rd
      obtain ⟨b, o, rfl⟩ := hr.at (by omega)
      obtain ⟨y, hy⟩ : ∃ y, f k = y := ⟨_, rfl⟩
      have hcell : wr.cell? ⟨b, o + k, none⟩ = some (.int .u64 y) := by rw [← hy]; exact (hr.below hbel (Nat.le_refl _)).cell hlt
      obtain ⟨y0, y1⟩ := HA.out.dg k hlt
      rw [hy] at y0 y1
      have hcz := hbl.cell (j := k) hlt
      have hfz := hbl.frozen k
      have hbb : b ≠ w.heap.size := by have := hr.und (by omega) _ rfl; simp at this; omega
      have HX := hid (show ext f n k = y from (ext_in _ _ _ hlt).trans hy)
      have HY := hid hy
      by_cases hlt2 : k + 1 < n
      · obtain ⟨u, hu⟩ : ∃ u, f (k + 1) = u := ⟨_, rfl⟩
        have hcelu : wr.cell? ⟨b, o + (k + 1), none⟩ = some (.int .u64 u) := by rw [← hu]; exact (hr.below hbel (Nat.le_refl _)).cell hlt2
        obtain ⟨u0, u1⟩ := HA.out.dg (k + 1) hlt2
        rw [hu] at u0 u1
        have HU := hid (show ext f n (k + 1) = u from (ext_in _ _ _ hlt2).trans hu)
        obtain ⟨s, hs⟩ : ∃ s, y / 2 + u % 2 * 2147483648 = s := ⟨_, rfl⟩
        have hst := half_step (D' := upd (upd Q k (y / 2)) k s) (v := s) (b' := u % 2) HV.out (by rw [HX.out, hy]; omega) (fun j hj => by rw [upd_other _ _ _ _ (by omega), upd_other _ _ _ _ (by omega)]) (upd_same _ _ _)
        have HSt := hid hst; have HS := hid hs
        have hbl2 := hbl.set k (y / 2)
        have hcz2 := hbl2.cell (j := k) hlt
        rw [upd_same] at hcz2
        have hfz2 := hbl2.frozen k
        have hcu2 : (wr.setCell ⟨w.heap.size, k, none⟩ (.int .u64 (y / 2))).cell? ⟨b, o + (k + 1), none⟩ = some (.int .u64 u) := by
          rw [World.cell?_setCell_other _ _ _ _ (fun he => hbb (congrArg Addr.block he).symm)]; exact hcelu
        have HBl := hid hbl2
        clear hst hy hu hr hbl2 hs
        go_wp2_with fail
        go_region
        all_goals go_wp2
        go_roundw
        case rel =>
          refine ⟨k + 1, _, by omega, by go_num, ?_, (HBl.out.set _ _).drew, (HDg.out.upd ⟨?_, ?_⟩).upd ⟨?_, ?_⟩, hid ?_⟩
          · exact below_only hbel ((((Only.refl _ _).setCell _ _ _).setCell _ _ _).drew) (Nat.le_refl _) hbel.size
          · omega
          · omega
          · omega
          · omega
          · rw [HU.out]; have e := HSt.out; rw [← HS.out] at e; exact e
        case measure => simp [intOf]; omega
      · have HU := hid (show ext f n (k + 1) = 0 from ext_out _ _ _ (by omega))
        have hst := half_step (D' := upd Q k (y / 2)) (v := y / 2) (b' := 0) HV.out (by rw [HX.out, hy]; omega) (fun j hj => by rw [upd_other _ _ _ _ (by omega)]) (upd_same _ _ _)
        have HSt := hid hst
        clear hst hy hr
        go_wp2
        go_roundw
        case rel =>
          refine ⟨k + 1, _, by omega, by go_num, ?_, hbl.set _ _, HDg.out.upd ⟨?_, ?_⟩, hid ?_⟩
          · exact below_only hbel ((Only.refl _ _).setCell _ _ _) (Nat.le_refl _) hbel.size
          · omega
          · omega
          · rw [HU.out]; exact HSt.out
        case measure => simp [intOf]; omega
    · obtain rfl : k = n := by omega
      go_wp2_with fail
      refine (low_c (some ⟨w.heap.size, 0, none⟩) k k Q wr (Nat.le_refl _) (by omega) (hbl.rd0 (Nat.le_refl _)) (fun h => by cases h)).mono ?_
      rintro e w2 ⟨rfl, k1, hk1, hz, hfm, rfl⟩
      have HZ2 := hid hz; have HFM := hid hfm
      clear hz hfm
      go_wp2
      go_ret
      refine ⟨_, k1, _, Q, rfl, hbel, hk1, (hbl.rd0 (Nat.le_refl _)).take hk1, HDg.out.mono hk1, HFM.out, ?_⟩
      rw [trim_vald hk1 HZ2.out]
      have h1 := HV.out
      rw [ext_out _ _ _ (Nat.le_refl _), HPar.out, HA.out.val] at h1
      omega
end Go.Proofs.Ytllpllebmknmpaa
namespace Go.Proofs.Ytllpllebmknmpaa
open Go.RowKit

theorem twos_few {w x n d A} {a k : Nat} (h : Dn w x n d A) (ha : a * 2 ^ k = A) (h0 : 0 < a) : k < 32 * n := by
  have h1 := vd_lt h.dg
  rw [h.val, pd_pow] at h1
  have h2 : A < 2 ^ (32 * n) := by exact_mod_cast h1
  apply Nat.lt_of_not_le; intro hge
  have h3 : 2 ^ (32 * n) ≤ 2 ^ k := Nat.pow_le_pow_right (by decide) hge
  have h4 : 1 * 2 ^ k ≤ a * 2 ^ k := Nat.mul_le_mul_right _ h0
  omega
theorem half_half {a k A : Nat} (h : a * 2 ^ k = A) (ha : a % 2 = 0) : a / 2 * 2 ^ (k + 1) = A := by
  rw [Nat.pow_succ, ← h]
  have : a = a / 2 * 2 := by omega
  generalize a / 2 = u at *
  subst this
  rw [Nat.mul_assoc, Nat.mul_comm (2 ^ k) 2]
set_option maxRecDepth 100000 in
set_option maxHeartbeats 8000000 in
theorem rgcd_c {w : World} {x : Option Addr} {n c : Nat} {f : Nat → Int} {A : Nat} {y : Option Addr} {m e : Nat} {g : Nat → Int} {B : Nat} (ha : Dn w x n f A) (hb : Dn w y m g B) (hn : n ≤ 262144) (hm : m ≤ 262144) :
    Calls Try.prog 59 #[.slice x n c, .slice y m e] w fun e w' => ∃ z k c' d, e = .returned (.slice z k c') ∧ Below w.heap.size w w' ∧ Hid (k ≤ n + m ∧ Dn w' z k d (Nat.gcd A B)) := by
  by_cases hn0 : n = 0
  · subst hn0
    have hA := ha.zero
    have HB := hid hb; have HA0 := hid hA
    clear ha hb hA
    go_enter Try.func59, Try.ntmps59
    go_wp2
    go_ret
    exact ⟨y, m, e, g, rfl, Below.refl _ _, by omega, by rw [HA0.out, Nat.gcd_zero_left]; exact HB.out⟩
  by_cases hm0 : m = 0
  · subst hm0
    have hB := hb.zero
    have HA := hid ha; have HB0 := hid hB
    have hnd : ((n : Int) == 0) = false := by simp; omega
    clear ha hb hB
    go_enter Try.func59, Try.ntmps59
    go_wp2
    go_ret
    exact ⟨x, n, c, f, rfl, Below.refl _ _, by omega, by rw [HB0.out, Nat.gcd_zero_right]; exact HA.out⟩
  have hnd : ((n : Int) == 0) = false := by simp; omega
  have hmd : ((m : Int) == 0) = false := by simp; omega
  have HAp := hid (ha.pos' (by omega)); have HBp := hid (hb.pos' (by omega))
  have HA := hid ha; have HB := hid hb
  clear ha hb
  go_enter Try.func59, Try.ntmps59
  go_wp2
  go_loopw [0, 1, 5] (fun u v t wr => ∃ (za : Option Addr) (na ca a : Nat) (fa : Nat → Int) (zb : Option Addr) (nb cb b : Nat) (fb : Nat → Int) (k : Nat), u = .slice za na ca ∧ v = .slice zb nb cb ∧ t = .int .i64 (k : Int) ∧ na ≤ n ∧ nb ≤ m ∧ k ≤ 32 * n ∧ Hid (Below w.heap.size w wr) ∧ Hid (Dn wr za na fa a) ∧ Hid (Dn wr zb nb fb b) ∧ Hid (0 < a ∧ 0 < b ∧ a * 2 ^ k = A ∧ Nat.gcd a b * 2 ^ k = Nat.gcd A B)) (fun _ _ t _ => 32 * n + 1 - (intOf t).toNat)
  case atStart => exact ⟨x, n, c, A, f, y, m, e, B, g, 0, rfl, rfl, rfl, by omega, by omega, by omega, Below.refl _ _, HA.out, HB.out, HAp.out, HBp.out, by simp, by simp⟩
  case round =>
    obtain ⟨za, na, ca, a, fa, zb, nb, cb, b, fb, k, rfl, rfl, rfl, hna, hnb, hk, HW, HDa, HDb, HV⟩ := hrel
    have hna0 := HDa.out.pos HV.out.1
    have hnb0 := HDb.out.pos HV.out.2.1
    have hkk := twos_few HA.out HV.out.2.2.1 HV.out.1
    obtain ⟨ba, oa, rfl⟩ := HDa.out.rd.at hna0
    obtain ⟨bb, ob, rfl⟩ := HDb.out.rd.at hnb0
    have hca := HDa.out.rd.cell hna0
    have hcb := HDb.out.rd.cell hnb0
    obtain ⟨xa, hxa⟩ : ∃ t, fa 0 = t := ⟨_, rfl⟩
    obtain ⟨xb, hxb⟩ : ∃ t, fb 0 = t := ⟨_, rfl⟩
    obtain ⟨xa0, xa1⟩ := HDa.out.dg 0 hna0
    obtain ⟨xb0, xb1⟩ := HDb.out.dg 0 hnb0
    have hpa := HDa.out.par hna0
    have hpb := HDb.out.par hnb0
    rw [hxa] at hca xa0 xa1 hpa
    rw [hxb] at hcb xb0 xb1 hpb
    rw [Nat.add_zero] at hca hcb
    clear hxa hxb
    by_cases hev : a % 2 = 0 ∧ b % 2 = 0
    · have hea : xa % 2 = 0 := hpa.2 hev.1
      have heb : xb % 2 = 0 := hpb.2 hev.2
      have HE := hid hev
      clear hev hpa hpb
      go_wp2_with fail
      refine (rhalf_c HDa.out (by omega) HE.out.1 HV.out.1).mono ?_
      rintro e w2 ⟨z2, k2, c2, d2, rfl, hb2, H2⟩
      have HB2 := hid hb2
      clear hb2
      go_wp2_with fail
      refine (rhalf_c (HDb.out.below HB2.out) (by omega) HE.out.2 HV.out.2.1).mono ?_
      rintro e w3 ⟨z3, k3, c3, d3, rfl, hb3, H3⟩
      have HB3 := hid hb3
      have hk2 := H2.out.1; have hk3 := H3.out.1
      clear hb3
      go_wp2
      go_roundw
      case rel =>
        refine ⟨z2, k2, c2, a / 2, d2, z3, k3, c3, b / 2, d3, k + 1, rfl, rfl, by go_num, by omega, by omega, by omega, HW.out.trans ((HB2.out.trans (HB3.out.mono HB2.out.size)).mono HW.out.size), H2.out.2.below HB3.out, H3.out.2, ?_, ?_, half_half HV.out.2.2.1 HE.out.1, ?_⟩
        · have := HE.out; have := HV.out.1; omega
        · have := HE.out; have := HV.out.2.1; omega
        · rw [← HV.out.2.2.2, gcd_half2 HE.out.1 HE.out.2, Nat.pow_succ, Nat.mul_assoc, Nat.mul_comm 2 (2 ^ k)]
      case measure => simp [intOf]; omega
    · have hodd : a % 2 = 1 ∨ b % 2 = 1 := by omega
      have HOd := hid hodd
      have hcase : (xa % 2 == 0) = false ∨ (xa % 2 = 0 ∧ (xb % 2 == 0) = false) := by
        by_cases h1 : xa % 2 = 0
        · right; refine ⟨h1, by simp; intro h2; exact hev ⟨hpa.1 h1, hpb.1 h2⟩⟩
        · exact .inl (by simp; exact h1)
      obtain ⟨g0, hg0⟩ : ∃ g0, Nat.gcd a b = g0 := ⟨_, rfl⟩
      have HG0 := hid hg0; have HG1 : Hid (g0 * 2 ^ k = Nat.gcd A B) := by rw [← hg0]; exact HV.out.2.2.2
      clear hev hpa hpb hodd hg0
      rcases hcase with hcd | ⟨hcd, hcd2⟩
      all_goals
        go_wp2
        go_loopw [0, 1] (fun u v wr => ∃ (za : Option Addr) (na ca a : Nat) (fa : Nat → Int) (zb : Option Addr) (nb cb b : Nat) (fb : Nat → Int), u = .slice za na ca ∧ v = .slice zb nb cb ∧ na ≤ n + m ∧ nb ≤ n + m ∧ Hid (Below w.heap.size w wr) ∧ Hid (Dn wr za na fa a) ∧ Hid (Dn wr zb nb fb b) ∧ Hid (0 < b ∧ (a % 2 = 1 ∨ b % 2 = 1) ∧ Nat.gcd a b = g0)) (fun u v wr => dOf wr u + dOf wr v)
        case atStart => exact ⟨_, na, ca, a, fa, _, nb, cb, b, fb, rfl, rfl, by omega, by omega, HW.out, HDa.out, HDb.out, HV.out.2.1, HOd.out, HG0.out⟩
        case round =>
          clear hcd HDa HDb HW hca hcb HOd HG0 HV
          obtain ⟨za, na, ca, a, fa, zb, nb, cb, b, fb, rfl, rfl, hna, hnb, HW, HDa, HDb, HV⟩ := hrel
          obtain ⟨wr1, hwr⟩ : ∃ x : World, x = wr := ⟨wr, rfl⟩; subst hwr
          by_cases hz : na = 0
          · subst hz
            have ha0 := HDa.out.zero
            have hbg : b = g0 := by have := HV.out.2.2; rw [ha0, Nat.gcd_zero_left] at this; exact this
            have HBG := hid hbg
            clear ha0 hbg
            go_wp2_with fail
            refine (rshl_c zb nb cb (k / 32) k ((k % 32 : Nat) : Int) fb _ (by omega) (by omega) (by omega) (by omega) (by omega) HDb.out.rd HDb.out.dg).mono ?_
            rintro e w9 ⟨z9, k9, c9, d9, rfl, hb9, hr9, hk9, hd9, hf9, hv9⟩
            have hdn : Dn w9 z9 k9 d9 (Nat.gcd A B) := ⟨hr9, hd9, hf9, by
              rw [hv9, HDb.out.val, HBG.out, ← HG1.out, pd_pow, ← Int.pow_add, show ((k % 32 : Nat) : Int).toNat + 32 * (k / 32) = k by omega]
              simp⟩
            have hle := hdn.len (HA.out.below (HW.out.trans (hb9.mono HW.out.size))) (Nat.le_of_dvd HAp.out (Nat.gcd_dvd_left _ _))
            have H9 := hid hdn; have HB9 := hid hb9
            clear hdn hb9 hr9 hd9 hf9 hv9
            go_wp2
            go_ret
            exact ⟨z9, k9, c9, d9, rfl, HW.out.trans (HB9.out.mono HW.out.size), by omega, H9.out⟩
          · have hz0 : 0 < na := by omega
            have hzd : decide (0 < na) = true := decide_eq_true hz0
            have ha0 := HDa.out.pos' (by omega)
            have HA0 := hid ha0
            clear ha0
            go_wp2
            go_loopw [0] (fun u wr => ∃ (zc : Option Addr) (nc cc c : Nat) (fc : Nat → Int), u = .slice zc nc cc ∧ nc ≤ n + m ∧ Hid (Below wr1.heap.size wr1 wr) ∧ Hid (Dn wr zc nc fc c) ∧ Hid (0 < c ∧ c ≤ a ∧ (c % 2 = 1 ∨ b % 2 = 1) ∧ Nat.gcd c b = g0)) (fun u wr => dOf wr u)
            case atStart => exact ⟨za, na, ca, a, fa, rfl, hna, Below.refl _ _, HDa.out, HA0.out, Nat.le_refl _, HV.out.2⟩
            case round =>
              obtain ⟨zc, nc, cc, c, fc, rfl, hnc, HW2, HDc, HV2⟩ := hrel
              obtain ⟨wr2, hwr⟩ : ∃ x : World, x = wr := ⟨wr, rfl⟩; subst hwr
              have hnc0 := HDc.out.pos HV2.out.1
              obtain ⟨bc, oc, rfl⟩ := HDc.out.rd.at hnc0
              have hcc := HDc.out.rd.cell hnc0
              obtain ⟨xc, hxc⟩ : ∃ t, fc 0 = t := ⟨_, rfl⟩
              obtain ⟨xc0, xc1⟩ := HDc.out.dg 0 hnc0
              have hpc := HDc.out.par hnc0
              rw [hxc] at hcc xc0 xc1 hpc
              rw [Nat.add_zero] at hcc
              clear hxc
              by_cases hec : c % 2 = 0
              · have hec' : xc % 2 = 0 := hpc.2 hec
                have HE := hid hec
                clear hec hpc
                go_wp2_with fail
                refine (rhalf_c HDc.out (by omega) HE.out HV2.out.1).mono ?_
                rintro e w4 ⟨z4, k4, c4, d4, rfl, hb4, H4⟩
                have HB4 := hid hb4
                have hk4 := H4.out.1
                clear hb4
                go_wp2
                go_roundw
                case rel =>
                  have h1 := HV2.out.1; have h2 := HV2.out.2.1; have h3 := HE.out; have h4 := HV2.out.2.2.1
                  exact ⟨z4, k4, c4, c / 2, d4, rfl, by omega, HW2.out.trans (HB4.out.mono HW2.out.size), H4.out.2, by omega, by omega, by omega, (gcd_halfl h3 (by omega)).trans HV2.out.2.2.2⟩
                case measure =>
                  show dOf w4 (.slice z4 k4 c4) < dOf wr2 (.slice _ nc cc)
                  rw [H4.out.2.dOf, HDc.out.dOf]
                  have := HV2.out.1; omega
              · have hec' : (xc % 2 == 0) = false := by simp; intro h; exact hec (hpc.1 h)
                have HE := hid (show c % 2 = 1 by omega)
                clear hec hpc
                have HDb2 := hid (HDb.out.below HW2.out)
                go_wp2
                go_loopw [1] (fun v wr => ∃ (ze : Option Addr) (ne ce e : Nat) (fe : Nat → Int), v = .slice ze ne ce ∧ ne ≤ n + m ∧ Hid (Below wr2.heap.size wr2 wr) ∧ Hid (Dn wr ze ne fe e) ∧ Hid (0 < e ∧ e ≤ b ∧ Nat.gcd c e = g0)) (fun v wr => dOf wr v)
                case atStart => exact ⟨zb, nb, cb, b, fb, rfl, hnb, Below.refl _ _, HDb2.out, HV.out.1, Nat.le_refl _, HV2.out.2.2.2⟩
                case round =>
                  obtain ⟨ze, ne, ce, e', fe, rfl, hne, HW3, HDe, HV3⟩ := hrel
                  obtain ⟨wr3, hwr⟩ : ∃ x : World, x = wr := ⟨wr, rfl⟩; subst hwr
                  have hne0 := HDe.out.pos HV3.out.1
                  obtain ⟨be, oe, rfl⟩ := HDe.out.rd.at hne0
                  have hce := HDe.out.rd.cell hne0
                  obtain ⟨xe, hxe⟩ : ∃ t, fe 0 = t := ⟨_, rfl⟩
                  obtain ⟨xe0, xe1⟩ := HDe.out.dg 0 hne0
                  have hpe := HDe.out.par hne0
                  rw [hxe] at hce xe0 xe1 hpe
                  rw [Nat.add_zero] at hce
                  clear hxe hcc
                  by_cases hee : e' % 2 = 0
                  · have hee' : xe % 2 = 0 := hpe.2 hee
                    have HEe := hid hee
                    clear hee hpe
                    go_wp2_with fail
                    refine (rhalf_c HDe.out (by omega) HEe.out HV3.out.1).mono ?_
                    rintro e w5 ⟨z5, k5, c5, d5, rfl, hb5, H5⟩
                    have HB5 := hid hb5
                    have hk5 := H5.out.1
                    clear hb5
                    go_wp2
                    go_roundw
                    case rel =>
                      have h1 := HV3.out.1; have h2 := HV3.out.2.1; have h3 := HEe.out
                      exact ⟨z5, k5, c5, e' / 2, d5, rfl, by omega, HW3.out.trans (HB5.out.mono HW3.out.size), H5.out.2, by omega, by omega, (gcd_halfr HE.out h3).trans HV3.out.2.2⟩
                    case measure =>
                      show dOf w5 (.slice z5 k5 c5) < dOf wr3 (.slice _ ne ce)
                      rw [H5.out.2.dOf, HDe.out.dOf]
                      have := HV3.out.1; omega
                  · have hee' : (xe % 2 == 0) = false := by simp; intro h; exact hee (hpe.1 h)
                    have HEe := hid (show e' % 2 = 1 by omega)
                    clear hee hpe
                    have HDc3 := hid (HDc.out.below HW3.out)
                    have HWs := hid (HW.out.trans ((HW2.out.trans (HW3.out.mono HW2.out.size)).mono HW.out.size))
                    go_wp2_with fail
                    refine (rcmp_c _ _ nc ne cc ce fc fe _ (by omega) (by omega) HDc3.out.rd HDe.out.rd HDc3.out.dg HDe.out.dg HDc3.out.fm HDe.out.fm).mono ?_
                    rintro e w6 ⟨⟨q6, hq6⟩, c6, rfl, hord⟩
                    have hb6 := drewN_bel hq6
                    rw [HDc3.out.val, HDe.out.val] at hord
                    have HDc6 := hid (HDc3.out.below hb6); have HDe6 := hid (HDe.out.below hb6); have HW6 := hid (HWs.out.trans (hb6.mono HWs.out.size))
                    clear hq6 hb6
                    by_cases hlt : c < e'
                    · have hsg : decide (c6 < 0) = true := by
                        rcases hord with ⟨h1, h2⟩ | ⟨h1, h2⟩ | ⟨h1, h2⟩ <;> subst h1 <;> first | rfl | (exfalso; omega)
                      clear hord
                      go_wp2_with fail
                      refine (dSubO_c HDe6.out HDc6.out (by omega) (by omega) (by omega)).mono ?_
                      rintro e w7 ⟨z7, k7, c7, d7, rfl, hb7, H7⟩
                      have HB7 := hid hb7
                      have hk7 := H7.out.1
                      clear hb7 hsg
                      go_wp2
                      go_roundw
                      case rel =>
                        refine ⟨z7, k7, c7, e' - c, d7, _, nc, cc, c, fc, rfl, rfl, by omega, hnc, HW6.out.trans (HB7.out.mono HW6.out.size), H7.out.2.1, HDc6.out.below HB7.out, HV2.out.1, .inr HE.out, ?_⟩
                        rw [gcd_take (by omega), Nat.gcd_comm]; exact HV3.out.2.2
                      case measure =>
                        show dOf w7 (.slice z7 k7 c7) + dOf w7 (.slice _ nc cc) < dOf wr1 (.slice za na ca) + dOf wr1 (.slice zb nb cb)
                        rw [H7.out.2.1.dOf, (HDc6.out.below HB7.out).dOf, HDa.out.dOf, HDb.out.dOf]
                        have h1 := HV2.out; have h2 := HV3.out; omega
                    · have hsg : decide (c6 < 0) = false := by
                        rcases hord with ⟨h1, h2⟩ | ⟨h1, h2⟩ | ⟨h1, h2⟩ <;> subst h1 <;> first | rfl | (exfalso; omega)
                      clear hord
                      go_wp2_with fail
                      refine (dSubO_c HDc6.out HDe6.out (by omega) (by omega) (by omega)).mono ?_
                      rintro e w7 ⟨z7, k7, c7, d7, rfl, hb7, H7⟩
                      have HB7 := hid hb7
                      have hk7 := H7.out.1
                      clear hb7 hsg
                      go_wp2
                      go_roundw
                      case rel =>
                        refine ⟨z7, k7, c7, c - e', d7, _, ne, ce, e', fe, rfl, rfl, by omega, hne, HW6.out.trans (HB7.out.mono HW6.out.size), H7.out.2.1, HDe6.out.below HB7.out, HV3.out.1, .inr HEe.out, ?_⟩
                        rw [gcd_take (by omega)]; exact HV3.out.2.2
                      case measure =>
                        show dOf w7 (.slice z7 k7 c7) + dOf w7 (.slice _ ne ce) < dOf wr1 (.slice za na ca) + dOf wr1 (.slice zb nb cb)
                        rw [H7.out.2.1.dOf, (HDe6.out.below HB7.out).dOf, HDa.out.dOf, HDb.out.dOf]
                        have h1 := HV2.out; have h2 := HV3.out; omega
end Go.Proofs.Ytllpllebmknmpaa
namespace Go.Proofs.Ytllpllebmknmpaa
open Go.RowKit

theorem fromD_c {w : World} {ao : Option Addr} {n cap : Nat} {f : Nat → Int} (hn : n ≤ 32768) (hr : Rd .u64 w ao n f) (hf : Lm f n) :
    Calls Try.prog 60 #[.slice ao n cap] w fun e w' => ∃ z k c d, e = .returned (.slice z k c) ∧ Below w.heap.size w w' ∧ Hid (k ≤ 2 * n ∧ Dn w' z k d (vf f n).toNat) :=
  (from_c ao n cap f w (by omega) hr hf).mono (fun _ _ ⟨z, k, c, h1, h2, h3, h4, _, h5, h6, h7⟩ => ⟨z, k, c, _, h1, h2, h4, h3, h5, h6, by rw [h7]; have := vf_nonneg hf; omega⟩)
end Go.Proofs.Ytllpllebmknmpaa
namespace Go.Proofs.Ytllpllebmknmpaa
open Go.RowKit

/-- A whole number of the reference: sign and digits. -/
structure Zn (w : World) (s : Bool) (x : Option Addr) (n : Nat) (d : Nat → Int) (v : Int) : Prop where
  dn : Dn w x n d v.natAbs
  sgn : v = sg s v.natAbs
  pos : s = true → 0 < n
theorem Zn.below {w w' s x n d v} (h : Zn w s x n d v) (hb : Below w.heap.size w w') : Zn w' s x n d v := ⟨h.dn.below hb, h.sgn, h.pos⟩
theorem Zn.alloc {w s x n d v} (h : Zn w s x n d v) (o : Obj) : Zn (w.alloc o) s x n d v := ⟨h.dn.alloc o, h.sgn, h.pos⟩
theorem Zn.of {w z k d V} {r s : Bool} (h : Dn w z k d V) (hr : r = (s && decide (0 < k))) : Zn w r z k d (sg s V) := by
  refine ⟨by rw [sg_natAbs]; exact h, ?_, fun h => by rw [hr] at h; simp at h; exact h.2⟩
  rw [sg_natAbs]
  rcases Nat.eq_zero_or_pos k with h0 | h0
  · subst h0
    have := h.zero
    subst this
    cases s <;> cases r <;> rfl
  · have : r = s := by rw [hr]; simp [h0]
    rw [this]
end Go.Proofs.Ytllpllebmknmpaa
namespace Go.Proofs.Ytllpllebmknmpaa
open Go.RowKit

/-- The error of two numbers. -/
def e2 (s : Bool) (f : Nat → Int) (n : Nat) (t : Bool) (h : Nat → Int) (m : Nat) : Int := if wfB s f n && wfB t h m then 0 else 3
end Go.Proofs.Ytllpllebmknmpaa
namespace Go.Proofs.Ytllpllebmknmpaa
open Go.RowKit

def kv (kind : Nat) (u v : Int) : Int := if kind = 0 then u + v else if kind = 1 then u - v else u * v
end Go.Proofs.Ytllpllebmknmpaa
namespace Go.Proofs.Ytllpllebmknmpaa
open Go.RowKit

theorem vf_one_iff {g : Nat → Int} {m : Nat} (hl : Lm g m) (hf : Fm g m) : vf g m = 1 ↔ m = 1 ∧ g 0 = 1 := by
  constructor
  · intro h
    have h1 : Lm (fun _ => (1 : Int)) 1 := fun j _ => ⟨show (0 : Int) ≤ 1 by decide, show (1 : Int) < 18446744073709551616 by decide⟩
    have h2 : vf (fun _ => (1 : Int)) 1 = 1 := by decide
    obtain ⟨e1, e2⟩ := vf_inj hl h1 hf (.inr (by decide)) (h.trans h2.symm)
    exact ⟨e1, e2 0 (by omega)⟩
  · rintro ⟨rfl, h⟩
    simp [vf, pw, h]
theorem Dn.one_iff {w x k d V} (h : Dn w x k d V) : V = 1 ↔ k = 1 ∧ d 0 = 1 := by
  constructor
  · intro hV
    have h1 : Dg (fun _ => (1 : Int)) 1 := fun j _ => ⟨show (0 : Int) ≤ 1 by decide, show (1 : Int) < 4294967296 by decide⟩
    have h2 : vd (fun _ => (1 : Int)) 1 = 1 := by decide
    obtain ⟨e1, e2⟩ := vd_inj h.dg h1 h.fm (.inr (by decide)) (by rw [h.val, hV, h2]; rfl)
    exact ⟨e1, e2 0 (by omega)⟩
  · rintro ⟨rfl, h0⟩
    have := h.val
    simp [vd, pd, h0] at this
    omega

set_option maxRecDepth 100000 in
set_option maxHeartbeats 8000000 in
theorem qForm_c {w : World} {s : Bool} {x : Option Addr} {n c : Nat} {f : Nat → Int} {y : Option Addr} {m d : Nat} {g : Nat → Int} (h : Rw w x n c f y m d g) (hn : n ≤ 1000) (hm : m ≤ 1000) :
    Calls Try.prog 51 #[.agg #[.bool s, .slice x n c, .slice y m d]] w fun e w' => e = .returned (.bool (rfB s f n g m)) ∧ Below w.heap.size w w' := by
  obtain ⟨b, hb⟩ : ∃ b, rfB s f n g m = b := ⟨_, rfl⟩
  rw [hb]
  have H := hid h; have HB := hid hb
  have hw := below_alloc (Below.refl w.heap.size w) (.cells #[.bool s, .slice x n c, .slice y m d] 66)
  have hcx := bx3_new (Below.refl (w.alloc (.cells #[.bool s, .slice x n c, .slice y m d] 66)).heap.size _)
  clear h hb
  go_enter Try.func51, Try.ntmps51
  go_wp2_with fail
  generalize w.alloc (.cells #[.bool s, .slice x n c, .slice y m d] 66) = w1 at *
  have HW := hid hw; have BX := hid hcx
  clear hw hcx
  obtain ⟨z, x0, x1, x2⟩ := BX.out
  have c1 := rform_c x n c f w1 (by omega) (H.out.rx.below HW.out (Nat.le_refl _))
  cases h1 : fmB f n
  · have hbf : b = false := by rw [← HB.out]; simp [rfB, wfB, h1]
    subst hbf
    rw [h1] at c1
    refine c1.mono ?_
    rintro e w2 ⟨rfl, hw2⟩
    replace hw2 := hw2.symm
    subst hw2
    clear c1
    go_wp2
    go_ret
    exact ⟨rfl, HW.out⟩
  rw [h1] at c1
  refine c1.mono ?_
  rintro e w2 ⟨rfl, hw2⟩
  replace hw2 := hw2.symm
  subst hw2
  clear c1
  have F1 := hid h1
  clear h1
  have c2 := rform_c y m d g w1 (by omega) (H.out.ry.below HW.out (Nat.le_refl _))
  go_wp2_with fail
  cases h2 : fmB g m
  · have hbf : b = false := by rw [← HB.out]; simp [rfB, h2]
    subst hbf
    rw [h2] at c2
    refine c2.mono ?_
    rintro e w2 ⟨rfl, hw2⟩
    replace hw2 := hw2.symm
    subst hw2
    clear c2
    go_wp2
    go_ret
    exact ⟨rfl, HW.out⟩
  rw [h2] at c2
  refine c2.mono ?_
  rintro e w2 ⟨rfl, hw2⟩
  replace hw2 := hw2.symm
  subst hw2
  clear c2
  have F2 := hid h2
  clear h2
  by_cases hm0 : m = 0
  · subst hm0
    have hbf : b = false := by rw [← HB.out]; simp [rfB]
    subst hbf
    go_wp2
    go_ret
    exact ⟨rfl, HW.out⟩
  have hmd : ((m : Int) == 0) = false := by simp; omega
  by_cases hn0 : n = 0
  · subst hn0
    cases s
    · by_cases hm1 : m = 1
      · subst hm1
        have hry := H.out.ry.below HW.out (Nat.le_refl _)
        obtain ⟨bk, o, rfl⟩ := hry.at (by omega)
        have hcell := hry.cell (j := 0) (by omega)
        obtain ⟨t, ht⟩ : ∃ t, g 0 = t := ⟨_, rfl⟩
        rw [ht, Nat.add_zero] at hcell
        have hbf : b = (t == 1) := by
          rw [← HB.out, ← ht]
          have e := vf_one_iff H.out.ly (fm_of F2.out)
          have h0 := vf_nonneg H.out.ly
          have e1 : (vf g 1).toNat = 1 ↔ g 0 = 1 := by
            constructor
            · intro h; exact (e.1 (by omega)).2
            · intro h; have := e.2 ⟨rfl, h⟩; omega
          by_cases hg : g 0 = 1
          · simp [rfB, wfB, vf, hg, fmB, pw]
          · have hg' : ¬ ((vf g 1).toNat = 1) := fun h => hg (e1.1 h)
            have e3 : (vf f 0).toNat.gcd (vf g 1).toNat = (vf g 1).toNat := by simp [vf]
            simp [rfB, e3, hg', hg]
        have HBF := hid hbf
        clear ht hry hbf
        go_wp2
        go_ret
        exact ⟨by rw [HBF.out]; rfl, HW.out⟩
      · have hm1d : ((m : Int) == 1) = false := by simp; omega
        have hbf : b = false := by
          rw [← HB.out]
          have e := vf_one_iff H.out.ly (fm_of F2.out)
          have h0 := vf_nonneg H.out.ly
          have hg' : ¬ ((vf g m).toNat = 1) := fun h => hm1 (e.1 (by omega)).1
          have e3 : (vf f 0).toNat.gcd (vf g m).toNat = (vf g m).toNat := by simp [vf]
          simp [rfB, e3, hg']
        subst hbf
        go_wp2
        go_ret
        exact ⟨rfl, HW.out⟩
    · have hbf : b = false := by rw [← HB.out]; simp [rfB, wfB]
      subst hbf
      go_wp2
      go_ret
      exact ⟨rfl, HW.out⟩
  have hnd : ((n : Int) == 0) = false := by simp; omega
  have HBv : Hid (b = decide ((vf f n).toNat.gcd (vf g m).toNat = 1)) := by
    show b = _
    rw [← HB.out]
    have h3 : wfB s f n = true := (wfB_iff _ _ _).2 ⟨fm_of F1.out, fun _ => by omega⟩
    have h4 : decide (0 < m) = true := by simp; omega
    rw [show rfB s f n g m = (wfB s f n && (fmB g m && (decide (0 < m) && decide ((vf f n).toNat.gcd (vf g m).toNat = 1)))) from rfl, h3, F2.out, h4]
    simp
  have C1 : Hid (∀ W, Below w1.heap.size w1 W → Calls Try.prog 60 #[.slice x n c] W fun e w' => ∃ z k c d, e = .returned (.slice z k c) ∧ Below W.heap.size W w' ∧ Hid (k ≤ 2 * n ∧ Dn w' z k d (vf f n).toNat)) := fun W hW => fromD_c (by omega) ((H.out.below HW.out).below hW).rx H.out.lx
  have C2 : Hid (∀ W, Below w1.heap.size w1 W → Calls Try.prog 60 #[.slice y m d] W fun e w' => ∃ z k c d, e = .returned (.slice z k c) ∧ Below W.heap.size W w' ∧ Hid (k ≤ 2 * m ∧ Dn w' z k d (vf g m).toNat)) := fun W hW => fromD_c (by omega) ((H.out.below HW.out).below hW).ry H.out.ly
  have C3 : Hid (∀ (W : World) (z5 : Option Addr) (k5 c5 : Nat) (d5 : Nat → Int) (z6 : Option Addr) (k6 c6 : Nat) (d6 : Nat → Int), k5 ≤ 2 * n → k6 ≤ 2 * m → Dn W z5 k5 d5 (vf f n).toNat → Dn W z6 k6 d6 (vf g m).toNat → Calls Try.prog 59 #[.slice z5 k5 c5, .slice z6 k6 c6] W fun e w' => ∃ z k c' d, e = .returned (.slice z k c') ∧ Below W.heap.size W w' ∧ Hid (k ≤ k5 + k6 ∧ Dn w' z k d ((vf f n).toNat.gcd (vf g m).toNat))) := fun W z5 k5 c5 d5 z6 k6 c6 d6 h1 h2 h3 h4 => rgcd_c h3 h4 (by omega) (by omega)
  go_wp2_with fail
  go_region_held3 (fun w' => w'.cell? ⟨w.heap.size, 1, none⟩ = some (.slice x n c) ∧ w'.cell? ⟨w.heap.size, 2, none⟩ = some (.slice y m d))
    (refine ⟨?_, ?_⟩ <;> repeat (with_reducible first | assumption | refine kCd ?_ | refine kCb (by assumption) ?_))
    (first
      | (go_at_call 60; with_reducible refine (C1.out _ (by repeat (with_reducible first | assumption | exact Below.refl _ _ | refine Below.drew ?_ | refine kBb (by assumption) ?_))).mono ?_; rintro e v5 ⟨z5, k5, c5, d5, rfl, hb5, H5⟩)
      | (go_at_call 60; with_reducible refine (C2.out _ (by repeat (with_reducible first | assumption | exact Below.refl _ _ | refine Below.drew ?_ | refine kBb (by assumption) ?_))).mono ?_; rintro e v6 ⟨z6, k6, c6, d6, rfl, hb6, H6⟩)
      | (go_at_call 59; with_reducible refine (C3.out _ z5 k5 c5 d5 z6 k6 c6 d6 H5.out.1 H6.out.1 (by repeat (with_reducible first | exact H5.out.2 | refine Dn.drew ?_ | refine kDb (by assumption) ?_)) (by repeat (with_reducible first | exact H6.out.2 | refine Dn.drew ?_ | refine kDb (by assumption) ?_))).mono ?_; rintro e v7 ⟨z7, k7, c7, d7, rfl, hb7, H7⟩))
  all_goals
    have hb : Below w1.heap.size w1 v7 := (by repeat (with_reducible first | assumption | exact Below.refl _ _ | refine Below.drew ?_ | refine kBb (by assumption) ?_))
    have HBw := hid (HW.out.trans (hb.mono HW.out.size))
    have hone := H7.out.2.one_iff
    have hk7 := H7.out.1
    have hk5 := H5.out.1
    have hk6 := H6.out.1
    by_cases hk1 : k7 = 1
    · subst hk1
      have hr7 := H7.out.2.rd
      obtain ⟨bk, o, rfl⟩ := hr7.at (by omega)
      have hcell := hr7.cell (j := 0) (by omega)
      obtain ⟨t, ht⟩ : ∃ t, d7 0 = t := ⟨_, rfl⟩
      rw [ht, Nat.add_zero] at hcell
      rw [ht] at hone
      have hbf : b = (t == 1) := by
        rw [HBv.out]
        by_cases h1 : t = 1
        · simp [hone.2 ⟨rfl, h1⟩, h1]
        · have hx : ¬ ((vf f n).toNat.gcd (vf g m).toNat = 1) := fun h => h1 (hone.1 h).2
          simp [hx, h1]
      have HBF := hid hbf
      clear ht hr7 hbf hone hb
      go_wp2
      go_ret
      exact ⟨by rw [HBF.out]; rfl, HBw.out⟩
    · have hk1d : ((k7 : Int) == 1) = false := by simp; omega
      have hbf : b = false := by
        have hx : ¬ ((vf f n).toNat.gcd (vf g m).toNat = 1) := fun h => hk1 (hone.1 h).1
        rw [HBv.out]; simp [hx]
      subst hbf
      clear hone hb
      go_wp2
      go_ret
      exact ⟨rfl, HBw.out⟩
end Go.Proofs.Ytllpllebmknmpaa
namespace Go.Proofs.Ytllpllebmknmpaa
open Go.RowKit

end Go.Proofs.Ytllpllebmknmpaa
namespace Go.Proofs.Ytllpllebmknmpaa
open Go.RowKit

/-- A rational number of the reference. -/
structure Qn (w : World) (s : Bool) (x : Option Addr) (n : Nat) (d : Nat → Int) (y : Option Addr) (m : Nat) (g : Nat → Int) (q : Rat) : Prop where
  num : Zn w s x n d q.num
  den : Dn w y m g q.den
theorem Qn.below {w w' s x n d y m g q} (h : Qn w s x n d y m g q) (hb : Below w.heap.size w w') : Qn w' s x n d y m g q := ⟨h.num.below hb, h.den.below hb⟩
theorem Qn.alloc {w s x n d y m g q} (h : Qn w s x n d y m g q) (o : Obj) : Qn (w.alloc o) s x n d y m g q := ⟨h.num.alloc o, h.den.alloc o⟩
theorem Ob.zn {w B u0 u1 u2 s x n d v} (h : Ob w B) (hx : Zn w s x n d v) : Zn (((w.setCell ⟨B, 0, none⟩ u0).setCell ⟨B, 1, none⟩ u1).setCell ⟨B, 2, none⟩ u2) s x n d v := ⟨h.dn hx.dn, hx.sgn, hx.pos⟩
theorem Ob.qn {w B u0 u1 u2 s x n d y m g q} (h : Ob w B) (hx : Qn w s x n d y m g q) : Qn (((w.setCell ⟨B, 0, none⟩ u0).setCell ⟨B, 1, none⟩ u1).setCell ⟨B, 2, none⟩ u2) s x n d y m g q := ⟨h.zn hx.num, h.dn hx.den⟩
/-- What a call answers: a rational number of the reference. -/
def QAns (L : Nat) (w w' : World) (e : Ending) (q : Rat) : Prop := ∃ s x n c d y m c' g, e = .returned (.agg #[.bool s, .slice x n c, .slice y m c']) ∧ Below w.heap.size w w' ∧ n ≤ L ∧ m ≤ L ∧ Qn w' s x n d y m g q
theorem qbox1 {w : World} (a0 a1 a2 : Value) (t u : TypeId) :
    Bx3 ((w.alloc (.cells #[a0, a1, a2] t)).alloc (.cells #[.bool false, .slice none 0 0, .slice none 0 0] u)) w.heap.size a0 a1 a2 ∧ Ob ((w.alloc (.cells #[a0, a1, a2] t)).alloc (.cells #[.bool false, .slice none 0 0, .slice none 0 0] u)) (w.heap.size + 1) ∧ Below w.heap.size w ((w.alloc (.cells #[a0, a1, a2] t)).alloc (.cells #[.bool false, .slice none 0 0, .slice none 0 0] u)) := by
  have h3 := ob_new (w.alloc (.cells #[a0, a1, a2] t)) u
  rw [size_alloc1] at h3
  exact ⟨(bx3_at w a0 a1 a2 t).below (below_alloc (Below.refl _ _) _), h3, below_alloc (below_alloc (Below.refl w.heap.size w) _) _⟩

end Go.Proofs.Ytllpllebmknmpaa
namespace Go.Proofs.Ytllpllebmknmpaa
open Go.RowKit

/-- A box that holds a sign and a list, and may be written. -/
structure X2 (w : World) (B : Nat) (s : Bool) (x : Option Addr) (n c : Nat) : Prop where
  z : B < w.heap.size
  c0 : w.cell? ⟨B, 0, none⟩ = some (.bool s)
  c1 : w.cell? ⟨B, 1, none⟩ = some (.slice x n c)
  zf : ∀ o, w.frozen? ⟨B, o, none⟩ = false
theorem X2.below {w w' B s x n c} (h : X2 w B s x n c) (hb : Below w.heap.size w w') : X2 w' B s x n c := by
  obtain ⟨h1, h2⟩ := bcell hb
  exact ⟨Nat.lt_of_lt_of_le h.z hb.size, kCb hb h.c0, kCb hb h.c1, fun o => (h2 _ _ h.z).trans (h.zf o)⟩
/-- A number stored into such a box. -/
theorem X2.put {w B s x n c} (h : X2 w B s x n c) (r : Bool) (y : Option Addr) (m d : Nat) : X2 ((w.setCell ⟨B, 0, none⟩ (.bool r)).setCell ⟨B, 1, none⟩ (.slice y m d)) B r y m d :=
  ⟨by simpa [World.setCell] using h.z, kCo (by decide) (kCe (kI0 h.c0)), kCe (kIs (kI0 h.c1)), fun o => kFs (kFs (h.zf o))⟩
theorem X2.dn {w B s x n c u0 u1 y m d V} (h : X2 w B s x n c) (hx : Dn w y m d V) : Dn ((w.setCell ⟨B, 0, none⟩ u0).setCell ⟨B, 1, none⟩ u1) y m d V :=
  ⟨rd_setne (cell_off (by decide) h.c1) (fun i h => by cases h) (rd_setne h.c0 (fun i h => by cases h) hx.rd), hx.dg, hx.fm, hx.val⟩
theorem X2.zn {w B s x n c u0 u1 t y m d v} (h : X2 w B s x n c) (hx : Zn w t y m d v) : Zn ((w.setCell ⟨B, 0, none⟩ u0).setCell ⟨B, 1, none⟩ u1) t y m d v := ⟨h.dn hx.dn, hx.sgn, hx.pos⟩
theorem X2.drew {w B s x n c} (h : X2 w B s x n c) : X2 w.drew B s x n c := ⟨h.z, h.c0, h.c1, h.zf⟩
end Go.Proofs.Ytllpllebmknmpaa
namespace Go.Proofs.Ytllpllebmknmpaa
open Go.RowKit

end Go.Proofs.Ytllpllebmknmpaa
namespace Go.Proofs.Ytllpllebmknmpaa
open Go.RowKit

end Go.Proofs.Ytllpllebmknmpaa
namespace Go.Proofs.Ytllpllebmknmpaa
open Go.RowKit

end Go.Proofs.Ytllpllebmknmpaa
namespace Go.Proofs.Ytllpllebmknmpaa
open Go.RowKit

/-- To, on a rational number of the reference. -/
theorem qToR_c {w : World} {s : Bool} {x : Option Addr} {n c : Nat} {d : Nat → Int} {y : Option Addr} {m e : Nat} {g : Nat → Int} {q : Rat} (h : Qn w s x n d y m g q) (hn : n ≤ 131072) (hm : m ≤ 131072) :
    Calls Try.prog 46 #[.agg #[.bool s, .slice x n c, .slice y m e]] w fun en w' => ∃ z k c' f z2 k2 c2 f2, en = .returned (.agg #[.bool s, .slice z k c', .slice z2 k2 c2]) ∧ Below w.heap.size w w' ∧ Hid (Rn (n + m) w' s z k c' f z2 k2 c2 f2 q) := by
  refine (qTo_c h.num.dn h.den hn hm).mono ?_
  rintro en w' ⟨z, k, c', f, z2, k2, c2, f2, rfl, h2, h3, h4, h5, h6, _, _⟩
  refine ⟨z, k, c', f, z2, k2, c2, f2, rfl, h2, ⟨h5.rd, h5.lm, (wfB_iff _ _ _).2 ⟨fm_of_wfB h5.wf, fun hs => ?_⟩, h5.cap, h5.nil, ?_⟩, h6, by omega, by omega⟩
  · have h0 := h.num.dn.pos' (h.num.pos hs)
    rcases Nat.eq_zero_or_pos k with hk | hk
    · subst hk
      have hv := h5.val
      rw [wv_false] at hv
      have : (0 : Int) = q.num.natAbs := hv
      omega
    · exact hk
  · have hv := h5.val
    rw [wv_false] at hv
    have hs := h.num.sgn
    cases s
    · rw [wv_false, hv]; exact hs.symm
    · rw [wv_true, hv]; exact hs.symm
end Go.Proofs.Ytllpllebmknmpaa
namespace Go.Proofs.Ytllpllebmknmpaa
open Go.RowKit

end Go.Proofs.Ytllpllebmknmpaa
namespace Go.Proofs.Ytllpllebmknmpaa
open Go.RowKit

theorem zIntE_c {w : World} {z : Int} (h0 : -9223372036854775808 ≤ z) (h1 : z ≤ 9223372036854775807) :
    Calls Try.prog 56 #[.int .i64 z] w fun e w' => ∃ s x n c d, e = .returned (.agg #[.bool s, .slice x n c]) ∧ Below w.heap.size w w' ∧ Hid (n ≤ 2 ∧ Zn w' s x n d z) := by
  refine (zInt_c z w h0 h1).mono ?_
  rintro e w' ⟨s, x, n, c, d, rfl, h⟩
  have h2 := vd_nonneg h.dg
  have hv := h.val
  cases s
  · have hv' : vd d n = z := hv
    exact ⟨false, x, n, c, d, rfl, h.bel, h.le, ⟨h.rd, h.dg, h.fm, by omega⟩, by show z = (z.natAbs : Int); omega, h.sgn⟩
  · have hv' : - vd d n = z := hv
    exact ⟨true, x, n, c, d, rfl, h.bel, h.le, ⟨h.rd, h.dg, h.fm, by omega⟩, by show z = -(z.natAbs : Int); omega, h.sgn⟩

set_option maxRecDepth 100000 in
set_option maxHeartbeats 4000000 in
theorem qInt_c {w : World} {z : Int} (h0 : -9223372036854775808 ≤ z) (h1 : z ≤ 9223372036854775807) :
    Calls Try.prog 47 #[.int .i64 z] w fun e w' => QAns 2 w w' e (z : Rat) := by
  have h2 := ob_new w 102
  have h3 := below_alloc (Below.refl w.heap.size w) (.cells #[.bool false, .slice none 0 0, .slice none 0 0] 102)
  go_enter Try.func47, Try.ntmps47
  go_wp2_with fail
  generalize w.alloc (.cells #[.bool false, .slice none 0 0, .slice none 0 0] 102) = w1 at *
  have OB := hid h2; have HW := hid h3
  clear h2 h3
  refine (zIntE_c h0 h1).mono ?_
  rintro e w2 ⟨s2, x2, n2, c2, d2, rfl, hb, H2⟩
  have HB2 := hid hb
  clear hb
  go_wp2_with fail
  refine (dWord_c (V := 1) (by decide)).mono ?_
  rintro e w3 ⟨z3, k3, c3, d3, rfl, hb, H3⟩
  have HB3 := hid (HB2.out.trans (hb.mono HB2.out.size)); have Z3 := hid (H2.out.2.below hb)
  have hk3 := H3.out.1; have hn2 := H2.out.1
  clear hb
  obtain ⟨hz, z0, z1, z2, zf⟩ := OB.out.below HB3.out
  go_wp2
  refine bodyPost_ret (v := .agg #[.bool s2, .slice x2 n2 c2, .slice z3 k3 c3]) (by simp [results, Try.results47, go_sem, z0, z1, z2]) rfl ⟨s2, x2, n2, c2, d2, z3, k3, c3, d3, rfl, below_st (HW.out.trans (HB3.out.mono HW.out.size)) (by omega), by omega, by omega, (OB.out.below HB3.out).qn ⟨?_, ?_⟩⟩
  · rw [Rat.num_intCast]; exact Z3.out
  · rw [Rat.den_intCast]; exact H3.out.2

set_option maxRecDepth 100000 in
set_option maxHeartbeats 4000000 in
theorem docOfQ_c {w : World} {z : Int} (h0 : -9223372036854775808 ≤ z) (h1 : z ≤ 9223372036854775807) :
    Calls Try.prog 29 #[.int .i64 z] w fun e w' => RatAns 4 w w' e (z : Rat) := by
  have h2 := ob_new w 66
  have h3 := below_alloc (Below.refl w.heap.size w) (.cells #[.bool false, .slice none 0 0, .slice none 0 0] 66)
  go_enter Try.func29, Try.ntmps29
  go_wp2_with fail
  generalize w.alloc (.cells #[.bool false, .slice none 0 0, .slice none 0 0] 66) = w1 at *
  have OB := hid h2; have HW := hid h3
  clear h2 h3
  refine (qInt_c h0 h1).mono ?_
  rintro e w2 ⟨s2, x2, n2, c2, d2, y2, m2, e2, g2, rfl, hb, hl1, hl2, hq⟩
  have HB2 := hid hb; have HQ := hid hq
  clear hb hq
  go_wp2_with fail
  refine (qToR_c HQ.out (by omega) (by omega)).mono ?_
  rintro e w3 ⟨z3, k3, c3, f3, y3, m3, e3, g3, rfl, hb, R3⟩
  have HB3 := hid (HB2.out.trans (hb.mono HB2.out.size))
  clear hb
  obtain ⟨hz, z0, z1, z2, zf⟩ := OB.out.below HB3.out
  go_wp2
  exact bodyPost_ret (v := .agg #[.bool s2, .slice z3 k3 c3, .slice y3 m3 e3]) (by simp [results, Try.results29, go_sem, z0, z1, z2]) rfl ⟨s2, z3, k3, c3, f3, y3, m3, e3, g3, rfl, below_st (HW.out.trans (HB3.out.mono HW.out.size)) (by omega), (OB.out.below HB3.out).rn (R3.out.mono (by omega))⟩
end Go.Proofs.Ytllpllebmknmpaa
namespace Go.Proofs.Ytllpllebmknmpaa
open Go.RowKit

theorem size_st3 (w : World) (B : Nat) (u0 u1 u2 : Value) : (((w.setCell ⟨B, 0, none⟩ u0).setCell ⟨B, 1, none⟩ u1).setCell ⟨B, 2, none⟩ u2).heap.size = w.heap.size := by simp [World.setCell]
theorem Ob.put {w B} (h : Ob w B) (u0 u1 u2 : Value) : Bx3 (((w.setCell ⟨B, 0, none⟩ u0).setCell ⟨B, 1, none⟩ u1).setCell ⟨B, 2, none⟩ u2) B u0 u1 u2 :=
  ⟨by rw [size_st3]; exact h.z, kCo (by decide) (kCo (by decide) (kCe (kI0 h.z0))), kCo (by decide) (kCe (kIs (kI0 h.z1))), kCe (kIs (kIs (kI0 h.z2)))⟩
def kq (kind : Nat) (a b : Rat) : Rat := if kind = 0 then a + b else if kind = 1 then a - b else if kind = 2 then a * b else a / b
end Go.Proofs.Ytllpllebmknmpaa
namespace Go.Proofs.Ytllpllebmknmpaa
open Go.RowKit

end Go.Proofs.Ytllpllebmknmpaa
namespace Go.Proofs.Ytllpllebmknmpaa
open Go.RowKit

end Go.Proofs.Ytllpllebmknmpaa
namespace Go.Proofs.Ytllpllebmknmpaa
open Go.RowKit

end Go.Proofs.Ytllpllebmknmpaa
namespace Go.Proofs.Ytllpllebmknmpaa
open Go.RowKit

theorem Rf.mono {L L' w ao p} (h : Rf L w ao p) (hL : L ≤ L') : Rf L' w ao p := fun j q hj => by
  obtain ⟨b, o, t, e, h1, h2⟩ := h j q hj
  exact ⟨b, o, t, e, h1, h2.mono hL⟩

/-- The cells of numbers. -/
def rcell (t : Nm) : List Value := [.bool t.s, .slice t.x t.n t.c, .slice t.y t.m t.d]
def rcells (l : List Nm) : List Value := l.flatMap rcell
theorem rcells_get {l : List Nm} {j : Nat} {t : Nm} (h : l[j]? = some t) (i : Nat) (hi : i < 3) : (rcells l)[j * 3 + i]? = (rcell t)[i]? := by
  induction l generalizing j with
  | nil => simp at h
  | cons u l ih =>
    have e : rcells (u :: l) = rcell u ++ rcells l := by simp [rcells]
    rw [e]
    cases j with
    | zero =>
      simp at h; subst h
      rw [Nat.zero_mul, Nat.zero_add, List.getElem?_append_left (by show i < 3; exact hi)]
    | succ j =>
      rw [List.getElem?_append_right (by show 3 ≤ _; omega), show (j + 1) * 3 + i - (rcell u).length = j * 3 + i by show (j + 1) * 3 + i - 3 = _; omega]
      exact ih (by simpa using h)
end Go.Proofs.Ytllpllebmknmpaa
namespace Go.Proofs.Ytllpllebmknmpaa
open Go.RowKit

/-- The same outside such a region. -/
theorem wpList_append_one {P : Program} (w0 : World) {ops : Array Oper} {rest : List Oper} {o : Oper} {a : Act} {Q : Exit → Act → World → Prop} (hgd : o.guard = none) (s x : Operand) (t : TypeId)
    (ho : o.op = .call { callee := .builtin .append, args := #[s, x], argTypes := #[t, t] })
    (base : Nat) (e : TypeId) (bytes sz : Nat) (z : Value) (ht : P.underlying t = some (.slice e)) (hi : (P.info? e).map (fun i => (i.zero, i.size, i.bytes)) = some (some z, sz, bytes)) (hzs : z.cells.size = sz) (hsz : 0 < sz) (hzu : NoU z.cells)
    (v : Value) (n : Nat) (xs : List Value) (hs : a.eval s = v) (hown : RowG e sz base w0 v n xs) (c : Array Value) (hx : a.eval x = .slice (some ⟨w0.heap.size, 0, none⟩) 1 1) (hc : c.size = sz) (h1 : ∀ u ∈ c.toList, u.oneCell' = true) (hnu : ∀ u ∈ c.toList, ∀ q, u ≠ .int .u64 q) (hn : n ≤ 1000000) (hby : bytes ≤ 1000) (hbase : base ≤ w0.heap.size)
    (hK : ∀ g cap' w', RowG e sz base w' (.slice (some ⟨g, 0, none⟩) (n + 1) cap') (n + 1) (xs ++ c.toList) → Kp w0 w' → (∀ b0 : World, Below b0.heap.size b0 w0 → b0.heap.size ≤ base → Below b0.heap.size b0 w') → (∀ k, k < w0.heap.size → v.ownBlock ≠ some k → w'.heap[k]? = w0.heap[k]?) → wpList P ops Q rest (a.put o.dst (.slice (some ⟨g, 0, none⟩) (n + 1) cap')) w') : wpList P ops Q (o :: rest) a (w0.alloc (.cells c e)) := by
  obtain ⟨i, hi, hz0, hz1, hz2⟩ := info_parts hi
  have hal := below_alloc (Below.refl w0.heap.size w0) (.cells c e)
  have hblk := heap_alloc_new w0 (.cells c e)
  have hrow := hown.below hal
  refine wpList_append_G (w0.alloc (.cells c e)) hgd s x t ho base e i z sz bytes ht hi hz0 hz1 hz2 hzs hsz hzu v n xs hs hrow ⟨w0.heap.size, 0, none⟩ 1 1 c.toList hx (by simp [hc]) (fun j u hu => ?_) h1 hnu (by decide) (by unfold maxLen; omega) ?_ (by simp; omega) ?_
  · rw [addr_add, Nat.zero_add]
    simp only [World.cell?, hblk]
    simpa using hu
  · have : (n + 1) * bytes ≤ 1000001 * 1000 := Nat.mul_le_mul (by omega) hby
    omega
  · intro g cap' w' hr hgr hkp
    refine hK g cap' w' hr ((Kp.of_below hal).trans hkp) (fun b0 hb hle => ?_) (fun k hk hne => (hgr.block k (by simp; omega) (fun e => hne e.symm)).trans (hal.block k hk))
    have h2 : Below b0.heap.size b0 (w0.alloc (.cells c e)) := hb.trans (hal.mono hb.size)
    exact h2.grown hgr (by have := hb.size; simp; omega) (fun k hk => by have := (hrow.lt k hk).1; omega)
theorem one3 (s : Bool) (x : Option Addr) (n c : Nat) (y : Option Addr) (m d : Nat) : ∀ u ∈ (#[Value.bool s, .slice x n c, .slice y m d] : Array Value).toList, u.oneCell' = true := by
  intro u hu; simp at hu; rcases hu with rfl | rfl | rfl <;> rfl
theorem not3 (s : Bool) (x : Option Addr) (n c : Nat) (y : Option Addr) (m d : Nat) : ∀ u ∈ (#[Value.bool s, .slice x n c, .slice y m d] : Array Value).toList, ∀ q, u ≠ .int .u64 q := by
  intro u hu q; simp at hu; rcases hu with rfl | rfl | rfl <;> simp
theorem nz3 : NoU (Value.agg #[.bool false, .slice none 0 0, .slice none 0 0]).cells := nou_list (l := [Value.bool false, .slice none 0 0, .slice none 0 0]) (not3 false none 0 0 none 0 0)
theorem RowG.drew {e sz base w v n xs} (h : RowG e sz base w v n xs) : RowG e sz base w.drew v n xs := h
theorem Rw.kp {w w' x n c f y m d g} (h : Rw w x n c f y m d g) (hk : Kp w w') : Rw w' x n c f y m d g := ⟨h.rx.kp hk, h.lx, h.cx, h.nx, h.ry.kp hk, h.ly, h.cy, h.ny⟩
def putN (T : Nat → Nm) (i : Nat) (t : Nm) : Nat → Nm := fun j => if j = i then t else T j
theorem putN_at (T : Nat → Nm) (i : Nat) (t : Nm) : putN T i t i = t := by simp [putN]
theorem putN_ne {T : Nat → Nm} {i j : Nat} {t : Nm} (h : j ≠ i) : putN T i t j = T j := by simp [putN, h]
/-- The same of numbers. -/
def rls (i : Nat) (T : Nat → Nm) : List Nm := (List.range i).map T
theorem rls_put (i : Nat) (T : Nat → Nm) (t : Nm) : rcells (rls (i + 1) (putN T i t)) = rcells (rls i T) ++ rcell t := by
  have e : rls (i + 1) (putN T i t) = rls i T ++ [t] := by
    unfold rls
    rw [List.range_succ, List.map_append, List.map_singleton, putN_at]
    congr 1
    apply List.map_congr_left
    intro j hj
    rw [putN_ne (by have := List.mem_range.1 hj; omega)]
  rw [e]; simp [rcells]
theorem rls_get {i j : Nat} {T : Nat → Nm} (h : j < i) : (rls i T)[j]? = some (T j) := by simp [rls, h]
theorem rowg_c3 {e : TypeId} {base i : Nat} {w : World} {ao : Option Addr} {cap : Nat} {T : Nat → Nm} (h : RowG e 3 base w (.slice ao i cap) i (rcells (rls i T))) {j : Nat} (hj : j < i) : ∃ b, ao = some ⟨b, 0, none⟩ ∧ C3 w b (0 + j * 3) (.bool (T j).s) (.slice (T j).x (T j).n (T j).c) (.slice (T j).y (T j).m (T j).d) := by
  rcases h.2 with ⟨hv, h0⟩ | ⟨g, cap', cur, hv, _⟩
  · omega
  · cases hv
    have hc : ∀ q, q < 3 → w.cell? ⟨g, 0 + j * 3 + q, none⟩ = (rcell (T j))[q]? := fun q hq => by
      rw [Nat.zero_add]
      have e1 := rcells_get (rls_get (T := T) hj) q hq
      obtain ⟨u, hu⟩ : ∃ u, (rcell (T j))[q]? = some u := ⟨_, List.getElem?_eq_getElem (by show q < 3; exact hq)⟩
      rw [hu] at e1 ⊢
      exact h.cells e1
    exact ⟨g, rfl, ⟨hc 0 (by decide), hc 1 (by decide), hc 2 (by decide)⟩⟩
end Go.Proofs.Ytllpllebmknmpaa
namespace Go.Proofs.Ytllpllebmknmpaa
open Go.RowKit

theorem twinD_c {w : World} {x : Option Addr} {n c : Nat} {f : Nat → Int} (hr : Rd .u64 w x n f) (hn : n ≤ 17592186044416) (hnil : x = none → n = 0 ∧ c = 0) :
    Calls Try.prog 50 #[.slice x n c] w fun e w' => ∃ z c', e = .returned (.slice z n c') ∧ Below w.heap.size w w' ∧ Hid (Rd .u64 w' z n f ∧ (n ≤ c' ∧ c' ≤ 9223372036854775807) ∧ (z = none → n = 0 ∧ c' = 0)) := by
  refine (twin_c x n c f w (by omega) hr hnil).mono ?_
  rintro e w' ⟨z, c', rfl, h2, h3, h4⟩
  obtain ⟨ao, cap, hv, k1, k2, k3, _, _⟩ := h4.shape
  cases hv
  exact ⟨z, c', rfl, h2, h3, ⟨k1, by unfold maxLen at k3; omega⟩, fun h => by have := k2 h; omega⟩
theorem kRdb {w w' : World} {x : Option Addr} {n : Nat} {f : Nat → Int} (hb : Below w.heap.size w w') (h : Rd .u64 w x n f) : Rd .u64 w' x n f := h.below hb (Nat.le_refl _)
set_option maxRecDepth 100000 in
set_option maxHeartbeats 8000000 in
theorem qTwin_c {w : World} {s : Bool} {x : Option Addr} {n c : Nat} {f : Nat → Int} {y : Option Addr} {m d : Nat} {g : Nat → Int} (h : Rw w x n c f y m d g) (hn : n ≤ 17592186044416) (hm : m ≤ 17592186044416) :
    Calls Try.prog 33 #[.agg #[.bool s, .slice x n c, .slice y m d]] w fun e w' => ∃ z c' z2 c2, e = .returned (.agg #[.bool s, .slice z n c', .slice z2 m c2]) ∧ Below w.heap.size w w' ∧ Hid (Rw w' z n c' f z2 m c2 g) := by
  obtain ⟨h1, h2, h3⟩ := qbox1 (w := w) (.bool s) (.slice x n c) (.slice y m d) 66 66
  have h4 := h.below h3
  clear h
  go_enter Try.func33, Try.ntmps33
  go_wp2_with fail
  generalize (w.alloc (.cells #[.bool s, .slice x n c, .slice y m d] 66)).alloc (.cells #[.bool false, .slice none 0 0, .slice none 0 0] 66) = w1 at *
  have HN := hid h4; have OB := hid h2; have HW := hid h3
  obtain ⟨z, x0, x1, x2⟩ := h1
  obtain ⟨hz, z0, z1, z2, zf⟩ := h2
  clear h3 h4
  have C1 : Hid (∀ W, Below w1.heap.size w1 W → Calls Try.prog 50 #[.slice x n c] W fun e w' => ∃ z c', e = .returned (.slice z n c') ∧ Below W.heap.size W w' ∧ Hid (Rd .u64 w' z n f ∧ (n ≤ c' ∧ c' ≤ 9223372036854775807) ∧ (z = none → n = 0 ∧ c' = 0))) := fun W hW => twinD_c (HN.out.below hW).rx (by omega) HN.out.nx
  have C2 : Hid (∀ W, Below w1.heap.size w1 W → Calls Try.prog 50 #[.slice y m d] W fun e w' => ∃ z c', e = .returned (.slice z m c') ∧ Below W.heap.size W w' ∧ Hid (Rd .u64 w' z m g ∧ (m ≤ c' ∧ c' ≤ 9223372036854775807) ∧ (z = none → m = 0 ∧ c' = 0))) := fun W hW => twinD_c (HN.out.below hW).ry (by omega) HN.out.ny
  go_region_held3 (fun w' => w'.cell? ⟨w.heap.size, 0, none⟩ = some (.bool s) ∧ w'.cell? ⟨w.heap.size, 1, none⟩ = some (.slice x n c) ∧ w'.cell? ⟨w.heap.size, 2, none⟩ = some (.slice y m d) ∧ (w'.cell? ⟨w.heap.size + 1, 0, none⟩).isSome = true ∧ (w'.cell? ⟨w.heap.size + 1, 1, none⟩).isSome = true ∧ (w'.cell? ⟨w.heap.size + 1, 2, none⟩).isSome = true ∧ w'.frozen? ⟨w.heap.size + 1, 0, none⟩ = false ∧ w'.frozen? ⟨w.heap.size + 1, 1, none⟩ = false ∧ w'.frozen? ⟨w.heap.size + 1, 2, none⟩ = false)
    (refine ⟨?_, ?_, ?_, ?_, ?_, ?_, ?_, ?_, ?_⟩ <;> repeat (with_reducible first | assumption | exact zf _ | exact tf _ | exact uf _ | exact kI0 z0 | exact kI0 z1 | exact kI0 z2 | exact kI0 t0 | exact kI0 t1 | exact kI0 t2 | exact kI0 u0 | exact kI0 u1 | exact kI0 u2 | refine kCd ?_ | refine kId ?_ | refine kFd ?_ | refine kCs (by simp only [ne_eq]; omega) ?_ | refine kIs ?_ | refine kFs ?_ | refine kCb (by assumption) ?_ | refine kIb (by assumption) ?_))
    (first
      | (go_at_call 50; with_reducible refine (C1.out _ (by repeat (with_reducible first | assumption | exact Below.refl _ _ | refine Below.drew ?_ | refine kBb (by assumption) ?_))).mono ?_; rintro e v5 ⟨z5, c5, rfl, hb5, H5⟩; have Tt : Ob v5 (w.heap.size + 1) := (by repeat (with_reducible first | exact OB.out | exact Tt | exact Tu | refine Ob.drew ?_ | refine kOb (by assumption) ?_)); obtain ⟨_, t0, t1, t2, tf⟩ := id Tt)
      | (go_at_call 50; with_reducible refine (C2.out _ (by repeat (with_reducible first | assumption | exact Below.refl _ _ | refine Below.drew ?_ | refine kBb (by assumption) ?_))).mono ?_; rintro e v6 ⟨z6, c6, rfl, hb6, H6⟩; have Tu : Ob v6 (w.heap.size + 1) := (by repeat (with_reducible first | exact OB.out | exact Tt | exact Tu | refine Ob.drew ?_ | refine kOb (by assumption) ?_)); obtain ⟨_, u0, u1, u2, uf⟩ := id Tu))
  all_goals
    have D5 : Rd .u64 v6 z5 n f := (by repeat (with_reducible first | exact H5.out.1 | refine Rd.drew ?_ | refine kRdb (by assumption) ?_))
    have hb : Below w1.heap.size w1 v6 := (by repeat (with_reducible first | assumption | exact Below.refl _ _ | refine Below.drew ?_ | refine kBb (by assumption) ?_))
    go_wp2
    exact bodyPost_ret (v := .agg #[.bool s, .slice z5 n c5, .slice z6 m c6]) (by simp [results, Try.results33, go_sem, u0, u1, u2]) rfl ⟨z5, c5, z6, c6, rfl, below_st (HW.out.trans (hb.mono HW.out.size)) (by omega), Tu.rd D5, HN.out.lx, H5.out.2.1, H5.out.2.2, Tu.rd H6.out.1, HN.out.ly, H6.out.2.1, H6.out.2.2⟩

end Go.Proofs.Ytllpllebmknmpaa
namespace Go.Proofs.Ytllpllebmknmpaa
open Go.RowKit

/-- The same number elsewhere. -/
def Sn (t t' : Nm) : Prop := t'.s = t.s ∧ t'.n = t.n ∧ t'.f = t.f ∧ t'.m = t.m ∧ t'.g = t.g
theorem Sn.nfB {t t' : Nm} (h : Sn t t') : nfB t' = nfB t := by
  obtain ⟨h1, h2, h3, h4, h5⟩ := h
  unfold Go.Proofs.Ytllpllebmknmpaa.nfB
  rw [h1, h2, h3, h4, h5]
theorem Rn.sn {L : Nat} {w w' : World} {t t' : Nm} {q : Rat} (h : Rn L w t.s t.x t.n t.c t.f t.y t.m t.d t.g q) (hs : Sn t t') (hr : Rw w' t'.x t'.n t'.c t'.f t'.y t'.m t'.d t'.g) : Rn L w' t'.s t'.x t'.n t'.c t'.f t'.y t'.m t'.d t'.g q := by
  obtain ⟨s, x, n, c, f, y, m, d, g⟩ := t
  obtain ⟨s', x', n', c', f', y', m', d', g'⟩ := t'
  obtain ⟨rfl, rfl, rfl, rfl, rfl⟩ := hs
  exact ⟨⟨hr.rx, hr.lx, h.num.wf, hr.cx, hr.nx, h.num.val⟩, ⟨hr.ry, hr.ly, h.den.wf, hr.cy, hr.ny, h.den.val⟩, h.ln, h.ld⟩

end Go.Proofs.Ytllpllebmknmpaa
namespace Go.Proofs.Ytllpllebmknmpaa
open Go.RowKit

theorem Dn.kp {w w' x n d V} (h : Dn w x n d V) (hk : Kp w w') : Dn w' x n d V := ⟨h.rd.kp hk, h.dg, h.fm, h.val⟩
theorem Qn.kp {w w' s x n d y m g q} (h : Qn w s x n d y m g q) (hk : Kp w w') : Qn w' s x n d y m g q := ⟨⟨h.num.dn.kp hk, h.num.sgn, h.num.pos⟩, h.den.kp hk⟩
end Go.Proofs.Ytllpllebmknmpaa
namespace Go.Proofs.Ytllpllebmknmpaa
open Go.RowKit

theorem afr_sn {X X' : Nat → Nm} : ∀ {r i : Nat}, (∀ j, i ≤ j → j < i + r → Sn (X j) (X' j)) → afr X' r i = afr X r i := by
  intro r
  induction r with
  | zero => intro i _; rfl
  | succ r ih =>
    intro i h
    simp only [afr]
    rw [ih (fun j a b => h j (by omega) (by omega)), (h i (by omega) (by omega)).nfB]
/-- What Twins answers. -/
def TwsAns (w w' : World) (e : Ending) (k : Nat) (X : Nat → Nm) : Prop := ∃ aw cw X', e = .returned (.slice aw k cw) ∧ Below w.heap.size w w' ∧ (k ≤ cw ∧ cw ≤ 9223372036854775807) ∧ Hid (Rl w' aw k X' ∧ ∀ j, j < k → Sn (X j) (X' j))
set_option maxRecDepth 100000 in
set_option maxHeartbeats 4000000 in
theorem forms_c {w : World} {ao : Option Addr} {k cap : Nat} {X : Nat → Nm} (h : Rl w ao k X) (hk : k ≤ 10000) (hl : ∀ j, j < k → (X j).n ≤ 1000 ∧ (X j).m ≤ 1000) :
    Calls Try.prog 34 #[.slice ao k cap] w fun e w' => e = .returned (.bool (afB k X)) ∧ Below w.heap.size w w' := by
  have H := hid h
  clear h
  go_enter Try.func34, Try.ntmps34
  go_wp2_with fail
  go_loopw [7] (fun t wr => ∃ (i : Nat), i ≤ k ∧ t = .int .i64 i ∧ Hid (Below w.heap.size w wr) ∧ Hid (afB k X = afr X (k - i) i)) (fun t _ => k - (intOf t).toNat)
  case atStart => exact ⟨0, by omega, rfl, Below.refl _ _, rfl⟩
  case round =>
    obtain ⟨i, hi, rfl, HB, HT⟩ := hrel
    by_cases hlt : i < k
    · obtain ⟨b, o, rfl, hc, hn, hn1, hn2⟩ := (H.out.below HB.out) i hlt
      obtain ⟨r, hr⟩ : ∃ r, k - i = r + 1 := ⟨k - i - 1, by omega⟩
      have hT : afB k X = (nfB (X i) && afr X r (i + 1)) := by rw [HT.out, hr]; rfl
      have hr2 : k - (i + 1) = r := by omega
      obtain ⟨⟨s, x, n, c, f, y, m, d, g⟩, hTi⟩ : ∃ t, X i = t := ⟨_, rfl⟩
      rw [hTi] at hc hn hn1 hn2 hT
      obtain ⟨x0, x1, x2⟩ := hc
      replace x0 : wr.cell? ⟨b, o + i * 3, none⟩ = some (.bool s) := x0
      replace x1 : wr.cell? ⟨b, o + i * 3 + 1, none⟩ = some (.slice x n c) := x1
      replace x2 : wr.cell? ⟨b, o + i * 3 + 2, none⟩ = some (.slice y m d) := x2
      replace hn : Rw wr x n c f y m d g := hn
      replace hn1 : n ≤ 65536 := hn1
      replace hn2 : m ≤ 65536 := hn2
      have hblk : Below wr.heap.size wr (wr.alloc (.cells #[.bool s, .slice x n c, .slice y m d] 66)) := below_alloc (Below.refl _ _) _
      obtain ⟨hl1, hl2⟩ := hl i hlt
      rw [hTi] at hl1 hl2
      have CF := hid (qForm_c (s := s) (hn.below hblk) hl1 hl2)
      have HTi := hid hT; have HR2 := hid hr2
      have i1 : ((i : Nat) : Int) < ((k : Nat) : Int) := by omega
      clear hT hr2 hTi hr hn hblk hl1 hl2
      cases hf : rfB s f n g m
      · have CF2 := CF
        rw [hf] at CF2
        have HNF : Hid (nfB ⟨s, x, n, c, f, y, m, d, g⟩ = false) := hf
        clear CF hf
        go_wp2_with fail
        refine CF2.out.mono ?_
        rintro e w1 ⟨rfl, hb1⟩
        obtain ⟨_, _, _, _, hb2⟩ := box3 hb1
        go_wp2
        go_ret
        refine ⟨?_, HB.out.trans (hb2.mono HB.out.size)⟩
        rw [HTi.out, HNF.out]; rfl
      · have CF2 := CF
        rw [hf] at CF2
        have HNF : Hid (nfB ⟨s, x, n, c, f, y, m, d, g⟩ = true) := hf
        clear CF hf
        go_wp2_with fail
        refine CF2.out.mono ?_
        rintro e w1 ⟨rfl, hb1⟩
        obtain ⟨_, _, _, _, hb2⟩ := box3 hb1
        have HB2 := hid (HB.out.trans (hb2.mono HB.out.size))
        clear hb1 hb2
        go_wp2
        go_roundw
        case rel =>
          refine ⟨i + 1, by omega, by go_num, HB2.out, ?_⟩
          show _ = _
          rw [HTi.out, HNF.out, HR2.out]; rfl
        case measure => simp [intOf]; omega
    · have e1 : i = k := by omega
      have HTe : Hid (afB k X = true) := by
        show _ = _
        rw [HT.out, e1, Nat.sub_self]; rfl
      have i2 : ¬ (((i : Nat) : Int) < ((k : Nat) : Int)) := by omega
      clear e1 HT
      go_wp2
      go_ret
      refine ⟨?_, HB.out⟩
      rw [HTe.out]; rfl

set_option maxRecDepth 100000 in
set_option maxHeartbeats 4000000 in
theorem twins_c {w : World} {ao : Option Addr} {k cap : Nat} {X : Nat → Nm} (h : Rl w ao k X) (hk : k ≤ 10000) (hl : ∀ j, j < k → (X j).n ≤ 1000 ∧ (X j).m ≤ 1000) :
    Calls Try.prog 14 #[.slice ao k cap] w fun e w' => TwsAns w w' e k X := by
  have H := hid h
  clear h
  go_enter Try.func14, Try.ntmps14
  go_wp2_with fail
  go_loopw [3, 8] (fun ov t wr => ∃ (i : Nat) (T' : Nat → Nm), i ≤ k ∧ t = .int .i64 i ∧ Hid (Below w.heap.size w wr) ∧ Hid (RowG 66 3 w.heap.size wr ov i (rcells (rls i T'))) ∧ Hid (∀ j, j < i → Sn (X j) (T' j) ∧ Rw wr (T' j).x (T' j).n (T' j).c (T' j).f (T' j).y (T' j).m (T' j).d (T' j).g)) (fun _ t _ => k - (intOf t).toNat)
  case atStart => exact ⟨0, X, by omega, rfl, Below.refl _ _, rowG_nil _ _ _ _, fun j hj => by omega⟩
  case round =>
    obtain ⟨i, T', hi, rfl, HB, HRow, HT⟩ := hrel
    by_cases hlt : i < k
    · obtain ⟨b, o, hao, hc, hn, hn1, hn2⟩ := (H.out.below HB.out) i hlt
      subst hao
      obtain ⟨⟨s, x, n, c, f, y, m, d, g⟩, hTi⟩ : ∃ t, X i = t := ⟨_, rfl⟩
      rw [hTi] at hc hn
      obtain ⟨x0, x1, x2⟩ := hc
      replace x0 : wr.cell? ⟨b, o + i * 3, none⟩ = some (.bool s) := x0
      replace x1 : wr.cell? ⟨b, o + i * 3 + 1, none⟩ = some (.slice x n c) := x1
      replace x2 : wr.cell? ⟨b, o + i * 3 + 2, none⟩ = some (.slice y m d) := x2
      have i1 : ((i : Nat) : Int) < ((k : Nat) : Int) := by omega
      obtain ⟨hn10, hm10⟩ := hl i hlt
      rw [hTi] at hn10 hm10
      replace hn : Rw wr x n c f y m d g := hn
      have hb5 := below_alloc (Below.refl wr.heap.size wr) (.cells #[.bool s, .slice x n c, .slice y m d] 66)
      have HN := hid (hn.below hb5); have HTi := hid hTi; have HRow5 := hid (HRow.out.below hb5); have HB5 := hid (HB.out.trans (hb5.mono HB.out.size))
      have HT5 : Hid (∀ j, j < i → Sn (X j) (T' j) ∧ Rw (wr.alloc (.cells #[.bool s, .slice x n c, .slice y m d] 66)) (T' j).x (T' j).n (T' j).c (T' j).f (T' j).y (T' j).m (T' j).d (T' j).g) := fun j hj => ⟨(HT.out j hj).1, (HT.out j hj).2.below hb5⟩
      clear hn hTi hb5 hn1 hn2
      go_wp2_with fail
      clear x0 x1 x2 HB HRow HT
      generalize wr.alloc (.cells #[.bool s, .slice x n c, .slice y m d] 66) = w5 at *
      refine (qTwin_c (s := s) HN.out (Nat.le_trans hn10 (by decide)) (Nat.le_trans hm10 (by decide))).mono ?_
      rintro e w6 ⟨z6, c6, z7, c7, rfl, hb6, HQ⟩
      have HB6 := hid (HB5.out.trans (hb6.mono HB5.out.size)); have HRow6 := hid (HRow5.out.below hb6)
      have HT6 : Hid (∀ j, j < i → Sn (X j) (T' j) ∧ Rw w6 (T' j).x (T' j).n (T' j).c (T' j).f (T' j).y (T' j).m (T' j).d (T' j).g) := fun j hj => ⟨(HT5.out j hj).1, (HT5.out j hj).2.below hb6⟩
      have hsz := HB6.out.size
      clear hb6 HB5 HRow5 HT5 HN
      go_wp2_with (at_builtin; go_must (refine wpList_append_one w6 rfl (.tmp 12) (.tmp 15) 30 rfl w.heap.size 66 56 3 (.agg #[.bool false, .slice none 0 0, .slice none 0 0]) Try.underlying30 Try.infoRat rfl (by decide) nz3 u3 i (rcells (rls i T')) rfl HRow6.out #[.bool s, .slice z6 n c6, .slice z7 m c7] rfl rfl (one3 _ _ _ _ _ _ _) (not3 _ _ _ _ _ _ _) ?p1 (by decide) hsz ?_))
      case p1 => omega
      intro g8 cap8 w8 hr8 hk8 hb8 hg8
      have HB8 := hid (hb8 w HB6.out (Nat.le_refl _))
      have HR8 : Hid (RowG 66 3 w.heap.size w8 (.slice (some ⟨g8, 0, none⟩) (i + 1) cap8) (i + 1) (rcells (rls (i + 1) (putN T' i ⟨s, z6, n, c6, f, z7, m, c7, g⟩)))) := by
        show RowG _ _ _ _ _ _ _
        rw [rls_put]; exact hr8
      have HT8 : Hid (∀ j, j < i + 1 → Sn (X j) (putN T' i ⟨s, z6, n, c6, f, z7, m, c7, g⟩ j) ∧ Rw w8 (putN T' i ⟨s, z6, n, c6, f, z7, m, c7, g⟩ j).x (putN T' i ⟨s, z6, n, c6, f, z7, m, c7, g⟩ j).n (putN T' i ⟨s, z6, n, c6, f, z7, m, c7, g⟩ j).c (putN T' i ⟨s, z6, n, c6, f, z7, m, c7, g⟩ j).f (putN T' i ⟨s, z6, n, c6, f, z7, m, c7, g⟩ j).y (putN T' i ⟨s, z6, n, c6, f, z7, m, c7, g⟩ j).m (putN T' i ⟨s, z6, n, c6, f, z7, m, c7, g⟩ j).d (putN T' i ⟨s, z6, n, c6, f, z7, m, c7, g⟩ j).g) := fun j hj => by
        by_cases e : j = i
        · subst e
          rw [putN_at]
          rw [HTi.out]
          exact ⟨⟨rfl, rfl, rfl, rfl, rfl⟩, Rw.kp HQ.out hk8⟩
        · rw [putN_ne e]
          exact ⟨(HT6.out j (by omega)).1, Rw.kp (HT6.out j (by omega)).2 hk8⟩
      clear hr8 hk8 hb8 hg8 HRow6 HT6 HB6 HQ hsz
      go_wp2
      go_roundw
      case rel => exact ⟨i + 1, _, by omega, by go_num, HB8.out, HR8.out, HT8.out⟩
      case measure => simp [intOf]; omega
    · have e1 : i = k := by omega
      have i1 : ¬ (((i : Nat) : Int) < ((k : Nat) : Int)) := by omega
      rw [e1] at HRow HT
      obtain ⟨aw, cw, rfl⟩ := HRow.out.slice
      have hcw : k ≤ cw ∧ cw ≤ 9223372036854775807 := by
        rcases HRow.out.2 with ⟨hv, h0⟩ | ⟨_, _, _, hv, _, _, h5, h6, _⟩
        · cases hv; omega
        · cases hv; unfold maxLen at h6; omega
      clear e1
      go_wp2
      go_ret
      exact ⟨aw, cw, T', rfl, HB.out, hcw, (fun j hj => by obtain ⟨b, hb, h4⟩ := rowg_c3 HRow.out hj; obtain ⟨⟨_, e2, _, e4, _⟩, h6⟩ := HT.out j hj; exact ⟨b, 0, hb, h4, h6, by rw [e2]; exact Nat.le_trans (hl j hj).1 (by decide), by rw [e4]; exact Nat.le_trans (hl j hj).2 (by decide)⟩), fun j hj => (HT.out j hj).1⟩

end Go.Proofs.Ytllpllebmknmpaa
