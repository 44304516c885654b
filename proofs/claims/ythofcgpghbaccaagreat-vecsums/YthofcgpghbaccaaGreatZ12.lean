/-
  append to a row of structs in a region that draws its order. No Go text is named here. The walk of the reference's From of a list of terms.
-/
import Derived.Test.YthofcgpghbaccaaGreatZ10
import Derived.BigQuiet
import Derived.Deep.RegionHeld3
namespace Go.Proofs.YthofcgpghbaccaaGreat
open Go.RowKit

/-- The same in a region that draws its order. -/
theorem step_append_G {P : Program} (w : World) {ops : Array Oper} {o : Oper} {a : Act} {K : Act → World → Prop} {Q : Exit → Act → World → Prop} {E : Prop} (hgd : o.guard = none) (s x : Operand) (t : TypeId)
    (ho : o.op = .call { callee := .builtin .append, args := #[s, x], argTypes := #[t, t] })
    (base : Nat) (e : TypeId) (i : TypeInfo) (z : Value) (size bytes : Nat) (ht : P.underlying t = some (.slice e)) (hi : P.info? e = some i) (hz : i.zero = some z)
    (hsize : i.size = size) (hby : i.bytes = bytes) (hzs : z.cells.size = size) (hsz : 0 < size) (hzu : NoU z.cells)
    (v : Value) (n : Nat) (xs : List Value) (hs : a.eval s = v) (hown : RowG e size base w v n xs)
    (ad : Addr) (m c : Nat) (news : List Value) (hx : a.eval x = .slice (some ad) m c) (hl : news.length = m * size) (hnews : ∀ j u, news[j]? = some u → w.cell? (ad.add j) = some u) (h1 : ∀ u ∈ news, u.oneCell' = true) (hnu : ∀ u ∈ news, ∀ z, u ≠ .int .u64 z)
    (hm0 : 0 < m) (h63 : n + m ≤ maxLen) (hbytes : (n + m) * bytes ≤ 140737488355328) (hbase : base ≤ w.heap.size)
    (hK : ∀ g cap' w', RowG e size base w' (.slice (some ⟨g, 0, none⟩) (n + m) cap') (n + m) (xs ++ news) → w.grownBy w' v.ownBlock → Kp w w' → K (a.put o.dst (.slice (some ⟨g, 0, none⟩) (n + m) cap')) w') : if Region.wanted o (yielded ops a.tmps) = true then Oper.wp P o a w K Q else E := by
  subst hsize; subst hby
  obtain ⟨v', w', hrun, h1', h2', h3'⟩ := run_append_own (P := P) w base t o.type e i z i.size i.bytes ht hi hz rfl rfl hzs hsz v n xs hown.owns ad m c news hl hnews h1 h63 hbytes hbase
  have hlen : (xs ++ news).length = (n + m) * i.size := by rw [List.length_append, hown.1, hl, Nat.add_mul]
  have hzc : ∀ k, NoU (Builtin.zeroCells z.cells k) := by
    intro k j y hj
    simp only [Builtin.zeroCells] at hj
    have hm := Array.mem_of_getElem? hj
    obtain ⟨q, _, he⟩ := Array.mem_map.1 hm
    have hlt : q % z.cells.size < z.cells.size := Nat.mod_lt _ (by omega)
    rw [getElem!_pos z.cells (q % z.cells.size) hlt] at he
    exact hzu (q % z.cells.size) y (by rw [Array.getElem?_eq_getElem hlt, he])
  have hnu' : NoU news.toArray := nou_list hnu
  have hw : ∃ g cap' cur', v' = .slice (some ⟨g, 0, none⟩) (n + m) cap' ∧ base ≤ g ∧ w'.heap[g]? = some (.cells cur' e (0, 0)) ∧ n + m ≤ cap' ∧ cap' ≤ maxLen ∧ cur'.size = cap' * i.size ∧ cur'.toList.take ((n + m) * i.size) = xs ++ news ∧ NoU cur' ∧ Kp w w' := by
    have hsm : n + m ≤ 9223372036854775807 := by unfold maxLen at h63; omega
    rcases h1'.2 with ⟨hv0, hn0⟩ | ⟨g', cap', cur', hv', hb', hg', hn', hc', hs', ht'⟩
    · omega
    · refine ⟨g', cap', cur', hv', hb', hg', hn', hc', hs', ht', ?_⟩
      rcases hown.2 with ⟨rfl, rfl⟩ | ⟨g, cap, cur, rfl, hbg, hg, hnc, hcm, hcs, htake, hnuc⟩
      · have hx0 : xs = [] := List.eq_nil_of_length_eq_zero (by simpa using hown.1)
        subst hx0
        have e1 := run_append_nil (P := P) w t o.type e i z ht hi hz ad m c news hl hnews hm0 (by omega) (by rw [Nat.zero_add] at hbytes; omega)
        rw [e1] at hrun
        injection hrun with e2 e3
        subst e3
        rw [hv'] at e2
        injection e2 with e4
        injection e4 with e5
        injection e5 with e6
        subst e6
        have e7 := heap_alloc_new w.drew (.cells (news.toArray ++ Builtin.zeroCells z.cells (grownCap w m 0 e - m)) e)
        rw [show w.heap.size = w.drew.heap.size from rfl, e7] at hg'
        injection hg' with e8
        injection e8 with e9
        rw [← e9]
        exact ⟨nou_append hnu' (hzc _), (Kp.refl w).drew.alloc _⟩
      · by_cases hroom : n + m ≤ cap
        · have e1 := run_append_room (P := P) w t o.type e i ht hi g n cap cur hg ad m c news hl hnews h1 hroom (by rw [hl, hcs, ← Nat.add_mul]; exact Nat.mul_le_mul_right _ hroom)
          rw [e1] at hrun
          injection hrun with e2 e3
          rw [hv'] at e2
          injection e2 with e4
          injection e4 with e5
          injection e5 with e6
          subst e6
          have e7 : w'.heap[g]? = some (.cells (cur.toList.take (n * i.size) ++ news ++ cur.toList.drop (n * i.size + news.length)).toArray e (0, 0)) := by rw [← e3]; exact setRow_heap w g cur _ e _ hg
          rw [e7] at hg'
          injection hg' with e8
          injection e8 with e9
          rw [← e9]
          refine ⟨nou_list ?_, h2'.os, h2'.tape, h2'.output, h2'.size, fun k hk => ?_⟩
          · intro u hu
            rcases List.mem_append.1 hu with hu | hu
            · rcases List.mem_append.1 hu with hu | hu
              · exact nou_mem hnuc u (List.mem_of_mem_take hu)
              · exact hnu u hu
            · exact nou_mem hnuc u (List.mem_of_mem_drop hu)
          · by_cases hkg : k = g
            · subst hkg; exact .inr ⟨cur, e, (0, 0), hg, hnuc⟩
            · exact .inl (h2'.block k hk (fun e => hkg (by simpa [Value.ownBlock] using e)))
        · have holds : ∀ j u, xs[j]? = some u → w.cell? ((⟨g, 0, none⟩ : Addr).add j) = some u := World.ownsRow.cells hown.owns (g := g) rfl
          have e1 := run_append_grow (P := P) w t o.type e i z ht hi hz ⟨g, 0, none⟩ n cap xs hown.1 holds ad m c news hl hnews (by omega) (by omega) (growslice_fits (by omega) hbytes)
          rw [e1] at hrun
          injection hrun with e2 e3
          subst e3
          rw [hv'] at e2
          injection e2 with e4
          injection e4 with e5
          injection e5 with e6
          subst e6
          have e7 := heap_alloc_new w.drew (.cells (xs.toArray ++ news.toArray ++ Builtin.zeroCells z.cells (grownCap w (n + m) cap e - (n + m))) e)
          rw [show w.heap.size = w.drew.heap.size from rfl, e7] at hg'
          injection hg' with e8
          injection e8 with e9
          rw [← e9]
          refine ⟨nou_append (nou_append (nou_list ?_) hnu') (hzc _), (Kp.refl w).drew.alloc _⟩
          intro u hu
          rw [← htake] at hu
          exact nou_mem hnuc u (List.mem_of_mem_take hu)
  obtain ⟨g, cap', cur', rfl, a1, a2, a3, a4, a5, a6, a7, a8⟩ := hw
  have hwt : Region.wanted o (yielded ops a.tmps) = true := by simp [Region.wanted, hgd]
  rw [if_pos hwt]
  unfold Oper.wp execOp
  simp only [ho, resolve, invoke, builtin, Sem.run_bind, Sem.run_pure, Result.andThen_ok, List.map_toArray, List.map_cons, List.map_nil, hs, hx, hrun]
  exact hK g cap' w' ⟨hlen, .inr ⟨g, cap', cur', rfl, a1, a2, a3, a4, a5, a6, a7⟩⟩ h2' a8
/-- 'out = append(out, x)', x one struct that was just built, in a region that draws its order. -/
theorem step_append_one {P : Program} (w0 : World) {ops : Array Oper} {o : Oper} {a : Act} {K : Act → World → Prop} {Q : Exit → Act → World → Prop} {E : Prop} (hgd : o.guard = none) (s x : Operand) (t : TypeId)
    (ho : o.op = .call { callee := .builtin .append, args := #[s, x], argTypes := #[t, t] })
    (base : Nat) (e : TypeId) (bytes sz : Nat) (z : Value) (ht : P.underlying t = some (.slice e)) (hi : (P.info? e).map (fun i => (i.zero, i.size, i.bytes)) = some (some z, sz, bytes)) (hzs : z.cells.size = sz) (hsz : 0 < sz) (hzu : NoU z.cells)
    (v : Value) (n : Nat) (xs : List Value) (hs : a.eval s = v) (hown : RowG e sz base w0 v n xs) (c : Array Value) (hx : a.eval x = .slice (some ⟨w0.heap.size, 0, none⟩) 1 1) (hc : c.size = sz) (h1 : ∀ u ∈ c.toList, u.oneCell' = true) (hnu : ∀ u ∈ c.toList, ∀ q, u ≠ .int .u64 q) (hn : n ≤ 1000000) (hby : bytes ≤ 1000) (hbase : base ≤ w0.heap.size)
    (hK : ∀ g cap' w', RowG e sz base w' (.slice (some ⟨g, 0, none⟩) (n + 1) cap') (n + 1) (xs ++ c.toList) → Kp w0 w' → (∀ b0 : World, Below b0.heap.size b0 w0 → b0.heap.size ≤ base → Below b0.heap.size b0 w') → (∀ k, k < w0.heap.size → v.ownBlock ≠ some k → w'.heap[k]? = w0.heap[k]?) → K (a.put o.dst (.slice (some ⟨g, 0, none⟩) (n + 1) cap')) w') : if Region.wanted o (yielded ops a.tmps) = true then Oper.wp P o a (w0.alloc (.cells c e)) K Q else E := by
  obtain ⟨i, hi, hz0, hz1, hz2⟩ := info_parts hi
  have hal := below_alloc (Below.refl w0.heap.size w0) (.cells c e)
  have hblk := heap_alloc_new w0 (.cells c e)
  have hrow := hown.below hal
  refine step_append_G (w0.alloc (.cells c e)) hgd s x t ho base e i z sz bytes ht hi hz0 hz1 hz2 hzs hsz hzu v n xs hs hrow ⟨w0.heap.size, 0, none⟩ 1 1 c.toList hx (by simp [hc]) (fun j u hu => ?_) h1 hnu (by decide) (by unfold maxLen; omega) ?_ (by simp; omega) ?_
  · rw [addr_add, Nat.zero_add]
    simp only [World.cell?, hblk]
    simpa using hu
  · have : (n + 1) * bytes ≤ 1000001 * 1000 := Nat.mul_le_mul (by omega) hby
    omega
  · intro g cap' w' hr hgr hkp
    refine hK g cap' w' hr ((Kp.of_below hal).trans hkp) (fun b0 hb hle => ?_) (fun k hk hne => (hgr.block k (by simp; omega) (fun e => hne e.symm)).trans (hal.block k hk))
    have h2 : Below b0.heap.size b0 (w0.alloc (.cells c e)) := hb.trans (hal.mono hb.size)
    exact h2.grown hgr (by have := hb.size; simp; omega) (fun k hk => by have := (hrow.lt k hk).1; omega)
/-- The same outside such a region. -/
theorem wpList_append_one {P : Program} (w0 : World) {ops : Array Oper} {rest : List Oper} {o : Oper} {a : Act} {Q : Exit → Act → World → Prop} (hgd : o.guard = none) (s x : Operand) (t : TypeId)
    (ho : o.op = .call { callee := .builtin .append, args := #[s, x], argTypes := #[t, t] })
    (base : Nat) (e : TypeId) (bytes sz : Nat) (z : Value) (ht : P.underlying t = some (.slice e)) (hi : (P.info? e).map (fun i => (i.zero, i.size, i.bytes)) = some (some z, sz, bytes)) (hzs : z.cells.size = sz) (hsz : 0 < sz) (hzu : NoU z.cells)
    (v : Value) (n : Nat) (xs : List Value) (hs : a.eval s = v) (hown : RowG e sz base w0 v n xs) (c : Array Value) (hx : a.eval x = .slice (some ⟨w0.heap.size, 0, none⟩) 1 1) (hc : c.size = sz) (h1 : ∀ u ∈ c.toList, u.oneCell' = true) (hnu : ∀ u ∈ c.toList, ∀ q, u ≠ .int .u64 q) (hn : n ≤ 1000000) (hby : bytes ≤ 1000) (hbase : base ≤ w0.heap.size)
    (hK : ∀ g cap' w', RowG e sz base w' (.slice (some ⟨g, 0, none⟩) (n + 1) cap') (n + 1) (xs ++ c.toList) → Kp w0 w' → (∀ b0 : World, Below b0.heap.size b0 w0 → b0.heap.size ≤ base → Below b0.heap.size b0 w') → (∀ k, k < w0.heap.size → v.ownBlock ≠ some k → w'.heap[k]? = w0.heap[k]?) → wpList P ops Q rest (a.put o.dst (.slice (some ⟨g, 0, none⟩) (n + 1) cap')) w') : wpList P ops Q (o :: rest) a (w0.alloc (.cells c e)) := by
  obtain ⟨i, hi, hz0, hz1, hz2⟩ := info_parts hi
  have hal := below_alloc (Below.refl w0.heap.size w0) (.cells c e)
  have hblk := heap_alloc_new w0 (.cells c e)
  have hrow := hown.below hal
  refine wpList_append_G (w0.alloc (.cells c e)) hgd s x t ho base e i z sz bytes ht hi hz0 hz1 hz2 hzs hsz hzu v n xs hs hrow ⟨w0.heap.size, 0, none⟩ 1 1 c.toList hx (by simp [hc]) (fun j u hu => ?_) h1 hnu (by decide) (by unfold maxLen; omega) ?_ (by simp; omega) ?_
  · rw [addr_add, Nat.zero_add]
    simp only [World.cell?, hblk]
    simpa using hu
  · have : (n + 1) * bytes ≤ 1000001 * 1000 := Nat.mul_le_mul (by omega) hby
    omega
  · intro g cap' w' hr hgr hkp
    refine hK g cap' w' hr ((Kp.of_below hal).trans hkp) (fun b0 hb hle => ?_) (fun k hk hne => (hgr.block k (by simp; omega) (fun e => hne e.symm)).trans (hal.block k hk))
    have h2 : Below b0.heap.size b0 (w0.alloc (.cells c e)) := hb.trans (hal.mono hb.size)
    exact h2.grown hgr (by have := hb.size; simp; omega) (fun k hk => by have := (hrow.lt k hk).1; omega)
theorem one4 (z : Int) (s : Bool) (x : Option Addr) (n c : Nat) (y : Option Addr) (m d : Nat) : ∀ u ∈ (#[Value.int .i64 z, .bool s, .slice x n c, .slice y m d] : Array Value).toList, u.oneCell' = true := by
  intro u hu; simp at hu; rcases hu with rfl | rfl | rfl | rfl <;> rfl
theorem not4 (z : Int) (s : Bool) (x : Option Addr) (n c : Nat) (y : Option Addr) (m d : Nat) : ∀ u ∈ (#[Value.int .i64 z, .bool s, .slice x n c, .slice y m d] : Array Value).toList, ∀ q, u ≠ .int .u64 q := by
  intro u hu q; simp at hu; rcases hu with rfl | rfl | rfl | rfl <;> simp
theorem one3 (s : Bool) (x : Option Addr) (n c : Nat) (y : Option Addr) (m d : Nat) : ∀ u ∈ (#[Value.bool s, .slice x n c, .slice y m d] : Array Value).toList, u.oneCell' = true := by
  intro u hu; simp at hu; rcases hu with rfl | rfl | rfl <;> rfl
theorem not3 (s : Bool) (x : Option Addr) (n c : Nat) (y : Option Addr) (m d : Nat) : ∀ u ∈ (#[Value.bool s, .slice x n c, .slice y m d] : Array Value).toList, ∀ q, u ≠ .int .u64 q := by
  intro u hu q; simp at hu; rcases hu with rfl | rfl | rfl <;> simp
theorem nz4 : NoU (Value.agg #[.int .i64 0, .bool false, .slice none 0 0, .slice none 0 0]).cells := nou_list (l := [Value.int .i64 0, .bool false, .slice none 0 0, .slice none 0 0]) (not4 0 false none 0 0 none 0 0)
theorem nz3 : NoU (Value.agg #[.bool false, .slice none 0 0, .slice none 0 0]).cells := nou_list (l := [Value.bool false, .slice none 0 0, .slice none 0 0]) (not3 false none 0 0 none 0 0)
theorem RowG.drew {e sz base w v n xs} (h : RowG e sz base w v n xs) : RowG e sz base w.drew v n xs := h
theorem Rw.kp {w w' x n c f y m d g} (h : Rw w x n c f y m d g) (hk : Kp w w') : Rw w' x n c f y m d g := ⟨h.rx.kp hk, h.lx, h.cx, h.nx, h.ry.kp hk, h.ly, h.cy, h.ny⟩
/-- The terms of a row, by their places. -/
def tls (i : Nat) (col : Nat → Int) (T : Nat → Nm) : List (Int × Nm) := (List.range i).map (fun j => (col j, T j))
def putN (T : Nat → Nm) (i : Nat) (t : Nm) : Nat → Nm := fun j => if j = i then t else T j
theorem putN_at (T : Nat → Nm) (i : Nat) (t : Nm) : putN T i t i = t := by simp [putN]
theorem putN_ne {T : Nat → Nm} {i j : Nat} {t : Nm} (h : j ≠ i) : putN T i t j = T j := by simp [putN, h]
theorem tls_put (i : Nat) (col : Nat → Int) (T : Nat → Nm) (t : Nm) : tcells (tls (i + 1) col (putN T i t)) = tcells (tls i col T) ++ tcell (col i) t := by
  have e : tls (i + 1) col (putN T i t) = tls i col T ++ [(col i, t)] := by
    unfold tls
    rw [List.range_succ, List.map_append, List.map_singleton, putN_at]
    congr 1
    apply List.map_congr_left
    intro j hj
    rw [putN_ne (by have := List.mem_range.1 hj; omega)]
  rw [e, tcells_append]
theorem tls_get {i j : Nat} {col : Nat → Int} {T : Nat → Nm} (h : j < i) : (tls i col T)[j]? = some (col j, T j) := by simp [tls, h]
/-- The same of numbers. -/
def rls (i : Nat) (T : Nat → Nm) : List Nm := (List.range i).map T
theorem rls_put (i : Nat) (T : Nat → Nm) (t : Nm) : rcells (rls (i + 1) (putN T i t)) = rcells (rls i T) ++ rcell t := by
  have e : rls (i + 1) (putN T i t) = rls i T ++ [t] := by
    unfold rls
    rw [List.range_succ, List.map_append, List.map_singleton, putN_at]
    congr 1
    apply List.map_congr_left
    intro j hj
    rw [putN_ne (by have := List.mem_range.1 hj; omega)]
  rw [e]; simp [rcells]
theorem rls_get {i j : Nat} {T : Nat → Nm} (h : j < i) : (rls i T)[j]? = some (T j) := by simp [rls, h]
/-- The cells of such rows. -/
theorem rowg_c4 {e : TypeId} {base i : Nat} {w : World} {ao : Option Addr} {cap : Nat} {col : Nat → Int} {T : Nat → Nm} (h : RowG e 4 base w (.slice ao i cap) i (tcells (tls i col T))) {j : Nat} (hj : j < i) : ∃ b, ao = some ⟨b, 0, none⟩ ∧ C4 w b (0 + j * 4) (.int .i64 (col j)) (.bool (T j).s) (.slice (T j).x (T j).n (T j).c) (.slice (T j).y (T j).m (T j).d) := by
  rcases h.2 with ⟨hv, h0⟩ | ⟨g, cap', cur, hv, _⟩
  · omega
  · cases hv
    have hc : ∀ q, q < 4 → w.cell? ⟨g, 0 + j * 4 + q, none⟩ = (tcell (col j) (T j))[q]? := fun q hq => by
      rw [Nat.zero_add]
      have e1 := tcells_get (tls_get (col := col) (T := T) hj) q hq
      obtain ⟨u, hu⟩ : ∃ u, (tcell (col j) (T j))[q]? = some u := ⟨_, List.getElem?_eq_getElem (by show q < 4; exact hq)⟩
      rw [hu] at e1 ⊢
      exact h.cells e1
    exact ⟨g, rfl, ⟨hc 0 (by decide), hc 1 (by decide), hc 2 (by decide), hc 3 (by decide)⟩⟩
theorem rowg_c3 {e : TypeId} {base i : Nat} {w : World} {ao : Option Addr} {cap : Nat} {T : Nat → Nm} (h : RowG e 3 base w (.slice ao i cap) i (rcells (rls i T))) {j : Nat} (hj : j < i) : ∃ b, ao = some ⟨b, 0, none⟩ ∧ C3 w b (0 + j * 3) (.bool (T j).s) (.slice (T j).x (T j).n (T j).c) (.slice (T j).y (T j).m (T j).d) := by
  rcases h.2 with ⟨hv, h0⟩ | ⟨g, cap', cur, hv, _⟩
  · omega
  · cases hv
    have hc : ∀ q, q < 3 → w.cell? ⟨g, 0 + j * 3 + q, none⟩ = (rcell (T j))[q]? := fun q hq => by
      rw [Nat.zero_add]
      have e1 := rcells_get (rls_get (T := T) hj) q hq
      obtain ⟨u, hu⟩ : ∃ u, (rcell (T j))[q]? = some u := ⟨_, List.getElem?_eq_getElem (by show q < 3; exact hq)⟩
      rw [hu] at e1 ⊢
      exact h.cells e1
    exact ⟨g, rfl, ⟨hc 0 (by decide), hc 1 (by decide), hc 2 (by decide)⟩⟩
end Go.Proofs.YthofcgpghbaccaaGreat
namespace Go.Proofs.YthofcgpghbaccaaGreat
open Go.RowKit

theorem Tryz.infoTq : (Tryz.prog.info? 106).map (fun i => (i.zero, i.size, i.bytes)) = some (some (.agg #[.int .i64 0, .bool false, .slice none 0 0, .slice none 0 0]), 4, 64) := by kernel_rfl
theorem Dn.kp {w w' x n d V} (h : Dn w x n d V) (hk : Kp w w') : Dn w' x n d V := ⟨h.rd.kp hk, h.dg, h.fm, h.val⟩
theorem Qn.kp {w w' s x n d y m g q} (h : Qn w s x n d y m g q) (hk : Kp w w') : Qn w' s x n d y m g q := ⟨⟨h.num.dn.kp hk, h.num.sgn, h.num.pos⟩, h.den.kp hk⟩
/-- A number of the reference, as it lies. -/
def QnT (K : Nat) (w : World) (t : Nm) (q : Rat) : Prop := t.n ≤ K ∧ t.m ≤ K ∧ Qn w t.s t.x t.n t.f t.y t.m t.g q
theorem QnT.below {K w w' t q} (h : QnT K w t q) (hb : Below w.heap.size w w') : QnT K w' t q := ⟨h.1, h.2.1, h.2.2.below hb⟩
theorem QnT.kp {K w w' t q} (h : QnT K w t q) (hk : Kp w w') : QnT K w' t q := ⟨h.1, h.2.1, h.2.2.kp hk⟩
/-- A list of the reference's terms. -/
def Tq (K : Nat) (w : World) (ao : Option Addr) (v : List (Int × Rat)) : Prop :=
  ∀ (j : Nat) (a : Int) (q : Rat), v[j]? = some (a, q) → ∃ b o, ∃ t : Nm, ao = some ⟨b, o, none⟩ ∧ C4 w b (o + j * 4) (.int .i64 a) (.bool t.s) (.slice t.x t.n t.c) (.slice t.y t.m t.d) ∧ QnT K w t q
theorem Tq.below {K w w' ao v} (h : Tq K w ao v) (hb : Below w.heap.size w w') : Tq K w' ao v := fun j a q hj => by
  obtain ⟨b, o, t, e, h1, h2⟩ := h j a q hj
  exact ⟨b, o, t, e, h1.below hb, h2.below hb⟩
/-- What From answers. -/
def FrAns (K : Nat) (w w' : World) (e : Ending) (k : Nat) (v : List (Int × Rat)) : Prop := ∃ aw cw, e = .returned (.slice aw k cw) ∧ Below w.heap.size w w' ∧ (k ≤ cw ∧ cw ≤ 9223372036854775807) ∧ Hid (Tq K w' aw v)

set_option maxRecDepth 100000 in
set_option maxHeartbeats 4000000 in
theorem fromT_c {w : World} {L : Nat} {ao : Option Addr} {k cap : Nat} {col : Nat → Int} {T : Nat → Nm} {v : List (Int × Rat)} (h : Tl w ao k col T) (hk : k ≤ 10000) (hL : L ≤ 16000) (hlv : v.length = k) (hq : ∀ j, j < k → ∃ q, v[j]? = some (col j, q) ∧ Rn L w (T j).s (T j).x (T j).n (T j).c (T j).f (T j).y (T j).m (T j).d (T j).g q) :
    Calls Tryz.prog 48 #[.slice ao k cap] w fun e w' => FrAns (2 * L) w w' e k v := by
  have H := hid h
  clear h
  go_enter Tryz.func48, Tryz.ntmps48
  go_wp2_with fail
  go_loopw [3, 8] (fun ov t wr => ∃ (i : Nat) (T' : Nat → Nm), i ≤ k ∧ t = .int .i64 i ∧ Hid (Below w.heap.size w wr) ∧ Hid (RowG 106 4 w.heap.size wr ov i (tcells (tls i col T'))) ∧ Hid (∀ j, j < i → ∃ q, v[j]? = some (col j, q) ∧ QnT (2 * L) wr (T' j) q)) (fun _ t _ => k - (intOf t).toNat)
  case atStart => exact ⟨0, T, by omega, rfl, Below.refl _ _, rowG_nil _ _ _ _, fun j hj => by omega⟩
  case round =>
    obtain ⟨i, T', hi, rfl, HB, HRow, HT⟩ := hrel
    by_cases hlt : i < k
    · obtain ⟨b, o, hao, hc, hn, hn1, hn2⟩ := (H.out.below HB.out) i hlt
      obtain ⟨⟨s, x, n, c, f, y, m, d, g⟩, hTi⟩ : ∃ t, T i = t := ⟨_, rfl⟩
      subst hao
      rw [hTi] at hc hn hn1 hn2
      obtain ⟨z, hz⟩ : ∃ z, col i = z := ⟨_, rfl⟩
      rw [hz] at hc
      obtain ⟨x0, x1, x2, x3⟩ := hc
      replace x0 : wr.cell? ⟨b, o + i * 4, none⟩ = some (.int .i64 z) := x0
      replace x1 : wr.cell? ⟨b, o + i * 4 + 1, none⟩ = some (.bool s) := x1
      replace x2 : wr.cell? ⟨b, o + i * 4 + 2, none⟩ = some (.slice x n c) := x2
      replace x3 : wr.cell? ⟨b, o + i * 4 + 3, none⟩ = some (.slice y m d) := x3
      have i1 : ((i : Nat) : Int) < ((k : Nat) : Int) := by omega
      obtain ⟨q, hvq, hrn⟩ := hq i hlt
      rw [hTi] at hrn
      replace hn : Rn L wr s x n c f y m d g q := hrn.below HB.out
      clear hn1 hn2
      have HVq := hid hvq; have HN := hid hn; have HZ := hid hz; have HTi := hid hTi
      clear hn hz hTi
      go_upto_region 5 with fail
      have hb5 := below_alloc (Below.refl wr.heap.size wr) (.cells #[.int .i64 z, .bool s, .slice x n c, .slice y m d] 69)
      have a0 : (wr.alloc (.cells #[.int .i64 z, .bool s, .slice x n c, .slice y m d] 69)).cell? ⟨wr.heap.size, 0, none⟩ = some (.int .i64 z) := by simp [go_sem]
      have a1 : (wr.alloc (.cells #[.int .i64 z, .bool s, .slice x n c, .slice y m d] 69)).cell? ⟨wr.heap.size, 1, none⟩ = some (.bool s) := by simp [go_sem]
      have a2 : (wr.alloc (.cells #[.int .i64 z, .bool s, .slice x n c, .slice y m d] 69)).cell? ⟨wr.heap.size, 2, none⟩ = some (.slice x n c) := by simp [go_sem]
      have a3 : (wr.alloc (.cells #[.int .i64 z, .bool s, .slice x n c, .slice y m d] 69)).cell? ⟨wr.heap.size, 3, none⟩ = some (.slice y m d) := by simp [go_sem]
      have hne : u3.ownBlock ≠ some wr.heap.size := fun e => by have := (HRow.out.lt _ e).2; omega
      replace HN := hid (HN.out.below hb5); replace HRow := hid (HRow.out.below hb5)
      replace HT : Hid (∀ j, j < i → ∃ q, v[j]? = some (col j, q) ∧ QnT (2 * L) (wr.alloc (.cells #[.int .i64 z, .bool s, .slice x n c, .slice y m d] 69)) (T' j) q) := fun j hj => by obtain ⟨q, h1, h2⟩ := HT.out j hj; exact ⟨q, h1, h2.below hb5⟩
      replace HB := hid (HB.out.trans (hb5.mono HB.out.size))
      clear x0 x1 x2 x3 hb5
      have hsz : w.heap.size ≤ (wr.alloc (.cells #[.int .i64 z, .bool s, .slice x n c, .slice y m d] 69)).heap.size := HB.out.size
      generalize wr.alloc (.cells #[.int .i64 z, .bool s, .slice x n c, .slice y m d] 69) = w5 at *
      have CT : Hid (∀ W, Below w5.heap.size w5 W → Calls Tryz.prog 34 #[.agg #[.bool s, .slice x n c, .slice y m d]] W fun e w' => ∃ s6 x6 n6 c6 d6 y6 m6 e6 g6, e = .returned (.agg #[.bool s6, .slice x6 n6 c6, .slice y6 m6 e6]) ∧ Below W.heap.size W w' ∧ Hid (n6 ≤ 2 * L ∧ m6 ≤ 2 * L ∧ Qn w' s6 x6 n6 d6 y6 m6 g6 q)) := fun W hW => (qFrom_c (HN.out.below hW) (by omega)).mono (fun _ _ ⟨s, x, n, c, d, y, m, c', g, h1, h2, h3, h4, h5⟩ => ⟨s, x, n, c, d, y, m, c', g, h1, h2, h3, h4, h5⟩)
      go_region_held3 (fun w' => w'.cell? ⟨wr.heap.size, 0, none⟩ = some (.int .i64 z) ∧ w'.cell? ⟨wr.heap.size, 1, none⟩ = some (.bool s) ∧ w'.cell? ⟨wr.heap.size, 2, none⟩ = some (.slice x n c) ∧ w'.cell? ⟨wr.heap.size, 3, none⟩ = some (.slice y m d))
        (refine ⟨?_, ?_, ?_, ?_⟩ <;> repeat (with_reducible first | assumption | refine kCd ?_ | refine kCa ?_ | refine kCb (by assumption) ?_))
        (first
          | (go_at_call 34; with_reducible refine (CT.out _ (by repeat (with_reducible first | assumption | exact Below.refl _ _ | refine Below.drew ?_ | refine kBa ?_ | refine kBb (by assumption) ?_))).mono ?_; rintro e w6 ⟨s6, x6, n6, c6, d6, y6, m6, e6, g6, rfl, hb6, HQ⟩; have B6 : Below w5.heap.size w5 w6 := (by repeat (with_reducible first | assumption | exact Below.refl _ _ | refine Below.drew ?_ | refine kBa ?_ | refine kBb (by assumption) ?_)); have HRow6 := HRow.out.below B6; have hz6 : w.heap.size ≤ w6.heap.size := Nat.le_trans hsz B6.size; have a06 := kCb B6 a0; have a16 := kCb B6 a1; have a26 := kCb B6 a2; have a36 := kCb B6 a3; have hlt6 := World.block_lt_of_cell? w6 _ a06)
          | (refine step_append_one w6 rfl (.tmp 12) (.tmp 19) 84 rfl w.heap.size 106 64 4 (.agg #[.int .i64 0, .bool false, .slice none 0 0, .slice none 0 0]) Tryz.underlying84 Tryz.infoTq rfl (by decide) nz4 u3 i (tcells (tls i col T')) rfl HRow6 #[.int .i64 z, .bool s6, .slice x6 n6 c6, .slice y6 m6 e6] rfl rfl (one4 _ _ _ _ _ _ _ _) (not4 _ _ _ _ _ _ _ _) ?p1 (by decide) hz6 ?_; (case p1 => omega); intro g8 cap8 w8 hr8 hk8 hb8 hg8; have h88 := hg8 wr.heap.size hlt6 hne; have a08 := (World.cell?_of_block (a := ⟨wr.heap.size, 0, none⟩) h88).trans a06; have a18 := (World.cell?_of_block (a := ⟨wr.heap.size, 1, none⟩) h88).trans a16; have a28 := (World.cell?_of_block (a := ⟨wr.heap.size, 2, none⟩) h88).trans a26; have a38 := (World.cell?_of_block (a := ⟨wr.heap.size, 3, none⟩) h88).trans a36))
      all_goals
        (have HB8 := hid (hb8 w (HB.out.trans (B6.mono HB.out.size)) (Nat.le_refl _))
         have HR8 : Hid (RowG 106 4 w.heap.size w8 (.slice (some ⟨g8, 0, none⟩) (i + 1) cap8) (i + 1) (tcells (tls (i + 1) col (putN T' i ⟨s6, x6, n6, c6, d6, y6, m6, e6, g6⟩)))) := by
           show RowG _ _ _ _ _ _ _
           rw [tls_put, HZ.out]; exact hr8
         have HT8 : Hid (∀ j, j < i + 1 → ∃ q, v[j]? = some (col j, q) ∧ QnT (2 * L) w8 (putN T' i ⟨s6, x6, n6, c6, d6, y6, m6, e6, g6⟩ j) q) := fun j hj => by
           by_cases e : j = i
           · subst e
             rw [putN_at]
             exact ⟨q, HVq.out, QnT.kp (t := ⟨s6, x6, n6, c6, d6, y6, m6, e6, g6⟩) HQ.out hk8⟩
           · rw [putN_ne e]
             obtain ⟨q, h1, h2⟩ := HT.out j (by omega); exact ⟨q, h1, (h2.below B6).kp hk8⟩
         clear hr8 hk8 hb8 hg8 h88 a08 a18 a28 a38 a06 a16 a26 a36 hlt6 hne HRow6 B6 hb6 HQ HRow HT HB CT a0 a1 a2 a3 HN hz6
         go_wp2
         go_roundw
         case rel => exact ⟨i + 1, _, by omega, by go_num, HB8.out, HR8.out, HT8.out⟩
         case measure => simp [intOf]; omega)
    · have e1 : i = k := by omega
      have i1 : ¬ (((i : Nat) : Int) < ((k : Nat) : Int)) := by omega
      rw [e1] at HRow HT
      obtain ⟨aw, cw, rfl⟩ := HRow.out.slice
      have hcw : k ≤ cw ∧ cw ≤ 9223372036854775807 := by
        rcases HRow.out.2 with ⟨hv, h0⟩ | ⟨_, _, _, hv, _, _, h5, h6, _⟩
        · cases hv; omega
        · cases hv; unfold maxLen at h6; omega
      clear e1
      go_wp2
      go_ret
      exact ⟨aw, cw, rfl, HB.out, hcw, (fun j a q hj => by have hlt2 : j < k := by { have := (List.getElem?_eq_some_iff.1 hj).1; omega }; obtain ⟨b, hb, h4⟩ := rowg_c4 HRow.out hlt2; obtain ⟨q', h5, h6⟩ := HT.out j hlt2; rw [hj] at h5; obtain ⟨rfl, rfl⟩ : a = col j ∧ q = q' := by { simpa using h5 }; exact ⟨b, 0, T' j, hb, h4, h6⟩)⟩
end Go.Proofs.YthofcgpghbaccaaGreat
