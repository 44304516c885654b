/-
  The kit's laws on make, copy and append, said in the words of the text Mem. No Go text is named here.
-/
import Derived.Test.YtjjbmioicliipabDoorMem
import Derived.WalkKit
import Derived.Laws.CopyOwn
import Derived.Laws.AppendOwnNone
namespace Go.Proofs.YtjjbmioicliipabDoor
open Go.RowKit

theorem addr_add (b o j : Nat) : (⟨b, o, none⟩ : Addr).add j = ⟨b, o + j, none⟩ := by
  by_cases h : j = 0
  · subst h; simp [Addr.add]
  · simp [Addr.add, h]
/-- The cells of a list of numbers. -/
def lst (k : IntKind) (f : Nat → Int) (n : Nat) : List Value := (List.range n).map (fun j => Value.int k (f j))
theorem lst_length (k : IntKind) (f : Nat → Int) (n : Nat) : (lst k f n).length = n := by simp [lst]
theorem lst_get (k : IntKind) (f : Nat → Int) (n j : Nat) (hj : j < n) : (lst k f n)[j]? = some (.int k (f j)) := by simp [lst, hj]
theorem lst_getE {k : IntKind} {f : Nat → Int} {n j : Nat} {u : Value} (h : (lst k f n)[j]? = some u) : j < n ∧ u = .int k (f j) := by
  have hj : j < n := by
    have := (List.getElem?_eq_some_iff.1 h).1
    rwa [lst_length] at this
  rw [lst_get k f n j hj] at h
  exact ⟨hj, (Option.some.inj h).symm⟩
theorem lst_one (k : IntKind) (f : Nat → Int) (n : Nat) : ∀ u ∈ lst k f n, u.oneCell' = true := by
  intro u hu
  simp only [lst, List.mem_map] at hu
  obtain ⟨j, _, rfl⟩ := hu
  rfl
theorem lst_congr {k : IntKind} {f g : Nat → Int} {n : Nat} (h : ∀ j, j < n → f j = g j) : lst k f n = lst k g n := by
  simp only [lst]
  refine List.map_congr_left (fun j hj => ?_)
  rw [h j (List.mem_range.1 hj)]
/-- Two lists behind one another. -/
def cat (f : Nat → Int) (n : Nat) (g : Nat → Int) : Nat → Int := fun j => if j < n then f j else g (j - n)
theorem cat_in {f g : Nat → Int} {n j : Nat} (h : j < n) : cat f n g j = f j := by simp [cat, h]
theorem cat_out {f g : Nat → Int} {n j : Nat} (h : n ≤ j) : cat f n g j = g (j - n) := by simp [cat]; omega
theorem lst_cat (k : IntKind) (f g : Nat → Int) (n m : Nat) : lst k f n ++ lst k g m = lst k (cat f n g) (n + m) := by
  apply List.ext_getElem?
  intro j
  by_cases h1 : j < n
  · rw [List.getElem?_append_left (by rw [lst_length]; exact h1), lst_get _ _ _ _ h1, lst_get _ _ _ _ (by omega), cat_in h1]
  · by_cases h2 : j < n + m
    · rw [List.getElem?_append_right (by rw [lst_length]; omega), lst_length, lst_get _ _ _ _ (by omega), lst_get _ _ _ _ h2, cat_out (by omega)]
    · rw [List.getElem?_eq_none (by simp [lst_length]; omega), List.getElem?_eq_none (by simp [lst_length]; omega)]

/-- The slice value v, of n numbers f, is the call's own (blocks from 'base' on), or nil. -/
def Own (k : IntKind) (e : TypeId) (w : World) (base : Nat) (v : Value) (n : Nat) (f : Nat → Int) : Prop := w.ownsRow base e 1 v n (lst k f n)
theorem own_nil (k : IntKind) (e : TypeId) (w : World) (base : Nat) (f : Nat → Int) : Own k e w base (.slice none 0 0) 0 f := World.ownsRow_nil _ _ _ _
theorem Own.shape {k e w base v n f} (h : Own k e w base v n f) : ∃ ao cap, v = .slice ao n cap ∧ n ≤ cap ∧ (ao = none → cap = 0) ∧ cap ≤ maxLen ∧ Rd k w ao n f ∧ (∀ a, ao = some a → base ≤ a.block ∧ a.block < w.heap.size) := by
  obtain ⟨h1, h2⟩ := h
  rcases h2 with ⟨rfl, rfl⟩ | ⟨g, cap, cur, rfl, hb, hg, hn, hm, hs, ht⟩
  · exact ⟨none, 0, rfl, Nat.le_refl _, fun _ => rfl, by simp [maxLen], Rd.zero, fun a ha => by cases ha⟩
  · refine ⟨_, cap, rfl, hn, (fun h => by cases h), hm, Rd.mk (fun j hj => ?_), fun a ha => ?_⟩
    · have e1 : (lst k f n)[j]? = cur.toList[j]? := by
        rw [← ht, List.getElem?_take, if_pos (by omega)]
      rw [lst_get k f n j hj] at e1
      rw [Nat.zero_add]
      simp [World.cell?, hg]
      simpa using e1.symm
    · cases ha
      exact ⟨hb, (Array.getElem?_eq_some_iff.1 hg).1⟩
theorem Own.below {k e w w' base v n f} (h : Own k e w base v n f) (hb : Below w.heap.size w w') : Own k e w' base v n f :=
  World.ownsRow.kept h ⟨hb.os, hb.tape, hb.output, hb.size, fun k hk _ => hb.block k hk⟩ (row := none) (by
    cases hv : v.ownBlock with
    | none => exact .inl rfl
    | some x => exact .inr (by simp))
theorem Own.alloc {k e w base v n f} (h : Own k e w base v n f) (o : Obj) : Own k e (w.alloc o) base v n f := World.ownsRow.alloc h o
theorem Own.ge {k e w base v n f} (h : Own k e w base v n f) : ∀ g, v.ownBlock = some g → base ≤ g := fun g hg => (World.ownsRow.lt h g hg).1
theorem Own.congr {k e w base v n f g} (h : Own k e w base v n f) (he : ∀ j, j < n → f j = g j) : Own k e w base v n g := by
  unfold Own at h ⊢; rw [← lst_congr he]; exact h
theorem own_of_blk {k e w g N f} (h : Blk k e w g N f) {base n : Nat} (hb : base ≤ g) (hn : n ≤ N) (hm : N ≤ maxLen) : Own k e w base (.slice (some ⟨g, 0, none⟩) n N) n f := by
  obtain ⟨arr, h1, h2, h3⟩ := h
  refine ⟨by rw [lst_length]; omega, .inr ⟨g, N, arr, rfl, hb, h1, hn, hm, by omega, ?_⟩⟩
  apply List.ext_getElem?
  intro j
  by_cases hj : j < n
  · rw [List.getElem?_take, if_pos (by omega), lst_get _ _ _ _ hj]; simpa using h3 j (by omega)
  · rw [List.getElem?_eq_none (by simp; omega), List.getElem?_eq_none (by rw [lst_length]; omega)]

theorem rd_new1 (w : World) (e : TypeId) (x : Int) : Rd .u64 (w.alloc (.cells #[.int .u64 x] e)) (some ⟨w.heap.size, 0, none⟩) 1 (fun _ => x) :=
  Rd.mk (fun j hj => by
    rw [Nat.zero_add, World.cell?_alloc_new]
    obtain rfl : j = 0 := by omega
    rfl)

/-- 'make([]T, n)': a block of n noughts. -/
theorem wpList_make_blk {P : Program} (k : IntKind) (w : World) {ops : Array Oper} {rest : List Oper} {o : Oper} {a : Act} {Q : Exit → Act → World → Prop}
    (hg : o.guard = none) (l c : Operand) (t : TypeId) (hop : o.op = Op.makeSlice t l c)
    (e : TypeId) (bytes : Nat) (h1 : P.underlying t = some (.slice e)) (h2 : (P.info? e).map (fun i => (i.zero, i.size, i.bytes)) = some (some (.int k 0), 1, bytes))
    (kl kc : IntKind) (L C : Int) (n : Nat) (hl : a.eval l = .int kl L) (hc : a.eval c = .int kc C) (hL : L = (n : Int)) (hC : C = (n : Int)) (b2 : bytes * n ≤ 281474976710656) (b3 : n ≤ maxLen)
    (hK : ∀ w', Blk k e w' w.heap.size n (fun _ => 0) → Below w.heap.size w w' → wpList P ops Q rest (a.put o.dst (.slice (some ⟨w.heap.size, 0, none⟩) n n)) w') :
    wpList P ops Q (o :: rest) a w := by
  obtain ⟨i, hi, hz0, hz1, hz2⟩ := info_parts h2
  refine wpList_make_full w hg l c t hop w.heap.size e i (.int k 0) 1 h1 hi hz0 hz1 kl kc L C n hl hc hL hC (by rw [hz2]; exact b2) b3 (Nat.le_refl _) ?_
  intro w' hown hgr
  refine hK w' ?_ ((Below.refl _ _).grown hgr (Nat.le_refl _) (fun k h => by cases h))
  obtain ⟨h1, h2⟩ := hown
  have hm : (madeCells (Value.int k 0).cells (n * 1)).toList = lst k (fun _ => 0) n := by
    show (madeCells #[Value.int k 0] (n * 1)).toList = _
    rw [toList_madeCells_one, Nat.mul_one]
    apply List.ext_getElem?
    intro j
    by_cases hj : j < n
    · rw [lst_get _ _ _ _ hj, List.getElem?_replicate, if_pos hj]
    · rw [List.getElem?_eq_none (by simp; omega), List.getElem?_eq_none (by rw [lst_length]; omega)]
  rcases h2 with ⟨hv, _⟩ | ⟨g, cap, cur, hv, hb, hg, hn, hm2, hs, ht⟩
  · cases hv
  · cases hv
    refine ⟨cur, hg, by omega, fun j hj => ?_⟩
    rw [hm] at ht
    have : cur.toList[j]? = (lst k (fun _ => 0) n)[j]? := by rw [← ht, List.getElem?_take, if_pos (by omega)]
    rw [lst_get _ _ _ _ hj] at this
    simpa using this

/-- The row behind a copy of n numbers h to place off. -/
def put (f : Nat → Int) (off n : Nat) (h : Nat → Int) : Nat → Int := fun j => if off ≤ j ∧ j < off + n then h (j - off) else f j
theorem put_in {f h : Nat → Int} {off n j : Nat} (h1 : off ≤ j) (h2 : j < off + n) : put f off n h j = h (j - off) := by simp [put, h1, h2]
theorem put_out {f h : Nat → Int} {off n j : Nat} (h1 : j < off ∨ off + n ≤ j) : put f off n h j = f j := by
  unfold put; rw [if_neg (by omega)]

theorem setRow_blk {k e w g N f off n h} (hb : Blk k e w g N f) (hfit : off + n ≤ N) {cur : Array Value} {t fr} (hc : w.heap[g]? = some (.cells cur t fr)) :
    Blk k e (w.setRow g (cur.toList.take off ++ (lst k h n ++ cur.toList.drop (off + (lst k h n).length))).toArray) g N (put f off n h) := by
  obtain ⟨arr, h1, h2, h3⟩ := hb
  rw [h1] at hc
  obtain rfl : arr = cur := by simpa using congrArg (fun o => match o with | some (Obj.cells c _ _) => c | _ => #[]) hc
  refine ⟨_, setRow_heap w g _ _ _ _ h1, by simp [lst_length, h2]; omega, fun j hj => ?_⟩
  rw [List.getElem?_toArray]
  by_cases a1 : j < off
  · rw [List.getElem?_append_left (by simp; omega), List.getElem?_take, if_pos a1, put_out (.inl a1)]
    simpa using h3 j hj
  · rw [List.getElem?_append_right (by simp; omega)]
    have e1 : (List.take off arr.toList).length = off := by simp; omega
    rw [e1]
    by_cases a2 : j < off + n
    · rw [List.getElem?_append_left (by rw [lst_length]; omega), lst_get _ _ _ _ (by omega), put_in (by omega) a2]
    · rw [List.getElem?_append_right (by rw [lst_length]; omega), lst_length, List.getElem?_drop, put_out (by omega)]
      have e2 : off + n + (j - off - n) = j := by omega
      rw [e2]
      simpa using h3 j hj

/-- 'copy(d, s)' into a block of the call's own. -/
theorem wpList_copy_blk {P : Program} (k : IntKind) (w : World) {ops : Array Oper} {rest : List Oper} {o : Oper} {a : Act} {Q : Exit → Act → World → Prop} (hgd : o.guard = none) (d s : Operand) (dT sT : TypeId)
    (ho : o.op = .call { callee := .builtin .copy, args := #[d, s], argTypes := #[dT, sT] }) (e : TypeId) (hu : P.underlying dT = some (.slice e)) (hsz : (P.info? e).map (·.size) = some 1)
    (g off N : Nat) (f : Nat → Int) (sp : Option Addr) (dLen dCap sLen sCap n : Nat) (h : Nat → Int) (hd : a.eval d = .slice (some ⟨g, off, none⟩) dLen dCap) (hs : a.eval s = .slice sp sLen sCap)
    (hb : Blk k e w g N f) (hr : Rd k w sp sLen h) (hn : n = Nat.min sLen dLen) (hfit : off + n ≤ N)
    (hK : ∀ w', Blk k e w' g N (put f off n h) → Only g w w' → wpList P ops Q rest (a.put o.dst (goInt n)) w') : wpList P ops Q (o :: rest) a w := by
  by_cases h0 : n = 0
  · subst h0
    refine wpList_copy_nothing hgd d s dT sT ho e hu hsz _ sp dLen dCap sLen sCap hd hs hn.symm ?_
    exact hK w (hb.congr (fun j _ => (put_out (by omega)).symm)) (Only.refl _ _)
  · have hs1 : Nat.min sLen dLen ≤ sLen := Nat.min_le_left _ _
    obtain ⟨b, ob, rfl⟩ := hr.at (by omega)
    obtain ⟨cur, hg, hcs, hcc⟩ := id hb
    refine wpList_copy_own hgd d s dT sT ho e hu hsz g off dLen dCap ⟨b, ob, none⟩ sLen sCap hd hs cur e hg (lst k h n) (by rw [lst_length]; exact hn) ?_ (by rw [lst_length]; omega) (lst_one k h n) ?_
    · intro j v hv
      obtain ⟨hj, rfl⟩ := lst_getE hv
      have := hr.cell (j := j) (by omega)
      rw [addr_add]; exact this
    · rw [lst_length]
      have := hK _ (setRow_blk (h := h) hb hfit hg) ⟨rfl, rfl, rfl, by simp [World.setRow], fun k _ hk => setRow_other w g k _ hk⟩
      rw [lst_length] at this
      exact this

/-- 'out = append(out, s...)', out the call's own (or nil), s whatever. -/
theorem wpList_append_own_list {P : Program} (k : IntKind) (w : World) {ops : Array Oper} {rest : List Oper} {o : Oper} {a : Act} {Q : Exit → Act → World → Prop} (hgd : o.guard = none) (s x : Operand) (t : TypeId)
    (ho : o.op = .call { callee := .builtin .append, args := #[s, x], argTypes := #[t, t] })
    (base : Nat) (e : TypeId) (bytes : Nat) (ht : P.underlying t = some (.slice e)) (h2 : (P.info? e).map (fun i => (i.zero, i.size, i.bytes)) = some (some (.int k 0), 1, bytes))
    (v : Value) (n : Nat) (f : Nat → Int) (hs : a.eval s = v) (hown : Own k e w base v n f)
    (b ob m c : Nat) (h : Nat → Int) (hx : a.eval x = .slice (some ⟨b, ob, none⟩) m c) (hr : Rd k w (some ⟨b, ob, none⟩) m h)
    (h63 : n + m ≤ maxLen) (hbytes : (n + m) * bytes ≤ 140737488355328) (hbase : base ≤ w.heap.size)
    (hK : ∀ v' w', Own k e w' base v' (n + m) (cat f n h) → w.grownBy w' v.ownBlock → wpList P ops Q rest (a.put o.dst v') w') : wpList P ops Q (o :: rest) a w := by
  obtain ⟨i, hi, hz0, hz1, hz2⟩ := info_parts h2
  refine wpList_append_own w hgd s x t ho base e i (.int k 0) 1 bytes ht hi hz0 hz1 hz2 rfl (by decide) v n (lst k f n) hs hown ⟨b, ob, none⟩ m c (lst k h m) hx (by rw [lst_length, Nat.mul_one]) ?_ (lst_one k h m) h63 hbytes hbase ?_
  · intro j u hu
    obtain ⟨hj, rfl⟩ := lst_getE hu
    have := hr.cell hj
    rw [addr_add]; exact this
  · intro v' w' h1 h2 _
    rw [lst_cat] at h1
    exact hK v' w' h1 h2
end Go.Proofs.YtjjbmioicliipabDoor
