/-
  Walks of the document's reference for whole: Divide. Package vec's calls on lists in form, by their values; lists that are put together by their terms. append to a row of structs in a region that draws its order. No Go text is named here. Walks of the document's reference for rat: Twin; the same digits elsewhere. Walks of the reference's Twins, Forms and Froms of lists of numbers. The walk of stack.copied. The walks of stack.back without steps, of stack.copiedPoint, and of the reference's Twin of points and of certificates (written by makers/o3.py). The reference's Same and Sames of lists with the same values. The walks of the reference's Same of points, of certificates and of bases that are alike; of the calls of a nil stack; of StackNone (written by makers/o6.py). Lists of numbers that are copies; the walk of law17's lists, and what it answers. A drawn region as a flow: operations that make values or new memory (calls, builds, lists that are built) in whatever order, each shown once; behind them those that must come last. No Go text is named here.
-/
import Derived.Test.YtllpllebmknmpaaZ0
import Derived.Test.YtllpllebmknmpaaZ1
import Derived.Test.YtllpllebmknmpaaZ2
import Derived.Test.YtllpllebmknmpaaZ3
import Derived.Test.YtllpllebmknmpaaZ4
import Derived.Test.YtllpllebmknmpaaYStackcerts0
import Derived.Deep.RegionHeld3
import Derived.BigQuiet
namespace Go.Proofs.Ytllpllebmknmpaa
open Go.RowKit

/-- A box that holds a sign and a list, and may be written. -/
structure X2 (w : World) (B : Nat) (s : Bool) (x : Option Addr) (n c : Nat) : Prop where
  z : B < w.heap.size
  c0 : w.cell? ⟨B, 0, none⟩ = some (.bool s)
  c1 : w.cell? ⟨B, 1, none⟩ = some (.slice x n c)
  zf : ∀ o, w.frozen? ⟨B, o, none⟩ = false
theorem X2.below {w w' B s x n c} (h : X2 w B s x n c) (hb : Below w.heap.size w w') : X2 w' B s x n c := by
  obtain ⟨h1, h2⟩ := bcell hb
  exact ⟨Nat.lt_of_lt_of_le h.z hb.size, kCb hb h.c0, kCb hb h.c1, fun o => (h2 _ _ h.z).trans (h.zf o)⟩
/-- A number stored into such a box. -/
theorem X2.put {w B s x n c} (h : X2 w B s x n c) (r : Bool) (y : Option Addr) (m d : Nat) : X2 ((w.setCell ⟨B, 0, none⟩ (.bool r)).setCell ⟨B, 1, none⟩ (.slice y m d)) B r y m d :=
  ⟨by simpa [World.setCell] using h.z, kCo (by decide) (kCe (kI0 h.c0)), kCe (kIs (kI0 h.c1)), fun o => kFs (kFs (h.zf o))⟩
theorem X2.dn {w B s x n c u0 u1 y m d V} (h : X2 w B s x n c) (hx : Dn w y m d V) : Dn ((w.setCell ⟨B, 0, none⟩ u0).setCell ⟨B, 1, none⟩ u1) y m d V :=
  ⟨rd_setne (cell_off (by decide) h.c1) (fun i h => by cases h) (rd_setne h.c0 (fun i h => by cases h) hx.rd), hx.dg, hx.fm, hx.val⟩
theorem X2.zn {w B s x n c u0 u1 t y m d v} (h : X2 w B s x n c) (hx : Zn w t y m d v) : Zn ((w.setCell ⟨B, 0, none⟩ u0).setCell ⟨B, 1, none⟩ u1) t y m d v := ⟨h.dn hx.dn, hx.sgn, hx.pos⟩
theorem X2.drew {w B s x n c} (h : X2 w B s x n c) : X2 w.drew B s x n c := ⟨h.z, h.c0, h.c1, h.zf⟩
end Go.Proofs.Ytllpllebmknmpaa
namespace Go.Proofs.Ytllpllebmknmpaa
open Go.RowKit

theorem Rf.mono {L L' w ao p} (h : Rf L w ao p) (hL : L ≤ L') : Rf L' w ao p := fun j q hj => by
  obtain ⟨b, o, t, e, h1, h2⟩ := h j q hj
  exact ⟨b, o, t, e, h1, h2.mono hL⟩

/-- The cells of numbers. -/
def rcell (t : Nm) : List Value := [.bool t.s, .slice t.x t.n t.c, .slice t.y t.m t.d]
def rcells (l : List Nm) : List Value := l.flatMap rcell
theorem rcells_get {l : List Nm} {j : Nat} {t : Nm} (h : l[j]? = some t) (i : Nat) (hi : i < 3) : (rcells l)[j * 3 + i]? = (rcell t)[i]? := by
  induction l generalizing j with
  | nil => simp at h
  | cons u l ih =>
    have e : rcells (u :: l) = rcell u ++ rcells l := by simp [rcells]
    rw [e]
    cases j with
    | zero =>
      simp at h; subst h
      rw [Nat.zero_mul, Nat.zero_add, List.getElem?_append_left (by show i < 3; exact hi)]
    | succ j =>
      rw [List.getElem?_append_right (by show 3 ≤ _; omega), show (j + 1) * 3 + i - (rcell u).length = j * 3 + i by show (j + 1) * 3 + i - 3 = _; omega]
      exact ih (by simpa using h)
end Go.Proofs.Ytllpllebmknmpaa
namespace Go.Proofs.Ytllpllebmknmpaa
open Go.RowKit

/-- The same outside such a region. -/
theorem wpList_append_one {P : Program} (w0 : World) {ops : Array Oper} {rest : List Oper} {o : Oper} {a : Act} {Q : Exit → Act → World → Prop} (hgd : o.guard = none) (s x : Operand) (t : TypeId)
    (ho : o.op = .call { callee := .builtin .append, args := #[s, x], argTypes := #[t, t] })
    (base : Nat) (e : TypeId) (bytes sz : Nat) (z : Value) (ht : P.underlying t = some (.slice e)) (hi : (P.info? e).map (fun i => (i.zero, i.size, i.bytes)) = some (some z, sz, bytes)) (hzs : z.cells.size = sz) (hsz : 0 < sz) (hzu : NoU z.cells)
    (v : Value) (n : Nat) (xs : List Value) (hs : a.eval s = v) (hown : RowG e sz base w0 v n xs) (c : Array Value) (hx : a.eval x = .slice (some ⟨w0.heap.size, 0, none⟩) 1 1) (hc : c.size = sz) (h1 : ∀ u ∈ c.toList, u.oneCell' = true) (hnu : ∀ u ∈ c.toList, ∀ q, u ≠ .int .u64 q) (hn : n ≤ 1000000) (hby : bytes ≤ 1000) (hbase : base ≤ w0.heap.size)
    (hK : ∀ g cap' w', RowG e sz base w' (.slice (some ⟨g, 0, none⟩) (n + 1) cap') (n + 1) (xs ++ c.toList) → Kp w0 w' → (∀ b0 : World, Below b0.heap.size b0 w0 → b0.heap.size ≤ base → Below b0.heap.size b0 w') → (∀ k, k < w0.heap.size → v.ownBlock ≠ some k → w'.heap[k]? = w0.heap[k]?) → wpList P ops Q rest (a.put o.dst (.slice (some ⟨g, 0, none⟩) (n + 1) cap')) w') : wpList P ops Q (o :: rest) a (w0.alloc (.cells c e)) := by
  obtain ⟨i, hi, hz0, hz1, hz2⟩ := info_parts hi
  have hal := below_alloc (Below.refl w0.heap.size w0) (.cells c e)
  have hblk := heap_alloc_new w0 (.cells c e)
  have hrow := hown.below hal
  refine wpList_append_G (w0.alloc (.cells c e)) hgd s x t ho base e i z sz bytes ht hi hz0 hz1 hz2 hzs hsz hzu v n xs hs hrow ⟨w0.heap.size, 0, none⟩ 1 1 c.toList hx (by simp [hc]) (fun j u hu => ?_) h1 hnu (by decide) (by unfold maxLen; omega) ?_ (by simp; omega) ?_
  · rw [addr_add, Nat.zero_add]
    simp only [World.cell?, hblk]
    simpa using hu
  · have : (n + 1) * bytes ≤ 1000001 * 1000 := Nat.mul_le_mul (by omega) hby
    omega
  · intro g cap' w' hr hgr hkp
    refine hK g cap' w' hr ((Kp.of_below hal).trans hkp) (fun b0 hb hle => ?_) (fun k hk hne => (hgr.block k (by simp; omega) (fun e => hne e.symm)).trans (hal.block k hk))
    have h2 : Below b0.heap.size b0 (w0.alloc (.cells c e)) := hb.trans (hal.mono hb.size)
    exact h2.grown hgr (by have := hb.size; simp; omega) (fun k hk => by have := (hrow.lt k hk).1; omega)
theorem one3 (s : Bool) (x : Option Addr) (n c : Nat) (y : Option Addr) (m d : Nat) : ∀ u ∈ (#[Value.bool s, .slice x n c, .slice y m d] : Array Value).toList, u.oneCell' = true := by
  intro u hu; simp at hu; rcases hu with rfl | rfl | rfl <;> rfl
theorem not3 (s : Bool) (x : Option Addr) (n c : Nat) (y : Option Addr) (m d : Nat) : ∀ u ∈ (#[Value.bool s, .slice x n c, .slice y m d] : Array Value).toList, ∀ q, u ≠ .int .u64 q := by
  intro u hu q; simp at hu; rcases hu with rfl | rfl | rfl <;> simp
theorem nz3 : NoU (Value.agg #[.bool false, .slice none 0 0, .slice none 0 0]).cells := nou_list (l := [Value.bool false, .slice none 0 0, .slice none 0 0]) (not3 false none 0 0 none 0 0)
theorem RowG.drew {e sz base w v n xs} (h : RowG e sz base w v n xs) : RowG e sz base w.drew v n xs := h
/-- The same of numbers. -/
def rls (i : Nat) (T : Nat → Nm) : List Nm := (List.range i).map T
theorem rls_put (i : Nat) (T : Nat → Nm) (t : Nm) : rcells (rls (i + 1) (putN T i t)) = rcells (rls i T) ++ rcell t := by
  have e : rls (i + 1) (putN T i t) = rls i T ++ [t] := by
    unfold rls
    rw [List.range_succ, List.map_append, List.map_singleton, putN_at]
    congr 1
    apply List.map_congr_left
    intro j hj
    rw [putN_ne (by have := List.mem_range.1 hj; omega)]
  rw [e]; simp [rcells]
theorem rls_get {i j : Nat} {T : Nat → Nm} (h : j < i) : (rls i T)[j]? = some (T j) := by simp [rls, h]
theorem rowg_c3 {e : TypeId} {base i : Nat} {w : World} {ao : Option Addr} {cap : Nat} {T : Nat → Nm} (h : RowG e 3 base w (.slice ao i cap) i (rcells (rls i T))) {j : Nat} (hj : j < i) : ∃ b, ao = some ⟨b, 0, none⟩ ∧ C3 w b (0 + j * 3) (.bool (T j).s) (.slice (T j).x (T j).n (T j).c) (.slice (T j).y (T j).m (T j).d) := by
  rcases h.2 with ⟨hv, h0⟩ | ⟨g, cap', cur, hv, _⟩
  · omega
  · cases hv
    have hc : ∀ q, q < 3 → w.cell? ⟨g, 0 + j * 3 + q, none⟩ = (rcell (T j))[q]? := fun q hq => by
      rw [Nat.zero_add]
      have e1 := rcells_get (rls_get (T := T) hj) q hq
      obtain ⟨u, hu⟩ : ∃ u, (rcell (T j))[q]? = some u := ⟨_, List.getElem?_eq_getElem (by show q < 3; exact hq)⟩
      rw [hu] at e1 ⊢
      exact h.cells e1
    exact ⟨g, rfl, ⟨hc 0 (by decide), hc 1 (by decide), hc 2 (by decide)⟩⟩
end Go.Proofs.Ytllpllebmknmpaa
namespace Go.Proofs.Ytllpllebmknmpaa
open Go.RowKit

theorem twinD_c {w : World} {x : Option Addr} {n c : Nat} {f : Nat → Int} (hr : Rd .u64 w x n f) (hn : n ≤ 17592186044416) (hnil : x = none → n = 0 ∧ c = 0) :
    Calls Try.prog 50 #[.slice x n c] w fun e w' => ∃ z c', e = .returned (.slice z n c') ∧ Below w.heap.size w w' ∧ Hid (Rd .u64 w' z n f ∧ (n ≤ c' ∧ c' ≤ 9223372036854775807) ∧ (z = none → n = 0 ∧ c' = 0)) := by
  refine (twin_c x n c f w (by omega) hr hnil).mono ?_
  rintro e w' ⟨z, c', rfl, h2, h3, h4⟩
  obtain ⟨ao, cap, hv, k1, k2, k3, _, _⟩ := h4.shape
  cases hv
  exact ⟨z, c', rfl, h2, h3, ⟨k1, by unfold maxLen at k3; omega⟩, fun h => by have := k2 h; omega⟩
theorem kRdb {w w' : World} {x : Option Addr} {n : Nat} {f : Nat → Int} (hb : Below w.heap.size w w') (h : Rd .u64 w x n f) : Rd .u64 w' x n f := h.below hb (Nat.le_refl _)
set_option maxRecDepth 100000 in
set_option maxHeartbeats 8000000 in
theorem qTwin_c {w : World} {s : Bool} {x : Option Addr} {n c : Nat} {f : Nat → Int} {y : Option Addr} {m d : Nat} {g : Nat → Int} (h : Rw w x n c f y m d g) (hn : n ≤ 17592186044416) (hm : m ≤ 17592186044416) :
    Calls Try.prog 33 #[.agg #[.bool s, .slice x n c, .slice y m d]] w fun e w' => ∃ z c' z2 c2, e = .returned (.agg #[.bool s, .slice z n c', .slice z2 m c2]) ∧ Below w.heap.size w w' ∧ Hid (Rw w' z n c' f z2 m c2 g) := by
  obtain ⟨h1, h2, h3⟩ := qbox1 (w := w) (.bool s) (.slice x n c) (.slice y m d) 66 66
  have h4 := h.below h3
  clear h
  go_enter Try.func33, Try.ntmps33
  go_wp2_with fail
  generalize (w.alloc (.cells #[.bool s, .slice x n c, .slice y m d] 66)).alloc (.cells #[.bool false, .slice none 0 0, .slice none 0 0] 66) = w1 at *
  have HN := hid h4; have OB := hid h2; have HW := hid h3
  obtain ⟨z, x0, x1, x2⟩ := h1
  obtain ⟨hz, z0, z1, z2, zf⟩ := h2
  clear h3 h4
  have C1 : Hid (∀ W, Below w1.heap.size w1 W → Calls Try.prog 50 #[.slice x n c] W fun e w' => ∃ z c', e = .returned (.slice z n c') ∧ Below W.heap.size W w' ∧ Hid (Rd .u64 w' z n f ∧ (n ≤ c' ∧ c' ≤ 9223372036854775807) ∧ (z = none → n = 0 ∧ c' = 0))) := fun W hW => twinD_c (HN.out.below hW).rx (by omega) HN.out.nx
  have C2 : Hid (∀ W, Below w1.heap.size w1 W → Calls Try.prog 50 #[.slice y m d] W fun e w' => ∃ z c', e = .returned (.slice z m c') ∧ Below W.heap.size W w' ∧ Hid (Rd .u64 w' z m g ∧ (m ≤ c' ∧ c' ≤ 9223372036854775807) ∧ (z = none → m = 0 ∧ c' = 0))) := fun W hW => twinD_c (HN.out.below hW).ry (by omega) HN.out.ny
  go_region_held3 (fun w' => w'.cell? ⟨w.heap.size, 0, none⟩ = some (.bool s) ∧ w'.cell? ⟨w.heap.size, 1, none⟩ = some (.slice x n c) ∧ w'.cell? ⟨w.heap.size, 2, none⟩ = some (.slice y m d) ∧ (w'.cell? ⟨w.heap.size + 1, 0, none⟩).isSome = true ∧ (w'.cell? ⟨w.heap.size + 1, 1, none⟩).isSome = true ∧ (w'.cell? ⟨w.heap.size + 1, 2, none⟩).isSome = true ∧ w'.frozen? ⟨w.heap.size + 1, 0, none⟩ = false ∧ w'.frozen? ⟨w.heap.size + 1, 1, none⟩ = false ∧ w'.frozen? ⟨w.heap.size + 1, 2, none⟩ = false)
    (refine ⟨?_, ?_, ?_, ?_, ?_, ?_, ?_, ?_, ?_⟩ <;> repeat (with_reducible first | assumption | exact zf _ | exact tf _ | exact uf _ | exact kI0 z0 | exact kI0 z1 | exact kI0 z2 | exact kI0 t0 | exact kI0 t1 | exact kI0 t2 | exact kI0 u0 | exact kI0 u1 | exact kI0 u2 | refine kCd ?_ | refine kId ?_ | refine kFd ?_ | refine kCs (by simp only [ne_eq]; omega) ?_ | refine kIs ?_ | refine kFs ?_ | refine kCb (by assumption) ?_ | refine kIb (by assumption) ?_))
    (first
      | (go_at_call 50; with_reducible refine (C1.out _ (by repeat (with_reducible first | assumption | exact Below.refl _ _ | refine Below.drew ?_ | refine kBb (by assumption) ?_))).mono ?_; rintro e v5 ⟨z5, c5, rfl, hb5, H5⟩; have Tt : Ob v5 (w.heap.size + 1) := (by repeat (with_reducible first | exact OB.out | exact Tt | exact Tu | refine Ob.drew ?_ | refine kOb (by assumption) ?_)); obtain ⟨_, t0, t1, t2, tf⟩ := id Tt)
      | (go_at_call 50; with_reducible refine (C2.out _ (by repeat (with_reducible first | assumption | exact Below.refl _ _ | refine Below.drew ?_ | refine kBb (by assumption) ?_))).mono ?_; rintro e v6 ⟨z6, c6, rfl, hb6, H6⟩; have Tu : Ob v6 (w.heap.size + 1) := (by repeat (with_reducible first | exact OB.out | exact Tt | exact Tu | refine Ob.drew ?_ | refine kOb (by assumption) ?_)); obtain ⟨_, u0, u1, u2, uf⟩ := id Tu))
  all_goals
    have D5 : Rd .u64 v6 z5 n f := (by repeat (with_reducible first | exact H5.out.1 | refine Rd.drew ?_ | refine kRdb (by assumption) ?_))
    have hb : Below w1.heap.size w1 v6 := (by repeat (with_reducible first | assumption | exact Below.refl _ _ | refine Below.drew ?_ | refine kBb (by assumption) ?_))
    go_wp2
    exact bodyPost_ret (v := .agg #[.bool s, .slice z5 n c5, .slice z6 m c6]) (by simp [results, Try.results33, go_sem, u0, u1, u2]) rfl ⟨z5, c5, z6, c6, rfl, below_st (HW.out.trans (hb.mono HW.out.size)) (by omega), Tu.rd D5, HN.out.lx, H5.out.2.1, H5.out.2.2, Tu.rd H6.out.1, HN.out.ly, H6.out.2.1, H6.out.2.2⟩

end Go.Proofs.Ytllpllebmknmpaa
namespace Go.Proofs.Ytllpllebmknmpaa
open Go.RowKit

theorem afr_sn {X X' : Nat → Nm} : ∀ {r i : Nat}, (∀ j, i ≤ j → j < i + r → Sn (X j) (X' j)) → afr X' r i = afr X r i := by
  intro r
  induction r with
  | zero => intro i _; rfl
  | succ r ih =>
    intro i h
    simp only [afr]
    rw [ih (fun j a b => h j (by omega) (by omega)), (h i (by omega) (by omega)).nfB]
/-- What Twins answers. -/
def TwsAns (w w' : World) (e : Ending) (k : Nat) (X : Nat → Nm) : Prop := ∃ aw cw X', e = .returned (.slice aw k cw) ∧ Below w.heap.size w w' ∧ (k ≤ cw ∧ cw ≤ 9223372036854775807) ∧ Hid (Rl w' aw k X' ∧ ∀ j, j < k → Sn (X j) (X' j))
set_option maxRecDepth 100000 in
set_option maxHeartbeats 4000000 in
theorem forms_c {w : World} {ao : Option Addr} {k cap : Nat} {X : Nat → Nm} (h : Rl w ao k X) (hk : k ≤ 10000) (hl : ∀ j, j < k → (X j).n ≤ 1000 ∧ (X j).m ≤ 1000) :
    Calls Try.prog 34 #[.slice ao k cap] w fun e w' => e = .returned (.bool (afB k X)) ∧ Below w.heap.size w w' := by
  have H := hid h
  clear h
  go_enter Try.func34, Try.ntmps34
  go_wp2_with fail
  go_loopw [7] (fun t wr => ∃ (i : Nat), i ≤ k ∧ t = .int .i64 i ∧ Hid (Below w.heap.size w wr) ∧ Hid (afB k X = afr X (k - i) i)) (fun t _ => k - (intOf t).toNat)
  case atStart => exact ⟨0, by omega, rfl, Below.refl _ _, rfl⟩
  case round =>
    obtain ⟨i, hi, rfl, HB, HT⟩ := hrel
    by_cases hlt : i < k
    · obtain ⟨b, o, rfl, hc, hn, hn1, hn2⟩ := (H.out.below HB.out) i hlt
      obtain ⟨r, hr⟩ : ∃ r, k - i = r + 1 := ⟨k - i - 1, by omega⟩
      have hT : afB k X = (nfB (X i) && afr X r (i + 1)) := by rw [HT.out, hr]; rfl
      have hr2 : k - (i + 1) = r := by omega
      obtain ⟨⟨s, x, n, c, f, y, m, d, g⟩, hTi⟩ : ∃ t, X i = t := ⟨_, rfl⟩
      rw [hTi] at hc hn hn1 hn2 hT
      obtain ⟨x0, x1, x2⟩ := hc
      replace x0 : wr.cell? ⟨b, o + i * 3, none⟩ = some (.bool s) := x0
      replace x1 : wr.cell? ⟨b, o + i * 3 + 1, none⟩ = some (.slice x n c) := x1
      replace x2 : wr.cell? ⟨b, o + i * 3 + 2, none⟩ = some (.slice y m d) := x2
      replace hn : Rw wr x n c f y m d g := hn
      replace hn1 : n ≤ 65536 := hn1
      replace hn2 : m ≤ 65536 := hn2
      have hblk : Below wr.heap.size wr (wr.alloc (.cells #[.bool s, .slice x n c, .slice y m d] 66)) := below_alloc (Below.refl _ _) _
      obtain ⟨hl1, hl2⟩ := hl i hlt
      rw [hTi] at hl1 hl2
      have CF := hid (qForm_c (s := s) (hn.below hblk) hl1 hl2)
      have HTi := hid hT; have HR2 := hid hr2
      have i1 : ((i : Nat) : Int) < ((k : Nat) : Int) := by omega
      clear hT hr2 hTi hr hn hblk hl1 hl2
      cases hf : rfB s f n g m
      · have CF2 := CF
        rw [hf] at CF2
        have HNF : Hid (nfB ⟨s, x, n, c, f, y, m, d, g⟩ = false) := hf
        clear CF hf
        go_wp2_with fail
        refine CF2.out.mono ?_
        rintro e w1 ⟨rfl, hb1⟩
        obtain ⟨_, _, _, _, hb2⟩ := box3 hb1
        go_wp2
        go_ret
        refine ⟨?_, HB.out.trans (hb2.mono HB.out.size)⟩
        rw [HTi.out, HNF.out]; rfl
      · have CF2 := CF
        rw [hf] at CF2
        have HNF : Hid (nfB ⟨s, x, n, c, f, y, m, d, g⟩ = true) := hf
        clear CF hf
        go_wp2_with fail
        refine CF2.out.mono ?_
        rintro e w1 ⟨rfl, hb1⟩
        obtain ⟨_, _, _, _, hb2⟩ := box3 hb1
        have HB2 := hid (HB.out.trans (hb2.mono HB.out.size))
        clear hb1 hb2
        go_wp2
        go_roundw
        case rel =>
          refine ⟨i + 1, by omega, by go_num, HB2.out, ?_⟩
          show _ = _
          rw [HTi.out, HNF.out, HR2.out]; rfl
        case measure => simp [intOf]; omega
    · have e1 : i = k := by omega
      have HTe : Hid (afB k X = true) := by
        show _ = _
        rw [HT.out, e1, Nat.sub_self]; rfl
      have i2 : ¬ (((i : Nat) : Int) < ((k : Nat) : Int)) := by omega
      clear e1 HT
      go_wp2
      go_ret
      refine ⟨?_, HB.out⟩
      rw [HTe.out]; rfl

set_option maxRecDepth 100000 in
set_option maxHeartbeats 4000000 in
theorem twins_c {w : World} {ao : Option Addr} {k cap : Nat} {X : Nat → Nm} (h : Rl w ao k X) (hk : k ≤ 10000) (hl : ∀ j, j < k → (X j).n ≤ 1000 ∧ (X j).m ≤ 1000) :
    Calls Try.prog 14 #[.slice ao k cap] w fun e w' => TwsAns w w' e k X := by
  have H := hid h
  clear h
  go_enter Try.func14, Try.ntmps14
  go_wp2_with fail
  go_loopw [3, 8] (fun ov t wr => ∃ (i : Nat) (T' : Nat → Nm), i ≤ k ∧ t = .int .i64 i ∧ Hid (Below w.heap.size w wr) ∧ Hid (RowG 66 3 w.heap.size wr ov i (rcells (rls i T'))) ∧ Hid (∀ j, j < i → Sn (X j) (T' j) ∧ Rw wr (T' j).x (T' j).n (T' j).c (T' j).f (T' j).y (T' j).m (T' j).d (T' j).g)) (fun _ t _ => k - (intOf t).toNat)
  case atStart => exact ⟨0, X, by omega, rfl, Below.refl _ _, rowG_nil _ _ _ _, fun j hj => by omega⟩
  case round =>
    obtain ⟨i, T', hi, rfl, HB, HRow, HT⟩ := hrel
    by_cases hlt : i < k
    · obtain ⟨b, o, hao, hc, hn, hn1, hn2⟩ := (H.out.below HB.out) i hlt
      subst hao
      obtain ⟨⟨s, x, n, c, f, y, m, d, g⟩, hTi⟩ : ∃ t, X i = t := ⟨_, rfl⟩
      rw [hTi] at hc hn
      obtain ⟨x0, x1, x2⟩ := hc
      replace x0 : wr.cell? ⟨b, o + i * 3, none⟩ = some (.bool s) := x0
      replace x1 : wr.cell? ⟨b, o + i * 3 + 1, none⟩ = some (.slice x n c) := x1
      replace x2 : wr.cell? ⟨b, o + i * 3 + 2, none⟩ = some (.slice y m d) := x2
      have i1 : ((i : Nat) : Int) < ((k : Nat) : Int) := by omega
      obtain ⟨hn10, hm10⟩ := hl i hlt
      rw [hTi] at hn10 hm10
      replace hn : Rw wr x n c f y m d g := hn
      have hb5 := below_alloc (Below.refl wr.heap.size wr) (.cells #[.bool s, .slice x n c, .slice y m d] 66)
      have HN := hid (hn.below hb5); have HTi := hid hTi; have HRow5 := hid (HRow.out.below hb5); have HB5 := hid (HB.out.trans (hb5.mono HB.out.size))
      have HT5 : Hid (∀ j, j < i → Sn (X j) (T' j) ∧ Rw (wr.alloc (.cells #[.bool s, .slice x n c, .slice y m d] 66)) (T' j).x (T' j).n (T' j).c (T' j).f (T' j).y (T' j).m (T' j).d (T' j).g) := fun j hj => ⟨(HT.out j hj).1, (HT.out j hj).2.below hb5⟩
      clear hn hTi hb5 hn1 hn2
      go_wp2_with fail
      clear x0 x1 x2 HB HRow HT
      generalize wr.alloc (.cells #[.bool s, .slice x n c, .slice y m d] 66) = w5 at *
      refine (qTwin_c (s := s) HN.out (Nat.le_trans hn10 (by decide)) (Nat.le_trans hm10 (by decide))).mono ?_
      rintro e w6 ⟨z6, c6, z7, c7, rfl, hb6, HQ⟩
      have HB6 := hid (HB5.out.trans (hb6.mono HB5.out.size)); have HRow6 := hid (HRow5.out.below hb6)
      have HT6 : Hid (∀ j, j < i → Sn (X j) (T' j) ∧ Rw w6 (T' j).x (T' j).n (T' j).c (T' j).f (T' j).y (T' j).m (T' j).d (T' j).g) := fun j hj => ⟨(HT5.out j hj).1, (HT5.out j hj).2.below hb6⟩
      have hsz := HB6.out.size
      clear hb6 HB5 HRow5 HT5 HN
      go_wp2_with (at_builtin; go_must (refine wpList_append_one w6 rfl (.tmp 12) (.tmp 15) 30 rfl w.heap.size 66 56 3 (.agg #[.bool false, .slice none 0 0, .slice none 0 0]) Try.underlying30 Try.infoRat rfl (by decide) nz3 u3 i (rcells (rls i T')) rfl HRow6.out #[.bool s, .slice z6 n c6, .slice z7 m c7] rfl rfl (one3 _ _ _ _ _ _ _) (not3 _ _ _ _ _ _ _) ?p1 (by decide) hsz ?_))
      case p1 => omega
      intro g8 cap8 w8 hr8 hk8 hb8 hg8
      have HB8 := hid (hb8 w HB6.out (Nat.le_refl _))
      have HR8 : Hid (RowG 66 3 w.heap.size w8 (.slice (some ⟨g8, 0, none⟩) (i + 1) cap8) (i + 1) (rcells (rls (i + 1) (putN T' i ⟨s, z6, n, c6, f, z7, m, c7, g⟩)))) := by
        show RowG _ _ _ _ _ _ _
        rw [rls_put]; exact hr8
      have HT8 : Hid (∀ j, j < i + 1 → Sn (X j) (putN T' i ⟨s, z6, n, c6, f, z7, m, c7, g⟩ j) ∧ Rw w8 (putN T' i ⟨s, z6, n, c6, f, z7, m, c7, g⟩ j).x (putN T' i ⟨s, z6, n, c6, f, z7, m, c7, g⟩ j).n (putN T' i ⟨s, z6, n, c6, f, z7, m, c7, g⟩ j).c (putN T' i ⟨s, z6, n, c6, f, z7, m, c7, g⟩ j).f (putN T' i ⟨s, z6, n, c6, f, z7, m, c7, g⟩ j).y (putN T' i ⟨s, z6, n, c6, f, z7, m, c7, g⟩ j).m (putN T' i ⟨s, z6, n, c6, f, z7, m, c7, g⟩ j).d (putN T' i ⟨s, z6, n, c6, f, z7, m, c7, g⟩ j).g) := fun j hj => by
        by_cases e : j = i
        · subst e
          rw [putN_at]
          rw [HTi.out]
          exact ⟨⟨rfl, rfl, rfl, rfl, rfl⟩, Rw.kp HQ.out hk8⟩
        · rw [putN_ne e]
          exact ⟨(HT6.out j (by omega)).1, Rw.kp (HT6.out j (by omega)).2 hk8⟩
      clear hr8 hk8 hb8 hg8 HRow6 HT6 HB6 HQ hsz
      go_wp2
      go_roundw
      case rel => exact ⟨i + 1, _, by omega, by go_num, HB8.out, HR8.out, HT8.out⟩
      case measure => simp [intOf]; omega
    · have e1 : i = k := by omega
      have i1 : ¬ (((i : Nat) : Int) < ((k : Nat) : Int)) := by omega
      rw [e1] at HRow HT
      obtain ⟨aw, cw, rfl⟩ := HRow.out.slice
      have hcw : k ≤ cw ∧ cw ≤ 9223372036854775807 := by
        rcases HRow.out.2 with ⟨hv, h0⟩ | ⟨_, _, _, hv, _, _, h5, h6, _⟩
        · cases hv; omega
        · cases hv; unfold maxLen at h6; omega
      clear e1
      go_wp2
      go_ret
      exact ⟨aw, cw, T', rfl, HB.out, hcw, (fun j hj => by obtain ⟨b, hb, h4⟩ := rowg_c3 HRow.out hj; obtain ⟨⟨_, e2, _, e4, _⟩, h6⟩ := HT.out j hj; exact ⟨b, 0, hb, h4, h6, by rw [e2]; exact Nat.le_trans (hl j hj).1 (by decide), by rw [e4]; exact Nat.le_trans (hl j hj).2 (by decide)⟩), fun j hj => (HT.out j hj).1⟩

end Go.Proofs.Ytllpllebmknmpaa
namespace Go.Proofs.Ytllpllebmknmpaa
open Go.RowKit

theorem Cp.rl {w base B k X X'} {ao : Option Addr} {w0 : World} (h : Cp w base B k k X X') (hx : Rl w0 ao k X) : Rl w (some ⟨B, 0, none⟩) k X' := fun j hj => by
  obtain ⟨h1, ⟨_, e2, _, e4, _⟩, h3, _⟩ := h.el j hj
  obtain ⟨_, _, _, _, _, h5, h6⟩ := hx j hj
  exact ⟨B, 0, rfl, by rw [Nat.zero_add]; exact h1, h3, by rw [e2]; exact h5, by rw [e4]; exact h6⟩

end Go.Proofs.Ytllpllebmknmpaa
namespace Go.Proofs.Ytllpllebmknmpaa
open Go.RowKit

theorem bk_nob {w B vs t} (h : Bk w B vs t) (hv : ∀ v ∈ vs, ∃ a n c, v = Value.slice a n c) : ∀ o s, w.cell? ⟨B, o, none⟩ ≠ some (.bool s) := fun o s e => by
  unfold Bk at h
  simp only [World.cell?, h] at e
  have e' : vs[o]? = some (.bool s) := by simpa using e
  obtain ⟨a, n, c, h1⟩ := hv _ (List.mem_of_getElem? e')
  cases h1

set_option maxRecDepth 100000 in
set_option maxHeartbeats 4000000 in
theorem backK_c {w : World} {B : Nat} {n k : Int} (h : Sk w B n k) (fv : Value) (a0 a1 a2 a3 : Option Addr) (k0 c0 k1 c1 k2 c2 k3 c3 : Nat) :
    Calls Try.prog 45 #[.pointer (some ⟨B, 0, none⟩), fv, .agg #[.slice a0 k0 c0, .slice a1 k1 c1, .slice a2 k2 c2, .slice a3 k3 c3]] w fun e w' => e = .returned (.agg #[.slice a0 k0 c0, .slice a1 k1 c1, .slice a2 k2 c2, .slice a3 k3 c3]) ∧ Below w.heap.size w w' := by
  have hb := below_alloc (below_alloc (Below.refl w.heap.size w) (.cells #[.slice a0 k0 c0, .slice a1 k1 c1, .slice a2 k2 c2, .slice a3 k3 c3] 55)) (.cells #[.slice none 0 0, .slice none 0 0, .slice none 0 0, .slice none 0 0] 55)
  have B1 : Bk ((w.alloc (.cells #[.slice a0 k0 c0, .slice a1 k1 c1, .slice a2 k2 c2, .slice a3 k3 c3] 55)).alloc (.cells #[.slice none 0 0, .slice none 0 0, .slice none 0 0, .slice none 0 0] 55)) w.heap.size [.slice a0 k0 c0, .slice a1 k1 c1, .slice a2 k2 c2, .slice a3 k3 c3] 55 := (bk_new w [.slice a0 k0 c0, .slice a1 k1 c1, .slice a2 k2 c2, .slice a3 k3 c3] 55).below (below_alloc (Below.refl _ _) (.cells #[.slice none 0 0, .slice none 0 0, .slice none 0 0, .slice none 0 0] 55))
  have B2 : Bk ((w.alloc (.cells #[.slice a0 k0 c0, .slice a1 k1 c1, .slice a2 k2 c2, .slice a3 k3 c3] 55)).alloc (.cells #[.slice none 0 0, .slice none 0 0, .slice none 0 0, .slice none 0 0] 55)) (w.heap.size + 1) [.slice none 0 0, .slice none 0 0, .slice none 0 0, .slice none 0 0] 55 := by
    have := bk_new (w.alloc (.cells #[.slice a0 k0 c0, .slice a1 k1 c1, .slice a2 k2 c2, .slice a3 k3 c3] 55)) [.slice none 0 0, .slice none 0 0, .slice none 0 0, .slice none 0 0] 55
    rw [size_alloc1] at this
    exact this
  have hsz : ((w.alloc (.cells #[.slice a0 k0 c0, .slice a1 k1 c1, .slice a2 k2 c2, .slice a3 k3 c3] 55)).alloc (.cells #[.slice none 0 0, .slice none 0 0, .slice none 0 0, .slice none 0 0] 55)).heap.size = w.heap.size + 1 + 1 := by simp
  have hs := h.below hb
  clear h
  go_enter Try.func45, Try.ntmps45
  have hc4 := hs.c4
  go_wp2_with fail
  generalize (w.alloc (.cells #[.slice a0 k0 c0, .slice a1 k1 c1, .slice a2 k2 c2, .slice a3 k3 c3] 55)).alloc (.cells #[.slice none 0 0, .slice none 0 0, .slice none 0 0, .slice none 0 0] 55) = w2 at *
  have r0 := B1.cell (j := 0) rfl
  have r1 := B1.cell (j := 1) rfl
  have r2 := B1.cell (j := 2) rfl
  have r3 := B1.cell (j := 3) rfl
  have l0 := B2.cell (j := 0) rfl
  have l1 := B2.cell (j := 1) rfl
  have l2 := B2.cell (j := 2) rfl
  have l3 := B2.cell (j := 3) rfl
  have ff := B2.frozen
  have HX := hid (st_new [.slice a0 k0 c0, .slice a1 k1 c1, .slice a2 k2 c2, .slice a3 k3 c3] B2 (nou_list (fun u hu q => by simp at hu; first | (subst hu; simp) | (rcases hu with rfl | rfl | rfl | rfl <;> simp) | (rcases hu with rfl | rfl | rfl <;> simp))) hb (by omega)).1
  clear hs hb B1 B2 hsz
  go_loopw [7] (fun t wr => t = .pointer none ∧ wr = w2) (fun _ _ => 0)
  case atStart => exact ⟨rfl, rfl⟩
  case round =>
    obtain ⟨rfl, rfl⟩ := hrel
    go_wp2
    exact bodyPost_ret (v := .agg #[.slice a0 k0 c0, .slice a1 k1 c1, .slice a2 k2 c2, .slice a3 k3 c3]) (by simp [results, Try.results45, go_sem, l0, l1, l2, l3]) rfl ⟨rfl, HX.out⟩

/-- What it answers. -/
def TwCertAns (w w' : World) (e : Ending) (k0 : Nat) (X0 : Nat → Nm) (k1 : Nat) (X1 : Nat → Nm) (k2 : Nat) (X2 : Nat → Nm) (k3 : Nat) (X3 : Nat → Nm) : Prop := ∃ b0 d0 Y0 b1 d1 Y1 b2 d2 Y2 b3 d3 Y3, e = .returned (.agg #[.slice b0 k0 d0, .slice b1 k1 d1, .slice b2 k2 d2, .slice b3 k3 d3]) ∧ Below w.heap.size w w' ∧ ((k0 ≤ d0 ∧ d0 ≤ 9223372036854775807) ∧ (k1 ≤ d1 ∧ d1 ≤ 9223372036854775807) ∧ (k2 ≤ d2 ∧ d2 ≤ 9223372036854775807) ∧ (k3 ≤ d3 ∧ d3 ≤ 9223372036854775807)) ∧ Hid ((Rl w' b0 k0 Y0 ∧ ∀ j, j < k0 → Sn (X0 j) (Y0 j)) ∧ (Rl w' b1 k1 Y1 ∧ ∀ j, j < k1 → Sn (X1 j) (Y1 j)) ∧ (Rl w' b2 k2 Y2 ∧ ∀ j, j < k2 → Sn (X2 j) (Y2 j)) ∧ (Rl w' b3 k3 Y3 ∧ ∀ j, j < k3 → Sn (X3 j) (Y3 j)))
set_option maxRecDepth 100000 in
set_option maxHeartbeats 4000000 in
theorem twCert_c {w : World} {a0 a1 a2 a3 : Option Addr} {k0 c0 k1 c1 k2 c2 k3 c3 : Nat} {X0 X1 X2 X3 : Nat → Nm} (h0 : Rl w a0 k0 X0) (h1 : Rl w a1 k1 X1) (h2 : Rl w a2 k2 X2) (h3 : Rl w a3 k3 X3) (hk0 : k0 ≤ 10000) (hk1 : k1 ≤ 10000) (hk2 : k2 ≤ 10000) (hk3 : k3 ≤ 10000) (hl0 : ∀ j, j < k0 → (X0 j).n ≤ 1000 ∧ (X0 j).m ≤ 1000) (hl1 : ∀ j, j < k1 → (X1 j).n ≤ 1000 ∧ (X1 j).m ≤ 1000) (hl2 : ∀ j, j < k2 → (X2 j).n ≤ 1000 ∧ (X2 j).m ≤ 1000) (hl3 : ∀ j, j < k3 → (X3 j).n ≤ 1000 ∧ (X3 j).m ≤ 1000) :
    Calls Try.prog 27 #[.agg #[.slice a0 k0 c0, .slice a1 k1 c1, .slice a2 k2 c2, .slice a3 k3 c3]] w fun e w' => TwCertAns w w' e k0 X0 k1 X1 k2 X2 k3 X3 := by
  have C0 := hid (fun W (hW : Below w.heap.size w W) => twins_c (w := W) (cap := c0) (h0.below hW) hk0 hl0)
  have C1 := hid (fun W (hW : Below w.heap.size w W) => twins_c (w := W) (cap := c1) (h1.below hW) hk1 hl1)
  have C2 := hid (fun W (hW : Below w.heap.size w W) => twins_c (w := W) (cap := c2) (h2.below hW) hk2 hl2)
  have C3 := hid (fun W (hW : Below w.heap.size w W) => twins_c (w := W) (cap := c3) (h3.below hW) hk3 hl3)
  clear h0 h1 h2 h3
  have hb := below_alloc (below_alloc (Below.refl w.heap.size w) (.cells #[.slice a0 k0 c0, .slice a1 k1 c1, .slice a2 k2 c2, .slice a3 k3 c3] 55)) (.cells #[.slice none 0 0, .slice none 0 0, .slice none 0 0, .slice none 0 0] 55)
  have B1 : Bk ((w.alloc (.cells #[.slice a0 k0 c0, .slice a1 k1 c1, .slice a2 k2 c2, .slice a3 k3 c3] 55)).alloc (.cells #[.slice none 0 0, .slice none 0 0, .slice none 0 0, .slice none 0 0] 55)) w.heap.size [.slice a0 k0 c0, .slice a1 k1 c1, .slice a2 k2 c2, .slice a3 k3 c3] 55 := (bk_new w [.slice a0 k0 c0, .slice a1 k1 c1, .slice a2 k2 c2, .slice a3 k3 c3] 55).below (below_alloc (Below.refl _ _) (.cells #[.slice none 0 0, .slice none 0 0, .slice none 0 0, .slice none 0 0] 55))
  have B2 : Bk ((w.alloc (.cells #[.slice a0 k0 c0, .slice a1 k1 c1, .slice a2 k2 c2, .slice a3 k3 c3] 55)).alloc (.cells #[.slice none 0 0, .slice none 0 0, .slice none 0 0, .slice none 0 0] 55)) (w.heap.size + 1) [.slice none 0 0, .slice none 0 0, .slice none 0 0, .slice none 0 0] 55 := by
    have := bk_new (w.alloc (.cells #[.slice a0 k0 c0, .slice a1 k1 c1, .slice a2 k2 c2, .slice a3 k3 c3] 55)) [.slice none 0 0, .slice none 0 0, .slice none 0 0, .slice none 0 0] 55
    rw [size_alloc1] at this
    exact this
  have hsz : ((w.alloc (.cells #[.slice a0 k0 c0, .slice a1 k1 c1, .slice a2 k2 c2, .slice a3 k3 c3] 55)).alloc (.cells #[.slice none 0 0, .slice none 0 0, .slice none 0 0, .slice none 0 0] 55)).heap.size = w.heap.size + 1 + 1 := by simp
  obtain ⟨P, hP⟩ : ∃ P : Ending → World → Prop, P = fun e w' => TwCertAns w w' e k0 X0 k1 X1 k2 X2 k3 X3 := ⟨_, rfl⟩
  rw [← hP]
  have HA := hid hP
  clear hP
  go_enter Try.func27, Try.ntmps27
  go_upto_region 1 with fail
  generalize (w.alloc (.cells #[.slice a0 k0 c0, .slice a1 k1 c1, .slice a2 k2 c2, .slice a3 k3 c3] 55)).alloc (.cells #[.slice none 0 0, .slice none 0 0, .slice none 0 0, .slice none 0 0] 55) = w1 at *
  have hbd := Below.drew (Below.refl w1.heap.size w1)
  replace B1 := B1.below hbd; replace B2 := B2.below hbd
  have hsz1 : w1.drew.heap.size = w.heap.size + 1 + 1 := hsz
  have HW := hid (hb.trans (hbd.mono hb.size))
  clear hbd hb hsz
  have r0 := B1.cell (j := 0) rfl
  have r1 := B1.cell (j := 1) rfl
  have r2 := B1.cell (j := 2) rfl
  have r3 := B1.cell (j := 3) rfl
  refine wp_region_held_drew (S := (fun w' => w'.cell? ⟨w.heap.size, 0, none⟩ = some (.slice a0 k0 c0) ∧ w'.cell? ⟨w.heap.size, 1, none⟩ = some (.slice a1 k1 c1) ∧ w'.cell? ⟨w.heap.size, 2, none⟩ = some (.slice a2 k2 c2) ∧ w'.cell? ⟨w.heap.size, 3, none⟩ = some (.slice a3 k3 c3))) (by kernel_rfl) ?_ (fun hHeld => ?_)
  · exact ⟨r0, r1, r2, r3⟩
  generalize w1.drew = wd at *
  refine wpAnyH_take (i := 0) (v := ?_) rfl (by kernel_rfl) (by kernel_rfl) (by kernel_rfl) (fun _ _ _ h => h) (Or.inl ⟨by rfl, ?_⟩) (by assumption) ?_
  rotate_left
  (focus (intro w0 hSw; (try dsimp only at hSw); go_simp <;> with_reducible rfl))
  simp only [List.getElem_toArray, List.getElem_cons_zero, Act.put, List.setIfInBounds_toArray, List.set_cons_zero, List.set_cons_succ]
  refine wpAnyH_take (i := 1) (v := ?_) rfl (by kernel_rfl) (by kernel_rfl) (by kernel_rfl) (fun _ _ _ h => h) (Or.inl ⟨by rfl, ?_⟩) (by assumption) ?_
  rotate_left
  (focus (intro w0 hSw; (try dsimp only at hSw); go_simp <;> with_reducible rfl))
  simp only [List.getElem_toArray, List.getElem_cons_succ, List.getElem_cons_zero, Act.put, List.setIfInBounds_toArray, List.set_cons_zero, List.set_cons_succ]
  refine wpAnyH_take (i := 3) (v := ?_) rfl (by kernel_rfl) (by kernel_rfl) (by kernel_rfl) (fun _ _ _ h => h) (Or.inl ⟨by rfl, ?_⟩) (by assumption) ?_
  rotate_left
  (focus (intro w0 hSw; (try dsimp only at hSw); go_simp <;> with_reducible rfl))
  simp only [List.getElem_toArray, List.getElem_cons_succ, List.getElem_cons_zero, Act.put, List.setIfInBounds_toArray, List.set_cons_zero, List.set_cons_succ]
  refine wpAnyH_take (i := 4) (v := ?_) rfl (by kernel_rfl) (by kernel_rfl) (by kernel_rfl) (fun _ _ _ h => h) (Or.inl ⟨by rfl, ?_⟩) (by assumption) ?_
  rotate_left
  (focus (intro w0 hSw; (try dsimp only at hSw); go_simp <;> with_reducible rfl))
  simp only [List.getElem_toArray, List.getElem_cons_succ, List.getElem_cons_zero, Act.put, List.setIfInBounds_toArray, List.set_cons_zero, List.set_cons_succ]
  refine wpAnyH_take (i := 6) (v := ?_) rfl (by kernel_rfl) (by kernel_rfl) (by kernel_rfl) (fun _ _ _ h => h) (Or.inl ⟨by rfl, ?_⟩) (by assumption) ?_
  rotate_left
  (focus (intro w0 hSw; (try dsimp only at hSw); go_simp <;> with_reducible rfl))
  simp only [List.getElem_toArray, List.getElem_cons_succ, List.getElem_cons_zero, Act.put, List.setIfInBounds_toArray, List.set_cons_zero, List.set_cons_succ]
  refine wpAnyH_take (i := 7) (v := ?_) rfl (by kernel_rfl) (by kernel_rfl) (by kernel_rfl) (fun _ _ _ h => h) (Or.inl ⟨by rfl, ?_⟩) (by assumption) ?_
  rotate_left
  (focus (intro w0 hSw; (try dsimp only at hSw); go_simp <;> with_reducible rfl))
  simp only [List.getElem_toArray, List.getElem_cons_succ, List.getElem_cons_zero, Act.put, List.setIfInBounds_toArray, List.set_cons_zero, List.set_cons_succ]
  refine wpAnyH_take (i := 9) (v := ?_) rfl (by kernel_rfl) (by kernel_rfl) (by kernel_rfl) (fun _ _ _ h => h) (Or.inl ⟨by rfl, ?_⟩) (by assumption) ?_
  rotate_left
  (focus (intro w0 hSw; (try dsimp only at hSw); go_simp <;> with_reducible rfl))
  simp only [List.getElem_toArray, List.getElem_cons_succ, List.getElem_cons_zero, Act.put, List.setIfInBounds_toArray, List.set_cons_zero, List.set_cons_succ]
  refine wpAnyH_take (i := 10) (v := ?_) rfl (by kernel_rfl) (by kernel_rfl) (by kernel_rfl) (fun _ _ _ h => h) (Or.inl ⟨by rfl, ?_⟩) (by assumption) ?_
  rotate_left
  (focus (intro w0 hSw; (try dsimp only at hSw); go_simp <;> with_reducible rfl))
  simp only [List.getElem_toArray, List.getElem_cons_succ, List.getElem_cons_zero, Act.put, List.setIfInBounds_toArray, List.set_cons_zero, List.set_cons_succ]
  refine wpAnyH_ready (rs := [2]) (by kernel_rfl) (by simp) ?_
  refine AllReadyH.cons (o := _) rfl (fun K hK => ?_) ?_
  rotate_left
  exact AllReadyH.nil
  go_simp
  go_at_call 14
  refine (C0.out _ HW.out).mono ?_
  rintro e w2 ⟨b0, d0, Y0, rfl, hb0, hd0, HQ0⟩
  replace B1 := B1.below hb0; replace B2 := B2.below hb0
  have HW0 := hid (HW.out.trans (hb0.mono HW.out.size))
  (try go_wp2_with fail)
  refine hK.out _ _ ?_ (fun hH0 => ?_)
  · ((try dsimp only); (refine ⟨?_, ?_, ?_, ?_⟩ <;> repeat (with_reducible first | assumption | refine kCb (by assumption) ?_)))
  clear hK K
  try simp only [Act.put, List.setIfInBounds_toArray, List.set_cons_zero, List.set_cons_succ]
  refine wpAnyH_ready (rs := [5]) (by kernel_rfl) (by simp) ?_
  refine AllReadyH.cons (o := _) rfl (fun K hK => ?_) ?_
  rotate_left
  exact AllReadyH.nil
  go_simp
  go_at_call 14
  refine (C1.out _ HW0.out).mono ?_
  rintro e w3 ⟨b1, d1, Y1, rfl, hb1, hd1, HQ1⟩
  replace B1 := B1.below hb1; replace B2 := B2.below hb1
  have HW1 := hid (HW0.out.trans (hb1.mono HW0.out.size))
  replace HQ0 : Hid (Rl w3 b0 k0 Y0 ∧ ∀ j, j < k0 → Sn (X0 j) (Y0 j)) := ⟨HQ0.out.1.below hb1, HQ0.out.2⟩
  (try go_wp2_with fail)
  refine hK.out _ _ ?_ (fun hH1 => ?_)
  · ((try dsimp only); (refine ⟨?_, ?_, ?_, ?_⟩ <;> repeat (with_reducible first | assumption | refine kCb (by assumption) ?_)))
  clear hK K
  try simp only [Act.put, List.setIfInBounds_toArray, List.set_cons_zero, List.set_cons_succ]
  refine wpAnyH_ready (rs := [8]) (by kernel_rfl) (by simp) ?_
  refine AllReadyH.cons (o := _) rfl (fun K hK => ?_) ?_
  rotate_left
  exact AllReadyH.nil
  go_simp
  go_at_call 14
  refine (C2.out _ HW1.out).mono ?_
  rintro e w4 ⟨b2, d2, Y2, rfl, hb2, hd2, HQ2⟩
  replace B1 := B1.below hb2; replace B2 := B2.below hb2
  have HW2 := hid (HW1.out.trans (hb2.mono HW1.out.size))
  replace HQ0 : Hid (Rl w4 b0 k0 Y0 ∧ ∀ j, j < k0 → Sn (X0 j) (Y0 j)) := ⟨HQ0.out.1.below hb2, HQ0.out.2⟩
  replace HQ1 : Hid (Rl w4 b1 k1 Y1 ∧ ∀ j, j < k1 → Sn (X1 j) (Y1 j)) := ⟨HQ1.out.1.below hb2, HQ1.out.2⟩
  (try go_wp2_with fail)
  refine hK.out _ _ ?_ (fun hH2 => ?_)
  · ((try dsimp only); (refine ⟨?_, ?_, ?_, ?_⟩ <;> repeat (with_reducible first | assumption | refine kCb (by assumption) ?_)))
  clear hK K
  try simp only [Act.put, List.setIfInBounds_toArray, List.set_cons_zero, List.set_cons_succ]
  refine wpAnyH_ready (rs := [11]) (by kernel_rfl) (by simp) ?_
  refine AllReadyH.cons (o := _) rfl (fun K hK => ?_) ?_
  rotate_left
  exact AllReadyH.nil
  go_simp
  go_at_call 14
  refine (C3.out _ HW2.out).mono ?_
  rintro e w5 ⟨b3, d3, Y3, rfl, hb3, hd3, HQ3⟩
  replace B1 := B1.below hb3; replace B2 := B2.below hb3
  have HW3 := hid (HW2.out.trans (hb3.mono HW2.out.size))
  replace HQ0 : Hid (Rl w5 b0 k0 Y0 ∧ ∀ j, j < k0 → Sn (X0 j) (Y0 j)) := ⟨HQ0.out.1.below hb3, HQ0.out.2⟩
  replace HQ1 : Hid (Rl w5 b1 k1 Y1 ∧ ∀ j, j < k1 → Sn (X1 j) (Y1 j)) := ⟨HQ1.out.1.below hb3, HQ1.out.2⟩
  replace HQ2 : Hid (Rl w5 b2 k2 Y2 ∧ ∀ j, j < k2 → Sn (X2 j) (Y2 j)) := ⟨HQ2.out.1.below hb3, HQ2.out.2⟩
  (try go_wp2_with fail)
  refine hK.out _ _ ?_ (fun hH3 => ?_)
  · ((try dsimp only); (refine ⟨?_, ?_, ?_, ?_⟩ <;> repeat (with_reducible first | assumption | refine kCb (by assumption) ?_)))
  clear hK K
  try simp only [Act.put, List.setIfInBounds_toArray, List.set_cons_zero, List.set_cons_succ]
  refine wpAnyH_take (i := 12) (v := ?_) rfl (by kernel_rfl) (by kernel_rfl) (by kernel_rfl) (fun _ _ _ h => h) (Or.inl ⟨by rfl, ?_⟩) (by assumption) ?_
  rotate_left
  (focus (intro w0 hSw; (try dsimp only at hSw); go_simp <;> with_reducible rfl))
  simp only [List.getElem_toArray, List.getElem_cons_succ, List.getElem_cons_zero, Act.put, List.setIfInBounds_toArray, List.set_cons_zero, List.set_cons_succ]
  have l0 := B2.cell (j := 0) rfl
  have l1 := B2.cell (j := 1) rfl
  have l2 := B2.cell (j := 2) rfl
  have l3 := B2.cell (j := 3) rfl
  have ff := B2.frozen
  refine wpAnyH_ready (rs := [13]) (by kernel_rfl) (by simp) ?_
  refine AllReadyH.cons (o := _) rfl (fun K hK => ?_) ?_
  rotate_left
  exact AllReadyH.nil
  go_simp
  obtain ⟨hx1, hx2, hx3⟩ := st_new [.slice b0 k0 d0, .slice b1 k1 d1, .slice b2 k2 d2, .slice b3 k3 d3] B2 (nou_list (fun u hu q => by simp at hu; first | (subst hu; simp) | (rcases hu with rfl | rfl <;> simp) | (rcases hu with rfl | rfl | rfl <;> simp))) HW3.out (Nat.le_succ _)
  have hnb := bk_nob B2 (fun v hv => by simp at hv; subst hv; exact ⟨_, _, _, rfl⟩)
  have B9 := stl_bk [.slice b0 k0 d0, .slice b1 k1 d1, .slice b2 k2 d2, .slice b3 k3 d3] _ 0 _ rfl B2
  obtain ⟨w9, hw9⟩ : ∃ x, stl (w.heap.size + 1) 0 [.slice b0 k0 d0, .slice b1 k1 d1, .slice b2 k2 d2, .slice b3 k3 d3] w5 = x := ⟨_, rfl⟩
  rw [show ((((w5.setCell ⟨w.heap.size + 1, 0, none⟩ (.slice b0 k0 d0)).setCell ⟨w.heap.size + 1, 1, none⟩ (.slice b1 k1 d1)).setCell ⟨w.heap.size + 1, 2, none⟩ (.slice b2 k2 d2)).setCell ⟨w.heap.size + 1, 3, none⟩ (.slice b3 k3 d3)) = w9 from hw9]
  rw [hw9] at hx1 hx2 hx3 B9
  replace B9 : Bk w9 (w.heap.size + 1) [.slice b0 k0 d0, .slice b1 k1 d1, .slice b2 k2 d2, .slice b3 k3 d3] _ := B9
  have B8 := B1.of (hx3 w.heap.size (by omega))
  have e0 := B8.cell (j := 0) rfl
  have e1 := B8.cell (j := 1) rfl
  have e2 := B8.cell (j := 2) rfl
  have e3 := B8.cell (j := 3) rfl
  clear hw9 ff l0 l1 l2 l3
  refine hK.out _ _ ⟨e0, e1, e2, e3⟩ (fun hH9 => ?_)
  clear hK K
  try simp only [Act.put]
  have l0 := B9.cell (j := 0) rfl
  have l1 := B9.cell (j := 1) rfl
  have l2 := B9.cell (j := 2) rfl
  have l3 := B9.cell (j := 3) rfl
  refine wpAnyH_done (by kernel_rfl) ?_ _
  have HX : Hid (P (.returned (.agg #[.slice b0 k0 d0, .slice b1 k1 d1, .slice b2 k2 d2, .slice b3 k3 d3])) w9) := by
    rw [HA.out]
    exact ⟨b0, d0, Y0, b1, d1, Y1, b2, d2, Y2, b3, d3, Y3, rfl, hx1, ⟨hd0, hd1, hd2, hd3⟩, ⟨HQ0.out.1.st hx2 hx3 hnb, HQ0.out.2⟩, ⟨HQ1.out.1.st hx2 hx3 hnb, HQ1.out.2⟩, ⟨HQ2.out.1.st hx2 hx3 hnb, HQ2.out.2⟩, ⟨HQ3.out.1.st hx2 hx3 hnb, HQ3.out.2⟩⟩
  clear hx1 hx2 hx3 hnb B1 B2 B8 hHeld hH9 HW HA HQ0 C0 HW0 hH0 hb0 HQ1 C1 HW1 hH1 hb1 HQ2 C2 HW2 hH2 hb2 HQ3 C3 HW3 hH3 hb3
  go_wp2
  exact bodyPost_ret (v := .agg #[.slice b0 k0 d0, .slice b1 k1 d1, .slice b2 k2 d2, .slice b3 k3 d3]) (by simp [results, Try.results27, go_sem, l0, l1, l2, l3]) rfl HX.out
end Go.Proofs.Ytllpllebmknmpaa
namespace Go.Proofs.Ytllpllebmknmpaa
open Go.RowKit

set_option maxRecDepth 100000 in
set_option maxHeartbeats 4000000 in
theorem samesEq_c {w : World} {L L' : Nat} {ao bo : Option Addr} {k ca cb : Nat} {p : List Rat} (ha : Rf L w ao p) (hb : Rf L' w bo p) (hk : p.length = k) (hk2 : k ≤ 1048576) (h1 : L ≤ 1048576) (h2 : L' ≤ 1048576) :
    Calls Try.prog 16 #[.slice ao k ca, .slice bo k cb] w fun e w' => e = .returned (.bool true) ∧ Below w.heap.size w w' := by
  have HA := hid ha; have HB := hid hb
  have hkk : (((k : Nat) : Int) != ((k : Nat) : Int)) = false := by simp
  clear ha hb
  go_enter Try.func16, Try.ntmps16
  go_wp2_with fail
  go_loopw [13] (fun t wr => ∃ (i : Nat), i ≤ k ∧ t = .int .i64 i ∧ Hid (Below w.heap.size w wr)) (fun t _ => k - (intOf t).toNat)
  case atStart => exact ⟨0, by omega, rfl, Below.refl _ _⟩
  case round =>
    obtain ⟨i, hi, rfl, HW⟩ := hrel
    by_cases hlt : i < k
    · obtain ⟨q, hq⟩ : ∃ q, p[i]? = some q := ⟨_, List.getElem?_eq_getElem (by omega)⟩
      obtain ⟨b, o, ⟨ts, tx, tn, tc, tf, ty, tm, td, tg⟩, rfl, hc, hr⟩ := (HA.out.below HW.out) i q hq
      obtain ⟨b', o', ⟨ss, sx, sn, sc, sf, sy, sm, sd, sg⟩, rfl, hc', hr'⟩ := (HB.out.below HW.out) i q hq
      obtain ⟨x0, x1, x2⟩ := hc
      obtain ⟨p0, p1, p2⟩ := hc'
      replace x0 : wr.cell? ⟨b, o + i * 3, none⟩ = some (.bool ts) := x0
      replace x1 : wr.cell? ⟨b, o + i * 3 + 1, none⟩ = some (.slice tx tn tc) := x1
      replace x2 : wr.cell? ⟨b, o + i * 3 + 2, none⟩ = some (.slice ty tm td) := x2
      replace p0 : wr.cell? ⟨b', o' + i * 3, none⟩ = some (.bool ss) := p0
      replace p1 : wr.cell? ⟨b', o' + i * 3 + 1, none⟩ = some (.slice sx sn sc) := p1
      replace p2 : wr.cell? ⟨b', o' + i * 3 + 2, none⟩ = some (.slice sy sm sd) := p2
      have CS : Hid (∀ W, Below wr.heap.size wr W → Calls Try.prog 30 #[.agg #[.bool ts, .slice tx tn tc, .slice ty tm td], .agg #[.bool ss, .slice sx sn sc, .slice sy sm sd]] W fun e w' => e = .returned (.bool true) ∧ Below W.heap.size W w') := fun W hW =>
        rSameEq_c (Rn.below hr hW) (Rn.below hr' hW) h1 h2
      have i2 : ((i : Nat) : Int) < ((k : Nat) : Int) := by omega
      clear hr hr' hq
      go_upto_region 6 with fail
      go_region_held3 (fun w' => w'.cell? ⟨b, o + i * 3, none⟩ = some (.bool ts) ∧ w'.cell? ⟨b, o + i * 3 + 1, none⟩ = some (.slice tx tn tc) ∧ w'.cell? ⟨b, o + i * 3 + 2, none⟩ = some (.slice ty tm td) ∧ w'.cell? ⟨b', o' + i * 3, none⟩ = some (.bool ss) ∧ w'.cell? ⟨b', o' + i * 3 + 1, none⟩ = some (.slice sx sn sc) ∧ w'.cell? ⟨b', o' + i * 3 + 2, none⟩ = some (.slice sy sm sd))
        (refine ⟨?_, ?_, ?_, ?_, ?_, ?_⟩ <;> repeat (with_reducible first | assumption | refine kCd ?_ | refine kCb (by assumption) ?_))
        ((go_at_call 30; with_reducible refine (CS.out _ (by repeat (with_reducible first | assumption | exact Below.refl _ _ | refine kBdn ?_ | refine Below.drew ?_))).mono ?_; rintro e w5 ⟨rfl, hb5⟩))
      all_goals
        (have HW5 : Hid (Below w.heap.size w w5) := hid (HW.out.trans (Below.mono (show Below wr.heap.size wr w5 by repeat (with_reducible first | assumption | exact Below.refl _ _ | refine kBdn ?_ | refine Below.drew ?_ | refine kBb (by assumption) ?_)) HW.out.size))
         clear x0 x1 x2 p0 p1 p2 CS hb5
         go_wp2
         go_roundw
         case rel => exact ⟨i + 1, by omega, by go_num, (by first | exact HW5.out | exact HW5.out.drew | exact below_drewN HW5.out _)⟩
         case measure => simp [intOf]; omega)
    · have i2 : ¬ (((i : Nat) : Int) < ((k : Nat) : Int)) := by omega
      go_wp2
      go_ret
      exact ⟨rfl, HW.out⟩

end Go.Proofs.Ytllpllebmknmpaa
namespace Go.Proofs.Ytllpllebmknmpaa
open Go.RowKit

theorem rf_nil (L : Nat) (w : World) (ao : Option Addr) : Rf L w ao [] := fun j q hj => by simp at hj
theorem El.below {w w' ao k E} (h : El w ao k E) (hb : Below w.heap.size w w') : El w' ao k E := fun j hj => by
  obtain ⟨b, o, e, h1⟩ := h j hj
  exact ⟨b, o, e, kCb hb h1⟩
set_option maxRecDepth 100000 in
set_option maxHeartbeats 4000000 in
theorem sameCt_c {w : World} {L L2 : Nat} {a0 b0 a1 b1 a2 b2 a3 b3 : Option Addr} {k0 c0 d0 k1 c1 d1 k2 c2 d2 k3 c3 d3 : Nat} {p0 p1 p2 p3 : List Rat} (ha0 : Rf L w a0 p0) (hb0 : Rf L2 w b0 p0) (hk0 : p0.length = k0) (hl0 : k0 ≤ 1048576) (ha1 : Rf L w a1 p1) (hb1 : Rf L2 w b1 p1) (hk1 : p1.length = k1) (hl1 : k1 ≤ 1048576) (ha2 : Rf L w a2 p2) (hb2 : Rf L2 w b2 p2) (hk2 : p2.length = k2) (hl2 : k2 ≤ 1048576) (ha3 : Rf L w a3 p3) (hb3 : Rf L2 w b3 p3) (hk3 : p3.length = k3) (hl3 : k3 ≤ 1048576) (hL : L ≤ 1048576) (hL2 : L2 ≤ 1048576) :
    Calls Try.prog 28 #[.agg #[.slice a0 k0 c0, .slice a1 k1 c1, .slice a2 k2 c2, .slice a3 k3 c3], .agg #[.slice b0 k0 d0, .slice b1 k1 d1, .slice b2 k2 d2, .slice b3 k3 d3]] w fun e w' => e = .returned (.bool true) ∧ Below w.heap.size w w' := by
  have C0 := hid (fun W (hW : Below w.heap.size w W) => samesEq_c (w := W) (ca := c0) (cb := d0) (ha0.below hW) (hb0.below hW) hk0 hl0 hL hL2)
  have C1 := hid (fun W (hW : Below w.heap.size w W) => samesEq_c (w := W) (ca := c1) (cb := d1) (ha1.below hW) (hb1.below hW) hk1 hl1 hL hL2)
  have C2 := hid (fun W (hW : Below w.heap.size w W) => samesEq_c (w := W) (ca := c2) (cb := d2) (ha2.below hW) (hb2.below hW) hk2 hl2 hL hL2)
  have C3 := hid (fun W (hW : Below w.heap.size w W) => samesEq_c (w := W) (ca := c3) (cb := d3) (ha3.below hW) (hb3.below hW) hk3 hl3 hL hL2)
  clear ha0 hb0 ha1 hb1 ha2 hb2 ha3 hb3
  have hb := below_alloc (below_alloc (Below.refl w.heap.size w) (.cells #[.slice a0 k0 c0, .slice a1 k1 c1, .slice a2 k2 c2, .slice a3 k3 c3] 55)) (.cells #[.slice b0 k0 d0, .slice b1 k1 d1, .slice b2 k2 d2, .slice b3 k3 d3] 55)
  have B1 : Bk ((w.alloc (.cells #[.slice a0 k0 c0, .slice a1 k1 c1, .slice a2 k2 c2, .slice a3 k3 c3] 55)).alloc (.cells #[.slice b0 k0 d0, .slice b1 k1 d1, .slice b2 k2 d2, .slice b3 k3 d3] 55)) w.heap.size [.slice a0 k0 c0, .slice a1 k1 c1, .slice a2 k2 c2, .slice a3 k3 c3] 55 := (bk_new w [.slice a0 k0 c0, .slice a1 k1 c1, .slice a2 k2 c2, .slice a3 k3 c3] 55).below (below_alloc (Below.refl _ _) (.cells #[.slice b0 k0 d0, .slice b1 k1 d1, .slice b2 k2 d2, .slice b3 k3 d3] 55))
  have B2 : Bk ((w.alloc (.cells #[.slice a0 k0 c0, .slice a1 k1 c1, .slice a2 k2 c2, .slice a3 k3 c3] 55)).alloc (.cells #[.slice b0 k0 d0, .slice b1 k1 d1, .slice b2 k2 d2, .slice b3 k3 d3] 55)) (w.heap.size + 1) [.slice b0 k0 d0, .slice b1 k1 d1, .slice b2 k2 d2, .slice b3 k3 d3] 55 := by
    have := bk_new (w.alloc (.cells #[.slice a0 k0 c0, .slice a1 k1 c1, .slice a2 k2 c2, .slice a3 k3 c3] 55)) [.slice b0 k0 d0, .slice b1 k1 d1, .slice b2 k2 d2, .slice b3 k3 d3] 55
    rw [size_alloc1] at this
    exact this
  go_enter Try.func28, Try.ntmps28
  go_upto_region 1 with fail
  generalize (w.alloc (.cells #[.slice a0 k0 c0, .slice a1 k1 c1, .slice a2 k2 c2, .slice a3 k3 c3] 55)).alloc (.cells #[.slice b0 k0 d0, .slice b1 k1 d1, .slice b2 k2 d2, .slice b3 k3 d3] 55) = w1 at *
  have HB := hid hb; have HB1 := hid B1; have HB2 := hid B2
  clear hb B1 B2
  have r0 := HB1.out.cell (j := 0) rfl
  have l0 := HB2.out.cell (j := 0) rfl
  go_wp2_with fail
  refine (C0.out _ HB.out).mono ?_
  rintro e w2 ⟨rfl, hb0⟩
  replace HB := hid (HB.out.trans (hb0.mono HB.out.size)); replace HB1 := hid (HB1.out.below hb0); replace HB2 := hid (HB2.out.below hb0)
  clear hb0 r0 l0
  have r1 := HB1.out.cell (j := 1) rfl
  have l1 := HB2.out.cell (j := 1) rfl
  go_wp2_with fail
  refine (C1.out _ HB.out).mono ?_
  rintro e w3 ⟨rfl, hb1⟩
  replace HB := hid (HB.out.trans (hb1.mono HB.out.size)); replace HB1 := hid (HB1.out.below hb1); replace HB2 := hid (HB2.out.below hb1)
  clear hb1 r1 l1
  have r2 := HB1.out.cell (j := 2) rfl
  have l2 := HB2.out.cell (j := 2) rfl
  go_wp2_with fail
  refine (C2.out _ HB.out).mono ?_
  rintro e w4 ⟨rfl, hb2⟩
  replace HB := hid (HB.out.trans (hb2.mono HB.out.size)); replace HB1 := hid (HB1.out.below hb2); replace HB2 := hid (HB2.out.below hb2)
  clear hb2 r2 l2
  have r3 := HB1.out.cell (j := 3) rfl
  have l3 := HB2.out.cell (j := 3) rfl
  go_wp2_with fail
  refine (C3.out _ HB.out).mono ?_
  rintro e w5 ⟨rfl, hb3⟩
  replace HB := hid (HB.out.trans (hb3.mono HB.out.size)); replace HB1 := hid (HB1.out.below hb3); replace HB2 := hid (HB2.out.below hb3)
  clear hb3 r3 l3
  go_wp2
  go_ret
  exact ⟨rfl, HB.out⟩
end Go.Proofs.Ytllpllebmknmpaa
namespace Go.Proofs.Ytllpllebmknmpaa
open Go.RowKit

/-- A value that is a list of the same numbers. -/
def RS (k : Nat) (X : Nat → Nm) (v : Value) (w : World) : Prop := ∃ ao c Y, v = .slice ao k c ∧ Rl w ao k Y ∧ ∀ j, j < k → Sn (X j) (Y j)
theorem RS.below {k X v w w'} (h : RS k X v w) (hb : Below w.heap.size w w') : RS k X v w' := by
  obtain ⟨ao, c, Y, h1, h2, h3⟩ := h
  exact ⟨ao, c, Y, h1, h2.below hb, h3⟩
theorem RS.st {k X v} {w w' : World} {B : Nat} (h : RS k X v w) (hk : Kp w w') (hne : ∀ b, b ≠ B → w'.heap[b]? = w.heap[b]?) (hnb : ∀ o s, w.cell? ⟨B, o, none⟩ ≠ some (.bool s)) : RS k X v w' := by
  obtain ⟨ao, c, Y, h1, h2, h3⟩ := h
  exact ⟨ao, c, Y, h1, h2.st hk hne hnb, h3⟩
theorem Sn.trans {a b c : Nm} (h : Sn a b) (k : Sn b c) : Sn a c := by
  obtain ⟨h1, h2, h3, h4, h5⟩ := h
  obtain ⟨k1, k2, k3, k4, k5⟩ := k
  exact ⟨k1.trans h1, k2.trans h2, k3.trans h3, k4.trans h4, k5.trans h5⟩
theorem Cp.rs {w base g k X Y} {ao : Option Addr} {w0 : World} (h : Cp w base g k k X Y) (hx : Rl w0 ao k X) : RS k X (.slice (some ⟨g, 0, none⟩) k k) w := ⟨_, _, Y, rfl, h.rl hx, fun j hj => (h.el j hj).2.1⟩
/-- Lists with the same numbers, in form, compare equal. -/
theorem sames_of {w : World} {ao bo : Option Addr} {k : Nat} {X Y : Nat → Nm} {K : Nat} (hX : Rl w ao k X) (hY : Rl w bo k Y) (hs : ∀ j, j < k → Sn (X j) (Y j)) (hf : afB k X = true) (hK : ∀ j, j < k → (X j).n ≤ K ∧ (X j).m ≤ K) : ∃ p : List Rat, p.length = k ∧ Rf K w ao p ∧ Rf K w bo p := by
  obtain ⟨p, h1, h2, h3⟩ := rl_rf hX hf hK
  refine ⟨p, h1, h2, fun j q hj => ?_⟩
  have hlt : j < k := by have := (List.getElem?_eq_some_iff.1 hj).1; omega
  obtain ⟨q', h4, h5⟩ := h3 j hlt
  rw [hj] at h4
  obtain rfl := Option.some.inj h4
  obtain ⟨b, o, e, h6, h7⟩ := hY j hlt
  exact ⟨b, o, Y j, e, h6, h5.sn (hs j hlt) h7.1⟩
theorem pnE_sn {k : Nat} {X Y : Nat → Nm} {z : Int} (h : ∀ j, j < k → Sn (X j) (Y j)) : pnE k Y z = pnE k X z := by
  have : afB k Y = afB k X := afr_sn (r := k) (i := 0) (fun j _ hj => h j (by omega))
  unfold pnE
  rw [this]
/-- A list of lists of numbers. -/
def LL (w : World) (ao : Option Addr) (m : Nat) (P : Nat → Option Addr) (K C : Nat → Nat) (X : Nat → Nat → Nm) : Prop :=
  ∀ i, i < m → ∃ b o, ao = some ⟨b, o, none⟩ ∧ w.cell? ⟨b, o + i, none⟩ = some (.slice (P i) (K i) (C i)) ∧ Rl w (P i) (K i) (X i) ∧ K i ≤ 10000 ∧ ∀ j, j < K i → (X i j).n ≤ 1000 ∧ (X i j).m ≤ 1000
theorem LL.below {w w' ao m P K C X} (h : LL w ao m P K C X) (hb : Below w.heap.size w w') : LL w' ao m P K C X := fun i hi => by
  obtain ⟨b, o, e, h1, h2, h3⟩ := h i hi
  exact ⟨b, o, e, kCb hb h1, h2.below hb, h3⟩
def lmin (a b : Int) : Int := lsf (two a b) 2
def lstp (z e : Int) (k : Nat) (X : Nat → Nm) : Int := if (k : Int) = z then (if afB k X = true then e else lmin e 3) else lmin (if afB k X = true then e else lmin e 3) 7
def lstF (z : Int) (K : Nat → Nat) (X : Nat → Nat → Nm) : Nat → Int
  | 0 => 0
  | i + 1 => lstp z (lstF z K X i) (K i) (X i)
theorem pnE_in (k : Nat) (X : Nat → Nm) (z : Int) : pnE k X z = 0 ∨ pnE k X z = 3 ∨ pnE k X z = 7 := by
  unfold pnE
  split
  · split
    · exact .inl rfl
    · exact .inr (.inr rfl)
  · exact .inr (.inl rfl)
theorem lstp_min {z e : Int} {k : Nat} {X : Nat → Nm} (he : e = 0 ∨ e = 3 ∨ e = 7) : lstp z e k X = lmin e (pnE k X z) := by
  unfold lstp pnE
  by_cases h1 : (k : Int) = z
  · by_cases h2 : afB k X = true
    · rw [if_pos h1, if_pos h2, if_pos h2, if_pos h1]; rcases he with rfl | rfl | rfl <;> decide
    · rw [if_pos h1, if_neg h2, if_neg h2]
  · by_cases h2 : afB k X = true
    · rw [if_neg h1, if_pos h2, if_pos h2, if_neg h1]
    · rw [if_neg h1, if_neg h2, if_neg h2]; rcases he with rfl | rfl | rfl <;> decide
theorem lstF_one {z : Int} {K : Nat → Nat} {X : Nat → Nat → Nm} : lstF z K X 1 = pnE (K 0) (X 0) z := by
  show lstp z 0 _ _ = _
  rw [lstp_min (.inl rfl)]
  rcases pnE_in (K 0) (X 0) z with h | h | h <;> rw [h] <;> decide
theorem lstF_two {z : Int} {K : Nat → Nat} {X : Nat → Nat → Nm} : lstF z K X 2 = lmin (pnE (K 0) (X 0) z) (pnE (K 1) (X 1) z) := by
  show lstp z (lstF z K X 1) _ _ = _
  rw [lstF_one, lstp_min (pnE_in _ _ _)]

set_option maxRecDepth 100000 in
set_option maxHeartbeats 4000000 in
theorem lists_c {w : World} {ao : Option Addr} {m cap : Nat} {P : Nat → Option Addr} {K C : Nat → Nat} {X : Nat → Nat → Nm} {z : Int} (h : LL w ao m P K C X) (hm : m ≤ 1048576) :
    Calls Try.prog 15 #[.int .i64 z, .slice ao m cap] w fun e w' => e = .returned (.int .i64 (lstF z K X m)) ∧ Below w.heap.size w w' := by
  have H := hid h
  clear h
  go_enter Try.func15, Try.ntmps15
  go_wp2_with fail
  go_loopw [5, 10] (fun l t wr => ∃ (i : Nat) (v : Int), i ≤ m ∧ t = .int .i64 i ∧ l = .int .i64 v ∧ Hid (Below w.heap.size w wr) ∧ Hid (lstF z K X i = v)) (fun _ t _ => m - (intOf t).toNat)
  case atStart => exact ⟨0, 0, by omega, rfl, rfl, Below.refl _ _, rfl⟩
  case round =>
    obtain ⟨i, v, hi, rfl, rfl, HB, HI⟩ := hrel
    by_cases hlt : i < m
    · obtain ⟨b, o, rfl, hc, hx, hk, hl⟩ := (H.out.below HB.out) i hlt
      obtain ⟨p, hp⟩ : ∃ p, P i = p := ⟨_, rfl⟩
      obtain ⟨k, hk2⟩ : ∃ k, K i = k := ⟨_, rfl⟩
      obtain ⟨c, hc2⟩ : ∃ c, C i = c := ⟨_, rfl⟩
      have hT : lstF z K X (i + 1) = lstp z v k (X i) := by show lstp z (lstF z K X i) (K i) (X i) = _; rw [HI.out, hk2]
      rw [hp, hk2, hc2] at hc
      rw [hp, hk2] at hx
      rw [hk2] at hk hl
      have CF := hid (forms_c (cap := c) hx hk hl)
      have HT := hid hT
      have i1 : ((i : Nat) : Int) < ((m : Nat) : Int) := by omega
      clear hp hk2 hc2 hT hx hl HI
      cases hf : afB k (X i)
      · rw [hf] at CF
        have HF := hid hf
        clear hf
        obtain ⟨v1, hv1⟩ : ∃ v1, lmin v 3 = v1 := ⟨_, rfl⟩
        have HV := hid hv1
        clear hv1
        go_wp2_with fail
        refine CF.out.mono ?_
        rintro e w1 ⟨rfl, hb1⟩
        have HB1 := hid (HB.out.trans (hb1.mono HB.out.size))
        clear hb1
        have hbA := below_alloc (Below.refl w1.heap.size w1) (.cells #[.int .i64 v, .int .i64 3] 3)
        have HEl := hid (two_el (w := w1) (a := v) (b := 3) (t := 3))
        have HB2 := hid (HB1.out.trans (hbA.mono HB1.out.size))
        clear hbA
        go_wp2_with fail
        generalize w1.alloc (.cells #[.int .i64 v, .int .i64 3] 3) = w2 at *
        refine (fLeast_c HEl.out (by decide)).mono ?_
        rintro e w3 ⟨rfl, rfl⟩
        rw [show lsf (two v 3) 2 = v1 from HV.out]
        by_cases hz : ((k : Nat) : Int) = z
        · have hz1 : (((k : Nat) : Int) != z) = false := by simpa using hz
          have HT2 := hid (show lstF z K X (i + 1) = v1 by rw [HT.out, lstp, if_pos hz, if_neg (by rw [HF.out]; decide)]; exact HV.out)
          clear hz HT CF HEl
          go_wp2
          go_roundw
          case rel => exact ⟨i + 1, v1, by omega, by go_num, rfl, HB2.out, HT2.out⟩
          case measure => simp [intOf]; omega
        · have hz1 : (((k : Nat) : Int) != z) = true := by simpa using hz
          obtain ⟨v2, hv2⟩ : ∃ v2, lmin v1 7 = v2 := ⟨_, rfl⟩
          have HT2 := hid (show lstF z K X (i + 1) = v2 by rw [HT.out, lstp, if_neg hz, if_neg (by rw [HF.out]; decide), HV.out]; exact hv2)
          have HV2 := hid hv2
          have hbA := below_alloc (Below.refl w3.heap.size w3) (.cells #[.int .i64 v1, .int .i64 7] 3)
          have HEl2 := hid (two_el (w := w3) (a := v1) (b := 7) (t := 3))
          have HB3 := hid (HB2.out.trans (hbA.mono HB2.out.size))
          clear hz HT CF HEl hv2 hbA
          go_wp2_with fail
          generalize w3.alloc (.cells #[.int .i64 v1, .int .i64 7] 3) = w4 at *
          refine (fLeast_c HEl2.out (by decide)).mono ?_
          rintro e w5 ⟨rfl, rfl⟩
          rw [show lsf (two v1 7) 2 = v2 from HV2.out]
          go_wp2
          go_roundw
          case rel => exact ⟨i + 1, v2, by omega, by go_num, rfl, HB3.out, HT2.out⟩
          case measure => simp [intOf]; omega
      · rw [hf] at CF
        have HF := hid hf
        clear hf
        go_wp2_with fail
        refine CF.out.mono ?_
        rintro e w3 ⟨rfl, hb1⟩
        have HB2 := hid (HB.out.trans (hb1.mono HB.out.size))
        clear hb1
        by_cases hz : ((k : Nat) : Int) = z
        · have hz1 : (((k : Nat) : Int) != z) = false := by simpa using hz
          have HT2 := hid (show lstF z K X (i + 1) = v by rw [HT.out, lstp, if_pos hz, if_pos HF.out])
          clear hz HT CF
          go_wp2
          go_roundw
          case rel => exact ⟨i + 1, v, by omega, by go_num, rfl, HB2.out, HT2.out⟩
          case measure => simp [intOf]; omega
        · have hz1 : (((k : Nat) : Int) != z) = true := by simpa using hz
          obtain ⟨v2, hv2⟩ : ∃ v2, lmin v 7 = v2 := ⟨_, rfl⟩
          have HT2 := hid (show lstF z K X (i + 1) = v2 by rw [HT.out, lstp, if_neg hz, if_pos HF.out]; exact hv2)
          have HV2 := hid hv2
          have hbA := below_alloc (Below.refl w3.heap.size w3) (.cells #[.int .i64 v, .int .i64 7] 3)
          have HEl2 := hid (two_el (w := w3) (a := v) (b := 7) (t := 3))
          have HB3 := hid (HB2.out.trans (hbA.mono HB2.out.size))
          clear hz HT CF hv2 hbA
          go_wp2_with fail
          generalize w3.alloc (.cells #[.int .i64 v, .int .i64 7] 3) = w4 at *
          refine (fLeast_c HEl2.out (by decide)).mono ?_
          rintro e w5 ⟨rfl, rfl⟩
          rw [show lsf (two v 7) 2 = v2 from HV2.out]
          go_wp2
          go_roundw
          case rel => exact ⟨i + 1, v2, by omega, by go_num, rfl, HB3.out, HT2.out⟩
          case measure => simp [intOf]; omega
    · have e1 : i = m := by omega
      have i1 : ¬ (((i : Nat) : Int) < ((m : Nat) : Int)) := by omega
      rw [e1] at HI
      clear e1
      go_wp2
      go_ret
      refine ⟨?_, HB.out⟩
      rw [HI.out]; rfl
end Go.Proofs.Ytllpllebmknmpaa
namespace Go.Proofs.Ytllpllebmknmpaa
open Go.RowKit

/-- Where operation j puts what it yields. -/
def dstOf (ops : Array Oper) (j : Nat) : Option Tmp := (ops[j]?).bind (·.dst)
/-- The operations that operation i waits for. -/
def depsOf (md : Region.Mode) (ops : Array Oper) (i : Nat) : List Nat := match ops[i]? with
  | none => []
  | some o => (o.after.toList.filter (Region.binds md)).map (·.on)
/-- All that those of l wait for, n steps back. -/
def ancs (md : Region.Mode) (ops : Array Oper) : Nat → List Nat → List Nat
  | 0, _ => []
  | n + 1, l => (l.flatMap (depsOf md ops)).eraseDups ++ ancs md ops n (l.flatMap (depsOf md ops)).eraseDups
/-- The state with what those of D (an operation, its slot) yield. -/
def fill (a : Act) (D : List (Nat × Tmp)) (u : Nat → Value) : Act := D.foldl (fun a p => a.put (some p.2) (u p.1)) a
/-- What lies in those slots. -/
def lies (a : Act) (D : List (Nat × Tmp)) (j : Nat) : Value := match D.lookup j with
  | some d => a.tmps.getD d undef
  | none => undef
def updV (u : Nat → Value) (i : Nat) (v : Value) : Nat → Value := fun j => if j = i then v else u j
theorem updV_at (u : Nat → Value) (i : Nat) (v : Value) : updV u i v i = v := by simp [updV]
theorem updV_ne {u : Nat → Value} {i j : Nat} {v : Value} (h : j ≠ i) : updV u i v j = u j := by simp [updV, h]
theorem put_same (a : Act) (d : Tmp) (x y : Value) : (a.put (some d) x).put (some d) y = a.put (some d) y := by
  simp [Act.put]
theorem put_other (a : Act) {d e : Tmp} (h : d ≠ e) (x y : Value) : (a.put (some d) x).put (some e) y = (a.put (some e) y).put (some d) x := by
  simp only [Act.put]
  congr 1
  exact Array.setIfInBounds_comm _ _ h
theorem put_lies (a : Act) (d : Tmp) : a.put (some d) (a.tmps.getD d undef) = a := by
  obtain ⟨t, ds⟩ := a
  simp only [Act.put]
  congr 1
  apply Array.ext_getElem?
  intro i
  rw [Array.getElem?_setIfInBounds]
  split
  · rename_i h
    subst h
    split
    · rename_i h2; simp [h2]
    · rename_i h2; rw [Array.getElem?_eq_none (by omega)]
  · rfl
theorem fill_other {D : List (Nat × Tmp)} {d : Tmp} {u : Nat → Value} (v : Value) : ∀ {a : Act}, d ∉ D.map Prod.snd → (fill a D u).put (some d) v = fill (a.put (some d) v) D u := by
  induction D with
  | nil => intro a _; rfl
  | cons p D ih =>
    intro a h
    simp only [List.map_cons, List.mem_cons, not_or] at h
    show (fill (a.put (some p.2) (u p.1)) D u).put (some d) v = fill ((a.put (some d) v).put (some p.2) (u p.1)) D u
    rw [ih h.2, put_other a (Ne.symm h.1)]
theorem fill_congr {D : List (Nat × Tmp)} {u u' : Nat → Value} : ∀ {a : Act}, (∀ p, p ∈ D → u p.1 = u' p.1) → fill a D u = fill a D u' := by
  induction D with
  | nil => intro a _; rfl
  | cons p D ih =>
    intro a h
    show fill (a.put (some p.2) (u p.1)) D u = fill (a.put (some p.2) (u' p.1)) D u'
    rw [h p (by simp), ih (fun q hq => h q (by simp [hq]))]
theorem fill_put {D : List (Nat × Tmp)} {i : Nat} {d : Tmp} {u : Nat → Value} (v : Value) : ∀ {a : Act}, (D.map Prod.fst).Nodup → (D.map Prod.snd).Nodup → (i, d) ∈ D → (fill a D u).put (some d) v = fill a D (updV u i v) := by
  induction D with
  | nil => intro a _ _ h; cases h
  | cons p D ih =>
    intro a h1 h2 h
    simp only [List.map_cons, List.nodup_cons] at h1 h2
    show (fill (a.put (some p.2) (u p.1)) D u).put (some d) v = fill (a.put (some p.2) (updV u i v p.1)) D (updV u i v)
    by_cases e : p.1 = i
    · have hp : p = (i, d) := by
        rcases List.mem_cons.1 h with h | h
        · exact h.symm
        · exact absurd (by rw [e]; exact List.mem_map_of_mem (f := Prod.fst) h) h1.1
      subst hp
      rw [fill_other v h2.1, put_same, updV_at]
      exact fill_congr (fun q hq => (updV_ne (fun e => h1.1 (by show i ∈ _; rw [← e]; exact List.mem_map_of_mem (f := Prod.fst) hq))).symm)
    · have hm : (i, d) ∈ D := by
        rcases List.mem_cons.1 h with h | h
        · exact absurd (by rw [← h]) e
        · exact h
      rw [ih h1.2 h2.2 hm, updV_ne e]
theorem fill_lies {D : List (Nat × Tmp)} {u : Nat → Value} {a : Act} (h : ∀ p, p ∈ D → u p.1 = a.tmps.getD p.2 undef) : fill a D u = a := by
  induction D with
  | nil => rfl
  | cons p D ih =>
    show fill (a.put (some p.2) (u p.1)) D u = a
    rw [h p (by simp), put_lies]
    exact ih (fun q hq => h q (by simp [hq]))
theorem lies_at {D : List (Nat × Tmp)} {a : Act} : (D.map Prod.fst).Nodup → ∀ p, p ∈ D → lies a D p.1 = a.tmps.getD p.2 undef := by
  intro hn p hp
  have : D.lookup p.1 = some p.2 := by
    induction D with
    | nil => cases hp
    | cons x D ih =>
      simp only [List.map_cons, List.nodup_cons] at hn
      rcases List.mem_cons.1 hp with rfl | hp
      · simp [List.lookup]
      · have hne : p.1 ≠ x.1 := fun e => hn.1 (e ▸ List.mem_map_of_mem (f := Prod.fst) hp)
        rw [List.lookup]
        have : (p.1 == x.1) = false := by simpa using hne
        rw [this]
        exact ih hn.2 hp
  unfold lies
  rw [this]
/-- The slots of D are where its operations put what they yield. -/
def slotsOk (ops : Array Oper) (D : List (Nat × Tmp)) (F : List Nat) : Bool := (D.map Prod.fst == F) && decide (D.map Prod.snd).Nodup && D.all (fun p => dstOf ops p.1 == some p.2)
/-- F may go in whatever order, and those of st come behind all of F. -/
def flowOk (md : Region.Mode) (ops : Array Oper) (listed : Array Bool) (F st : List Nat) : Bool :=
  listed.size == ops.size && F.Nodup &&
  (List.range ops.size).all (fun i => !(listed.getD i false) || (depsOf md ops i).all (fun j => listed.getD j false)) &&
  F.all (fun i => !(listed.getD i true) && decide (i < ops.size) && !(st.contains i) && (depsOf md ops i).all (fun j => decide (j < i) && (listed.getD j false || F.contains j))) &&
  (List.range ops.size).all (fun i => listed.getD i false || F.contains i || st.contains i) &&
  st.all (fun s => !(listed.getD s true) && ((depsOf md ops s).any (fun j => st.contains j) || F.all (fun j => (ancs md ops ops.size [s]).contains j)))
/-- What is listed once all of F is. -/
def fullOf (ops : Array Oper) (st : List Nat) : Array Bool := ((List.range ops.size).map (fun i => !(st.contains i))).toArray

theorem mem_deps {md : Region.Mode} {ops : Array Oper} {i j : Nat} : j ∈ depsOf md ops i ↔ ∃ o, ops[i]? = some o ∧ ∃ e, e ∈ o.after ∧ Region.binds md e = true ∧ e.on = j := by
  unfold depsOf
  cases h : ops[i]? with
  | none => simp
  | some o => simp [and_assoc]
theorem anc_listed {md : Region.Mode} {ops : Array Oper} {listed : Array Bool} (hc : ∀ i j, listed.getD i false = true → j ∈ depsOf md ops i → listed.getD j false = true) :
    ∀ (n : Nat) (l : List Nat), (∀ i, i ∈ l → ∀ j, j ∈ depsOf md ops i → listed.getD j false = true) → ∀ j, j ∈ ancs md ops n l → listed.getD j false = true
  | 0, _, _, j, h => by simp [ancs] at h
  | n + 1, l, hl, j, h => by
    have h1 : ∀ k, k ∈ (l.flatMap (depsOf md ops)).eraseDups → listed.getD k false = true := fun k hk => by
      rw [List.mem_eraseDups, List.mem_flatMap] at hk
      obtain ⟨i, hi, hki⟩ := hk
      exact hl i hi k hki
    simp only [ancs, List.mem_append] at h
    rcases h with h | h
    · exact h1 j h
    · exact anc_listed hc n _ (fun i hi k hk => hc i k (h1 i hi) hk) j h
theorem getD_ft {l : Array Bool} {i : Nat} (h : i < l.size) : l.getD i true = l.getD i false := by simp [Array.getD, h]
/-- How many of F are not listed. -/
def left (listed : Array Bool) : List Nat → Nat
  | [] => 0
  | x :: F => (if listed.getD x false = true then 0 else 1) + left listed F
theorem left_set {listed : Array Bool} {i : Nat} (hi : i < listed.size) (hl : listed.getD i false = false) : ∀ {F : List Nat}, F.Nodup → left listed F = left (listed.setIfInBounds i true) F + (if i ∈ F then 1 else 0)
  | [], _ => by simp [left]
  | x :: F, h => by
    have h' := List.nodup_cons.1 h
    have ih := left_set hi hl h'.2
    have hi' : (listed.setIfInBounds i true).getD i false = true := by simp [Array.getD, hi]
    simp only [left]
    by_cases hx : x = i
    · subst hx
      rw [hi', hl, ih]
      simp [h'.1]; omega
    · have h1 : (listed.setIfInBounds i true).getD x false = listed.getD x false := getD_set_ne false (Ne.symm hx)
      rw [h1, ih]
      have : (i ∈ x :: F) = (i ∈ F) := by simp [Ne.symm hx]
      simp only [this]; omega
theorem left_none {listed : Array Bool} : ∀ {F : List Nat}, left listed F = 0 → ∀ j, j ∈ F → listed.getD j false = true
  | [], _, j, hj => by cases hj
  | x :: F, h, j, hj => by
    simp only [left] at h
    rcases List.mem_cons.1 hj with rfl | hj
    · cases hb : listed.getD j false
      · rw [hb] at h; simp at h
      · rfl
    · exact left_none (by omega) j hj
theorem left_some {listed : Array Bool} : ∀ {F : List Nat}, left listed F ≠ 0 → ∃ j, j ∈ F ∧ listed.getD j false = false
  | [], h => absurd rfl h
  | x :: F, h => by
    cases hb : listed.getD x false
    · exact ⟨x, by simp, hb⟩
    · simp only [left] at h
      rw [hb] at h
      obtain ⟨j, h1, h2⟩ := left_some (F := F) (by simpa using h)
      exact ⟨j, by simp [h1], h2⟩
theorem left_all {listed : Array Bool} : ∀ {F : List Nat}, (∀ j, j ∈ F → listed.getD j false = false) → left listed F = F.length
  | [], _ => rfl
  | x :: F, h => by
    simp only [left, h x (by simp), List.length_cons]
    rw [left_all (fun j hj => h j (by simp [hj]))]
    simp; omega
/-- One operation at whatever time, its own answers at hand. -/
def StepOk (P : Program) (md : Region.Mode) (ops : Array Oper) (Q : Exit → Act → World → Prop) (S : World → Prop) (G : Nat → Value → World → Prop) (a0 : Act) (w0 : World) (D : List (Nat × Tmp)) (F : List Nat) (i : Nat) : Prop :=
  ∃ o, ops[i]? = some o ∧ ∀ u w, S w → Below w0.heap.size w0 w → (∀ j, F.contains j = true → (depsOf md ops i).contains j = true → G j (u j) w) →
    ∀ K : Act → World → Prop, Shut (∀ v w', Below w.heap.size w w' → G i v w' → K ((fill a0 D u).put o.dst v) w') → if Region.wanted o (yielded ops (fill a0 D u).tmps) = true then Oper.wp P o (fill a0 D u) w K Q else K ((fill a0 D u).put o.dst undef) w

theorem wpOp_of {P : Program} {ops : Array Oper} {Q : Exit → Act → World → Prop} {i : Nat} {o : Oper} {K : Act → World → Prop} {a : Act} {w : World} (ho : ops[i]? = some o) (h : if Region.wanted o (yielded ops a.tmps) = true then Oper.wp P o a w K Q else K (a.put o.dst undef) w) : wpOp P ops Q i K a w := by
  unfold wpOp
  simp only [ho]
  split at h
  · rename_i hw; simp only [hw, if_true]; exact .inl h
  · rename_i hw; simp only [hw]; exact h

theorem wpAnyH_flow {P : Program} {md : Region.Mode} {ops : Array Oper} {Q : Exit → Act → World → Prop} {S : World → Prop} (G : Nat → Value → World → Prop) (D : List (Nat × Tmp)) (F st : List Nat) (listed0 : Array Bool) (a0 : Act) (w0 : World) (fuel : Nat)
    (hok : flowOk md ops listed0 F st = true) (hsl : slotsOk ops D F = true)
    (hS : ∀ w w', S w → Below w.heap.size w w' → S w')
    (hG : ∀ j v w w', G j v w → Below w.heap.size w w' → G j v w')
    (hstep : ∀ i, i ∈ F → StepOk P md ops Q S G a0 w0 D F i)
    (hend : ∀ u w, S w → Below w0.heap.size w0 w → (∀ j, j ∈ F → G j (u j) w) → wpAnyH P md ops Q S fuel (fullOf ops st) (fill a0 D u) w)
    (hS0 : S w0) : wpAnyH P md ops Q S (F.length + fuel) listed0 a0 w0 := by
  simp only [flowOk, Bool.and_eq_true, beq_iff_eq] at hok
  obtain ⟨⟨⟨⟨⟨k1, k0⟩, k2⟩, k3⟩, k4⟩, k5⟩ := hok
  have k0 : F.Nodup := of_decide_eq_true k0
  have k2' : ∀ i j, listed0.getD i false = true → j ∈ depsOf md ops i → listed0.getD j false = true := fun i j hi hj => by
    have hlt : i < ops.size := by
      rcases Nat.lt_or_ge i ops.size with h | h
      · exact h
      · rw [← k1] at h; simp [Array.getElem?_eq_none h] at hi
    have := List.all_eq_true.1 k2 i (List.mem_range.2 hlt)
    rw [hi] at this
    simpa using List.all_eq_true.1 (by simpa using this) j hj
  have k3' : ∀ i, i ∈ F → listed0.getD i true = false ∧ i < ops.size ∧ i ∉ st ∧ ∀ j, j ∈ depsOf md ops i → j < i ∧ (listed0.getD j false = true ∨ j ∈ F) := fun i hi => by
    have := List.all_eq_true.1 k3 i hi
    simp only [Bool.and_eq_true, Bool.not_eq_true', decide_eq_true_eq] at this
    obtain ⟨⟨⟨a, b⟩, c⟩, d⟩ := this
    refine ⟨a, b, fun h => ?_, fun j hj => ?_⟩
    · rw [List.contains_iff_mem.2 h] at c; cases c
    · have := List.all_eq_true.1 d j hj
      simp only [Bool.and_eq_true, decide_eq_true_eq, Bool.or_eq_true] at this
      exact ⟨this.1, this.2.imp id (fun h => List.contains_iff_mem.1 h)⟩
  have k4' : ∀ i, i < ops.size → listed0.getD i false = true ∨ i ∈ F ∨ i ∈ st := fun i hi => by
    have := List.all_eq_true.1 k4 i (List.mem_range.2 hi)
    simp only [Bool.or_eq_true] at this
    rcases this with (h | h) | h
    · exact .inl h
    · exact .inr (.inl (List.contains_iff_mem.1 h))
    · exact .inr (.inr (List.contains_iff_mem.1 h))
  have k5' : ∀ s, s ∈ st → listed0.getD s true = false ∧ ((∃ j, j ∈ depsOf md ops s ∧ j ∈ st) ∨ ∀ j, j ∈ F → j ∈ ancs md ops ops.size [s]) := fun s hs => by
    have := List.all_eq_true.1 k5 s hs
    simp only [Bool.and_eq_true, Bool.not_eq_true', Bool.or_eq_true] at this
    refine ⟨this.1, this.2.imp (fun h => ?_) (fun h j hj => List.contains_iff_mem.1 (List.all_eq_true.1 h j hj))⟩
    obtain ⟨j, h1, h2⟩ := List.any_eq_true.1 h
    exact ⟨j, h1, List.contains_iff_mem.1 h2⟩
  simp only [slotsOk, Bool.and_eq_true, beq_iff_eq, decide_eq_true_eq] at hsl
  obtain ⟨⟨hf, h2⟩, h3⟩ := hsl
  have h1 : (D.map Prod.fst).Nodup := hf ▸ k0
  have hput : ∀ i, i ∈ F → ∀ u v, (fill a0 D u).put (dstOf ops i) v = fill a0 D (updV u i v) := fun i hi u v => by
    rw [← hf] at hi
    obtain ⟨⟨i', d⟩, hp, rfl⟩ := List.mem_map.1 hi
    have h4 := List.all_eq_true.1 h3 _ hp
    rw [beq_iff_eq.1 h4]
    exact fill_put v h1 h2 hp
  have h0 : fill a0 D (lies a0 D) = a0 := fill_lies (lies_at h1)
  -- at any time
  have main : ∀ (n : Nat) (listed : Array Bool) (u : Nat → Value) (w : World), left listed F ≤ n → listed.size = ops.size → (∀ i, i ∉ F → listed.getD i false = listed0.getD i false) → (∀ i j, listed.getD i false = true → j ∈ depsOf md ops i → listed.getD j false = true) →
      S w → Below w0.heap.size w0 w → (∀ j, j ∈ F → listed.getD j false = true → G j (u j) w) → ∀ m, m = left listed F → wpAnyH P md ops Q S (m + fuel) listed (fill a0 D u) w := by
    intro n
    induction n with
    | zero =>
      intro listed u w hn hsz hout hcl hw hb hg m hm
      have hz : left listed F = 0 := by omega
      have hall := left_none hz
      have hl : listed = fullOf ops st := by
        apply Array.ext
        · rw [hsz]; simp [fullOf]
        · intro i h1 h2
          have hi : i < ops.size := by omega
          have e1 : listed[i] = listed.getD i false := by simp [Array.getD, h1]
          have e2 : (fullOf ops st)[i] = !(st.contains i) := by simp [fullOf]
          rw [e1, e2]
          by_cases hF : i ∈ F
          · rw [hall i hF]
            have := (k3' i hF).2.2.1
            simp [this]
          · rw [hout i hF]
            by_cases hs : i ∈ st
            · have := (k5' i hs).1
              rw [getD_ft (by omega)] at this
              rw [this]; simp [hs]
            · rcases k4' i hi with h | h | h
              · rw [h]; simp [hs]
              · exact absurd h hF
              · exact absurd h hs
      rw [hm, hz, Nat.zero_add, hl]
      exact hend u w hw hb (fun j hj => hg j hj (hall j hj))
    | succ n ih =>
      intro listed u w hn hsz hout hcl hw hb hg m hm
      by_cases hz : left listed F = 0
      · exact ih listed u w (by omega) hsz hout hcl hw hb hg m hm
      · obtain ⟨m', rfl⟩ : ∃ m', m = m' + 1 := ⟨m - 1, by omega⟩
        -- one of F is ready
        have hex := left_some hz
        have hmin : ∀ b i, i ≤ b → i ∈ F → listed.getD i false = false → ∃ i, i ∈ F ∧ listed.getD i false = false ∧ ∀ j, j ∈ F → j < i → listed.getD j false = true := by
          intro b
          induction b with
          | zero => intro i hi hF hl; exact ⟨i, hF, hl, fun j _ hj => by omega⟩
          | succ b ihb =>
            intro i hi hF hl
            by_cases h : ∃ j, j ∈ F ∧ j < i ∧ listed.getD j false = false
            · obtain ⟨j, h1, h2, h3⟩ := h
              exact ihb j (by omega) h1 h3
            · refine ⟨i, hF, hl, fun j h1 h2 => ?_⟩
              cases h3 : listed.getD j false
              · exact absurd ⟨j, h1, h2, h3⟩ h
              · rfl
        have hne : Region.ready md ops listed ≠ [] := by
          obtain ⟨i0, h1, h2⟩ := hex
          obtain ⟨i, hF, hl, hmn⟩ := hmin i0 i0 (Nat.le_refl _) h1 h2
          obtain ⟨_, hlt, _, hd⟩ := k3' i hF
          have : i ∈ Region.ready md ops listed := mem_ready.2 ⟨by rw [getD_ft (by omega)]; exact hl, ops[i], by simp [hlt], fun e he hb => by
            obtain ⟨h1, h2⟩ := hd e.on (mem_deps.2 ⟨ops[i], by simp [hlt], e, he, hb, rfl⟩)
            by_cases hFe : e.on ∈ F
            · exact hmn _ hFe h1
            · rw [hout _ hFe]; exact h2.resolve_right hFe⟩
          intro h; rw [h] at this; cases this
        rw [show m' + 1 + fuel = (m' + fuel) + 1 by omega]
        refine ⟨fun h => absurd h hne, fun i hi => ?_⟩
        obtain ⟨hun, o, ho, hdep⟩ := mem_ready.1 hi
        have hlt : i < ops.size := (Array.getElem?_eq_some_iff.1 ho).1
        have hlf : listed.getD i false = false := by rw [← getD_ft (by omega)]; exact hun
        have hdl : ∀ j, j ∈ depsOf md ops i → listed.getD j false = true := fun j hj => by
          obtain ⟨o', ho', e, he, hb', rfl⟩ := mem_deps.1 hj
          have : o' = o := Option.some.inj (ho'.symm.trans ho)
          subst this
          exact hdep e he hb'
        by_cases hF : i ∈ F
        case neg =>
          exfalso
          have h1 := hout i hF
          rw [hlf] at h1
          rcases k4' i hlt with h | h | h
          · rw [h] at h1; cases h1
          · exact hF h
          · rcases (k5' i h).2 with ⟨j, hj, hjs⟩ | hanc
            · have h2 := hdl j hj
              have h3 := k5' j hjs
              by_cases hjF : j ∈ F
              · exact (k3' j hjF).2.2.1 hjs
              · rw [hout j hjF] at h2
                have h4 := h3.1
                have hjl : j < listed0.size := by
                  rcases Nat.lt_or_ge j listed0.size with h | h
                  · exact h
                  · simp [Array.getElem?_eq_none h] at h2
                rw [getD_ft hjl, h2] at h4; cases h4
            · obtain ⟨j, hjF, hjl⟩ := hex
              have := anc_listed hcl ops.size [i] (fun k hk l hl => by simp at hk; subst hk; exact hdl l hl) j (hanc j hjF)
              rw [hjl] at this; cases this
        obtain ⟨o', ho', hst⟩ := hstep i hF
        obtain rfl : o' = o := Option.some.inj (ho'.symm.trans ho)
        refine wpOp_of ho ?_
        refine hst u w hw hb (fun j hj hd => hg j (List.contains_iff_mem.1 hj) (hdl j (List.contains_iff_mem.1 hd))) _ (fun v w' hb' hgi => ?_)
        have hdst : o'.dst = dstOf ops i := by simp [dstOf, ho]
        refine ⟨hS w w' hw hb', ?_⟩
        rw [hdst, hput i hF]
        have hlt' := left_set (by omega) hlf k0
        simp only [hF, if_true] at hlt'
        have hset : ∀ j, j ≠ i → (listed.setIfInBounds i true).getD j false = listed.getD j false := fun j hj => getD_set_ne false (Ne.symm hj)
        have hseti : (listed.setIfInBounds i true).getD i false = true := by simp [Array.getD, show i < listed.size by omega]
        refine ih (listed.setIfInBounds i true) (updV u i v) w' (by omega) (by simpa using hsz) (fun j hj => ?_) (fun j k hj hk => ?_) (hS w w' hw hb') (hb.trans (hb'.mono hb.size)) (fun j hj hl => ?_) m' (by omega)
        · rw [hset j (fun e => hj (e ▸ hF)), hout j hj]
        · by_cases hji : j = i
          · subst hji
            exact getD_set_true (hdl k hk)
          · rw [hset j hji] at hj
            exact getD_set_true (hcl j k hj hk)
        · by_cases hji : j = i
          · subst hji; rw [updV_at]; exact hgi
          · rw [updV_ne hji]
            rw [hset j hji] at hl
            exact hG j (u j) w w' (hg j hj hl) hb'
  have hleft : left listed0 F = F.length := left_all (fun i hi => by
    have h1 := (k3' i hi).1
    have h2 := (k3' i hi).2.1
    rw [getD_ft (by omega)] at h1
    exact h1)
  have := main (left listed0 F) listed0 (lies a0 D) w0 (Nat.le_refl _) k1 (fun _ _ => rfl) k2' hS0 (Below.refl _ _) (fun j hj hl => by
    have h1 := (k3' j hj).1
    have h2 := (k3' j hj).2.1
    rw [getD_ft (by omega), hl] at h1; cases h1) F.length hleft.symm
  rw [h0] at this
  exact this
end Go.Proofs.Ytllpllebmknmpaa
