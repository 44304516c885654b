/-
  A drawn region as a flow: operations that make values or new memory (calls, builds, lists that are built) in whatever order, each shown once; behind them those that must come last. No Go text is named here. The walk of stack's Cert, of a stack without steps (written by makers/o9.py). Lists of statuses: their errors, copies of them; the reference's Twin of bases; stack's checkCorner (written by makers/o11.py). The walk of stack's Basis, of a stack without steps (written by makers/o12.py). The walk of StackCerts (written by makers/o10.py).
-/
import Derived.Test.YtllpllebmknmpaaZ0
import Derived.Test.YtllpllebmknmpaaZ1
import Derived.Test.YtllpllebmknmpaaZ2
import Derived.Test.YtllpllebmknmpaaZ3
import Derived.Test.YtllpllebmknmpaaZ4
import Derived.Test.YtllpllebmknmpaaYStacksame0
import Derived.Test.YtllpllebmknmpaaYStacksame1
import Derived.Deep.RegionHeld3
import Derived.Deep.Upon
namespace Go.Proofs.Ytllpllebmknmpaa
open Go.RowKit

/-- Where operation j puts what it yields. -/
def dstOf (ops : Array Oper) (j : Nat) : Option Tmp := (ops[j]?).bind (·.dst)
/-- The operations that operation i waits for. -/
def depsOf (md : Region.Mode) (ops : Array Oper) (i : Nat) : List Nat := match ops[i]? with
  | none => []
  | some o => (o.after.toList.filter (Region.binds md)).map (·.on)
/-- All that those of l wait for, n steps back. -/
def ancs (md : Region.Mode) (ops : Array Oper) : Nat → List Nat → List Nat
  | 0, _ => []
  | n + 1, l => (l.flatMap (depsOf md ops)).eraseDups ++ ancs md ops n (l.flatMap (depsOf md ops)).eraseDups
/-- The state with what those of D (an operation, its slot) yield. -/
def fill (a : Act) (D : List (Nat × Tmp)) (u : Nat → Value) : Act := D.foldl (fun a p => a.put (some p.2) (u p.1)) a
/-- What lies in those slots. -/
def lies (a : Act) (D : List (Nat × Tmp)) (j : Nat) : Value := match D.lookup j with
  | some d => a.tmps.getD d undef
  | none => undef
def updV (u : Nat → Value) (i : Nat) (v : Value) : Nat → Value := fun j => if j = i then v else u j
theorem updV_at (u : Nat → Value) (i : Nat) (v : Value) : updV u i v i = v := by simp [updV]
theorem updV_ne {u : Nat → Value} {i j : Nat} {v : Value} (h : j ≠ i) : updV u i v j = u j := by simp [updV, h]
theorem put_same (a : Act) (d : Tmp) (x y : Value) : (a.put (some d) x).put (some d) y = a.put (some d) y := by
  simp [Act.put]
theorem put_other (a : Act) {d e : Tmp} (h : d ≠ e) (x y : Value) : (a.put (some d) x).put (some e) y = (a.put (some e) y).put (some d) x := by
  simp only [Act.put]
  congr 1
  exact Array.setIfInBounds_comm _ _ h
theorem put_lies (a : Act) (d : Tmp) : a.put (some d) (a.tmps.getD d undef) = a := by
  obtain ⟨t, ds⟩ := a
  simp only [Act.put]
  congr 1
  apply Array.ext_getElem?
  intro i
  rw [Array.getElem?_setIfInBounds]
  split
  · rename_i h
    subst h
    split
    · rename_i h2; simp [h2]
    · rename_i h2; rw [Array.getElem?_eq_none (by omega)]
  · rfl
theorem fill_other {D : List (Nat × Tmp)} {d : Tmp} {u : Nat → Value} (v : Value) : ∀ {a : Act}, d ∉ D.map Prod.snd → (fill a D u).put (some d) v = fill (a.put (some d) v) D u := by
  induction D with
  | nil => intro a _; rfl
  | cons p D ih =>
    intro a h
    simp only [List.map_cons, List.mem_cons, not_or] at h
    show (fill (a.put (some p.2) (u p.1)) D u).put (some d) v = fill ((a.put (some d) v).put (some p.2) (u p.1)) D u
    rw [ih h.2, put_other a (Ne.symm h.1)]
theorem fill_congr {D : List (Nat × Tmp)} {u u' : Nat → Value} : ∀ {a : Act}, (∀ p, p ∈ D → u p.1 = u' p.1) → fill a D u = fill a D u' := by
  induction D with
  | nil => intro a _; rfl
  | cons p D ih =>
    intro a h
    show fill (a.put (some p.2) (u p.1)) D u = fill (a.put (some p.2) (u' p.1)) D u'
    rw [h p (by simp), ih (fun q hq => h q (by simp [hq]))]
theorem fill_put {D : List (Nat × Tmp)} {i : Nat} {d : Tmp} {u : Nat → Value} (v : Value) : ∀ {a : Act}, (D.map Prod.fst).Nodup → (D.map Prod.snd).Nodup → (i, d) ∈ D → (fill a D u).put (some d) v = fill a D (updV u i v) := by
  induction D with
  | nil => intro a _ _ h; cases h
  | cons p D ih =>
    intro a h1 h2 h
    simp only [List.map_cons, List.nodup_cons] at h1 h2
    show (fill (a.put (some p.2) (u p.1)) D u).put (some d) v = fill (a.put (some p.2) (updV u i v p.1)) D (updV u i v)
    by_cases e : p.1 = i
    · have hp : p = (i, d) := by
        rcases List.mem_cons.1 h with h | h
        · exact h.symm
        · exact absurd (by rw [e]; exact List.mem_map_of_mem (f := Prod.fst) h) h1.1
      subst hp
      rw [fill_other v h2.1, put_same, updV_at]
      exact fill_congr (fun q hq => (updV_ne (fun e => h1.1 (by show i ∈ _; rw [← e]; exact List.mem_map_of_mem (f := Prod.fst) hq))).symm)
    · have hm : (i, d) ∈ D := by
        rcases List.mem_cons.1 h with h | h
        · exact absurd (by rw [← h]) e
        · exact h
      rw [ih h1.2 h2.2 hm, updV_ne e]
theorem fill_lies {D : List (Nat × Tmp)} {u : Nat → Value} {a : Act} (h : ∀ p, p ∈ D → u p.1 = a.tmps.getD p.2 undef) : fill a D u = a := by
  induction D with
  | nil => rfl
  | cons p D ih =>
    show fill (a.put (some p.2) (u p.1)) D u = a
    rw [h p (by simp), put_lies]
    exact ih (fun q hq => h q (by simp [hq]))
theorem lies_at {D : List (Nat × Tmp)} {a : Act} : (D.map Prod.fst).Nodup → ∀ p, p ∈ D → lies a D p.1 = a.tmps.getD p.2 undef := by
  intro hn p hp
  have : D.lookup p.1 = some p.2 := by
    induction D with
    | nil => cases hp
    | cons x D ih =>
      simp only [List.map_cons, List.nodup_cons] at hn
      rcases List.mem_cons.1 hp with rfl | hp
      · simp [List.lookup]
      · have hne : p.1 ≠ x.1 := fun e => hn.1 (e ▸ List.mem_map_of_mem (f := Prod.fst) hp)
        rw [List.lookup]
        have : (p.1 == x.1) = false := by simpa using hne
        rw [this]
        exact ih hn.2 hp
  unfold lies
  rw [this]
/-- The slots of D are where its operations put what they yield. -/
def slotsOk (ops : Array Oper) (D : List (Nat × Tmp)) (F : List Nat) : Bool := (D.map Prod.fst == F) && decide (D.map Prod.snd).Nodup && D.all (fun p => dstOf ops p.1 == some p.2)
/-- F may go in whatever order, and those of st come behind all of F. -/
def flowOk (md : Region.Mode) (ops : Array Oper) (listed : Array Bool) (F st : List Nat) : Bool :=
  listed.size == ops.size && F.Nodup &&
  (List.range ops.size).all (fun i => !(listed.getD i false) || (depsOf md ops i).all (fun j => listed.getD j false)) &&
  F.all (fun i => !(listed.getD i true) && decide (i < ops.size) && !(st.contains i) && (depsOf md ops i).all (fun j => decide (j < i) && (listed.getD j false || F.contains j))) &&
  (List.range ops.size).all (fun i => listed.getD i false || F.contains i || st.contains i) &&
  st.all (fun s => !(listed.getD s true) && ((depsOf md ops s).any (fun j => st.contains j) || F.all (fun j => (ancs md ops ops.size [s]).contains j)))
/-- What is listed once all of F is. -/
def fullOf (ops : Array Oper) (st : List Nat) : Array Bool := ((List.range ops.size).map (fun i => !(st.contains i))).toArray

theorem mem_deps {md : Region.Mode} {ops : Array Oper} {i j : Nat} : j ∈ depsOf md ops i ↔ ∃ o, ops[i]? = some o ∧ ∃ e, e ∈ o.after ∧ Region.binds md e = true ∧ e.on = j := by
  unfold depsOf
  cases h : ops[i]? with
  | none => simp
  | some o => simp [and_assoc]
theorem anc_listed {md : Region.Mode} {ops : Array Oper} {listed : Array Bool} (hc : ∀ i j, listed.getD i false = true → j ∈ depsOf md ops i → listed.getD j false = true) :
    ∀ (n : Nat) (l : List Nat), (∀ i, i ∈ l → ∀ j, j ∈ depsOf md ops i → listed.getD j false = true) → ∀ j, j ∈ ancs md ops n l → listed.getD j false = true
  | 0, _, _, j, h => by simp [ancs] at h
  | n + 1, l, hl, j, h => by
    have h1 : ∀ k, k ∈ (l.flatMap (depsOf md ops)).eraseDups → listed.getD k false = true := fun k hk => by
      rw [List.mem_eraseDups, List.mem_flatMap] at hk
      obtain ⟨i, hi, hki⟩ := hk
      exact hl i hi k hki
    simp only [ancs, List.mem_append] at h
    rcases h with h | h
    · exact h1 j h
    · exact anc_listed hc n _ (fun i hi k hk => hc i k (h1 i hi) hk) j h
theorem getD_ft {l : Array Bool} {i : Nat} (h : i < l.size) : l.getD i true = l.getD i false := by simp [Array.getD, h]
/-- How many of F are not listed. -/
def left (listed : Array Bool) : List Nat → Nat
  | [] => 0
  | x :: F => (if listed.getD x false = true then 0 else 1) + left listed F
theorem left_set {listed : Array Bool} {i : Nat} (hi : i < listed.size) (hl : listed.getD i false = false) : ∀ {F : List Nat}, F.Nodup → left listed F = left (listed.setIfInBounds i true) F + (if i ∈ F then 1 else 0)
  | [], _ => by simp [left]
  | x :: F, h => by
    have h' := List.nodup_cons.1 h
    have ih := left_set hi hl h'.2
    have hi' : (listed.setIfInBounds i true).getD i false = true := by simp [Array.getD, hi]
    simp only [left]
    by_cases hx : x = i
    · subst hx
      rw [hi', hl, ih]
      simp [h'.1]; omega
    · have h1 : (listed.setIfInBounds i true).getD x false = listed.getD x false := getD_set_ne false (Ne.symm hx)
      rw [h1, ih]
      have : (i ∈ x :: F) = (i ∈ F) := by simp [Ne.symm hx]
      simp only [this]; omega
theorem left_none {listed : Array Bool} : ∀ {F : List Nat}, left listed F = 0 → ∀ j, j ∈ F → listed.getD j false = true
  | [], _, j, hj => by cases hj
  | x :: F, h, j, hj => by
    simp only [left] at h
    rcases List.mem_cons.1 hj with rfl | hj
    · cases hb : listed.getD j false
      · rw [hb] at h; simp at h
      · rfl
    · exact left_none (by omega) j hj
theorem left_some {listed : Array Bool} : ∀ {F : List Nat}, left listed F ≠ 0 → ∃ j, j ∈ F ∧ listed.getD j false = false
  | [], h => absurd rfl h
  | x :: F, h => by
    cases hb : listed.getD x false
    · exact ⟨x, by simp, hb⟩
    · simp only [left] at h
      rw [hb] at h
      obtain ⟨j, h1, h2⟩ := left_some (F := F) (by simpa using h)
      exact ⟨j, by simp [h1], h2⟩
theorem left_all {listed : Array Bool} : ∀ {F : List Nat}, (∀ j, j ∈ F → listed.getD j false = false) → left listed F = F.length
  | [], _ => rfl
  | x :: F, h => by
    simp only [left, h x (by simp), List.length_cons]
    rw [left_all (fun j hj => h j (by simp [hj]))]
    simp; omega
/-- One operation at whatever time, its own answers at hand. -/
def StepOk (P : Program) (md : Region.Mode) (ops : Array Oper) (Q : Exit → Act → World → Prop) (S : World → Prop) (G : Nat → Value → World → Prop) (a0 : Act) (w0 : World) (D : List (Nat × Tmp)) (F : List Nat) (i : Nat) : Prop :=
  ∃ o, ops[i]? = some o ∧ ∀ u w, S w → Below w0.heap.size w0 w → (∀ j, F.contains j = true → (depsOf md ops i).contains j = true → G j (u j) w) →
    ∀ K : Act → World → Prop, Shut (∀ v w', Below w.heap.size w w' → G i v w' → K ((fill a0 D u).put o.dst v) w') → if Region.wanted o (yielded ops (fill a0 D u).tmps) = true then Oper.wp P o (fill a0 D u) w K Q else K ((fill a0 D u).put o.dst undef) w

theorem wpOp_of {P : Program} {ops : Array Oper} {Q : Exit → Act → World → Prop} {i : Nat} {o : Oper} {K : Act → World → Prop} {a : Act} {w : World} (ho : ops[i]? = some o) (h : if Region.wanted o (yielded ops a.tmps) = true then Oper.wp P o a w K Q else K (a.put o.dst undef) w) : wpOp P ops Q i K a w := by
  unfold wpOp
  simp only [ho]
  split at h
  · rename_i hw; simp only [hw, if_true]; exact .inl h
  · rename_i hw; simp only [hw]; exact h

theorem wpAnyH_flow {P : Program} {md : Region.Mode} {ops : Array Oper} {Q : Exit → Act → World → Prop} {S : World → Prop} (G : Nat → Value → World → Prop) (D : List (Nat × Tmp)) (F st : List Nat) (listed0 : Array Bool) (a0 : Act) (w0 : World) (fuel : Nat)
    (hok : flowOk md ops listed0 F st = true) (hsl : slotsOk ops D F = true)
    (hS : ∀ w w', S w → Below w.heap.size w w' → S w')
    (hG : ∀ j v w w', G j v w → Below w.heap.size w w' → G j v w')
    (hstep : ∀ i, i ∈ F → StepOk P md ops Q S G a0 w0 D F i)
    (hend : ∀ u w, S w → Below w0.heap.size w0 w → (∀ j, j ∈ F → G j (u j) w) → wpAnyH P md ops Q S fuel (fullOf ops st) (fill a0 D u) w)
    (hS0 : S w0) : wpAnyH P md ops Q S (F.length + fuel) listed0 a0 w0 := by
  simp only [flowOk, Bool.and_eq_true, beq_iff_eq] at hok
  obtain ⟨⟨⟨⟨⟨k1, k0⟩, k2⟩, k3⟩, k4⟩, k5⟩ := hok
  have k0 : F.Nodup := of_decide_eq_true k0
  have k2' : ∀ i j, listed0.getD i false = true → j ∈ depsOf md ops i → listed0.getD j false = true := fun i j hi hj => by
    have hlt : i < ops.size := by
      rcases Nat.lt_or_ge i ops.size with h | h
      · exact h
      · rw [← k1] at h; simp [Array.getElem?_eq_none h] at hi
    have := List.all_eq_true.1 k2 i (List.mem_range.2 hlt)
    rw [hi] at this
    simpa using List.all_eq_true.1 (by simpa using this) j hj
  have k3' : ∀ i, i ∈ F → listed0.getD i true = false ∧ i < ops.size ∧ i ∉ st ∧ ∀ j, j ∈ depsOf md ops i → j < i ∧ (listed0.getD j false = true ∨ j ∈ F) := fun i hi => by
    have := List.all_eq_true.1 k3 i hi
    simp only [Bool.and_eq_true, Bool.not_eq_true', decide_eq_true_eq] at this
    obtain ⟨⟨⟨a, b⟩, c⟩, d⟩ := this
    refine ⟨a, b, fun h => ?_, fun j hj => ?_⟩
    · rw [List.contains_iff_mem.2 h] at c; cases c
    · have := List.all_eq_true.1 d j hj
      simp only [Bool.and_eq_true, decide_eq_true_eq, Bool.or_eq_true] at this
      exact ⟨this.1, this.2.imp id (fun h => List.contains_iff_mem.1 h)⟩
  have k4' : ∀ i, i < ops.size → listed0.getD i false = true ∨ i ∈ F ∨ i ∈ st := fun i hi => by
    have := List.all_eq_true.1 k4 i (List.mem_range.2 hi)
    simp only [Bool.or_eq_true] at this
    rcases this with (h | h) | h
    · exact .inl h
    · exact .inr (.inl (List.contains_iff_mem.1 h))
    · exact .inr (.inr (List.contains_iff_mem.1 h))
  have k5' : ∀ s, s ∈ st → listed0.getD s true = false ∧ ((∃ j, j ∈ depsOf md ops s ∧ j ∈ st) ∨ ∀ j, j ∈ F → j ∈ ancs md ops ops.size [s]) := fun s hs => by
    have := List.all_eq_true.1 k5 s hs
    simp only [Bool.and_eq_true, Bool.not_eq_true', Bool.or_eq_true] at this
    refine ⟨this.1, this.2.imp (fun h => ?_) (fun h j hj => List.contains_iff_mem.1 (List.all_eq_true.1 h j hj))⟩
    obtain ⟨j, h1, h2⟩ := List.any_eq_true.1 h
    exact ⟨j, h1, List.contains_iff_mem.1 h2⟩
  simp only [slotsOk, Bool.and_eq_true, beq_iff_eq, decide_eq_true_eq] at hsl
  obtain ⟨⟨hf, h2⟩, h3⟩ := hsl
  have h1 : (D.map Prod.fst).Nodup := hf ▸ k0
  have hput : ∀ i, i ∈ F → ∀ u v, (fill a0 D u).put (dstOf ops i) v = fill a0 D (updV u i v) := fun i hi u v => by
    rw [← hf] at hi
    obtain ⟨⟨i', d⟩, hp, rfl⟩ := List.mem_map.1 hi
    have h4 := List.all_eq_true.1 h3 _ hp
    rw [beq_iff_eq.1 h4]
    exact fill_put v h1 h2 hp
  have h0 : fill a0 D (lies a0 D) = a0 := fill_lies (lies_at h1)
  -- at any time
  have main : ∀ (n : Nat) (listed : Array Bool) (u : Nat → Value) (w : World), left listed F ≤ n → listed.size = ops.size → (∀ i, i ∉ F → listed.getD i false = listed0.getD i false) → (∀ i j, listed.getD i false = true → j ∈ depsOf md ops i → listed.getD j false = true) →
      S w → Below w0.heap.size w0 w → (∀ j, j ∈ F → listed.getD j false = true → G j (u j) w) → ∀ m, m = left listed F → wpAnyH P md ops Q S (m + fuel) listed (fill a0 D u) w := by
    intro n
    induction n with
    | zero =>
      intro listed u w hn hsz hout hcl hw hb hg m hm
      have hz : left listed F = 0 := by omega
      have hall := left_none hz
      have hl : listed = fullOf ops st := by
        apply Array.ext
        · rw [hsz]; simp [fullOf]
        · intro i h1 h2
          have hi : i < ops.size := by omega
          have e1 : listed[i] = listed.getD i false := by simp [Array.getD, h1]
          have e2 : (fullOf ops st)[i] = !(st.contains i) := by simp [fullOf]
          rw [e1, e2]
          by_cases hF : i ∈ F
          · rw [hall i hF]
            have := (k3' i hF).2.2.1
            simp [this]
          · rw [hout i hF]
            by_cases hs : i ∈ st
            · have := (k5' i hs).1
              rw [getD_ft (by omega)] at this
              rw [this]; simp [hs]
            · rcases k4' i hi with h | h | h
              · rw [h]; simp [hs]
              · exact absurd h hF
              · exact absurd h hs
      rw [hm, hz, Nat.zero_add, hl]
      exact hend u w hw hb (fun j hj => hg j hj (hall j hj))
    | succ n ih =>
      intro listed u w hn hsz hout hcl hw hb hg m hm
      by_cases hz : left listed F = 0
      · exact ih listed u w (by omega) hsz hout hcl hw hb hg m hm
      · obtain ⟨m', rfl⟩ : ∃ m', m = m' + 1 := ⟨m - 1, by omega⟩
        -- one of F is ready
        have hex := left_some hz
        have hmin : ∀ b i, i ≤ b → i ∈ F → listed.getD i false = false → ∃ i, i ∈ F ∧ listed.getD i false = false ∧ ∀ j, j ∈ F → j < i → listed.getD j false = true := by
          intro b
          induction b with
          | zero => intro i hi hF hl; exact ⟨i, hF, hl, fun j _ hj => by omega⟩
          | succ b ihb =>
            intro i hi hF hl
            by_cases h : ∃ j, j ∈ F ∧ j < i ∧ listed.getD j false = false
            · obtain ⟨j, h1, h2, h3⟩ := h
              exact ihb j (by omega) h1 h3
            · refine ⟨i, hF, hl, fun j h1 h2 => ?_⟩
              cases h3 : listed.getD j false
              · exact absurd ⟨j, h1, h2, h3⟩ h
              · rfl
        have hne : Region.ready md ops listed ≠ [] := by
          obtain ⟨i0, h1, h2⟩ := hex
          obtain ⟨i, hF, hl, hmn⟩ := hmin i0 i0 (Nat.le_refl _) h1 h2
          obtain ⟨_, hlt, _, hd⟩ := k3' i hF
          have : i ∈ Region.ready md ops listed := mem_ready.2 ⟨by rw [getD_ft (by omega)]; exact hl, ops[i], by simp [hlt], fun e he hb => by
            obtain ⟨h1, h2⟩ := hd e.on (mem_deps.2 ⟨ops[i], by simp [hlt], e, he, hb, rfl⟩)
            by_cases hFe : e.on ∈ F
            · exact hmn _ hFe h1
            · rw [hout _ hFe]; exact h2.resolve_right hFe⟩
          intro h; rw [h] at this; cases this
        rw [show m' + 1 + fuel = (m' + fuel) + 1 by omega]
        refine ⟨fun h => absurd h hne, fun i hi => ?_⟩
        obtain ⟨hun, o, ho, hdep⟩ := mem_ready.1 hi
        have hlt : i < ops.size := (Array.getElem?_eq_some_iff.1 ho).1
        have hlf : listed.getD i false = false := by rw [← getD_ft (by omega)]; exact hun
        have hdl : ∀ j, j ∈ depsOf md ops i → listed.getD j false = true := fun j hj => by
          obtain ⟨o', ho', e, he, hb', rfl⟩ := mem_deps.1 hj
          have : o' = o := Option.some.inj (ho'.symm.trans ho)
          subst this
          exact hdep e he hb'
        by_cases hF : i ∈ F
        case neg =>
          exfalso
          have h1 := hout i hF
          rw [hlf] at h1
          rcases k4' i hlt with h | h | h
          · rw [h] at h1; cases h1
          · exact hF h
          · rcases (k5' i h).2 with ⟨j, hj, hjs⟩ | hanc
            · have h2 := hdl j hj
              have h3 := k5' j hjs
              by_cases hjF : j ∈ F
              · exact (k3' j hjF).2.2.1 hjs
              · rw [hout j hjF] at h2
                have h4 := h3.1
                have hjl : j < listed0.size := by
                  rcases Nat.lt_or_ge j listed0.size with h | h
                  · exact h
                  · simp [Array.getElem?_eq_none h] at h2
                rw [getD_ft hjl, h2] at h4; cases h4
            · obtain ⟨j, hjF, hjl⟩ := hex
              have := anc_listed hcl ops.size [i] (fun k hk l hl => by simp at hk; subst hk; exact hdl l hl) j (hanc j hjF)
              rw [hjl] at this; cases this
        obtain ⟨o', ho', hst⟩ := hstep i hF
        obtain rfl : o' = o := Option.some.inj (ho'.symm.trans ho)
        refine wpOp_of ho ?_
        refine hst u w hw hb (fun j hj hd => hg j (List.contains_iff_mem.1 hj) (hdl j (List.contains_iff_mem.1 hd))) _ (fun v w' hb' hgi => ?_)
        have hdst : o'.dst = dstOf ops i := by simp [dstOf, ho]
        refine ⟨hS w w' hw hb', ?_⟩
        rw [hdst, hput i hF]
        have hlt' := left_set (by omega) hlf k0
        simp only [hF, if_true] at hlt'
        have hset : ∀ j, j ≠ i → (listed.setIfInBounds i true).getD j false = listed.getD j false := fun j hj => getD_set_ne false (Ne.symm hj)
        have hseti : (listed.setIfInBounds i true).getD i false = true := by simp [Array.getD, show i < listed.size by omega]
        refine ih (listed.setIfInBounds i true) (updV u i v) w' (by omega) (by simpa using hsz) (fun j hj => ?_) (fun j k hj hk => ?_) (hS w w' hw hb') (hb.trans (hb'.mono hb.size)) (fun j hj hl => ?_) m' (by omega)
        · rw [hset j (fun e => hj (e ▸ hF)), hout j hj]
        · by_cases hji : j = i
          · subst hji
            exact getD_set_true (hdl k hk)
          · rw [hset j hji] at hj
            exact getD_set_true (hcl j k hj hk)
        · by_cases hji : j = i
          · subst hji; rw [updV_at]; exact hgi
          · rw [updV_ne hji]
            rw [hset j hji] at hl
            exact hG j (u j) w w' (hg j hj hl) hb'
  have hleft : left listed0 F = F.length := left_all (fun i hi => by
    have h1 := (k3' i hi).1
    have h2 := (k3' i hi).2.1
    rw [getD_ft (by omega)] at h1
    exact h1)
  have := main (left listed0 F) listed0 (lies a0 D) w0 (Nat.le_refl _) k1 (fun _ _ => rfl) k2' hS0 (Below.refl _ _) (fun j hj hl => by
    have h1 := (k3' j hj).1
    have h2 := (k3' j hj).2.1
    rw [getD_ft (by omega), hl] at h1; cases h1) F.length hleft.symm
  rw [h0] at this
  exact this
end Go.Proofs.Ytllpllebmknmpaa
namespace Go.Proofs.Ytllpllebmknmpaa
open Go.RowKit

/-- A value that is a box of its own, all empty. -/
def Bn (m : Nat) (T : TypeId) (base : Nat) (v : Value) (w : World) : Prop := ∃ b, v = .pointer (some ⟨b, 0, none⟩) ∧ base ≤ b ∧ Bk w b (List.replicate m (.slice none 0 0)) T
theorem Bn.below {m T base v w w'} (h : Bn m T base v w) (hb : Below w.heap.size w w') : Bn m T base v w' := by
  obtain ⟨b, h1, h2, h3⟩ := h
  exact ⟨b, h1, h2, h3.below hb⟩
end Go.Proofs.Ytllpllebmknmpaa
namespace Go.Proofs.Ytllpllebmknmpaa
open Go.RowKit

theorem Try.infoStatus : (Try.prog.info? 87).map (fun i => (i.zero, i.size, i.bytes)) = some (some (.int .i64 0), 1, 8) := by kernel_rfl
/-- All are statuses, from place i on. -/
def sfr (E : Nat → Int) : Nat → Nat → Bool
  | 0, _ => true
  | r + 1, i => decide (0 ≤ E i ∧ E i ≤ 3) && sfr E r (i + 1)
def stE (k : Nat) (E : Nat → Int) (z : Int) : Int := if sfr E k 0 = true then (if (k : Int) = z then 0 else 7) else 3
theorem stE_in (k : Nat) (E : Nat → Int) (z : Int) : stE k E z = 0 ∨ stE k E z = 3 ∨ stE k E z = 7 := by
  unfold stE
  split
  · split
    · exact .inl rfl
    · exact .inr (.inr rfl)
  · exact .inr (.inl rfl)
set_option maxRecDepth 100000 in
set_option maxHeartbeats 4000000 in
theorem checkSt_c {w : World} {ao : Option Addr} {k cap : Nat} {E : Nat → Int} {z : Int} (h : El w ao k E) (hk : k ≤ 1048576) :
    Calls Try.prog 52 #[.slice ao k cap, .int .i64 z] w fun e w' => e = .returned (.int .i64 (stE k E z)) ∧ w' = w := by
  have H := hid h
  clear h
  go_enter Try.func52, Try.ntmps52
  go_wp2_with fail
  go_loopw [9] (fun t wr => ∃ (i : Nat), i ≤ k ∧ t = .int .i64 i ∧ wr = w ∧ Hid (sfr E k 0 = sfr E (k - i) i)) (fun t _ => k - (intOf t).toNat)
  case atStart => exact ⟨0, by omega, rfl, rfl, rfl⟩
  case round =>
    obtain ⟨i, hi, rfl, rfl, HT⟩ := hrel
    by_cases hlt : i < k
    · obtain ⟨b, o, rfl, hc⟩ := H.out i hlt
      obtain ⟨r, hr⟩ : ∃ r, k - i = r + 1 := ⟨k - i - 1, by omega⟩
      have hT : sfr E k 0 = (decide (0 ≤ E i ∧ E i ≤ 3) && sfr E r (i + 1)) := by rw [HT.out, hr]; rfl
      have hr2 : k - (i + 1) = r := by omega
      obtain ⟨s, hs⟩ : ∃ s, E i = s := ⟨_, rfl⟩
      rw [hs] at hc hT
      have HT2 := hid hT; have HR2 := hid hr2
      have i1 : ((i : Nat) : Int) < ((k : Nat) : Int) := by omega
      clear hs hr hT hr2
      by_cases h1 : s < 0
      · have HF := hid (show stE k E z = 3 by rw [stE, HT2.out, show decide (0 ≤ s ∧ s ≤ 3) = false by simp; omega]; rfl)
        go_wp2
        go_ret
        exact ⟨by rw [HF.out]; rfl, rfl⟩
      by_cases h2 : (3 : Int) < s
      · have HF := hid (show stE k E z = 3 by rw [stE, HT2.out, show decide (0 ≤ s ∧ s ≤ 3) = false by simp; omega]; rfl)
        go_wp2
        go_ret
        exact ⟨by rw [HF.out]; rfl, rfl⟩
      have HD := hid (show decide (0 ≤ s ∧ s ≤ 3) = true by simp; omega)
      go_wp2
      go_roundw
      case rel =>
        refine ⟨i + 1, by omega, by go_num, trivial, ?_⟩
        show _ = _
        rw [HT2.out, HD.out, HR2.out]; rfl
      case measure => simp [intOf]; omega
    · have e1 : i = k := by omega
      have HTe : Hid (sfr E k 0 = true) := by
        show _ = _
        rw [HT.out, e1, Nat.sub_self]; rfl
      have i2 : ¬ (((i : Nat) : Int) < ((k : Nat) : Int)) := by omega
      clear e1 HT
      by_cases hz : ((k : Nat) : Int) = z
      · have hz1 : (((k : Nat) : Int) != z) = false := by simpa using hz
        have HZ := hid (show stE k E z = 0 by rw [stE, HTe.out]; simp [hz])
        clear hz
        go_wp2
        go_ret
        exact ⟨by rw [HZ.out]; rfl, rfl⟩
      · have hz1 : (((k : Nat) : Int) != z) = true := by simpa using hz
        have HZ := hid (show stE k E z = 7 by rw [stE, HTe.out]; simp [hz])
        clear hz
        go_wp2
        go_ret
        exact ⟨by rw [HZ.out]; rfl, rfl⟩
set_option maxRecDepth 100000 in
set_option maxHeartbeats 4000000 in
theorem lawSt_c {w : World} {ao : Option Addr} {k cap : Nat} {E : Nat → Int} {z : Int} (h : El w ao k E) (hk : k ≤ 1048576) :
    Calls Try.prog 24 #[.slice ao k cap, .int .i64 z] w fun e w' => e = .returned (.int .i64 (stE k E z)) ∧ w' = w := by
  have H := hid h
  clear h
  go_enter Try.func24, Try.ntmps24
  go_wp2_with fail
  go_loopw [9] (fun t wr => ∃ (i : Nat), i ≤ k ∧ t = .int .i64 i ∧ wr = w ∧ Hid (sfr E k 0 = sfr E (k - i) i)) (fun t _ => k - (intOf t).toNat)
  case atStart => exact ⟨0, by omega, rfl, rfl, rfl⟩
  case round =>
    obtain ⟨i, hi, rfl, rfl, HT⟩ := hrel
    by_cases hlt : i < k
    · obtain ⟨b, o, rfl, hc⟩ := H.out i hlt
      obtain ⟨r, hr⟩ : ∃ r, k - i = r + 1 := ⟨k - i - 1, by omega⟩
      have hT : sfr E k 0 = (decide (0 ≤ E i ∧ E i ≤ 3) && sfr E r (i + 1)) := by rw [HT.out, hr]; rfl
      have hr2 : k - (i + 1) = r := by omega
      obtain ⟨s, hs⟩ : ∃ s, E i = s := ⟨_, rfl⟩
      rw [hs] at hc hT
      have HT2 := hid hT; have HR2 := hid hr2
      have i1 : ((i : Nat) : Int) < ((k : Nat) : Int) := by omega
      clear hs hr hT hr2
      by_cases h1 : s < 0
      · have HF := hid (show stE k E z = 3 by rw [stE, HT2.out, show decide (0 ≤ s ∧ s ≤ 3) = false by simp; omega]; rfl)
        go_wp2
        go_ret
        exact ⟨by rw [HF.out]; rfl, rfl⟩
      by_cases h2 : (3 : Int) < s
      · have HF := hid (show stE k E z = 3 by rw [stE, HT2.out, show decide (0 ≤ s ∧ s ≤ 3) = false by simp; omega]; rfl)
        go_wp2
        go_ret
        exact ⟨by rw [HF.out]; rfl, rfl⟩
      have HD := hid (show decide (0 ≤ s ∧ s ≤ 3) = true by simp; omega)
      go_wp2
      go_roundw
      case rel =>
        refine ⟨i + 1, by omega, by go_num, trivial, ?_⟩
        show _ = _
        rw [HT2.out, HD.out, HR2.out]; rfl
      case measure => simp [intOf]; omega
    · have e1 : i = k := by omega
      have HTe : Hid (sfr E k 0 = true) := by
        show _ = _
        rw [HT.out, e1, Nat.sub_self]; rfl
      have i2 : ¬ (((i : Nat) : Int) < ((k : Nat) : Int)) := by omega
      clear e1 HT
      by_cases hz : ((k : Nat) : Int) = z
      · have hz1 : (((k : Nat) : Int) != z) = false := by simpa using hz
        have HZ := hid (show stE k E z = 0 by rw [stE, HTe.out]; simp [hz])
        clear hz
        go_wp2
        go_ret
        exact ⟨by rw [HZ.out]; rfl, rfl⟩
      · have hz1 : (((k : Nat) : Int) != z) = true := by simpa using hz
        have HZ := hid (show stE k E z = 7 by rw [stE, HTe.out]; simp [hz])
        clear hz
        go_wp2
        go_ret
        exact ⟨by rw [HZ.out]; rfl, rfl⟩
/-- What is appended to a list without room lies in new memory. -/
theorem run_app0 {P : Program} (w : World) {t ty e : TypeId} (ht : P.underlying t = some (.slice e)) (h2 : (P.info? e).map (fun i => (i.zero, i.size, i.bytes)) = some (some (.int .i64 0), 1, 8)) (g0 : Nat) {xo : Option Addr} {m c : Nat} {E : Nat → Int} (hr : El w xo m E) (hnil : xo = none → m = 0 ∧ c = 0) (hm : m ≤ 1048576) :
    ∃ ao' c' w', (Builtin.append_ #[t, t] ty #[.slice (some ⟨g0, 0, none⟩) 0 0, .slice xo m c]).run P w = .ok (.slice ao' m c') w' ∧ Below w.heap.size w w' ∧ El w' ao' m E ∧ ao' ≠ none := by
  obtain ⟨i, hi, hz0, hz1, hz2⟩ := info_parts h2
  by_cases h0 : m = 0
  · subst h0
    have hs : Src P i.size t (.slice xo 0 c) 0 [] w := by
      cases xo with
      | none => exact Src.ofNil w ht c
      | some a => exact Src.ofSlice w ht a 0 c [] (by simp) (fun j u hu => by simp at hu) (fun u hu => by simp at hu)
    exact ⟨_, _, w, run_append_nothing w t t ty e i ht hi (some ⟨g0, 0, none⟩) 0 0 (Nat.le_refl _) _ hs, Below.refl _ _, fun j hj => by omega, fun h => by cases h⟩
  · cases xo with
    | none => exact absurd (hnil rfl).1 h0
    | some a =>
      have hcell : ∀ j u, (lst .i64 E m)[j]? = some u → w.cell? (a.add j) = some u := by
        intro j u hu
        obtain ⟨hj, rfl⟩ := lst_getE hu
        obtain ⟨b, o, e1, hc⟩ := hr j hj
        cases e1
        rw [addr_add]; exact hc
      have e1 := run_append_grow (P := P) w t ty e i (.int .i64 0) ht hi hz0 ⟨g0, 0, none⟩ 0 0 [] (by simp) (fun j v hv => by simp at hv) a m c (lst .i64 E m) (by rw [lst_length, hz1, Nat.mul_one]) hcell (by omega) (by omega) (growslice_fits (by omega) (by rw [hz2]; omega))
      rw [Nat.zero_add] at e1
      refine ⟨_, _, _, e1, below_alloc (Below.drew (Below.refl _ _)) _, fun j hj => ⟨_, 0, rfl, ?_⟩, fun h => by cases h⟩
      have hn := heap_alloc_new w.drew (.cells (([] : List Value).toArray ++ (lst .i64 E m).toArray ++ Builtin.zeroCells (Value.int IntKind.i64 0).cells (grownCap w m 0 e - m)) e)
      have hg : (lst .i64 E m)[j]? = some (.int .i64 (E j)) := by
        have hl : j < (lst .i64 E m).length := by rw [lst_length]; exact hj
        obtain ⟨u, hu⟩ : ∃ u, (lst .i64 E m)[j]? = some u := ⟨_, List.getElem?_eq_getElem hl⟩
        obtain ⟨_, rfl⟩ := lst_getE hu
        exact hu
      rw [Nat.zero_add]
      simp only [World.cell?, show w.drew.heap.size = w.heap.size from rfl] at hn ⊢
      rw [hn]
      have hl : j < (lst .i64 E m).length := by rw [lst_length]; exact hj
      simpa [Array.getElem?_append, hl] using hg
/-- The same at a step of a region that draws its order. -/
theorem step_app0 {P : Program} (w : World) {ops : Array Oper} {o : Oper} {a : Act} {K : Act → World → Prop} {Q : Exit → Act → World → Prop} {F : Prop} (hgd : o.guard = none) (s x : Operand) (t : TypeId)
    (ho : o.op = .call { callee := .builtin .append, args := #[s, x], argTypes := #[t, t] }) (e : TypeId) (ht : P.underlying t = some (.slice e)) (h2 : (P.info? e).map (fun i => (i.zero, i.size, i.bytes)) = some (some (.int .i64 0), 1, 8))
    (g0 : Nat) (hs : a.eval s = .slice (some ⟨g0, 0, none⟩) 0 0) (xo : Option Addr) (m c : Nat) (E : Nat → Int) (hx : a.eval x = .slice xo m c) (hr : El w xo m E) (hnil : xo = none → m = 0 ∧ c = 0) (hm : m ≤ 1048576)
    (hK : ∀ ao' c' w', Below w.heap.size w w' → El w' ao' m E → ao' ≠ none → K (a.put o.dst (.slice ao' m c')) w') : if Region.wanted o (yielded ops a.tmps) = true then Oper.wp P o a w K Q else F := by
  obtain ⟨ao', c', w', hrun, h1', h2', h3'⟩ := run_app0 (P := P) (t := t) (ty := o.type) (e := e) w ht h2 g0 hr hnil hm
  have hwt : Region.wanted o (yielded ops a.tmps) = true := by simp [Region.wanted, hgd]
  rw [if_pos hwt]
  unfold Oper.wp execOp
  simp only [ho, resolve, invoke, builtin, Sem.run_bind, Sem.run_pure, Result.andThen_ok, List.map_toArray, List.map_cons, List.map_nil, hs, hx, hrun]
  exact hK ao' c' w' h1' h2' h3'
theorem wpList_app0 {P : Program} (w : World) {ops : Array Oper} {rest : List Oper} {o : Oper} {a : Act} {Q : Exit → Act → World → Prop} (hgd : o.guard = none) (s x : Operand) (t : TypeId)
    (ho : o.op = .call { callee := .builtin .append, args := #[s, x], argTypes := #[t, t] }) (e : TypeId) (ht : P.underlying t = some (.slice e)) (h2 : (P.info? e).map (fun i => (i.zero, i.size, i.bytes)) = some (some (.int .i64 0), 1, 8))
    (g0 : Nat) (hs : a.eval s = .slice (some ⟨g0, 0, none⟩) 0 0) (xo : Option Addr) (m c : Nat) (E : Nat → Int) (hx : a.eval x = .slice xo m c) (hr : El w xo m E) (hnil : xo = none → m = 0 ∧ c = 0) (hm : m ≤ 1048576)
    (hK : ∀ ao' c' w', Below w.heap.size w w' → El w' ao' m E → ao' ≠ none → wpList P ops Q rest (a.put o.dst (.slice ao' m c')) w') : wpList P ops Q (o :: rest) a w := by
  obtain ⟨ao', c', w', hrun, h1', h2', h3'⟩ := run_app0 (P := P) (t := t) (ty := o.type) (e := e) w ht h2 g0 hr hnil hm
  refine wpList_plain hgd fun K hK2 => ?_
  unfold Oper.wp execOp
  simp only [ho, resolve, invoke, builtin, Sem.run_bind, Sem.run_pure, Result.andThen_ok, List.map_toArray, List.map_cons, List.map_nil, hs, hx, hrun]
  exact hK2 _ _ (hK ao' c' w' h1' h2' h3')
/-- What copies of statuses are answered by. -/
def CsAns (w w' : World) (e : Ending) (k : Nat) (E : Nat → Int) : Prop := ∃ ao' c', e = .returned (.slice ao' k c') ∧ Below w.heap.size w w' ∧ El w' ao' k E ∧ (ao' = none → k = 0 ∧ c' = 0)
set_option maxRecDepth 100000 in
set_option maxHeartbeats 4000000 in
theorem cloneSt_c {w : World} {ao : Option Addr} {k cap : Nat} {E : Nat → Int} (h : El w ao k E) (hnil : ao = none → k = 0 ∧ cap = 0) (hk : k ≤ 1048576) :
    Calls Try.prog 39 #[.slice ao k cap] w fun e w' => CsAns w w' e k E := by
  have hEq := fun W a l c => run_eql_slice_nil (P := Try.prog) W 33 87 a l c Try.underlying33
  cases ao with
  | none =>
    obtain ⟨rfl, rfl⟩ := hnil rfl
    go_enter Try.func39, Try.ntmps39
    go_wp2
    go_ret
    exact ⟨none, 0, rfl, Below.refl _ _, el_nil _ _ _, fun _ => ⟨rfl, rfl⟩⟩
  | some ad =>
    clear hnil
    have hbA := below_alloc (Below.refl w.heap.size w) (.cells #[] 87)
    have HR := hid (h.below hbA)
    clear h
    go_enter Try.func39, Try.ntmps39
    go_wp2_with (at_builtin; refine wpList_app0 _ rfl (.tmp 5) (.tmp 6) 33 rfl 87 Try.underlying33 Try.infoStatus w.heap.size rfl (some ad) k cap E rfl HR.out (fun h => by cases h) hk ?_)
    intro ao' c' w' hb2 hel hnn
    have HE := hid hel; have HB := hid (hbA.trans (hb2.mono (Nat.le_succ _)))
    clear hel hb2 hbA
    go_wp2
    go_ret
    exact ⟨ao', c', rfl, HB.out, HE.out, fun h => absurd h hnn⟩
/-- A value that is a list of these statuses. -/
def ES (k : Nat) (E : Nat → Int) (v : Value) (w : World) : Prop := ∃ ao c, v = .slice ao k c ∧ El w ao k E ∧ (ao = none → k = 0 ∧ c = 0)
theorem ES.below {k E v w w'} (h : ES k E v w) (hb : Below w.heap.size w w') : ES k E v w' := by
  obtain ⟨ao, c, h1, h2, h3⟩ := h
  exact ⟨ao, c, h1, h2.below hb, h3⟩
theorem El.st {w w' : World} {ao : Option Addr} {k B : Nat} {E : Nat → Int} (h : El w ao k E) (hne : ∀ b, b ≠ B → w'.heap[b]? = w.heap[b]?) (hnb : ∀ o z, w.cell? ⟨B, o, none⟩ ≠ some (.int .i64 z)) : El w' ao k E := fun j hj => by
  obtain ⟨b, o, e, h1⟩ := h j hj
  have hB : b ≠ B := fun e => hnb _ _ (e ▸ h1)
  exact ⟨b, o, e, (World.cell?_of_block (a := ⟨b, o + j, none⟩) (hne b hB)).trans h1⟩
theorem bk_noi {w B vs t} (h : Bk w B vs t) (hv : ∀ v ∈ vs, ∃ a n c, v = Value.slice a n c) : ∀ o z, w.cell? ⟨B, o, none⟩ ≠ some (.int .i64 z) := fun o z e => by
  unfold Bk at h
  simp only [World.cell?, h] at e
  have e' : vs[o]? = some (.int .i64 z) := by simpa using e
  obtain ⟨a, n, c, h1⟩ := hv _ (List.mem_of_getElem? e')
  cases h1
theorem ES.st {k E v} {w w' : World} {B : Nat} (h : ES k E v w) (hne : ∀ b, b ≠ B → w'.heap[b]? = w.heap[b]?) (hnb : ∀ o z, w.cell? ⟨B, o, none⟩ ≠ some (.int .i64 z)) : ES k E v w' := by
  obtain ⟨ao, c, h1, h2, h3⟩ := h
  exact ⟨ao, c, h1, h2.st hne hnb, h3⟩
/-- An empty list of its own. -/
def E0 (v : Value) (_ : World) : Prop := ∃ g, v = .slice (some ⟨g, 0, none⟩) 0 0
theorem E0.below {v w w'} (h : E0 v w) (_ : Below w.heap.size w w') : E0 v w' := h
/-- Two lists of statuses in one value. -/
def B2v (k0 : Nat) (E0 : Nat → Int) (k1 : Nat) (E1 : Nat → Int) (v : Value) (w : World) : Prop := ∃ b0 d0 b1 d1, v = .agg #[.slice b0 k0 d0, .slice b1 k1 d1] ∧ (El w b0 k0 E0 ∧ (b0 = none → k0 = 0 ∧ d0 = 0)) ∧ (El w b1 k1 E1 ∧ (b1 = none → k1 = 0 ∧ d1 = 0))
theorem B2v.below {k0 E0 k1 E1 v w w'} (h : B2v k0 E0 k1 E1 v w) (hb : Below w.heap.size w w') : B2v k0 E0 k1 E1 v w' := by
  obtain ⟨b0, d0, b1, d1, h1, h2, h3⟩ := h
  exact ⟨b0, d0, b1, d1, h1, ⟨h2.1.below hb, h2.2⟩, ⟨h3.1.below hb, h3.2⟩⟩
theorem B2v.st {k0 E0 k1 E1 v} {w w' : World} {B : Nat} (h : B2v k0 E0 k1 E1 v w) (hne : ∀ b, b ≠ B → w'.heap[b]? = w.heap[b]?) (hnb : ∀ o z, w.cell? ⟨B, o, none⟩ ≠ some (.int .i64 z)) : B2v k0 E0 k1 E1 v w' := by
  obtain ⟨b0, d0, b1, d1, h1, h2, h3⟩ := h
  exact ⟨b0, d0, b1, d1, h1, ⟨h2.1.st hne hnb, h2.2⟩, ⟨h3.1.st hne hnb, h3.2⟩⟩
set_option maxRecDepth 100000 in
set_option maxHeartbeats 4000000 in
theorem twBasis_c {w : World} {a0 a1 : Option Addr} {k0 c0 k1 c1 : Nat} {F0 F1 : Nat → Int} (h0 : El w a0 k0 F0) (h1 : El w a1 k1 F1) (hn0 : a0 = none → k0 = 0 ∧ c0 = 0) (hn1 : a1 = none → k1 = 0 ∧ c1 = 0) (hk0 : k0 ≤ 1048576) (hk1 : k1 ≤ 1048576) :
    Calls Try.prog 23 #[.agg #[.slice a0 k0 c0, .slice a1 k1 c1]] w fun e w' => ∃ v, e = .returned v ∧ Below w.heap.size w w' ∧ B2v k0 F0 k1 F1 v w' := by
  have HE0 := hid h0; have HE1 := hid h1
  clear h0 h1
  have hb := below_alloc (below_alloc (Below.refl w.heap.size w) (.cells #[.slice a0 k0 c0, .slice a1 k1 c1] 35)) (.cells #[.slice none 0 0, .slice none 0 0] 35)
  have B1 : Bk ((w.alloc (.cells #[.slice a0 k0 c0, .slice a1 k1 c1] 35)).alloc (.cells #[.slice none 0 0, .slice none 0 0] 35)) w.heap.size [.slice a0 k0 c0, .slice a1 k1 c1] 35 := (bk_new w [.slice a0 k0 c0, .slice a1 k1 c1] 35).below (below_alloc (Below.refl _ _) (.cells #[.slice none 0 0, .slice none 0 0] 35))
  have B2 : Bk ((w.alloc (.cells #[.slice a0 k0 c0, .slice a1 k1 c1] 35)).alloc (.cells #[.slice none 0 0, .slice none 0 0] 35)) (w.heap.size + 1) [.slice none 0 0, .slice none 0 0] 35 := by
    have := bk_new (w.alloc (.cells #[.slice a0 k0 c0, .slice a1 k1 c1] 35)) [.slice none 0 0, .slice none 0 0] 35
    rw [size_alloc1] at this
    exact this
  have hsz : ((w.alloc (.cells #[.slice a0 k0 c0, .slice a1 k1 c1] 35)).alloc (.cells #[.slice none 0 0, .slice none 0 0] 35)).heap.size = w.heap.size + 1 + 1 := by simp
  have HB := hid hb; have HB1 := hid B1; have HB2 := hid B2
  clear hb B1 B2
  go_enter Try.func23, Try.ntmps23
  go_upto_region 1 with fail
  generalize (w.alloc (.cells #[.slice a0 k0 c0, .slice a1 k1 c1] 35)).alloc (.cells #[.slice none 0 0, .slice none 0 0] 35) = w1 at *
  have hbd := Below.drew (Below.refl w1.heap.size w1)
  have hsz1 : w1.drew.heap.size = w.heap.size + 1 + 1 := hsz
  replace HB := hid (HB.out.trans (hbd.mono HB.out.size)); replace HB1 := hid (HB1.out.below hbd); replace HB2 := hid (HB2.out.below hbd)
  clear hbd hsz
  have r0 := HB1.out.cell (j := 0) rfl
  have r1 := HB1.out.cell (j := 1) rfl
  refine wp_region_held_drew (S := (fun w' => w'.cell? ⟨w.heap.size, 0, none⟩ = some (.slice a0 k0 c0) ∧ w'.cell? ⟨w.heap.size, 1, none⟩ = some (.slice a1 k1 c1))) (by kernel_rfl) ?_ (fun hHeld => ?_)
  · exact ⟨r0, r1⟩
  generalize w1.drew = wd at *
  clear r0 r1
  refine wpAnyH_take (i := 1) (v := ?_) rfl (by kernel_rfl) (by kernel_rfl) (by kernel_rfl) (fun _ _ _ h => h) (Or.inl ⟨by rfl, ?_⟩) (by assumption) ?_
  rotate_left
  (focus (intro w0 hSw; (try dsimp only at hSw); go_simp <;> with_reducible rfl))
  simp only [List.getElem_toArray, List.getElem_cons_succ, List.getElem_cons_zero, Act.put, List.setIfInBounds_toArray, List.set_cons_zero, List.set_cons_succ]
  refine wpAnyH_take (i := 2) (v := ?_) rfl (by kernel_rfl) (by kernel_rfl) (by kernel_rfl) (fun _ _ _ h => h) (Or.inl ⟨by rfl, ?_⟩) (by assumption) ?_
  rotate_left
  (focus (intro w0 hSw; (try dsimp only at hSw); go_simp <;> with_reducible rfl))
  simp only [List.getElem_toArray, List.getElem_cons_succ, List.getElem_cons_zero, Act.put, List.setIfInBounds_toArray, List.set_cons_zero, List.set_cons_succ]
  refine wpAnyH_take (i := 5) (v := ?_) rfl (by kernel_rfl) (by kernel_rfl) (by kernel_rfl) (fun _ _ _ h => h) (Or.inl ⟨by rfl, ?_⟩) (by assumption) ?_
  rotate_left
  (focus (intro w0 hSw; (try dsimp only at hSw); go_simp <;> with_reducible rfl))
  simp only [List.getElem_toArray, List.getElem_cons_succ, List.getElem_cons_zero, Act.put, List.setIfInBounds_toArray, List.set_cons_zero, List.set_cons_succ]
  refine wpAnyH_take (i := 6) (v := ?_) rfl (by kernel_rfl) (by kernel_rfl) (by kernel_rfl) (fun _ _ _ h => h) (Or.inl ⟨by rfl, ?_⟩) (by assumption) ?_
  rotate_left
  (focus (intro w0 hSw; (try dsimp only at hSw); go_simp <;> with_reducible rfl))
  simp only [List.getElem_toArray, List.getElem_cons_succ, List.getElem_cons_zero, Act.put, List.setIfInBounds_toArray, List.set_cons_zero, List.set_cons_succ]
  refine (show wpAnyH _ _ _ _ _ (5 + 1) _ _ _ from wpAnyH_flow (fun j v w => match j with | 0 => E0 v w | 3 => ES k0 F0 v w | 4 => E0 v w | 7 => ES k1 F1 v w | 8 => B2v k0 F0 k1 F1 v w | _ => True) [(0, 3), (3, 6), (4, 7), (7, 10), (8, 11)] [0, 3, 4, 7, 8] [9] _ _ _ 1 ?k1 ?k4 ?k2 ?k3 ?k5 ?k6 ?k8)
  case k1 => kernel_rfl
  case k4 => kernel_rfl
  case k2 => exact fun w w' h hb => ⟨kCb hb h.1, kCb hb h.2⟩
  case k3 =>
    intro j v w w' h hb
    split at h <;> first | exact E0.below h hb | exact ES.below h hb | exact B2v.below h hb | exact h | trivial
  case k8 => exact hHeld
  case k5 =>
    intro i hi
    simp only [List.mem_cons, List.not_mem_nil, or_false] at hi
    rcases hi with rfl | rfl | rfl | rfl | rfl
    · refine ⟨_, rfl, fun u w5 hS hb5 hd K hK => ?_⟩
      simp only [fill, List.foldl_cons, List.foldl_nil, Act.put, List.setIfInBounds_toArray, List.set_cons_zero, List.set_cons_succ] at hK ⊢
      go_simp
      exact hK.out _ _ (below_alloc (Below.refl _ _) _) ⟨w5.heap.size, rfl⟩
    · refine ⟨_, rfl, fun u w5 hS hb5 hd K hK => ?_⟩
      have hd1 : E0 (u 0) w5 := hd 0 (by kernel_rfl) (by kernel_rfl)
      obtain ⟨gb, e1⟩ := hd1
      refine step_app0 w5 ?h01 (.tmp 3) (.tmp 5) 33 ?h02 87 Try.underlying33 Try.infoStatus gb ?h03 a0 k0 c0 F0 ?h04 (HE0.out.below (HB.out.trans (hb5.mono HB.out.size))) hn0 hk0 ?h05
      case h01 => rfl
      case h02 => rfl
      case h03 => exact e1
      case h04 => rfl
      intro ao' c' w' hb6 hel hnn
      exact hK.out _ _ hb6 ⟨ao', c', rfl, hel, fun h => absurd h hnn⟩
    · refine ⟨_, rfl, fun u w5 hS hb5 hd K hK => ?_⟩
      simp only [fill, List.foldl_cons, List.foldl_nil, Act.put, List.setIfInBounds_toArray, List.set_cons_zero, List.set_cons_succ] at hK ⊢
      go_simp
      exact hK.out _ _ (below_alloc (Below.refl _ _) _) ⟨w5.heap.size, rfl⟩
    · refine ⟨_, rfl, fun u w5 hS hb5 hd K hK => ?_⟩
      have hd1 : E0 (u 4) w5 := hd 4 (by kernel_rfl) (by kernel_rfl)
      obtain ⟨gb, e1⟩ := hd1
      refine step_app0 w5 ?h11 (.tmp 7) (.tmp 9) 33 ?h12 87 Try.underlying33 Try.infoStatus gb ?h13 a1 k1 c1 F1 ?h14 (HE1.out.below (HB.out.trans (hb5.mono HB.out.size))) hn1 hk1 ?h15
      case h11 => rfl
      case h12 => rfl
      case h13 => exact e1
      case h14 => rfl
      intro ao' c' w' hb6 hel hnn
      exact hK.out _ _ hb6 ⟨ao', c', rfl, hel, fun h => absurd h hnn⟩
    · refine ⟨_, rfl, fun u w5 hS hb5 hd K hK => ?_⟩
      have hj0 : ES k0 F0 (u 3) w5 := hd 3 (by kernel_rfl) (by kernel_rfl)
      obtain ⟨b0, d0, q0, x0⟩ := hj0
      have hj1 : ES k1 F1 (u 7) w5 := hd 7 (by kernel_rfl) (by kernel_rfl)
      obtain ⟨b1, d1, q1, x1⟩ := hj1
      simp only [fill, List.foldl_cons, List.foldl_nil, Act.put, List.setIfInBounds_toArray, List.set_cons_zero, List.set_cons_succ] at hK ⊢
      simp only [q0, q1] at hK ⊢
      go_simp
      exact hK.out _ _ (Below.refl _ _) ⟨b0, d0, b1, d1, rfl, x0, x1⟩
  case k6 =>
    intro u w5 hS5 hb5 hg
    have h8 : B2v k0 F0 k1 F1 (u 8) w5 := hg 8 (by simp)
    have h8b := h8
    obtain ⟨b0, d0, b1, d1, e8, _, _⟩ := h8
    rw [e8] at h8b
    replace HB := hid (HB.out.trans (hb5.mono HB.out.size)); replace HB1 := hid (HB1.out.below hb5); replace HB2 := hid (HB2.out.below hb5)
    clear hg
    simp only [fill, List.foldl_cons, List.foldl_nil, Act.put, List.setIfInBounds_toArray, List.set_cons_zero, List.set_cons_succ]
    simp only [e8]
    clear e8
    refine wpAnyH_ready (rs := [9]) (by kernel_rfl) (by simp) ?_
    refine AllReadyH.cons (o := _) rfl (fun K hK => ?_) ?_
    rotate_left
    exact AllReadyH.nil
    have l0 := HB2.out.cell (j := 0) rfl
    have l1 := HB2.out.cell (j := 1) rfl
    have ff := HB2.out.frozen
    go_simp
    obtain ⟨hx1, hx2, hx3⟩ := st_new [.slice b0 k0 d0, .slice b1 k1 d1] HB2.out (nou_list (fun u hu q => by simp at hu; subst hu; simp)) HB.out (Nat.le_succ _)
    have hnb := bk_noi HB2.out (fun v hv => by simp at hv; subst hv; exact ⟨_, _, _, rfl⟩)
    have B9 := stl_bk [.slice b0 k0 d0, .slice b1 k1 d1] _ 0 _ rfl HB2.out
    obtain ⟨w9, hw9⟩ : ∃ x, stl (w.heap.size + 1) 0 [.slice b0 k0 d0, .slice b1 k1 d1] w5 = x := ⟨_, rfl⟩
    rw [show ((w5.setCell ⟨w.heap.size + 1, 0, none⟩ (.slice b0 k0 d0)).setCell ⟨w.heap.size + 1, 1, none⟩ (.slice b1 k1 d1)) = w9 from hw9]
    rw [hw9] at hx1 hx2 hx3 B9
    replace B9 : Bk w9 (w.heap.size + 1) [.slice b0 k0 d0, .slice b1 k1 d1] _ := B9
    have B8 := HB1.out.of (hx3 w.heap.size (by omega))
    have r0 := B8.cell (j := 0) rfl
    have r1 := B8.cell (j := 1) rfl
    clear hw9 ff l0 l1
    refine hK.out _ _ ⟨r0, r1⟩ (fun hH9 => ?_)
    clear hK K
    try simp only [Act.put]
    have l0 := B9.cell (j := 0) rfl
    have l1 := B9.cell (j := 1) rfl
    refine wpAnyH_done (by kernel_rfl) ?_ _
    have HX : Hid (Below w.heap.size w w9 ∧ B2v k0 F0 k1 F1 (.agg #[.slice b0 k0 d0, .slice b1 k1 d1]) w9) := ⟨hx1, h8b.st hx3 hnb⟩
    clear hx1 hx2 hx3 hnb h8b hH9 hS5 hHeld hb5 r0 r1 B8 B9 HB HB1 HB2 HE0 HE1
    go_wp2
    exact bodyPost_ret (v := .agg #[.slice b0 k0 d0, .slice b1 k1 d1]) (by simp [results, Try.results23, go_sem, l0, l1]) rfl ⟨_, rfl, HX.out⟩
/-- The error of a basis and its point that are handed in. -/
def coE (n k : Int) (l0 : Nat) (F0 : Nat → Int) (l1 : Nat) (F1 : Nat → Int) (k0 : Nat) (X0 : Nat → Nm) (k1 : Nat) (X1 : Nat → Nm) (k2 : Nat) (X2 : Nat → Nm) : Int := lsf (tri (stE l0 F0 n) (stE l1 F1 k) (ptE n k k0 X0 k1 X1 k2 X2)) 3
set_option maxRecDepth 100000 in
set_option maxHeartbeats 4000000 in
theorem checkCorner_c {w : World} {B : Nat} {n k : Int} {b0 b1 a0 a1 a2 : Option Addr} {l0 d0 l1 d1 k0 c0 k1 c1 k2 c2 : Nat} {F0 F1 : Nat → Int} {X0 X1 X2 : Nat → Nm} (hs : Sk w B n k) (g0 : El w b0 l0 F0) (g1 : El w b1 l1 F1) (h0 : Rl w a0 k0 X0) (h1 : Rl w a1 k1 X1) (h2 : Rl w a2 k2 X2) (hl0 : l0 ≤ 1048576) (hl1 : l1 ≤ 1048576) (hk0 : k0 ≤ 1048576) (hk1 : k1 ≤ 1048576) (hk2 : k2 ≤ 1048576) :
    Calls Try.prog 38 #[.pointer (some ⟨B, 0, none⟩), .agg #[.slice b0 l0 d0, .slice b1 l1 d1], .agg #[.slice a0 k0 c0, .slice a1 k1 c1, .slice a2 k2 c2]] w fun e w' => e = .returned (.int .i64 (coE n k l0 F0 l1 F1 k0 X0 k1 X1 k2 X2)) ∧ Below w.heap.size w w' := by
  have C0 := hid (fun W (hW : Below w.heap.size w W) => checkSt_c (w := W) (cap := d0) (z := n) (g0.below hW) hl0)
  have C1 := hid (fun W (hW : Below w.heap.size w W) => checkSt_c (w := W) (cap := d1) (z := k) (g1.below hW) hl1)
  have C2 := hid (fun W (hW : Below w.heap.size w W) => checkPoint_c (w := W) (c0 := c0) (c1 := c1) (c2 := c2) (hs.below hW) (h0.below hW) (h1.below hW) (h2.below hW) hk0 hk1 hk2)
  have HS := hid hs
  clear h0 h1 h2 g0 g1
  unfold coE
  obtain ⟨e0, he0⟩ : ∃ e, stE l0 F0 n = e := ⟨_, rfl⟩
  rw [he0] at C0 ⊢
  obtain ⟨e1, he1⟩ : ∃ e, stE l1 F1 k = e := ⟨_, rfl⟩
  rw [he1] at C1 ⊢
  obtain ⟨e2, he2⟩ : ∃ e, ptE n k k0 X0 k1 X1 k2 X2 = e := ⟨_, rfl⟩
  rw [he2] at C2 ⊢
  obtain ⟨er, her⟩ : ∃ e, lsf (tri e0 e1 e2) 3 = e := ⟨_, rfl⟩
  rw [her]
  have HE2 := hid her
  clear he0 he1 he2 her hs
  have hb := below_alloc (below_alloc (Below.refl w.heap.size w) (.cells #[.slice b0 l0 d0, .slice b1 l1 d1] 35)) (.cells #[.slice a0 k0 c0, .slice a1 k1 c1, .slice a2 k2 c2] 32)
  have B1 : Bk ((w.alloc (.cells #[.slice b0 l0 d0, .slice b1 l1 d1] 35)).alloc (.cells #[.slice a0 k0 c0, .slice a1 k1 c1, .slice a2 k2 c2] 32)) w.heap.size [.slice b0 l0 d0, .slice b1 l1 d1] 35 := (bk_new w [.slice b0 l0 d0, .slice b1 l1 d1] 35).below (below_alloc (Below.refl _ _) (.cells #[.slice a0 k0 c0, .slice a1 k1 c1, .slice a2 k2 c2] 32))
  have B2 : Bk ((w.alloc (.cells #[.slice b0 l0 d0, .slice b1 l1 d1] 35)).alloc (.cells #[.slice a0 k0 c0, .slice a1 k1 c1, .slice a2 k2 c2] 32)) (w.heap.size + 1) [.slice a0 k0 c0, .slice a1 k1 c1, .slice a2 k2 c2] 32 := by
    have := bk_new (w.alloc (.cells #[.slice b0 l0 d0, .slice b1 l1 d1] 35)) [.slice a0 k0 c0, .slice a1 k1 c1, .slice a2 k2 c2] 32
    rw [size_alloc1] at this
    exact this
  go_enter Try.func38, Try.ntmps38
  go_upto_region 1 with fail
  generalize (w.alloc (.cells #[.slice b0 l0 d0, .slice b1 l1 d1] 35)).alloc (.cells #[.slice a0 k0 c0, .slice a1 k1 c1, .slice a2 k2 c2] 32) = w1 at *
  have hbd := Below.drew (Below.refl w1.heap.size w1)
  replace B1 := B1.below hbd; replace B2 := B2.below hbd
  have HW := hid (hb.trans (hbd.mono hb.size))
  replace HS := hid (HS.out.below HW.out)
  clear hbd hb
  have r0 := B1.cell (j := 0) rfl
  have r1 := B1.cell (j := 1) rfl
  have r2 := B2.cell (j := 0) rfl
  have r3 := B2.cell (j := 1) rfl
  have r4 := B2.cell (j := 2) rfl
  have r5 := HS.out.c2
  have r6 := HS.out.c3
  clear B1 B2
  refine wp_region_held_drew (S := (fun w' => w'.cell? ⟨w.heap.size, 0, none⟩ = some (.slice b0 l0 d0) ∧ w'.cell? ⟨w.heap.size, 1, none⟩ = some (.slice b1 l1 d1) ∧ w'.cell? ⟨w.heap.size + 1, 0, none⟩ = some (.slice a0 k0 c0) ∧ w'.cell? ⟨w.heap.size + 1, 1, none⟩ = some (.slice a1 k1 c1) ∧ w'.cell? ⟨w.heap.size + 1, 2, none⟩ = some (.slice a2 k2 c2) ∧ w'.cell? ⟨B, 2, none⟩ = some (.int .i64 n) ∧ w'.cell? ⟨B, 3, none⟩ = some (.int .i64 k))) (by kernel_rfl) ?_ (fun hHeld => ?_)
  · exact ⟨r0, r1, r2, r3, r4, r5, r6⟩
  generalize w1.drew = wd at *
  have HD := hid (Below.refl wd.heap.size wd)
  refine wpAnyH_take (i := 0) (v := ?_) rfl (by kernel_rfl) (by kernel_rfl) (by kernel_rfl) (fun _ _ _ h => h) (Or.inl ⟨by rfl, ?_⟩) (by assumption) ?_
  rotate_left
  (focus (intro w0 hSw; (try dsimp only at hSw); go_simp <;> with_reducible rfl))
  simp only [List.getElem_toArray, List.getElem_cons_zero, Act.put, List.setIfInBounds_toArray, List.set_cons_zero, List.set_cons_succ]
  refine wpAnyH_take (i := 1) (v := ?_) rfl (by kernel_rfl) (by kernel_rfl) (by kernel_rfl) (fun _ _ _ h => h) (Or.inl ⟨by rfl, ?_⟩) (by assumption) ?_
  rotate_left
  (focus (intro w0 hSw; (try dsimp only at hSw); go_simp <;> with_reducible rfl))
  simp only [List.getElem_toArray, List.getElem_cons_succ, List.getElem_cons_zero, Act.put, List.setIfInBounds_toArray, List.set_cons_zero, List.set_cons_succ]
  refine wpAnyH_take (i := 2) (v := ?_) rfl (by kernel_rfl) (by kernel_rfl) (by kernel_rfl) (fun _ _ _ h => h) (Or.inl ⟨by rfl, ?_⟩) (by assumption) ?_
  rotate_left
  (focus (intro w0 hSw; (try dsimp only at hSw); go_simp <;> with_reducible rfl))
  simp only [List.getElem_toArray, List.getElem_cons_succ, List.getElem_cons_zero, Act.put, List.setIfInBounds_toArray, List.set_cons_zero, List.set_cons_succ]
  refine wpAnyH_take (i := 3) (v := ?_) rfl (by kernel_rfl) (by kernel_rfl) (by kernel_rfl) (fun _ _ _ h => h) (Or.inl ⟨by rfl, ?_⟩) (by assumption) ?_
  rotate_left
  (focus (intro w0 hSw; (try dsimp only at hSw); go_simp <;> with_reducible rfl))
  simp only [List.getElem_toArray, List.getElem_cons_succ, List.getElem_cons_zero, Act.put, List.setIfInBounds_toArray, List.set_cons_zero, List.set_cons_succ]
  refine wpAnyH_take (i := 4) (v := ?_) rfl (by kernel_rfl) (by kernel_rfl) (by kernel_rfl) (fun _ _ _ h => h) (Or.inl ⟨by rfl, ?_⟩) (by assumption) ?_
  rotate_left
  (focus (intro w0 hSw; (try dsimp only at hSw); go_simp <;> with_reducible rfl))
  simp only [List.getElem_toArray, List.getElem_cons_succ, List.getElem_cons_zero, Act.put, List.setIfInBounds_toArray, List.set_cons_zero, List.set_cons_succ]
  refine wpAnyH_take (i := 5) (v := ?_) rfl (by kernel_rfl) (by kernel_rfl) (by kernel_rfl) (fun _ _ _ h => h) (Or.inl ⟨by rfl, ?_⟩) (by assumption) ?_
  rotate_left
  (focus (intro w0 hSw; (try dsimp only at hSw); go_simp <;> with_reducible rfl))
  simp only [List.getElem_toArray, List.getElem_cons_succ, List.getElem_cons_zero, Act.put, List.setIfInBounds_toArray, List.set_cons_zero, List.set_cons_succ]
  refine wpAnyH_take (i := 6) (v := ?_) rfl (by kernel_rfl) (by kernel_rfl) (by kernel_rfl) (fun _ _ _ h => h) (Or.inl ⟨by rfl, ?_⟩) (by assumption) ?_
  rotate_left
  (focus (intro w0 hSw; (try dsimp only at hSw); go_simp <;> with_reducible rfl))
  simp only [List.getElem_toArray, List.getElem_cons_succ, List.getElem_cons_zero, Act.put, List.setIfInBounds_toArray, List.set_cons_zero, List.set_cons_succ]
  refine wpAnyH_take (i := 8) (v := ?_) rfl (by kernel_rfl) (by kernel_rfl) (by kernel_rfl) (fun _ _ _ h => h) (Or.inl ⟨by rfl, ?_⟩) (by assumption) ?_
  rotate_left
  (focus (intro w0 hSw; (try dsimp only at hSw); go_simp <;> with_reducible rfl))
  simp only [List.getElem_toArray, List.getElem_cons_succ, List.getElem_cons_zero, Act.put, List.setIfInBounds_toArray, List.set_cons_zero, List.set_cons_succ]
  refine wpAnyH_take (i := 9) (v := ?_) rfl (by kernel_rfl) (by kernel_rfl) (by kernel_rfl) (fun _ _ _ h => h) (Or.inl ⟨by rfl, ?_⟩) (by assumption) ?_
  rotate_left
  (focus (intro w0 hSw; (try dsimp only at hSw); go_simp <;> with_reducible rfl))
  simp only [List.getElem_toArray, List.getElem_cons_succ, List.getElem_cons_zero, Act.put, List.setIfInBounds_toArray, List.set_cons_zero, List.set_cons_succ]
  refine wpAnyH_take (i := 10) (v := ?_) rfl (by kernel_rfl) (by kernel_rfl) (by kernel_rfl) (fun _ _ _ h => h) (Or.inl ⟨by rfl, ?_⟩) (by assumption) ?_
  rotate_left
  (focus (intro w0 hSw; (try dsimp only at hSw); go_simp <;> with_reducible rfl))
  simp only [List.getElem_toArray, List.getElem_cons_succ, List.getElem_cons_zero, Act.put, List.setIfInBounds_toArray, List.set_cons_zero, List.set_cons_succ]
  refine wpAnyH_take (i := 11) (v := ?_) rfl (by kernel_rfl) (by kernel_rfl) (by kernel_rfl) (fun _ _ _ h => h) (Or.inl ⟨by rfl, ?_⟩) (by assumption) ?_
  rotate_left
  (focus (intro w0 hSw; (try dsimp only at hSw); go_simp <;> with_reducible rfl))
  simp only [List.getElem_toArray, List.getElem_cons_succ, List.getElem_cons_zero, Act.put, List.setIfInBounds_toArray, List.set_cons_zero, List.set_cons_succ]
  refine wpAnyH_take (i := 12) (v := ?_) rfl (by kernel_rfl) (by kernel_rfl) (by kernel_rfl) (fun _ _ _ h => h) (Or.inl ⟨by rfl, ?_⟩) (by assumption) ?_
  rotate_left
  (focus (intro w0 hSw; (try dsimp only at hSw); go_simp <;> with_reducible rfl))
  simp only [List.getElem_toArray, List.getElem_cons_succ, List.getElem_cons_zero, Act.put, List.setIfInBounds_toArray, List.set_cons_zero, List.set_cons_succ]
  refine wpAnyH_take (i := 13) (v := ?_) rfl (by kernel_rfl) (by kernel_rfl) (by kernel_rfl) (fun _ _ _ h => h) (Or.inl ⟨by rfl, ?_⟩) (by assumption) ?_
  rotate_left
  (focus (intro w0 hSw; (try dsimp only at hSw); go_simp <;> with_reducible rfl))
  simp only [List.getElem_toArray, List.getElem_cons_succ, List.getElem_cons_zero, Act.put, List.setIfInBounds_toArray, List.set_cons_zero, List.set_cons_succ]
  refine wpAnyH_take (i := 14) (v := ?_) rfl (by kernel_rfl) (by kernel_rfl) (by kernel_rfl) (fun _ _ _ h => h) (Or.inl ⟨by rfl, ?_⟩) (by assumption) ?_
  rotate_left
  (focus (intro w0 hSw; (try dsimp only at hSw); go_simp <;> with_reducible rfl))
  simp only [List.getElem_toArray, List.getElem_cons_succ, List.getElem_cons_zero, Act.put, List.setIfInBounds_toArray, List.set_cons_zero, List.set_cons_succ]
  refine wpAnyH_take (i := 16) (v := ?_) rfl (by kernel_rfl) (by kernel_rfl) (by kernel_rfl) (fun _ _ _ h => h) (Or.inl ⟨by rfl, ?_⟩) (by assumption) ?_
  rotate_left
  (focus (intro w0 hSw; (try dsimp only at hSw); go_simp <;> with_reducible rfl))
  simp only [List.getElem_toArray, List.getElem_cons_succ, List.getElem_cons_zero, Act.put, List.setIfInBounds_toArray, List.set_cons_zero, List.set_cons_succ]
  refine wpAnyH_take (i := 17) (v := ?_) rfl (by kernel_rfl) (by kernel_rfl) (by kernel_rfl) (fun _ _ _ h => h) (Or.inl ⟨by rfl, ?_⟩) (by assumption) ?_
  rotate_left
  (focus (intro w0 hSw; (try dsimp only at hSw); go_simp <;> with_reducible rfl))
  simp only [List.getElem_toArray, List.getElem_cons_succ, List.getElem_cons_zero, Act.put, List.setIfInBounds_toArray, List.set_cons_zero, List.set_cons_succ]
  refine wpAnyH_ready (rs := [7]) (by kernel_rfl) (by simp) ?_
  refine AllReadyH.cons (o := _) rfl (fun K hK => ?_) ?_
  rotate_left
  exact AllReadyH.nil
  go_simp
  go_at_call 52
  refine (C0.out _ HW.out).mono ?_
  rintro e w2 ⟨rfl, rfl⟩
  (try go_wp2_with fail)
  refine hK.out _ _ ?_ (fun hH0 => ?_)
  · exact hHeld
  clear hK K
  try simp only [Act.put, List.setIfInBounds_toArray, List.set_cons_zero, List.set_cons_succ]
  refine wpAnyH_ready (rs := [15]) (by kernel_rfl) (by simp) ?_
  refine AllReadyH.cons (o := _) rfl (fun K hK => ?_) ?_
  rotate_left
  exact AllReadyH.nil
  go_simp
  go_at_call 52
  refine (C1.out _ HW.out).mono ?_
  rintro e w3 ⟨rfl, rfl⟩
  (try go_wp2_with fail)
  refine hK.out _ _ ?_ (fun hH1 => ?_)
  · exact hH0
  clear hK K
  try simp only [Act.put, List.setIfInBounds_toArray, List.set_cons_zero, List.set_cons_succ]
  refine wpAnyH_ready (rs := [18]) (by kernel_rfl) (by simp) ?_
  refine AllReadyH.cons (o := _) rfl (fun K hK => ?_) ?_
  rotate_left
  exact AllReadyH.nil
  go_simp
  go_at_call 35
  refine (C2.out _ HW.out).mono ?_
  rintro e w4 ⟨rfl, hb4⟩
  replace HW := hid (HW.out.trans (hb4.mono HW.out.size)); replace HS := hid (HS.out.below hb4)
  (try go_wp2_with fail)
  refine hK.out _ _ ?_ (fun hH2 => ?_)
  · ((try dsimp only); (refine ⟨?_, ?_, ?_, ?_, ?_, ?_, ?_⟩ <;> repeat (with_reducible first | assumption | refine kCb (by assumption) ?_)))
  clear hK K
  try simp only [Act.put, List.setIfInBounds_toArray, List.set_cons_zero, List.set_cons_succ]
  refine wpAnyH_ready (rs := [19]) (by kernel_rfl) (by simp) ?_
  refine AllReadyH.cons (o := _) rfl (fun K hK => ?_) ?_
  rotate_left
  exact AllReadyH.nil
  go_simp
  have hbA := below_alloc (Below.refl w4.heap.size w4) (.cells #[.int .i64 e0, .int .i64 e1, .int .i64 e2] 24)
  have HEl := hid (tri_el (w := w4) (e0 := e0) (e1 := e1) (e2 := e2) (t := 24))
  have HWA := hid (HW.out.trans (hbA.mono HW.out.size))
  obtain ⟨gA, hgA⟩ : ∃ z, w4.heap.size = z := ⟨_, rfl⟩
  rw [hgA] at HEl ⊢
  generalize hwA : w4.alloc (.cells #[.int .i64 e0, .int .i64 e1, .int .i64 e2] 24) = wA at *
  clear hwA hgA
  refine hK.out _ _ ?_ (fun hHA => ?_)
  · ((try dsimp only); (refine ⟨?_, ?_, ?_, ?_, ?_, ?_, ?_⟩ <;> repeat (with_reducible first | assumption | refine kCb (by assumption) ?_)))
  clear hK K
  try simp only [Act.put, List.setIfInBounds_toArray, List.set_cons_zero, List.set_cons_succ]
  refine wpAnyH_ready (rs := [20]) (by kernel_rfl) (by simp) ?_
  refine AllReadyH.cons (o := _) rfl (fun K hK => ?_) ?_
  rotate_left
  exact AllReadyH.nil
  go_simp
  go_at_call 42
  refine (least_c HEl.out (by decide)).mono ?_
  rintro e w9 ⟨rfl, rfl⟩
  (try go_wp2_with fail)
  refine hK.out _ _ ?_ (fun hHB => ?_)
  · exact hHA
  clear hK K
  try simp only [Act.put, List.setIfInBounds_toArray, List.set_cons_zero, List.set_cons_succ]
  refine wpAnyH_take (i := 21) (v := ?_) rfl (by kernel_rfl) (by kernel_rfl) (by kernel_rfl) (fun _ _ _ h => h) (Or.inl ⟨by rfl, ?_⟩) (by assumption) ?_
  rotate_left
  (focus (intro w0 hSw; (try dsimp only at hSw); go_simp <;> with_reducible rfl))
  simp only [List.getElem_toArray, List.getElem_cons_succ, List.getElem_cons_zero, Act.put, List.setIfInBounds_toArray, List.set_cons_zero, List.set_cons_succ]
  refine wpAnyH_done (by kernel_rfl) ?_ _
  simp only [show lsf (tri e0 e1 e2) 3 = er from HE2.out]
  have s5 := (HS.out.below hbA).c5
  have HX := hid HWA.out
  clear hHeld hH0 hH1 hH2 hHA hHB r0 r1 r2 r3 r4 r5 r6 HEl C0 C1 C2 HW HE2 HS hbA hb4 HD HWA
  by_cases h0 : er = 0
  · subst h0
    go_wp2
    go_ret
    exact ⟨rfl, HX.out⟩
  · have h1 : (er == 0) = false := by simpa using h0
    go_wp2
    go_ret
    exact ⟨rfl, HX.out⟩
end Go.Proofs.Ytllpllebmknmpaa
namespace Go.Proofs.Ytllpllebmknmpaa
open Go.RowKit

/-- Three lists of the same numbers in one value. -/
def P3v (k0 : Nat) (X0 : Nat → Nm) (k1 : Nat) (X1 : Nat → Nm) (k2 : Nat) (X2 : Nat → Nm) (v : Value) (w : World) : Prop := ∃ p0 q0 p1 q1 p2 q2, v = .agg #[.slice p0 k0 q0, .slice p1 k1 q1, .slice p2 k2 q2] ∧ RS k0 X0 (.slice p0 k0 q0) w ∧ RS k1 X1 (.slice p1 k1 q1) w ∧ RS k2 X2 (.slice p2 k2 q2) w
theorem P3v.below {k0 X0 k1 X1 k2 X2 v w w'} (h : P3v k0 X0 k1 X1 k2 X2 v w) (hb : Below w.heap.size w w') : P3v k0 X0 k1 X1 k2 X2 v w' := by
  obtain ⟨p0, q0, p1, q1, p2, q2, h1, h2, h3, h4⟩ := h
  exact ⟨p0, q0, p1, q1, p2, q2, h1, h2.below hb, h3.below hb, h4.below hb⟩
theorem P3v.st {k0 X0 k1 X1 k2 X2 v} {w w' : World} {B : Nat} (h : P3v k0 X0 k1 X1 k2 X2 v w) (hk : Kp w w') (hne : ∀ b, b ≠ B → w'.heap[b]? = w.heap[b]?) (hnb : ∀ o s, w.cell? ⟨B, o, none⟩ ≠ some (.bool s)) : P3v k0 X0 k1 X1 k2 X2 v w' := by
  obtain ⟨p0, q0, p1, q1, p2, q2, h1, h2, h3, h4⟩ := h
  exact ⟨p0, q0, p1, q1, p2, q2, h1, h2.st hk hne hnb, h3.st hk hne hnb, h4.st hk hne hnb⟩
/-- A basis and its point in one value. -/
def C5v (l0 : Nat) (F0 : Nat → Int) (l1 : Nat) (F1 : Nat → Int) (k0 : Nat) (X0 : Nat → Nm) (k1 : Nat) (X1 : Nat → Nm) (k2 : Nat) (X2 : Nat → Nm) (v : Value) (w : World) : Prop := ∃ f0 g0 f1 g1 p0 q0 p1 q1 p2 q2, v = .agg #[.slice f0 l0 g0, .slice f1 l1 g1, .slice p0 k0 q0, .slice p1 k1 q1, .slice p2 k2 q2] ∧ B2v l0 F0 l1 F1 (.agg #[.slice f0 l0 g0, .slice f1 l1 g1]) w ∧ P3v k0 X0 k1 X1 k2 X2 (.agg #[.slice p0 k0 q0, .slice p1 k1 q1, .slice p2 k2 q2]) w
theorem C5v.below {l0 F0 l1 F1 k0 X0 k1 X1 k2 X2 v w w'} (h : C5v l0 F0 l1 F1 k0 X0 k1 X1 k2 X2 v w) (hb : Below w.heap.size w w') : C5v l0 F0 l1 F1 k0 X0 k1 X1 k2 X2 v w' := by
  obtain ⟨f0, g0, f1, g1, p0, q0, p1, q1, p2, q2, h1, h2, h3⟩ := h
  exact ⟨f0, g0, f1, g1, p0, q0, p1, q1, p2, q2, h1, h2.below hb, h3.below hb⟩
theorem C5v.st {l0 F0 l1 F1 k0 X0 k1 X1 k2 X2 v} {w w' : World} {B : Nat} (h : C5v l0 F0 l1 F1 k0 X0 k1 X1 k2 X2 v w) (hk : Kp w w') (hne : ∀ b, b ≠ B → w'.heap[b]? = w.heap[b]?) (hnb : ∀ o s, w.cell? ⟨B, o, none⟩ ≠ some (.bool s)) (hni : ∀ o z, w.cell? ⟨B, o, none⟩ ≠ some (.int .i64 z)) : C5v l0 F0 l1 F1 k0 X0 k1 X1 k2 X2 v w' := by
  obtain ⟨f0, g0, f1, g1, p0, q0, p1, q1, p2, q2, h1, h2, h3⟩ := h
  exact ⟨f0, g0, f1, g1, p0, q0, p1, q1, p2, q2, h1, h2.st hne hni, h3.st hk hne hnb⟩
def Tv (_ : Value) (_ : World) : Prop := True
theorem Tv.below {v w w'} (_ : Tv v w) (_ : Below w.heap.size w w') : Tv v w' := trivial
/-- What Basis answers. -/
def BasAns (w w' : World) (e : Ending) (n k : Int) (l0 : Nat) (F0 : Nat → Int) (l1 : Nat) (F1 : Nat → Int) (k0 : Nat) (X0 : Nat → Nm) (k1 : Nat) (X1 : Nat → Nm) (k2 : Nat) (X2 : Nat → Nm) : Prop := Below w.heap.size w w' ∧
  ((coE n k l0 F0 l1 F1 k0 X0 k1 X1 k2 X2 ≠ 0 ∧ e = .returned (.tuple #[.agg #[.slice none 0 0, .slice none 0 0], .agg #[.slice none 0 0, .slice none 0 0, .slice none 0 0], .int .i64 (coE n k l0 F0 l1 F1 k0 X0 k1 X1 k2 X2)])) ∨ (coE n k l0 F0 l1 F1 k0 X0 k1 X1 k2 X2 = 0 ∧ ∃ f0 g0 f1 g1 p0 q0 p1 q1 p2 q2, e = .returned (.tuple #[.agg #[.slice f0 l0 g0, .slice f1 l1 g1], .agg #[.slice p0 k0 q0, .slice p1 k1 q1, .slice p2 k2 q2], .int .i64 0]) ∧ C5v l0 F0 l1 F1 k0 X0 k1 X1 k2 X2 (.agg #[.slice f0 l0 g0, .slice f1 l1 g1, .slice p0 k0 q0, .slice p1 k1 q1, .slice p2 k2 q2]) w'))
set_option maxRecDepth 100000 in
set_option maxHeartbeats 8000000 in
theorem sbasis_c {w : World} {B : Nat} {n k : Int} {b0 b1 a0 a1 a2 : Option Addr} {l0 d0 l1 d1 k0 c0 k1 c1 k2 c2 : Nat} {F0 F1 : Nat → Int} {X0 X1 X2 : Nat → Nm} (hs : Sk w B n k) (g0 : El w b0 l0 F0) (g1 : El w b1 l1 F1) (hn0 : b0 = none → l0 = 0 ∧ d0 = 0) (hn1 : b1 = none → l1 = 0 ∧ d1 = 0) (h0 : Rl w a0 k0 X0) (h1 : Rl w a1 k1 X1) (h2 : Rl w a2 k2 X2) (hl0 : l0 ≤ 1048576) (hl1 : l1 ≤ 1048576) (hk0 : k0 ≤ 1048576) (hk1 : k1 ≤ 1048576) (hk2 : k2 ≤ 1048576) :
    Calls Try.prog 22 #[.pointer (some ⟨B, 0, none⟩), .agg #[.slice b0 l0 d0, .slice b1 l1 d1], .agg #[.slice a0 k0 c0, .slice a1 k1 c1, .slice a2 k2 c2]] w fun e w' => BasAns w w' e n k l0 F0 l1 F1 k0 X0 k1 X1 k2 X2 := by
  have CC := hid (fun W (hW : Below w.heap.size w W) => checkCorner_c (w := W) (d0 := d0) (d1 := d1) (c0 := c0) (c1 := c1) (c2 := c2) (hs.below hW) (g0.below hW) (g1.below hW) (h0.below hW) (h1.below hW) (h2.below hW) hl0 hl1 hk0 hk1 hk2)
  have K0 : Hid (∀ W, Below w.heap.size w W → Calls Try.prog 39 #[.slice b0 l0 d0] W fun e w' => ∃ v, e = .returned v ∧ Below W.heap.size W w' ∧ ES l0 F0 v w') := fun W hW => (cloneSt_c (cap := d0) (g0.below hW) hn0 hl0).mono (fun _ _ ⟨a, c, e1, e2, e3⟩ => ⟨_, e1, e2, a, c, rfl, e3⟩)
  have K1 : Hid (∀ W, Below w.heap.size w W → Calls Try.prog 39 #[.slice b1 l1 d1] W fun e w' => ∃ v, e = .returned v ∧ Below W.heap.size W w' ∧ ES l1 F1 v w') := fun W hW => (cloneSt_c (cap := d1) (g1.below hW) hn1 hl1).mono (fun _ _ ⟨a, c, e1, e2, e3⟩ => ⟨_, e1, e2, a, c, rfl, e3⟩)
  have CP : Hid (∀ W, Below w.heap.size w W → Calls Try.prog 37 #[.agg #[.slice a0 k0 c0, .slice a1 k1 c1, .slice a2 k2 c2]] W fun e w' => ∃ v, e = .returned v ∧ Below W.heap.size W w' ∧ P3v k0 X0 k1 X1 k2 X2 v w') := fun W hW => (cpPoint_c (c0 := c0) (c1 := c1) (c2 := c2) (h0.below hW) (h1.below hW) (h2.below hW) hk0 hk1 hk2).mono (fun _ _ ⟨x0, Y0, x1, Y1, x2, Y2, e1, e2, e3⟩ => ⟨_, e1, e2, _, _, _, _, _, _, rfl, e3.out.1.rs h0, e3.out.2.1.rs h1, e3.out.2.2.rs h2⟩)
  have HS := hid hs
  clear h0 h1 h2 g0 g1 hs
  obtain ⟨er, her⟩ : ∃ e, coE n k l0 F0 l1 F1 k0 X0 k1 X1 k2 X2 = e := ⟨_, rfl⟩
  rw [her] at CC
  have HE := hid her
  clear her
  have hb := (below_alloc (below_alloc (below_alloc (below_alloc (Below.refl w.heap.size w) (.cells #[.slice b0 l0 d0, .slice b1 l1 d1] 35)) (.cells #[.slice a0 k0 c0, .slice a1 k1 c1, .slice a2 k2 c2] 32)) (.cells #[.slice none 0 0, .slice none 0 0] 35)) (.cells #[.slice none 0 0, .slice none 0 0, .slice none 0 0] 32))
  have B1 : Bk ((((w.alloc (.cells #[.slice b0 l0 d0, .slice b1 l1 d1] 35)).alloc (.cells #[.slice a0 k0 c0, .slice a1 k1 c1, .slice a2 k2 c2] 32)).alloc (.cells #[.slice none 0 0, .slice none 0 0] 35)).alloc (.cells #[.slice none 0 0, .slice none 0 0, .slice none 0 0] 32)) w.heap.size [.slice b0 l0 d0, .slice b1 l1 d1] 35 := (((bk_new w [.slice b0 l0 d0, .slice b1 l1 d1] 35).below (below_alloc (Below.refl _ _) (.cells #[.slice a0 k0 c0, .slice a1 k1 c1, .slice a2 k2 c2] 32))).below (below_alloc (Below.refl _ _) (.cells #[.slice none 0 0, .slice none 0 0] 35))).below (below_alloc (Below.refl _ _) (.cells #[.slice none 0 0, .slice none 0 0, .slice none 0 0] 32))
  have B2 : Bk ((((w.alloc (.cells #[.slice b0 l0 d0, .slice b1 l1 d1] 35)).alloc (.cells #[.slice a0 k0 c0, .slice a1 k1 c1, .slice a2 k2 c2] 32)).alloc (.cells #[.slice none 0 0, .slice none 0 0] 35)).alloc (.cells #[.slice none 0 0, .slice none 0 0, .slice none 0 0] 32)) (w.heap.size + 1) [.slice a0 k0 c0, .slice a1 k1 c1, .slice a2 k2 c2] 32 := by
    have := ((bk_new (w.alloc (.cells #[.slice b0 l0 d0, .slice b1 l1 d1] 35)) [.slice a0 k0 c0, .slice a1 k1 c1, .slice a2 k2 c2] 32).below (below_alloc (Below.refl _ _) (.cells #[.slice none 0 0, .slice none 0 0] 35))).below (below_alloc (Below.refl _ _) (.cells #[.slice none 0 0, .slice none 0 0, .slice none 0 0] 32))
    rw [size_alloc1] at this
    exact this
  have B3 : Bk ((((w.alloc (.cells #[.slice b0 l0 d0, .slice b1 l1 d1] 35)).alloc (.cells #[.slice a0 k0 c0, .slice a1 k1 c1, .slice a2 k2 c2] 32)).alloc (.cells #[.slice none 0 0, .slice none 0 0] 35)).alloc (.cells #[.slice none 0 0, .slice none 0 0, .slice none 0 0] 32)) (w.heap.size + 1 + 1) [.slice none 0 0, .slice none 0 0] 35 := by
    have := (bk_new ((w.alloc (.cells #[.slice b0 l0 d0, .slice b1 l1 d1] 35)).alloc (.cells #[.slice a0 k0 c0, .slice a1 k1 c1, .slice a2 k2 c2] 32)) [.slice none 0 0, .slice none 0 0] 35).below (below_alloc (Below.refl _ _) (.cells #[.slice none 0 0, .slice none 0 0, .slice none 0 0] 32))
    rw [size_alloc1, size_alloc1] at this
    exact this
  have B4 : Bk ((((w.alloc (.cells #[.slice b0 l0 d0, .slice b1 l1 d1] 35)).alloc (.cells #[.slice a0 k0 c0, .slice a1 k1 c1, .slice a2 k2 c2] 32)).alloc (.cells #[.slice none 0 0, .slice none 0 0] 35)).alloc (.cells #[.slice none 0 0, .slice none 0 0, .slice none 0 0] 32)) (w.heap.size + 1 + 1 + 1) [.slice none 0 0, .slice none 0 0, .slice none 0 0] 32 := by
    have := bk_new (((w.alloc (.cells #[.slice b0 l0 d0, .slice b1 l1 d1] 35)).alloc (.cells #[.slice a0 k0 c0, .slice a1 k1 c1, .slice a2 k2 c2] 32)).alloc (.cells #[.slice none 0 0, .slice none 0 0] 35)) [.slice none 0 0, .slice none 0 0, .slice none 0 0] 32
    rw [size_alloc1, size_alloc1, size_alloc1] at this
    exact this
  have hsz : ((((w.alloc (.cells #[.slice b0 l0 d0, .slice b1 l1 d1] 35)).alloc (.cells #[.slice a0 k0 c0, .slice a1 k1 c1, .slice a2 k2 c2] 32)).alloc (.cells #[.slice none 0 0, .slice none 0 0] 35)).alloc (.cells #[.slice none 0 0, .slice none 0 0, .slice none 0 0] 32)).heap.size = w.heap.size + 1 + 1 + 1 + 1 := by simp
  have HB := hid hb; have H1 := hid B1; have H2 := hid B2; have H3 := hid B3; have H4 := hid B4; have HSZ := hid hsz
  clear hb B1 B2 B3 B4 hsz
  go_enter Try.func22, Try.ntmps22
  go_upto_region 3 with fail
  generalize (((w.alloc (.cells #[.slice b0 l0 d0, .slice b1 l1 d1] 35)).alloc (.cells #[.slice a0 k0 c0, .slice a1 k1 c1, .slice a2 k2 c2] 32)).alloc (.cells #[.slice none 0 0, .slice none 0 0] 35)).alloc (.cells #[.slice none 0 0, .slice none 0 0, .slice none 0 0] 32) = w1 at *
  have r0 := H1.out.cell (j := 0) rfl
  have r1 := H1.out.cell (j := 1) rfl
  have t0 := H2.out.cell (j := 0) rfl
  have t1 := H2.out.cell (j := 1) rfl
  have t2 := H2.out.cell (j := 2) rfl
  go_wp2_with fail
  refine (CC.out _ HB.out).mono ?_
  rintro e w2 ⟨rfl, hb2⟩
  have hs2 := hb2.size
  replace HB := hid (HB.out.trans (hb2.mono HB.out.size)); replace H1 := hid (H1.out.below hb2); replace H2 := hid (H2.out.below hb2); replace H3 := hid (H3.out.below hb2); replace H4 := hid (H4.out.below hb2)
  clear hb2 r0 r1 t0 t1 t2 CC
  by_cases h0 : er = 0
  · subst h0
    go_upto_region 6 with fail
    have hbd := Below.drew (Below.refl w2.heap.size w2)
    have hsd := hbd.size
    replace HB := hid (HB.out.trans (hbd.mono HB.out.size)); replace H1 := hid (H1.out.below hbd); replace H2 := hid (H2.out.below hbd); replace H3 := hid (H3.out.below hbd); replace H4 := hid (H4.out.below hbd)
    clear hbd
    have r0 := H1.out.cell (j := 0) rfl
    have r1 := H1.out.cell (j := 1) rfl
    refine wp_region_held_drew (S := (fun w' => w'.cell? ⟨w.heap.size, 0, none⟩ = some (.slice b0 l0 d0) ∧ w'.cell? ⟨w.heap.size, 1, none⟩ = some (.slice b1 l1 d1))) (by kernel_rfl) ?_ (fun hHeld => ?_)
    · exact ⟨r0, r1⟩
    generalize w2.drew = wd at *
    clear r0 r1
    refine wpAnyH_take (i := 0) (v := ?_) rfl (by kernel_rfl) (by kernel_rfl) (by kernel_rfl) (fun _ _ _ h => h) (Or.inl ⟨by rfl, ?_⟩) (by assumption) ?_
    rotate_left
    (focus (intro w0 hSw; (try dsimp only at hSw); go_simp <;> with_reducible rfl))
    simp only [List.getElem_toArray, List.getElem_cons_zero, Act.put, List.setIfInBounds_toArray, List.set_cons_zero, List.set_cons_succ]
    refine wpAnyH_take (i := 1) (v := ?_) rfl (by kernel_rfl) (by kernel_rfl) (by kernel_rfl) (fun _ _ _ h => h) (Or.inl ⟨by rfl, ?_⟩) (by assumption) ?_
    rotate_left
    (focus (intro w0 hSw; (try dsimp only at hSw); go_simp <;> with_reducible rfl))
    simp only [List.getElem_toArray, List.getElem_cons_succ, List.getElem_cons_zero, Act.put, List.setIfInBounds_toArray, List.set_cons_zero, List.set_cons_succ]
    refine wpAnyH_take (i := 3) (v := ?_) rfl (by kernel_rfl) (by kernel_rfl) (by kernel_rfl) (fun _ _ _ h => h) (Or.inl ⟨by rfl, ?_⟩) (by assumption) ?_
    rotate_left
    (focus (intro w0 hSw; (try dsimp only at hSw); go_simp <;> with_reducible rfl))
    simp only [List.getElem_toArray, List.getElem_cons_succ, List.getElem_cons_zero, Act.put, List.setIfInBounds_toArray, List.set_cons_zero, List.set_cons_succ]
    refine wpAnyH_take (i := 4) (v := ?_) rfl (by kernel_rfl) (by kernel_rfl) (by kernel_rfl) (fun _ _ _ h => h) (Or.inl ⟨by rfl, ?_⟩) (by assumption) ?_
    rotate_left
    (focus (intro w0 hSw; (try dsimp only at hSw); go_simp <;> with_reducible rfl))
    simp only [List.getElem_toArray, List.getElem_cons_succ, List.getElem_cons_zero, Act.put, List.setIfInBounds_toArray, List.set_cons_zero, List.set_cons_succ]
    refine (show wpAnyH _ _ _ _ _ (4 + 1) _ _ _ from wpAnyH_flow (fun j v w => match j with | 2 => ES l0 F0 v w | 5 => ES l1 F1 v w | 6 => B2v l0 F0 l1 F1 v w | 7 => Bn 2 35 wd.heap.size v w | _ => True) [(2, 27), (5, 30), (6, 31), (7, 10)] [2, 5, 6, 7] [8] _ _ _ 1 ?k1 ?k4 ?k2 ?k3 ?k5 ?k6 ?k8)
    case k1 => kernel_rfl
    case k4 => kernel_rfl
    case k2 => exact fun w w' h hb => ⟨kCb hb h.1, kCb hb h.2⟩
    case k3 =>
      intro j v w w' h hb
      split at h <;> first | exact ES.below h hb | exact B2v.below h hb | exact Bn.below h hb | exact h | trivial
    case k8 => exact hHeld
    case k5 =>
      intro i hi
      simp only [List.mem_cons, List.not_mem_nil, or_false] at hi
      rcases hi with rfl | rfl | rfl | rfl
      · refine ⟨_, rfl, fun u w5 hS hb5 hd K hK => ?_⟩
        simp only [fill, List.foldl_cons, List.foldl_nil, Act.put, List.setIfInBounds_toArray, List.set_cons_zero, List.set_cons_succ] at hK ⊢
        go_simp
        go_at_call 39
        refine (K0.out _ (HB.out.trans (hb5.mono HB.out.size))).mono ?_
        rintro e w6 ⟨v6, rfl, hb6, hq⟩
        (try go_wp2_with fail)
        exact hK.out _ _ hb6 hq
      · refine ⟨_, rfl, fun u w5 hS hb5 hd K hK => ?_⟩
        simp only [fill, List.foldl_cons, List.foldl_nil, Act.put, List.setIfInBounds_toArray, List.set_cons_zero, List.set_cons_succ] at hK ⊢
        go_simp
        go_at_call 39
        refine (K1.out _ (HB.out.trans (hb5.mono HB.out.size))).mono ?_
        rintro e w6 ⟨v6, rfl, hb6, hq⟩
        (try go_wp2_with fail)
        exact hK.out _ _ hb6 hq
      · refine ⟨_, rfl, fun u w5 hS hb5 hd K hK => ?_⟩
        have hj0 : ES l0 F0 (u 2) w5 := hd 2 (by kernel_rfl) (by kernel_rfl)
        obtain ⟨f0, g0, q0, x0⟩ := hj0
        have hj1 : ES l1 F1 (u 5) w5 := hd 5 (by kernel_rfl) (by kernel_rfl)
        obtain ⟨f1, g1, q1, x1⟩ := hj1
        simp only [fill, List.foldl_cons, List.foldl_nil, Act.put, List.setIfInBounds_toArray, List.set_cons_zero, List.set_cons_succ] at hK ⊢
        simp only [q0, q1] at hK ⊢
        go_simp
        exact hK.out _ _ (Below.refl _ _) ⟨f0, g0, f1, g1, rfl, x0, x1⟩
      · refine ⟨_, rfl, fun u w5 hS hb5 hd K hK => ?_⟩
        simp only [fill, List.foldl_cons, List.foldl_nil, Act.put, List.setIfInBounds_toArray, List.set_cons_zero, List.set_cons_succ] at hK ⊢
        go_simp
        exact hK.out _ _ (below_alloc (Below.refl _ _) _) ⟨w5.heap.size, rfl, hb5.size, bk_new w5 (List.replicate 2 (.slice none 0 0)) _⟩
    case k6 =>
      intro u w5 hS5 hb5 hg
      have h6 : B2v l0 F0 l1 F1 (u 6) w5 := hg 6 (by simp)
      have h7 : Bn 2 35 wd.heap.size (u 7) w5 := hg 7 (by simp)
      have h6b := h6
      obtain ⟨f0, g0, f1, g1, e6, _, _⟩ := h6
      rw [e6] at h6b
      obtain ⟨gb, e7, hge, hbk⟩ := h7
      replace hbk : Bk w5 gb [.slice none 0 0, .slice none 0 0] 35 := hbk
      replace HB := hid (HB.out.trans (hb5.mono HB.out.size)); replace H1 := hid (H1.out.below hb5); replace H2 := hid (H2.out.below hb5); replace H3 := hid (H3.out.below hb5); replace H4 := hid (H4.out.below hb5)
      have hz := H4.out.lt
      have hz0 := HSZ.out
      clear hg
      simp only [fill, List.foldl_cons, List.foldl_nil, Act.put, List.setIfInBounds_toArray, List.set_cons_zero, List.set_cons_succ]
      simp only [e6, e7]
      clear e6 e7
      refine wpAnyH_ready (rs := [8]) (by kernel_rfl) (by simp) ?_
      refine AllReadyH.cons (o := _) rfl (fun K hK => ?_) ?_
      rotate_left
      exact AllReadyH.nil
      have ze0 := hbk.cell (j := 0) rfl
      have ze1 := hbk.cell (j := 1) rfl
      have ff := hbk.frozen
      go_simp
      obtain ⟨hx1, hx2, hx3⟩ := st_new [.slice f0 l0 g0, .slice f1 l1 g1] hbk (nou_list (fun u hu q => by simp at hu; subst hu; simp)) HB.out (by omega)
      have hni := bk_noi hbk (fun v hv => by simp at hv; subst hv; exact ⟨_, _, _, rfl⟩)
      have B9 := stl_bk [.slice f0 l0 g0, .slice f1 l1 g1] _ 0 _ rfl hbk
      obtain ⟨w9, hw9⟩ : ∃ x, stl gb 0 [.slice f0 l0 g0, .slice f1 l1 g1] w5 = x := ⟨_, rfl⟩
      rw [show ((w5.setCell ⟨gb, 0, none⟩ (.slice f0 l0 g0)).setCell ⟨gb, 1, none⟩ (.slice f1 l1 g1)) = w9 from hw9]
      rw [hw9] at hx1 hx2 hx3 B9
      replace B9 : Bk w9 gb [.slice f0 l0 g0, .slice f1 l1 g1] _ := B9
      replace HB := hid hx1; replace H1 := hid (H1.out.of (hx3 _ (by omega))); replace H2 := hid (H2.out.of (hx3 _ (by omega))); replace H3 := hid (H3.out.of (hx3 _ (by omega))); replace H4 := hid (H4.out.of (hx3 _ (by omega)))
      replace h6b := h6b.st hx3 hni
      have r0 := H1.out.cell (j := 0) rfl
      have r1 := H1.out.cell (j := 1) rfl
      clear hw9 ff ze0 ze1
      refine hK.out _ _ ⟨r0, r1⟩ (fun hH9 => ?_)
      clear hK K
      try simp only [Act.put]
      refine wpAnyH_done (by kernel_rfl) ?_ _
      have H6 := hid h6b; have HG := hid B9
      clear hx1 hx2 hx3 hni h6b B9 hH9 hS5 hHeld r0 r1 hbk hb5 K0 K1
      go_upto_region 7 with fail
      have hbd := Below.drew (Below.refl w9.heap.size w9)
      have hsd2 := hbd.size
      replace HB := hid (HB.out.trans (hbd.mono HB.out.size)); replace H1 := hid (H1.out.below hbd); replace H2 := hid (H2.out.below hbd); replace H3 := hid (H3.out.below hbd); replace H4 := hid (H4.out.below hbd)
      replace H6 := hid (H6.out.below hbd); replace HG := hid (HG.out.below hbd)
      clear hbd
      have r0 := HG.out.cell (j := 0) rfl
      have r1 := HG.out.cell (j := 1) rfl
      have t0 := H2.out.cell (j := 0) rfl
      have t1 := H2.out.cell (j := 1) rfl
      have t2 := H2.out.cell (j := 2) rfl
      refine wp_region_held_drew (S := (fun w' => w'.cell? ⟨gb, 0, none⟩ = some (.slice f0 l0 g0) ∧ w'.cell? ⟨gb, 1, none⟩ = some (.slice f1 l1 g1) ∧ w'.cell? ⟨w.heap.size + 1, 0, none⟩ = some (.slice a0 k0 c0) ∧ w'.cell? ⟨w.heap.size + 1, 1, none⟩ = some (.slice a1 k1 c1) ∧ w'.cell? ⟨w.heap.size + 1, 2, none⟩ = some (.slice a2 k2 c2))) (by kernel_rfl) ?_ (fun hHeld => ?_)
      · exact ⟨r0, r1, t0, t1, t2⟩
      generalize w9.drew = wc at *
      clear r0 r1 t0 t1 t2
      refine wpAnyH_take (i := 0) (v := ?_) rfl (by kernel_rfl) (by kernel_rfl) (by kernel_rfl) (fun _ _ _ h => h) (Or.inl ⟨by rfl, ?_⟩) (by assumption) ?_
      rotate_left
      (focus (intro w0 hSw; (try dsimp only at hSw); go_simp <;> with_reducible rfl))
      simp only [List.getElem_toArray, List.getElem_cons_zero, Act.put, List.setIfInBounds_toArray, List.set_cons_zero, List.set_cons_succ]
      refine wpAnyH_take (i := 2) (v := ?_) rfl (by kernel_rfl) (by kernel_rfl) (by kernel_rfl) (fun _ _ _ h => h) (Or.inl ⟨by rfl, ?_⟩) (by assumption) ?_
      rotate_left
      (focus (intro w0 hSw; (try dsimp only at hSw); go_simp <;> with_reducible rfl))
      simp only [List.getElem_toArray, List.getElem_cons_succ, List.getElem_cons_zero, Act.put, List.setIfInBounds_toArray, List.set_cons_zero, List.set_cons_succ]
      refine wpAnyH_take (i := 3) (v := ?_) rfl (by kernel_rfl) (by kernel_rfl) (by kernel_rfl) (fun _ _ _ h => h) (Or.inl ⟨by rfl, ?_⟩) (by assumption) ?_
      rotate_left
      (focus (intro w0 hSw; (try dsimp only at hSw); go_simp <;> with_reducible rfl))
      simp only [List.getElem_toArray, List.getElem_cons_succ, List.getElem_cons_zero, Act.put, List.setIfInBounds_toArray, List.set_cons_zero, List.set_cons_succ]
      refine (show wpAnyH _ _ _ _ _ (5 + 1) _ _ _ from wpAnyH_flow (fun j v w => match j with | 1 => Tv v w | 4 => P3v k0 X0 k1 X1 k2 X2 v w | 5 => C5v l0 F0 l1 F1 k0 X0 k1 X1 k2 X2 v w | 6 => C5v l0 F0 l1 F1 k0 X0 k1 X1 k2 X2 v w | 7 => Bn 5 89 wc.heap.size v w | _ => True) [(1, 33), (4, 36), (5, 37), (6, 38), (7, 11)] [1, 4, 5, 6, 7] [8] _ _ _ 1 ?k1 ?k4 ?k2 ?k3 ?k5 ?k6 ?k8)
      case k1 => kernel_rfl
      case k4 => kernel_rfl
      case k2 => exact fun w w' h hb => ⟨kCb hb h.1, kCb hb h.2.1, kCb hb h.2.2.1, kCb hb h.2.2.2.1, kCb hb h.2.2.2.2⟩
      case k3 =>
        intro j v w w' h hb
        split at h <;> first | exact Tv.below h hb | exact P3v.below h hb | exact C5v.below h hb | exact Bn.below h hb | exact h | trivial
      case k8 => exact hHeld
      case k5 =>
        intro i hi
        simp only [List.mem_cons, List.not_mem_nil, or_false] at hi
        rcases hi with rfl | rfl | rfl | rfl | rfl
        · refine ⟨_, rfl, fun u w5 hS hb5 hd K hK => ?_⟩
          simp only [fill, List.foldl_cons, List.foldl_nil, Act.put, List.setIfInBounds_toArray, List.set_cons_zero, List.set_cons_succ] at hK ⊢
          go_simp
          exact hK.out _ _ (Below.refl _ _) trivial
        · refine ⟨_, rfl, fun u w5 hS hb5 hd K hK => ?_⟩
          simp only [fill, List.foldl_cons, List.foldl_nil, Act.put, List.setIfInBounds_toArray, List.set_cons_zero, List.set_cons_succ] at hK ⊢
          go_simp
          go_at_call 37
          refine (CP.out _ (HB.out.trans (hb5.mono HB.out.size))).mono ?_
          rintro e w6 ⟨v6, rfl, hb6, hq⟩
          (try go_wp2_with fail)
          exact hK.out _ _ hb6 hq
        · refine ⟨_, rfl, fun u w5 hS hb5 hd K hK => ?_⟩
          have hj0 : P3v k0 X0 k1 X1 k2 X2 (u 4) w5 := hd 4 (by kernel_rfl) (by kernel_rfl)
          have hjb := hj0
          obtain ⟨p0, q0, p1, q1, p2, q2, e4, _, _, _⟩ := hj0
          rw [e4] at hjb
          simp only [fill, List.foldl_cons, List.foldl_nil, Act.put, List.setIfInBounds_toArray, List.set_cons_zero, List.set_cons_succ] at hK ⊢
          simp only [e4] at hK ⊢
          go_simp
          exact hK.out _ _ (Below.refl _ _) ⟨_, _, _, _, _, _, _, _, _, _, rfl, H6.out.below hb5, hjb⟩
        · refine ⟨_, rfl, fun u w5 hS hb5 hd K hK => ?_⟩
          have hj0 : C5v l0 F0 l1 F1 k0 X0 k1 X1 k2 X2 (u 5) w5 := hd 5 (by kernel_rfl) (by kernel_rfl)
          have hjb := hj0
          obtain ⟨x0, y0, x1, y1, p0, q0, p1, q1, p2, q2, e5, _, _⟩ := hj0
          rw [e5] at hjb
          simp only [fill, List.foldl_cons, List.foldl_nil, Act.put, List.setIfInBounds_toArray, List.set_cons_zero, List.set_cons_succ] at hK ⊢
          simp only [e5] at hK ⊢
          go_simp
          go_at_call 40
          refine (backC_c (HS.out.below (HB.out.trans (hb5.mono HB.out.size))) _ _ _ _ _ _ _ _ _ _ _ _ _ _ _ _).mono ?_
          rintro e w6 ⟨rfl, hb6⟩
          (try go_wp2_with fail)
          exact hK.out _ _ hb6 (hjb.below hb6)
        · refine ⟨_, rfl, fun u w5 hS hb5 hd K hK => ?_⟩
          simp only [fill, List.foldl_cons, List.foldl_nil, Act.put, List.setIfInBounds_toArray, List.set_cons_zero, List.set_cons_succ] at hK ⊢
          go_simp
          exact hK.out _ _ (below_alloc (Below.refl _ _) _) ⟨w5.heap.size, rfl, hb5.size, bk_new w5 (List.replicate 5 (.slice none 0 0)) _⟩
      case k6 =>
        intro u w5 hS5 hb5 hg
        have h6 : C5v l0 F0 l1 F1 k0 X0 k1 X1 k2 X2 (u 6) w5 := hg 6 (by simp)
        have h7 : Bn 5 89 wc.heap.size (u 7) w5 := hg 7 (by simp)
        have h6b := h6
        obtain ⟨x0, y0, x1, y1, p0, q0, p1, q1, p2, q2, e6, _, _⟩ := h6
        rw [e6] at h6b
        obtain ⟨gc, e7, hgc, hbk⟩ := h7
        replace hbk : Bk w5 gc [.slice none 0 0, .slice none 0 0, .slice none 0 0, .slice none 0 0, .slice none 0 0] 89 := hbk
        replace HB := hid (HB.out.trans (hb5.mono HB.out.size)); replace H1 := hid (H1.out.below hb5); replace H2 := hid (H2.out.below hb5); replace H3 := hid (H3.out.below hb5); replace H4 := hid (H4.out.below hb5)
        have hgl := HG.out.lt
        replace HG := hid (HG.out.below hb5)
        have hz2 := H4.out.lt
        clear hg
        simp only [fill, List.foldl_cons, List.foldl_nil, Act.put, List.setIfInBounds_toArray, List.set_cons_zero, List.set_cons_succ]
        simp only [e6, e7]
        clear e6 e7
        refine wpAnyH_ready (rs := [8]) (by kernel_rfl) (by simp) ?_
        refine AllReadyH.cons (o := _) rfl (fun K hK => ?_) ?_
        rotate_left
        exact AllReadyH.nil
        have ze0 := hbk.cell (j := 0) rfl
        have ze1 := hbk.cell (j := 1) rfl
        have ze2 := hbk.cell (j := 2) rfl
        have ze3 := hbk.cell (j := 3) rfl
        have ze4 := hbk.cell (j := 4) rfl
        have ff := hbk.frozen
        go_simp
        obtain ⟨hx1, hx2, hx3⟩ := st_new [.slice x0 l0 y0, .slice x1 l1 y1, .slice p0 k0 q0, .slice p1 k1 q1, .slice p2 k2 q2] hbk (nou_list (fun u hu q => by simp at hu; subst hu; simp)) HB.out (by omega)
        have hni := bk_noi hbk (fun v hv => by simp at hv; subst hv; exact ⟨_, _, _, rfl⟩)
        have hnb := bk_nob hbk (fun v hv => by simp at hv; subst hv; exact ⟨_, _, _, rfl⟩)
        have B9 := stl_bk [.slice x0 l0 y0, .slice x1 l1 y1, .slice p0 k0 q0, .slice p1 k1 q1, .slice p2 k2 q2] _ 0 _ rfl hbk
        obtain ⟨w19, hw19⟩ : ∃ x, stl gc 0 [.slice x0 l0 y0, .slice x1 l1 y1, .slice p0 k0 q0, .slice p1 k1 q1, .slice p2 k2 q2] w5 = x := ⟨_, rfl⟩
        rw [show (((((w5.setCell ⟨gc, 0, none⟩ (.slice x0 l0 y0)).setCell ⟨gc, 1, none⟩ (.slice x1 l1 y1)).setCell ⟨gc, 2, none⟩ (.slice p0 k0 q0)).setCell ⟨gc, 3, none⟩ (.slice p1 k1 q1)).setCell ⟨gc, 4, none⟩ (.slice p2 k2 q2)) = w19 from hw19]
        rw [hw19] at hx1 hx2 hx3 B9
        replace B9 : Bk w19 gc [.slice x0 l0 y0, .slice x1 l1 y1, .slice p0 k0 q0, .slice p1 k1 q1, .slice p2 k2 q2] _ := B9
        replace HB := hid hx1; replace H2 := hid (H2.out.of (hx3 _ (by omega))); replace H3 := hid (H3.out.of (hx3 _ (by omega))); replace H4 := hid (H4.out.of (hx3 _ (by omega))); replace HG := hid (HG.out.of (hx3 _ (by omega)))
        replace h6b := h6b.st hx2 hx3 hnb hni
        have r0 := HG.out.cell (j := 0) rfl
        have r1 := HG.out.cell (j := 1) rfl
        have t0 := H2.out.cell (j := 0) rfl
        have t1 := H2.out.cell (j := 1) rfl
        have t2 := H2.out.cell (j := 2) rfl
        clear hw19 ff ze0 ze1 ze2 ze3 ze4
        refine hK.out _ _ ⟨r0, r1, t0, t1, t2⟩ (fun hH9 => ?_)
        clear hK K
        try simp only [Act.put]
        refine wpAnyH_done (by kernel_rfl) ?_ _
        replace H6 := hid h6b; replace HG := hid B9
        clear hx1 hx2 hx3 hni hnb h6b B9 hH9 hS5 hHeld r0 r1 t0 t1 t2 hbk hb5 CP H1 H2
        go_upto_region 8 with fail
        have hbd := Below.drew (Below.refl w19.heap.size w19)
        replace HB := hid (HB.out.trans (hbd.mono HB.out.size)); replace H3 := hid (H3.out.below hbd); replace H4 := hid (H4.out.below hbd); replace H6 := hid (H6.out.below hbd); replace HG := hid (HG.out.below hbd)
        clear hbd
        have r0 := HG.out.cell (j := 0) rfl
        have r1 := HG.out.cell (j := 1) rfl
        have r2 := HG.out.cell (j := 2) rfl
        have r3 := HG.out.cell (j := 3) rfl
        have r4 := HG.out.cell (j := 4) rfl
        refine wp_region_held_drew (S := (fun w' => w'.cell? ⟨gc, 0, none⟩ = some (.slice x0 l0 y0) ∧ w'.cell? ⟨gc, 1, none⟩ = some (.slice x1 l1 y1) ∧ w'.cell? ⟨gc, 2, none⟩ = some (.slice p0 k0 q0) ∧ w'.cell? ⟨gc, 3, none⟩ = some (.slice p1 k1 q1) ∧ w'.cell? ⟨gc, 4, none⟩ = some (.slice p2 k2 q2))) (by kernel_rfl) ?_ (fun hHeld => ?_)
        · exact ⟨r0, r1, r2, r3, r4⟩
        generalize w19.drew = wf at *
        clear r0 r1 r2 r3 r4
        refine wpAnyH_take (i := 0) (v := ?_) rfl (by kernel_rfl) (by kernel_rfl) (by kernel_rfl) (fun _ _ _ h => h) (Or.inl ⟨by rfl, ?_⟩) (by assumption) ?_
        rotate_left
        (focus (intro w0 hSw; (try dsimp only at hSw); go_simp <;> with_reducible rfl))
        simp only [List.getElem_toArray, List.getElem_cons_zero, Act.put, List.setIfInBounds_toArray, List.set_cons_zero, List.set_cons_succ]
        refine wpAnyH_take (i := 1) (v := ?_) rfl (by kernel_rfl) (by kernel_rfl) (by kernel_rfl) (fun _ _ _ h => h) (Or.inl ⟨by rfl, ?_⟩) (by assumption) ?_
        rotate_left
        (focus (intro w0 hSw; (try dsimp only at hSw); go_simp <;> with_reducible rfl))
        simp only [List.getElem_toArray, List.getElem_cons_succ, List.getElem_cons_zero, Act.put, List.setIfInBounds_toArray, List.set_cons_zero, List.set_cons_succ]
        refine wpAnyH_take (i := 2) (v := ?_) rfl (by kernel_rfl) (by kernel_rfl) (by kernel_rfl) (fun _ _ _ h => h) (Or.inl ⟨by rfl, ?_⟩) (by assumption) ?_
        rotate_left
        (focus (intro w0 hSw; (try dsimp only at hSw); go_simp <;> with_reducible rfl))
        simp only [List.getElem_toArray, List.getElem_cons_succ, List.getElem_cons_zero, Act.put, List.setIfInBounds_toArray, List.set_cons_zero, List.set_cons_succ]
        refine wpAnyH_take (i := 3) (v := ?_) rfl (by kernel_rfl) (by kernel_rfl) (by kernel_rfl) (fun _ _ _ h => h) (Or.inl ⟨by rfl, ?_⟩) (by assumption) ?_
        rotate_left
        (focus (intro w0 hSw; (try dsimp only at hSw); go_simp <;> with_reducible rfl))
        simp only [List.getElem_toArray, List.getElem_cons_succ, List.getElem_cons_zero, Act.put, List.setIfInBounds_toArray, List.set_cons_zero, List.set_cons_succ]
        refine wpAnyH_ready (rs := [4]) (by kernel_rfl) (by simp) ?_
        refine AllReadyH.cons (o := _) rfl (fun K hK => ?_) ?_
        rotate_left
        exact AllReadyH.nil
        have ze0 := H3.out.cell (j := 0) rfl
        have ze1 := H3.out.cell (j := 1) rfl
        have ff := H3.out.frozen
        go_simp
        obtain ⟨hx1, hx2, hx3⟩ := st_new [.slice x0 l0 y0, .slice x1 l1 y1] H3.out (nou_list (fun u hu q => by simp at hu; subst hu; simp)) HB.out (by omega)
        have hni := bk_noi H3.out (fun v hv => by simp at hv; subst hv; exact ⟨_, _, _, rfl⟩)
        have hnb := bk_nob H3.out (fun v hv => by simp at hv; subst hv; exact ⟨_, _, _, rfl⟩)
        have B9 := stl_bk [.slice x0 l0 y0, .slice x1 l1 y1] _ 0 _ rfl H3.out
        obtain ⟨wg, hwwg⟩ : ∃ x, stl (w.heap.size + 1 + 1) 0 [.slice x0 l0 y0, .slice x1 l1 y1] wf = x := ⟨_, rfl⟩
        rw [show ((wf.setCell ⟨w.heap.size + 1 + 1, 0, none⟩ (.slice x0 l0 y0)).setCell ⟨w.heap.size + 1 + 1, 1, none⟩ (.slice x1 l1 y1)) = wg from hwwg]
        rw [hwwg] at hx1 hx2 hx3 B9
        replace B9 : Bk wg (w.heap.size + 1 + 1) [.slice x0 l0 y0, .slice x1 l1 y1] _ := B9
        replace HB := hid hx1; replace H4 := hid (H4.out.of (hx3 _ (by omega))); replace HG := hid (HG.out.of (hx3 _ (by omega))); replace H6 := hid (H6.out.st hx2 hx3 hnb hni); have HN3 := hid B9
        have r0 := HG.out.cell (j := 0) rfl
        have r1 := HG.out.cell (j := 1) rfl
        have r2 := HG.out.cell (j := 2) rfl
        have r3 := HG.out.cell (j := 3) rfl
        have r4 := HG.out.cell (j := 4) rfl
        clear hwwg ff ze0 ze1 hx1 hx2 hx3 hni hnb B9 H3
        refine hK.out _ _ ⟨r0, r1, r2, r3, r4⟩ (fun hH9 => ?_)
        clear hK K
        try simp only [Act.put]
        clear r0 r1 r2 r3 r4
        refine wpAnyH_ready (rs := [5]) (by kernel_rfl) (by simp) ?_
        refine AllReadyH.cons (o := _) rfl (fun K hK => ?_) ?_
        rotate_left
        exact AllReadyH.nil
        have ze0 := H4.out.cell (j := 0) rfl
        have ze1 := H4.out.cell (j := 1) rfl
        have ze2 := H4.out.cell (j := 2) rfl
        have ff := H4.out.frozen
        go_simp
        obtain ⟨hx1, hx2, hx3⟩ := st_new [.slice p0 k0 q0, .slice p1 k1 q1, .slice p2 k2 q2] H4.out (nou_list (fun u hu q => by simp at hu; subst hu; simp)) HB.out (by omega)
        have hni := bk_noi H4.out (fun v hv => by simp at hv; subst hv; exact ⟨_, _, _, rfl⟩)
        have hnb := bk_nob H4.out (fun v hv => by simp at hv; subst hv; exact ⟨_, _, _, rfl⟩)
        have B9 := stl_bk [.slice p0 k0 q0, .slice p1 k1 q1, .slice p2 k2 q2] _ 0 _ rfl H4.out
        obtain ⟨wh, hwwh⟩ : ∃ x, stl (w.heap.size + 1 + 1 + 1) 0 [.slice p0 k0 q0, .slice p1 k1 q1, .slice p2 k2 q2] wg = x := ⟨_, rfl⟩
        rw [show (((wg.setCell ⟨w.heap.size + 1 + 1 + 1, 0, none⟩ (.slice p0 k0 q0)).setCell ⟨w.heap.size + 1 + 1 + 1, 1, none⟩ (.slice p1 k1 q1)).setCell ⟨w.heap.size + 1 + 1 + 1, 2, none⟩ (.slice p2 k2 q2)) = wh from hwwh]
        rw [hwwh] at hx1 hx2 hx3 B9
        replace B9 : Bk wh (w.heap.size + 1 + 1 + 1) [.slice p0 k0 q0, .slice p1 k1 q1, .slice p2 k2 q2] _ := B9
        replace HB := hid hx1; replace HN3 := hid (HN3.out.of (hx3 _ (by omega))); replace HG := hid (HG.out.of (hx3 _ (by omega))); replace H6 := hid (H6.out.st hx2 hx3 hnb hni); have HN4 := hid B9
        have r0 := HG.out.cell (j := 0) rfl
        have r1 := HG.out.cell (j := 1) rfl
        have r2 := HG.out.cell (j := 2) rfl
        have r3 := HG.out.cell (j := 3) rfl
        have r4 := HG.out.cell (j := 4) rfl
        clear hwwh ff ze0 ze1 ze2 hx1 hx2 hx3 hni hnb B9 H4
        refine hK.out _ _ ⟨r0, r1, r2, r3, r4⟩ (fun hH10 => ?_)
        clear hK K
        try simp only [Act.put]
        clear r0 r1 r2 r3 r4
        refine wpAnyH_take (i := 6) (v := ?_) rfl (by kernel_rfl) (by kernel_rfl) (by kernel_rfl) (fun _ _ _ h => h) (Or.inl ⟨by rfl, ?_⟩) (by assumption) ?_
        rotate_left
        (focus (intro w0 hSw; (try dsimp only at hSw); go_simp <;> with_reducible rfl))
        simp only [List.getElem_toArray, List.getElem_cons_succ, List.getElem_cons_zero, Act.put, List.setIfInBounds_toArray, List.set_cons_zero, List.set_cons_succ]
        refine wpAnyH_done (by kernel_rfl) ?_ _
        have HX : Hid (BasAns w wh (.returned (.tuple #[.agg #[.slice x0 l0 y0, .slice x1 l1 y1], .agg #[.slice p0 k0 q0, .slice p1 k1 q1, .slice p2 k2 q2], .int .i64 0])) n k l0 F0 l1 F1 k0 X0 k1 X1 k2 X2) := ⟨HB.out, .inr ⟨HE.out, _, _, _, _, _, _, _, _, _, _, rfl, H6.out⟩⟩
        have ze0 := HN3.out.cell (j := 0) rfl
        have ze1 := HN3.out.cell (j := 1) rfl
        have m0 := HN4.out.cell (j := 0) rfl
        have m1 := HN4.out.cell (j := 1) rfl
        have m2 := HN4.out.cell (j := 2) rfl
        clear HE HB H6 HG HN3 HN4 HS HSZ hH9 hH10 hHeld
        go_wp2
        exact bodyPost_ret (v := .tuple #[.agg #[.slice x0 l0 y0, .slice x1 l1 y1], .agg #[.slice p0 k0 q0, .slice p1 k1 q1, .slice p2 k2 q2], .int .i64 0]) (by simp [results, Try.results22, go_sem, ze0, ze1, m0, m1, m2]) rfl HX.out
  · have h1 : (er != 0) = true := by simpa using h0
    obtain ⟨hx1, hx2, hx3⟩ := st_new [.slice none 0 0, .slice none 0 0] H3.out (nou_list (fun u hu q => by simp at hu; subst hu; simp)) HB.out (by omega)
    have B5 := H4.out.of (hx3 _ (by omega))
    have hx4 := (st_new [.slice none 0 0, .slice none 0 0, .slice none 0 0] B5 (nou_list (fun u hu q => by simp at hu; subst hu; simp)) hx1 (by omega)).1
    have ze0 := H3.out.cell (j := 0) rfl
    have ze1 := H3.out.cell (j := 1) rfl
    have m0 := H4.out.cell (j := 0) rfl
    have m1 := H4.out.cell (j := 1) rfl
    have m2 := H4.out.cell (j := 2) rfl
    have f3 := H3.out.frozen
    have f4 := H4.out.frozen
    have HX : Hid (BasAns w (stl (w.heap.size + 1 + 1 + 1) 0 [.slice none 0 0, .slice none 0 0, .slice none 0 0] (stl (w.heap.size + 1 + 1) 0 [.slice none 0 0, .slice none 0 0] w2)) (.returned (.tuple #[.agg #[.slice none 0 0, .slice none 0 0], .agg #[.slice none 0 0, .slice none 0 0, .slice none 0 0], .int .i64 er])) n k l0 F0 l1 F1 k0 X0 k1 X1 k2 X2) := ⟨hx4, .inl ⟨by rw [HE.out]; exact h0, by rw [HE.out]⟩⟩
    clear hx1 hx2 hx3 hx4 B5 HE HB H1 H2 H3 H4 HS K0 K1 CP HSZ
    go_wp2
    exact bodyPost_ret (v := .tuple #[.agg #[.slice none 0 0, .slice none 0 0], .agg #[.slice none 0 0, .slice none 0 0, .slice none 0 0], .int .i64 er]) (by simp [results, Try.results22, go_sem, ze0, ze1, m0, m1, m2]) rfl HX.out
end Go.Proofs.Ytllpllebmknmpaa
namespace Go.Proofs.Ytllpllebmknmpaa
open Go.RowKit

/-- A list of two lists of numbers. -/
def pick2 {T : Type} (a b : T) (i : Nat) : T := if i = 0 then a else b
theorem ll_two {w : World} {t : TypeId} {a0 a1 : Option Addr} {k0 c0 k1 c1 : Nat} {X0 X1 : Nat → Nm} (h0 : Rl w a0 k0 X0) (h1 : Rl w a1 k1 X1) (l0 : k0 ≤ 10000 ∧ ∀ j, j < k0 → (X0 j).n ≤ 1000 ∧ (X0 j).m ≤ 1000) (l1 : k1 ≤ 10000 ∧ ∀ j, j < k1 → (X1 j).n ≤ 1000 ∧ (X1 j).m ≤ 1000) :
    LL (w.alloc (.cells #[.slice a0 k0 c0, .slice a1 k1 c1] t)) (some ⟨w.heap.size, 0, none⟩) 2 (pick2 a0 a1) (pick2 k0 k1) (pick2 c0 c1) (pick2 X0 X1) := fun i hi => by
  have hb := below_alloc (Below.refl w.heap.size w) (.cells #[.slice a0 k0 c0, .slice a1 k1 c1] t)
  rcases (show i = 0 ∨ i = 1 by omega) with rfl | rfl
  · exact ⟨_, 0, rfl, by simp [go_sem, pick2], h0.below hb, l0⟩
  · exact ⟨_, 0, rfl, by simp [go_sem, pick2], h1.below hb, l1⟩
/-- A value that is a list of two lists. -/
def L2 (a0 : Option Addr) (k0 c0 : Nat) (X0 : Nat → Nm) (a1 : Option Addr) (k1 c1 : Nat) (X1 : Nat → Nm) (v : Value) (w : World) : Prop := ∃ b, v = .slice (some ⟨b, 0, none⟩) 2 2 ∧ LL w (some ⟨b, 0, none⟩) 2 (pick2 a0 a1) (pick2 k0 k1) (pick2 c0 c1) (pick2 X0 X1)
theorem L2.below {a0 k0 c0 X0 a1 k1 c1 X1 v w w'} (h : L2 a0 k0 c0 X0 a1 k1 c1 X1 v w) (hb : Below w.heap.size w w') : L2 a0 k0 c0 X0 a1 k1 c1 X1 v w' := by
  obtain ⟨b, h1, h2⟩ := h
  exact ⟨b, h1, h2.below hb⟩
def Iv (z : Int) (v : Value) (_ : World) : Prop := v = .int .i64 z
theorem Iv.below {z v w w'} (h : Iv z v w) (_ : Below w.heap.size w w') : Iv z v w' := h
/-- A value that is a list of two errors. -/
def E2 (a b : Int) (v : Value) (w : World) : Prop := ∃ g, v = .slice (some ⟨g, 0, none⟩) 2 2 ∧ El w (some ⟨g, 0, none⟩) 2 (two a b)
theorem E2.below {a b v w w'} (h : E2 a b v w) (hb : Below w.heap.size w w') : E2 a b v w' := by
  obtain ⟨g, h1, h2⟩ := h
  exact ⟨g, h1, h2.below hb⟩
theorem nlg_lim {k : Nat} {X : Nat → Nm} (h : (decide (k ≤ 300) && nlg 10 X k 0) = true) : k ≤ 300 ∧ ∀ j, j < k → (X j).n ≤ 10 ∧ (X j).m ≤ 10 := by
  simp only [Bool.and_eq_true, decide_eq_true_eq] at h
  exact ⟨h.1, fun j hj => nlg_all h.2 j (by omega) (by omega)⟩
theorem nlgB {k : Nat} {X : Nat → Nm} (h : (decide (k ≤ 300) && nlg 10 X k 0) = true) : nlg 10 X k 0 = true := by
  simp only [Bool.and_eq_true] at h
  exact h.2
end Go.Proofs.Ytllpllebmknmpaa
