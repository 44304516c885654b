/-
  A drawn region as a flow: operations that make values or new memory (calls, builds, lists that are built) in whatever order, each shown once; behind them those that must come last. No Go text is named here. Models by their values; the walks of law07's num and small (written by makers/f21.py). What models are by their values: well formed, crossed, equal, the places of names.
-/
import Derived.Test.YtbmfcogfgdggkaaGreatZ0
import Derived.Deep.RegionHeld3
import Derived.Test.YtbmfcogfgdggkaaGreatZ8
import Derived.Test.YtbmfcogfgdggkaaGreatZ5
import Derived.Test.YtbmfcogfgdggkaaGreatZ6
import Derived.Test.YtbmfcogfgdggkaaGreatZ4
import Derived.Test.YtbmfcogfgdggkaaGreatZ7
namespace Go.Proofs.YtbmfcogfgdggkaaGreat
open Go.RowKit

/-- Where operation j puts what it yields. -/
def dstOf (ops : Array Oper) (j : Nat) : Option Tmp := (ops[j]?).bind (·.dst)
/-- The operations that operation i waits for. -/
def depsOf (md : Region.Mode) (ops : Array Oper) (i : Nat) : List Nat := match ops[i]? with
  | none => []
  | some o => (o.after.toList.filter (Region.binds md)).map (·.on)
/-- All that those of l wait for, n steps back. -/
def ancs (md : Region.Mode) (ops : Array Oper) : Nat → List Nat → List Nat
  | 0, _ => []
  | n + 1, l => (l.flatMap (depsOf md ops)).eraseDups ++ ancs md ops n (l.flatMap (depsOf md ops)).eraseDups
/-- The state with what those of D (an operation, its slot) yield. -/
def fill (a : Act) (D : List (Nat × Tmp)) (u : Nat → Value) : Act := D.foldl (fun a p => a.put (some p.2) (u p.1)) a
/-- What lies in those slots. -/
def lies (a : Act) (D : List (Nat × Tmp)) (j : Nat) : Value := match D.lookup j with
  | some d => a.tmps.getD d undef
  | none => undef
def updV (u : Nat → Value) (i : Nat) (v : Value) : Nat → Value := fun j => if j = i then v else u j
theorem updV_at (u : Nat → Value) (i : Nat) (v : Value) : updV u i v i = v := by simp [updV]
theorem updV_ne {u : Nat → Value} {i j : Nat} {v : Value} (h : j ≠ i) : updV u i v j = u j := by simp [updV, h]
theorem put_same (a : Act) (d : Tmp) (x y : Value) : (a.put (some d) x).put (some d) y = a.put (some d) y := by
  simp [Act.put]
theorem put_other (a : Act) {d e : Tmp} (h : d ≠ e) (x y : Value) : (a.put (some d) x).put (some e) y = (a.put (some e) y).put (some d) x := by
  simp only [Act.put]
  congr 1
  exact Array.setIfInBounds_comm _ _ h
theorem put_lies (a : Act) (d : Tmp) : a.put (some d) (a.tmps.getD d undef) = a := by
  obtain ⟨t, ds⟩ := a
  simp only [Act.put]
  congr 1
  apply Array.ext_getElem?
  intro i
  rw [Array.getElem?_setIfInBounds]
  split
  · rename_i h
    subst h
    split
    · rename_i h2; simp [h2]
    · rename_i h2; rw [Array.getElem?_eq_none (by omega)]
  · rfl
theorem fill_other {D : List (Nat × Tmp)} {d : Tmp} {u : Nat → Value} (v : Value) : ∀ {a : Act}, d ∉ D.map Prod.snd → (fill a D u).put (some d) v = fill (a.put (some d) v) D u := by
  induction D with
  | nil => intro a _; rfl
  | cons p D ih =>
    intro a h
    simp only [List.map_cons, List.mem_cons, not_or] at h
    show (fill (a.put (some p.2) (u p.1)) D u).put (some d) v = fill ((a.put (some d) v).put (some p.2) (u p.1)) D u
    rw [ih h.2, put_other a (Ne.symm h.1)]
theorem fill_congr {D : List (Nat × Tmp)} {u u' : Nat → Value} : ∀ {a : Act}, (∀ p, p ∈ D → u p.1 = u' p.1) → fill a D u = fill a D u' := by
  induction D with
  | nil => intro a _; rfl
  | cons p D ih =>
    intro a h
    show fill (a.put (some p.2) (u p.1)) D u = fill (a.put (some p.2) (u' p.1)) D u'
    rw [h p (by simp), ih (fun q hq => h q (by simp [hq]))]
theorem fill_put {D : List (Nat × Tmp)} {i : Nat} {d : Tmp} {u : Nat → Value} (v : Value) : ∀ {a : Act}, (D.map Prod.fst).Nodup → (D.map Prod.snd).Nodup → (i, d) ∈ D → (fill a D u).put (some d) v = fill a D (updV u i v) := by
  induction D with
  | nil => intro a _ _ h; cases h
  | cons p D ih =>
    intro a h1 h2 h
    simp only [List.map_cons, List.nodup_cons] at h1 h2
    show (fill (a.put (some p.2) (u p.1)) D u).put (some d) v = fill (a.put (some p.2) (updV u i v p.1)) D (updV u i v)
    by_cases e : p.1 = i
    · have hp : p = (i, d) := by
        rcases List.mem_cons.1 h with h | h
        · exact h.symm
        · exact absurd (by rw [e]; exact List.mem_map_of_mem (f := Prod.fst) h) h1.1
      subst hp
      rw [fill_other v h2.1, put_same, updV_at]
      exact fill_congr (fun q hq => (updV_ne (fun e => h1.1 (by show i ∈ _; rw [← e]; exact List.mem_map_of_mem (f := Prod.fst) hq))).symm)
    · have hm : (i, d) ∈ D := by
        rcases List.mem_cons.1 h with h | h
        · exact absurd (by rw [← h]) e
        · exact h
      rw [ih h1.2 h2.2 hm, updV_ne e]
theorem fill_lies {D : List (Nat × Tmp)} {u : Nat → Value} {a : Act} (h : ∀ p, p ∈ D → u p.1 = a.tmps.getD p.2 undef) : fill a D u = a := by
  induction D with
  | nil => rfl
  | cons p D ih =>
    show fill (a.put (some p.2) (u p.1)) D u = a
    rw [h p (by simp), put_lies]
    exact ih (fun q hq => h q (by simp [hq]))
theorem lies_at {D : List (Nat × Tmp)} {a : Act} : (D.map Prod.fst).Nodup → ∀ p, p ∈ D → lies a D p.1 = a.tmps.getD p.2 undef := by
  intro hn p hp
  have : D.lookup p.1 = some p.2 := by
    induction D with
    | nil => cases hp
    | cons x D ih =>
      simp only [List.map_cons, List.nodup_cons] at hn
      rcases List.mem_cons.1 hp with rfl | hp
      · simp [List.lookup]
      · have hne : p.1 ≠ x.1 := fun e => hn.1 (e ▸ List.mem_map_of_mem (f := Prod.fst) hp)
        rw [List.lookup]
        have : (p.1 == x.1) = false := by simpa using hne
        rw [this]
        exact ih hn.2 hp
  unfold lies
  rw [this]
/-- The slots of D are where its operations put what they yield. -/
def slotsOk (ops : Array Oper) (D : List (Nat × Tmp)) (F : List Nat) : Bool := (D.map Prod.fst == F) && decide (D.map Prod.snd).Nodup && D.all (fun p => dstOf ops p.1 == some p.2)
/-- F may go in whatever order, and those of st come behind all of F. -/
def flowOk (md : Region.Mode) (ops : Array Oper) (listed : Array Bool) (F st : List Nat) : Bool :=
  listed.size == ops.size && F.Nodup &&
  (List.range ops.size).all (fun i => !(listed.getD i false) || (depsOf md ops i).all (fun j => listed.getD j false)) &&
  F.all (fun i => !(listed.getD i true) && decide (i < ops.size) && !(st.contains i) && (depsOf md ops i).all (fun j => decide (j < i) && (listed.getD j false || F.contains j))) &&
  (List.range ops.size).all (fun i => listed.getD i false || F.contains i || st.contains i) &&
  st.all (fun s => !(listed.getD s true) && ((depsOf md ops s).any (fun j => st.contains j) || F.all (fun j => (ancs md ops ops.size [s]).contains j)))
/-- What is listed once all of F is. -/
def fullOf (ops : Array Oper) (st : List Nat) : Array Bool := ((List.range ops.size).map (fun i => !(st.contains i))).toArray

theorem mem_deps {md : Region.Mode} {ops : Array Oper} {i j : Nat} : j ∈ depsOf md ops i ↔ ∃ o, ops[i]? = some o ∧ ∃ e, e ∈ o.after ∧ Region.binds md e = true ∧ e.on = j := by
  unfold depsOf
  cases h : ops[i]? with
  | none => simp
  | some o => simp [and_assoc]
theorem anc_listed {md : Region.Mode} {ops : Array Oper} {listed : Array Bool} (hc : ∀ i j, listed.getD i false = true → j ∈ depsOf md ops i → listed.getD j false = true) :
    ∀ (n : Nat) (l : List Nat), (∀ i, i ∈ l → ∀ j, j ∈ depsOf md ops i → listed.getD j false = true) → ∀ j, j ∈ ancs md ops n l → listed.getD j false = true
  | 0, _, _, j, h => by simp [ancs] at h
  | n + 1, l, hl, j, h => by
    have h1 : ∀ k, k ∈ (l.flatMap (depsOf md ops)).eraseDups → listed.getD k false = true := fun k hk => by
      rw [List.mem_eraseDups, List.mem_flatMap] at hk
      obtain ⟨i, hi, hki⟩ := hk
      exact hl i hi k hki
    simp only [ancs, List.mem_append] at h
    rcases h with h | h
    · exact h1 j h
    · exact anc_listed hc n _ (fun i hi k hk => hc i k (h1 i hi) hk) j h
theorem getD_ft {l : Array Bool} {i : Nat} (h : i < l.size) : l.getD i true = l.getD i false := by simp [Array.getD, h]
/-- How many of F are not listed. -/
def left (listed : Array Bool) : List Nat → Nat
  | [] => 0
  | x :: F => (if listed.getD x false = true then 0 else 1) + left listed F
theorem left_set {listed : Array Bool} {i : Nat} (hi : i < listed.size) (hl : listed.getD i false = false) : ∀ {F : List Nat}, F.Nodup → left listed F = left (listed.setIfInBounds i true) F + (if i ∈ F then 1 else 0)
  | [], _ => by simp [left]
  | x :: F, h => by
    have h' := List.nodup_cons.1 h
    have ih := left_set hi hl h'.2
    have hi' : (listed.setIfInBounds i true).getD i false = true := by simp [Array.getD, hi]
    simp only [left]
    by_cases hx : x = i
    · subst hx
      rw [hi', hl, ih]
      simp [h'.1]; omega
    · have h1 : (listed.setIfInBounds i true).getD x false = listed.getD x false := getD_set_ne false (Ne.symm hx)
      rw [h1, ih]
      have : (i ∈ x :: F) = (i ∈ F) := by simp [Ne.symm hx]
      simp only [this]; omega
theorem left_none {listed : Array Bool} : ∀ {F : List Nat}, left listed F = 0 → ∀ j, j ∈ F → listed.getD j false = true
  | [], _, j, hj => by cases hj
  | x :: F, h, j, hj => by
    simp only [left] at h
    rcases List.mem_cons.1 hj with rfl | hj
    · cases hb : listed.getD j false
      · rw [hb] at h; simp at h
      · rfl
    · exact left_none (by omega) j hj
theorem left_some {listed : Array Bool} : ∀ {F : List Nat}, left listed F ≠ 0 → ∃ j, j ∈ F ∧ listed.getD j false = false
  | [], h => absurd rfl h
  | x :: F, h => by
    cases hb : listed.getD x false
    · exact ⟨x, by simp, hb⟩
    · simp only [left] at h
      rw [hb] at h
      obtain ⟨j, h1, h2⟩ := left_some (F := F) (by simpa using h)
      exact ⟨j, by simp [h1], h2⟩
theorem left_all {listed : Array Bool} : ∀ {F : List Nat}, (∀ j, j ∈ F → listed.getD j false = false) → left listed F = F.length
  | [], _ => rfl
  | x :: F, h => by
    simp only [left, h x (by simp), List.length_cons]
    rw [left_all (fun j hj => h j (by simp [hj]))]
    simp; omega
/-- One operation at whatever time, its own answers at hand. -/
def StepOk (P : Program) (md : Region.Mode) (ops : Array Oper) (Q : Exit → Act → World → Prop) (S : World → Prop) (G : Nat → Value → World → Prop) (a0 : Act) (w0 : World) (D : List (Nat × Tmp)) (F : List Nat) (i : Nat) : Prop :=
  ∃ o, ops[i]? = some o ∧ ∀ u w, S w → Below w0.heap.size w0 w → (∀ j, F.contains j = true → (depsOf md ops i).contains j = true → G j (u j) w) →
    ∀ K : Act → World → Prop, Shut (∀ v w', Below w.heap.size w w' → G i v w' → K ((fill a0 D u).put o.dst v) w') → if Region.wanted o (yielded ops (fill a0 D u).tmps) = true then Oper.wp P o (fill a0 D u) w K Q else K ((fill a0 D u).put o.dst undef) w

theorem wpOp_of {P : Program} {ops : Array Oper} {Q : Exit → Act → World → Prop} {i : Nat} {o : Oper} {K : Act → World → Prop} {a : Act} {w : World} (ho : ops[i]? = some o) (h : if Region.wanted o (yielded ops a.tmps) = true then Oper.wp P o a w K Q else K (a.put o.dst undef) w) : wpOp P ops Q i K a w := by
  unfold wpOp
  simp only [ho]
  split at h
  · rename_i hw; simp only [hw, if_true]; exact .inl h
  · rename_i hw; simp only [hw]; exact h

theorem wpAnyH_flow {P : Program} {md : Region.Mode} {ops : Array Oper} {Q : Exit → Act → World → Prop} {S : World → Prop} (G : Nat → Value → World → Prop) (D : List (Nat × Tmp)) (F st : List Nat) (listed0 : Array Bool) (a0 : Act) (w0 : World) (fuel : Nat)
    (hok : flowOk md ops listed0 F st = true) (hsl : slotsOk ops D F = true)
    (hS : ∀ w w', S w → Below w.heap.size w w' → S w')
    (hG : ∀ j v w w', G j v w → Below w.heap.size w w' → G j v w')
    (hstep : ∀ i, i ∈ F → StepOk P md ops Q S G a0 w0 D F i)
    (hend : ∀ u w, S w → Below w0.heap.size w0 w → (∀ j, j ∈ F → G j (u j) w) → wpAnyH P md ops Q S fuel (fullOf ops st) (fill a0 D u) w)
    (hS0 : S w0) : wpAnyH P md ops Q S (F.length + fuel) listed0 a0 w0 := by
  simp only [flowOk, Bool.and_eq_true, beq_iff_eq] at hok
  obtain ⟨⟨⟨⟨⟨k1, k0⟩, k2⟩, k3⟩, k4⟩, k5⟩ := hok
  have k0 : F.Nodup := of_decide_eq_true k0
  have k2' : ∀ i j, listed0.getD i false = true → j ∈ depsOf md ops i → listed0.getD j false = true := fun i j hi hj => by
    have hlt : i < ops.size := by
      rcases Nat.lt_or_ge i ops.size with h | h
      · exact h
      · rw [← k1] at h; simp [Array.getElem?_eq_none h] at hi
    have := List.all_eq_true.1 k2 i (List.mem_range.2 hlt)
    rw [hi] at this
    simpa using List.all_eq_true.1 (by simpa using this) j hj
  have k3' : ∀ i, i ∈ F → listed0.getD i true = false ∧ i < ops.size ∧ i ∉ st ∧ ∀ j, j ∈ depsOf md ops i → j < i ∧ (listed0.getD j false = true ∨ j ∈ F) := fun i hi => by
    have := List.all_eq_true.1 k3 i hi
    simp only [Bool.and_eq_true, Bool.not_eq_true', decide_eq_true_eq] at this
    obtain ⟨⟨⟨a, b⟩, c⟩, d⟩ := this
    refine ⟨a, b, fun h => ?_, fun j hj => ?_⟩
    · rw [List.contains_iff_mem.2 h] at c; cases c
    · have := List.all_eq_true.1 d j hj
      simp only [Bool.and_eq_true, decide_eq_true_eq, Bool.or_eq_true] at this
      exact ⟨this.1, this.2.imp id (fun h => List.contains_iff_mem.1 h)⟩
  have k4' : ∀ i, i < ops.size → listed0.getD i false = true ∨ i ∈ F ∨ i ∈ st := fun i hi => by
    have := List.all_eq_true.1 k4 i (List.mem_range.2 hi)
    simp only [Bool.or_eq_true] at this
    rcases this with (h | h) | h
    · exact .inl h
    · exact .inr (.inl (List.contains_iff_mem.1 h))
    · exact .inr (.inr (List.contains_iff_mem.1 h))
  have k5' : ∀ s, s ∈ st → listed0.getD s true = false ∧ ((∃ j, j ∈ depsOf md ops s ∧ j ∈ st) ∨ ∀ j, j ∈ F → j ∈ ancs md ops ops.size [s]) := fun s hs => by
    have := List.all_eq_true.1 k5 s hs
    simp only [Bool.and_eq_true, Bool.not_eq_true', Bool.or_eq_true] at this
    refine ⟨this.1, this.2.imp (fun h => ?_) (fun h j hj => List.contains_iff_mem.1 (List.all_eq_true.1 h j hj))⟩
    obtain ⟨j, h1, h2⟩ := List.any_eq_true.1 h
    exact ⟨j, h1, List.contains_iff_mem.1 h2⟩
  simp only [slotsOk, Bool.and_eq_true, beq_iff_eq, decide_eq_true_eq] at hsl
  obtain ⟨⟨hf, h2⟩, h3⟩ := hsl
  have h1 : (D.map Prod.fst).Nodup := hf ▸ k0
  have hput : ∀ i, i ∈ F → ∀ u v, (fill a0 D u).put (dstOf ops i) v = fill a0 D (updV u i v) := fun i hi u v => by
    rw [← hf] at hi
    obtain ⟨⟨i', d⟩, hp, rfl⟩ := List.mem_map.1 hi
    have h4 := List.all_eq_true.1 h3 _ hp
    rw [beq_iff_eq.1 h4]
    exact fill_put v h1 h2 hp
  have h0 : fill a0 D (lies a0 D) = a0 := fill_lies (lies_at h1)
  -- at any time
  have main : ∀ (n : Nat) (listed : Array Bool) (u : Nat → Value) (w : World), left listed F ≤ n → listed.size = ops.size → (∀ i, i ∉ F → listed.getD i false = listed0.getD i false) → (∀ i j, listed.getD i false = true → j ∈ depsOf md ops i → listed.getD j false = true) →
      S w → Below w0.heap.size w0 w → (∀ j, j ∈ F → listed.getD j false = true → G j (u j) w) → ∀ m, m = left listed F → wpAnyH P md ops Q S (m + fuel) listed (fill a0 D u) w := by
    intro n
    induction n with
    | zero =>
      intro listed u w hn hsz hout hcl hw hb hg m hm
      have hz : left listed F = 0 := by omega
      have hall := left_none hz
      have hl : listed = fullOf ops st := by
        apply Array.ext
        · rw [hsz]; simp [fullOf]
        · intro i h1 h2
          have hi : i < ops.size := by omega
          have e1 : listed[i] = listed.getD i false := by simp [Array.getD, h1]
          have e2 : (fullOf ops st)[i] = !(st.contains i) := by simp [fullOf]
          rw [e1, e2]
          by_cases hF : i ∈ F
          · rw [hall i hF]
            have := (k3' i hF).2.2.1
            simp [this]
          · rw [hout i hF]
            by_cases hs : i ∈ st
            · have := (k5' i hs).1
              rw [getD_ft (by omega)] at this
              rw [this]; simp [hs]
            · rcases k4' i hi with h | h | h
              · rw [h]; simp [hs]
              · exact absurd h hF
              · exact absurd h hs
      rw [hm, hz, Nat.zero_add, hl]
      exact hend u w hw hb (fun j hj => hg j hj (hall j hj))
    | succ n ih =>
      intro listed u w hn hsz hout hcl hw hb hg m hm
      by_cases hz : left listed F = 0
      · exact ih listed u w (by omega) hsz hout hcl hw hb hg m hm
      · obtain ⟨m', rfl⟩ : ∃ m', m = m' + 1 := ⟨m - 1, by omega⟩
        -- one of F is ready
        have hex := left_some hz
        have hmin : ∀ b i, i ≤ b → i ∈ F → listed.getD i false = false → ∃ i, i ∈ F ∧ listed.getD i false = false ∧ ∀ j, j ∈ F → j < i → listed.getD j false = true := by
          intro b
          induction b with
          | zero => intro i hi hF hl; exact ⟨i, hF, hl, fun j _ hj => by omega⟩
          | succ b ihb =>
            intro i hi hF hl
            by_cases h : ∃ j, j ∈ F ∧ j < i ∧ listed.getD j false = false
            · obtain ⟨j, h1, h2, h3⟩ := h
              exact ihb j (by omega) h1 h3
            · refine ⟨i, hF, hl, fun j h1 h2 => ?_⟩
              cases h3 : listed.getD j false
              · exact absurd ⟨j, h1, h2, h3⟩ h
              · rfl
        have hne : Region.ready md ops listed ≠ [] := by
          obtain ⟨i0, h1, h2⟩ := hex
          obtain ⟨i, hF, hl, hmn⟩ := hmin i0 i0 (Nat.le_refl _) h1 h2
          obtain ⟨_, hlt, _, hd⟩ := k3' i hF
          have : i ∈ Region.ready md ops listed := mem_ready.2 ⟨by rw [getD_ft (by omega)]; exact hl, ops[i], by simp [hlt], fun e he hb => by
            obtain ⟨h1, h2⟩ := hd e.on (mem_deps.2 ⟨ops[i], by simp [hlt], e, he, hb, rfl⟩)
            by_cases hFe : e.on ∈ F
            · exact hmn _ hFe h1
            · rw [hout _ hFe]; exact h2.resolve_right hFe⟩
          intro h; rw [h] at this; cases this
        rw [show m' + 1 + fuel = (m' + fuel) + 1 by omega]
        refine ⟨fun h => absurd h hne, fun i hi => ?_⟩
        obtain ⟨hun, o, ho, hdep⟩ := mem_ready.1 hi
        have hlt : i < ops.size := (Array.getElem?_eq_some_iff.1 ho).1
        have hlf : listed.getD i false = false := by rw [← getD_ft (by omega)]; exact hun
        have hdl : ∀ j, j ∈ depsOf md ops i → listed.getD j false = true := fun j hj => by
          obtain ⟨o', ho', e, he, hb', rfl⟩ := mem_deps.1 hj
          have : o' = o := Option.some.inj (ho'.symm.trans ho)
          subst this
          exact hdep e he hb'
        by_cases hF : i ∈ F
        case neg =>
          exfalso
          have h1 := hout i hF
          rw [hlf] at h1
          rcases k4' i hlt with h | h | h
          · rw [h] at h1; cases h1
          · exact hF h
          · rcases (k5' i h).2 with ⟨j, hj, hjs⟩ | hanc
            · have h2 := hdl j hj
              have h3 := k5' j hjs
              by_cases hjF : j ∈ F
              · exact (k3' j hjF).2.2.1 hjs
              · rw [hout j hjF] at h2
                have h4 := h3.1
                have hjl : j < listed0.size := by
                  rcases Nat.lt_or_ge j listed0.size with h | h
                  · exact h
                  · simp [Array.getElem?_eq_none h] at h2
                rw [getD_ft hjl, h2] at h4; cases h4
            · obtain ⟨j, hjF, hjl⟩ := hex
              have := anc_listed hcl ops.size [i] (fun k hk l hl => by simp at hk; subst hk; exact hdl l hl) j (hanc j hjF)
              rw [hjl] at this; cases this
        obtain ⟨o', ho', hst⟩ := hstep i hF
        obtain rfl : o' = o := Option.some.inj (ho'.symm.trans ho)
        refine wpOp_of ho ?_
        refine hst u w hw hb (fun j hj hd => hg j (List.contains_iff_mem.1 hj) (hdl j (List.contains_iff_mem.1 hd))) _ (fun v w' hb' hgi => ?_)
        have hdst : o'.dst = dstOf ops i := by simp [dstOf, ho]
        refine ⟨hS w w' hw hb', ?_⟩
        rw [hdst, hput i hF]
        have hlt' := left_set (by omega) hlf k0
        simp only [hF, if_true] at hlt'
        have hset : ∀ j, j ≠ i → (listed.setIfInBounds i true).getD j false = listed.getD j false := fun j hj => getD_set_ne false (Ne.symm hj)
        have hseti : (listed.setIfInBounds i true).getD i false = true := by simp [Array.getD, show i < listed.size by omega]
        refine ih (listed.setIfInBounds i true) (updV u i v) w' (by omega) (by simpa using hsz) (fun j hj => ?_) (fun j k hj hk => ?_) (hS w w' hw hb') (hb.trans (hb'.mono hb.size)) (fun j hj hl => ?_) m' (by omega)
        · rw [hset j (fun e => hj (e ▸ hF)), hout j hj]
        · by_cases hji : j = i
          · subst hji
            exact getD_set_true (hdl k hk)
          · rw [hset j hji] at hj
            exact getD_set_true (hcl j k hj hk)
        · by_cases hji : j = i
          · subst hji; rw [updV_at]; exact hgi
          · rw [updV_ne hji]
            rw [hset j hji] at hl
            exact hG j (u j) w w' (hg j hj hl) hb'
  have hleft : left listed0 F = F.length := left_all (fun i hi => by
    have h1 := (k3' i hi).1
    have h2 := (k3' i hi).2.1
    rw [getD_ft (by omega)] at h1
    exact h1)
  have := main (left listed0 F) listed0 (lies a0 D) w0 (Nat.le_refl _) k1 (fun _ _ => rfl) k2' hS0 (Below.refl _ _) (fun j hj hl => by
    have h1 := (k3' j hj).1
    have h2 := (k3' j hj).2.1
    rw [getD_ft (by omega), hl] at h1; cases h1) F.length hleft.symm
  rw [h0] at this
  exact this
end Go.Proofs.YtbmfcogfgdggkaaGreat
namespace Go.Proofs.YtbmfcogfgdggkaaGreat
open Go.RowKit

/-- A number in memory by its value. -/
def NmV (L : Nat) (w : World) (t : Nm) (q : Rat) : Prop := Rn L w t.s t.x t.n t.c t.f t.y t.m t.d t.g q
theorem NmV.below {L w w' t q} (h : NmV L w t q) (hb : Below w.heap.size w w') : NmV L w' t q := Rn.below h hb
/-- A column, a row by their values. -/
structure CV where
  nm : ByteArray
  cost : Rat
  li : Int
  lq : Rat
  hi : Int
  hq : Rat
structure RV where
  nm : ByteArray
  li : Int
  lq : Rat
  hi : Int
  hq : Rat
  ts : List (Int × Rat)
structure ColV (L : Nat) (w : World) (c : Lc) (v : CV) : Prop where
  nm : c.nm = v.nm
  cost : NmV L w c.cost v.cost
  li : c.lo.i = v.li
  lq : NmV L w c.lo.v v.lq
  hi : c.hi.i = v.hi
  hq : NmV L w c.hi.v v.hq
structure RowV (L : Nat) (w : World) (r : Lr) (v : RV) : Prop where
  nm : r.nm = v.nm
  li : r.lo.i = v.li
  lq : NmV L w r.lo.v v.lq
  hi : r.hi.i = v.hi
  hq : NmV L w r.hi.v v.hq
  tk : r.tk = v.ts.length
  tl : ∀ p z q, v.ts[p]? = some (z, q) → r.col p = z ∧ NmV L w (r.T p) q ∧ ∃ b o, r.ta = some ⟨b, o, none⟩ ∧ C4 w b (o + p * 4) (.int .i64 (r.col p)) (.bool (r.T p).s) (.slice (r.T p).x (r.T p).n (r.T p).c) (.slice (r.T p).y (r.T p).m (r.T p).d)
theorem ColV.below {L w w' c v} (h : ColV L w c v) (hb : Below w.heap.size w w') : ColV L w' c v := ⟨h.nm, h.cost.below hb, h.li, h.lq.below hb, h.hi, h.hq.below hb⟩
theorem RowV.below {L w w' c v} (h : RowV L w c v) (hb : Below w.heap.size w w') : RowV L w' c v := ⟨h.nm, h.li, h.lq.below hb, h.hi, h.hq.below hb, h.tk, fun p z q e => by
  obtain ⟨h1, h2, b, o, h3, h4⟩ := h.tl p z q e
  exact ⟨h1, h2.below hb, b, o, h3, h4.below hb⟩⟩
/-- A model by its values. -/
structure MoV (L : Nat) (w : World) (M : Mo) (q : Rat) (cs : List CV) (rs : List RV) : Prop where
  off : NmV L w M.off q
  ck : M.ck = cs.length
  rk : M.rk = rs.length
  cls : ∀ j v, cs[j]? = some v → (∃ b o, M.ca = some ⟨b, o, none⟩ ∧ Cs w b (o + j * 12) (M.C j).vs) ∧ ColV L w (M.C j) v
  rls : ∀ j v, rs[j]? = some v → (∃ b o, M.ra = some ⟨b, o, none⟩ ∧ Cs w b (o + j * 10) (M.R j).vs) ∧ RowV L w (M.R j) v
theorem MoV.below {L w w' M q cs rs} (h : MoV L w M q cs rs) (hb : Below w.heap.size w w') : MoV L w' M q cs rs :=
  ⟨h.off.below hb, h.ck, h.rk, fun j v e => by obtain ⟨⟨b, o, h1, h2⟩, h3⟩ := h.cls j v e; exact ⟨⟨b, o, h1, h2.below hb⟩, h3.below hb⟩, fun j v e => by obtain ⟨⟨b, o, h1, h2⟩, h3⟩ := h.rls j v e; exact ⟨⟨b, o, h1, h2.below hb⟩, h3.below hb⟩⟩
theorem NmV.nms {L w t q} (h : NmV L w t q) (hL : L ≤ 65536) : NmS w t ∧ nfB t = true := by
  obtain ⟨h1, h2⟩ := Rn.nm h hL
  exact ⟨h1, h2⟩
theorem RowV.tls {L w r v} (h : RowV L w r v) (hL : L ≤ 65536) : Tl w r.ta r.tk r.col r.T := fun j hj => by
  rw [h.tk] at hj
  obtain ⟨⟨z, q⟩, hz⟩ : ∃ x, v.ts[j]? = some x := ⟨_, List.getElem?_eq_getElem hj⟩
  obtain ⟨_, h2, b, o, h3, h4⟩ := h.tl j z q hz
  exact ⟨b, o, h3, h4, (h2.nms hL).1⟩
/-- It can be read. -/
theorem MoV.mor {L w M q cs rs} (h : MoV L w M q cs rs) (hL : L ≤ 65536) (hc : cs.length ≤ 64) (hr : rs.length ≤ 64) (hn : ∀ v, v ∈ cs → v.nm.size ≤ 1000) (hm : ∀ v, v ∈ rs → v.nm.size ≤ 1000 ∧ v.ts.length ≤ 1000) : MoR w M := by
  refine ⟨(h.off.nms hL).1, fun j hj => ?_, fun j hj => ?_, by rw [h.ck]; omega, by rw [h.rk]; omega⟩
  · rw [h.ck] at hj
    obtain ⟨v, hv⟩ : ∃ x, cs[j]? = some x := ⟨_, List.getElem?_eq_getElem hj⟩
    obtain ⟨⟨b, o, h1, h2⟩, h3⟩ := h.cls j v hv
    have := hn v (List.mem_of_getElem? hv)
    exact ⟨b, o, h1, h2, (h3.cost.nms hL).1, (h3.lq.nms hL).1, (h3.hq.nms hL).1, by rw [h3.nm]; omega⟩
  · rw [h.rk] at hj
    obtain ⟨v, hv⟩ : ∃ x, rs[j]? = some x := ⟨_, List.getElem?_eq_getElem hj⟩
    obtain ⟨⟨b, o, h1, h2⟩, h3⟩ := h.rls j v hv
    have := hm v (List.mem_of_getElem? hv)
    exact ⟨b, o, h1, h2, (h3.lq.nms hL).1, (h3.hq.nms hL).1, h3.tls hL, by rw [h3.tk]; omega, by rw [h3.nm]; omega⟩

/-- A model stays where a box of bools and lists is written. -/
theorem MoV.kp {L w w' M q cs rs} (h : MoV L w M q cs rs) (hk : Kp w w') {b0 : Nat} (hne : ∀ k, k ≠ b0 → w'.heap[k]? = w.heap[k]?) (hno : ∀ o v, w.cell? ⟨b0, o, none⟩ = some v → (∀ s, v ≠ .string s) ∧ ∀ k z, v ≠ .int k z) : MoV L w' M q cs rs := by
  have hc : ∀ b o vs, (∃ s, vs[0]? = some (Value.string s)) → Cs w b o vs → Cs w' b o vs := fun b o vs ⟨s, hs⟩ h j v e => by
    have hb : b ≠ b0 := fun e => (hno (o + 0) (.string s) (e ▸ h 0 _ hs)).1 s rfl
    exact (World.cell?_of_block (a := ⟨b, o + j, none⟩) (hne b hb)).trans (h j v e)
  have h4 : ∀ b o z a1 a2 a3, C4 w b o (.int .i64 z) a1 a2 a3 → C4 w' b o (.int .i64 z) a1 a2 a3 := fun b o z a1 a2 a3 h => by
    have hb : b ≠ b0 := fun e => (hno o _ (e ▸ h.x0)).2 _ z rfl
    exact ⟨(World.cell?_of_block (a := ⟨b, o, none⟩) (hne b hb)).trans h.x0, (World.cell?_of_block (a := ⟨b, o + 1, none⟩) (hne b hb)).trans h.x1, (World.cell?_of_block (a := ⟨b, o + 2, none⟩) (hne b hb)).trans h.x2, (World.cell?_of_block (a := ⟨b, o + 3, none⟩) (hne b hb)).trans h.x3⟩
  refine ⟨Rn.kp h.off hk, h.ck, h.rk, fun j v e => ?_, fun j v e => ?_⟩
  · obtain ⟨⟨b, o, h1, h2⟩, h3⟩ := h.cls j v e
    exact ⟨⟨b, o, h1, hc _ _ _ ⟨_, rfl⟩ h2⟩, h3.nm, Rn.kp h3.cost hk, h3.li, Rn.kp h3.lq hk, h3.hi, Rn.kp h3.hq hk⟩
  · obtain ⟨⟨b, o, h1, h2⟩, h3⟩ := h.rls j v e
    refine ⟨⟨b, o, h1, hc _ _ _ ⟨_, rfl⟩ h2⟩, h3.nm, h3.li, Rn.kp h3.lq hk, h3.hi, Rn.kp h3.hq hk, h3.tk, fun p z q' e' => ?_⟩
    obtain ⟨k1, k2, b', o', k3, k4⟩ := h3.tl p z q' e'
    exact ⟨k1, Rn.kp k2 hk, b', o', k3, h4 _ _ _ _ _ _ k4⟩
/-- What operations of a model's literal leave. -/
def GX (L : Nat) (i : Int) (q : Rat) (v : Value) (w : World) : Prop := ∃ e : Ex, v = e.val ∧ e.i = i ∧ NmV L w e.v q
def GF (i : Int) (v : Value) (w : World) : Prop := ∃ s x n c d y m c' g, v = .agg #[.int .i64 i, .bool s, .slice x n c, .slice y m c'] ∧ n ≤ 2 ∧ m ≤ 2 ∧ Fn w i s x n d y m g 0
def GC (L : Nat) (cv : CV) (v : Value) (w : World) : Prop := ∃ c : Lc, v = .agg c.vs.toArray ∧ ColV L w c cv
def GCs (L : Nat) (c0 c1 : CV) (v : Value) (w : World) : Prop := ∃ b x0 x1, v = .slice (some ⟨b, 0, none⟩) 2 2 ∧ Cs w b 0 x0.vs ∧ Cs w b 12 x1.vs ∧ ColV L w x0 c0 ∧ ColV L w x1 c1
def GT (l : List (Int × Nm)) (v : Value) (w : World) : Prop := ∃ b, v = .slice (some ⟨b, 0, none⟩) l.length l.length ∧ ∀ p z t, l[p]? = some (z, t) → C4 w b (0 + p * 4) (.int .i64 z) (.bool t.s) (.slice t.x t.n t.c) (.slice t.y t.m t.d)
def GR (L : Nat) (rv : RV) (v : Value) (w : World) : Prop := ∃ r : Lr, v = .agg r.vs.toArray ∧ RowV L w r rv
def GRs (L : Nat) (c0 c1 : RV) (v : Value) (w : World) : Prop := ∃ b x0 x1, v = .slice (some ⟨b, 0, none⟩) 2 2 ∧ Cs w b 0 x0.vs ∧ Cs w b 10 x1.vs ∧ RowV L w x0 c0 ∧ RowV L w x1 c1
def GM (L : Nat) (q : Rat) (cs : List CV) (rs : List RV) (v : Value) (w : World) : Prop := ∃ M : Mo, v = M.val ∧ MoV L w M q cs rs
theorem GX.below {L i q v w w'} (h : GX L i q v w) (hb : Below w.heap.size w w') : GX L i q v w' := by
  obtain ⟨e, h1, h2, h3⟩ := h; exact ⟨e, h1, h2, h3.below hb⟩
theorem GF.below {i v w w'} (h : GF i v w) (hb : Below w.heap.size w w') : GF i v w' := by
  obtain ⟨s, x, n, c, d, y, m, c', g, h1, h2, h3, h4⟩ := h; exact ⟨s, x, n, c, d, y, m, c', g, h1, h2, h3, h4.below hb⟩
theorem GC.below {L i v w w'} (h : GC L i v w) (hb : Below w.heap.size w w') : GC L i v w' := by
  obtain ⟨e, h1, h2⟩ := h; exact ⟨e, h1, h2.below hb⟩
theorem GR.below {L i v w w'} (h : GR L i v w) (hb : Below w.heap.size w w') : GR L i v w' := by
  obtain ⟨e, h1, h2⟩ := h; exact ⟨e, h1, h2.below hb⟩
theorem GCs.below {L i j v w w'} (h : GCs L i j v w) (hb : Below w.heap.size w w') : GCs L i j v w' := by
  obtain ⟨b, x0, x1, h1, h2, h3, h4, h5⟩ := h; exact ⟨b, x0, x1, h1, h2.below hb, h3.below hb, h4.below hb, h5.below hb⟩
theorem GRs.below {L i j v w w'} (h : GRs L i j v w) (hb : Below w.heap.size w w') : GRs L i j v w' := by
  obtain ⟨b, x0, x1, h1, h2, h3, h4, h5⟩ := h; exact ⟨b, x0, x1, h1, h2.below hb, h3.below hb, h4.below hb, h5.below hb⟩
theorem GT.below {l v w w'} (h : GT l v w) (hb : Below w.heap.size w w') : GT l v w' := by
  obtain ⟨b, h1, h2⟩ := h; exact ⟨b, h1, fun p z t e => (h2 p z t e).below hb⟩
theorem GM.below {L q cs rs v w w'} (h : GM L q cs rs v w) (hb : Below w.heap.size w w') : GM L q cs rs v w' := by
  obtain ⟨e, h1, h2⟩ := h; exact ⟨e, h1, h2.below hb⟩
/-- A block, whole: it may be written. -/
def Bk (w : World) (B : Nat) (vs : List Value) (t : TypeId) : Prop := w.heap[B]? = some (.cells vs.toArray t (0, 0))
theorem bk_new (w : World) (vs : List Value) (t : TypeId) : Bk (w.alloc (.cells vs.toArray t)) w.heap.size vs t := heap_alloc_new w _
theorem Bk.lt {w B vs t} (h : Bk w B vs t) : B < w.heap.size := (Array.getElem?_eq_some_iff.1 h).1
theorem Bk.below {w w' B vs t} (h : Bk w B vs t) (hb : Below w.heap.size w w') : Bk w' B vs t := (hb.block B h.lt).trans h
theorem Bk.cell {w B vs t} (h : Bk w B vs t) {j : Nat} {v : Value} (hv : vs[j]? = some v) : w.cell? ⟨B, j, none⟩ = some v := by
  unfold Bk at h
  simp only [World.cell?, h]
  simpa using hv
theorem Bk.frozen {w B vs t} (h : Bk w B vs t) (o : Nat) : w.frozen? ⟨B, o, none⟩ = false := by
  unfold Bk at h
  simp [World.frozen?, h]
/-- A box of five cells that is written over. -/
theorem kp_st5 {w w' : World} {B : Nat} {a0 a1 a2 a3 a4 : Value} {t : TypeId} (h : Bk w B [a0, a1, a2, a3, a4] t) (hu : NoU #[a0, a1, a2, a3, a4]) {v0 v1 v2 v3 v4 : Value}
    (e : w' = ((((w.setCell ⟨B, 0, none⟩ v0).setCell ⟨B, 1, none⟩ v1).setCell ⟨B, 2, none⟩ v2).setCell ⟨B, 3, none⟩ v3).setCell ⟨B, 4, none⟩ v4) : Kp w w' ∧ ∀ k, k ≠ B → w'.heap[k]? = w.heap[k]? := by
  obtain ⟨w1, h1⟩ : ∃ x, x = w.setCell ⟨B, 0, none⟩ v0 := ⟨_, rfl⟩
  obtain ⟨w2, h2⟩ : ∃ x, x = w1.setCell ⟨B, 1, none⟩ v1 := ⟨_, rfl⟩
  obtain ⟨w3, h3⟩ : ∃ x, x = w2.setCell ⟨B, 2, none⟩ v2 := ⟨_, rfl⟩
  obtain ⟨w4, h4⟩ : ∃ x, x = w3.setCell ⟨B, 3, none⟩ v3 := ⟨_, rfl⟩
  rw [← h1, ← h2, ← h3, ← h4] at e
  have g : ∀ (a b : World) o v, b = a.setCell ⟨B, o, none⟩ v → b.os = a.os ∧ b.tape = a.tape ∧ b.output = a.output ∧ b.heap.size = a.heap.size ∧ ∀ k, k ≠ B → b.heap[k]? = a.heap[k]? := fun a b o v e => by
    subst e; exact ⟨rfl, rfl, rfl, by simp [World.setCell], fun k hk => Below.heap_setCell _ _ _ _ hk⟩
  obtain ⟨a1, b1, c1, d1, e1⟩ := g _ _ _ _ h1
  obtain ⟨a2, b2, c2, d2, e2⟩ := g _ _ _ _ h2
  obtain ⟨a3, b3, c3, d3, e3⟩ := g _ _ _ _ h3
  obtain ⟨a4, b4, c4, d4, e4⟩ := g _ _ _ _ h4
  obtain ⟨a5, b5, c5, d5, e5⟩ := g _ _ _ _ e
  have hne : ∀ k, k ≠ B → w'.heap[k]? = w.heap[k]? := fun k hk => by rw [e5 k hk, e4 k hk, e3 k hk, e2 k hk, e1 k hk]
  refine ⟨⟨by rw [a5, a4, a3, a2, a1], by rw [b5, b4, b3, b2, b1], by rw [c5, c4, c3, c2, c1], by omega, fun k _ => ?_⟩, hne⟩
  by_cases hk : k = B
  · subst hk; exact .inr ⟨_, t, (0, 0), h, hu⟩
  · exact .inl (hne k hk)
theorem below_st5 {w0 w : World} {B : Nat} {u0 u1 u2 u3 u4 : Value} (hw : Below w0.heap.size w0 w) (hB : w0.heap.size ≤ B) :
    Below w0.heap.size w0 (((((w.setCell ⟨B, 0, none⟩ u0).setCell ⟨B, 1, none⟩ u1).setCell ⟨B, 2, none⟩ u2).setCell ⟨B, 3, none⟩ u3).setCell ⟨B, 4, none⟩ u4) :=
  below_turned hw hw.size ((((((Turned.refl w0.heap.size (B + 1) w).set (x := ⟨B, 0, none⟩) hB (by simp) _).set (x := ⟨B, 1, none⟩) hB (by simp) _).set (x := ⟨B, 2, none⟩) hB (by simp) _).set (x := ⟨B, 3, none⟩) hB (by simp) _).set (x := ⟨B, 4, none⟩) hB (by simp) _) (Nat.le_refl _)
theorem noc5 {w : World} {B : Nat} {s : Bool} {x1 x2 x3 x4 : Option Addr} {n1 n2 n3 n4 c1 c2 c3 c4 : Nat} {t : TypeId} (h : Bk w B [.bool s, .slice x1 n1 c1, .slice x2 n2 c2, .slice x3 n3 c3, .slice x4 n4 c4] t) : ∀ o v, w.cell? ⟨B, o, none⟩ = some v → (∀ s, v ≠ .string s) ∧ ∀ k z, v ≠ .int k z := fun o v e => by
  unfold Bk at h
  simp only [World.cell?, h] at e
  match o, e with
  | 0, e => simp at e; subst e; exact ⟨(fun _ h => nomatch h), (fun _ _ h => nomatch h)⟩
  | 1, e => simp at e; subst e; exact ⟨(fun _ h => nomatch h), (fun _ _ h => nomatch h)⟩
  | 2, e => simp at e; subst e; exact ⟨(fun _ h => nomatch h), (fun _ _ h => nomatch h)⟩
  | 3, e => simp at e; subst e; exact ⟨(fun _ h => nomatch h), (fun _ _ h => nomatch h)⟩
  | 4, e => simp at e; subst e; exact ⟨(fun _ h => nomatch h), (fun _ _ h => nomatch h)⟩
  | o + 5, e => simp at e
theorem nou5 (s : Bool) (x1 x2 x3 x4 : Option Addr) (n1 n2 n3 n4 c1 c2 c3 c4 : Nat) : NoU #[Value.bool s, .slice x1 n1 c1, .slice x2 n2 c2, .slice x3 n3 c3, .slice x4 n4 c4] := nou_list (l := [Value.bool s, .slice x1 n1 c1, .slice x2 n2 c2, .slice x3 n3 c3, .slice x4 n4 c4]) (fun u hu q => by simp at hu; rcases hu with rfl | rfl | rfl | rfl | rfl <;> simp)
/-- Cells of a block that was just made. -/
theorem cs_new (w : World) (t : TypeId) (l l' : List Value) (o : Nat) (h : ∀ j v, l'[j]? = some v → l[o + j]? = some v) : Cs (w.alloc (.cells l.toArray t)) w.heap.size o l' := fun j v e => by
  have := h j v e
  simp only [World.cell?, heap_alloc_new]
  simpa using this

theorem cs_app (w : World) (t : TypeId) (a b : List Value) : Cs (w.alloc (.cells (a ++ b).toArray t)) w.heap.size 0 a ∧ Cs (w.alloc (.cells (a ++ b).toArray t)) w.heap.size a.length b :=
  ⟨cs_new w t _ _ 0 (fun j v e => by rw [Nat.zero_add, List.getElem?_append_left (List.getElem?_eq_some_iff.1 e).1]; exact e), cs_new w t _ _ _ (fun j v e => by rw [List.getElem?_append_right (by omega), Nat.add_sub_cancel_left]; exact e)⟩
theorem cs4 {w : World} {b o : Nat} {a0 a1 a2 a3 : Value} (h : Cs w b o [a0, a1, a2, a3]) : C4 w b o a0 a1 a2 a3 := ⟨h 0 _ rfl, h 1 _ rfl, h 2 _ rfl, h 3 _ rfl⟩
def tvs (z : Int) (t : Nm) : List Value := [.int .i64 z, .bool t.s, .slice t.x t.n t.c, .slice t.y t.m t.d]
theorem gt_new2 (w : World) (ty : TypeId) (z0 z1 : Int) (t0 t1 : Nm) : GT [(z0, t0), (z1, t1)] (.slice (some ⟨w.heap.size, 0, none⟩) 2 2) (w.alloc (.cells (tvs z0 t0 ++ tvs z1 t1).toArray ty)) := by
  obtain ⟨h1, h2⟩ := cs_app w ty (tvs z0 t0) (tvs z1 t1)
  refine ⟨w.heap.size, rfl, fun p z t e => ?_⟩
  match p, e with
  | 0, e => cases e; exact cs4 h1
  | 1, e => cases e; exact cs4 h2
theorem gt_new1 (w : World) (ty : TypeId) (z0 : Int) (t0 : Nm) : GT [(z0, t0)] (.slice (some ⟨w.heap.size, 0, none⟩) 1 1) (w.alloc (.cells (tvs z0 t0).toArray ty)) := by
  have h1 := cs_new w ty (tvs z0 t0) (tvs z0 t0) 0 (fun j v e => by rw [Nat.zero_add]; exact e)
  refine ⟨w.heap.size, rfl, fun p z t e => ?_⟩
  match p, e with
  | 0, e => cases e; exact cs4 h1
set_option maxRecDepth 100000 in
theorem num7_c {w : World} {s : Bool} {x : Option Addr} {n c : Nat} {y : Option Addr} {m d : Nat} : Calls Tryz.prog 69 #[.agg #[.bool s, .slice x n c, .slice y m d]] w fun e w' => e = .returned (.agg #[.int .i64 0, .bool s, .slice x n c, .slice y m d]) ∧ Below w.heap.size w w' := by
  go_enter Tryz.func69, Tryz.ntmps69
  go_wp2
  exact bodyPost_ret (v := .agg #[.int .i64 0, .bool s, .slice x n c, .slice y m d]) (by simp [results, Tryz.results69, go_sem]) rfl ⟨rfl, below_alloc (below_alloc (Below.refl _ _) _) _⟩
/-- The values of small. -/
def smC : List CV := [⟨⟨#[97]⟩, 1, 0, 2, 0, 1⟩, ⟨⟨#[98]⟩, 2, -1, 0, 1, 0⟩]
def smR : List RV := [⟨⟨#[114]⟩, 0, 1, 0, 2, [(0, 1), (1, 2)]⟩, ⟨⟨#[115]⟩, 0, 1, 0, 2, [(1, 3)]⟩]

set_option maxRecDepth 100000 in
set_option maxHeartbeats 8000000 in
theorem small7_c {w : World} : Calls Tryz.prog 33 #[] w fun e w' => ∃ M : Mo, e = .returned M.val ∧ Below w.heap.size w w' ∧ MoV 8 w' M 1 smC smR := by
  generalize hP : (fun (e : Ending) (w' : World) => ∃ M : Mo, e = .returned M.val ∧ Below w.heap.size w w' ∧ MoV 8 w' M 1 smC smR) = P
  have HA : Hid (∀ w' (M : Mo), Below w.heap.size w w' → MoV 8 w' M 1 smC smR → P (.returned M.val) w') := by subst hP; exact fun w' M h1 h2 => ⟨M, rfl, h1, h2⟩
  clear hP
  go_enter Tryz.func33, Tryz.ntmps33
  go_wp2_with fail
  have HB0 := hid (below_alloc (Below.refl w.heap.size w) (.cells #[.bool false, .slice none 0 0, .slice none 0 0, .slice none 0 0, .slice none 0 0] 28))
  have O0 := bk_new w [.bool false, .slice none 0 0, .slice none 0 0, .slice none 0 0, .slice none 0 0] 28
  rw [show [Value.bool false, .slice none 0 0, .slice none 0 0, .slice none 0 0, .slice none 0 0].toArray = #[Value.bool false, .slice none 0 0, .slice none 0 0, .slice none 0 0, .slice none 0 0] from rfl] at O0
  generalize w.alloc (.cells #[.bool false, .slice none 0 0, .slice none 0 0, .slice none 0 0, .slice none 0 0] 28) = w0 at *
  refine (docOfQ_c (w := w0) (z := 1) (by decide) (by decide)).mono ?_
  rintro e w1 ⟨s1, x1, n1, c1, f1, y1, m1, d1, g1, rfl, hb1, hr1⟩
  have HR1 := hid hr1; have HB1 := hid (HB0.out.trans (hb1.mono HB0.out.size)); have O1 := hid (O0.below hb1)
  clear hb1 HB0 hr1 O0
  go_wp2_with fail
  refine (docOfQ_c (w := w1) (z := 2) (by decide) (by decide)).mono ?_
  rintro e w2 ⟨s2, x2, n2, c2, f2, y2, m2, d2, g2, rfl, hb2, hr2⟩
  have HR2 := hid hr2; replace HR1 := hid (HR1.out.below hb2); have HB2 := hid (HB1.out.trans (hb2.mono HB1.out.size)); have O2 := hid (O1.out.below hb2)
  clear hb2 HB1 hr2 O1
  go_wp2_with fail
  refine (docOfQ_c (w := w2) (z := 3) (by decide) (by decide)).mono ?_
  rintro e w3 ⟨s3, x3, n3, c3, f3, y3, m3, d3, g3, rfl, hb3, hr3⟩
  have HR3 := hid hr3; replace HR1 := hid (HR1.out.below hb3); replace HR2 := hid (HR2.out.below hb3); have HB3 := hid (HB2.out.trans (hb3.mono HB2.out.size)); have O3 := hid (O2.out.below hb3)
  clear hb3 HB2 hr3 O2
  go_upto_region 2 with fail
  have e1 : ((1 : Int) : Rat) = 1 := rfl
  have e2 : ((2 : Int) : Rat) = 2 := rfl
  have e3 : ((3 : Int) : Rat) = 3 := rfl
  rw [e1] at HR1; rw [e2] at HR2; rw [e3] at HR3
  clear e1 e2 e3
  have hb4 := below_alloc (below_alloc (below_alloc (Below.refl w3.heap.size w3) (.cells #[.bool s1, .slice x1 n1 c1, .slice y1 m1 d1] 24)) (.cells #[.bool s2, .slice x2 n2 c2, .slice y2 m2 d2] 24)) (.cells #[.bool s3, .slice x3 n3 c3, .slice y3 m3 d3] 24)
  have B1 := ((bk_new w3 [.bool s1, .slice x1 n1 c1, .slice y1 m1 d1] 24).below (below_alloc (Below.refl _ _) (.cells #[.bool s2, .slice x2 n2 c2, .slice y2 m2 d2] 24))).below (below_alloc (Below.refl _ _) (.cells #[.bool s3, .slice x3 n3 c3, .slice y3 m3 d3] 24))
  have B2 := (bk_new (w3.alloc (.cells #[.bool s1, .slice x1 n1 c1, .slice y1 m1 d1] 24)) [.bool s2, .slice x2 n2 c2, .slice y2 m2 d2] 24).below (below_alloc (Below.refl _ _) (.cells #[.bool s3, .slice x3 n3 c3, .slice y3 m3 d3] 24))
  have B3 := bk_new ((w3.alloc (.cells #[.bool s1, .slice x1 n1 c1, .slice y1 m1 d1] 24)).alloc (.cells #[.bool s2, .slice x2 n2 c2, .slice y2 m2 d2] 24)) [.bool s3, .slice x3 n3 c3, .slice y3 m3 d3] 24
  simp only [size_alloc1] at B2 B3
  replace B1 : Bk (((w3.alloc (.cells #[.bool s1, .slice x1 n1 c1, .slice y1 m1 d1] 24)).alloc (.cells #[.bool s2, .slice x2 n2 c2, .slice y2 m2 d2] 24)).alloc (.cells #[.bool s3, .slice x3 n3 c3, .slice y3 m3 d3] 24)) w3.heap.size [.bool s1, .slice x1 n1 c1, .slice y1 m1 d1] 24 := B1
  replace B2 : Bk (((w3.alloc (.cells #[.bool s1, .slice x1 n1 c1, .slice y1 m1 d1] 24)).alloc (.cells #[.bool s2, .slice x2 n2 c2, .slice y2 m2 d2] 24)).alloc (.cells #[.bool s3, .slice x3 n3 c3, .slice y3 m3 d3] 24)) (w3.heap.size + 1) [.bool s2, .slice x2 n2 c2, .slice y2 m2 d2] 24 := B2
  replace B3 : Bk (((w3.alloc (.cells #[.bool s1, .slice x1 n1 c1, .slice y1 m1 d1] 24)).alloc (.cells #[.bool s2, .slice x2 n2 c2, .slice y2 m2 d2] 24)).alloc (.cells #[.bool s3, .slice x3 n3 c3, .slice y3 m3 d3] 24)) (w3.heap.size + 1 + 1) [.bool s3, .slice x3 n3 c3, .slice y3 m3 d3] 24 := B3
  have hop := O3.out.lt
  replace HR1 := hid (HR1.out.below hb4); replace HR2 := hid (HR2.out.below hb4); replace HR3 := hid (HR3.out.below hb4)
  replace O3 := hid (O3.out.below hb4)
  replace HB3 := hid (HB3.out.trans (hb4.mono HB3.out.size))
  generalize ((w3.alloc (.cells #[.bool s1, .slice x1 n1 c1, .slice y1 m1 d1] 24)).alloc (.cells #[.bool s2, .slice x2 n2 c2, .slice y2 m2 d2] 24)).alloc (.cells #[.bool s3, .slice x3 n3 c3, .slice y3 m3 d3] 24) = w4 at *
  generalize w3.heap.size = p1 at *
  clear hb4
  have hbd := Below.drew (Below.refl w4.heap.size w4)
  replace B1 := hid (B1.below hbd); replace B2 := hid (B2.below hbd); replace B3 := hid (B3.below hbd); replace O3 := hid (O3.out.below hbd)
  replace HR1 := hid (HR1.out.below hbd); replace HR2 := hid (HR2.out.below hbd); replace HR3 := hid (HR3.out.below hbd)
  replace HB3 := hid (HB3.out.trans (hbd.mono HB3.out.size))
  clear hbd
  refine wp_region_held_drew (S := (fun w' => w'.cell? ⟨p1, 0, none⟩ = some (.bool s1) ∧ w'.cell? ⟨p1, 1, none⟩ = some (.slice x1 n1 c1) ∧ w'.cell? ⟨p1, 2, none⟩ = some (.slice y1 m1 d1) ∧ w'.cell? ⟨p1 + 1, 0, none⟩ = some (.bool s2) ∧ w'.cell? ⟨p1 + 1, 1, none⟩ = some (.slice x2 n2 c2) ∧ w'.cell? ⟨p1 + 1, 2, none⟩ = some (.slice y2 m2 d2) ∧ w'.cell? ⟨p1 + 1 + 1, 0, none⟩ = some (.bool s3) ∧ w'.cell? ⟨p1 + 1 + 1, 1, none⟩ = some (.slice x3 n3 c3) ∧ w'.cell? ⟨p1 + 1 + 1, 2, none⟩ = some (.slice y3 m3 d3))) (by kernel_rfl) ?_ (fun hHeld => ?_)
  · exact ⟨B1.out.cell (j := 0) rfl, B1.out.cell (j := 1) rfl, B1.out.cell (j := 2) rfl, B2.out.cell (j := 0) rfl, B2.out.cell (j := 1) rfl, B2.out.cell (j := 2) rfl, B3.out.cell (j := 0) rfl, B3.out.cell (j := 1) rfl, B3.out.cell (j := 2) rfl⟩
  generalize hwd : w4.drew = wd at *
  clear hwd
  refine wpAnyH_take (i := 0) (v := ?_) rfl (by kernel_rfl) (by kernel_rfl) (by kernel_rfl) (fun _ _ _ h => h) (Or.inl ⟨by rfl, ?_⟩) (by assumption) ?_
  rotate_left
  (focus (intro w0 hSw; (try dsimp only at hSw); go_simp <;> with_reducible rfl))
  simp only [List.getElem_toArray, List.getElem_cons_zero, Act.put, List.setIfInBounds_toArray, List.set_cons_zero, List.set_cons_succ]
  refine wpAnyH_take (i := 1) (v := ?_) rfl (by kernel_rfl) (by kernel_rfl) (by kernel_rfl) (fun _ _ _ h => h) (Or.inl ⟨by rfl, ?_⟩) (by assumption) ?_
  rotate_left
  (focus (intro w0 hSw; (try dsimp only at hSw); go_simp <;> with_reducible rfl))
  simp only [List.getElem_toArray, List.getElem_cons_succ, List.getElem_cons_zero, Act.put, List.setIfInBounds_toArray, List.set_cons_zero, List.set_cons_succ]
  refine wpAnyH_take (i := 2) (v := ?_) rfl (by kernel_rfl) (by kernel_rfl) (by kernel_rfl) (fun _ _ _ h => h) (Or.inl ⟨by rfl, ?_⟩) (by assumption) ?_
  rotate_left
  (focus (intro w0 hSw; (try dsimp only at hSw); go_simp <;> with_reducible rfl))
  simp only [List.getElem_toArray, List.getElem_cons_succ, List.getElem_cons_zero, Act.put, List.setIfInBounds_toArray, List.set_cons_zero, List.set_cons_succ]
  refine wpAnyH_take (i := 4) (v := ?_) rfl (by kernel_rfl) (by kernel_rfl) (by kernel_rfl) (fun _ _ _ h => h) (Or.inl ⟨by rfl, ?_⟩) (by assumption) ?_
  rotate_left
  (focus (intro w0 hSw; (try dsimp only at hSw); go_simp <;> with_reducible rfl))
  simp only [List.getElem_toArray, List.getElem_cons_succ, List.getElem_cons_zero, Act.put, List.setIfInBounds_toArray, List.set_cons_zero, List.set_cons_succ]
  refine wpAnyH_take (i := 7) (v := ?_) rfl (by kernel_rfl) (by kernel_rfl) (by kernel_rfl) (fun _ _ _ h => h) (Or.inl ⟨by rfl, ?_⟩) (by assumption) ?_
  rotate_left
  (focus (intro w0 hSw; (try dsimp only at hSw); go_simp <;> with_reducible rfl))
  simp only [List.getElem_toArray, List.getElem_cons_succ, List.getElem_cons_zero, Act.put, List.setIfInBounds_toArray, List.set_cons_zero, List.set_cons_succ]
  refine wpAnyH_take (i := 14) (v := ?_) rfl (by kernel_rfl) (by kernel_rfl) (by kernel_rfl) (fun _ _ _ h => h) (Or.inl ⟨by rfl, ?_⟩) (by assumption) ?_
  rotate_left
  (focus (intro w0 hSw; (try dsimp only at hSw); go_simp <;> with_reducible rfl))
  simp only [List.getElem_toArray, List.getElem_cons_succ, List.getElem_cons_zero, Act.put, List.setIfInBounds_toArray, List.set_cons_zero, List.set_cons_succ]
  refine wpAnyH_take (i := 16) (v := ?_) rfl (by kernel_rfl) (by kernel_rfl) (by kernel_rfl) (fun _ _ _ h => h) (Or.inl ⟨by rfl, ?_⟩) (by assumption) ?_
  rotate_left
  (focus (intro w0 hSw; (try dsimp only at hSw); go_simp <;> with_reducible rfl))
  simp only [List.getElem_toArray, List.getElem_cons_succ, List.getElem_cons_zero, Act.put, List.setIfInBounds_toArray, List.set_cons_zero, List.set_cons_succ]
  refine wpAnyH_take (i := 18) (v := ?_) rfl (by kernel_rfl) (by kernel_rfl) (by kernel_rfl) (fun _ _ _ h => h) (Or.inl ⟨by rfl, ?_⟩) (by assumption) ?_
  rotate_left
  (focus (intro w0 hSw; (try dsimp only at hSw); go_simp <;> with_reducible rfl))
  simp only [List.getElem_toArray, List.getElem_cons_succ, List.getElem_cons_zero, Act.put, List.setIfInBounds_toArray, List.set_cons_zero, List.set_cons_succ]
  refine wpAnyH_take (i := 20) (v := ?_) rfl (by kernel_rfl) (by kernel_rfl) (by kernel_rfl) (fun _ _ _ h => h) (Or.inl ⟨by rfl, ?_⟩) (by assumption) ?_
  rotate_left
  (focus (intro w0 hSw; (try dsimp only at hSw); go_simp <;> with_reducible rfl))
  simp only [List.getElem_toArray, List.getElem_cons_succ, List.getElem_cons_zero, Act.put, List.setIfInBounds_toArray, List.set_cons_zero, List.set_cons_succ]
  refine wpAnyH_take (i := 24) (v := ?_) rfl (by kernel_rfl) (by kernel_rfl) (by kernel_rfl) (fun _ _ _ h => h) (Or.inl ⟨by rfl, ?_⟩) (by assumption) ?_
  rotate_left
  (focus (intro w0 hSw; (try dsimp only at hSw); go_simp <;> with_reducible rfl))
  simp only [List.getElem_toArray, List.getElem_cons_succ, List.getElem_cons_zero, Act.put, List.setIfInBounds_toArray, List.set_cons_zero, List.set_cons_succ]
  refine wpAnyH_take (i := 26) (v := ?_) rfl (by kernel_rfl) (by kernel_rfl) (by kernel_rfl) (fun _ _ _ h => h) (Or.inl ⟨by rfl, ?_⟩) (by assumption) ?_
  rotate_left
  (focus (intro w0 hSw; (try dsimp only at hSw); go_simp <;> with_reducible rfl))
  simp only [List.getElem_toArray, List.getElem_cons_succ, List.getElem_cons_zero, Act.put, List.setIfInBounds_toArray, List.set_cons_zero, List.set_cons_succ]
  refine wpAnyH_take (i := 28) (v := ?_) rfl (by kernel_rfl) (by kernel_rfl) (by kernel_rfl) (fun _ _ _ h => h) (Or.inl ⟨by rfl, ?_⟩) (by assumption) ?_
  rotate_left
  (focus (intro w0 hSw; (try dsimp only at hSw); go_simp <;> with_reducible rfl))
  simp only [List.getElem_toArray, List.getElem_cons_succ, List.getElem_cons_zero, Act.put, List.setIfInBounds_toArray, List.set_cons_zero, List.set_cons_succ]
  refine wpAnyH_take (i := 19) (v := ?_) rfl (by kernel_rfl) (by kernel_rfl) (by kernel_rfl) (fun _ _ _ h => h) (Or.inl ⟨by rfl, ?_⟩) (by assumption) ?_
  rotate_left
  (focus (intro w0 hSw; (try dsimp only at hSw); go_simp <;> with_reducible rfl))
  simp only [List.getElem_toArray, List.getElem_cons_succ, List.getElem_cons_zero, Act.put, List.setIfInBounds_toArray, List.set_cons_zero, List.set_cons_succ]
  refine wpAnyH_take (i := 21) (v := ?_) rfl (by kernel_rfl) (by kernel_rfl) (by kernel_rfl) (fun _ _ _ h => h) (Or.inl ⟨by rfl, ?_⟩) (by assumption) ?_
  rotate_left
  (focus (intro w0 hSw; (try dsimp only at hSw); go_simp <;> with_reducible rfl))
  simp only [List.getElem_toArray, List.getElem_cons_succ, List.getElem_cons_zero, Act.put, List.setIfInBounds_toArray, List.set_cons_zero, List.set_cons_succ]
  refine wpAnyH_take (i := 29) (v := ?_) rfl (by kernel_rfl) (by kernel_rfl) (by kernel_rfl) (fun _ _ _ h => h) (Or.inl ⟨by rfl, ?_⟩) (by assumption) ?_
  rotate_left
  (focus (intro w0 hSw; (try dsimp only at hSw); go_simp <;> with_reducible rfl))
  simp only [List.getElem_toArray, List.getElem_cons_succ, List.getElem_cons_zero, Act.put, List.setIfInBounds_toArray, List.set_cons_zero, List.set_cons_succ]
  refine (show wpAnyH _ _ _ _ _ (19 + 1) _ _ _ from wpAnyH_flow (fun j v w => match j with | 3 => GX 8 0 2 v w | 5 => GX 8 0 1 v w | 6 => GC 8 ⟨⟨#[97]⟩, 1, 0, 2, 0, 1⟩ v w | 8 => GF (-1) v w | 9 => GX 8 (-1) 0 v w | 10 => GF 1 v w | 11 => GX 8 1 0 v w | 12 => GC 8 ⟨⟨#[98]⟩, 2, -1, 0, 1, 0⟩ v w | 13 => GCs 8 ⟨⟨#[97]⟩, 1, 0, 2, 0, 1⟩ ⟨⟨#[98]⟩, 2, -1, 0, 1, 0⟩ v w | 15 => GX 8 0 1 v w | 17 => GX 8 0 2 v w | 22 => GT [(0, ⟨s1, x1, n1, c1, f1, y1, m1, d1, g1⟩), (1, ⟨s2, x2, n2, c2, f2, y2, m2, d2, g2⟩)] v w | 23 => GR 8 ⟨⟨#[114]⟩, 0, 1, 0, 2, [(0, 1), (1, 2)]⟩ v w | 25 => GX 8 0 1 v w | 27 => GX 8 0 2 v w | 30 => GT [(1, ⟨s3, x3, n3, c3, f3, y3, m3, d3, g3⟩)] v w | 31 => GR 8 ⟨⟨#[115]⟩, 0, 1, 0, 2, [(1, 3)]⟩ v w | 32 => GRs 8 ⟨⟨#[114]⟩, 0, 1, 0, 2, [(0, 1), (1, 2)]⟩ ⟨⟨#[115]⟩, 0, 1, 0, 2, [(1, 3)]⟩ v w | 33 => GM 8 1 smC smR v w | _ => True) [(3, 10), (5, 12), (6, 13), (8, 15), (9, 16), (10, 17), (11, 18), (12, 19), (13, 20), (15, 22), (17, 24), (22, 29), (23, 30), (25, 32), (27, 34), (30, 37), (31, 38), (32, 39), (33, 40)] [3, 5, 6, 8, 9, 10, 11, 12, 13, 15, 17, 22, 23, 25, 27, 30, 31, 32, 33] [34] _ _ _ 1 ?k1 ?k4 ?k2 ?k3 ?k5 ?k6 ?k8)
  case k1 => kernel_rfl
  case k2 => exact fun w w' h hb => ⟨kCb hb h.1, kCb hb h.2.1, kCb hb h.2.2.1, kCb hb h.2.2.2.1, kCb hb h.2.2.2.2.1, kCb hb h.2.2.2.2.2.1, kCb hb h.2.2.2.2.2.2.1, kCb hb h.2.2.2.2.2.2.2.1, kCb hb h.2.2.2.2.2.2.2.2⟩
  case k3 =>
    intro j v w w' h hb
    split at h <;> first | exact GX.below h hb | exact GF.below h hb | exact GC.below h hb | exact GCs.below h hb | exact GT.below h hb | exact GR.below h hb | exact GRs.below h hb | exact GM.below h hb | trivial
  case k4 => kernel_rfl
  case k8 => exact hHeld
  case k5 =>
    intro i hi
    simp only [List.mem_cons, List.not_mem_nil, or_false] at hi
    rcases hi with rfl | rfl | rfl | rfl | rfl | rfl | rfl | rfl | rfl | rfl | rfl | rfl | rfl | rfl | rfl | rfl | rfl | rfl | rfl
    · refine ⟨_, rfl, fun u w5 hS hb5 hd K hK => ?_⟩
      simp only [fill, List.foldl_cons, List.foldl_nil, Act.put, List.setIfInBounds_toArray, List.set_cons_zero, List.set_cons_succ] at hK ⊢
      go_simp
      go_at_call 69
      refine num7_c.mono ?_
      rintro e w6 ⟨rfl, hb6⟩
      (try go_wp2_with fail)
      exact hK.out _ _ hb6 ⟨⟨0, ⟨s2, x2, n2, c2, f2, y2, m2, d2, g2⟩⟩, rfl, rfl, ((HR2.out.mono (by decide)).below hb5).below hb6⟩
    · refine ⟨_, rfl, fun u w5 hS hb5 hd K hK => ?_⟩
      simp only [fill, List.foldl_cons, List.foldl_nil, Act.put, List.setIfInBounds_toArray, List.set_cons_zero, List.set_cons_succ] at hK ⊢
      go_simp
      go_at_call 69
      refine num7_c.mono ?_
      rintro e w6 ⟨rfl, hb6⟩
      (try go_wp2_with fail)
      exact hK.out _ _ hb6 ⟨⟨0, ⟨s1, x1, n1, c1, f1, y1, m1, d1, g1⟩⟩, rfl, rfl, ((HR1.out.mono (by decide)).below hb5).below hb6⟩
    · refine ⟨_, rfl, fun u w5 hS hb5 hd K hK => ?_⟩
      have h3 : GX 8 0 2 (u 3) w5 := hd 3 (by kernel_rfl) (by kernel_rfl)
      obtain ⟨⟨i3, ⟨sa3, xa3, na3, ca3, fa3, ya3, ma3, da3, ga3⟩⟩, e3, hi3, v3⟩ := h3
      replace e3 : u 3 = .agg #[.int .i64 i3, .bool sa3, .slice xa3 na3 ca3, .slice ya3 ma3 da3] := e3
      have h5 : GX 8 0 1 (u 5) w5 := hd 5 (by kernel_rfl) (by kernel_rfl)
      obtain ⟨⟨i5, ⟨sa5, xa5, na5, ca5, fa5, ya5, ma5, da5, ga5⟩⟩, e5, hi5, v5⟩ := h5
      replace e5 : u 5 = .agg #[.int .i64 i5, .bool sa5, .slice xa5 na5 ca5, .slice ya5 ma5 da5] := e5
      simp only [fill, List.foldl_cons, List.foldl_nil, Act.put, List.setIfInBounds_toArray, List.set_cons_zero, List.set_cons_succ] at hK ⊢
      simp only [e3, e5] at hK ⊢
      go_simp
      exact hK.out _ _ (Below.refl _ _) ⟨⟨⟨#[97]⟩, ⟨s1, x1, n1, c1, f1, y1, m1, d1, g1⟩, ⟨i3, ⟨sa3, xa3, na3, ca3, fa3, ya3, ma3, da3, ga3⟩⟩, ⟨i5, ⟨sa5, xa5, na5, ca5, fa5, ya5, ma5, da5, ga5⟩⟩⟩, rfl, rfl, ((HR1.out.mono (by decide)).below hb5), hi3, v3, hi5, v5⟩
    · refine ⟨_, rfl, fun u w5 hS hb5 hd K hK => ?_⟩
      simp only [fill, List.foldl_cons, List.foldl_nil, Act.put, List.setIfInBounds_toArray, List.set_cons_zero, List.set_cons_succ] at hK ⊢
      go_simp
      go_at_call 71
      refine xLow_c.mono ?_
      rintro e w6 ⟨s6, x6, n6, c6, d6, y6, m6, e6, g6, rfl, hb6, hF⟩
      (try go_wp2_with fail)
      exact hK.out _ _ hb6 ⟨s6, x6, n6, c6, d6, y6, m6, e6, g6, rfl, hF.out⟩
    · refine ⟨_, rfl, fun u w5 hS hb5 hd K hK => ?_⟩
      have h8 : GF (-1) (u 8) w5 := hd 8 (by kernel_rfl) (by kernel_rfl)
      obtain ⟨s6, x6, n6, c6, d6, y6, m6, e6, g6, e8, l1, l2, hF⟩ := h8
      simp only [fill, List.foldl_cons, List.foldl_nil, Act.put, List.setIfInBounds_toArray, List.set_cons_zero, List.set_cons_succ] at hK ⊢
      simp only [e8] at hK ⊢
      go_simp
      go_at_call 70
      refine (xTo_c hF (by omega) (by omega)).mono ?_
      rintro e w6 ⟨z7, k7, c7, f7, y7, k8, c8, f8, rfl, hb6, hE⟩
      (try go_wp2_with fail)
      exact hK.out _ _ hb6 ⟨⟨-1, ⟨s6, z7, k7, c7, f7, y7, k8, c8, f8⟩⟩, rfl, rfl, hE.out.rn.mono (by omega)⟩
    · refine ⟨_, rfl, fun u w5 hS hb5 hd K hK => ?_⟩
      simp only [fill, List.foldl_cons, List.foldl_nil, Act.put, List.setIfInBounds_toArray, List.set_cons_zero, List.set_cons_succ] at hK ⊢
      go_simp
      go_at_call 72
      refine xHigh_c.mono ?_
      rintro e w6 ⟨s6, x6, n6, c6, d6, y6, m6, e6, g6, rfl, hb6, hF⟩
      (try go_wp2_with fail)
      exact hK.out _ _ hb6 ⟨s6, x6, n6, c6, d6, y6, m6, e6, g6, rfl, hF.out⟩
    · refine ⟨_, rfl, fun u w5 hS hb5 hd K hK => ?_⟩
      have h8 : GF 1 (u 10) w5 := hd 10 (by kernel_rfl) (by kernel_rfl)
      obtain ⟨s6, x6, n6, c6, d6, y6, m6, e6, g6, e8, l1, l2, hF⟩ := h8
      simp only [fill, List.foldl_cons, List.foldl_nil, Act.put, List.setIfInBounds_toArray, List.set_cons_zero, List.set_cons_succ] at hK ⊢
      simp only [e8] at hK ⊢
      go_simp
      go_at_call 70
      refine (xTo_c hF (by omega) (by omega)).mono ?_
      rintro e w6 ⟨z7, k7, c7, f7, y7, k8, c8, f8, rfl, hb6, hE⟩
      (try go_wp2_with fail)
      exact hK.out _ _ hb6 ⟨⟨1, ⟨s6, z7, k7, c7, f7, y7, k8, c8, f8⟩⟩, rfl, rfl, hE.out.rn.mono (by omega)⟩
    · refine ⟨_, rfl, fun u w5 hS hb5 hd K hK => ?_⟩
      have h9 : GX 8 (-1) 0 (u 9) w5 := hd 9 (by kernel_rfl) (by kernel_rfl)
      obtain ⟨⟨i9, ⟨sa9, xa9, na9, ca9, fa9, ya9, ma9, da9, ga9⟩⟩, e9, hi9, v9⟩ := h9
      replace e9 : u 9 = .agg #[.int .i64 i9, .bool sa9, .slice xa9 na9 ca9, .slice ya9 ma9 da9] := e9
      have h11 : GX 8 1 0 (u 11) w5 := hd 11 (by kernel_rfl) (by kernel_rfl)
      obtain ⟨⟨i11, ⟨sa11, xa11, na11, ca11, fa11, ya11, ma11, da11, ga11⟩⟩, e11, hi11, v11⟩ := h11
      replace e11 : u 11 = .agg #[.int .i64 i11, .bool sa11, .slice xa11 na11 ca11, .slice ya11 ma11 da11] := e11
      simp only [fill, List.foldl_cons, List.foldl_nil, Act.put, List.setIfInBounds_toArray, List.set_cons_zero, List.set_cons_succ] at hK ⊢
      simp only [e9, e11] at hK ⊢
      go_simp
      exact hK.out _ _ (Below.refl _ _) ⟨⟨⟨#[98]⟩, ⟨s2, x2, n2, c2, f2, y2, m2, d2, g2⟩, ⟨i9, ⟨sa9, xa9, na9, ca9, fa9, ya9, ma9, da9, ga9⟩⟩, ⟨i11, ⟨sa11, xa11, na11, ca11, fa11, ya11, ma11, da11, ga11⟩⟩⟩, rfl, rfl, ((HR2.out.mono (by decide)).below hb5), hi9, v9, hi11, v11⟩
    · refine ⟨_, rfl, fun u w5 hS hb5 hd K hK => ?_⟩
      have h6 : GC 8 ⟨⟨#[97]⟩, 1, 0, 2, 0, 1⟩ (u 6) w5 := hd 6 (by kernel_rfl) (by kernel_rfl)
      obtain ⟨⟨z6, ⟨sb6, xb6, nb6, cb6, fb6, yb6, mb6, db6, gb6⟩, ⟨ic6, ⟨sc6, xc6, nc6, cc6, fc6, yc6, mc6, dc6, gc6⟩⟩, ⟨id6, ⟨sd6, xd6, nd6, cd6, fd6, yd6, md6, dd6, gd6⟩⟩⟩, e6, v6⟩ := h6
      replace e6 : u 6 = .agg #[.string z6, .bool sb6, .slice xb6 nb6 cb6, .slice yb6 mb6 db6, .int .i64 ic6, .bool sc6, .slice xc6 nc6 cc6, .slice yc6 mc6 dc6, .int .i64 id6, .bool sd6, .slice xd6 nd6 cd6, .slice yd6 md6 dd6] := e6
      have h12 : GC 8 ⟨⟨#[98]⟩, 2, -1, 0, 1, 0⟩ (u 12) w5 := hd 12 (by kernel_rfl) (by kernel_rfl)
      obtain ⟨⟨z12, ⟨sb12, xb12, nb12, cb12, fb12, yb12, mb12, db12, gb12⟩, ⟨ic12, ⟨sc12, xc12, nc12, cc12, fc12, yc12, mc12, dc12, gc12⟩⟩, ⟨id12, ⟨sd12, xd12, nd12, cd12, fd12, yd12, md12, dd12, gd12⟩⟩⟩, e12, v12⟩ := h12
      replace e12 : u 12 = .agg #[.string z12, .bool sb12, .slice xb12 nb12 cb12, .slice yb12 mb12 db12, .int .i64 ic12, .bool sc12, .slice xc12 nc12 cc12, .slice yc12 mc12 dc12, .int .i64 id12, .bool sd12, .slice xd12 nd12 cd12, .slice yd12 md12 dd12] := e12
      simp only [fill, List.foldl_cons, List.foldl_nil, Act.put, List.setIfInBounds_toArray, List.set_cons_zero, List.set_cons_succ] at hK ⊢
      simp only [e6, e12] at hK ⊢
      go_simp
      have hn := below_alloc (Below.refl w5.heap.size w5) (.cells (([.string z6, .bool sb6, .slice xb6 nb6 cb6, .slice yb6 mb6 db6, .int .i64 ic6, .bool sc6, .slice xc6 nc6 cc6, .slice yc6 mc6 dc6, .int .i64 id6, .bool sd6, .slice xd6 nd6 cd6, .slice yd6 md6 dd6] : List Value) ++ ([.string z12, .bool sb12, .slice xb12 nb12 cb12, .slice yb12 mb12 db12, .int .i64 ic12, .bool sc12, .slice xc12 nc12 cc12, .slice yc12 mc12 dc12, .int .i64 id12, .bool sd12, .slice xd12 nd12 cd12, .slice yd12 md12 dd12] : List Value)).toArray 77)
      have hx := cs_app w5 77 [.string z6, .bool sb6, .slice xb6 nb6 cb6, .slice yb6 mb6 db6, .int .i64 ic6, .bool sc6, .slice xc6 nc6 cc6, .slice yc6 mc6 dc6, .int .i64 id6, .bool sd6, .slice xd6 nd6 cd6, .slice yd6 md6 dd6] [.string z12, .bool sb12, .slice xb12 nb12 cb12, .slice yb12 mb12 db12, .int .i64 ic12, .bool sc12, .slice xc12 nc12 cc12, .slice yc12 mc12 dc12, .int .i64 id12, .bool sd12, .slice xd12 nd12 cd12, .slice yd12 md12 dd12]
      exact hK.out _ _ hn ⟨w5.heap.size, ⟨z6, ⟨sb6, xb6, nb6, cb6, fb6, yb6, mb6, db6, gb6⟩, ⟨ic6, ⟨sc6, xc6, nc6, cc6, fc6, yc6, mc6, dc6, gc6⟩⟩, ⟨id6, ⟨sd6, xd6, nd6, cd6, fd6, yd6, md6, dd6, gd6⟩⟩⟩, ⟨z12, ⟨sb12, xb12, nb12, cb12, fb12, yb12, mb12, db12, gb12⟩, ⟨ic12, ⟨sc12, xc12, nc12, cc12, fc12, yc12, mc12, dc12, gc12⟩⟩, ⟨id12, ⟨sd12, xd12, nd12, cd12, fd12, yd12, md12, dd12, gd12⟩⟩⟩, rfl, hx.1, hx.2, v6.below hn, v12.below hn⟩
    · refine ⟨_, rfl, fun u w5 hS hb5 hd K hK => ?_⟩
      simp only [fill, List.foldl_cons, List.foldl_nil, Act.put, List.setIfInBounds_toArray, List.set_cons_zero, List.set_cons_succ] at hK ⊢
      go_simp
      go_at_call 69
      refine num7_c.mono ?_
      rintro e w6 ⟨rfl, hb6⟩
      (try go_wp2_with fail)
      exact hK.out _ _ hb6 ⟨⟨0, ⟨s1, x1, n1, c1, f1, y1, m1, d1, g1⟩⟩, rfl, rfl, ((HR1.out.mono (by decide)).below hb5).below hb6⟩
    · refine ⟨_, rfl, fun u w5 hS hb5 hd K hK => ?_⟩
      simp only [fill, List.foldl_cons, List.foldl_nil, Act.put, List.setIfInBounds_toArray, List.set_cons_zero, List.set_cons_succ] at hK ⊢
      go_simp
      go_at_call 69
      refine num7_c.mono ?_
      rintro e w6 ⟨rfl, hb6⟩
      (try go_wp2_with fail)
      exact hK.out _ _ hb6 ⟨⟨0, ⟨s2, x2, n2, c2, f2, y2, m2, d2, g2⟩⟩, rfl, rfl, ((HR2.out.mono (by decide)).below hb5).below hb6⟩
    · refine ⟨_, rfl, fun u w5 hS hb5 hd K hK => ?_⟩
      simp only [fill, List.foldl_cons, List.foldl_nil, Act.put, List.setIfInBounds_toArray, List.set_cons_zero, List.set_cons_succ] at hK ⊢
      go_simp
      exact hK.out _ _ (below_alloc (Below.refl _ _) _) (gt_new2 w5 62 0 1 ⟨s1, x1, n1, c1, f1, y1, m1, d1, g1⟩ ⟨s2, x2, n2, c2, f2, y2, m2, d2, g2⟩)
    · refine ⟨_, rfl, fun u w5 hS hb5 hd K hK => ?_⟩
      have h15 : GX 8 0 1 (u 15) w5 := hd 15 (by kernel_rfl) (by kernel_rfl)
      obtain ⟨⟨i15, ⟨sa15, xa15, na15, ca15, fa15, ya15, ma15, da15, ga15⟩⟩, e15, hi15, v15⟩ := h15
      replace e15 : u 15 = .agg #[.int .i64 i15, .bool sa15, .slice xa15 na15 ca15, .slice ya15 ma15 da15] := e15
      have h17 : GX 8 0 2 (u 17) w5 := hd 17 (by kernel_rfl) (by kernel_rfl)
      obtain ⟨⟨i17, ⟨sa17, xa17, na17, ca17, fa17, ya17, ma17, da17, ga17⟩⟩, e17, hi17, v17⟩ := h17
      replace e17 : u 17 = .agg #[.int .i64 i17, .bool sa17, .slice xa17 na17 ca17, .slice ya17 ma17 da17] := e17
      have h22 : GT [(0, ⟨s1, x1, n1, c1, f1, y1, m1, d1, g1⟩), (1, ⟨s2, x2, n2, c2, f2, y2, m2, d2, g2⟩)] (u 22) w5 := hd 22 (by kernel_rfl) (by kernel_rfl)
      obtain ⟨bt, et, ht⟩ := h22
      replace et : u 22 = .slice (some ⟨bt, 0, none⟩) 2 2 := et
      simp only [fill, List.foldl_cons, List.foldl_nil, Act.put, List.setIfInBounds_toArray, List.set_cons_zero, List.set_cons_succ] at hK ⊢
      simp only [e15, e17, et] at hK ⊢
      go_simp
      have hR : RowV 8 w5 ⟨⟨#[114]⟩, ⟨i15, ⟨sa15, xa15, na15, ca15, fa15, ya15, ma15, da15, ga15⟩⟩, ⟨i17, ⟨sa17, xa17, na17, ca17, fa17, ya17, ma17, da17, ga17⟩⟩, some ⟨bt, 0, none⟩, 2, 2, (fun p => if p = 0 then 0 else 1), (fun p => if p = 0 then ⟨s1, x1, n1, c1, f1, y1, m1, d1, g1⟩ else ⟨s2, x2, n2, c2, f2, y2, m2, d2, g2⟩)⟩ ⟨⟨#[114]⟩, 0, 1, 0, 2, [(0, 1), (1, 2)]⟩ := by
        refine ⟨rfl, hi15, v15, hi17, v17, rfl, fun p z q e => ?_⟩
        match p, e with
        | 0, e => cases e; exact ⟨rfl, ((HR1.out.mono (by decide)).below hb5), bt, 0, rfl, ht 0 _ _ rfl⟩
        | 1, e => cases e; exact ⟨rfl, ((HR2.out.mono (by decide)).below hb5), bt, 0, rfl, ht 1 _ _ rfl⟩
      exact hK.out _ _ (Below.refl _ _) ⟨_, rfl, hR⟩
    · refine ⟨_, rfl, fun u w5 hS hb5 hd K hK => ?_⟩
      simp only [fill, List.foldl_cons, List.foldl_nil, Act.put, List.setIfInBounds_toArray, List.set_cons_zero, List.set_cons_succ] at hK ⊢
      go_simp
      go_at_call 69
      refine num7_c.mono ?_
      rintro e w6 ⟨rfl, hb6⟩
      (try go_wp2_with fail)
      exact hK.out _ _ hb6 ⟨⟨0, ⟨s1, x1, n1, c1, f1, y1, m1, d1, g1⟩⟩, rfl, rfl, ((HR1.out.mono (by decide)).below hb5).below hb6⟩
    · refine ⟨_, rfl, fun u w5 hS hb5 hd K hK => ?_⟩
      simp only [fill, List.foldl_cons, List.foldl_nil, Act.put, List.setIfInBounds_toArray, List.set_cons_zero, List.set_cons_succ] at hK ⊢
      go_simp
      go_at_call 69
      refine num7_c.mono ?_
      rintro e w6 ⟨rfl, hb6⟩
      (try go_wp2_with fail)
      exact hK.out _ _ hb6 ⟨⟨0, ⟨s2, x2, n2, c2, f2, y2, m2, d2, g2⟩⟩, rfl, rfl, ((HR2.out.mono (by decide)).below hb5).below hb6⟩
    · refine ⟨_, rfl, fun u w5 hS hb5 hd K hK => ?_⟩
      simp only [fill, List.foldl_cons, List.foldl_nil, Act.put, List.setIfInBounds_toArray, List.set_cons_zero, List.set_cons_succ] at hK ⊢
      go_simp
      exact hK.out _ _ (below_alloc (Below.refl _ _) _) (gt_new1 w5 62 1 ⟨s3, x3, n3, c3, f3, y3, m3, d3, g3⟩)
    · refine ⟨_, rfl, fun u w5 hS hb5 hd K hK => ?_⟩
      have h25 : GX 8 0 1 (u 25) w5 := hd 25 (by kernel_rfl) (by kernel_rfl)
      obtain ⟨⟨i25, ⟨sa25, xa25, na25, ca25, fa25, ya25, ma25, da25, ga25⟩⟩, e25, hi25, v25⟩ := h25
      replace e25 : u 25 = .agg #[.int .i64 i25, .bool sa25, .slice xa25 na25 ca25, .slice ya25 ma25 da25] := e25
      have h27 : GX 8 0 2 (u 27) w5 := hd 27 (by kernel_rfl) (by kernel_rfl)
      obtain ⟨⟨i27, ⟨sa27, xa27, na27, ca27, fa27, ya27, ma27, da27, ga27⟩⟩, e27, hi27, v27⟩ := h27
      replace e27 : u 27 = .agg #[.int .i64 i27, .bool sa27, .slice xa27 na27 ca27, .slice ya27 ma27 da27] := e27
      have h30 : GT [(1, ⟨s3, x3, n3, c3, f3, y3, m3, d3, g3⟩)] (u 30) w5 := hd 30 (by kernel_rfl) (by kernel_rfl)
      obtain ⟨bt, et, ht⟩ := h30
      replace et : u 30 = .slice (some ⟨bt, 0, none⟩) 1 1 := et
      simp only [fill, List.foldl_cons, List.foldl_nil, Act.put, List.setIfInBounds_toArray, List.set_cons_zero, List.set_cons_succ] at hK ⊢
      simp only [e25, e27, et] at hK ⊢
      go_simp
      have hR : RowV 8 w5 ⟨⟨#[115]⟩, ⟨i25, ⟨sa25, xa25, na25, ca25, fa25, ya25, ma25, da25, ga25⟩⟩, ⟨i27, ⟨sa27, xa27, na27, ca27, fa27, ya27, ma27, da27, ga27⟩⟩, some ⟨bt, 0, none⟩, 1, 1, (fun _ => 1), (fun _ => ⟨s3, x3, n3, c3, f3, y3, m3, d3, g3⟩)⟩ ⟨⟨#[115]⟩, 0, 1, 0, 2, [(1, 3)]⟩ := by
        refine ⟨rfl, hi25, v25, hi27, v27, rfl, fun p z q e => ?_⟩
        match p, e with
        | 0, e => cases e; exact ⟨rfl, ((HR3.out.mono (by decide)).below hb5), bt, 0, rfl, ht 0 _ _ rfl⟩
      exact hK.out _ _ (Below.refl _ _) ⟨_, rfl, hR⟩
    · refine ⟨_, rfl, fun u w5 hS hb5 hd K hK => ?_⟩
      have h23 : GR 8 ⟨⟨#[114]⟩, 0, 1, 0, 2, [(0, 1), (1, 2)]⟩ (u 23) w5 := hd 23 (by kernel_rfl) (by kernel_rfl)
      obtain ⟨⟨z23, ⟨ic23, ⟨sc23, xc23, nc23, cc23, fc23, yc23, mc23, dc23, gc23⟩⟩, ⟨id23, ⟨sd23, xd23, nd23, cd23, fd23, yd23, md23, dd23, gd23⟩⟩, ta23, tk23, tc23, tcol23, tt23⟩, e23, v23⟩ := h23
      replace e23 : u 23 = .agg #[.string z23, .int .i64 ic23, .bool sc23, .slice xc23 nc23 cc23, .slice yc23 mc23 dc23, .int .i64 id23, .bool sd23, .slice xd23 nd23 cd23, .slice yd23 md23 dd23, .slice ta23 tk23 tc23] := e23
      have h31 : GR 8 ⟨⟨#[115]⟩, 0, 1, 0, 2, [(1, 3)]⟩ (u 31) w5 := hd 31 (by kernel_rfl) (by kernel_rfl)
      obtain ⟨⟨z31, ⟨ic31, ⟨sc31, xc31, nc31, cc31, fc31, yc31, mc31, dc31, gc31⟩⟩, ⟨id31, ⟨sd31, xd31, nd31, cd31, fd31, yd31, md31, dd31, gd31⟩⟩, ta31, tk31, tc31, tcol31, tt31⟩, e31, v31⟩ := h31
      replace e31 : u 31 = .agg #[.string z31, .int .i64 ic31, .bool sc31, .slice xc31 nc31 cc31, .slice yc31 mc31 dc31, .int .i64 id31, .bool sd31, .slice xd31 nd31 cd31, .slice yd31 md31 dd31, .slice ta31 tk31 tc31] := e31
      simp only [fill, List.foldl_cons, List.foldl_nil, Act.put, List.setIfInBounds_toArray, List.set_cons_zero, List.set_cons_succ] at hK ⊢
      simp only [e23, e31] at hK ⊢
      go_simp
      have hn := below_alloc (Below.refl w5.heap.size w5) (.cells (([.string z23, .int .i64 ic23, .bool sc23, .slice xc23 nc23 cc23, .slice yc23 mc23 dc23, .int .i64 id23, .bool sd23, .slice xd23 nd23 cd23, .slice yd23 md23 dd23, .slice ta23 tk23 tc23] : List Value) ++ ([.string z31, .int .i64 ic31, .bool sc31, .slice xc31 nc31 cc31, .slice yc31 mc31 dc31, .int .i64 id31, .bool sd31, .slice xd31 nd31 cd31, .slice yd31 md31 dd31, .slice ta31 tk31 tc31] : List Value)).toArray 75)
      have hx := cs_app w5 75 [.string z23, .int .i64 ic23, .bool sc23, .slice xc23 nc23 cc23, .slice yc23 mc23 dc23, .int .i64 id23, .bool sd23, .slice xd23 nd23 cd23, .slice yd23 md23 dd23, .slice ta23 tk23 tc23] [.string z31, .int .i64 ic31, .bool sc31, .slice xc31 nc31 cc31, .slice yc31 mc31 dc31, .int .i64 id31, .bool sd31, .slice xd31 nd31 cd31, .slice yd31 md31 dd31, .slice ta31 tk31 tc31]
      exact hK.out _ _ hn ⟨w5.heap.size, ⟨z23, ⟨ic23, ⟨sc23, xc23, nc23, cc23, fc23, yc23, mc23, dc23, gc23⟩⟩, ⟨id23, ⟨sd23, xd23, nd23, cd23, fd23, yd23, md23, dd23, gd23⟩⟩, ta23, tk23, tc23, tcol23, tt23⟩, ⟨z31, ⟨ic31, ⟨sc31, xc31, nc31, cc31, fc31, yc31, mc31, dc31, gc31⟩⟩, ⟨id31, ⟨sd31, xd31, nd31, cd31, fd31, yd31, md31, dd31, gd31⟩⟩, ta31, tk31, tc31, tcol31, tt31⟩, rfl, hx.1, hx.2, v23.below hn, v31.below hn⟩
    · refine ⟨_, rfl, fun u w5 hS hb5 hd K hK => ?_⟩
      have h13 : GCs 8 ⟨⟨#[97]⟩, 1, 0, 2, 0, 1⟩ ⟨⟨#[98]⟩, 2, -1, 0, 1, 0⟩ (u 13) w5 := hd 13 (by kernel_rfl) (by kernel_rfl)
      obtain ⟨b13, l0, l1, e13, q0, q1, k0, k1⟩ := h13
      have h32 : GRs 8 ⟨⟨#[114]⟩, 0, 1, 0, 2, [(0, 1), (1, 2)]⟩ ⟨⟨#[115]⟩, 0, 1, 0, 2, [(1, 3)]⟩ (u 32) w5 := hd 32 (by kernel_rfl) (by kernel_rfl)
      obtain ⟨b32, r0, r1, e32, q2, q3, k2, k3⟩ := h32
      simp only [fill, List.foldl_cons, List.foldl_nil, Act.put, List.setIfInBounds_toArray, List.set_cons_zero, List.set_cons_succ] at hK ⊢
      simp only [e13, e32] at hK ⊢
      go_simp
      have hM : MoV 8 w5 ⟨⟨s1, x1, n1, c1, f1, y1, m1, d1, g1⟩, some ⟨b13, 0, none⟩, 2, 2, (fun j => if j = 0 then l0 else l1), some ⟨b32, 0, none⟩, 2, 2, (fun j => if j = 0 then r0 else r1)⟩ 1 smC smR := by
        refine ⟨((HR1.out.mono (by decide)).below hb5), rfl, rfl, fun j v e => ?_, fun j v e => ?_⟩
        · match j, e with
          | 0, e => cases e; exact ⟨⟨b13, 0, rfl, q0⟩, k0⟩
          | 1, e => cases e; exact ⟨⟨b13, 0, rfl, q1⟩, k1⟩
        · match j, e with
          | 0, e => cases e; exact ⟨⟨b32, 0, rfl, q2⟩, k2⟩
          | 1, e => cases e; exact ⟨⟨b32, 0, rfl, q3⟩, k3⟩
      exact hK.out _ _ (Below.refl _ _) ⟨_, rfl, hM⟩
  case k6 =>
    intro u w5 hS5 hb5 hg
    have h33 : GM 8 1 smC smR (u 33) w5 := hg 33 (by simp)
    obtain ⟨⟨⟨sm, xm, nm, cm, fm, ym, mm, dm, gm⟩, ca, ck, cc, C, ra, rk, rc, R⟩, e33, hM⟩ := h33
    replace e33 : u 33 = .agg #[.bool sm, .slice xm nm cm, .slice ym mm dm, .slice ca ck cc, .slice ra rk rc] := e33
    have HM := hid hM
    have O5 := O3.out.below hb5
    have o0 := O5.cell (j := 0) rfl
    have o1 := O5.cell (j := 1) rfl
    have o2 := O5.cell (j := 2) rfl
    have o3 := O5.cell (j := 3) rfl
    have o4 := O5.cell (j := 4) rfl
    have of := O5.frozen
    have HO5 := hid O5
    have HB5 := hid (HB3.out.trans (hb5.mono HB3.out.size))
    obtain ⟨t0, t1, t2, t3, t4, t5, t6, t7, t8⟩ := id hS5
    clear hg hM O5
    simp only [fill, List.foldl_cons, List.foldl_nil, Act.put, List.setIfInBounds_toArray, List.set_cons_zero, List.set_cons_succ]
    simp only [e33]
    refine wpAnyH_ready (rs := [34]) (by kernel_rfl) (by simp) ?_
    refine AllReadyH.cons (o := _) rfl (fun K hK => ?_) ?_
    rotate_left
    exact AllReadyH.nil
    go_simp
    refine hK.out _ _ ?_ (fun hH9 => ?_)
    · ((try dsimp only); (refine ⟨?_, ?_, ?_, ?_, ?_, ?_, ?_, ?_, ?_⟩ <;> repeat (with_reducible first | assumption | refine kCs (by simp only [ne_eq]; omega) ?_)))
    clear hK K
    try simp only [Act.put]
    refine wpAnyH_done (by kernel_rfl) ?_ _
    obtain ⟨hk9, hn9⟩ := kp_st5 (v0 := .bool sm) (v1 := .slice xm nm cm) (v2 := .slice ym mm dm) (v3 := .slice ca ck cc) (v4 := .slice ra rk rc) HO5.out (nou5 _ _ _ _ _ _ _ _ _ _ _ _ _) rfl
    have HM9 := hid (HM.out.kp hk9 hn9 (noc5 HO5.out))
    have HB9 := hid (below_st5 (u0 := .bool sm) (u1 := .slice xm nm cm) (u2 := .slice ym mm dm) (u3 := .slice ca ck cc) (u4 := .slice ra rk rc) HB5.out (Nat.le_refl _))
    clear hk9 hn9 hH9
    go_wp2
    exact bodyPost_ret (v := .agg #[.bool sm, .slice xm nm cm, .slice ym mm dm, .slice ca ck cc, .slice ra rk rc]) (by simp [results, Tryz.results33, go_sem, o0, o1, o2, o3, o4]) rfl (HA.out _ _ HB9.out HM9.out)
end Go.Proofs.YtbmfcogfgdggkaaGreat
namespace Go.Proofs.YtbmfcogfgdggkaaGreat
open Go.RowKit

def bdB (li : Int) (lq : Rat) (hi : Int) (hq : Rat) : Bool := (decide (li = 0) || (decide (li = -1) && decide (lq = 0))) && (decide (hi = 0) || (decide (hi = 1) && decide (hq = 0)))
def tsB (n : Nat) : Int → List (Int × Rat) → Bool
  | _, [] => true
  | last, (z, q) :: r => decide (last < z) && (decide (z < (n : Int)) && (decide (q ≠ 0) && tsB n z r))
def nmC (cs : List CV) (j : Nat) : ByteArray := (cs[j]?.map CV.nm).getD ByteArray.empty
def nmR (rs : List RV) (j : Nat) : ByteArray := (rs[j]?.map RV.nm).getD ByteArray.empty
/-- Values of a model that is well formed. -/
def mvOk (cs : List CV) (rs : List RV) : Bool := decide (cs.length ≤ 64) && (decide (rs.length ≤ 64) && (cs.all (fun v => bdB v.li v.lq v.hi v.hq) && (rs.all (fun v => bdB v.li v.lq v.hi v.hq && (tsB cs.length (-1) v.ts && decide (v.ts.length ≤ 1000))) && (nms (nmC cs) cs.length 0 && (nms (nmR rs) rs.length 0 && (!(twr (nmC cs) cs.length 0) && !(twr (nmR rs) rs.length 0)))))))
theorem nms_congr {S S' : Nat → ByteArray} : ∀ {r i : Nat}, (∀ j, i ≤ j → j < i + r → S j = S' j) → nms S r i = nms S' r i
  | 0, _, _ => rfl
  | r + 1, i, h => by simp only [nms]; rw [h i (by omega) (by omega), nms_congr (fun j a b => h j (by omega) (by omega))]
theorem saw_congr {S S' : Nat → ByteArray} {i : Nat} (h : ∀ j, j ≤ i → S j = S' j) : sawB S i = sawB S' i := by
  rw [Bool.eq_iff_iff, sawB_iff, sawB_iff]
  exact ⟨fun ⟨j, h1, h2⟩ => ⟨j, h1, by rw [← h j (by omega), ← h i (by omega)]; exact h2⟩, fun ⟨j, h1, h2⟩ => ⟨j, h1, by rw [h j (by omega), h i (by omega)]; exact h2⟩⟩
theorem twr_congr {S S' : Nat → ByteArray} : ∀ {r i : Nat}, (∀ j, j < i + r → S j = S' j) → twr S r i = twr S' r i
  | 0, _, _ => rfl
  | r + 1, i, h => by simp only [twr]; rw [saw_congr (fun j hj => h j (by omega)), twr_congr (fun j b => h j (by omega))]
theorem idx_congr {S S' : Nat → ByteArray} {z : ByteArray} : ∀ {r i : Nat}, (∀ j, i ≤ j → j < i + r → S j = S' j) → idx S z r i = idx S' z r i
  | 0, _, _ => rfl
  | r + 1, i, h => by simp only [idx]; rw [h i (by omega) (by omega), idx_congr (fun j a b => h j (by omega) (by omega))]
theorem nms_size {S : Nat → ByteArray} : ∀ {r i : Nat}, nms S r i = true → ∀ j, i ≤ j → j < i + r → (S j).size ≤ 16
  | 0, _, _, j, h1, h2 => by omega
  | r + 1, i, h, j, h1, h2 => by
    simp only [nms, Bool.and_eq_true] at h
    by_cases e : j = i
    · subst e
      have := h.1
      simp only [isNm, Bool.and_eq_true, decide_eq_true_eq] at this
      omega
    · exact nms_size h.2 j (by omega) (by omega)
theorem crl_congr {B B' : Nat → Bool} : ∀ {i : Nat}, (∀ j, j < i → B j = B' j) → crl B i = crl B' i
  | 0, _ => rfl
  | i + 1, h => by unfold crl; rw [crl_congr (fun j hj => h j (by omega)), h i (by omega)]
theorem clsB_of {C : Nat → Lc} : ∀ {r i : Nat}, (∀ j, i ≤ j → j < i + r → nfB (C j).cost = true ∧ abB (C j).lo (C j).hi = true) → clsB C r i = true
  | 0, _, _ => rfl
  | r + 1, i, h => by simp only [clsB]; rw [(h i (by omega) (by omega)).1, (h i (by omega) (by omega)).2, clsB_of (fun j a b => h j (by omega) (by omega))]; rfl
theorem rlsB_of {R : Nat → Lr} : ∀ {r i : Nat}, (∀ j, i ≤ j → j < i + r → abB (R j).lo (R j).hi = true ∧ tfB (R j).tk (R j).col (R j).T = true) → rlsB R r i = true
  | 0, _, _ => rfl
  | r + 1, i, h => by simp only [rlsB]; rw [(h i (by omega) (by omega)).1, (h i (by omega) (by omega)).2, rlsB_of (fun j a b => h j (by omega) (by omega))]; rfl
theorem alB_of {k : Nat} {R : Nat → Lr} : ∀ {r i : Nat}, (∀ j, i ≤ j → j < i + r → lastB k (R j) = true) → alB k R r i = true
  | 0, _, _ => rfl
  | r + 1, i, h => by simp only [alB]; rw [h i (by omega) (by omega), alB_of (fun j a b => h j (by omega) (by omega))]; rfl
theorem eqf_of {α : Type} {e : α → α → Bool} {X Y : Nat → α} : ∀ {r i : Nat}, (∀ j, i ≤ j → j < i + r → e (X j) (Y j) = true) → eqf e X Y r i = true
  | 0, _, _ => rfl
  | r + 1, i, h => by simp only [eqf]; rw [h i (by omega) (by omega), eqf_of (fun j a b => h j (by omega) (by omega))]; rfl
theorem NmV.ex {L w} {e : Ex} {i : Int} {q : Rat} (h : NmV L w e.v q) (hi : e.i = i) (hb : i = 0 ∨ (i = -1 ∨ i = 1) ∧ q = 0) : exF e = true :=
  En.ef (L := L) (w := w) (q := q) ⟨h, by rw [hi]; exact hb⟩
theorem ab_of {L w} {a b : Ex} {li : Int} {lq : Rat} {hi : Int} {hq : Rat} (h1 : NmV L w a.v lq) (e1 : a.i = li) (h2 : NmV L w b.v hq) (e2 : b.i = hi) (h : bdB li lq hi hq = true) : abB a b = true := by
  simp only [bdB, Bool.and_eq_true, Bool.or_eq_true, decide_eq_true_eq] at h
  have f1 := h1.ex e1 (by rcases h.1 with h | h; exact .inl h; exact .inr ⟨.inl h.1, h.2⟩)
  have f2 := h2.ex e2 (by rcases h.2 with h | h; exact .inl h; exact .inr ⟨.inr h.1, h.2⟩)
  simp only [abB, f1, f2, Bool.true_and, Bool.and_eq_true, decide_eq_true_eq]
  rw [e1, e2]
  omega
theorem tsB_at {n : Nat} : ∀ {l : List (Int × Rat)} {last : Int}, tsB n last l = true → (∀ (p : Nat) z q, l[p]? = some (z, q) → last < z ∧ z < (n : Int) ∧ q ≠ 0) ∧ ∀ (p : Nat) z q z' q', l[p]? = some (z, q) → l[p + 1]? = some (z', q') → z < z'
  | [], _, _ => ⟨fun p z q h => by simp at h, fun p z q z' q' h => by simp at h⟩
  | (a, b) :: r, last, h => by
    simp only [tsB, Bool.and_eq_true, decide_eq_true_eq] at h
    obtain ⟨h1, h2, h3, h4⟩ := h
    obtain ⟨k1, k2⟩ := tsB_at h4
    refine ⟨fun p z q e => ?_, fun p z q z' q' e e' => ?_⟩
    · cases p with
      | zero => simp at e; obtain ⟨rfl, rfl⟩ := e; exact ⟨h1, h2, h3⟩
      | succ p => have := k1 p z q (by simpa using e); exact ⟨by omega, this.2⟩
    · cases p with
      | zero =>
        simp at e; obtain ⟨rfl, rfl⟩ := e
        exact (k1 0 z' q' (by simpa using e')).1
      | succ p => exact k2 p z q z' q' (by simpa using e) (by simpa using e')
theorem RowV.tf {L w r v n} (h : RowV L w r v) (hL : L ≤ 65536) (ht : tsB n (-1) v.ts = true) : tfB r.tk r.col r.T = true ∧ lastB n r = true := by
  obtain ⟨k1, k2⟩ := tsB_at ht
  have hg : ∀ p, p < r.tk → ∃ z q, v.ts[p]? = some (z, q) := fun p hp => by
    rw [h.tk] at hp
    obtain ⟨⟨z, q⟩, e⟩ : ∃ x, v.ts[p]? = some x := ⟨_, List.getElem?_eq_getElem hp⟩
    exact ⟨z, q, e⟩
  refine ⟨tfr_of (fun j _ hj => ?_) (fun j _ hj => ?_) (fun h0 => ?_), ?_⟩
  · obtain ⟨z, q, e⟩ := hg j (by omega)
    obtain ⟨_, h2, _⟩ := h.tl j z q e
    refine ⟨(h2.nms hL).2, ?_⟩
    have := (k1 j z q e).2.2
    have hz := Rn.q_zero h2
    rcases Nat.eq_zero_or_pos (r.T j).n with h0 | h0
    · exact absurd (hz.2 h0) this
    · exact h0
  · obtain ⟨z, q, e⟩ := hg j (by omega)
    obtain ⟨z', q', e'⟩ := hg (j + 1) (by omega)
    rw [(h.tl j z q e).1, (h.tl (j + 1) z' q' e').1]
    exact k2 j z q z' q' e e'
  · obtain ⟨z, q, e⟩ := hg 0 h0
    rw [(h.tl 0 z q e).1]; exact (k1 0 z q e).1
  · simp only [lastB, Bool.or_eq_true, decide_eq_true_eq]
    by_cases h0 : r.tk = 0
    · exact .inl h0
    · obtain ⟨z, q, e⟩ := hg (r.tk - 1) (by omega)
      rw [(h.tl _ z q e).1]; exact .inr (k1 _ z q e).2.1
theorem MoV.nmc {L w M q cs rs} (h : MoV L w M q cs rs) : ∀ j, j < M.ck → (M.C j).nm = nmC cs j := fun j hj => by
  rw [h.ck] at hj
  obtain ⟨v, hv⟩ : ∃ x, cs[j]? = some x := ⟨_, List.getElem?_eq_getElem hj⟩
  rw [nmC, hv, (h.cls j v hv).2.nm]; rfl
theorem MoV.nmr {L w M q cs rs} (h : MoV L w M q cs rs) : ∀ j, j < M.rk → (M.R j).nm = nmR rs j := fun j hj => by
  rw [h.rk] at hj
  obtain ⟨v, hv⟩ : ∃ x, rs[j]? = some x := ⟨_, List.getElem?_eq_getElem hj⟩
  rw [nmR, hv, (h.rls j v hv).2.nm]; rfl
/-- Well formed by its values: well formed. -/
theorem MoV.chk {L w M q cs rs} (h : MoV L w M q cs rs) (hL : L ≤ 65536) (ho : mvOk cs rs = true) : chkE M = 0 ∧ MoR w M := by
  simp only [mvOk, Bool.and_eq_true, decide_eq_true_eq, List.all_eq_true, Bool.not_eq_true'] at ho
  obtain ⟨l1, l2, o1, o2, n1, n2, t1, t2⟩ := ho
  have hcv : ∀ j, j < M.ck → ∃ v, cs[j]? = some v := fun j hj => by rw [h.ck] at hj; exact ⟨_, List.getElem?_eq_getElem hj⟩
  have hrv : ∀ j, j < M.rk → ∃ v, rs[j]? = some v := fun j hj => by rw [h.rk] at hj; exact ⟨_, List.getElem?_eq_getElem hj⟩
  have hF : moF M = true := by
    simp only [moF, Bool.and_eq_true]
    refine ⟨(h.off.nms hL).2, clsB_of (fun j _ hj => ?_), rlsB_of (fun j _ hj => ?_)⟩
    · obtain ⟨v, hv⟩ := hcv j (by omega)
      obtain ⟨_, k⟩ := h.cls j v hv
      exact ⟨(k.cost.nms hL).2, ab_of k.lq k.li k.hq k.hi (o1 v (List.mem_of_getElem? hv))⟩
    · obtain ⟨v, hv⟩ := hrv j (by omega)
      obtain ⟨_, k⟩ := h.rls j v hv
      have o := o2 v (List.mem_of_getElem? hv)
      exact ⟨ab_of k.lq k.li k.hq k.hi o.1, (k.tf hL o.2.1).1⟩
  have hA : alB M.ck M.R M.rk 0 = true := alB_of (fun j _ hj => by
    obtain ⟨v, hv⟩ := hrv j (by omega)
    obtain ⟨_, k⟩ := h.rls j v hv
    rw [h.ck]
    exact (k.tf hL (o2 v (List.mem_of_getElem? hv)).2.1).2)
  have e1 : nms (fun j => (M.C j).nm) M.ck 0 = true := by rw [nms_congr (S' := nmC cs) (fun j _ hj => h.nmc j (by omega)), h.ck]; exact n1
  have e2 : nms (fun j => (M.R j).nm) M.rk 0 = true := by rw [nms_congr (S' := nmR rs) (fun j _ hj => h.nmr j (by omega)), h.rk]; exact n2
  have e3 : twr (fun j => (M.C j).nm) M.ck 0 = false := by rw [twr_congr (S' := nmC cs) (fun j hj => h.nmc j (by omega)), h.ck]; exact t1
  have e4 : twr (fun j => (M.R j).nm) M.rk 0 = false := by rw [twr_congr (S' := nmR rs) (fun j hj => h.nmr j (by omega)), h.rk]; exact t2
  have e0 : (decide (64 < M.ck) || decide (64 < M.rk)) = false := by rw [h.ck, h.rk]; simp; omega
  refine ⟨by unfold chkE; rw [e0, hF, e1, e2, e3, e4, hA]; rfl, h.mor hL l1 l2 (fun v hv => ?_) (fun v hv => ?_)⟩
  · obtain ⟨j, hj⟩ := List.getElem?_of_mem hv
    have := nms_size n1 j (by omega) (by have := (List.getElem?_eq_some_iff.1 hj).1; omega)
    rw [nmC, hj] at this
    exact Nat.le_trans this (by decide)
  · obtain ⟨j, hj⟩ := List.getElem?_of_mem hv
    have := nms_size n2 j (by omega) (by have := (List.getElem?_eq_some_iff.1 hj).1; omega)
    rw [nmR, hj] at this
    exact ⟨Nat.le_trans this (by decide), (o2 v hv).2.2⟩
theorem MoV.mob {L w M q cs rs} (h : MoV L w M q cs rs) (hL : L ≤ 100) : MoB M := by
  refine ⟨fun j hj => ?_, fun j hj => ?_⟩
  · rw [h.ck] at hj
    obtain ⟨v, hv⟩ : ∃ x, cs[j]? = some x := ⟨_, List.getElem?_eq_getElem hj⟩
    obtain ⟨_, k⟩ := h.cls j v hv
    exact ⟨⟨Nat.le_trans k.lq.ln hL, Nat.le_trans k.lq.ld hL⟩, Nat.le_trans k.hq.ln hL, Nat.le_trans k.hq.ld hL⟩
  · rw [h.rk] at hj
    obtain ⟨v, hv⟩ : ∃ x, rs[j]? = some x := ⟨_, List.getElem?_eq_getElem hj⟩
    obtain ⟨_, k⟩ := h.rls j v hv
    exact ⟨⟨Nat.le_trans k.lq.ln hL, Nat.le_trans k.lq.ld hL⟩, Nat.le_trans k.hq.ln hL, Nat.le_trans k.hq.ld hL⟩
theorem MoV.mot {L w M q cs rs} (h : MoV L w M q cs rs) (hL : L ≤ 1000) (hr : ∀ v, v ∈ rs → v.ts.length ≤ 1000) : MoT M := by
  refine ⟨fun j hj => ?_, fun j hj p hp => ?_⟩
  all_goals
    rw [h.rk] at hj
    obtain ⟨v, hv⟩ : ∃ x, rs[j]? = some x := ⟨_, List.getElem?_eq_getElem hj⟩
    obtain ⟨_, k⟩ := h.rls j v hv
    have hl := hr v (List.mem_of_getElem? hv)
  · rw [k.tk]; omega
  · rw [k.tk] at hp
    obtain ⟨⟨z, q'⟩, e⟩ : ∃ x, v.ts[p]? = some x := ⟨_, List.getElem?_eq_getElem hp⟩
    obtain ⟨_, k2, _⟩ := k.tl p z q' e
    exact ⟨Nat.le_trans k2.ln hL, Nat.le_trans k2.ld hL⟩
/-- Which are crossed, by values. -/
def cvB (li : Int) (lq : Rat) (hi : Int) (hq : Rat) : Bool := decide (hi < li) || (decide (li = hi) && decide (hq < lq))
theorem abv_of {L w} {a b : Ex} {li : Int} {lq : Rat} {hi : Int} {hq : Rat} (h1 : NmV L w a.v lq) (e1 : a.i = li) (h2 : NmV L w b.v hq) (e2 : b.i = hi) : abvB a b = cvB li lq hi hq := by
  unfold abvB cvB
  rw [Rn.nq h1, Rn.nq h2, e1, e2]
def cvC (cs : List CV) (j : Nat) : Bool := (cs[j]?.map (fun v => cvB v.li v.lq v.hi v.hq)).getD false
def cvR (rs : List RV) (j : Nat) : Bool := (rs[j]?.map (fun v => cvB v.li v.lq v.hi v.hq)).getD false
theorem MoV.crl {L w M q cs rs} (h : MoV L w M q cs rs) : crl (ccB M.C) M.ck = crl (cvC cs) cs.length ∧ crl (rcB M.R) M.rk = crl (cvR rs) rs.length := by
  refine ⟨?_, ?_⟩
  · rw [crl_congr (B' := cvC cs) (fun j hj => ?_), h.ck]
    rw [h.ck] at hj
    obtain ⟨v, hv⟩ : ∃ x, cs[j]? = some x := ⟨_, List.getElem?_eq_getElem hj⟩
    obtain ⟨_, k⟩ := h.cls j v hv
    rw [cvC, hv]; exact abv_of k.lq k.li k.hq k.hi
  · rw [crl_congr (B' := cvR rs) (fun j hj => ?_), h.rk]
    rw [h.rk] at hj
    obtain ⟨v, hv⟩ : ∃ x, rs[j]? = some x := ⟨_, List.getElem?_eq_getElem hj⟩
    obtain ⟨_, k⟩ := h.rls j v hv
    rw [cvR, hv]; exact abv_of k.lq k.li k.hq k.hi
theorem eqs_of {f g : Nat → Int} : ∀ {r i : Nat}, (∀ j, i ≤ j → j < i + r → f j = g j) → eqs f g r i = true
  | 0, _, _ => rfl
  | r + 1, i, h => by simp only [eqs]; rw [eqs_of (fun j a b => h j (by omega) (by omega)), h i (by omega) (by omega)]; simp
theorem sq_of {L L' w w'} {a b : Nm} {q : Rat} (h1 : NmV L w a q) (h2 : NmV L' w' b q) : sqB a b = true := by
  obtain ⟨e1, ⟨e2, e3⟩, e4, e5⟩ := (Rn.inj h1 h2).2 rfl
  unfold sqB eqlB
  rw [eqs_of (fun j _ hj => e3 j (by omega)), eqs_of (fun j _ hj => e5 j (by omega))]
  simp [e1, e2, e4]
/-- Two models with the same values are equal. -/
theorem MoV.eqA {L w L' w' M M' q cs rs} (h : MoV L w M q cs rs) (h' : MoV L' w' M' q cs rs) (e1 : chkE M = 0) (e2 : chkE M' = 0) : eqA M M' = (true, 0) := by
  have hz : lsf (two (chkE M) (chkE M')) 2 = 0 := by rw [e1, e2]; rfl
  have hx : ∀ {a b : Ex} {i : Int} {r : Rat}, NmV L w a.v r → a.i = i → NmV L' w' b.v r → b.i = i → sxB a b = true := fun k1 k2 k3 k4 => by
    unfold sxB; rw [sq_of k1 k3, k2, k4]; simp
  unfold Go.Proofs.YtbmfcogfgdggkaaGreat.eqA
  rw [if_pos hz, sq_of h.off h'.off]
  have hc : eqfB scB M.ck M'.ck M.C M'.C = true := by
    unfold eqfB
    rw [eqf_of (fun j _ hj => ?_)]
    · rw [h.ck, h'.ck]; simp
    · rw [h.ck] at hj
      obtain ⟨v, hv⟩ : ∃ x, cs[j]? = some x := ⟨_, List.getElem?_eq_getElem (by omega)⟩
      obtain ⟨_, k⟩ := h.cls j v hv
      obtain ⟨_, k'⟩ := h'.cls j v hv
      unfold scB
      rw [sq_of k.cost k'.cost, hx k.lq k.li k'.lq k'.li, hx k.hq k.hi k'.hq k'.hi, k.nm, k'.nm]; simp
  have hr : eqfB srB M.rk M'.rk M.R M'.R = true := by
    unfold eqfB
    rw [eqf_of (fun j _ hj => ?_)]
    · rw [h.rk, h'.rk]; simp
    · rw [h.rk] at hj
      obtain ⟨v, hv⟩ : ∃ x, rs[j]? = some x := ⟨_, List.getElem?_eq_getElem (by omega)⟩
      obtain ⟨_, k⟩ := h.rls j v hv
      obtain ⟨_, k'⟩ := h'.rls j v hv
      unfold srB eqfB
      rw [hx k.lq k.li k'.lq k'.li, hx k.hq k.hi k'.hq k'.hi, k.nm, k'.nm, eqf_of (fun p _ hp => ?_)]
      · rw [k.tk, k'.tk]; simp
      · rw [k.tk] at hp
        obtain ⟨⟨z, q'⟩, e⟩ : ∃ x, v.ts[p]? = some x := ⟨_, List.getElem?_eq_getElem (by omega)⟩
        obtain ⟨a1, a2, _⟩ := k.tl p z q' e
        obtain ⟨b1, b2, _⟩ := k'.tl p z q' e
        exact hx (a := tex (M.R j).col (M.R j).T p) (b := tex (M'.R j).col (M'.R j).T p) a2 a1 b2 b1
  rw [hc, hr]; rfl
theorem MoV.row {L w M q cs rs} (h : MoV L w M q cs rs) (e : chkE M = 0) (z : ByteArray) : atRow M z = plc (idx (nmR rs) z rs.length 0) := by
  rw [atRow, if_pos e, idx_congr (S' := nmR rs) (fun j _ hj => h.nmr j (by omega)), h.rk]
theorem MoV.col {L w M q cs rs} (h : MoV L w M q cs rs) (e : chkE M = 0) (z : ByteArray) : atCol M z = plc (idx (nmC cs) z cs.length 0) := by
  rw [atCol, if_pos e, idx_congr (S' := nmC cs) (fun j _ hj => h.nmc j (by omega)), h.ck]
/-- The entries of a column, by columns alone. -/
def entC (l : List Int) (j i : Nat) : List Int := (l.filter (fun z => z == (j : Int))).map (fun _ => (i : Int))
theorem ent_fst {col : Nat → Int} {T : Nat → Nm} {j i : Nat} : ∀ {l : List Int}, (∀ p z, l[p]? = some z → col p = z) → (ent col T j i l.length).map Prod.fst = entC l j i := by
  intro l
  have : ∀ n, n ≤ l.length → (∀ p z, l[p]? = some z → col p = z) → (ent col T j i n).map Prod.fst = entC (l.take n) j i := by
    intro n
    induction n with
    | zero => intro _ _; rfl
    | succ n ih =>
      intro hn h
      have e : l[n]? = some l[n] := List.getElem?_eq_getElem (by omega)
      rw [List.take_add_one, e, entC, List.filter_append, List.map_append]
      unfold ent
      rw [List.map_append, ih (by omega) h, h n _ e]
      congr 1
      by_cases hj : l[n] = (j : Int)
      · simp [hj]
      · simp [hj]
  intro h
  rw [this l.length (Nat.le_refl _) h, List.take_length]
def rvC (rs : List RV) (j : Nat) : Nat → List Int
  | 0 => []
  | i + 1 => rvC rs j i ++ entC ((rs[i]?.map (fun v => v.ts.map Prod.fst)).getD []) j i
theorem MoV.cent {L w M q cs rs} (h : MoV L w M q cs rs) {T : Nat → Nat → Nm} {j : Nat} : ∀ {i : Nat}, i ≤ M.rk → (cent (fun i => (M.R i).col) (fun i => (M.R i).tk) T j i).map Prod.fst = rvC rs j i
  | 0, _ => rfl
  | i + 1, hi => by
    obtain ⟨v, hv⟩ : ∃ x, rs[i]? = some x := ⟨_, List.getElem?_eq_getElem (by rw [h.rk] at hi; omega)⟩
    obtain ⟨_, k⟩ := h.rls i v hv
    unfold Go.Proofs.YtbmfcogfgdggkaaGreat.cent rvC
    rw [List.map_append, h.cent (by omega), hv]
    have e : (M.R i).tk = (v.ts.map Prod.fst).length := by rw [k.tk]; simp
    rw [e, ent_fst (fun p z hz => ?_)]
    · rfl
    · rw [List.getElem?_map, Option.map_eq_some_iff] at hz
      obtain ⟨⟨a, b⟩, h1, rfl⟩ := hz
      exact (k.tl p a b h1).1
end Go.Proofs.YtbmfcogfgdggkaaGreat
