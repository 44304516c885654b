/-
  Plain words on memory: what a slice of numbers reads as, a block of the call's own, and what a call may have turned. No Go text is named here.
-/
import Derived.WalkKit
import Derived.Laws.CopyOwn
namespace Go.Proofs.YtjjbmioicliipabDoor
open Go.RowKit

/-- A fact put aside. -/
theorem hid {p : Prop} (h : p) : Hid p := h

/-- The slice at 'ao' with n elements of kind k reads as f. -/
def Rd (k : IntKind) (w : World) (ao : Option Addr) (n : Nat) (f : Nat → Int) : Prop :=
  ∀ j, j < n → ∃ b o, ao = some ⟨b, o, none⟩ ∧ w.cell? ⟨b, o + j, none⟩ = some (.int k (f j))

/-- Block g is a row of N numbers of kind k, element type e, none frozen, that hold f. -/
def Blk (k : IntKind) (e : TypeId) (w : World) (g N : Nat) (f : Nat → Int) : Prop :=
  ∃ arr : Array Value, w.heap[g]? = some (.cells arr e (0, 0)) ∧ arr.size = N ∧ ∀ j, j < N → arr[j]? = some (.int k (f j))

/-- Nothing but block g has turned; there may be new blocks. -/
structure Only (g : Nat) (w w' : World) : Prop where
  os : w'.os = w.os
  tape : w'.tape = w.tape
  output : w'.output = w.output
  size : w.heap.size ≤ w'.heap.size
  block : ∀ k, k < w.heap.size → k ≠ g → w'.heap[k]? = w.heap[k]?

/-- The list from place o on. -/
def sh (f : Nat → Int) (o : Nat) : Nat → Int := fun j => f (o + j)
theorem sh_at (f : Nat → Int) (o j : Nat) : sh f o j = f (o + j) := rfl
theorem sh_zero (f : Nat → Int) : sh f 0 = f := by funext j; rw [sh_at, Nat.zero_add]
theorem sh_sh (f : Nat → Int) (a b : Nat) : sh (sh f a) b = sh f (a + b) := by funext j; rw [sh_at, sh_at, sh_at, Nat.add_assoc]
/-- One number turned. -/
def upd (f : Nat → Int) (i : Nat) (v : Int) : Nat → Int := fun j => if j = i then v else f j
theorem upd_same (f : Nat → Int) (i : Nat) (v : Int) : upd f i v i = v := by simp [upd]
theorem upd_other (f : Nat → Int) (i : Nat) (v : Int) (j : Nat) (h : j ≠ i) : upd f i v j = f j := by simp [upd, h]

/-- The slice's memory is not block g. -/
def Off (ao : Option Addr) (g : Nat) : Prop := ∀ a, ao = some a → a.block ≠ g
/-- The slice's memory lies below block number B (or it has none). -/
def Und (ao : Option Addr) (B : Nat) : Prop := ∀ a, ao = some a → a.block < B
theorem Und.off {ao : Option Addr} {B g : Nat} (h : Und ao B) (hg : B ≤ g) : Off ao g := fun a ha => by have := h a ha; omega
theorem Und.mono {ao : Option Addr} {B B' : Nat} (h : Und ao B) (hB : B ≤ B') : Und ao B' := fun a ha => by have := h a ha; omega
theorem und_none (B : Nat) : Und none B := fun a h => by cases h
theorem und_some {b o : Nat} {s} {B : Nat} (h : b < B) : Und (some ⟨b, o, s⟩) B := fun a ha => by cases ha; exact h
theorem off_none (B : Nat) : Off none B := fun a h => by cases h
theorem off_some {b o : Nat} {s} {g : Nat} (h : b ≠ g) : Off (some ⟨b, o, s⟩) g := fun a ha => by cases ha; exact h

theorem Rd.cell {k w n f b o} (h : Rd k w (some ⟨b, o, none⟩) n f) {j : Nat} (hj : j < n) : w.cell? ⟨b, o + j, none⟩ = some (.int k (f j)) := by
  obtain ⟨b', o', e, hc⟩ := h j hj
  cases e; exact hc
theorem Rd.at {k w ao n f} (h : Rd k w ao n f) (hn : 0 < n) : ∃ b o, ao = some ⟨b, o, none⟩ := by
  obtain ⟨b, o, e, _⟩ := h 0 hn
  exact ⟨b, o, e⟩
theorem Rd.zero {k w ao f} : Rd k w ao 0 f := fun j hj => by omega
theorem Rd.mk {k w n f b o} (h : ∀ j, j < n → w.cell? ⟨b, o + j, none⟩ = some (.int k (f j))) : Rd k w (some ⟨b, o, none⟩) n f := fun j hj => ⟨b, o, rfl, h j hj⟩
theorem Rd.congr {k w ao n f f'} (h : Rd k w ao n f) (he : ∀ j, j < n → f j = f' j) : Rd k w ao n f' := fun j hj => by
  obtain ⟨b, o, e, hc⟩ := h j hj
  exact ⟨b, o, e, by rw [hc, he j hj]⟩
theorem Rd.take {k w ao n f} (h : Rd k w ao n f) {m : Nat} (hm : m ≤ n) : Rd k w ao m f := fun j hj => h j (by omega)
theorem Rd.drop {k w n f b o} (h : Rd k w (some ⟨b, o, none⟩) n f) {i m : Nat} (hm : i + m ≤ n) : Rd k w (some ⟨b, o + i, none⟩) m (sh f i) := fun j hj =>
  ⟨b, o + i, rfl, by have := h.cell (j := i + j) (by omega); rw [← Nat.add_assoc] at this; exact this⟩
theorem Rd.und {k w ao n f} (h : Rd k w ao n f) (hn : 0 < n) : Und ao w.heap.size := fun a ha => by
  obtain ⟨b, o, e, hc⟩ := h 0 hn
  rw [ha] at e; cases e
  exact World.block_lt_of_cell? w _ hc
theorem Rd.below {k w w' ao n f} {B : Nat} (h : Rd k w ao n f) (hb : Below B w w') (hB : w.heap.size ≤ B) : Rd k w' ao n f := fun j hj => by
  obtain ⟨b, o, e, hc⟩ := h j hj
  have := World.block_lt_of_cell? w _ hc
  exact ⟨b, o, e, (hb.cell (p := ⟨b, o + j, none⟩) (by simp at this ⊢; omega)).trans hc⟩
theorem Rd.belowU {k w w' ao n f} {B : Nat} (h : Rd k w ao n f) (hb : Below B w w') (hu : Und ao B) : Rd k w' ao n f := fun j hj => by
  obtain ⟨b, o, e, hc⟩ := h j hj
  exact ⟨b, o, e, (hb.cell (p := ⟨b, o + j, none⟩) (by have := hu _ e; simpa using this)).trans hc⟩
theorem Rd.only {k w w' ao n f} {g : Nat} (h : Rd k w ao n f) (hb : Only g w w') (ho : Off ao g) : Rd k w' ao n f := fun j hj => by
  obtain ⟨b, o, e, hc⟩ := h j hj
  have hl := World.block_lt_of_cell? w _ hc
  exact ⟨b, o, e, (World.cell?_of_block (hb.block b hl (by have := ho _ e; simpa using this))).trans hc⟩
theorem Rd.drew {k w ao n f} (h : Rd k w ao n f) : Rd k w.drew ao n f := h

theorem Blk.cell {k e w g N f} (h : Blk k e w g N f) {j : Nat} (hj : j < N) : w.cell? ⟨g, j, none⟩ = some (.int k (f j)) := by
  obtain ⟨arr, h1, h2, h3⟩ := h
  simp [World.cell?, h1, h3 j hj]
theorem Blk.frozen {k e w g N f} (h : Blk k e w g N f) (j : Nat) : w.frozen? ⟨g, j, none⟩ = false := by
  obtain ⟨arr, h1, h2, h3⟩ := h
  simp [World.frozen?, h1]
theorem Blk.lt {k e w g N f} (h : Blk k e w g N f) : g < w.heap.size := by
  obtain ⟨arr, h1, h2, h3⟩ := h
  exact (Array.getElem?_eq_some_iff.1 h1).1
theorem Blk.congr {k e w g N f f'} (h : Blk k e w g N f) (he : ∀ j, j < N → f j = f' j) : Blk k e w g N f' := by
  obtain ⟨arr, h1, h2, h3⟩ := h
  exact ⟨arr, h1, h2, fun j hj => by rw [h3 j hj, he j hj]⟩
theorem Blk.of {k e w w' g N f} (h : Blk k e w g N f) (he : w'.heap[g]? = w.heap[g]?) : Blk k e w' g N f := by
  obtain ⟨arr, h1, h2, h3⟩ := h
  exact ⟨arr, he.trans h1, h2, h3⟩
theorem Blk.drew {k e w g N f} (h : Blk k e w g N f) : Blk k e w.drew g N f := h
theorem Blk.below {k e w w' g N f} {B : Nat} (h : Blk k e w g N f) (hb : Below B w w') (hg : g < B) : Blk k e w' g N f := h.of (hb.block g hg)
theorem Blk.only {k e w w' g g' N f} (h : Blk k e w g N f) (hb : Only g' w w') (hg : g ≠ g') : Blk k e w' g N f := h.of (hb.block g h.lt hg)
theorem Blk.alloc {k e w g N f} (h : Blk k e w g N f) (o : Obj) : Blk k e (w.alloc o) g N f := h.of (Below.heap_alloc _ _ _ h.lt)
theorem Blk.set {k e w g N f} (h : Blk k e w g N f) (i : Nat) (v : Int) : Blk k e (w.setCell ⟨g, i, none⟩ (.int k v)) g N (upd f i v) := by
  obtain ⟨arr, h1, h2, h3⟩ := h
  refine ⟨arr.setIfInBounds i (.int k v), ?_, by simpa using h2, fun j hj => ?_⟩
  · simp [World.setCell, Array.getElem?_modify, h1]
  · by_cases hji : j = i
    · subst hji; simp [upd, h2, hj]
    · rw [Array.getElem?_setIfInBounds, if_neg (by omega), h3 j hj]; simp [upd, hji]
theorem Blk.setOther {k e w g N f} (h : Blk k e w g N f) {a : Addr} (ha : g ≠ a.block) (v : Value) : Blk k e (w.setCell a v) g N f := h.of (Below.heap_setCell _ _ _ _ ha)
theorem Blk.rd {k e w g N f} (h : Blk k e w g N f) {o n : Nat} (hn : o + n ≤ N) : Rd k w (some ⟨g, o, none⟩) n (sh f o) := fun j hj => ⟨g, o, rfl, h.cell (by omega)⟩
theorem Blk.rd0 {k e w g N f} (h : Blk k e w g N f) {n : Nat} (hn : n ≤ N) : Rd k w (some ⟨g, 0, none⟩) n f := fun j hj => ⟨g, 0, rfl, by rw [Nat.zero_add]; exact h.cell (by omega)⟩

theorem Only.refl (g : Nat) (w : World) : Only g w w := ⟨rfl, rfl, rfl, Nat.le_refl _, fun _ _ _ => rfl⟩
theorem Only.trans {g : Nat} {a b c : World} (h : Only g a b) (k : Only g b c) : Only g a c :=
  ⟨k.os.trans h.os, k.tape.trans h.tape, k.output.trans h.output, Nat.le_trans h.size k.size, fun i hi hn => (k.block i (Nat.lt_of_lt_of_le hi h.size) hn).trans (h.block i hi hn)⟩
theorem Only.drew {g : Nat} {a w : World} (h : Only g a w) : Only g a w.drew := ⟨h.os, h.tape, h.output, h.size, h.block⟩
theorem Only.setCell {g : Nat} {a w : World} (h : Only g a w) (i : Nat) (s) (u : Value) : Only g a (w.setCell ⟨g, i, s⟩ u) :=
  h.trans ⟨rfl, rfl, rfl, by simp [World.setCell], fun k _ hn => Below.heap_setCell _ _ _ _ hn⟩
theorem Only.alloc {g : Nat} {a w : World} (h : Only g a w) (o : Obj) : Only g a (w.alloc o) :=
  h.trans ⟨rfl, rfl, rfl, by simp, fun k hk _ => Below.heap_alloc _ _ _ hk⟩
theorem Only.of_below {g : Nat} {w w' : World} (h : Below w.heap.size w w') : Only g w w' := ⟨h.os, h.tape, h.output, h.size, fun k hk _ => h.block k hk⟩
theorem Only.below {g B : Nat} {w w' : World} (h : Only g w w') (hB : B ≤ g) (hs : B ≤ w.heap.size) : Below B w w' := ⟨h.os, h.tape, h.output, h.size, fun k hk => h.block k (by omega) (by omega)⟩
/-- What was turned is a block of the call's own: seen from ahead of that block nothing has turned. -/
theorem below_only {g B : Nat} {w w' w'' : World} (h : Below B w w') (h2 : Only g w' w'') (hB : B ≤ g) (hs : B ≤ w'.heap.size) : Below B w w'' := h.trans (h2.below hB hs)
theorem Only.then_below {g : Nat} {w w' w'' : World} (h : Only g w w') (h2 : Below w'.heap.size w' w'') : Only g w w'' := h.trans (Only.of_below h2)

/-- The value of the first n limbs. -/
def pw : Nat → Int | 0 => 1 | n + 1 => 18446744073709551616 * pw n
def vf (f : Nat → Int) : Nat → Int | 0 => 0 | n + 1 => vf f n + f n * pw n
/-- Each of the first n is a limb. -/
def Lm (f : Nat → Int) (n : Nat) : Prop := ∀ j, j < n → 0 ≤ f j ∧ f j < 18446744073709551616
/-- In form: the last one is not 0. -/
def Fm (f : Nat → Int) (n : Nat) : Prop := n = 0 ∨ f (n - 1) ≠ 0

def fmB (f : Nat → Int) (n : Nat) : Bool := decide (n = 0) || !decide (f (n - 1) = 0)
theorem fmB_iff (f : Nat → Int) (n : Nat) : fmB f n = true ↔ Fm f n := by simp [fmB, Fm]

theorem pw_pos (n : Nat) : 0 < pw n := by induction n with | zero => decide | succ n ih => simp only [pw]; omega
theorem pw_succ (n : Nat) : pw (n + 1) = 18446744073709551616 * pw n := rfl
theorem pw_add (m n : Nat) : pw (m + n) = pw m * pw n := by
  induction n with
  | zero => simp [pw]
  | succ n ih => rw [← Nat.add_assoc, pw_succ, ih, pw_succ]; grind
theorem vf_succ (f : Nat → Int) (n : Nat) : vf f (n + 1) = vf f n + f n * pw n := rfl
theorem vf_congr {f g : Nat → Int} {n : Nat} (h : ∀ j, j < n → f j = g j) : vf f n = vf g n := by
  induction n with
  | zero => rfl
  | succ n ih => rw [vf_succ, vf_succ, ih (fun j hj => h j (by omega)), h n (by omega)]
theorem Lm.mono {f n m} (h : Lm f n) (hm : m ≤ n) : Lm f m := fun j hj => h j (by omega)
theorem Lm.congr {f g : Nat → Int} {n : Nat} (h : Lm f n) (he : ∀ j, j < n → f j = g j) : Lm g n := fun j hj => by rw [← he j hj]; exact h j hj
theorem Lm.upd {f n} (h : Lm f n) {i : Nat} {v : Int} (hv : 0 ≤ v ∧ v < 18446744073709551616) : Lm (upd f i v) n := fun j hj => by
  by_cases hji : j = i
  · subst hji; rw [upd_same]; exact hv
  · rw [upd_other _ _ _ _ hji]; exact h j hj
theorem Lm.sh {f n} (h : Lm f n) {o m : Nat} (hm : o + m ≤ n) : Lm (sh f o) m := fun j hj => h (o + j) (by omega)
theorem vf_nonneg {f : Nat → Int} {n : Nat} (h : Lm f n) : 0 ≤ vf f n := by
  induction n with
  | zero => simp [vf]
  | succ n ih =>
    have h1 := ih (h.mono (by omega))
    have h2 := Int.mul_nonneg (h n (by omega)).1 (Int.le_of_lt (pw_pos n))
    rw [vf_succ]; omega
theorem vf_lt {f : Nat → Int} {n : Nat} (h : Lm f n) : vf f n < pw n := by
  induction n with
  | zero => simp [vf, pw]
  | succ n ih =>
    have h1 := ih (h.mono (by omega))
    have h2 : (f n + 1) * pw n ≤ 18446744073709551616 * pw n := Int.mul_le_mul_of_nonneg_right (by have := (h n (by omega)).2; omega) (Int.le_of_lt (pw_pos n))
    rw [Int.add_mul, Int.one_mul] at h2
    rw [vf_succ, pw_succ]; omega
/-- A number cut in two. -/
theorem vf_split (f : Nat → Int) (m n : Nat) : vf f (m + n) = vf f m + vf (sh f m) n * pw m := by
  induction n with
  | zero => simp [vf]
  | succ n ih => rw [← Nat.add_assoc, vf_succ, ih, vf_succ, pw_add, sh_at]; grind
theorem vf_zero {f : Nat → Int} {n : Nat} (h : ∀ j, j < n → f j = 0) : vf f n = 0 := by
  induction n with
  | zero => rfl
  | succ n ih => rw [vf_succ, ih (fun j hj => h j (by omega)), h n (by omega)]; simp
/-- Noughts at the end count nothing. -/
theorem vf_ext {f : Nat → Int} {m n : Nat} (hm : m ≤ n) (h : ∀ j, m ≤ j → j < n → f j = 0) : vf f n = vf f m := by
  obtain ⟨d, rfl⟩ := Nat.exists_eq_add_of_le hm
  rw [vf_split, vf_zero (f := sh f m) (fun j hj => h _ (by omega) (by omega))]; simp
theorem vf_form_ge {f : Nat → Int} {n : Nat} (h : Lm f n) (hf : Fm f n) (hn : 0 < n) : pw (n - 1) ≤ vf f n := by
  obtain ⟨m, rfl⟩ : ∃ m, n = m + 1 := ⟨n - 1, by omega⟩
  have h0 := vf_nonneg (h.mono (m := m) (by omega))
  have h1 := h m (by omega)
  have h2 : f m ≠ 0 := by rcases hf with h | h; omega; simpa using h
  have h3 : 1 * pw m ≤ f m * pw m := Int.mul_le_mul_of_nonneg_right (by omega) (Int.le_of_lt (pw_pos m))
  rw [vf_succ]; simp at h3 ⊢; omega
theorem pw_mono {m n : Nat} (h : m ≤ n) : pw m ≤ pw n := by
  induction n with
  | zero => obtain rfl : m = 0 := by omega
            exact Int.le_refl _
  | succ n ih =>
    by_cases hm : m = n + 1
    · subst hm; exact Int.le_refl _
    · have := ih (by omega); have := pw_pos n; rw [pw_succ]; omega
theorem vf_le {f : Nat → Int} {m n : Nat} (h : Lm f n) (hm : m ≤ n) : vf f m ≤ vf f n := by
  obtain ⟨d, rfl⟩ := Nat.exists_eq_add_of_le hm
  have h1 := vf_nonneg (h.sh (o := m) (m := d) (Nat.le_refl _))
  have h2 := Int.mul_nonneg h1 (Int.le_of_lt (pw_pos m))
  rw [vf_split]; omega
/-- One number, one list (of one length). -/
theorem vf_inj_same {f g : Nat → Int} {n : Nat} (hf : Lm f n) (hg : Lm g n) (h : vf f n = vf g n) : ∀ j, j < n → f j = g j := by
  induction n with
  | zero => intro j hj; omega
  | succ n ih =>
    have a1 := vf_nonneg (hf.mono (m := n) (by omega)); have a2 := vf_lt (hf.mono (m := n) (by omega))
    have b1 := vf_nonneg (hg.mono (m := n) (by omega)); have b2 := vf_lt (hg.mono (m := n) (by omega))
    rw [vf_succ, vf_succ] at h
    have hp := pw_pos n
    have e : f n = g n := by
      rcases Int.lt_trichotomy (f n) (g n) with hl | hl | hl
      · have : (f n + 1) * pw n ≤ g n * pw n := Int.mul_le_mul_of_nonneg_right (by omega) (Int.le_of_lt hp)
        rw [Int.add_mul, Int.one_mul] at this; omega
      · exact hl
      · have : (g n + 1) * pw n ≤ f n * pw n := Int.mul_le_mul_of_nonneg_right (by omega) (Int.le_of_lt hp)
        rw [Int.add_mul, Int.one_mul] at this; omega
    have hr := ih (hf.mono (by omega)) (hg.mono (by omega)) (by rw [e] at h; omega)
    intro j hj
    by_cases hjn : j = n
    · subst hjn; exact e
    · exact hr j (by omega)
theorem vf_len {f g : Nat → Int} {n m : Nat} (hf : Lm f n) (hg : Lm g m) (ff : Fm f n) (h : vf f n ≤ vf g m) : n ≤ m := by
  apply Nat.le_of_not_lt
  intro hlt
  have h1 := vf_form_ge hf ff (by omega)
  have h2 := vf_lt hg
  have h3 := pw_mono (m := m) (n := n - 1) (by omega)
  omega
/-- One number, one list in form. -/
theorem vf_inj {f g : Nat → Int} {n m : Nat} (hf : Lm f n) (hg : Lm g m) (ff : Fm f n) (fg : Fm g m) (h : vf f n = vf g m) : n = m ∧ ∀ j, j < n → f j = g j := by
  have e : n = m := Nat.le_antisymm (vf_len hf hg ff (by omega)) (vf_len hg hf fg (by omega))
  subst e
  exact ⟨rfl, vf_inj_same hf hg h⟩
/-- The trimmed list. -/
theorem trim_val {f : Nat → Int} {m n : Nat} (hm : m ≤ n) (hz : ∀ j, m ≤ j → j < n → f j = 0) : vf f m = vf f n := (vf_ext hm hz).symm
end Go.Proofs.YtjjbmioicliipabDoor
