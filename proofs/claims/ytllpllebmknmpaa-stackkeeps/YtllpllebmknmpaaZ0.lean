/-
  Plain words on memory: what a slice of numbers reads as, a block of the call's own, and what a call may have turned. No Go text is named here. Walks of package nat's smallest functions: Form, order, cmp, trim, padded, clone, fromWord: what each call answers and what it does to memory. math/bits.Add64 and Sub64, at this translation's numbers, over whole numbers. Walks of package nat's sums and differences in place: addWord, addTo, subFrom. Walks of package nat's difference in place (subFrom) and of the lists it makes: padded, clone, fromWord. The kit's laws on make, copy and append, said in the words of the text Mem. No Go text is named here. Walks of package nat's lists and sums: padded, clone, fromWord, add, sub. Walks of package nat's calls Add, Sub, Cmp. Contracts of the library that lie ready, laid at this translation: math/bits, internal/strconv. math/bits.Div64: quotient and rest of a number of two limbs by a limb. math/bits.Div64: its contract. Walks of package nat's quotients by one limb, and of the greatest common divisor of two limbs. Walks of package nat: divMod by one limb or of a lesser number, gcd of one limb, and the calls DivMod and Gcd there. Walks of package nat's products, limb by limb: mulAdd, mulAddTo, addLimbProducts. Walks of package nat's products of a number and one of less than 40 limbs: addProduct, product, mul. Walks of package nat's products of long numbers: half, addPieceProducts. The walk of package nat's addCutProduct: three products in place of four. Package nat's products for all lengths.
-/
import Derived.WalkKit
import Derived.Laws.CopyOwn
import Derived.Test.YtllpllebmknmpaaProg
import Derived.WalkSpells
import Derived.WalkLawsBesides
import Derived.Deep.QuietTactic
import Derived.BigQuiet
import Derived.Deep.Draws
import Derived.Shelf.Spec.BitsCarry
import Derived.BigRegion
import Derived.OwnWalk
import Derived.Laws.AppendOwnNone
import Derived.Shelf.Small.Bits
import Derived.Shelf.Strconv.Itoa0
import Derived.Shelf.Bits.Mul64
import Derived.Deep.RegionWith
import Derived.Deep.RegionHeld3
import Derived.Deep.CutRange
namespace Go.Proofs.Ytllpllebmknmpaa
open Go.RowKit

/-- A fact put aside. -/
theorem hid {p : Prop} (h : p) : Hid p := h

/-- The slice at 'ao' with n elements of kind k reads as f. -/
def Rd (k : IntKind) (w : World) (ao : Option Addr) (n : Nat) (f : Nat → Int) : Prop :=
  ∀ j, j < n → ∃ b o, ao = some ⟨b, o, none⟩ ∧ w.cell? ⟨b, o + j, none⟩ = some (.int k (f j))

/-- Block g is a row of N numbers of kind k, element type e, none frozen, that hold f. -/
def Blk (k : IntKind) (e : TypeId) (w : World) (g N : Nat) (f : Nat → Int) : Prop :=
  ∃ arr : Array Value, w.heap[g]? = some (.cells arr e (0, 0)) ∧ arr.size = N ∧ ∀ j, j < N → arr[j]? = some (.int k (f j))

/-- Nothing but block g has turned; there may be new blocks. -/
structure Only (g : Nat) (w w' : World) : Prop where
  os : w'.os = w.os
  tape : w'.tape = w.tape
  output : w'.output = w.output
  size : w.heap.size ≤ w'.heap.size
  block : ∀ k, k < w.heap.size → k ≠ g → w'.heap[k]? = w.heap[k]?

/-- The list from place o on. -/
def sh (f : Nat → Int) (o : Nat) : Nat → Int := fun j => f (o + j)
theorem sh_at (f : Nat → Int) (o j : Nat) : sh f o j = f (o + j) := rfl
theorem sh_zero (f : Nat → Int) : sh f 0 = f := by funext j; rw [sh_at, Nat.zero_add]
theorem sh_sh (f : Nat → Int) (a b : Nat) : sh (sh f a) b = sh f (a + b) := by funext j; rw [sh_at, sh_at, sh_at, Nat.add_assoc]
/-- One number turned. -/
def upd (f : Nat → Int) (i : Nat) (v : Int) : Nat → Int := fun j => if j = i then v else f j
theorem upd_same (f : Nat → Int) (i : Nat) (v : Int) : upd f i v i = v := by simp [upd]
theorem upd_other (f : Nat → Int) (i : Nat) (v : Int) (j : Nat) (h : j ≠ i) : upd f i v j = f j := by simp [upd, h]

/-- The slice's memory is not block g. -/
def Off (ao : Option Addr) (g : Nat) : Prop := ∀ a, ao = some a → a.block ≠ g
/-- The slice's memory lies below block number B (or it has none). -/
def Und (ao : Option Addr) (B : Nat) : Prop := ∀ a, ao = some a → a.block < B
theorem Und.off {ao : Option Addr} {B g : Nat} (h : Und ao B) (hg : B ≤ g) : Off ao g := fun a ha => by have := h a ha; omega
theorem Und.mono {ao : Option Addr} {B B' : Nat} (h : Und ao B) (hB : B ≤ B') : Und ao B' := fun a ha => by have := h a ha; omega
theorem und_none (B : Nat) : Und none B := fun a h => by cases h
theorem und_some {b o : Nat} {s} {B : Nat} (h : b < B) : Und (some ⟨b, o, s⟩) B := fun a ha => by cases ha; exact h
theorem off_none (B : Nat) : Off none B := fun a h => by cases h
theorem off_some {b o : Nat} {s} {g : Nat} (h : b ≠ g) : Off (some ⟨b, o, s⟩) g := fun a ha => by cases ha; exact h

theorem Rd.cell {k w n f b o} (h : Rd k w (some ⟨b, o, none⟩) n f) {j : Nat} (hj : j < n) : w.cell? ⟨b, o + j, none⟩ = some (.int k (f j)) := by
  obtain ⟨b', o', e, hc⟩ := h j hj
  cases e; exact hc
theorem Rd.at {k w ao n f} (h : Rd k w ao n f) (hn : 0 < n) : ∃ b o, ao = some ⟨b, o, none⟩ := by
  obtain ⟨b, o, e, _⟩ := h 0 hn
  exact ⟨b, o, e⟩
theorem Rd.zero {k w ao f} : Rd k w ao 0 f := fun j hj => by omega
theorem Rd.mk {k w n f b o} (h : ∀ j, j < n → w.cell? ⟨b, o + j, none⟩ = some (.int k (f j))) : Rd k w (some ⟨b, o, none⟩) n f := fun j hj => ⟨b, o, rfl, h j hj⟩
theorem Rd.congr {k w ao n f f'} (h : Rd k w ao n f) (he : ∀ j, j < n → f j = f' j) : Rd k w ao n f' := fun j hj => by
  obtain ⟨b, o, e, hc⟩ := h j hj
  exact ⟨b, o, e, by rw [hc, he j hj]⟩
theorem Rd.take {k w ao n f} (h : Rd k w ao n f) {m : Nat} (hm : m ≤ n) : Rd k w ao m f := fun j hj => h j (by omega)
theorem Rd.drop {k w n f b o} (h : Rd k w (some ⟨b, o, none⟩) n f) {i m : Nat} (hm : i + m ≤ n) : Rd k w (some ⟨b, o + i, none⟩) m (sh f i) := fun j hj =>
  ⟨b, o + i, rfl, by have := h.cell (j := i + j) (by omega); rw [← Nat.add_assoc] at this; exact this⟩
theorem Rd.und {k w ao n f} (h : Rd k w ao n f) (hn : 0 < n) : Und ao w.heap.size := fun a ha => by
  obtain ⟨b, o, e, hc⟩ := h 0 hn
  rw [ha] at e; cases e
  exact World.block_lt_of_cell? w _ hc
theorem Rd.below {k w w' ao n f} {B : Nat} (h : Rd k w ao n f) (hb : Below B w w') (hB : w.heap.size ≤ B) : Rd k w' ao n f := fun j hj => by
  obtain ⟨b, o, e, hc⟩ := h j hj
  have := World.block_lt_of_cell? w _ hc
  exact ⟨b, o, e, (hb.cell (p := ⟨b, o + j, none⟩) (by simp at this ⊢; omega)).trans hc⟩
theorem Rd.only {k w w' ao n f} {g : Nat} (h : Rd k w ao n f) (hb : Only g w w') (ho : Off ao g) : Rd k w' ao n f := fun j hj => by
  obtain ⟨b, o, e, hc⟩ := h j hj
  have hl := World.block_lt_of_cell? w _ hc
  exact ⟨b, o, e, (World.cell?_of_block (hb.block b hl (by have := ho _ e; simpa using this))).trans hc⟩
theorem Rd.drew {k w ao n f} (h : Rd k w ao n f) : Rd k w.drew ao n f := h

theorem Blk.cell {k e w g N f} (h : Blk k e w g N f) {j : Nat} (hj : j < N) : w.cell? ⟨g, j, none⟩ = some (.int k (f j)) := by
  obtain ⟨arr, h1, h2, h3⟩ := h
  simp [World.cell?, h1, h3 j hj]
theorem Blk.frozen {k e w g N f} (h : Blk k e w g N f) (j : Nat) : w.frozen? ⟨g, j, none⟩ = false := by
  obtain ⟨arr, h1, h2, h3⟩ := h
  simp [World.frozen?, h1]
theorem Blk.lt {k e w g N f} (h : Blk k e w g N f) : g < w.heap.size := by
  obtain ⟨arr, h1, h2, h3⟩ := h
  exact (Array.getElem?_eq_some_iff.1 h1).1
theorem Blk.congr {k e w g N f f'} (h : Blk k e w g N f) (he : ∀ j, j < N → f j = f' j) : Blk k e w g N f' := by
  obtain ⟨arr, h1, h2, h3⟩ := h
  exact ⟨arr, h1, h2, fun j hj => by rw [h3 j hj, he j hj]⟩
theorem Blk.of {k e w w' g N f} (h : Blk k e w g N f) (he : w'.heap[g]? = w.heap[g]?) : Blk k e w' g N f := by
  obtain ⟨arr, h1, h2, h3⟩ := h
  exact ⟨arr, he.trans h1, h2, h3⟩
theorem Blk.drew {k e w g N f} (h : Blk k e w g N f) : Blk k e w.drew g N f := h
theorem Blk.below {k e w w' g N f} {B : Nat} (h : Blk k e w g N f) (hb : Below B w w') (hg : g < B) : Blk k e w' g N f := h.of (hb.block g hg)
theorem Blk.only {k e w w' g g' N f} (h : Blk k e w g N f) (hb : Only g' w w') (hg : g ≠ g') : Blk k e w' g N f := h.of (hb.block g h.lt hg)
theorem Blk.alloc {k e w g N f} (h : Blk k e w g N f) (o : Obj) : Blk k e (w.alloc o) g N f := h.of (Below.heap_alloc _ _ _ h.lt)
theorem Blk.set {k e w g N f} (h : Blk k e w g N f) (i : Nat) (v : Int) : Blk k e (w.setCell ⟨g, i, none⟩ (.int k v)) g N (upd f i v) := by
  obtain ⟨arr, h1, h2, h3⟩ := h
  refine ⟨arr.setIfInBounds i (.int k v), ?_, by simpa using h2, fun j hj => ?_⟩
  · simp [World.setCell, Array.getElem?_modify, h1]
  · by_cases hji : j = i
    · subst hji; simp [upd, h2, hj]
    · rw [Array.getElem?_setIfInBounds, if_neg (by omega), h3 j hj]; simp [upd, hji]
theorem Blk.setOther {k e w g N f} (h : Blk k e w g N f) {a : Addr} (ha : g ≠ a.block) (v : Value) : Blk k e (w.setCell a v) g N f := h.of (Below.heap_setCell _ _ _ _ ha)
theorem Blk.rd {k e w g N f} (h : Blk k e w g N f) {o n : Nat} (hn : o + n ≤ N) : Rd k w (some ⟨g, o, none⟩) n (sh f o) := fun j hj => ⟨g, o, rfl, h.cell (by omega)⟩
theorem Blk.rd0 {k e w g N f} (h : Blk k e w g N f) {n : Nat} (hn : n ≤ N) : Rd k w (some ⟨g, 0, none⟩) n f := fun j hj => ⟨g, 0, rfl, by rw [Nat.zero_add]; exact h.cell (by omega)⟩

theorem Only.refl (g : Nat) (w : World) : Only g w w := ⟨rfl, rfl, rfl, Nat.le_refl _, fun _ _ _ => rfl⟩
theorem Only.trans {g : Nat} {a b c : World} (h : Only g a b) (k : Only g b c) : Only g a c :=
  ⟨k.os.trans h.os, k.tape.trans h.tape, k.output.trans h.output, Nat.le_trans h.size k.size, fun i hi hn => (k.block i (Nat.lt_of_lt_of_le hi h.size) hn).trans (h.block i hi hn)⟩
theorem Only.drew {g : Nat} {a w : World} (h : Only g a w) : Only g a w.drew := ⟨h.os, h.tape, h.output, h.size, h.block⟩
theorem Only.setCell {g : Nat} {a w : World} (h : Only g a w) (i : Nat) (s) (u : Value) : Only g a (w.setCell ⟨g, i, s⟩ u) :=
  h.trans ⟨rfl, rfl, rfl, by simp [World.setCell], fun k _ hn => Below.heap_setCell _ _ _ _ hn⟩
theorem Only.alloc {g : Nat} {a w : World} (h : Only g a w) (o : Obj) : Only g a (w.alloc o) :=
  h.trans ⟨rfl, rfl, rfl, by simp, fun k hk _ => Below.heap_alloc _ _ _ hk⟩
theorem Only.of_below {g : Nat} {w w' : World} (h : Below w.heap.size w w') : Only g w w' := ⟨h.os, h.tape, h.output, h.size, fun k hk _ => h.block k hk⟩
theorem Only.below {g B : Nat} {w w' : World} (h : Only g w w') (hB : B ≤ g) (hs : B ≤ w.heap.size) : Below B w w' := ⟨h.os, h.tape, h.output, h.size, fun k hk => h.block k (by omega) (by omega)⟩
/-- What was turned is a block of the call's own: seen from ahead of that block nothing has turned. -/
theorem below_only {g B : Nat} {w w' w'' : World} (h : Below B w w') (h2 : Only g w' w'') (hB : B ≤ g) (hs : B ≤ w'.heap.size) : Below B w w'' := h.trans (h2.below hB hs)
/-- The value of the first n limbs. -/
def pw : Nat → Int | 0 => 1 | n + 1 => 18446744073709551616 * pw n
def vf (f : Nat → Int) : Nat → Int | 0 => 0 | n + 1 => vf f n + f n * pw n
/-- Each of the first n is a limb. -/
def Lm (f : Nat → Int) (n : Nat) : Prop := ∀ j, j < n → 0 ≤ f j ∧ f j < 18446744073709551616
/-- In form: the last one is not 0. -/
def Fm (f : Nat → Int) (n : Nat) : Prop := n = 0 ∨ f (n - 1) ≠ 0

def fmB (f : Nat → Int) (n : Nat) : Bool := decide (n = 0) || !decide (f (n - 1) = 0)
theorem fmB_iff (f : Nat → Int) (n : Nat) : fmB f n = true ↔ Fm f n := by simp [fmB, Fm]

theorem pw_pos (n : Nat) : 0 < pw n := by induction n with | zero => decide | succ n ih => simp only [pw]; omega
theorem pw_succ (n : Nat) : pw (n + 1) = 18446744073709551616 * pw n := rfl
theorem pw_add (m n : Nat) : pw (m + n) = pw m * pw n := by
  induction n with
  | zero => simp [pw]
  | succ n ih => rw [← Nat.add_assoc, pw_succ, ih, pw_succ]; grind
theorem vf_succ (f : Nat → Int) (n : Nat) : vf f (n + 1) = vf f n + f n * pw n := rfl
theorem vf_congr {f g : Nat → Int} {n : Nat} (h : ∀ j, j < n → f j = g j) : vf f n = vf g n := by
  induction n with
  | zero => rfl
  | succ n ih => rw [vf_succ, vf_succ, ih (fun j hj => h j (by omega)), h n (by omega)]
theorem Lm.mono {f n m} (h : Lm f n) (hm : m ≤ n) : Lm f m := fun j hj => h j (by omega)
theorem Lm.congr {f g : Nat → Int} {n : Nat} (h : Lm f n) (he : ∀ j, j < n → f j = g j) : Lm g n := fun j hj => by rw [← he j hj]; exact h j hj
theorem Lm.upd {f n} (h : Lm f n) {i : Nat} {v : Int} (hv : 0 ≤ v ∧ v < 18446744073709551616) : Lm (upd f i v) n := fun j hj => by
  by_cases hji : j = i
  · subst hji; rw [upd_same]; exact hv
  · rw [upd_other _ _ _ _ hji]; exact h j hj
theorem Lm.sh {f n} (h : Lm f n) {o m : Nat} (hm : o + m ≤ n) : Lm (sh f o) m := fun j hj => h (o + j) (by omega)
theorem vf_nonneg {f : Nat → Int} {n : Nat} (h : Lm f n) : 0 ≤ vf f n := by
  induction n with
  | zero => simp [vf]
  | succ n ih =>
    have h1 := ih (h.mono (by omega))
    have h2 := Int.mul_nonneg (h n (by omega)).1 (Int.le_of_lt (pw_pos n))
    rw [vf_succ]; omega
theorem vf_lt {f : Nat → Int} {n : Nat} (h : Lm f n) : vf f n < pw n := by
  induction n with
  | zero => simp [vf, pw]
  | succ n ih =>
    have h1 := ih (h.mono (by omega))
    have h2 : (f n + 1) * pw n ≤ 18446744073709551616 * pw n := Int.mul_le_mul_of_nonneg_right (by have := (h n (by omega)).2; omega) (Int.le_of_lt (pw_pos n))
    rw [Int.add_mul, Int.one_mul] at h2
    rw [vf_succ, pw_succ]; omega
/-- A number cut in two. -/
theorem vf_split (f : Nat → Int) (m n : Nat) : vf f (m + n) = vf f m + vf (sh f m) n * pw m := by
  induction n with
  | zero => simp [vf]
  | succ n ih => rw [← Nat.add_assoc, vf_succ, ih, vf_succ, pw_add, sh_at]; grind
theorem vf_zero {f : Nat → Int} {n : Nat} (h : ∀ j, j < n → f j = 0) : vf f n = 0 := by
  induction n with
  | zero => rfl
  | succ n ih => rw [vf_succ, ih (fun j hj => h j (by omega)), h n (by omega)]; simp
/-- Noughts at the end count nothing. -/
theorem vf_ext {f : Nat → Int} {m n : Nat} (hm : m ≤ n) (h : ∀ j, m ≤ j → j < n → f j = 0) : vf f n = vf f m := by
  obtain ⟨d, rfl⟩ := Nat.exists_eq_add_of_le hm
  rw [vf_split, vf_zero (f := sh f m) (fun j hj => h _ (by omega) (by omega))]; simp
theorem vf_form_ge {f : Nat → Int} {n : Nat} (h : Lm f n) (hf : Fm f n) (hn : 0 < n) : pw (n - 1) ≤ vf f n := by
  obtain ⟨m, rfl⟩ : ∃ m, n = m + 1 := ⟨n - 1, by omega⟩
  have h0 := vf_nonneg (h.mono (m := m) (by omega))
  have h1 := h m (by omega)
  have h2 : f m ≠ 0 := by rcases hf with h | h; omega; simpa using h
  have h3 : 1 * pw m ≤ f m * pw m := Int.mul_le_mul_of_nonneg_right (by omega) (Int.le_of_lt (pw_pos m))
  rw [vf_succ]; simp at h3 ⊢; omega
theorem pw_mono {m n : Nat} (h : m ≤ n) : pw m ≤ pw n := by
  induction n with
  | zero => obtain rfl : m = 0 := by omega
            exact Int.le_refl _
  | succ n ih =>
    by_cases hm : m = n + 1
    · subst hm; exact Int.le_refl _
    · have := ih (by omega); have := pw_pos n; rw [pw_succ]; omega
/-- One number, one list (of one length). -/
theorem vf_inj_same {f g : Nat → Int} {n : Nat} (hf : Lm f n) (hg : Lm g n) (h : vf f n = vf g n) : ∀ j, j < n → f j = g j := by
  induction n with
  | zero => intro j hj; omega
  | succ n ih =>
    have a1 := vf_nonneg (hf.mono (m := n) (by omega)); have a2 := vf_lt (hf.mono (m := n) (by omega))
    have b1 := vf_nonneg (hg.mono (m := n) (by omega)); have b2 := vf_lt (hg.mono (m := n) (by omega))
    rw [vf_succ, vf_succ] at h
    have hp := pw_pos n
    have e : f n = g n := by
      rcases Int.lt_trichotomy (f n) (g n) with hl | hl | hl
      · have : (f n + 1) * pw n ≤ g n * pw n := Int.mul_le_mul_of_nonneg_right (by omega) (Int.le_of_lt hp)
        rw [Int.add_mul, Int.one_mul] at this; omega
      · exact hl
      · have : (g n + 1) * pw n ≤ f n * pw n := Int.mul_le_mul_of_nonneg_right (by omega) (Int.le_of_lt hp)
        rw [Int.add_mul, Int.one_mul] at this; omega
    have hr := ih (hf.mono (by omega)) (hg.mono (by omega)) (by rw [e] at h; omega)
    intro j hj
    by_cases hjn : j = n
    · subst hjn; exact e
    · exact hr j (by omega)
theorem vf_len {f g : Nat → Int} {n m : Nat} (hf : Lm f n) (hg : Lm g m) (ff : Fm f n) (h : vf f n ≤ vf g m) : n ≤ m := by
  apply Nat.le_of_not_lt
  intro hlt
  have h1 := vf_form_ge hf ff (by omega)
  have h2 := vf_lt hg
  have h3 := pw_mono (m := m) (n := n - 1) (by omega)
  omega
/-- One number, one list in form. -/
theorem vf_inj {f g : Nat → Int} {n m : Nat} (hf : Lm f n) (hg : Lm g m) (ff : Fm f n) (fg : Fm g m) (h : vf f n = vf g m) : n = m ∧ ∀ j, j < n → f j = g j := by
  have e : n = m := Nat.le_antisymm (vf_len hf hg ff (by omega)) (vf_len hg hf fg (by omega))
  subst e
  exact ⟨rfl, vf_inj_same hf hg h⟩
/-- The trimmed list. -/
theorem trim_val {f : Nat → Int} {m n : Nat} (hm : m ≤ n) (hz : ∀ j, m ≤ j → j < n → f j = 0) : vf f m = vf f n := (vf_ext hm hz).symm
end Go.Proofs.Ytllpllebmknmpaa
namespace Go.Proofs.Ytllpllebmknmpaa
open Go.RowKit

/-- The order of two numbers, as a number. -/
def Ord (c a b : Int) : Prop := c = -1 ∧ a < b ∨ c = 0 ∧ a = b ∨ c = 1 ∧ b < a

theorem order_c (b : Bool) (w : World) : Calls Try.prog 81 #[.bool b] w fun e w' => e = .returned (.int .i64 (if b then -1 else 1)) ∧ w' = w := by
  cases b
  all_goals
    go_enter Try.func81, Try.ntmps81
    go_wp2
    go_ret
    exact ⟨rfl, rfl⟩

set_option maxHeartbeats 400000 in
theorem form_c (ao : Option Addr) (n cap : Nat) (f : Nat → Int) (w : World) (hm : n ≤ 9223372036854775807) (hr : Rd .u64 w ao n f) :
    Calls Try.prog 63 #[.slice ao n cap] w fun e w' => e = .returned (.bool (fmB f n)) ∧ w' = w := by
  by_cases h0 : n = 0
  · subst h0
    have e : fmB f 0 = true := by simp [fmB]
    go_enter Try.func63, Try.ntmps63
    go_wp2
    go_ret
    exact ⟨by rw [e]; rfl, rfl⟩
  · obtain ⟨b, o, rfl⟩ := hr.at (by omega)
    obtain ⟨x, hx⟩ : ∃ x, f (n - 1) = x := ⟨_, rfl⟩
    have hc : w.cell? ⟨b, o + (n - 1), none⟩ = some (.int .u64 x) := by rw [← hx]; exact hr.cell (by omega)
    have h1 : ((n : Int) == 0) = false := by simp; omega
    have e : fmB f n = (x != 0) := by simp [fmB, h0, hx, bne]; rfl
    have E := hid e
    clear hr hx e
    go_enter Try.func63, Try.ntmps63
    go_wp2
    go_ret
    exact ⟨by rw [E.out]; rfl, rfl⟩

set_option maxHeartbeats 400000 in
theorem trim_c (ao : Option Addr) (n cap : Nat) (f : Nat → Int) (w : World) (hc : n ≤ cap) (hm : cap ≤ 140737488355328) (hr : Rd .u64 w ao n f) :
    Calls Try.prog 83 #[.slice ao n cap] w fun e w' => w' = w ∧ ∃ m, m ≤ n ∧ (∀ j, m ≤ j → j < n → f j = 0) ∧
      (m = 0 ∧ e = .returned (.slice none 0 0) ∨ 0 < m ∧ f (m - 1) ≠ 0 ∧ e = .returned (.slice ao m cap)) := by
  go_enter Try.func83, Try.ntmps83
  go_wp2
  go_loop [3] (fun t => ∃ m : Nat, m ≤ n ∧ t = .int .i64 m ∧ Hid (∀ j, m ≤ j → j < n → f j = 0)) (fun t => (intOf t).toNat)
  case atStart => exact ⟨n, Nat.le_refl _, rfl, fun j h1 h2 => by omega⟩
  case round =>
    obtain ⟨m, hmn, rfl, HZ⟩ := hrel
    by_cases h0 : 0 < m
    · obtain ⟨b, o, rfl⟩ := hr.at (by omega)
      obtain ⟨x, hx⟩ : ∃ x, f (m - 1) = x := ⟨_, rfl⟩
      have hcell : w.cell? ⟨b, o + (m - 1), none⟩ = some (.int .u64 x) := by rw [← hx]; exact hr.cell (by omega)
      have HX : Hid (f (m - 1) = x) := hx
      clear hx hr
      by_cases hx0 : x = 0
      · subst hx0
        go_wp2
        go_round
        case rel =>
          refine ⟨m - 1, by omega, by go_num, fun j h1 h2 => ?_⟩
          by_cases hj : j = m - 1
          · rw [hj]; exact HX.out
          · exact HZ.out j (by omega) h2
        case measure => simp [intOf]; omega
      · have hx1 : (x == 0) = false := by simp [hx0]
        go_wp2
        go_ret
        exact ⟨rfl, m, hmn, HZ.out, .inr ⟨h0, by rw [HX.out]; exact hx0, rfl⟩⟩
    · have h00 : m = 0 := by omega
      subst h00
      go_wp2
      go_ret
      exact ⟨rfl, 0, hmn, HZ.out, .inl ⟨rfl, rfl⟩⟩

/-- Two lists that are alike from place k on. -/
theorem cmp_step {f g : Nat → Int} {n k : Nat} (hf : Lm f n) (hg : Lm g n) (hk : k < n) (he : ∀ j, k < j → j < n → f j = g j) (hl : f k < g k) : vf f n < vf g n := by
  obtain ⟨d, rfl⟩ := Nat.exists_eq_add_of_le (show k + 1 ≤ n by omega)
  have e : vf (sh f (k + 1)) d = vf (sh g (k + 1)) d := vf_congr (fun j hj => he _ (by omega) (by omega))
  have a := vf_lt (hf.mono (m := k) (by omega)); have b := vf_nonneg (hg.mono (m := k) (by omega))
  have hp : (f k + 1) * pw k ≤ g k * pw k := Int.mul_le_mul_of_nonneg_right (by omega) (Int.le_of_lt (pw_pos k))
  rw [Int.add_mul, Int.one_mul] at hp
  rw [vf_split f (k + 1) d, vf_split g (k + 1) d, e, vf_succ f k, vf_succ g k]
  omega

set_option maxHeartbeats 800000 in
theorem cmp_c (ao bo : Option Addr) (n m ca cb : Nat) (f g : Nat → Int) (w : World) (hm : n ≤ 140737488355328) (hm' : m ≤ 140737488355328)
    (hr : Rd .u64 w ao n f) (hs : Rd .u64 w bo m g) (hf : Lm f n) (hg : Lm g m) (ff : Fm f n) (fg : Fm g m) :
    Calls Try.prog 75 #[.slice ao n ca, .slice bo m cb] w fun e w' => (∃ q, w' = w.drewN q) ∧ ∃ c, e = .returned (.int .i64 c) ∧ Ord c (vf f n) (vf g m) := by
  have FF := hid ff
  have FG := hid fg
  have HF := hid hf
  have HG := hid hg
  clear ff fg hf hg
  rcases Nat.lt_trichotomy n m with hlt | heq | hlt
  · have h1 : ((n : Int) != m) = true := by simp; omega
    have h2 : decide ((n : Int) < m) = true := by simp; omega
    have h3 : vf f n < vf g m := by
      apply Int.lt_of_not_ge; intro h
      have := vf_len HG.out HF.out FG.out h; omega
    have H3 := hid h3
    clear h3
    go_enter Try.func75, Try.ntmps75
    go_wp2_with (go_at_call 81; refine (order_c _ _).mono ?_; rintro e w' ⟨rfl, rfl⟩)
    go_ret
    exact ⟨⟨0, rfl⟩, -1, rfl, .inl ⟨rfl, H3.out⟩⟩
  · subst heq
    have h1 : ((n : Int) != n) = false := by simp
    go_enter Try.func75, Try.ntmps75
    go_wp2
    go_loopw [20] (fun t wr => ∃ i : Nat, i ≤ n ∧ t = .int .i64 i ∧ Hid (∀ j, n - i ≤ j → j < n → f j = g j) ∧ ∃ q, wr = w.drewN q) (fun t _ => n - (intOf t).toNat)
    case atStart => exact ⟨0, by omega, rfl, fun j h1 h2 => by omega, 0, rfl⟩
    case round =>
      obtain ⟨i, hin, rfl, HE, q, rfl⟩ := hrel
      by_cases hlt : i < n
      · obtain ⟨b, o, rfl⟩ := hr.at (by omega)
        obtain ⟨b', o', rfl⟩ := hs.at (by omega)
        obtain ⟨x, hx⟩ : ∃ x, f (n - 1 - i) = x := ⟨_, rfl⟩
        obtain ⟨y, hy⟩ : ∃ y, g (n - 1 - i) = y := ⟨_, rfl⟩
        have hca : w.cell? ⟨b, o + (n - 1 - i), none⟩ = some (.int .u64 x) := by rw [← hx]; exact hr.cell (by omega)
        have hcb : w.cell? ⟨b', o' + (n - 1 - i), none⟩ = some (.int .u64 y) := by rw [← hy]; exact hs.cell (by omega)
        have HX : Hid (f (n - 1 - i) = x) := hx
        have HY : Hid (g (n - 1 - i) = y) := hy
        clear hx hy hr hs
        by_cases hxy : x = y
        · subst hxy
          have hne : (x != x) = false := by simp
          go_wp2
          go_quiet (fail)
          go_wp2
          go_roundw
          case rel =>
            refine ⟨i + 1, by omega, by go_num, fun j h1 h2 => ?_, _, rfl⟩
            by_cases hj : j = n - 1 - i
            · rw [hj]; exact HX.out.trans HY.out.symm
            · exact HE.out j (by omega) h2
          case measure => simp [intOf]; omega
        · have hne : (x != y) = true := by simp [hxy]
          by_cases hl : x < y
          · have hd : decide (x < y) = true := by simp [hl]
            go_wp2
            go_quiet (fail)
            go_wp2
            go_quiet ((go_at_call 81; exact (order_c _ _).mono (fun _ _ h => ⟨h.1, _, h.2⟩)))
            go_wp2
            go_ret
            refine ⟨⟨_, by (repeat rw [World.drewN_drewN]) <;> rfl⟩, -1, rfl, .inl ⟨rfl, cmp_step HF.out HG.out (k := n - 1 - i) (by omega) (fun j h1 h2 => HE.out j (by omega) h2) (by rw [HX.out, HY.out]; exact hl)⟩⟩
          · have hd : decide (x < y) = false := by simp; omega
            go_wp2
            go_quiet (fail)
            go_wp2
            go_quiet ((go_at_call 81; exact (order_c _ _).mono (fun _ _ h => ⟨h.1, _, h.2⟩)))
            go_wp2
            go_ret
            refine ⟨⟨_, by (repeat rw [World.drewN_drewN]) <;> rfl⟩, 1, rfl, .inr (.inr ⟨rfl, cmp_step HG.out HF.out (k := n - 1 - i) (by omega) (fun j h1 h2 => (HE.out j (by omega) h2).symm) (by rw [HX.out, HY.out]; omega)⟩)⟩
      · have hi : i = n := by omega
        subst hi
        go_wp2
        go_ret
        exact ⟨⟨_, rfl⟩, 0, rfl, .inr (.inl ⟨rfl, vf_congr (fun j hj => HE.out j (by omega) hj)⟩)⟩
  · have h1 : ((n : Int) != m) = true := by simp; omega
    have h2 : decide ((n : Int) < m) = false := by simp; omega
    have h3 : vf g m < vf f n := by
      apply Int.lt_of_not_ge; intro h
      have := vf_len HF.out HG.out FF.out h; omega
    have H3 := hid h3
    clear h3
    go_enter Try.func75, Try.ntmps75
    go_wp2_with (go_at_call 81; refine (order_c _ _).mono ?_; rintro e w' ⟨rfl, rfl⟩)
    go_ret
    exact ⟨⟨0, rfl⟩, 1, rfl, .inr (.inr ⟨rfl, H3.out⟩)⟩
end Go.Proofs.Ytllpllebmknmpaa
namespace Go.Proofs.Ytllpllebmknmpaa
open Go.RowKit Go.Shelf

/-- The borrow. -/
def bor (x y : Int) : Int := if x < y then 1 else 0
theorem bor_01 (x y : Int) : 0 ≤ bor x y ∧ bor x y ≤ 1 := by unfold bor; split <;> decide

theorem add64 (x y c : Int) (hx : 0 ≤ x) (hy : 0 ≤ y) (hc0 : 0 ≤ c) (hc : c ≤ 1) (w : World) : (callFunc 100 #[.int .u64 x, .int .u64 y, .int .u64 c]).run Try.prog w =
    .ok (.value (.tuple #[.int .u64 ((x + y + c) % 18446744073709551616), .int .u64 ((x + y + c) / 18446744073709551616)])) w := by
  obtain ⟨x, rfl⟩ := Int.eq_ofNat_of_zero_le hx
  obtain ⟨y, rfl⟩ := Int.eq_ofNat_of_zero_le hy
  obtain ⟨c, rfl⟩ := Int.eq_ofNat_of_zero_le hc0
  rw [run_callFunc_extern Try.func100 (by kernel_rfl) (by kernel_rfl) (by kernel_rfl) (e := add64Entry) (by kernel_rfl), run_add64 x y c (by omega) (by omega) (by omega) (by omega)]
  simp only [Result.andThen]

theorem sub64 (x y b : Int) (hx : 0 ≤ x) (hy : 0 ≤ y) (hy' : y < 18446744073709551616) (hb0 : 0 ≤ b) (hb : b ≤ 1) (w : World) : (callFunc 94 #[.int .u64 x, .int .u64 y, .int .u64 b]).run Try.prog w =
    .ok (.value (.tuple #[.int .u64 ((x - y - b) % 18446744073709551616), .int .u64 (bor x (y + b))])) w := by
  obtain ⟨x, rfl⟩ := Int.eq_ofNat_of_zero_le hx
  obtain ⟨y, rfl⟩ := Int.eq_ofNat_of_zero_le hy
  obtain ⟨b, rfl⟩ := Int.eq_ofNat_of_zero_le hb0
  have e1 : (((x + 18446744073709551616 - y - b) % 18446744073709551616 : Nat) : Int) = ((x : Int) - y - b) % 18446744073709551616 := by omega
  have e2 : ((if x < y + b then 1 else 0 : Nat) : Int) = bor (x : Int) (y + b) := by unfold bor; split <;> split <;> omega
  rw [run_callFunc_extern Try.func94 (by kernel_rfl) (by kernel_rfl) (by kernel_rfl) (e := sub64Entry) (by kernel_rfl), run_sub64 x y b (by omega), ← e1, ← e2]
  rfl

theorem add64_0 (x y : Int) (hx : 0 ≤ x) (hy : 0 ≤ y) (w : World) : (callFunc 100 #[.int .u64 x, .int .u64 y, .int .u64 0]).run Try.prog w =
    .ok (.value (.tuple #[.int .u64 ((x + y) % 18446744073709551616), .int .u64 ((x + y) / 18446744073709551616)])) w := by
  simpa using add64 x y 0 hx hy (Int.le_refl 0) (by decide) w
theorem sub64_0 (x y : Int) (hx : 0 ≤ x) (hy : 0 ≤ y) (hy' : y < 18446744073709551616) (w : World) : (callFunc 94 #[.int .u64 x, .int .u64 y, .int .u64 0]).run Try.prog w =
    .ok (.value (.tuple #[.int .u64 ((x - y) % 18446744073709551616), .int .u64 (bor x y)])) w := by
  simpa using sub64 x y 0 hx hy hy' (Int.le_refl 0) (by decide) w
end Go.Proofs.Ytllpllebmknmpaa
namespace Go.Proofs.Ytllpllebmknmpaa
open Go.RowKit

/-- One limb of a sum. -/
theorem add_limb {V x c p : Int} : V + ((x + c) % 18446744073709551616) * p + ((x + c) / 18446744073709551616) * (18446744073709551616 * p) = V + x * p + c * p := by
  have e : x + c = 18446744073709551616 * ((x + c) / 18446744073709551616) + (x + c) % 18446744073709551616 := by omega
  grind

/-- The invariant of a carry: one round. -/
theorem carry_step {f f' : Nat → Int} {o k : Nat} {cc w0 y : Int} {G : Nat → Int} (HV : vf (sh f' o) k + cc * pw k = vf (sh f o) k + vf G k + w0) (hE : f' (o + k) = f (o + k)) (hy : G k = y) :
    vf (sh (upd f' (o + k) ((f' (o + k) + y + cc) % 18446744073709551616)) o) (k + 1) + ((f' (o + k) + y + cc) / 18446744073709551616) * pw (k + 1) = vf (sh f o) (k + 1) + vf G (k + 1) + w0 := by
  have e1 : vf (sh (upd f' (o + k) ((f' (o + k) + y + cc) % 18446744073709551616)) o) k = vf (sh f' o) k := vf_congr (fun j hj => upd_other _ _ _ _ (by omega))
  rw [vf_succ, vf_succ, vf_succ, e1, pw_succ, sh_at, sh_at, upd_same, hE, hy]
  have := add_limb (V := vf (sh f' o) k) (x := f (o + k) + y) (c := cc) (p := pw k)
  rw [this]
  grind

end Go.Proofs.Ytllpllebmknmpaa
namespace Go.Proofs.Ytllpllebmknmpaa
open Go.RowKit

/-- The list h, noughts behind its m limbs. -/
def ext (h : Nat → Int) (m : Nat) : Nat → Int := fun j => if j < m then h j else 0
theorem ext_in (h : Nat → Int) (m j : Nat) (hj : j < m) : ext h m j = h j := by simp [ext, hj]
theorem ext_out (h : Nat → Int) (m j : Nat) (hj : m ≤ j) : ext h m j = 0 := by simp [ext]; omega
theorem vf_ext_list (h : Nat → Int) (m n : Nat) (hn : m ≤ n) : vf (ext h m) n = vf h m := by
  rw [vf_ext hn (fun j h1 _ => ext_out h m j h1)]
  exact vf_congr (fun j hj => ext_in h m j hj)

end Go.Proofs.Ytllpllebmknmpaa
namespace Go.Proofs.Ytllpllebmknmpaa
open Go.RowKit

theorem addr_add (b o j : Nat) : (⟨b, o, none⟩ : Addr).add j = ⟨b, o + j, none⟩ := by
  by_cases h : j = 0
  · subst h; simp [Addr.add]
  · simp [Addr.add, h]
/-- The cells of a list of numbers. -/
def lst (k : IntKind) (f : Nat → Int) (n : Nat) : List Value := (List.range n).map (fun j => Value.int k (f j))
theorem lst_length (k : IntKind) (f : Nat → Int) (n : Nat) : (lst k f n).length = n := by simp [lst]
theorem lst_get (k : IntKind) (f : Nat → Int) (n j : Nat) (hj : j < n) : (lst k f n)[j]? = some (.int k (f j)) := by simp [lst, hj]
theorem lst_getE {k : IntKind} {f : Nat → Int} {n j : Nat} {u : Value} (h : (lst k f n)[j]? = some u) : j < n ∧ u = .int k (f j) := by
  have hj : j < n := by
    have := (List.getElem?_eq_some_iff.1 h).1
    rwa [lst_length] at this
  rw [lst_get k f n j hj] at h
  exact ⟨hj, (Option.some.inj h).symm⟩
theorem lst_one (k : IntKind) (f : Nat → Int) (n : Nat) : ∀ u ∈ lst k f n, u.oneCell' = true := by
  intro u hu
  simp only [lst, List.mem_map] at hu
  obtain ⟨j, _, rfl⟩ := hu
  rfl
theorem lst_congr {k : IntKind} {f g : Nat → Int} {n : Nat} (h : ∀ j, j < n → f j = g j) : lst k f n = lst k g n := by
  simp only [lst]
  refine List.map_congr_left (fun j hj => ?_)
  rw [h j (List.mem_range.1 hj)]
/-- Two lists behind one another. -/
def cat (f : Nat → Int) (n : Nat) (g : Nat → Int) : Nat → Int := fun j => if j < n then f j else g (j - n)
theorem cat_in {f g : Nat → Int} {n j : Nat} (h : j < n) : cat f n g j = f j := by simp [cat, h]
theorem cat_out {f g : Nat → Int} {n j : Nat} (h : n ≤ j) : cat f n g j = g (j - n) := by simp [cat]; omega
theorem lst_cat (k : IntKind) (f g : Nat → Int) (n m : Nat) : lst k f n ++ lst k g m = lst k (cat f n g) (n + m) := by
  apply List.ext_getElem?
  intro j
  by_cases h1 : j < n
  · rw [List.getElem?_append_left (by rw [lst_length]; exact h1), lst_get _ _ _ _ h1, lst_get _ _ _ _ (by omega), cat_in h1]
  · by_cases h2 : j < n + m
    · rw [List.getElem?_append_right (by rw [lst_length]; omega), lst_length, lst_get _ _ _ _ (by omega), lst_get _ _ _ _ h2, cat_out (by omega)]
    · rw [List.getElem?_eq_none (by simp [lst_length]; omega), List.getElem?_eq_none (by simp [lst_length]; omega)]

/-- The slice value v, of n numbers f, is the call's own (blocks from 'base' on), or nil. -/
def Own (k : IntKind) (e : TypeId) (w : World) (base : Nat) (v : Value) (n : Nat) (f : Nat → Int) : Prop := w.ownsRow base e 1 v n (lst k f n)
theorem own_nil (k : IntKind) (e : TypeId) (w : World) (base : Nat) (f : Nat → Int) : Own k e w base (.slice none 0 0) 0 f := World.ownsRow_nil _ _ _ _
theorem Own.shape {k e w base v n f} (h : Own k e w base v n f) : ∃ ao cap, v = .slice ao n cap ∧ n ≤ cap ∧ (ao = none → cap = 0) ∧ cap ≤ maxLen ∧ Rd k w ao n f ∧ (∀ a, ao = some a → base ≤ a.block ∧ a.block < w.heap.size) := by
  obtain ⟨h1, h2⟩ := h
  rcases h2 with ⟨rfl, rfl⟩ | ⟨g, cap, cur, rfl, hb, hg, hn, hm, hs, ht⟩
  · exact ⟨none, 0, rfl, Nat.le_refl _, fun _ => rfl, by simp [maxLen], Rd.zero, fun a ha => by cases ha⟩
  · refine ⟨_, cap, rfl, hn, (fun h => by cases h), hm, Rd.mk (fun j hj => ?_), fun a ha => ?_⟩
    · have e1 : (lst k f n)[j]? = cur.toList[j]? := by
        rw [← ht, List.getElem?_take, if_pos (by omega)]
      rw [lst_get k f n j hj] at e1
      rw [Nat.zero_add]
      simp [World.cell?, hg]
      simpa using e1.symm
    · cases ha
      exact ⟨hb, (Array.getElem?_eq_some_iff.1 hg).1⟩
theorem Own.below {k e w w' base v n f} (h : Own k e w base v n f) (hb : Below w.heap.size w w') : Own k e w' base v n f :=
  World.ownsRow.kept h ⟨hb.os, hb.tape, hb.output, hb.size, fun k hk _ => hb.block k hk⟩ (row := none) (by
    cases hv : v.ownBlock with
    | none => exact .inl rfl
    | some x => exact .inr (by simp))
theorem Own.alloc {k e w base v n f} (h : Own k e w base v n f) (o : Obj) : Own k e (w.alloc o) base v n f := World.ownsRow.alloc h o
theorem Own.ge {k e w base v n f} (h : Own k e w base v n f) : ∀ g, v.ownBlock = some g → base ≤ g := fun g hg => (World.ownsRow.lt h g hg).1
theorem Own.congr {k e w base v n f g} (h : Own k e w base v n f) (he : ∀ j, j < n → f j = g j) : Own k e w base v n g := by
  unfold Own at h ⊢; rw [← lst_congr he]; exact h
theorem own_of_blk {k e w g N f} (h : Blk k e w g N f) {base n : Nat} (hb : base ≤ g) (hn : n ≤ N) (hm : N ≤ maxLen) : Own k e w base (.slice (some ⟨g, 0, none⟩) n N) n f := by
  obtain ⟨arr, h1, h2, h3⟩ := h
  refine ⟨by rw [lst_length]; omega, .inr ⟨g, N, arr, rfl, hb, h1, hn, hm, by omega, ?_⟩⟩
  apply List.ext_getElem?
  intro j
  by_cases hj : j < n
  · rw [List.getElem?_take, if_pos (by omega), lst_get _ _ _ _ hj]; simpa using h3 j (by omega)
  · rw [List.getElem?_eq_none (by simp; omega), List.getElem?_eq_none (by rw [lst_length]; omega)]

theorem rd_new1 (w : World) (e : TypeId) (x : Int) : Rd .u64 (w.alloc (.cells #[.int .u64 x] e)) (some ⟨w.heap.size, 0, none⟩) 1 (fun _ => x) :=
  Rd.mk (fun j hj => by
    rw [Nat.zero_add, World.cell?_alloc_new]
    obtain rfl : j = 0 := by omega
    rfl)

/-- 'make([]T, n)': a block of n noughts. -/
theorem wpList_make_blk {P : Program} (k : IntKind) (w : World) {ops : Array Oper} {rest : List Oper} {o : Oper} {a : Act} {Q : Exit → Act → World → Prop}
    (hg : o.guard = none) (l c : Operand) (t : TypeId) (hop : o.op = Op.makeSlice t l c)
    (e : TypeId) (bytes : Nat) (h1 : P.underlying t = some (.slice e)) (h2 : (P.info? e).map (fun i => (i.zero, i.size, i.bytes)) = some (some (.int k 0), 1, bytes))
    (kl kc : IntKind) (L C : Int) (n : Nat) (hl : a.eval l = .int kl L) (hc : a.eval c = .int kc C) (hL : L = (n : Int)) (hC : C = (n : Int)) (b2 : bytes * n ≤ 281474976710656) (b3 : n ≤ maxLen)
    (hK : ∀ w', Blk k e w' w.heap.size n (fun _ => 0) → Below w.heap.size w w' → wpList P ops Q rest (a.put o.dst (.slice (some ⟨w.heap.size, 0, none⟩) n n)) w') :
    wpList P ops Q (o :: rest) a w := by
  obtain ⟨i, hi, hz0, hz1, hz2⟩ := info_parts h2
  refine wpList_make_full w hg l c t hop w.heap.size e i (.int k 0) 1 h1 hi hz0 hz1 kl kc L C n hl hc hL hC (by rw [hz2]; exact b2) b3 (Nat.le_refl _) ?_
  intro w' hown hgr
  refine hK w' ?_ ((Below.refl _ _).grown hgr (Nat.le_refl _) (fun k h => by cases h))
  obtain ⟨h1, h2⟩ := hown
  have hm : (madeCells (Value.int k 0).cells (n * 1)).toList = lst k (fun _ => 0) n := by
    show (madeCells #[Value.int k 0] (n * 1)).toList = _
    rw [toList_madeCells_one, Nat.mul_one]
    apply List.ext_getElem?
    intro j
    by_cases hj : j < n
    · rw [lst_get _ _ _ _ hj, List.getElem?_replicate, if_pos hj]
    · rw [List.getElem?_eq_none (by simp; omega), List.getElem?_eq_none (by rw [lst_length]; omega)]
  rcases h2 with ⟨hv, _⟩ | ⟨g, cap, cur, hv, hb, hg, hn, hm2, hs, ht⟩
  · cases hv
  · cases hv
    refine ⟨cur, hg, by omega, fun j hj => ?_⟩
    rw [hm] at ht
    have : cur.toList[j]? = (lst k (fun _ => 0) n)[j]? := by rw [← ht, List.getElem?_take, if_pos (by omega)]
    rw [lst_get _ _ _ _ hj] at this
    simpa using this

/-- The row behind a copy of n numbers h to place off. -/
def put (f : Nat → Int) (off n : Nat) (h : Nat → Int) : Nat → Int := fun j => if off ≤ j ∧ j < off + n then h (j - off) else f j
theorem put_in {f h : Nat → Int} {off n j : Nat} (h1 : off ≤ j) (h2 : j < off + n) : put f off n h j = h (j - off) := by simp [put, h1, h2]
theorem put_out {f h : Nat → Int} {off n j : Nat} (h1 : j < off ∨ off + n ≤ j) : put f off n h j = f j := by
  unfold put; rw [if_neg (by omega)]

theorem setRow_blk {k e w g N f off n h} (hb : Blk k e w g N f) (hfit : off + n ≤ N) {cur : Array Value} {t fr} (hc : w.heap[g]? = some (.cells cur t fr)) :
    Blk k e (w.setRow g (cur.toList.take off ++ (lst k h n ++ cur.toList.drop (off + (lst k h n).length))).toArray) g N (put f off n h) := by
  obtain ⟨arr, h1, h2, h3⟩ := hb
  rw [h1] at hc
  obtain rfl : arr = cur := by simpa using congrArg (fun o => match o with | some (Obj.cells c _ _) => c | _ => #[]) hc
  refine ⟨_, setRow_heap w g _ _ _ _ h1, by simp [lst_length, h2]; omega, fun j hj => ?_⟩
  rw [List.getElem?_toArray]
  by_cases a1 : j < off
  · rw [List.getElem?_append_left (by simp; omega), List.getElem?_take, if_pos a1, put_out (.inl a1)]
    simpa using h3 j hj
  · rw [List.getElem?_append_right (by simp; omega)]
    have e1 : (List.take off arr.toList).length = off := by simp; omega
    rw [e1]
    by_cases a2 : j < off + n
    · rw [List.getElem?_append_left (by rw [lst_length]; omega), lst_get _ _ _ _ (by omega), put_in (by omega) a2]
    · rw [List.getElem?_append_right (by rw [lst_length]; omega), lst_length, List.getElem?_drop, put_out (by omega)]
      have e2 : off + n + (j - off - n) = j := by omega
      rw [e2]
      simpa using h3 j hj

/-- 'copy(d, s)' into a block of the call's own. -/
theorem wpList_copy_blk {P : Program} (k : IntKind) (w : World) {ops : Array Oper} {rest : List Oper} {o : Oper} {a : Act} {Q : Exit → Act → World → Prop} (hgd : o.guard = none) (d s : Operand) (dT sT : TypeId)
    (ho : o.op = .call { callee := .builtin .copy, args := #[d, s], argTypes := #[dT, sT] }) (e : TypeId) (hu : P.underlying dT = some (.slice e)) (hsz : (P.info? e).map (·.size) = some 1)
    (g off N : Nat) (f : Nat → Int) (sp : Option Addr) (dLen dCap sLen sCap n : Nat) (h : Nat → Int) (hd : a.eval d = .slice (some ⟨g, off, none⟩) dLen dCap) (hs : a.eval s = .slice sp sLen sCap)
    (hb : Blk k e w g N f) (hr : Rd k w sp sLen h) (hn : n = Nat.min sLen dLen) (hfit : off + n ≤ N)
    (hK : ∀ w', Blk k e w' g N (put f off n h) → Only g w w' → wpList P ops Q rest (a.put o.dst (goInt n)) w') : wpList P ops Q (o :: rest) a w := by
  by_cases h0 : n = 0
  · subst h0
    refine wpList_copy_nothing hgd d s dT sT ho e hu hsz _ sp dLen dCap sLen sCap hd hs hn.symm ?_
    exact hK w (hb.congr (fun j _ => (put_out (by omega)).symm)) (Only.refl _ _)
  · have hs1 : Nat.min sLen dLen ≤ sLen := Nat.min_le_left _ _
    obtain ⟨b, ob, rfl⟩ := hr.at (by omega)
    obtain ⟨cur, hg, hcs, hcc⟩ := id hb
    refine wpList_copy_own hgd d s dT sT ho e hu hsz g off dLen dCap ⟨b, ob, none⟩ sLen sCap hd hs cur e hg (lst k h n) (by rw [lst_length]; exact hn) ?_ (by rw [lst_length]; omega) (lst_one k h n) ?_
    · intro j v hv
      obtain ⟨hj, rfl⟩ := lst_getE hv
      have := hr.cell (j := j) (by omega)
      rw [addr_add]; exact this
    · rw [lst_length]
      have := hK _ (setRow_blk (h := h) hb hfit hg) ⟨rfl, rfl, rfl, by simp [World.setRow], fun k _ hk => setRow_other w g k _ hk⟩
      rw [lst_length] at this
      exact this

/-- 'out = append(out, s...)', out the call's own (or nil), s whatever. -/
theorem wpList_append_own_list {P : Program} (k : IntKind) (w : World) {ops : Array Oper} {rest : List Oper} {o : Oper} {a : Act} {Q : Exit → Act → World → Prop} (hgd : o.guard = none) (s x : Operand) (t : TypeId)
    (ho : o.op = .call { callee := .builtin .append, args := #[s, x], argTypes := #[t, t] })
    (base : Nat) (e : TypeId) (bytes : Nat) (ht : P.underlying t = some (.slice e)) (h2 : (P.info? e).map (fun i => (i.zero, i.size, i.bytes)) = some (some (.int k 0), 1, bytes))
    (v : Value) (n : Nat) (f : Nat → Int) (hs : a.eval s = v) (hown : Own k e w base v n f)
    (b ob m c : Nat) (h : Nat → Int) (hx : a.eval x = .slice (some ⟨b, ob, none⟩) m c) (hr : Rd k w (some ⟨b, ob, none⟩) m h)
    (h63 : n + m ≤ maxLen) (hbytes : (n + m) * bytes ≤ 140737488355328) (hbase : base ≤ w.heap.size)
    (hK : ∀ v' w', Own k e w' base v' (n + m) (cat f n h) → w.grownBy w' v.ownBlock → wpList P ops Q rest (a.put o.dst v') w') : wpList P ops Q (o :: rest) a w := by
  obtain ⟨i, hi, hz0, hz1, hz2⟩ := info_parts h2
  refine wpList_append_own w hgd s x t ho base e i (.int k 0) 1 bytes ht hi hz0 hz1 hz2 rfl (by decide) v n (lst k f n) hs hown ⟨b, ob, none⟩ m c (lst k h m) hx (by rw [lst_length, Nat.mul_one]) ?_ (lst_one k h m) h63 hbytes hbase ?_
  · intro j u hu
    obtain ⟨hj, rfl⟩ := lst_getE hu
    have := hr.cell hj
    rw [addr_add]; exact this
  · intro v' w' h1 h2 _
    rw [lst_cat] at h1
    exact hK v' w' h1 h2
end Go.Proofs.Ytllpllebmknmpaa
namespace Go.Proofs.Ytllpllebmknmpaa
open Go.RowKit

theorem Try.infoU64 : (Try.prog.info? 63).map (fun i => (i.zero, i.size, i.bytes)) = some (some (.int .u64 0), 1, 8) := by kernel_rfl
theorem Try.sizeU64 : (Try.prog.info? 63).map (·.size) = some 1 := by kernel_rfl

/-- A number that a call answers: nil, or a block of its own; in form. -/
structure Res (C : Nat) (w w' : World) (ao : Option Addr) (n cap : Nat) (f : Nat → Int) : Prop where
  bel : Below w.heap.size w w'
  own : (ao = none ∧ n = 0 ∧ cap = 0) ∨ (∃ g, ao = some ⟨g, 0, none⟩ ∧ w.heap.size ≤ g ∧ 0 < n ∧ n ≤ cap ∧ cap ≤ C ∧ Blk .u64 63 w' g cap f)
  lmc : Lm f cap
  fm : Fm f n
theorem Res.rd {C w w' ao n cap f} (h : Res C w w' ao n cap f) : Rd .u64 w' ao n f := by
  rcases h.own with ⟨rfl, rfl, rfl⟩ | ⟨g, rfl, _, _, hn, _, hb⟩
  · exact Rd.zero
  · exact hb.rd0 hn
theorem Res.und {C w w' ao n cap f} (h : Res C w w' ao n cap f) : Und ao w'.heap.size := by
  rcases h.own with ⟨rfl, rfl, rfl⟩ | ⟨g, rfl, _, _, hn, _, hb⟩
  · exact und_none _
  · exact und_some hb.lt
theorem Res.off {C w w' ao n cap f} (h : Res C w w' ao n cap f) {g : Nat} (hg : g < w.heap.size) : Off ao g := by
  rcases h.own with ⟨rfl, rfl, rfl⟩ | ⟨g', rfl, h1, _, hn, _, hb⟩
  · exact off_none _
  · exact off_some (by omega)
theorem Res.le {C w w' ao n cap f} (h : Res C w w' ao n cap f) : n ≤ C := by
  rcases h.own with ⟨rfl, rfl, rfl⟩ | ⟨g', rfl, h1, _, hn, _, hb⟩ <;> omega
theorem Res.ncap {C w w' ao n cap f} (h : Res C w w' ao n cap f) : n ≤ cap ∧ cap ≤ C := by
  rcases h.own with ⟨rfl, rfl, rfl⟩ | ⟨g', rfl, h1, _, hn, _, hb⟩ <;> omega
theorem Res.lm {C w w' ao n cap f} (h : Res C w w' ao n cap f) : Lm f n := h.lmc.mono h.ncap.1
theorem Res.nil {C : Nat} {w w' : World} (f : Nat → Int) (h : Below w.heap.size w w') : Res C w w' none 0 0 f := ⟨h, .inl ⟨rfl, rfl, rfl⟩, fun j hj => by omega, .inl rfl⟩
theorem Res.mono {C C' w w' ao n cap f} (h : Res C w w' ao n cap f) (hC : C ≤ C') : Res C' w w' ao n cap f :=
  ⟨h.bel, h.own.imp id (fun ⟨g, a, b, c, d, e, f⟩ => ⟨g, a, b, c, d, by omega, f⟩), h.lmc, h.fm⟩
/-- Seen from an earlier world. -/
theorem Res.ahead {C w0 w w' ao n cap f} (h : Res C w w' ao n cap f) (hb : Below w0.heap.size w0 w) : Res C w0 w' ao n cap f :=
  ⟨hb.trans (h.bel.mono hb.size), h.own.imp id (fun ⟨g, a, b, c, d, e, f⟩ => ⟨g, a, by have := hb.size; omega, c, d, e, f⟩), h.lmc, h.fm⟩
/-- Seen in a later world. -/
theorem Res.later {C w w' w'' ao n cap f} (h : Res C w w' ao n cap f) (hb : Below w'.heap.size w' w'') : Res C w w'' ao n cap f :=
  ⟨h.bel.trans (hb.mono h.bel.size), h.own.imp id (fun ⟨g, a, b, c, d, e, f⟩ => ⟨g, a, b, c, d, e, f.below hb f.lt⟩), h.lmc, h.fm⟩
theorem below_drewN {B : Nat} {a w : World} (h : Below B a w) (q : Nat) : Below B a (w.drewN q) := ⟨h.os, h.tape, h.output, h.size, h.block⟩

set_option maxRecDepth 100000 in
set_option maxHeartbeats 400000 in
theorem padded_c (ao : Option Addr) (n cap m : Nat) (z : Int) (f : Nat → Int) (w : World) (hz : z = m) (hnm : n ≤ m) (hm : m ≤ 17592186044416) (hr : Rd .u64 w ao n f) :
    Calls Try.prog 84 #[.slice ao n cap, .int .i64 z] w fun e w' => e = .returned (.slice (some ⟨w.heap.size, 0, none⟩) m m) ∧ Below w.heap.size w w' ∧ Blk .u64 63 w' w.heap.size m (ext f n) := by
  subst hz
  go_enter Try.func84, Try.ntmps84
  go_wp2_with (first | (at_make; refine wpList_make_blk .u64 w rfl (.tmp 6) (.tmp 6) 64 rfl 63 8 Try.underlying64 Try.infoU64 .i64 .i64 m m m rfl rfl rfl rfl (by omega) (by unfold maxLen; omega) ?_; intro w1 hb1 hbel1) | (refine wpList_copy_blk .u64 w1 rfl (.tmp 8) (.tmp 9) 64 64 rfl 63 Try.underlying64 Try.sizeU64 w.heap.size 0 m (fun _ => 0) ao m m n cap n f rfl rfl hb1 (hr.below hbel1 (Nat.le_refl _)) (Nat.min_eq_left hnm).symm (by omega) ?_; intro w2 hb2 hon2))
  go_ret
  refine ⟨rfl, below_only hbel1 hon2 (Nat.le_refl _) hbel1.size, hb2.congr (fun j hj => ?_)⟩
  by_cases h : j < n
  · rw [put_in (by omega) (by omega), ext_in _ _ _ h]; rfl
  · rw [put_out (by omega), ext_out _ _ _ (by omega)]

/-- trim of a list in a block of the call's own. -/
theorem trim_res (g N n : Nat) (f : Nat → Int) (w0 w : World) (hbel : Below w0.heap.size w0 w) (hg : w0.heap.size ≤ g) (hb : Blk .u64 63 w g N f) (hn : n ≤ N) (hN : N ≤ 140737488355328) (hf : Lm f N) :
    Calls Try.prog 83 #[.slice (some ⟨g, 0, none⟩) n N] w fun e w' => w' = w ∧ ∃ ao' m cap', e = .returned (.slice ao' m cap') ∧ Res N w0 w ao' m cap' f ∧ m ≤ n ∧ vf f m = vf f n := by
  refine (trim_c _ n N f w hn hN (hb.rd0 hn)).mono ?_
  rintro e w2 ⟨rfl, m, hmn, hz, he⟩
  refine ⟨rfl, ?_⟩
  have hv : vf f m = vf f n := trim_val hmn hz
  rcases he with ⟨rfl, rfl⟩ | ⟨hm0, hne, rfl⟩
  · exact ⟨none, 0, 0, rfl, Res.nil f hbel, hmn, hv⟩
  · exact ⟨_, m, N, rfl, ⟨hbel, .inr ⟨g, rfl, hg, hm0, by omega, Nat.le_refl _, hb⟩, hf, .inr hne⟩, hmn, hv⟩

set_option maxHeartbeats 400000 in
/-- clone: the number, in form, in memory of its own. -/
theorem clone_c (ao : Option Addr) (n cap : Nat) (f : Nat → Int) (w : World) (hm : n ≤ 17592186044416) (hr : Rd .u64 w ao n f) (hf : Lm f n) :
    Calls Try.prog 77 #[.slice ao n cap] w fun e w' => ∃ ao' m cap', e = .returned (.slice ao' m cap') ∧ Res n w w' ao' m cap' f ∧ m ≤ n ∧ vf f m = vf f n := by
  have HF := (show Hid (Lm f n) from hf)
  clear hf
  go_enter Try.func77, Try.ntmps77
  go_wp2_with fail
  refine (padded_c ao n cap n _ f w rfl (Nat.le_refl _) hm hr).mono ?_
  rintro e w1 ⟨rfl, hbel, hb⟩
  go_wp2_with fail
  refine (trim_res w.heap.size n n f w w1 hbel (Nat.le_refl _) (hb.congr (fun j hj => ext_in _ _ _ hj)) (Nat.le_refl _) (by omega) HF.out).mono ?_
  rintro e w2 ⟨rfl, ao', m, cap', rfl, hres, hmn, hv⟩
  have HV := hid hv
  clear hv
  go_wp2
  go_ret
  exact ⟨ao', m, cap', rfl, hres, hmn, HV.out⟩

set_option maxHeartbeats 400000 in
theorem fromWord_c (x : Int) (w : World) (x0 : 0 ≤ x) (x1 : x < 18446744073709551616) :
    Calls Try.prog 78 #[.int .u64 x] w fun e w' => ∃ ao' m cap' f, e = .returned (.slice ao' m cap') ∧ Res 1 w w' ao' m cap' f ∧ vf f m = x := by
  have hb : Blk .u64 63 (w.alloc (.cells #[.int .u64 x] 63)) w.heap.size 1 (fun _ => x) := ⟨#[.int .u64 x], heap_alloc_new w _, rfl, fun j hj => by obtain rfl : j = 0 := by omega
                                                                                                                                                    rfl⟩
  go_enter Try.func78, Try.ntmps78
  go_wp2_with fail
  refine (trim_res w.heap.size 1 1 (fun _ => x) w _ ((Below.refl _ _).alloc (Nat.le_refl _) _) (Nat.le_refl _) hb (Nat.le_refl _) (by decide) (fun j hj => ⟨x0, x1⟩)).mono ?_
  rintro e w1 ⟨rfl, ao, m, cap, rfl, hres, hmn, hv⟩
  go_wp2
  go_ret
  exact ⟨ao, m, cap, _, rfl, hres, by rw [hv]; simp [vf, pw]⟩

end Go.Proofs.Ytllpllebmknmpaa
namespace Go.Proofs.Ytllpllebmknmpaa
open Go.RowKit

theorem fm_of {f : Nat → Int} {n : Nat} (h : fmB f n = true) : Fm f n := (fmB_iff f n).1 h
theorem nfm_of {f : Nat → Int} {n : Nat} (h : fmB f n = false) : ¬ Fm f n := fun hf => by rw [(fmB_iff f n).2 hf] at h; cases h

end Go.Proofs.Ytllpllebmknmpaa
namespace Go.Proofs
open Go.Shelf
def Try.lays134_ren : Go.Shelf.Ren := ⟨fun | 134 => 91 | 129 => 97 | n => n, fun | 53 => 63 | 3 => 3 | 4 => 4 | 46 => 120 | 5 => 5 | 9 => 9 | n => n, fun | n => n⟩
theorem Try.lays134 : Go.Proofs.Lays.n134 Try.prog Try.lays134_ren := {
  mixed := by kernel_rfl
  f129 := Try.func97.trans (congrArg some (by kernel_rfl))
  f134 := Try.func91.trans (congrArg some (by kernel_rfl))
  t3 := Try.underlying3
  a3 := Try.isAgg3
  z3 := Try.sizeOf3
  v3 := Try.zeroValue3
  t4 := Try.underlying4
  a4 := Try.isAgg4
  z4 := Try.sizeOf4
  v4 := Try.zeroValue4
  t5 := Try.underlying5
  a5 := Try.isAgg5
  z5 := Try.sizeOf5
  v5 := Try.zeroValue5
  t9 := Try.underlying9
  a9 := Try.isAgg9
  z9 := Try.sizeOf9
  v9 := Try.zeroValue9
  t46 := Try.underlying120
  a46 := Try.isAgg120
  z46 := Try.sizeOf120
  v46 := Try.zeroValue120
  t53 := Try.underlying63
  a53 := Try.isAgg63
  z53 := Try.sizeOf63
  v53 := Try.zeroValue63 }
theorem Try.bits_LeadingZeros64 (x : Int) (w : World) (h0 : 0 ≤ x) (h1 : x ≤ 18446744073709551615) :
    Calls Try.prog 91 #[.int .u64 x] w fun e w' => e = .returned (.int .i64 (64 - (Lib.bitLen x.toNat : Int))) ∧ w' = w := Any.bits_LeadingZeros64 Try.lays134 x w h0 h1
def Try.lays264_ren : Go.Shelf.Ren := ⟨fun | 264 => 99 | n => n, fun | 53 => 63 | 46 => 120 | n => n, fun | n => n⟩
theorem Try.lays264 : Go.Proofs.Lays.n264 Try.prog Try.lays264_ren := {
  mixed := by kernel_rfl
  f264 := Try.func99.trans (congrArg some (by kernel_rfl))
  t46 := Try.underlying120
  a46 := Try.isAgg120
  z46 := Try.sizeOf120
  v46 := Try.zeroValue120
  t53 := Try.underlying63
  a53 := Try.isAgg63
  z53 := Try.sizeOf63
  v53 := Try.zeroValue63 }
open Go.RowKit Go.Lib in
theorem Try.bits_Mul64 (x y : Nat) (hx : x < 18446744073709551616) (hy : y < 18446744073709551616) (w : World) :
    Calls Try.prog 99 #[.int .u64 x, .int .u64 y] w fun e w' => e = .returned (.tuple #[.int .u64 ((x * y / 18446744073709551616 : Nat) : Int), .int .u64 ((x * y % 18446744073709551616 : Nat) : Int)]) ∧ w' = w := Any.bits_Mul64 Try.lays264 x y hx hy w
end Go.Proofs
namespace Go.Proofs.Ytllpllebmknmpaa
open Go.RowKit

/-- One digit of a quotient, guessed: the guess and what is left of the divisor's high half. -/
structure Gs (U u1 Y y1 y0 q r : Int) : Prop where
  q0 : 0 ≤ q
  r0 : 0 ≤ r
  eq : U = q * y1 + r
  up : U * 4294967296 + u1 < (q + 1) * Y
theorem gs_start {U u1 Y y1 y0 : Int} (hU0 : 0 ≤ U) (hY : Y = y1 * 4294967296 + y0) (h1 : 0 < y1) (h0 : 0 ≤ y0) (k1 : u1 < 4294967296) : Gs U u1 Y y1 y0 (U / y1) (U - U / y1 * y1) := by
  have a := Int.emod_nonneg U (Int.ne_of_gt h1)
  have b := Int.emod_lt_of_pos U h1
  have c := Int.mul_ediv_add_emod U y1
  have d : U / y1 * y1 = y1 * (U / y1) := Int.mul_comm _ _
  have e : 0 ≤ U / y1 := Int.ediv_nonneg hU0 (Int.le_of_lt h1)
  have f : 0 ≤ (U / y1 + 1) * y0 := Int.mul_nonneg (by omega) h0
  have g : (U / y1 + 1) * Y = y1 * (U / y1) * 4294967296 + y1 * 4294967296 + (U / y1 + 1) * y0 := by rw [hY]; grind
  refine ⟨e, by omega, by omega, ?_⟩
  rw [g]; omega
theorem gs_q {U u1 Y y1 y0 q r : Int} (h : Gs U u1 Y y1 y0 q r) (hU : U < Y) (hY : Y = y1 * 4294967296 + y0) (h1 : 2147483648 ≤ y1) (h2 : y0 < 4294967296) : q ≤ 4294967297 := by
  apply Int.le_of_lt_add_one
  have := h.eq; have := h.r0
  have h3 : q * y1 < (4294967297 + 1) * y1 := by omega
  exact Int.lt_of_mul_lt_mul_right h3 (by omega)
theorem gs_pos {U u1 Y q : Int} (hT : 0 ≤ U * 4294967296 + u1) (hc : U * 4294967296 + u1 < q * Y) (hY : 0 < Y) : 0 < q := by
  apply Int.lt_of_not_ge
  intro h
  have : q * Y ≤ 0 * Y := Int.mul_le_mul_of_nonneg_right h (Int.le_of_lt hY)
  omega
theorem gs_big {U u1 Y q : Int} (hU : U < Y) (k1 : u1 < 4294967296) (hY : 0 < Y) (hq : 4294967296 ≤ q) : U * 4294967296 + u1 < q * Y := by
  have : 4294967296 * Y ≤ q * Y := Int.mul_le_mul_of_nonneg_right hq (Int.le_of_lt hY)
  omega
theorem gs_mul {U u1 Y y1 y0 q r : Int} (h : Gs U u1 Y y1 y0 q r) (hY : Y = y1 * 4294967296 + y0) : q * Y = (U - r) * 4294967296 + q * y0 := by
  have := h.eq
  rw [hY, Int.mul_add, ← Int.mul_assoc]
  have : q * y1 = U - r := by omega
  rw [this]
theorem gs_step {U u1 Y y1 y0 q r : Int} (h : Gs U u1 Y y1 y0 q r) (hc : U * 4294967296 + u1 < q * Y) (hq : 0 < q) (h1 : 0 ≤ y1) : Gs U u1 Y y1 y0 (q - 1) (r + y1) := by
  have := h.eq; have := h.r0
  refine ⟨by omega, by omega, ?_, ?_⟩
  · rw [Int.sub_mul]; omega
  · have e : q - 1 + 1 = q := by omega
    rw [e]; exact hc

theorem gs_low {U u1 Y y1 y0 q r : Int} (h : Gs U u1 Y y1 y0 q r) (hY : Y = y1 * 4294967296 + y0) (hc : q * y0 ≤ 4294967296 * r + u1) : q * Y ≤ U * 4294967296 + u1 := by
  rw [gs_mul h hY]; omega
theorem gs_brk {U u1 Y y1 y0 q r : Int} (h : Gs U u1 Y y1 y0 q r) (hY : Y = y1 * 4294967296 + y0) (hq : q ≤ 4294967296) (hr : 4294967296 ≤ r) (h0 : 0 ≤ y0) (h1 : y0 < 4294967296) (k0 : 0 ≤ u1) : q * Y ≤ U * 4294967296 + u1 := by
  refine gs_low h hY ?_
  have : q * y0 ≤ 4294967296 * y0 := Int.mul_le_mul_of_nonneg_right hq h0
  omega
theorem gs_rest (U u1 Y t : Int) (h1 : t * Y ≤ U * 4294967296 + u1) (h2 : U * 4294967296 + u1 < (t + 1) * Y) (hY : Y ≤ 18446744073709551616) :
    IntKind.u64.wrap (IntKind.u64.wrap (IntKind.u64.wrap (U * 4294967296) + u1) - IntKind.u64.wrap (t * Y)) = U * 4294967296 + u1 - t * Y ∧ 0 ≤ U * 4294967296 + u1 - t * Y ∧ U * 4294967296 + u1 - t * Y < Y := by
  rw [Int.add_mul, Int.one_mul] at h2
  refine ⟨?_, by omega, by omega⟩
  simp only [IntKind.wrap_u64]
  generalize t * Y = X at *
  omega
theorem gs_t {U u1 Y t : Int} (h1 : t * Y ≤ U * 4294967296 + u1) (hU : U < Y) (k1 : u1 < 4294967296) (hY : 0 < Y) : t < 4294967296 := by
  have : t * Y < 4294967296 * Y := by omega
  exact Int.lt_of_mul_lt_mul_right this (Int.le_of_lt hY)

set_option maxRecDepth 100000 in
set_option maxHeartbeats 4000000 in
theorem div64_core (hi lo y s Y y1 y0 U L u1 u0 : Int) (w : World) (h0 : 0 < hi) (h1 : hi < y) (_hy : y < 18446744073709551616) (_l0 : 0 ≤ lo) (_l1 : lo < 18446744073709551616) (s0 : 0 ≤ s) (s1 : s ≤ 63)
    (hs : Calls Try.prog 91 #[.int .u64 y] w fun e w' => e = .returned (.int .i64 s) ∧ w' = w)
    (hY : IntKind.u64.wrap (y * 2 ^ s.toNat) = Y) (hY1 : Y / 4294967296 = y1) (hY0 : bits BinOp.and .u64 Y 4294967295 = y0)
    (hU : bits BinOp.or .u64 (IntKind.u64.wrap (hi * 2 ^ s.toNat)) (lo / 2 ^ (64 - s).toNat) = U) (hL : IntKind.u64.wrap (lo * 2 ^ s.toNat) = L) (hL1 : L / 4294967296 = u1) (hL0 : bits BinOp.and .u64 L 4294967295 = u0)
    (y1a : 2147483648 ≤ y1) (y1b : y1 < 4294967296) (y0a : 0 ≤ y0) (y0b : y0 < 4294967296) (u1a : 0 ≤ u1) (u1b : u1 < 4294967296) (u0a : 0 ≤ u0) (u0b : u0 < 4294967296) (Ua : 0 ≤ U) (Ub : U < y1 * 4294967296 + y0) (hYY : Hid (Y = y1 * 4294967296 + y0)) :
    Calls Try.prog 85 #[.int .u64 hi, .int .u64 lo, .int .u64 y] w fun e w' => w' = w ∧ ∃ q1 q0 R, e = .returned (.tuple #[.int .u64 (q1 * 4294967296 + q0), .int .u64 (R / 2 ^ s.toNat)]) ∧ 0 ≤ R ∧ R < Y ∧ 0 ≤ q1 ∧ q1 < 4294967296 ∧ 0 ≤ q0 ∧ q0 < 4294967296 ∧ (U * 4294967296 + u1) * 4294967296 + u0 = (q1 * 4294967296 + q0) * Y + R := by
  have HS := hid hs
  clear hs
  obtain ⟨q, hq⟩ : ∃ q, U / y1 = q := ⟨_, rfl⟩
  obtain ⟨p, hp⟩ : ∃ p, q * y1 = p := ⟨_, rfl⟩
  have g := gs_start Ua hYY.out (by omega) y0a u1b
  rw [hq, hp] at g
  have hq0 := g.q0
  have hr0 := g.r0
  have hqb := gs_q g (by rw [hYY.out]; exact Ub) hYY.out y1a y0b
  have hr1 : U - p < y1 := by
    have := Int.emod_lt_of_pos U (show 0 < y1 by omega); have := Int.mul_ediv_add_emod U y1
    rw [hq, Int.mul_comm, hp] at this; omega
  have hpa : 0 ≤ p := by rw [← hp]; exact Int.mul_nonneg hq0 (by omega)
  have G := hid g
  clear g
  have hyh : decide (y ≤ hi) = false := by simp; omega
  have YP : Hid (0 < Y) := by show _ < _; rw [hYY.out]; omega
  have hr2 : U - p < 4294967296 := by omega
  go_enter Try.func85, Try.ntmps85
  go_wp2_with fail
  refine HS.out.mono ?_
  rintro e w1 ⟨rfl, rfl⟩
  go_wp2
  go_loop [15, 16] (fun c d => ∃ q r : Int, c = .int .u64 q ∧ d = .int .u64 r ∧ 0 ≤ q ∧ q ≤ 4294967297 ∧ 0 ≤ r ∧ r < 4294967296 ∧ Hid (Gs U u1 Y y1 y0 q r)) (fun c _ => (intOf c).toNat)
  case atStart => exact ⟨U / y1, U - p, rfl, rfl, by rw [hq]; exact hq0, by rw [hq]; exact hqb, hr0, hr2, by rw [hq]; exact G.out⟩
  case round =>
    clear G hr0 hr1 hr2 hpa hqb hq0 hp hq
    obtain ⟨q, r, rfl, rfl, q0a, q0b, r0a, r0b, G⟩ := hrel
    by_cases hbig : 4294967296 ≤ q
    · have hc := gs_big (q := q) (by rw [hYY.out]; exact Ub) u1b YP.out hbig
      have G1 := hid (gs_step G.out hc (by omega) (by omega))
      clear hc
      by_cases hbr1 : 4294967296 ≤ r + y1
      · obtain ⟨t, rfl⟩ : ∃ t, q = t + 1 := ⟨q - 1, by omega⟩
        rw [show t + 1 - 1 = t by omega] at G1
        have L1 := hid (gs_brk G1.out hYY.out (by omega) hbr1 y0a y0b u1a)
        obtain ⟨V, hV, hVa, hVb, HVd⟩ : ∃ V, IntKind.u64.wrap (IntKind.u64.wrap (IntKind.u64.wrap (U * 4294967296) + u1) - IntKind.u64.wrap (t * Y)) = V ∧ 0 ≤ V ∧ V < Y ∧ Hid (V = U * 4294967296 + u1 - t * Y) := ⟨_, (gs_rest U u1 Y (t) L1.out G1.out.up (by rw [hYY.out]; omega)).1, (gs_rest U u1 Y (t) L1.out G1.out.up (by rw [hYY.out]; omega)).2.1, (gs_rest U u1 Y (t) L1.out G1.out.up (by rw [hYY.out]; omega)).2.2, rfl⟩
        have ht1 : t < 4294967296 := gs_t L1.out (by rw [hYY.out]; exact Ub) u1b YP.out
        have HVb := hid hVb
        rw [hYY.out] at hVb
        obtain ⟨k, hk⟩ : ∃ k, V / y1 = k := ⟨_, rfl⟩
        obtain ⟨p2, hp2⟩ : ∃ p2, k * y1 = p2 := ⟨_, rfl⟩
        have g := gs_start hVa hYY.out (by omega) y0a u0b
        rw [hk, hp2] at g
        have hk0 := g.q0
        have hr0 := g.r0
        have hkb := gs_q g HVb.out hYY.out y1a y0b
        have hr1 : V - p2 < y1 := by
          have := Int.emod_lt_of_pos V (show 0 < y1 by omega); have := Int.mul_ediv_add_emod V y1
          rw [hk, Int.mul_comm, hp2] at this; omega
        have hp2a : 0 ≤ p2 := by rw [← hp2]; exact Int.mul_nonneg hk0 (by omega)
        have hr2 : V - p2 < 4294967296 := by omega
        have GG := hid g
        clear g L1 G1
        go_wp2
        go_loop [16, 18] (fun d c => ∃ q r : Int, c = .int .u64 q ∧ d = .int .u64 r ∧ 0 ≤ q ∧ q ≤ 4294967297 ∧ 0 ≤ r ∧ r < 4294967296 ∧ Hid (Gs V u0 Y y1 y0 q r)) (fun _ c => (intOf c).toNat)
        case atStart => exact ⟨k, V - p2, rfl, rfl, hk0, hkb, hr0, hr2, GG.out⟩
        case round =>
          clear GG hr0 hr1 hr2 hp2a hkb hk0 hp2 hk
          obtain ⟨m, r2, rfl, rfl, m0a, m0b, r20a, r20b, G0⟩ := hrel
          by_cases hbig2 : 4294967296 ≤ m
          · have hc := gs_big (q := m) HVb.out u0b YP.out hbig2
            have G2 := hid (gs_step G0.out hc (by omega) (by omega))
            clear hc
            by_cases hbr : 4294967296 ≤ r2 + y1
            · obtain ⟨t2, rfl⟩ : ∃ t2, m = t2 + 1 := ⟨m - 1, by omega⟩
              rw [show t2 + 1 - 1 = t2 by omega] at G2
              have L2 := hid (gs_brk G2.out hYY.out (by omega) hbr y0a y0b u0a)
              obtain ⟨R, hR, hRa, hRb, HRd⟩ : ∃ R, IntKind.u64.wrap (IntKind.u64.wrap (IntKind.u64.wrap (V * 4294967296) + u0) - IntKind.u64.wrap (t2 * Y)) = R ∧ 0 ≤ R ∧ R < Y ∧ Hid (R = V * 4294967296 + u0 - t2 * Y) := ⟨_, (gs_rest V u0 Y (t2) L2.out G2.out.up (by rw [hYY.out]; omega)).1, (gs_rest V u0 Y (t2) L2.out G2.out.up (by rw [hYY.out]; omega)).2.1, (gs_rest V u0 Y (t2) L2.out G2.out.up (by rw [hYY.out]; omega)).2.2, rfl⟩
              have ht0 : t2 < 4294967296 := gs_t L2.out (by have := HVb.out; exact this) u0b YP.out
              have RA := hid (show 0 ≤ R ∧ R < Y from ⟨hRa, hRb⟩)
              clear hRa hRb L2 G2
              go_wp2
              go_ret2
              refine ⟨rfl, t, t2, R, rfl, RA.out.1, RA.out.2, by omega, by omega, by omega, by omega, ?_⟩
              have e1 := HVd.out
              have e0 := HRd.out
              rw [e0, e1]
              generalize Y = Yg
              grind
            · go_wp2
              go_round
              case rel => exact ⟨m - 1, r2 + y1, rfl, rfl, by omega, by omega, by omega, by omega, G2.out⟩
              case measure => simp [intOf]; omega
          · obtain ⟨p3, hp3⟩ : ∃ p3, m * y0 = p3 := ⟨_, rfl⟩
            have hp3a : 0 ≤ p3 := by rw [← hp3]; exact Int.mul_nonneg m0a y0a
            have hp3b : p3 < 18446744073709551616 := by
              rw [← hp3]
              have := Int.mul_le_mul (show m ≤ 4294967295 by omega) (show y0 ≤ 4294967295 by omega) y0a (by omega)
              omega
            by_cases hcd2 : 4294967296 * r2 + u0 < p3
            · have hc : V * 4294967296 + u0 < m * Y := by rw [gs_mul G0.out hYY.out, hp3]; omega
              have hqp := gs_pos (by omega) hc YP.out
              have G2 := hid (gs_step G0.out hc hqp (by omega))
              clear hc
              by_cases hbr : 4294967296 ≤ r2 + y1
              · obtain ⟨t2, rfl⟩ : ∃ t2, m = t2 + 1 := ⟨m - 1, by omega⟩
                rw [show t2 + 1 - 1 = t2 by omega] at G2
                have L2 := hid (gs_brk G2.out hYY.out (by omega) hbr y0a y0b u0a)
                obtain ⟨R, hR, hRa, hRb, HRd⟩ : ∃ R, IntKind.u64.wrap (IntKind.u64.wrap (IntKind.u64.wrap (V * 4294967296) + u0) - IntKind.u64.wrap (t2 * Y)) = R ∧ 0 ≤ R ∧ R < Y ∧ Hid (R = V * 4294967296 + u0 - t2 * Y) := ⟨_, (gs_rest V u0 Y (t2) L2.out G2.out.up (by rw [hYY.out]; omega)).1, (gs_rest V u0 Y (t2) L2.out G2.out.up (by rw [hYY.out]; omega)).2.1, (gs_rest V u0 Y (t2) L2.out G2.out.up (by rw [hYY.out]; omega)).2.2, rfl⟩
                have ht0 : t2 < 4294967296 := gs_t L2.out (by have := HVb.out; exact this) u0b YP.out
                have RA := hid (show 0 ≤ R ∧ R < Y from ⟨hRa, hRb⟩)
                clear hRa hRb L2 G2
                go_wp2
                go_ret2
                refine ⟨rfl, t, t2, R, rfl, RA.out.1, RA.out.2, by omega, by omega, by omega, by omega, ?_⟩
                have e1 := HVd.out
                have e0 := HRd.out
                rw [e0, e1]
                generalize Y = Yg
                grind
              · go_wp2
                go_round
                case rel => exact ⟨m - 1, r2 + y1, rfl, rfl, by omega, by omega, by omega, by omega, G2.out⟩
                case measure => simp [intOf]; omega
            · have L2 := hid (gs_low G0.out hYY.out (by rw [hp3]; omega))
              have G2 := G0
              obtain ⟨R, hR, hRa, hRb, HRd⟩ : ∃ R, IntKind.u64.wrap (IntKind.u64.wrap (IntKind.u64.wrap (V * 4294967296) + u0) - IntKind.u64.wrap (m * Y)) = R ∧ 0 ≤ R ∧ R < Y ∧ Hid (R = V * 4294967296 + u0 - m * Y) := ⟨_, (gs_rest V u0 Y (m) L2.out G2.out.up (by rw [hYY.out]; omega)).1, (gs_rest V u0 Y (m) L2.out G2.out.up (by rw [hYY.out]; omega)).2.1, (gs_rest V u0 Y (m) L2.out G2.out.up (by rw [hYY.out]; omega)).2.2, rfl⟩
              have ht0 : m < 4294967296 := gs_t L2.out (by have := HVb.out; exact this) u0b YP.out
              have RA := hid (show 0 ≤ R ∧ R < Y from ⟨hRa, hRb⟩)
              clear hRa hRb L2 G2
              go_wp2
              go_ret2
              refine ⟨rfl, t, m, R, rfl, RA.out.1, RA.out.2, by omega, by omega, by omega, by omega, ?_⟩
              have e1 := HVd.out
              have e0 := HRd.out
              rw [e0, e1]
              generalize Y = Yg
              grind
      · go_wp2
        go_round
        case rel => exact ⟨q - 1, r + y1, rfl, rfl, by omega, by omega, by omega, by omega, G1.out⟩
        case measure => simp [intOf]; omega
    · obtain ⟨p, hp⟩ : ∃ p, q * y0 = p := ⟨_, rfl⟩
      have hpa : 0 ≤ p := by rw [← hp]; exact Int.mul_nonneg q0a y0a
      have hpb : p < 18446744073709551616 := by
        rw [← hp]
        have := Int.mul_le_mul (show q ≤ 4294967295 by omega) (show y0 ≤ 4294967295 by omega) y0a (by omega)
        omega
      by_cases hcd : 4294967296 * r + u1 < p
      · have hc : U * 4294967296 + u1 < q * Y := by rw [gs_mul G.out hYY.out, hp]; omega
        have hqp := gs_pos (by omega) hc YP.out
        have G1 := hid (gs_step G.out hc hqp (by omega))
        clear hc
        by_cases hbr1 : 4294967296 ≤ r + y1
        · obtain ⟨t, rfl⟩ : ∃ t, q = t + 1 := ⟨q - 1, by omega⟩
          rw [show t + 1 - 1 = t by omega] at G1
          have L1 := hid (gs_brk G1.out hYY.out (by omega) hbr1 y0a y0b u1a)
          obtain ⟨V, hV, hVa, hVb, HVd⟩ : ∃ V, IntKind.u64.wrap (IntKind.u64.wrap (IntKind.u64.wrap (U * 4294967296) + u1) - IntKind.u64.wrap (t * Y)) = V ∧ 0 ≤ V ∧ V < Y ∧ Hid (V = U * 4294967296 + u1 - t * Y) := ⟨_, (gs_rest U u1 Y (t) L1.out G1.out.up (by rw [hYY.out]; omega)).1, (gs_rest U u1 Y (t) L1.out G1.out.up (by rw [hYY.out]; omega)).2.1, (gs_rest U u1 Y (t) L1.out G1.out.up (by rw [hYY.out]; omega)).2.2, rfl⟩
          have ht1 : t < 4294967296 := gs_t L1.out (by rw [hYY.out]; exact Ub) u1b YP.out
          have HVb := hid hVb
          rw [hYY.out] at hVb
          obtain ⟨k, hk⟩ : ∃ k, V / y1 = k := ⟨_, rfl⟩
          obtain ⟨p2, hp2⟩ : ∃ p2, k * y1 = p2 := ⟨_, rfl⟩
          have g := gs_start hVa hYY.out (by omega) y0a u0b
          rw [hk, hp2] at g
          have hk0 := g.q0
          have hr0 := g.r0
          have hkb := gs_q g HVb.out hYY.out y1a y0b
          have hr1 : V - p2 < y1 := by
            have := Int.emod_lt_of_pos V (show 0 < y1 by omega); have := Int.mul_ediv_add_emod V y1
            rw [hk, Int.mul_comm, hp2] at this; omega
          have hp2a : 0 ≤ p2 := by rw [← hp2]; exact Int.mul_nonneg hk0 (by omega)
          have hr2 : V - p2 < 4294967296 := by omega
          have GG := hid g
          clear g L1 G1
          go_wp2
          go_loop [16, 18] (fun d c => ∃ q r : Int, c = .int .u64 q ∧ d = .int .u64 r ∧ 0 ≤ q ∧ q ≤ 4294967297 ∧ 0 ≤ r ∧ r < 4294967296 ∧ Hid (Gs V u0 Y y1 y0 q r)) (fun _ c => (intOf c).toNat)
          case atStart => exact ⟨k, V - p2, rfl, rfl, hk0, hkb, hr0, hr2, GG.out⟩
          case round =>
            clear GG hr0 hr1 hr2 hp2a hkb hk0 hp2 hk
            obtain ⟨m, r2, rfl, rfl, m0a, m0b, r20a, r20b, G0⟩ := hrel
            by_cases hbig2 : 4294967296 ≤ m
            · have hc := gs_big (q := m) HVb.out u0b YP.out hbig2
              have G2 := hid (gs_step G0.out hc (by omega) (by omega))
              clear hc
              by_cases hbr : 4294967296 ≤ r2 + y1
              · obtain ⟨t2, rfl⟩ : ∃ t2, m = t2 + 1 := ⟨m - 1, by omega⟩
                rw [show t2 + 1 - 1 = t2 by omega] at G2
                have L2 := hid (gs_brk G2.out hYY.out (by omega) hbr y0a y0b u0a)
                obtain ⟨R, hR, hRa, hRb, HRd⟩ : ∃ R, IntKind.u64.wrap (IntKind.u64.wrap (IntKind.u64.wrap (V * 4294967296) + u0) - IntKind.u64.wrap (t2 * Y)) = R ∧ 0 ≤ R ∧ R < Y ∧ Hid (R = V * 4294967296 + u0 - t2 * Y) := ⟨_, (gs_rest V u0 Y (t2) L2.out G2.out.up (by rw [hYY.out]; omega)).1, (gs_rest V u0 Y (t2) L2.out G2.out.up (by rw [hYY.out]; omega)).2.1, (gs_rest V u0 Y (t2) L2.out G2.out.up (by rw [hYY.out]; omega)).2.2, rfl⟩
                have ht0 : t2 < 4294967296 := gs_t L2.out (by have := HVb.out; exact this) u0b YP.out
                have RA := hid (show 0 ≤ R ∧ R < Y from ⟨hRa, hRb⟩)
                clear hRa hRb L2 G2
                go_wp2
                go_ret2
                refine ⟨rfl, t, t2, R, rfl, RA.out.1, RA.out.2, by omega, by omega, by omega, by omega, ?_⟩
                have e1 := HVd.out
                have e0 := HRd.out
                rw [e0, e1]
                generalize Y = Yg
                grind
              · go_wp2
                go_round
                case rel => exact ⟨m - 1, r2 + y1, rfl, rfl, by omega, by omega, by omega, by omega, G2.out⟩
                case measure => simp [intOf]; omega
            · obtain ⟨p3, hp3⟩ : ∃ p3, m * y0 = p3 := ⟨_, rfl⟩
              have hp3a : 0 ≤ p3 := by rw [← hp3]; exact Int.mul_nonneg m0a y0a
              have hp3b : p3 < 18446744073709551616 := by
                rw [← hp3]
                have := Int.mul_le_mul (show m ≤ 4294967295 by omega) (show y0 ≤ 4294967295 by omega) y0a (by omega)
                omega
              by_cases hcd2 : 4294967296 * r2 + u0 < p3
              · have hc : V * 4294967296 + u0 < m * Y := by rw [gs_mul G0.out hYY.out, hp3]; omega
                have hqp := gs_pos (by omega) hc YP.out
                have G2 := hid (gs_step G0.out hc hqp (by omega))
                clear hc
                by_cases hbr : 4294967296 ≤ r2 + y1
                · obtain ⟨t2, rfl⟩ : ∃ t2, m = t2 + 1 := ⟨m - 1, by omega⟩
                  rw [show t2 + 1 - 1 = t2 by omega] at G2
                  have L2 := hid (gs_brk G2.out hYY.out (by omega) hbr y0a y0b u0a)
                  obtain ⟨R, hR, hRa, hRb, HRd⟩ : ∃ R, IntKind.u64.wrap (IntKind.u64.wrap (IntKind.u64.wrap (V * 4294967296) + u0) - IntKind.u64.wrap (t2 * Y)) = R ∧ 0 ≤ R ∧ R < Y ∧ Hid (R = V * 4294967296 + u0 - t2 * Y) := ⟨_, (gs_rest V u0 Y (t2) L2.out G2.out.up (by rw [hYY.out]; omega)).1, (gs_rest V u0 Y (t2) L2.out G2.out.up (by rw [hYY.out]; omega)).2.1, (gs_rest V u0 Y (t2) L2.out G2.out.up (by rw [hYY.out]; omega)).2.2, rfl⟩
                  have ht0 : t2 < 4294967296 := gs_t L2.out (by have := HVb.out; exact this) u0b YP.out
                  have RA := hid (show 0 ≤ R ∧ R < Y from ⟨hRa, hRb⟩)
                  clear hRa hRb L2 G2
                  go_wp2
                  go_ret2
                  refine ⟨rfl, t, t2, R, rfl, RA.out.1, RA.out.2, by omega, by omega, by omega, by omega, ?_⟩
                  have e1 := HVd.out
                  have e0 := HRd.out
                  rw [e0, e1]
                  generalize Y = Yg
                  grind
                · go_wp2
                  go_round
                  case rel => exact ⟨m - 1, r2 + y1, rfl, rfl, by omega, by omega, by omega, by omega, G2.out⟩
                  case measure => simp [intOf]; omega
              · have L2 := hid (gs_low G0.out hYY.out (by rw [hp3]; omega))
                have G2 := G0
                obtain ⟨R, hR, hRa, hRb, HRd⟩ : ∃ R, IntKind.u64.wrap (IntKind.u64.wrap (IntKind.u64.wrap (V * 4294967296) + u0) - IntKind.u64.wrap (m * Y)) = R ∧ 0 ≤ R ∧ R < Y ∧ Hid (R = V * 4294967296 + u0 - m * Y) := ⟨_, (gs_rest V u0 Y (m) L2.out G2.out.up (by rw [hYY.out]; omega)).1, (gs_rest V u0 Y (m) L2.out G2.out.up (by rw [hYY.out]; omega)).2.1, (gs_rest V u0 Y (m) L2.out G2.out.up (by rw [hYY.out]; omega)).2.2, rfl⟩
                have ht0 : m < 4294967296 := gs_t L2.out (by have := HVb.out; exact this) u0b YP.out
                have RA := hid (show 0 ≤ R ∧ R < Y from ⟨hRa, hRb⟩)
                clear hRa hRb L2 G2
                go_wp2
                go_ret2
                refine ⟨rfl, t, m, R, rfl, RA.out.1, RA.out.2, by omega, by omega, by omega, by omega, ?_⟩
                have e1 := HVd.out
                have e0 := HRd.out
                rw [e0, e1]
                generalize Y = Yg
                grind
        · go_wp2
          go_round
          case rel => exact ⟨q - 1, r + y1, rfl, rfl, by omega, by omega, by omega, by omega, G1.out⟩
          case measure => simp [intOf]; omega
      · have L1 := hid (gs_low G.out hYY.out (by rw [hp]; omega))
        have G1 := G
        obtain ⟨V, hV, hVa, hVb, HVd⟩ : ∃ V, IntKind.u64.wrap (IntKind.u64.wrap (IntKind.u64.wrap (U * 4294967296) + u1) - IntKind.u64.wrap (q * Y)) = V ∧ 0 ≤ V ∧ V < Y ∧ Hid (V = U * 4294967296 + u1 - q * Y) := ⟨_, (gs_rest U u1 Y (q) L1.out G1.out.up (by rw [hYY.out]; omega)).1, (gs_rest U u1 Y (q) L1.out G1.out.up (by rw [hYY.out]; omega)).2.1, (gs_rest U u1 Y (q) L1.out G1.out.up (by rw [hYY.out]; omega)).2.2, rfl⟩
        have ht1 : q < 4294967296 := gs_t L1.out (by rw [hYY.out]; exact Ub) u1b YP.out
        have HVb := hid hVb
        rw [hYY.out] at hVb
        obtain ⟨k, hk⟩ : ∃ k, V / y1 = k := ⟨_, rfl⟩
        obtain ⟨p2, hp2⟩ : ∃ p2, k * y1 = p2 := ⟨_, rfl⟩
        have g := gs_start hVa hYY.out (by omega) y0a u0b
        rw [hk, hp2] at g
        have hk0 := g.q0
        have hr0 := g.r0
        have hkb := gs_q g HVb.out hYY.out y1a y0b
        have hr1 : V - p2 < y1 := by
          have := Int.emod_lt_of_pos V (show 0 < y1 by omega); have := Int.mul_ediv_add_emod V y1
          rw [hk, Int.mul_comm, hp2] at this; omega
        have hp2a : 0 ≤ p2 := by rw [← hp2]; exact Int.mul_nonneg hk0 (by omega)
        have hr2 : V - p2 < 4294967296 := by omega
        have GG := hid g
        clear g L1 G1
        go_wp2
        go_loop [16, 18] (fun d c => ∃ q r : Int, c = .int .u64 q ∧ d = .int .u64 r ∧ 0 ≤ q ∧ q ≤ 4294967297 ∧ 0 ≤ r ∧ r < 4294967296 ∧ Hid (Gs V u0 Y y1 y0 q r)) (fun _ c => (intOf c).toNat)
        case atStart => exact ⟨k, V - p2, rfl, rfl, hk0, hkb, hr0, hr2, GG.out⟩
        case round =>
          clear GG hr0 hr1 hr2 hp2a hkb hk0 hp2 hk
          obtain ⟨m, r2, rfl, rfl, m0a, m0b, r20a, r20b, G0⟩ := hrel
          by_cases hbig2 : 4294967296 ≤ m
          · have hc := gs_big (q := m) HVb.out u0b YP.out hbig2
            have G2 := hid (gs_step G0.out hc (by omega) (by omega))
            clear hc
            by_cases hbr : 4294967296 ≤ r2 + y1
            · obtain ⟨t2, rfl⟩ : ∃ t2, m = t2 + 1 := ⟨m - 1, by omega⟩
              rw [show t2 + 1 - 1 = t2 by omega] at G2
              have L2 := hid (gs_brk G2.out hYY.out (by omega) hbr y0a y0b u0a)
              obtain ⟨R, hR, hRa, hRb, HRd⟩ : ∃ R, IntKind.u64.wrap (IntKind.u64.wrap (IntKind.u64.wrap (V * 4294967296) + u0) - IntKind.u64.wrap (t2 * Y)) = R ∧ 0 ≤ R ∧ R < Y ∧ Hid (R = V * 4294967296 + u0 - t2 * Y) := ⟨_, (gs_rest V u0 Y (t2) L2.out G2.out.up (by rw [hYY.out]; omega)).1, (gs_rest V u0 Y (t2) L2.out G2.out.up (by rw [hYY.out]; omega)).2.1, (gs_rest V u0 Y (t2) L2.out G2.out.up (by rw [hYY.out]; omega)).2.2, rfl⟩
              have ht0 : t2 < 4294967296 := gs_t L2.out (by have := HVb.out; exact this) u0b YP.out
              have RA := hid (show 0 ≤ R ∧ R < Y from ⟨hRa, hRb⟩)
              clear hRa hRb L2 G2
              go_wp2
              go_ret2
              refine ⟨rfl, q, t2, R, rfl, RA.out.1, RA.out.2, by omega, by omega, by omega, by omega, ?_⟩
              have e1 := HVd.out
              have e0 := HRd.out
              rw [e0, e1]
              generalize Y = Yg
              grind
            · go_wp2
              go_round
              case rel => exact ⟨m - 1, r2 + y1, rfl, rfl, by omega, by omega, by omega, by omega, G2.out⟩
              case measure => simp [intOf]; omega
          · obtain ⟨p3, hp3⟩ : ∃ p3, m * y0 = p3 := ⟨_, rfl⟩
            have hp3a : 0 ≤ p3 := by rw [← hp3]; exact Int.mul_nonneg m0a y0a
            have hp3b : p3 < 18446744073709551616 := by
              rw [← hp3]
              have := Int.mul_le_mul (show m ≤ 4294967295 by omega) (show y0 ≤ 4294967295 by omega) y0a (by omega)
              omega
            by_cases hcd2 : 4294967296 * r2 + u0 < p3
            · have hc : V * 4294967296 + u0 < m * Y := by rw [gs_mul G0.out hYY.out, hp3]; omega
              have hqp := gs_pos (by omega) hc YP.out
              have G2 := hid (gs_step G0.out hc hqp (by omega))
              clear hc
              by_cases hbr : 4294967296 ≤ r2 + y1
              · obtain ⟨t2, rfl⟩ : ∃ t2, m = t2 + 1 := ⟨m - 1, by omega⟩
                rw [show t2 + 1 - 1 = t2 by omega] at G2
                have L2 := hid (gs_brk G2.out hYY.out (by omega) hbr y0a y0b u0a)
                obtain ⟨R, hR, hRa, hRb, HRd⟩ : ∃ R, IntKind.u64.wrap (IntKind.u64.wrap (IntKind.u64.wrap (V * 4294967296) + u0) - IntKind.u64.wrap (t2 * Y)) = R ∧ 0 ≤ R ∧ R < Y ∧ Hid (R = V * 4294967296 + u0 - t2 * Y) := ⟨_, (gs_rest V u0 Y (t2) L2.out G2.out.up (by rw [hYY.out]; omega)).1, (gs_rest V u0 Y (t2) L2.out G2.out.up (by rw [hYY.out]; omega)).2.1, (gs_rest V u0 Y (t2) L2.out G2.out.up (by rw [hYY.out]; omega)).2.2, rfl⟩
                have ht0 : t2 < 4294967296 := gs_t L2.out (by have := HVb.out; exact this) u0b YP.out
                have RA := hid (show 0 ≤ R ∧ R < Y from ⟨hRa, hRb⟩)
                clear hRa hRb L2 G2
                go_wp2
                go_ret2
                refine ⟨rfl, q, t2, R, rfl, RA.out.1, RA.out.2, by omega, by omega, by omega, by omega, ?_⟩
                have e1 := HVd.out
                have e0 := HRd.out
                rw [e0, e1]
                generalize Y = Yg
                grind
              · go_wp2
                go_round
                case rel => exact ⟨m - 1, r2 + y1, rfl, rfl, by omega, by omega, by omega, by omega, G2.out⟩
                case measure => simp [intOf]; omega
            · have L2 := hid (gs_low G0.out hYY.out (by rw [hp3]; omega))
              have G2 := G0
              obtain ⟨R, hR, hRa, hRb, HRd⟩ : ∃ R, IntKind.u64.wrap (IntKind.u64.wrap (IntKind.u64.wrap (V * 4294967296) + u0) - IntKind.u64.wrap (m * Y)) = R ∧ 0 ≤ R ∧ R < Y ∧ Hid (R = V * 4294967296 + u0 - m * Y) := ⟨_, (gs_rest V u0 Y (m) L2.out G2.out.up (by rw [hYY.out]; omega)).1, (gs_rest V u0 Y (m) L2.out G2.out.up (by rw [hYY.out]; omega)).2.1, (gs_rest V u0 Y (m) L2.out G2.out.up (by rw [hYY.out]; omega)).2.2, rfl⟩
              have ht0 : m < 4294967296 := gs_t L2.out (by have := HVb.out; exact this) u0b YP.out
              have RA := hid (show 0 ≤ R ∧ R < Y from ⟨hRa, hRb⟩)
              clear hRa hRb L2 G2
              go_wp2
              go_ret2
              refine ⟨rfl, q, m, R, rfl, RA.out.1, RA.out.2, by omega, by omega, by omega, by omega, ?_⟩
              have e1 := HVd.out
              have e0 := HRd.out
              rw [e0, e1]
              generalize Y = Yg
              grind
end Go.Proofs.Ytllpllebmknmpaa
namespace Go.Proofs.Ytllpllebmknmpaa
open Go.RowKit

theorem wraps_u64 (n : Int) (h0 : 0 ≤ n) (h1 : n < 2 ^ 64) : IntKind.u64.wrap n = n := by rw [IntKind.wrap_u64]; omega

theorem bitLen_bounds : ∀ (b x : Nat), Lib.bitLen x = b → 0 < x → x < 18446744073709551616 → 1 ≤ b ∧ 2 ^ (b - 1) ≤ x ∧ x < 2 ^ b := by
  intro b
  induction b with
  | zero =>
    intro x h h0 h1
    rw [Lib.bitLen_half x (by omega) (by omega)] at h
    omega
  | succ b ih =>
    intro x h h0 h1
    rw [Lib.bitLen_half x (by omega) (by omega)] at h
    by_cases hx : x = 1
    · subst hx
      have : b = 0 := by have h2 : Lib.bitLen (1 / 2) = 0 := by decide +kernel
                         omega
      subst this
      simp
    · obtain ⟨a1, a2, a3⟩ := ih (x / 2) (by omega) (by omega) (by omega)
      obtain ⟨c, rfl⟩ : ∃ c, b = c + 1 := ⟨b - 1, by omega⟩
      simp only [Nat.add_sub_cancel, Nat.pow_succ] at a2 a3 ⊢
      omega

/-- The numbers of Div64, put together. -/
theorem div64_nums (hi lo y : Int) (b : Nat) (h0 : 0 ≤ hi) (h1 : hi < y) (l0 : 0 ≤ lo) (l1 : lo < 18446744073709551616) (_b1 : 1 ≤ b) (_b2 : b ≤ 64) (p q : Int) (hp : p = 2 ^ (64 - b)) (hq : q = 2 ^ b) (hpq : p * q = 18446744073709551616) (p0 : 0 < p) (q0 : 0 < q) (ya : q ≤ 2 * y) (yb : y < q) :
    ∃ Y U L : Int, y * p = Y ∧ 9223372036854775808 ≤ Y ∧ Y < 18446744073709551616 ∧ bits BinOp.or .u64 (IntKind.u64.wrap (hi * p)) (lo / q) = U ∧ 0 ≤ U ∧ U < Y ∧ IntKind.u64.wrap (lo * p) = L ∧ 0 ≤ L ∧ L < 18446744073709551616 ∧ U * 18446744073709551616 + L = (hi * 18446744073709551616 + lo) * p := by
  have eY : y * p < q * p := (Int.mul_lt_mul_right p0).2 yb
  have eY2 : q * p ≤ 2 * y * p := Int.mul_le_mul_of_nonneg_right ya (Int.le_of_lt p0)
  rw [Int.mul_comm q p, hpq] at eY eY2
  have eH : hi * p < y * p := (Int.mul_lt_mul_right p0).2 h1
  have eH0 : 0 ≤ hi * p := Int.mul_nonneg h0 (Int.le_of_lt p0)
  have d0 : 0 ≤ lo / q := Int.ediv_nonneg l0 (Int.le_of_lt q0)
  have d1 : lo / q < p := by
    apply Int.ediv_lt_of_lt_mul q0
    rw [hpq]; exact l1
  have hw : IntKind.u64.wrap (hi * p) = hi * p := by rw [IntKind.wrap_u64]; omega
  have hor : bits BinOp.or .u64 (IntKind.u64.wrap (hi * p)) (lo / q) = hi * p + lo / q := by
    rw [hw]
    refine bits_join .u64 64 (by decide) wraps_u64 (64 - b) _ _ eH0 ?_ (by omega) d0 (by rw [← hp]; exact d1) ?_
    · rw [← hp]; exact Int.mul_emod_left _ _
    · have : p ≤ 18446744073709551616 := by rw [← hpq]; have := Int.mul_le_mul_of_nonneg_left (show (1 : Int) ≤ q by omega) (Int.le_of_lt p0); omega
      omega
  have e1 : lo * p / 18446744073709551616 = lo / q := by
    rw [← hpq, Int.mul_comm lo p]
    exact Int.mul_ediv_mul_of_pos _ _ p0
  have e2 := Int.mul_ediv_add_emod (lo * p) 18446744073709551616
  rw [e1] at e2
  have e3 : (hi * 18446744073709551616 + lo) * p = hi * p * 18446744073709551616 + lo * p := by rw [Int.add_mul]; congr 1; rw [Int.mul_assoc, Int.mul_comm 18446744073709551616 p, ← Int.mul_assoc]
  have e4 : (hi * p + lo / q) * 18446744073709551616 + (lo * p) % 18446744073709551616 = (hi * 18446744073709551616 + lo) * p := by rw [e3]; omega
  refine ⟨y * p, hi * p + lo / q, (lo * p) % 18446744073709551616, rfl, by rw [Int.mul_assoc] at eY2; omega, eY, hor, by omega, ?_, IntKind.wrap_u64 _, by omega, by omega, e4⟩
  have f1 : (hi * 18446744073709551616 + lo) * p < y * 18446744073709551616 * p := (Int.mul_lt_mul_right p0).2 (by omega)
  have f2 : y * 18446744073709551616 * p = y * p * 18446744073709551616 := by rw [Int.mul_assoc, Int.mul_comm 18446744073709551616 p, ← Int.mul_assoc]
  omega

/-- Quotient and rest, told by what they are. -/
theorem qr_unique {X y q r : Int} (h : X = q * y + r) (h0 : 0 ≤ r) (h1 : r < y) : X / y = q ∧ X % y = r := by
  have hy : 0 < y := by omega
  have e1 : X / y = q := by
    rw [h, Int.add_comm, Int.add_mul_ediv_right _ _ (by omega), Int.ediv_eq_zero_of_lt h0 h1]; omega
  refine ⟨e1, ?_⟩
  have := Int.mul_ediv_add_emod X y
  rw [e1, Int.mul_comm] at this
  omega

set_option maxHeartbeats 1000000 in
theorem div64_c (hi lo y : Int) (w : World) (h0 : 0 ≤ hi) (h1 : hi < y) (hy : y < 18446744073709551616) (l0 : 0 ≤ lo) (l1 : lo < 18446744073709551616) :
    Calls Try.prog 85 #[.int .u64 hi, .int .u64 lo, .int .u64 y] w fun e w' => e = .returned (.tuple #[.int .u64 ((hi * 18446744073709551616 + lo) / y), .int .u64 ((hi * 18446744073709551616 + lo) % y)]) ∧ ∃ n, w' = w.drewN n := by
  by_cases hz : hi = 0
  · subst hz
    have e0 : 0 * 18446744073709551616 + lo = lo := by omega
    rw [e0]
    have b0 : 0 ≤ lo / y := Int.ediv_nonneg l0 (by omega)
    have b1 : lo / y ≤ lo := Int.ediv_le_self y l0
    have b2 := Int.emod_nonneg lo (show y ≠ 0 by omega)
    have b3 := Int.emod_lt_of_pos lo (show 0 < y by omega)
    go_enter Try.func85, Try.ntmps85
    go_wp2
    go_quiet (fail)
    go_wp2
    go_ret2
    exact ⟨rfl, _, rfl⟩
  · obtain ⟨yn, rfl⟩ := Int.eq_ofNat_of_zero_le (show 0 ≤ y by omega)
    obtain ⟨b, hb⟩ : ∃ b, Lib.bitLen yn = b := ⟨_, rfl⟩
    obtain ⟨b1, b2, b3⟩ := bitLen_bounds b yn hb (by omega) (by omega)
    have b64 : b ≤ 64 := by rw [← hb]; exact Lib.bitLen_le yn 64 (by omega) (by omega)
    have hls := Try.bits_LeadingZeros64 (yn : Int) w (by omega) (by omega)
    rw [Int.toNat_natCast, hb] at hls
    have hp64 : (2 : Int) ^ (64 - b) * 2 ^ b = 18446744073709551616 := by rw [← Int.pow_add, show 64 - b + b = 64 by omega]; rfl
    have hya : (2 : Int) ^ b ≤ 2 * (yn : Int) := by
      have : 2 ^ b = 2 ^ (b - 1) * 2 := by rw [← Nat.pow_succ, show (b - 1).succ = b by omega]
      have h2 : 2 ^ b ≤ 2 * yn := by omega
      exact_mod_cast h2
    have hyb : (yn : Int) < 2 ^ b := by exact_mod_cast b3
    obtain ⟨Y, U, L, e1, c1, c2, e2, c3, c4, e3, c5, c6, e4⟩ := div64_nums hi lo yn b h0 h1 l0 l1 b1 b64 (2 ^ (64 - b)) (2 ^ b) rfl rfl hp64 (Int.pow_pos (by decide)) (Int.pow_pos (by decide)) hya hyb
    have es : (64 - (b : Int)).toNat = 64 - b := by omega
    have eb : (64 - (64 - (b : Int))).toNat = b := by omega
    have hand : ∀ z : Int, 0 ≤ z → z < 18446744073709551616 → bits BinOp.and .u64 z 4294967295 = z % 4294967296 := fun z z0 z1 => bits_mask .u64 64 (by decide) wraps_u64 32 (by decide) z z0 z1
    refine (div64_core hi lo yn (64 - (b : Int)) Y (Y / 4294967296) (Y % 4294967296) U L (L / 4294967296) (L % 4294967296) w (by omega) h1 hy l0 l1 (by omega) (by omega) hls
      (by rw [es, e1, IntKind.wrap_u64]; omega) rfl (hand Y (by omega) (by omega)) (by rw [es, eb]; exact e2) (by rw [es]; exact e3) rfl (hand L c5 c6) (by omega) (by omega) (by omega) (by omega) (by omega) (by omega) (by omega) (by omega) c3 (by omega) (show Y = _ by omega)).mono ?_
    rintro e w' ⟨rfl, q1, q0, R, rfl, r0, r1, _, _, _, _, hfin⟩
    refine ⟨?_, 0, rfl⟩
    rw [es]
    have f1 : (U * 4294967296 + L / 4294967296) * 4294967296 + L % 4294967296 = U * 18446744073709551616 + L := by omega
    rw [f1, e4, ← e1] at hfin
    have P0 : (0 : Int) < 2 ^ (64 - b) := Int.pow_pos (by decide)
    generalize (2 : Int) ^ (64 - b) = P at *
    have f2 : R = (hi * 18446744073709551616 + lo - (q1 * 4294967296 + q0) * yn) * P := by
      rw [Int.sub_mul, Int.mul_assoc (q1 * 4294967296 + q0)]; omega
    have f3 : R / P = hi * 18446744073709551616 + lo - (q1 * 4294967296 + q0) * yn := by rw [f2]; exact Int.mul_ediv_cancel _ (by omega)
    have f4 : 0 ≤ hi * 18446744073709551616 + lo - (q1 * 4294967296 + q0) * yn := by
      rw [← f3]; exact Int.ediv_nonneg r0 (Int.le_of_lt P0)
    have f5 : hi * 18446744073709551616 + lo - (q1 * 4294967296 + q0) * yn < yn := by
      have : (hi * 18446744073709551616 + lo - (q1 * 4294967296 + q0) * yn) * P < yn * P := by rw [← f2, e1]; exact r1
      exact Int.lt_of_mul_lt_mul_right this (Int.le_of_lt P0)
    obtain ⟨g1, g2⟩ := qr_unique (X := hi * 18446744073709551616 + lo) (y := yn) (q := q1 * 4294967296 + q0) (r := hi * 18446744073709551616 + lo - (q1 * 4294967296 + q0) * yn) (by omega) f4 f5
    rw [g1, g2, f3]
end Go.Proofs.Ytllpllebmknmpaa
namespace Go.Proofs.Ytllpllebmknmpaa
open Go.RowKit

theorem lm_zero (n : Nat) : Lm (fun _ => 0) n := fun _ _ => ⟨Int.le_refl 0, (by decide : (0 : Int) < 18446744073709551616)⟩
theorem vf_cons (f : Nat → Int) (m i : Nat) : vf (sh f m) (i + 1) = f m + 18446744073709551616 * vf (sh f (m + 1)) i := by
  rw [Nat.add_comm i 1, vf_split (sh f m) 1 i, sh_sh]
  have e1 : vf (sh f m) 1 = f m := by simp [vf, pw, sh]
  have e2 : pw 1 = 18446744073709551616 := by simp [pw]
  rw [e1, e2]; omega

theorem divw_step {f q q' : Nat → Int} {k i : Nat} {r wd : Int} (HV : vf (sh f (k + 1)) i = vf (sh q (k + 1)) i * wd + r) (hq : ∀ j, k < j → q' j = q j) (hk : q' k = (r * 18446744073709551616 + f k) / wd) :
    vf (sh f k) (i + 1) = vf (sh q' k) (i + 1) * wd + (r * 18446744073709551616 + f k) % wd := by
  have e1 : vf (sh q' (k + 1)) i = vf (sh q (k + 1)) i := vf_congr (fun j hj => hq _ (by omega))
  rw [vf_cons, vf_cons, e1, HV, hk]
  have e2 := Int.mul_ediv_add_emod (r * 18446744073709551616 + f k) wd
  generalize (r * 18446744073709551616 + f k) / wd = Q at *
  generalize (r * 18446744073709551616 + f k) % wd = R at *
  grind

set_option maxRecDepth 100000 in
set_option maxHeartbeats 1000000 in
theorem divWord_c (ao : Option Addr) (n cap : Nat) (f : Nat → Int) (wd : Int) (w : World) (hn : n ≤ 17592186044416) (hr : Rd .u64 w ao n f) (hf : Lm f n) (w0 : 0 < wd) (w1 : wd < 18446744073709551616) :
    Calls Try.prog 95 #[.slice ao n cap, .int .u64 wd] w fun e w' => ∃ ao' k cap' q r, e = .returned (.tuple #[.slice ao' k cap', .int .u64 r]) ∧ Res n w w' ao' k cap' q ∧ 0 ≤ r ∧ r < wd ∧ vf f n = vf q k * wd + r := by
  have HR := hid hr
  have HF := hid hf
  clear hr hf
  go_enter Try.func95, Try.ntmps95
  go_wp2_with (at_make; refine wpList_make_blk .u64 w rfl (.tmp 11) (.tmp 11) 64 rfl 63 8 Try.underlying64 Try.infoU64 .i64 .i64 n n n rfl rfl rfl rfl (by omega) (by unfold maxLen; omega) ?_; intro wa hba hbela)
  go_loopw [7, 15] (fun c t wr => ∃ (i : Nat) (r : Int) (q : Nat → Int), i ≤ n ∧ t = .int .i64 i ∧ c = .int .u64 r ∧ 0 ≤ r ∧ r < wd ∧ Below w.heap.size w wr ∧ Blk .u64 63 wr w.heap.size n q ∧ Hid (Lm q n) ∧ Hid (vf (sh f (n - i)) i = vf (sh q (n - i)) i * wd + r)) (fun _ t _ => n - (intOf t).toNat)
  case atStart => exact ⟨0, 0, fun _ => 0, by omega, rfl, rfl, by omega, w0, hbela, hba, lm_zero n, by simp [Hid, vf]⟩
  case round =>
    clear hba hbela
    obtain ⟨i, r, q, hi, rfl, rfl, r0, r1, hbel, hbl, HL, HV⟩ := hrel
    by_cases hlt : i < n
    · have hr := HR.out
      obtain ⟨b, o, rfl⟩ := hr.at (by omega)
      obtain ⟨k, hk⟩ : ∃ k, k = n - 1 - i := ⟨_, rfl⟩
      have hk1 : n - i = k + 1 := by omega
      have hk2 : k < n := by omega
      obtain ⟨x, hx⟩ : ∃ x, f k = x := ⟨_, rfl⟩
      have hcell : wr.cell? ⟨b, o + (n - 1 - i), none⟩ = some (.int .u64 x) := by rw [← hk, ← hx]; exact (hr.below hbel (Nat.le_refl _)).cell hk2
      have hcelq := hbl.cell (j := n - 1 - i) (by omega)
      have hfz := hbl.frozen (n - 1 - i)
      obtain ⟨x0, x1⟩ := HF.out k hk2
      rw [hx] at x0 x1
      have HX := hid hx
      have HK := hid hk
      have HK1 := hid hk1
      clear hx hk hk1 hr
      obtain ⟨Q, hQ⟩ : ∃ Q, (r * 18446744073709551616 + x) / wd = Q := ⟨_, rfl⟩
      obtain ⟨R, hR⟩ : ∃ R, (r * 18446744073709551616 + x) % wd = R := ⟨_, rfl⟩
      have c1 := fun w => div64_c r x wd w r0 r1 w1 x0 x1
      have hR0 : 0 ≤ R := by rw [← hR]; exact Int.emod_nonneg _ (by omega)
      have hR1 : R < wd := by rw [← hR]; exact Int.emod_lt_of_pos _ w0
      have hQ0 : 0 ≤ Q := by rw [← hQ]; exact Int.ediv_nonneg (by omega) (by omega)
      have hQ1 : Q < 18446744073709551616 := by
        rw [← hQ]
        apply Int.ediv_lt_of_lt_mul w0
        have : (r + 1) * 18446744073709551616 ≤ wd * 18446744073709551616 := Int.mul_le_mul_of_nonneg_right (by omega) (by decide)
        rw [Int.mul_comm 18446744073709551616 wd]
        omega
      rw [hQ, hR] at c1
      have C1 := hid c1
      have HQ := hid hQ
      have HRR := hid hR
      clear c1 hQ hR
      go_wp2_with fail
      refine (C1.out _).mono ?_
      rintro e wx ⟨rfl, nq, rfl⟩
      go_wp2
      go_roundw
      case rel =>
        refine ⟨i + 1, R, upd q (n - 1 - i) Q, by omega, by go_num, rfl, hR0, hR1, ?_, ?_, HL.out.upd ⟨hQ0, hQ1⟩, ?_⟩
        · exact (below_drewN hbel nq).setCell (Nat.le_refl _) _
        · exact Blk.set (show Blk .u64 63 (wr.drewN nq) w.heap.size n q from hbl) _ _
        · have e1 : n - (i + 1) = k := by have := HK1.out; omega
          have hv := HV.out
          rw [HK1.out] at hv
          have := divw_step (q' := upd q k Q) hv (fun j hj => upd_other _ _ _ _ (by omega)) (by rw [upd_same, HX.out, HQ.out])
          rw [HX.out, HRR.out] at this
          rw [e1, ← HK.out]
          exact this
      case measure => simp [intOf]; omega
    · have hin : i = n := by omega
      subst hin
      have hv : vf f i = vf q i * wd + r := by have := HV.out; rwa [Nat.sub_self, sh_zero, sh_zero] at this
      have HV2 := hid hv
      clear hv
      go_wp2_with fail
      refine (trim_res w.heap.size i i q w wr hbel (Nat.le_refl _) hbl (Nat.le_refl _) (by omega) HL.out).mono ?_
      rintro e w3 ⟨rfl, ao', k, cap', rfl, hres, hkn, hvt⟩
      have HVT := hid hvt
      clear hvt
      go_wp2
      go_ret2
      exact ⟨ao', k, cap', q, r, rfl, hres, r0, r1, by rw [HVT.out]; exact HV2.out⟩

theorem modw_step {f : Nat → Int} {k i : Nat} {r wd : Int} (HV : vf (sh f (k + 1)) i % wd = r) : vf (sh f k) (i + 1) % wd = (r * 18446744073709551616 + f k) % wd := by
  rw [vf_cons, ← HV, Int.add_comm (f k), Int.mul_comm]
  simp [Int.add_emod, Int.mul_emod]

set_option maxHeartbeats 1000000 in
theorem modWord_c (ao : Option Addr) (n cap : Nat) (f : Nat → Int) (wd : Int) (w : World) (hn : n ≤ 17592186044416) (hr : Rd .u64 w ao n f) (hf : Lm f n) (w0 : 0 < wd) (w1 : wd < 18446744073709551616) :
    Calls Try.prog 80 #[.slice ao n cap, .int .u64 wd] w fun e w' => e = .returned (.int .u64 (vf f n % wd)) ∧ ∃ q, w' = w.drewN q := by
  have HR := hid hr
  have HF := hid hf
  clear hr hf
  go_enter Try.func80, Try.ntmps80
  go_wp2
  go_loopw [5, 9] (fun c t wr => ∃ (i : Nat) (r : Int), i ≤ n ∧ t = .int .i64 i ∧ c = .int .u64 r ∧ 0 ≤ r ∧ r < wd ∧ (∃ q, wr = w.drewN q) ∧ Hid (vf (sh f (n - i)) i % wd = r)) (fun _ t _ => n - (intOf t).toNat)
  case atStart => exact ⟨0, 0, by omega, rfl, rfl, by omega, w0, ⟨0, rfl⟩, by simp [Hid, vf]⟩
  case round =>
    obtain ⟨i, r, hi, rfl, rfl, r0, r1, ⟨q, rfl⟩, HV⟩ := hrel
    by_cases hlt : i < n
    · have hr := HR.out
      obtain ⟨b, o, rfl⟩ := hr.at (by omega)
      obtain ⟨k, hk⟩ : ∃ k, k = n - 1 - i := ⟨_, rfl⟩
      have hk1 : n - i = k + 1 := by omega
      have hk2 : k < n := by omega
      obtain ⟨x, hx⟩ : ∃ x, f k = x := ⟨_, rfl⟩
      have hcell : w.cell? ⟨b, o + (n - 1 - i), none⟩ = some (.int .u64 x) := by rw [← hk, ← hx]; exact hr.cell hk2
      obtain ⟨x0, x1⟩ := HF.out k hk2
      rw [hx] at x0 x1
      have HX := hid hx
      have HK := hid hk
      have HK1 := hid hk1
      clear hx hk hk1 hr
      obtain ⟨R, hR⟩ : ∃ R, (r * 18446744073709551616 + x) % wd = R := ⟨_, rfl⟩
      have c1 := fun w => div64_c r x wd w r0 r1 w1 x0 x1
      have hR0 : 0 ≤ R := by rw [← hR]; exact Int.emod_nonneg _ (by omega)
      have hR1 : R < wd := by rw [← hR]; exact Int.emod_lt_of_pos _ w0
      rw [hR] at c1
      have C1 := hid c1
      have HRR := hid hR
      clear c1 hR
      go_wp2_with fail
      refine (C1.out _).mono ?_
      rintro e wx ⟨rfl, nq, rfl⟩
      go_wp2
      go_roundw
      case rel =>
        refine ⟨i + 1, R, by omega, by go_num, rfl, hR0, hR1, ⟨_, by (repeat rw [World.drewN_drewN]) <;> rfl⟩, ?_⟩
        have e1 : n - (i + 1) = k := by have := HK1.out; omega
        have hv := HV.out
        rw [HK1.out] at hv
        have := modw_step (k := k) (i := i) (r := r) hv
        rw [HX.out, HRR.out] at this
        rw [e1]
        exact this
      case measure => simp [intOf]; omega
    · have hin : i = n := by omega
      subst hin
      have hv : vf f i % wd = r := by have := HV.out; rwa [Nat.sub_self, sh_zero] at this
      have HV2 := hid hv
      clear hv
      go_wp2
      go_ret
      exact ⟨by rw [HV2.out]; rfl, q, rfl⟩

set_option maxHeartbeats 1000000 in
theorem gcdWord_c (a b : Nat) (w : World) (ha : a < 18446744073709551616) (hb : b < 18446744073709551616) :
    Calls Try.prog 79 #[.int .u64 a, .int .u64 b] w fun e w' => e = .returned (.int .u64 (Nat.gcd a b : Nat)) ∧ ∃ q, w' = w.drewN q := by
  go_enter Try.func79, Try.ntmps79
  go_wp2
  go_loopw [0, 1] (fun c d wr => ∃ (x y : Nat), c = .int .u64 x ∧ d = .int .u64 y ∧ x < 18446744073709551616 ∧ y < 18446744073709551616 ∧ (∃ q, wr = w.drewN q) ∧ Hid (Nat.gcd x y = Nat.gcd a b)) (fun _ d _ => (intOf d).toNat)
  case atStart => exact ⟨a, b, rfl, rfl, ha, hb, ⟨0, rfl⟩, rfl⟩
  case round =>
    obtain ⟨x, y, rfl, rfl, hx, hy, ⟨q, rfl⟩, HV⟩ := hrel
    by_cases h0 : y = 0
    · subst h0
      have hg : x = Nat.gcd a b := by have := HV.out; rwa [Nat.gcd_zero_right] at this
      have HG := hid hg
      clear hg
      go_wp2
      go_ret
      exact ⟨by rw [← HG.out]; rfl, q, rfl⟩
    · have h1 : ((y : Int) != 0) = true := by simp; omega
      have h2 : (0 : Int) < y := by omega
      have h3 : (x : Int) % y < y := Int.emod_lt_of_pos _ h2
      have h4 : 0 ≤ (x : Int) % y := Int.emod_nonneg _ (by omega)
      have h5 : x % y < y := Nat.mod_lt _ (by omega)
      have H5 := hid h5
      clear h5
      go_wp2
      go_quiet (fail)
      go_wp2
      go_roundw
      case rel => exact ⟨y, x % y, rfl, by go_num, hy, by have := H5.out; omega, ⟨_, by (repeat rw [World.drewN_drewN]) <;> rfl⟩, by have := HV.out; rw [Nat.gcd_comm y, ← Nat.gcd_rec y x, Nat.gcd_comm]; exact this⟩
      case measure => simp [intOf]; exact H5.out
end Go.Proofs.Ytllpllebmknmpaa
namespace Go.Proofs.Ytllpllebmknmpaa
open Go.RowKit

/-- The two lists lie in two blocks. -/
def Apart (a b : Option Addr) : Prop := ∀ x y, a = some x → b = some y → x.block ≠ y.block
theorem apart_none (b : Option Addr) : Apart none b := fun _ _ h => by cases h
theorem Apart.symm {a b : Option Addr} (h : Apart a b) : Apart b a := fun x y h1 h2 e => h y x h2 h1 e.symm
theorem Res.apart {C w w' a b n cap f} {B : Nat} (h : Res C w w' b n cap f) (ha : Und a B) (hB : B ≤ w.heap.size) : Apart a b := by
  rcases h.own with ⟨rfl, _, _⟩ | ⟨g, rfl, h1, _, _, _, _⟩
  · exact fun _ _ _ h => by cases h
  · intro x y hx hy
    cases hy
    have := ha x hx
    simp; omega

set_option maxHeartbeats 1000000 in
/-- divMod where the divisor has one limb, or is the greater. -/
theorem divMod_smallA (ao bo : Option Addr) (n m ca cb : Nat) (f h : Nat → Int) (w : World) (hn : n ≤ 8796093022208) (hm : m ≤ 8796093022208) (hr : Rd .u64 w ao n f) (hs : Rd .u64 w bo m h) (hf : Lm f n) (hh : Lm h m) (ff : Fm f n) (fh : Fm h m) (hsm : m = 1 ∨ vf f n < vf h m) :
    Calls Try.prog 90 #[.slice ao n ca, .slice bo m cb] w fun e w' => ∃ a1 k1 c1 q a2 k2 c2 r, e = .returned (.tuple #[.slice a1 k1 c1, .slice a2 k2 c2]) ∧ Res n w w' a1 k1 c1 q ∧ Res (n + 1) w w' a2 k2 c2 r ∧ vf f n = vf q k1 * vf h m + vf r k2 ∧ 0 ≤ vf r k2 ∧ vf r k2 < vf h m ∧ Apart a1 a2 := by
  have HF := hid hf; have HH := hid hh; have FF := hid ff; have FH := hid fh
  clear hf hh ff fh
  have cc := cmp_c ao bo n m ca cb f h w (by omega) (by omega) hr hs HF.out HH.out FF.out FH.out
  have CC := hid cc
  clear cc
  by_cases hlt : vf f n < vf h m
  · have HLt := hid hlt
    clear hlt hsm
    go_enter Try.func90, Try.ntmps90
    go_wp2_with fail
    refine CC.out.mono ?_
    rintro e w1 ⟨⟨q, rfl⟩, c, rfl, ho⟩
    have hc : c = -1 := by have := HLt.out; unfold Ord at ho; omega
    subst hc
    clear ho
    go_wp2_with fail
    refine (clone_c ao n ca f _ (by omega) (show Rd .u64 (w.drewN q) ao n f from hr) HF.out).mono ?_
    rintro e w2 ⟨a2, k2, c2, rfl, hres, hk, hv⟩
    have HV := hid hv
    clear hv
    go_wp2
    go_ret2
    have hb := below_drewN (Below.refl w.heap.size w) q
    refine ⟨none, 0, 0, f, a2, k2, c2, f, rfl, Res.nil f (hb.trans hres.bel), (hres.ahead hb).mono (by omega), ?_, ?_, ?_, apart_none _⟩
    · rw [HV.out]; simp [vf]
    · rw [HV.out]; exact vf_nonneg HF.out
    · rw [HV.out]; exact HLt.out
  · obtain rfl : m = 1 := by omega
    have hle : vf h 1 ≤ vf f n := by omega
    have HLe := hid hle
    clear hsm hlt hle
    obtain ⟨b, o, rfl⟩ := hs.at (by omega)
    obtain ⟨x, hx⟩ : ∃ x, h 0 = x := ⟨_, rfl⟩
    have hcell : w.cell? ⟨b, o, none⟩ = some (.int .u64 x) := by rw [← hx]; exact hs.cell (j := 0) (by omega)
    have hx01 := HH.out 0 (by omega)
    have hx2 : x ≠ 0 := by rw [← hx]; rcases FH.out with h | h; omega; exact h
    rw [hx] at hx01
    obtain ⟨x0, x1⟩ := hx01
    have hv1 : vf h 1 = x := by simp [vf, pw, hx]
    have HV1 := hid hv1
    clear hv1 hx
    go_enter Try.func90, Try.ntmps90
    go_wp2_with fail
    refine CC.out.mono ?_
    rintro e w1 ⟨⟨q, rfl⟩, c, rfl, ho⟩
    have hc : 0 ≤ c := by have := HLe.out; unfold Ord at ho; omega
    clear ho
    go_wp2_with fail
    refine (divWord_c ao n ca f x _ (by omega) (show Rd .u64 (w.drewN q) ao n f from hr) HF.out (by omega) x1).mono ?_
    rintro e w2 ⟨a1, k1, c1, q1, r, rfl, hres, r0, r1, hv⟩
    have HV := hid hv
    clear hv
    go_wp2_with fail
    refine (fromWord_c r w2 r0 (by omega)).mono ?_
    rintro e w3 ⟨a2, k2, c2, q2, rfl, hres2, hv2⟩
    have HV2 := hid hv2
    clear hv2
    go_wp2
    go_ret2
    have hb := below_drewN (Below.refl w.heap.size w) q
    refine ⟨a1, k1, c1, q1, a2, k2, c2, q2, rfl, (hres.later hres2.bel).ahead hb, ((hres2.ahead hres.bel).ahead hb).mono (by omega), ?_, ?_, ?_, hres2.apart hres.und (Nat.le_refl _)⟩
    · rw [HV2.out, HV1.out]; exact HV.out
    · rw [HV2.out]; exact r0
    · rw [HV2.out, HV1.out]; exact r1
end Go.Proofs.Ytllpllebmknmpaa
namespace Go.Proofs.Ytllpllebmknmpaa
open Go.RowKit

theorem mul64_c (x y : Int) (w : World) (x0 : 0 ≤ x) (x1 : x < 18446744073709551616) (y0 : 0 ≤ y) (y1 : y < 18446744073709551616) :
    Calls Try.prog 99 #[.int .u64 x, .int .u64 y] w fun e w' => e = .returned (.tuple #[.int .u64 (x * y / 18446744073709551616), .int .u64 (x * y % 18446744073709551616)]) ∧ w' = w := by
  obtain ⟨x, rfl⟩ := Int.eq_ofNat_of_zero_le x0
  obtain ⟨y, rfl⟩ := Int.eq_ofNat_of_zero_le y0
  refine (Try.bits_Mul64 x y (by omega) (by omega) w).mono ?_
  rintro e w' ⟨rfl, rfl⟩
  exact ⟨by simp, rfl⟩
theorem prod_bounds {x y : Int} (x0 : 0 ≤ x) (x1 : x < 18446744073709551616) (y0 : 0 ≤ y) (y1 : y < 18446744073709551616) : 0 ≤ x * y ∧ x * y ≤ 340282366920938463426481119284349108225 := by
  refine ⟨Int.mul_nonneg x0 y0, ?_⟩
  have := Int.mul_le_mul (show x ≤ 18446744073709551615 by omega) (show y ≤ 18446744073709551615 by omega) y0 (by omega)
  omega

set_option maxHeartbeats 1000000 in
theorem mulAdd_c (x y z : Int) (w : World) (x0 : 0 ≤ x) (x1 : x < 18446744073709551616) (y0 : 0 ≤ y) (y1 : y < 18446744073709551616) (z0 : 0 ≤ z) (z1 : z < 18446744073709551616) :
    Calls Try.prog 93 #[.int .u64 x, .int .u64 y, .int .u64 z] w fun e w' => e = .returned (.tuple #[.int .u64 ((x * y + z) / 18446744073709551616), .int .u64 ((x * y + z) % 18446744073709551616)]) ∧ w' = w := by
  have c1 := mul64_c x y w x0 x1 y0 y1
  have hb := prod_bounds x0 x1 y0 y1
  generalize x * y = P at *
  obtain ⟨p0, p1⟩ := hb
  obtain ⟨h, hh⟩ : ∃ h, P / 18446744073709551616 = h := ⟨_, rfl⟩
  obtain ⟨l, hl⟩ : ∃ l, P % 18446744073709551616 = l := ⟨_, rfl⟩
  rw [hh, hl] at c1
  have h0 : 0 ≤ h := by omega
  have h1 : h ≤ 18446744073709551614 := by omega
  have l0 : 0 ≤ l := by omega
  have l1 : l < 18446744073709551616 := by omega
  have e1 : (P + z) / 18446744073709551616 = h + (l + z) / 18446744073709551616 := by omega
  have e2 : (P + z) % 18446744073709551616 = (l + z) % 18446744073709551616 := by omega
  have C1 := hid c1; have E1 := hid e1; have E2 := hid e2
  clear c1 e1 e2 hh hl p0 p1
  go_enter Try.func93, Try.ntmps93
  go_wp2_with fail
  refine C1.out.mono ?_
  rintro e w1 ⟨rfl, rfl⟩
  go_wp2_with (simp only [add64_0 l z l0 z0])
  go_ret2
  exact ⟨by rw [E1.out, E2.out]; rfl, rfl⟩

end Go.Proofs.Ytllpllebmknmpaa
namespace Go.Proofs.Ytllpllebmknmpaa
open Go.RowKit

end Go.Proofs.Ytllpllebmknmpaa
namespace Go.Proofs.Ytllpllebmknmpaa
open Go.RowKit

end Go.Proofs.Ytllpllebmknmpaa
namespace Go.Proofs.Ytllpllebmknmpaa
open Go.RowKit

theorem Res.kept {C w w' ao n cap f} (h : Res C w w' ao n cap f) {k x m q} (hr : Rd k w x m q) : Rd k w' x m q := hr.below h.bel (Nat.le_refl _)

theorem mid_len {f : Nat → Int} {k D : Nat} (hl : Lm f k) (hf : Fm f k) (h : vf f k < pw D) : k ≤ D := by
  apply Nat.le_of_not_lt; intro hlt
  have b1 := vf_form_ge hl hf (by omega)
  have b2 := pw_mono (show D ≤ k - 1 by omega)
  omega

end Go.Proofs.Ytllpllebmknmpaa
namespace Go.Proofs.Ytllpllebmknmpaa
open Go.RowKit

end Go.Proofs.Ytllpllebmknmpaa
