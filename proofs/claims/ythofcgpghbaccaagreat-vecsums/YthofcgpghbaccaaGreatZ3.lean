/-
  Walks of package nat's texts: levels, bases. Walks of package nat's texts: putDigits. Walks of package nat's texts: bytes.TrimLeft of noughts, digits, Text. Walks of the document's reference for nat: Form, Twin, Same, Low, two, light. Walks of package nat's calls Text, DivMod and Gcd. The walk of the statements' own look at answers that the document fixes (awake). What a call's own stores turned; lists of a call's own. No Go text is named here. Walks of package whole: Form, signed. Walks of package whole's calls Add, Sub, Mul. Walks of package whole: slices.Clone, Neg, Cmp, Of. The walk of package whole's call Divide. Walks of the document's reference for nat: Twin, From, To.
-/
import Derived.Test.YthofcgpghbaccaaGreatZ2
import Derived.Test.YthofcgpghbaccaaGreatZ0
import Derived.Lib.LazyBuf
import Derived.Deep.RegionHeld3
namespace Go.Proofs.YthofcgpghbaccaaGreat
open Go.RowKit

/-- The levels that so many pieces ask. -/
def lev (n : Nat) : Nat := if n ≤ 1 then 0 else Lib.bitLen (n - 1)

/-- The slice's block is a row of limbs. -/
def Tg (w : World) (ao : Option Addr) : Prop := ∀ a, ao = some a → ∃ arr fr, w.heap[a.block]? = some (.cells arr 74 fr)
/-- A number in memory, of at most C limbs, in form. -/
def Num (w : World) (v : Value) (C : Nat) (V : Int) : Prop := ∃ ao n cap f, v = .slice ao n cap ∧ Rd .u64 w ao n f ∧ Tg w ao ∧ Lm f n ∧ Fm f n ∧ n ≤ C ∧ vf f n = V ∧ n ≤ cap ∧ cap ≤ 9223372036854775807
theorem Tg.und {w ao} (h : Tg w ao) : Und ao w.heap.size := fun a ha => by
  obtain ⟨arr, fr, e⟩ := h a ha
  exact (Array.getElem?_eq_some_iff.1 e).1
theorem Tg.below {w w' ao} (h : Tg w ao) (hb : Below w.heap.size w w') : Tg w' ao := fun a ha => by
  obtain ⟨arr, fr, e⟩ := h a ha
  exact ⟨arr, fr, by rw [hb.block _ (Array.getElem?_eq_some_iff.1 e).1]; exact e⟩
theorem Num.below {w w' v C V} (h : Num w v C V) (hb : Below w.heap.size w w') : Num w' v C V := by
  obtain ⟨ao, n, cap, f, rfl, h1, ht, h2, h3, h4, h5⟩ := h
  exact ⟨ao, n, cap, f, rfl, h1.below hb (Nat.le_refl _), ht.below hb, h2, h3, h4, h5⟩
/-- Another row was written, whose elements are no limbs. -/
theorem Tg.off {w ao g} (h : Tg w ao) {cur e fr} (hg : w.heap[g]? = some (.cells cur e fr)) (he : e ≠ 74) : Off ao g := fun a ha hag => by
  obtain ⟨arr, fr', e'⟩ := h a ha
  rw [hag, hg] at e'
  simp at e'
  exact he e'.2.1
theorem Num.only {w w' v C V g} (h : Num w v C V) (hb : Only g w w') {cur e fr} (hg : w.heap[g]? = some (.cells cur e fr)) (he : e ≠ 74) : Num w' v C V := by
  obtain ⟨ao, n, cap, f, rfl, h1, ht, h2, h3, h4, h5⟩ := h
  have ho := ht.off hg he
  refine ⟨ao, n, cap, f, rfl, h1.only hb ho, fun a ha => ?_, h2, h3, h4, h5⟩
  obtain ⟨arr, fr', e'⟩ := ht a ha
  exact ⟨arr, fr', by rw [hb.block _ (Array.getElem?_eq_some_iff.1 e').1 (ho a ha)]; exact e'⟩
theorem Num.grown {w w' v C V row} (h : Num w v C V) (hb : w.grownBy w' row) (hg : ∀ g, row = some g → ∃ cur fr, w.heap[g]? = some (.cells cur 23 fr)) : Num w' v C V := by
  cases row with
  | none => exact h.below ⟨hb.os, hb.tape, hb.output, hb.size, fun k hk => hb.block k hk (by simp)⟩
  | some g =>
    obtain ⟨cur, fr, e⟩ := hg g rfl
    exact h.only (g := g) ⟨hb.os, hb.tape, hb.output, hb.size, fun k hk hn => hb.block k hk (by simpa using hn)⟩ e (by decide)
theorem own_tag {w : World} {base e n v xs} (h : w.ownsRow base e 1 v n xs) : ∀ g, v.ownBlock = some g → ∃ cur fr, w.heap[g]? = some (.cells cur e fr) := by
  intro g hg
  rcases h.2 with ⟨rfl, _⟩ | ⟨g', cap, cur, rfl, hb, hgg, _⟩
  · simp [Value.ownBlock] at hg
  · simp [Value.ownBlock] at hg
    subst hg
    exact ⟨cur, _, hgg⟩
theorem Res.num {C w w' ao n cap f} (h : Res C w w' ao n cap f) (hC : C ≤ 9223372036854775807) : Num w' (.slice ao n cap) C (vf f n) := by
  refine ⟨ao, n, cap, f, rfl, h.rd, fun a ha => ?_, h.lm, h.fm, h.le, rfl, h.ncap.1, by have := h.ncap; omega⟩
  rcases h.own with ⟨rfl, _⟩ | ⟨g, rfl, _, _, _, _, hb⟩
  · cases ha
  · cases ha
    obtain ⟨arr, e, _⟩ := hb
    exact ⟨arr, _, e⟩
theorem Num.mono {w v C C' V} (h : Num w v C V) (hC : C ≤ C') : Num w v C' V := by
  obtain ⟨ao, n, cap, f, rfl, h1, ht, h2, h3, h4, h5⟩ := h
  exact ⟨ao, n, cap, f, rfl, h1, ht, h2, h3, by omega, h5⟩
theorem snoc_get {vs : List Value} {v u : Value} {j : Nat} (h : (vs ++ [v])[j]? = some u) : vs[j]? = some u ∨ j = vs.length ∧ u = v := by
  rcases Nat.lt_trichotomy j vs.length with hl | rfl | hl
  · rw [List.getElem?_append_left hl] at h; exact .inl h
  · simp at h; exact .inr ⟨rfl, h.symm⟩
  · rw [List.getElem?_eq_none (by simp; omega)] at h; cases h

/-- The base of so many doublings. -/
def tens (j : Nat) : Int := 10 ^ (19 * 2 ^ j)
theorem tens_succ (j : Nat) : tens (j + 1) = tens j * tens j := by
  unfold tens
  rw [← Int.pow_add, Nat.pow_succ]; congr 1; omega
/-- The bases, in memory. -/
def Bas (w : World) (bo : Option Addr) (c : Nat) : Prop := ∀ j, j < c → ∃ b u arr fr, bo = some ⟨b, 0, none⟩ ∧ w.heap[b]? = some (.cells arr 23 fr) ∧ w.cell? ⟨b, j, none⟩ = some u ∧ Num w u (2 ^ j) (tens j)
theorem Bas.take {w bo c c'} (h : Bas w bo c) (hc : c' ≤ c) : Bas w bo c' := fun j hj => h j (by omega)
theorem Bas.below {w w' bo c} (h : Bas w bo c) (hb : Below w.heap.size w w') : Bas w' bo c := fun j hj => by
  obtain ⟨b, u, arr, fr, e1, e2, e3, e4⟩ := h j hj
  have hl := (Array.getElem?_eq_some_iff.1 e2).1
  exact ⟨b, u, arr, fr, e1, (hb.block b hl).trans e2, (World.cell?_of_block (hb.block b hl)).trans e3, e4.below hb⟩
theorem Bas.only {w w' bo c g} (h : Bas w bo c) (hb : Only g w w') {cur e fr} (hg : w.heap[g]? = some (.cells cur e fr)) (he : e ≠ 74) (he2 : e ≠ 23) : Bas w' bo c := fun j hj => by
  obtain ⟨b, u, arr, fr, e1, e2, e3, e4⟩ := h j hj
  have hl := (Array.getElem?_eq_some_iff.1 e2).1
  have hbg : b ≠ g := fun h => by
    rw [h, hg] at e2
    simp at e2
    exact he2 e2.2.1
  exact ⟨b, u, arr, fr, e1, (hb.block b hl hbg).trans e2, (World.cell?_of_block (hb.block b hl hbg)).trans e3, e4.only hb hg he⟩
theorem Tryz.infoSl : (Tryz.prog.info? 23).map (fun i => (i.zero, i.size, i.bytes)) = some (some (.slice none 0 0), 1, 24) := by kernel_rfl

end Go.Proofs.YthofcgpghbaccaaGreat
namespace Go.Proofs.YthofcgpghbaccaaGreat
open Go.RowKit

/-- The table of powers of ten lies as the program's text lays it. -/
def Tab (w : World) : Prop := Lib.TabIs Tryz.prog w "internal/strconv.uint64pow10" .u64 Lib.pow10Tab
/-- divMod does its work at these numbers. -/
def DivOk (X Y : Int) : Prop := ∀ (ao bo : Option Addr) (n m ca cb : Nat) (f h : Nat → Int) (w : World), n ≤ 8796093022208 → m ≤ 8796093022208 → Rd .u64 w ao n f → Rd .u64 w bo m h → Lm f n → Lm h m → Fm f n → Fm h m → vf f n = X → vf h m = Y →
    Calls Tryz.prog 124 #[.slice ao n ca, .slice bo m cb] w fun e w' => ∃ a1 k1 c1 q a2 k2 c2 r, e = .returned (.tuple #[.slice a1 k1 c1, .slice a2 k2 c2]) ∧ Res n w w' a1 k1 c1 q ∧ Res (n + 1) w w' a2 k2 c2 r ∧ vf f n = vf q k1 * vf h m + vf r k2 ∧ 0 ≤ vf r k2 ∧ vf r k2 < vf h m
theorem divOk_small {X Y : Int} (hY : 0 < Y) (h : Y < 18446744073709551616 ∨ X < Y) : DivOk X Y := by
  intro ao bo n m ca cb f h' w hn hm hr hs hf hh ff fh hX hY'
  refine divMod_small ao bo n m ca cb f h' w hn hm hr hs hf hh ff fh ?_
  rcases h with h | h
  · left
    have h1 : m ≤ 1 := by
      refine vf_len (f := h') (g := fun _ => Y) (m := 1) hh (lm_const (Int.le_of_lt hY) h 1) fh ?_
      rw [hY']; simp [vf, pw]
    have h2 : m ≠ 0 := fun h0 => by subst h0; simp [vf] at hY'; omega
    omega
  · right; omega

theorem dgi_hi {V H R c : Nat} (hV : V = H * 10 ^ c + R) (hR : R < 10 ^ c) (e : Nat) : dgi H e = dgi V (c + e) := by
  unfold dgi
  have : V / 10 ^ (c + e) = H / 10 ^ e := by
    rw [Nat.pow_add, ← Nat.div_div_eq_div_mul, hV]
    congr 1
    rw [Nat.add_comm, Nat.add_mul_div_right _ _ (Nat.pow_pos (by omega)), Nat.div_eq_of_lt hR]; omega
  rw [this]
theorem dgi_lo {V H R c : Nat} (hV : V = H * 10 ^ c + R) (e : Nat) (he : e < c) : dgi R e = dgi V e := by
  unfold dgi
  have h1 : 10 ^ c = 10 ^ e * (10 * 10 ^ (c - e - 1)) := by
    rw [← Nat.pow_succ', ← Nat.pow_add]; congr 1; omega
  have : V / 10 ^ e % 10 = R / 10 ^ e % 10 := by
    rw [hV, h1, ← Nat.mul_assoc, Nat.mul_comm H, Nat.mul_assoc, Nat.add_comm, Nat.add_mul_div_left _ _ (Nat.pow_pos (by omega))]
    rw [← Nat.mul_assoc, Nat.mul_comm H 10, Nat.mul_assoc, Nat.add_mul_mod_self_left]
  rw [this]

/-- A number in memory, of at most C limbs, in form; whatever block it lies in. -/
def Nu (w : World) (v : Value) (C : Nat) (V : Int) : Prop := ∃ ao n cap f, v = .slice ao n cap ∧ Rd .u64 w ao n f ∧ Lm f n ∧ Fm f n ∧ n ≤ C ∧ vf f n = V ∧ n ≤ cap ∧ cap ≤ 9223372036854775807
theorem Num.nu {w v C V} (h : Num w v C V) : Nu w v C V := by
  obtain ⟨ao, n, cap, f, rfl, h1, _, h2, h3, h4, h5⟩ := h
  exact ⟨ao, n, cap, f, rfl, h1, h2, h3, h4, h5⟩
theorem Nu.below {w w' v C V} (h : Nu w v C V) (hb : Below w.heap.size w w') : Nu w' v C V := by
  obtain ⟨ao, n, cap, f, rfl, h1, h2, h3, h4, h5⟩ := h
  exact ⟨ao, n, cap, f, rfl, h1.below hb (Nat.le_refl _), h2, h3, h4, h5⟩

end Go.Proofs.YthofcgpghbaccaaGreat
namespace Go.Proofs.YthofcgpghbaccaaGreat
open Go.RowKit

theorem lev_ge (n : Nat) (hn : n ≤ 18446744073709551616) : n ≤ 2 ^ lev n := by
  unfold lev
  by_cases h : n ≤ 1
  · rw [if_pos h]; simpa using h
  · rw [if_neg h]
    have := (bitLen_bounds _ (n - 1) rfl (by omega) (by omega)).2.2
    omega
theorem lev_le (n k : Nat) (hk : k ≤ 64) (h : n ≤ 2 ^ k) : lev n ≤ k := by
  unfold lev
  split
  · omega
  · exact Lib.bitLen_le (n - 1) k hk (by omega)
theorem dgi_top {V : Nat} (hV : 0 < V) : dgi V (Lib.nDigits V - 1) ≠ 48 := by
  have h1 : ∀ (k V : Nat), 0 < V → Lib.nDigits V = k + 1 → V / 10 ^ k % 10 ≠ 0 := by
    intro k
    induction k with
    | zero =>
      intro V hV h
      by_cases hu : V < 10
      · simp; omega
      · rw [Lib.nDigits_big hu] at h; have := Lib.nDigits_pos (V / 10); omega
    | succ k ih =>
      intro V hV h
      by_cases hu : V < 10
      · rw [Lib.nDigits_small hu] at h; omega
      · rw [Lib.nDigits_big hu] at h
        have := ih (V / 10) (by omega) (by omega)
        rw [Nat.div_div_eq_div_mul, ← Nat.pow_succ'] at this
        exact this
  have hp := Lib.nDigits_pos V
  have := h1 (Lib.nDigits V - 1) V hV (by omega)
  unfold dgi
  omega
/-- A number of n limbs has room in so many pieces. -/
theorem room_pieces {n p c : Nat} {V : Int} (hV : V < pw n) (hp : 64 * n ≤ 63 * p) (hc : p ≤ 2 ^ c) : V < ((10 ^ (19 * 2 ^ c) : Nat) : Int) := by
  have h1 : pw n = ((2 ^ (64 * n) : Nat) : Int) := by
    clear hV hp
    induction n with
    | zero => rfl
    | succ n ih => rw [pw_succ, ih, Nat.mul_add, Nat.pow_add]; simp; omega
  have h2 : 2 ^ (64 * n) ≤ 2 ^ (63 * p) := Nat.pow_le_pow_right (by omega) hp
  have h3 : 2 ^ (63 * p) ≤ 10 ^ (19 * p) := by
    rw [Nat.pow_mul, Nat.pow_mul]; exact Nat.pow_le_pow_left (by decide) p
  have h4 : 10 ^ (19 * p) ≤ 10 ^ (19 * 2 ^ c) := Nat.pow_le_pow_right (by omega) (Nat.mul_le_mul_left 19 hc)
  omega
theorem cv_text {P : Program} (w : World) (tB tS tE : TypeId) (g o cap : Nat) (t : Nat → Int) (V : Nat) (h1 : P.underlying tB = some (.slice tE)) (h2 : P.underlying tE = some (.int .u8)) (h3 : P.underlying tS = some .string) (hr : Rd .u8 w (some ⟨g, o, none⟩) (Lib.nDigits V) t) (ht : ∀ j, j < Lib.nDigits V → t j = dgi V (Lib.nDigits V - 1 - j)) :
    (convert tB tS (.slice (some ⟨g, o, none⟩) (Lib.nDigits V) cap)).run P w = .ok (.string ⟨(Lib.decDigits V).toArray⟩) w := by
  have h := run_convert_bytes_back (P := P) w tB tS tE ⟨g, o, none⟩ cap (Lib.decDigits V) h1 h2 h3 (fun j hj => by
    rw [Lib.decDigits_length] at hj
    have e := byt_dec V j hj
    have hc := hr.cell hj
    rw [ht j hj, ← e] at hc
    rw [Lib.add_plain, hc]
    unfold byt
    rw [List.getD_eq_getElem?_getD, List.getElem?_eq_getElem (by rw [Lib.decDigits_length]; exact hj)]
    rfl)
  rw [Lib.decDigits_length] at h
  exact h

end Go.Proofs.YthofcgpghbaccaaGreat
namespace Go.Proofs.YthofcgpghbaccaaGreat
open Go.RowKit

set_option maxHeartbeats 400000 in
theorem rform_c (ao : Option Addr) (n cap : Nat) (f : Nat → Int) (w : World) (hm : n ≤ 9223372036854775807) (hr : Rd .u64 w ao n f) :
    Calls Tryz.prog 63 #[.slice ao n cap] w fun e w' => e = .returned (.bool (fmB f n)) ∧ w' = w := by
  by_cases h0 : n = 0
  · subst h0
    have e : fmB f 0 = true := by simp [fmB]
    go_enter Tryz.func63, Tryz.ntmps63
    go_wp2
    go_ret
    exact ⟨by rw [e]; rfl, rfl⟩
  · obtain ⟨b, o, rfl⟩ := hr.at (by omega)
    obtain ⟨x, hx⟩ : ∃ x, f (n - 1) = x := ⟨_, rfl⟩
    have hc : w.cell? ⟨b, o + (n - 1), none⟩ = some (.int .u64 x) := by rw [← hx]; exact hr.cell (by omega)
    have h1 : ((n : Int) == 0) = false := by simp; omega
    have e : fmB f n = (x != 0) := by simp [fmB, h0, hx, bne]; rfl
    have E := hid e
    clear hr hx e
    go_enter Tryz.func63, Tryz.ntmps63
    go_wp2
    go_ret
    exact ⟨by rw [E.out]; rfl, rfl⟩

set_option maxHeartbeats 400000 in
/-- Low: the digits without noughts at the end. -/
theorem low_c (ao : Option Addr) (n cap : Nat) (f : Nat → Int) (w : World) (hc : n ≤ cap) (hm : cap ≤ 9223372036854775807) (hr : Rd .u64 w ao n f) (hnil : ao = none → cap = 0) :
    Calls Tryz.prog 91 #[.slice ao n cap] w fun e w' => w' = w ∧ ∃ m, m ≤ n ∧ (∀ j, m ≤ j → j < n → f j = 0) ∧ Fm f m ∧ e = .returned (.slice ao m cap) := by
  go_enter Tryz.func91, Tryz.ntmps91
  go_wp2
  go_loop [3] (fun t => ∃ m : Nat, m ≤ n ∧ t = .int .i64 m ∧ Hid (∀ j, m ≤ j → j < n → f j = 0)) (fun t => (intOf t).toNat)
  case atStart => exact ⟨n, Nat.le_refl _, rfl, fun j h1 h2 => by omega⟩
  case round =>
    obtain ⟨m, hmn, rfl, HZ⟩ := hrel
    by_cases h0 : 0 < m
    · obtain ⟨b, o, rfl⟩ := hr.at (by omega)
      obtain ⟨x, hx⟩ : ∃ x, f (m - 1) = x := ⟨_, rfl⟩
      have hcell : w.cell? ⟨b, o + (m - 1), none⟩ = some (.int .u64 x) := by rw [← hx]; exact hr.cell (by omega)
      have HX : Hid (f (m - 1) = x) := hx
      clear hx hr
      by_cases hx0 : x = 0
      · subst hx0
        go_wp2
        go_round
        case rel =>
          refine ⟨m - 1, by omega, by go_num, fun j h1 h2 => ?_⟩
          by_cases hj : j = m - 1
          · rw [hj]; exact HX.out
          · exact HZ.out j (by omega) h2
        case measure => simp [intOf]; omega
      · have hx1 : (x == 0) = false := by simp [hx0]
        go_wp2
        go_ret
        exact ⟨rfl, m, hmn, HZ.out, .inr (by rw [HX.out]; exact hx0), rfl⟩
    · have h00 : m = 0 := by omega
      subst h00
      cases ao with
      | none =>
        obtain rfl : cap = 0 := hnil rfl
        go_wp2
        go_ret
        exact ⟨rfl, 0, hmn, HZ.out, .inl rfl, rfl⟩
      | some ad =>
        clear hnil
        go_wp2
        go_ret
        exact ⟨rfl, 0, hmn, HZ.out, .inl rfl, rfl⟩

/-- Two lists are alike. -/
def Alk (n m : Nat) (f g : Nat → Int) : Prop := n = m ∧ ∀ j, j < n → f j = g j

set_option maxHeartbeats 800000 in
/-- Same: are two lists alike? -/
theorem same_c (ao bo : Option Addr) (n m ca cb : Nat) (f g : Nat → Int) (w : World) (hm : n ≤ 140737488355328) (hm' : m ≤ 140737488355328) (hr : Rd .u64 w ao n f) (hs : Rd .u64 w bo m g) :
    Calls Tryz.prog 54 #[.slice ao n ca, .slice bo m cb] w fun e w' => (∃ q, w' = w.drewN q) ∧ ∃ b, e = .returned (.bool b) ∧ (b = true ↔ Alk n m f g) := by
  by_cases hnm : n = m
  · subst hnm
    have h1 : ((n : Int) != n) = false := by simp
    go_enter Tryz.func54, Tryz.ntmps54
    go_wp2
    go_loopw [13] (fun t wr => ∃ i : Nat, i ≤ n ∧ t = .int .i64 i ∧ Hid (∀ j, j < i → f j = g j) ∧ ∃ q, wr = w.drewN q) (fun t _ => n - (intOf t).toNat)
    case atStart => exact ⟨0, by omega, rfl, fun j h1 => by omega, 0, rfl⟩
    case round =>
      obtain ⟨i, hin, rfl, HE, q, rfl⟩ := hrel
      by_cases hlt : i < n
      · obtain ⟨b, o, rfl⟩ := hr.at (by omega)
        obtain ⟨b', o', rfl⟩ := hs.at (by omega)
        obtain ⟨x, hx⟩ : ∃ x, f i = x := ⟨_, rfl⟩
        obtain ⟨y, hy⟩ : ∃ y, g i = y := ⟨_, rfl⟩
        have hca : w.cell? ⟨b, o + i, none⟩ = some (.int .u64 x) := by rw [← hx]; exact hr.cell (by omega)
        have hcb : w.cell? ⟨b', o' + i, none⟩ = some (.int .u64 y) := by rw [← hy]; exact hs.cell (by omega)
        have HX : Hid (f i = x) := hx
        have HY : Hid (g i = y) := hy
        clear hx hy hr hs
        by_cases hxy : x = y
        · subst hxy
          have hne : (x != x) = false := by simp
          go_wp2
          go_quiet (fail)
          go_wp2
          go_roundw
          case rel =>
            refine ⟨i + 1, by omega, by go_num, fun j h1 => ?_, _, rfl⟩
            by_cases hj : j = i
            · rw [hj]; exact HX.out.trans HY.out.symm
            · exact HE.out j (by omega)
          case measure => simp [intOf]; omega
        · have hne : (x != y) = true := by simp [hxy]
          go_wp2
          go_quiet (fail)
          go_wp2
          go_ret
          refine ⟨⟨_, by (repeat rw [World.drewN_drewN]) <;> rfl⟩, false, rfl, ⟨fun h => (by cases h), fun h => ?_⟩⟩
          have := h.2 i hlt
          rw [HX.out, HY.out] at this
          exact absurd this hxy
      · have hi : i = n := by omega
        subst hi
        go_wp2
        go_ret
        exact ⟨⟨_, rfl⟩, true, rfl, ⟨fun _ => ⟨rfl, HE.out⟩, fun _ => rfl⟩⟩
  · have h1 : ((n : Int) != m) = true := by simp; omega
    go_enter Tryz.func54, Tryz.ntmps54
    go_wp2
    go_ret
    exact ⟨⟨0, rfl⟩, false, rfl, ⟨fun h => (by cases h), fun h => absurd h.1 hnm⟩⟩
end Go.Proofs.YthofcgpghbaccaaGreat
namespace Go.Proofs.YthofcgpghbaccaaGreat
open Go.RowKit

set_option maxHeartbeats 1000000 in
theorem DivMod_of (ao bo : Option Addr) (n m ca cb : Nat) (f h : Nat → Int) (w : World) (hn : n ≤ 8796093022208) (hm : m ≤ 8796093022208) (hr : Rd .u64 w ao n f) (hs : Rd .u64 w bo m h) (hf : Lm f n) (hh : Lm h m) (ff : Fm f n) (fh : Fm h m) (hm0 : 0 < m) (hd : DivOk (vf f n) (vf h m)) :
    Calls Tryz.prog 115 #[.slice ao n ca, .slice bo m cb] w fun e w' => ∃ a1 k1 c1 q a2 k2 c2 r, e = .returned (.tuple #[.slice a1 k1 c1, .slice a2 k2 c2, .int .i64 0]) ∧ Res n w w' a1 k1 c1 q ∧ Res (n + 1) w w' a2 k2 c2 r ∧ vf f n = vf q k1 * vf h m + vf r k2 ∧ 0 ≤ vf r k2 ∧ vf r k2 < vf h m := by
  have c1 := form_c ao n ca f w (by omega) hr
  rw [(fmB_iff f n).2 ff] at c1
  have c2 := form_c bo m cb h w (by omega) hs
  rw [(fmB_iff h m).2 fh] at c2
  have C1 := hid c1; have C2 := hid c2
  have C3 := hid (hd ao bo n m ca cb f h w hn hm hr hs hf hh ff fh rfl rfl)
  have hmi : ((m : Int) == 0) = false := by simp; omega
  clear c1 c2 hr hs hf hh ff fh hd
  go_enter Tryz.func115, Tryz.ntmps115
  go_wp2_with fail
  refine C1.out.mono ?_
  rintro e w1 ⟨rfl, rfl⟩
  go_wp2_with fail
  refine C2.out.mono ?_
  rintro e w1 ⟨rfl, rfl⟩
  go_wp2_with fail
  refine C3.out.mono ?_
  rintro e w1 ⟨a1, k1, c1, q, a2, k2, c2, r, rfl, hrest⟩
  have HR := hid hrest
  clear hrest
  go_wp2
  go_ret3
  exact ⟨a1, k1, c1, q, a2, k2, c2, r, rfl, HR.out⟩

set_option maxHeartbeats 1000000 in
/-- gcd where the first number is the lesser and has one limb. -/
theorem gcd_one_sw (bo : Option Addr) (b o n ca cb : Nat) (f : Nat → Int) (x : Nat) (w : World) (hn : n ≤ 8796093022208) (hr : Rd .u64 w bo n f) (hf : Lm f n) (ff : Fm f n) (hx : w.cell? ⟨b, o, none⟩ = some (.int .u64 x)) (x0 : 0 < x) (x1 : x < 18446744073709551616) (hlt : (x : Int) < vf f n) :
    Calls Tryz.prog 104 #[.slice (some ⟨b, o, none⟩) 1 ca, .slice bo n cb] w fun e w' => ∃ ao' k cap' f', e = .returned (.slice ao' k cap') ∧ Res 1 w w' ao' k cap' f' ∧ vf f' k = (Nat.gcd x (vf f n % x).toNat : Nat) := by
  have hs : Rd .u64 w (some ⟨b, o, none⟩) 1 (fun _ => (x : Int)) := Rd.mk (fun j hj => by obtain rfl : j = 0 := by omega
                                                                                          exact hx)
  have cc := cmp_c (some ⟨b, o, none⟩) bo 1 n ca cb (fun _ => (x : Int)) f w (by omega) (by omega) hs hr (lm_const (by omega) (by omega) 1) hf (.inr (by simp; omega)) ff
  have hv1 : vf (fun _ => (x : Int)) 1 = x := by simp [vf, pw]
  rw [hv1] at cc
  obtain ⟨R, hR⟩ : ∃ R : Nat, (vf f n % x) = R := ⟨(vf f n % x).toNat, by have := Int.emod_nonneg (vf f n) (show (x : Int) ≠ 0 by omega); omega⟩
  have hR1 : (R : Int) < x := by rw [← hR]; exact Int.emod_lt_of_pos _ (by omega)
  have cm := fun w' hr' => modWord_c bo n cb f x w' (by omega) hr' hf (by omega) (by omega)
  rw [hR] at cm
  have cg := fun w' => gcdWord_c x R w' (by omega) (by omega)
  have hgl : Nat.gcd x R < 18446744073709551616 := Nat.lt_of_le_of_lt (Nat.gcd_le_left _ x0) x1
  have hfin : Nat.gcd x (vf f n % x).toNat = Nat.gcd x R := by rw [hR]; simp
  generalize Nat.gcd x R = G at *
  have CC := hid cc; have CM := hid cm; have CG := hid cg; have HFin := hid hfin; have HRd := hid hr
  have HLt := hid hlt
  clear cc cm cg hfin hr hs hv1 hR hlt hf ff
  go_enter Tryz.func104, Tryz.ntmps104
  go_wp2_with fail
  refine CC.out.mono ?_
  rintro e w1 ⟨⟨q, rfl⟩, c, rfl, ho⟩
  have hc : c = -1 := by have := HLt.out; unfold Ord at ho; omega
  subst hc
  clear ho
  go_wp2
  go_region_with (first | (go_at_call 114; refine (CM.out _ (by exact HRd.out)).mono ?_; rintro e w' ⟨rfl, q1, rfl⟩) | (go_at_call 113; refine (CG.out _).mono ?_; rintro e w' ⟨rfl, q2, rfl⟩) | (go_at_call 112; refine (fromWord_c G _ (by omega) (by omega)).mono ?_; rintro e w' ⟨ao', m', cap', f', rfl, hres, hv'⟩))
  all_goals
    go_wp2
    go_ret
    exact ⟨ao', m', cap', f', rfl, hres.ahead (by repeat (first | exact Below.refl _ _ | refine below_drewN ?_ _ | refine Below.drew ?_)), by rw [HFin.out]; exact hv'⟩

/-- Gcd(12, 18), as the statements' own look asks it. -/
theorem Gcd_sw (bo : Option Addr) (b o n ca cb : Nat) (f : Nat → Int) (x : Nat) (w : World) (hn : n ≤ 8796093022208) (hr : Rd .u64 w bo n f) (hf : Lm f n) (ff : Fm f n) (hx : w.cell? ⟨b, o, none⟩ = some (.int .u64 x)) (x0 : 0 < x) (x1 : x < 18446744073709551616) (hlt : (x : Int) < vf f n) :
    Calls Tryz.prog 97 #[.slice (some ⟨b, o, none⟩) 1 ca, .slice bo n cb] w fun e w' => ∃ ao' k cap' f', e = .returned (.tuple #[.slice ao' k cap', .int .i64 0]) ∧ Res 1 w w' ao' k cap' f' ∧ vf f' k = (Nat.gcd x (vf f n % x).toNat : Nat) := by
  have hs : Rd .u64 w (some ⟨b, o, none⟩) 1 (fun _ => (x : Int)) := Rd.mk (fun j hj => by obtain rfl : j = 0 := by omega
                                                                                          exact hx)
  have c1 := form_c (some ⟨b, o, none⟩) 1 ca (fun _ => (x : Int)) w (by omega) hs
  rw [(fmB_iff _ 1).2 (.inr (by simp; omega))] at c1
  have c2 := form_c bo n cb f w (by omega) hr
  rw [(fmB_iff f n).2 ff] at c2
  have C1 := hid c1; have C2 := hid c2
  have C3 := hid (gcd_one_sw bo b o n ca cb f x w hn hr hf ff hx x0 x1 hlt)
  clear c1 c2 hr hs hf ff hx hlt
  go_enter Tryz.func97, Tryz.ntmps97
  go_wp2_with fail
  refine C1.out.mono ?_
  rintro e w1 ⟨rfl, rfl⟩
  go_wp2_with fail
  refine C2.out.mono ?_
  rintro e w1 ⟨rfl, rfl⟩
  go_wp2_with fail
  refine C3.out.mono ?_
  rintro e w1 ⟨ao', k, cap', f', rfl, hrest⟩
  have HR := hid hrest
  clear hrest
  go_wp2
  go_ret2
  exact ⟨ao', k, cap', f', rfl, HR.out⟩

/-- Same of two lists of one number. -/
theorem same_true (ao bo : Option Addr) (n m ca cb : Nat) (f g : Nat → Int) (w : World) (hm : n ≤ 140737488355328) (hm' : m ≤ 140737488355328) (hr : Rd .u64 w ao n f) (hs : Rd .u64 w bo m g) (hf : Lm f n) (hg : Lm g m) (ff : Fm f n) (fg : Fm g m) (hv : vf f n = vf g m) :
    Calls Tryz.prog 54 #[.slice ao n ca, .slice bo m cb] w fun e w' => e = .returned (.bool true) ∧ ∃ q, w' = w.drewN q := by
  refine (same_c ao bo n m ca cb f g w hm hm' hr hs).mono ?_
  rintro e w' ⟨hq, b, rfl, hb⟩
  have : b = true := hb.2 (vf_inj hf hg ff fg hv)
  subst this
  exact ⟨rfl, hq⟩
end Go.Proofs.YthofcgpghbaccaaGreat
namespace Go.Proofs.YthofcgpghbaccaaGreat
open Go.RowKit

/-- Two limbs. -/
def lim2 (x y : Int) : Nat → Int := fun j => if j = 0 then x else y
theorem lm_lim2 {x y : Int} (hx : 0 ≤ x ∧ x < 18446744073709551616) (hy : 0 ≤ y ∧ y < 18446744073709551616) (n : Nat) : Lm (lim2 x y) n := fun j _ => by
  unfold lim2; split
  · exact hx
  · exact hy
theorem vf_lim2 (x y : Int) : vf (lim2 x y) 2 = x + y * 18446744073709551616 := by simp [vf, pw, lim2]
theorem vf_one (x : Int) : vf (fun _ => x) 1 = x := by simp [vf, pw]
theorem rd_newP (w : World) (e : TypeId) (x y : Int) : Rd .u64 (w.alloc (.cells #[.int .u64 x, .int .u64 y] e)) (some ⟨w.heap.size, 0, none⟩) 2 (lim2 x y) :=
  Rd.mk (fun j hj => by
    rw [Nat.zero_add, World.cell?_alloc_new]
    rcases (show j = 0 ∨ j = 1 by omega) with rfl | rfl <;> simp [lim2])
theorem tg_new (w : World) (c : Array Value) : Tg (w.alloc (.cells c 74)) (some ⟨w.heap.size, 0, none⟩) := fun a ha => by
  cases ha; exact ⟨_, _, heap_alloc_new w _⟩
theorem Rd.alloc {k w ao n f} (h : Rd k w ao n f) (o : Obj) : Rd k (w.alloc o) ao n f := h.below ((Below.refl _ _).alloc (Nat.le_refl _) o) (Nat.le_refl _)
theorem below_alloc {w0 w : World} (h : Below w0.heap.size w0 w) (o : Obj) : Below w0.heap.size w0 (w.alloc o) := h.alloc h.size o
theorem fm1 {x : Int} (h : x ≠ 0) : Fm (fun _ => x) 1 := .inr h
theorem tens_zero : tens 0 = 10000000000000000000 := by simp [tens]
theorem tens_one : tens 1 = 100000000000000000000000000000000000000 := by simp [tens]
theorem text_64 : Lib.decDigits 18446744073709551616 = [49, 56, 52, 52, 54, 55, 52, 52, 48, 55, 51, 55, 48, 57, 53, 53, 49, 54, 49, 54] := by
  have hn : Lib.nDigits 18446744073709551616 = 20 := Lib.nDigits_unique 19 _ (by decide) (by decide)
  rw [Lib.decDigits_eq, hn]
  decide +kernel

/-- A number that was answered and can be read. -/
structure Got (w w' : World) (ao : Option Addr) (n : Nat) (f : Nat → Int) (V : Int) : Prop where
  bel : Below w.heap.size w w'
  rd : Rd .u64 w' ao n f
  lm : Lm f n
  fm : Fm f n
  le : n ≤ 4
  val : vf f n = V
theorem Res.got {C w0 w w' ao n cap f V} (h : Res C w w' ao n cap f) (hb : Below w0.heap.size w0 w) (hC : C ≤ 4) (hv : vf f n = V) : Got w0 w' ao n f V :=
  ⟨hb.trans (h.bel.mono hb.size), h.rd, h.lm, h.fm, by have := h.le; omega, hv⟩
theorem Got.below {w w' w'' ao n f V} (h : Got w w' ao n f V) (hb : Below w'.heap.size w' w'') : Got w w'' ao n f V :=
  ⟨h.bel.trans (hb.mono h.bel.size), h.rd.below hb (Nat.le_refl _), h.lm, h.fm, h.le, h.val⟩
theorem size_alloc1 (w : World) (o : Obj) : (w.alloc o).heap.size = w.heap.size + 1 := by simp

theorem add_look (w : World) : Calls Tryz.prog 125 #[.slice (some ⟨w.heap.size, 0, none⟩) 1 1, .slice (some ⟨w.heap.size + 1, 0, none⟩) 1 1] ((w.alloc (.cells #[.int .u64 18446744073709551615] 74)).alloc (.cells #[.int .u64 1] 74)) fun e w' => ∃ a n c f, e = .returned (.tuple #[.slice a n c, .int .i64 0]) ∧ Got w w' a n f 18446744073709551616 := by
  rw [← size_alloc1 w (.cells #[.int .u64 18446744073709551615] 74)]
  refine (Add_c _ _ 1 1 1 1 (fun _ => 18446744073709551615) (fun _ => 1) _ (by omega) (by omega) ((rd_new1 w _ _).alloc _) (rd_new1 _ _ _) (lm_const (by omega) (by omega) 1) (lm_const (by omega) (by omega) 1)).mono ?_
  rintro e w' ⟨a, n, c, f, er, rfl, hres, hcase⟩
  rcases hcase with ⟨_, _, rfl, hv⟩ | ⟨hn, _⟩
  · exact ⟨a, n, c, f, rfl, hres.got (below_alloc (below_alloc (Below.refl _ _) _) _) (by omega) (by rw [hv, vf_one, vf_one]; rfl)⟩
  · exact absurd ⟨fm1 (by omega), fm1 (by omega)⟩ hn
theorem div_look (w : World) : Calls Tryz.prog 115 #[.slice (some ⟨w.heap.size, 0, none⟩) 2 2, .slice (some ⟨w.heap.size + 1, 0, none⟩) 1 1] ((w.alloc (.cells #[.int .u64 0, .int .u64 1] 74)).alloc (.cells #[.int .u64 3] 74)) fun e w' => ∃ a1 n1 c1 f1 a2 n2 c2 f2, e = .returned (.tuple #[.slice a1 n1 c1, .slice a2 n2 c2, .int .i64 0]) ∧ Got w w' a1 n1 f1 6148914691236517205 ∧ Got w w' a2 n2 f2 1 := by
  rw [← size_alloc1 w (.cells #[.int .u64 0, .int .u64 1] 74)]
  refine (DivMod_of _ _ 2 1 2 1 (lim2 0 1) (fun _ => 3) _ (by omega) (by omega) ((rd_newP w _ _ _).alloc _) (rd_new1 _ _ _) (lm_lim2 (by omega) (by omega) 2) (lm_const (by omega) (by omega) 1) (.inr (by simp [lim2])) (fm1 (by omega)) (by omega) ?_).mono ?_
  · rw [vf_lim2, vf_one]; exact divOk_small (by omega) (.inl (by omega))
  · rintro e w' ⟨a1, k1, c1, q, a2, k2, c2, r, rfl, h1, h2, hv, r0, r1⟩
    rw [vf_lim2, vf_one] at hv
    rw [vf_one] at r1
    have hb := below_alloc (below_alloc (Below.refl w.heap.size w) (.cells #[.int .u64 0, .int .u64 1] 74)) (.cells #[.int .u64 3] 74)
    exact ⟨a1, k1, c1, q, a2, k2, c2, r, rfl, h1.got hb (by omega) (by omega), h2.got hb (by omega) (by omega)⟩
theorem gcd_look (w : World) : Calls Tryz.prog 97 #[.slice (some ⟨w.heap.size, 0, none⟩) 1 1, .slice (some ⟨w.heap.size + 1, 0, none⟩) 1 1] ((w.alloc (.cells #[.int .u64 12] 74)).alloc (.cells #[.int .u64 18] 74)) fun e w' => ∃ a n c f, e = .returned (.tuple #[.slice a n c, .int .i64 0]) ∧ Got w w' a n f 6 := by
  rw [← size_alloc1 w (.cells #[.int .u64 12] 74)]
  refine (Gcd_sw _ w.heap.size 0 1 1 1 (fun _ => 18) 12 _ (by omega) (rd_new1 _ _ _) (lm_const (by omega) (by omega) 1) (fm1 (by omega)) (by have := ((rd_new1 w 74 12).alloc (.cells #[.int .u64 18] 74)).cell (j := 0) (by omega); exact this) (by omega) (by omega) (by rw [vf_one]; decide)).mono ?_
  rintro e w' ⟨a, k, c, f, rfl, hres, hv⟩
  exact ⟨a, k, c, f, rfl, hres.got (below_alloc (below_alloc (Below.refl _ _) _) _) (by omega) (by rw [hv, vf_one]; decide)⟩
theorem sub_look (w : World) : Calls Tryz.prog 127 #[.slice (some ⟨w.heap.size, 0, none⟩) 1 1, .slice (some ⟨w.heap.size + 1, 0, none⟩) 1 1] ((w.alloc (.cells #[.int .u64 1] 74)).alloc (.cells #[.int .u64 2] 74)) fun e w' => ∃ a n c, e = .returned (.tuple #[.slice a n c, .int .i64 1]) ∧ Below w.heap.size w w' := by
  rw [← size_alloc1 w (.cells #[.int .u64 1] 74)]
  refine (Sub_c _ _ 1 1 1 1 (fun _ => 1) (fun _ => 2) _ (by omega) (by omega) ((rd_new1 w _ _).alloc _) (rd_new1 _ _ _) (lm_const (by omega) (by omega) 1) (lm_const (by omega) (by omega) 1)).mono ?_
  rintro e w' ⟨a, n, c, f, er, rfl, hres, hcase⟩
  rw [vf_one, vf_one] at hcase
  rcases hcase with ⟨_, _, hle, _⟩ | ⟨_, _, _, rfl, _⟩ | ⟨hn, _⟩
  · omega
  · have hb := below_alloc (below_alloc (Below.refl w.heap.size w) (.cells #[.int .u64 1] 74)) (.cells #[.int .u64 2] 74)
    exact ⟨a, n, c, rfl, hb.trans (hres.bel.mono hb.size)⟩
  · exact absurd ⟨fm1 (by omega), fm1 (by omega)⟩ hn
theorem same_look1 {w0 w : World} {ao : Option Addr} {n ca : Nat} {f : Nat → Int} {V : Int} (h : Got w0 w ao n f V) (x : Int) (hx : 0 < x ∧ x < 18446744073709551616) (hV : V = x) : Calls Tryz.prog 54 #[.slice ao n ca, .slice (some ⟨w.heap.size, 0, none⟩) 1 1] (w.alloc (.cells #[.int .u64 x] 74)) fun e w' => e = .returned (.bool true) ∧ Below w.heap.size w w' := by
  refine (same_true ao _ n 1 ca 1 f (fun _ => x) _ (by have := h.le; omega) (by omega) (h.rd.alloc _) (rd_new1 _ _ _) h.lm (lm_const (by omega) hx.2 1) h.fm (fm1 (by omega)) (by rw [h.val, vf_one]; exact hV)).mono ?_
  rintro e w' ⟨rfl, q, rfl⟩
  exact ⟨rfl, below_drewN (below_alloc (Below.refl _ _) _) q⟩
theorem same_look2 {w0 w : World} {ao : Option Addr} {n ca : Nat} {f : Nat → Int} (h : Got w0 w ao n f 18446744073709551616) : Calls Tryz.prog 54 #[.slice ao n ca, .slice (some ⟨w.heap.size, 0, none⟩) 2 2] (w.alloc (.cells #[.int .u64 0, .int .u64 1] 74)) fun e w' => e = .returned (.bool true) ∧ Below w.heap.size w w' := by
  refine (same_true ao _ n 2 ca 2 f (lim2 0 1) _ (by have := h.le; omega) (by omega) (h.rd.alloc _) (rd_newP _ _ _ _) h.lm (lm_lim2 (by omega) (by omega) 2) h.fm (.inr (by simp [lim2])) (by rw [h.val, vf_lim2]; rfl)).mono ?_
  rintro e w' ⟨rfl, q, rfl⟩
  exact ⟨rfl, below_drewN (below_alloc (Below.refl _ _) _) q⟩

end Go.Proofs.YthofcgpghbaccaaGreat
namespace Go.Proofs.YthofcgpghbaccaaGreat
open Go.RowKit

/-- Nothing but blocks from lo on and below hi has turned; there may be new blocks. -/
structure Turned (lo hi : Nat) (w w' : World) : Prop where
  os : w'.os = w.os
  tape : w'.tape = w.tape
  output : w'.output = w.output
  size : w.heap.size ≤ w'.heap.size
  block : ∀ k, k < w.heap.size → k < lo ∨ hi ≤ k → w'.heap[k]? = w.heap[k]?
theorem Turned.refl (lo hi : Nat) (w : World) : Turned lo hi w w := ⟨rfl, rfl, rfl, Nat.le_refl _, fun _ _ _ => rfl⟩
theorem Turned.trans {lo hi : Nat} {a b c : World} (h : Turned lo hi a b) (k : Turned lo hi b c) : Turned lo hi a c :=
  ⟨k.os.trans h.os, k.tape.trans h.tape, k.output.trans h.output, Nat.le_trans h.size k.size, fun i hi hn => (k.block i (Nat.lt_of_lt_of_le hi h.size) hn).trans (h.block i hi hn)⟩
theorem Turned.set {lo hi : Nat} {a w : World} (h : Turned lo hi a w) {x : Addr} (h1 : lo ≤ x.block) (h2 : x.block < hi) (u : Value) : Turned lo hi a (w.setCell x u) :=
  h.trans ⟨rfl, rfl, rfl, by simp [World.setCell], fun k _ hn => Below.heap_setCell _ _ _ _ (by omega)⟩
theorem Turned.alloc {lo hi : Nat} {a w : World} (h : Turned lo hi a w) (o : Obj) : Turned lo hi a (w.alloc o) :=
  h.trans ⟨rfl, rfl, rfl, by simp, fun k hk _ => Below.heap_alloc _ _ _ hk⟩
theorem Turned.drew {lo hi : Nat} {a w : World} (h : Turned lo hi a w) : Turned lo hi a w.drew := ⟨h.os, h.tape, h.output, h.size, h.block⟩
theorem Turned.below {lo hi : Nat} {a w w' : World} (h : Turned lo hi a w) (hb : Below w.heap.size w w') : Turned lo hi a w' :=
  h.trans ⟨hb.os, hb.tape, hb.output, hb.size, fun k hk _ => hb.block k hk⟩
theorem below_turned {B : Nat} {w0 w w' : World} (hb : Below B w0 w) (hB : B ≤ w.heap.size) {lo hi : Nat} (h : Turned lo hi w w') (hl : B ≤ lo) : Below B w0 w' :=
  hb.trans ⟨h.os, h.tape, h.output, h.size, fun k hk => h.block k (by omega) (.inl (by omega))⟩
theorem Own.of {k e w w' base ao n cap f} (h : Own k e w base (.slice ao n cap) n f) (hh : ∀ a, ao = some a → w'.heap[a.block]? = w.heap[a.block]?) : Own k e w' base (.slice ao n cap) n f := by
  obtain ⟨h1, h2⟩ := h
  refine ⟨h1, ?_⟩
  rcases h2 with ⟨h3, h4⟩ | ⟨g, cap', cur, hv, hb, hg, hn, hm, hs, ht⟩
  · exact .inl ⟨h3, h4⟩
  · cases hv
    exact .inr ⟨g, cap, cur, rfl, hb, (hh _ rfl).trans hg, hn, hm, hs, ht⟩
theorem Own.base {k e w base base' v n f} (h : Own k e w base v n f) (hb : base' ≤ base) : Own k e w base' v n f := by
  obtain ⟨h1, h2⟩ := h
  refine ⟨h1, ?_⟩
  rcases h2 with ⟨h3, h4⟩ | ⟨g, cap', cur, hv, hb', hg, hn, hm, hs, ht⟩
  · exact .inl ⟨h3, h4⟩
  · exact .inr ⟨g, cap', cur, hv, Nat.le_trans hb hb', hg, hn, hm, hs, ht⟩
theorem Own.slice {k e w base ao n cap f} (h : Own k e w base (.slice ao n cap) n f) : n ≤ cap ∧ cap ≤ 9223372036854775807 ∧ (ao = none → n = 0 ∧ cap = 0) ∧ Rd k w ao n f ∧ ∀ a, ao = some a → base ≤ a.block ∧ a.block < w.heap.size := by
  obtain ⟨ao', cap', e', h1, h2, h3, h4, h5⟩ := h.shape
  cases e'
  refine ⟨h1, by unfold maxLen at h3; omega, fun e => ⟨by have := h2 e; omega, h2 e⟩, h4, h5⟩
end Go.Proofs.YthofcgpghbaccaaGreat
namespace Go.Proofs.YthofcgpghbaccaaGreat
open Go.RowKit

/-- In form, sign and limbs. -/
def wfB (s : Bool) (f : Nat → Int) (n : Nat) : Bool := fmB f n && !(s && decide (n = 0))
/-- Old cells and marks read as before. -/
theorem bcell {W w1 : World} {B : Nat} (hb : Below B W w1) : (∀ b o, b < B → w1.cell? ⟨b, o, none⟩ = W.cell? ⟨b, o, none⟩) ∧ (∀ b o, b < B → w1.frozen? ⟨b, o, none⟩ = W.frozen? ⟨b, o, none⟩) :=
  ⟨fun b o h => hb.cell (p := ⟨b, o, none⟩) h, fun b o h => hb.frozen (p := ⟨b, o, none⟩) h⟩

theorem drewN_below {w w' : World} {q : Nat} (h : w' = w.drewN q) : Below w.heap.size w w' := by rw [h]; exact below_drewN (Below.refl _ _) _

theorem wForm_c (s : Bool) (ao : Option Addr) (n cap : Nat) (f : Nat → Int) (w : World) (hm : n ≤ 9223372036854775807) (hr : Rd .u64 w ao n f) :
    Calls Tryz.prog 73 #[.agg #[.bool s, .slice ao n cap]] w fun e w' => e = .returned (.bool (wfB s f n)) ∧ Below w.heap.size w w' := by
  have hba : Below w.heap.size w (w.alloc (.cells #[.bool s, .slice ao n cap] 103)) := below_alloc (Below.refl _ _) _
  have c1 := form_c ao n cap f (w.alloc (.cells #[.bool s, .slice ao n cap] 103)) hm (hr.alloc _)
  have HB := hid hba
  clear hr hba
  have hwf : wfB s f n = (fmB f n && !(s && decide (n = 0))) := rfl
  rw [hwf]
  clear hwf
  cases hfa : fmB f n
  · rw [hfa] at c1
    have C1 := hid c1
    clear c1 hfa
    go_enter Tryz.func73, Tryz.ntmps73
    go_wp2_with fail
    refine C1.out.mono ?_
    rintro e w1 ⟨rfl, rfl⟩
    go_wp2
    go_ret
    exact ⟨rfl, HB.out⟩
  · rw [hfa] at c1
    have C1 := hid c1
    clear c1 hfa
    cases s
    · go_enter Tryz.func73, Tryz.ntmps73
      go_wp2_with fail
      refine C1.out.mono ?_
      rintro e w1 ⟨rfl, rfl⟩
      go_wp2
      go_ret
      exact ⟨rfl, HB.out⟩
    · by_cases hn0 : n = 0
      · subst hn0
        go_enter Tryz.func73, Tryz.ntmps73
        go_wp2_with fail
        refine C1.out.mono ?_
        rintro e w1 ⟨rfl, rfl⟩
        go_wp2
        go_ret
        exact ⟨rfl, HB.out⟩
      · have hni : ((n : Int) == 0) = false := by simp; omega
        have hdn : decide (n = 0) = false := by simp; omega
        rw [hdn]
        clear hdn
        go_enter Tryz.func73, Tryz.ntmps73
        go_wp2_with fail
        refine C1.out.mono ?_
        rintro e w1 ⟨rfl, rfl⟩
        go_wp2
        go_ret
        exact ⟨rfl, HB.out⟩

theorem signed_c (s : Bool) (ao : Option Addr) (n cap : Nat) (w : World) (hm : n ≤ 9223372036854775807) :
    Calls Tryz.prog 116 #[.bool s, .slice ao n cap] w fun e w' => ∃ r o, e = .returned (.agg #[.bool r, .slice ao n cap]) ∧ Hid (r = (s && decide (0 < n))) ∧ w' = w.alloc o := by
  cases s
  · go_enter Tryz.func116, Tryz.ntmps116
    go_wp2
    exact bodyPost_ret (v := .agg #[.bool false, .slice ao n cap]) (by simp [results, Tryz.results116, go_sem]) rfl ⟨false, _, rfl, rfl, rfl⟩
  · by_cases hn0 : 0 < n
    · have hni : decide ((0 : Int) < (n : Int)) = true := by simp; omega
      have hdn : decide (0 < n) = true := by simp; omega
      rw [hdn]
      clear hdn
      go_enter Tryz.func116, Tryz.ntmps116
      go_wp2
      exact bodyPost_ret (v := .agg #[.bool true, .slice ao n cap]) (by simp [results, Tryz.results116, go_sem]) rfl ⟨true, _, rfl, rfl, rfl⟩
    · have hni : decide ((0 : Int) < (n : Int)) = false := by simp; omega
      have hdn : decide (0 < n) = false := by simp; omega
      rw [hdn]
      clear hdn
      go_enter Tryz.func116, Tryz.ntmps116
      go_wp2
      exact bodyPost_ret (v := .agg #[.bool false, .slice ao n cap]) (by simp [results, Tryz.results116, go_sem]) rfl ⟨false, _, rfl, rfl, rfl⟩

/-- The number that sign and limbs tell. -/
def wv (s : Bool) (f : Nat → Int) (n : Nat) : Int := if s then - vf f n else vf f n
theorem Res.turned {C w0 w w' w'' ao n cap f} (h : Res C w w' ao n cap f) (hb : Below w0.heap.size w0 w) (ht : Turned w0.heap.size w.heap.size w' w'') : Res C w0 w'' ao n cap f := by
  have hb2 : Below w0.heap.size w0 w' := hb.trans (h.bel.mono hb.size)
  refine ⟨below_turned hb2 hb2.size ht (Nat.le_refl _), ?_, h.lmc, h.fm⟩
  rcases h.own with ⟨rfl, rfl, rfl⟩ | ⟨g, rfl, h1, h2, h3, h4, h5⟩
  · exact .inl ⟨rfl, rfl, rfl⟩
  · exact .inr ⟨g, rfl, by have := hb.size; omega, h2, h3, h4, h5.of (ht.block g h5.lt (.inr h1))⟩

/-- A list that a call answers: memory of the call's own, in form. -/
structure Asw (C : Nat) (w w' : World) (ao : Option Addr) (n cap : Nat) (f : Nat → Int) : Prop where
  bel : Below w.heap.size w w'
  own : Own .u64 74 w' w.heap.size (.slice ao n cap) n f
  lm : Lm f n
  fm : Fm f n
  le : n ≤ C
theorem Asw.rd {C w w' ao n cap f} (h : Asw C w w' ao n cap f) : Rd .u64 w' ao n f := h.own.slice.2.2.2.1
theorem Asw.ncap {C w w' ao n cap f} (h : Asw C w w' ao n cap f) : n ≤ cap ∧ cap ≤ 9223372036854775807 := ⟨h.own.slice.1, h.own.slice.2.1⟩
theorem Asw.nil' {C w w' ao n cap f} (h : Asw C w w' ao n cap f) : ao = none → n = 0 ∧ cap = 0 := h.own.slice.2.2.1
theorem Asw.mono {C C' w w' ao n cap f} (h : Asw C w w' ao n cap f) (hC : C ≤ C') : Asw C' w w' ao n cap f := ⟨h.bel, h.own, h.lm, h.fm, Nat.le_trans h.le hC⟩
theorem Asw.none {C : Nat} {w w' : World} (f : Nat → Int) (h : Below w.heap.size w w') : Asw C w w' none 0 0 f := ⟨h, own_nil _ _ _ _ _, fun j hj => by omega, .inl rfl, Nat.zero_le _⟩
theorem Asw.turned {C w0 w w' w'' ao n cap f} (h : Asw C w w' ao n cap f) (hb : Below w0.heap.size w0 w) (ht : Turned w0.heap.size w.heap.size w' w'') : Asw C w0 w'' ao n cap f := by
  have hb2 : Below w0.heap.size w0 w' := hb.trans (h.bel.mono hb.size)
  refine ⟨below_turned hb2 hb2.size ht (Nat.le_refl _), (h.own.of ?_).base hb.size, h.lm, h.fm, h.le⟩
  intro a ha
  obtain ⟨h1, h2⟩ := h.own.slice.2.2.2.2 a ha
  exact ht.block _ h2 (.inr h1)
theorem Asw.ahead {C w0 w w' ao n cap f} (h : Asw C w w' ao n cap f) (hb : Below w0.heap.size w0 w) : Asw C w0 w' ao n cap f := h.turned hb (Turned.refl _ _ _)
theorem Asw.later {C w w' w'' ao n cap f} (h : Asw C w w' ao n cap f) (hb : Below w'.heap.size w' w'') : Asw C w w'' ao n cap f :=
  ⟨h.bel.trans (hb.mono h.bel.size), h.own.below hb, h.lm, h.fm, h.le⟩
theorem Res.ans {C w w' ao n cap f} (h : Res C w w' ao n cap f) (hC : C ≤ 9223372036854775807) : Asw C w w' ao n cap f := by
  refine ⟨h.bel, ?_, h.lm, h.fm, h.le⟩
  rcases h.own with ⟨rfl, rfl, rfl⟩ | ⟨g, rfl, h1, h2, h3, h4, h5⟩
  · exact own_nil _ _ _ _ _
  · exact own_of_blk h5 h1 h3 (by unfold maxLen; omega)
/-- An answer of whole: limbs of its own, in form, and a sign that 0 has not. -/
structure WRes (C : Nat) (w w' : World) (s : Bool) (ao : Option Addr) (n cap : Nat) (f : Nat → Int) : Prop where
  res : Asw C w w' ao n cap f
  sgn : s = true → 0 < n
theorem wfB_iff (s : Bool) (f : Nat → Int) (n : Nat) : wfB s f n = true ↔ Fm f n ∧ (s = true → 0 < n) := by
  rw [← fmB_iff]; unfold wfB; cases s <;> simp; omega
theorem WRes.wfB {C w w' s ao n cap f} (h : WRes C w w' s ao n cap f) : wfB s f n = true := (wfB_iff s f n).2 ⟨h.res.fm, h.sgn⟩
theorem wv_false (f : Nat → Int) (n : Nat) : wv false f n = vf f n := rfl
theorem wv_true (f : Nat → Int) (n : Nat) : wv true f n = - vf f n := rfl
theorem WRes.mk' {C w w' ao n cap f} {r s : Bool} (hr : Hid (r = (s && decide (0 < n)))) (h : Asw C w w' ao n cap f) : WRes C w w' r ao n cap f := ⟨h, fun h => by rw [hr.out] at h; simp at h; exact h.2⟩
theorem wv_sign {f n} {r s : Bool} (hr : Hid (r = (s && decide (0 < n)))) : wv r f n = wv s f n := by
  rw [hr.out]
  by_cases hn : 0 < n
  · simp [hn]
  · obtain rfl : n = 0 := by omega
    cases s <;> simp [wv, vf]

set_option maxHeartbeats 1000000 in
theorem wadd_same (s : Bool) (ao bo : Option Addr) (n m ca cb : Nat) (f h : Nat → Int) (w : World) (hn : n ≤ 8796093022208) (hm : m ≤ 8796093022208) (hr : Rd .u64 w ao n f) (hs : Rd .u64 w bo m h) (hf : Lm f n) (hh : Lm h m) (ff : Fm f n) (fh : Fm h m) :
    Calls Tryz.prog 117 #[.agg #[.bool s, .slice ao n ca], .agg #[.bool s, .slice bo m cb]] w fun e w' => ∃ r ao' k cap' f', e = .returned (.agg #[.bool r, .slice ao' k cap']) ∧ WRes (max n m + 1) w w' r ao' k cap' f' ∧ wv r f' k = wv s f n + wv s h m := by
  have HR := hid hr; have HS := hid hs; have HF := hid hf; have HH := hid hh; have FF := hid ff; have FH := hid fh
  clear hr hs hf hh ff fh
  cases s
  all_goals
    go_enter Tryz.func117, Tryz.ntmps117
    go_wp2_with fail
    refine (Add_c ao bo n m ca cb f h _ hn hm (((HR.out.alloc _).alloc _).alloc _) (((HS.out.alloc _).alloc _).alloc _) HF.out HH.out).mono ?_
    rintro e w1 ⟨xa, k, cx, g, er, rfl, hres, hc⟩
    obtain ⟨rfl, hv⟩ : er = 0 ∧ vf g k = vf f n + vf h m := by
      rcases hc with ⟨_, _, h1, h2⟩ | ⟨h1, _⟩
      · exact ⟨h1, h2⟩
      · exact absurd ⟨FF.out, FH.out⟩ h1
    clear hc
    have hk : k ≤ max n m + 1 := hres.le
    obtain ⟨hc1, hf1⟩ := bcell hres.bel
    have hz : w.heap.size + 1 + 1 < w1.heap.size := by have := hres.bel.size; simp at this; omega
    have HRes := hid hres; have HV := hid hv
    clear hres hv
    go_wp2_with fail
    refine (signed_c _ xa k cx _ (by omega)).mono ?_
    rintro e w2 ⟨r, o, rfl, hsg, rfl⟩
    go_wp2
    refine bodyPost_ret (v := .agg #[.bool r, .slice xa k cx]) (by simp [results, Tryz.results117, go_sem, hc1, hz]) rfl ⟨r, xa, k, cx, g, rfl, WRes.mk' hsg ((HRes.out.turned (below_alloc (below_alloc (below_alloc (Below.refl w.heap.size w) _) _) _) ?_).ans (by omega)), ?_⟩
    · exact (((Turned.refl _ _ _).set (by simp; omega) (by simp) _).set (by simp; omega) (by simp) _).alloc _
    · rw [wv_sign hsg]; simp only [wv_false, wv_true, HV.out]; try omega

theorem beq_bool_ne {s t : Bool} (h : (s == t) = false) : s = !t := by cases s <;> cases t <;> simp_all
set_option maxHeartbeats 1000000 in
theorem wadd_diff (s t : Bool) (hst : (s == t) = false) (ao bo : Option Addr) (n m ca cb : Nat) (f h : Nat → Int) (w : World) (hn : n ≤ 8796093022208) (hm : m ≤ 8796093022208) (hr : Rd .u64 w ao n f) (hs : Rd .u64 w bo m h) (hf : Lm f n) (hh : Lm h m) (ff : Fm f n) (fh : Fm h m) :
    Calls Tryz.prog 117 #[.agg #[.bool s, .slice ao n ca], .agg #[.bool t, .slice bo m cb]] w fun e w' => ∃ r ao' k cap' f', e = .returned (.agg #[.bool r, .slice ao' k cap']) ∧ WRes (max n m + 1) w w' r ao' k cap' f' ∧ wv r f' k = wv s f n + wv t h m := by
  have HR := hid hr; have HS := hid hs; have HF := hid hf; have HH := hid hh; have FF := hid ff; have FH := hid fh
  have HST := hid (beq_bool_ne hst)
  clear hr hs hf hh ff fh
  go_enter Tryz.func117, Tryz.ntmps117
  go_wp2_with fail
  refine (Cmp_c ao bo n m ca cb f h _ hn hm (((HR.out.alloc _).alloc _).alloc _) (((HS.out.alloc _).alloc _).alloc _) HF.out HH.out).mono ?_
  rintro e w1 ⟨⟨q, hq⟩, c, er, rfl, hc⟩
  obtain ⟨rfl, ho⟩ : er = 0 ∧ Ord c (vf f n) (vf h m) := by
    rcases hc with ⟨_, _, h1, h2⟩ | ⟨h1, _⟩
    · exact ⟨h1, h2⟩
    · exact absurd ⟨FF.out, FH.out⟩ h1
  clear hc
  have hb := drewN_below hq
  obtain ⟨hc1, hf1⟩ := bcell hb
  have hz : w.heap.size + 1 + 1 < w1.heap.size := by have := hb.size; simp at this; omega
  have x0 : w1.cell? ⟨w.heap.size, 0, none⟩ = some (.bool s) := (hc1 _ _ (by simp; omega)).trans (by simp [go_sem])
  have x1 : w1.cell? ⟨w.heap.size, 1, none⟩ = some (.slice ao n ca) := (hc1 _ _ (by simp; omega)).trans (by simp [go_sem])
  have y0 : w1.cell? ⟨w.heap.size + 1, 0, none⟩ = some (.bool t) := (hc1 _ _ (by simp)).trans (by simp [go_sem])
  have y1 : w1.cell? ⟨w.heap.size + 1, 1, none⟩ = some (.slice bo m cb) := (hc1 _ _ (by simp)).trans (by simp [go_sem])
  have z0 : w1.cell? ⟨w.heap.size + 1 + 1, 0, none⟩ = some (.bool false) := (hc1 _ _ (by simp)).trans (by simp [go_sem])
  have z1 : w1.cell? ⟨w.heap.size + 1 + 1, 1, none⟩ = some (.slice none 0 0) := (hc1 _ _ (by simp)).trans (by simp [go_sem])
  have HO := hid ho
  have hbw : Below w.heap.size w w1 := (below_alloc (below_alloc (below_alloc (Below.refl w.heap.size w) _) _) _).trans (hb.mono (by simp; omega))
  have HBw := hid hbw
  clear ho hq hb hc1 hbw
  by_cases hc0 : c < 0
  · have hlt : vf f n < vf h m := by have := HO.out; unfold Ord at this; omega
    have HLT := hid hlt
    clear hlt
    go_wp2_with fail
    have hb2 := below_turned HBw.out HBw.out.size (((((Turned.refl w.heap.size (w.heap.size + 1 + 1 + 1) w1).set (x := ⟨w.heap.size, 0, none⟩) (by simp) (by simp; omega) (.bool t)).set (x := ⟨w.heap.size, 1, none⟩) (by simp) (by simp; omega) (.slice bo m cb)).set (x := ⟨w.heap.size + 1, 0, none⟩) (by simp) (by simp) (.bool s)).set (x := ⟨w.heap.size + 1, 1, none⟩) (by simp) (by simp) (.slice ao n ca)) (Nat.le_refl _)
    refine (Sub_c bo ao m n cb ca h f _ hm hn (HS.out.below hb2 (Nat.le_refl _)) (HR.out.below hb2 (Nat.le_refl _)) HH.out HF.out).mono ?_
    rintro e w2 ⟨xa, k, cx, g, er, rfl, hres, hc⟩
    obtain ⟨rfl, hv⟩ : er = 0 ∧ vf g k = vf h m - vf f n := by
      rcases hc with ⟨_, _, _, h1, h2⟩ | ⟨_, _, h1, _⟩ | ⟨h1, _⟩
      · exact ⟨h1, h2⟩
      · have := HLT.out; omega
      · exact absurd ⟨FH.out, FF.out⟩ h1
    clear hc
    obtain ⟨hc2, hf2⟩ := bcell hres.bel
    have hz2 : w.heap.size + 1 + 1 < w2.heap.size := by have := hres.bel.size; (try simp at this); omega
    have u0 : w2.cell? ⟨w.heap.size, 0, none⟩ = some (.bool t) := (hc2 _ _ (by simp; omega)).trans (by simp [go_sem, x0])
    have z0 : w2.cell? ⟨w.heap.size + 1 + 1, 0, none⟩ = some (.bool false) := (hc2 _ _ (by simp; omega)).trans (by simp [go_sem, z0])
    have z1 : w2.cell? ⟨w.heap.size + 1 + 1, 1, none⟩ = some (.slice none 0 0) := (hc2 _ _ (by simp; omega)).trans (by simp [go_sem, z1])
    have hk : k ≤ m := hres.le
    have HRes := hid hres; have HV := hid hv; have HB2 := hid hb2
    clear hres hv hb2 hc2
    go_wp2_with fail
    refine (signed_c _ xa k cx _ (by omega)).mono ?_
    rintro e w3 ⟨r, o, rfl, hsg, rfl⟩
    go_wp2
    refine bodyPost_ret (v := .agg #[.bool r, .slice xa k cx]) (by simp [results, Tryz.results117, go_sem, z0, z1, hz2]) rfl ⟨r, xa, k, cx, g, rfl, WRes.mk' hsg (((HRes.out.turned HB2.out ?_).mono (by omega)).ans (by omega)), ?_⟩
    · exact (((Turned.refl _ _ _).set (by first | omega | (simp; done) | (simp; omega)) (by first | omega | (simp; done) | (simp; omega)) _).set (by first | omega | (simp; done) | (simp; omega)) (by first | omega | (simp; done) | (simp; omega)) _).alloc _
    · rw [wv_sign hsg, HST.out]; have := HV.out; cases t <;> simp only [Bool.not_false, Bool.not_true, wv_false, wv_true] <;> omega
  · have hlt : vf h m ≤ vf f n := by have := HO.out; unfold Ord at this; omega
    have HLT := hid hlt
    clear hlt
    go_wp2_with fail
    have hb2 := HBw.out
    refine (Sub_c ao bo n m ca cb f h _ hn hm (HR.out.below hb2 (Nat.le_refl _)) (HS.out.below hb2 (Nat.le_refl _)) HF.out HH.out).mono ?_
    rintro e w2 ⟨xa, k, cx, g, er, rfl, hres, hc⟩
    obtain ⟨rfl, hv⟩ : er = 0 ∧ vf g k = vf f n - vf h m := by
      rcases hc with ⟨_, _, _, h1, h2⟩ | ⟨_, _, h1, _⟩ | ⟨h1, _⟩
      · exact ⟨h1, h2⟩
      · have := HLT.out; omega
      · exact absurd ⟨FF.out, FH.out⟩ h1
    clear hc
    obtain ⟨hc2, hf2⟩ := bcell hres.bel
    have hz2 : w.heap.size + 1 + 1 < w2.heap.size := by have := hres.bel.size; (try simp at this); omega
    have u0 : w2.cell? ⟨w.heap.size, 0, none⟩ = some (.bool s) := (hc2 _ _ (by omega)).trans x0
    have z0 : w2.cell? ⟨w.heap.size + 1 + 1, 0, none⟩ = some (.bool false) := (hc2 _ _ (by omega)).trans z0
    have z1 : w2.cell? ⟨w.heap.size + 1 + 1, 1, none⟩ = some (.slice none 0 0) := (hc2 _ _ (by omega)).trans z1
    have hk : k ≤ n := hres.le
    have HRes := hid hres; have HV := hid hv; have HB2 := hid hb2
    clear hres hv hb2 hc2
    go_wp2_with fail
    refine (signed_c _ xa k cx _ (by omega)).mono ?_
    rintro e w3 ⟨r, o, rfl, hsg, rfl⟩
    go_wp2
    refine bodyPost_ret (v := .agg #[.bool r, .slice xa k cx]) (by simp [results, Tryz.results117, go_sem, z0, z1, hz2]) rfl ⟨r, xa, k, cx, g, rfl, WRes.mk' hsg (((HRes.out.turned HB2.out ?_).mono (by omega)).ans (by omega)), ?_⟩
    · exact (((Turned.refl _ _ _).set (by first | omega | (simp; done) | (simp; omega)) (by first | omega | (simp; done) | (simp; omega)) _).set (by first | omega | (simp; done) | (simp; omega)) (by first | omega | (simp; done) | (simp; omega)) _).alloc _
    · rw [wv_sign hsg, HST.out]; have := HV.out; cases t <;> simp only [Bool.not_false, Bool.not_true, wv_false, wv_true] <;> omega

theorem wadd_c (s t : Bool) (ao bo : Option Addr) (n m ca cb : Nat) (f h : Nat → Int) (w : World) (hn : n ≤ 8796093022208) (hm : m ≤ 8796093022208) (hr : Rd .u64 w ao n f) (hs : Rd .u64 w bo m h) (hf : Lm f n) (hh : Lm h m) (ff : Fm f n) (fh : Fm h m) :
    Calls Tryz.prog 117 #[.agg #[.bool s, .slice ao n ca], .agg #[.bool t, .slice bo m cb]] w fun e w' => ∃ r ao' k cap' f', e = .returned (.agg #[.bool r, .slice ao' k cap']) ∧ WRes (max n m + 1) w w' r ao' k cap' f' ∧ wv r f' k = wv s f n + wv t h m := by
  cases hst : (s == t)
  · exact wadd_diff s t hst ao bo n m ca cb f h w hn hm hr hs hf hh ff fh
  · obtain rfl : s = t := by simpa using hst
    exact wadd_same s ao bo n m ca cb f h w hn hm hr hs hf hh ff fh
end Go.Proofs.YthofcgpghbaccaaGreat
namespace Go.Proofs.YthofcgpghbaccaaGreat
open Go.RowKit

/-- What a call of two numbers answers. -/
def WAns (P : Prop) (v : Int) (r : Bool) (k : Nat) (f : Nat → Int) (er : Int) : Prop := P ∧ er = 0 ∧ wv r f k = v ∨ ¬ P ∧ er = 3 ∧ k = 0
def W2 (s : Bool) (f : Nat → Int) (n : Nat) (t : Bool) (h : Nat → Int) (m : Nat) : Prop := wfB s f n = true ∧ wfB t h m = true
theorem fm_of_wfB {s : Bool} {f : Nat → Int} {n : Nat} (h : wfB s f n = true) : Fm f n := ((wfB_iff s f n).1 h).1
theorem sgn_of_wfB {s : Bool} {f : Nat → Int} {n : Nat} (h : wfB s f n = true) : s = true → 0 < n := ((wfB_iff s f n).1 h).2
/-- Three boxes laid ahead of a call, as they read behind it. -/
theorem boxes3 {w w1 : World} {a0 a1 b0 b1 c0 c1 : Value} {t : TypeId} (hb : Below (((w.alloc (.cells #[a0, a1] t)).alloc (.cells #[b0, b1] t)).alloc (.cells #[c0, c1] t)).heap.size (((w.alloc (.cells #[a0, a1] t)).alloc (.cells #[b0, b1] t)).alloc (.cells #[c0, c1] t)) w1) :
    (w.heap.size + 1 + 1 < w1.heap.size ∧ w1.cell? ⟨w.heap.size, 0, none⟩ = some a0 ∧ w1.cell? ⟨w.heap.size, 1, none⟩ = some a1 ∧ w1.cell? ⟨w.heap.size + 1, 0, none⟩ = some b0 ∧ w1.cell? ⟨w.heap.size + 1, 1, none⟩ = some b1 ∧ w1.cell? ⟨w.heap.size + 1 + 1, 0, none⟩ = some c0 ∧ w1.cell? ⟨w.heap.size + 1 + 1, 1, none⟩ = some c1) ∧ (∀ o, w1.frozen? ⟨w.heap.size + 1 + 1, o, none⟩ = false) ∧ Below w.heap.size w w1 := by
  obtain ⟨h1, h2⟩ := bcell hb
  have hz := hb.size
  simp at hz
  refine ⟨⟨by omega, (h1 _ _ (by simp; omega)).trans (by simp [go_sem]), (h1 _ _ (by simp; omega)).trans (by simp [go_sem]), (h1 _ _ (by simp)).trans (by simp [go_sem]), (h1 _ _ (by simp)).trans (by simp [go_sem]), (h1 _ _ (by simp)).trans (by simp [go_sem]), (h1 _ _ (by simp)).trans (by simp [go_sem])⟩, fun o => (h2 _ _ (by simp)).trans (by
    have e := heap_alloc_new ((w.alloc (.cells #[a0, a1] t)).alloc (.cells #[b0, b1] t)) (.cells #[c0, c1] t)
    rw [size_alloc1, size_alloc1] at e
    simp only [World.frozen?, e]; simp), ?_⟩
  exact (below_alloc (below_alloc (below_alloc (Below.refl w.heap.size w) _) _) _).trans (hb.mono (by simp; omega))
/-- Cells of three boxes behind a further call. -/
theorem keep3 {w w1 w2 : World} {a0 a1 b0 b1 c0 c1 : Value} (hb : Below w1.heap.size w1 w2) (h : w.heap.size + 1 + 1 < w1.heap.size ∧ w1.cell? ⟨w.heap.size, 0, none⟩ = some a0 ∧ w1.cell? ⟨w.heap.size, 1, none⟩ = some a1 ∧ w1.cell? ⟨w.heap.size + 1, 0, none⟩ = some b0 ∧ w1.cell? ⟨w.heap.size + 1, 1, none⟩ = some b1 ∧ w1.cell? ⟨w.heap.size + 1 + 1, 0, none⟩ = some c0 ∧ w1.cell? ⟨w.heap.size + 1 + 1, 1, none⟩ = some c1) (hf : ∀ o, w1.frozen? ⟨w.heap.size + 1 + 1, o, none⟩ = false) (hw : Below w.heap.size w w1) :
    (w.heap.size + 1 + 1 < w2.heap.size ∧ w2.cell? ⟨w.heap.size, 0, none⟩ = some a0 ∧ w2.cell? ⟨w.heap.size, 1, none⟩ = some a1 ∧ w2.cell? ⟨w.heap.size + 1, 0, none⟩ = some b0 ∧ w2.cell? ⟨w.heap.size + 1, 1, none⟩ = some b1 ∧ w2.cell? ⟨w.heap.size + 1 + 1, 0, none⟩ = some c0 ∧ w2.cell? ⟨w.heap.size + 1 + 1, 1, none⟩ = some c1) ∧ (∀ o, w2.frozen? ⟨w.heap.size + 1 + 1, o, none⟩ = false) ∧ Below w.heap.size w w2 := by
  obtain ⟨h1, h2⟩ := bcell hb
  have hz := hb.size
  obtain ⟨z, a, b, c, d, e, f⟩ := h
  exact ⟨⟨by omega, (h1 _ _ (by omega)).trans a, (h1 _ _ (by omega)).trans b, (h1 _ _ (by omega)).trans c, (h1 _ _ (by omega)).trans d, (h1 _ _ (by omega)).trans e, (h1 _ _ (by omega)).trans f⟩, fun o => (h2 _ _ (by omega)).trans (hf o), hw.trans (hb.mono hw.size)⟩

theorem wv_mul (s t : Bool) (f h g : Nat → Int) (n m k : Nat) (hv : vf g k = vf f n * vf h m) : wv (!(s == t)) g k = wv s f n * wv t h m := by
  cases s <;> cases t <;> simp [wv, hv, Int.neg_mul, Int.mul_neg]

set_option maxHeartbeats 1000000 in
theorem wAdd_c (s t : Bool) (ao bo : Option Addr) (n m ca cb : Nat) (f h : Nat → Int) (w : World) (hn : n ≤ 8796093022208) (hm : m ≤ 8796093022208) (hr : Rd .u64 w ao n f) (hs : Rd .u64 w bo m h) (hf : Lm f n) (hh : Lm h m) :
    Calls Tryz.prog 107 #[.agg #[.bool s, .slice ao n ca], .agg #[.bool t, .slice bo m cb]] w fun e w' => ∃ r ao' k cap' f' er, e = .returned (.tuple #[.agg #[.bool r, .slice ao' k cap'], .int .i64 er]) ∧ WRes (max n m + 1) w w' r ao' k cap' f' ∧ WAns (W2 s f n t h m) (wv s f n + wv t h m) r k f' er := by
  have HR := hid hr; have HS := hid hs; have HF := hid hf; have HH := hid hh
  clear hr hs hf hh
  cases hfa : wfB s f n
  · have c1 := fun W hr' => wForm_c s ao n ca f W (by omega) hr'
    rw [hfa] at c1
    have C1 := hid c1; have HN := hid hfa
    clear c1 hfa
    go_enter Tryz.func107, Tryz.ntmps107
    go_wp2_with fail
    refine (C1.out _ (((HR.out.alloc _).alloc _).alloc _)).mono ?_
    rintro e w1 ⟨rfl, hb⟩
    obtain ⟨⟨hz, x0, x1, y0, y1, z0, z1⟩, zf, hw⟩ := boxes3 hb
    have HB := hid hb; have HW := hid hw
    clear hb hw
    go_wp2
    refine bodyPost_ret (v := .tuple #[.agg #[.bool false, .slice none 0 0], .int .i64 3]) (by simp [results, Tryz.results107, go_sem, z0, z1]) rfl ⟨false, none, 0, 0, f, 3, rfl, ⟨Asw.none f ?_, fun h => by cases h⟩, .inr ⟨fun x => ?_, rfl, rfl⟩⟩
    · exact below_turned HW.out HW.out.size (((Turned.refl _ (w.heap.size + 1 + 1 + 1) _).set (by first | omega | (simp; done) | (simp; omega)) (by first | omega | (simp; done) | (simp; omega)) _).set (by first | omega | (simp; done) | (simp; omega)) (by first | omega | (simp; done) | (simp; omega)) _) (Nat.le_refl _)
    · have := x.1; rw [HN.out] at this; cases this
  · have c1 := fun W hr' => wForm_c s ao n ca f W (by omega) hr'
    rw [hfa] at c1
    have C1 := hid c1; have HA := hid hfa
    clear c1 hfa
    cases hfb : wfB t h m
    · have c2 := fun W hr' => wForm_c t bo m cb h W (by omega) hr'
      rw [hfb] at c2
      have C2 := hid c2; have HN := hid hfb
      clear c2 hfb
      go_enter Tryz.func107, Tryz.ntmps107
      go_wp2_with fail
      refine (C1.out _ (((HR.out.alloc _).alloc _).alloc _)).mono ?_
      rintro e w1 ⟨rfl, hb⟩
      obtain ⟨⟨hz, x0, x1, y0, y1, z0, z1⟩, zf, hw⟩ := boxes3 hb
      have HW := hid hw
      clear hb hw
      go_wp2_with fail
      refine (C2.out _ (HS.out.below HW.out (Nat.le_refl _))).mono ?_
      rintro e w2 ⟨rfl, hb⟩
      obtain ⟨⟨hz, x0, x1, y0, y1, z0, z1⟩, zf, hw⟩ := keep3 hb ⟨hz, x0, x1, y0, y1, z0, z1⟩ zf HW.out
      have HW2 := hid hw
      clear hb hw
      go_wp2
      refine bodyPost_ret (v := .tuple #[.agg #[.bool false, .slice none 0 0], .int .i64 3]) (by simp [results, Tryz.results107, go_sem, z0, z1]) rfl ⟨false, none, 0, 0, f, 3, rfl, ⟨Asw.none f ?_, fun h => by cases h⟩, .inr ⟨fun x => ?_, rfl, rfl⟩⟩
      · exact below_turned HW2.out HW2.out.size (((Turned.refl _ (w.heap.size + 1 + 1 + 1) _).set (by first | omega | (simp; done) | (simp; omega)) (by first | omega | (simp; done) | (simp; omega)) _).set (by first | omega | (simp; done) | (simp; omega)) (by first | omega | (simp; done) | (simp; omega)) _) (Nat.le_refl _)
      · have := x.2; rw [HN.out] at this; cases this
    · have c2 := fun W hr' => wForm_c t bo m cb h W (by omega) hr'
      rw [hfb] at c2
      have C2 := hid c2; have HB := hid hfb
      clear c2 hfb
      go_enter Tryz.func107, Tryz.ntmps107
      go_wp2_with fail
      refine (C1.out _ (((HR.out.alloc _).alloc _).alloc _)).mono ?_
      rintro e w1 ⟨rfl, hb⟩
      obtain ⟨⟨hz, x0, x1, y0, y1, z0, z1⟩, zf, hw⟩ := boxes3 hb
      have HW := hid hw
      clear hb hw
      go_wp2_with fail
      refine (C2.out _ (HS.out.below HW.out (Nat.le_refl _))).mono ?_
      rintro e w2 ⟨rfl, hb⟩
      obtain ⟨⟨hz, x0, x1, y0, y1, z0, z1⟩, zf, hw⟩ := keep3 hb ⟨hz, x0, x1, y0, y1, z0, z1⟩ zf HW.out
      have HW2 := hid hw
      clear hb hw
      go_wp2_with fail
      refine (wadd_c s t ao bo n m ca cb f h _ hn hm (HR.out.below HW2.out (Nat.le_refl _)) (HS.out.below HW2.out (Nat.le_refl _)) HF.out HH.out (fm_of_wfB HA.out) (fm_of_wfB HB.out)).mono ?_
      rintro e w3 ⟨r, xa, k, cx, g, rfl, hres, hv⟩
      obtain ⟨⟨hz, x0, x1, y0, y1, z0, z1⟩, zf, hw⟩ := keep3 hres.res.bel ⟨hz, x0, x1, y0, y1, z0, z1⟩ zf HW2.out
      have HRes := hid hres; have HV := hid hv
      clear hres hv hw
      go_wp2
      refine bodyPost_ret (v := .tuple #[.agg #[.bool r, .slice xa k cx], .int .i64 0]) (by simp [results, Tryz.results107, go_sem, z0, z1]) rfl ⟨r, xa, k, cx, g, 0, rfl, ?_, .inl ⟨⟨HA.out, HB.out⟩, rfl, ?_⟩⟩
      · exact ⟨HRes.out.res.turned HW2.out (((Turned.refl _ _ _).set (by first | omega | (simp; done) | (simp; omega)) (by first | omega | (simp; done) | (simp; omega)) _).set (by first | omega | (simp; done) | (simp; omega)) (by first | omega | (simp; done) | (simp; omega)) _), HRes.out.sgn⟩
      · exact HV.out

set_option maxHeartbeats 1000000 in
theorem wMul_c (s t : Bool) (ao bo : Option Addr) (n m ca cb : Nat) (f h : Nat → Int) (w : World) (hn : n ≤ 1099511627776) (hm : m ≤ 1099511627776) (hca : n ≤ ca) (hcb : m ≤ cb) (hcam : ca ≤ 9223372036854775807) (hcbm : cb ≤ 9223372036854775807) (hr : Rd .u64 w ao n f) (hs : Rd .u64 w bo m h) (hf : Lm f n) (hh : Lm h m) :
    Calls Tryz.prog 106 #[.agg #[.bool s, .slice ao n ca], .agg #[.bool t, .slice bo m cb]] w fun e w' => ∃ r ao' k cap' f' er, e = .returned (.tuple #[.agg #[.bool r, .slice ao' k cap'], .int .i64 er]) ∧ WRes (n + m) w w' r ao' k cap' f' ∧ WAns (W2 s f n t h m) (wv s f n * wv t h m) r k f' er := by
  have HR := hid hr; have HS := hid hs; have HF := hid hf; have HH := hid hh
  clear hr hs hf hh
  cases hfa : wfB s f n
  · have c1 := fun W hr' => wForm_c s ao n ca f W (by omega) hr'
    rw [hfa] at c1
    have C1 := hid c1; have HN := hid hfa
    clear c1 hfa
    go_enter Tryz.func106, Tryz.ntmps106
    go_wp2_with fail
    refine (C1.out _ (((HR.out.alloc _).alloc _).alloc _)).mono ?_
    rintro e w1 ⟨rfl, hb⟩
    obtain ⟨⟨hz, x0, x1, y0, y1, z0, z1⟩, zf, hw⟩ := boxes3 hb
    have HB := hid hb; have HW := hid hw
    clear hb hw
    go_wp2
    refine bodyPost_ret (v := .tuple #[.agg #[.bool false, .slice none 0 0], .int .i64 3]) (by simp [results, Tryz.results106, go_sem, z0, z1]) rfl ⟨false, none, 0, 0, f, 3, rfl, ⟨Asw.none f ?_, fun h => by cases h⟩, .inr ⟨fun x => ?_, rfl, rfl⟩⟩
    · exact below_turned HW.out HW.out.size (((Turned.refl _ (w.heap.size + 1 + 1 + 1) _).set (by first | omega | (simp; done) | (simp; omega)) (by first | omega | (simp; done) | (simp; omega)) _).set (by first | omega | (simp; done) | (simp; omega)) (by first | omega | (simp; done) | (simp; omega)) _) (Nat.le_refl _)
    · have := x.1; rw [HN.out] at this; cases this
  · have c1 := fun W hr' => wForm_c s ao n ca f W (by omega) hr'
    rw [hfa] at c1
    have C1 := hid c1; have HA := hid hfa
    clear c1 hfa
    cases hfb : wfB t h m
    · have c2 := fun W hr' => wForm_c t bo m cb h W (by omega) hr'
      rw [hfb] at c2
      have C2 := hid c2; have HN := hid hfb
      clear c2 hfb
      go_enter Tryz.func106, Tryz.ntmps106
      go_wp2_with fail
      refine (C1.out _ (((HR.out.alloc _).alloc _).alloc _)).mono ?_
      rintro e w1 ⟨rfl, hb⟩
      obtain ⟨⟨hz, x0, x1, y0, y1, z0, z1⟩, zf, hw⟩ := boxes3 hb
      have HW := hid hw
      clear hb hw
      go_wp2_with fail
      refine (C2.out _ (HS.out.below HW.out (Nat.le_refl _))).mono ?_
      rintro e w2 ⟨rfl, hb⟩
      obtain ⟨⟨hz, x0, x1, y0, y1, z0, z1⟩, zf, hw⟩ := keep3 hb ⟨hz, x0, x1, y0, y1, z0, z1⟩ zf HW.out
      have HW2 := hid hw
      clear hb hw
      go_wp2
      refine bodyPost_ret (v := .tuple #[.agg #[.bool false, .slice none 0 0], .int .i64 3]) (by simp [results, Tryz.results106, go_sem, z0, z1]) rfl ⟨false, none, 0, 0, f, 3, rfl, ⟨Asw.none f ?_, fun h => by cases h⟩, .inr ⟨fun x => ?_, rfl, rfl⟩⟩
      · exact below_turned HW2.out HW2.out.size (((Turned.refl _ (w.heap.size + 1 + 1 + 1) _).set (by first | omega | (simp; done) | (simp; omega)) (by first | omega | (simp; done) | (simp; omega)) _).set (by first | omega | (simp; done) | (simp; omega)) (by first | omega | (simp; done) | (simp; omega)) _) (Nat.le_refl _)
      · have := x.2; rw [HN.out] at this; cases this
    · have c2 := fun W hr' => wForm_c t bo m cb h W (by omega) hr'
      rw [hfb] at c2
      have C2 := hid c2; have HB := hid hfb
      clear c2 hfb
      go_enter Tryz.func106, Tryz.ntmps106
      go_wp2_with fail
      refine (C1.out _ (((HR.out.alloc _).alloc _).alloc _)).mono ?_
      rintro e w1 ⟨rfl, hb⟩
      obtain ⟨⟨hz, x0, x1, y0, y1, z0, z1⟩, zf, hw⟩ := boxes3 hb
      have HW := hid hw
      clear hb hw
      go_wp2_with fail
      refine (C2.out _ (HS.out.below HW.out (Nat.le_refl _))).mono ?_
      rintro e w2 ⟨rfl, hb⟩
      obtain ⟨⟨hz, x0, x1, y0, y1, z0, z1⟩, zf, hw⟩ := keep3 hb ⟨hz, x0, x1, y0, y1, z0, z1⟩ zf HW.out
      have HW2 := hid hw
      clear hb hw
      go_wp2_with fail
      refine (Mul_c ao bo n m ca cb f h _ hn hm hca hcb hcam hcbm (HR.out.below HW2.out (Nat.le_refl _)) (HS.out.below HW2.out (Nat.le_refl _)) HF.out HH.out).mono ?_
      rintro e w3 ⟨xa, k, cx, g, er, rfl, hres, hc⟩
      obtain ⟨rfl, hv⟩ : er = 0 ∧ vf g k = vf f n * vf h m := by
        rcases hc with ⟨_, _, h1, h2⟩ | ⟨h1, _⟩
        · exact ⟨h1, h2⟩
        · exact absurd ⟨fm_of_wfB HA.out, fm_of_wfB HB.out⟩ h1
      clear hc
      obtain ⟨⟨hz, x0, x1, y0, y1, z0, z1⟩, zf, hw⟩ := keep3 hres.bel ⟨hz, x0, x1, y0, y1, z0, z1⟩ zf HW2.out
      have hk : k ≤ n + m := hres.le
      have HRes := hid hres; have HV := hid hv
      clear hres hv hw
      go_wp2_with fail
      refine (signed_c _ xa k cx _ (by omega)).mono ?_
      rintro e w4 ⟨r, o, rfl, hsg, rfl⟩
      go_wp2
      refine bodyPost_ret (v := .tuple #[.agg #[.bool r, .slice xa k cx], .int .i64 0]) (by simp [results, Tryz.results106, go_sem, z0, z1, hz]) rfl ⟨r, xa, k, cx, g, 0, rfl, ?_, .inl ⟨⟨HA.out, HB.out⟩, rfl, ?_⟩⟩
      · exact WRes.mk' hsg ((HRes.out.turned HW2.out ((((Turned.refl _ _ _).set (by first | omega | (simp; done) | (simp; omega)) (by first | omega | (simp; done) | (simp; omega)) _).set (by first | omega | (simp; done) | (simp; omega)) (by first | omega | (simp; done) | (simp; omega)) _).alloc _)).ans (by omega))
      · rw [wv_sign hsg]; exact wv_mul s t f h g n m k HV.out

end Go.Proofs.YthofcgpghbaccaaGreat
namespace Go.Proofs.YthofcgpghbaccaaGreat
open Go.RowKit

def W1 (s : Bool) (f : Nat → Int) (n : Nat) : Prop := wfB s f n = true
/-- Two boxes laid ahead of a call, as they read behind it. -/
theorem boxes2 {w w1 : World} {a0 a1 c0 c1 : Value} {t : TypeId} (hb : Below ((w.alloc (.cells #[a0, a1] t)).alloc (.cells #[c0, c1] t)).heap.size ((w.alloc (.cells #[a0, a1] t)).alloc (.cells #[c0, c1] t)) w1) :
    (w.heap.size + 1 < w1.heap.size ∧ w1.cell? ⟨w.heap.size, 0, none⟩ = some a0 ∧ w1.cell? ⟨w.heap.size, 1, none⟩ = some a1 ∧ w1.cell? ⟨w.heap.size + 1, 0, none⟩ = some c0 ∧ w1.cell? ⟨w.heap.size + 1, 1, none⟩ = some c1) ∧ (∀ o, w1.frozen? ⟨w.heap.size + 1, o, none⟩ = false) ∧ Below w.heap.size w w1 := by
  obtain ⟨h1, h2⟩ := bcell hb
  have hz := hb.size
  simp at hz
  refine ⟨⟨by omega, (h1 _ _ (by simp; omega)).trans (by simp [go_sem]), (h1 _ _ (by simp; omega)).trans (by simp [go_sem]), (h1 _ _ (by simp)).trans (by simp [go_sem]), (h1 _ _ (by simp)).trans (by simp [go_sem])⟩, fun o => (h2 _ _ (by simp)).trans (by
    have e := heap_alloc_new (w.alloc (.cells #[a0, a1] t)) (.cells #[c0, c1] t)
    rw [size_alloc1] at e
    simp only [World.frozen?, e]; simp), ?_⟩
  exact (below_alloc (below_alloc (Below.refl w.heap.size w) _) _).trans (hb.mono (by simp; omega))
/-- Cells of two boxes behind a further call. -/
theorem keep2 {w w1 w2 : World} {a0 a1 c0 c1 : Value} (hb : Below w1.heap.size w1 w2) (h : w.heap.size + 1 < w1.heap.size ∧ w1.cell? ⟨w.heap.size, 0, none⟩ = some a0 ∧ w1.cell? ⟨w.heap.size, 1, none⟩ = some a1 ∧ w1.cell? ⟨w.heap.size + 1, 0, none⟩ = some c0 ∧ w1.cell? ⟨w.heap.size + 1, 1, none⟩ = some c1) (hf : ∀ o, w1.frozen? ⟨w.heap.size + 1, o, none⟩ = false) (hw : Below w.heap.size w w1) :
    (w.heap.size + 1 < w2.heap.size ∧ w2.cell? ⟨w.heap.size, 0, none⟩ = some a0 ∧ w2.cell? ⟨w.heap.size, 1, none⟩ = some a1 ∧ w2.cell? ⟨w.heap.size + 1, 0, none⟩ = some c0 ∧ w2.cell? ⟨w.heap.size + 1, 1, none⟩ = some c1) ∧ (∀ o, w2.frozen? ⟨w.heap.size + 1, o, none⟩ = false) ∧ Below w.heap.size w w2 := by
  obtain ⟨h1, h2⟩ := bcell hb
  have hz := hb.size
  obtain ⟨z, a, b, e, f⟩ := h
  exact ⟨⟨by omega, (h1 _ _ (by omega)).trans a, (h1 _ _ (by omega)).trans b, (h1 _ _ (by omega)).trans e, (h1 _ _ (by omega)).trans f⟩, fun o => (h2 _ _ (by omega)).trans (hf o), hw.trans (hb.mono hw.size)⟩

theorem vf_pos {f : Nat → Int} {n : Nat} (h : Lm f n) (hf : Fm f n) (hn : 0 < n) : 0 < vf f n := by
  have h1 := vf_form_ge h hf hn; have h2 := pw_pos (n - 1); omega
/-- The order of two numbers; c is 0 beside a fault. -/
def WCmp (P : Prop) (a b : Int) (c er : Int) : Prop := P ∧ er = 0 ∧ Ord c a b ∨ ¬ P ∧ er = 3 ∧ c = 0
/-- One whole number is answered. -/
def WOne (C : Nat) (w w' : World) (e : Ending) (z : Int) : Prop := ∃ r ao k cap f, e = .returned (.agg #[.bool r, .slice ao k cap]) ∧ WRes C w w' r ao k cap f ∧ wv r f k = z
theorem wrapU (x : Int) : IntKind.u64.wrap x = x % 18446744073709551616 := by simp [IntKind.wrap, IntKind.signed, IntKind.bits]
theorem own_one (w : World) (base g : Nat) (z : Int) (hb : base ≤ w.heap.size) (hg : g = w.heap.size) : Own .u64 74 (w.alloc (.cells #[.int .u64 z] 74)) base (.slice (some ⟨g, 0, none⟩) 1 1) 1 (fun _ => z) := by
  subst hg
  refine own_of_blk (N := 1) ⟨_, heap_alloc_new w _, rfl, fun j hj => ?_⟩ hb (Nat.le_refl _) (by simp [maxLen])
  obtain rfl : j = 0 := by omega
  rfl
set_option maxHeartbeats 1000000 in
theorem wOf_c (z : Int) (w : World) (h0 : -9223372036854775808 ≤ z) (h1 : z ≤ 9223372036854775807) :
    Calls Tryz.prog 81 #[.int .i64 z] w fun e w' => WOne 1 w w' e z := by
  by_cases hz : z = 0
  · subst hz
    go_enter Tryz.func81, Tryz.ntmps81
    go_wp2
    exact bodyPost_ret (v := .agg #[.bool false, .slice none 0 0]) (by simp [results, Tryz.results81, go_sem]) rfl ⟨false, none, 0, 0, fun _ => 0, rfl, ⟨Asw.none _ (below_alloc (Below.refl _ _) _), fun h => by cases h⟩, rfl⟩
  · have hz0 : (z == 0) = false := by simp; omega
    by_cases hneg : z < 0
    · have hW : Hid (IntKind.u64.wrap (-IntKind.u64.wrap z) = -z) := by
        show IntKind.u64.wrap (-IntKind.u64.wrap z) = -z
        simp only [wrapU]; omega
      go_enter Tryz.func81, Tryz.ntmps81
      go_wp2
      rw [hW.out]
      refine bodyPost_ret (v := .agg #[.bool true, .slice (some ⟨w.heap.size + 1, 0, none⟩) 1 1]) (by simp [results, Tryz.results81, go_sem]) rfl ⟨true, _, 1, 1, fun _ => -z, rfl, ⟨⟨below_alloc (below_alloc (Below.refl _ _) _) _, own_one (w.alloc _) w.heap.size _ (-z) (by simp) (by simp), lm_const (x := -z) (by omega) (by omega) 1, .inr (show -z ≠ 0 by omega), Nat.le_refl _⟩, fun _ => by omega⟩, ?_⟩
      rw [wv_true, vf_one]; omega
    · have hW : Hid (IntKind.u64.wrap z = z) := by
        show IntKind.u64.wrap z = z
        simp only [wrapU]; omega
      go_enter Tryz.func81, Tryz.ntmps81
      go_wp2
      (try rw [hW.out])
      refine bodyPost_ret (v := .agg #[.bool false, .slice (some ⟨w.heap.size + 1, 0, none⟩) 1 1]) (by simp [results, Tryz.results81, go_sem]) rfl ⟨false, _, 1, 1, fun _ => z, rfl, ⟨⟨below_alloc (below_alloc (Below.refl _ _) _) _, own_one (w.alloc _) w.heap.size _ z (by simp) (by simp), lm_const (x := z) (by omega) (by omega) 1, .inr (show z ≠ 0 by omega), Nat.le_refl _⟩, fun _ => by omega⟩, ?_⟩
      rw [wv_false, vf_one]
end Go.Proofs.YthofcgpghbaccaaGreat
namespace Go.Proofs.YthofcgpghbaccaaGreat
open Go.RowKit

theorem Turned.mono {lo hi hi' : Nat} {a b : World} (h : Turned lo hi a b) (hh : hi ≤ hi') : Turned lo hi' a b := ⟨h.os, h.tape, h.output, h.size, fun k hk hn => h.block k hk (by omega)⟩
theorem frozen_alloc_some (w : World) (a : Addr) (o : Obj) (h : (w.cell? a).isSome = true) : (w.alloc o).frozen? a = w.frozen? a := by
  obtain ⟨u, hu⟩ := Option.isSome_iff_exists.1 h
  exact World.frozen?_alloc_old _ _ _ (Nat.ne_of_lt (World.block_lt_of_cell? w a hu))
theorem isSome_setCell (w : World) (p q : Addr) (v : Value) (h : (w.cell? q).isSome = true) : ((w.setCell p v).cell? q).isSome = true := by
  obtain ⟨u, hu⟩ := Option.isSome_iff_exists.1 h
  obtain ⟨u', hu'⟩ := cell?_setCell_some (p := p) (x := v) hu
  rw [hu']; rfl
theorem kCa {w : World} {a : Addr} {v : Value} {o : Obj} (h : w.cell? a = some v) : (w.alloc o).cell? a = some v := (World.cell?_alloc_lt _ _ _ (World.block_lt_of_cell? w a h)).trans h
theorem kCs {w : World} {p a : Addr} {u v : Value} (hb : p.block ≠ a.block) (h : w.cell? a = some u) : (w.setCell p v).cell? a = some u := (World.cell?_setCell_far w p a v hb).trans h
theorem kCd {w : World} {a : Addr} {v : Value} (h : w.cell? a = some v) : w.drew.cell? a = some v := h
theorem kIa {w : World} {a : Addr} {o : Obj} (h : (w.cell? a).isSome = true) : ((w.alloc o).cell? a).isSome = true := by rw [World.cell?_alloc_some w a o h]; exact h
theorem kIs {w : World} {p a : Addr} {v : Value} (h : (w.cell? a).isSome = true) : ((w.setCell p v).cell? a).isSome = true := isSome_setCell w p a v h
theorem kId {w : World} {a : Addr} (h : (w.cell? a).isSome = true) : (w.drew.cell? a).isSome = true := h
theorem kFa {w : World} {a : Addr} {o : Obj} (h : (w.cell? a).isSome = true) (h2 : w.frozen? a = false) : (w.alloc o).frozen? a = false := (frozen_alloc_some w a o h).trans h2
theorem kFs {w : World} {p a : Addr} {v : Value} (h : w.frozen? a = false) : (w.setCell p v).frozen? a = false := by rw [World.frozen?_setCell]; exact h
theorem kFd {w : World} {a : Addr} (h : w.frozen? a = false) : w.drew.frozen? a = false := h
/-- How four boxes read. -/
def B4 (w w1 : World) (a0 a1 b0 b1 c0 c1 d0 d1 : Value) : Prop := w.heap.size + 1 + 1 + 1 < w1.heap.size ∧ w1.cell? ⟨w.heap.size, 0, none⟩ = some a0 ∧ w1.cell? ⟨w.heap.size, 1, none⟩ = some a1 ∧ w1.cell? ⟨w.heap.size + 1, 0, none⟩ = some b0 ∧ w1.cell? ⟨w.heap.size + 1, 1, none⟩ = some b1 ∧ w1.cell? ⟨w.heap.size + 1 + 1, 0, none⟩ = some c0 ∧ w1.cell? ⟨w.heap.size + 1 + 1, 1, none⟩ = some c1 ∧ w1.cell? ⟨w.heap.size + 1 + 1 + 1, 0, none⟩ = some d0 ∧ w1.cell? ⟨w.heap.size + 1 + 1 + 1, 1, none⟩ = some d1 ∧ (∀ o, w1.frozen? ⟨w.heap.size + 1 + 1, o, none⟩ = false) ∧ (∀ o, w1.frozen? ⟨w.heap.size + 1 + 1 + 1, o, none⟩ = false)
theorem boxes4 {w w1 : World} {a0 a1 b0 b1 c0 c1 d0 d1 : Value} {t : TypeId} (hb : Below ((((w.alloc (.cells #[a0, a1] t)).alloc (.cells #[b0, b1] t)).alloc (.cells #[c0, c1] t)).alloc (.cells #[d0, d1] t)).heap.size ((((w.alloc (.cells #[a0, a1] t)).alloc (.cells #[b0, b1] t)).alloc (.cells #[c0, c1] t)).alloc (.cells #[d0, d1] t)) w1) :
    B4 w w1 a0 a1 b0 b1 c0 c1 d0 d1 ∧ Below w.heap.size w w1 := by
  obtain ⟨h1, h2⟩ := bcell hb
  have hz := hb.size
  simp at hz
  refine ⟨⟨by omega, (h1 _ _ (by first | omega | (simp; done) | (simp; omega))).trans (by simp [go_sem]), (h1 _ _ (by first | omega | (simp; done) | (simp; omega))).trans (by simp [go_sem]), (h1 _ _ (by first | omega | (simp; done) | (simp; omega))).trans (by simp [go_sem]), (h1 _ _ (by first | omega | (simp; done) | (simp; omega))).trans (by simp [go_sem]), (h1 _ _ (by simp)).trans (by simp [go_sem]), (h1 _ _ (by simp)).trans (by simp [go_sem]), (h1 _ _ (by simp)).trans (by simp [go_sem]), (h1 _ _ (by simp)).trans (by simp [go_sem]), fun o => (h2 _ _ (by simp)).trans ?_, fun o => (h2 _ _ (by simp)).trans ?_⟩, ?_⟩
  · have e := heap_alloc_new ((w.alloc (.cells #[a0, a1] t)).alloc (.cells #[b0, b1] t)) (.cells #[c0, c1] t)
    rw [size_alloc1, size_alloc1] at e
    have e2 := (Below.heap_alloc (((w.alloc (.cells #[a0, a1] t)).alloc (.cells #[b0, b1] t)).alloc (.cells #[c0, c1] t)) (.cells #[d0, d1] t) (w.heap.size + 1 + 1) (by simp)).trans e
    simp only [World.frozen?, e2]; simp
  · have e := heap_alloc_new (((w.alloc (.cells #[a0, a1] t)).alloc (.cells #[b0, b1] t)).alloc (.cells #[c0, c1] t)) (.cells #[d0, d1] t)
    rw [size_alloc1, size_alloc1, size_alloc1] at e
    simp only [World.frozen?, e]; simp
  exact (below_alloc (below_alloc (below_alloc (below_alloc (Below.refl w.heap.size w) _) _) _) _).trans (hb.mono (by simp; omega))
theorem keep4 {w w1 w2 : World} {a0 a1 b0 b1 c0 c1 d0 d1 : Value} (hb : Below w1.heap.size w1 w2) (h : B4 w w1 a0 a1 b0 b1 c0 c1 d0 d1) (hw : Below w.heap.size w w1) : B4 w w2 a0 a1 b0 b1 c0 c1 d0 d1 ∧ Below w.heap.size w w2 := by
  obtain ⟨h1, h2⟩ := bcell hb
  have hz := hb.size
  obtain ⟨z, a, b, c, d, e, f, g, i, j, k⟩ := h
  exact ⟨⟨by omega, (h1 _ _ (by omega)).trans a, (h1 _ _ (by omega)).trans b, (h1 _ _ (by omega)).trans c, (h1 _ _ (by omega)).trans d, (h1 _ _ (by omega)).trans e, (h1 _ _ (by omega)).trans f, (h1 _ _ (by omega)).trans g, (h1 _ _ (by omega)).trans i, fun o => (h2 _ _ (by omega)).trans (j o), fun o => (h2 _ _ (by omega)).trans (k o)⟩, hw.trans (hb.mono hw.size)⟩

/-- Quotient and rest of whole numbers: the quotient rounded down. -/
def Flr (a b q r : Int) : Prop := a = q * b + r ∧ (0 < b ∧ 0 ≤ r ∧ r < b ∨ b < 0 ∧ b < r ∧ r ≤ 0)
/-- What Divide answers. -/
def WDiv (s t : Bool) (n m : Nat) (f h : Nat → Int) (r1 r2 : Bool) (k1 k2 : Nat) (q r : Nat → Int) (er : Int) : Prop :=
  W2 s f n t h m ∧ 0 < m ∧ er = 0 ∧ Flr (wv s f n) (wv t h m) (wv r1 q k1) (wv r2 r k2) ∨ W2 s f n t h m ∧ m = 0 ∧ er = 4 ∧ k1 = 0 ∧ k2 = 0 ∨ ¬ W2 s f n t h m ∧ er = 3 ∧ k1 = 0 ∧ k2 = 0
theorem flr_plain (s t : Bool) (A B Q R : Int) (h : A = Q * B + R) (h0 : 0 ≤ R) (h1 : R < B) (hs : s = t ∨ R = 0) :
    Flr (if s then -A else A) (if t then -B else B) (if (!(s == t)) then -Q else Q) (if t then -R else R) := by
  subst h
  cases s <;> cases t
  · show Flr (Q * B + R) B Q R
    exact ⟨rfl, .inl ⟨by omega, h0, h1⟩⟩
  · have hR : R = 0 := by simpa using hs
    subst hR
    show Flr (Q * B + 0) (-B) (-Q) (-0)
    exact ⟨by rw [Int.neg_mul_neg]; omega, .inr ⟨by omega, by omega, by omega⟩⟩
  · have hR : R = 0 := by simpa using hs
    subst hR
    show Flr (-(Q * B + 0)) B (-Q) 0
    exact ⟨by rw [Int.neg_mul]; omega, .inl ⟨by omega, by omega, by omega⟩⟩
  · show Flr (-(Q * B + R)) (-B) Q (-R)
    exact ⟨by rw [Int.mul_neg]; omega, .inr ⟨by omega, by omega, by omega⟩⟩
theorem flr_down (s t : Bool) (A B Q R : Int) (h : A = Q * B + R) (h0 : 0 < R) (h1 : R < B) (hs : (s == t) = false) :
    Flr (if s then -A else A) (if t then -B else B) (if (!(s == t)) then -(Q + 1) else (Q + 1)) (if t then -(B - R) else (B - R)) := by
  subst h
  cases s <;> cases t
  · cases hs
  · show Flr (Q * B + R) (-B) (-(Q + 1)) (-(B - R))
    exact ⟨by rw [Int.neg_mul_neg, Int.add_mul]; omega, .inr ⟨by omega, by omega, by omega⟩⟩
  · show Flr (-(Q * B + R)) B (-(Q + 1)) (B - R)
    exact ⟨by rw [Int.neg_mul, Int.add_mul]; omega, .inl ⟨by omega, by omega, by omega⟩⟩
  · cases hs

theorem flr_w {s t b : Bool} {n m k1 k2 : Nat} {f h q r : Nat → Int} (hb : b = !(s == t)) (hv : vf f n = vf q k1 * vf h m + vf r k2) (h0 : 0 ≤ vf r k2) (h1 : vf r k2 < vf h m) (hs : s = t ∨ vf r k2 = 0) : Flr (wv s f n) (wv t h m) (wv b q k1) (wv t r k2) := by
  subst hb
  exact flr_plain s t _ _ _ _ hv h0 h1 hs
theorem flr_w2 {s t b : Bool} {n m k1 k2 k3 k4 : Nat} {f h q r q' r' : Nat → Int} (hb : b = !(s == t)) (hv : vf f n = vf q k1 * vf h m + vf r k2) (h0 : 0 < vf r k2) (h1 : vf r k2 < vf h m) (hs : (s == t) = false) (hq : vf q' k3 = vf q k1 + 1) (hr : vf r' k4 = vf h m - vf r k2) : Flr (wv s f n) (wv t h m) (wv b q' k3) (wv t r' k4) := by
  subst hb
  have := flr_down s t _ _ _ _ hv h0 h1 hs
  rw [← hq, ← hr] at this
  exact this

end Go.Proofs.YthofcgpghbaccaaGreat
namespace Go.Proofs.YthofcgpghbaccaaGreat
open Go.RowKit

set_option maxRecDepth 100000 in
set_option maxHeartbeats 400000 in
/-- Twin: a list of its own. -/
theorem twin_c (ao : Option Addr) (n cap : Nat) (f : Nat → Int) (w : World) (hn : n ≤ 1048576) (hr : Rd .u64 w ao n f) (hnil : ao = none → n = 0 ∧ cap = 0) :
    Calls Tryz.prog 45 #[.slice ao n cap] w fun e w' => ∃ ao' cap', e = .returned (.slice ao' n cap') ∧ Below w.heap.size w w' ∧ Rd .u64 w' ao' n f ∧ Own .u64 74 w' w.heap.size (.slice ao' n cap') n f := by
  cases ao with
  | none =>
    obtain ⟨rfl, rfl⟩ := hnil rfl
    go_enter Tryz.func45, Tryz.ntmps45
    obtain ⟨i0, hi, hz0, hz1, hz2⟩ := info_parts Tryz.infoU64
    go_wp2_with (at_builtin; refine wpList_append_own_none rfl (.tmp 4) (.tmp 5) 23 rfl w.heap.size 74 i0 1 Tryz.underlying23 hi (.slice none 0 0) 0 [] rfl (World.ownsRow_nil _ _ _ _) rfl ?_)
    go_ret
    exact ⟨none, 0, rfl, Below.refl _ _, Rd.zero, own_nil _ _ _ _ _⟩
  | some ad =>
    clear hnil
    have HR := hid hr
    clear hr
    go_enter Tryz.func45, Tryz.ntmps45
    obtain ⟨i0, hi, hz0, hz1, hz2⟩ := info_parts Tryz.infoU64
    go_wp2_with (at_builtin; refine wpList_append_own w rfl (.tmp 4) (.tmp 5) 23 rfl w.heap.size 74 i0 (.int .u64 0) 1 8 Tryz.underlying23 hi hz0 hz1 hz2 rfl (by decide) (.slice none 0 0) 0 [] rfl (World.ownsRow_nil _ _ _ _) ad n cap (lst .u64 f n) rfl (by rw [lst_length, Nat.mul_one]) ?c1 (lst_one _ _ _) ?c2 ?c3 (Nat.le_refl _) ?_)
    case c1 =>
      intro j u hu
      obtain ⟨hj, rfl⟩ := lst_getE hu
      obtain ⟨b, o, e, hc⟩ := HR.out j hj
      cases e
      rw [addr_add]; exact hc
    case c2 => unfold maxLen; omega
    case c3 => omega
    intro v' w' hown hgr _
    have hown' : Own .u64 74 w' w.heap.size v' n f := hown
    have hbel : Below w.heap.size w w' := (Below.refl _ _).grown hgr (Nat.le_refl _) (fun k h => by simp [Value.ownBlock] at h)
    have hs := hown'.shape
    obtain ⟨ao', cap', hv, hcc, hnn, hml, hrd, hlt⟩ := hs
    rw [hv] at hown' ⊢
    clear hown hgr hv
    have HO := hid hown'
    clear hown'
    go_wp2
    go_ret
    exact ⟨ao', cap', rfl, hbel, hrd, HO.out⟩

/-- The two digits of a limb. -/
def two32 (x : Int) : Nat → Int := fun j => if j = 0 then x % 4294967296 else x / 4294967296
/-- The digits of limbs. -/
def dig (f : Nat → Int) : Nat → Int := fun j => if j % 2 = 0 then f (j / 2) % 4294967296 else f (j / 2) / 4294967296
theorem dig_cat (f : Nat → Int) (k : Nat) : ∀ j, j < 2 * k + 2 → cat (dig f) (2 * k) (two32 (f k)) j = dig f j := by
  intro j hj
  by_cases h : j < 2 * k
  · exact cat_in h
  · rw [cat_out (by omega)]
    by_cases h2 : j = 2 * k
    · subst h2
      have e1 : 2 * k - 2 * k = 0 := by omega
      have e2 : 2 * k / 2 = k := by omega
      have e3 : 2 * k % 2 = 0 := by omega
      simp [two32, dig]
    · obtain rfl : j = 2 * k + 1 := by omega
      have e1 : 2 * k + 1 - 2 * k = 1 := by omega
      have e2 : (2 * k + 1) / 2 = k := by omega
      have e3 : (2 * k + 1) % 2 = 1 := by omega
      simp [two32, dig, e1, e2, e3]
theorem pd_two (k : Nat) : pd (2 * k) = pw k := by
  induction k with
  | zero => rfl
  | succ k ih =>
    have e : 2 * (k + 1) = 2 * k + 1 + 1 := by omega
    rw [e, pd_succ, pd_succ, pw_succ, ih]; omega
theorem dig_lm {f : Nat → Int} {n : Nat} (h : Lm f n) : Dg (dig f) (2 * n) := by
  intro j hj
  have := h (j / 2) (by omega)
  unfold dig
  split <;> omega
theorem dig_val (f : Nat → Int) (n : Nat) : vd (dig f) (2 * n) = vf f n := by
  induction n with
  | zero => rfl
  | succ k ih =>
    have e : 2 * (k + 1) = 2 * k + 1 + 1 := by omega
    have e2 : (2 * k + 1) / 2 = k := by omega
    have e3 : (2 * k + 1) % 2 = 1 := by omega
    have e4 : 2 * k / 2 = k := by omega
    have e5 : 2 * k % 2 = 0 := by omega
    have a1 : dig f (2 * k) = f k % 4294967296 := by simp [dig]
    have a2 : dig f (2 * k + 1) = f k / 4294967296 := by simp [dig, e2, e3]
    rw [e, vd_succ, vd_succ, ih, vf_succ, pd_succ, pd_two, a1, a2]
    have e6 : f k = 4294967296 * (f k / 4294967296) + f k % 4294967296 := by omega
    have e7 : f k * pw k = (4294967296 * (f k / 4294967296) + f k % 4294967296) * pw k := by rw [← e6]
    rw [e7]
    grind

theorem rd_new2 (w : World) (e : TypeId) (x : Int) : Rd .u64 (w.alloc (.cells #[.int .u64 (x % 4294967296), .int .u64 (x / 4294967296)] e)) (some ⟨w.heap.size, 0, none⟩) 2 (two32 x) :=
  Rd.mk (fun j hj => by
    rw [Nat.zero_add, World.cell?_alloc_new]
    rcases (show j = 0 ∨ j = 1 by omega) with rfl | rfl <;> simp [two32])

set_option maxRecDepth 100000 in
set_option maxHeartbeats 1000000 in
/-- From: the digits of limbs. -/
theorem fromNew_c (ao : Option Addr) (n cap : Nat) (f : Nat → Int) (w : World) (hn : n ≤ 1048576) (hr : Rd .u64 w ao n f) (hf : Lm f n) :
    Calls Tryz.prog 65 #[.slice ao n cap] w fun e w' => ∃ ao' m cap', e = .returned (.slice ao' m cap') ∧ (∀ a, ao' = some a → w.heap.size ≤ a.block) ∧ m ≤ cap' ∧ cap' ≤ 9223372036854775807 ∧ Below w.heap.size w w' ∧ Rd .u64 w' ao' m (dig f) ∧ m ≤ 2 * n ∧ (ao' = none → m = 0) ∧ Dg (dig f) m ∧ Fm (dig f) m ∧ vd (dig f) m = vf f n := by
  have HR := hid hr
  have HF := hid hf
  clear hr hf
  obtain ⟨i0, hi, hz0, hz1, hz2⟩ := info_parts Tryz.infoU64
  go_enter Tryz.func65, Tryz.ntmps65
  go_wp2_with (at_make; refine wpList_make_own w rfl (.const (.int .i64 0)) (.tmp 8) 23 rfl w.heap.size 74 i0 (.int .u64 0) 1 Tryz.underlying23 hi hz0 hz1 .i64 .i64 (2 * (n : Int)) (2 * n) rfl rfl (by omega) (by rw [hz2]; omega) (by unfold maxLen; omega) (Nat.le_refl _) ?_; intro w1 hown1 hgr1)
  have hb1 : Below w.heap.size w w1 := (Below.refl _ _).grown hgr1 (Nat.le_refl _) (fun k h => by cases h)
  have ho1 : Own .u64 74 w1 w.heap.size (.slice (some ⟨w.heap.size, 0, none⟩) 0 (2 * n)) 0 (dig f) := hown1
  clear hown1 hgr1
  have HO1 := hid ho1
  clear ho1
  go_loopw [3, 12] (fun v t wr => ∃ k : Nat, k ≤ n ∧ t = .int .i64 k ∧ Below w.heap.size w wr ∧ Hid (Own .u64 74 wr w.heap.size v (2 * k) (dig f))) (fun _ t _ => n - (intOf t).toNat)
  case atStart => exact ⟨0, by omega, rfl, hb1, HO1.out⟩
  case round =>
    clear hb1 HO1
    obtain ⟨k, hk, rfl, hbel, HO⟩ := hrel
    by_cases hlt : k < n
    · have hr := HR.out
      obtain ⟨b, o, rfl⟩ := hr.at (by omega)
      obtain ⟨x, hx⟩ : ∃ x, f k = x := ⟨_, rfl⟩
      have hcell : wr.cell? ⟨b, o + k, none⟩ = some (.int .u64 x) := by rw [← hx]; exact (hr.below hbel (Nat.le_refl _)).cell hlt
      obtain ⟨x0, x1⟩ := HF.out k hlt
      rw [hx] at x0 x1
      have HX := hid hx
      clear hx hr
      go_wp2_with (at_builtin; refine wpList_append_own_list .u64 _ rfl (.tmp 16) (.tmp 21) 23 rfl w.heap.size 74 8 Tryz.underlying23 Tryz.infoU64 _ (2 * k) (dig f) rfl (Own.alloc HO.out _) wr.heap.size 0 2 2 (two32 x) rfl (rd_new2 wr _ x) ?c1 ?c2 ?c3 ?_)
      case c1 => unfold maxLen; omega
      case c2 => omega
      case c3 => have := hbel.size; simp; omega
      intro v' w' hown hgr
      have hown2 : Own .u64 74 w' w.heap.size v' (2 * (k + 1)) (dig f) := (show Own .u64 74 w' w.heap.size v' (2 * k + 2) _ from hown).congr (fun j hj => by rw [← HX.out]; exact dig_cat f k j hj)
      have hbel2 : Below w.heap.size w w' := (hbel.alloc hbel.size _).grown hgr (by have := hbel.size; simp; omega) (fun k h => (Own.ge HO.out k h))
      have HO2 := hid hown2
      clear hown hgr hown2 HO
      go_wp2
      go_roundw
      case rel => exact ⟨k + 1, by omega, by go_num, hbel2, HO2.out⟩
      case measure => simp [intOf]; omega
    · have hkn : k = n := by omega
      subst hkn
      obtain ⟨ao', cap', hv, hcc, hnn, hml, hrd, hlt2⟩ := HO.out.shape
      unfold maxLen at hml
      subst hv
      have HNew := hid (fun a ha => (hlt2 a ha).1)
      clear HO hlt2
      go_wp2_with fail
      refine (low_c ao' (2 * k) cap' (dig f) wr hcc hml hrd hnn).mono ?_
      rintro e w2 ⟨rfl, m, hm, hz, hfm, rfl⟩
      have HZ := hid hz
      have HFM := hid hfm
      clear hz hfm
      go_wp2
      go_ret
      refine ⟨ao', m, cap', rfl, HNew.out, by omega, hml, hbel, hrd.take hm, hm, fun h => ?_, (dig_lm HF.out).mono hm, HFM.out, ?_⟩
      · have := hnn h; omega
      · rw [trim_vald hm HZ.out]; exact dig_val f k

theorem from_c (ao : Option Addr) (n cap : Nat) (f : Nat → Int) (w : World) (hn : n ≤ 1048576) (hr : Rd .u64 w ao n f) (hf : Lm f n) :
    Calls Tryz.prog 65 #[.slice ao n cap] w fun e w' => ∃ ao' m cap', e = .returned (.slice ao' m cap') ∧ Below w.heap.size w w' ∧ Rd .u64 w' ao' m (dig f) ∧ m ≤ 2 * n ∧ (ao' = none → m = 0) ∧ Dg (dig f) m ∧ Fm (dig f) m ∧ vd (dig f) m = vf f n :=
  (fromNew_c ao n cap f w hn hr hf).mono (fun _ _ ⟨a, m, c, h1, _, _, _, h2⟩ => ⟨a, m, c, h1, h2⟩)

/-- The limbs of digits. -/
def lim (d : Nat → Int) (n : Nat) : Nat → Int := fun j => ext d n (2 * j) + 4294967296 * ext d n (2 * j + 1)
theorem ext_dg {d : Nat → Int} {n : Nat} (h : Dg d n) (j : Nat) : 0 ≤ ext d n j ∧ ext d n j < 4294967296 := by
  by_cases hj : j < n
  · rw [ext_in _ _ _ hj]; exact h j hj
  · rw [ext_out _ _ _ (by omega)]; omega
theorem lim_lm {d : Nat → Int} {n : Nat} (h : Dg d n) (k : Nat) : Lm (lim d n) k := fun j _ => by
  have a := ext_dg h (2 * j); have b := ext_dg h (2 * j + 1)
  unfold lim; omega
theorem lim_val (d : Nat → Int) (n k : Nat) : vf (lim d n) k = vd (ext d n) (2 * k) := by
  induction k with
  | zero => rfl
  | succ k ih =>
    have e : 2 * (k + 1) = 2 * k + 1 + 1 := by omega
    rw [e, vd_succ, vd_succ, ← ih, vf_succ, pd_succ, pd_two, lim]; grind
theorem vd_ext_list (h : Nat → Int) (m n : Nat) (hn : m ≤ n) : vd (ext h m) n = vd h m := by
  rw [vd_ext hn (fun j h1 _ => ext_out h m j h1)]
  exact vd_congr (fun j hj => ext_in h m j hj)
theorem lim_fm {d : Nat → Int} {n k : Nat} (h : Dg d n) (hf : Fm d n) (h1 : n ≤ 2 * k) (h2 : 2 * k ≤ n + 1) : Fm (lim d n) k := by
  by_cases h0 : n = 0
  · left; omega
  · right
    have hd : d (n - 1) ≠ 0 := by rcases hf with h | h; omega; exact h
    have a := ext_dg h (2 * (k - 1)); have b := ext_dg h (2 * (k - 1) + 1)
    unfold lim
    rcases (show n - 1 = 2 * (k - 1) ∨ n - 1 = 2 * (k - 1) + 1 by omega) with e | e
    · have := ext_in d n (2 * (k - 1)) (by omega)
      rw [← e] at this a ⊢
      omega
    · have := ext_in d n (2 * (k - 1) + 1) (by omega)
      rw [← e] at this b ⊢
      omega
theorem cat_one {f : Nat → Int} {k : Nat} {x : Int} (h : f k = x) : ∀ j, j < k + 1 → cat f k (fun _ => x) j = f j := by
  intro j hj
  by_cases h1 : j < k
  · exact cat_in h1
  · obtain rfl : j = k := by omega
    rw [cat_out (Nat.le_refl _), h]

set_option maxRecDepth 100000 in
set_option maxHeartbeats 1000000 in
/-- To: the limbs of digits. -/
theorem toOwn_c (ao : Option Addr) (n cap : Nat) (d : Nat → Int) (w : World) (hn : n ≤ 1048576) (hr : Rd .u64 w ao n d) (hd : Dg d n) (hfm : Fm d n) :
    Calls Tryz.prog 71 #[.slice ao n cap] w fun e w' => ∃ ao' m cap' f, e = .returned (.slice ao' m cap') ∧ Own .u64 74 w' w.heap.size (.slice ao' m cap') m f ∧ Below w.heap.size w w' ∧ Rd .u64 w' ao' m f ∧ m ≤ n ∧ Lm f m ∧ Fm f m ∧ vf f m = vd d n := by
  have HR := hid hr
  have HD := hid hd
  have HFM := hid hfm
  clear hr hd hfm
  go_enter Tryz.func71, Tryz.ntmps71
  go_wp2
  go_loopw [3, 4] (fun v t wr => ∃ k : Nat, 2 * k ≤ n + 1 ∧ t = .int .i64 (2 * k) ∧ Below w.heap.size w wr ∧ Hid (Own .u64 74 wr w.heap.size v k (lim d n))) (fun _ t _ => n + 2 - (intOf t).toNat)
  case atStart => exact ⟨0, by omega, rfl, Below.refl _ _, own_nil _ _ _ _ _⟩
  case round =>
    obtain ⟨k, hk, rfl, hbel, HO⟩ := hrel
    by_cases hlt : 2 * k < n
    · have hr := HR.out
      obtain ⟨b, o, rfl⟩ := hr.at (by omega)
      obtain ⟨x, hx⟩ : ∃ x, d (2 * k) = x := ⟨_, rfl⟩
      have hcell : wr.cell? ⟨b, o + 2 * k, none⟩ = some (.int .u64 x) := by rw [← hx]; exact (hr.below hbel (Nat.le_refl _)).cell hlt
      obtain ⟨x0, x1⟩ := HD.out (2 * k) hlt
      rw [hx] at x0 x1
      have HX := hid hx
      clear hx
      by_cases hlt2 : 2 * k + 1 < n
      · obtain ⟨y, hy⟩ : ∃ y, d (2 * k + 1) = y := ⟨_, rfl⟩
        have hcell2 : wr.cell? ⟨b, o + (2 * k + 1), none⟩ = some (.int .u64 y) := by rw [← hy]; exact (hr.below hbel (Nat.le_refl _)).cell hlt2
        obtain ⟨y0, y1⟩ := HD.out (2 * k + 1) hlt2
        rw [hy] at y0 y1
        have HY := hid hy
        clear hy hr
        have hl : lim d n k = x + y * 4294967296 := by unfold lim; rw [ext_in _ _ _ hlt, ext_in _ _ _ hlt2, HX.out, HY.out]; omega
        have HLm := hid hl
        clear hl
        go_wp2_with (at_builtin; refine wpList_append_own_list .u64 _ rfl (.tmp 29) (.tmp 31) 23 rfl w.heap.size 74 8 Tryz.underlying23 Tryz.infoU64 _ k (lim d n) rfl (Own.alloc HO.out _) wr.heap.size 0 1 1 (fun _ => x + y * 4294967296) rfl (rd_new1 wr _ _) ?c1 ?c2 ?c3 ?_)
        case c1 => unfold maxLen; omega
        case c2 => omega
        case c3 => have := hbel.size; simp; omega
        intro v' w' hown hgr
        have hown2 : Own .u64 74 w' w.heap.size v' (k + 1) (lim d n) := Own.congr hown (cat_one HLm.out)
        have hbel2 : Below w.heap.size w w' := (hbel.alloc hbel.size _).grown hgr (by have := hbel.size; simp; omega) (fun k h => (Own.ge HO.out k h))
        have HO2 := hid hown2
        clear hown hgr hown2 HO
        go_wp2
        go_roundw
        case rel => exact ⟨k + 1, by omega, by go_num, hbel2, HO2.out⟩
        case measure => simp [intOf]; omega
      · have hl : lim d n k = x := by unfold lim; rw [ext_in _ _ _ hlt, ext_out _ _ _ (by omega), HX.out]; omega
        have HLm := hid hl
        clear hl hr
        go_wp2_with (at_builtin; refine wpList_append_own_list .u64 _ rfl (.tmp 29) (.tmp 31) 23 rfl w.heap.size 74 8 Tryz.underlying23 Tryz.infoU64 _ k (lim d n) rfl (Own.alloc HO.out _) wr.heap.size 0 1 1 (fun _ => x) rfl (rd_new1 wr _ _) ?c1 ?c2 ?c3 ?_)
        case c1 => unfold maxLen; omega
        case c2 => omega
        case c3 => have := hbel.size; simp; omega
        intro v' w' hown hgr
        have hown2 : Own .u64 74 w' w.heap.size v' (k + 1) (lim d n) := Own.congr hown (cat_one HLm.out)
        have hbel2 : Below w.heap.size w w' := (hbel.alloc hbel.size _).grown hgr (by have := hbel.size; simp; omega) (fun k h => (Own.ge HO.out k h))
        have HO2 := hid hown2
        clear hown hgr hown2 HO
        go_wp2
        go_roundw
        case rel => exact ⟨k + 1, by omega, by go_num, hbel2, HO2.out⟩
        case measure => simp [intOf]; omega
    · obtain ⟨ao', cap', hv, hcc, hnn, hml, hrd, hlt2⟩ := HO.out.shape
      subst hv
      clear hlt2
      go_wp2
      go_ret
      exact ⟨ao', k, cap', _, rfl, HO.out, hbel, hrd, by omega, lim_lm HD.out k, lim_fm HD.out HFM.out (by omega) hk, by rw [lim_val, vd_ext_list _ _ _ (by omega)]⟩
theorem to_c (ao : Option Addr) (n cap : Nat) (d : Nat → Int) (w : World) (hn : n ≤ 1048576) (hr : Rd .u64 w ao n d) (hd : Dg d n) (hfm : Fm d n) :
    Calls Tryz.prog 71 #[.slice ao n cap] w fun e w' => ∃ ao' m cap' f, e = .returned (.slice ao' m cap') ∧ Below w.heap.size w w' ∧ Rd .u64 w' ao' m f ∧ m ≤ n ∧ Lm f m ∧ Fm f m ∧ vf f m = vd d n :=
  (toOwn_c ao n cap d w hn hr hd hfm).mono (fun _ _ ⟨a, m, c, f, h1, _, h2⟩ => ⟨a, m, c, f, h1, h2⟩)
end Go.Proofs.YthofcgpghbaccaaGreat
