/-
  A number's text is read again; a text that is read is the one that is written: on plain numbers and bytes. The text of a rational number is the text that Read takes for it (for ExtTurns). The walk of ExtOrders. Walks of the document's reference for rat: Zero, Read, DocRead. Walks of ext.Text, ext.Read and of the document's DocText, DocRead of bounds, whatever they are handed; of ExtTexts. The walk of ExtTurns.
-/
import Derived.Test.YtclopblgdiahiaaGreatDoorZ5
import Derived.Test.YtclopblgdiahiaaGreatDoorZ3
import Derived.Test.YtclopblgdiahiaaGreatDoorZ11
namespace Go.Proofs.YtclopblgdiahiaaGreatDoor
open Go.RowKit

theorem dn_congr {b c : Nat → Nat} {n : Nat} (h : ∀ k, k < n → b k = c k) : dn b n = dn c n := by
  induction n with
  | zero => rfl
  | succ n ih => show dn b n * 10 + (b n - 48) = dn c n * 10 + (c n - 48); rw [ih (fun k hk => h k (by omega)), h n (by omega)]
/-- A digit of the number that digits tell. -/
theorem dn_digit {b : Nat → Nat} {L k : Nat} (hd : Dig b L) (hk : k < L) : dg8 (dn b L) (L - 1 - k) = b k := by
  have e := dn_split b (k + 1) (L - 1 - k)
  rw [show k + 1 + (L - 1 - k) = L by omega] at e
  have hl := dn_lt (hd.bsh (i := k + 1) (n := L - 1 - k) (by omega))
  have hp : 0 < 10 ^ (L - 1 - k) := Nat.pow_pos (by decide)
  have e2 : dn b L / 10 ^ (L - 1 - k) = dn b (k + 1) := by
    rw [e, Nat.add_comm, Nat.add_mul_div_right _ _ hp, Nat.div_eq_of_lt hl]; omega
  have hb := hd k hk
  unfold dg8
  rw [e2]
  show 48 + (dn b k * 10 + (b k - 48)) % 10 = b k
  omega
theorem dn_ndigits {b : Nat → Nat} {L : Nat} (h : IsNum b L) : Lib.nDigits (dn b L) = L := by
  obtain ⟨hd, hL, h1⟩ := h
  have hlt := dn_lt hd
  by_cases h0 : L = 1
  · subst h0
    rw [Lib.nDigits_small (by simpa using hlt)]
  · have hne : b 0 ≠ 48 := by rcases h1 with h | h; exact absurd h h0; exact h
    have hb := hd 0 hL
    have e := dn_split b 1 (L - 1)
    rw [show 1 + (L - 1) = L by omega] at e
    have e1 : dn b 1 = b 0 - 48 := by show dn b 0 * 10 + (b 0 - 48) = _; simp [dn]
    have hge : 10 ^ (L - 1) ≤ dn b L := by
      rw [e, e1]
      have : 1 * 10 ^ (L - 1) ≤ (b 0 - 48) * 10 ^ (L - 1) := Nat.mul_le_mul_right _ (by omega)
      omega
    have := Lib.nDigits_unique (L - 1) (dn b L) hge (by rw [show L - 1 + 1 = L by omega]; exact hlt)
    omega
/-- A text that is read is the one that is written. -/
theorem text_of_read {s : ByteArray} {L : Nat} {b : Nat → Nat} (hs : Sb s L b) (h : IsNum b L) : s = ⟨(Lib.decDigits (dn b L)).toArray⟩ := by
  have h1 := sb_dec (dn b L)
  rw [dn_ndigits h] at h1
  exact sb_eq hs (h1.congr (fun k hk => dn_digit h.1 hk))
theorem dg8_dig (V N L : Nat) : Dig (fun k => dg8 V (N - k)) L := fun k _ => by
  show 48 ≤ dg8 V _ ∧ dg8 V _ ≤ 57
  unfold dg8
  omega
theorem lt_ndigits (V : Nat) : V < 10 ^ Lib.nDigits V := by
  have h : ∀ (N V : Nat), Lib.nDigits V = N + 1 → V < 10 ^ (N + 1) := by
    intro N
    induction N with
    | zero =>
      intro V h
      by_cases hu : V < 10
      · simpa using hu
      · rw [Lib.nDigits_big hu] at h; have := Lib.nDigits_pos (V / 10); omega
    | succ N ih =>
      intro V h
      by_cases hu : V < 10
      · rw [Lib.nDigits_small hu] at h; omega
      · rw [Lib.nDigits_big hu] at h
        have := ih (V / 10) (by omega)
        rw [Nat.pow_succ]; omega
  have hp := Lib.nDigits_pos V
  have := h (Lib.nDigits V - 1) V (by omega)
  rwa [show Lib.nDigits V - 1 + 1 = Lib.nDigits V by omega] at this
/-- The digits of a number tell it. -/
theorem dn_dec (V : Nat) : dn (fun k => dg8 V (Lib.nDigits V - 1 - k)) (Lib.nDigits V) = V := by
  have h : ∀ k, k ≤ Lib.nDigits V → dn (fun k => dg8 V (Lib.nDigits V - 1 - k)) k = V / 10 ^ (Lib.nDigits V - k) := by
    intro k
    induction k with
    | zero => intro _; rw [Nat.sub_zero, Nat.div_eq_of_lt (lt_ndigits V)]; rfl
    | succ k ih =>
      intro hk
      show dn _ k * 10 + (dg8 V (Lib.nDigits V - 1 - k) - 48) = _
      rw [ih (by omega), show Lib.nDigits V - k = (Lib.nDigits V - (k + 1)) + 1 by omega, Nat.pow_succ, ← Nat.div_div_eq_div_mul, show Lib.nDigits V - 1 - k = Lib.nDigits V - (k + 1) by omega]
      unfold dg8
      omega
  have := h (Lib.nDigits V) (Nat.le_refl _)
  rw [this]; simp
theorem isNum_dec (V : Nat) : IsNum (fun k => dg8 V (Lib.nDigits V - 1 - k)) (Lib.nDigits V) := by
  have hp := Lib.nDigits_pos V
  refine ⟨dg8_dig _ _ _, hp, ?_⟩
  by_cases h1 : Lib.nDigits V = 1
  · exact .inl h1
  · right
    have hV : 0 < V := by
      apply Nat.pos_of_ne_zero
      rintro rfl
      exact h1 (Lib.nDigits_small (by omega))
    have := dgi_top hV
    unfold dgi at this
    show 48 + V / 10 ^ (Lib.nDigits V - 1 - 0) % 10 ≠ 48
    rw [Nat.sub_zero]
    omega
end Go.Proofs.YtclopblgdiahiaaGreatDoor
namespace Go.Proofs.YtclopblgdiahiaaGreatDoor
open Go.RowKit

theorem IsNum.congr {b b' : Nat → Nat} {L : Nat} (h : ∀ k, k < L → b k = b' k) (hn : IsNum b L) : IsNum b' L := by
  obtain ⟨h1, h2, h3⟩ := hn
  refine ⟨fun k hk => by rw [← h k hk]; exact h1 k hk, h2, ?_⟩
  rcases h3 with h3 | h3
  · exact .inl h3
  · exact .inr (by rw [← h 0 (by omega)]; exact h3)
theorem Sb.append {s t : ByteArray} {L M : Nat} {b c : Nat → Nat} (hs : Sb s L b) (ht : Sb t M c) : Sb (s ++ t) (L + M) (fun k => if k < L then b k else c (k - L)) := by
  obtain ⟨h1, h2⟩ := hs
  obtain ⟨k1, k2⟩ := ht
  refine ⟨by rw [ByteArray.size_append, h1, k1], fun k hk => ?_⟩
  show _ = (if k < L then b k else c (k - L))
  by_cases hl : k < L
  · rw [if_pos hl, ← h2 k (by omega)]
    congr 1
    exact ByteArray.getElem_append_left (by omega)
  · rw [if_neg hl]
    rw [ByteArray.size_append] at hk
    have := k2 (k - L) (by omega)
    rw [← this]
    congr 1
    subst h1
    exact ByteArray.getElem_append_right (by omega)
theorem Sb.same {s : ByteArray} {L : Nat} {b c : Nat → Nat} (h : Sb s L b) (k : Sb s L c) : ∀ j, j < L → b j = c j := fun j hj => by
  rw [← h.2 j (by rw [h.1]; exact hj), k.2 j (by rw [h.1]; exact hj)]
theorem IsWh.congr {b b' : Nat → Nat} {L : Nat} {u : Int} (h : ∀ k, k < L → b k = b' k) (hn : IsWh b L u) : IsWh b' L u := by
  rcases hn with ⟨⟨h1, h2⟩, ⟨h3, h4⟩, h5⟩ | ⟨h1, h2, h3⟩
  · have hb : ∀ k, k < L - 1 → bsh b 1 k = bsh b' 1 k := fun k hk => h (1 + k) (by omega)
    rw [dn_congr hb] at h4 h5
    exact .inl ⟨⟨h1, by rw [← h 0 h1]; exact h2⟩, ⟨h3.congr hb, h4⟩, h5⟩
  · rw [dn_congr h] at h3
    exact .inr ⟨fun k => h1 ⟨k.1, by rw [h 0 k.1]; exact k.2⟩, h2.congr h, h3⟩
theorem RT.congr {b b' : Nat → Nat} {L : Nat} {q : Rat} (h : ∀ k, k < L → b k = b' k) (hn : RT b L q) : RT b' L q := by
  rcases hn with ⟨i, u, ⟨h1, h2, h3⟩, h4, h5, h6, h7, h8⟩ | ⟨u, h1, h2, h3⟩
  · have hb : ∀ k, k < L - (i + 1) → bsh b (i + 1) k = bsh b' (i + 1) k := fun k hk => h (i + 1 + k) (by omega)
    rw [dn_congr hb] at h6 h7 h8
    exact .inl ⟨i, u, ⟨h1, by rw [← h i h1]; exact h2, fun j hj => by rw [← h j (by omega)]; exact h3 j hj⟩, h4.congr (fun k hk => h k (by omega)), h5.congr hb, h6, h7, h8⟩
  · exact .inr ⟨u, fun j hj => by rw [← h j hj]; exact h1 j hj, h2.congr h, h3⟩
def bdec (V : Nat) : Nat → Nat := fun k => dg8 V (Lib.nDigits V - 1 - k)
def bwtx (s : Bool) (V : Nat) : Nat → Nat := fun k => if s then (if k < 1 then 45 else bdec V (k - 1)) else bdec V k
def lwtx (s : Bool) (V : Nat) : Nat := if s then 1 + Lib.nDigits V else Lib.nDigits V
theorem sb_wtx (s : Bool) (V : Nat) : Sb (wtx s V) (lwtx s V) (bwtx s V) := by
  cases s
  · exact sb_dec V
  · have h1 : Sb ⟨#[45]⟩ 1 (fun _ => 45) := ⟨rfl, fun k hk => by
      have hk1 : k < 1 := hk
      obtain rfl : k = 0 := by omega
      rfl⟩
    exact h1.append (sb_dec V)
theorem dig_ne {b : Nat → Nat} {L : Nat} (h : IsNum b L) {k : Nat} (hk : k < L) : b k ≠ 47 ∧ b k ≠ 45 := by
  have := h.1 k hk; omega
theorem isWh_wtx {s : Bool} {V : Nat} {u : Int} (hu : u = sg s V) (hp : s = true → 0 < V) : IsWh (bwtx s V) (lwtx s V) u := by
  have hn := isNum_dec V
  have hd := dn_dec V
  cases s
  · refine .inr ⟨fun h => (dig_ne hn h.1).2 h.2, hn, ?_⟩
    have hu' : u = (V : Int) := hu
    rw [hu']
    exact congrArg (fun x : Nat => (x : Int)) hd.symm
  · have e : ∀ k, bsh (bwtx true V) 1 k = bdec V k := fun k => by
      show (if (1 + k) < 1 then 45 else bdec V (1 + k - 1)) = bdec V k
      rw [if_neg (by omega), Nat.add_sub_cancel_left]
    have el : lwtx true V - 1 = Lib.nDigits V := by show 1 + Lib.nDigits V - 1 = _; omega
    have hd' : dn (bsh (bwtx true V) 1) (lwtx true V - 1) = V := by rw [el, dn_congr (fun k _ => e k)]; exact hd
    refine .inl ⟨⟨by show 0 < 1 + _; omega, rfl⟩, ⟨by rw [el]; exact hn.congr (fun k _ => (e k).symm), by rw [hd']; exact hp rfl⟩, ?_⟩
    rw [hd']; exact hu
theorem nobar_wtx (s : Bool) (V : Nat) : NoBar (bwtx s V) (lwtx s V) := fun j hj => by
  have hn := isNum_dec V
  cases s
  · exact (dig_ne hn hj).1
  · show (if j < 1 then 45 else bdec V (j - 1)) ≠ 47
    by_cases h : j < 1
    · rw [if_pos h]; decide
    · rw [if_neg h]
      have hj' : j < 1 + Lib.nDigits V := hj
      exact (dig_ne hn (k := j - 1) (by omega)).1
/-- The text of q is read as q. -/
theorem rt_qtx {s : Bool} {q : Rat} (hs : q.num = sg s q.num.natAbs) (hp : s = true → 0 < q.num.natAbs) : ∃ L b, Sb (qtx s q) L b ∧ RT b L q := by
  unfold qtx
  have hw := isWh_wtx hs hp
  by_cases h1 : q.den = 1
  · rw [if_pos h1]
    refine ⟨_, _, sb_wtx s _, .inr ⟨q.num, nobar_wtx s _, hw, ?_⟩⟩
    exact Rat.ext (by rw [Rat.num_intCast]) (by rw [Rat.den_intCast]; exact h1)
  · rw [if_neg h1]
    have hb : Sb ⟨#[47]⟩ 1 (fun _ => 47) := ⟨rfl, fun k hk => by
      have hk1 : k < 1 := hk
      obtain rfl : k = 0 := by omega
      rfl⟩
    have hd := q.den_pos
    have hg : q.num.natAbs.gcd q.den = 1 := q.reduced
    have hsb := ((sb_wtx s q.num.natAbs).append hb).append (sb_dec q.den)
    obtain ⟨i, hi⟩ : ∃ i, lwtx s q.num.natAbs = i := ⟨_, rfl⟩
    rw [hi] at hsb hw
    have hnb := nobar_wtx s q.num.natAbs
    rw [hi] at hnb
    obtain ⟨B, hB⟩ : ∃ B : Nat → Nat, B = (fun k => if k < i + 1 then (if k < i then bwtx s q.num.natAbs k else 47) else bdec q.den (k - (i + 1))) := ⟨_, rfl⟩
    have hb0 : ∀ k, k < i → B k = bwtx s q.num.natAbs k := fun k hk => by rw [hB]; show (if k < i + 1 then _ else _) = _; rw [if_pos (by omega), if_pos hk]
    have hb1 : B i = 47 := by rw [hB]; show (if i < i + 1 then _ else _) = _; rw [if_pos (by omega), if_neg (by omega)]
    have hb2 : ∀ k, bsh B (i + 1) k = bdec q.den k := fun k => by
      show B (i + 1 + k) = _
      rw [hB]; show (if i + 1 + k < i + 1 then _ else _) = _; rw [if_neg (by omega)]; congr 1; omega
    have hl : i + 1 + Lib.nDigits q.den - (i + 1) = Lib.nDigits q.den := by omega
    have hdn : dn (bsh B (i + 1)) (i + 1 + Lib.nDigits q.den - (i + 1)) = q.den := by rw [hl, dn_congr (fun k _ => hb2 k)]; exact dn_dec q.den
    have hnp := Lib.nDigits_pos q.den
    refine ⟨i + 1 + Lib.nDigits q.den, B, by rw [hB]; exact hsb, .inl ⟨i, q.num, ⟨by omega, hb1, fun j hj => by rw [hb0 j hj]; exact hnb j hj⟩, hw.congr (fun k hk => (hb0 k hk).symm), ?_, ?_, ?_, ?_⟩⟩
    · rw [hl]; exact (isNum_dec q.den).congr (fun k _ => (hb2 k).symm)
    · rw [hdn]; omega
    · rw [hdn]; exact hg
    · rw [hdn]
      have e0 : ((q.den : Nat) : Int).natAbs = q.den := by omega
      obtain ⟨e1, e2⟩ := make_made (u := q.num) (v := ((q.den : Nat) : Int)) (s := s) (t := false) hs (by show ((q.den : Nat) : Int) = (((q.den : Nat) : Int).natAbs : Int); omega) (by omega)
      rw [e0, hg, Nat.div_one] at e1 e2
      have e3 : (s != false) = s := by cases s <;> rfl
      rw [e3, ← hs] at e1
      exact Rat.ext e1.symm e2.symm
end Go.Proofs.YtclopblgdiahiaaGreatDoor
namespace Go.Proofs.YtclopblgdiahiaaGreatDoor
open Go.RowKit

/-- A box that holds a bound and may be written. -/
structure Wb (w : World) (B : Nat) (i : Int) (s : Bool) (x : Option Addr) (n c : Nat) (y : Option Addr) (m d : Nat) : Prop where
  bx : Bx4 w B (.int .i64 i) (.bool s) (.slice x n c) (.slice y m d)
  fr : ∀ o, w.frozen? ⟨B, o, none⟩ = false
theorem Wb.below {w w' B i s x n c y m d} (h : Wb w B i s x n c y m d) (hb : Below w.heap.size w w') : Wb w' B i s x n c y m d :=
  ⟨h.bx.below hb, fun o => ((bcell hb).2 _ _ h.bx.z).trans (h.fr o)⟩
theorem kWbb {w w' B i s x n c y m d} (hb : Below w.heap.size w w') (h : Wb w B i s x n c y m d) : Wb w' B i s x n c y m d := h.below hb
theorem kWbd {w B i s x n c y m d} (h : Wb w B i s x n c y m d) : Wb w.drew B i s x n c y m d := ⟨⟨h.bx.z, h.bx.x0, h.bx.x1, h.bx.x2, h.bx.x3⟩, h.fr⟩
theorem Wb.alloc {w B i s x n c y m d} (h : Wb w B i s x n c y m d) (o : Obj) : Wb (w.alloc o) B i s x n c y m d := h.below (below_alloc (Below.refl _ _) o)
theorem wb_at (w : World) (i : Int) (s : Bool) (x : Option Addr) (n c : Nat) (y : Option Addr) (m d : Nat) (t : TypeId) : Wb (w.alloc (.cells #[.int .i64 i, .bool s, .slice x n c, .slice y m d] t)) w.heap.size i s x n c y m d := by
  refine ⟨bx4_at _ _ _ _ _ _, fun o => ?_⟩
  have e := heap_alloc_new w (.cells #[.int .i64 i, .bool s, .slice x n c, .slice y m d] t)
  simp only [World.frozen?, e]; simp
theorem size_st4 (w : World) (B : Nat) (u0 u1 u2 u3 : Value) : ((((w.setCell ⟨B, 0, none⟩ u0).setCell ⟨B, 1, none⟩ u1).setCell ⟨B, 2, none⟩ u2).setCell ⟨B, 3, none⟩ u3).heap.size = w.heap.size := by simp [World.setCell]
theorem put4 {w : World} {B : Nat} {u0 u1 u2 u3 : Value} (hz : B < w.heap.size) (z0 : (w.cell? ⟨B, 0, none⟩).isSome = true) (z1 : (w.cell? ⟨B, 1, none⟩).isSome = true) (z2 : (w.cell? ⟨B, 2, none⟩).isSome = true) (z3 : (w.cell? ⟨B, 3, none⟩).isSome = true) :
    Bx4 ((((w.setCell ⟨B, 0, none⟩ u0).setCell ⟨B, 1, none⟩ u1).setCell ⟨B, 2, none⟩ u2).setCell ⟨B, 3, none⟩ u3) B u0 u1 u2 u3 :=
  ⟨by rw [size_st4]; exact hz, kCo (by decide) (kCo (by decide) (kCo (by decide) (kCe z0))), kCo (by decide) (kCo (by decide) (kCe (kIs z1))), kCo (by decide) (kCe (kIs (kIs z2))), kCe (kIs (kIs (kIs z3)))⟩
theorem Ob4.put {w B} (h : Ob4 w B) (i : Int) (s : Bool) (x : Option Addr) (n c : Nat) (y : Option Addr) (m d : Nat) : Wb ((((w.setCell ⟨B, 0, none⟩ (.int .i64 i)).setCell ⟨B, 1, none⟩ (.bool s)).setCell ⟨B, 2, none⟩ (.slice x n c)).setCell ⟨B, 3, none⟩ (.slice y m d)) B i s x n c y m d :=
  ⟨put4 h.z (kI0 h.z0) (kI0 h.z1) (kI0 h.z2) (kI0 h.z3), fun o => kFs (kFs (kFs (kFs (h.zf o))))⟩
theorem Wb.put {w B i' s' x' n' c' y' m' d'} (h : Wb w B i' s' x' n' c' y' m' d') (i : Int) (s : Bool) (x : Option Addr) (n c : Nat) (y : Option Addr) (m d : Nat) : Wb ((((w.setCell ⟨B, 0, none⟩ (.int .i64 i)).setCell ⟨B, 1, none⟩ (.bool s)).setCell ⟨B, 2, none⟩ (.slice x n c)).setCell ⟨B, 3, none⟩ (.slice y m d)) B i s x n c y m d :=
  ⟨put4 h.bx.z (kI0 h.bx.x0) (kI0 h.bx.x1) (kI0 h.bx.x2) (kI0 h.bx.x3), fun o => kFs (kFs (kFs (kFs (h.fr o))))⟩
theorem Wb.far4 {w B i s x n c y m d B' u0 u1 u2 u3} (h : Wb w B i s x n c y m d) (hne : B' ≠ B) : Wb ((((w.setCell ⟨B', 0, none⟩ u0).setCell ⟨B', 1, none⟩ u1).setCell ⟨B', 2, none⟩ u2).setCell ⟨B', 3, none⟩ u3) B i s x n c y m d :=
  ⟨⟨by rw [size_st4]; exact h.bx.z, kCs hne (kCs hne (kCs hne (kCs hne h.bx.x0))), kCs hne (kCs hne (kCs hne (kCs hne h.bx.x1))), kCs hne (kCs hne (kCs hne (kCs hne h.bx.x2))), kCs hne (kCs hne (kCs hne (kCs hne h.bx.x3)))⟩, fun o => kFs (kFs (kFs (kFs (h.fr o))))⟩
theorem Wb.rd {w B i s x n c y m d u0 u1 u2 u3 xx nn ff} (h : Wb w B i s x n c y m d) (hx : Rd .u64 w xx nn ff) : Rd .u64 ((((w.setCell ⟨B, 0, none⟩ u0).setCell ⟨B, 1, none⟩ u1).setCell ⟨B, 2, none⟩ u2).setCell ⟨B, 3, none⟩ u3) xx nn ff :=
  rd_setne (cell_off (by decide) (cell_off (by decide) (cell_off (by decide) h.bx.x3))) (fun i h => by cases h) (rd_setne (cell_off (by decide) (cell_off (by decide) h.bx.x2)) (fun i h => by cases h) (rd_setne (cell_off (by decide) h.bx.x1) (fun i h => by cases h) (rd_setne h.bx.x0 (fun i h => by cases h) hx)))
theorem Wb.oe {w B i s x n c y m d u0 u1 u2 u3 p P i' s' x' n' c' f' y' m' d' g' er} (h : Wb w B i s x n c y m d) (hx : OE p P w i' s' x' n' c' f' y' m' d' g' er) : OE p P ((((w.setCell ⟨B, 0, none⟩ u0).setCell ⟨B, 1, none⟩ u1).setCell ⟨B, 2, none⟩ u2).setCell ⟨B, 3, none⟩ u3) i' s' x' n' c' f' y' m' d' g' er := by
  rcases hx with h1 | ⟨h1, h2, q, h3, h4⟩
  · exact .inl h1
  · exact .inr ⟨h1, h2, q, h3, ⟨⟨⟨h.rd h4.rn.num.rd, h4.rn.num.lm, h4.rn.num.wf, h4.rn.num.cap, h4.rn.num.nil, h4.rn.num.val⟩, ⟨h.rd h4.rn.den.rd, h4.rn.den.lm, h4.rn.den.wf, h4.rn.den.cap, h4.rn.den.nil, h4.rn.den.val⟩, h4.rn.ln, h4.rn.ld⟩, h4.inf⟩⟩
theorem Ob4.oe {w B u0 u1 u2 u3 p P i' s' x' n' c' f' y' m' d' g' er} (h : Ob4 w B) (hx : OE p P w i' s' x' n' c' f' y' m' d' g' er) : OE p P ((((w.setCell ⟨B, 0, none⟩ u0).setCell ⟨B, 1, none⟩ u1).setCell ⟨B, 2, none⟩ u2).setCell ⟨B, 3, none⟩ u3) i' s' x' n' c' f' y' m' d' g' er := by
  rcases hx with h1 | ⟨h1, h2, q, h3, h4⟩
  · exact .inl h1
  · exact .inr ⟨h1, h2, q, h3, ⟨h.rn h4.rn, h4.inf⟩⟩
/-- A bound that was answered, in a box of its own. -/
structure ZAt (p : Bool) (P : Int → Rat → Prop) (w1 wx : World) (b8 : Nat) (i : Int) (s : Bool) (x : Option Addr) (n c : Nat) (f : Nat → Int) (y : Option Addr) (m d : Nat) (g : Nat → Int) (er : Int) : Prop where
  wb : Wb wx b8 i s x n c y m d
  bel : Below w1.heap.size w1 wx
  oe : OE p P wx i s x n c f y m d g er
  le : w1.heap.size ≤ b8
theorem zat_a {p P w1 v i s x n c f y m d g er} {t : TypeId} (hb : Below w1.heap.size w1 v) (h : OE p P v i s x n c f y m d g er) : ZAt p P w1 (v.alloc (.cells #[.int .i64 i, .bool s, .slice x n c, .slice y m d] t)) v.heap.size i s x n c f y m d g er := ⟨wb_at _ _ _ _ _ _ _ _ _ _, below_alloc hb _, h.alloc _, hb.size⟩
theorem zat_s {p P w1 v i s x n c f y m d g er} {b8 : Nat} (hb : Below w1.heap.size w1 v) (h : OE p P v i s x n c f y m d g er) (h8 : Ob4 v b8) (o8 : w1.heap.size ≤ b8) : ZAt p P w1 ((((v.setCell ⟨b8, 0, none⟩ (.int .i64 i)).setCell ⟨b8, 1, none⟩ (.bool s)).setCell ⟨b8, 2, none⟩ (.slice x n c)).setCell ⟨b8, 3, none⟩ (.slice y m d)) b8 i s x n c f y m d g er := ⟨h8.put _ _ _ _ _ _ _ _, below_st4 hb o8, h8.oe h, o8⟩
theorem zat_w {p P w1 v i s x n c f y m d g er i' s' x' n' c' y' m' d'} {b8 : Nat} (hb : Below w1.heap.size w1 v) (h : OE p P v i s x n c f y m d g er) (h8 : Wb v b8 i' s' x' n' c' y' m' d') (o8 : w1.heap.size ≤ b8) : ZAt p P w1 ((((v.setCell ⟨b8, 0, none⟩ (.int .i64 i)).setCell ⟨b8, 1, none⟩ (.bool s)).setCell ⟨b8, 2, none⟩ (.slice x n c)).setCell ⟨b8, 3, none⟩ (.slice y m d)) b8 i s x n c f y m d g er := ⟨h8.put _ _ _ _ _ _ _ _, below_st4 hb o8, h8.oe h, o8⟩
theorem two4_new {w w1 : World} {a0 a1 a2 a3 b0 b1 b2 b3 : Value} {t : TypeId} (hb : Below ((w.alloc (.cells #[a0, a1, a2, a3] t)).alloc (.cells #[b0, b1, b2, b3] t)).heap.size ((w.alloc (.cells #[a0, a1, a2, a3] t)).alloc (.cells #[b0, b1, b2, b3] t)) w1) :
    Bx4 w1 w.heap.size a0 a1 a2 a3 ∧ Bx4 w1 (w.heap.size + 1) b0 b1 b2 b3 ∧ Below w.heap.size w w1 := by
  have h1 := ((bx4_at w a0 a1 a2 a3 t).alloc (.cells #[b0, b1, b2, b3] t)).below hb
  have h2 := (bx4_at (w.alloc (.cells #[a0, a1, a2, a3] t)) b0 b1 b2 b3 t).below hb
  rw [size_alloc1] at h2
  exact ⟨h1, h2, (below_alloc (below_alloc (Below.refl w.heap.size w) _) _).trans (hb.mono (below_alloc (below_alloc (Below.refl w.heap.size w) _) _).size)⟩

end Go.Proofs.YtclopblgdiahiaaGreatDoor
namespace Go.Proofs.YtclopblgdiahiaaGreatDoor
open Go.RowKit

theorem zread_cases {w w' : World} {L : Nat} {b : Nat → Nat} {t : Bool} {x : Option Addr} {m : Nat} {d : Nat → Int} {ok : Bool} (h : ZRead w w' L b t x m d ok) : ok = true ∧ (∃ u, IsWh b L u ∧ Zn w' t x m d u) ∨ ok = false ∧ ∀ u, ¬ IsWh b L u := by
  obtain ⟨_, h1, _, h2, h3, _, h4, h5⟩ := h
  cases ok
  · refine .inr ⟨rfl, fun u hu => ?_⟩
    have : false = true := h4.2 (by
      rcases hu with ⟨k1, k2, _⟩ | ⟨k1, k2, _⟩
      · exact .inl ⟨k1.1, k1.2, k2.1, k2.2⟩
      · exact .inr ⟨k1, k2⟩)
    cases this
  · refine .inl ⟨rfl, ?_⟩
    have hn := h4.1 rfl
    rcases h5 rfl with ⟨k1, k2, k3, k4, k5⟩ | ⟨k1, k2, k3⟩
    · rcases hn with ⟨_, _, n1, n2⟩ | ⟨n1, _⟩
      · subst k1
        refine ⟨-(dn (bsh b 1) (L - 1) : Nat), .inl ⟨⟨k2, k3⟩, ⟨n1, n2⟩, rfl⟩, ⟨h1, h2, h3, by rw [k5]; omega⟩, ?_, fun _ => k4⟩
        show -((dn (bsh b 1) (L - 1) : Nat) : Int) = -(((-((dn (bsh b 1) (L - 1) : Nat) : Int)).natAbs : Nat) : Int)
        omega
      · exact absurd ⟨k2, k3⟩ n1
    · rcases hn with ⟨n1, n2, _⟩ | ⟨_, n1⟩
      · exact absurd ⟨n1, n2⟩ k2
      · subst k1
        refine ⟨(dn b L : Nat), .inr ⟨k2, n1, rfl⟩, ⟨h1, h2, h3, by rw [k3]; omega⟩, ?_, fun h => by cases h⟩
        show ((dn b L : Nat) : Int) = ((((dn b L : Nat) : Int).natAbs : Nat) : Int)
        omega
theorem kB3d {w B a0 a1 a2} (h : Bx3 w B a0 a1 a2) : Bx3 w.drew B a0 a1 a2 := ⟨h.z, h.x0, h.x1, h.x2⟩
theorem kB3b {w w' B a0 a1 a2} (hb : Below w.heap.size w w') (h : Bx3 w B a0 a1 a2) : Bx3 w' B a0 a1 a2 := h.below hb
theorem mk_sgn35 {r s : Bool} {k : Nat} (h : r = (s && decide (0 < k))) : r = true → 0 < k := fun e => by
  rw [e] at h
  have h2 : s = true ∧ 0 < k := by simpa using h.symm
  exact h2.2
theorem cmpD_c {w : World} {x : Option Addr} {n c : Nat} {d : Nat → Int} {A : Nat} {y : Option Addr} {m e : Nat} {g : Nat → Int} {B : Nat} (ha : Dn w x n d A) (hb : Dn w y m g B) (hn : n ≤ 100000) (hm : m ≤ 100000) :
    Calls Tryz.prog 106 #[.slice x n c, .slice y m e] w fun en w' => ∃ r, en = .returned (.int .i64 r) ∧ Below w.heap.size w w' ∧ Hid (Ord r A B) :=
  (rcmp_c x y n m c e d g w (by omega) (by omega) ha.rd hb.rd ha.dg hb.dg ha.fm hb.fm).mono (fun _ _ ⟨⟨q, h1⟩, r, h2, h3⟩ => ⟨r, h2, by rw [h1]; exact below_drewN (Below.refl _ _) q, by rw [ha.val, hb.val] at h3; exact h3⟩)

set_option maxRecDepth 100000 in
set_option maxHeartbeats 4000000 in
theorem qZero_c {w : World} : Calls Tryz.prog 104 #[] w fun e w' => ∃ s x n c y m c', e = .returned (.agg #[.bool s, .slice x n c, .slice y m c']) ∧ Below w.heap.size w w' := by
  have h2 := ob_new w 84
  have h3 := below_alloc (Below.refl w.heap.size w) (.cells #[.bool false, .slice none 0 0, .slice none 0 0] 84)
  go_enter Tryz.func104, Tryz.ntmps104
  go_wp2_with fail
  generalize w.alloc (.cells #[.bool false, .slice none 0 0, .slice none 0 0] 84) = w1 at *
  have OB := hid h2; have HW := hid h3
  clear h2 h3
  refine (qInt_c (z := 0) (by decide) (by decide)).mono ?_
  rintro e w2 ⟨s2, x2, n2, c2, d2, y2, m2, e2, g2, rfl, hb, _, _, _⟩
  have HB := hid (HW.out.trans (hb.mono HW.out.size))
  obtain ⟨hz, z0, z1, z2, zf⟩ := OB.out.below hb
  clear hb
  go_wp2
  exact bodyPost_ret (v := .agg #[.bool s2, .slice x2 n2 c2, .slice y2 m2 e2]) (by simp [results, Tryz.results104, go_sem, z0, z1, z2]) rfl ⟨s2, x2, n2, c2, y2, m2, e2, rfl, below_st HB.out (Nat.le_refl _)⟩

/-- What Read answers. -/
def QRead (b : Nat → Nat) (L : Nat) (w' : World) (s : Bool) (x : Option Addr) (n : Nat) (d : Nat → Int) (y : Option Addr) (m : Nat) (g : Nat → Int) (ok : Bool) : Prop :=
  ok = true ∧ (∃ q, RT b L q ∧ Qn w' s x n d y m g q) ∧ n + m ≤ 2000 ∨ ok = false ∧ ∀ q, ¬ RT b L q
theorem qn_made {w s x n d u y m g} {D : Nat} (ha : Zn w s x n d u) (hb : Dn w y m g D) (h0 : 0 < D) (hg : u.natAbs.gcd D = 1) : Qn w s x n d y m g ((u : Rat) / (((D : Nat) : Int) : Rat)) := by
  have e0 : ((D : Nat) : Int).natAbs = D := by omega
  obtain ⟨e1, e2⟩ := make_made (u := u) (v := ((D : Nat) : Int)) (s := s) (t := false) ha.sgn (by show ((D : Nat) : Int) = (((D : Nat) : Int).natAbs : Int); omega) (by omega)
  rw [e0, hg, Nat.div_one] at e1 e2
  refine ⟨?_, ?_⟩
  · have e3 : (s != false) = s := by cases s <;> rfl
    rw [e1, e3, ← ha.sgn]; exact ha
  · rw [e2]; exact hb
theorem div_gcd_one {u B : Nat} (hB : 0 < B) : B / u.gcd B = B ↔ u.gcd B = 1 := by
  have h1 := Nat.div_mul_cancel (Nat.gcd_dvd_right u B)
  have h2 : 0 < u.gcd B := Nat.gcd_pos_of_pos_right _ hB
  constructor
  · intro h
    rw [h] at h1
    have : B * u.gcd B = B * 1 := by omega
    exact Nat.eq_of_mul_eq_mul_left hB this
  · intro h; rw [h, Nat.div_one]

end Go.Proofs.YtclopblgdiahiaaGreatDoor
namespace Go.Proofs.YtclopblgdiahiaaGreatDoor
open Go.RowKit


set_option maxRecDepth 100000 in
set_option maxHeartbeats 4000000 in
theorem xTwinT_c {w : World} {i : Int} {s : Bool} {x : Option Addr} {n c : Nat} {f : Nat → Int} {y : Option Addr} {m d : Nat} {g : Nat → Int} (h : Rw w x n c f y m d g) (hn : n ≤ 1000) (hm : m ≤ 1000) :
    Calls Tryz.prog 30 #[.agg #[.int .i64 i, .bool s, .slice x n c, .slice y m d]] w fun e w' => ∃ z c' z2 c2, e = .returned (.agg #[.int .i64 i, .bool s, .slice z n c', .slice z2 m c2]) ∧ Below w.heap.size w w' ∧ Hid (Rw w' z n c' f z2 m c2 g ∧ Tg w' z ∧ Tg w' z2) := by
  have h1 := (bx4_at w (.int .i64 i) (.bool s) (.slice x n c) (.slice y m d) 39).alloc (.cells #[.int .i64 0, .bool false, .slice none 0 0, .slice none 0 0] 39)
  have h2 := ob4_new (w.alloc (.cells #[.int .i64 i, .bool s, .slice x n c, .slice y m d] 39)) 39
  rw [size_alloc1] at h2
  have h3 := below_alloc (below_alloc (Below.refl w.heap.size w) (.cells #[.int .i64 i, .bool s, .slice x n c, .slice y m d] 39)) (.cells #[.int .i64 0, .bool false, .slice none 0 0, .slice none 0 0] 39)
  have h4 := h.below h3
  clear h
  go_enter Tryz.func30, Tryz.ntmps30
  go_wp2_with fail
  generalize (w.alloc (.cells #[.int .i64 i, .bool s, .slice x n c, .slice y m d] 39)).alloc (.cells #[.int .i64 0, .bool false, .slice none 0 0, .slice none 0 0] 39) = w1 at *
  have HN := hid h4; have OB := hid h2; have HW := hid h3
  obtain ⟨z, x0, x1, x2, x3⟩ := h1
  obtain ⟨hz, z0, z1, z2, z3, zf⟩ := h2
  clear h3 h4
  have C1 : Hid (∀ W, Below w1.heap.size w1 W → Calls Tryz.prog 14 #[.agg #[.bool s, .slice x n c, .slice y m d]] W fun e w' => ∃ z c' z2 c2, e = .returned (.agg #[.bool s, .slice z n c', .slice z2 m c2]) ∧ Below W.heap.size W w' ∧ Hid (Rw w' z n c' f z2 m c2 g ∧ Tg w' z ∧ Tg w' z2)) := fun W hW => qTwinT_c (HN.out.below hW) hn hm
  go_region_held3 (fun w' => w'.cell? ⟨w.heap.size, 0, none⟩ = some (.int .i64 i) ∧ w'.cell? ⟨w.heap.size, 1, none⟩ = some (.bool s) ∧ w'.cell? ⟨w.heap.size, 2, none⟩ = some (.slice x n c) ∧ w'.cell? ⟨w.heap.size, 3, none⟩ = some (.slice y m d) ∧ (w'.cell? ⟨w.heap.size + 1, 0, none⟩).isSome = true ∧ (w'.cell? ⟨w.heap.size + 1, 1, none⟩).isSome = true ∧ (w'.cell? ⟨w.heap.size + 1, 2, none⟩).isSome = true ∧ (w'.cell? ⟨w.heap.size + 1, 3, none⟩).isSome = true ∧ w'.frozen? ⟨w.heap.size + 1, 0, none⟩ = false ∧ w'.frozen? ⟨w.heap.size + 1, 1, none⟩ = false ∧ w'.frozen? ⟨w.heap.size + 1, 2, none⟩ = false ∧ w'.frozen? ⟨w.heap.size + 1, 3, none⟩ = false)
    (refine ⟨?_, ?_, ?_, ?_, ?_, ?_, ?_, ?_, ?_, ?_, ?_, ?_⟩ <;> repeat (with_reducible first | assumption | exact zf _ | exact tf _ | exact kI0 z0 | exact kI0 z1 | exact kI0 z2 | exact kI0 z3 | exact kI0 t0 | exact kI0 t1 | exact kI0 t2 | exact kI0 t3 | refine kCd ?_ | refine kId ?_ | refine kFd ?_ | refine kCs (by simp only [ne_eq]; omega) ?_ | refine kIs ?_ | refine kFs ?_ | refine kCb (by assumption) ?_ | refine kIb (by assumption) ?_))
    (first | (go_at_call 14; with_reducible refine (C1.out _ (by repeat (with_reducible first | assumption | exact Below.refl _ _ | refine Below.drew ?_ | refine kBb (by assumption) ?_))).mono ?_; rintro e v5 ⟨z5, c5, y5, d5, rfl, hb5, H5⟩; have Tt : Ob4 v5 (w.heap.size + 1) := (by repeat (with_reducible first | exact OB.out | refine Ob4.drew ?_ | refine kO4b (by assumption) ?_)); obtain ⟨_, t0, t1, t2, t3, tf⟩ := id Tt))
  all_goals
    have hb : Below w1.heap.size w1 v5 := (by repeat (with_reducible first | assumption | exact Below.refl _ _ | refine Below.drew ?_ | refine kBb (by assumption) ?_))
    go_wp2
    exact bodyPost_ret (v := .agg #[.int .i64 i, .bool s, .slice z5 n c5, .slice y5 m d5]) (by simp [results, Tryz.results30, go_sem, t0, t1, t2, t3]) rfl ⟨z5, c5, y5, d5, rfl, below_st4 (HW.out.trans (hb.mono HW.out.size)) (by omega), Tt.rw H5.out.1, (((H5.out.2.1.set _ _).set _ _).set _ _).set _ _, (((H5.out.2.2.set _ _).set _ _).set _ _).set _ _⟩

theorem sgn_uni {w w' s t x n c f x' n' d'} {v : Int} (ha : Wn w s x n c f v) (hb : Zn w' t x' n' d' v) : t = s := by
  have h1 := hb.sgn; have h2 := ha.sgn
  rcases Nat.eq_zero_or_pos v.natAbs with h0 | h0
  · have k1 := hb.pos; have k2 : s = true → 0 < n := fun h => sgn_of_wfB ha.wf h
    have z2 : n' = 0 := by
      rcases Nat.eq_zero_or_pos n' with h | h
      · exact h
      · have := hb.dn.pos' h; omega
    have zn : n = 0 := by
      rcases Nat.eq_zero_or_pos n with h | h
      · exact h
      · have h3 := vf_pos ha.lm ha.fm h
        have h4 := ha.mag.nv
        omega
    cases t
    · cases s
      · rfl
      · have := k2 rfl; omega
    · have := k1 rfl; omega
  · cases t <;> cases s <;> simp [sg] at h1 h2 <;> first | rfl | omega
/-- The text of a bound. -/
def etx (i : Int) (s : Bool) (q : Rat) : ByteArray := if i = -1 then ⟨#[45, 105, 110, 102]⟩ else if i = 1 then ⟨#[105, 110, 102]⟩ else qtx s q
def petx (p : Bool) (i : Int) (s : Bool) (q : Rat) : ByteArray := if p then etx i s q else ⟨#[]⟩

set_option maxRecDepth 100000 in
set_option maxHeartbeats 4000000 in
theorem eTextErr_c {w : World} {i : Int} {s : Bool} {x : Option Addr} {n c : Nat} {f : Nat → Int} {y : Option Addr} {m d : Nat} {g : Nat → Int} (h : Rw w x n c f y m d g) (hn : n ≤ 100) (hm : m ≤ 100) (hp : efB i s f n g m = false) :
    Calls Tryz.prog 28 #[.agg #[.int .i64 i, .bool s, .slice x n c, .slice y m d]] w fun e w' => e = .returned (.tuple #[.string ⟨#[]⟩, .int .i64 3]) ∧ Below w.heap.size w w' := by
  have BX := hid (bx4_at w (.int .i64 i) (.bool s) (.slice x n c) (.slice y m d) 39)
  have HW := hid (below_alloc (Below.refl w.heap.size w) (.cells #[.int .i64 i, .bool s, .slice x n c, .slice y m d] 39))
  have HR := hid (h.alloc (.cells #[.int .i64 i, .bool s, .slice x n c, .slice y m d] 39)); have HP := hid hp
  clear h hp
  go_enter Tryz.func28, Tryz.ntmps28
  go_upto_region 1 with fail
  generalize w.alloc (.cells #[.int .i64 i, .bool s, .slice x n c, .slice y m d] 39) = w1 at *
  obtain ⟨z, x0, x1, x2, x3⟩ := BX.out
  have cf := fun (t : TypeId) => allForm1_c (bx4_at w1 (.int .i64 i) (.bool s) (.slice x n c) (.slice y m d) t) (HR.out.alloc _) (by omega) (by omega)
  rw [HP.out] at cf
  have CF := hid cf
  clear cf
  go_wp2_with fail
  refine (CF.out _).mono ?_
  rintro e w2 ⟨rfl, hb⟩
  have HB1 : Hid (Below w1.heap.size w1 w2) := (below_alloc (Below.refl _ _) _).trans (hb.mono (by simp))
  have HB := hid (HW.out.trans (HB1.out.mono HW.out.size))
  clear hb z x0 x1 x2 x3 CF
  go_wp2
  go_ret2
  exact ⟨rfl, HB.out⟩

set_option maxRecDepth 100000 in
set_option maxHeartbeats 4000000 in
theorem eTextOk_u {w : World} {i : Int} {s : Bool} {x : Option Addr} {n c : Nat} {f : Nat → Int} {y : Option Addr} {m d : Nat} {g : Nat → Int} {q : Rat} (h : En 100 w i s x n c f y m d g q) (htab : Tab w) :
    Calls Tryz.prog 28 #[.agg #[.int .i64 i, .bool s, .slice x n c, .slice y m d]] w fun e w' => e = .returned (.tuple #[.string (etx i s q), .int .i64 0]) ∧ Below w.heap.size w w' := by
  have BX := hid (bx4_at w (.int .i64 i) (.bool s) (.slice x n c) (.slice y m d) 39)
  have HW := hid (below_alloc (Below.refl w.heap.size w) (.cells #[.int .i64 i, .bool s, .slice x n c, .slice y m d] 39))
  have HE0 := hid h; have HE := hid (h.alloc (.cells #[.int .i64 i, .bool s, .slice x n c, .slice y m d] 39)); have HTab := hid htab
  have hl1 := h.rn.ln; have hl2 := h.rn.ld
  have hi := h.inf
  clear h htab
  have hi3 : i = 0 ∨ i = -1 ∨ i = 1 := by
    rcases hi with h | ⟨h | h, _⟩
    · exact .inl h
    · exact .inr (.inl h)
    · exact .inr (.inr h)
  clear hi
  rcases hi3 with rfl | rfl | rfl
  all_goals
    go_enter Tryz.func28, Tryz.ntmps28
    go_upto_region 1 with fail
    generalize w.alloc _ = w1 at *
    obtain ⟨z, x0, x1, x2, x3⟩ := BX.out
    have cf := fun (t : TypeId) (k : Int) (hk : efB k s f n g m = true) (b : Bx4 (w1.alloc (.cells #[.int .i64 k, .bool s, .slice x n c, .slice y m d] t)) w1.heap.size (.int .i64 k) (.bool s) (.slice x n c) (.slice y m d)) => by
      have := allForm1_c b (HE.out.rn.rw.alloc _) (by omega) (by omega)
      rw [hk] at this
      exact this
    have CF := hid cf
    clear cf
    go_wp2_with fail
    refine (CF.out _ _ HE.out.ef (bx4_at _ _ _ _ _ _)).mono ?_
    rintro e w2 ⟨rfl, hb⟩
    have HB1 : Hid (Below w1.heap.size w1 w2) := (below_alloc (Below.refl _ _) _).trans (hb.mono (by simp))
    have HB := hid (HW.out.trans (HB1.out.mono HW.out.size))
    clear hb z x0 x1 x2 x3 CF
    obtain ⟨z, x0, x1, x2, x3⟩ := BX.out.below HB1.out
  · have ct := rTextOk_u (HE0.out.rn.below HB.out) (by omega) (HTab.out.below HB.out HTab.out.lt)
    have he : etx 0 s q = qtx s q := by simp [etx]
    obtain ⟨tx, htx⟩ : ∃ tx, qtx s q = tx := ⟨_, rfl⟩
    have HX : Hid (etx 0 s q = tx) := he.trans htx
    rw [htx] at ct
    have CT := hid ct
    clear ct he htx
    go_wp2_with fail
    refine CT.out.mono ?_
    rintro e w3 ⟨rfl, hb⟩
    have HB3 := hid (HB.out.trans (hb.mono HB.out.size))
    clear hb
    go_wp2
    go_ret2
    exact ⟨by rw [HX.out]; rfl, HB3.out⟩
  · go_wp2
    go_ret2
    exact ⟨by simp [etx], HB.out⟩
  · go_wp2
    go_ret2
    exact ⟨by simp [etx], HB.out⟩

theorem eTextOk_c {w : World} {i : Int} {s : Bool} {x : Option Addr} {n c : Nat} {f : Nat → Int} {y : Option Addr} {m d : Nat} {g : Nat → Int} {q : Rat} (h : En 100 w i s x n c f y m d g q) (_ : Tg w x) (_ : Tg w y) (htab : Tab w) :
    Calls Tryz.prog 28 #[.agg #[.int .i64 i, .bool s, .slice x n c, .slice y m d]] w fun e w' => e = .returned (.tuple #[.string (etx i s q), .int .i64 0]) ∧ Below w.heap.size w w' := eTextOk_u h htab

theorem eText_u {w : World} {i : Int} {s : Bool} {x : Option Addr} {n c : Nat} {f : Nat → Int} {y : Option Addr} {m d : Nat} {g : Nat → Int} {p : Bool} {q : Rat} (h : Rw w x n c f y m d g) (hn : n ≤ 100) (hm : m ≤ 100) (hp : efB i s f n g m = p) (hq : p = true → En 100 w i s x n c f y m d g q) (htab : Tab w) :
    Calls Tryz.prog 28 #[.agg #[.int .i64 i, .bool s, .slice x n c, .slice y m d]] w fun e w' => e = .returned (.tuple #[.string (petx p i s q), .int .i64 (pte p)]) ∧ Below w.heap.size w w' := by
  cases p
  · exact eTextErr_c h hn hm hp
  · exact eTextOk_u (hq rfl) htab
theorem eText_g {w : World} {i : Int} {s : Bool} {x : Option Addr} {n c : Nat} {f : Nat → Int} {y : Option Addr} {m d : Nat} {g : Nat → Int} {p : Bool} {q : Rat} (h : Rw w x n c f y m d g) (hn : n ≤ 100) (hm : m ≤ 100) (hp : efB i s f n g m = p) (hq : p = true → En 100 w i s x n c f y m d g q) (_ : Tg w x) (_ : Tg w y) (htab : Tab w) :
    Calls Tryz.prog 28 #[.agg #[.int .i64 i, .bool s, .slice x n c, .slice y m d]] w fun e w' => e = .returned (.tuple #[.string (petx p i s q), .int .i64 (pte p)]) ∧ Below w.heap.size w w' := eText_u h hn hm hp hq htab

/-- What Read answers. -/
def ERd (t : ByteArray) (b : Nat → Nat) (w' : World) (i : Int) (s : Bool) (x : Option Addr) (n c : Nat) (f : Nat → Int) (y : Option Addr) (m d : Nat) (g : Nat → Int) (er : Int) : Prop :=
  t = ⟨#[45, 105, 110, 102]⟩ ∧ er = 0 ∧ i = -1 ∧ Rn 2000 w' s x n c f y m d g 0 ∨ t = ⟨#[105, 110, 102]⟩ ∧ er = 0 ∧ i = 1 ∧ Rn 2000 w' s x n c f y m d g 0 ∨ (t ≠ ⟨#[45, 105, 110, 102]⟩ ∧ t ≠ ⟨#[105, 110, 102]⟩) ∧ i = 0 ∧ RRead b t.size w' s x n c f y m d g er
theorem ERd.below {t b w w' i s x n c f y m d g er} (h : ERd t b w i s x n c f y m d g er) (hb : Below w.heap.size w w') : ERd t b w' i s x n c f y m d g er := by
  rcases h with ⟨h1, h2, h3, h4⟩ | ⟨h1, h2, h3, h4⟩ | ⟨h1, h2, h3⟩
  · exact .inl ⟨h1, h2, h3, h4.below hb⟩
  · exact .inr (.inl ⟨h1, h2, h3, h4.below hb⟩)
  · exact .inr (.inr ⟨h1, h2, h3.below hb⟩)
theorem ERd.alloc {t b w i s x n c f y m d g er} (h : ERd t b w i s x n c f y m d g er) (o : Obj) : ERd t b (w.alloc o) i s x n c f y m d g er := h.below (below_alloc (Below.refl _ _) o)
theorem lo_hi : (⟨#[45, 105, 110, 102]⟩ : ByteArray) ≠ ⟨#[105, 110, 102]⟩ := by decide
theorem erd_agree {t b w i s x n c f y m d g er w' i' s' x' n' c' f' y' m' d' g' er'} (h : ERd t b w i s x n c f y m d g er) (k : ERd t b w' i' s' x' n' c' f' y' m' d' g' er') : i' = i ∧ er' = er := by
  rcases h with ⟨h1, h2, h3, _⟩ | ⟨h1, h2, h3, _⟩ | ⟨h1, h2, h3⟩ <;> rcases k with ⟨k1, k2, k3, _⟩ | ⟨k1, k2, k3, _⟩ | ⟨k1, k2, k3⟩
  · omega
  · exact absurd (h1.symm.trans k1) lo_hi
  · exact absurd h1 k1.1
  · exact absurd (k1.symm.trans h1) lo_hi
  · omega
  · exact absurd h1 k1.2
  · exact absurd k1 h1.1
  · exact absurd k1 h1.2
  · exact ⟨by omega, rr_er h3 k3⟩
theorem erd_same {t b w i s x n c f y m d g er s' x' n' c' f' y' m' d' g' er'} (h : ERd t b w i s x n c f y m d g er) (k : ERd t b w i s' x' n' c' f' y' m' d' g' er') :
    Calls Tryz.prog 27 #[.agg #[.int .i64 i, .bool s, .slice x n c, .slice y m d], .agg #[.int .i64 i, .bool s', .slice x' n' c', .slice y' m' d']] w fun e w' => e = .returned (.bool true) ∧ Below w.heap.size w w' := by
  refine xSame_of (fun W hW => ?_)
  have hh := h.below hW
  have kk := k.below hW
  rcases hh with ⟨h1, h2, h3, h4⟩ | ⟨h1, h2, h3, h4⟩ | ⟨h1, h2, h3⟩ <;> rcases kk with ⟨k1, k2, k3, k4⟩ | ⟨k1, k2, k3, k4⟩ | ⟨k1, k2, k3⟩
  · exact (rSame_n h4 k4 (by omega) (by omega)).mono (fun e w' ⟨j1, j2⟩ => ⟨by rw [j1]; simp, j2⟩)
  · omega
  · omega
  · omega
  · exact (rSame_n h4 k4 (by omega) (by omega)).mono (fun e w' ⟨j1, j2⟩ => ⟨by rw [j1]; simp, j2⟩)
  · omega
  · omega
  · omega
  · exact rr_same h3 k3
theorem Ob4.rr {w B u0 u1 u2 u3 b L s x n c f y m d g er} (h : Ob4 w B) (hx : RRead b L w s x n c f y m d g er) : RRead b L ((((w.setCell ⟨B, 0, none⟩ u0).setCell ⟨B, 1, none⟩ u1).setCell ⟨B, 2, none⟩ u2).setCell ⟨B, 3, none⟩ u3) s x n c f y m d g er := by
  rcases hx with h1 | ⟨h1, ⟨q, h2, h3⟩, h4⟩ | h1
  · exact .inl h1
  · exact .inr (.inl ⟨h1, ⟨q, h2, h.rn h3⟩, h4⟩)
  · exact .inr (.inr h1)
theorem str_ne {t u : ByteArray} {l : List UInt8} (hl : u.toList = l) (h : t ≠ u) : (t.toList == l) = false := by
  have := toList_ne h
  rwa [hl] at this

/-- A bound that Read answers. -/
def ERes (t : ByteArray) (b : Nat → Nat) (w w' : World) (e : Ending) : Prop := ∃ i s x n c f y m d g er, e = .returned (.tuple #[.agg #[.int .i64 i, .bool s, .slice x n c, .slice y m d], .int .i64 er]) ∧ Below w.heap.size w w' ∧ ERd t b w' i s x n c f y m d g er
set_option maxRecDepth 100000 in
set_option maxHeartbeats 4000000 in
theorem eRead_g (t : ByteArray) (b : Nat → Nat) (w : World) (hs : Sb t t.size b) (hL : t.size ≤ 1000 ∨ 1048576 < t.size) :
    Calls Tryz.prog 29 #[.string t] w fun e w' => ERes t b w w' e := by
  have h2 := ob4_new w 39
  have h3 := below_alloc (Below.refl w.heap.size w) (.cells #[.int .i64 0, .bool false, .slice none 0 0, .slice none 0 0] 39)
  have CR := hid (fun W => rRead_g t b W hs hL)
  clear hs hL
  by_cases hlo : t = ⟨#[45, 105, 110, 102]⟩
  · subst hlo
    clear CR
    go_enter Tryz.func29, Tryz.ntmps29
    go_wp2_with fail
    generalize w.alloc (.cells #[.int .i64 0, .bool false, .slice none 0 0, .slice none 0 0] 39) = w1 at *
    have OB := hid h2; have HW := hid h3
    clear h2 h3
    refine eLow_c.mono ?_
    rintro e w2 ⟨s2, x2, n2, c2, f2, y2, m2, d2, g2, rfl, hb, hr⟩
    have HB := hid (HW.out.trans (hb.mono HW.out.size)); have OB2 := hid (OB.out.below hb); have R2 := hid hr
    clear hb hr
    obtain ⟨hz, z0, z1, z2, z3, zf⟩ := OB2.out
    go_wp2
    exact bodyPost_ret (v := .tuple #[.agg #[.int .i64 (-1), .bool s2, .slice x2 n2 c2, .slice y2 m2 d2], .int .i64 0]) (by simp [results, Tryz.results29, go_sem, z0, z1, z2, z3]) rfl ⟨-1, s2, x2, n2, c2, f2, y2, m2, d2, g2, 0, rfl, below_st4 HB.out (Nat.le_refl _), .inl ⟨rfl, rfl, rfl, OB2.out.rn (R2.out.rn.mono (by omega))⟩⟩
  have q1 : (t.toList == [45, 105, 110, 102]) = false := str_ne (by rw [ByteArray.toList_eq]) hlo
  by_cases hhi : t = ⟨#[105, 110, 102]⟩
  · subst hhi
    clear CR q1
    go_enter Tryz.func29, Tryz.ntmps29
    go_wp2_with fail
    generalize w.alloc (.cells #[.int .i64 0, .bool false, .slice none 0 0, .slice none 0 0] 39) = w1 at *
    have OB := hid h2; have HW := hid h3
    clear h2 h3
    refine eHigh_c.mono ?_
    rintro e w2 ⟨s2, x2, n2, c2, f2, y2, m2, d2, g2, rfl, hb, hr⟩
    have HB := hid (HW.out.trans (hb.mono HW.out.size)); have OB2 := hid (OB.out.below hb); have R2 := hid hr
    clear hb hr
    obtain ⟨hz, z0, z1, z2, z3, zf⟩ := OB2.out
    go_wp2
    exact bodyPost_ret (v := .tuple #[.agg #[.int .i64 1, .bool s2, .slice x2 n2 c2, .slice y2 m2 d2], .int .i64 0]) (by simp [results, Tryz.results29, go_sem, z0, z1, z2, z3]) rfl ⟨1, s2, x2, n2, c2, f2, y2, m2, d2, g2, 0, rfl, below_st4 HB.out (Nat.le_refl _), .inr (.inl ⟨rfl, rfl, rfl, OB2.out.rn (R2.out.rn.mono (by omega))⟩)⟩
  have q2 : (t.toList == [105, 110, 102]) = false := str_ne (by rw [ByteArray.toList_eq]) hhi
  have HNE : Hid (t ≠ ⟨#[45, 105, 110, 102]⟩ ∧ t ≠ ⟨#[105, 110, 102]⟩) := ⟨hlo, hhi⟩
  clear hlo hhi
  go_enter Tryz.func29, Tryz.ntmps29
  go_wp2_with fail
  generalize w.alloc (.cells #[.int .i64 0, .bool false, .slice none 0 0, .slice none 0 0] 39) = w1 at *
  have OB := hid h2; have HW := hid h3
  clear h2 h3
  refine (CR.out _).mono ?_
  rintro e w2 ⟨s2, x2, n2, c2, f2, y2, m2, d2, g2, er, rfl, hb, hr⟩
  have HB := hid (below_alloc (HW.out.trans (hb.mono HW.out.size)) (.cells #[.bool s2, .slice x2 n2 c2, .slice y2 m2 d2] 32)); have OB2 := hid ((OB.out.below hb).alloc (.cells #[.bool s2, .slice x2 n2 c2, .slice y2 m2 d2] 32)); have R2 := hid (hr.alloc (.cells #[.bool s2, .slice x2 n2 c2, .slice y2 m2 d2] 32)); have BX2 := hid (bx3_at w2 (.bool s2) (.slice x2 n2 c2) (.slice y2 m2 d2) 32)
  clear hb hr
  go_upto_region 7 with fail
  generalize w2.alloc (.cells #[.bool s2, .slice x2 n2 c2, .slice y2 m2 d2] 32) = w3 at *
  generalize w2.heap.size = b3 at *
  by_cases he : er = 0
  · subst he
    obtain ⟨zx, x0, x1, x2'⟩ := BX2.out
    go_wp2_with fail
    refine enumber_c.mono ?_
    rintro e w4 ⟨rfl, hb⟩
    have HB4 := hid (HB.out.trans (hb.mono HB.out.size)); have OB4 := hid (OB2.out.below hb); have R4 := hid (R2.out.below hb)
    clear hb zx x0 x1 x2'
    obtain ⟨hz, z0, z1, z2, z3, zf⟩ := OB4.out
    go_wp2
    exact bodyPost_ret (v := .tuple #[.agg #[.int .i64 0, .bool s2, .slice x2 n2 c2, .slice y2 m2 d2], .int .i64 0]) (by simp [results, Tryz.results29, go_sem, z0, z1, z2, z3]) rfl ⟨0, s2, x2, n2, c2, f2, y2, m2, d2, g2, 0, rfl, below_st4 HB4.out (Nat.le_refl _), .inr (.inr ⟨HNE.out, rfl, OB4.out.rr R4.out⟩)⟩
  · have hen : (er != 0) = true := by simp; exact he
    have RR : Hid (ERd t b w3 0 false none 0 0 (fun _ => 0) none 0 0 (fun _ => 0) er) := by
      refine .inr (.inr ⟨HNE.out, rfl, ?_⟩)
      rcases R2.out with ⟨h1, h2, _⟩ | ⟨h1, _, h2⟩ | ⟨h1, h2, h3, _⟩
      · exact .inl ⟨h1, h2, rfl, rfl, rfl⟩
      · exact absurd h2 he
      · exact .inr (.inr ⟨h1, h2, h3, rfl, rfl, rfl⟩)
    clear he
    obtain ⟨hz, z0, z1, z2, z3, zf⟩ := OB2.out
    go_wp2
    refine bodyPost_ret (v := .tuple #[.agg #[.int .i64 0, .bool false, .slice none 0 0, .slice none 0 0], .int .i64 er]) (by simp [results, Tryz.results29, go_sem, z0, z1, z2, z3]) rfl ⟨0, false, none, 0, 0, fun _ => 0, none, 0, 0, fun _ => 0, er, rfl, below_st4 HB.out (Nat.le_refl _), ?_⟩
    rcases RR.out with ⟨_, _, k3, _⟩ | ⟨_, _, k3, _⟩ | ⟨k1, k2, k3⟩
    · omega
    · omega
    · exact .inr (.inr ⟨k1, rfl, OB2.out.rr k3⟩)

set_option maxRecDepth 100000 in
set_option maxHeartbeats 4000000 in
theorem xNumRaw_c {w : World} {s : Bool} {x : Option Addr} {n c : Nat} {y : Option Addr} {m d : Nat} : Calls Tryz.prog 102 #[.agg #[.bool s, .slice x n c, .slice y m d]] w fun e w' => e = .returned (.agg #[.int .i64 0, .bool s, .slice x n c, .slice y m d]) ∧ Below w.heap.size w w' := by
  have h1 := (bx3_at w (.bool s) (.slice x n c) (.slice y m d) 84).alloc (.cells #[.int .i64 0, .bool false, .slice none 0 0, .slice none 0 0] 86)
  have h2 := ob4_new (w.alloc (.cells #[.bool s, .slice x n c, .slice y m d] 84)) 86
  rw [size_alloc1] at h2
  have h3 := below_alloc (below_alloc (Below.refl w.heap.size w) (.cells #[.bool s, .slice x n c, .slice y m d] 84)) (.cells #[.int .i64 0, .bool false, .slice none 0 0, .slice none 0 0] 86)
  go_enter Tryz.func102, Tryz.ntmps102
  go_upto_region 1 with fail
  generalize (w.alloc (.cells #[.bool s, .slice x n c, .slice y m d] 84)).alloc (.cells #[.int .i64 0, .bool false, .slice none 0 0, .slice none 0 0] 86) = w1 at *
  have HW := hid h3
  obtain ⟨z, x0, x1, x2⟩ := h1
  obtain ⟨hz, z0, z1, z2, z3, zf⟩ := h2
  clear h3
  go_wp2
  exact bodyPost_ret (v := .agg #[.int .i64 0, .bool s, .slice x n c, .slice y m d]) (by simp [results, Tryz.results102, go_sem, z0, z1, z2, z3]) rfl ⟨rfl, below_st4 HW.out (by omega)⟩
/-- What the reference's Read answers. -/
def FRd (t : ByteArray) (b : Nat → Nat) (w' : World) (i : Int) (s : Bool) (x : Option Addr) (n : Nat) (d : Nat → Int) (y : Option Addr) (m : Nat) (g : Nat → Int) (ok : Bool) : Prop :=
  t = ⟨#[45, 105, 110, 102]⟩ ∧ ok = true ∧ i = -1 ∧ (n + m ≤ 2000 ∧ Qn w' s x n d y m g 0) ∨ t = ⟨#[105, 110, 102]⟩ ∧ ok = true ∧ i = 1 ∧ (n + m ≤ 2000 ∧ Qn w' s x n d y m g 0) ∨ (t ≠ ⟨#[45, 105, 110, 102]⟩ ∧ t ≠ ⟨#[105, 110, 102]⟩) ∧ i = 0 ∧ QRead b t.size w' s x n d y m g ok
end Go.Proofs.YtclopblgdiahiaaGreatDoor
namespace Go.Proofs.YtclopblgdiahiaaGreatDoor
open Go.RowKit

theorem three443_new {w w1 : World} {a0 a1 a2 a3 b0 b1 b2 b3 r0 r1 r2 : Value} {t u : TypeId} (hb : Below (((w.alloc (.cells #[a0, a1, a2, a3] t)).alloc (.cells #[b0, b1, b2, b3] t)).alloc (.cells #[r0, r1, r2] u)).heap.size (((w.alloc (.cells #[a0, a1, a2, a3] t)).alloc (.cells #[b0, b1, b2, b3] t)).alloc (.cells #[r0, r1, r2] u)) w1) :
    Bx4 w1 w.heap.size a0 a1 a2 a3 ∧ Bx4 w1 (w.heap.size + 1) b0 b1 b2 b3 ∧ Bx3 w1 (w.heap.size + 2) r0 r1 r2 ∧ Below w.heap.size w w1 := by
  have h1 := (((bx4_at w a0 a1 a2 a3 t).alloc (.cells #[b0, b1, b2, b3] t)).alloc (.cells #[r0, r1, r2] u)).below hb
  have h2 := ((bx4_at (w.alloc (.cells #[a0, a1, a2, a3] t)) b0 b1 b2 b3 t).alloc (.cells #[r0, r1, r2] u)).below hb
  have h3 := (bx3_at ((w.alloc (.cells #[a0, a1, a2, a3] t)).alloc (.cells #[b0, b1, b2, b3] t)) r0 r1 r2 u).below hb
  rw [size_alloc1] at h2
  rw [size_alloc1, size_alloc1] at h3
  exact ⟨h1, h2, h3, (below_alloc (below_alloc (below_alloc (Below.refl w.heap.size w) _) _) _).trans (hb.mono (below_alloc (below_alloc (below_alloc (Below.refl w.heap.size w) _) _) _).size)⟩
theorem Rn.wr {L w s x n c f y m d g q} (h : Rn L w s x n c f y m d g q) : Rw w x n c f y m d g := h.rw
theorem Wb.oxt {w B i s x n c y m d u0 u1 u2 u3 k P i' s' x' n' c' f' y' m' d' g' er} (h : Wb w B i s x n c y m d) (hx : OX k P w i' s' x' n' c' f' y' m' d' g' er) : OX k P ((((w.setCell ⟨B, 0, none⟩ u0).setCell ⟨B, 1, none⟩ u1).setCell ⟨B, 2, none⟩ u2).setCell ⟨B, 3, none⟩ u3) i' s' x' n' c' f' y' m' d' g' er := by
  rcases hx with ⟨h0, h1 | ⟨h1, q, h3, h4⟩⟩
  · exact ⟨h0, .inl h1⟩
  · exact ⟨h0, .inr ⟨h1, q, h3, ⟨⟨⟨h.rd h4.rn.num.rd, h4.rn.num.lm, h4.rn.num.wf, h4.rn.num.cap, h4.rn.num.nil, h4.rn.num.val⟩, ⟨h.rd h4.rn.den.rd, h4.rn.den.lm, h4.rn.den.wf, h4.rn.den.cap, h4.rn.den.nil, h4.rn.den.val⟩, h4.rn.ln, h4.rn.ld⟩, h4.inf⟩⟩⟩
theorem eord_three {c i j : Int} {a b : Rat} (h : EOrd c i a j b) : c = -1 ∨ c = 0 ∨ c = 1 := by
  rcases h with ⟨h, _⟩ | ⟨h, _⟩ | ⟨h, _⟩ <;> omega
theorem rn_sg {L w s x n c f y m d g q} (h : Rn L w s x n c f y m d g q) : q.num = sg s q.num.natAbs := by
  have h1 := h.num.mag.val
  have h2 := h.num.val
  have h3 := vf_nonneg h.num.lm
  unfold wv at h1 h2
  unfold sg
  cases s <;> simp at * <;> omega
theorem rn_pos {L w x n c f y m d g q} (h : Rn L w false x n c f y m d g q) (hn : n ≠ 0) : 0 < q := by
  have h1 := rn_sg h
  have h2 : q.num ≠ 0 := fun e => hn ((h.q_zero).1 (by rw [Rat.num_eq_zero] at e; exact e))
  have h3 : 0 < q.num := by simp [sg] at h1; omega
  have h4 : 0 ≤ q := Rat.num_nonneg.1 (by omega)
  have h5 : q ≠ 0 := fun e => h2 (by rw [e]; rfl)
  grind
theorem rn_neg {L w x n c f y m d g q} (h : Rn L w true x n c f y m d g q) (hn : n ≠ 0) : q < 0 := by
  have h1 := rn_sg h
  have h2 : q.num ≠ 0 := fun e => hn ((h.q_zero).1 (by rw [Rat.num_eq_zero] at e; exact e))
  have h3 : q.num < 0 := by simp [sg] at h1; omega
  have h4 : ¬ 0 ≤ q := fun e => by have := Rat.num_nonneg.2 e; omega
  grind
theorem pw_tenN (n : Nat) : pw n ≤ ((10 ^ (20 * n) : Nat) : Int) := by
  induction n with
  | zero => simp [pw]
  | succ n ih =>
    have e : (10 ^ (20 * (n + 1)) : Nat) = 100000000000000000000 * 10 ^ (20 * n) := by rw [Nat.mul_add, Nat.pow_add, Nat.mul_comm]
    rw [e]
    have := pw_pos n
    simp only [pw]
    generalize (10 ^ (20 * n) : Nat) = T at *
    omega
theorem dec_lo {V : Nat} (h : (V : Int) < pw 20) : (dec V).size ≤ 400 := by
  have h1 := pw_tenN 20
  have h2 : V < 10 ^ (20 * 20) := by
    generalize (10 ^ (20 * 20) : Nat) = T at *
    omega
  have h3 := nDigits_le h2 (by omega)
  have h4 : (dec V).size = Lib.nDigits V := (sb_dec V).1
  omega
theorem wtx_lo {s : Bool} {V : Nat} (h : (V : Int) < pw 20) : (wtx s V).size ≤ 401 := by
  have h1 := dec_lo h
  have h2 : (⟨#[45]⟩ : ByteArray).size = 1 := rfl
  unfold wtx
  cases s
  · simp; omega
  · simp only [if_true, ByteArray.size_append]; omega
theorem qtx_lo {s : Bool} {q : Rat} (h : Lo 20 q) : (qtx s q).size ≤ 1000 := by
  have h1 := wtx_lo (s := s) h.1
  have h2 := dec_lo h.2
  have h3 : (⟨#[47]⟩ : ByteArray).size = 1 := rfl
  unfold qtx
  split
  · omega
  · simp only [ByteArray.size_append]; omega
def bl4 : Nat → Nat | 0 => 45 | 1 => 105 | 2 => 110 | _ => 102
def bl3 : Nat → Nat | 0 => 105 | 1 => 110 | _ => 102
theorem sb_lo : Sb ⟨#[45, 105, 110, 102]⟩ 4 bl4 := ⟨rfl, fun k hk => by
  have hk4 : k < 4 := hk
  match k, hk4 with
  | 0, _ => rfl
  | 1, _ => rfl
  | 2, _ => rfl
  | 3, _ => rfl⟩
theorem sb_hi : Sb ⟨#[105, 110, 102]⟩ 3 bl3 := ⟨rfl, fun k hk => by
  have hk4 : k < 3 := hk
  match k, hk4 with
  | 0, _ => rfl
  | 1, _ => rfl
  | 2, _ => rfl⟩
theorem rt_lo {q : Rat} : ¬ RT bl4 4 q := by
  rintro (⟨i, u, ⟨h1, h2, _⟩, _⟩ | ⟨u, _, h, _⟩)
  · match i, h1, h2 with
    | 0, _, h => exact absurd h (by decide)
    | 1, _, h => exact absurd h (by decide)
    | 2, _, h => exact absurd h (by decide)
    | 3, _, h => exact absurd h (by decide)
  · rcases h with ⟨_, ⟨h, _⟩, _⟩ | ⟨h, _⟩
    · have h3 : bsh bl4 1 0 ≤ 57 := (h.1 0 (by omega)).2
      exact absurd h3 (by decide)
    · exact h ⟨by omega, rfl⟩
theorem rt_hi {q : Rat} : ¬ RT bl3 3 q := by
  rintro (⟨i, u, ⟨h1, h2, _⟩, _⟩ | ⟨u, _, h, _⟩)
  · match i, h1, h2 with
    | 0, _, h => exact absurd h (by decide)
    | 1, _, h => exact absurd h (by decide)
    | 2, _, h => exact absurd h (by decide)
  · rcases h with ⟨⟨_, h⟩, _⟩ | ⟨_, h, _⟩
    · exact absurd h (by decide)
    · have h3 : bl3 0 ≤ 57 := (h.1 0 (by omega)).2
      exact absurd h3 (by decide)
/-- The text of a bound in form is read as the bound. -/
theorem etx_back {w : World} {L : Nat} {i : Int} {s : Bool} {x : Option Addr} {n c : Nat} {f : Nat → Int} {y : Option Addr} {m d : Nat} {g : Nat → Int} {q : Rat} (h : En L w i s x n c f y m d g q) (hl : Lo 20 q) : ∃ b, Sb (etx i s q) (etx i s q).size b ∧ (etx i s q).size ≤ 1000 ∧ ∀ (w' : World) (i' : Int) (s' : Bool) (x' : Option Addr) (n' c' : Nat) (f' : Nat → Int) (y' : Option Addr) (m' d' : Nat) (g' : Nat → Int) (er : Int), ERd (etx i s q) b w' i' s' x' n' c' f' y' m' d' g' er → er = 0 ∧ i = i' ∧ Rn 2000 w' s' x' n' c' f' y' m' d' g' q := by
  rcases h.inf with h0 | ⟨h0 | h0, hq⟩
  · subst h0
    have e : etx 0 s q = qtx s q := by simp [etx]
    rw [e]
    have hp : s = true → 0 < q.num.natAbs := fun hs => by
      have h1 := ((wfB_iff _ _ _).1 h.rn.num.wf).2 hs
      have h2 := h.rn.num_zero
      omega
    obtain ⟨M, b, hsb, hrt⟩ := rt_qtx (rn_sg h.rn) hp
    have hM := hsb.1
    have hsz := qtx_lo (s := s) hl
    subst hM
    refine ⟨b, hsb, hsz, fun _ _ _ _ _ _ _ _ _ _ _ _ k => ?_⟩
    rcases k with ⟨k1, _⟩ | ⟨k1, _⟩ | ⟨_, k2, k3⟩
    · rw [k1] at hsb hrt
      exact absurd (hrt.congr (hsb.same sb_lo)) rt_lo
    · rw [k1] at hsb hrt
      exact absurd (hrt.congr (hsb.same sb_hi)) rt_hi
    · rcases k3 with ⟨k4, _⟩ | ⟨_, ⟨q', k5, k6⟩, k7⟩ | ⟨_, k5, _⟩
      · omega
      · rw [hrt.uniq k5]; exact ⟨k7, k2.symm, k6⟩
      · exact absurd hrt (k5 q)
  · subst h0
    have e : etx (-1) s q = ⟨#[45, 105, 110, 102]⟩ := by simp [etx]
    rw [e, hq]
    refine ⟨bl4, sb_lo, by decide, fun _ _ _ _ _ _ _ _ _ _ _ _ k => ?_⟩
    rcases k with ⟨_, k2, k3, k4⟩ | ⟨k1, _⟩ | ⟨⟨k1, _⟩, _⟩
    · exact ⟨k2, k3.symm, k4⟩
    · exact absurd k1 lo_hi
    · exact absurd rfl k1
  · subst h0
    have e : etx 1 s q = ⟨#[105, 110, 102]⟩ := by simp [etx]
    rw [e, hq]
    refine ⟨bl3, sb_hi, by decide, fun _ _ _ _ _ _ _ _ _ _ _ _ k => ?_⟩
    rcases k with ⟨k1, _⟩ | ⟨_, k2, k3, k4⟩ | ⟨⟨_, k1⟩, _⟩
    · exact absurd k1.symm lo_hi
    · exact ⟨k2, k3.symm, k4⟩
    · exact absurd rfl k1

set_option maxRecDepth 100000 in
set_option maxHeartbeats 16000000 in
theorem extTurns_c (ia : Int) (sa : Bool) (xa : Option Addr) (na ca : Nat) (fa : Nat → Int) (ya : Option Addr) (ma da : Nat) (ga : Nat → Int) (ib : Int) (sb : Bool) (xb : Option Addr) (nb cb : Nat) (fb : Nat → Int) (yb : Option Addr) (mb db : Nat) (gb : Nat → Int) (sr : Bool) (xr : Option Addr) (nr cr : Nat) (fr : Nat → Int) (yr : Option Addr) (mr dr : Nat) (gr : Nat → Int) (w : World) (ha : Rw w xa na ca fa ya ma da ga) (hb : Rw w xb nb cb fb yb mb db gb) (hr : Rw w xr nr cr fr yr mr dr gr) (htab : Tab w) :
    Calls Tryz.prog 5 #[.agg #[.int .i64 ia, .bool sa, .slice xa na ca, .slice ya ma da], .agg #[.int .i64 ib, .bool sb, .slice xb nb cb, .slice yb mb db], .agg #[.bool sr, .slice xr nr cr, .slice yr mr dr]] w fun e w' => e = .returned (.bool true) ∧ Below w.heap.size w w' := by
  have HA := hid ha; have HB := hid hb; have HR := hid hr; have HTab := hid htab
  have q1 := ha.cx; have q2 := ha.cy; have q3 := hb.cx; have q4 := hb.cy; have q5 := hr.cx; have q6 := hr.cy
  clear ha hb hr htab
  go_enter Tryz.func5, Tryz.ntmps5
  go_wp2_with fail
  refine (eAwake_c _).mono ?_
  rintro e w1 ⟨rfl, hbel⟩
  obtain ⟨ba, bb, br, hw⟩ := three443_new hbel
  have BA := hid ba; have BB := hid bb; have BR := hid br; have HW := hid hw
  clear hbel ba bb br hw
  obtain ⟨z0, z1, z2, z3, z4⟩ := BA.out
  obtain ⟨t0, t1, t2, t3, t4⟩ := BB.out
  go_wp2_with fail
  refine (elight_c (by omega) (by omega) (by omega) (by omega)).mono ?_
  rintro e w2 ⟨rfl, hb⟩
  have BA2 := hid (BA.out.below hb); have BB2 := hid (BB.out.below hb); have BR2 := hid (BR.out.below hb); have HW2 := hid (HW.out.trans (hb.mono HW.out.size))
  clear hb BA BB BR HW z0 z1 z2 z3 z4 t0 t1 t2 t3 t4
  have BA := BA2; have BB := BB2; have BR := BR2; have HW := HW2
  clear BA2 BB2 BR2 HW2
  cases hl : (lg na ma 20 && lg nb mb 20)
  · go_wp2
    go_ret
    exact ⟨rfl, HW.out⟩
  have hl1 : (na ≤ 20 ∧ ma ≤ 20) ∧ (nb ≤ 20 ∧ mb ≤ 20) := by
    simp only [lg, Bool.and_eq_true, decide_eq_true_eq] at hl
    exact hl
  obtain ⟨⟨l1, l2⟩, l3, l4⟩ := hl1
  clear hl
  obtain ⟨z0, z1, z2, z3⟩ := BR.out
  go_wp2_with fail
  refine (rLight_c sr xr yr nr cr mr dr _ (by omega) (by omega)).mono ?_
  rintro e w3 ⟨rfl, hb⟩
  have BA2 := hid (BA.out.below hb); have BB2 := hid (BB.out.below hb); have BR2 := hid (BR.out.below hb); have HW2 := hid (HW.out.trans (hb.mono HW.out.size))
  clear hb BA BB BR HW z0 z1 z2 z3
  have BA := BA2; have BB := BB2; have BR := BR2; have HW := HW2
  clear BA2 BB2 BR2 HW2
  cases hl : lg nr mr 20
  · go_wp2
    go_ret
    exact ⟨rfl, HW.out⟩
  have hl1 : nr ≤ 20 ∧ mr ≤ 20 := by
    simp only [lg, Bool.and_eq_true, decide_eq_true_eq] at hl
    exact hl
  obtain ⟨l5, l6⟩ := hl1
  clear hl
  obtain ⟨z0, z1, z2, z3, z4⟩ := BA.out
  go_wp2_with fail
  refine (eForm_c (HA.out.below HW.out) (by omega) (by omega)).mono ?_
  rintro e w4 ⟨rfl, hb⟩
  have BA2 := hid (BA.out.below hb); have BB2 := hid (BB.out.below hb); have BR2 := hid (BR.out.below hb); have HW2 := hid (HW.out.trans (hb.mono HW.out.size))
  clear hb BA BB BR HW z0 z1 z2 z3 z4
  have BA := BA2; have BB := BB2; have BR := BR2; have HW := HW2
  clear BA2 BB2 BR2 HW2
  cases hfa : efB ia sa fa na ga ma
  · go_wp2
    go_ret
    exact ⟨rfl, HW.out⟩
  obtain ⟨z0, z1, z2, z3, z4⟩ := BB.out
  go_wp2_with fail
  refine (eForm_c (HB.out.below HW.out) (by omega) (by omega)).mono ?_
  rintro e w5 ⟨rfl, hb⟩
  have BA2 := hid (BA.out.below hb); have BB2 := hid (BB.out.below hb); have BR2 := hid (BR.out.below hb); have HW2 := hid (HW.out.trans (hb.mono HW.out.size))
  clear hb BA BB BR HW z0 z1 z2 z3 z4
  have BA := BA2; have BB := BB2; have BR := BR2; have HW := HW2
  clear BA2 BB2 BR2 HW2
  cases hfb : efB ib sb fb nb gb mb
  · go_wp2
    go_ret
    exact ⟨rfl, HW.out⟩
  obtain ⟨z0, z1, z2, z3⟩ := BR.out
  go_wp2_with fail
  refine (qForm_c (HR.out.below HW.out) (by omega) (by omega)).mono ?_
  rintro e w6 ⟨rfl, hb⟩
  have BA2 := hid (BA.out.below hb); have BB2 := hid (BB.out.below hb); have BR2 := hid (BR.out.below hb); have HW2 := hid (HW.out.trans (hb.mono HW.out.size))
  clear hb BA BB BR HW z0 z1 z2 z3
  have BA := BA2; have BB := BB2; have BR := BR2; have HW := HW2
  clear BA2 BB2 BR2 HW2
  cases hfr : rfB sr fr nr gr mr
  · go_wp2
    go_ret
    exact ⟨rfl, HW.out⟩
  obtain ⟨z0, z1, z2, z3⟩ := BR.out
  by_cases h0 : nr = 0
  · have h0i : ((nr : Int) == 0) = true := by simp; omega
    go_wp2
    go_ret
    exact ⟨rfl, HW.out⟩
  have h0i : ((nr : Int) == 0) = false := by simp; omega
  clear z0 z1 z2 z3
  obtain ⟨a, ha⟩ := (HA.out.below HW.out).en hfa (L := 100) (by omega) (by omega)
  obtain ⟨b, hb⟩ := (HB.out.below HW.out).en hfb (L := 100) (by omega) (by omega)
  obtain ⟨r, hr⟩ := (HR.out.below HW.out).rn hfr (L := 100) (by omega) (by omega)
  have LA := hid (ha.rn.lo l1 l2); have LB := hid (hb.rn.lo l3 l4); have LR := hid (hr.lo l5 l6)
  have FA := hid hfa; have FB := hid hfb; have FR := hid hfr
  have EA := hid ha; have EB := hid hb; have ER := hid hr
  have hk : Hid (ks (true && true) nr = 0) := hid (by simp [ks, h0])
  clear ha hb hr hfa hfb hfr
  have HB6 : Hid (Below w6.heap.size w6 w6) := Below.refl _ _
  -- Cmp(a, b)
  obtain ⟨za, a0, a1, a2, a3⟩ := BA.out.below HB6.out
  obtain ⟨zb, b0, b1, b2, b3⟩ := BB.out.below HB6.out
  obtain ⟨zr, r0, r1, r2⟩ := BR.out.below HB6.out
  go_wp2_with fail
  refine (eCmp_g EA.out.rn.rw EB.out.rn.rw (by omega) (by omega) (by omega) (by omega) FA.out FB.out (fun _ => EA.out) (fun _ => EB.out)).mono ?_
  rintro e w7 ⟨cc, er, rfl, hb, H7⟩
  obtain ⟨he, hO⟩ := OC.get H7.out
  subst he
  have OC1 := hid hO; have HB7 := hid hb
  clear H7 hO hb HB6 za a0 a1 a2 a3 zb b0 b1 b2 b3 zr r0 r1 r2
  obtain ⟨za, a0, a1, a2, a3⟩ := BA.out.below HB7.out
  obtain ⟨zb, b0, b1, b2, b3⟩ := BB.out.below HB7.out
  obtain ⟨zr, r0, r1, r2⟩ := BR.out.below HB7.out
  go_wp2_with fail
  refine (eScale_g (EA.out.rn.rw.below HB7.out) (ER.out.rw.below HB7.out) (by omega) (by omega) (by omega) (by omega) FA.out FR.out (fun _ => EA.out.below HB7.out) (fun _ => ER.out.below HB7.out)).mono ?_
  rintro e w8 ⟨i1, s1, x1, n1, c1, f1, y1, m1, d1, g1, e1, rfl, hb, HH⟩
  have hh := HH.out
  rw [hk.out] at hh
  obtain ⟨he, q1, hP, hE⟩ := hh.get
  subst he
  have P1 := hid hP
  have E1 := hid (((hE.cut (lo_scale hP LA.out LR.out)).mono (L' := 100) (by omega)).alloc (.cells #[.int .i64 i1, .bool s1, .slice x1 n1 c1, .slice y1 m1 d1] 39))
  have l1 := E1.out.rn.ln; have k1 := E1.out.rn.ld
  have X1 := hid (wb_at w8 i1 s1 x1 n1 c1 y1 m1 d1 39)
  have hl1 : w6.heap.size ≤ w8.heap.size := (HB7.out.trans (hb.mono HB7.out.size)).size
  have HBn := hid (below_alloc (HB7.out.trans (hb.mono HB7.out.size)) (.cells #[.int .i64 i1, .bool s1, .slice x1 n1 c1, .slice y1 m1 d1] 39))
  clear hb HH hh hP hE HB7 za a0 a1 a2 a3 zb b0 b1 b2 b3 zr r0 r1 r2
  have HB9 := HBn; clear HBn
  go_upto_region 7 with fail
  generalize w8.alloc (.cells #[.int .i64 i1, .bool s1, .slice x1 n1 c1, .slice y1 m1 d1] 39) = w9 at *
  generalize w8.heap.size = B1 at *
  obtain ⟨za, a0, a1, a2, a3⟩ := BA.out.below HB9.out
  obtain ⟨zb, b0, b1, b2, b3⟩ := BB.out.below HB9.out
  obtain ⟨zr, r0, r1, r2⟩ := BR.out.below HB9.out
  go_wp2_with fail
  refine (eScale_g (EB.out.rn.rw.below HB9.out) (ER.out.rw.below HB9.out) (by omega) (by omega) (by omega) (by omega) FB.out FR.out (fun _ => EB.out.below HB9.out) (fun _ => ER.out.below HB9.out)).mono ?_
  rintro e w10 ⟨i2, s2, x2, n2, c2, f2, y2, m2, d2, g2, e2, rfl, hb, HH⟩
  have hh := HH.out
  rw [hk.out] at hh
  obtain ⟨he, q2, hP, hE⟩ := hh.get
  subst he
  have P2 := hid hP
  have E2 := hid (((hE.cut (lo_scale hP LB.out LR.out)).mono (L' := 100) (by omega)).alloc (.cells #[.int .i64 i2, .bool s2, .slice x2 n2 c2, .slice y2 m2 d2] 39))
  have l2 := E2.out.rn.ln; have k2 := E2.out.rn.ld
  have X2 := hid (wb_at w10 i2 s2 x2 n2 c2 y2 m2 d2 39)
  have hl2 : w6.heap.size ≤ w10.heap.size := (HB9.out.trans (hb.mono HB9.out.size)).size
  have HBn := hid (below_alloc (HB9.out.trans (hb.mono HB9.out.size)) (.cells #[.int .i64 i2, .bool s2, .slice x2 n2 c2, .slice y2 m2 d2] 39))
  have X1n := hid ((X1.out.below hb).alloc (.cells #[.int .i64 i2, .bool s2, .slice x2 n2 c2, .slice y2 m2 d2] 39)); have E1n := hid ((E1.out.below hb).alloc (.cells #[.int .i64 i2, .bool s2, .slice x2 n2 c2, .slice y2 m2 d2] 39))
  clear hb HH hh hP hE HB9 za a0 a1 a2 a3 zb b0 b1 b2 b3 zr r0 r1 r2
  clear X1 E1; have X1 := X1n; have E1 := E1n; clear X1n E1n
  have HB11 := HBn; clear HBn
  go_upto_region 8 with fail
  generalize w10.alloc (.cells #[.int .i64 i2, .bool s2, .slice x2 n2 c2, .slice y2 m2 d2] 39) = w11 at *
  generalize w10.heap.size = B2 at *
  obtain ⟨zp, pp0, pp1, pp2, pp3⟩ := X1.out.bx
  obtain ⟨zq, qq0, qq1, qq2, qq3⟩ := X2.out.bx
  go_wp2_with fail
  refine (eCmp_g E1.out.rn.rw E2.out.rn.rw (by omega) (by omega) (by omega) (by omega) E1.out.ef E2.out.ef (fun _ => E1.out) (fun _ => E2.out)).mono ?_
  rintro e w12 ⟨dd, er, rfl, hb, HH⟩
  obtain ⟨he, hO⟩ := OC.get HH.out
  subst he
  have Odd := hid hO
  have HBn := hid (HB11.out.trans (hb.mono HB11.out.size))
  clear hb HH hO HB11 zp pp0 pp1 pp2 pp3 zq qq0 qq1 qq2 qq3 X1 X2 E1 E2
  have HB12 := HBn; clear HBn
  obtain ⟨za, a0, a1, a2, a3⟩ := BA.out.below HB12.out
  obtain ⟨zb, b0, b1, b2, b3⟩ := BB.out.below HB12.out
  obtain ⟨zr, r0, r1, r2⟩ := BR.out.below HB12.out
  go_wp2_with fail
  refine (eShift_g (EA.out.rn.rw.below HB12.out) (ER.out.rw.below HB12.out) (by omega) (by omega) (by omega) (by omega) FA.out FR.out (fun _ => EA.out.below HB12.out) (fun _ => ER.out.below HB12.out)).mono ?_
  rintro e w13 ⟨i3, s3, x3, n3, c3, f3, y3, m3, d3, g3, e3, rfl, hb, HH⟩
  have hh := HH.out
  skip
  obtain ⟨he, q3, hP, hE⟩ := hh.get
  subst he
  have P3 := hid hP
  have E3 := hid (((hE.cut (lo_shift hP LA.out LR.out)).mono (L' := 100) (by omega)).alloc (.cells #[.int .i64 i3, .bool s3, .slice x3 n3 c3, .slice y3 m3 d3] 39))
  have l3 := E3.out.rn.ln; have k3 := E3.out.rn.ld
  have X3 := hid (wb_at w13 i3 s3 x3 n3 c3 y3 m3 d3 39)
  have hl3 : w6.heap.size ≤ w13.heap.size := (HB12.out.trans (hb.mono HB12.out.size)).size
  have HBn := hid (below_alloc (HB12.out.trans (hb.mono HB12.out.size)) (.cells #[.int .i64 i3, .bool s3, .slice x3 n3 c3, .slice y3 m3 d3] 39))
  clear hb HH hh hP hE HB12 za a0 a1 a2 a3 zb b0 b1 b2 b3 zr r0 r1 r2
  have HB14 := HBn; clear HBn
  go_upto_region 10 with fail
  generalize w13.alloc (.cells #[.int .i64 i3, .bool s3, .slice x3 n3 c3, .slice y3 m3 d3] 39) = w14 at *
  generalize w13.heap.size = B3 at *
  obtain ⟨za, a0, a1, a2, a3⟩ := BA.out.below HB14.out
  obtain ⟨zb, b0, b1, b2, b3⟩ := BB.out.below HB14.out
  obtain ⟨zr, r0, r1, r2⟩ := BR.out.below HB14.out
  go_wp2_with fail
  refine (eShift_g (EB.out.rn.rw.below HB14.out) (ER.out.rw.below HB14.out) (by omega) (by omega) (by omega) (by omega) FB.out FR.out (fun _ => EB.out.below HB14.out) (fun _ => ER.out.below HB14.out)).mono ?_
  rintro e w15 ⟨i4, s4, x4, n4, c4, f4, y4, m4, d4, g4, e4, rfl, hb, HH⟩
  have hh := HH.out
  skip
  obtain ⟨he, q4, hP, hE⟩ := hh.get
  subst he
  have P4 := hid hP
  have E4 := hid (((hE.cut (lo_shift hP LB.out LR.out)).mono (L' := 100) (by omega)).alloc (.cells #[.int .i64 i4, .bool s4, .slice x4 n4 c4, .slice y4 m4 d4] 39))
  have l4 := E4.out.rn.ln; have k4 := E4.out.rn.ld
  have X4 := hid (wb_at w15 i4 s4 x4 n4 c4 y4 m4 d4 39)
  have hl4 : w6.heap.size ≤ w15.heap.size := (HB14.out.trans (hb.mono HB14.out.size)).size
  have HBn := hid (below_alloc (HB14.out.trans (hb.mono HB14.out.size)) (.cells #[.int .i64 i4, .bool s4, .slice x4 n4 c4, .slice y4 m4 d4] 39))
  have X3n := hid ((X3.out.below hb).alloc (.cells #[.int .i64 i4, .bool s4, .slice x4 n4 c4, .slice y4 m4 d4] 39)); have E3n := hid ((E3.out.below hb).alloc (.cells #[.int .i64 i4, .bool s4, .slice x4 n4 c4, .slice y4 m4 d4] 39))
  clear hb HH hh hP hE HB14 za a0 a1 a2 a3 zb b0 b1 b2 b3 zr r0 r1 r2
  clear X3 E3; have X3 := X3n; have E3 := E3n; clear X3n E3n
  have HB16 := HBn; clear HBn
  go_upto_region 11 with fail
  generalize w15.alloc (.cells #[.int .i64 i4, .bool s4, .slice x4 n4 c4, .slice y4 m4 d4] 39) = w16 at *
  generalize w15.heap.size = B4 at *
  obtain ⟨zp, pp0, pp1, pp2, pp3⟩ := X3.out.bx
  obtain ⟨zq, qq0, qq1, qq2, qq3⟩ := X4.out.bx
  go_wp2_with fail
  refine (eCmp_g E3.out.rn.rw E4.out.rn.rw (by omega) (by omega) (by omega) (by omega) E3.out.ef E4.out.ef (fun _ => E3.out) (fun _ => E4.out)).mono ?_
  rintro e w17 ⟨ff, er, rfl, hb, HH⟩
  obtain ⟨he, hO⟩ := OC.get HH.out
  subst he
  have Off := hid hO
  have HBn := hid (HB16.out.trans (hb.mono HB16.out.size))
  clear hb HH hO HB16 zp pp0 pp1 pp2 pp3 zq qq0 qq1 qq2 qq3 X3 X4 E3 E4
  have HB17 := HBn; clear HBn
  have hff : cc = ff := ((eord_shift P3.out P4.out OC1.out).one Off.out).symm
  subst hff
  obtain ⟨za, a0, a1, a2, a3⟩ := BA.out.below HB17.out
  obtain ⟨zb, b0, b1, b2, b3⟩ := BB.out.below HB17.out
  obtain ⟨zr, r0, r1, r2⟩ := BR.out.below HB17.out
  go_wp2_with fail
  refine (eNeg_g (EA.out.rn.rw.below HB17.out) (by omega) (by omega) FA.out (fun _ => EA.out.below HB17.out)).mono ?_
  rintro e w18 ⟨i5, s5, x5, n5, c5, f5, y5, m5, d5, g5, e5, rfl, hb, HH⟩
  have hh := HH.out
  skip
  obtain ⟨he, q5, hP, hE⟩ := hh.get
  subst he
  have P5 := hid hP
  have E5 := hid (((hE.cut ((lo_ng hP LA.out).mono (by omega : 20 ≤ 100))).mono (L' := 100) (by omega)).alloc (.cells #[.int .i64 i5, .bool s5, .slice x5 n5 c5, .slice y5 m5 d5] 39))
  have l5 := E5.out.rn.ln; have k5 := E5.out.rn.ld
  have X5 := hid (wb_at w18 i5 s5 x5 n5 c5 y5 m5 d5 39)
  have hl5 : w6.heap.size ≤ w18.heap.size := (HB17.out.trans (hb.mono HB17.out.size)).size
  have HBn := hid (below_alloc (HB17.out.trans (hb.mono HB17.out.size)) (.cells #[.int .i64 i5, .bool s5, .slice x5 n5 c5, .slice y5 m5 d5] 39))
  clear hb HH hh hP hE HB17 za a0 a1 a2 a3 zb b0 b1 b2 b3 zr r0 r1 r2
  have HB19 := HBn; clear HBn
  go_upto_region 13 with fail
  generalize w18.alloc (.cells #[.int .i64 i5, .bool s5, .slice x5 n5 c5, .slice y5 m5 d5] 39) = w19 at *
  generalize w18.heap.size = B5 at *
  obtain ⟨⟨zp, pp0, pp1, pp2, pp3⟩, pf⟩ := X5.out
  go_wp2_with fail
  refine (eNeg_g E5.out.rn.rw (by omega) (by omega) E5.out.ef (fun _ => E5.out)).mono ?_
  rintro e w20 ⟨i6, s6, x6, n6, c6, f6, y6, m6, d6, g6, e6, rfl, hb, HH⟩
  have X5n := hid (X5.out.below hb)
  clear zp pp0 pp1 pp2 pp3 pf X5
  obtain ⟨⟨zp, pp0, pp1, pp2, pp3⟩, pf⟩ := X5n.out
  have hh := HH.out
  have he := hh.get.1
  subst he
  go_upto_region 14 with fail
  have Y6 := hid (X5n.out.put i6 s6 x6 n6 c6 y6 m6 d6); have O6 := hid (X5n.out.oxt (u0 := .int .i64 i6) (u1 := .bool s6) (u2 := .slice x6 n6 c6) (u3 := .slice y6 m6 d6) hh)
  have HBn := hid (below_st4 (u0 := .int .i64 i6) (u1 := .bool s6) (u2 := .slice x6 n6 c6) (u3 := .slice y6 m6 d6) (HB19.out.trans (hb.mono HB19.out.size)) hl5)
  clear zp pp0 pp1 pp2 pp3 pf X5n hh HH hb HB19 E5
  generalize (((w20.setCell ⟨B5, 0, none⟩ (.int .i64 i6)).setCell ⟨B5, 1, none⟩ (.bool s6)).setCell ⟨B5, 2, none⟩ (.slice x6 n6 c6)).setCell ⟨B5, 3, none⟩ (.slice y6 m6 d6) = w21 at *
  obtain ⟨_, q6, hP6, hE6⟩ := O6.out.get
  have hi6 : ia = i6 := by have e1 := P5.out.1; have e2 := hP6.1; omega
  have hq6 : a = q6 := by rw [hP6.2, P5.out.2, Rat.neg_neg]
  subst hi6 hq6
  have E6 := hid hE6
  clear hP6 hE6 O6 P5
  obtain ⟨zp, pp0, pp1, pp2, pp3⟩ := Y6.out.bx
  obtain ⟨za, a0, a1, a2, a3⟩ := BA.out.below HBn.out
  go_wp2_with fail
  refine (xSame_of (fun W hW => (rSame_n (E6.out.rn.below hW) ((EA.out.below HBn.out).rn.below hW) (by omega) (by omega)).mono (fun e w' ⟨j1, j2⟩ => ⟨by rw [j1]; simp, j2⟩))).mono ?_
  rintro e w22 ⟨rfl, hb⟩
  have HBm := hid (HBn.out.trans (hb.mono HBn.out.size))
  clear hb zp pp0 pp1 pp2 pp3 za a0 a1 a2 a3 Y6 E6 HBn
  obtain ⟨za, a0, a1, a2, a3⟩ := BA.out.below HBm.out
  have ct := eText_u (EA.out.rn.rw.below HBm.out) (by omega) (by omega) FA.out (fun _ => EA.out.below HBm.out) (HTab.out.below (HW.out.trans (HBm.out.mono HW.out.size)) HTab.out.lt)
  obtain ⟨bt, hsb, hsz, hbk⟩ := etx_back EA.out LA.out
  obtain ⟨tx, htx⟩ : ∃ tx, etx ia sa a = tx := ⟨_, rfl⟩
  rw [show petx true ia sa a = tx from htx, show pte true = 0 from rfl] at ct
  rw [htx] at hsb hsz hbk
  have CT := hid ct; have SB := hid hsb; have BK := hid hbk
  clear ct hsb htx hbk
  go_wp2_with fail
  refine CT.out.mono ?_
  rintro e w23 ⟨rfl, hb⟩
  have HBn := hid (HBm.out.trans (hb.mono HBm.out.size))
  clear hb za a0 a1 a2 a3 HBm CT
  have CR := hid (eRead_g tx bt w23 SB.out (.inl hsz))
  go_wp2_with fail
  refine CR.out.mono ?_
  rintro e w24 ⟨i7, s7, x7, n7, c7, f7, y7, m7, d7, g7, e7, rfl, hb, HH⟩
  obtain ⟨he, hi, hR⟩ := BK.out _ _ _ _ _ _ _ _ _ _ _ _ HH
  subst he
  subst hi
  have X7 := hid (wb_at w24 ia s7 x7 n7 c7 y7 m7 d7 39)
  have R7 := hid (hR.alloc (.cells #[.int .i64 ia, .bool s7, .slice x7 n7 c7, .slice y7 m7 d7] 39))
  have HBm := hid (below_alloc (HBn.out.trans (hb.mono HBn.out.size)) (.cells #[.int .i64 ia, .bool s7, .slice x7 n7 c7, .slice y7 m7 d7] 39))
  clear hb HH hR HBn CR BK SB
  go_upto_region 18 with fail
  generalize w24.alloc (.cells #[.int .i64 ia, .bool s7, .slice x7 n7 c7, .slice y7 m7 d7] 39) = w25 at *
  generalize w24.heap.size = B7 at *
  obtain ⟨zp, pp0, pp1, pp2, pp3⟩ := X7.out.bx
  obtain ⟨za, a0, a1, a2, a3⟩ := BA.out.below HBm.out
  go_wp2_with fail
  refine (xSame_of (fun W hW => (rSame_n (R7.out.below hW) ((EA.out.below HBm.out).rn.below hW) (by omega) (by omega)).mono (fun e w' ⟨j1, j2⟩ => ⟨by rw [j1]; simp, j2⟩))).mono ?_
  rintro e wz ⟨rfl, hb⟩
  have HBz := hid (HBm.out.trans (hb.mono HBm.out.size))
  have HWz := hid (HW.out.trans (HBz.out.mono HW.out.size))
  clear hb zp pp0 pp1 pp2 pp3 za a0 a1 a2 a3 X7 R7 HBm
  obtain ⟨zr, r0, r1, r2⟩ := BR.out.below HBz.out
  have hcc := eord_three OC1.out
  cases hsr : sr
  · have hr0 := rn_pos (hsr ▸ ER.out) h0
    have hd : cc = dd := Odd.out.one (eord_scale_pos hr0 (hsr ▸ P1.out) (hsr ▸ P2.out) OC1.out)
    subst hd
    clear hr0
    go_wp2
    go_ret
    exact ⟨by simp, HWz.out⟩
  · have hr0 := rn_neg (hsr ▸ ER.out) h0
    have hd : -cc = dd := Odd.out.one (eord_scale_neg hr0 (hsr ▸ P1.out) (hsr ▸ P2.out) OC1.out)
    subst hd
    clear hr0
    rcases hcc with rfl | rfl | rfl
    all_goals
      go_wp2
      go_ret
      exact ⟨by simp, HWz.out⟩
end Go.Proofs.YtclopblgdiahiaaGreatDoor
