/-
  The same words for digits to the base 2^32. Numbers times 2^n, limb by limb and digit by digit; a list made with room behind it. No Go text is named here. Walks of the document's reference for nat: Form, Twin, Same, Low, two, light. The walk of package whole's call Divide. Walks of the document's reference for nat: Twin, From, To. Walks of the document's reference for nat: Cmp, Add, Sub on digits, and the calls DocAdd, DocSub, DocCmp. Walks of the document's reference for nat: Word, short. Walks of the document's reference for nat: Sub on digits, and the calls DocAdd, DocSub, DocCmp. Walks of the document's reference for rat: Mk of short numbers. Walks of the document's Same and Light of rational numbers, and of the statements' own light. The statements' looks at how long the numbers of lists are (light, Lights). What the rows of this seat share: how arguments that are rational numbers, lists of numbers and lists of terms are opened. The seat's rows list no tables. The walks of Least, of package model and of the reference. How arguments that are points, bases and certificates are opened. Rows of structs that a call makes by append, none of whose cells is a limb: what stays when they are written. No Go text is named here. Blocks that are told whole, and what is written into them. The walk of package vec's putter (gather's own function). Lists of terms in form, as values; the walk of package vec's merge. The walks of package vec's calls Scale and Sparse, whatever they are handed. The walk of package vec's call Sparse, whatever it is handed. The walk of the document's reference for nat: bit, Bits, DivMod. Walks of nat.Shl and of the document's reference: Shl, DocShl. The walk of the document's reference for nat: half, Gcd. The walk of the document's reference for nat: Gcd. Walks of the document's reference for nat: DocMul, DocDivMod, DocGcd.
-/
import Derived.Test.YtllpllebmknmpaaZ0
import Derived.Test.YtllpllebmknmpaaZ1
import Derived.Test.YtllpllebmknmpaaZ2
import Derived.Test.YtllpllebmknmpaaZ3
import Derived.Test.YtllpllebmknmpaaZ4
import Derived.Deep.RegionHeld3
import Derived.Test.YtllpllebmknmpaaRows
import Derived.Test.YtllpllebmknmpaaChecked
import Derived.ProofKit
import Derived.OpenShut
import Derived.ChangeSame
import Derived.Deep.Slices
import Derived.Deep.DeepHandedRow
import Derived.BigQuiet
namespace Go.Proofs.Ytllpllebmknmpaa
open Go.RowKit

/-- The trimmed list. -/
theorem trim_vald {f : Nat → Int} {m n : Nat} (hm : m ≤ n) (hz : ∀ j, m ≤ j → j < n → f j = 0) : vd f m = vd f n := (vd_ext hm hz).symm
end Go.Proofs.Ytllpllebmknmpaa
namespace Go.Proofs.Ytllpllebmknmpaa
open Go.RowKit

theorem pd_pow (k : Nat) : pd k = 2 ^ (32 * k) := by
  induction k with
  | zero => rfl
  | succ k ih => rw [pd_succ, ih, show 32 * (k + 1) = 32 * k + 32 by omega, Int.pow_add, Int.mul_comm]; rfl

/-- One round of a shift to the left, on digits. -/
theorem dshl_step {D a : Nat → Int} {o k : Nat} {P x c : Int} (hv : vd D (o + k) + c * pd (o + k) = vd a k * (P * pd o)) (hx : a k = x) :
    vd (cat D (o + k) (fun _ => (c + x * P) % 4294967296)) (o + k + 1) + ((c + x * P) / 4294967296) * pd (o + k + 1) = vd a (k + 1) * (P * pd o) := by
  have e1 : vd (cat D (o + k) (fun _ => (c + x * P) % 4294967296)) (o + k) = vd D (o + k) := vd_congr (fun j hj => cat_in hj)
  have e2 : cat D (o + k) (fun _ => (c + x * P) % 4294967296) (o + k) = (c + x * P) % 4294967296 := cat_out (Nat.le_refl _)
  rw [vd_succ, e1, e2, pd_succ, vd_succ, hx]
  have e3 := Int.mul_ediv_add_emod (c + x * P) 4294967296
  have e4 : (c + x * P) * pd (o + k) = (4294967296 * ((c + x * P) / 4294967296) + (c + x * P) % 4294967296) * pd (o + k) := by rw [e3]
  rw [Int.add_mul (vd a k), ← hv]
  have e5 : x * pd k * (P * pd o) = x * P * pd (o + k) := by rw [pd_add]; grind
  rw [e5]
  grind
theorem dshl_carry {P x c : Int} (c0 : 0 ≤ c) (c1 : c < P) (x0 : 0 ≤ x) (x1 : x < 4294967296) (p0 : 0 < P) : 0 ≤ c + x * P ∧ c + x * P < 4294967296 * P ∧ (c + x * P) / 4294967296 < P ∧ 0 ≤ x * P ∧ x * P < 4294967296 * P := by
  have h1 : 0 ≤ x * P := Int.mul_nonneg x0 (Int.le_of_lt p0)
  have h2 : (x + 1) * P ≤ 4294967296 * P := Int.mul_le_mul_of_nonneg_right (by omega) (Int.le_of_lt p0)
  rw [Int.add_mul, Int.one_mul] at h2
  refine ⟨by omega, by omega, ?_, h1, by omega⟩
  exact Int.ediv_lt_of_lt_mul (by decide) (by omega)

/-- 'make([]T, l, c)': a block of c noughts. -/
theorem wpList_make_two {P : Program} (k : IntKind) (w : World) {ops : Array Oper} {rest : List Oper} {o : Oper} {a : Act} {Q : Exit → Act → World → Prop}
    (hg : o.guard = none) (lo co : Operand) (t : TypeId) (hop : o.op = Op.makeSlice t lo co)
    (e : TypeId) (bytes : Nat) (h1 : P.underlying t = some (.slice e)) (h2 : (P.info? e).map (fun i => (i.zero, i.size, i.bytes)) = some (some (.int k 0), 1, bytes))
    (kl kc : IntKind) (L C : Int) (l c : Nat) (hl : a.eval lo = .int kl L) (hc : a.eval co = .int kc C) (hL : L = (l : Int)) (hC : C = (c : Int)) (hlc : l ≤ c) (b2 : bytes * c ≤ 281474976710656) (b3 : c ≤ maxLen)
    (hK : ∀ w', Blk k e w' w.heap.size c (fun _ => 0) → Below w.heap.size w w' → wpList P ops Q rest (a.put o.dst (.slice (some ⟨w.heap.size, 0, none⟩) l c)) w') :
    wpList P ops Q (o :: rest) a w := by
  obtain ⟨i, hi, hz0, hz1, hz2⟩ := info_parts h2
  subst hL
  subst hC
  refine wpList_plain hg fun K hK' => ?_
  have b2' : (i.bytes : Int) * (c : Int) ≤ 281474976710656 := by
    have h : ((i.bytes * c : Nat) : Int) ≤ 281474976710656 := by rw [hz2]; omega
    rwa [Int.natCast_mul] at h
  have hrun := run_make (P := P) w t e i (.int k 0) h1 hi hz0 kl kc (l : Int) (c : Int) (by omega) (by omega) b2' (by unfold maxLen at b3; omega)
  simp only [Int.toNat_natCast, hz1, Nat.mul_one] at hrun
  unfold Oper.wp
  simp [execOp, hop, hl, hc, hrun, Result.andThen]
  refine hK' _ _ (hK _ ⟨_, heap_alloc_new w _, size_madeCells _ _, fun j hj => ?_⟩ ((Below.refl _ _).alloc (Nat.le_refl _) _))
  have hm : (madeCells (Value.int k 0).cells c).toList = List.replicate c (.int k 0) := toList_madeCells_one _ _
  have : (madeCells (Value.int k 0).cells c).toList[j]? = some (.int k 0) := by rw [hm, List.getElem?_replicate, if_pos hj]
  simpa using this
end Go.Proofs.Ytllpllebmknmpaa
namespace Go.Proofs.Ytllpllebmknmpaa
open Go.RowKit

set_option maxHeartbeats 400000 in
theorem rform_c (ao : Option Addr) (n cap : Nat) (f : Nat → Int) (w : World) (hm : n ≤ 9223372036854775807) (hr : Rd .u64 w ao n f) :
    Calls Try.prog 58 #[.slice ao n cap] w fun e w' => e = .returned (.bool (fmB f n)) ∧ w' = w := by
  by_cases h0 : n = 0
  · subst h0
    have e : fmB f 0 = true := by simp [fmB]
    go_enter Try.func58, Try.ntmps58
    go_wp2
    go_ret
    exact ⟨by rw [e]; rfl, rfl⟩
  · obtain ⟨b, o, rfl⟩ := hr.at (by omega)
    obtain ⟨x, hx⟩ : ∃ x, f (n - 1) = x := ⟨_, rfl⟩
    have hc : w.cell? ⟨b, o + (n - 1), none⟩ = some (.int .u64 x) := by rw [← hx]; exact hr.cell (by omega)
    have h1 : ((n : Int) == 0) = false := by simp; omega
    have e : fmB f n = (x != 0) := by simp [fmB, h0, hx, bne]; rfl
    have E := hid e
    clear hr hx e
    go_enter Try.func58, Try.ntmps58
    go_wp2
    go_ret
    exact ⟨by rw [E.out]; rfl, rfl⟩

end Go.Proofs.Ytllpllebmknmpaa
namespace Go.Proofs.Ytllpllebmknmpaa
open Go.RowKit

/-- How four boxes read. -/
def B4 (w w1 : World) (a0 a1 b0 b1 c0 c1 d0 d1 : Value) : Prop := w.heap.size + 1 + 1 + 1 < w1.heap.size ∧ w1.cell? ⟨w.heap.size, 0, none⟩ = some a0 ∧ w1.cell? ⟨w.heap.size, 1, none⟩ = some a1 ∧ w1.cell? ⟨w.heap.size + 1, 0, none⟩ = some b0 ∧ w1.cell? ⟨w.heap.size + 1, 1, none⟩ = some b1 ∧ w1.cell? ⟨w.heap.size + 1 + 1, 0, none⟩ = some c0 ∧ w1.cell? ⟨w.heap.size + 1 + 1, 1, none⟩ = some c1 ∧ w1.cell? ⟨w.heap.size + 1 + 1 + 1, 0, none⟩ = some d0 ∧ w1.cell? ⟨w.heap.size + 1 + 1 + 1, 1, none⟩ = some d1 ∧ (∀ o, w1.frozen? ⟨w.heap.size + 1 + 1, o, none⟩ = false) ∧ (∀ o, w1.frozen? ⟨w.heap.size + 1 + 1 + 1, o, none⟩ = false)
end Go.Proofs.Ytllpllebmknmpaa
namespace Go.Proofs.Ytllpllebmknmpaa
open Go.RowKit

set_option maxRecDepth 100000 in
set_option maxHeartbeats 400000 in
/-- Twin: a list of its own. -/
theorem twin_c (ao : Option Addr) (n cap : Nat) (f : Nat → Int) (w : World) (hn : n ≤ 17592186044416) (hr : Rd .u64 w ao n f) (hnil : ao = none → n = 0 ∧ cap = 0) :
    Calls Try.prog 50 #[.slice ao n cap] w fun e w' => ∃ ao' cap', e = .returned (.slice ao' n cap') ∧ Below w.heap.size w w' ∧ Rd .u64 w' ao' n f ∧ Own .u64 63 w' w.heap.size (.slice ao' n cap') n f := by
  cases ao with
  | none =>
    obtain ⟨rfl, rfl⟩ := hnil rfl
    go_enter Try.func50, Try.ntmps50
    obtain ⟨i0, hi, hz0, hz1, hz2⟩ := info_parts Try.infoU64
    go_wp2_with (at_builtin; refine wpList_append_own_none rfl (.tmp 4) (.tmp 5) 64 rfl w.heap.size 63 i0 1 Try.underlying64 hi (.slice none 0 0) 0 [] rfl (World.ownsRow_nil _ _ _ _) rfl ?_)
    go_ret
    exact ⟨none, 0, rfl, Below.refl _ _, Rd.zero, own_nil _ _ _ _ _⟩
  | some ad =>
    clear hnil
    have HR := hid hr
    clear hr
    go_enter Try.func50, Try.ntmps50
    obtain ⟨i0, hi, hz0, hz1, hz2⟩ := info_parts Try.infoU64
    go_wp2_with (at_builtin; refine wpList_append_own w rfl (.tmp 4) (.tmp 5) 64 rfl w.heap.size 63 i0 (.int .u64 0) 1 8 Try.underlying64 hi hz0 hz1 hz2 rfl (by decide) (.slice none 0 0) 0 [] rfl (World.ownsRow_nil _ _ _ _) ad n cap (lst .u64 f n) rfl (by rw [lst_length, Nat.mul_one]) ?c1 (lst_one _ _ _) ?c2 ?c3 (Nat.le_refl _) ?_)
    case c1 =>
      intro j u hu
      obtain ⟨hj, rfl⟩ := lst_getE hu
      obtain ⟨b, o, e, hc⟩ := HR.out j hj
      cases e
      rw [addr_add]; exact hc
    case c2 => unfold maxLen; omega
    case c3 => omega
    intro v' w' hown hgr _
    have hown' : Own .u64 63 w' w.heap.size v' n f := hown
    have hbel : Below w.heap.size w w' := (Below.refl _ _).grown hgr (Nat.le_refl _) (fun k h => by simp [Value.ownBlock] at h)
    have hs := hown'.shape
    obtain ⟨ao', cap', hv, hcc, hnn, hml, hrd, hlt⟩ := hs
    rw [hv] at hown' ⊢
    clear hown hgr hv
    have HO := hid hown'
    clear hown'
    go_wp2
    go_ret
    exact ⟨ao', cap', rfl, hbel, hrd, HO.out⟩

/-- The digits of limbs. -/
def dig (f : Nat → Int) : Nat → Int := fun j => if j % 2 = 0 then f (j / 2) % 4294967296 else f (j / 2) / 4294967296
theorem dig_cat (f : Nat → Int) (k : Nat) : ∀ j, j < 2 * k + 2 → cat (dig f) (2 * k) (two32 (f k)) j = dig f j := by
  intro j hj
  by_cases h : j < 2 * k
  · exact cat_in h
  · rw [cat_out (by omega)]
    by_cases h2 : j = 2 * k
    · subst h2
      have e1 : 2 * k - 2 * k = 0 := by omega
      have e2 : 2 * k / 2 = k := by omega
      have e3 : 2 * k % 2 = 0 := by omega
      simp [two32, dig]
    · obtain rfl : j = 2 * k + 1 := by omega
      have e1 : 2 * k + 1 - 2 * k = 1 := by omega
      have e2 : (2 * k + 1) / 2 = k := by omega
      have e3 : (2 * k + 1) % 2 = 1 := by omega
      simp [two32, dig, e1, e2, e3]
theorem dig_lm {f : Nat → Int} {n : Nat} (h : Lm f n) : Dg (dig f) (2 * n) := by
  intro j hj
  have := h (j / 2) (by omega)
  unfold dig
  split <;> omega
theorem dig_val (f : Nat → Int) (n : Nat) : vd (dig f) (2 * n) = vf f n := by
  induction n with
  | zero => rfl
  | succ k ih =>
    have e : 2 * (k + 1) = 2 * k + 1 + 1 := by omega
    have e2 : (2 * k + 1) / 2 = k := by omega
    have e3 : (2 * k + 1) % 2 = 1 := by omega
    have e4 : 2 * k / 2 = k := by omega
    have e5 : 2 * k % 2 = 0 := by omega
    have a1 : dig f (2 * k) = f k % 4294967296 := by simp [dig]
    have a2 : dig f (2 * k + 1) = f k / 4294967296 := by simp [dig, e2, e3]
    rw [e, vd_succ, vd_succ, ih, vf_succ, pd_succ, pd_two, a1, a2]
    have e6 : f k = 4294967296 * (f k / 4294967296) + f k % 4294967296 := by omega
    have e7 : f k * pw k = (4294967296 * (f k / 4294967296) + f k % 4294967296) * pw k := by rw [← e6]
    rw [e7]
    grind

set_option maxRecDepth 100000 in
set_option maxHeartbeats 1000000 in
/-- From: the digits of limbs. -/
theorem fromNew_c (ao : Option Addr) (n cap : Nat) (f : Nat → Int) (w : World) (hn : n ≤ 1048576) (hr : Rd .u64 w ao n f) (hf : Lm f n) :
    Calls Try.prog 60 #[.slice ao n cap] w fun e w' => ∃ ao' m cap', e = .returned (.slice ao' m cap') ∧ (∀ a, ao' = some a → w.heap.size ≤ a.block) ∧ m ≤ cap' ∧ cap' ≤ 9223372036854775807 ∧ Below w.heap.size w w' ∧ Rd .u64 w' ao' m (dig f) ∧ m ≤ 2 * n ∧ (ao' = none → m = 0) ∧ Dg (dig f) m ∧ Fm (dig f) m ∧ vd (dig f) m = vf f n := by
  have HR := hid hr
  have HF := hid hf
  clear hr hf
  obtain ⟨i0, hi, hz0, hz1, hz2⟩ := info_parts Try.infoU64
  go_enter Try.func60, Try.ntmps60
  go_wp2_with (at_make; refine wpList_make_own w rfl (.const (.int .i64 0)) (.tmp 8) 64 rfl w.heap.size 63 i0 (.int .u64 0) 1 Try.underlying64 hi hz0 hz1 .i64 .i64 (2 * (n : Int)) (2 * n) rfl rfl (by omega) (by rw [hz2]; omega) (by unfold maxLen; omega) (Nat.le_refl _) ?_; intro w1 hown1 hgr1)
  have hb1 : Below w.heap.size w w1 := (Below.refl _ _).grown hgr1 (Nat.le_refl _) (fun k h => by cases h)
  have ho1 : Own .u64 63 w1 w.heap.size (.slice (some ⟨w.heap.size, 0, none⟩) 0 (2 * n)) 0 (dig f) := hown1
  clear hown1 hgr1
  have HO1 := hid ho1
  clear ho1
  go_loopw [3, 12] (fun v t wr => ∃ k : Nat, k ≤ n ∧ t = .int .i64 k ∧ Below w.heap.size w wr ∧ Hid (Own .u64 63 wr w.heap.size v (2 * k) (dig f))) (fun _ t _ => n - (intOf t).toNat)
  case atStart => exact ⟨0, by omega, rfl, hb1, HO1.out⟩
  case round =>
    clear hb1 HO1
    obtain ⟨k, hk, rfl, hbel, HO⟩ := hrel
    by_cases hlt : k < n
    · have hr := HR.out
      obtain ⟨b, o, rfl⟩ := hr.at (by omega)
      obtain ⟨x, hx⟩ : ∃ x, f k = x := ⟨_, rfl⟩
      have hcell : wr.cell? ⟨b, o + k, none⟩ = some (.int .u64 x) := by rw [← hx]; exact (hr.below hbel (Nat.le_refl _)).cell hlt
      obtain ⟨x0, x1⟩ := HF.out k hlt
      rw [hx] at x0 x1
      have HX := hid hx
      clear hx hr
      go_wp2_with (at_builtin; refine wpList_append_own_list .u64 _ rfl (.tmp 16) (.tmp 21) 64 rfl w.heap.size 63 8 Try.underlying64 Try.infoU64 _ (2 * k) (dig f) rfl (Own.alloc HO.out _) wr.heap.size 0 2 2 (two32 x) rfl (rd_new2 wr _ x) ?c1 ?c2 ?c3 ?_)
      case c1 => unfold maxLen; omega
      case c2 => omega
      case c3 => have := hbel.size; simp; omega
      intro v' w' hown hgr
      have hown2 : Own .u64 63 w' w.heap.size v' (2 * (k + 1)) (dig f) := (show Own .u64 63 w' w.heap.size v' (2 * k + 2) _ from hown).congr (fun j hj => by rw [← HX.out]; exact dig_cat f k j hj)
      have hbel2 : Below w.heap.size w w' := (hbel.alloc hbel.size _).grown hgr (by have := hbel.size; simp; omega) (fun k h => (Own.ge HO.out k h))
      have HO2 := hid hown2
      clear hown hgr hown2 HO
      go_wp2
      go_roundw
      case rel => exact ⟨k + 1, by omega, by go_num, hbel2, HO2.out⟩
      case measure => simp [intOf]; omega
    · have hkn : k = n := by omega
      subst hkn
      obtain ⟨ao', cap', hv, hcc, hnn, hml, hrd, hlt2⟩ := HO.out.shape
      unfold maxLen at hml
      subst hv
      have HNew := hid (fun a ha => (hlt2 a ha).1)
      clear HO hlt2
      go_wp2_with fail
      refine (low_c ao' (2 * k) cap' (dig f) wr hcc hml hrd hnn).mono ?_
      rintro e w2 ⟨rfl, m, hm, hz, hfm, rfl⟩
      have HZ := hid hz
      have HFM := hid hfm
      clear hz hfm
      go_wp2
      go_ret
      refine ⟨ao', m, cap', rfl, HNew.out, by omega, hml, hbel, hrd.take hm, hm, fun h => ?_, (dig_lm HF.out).mono hm, HFM.out, ?_⟩
      · have := hnn h; omega
      · rw [trim_vald hm HZ.out]; exact dig_val f k

theorem from_c (ao : Option Addr) (n cap : Nat) (f : Nat → Int) (w : World) (hn : n ≤ 1048576) (hr : Rd .u64 w ao n f) (hf : Lm f n) :
    Calls Try.prog 60 #[.slice ao n cap] w fun e w' => ∃ ao' m cap', e = .returned (.slice ao' m cap') ∧ Below w.heap.size w w' ∧ Rd .u64 w' ao' m (dig f) ∧ m ≤ 2 * n ∧ (ao' = none → m = 0) ∧ Dg (dig f) m ∧ Fm (dig f) m ∧ vd (dig f) m = vf f n :=
  (fromNew_c ao n cap f w hn hr hf).mono (fun _ _ ⟨a, m, c, h1, _, _, _, h2⟩ => ⟨a, m, c, h1, h2⟩)

end Go.Proofs.Ytllpllebmknmpaa
namespace Go.Proofs.Ytllpllebmknmpaa
open Go.RowKit

theorem dcmp_step {f g : Nat → Int} {n k : Nat} (hf : Dg f n) (hg : Dg g n) (hk : k < n) (he : ∀ j, k < j → j < n → f j = g j) (hl : f k < g k) : vd f n < vd g n := by
  obtain ⟨d, rfl⟩ := Nat.exists_eq_add_of_le (show k + 1 ≤ n by omega)
  have e : vd (sh f (k + 1)) d = vd (sh g (k + 1)) d := vd_congr (fun j hj => he _ (by omega) (by omega))
  have a := vd_lt (hf.mono (m := k) (by omega)); have b := vd_nonneg (hg.mono (m := k) (by omega))
  have hp : (f k + 1) * pd k ≤ g k * pd k := Int.mul_le_mul_of_nonneg_right (by omega) (Int.le_of_lt (pd_pos k))
  rw [Int.add_mul, Int.one_mul] at hp
  rw [vd_split f (k + 1) d, vd_split g (k + 1) d, e, vd_succ f k, vd_succ g k]
  omega
theorem vd_cat1 (D : Nat → Int) (k : Nat) (x : Int) : vd (cat D k (fun _ => x)) (k + 1) = vd D k + x * pd k := by
  rw [vd_succ, vd_congr (f := cat D k (fun _ => x)) (g := D) (fun j hj => cat_in hj), cat_out (Nat.le_refl _)]
theorem dg_cat1 {D : Nat → Int} {k : Nat} {x : Int} (h : Dg D k) (hx : 0 ≤ x ∧ x < 4294967296) : Dg (cat D k (fun _ => x)) (k + 1) := fun j hj => by
  by_cases h1 : j < k
  · rw [cat_in h1]; exact h j h1
  · rw [cat_out (by omega)]; exact hx
theorem dborrow_step {D F G : Nat → Int} {k : Nat} {cc x y v c' : Int} (HV : vd D k - cc * pd k = vd F k - vd G k) (hx : F k = x) (hy : G k = y) (hv : v = x - (cc + y) + 4294967296 * c') :
    vd (cat D k (fun _ => v)) (k + 1) - c' * pd (k + 1) = vd F (k + 1) - vd G (k + 1) := by
  rw [vd_cat1, vd_succ, vd_succ, pd_succ, hx, hy, hv]
  grind

set_option maxHeartbeats 800000 in
theorem rcmp_c (ao bo : Option Addr) (n m ca cb : Nat) (f g : Nat → Int) (w : World) (hm : n ≤ 140737488355328) (hm' : m ≤ 140737488355328)
    (hr : Rd .u64 w ao n f) (hs : Rd .u64 w bo m g) (hf : Dg f n) (hg : Dg g m) (ff : Fm f n) (fg : Fm g m) :
    Calls Try.prog 69 #[.slice ao n ca, .slice bo m cb] w fun e w' => (∃ q, w' = w.drewN q) ∧ ∃ c, e = .returned (.int .i64 c) ∧ Ord c (vd f n) (vd g m) := by
  have FF := hid ff
  have FG := hid fg
  have HF := hid hf
  have HG := hid hg
  clear ff fg hf hg
  rcases Nat.lt_trichotomy n m with hlt | heq | hlt
  · have h1 : ((n : Int) != m) = true := by simp; omega
    have h2 : decide ((n : Int) < m) = true := by simp; omega
    have h3 : vd f n < vd g m := by
      apply Int.lt_of_not_ge; intro h
      have := vd_len HG.out HF.out FG.out h; omega
    have H3 := hid h3
    clear h3
    go_enter Try.func69, Try.ntmps69
    go_wp2
    go_ret
    exact ⟨⟨0, rfl⟩, -1, rfl, .inl ⟨rfl, H3.out⟩⟩
  · subst heq
    have h1 : ((n : Int) != n) = false := by simp
    go_enter Try.func69, Try.ntmps69
    go_wp2
    go_loopw [5] (fun t wr => ∃ i : Nat, i ≤ n ∧ t = .int .i64 ((i : Int) - 1) ∧ Hid (∀ j, i ≤ j → j < n → f j = g j) ∧ ∃ q, wr = w.drewN q) (fun t _ => ((intOf t) + 1).toNat)
    case atStart => exact ⟨n, by omega, rfl, fun j h1 h2 => by omega, 0, rfl⟩
    case round =>
      obtain ⟨i, hin, rfl, HE, q, rfl⟩ := hrel
      by_cases hlt : 0 < i
      · obtain ⟨b, o, rfl⟩ := hr.at (by omega)
        obtain ⟨b', o', rfl⟩ := hs.at (by omega)
        obtain ⟨x, hx⟩ : ∃ x, f (i - 1) = x := ⟨_, rfl⟩
        obtain ⟨y, hy⟩ : ∃ y, g (i - 1) = y := ⟨_, rfl⟩
        have hca : w.cell? ⟨b, o + (i - 1), none⟩ = some (.int .u64 x) := by rw [← hx]; exact hr.cell (by omega)
        have hcb : w.cell? ⟨b', o' + (i - 1), none⟩ = some (.int .u64 y) := by rw [← hy]; exact hs.cell (by omega)
        have HX := hid hx
        have HY := hid hy
        clear hx hy hr hs
        rcases Int.lt_trichotomy x y with hl | hxy | hl
        · have hd : decide (x < y) = true := by simp [hl]
          go_wp2
          go_quiet (fail)
          go_wp2
          go_ret
          refine ⟨⟨_, by (repeat rw [World.drewN_drewN]) <;> rfl⟩, -1, rfl, .inl ⟨rfl, dcmp_step HF.out HG.out (k := i - 1) (by omega) (fun j h1 h2 => HE.out j (by omega) h2) (by rw [HX.out, HY.out]; exact hl)⟩⟩
        · subst hxy
          have hd : decide (x < x) = false := by simp
          go_wp2
          go_quiet (fail)
          go_wp2
          go_quiet (fail)
          go_wp2
          go_roundw
          case rel =>
            refine ⟨i - 1, by omega, by go_num, fun j h1 h2 => ?_, _, by (repeat rw [World.drewN_drewN]) <;> rfl⟩
            by_cases hj : j = i - 1
            · rw [hj]; exact HX.out.trans HY.out.symm
            · exact HE.out j (by omega) h2
          case measure => simp [intOf]; omega
        · have hd : decide (x < y) = false := by simp; omega
          have hd2 : decide (y < x) = true := by simp [hl]
          go_wp2
          go_quiet (fail)
          go_wp2
          go_quiet (fail)
          go_wp2
          go_ret
          refine ⟨⟨_, by (repeat rw [World.drewN_drewN]) <;> rfl⟩, 1, rfl, .inr (.inr ⟨rfl, dcmp_step HG.out HF.out (k := i - 1) (by omega) (fun j h1 h2 => (HE.out j (by omega) h2).symm) (by rw [HX.out, HY.out]; omega)⟩)⟩
      · have hi : i = 0 := by omega
        subst hi
        go_wp2
        go_ret
        exact ⟨⟨_, rfl⟩, 0, rfl, .inr (.inl ⟨rfl, vd_congr (fun j hj => HE.out j (by omega) hj)⟩)⟩
  · have h1 : ((n : Int) != m) = true := by simp; omega
    have h2 : decide ((n : Int) < m) = false := by simp; omega
    have h3 : vd g m < vd f n := by
      apply Int.lt_of_not_ge; intro h
      have := vd_len HF.out HG.out FF.out h; omega
    have H3 := hid h3
    clear h3
    go_enter Try.func69, Try.ntmps69
    go_wp2
    go_ret
    exact ⟨⟨0, rfl⟩, 1, rfl, .inr (.inr ⟨rfl, H3.out⟩)⟩

end Go.Proofs.Ytllpllebmknmpaa
namespace Go.Proofs.Ytllpllebmknmpaa
open Go.RowKit

theorem vd_cons (f : Nat → Int) (m i : Nat) : vd (sh f m) (i + 1) = f m + 4294967296 * vd (sh f (m + 1)) i := by
  rw [Nat.add_comm i 1, vd_split (sh f m) 1 i, sh_sh]
  have e1 : vd (sh f m) 1 = f m := by simp [vd, pd, sh]
  have e2 : pd 1 = 4294967296 := by simp [pd]
  rw [e1, e2]; omega
end Go.Proofs.Ytllpllebmknmpaa
namespace Go.Proofs.Ytllpllebmknmpaa
open Go.RowKit

set_option maxRecDepth 100000 in
set_option maxHeartbeats 2000000 in
/-- Sub: the difference, on digits. -/
theorem rsubO_c (ao bo : Option Addr) (n m ca cb : Nat) (f h : Nat → Int) (w : World) (hn : n ≤ 1048576) (hm : m ≤ 1048576) (hmn : m ≤ n) (hr : Rd .u64 w ao n f) (hs : Rd .u64 w bo m h) (hf : Dg f n) (hh : Dg h m) (hle : vd h m ≤ vd f n) :
    Calls Try.prog 70 #[.slice ao n ca, .slice bo m cb] w fun e w' => ∃ ao' k cap' D, e = .returned (.slice ao' k cap') ∧ Below w.heap.size w w' ∧ Rd .u64 w' ao' k D ∧ k ≤ n ∧ Dg D k ∧ Fm D k ∧ (∀ a, ao' = some a → w.heap.size ≤ a.block) ∧ vd D k = vd f n - vd h m := by
  obtain ⟨i0, hi, hz0, hz1, hz2⟩ := info_parts Try.infoU64
  have RA := hid hr
  have RB := hid hs
  have DA := hid hf
  have DB := hid hh
  have HLe := hid hle
  clear hr hs hf hh hle
  go_enter Try.func70, Try.ntmps70
  go_wp2_with (at_make; refine wpList_make_own w rfl (.const (.int .i64 0)) (.tmp 11) 64 rfl w.heap.size 63 i0 (.int .u64 0) 1 Try.underlying64 hi hz0 hz1 .i64 .i64 n n rfl rfl (by omega) (by rw [hz2]; omega) (by unfold maxLen; omega) (Nat.le_refl _) ?_; intro w1 hown1 hgr1)
  have hb1 : Below w.heap.size w w1 := (Below.refl _ _).grown hgr1 (Nat.le_refl _) (fun k h => by cases h)
  have HO1 := hid (show Own .u64 63 w1 w.heap.size (.slice (some ⟨w.heap.size, 0, none⟩) 0 n) 0 (fun _ => 0) from hown1)
  clear hown1 hgr1
  go_loopw [5, 6, 15] (fun v c t wr => ∃ (k : Nat) (cc : Int) (D : Nat → Int), k ≤ n ∧ t = .int .i64 k ∧ c = .int .u64 cc ∧ 0 ≤ cc ∧ cc ≤ 1 ∧ Below w.heap.size w wr ∧ Hid (Own .u64 63 wr w.heap.size v k D) ∧ Hid (Dg D k) ∧ Hid (vd D k - cc * pd k = vd f k - vd (ext h m) k)) (fun _ _ t _ => n - (intOf t).toNat)
  case atStart => exact ⟨0, 0, fun _ => 0, by omega, rfl, rfl, by omega, by omega, hb1, HO1.out, fun j hj => by omega, by simp [Hid, vd, pd]⟩
  case round =>
    clear hb1 HO1
    obtain ⟨k, cc, D, hk, rfl, rfl, c0, c1, hbel, HO, HDg, HV⟩ := hrel
    by_cases hlt : k < n
    · have hrA := RA.out
      obtain ⟨b, o, rfl⟩ := hrA.at (by omega)
      obtain ⟨x, hx⟩ : ∃ x, f k = x := ⟨_, rfl⟩
      have hcell : wr.cell? ⟨b, o + k, none⟩ = some (.int .u64 x) := by rw [← hx]; exact (hrA.below hbel (Nat.le_refl _)).cell hlt
      obtain ⟨x0, x1⟩ := DA.out k hlt
      rw [hx] at x0 x1
      have HX := hid hx
      clear hx hrA
      by_cases hlt2 : k < m
      · have hrB := RB.out
        obtain ⟨b', o', rfl⟩ := hrB.at (by omega)
        obtain ⟨y, hy⟩ : ∃ y, h k = y := ⟨_, rfl⟩
        have hcelb : wr.cell? ⟨b', o' + k, none⟩ = some (.int .u64 y) := by rw [← hy]; exact (hrB.below hbel (Nat.le_refl _)).cell hlt2
        obtain ⟨y0, y1⟩ := DB.out k hlt2
        rw [hy] at y0 y1
        have HY := hid (show ext h m k = y from (ext_in _ _ _ hlt2).trans hy)
        clear hy hrB
        by_cases hxy : x < cc + y
        · go_wp2_with (at_builtin; refine wpList_append_own_list .u64 _ rfl (.tmp 36) (.tmp 40) 64 rfl w.heap.size 63 8 Try.underlying64 Try.infoU64 _ k D rfl (Own.alloc HO.out _) wr.heap.size 0 1 1 (fun _ => x + 4294967296 - (cc + y)) rfl (rd_new1 wr _ _) ?c1 ?c2 ?c3 ?_)
          case c1 => unfold maxLen; omega
          case c2 => omega
          case c3 => have := hbel.size; simp; omega
          intro v' w' hown hgr
          have hbel2 : Below w.heap.size w w' := (hbel.alloc hbel.size _).grown hgr (by have := hbel.size; simp; omega) (fun k h => (Own.ge HO.out k h))
          have HO2 := hid hown
          clear hown hgr HO
          go_wp2
          go_roundw
          case rel => exact ⟨k + 1, 1, _, by omega, by go_num, rfl, by omega, by omega, hbel2, HO2.out, dg_cat1 HDg.out (by omega), dborrow_step HV.out HX.out HY.out (by omega)⟩
          case measure => simp [intOf]; omega
        · go_wp2_with (at_builtin; refine wpList_append_own_list .u64 _ rfl (.tmp 36) (.tmp 40) 64 rfl w.heap.size 63 8 Try.underlying64 Try.infoU64 _ k D rfl (Own.alloc HO.out _) wr.heap.size 0 1 1 (fun _ => x - (cc + y)) rfl (rd_new1 wr _ _) ?c1 ?c2 ?c3 ?_)
          case c1 => unfold maxLen; omega
          case c2 => omega
          case c3 => have := hbel.size; simp; omega
          intro v' w' hown hgr
          have hbel2 : Below w.heap.size w w' := (hbel.alloc hbel.size _).grown hgr (by have := hbel.size; simp; omega) (fun k h => (Own.ge HO.out k h))
          have HO2 := hid hown
          clear hown hgr HO
          go_wp2
          go_roundw
          case rel => exact ⟨k + 1, 0, _, by omega, by go_num, rfl, by omega, by omega, hbel2, HO2.out, dg_cat1 HDg.out (by omega), dborrow_step HV.out HX.out HY.out (by omega)⟩
          case measure => simp [intOf]; omega
      · have HY := hid (show ext h m k = 0 from ext_out _ _ _ (by omega))
        by_cases hxy : x < cc
        · go_wp2_with (at_builtin; refine wpList_append_own_list .u64 _ rfl (.tmp 36) (.tmp 40) 64 rfl w.heap.size 63 8 Try.underlying64 Try.infoU64 _ k D rfl (Own.alloc HO.out _) wr.heap.size 0 1 1 (fun _ => x + 4294967296 - cc) rfl (rd_new1 wr _ _) ?c1 ?c2 ?c3 ?_)
          case c1 => unfold maxLen; omega
          case c2 => omega
          case c3 => have := hbel.size; simp; omega
          intro v' w' hown hgr
          have hbel2 : Below w.heap.size w w' := (hbel.alloc hbel.size _).grown hgr (by have := hbel.size; simp; omega) (fun k h => (Own.ge HO.out k h))
          have HO2 := hid hown
          clear hown hgr HO
          go_wp2
          go_roundw
          case rel => exact ⟨k + 1, 1, _, by omega, by go_num, rfl, by omega, by omega, hbel2, HO2.out, dg_cat1 HDg.out (by omega), dborrow_step HV.out HX.out HY.out (by omega)⟩
          case measure => simp [intOf]; omega
        · go_wp2_with (at_builtin; refine wpList_append_own_list .u64 _ rfl (.tmp 36) (.tmp 40) 64 rfl w.heap.size 63 8 Try.underlying64 Try.infoU64 _ k D rfl (Own.alloc HO.out _) wr.heap.size 0 1 1 (fun _ => x - cc) rfl (rd_new1 wr _ _) ?c1 ?c2 ?c3 ?_)
          case c1 => unfold maxLen; omega
          case c2 => omega
          case c3 => have := hbel.size; simp; omega
          intro v' w' hown hgr
          have hbel2 : Below w.heap.size w w' := (hbel.alloc hbel.size _).grown hgr (by have := hbel.size; simp; omega) (fun k h => (Own.ge HO.out k h))
          have HO2 := hid hown
          clear hown hgr HO
          go_wp2
          go_roundw
          case rel => exact ⟨k + 1, 0, _, by omega, by go_num, rfl, by omega, by omega, hbel2, HO2.out, dg_cat1 HDg.out (by omega), dborrow_step HV.out HX.out HY.out (by omega)⟩
          case measure => simp [intOf]; omega
    · have hkn : k = n := by omega
      subst hkn
      obtain ⟨ao', cap', hv, hcc, hnn, hml, hrd, hlt3⟩ := HO.out.shape
      unfold maxLen at hml
      subst hv
      have HLT := hid hlt3
      clear HO hlt3
      go_wp2_with fail
      refine (low_c ao' k cap' D wr hcc hml hrd hnn).mono ?_
      rintro e w2 ⟨rfl, m', hm1, hz, hfm, rfl⟩
      have HZ := hid hz
      have HFM := hid hfm
      clear hz hfm
      go_wp2
      go_ret
      refine ⟨ao', m', cap', _, rfl, hbel, hrd.take hm1, by omega, HDg.out.mono hm1, HFM.out, fun a ha => (HLT.out a ha).1, ?_⟩
      have hv := HV.out
      have h1 := vd_lt HDg.out
      have h2 := HLe.out
      rw [vd_ext_list _ _ _ hmn] at hv
      rw [trim_vald hm1 HZ.out]
      by_cases hc : cc = 0
      · subst hc; simpa using hv
      · obtain rfl : cc = 1 := by omega
        omega

end Go.Proofs.Ytllpllebmknmpaa
namespace Go.Proofs.Ytllpllebmknmpaa
open Go.RowKit

theorem kDb {w w' x n d V} (hb : Below w.heap.size w w') (h : Dn w x n d V) : Dn w' x n d V := h.below hb
end Go.Proofs.Ytllpllebmknmpaa
namespace Go.Proofs.Ytllpllebmknmpaa
open Go.RowKit

def lg (n m k : Nat) : Bool := decide (n ≤ k) && decide (m ≤ k)
end Go.Proofs.Ytllpllebmknmpaa
namespace Go.Proofs.Ytllpllebmknmpaa
open Go.RowKit

theorem rLightK_c (K : Nat) (s : Bool) (x y : Option Addr) (n c m d : Nat) (w : World) :
    Calls Try.prog 31 #[.agg #[.bool s, .slice x n c, .slice y m d], .int .i64 K] w fun e w' => e = .returned (.bool (lg n m K)) ∧ Below w.heap.size w w' := by
  by_cases h1 : n ≤ K
  · have d1 : decide ((n : Int) ≤ (K : Int)) = true := by simp; omega
    by_cases h2 : m ≤ K
    · have d2 : decide ((m : Int) ≤ (K : Int)) = true := by simp; omega
      rw [show lg n m K = true by simp [lg, h1, h2]]
      go_enter Try.func31, Try.ntmps31
      go_wp2
      go_ret
      exact ⟨rfl, below_alloc (Below.refl _ _) _⟩
    · have d2 : decide ((m : Int) ≤ (K : Int)) = false := by simp; omega
      rw [show lg n m K = false by simp [lg, h2]]
      go_enter Try.func31, Try.ntmps31
      go_wp2
      go_ret
      exact ⟨rfl, below_alloc (Below.refl _ _) _⟩
  · have d1 : decide ((n : Int) ≤ (K : Int)) = false := by simp; omega
    rw [show lg n m K = false by simp [lg, h1]]
    go_enter Try.func31, Try.ntmps31
    go_wp2
    go_ret
    exact ⟨rfl, below_alloc (Below.refl _ _) _⟩

def Rr (w : World) (ao : Option Addr) (k : Nat) (X : Nat → Nm) : Prop :=
  ∀ j, j < k → ∃ b o, ao = some ⟨b, o, none⟩ ∧ C3 w b (o + j * 3) (.bool (X j).s) (.slice (X j).x (X j).n (X j).c) (.slice (X j).y (X j).m (X j).d) ∧ Rw w (X j).x (X j).n (X j).c (X j).f (X j).y (X j).m (X j).d (X j).g
theorem Rr.below {w w' ao k X} (h : Rr w ao k X) (hb : Below w.heap.size w w') : Rr w' ao k X := fun j hj => by
  obtain ⟨b, o, e, h1, h2⟩ := h j hj
  exact ⟨b, o, e, h1.below hb, h2.below hb⟩
/-- All numbers from number i on have at most K limbs. -/
def nlg (K : Nat) (X : Nat → Nm) : Nat → Nat → Bool
  | 0, _ => true
  | r + 1, i => lg (X i).n (X i).m K && nlg K X r (i + 1)
theorem nlg_all {K : Nat} {X : Nat → Nm} : ∀ {r i : Nat}, nlg K X r i = true → ∀ j, i ≤ j → j < i + r → (X j).n ≤ K ∧ (X j).m ≤ K := by
  intro r
  induction r with
  | zero => intro i _ j h1 h2; omega
  | succ r ih =>
    intro i h j hj hj2
    simp only [nlg, lg, Bool.and_eq_true, decide_eq_true_eq] at h
    by_cases e : j = i
    · subst e; exact h.1
    · exact ih h.2 j (by omega) (by omega)
theorem Rr.rl {w ao k X} {K : Nat} (h : Rr w ao k X) (hl : nlg K X k 0 = true) (hK : K ≤ 65536) : Rl w ao k X := fun j hj => by
  obtain ⟨b, o, e, h1, h2⟩ := h j hj
  obtain ⟨h3, h4⟩ := nlg_all hl j (by omega) (by omega)
  exact ⟨b, o, e, h1, h2, by omega, by omega⟩

set_option maxRecDepth 100000 in
set_option maxHeartbeats 4000000 in
theorem rLights_c {w : World} {ao : Option Addr} {k cap : Nat} {X : Nat → Nm} (K : Nat) (h : Rr w ao k X) (hk : k ≤ 9223372036854775807) :
    Calls Try.prog 12 #[.slice ao k cap, .int .i64 K] w fun e w' => e = .returned (.bool (decide (k ≤ 300) && nlg K X k 0)) ∧ Below w.heap.size w w' := by
  have H := hid h
  clear h
  by_cases h300 : k ≤ 300
  · have i0 : ¬ ((300 : Int) < ((k : Nat) : Int)) := by omega
    rw [show (decide (k ≤ 300) && nlg K X k 0) = nlg K X k 0 by simp [h300]]
    go_enter Try.func12, Try.ntmps12
    go_wp2_with fail
    go_loopw [12] (fun t wr => ∃ (i : Nat), i ≤ k ∧ t = .int .i64 i ∧ Hid (Below w.heap.size w wr) ∧ Hid (nlg K X k 0 = nlg K X (k - i) i)) (fun t _ => k - (intOf t).toNat)
    case atStart => exact ⟨0, by omega, rfl, Below.refl _ _, rfl⟩
    case round =>
      obtain ⟨i, hi, rfl, HB, HT⟩ := hrel
      by_cases hlt : i < k
      · obtain ⟨b, o, rfl, hc, hn⟩ := (H.out.below HB.out) i hlt
        obtain ⟨r, hr⟩ : ∃ r, k - i = r + 1 := ⟨k - i - 1, by omega⟩
        have hT : nlg K X k 0 = (lg (X i).n (X i).m K && nlg K X r (i + 1)) := by rw [HT.out, hr]; rfl
        have hr2 : k - (i + 1) = r := by omega
        obtain ⟨⟨s, x, n, c, f, y, m, d, g⟩, hTi⟩ : ∃ t, X i = t := ⟨_, rfl⟩
        rw [hTi] at hc hn hT
        obtain ⟨x0, x1, x2⟩ := hc
        replace x0 : wr.cell? ⟨b, o + i * 3, none⟩ = some (.bool s) := x0
        replace x1 : wr.cell? ⟨b, o + i * 3 + 1, none⟩ = some (.slice x n c) := x1
        replace x2 : wr.cell? ⟨b, o + i * 3 + 2, none⟩ = some (.slice y m d) := x2
        have HTi := hid hT; have HR2 := hid hr2
        have i1 : ((i : Nat) : Int) < ((k : Nat) : Int) := by omega
        clear hT hr2 hTi hr hn
        go_wp2_with fail
        refine (rLightK_c K s x y n c m d _).mono ?_
        rintro e w1 ⟨rfl, hb1⟩
        obtain ⟨_, _, _, _, hb2⟩ := box3 hb1
        have HB2 := hid (HB.out.trans (hb2.mono HB.out.size))
        clear hb1 hb2
        cases hf : lg n m K
        · have HF := hid hf
          clear hf
          go_wp2
          go_ret
          refine ⟨?_, HB2.out⟩
          rw [HTi.out]
          show _ = Ending.returned (.bool (lg n m K && _))
          rw [HF.out]; rfl
        · have HF := hid hf
          clear hf
          go_wp2
          go_roundw
          case rel =>
            refine ⟨i + 1, by omega, by go_num, HB2.out, ?_⟩
            show _ = _
            rw [HTi.out, HR2.out]
            show (lg n m K && _) = _
            rw [HF.out]; rfl
          case measure => simp [intOf]; omega
      · have e1 : i = k := by omega
        have HTe : Hid (nlg K X k 0 = true) := by
          show _ = _
          rw [HT.out, e1, Nat.sub_self]; rfl
        have i2 : ¬ (((i : Nat) : Int) < ((k : Nat) : Int)) := by omega
        clear e1 HT
        go_wp2
        go_ret
        refine ⟨?_, HB.out⟩
        rw [HTe.out]; rfl
  · have i0 : (300 : Int) < ((k : Nat) : Int) := by omega
    rw [show (decide (k ≤ 300) && nlg K X k 0) = false by simp [h300]]
    go_enter Try.func12, Try.ntmps12
    go_wp2
    go_ret
    exact ⟨rfl, Below.refl _ _⟩

end Go.Proofs.Ytllpllebmknmpaa
namespace Go.Proofs.Ytllpllebmknmpaa
open Go.ChangeShapes Go.WideShapes Go.ChangeAt Go.RowKit

theorem Try.laidOut : laidOutB Try.prog = true := by kernel_rfl
theorem Try.cellsU64 : Try.prog.cellsOf 63 = 1 := by kernel_rfl
theorem Try.cellsR : Try.prog.cellsOf 66 = 3 := by kernel_rfl
set_option maxRecDepth 100000 in
/-- A list of limbs inside an argument. -/
theorem viewL {H : Type} {enc : TypeId × Value → H} {W : World} {fuel : Nat} {v : Value} {x : DataW H × List MemPlace} (h : DataW.trod enc Try.prog W 0 (fun _ => true) true fuel 64 [v] = some x) :
    ∃ ao n cap f, v = .slice ao n cap ∧ Rd .u64 W ao n f ∧ Lm f n ∧ (ao = none → n = 0 ∧ cap = 0) ∧ n ≤ cap ∧ cap ≤ 9223372036854775807 := by
  rcases open_ints Try.underlying64 Try.underlying63 Try.cellsU64 h with ⟨hcs, hx⟩ | ⟨a, len', cap', zs, hcs, _, hl, hm, hz, hx, hcell, hwz⟩
  · simp at hcs
    subst hcs
    exact ⟨none, 0, 0, fun _ => 0, rfl, Rd.zero, fun j hj => by omega, fun _ => ⟨rfl, rfl⟩, by omega, by omega⟩
  · simp at hcs
    subst hcs
    simp only [if_true] at hz
    refine ⟨some a, len', cap', fun j => zs.getD j 0, rfl, fun j hj => ?_, fun j hj => ?_, (fun h => by cases h), hl, by unfold maxLen at hm; omega⟩
    · obtain ⟨b, off, spot⟩ := a
      have hspot : spot = none := by simpa [Addr.add] using World.cell?_spot (hcell 0 (by omega))
      subst hspot
      exact ⟨b, off, rfl, by have := hcell j (by omega); rwa [addr_add] at this⟩
    · have hmem : zs.getD j 0 ∈ zs := by
        rw [List.getD_eq_getElem?_getD, List.getElem?_eq_getElem (by omega)]
        exact List.getElem_mem _
      have := bounds_u64 (hwz _ hmem)
      show 0 ≤ zs.getD j 0 ∧ zs.getD j 0 < 18446744073709551616
      omega
/-- A struct of three fields, of two: each is read by itself. -/
theorem fields3 {H : Type} {enc : TypeId × Value → H} {P : Program} {w : World} {base : Nat} {spare : Nat → Bool} {held : Bool} {t : TypeId} {f0 f1 f2 : Field} {fuel : Nat} {cs : List Value} {x : DataW H × List MemPlace} (ht : P.underlying t = some (.struct #[f0, f1, f2])) (h : DataW.trod enc P w base spare held fuel t cs = some x) :
    ∃ y0 y1 y2 k, DataW.trod enc P w base spare held k f0.type ((cs.drop f0.offset).take (P.cellsOf f0.type)) = some y0 ∧ DataW.trod enc P w base spare held k f1.type ((cs.drop f1.offset).take (P.cellsOf f1.type)) = some y1 ∧ DataW.trod enc P w base spare held k f2.type ((cs.drop f2.offset).take (P.cellsOf f2.type)) = some y2 := by
  obtain ⟨ys, k, _, rfl, _, hlen, hf⟩ := DataW.trod_struct ht h
  match ys, hlen with
  | [y0, y1, y2], _ => exact ⟨y0, y1, y2, k, by simpa using hf 0 f0 rfl, by simpa using hf 1 f1 rfl, by simpa using hf 2 f2 rfl⟩
set_option maxRecDepth 100000 in
/-- Three cells that are a rational number. -/
theorem viewRc {H : Type} {enc : TypeId × Value → H} {W : World} {k : Nat} {c0 c1 c2 : Value} {z : DataW H × List MemPlace} (hf : DataW.trod enc Try.prog W 0 (fun _ => true) true k 66 [c0, c1, c2] = some z) :
    ∃ s x n c f y m b g, c0 = .bool s ∧ c1 = .slice x n c ∧ c2 = .slice y m b ∧ Rw W x n c f y m b g := by
  obtain ⟨y0, y1, y2, k, h0, h1, h2⟩ := fields3 Try.underlying66 hf
  have h0' : DataW.trod enc Try.prog W 0 (fun _ => true) true k 4 [c0] = some y0 := h0
  have h1' : DataW.trod enc Try.prog W 0 (fun _ => true) true k 64 [c1] = some y1 := h1
  have h2' : DataW.trod enc Try.prog W 0 (fun _ => true) true k 64 [c2] = some y2 := h2
  obtain ⟨s, hs, _⟩ := DataW.trod_bool Try.underlying4 h0'
  obtain ⟨ao, n, cap, f, rfl, hr, hlm, hnil, hc⟩ := viewL h1'
  obtain ⟨bo, m, cap', g, rfl, hr', hlm', hnil', hc'⟩ := viewL h2'
  simp at hs
  exact ⟨s, ao, n, cap, f, bo, m, cap', g, hs, rfl, rfl, hr, hlm, hc, hnil, hr', hlm', hc', hnil'⟩
/-- Cells in a row, each by itself. -/
theorem cells_at {w : World} {base n : Nat} {a : Addr} {cs : List Value} (h : w.cells? base a n = some cs) : cs.length = n ∧ ∀ i u, cs[i]? = some u → w.cell? (a.add i) = some u := by
  obtain ⟨_, h1, h2⟩ := World.cells?_some h
  refine ⟨h1, fun i u hi => ?_⟩
  have hlt : i < n := by rw [← h1]; exact (List.getElem?_eq_some_iff.1 hi).1
  rw [← hi]; exact h2 i hlt
theorem addr_add2 (a : Addr) (j i : Nat) : (a.add j).add i = a.add (j + i) := by
  obtain ⟨b, o, s⟩ := a
  by_cases hj : j = 0
  · subst hj; by_cases hi : i = 0
    · subst hi; simp [Addr.add]
    · simp [Addr.add, hi]
  · by_cases hi : i = 0
    · subst hi; simp [Addr.add, hj]
    · simp [Addr.add, hi, hj, Nat.add_assoc]
end Go.Proofs.Ytllpllebmknmpaa
namespace Go.Proofs.Ytllpllebmknmpaa
open Go.RowKit

def lstep (l e : Int) : Int := if l = 0 ∨ e ≠ 0 ∧ e < l then e else l
/-- The least of the first i errors. -/
def lsf (E : Nat → Int) : Nat → Int
  | 0 => 0
  | i + 1 => lstep (lsf E i) (E i)
def El (w : World) (ao : Option Addr) (k : Nat) (E : Nat → Int) : Prop := ∀ j, j < k → ∃ b o, ao = some ⟨b, o, none⟩ ∧ w.cell? ⟨b, o + j, none⟩ = some (.int .i64 (E j))
set_option maxRecDepth 100000 in
set_option maxHeartbeats 2000000 in
theorem least_c {w : World} {ao : Option Addr} {k cap : Nat} {E : Nat → Int} (h : El w ao k E) (hk : k ≤ 1048576) :
    Calls Try.prog 42 #[.slice ao k cap] w fun e w' => e = .returned (.int .i64 (lsf E k)) ∧ w' = w := by
  have H := hid h
  clear h
  go_enter Try.func42, Try.ntmps42
  go_wp2_with fail
  go_loopw [3, 8] (fun l t wr => ∃ (i : Nat) (v : Int), i ≤ k ∧ t = .int .i64 i ∧ l = .int .i64 v ∧ wr = w ∧ Hid (lsf E i = v)) (fun _ t _ => k - (intOf t).toNat)
  case atStart => exact ⟨0, 0, by omega, rfl, rfl, rfl, rfl⟩
  case round =>
    obtain ⟨i, v, hi, rfl, rfl, rfl, HI⟩ := hrel
    by_cases hlt : i < k
    · obtain ⟨b, o, rfl, hc⟩ := H.out i hlt
      obtain ⟨e, he⟩ : ∃ e, E i = e := ⟨_, rfl⟩
      have hT : lsf E (i + 1) = lstep v e := by show lstep (lsf E i) (E i) = _; rw [HI.out, he]
      rw [he] at hc
      have i1 : ((i : Nat) : Int) < ((k : Nat) : Int) := by omega
      clear he
      by_cases h0 : v = 0
      · subst h0
        have HT := hid (show lsf E (i + 1) = e from by rw [hT]; simp [lstep])
        clear hT
        go_wp2
        go_roundw
        case rel => exact ⟨i + 1, e, by omega, by go_num, rfl, trivial, HT.out⟩
        case measure => simp [intOf]; omega
      · have e0 : (v == 0) = false := by simpa using h0
        by_cases h1 : e = 0
        · subst h1
          have HT := hid (show lsf E (i + 1) = v from by rw [hT]; simp [lstep, h0])
          clear hT
          go_wp2
          go_roundw
          case rel => exact ⟨i + 1, v, by omega, by go_num, rfl, trivial, HT.out⟩
          case measure => simp [intOf]; omega
        · have e2 : (e != 0) = true := by simp [h1]
          by_cases h2 : e < v
          · have HT := hid (show lsf E (i + 1) = e from by rw [hT]; simp [lstep, h1, h2])
            clear hT
            go_wp2
            go_roundw
            case rel => exact ⟨i + 1, e, by omega, by go_num, rfl, trivial, HT.out⟩
            case measure => simp [intOf]; omega
          · have HT := hid (show lsf E (i + 1) = v from by rw [hT]; simp [lstep, h0, h2])
            clear hT
            go_wp2
            go_roundw
            case rel => exact ⟨i + 1, v, by omega, by go_num, rfl, trivial, HT.out⟩
            case measure => simp [intOf]; omega
    · have e1 : i = k := by omega
      have i2 : ¬ (((i : Nat) : Int) < ((k : Nat) : Int)) := by omega
      rw [e1] at HI
      clear e1
      go_wp2
      go_ret
      refine ⟨?_, rfl⟩
      rw [HI.out]; rfl
set_option maxRecDepth 100000 in
set_option maxHeartbeats 2000000 in
theorem fLeast_c {w : World} {ao : Option Addr} {k cap : Nat} {E : Nat → Int} (h : El w ao k E) (hk : k ≤ 1048576) :
    Calls Try.prog 20 #[.slice ao k cap] w fun e w' => e = .returned (.int .i64 (lsf E k)) ∧ w' = w := by
  have H := hid h
  clear h
  go_enter Try.func20, Try.ntmps20
  go_wp2_with fail
  go_loopw [3, 8] (fun l t wr => ∃ (i : Nat) (v : Int), i ≤ k ∧ t = .int .i64 i ∧ l = .int .i64 v ∧ wr = w ∧ Hid (lsf E i = v)) (fun _ t _ => k - (intOf t).toNat)
  case atStart => exact ⟨0, 0, by omega, rfl, rfl, rfl, rfl⟩
  case round =>
    obtain ⟨i, v, hi, rfl, rfl, rfl, HI⟩ := hrel
    by_cases hlt : i < k
    · obtain ⟨b, o, rfl, hc⟩ := H.out i hlt
      obtain ⟨e, he⟩ : ∃ e, E i = e := ⟨_, rfl⟩
      have hT : lsf E (i + 1) = lstep v e := by show lstep (lsf E i) (E i) = _; rw [HI.out, he]
      rw [he] at hc
      have i1 : ((i : Nat) : Int) < ((k : Nat) : Int) := by omega
      clear he
      by_cases h0 : v = 0
      · subst h0
        have HT := hid (show lsf E (i + 1) = e from by rw [hT]; simp [lstep])
        clear hT
        by_cases h9 : e = 0
        · subst h9
          go_wp2
          go_roundw
          case rel => exact ⟨i + 1, 0, by omega, by go_num, rfl, trivial, HT.out⟩
          case measure => simp [intOf]; omega
        · have e9 : (e != 0) = true := by simp [h9]
          go_wp2
          go_roundw
          case rel => exact ⟨i + 1, e, by omega, by go_num, rfl, trivial, HT.out⟩
          case measure => simp [intOf]; omega
      · have e0 : (v == 0) = false := by simpa using h0
        by_cases h1 : e = 0
        · subst h1
          have HT := hid (show lsf E (i + 1) = v from by rw [hT]; simp [lstep, h0])
          clear hT
          go_wp2
          go_roundw
          case rel => exact ⟨i + 1, v, by omega, by go_num, rfl, trivial, HT.out⟩
          case measure => simp [intOf]; omega
        · have e2 : (e != 0) = true := by simp [h1]
          by_cases h2 : e < v
          · have HT := hid (show lsf E (i + 1) = e from by rw [hT]; simp [lstep, h1, h2])
            clear hT
            go_wp2
            go_roundw
            case rel => exact ⟨i + 1, e, by omega, by go_num, rfl, trivial, HT.out⟩
            case measure => simp [intOf]; omega
          · have HT := hid (show lsf E (i + 1) = v from by rw [hT]; simp [lstep, h0, h2])
            clear hT
            go_wp2
            go_roundw
            case rel => exact ⟨i + 1, v, by omega, by go_num, rfl, trivial, HT.out⟩
            case measure => simp [intOf]; omega
    · have e1 : i = k := by omega
      have i2 : ¬ (((i : Nat) : Int) < ((k : Nat) : Int)) := by omega
      rw [e1] at HI
      clear e1
      go_wp2
      go_ret
      refine ⟨?_, rfl⟩
      rw [HI.out]; rfl
def two (a b : Int) (j : Nat) : Int := if j = 0 then a else b
theorem two_el {w : World} {a b : Int} {t : TypeId} : El (w.alloc (.cells #[.int .i64 a, .int .i64 b] t)) (some ⟨w.heap.size, 0, none⟩) 2 (two a b) := fun j hj => by
  refine ⟨_, 0, rfl, ?_⟩
  match j, hj with
  | 0, _ => simp [go_sem, two]
  | 1, _ => simp [go_sem, two]
end Go.Proofs.Ytllpllebmknmpaa
namespace Go.Proofs.Ytllpllebmknmpaa
open Go.ChangeShapes Go.WideShapes Go.ChangeAt Go.RowKit

theorem Try.readPt : Try.prog.readableRec 32 = true := by kernel_rfl
theorem Try.sizePt : 32 < Try.prog.types.size := of_decide_eq_true (by kernel_rfl)
theorem Try.cellsPt : Try.prog.cellsOf 32 = 3 := by kernel_rfl
theorem Try.readBs : Try.prog.readableRec 35 = true := by kernel_rfl
theorem Try.sizeBs : 35 < Try.prog.types.size := of_decide_eq_true (by kernel_rfl)
theorem Try.cellsBs : Try.prog.cellsOf 35 = 2 := by kernel_rfl
theorem Try.cellsSt : Try.prog.cellsOf 87 = 1 := by kernel_rfl
/-- A struct of n fields: each is read by itself. -/
theorem fieldsN {H : Type} {enc : TypeId × Value → H} {P : Program} {w : World} {t : TypeId} {fs : Array Field} {fuel : Nat} {cs : List Value} {x : DataW H × List MemPlace} (ht : P.underlying t = some (.struct fs)) (h : DataW.trod enc P w 0 (fun _ => true) true fuel t cs = some x) :
    ∃ k, ∀ (i : Nat) (f : Field), fs[i]? = some f → ∃ y, DataW.trod enc P w 0 (fun _ => true) true k f.type ((cs.drop f.offset).take (P.cellsOf f.type)) = some y := by
  obtain ⟨xs, k, _, rfl, _, hlen, hf⟩ := DataW.trod_struct ht h
  refine ⟨k, fun i f hi => ?_⟩
  have hlt : i < xs.length := by rw [hlen]; exact (Array.getElem?_eq_some_iff.1 hi).1
  exact ⟨xs[i], by rw [hf i f hi, List.getElem?_eq_getElem hlt]⟩
set_option maxRecDepth 100000 in
/-- A list of numbers inside an argument. -/
theorem viewRsF {H : Type} {enc : TypeId × Value → H} {W : World} {fuel : Nat} {v : Value} {x : DataW H × List MemPlace} (hf : DataW.trod enc Try.prog W 0 (fun _ => true) true fuel 30 [v] = some x) :
    ∃ ao k c X, v = .slice ao k c ∧ Rr W ao k X ∧ (k ≤ c ∧ c ≤ 9223372036854775807) := by
  rcases Go.Deep.open_slice Try.underlying30 hf with ⟨hcs, _⟩ | ⟨a, len, cap, m, n, D, Pl, hcs, _, hl, hm, hmm, _, hel⟩
  · simp at hcs
    exact ⟨none, 0, 0, fun _ => ⟨false, none, 0, 0, fun _ => 0, none, 0, 0, fun _ => 0⟩, hcs, fun j hj => by omega, by omega, by omega⟩
  · simp at hcs
    subst hcs
    have hX : ∀ j, ∃ t : Nm, j < len → W.cell? (a.add (j * 3)) = some (.bool t.s) ∧ W.cell? (a.add (j * 3 + 1)) = some (.slice t.x t.n t.c) ∧ W.cell? (a.add (j * 3 + 2)) = some (.slice t.y t.m t.d) ∧ Rw W t.x t.n t.c t.f t.y t.m t.d t.g := fun j => by
      by_cases hj : j < len
      · obtain ⟨cs', h1, h2⟩ := hel j (by simp only [if_true] at hmm; omega)
        rw [Try.cellsR] at h1
        obtain ⟨h3, h4⟩ := cells_at h1
        match cs', h3 with
        | [c0, c1, c2], _ =>
          obtain ⟨s, x, n, c, f, y, m, b, g, rfl, rfl, rfl, hr⟩ := viewRc h2
          refine ⟨⟨s, x, n, c, f, y, m, b, g⟩, fun _ => ⟨?_, ?_, ?_, hr⟩⟩
          · have := h4 0 _ rfl; rwa [addr_add2, Nat.add_zero] at this
          · have := h4 1 _ rfl; rwa [addr_add2] at this
          · have := h4 2 _ rfl; rwa [addr_add2] at this
      · exact ⟨⟨false, none, 0, 0, fun _ => 0, none, 0, 0, fun _ => 0⟩, fun h => absurd h hj⟩
    obtain ⟨X, hY⟩ : ∃ X : Nat → Nm, ∀ j, j < len → W.cell? (a.add (j * 3)) = some (.bool (X j).s) ∧ W.cell? (a.add (j * 3 + 1)) = some (.slice (X j).x (X j).n (X j).c) ∧ W.cell? (a.add (j * 3 + 2)) = some (.slice (X j).y (X j).m (X j).d) ∧ Rw W (X j).x (X j).n (X j).c (X j).f (X j).y (X j).m (X j).d (X j).g := ⟨fun j => Classical.choose (hX j), fun j => Classical.choose_spec (hX j)⟩
    refine ⟨some a, len, cap, X, rfl, fun j hj => ?_, hl, by unfold maxLen at hm; omega⟩
    obtain ⟨h1, h2, h3, h4⟩ := hY j hj
    obtain ⟨h01, _⟩ := hY 0 (by omega)
    obtain ⟨b, off, spot⟩ := a
    have hspot : spot = none := by simpa [Addr.add] using World.cell?_spot h01
    subst hspot
    rw [addr_add] at h1 h2 h3
    exact ⟨b, off, rfl, ⟨h1, h2, h3⟩, h4⟩
set_option maxRecDepth 100000 in
/-- A list of statuses inside an argument. -/
theorem viewStF {H : Type} {enc : TypeId × Value → H} {W : World} {fuel : Nat} {v : Value} {x : DataW H × List MemPlace} (h : DataW.trod enc Try.prog W 0 (fun _ => true) true fuel 33 [v] = some x) :
    ∃ ao k c E, v = .slice ao k c ∧ El W ao k E ∧ (ao = none → k = 0 ∧ c = 0) ∧ (k ≤ c ∧ c ≤ 9223372036854775807) := by
  rcases open_ints Try.underlying33 Try.underlying87 Try.cellsSt h with ⟨hcs, hx⟩ | ⟨a, len', cap', zs, hcs, _, hl, hm, hz, hx, hcell, hwz⟩
  · simp at hcs
    subst hcs
    exact ⟨none, 0, 0, fun _ => 0, rfl, fun j hj => by omega, fun _ => ⟨rfl, rfl⟩, by omega, by omega⟩
  · simp at hcs
    subst hcs
    simp only [if_true] at hz
    refine ⟨some a, len', cap', fun j => zs.getD j 0, rfl, fun j hj => ?_, (fun h => by cases h), hl, by unfold maxLen at hm; omega⟩
    obtain ⟨b, off, spot⟩ := a
    have hspot : spot = none := by simpa [Addr.add] using World.cell?_spot (hcell 0 (by omega))
    subst hspot
    exact ⟨b, off, rfl, by have := hcell j (by omega); rwa [addr_add] at this⟩
set_option maxRecDepth 100000 in
/-- An argument that is a point. -/
theorem viewPt {H : Type} {enc : TypeId × Value → H} {W : World} {base : Nat} {v : Value} {d : DataW H} {p : List MemPlace} (hok : Value.okWide Try.prog W .any base 32 v) (h : DataW.Trod enc Try.prog W 0 (fun _ => true) true 32 v d p) :
    ∃ a0 k0 c0 X0 a1 k1 c1 X1 a2 k2 c2 X2, v = .agg #[.slice a0 k0 c0, .slice a1 k1 c1, .slice a2 k2 c2] ∧ (Rr W a0 k0 X0 ∧ k0 ≤ c0 ∧ c0 ≤ 9223372036854775807) ∧ (Rr W a1 k1 X1 ∧ k1 ≤ c1 ∧ c1 ≤ 9223372036854775807) ∧ (Rr W a2 k2 X2 ∧ k2 ≤ c2 ∧ c2 ≤ 9223372036854775807) := by
  obtain ⟨cs, rfl, hsz⟩ := okWide_struct Try.underlying32 hok
  rw [Try.cellsPt] at hsz
  obtain ⟨fuel, hf⟩ := h
  obtain ⟨l⟩ := cs
  match l, hsz with
  | [v0, v1, v2], _ =>
    obtain ⟨k, hk⟩ := fieldsN (fuel := fuel) Try.underlying32 hf
    obtain ⟨y0, g0⟩ := hk 0 _ rfl
    obtain ⟨y1, g1⟩ := hk 1 _ rfl
    obtain ⟨y2, g2⟩ := hk 2 _ rfl
    have g0' : DataW.trod enc Try.prog W 0 (fun _ => true) true k 30 [v0] = some y0 := g0
    have g1' : DataW.trod enc Try.prog W 0 (fun _ => true) true k 30 [v1] = some y1 := g1
    have g2' : DataW.trod enc Try.prog W 0 (fun _ => true) true k 30 [v2] = some y2 := g2
    obtain ⟨a0, k0, c0, X0, rfl, h0⟩ := viewRsF g0'
    obtain ⟨a1, k1, c1, X1, rfl, h1⟩ := viewRsF g1'
    obtain ⟨a2, k2, c2, X2, rfl, h2⟩ := viewRsF g2'
    exact ⟨a0, k0, c0, X0, a1, k1, c1, X1, a2, k2, c2, X2, rfl, h0, h1, h2⟩
set_option maxRecDepth 100000 in
/-- An argument that is a basis. -/
theorem viewBs {H : Type} {enc : TypeId × Value → H} {W : World} {base : Nat} {v : Value} {d : DataW H} {p : List MemPlace} (hok : Value.okWide Try.prog W .any base 35 v) (h : DataW.Trod enc Try.prog W 0 (fun _ => true) true 35 v d p) :
    ∃ a0 k0 c0 E0 a1 k1 c1 E1, v = .agg #[.slice a0 k0 c0, .slice a1 k1 c1] ∧ (El W a0 k0 E0 ∧ (a0 = none → k0 = 0 ∧ c0 = 0) ∧ k0 ≤ c0 ∧ c0 ≤ 9223372036854775807) ∧ (El W a1 k1 E1 ∧ (a1 = none → k1 = 0 ∧ c1 = 0) ∧ k1 ≤ c1 ∧ c1 ≤ 9223372036854775807) := by
  obtain ⟨cs, rfl, hsz⟩ := okWide_struct Try.underlying35 hok
  rw [Try.cellsBs] at hsz
  obtain ⟨fuel, hf⟩ := h
  obtain ⟨l⟩ := cs
  match l, hsz with
  | [v0, v1], _ =>
    obtain ⟨k, hk⟩ := fieldsN (fuel := fuel) Try.underlying35 hf
    obtain ⟨y0, g0⟩ := hk 0 _ rfl
    obtain ⟨y1, g1⟩ := hk 1 _ rfl
    have g0' : DataW.trod enc Try.prog W 0 (fun _ => true) true k 33 [v0] = some y0 := g0
    have g1' : DataW.trod enc Try.prog W 0 (fun _ => true) true k 33 [v1] = some y1 := g1
    obtain ⟨a0, k0, c0, E0, rfl, h0⟩ := viewStF g0'
    obtain ⟨a1, k1, c1, E1, rfl, h1⟩ := viewStF g1'
    exact ⟨a0, k0, c0, E0, a1, k1, c1, E1, rfl, h0, h1⟩
end Go.Proofs.Ytllpllebmknmpaa
namespace Go.Proofs.Ytllpllebmknmpaa
open Go.RowKit

/-- A row of structs of the call's own, from block 'base' on, or nil. -/
def RowG (e : TypeId) (sz base : Nat) (w : World) (v : Value) (n : Nat) (xs : List Value) : Prop :=
  xs.length = n * sz ∧ ((v = .slice none 0 0 ∧ n = 0) ∨ ∃ g cap cur, v = .slice (some ⟨g, 0, none⟩) n cap ∧ base ≤ g ∧ w.heap[g]? = some (.cells cur e (0, 0)) ∧ n ≤ cap ∧ cap ≤ maxLen ∧ cur.size = cap * sz ∧ cur.toList.take (n * sz) = xs ∧ NoU cur)
theorem rowG_nil (e : TypeId) (sz base : Nat) (w : World) : RowG e sz base w (.slice none 0 0) 0 [] := ⟨by simp, .inl ⟨rfl, rfl⟩⟩
theorem RowG.owns {e sz base w v n xs} (h : RowG e sz base w v n xs) : w.ownsRow base e sz v n xs := by
  obtain ⟨h1, h2⟩ := h
  refine ⟨h1, ?_⟩
  rcases h2 with h2 | ⟨g, cap, cur, a, b, c, d, e1, f, g1, _⟩
  · exact .inl h2
  · exact .inr ⟨g, cap, cur, a, b, c, d, e1, f, g1⟩
theorem RowG.of {e sz base w w' v n xs} (h : RowG e sz base w v n xs) (hh : ∀ g, v.ownBlock = some g → w'.heap[g]? = w.heap[g]?) : RowG e sz base w' v n xs := by
  obtain ⟨h1, h2⟩ := h
  refine ⟨h1, ?_⟩
  rcases h2 with h2 | ⟨g, cap, cur, rfl, b, c, d, e1, f, g1, k⟩
  · exact .inl h2
  · exact .inr ⟨g, cap, cur, rfl, b, (hh g rfl).trans c, d, e1, f, g1, k⟩
theorem RowG.lt {e sz base w v n xs} (h : RowG e sz base w v n xs) : ∀ g, v.ownBlock = some g → base ≤ g ∧ g < w.heap.size := by
  intro g0 hg0
  rcases h.2 with ⟨rfl, _⟩ | ⟨g, cap, cur, rfl, b, c, _⟩
  · cases hg0
  · have : g = g0 := by simpa [Value.ownBlock] using hg0
    subst this
    exact ⟨b, (Array.getElem?_eq_some_iff.1 c).1⟩
theorem RowG.below {e sz base w w' v n xs} (h : RowG e sz base w v n xs) (hb : Below w.heap.size w w') : RowG e sz base w' v n xs := h.of (fun g hg => hb.block g (h.lt g hg).2)
theorem RowG.cells {e sz base w n xs g cap} (h : RowG e sz base w (.slice (some ⟨g, 0, none⟩) n cap) n xs) {j : Nat} {u : Value} (hu : xs[j]? = some u) : w.cell? ⟨g, j, none⟩ = some u := by
  obtain ⟨h1, h2⟩ := h
  rcases h2 with ⟨h2, _⟩ | ⟨g', cap', cur, hv, b, c, d, e1, f, g1, k⟩
  · cases h2
  · cases hv
    have : cur.toList[j]? = some u := by
      rw [← g1] at hu
      rw [List.getElem?_take] at hu
      split at hu
      · exact hu
      · cases hu
    simp [World.cell?, c]
    simpa using this
theorem nou_append {a b : Array Value} (ha : NoU a) (hb : NoU b) : NoU (a ++ b) := fun i z h => by
  rw [Array.getElem?_append] at h
  split at h
  · exact ha _ _ h
  · exact hb _ _ h
theorem nou_list {l : List Value} (h : ∀ u ∈ l, ∀ z, u ≠ .int .u64 z) : NoU l.toArray := fun i z he => by
  rw [List.getElem?_toArray] at he
  exact h _ (List.mem_of_getElem? he) z rfl
theorem nou_mem {a : Array Value} (h : NoU a) : ∀ u ∈ a.toList, ∀ z, u ≠ .int .u64 z := fun u hu z e => by
  obtain ⟨i, hi⟩ := List.getElem?_of_mem hu
  subst e
  exact h i z (by simpa using hi)

/-- 'out = append(out, x)', out such a row, x one struct. -/
theorem wpList_append_G {P : Program} (w : World) {ops : Array Oper} {rest : List Oper} {o : Oper} {a : Act} {Q : Exit → Act → World → Prop} (hgd : o.guard = none) (s x : Operand) (t : TypeId)
    (ho : o.op = .call { callee := .builtin .append, args := #[s, x], argTypes := #[t, t] })
    (base : Nat) (e : TypeId) (i : TypeInfo) (z : Value) (size bytes : Nat) (ht : P.underlying t = some (.slice e)) (hi : P.info? e = some i) (hz : i.zero = some z)
    (hsize : i.size = size) (hby : i.bytes = bytes) (hzs : z.cells.size = size) (hsz : 0 < size) (hzu : NoU z.cells)
    (v : Value) (n : Nat) (xs : List Value) (hs : a.eval s = v) (hown : RowG e size base w v n xs)
    (ad : Addr) (m c : Nat) (news : List Value) (hx : a.eval x = .slice (some ad) m c) (hl : news.length = m * size) (hnews : ∀ j u, news[j]? = some u → w.cell? (ad.add j) = some u) (h1 : ∀ u ∈ news, u.oneCell' = true) (hnu : ∀ u ∈ news, ∀ z, u ≠ .int .u64 z)
    (hm0 : 0 < m) (h63 : n + m ≤ maxLen) (hbytes : (n + m) * bytes ≤ 140737488355328) (hbase : base ≤ w.heap.size)
    (hK : ∀ g cap' w', RowG e size base w' (.slice (some ⟨g, 0, none⟩) (n + m) cap') (n + m) (xs ++ news) → w.grownBy w' v.ownBlock → Kp w w' → wpList P ops Q rest (a.put o.dst (.slice (some ⟨g, 0, none⟩) (n + m) cap')) w') : wpList P ops Q (o :: rest) a w := by
  subst hsize; subst hby
  obtain ⟨v', w', hrun, h1', h2', h3'⟩ := run_append_own (P := P) w base t o.type e i z i.size i.bytes ht hi hz rfl rfl hzs hsz v n xs hown.owns ad m c news hl hnews h1 h63 hbytes hbase
  have hlen : (xs ++ news).length = (n + m) * i.size := by rw [List.length_append, hown.1, hl, Nat.add_mul]
  have hzc : ∀ k, NoU (Builtin.zeroCells z.cells k) := by
    intro k j y hj
    simp only [Builtin.zeroCells] at hj
    have hm := Array.mem_of_getElem? hj
    obtain ⟨q, _, he⟩ := Array.mem_map.1 hm
    have hlt : q % z.cells.size < z.cells.size := Nat.mod_lt _ (by omega)
    rw [getElem!_pos z.cells (q % z.cells.size) hlt] at he
    exact hzu (q % z.cells.size) y (by rw [Array.getElem?_eq_getElem hlt, he])
  have hnu' : NoU news.toArray := nou_list hnu
  have hw : ∃ g cap' cur', v' = .slice (some ⟨g, 0, none⟩) (n + m) cap' ∧ base ≤ g ∧ w'.heap[g]? = some (.cells cur' e (0, 0)) ∧ n + m ≤ cap' ∧ cap' ≤ maxLen ∧ cur'.size = cap' * i.size ∧ cur'.toList.take ((n + m) * i.size) = xs ++ news ∧ NoU cur' ∧ Kp w w' := by
    have hsm : n + m ≤ 9223372036854775807 := by unfold maxLen at h63; omega
    rcases h1'.2 with ⟨hv0, hn0⟩ | ⟨g', cap', cur', hv', hb', hg', hn', hc', hs', ht'⟩
    · omega
    · refine ⟨g', cap', cur', hv', hb', hg', hn', hc', hs', ht', ?_⟩
      rcases hown.2 with ⟨rfl, rfl⟩ | ⟨g, cap, cur, rfl, hbg, hg, hnc, hcm, hcs, htake, hnuc⟩
      · have hx0 : xs = [] := List.eq_nil_of_length_eq_zero (by simpa using hown.1)
        subst hx0
        have e1 := run_append_nil (P := P) w t o.type e i z ht hi hz ad m c news hl hnews hm0 (by omega) (by rw [Nat.zero_add] at hbytes; omega)
        rw [e1] at hrun
        injection hrun with e2 e3
        subst e3
        rw [hv'] at e2
        injection e2 with e4
        injection e4 with e5
        injection e5 with e6
        subst e6
        have e7 := heap_alloc_new w.drew (.cells (news.toArray ++ Builtin.zeroCells z.cells (grownCap w m 0 e - m)) e)
        rw [show w.heap.size = w.drew.heap.size from rfl, e7] at hg'
        injection hg' with e8
        injection e8 with e9
        rw [← e9]
        exact ⟨nou_append hnu' (hzc _), (Kp.refl w).drew.alloc _⟩
      · by_cases hroom : n + m ≤ cap
        · have e1 := run_append_room (P := P) w t o.type e i ht hi g n cap cur hg ad m c news hl hnews h1 hroom (by rw [hl, hcs, ← Nat.add_mul]; exact Nat.mul_le_mul_right _ hroom)
          rw [e1] at hrun
          injection hrun with e2 e3
          rw [hv'] at e2
          injection e2 with e4
          injection e4 with e5
          injection e5 with e6
          subst e6
          have e7 : w'.heap[g]? = some (.cells (cur.toList.take (n * i.size) ++ news ++ cur.toList.drop (n * i.size + news.length)).toArray e (0, 0)) := by rw [← e3]; exact setRow_heap w g cur _ e _ hg
          rw [e7] at hg'
          injection hg' with e8
          injection e8 with e9
          rw [← e9]
          refine ⟨nou_list ?_, h2'.os, h2'.tape, h2'.output, h2'.size, fun k hk => ?_⟩
          · intro u hu
            rcases List.mem_append.1 hu with hu | hu
            · rcases List.mem_append.1 hu with hu | hu
              · exact nou_mem hnuc u (List.mem_of_mem_take hu)
              · exact hnu u hu
            · exact nou_mem hnuc u (List.mem_of_mem_drop hu)
          · by_cases hkg : k = g
            · subst hkg; exact .inr ⟨cur, e, (0, 0), hg, hnuc⟩
            · exact .inl (h2'.block k hk (fun e => hkg (by simpa [Value.ownBlock] using e)))
        · have holds : ∀ j u, xs[j]? = some u → w.cell? ((⟨g, 0, none⟩ : Addr).add j) = some u := World.ownsRow.cells hown.owns (g := g) rfl
          have e1 := run_append_grow (P := P) w t o.type e i z ht hi hz ⟨g, 0, none⟩ n cap xs hown.1 holds ad m c news hl hnews (by omega) (by omega) (growslice_fits (by omega) hbytes)
          rw [e1] at hrun
          injection hrun with e2 e3
          subst e3
          rw [hv'] at e2
          injection e2 with e4
          injection e4 with e5
          injection e5 with e6
          subst e6
          have e7 := heap_alloc_new w.drew (.cells (xs.toArray ++ news.toArray ++ Builtin.zeroCells z.cells (grownCap w (n + m) cap e - (n + m))) e)
          rw [show w.heap.size = w.drew.heap.size from rfl, e7] at hg'
          injection hg' with e8
          injection e8 with e9
          rw [← e9]
          refine ⟨nou_append (nou_append (nou_list ?_) hnu') (hzc _), (Kp.refl w).drew.alloc _⟩
          intro u hu
          rw [← htake] at hu
          exact nou_mem hnuc u (List.mem_of_mem_take hu)
  obtain ⟨g, cap', cur', rfl, a1, a2, a3, a4, a5, a6, a7, a8⟩ := hw
  refine wpList_plain hgd fun _ hK' => ?_
  unfold Oper.wp execOp
  simp only [ho, resolve, invoke, builtin, Sem.run_bind, Sem.run_pure, Result.andThen_ok, List.map_toArray, List.map_cons, List.map_nil, hs, hx, hrun]
  exact hK' _ _ (hK g cap' w' ⟨hlen, .inr ⟨g, cap', cur', rfl, a1, a2, a3, a4, a5, a6, a7⟩⟩ h2' a8)
end Go.Proofs.Ytllpllebmknmpaa
namespace Go.Proofs.Ytllpllebmknmpaa
open Go.RowKit

/-- A block, whole: it may be written. -/
def Bk (w : World) (B : Nat) (vs : List Value) (t : TypeId) : Prop := w.heap[B]? = some (.cells vs.toArray t (0, 0))
theorem bk_new (w : World) (vs : List Value) (t : TypeId) : Bk (w.alloc (.cells vs.toArray t)) w.heap.size vs t := heap_alloc_new w _
theorem Bk.lt {w B vs t} (h : Bk w B vs t) : B < w.heap.size := (Array.getElem?_eq_some_iff.1 h).1
theorem Bk.below {w w' B vs t} (h : Bk w B vs t) (hb : Below w.heap.size w w') : Bk w' B vs t := (hb.block B h.lt).trans h
theorem Bk.cell {w B vs t} (h : Bk w B vs t) {j : Nat} {v : Value} (hv : vs[j]? = some v) : w.cell? ⟨B, j, none⟩ = some v := by
  unfold Bk at h
  simp only [World.cell?, h]
  simpa using hv
theorem Bk.frozen {w B vs t} (h : Bk w B vs t) (o : Nat) : w.frozen? ⟨B, o, none⟩ = false := by
  unfold Bk at h
  simp [World.frozen?, h]
/-- One cell of a block that is written. -/
theorem Bk.set {w B vs t} (h : Bk w B vs t) (j : Nat) (v : Value) : Bk (w.setCell ⟨B, j, none⟩ v) B (vs.set j v) t := by
  unfold Bk at *
  simp [World.setCell, Array.getElem?_modify, h]
theorem Bk.of {w w' B vs t} (h : Bk w B vs t) (hb : w'.heap[B]? = w.heap[B]?) : Bk w' B vs t := hb.trans h
/-- A block's cells written one after another. -/
def stl (B : Nat) : Nat → List Value → World → World
  | _, [], w => w
  | o, v :: vs, w => stl B (o + 1) vs (w.setCell ⟨B, o, none⟩ v)
theorem stl_at (B : Nat) : ∀ (vs : List Value) (o : Nat) (w : World), (stl B o vs w).os = w.os ∧ (stl B o vs w).tape = w.tape ∧ (stl B o vs w).output = w.output ∧ (stl B o vs w).heap.size = w.heap.size ∧ ∀ k, k ≠ B → (stl B o vs w).heap[k]? = w.heap[k]?
  | [], o, w => ⟨rfl, rfl, rfl, rfl, fun _ _ => rfl⟩
  | v :: vs, o, w => by
    obtain ⟨h1, h2, h3, h4, h5⟩ := stl_at B vs (o + 1) (w.setCell ⟨B, o, none⟩ v)
    refine ⟨h1, h2, h3, ?_, fun k hk => ?_⟩
    · show (stl B (o + 1) vs (w.setCell ⟨B, o, none⟩ v)).heap.size = _
      rw [h4]; simp [World.setCell]
    · show (stl B (o + 1) vs (w.setCell ⟨B, o, none⟩ v)).heap[k]? = _
      rw [h5 k hk]; exact Below.heap_setCell _ _ _ _ hk
theorem st_new {w w6 : World} {B : Nat} {us : List Value} {t : TypeId} (vs : List Value) (h : Bk w6 B us t) (hu : NoU us.toArray) (hb : Below w.heap.size w w6) (hB : w.heap.size ≤ B) :
    Below w.heap.size w (stl B 0 vs w6) ∧ Kp w6 (stl B 0 vs w6) ∧ ∀ k, k ≠ B → (stl B 0 vs w6).heap[k]? = w6.heap[k]? := by
  obtain ⟨h1, h2, h3, h4, h5⟩ := stl_at B vs 0 w6
  refine ⟨hb.trans ⟨h1, h2, h3, by omega, fun k hk => h5 k (by omega)⟩, ⟨h1, h2, h3, by omega, fun k _ => ?_⟩, h5⟩
  by_cases hk : k = B
  · subst hk; exact .inr ⟨_, t, (0, 0), h, hu⟩
  · exact .inl (h5 k hk)
theorem stl_bk {B : Nat} {t : TypeId} : ∀ (vs us : List Value) (o : Nat) (w : World), us.length = o + vs.length → Bk w B us t → Bk (stl B o vs w) B (us.take o ++ vs) t
  | [], us, o, w, hl, h => by
    rw [List.append_nil, List.take_of_length_le (by simp at hl; omega)]; exact h
  | v :: vs, us, o, w, hl, h => by
    have hl' : us.length = o + (vs.length + 1) := hl
    have := stl_bk vs (us.set o v) (o + 1) (w.setCell ⟨B, o, none⟩ v) (by rw [List.length_set]; omega) (h.set o v)
    have e : (us.set o v).take (o + 1) ++ vs = us.take o ++ v :: vs := by
      rw [List.take_add_one, List.take_set_of_le (Nat.le_refl _), List.getElem?_set_self (by omega), List.append_assoc]; rfl
    rw [e] at this
    exact this
end Go.Proofs.Ytllpllebmknmpaa
namespace Go.Proofs.Ytllpllebmknmpaa
open Go.RowKit

theorem RowG.slice {e sz base w v n xs} (h : RowG e sz base w v n xs) : ∃ ao cap, v = .slice ao n cap := by
  rcases h.2 with ⟨rfl, rfl⟩ | ⟨g, cap, cur, rfl, _⟩
  · exact ⟨none, 0, rfl⟩
  · exact ⟨_, cap, rfl⟩

end Go.Proofs.Ytllpllebmknmpaa
namespace Go.Proofs.Ytllpllebmknmpaa
open Go.RowKit

theorem kBdn {w0 w : World} {q : Nat} (h : Below w0.heap.size w0 w) : Below w0.heap.size w0 (w.drewN q) := below_drewN h q
end Go.Proofs.Ytllpllebmknmpaa
namespace Go.Proofs.Ytllpllebmknmpaa
open Go.RowKit

/-- A list of numbers that reads as p, in form, of at most L limbs. -/
def Rf (L : Nat) (w : World) (ao : Option Addr) (p : List Rat) : Prop :=
  ∀ (j : Nat) (q : Rat), p[j]? = some q → ∃ b o, ∃ t : Nm, ao = some ⟨b, o, none⟩ ∧ C3 w b (o + j * 3) (.bool t.s) (.slice t.x t.n t.c) (.slice t.y t.m t.d) ∧ Rn L w t.s t.x t.n t.c t.f t.y t.m t.d t.g q
theorem Rf.below {L w w' ao p} (h : Rf L w ao p) (hb : Below w.heap.size w w') : Rf L w' ao p := fun j q hj => by
  obtain ⟨b, o, t, e, h1, h2⟩ := h j q hj
  exact ⟨b, o, t, e, h1.below hb, h2.below hb⟩
end Go.Proofs.Ytllpllebmknmpaa
namespace Go.Proofs.Ytllpllebmknmpaa
open Go.RowKit

theorem afr_all {X : Nat → Nm} : ∀ {r i : Nat}, afr X r i = true → ∀ j, i ≤ j → j < i + r → nfB (X j) = true := by
  intro r
  induction r with
  | zero => intro i _ j h1 h2; omega
  | succ r ih =>
    intro i h j hj hj2
    simp only [afr, Bool.and_eq_true] at h
    by_cases e : j = i
    · subst e; exact h.1
    · exact ih h.2 j (by omega) (by omega)
/-- A list of numbers in form has values. -/
theorem rl_rf {w : World} {ao : Option Addr} {k : Nat} {X : Nat → Nm} {L : Nat} (h : Rl w ao k X) (hf : afB k X = true) (hL : ∀ j, j < k → (X j).n ≤ L ∧ (X j).m ≤ L) : ∃ p : List Rat, p.length = k ∧ Rf L w ao p ∧ ∀ j, j < k → ∃ q, p[j]? = some q ∧ Rn L w (X j).s (X j).x (X j).n (X j).c (X j).f (X j).y (X j).m (X j).d (X j).g q := by
  have h1 := afr_all hf
  have hq : ∀ j, ∃ q, j < k → Rn L w (X j).s (X j).x (X j).n (X j).c (X j).f (X j).y (X j).m (X j).d (X j).g q := fun j => by
    by_cases hj : j < k
    · obtain ⟨b, o, _, _, hr⟩ := h j hj
      obtain ⟨q, hq⟩ := Nm.rn hr (h1 j (by omega) (by omega)) (hL j hj).1 (hL j hj).2
      exact ⟨q, fun _ => hq⟩
    · exact ⟨0, fun h => absurd h hj⟩
  have hQ := fun j => Classical.choose_spec (hq j)
  generalize hQe : (fun j => Classical.choose (hq j)) = Q at *
  have hQ2 : ∀ j, j < k → Rn L w (X j).s (X j).x (X j).n (X j).c (X j).f (X j).y (X j).m (X j).d (X j).g (Q j) := fun j hj => by rw [← hQe]; exact hQ j hj
  refine ⟨(List.range k).map Q, by simp, ?_, fun j hj => ⟨Q j, by simp [hj], hQ2 j hj⟩⟩
  intro j q hj
  have hlt : j < k := by
    have := (List.getElem?_eq_some_iff.1 hj).1
    simpa using this
  simp [hlt] at hj
  subst hj
  obtain ⟨b, o, e, hc, _⟩ := h j hlt
  exact ⟨b, o, X j, e, hc, hQ2 j hlt⟩

end Go.Proofs.Ytllpllebmknmpaa
namespace Go.Proofs.Ytllpllebmknmpaa
open Go.RowKit

theorem drewN_bel {w w' : World} {q : Nat} (h : w' = w.drewN q) : Below w.heap.size w w' := by rw [h]; exact below_drewN (Below.refl _ _) _
theorem dSubO_c {w x n c d A y m e g B} (ha : Dn w x n d A) (hb : Dn w y m g B) (hn : n ≤ 1048576) (hm : m ≤ 1048576) (hle : B ≤ A) :
    Calls Try.prog 70 #[.slice x n c, .slice y m e] w fun e w' => ∃ z k c' q, e = .returned (.slice z k c') ∧ Below w.heap.size w w' ∧ Hid (k ≤ n ∧ Dn w' z k q (A - B) ∧ ∀ a, z = some a → w.heap.size ≤ a.block) :=
  (rsubO_c x y n m c e d g w (by omega) (by omega) (vd_len hb.dg ha.dg hb.fm (by rw [ha.val, hb.val]; omega)) ha.rd hb.rd ha.dg hb.dg (by rw [ha.val, hb.val]; omega)).mono (fun _ _ ⟨z, k, c', q, h1, h2, h3, h4, h5, h6, h8, h7⟩ => ⟨z, k, c', q, h1, h2, h4, ⟨h3, h5, h6, by rw [h7, ha.val, hb.val]; omega⟩, h8⟩)
theorem Dn.len {w x n d A y m g B} (ha : Dn w x n d A) (hb : Dn w y m g B) (hle : A ≤ B) : n ≤ m := vd_len ha.dg hb.dg ha.fm (by rw [ha.val, hb.val]; omega)
end Go.Proofs.Ytllpllebmknmpaa
namespace Go.Proofs.Ytllpllebmknmpaa
open Go.RowKit

set_option maxRecDepth 100000 in
set_option maxHeartbeats 2000000 in
/-- Shl of the reference: a * 2^(32 * o + s), on digits. -/
theorem rshl_c (ao : Option Addr) (n ca o : Nat) (z s : Int) (f : Nat → Int) (w : World) (hn : n ≤ 1048576) (ho : o ≤ 1048576) (s0 : 0 ≤ s) (s1 : s ≤ 31) (hz : z = 32 * o + s) (hr : Rd .u64 w ao n f) (hf : Dg f n) :
    Calls Try.prog 71 #[.slice ao n ca, .int .i64 z] w fun e w' => ∃ ao' k cap' D, e = .returned (.slice ao' k cap') ∧ Below w.heap.size w w' ∧ Rd .u64 w' ao' k D ∧ k ≤ o + n + 1 ∧ Dg D k ∧ Fm D k ∧ vd D k = vd f n * (2 ^ s.toNat * pd o) := by
  have HF := hid hf
  have HRd := hid hr
  clear hf hr
  have z0 : 0 ≤ z := by omega
  have z1 : z ≤ 67108927 := by omega
  have h1 : z / 32 = (o : Int) := by omega
  have h2 : z % 32 = s := by omega
  have h3 : Int.tdiv z 32 = (o : Int) := by rw [Int.tdiv_eq_ediv_of_nonneg z0]; exact h1
  have h4 : Int.tmod z 32 = s := by rw [Int.tmod_eq_emod_of_nonneg z0]; exact h2
  clear hz
  by_cases hn0 : n = 0
  · subst hn0
    go_enter Try.func71, Try.ntmps71
    go_wp2
    go_ret
    exact ⟨none, 0, 0, f, rfl, Below.refl _ _, Rd.zero, by omega, fun j hj => by omega, .inl rfl, by simp [vd]⟩
  · have hnz : ((n : Int) == 0) = false := by simp; omega
    have p0 : (0 : Int) < 2 ^ s.toNat := Int.pow_pos (by decide)
    have p1 : (2 : Int) ^ s.toNat ≤ 2147483648 := by
      have : (2 : Int) ^ s.toNat * 2 ^ (31 - s).toNat = 2147483648 := by rw [← Int.pow_add, show s.toNat + (31 - s).toNat = 31 by omega]; rfl
      have q0 : (0 : Int) < 2 ^ (31 - s).toNat := Int.pow_pos (by decide)
      have := Int.mul_le_mul_of_nonneg_left (show (1 : Int) ≤ 2 ^ (31 - s).toNat by omega) (Int.le_of_lt p0)
      omega
    have P0 := hid p0
    have P1 := hid p1
    clear p0 p1
    go_enter Try.func71, Try.ntmps71
    go_wp2_with (at_make; refine wpList_make_two .u64 w rfl (.tmp 13) (.tmp 19) 64 rfl 63 8 Try.underlying64 Try.infoU64 .i64 .i64 _ _ o (o + n + 1) rfl rfl (by omega) (by omega) (by omega) (by omega) (by unfold maxLen; omega) ?_; intro w1 hb1 hbel1)
    have HO1 := hid (own_of_blk hb1 (base := w.heap.size) (n := o) (Nat.le_refl _) (by omega) (by unfold maxLen; omega))
    clear hb1
    go_loopw [5, 6, 23] (fun v c t wr => ∃ (k : Nat) (cc : Int) (D : Nat → Int), k ≤ n ∧ t = .int .i64 k ∧ c = .int .u64 cc ∧ 0 ≤ cc ∧ cc < 2147483648 ∧ Hid (cc < 2 ^ s.toNat) ∧ Below w.heap.size w wr ∧ Hid (Own .u64 63 wr w.heap.size v (o + k) D) ∧ Hid (Dg D (o + k)) ∧ Hid (vd D (o + k) + cc * pd (o + k) = vd f k * (2 ^ s.toNat * pd o))) (fun _ _ t _ => n - (intOf t).toNat)
    case atStart => exact ⟨0, 0, fun _ => 0, by omega, rfl, rfl, by omega, by omega, P0.out, hbel1, HO1.out, fun j hj => ⟨Int.le_refl 0, show (0 : Int) < 4294967296 by decide⟩, by simp [Hid, vd, vd_zero]⟩
    case round =>
      clear hbel1 HO1
      obtain ⟨k, cc, D, hk, rfl, rfl, c0, c1, HC, hbel, HO, HDg, HV⟩ := hrel
      by_cases hlt : k < n
      · have hrA := HRd.out
        obtain ⟨b, ob, rfl⟩ := hrA.at (by omega)
        obtain ⟨x, hx⟩ : ∃ x, f k = x := ⟨_, rfl⟩
        have hcell : wr.cell? ⟨b, ob + k, none⟩ = some (.int .u64 x) := by rw [← hx]; exact (hrA.below hbel (Nat.le_refl _)).cell hlt
        obtain ⟨x0, x1⟩ := HF.out k hlt
        rw [hx] at x0 x1
        have HX := hid hx
        clear hx hrA
        obtain ⟨d1, d2, d3, d4, d5⟩ := dshl_carry c0 HC.out x0 x1 P0.out
        obtain ⟨X, eX, HXe⟩ : ∃ X, IntKind.u64.wrap (x * 2 ^ s.toNat) = X ∧ Hid (X = x * 2 ^ s.toNat) := ⟨x * 2 ^ s.toNat, by have := P1.out; rw [IntKind.wrap_u64]; omega, rfl⟩
        have X0 : 0 ≤ X := by rw [HXe.out]; exact d4
        have X1 : X < 9223372036854775808 := by have := P1.out; rw [HXe.out]; omega
        have HD3 := hid d3
        clear d1 d2 d3 d4 d5
        go_wp2_with (at_builtin; refine wpList_append_own_list .u64 _ rfl (.tmp 33) (.tmp 36) 64 rfl w.heap.size 63 8 Try.underlying64 Try.infoU64 _ (o + k) D rfl (Own.alloc HO.out _) wr.heap.size 0 1 1 (fun _ => (cc + X) % 4294967296) rfl (rd_new1 wr _ _) ?c1 ?c2 ?c3 ?_)
        case c1 => unfold maxLen; omega
        case c2 => omega
        case c3 => have := hbel.size; simp; omega
        intro v' w' hown hgr
        have hbel2 : Below w.heap.size w w' := (hbel.alloc hbel.size _).grown hgr (by have := hbel.size; simp; omega) (fun k h => (Own.ge HO.out k h))
        have HO2 := hid hown
        clear hown hgr HO
        go_wp2
        go_roundw
        case rel =>
          refine ⟨k + 1, _, _, by omega, by go_num, rfl, by omega, ?_, ?_, hbel2, HO2.out, dg_cat1 HDg.out (by omega), ?_⟩
          · have h5 := HD3.out; have h6 := P1.out; rw [← HXe.out] at h5; omega
          · have h5 := HD3.out; rw [← HXe.out] at h5; exact h5
          · have h5 := dshl_step HV.out HX.out
            rw [← HXe.out] at h5; exact h5
        case measure => simp [intOf]; omega
      · have hkn : k = n := by omega
        subst hkn
        go_wp2_with (at_builtin; refine wpList_append_own_list .u64 _ rfl (.tmp 41) (.tmp 43) 64 rfl w.heap.size 63 8 Try.underlying64 Try.infoU64 _ (o + k) D rfl (Own.alloc HO.out _) wr.heap.size 0 1 1 (fun _ => cc) rfl (rd_new1 wr _ _) ?c1 ?c2 ?c3 ?_)
        case c1 => unfold maxLen; omega
        case c2 => omega
        case c3 => have := hbel.size; simp; omega
        intro v' w' hown hgr
        have hbel2 : Below w.heap.size w w' := (hbel.alloc hbel.size _).grown hgr (by have := hbel.size; simp; omega) (fun k h => (Own.ge HO.out k h))
        obtain ⟨ao', cap', hv, hcc, hnn, hml, hrd, hlt3⟩ := Own.shape hown
        unfold maxLen at hml
        subst hv
        clear hown hgr HO hlt3
        go_wp2_with fail
        refine (low_c ao' (o + k + 1) cap' (cat D (o + k) (fun _ => cc)) w' hcc hml hrd hnn).mono ?_
        rintro e w2 ⟨rfl, m', hm1, hz, hfm, rfl⟩
        have HZ := hid hz
        have HFM := hid hfm
        clear hz hfm
        go_wp2
        go_ret
        refine ⟨ao', m', cap', _, rfl, hbel2, hrd.take hm1, by omega, (dg_cat1 HDg.out (by omega)).mono hm1, HFM.out, ?_⟩
        rw [trim_vald hm1 HZ.out, vd_cat1, HV.out]

end Go.Proofs.Ytllpllebmknmpaa
namespace Go.Proofs.Ytllpllebmknmpaa
open Go.RowKit

theorem two_cop {b : Nat} (h : b % 2 = 1) : Nat.Coprime 2 b := by
  unfold Nat.Coprime
  have h1 : Nat.gcd 2 b ∣ 2 := Nat.gcd_dvd_left _ _
  have h2 : Nat.gcd 2 b ∣ b := Nat.gcd_dvd_right _ _
  have h3 := Nat.le_of_dvd (by decide) h1
  have h4 : Nat.gcd 2 b ≠ 0 := by intro h; rw [h] at h1; simp at h1
  rcases (show Nat.gcd 2 b = 1 ∨ Nat.gcd 2 b = 2 by omega) with h5 | h5
  · exact h5
  · rw [h5] at h2; omega
theorem gcd_half2 {a b : Nat} (ha : a % 2 = 0) (hb : b % 2 = 0) : Nat.gcd a b = Nat.gcd (a / 2) (b / 2) * 2 := by
  rw [← Nat.gcd_mul_right, show a / 2 * 2 = a by omega, show b / 2 * 2 = b by omega]
theorem gcd_halfl {a b : Nat} (ha : a % 2 = 0) (hb : b % 2 = 1) : Nat.gcd (a / 2) b = Nat.gcd a b := by
  have := Nat.Coprime.gcd_mul_left_cancel (a / 2) (two_cop hb)
  rw [show 2 * (a / 2) = a by omega] at this
  exact this.symm
theorem gcd_halfr {a b : Nat} (ha : a % 2 = 1) (hb : b % 2 = 0) : Nat.gcd a (b / 2) = Nat.gcd a b := by
  rw [Nat.gcd_comm, gcd_halfl hb ha, Nat.gcd_comm]
theorem gcd_take {a b : Nat} (h : b ≤ a) : Nat.gcd (a - b) b = Nat.gcd a b := by
  have := Nat.gcd_add_self_left b (a - b)
  rw [Nat.sub_add_cancel h] at this
  exact this.symm
/-- The number that digits in memory tell. -/
noncomputable def dOf (w : World) (v : Value) : Nat := match v with
  | .slice (some a) k _ => (vd (fun j => match w.cell? ⟨a.block, a.off + j, none⟩ with | some (.int _ z) => z | _ => 0) k).toNat
  | _ => 0
theorem Dn.dOf {w x n c d V} (h : Dn w x n d V) : dOf w (.slice x n c) = V := by
  rcases Nat.eq_zero_or_pos n with h0 | h0
  · subst h0
    rw [h.zero]
    cases x <;> rfl
  · obtain ⟨b, o, rfl⟩ := h.rd.at h0
    have e : vd (fun j => match w.cell? ⟨b, o + j, none⟩ with | some (.int _ z) => z | _ => 0) n = vd d n := vd_congr (fun j hj => by
      have := h.rd.cell hj
      simp only [this])
    show (vd _ n).toNat = V
    rw [e, h.val]; simp
/-- The lowest digit tells whether a number is even. -/
theorem Dn.par {w x n d V} (h : Dn w x n d V) (hn : 0 < n) : (d 0 % 2 = 0 ↔ V % 2 = 0) := by
  obtain ⟨m, rfl⟩ : ∃ m, n = m + 1 := ⟨n - 1, by omega⟩
  have h1 := vd_cons d 0 m
  rw [sh_zero, h.val] at h1
  omega
/-- Half of a number, digit by digit. -/
theorem half_step {D f : Nat → Int} {k : Nat} {b0 b b' v : Int} (h : 2 * vd D k = vd f k - b0 + b * pd k) (hv : 2 * v = f k - b + b' * 4294967296) (D' : Nat → Int) (hD : ∀ j, j < k → D' j = D j) (hk : D' k = v) : 2 * vd D' (k + 1) = vd f (k + 1) - b0 + b' * pd (k + 1) := by
  rw [vd_succ, vd_succ, pd_succ, vd_congr hD, hk]
  grind

set_option maxRecDepth 100000 in
set_option maxHeartbeats 2000000 in
theorem rhalf_c {w : World} {x : Option Addr} {n c : Nat} {f : Nat → Int} {A : Nat} (ha : Dn w x n f A) (hn : n ≤ 1048576) (hA : A % 2 = 0) (hA0 : 0 < A) :
    Calls Try.prog 68 #[.slice x n c] w fun e w' => ∃ z k c' d, e = .returned (.slice z k c') ∧ Below w.heap.size w w' ∧ Hid (k ≤ n ∧ Dn w' z k d (A / 2)) := by
  have hn0 := ha.pos hA0
  have hpar := (ha.par hn0).2 hA
  have HA := hid ha; have HPar := hid hpar
  clear ha hpar
  go_enter Try.func68, Try.ntmps68
  go_wp2_with (at_make; refine wpList_make_blk .u64 w rfl (.tmp 7) (.tmp 7) 64 rfl 63 8 Try.underlying64 Try.infoU64 .i64 .i64 n n n rfl rfl rfl rfl (by omega) (by unfold maxLen; omega) ?_; intro wa hba hbela)
  go_loopw [11] (fun t wr => ∃ (k : Nat) (Q : Nat → Int), k ≤ n ∧ t = .int .i64 k ∧ Below w.heap.size w wr ∧ Blk .u64 63 wr w.heap.size n Q ∧ Hid (Dg Q n) ∧ Hid (2 * vd Q k = vd f k - f 0 % 2 + (ext f n k % 2) * pd k)) (fun t _ => n - (intOf t).toNat)
  case atStart => exact ⟨0, fun _ => 0, by omega, rfl, hbela, hba, fun j _ => ⟨Int.le_refl 0, show (0 : Int) < 4294967296 by decide⟩, hid (by rw [ext_in _ _ _ hn0]; simp [vd, pd]; omega)⟩
  case round =>
    clear hba hbela
    obtain ⟨k, Q, hk, rfl, hbel, hbl, HDg, HV⟩ := hrel
    by_cases hlt : k < n
    · have hr := HA.out.rd
      obtain ⟨b, o, rfl⟩ := hr.at (by omega)
      obtain ⟨y, hy⟩ : ∃ y, f k = y := ⟨_, rfl⟩
      have hcell : wr.cell? ⟨b, o + k, none⟩ = some (.int .u64 y) := by rw [← hy]; exact (hr.below hbel (Nat.le_refl _)).cell hlt
      obtain ⟨y0, y1⟩ := HA.out.dg k hlt
      rw [hy] at y0 y1
      have hcz := hbl.cell (j := k) hlt
      have hfz := hbl.frozen k
      have hbb : b ≠ w.heap.size := by have := hr.und (by omega) _ rfl; simp at this; omega
      have HX := hid (show ext f n k = y from (ext_in _ _ _ hlt).trans hy)
      have HY := hid hy
      by_cases hlt2 : k + 1 < n
      · obtain ⟨u, hu⟩ : ∃ u, f (k + 1) = u := ⟨_, rfl⟩
        have hcelu : wr.cell? ⟨b, o + (k + 1), none⟩ = some (.int .u64 u) := by rw [← hu]; exact (hr.below hbel (Nat.le_refl _)).cell hlt2
        obtain ⟨u0, u1⟩ := HA.out.dg (k + 1) hlt2
        rw [hu] at u0 u1
        have HU := hid (show ext f n (k + 1) = u from (ext_in _ _ _ hlt2).trans hu)
        obtain ⟨s, hs⟩ : ∃ s, y / 2 + u % 2 * 2147483648 = s := ⟨_, rfl⟩
        have hst := half_step (D' := upd (upd Q k (y / 2)) k s) (v := s) (b' := u % 2) HV.out (by rw [HX.out, hy]; omega) (fun j hj => by rw [upd_other _ _ _ _ (by omega), upd_other _ _ _ _ (by omega)]) (upd_same _ _ _)
        have HSt := hid hst; have HS := hid hs
        have hbl2 := hbl.set k (y / 2)
        have hcz2 := hbl2.cell (j := k) hlt
        rw [upd_same] at hcz2
        have hfz2 := hbl2.frozen k
        have hcu2 : (wr.setCell ⟨w.heap.size, k, none⟩ (.int .u64 (y / 2))).cell? ⟨b, o + (k + 1), none⟩ = some (.int .u64 u) := by
          rw [World.cell?_setCell_other _ _ _ _ (fun he => hbb (congrArg Addr.block he).symm)]; exact hcelu
        have HBl := hid hbl2
        clear hst hy hu hr hbl2 hs
        go_wp2_with fail
        go_region
        all_goals go_wp2
        go_roundw
        case rel =>
          refine ⟨k + 1, _, by omega, by go_num, ?_, (HBl.out.set _ _).drew, (HDg.out.upd ⟨?_, ?_⟩).upd ⟨?_, ?_⟩, hid ?_⟩
          · exact below_only hbel ((((Only.refl _ _).setCell _ _ _).setCell _ _ _).drew) (Nat.le_refl _) hbel.size
          · omega
          · omega
          · omega
          · omega
          · rw [HU.out]; have e := HSt.out; rw [← HS.out] at e; exact e
        case measure => simp [intOf]; omega
      · have HU := hid (show ext f n (k + 1) = 0 from ext_out _ _ _ (by omega))
        have hst := half_step (D' := upd Q k (y / 2)) (v := y / 2) (b' := 0) HV.out (by rw [HX.out, hy]; omega) (fun j hj => by rw [upd_other _ _ _ _ (by omega)]) (upd_same _ _ _)
        have HSt := hid hst
        clear hst hy hr
        go_wp2
        go_roundw
        case rel =>
          refine ⟨k + 1, _, by omega, by go_num, ?_, hbl.set _ _, HDg.out.upd ⟨?_, ?_⟩, hid ?_⟩
          · exact below_only hbel ((Only.refl _ _).setCell _ _ _) (Nat.le_refl _) hbel.size
          · omega
          · omega
          · rw [HU.out]; exact HSt.out
        case measure => simp [intOf]; omega
    · obtain rfl : k = n := by omega
      go_wp2_with fail
      refine (low_c (some ⟨w.heap.size, 0, none⟩) k k Q wr (Nat.le_refl _) (by omega) (hbl.rd0 (Nat.le_refl _)) (fun h => by cases h)).mono ?_
      rintro e w2 ⟨rfl, k1, hk1, hz, hfm, rfl⟩
      have HZ2 := hid hz; have HFM := hid hfm
      clear hz hfm
      go_wp2
      go_ret
      refine ⟨_, k1, _, Q, rfl, hbel, hk1, (hbl.rd0 (Nat.le_refl _)).take hk1, HDg.out.mono hk1, HFM.out, ?_⟩
      rw [trim_vald hk1 HZ2.out]
      have h1 := HV.out
      rw [ext_out _ _ _ (Nat.le_refl _), HPar.out, HA.out.val] at h1
      omega
end Go.Proofs.Ytllpllebmknmpaa
namespace Go.Proofs.Ytllpllebmknmpaa
open Go.RowKit

theorem twos_few {w x n d A} {a k : Nat} (h : Dn w x n d A) (ha : a * 2 ^ k = A) (h0 : 0 < a) : k < 32 * n := by
  have h1 := vd_lt h.dg
  rw [h.val, pd_pow] at h1
  have h2 : A < 2 ^ (32 * n) := by exact_mod_cast h1
  apply Nat.lt_of_not_le; intro hge
  have h3 : 2 ^ (32 * n) ≤ 2 ^ k := Nat.pow_le_pow_right (by decide) hge
  have h4 : 1 * 2 ^ k ≤ a * 2 ^ k := Nat.mul_le_mul_right _ h0
  omega
theorem half_half {a k A : Nat} (h : a * 2 ^ k = A) (ha : a % 2 = 0) : a / 2 * 2 ^ (k + 1) = A := by
  rw [Nat.pow_succ, ← h]
  have : a = a / 2 * 2 := by omega
  generalize a / 2 = u at *
  subst this
  rw [Nat.mul_assoc, Nat.mul_comm (2 ^ k) 2]
set_option maxRecDepth 100000 in
set_option maxHeartbeats 8000000 in
theorem rgcd_c {w : World} {x : Option Addr} {n c : Nat} {f : Nat → Int} {A : Nat} {y : Option Addr} {m e : Nat} {g : Nat → Int} {B : Nat} (ha : Dn w x n f A) (hb : Dn w y m g B) (hn : n ≤ 262144) (hm : m ≤ 262144) :
    Calls Try.prog 59 #[.slice x n c, .slice y m e] w fun e w' => ∃ z k c' d, e = .returned (.slice z k c') ∧ Below w.heap.size w w' ∧ Hid (k ≤ n + m ∧ Dn w' z k d (Nat.gcd A B)) := by
  by_cases hn0 : n = 0
  · subst hn0
    have hA := ha.zero
    have HB := hid hb; have HA0 := hid hA
    clear ha hb hA
    go_enter Try.func59, Try.ntmps59
    go_wp2
    go_ret
    exact ⟨y, m, e, g, rfl, Below.refl _ _, by omega, by rw [HA0.out, Nat.gcd_zero_left]; exact HB.out⟩
  by_cases hm0 : m = 0
  · subst hm0
    have hB := hb.zero
    have HA := hid ha; have HB0 := hid hB
    have hnd : ((n : Int) == 0) = false := by simp; omega
    clear ha hb hB
    go_enter Try.func59, Try.ntmps59
    go_wp2
    go_ret
    exact ⟨x, n, c, f, rfl, Below.refl _ _, by omega, by rw [HB0.out, Nat.gcd_zero_right]; exact HA.out⟩
  have hnd : ((n : Int) == 0) = false := by simp; omega
  have hmd : ((m : Int) == 0) = false := by simp; omega
  have HAp := hid (ha.pos' (by omega)); have HBp := hid (hb.pos' (by omega))
  have HA := hid ha; have HB := hid hb
  clear ha hb
  go_enter Try.func59, Try.ntmps59
  go_wp2
  go_loopw [0, 1, 5] (fun u v t wr => ∃ (za : Option Addr) (na ca a : Nat) (fa : Nat → Int) (zb : Option Addr) (nb cb b : Nat) (fb : Nat → Int) (k : Nat), u = .slice za na ca ∧ v = .slice zb nb cb ∧ t = .int .i64 (k : Int) ∧ na ≤ n ∧ nb ≤ m ∧ k ≤ 32 * n ∧ Hid (Below w.heap.size w wr) ∧ Hid (Dn wr za na fa a) ∧ Hid (Dn wr zb nb fb b) ∧ Hid (0 < a ∧ 0 < b ∧ a * 2 ^ k = A ∧ Nat.gcd a b * 2 ^ k = Nat.gcd A B)) (fun _ _ t _ => 32 * n + 1 - (intOf t).toNat)
  case atStart => exact ⟨x, n, c, A, f, y, m, e, B, g, 0, rfl, rfl, rfl, by omega, by omega, by omega, Below.refl _ _, HA.out, HB.out, HAp.out, HBp.out, by simp, by simp⟩
  case round =>
    obtain ⟨za, na, ca, a, fa, zb, nb, cb, b, fb, k, rfl, rfl, rfl, hna, hnb, hk, HW, HDa, HDb, HV⟩ := hrel
    have hna0 := HDa.out.pos HV.out.1
    have hnb0 := HDb.out.pos HV.out.2.1
    have hkk := twos_few HA.out HV.out.2.2.1 HV.out.1
    obtain ⟨ba, oa, rfl⟩ := HDa.out.rd.at hna0
    obtain ⟨bb, ob, rfl⟩ := HDb.out.rd.at hnb0
    have hca := HDa.out.rd.cell hna0
    have hcb := HDb.out.rd.cell hnb0
    obtain ⟨xa, hxa⟩ : ∃ t, fa 0 = t := ⟨_, rfl⟩
    obtain ⟨xb, hxb⟩ : ∃ t, fb 0 = t := ⟨_, rfl⟩
    obtain ⟨xa0, xa1⟩ := HDa.out.dg 0 hna0
    obtain ⟨xb0, xb1⟩ := HDb.out.dg 0 hnb0
    have hpa := HDa.out.par hna0
    have hpb := HDb.out.par hnb0
    rw [hxa] at hca xa0 xa1 hpa
    rw [hxb] at hcb xb0 xb1 hpb
    rw [Nat.add_zero] at hca hcb
    clear hxa hxb
    by_cases hev : a % 2 = 0 ∧ b % 2 = 0
    · have hea : xa % 2 = 0 := hpa.2 hev.1
      have heb : xb % 2 = 0 := hpb.2 hev.2
      have HE := hid hev
      clear hev hpa hpb
      go_wp2_with fail
      refine (rhalf_c HDa.out (by omega) HE.out.1 HV.out.1).mono ?_
      rintro e w2 ⟨z2, k2, c2, d2, rfl, hb2, H2⟩
      have HB2 := hid hb2
      clear hb2
      go_wp2_with fail
      refine (rhalf_c (HDb.out.below HB2.out) (by omega) HE.out.2 HV.out.2.1).mono ?_
      rintro e w3 ⟨z3, k3, c3, d3, rfl, hb3, H3⟩
      have HB3 := hid hb3
      have hk2 := H2.out.1; have hk3 := H3.out.1
      clear hb3
      go_wp2
      go_roundw
      case rel =>
        refine ⟨z2, k2, c2, a / 2, d2, z3, k3, c3, b / 2, d3, k + 1, rfl, rfl, by go_num, by omega, by omega, by omega, HW.out.trans ((HB2.out.trans (HB3.out.mono HB2.out.size)).mono HW.out.size), H2.out.2.below HB3.out, H3.out.2, ?_, ?_, half_half HV.out.2.2.1 HE.out.1, ?_⟩
        · have := HE.out; have := HV.out.1; omega
        · have := HE.out; have := HV.out.2.1; omega
        · rw [← HV.out.2.2.2, gcd_half2 HE.out.1 HE.out.2, Nat.pow_succ, Nat.mul_assoc, Nat.mul_comm 2 (2 ^ k)]
      case measure => simp [intOf]; omega
    · have hodd : a % 2 = 1 ∨ b % 2 = 1 := by omega
      have HOd := hid hodd
      have hcase : (xa % 2 == 0) = false ∨ (xa % 2 = 0 ∧ (xb % 2 == 0) = false) := by
        by_cases h1 : xa % 2 = 0
        · right; refine ⟨h1, by simp; intro h2; exact hev ⟨hpa.1 h1, hpb.1 h2⟩⟩
        · exact .inl (by simp; exact h1)
      obtain ⟨g0, hg0⟩ : ∃ g0, Nat.gcd a b = g0 := ⟨_, rfl⟩
      have HG0 := hid hg0; have HG1 : Hid (g0 * 2 ^ k = Nat.gcd A B) := by rw [← hg0]; exact HV.out.2.2.2
      clear hev hpa hpb hodd hg0
      rcases hcase with hcd | ⟨hcd, hcd2⟩
      all_goals
        go_wp2
        go_loopw [0, 1] (fun u v wr => ∃ (za : Option Addr) (na ca a : Nat) (fa : Nat → Int) (zb : Option Addr) (nb cb b : Nat) (fb : Nat → Int), u = .slice za na ca ∧ v = .slice zb nb cb ∧ na ≤ n + m ∧ nb ≤ n + m ∧ Hid (Below w.heap.size w wr) ∧ Hid (Dn wr za na fa a) ∧ Hid (Dn wr zb nb fb b) ∧ Hid (0 < b ∧ (a % 2 = 1 ∨ b % 2 = 1) ∧ Nat.gcd a b = g0)) (fun u v wr => dOf wr u + dOf wr v)
        case atStart => exact ⟨_, na, ca, a, fa, _, nb, cb, b, fb, rfl, rfl, by omega, by omega, HW.out, HDa.out, HDb.out, HV.out.2.1, HOd.out, HG0.out⟩
        case round =>
          clear hcd HDa HDb HW hca hcb HOd HG0 HV
          obtain ⟨za, na, ca, a, fa, zb, nb, cb, b, fb, rfl, rfl, hna, hnb, HW, HDa, HDb, HV⟩ := hrel
          obtain ⟨wr1, hwr⟩ : ∃ x : World, x = wr := ⟨wr, rfl⟩; subst hwr
          by_cases hz : na = 0
          · subst hz
            have ha0 := HDa.out.zero
            have hbg : b = g0 := by have := HV.out.2.2; rw [ha0, Nat.gcd_zero_left] at this; exact this
            have HBG := hid hbg
            clear ha0 hbg
            go_wp2_with fail
            refine (rshl_c zb nb cb (k / 32) k ((k % 32 : Nat) : Int) fb _ (by omega) (by omega) (by omega) (by omega) (by omega) HDb.out.rd HDb.out.dg).mono ?_
            rintro e w9 ⟨z9, k9, c9, d9, rfl, hb9, hr9, hk9, hd9, hf9, hv9⟩
            have hdn : Dn w9 z9 k9 d9 (Nat.gcd A B) := ⟨hr9, hd9, hf9, by
              rw [hv9, HDb.out.val, HBG.out, ← HG1.out, pd_pow, ← Int.pow_add, show ((k % 32 : Nat) : Int).toNat + 32 * (k / 32) = k by omega]
              simp⟩
            have hle := hdn.len (HA.out.below (HW.out.trans (hb9.mono HW.out.size))) (Nat.le_of_dvd HAp.out (Nat.gcd_dvd_left _ _))
            have H9 := hid hdn; have HB9 := hid hb9
            clear hdn hb9 hr9 hd9 hf9 hv9
            go_wp2
            go_ret
            exact ⟨z9, k9, c9, d9, rfl, HW.out.trans (HB9.out.mono HW.out.size), by omega, H9.out⟩
          · have hz0 : 0 < na := by omega
            have hzd : decide (0 < na) = true := decide_eq_true hz0
            have ha0 := HDa.out.pos' (by omega)
            have HA0 := hid ha0
            clear ha0
            go_wp2
            go_loopw [0] (fun u wr => ∃ (zc : Option Addr) (nc cc c : Nat) (fc : Nat → Int), u = .slice zc nc cc ∧ nc ≤ n + m ∧ Hid (Below wr1.heap.size wr1 wr) ∧ Hid (Dn wr zc nc fc c) ∧ Hid (0 < c ∧ c ≤ a ∧ (c % 2 = 1 ∨ b % 2 = 1) ∧ Nat.gcd c b = g0)) (fun u wr => dOf wr u)
            case atStart => exact ⟨za, na, ca, a, fa, rfl, hna, Below.refl _ _, HDa.out, HA0.out, Nat.le_refl _, HV.out.2⟩
            case round =>
              obtain ⟨zc, nc, cc, c, fc, rfl, hnc, HW2, HDc, HV2⟩ := hrel
              obtain ⟨wr2, hwr⟩ : ∃ x : World, x = wr := ⟨wr, rfl⟩; subst hwr
              have hnc0 := HDc.out.pos HV2.out.1
              obtain ⟨bc, oc, rfl⟩ := HDc.out.rd.at hnc0
              have hcc := HDc.out.rd.cell hnc0
              obtain ⟨xc, hxc⟩ : ∃ t, fc 0 = t := ⟨_, rfl⟩
              obtain ⟨xc0, xc1⟩ := HDc.out.dg 0 hnc0
              have hpc := HDc.out.par hnc0
              rw [hxc] at hcc xc0 xc1 hpc
              rw [Nat.add_zero] at hcc
              clear hxc
              by_cases hec : c % 2 = 0
              · have hec' : xc % 2 = 0 := hpc.2 hec
                have HE := hid hec
                clear hec hpc
                go_wp2_with fail
                refine (rhalf_c HDc.out (by omega) HE.out HV2.out.1).mono ?_
                rintro e w4 ⟨z4, k4, c4, d4, rfl, hb4, H4⟩
                have HB4 := hid hb4
                have hk4 := H4.out.1
                clear hb4
                go_wp2
                go_roundw
                case rel =>
                  have h1 := HV2.out.1; have h2 := HV2.out.2.1; have h3 := HE.out; have h4 := HV2.out.2.2.1
                  exact ⟨z4, k4, c4, c / 2, d4, rfl, by omega, HW2.out.trans (HB4.out.mono HW2.out.size), H4.out.2, by omega, by omega, by omega, (gcd_halfl h3 (by omega)).trans HV2.out.2.2.2⟩
                case measure =>
                  show dOf w4 (.slice z4 k4 c4) < dOf wr2 (.slice _ nc cc)
                  rw [H4.out.2.dOf, HDc.out.dOf]
                  have := HV2.out.1; omega
              · have hec' : (xc % 2 == 0) = false := by simp; intro h; exact hec (hpc.1 h)
                have HE := hid (show c % 2 = 1 by omega)
                clear hec hpc
                have HDb2 := hid (HDb.out.below HW2.out)
                go_wp2
                go_loopw [1] (fun v wr => ∃ (ze : Option Addr) (ne ce e : Nat) (fe : Nat → Int), v = .slice ze ne ce ∧ ne ≤ n + m ∧ Hid (Below wr2.heap.size wr2 wr) ∧ Hid (Dn wr ze ne fe e) ∧ Hid (0 < e ∧ e ≤ b ∧ Nat.gcd c e = g0)) (fun v wr => dOf wr v)
                case atStart => exact ⟨zb, nb, cb, b, fb, rfl, hnb, Below.refl _ _, HDb2.out, HV.out.1, Nat.le_refl _, HV2.out.2.2.2⟩
                case round =>
                  obtain ⟨ze, ne, ce, e', fe, rfl, hne, HW3, HDe, HV3⟩ := hrel
                  obtain ⟨wr3, hwr⟩ : ∃ x : World, x = wr := ⟨wr, rfl⟩; subst hwr
                  have hne0 := HDe.out.pos HV3.out.1
                  obtain ⟨be, oe, rfl⟩ := HDe.out.rd.at hne0
                  have hce := HDe.out.rd.cell hne0
                  obtain ⟨xe, hxe⟩ : ∃ t, fe 0 = t := ⟨_, rfl⟩
                  obtain ⟨xe0, xe1⟩ := HDe.out.dg 0 hne0
                  have hpe := HDe.out.par hne0
                  rw [hxe] at hce xe0 xe1 hpe
                  rw [Nat.add_zero] at hce
                  clear hxe hcc
                  by_cases hee : e' % 2 = 0
                  · have hee' : xe % 2 = 0 := hpe.2 hee
                    have HEe := hid hee
                    clear hee hpe
                    go_wp2_with fail
                    refine (rhalf_c HDe.out (by omega) HEe.out HV3.out.1).mono ?_
                    rintro e w5 ⟨z5, k5, c5, d5, rfl, hb5, H5⟩
                    have HB5 := hid hb5
                    have hk5 := H5.out.1
                    clear hb5
                    go_wp2
                    go_roundw
                    case rel =>
                      have h1 := HV3.out.1; have h2 := HV3.out.2.1; have h3 := HEe.out
                      exact ⟨z5, k5, c5, e' / 2, d5, rfl, by omega, HW3.out.trans (HB5.out.mono HW3.out.size), H5.out.2, by omega, by omega, (gcd_halfr HE.out h3).trans HV3.out.2.2⟩
                    case measure =>
                      show dOf w5 (.slice z5 k5 c5) < dOf wr3 (.slice _ ne ce)
                      rw [H5.out.2.dOf, HDe.out.dOf]
                      have := HV3.out.1; omega
                  · have hee' : (xe % 2 == 0) = false := by simp; intro h; exact hee (hpe.1 h)
                    have HEe := hid (show e' % 2 = 1 by omega)
                    clear hee hpe
                    have HDc3 := hid (HDc.out.below HW3.out)
                    have HWs := hid (HW.out.trans ((HW2.out.trans (HW3.out.mono HW2.out.size)).mono HW.out.size))
                    go_wp2_with fail
                    refine (rcmp_c _ _ nc ne cc ce fc fe _ (by omega) (by omega) HDc3.out.rd HDe.out.rd HDc3.out.dg HDe.out.dg HDc3.out.fm HDe.out.fm).mono ?_
                    rintro e w6 ⟨⟨q6, hq6⟩, c6, rfl, hord⟩
                    have hb6 := drewN_bel hq6
                    rw [HDc3.out.val, HDe.out.val] at hord
                    have HDc6 := hid (HDc3.out.below hb6); have HDe6 := hid (HDe.out.below hb6); have HW6 := hid (HWs.out.trans (hb6.mono HWs.out.size))
                    clear hq6 hb6
                    by_cases hlt : c < e'
                    · have hsg : decide (c6 < 0) = true := by
                        rcases hord with ⟨h1, h2⟩ | ⟨h1, h2⟩ | ⟨h1, h2⟩ <;> subst h1 <;> first | rfl | (exfalso; omega)
                      clear hord
                      go_wp2_with fail
                      refine (dSubO_c HDe6.out HDc6.out (by omega) (by omega) (by omega)).mono ?_
                      rintro e w7 ⟨z7, k7, c7, d7, rfl, hb7, H7⟩
                      have HB7 := hid hb7
                      have hk7 := H7.out.1
                      clear hb7 hsg
                      go_wp2
                      go_roundw
                      case rel =>
                        refine ⟨z7, k7, c7, e' - c, d7, _, nc, cc, c, fc, rfl, rfl, by omega, hnc, HW6.out.trans (HB7.out.mono HW6.out.size), H7.out.2.1, HDc6.out.below HB7.out, HV2.out.1, .inr HE.out, ?_⟩
                        rw [gcd_take (by omega), Nat.gcd_comm]; exact HV3.out.2.2
                      case measure =>
                        show dOf w7 (.slice z7 k7 c7) + dOf w7 (.slice _ nc cc) < dOf wr1 (.slice za na ca) + dOf wr1 (.slice zb nb cb)
                        rw [H7.out.2.1.dOf, (HDc6.out.below HB7.out).dOf, HDa.out.dOf, HDb.out.dOf]
                        have h1 := HV2.out; have h2 := HV3.out; omega
                    · have hsg : decide (c6 < 0) = false := by
                        rcases hord with ⟨h1, h2⟩ | ⟨h1, h2⟩ | ⟨h1, h2⟩ <;> subst h1 <;> first | rfl | (exfalso; omega)
                      clear hord
                      go_wp2_with fail
                      refine (dSubO_c HDc6.out HDe6.out (by omega) (by omega) (by omega)).mono ?_
                      rintro e w7 ⟨z7, k7, c7, d7, rfl, hb7, H7⟩
                      have HB7 := hid hb7
                      have hk7 := H7.out.1
                      clear hb7 hsg
                      go_wp2
                      go_roundw
                      case rel =>
                        refine ⟨z7, k7, c7, c - e', d7, _, ne, ce, e', fe, rfl, rfl, by omega, hne, HW6.out.trans (HB7.out.mono HW6.out.size), H7.out.2.1, HDe6.out.below HB7.out, HV3.out.1, .inr HEe.out, ?_⟩
                        rw [gcd_take (by omega)]; exact HV3.out.2.2
                      case measure =>
                        show dOf w7 (.slice z7 k7 c7) + dOf w7 (.slice _ ne ce) < dOf wr1 (.slice za na ca) + dOf wr1 (.slice zb nb cb)
                        rw [H7.out.2.1.dOf, (HDe6.out.below HB7.out).dOf, HDa.out.dOf, HDb.out.dOf]
                        have h1 := HV2.out; have h2 := HV3.out; omega
end Go.Proofs.Ytllpllebmknmpaa
namespace Go.Proofs.Ytllpllebmknmpaa
open Go.RowKit

theorem fromD_c {w : World} {ao : Option Addr} {n cap : Nat} {f : Nat → Int} (hn : n ≤ 32768) (hr : Rd .u64 w ao n f) (hf : Lm f n) :
    Calls Try.prog 60 #[.slice ao n cap] w fun e w' => ∃ z k c d, e = .returned (.slice z k c) ∧ Below w.heap.size w w' ∧ Hid (k ≤ 2 * n ∧ Dn w' z k d (vf f n).toNat) :=
  (from_c ao n cap f w (by omega) hr hf).mono (fun _ _ ⟨z, k, c, h1, h2, h3, h4, _, h5, h6, h7⟩ => ⟨z, k, c, _, h1, h2, h4, h3, h5, h6, by rw [h7]; have := vf_nonneg hf; omega⟩)
end Go.Proofs.Ytllpllebmknmpaa
