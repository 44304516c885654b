/-
  The walk of the statements' own look at answers that the document fixes (awake).
-/
import Derived.Test.YtjjbmioicliipabDoorA1
namespace Go.Proofs.YtjjbmioicliipabDoor
open Go.RowKit

/-- Two limbs. -/
def lim2 (x y : Int) : Nat → Int := fun j => if j = 0 then x else y
theorem lm_lim2 {x y : Int} (hx : 0 ≤ x ∧ x < 18446744073709551616) (hy : 0 ≤ y ∧ y < 18446744073709551616) (n : Nat) : Lm (lim2 x y) n := fun j _ => by
  unfold lim2; split
  · exact hx
  · exact hy
theorem vf_lim2 (x y : Int) : vf (lim2 x y) 2 = x + y * 18446744073709551616 := by simp [vf, pw, lim2]
theorem vf_one (x : Int) : vf (fun _ => x) 1 = x := by simp [vf, pw]
theorem rd_newP (w : World) (e : TypeId) (x y : Int) : Rd .u64 (w.alloc (.cells #[.int .u64 x, .int .u64 y] e)) (some ⟨w.heap.size, 0, none⟩) 2 (lim2 x y) :=
  Rd.mk (fun j hj => by
    rw [Nat.zero_add, World.cell?_alloc_new]
    rcases (show j = 0 ∨ j = 1 by omega) with rfl | rfl <;> simp [lim2])
theorem tg_new (w : World) (c : Array Value) : Tg (w.alloc (.cells c 32)) (some ⟨w.heap.size, 0, none⟩) := fun a ha => by
  cases ha; exact ⟨_, _, heap_alloc_new w _⟩
theorem Rd.alloc {k w ao n f} (h : Rd k w ao n f) (o : Obj) : Rd k (w.alloc o) ao n f := h.below ((Below.refl _ _).alloc (Nat.le_refl _) o) (Nat.le_refl _)
theorem below_alloc {w0 w : World} (h : Below w0.heap.size w0 w) (o : Obj) : Below w0.heap.size w0 (w.alloc o) := h.alloc h.size o
theorem fm1 {x : Int} (h : x ≠ 0) : Fm (fun _ => x) 1 := .inr h
theorem tens_zero : tens 0 = 10000000000000000000 := by simp [tens]
theorem tens_one : tens 1 = 100000000000000000000000000000000000000 := by simp [tens]
theorem text_64 : Lib.decDigits 18446744073709551616 = [49, 56, 52, 52, 54, 55, 52, 52, 48, 55, 51, 55, 48, 57, 53, 53, 49, 54, 49, 54] := by
  have hn : Lib.nDigits 18446744073709551616 = 20 := Lib.nDigits_unique 19 _ (by decide) (by decide)
  rw [Lib.decDigits_eq, hn]
  decide +kernel

/-- Text of 2^64. -/
theorem text_look (w : World) (htab : Tab w) : Calls Tryd.prog 14 #[.slice (some ⟨w.heap.size, 0, none⟩) 2 2] (w.alloc (.cells #[.int .u64 0, .int .u64 1] 32)) fun e w' => e = .returned (.tuple #[.string ⟨#[49, 56, 52, 52, 54, 55, 52, 52, 48, 55, 51, 55, 48, 57, 53, 53, 49, 54, 49, 54]⟩, .int .i64 0]) ∧ Below w.heap.size w w' := by
  have hl : lev ((64 * 2 + 62) / 63) = 2 := by decide +kernel
  have hbel : Below w.heap.size w (w.alloc (.cells #[.int .u64 0, .int .u64 1] 32)) := (Below.refl _ _).alloc (Nat.le_refl _) _
  refine (Text_c (some ⟨w.heap.size, 0, none⟩) 2 2 2 (lim2 0 1) 18446744073709551616 (w.alloc (.cells #[.int .u64 0, .int .u64 1] 32)) (by omega) (rd_newP w _ 0 1) (tg_new w _) (lm_lim2 (by omega) (by omega) 2) (.inr (by simp [lim2])) (by rw [vf_lim2]; rfl) (htab.below hbel htab.lt) hl.symm (by omega) (by omega) ?_).mono ?_
  · intro j hj X hX hXV
    rcases (show j = 0 ∨ j = 1 by omega) with rfl | rfl
    · rw [tens_zero]; exact divOk_small (by omega) (.inl (by omega))
    · rw [tens_one]; exact divOk_small (by omega) (.inr (by omega))
  · rintro e w' ⟨rfl, hb⟩
    refine ⟨by rw [text_64], hbel.trans (hb.mono ?_)⟩
    simp

/-- A number that was answered and can be read. -/
structure Got (w w' : World) (ao : Option Addr) (n : Nat) (f : Nat → Int) (V : Int) : Prop where
  bel : Below w.heap.size w w'
  rd : Rd .u64 w' ao n f
  lm : Lm f n
  fm : Fm f n
  le : n ≤ 4
  val : vf f n = V
theorem Res.got {C w0 w w' ao n cap f V} (h : Res C w w' ao n cap f) (hb : Below w0.heap.size w0 w) (hC : C ≤ 4) (hv : vf f n = V) : Got w0 w' ao n f V :=
  ⟨hb.trans (h.bel.mono hb.size), h.rd, h.lm, h.fm, by have := h.le; omega, hv⟩
theorem Got.below {w w' w'' ao n f V} (h : Got w w' ao n f V) (hb : Below w'.heap.size w' w'') : Got w w'' ao n f V :=
  ⟨h.bel.trans (hb.mono h.bel.size), h.rd.below hb (Nat.le_refl _), h.lm, h.fm, h.le, h.val⟩
theorem size_alloc1 (w : World) (o : Obj) : (w.alloc o).heap.size = w.heap.size + 1 := by simp

theorem add_look (w : World) : Calls Tryd.prog 15 #[.slice (some ⟨w.heap.size, 0, none⟩) 1 1, .slice (some ⟨w.heap.size + 1, 0, none⟩) 1 1] ((w.alloc (.cells #[.int .u64 18446744073709551615] 32)).alloc (.cells #[.int .u64 1] 32)) fun e w' => ∃ a n c f, e = .returned (.tuple #[.slice a n c, .int .i64 0]) ∧ Got w w' a n f 18446744073709551616 := by
  rw [← size_alloc1 w (.cells #[.int .u64 18446744073709551615] 32)]
  refine (Add_c _ _ 1 1 1 1 (fun _ => 18446744073709551615) (fun _ => 1) _ (by omega) (by omega) ((rd_new1 w _ _).alloc _) (rd_new1 _ _ _) (lm_const (by omega) (by omega) 1) (lm_const (by omega) (by omega) 1)).mono ?_
  rintro e w' ⟨a, n, c, f, er, rfl, hres, hcase⟩
  rcases hcase with ⟨_, _, rfl, hv⟩ | ⟨hn, _⟩
  · exact ⟨a, n, c, f, rfl, hres.got (below_alloc (below_alloc (Below.refl _ _) _) _) (by omega) (by rw [hv, vf_one, vf_one]; rfl)⟩
  · exact absurd ⟨fm1 (by omega), fm1 (by omega)⟩ hn
theorem div_look (w : World) : Calls Tryd.prog 11 #[.slice (some ⟨w.heap.size, 0, none⟩) 2 2, .slice (some ⟨w.heap.size + 1, 0, none⟩) 1 1] ((w.alloc (.cells #[.int .u64 0, .int .u64 1] 32)).alloc (.cells #[.int .u64 3] 32)) fun e w' => ∃ a1 n1 c1 f1 a2 n2 c2 f2, e = .returned (.tuple #[.slice a1 n1 c1, .slice a2 n2 c2, .int .i64 0]) ∧ Got w w' a1 n1 f1 6148914691236517205 ∧ Got w w' a2 n2 f2 1 := by
  rw [← size_alloc1 w (.cells #[.int .u64 0, .int .u64 1] 32)]
  refine (DivMod_of _ _ 2 1 2 1 (lim2 0 1) (fun _ => 3) _ (by omega) (by omega) ((rd_newP w _ _ _).alloc _) (rd_new1 _ _ _) (lm_lim2 (by omega) (by omega) 2) (lm_const (by omega) (by omega) 1) (.inr (by simp [lim2])) (fm1 (by omega)) (by omega) ?_).mono ?_
  · rw [vf_lim2, vf_one]; exact divOk_small (by omega) (.inl (by omega))
  · rintro e w' ⟨a1, k1, c1, q, a2, k2, c2, r, rfl, h1, h2, hv, r0, r1⟩
    rw [vf_lim2, vf_one] at hv
    rw [vf_one] at r1
    have hb := below_alloc (below_alloc (Below.refl w.heap.size w) (.cells #[.int .u64 0, .int .u64 1] 32)) (.cells #[.int .u64 3] 32)
    exact ⟨a1, k1, c1, q, a2, k2, c2, r, rfl, h1.got hb (by omega) (by omega), h2.got hb (by omega) (by omega)⟩
theorem gcd_look (w : World) : Calls Tryd.prog 7 #[.slice (some ⟨w.heap.size, 0, none⟩) 1 1, .slice (some ⟨w.heap.size + 1, 0, none⟩) 1 1] ((w.alloc (.cells #[.int .u64 12] 32)).alloc (.cells #[.int .u64 18] 32)) fun e w' => ∃ a n c f, e = .returned (.tuple #[.slice a n c, .int .i64 0]) ∧ Got w w' a n f 6 := by
  rw [← size_alloc1 w (.cells #[.int .u64 12] 32)]
  refine (Gcd_sw _ w.heap.size 0 1 1 1 (fun _ => 18) 12 _ (by omega) (rd_new1 _ _ _) (lm_const (by omega) (by omega) 1) (fm1 (by omega)) (by have := ((rd_new1 w 32 12).alloc (.cells #[.int .u64 18] 32)).cell (j := 0) (by omega); exact this) (by omega) (by omega) (by rw [vf_one]; decide)).mono ?_
  rintro e w' ⟨a, k, c, f, rfl, hres, hv⟩
  exact ⟨a, k, c, f, rfl, hres.got (below_alloc (below_alloc (Below.refl _ _) _) _) (by omega) (by rw [hv, vf_one]; decide)⟩
theorem sub_look (w : World) : Calls Tryd.prog 16 #[.slice (some ⟨w.heap.size, 0, none⟩) 1 1, .slice (some ⟨w.heap.size + 1, 0, none⟩) 1 1] ((w.alloc (.cells #[.int .u64 1] 32)).alloc (.cells #[.int .u64 2] 32)) fun e w' => ∃ a n c, e = .returned (.tuple #[.slice a n c, .int .i64 1]) ∧ Below w.heap.size w w' := by
  rw [← size_alloc1 w (.cells #[.int .u64 1] 32)]
  refine (Sub_c _ _ 1 1 1 1 (fun _ => 1) (fun _ => 2) _ (by omega) (by omega) ((rd_new1 w _ _).alloc _) (rd_new1 _ _ _) (lm_const (by omega) (by omega) 1) (lm_const (by omega) (by omega) 1)).mono ?_
  rintro e w' ⟨a, n, c, f, er, rfl, hres, hcase⟩
  rw [vf_one, vf_one] at hcase
  rcases hcase with ⟨_, _, hle, _⟩ | ⟨_, _, _, rfl, _⟩ | ⟨hn, _⟩
  · omega
  · have hb := below_alloc (below_alloc (Below.refl w.heap.size w) (.cells #[.int .u64 1] 32)) (.cells #[.int .u64 2] 32)
    exact ⟨a, n, c, rfl, hb.trans (hres.bel.mono hb.size)⟩
  · exact absurd ⟨fm1 (by omega), fm1 (by omega)⟩ hn
theorem same_look1 {w0 w : World} {ao : Option Addr} {n ca : Nat} {f : Nat → Int} {V : Int} (h : Got w0 w ao n f V) (x : Int) (hx : 0 < x ∧ x < 18446744073709551616) (hV : V = x) : Calls Tryd.prog 9 #[.slice ao n ca, .slice (some ⟨w.heap.size, 0, none⟩) 1 1] (w.alloc (.cells #[.int .u64 x] 32)) fun e w' => e = .returned (.bool true) ∧ Below w.heap.size w w' := by
  refine (same_true ao _ n 1 ca 1 f (fun _ => x) _ (by have := h.le; omega) (by omega) (h.rd.alloc _) (rd_new1 _ _ _) h.lm (lm_const (by omega) hx.2 1) h.fm (fm1 (by omega)) (by rw [h.val, vf_one]; exact hV)).mono ?_
  rintro e w' ⟨rfl, q, rfl⟩
  exact ⟨rfl, below_drewN (below_alloc (Below.refl _ _) _) q⟩
theorem same_look2 {w0 w : World} {ao : Option Addr} {n ca : Nat} {f : Nat → Int} (h : Got w0 w ao n f 18446744073709551616) : Calls Tryd.prog 9 #[.slice ao n ca, .slice (some ⟨w.heap.size, 0, none⟩) 2 2] (w.alloc (.cells #[.int .u64 0, .int .u64 1] 32)) fun e w' => e = .returned (.bool true) ∧ Below w.heap.size w w' := by
  refine (same_true ao _ n 2 ca 2 f (lim2 0 1) _ (by have := h.le; omega) (by omega) (h.rd.alloc _) (rd_newP _ _ _ _) h.lm (lm_lim2 (by omega) (by omega) 2) h.fm (.inr (by simp [lim2])) (by rw [h.val, vf_lim2]; rfl)).mono ?_
  rintro e w' ⟨rfl, q, rfl⟩
  exact ⟨rfl, below_drewN (below_alloc (Below.refl _ _) _) q⟩

set_option maxRecDepth 100000 in
set_option maxHeartbeats 4000000 in
theorem awake_c (w : World) (htab : Tab w) : Calls Tryd.prog 5 #[] w fun e w' => e = .returned (.bool true) ∧ Below w.heap.size w w' := by
  have HT := hid htab
  clear htab
  go_enter Tryd.func5, Tryd.ntmps5
  go_wp2_with fail
  refine (add_look w).mono ?_
  rintro e w1 ⟨a1, n1, c1, f1, rfl, g1⟩
  have HT1 := hid (HT.out.below g1.bel HT.out.lt)
  have G1 := hid g1
  clear g1
  go_wp2_with fail
  refine (div_look w1).mono ?_
  rintro e w2 ⟨a2, n2, c2, f2, a3, n3, c3, f3, rfl, g2, g3⟩
  have HT2 := hid (HT1.out.below g2.bel HT1.out.lt)
  have G2 := hid g2; have G3 := hid g3
  clear g2 g3
  go_wp2_with fail
  refine (gcd_look w2).mono ?_
  rintro e w3 ⟨a4, n4, c4, f4, rfl, g4⟩
  have HT3 := hid (HT2.out.below g4.bel HT2.out.lt)
  have G4 := hid g4
  clear g4
  go_wp2_with fail
  refine (text_look w3 HT3.out).mono ?_
  rintro e w4 ⟨rfl, hb4⟩
  go_wp2_with fail
  refine (sub_look w4).mono ?_
  rintro e w5 ⟨a5, n5, c5, rfl, hb5⟩
  have H1 := hid ((((G1.out.below G2.out.bel).below G4.out.bel).below hb4).below hb5)
  have H2 := hid (((G2.out.below G4.out.bel).below hb4).below hb5)
  have H3 := hid (((G3.out.below G4.out.bel).below hb4).below hb5)
  have H4 := hid ((G4.out.below hb4).below hb5)
  clear G1 G2 G3 G4 hb4 hb5 HT HT1 HT2 HT3
  go_wp2_with fail
  refine (same_look2 H1.out).mono ?_
  rintro e w6 ⟨rfl, hb6⟩
  have K2 := hid (H2.out.below hb6); have K3 := hid (H3.out.below hb6); have K4 := hid (H4.out.below hb6)
  have K1 := hid (H1.out.bel.trans (hb6.mono H1.out.bel.size))
  clear H1 H2 H3 H4 hb6
  go_wp2_with fail
  refine (same_look1 K2.out 6148914691236517205 (by omega) rfl).mono ?_
  rintro e w7 ⟨rfl, hb7⟩
  have L3 := hid (K3.out.below hb7); have L4 := hid (K4.out.below hb7)
  have L1 := hid (K1.out.trans (hb7.mono K1.out.size))
  clear K1 K2 K3 K4 hb7
  go_wp2_with fail
  refine (same_look1 L3.out 1 (by omega) rfl).mono ?_
  rintro e w8 ⟨rfl, hb8⟩
  have M4 := hid (L4.out.below hb8)
  have M1 := hid (L1.out.trans (hb8.mono L1.out.size))
  clear L1 L3 L4 hb8
  go_wp2_with fail
  refine (same_look1 M4.out 6 (by omega) rfl).mono ?_
  rintro e w9 ⟨rfl, hb9⟩
  have P1 := hid (M1.out.trans (hb9.mono M1.out.size))
  clear M1 M4 hb9
  go_wp2
  go_ret
  exact ⟨rfl, P1.out⟩
end Go.Proofs.YtjjbmioicliipabDoor
