/-
  Walks of package nat's texts: levels, bases. Walks of package nat's texts: putDigits. What the rows of this seat share: how an argument that is a list of limbs is opened, the listed tables, a world in which they lie. How an argument that is a whole number is opened. Walks of package nat's long division, its parts: addWord and addTo with what goes over, mulSubFrom, guess. The walk of package nat's guess: a digit of a long quotient. The walk of package nat's takeOut: a digit of a long quotient, and what is left. The same words for digits to the base 2^32. Numbers times 2^n, limb by limb and digit by digit; a list made with room behind it. No Go text is named here. Walks of package nat's shl and Shl: a number times 2^n. The walk of package nat's shrBits: a number by 2^n. The walk of package nat's divLong: quotient and rest of long numbers.
-/
import Derived.Test.YtlpmfmphglgocaaGreatDoorZ0
import Derived.Test.YtlpmfmphglgocaaGreatDoorZ1
import Derived.Test.YtlpmfmphglgocaaGreatDoorCards
import Derived.Test.YtlpmfmphglgocaaGreatDoorTie
import Derived.ProofKit
import Derived.OpenShut
import Derived.Deep.DeepHandedRow
import Derived.Lib.LaidTab
import Derived.ChangeSame
import Derived.BigQuiet
namespace Go.Proofs.YtlpmfmphglgocaaGreatDoor
open Go.RowKit

/-- The levels that so many pieces ask. -/
def lev (n : Nat) : Nat := if n ≤ 1 then 0 else Lib.bitLen (n - 1)

set_option maxHeartbeats 400000 in
theorem levels_c (n : Nat) (z : Int) (w : World) (hz : z = n) (hn : n ≤ 140737488355328) : Calls Tryz.prog 119 #[.int .i64 z] w fun e w' => e = .returned (.int .i64 (lev n)) ∧ w' = w := by
  subst hz
  by_cases h : n ≤ 1
  · have E := hid (show lev n = 0 by simp [lev, h])
    go_enter Tryz.func119, Tryz.ntmps119
    go_wp2
    go_ret
    exact ⟨by rw [E.out]; rfl, rfl⟩
  · have c := Tryz.bits_Len ((n : Int) - 1) w (by omega) (by omega)
    have e : ((n : Int) - 1).toNat = n - 1 := by omega
    rw [e] at c
    have E := hid (show lev n = Lib.bitLen (n - 1) by simp [lev, h])
    have C := hid c
    clear c e
    go_enter Tryz.func119, Tryz.ntmps119
    go_wp2_with fail
    refine C.out.mono ?_
    rintro e w' ⟨rfl, rfl⟩
    go_wp2
    go_ret
    exact ⟨by rw [E.out]; rfl, rfl⟩

/-- The slice's block is a row of limbs. -/
def Tg (w : World) (ao : Option Addr) : Prop := ∀ a, ao = some a → ∃ arr fr, w.heap[a.block]? = some (.cells arr 28 fr)
/-- A number in memory, of at most C limbs, in form. -/
def Num (w : World) (v : Value) (C : Nat) (V : Int) : Prop := ∃ ao n cap f, v = .slice ao n cap ∧ Rd .u64 w ao n f ∧ Tg w ao ∧ Lm f n ∧ Fm f n ∧ n ≤ C ∧ vf f n = V ∧ n ≤ cap ∧ cap ≤ 9223372036854775807
theorem Tg.und {w ao} (h : Tg w ao) : Und ao w.heap.size := fun a ha => by
  obtain ⟨arr, fr, e⟩ := h a ha
  exact (Array.getElem?_eq_some_iff.1 e).1
theorem Tg.below {w w' ao} (h : Tg w ao) (hb : Below w.heap.size w w') : Tg w' ao := fun a ha => by
  obtain ⟨arr, fr, e⟩ := h a ha
  exact ⟨arr, fr, by rw [hb.block _ (Array.getElem?_eq_some_iff.1 e).1]; exact e⟩
theorem Num.below {w w' v C V} (h : Num w v C V) (hb : Below w.heap.size w w') : Num w' v C V := by
  obtain ⟨ao, n, cap, f, rfl, h1, ht, h2, h3, h4, h5⟩ := h
  exact ⟨ao, n, cap, f, rfl, h1.below hb (Nat.le_refl _), ht.below hb, h2, h3, h4, h5⟩
/-- Another row was written, whose elements are no limbs. -/
theorem Tg.off {w ao g} (h : Tg w ao) {cur e fr} (hg : w.heap[g]? = some (.cells cur e fr)) (he : e ≠ 28) : Off ao g := fun a ha hag => by
  obtain ⟨arr, fr', e'⟩ := h a ha
  rw [hag, hg] at e'
  simp at e'
  exact he e'.2.1
theorem Num.only {w w' v C V g} (h : Num w v C V) (hb : Only g w w') {cur e fr} (hg : w.heap[g]? = some (.cells cur e fr)) (he : e ≠ 28) : Num w' v C V := by
  obtain ⟨ao, n, cap, f, rfl, h1, ht, h2, h3, h4, h5⟩ := h
  have ho := ht.off hg he
  refine ⟨ao, n, cap, f, rfl, h1.only hb ho, fun a ha => ?_, h2, h3, h4, h5⟩
  obtain ⟨arr, fr', e'⟩ := ht a ha
  exact ⟨arr, fr', by rw [hb.block _ (Array.getElem?_eq_some_iff.1 e').1 (ho a ha)]; exact e'⟩
theorem Num.grown {w w' v C V row} (h : Num w v C V) (hb : w.grownBy w' row) (hg : ∀ g, row = some g → ∃ cur fr, w.heap[g]? = some (.cells cur 22 fr)) : Num w' v C V := by
  cases row with
  | none => exact h.below ⟨hb.os, hb.tape, hb.output, hb.size, fun k hk => hb.block k hk (by simp)⟩
  | some g =>
    obtain ⟨cur, fr, e⟩ := hg g rfl
    exact h.only (g := g) ⟨hb.os, hb.tape, hb.output, hb.size, fun k hk hn => hb.block k hk (by simpa using hn)⟩ e (by decide)
theorem own_tag {w : World} {base e n v xs} (h : w.ownsRow base e 1 v n xs) : ∀ g, v.ownBlock = some g → ∃ cur fr, w.heap[g]? = some (.cells cur e fr) := by
  intro g hg
  rcases h.2 with ⟨rfl, _⟩ | ⟨g', cap, cur, rfl, hb, hgg, _⟩
  · simp [Value.ownBlock] at hg
  · simp [Value.ownBlock] at hg
    subst hg
    exact ⟨cur, _, hgg⟩
theorem Res.num {C w w' ao n cap f} (h : Res C w w' ao n cap f) (hC : C ≤ 9223372036854775807) : Num w' (.slice ao n cap) C (vf f n) := by
  refine ⟨ao, n, cap, f, rfl, h.rd, fun a ha => ?_, h.lm, h.fm, h.le, rfl, h.ncap.1, by have := h.ncap; omega⟩
  rcases h.own with ⟨rfl, _⟩ | ⟨g, rfl, _, _, _, _, hb⟩
  · cases ha
  · cases ha
    obtain ⟨arr, e, _⟩ := hb
    exact ⟨arr, _, e⟩
theorem Num.mono {w v C C' V} (h : Num w v C V) (hC : C ≤ C') : Num w v C' V := by
  obtain ⟨ao, n, cap, f, rfl, h1, ht, h2, h3, h4, h5⟩ := h
  exact ⟨ao, n, cap, f, rfl, h1, ht, h2, h3, by omega, h5⟩
theorem snoc_get {vs : List Value} {v u : Value} {j : Nat} (h : (vs ++ [v])[j]? = some u) : vs[j]? = some u ∨ j = vs.length ∧ u = v := by
  rcases Nat.lt_trichotomy j vs.length with hl | rfl | hl
  · rw [List.getElem?_append_left hl] at h; exact .inl h
  · simp at h; exact .inr ⟨rfl, h.symm⟩
  · rw [List.getElem?_eq_none (by simp; omega)] at h; cases h

/-- The base of so many doublings. -/
def tens (j : Nat) : Int := 10 ^ (19 * 2 ^ j)
theorem tens_succ (j : Nat) : tens (j + 1) = tens j * tens j := by
  unfold tens
  rw [← Int.pow_add, Nat.pow_succ]; congr 1; omega
/-- The bases, in memory. -/
def Bas (w : World) (bo : Option Addr) (c : Nat) : Prop := ∀ j, j < c → ∃ b u arr fr, bo = some ⟨b, 0, none⟩ ∧ w.heap[b]? = some (.cells arr 22 fr) ∧ w.cell? ⟨b, j, none⟩ = some u ∧ Num w u (2 ^ j) (tens j)
theorem Bas.take {w bo c c'} (h : Bas w bo c) (hc : c' ≤ c) : Bas w bo c' := fun j hj => h j (by omega)
theorem Bas.below {w w' bo c} (h : Bas w bo c) (hb : Below w.heap.size w w') : Bas w' bo c := fun j hj => by
  obtain ⟨b, u, arr, fr, e1, e2, e3, e4⟩ := h j hj
  have hl := (Array.getElem?_eq_some_iff.1 e2).1
  exact ⟨b, u, arr, fr, e1, (hb.block b hl).trans e2, (World.cell?_of_block (hb.block b hl)).trans e3, e4.below hb⟩
theorem Bas.only {w w' bo c g} (h : Bas w bo c) (hb : Only g w w') {cur e fr} (hg : w.heap[g]? = some (.cells cur e fr)) (he : e ≠ 28) (he2 : e ≠ 22) : Bas w' bo c := fun j hj => by
  obtain ⟨b, u, arr, fr, e1, e2, e3, e4⟩ := h j hj
  have hl := (Array.getElem?_eq_some_iff.1 e2).1
  have hbg : b ≠ g := fun h => by
    rw [h, hg] at e2
    simp at e2
    exact he2 e2.2.1
  exact ⟨b, u, arr, fr, e1, (hb.block b hl hbg).trans e2, (World.cell?_of_block (hb.block b hl hbg)).trans e3, e4.only hb hg he⟩
theorem Tryz.infoSl : (Tryz.prog.info? 22).map (fun i => (i.zero, i.size, i.bytes)) = some (some (.slice none 0 0), 1, 24) := by kernel_rfl

set_option maxRecDepth 100000 in
set_option maxHeartbeats 2000000 in
/-- bases: the bases of 1, 2, 4 .. pieces. -/
theorem bases_c (count : Nat) (w : World) (hc : count ≤ 40) :
    Calls Tryz.prog 121 #[.int .i64 count] w fun e w' => ∃ (bo : Option Addr) (cap : Nat), e = .returned (.slice bo count cap) ∧ Below w.heap.size w w' ∧ count ≤ cap ∧ cap ≤ maxLen ∧ (bo = none → cap = 0) ∧ Bas w' bo count := by
  obtain ⟨i0, hi, hz0, hz1, hz2⟩ := info_parts Tryz.infoSl
  go_enter Tryz.func121, Tryz.ntmps121
  go_wp2
  go_loopw [3, 4, 8] (fun v vb c wr => ∃ (k : Nat) (vs : List Value), k ≤ count ∧ c = .int .i64 k ∧ Below w.heap.size w wr ∧ Hid (wr.ownsRow w.heap.size 22 1 v k vs) ∧ Hid (∀ j u, vs[j]? = some u → Num wr u (2 ^ j) (tens j)) ∧ Hid (Num wr vb (2 ^ (k - 1)) (tens (k - 1)))) (fun _ _ c _ => count - (intOf c).toNat)
  case atStart =>
    refine ⟨0, [], by omega, rfl, (Below.refl _ _).alloc (Nat.le_refl _) _, World.ownsRow_nil _ _ _ _, fun j u h => by simp at h, ?_⟩
    refine ⟨_, 1, 1, fun _ => 10000000000000000000, rfl, rd_new1 w _ _, fun a ha => ?_, lm_const (by decide) (by decide) 1, .inr (by show (10000000000000000000 : Int) ≠ 0; decide), by decide, ?_, by decide, by decide⟩
    · cases ha; exact ⟨_, _, heap_alloc_new w _⟩
    · simp [vf, pw, tens]
  case round =>
    obtain ⟨k, vs, hk, rfl, hbl, OO, NA, HB⟩ := hrel
    by_cases hlt : k < count
    · obtain ⟨ab, nb, cb, fb, hvb, hr, ht, hl, hf, hn, hv, hcb1, hcb2⟩ := HB.out
      subst hvb
      have RB := hid hr; have TB := hid ht; have LB := hid hl; have FB := hid hf; have VB := hid hv
      clear hr ht hl hf hv
      by_cases h0 : k = 0
      · subst h0
        have NB := HB
        clear HB RB TB LB FB VB
        go_wp2_with (at_builtin; refine wpList_append_own _ rfl (.tmp 16) (.tmp 18) 130 rfl w.heap.size 22 i0 (.slice none 0 0) 1 24 Tryz.underlying130 hi hz0 hz1 hz2 rfl (by decide) _ 0 vs rfl (World.ownsRow.alloc OO.out _) ⟨wr.heap.size, 0, none⟩ 1 1 [.slice ab nb cb] rfl rfl ?c1 ?c2 ?c3 ?c4 ?c5 ?_)
        case c1 =>
          intro j u hj
          match j, hj with
          | 0, hj => simp at hj; subst hj; simp [Addr.add]
        case c2 => intro u hu; simp at hu; subst hu; rfl
        case c3 => unfold maxLen; omega
        case c4 => omega
        case c5 => have := hbl.size; simp; omega
        intro v' w' hown hgr _
        have hba : Below wr.heap.size wr (wr.alloc _) := (Below.refl _ _).alloc (Nat.le_refl _) (.cells #[.slice ab nb cb] 22)
        have tag := own_tag (World.ownsRow.alloc OO.out (.cells #[.slice ab nb cb] 22))
        have N2 := hid (show Num w' (.slice ab nb cb) (2 ^ 0) (tens 0) from (NB.out.below hba).grown hgr tag)
        have A2 := hid (show ∀ j u, (vs ++ [.slice ab nb cb])[j]? = some u → Num w' u (2 ^ j) (tens j) from fun j u hu => by
          rcases snoc_get hu with h | ⟨rfl, rfl⟩
          · exact ((NA.out j u h).below hba).grown hgr tag
          · rw [show vs.length = 0 by have := OO.out.1; omega]; exact N2.out)
        have hbl2 : Below w.heap.size w w' := (hbl.alloc hbl.size _).grown hgr (by have := hbl.size; simp; omega) (fun g hg => (World.ownsRow.lt OO.out g hg).1)
        have HO2 := hid hown
        clear hown hgr tag hba OO NA NB
        go_wp2
        go_roundw
        case rel => exact ⟨1, vs ++ [Value.slice ab nb cb], by omega, by go_num, hbl2, HO2.out, A2.out, N2.out⟩
        case measure => simp [intOf]; omega
      · have hnb : nb ≤ 2 ^ (count - 2) := Nat.le_trans hn (Nat.pow_le_pow_right (by omega) (by omega))
        have hnb2 : nb ≤ 2 ^ 38 := Nat.le_trans hnb (Nat.pow_le_pow_right (by omega) (by omega))
        have hnb3 : nb ≤ 274877906944 := hnb2
        have hgt : (0 : Int) < k := by omega
        clear HB
        have C := hid (mul_c ab ab nb nb cb cb fb fb wr (by omega) (by omega) hcb1 hcb1 hcb2 hcb2 RB.out RB.out LB.out LB.out)
        go_wp2_with fail
        refine C.out.mono ?_
        clear C RB TB LB FB
        rintro e w1 ⟨ab, nb', cb, f1, rfl, hres, hv1⟩
        rw [VB.out, ← tens_succ, show k - 1 + 1 = k by omega] at hv1
        have NB := hid (show Num w1 (.slice ab nb' cb) (2 ^ k) (tens k) from by
          have := hres.num (by omega)
          rw [hv1] at this
          exact this.mono (by have : 2 ^ k = 2 ^ (k - 1) * 2 := by rw [← Nat.pow_succ, show (k - 1).succ = k by omega]
                              omega))
        have hb1 := hres.bel
        have OO' := hid (World.ownsRow.kept OO.out ⟨hb1.os, hb1.tape, hb1.output, hb1.size, fun k hk _ => hb1.block k hk⟩ (row := none) (by
          cases hvv : Value.ownBlock _ with
          | none => exact .inl rfl
          | some x => exact .inr (by simp)))
        have NA' := hid (fun j u h => (NA.out j u h).below hb1)
        have hbl' := hbl.trans (hb1.mono hbl.size)
        clear OO NA hbl hres hv1 VB hb1
        have OO := OO'; have NA := NA'; have hbl := hbl'
        clear OO' NA' hbl'
        go_wp2_with (at_builtin; refine wpList_append_own _ rfl (.tmp 16) (.tmp 18) 130 rfl w.heap.size 22 i0 (.slice none 0 0) 1 24 Tryz.underlying130 hi hz0 hz1 hz2 rfl (by decide) _ k vs rfl (World.ownsRow.alloc OO.out _) ⟨w1.heap.size, 0, none⟩ 1 1 [.slice ab nb' cb] rfl rfl ?d1 ?d2 ?d3 ?d4 ?d5 ?_)
        case d1 =>
          intro j u hj
          match j, hj with
          | 0, hj => simp at hj; subst hj; simp [Addr.add]
        case d2 => intro u hu; simp at hu; subst hu; rfl
        case d3 => unfold maxLen; omega
        case d4 => omega
        case d5 => have := hbl.size; simp; omega
        intro v' w' hown hgr _
        have hba : Below w1.heap.size w1 (w1.alloc _) := (Below.refl _ _).alloc (Nat.le_refl _) (.cells #[.slice ab nb' cb] 22)
        have tag := own_tag (World.ownsRow.alloc OO.out (.cells #[.slice ab nb' cb] 22))
        have N2 := hid (show Num w' (.slice ab nb' cb) (2 ^ k) (tens k) from (NB.out.below hba).grown hgr tag)
        have A2 := hid (show ∀ j u, (vs ++ [.slice ab nb' cb])[j]? = some u → Num w' u (2 ^ j) (tens j) from fun j u hu => by
          rcases snoc_get hu with h | ⟨rfl, rfl⟩
          · exact ((NA.out j u h).below hba).grown hgr tag
          · rw [show vs.length = k by have := OO.out.1; omega]; exact N2.out)
        have hbl2 : Below w.heap.size w w' := (hbl.alloc hbl.size _).grown hgr (by have := hbl.size; simp; omega) (fun g hg => (World.ownsRow.lt OO.out g hg).1)
        have HO2 := hid hown
        clear hown hgr tag hba OO NA NB
        go_wp2
        go_roundw
        case rel => exact ⟨k + 1, vs ++ [Value.slice ab nb' cb], by omega, by go_num, hbl2, HO2.out, A2.out, N2.out⟩
        case measure => simp [intOf]; omega
    · have hkc : k = count := by omega
      subst hkc
      have hlen := OO.out.1
      rcases OO.out.2 with ⟨hv, hk0⟩ | ⟨g, cap, cur, hv, hb, hg, hn, hm, hs, ht⟩
      · subst hv
        subst hk0
        clear OO HB
        go_wp2
        go_ret
        exact ⟨none, 0, rfl, hbl, by omega, by unfold maxLen; omega, fun _ => rfl, fun j hj => by omega⟩
      · subst hv
        have HG := hid hg; have HT := hid ht; have HS := hid hs
        clear OO HB hg ht hs
        go_wp2
        go_ret
        refine ⟨some ⟨g, 0, none⟩, cap, rfl, hbl, hn, hm, (fun h => by cases h), fun j hj => ?_⟩
        have hu : vs[j]? = some (vs[j]'(by omega)) := List.getElem?_eq_getElem (by omega)
        have hnum := NA.out j _ hu
        have hg := HG.out
        refine ⟨g, _, cur, _, rfl, hg, ?_, hnum⟩
        rw [← hu, ← HT.out, List.getElem?_take, if_pos (by omega)]
        simp [World.cell?, hg]
end Go.Proofs.YtlpmfmphglgocaaGreatDoor
namespace Go.Proofs.YtlpmfmphglgocaaGreatDoor
open Go.RowKit

/-- The table of powers of ten lies as the program's text lays it. -/
def Tab (w : World) : Prop := Lib.TabIs Tryz.prog w "internal/strconv.uint64pow10" .u64 Lib.pow10Tab
theorem tab_gl : Tryz.prog.globalNamed "internal/strconv.uint64pow10" = some 5 := by kernel_rfl
theorem Tab.of {w w' : World} (h : Tab w) (he : w'.heap[5]? = w.heap[5]?) : Tab w' := by
  unfold Tab Lib.TabIs World.var? at *
  rw [tab_gl] at h ⊢
  simp only [Option.bind_some] at h ⊢
  rw [he]; exact h
theorem Tab.lt {w : World} (h : Tab w) : 5 < w.heap.size := by
  unfold Tab Lib.TabIs World.var? at h
  rw [tab_gl] at h
  simp only [Option.bind_some] at h
  rcases Nat.lt_or_ge 5 w.heap.size with h' | h'
  · exact h'
  · rw [Array.getElem?_eq_none h'] at h; simp at h
theorem Tab.below {w w' : World} {B : Nat} (h : Tab w) (hb : Below B w w') (hB : 5 < B) : Tab w' := h.of (hb.block _ hB)
theorem Tab.only {w w' : World} {g : Nat} (h : Tab w) (hb : Only g w w') (hg : 5 < g) : Tab w' := h.of (hb.block _ h.lt (by omega))

/-- divMod does its work at these numbers. -/
def DivOk (X Y : Int) : Prop := ∀ (ao bo : Option Addr) (n m ca cb : Nat) (f h : Nat → Int) (w : World), n ≤ 8796093022208 → m ≤ 8796093022208 → Rd .u64 w ao n f → Rd .u64 w bo m h → Lm f n → Lm h m → Fm f n → Fm h m → vf f n = X → vf h m = Y →
    Calls Tryz.prog 83 #[.slice ao n ca, .slice bo m cb] w fun e w' => ∃ a1 k1 c1 q a2 k2 c2 r, e = .returned (.tuple #[.slice a1 k1 c1, .slice a2 k2 c2]) ∧ Res n w w' a1 k1 c1 q ∧ Res (n + 1) w w' a2 k2 c2 r ∧ vf f n = vf q k1 * vf h m + vf r k2 ∧ 0 ≤ vf r k2 ∧ vf r k2 < vf h m
theorem dgi_hi {V H R c : Nat} (hV : V = H * 10 ^ c + R) (hR : R < 10 ^ c) (e : Nat) : dgi H e = dgi V (c + e) := by
  unfold dgi
  have : V / 10 ^ (c + e) = H / 10 ^ e := by
    rw [Nat.pow_add, ← Nat.div_div_eq_div_mul, hV]
    congr 1
    rw [Nat.add_comm, Nat.add_mul_div_right _ _ (Nat.pow_pos (by omega)), Nat.div_eq_of_lt hR]; omega
  rw [this]
theorem dgi_lo {V H R c : Nat} (hV : V = H * 10 ^ c + R) (e : Nat) (he : e < c) : dgi R e = dgi V e := by
  unfold dgi
  have h1 : 10 ^ c = 10 ^ e * (10 * 10 ^ (c - e - 1)) := by
    rw [← Nat.pow_succ', ← Nat.pow_add]; congr 1; omega
  have : V / 10 ^ e % 10 = R / 10 ^ e % 10 := by
    rw [hV, h1, ← Nat.mul_assoc, Nat.mul_comm H, Nat.mul_assoc, Nat.add_comm, Nat.add_mul_div_left _ _ (Nat.pow_pos (by omega))]
    rw [← Nat.mul_assoc, Nat.mul_comm H 10, Nat.mul_assoc, Nat.add_mul_mod_self_left]
  rw [this]

/-- A number in memory, of at most C limbs, in form; whatever block it lies in. -/
def Nu (w : World) (v : Value) (C : Nat) (V : Int) : Prop := ∃ ao n cap f, v = .slice ao n cap ∧ Rd .u64 w ao n f ∧ Lm f n ∧ Fm f n ∧ n ≤ C ∧ vf f n = V ∧ n ≤ cap ∧ cap ≤ 9223372036854775807
theorem Num.nu {w v C V} (h : Num w v C V) : Nu w v C V := by
  obtain ⟨ao, n, cap, f, rfl, h1, _, h2, h3, h4, h5⟩ := h
  exact ⟨ao, n, cap, f, rfl, h1, h2, h3, h4, h5⟩
theorem Nu.below {w w' v C V} (h : Nu w v C V) (hb : Below w.heap.size w w') : Nu w' v C V := by
  obtain ⟨ao, n, cap, f, rfl, h1, h2, h3, h4, h5⟩ := h
  exact ⟨ao, n, cap, f, rfl, h1.below hb (Nat.le_refl _), h2, h3, h4, h5⟩

set_option maxRecDepth 100000 in
set_option maxHeartbeats 2000000 in
/-- putDigits: the digits of a number below the last base squared. -/
theorem putDigits_c (M : Int) (c : Nat) : ∀ (_ : ∀ j, j < c → ∀ X, 0 ≤ X → X ≤ M → DivOk X (tens j)) (g o L cap N : Nat) (t : Nat → Int) (ao : Option Addr) (n ca C : Nat) (V : Nat) (bo : Option Addr) (cb : Nat) (w : World) (_ : Blk .u8 5 w g N t) (_ : o + L ≤ N) (_ : N ≤ 140737488355328) (_ : L = 19 * 2 ^ c) (_ : L ≤ cap) (_ : cap ≤ 140737488355328)
    (_ : Nu w (.slice ao n ca) C V) (_ : C + c ≤ 4398046511104) (_ : V < 10 ^ L) (_ : (V : Int) ≤ M) (_ : Bas w bo c) (_ : c ≤ cb) (_ : cb ≤ maxLen) (_ : c ≤ 30) (_ : Tab w) (_ : 5 < g),
    Calls Tryz.prog 120 #[.slice (some ⟨g, o, none⟩) L cap, .slice ao n ca, .slice bo c cb] w fun e w' => e = .returned (.tuple #[]) ∧ Only g w w' ∧
      ∃ t', Blk .u8 5 w' g N t' ∧ (∀ j, j < o ∨ o + L ≤ j → t' j = t j) ∧ (∀ j, j < L → t' (o + j) = dgi V (L - 1 - j)) := by
  induction c with
  | zero =>
    intro hdiv g o L cap N t ao n ca C V bo cb w hb ho hN hL hcap hcm hnum hC hV hVM hbas hcb hcbm hc30 htab hg
    simp at hL
    subst hL
    obtain ⟨ao', n', ca', f, hv, hr, hl, hf, hn, hvf, _⟩ := hnum
    cases hv
    have hV64 : V < 18446744073709551616 := by have : 10 ^ 19 < 18446744073709551616 := by decide
                                               omega
    have hn1 : n ≤ 1 := by
      refine vf_len (f := f) (g := fun _ => (V : Int)) (m := 1) hl (lm_const (by omega) (by omega) 1) hf ?_
      rw [hvf]; simp [vf, pw]
    have he : ext f n 0 = V := by
      rcases (show n = 0 ∨ n = 1 by omega) with rfl | rfl
      · simp [vf] at hvf; rw [ext_out _ _ _ (by omega)]; omega
      · rw [ext_in _ _ _ (by omega)]; simpa [vf, pw] using hvf
    have c1 := limbAt_c ao n ca f 0 w (by omega) (by omega) hr
    rw [he] at c1
    have c2 := putPiece_c g o 19 cap N t V w hb ho hN (by omega) hcap hcm hV hV64 htab
    have C1 := hid c1; have C2 := hid c2
    clear c1 c2 hb hr hl hf hvf he hbas htab hdiv hV
    go_enter Tryz.func120, Tryz.ntmps120
    go_wp2_with fail
    refine C1.out.mono ?_
    rintro e w1 ⟨rfl, rfl⟩
    go_wp2_with fail
    refine C2.out.mono ?_
    rintro e w1 ⟨rfl, hrest⟩
    have HRest := hid hrest
    clear hrest
    go_wp2
    exact bodyPost_ret (v := .tuple #[]) (results_none rfl _ _ _) rfl ⟨rfl, HRest.out⟩
  | succ c ih =>
    intro hdiv g o L cap N t ao n ca C V bo cb w hb ho hN hL hcap hcm hnum hC hV hVM hbas hcb hcbm hc30 htab hg
    have IH := hid (ih (fun j hj => hdiv j (by omega)))
    obtain ⟨K, hK⟩ : ∃ K, K = 19 * 2 ^ c := ⟨_, rfl⟩
    have hLK : L = 2 * K := by rw [hL, hK, Nat.pow_succ]; omega
    have hKt : tens c = ((10 ^ K : Nat) : Int) := by rw [hK]; simp [tens]
    obtain ⟨ao', n', ca', f, hv, hr, hl, hf, hn, hvf, _⟩ := hnum
    cases hv
    obtain ⟨b, u, arr, fr, rfl, hbt, hbc, hbn⟩ := hbas c (by omega)
    obtain ⟨a1, n1, c1, f1, rfl, hr1, ht1, hl1, hf1, hn1, hvf1, _⟩ := hbn
    have hn1b : n1 ≤ 1073741824 := Nat.le_trans hn1 (Nat.pow_le_pow_right (n := 2) (by omega) (show c ≤ 30 by omega))
    have cd := hdiv c (by omega) V (by omega) hVM ao a1 n n1 ca c1 f f1 w (by omega) (by omega) hr hr1 hl hl1 hf hf1 hvf hvf1
    rw [hvf, hvf1, hKt] at cd
    have CD := hid cd; have HB := hid hbas; have HBk := hid hb; have HT := hid htab; have HV := hid hV
    have HK := hid hK
    clear cd hbas hb htab hV hr hl hf hvf hr1 ht1 hl1 hf1 hvf1 hKt ih hdiv hK hL hbt
    have hK1 : 1 ≤ K := by rw [HK.out]; have := Nat.pow_pos (n := c) (show 0 < 2 by omega); omega
    subst hLK
    unfold maxLen at hcbm
    go_enter Tryz.func120, Tryz.ntmps120
    go_wp2_with fail
    refine CD.out.mono ?_
    rintro e w1 ⟨q1, k1, e1, fq, q2, k2, e2, fr', rfl, hres1, hres2, hdv, hr0, hr1⟩
    have hq0 := vf_nonneg hres1.lm
    obtain ⟨H, hH⟩ : ∃ H : Nat, vf fq k1 = H := ⟨(vf fq k1).toNat, by omega⟩
    obtain ⟨R, hR⟩ : ∃ R : Nat, vf fr' k2 = R := ⟨(vf fr' k2).toNat, by omega⟩
    rw [hH, hR] at hdv
    rw [hR] at hr1
    have hVn : V = H * 10 ^ K + R := by exact_mod_cast hdv
    have hRl : R < 10 ^ K := by exact_mod_cast hr1
    have hHl : H < 10 ^ K := by
      have := HV.out
      rw [hVn, show 2 * K = K + K by omega, Nat.pow_add] at this
      apply Nat.lt_of_not_le; intro h
      have := Nat.mul_le_mul_right (10 ^ K) h
      omega
    have hHM : (H : Int) ≤ M := by
      have h1 : H * 1 ≤ H * 10 ^ K := Nat.mul_le_mul_left H (Nat.pow_pos (by omega))
      have h2 : H ≤ V := by omega
      omega
    have hRM : (R : Int) ≤ M := by
      have h2 : R ≤ V := by omega
      omega
    have N1 := hid (show Num w1 (.slice q1 k1 e1) n (H : Int) by have := hres1.num (by omega); rw [hH] at this; exact this)
    have N2 := hid (show Num w1 (.slice q2 k2 e2) (n + 1) (R : Int) by have := hres2.num (by omega); rw [hR] at this; exact this)
    have hb1 := hres1.bel
    have HBk1 := hid (HBk.out.below hb1 HBk.out.lt)
    have HB1 := hid ((HB.out.below hb1).take (show c ≤ c + 1 by omega))
    have HT1 := hid (HT.out.below hb1 HT.out.lt)
    have hon1 : Only g w w1 := Only.of_below hb1
    have HVn := hid hVn; have HRl := hid hRl; have HHl := hid hHl
    clear hVn hRl hHl hdv hr1 hr0 hH hR hq0 hres1 hres2 hb1 HBk HB HT CD HV hbc
    have hcut : 2 * (K : Int) / 2 = K := by omega
    have hne1 : ¬ (K = cap) := by omega
    have hne2 : ¬ (cap = K) := by omega
    have hne3 : ¬ (cap - K = 0) := by omega
    have h2K : 2 * K - K = K := by omega
    have H2K := hid h2K
    clear h2K
    have CA := hid (fun W (h1 : Blk .u8 5 W g N t) (h2 : Num W (.slice q1 k1 e1) n (H : Int)) (h3 : Bas W (some ⟨b, 0, none⟩) c) (h4 : Tab W) => IH.out g o K cap N t q1 k1 e1 n H (some ⟨b, 0, none⟩) cb W h1 (by omega) hN HK.out (by omega) hcm h2.nu (by omega) HHl.out hHM h3 (by omega) (by unfold maxLen; omega) (by omega) h4 hg)
    have CB := hid (fun t W (h1 : Blk .u8 5 W g N t) (h2 : Num W (.slice q2 k2 e2) (n + 1) (R : Int)) (h3 : Bas W (some ⟨b, 0, none⟩) c) (h4 : Tab W) => IH.out g (o + K) (2 * K - K) (cap - K) N t q2 k2 e2 (n + 1) R (some ⟨b, 0, none⟩) cb W h1 (by omega) hN (by rw [H2K.out]; exact HK.out) (by omega) (by omega) h2.nu (by omega) (by rw [H2K.out]; exact HRl.out) hRM h3 (by omega) (by unfold maxLen; omega) (by omega) h4 hg)
    clear IH
    go_wp2_with fail
    go_region_with (go_at_call 120; refine (CA.out _ (by exact HBk1.out) (by exact N1.out) (by exact HB1.out) (by exact HT1.out)).mono ?_; rintro e w2 ⟨rfl, hon2, t2, hb2, he2, hd2⟩)
    all_goals
      have hon2' : Only g w1 w2 := (Only.refl g w1).drew.trans hon2
      obtain ⟨curx, hgx, _, _⟩ := id HBk1.out
      have N2' := hid (N2.out.only hon2' hgx (by decide))
      have HB2' := hid (HB1.out.only hon2' hgx (by decide) (by decide))
      have HT2' := hid (HT1.out.only hon2' hg)
      have HE2 := hid he2; have HD2 := hid hd2; have HBk2 := hid hb2
      clear he2 hd2 hb2 hgx hon2
      go_wp2_with fail
      go_region_with (go_at_call 120; refine (CB.out t2 _ (by exact HBk2.out) (by exact N2'.out) (by exact HB2'.out) (by exact HT2'.out)).mono ?_; rintro e w3 ⟨rfl, hon3, t3, hb3, he3, hd3⟩)
      all_goals
        have HE3 := hid he3; have HD3 := hid hd3; have HBk3 := hid hb3
        clear he3 hd3 hb3
        go_wp2
        refine bodyPost_end (v := .tuple #[]) (results_none rfl _ _ _) rfl ⟨rfl, (hon1.trans hon2').drew.trans hon3, t3, HBk3.out, fun j hj => ?_, fun j hj => ?_⟩
        · exact (HE3.out j (by omega)).trans (HE2.out j (by omega))
        · by_cases hjk : j < K
          · rw [HE3.out _ (by omega), HD2.out j hjk, dgi_hi HVn.out HRl.out]
            congr 1; omega
          · have e1 := HD3.out (j - K) (by omega)
            rw [show o + K + (j - K) = o + j by omega] at e1
            rw [e1, H2K.out, dgi_lo HVn.out _ (by omega)]
            congr 1; omega
end Go.Proofs.YtlpmfmphglgocaaGreatDoor
namespace Go.Proofs.YtlpmfmphglgocaaGreatDoor
open Go.ChangeShapes Go.WideShapes Go.ChangeAt Go.RowKit

theorem Tryz.own : ownKnob Tryz.prog.godebug = none := by kernel_rfl
theorem Tryz.laidOut : laidOutB Tryz.prog = true := by kernel_rfl
theorem Tryz.cellsU64 : Tryz.prog.cellsOf 28 = 1 := by kernel_rfl
/-- The listed tables. -/
def tabs : List (String × DataW Unit) := Rows.ratKeepsRow.laid
theorem pow10_datum : (Rows.laid_internal_strconv_uint64pow10 : DataW Unit) = Lib.tabData .u64 Lib.pow10Tab := by kernel_rfl
theorem tab_third {P : Program} {W : World} {n1 n2 name : String} {d1 d2 : DataW Unit} {k : IntKind} {zs : List Int} {rest : List (String × DataW Unit)} {g : Nat} {t e : TypeId} {n : Nat}
    (hg : P.globalNamed name = some g) (hty : (P.globals[g]?).map (·.type) = some t) (ht : P.underlying t = some (.array n e)) (he : P.underlying e = some (.int k)) (hce : P.cellsOf e = 1) (hct : P.cellsOf t = n)
    (h : laidMet P ((n1, d1) :: (n2, d2) :: (name, Lib.tabData k zs) :: rest) W) : Lib.TabIs P W name k zs := by
  obtain ⟨ps, hv, _⟩ := h
  obtain ⟨_, _, _, _, _, q1, _, _, _, _, hv2, _⟩ := hv
  obtain ⟨_, _, _, _, _, q2, _, _, _, _, hv3, _⟩ := hv2
  obtain ⟨g', t', cs, fuel, p, q, hg', ht', hvar, hd, _, _⟩ := hv3
  obtain rfl := Option.some.inj (hg.symm.trans hg')
  obtain rfl := Option.some.inj (hty.symm.trans ht')
  unfold Lib.TabIs
  rw [hvar, ← Lib.cells_of_tab ht he hce hct hd]
theorem tab_ty : (Tryz.prog.globals[5]?).map (·.type) = some 190 := by kernel_rfl
theorem tab_cells : Tryz.prog.cellsOf 190 = 20 := by kernel_rfl
theorem tab_of {W : World} (h : laidMetH Tryz.prog tabs W) : Tab W := by
  have h' : laidMet Tryz.prog (("math/bits.deBruijn32tab", Rows.laid_math_bits_deBruijn32tab) :: ("math/bits.deBruijn64tab", Rows.laid_math_bits_deBruijn64tab) :: ("internal/strconv.uint64pow10", Lib.tabData .u64 Lib.pow10Tab) :: [("unicode/utf8.acceptRanges", Rows.laid_unicode_utf8_acceptRanges), ("unicode/utf8.first", Rows.laid_unicode_utf8_first)]) W := by
    rw [← pow10_datum]; exact h
  exact tab_third tab_gl tab_ty Tryz.underlying190 Tryz.underlying28 Tryz.cellsU64 tab_cells h'

def cellOf : DataW Unit → List Value
  | .lit (.int k z) => [.int k z]
  | _ => []
def cells1 : DataW Unit → List Value
  | .agg l => l.flatMap cellOf
  | _ => []
def cells2 : DataW Unit → List Value
  | .agg l => l.flatMap cells1
  | _ => []
def setc (cs : List Value) : Obj → Obj
  | .cells _ t fr => .cells cs.toArray t fr
  | o => o
/-- The world with the tables as the program's text lays them. -/
def layTabs (w : World) : World := { w with heap := (((((w.heap.modify 6 (setc (cells1 Rows.laid_math_bits_deBruijn32tab))).modify 7 (setc (cells1 Rows.laid_math_bits_deBruijn64tab))).modify 5 (setc (cells1 Rows.laid_internal_strconv_uint64pow10))).modify 4 (setc (cells2 Rows.laid_unicode_utf8_acceptRanges))).modify 3 (setc (cells1 Rows.laid_unicode_utf8_first))) }
end Go.Proofs.YtlpmfmphglgocaaGreatDoor
namespace Go.Proofs.YtlpmfmphglgocaaGreatDoor
open Go.ChangeShapes Go.WideShapes Go.ChangeAt Go.RowKit

set_option maxRecDepth 100000 in
/-- A list of limbs inside an argument. -/
theorem viewL {H : Type} {enc : TypeId × Value → H} {W : World} {fuel : Nat} {v : Value} {x : DataW H × List MemPlace} (h : DataW.trod enc Tryz.prog W 0 (fun _ => true) true fuel 22 [v] = some x) :
    ∃ ao n cap f, v = .slice ao n cap ∧ Rd .u64 W ao n f ∧ Lm f n ∧ (ao = none → n = 0 ∧ cap = 0) ∧ n ≤ cap ∧ cap ≤ 9223372036854775807 := by
  rcases open_ints Tryz.underlying22 Tryz.underlying28 Tryz.cellsU64 h with ⟨hcs, hx⟩ | ⟨a, len', cap', zs, hcs, _, hl, hm, hz, hx, hcell, hwz⟩
  · simp at hcs
    subst hcs
    exact ⟨none, 0, 0, fun _ => 0, rfl, Rd.zero, fun j hj => by omega, fun _ => ⟨rfl, rfl⟩, by omega, by omega⟩
  · simp at hcs
    subst hcs
    simp only [if_true] at hz
    refine ⟨some a, len', cap', fun j => zs.getD j 0, rfl, fun j hj => ?_, fun j hj => ?_, (fun h => by cases h), hl, by unfold maxLen at hm; omega⟩
    · obtain ⟨b, off, spot⟩ := a
      have hspot : spot = none := by simpa [Addr.add] using World.cell?_spot (hcell 0 (by omega))
      subst hspot
      exact ⟨b, off, rfl, by have := hcell j (by omega); rwa [addr_add] at this⟩
    · have hmem : zs.getD j 0 ∈ zs := by
        rw [List.getD_eq_getElem?_getD, List.getElem?_eq_getElem (by omega)]
        exact List.getElem_mem _
      have := bounds_u64 (hwz _ hmem)
      show 0 ≤ zs.getD j 0 ∧ zs.getD j 0 < 18446744073709551616
      omega
end Go.Proofs.YtlpmfmphglgocaaGreatDoor
namespace Go.Proofs.YtlpmfmphglgocaaGreatDoor
open Go.RowKit

set_option maxHeartbeats 800000 in
/-- addWord: the number in the first n limbs from o on grows by w0; c goes over. -/
theorem addWord_g (g o n cap N : Nat) (f : Nat → Int) (w0 : Int) (w : World) (hb : Blk .u64 28 w g N f) (hf : Lm f N) (ho : o + n ≤ N) (hm : N ≤ 140737488355328) (h0 : 0 ≤ w0) (h1 : w0 < 18446744073709551616) :
    Calls Tryz.prog 169 #[.slice (some ⟨g, o, none⟩) n cap, .int .u64 w0] w fun e w' => e = .returned (.tuple #[]) ∧ Only g w w' ∧
      ∃ f' c, Blk .u64 28 w' g N f' ∧ Lm f' N ∧ (∀ j, j < o ∨ o + n ≤ j → f' j = f j) ∧ 0 ≤ c ∧ vf (sh f' o) n + c * pw n = vf (sh f o) n + w0 := by
  go_enter Tryz.func169, Tryz.ntmps169
  go_wp2
  go_loopw [1, 7] (fun c t wr => ∃ (k : Nat) (cc : Int) (f' : Nat → Int), k ≤ n ∧ t = .int .i64 k ∧ c = .int .u64 cc ∧ 0 ≤ cc ∧ cc < 18446744073709551616 ∧ Only g w wr ∧ Blk .u64 28 wr g N f' ∧ Hid (Lm f' N) ∧ Hid (∀ j, j < o ∨ o + k ≤ j → f' j = f j) ∧
      Hid (vf (sh f' o) k + cc * pw k = vf (sh f o) k + vf (fun _ => 0) k + w0)) (fun _ t _ => n - (intOf t).toNat)
  case atStart => exact ⟨0, w0, f, by omega, rfl, rfl, h0, h1, Only.refl _ _, hb, hf, fun _ _ => rfl, by simp [Hid, vf, pw]⟩
  case round =>
    obtain ⟨k, cc, f', hk, rfl, rfl, c0, c1, hon, hbl, HL, HE, HV⟩ := hrel
    have z0 : ∀ i, vf (fun _ => 0) i = 0 := fun i => vf_zero (fun _ _ => rfl)
    have Z0 := hid z0
    clear z0
    by_cases hlt : k < n
    · by_cases hc : cc = 0
      · subst hc
        go_wp2
        refine bodyPost_ret (v := .tuple #[]) (results_none rfl _ _ _) rfl ⟨rfl, hon, f', 0, hbl, HL.out, fun j hj => HE.out j (by omega), by omega, ?_⟩
        have hv := HV.out
        obtain ⟨d, rfl⟩ := Nat.exists_eq_add_of_le (show k ≤ n by omega)
        rw [vf_split, vf_split (sh f o), sh_sh, sh_sh, vf_congr (f := sh f' (o + k)) (g := sh f (o + k)) (fun j hj => HE.out _ (by omega))]
        rw [Z0.out] at hv
        omega
      · have hc1 : (cc == 0) = false := by simp [hc]
        obtain ⟨x, hx⟩ : ∃ x, f' (o + k) = x := ⟨_, rfl⟩
        have hcell : wr.cell? ⟨g, o + k, none⟩ = some (.int .u64 x) := by rw [← hx]; exact hbl.cell (by omega)
        have hfz := hbl.frozen (o + k)
        have hx01 := HL.out (o + k) (by omega)
        rw [hx] at hx01
        obtain ⟨x0, x1⟩ := hx01
        have HX := hid hx
        clear hx
        go_wp2_with (simp only [add64_0 x cc x0 c0])
        go_roundw
        case rel =>
          refine ⟨k + 1, _, upd f' (o + k) ((x + cc) % 18446744073709551616), by omega, by go_num, rfl, by omega, by omega, hon.setCell _ _ _, hbl.set _ _, HL.out.upd (by omega), ?_, ?_⟩
          · intro j hj
            rw [upd_other _ _ _ _ (by omega)]
            exact HE.out j (by omega)
          · have := carry_step (y := 0) HV.out (HE.out _ (by omega)) rfl
            rw [HX.out] at this
            simpa [Hid] using this
        case measure => simp [intOf]; omega
    · have hkn : k = n := by omega
      subst hkn
      go_wp2
      refine bodyPost_end (v := .tuple #[]) (results_none rfl _ _ _) rfl ⟨rfl, hon, f', cc, hbl, HL.out, HE.out, c0, ?_⟩
      have hv := HV.out
      rw [Z0.out] at hv
      omega

set_option maxHeartbeats 1000000 in
/-- addTo: the number in the first n limbs from o on grows by the number b; c goes over. -/
theorem addTo_g (g o n cap N : Nat) (f : Nat → Int) (bo : Option Addr) (m cb : Nat) (h : Nat → Int) (w : World) (hb : Blk .u64 28 w g N f) (hf : Lm f N) (ho : o + n ≤ N) (hm : N ≤ 140737488355328)
    (hr : Rd .u64 w bo m h) (hh : Lm h m) (hoff : 0 < m → Off bo g) (hmn : m < n) (hcap : n ≤ cap) (hcm : cap ≤ 140737488355328) :
    Calls Tryz.prog 148 #[.slice (some ⟨g, o, none⟩) n cap, .slice bo m cb] w fun e w' => e = .returned (.tuple #[]) ∧ Only g w w' ∧
      ∃ f' c, Blk .u64 28 w' g N f' ∧ Lm f' N ∧ (∀ j, j < o ∨ o + n ≤ j → f' j = f j) ∧ 0 ≤ c ∧ vf (sh f' o) n + c * pw n = vf (sh f o) n + vf h m := by
  have HH := (show Hid (Lm h m) from hh)
  have HRd := (show Hid (Rd .u64 w bo m h) from hr)
  clear hh hr
  go_enter Tryz.func148, Tryz.ntmps148
  go_wp2
  go_loopw [4, 8] (fun c t wr => ∃ (k : Nat) (cc : Int) (f' : Nat → Int), k ≤ m ∧ t = .int .i64 k ∧ c = .int .u64 cc ∧ 0 ≤ cc ∧ cc ≤ 1 ∧ Only g w wr ∧ Blk .u64 28 wr g N f' ∧ Hid (Lm f' N) ∧ Hid (∀ j, j < o ∨ o + k ≤ j → f' j = f j) ∧
      Hid (vf (sh f' o) k + cc * pw k = vf (sh f o) k + vf h k + 0)) (fun _ t _ => m - (intOf t).toNat)
  case atStart => exact ⟨0, 0, f, by omega, rfl, rfl, by omega, by omega, Only.refl _ _, hb, hf, fun _ _ => rfl, by simp [Hid, vf, pw]⟩
  case round =>
    obtain ⟨k, cc, f', hk, rfl, rfl, c0, c1, hon, hbl, HL, HE, HV⟩ := hrel
    by_cases hlt : k < m
    · have hr := HRd.out
      obtain ⟨b, ob, rfl⟩ := hr.at (by omega)
      obtain ⟨x, hx⟩ : ∃ x, f' (o + k) = x := ⟨_, rfl⟩
      obtain ⟨y, hy⟩ : ∃ y, h k = y := ⟨_, rfl⟩
      have hcell : wr.cell? ⟨g, o + k, none⟩ = some (.int .u64 x) := by rw [← hx]; exact hbl.cell (by omega)
      have hcelb : wr.cell? ⟨b, ob + k, none⟩ = some (.int .u64 y) := by rw [← hy]; exact (hr.only hon (hoff (by omega))).cell hlt
      have hfz := hbl.frozen (o + k)
      have hx01 := HL.out (o + k) (by omega)
      have hy01 := HH.out k hlt
      rw [hx] at hx01
      rw [hy] at hy01
      obtain ⟨x0, x1⟩ := hx01
      obtain ⟨y0, y1⟩ := hy01
      have HX := hid hx
      have HY := hid hy
      clear hx hy hr
      have hadd := fun w => add64 x y cc x0 y0 c0 c1 w
      go_wp2
      go_region
      all_goals
        go_wp2
        go_roundw
        case rel =>
          refine ⟨k + 1, _, upd f' (o + k) ((x + y + cc) % 18446744073709551616), by omega, by go_num, rfl, by omega, by omega, ?_, ?_, HL.out.upd (by omega), ?_, ?_⟩
          · exact (hon.setCell _ _ _).drew
          · exact (hbl.set _ _).drew
          · intro j hj
            rw [upd_other _ _ _ _ (by omega)]
            exact HE.out j (by omega)
          · have := carry_step (y := y) HV.out (HE.out _ (by omega)) HY.out
            rw [HX.out] at this
            exact this
        case measure => simp [intOf]; omega
    · have hkm : k = m := by omega
      subst hkm
      obtain ⟨d, rfl⟩ := Nat.exists_eq_add_of_le (Nat.le_of_lt hmn)
      have HS := hid (show ∀ j, j < d → sh f' (o + k) j = sh f (o + k) j from fun j hj => HE.out _ (by omega))
      have hne : ¬ (k = cap) := by omega
      go_wp2_with fail
      refine (addWord_g g (o + k) d (cap - k) N f' cc wr hbl HL.out (by omega) hm c0 (by omega)).mono ?_
      rintro e w' ⟨rfl, hon2, f2, c2, hb2, hl2, he2, hc2, hv2⟩
      have HV2 := hid hv2
      clear hv2
      go_wp2
      refine bodyPost_end (v := .tuple #[]) (results_none rfl _ _ _) rfl ⟨rfl, hon.trans hon2, f2, c2, hb2, hl2, fun j hj => (he2 j (by omega)).trans (HE.out j (by omega)), hc2, ?_⟩
      have hv := HV.out
      have hv2 := HV2.out
      rw [vf_split, vf_split (sh f o), sh_sh, sh_sh, pw_add, vf_congr (f := sh f2 o) (g := sh f' o) (n := k) (fun j hj => he2 _ (by omega))]
      rw [vf_congr HS.out] at hv2
      have e1 : (vf (sh f2 (o + k)) d + c2 * pw d) * pw k = (vf (sh f (o + k)) d + cc) * pw k := by rw [hv2]
      rw [Int.add_mul, Int.add_mul, Int.mul_assoc c2, Int.mul_comm (pw d)] at e1
      omega

/-- One limb of a product taken. -/
theorem mulsub_step {f f' G : Nat → Int} {o k : Nat} {ov wd x y hi l d b : Int} (HV : vf (sh f' o) k + vf G k * wd = vf (sh f o) k + ov * pw k) (hE : f' (o + k) = f (o + k)) (hx : f' (o + k) = x) (hy : G k = y) (h1 : y * wd + ov = hi * 18446744073709551616 + l) (h2 : d = x - l + b * 18446744073709551616) :
    vf (sh (upd f' (o + k) d) o) (k + 1) + vf G (k + 1) * wd = vf (sh f o) (k + 1) + (hi + b) * pw (k + 1) := by
  have e1 : vf (sh (upd f' (o + k) d) o) k = vf (sh f' o) k := vf_congr (fun j hj => upd_other _ _ _ _ (by omega))
  rw [vf_succ, vf_succ, vf_succ, e1, pw_succ, sh_at, sh_at, upd_same, hy, ← hE, hx, h2]
  grind

set_option maxHeartbeats 1000000 in
/-- mulSubFrom: a * wd is taken from the first limbs of d; what was borrowed is answered. -/
theorem mulSubFrom_c (g o n cap N : Nat) (f : Nat → Int) (bo : Option Addr) (m cb : Nat) (h : Nat → Int) (wd : Int) (w : World) (hb : Blk .u64 28 w g N f) (hf : Lm f N) (ho : o + n ≤ N)
    (hr : Rd .u64 w bo m h) (hh : Lm h m) (hoff : 0 < m → Off bo g) (hmn : m ≤ n) (hcap : n ≤ cap) (hcm : cap ≤ 140737488355328) (d0 : 0 ≤ wd) (d1 : wd < 18446744073709551616) :
    Calls Tryz.prog 166 #[.slice (some ⟨g, o, none⟩) n cap, .slice bo m cb, .int .u64 wd] w fun e w' => ∃ ov, e = .returned (.int .u64 ov) ∧ 0 ≤ ov ∧ ov < 18446744073709551616 ∧ Only g w w' ∧
      ∃ f', Blk .u64 28 w' g N f' ∧ Lm f' N ∧ (∀ j, j < o ∨ o + m ≤ j → f' j = f j) ∧ vf (sh f' o) m + vf h m * wd = vf (sh f o) m + ov * pw m := by
  have HH := hid hh
  have HRd := hid hr
  clear hh hr
  go_enter Tryz.func166, Tryz.ntmps166
  go_wp2
  go_loopw [7, 18] (fun c t wr => ∃ (k : Nat) (ov : Int) (f' : Nat → Int), k ≤ m ∧ t = .int .i64 k ∧ c = .int .u64 ov ∧ 0 ≤ ov ∧ ov < 18446744073709551616 ∧ Only g w wr ∧ Blk .u64 28 wr g N f' ∧ Hid (Lm f' N) ∧ Hid (∀ j, j < o ∨ o + k ≤ j → f' j = f j) ∧
      Hid (vf (sh f' o) k + vf h k * wd = vf (sh f o) k + ov * pw k)) (fun _ t _ => m - (intOf t).toNat)
  case atStart => exact ⟨0, 0, f, by omega, rfl, rfl, by omega, by omega, Only.refl _ _, hb, hf, fun _ _ => rfl, by simp [Hid, vf, pw]⟩
  case round =>
    obtain ⟨k, ov, f', hk, rfl, rfl, v0, v1, hon, hbl, HL, HE, HV⟩ := hrel
    by_cases hlt : k < m
    · have hr := HRd.out
      obtain ⟨b, ob, rfl⟩ := hr.at (by omega)
      obtain ⟨x, hx⟩ : ∃ x, f' (o + k) = x := ⟨_, rfl⟩
      obtain ⟨y, hy⟩ : ∃ y, h k = y := ⟨_, rfl⟩
      have hcell : wr.cell? ⟨g, o + k, none⟩ = some (.int .u64 x) := by rw [← hx]; exact hbl.cell (by omega)
      have hcelb : wr.cell? ⟨b, ob + k, none⟩ = some (.int .u64 y) := by rw [← hy]; exact (hr.only hon (hoff (by omega))).cell hlt
      have hfz := hbl.frozen (o + k)
      have hx01 := HL.out (o + k) (by omega)
      have hy01 := HH.out k hlt
      rw [hx] at hx01
      rw [hy] at hy01
      obtain ⟨x0, x1⟩ := hx01
      obtain ⟨y0, y1⟩ := hy01
      have HX := hid hx
      have HY := hid hy
      clear hx hy hr
      have c1 := fun w => mulAdd_c y wd ov w y0 y1 d0 d1 v0 v1
      have hbd := prod_bounds y0 y1 d0 d1
      obtain ⟨hi, hhi⟩ : ∃ hi, (y * wd + ov) / 18446744073709551616 = hi := ⟨_, rfl⟩
      obtain ⟨l, hl⟩ : ∃ l, (y * wd + ov) % 18446744073709551616 = l := ⟨_, rfl⟩
      rw [hhi, hl] at c1
      have hP : y * wd + ov = hi * 18446744073709551616 + l := by omega
      have i0 : 0 ≤ hi := by omega
      have i1 : hi + bor x l < 18446744073709551616 := by have := bor_01 x l; unfold bor; split <;> omega
      have l0 : 0 ≤ l := by omega
      have l1 : l < 18446744073709551616 := by omega
      obtain ⟨bb, hbb⟩ : ∃ bb, bor x l = bb := ⟨_, rfl⟩
      have bb0 : 0 ≤ bb := by rw [← hbb]; exact (bor_01 _ _).1
      have bb1 : bb ≤ 1 := by rw [← hbb]; exact (bor_01 _ _).2
      have hd : (x - l) % 18446744073709551616 = x - l + bb * 18446744073709551616 := by
        rw [← hbb]; unfold bor; split <;> omega
      have hsub := fun w => sub64_0 x l x0 l0 l1 w
      simp only [hbb] at hsub
      obtain ⟨dd, hdd⟩ : ∃ dd, (x - l) % 18446744073709551616 = dd := ⟨_, rfl⟩
      rw [hdd] at hd
      rw [hbb] at i1
      simp only [hdd] at hsub
      have dd0 : 0 ≤ dd ∧ dd < 18446744073709551616 := by omega
      have C1 := hid c1; have HP := hid hP; have HD := hid hd
      clear c1 hP hbd hhi hl hd hdd hbb
      go_wp2_with fail
      refine (C1.out _).mono ?_
      rintro e wx ⟨rfl, rfl⟩
      go_wp2
      go_roundw
      case rel =>
        refine ⟨k + 1, hi + bb, upd f' (o + k) dd, by omega, by go_num, rfl, by omega, by omega, hon.setCell _ _ _, hbl.set _ _, HL.out.upd dd0, ?_, ?_⟩
        · intro j hj
          rw [upd_other _ _ _ _ (by omega)]
          exact HE.out j (by omega)
        · exact mulsub_step HV.out (HE.out _ (by omega)) HX.out HY.out HP.out HD.out
      case measure => simp [intOf]; omega
    · have hkm : k = m := by omega
      subst hkm
      go_wp2
      go_ret
      exact ⟨ov, rfl, v0, v1, hon, f', hbl, HL.out, HE.out, HV.out⟩
end Go.Proofs.YtlpmfmphglgocaaGreatDoor
namespace Go.Proofs.YtlpmfmphglgocaaGreatDoor
open Go.RowKit

/-- A guess t and what it leaves of the two highest limbs. -/
structure Gk (X u0 v1 v0 t r : Int) : Prop where
  eq : t * v1 + r = X
  up : t = 18446744073709551615 ∨ X * 18446744073709551616 + u0 < (t + 1) * (v1 * 18446744073709551616 + v0)
theorem gk_mul {X u0 v1 v0 t r : Int} (h : Gk X u0 v1 v0 t r) : t * (v1 * 18446744073709551616 + v0) = (X - r) * 18446744073709551616 + t * v0 := by
  have := h.eq
  have e : t * v1 = X - r := by omega
  rw [Int.mul_add, ← Int.mul_assoc, e]
theorem gk_fit {X u0 v1 v0 t r : Int} (h : Gk X u0 v1 v0 t r) (hl : t * v0 ≤ r * 18446744073709551616 + u0) : t * (v1 * 18446744073709551616 + v0) ≤ X * 18446744073709551616 + u0 := by
  rw [gk_mul h]; omega
theorem gk_big {X u0 v1 v0 t r : Int} (h : Gk X u0 v1 v0 t r) (t1 : t < 18446744073709551616) (v00 : 0 ≤ v0) (v01 : v0 < 18446744073709551616) (u00 : 0 ≤ u0) (hr : 18446744073709551616 ≤ r) : t * (v1 * 18446744073709551616 + v0) ≤ X * 18446744073709551616 + u0 := by
  refine gk_fit h ?_
  have : t * v0 ≤ 18446744073709551616 * v0 := Int.mul_le_mul_of_nonneg_right (by omega) v00
  omega
theorem gk_pos {u0 v0 t r : Int} (r0 : 0 ≤ r) (u00 : 0 ≤ u0) (v00 : 0 ≤ v0) (hl : r * 18446744073709551616 + u0 < t * v0) : 0 < t := by
  apply Int.lt_of_not_ge
  intro h
  have : t * v0 ≤ 0 * v0 := Int.mul_le_mul_of_nonneg_right h v00
  omega
theorem gk_step {X u0 v1 v0 t r : Int} (h : Gk X u0 v1 v0 (t + 1) r) (hl : r * 18446744073709551616 + u0 < (t + 1) * v0) : Gk X u0 v1 v0 t (r + v1) := by
  refine ⟨?_, .inr ?_⟩
  · have := h.eq; rw [Int.add_mul] at this; omega
  · rw [gk_mul h]; omega
theorem gk_first {u2 u1 u0 v1 v0 : Int} (a0 : 0 ≤ u2) (a1 : u2 < v1) (b0 : 0 ≤ u1) (b1 : u1 < 18446744073709551616) (_c0 : 0 ≤ u0) (c1 : u0 < 18446744073709551616) (d0 : 0 ≤ v0) :
    Gk (u2 * 18446744073709551616 + u1) u0 v1 v0 ((u2 * 18446744073709551616 + u1) / v1) ((u2 * 18446744073709551616 + u1) % v1) ∧ 0 ≤ (u2 * 18446744073709551616 + u1) / v1 ∧ (u2 * 18446744073709551616 + u1) / v1 < 18446744073709551616 ∧ 0 ≤ (u2 * 18446744073709551616 + u1) % v1 ∧ (u2 * 18446744073709551616 + u1) % v1 < v1 := by
  have hv : 0 < v1 := by omega
  obtain ⟨X, hX⟩ : ∃ X, u2 * 18446744073709551616 + u1 = X := ⟨_, rfl⟩
  rw [hX]
  have e1 := Int.mul_ediv_add_emod X v1
  have e2 := Int.emod_nonneg X (show v1 ≠ 0 by omega)
  have e3 := Int.emod_lt_of_pos X hv
  have e4 : 0 ≤ X / v1 := Int.ediv_nonneg (by omega) (by omega)
  have e5 : X / v1 < 18446744073709551616 := Int.ediv_lt_of_lt_mul hv (by
    have : u2 + 1 ≤ v1 := by omega
    have := Int.mul_le_mul_of_nonneg_left this (show (0 : Int) ≤ 18446744073709551616 by decide)
    omega)
  refine ⟨⟨by rw [Int.mul_comm]; exact e1, .inr ?_⟩, e4, e5, e2, e3⟩
  have e6 : (X / v1 + 1) * v1 = v1 * (X / v1) + v1 := by rw [Int.add_mul, Int.mul_comm]; omega
  have e7 : 0 ≤ (X / v1 + 1) * v0 := Int.mul_nonneg (by omega) d0
  rw [Int.mul_add, ← Int.mul_assoc, e6]
  omega

set_option maxRecDepth 100000 in
set_option maxHeartbeats 4000000 in
theorem guess_c (u2 u1 u0 v1 v0 : Int) (w : World) (a0 : 0 ≤ u2) (a1 : u2 ≤ v1) (b0 : 0 ≤ u1) (b1 : u1 < 18446744073709551616) (c0 : 0 ≤ u0) (c1 : u0 < 18446744073709551616) (d0 : 0 ≤ v0) (d1 : v0 < 18446744073709551616) (e0 : 0 < v1) (e1 : v1 < 18446744073709551616) :
    Calls Tryz.prog 165 #[.int .u64 u2, .int .u64 u1, .int .u64 u0, .int .u64 v1, .int .u64 v0] w fun e w' => (∃ q, w' = w.drewN q) ∧ ∃ t, e = .returned (.int .u64 t) ∧ 0 ≤ t ∧ t < 18446744073709551616 ∧
      t * (v1 * 18446744073709551616 + v0) ≤ (u2 * 18446744073709551616 + u1) * 18446744073709551616 + u0 ∧ (t = 18446744073709551615 ∨ (u2 * 18446744073709551616 + u1) * 18446744073709551616 + u0 < (t + 1) * (v1 * 18446744073709551616 + v0)) := by
  by_cases hlt : u2 < v1
  · obtain ⟨g1, g2, g3, g4, g5⟩ := gk_first (u0 := u0) (v0 := v0) a0 hlt b0 b1 c0 c1 d0
    have CD := hid (div64_c u2 u1 v1 w a0 hlt e1 b0 b1)
    obtain ⟨X, hX⟩ : ∃ X, u2 * 18446744073709551616 + u1 = X := ⟨_, rfl⟩
    rw [hX] at g1 g2 g3 g4 g5 CD ⊢
    obtain ⟨t0, ht0⟩ : ∃ t0, X / v1 = t0 := ⟨_, rfl⟩
    obtain ⟨r0, hr0⟩ : ∃ r0, X % v1 = r0 := ⟨_, rfl⟩
    rw [ht0, hr0] at g1 CD
    rw [ht0] at g2 g3
    rw [hr0] at g4 g5
    have G := hid g1
    clear g1 hX ht0 hr0
    go_enter Tryz.func165, Tryz.ntmps165
    go_wp2_with fail
    refine CD.out.mono ?_
    rintro e w1 ⟨rfl, q, rfl⟩
    go_wp2
    go_loop [11, 12, 13] (fun c d e => ∃ t r k : Int, c = .int .u64 t ∧ d = .int .u64 r ∧ e = .int .u64 k ∧ 0 ≤ t ∧ t < 18446744073709551616 ∧ 0 ≤ r ∧ r < 18446744073709551616 ∧ 0 ≤ k ∧ k ≤ 1 ∧ Hid (Gk X u0 v1 v0 t (r + k * 18446744073709551616))) (fun c _ _ => (intOf c).toNat)
    case atStart => exact ⟨t0, r0, 0, rfl, rfl, rfl, g2, g3, g4, by omega, by omega, by omega, by have := G.out; simpa [Hid] using this⟩
    case round =>
      clear G g2 g3 g4 g5
      obtain ⟨t, r, k, rfl, rfl, rfl, t0a, t0b, r0a, r0b, k0, k1, G⟩ := hrel
      by_cases hk : k = 0
      · subst hk
        have G2 := G.out
        rw [show r + 0 * 18446744073709551616 = r by omega] at G2
        have GG := hid G2
        clear G2 G
        have c1 := fun W => mul64_c t v0 W t0a t0b d0 d1
        have hbd := prod_bounds t0a t0b d0 d1
        obtain ⟨P, hP⟩ : ∃ P, t * v0 = P := ⟨_, rfl⟩
        rw [hP] at c1 hbd
        obtain ⟨hi, hhi⟩ : ∃ hi, P / 18446744073709551616 = hi := ⟨_, rfl⟩
        obtain ⟨lo, hlo⟩ : ∃ lo, P % 18446744073709551616 = lo := ⟨_, rfl⟩
        rw [hhi, hlo] at c1
        have hPP : P = hi * 18446744073709551616 + lo := by omega
        have i0 : 0 ≤ hi := by omega
        have i1 : hi < 18446744073709551616 := by omega
        have l0 : 0 ≤ lo := by omega
        have l1 : lo < 18446744073709551616 := by omega
        have C1 := hid c1; have HP := hid hP; have HPP := hid hPP
        clear c1 hP hPP hhi hlo hbd
        by_cases hfit : P ≤ r * 18446744073709551616 + u0
        · have FIT := hid (gk_fit GG.out (by rw [HP.out]; exact hfit))
          have UP := hid GG.out.up
          by_cases hhr : hi < r
          · clear hfit
            go_wp2_with fail
            refine (C1.out _).mono ?_
            rintro e wx ⟨rfl, rfl⟩
            go_wp2
            go_ret
            exact ⟨⟨q, rfl⟩, t, rfl, t0a, t0b, FIT.out, UP.out⟩
          · have hhe : hi = r := by have := HPP.out; omega
            have hlu : lo ≤ u0 := by have := HPP.out; omega
            subst hhe
            clear hfit
            have hee : (hi == hi) = true := by simp
            go_wp2_with fail
            refine (C1.out _).mono ?_
            rintro e wx ⟨rfl, rfl⟩
            go_wp2
            go_ret
            exact ⟨⟨q, rfl⟩, t, rfl, t0a, t0b, FIT.out, UP.out⟩
        · have hgt : r * 18446744073709551616 + u0 < t * v0 := by rw [HP.out]; omega
          have htp := gk_pos r0a c0 d0 hgt
          obtain ⟨s, rfl⟩ : ∃ s, t = s + 1 := ⟨t - 1, by omega⟩
          have G1 := hid (gk_step GG.out hgt)
          clear GG hgt
          have G3 : Hid (Gk X u0 v1 v0 s ((r + v1) % 18446744073709551616 + (r + v1) / 18446744073709551616 * 18446744073709551616)) := by
            show Gk _ _ _ _ _ _
            have : (r + v1) % 18446744073709551616 + (r + v1) / 18446744073709551616 * 18446744073709551616 = r + v1 := by omega
            rw [this]; exact G1.out
          clear G1
          have hs : s + 1 - 1 = s := by omega
          by_cases hhr : r < hi
          · have hne : (hi == r) = false := by simp; omega
            clear hfit
            go_wp2_with fail
            refine (C1.out _).mono ?_
            rintro e wx ⟨rfl, rfl⟩
            go_wp2_with (simp only [add64_0 r v1 r0a (Int.le_of_lt e0)])
            go_round
            case rel => exact ⟨s, _, _, by go_num, rfl, rfl, by omega, by omega, by omega, by omega, by omega, by omega, G3.out⟩
            case measure => simp [intOf]; omega
          · have hhe : hi = r := by have := HPP.out; omega
            have hlu : ¬ lo ≤ u0 := by have := HPP.out; omega
            subst hhe
            clear hfit
            have hee : (hi == hi) = true := by simp
            go_wp2_with fail
            refine (C1.out _).mono ?_
            rintro e wx ⟨rfl, rfl⟩
            go_wp2_with (simp only [add64_0 hi v1 r0a (Int.le_of_lt e0)])
            go_round
            case rel => exact ⟨s, _, _, by go_num, rfl, rfl, by omega, by omega, by omega, by omega, by omega, by omega, G3.out⟩
            case measure => simp [intOf]; omega
      · have hk1 : k = 1 := by omega
        subst hk1
        have BIG := hid (gk_big G.out t0b d0 d1 c0 (by omega))
        have UP := hid G.out.up
        go_wp2
        go_ret
        exact ⟨⟨q, rfl⟩, t, rfl, t0a, t0b, BIG.out, UP.out⟩
  · obtain rfl : u2 = v1 := by omega
    obtain ⟨X, hX⟩ : ∃ X, u2 * 18446744073709551616 + u1 = X := ⟨_, rfl⟩
    rw [hX]
    have G : Hid (Gk X u0 u2 v0 18446744073709551615 ((u1 + u2) % 18446744073709551616 + (u1 + u2) / 18446744073709551616 * 18446744073709551616)) := by
      show Gk _ _ _ _ _ _
      exact ⟨by omega, .inl rfl⟩
    clear hX
    go_enter Tryz.func165, Tryz.ntmps165
    go_wp2_with (simp only [add64_0 u1 u2 b0 a0])
    go_loop [11, 12, 13] (fun c d e => ∃ t r k : Int, c = .int .u64 t ∧ d = .int .u64 r ∧ e = .int .u64 k ∧ 0 ≤ t ∧ t < 18446744073709551616 ∧ 0 ≤ r ∧ r < 18446744073709551616 ∧ 0 ≤ k ∧ k ≤ 1 ∧ Hid (Gk X u0 u2 v0 t (r + k * 18446744073709551616))) (fun c _ _ => (intOf c).toNat)
    case atStart => exact ⟨18446744073709551615, _, _, rfl, rfl, rfl, by omega, by omega, by omega, by omega, by omega, by omega, G.out⟩
    case round =>
      clear G
      obtain ⟨t, r, k, rfl, rfl, rfl, t0a, t0b, r0a, r0b, k0, k1, G⟩ := hrel
      by_cases hk : k = 0
      · subst hk
        have G2 := G.out
        rw [show r + 0 * 18446744073709551616 = r by omega] at G2
        have GG := hid G2
        clear G2 G
        have c1 := fun W => mul64_c t v0 W t0a t0b d0 d1
        have hbd := prod_bounds t0a t0b d0 d1
        obtain ⟨P, hP⟩ : ∃ P, t * v0 = P := ⟨_, rfl⟩
        rw [hP] at c1 hbd
        obtain ⟨hi, hhi⟩ : ∃ hi, P / 18446744073709551616 = hi := ⟨_, rfl⟩
        obtain ⟨lo, hlo⟩ : ∃ lo, P % 18446744073709551616 = lo := ⟨_, rfl⟩
        rw [hhi, hlo] at c1
        have hPP : P = hi * 18446744073709551616 + lo := by omega
        have i0 : 0 ≤ hi := by omega
        have i1 : hi < 18446744073709551616 := by omega
        have l0 : 0 ≤ lo := by omega
        have l1 : lo < 18446744073709551616 := by omega
        have C1 := hid c1; have HP := hid hP; have HPP := hid hPP
        clear c1 hP hPP hhi hlo hbd
        by_cases hfit : P ≤ r * 18446744073709551616 + u0
        · have FIT := hid (gk_fit GG.out (by rw [HP.out]; exact hfit))
          have UP := hid GG.out.up
          by_cases hhr : hi < r
          · clear hfit
            go_wp2_with fail
            refine (C1.out _).mono ?_
            rintro e wx ⟨rfl, rfl⟩
            go_wp2
            go_ret
            exact ⟨⟨0, rfl⟩, t, rfl, t0a, t0b, FIT.out, UP.out⟩
          · have hhe : hi = r := by have := HPP.out; omega
            have hlu : lo ≤ u0 := by have := HPP.out; omega
            subst hhe
            clear hfit
            have hee : (hi == hi) = true := by simp
            go_wp2_with fail
            refine (C1.out _).mono ?_
            rintro e wx ⟨rfl, rfl⟩
            go_wp2
            go_ret
            exact ⟨⟨0, rfl⟩, t, rfl, t0a, t0b, FIT.out, UP.out⟩
        · have hgt : r * 18446744073709551616 + u0 < t * v0 := by rw [HP.out]; omega
          have htp := gk_pos r0a c0 d0 hgt
          obtain ⟨s, rfl⟩ : ∃ s, t = s + 1 := ⟨t - 1, by omega⟩
          have G1 := hid (gk_step GG.out hgt)
          clear GG hgt
          have G3 : Hid (Gk X u0 u2 v0 s ((r + u2) % 18446744073709551616 + (r + u2) / 18446744073709551616 * 18446744073709551616)) := by
            show Gk _ _ _ _ _ _
            have : (r + u2) % 18446744073709551616 + (r + u2) / 18446744073709551616 * 18446744073709551616 = r + u2 := by omega
            rw [this]; exact G1.out
          clear G1
          have hs : s + 1 - 1 = s := by omega
          by_cases hhr : r < hi
          · have hne : (hi == r) = false := by simp; omega
            clear hfit
            go_wp2_with fail
            refine (C1.out _).mono ?_
            rintro e wx ⟨rfl, rfl⟩
            go_wp2_with (simp only [add64_0 r u2 r0a (Int.le_of_lt e0)])
            go_round
            case rel => exact ⟨s, _, _, by go_num, rfl, rfl, by omega, by omega, by omega, by omega, by omega, by omega, G3.out⟩
            case measure => simp [intOf]; omega
          · have hhe : hi = r := by have := HPP.out; omega
            have hlu : ¬ lo ≤ u0 := by have := HPP.out; omega
            subst hhe
            clear hfit
            have hee : (hi == hi) = true := by simp
            go_wp2_with fail
            refine (C1.out _).mono ?_
            rintro e wx ⟨rfl, rfl⟩
            go_wp2_with (simp only [add64_0 hi u2 r0a (Int.le_of_lt e0)])
            go_round
            case rel => exact ⟨s, _, _, by go_num, rfl, rfl, by omega, by omega, by omega, by omega, by omega, by omega, G3.out⟩
            case measure => simp [intOf]; omega
      · have hk1 : k = 1 := by omega
        subst hk1
        have BIG := hid (gk_big G.out t0b d0 d1 c0 (by omega))
        have UP := hid G.out.up
        go_wp2
        go_ret
        exact ⟨⟨0, rfl⟩, t, rfl, t0a, t0b, BIG.out, UP.out⟩
end Go.Proofs.YtlpmfmphglgocaaGreatDoor
namespace Go.Proofs.YtlpmfmphglgocaaGreatDoor
open Go.RowKit

/-- The guess, told by what it is. -/
def gq (T V : Int) : Int := if T / V ≤ 18446744073709551615 then T / V else 18446744073709551615
theorem gq_of {T V t : Int} (hV : 0 < V) (t1 : t < 18446744073709551616) (h1 : t * V ≤ T) (h2 : t = 18446744073709551615 ∨ T < (t + 1) * V) : t = gq T V := by
  have e1 := Int.mul_ediv_add_emod T V
  have e2 := Int.emod_nonneg T (show V ≠ 0 by omega)
  have e3 := Int.emod_lt_of_pos T hV
  have le : t ≤ T / V := (Int.le_ediv_iff_mul_le hV).2 h1
  unfold gq
  rcases h2 with rfl | h2
  · split <;> omega
  · have : T / V < t + 1 := (Int.ediv_lt_iff_lt_mul hV).2 h2
    rw [if_pos (by omega)]; omega

theorem guess_q (u2 u1 u0 v1 v0 : Int) (w : World) (a0 : 0 ≤ u2) (a1 : u2 ≤ v1) (b0 : 0 ≤ u1) (b1 : u1 < 18446744073709551616) (c0 : 0 ≤ u0) (c1 : u0 < 18446744073709551616) (d0 : 0 ≤ v0) (d1 : v0 < 18446744073709551616) (e0 : 0 < v1) (e1 : v1 < 18446744073709551616) :
    Calls Tryz.prog 165 #[.int .u64 u2, .int .u64 u1, .int .u64 u0, .int .u64 v1, .int .u64 v0] w fun e w' => e = .returned (.int .u64 (gq ((u2 * 18446744073709551616 + u1) * 18446744073709551616 + u0) (v1 * 18446744073709551616 + v0))) ∧ ∃ q, w' = w.drewN q := by
  refine (guess_c u2 u1 u0 v1 v0 w a0 a1 b0 b1 c0 c1 d0 d1 e0 e1).mono ?_
  rintro e w' ⟨hq, t, rfl, t0, t1, h1, h2⟩
  refine ⟨?_, hq⟩
  rw [← gq_of (by omega) t1 h1 h2]
theorem gq_is {T V : Int} (hT : 0 ≤ T) (hV : 0 < V) : 0 ≤ gq T V ∧ gq T V < 18446744073709551616 ∧ gq T V * V ≤ T ∧ (gq T V = 18446744073709551615 ∨ T < (gq T V + 1) * V) := by
  have e1 := Int.mul_ediv_add_emod T V
  have e2 := Int.emod_nonneg T (show V ≠ 0 by omega)
  have e3 := Int.emod_lt_of_pos T hV
  have e4 : 0 ≤ T / V := Int.ediv_nonneg hT (by omega)
  have e5 : T / V * V = V * (T / V) := Int.mul_comm _ _
  unfold gq
  split
  · exact ⟨e4, by omega, by omega, .inr (by rw [Int.add_mul]; omega)⟩
  · refine ⟨by decide, by decide, ?_, .inl rfl⟩
    have : 18446744073709551615 * V ≤ T / V * V := Int.mul_le_mul_of_nonneg_right (by omega) (by omega)
    omega

theorem top2 (f : Nat → Int) (m : Nat) : vf f (m + 2) = vf f m + (f (m + 1) * 18446744073709551616 + f m) * pw m := by
  rw [vf_succ, vf_succ, pw_succ]; grind
theorem top3 (f : Nat → Int) (m : Nat) : vf f (m + 2 + 1) = vf f m + ((f (m + 2) * 18446744073709551616 + f (m + 1)) * 18446744073709551616 + f m) * pw m := by
  rw [vf_succ, vf_succ, vf_succ, pw_succ (m + 1), pw_succ m]; grind

/-- A guess by the highest limbs is right or one too great. -/
theorem div_range {lu lv T V2 t p U V : Int} (hU : U = lu + T * p) (hV : V = lv + V2 * p) (a0 : 0 ≤ lu) (a1 : lu < p) (b0 : 0 ≤ lv) (b1 : lv < p) (hUV : U < V * 18446744073709551616) (hV2 : 18446744073709551616 ≤ V2) (t0 : 0 ≤ t) (t1 : t < 18446744073709551616) (h1 : t * V2 ≤ T) (h2 : t = 18446744073709551615 ∨ T < (t + 1) * V2) :
    U < (t + 1) * V ∧ (t - 1) * V ≤ U := by
  have hp : 0 < p := by omega
  constructor
  · rcases h2 with rfl | h2
    · omega
    · have e1 : (T + 1) * p ≤ (t + 1) * V2 * p := Int.mul_le_mul_of_nonneg_right (by omega) (Int.le_of_lt hp)
      have e2 : 0 ≤ (t + 1) * lv := Int.mul_nonneg (by omega) b0
      rw [hV, Int.mul_add, ← Int.mul_assoc, hU]
      rw [Int.add_mul, Int.one_mul] at e1
      omega
  · have hT : 0 ≤ T := Int.le_trans (Int.mul_nonneg t0 (by omega)) h1
    have hTp : 0 ≤ T * p := Int.mul_nonneg hT (Int.le_of_lt hp)
    by_cases h0 : t = 0
    · subst h0
      have : 0 ≤ V2 * p := Int.mul_nonneg (by omega) (Int.le_of_lt hp)
      omega
    · have e1 : (t - 1) * V ≤ (t - 1) * ((V2 + 1) * p) := Int.mul_le_mul_of_nonneg_left (by rw [Int.add_mul, Int.one_mul]; omega) (by omega)
      have e2 : (t - 1) * (V2 + 1) = t * V2 + t - V2 - 1 := by grind
      have e3 : (t - 1) * (V2 + 1) * p ≤ T * p := Int.mul_le_mul_of_nonneg_right (by rw [e2]; omega) (Int.le_of_lt hp)
      rw [← Int.mul_assoc] at e1
      omega

theorem only_drewN {g : Nat} {a w : World} (h : Only g a w) (q : Nat) : Only g a (w.drewN q) := ⟨h.os, h.tape, h.output, h.size, h.block⟩

/-- What takeOut leaves. -/
structure Took (g o n N : Nat) (f : Nat → Int) (w w' : World) (V t : Int) : Prop where
  t0 : 0 ≤ t
  t1 : t < 18446744073709551616
  only : Only g w w'
  res : ∃ f', Blk .u64 28 w' g N f' ∧ Lm f' N ∧ (∀ j, j < o ∨ o + (n + 1) ≤ j → f' j = f j) ∧ vf (sh f' o) (n + 1) = vf (sh f o) (n + 1) - t * V ∧ vf (sh f' o) (n + 1) < V

set_option maxRecDepth 100000 in
set_option maxHeartbeats 4000000 in
theorem takeOut_c (g o n cap N : Nat) (f : Nat → Int) (b ob cb : Nat) (h : Nat → Int) (w : World) (hb : Blk .u64 28 w g N f) (hf : Lm f N) (ho : o + (n + 1) ≤ N) (hN : N ≤ 17592186044416) (hcap : n + 1 ≤ cap) (hcm : cap ≤ 17592186044416)
    (hr : Rd .u64 w (some ⟨b, ob, none⟩) n h) (hh : Lm h n) (hoff : b ≠ g) (hn2 : 2 ≤ n) (htop : 9223372036854775808 ≤ h (n - 1)) (hUV : vf (sh f o) (n + 1) < vf h n * 18446744073709551616) :
    Calls Tryz.prog 137 #[.slice (some ⟨g, o, none⟩) (n + 1) cap, .slice (some ⟨b, ob, none⟩) n cb] w fun e w' => ∃ t, e = .returned (.int .u64 t) ∧ Took g o n N f w w' (vf h n) t := by
  obtain ⟨m, rfl⟩ : ∃ m, n = m + 2 := ⟨n - 2, by omega⟩
  obtain ⟨x2, hx2⟩ : ∃ x, f (o + (m + 2)) = x := ⟨_, rfl⟩
  obtain ⟨x1, hx1⟩ : ∃ x, f (o + (m + 1)) = x := ⟨_, rfl⟩
  obtain ⟨x0, hx0⟩ : ∃ x, f (o + m) = x := ⟨_, rfl⟩
  obtain ⟨y1, hy1⟩ : ∃ x, h (m + 1) = x := ⟨_, rfl⟩
  obtain ⟨y0, hy0⟩ : ∃ x, h m = x := ⟨_, rfl⟩
  have hcx2 : w.cell? ⟨g, o + (m + 2), none⟩ = some (.int .u64 x2) := by rw [← hx2]; exact hb.cell (by omega)
  have hcx1 : w.cell? ⟨g, o + (m + 1), none⟩ = some (.int .u64 x1) := by rw [← hx1]; exact hb.cell (by omega)
  have hcx0 : w.cell? ⟨g, o + m, none⟩ = some (.int .u64 x0) := by rw [← hx0]; exact hb.cell (by omega)
  have hcy1 : w.cell? ⟨b, ob + (m + 1), none⟩ = some (.int .u64 y1) := by rw [← hy1]; exact hr.cell (by omega)
  have hcy0 : w.cell? ⟨b, ob + m, none⟩ = some (.int .u64 y0) := by rw [← hy0]; exact hr.cell (by omega)
  have bx2 := hf (o + (m + 2)) (by omega)
  have bx1 := hf (o + (m + 1)) (by omega)
  have bx0 := hf (o + m) (by omega)
  have by1 := hh (m + 1) (by omega)
  have by0 := hh m (by omega)
  rw [hx2] at bx2; rw [hx1] at bx1; rw [hx0] at bx0; rw [hy1] at by1; rw [hy0] at by0
  have htop' : 9223372036854775808 ≤ y1 := by rw [← hy1]; exact htop
  have hU := top3 (sh f o) m
  have hV := top2 h m
  simp only [sh_at] at hU
  rw [hx2, hx1, hx0] at hU
  rw [hy1, hy0] at hV
  have lu0 := vf_nonneg (hf.sh (o := o) (m := m) (by omega))
  have lu1 := vf_lt (hf.sh (o := o) (m := m) (by omega))
  have lv0 := vf_nonneg (hh.mono (m := m) (by omega))
  have lv1 := vf_lt (hh.mono (m := m) (by omega))
  have hV0 := vf_nonneg hh
  have hV1 := vf_lt hh
  have hx2y1 : x2 ≤ y1 := by
    apply Int.le_of_lt_add_one
    have p0 := pw_pos m
    have e1 : ((x2 * 18446744073709551616 + x1) * 18446744073709551616 + x0) * pw m < ((y1 + 1) * 18446744073709551616 * 18446744073709551616) * pw m := by
      have a2 : (y1 * 18446744073709551616 + y0 + 1) * pw m ≤ ((y1 + 1) * 18446744073709551616) * pw m := Int.mul_le_mul_of_nonneg_right (by omega) (Int.le_of_lt p0)
      rw [Int.add_mul _ 1, Int.one_mul] at a2
      have a3 : ((y1 + 1) * 18446744073709551616 * 18446744073709551616) * pw m = ((y1 + 1) * 18446744073709551616) * pw m * 18446744073709551616 := by grind
      rw [a3]
      omega
    have e2 := Int.lt_of_mul_lt_mul_right e1 (Int.le_of_lt p0)
    omega
  obtain ⟨T, hT⟩ : ∃ T, (x2 * 18446744073709551616 + x1) * 18446744073709551616 + x0 = T := ⟨_, rfl⟩
  obtain ⟨V2, hV2⟩ : ∃ V2, y1 * 18446744073709551616 + y0 = V2 := ⟨_, rfl⟩
  have cg := fun W => guess_q x2 x1 x0 y1 y0 W bx2.1 hx2y1 bx1.1 bx1.2 bx0.1 bx0.2 by0.1 by0.2 (by omega) by1.2
  have hgi := gq_is (T := T) (V := V2) (by omega) (by omega)
  rw [hT] at hU cg
  rw [hV2] at hV cg
  obtain ⟨t, ht⟩ : ∃ t, gq T V2 = t := ⟨_, rfl⟩
  rw [ht] at cg hgi
  obtain ⟨t0, t1, ht1, ht2⟩ := hgi
  have hrange := div_range hU hV lu0 lu1 lv0 lv1 hUV (by omega) t0 t1 ht1 ht2
  have CG := hid cg; have RNG := hid hrange; have HB := hid hb; have HF := hid hf; have HR := hid hr; have HH := hid hh; have HX2 := hid hx2
  have hfz := hb.frozen (o + (m + 2))
  have BV0 := hid hV0; have BV1 := hid hV1
  clear cg hrange hb hf hr hh hT hV2 ht ht1 ht2 hU hV lu0 lu1 lv0 lv1 hUV hx2 hx1 hx0 hy1 hy0 htop hV0 hV1
  have i1 : ((m + 2 : Nat) : Int) < ((m + 2 + 1 : Nat) : Int) := by omega
  obtain ⟨bx2a, bx2b⟩ := bx2
  go_enter Tryz.func137, Tryz.ntmps137
  go_wp2
  go_quiet ((go_at_call 165; exact (CG.out _).mono (fun _ _ h => ⟨h.1, (by obtain ⟨q, hq⟩ := h.2; exact ⟨_, by rw [hq, World.drewN_drewN]⟩)⟩)))
  go_wp2_with fail
  refine (mulSubFrom_c g o (m + 2 + 1) cap N f (some ⟨b, ob, none⟩) (m + 2) cb h t (w.drewN _) HB.out HF.out ho HR.out HH.out (fun _ => off_some hoff) (by omega) hcap (by omega) t0 t1).mono ?_
  rintro e w1 ⟨ov, rfl, v0, v1, hon1, f1, hb1, hl1, he1, hv1⟩
  have HV1 := hid hv1
  have hx2' : f1 (o + (m + 2)) = x2 := (he1 _ (by omega)).trans HX2.out
  have hcx2' : w1.cell? ⟨g, o + (m + 2), none⟩ = some (.int .u64 x2) := by rw [← hx2']; exact hb1.cell (by omega)
  have hfz1 := hb1.frozen (o + (m + 2))
  have HX2' := hid hx2'
  have HE1 := hid he1; have HL1 := hid hl1; have HB1 := hid hb1
  clear hv1 hx2' he1 hl1 hb1 hcx2 hcx1 hcx0 hcy1 hcy0 hfz
  have n1 := vf_nonneg (HL1.out.sh (o := o) (m := m + 2) (by omega))
  have n2 := vf_lt (HL1.out.sh (o := o) (m := m + 2) (by omega))
  have N1 := hid n1; have N2 := hid n2
  clear n1 n2
  have hUe : vf (sh f o) (m + 2 + 1) = vf (sh f o) (m + 2) + x2 * pw (m + 2) := by rw [vf_succ, sh_at, HX2.out]
  have hmain : vf (sh f1 o) (m + 2) + (x2 - ov) * pw (m + 2) = vf (sh f o) (m + 2 + 1) - t * vf h (m + 2) := by
    have := HV1.out
    rw [hUe, Int.sub_mul, Int.mul_comm t]; omega
  have HMain := hid hmain
  have U0 := hid (vf_nonneg (HF.out.sh (o := o) (m := m + 2 + 1) (by omega)))
  have PW := hid (pw_pos (m + 2))
  have hupd : ∀ z, vf (sh (upd f1 (o + (m + 2)) z) o) (m + 2 + 1) = vf (sh f1 o) (m + 2) + z * pw (m + 2) := fun z => by
    rw [vf_succ, sh_at, upd_same, vf_congr (f := sh (upd f1 (o + (m + 2)) z) o) (g := sh f1 o) (fun j hj => upd_other _ _ _ _ (by omega))]
  have HUpd := hid hupd
  clear hUe hmain hupd CG
  by_cases hs : x2 < ov
  · have hneg : vf (sh f o) (m + 2 + 1) - t * vf h (m + 2) < 0 := by
      rw [← HMain.out]
      have := N2.out
      have e : (x2 - ov) * pw (m + 2) ≤ (-1) * pw (m + 2) := Int.mul_le_mul_of_nonneg_right (by omega) (Int.le_of_lt PW.out)
      omega
    have ht : 0 < t := by
      apply Int.lt_of_not_ge
      intro h0
      obtain rfl : t = 0 := by omega
      have := U0.out
      omega
    obtain ⟨s, rfl⟩ : ∃ s, t = s + 1 := ⟨t - 1, by omega⟩
    have hs1 : s + 1 - 1 = s := by omega
    have hw : IntKind.u64.wrap (x2 - ov) = x2 - ov + 18446744073709551616 := by rw [IntKind.wrap_u64]; omega
    have hsb : decide (x2 < ov) = true := by simp [hs]
    have hw2 : IntKind.u64.wrap (s + 1 - 1) = s := by rw [IntKind.wrap_u64]; omega
    have HNeg := hid hneg
    clear hneg
    go_wp2_with fail
    refine (addTo_g g o (m + 2 + 1) cap N _ (some ⟨b, ob, none⟩) (m + 2) cb h _ (HB1.out.set _ _) (HL1.out.upd (by omega)) ho (by omega) ((HR.out.only (only_drewN (Only.refl g w) _) (off_some hoff)).only (hon1.trans ((Only.refl _ _).setCell _ _ _)) (off_some hoff)) HH.out (fun _ => off_some hoff) (by omega) hcap (by omega)).mono ?_
    rintro e w2 ⟨rfl, hon2, f3, c, hb3, hl3, he3, hc0, hv3⟩
    have HV3 := hid hv3; have HB3 := hid hb3; have HL3 := hid hl3; have HE3 := hid he3
    clear hv3 hb3 hl3 he3
    go_wp2
    go_ret
    have r1 := RNG.out
    have r2 := HNeg.out
    have a1 := HV3.out
    rw [HUpd.out, Int.add_mul (x2 - ov), ← Int.add_assoc, HMain.out, ← pw_succ (m + 2)] at a1
    rw [show s + 1 - 1 = s by omega] at r1
    have a2 := vf_nonneg (HL3.out.sh (o := o) (m := m + 2 + 1) (by omega))
    have a3 := vf_lt (HL3.out.sh (o := o) (m := m + 2 + 1) (by omega))
    have a4 : (s + 1) * vf h (m + 2) = s * vf h (m + 2) + vf h (m + 2) := by rw [Int.add_mul, Int.one_mul]
    have a5 : (s + 1 + 1) * vf h (m + 2) = s * vf h (m + 2) + vf h (m + 2) + vf h (m + 2) := by rw [Int.add_mul, Int.add_mul, Int.one_mul]
    have a6 : pw (m + 2) < pw (m + 2 + 1) := by have := pw_pos (m + 2); rw [pw_succ (m + 2)]; omega
    have a7 := BV1.out
    have a8 := pw_pos (m + 2 + 1)
    have hc1 : c = 1 := by
      have hc2 : c < 2 := by
        apply Int.lt_of_not_ge; intro hc
        have : 2 * pw (m + 2 + 1) ≤ c * pw (m + 2 + 1) := Int.mul_le_mul_of_nonneg_right hc (Int.le_of_lt a8)
        omega
      have hc3 : c ≠ 0 := by
        rintro rfl
        omega
      omega
    subst hc1
    refine ⟨s, rfl, by omega, by omega, ((only_drewN (Only.refl g w) _).trans hon1).trans (((Only.refl _ _).setCell _ _ _).trans hon2), f3, HB3.out, HL3.out, fun j hj => ?_, by omega, by omega⟩
    rw [HE3.out j hj, upd_other _ _ _ _ (by omega), HE1.out j (by omega)]
  · have hw : IntKind.u64.wrap (x2 - ov) = x2 - ov := by rw [IntKind.wrap_u64]; omega
    have hsb : decide (x2 < ov) = false := by simp; omega
    go_wp2
    go_ret
    have r1 := RNG.out
    have a0 := HMain.out
    have a1 := HUpd.out (x2 - ov)
    have a4 : (t + 1) * vf h (m + 2) = t * vf h (m + 2) + vf h (m + 2) := by rw [Int.add_mul, Int.one_mul]
    refine ⟨t, rfl, t0, t1, ((only_drewN (Only.refl g w) _).trans hon1).trans ((Only.refl _ _).setCell _ _ _), upd f1 (o + (m + 2)) (x2 - ov), HB1.out.set _ _, HL1.out.upd (by omega), fun j hj => ?_, by omega, by omega⟩
    rw [upd_other _ _ _ _ (by omega), HE1.out j (by omega)]
end Go.Proofs.YtlpmfmphglgocaaGreatDoor
namespace Go.Proofs.YtlpmfmphglgocaaGreatDoor
open Go.RowKit

/-- The value of the first n limbs. -/
def pd : Nat → Int | 0 => 1 | n + 1 => 4294967296 * pd n
def vd (f : Nat → Int) : Nat → Int | 0 => 0 | n + 1 => vd f n + f n * pd n
/-- Each of the first n is a limb. -/
def Dg (f : Nat → Int) (n : Nat) : Prop := ∀ j, j < n → 0 ≤ f j ∧ f j < 4294967296
theorem pd_pos (n : Nat) : 0 < pd n := by induction n with | zero => decide | succ n ih => simp only [pd]; omega
theorem pd_succ (n : Nat) : pd (n + 1) = 4294967296 * pd n := rfl
theorem pd_add (m n : Nat) : pd (m + n) = pd m * pd n := by
  induction n with
  | zero => simp [pd]
  | succ n ih => rw [← Nat.add_assoc, pd_succ, ih, pd_succ]; grind
theorem vd_succ (f : Nat → Int) (n : Nat) : vd f (n + 1) = vd f n + f n * pd n := rfl
theorem vd_congr {f g : Nat → Int} {n : Nat} (h : ∀ j, j < n → f j = g j) : vd f n = vd g n := by
  induction n with
  | zero => rfl
  | succ n ih => rw [vd_succ, vd_succ, ih (fun j hj => h j (by omega)), h n (by omega)]
theorem Dg.mono {f n m} (h : Dg f n) (hm : m ≤ n) : Dg f m := fun j hj => h j (by omega)
theorem Dg.congr {f g : Nat → Int} {n : Nat} (h : Dg f n) (he : ∀ j, j < n → f j = g j) : Dg g n := fun j hj => by rw [← he j hj]; exact h j hj
theorem Dg.upd {f n} (h : Dg f n) {i : Nat} {v : Int} (hv : 0 ≤ v ∧ v < 4294967296) : Dg (upd f i v) n := fun j hj => by
  by_cases hji : j = i
  · subst hji; rw [upd_same]; exact hv
  · rw [upd_other _ _ _ _ hji]; exact h j hj
theorem Dg.sh {f n} (h : Dg f n) {o m : Nat} (hm : o + m ≤ n) : Dg (sh f o) m := fun j hj => h (o + j) (by omega)
theorem vd_nonneg {f : Nat → Int} {n : Nat} (h : Dg f n) : 0 ≤ vd f n := by
  induction n with
  | zero => simp [vd]
  | succ n ih =>
    have h1 := ih (h.mono (by omega))
    have h2 := Int.mul_nonneg (h n (by omega)).1 (Int.le_of_lt (pd_pos n))
    rw [vd_succ]; omega
theorem vd_lt {f : Nat → Int} {n : Nat} (h : Dg f n) : vd f n < pd n := by
  induction n with
  | zero => simp [vd, pd]
  | succ n ih =>
    have h1 := ih (h.mono (by omega))
    have h2 : (f n + 1) * pd n ≤ 4294967296 * pd n := Int.mul_le_mul_of_nonneg_right (by have := (h n (by omega)).2; omega) (Int.le_of_lt (pd_pos n))
    rw [Int.add_mul, Int.one_mul] at h2
    rw [vd_succ, pd_succ]; omega
/-- A number cut in two. -/
theorem vd_split (f : Nat → Int) (m n : Nat) : vd f (m + n) = vd f m + vd (sh f m) n * pd m := by
  induction n with
  | zero => simp [vd]
  | succ n ih => rw [← Nat.add_assoc, vd_succ, ih, vd_succ, pd_add, sh_at]; grind
theorem vd_zero {f : Nat → Int} {n : Nat} (h : ∀ j, j < n → f j = 0) : vd f n = 0 := by
  induction n with
  | zero => rfl
  | succ n ih => rw [vd_succ, ih (fun j hj => h j (by omega)), h n (by omega)]; simp
/-- Noughts at the end count nothing. -/
theorem vd_ext {f : Nat → Int} {m n : Nat} (hm : m ≤ n) (h : ∀ j, m ≤ j → j < n → f j = 0) : vd f n = vd f m := by
  obtain ⟨d, rfl⟩ := Nat.exists_eq_add_of_le hm
  rw [vd_split, vd_zero (f := sh f m) (fun j hj => h _ (by omega) (by omega))]; simp
theorem vd_form_ge {f : Nat → Int} {n : Nat} (h : Dg f n) (hf : Fm f n) (hn : 0 < n) : pd (n - 1) ≤ vd f n := by
  obtain ⟨m, rfl⟩ : ∃ m, n = m + 1 := ⟨n - 1, by omega⟩
  have h0 := vd_nonneg (h.mono (m := m) (by omega))
  have h1 := h m (by omega)
  have h2 : f m ≠ 0 := by rcases hf with h | h; omega; simpa using h
  have h3 : 1 * pd m ≤ f m * pd m := Int.mul_le_mul_of_nonneg_right (by omega) (Int.le_of_lt (pd_pos m))
  rw [vd_succ]; simp at h3 ⊢; omega
theorem pd_mono {m n : Nat} (h : m ≤ n) : pd m ≤ pd n := by
  induction n with
  | zero => obtain rfl : m = 0 := by omega
            exact Int.le_refl _
  | succ n ih =>
    by_cases hm : m = n + 1
    · subst hm; exact Int.le_refl _
    · have := ih (by omega); have := pd_pos n; rw [pd_succ]; omega
/-- One number, one list (of one length). -/
theorem vd_inj_same {f g : Nat → Int} {n : Nat} (hf : Dg f n) (hg : Dg g n) (h : vd f n = vd g n) : ∀ j, j < n → f j = g j := by
  induction n with
  | zero => intro j hj; omega
  | succ n ih =>
    have a1 := vd_nonneg (hf.mono (m := n) (by omega)); have a2 := vd_lt (hf.mono (m := n) (by omega))
    have b1 := vd_nonneg (hg.mono (m := n) (by omega)); have b2 := vd_lt (hg.mono (m := n) (by omega))
    rw [vd_succ, vd_succ] at h
    have hp := pd_pos n
    have e : f n = g n := by
      rcases Int.lt_trichotomy (f n) (g n) with hl | hl | hl
      · have : (f n + 1) * pd n ≤ g n * pd n := Int.mul_le_mul_of_nonneg_right (by omega) (Int.le_of_lt hp)
        rw [Int.add_mul, Int.one_mul] at this; omega
      · exact hl
      · have : (g n + 1) * pd n ≤ f n * pd n := Int.mul_le_mul_of_nonneg_right (by omega) (Int.le_of_lt hp)
        rw [Int.add_mul, Int.one_mul] at this; omega
    have hr := ih (hf.mono (by omega)) (hg.mono (by omega)) (by rw [e] at h; omega)
    intro j hj
    by_cases hjn : j = n
    · subst hjn; exact e
    · exact hr j (by omega)
theorem vd_len {f g : Nat → Int} {n m : Nat} (hf : Dg f n) (hg : Dg g m) (ff : Fm f n) (h : vd f n ≤ vd g m) : n ≤ m := by
  apply Nat.le_of_not_lt
  intro hlt
  have h1 := vd_form_ge hf ff (by omega)
  have h2 := vd_lt hg
  have h3 := pd_mono (m := m) (n := n - 1) (by omega)
  omega
/-- One number, one list in form. -/
theorem vd_inj {f g : Nat → Int} {n m : Nat} (hf : Dg f n) (hg : Dg g m) (ff : Fm f n) (fg : Fm g m) (h : vd f n = vd g m) : n = m ∧ ∀ j, j < n → f j = g j := by
  have e : n = m := Nat.le_antisymm (vd_len hf hg ff (by omega)) (vd_len hg hf fg (by omega))
  subst e
  exact ⟨rfl, vd_inj_same hf hg h⟩
/-- The trimmed list. -/
theorem trim_vald {f : Nat → Int} {m n : Nat} (hm : m ≤ n) (hz : ∀ j, m ≤ j → j < n → f j = 0) : vd f m = vd f n := (vd_ext hm hz).symm
end Go.Proofs.YtlpmfmphglgocaaGreatDoor
namespace Go.Proofs.YtlpmfmphglgocaaGreatDoor
open Go.RowKit

/-- A limb times P, cut in two (P * Q = 2^64). -/
theorem limb_cut {x P Q : Int} (x0 : 0 ≤ x) (x1 : x < 18446744073709551616) (hPQ : P * Q = 18446744073709551616) (p0 : 0 < P) (q0 : 0 < Q) :
    (x * P) % 18446744073709551616 = (x % Q) * P ∧ 0 ≤ x / Q ∧ x / Q < P ∧ 0 ≤ (x % Q) * P ∧ (x % Q) * P ≤ 18446744073709551616 - P := by
  have e1 : (x * P) % 18446744073709551616 = (x % Q) * P := by rw [← hPQ, Int.mul_comm x P, Int.mul_emod_mul_of_pos _ _ p0, Int.mul_comm]
  refine ⟨e1, Int.ediv_nonneg x0 (Int.le_of_lt q0), ?_, Int.mul_nonneg (Int.emod_nonneg _ (by omega)) (Int.le_of_lt p0), ?_⟩
  · exact Int.ediv_lt_of_lt_mul q0 (by rw [hPQ]; exact x1)
  · have h1 := Int.emod_lt_of_pos x q0
    have h2 : (x % Q + 1) * P ≤ Q * P := Int.mul_le_mul_of_nonneg_right (by omega) (Int.le_of_lt p0)
    rw [Int.add_mul, Int.one_mul, Int.mul_comm Q P, hPQ] at h2
    omega

/-- One round of a shift to the left. -/
theorem shl_step {F a : Nat → Int} {o k : Nat} {P Q x y : Int} (hv : vf (sh F o) (k + 1) = vf a k * P) (hx : a k = x) (hy : F (o + k) = y) (hPQ : P * Q = 18446744073709551616) :
    vf (sh (upd (upd F (o + k) (y + x % Q * P)) (o + k + 1) (x / Q)) o) (k + 1 + 1) = vf a (k + 1) * P := by
  have e1 : vf (sh (upd (upd F (o + k) (y + x % Q * P)) (o + k + 1) (x / Q)) o) k = vf (sh F o) k := vf_congr (fun j hj => by rw [sh_at, sh_at, upd_other _ _ _ _ (by omega), upd_other _ _ _ _ (by omega)])
  have e2 : sh (upd (upd F (o + k) (y + x % Q * P)) (o + k + 1) (x / Q)) o k = y + x % Q * P := by rw [sh_at, upd_other _ _ _ _ (by omega), upd_same]
  have e3 : sh (upd (upd F (o + k) (y + x % Q * P)) (o + k + 1) (x / Q)) o (k + 1) = x / Q := by rw [sh_at, ← Nat.add_assoc, upd_same]
  rw [vf_succ, vf_succ, e1, e2, e3, vf_succ, pw_succ]
  rw [vf_succ, sh_at, hy] at hv
  have e4 := Int.mul_ediv_add_emod x Q
  rw [hx, ← hPQ]
  have e5 : x * pw k * P = (Q * (x / Q) + x % Q) * pw k * P := by rw [e4]
  rw [Int.add_mul (vf a k), e5, ← hv]
  grind

/-- What a list reads from place o on, noughts ahead of it. -/
theorem vf_ahead {F : Nat → Int} {o n : Nat} (h : ∀ j, j < o → F j = 0) : vf F (o + n) = vf (sh F o) n * pw o := by
  rw [vf_split, vf_zero h]; omega

end Go.Proofs.YtlpmfmphglgocaaGreatDoor
namespace Go.Proofs.YtlpmfmphglgocaaGreatDoor
open Go.RowKit

theorem or_comm64 (x y : Int) : bits BinOp.or .u64 x y = bits BinOp.or .u64 y x := by simp only [bits]; rw [BitVec.or_comm]

/-- The numbers of one round of shl. -/
theorem shl_nums (x y s : Int) (x0 : 0 ≤ x) (x1 : x < 18446744073709551616) (s0 : 0 ≤ s) (s1 : s ≤ 63) (y0 : 0 ≤ y) (y1 : y < 2 ^ s.toNat) :
    ∃ L Z H, IntKind.u64.wrap (x * 2 ^ s.toNat) = L ∧ 0 ≤ L ∧ L < 18446744073709551616 ∧ bits BinOp.or .u64 y L = Z ∧ 0 ≤ Z ∧ Z < 18446744073709551616 ∧ x / 2 ^ (64 - s).toNat = H ∧ 0 ≤ H ∧ H < 18446744073709551616 ∧ Hid (H < 2 ^ s.toNat) ∧ Hid (Z = y + x % 2 ^ (64 - s).toNat * 2 ^ s.toNat) := by
  have hPQ : (2 : Int) ^ s.toNat * 2 ^ (64 - s).toNat = 18446744073709551616 := by rw [← Int.pow_add, show s.toNat + (64 - s).toNat = 64 by omega]; rfl
  have p0 : (0 : Int) < 2 ^ s.toNat := Int.pow_pos (by decide)
  have q0 : (0 : Int) < 2 ^ (64 - s).toNat := Int.pow_pos (by decide)
  obtain ⟨c1, c2, c3, c4, c5⟩ := limb_cut x0 x1 hPQ p0 q0
  have hP : (2 : Int) ^ s.toNat ≤ 18446744073709551616 := by
    rw [← hPQ]
    have := Int.mul_le_mul_of_nonneg_left (show (1 : Int) ≤ 2 ^ (64 - s).toNat by omega) (Int.le_of_lt p0)
    omega
  have hL : IntKind.u64.wrap (x * 2 ^ s.toNat) = x % 2 ^ (64 - s).toNat * 2 ^ s.toNat := by rw [IntKind.wrap_u64, c1]
  refine ⟨_, _, _, hL, c4, by omega, ?_, ?_, ?_, rfl, c2, by omega, c3, rfl⟩
  · rw [or_comm64 y, bits_join .u64 64 (by decide) wraps_u64 s.toNat _ _ c4 (Int.mul_emod_left _ _) (by omega) y0 y1 (by omega), Int.add_comm]
  · omega
  · omega

set_option maxRecDepth 100000 in
set_option maxHeartbeats 1000000 in
/-- shl: a * 2^(64 * skip + s). -/
theorem shl_c (ao : Option Addr) (n cap skip : Nat) (z s : Int) (f : Nat → Int) (w : World) (hn : n ≤ 8796093022208) (hk : skip ≤ 1048576) (s0 : 0 ≤ s) (s1 : s ≤ 63) (hz : z = 64 * skip + s) (hr : Rd .u64 w ao n f) (hf : Lm f n) :
    Calls Tryz.prog 136 #[.slice ao n cap, .int .i64 z] w fun e w' => ∃ ao' m cap' f', e = .returned (.slice ao' m cap') ∧ Res (skip + n + 1) w w' ao' m cap' f' ∧ vf f' m = vf f n * 2 ^ s.toNat * pw skip := by
  have HF := hid hf
  have HRd := hid hr
  clear hf hr
  have z0 : 0 ≤ z := by omega
  have z1 : z ≤ 67108927 := by omega
  have h1 : z / 64 = (skip : Int) := by omega
  have h2 : z % 64 = s := by omega
  have h3 : Int.tdiv z 64 = (skip : Int) := by rw [Int.tdiv_eq_ediv_of_nonneg z0]; exact h1
  have h4 : Int.tmod z 64 = s := by rw [Int.tmod_eq_emod_of_nonneg z0]; exact h2
  clear hz
  go_enter Tryz.func136, Tryz.ntmps136
  go_wp2_with (at_make; refine wpList_make_blk .u64 w rfl (.tmp 17) (.tmp 17) 22 rfl 28 8 Tryz.underlying22 Tryz.infoU64 .i64 .i64 _ _ (skip + n + 1) rfl rfl (by omega) (by omega) (by omega) (by unfold maxLen; omega) ?_; intro w1 hb1 hbel1)
  go_loopw [21] (fun t wr => ∃ (k : Nat) (F : Nat → Int), k ≤ n ∧ t = .int .i64 k ∧ Below w.heap.size w wr ∧ Blk .u64 28 wr w.heap.size (skip + n + 1) F ∧ Hid (Lm F (skip + n + 1)) ∧ Hid (∀ j, j < skip ∨ skip + k < j → F j = 0) ∧ Hid (F (skip + k) < 2 ^ s.toNat) ∧ Hid (vf (sh F skip) (k + 1) = vf f k * 2 ^ s.toNat)) (fun t _ => n - (intOf t).toNat)
  case atStart => exact ⟨0, fun _ => 0, by omega, rfl, hbel1, hb1, fun j hj => ⟨Int.le_refl 0, show (0 : Int) < 18446744073709551616 by decide⟩, fun j hj => rfl, Int.pow_pos (by decide), by simp [Hid, vf, sh]⟩
  case round =>
    clear hb1 hbel1
    obtain ⟨k, F, hkn, rfl, hbel, hbl, HL, HZ, HT, HV⟩ := hrel
    by_cases hlt : k < n
    · have hr := HRd.out
      obtain ⟨b, ob, rfl⟩ := hr.at (by omega)
      obtain ⟨y, hy⟩ : ∃ y, F (skip + k) = y := ⟨_, rfl⟩
      obtain ⟨x, hx⟩ : ∃ x, f k = x := ⟨_, rfl⟩
      have hcell : wr.cell? ⟨w.heap.size, skip + k, none⟩ = some (.int .u64 y) := by rw [← hy]; exact hbl.cell (by omega)
      have hcelb : wr.cell? ⟨b, ob + k, none⟩ = some (.int .u64 x) := by rw [← hx]; exact (hr.below hbel (Nat.le_refl _)).cell hlt
      have hbw : b < w.heap.size := World.block_lt_of_cell? w _ (hr.cell hlt)
      have hfz := hbl.frozen (skip + k)
      have hfz2 := hbl.frozen (skip + k + 1)
      obtain ⟨y0, y1⟩ := HL.out (skip + k) (by omega)
      obtain ⟨x0, x1⟩ := HF.out k hlt
      rw [hx] at x0 x1
      rw [hy] at y0 y1
      obtain ⟨L, Z, H, eL, L0, L1, eZ, Z0, Z1, eH, H0, H1, HH, HZ2⟩ := shl_nums x y s x0 x1 s0 s1 y0 (by rw [← hy]; exact HT.out)
      have HX := hid hx
      have HY := hid hy
      clear hx hy hr
      have hcelb2 : ∀ (v : Value), (wr.setCell ⟨w.heap.size, skip + k, none⟩ v).cell? ⟨b, ob + k, none⟩ = some (.int .u64 x) := fun v => by
        rw [World.cell?_of_block (Below.heap_setCell _ _ _ _ (by simp; omega))]; exact hcelb
      have hcelb3 : ∀ (v : Value), (wr.setCell ⟨w.heap.size, skip + k, none⟩ v).drew.cell? ⟨b, ob + k, none⟩ = some (.int .u64 x) := hcelb2
      have hcell2 : wr.cell? ⟨w.heap.size, skip + k + 1, none⟩ = some (.int .u64 0) := by rw [← HZ.out (skip + k + 1) (by omega)]; exact hbl.cell (by omega)
      go_wp2
      go_region
      all_goals
        go_wp2
        go_roundw
        case rel =>
          refine ⟨k + 1, _, by omega, by go_num, ?_, ((hbl.set (skip + k) Z).set (skip + k + 1) H), ?_, ?_, ?_, ?_⟩
          · exact below_only hbel ((((Only.refl _ _).setCell _ _ _).setCell _ _ _).drew) (Nat.le_refl _) hbel.size
          · exact (HL.out.upd ⟨Z0, Z1⟩).upd ⟨H0, H1⟩
          · intro j hj
            rw [upd_other _ _ _ _ (by omega), upd_other _ _ _ _ (by omega)]
            exact HZ.out j (by omega)
          · show _ < _
            rw [← Nat.add_assoc, upd_same]; exact HH.out
          · have := shl_step (Q := 2 ^ (64 - s).toNat) HV.out HX.out HY.out (by rw [← Int.pow_add, show s.toNat + (64 - s).toNat = 64 by omega]; rfl)
            rw [← HZ2.out, eH] at this
            exact this
        case measure => simp [intOf]; omega
    · have hkn2 : k = n := by omega
      subst hkn2
      go_wp2_with fail
      refine (trim_res w.heap.size (skip + k + 1) (skip + k + 1) F w wr hbel (Nat.le_refl _) hbl (Nat.le_refl _) (by omega) HL.out).mono ?_
      rintro e w3 ⟨rfl, ao2, m, cap2, rfl, hres, hmn, hv⟩
      have HV3 := hid hv
      clear hv
      go_wp2
      go_ret
      refine ⟨ao2, m, cap2, F, rfl, hres, ?_⟩
      rw [HV3.out, Nat.add_assoc, vf_ahead (fun j hj => HZ.out j (.inl hj)), HV.out]
end Go.Proofs.YtlpmfmphglgocaaGreatDoor
namespace Go.Proofs.YtlpmfmphglgocaaGreatDoor
open Go.RowKit

/-- The numbers of one round of shrBits. -/
theorem shr_nums (x y s : Int) (x0 : 0 ≤ x) (x1 : x < 18446744073709551616) (s0 : 0 ≤ s) (s1 : s ≤ 63) (y0 : 0 ≤ y) (y1 : y < 2 ^ (64 - s).toNat) :
    ∃ L Z H, IntKind.u64.wrap (x * 2 ^ (64 - s).toNat) = L ∧ 0 ≤ L ∧ L < 18446744073709551616 ∧ bits BinOp.or .u64 y L = Z ∧ 0 ≤ Z ∧ Z < 18446744073709551616 ∧ x / 2 ^ s.toNat = H ∧ 0 ≤ H ∧ H < 18446744073709551616 ∧ Hid (H < 2 ^ (64 - s).toNat) ∧ Hid (Z = y + x % 2 ^ s.toNat * 2 ^ (64 - s).toNat) := by
  have hPQ : (2 : Int) ^ (64 - s).toNat * 2 ^ s.toNat = 18446744073709551616 := by rw [← Int.pow_add, show (64 - s).toNat + s.toNat = 64 by omega]; rfl
  have p0 : (0 : Int) < 2 ^ (64 - s).toNat := Int.pow_pos (by decide)
  have q0 : (0 : Int) < 2 ^ s.toNat := Int.pow_pos (by decide)
  obtain ⟨c1, c2, c3, c4, c5⟩ := limb_cut x0 x1 hPQ p0 q0
  have hP : (2 : Int) ^ (64 - s).toNat ≤ 18446744073709551616 := by
    rw [← hPQ]
    have := Int.mul_le_mul_of_nonneg_left (show (1 : Int) ≤ 2 ^ s.toNat by omega) (Int.le_of_lt p0)
    omega
  have hL : IntKind.u64.wrap (x * 2 ^ (64 - s).toNat) = x % 2 ^ s.toNat * 2 ^ (64 - s).toNat := by rw [IntKind.wrap_u64, c1]
  refine ⟨_, _, _, hL, c4, by omega, ?_, ?_, ?_, rfl, c2, by omega, c3, rfl⟩
  · rw [or_comm64 y, bits_join .u64 64 (by decide) wraps_u64 (64 - s).toNat _ _ c4 (Int.mul_emod_left _ _) (by omega) y0 y1 (by omega), Int.add_comm]
  · omega
  · omega

theorem shr_step {D a : Nat → Int} {j : Nat} {P Q x y r : Int} (hv : vf D (j + 1) * P + r = vf a (j + 1)) (hx : a (j + 1) = x) (hy : D j = y) (hPQ : Q * P = 18446744073709551616) :
    vf (upd (upd D (j + 1) (x / P)) j (y + x % P * Q)) (j + 1 + 1) * P + r = vf a (j + 1 + 1) := by
  have e1 : vf (upd (upd D (j + 1) (x / P)) j (y + x % P * Q)) j = vf D j := vf_congr (fun i hi => by rw [upd_other _ _ _ _ (by omega), upd_other _ _ _ _ (by omega)])
  have e2 : upd (upd D (j + 1) (x / P)) j (y + x % P * Q) (j + 1) = x / P := by rw [upd_other _ _ _ _ (by omega), upd_same]
  rw [vf_succ, vf_succ, e1, e2, upd_same, vf_succ a (j + 1), hx, ← hv, vf_succ D j, hy, pw_succ, ← hPQ]
  have e4 := Int.mul_ediv_add_emod x P
  have e5 : x * (Q * P * pw j) = (P * (x / P) + x % P) * (Q * P * pw j) := by rw [e4]
  rw [e5]
  grind
theorem shr_step0 {D a : Nat → Int} {P x : Int} (hx : a 0 = x) : vf (upd D 0 (x / P)) 1 * P + x % P = vf a 1 := by
  have e4 := Int.mul_ediv_add_emod x P
  simp only [vf, pw, upd_same, hx, Int.zero_add, Int.mul_one]
  have : x / P * P = P * (x / P) := Int.mul_comm _ _
  omega

set_option maxRecDepth 100000 in
set_option maxHeartbeats 1000000 in
theorem shrBits_c (ao : Option Addr) (n cap : Nat) (s : Int) (f : Nat → Int) (w : World) (hn : n ≤ 17592186044416) (s0 : 0 ≤ s) (s1 : s ≤ 63) (hr : Rd .u64 w ao n f) (hf : Lm f n) :
    Calls Tryz.prog 138 #[.slice ao n cap, .int .i64 s] w fun e w' => ∃ ao' m cap' f' r, e = .returned (.slice ao' m cap') ∧ Res n w w' ao' m cap' f' ∧ 0 ≤ r ∧ r < 2 ^ s.toNat ∧ vf f' m * 2 ^ s.toNat + r = vf f n := by
  have HF := hid hf
  have HRd := hid hr
  clear hf hr
  have P0 : Hid ((0 : Int) < 2 ^ s.toNat) := Int.pow_pos (by decide)
  have Q0 : Hid ((0 : Int) < 2 ^ (64 - s).toNat) := Int.pow_pos (by decide)
  go_enter Tryz.func138, Tryz.ntmps138
  go_wp2_with (at_make; refine wpList_make_blk .u64 w rfl (.tmp 8) (.tmp 8) 22 rfl 28 8 Tryz.underlying22 Tryz.infoU64 .i64 .i64 _ _ n rfl rfl rfl rfl (by omega) (by unfold maxLen; omega) ?_; intro w1 hb1 hbel1)
  go_loopw [12] (fun t wr => ∃ (k : Nat) (D : Nat → Int) (r : Int), k ≤ n ∧ t = .int .i64 k ∧ Below w.heap.size w wr ∧ Blk .u64 28 wr w.heap.size n D ∧ Hid (Lm D n) ∧ Hid (0 ≤ r ∧ r < 2 ^ s.toNat) ∧ Hid (∀ j, j + 1 = k → D j < 2 ^ (64 - s).toNat) ∧ Hid (vf D k * 2 ^ s.toNat + r = vf f k)) (fun t _ => n - (intOf t).toNat)
  case atStart => exact ⟨0, fun _ => 0, 0, by omega, rfl, hbel1, hb1, fun j hj => ⟨Int.le_refl 0, show (0 : Int) < 18446744073709551616 by decide⟩, ⟨Int.le_refl 0, P0.out⟩, fun j hj => by omega, by simp [Hid, vf]⟩
  case round =>
    clear hb1 hbel1
    obtain ⟨k, D, r, hkn, rfl, hbel, hbl, HL, HR, HT, HV⟩ := hrel
    by_cases hlt : k < n
    · have hr := HRd.out
      obtain ⟨b, ob, rfl⟩ := hr.at (by omega)
      have hbw : b < w.heap.size := World.block_lt_of_cell? w _ (hr.cell hlt)
      have hrr := hid (hr.below hbel (Nat.le_refl _))
      clear hr
      cases k with
      | zero =>
        obtain ⟨x, hx⟩ : ∃ x, f 0 = x := ⟨_, rfl⟩
        have hcelb : wr.cell? ⟨b, ob, none⟩ = some (.int .u64 x) := by rw [← hx]; exact hrr.out.cell hlt
        have hcell := hbl.cell (j := 0) hlt
        have hfz := hbl.frozen 0
        obtain ⟨x0, x1⟩ := HF.out 0 hlt
        rw [hx] at x0 x1
        obtain ⟨L, Z, H, eL, L0, L1, eZ, Z0, Z1, eH, H0, H1, HH, HZ2⟩ := shr_nums x 0 s x0 x1 s0 s1 (Int.le_refl _) Q0.out
        have HX := hid hx
        clear hx
        go_wp2
        go_roundw
        case rel =>
          refine ⟨1, _, x % 2 ^ s.toNat, by omega, by go_num, below_only hbel ((Only.refl _ _).setCell _ _ _) (Nat.le_refl _) hbel.size, hbl.set 0 H, HL.out.upd ⟨H0, H1⟩, ⟨Int.emod_nonneg _ (by have := P0.out; omega), Int.emod_lt_of_pos _ P0.out⟩, fun j hj => ?_, ?_⟩
          · obtain rfl : j = 0 := by omega
            rw [upd_same]; exact HH.out
          · rw [← eH]; exact shr_step0 HX.out
        case measure => simp [intOf]; omega
      | succ j =>
        obtain ⟨x, hx⟩ : ∃ x, f (j + 1) = x := ⟨_, rfl⟩
        obtain ⟨y, hy⟩ : ∃ y, D j = y := ⟨_, rfl⟩
        have hcelb : wr.cell? ⟨b, ob + (j + 1), none⟩ = some (.int .u64 x) := by rw [← hx]; exact hrr.out.cell hlt
        have hcell := hbl.cell (j := j + 1) hlt
        have hcely : wr.cell? ⟨w.heap.size, j, none⟩ = some (.int .u64 y) := by rw [← hy]; exact hbl.cell (by omega)
        have hfz := hbl.frozen (j + 1)
        have hfz2 := hbl.frozen j
        obtain ⟨x0, x1⟩ := HF.out (j + 1) hlt
        obtain ⟨y0, y1⟩ := HL.out j (by omega)
        rw [hx] at x0 x1
        rw [hy] at y0 y1
        obtain ⟨L, Z, H, eL, L0, L1, eZ, Z0, Z1, eH, H0, H1, HH, HZ2⟩ := shr_nums x y s x0 x1 s0 s1 y0 (by rw [← hy]; exact HT.out j rfl)
        have HX := hid hx
        have HY := hid hy
        clear hx hy
        have hcelb2 : ∀ (v : Value), (wr.setCell ⟨w.heap.size, j + 1, none⟩ v).cell? ⟨b, ob + (j + 1), none⟩ = some (.int .u64 x) := fun v => by
          rw [World.cell?_of_block (Below.heap_setCell _ _ _ _ (by simp; omega))]; exact hcelb
        go_wp2
        go_region
        all_goals
          go_wp2
          go_roundw
          case rel =>
            refine ⟨j + 1 + 1, _, r, by omega, by go_num, ?_, ((hbl.set (j + 1) H).set j Z), ?_, HR.out, fun i hi => ?_, ?_⟩
            · exact below_only hbel ((((Only.refl _ _).setCell _ _ _).setCell _ _ _).drew) (Nat.le_refl _) hbel.size
            · exact (HL.out.upd ⟨H0, H1⟩).upd ⟨Z0, Z1⟩
            · obtain rfl : i = j + 1 := by omega
              rw [upd_other _ _ _ _ (by omega), upd_same]; exact HH.out
            · have := shr_step (Q := 2 ^ (64 - s).toNat) HV.out HX.out HY.out (by rw [← Int.pow_add, show (64 - s).toNat + s.toNat = 64 by omega]; rfl)
              rw [← HZ2.out, eH] at this
              exact this
          case measure => simp [intOf]; omega
    · have hkn2 : k = n := by omega
      subst hkn2
      go_wp2_with fail
      refine (trim_res w.heap.size k k D w wr hbel (Nat.le_refl _) hbl (Nat.le_refl _) (by omega) HL.out).mono ?_
      rintro e w3 ⟨rfl, ao2, m, cap2, rfl, hres, hmn, hv⟩
      have HV3 := hid hv
      clear hv
      go_wp2
      go_ret
      exact ⟨ao2, m, cap2, D, r, rfl, hres, HR.out.1, HR.out.2, by rw [HV3.out, HV.out]⟩
end Go.Proofs.YtlpmfmphglgocaaGreatDoor
namespace Go.Proofs.YtlpmfmphglgocaaGreatDoor
open Go.RowKit

theorem top_zero {f : Nat → Int} {m : Nat} (h : Lm f (m + 1)) (hv : vf f (m + 1) < pw m) : f m = 0 ∧ vf f m = vf f (m + 1) := by
  have h0 := vf_nonneg (h.mono (m := m) (by omega))
  have h1 := h m (by omega)
  rw [vf_succ] at hv ⊢
  have hz : f m = 0 := by
    apply Int.le_antisymm _ h1.1
    apply Int.le_of_lt_add_one
    apply Int.lt_of_not_ge
    intro hge
    have : 1 * pw m ≤ f m * pw m := Int.mul_le_mul_of_nonneg_right (by omega) (Int.le_of_lt (pw_pos m))
    omega
  rw [hz]; simp
theorem top_ge {f : Nat → Int} {k : Nat} {c : Int} (h : Lm f (k + 1)) (hv : c * pw k ≤ vf f (k + 1)) : c ≤ f k := by
  apply Int.le_of_lt_add_one
  have h1 := vf_lt (h.mono (m := k) (by omega))
  rw [vf_succ] at hv
  have : c * pw k < (f k + 1) * pw k := by rw [Int.add_mul, Int.one_mul]; omega
  exact Int.lt_of_mul_lt_mul_right this (Int.le_of_lt (pw_pos k))
theorem win_val {U U' : Nat → Int} {p l N : Nat} {X : Int} (hN : p + l ≤ N) (he : ∀ j, j < p ∨ p + l ≤ j → U' j = U j) (hv : vf (sh U' p) l = vf (sh U p) l - X) : vf U' N = vf U N - X * pw p := by
  obtain ⟨r, rfl⟩ := Nat.exists_eq_add_of_le hN
  rw [Nat.add_assoc, vf_split U' p, vf_split U p, vf_split (sh U' p) l, vf_split (sh U p) l, sh_sh, sh_sh, vf_congr (f := U') (g := U) (n := p) (fun j hj => he j (by omega)), vf_congr (f := sh U' (p + l)) (g := sh U (p + l)) (n := r) (fun j hj => he _ (by omega)), hv]
  grind
theorem vf_upd {Q : Nat → Int} {p N : Nat} {t : Int} (hp : p < N) (h0 : Q p = 0) : vf (upd Q p t) N = vf Q N + t * pw p := by
  have := win_val (U := Q) (U' := upd Q p t) (p := p) (l := 1) (N := N) (X := -t) (by omega) (fun j hj => upd_other _ _ _ _ (by omega)) (by simp [vf, pw, sh, upd, h0])
  rw [this]; grind

theorem norm_V {h : Nat → Int} {k : Nat} {y P : Int} (hl : Lm h (k + 1)) (hy : h k = y) (p0 : 0 < P) (h1 : 9223372036854775808 ≤ y * P) (h2 : (y + 1) * P ≤ 18446744073709551616) : 9223372036854775808 * pw k ≤ vf h (k + 1) * P ∧ vf h (k + 1) * P < pw (k + 1) := by
  have lo := vf_nonneg (hl.mono (m := k) (by omega))
  have hi := vf_lt (hl.mono (m := k) (by omega))
  have pk := pw_pos k
  rw [vf_succ, hy, pw_succ, Int.add_mul]
  have e0 : 0 ≤ vf h k * P := Int.mul_nonneg lo (Int.le_of_lt p0)
  have e1 : 9223372036854775808 * pw k ≤ y * P * pw k := Int.mul_le_mul_of_nonneg_right h1 (Int.le_of_lt pk)
  have e2 : (y + 1) * P * pw k ≤ 18446744073709551616 * pw k := Int.mul_le_mul_of_nonneg_right h2 (Int.le_of_lt pk)
  have e3 : y * pw k * P = y * P * pw k := by grind
  have e4 : (y + 1) * P * pw k = y * P * pw k + pw k * P := by grind
  have e5 : vf h k * P < pw k * P := (Int.mul_lt_mul_right p0).2 hi
  rw [e3]
  omega
theorem norm_len {fv : Nat → Int} {kv k : Nat} {V : Int} (hl : Lm fv kv) (hf : Fm fv kv) (hv : vf fv kv = V) (h1 : 9223372036854775808 * pw k ≤ V) (h2 : V < pw (k + 1)) : kv = k + 1 := by
  have pk := pw_pos k
  have a : k + 1 ≤ kv := by
    apply Nat.le_of_not_lt; intro hlt
    have b1 := vf_lt hl
    have b2 := pw_mono (show kv ≤ k by omega)
    omega
  have b : kv ≤ k + 1 := by
    apply Nat.le_of_not_lt; intro hlt
    have b1 := vf_form_ge hl hf (by omega)
    have b2 := pw_mono (show k + 1 ≤ kv - 1 by omega)
    omega
  omega
/-- The highest limbs are less than the divisor. -/
theorem first_top {U : Nat → Int} {lq k : Nat} {A P V : Int} (hU : Lm U (lq + (k + 1))) (hv : vf U (lq + (k + 1)) = A * P) (hA : A < pw (lq + k)) (p0 : 0 < P) (p1 : P ≤ 9223372036854775808) (hV : 9223372036854775808 * pw k ≤ V) : vf (sh U lq) (k + 1) < V := by
  have lo := vf_nonneg (hU.mono (m := lq) (by omega))
  rw [vf_split] at hv
  have e1 : A * P < pw (lq + k) * P := (Int.mul_lt_mul_right p0).2 hA
  have e2 : P * pw k ≤ 9223372036854775808 * pw k := Int.mul_le_mul_of_nonneg_right p1 (Int.le_of_lt (pw_pos k))
  have e3 : P * pw k * pw lq ≤ V * pw lq := Int.mul_le_mul_of_nonneg_right (by omega) (Int.le_of_lt (pw_pos lq))
  have e4 : pw (lq + k) * P = P * pw k * pw lq := by rw [pw_add]; grind
  have : vf (sh U lq) (k + 1) * pw lq < V * pw lq := by omega
  exact Int.lt_of_mul_lt_mul_right this (Int.le_of_lt (pw_pos lq))
theorem win_lt {U : Nat → Int} {p m : Nat} {V : Int} (hU : Lm U (p + 1)) (h : vf (sh U (p + 1)) m < V) : vf (sh U p) (m + 1) < V * 18446744073709551616 := by
  have := hU p (by omega)
  rw [vf_cons]; omega

/-- Leading noughts of a limb. -/
theorem lead_nums (y : Nat) (y0 : 0 < y) (y1 : y < 18446744073709551616) : ∃ s : Int, 0 ≤ s ∧ s ≤ 63 ∧ (64 - (Lib.bitLen y : Int)) = s ∧ 9223372036854775808 ≤ (y : Int) * 2 ^ s.toNat ∧ ((y : Int) + 1) * 2 ^ s.toNat ≤ 18446744073709551616 := by
  obtain ⟨b, hb⟩ : ∃ b, Lib.bitLen y = b := ⟨_, rfl⟩
  obtain ⟨b1, b2, b3⟩ := bitLen_bounds b y hb y0 y1
  have b64 : b ≤ 64 := by rw [← hb]; exact Lib.bitLen_le y 64 (by omega) (by omega)
  rw [hb]
  have es : (64 - (b : Int)).toNat = 64 - b := by omega
  refine ⟨64 - (b : Int), by omega, by omega, rfl, ?_, ?_⟩
  · rw [es]
    have e1 : (2 : Int) ^ (b - 1) * 2 ^ (64 - b) = 9223372036854775808 := by rw [← Int.pow_add, show b - 1 + (64 - b) = 63 by omega]; rfl
    have e2 : (2 : Int) ^ (b - 1) ≤ y := by exact_mod_cast b2
    have := Int.mul_le_mul_of_nonneg_right e2 (Int.le_of_lt (show (0 : Int) < 2 ^ (64 - b) from Int.pow_pos (by decide)))
    omega
  · rw [es]
    have e1 : (2 : Int) ^ b * 2 ^ (64 - b) = 18446744073709551616 := by rw [← Int.pow_add, show b + (64 - b) = 64 by omega]; rfl
    have e2 : (y : Int) + 1 ≤ 2 ^ b := by exact_mod_cast b3
    have := Int.mul_le_mul_of_nonneg_right e2 (Int.le_of_lt (show (0 : Int) < 2 ^ (64 - b) from Int.pow_pos (by decide)))
    omega
end Go.Proofs.YtlpmfmphglgocaaGreatDoor
