/-
  Walks of package nat's texts: levels, bases.
-/
import Derived.Test.YtjjbmioicliipabDoorT2
import Derived.Test.YtjjbmioicliipabDoorM5
namespace Go.Proofs.YtjjbmioicliipabDoor
open Go.RowKit

/-- The levels that so many pieces ask. -/
def lev (n : Nat) : Nat := if n ≤ 1 then 0 else Lib.bitLen (n - 1)

set_option maxHeartbeats 400000 in
theorem levels_c (n : Nat) (z : Int) (w : World) (hz : z = n) (hn : n ≤ 140737488355328) : Calls Tryd.prog 35 #[.int .i64 z] w fun e w' => e = .returned (.int .i64 (lev n)) ∧ w' = w := by
  subst hz
  by_cases h : n ≤ 1
  · have E := hid (show lev n = 0 by simp [lev, h])
    go_enter Tryd.func35, Tryd.ntmps35
    go_wp2
    go_ret
    exact ⟨by rw [E.out]; rfl, rfl⟩
  · have c := Tryd.bits_Len ((n : Int) - 1) w (by omega) (by omega)
    have e : ((n : Int) - 1).toNat = n - 1 := by omega
    rw [e] at c
    have E := hid (show lev n = Lib.bitLen (n - 1) by simp [lev, h])
    have C := hid c
    clear c e
    go_enter Tryd.func35, Tryd.ntmps35
    go_wp2_with fail
    refine C.out.mono ?_
    rintro e w' ⟨rfl, rfl⟩
    go_wp2
    go_ret
    exact ⟨by rw [E.out]; rfl, rfl⟩

/-- The slice's block is a row of limbs. -/
def Tg (w : World) (ao : Option Addr) : Prop := ∀ a, ao = some a → ∃ arr fr, w.heap[a.block]? = some (.cells arr 32 fr)
/-- A number in memory, of at most C limbs, in form. -/
def Num (w : World) (v : Value) (C : Nat) (V : Int) : Prop := ∃ ao n cap f, v = .slice ao n cap ∧ Rd .u64 w ao n f ∧ Tg w ao ∧ Lm f n ∧ Fm f n ∧ n ≤ C ∧ vf f n = V ∧ n ≤ cap ∧ cap ≤ 9223372036854775807
theorem Tg.und {w ao} (h : Tg w ao) : Und ao w.heap.size := fun a ha => by
  obtain ⟨arr, fr, e⟩ := h a ha
  exact (Array.getElem?_eq_some_iff.1 e).1
theorem Tg.below {w w' ao} (h : Tg w ao) (hb : Below w.heap.size w w') : Tg w' ao := fun a ha => by
  obtain ⟨arr, fr, e⟩ := h a ha
  exact ⟨arr, fr, by rw [hb.block _ (Array.getElem?_eq_some_iff.1 e).1]; exact e⟩
theorem Num.below {w w' v C V} (h : Num w v C V) (hb : Below w.heap.size w w') : Num w' v C V := by
  obtain ⟨ao, n, cap, f, rfl, h1, ht, h2, h3, h4, h5⟩ := h
  exact ⟨ao, n, cap, f, rfl, h1.below hb (Nat.le_refl _), ht.below hb, h2, h3, h4, h5⟩
/-- Another row was written, whose elements are no limbs. -/
theorem Tg.off {w ao g} (h : Tg w ao) {cur e fr} (hg : w.heap[g]? = some (.cells cur e fr)) (he : e ≠ 32) : Off ao g := fun a ha hag => by
  obtain ⟨arr, fr', e'⟩ := h a ha
  rw [hag, hg] at e'
  simp at e'
  exact he e'.2.1
theorem Num.only {w w' v C V g} (h : Num w v C V) (hb : Only g w w') {cur e fr} (hg : w.heap[g]? = some (.cells cur e fr)) (he : e ≠ 32) : Num w' v C V := by
  obtain ⟨ao, n, cap, f, rfl, h1, ht, h2, h3, h4, h5⟩ := h
  have ho := ht.off hg he
  refine ⟨ao, n, cap, f, rfl, h1.only hb ho, fun a ha => ?_, h2, h3, h4, h5⟩
  obtain ⟨arr, fr', e'⟩ := ht a ha
  exact ⟨arr, fr', by rw [hb.block _ (Array.getElem?_eq_some_iff.1 e').1 (ho a ha)]; exact e'⟩
theorem Num.grown {w w' v C V row} (h : Num w v C V) (hb : w.grownBy w' row) (hg : ∀ g, row = some g → ∃ cur fr, w.heap[g]? = some (.cells cur 22 fr)) : Num w' v C V := by
  cases row with
  | none => exact h.below ⟨hb.os, hb.tape, hb.output, hb.size, fun k hk => hb.block k hk (by simp)⟩
  | some g =>
    obtain ⟨cur, fr, e⟩ := hg g rfl
    exact h.only (g := g) ⟨hb.os, hb.tape, hb.output, hb.size, fun k hk hn => hb.block k hk (by simpa using hn)⟩ e (by decide)
theorem own_tag {w : World} {base e n v xs} (h : w.ownsRow base e 1 v n xs) : ∀ g, v.ownBlock = some g → ∃ cur fr, w.heap[g]? = some (.cells cur e fr) := by
  intro g hg
  rcases h.2 with ⟨rfl, _⟩ | ⟨g', cap, cur, rfl, hb, hgg, _⟩
  · simp [Value.ownBlock] at hg
  · simp [Value.ownBlock] at hg
    subst hg
    exact ⟨cur, _, hgg⟩
theorem Res.num {C w w' ao n cap f} (h : Res C w w' ao n cap f) (hC : C ≤ 9223372036854775807) : Num w' (.slice ao n cap) C (vf f n) := by
  refine ⟨ao, n, cap, f, rfl, h.rd, fun a ha => ?_, h.lm, h.fm, h.le, rfl, h.ncap.1, by have := h.ncap; omega⟩
  rcases h.own with ⟨rfl, _⟩ | ⟨g, rfl, _, _, _, _, hb⟩
  · cases ha
  · cases ha
    obtain ⟨arr, e, _⟩ := hb
    exact ⟨arr, _, e⟩
theorem Num.mono {w v C C' V} (h : Num w v C V) (hC : C ≤ C') : Num w v C' V := by
  obtain ⟨ao, n, cap, f, rfl, h1, ht, h2, h3, h4, h5⟩ := h
  exact ⟨ao, n, cap, f, rfl, h1, ht, h2, h3, by omega, h5⟩
theorem snoc_get {vs : List Value} {v u : Value} {j : Nat} (h : (vs ++ [v])[j]? = some u) : vs[j]? = some u ∨ j = vs.length ∧ u = v := by
  rcases Nat.lt_trichotomy j vs.length with hl | rfl | hl
  · rw [List.getElem?_append_left hl] at h; exact .inl h
  · simp at h; exact .inr ⟨rfl, h.symm⟩
  · rw [List.getElem?_eq_none (by simp; omega)] at h; cases h

/-- The base of so many doublings. -/
def tens (j : Nat) : Int := 10 ^ (19 * 2 ^ j)
theorem tens_succ (j : Nat) : tens (j + 1) = tens j * tens j := by
  unfold tens
  rw [← Int.pow_add, Nat.pow_succ]; congr 1; omega
/-- The bases, in memory. -/
def Bas (w : World) (bo : Option Addr) (c : Nat) : Prop := ∀ j, j < c → ∃ b u arr fr, bo = some ⟨b, 0, none⟩ ∧ w.heap[b]? = some (.cells arr 22 fr) ∧ w.cell? ⟨b, j, none⟩ = some u ∧ Num w u (2 ^ j) (tens j)
theorem Bas.take {w bo c c'} (h : Bas w bo c) (hc : c' ≤ c) : Bas w bo c' := fun j hj => h j (by omega)
theorem Bas.below {w w' bo c} (h : Bas w bo c) (hb : Below w.heap.size w w') : Bas w' bo c := fun j hj => by
  obtain ⟨b, u, arr, fr, e1, e2, e3, e4⟩ := h j hj
  have hl := (Array.getElem?_eq_some_iff.1 e2).1
  exact ⟨b, u, arr, fr, e1, (hb.block b hl).trans e2, (World.cell?_of_block (hb.block b hl)).trans e3, e4.below hb⟩
theorem Bas.only {w w' bo c g} (h : Bas w bo c) (hb : Only g w w') {cur e fr} (hg : w.heap[g]? = some (.cells cur e fr)) (he : e ≠ 32) (he2 : e ≠ 22) : Bas w' bo c := fun j hj => by
  obtain ⟨b, u, arr, fr, e1, e2, e3, e4⟩ := h j hj
  have hl := (Array.getElem?_eq_some_iff.1 e2).1
  have hbg : b ≠ g := fun h => by
    rw [h, hg] at e2
    simp at e2
    exact he2 e2.2.1
  exact ⟨b, u, arr, fr, e1, (hb.block b hl hbg).trans e2, (World.cell?_of_block (hb.block b hl hbg)).trans e3, e4.only hb hg he⟩
theorem Tryd.infoSl : (Tryd.prog.info? 22).map (fun i => (i.zero, i.size, i.bytes)) = some (some (.slice none 0 0), 1, 24) := by kernel_rfl

set_option maxRecDepth 100000 in
set_option maxHeartbeats 2000000 in
/-- bases: the bases of 1, 2, 4 .. pieces. -/
theorem bases_c (count : Nat) (w : World) (hc : count ≤ 40) :
    Calls Tryd.prog 37 #[.int .i64 count] w fun e w' => ∃ (bo : Option Addr) (cap : Nat), e = .returned (.slice bo count cap) ∧ Below w.heap.size w w' ∧ count ≤ cap ∧ cap ≤ maxLen ∧ (bo = none → cap = 0) ∧ Bas w' bo count := by
  obtain ⟨i0, hi, hz0, hz1, hz2⟩ := info_parts Tryd.infoSl
  go_enter Tryd.func37, Tryd.ntmps37
  go_wp2
  go_loopw [3, 4, 8] (fun v vb c wr => ∃ (k : Nat) (vs : List Value), k ≤ count ∧ c = .int .i64 k ∧ Below w.heap.size w wr ∧ Hid (wr.ownsRow w.heap.size 22 1 v k vs) ∧ Hid (∀ j u, vs[j]? = some u → Num wr u (2 ^ j) (tens j)) ∧ Hid (Num wr vb (2 ^ (k - 1)) (tens (k - 1)))) (fun _ _ c _ => count - (intOf c).toNat)
  case atStart =>
    refine ⟨0, [], by omega, rfl, (Below.refl _ _).alloc (Nat.le_refl _) _, World.ownsRow_nil _ _ _ _, fun j u h => by simp at h, ?_⟩
    refine ⟨_, 1, 1, fun _ => 10000000000000000000, rfl, rd_new1 w _ _, fun a ha => ?_, lm_const (by decide) (by decide) 1, .inr (by show (10000000000000000000 : Int) ≠ 0; decide), by decide, ?_, by decide, by decide⟩
    · cases ha; exact ⟨_, _, heap_alloc_new w _⟩
    · simp [vf, pw, tens]
  case round =>
    obtain ⟨k, vs, hk, rfl, hbl, OO, NA, HB⟩ := hrel
    by_cases hlt : k < count
    · obtain ⟨ab, nb, cb, fb, hvb, hr, ht, hl, hf, hn, hv, hcb1, hcb2⟩ := HB.out
      subst hvb
      have RB := hid hr; have TB := hid ht; have LB := hid hl; have FB := hid hf; have VB := hid hv
      clear hr ht hl hf hv
      by_cases h0 : k = 0
      · subst h0
        have NB := HB
        clear HB RB TB LB FB VB
        go_wp2_with (at_builtin; refine wpList_append_own _ rfl (.tmp 16) (.tmp 18) 52 rfl w.heap.size 22 i0 (.slice none 0 0) 1 24 Tryd.underlying52 hi hz0 hz1 hz2 rfl (by decide) _ 0 vs rfl (World.ownsRow.alloc OO.out _) ⟨wr.heap.size, 0, none⟩ 1 1 [.slice ab nb cb] rfl rfl ?c1 ?c2 ?c3 ?c4 ?c5 ?_)
        case c1 =>
          intro j u hj
          match j, hj with
          | 0, hj => simp at hj; subst hj; simp [Addr.add]
        case c2 => intro u hu; simp at hu; subst hu; rfl
        case c3 => unfold maxLen; omega
        case c4 => omega
        case c5 => have := hbl.size; simp; omega
        intro v' w' hown hgr _
        have hba : Below wr.heap.size wr (wr.alloc _) := (Below.refl _ _).alloc (Nat.le_refl _) (.cells #[.slice ab nb cb] 22)
        have tag := own_tag (World.ownsRow.alloc OO.out (.cells #[.slice ab nb cb] 22))
        have N2 := hid (show Num w' (.slice ab nb cb) (2 ^ 0) (tens 0) from (NB.out.below hba).grown hgr tag)
        have A2 := hid (show ∀ j u, (vs ++ [.slice ab nb cb])[j]? = some u → Num w' u (2 ^ j) (tens j) from fun j u hu => by
          rcases snoc_get hu with h | ⟨rfl, rfl⟩
          · exact ((NA.out j u h).below hba).grown hgr tag
          · rw [show vs.length = 0 by have := OO.out.1; omega]; exact N2.out)
        have hbl2 : Below w.heap.size w w' := (hbl.alloc hbl.size _).grown hgr (by have := hbl.size; simp; omega) (fun g hg => (World.ownsRow.lt OO.out g hg).1)
        have HO2 := hid hown
        clear hown hgr tag hba OO NA NB
        go_wp2
        go_roundw
        case rel => exact ⟨1, vs ++ [Value.slice ab nb cb], by omega, by go_num, hbl2, HO2.out, A2.out, N2.out⟩
        case measure => simp [intOf]; omega
      · have hnb : nb ≤ 2 ^ (count - 2) := Nat.le_trans hn (Nat.pow_le_pow_right (by omega) (by omega))
        have hnb2 : nb ≤ 2 ^ 38 := Nat.le_trans hnb (Nat.pow_le_pow_right (by omega) (by omega))
        have hnb3 : nb ≤ 274877906944 := hnb2
        have hgt : (0 : Int) < k := by omega
        clear HB
        have C := hid (mul_c ab ab nb nb cb cb fb fb wr (by omega) (by omega) hcb1 hcb1 hcb2 hcb2 RB.out RB.out LB.out LB.out)
        go_wp2_with fail
        refine C.out.mono ?_
        clear C RB TB LB FB
        rintro e w1 ⟨ab, nb', cb, f1, rfl, hres, hv1⟩
        rw [VB.out, ← tens_succ, show k - 1 + 1 = k by omega] at hv1
        have NB := hid (show Num w1 (.slice ab nb' cb) (2 ^ k) (tens k) from by
          have := hres.num (by omega)
          rw [hv1] at this
          exact this.mono (by have : 2 ^ k = 2 ^ (k - 1) * 2 := by rw [← Nat.pow_succ, show (k - 1).succ = k by omega]
                              omega))
        have hb1 := hres.bel
        have OO' := hid (World.ownsRow.kept OO.out ⟨hb1.os, hb1.tape, hb1.output, hb1.size, fun k hk _ => hb1.block k hk⟩ (row := none) (by
          cases hvv : Value.ownBlock _ with
          | none => exact .inl rfl
          | some x => exact .inr (by simp)))
        have NA' := hid (fun j u h => (NA.out j u h).below hb1)
        have hbl' := hbl.trans (hb1.mono hbl.size)
        clear OO NA hbl hres hv1 VB hb1
        have OO := OO'; have NA := NA'; have hbl := hbl'
        clear OO' NA' hbl'
        go_wp2_with (at_builtin; refine wpList_append_own _ rfl (.tmp 16) (.tmp 18) 52 rfl w.heap.size 22 i0 (.slice none 0 0) 1 24 Tryd.underlying52 hi hz0 hz1 hz2 rfl (by decide) _ k vs rfl (World.ownsRow.alloc OO.out _) ⟨w1.heap.size, 0, none⟩ 1 1 [.slice ab nb' cb] rfl rfl ?d1 ?d2 ?d3 ?d4 ?d5 ?_)
        case d1 =>
          intro j u hj
          match j, hj with
          | 0, hj => simp at hj; subst hj; simp [Addr.add]
        case d2 => intro u hu; simp at hu; subst hu; rfl
        case d3 => unfold maxLen; omega
        case d4 => omega
        case d5 => have := hbl.size; simp; omega
        intro v' w' hown hgr _
        have hba : Below w1.heap.size w1 (w1.alloc _) := (Below.refl _ _).alloc (Nat.le_refl _) (.cells #[.slice ab nb' cb] 22)
        have tag := own_tag (World.ownsRow.alloc OO.out (.cells #[.slice ab nb' cb] 22))
        have N2 := hid (show Num w' (.slice ab nb' cb) (2 ^ k) (tens k) from (NB.out.below hba).grown hgr tag)
        have A2 := hid (show ∀ j u, (vs ++ [.slice ab nb' cb])[j]? = some u → Num w' u (2 ^ j) (tens j) from fun j u hu => by
          rcases snoc_get hu with h | ⟨rfl, rfl⟩
          · exact ((NA.out j u h).below hba).grown hgr tag
          · rw [show vs.length = k by have := OO.out.1; omega]; exact N2.out)
        have hbl2 : Below w.heap.size w w' := (hbl.alloc hbl.size _).grown hgr (by have := hbl.size; simp; omega) (fun g hg => (World.ownsRow.lt OO.out g hg).1)
        have HO2 := hid hown
        clear hown hgr tag hba OO NA NB
        go_wp2
        go_roundw
        case rel => exact ⟨k + 1, vs ++ [Value.slice ab nb' cb], by omega, by go_num, hbl2, HO2.out, A2.out, N2.out⟩
        case measure => simp [intOf]; omega
    · have hkc : k = count := by omega
      subst hkc
      have hlen := OO.out.1
      rcases OO.out.2 with ⟨hv, hk0⟩ | ⟨g, cap, cur, hv, hb, hg, hn, hm, hs, ht⟩
      · subst hv
        subst hk0
        clear OO HB
        go_wp2
        go_ret
        exact ⟨none, 0, rfl, hbl, by omega, by unfold maxLen; omega, fun _ => rfl, fun j hj => by omega⟩
      · subst hv
        have HG := hid hg; have HT := hid ht; have HS := hid hs
        clear OO HB hg ht hs
        go_wp2
        go_ret
        refine ⟨some ⟨g, 0, none⟩, cap, rfl, hbl, hn, hm, (fun h => by cases h), fun j hj => ?_⟩
        have hu : vs[j]? = some (vs[j]'(by omega)) := List.getElem?_eq_getElem (by omega)
        have hnum := NA.out j _ hu
        have hg := HG.out
        refine ⟨g, _, cur, _, rfl, hg, ?_, hnum⟩
        rw [← hu, ← HT.out, List.getElem?_take, if_pos (by omega)]
        simp [World.cell?, hg]
end Go.Proofs.YtjjbmioicliipabDoor
