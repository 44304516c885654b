/-
  The walk of the reference's Twin of a list of terms. The values of a list of terms elsewhere; lists without terms are alike. The walk of the reference's To of a list of terms. The walk of the reference's Plus.
-/
import Derived.Test.YthofcgpghbaccaaGreatZ12
import Derived.Test.YthofcgpghbaccaaGreatZ13
import Derived.BigQuiet
import Derived.Deep.RegionHeld3
import Derived.Test.YthofcgpghbaccaaGreatZ10
namespace Go.Proofs.YthofcgpghbaccaaGreat
open Go.RowKit

/-- The same number elsewhere. -/
def Sn (t t' : Nm) : Prop := t'.s = t.s ∧ t'.n = t.n ∧ t'.f = t.f ∧ t'.m = t.m ∧ t'.g = t.g
theorem Sn.nfB {t t' : Nm} (h : Sn t t') : nfB t' = nfB t := by
  obtain ⟨h1, h2, h3, h4, h5⟩ := h
  unfold Go.Proofs.YthofcgpghbaccaaGreat.nfB
  rw [h1, h2, h3, h4, h5]
theorem tfr_sn {col : Nat → Int} {T T' : Nat → Nm} : ∀ {r i : Nat} {last : Int}, (∀ j, i ≤ j → j < i + r → Sn (T j) (T' j)) → tfr col T' r i last = tfr col T r i last := by
  intro r
  induction r with
  | zero => intro i last _; rfl
  | succ r ih =>
    intro i last h
    have h0 := h i (by omega) (by omega)
    simp only [tfr]
    rw [ih (fun j a b => h j (by omega) (by omega)), h0.nfB, h0.2.1]
theorem Rn.sn {L : Nat} {w w' : World} {t t' : Nm} {q : Rat} (h : Rn L w t.s t.x t.n t.c t.f t.y t.m t.d t.g q) (hs : Sn t t') (hr : Rw w' t'.x t'.n t'.c t'.f t'.y t'.m t'.d t'.g) : Rn L w' t'.s t'.x t'.n t'.c t'.f t'.y t'.m t'.d t'.g q := by
  obtain ⟨s, x, n, c, f, y, m, d, g⟩ := t
  obtain ⟨s', x', n', c', f', y', m', d', g'⟩ := t'
  obtain ⟨rfl, rfl, rfl, rfl, rfl⟩ := hs
  exact ⟨⟨hr.rx, hr.lx, h.num.wf, hr.cx, hr.nx, h.num.val⟩, ⟨hr.ry, hr.ly, h.den.wf, hr.cy, hr.ny, h.den.val⟩, h.ln, h.ld⟩

/-- What Twin answers: the same list elsewhere. -/
def TwAns (w w' : World) (e : Ending) (k : Nat) (col : Nat → Int) (T : Nat → Nm) : Prop := ∃ aw cw T', e = .returned (.slice aw k cw) ∧ Below w.heap.size w w' ∧ (k ≤ cw ∧ cw ≤ 9223372036854775807) ∧ Hid (Tl w' aw k col T' ∧ ∀ j, j < k → Sn (T j) (T' j))

set_option maxRecDepth 100000 in
set_option maxHeartbeats 4000000 in
theorem twinT_c {w : World} {ao : Option Addr} {k cap : Nat} {col : Nat → Int} {T : Nat → Nm} (h : Tl w ao k col T) (hk : k ≤ 10000) (hl : ∀ j, j < k → (T j).n ≤ 1000 ∧ (T j).m ≤ 1000) :
    Calls Tryz.prog 12 #[.slice ao k cap] w fun e w' => TwAns w w' e k col T := by
  have H := hid h
  clear h
  go_enter Tryz.func12, Tryz.ntmps12
  go_wp2_with fail
  go_loopw [3, 8] (fun ov t wr => ∃ (i : Nat) (T' : Nat → Nm), i ≤ k ∧ t = .int .i64 i ∧ Hid (Below w.heap.size w wr) ∧ Hid (RowG 69 4 w.heap.size wr ov i (tcells (tls i col T'))) ∧ Hid (∀ j, j < i → Sn (T j) (T' j) ∧ Rw wr (T' j).x (T' j).n (T' j).c (T' j).f (T' j).y (T' j).m (T' j).d (T' j).g)) (fun _ t _ => k - (intOf t).toNat)
  case atStart => exact ⟨0, T, by omega, rfl, Below.refl _ _, rowG_nil _ _ _ _, fun j hj => by omega⟩
  case round =>
    obtain ⟨i, T', hi, rfl, HB, HRow, HT⟩ := hrel
    by_cases hlt : i < k
    · obtain ⟨b, o, rfl, hc, hn, hn1, hn2⟩ := (H.out.below HB.out) i hlt
      obtain ⟨⟨s, x, n, c, f, y, m, d, g⟩, hTi⟩ : ∃ t, T i = t := ⟨_, rfl⟩
      rw [hTi] at hc hn hn1 hn2
      obtain ⟨z, hz⟩ : ∃ z, col i = z := ⟨_, rfl⟩
      rw [hz] at hc
      obtain ⟨x0, x1, x2, x3⟩ := hc
      replace x0 : wr.cell? ⟨b, o + i * 4, none⟩ = some (.int .i64 z) := x0
      replace x1 : wr.cell? ⟨b, o + i * 4 + 1, none⟩ = some (.bool s) := x1
      replace x2 : wr.cell? ⟨b, o + i * 4 + 2, none⟩ = some (.slice x n c) := x2
      replace x3 : wr.cell? ⟨b, o + i * 4 + 3, none⟩ = some (.slice y m d) := x3
      have i1 : ((i : Nat) : Int) < ((k : Nat) : Int) := by omega
      obtain ⟨hn10, hm10⟩ := hl i hlt
      rw [hTi] at hn10 hm10
      have HN := hid hn; have HZ := hid hz; have HTi := hid hTi
      clear hn hz hTi
      go_upto_region 5 with fail
      have hb5 := below_alloc (Below.refl wr.heap.size wr) (.cells #[.int .i64 z, .bool s, .slice x n c, .slice y m d] 69)
      have a0 : (wr.alloc (.cells #[.int .i64 z, .bool s, .slice x n c, .slice y m d] 69)).cell? ⟨wr.heap.size, 0, none⟩ = some (.int .i64 z) := by simp [go_sem]
      have a1 : (wr.alloc (.cells #[.int .i64 z, .bool s, .slice x n c, .slice y m d] 69)).cell? ⟨wr.heap.size, 1, none⟩ = some (.bool s) := by simp [go_sem]
      have a2 : (wr.alloc (.cells #[.int .i64 z, .bool s, .slice x n c, .slice y m d] 69)).cell? ⟨wr.heap.size, 2, none⟩ = some (.slice x n c) := by simp [go_sem]
      have a3 : (wr.alloc (.cells #[.int .i64 z, .bool s, .slice x n c, .slice y m d] 69)).cell? ⟨wr.heap.size, 3, none⟩ = some (.slice y m d) := by simp [go_sem]
      have hne : u3.ownBlock ≠ some wr.heap.size := fun e => by have := (HRow.out.lt _ e).2; omega
      replace HN := hid (HN.out.below hb5); replace HRow := hid (HRow.out.below hb5)
      replace HT : Hid (∀ j, j < i → Sn (T j) (T' j) ∧ Rw (wr.alloc (.cells #[.int .i64 z, .bool s, .slice x n c, .slice y m d] 69)) (T' j).x (T' j).n (T' j).c (T' j).f (T' j).y (T' j).m (T' j).d (T' j).g) := fun j hj => ⟨(HT.out j hj).1, (HT.out j hj).2.below hb5⟩
      replace HB := hid (HB.out.trans (hb5.mono HB.out.size))
      clear x0 x1 x2 x3 hb5
      have hsz : w.heap.size ≤ (wr.alloc (.cells #[.int .i64 z, .bool s, .slice x n c, .slice y m d] 69)).heap.size := HB.out.size
      generalize wr.alloc (.cells #[.int .i64 z, .bool s, .slice x n c, .slice y m d] 69) = w5 at *
      have CT : Hid (∀ W, Below w5.heap.size w5 W → Calls Tryz.prog 13 #[.agg #[.bool s, .slice x n c, .slice y m d]] W fun e w' => ∃ z6 c6 z7 c7, e = .returned (.agg #[.bool s, .slice z6 n c6, .slice z7 m c7]) ∧ Below W.heap.size W w' ∧ Hid (Rw w' z6 n c6 f z7 m c7 g)) := fun W hW => qTwin_c (HN.out.below hW) hn10 hm10
      go_region_held3 (fun w' => w'.cell? ⟨wr.heap.size, 0, none⟩ = some (.int .i64 z) ∧ w'.cell? ⟨wr.heap.size, 1, none⟩ = some (.bool s) ∧ w'.cell? ⟨wr.heap.size, 2, none⟩ = some (.slice x n c) ∧ w'.cell? ⟨wr.heap.size, 3, none⟩ = some (.slice y m d))
        (refine ⟨?_, ?_, ?_, ?_⟩ <;> repeat (with_reducible first | assumption | refine kCd ?_ | refine kCa ?_ | refine kCb (by assumption) ?_))
        (first
          | (go_at_call 13; with_reducible refine (CT.out _ (by repeat (with_reducible first | assumption | exact Below.refl _ _ | refine Below.drew ?_ | refine kBa ?_ | refine kBb (by assumption) ?_))).mono ?_; rintro e w6 ⟨z6, c6, z7, c7, rfl, hb6, HQ⟩; have B6 : Below w5.heap.size w5 w6 := (by repeat (with_reducible first | assumption | exact Below.refl _ _ | refine Below.drew ?_ | refine kBa ?_ | refine kBb (by assumption) ?_)); have HRow6 := HRow.out.below B6; have hz6 : w.heap.size ≤ w6.heap.size := Nat.le_trans hsz B6.size; have a06 := kCb B6 a0; have a16 := kCb B6 a1; have a26 := kCb B6 a2; have a36 := kCb B6 a3; have hlt6 := World.block_lt_of_cell? w6 _ a06)
          | (refine step_append_one w6 rfl (.tmp 12) (.tmp 19) 22 rfl w.heap.size 69 64 4 (.agg #[.int .i64 0, .bool false, .slice none 0 0, .slice none 0 0]) Tryz.underlying22 Tryz.infoTerm rfl (by decide) nz4 u3 i (tcells (tls i col T')) rfl HRow6 #[.int .i64 z, .bool s, .slice z6 n c6, .slice z7 m c7] rfl rfl (one4 _ _ _ _ _ _ _ _) (not4 _ _ _ _ _ _ _ _) ?p1 (by decide) hz6 ?_; (case p1 => omega); intro g8 cap8 w8 hr8 hk8 hb8 hg8; have h88 := hg8 wr.heap.size hlt6 hne; have a08 := (World.cell?_of_block (a := ⟨wr.heap.size, 0, none⟩) h88).trans a06; have a18 := (World.cell?_of_block (a := ⟨wr.heap.size, 1, none⟩) h88).trans a16; have a28 := (World.cell?_of_block (a := ⟨wr.heap.size, 2, none⟩) h88).trans a26; have a38 := (World.cell?_of_block (a := ⟨wr.heap.size, 3, none⟩) h88).trans a36))
      all_goals
        (have HB8 := hid (hb8 w (HB.out.trans (B6.mono HB.out.size)) (Nat.le_refl _))
         have HR8 : Hid (RowG 69 4 w.heap.size w8 (.slice (some ⟨g8, 0, none⟩) (i + 1) cap8) (i + 1) (tcells (tls (i + 1) col (putN T' i ⟨s, z6, n, c6, f, z7, m, c7, g⟩)))) := by
           show RowG _ _ _ _ _ _ _
           rw [tls_put, HZ.out]; exact hr8
         have HT8 : Hid (∀ j, j < i + 1 → Sn (T j) (putN T' i ⟨s, z6, n, c6, f, z7, m, c7, g⟩ j) ∧ Rw w8 (putN T' i ⟨s, z6, n, c6, f, z7, m, c7, g⟩ j).x (putN T' i ⟨s, z6, n, c6, f, z7, m, c7, g⟩ j).n (putN T' i ⟨s, z6, n, c6, f, z7, m, c7, g⟩ j).c (putN T' i ⟨s, z6, n, c6, f, z7, m, c7, g⟩ j).f (putN T' i ⟨s, z6, n, c6, f, z7, m, c7, g⟩ j).y (putN T' i ⟨s, z6, n, c6, f, z7, m, c7, g⟩ j).m (putN T' i ⟨s, z6, n, c6, f, z7, m, c7, g⟩ j).d (putN T' i ⟨s, z6, n, c6, f, z7, m, c7, g⟩ j).g) := fun j hj => by
           by_cases e : j = i
           · subst e
             rw [putN_at, HTi.out]
             exact ⟨⟨rfl, rfl, rfl, rfl, rfl⟩, Rw.kp HQ.out hk8⟩
           · rw [putN_ne e]
             exact ⟨(HT.out j (by omega)).1, Rw.kp ((HT.out j (by omega)).2.below B6) hk8⟩
         clear hr8 hk8 hb8 hg8 h88 a08 a18 a28 a38 a06 a16 a26 a36 hlt6 hne HRow6 B6 hb6 HQ HRow HT HB CT a0 a1 a2 a3 HN hz6
         go_wp2
         go_roundw
         case rel => exact ⟨i + 1, _, by omega, by go_num, HB8.out, HR8.out, HT8.out⟩
         case measure => simp [intOf]; omega)
    · have e1 : i = k := by omega
      have i1 : ¬ (((i : Nat) : Int) < ((k : Nat) : Int)) := by omega
      rw [e1] at HRow HT
      obtain ⟨aw, cw, rfl⟩ := HRow.out.slice
      have hcw : k ≤ cw ∧ cw ≤ 9223372036854775807 := by
        rcases HRow.out.2 with ⟨hv, h0⟩ | ⟨_, _, _, hv, _, _, h5, h6, _⟩
        · cases hv; omega
        · cases hv; unfold maxLen at h6; omega
      clear e1
      go_wp2
      go_ret
      exact ⟨aw, cw, T', rfl, HB.out, hcw, (fun j hj => by obtain ⟨b, hb, h4⟩ := rowg_c4 HRow.out hj; obtain ⟨⟨_, e2, _, e4, _⟩, h6⟩ := HT.out j hj; exact ⟨b, 0, hb, h4, h6, by rw [e2]; exact Nat.le_trans (hl j hj).1 (by decide), by rw [e4]; exact Nat.le_trans (hl j hj).2 (by decide)⟩), fun j hj => (HT.out j hj).1⟩
end Go.Proofs.YthofcgpghbaccaaGreat
namespace Go.Proofs.YthofcgpghbaccaaGreat
open Go.RowKit

/-- The values of a list's twin. -/
theorem fvt_twin {L w w' av aw k col T T' v} (h : FvT L w av k col T v) (ht : Tl w' aw k col T') (hs : ∀ j, j < k → Sn (T j) (T' j)) : tfB k col T' = tfB k col T ∧ (tfB k col T' = true → v.length = k ∧ Tf L w' aw v ∧ Vf v) := by
  have he : tfB k col T' = tfB k col T := tfr_sn (fun j _ hj => hs j (by omega))
  refine ⟨he, fun hf => ?_⟩
  rw [he] at hf
  obtain ⟨h1, _, h3, h4⟩ := h hf
  refine ⟨h1, fun j a q hj => ?_, h3⟩
  have hlt : j < k := by have := (List.getElem?_eq_some_iff.1 hj).1; omega
  obtain ⟨q', h5, h6⟩ := h4 j hlt
  rw [hj] at h5
  obtain ⟨rfl, rfl⟩ : a = col j ∧ q = q' := by simpa using h5
  obtain ⟨b, o, e, hc, hr⟩ := ht j hlt
  exact ⟨b, o, T' j, e, hc, h6.sn (hs j hlt) hr.1⟩

theorem vSameNil_c {W : World} {a b : Option Addr} {ca cb : Nat} : Calls Tryz.prog 15 #[.slice a 0 ca, .slice b 0 cb] W fun e w' => e = .returned (.bool true) ∧ Below W.heap.size W w' :=
  vSameEq_c (L := 1) (L' := 1) (v := []) (Tf.nil _ _ _) (Tf.nil _ _ _) rfl (by decide) (by decide) (by decide)
end Go.Proofs.YthofcgpghbaccaaGreat
namespace Go.Proofs.YthofcgpghbaccaaGreat
open Go.RowKit

/-- What To answers. -/
def ToAns (L : Nat) (w w' : World) (e : Ending) (k : Nat) (v : List (Int × Rat)) : Prop := ∃ aw cw, e = .returned (.slice aw k cw) ∧ Below w.heap.size w w' ∧ (k ≤ cw ∧ cw ≤ 9223372036854775807) ∧ Hid (Tf L w' aw v)
/-- The columns of a list, by their places. -/
def colv (v : List (Int × Rat)) (j : Nat) : Int := (v.getD j (0, 0)).1

set_option maxRecDepth 100000 in
set_option maxHeartbeats 4000000 in
theorem toT_c {w : World} {K : Nat} {ao : Option Addr} {k cap : Nat} {v : List (Int × Rat)} (h : Tq K w ao v) (hk : k ≤ 10000) (hK : K ≤ 100000) (hlv : v.length = k) :
    Calls Tryz.prog 46 #[.slice ao k cap] w fun e w' => ToAns (2 * K) w w' e k v := by
  have H := hid h
  clear h
  go_enter Tryz.func46, Tryz.ntmps46
  go_wp2_with fail
  go_loopw [3, 8] (fun ov t wr => ∃ (i : Nat) (T' : Nat → Nm), i ≤ k ∧ t = .int .i64 i ∧ Hid (Below w.heap.size w wr) ∧ Hid (RowG 69 4 w.heap.size wr ov i (tcells (tls i (colv v) T'))) ∧ Hid (∀ j, j < i → ∃ q, v[j]? = some (colv v j, q) ∧ Rn (2 * K) wr (T' j).s (T' j).x (T' j).n (T' j).c (T' j).f (T' j).y (T' j).m (T' j).d (T' j).g q)) (fun _ t _ => k - (intOf t).toNat)
  case atStart => exact ⟨0, fun _ => ⟨false, none, 0, 0, fun _ => 0, none, 0, 0, fun _ => 0⟩, by omega, rfl, Below.refl _ _, rowG_nil _ _ _ _, fun j hj => by omega⟩
  case round =>
    obtain ⟨i, T', hi, rfl, HB, HRow, HT⟩ := hrel
    by_cases hlt : i < k
    · obtain ⟨⟨z, q⟩, hvq⟩ : ∃ t, v[i]? = some t := ⟨_, List.getElem?_eq_getElem (by omega)⟩
      obtain ⟨b, o, ⟨s, x, n, c, f, y, m, d, g⟩, hao, hc, hn0⟩ := (H.out.below HB.out) i z q hvq
      subst hao
      have hn : n ≤ K ∧ m ≤ K ∧ Qn wr s x n f y m g q := hn0
      have hz : colv v i = z := by unfold colv; rw [List.getD_eq_getElem?_getD, hvq]; rfl
      have HVq : Hid (v[i]? = some (colv v i, q)) := by show _ = _; rw [hz]; exact hvq
      clear hn0 hvq
      obtain ⟨x0, x1, x2, x3⟩ := hc
      replace x0 : wr.cell? ⟨b, o + i * 4, none⟩ = some (.int .i64 z) := x0
      replace x1 : wr.cell? ⟨b, o + i * 4 + 1, none⟩ = some (.bool s) := x1
      replace x2 : wr.cell? ⟨b, o + i * 4 + 2, none⟩ = some (.slice x n c) := x2
      replace x3 : wr.cell? ⟨b, o + i * 4 + 3, none⟩ = some (.slice y m d) := x3
      have i1 : ((i : Nat) : Int) < ((k : Nat) : Int) := by omega
      have HN := hid hn; have HZ := hid hz
      clear hn hz
      go_upto_region 5 with fail
      have hb5 := below_alloc (Below.refl wr.heap.size wr) (.cells #[.int .i64 z, .bool s, .slice x n c, .slice y m d] 106)
      have a0 : (wr.alloc (.cells #[.int .i64 z, .bool s, .slice x n c, .slice y m d] 106)).cell? ⟨wr.heap.size, 0, none⟩ = some (.int .i64 z) := by simp [go_sem]
      have a1 : (wr.alloc (.cells #[.int .i64 z, .bool s, .slice x n c, .slice y m d] 106)).cell? ⟨wr.heap.size, 1, none⟩ = some (.bool s) := by simp [go_sem]
      have a2 : (wr.alloc (.cells #[.int .i64 z, .bool s, .slice x n c, .slice y m d] 106)).cell? ⟨wr.heap.size, 2, none⟩ = some (.slice x n c) := by simp [go_sem]
      have a3 : (wr.alloc (.cells #[.int .i64 z, .bool s, .slice x n c, .slice y m d] 106)).cell? ⟨wr.heap.size, 3, none⟩ = some (.slice y m d) := by simp [go_sem]
      have hne : u3.ownBlock ≠ some wr.heap.size := fun e => by have := (HRow.out.lt _ e).2; omega
      replace HN := hid (And.intro HN.out.1 (And.intro HN.out.2.1 (HN.out.2.2.below hb5))); replace HRow := hid (HRow.out.below hb5)
      replace HT : Hid (∀ j, j < i → ∃ q, v[j]? = some (colv v j, q) ∧ Rn (2 * K) (wr.alloc (.cells #[.int .i64 z, .bool s, .slice x n c, .slice y m d] 106)) (T' j).s (T' j).x (T' j).n (T' j).c (T' j).f (T' j).y (T' j).m (T' j).d (T' j).g q) := fun j hj => by obtain ⟨q, h1, h2⟩ := HT.out j hj; exact ⟨q, h1, h2.below hb5⟩
      replace HB := hid (HB.out.trans (hb5.mono HB.out.size))
      clear x0 x1 x2 x3 hb5
      have hsz : w.heap.size ≤ (wr.alloc (.cells #[.int .i64 z, .bool s, .slice x n c, .slice y m d] 106)).heap.size := HB.out.size
      generalize wr.alloc (.cells #[.int .i64 z, .bool s, .slice x n c, .slice y m d] 106) = w5 at *
      have CT : Hid (∀ W, Below w5.heap.size w5 W → Calls Tryz.prog 36 #[.agg #[.bool s, .slice x n c, .slice y m d]] W fun e w' => ∃ z6 k6 c6 f6 z7 k7 c7 f7, e = .returned (.agg #[.bool s, .slice z6 k6 c6, .slice z7 k7 c7]) ∧ Below W.heap.size W w' ∧ Hid (Rn (2 * K) w' s z6 k6 c6 f6 z7 k7 c7 f7 q)) := fun W hW => (qToR_c (HN.out.2.2.below hW) (Nat.le_trans HN.out.1 (by omega)) (Nat.le_trans HN.out.2.1 (by omega))).mono (fun _ _ ⟨z, k, c, f, z2, k2, c2, f2, h1, h2, h3⟩ => ⟨z, k, c, f, z2, k2, c2, f2, h1, h2, h3.out.mono (by have := HN.out.1; have := HN.out.2.1; omega)⟩)
      go_region_held3 (fun w' => w'.cell? ⟨wr.heap.size, 0, none⟩ = some (.int .i64 z) ∧ w'.cell? ⟨wr.heap.size, 1, none⟩ = some (.bool s) ∧ w'.cell? ⟨wr.heap.size, 2, none⟩ = some (.slice x n c) ∧ w'.cell? ⟨wr.heap.size, 3, none⟩ = some (.slice y m d))
        (refine ⟨?_, ?_, ?_, ?_⟩ <;> repeat (with_reducible first | assumption | refine kCd ?_ | refine kCa ?_ | refine kCb (by assumption) ?_))
        (first
          | (go_at_call 36; with_reducible refine (CT.out _ (by repeat (with_reducible first | assumption | exact Below.refl _ _ | refine Below.drew ?_ | refine kBa ?_ | refine kBb (by assumption) ?_))).mono ?_; rintro e w6 ⟨z6, k6, c6, f6, z7, k7, c7, f7, rfl, hb6, HQ⟩; have B6 : Below w5.heap.size w5 w6 := (by repeat (with_reducible first | assumption | exact Below.refl _ _ | refine Below.drew ?_ | refine kBa ?_ | refine kBb (by assumption) ?_)); have HRow6 := HRow.out.below B6; have hz6 : w.heap.size ≤ w6.heap.size := Nat.le_trans hsz B6.size; have a06 := kCb B6 a0; have a16 := kCb B6 a1; have a26 := kCb B6 a2; have a36 := kCb B6 a3; have hlt6 := World.block_lt_of_cell? w6 _ a06)
          | (refine step_append_one w6 rfl (.tmp 12) (.tmp 19) 22 rfl w.heap.size 69 64 4 (.agg #[.int .i64 0, .bool false, .slice none 0 0, .slice none 0 0]) Tryz.underlying22 Tryz.infoTerm rfl (by decide) nz4 u3 i (tcells (tls i (colv v) T')) rfl HRow6 #[.int .i64 z, .bool s, .slice z6 k6 c6, .slice z7 k7 c7] rfl rfl (one4 _ _ _ _ _ _ _ _) (not4 _ _ _ _ _ _ _ _) ?p1 (by decide) hz6 ?_; (case p1 => omega); intro g8 cap8 w8 hr8 hk8 hb8 hg8; have h88 := hg8 wr.heap.size hlt6 hne; have a08 := (World.cell?_of_block (a := ⟨wr.heap.size, 0, none⟩) h88).trans a06; have a18 := (World.cell?_of_block (a := ⟨wr.heap.size, 1, none⟩) h88).trans a16; have a28 := (World.cell?_of_block (a := ⟨wr.heap.size, 2, none⟩) h88).trans a26; have a38 := (World.cell?_of_block (a := ⟨wr.heap.size, 3, none⟩) h88).trans a36))
      all_goals
        (have HB8 := hid (hb8 w (HB.out.trans (B6.mono HB.out.size)) (Nat.le_refl _))
         have HR8 : Hid (RowG 69 4 w.heap.size w8 (.slice (some ⟨g8, 0, none⟩) (i + 1) cap8) (i + 1) (tcells (tls (i + 1) (colv v) (putN T' i ⟨s, z6, k6, c6, f6, z7, k7, c7, f7⟩)))) := by
           show RowG _ _ _ _ _ _ _
           rw [tls_put, HZ.out]; exact hr8
         have HT8 : Hid (∀ j, j < i + 1 → ∃ q, v[j]? = some (colv v j, q) ∧ Rn (2 * K) w8 (putN T' i ⟨s, z6, k6, c6, f6, z7, k7, c7, f7⟩ j).s (putN T' i ⟨s, z6, k6, c6, f6, z7, k7, c7, f7⟩ j).x (putN T' i ⟨s, z6, k6, c6, f6, z7, k7, c7, f7⟩ j).n (putN T' i ⟨s, z6, k6, c6, f6, z7, k7, c7, f7⟩ j).c (putN T' i ⟨s, z6, k6, c6, f6, z7, k7, c7, f7⟩ j).f (putN T' i ⟨s, z6, k6, c6, f6, z7, k7, c7, f7⟩ j).y (putN T' i ⟨s, z6, k6, c6, f6, z7, k7, c7, f7⟩ j).m (putN T' i ⟨s, z6, k6, c6, f6, z7, k7, c7, f7⟩ j).d (putN T' i ⟨s, z6, k6, c6, f6, z7, k7, c7, f7⟩ j).g q) := fun j hj => by
           by_cases e : j = i
           · subst e
             rw [putN_at]
             exact ⟨q, HVq.out, HQ.out.kp hk8⟩
           · rw [putN_ne e]
             obtain ⟨q, h1, h2⟩ := HT.out j (by omega); exact ⟨q, h1, (h2.below B6).kp hk8⟩
         clear hr8 hk8 hb8 hg8 h88 a08 a18 a28 a38 a06 a16 a26 a36 hlt6 hne HRow6 B6 hb6 HQ HRow HT HB CT a0 a1 a2 a3 HN hz6
         go_wp2
         go_roundw
         case rel => exact ⟨i + 1, _, by omega, by go_num, HB8.out, HR8.out, HT8.out⟩
         case measure => simp [intOf]; omega)
    · have e1 : i = k := by omega
      have i1 : ¬ (((i : Nat) : Int) < ((k : Nat) : Int)) := by omega
      rw [e1] at HRow HT
      obtain ⟨aw, cw, rfl⟩ := HRow.out.slice
      have hcw : k ≤ cw ∧ cw ≤ 9223372036854775807 := by
        rcases HRow.out.2 with ⟨hv, h0⟩ | ⟨_, _, _, hv, _, _, h5, h6, _⟩
        · cases hv; omega
        · cases hv; unfold maxLen at h6; omega
      clear e1
      go_wp2
      go_ret
      exact ⟨aw, cw, rfl, HB.out, hcw, (fun j a q hj => by have hlt2 : j < k := by { have := (List.getElem?_eq_some_iff.1 hj).1; omega }; obtain ⟨b, hb, h4⟩ := rowg_c4 HRow.out hlt2; obtain ⟨q', h5, h6⟩ := HT.out j hlt2; rw [hj] at h5; obtain ⟨h7, rfl⟩ : a = colv v j ∧ q = q' := by { simpa using h5 }; rw [h7]; exact ⟨b, 0, T' j, hb, h4, h6⟩)⟩
end Go.Proofs.YthofcgpghbaccaaGreat
namespace Go.Proofs.YthofcgpghbaccaaGreat
open Go.RowKit

/-- The reference's terms as they lie, by their values. -/
def Tql (K : Nat) (w : World) (l : List (Int × Nm)) (us : List (Int × Rat)) : Prop := l.length = us.length ∧ ∀ (j : Nat) (a : Int) (q : Rat), us[j]? = some (a, q) → ∃ t : Nm, l[j]? = some (a, t) ∧ QnT K w t q
theorem Tql.below {K w w' l us} (h : Tql K w l us) (hb : Below w.heap.size w w') : Tql K w' l us := ⟨h.1, fun j a q hj => by obtain ⟨t, h1, h2⟩ := h.2 j a q hj; exact ⟨t, h1, h2.below hb⟩⟩
theorem Tql.kp {K w w' l us} (h : Tql K w l us) (hk : Kp w w') : Tql K w' l us := ⟨h.1, fun j a q hj => by obtain ⟨t, h1, h2⟩ := h.2 j a q hj; exact ⟨t, h1, h2.kp hk⟩⟩
theorem Tql.snoc {K w l us z t q} (h : Tql K w l us) (hr : QnT K w t q) : Tql K w (l ++ [(z, t)]) (us ++ [(z, q)]) := by
  refine ⟨by simp [h.1], fun j a q' hj => ?_⟩
  by_cases hlt : j < us.length
  · rw [List.getElem?_append_left hlt] at hj
    obtain ⟨t', h1, h2⟩ := h.2 j a q' hj
    exact ⟨t', by rw [List.getElem?_append_left (by rw [h.1]; exact hlt)]; exact h1, h2⟩
  · rw [List.getElem?_append_right (by omega)] at hj
    have hj0 : j - us.length = 0 := by
      have := (List.getElem?_eq_some_iff.1 hj).1
      simp at this; omega
    rw [hj0] at hj
    obtain ⟨rfl, rfl⟩ : z = a ∧ q = q' := by simpa using hj
    exact ⟨t, by rw [List.getElem?_append_right (by rw [h.1]; omega), h.1, hj0]; rfl, hr⟩
theorem tql_tq {K : Nat} {base : Nat} {w : World} {ao : Option Addr} {cap : Nat} {l : List (Int × Nm)} {us : List (Int × Rat)} (h : Tql K w l us) (hr : RowG 106 4 base w (.slice ao l.length cap) l.length (tcells l)) : Tq K w ao us := fun j a q hj => by
  obtain ⟨t, h1, h2⟩ := h.2 j a q hj
  have hlt : j < l.length := (List.getElem?_eq_some_iff.1 h1).1
  rcases hr.2 with ⟨hv, h0⟩ | ⟨g, cap', cur, hv, _⟩
  · omega
  · cases hv
    have hc : ∀ i, i < 4 → w.cell? ⟨g, 0 + j * 4 + i, none⟩ = (tcell a t)[i]? := fun i hi => by
      rw [Nat.zero_add]
      have e1 := tcells_get h1 i hi
      obtain ⟨u, hu⟩ : ∃ u, (tcell a t)[i]? = some u := ⟨_, List.getElem?_eq_getElem (by show i < 4; exact hi)⟩
      rw [hu] at e1 ⊢
      exact hr.cells e1
    exact ⟨g, 0, t, rfl, ⟨hc 0 (by decide), hc 1 (by decide), hc 2 (by decide), hc 3 (by decide)⟩, h2⟩
theorem QnT.mono {K K' w t q} (h : QnT K w t q) (hk : K ≤ K') : QnT K' w t q := ⟨Nat.le_trans h.1 hk, Nat.le_trans h.2.1 hk, h.2.2⟩
/-- What stands behind the store of a term into its box. -/
structure Pk (K : Nat) (w0 W : World) (bt : Nat) (a : Int) (t : Nm) (q : Rat) (ov : Value) (l : List (Int × Nm)) (us : List (Int × Rat)) : Prop where
  bel : Below w0.heap.size w0 W
  box : C4 W bt 0 (.int .i64 a) (.bool t.s) (.slice t.x t.n t.c) (.slice t.y t.m t.d)
  row : RowG 106 4 w0.heap.size W ov l.length (tcells l)
  lst : Tql K W l us
  num : QnT K W t q
theorem pk_mk {K : Nat} {w0 w : World} {bt : Nat} {a : Int} {t : Nm} {q : Rat} {ov : Value} {l : List (Int × Nm)} {us : List (Int × Rat)} (hb : Below w0.heap.size w0 w) (hB : w0.heap.size ≤ bt) (ob : Ob4 w bt) (row : RowG 106 4 w0.heap.size w ov l.length (tcells l)) (hne : ov.ownBlock ≠ some bt) (lst : Tql K w l us) (num : QnT K w t q) :
    Pk K w0 ((((w.setCell ⟨bt, 0, none⟩ (.int .i64 a)).setCell ⟨bt, 1, none⟩ (.bool t.s)).setCell ⟨bt, 2, none⟩ (.slice t.x t.n t.c)).setCell ⟨bt, 3, none⟩ (.slice t.y t.m t.d)) bt a t q ov l us := by
  have e0 := kI0 ob.z0; have e1 := kI0 ob.z1; have e2 := kI0 ob.z2; have e3 := kI0 ob.z3
  refine ⟨below_st4 hb hB, ⟨kCo (by decide) (kCo (by decide) (kCo (by decide) (kCe e0))), kCo (by decide) (kCo (by decide) (kCe (kIs e1))), kCo (by decide) (kCe (kIs (kIs e2))), kCe (kIs (kIs (kIs e3)))⟩, row.of (fun g hg => ?_), ⟨lst.1, fun j b p hj => ?_⟩, ⟨num.1, num.2.1, ob.qn num.2.2⟩⟩
  · have hgb : g ≠ bt := fun e => hne (by rw [hg, e])
    rw [Below.heap_setCell _ _ _ _ (by simpa using hgb), Below.heap_setCell _ _ _ _ (by simpa using hgb), Below.heap_setCell _ _ _ _ (by simpa using hgb), Below.heap_setCell _ _ _ _ (by simpa using hgb)]
  · obtain ⟨t', h1, h2⟩ := lst.2 j b p hj
    exact ⟨t', h1, h2.1, h2.2.1, ob.qn h2.2.2⟩
theorem ord_zero {c : Int} {q : Rat} (h : Ord c q.num 0) : (c != 0) = !decide (q = 0) := by
  by_cases hq : q = 0
  · subst hq
    rcases h with ⟨rfl, h⟩ | ⟨rfl, h⟩ | ⟨rfl, h⟩
    · exact absurd h (by decide)
    · rfl
    · exact absurd h (by decide)
  · have hn : q.num ≠ 0 := fun e => hq (Rat.num_eq_zero.1 e)
    rcases h with ⟨rfl, h⟩ | ⟨rfl, h⟩ | ⟨rfl, h⟩
    · simp [hq]
    · exact absurd h hn
    · simp [hq]
theorem drop_get {v : List (Int × Rat)} {i : Nat} {a : Int} {q : Rat} (h : v[i]? = some (a, q)) : v.drop i = (a, q) :: v.drop (i + 1) := by
  have hl : i < v.length := (List.getElem?_eq_some_iff.1 h).1
  have : v[i] = (a, q) := by rw [List.getElem?_eq_getElem hl] at h; exact Option.some.inj h
  rw [← this]; exact List.drop_eq_getElem_cons hl

set_option maxRecDepth 100000 in
set_option maxHeartbeats 16000000 in
theorem fPlus_c {w : World} {K : Nat} {av aw : Option Addr} {k k' cv cw : Nat} {s : Bool} {x : Option Addr} {n c : Nat} {d : Nat → Int} {y : Option Addr} {m e : Nat} {g : Nat → Int} {r : Rat} {v v' : List (Int × Rat)}
    (hv : Tq K w av v) (hw : Tq K w aw v') (hr : Qn w s x n d y m g r) (hn : n ≤ K) (hm : m ≤ K) (lv : v.length = k) (lw : v'.length = k') (hk : k + k' ≤ 2000) (hK : K ≤ 2000) :
    Calls Tryz.prog 47 #[.slice av k cv, .agg #[.bool s, .slice x n c, .slice y m e], .slice aw k' cw] w fun en w' => FrAns (10 * K + 9) w w' en (mg r v v').length (mg r v v') := by
  have hb0 := below_alloc (Below.refl w.heap.size w) (.cells #[.bool s, .slice x n c, .slice y m e] 63)
  have hB0 := bx3_at w (.bool s) (.slice x n c) (.slice y m e) 63
  have TV := hid (hv.below hb0); have TW := hid (hw.below hb0); have RR := hid (hr.below hb0); have BR := hid hB0; have HW0 := hid hb0
  clear hv hw hr
  go_enter Tryz.func47, Tryz.ntmps47
  go_wp2_with fail
  generalize w.alloc (.cells #[.bool s, .slice x n c, .slice y m e] 63) = w0 at *
  have hsz0 : w.heap.size < w0.heap.size := hB0.z
  clear hb0 hB0
  generalize hbr : w.heap.size = br at *
  go_loopw [7, 8, 9] (fun ov t8 t9 wr => ∃ (i j : Nat) (l : List (Int × Nm)) (us : List (Int × Rat)), i ≤ k ∧ j ≤ k' ∧ t8 = .int .i64 i ∧ t9 = .int .i64 j ∧ l.length ≤ i + j ∧ Hid (Below w0.heap.size w0 wr) ∧ Hid (RowG 106 4 w0.heap.size wr ov l.length (tcells l)) ∧ Hid (Tql (10 * K + 9) wr l us) ∧ Hid (us ++ mg r (v.drop i) (v'.drop j) = mg r v v')) (fun _ t8 t9 _ => (k - (intOf t8).toNat) + (k' - (intOf t9).toNat))
  case atStart => exact ⟨0, 0, [], [], by omega, by omega, rfl, rfl, by simp, Below.refl _ _, rowG_nil _ _ _ _, ⟨rfl, fun j a q hj => by simp at hj⟩, rfl⟩
  case round =>
    obtain ⟨i, j, l, us, hi, hj, rfl, rfl, hll, HB, HRow, HT, HE⟩ := hrel
    have hbt0 : w0.heap.size ≤ wr.heap.size := HB.out.size
    have hne : u7.ownBlock ≠ some wr.heap.size := fun e => by have := (HRow.out.lt _ e).2; omega
    by_cases hik : i < k
    · obtain ⟨⟨a, q⟩, haq⟩ : ∃ t, v[i]? = some t := ⟨_, List.getElem?_eq_getElem (by omega)⟩
      have HDv := hid (drop_get haq)
      obtain ⟨b, o, ⟨ts, tx, tn, tc, tf, ty, tm, td, tg⟩, hav, hc, hqv⟩ := (TV.out.below HB.out) i a q haq
      subst hav
      obtain ⟨x0, x1, x2, x3⟩ := hc
      replace x0 : wr.cell? ⟨b, o + i * 4, none⟩ = some (.int .i64 a) := x0
      replace x1 : wr.cell? ⟨b, o + i * 4 + 1, none⟩ = some (.bool ts) := x1
      replace x2 : wr.cell? ⟨b, o + i * 4 + 2, none⟩ = some (.slice tx tn tc) := x2
      replace x3 : wr.cell? ⟨b, o + i * 4 + 3, none⟩ = some (.slice ty tm td) := x3
      have QV : Hid (QnT K wr ⟨ts, tx, tn, tc, tf, ty, tm, td, tg⟩ q) := hqv
      have nbv : wr.heap.size ≠ b := by have := World.block_lt_of_cell? wr _ x0; simp at this; omega
      have i1 : ((i : Nat) : Int) < ((k : Nat) : Int) := by omega
      have i1d : decide (((i : Nat) : Int) < ((k : Nat) : Int)) = true := by simp; omega
      have i1e : (((i : Nat) : Int) == ((k : Nat) : Int)) = false := by simp; omega
      have i1w : ((i : Nat) : Int) ≤ 9223372036854775806 := by omega
      clear haq hqv
      by_cases hjk : j < k'
      · obtain ⟨⟨bb, p⟩, hbp⟩ : ∃ t, v'[j]? = some t := ⟨_, List.getElem?_eq_getElem (by omega)⟩
        have HDw := hid (drop_get hbp)
        obtain ⟨b', o', ⟨ss, sx, sn, sc, sf, sy, sm, sd, sg⟩, haw, hc', hqw⟩ := (TW.out.below HB.out) j bb p hbp
        subst haw
        obtain ⟨y0, y1, y2, y3⟩ := hc'
        replace y0 : wr.cell? ⟨b', o' + j * 4, none⟩ = some (.int .i64 bb) := y0
        replace y1 : wr.cell? ⟨b', o' + j * 4 + 1, none⟩ = some (.bool ss) := y1
        replace y2 : wr.cell? ⟨b', o' + j * 4 + 2, none⟩ = some (.slice sx sn sc) := y2
        replace y3 : wr.cell? ⟨b', o' + j * 4 + 3, none⟩ = some (.slice sy sm sd) := y3
        have QW : Hid (QnT K wr ⟨ss, sx, sn, sc, sf, sy, sm, sd, sg⟩ p) := hqw
        have nbw : wr.heap.size ≠ b' := by have := World.block_lt_of_cell? wr _ y0; simp at this; omega
        have j1 : ((j : Nat) : Int) < ((k' : Nat) : Int) := by omega
        have j1e : (((j : Nat) : Int) == ((k' : Nat) : Int)) = false := by simp; omega
        have j1w : ((j : Nat) : Int) ≤ 9223372036854775806 := by omega
        clear hbp hqw
        by_cases hab : a < bb
        · have d2 : decide (a < bb) = true := by simp [hab]
          have HM : Hid (mg r (v.drop i) (v'.drop j) = nz a q ++ mg r (v.drop (i + 1)) (v'.drop j)) := by
            show _ = _
            rw [HDv.out, HDw.out, mg_lt _ _ _ _ _ _ _ hab]
          go_upto_region 7 with fail
          have hb5 := below_alloc (Below.refl wr.heap.size wr) (.cells #[.int .i64 0, .bool false, .slice none 0 0, .slice none 0 0] 106)
          have hO5 := ob4_new wr 106
          replace x0 := kCb hb5 x0
          replace x1 := kCb hb5 x1
          replace x2 := kCb hb5 x2
          replace x3 := kCb hb5 x3
          replace y0 := kCb hb5 y0
          replace y1 := kCb hb5 y1
          replace y2 := kCb hb5 y2
          replace y3 := kCb hb5 y3
          replace QV := hid (QV.out.below hb5)
          replace QW := hid (QW.out.below hb5)
          replace HRow := hid (HRow.out.below hb5); replace HT := hid (HT.out.below hb5)
          replace HB := hid (HB.out.trans (hb5.mono HB.out.size))
          generalize wr.alloc (.cells #[.int .i64 0, .bool false, .slice none 0 0, .slice none 0 0] 106) = w5 at *
          generalize wr.heap.size = bt at *
          have OB := hid hO5
          clear hb5 hO5
          go_quiet (fail)
          generalize hg : w5.drewN _ = w6
          have hb : Below w5.heap.size w5 w6 := by rw [← hg]; exact below_drewN (Below.refl _ _) _
          clear hg
          replace x0 := kCb hb x0
          replace x1 := kCb hb x1
          replace x2 := kCb hb x2
          replace x3 := kCb hb x3
          replace y0 := kCb hb y0
          replace y1 := kCb hb y1
          replace y2 := kCb hb y2
          replace y3 := kCb hb y3
          replace QV := hid (QV.out.below hb)
          replace QW := hid (QW.out.below hb)
          replace HRow := hid (HRow.out.below hb)
          replace HT := hid (HT.out.below hb)
          replace OB := hid (OB.out.below hb)
          replace HB := hid (HB.out.trans (hb.mono HB.out.size))
          clear hb
          obtain ⟨zo, z0, z1, z2, z3, zf⟩ := OB.out
          have PK := hid (pk_mk (a := a) (t := ⟨ts, tx, tn, tc, tf, ty, tm, td, tg⟩) HB.out hbt0 OB.out HRow.out hne HT.out (QV.out.mono (by omega)))
          go_upto_region 13 with fail
          clear z0 z1 z2 z3 zf zo
          generalize (((w6.setCell ⟨bt, 0, none⟩ (.int .i64 a)).setCell ⟨bt, 1, none⟩ (.bool ts)).setCell ⟨bt, 2, none⟩ (.slice tx tn tc)).setCell ⟨bt, 3, none⟩ (.slice ty tm td) = w9 at *
          clear x0 x1 x2 x3 y0 y1 y2 y3 QV QW HRow HT OB HB
          obtain ⟨c0, c1, c2, c3⟩ := PK.out.box
          replace c0 : w9.cell? ⟨bt, 0, none⟩ = some (.int .i64 a) := c0
          replace c1 : w9.cell? ⟨bt, 1, none⟩ = some (.bool ts) := c1
          replace c2 : w9.cell? ⟨bt, 2, none⟩ = some (.slice tx tn tc) := c2
          replace c3 : w9.cell? ⟨bt, 3, none⟩ = some (.slice ty tm td) := c3
          have QN : Hid (Qn w9 ts tx tn tf ty tm tg (q)) := PK.out.num.2.2
          have hln : tn ≤ 10 * K + 9 := PK.out.num.1
          go_wp2_with fail
          refine (qSign_c QN.out (by omega)).mono ?_
          rintro en w10 ⟨sg1, rfl, hb10, hord⟩
          have hsg := ord_zero hord
          have HB10 := hid (PK.out.bel.trans (hb10.mono PK.out.bel.size)); have HR10 := hid (PK.out.row.below hb10); have HL10 := hid (PK.out.lst.below hb10); have HN10 := hid (PK.out.num.below hb10)
          replace c0 := kCb hb10 c0; replace c1 := kCb hb10 c1; replace c2 := kCb hb10 c2; replace c3 := kCb hb10 c3
          clear PK QN hord hb10
          by_cases hq0 : q = 0
          · have hsz1 : (sg1 != 0) = false := by rw [hsg, hq0]; rfl
            have HEZ : Hid (us ++ mg r (v.drop (i + 1)) (v'.drop (j)) = mg r v v') := by
              show _ = _
              rw [← HE.out, HM.out]; unfold nz; rw [if_pos hq0]; rfl
            clear hsg hq0 HM HE HN10 c0 c1 c2 c3
            go_wp2
            go_roundw
            case rel => exact ⟨i + 1, j, l, us, by omega, by omega, by go_num, by go_num, by omega, HB10.out, HR10.out, HL10.out, HEZ.out⟩
            case measure => simp [intOf]; omega
          · have hsz1 : (sg1 != 0) = true := by rw [hsg]; simp [hq0]
            have HEZ : Hid ((us ++ [((a : Int), q)]) ++ mg r (v.drop (i + 1)) (v'.drop (j)) = mg r v v') := by
              show _ = _
              rw [← HE.out, HM.out]; unfold nz; rw [if_neg hq0, List.append_assoc]
            have hsz := HB10.out.size
            clear hsg hq0 HM HE
            go_wp2_with (at_builtin; go_must (refine wpList_append_one w10 rfl (.tmp 112) (.tmp 114) 84 rfl w0.heap.size 106 64 4 (.agg #[.int .i64 0, .bool false, .slice none 0 0, .slice none 0 0]) Tryz.underlying84 Tryz.infoTq rfl (by decide) nz4 u7 l.length (tcells l) rfl HR10.out #[.int .i64 a, .bool ts, .slice tx tn tc, .slice ty tm td] rfl rfl (one4 _ _ _ _ _ _ _ _) (not4 _ _ _ _ _ _ _ _) ?p1 (by decide) hsz ?_))
            case p1 => omega
            intro g20 cap20 w20 hr20 hk20 hb20 hg20
            have HB20 := hid (hb20 w0 HB10.out (Nat.le_refl _))
            have HR20 : Hid (RowG 106 4 w0.heap.size w20 (.slice (some ⟨g20, 0, none⟩) (l.length + 1) cap20) (l ++ [((a : Int), (⟨ts, tx, tn, tc, tf, ty, tm, td, tg⟩ : Nm))]).length (tcells (l ++ [((a : Int), (⟨ts, tx, tn, tc, tf, ty, tm, td, tg⟩ : Nm))]))) := by
              show RowG _ _ _ _ _ _ _
              rw [tcells_append, List.length_append]; exact hr20
            have HT20 := hid ((HL10.out.kp hk20).snoc (z := (a : Int)) (t := ⟨ts, tx, tn, tc, tf, ty, tm, td, tg⟩) (HN10.out.kp hk20))
            clear hr20 hk20 hb20 hg20 HR10 HL10 HB10 HN10 c0 c1 c2 c3 hsz
            go_wp2
            go_roundw
            case rel => exact ⟨i + 1, j, _, _, by omega, by omega, by go_num, by go_num, by simp; omega, HB20.out, HR20.out, HT20.out, HEZ.out⟩
            case measure => simp [intOf]; omega
        by_cases hba : bb < a
        · have d2 : decide (a < bb) = false := by simp; omega
          have d3 : decide (bb < a) = true := by simp [hba]
          have HM : Hid (mg r (v.drop i) (v'.drop j) = nz bb (r * p) ++ mg r (v.drop i) (v'.drop (j + 1))) := by
            show _ = _
            rw [HDw.out]
            rw [HDv.out, mg_gt _ _ _ _ _ _ _ hba]
          have hbr := BR.out.below HB.out
          obtain ⟨_, r0, r1, r2⟩ := id hbr
          have RQ := hid (RR.out.below HB.out)
          have nbr : wr.heap.size ≠ br := by omega
          clear hbr
          go_upto_region 7 with fail
          have hb5 := below_alloc (Below.refl wr.heap.size wr) (.cells #[.int .i64 0, .bool false, .slice none 0 0, .slice none 0 0] 106)
          have hO5 := ob4_new wr 106
          replace y0 := kCb hb5 y0
          replace y1 := kCb hb5 y1
          replace y2 := kCb hb5 y2
          replace y3 := kCb hb5 y3
          replace r0 := kCb hb5 r0
          replace r1 := kCb hb5 r1
          replace r2 := kCb hb5 r2
          replace x0 := kCb hb5 x0
          replace x1 := kCb hb5 x1
          replace x2 := kCb hb5 x2
          replace x3 := kCb hb5 x3
          replace QW := hid (QW.out.below hb5)
          replace RQ := hid (RQ.out.below hb5)
          replace QV := hid (QV.out.below hb5)
          replace HRow := hid (HRow.out.below hb5); replace HT := hid (HT.out.below hb5)
          replace HB := hid (HB.out.trans (hb5.mono HB.out.size))
          generalize wr.alloc (.cells #[.int .i64 0, .bool false, .slice none 0 0, .slice none 0 0] 106) = w5 at *
          generalize wr.heap.size = bt at *
          have OB := hid hO5
          clear hb5 hO5
          go_quiet (fail)
          generalize hg : w5.drewN _ = w6
          have hb : Below w5.heap.size w5 w6 := by rw [← hg]; exact below_drewN (Below.refl _ _) _
          clear hg
          replace y0 := kCb hb y0
          replace y1 := kCb hb y1
          replace y2 := kCb hb y2
          replace y3 := kCb hb y3
          replace r0 := kCb hb r0
          replace r1 := kCb hb r1
          replace r2 := kCb hb r2
          replace x0 := kCb hb x0
          replace x1 := kCb hb x1
          replace x2 := kCb hb x2
          replace x3 := kCb hb x3
          replace QW := hid (QW.out.below hb)
          replace RQ := hid (RQ.out.below hb)
          replace QV := hid (QV.out.below hb)
          replace HRow := hid (HRow.out.below hb)
          replace HT := hid (HT.out.below hb)
          replace OB := hid (OB.out.below hb)
          replace HB := hid (HB.out.trans (hb.mono HB.out.size))
          clear hb
          go_wp2_with fail
          go_quiet (fail)
          generalize hg : w6.drewN _ = w7
          have hb : Below w6.heap.size w6 w7 := by rw [← hg]; exact below_drewN (Below.refl _ _) _
          clear hg
          replace y0 := kCb hb y0
          replace y1 := kCb hb y1
          replace y2 := kCb hb y2
          replace y3 := kCb hb y3
          replace r0 := kCb hb r0
          replace r1 := kCb hb r1
          replace r2 := kCb hb r2
          replace x0 := kCb hb x0
          replace x1 := kCb hb x1
          replace x2 := kCb hb x2
          replace x3 := kCb hb x3
          replace QW := hid (QW.out.below hb)
          replace RQ := hid (RQ.out.below hb)
          replace QV := hid (QV.out.below hb)
          replace HRow := hid (HRow.out.below hb)
          replace HT := hid (HT.out.below hb)
          replace OB := hid (OB.out.below hb)
          replace HB := hid (HB.out.trans (hb.mono HB.out.size))
          clear hb
          go_wp2_with fail
          have CM : Hid (∀ W, Below w7.heap.size w7 W → Calls Tryz.prog 35 #[.agg #[.bool s, .slice x n c, .slice y m e], .agg #[.bool ss, .slice sx sn sc, .slice sy sm sd]] W fun e w' => ∃ s x n c d y m e' g, e = .returned (.agg #[.bool s, .slice x n c, .slice y m e']) ∧ Below W.heap.size W w' ∧ Hid (n ≤ 4 * K + 3 ∧ m ≤ 4 * K + 3 ∧ Qn w' s x n d y m g (r * p))) := fun W hW => by
            have q1 : sn ≤ K := QW.out.1
            have q2 : sm ≤ K := QW.out.2.1
            have q3 : Qn w7 ss sx sn sf sy sm sg p := QW.out.2.2
            exact (qMul_c (RQ.out.below hW) (q3.below hW) (by omega) (by omega) (by omega) (by omega)).mono (fun _ _ ⟨s, x, n, c, d, y, m, c', g, h1, h2, h3, h4, h5⟩ => ⟨s, x, n, c, d, y, m, c', g, h1, h2, by omega, by omega, h5⟩)
          refine wp_region_held_drew (S := fun w' => w'.cell? ⟨b', o' + j * 4, none⟩ = some (.int .i64 bb) ∧ w'.cell? ⟨b', o' + j * 4 + 1, none⟩ = some (.bool ss) ∧ w'.cell? ⟨b', o' + j * 4 + 2, none⟩ = some (.slice sx sn sc) ∧ w'.cell? ⟨b', o' + j * 4 + 3, none⟩ = some (.slice sy sm sd) ∧ w'.cell? ⟨br, 0, none⟩ = some (.bool s) ∧ w'.cell? ⟨br, 1, none⟩ = some (.slice x n c) ∧ w'.cell? ⟨br, 2, none⟩ = some (.slice y m e)) (by kernel_rfl) ?_ (fun hHeld => ?_)
          · (refine ⟨?_, ?_, ?_, ?_, ?_, ?_, ?_⟩ <;> repeat (with_reducible first | assumption | refine kCd ?_))
          refine wpAnyH_take (i := 0) (v := ?_) rfl (by kernel_rfl) (by kernel_rfl) (by kernel_rfl) (fun _ _ _ h => h) (Or.inl ⟨by rfl, ?_⟩) (by assumption) ?_
          rotate_left
          (focus (intro w0 hSw; (try dsimp only at hSw); go_simp <;> with_reducible rfl))
          simp only [List.getElem_toArray, List.getElem_cons_zero, Act.put, List.setIfInBounds_toArray, List.set_cons_zero, List.set_cons_succ]
          refine wpAnyH_take (i := 1) (v := ?_) rfl (by kernel_rfl) (by kernel_rfl) (by kernel_rfl) (fun _ _ _ h => h) (Or.inl ⟨by rfl, ?_⟩) (by assumption) ?_
          rotate_left
          (focus (intro w0 hSw; (try dsimp only at hSw); go_simp <;> with_reducible rfl))
          simp only [List.getElem_toArray, List.getElem_cons_succ, List.getElem_cons_zero, Act.put, List.setIfInBounds_toArray, List.set_cons_zero, List.set_cons_succ]
          refine wpAnyH_take (i := 2) (v := ?_) rfl (by kernel_rfl) (by kernel_rfl) (by kernel_rfl) (fun _ _ _ h => h) (Or.inl ⟨by rfl, ?_⟩) (by assumption) ?_
          rotate_left
          (focus (intro w0 hSw; (try dsimp only at hSw); go_simp <;> with_reducible rfl))
          simp only [List.getElem_toArray, List.getElem_cons_succ, List.getElem_cons_zero, Act.put, List.setIfInBounds_toArray, List.set_cons_zero, List.set_cons_succ]
          refine wpAnyH_take (i := 3) (v := ?_) rfl (by kernel_rfl) (by kernel_rfl) (by kernel_rfl) (fun _ _ _ h => h) (Or.inl ⟨by rfl, ?_⟩) (by assumption) ?_
          rotate_left
          (focus (intro w0 hSw; (try dsimp only at hSw); go_simp <;> with_reducible rfl))
          simp only [List.getElem_toArray, List.getElem_cons_succ, List.getElem_cons_zero, Act.put, List.setIfInBounds_toArray, List.set_cons_zero, List.set_cons_succ]
          refine wpAnyH_take (i := 4) (v := ?_) rfl (by kernel_rfl) (by kernel_rfl) (by kernel_rfl) (fun _ _ _ h => h) (Or.inl ⟨by rfl, ?_⟩) (by assumption) ?_
          rotate_left
          (focus (intro w0 hSw; (try dsimp only at hSw); go_simp <;> with_reducible rfl))
          simp only [List.getElem_toArray, List.getElem_cons_succ, List.getElem_cons_zero, Act.put, List.setIfInBounds_toArray, List.set_cons_zero, List.set_cons_succ]
          refine wpAnyH_take (i := 5) (v := ?_) rfl (by kernel_rfl) (by kernel_rfl) (by kernel_rfl) (fun _ _ _ h => h) (Or.inl ⟨by rfl, ?_⟩) (by assumption) ?_
          rotate_left
          (focus (intro w0 hSw; (try dsimp only at hSw); go_simp <;> with_reducible rfl))
          simp only [List.getElem_toArray, List.getElem_cons_succ, List.getElem_cons_zero, Act.put, List.setIfInBounds_toArray, List.set_cons_zero, List.set_cons_succ]
          refine wpAnyH_take (i := 6) (v := ?_) rfl (by kernel_rfl) (by kernel_rfl) (by kernel_rfl) (fun _ _ _ h => h) (Or.inl ⟨by rfl, ?_⟩) (by assumption) ?_
          rotate_left
          (focus (intro w0 hSw; (try dsimp only at hSw); go_simp <;> with_reducible rfl))
          simp only [List.getElem_toArray, List.getElem_cons_succ, List.getElem_cons_zero, Act.put, List.setIfInBounds_toArray, List.set_cons_zero, List.set_cons_succ]
          refine wpAnyH_take (i := 7) (v := ?_) rfl (by kernel_rfl) (by kernel_rfl) (by kernel_rfl) (fun _ _ _ h => h) (Or.inl ⟨by rfl, ?_⟩) (by assumption) ?_
          rotate_left
          (focus (intro w0 hSw; (try dsimp only at hSw); go_simp <;> with_reducible rfl))
          simp only [List.getElem_toArray, List.getElem_cons_succ, List.getElem_cons_zero, Act.put, List.setIfInBounds_toArray, List.set_cons_zero, List.set_cons_succ]
          refine wpAnyH_take (i := 8) (v := ?_) rfl (by kernel_rfl) (by kernel_rfl) (by kernel_rfl) (fun _ _ _ h => h) (Or.inl ⟨by rfl, ?_⟩) (by assumption) ?_
          rotate_left
          (focus (intro w0 hSw; (try dsimp only at hSw); go_simp <;> with_reducible rfl))
          simp only [List.getElem_toArray, List.getElem_cons_succ, List.getElem_cons_zero, Act.put, List.setIfInBounds_toArray, List.set_cons_zero, List.set_cons_succ]
          refine wpAnyH_take (i := 9) (v := ?_) rfl (by kernel_rfl) (by kernel_rfl) (by kernel_rfl) (fun _ _ _ h => h) (Or.inl ⟨by rfl, ?_⟩) (by assumption) ?_
          rotate_left
          (focus (intro w0 hSw; (try dsimp only at hSw); go_simp <;> with_reducible rfl))
          simp only [List.getElem_toArray, List.getElem_cons_succ, List.getElem_cons_zero, Act.put, List.setIfInBounds_toArray, List.set_cons_zero, List.set_cons_succ]
          refine wpAnyH_take (i := 10) (v := ?_) rfl (by kernel_rfl) (by kernel_rfl) (by kernel_rfl) (fun _ _ _ h => h) (Or.inl ⟨by rfl, ?_⟩) (by assumption) ?_
          rotate_left
          (focus (intro w0 hSw; (try dsimp only at hSw); go_simp <;> with_reducible rfl))
          simp only [List.getElem_toArray, List.getElem_cons_succ, List.getElem_cons_zero, Act.put, List.setIfInBounds_toArray, List.set_cons_zero, List.set_cons_succ]
          refine wpAnyH_ready (rs := [11]) (by kernel_rfl) (by simp) ?_
          refine AllReadyH.cons (o := _) rfl (fun K hK => ?_) ?_
          rotate_left
          exact AllReadyH.nil
          go_simp
          go_at_call 35
          with_reducible refine (CM.out _ (by repeat (with_reducible first | assumption | exact Below.refl _ _ | refine Below.drew ?_ | refine kBb (by assumption) ?_))).mono ?_
          rintro en w8 ⟨s8, x8, n8, c8, d8, y8, m8, e8, g8, rfl, hb8, H8⟩
          have B8 : Below w7.heap.size w7 w8 := (by repeat (with_reducible first | assumption | exact Below.refl _ _ | refine Below.drew ?_ | refine kBb (by assumption) ?_))
          have O8 := OB.out.below B8
          obtain ⟨_, v0, v1, v2, v3, vf8⟩ := id O8
          (try go_wp2_with fail)
          refine hK.out _ _ ?_ (fun hHeld3 => ?_)
          · ((try dsimp only); (refine ⟨?_, ?_, ?_, ?_, ?_, ?_, ?_⟩ <;> repeat (with_reducible first | assumption | refine kCb B8 ?_)))
          clear hK K
          try simp only [Act.put, List.setIfInBounds_toArray, List.set_cons_zero, List.set_cons_succ]
          refine wpAnyH_take (i := 12) (v := ?_) rfl (by kernel_rfl) (by kernel_rfl) (by kernel_rfl) (fun _ _ _ h => h) (Or.inl ⟨by rfl, ?_⟩) (by assumption) ?_
          rotate_left
          (focus (intro w0 hSw; (try dsimp only at hSw); go_simp <;> with_reducible rfl))
          simp only [List.getElem_toArray, List.getElem_cons_succ, List.getElem_cons_zero, Act.put, List.setIfInBounds_toArray, List.set_cons_zero, List.set_cons_succ]
          refine wpAnyH_ready (rs := [13]) (by kernel_rfl) (by simp) ?_
          refine AllReadyH.cons (o := _) rfl (fun K hK => ?_) ?_
          rotate_left
          exact AllReadyH.nil
          go_simp
          refine hK.out _ _ ?_ (fun hHeld9 => ?_)
          · ((try dsimp only); (refine ⟨?_, ?_, ?_, ?_, ?_, ?_, ?_⟩ <;> repeat (with_reducible first | assumption | refine kCs (by simp only [ne_eq]; omega) ?_ | refine kCb B8 ?_)))
          clear hK K
          try simp only [Act.put, List.setIfInBounds_toArray, List.set_cons_zero, List.set_cons_succ]
          refine wpAnyH_done (by kernel_rfl) ?_ _
          replace HB := hid (HB.out.trans (B8.mono HB.out.size)); replace HRow := hid (HRow.out.below B8); replace HT := hid (HT.out.below B8); replace OB := hid O8
          have QP : QnT (10 * K + 9) w8 ⟨s8, x8, n8, c8, d8, y8, m8, e8, g8⟩ (r * p) := ⟨Nat.le_trans H8.out.1 (by omega), Nat.le_trans H8.out.2.1 (by omega), H8.out.2.2⟩
          have PK := hid (pk_mk (a := bb) (t := ⟨s8, x8, n8, c8, d8, y8, m8, e8, g8⟩) HB.out hbt0 OB.out HRow.out hne HT.out QP)
          clear hHeld hHeld3 hHeld9 O8 B8 hb8 H8 QP v0 v1 v2 v3 vf8 CM
          generalize (((w8.setCell ⟨bt, 0, none⟩ (.int .i64 bb)).setCell ⟨bt, 1, none⟩ (.bool s8)).setCell ⟨bt, 2, none⟩ (.slice x8 n8 c8)).setCell ⟨bt, 3, none⟩ (.slice y8 m8 e8) = w9 at *
          clear y0 y1 y2 y3 r0 r1 r2 x0 x1 x2 x3 QW RQ QV HRow HT OB HB
          obtain ⟨c0, c1, c2, c3⟩ := PK.out.box
          replace c0 : w9.cell? ⟨bt, 0, none⟩ = some (.int .i64 bb) := c0
          replace c1 : w9.cell? ⟨bt, 1, none⟩ = some (.bool s8) := c1
          replace c2 : w9.cell? ⟨bt, 2, none⟩ = some (.slice x8 n8 c8) := c2
          replace c3 : w9.cell? ⟨bt, 3, none⟩ = some (.slice y8 m8 e8) := c3
          have QN : Hid (Qn w9 s8 x8 n8 d8 y8 m8 g8 (r * p)) := PK.out.num.2.2
          have hln : n8 ≤ 10 * K + 9 := PK.out.num.1
          go_wp2_with fail
          refine (qSign_c QN.out (by omega)).mono ?_
          rintro en w10 ⟨sg1, rfl, hb10, hord⟩
          have hsg := ord_zero hord
          have HB10 := hid (PK.out.bel.trans (hb10.mono PK.out.bel.size)); have HR10 := hid (PK.out.row.below hb10); have HL10 := hid (PK.out.lst.below hb10); have HN10 := hid (PK.out.num.below hb10)
          replace c0 := kCb hb10 c0; replace c1 := kCb hb10 c1; replace c2 := kCb hb10 c2; replace c3 := kCb hb10 c3
          clear PK QN hord hb10
          by_cases hq0 : r * p = 0
          · have hsz1 : (sg1 != 0) = false := by rw [hsg, hq0]; rfl
            have HEZ : Hid (us ++ mg r (v.drop (i)) (v'.drop (j + 1)) = mg r v v') := by
              show _ = _
              rw [← HE.out, HM.out]; unfold nz; rw [if_pos hq0]; rfl
            clear hsg hq0 HM HE HN10 c0 c1 c2 c3
            go_wp2
            go_roundw
            case rel => exact ⟨i, j + 1, l, us, by omega, by omega, by go_num, by go_num, by omega, HB10.out, HR10.out, HL10.out, HEZ.out⟩
            case measure => simp [intOf]; omega
          · have hsz1 : (sg1 != 0) = true := by rw [hsg]; simp [hq0]
            have HEZ : Hid ((us ++ [((bb : Int), r * p)]) ++ mg r (v.drop (i)) (v'.drop (j + 1)) = mg r v v') := by
              show _ = _
              rw [← HE.out, HM.out]; unfold nz; rw [if_neg hq0, List.append_assoc]
            have hsz := HB10.out.size
            clear hsg hq0 HM HE
            go_wp2_with (at_builtin; go_must (refine wpList_append_one w10 rfl (.tmp 112) (.tmp 114) 84 rfl w0.heap.size 106 64 4 (.agg #[.int .i64 0, .bool false, .slice none 0 0, .slice none 0 0]) Tryz.underlying84 Tryz.infoTq rfl (by decide) nz4 u7 l.length (tcells l) rfl HR10.out #[.int .i64 bb, .bool s8, .slice x8 n8 c8, .slice y8 m8 e8] rfl rfl (one4 _ _ _ _ _ _ _ _) (not4 _ _ _ _ _ _ _ _) ?p1 (by decide) hsz ?_))
            case p1 => omega
            intro g20 cap20 w20 hr20 hk20 hb20 hg20
            have HB20 := hid (hb20 w0 HB10.out (Nat.le_refl _))
            have HR20 : Hid (RowG 106 4 w0.heap.size w20 (.slice (some ⟨g20, 0, none⟩) (l.length + 1) cap20) (l ++ [((bb : Int), (⟨s8, x8, n8, c8, d8, y8, m8, e8, g8⟩ : Nm))]).length (tcells (l ++ [((bb : Int), (⟨s8, x8, n8, c8, d8, y8, m8, e8, g8⟩ : Nm))]))) := by
              show RowG _ _ _ _ _ _ _
              rw [tcells_append, List.length_append]; exact hr20
            have HT20 := hid ((HL10.out.kp hk20).snoc (z := (bb : Int)) (t := ⟨s8, x8, n8, c8, d8, y8, m8, e8, g8⟩) (HN10.out.kp hk20))
            clear hr20 hk20 hb20 hg20 HR10 HL10 HB10 HN10 c0 c1 c2 c3 hsz
            go_wp2
            go_roundw
            case rel => exact ⟨i, j + 1, _, _, by omega, by omega, by go_num, by go_num, by simp; omega, HB20.out, HR20.out, HT20.out, HEZ.out⟩
            case measure => simp [intOf]; omega
        have d2 : decide (a < bb) = false := by simp; omega
        have d3 : decide (bb < a) = false := by simp; omega
        have HM : Hid (mg r (v.drop i) (v'.drop j) = nz a (q + r * p) ++ mg r (v.drop (i + 1)) (v'.drop (j + 1))) := by
          show _ = _
          have hab2 : bb = a := by omega
          rw [HDv.out, HDw.out, hab2, mg_eq]
        have hbr := BR.out.below HB.out
        obtain ⟨_, r0, r1, r2⟩ := id hbr
        have RQ := hid (RR.out.below HB.out)
        have nbr : wr.heap.size ≠ br := by omega
        clear hbr
        go_upto_region 7 with fail
        have hb5 := below_alloc (Below.refl wr.heap.size wr) (.cells #[.int .i64 0, .bool false, .slice none 0 0, .slice none 0 0] 106)
        have hO5 := ob4_new wr 106
        replace y0 := kCb hb5 y0
        replace y1 := kCb hb5 y1
        replace y2 := kCb hb5 y2
        replace y3 := kCb hb5 y3
        replace r0 := kCb hb5 r0
        replace r1 := kCb hb5 r1
        replace r2 := kCb hb5 r2
        replace x0 := kCb hb5 x0
        replace x1 := kCb hb5 x1
        replace x2 := kCb hb5 x2
        replace x3 := kCb hb5 x3
        replace QW := hid (QW.out.below hb5)
        replace RQ := hid (RQ.out.below hb5)
        replace QV := hid (QV.out.below hb5)
        replace HRow := hid (HRow.out.below hb5); replace HT := hid (HT.out.below hb5)
        replace HB := hid (HB.out.trans (hb5.mono HB.out.size))
        generalize wr.alloc (.cells #[.int .i64 0, .bool false, .slice none 0 0, .slice none 0 0] 106) = w5 at *
        generalize wr.heap.size = bt at *
        have OB := hid hO5
        clear hb5 hO5
        go_quiet (fail)
        generalize hg : w5.drewN _ = w6
        have hb : Below w5.heap.size w5 w6 := by rw [← hg]; exact below_drewN (Below.refl _ _) _
        clear hg
        replace y0 := kCb hb y0
        replace y1 := kCb hb y1
        replace y2 := kCb hb y2
        replace y3 := kCb hb y3
        replace r0 := kCb hb r0
        replace r1 := kCb hb r1
        replace r2 := kCb hb r2
        replace x0 := kCb hb x0
        replace x1 := kCb hb x1
        replace x2 := kCb hb x2
        replace x3 := kCb hb x3
        replace QW := hid (QW.out.below hb)
        replace RQ := hid (RQ.out.below hb)
        replace QV := hid (QV.out.below hb)
        replace HRow := hid (HRow.out.below hb)
        replace HT := hid (HT.out.below hb)
        replace OB := hid (OB.out.below hb)
        replace HB := hid (HB.out.trans (hb.mono HB.out.size))
        clear hb
        go_wp2_with fail
        go_quiet (fail)
        generalize hg : w6.drewN _ = w7
        have hb : Below w6.heap.size w6 w7 := by rw [← hg]; exact below_drewN (Below.refl _ _) _
        clear hg
        replace y0 := kCb hb y0
        replace y1 := kCb hb y1
        replace y2 := kCb hb y2
        replace y3 := kCb hb y3
        replace r0 := kCb hb r0
        replace r1 := kCb hb r1
        replace r2 := kCb hb r2
        replace x0 := kCb hb x0
        replace x1 := kCb hb x1
        replace x2 := kCb hb x2
        replace x3 := kCb hb x3
        replace QW := hid (QW.out.below hb)
        replace RQ := hid (RQ.out.below hb)
        replace QV := hid (QV.out.below hb)
        replace HRow := hid (HRow.out.below hb)
        replace HT := hid (HT.out.below hb)
        replace OB := hid (OB.out.below hb)
        replace HB := hid (HB.out.trans (hb.mono HB.out.size))
        clear hb
        go_wp2_with fail
        have CM : Hid (∀ W, Below w7.heap.size w7 W → Calls Tryz.prog 35 #[.agg #[.bool s, .slice x n c, .slice y m e], .agg #[.bool ss, .slice sx sn sc, .slice sy sm sd]] W fun e w' => ∃ s x n c d y m e' g, e = .returned (.agg #[.bool s, .slice x n c, .slice y m e']) ∧ Below W.heap.size W w' ∧ Hid (n ≤ 4 * K + 3 ∧ m ≤ 4 * K + 3 ∧ Qn w' s x n d y m g (r * p))) := fun W hW => by
          have q1 : sn ≤ K := QW.out.1
          have q2 : sm ≤ K := QW.out.2.1
          have q3 : Qn w7 ss sx sn sf sy sm sg p := QW.out.2.2
          exact (qMul_c (RQ.out.below hW) (q3.below hW) (by omega) (by omega) (by omega) (by omega)).mono (fun _ _ ⟨s, x, n, c, d, y, m, c', g, h1, h2, h3, h4, h5⟩ => ⟨s, x, n, c, d, y, m, c', g, h1, h2, by omega, by omega, h5⟩)
        have CA : Hid (∀ (W : World) (s1 : Bool) (x1 : Option Addr) (n1 c1 : Nat) (d1 : Nat → Int) (y1 : Option Addr) (m1 e1 : Nat) (g1 : Nat → Int), Below w7.heap.size w7 W → n1 ≤ 4 * K + 3 ∧ m1 ≤ 4 * K + 3 ∧ Qn W s1 x1 n1 d1 y1 m1 g1 (r * p) → Calls Tryz.prog 33 #[.agg #[.bool ts, .slice tx tn tc, .slice ty tm td], .agg #[.bool s1, .slice x1 n1 c1, .slice y1 m1 e1]] W fun e w' => ∃ s x n c d y m e' g, e = .returned (.agg #[.bool s, .slice x n c, .slice y m e']) ∧ Below W.heap.size W w' ∧ Hid (n ≤ 10 * K + 9 ∧ m ≤ 10 * K + 9 ∧ Qn w' s x n d y m g (q + r * p))) := fun W s1 x1 n1 c1 d1 y1 m1 e1 g1 hW hh => by
          have q1 : tn ≤ K := QV.out.1
          have q2 : tm ≤ K := QV.out.2.1
          have q3 : Qn w7 ts tx tn tf ty tm tg q := QV.out.2.2
          exact (qAdd_c (q3.below hW) hh.2.2 (by omega) (by omega) (by omega) (by omega)).mono (fun _ _ ⟨s, x, n, c, d, y, m, c', g, h1, h2, h3, h4, h5⟩ => ⟨s, x, n, c, d, y, m, c', g, h1, h2, by omega, by omega, h5⟩)
        refine wp_region_held_drew (S := fun w' => w'.cell? ⟨b', o' + j * 4, none⟩ = some (.int .i64 bb) ∧ w'.cell? ⟨b', o' + j * 4 + 1, none⟩ = some (.bool ss) ∧ w'.cell? ⟨b', o' + j * 4 + 2, none⟩ = some (.slice sx sn sc) ∧ w'.cell? ⟨b', o' + j * 4 + 3, none⟩ = some (.slice sy sm sd) ∧ w'.cell? ⟨br, 0, none⟩ = some (.bool s) ∧ w'.cell? ⟨br, 1, none⟩ = some (.slice x n c) ∧ w'.cell? ⟨br, 2, none⟩ = some (.slice y m e) ∧ w'.cell? ⟨b, o + i * 4, none⟩ = some (.int .i64 a) ∧ w'.cell? ⟨b, o + i * 4 + 1, none⟩ = some (.bool ts) ∧ w'.cell? ⟨b, o + i * 4 + 2, none⟩ = some (.slice tx tn tc) ∧ w'.cell? ⟨b, o + i * 4 + 3, none⟩ = some (.slice ty tm td)) (by kernel_rfl) ?_ (fun hHeld => ?_)
        · (refine ⟨?_, ?_, ?_, ?_, ?_, ?_, ?_, ?_, ?_, ?_, ?_⟩ <;> repeat (with_reducible first | assumption | refine kCd ?_))
        refine wpAnyH_take (i := 0) (v := ?_) rfl (by kernel_rfl) (by kernel_rfl) (by kernel_rfl) (fun _ _ _ h => h) (Or.inl ⟨by rfl, ?_⟩) (by assumption) ?_
        rotate_left
        (focus (intro w0 hSw; (try dsimp only at hSw); go_simp <;> with_reducible rfl))
        simp only [List.getElem_toArray, List.getElem_cons_zero, Act.put, List.setIfInBounds_toArray, List.set_cons_zero, List.set_cons_succ]
        refine wpAnyH_take (i := 1) (v := ?_) rfl (by kernel_rfl) (by kernel_rfl) (by kernel_rfl) (fun _ _ _ h => h) (Or.inl ⟨by rfl, ?_⟩) (by assumption) ?_
        rotate_left
        (focus (intro w0 hSw; (try dsimp only at hSw); go_simp <;> with_reducible rfl))
        simp only [List.getElem_toArray, List.getElem_cons_succ, List.getElem_cons_zero, Act.put, List.setIfInBounds_toArray, List.set_cons_zero, List.set_cons_succ]
        refine wpAnyH_take (i := 2) (v := ?_) rfl (by kernel_rfl) (by kernel_rfl) (by kernel_rfl) (fun _ _ _ h => h) (Or.inl ⟨by rfl, ?_⟩) (by assumption) ?_
        rotate_left
        (focus (intro w0 hSw; (try dsimp only at hSw); go_simp <;> with_reducible rfl))
        simp only [List.getElem_toArray, List.getElem_cons_succ, List.getElem_cons_zero, Act.put, List.setIfInBounds_toArray, List.set_cons_zero, List.set_cons_succ]
        refine wpAnyH_take (i := 3) (v := ?_) rfl (by kernel_rfl) (by kernel_rfl) (by kernel_rfl) (fun _ _ _ h => h) (Or.inl ⟨by rfl, ?_⟩) (by assumption) ?_
        rotate_left
        (focus (intro w0 hSw; (try dsimp only at hSw); go_simp <;> with_reducible rfl))
        simp only [List.getElem_toArray, List.getElem_cons_succ, List.getElem_cons_zero, Act.put, List.setIfInBounds_toArray, List.set_cons_zero, List.set_cons_succ]
        refine wpAnyH_take (i := 4) (v := ?_) rfl (by kernel_rfl) (by kernel_rfl) (by kernel_rfl) (fun _ _ _ h => h) (Or.inl ⟨by rfl, ?_⟩) (by assumption) ?_
        rotate_left
        (focus (intro w0 hSw; (try dsimp only at hSw); go_simp <;> with_reducible rfl))
        simp only [List.getElem_toArray, List.getElem_cons_succ, List.getElem_cons_zero, Act.put, List.setIfInBounds_toArray, List.set_cons_zero, List.set_cons_succ]
        refine wpAnyH_take (i := 5) (v := ?_) rfl (by kernel_rfl) (by kernel_rfl) (by kernel_rfl) (fun _ _ _ h => h) (Or.inl ⟨by rfl, ?_⟩) (by assumption) ?_
        rotate_left
        (focus (intro w0 hSw; (try dsimp only at hSw); go_simp <;> with_reducible rfl))
        simp only [List.getElem_toArray, List.getElem_cons_succ, List.getElem_cons_zero, Act.put, List.setIfInBounds_toArray, List.set_cons_zero, List.set_cons_succ]
        refine wpAnyH_take (i := 6) (v := ?_) rfl (by kernel_rfl) (by kernel_rfl) (by kernel_rfl) (fun _ _ _ h => h) (Or.inl ⟨by rfl, ?_⟩) (by assumption) ?_
        rotate_left
        (focus (intro w0 hSw; (try dsimp only at hSw); go_simp <;> with_reducible rfl))
        simp only [List.getElem_toArray, List.getElem_cons_succ, List.getElem_cons_zero, Act.put, List.setIfInBounds_toArray, List.set_cons_zero, List.set_cons_succ]
        refine wpAnyH_take (i := 7) (v := ?_) rfl (by kernel_rfl) (by kernel_rfl) (by kernel_rfl) (fun _ _ _ h => h) (Or.inl ⟨by rfl, ?_⟩) (by assumption) ?_
        rotate_left
        (focus (intro w0 hSw; (try dsimp only at hSw); go_simp <;> with_reducible rfl))
        simp only [List.getElem_toArray, List.getElem_cons_succ, List.getElem_cons_zero, Act.put, List.setIfInBounds_toArray, List.set_cons_zero, List.set_cons_succ]
        refine wpAnyH_take (i := 8) (v := ?_) rfl (by kernel_rfl) (by kernel_rfl) (by kernel_rfl) (fun _ _ _ h => h) (Or.inl ⟨by rfl, ?_⟩) (by assumption) ?_
        rotate_left
        (focus (intro w0 hSw; (try dsimp only at hSw); go_simp <;> with_reducible rfl))
        simp only [List.getElem_toArray, List.getElem_cons_succ, List.getElem_cons_zero, Act.put, List.setIfInBounds_toArray, List.set_cons_zero, List.set_cons_succ]
        refine wpAnyH_take (i := 9) (v := ?_) rfl (by kernel_rfl) (by kernel_rfl) (by kernel_rfl) (fun _ _ _ h => h) (Or.inl ⟨by rfl, ?_⟩) (by assumption) ?_
        rotate_left
        (focus (intro w0 hSw; (try dsimp only at hSw); go_simp <;> with_reducible rfl))
        simp only [List.getElem_toArray, List.getElem_cons_succ, List.getElem_cons_zero, Act.put, List.setIfInBounds_toArray, List.set_cons_zero, List.set_cons_succ]
        refine wpAnyH_take (i := 10) (v := ?_) rfl (by kernel_rfl) (by kernel_rfl) (by kernel_rfl) (fun _ _ _ h => h) (Or.inl ⟨by rfl, ?_⟩) (by assumption) ?_
        rotate_left
        (focus (intro w0 hSw; (try dsimp only at hSw); go_simp <;> with_reducible rfl))
        simp only [List.getElem_toArray, List.getElem_cons_succ, List.getElem_cons_zero, Act.put, List.setIfInBounds_toArray, List.set_cons_zero, List.set_cons_succ]
        refine wpAnyH_take (i := 11) (v := ?_) rfl (by kernel_rfl) (by kernel_rfl) (by kernel_rfl) (fun _ _ _ h => h) (Or.inl ⟨by rfl, ?_⟩) (by assumption) ?_
        rotate_left
        (focus (intro w0 hSw; (try dsimp only at hSw); go_simp <;> with_reducible rfl))
        simp only [List.getElem_toArray, List.getElem_cons_succ, List.getElem_cons_zero, Act.put, List.setIfInBounds_toArray, List.set_cons_zero, List.set_cons_succ]
        refine wpAnyH_take (i := 12) (v := ?_) rfl (by kernel_rfl) (by kernel_rfl) (by kernel_rfl) (fun _ _ _ h => h) (Or.inl ⟨by rfl, ?_⟩) (by assumption) ?_
        rotate_left
        (focus (intro w0 hSw; (try dsimp only at hSw); go_simp <;> with_reducible rfl))
        simp only [List.getElem_toArray, List.getElem_cons_succ, List.getElem_cons_zero, Act.put, List.setIfInBounds_toArray, List.set_cons_zero, List.set_cons_succ]
        refine wpAnyH_take (i := 13) (v := ?_) rfl (by kernel_rfl) (by kernel_rfl) (by kernel_rfl) (fun _ _ _ h => h) (Or.inl ⟨by rfl, ?_⟩) (by assumption) ?_
        rotate_left
        (focus (intro w0 hSw; (try dsimp only at hSw); go_simp <;> with_reducible rfl))
        simp only [List.getElem_toArray, List.getElem_cons_succ, List.getElem_cons_zero, Act.put, List.setIfInBounds_toArray, List.set_cons_zero, List.set_cons_succ]
        refine wpAnyH_take (i := 14) (v := ?_) rfl (by kernel_rfl) (by kernel_rfl) (by kernel_rfl) (fun _ _ _ h => h) (Or.inl ⟨by rfl, ?_⟩) (by assumption) ?_
        rotate_left
        (focus (intro w0 hSw; (try dsimp only at hSw); go_simp <;> with_reducible rfl))
        simp only [List.getElem_toArray, List.getElem_cons_succ, List.getElem_cons_zero, Act.put, List.setIfInBounds_toArray, List.set_cons_zero, List.set_cons_succ]
        refine wpAnyH_take (i := 15) (v := ?_) rfl (by kernel_rfl) (by kernel_rfl) (by kernel_rfl) (fun _ _ _ h => h) (Or.inl ⟨by rfl, ?_⟩) (by assumption) ?_
        rotate_left
        (focus (intro w0 hSw; (try dsimp only at hSw); go_simp <;> with_reducible rfl))
        simp only [List.getElem_toArray, List.getElem_cons_succ, List.getElem_cons_zero, Act.put, List.setIfInBounds_toArray, List.set_cons_zero, List.set_cons_succ]
        refine wpAnyH_ready (rs := [16]) (by kernel_rfl) (by simp) ?_
        refine AllReadyH.cons (o := _) rfl (fun K hK => ?_) ?_
        rotate_left
        exact AllReadyH.nil
        go_simp
        go_at_call 35
        with_reducible refine (CM.out _ (by repeat (with_reducible first | assumption | exact Below.refl _ _ | refine Below.drew ?_ | refine kBb (by assumption) ?_))).mono ?_
        rintro en w8 ⟨s8, x8, n8, c8, d8, y8, m8, e8, g8, rfl, hb8, H8⟩
        have B8 : Below w7.heap.size w7 w8 := (by repeat (with_reducible first | assumption | exact Below.refl _ _ | refine Below.drew ?_ | refine kBb (by assumption) ?_))
        have O8 := OB.out.below B8
        obtain ⟨_, v0, v1, v2, v3, vf8⟩ := id O8
        (try go_wp2_with fail)
        refine hK.out _ _ ?_ (fun hHeld3 => ?_)
        · ((try dsimp only); (refine ⟨?_, ?_, ?_, ?_, ?_, ?_, ?_, ?_, ?_, ?_, ?_⟩ <;> repeat (with_reducible first | assumption | refine kCb B8 ?_)))
        clear hK K
        try simp only [Act.put, List.setIfInBounds_toArray, List.set_cons_zero, List.set_cons_succ]
        refine wpAnyH_ready (rs := [17]) (by kernel_rfl) (by simp) ?_
        refine AllReadyH.cons (o := _) rfl (fun K hK => ?_) ?_
        rotate_left
        exact AllReadyH.nil
        go_simp
        go_at_call 33
        with_reducible refine (CA.out _ s8 x8 n8 c8 d8 y8 m8 e8 g8 (by repeat (with_reducible first | assumption | exact Below.refl _ _ | refine Below.drew ?_ | refine kBb (by assumption) ?_)) H8.out).mono ?_
        rintro en wz ⟨s9, x9, n9, c9, d9, y9, m9, e9, g9, rfl, hbz, H9⟩
        have Bz : Below w7.heap.size w7 wz := (by repeat (with_reducible first | assumption | exact Below.refl _ _ | refine Below.drew ?_ | refine kBb (by assumption) ?_))
        have Oz := OB.out.below Bz
        obtain ⟨_, t0, t1, t2, t3, tfz⟩ := id Oz
        (try go_wp2_with fail)
        refine hK.out _ _ ?_ (fun hHeld4 => ?_)
        · ((try dsimp only); (refine ⟨?_, ?_, ?_, ?_, ?_, ?_, ?_, ?_, ?_, ?_, ?_⟩ <;> repeat (with_reducible first | assumption | refine kCb Bz ?_)))
        clear hK K
        try simp only [Act.put, List.setIfInBounds_toArray, List.set_cons_zero, List.set_cons_succ]
        refine wpAnyH_take (i := 18) (v := ?_) rfl (by kernel_rfl) (by kernel_rfl) (by kernel_rfl) (fun _ _ _ h => h) (Or.inl ⟨by rfl, ?_⟩) (by assumption) ?_
        rotate_left
        (focus (intro w0 hSw; (try dsimp only at hSw); go_simp <;> with_reducible rfl))
        simp only [List.getElem_toArray, List.getElem_cons_succ, List.getElem_cons_zero, Act.put, List.setIfInBounds_toArray, List.set_cons_zero, List.set_cons_succ]
        refine wpAnyH_ready (rs := [19]) (by kernel_rfl) (by simp) ?_
        refine AllReadyH.cons (o := _) rfl (fun K hK => ?_) ?_
        rotate_left
        exact AllReadyH.nil
        go_simp
        refine hK.out _ _ ?_ (fun hHeld9 => ?_)
        · ((try dsimp only); (refine ⟨?_, ?_, ?_, ?_, ?_, ?_, ?_, ?_, ?_, ?_, ?_⟩ <;> repeat (with_reducible first | assumption | refine kCs (by simp only [ne_eq]; omega) ?_ | refine kCb Bz ?_)))
        clear hK K
        try simp only [Act.put, List.setIfInBounds_toArray, List.set_cons_zero, List.set_cons_succ]
        refine wpAnyH_done (by kernel_rfl) ?_ _
        replace HB := hid (HB.out.trans (Bz.mono HB.out.size)); replace HRow := hid (HRow.out.below Bz); replace HT := hid (HT.out.below Bz); replace OB := hid Oz
        have QP : QnT (10 * K + 9) wz ⟨s9, x9, n9, c9, d9, y9, m9, e9, g9⟩ (q + r * p) := H9.out
        have PK := hid (pk_mk (a := a) (t := ⟨s9, x9, n9, c9, d9, y9, m9, e9, g9⟩) HB.out hbt0 OB.out HRow.out hne HT.out QP)
        clear hHeld hHeld3 hHeld4 hHeld9 O8 B8 hb8 H8 QP v0 v1 v2 v3 vf8 CM CA Oz Bz hbz H9 t0 t1 t2 t3 tfz
        generalize (((wz.setCell ⟨bt, 0, none⟩ (.int .i64 a)).setCell ⟨bt, 1, none⟩ (.bool s9)).setCell ⟨bt, 2, none⟩ (.slice x9 n9 c9)).setCell ⟨bt, 3, none⟩ (.slice y9 m9 e9) = w9 at *
        clear y0 y1 y2 y3 r0 r1 r2 x0 x1 x2 x3 QW RQ QV HRow HT OB HB
        obtain ⟨c0, c1, c2, c3⟩ := PK.out.box
        replace c0 : w9.cell? ⟨bt, 0, none⟩ = some (.int .i64 a) := c0
        replace c1 : w9.cell? ⟨bt, 1, none⟩ = some (.bool s9) := c1
        replace c2 : w9.cell? ⟨bt, 2, none⟩ = some (.slice x9 n9 c9) := c2
        replace c3 : w9.cell? ⟨bt, 3, none⟩ = some (.slice y9 m9 e9) := c3
        have QN : Hid (Qn w9 s9 x9 n9 d9 y9 m9 g9 (q + r * p)) := PK.out.num.2.2
        have hln : n9 ≤ 10 * K + 9 := PK.out.num.1
        go_wp2_with fail
        refine (qSign_c QN.out (by omega)).mono ?_
        rintro en w10 ⟨sg1, rfl, hb10, hord⟩
        have hsg := ord_zero hord
        have HB10 := hid (PK.out.bel.trans (hb10.mono PK.out.bel.size)); have HR10 := hid (PK.out.row.below hb10); have HL10 := hid (PK.out.lst.below hb10); have HN10 := hid (PK.out.num.below hb10)
        replace c0 := kCb hb10 c0; replace c1 := kCb hb10 c1; replace c2 := kCb hb10 c2; replace c3 := kCb hb10 c3
        clear PK QN hord hb10
        by_cases hq0 : q + r * p = 0
        · have hsz1 : (sg1 != 0) = false := by rw [hsg, hq0]; rfl
          have HEZ : Hid (us ++ mg r (v.drop (i + 1)) (v'.drop (j + 1)) = mg r v v') := by
            show _ = _
            rw [← HE.out, HM.out]; unfold nz; rw [if_pos hq0]; rfl
          clear hsg hq0 HM HE HN10 c0 c1 c2 c3
          go_wp2
          go_roundw
          case rel => exact ⟨i + 1, j + 1, l, us, by omega, by omega, by go_num, by go_num, by omega, HB10.out, HR10.out, HL10.out, HEZ.out⟩
          case measure => simp [intOf]; omega
        · have hsz1 : (sg1 != 0) = true := by rw [hsg]; simp [hq0]
          have HEZ : Hid ((us ++ [((a : Int), q + r * p)]) ++ mg r (v.drop (i + 1)) (v'.drop (j + 1)) = mg r v v') := by
            show _ = _
            rw [← HE.out, HM.out]; unfold nz; rw [if_neg hq0, List.append_assoc]
          have hsz := HB10.out.size
          clear hsg hq0 HM HE
          go_wp2_with (at_builtin; go_must (refine wpList_append_one w10 rfl (.tmp 112) (.tmp 114) 84 rfl w0.heap.size 106 64 4 (.agg #[.int .i64 0, .bool false, .slice none 0 0, .slice none 0 0]) Tryz.underlying84 Tryz.infoTq rfl (by decide) nz4 u7 l.length (tcells l) rfl HR10.out #[.int .i64 a, .bool s9, .slice x9 n9 c9, .slice y9 m9 e9] rfl rfl (one4 _ _ _ _ _ _ _ _) (not4 _ _ _ _ _ _ _ _) ?p1 (by decide) hsz ?_))
          case p1 => omega
          intro g20 cap20 w20 hr20 hk20 hb20 hg20
          have HB20 := hid (hb20 w0 HB10.out (Nat.le_refl _))
          have HR20 : Hid (RowG 106 4 w0.heap.size w20 (.slice (some ⟨g20, 0, none⟩) (l.length + 1) cap20) (l ++ [((a : Int), (⟨s9, x9, n9, c9, d9, y9, m9, e9, g9⟩ : Nm))]).length (tcells (l ++ [((a : Int), (⟨s9, x9, n9, c9, d9, y9, m9, e9, g9⟩ : Nm))]))) := by
            show RowG _ _ _ _ _ _ _
            rw [tcells_append, List.length_append]; exact hr20
          have HT20 := hid ((HL10.out.kp hk20).snoc (z := (a : Int)) (t := ⟨s9, x9, n9, c9, d9, y9, m9, e9, g9⟩) (HN10.out.kp hk20))
          clear hr20 hk20 hb20 hg20 HR10 HL10 HB10 HN10 c0 c1 c2 c3 hsz
          go_wp2
          go_roundw
          case rel => exact ⟨i + 1, j + 1, _, _, by omega, by omega, by go_num, by go_num, by simp; omega, HB20.out, HR20.out, HT20.out, HEZ.out⟩
          case measure => simp [intOf]; omega
      · have j1e : (((j : Nat) : Int) == ((k' : Nat) : Int)) = true := by simp; omega
        have hj0 : v'.drop j = [] := by rw [List.drop_eq_nil_iff]; omega
        have HM : Hid (mg r (v.drop i) (v'.drop j) = nz a q ++ mg r (v.drop (i + 1)) (v'.drop j)) := by
          show _ = _
          rw [hj0, HDv.out, mg_cn]
        clear hj0
        go_upto_region 7 with fail
        have hb5 := below_alloc (Below.refl wr.heap.size wr) (.cells #[.int .i64 0, .bool false, .slice none 0 0, .slice none 0 0] 106)
        have hO5 := ob4_new wr 106
        replace x0 := kCb hb5 x0
        replace x1 := kCb hb5 x1
        replace x2 := kCb hb5 x2
        replace x3 := kCb hb5 x3
        replace QV := hid (QV.out.below hb5)
        replace HRow := hid (HRow.out.below hb5); replace HT := hid (HT.out.below hb5)
        replace HB := hid (HB.out.trans (hb5.mono HB.out.size))
        generalize wr.alloc (.cells #[.int .i64 0, .bool false, .slice none 0 0, .slice none 0 0] 106) = w5 at *
        generalize wr.heap.size = bt at *
        have OB := hid hO5
        clear hb5 hO5
        go_quiet (fail)
        generalize hg : w5.drewN _ = w6
        have hb : Below w5.heap.size w5 w6 := by rw [← hg]; exact below_drewN (Below.refl _ _) _
        clear hg
        replace x0 := kCb hb x0
        replace x1 := kCb hb x1
        replace x2 := kCb hb x2
        replace x3 := kCb hb x3
        replace QV := hid (QV.out.below hb)
        replace HRow := hid (HRow.out.below hb)
        replace HT := hid (HT.out.below hb)
        replace OB := hid (OB.out.below hb)
        replace HB := hid (HB.out.trans (hb.mono HB.out.size))
        clear hb
        obtain ⟨zo, z0, z1, z2, z3, zf⟩ := OB.out
        have PK := hid (pk_mk (a := a) (t := ⟨ts, tx, tn, tc, tf, ty, tm, td, tg⟩) HB.out hbt0 OB.out HRow.out hne HT.out (QV.out.mono (by omega)))
        go_upto_region 13 with fail
        clear z0 z1 z2 z3 zf zo
        generalize (((w6.setCell ⟨bt, 0, none⟩ (.int .i64 a)).setCell ⟨bt, 1, none⟩ (.bool ts)).setCell ⟨bt, 2, none⟩ (.slice tx tn tc)).setCell ⟨bt, 3, none⟩ (.slice ty tm td) = w9 at *
        clear x0 x1 x2 x3 QV HRow HT OB HB
        obtain ⟨c0, c1, c2, c3⟩ := PK.out.box
        replace c0 : w9.cell? ⟨bt, 0, none⟩ = some (.int .i64 a) := c0
        replace c1 : w9.cell? ⟨bt, 1, none⟩ = some (.bool ts) := c1
        replace c2 : w9.cell? ⟨bt, 2, none⟩ = some (.slice tx tn tc) := c2
        replace c3 : w9.cell? ⟨bt, 3, none⟩ = some (.slice ty tm td) := c3
        have QN : Hid (Qn w9 ts tx tn tf ty tm tg (q)) := PK.out.num.2.2
        have hln : tn ≤ 10 * K + 9 := PK.out.num.1
        go_wp2_with fail
        refine (qSign_c QN.out (by omega)).mono ?_
        rintro en w10 ⟨sg1, rfl, hb10, hord⟩
        have hsg := ord_zero hord
        have HB10 := hid (PK.out.bel.trans (hb10.mono PK.out.bel.size)); have HR10 := hid (PK.out.row.below hb10); have HL10 := hid (PK.out.lst.below hb10); have HN10 := hid (PK.out.num.below hb10)
        replace c0 := kCb hb10 c0; replace c1 := kCb hb10 c1; replace c2 := kCb hb10 c2; replace c3 := kCb hb10 c3
        clear PK QN hord hb10
        by_cases hq0 : q = 0
        · have hsz1 : (sg1 != 0) = false := by rw [hsg, hq0]; rfl
          have HEZ : Hid (us ++ mg r (v.drop (i + 1)) (v'.drop (j)) = mg r v v') := by
            show _ = _
            rw [← HE.out, HM.out]; unfold nz; rw [if_pos hq0]; rfl
          clear hsg hq0 HM HE HN10 c0 c1 c2 c3
          go_wp2
          go_roundw
          case rel => exact ⟨i + 1, j, l, us, by omega, by omega, by go_num, by go_num, by omega, HB10.out, HR10.out, HL10.out, HEZ.out⟩
          case measure => simp [intOf]; omega
        · have hsz1 : (sg1 != 0) = true := by rw [hsg]; simp [hq0]
          have HEZ : Hid ((us ++ [((a : Int), q)]) ++ mg r (v.drop (i + 1)) (v'.drop (j)) = mg r v v') := by
            show _ = _
            rw [← HE.out, HM.out]; unfold nz; rw [if_neg hq0, List.append_assoc]
          have hsz := HB10.out.size
          clear hsg hq0 HM HE
          go_wp2_with (at_builtin; go_must (refine wpList_append_one w10 rfl (.tmp 112) (.tmp 114) 84 rfl w0.heap.size 106 64 4 (.agg #[.int .i64 0, .bool false, .slice none 0 0, .slice none 0 0]) Tryz.underlying84 Tryz.infoTq rfl (by decide) nz4 u7 l.length (tcells l) rfl HR10.out #[.int .i64 a, .bool ts, .slice tx tn tc, .slice ty tm td] rfl rfl (one4 _ _ _ _ _ _ _ _) (not4 _ _ _ _ _ _ _ _) ?p1 (by decide) hsz ?_))
          case p1 => omega
          intro g20 cap20 w20 hr20 hk20 hb20 hg20
          have HB20 := hid (hb20 w0 HB10.out (Nat.le_refl _))
          have HR20 : Hid (RowG 106 4 w0.heap.size w20 (.slice (some ⟨g20, 0, none⟩) (l.length + 1) cap20) (l ++ [((a : Int), (⟨ts, tx, tn, tc, tf, ty, tm, td, tg⟩ : Nm))]).length (tcells (l ++ [((a : Int), (⟨ts, tx, tn, tc, tf, ty, tm, td, tg⟩ : Nm))]))) := by
            show RowG _ _ _ _ _ _ _
            rw [tcells_append, List.length_append]; exact hr20
          have HT20 := hid ((HL10.out.kp hk20).snoc (z := (a : Int)) (t := ⟨ts, tx, tn, tc, tf, ty, tm, td, tg⟩) (HN10.out.kp hk20))
          clear hr20 hk20 hb20 hg20 HR10 HL10 HB10 HN10 c0 c1 c2 c3 hsz
          go_wp2
          go_roundw
          case rel => exact ⟨i + 1, j, _, _, by omega, by omega, by go_num, by go_num, by simp; omega, HB20.out, HR20.out, HT20.out, HEZ.out⟩
          case measure => simp [intOf]; omega
    · by_cases hjk : j < k'
      · have hi0 : v.drop i = [] := by rw [List.drop_eq_nil_iff]; omega
        have i1n : ¬ (((i : Nat) : Int) < ((k : Nat) : Int)) := by omega
        have i1d : decide (((i : Nat) : Int) < ((k : Nat) : Int)) = false := by simp; omega
        have i1e : (((i : Nat) : Int) == ((k : Nat) : Int)) = true := by simp; omega
        obtain ⟨⟨bb, p⟩, hbp⟩ : ∃ t, v'[j]? = some t := ⟨_, List.getElem?_eq_getElem (by omega)⟩
        have HDw := hid (drop_get hbp)
        obtain ⟨b', o', ⟨ss, sx, sn, sc, sf, sy, sm, sd, sg⟩, haw, hc', hqw⟩ := (TW.out.below HB.out) j bb p hbp
        subst haw
        obtain ⟨y0, y1, y2, y3⟩ := hc'
        replace y0 : wr.cell? ⟨b', o' + j * 4, none⟩ = some (.int .i64 bb) := y0
        replace y1 : wr.cell? ⟨b', o' + j * 4 + 1, none⟩ = some (.bool ss) := y1
        replace y2 : wr.cell? ⟨b', o' + j * 4 + 2, none⟩ = some (.slice sx sn sc) := y2
        replace y3 : wr.cell? ⟨b', o' + j * 4 + 3, none⟩ = some (.slice sy sm sd) := y3
        have QW : Hid (QnT K wr ⟨ss, sx, sn, sc, sf, sy, sm, sd, sg⟩ p) := hqw
        have nbw : wr.heap.size ≠ b' := by have := World.block_lt_of_cell? wr _ y0; simp at this; omega
        have j1 : ((j : Nat) : Int) < ((k' : Nat) : Int) := by omega
        have j1e : (((j : Nat) : Int) == ((k' : Nat) : Int)) = false := by simp; omega
        have j1w : ((j : Nat) : Int) ≤ 9223372036854775806 := by omega
        clear hbp hqw
        have HM : Hid (mg r (v.drop i) (v'.drop j) = nz bb (r * p) ++ mg r (v.drop i) (v'.drop (j + 1))) := by
          show _ = _
          rw [hi0, HDw.out, mg_nc]
        clear hi0
        have hbr := BR.out.below HB.out
        obtain ⟨_, r0, r1, r2⟩ := id hbr
        have RQ := hid (RR.out.below HB.out)
        have nbr : wr.heap.size ≠ br := by omega
        clear hbr
        go_upto_region 7 with fail
        have hb5 := below_alloc (Below.refl wr.heap.size wr) (.cells #[.int .i64 0, .bool false, .slice none 0 0, .slice none 0 0] 106)
        have hO5 := ob4_new wr 106
        replace y0 := kCb hb5 y0
        replace y1 := kCb hb5 y1
        replace y2 := kCb hb5 y2
        replace y3 := kCb hb5 y3
        replace r0 := kCb hb5 r0
        replace r1 := kCb hb5 r1
        replace r2 := kCb hb5 r2
        replace QW := hid (QW.out.below hb5)
        replace RQ := hid (RQ.out.below hb5)
        replace HRow := hid (HRow.out.below hb5); replace HT := hid (HT.out.below hb5)
        replace HB := hid (HB.out.trans (hb5.mono HB.out.size))
        generalize wr.alloc (.cells #[.int .i64 0, .bool false, .slice none 0 0, .slice none 0 0] 106) = w5 at *
        generalize wr.heap.size = bt at *
        have OB := hid hO5
        clear hb5 hO5
        go_quiet (fail)
        generalize hg : w5.drewN _ = w6
        have hb : Below w5.heap.size w5 w6 := by rw [← hg]; exact below_drewN (Below.refl _ _) _
        clear hg
        replace y0 := kCb hb y0
        replace y1 := kCb hb y1
        replace y2 := kCb hb y2
        replace y3 := kCb hb y3
        replace r0 := kCb hb r0
        replace r1 := kCb hb r1
        replace r2 := kCb hb r2
        replace QW := hid (QW.out.below hb)
        replace RQ := hid (RQ.out.below hb)
        replace HRow := hid (HRow.out.below hb)
        replace HT := hid (HT.out.below hb)
        replace OB := hid (OB.out.below hb)
        replace HB := hid (HB.out.trans (hb.mono HB.out.size))
        clear hb
        go_wp2_with fail
        go_quiet (fail)
        generalize hg : w6.drewN _ = w7
        have hb : Below w6.heap.size w6 w7 := by rw [← hg]; exact below_drewN (Below.refl _ _) _
        clear hg
        replace y0 := kCb hb y0
        replace y1 := kCb hb y1
        replace y2 := kCb hb y2
        replace y3 := kCb hb y3
        replace r0 := kCb hb r0
        replace r1 := kCb hb r1
        replace r2 := kCb hb r2
        replace QW := hid (QW.out.below hb)
        replace RQ := hid (RQ.out.below hb)
        replace HRow := hid (HRow.out.below hb)
        replace HT := hid (HT.out.below hb)
        replace OB := hid (OB.out.below hb)
        replace HB := hid (HB.out.trans (hb.mono HB.out.size))
        clear hb
        go_wp2_with fail
        have CM : Hid (∀ W, Below w7.heap.size w7 W → Calls Tryz.prog 35 #[.agg #[.bool s, .slice x n c, .slice y m e], .agg #[.bool ss, .slice sx sn sc, .slice sy sm sd]] W fun e w' => ∃ s x n c d y m e' g, e = .returned (.agg #[.bool s, .slice x n c, .slice y m e']) ∧ Below W.heap.size W w' ∧ Hid (n ≤ 4 * K + 3 ∧ m ≤ 4 * K + 3 ∧ Qn w' s x n d y m g (r * p))) := fun W hW => by
          have q1 : sn ≤ K := QW.out.1
          have q2 : sm ≤ K := QW.out.2.1
          have q3 : Qn w7 ss sx sn sf sy sm sg p := QW.out.2.2
          exact (qMul_c (RQ.out.below hW) (q3.below hW) (by omega) (by omega) (by omega) (by omega)).mono (fun _ _ ⟨s, x, n, c, d, y, m, c', g, h1, h2, h3, h4, h5⟩ => ⟨s, x, n, c, d, y, m, c', g, h1, h2, by omega, by omega, h5⟩)
        refine wp_region_held_drew (S := fun w' => w'.cell? ⟨b', o' + j * 4, none⟩ = some (.int .i64 bb) ∧ w'.cell? ⟨b', o' + j * 4 + 1, none⟩ = some (.bool ss) ∧ w'.cell? ⟨b', o' + j * 4 + 2, none⟩ = some (.slice sx sn sc) ∧ w'.cell? ⟨b', o' + j * 4 + 3, none⟩ = some (.slice sy sm sd) ∧ w'.cell? ⟨br, 0, none⟩ = some (.bool s) ∧ w'.cell? ⟨br, 1, none⟩ = some (.slice x n c) ∧ w'.cell? ⟨br, 2, none⟩ = some (.slice y m e)) (by kernel_rfl) ?_ (fun hHeld => ?_)
        · (refine ⟨?_, ?_, ?_, ?_, ?_, ?_, ?_⟩ <;> repeat (with_reducible first | assumption | refine kCd ?_))
        refine wpAnyH_take (i := 0) (v := ?_) rfl (by kernel_rfl) (by kernel_rfl) (by kernel_rfl) (fun _ _ _ h => h) (Or.inl ⟨by rfl, ?_⟩) (by assumption) ?_
        rotate_left
        (focus (intro w0 hSw; (try dsimp only at hSw); go_simp <;> with_reducible rfl))
        simp only [List.getElem_toArray, List.getElem_cons_zero, Act.put, List.setIfInBounds_toArray, List.set_cons_zero, List.set_cons_succ]
        refine wpAnyH_take (i := 1) (v := ?_) rfl (by kernel_rfl) (by kernel_rfl) (by kernel_rfl) (fun _ _ _ h => h) (Or.inl ⟨by rfl, ?_⟩) (by assumption) ?_
        rotate_left
        (focus (intro w0 hSw; (try dsimp only at hSw); go_simp <;> with_reducible rfl))
        simp only [List.getElem_toArray, List.getElem_cons_succ, List.getElem_cons_zero, Act.put, List.setIfInBounds_toArray, List.set_cons_zero, List.set_cons_succ]
        refine wpAnyH_take (i := 2) (v := ?_) rfl (by kernel_rfl) (by kernel_rfl) (by kernel_rfl) (fun _ _ _ h => h) (Or.inl ⟨by rfl, ?_⟩) (by assumption) ?_
        rotate_left
        (focus (intro w0 hSw; (try dsimp only at hSw); go_simp <;> with_reducible rfl))
        simp only [List.getElem_toArray, List.getElem_cons_succ, List.getElem_cons_zero, Act.put, List.setIfInBounds_toArray, List.set_cons_zero, List.set_cons_succ]
        refine wpAnyH_take (i := 3) (v := ?_) rfl (by kernel_rfl) (by kernel_rfl) (by kernel_rfl) (fun _ _ _ h => h) (Or.inl ⟨by rfl, ?_⟩) (by assumption) ?_
        rotate_left
        (focus (intro w0 hSw; (try dsimp only at hSw); go_simp <;> with_reducible rfl))
        simp only [List.getElem_toArray, List.getElem_cons_succ, List.getElem_cons_zero, Act.put, List.setIfInBounds_toArray, List.set_cons_zero, List.set_cons_succ]
        refine wpAnyH_take (i := 4) (v := ?_) rfl (by kernel_rfl) (by kernel_rfl) (by kernel_rfl) (fun _ _ _ h => h) (Or.inl ⟨by rfl, ?_⟩) (by assumption) ?_
        rotate_left
        (focus (intro w0 hSw; (try dsimp only at hSw); go_simp <;> with_reducible rfl))
        simp only [List.getElem_toArray, List.getElem_cons_succ, List.getElem_cons_zero, Act.put, List.setIfInBounds_toArray, List.set_cons_zero, List.set_cons_succ]
        refine wpAnyH_take (i := 5) (v := ?_) rfl (by kernel_rfl) (by kernel_rfl) (by kernel_rfl) (fun _ _ _ h => h) (Or.inl ⟨by rfl, ?_⟩) (by assumption) ?_
        rotate_left
        (focus (intro w0 hSw; (try dsimp only at hSw); go_simp <;> with_reducible rfl))
        simp only [List.getElem_toArray, List.getElem_cons_succ, List.getElem_cons_zero, Act.put, List.setIfInBounds_toArray, List.set_cons_zero, List.set_cons_succ]
        refine wpAnyH_take (i := 6) (v := ?_) rfl (by kernel_rfl) (by kernel_rfl) (by kernel_rfl) (fun _ _ _ h => h) (Or.inl ⟨by rfl, ?_⟩) (by assumption) ?_
        rotate_left
        (focus (intro w0 hSw; (try dsimp only at hSw); go_simp <;> with_reducible rfl))
        simp only [List.getElem_toArray, List.getElem_cons_succ, List.getElem_cons_zero, Act.put, List.setIfInBounds_toArray, List.set_cons_zero, List.set_cons_succ]
        refine wpAnyH_take (i := 7) (v := ?_) rfl (by kernel_rfl) (by kernel_rfl) (by kernel_rfl) (fun _ _ _ h => h) (Or.inl ⟨by rfl, ?_⟩) (by assumption) ?_
        rotate_left
        (focus (intro w0 hSw; (try dsimp only at hSw); go_simp <;> with_reducible rfl))
        simp only [List.getElem_toArray, List.getElem_cons_succ, List.getElem_cons_zero, Act.put, List.setIfInBounds_toArray, List.set_cons_zero, List.set_cons_succ]
        refine wpAnyH_take (i := 8) (v := ?_) rfl (by kernel_rfl) (by kernel_rfl) (by kernel_rfl) (fun _ _ _ h => h) (Or.inl ⟨by rfl, ?_⟩) (by assumption) ?_
        rotate_left
        (focus (intro w0 hSw; (try dsimp only at hSw); go_simp <;> with_reducible rfl))
        simp only [List.getElem_toArray, List.getElem_cons_succ, List.getElem_cons_zero, Act.put, List.setIfInBounds_toArray, List.set_cons_zero, List.set_cons_succ]
        refine wpAnyH_take (i := 9) (v := ?_) rfl (by kernel_rfl) (by kernel_rfl) (by kernel_rfl) (fun _ _ _ h => h) (Or.inl ⟨by rfl, ?_⟩) (by assumption) ?_
        rotate_left
        (focus (intro w0 hSw; (try dsimp only at hSw); go_simp <;> with_reducible rfl))
        simp only [List.getElem_toArray, List.getElem_cons_succ, List.getElem_cons_zero, Act.put, List.setIfInBounds_toArray, List.set_cons_zero, List.set_cons_succ]
        refine wpAnyH_take (i := 10) (v := ?_) rfl (by kernel_rfl) (by kernel_rfl) (by kernel_rfl) (fun _ _ _ h => h) (Or.inl ⟨by rfl, ?_⟩) (by assumption) ?_
        rotate_left
        (focus (intro w0 hSw; (try dsimp only at hSw); go_simp <;> with_reducible rfl))
        simp only [List.getElem_toArray, List.getElem_cons_succ, List.getElem_cons_zero, Act.put, List.setIfInBounds_toArray, List.set_cons_zero, List.set_cons_succ]
        refine wpAnyH_ready (rs := [11]) (by kernel_rfl) (by simp) ?_
        refine AllReadyH.cons (o := _) rfl (fun K hK => ?_) ?_
        rotate_left
        exact AllReadyH.nil
        go_simp
        go_at_call 35
        with_reducible refine (CM.out _ (by repeat (with_reducible first | assumption | exact Below.refl _ _ | refine Below.drew ?_ | refine kBb (by assumption) ?_))).mono ?_
        rintro en w8 ⟨s8, x8, n8, c8, d8, y8, m8, e8, g8, rfl, hb8, H8⟩
        have B8 : Below w7.heap.size w7 w8 := (by repeat (with_reducible first | assumption | exact Below.refl _ _ | refine Below.drew ?_ | refine kBb (by assumption) ?_))
        have O8 := OB.out.below B8
        obtain ⟨_, v0, v1, v2, v3, vf8⟩ := id O8
        (try go_wp2_with fail)
        refine hK.out _ _ ?_ (fun hHeld3 => ?_)
        · ((try dsimp only); (refine ⟨?_, ?_, ?_, ?_, ?_, ?_, ?_⟩ <;> repeat (with_reducible first | assumption | refine kCb B8 ?_)))
        clear hK K
        try simp only [Act.put, List.setIfInBounds_toArray, List.set_cons_zero, List.set_cons_succ]
        refine wpAnyH_take (i := 12) (v := ?_) rfl (by kernel_rfl) (by kernel_rfl) (by kernel_rfl) (fun _ _ _ h => h) (Or.inl ⟨by rfl, ?_⟩) (by assumption) ?_
        rotate_left
        (focus (intro w0 hSw; (try dsimp only at hSw); go_simp <;> with_reducible rfl))
        simp only [List.getElem_toArray, List.getElem_cons_succ, List.getElem_cons_zero, Act.put, List.setIfInBounds_toArray, List.set_cons_zero, List.set_cons_succ]
        refine wpAnyH_ready (rs := [13]) (by kernel_rfl) (by simp) ?_
        refine AllReadyH.cons (o := _) rfl (fun K hK => ?_) ?_
        rotate_left
        exact AllReadyH.nil
        go_simp
        refine hK.out _ _ ?_ (fun hHeld9 => ?_)
        · ((try dsimp only); (refine ⟨?_, ?_, ?_, ?_, ?_, ?_, ?_⟩ <;> repeat (with_reducible first | assumption | refine kCs (by simp only [ne_eq]; omega) ?_ | refine kCb B8 ?_)))
        clear hK K
        try simp only [Act.put, List.setIfInBounds_toArray, List.set_cons_zero, List.set_cons_succ]
        refine wpAnyH_done (by kernel_rfl) ?_ _
        replace HB := hid (HB.out.trans (B8.mono HB.out.size)); replace HRow := hid (HRow.out.below B8); replace HT := hid (HT.out.below B8); replace OB := hid O8
        have QP : QnT (10 * K + 9) w8 ⟨s8, x8, n8, c8, d8, y8, m8, e8, g8⟩ (r * p) := ⟨Nat.le_trans H8.out.1 (by omega), Nat.le_trans H8.out.2.1 (by omega), H8.out.2.2⟩
        have PK := hid (pk_mk (a := bb) (t := ⟨s8, x8, n8, c8, d8, y8, m8, e8, g8⟩) HB.out hbt0 OB.out HRow.out hne HT.out QP)
        clear hHeld hHeld3 hHeld9 O8 B8 hb8 H8 QP v0 v1 v2 v3 vf8 CM
        generalize (((w8.setCell ⟨bt, 0, none⟩ (.int .i64 bb)).setCell ⟨bt, 1, none⟩ (.bool s8)).setCell ⟨bt, 2, none⟩ (.slice x8 n8 c8)).setCell ⟨bt, 3, none⟩ (.slice y8 m8 e8) = w9 at *
        clear y0 y1 y2 y3 r0 r1 r2 QW RQ HRow HT OB HB
        obtain ⟨c0, c1, c2, c3⟩ := PK.out.box
        replace c0 : w9.cell? ⟨bt, 0, none⟩ = some (.int .i64 bb) := c0
        replace c1 : w9.cell? ⟨bt, 1, none⟩ = some (.bool s8) := c1
        replace c2 : w9.cell? ⟨bt, 2, none⟩ = some (.slice x8 n8 c8) := c2
        replace c3 : w9.cell? ⟨bt, 3, none⟩ = some (.slice y8 m8 e8) := c3
        have QN : Hid (Qn w9 s8 x8 n8 d8 y8 m8 g8 (r * p)) := PK.out.num.2.2
        have hln : n8 ≤ 10 * K + 9 := PK.out.num.1
        go_wp2_with fail
        refine (qSign_c QN.out (by omega)).mono ?_
        rintro en w10 ⟨sg1, rfl, hb10, hord⟩
        have hsg := ord_zero hord
        have HB10 := hid (PK.out.bel.trans (hb10.mono PK.out.bel.size)); have HR10 := hid (PK.out.row.below hb10); have HL10 := hid (PK.out.lst.below hb10); have HN10 := hid (PK.out.num.below hb10)
        replace c0 := kCb hb10 c0; replace c1 := kCb hb10 c1; replace c2 := kCb hb10 c2; replace c3 := kCb hb10 c3
        clear PK QN hord hb10
        by_cases hq0 : r * p = 0
        · have hsz1 : (sg1 != 0) = false := by rw [hsg, hq0]; rfl
          have HEZ : Hid (us ++ mg r (v.drop (i)) (v'.drop (j + 1)) = mg r v v') := by
            show _ = _
            rw [← HE.out, HM.out]; unfold nz; rw [if_pos hq0]; rfl
          clear hsg hq0 HM HE HN10 c0 c1 c2 c3
          go_wp2
          go_roundw
          case rel => exact ⟨i, j + 1, l, us, by omega, by omega, by go_num, by go_num, by omega, HB10.out, HR10.out, HL10.out, HEZ.out⟩
          case measure => simp [intOf]; omega
        · have hsz1 : (sg1 != 0) = true := by rw [hsg]; simp [hq0]
          have HEZ : Hid ((us ++ [((bb : Int), r * p)]) ++ mg r (v.drop (i)) (v'.drop (j + 1)) = mg r v v') := by
            show _ = _
            rw [← HE.out, HM.out]; unfold nz; rw [if_neg hq0, List.append_assoc]
          have hsz := HB10.out.size
          clear hsg hq0 HM HE
          go_wp2_with (at_builtin; go_must (refine wpList_append_one w10 rfl (.tmp 112) (.tmp 114) 84 rfl w0.heap.size 106 64 4 (.agg #[.int .i64 0, .bool false, .slice none 0 0, .slice none 0 0]) Tryz.underlying84 Tryz.infoTq rfl (by decide) nz4 u7 l.length (tcells l) rfl HR10.out #[.int .i64 bb, .bool s8, .slice x8 n8 c8, .slice y8 m8 e8] rfl rfl (one4 _ _ _ _ _ _ _ _) (not4 _ _ _ _ _ _ _ _) ?p1 (by decide) hsz ?_))
          case p1 => omega
          intro g20 cap20 w20 hr20 hk20 hb20 hg20
          have HB20 := hid (hb20 w0 HB10.out (Nat.le_refl _))
          have HR20 : Hid (RowG 106 4 w0.heap.size w20 (.slice (some ⟨g20, 0, none⟩) (l.length + 1) cap20) (l ++ [((bb : Int), (⟨s8, x8, n8, c8, d8, y8, m8, e8, g8⟩ : Nm))]).length (tcells (l ++ [((bb : Int), (⟨s8, x8, n8, c8, d8, y8, m8, e8, g8⟩ : Nm))]))) := by
            show RowG _ _ _ _ _ _ _
            rw [tcells_append, List.length_append]; exact hr20
          have HT20 := hid ((HL10.out.kp hk20).snoc (z := (bb : Int)) (t := ⟨s8, x8, n8, c8, d8, y8, m8, e8, g8⟩) (HN10.out.kp hk20))
          clear hr20 hk20 hb20 hg20 HR10 HL10 HB10 HN10 c0 c1 c2 c3 hsz
          go_wp2
          go_roundw
          case rel => exact ⟨i, j + 1, _, _, by omega, by omega, by go_num, by go_num, by simp; omega, HB20.out, HR20.out, HT20.out, HEZ.out⟩
          case measure => simp [intOf]; omega
      · have e1 : i = k := by omega
        have e2 : j = k' := by omega
        have i1n : ¬ (((i : Nat) : Int) < ((k : Nat) : Int)) := by omega
        have j1n : ¬ (((j : Nat) : Int) < ((k' : Nat) : Int)) := by omega
        obtain ⟨aw2, cw2, rfl⟩ := HRow.out.slice
        have hus : us = mg r v v' := by
          have h := HE.out
          rw [show v.drop i = [] by rw [List.drop_eq_nil_iff]; omega, show v'.drop j = [] by rw [List.drop_eq_nil_iff]; omega, mg_nn, List.append_nil] at h
          exact h
        have HF : Hid (l.length = (mg r v v').length ∧ Tq (10 * K + 9) wr aw2 (mg r v v')) := by
          rw [← hus]; exact ⟨HT.out.1, tql_tq HT.out HRow.out⟩
        have hcw : l.length ≤ cw2 ∧ cw2 ≤ 9223372036854775807 := by
          rcases HRow.out.2 with ⟨hv, h0⟩ | ⟨g1, cap1, _, hv, _, _, h5, h6, _⟩
          · obtain ⟨_, h1, h2⟩ : aw2 = none ∧ l.length = 0 ∧ cw2 = 0 := by simpa using hv
            omega
          · obtain ⟨_, h2⟩ : aw2 = some ⟨g1, 0, none⟩ ∧ cw2 = cap1 := by simpa using hv
            unfold maxLen at h6; omega
        have HCW := hid hcw
        clear e1 e2 hus hcw
        go_wp2
        go_ret
        refine ⟨aw2, cw2, ?_, (by rw [hbr]; exact HW0.out.trans (HB.out.mono (by omega))), by rw [← HF.out.1]; exact HCW.out, HF.out.2⟩
        rw [HF.out.1]; rfl
end Go.Proofs.YthofcgpghbaccaaGreat
