/-
  The reference's models by their values; the walk of the reference's From of a model (written by makers/f32.py). A model that is well formed has values; the walks of the reference's Crossed and DocCrossed (written by makers/f33.py). Walks of the reference's At of terms, and of DocAt, whatever it is handed. The walk of the reference's Column (written by makers/f37.py). The walk of the reference's To of a list of terms. The reference's To of terms into new memory; the walk of DocColumns (written by makers/f38.py). The walks of the reference's Same of numbers, bounds and lists of terms, whatever they are (written by makers/f29.py). The columns of a model by their values: what Columns puts together is what the reference's Column reads. The walk of law07's awake (written by makers/f23.py). The walk of the law ModelNames (written by makers/f28.py). The walk of the reference's Same of models, whatever they are (written by makers/f30.py). The walks of the reference's DocEqual and of the law ModelEquals (written by makers/f31.py). The walks of ext.Copy of any bound, of model.CopyCol and of model.CopyRow (written by makers/f35.py). The walk of model.copied and of model.Copy (written by makers/f36.py). The reference's Same and Sames of lists with the same values. The walk of law07's columns; the same models compare equal (written by makers/f40.py). What Columns, DocColumns and Copy answer, put together; the walk of the law ModelColumns (written by makers/f41.py). Counting entries: all columns of a well formed model together hold as many entries as its rows hold terms. Each name of a well formed model stands for its place; the entries of a column rise, and each is its row's.
-/
import Derived.Test.YtbmfcogfgdggkaaGreatZ10
import Derived.Test.YtbmfcogfgdggkaaGreatZ5
import Derived.Test.YtbmfcogfgdggkaaGreatZ9
import Derived.Deep.RegionHeld3
import Derived.Test.YtbmfcogfgdggkaaGreatZ8
import Derived.Test.YtbmfcogfgdggkaaGreatZ4
import Derived.BigQuiet
namespace Go.Proofs.YtbmfcogfgdggkaaGreat
open Go.RowKit

theorem Tq.of {K w w' ao l} (h : Tq K w ao l) (hb : l ≠ [] → ∀ b o s, ao = some ⟨b, o, s⟩ → b < w.heap.size → w'.heap[b]? = w.heap[b]?) (hk : Kp w w') : Tq K w' ao l := fun j a q hj => by
  obtain ⟨b, o, t, e, ⟨c0, c1, c2, c3⟩, h2⟩ := h j a q hj
  have := hb (fun e => by rw [e] at hj; simp at hj) b o none e (World.block_lt_of_cell? w _ c0)
  exact ⟨b, o, t, e, ⟨(World.cell?_of_block (a := ⟨b, o + j * 4, none⟩) this).trans c0, (World.cell?_of_block (a := ⟨b, o + j * 4 + 1, none⟩) this).trans c1, (World.cell?_of_block (a := ⟨b, o + j * 4 + 2, none⟩) this).trans c2, (World.cell?_of_block (a := ⟨b, o + j * 4 + 3, none⟩) this).trans c3⟩, h2.kp hk⟩
theorem Tq.lt {K w ao l} (h : Tq K w ao l) (hl : l ≠ []) : ∀ b o s, ao = some ⟨b, o, s⟩ → b < w.heap.size := fun b o s e => by
  match l, hl with
  | (a, q) :: r, _ =>
    obtain ⟨b', o', t, e', h4, _⟩ := h 0 a q rfl
    rw [e] at e'; cases e'
    exact World.block_lt_of_cell? w _ h4.x0
/-- What From of terms answers, in new memory. -/
def FrNew (K : Nat) (w w' : World) (e : Ending) (k : Nat) (v : List (Int × Rat)) : Prop := ∃ aw cw, e = .returned (.slice aw k cw) ∧ Below w.heap.size w w' ∧ (k ≤ cw ∧ cw ≤ 9223372036854775807) ∧ (∀ b o s, aw = some ⟨b, o, s⟩ → w.heap.size ≤ b) ∧ Hid (Tq K w' aw v)
set_option maxRecDepth 100000 in
set_option maxHeartbeats 4000000 in
theorem fromTN_c {w : World} {L : Nat} {ao : Option Addr} {k cap : Nat} {col : Nat → Int} {T : Nat → Nm} {v : List (Int × Rat)} (h : Tl w ao k col T) (hk : k ≤ 10000) (hL : L ≤ 16000) (hlv : v.length = k) (hq : ∀ j, j < k → ∃ q, v[j]? = some (col j, q) ∧ Rn L w (T j).s (T j).x (T j).n (T j).c (T j).f (T j).y (T j).m (T j).d (T j).g q) :
    Calls Tryz.prog 31 #[.slice ao k cap] w fun e w' => FrNew (2 * L) w w' e k v := by
  have H := hid h
  clear h
  go_enter Tryz.func31, Tryz.ntmps31
  go_wp2_with fail
  go_loopw [3, 8] (fun ov t wr => ∃ (i : Nat) (T' : Nat → Nm), i ≤ k ∧ t = .int .i64 i ∧ Hid (Below w.heap.size w wr) ∧ Hid (RowG 118 4 w.heap.size wr ov i (tcells (tls i col T'))) ∧ Hid (∀ j, j < i → ∃ q, v[j]? = some (col j, q) ∧ QnT (2 * L) wr (T' j) q)) (fun _ t _ => k - (intOf t).toNat)
  case atStart => exact ⟨0, T, by omega, rfl, Below.refl _ _, rowG_nil _ _ _ _, fun j hj => by omega⟩
  case round =>
    obtain ⟨i, T', hi, rfl, HB, HRow, HT⟩ := hrel
    by_cases hlt : i < k
    · obtain ⟨b, o, hao, hc, hn, hn1, hn2⟩ := (H.out.below HB.out) i hlt
      obtain ⟨⟨s, x, n, c, f, y, m, d, g⟩, hTi⟩ : ∃ t, T i = t := ⟨_, rfl⟩
      subst hao
      rw [hTi] at hc hn hn1 hn2
      obtain ⟨z, hz⟩ : ∃ z, col i = z := ⟨_, rfl⟩
      rw [hz] at hc
      obtain ⟨x0, x1, x2, x3⟩ := hc
      replace x0 : wr.cell? ⟨b, o + i * 4, none⟩ = some (.int .i64 z) := x0
      replace x1 : wr.cell? ⟨b, o + i * 4 + 1, none⟩ = some (.bool s) := x1
      replace x2 : wr.cell? ⟨b, o + i * 4 + 2, none⟩ = some (.slice x n c) := x2
      replace x3 : wr.cell? ⟨b, o + i * 4 + 3, none⟩ = some (.slice y m d) := x3
      have i1 : ((i : Nat) : Int) < ((k : Nat) : Int) := by omega
      obtain ⟨q, hvq, hrn⟩ := hq i hlt
      rw [hTi] at hrn
      replace hn : Rn L wr s x n c f y m d g q := hrn.below HB.out
      clear hn1 hn2
      have HVq := hid hvq; have HN := hid hn; have HZ := hid hz; have HTi := hid hTi
      clear hn hz hTi
      go_upto_region 5 with fail
      have hb5 := below_alloc (Below.refl wr.heap.size wr) (.cells #[.int .i64 z, .bool s, .slice x n c, .slice y m d] 62)
      have a0 : (wr.alloc (.cells #[.int .i64 z, .bool s, .slice x n c, .slice y m d] 62)).cell? ⟨wr.heap.size, 0, none⟩ = some (.int .i64 z) := by simp [go_sem]
      have a1 : (wr.alloc (.cells #[.int .i64 z, .bool s, .slice x n c, .slice y m d] 62)).cell? ⟨wr.heap.size, 1, none⟩ = some (.bool s) := by simp [go_sem]
      have a2 : (wr.alloc (.cells #[.int .i64 z, .bool s, .slice x n c, .slice y m d] 62)).cell? ⟨wr.heap.size, 2, none⟩ = some (.slice x n c) := by simp [go_sem]
      have a3 : (wr.alloc (.cells #[.int .i64 z, .bool s, .slice x n c, .slice y m d] 62)).cell? ⟨wr.heap.size, 3, none⟩ = some (.slice y m d) := by simp [go_sem]
      have hne : u3.ownBlock ≠ some wr.heap.size := fun e => by have := (HRow.out.lt _ e).2; omega
      replace HN := hid (HN.out.below hb5); replace HRow := hid (HRow.out.below hb5)
      replace HT : Hid (∀ j, j < i → ∃ q, v[j]? = some (col j, q) ∧ QnT (2 * L) (wr.alloc (.cells #[.int .i64 z, .bool s, .slice x n c, .slice y m d] 62)) (T' j) q) := fun j hj => by obtain ⟨q, h1, h2⟩ := HT.out j hj; exact ⟨q, h1, h2.below hb5⟩
      replace HB := hid (HB.out.trans (hb5.mono HB.out.size))
      clear x0 x1 x2 x3 hb5
      have hsz : w.heap.size ≤ (wr.alloc (.cells #[.int .i64 z, .bool s, .slice x n c, .slice y m d] 62)).heap.size := HB.out.size
      generalize wr.alloc (.cells #[.int .i64 z, .bool s, .slice x n c, .slice y m d] 62) = w5 at *
      have CT : Hid (∀ W, Below w5.heap.size w5 W → Calls Tryz.prog 67 #[.agg #[.bool s, .slice x n c, .slice y m d]] W fun e w' => ∃ s6 x6 n6 c6 d6 y6 m6 e6 g6, e = .returned (.agg #[.bool s6, .slice x6 n6 c6, .slice y6 m6 e6]) ∧ Below W.heap.size W w' ∧ Hid (n6 ≤ 2 * L ∧ m6 ≤ 2 * L ∧ Qn w' s6 x6 n6 d6 y6 m6 g6 q)) := fun W hW => (qFrom_c (HN.out.below hW) (by omega)).mono (fun _ _ ⟨s, x, n, c, d, y, m, c', g, h1, h2, h3, h4, h5⟩ => ⟨s, x, n, c, d, y, m, c', g, h1, h2, h3, h4, h5⟩)
      go_region_held3 (fun w' => w'.cell? ⟨wr.heap.size, 0, none⟩ = some (.int .i64 z) ∧ w'.cell? ⟨wr.heap.size, 1, none⟩ = some (.bool s) ∧ w'.cell? ⟨wr.heap.size, 2, none⟩ = some (.slice x n c) ∧ w'.cell? ⟨wr.heap.size, 3, none⟩ = some (.slice y m d))
        (refine ⟨?_, ?_, ?_, ?_⟩ <;> repeat (with_reducible first | assumption | refine kCd ?_ | refine kCa ?_ | refine kCb (by assumption) ?_))
        (first
          | (go_at_call 67; with_reducible refine (CT.out _ (by repeat (with_reducible first | assumption | exact Below.refl _ _ | refine Below.drew ?_ | refine kBa ?_ | refine kBb (by assumption) ?_))).mono ?_; rintro e w6 ⟨s6, x6, n6, c6, d6, y6, m6, e6, g6, rfl, hb6, HQ⟩; have B6 : Below w5.heap.size w5 w6 := (by repeat (with_reducible first | assumption | exact Below.refl _ _ | refine Below.drew ?_ | refine kBa ?_ | refine kBb (by assumption) ?_)); have HRow6 := HRow.out.below B6; have hz6 : w.heap.size ≤ w6.heap.size := Nat.le_trans hsz B6.size; have a06 := kCb B6 a0; have a16 := kCb B6 a1; have a26 := kCb B6 a2; have a36 := kCb B6 a3; have hlt6 := World.block_lt_of_cell? w6 _ a06)
          | (refine step_append_one w6 rfl (.tmp 12) (.tmp 19) 70 rfl w.heap.size 118 64 4 (.agg #[.int .i64 0, .bool false, .slice none 0 0, .slice none 0 0]) Tryz.underlying70 Tryz.infoTq rfl (by decide) nz4 u3 i (tcells (tls i col T')) rfl HRow6 #[.int .i64 z, .bool s6, .slice x6 n6 c6, .slice y6 m6 e6] rfl rfl (one4 _ _ _ _ _ _ _ _) (not4 _ _ _ _ _ _ _ _) ?p1 (by decide) hz6 ?_; (case p1 => omega); intro g8 cap8 w8 hr8 hk8 hb8 hg8; have h88 := hg8 wr.heap.size hlt6 hne; have a08 := (World.cell?_of_block (a := ⟨wr.heap.size, 0, none⟩) h88).trans a06; have a18 := (World.cell?_of_block (a := ⟨wr.heap.size, 1, none⟩) h88).trans a16; have a28 := (World.cell?_of_block (a := ⟨wr.heap.size, 2, none⟩) h88).trans a26; have a38 := (World.cell?_of_block (a := ⟨wr.heap.size, 3, none⟩) h88).trans a36))
      all_goals
        (have HB8 := hid (hb8 w (HB.out.trans (B6.mono HB.out.size)) (Nat.le_refl _))
         have HR8 : Hid (RowG 118 4 w.heap.size w8 (.slice (some ⟨g8, 0, none⟩) (i + 1) cap8) (i + 1) (tcells (tls (i + 1) col (putN T' i ⟨s6, x6, n6, c6, d6, y6, m6, e6, g6⟩)))) := by
           show RowG _ _ _ _ _ _ _
           rw [tls_put, HZ.out]; exact hr8
         have HT8 : Hid (∀ j, j < i + 1 → ∃ q, v[j]? = some (col j, q) ∧ QnT (2 * L) w8 (putN T' i ⟨s6, x6, n6, c6, d6, y6, m6, e6, g6⟩ j) q) := fun j hj => by
           by_cases e : j = i
           · subst e
             rw [putN_at]
             exact ⟨q, HVq.out, QnT.kp (t := ⟨s6, x6, n6, c6, d6, y6, m6, e6, g6⟩) HQ.out hk8⟩
           · rw [putN_ne e]
             obtain ⟨q, h1, h2⟩ := HT.out j (by omega); exact ⟨q, h1, (h2.below B6).kp hk8⟩
         clear hr8 hk8 hb8 hg8 h88 a08 a18 a28 a38 a06 a16 a26 a36 hlt6 hne HRow6 B6 hb6 HQ HRow HT HB CT a0 a1 a2 a3 HN hz6
         go_wp2
         go_roundw
         case rel => exact ⟨i + 1, _, by omega, by go_num, HB8.out, HR8.out, HT8.out⟩
         case measure => simp [intOf]; omega)
    · have e1 : i = k := by omega
      have i1 : ¬ (((i : Nat) : Int) < ((k : Nat) : Int)) := by omega
      rw [e1] at HRow HT
      obtain ⟨aw, cw, rfl⟩ := HRow.out.slice
      have hcw : k ≤ cw ∧ cw ≤ 9223372036854775807 := by
        rcases HRow.out.2 with ⟨hv, h0⟩ | ⟨_, _, _, hv, _, _, h5, h6, _⟩
        · cases hv; omega
        · cases hv; unfold maxLen at h6; omega
      clear e1
      go_wp2
      go_ret
      exact ⟨aw, cw, rfl, HB.out, hcw, (fun b o s e => (HRow.out.lt b (by rw [e]; rfl)).1), (fun j a q hj => by have hlt2 : j < k := by { have := (List.getElem?_eq_some_iff.1 hj).1; omega }; obtain ⟨b, hb, h4⟩ := rowg_c4 HRow.out hlt2; obtain ⟨q', h5, h6⟩ := HT.out j hlt2; rw [hj] at h5; obtain ⟨rfl, rfl⟩ : a = col j ∧ q = q' := by { simpa using h5 }; exact ⟨b, 0, T' j, hb, h4, h6⟩)⟩
end Go.Proofs.YtbmfcogfgdggkaaGreat
namespace Go.Proofs.YtbmfcogfgdggkaaGreat
open Go.RowKit

theorem NmS.val {w : World} {t : Nm} {K : Nat} (h : NmS w t) (hf : nfB t = true) (hk : t.n ≤ K ∧ t.m ≤ K) : NmV K w t (nq t) := by
  obtain ⟨q, hq⟩ := Nm.rn h hf hk.1 hk.2
  rw [hq.nq]; exact hq
def cvOf (c : Lc) : CV := ⟨c.nm, nq c.cost, c.lo.i, nq c.lo.v, c.hi.i, nq c.hi.v⟩
def rvOf (r : Lr) : RV := ⟨r.nm, r.lo.i, nq r.lo.v, r.hi.i, nq r.hi.v, (List.range r.tk).map (fun p => (r.col p, nq (r.T p)))⟩
theorem range_at {α : Type} {f : Nat → α} {n j : Nat} {v : α} (h : ((List.range n).map f)[j]? = some v) : j < n ∧ v = f j := by
  have hlt : j < n := by have := (List.getElem?_eq_some_iff.1 h).1; simpa using this
  simp [hlt] at h
  exact ⟨hlt, h.symm⟩
theorem range_get {α : Type} {f : Nat → α} {n j : Nat} (h : j < n) : ((List.range n).map f)[j]? = some (f j) := by simp [h]
theorem bd_of {w : World} {a b : Ex} {K : Nat} (ha : NmS w a.v) (hb : NmS w b.v) (ka : a.v.n ≤ K ∧ a.v.m ≤ K) (kb : b.v.n ≤ K ∧ b.v.m ≤ K) (h : abB a b = true) : NmV K w a.v (nq a.v) ∧ NmV K w b.v (nq b.v) ∧ bdB a.i (nq a.v) b.i (nq b.v) = true := by
  obtain ⟨f1, f2, h1, h2⟩ := abB_ok h
  simp only [exF, efB, Bool.and_eq_true, Bool.or_eq_true, decide_eq_true_eq] at f1 f2
  have v1 : NmV K w a.v (nq a.v) := ha.val f1.1 ka
  have v2 : NmV K w b.v (nq b.v) := hb.val f2.1 kb
  refine ⟨v1, v2, ?_⟩
  simp only [bdB, Bool.and_eq_true, Bool.or_eq_true, decide_eq_true_eq]
  constructor
  · rcases f1.2 with h | ⟨h | h, h3⟩
    · exact .inl h
    · exact .inr ⟨h, (Rn.q_zero v1).2 h3⟩
    · exact absurd h h1
  · rcases f2.2 with h | ⟨h | h, h3⟩
    · exact .inl h
    · exact absurd h h2
    · exact .inr ⟨h, (Rn.q_zero v2).2 h3⟩
theorem ts_of {w : World} {col : Nat → Int} {T : Nat → Nm} {n K : Nat} : ∀ {r i : Nat} {last : Int}, tfr col T r i last = true → (∀ p, i ≤ p → p < i + r → col p < (n : Int)) → (∀ p, i ≤ p → p < i + r → NmV K w (T p) (nq (T p))) → tsB n last ((List.range' i r).map (fun p => (col p, nq (T p)))) = true
  | 0, i, last, _, _, _ => rfl
  | r + 1, i, last, h, hc, hv => by
    simp only [tfr, Bool.and_eq_true, decide_eq_true_eq] at h
    rw [List.range'_succ, List.map_cons]
    simp only [tsB, Bool.and_eq_true, decide_eq_true_eq]
    refine ⟨h.1, hc i (by omega) (by omega), fun e => ?_, ts_of h.2.2.2 (fun p a b => hc p (by omega) (by omega)) (fun p a b => hv p (by omega) (by omega))⟩
    have := (Rn.q_zero (hv i (by omega) (by omega))).1 e
    omega
/-- A model that is well formed, by its values. -/
theorem MoR.mov {w M K} (h : MoR w M) (hk : MoK K M) (he : chkE M = 0) : ∃ q cs rs, MoV K w M q cs rs ∧ mvOk cs rs = true := by
  obtain ⟨l1, l2, hF, n1, n2, t1, t2, hAl⟩ := chkE_ok he
  simp only [moF, Bool.and_eq_true] at hF
  obtain ⟨hF0, hFC, hFR⟩ := hF
  have hcol : ∀ j, j < M.ck → ColV K w (M.C j) (cvOf (M.C j)) ∧ bdB (cvOf (M.C j)).li (cvOf (M.C j)).lq (cvOf (M.C j)).hi (cvOf (M.C j)).hq = true := fun j hj => by
    obtain ⟨_, _, _, _, hn⟩ := h.cls j hj
    obtain ⟨f1, f2⟩ := clsB_at hFC j (by omega) (by omega)
    have k := hk.c j hj
    obtain ⟨v1, v2, hb⟩ := bd_of hn.lo hn.hi k.2.1 k.2.2 f2
    exact ⟨⟨rfl, hn.cost.val f1 k.1, rfl, v1, rfl, v2⟩, hb⟩
  have hrow : ∀ j, j < M.rk → RowV K w (M.R j) (rvOf (M.R j)) ∧ bdB (rvOf (M.R j)).li (rvOf (M.R j)).lq (rvOf (M.R j)).hi (rvOf (M.R j)).hq = true ∧ tsB M.ck (-1) (rvOf (M.R j)).ts = true := fun j hj => by
    obtain ⟨_, _, _, _, hn⟩ := h.rls j hj
    obtain ⟨f1, f2⟩ := rlsB_at hFR j (by omega) (by omega)
    have k := hk.r j hj
    obtain ⟨v1, v2, hb⟩ := bd_of hn.lo hn.hi k.1 k.2.1 f1
    have hall := (tfr_all f2).1
    have hv : ∀ p, p < (M.R j).tk → NmV K w ((M.R j).T p) (nq ((M.R j).T p)) := fun p hp => by
      obtain ⟨_, _, _, _, hr⟩ := hn.tl p hp
      exact NmS.val hr (hall p (by omega) (by omega)).2.1 (k.2.2.2 p hp)
    refine ⟨⟨rfl, rfl, v1, rfl, v2, by simp [rvOf], fun p z q e => ?_⟩, hb, ?_⟩
    · obtain ⟨hp, e'⟩ := range_at e
      obtain ⟨b, o, ea, c4, _⟩ := hn.tl p hp
      cases e'
      exact ⟨rfl, hv p hp, b, o, ea, c4⟩
    · show tsB M.ck (-1) ((List.range (M.R j).tk).map _) = true
      rw [List.range_eq_range']
      exact ts_of f2 (fun p _ hp => (cols_at f2 (alB_at hAl j (by omega) (by omega)) p (by omega)).2) (fun p _ hp => hv p (by omega))
  refine ⟨nq M.off, (List.range M.ck).map (fun j => cvOf (M.C j)), (List.range M.rk).map (fun j => rvOf (M.R j)), ⟨h.off.val hF0 hk.off, by simp, by simp, fun j v e => ?_, fun j v e => ?_⟩, ?_⟩
  · obtain ⟨hj, rfl⟩ := range_at e
    obtain ⟨b, o, ea, hc, _⟩ := h.cls j hj
    exact ⟨⟨b, o, ea, hc⟩, (hcol j hj).1⟩
  · obtain ⟨hj, rfl⟩ := range_at e
    obtain ⟨b, o, ea, hc, _⟩ := h.rls j hj
    exact ⟨⟨b, o, ea, hc⟩, (hrow j hj).1⟩
  · have ec : ∀ j, j < M.ck → nmC ((List.range M.ck).map (fun j => cvOf (M.C j))) j = (M.C j).nm := fun j hj => by unfold nmC; rw [range_get hj]; rfl
    have er : ∀ j, j < M.rk → nmR ((List.range M.rk).map (fun j => rvOf (M.R j))) j = (M.R j).nm := fun j hj => by unfold nmR; rw [range_get hj]; rfl
    simp only [mvOk, Bool.and_eq_true, decide_eq_true_eq, List.all_eq_true, List.length_map, List.length_range, Bool.not_eq_true']
    refine ⟨l1, l2, fun v hv => ?_, fun v hv => ?_, ?_, ?_, ?_, ?_⟩
    · obtain ⟨j, hj, rfl⟩ := List.mem_map.1 hv
      exact (hcol j (List.mem_range.1 hj)).2
    · obtain ⟨j, hj, rfl⟩ := List.mem_map.1 hv
      have := hrow j (List.mem_range.1 hj)
      refine ⟨this.2.1, this.2.2, ?_⟩
      have h3 := (hk.r j (List.mem_range.1 hj)).2.2.1
      simp [rvOf]; omega
    · rw [nms_congr (S' := fun j => (M.C j).nm) (fun j _ hj => ec j (by omega))]; exact n1
    · rw [nms_congr (S' := fun j => (M.R j).nm) (fun j _ hj => er j (by omega))]; exact n2
    · rw [twr_congr (S' := fun j => (M.C j).nm) (fun j hj => ec j (by omega))]; exact t1
    · rw [twr_congr (S' := fun j => (M.R j).nm) (fun j hj => er j (by omega))]; exact t2
theorem FnT.of {K w} {e : Ex} {i : Int} {q : Rat} (h : QnT K w e.v q) (hi : e.i = i) (hb : i = 0 ∨ (i = -1 ∨ i = 1) ∧ q = 0) : Fn w e.i e.v.s e.v.x e.v.n e.v.f e.v.y e.v.m e.v.g q := ⟨h.2.2, by rw [hi]; exact hb⟩

end Go.Proofs.YtbmfcogfgdggkaaGreat
namespace Go.Proofs.YtbmfcogfgdggkaaGreat
open Go.RowKit

theorem qZero_c (w : World) : Calls Tryz.prog 66 #[] w fun e w' => QAns 2 w w' e 0 := by
  have h2 := ob_new w 68
  have h3 := below_alloc (Below.refl w.heap.size w) (.cells #[.bool false, .slice none 0 0, .slice none 0 0] 68)
  go_enter Tryz.func66, Tryz.ntmps66
  go_wp2_with fail
  generalize w.alloc (.cells #[.bool false, .slice none 0 0, .slice none 0 0] 68) = w1 at *
  have OB := hid h2; have HW := hid h3
  clear h2 h3
  refine (qInt_c (z := 0) (by decide) (by decide)).mono ?_
  rintro e w2 ⟨s2, x2, n2, c2, d2, y2, m2, e2, g2, rfl, hb, hl1, hl2, hq⟩
  have HB2 := hid hb; have HQ := hid hq; have L1 := hid hl1; have L2 := hid hl2
  clear hb hq hl1 hl2
  obtain ⟨hz, z0, z1, z2, zf⟩ := OB.out.below HB2.out
  go_wp2
  exact bodyPost_ret (v := .agg #[.bool s2, .slice x2 n2 c2, .slice y2 m2 e2]) (by simp [results, Tryz.results66, go_sem, z0, z1, z2]) rfl ⟨s2, x2, n2, c2, d2, y2, m2, e2, g2, rfl, below_st (HW.out.trans (HB2.out.mono HW.out.size)) (by omega), L1.out, L2.out, (OB.out.below HB2.out).qn HQ.out⟩

set_option maxRecDepth 100000 in
set_option maxHeartbeats 4000000 in
theorem fAt_c {w : World} {K : Nat} {ao : Option Addr} {k cap : Nat} {z : Int} {v : List (Int × Rat)} (h : Tq K w ao v) (lv : v.length = k) (hk : k ≤ 10000) (hK : 2 ≤ K) :
    Calls Tryz.prog 30 #[.slice ao k cap, .int .i64 z] w fun e w' => QAns K w w' e (atq z v) := by
  have TV := hid h
  have h2 := ob_new w 68
  have h3 := below_alloc (Below.refl w.heap.size w) (.cells #[.bool false, .slice none 0 0, .slice none 0 0] 68)
  clear h
  go_enter Tryz.func30, Tryz.ntmps30
  go_wp2_with fail
  generalize w.alloc (.cells #[.bool false, .slice none 0 0, .slice none 0 0] 68) = w0 at *
  have OB1 := hid h2; have HB1 := hid h3
  clear h2 h3
  go_loopw [9] (fun t wr => ∃ (i : Nat), i ≤ k ∧ t = .int .i64 i ∧ Hid (Below w.heap.size w wr) ∧ Hid (Ob wr w.heap.size) ∧ Hid (atq z (v.drop i) = atq z v)) (fun t _ => k - (intOf t).toNat)
  case atStart => exact ⟨0, by omega, rfl, HB1, OB1, rfl⟩
  case round =>
    clear HB1 OB1
    obtain ⟨i, hi, rfl, HB, HO, HE⟩ := hrel
    by_cases hlt : i < k
    · obtain ⟨⟨a, q⟩, haq⟩ : ∃ t, v[i]? = some t := ⟨_, List.getElem?_eq_getElem (by omega)⟩
      obtain ⟨b, o, ⟨ts, tx, tn, tc, tf, ty, tm, td, tg⟩, hav, hc, hr⟩ := (TV.out.below HB.out) i a q haq
      have hav2 := hav
      subst hav2
      obtain ⟨x0, x1, x2, x3⟩ := hc
      replace x0 : wr.cell? ⟨b, o + i * 4, none⟩ = some (.int .i64 a) := x0
      replace x1 : wr.cell? ⟨b, o + i * 4 + 1, none⟩ = some (.bool ts) := x1
      replace x2 : wr.cell? ⟨b, o + i * 4 + 2, none⟩ = some (.slice tx tn tc) := x2
      replace x3 : wr.cell? ⟨b, o + i * 4 + 3, none⟩ = some (.slice ty tm td) := x3
      have HR1 : Hid (tn ≤ K ∧ tm ≤ K ∧ Qn wr ts tx tn tf ty tm tg q) := hr
      have i2 : ((i : Nat) : Int) < ((k : Nat) : Int) := by omega
      have HD : Hid ((if a = z then q else atq z (v.drop (i + 1))) = atq z v) := by
        show _ = _
        have e1 : v.drop i = (a, q) :: v.drop (i + 1) := by
          have hl : i < v.length := by omega
          have : v[i] = (a, q) := by rw [List.getElem?_eq_getElem hl] at haq; exact Option.some.inj haq
          rw [← this]; exact List.drop_eq_getElem_cons hl
        rw [← HE.out, e1]; rfl
      have hw := below_alloc (Below.refl wr.heap.size wr) (.cells #[.int .i64 a, .bool ts, .slice tx tn tc, .slice ty tm td] 118)
      have HB5 := hid (HB.out.trans (hw.mono HB.out.size)); have HO5 := hid (HO.out.below hw); have HR5 := hid (HR1.out.2.2.below hw)
      have hl1 := HR1.out.1; have hl2 := HR1.out.2.1
      obtain ⟨hz, z0, z1, z2, zf⟩ := HO.out.below hw
      clear hr haq hav HE hw HR1
      by_cases haz : a = z
      · subst haz
        have HD2 : Hid (q = atq a v) := by have h := HD.out; rw [if_pos rfl] at h; exact h
        have haa : (a == a) = true := by simp
        clear HD HB HO
        go_wp2
        exact bodyPost_ret (v := .agg #[.bool ts, .slice tx tn tc, .slice ty tm td]) (by simp [results, Tryz.results30, go_sem, z0, z1, z2]) rfl ⟨ts, tx, tn, tc, tf, ty, tm, td, tg, rfl, below_st HB5.out (by omega), hl1, hl2, by rw [← HD2.out]; exact HO5.out.qn HR5.out⟩
      · have HD2 : Hid (atq z (v.drop (i + 1)) = atq z v) := by have h := HD.out; rw [if_neg haz] at h; exact h
        have hazb : (a == z) = false := by simp [haz]
        clear HD HB HO HR5 hz z0 z1 z2 zf
        go_wp2
        go_roundw
        case rel => exact ⟨i + 1, by omega, by go_num, HB5.out, HO5.out, HD2.out⟩
        case measure => simp [intOf]; omega
    · have e1 : i = k := by omega
      have HF0 : Hid ((0 : Rat) = atq z v) := by
        show _ = _
        rw [← HE.out, e1, ← lv, List.drop_length]; rfl
      have i2 : ¬ (((i : Nat) : Int) < ((k : Nat) : Int)) := by omega
      clear e1 HE
      go_wp2_with fail
      refine (qZero_c _).mono ?_
      rintro e w6 ⟨s, x, n, c, d, y, m, e', g, rfl, hb6, hl1, hl2, hq⟩
      have HB6 := hid (HB.out.trans (hb6.mono HB.out.size)); have HO6 := hid (HO.out.below hb6); have HQ := hid hq
      obtain ⟨hz, z0, z1, z2, zf⟩ := HO.out.below hb6
      clear hb6 hq HB HO
      go_wp2
      exact bodyPost_ret (v := .agg #[.bool s, .slice x n c, .slice y m e']) (by simp [results, Tryz.results30, go_sem, z0, z1, z2]) rfl ⟨s, x, n, c, d, y, m, e', g, rfl, below_st HB6.out (by omega), by omega, by omega, by rw [← HF0.out]; exact HO6.out.qn HQ.out⟩

end Go.Proofs.YtbmfcogfgdggkaaGreat
namespace Go.Proofs.YtbmfcogfgdggkaaGreat
open Go.RowKit

/-- A column's entries in the rows below i. -/
def clq (rs : List RV) (c : Int) : Nat → List (Int × Rat)
  | 0 => []
  | i + 1 => clq rs c i ++ nz (i : Int) ((rs[i]?.map (fun v => atq c v.ts)).getD 0)

end Go.Proofs.YtbmfcogfgdggkaaGreat
namespace Go.Proofs.YtbmfcogfgdggkaaGreat
open Go.RowKit

end Go.Proofs.YtbmfcogfgdggkaaGreat
namespace Go.Proofs.YtbmfcogfgdggkaaGreat
open Go.RowKit

theorem Tf.of {L w w' ao v} (h : Tf L w ao v) (hb : v ≠ [] → ∀ b o s, ao = some ⟨b, o, s⟩ → w'.heap[b]? = w.heap[b]?) (hk : Kp w w') : Tf L w' ao v := fun j a q hj => by
  obtain ⟨b, o, t, e, ⟨c0, c1, c2, c3⟩, h2⟩ := h j a q hj
  have := hb (fun e => by rw [e] at hj; simp at hj) b o none e
  exact ⟨b, o, t, e, ⟨(World.cell?_of_block (a := ⟨b, o + j * 4, none⟩) this).trans c0, (World.cell?_of_block (a := ⟨b, o + j * 4 + 1, none⟩) this).trans c1, (World.cell?_of_block (a := ⟨b, o + j * 4 + 2, none⟩) this).trans c2, (World.cell?_of_block (a := ⟨b, o + j * 4 + 3, none⟩) this).trans c3⟩, h2.kp hk⟩
theorem Tf.lt {L w ao v} (h : Tf L w ao v) (hv : v ≠ []) : ∀ b o s, ao = some ⟨b, o, s⟩ → b < w.heap.size := fun b o s e => by
  obtain ⟨⟨a, q⟩, r, rfl⟩ : ∃ x r, v = x :: r := by cases v with | nil => exact absurd rfl hv | cons x r => exact ⟨x, r, rfl⟩
  obtain ⟨b', o', t, e', h4, _⟩ := h 0 a q rfl
  rw [e] at e'; cases e'
  exact World.block_lt_of_cell? w _ h4.x0
theorem clq_len (rs : List RV) (c : Int) : ∀ i, (clq rs c i).length ≤ i
  | 0 => Nat.le_refl _
  | i + 1 => by
    have := clq_len rs c i
    unfold clq
    rw [List.length_append]
    have : ∀ q : Rat, (nz (i : Int) q).length ≤ 1 := fun q => by unfold nz; split <;> simp
    have := this ((rs[i]?.map (fun v => atq c v.ts)).getD 0)
    omega
end Go.Proofs.YtbmfcogfgdggkaaGreat
namespace Go.Proofs.YtbmfcogfgdggkaaGreat
open Go.RowKit

end Go.Proofs.YtbmfcogfgdggkaaGreat
namespace Go.Proofs.YtbmfcogfgdggkaaGreat
open Go.RowKit

/-- Terms as they lie, by their values. -/
def Tvm (L : Nat) (w : World) (l : List (Int × Nm)) (vs : List (Int × Rat)) : Prop := l.length = vs.length ∧ ∀ (j : Nat) (a : Int) (q : Rat), vs[j]? = some (a, q) → ∃ t : Nm, l[j]? = some (a, t) ∧ NmV L w t q
theorem Tvm.nil {L w} : Tvm L w [] [] := ⟨rfl, fun j a q hj => by simp at hj⟩
theorem Tvm.one {L w a t q} (h : NmV L w t q) : Tvm L w [(a, t)] [(a, q)] := ⟨rfl, fun j b p hj => by
  match j, hj with
  | 0, hj => obtain ⟨rfl, rfl⟩ : a = b ∧ q = p := by simpa using hj
             exact ⟨t, rfl, h⟩
  | j + 1, hj => simp at hj⟩
theorem Tvm.app {L w l vs l' vs'} (h : Tvm L w l vs) (h' : Tvm L w l' vs') : Tvm L w (l ++ l') (vs ++ vs') := by
  refine ⟨by simp [h.1, h'.1], fun j a q hj => ?_⟩
  by_cases hlt : j < vs.length
  · rw [List.getElem?_append_left hlt] at hj
    obtain ⟨t, h1, h2⟩ := h.2 j a q hj
    exact ⟨t, by rw [List.getElem?_append_left (by rw [h.1]; exact hlt)]; exact h1, h2⟩
  · rw [List.getElem?_append_right (by omega)] at hj
    obtain ⟨t, h1, h2⟩ := h'.2 _ a q hj
    exact ⟨t, by rw [List.getElem?_append_right (by rw [h.1]; omega), h.1]; exact h1, h2⟩
theorem ts_rise {n : Nat} : ∀ {ts : List (Int × Rat)} {last : Int}, tsB n last ts = true → (∀ (k : Nat) (b : Int) (q : Rat), ts[k]? = some (b, q) → last < b ∧ q ≠ 0) ∧ ∀ (j k : Nat) (a b : Int) (p q : Rat), j < k → ts[j]? = some (a, p) → ts[k]? = some (b, q) → a < b
  | [], last, _ => ⟨fun k b q h => by simp at h, fun j k a b p q _ h => by simp at h⟩
  | (z, r) :: ts, last, h => by
    simp only [tsB, Bool.and_eq_true, decide_eq_true_eq] at h
    obtain ⟨h1, _, h3, h4⟩ := h
    obtain ⟨i1, i2⟩ := ts_rise h4
    constructor
    · intro k b q hk
      cases k with
      | zero => obtain ⟨rfl, rfl⟩ : z = b ∧ r = q := by simpa using hk
                exact ⟨h1, h3⟩
      | succ k => have hk' : ts[k]? = some (b, q) := by simpa using hk
                  have := i1 k b q hk'
                  exact ⟨by omega, this.2⟩
    · intro j k a b p q hjk hj hk
      cases k with
      | zero => omega
      | succ k =>
        have hk' : ts[k]? = some (b, q) := by simpa using hk
        cases j with
        | zero => obtain ⟨rfl, rfl⟩ : z = a ∧ r = p := by simpa using hj
                  exact (i1 k b q hk').1
        | succ j => exact i2 j k a b p q (by omega) (by simpa using hj) hk'
theorem atq_none {z : Int} : ∀ {u : List (Int × Rat)}, (∀ (k : Nat) (b : Int) (r : Rat), u[k]? = some (b, r) → b ≠ z) → atq z u = 0
  | [], _ => rfl
  | (a, q) :: u, h => by
    show (if a = z then q else atq z u) = 0
    rw [if_neg (h 0 a q rfl)]
    exact atq_none (fun k b r hk => h (k + 1) b r (by simpa using hk))
theorem ent_tvm {L w} {n : Nat} {col : Nat → Int} {T : Nat → Nm} {j i : Nat} {ts : List (Int × Rat)} (hs : tsB n (-1) ts = true) (hv : ∀ p z q, ts[p]? = some (z, q) → col p = z ∧ NmV L w (T p) q) : ∀ {p : Nat}, p ≤ ts.length → Tvm L w (ent col T j i p) (nz (i : Int) (atq (j : Int) (ts.take p)))
  | 0, _ => by simp [ent, atq, nz]; exact Tvm.nil
  | p + 1, hp => by
    obtain ⟨r1, r2⟩ := ts_rise hs
    have ih := ent_tvm hs hv (j := j) (i := i) (p := p) (by omega)
    obtain ⟨⟨z, q⟩, hz⟩ : ∃ x, ts[p]? = some x := ⟨_, List.getElem?_eq_getElem (by omega)⟩
    obtain ⟨hc, hn⟩ := hv p z q hz
    have hq := (r1 p z q hz).2
    have hne : ∀ (k : Nat) (b : Int) (r : Rat), (ts.take p)[k]? = some (b, r) → b ≠ z := fun k b r hk => by
      have hkp : k < p := by
        have h1 := (List.getElem?_eq_some_iff.1 hk).1
        rw [List.length_take] at h1; omega
      rw [List.getElem?_take_of_lt hkp] at hk
      have := r2 k p b z r q hkp hk hz
      omega
    rw [List.take_add_one, hz]
    show Tvm L w (ent col T j i (p + 1)) (nz (i : Int) (atq (j : Int) (ts.take p ++ [(z, q)])))
    rw [atq_snoc hne]
    by_cases e : (j : Int) = z
    · rw [if_pos e, ent_yes (by rw [hc, e])]
      have h0 : atq (j : Int) (ts.take p) = 0 := atq_none (fun k b r hk h => hne k b r hk (h.trans e))
      rw [h0] at ih
      have e1 : ent col T j i p = [] := by
        have := ih.1
        simp [nz] at this
        exact this
      rw [e1]
      unfold nz
      rw [if_neg hq]
      exact Tvm.one hn
    · rw [if_neg e, ent_no (by rw [hc]; exact fun h => e h.symm)]
      exact ih
theorem cent_tvm {L w} {n j : Nat} {cl : Nat → Nat → Int} {tk : Nat → Nat} {T : Nat → Nat → Nm} {rs : List RV} (h : ∀ (i : Nat) (v : RV), rs[i]? = some v → tsB n (-1) v.ts = true ∧ tk i = v.ts.length ∧ ∀ p z q, v.ts[p]? = some (z, q) → cl i p = z ∧ NmV L w (T i p) q) : ∀ {i : Nat}, i ≤ rs.length → Tvm L w (cent cl tk T j i) (clq rs (j : Int) i)
  | 0, _ => Tvm.nil
  | i + 1, hi => by
    obtain ⟨v, hv⟩ : ∃ x, rs[i]? = some x := ⟨_, List.getElem?_eq_getElem (by omega)⟩
    obtain ⟨h1, h2, h3⟩ := h i v hv
    have := ent_tvm (j := j) (i := i) h1 h3 (p := v.ts.length) (Nat.le_refl _)
    rw [List.take_length] at this
    show Tvm L w (cent cl tk T j i ++ ent (cl i) (T i) j i (tk i)) (clq rs (j : Int) i ++ nz (i : Int) ((rs[i]?.map (fun v => atq (j : Int) v.ts)).getD 0))
    rw [hv, h2]
    exact (cent_tvm h (i := i) (by omega)).app this
theorem tvm_tf {L : Nat} {base : Nat} {w : World} {ao : Option Addr} {cap : Nat} {l : List (Int × Nm)} {vs : List (Int × Rat)} (h : Tvm L w l vs) (hr : RowG 62 4 base w (.slice ao l.length cap) l.length (tcells l)) : Tf L w ao vs := fun j a q hj => by
  obtain ⟨t, h1, h2⟩ := h.2 j a q hj
  have hlt : j < l.length := (List.getElem?_eq_some_iff.1 h1).1
  rcases hr.2 with ⟨hv, h0⟩ | ⟨g, cap', cur, hv, _⟩
  · omega
  · cases hv
    have hc : ∀ i, i < 4 → w.cell? ⟨g, 0 + j * 4 + i, none⟩ = (tcell a t)[i]? := fun i hi => by
      rw [Nat.zero_add]
      have e1 := tcells_get h1 i hi
      obtain ⟨u, hu⟩ : ∃ u, (tcell a t)[i]? = some u := ⟨_, List.getElem?_eq_getElem (by show i < 4; exact hi)⟩
      rw [hu] at e1 ⊢
      exact hr.cells e1
    exact ⟨g, 0, t, rfl, ⟨hc 0 (by decide), hc 1 (by decide), hc 2 (by decide), hc 3 (by decide)⟩, h2⟩
end Go.Proofs.YtbmfcogfgdggkaaGreat
namespace Go.Proofs.YtbmfcogfgdggkaaGreat
open Go.RowKit

/-- The zero model is not in form. -/
theorem checkZ_c {w : World} : Calls Tryz.prog 14 #[.agg #[.bool false, .slice none 0 0, .slice none 0 0, .slice none 0 0, .slice none 0 0]] w fun e w' => e = .returned (.int .i64 3) ∧ Below w.heap.size w w' := by
  have h : MoR w ⟨⟨false, none, 0, 0, fun _ => 0, none, 0, 0, fun _ => 0⟩, none, 0, 0, fun _ => ⟨ByteArray.empty, ⟨false, none, 0, 0, fun _ => 0, none, 0, 0, fun _ => 0⟩, ⟨0, ⟨false, none, 0, 0, fun _ => 0, none, 0, 0, fun _ => 0⟩⟩, ⟨0, ⟨false, none, 0, 0, fun _ => 0, none, 0, 0, fun _ => 0⟩⟩⟩, none, 0, 0, fun _ => ⟨ByteArray.empty, ⟨0, ⟨false, none, 0, 0, fun _ => 0, none, 0, 0, fun _ => 0⟩⟩, ⟨0, ⟨false, none, 0, 0, fun _ => 0, none, 0, 0, fun _ => 0⟩⟩, none, 0, 0, fun _ => 0, fun _ => ⟨false, none, 0, 0, fun _ => 0, none, 0, 0, fun _ => 0⟩⟩⟩ := ⟨⟨⟨fun j hj => absurd hj (Nat.not_lt_zero _), fun j hj => absurd hj (Nat.not_lt_zero _), ⟨Nat.le_refl _, Nat.zero_le _⟩, fun _ => ⟨rfl, rfl⟩, fun j hj => absurd hj (Nat.not_lt_zero _), fun j hj => absurd hj (Nat.not_lt_zero _), ⟨Nat.le_refl _, Nat.zero_le _⟩, fun _ => ⟨rfl, rfl⟩⟩, Nat.zero_le _, Nat.zero_le _⟩, fun j hj => absurd hj (Nat.not_lt_zero _), fun j hj => absurd hj (Nat.not_lt_zero _), Nat.zero_le _, Nat.zero_le _⟩
  exact check_c h
/-- One of the lists of such a list. -/
theorem Co.two {base w g V E X} (h : Co base w g 2 V E X) (he : (E 1).map Prod.fst = [0, 1]) : ∃ g' cap, V 1 = .slice (some ⟨g', 0, none⟩) 2 cap ∧ w.cell? ⟨g', 4, none⟩ = some (.int .i64 1) ∧ w.cell? ⟨g, 1, none⟩ = some (.slice (some ⟨g', 0, none⟩) 2 cap) := by
  have h1 := h.row 1 (by decide)
  have h2 := h.cell (j := 1) (by decide)
  match hE : E 1, he with
  | [(a0, t0), (a1, t1)], he =>
    simp at he
    obtain ⟨rfl, rfl⟩ := he
    rw [hE] at h1
    rcases h1.2 with ⟨_, h0⟩ | ⟨g', cap, cur, hv, _⟩
    · simp at h0
    · rw [hv] at h1 h2 ⊢
      exact ⟨g', cap, rfl, h1.cells (j := 4) rfl, h2⟩

set_option maxRecDepth 100000 in
set_option maxHeartbeats 8000000 in
theorem awake7_c {w : World} : Calls Tryz.prog 9 #[] w fun e w' => e = .returned (.bool true) ∧ Below w.heap.size w w' := by
  have hok : mvOk smC smR = true := by kernel_rfl
  have hts : ∀ v, v ∈ smR → v.ts.length ≤ 1000 := by intro v hv; simp [smR] at hv; rcases hv with rfl | rfl <;> simp
  have hcr : (crl (cvC smC) smC.length).length = 1 ∧ (crl (cvR smR) smR.length).length = 0 := by constructor <;> kernel_rfl
  have hrw : plc (idx (nmR smR) ⟨#[115]⟩ smR.length 0) = (1, 0) := by kernel_rfl
  have hrv : rvC smR 1 2 = [0, 1] := by kernel_rfl
  go_enter Tryz.func9, Tryz.ntmps9
  go_wp2_with fail
  refine small7_c.mono ?_
  rintro e w1 ⟨M, rfl, hb1, hM⟩
  have HB1 := hid hb1
  obtain ⟨k0, hR⟩ := hM.chk (by decide) hok
  have CC := hid (columns_c (w := w1) (M := M) (fun _ _ => hR) (fun _ _ => hM.mot (by decide) hts))
  have h2 : M.ck = 2 := hM.ck
  have h3 : M.rk = 2 := hM.rk
  have HE := hid (fun T => (hM.cent (T := T) (j := 1) (i := 2) (by rw [h3]; exact Nat.le_refl _)).trans hrv)
  unfold CoAns at CC
  rw [h2, h3] at CC
  obtain ⟨⟨s1, x1, n1, c1, f1, y1, m1, d1, g1⟩, ca1, ck1, cc1, C1, ra1, rk1, rc1, R1⟩ := M
  replace CC : Hid (Calls Tryz.prog 17 #[.agg #[.bool s1, .slice x1 n1 c1, .slice y1 m1 d1, .slice ca1 ck1 cc1, .slice ra1 rk1 rc1]] w1 fun e w' => (chkE ⟨⟨s1, x1, n1, c1, f1, y1, m1, d1, g1⟩, ca1, ck1, cc1, C1, ra1, rk1, rc1, R1⟩ ≠ 0 ∧ e = .returned (.tuple #[.slice none 0 0, .int .i64 (chkE ⟨⟨s1, x1, n1, c1, f1, y1, m1, d1, g1⟩, ca1, ck1, cc1, C1, ra1, rk1, rc1, R1⟩)]) ∧ Below w1.heap.size w1 w') ∨ (chkE ⟨⟨s1, x1, n1, c1, f1, y1, m1, d1, g1⟩, ca1, ck1, cc1, C1, ra1, rk1, rc1, R1⟩ = 0 ∧ ∃ g T' V, e = .returned (.tuple #[.slice (some ⟨g, 0, none⟩) 2 2, .int .i64 0]) ∧ Below w1.heap.size w1 w' ∧ Co w1.heap.size w' g 2 V (fun j => cent (fun i => (R1 i).col) (fun i => (R1 i).tk) T' j 2) (fun _ => False) ∧ ∀ i, i < 2 → ∀ p, p < (R1 i).tk → Sn ((R1 i).T p) (T' i p) ∧ Rw w' (T' i p).x (T' i p).n (T' i p).c (T' i p).f (T' i p).y (T' i p).m (T' i p).d (T' i p).g)) := CC
  replace HE : Hid (∀ T, (cent (fun i => (R1 i).col) (fun i => (R1 i).tk) T 1 2).map Prod.fst = [0, 1]) := HE
  have HK0 := hid k0
  clear hb1 hM hR h2 h3 k0 hrv
  go_wp2_with fail
  refine CC.out.mono ?_
  rintro e w2 (⟨hne, _⟩ | ⟨_, g, T', V, rfl, hb2, hco, _⟩)
  · exact absurd HK0.out hne
  obtain ⟨gi, ci, _, q1, q2⟩ := hco.two (HE.out T')
  have HB2 := hid (HB1.out.trans (hb2.mono HB1.out.size))
  clear HB1 hb2 hco CC HK0 HE
  go_wp2_with fail
  refine small7_c.mono ?_
  rintro e w3 ⟨M, rfl, hb3, hM⟩
  replace q1 := kCb hb3 q1; replace q2 := kCb hb3 q2
  have HB3 := hid (HB2.out.trans (hb3.mono HB2.out.size))
  obtain ⟨k0, hR⟩ := hM.chk (by decide) hok
  have CC := hid (crossed_c (w := w3) (M := M) (fun _ _ => hR) (fun _ _ => hM.mob (by decide)))
  unfold CrAns at CC
  rw [hM.crl.1, hM.crl.2, hcr.1, hcr.2] at CC
  have HK0 := hid k0
  clear hb3 hM hR HB2 hcr k0
  go_wp2_with fail
  refine CC.out.mono ?_
  rintro e w4 (⟨hne, _⟩ | ⟨_, xa, xc, ya, yc, rfl, hb4, _, _⟩)
  · exact absurd HK0.out hne
  replace q1 := kCb hb4 q1; replace q2 := kCb hb4 q2
  have HB4 := hid (HB3.out.trans (hb4.mono HB3.out.size))
  clear HB3 hb4 CC HK0
  go_wp2_with fail
  refine small7_c.mono ?_
  rintro e w5 ⟨M5, rfl, hb5, hM⟩
  replace q1 := kCb hb5 q1; replace q2 := kCb hb5 q2
  have HB5 := hid (HB4.out.trans (hb5.mono HB4.out.size))
  obtain ⟨k0, hR⟩ := hM.chk (by decide) hok
  have CC := hid (mRow_c (w := w5) (M := M5) (z := ⟨#[115]⟩) (fun _ _ => hR))
  rw [hM.row k0, hrw] at CC
  clear hb5 hM hR HB4 k0 hrw
  go_wp2_with fail
  refine CC.out.mono ?_
  rintro e w6 ⟨rfl, hb6⟩
  replace q1 := kCb hb6 q1; replace q2 := kCb hb6 q2
  have HB6 := hid (HB5.out.trans (hb6.mono HB5.out.size))
  clear HB5 hb6 CC
  go_wp2_with fail
  refine small7_c.mono ?_
  rintro e w7 ⟨M7, rfl, hb7, hM7⟩
  replace q1 := kCb hb7 q1; replace q2 := kCb hb7 q2
  have HB7 := hid (HB6.out.trans (hb7.mono HB6.out.size))
  have HM7 := hid hM7
  clear HB6 hb7 hM7
  go_wp2_with fail
  refine small7_c.mono ?_
  rintro e w8 ⟨M8, rfl, hb8, hM8⟩
  replace q1 := kCb hb8 q1; replace q2 := kCb hb8 q2
  have HB8 := hid (HB7.out.trans (hb8.mono HB7.out.size))
  have hM7 := HM7.out.below hb8
  obtain ⟨k7, hR7⟩ := hM7.chk (by decide) hok
  obtain ⟨k8, hR8⟩ := hM8.chk (by decide) hok
  have CC := hid (equal_c (w := w8) (a := M7) (b := M8) (fun _ _ => hR7) (fun _ _ => hR8))
  rw [hM7.eqA hM8 k7 k8] at CC
  clear HB7 hb8 hM7 hM8 k7 k8 hR7 hR8 HM7
  go_wp2_with fail
  refine CC.out.mono ?_
  rintro e w9 ⟨rfl, hb9⟩
  replace q1 := kCb hb9 q1; replace q2 := kCb hb9 q2
  have HB9 := hid (HB8.out.trans (hb9.mono HB8.out.size))
  clear HB8 hb9 CC hok hts
  go_wp2_with fail
  refine checkZ_c.mono ?_
  rintro e w10 ⟨rfl, hb10⟩
  have HB10 := hid (HB9.out.trans (hb10.mono HB9.out.size))
  clear hb10 HB9 q1 q2
  go_wp2
  go_ret
  exact ⟨rfl, HB10.out⟩
end Go.Proofs.YtbmfcogfgdggkaaGreat
namespace Go.Proofs.YtbmfcogfgdggkaaGreat
open Go.RowKit

/-- What a law of models begins with: the parameter's box, and whether the model is light. -/
theorem twin_w {w : World} {M : Mo} {K : Nat} (hX : MoX w M) (hN : MoN M) (hk : M.ck ≤ 64 → M.rk ≤ 64 → MoK K M) (hK : K ≤ 65536) : Calls Tryz.prog 12 #[M.val] w fun e w' => ∃ M' : Mo, e = .returned M'.val ∧ Below w.heap.size w w' ∧ Sm M M' ∧ MoW w' M' ∧ MoX w' M' ∧ (M'.ck ≤ 64 → M'.rk ≤ 64 → MoK K M') :=
  (mTwin_c hX).mono fun e w' ⟨M', h1, h2, h3, h4⟩ => ⟨M', h1, h2, h3, fun a b => h4.mor (h3.mon hN) (h3.mok (hk (by rw [← h3.ck]; exact a) (by rw [← h3.rk]; exact b))) hK a b, h4, fun a b => h3.mok (hk (by rw [← h3.ck]; exact a) (by rw [← h3.rk]; exact b))⟩
theorem lgM_k {K : Nat} {M : Mo} (h : lgM K M = true) : M.ck ≤ 64 → M.rk ≤ 64 → MoK K M := fun a b => lgM_at h a b
theorem MoX.both {w M K} (h : MoX w M) (hn : MoN M) (hk : M.ck ≤ 64 → M.rk ≤ 64 → MoK K M) (hK : K ≤ 1000) : M.ck ≤ 64 → M.rk ≤ 64 → MoR w M ∧ MoS M := fun a b => ⟨h.mor hn (hk a b) (Nat.le_trans hK (by decide)) a b, (hk a b).mos hK⟩

end Go.Proofs.YtbmfcogfgdggkaaGreat
namespace Go.Proofs.YtbmfcogfgdggkaaGreat
open Go.RowKit

end Go.Proofs.YtbmfcogfgdggkaaGreat
namespace Go.Proofs.YtbmfcogfgdggkaaGreat
open Go.RowKit

theorem sq_congr {a b a' b' : Nm} (h : Sn a a') (k : Sn b b') : sqB a' b' = sqB a b := by
  obtain ⟨h1, h2, h3, h4, h5⟩ := h
  obtain ⟨k1, k2, k3, k4, k5⟩ := k
  unfold sqB
  rw [h1, h2, h3, h4, h5, k1, k2, k3, k4, k5]
theorem sx_congr {a b a' b' : Ex} (hi : a'.i = a.i) (h : Sn a.v a'.v) (ki : b'.i = b.i) (k : Sn b.v b'.v) : sxB a' b' = sxB a b := by
  unfold sxB; rw [hi, ki, sq_congr h k]
theorem eqf_congr {α : Type} {e : α → α → Bool} {X Y X' Y' : Nat → α} : ∀ {r i : Nat}, (∀ j, i ≤ j → j < i + r → e (X' j) (Y' j) = e (X j) (Y j)) → eqf e X' Y' r i = eqf e X Y r i
  | 0, _, _ => rfl
  | r + 1, i, h => by simp only [eqf]; rw [h i (by omega) (by omega), eqf_congr (fun j a b => h j (by omega) (by omega))]
theorem Sm.eqA {a b a' b' : Mo} (h : Sm a a') (k : Sm b b') : eqA a' b' = eqA a b := by
  unfold Go.Proofs.YtbmfcogfgdggkaaGreat.eqA
  rw [h.chk, k.chk, sq_congr h.off k.off]
  have e1 : eqfB scB a'.ck b'.ck a'.C b'.C = eqfB scB a.ck b.ck a.C b.C := by
    unfold eqfB
    rw [h.ck, k.ck]
    by_cases e : a.ck = b.ck
    · rw [eqf_congr (fun j _ hj => ?_)]
      have p := h.C j (by omega); have q := k.C j (by omega)
      unfold scB
      rw [p.nm, q.nm, sq_congr p.cost q.cost, sx_congr p.li p.lo q.li q.lo, sx_congr p.hi p.hv q.hi q.hv]
    · simp [e]
  have e2 : eqfB srB a'.rk b'.rk a'.R b'.R = eqfB srB a.rk b.rk a.R b.R := by
    unfold eqfB
    rw [h.rk, k.rk]
    by_cases e : a.rk = b.rk
    · rw [eqf_congr (fun j _ hj => ?_)]
      have p := h.R j (by omega); have q := k.R j (by omega)
      unfold srB eqfB
      rw [p.nm, q.nm, sx_congr p.li p.lo q.li q.lo, sx_congr p.hi p.hv q.hi q.hv, p.tk, q.tk]
      by_cases e3 : (a.R j).tk = (b.R j).tk
      · rw [eqf_congr (fun t _ ht => ?_)]
        exact sx_congr (a := tex (a.R j).col (a.R j).T t) (b := tex (b.R j).col (b.R j).T t) (by show (a'.R j).col t = _; rw [p.col]; rfl) (p.T t (by omega)) (by show (b'.R j).col t = _; rw [q.col]; rfl) (q.T t (by omega))
      · simp [e3]
    · simp [e]
  rw [e1, e2]

end Go.Proofs.YtbmfcogfgdggkaaGreat
namespace Go.Proofs.YtbmfcogfgdggkaaGreat
open Go.RowKit

theorem TN.kp {t v w w'} (h : TN t v w) (hb : Kp w w') : TN t v w' := by obtain ⟨t', h1, h2, h3⟩ := h; exact ⟨t', h1, h2, h3.kp hb⟩

end Go.Proofs.YtbmfcogfgdggkaaGreat
namespace Go.Proofs.YtbmfcogfgdggkaaGreat
open Go.RowKit

/-- A model's lists lie at or above a place. -/
structure MoF (base : Nat) (M : Mo) : Prop where
  ca : ∀ b o s, M.ca = some ⟨b, o, s⟩ → base ≤ b
  ra : ∀ b o s, M.ra = some ⟨b, o, s⟩ → base ≤ b
  ta : ∀ j, j < M.rk → (M.R j).tk ≠ 0 → ∀ b o s, (M.R j).ta = some ⟨b, o, s⟩ → base ≤ b
theorem MoX.st {w w' : World} {M : Mo} {B base : Nat} (h : MoX w M) (hf : MoF base M) (hB : B < base) (hk : Kp w w') (hne : ∀ k, k ≠ B → w'.heap[k]? = w.heap[k]?) : MoX w' M := by
  refine ⟨h.off.kp hk, fun j hj => ?_, fun j hj => ?_, h.ck, h.rk⟩
  · obtain ⟨b, o, e, h1, h2⟩ := h.cls j hj
    have := hf.ca b o none e
    exact ⟨b, o, e, fun q v hq => (World.cell?_of_block (a := ⟨b, _, none⟩) (hne b (by omega))).trans (h1 q v hq), h2.kp hk⟩
  · obtain ⟨b, o, e, h1, h2⟩ := h.rls j hj
    have := hf.ra b o none e
    exact ⟨b, o, e, fun q v hq => (World.cell?_of_block (a := ⟨b, _, none⟩) (hne b (by omega))).trans (h1 q v hq), h2.of (fun h3 b o s e _ => hne b (by have := hf.ta j hj h3 b o s e; omega)) hk⟩
end Go.Proofs.YtbmfcogfgdggkaaGreat
namespace Go.Proofs.YtbmfcogfgdggkaaGreat
open Go.RowKit

theorem rSameEq_c {L L' w sa xa na ca fa ya ma da ga sb xb nb cb fb yb mb db gb q} (ha : Rn L w sa xa na ca fa ya ma da ga q) (hb : Rn L' w sb xb nb cb fb yb mb db gb q) (h1 : L ≤ 1048576) (h2 : L' ≤ 1048576) :
    Calls Tryz.prog 28 #[.agg #[.bool sa, .slice xa na ca, .slice ya ma da], .agg #[.bool sb, .slice xb nb cb, .slice yb mb db]] w fun e w' => e = .returned (.bool true) ∧ Below w.heap.size w w' := by
  have l1 := ha.ln; have l2 := ha.ld; have l3 := hb.ln; have l4 := hb.ld
  refine (rSame_c sa xa ya na ca ma da fa ga sb xb yb nb cb mb db fb gb w ha.num.rd ha.den.rd hb.num.rd hb.den.rd (by omega) (by omega) (by omega) (by omega)).mono ?_
  rintro e w' ⟨c, rfl, h3, h4⟩
  refine ⟨?_, h3⟩
  rw [h4.2 ((ha.inj hb).2 rfl)]

end Go.Proofs.YtbmfcogfgdggkaaGreat
namespace Go.Proofs.YtbmfcogfgdggkaaGreat
open Go.RowKit

/-- Tcs lists of lists of terms with the same values. -/
def Tcs (L L' : Nat) (w : World) (xa ya : Option Addr) (k : Nat) : Prop := ∀ j, j < k → ∃ b o b2 o2 ta tc ua uc, ∃ v : List (Int × Rat), xa = some ⟨b, o, none⟩ ∧ ya = some ⟨b2, o2, none⟩ ∧ w.cell? ⟨b, o + j, none⟩ = some (.slice ta v.length tc) ∧ w.cell? ⟨b2, o2 + j, none⟩ = some (.slice ua v.length uc) ∧ Tf L w ta v ∧ Tf L' w ua v ∧ v.length ≤ 64
theorem Tcs.below {L L' w w' xa ya k} (h : Tcs L L' w xa ya k) (hb : Below w.heap.size w w')   : Tcs L L' w' xa ya k := fun j hj => by
  obtain ⟨b, o, b2, o2, ta, tc, ua, uc, v, h1, h2, h3, h4, h5, h6, h7⟩ := h j hj
  exact ⟨b, o, b2, o2, ta, tc, ua, uc, v, h1, h2, kCb hb h3, kCb hb h4, h5.below hb, h6.below hb, h7⟩

end Go.Proofs.YtbmfcogfgdggkaaGreat
namespace Go.Proofs.YtbmfcogfgdggkaaGreat
open Go.RowKit

theorem Sn.trans {a b c : Nm} (h : Sn a b) (k : Sn b c) : Sn a c := ⟨k.1.trans h.1, k.2.1.trans h.2.1, k.2.2.1.trans h.2.2.1, k.2.2.2.1.trans h.2.2.2.1, k.2.2.2.2.trans h.2.2.2.2⟩
theorem Sm.trans {a b c : Mo} (h : Sm a b) (k : Sm b c) : Sm a c :=
  ⟨h.off.trans k.off, k.ck.trans h.ck, fun j hj => by
    have p := h.C j hj; have q := k.C j (by rw [h.ck]; exact hj)
    exact ⟨q.nm.trans p.nm, p.cost.trans q.cost, q.li.trans p.li, p.lo.trans q.lo, q.hi.trans p.hi, p.hv.trans q.hv⟩, k.rk.trans h.rk, fun j hj => by
    have p := h.R j hj; have q := k.R j (by rw [h.rk]; exact hj)
    exact ⟨q.nm.trans p.nm, q.li.trans p.li, p.lo.trans q.lo, q.hi.trans p.hi, p.hv.trans q.hv, q.tk.trans p.tk, q.col.trans p.col, fun t ht => (p.T t ht).trans (q.T t (by rw [p.tk]; exact ht))⟩⟩
/-- A list of lists of terms by their values. -/
def Lst (L : Nat) (w : World) (xa : Option Addr) (k : Nat) (E : Nat → List (Int × Rat)) : Prop := ∀ j, j < k → ∃ b o ta tc, xa = some ⟨b, o, none⟩ ∧ w.cell? ⟨b, o + j, none⟩ = some (.slice ta (E j).length tc) ∧ Tf L w ta (E j)
theorem Lst.below {L w w' xa k E} (h : Lst L w xa k E) (hb : Below w.heap.size w w') : Lst L w' xa k E := fun j hj => by
  obtain ⟨b, o, ta, tc, h1, h2, h3⟩ := h j hj
  exact ⟨b, o, ta, tc, h1, kCb hb h2, h3.below hb⟩
theorem Lst.two {L L' w xa ya k E} (h : Lst L w xa k E) (h' : Lst L' w ya k E) (hl : ∀ j, j < k → (E j).length ≤ 64) : Tcs L L' w xa ya k := fun j hj => by
  obtain ⟨b, o, ta, tc, h1, h2, h3⟩ := h j hj
  obtain ⟨b', o', ta', tc', k1, k2, k3⟩ := h' j hj
  exact ⟨b, o, b', o', ta, tc, ta', tc', E j, h1, k1, h2, k2, h3, k3, hl j hj⟩
def LsA (L : Nat) (w w' : World) (e : Ending) (er : Int) (kk : Nat) (E : Nat → List (Int × Rat)) : Prop := ∃ xa xc, e = .returned (.tuple #[.slice xa kk xc, .int .i64 er]) ∧ Below w.heap.size w w' ∧ Lst L w' xa kk E
def kkM (M : Mo) : Nat := if chkE M = 0 then M.ck else 0
theorem ls_nil {L w w' e} {M : Mo} {E : Nat → List (Int × Rat)} (h0 : chkE M ≠ 0) (h : e = .returned (.tuple #[.slice none 0 0, .int .i64 (chkE M)])) (hb : Below w.heap.size w w') : LsA L w w' e (chkE M) (kkM M) E := by
  have e1 : kkM M = 0 := by unfold kkM; rw [if_neg h0]
  rw [e1]
  exact ⟨none, 0, h, hb, fun j hj => by omega⟩
theorem CoAns.lst {K : Nat} {w0 w w' : World} {e : Ending} {M M' : Mo} {q : Rat} {cs : List CV} {rs : List RV} (hs : Sm M M') (h : CoAns w w' e M') (hv : chkE M = 0 → MoV K w0 M q cs rs ∧ mvOk cs rs = true) : LsA K w w' e (chkE M) (kkM M) (fun j => clq rs (j : Int) M.rk) := by
  unfold CoAns at h
  rw [hs.chk] at h
  rcases h with ⟨h0, he, hb⟩ | ⟨h0, g, T', V, rfl, hb, hC, hT⟩
  · exact ls_nil h0 he hb
  · obtain ⟨hV, hok⟩ := hv h0
    simp only [mvOk, Bool.and_eq_true, decide_eq_true_eq, List.all_eq_true] at hok
    have e1 : kkM M = M.ck := by unfold kkM; rw [if_pos h0]
    rw [e1, h0]
    refine ⟨some ⟨g, 0, none⟩, M'.ck, by rw [hs.ck], hb, fun j hj => ?_⟩
    have hj' : j < M'.ck := by rw [hs.ck]; exact hj
    have hrow := hC.row j hj'
    obtain ⟨ta, tc, hVj⟩ := hrow.slice
    have hcell := hC.cell hj'
    have htv := cent_tvm (L := K) (w := w') (n := cs.length) (j := j) (cl := fun i => (M'.R i).col) (tk := fun i => (M'.R i).tk) (T := T') (rs := rs) (fun i v hi => by
      have hlt : i < M.rk := by rw [hV.rk]; exact (List.getElem?_eq_some_iff.1 hi).1
      have p := hs.R i hlt
      obtain ⟨_, kr⟩ := hV.rls i v hi
      refine ⟨(hok.2.2.2.1 v (List.mem_of_getElem? hi)).2.1, by show (M'.R i).tk = _; rw [p.tk, kr.tk], fun t z r ht => ?_⟩
      obtain ⟨k1, k2, _⟩ := kr.tl t z r ht
      have htk : t < (M.R i).tk := by rw [kr.tk]; exact (List.getElem?_eq_some_iff.1 ht).1
      obtain ⟨s1, s2⟩ := hT i (by rw [hs.rk]; exact hlt) t (by rw [p.tk]; exact htk)
      exact ⟨by show (M'.R i).col t = z; rw [p.col, k1], Rn.sn (t := (M.R i).T t) (t' := T' i t) k2 ((p.T t htk).trans s1) s2⟩) (i := M.rk) (by rw [hV.rk]; exact Nat.le_refl _)
    have hrow' : RowG 62 4 w.heap.size w' (V j) (cent (fun i => (M'.R i).col) (fun i => (M'.R i).tk) T' j M.rk).length (tcells (cent (fun i => (M'.R i).col) (fun i => (M'.R i).tk) T' j M.rk)) := by rw [← hs.rk]; exact hrow
    obtain ⟨ta, tc, hVj⟩ := hrow'.slice
    rw [hVj] at hrow' hcell
    refine ⟨g, 0, ta, tc, rfl, ?_, tvm_tf htv hrow'⟩
    rw [Nat.zero_add, hcell, htv.1]
end Go.Proofs.YtbmfcogfgdggkaaGreat
namespace Go.Proofs.YtbmfcogfgdggkaaGreat
open Go.RowKit

/-- f 0 + .. + f (n - 1). -/
def sumN (f : Nat → Nat) : Nat → Nat
  | 0 => 0
  | n + 1 => sumN f n + f n
theorem sumN_congr {f g : Nat → Nat} : ∀ {n : Nat}, (∀ j, j < n → f j = g j) → sumN f n = sumN g n
  | 0, _ => rfl
  | n + 1, h => by simp only [sumN]; rw [sumN_congr (fun j hj => h j (by omega)), h n (by omega)]
theorem sumN_add (f g : Nat → Nat) : ∀ n, sumN (fun j => f j + g j) n = sumN f n + sumN g n
  | 0 => rfl
  | n + 1 => by simp only [sumN]; rw [sumN_add f g n]; omega
theorem sumN_zero : ∀ n, sumN (fun _ => 0) n = 0
  | 0 => rfl
  | n + 1 => by simp only [sumN]; rw [sumN_zero n]
theorem sumN_point {f g : Nat → Nat} {z : Nat} (hz : f z = g z + 1) (h : ∀ j, j ≠ z → f j = g j) : ∀ {n : Nat}, z < n → sumN f n = sumN g n + 1
  | 0, hn => by omega
  | n + 1, hn => by
    simp only [sumN]
    by_cases e : z = n
    · subst e
      rw [sumN_congr (fun j hj => h j (by omega)), hz]; omega
    · rw [sumN_point hz h (n := n) (by omega), h n (fun e2 => e e2.symm)]; omega
theorem ts_count {n : Nat} {a : Int} : ∀ {ts : List (Int × Rat)} {last : Int}, -1 ≤ last → tsB n last ts = true → sumN (fun j => (nz a (atq (j : Int) ts)).length) n = ts.length
  | [], last, _, _ => by
    have : (fun j : Nat => (nz a (atq (j : Int) [])).length) = fun _ => 0 := by funext j; simp [atq, nz]
    rw [this, sumN_zero]; rfl
  | (z, q) :: ts, last, hl, h => by
    have h' := h
    simp only [tsB, Bool.and_eq_true, decide_eq_true_eq] at h
    obtain ⟨h1, h2, h3, h4⟩ := h
    have ih := ts_count (a := a) (by omega : (-1 : Int) ≤ z) h4
    obtain ⟨zn, rfl⟩ : ∃ k : Nat, z = (k : Int) := ⟨z.toNat, by omega⟩
    have hz0 : atq (zn : Int) ts = 0 := atq_none (fun k b r hk e => by have := ((ts_rise h4).1 k b r hk).1; omega)
    have key := sumN_point (f := fun j => (nz a (atq (j : Int) (((zn : Int), q) :: ts))).length) (g := fun j => (nz a (atq (j : Int) ts)).length) (z := zn) (by
      show (nz a (if (zn : Int) = (zn : Int) then q else atq (zn : Int) ts)).length = (nz a (atq (zn : Int) ts)).length + 1
      rw [if_pos rfl, hz0]
      unfold nz
      rw [if_neg h3, if_pos rfl]; rfl) (fun j hj => by
      show (nz a (if (zn : Int) = (j : Int) then q else atq (j : Int) ts)).length = _
      rw [if_neg (by omega)]) (n := n) (by omega)
    rw [key, ih]; rfl
theorem clq_count {n : Nat} {rs : List RV} (h : ∀ (i : Nat) (v : RV), rs[i]? = some v → tsB n (-1) v.ts = true) : ∀ {i : Nat}, i ≤ rs.length → sumN (fun j => (clq rs (j : Int) i).length) n = sumN (fun k => ((rs[k]?.map (fun v => v.ts.length)).getD 0)) i
  | 0, _ => by
    show sumN (fun _ => 0) n = 0
    exact sumN_zero n
  | i + 1, hi => by
    obtain ⟨v, hv⟩ : ∃ x, rs[i]? = some x := ⟨_, List.getElem?_eq_getElem (by omega)⟩
    have e1 : (fun j : Nat => (clq rs (j : Int) (i + 1)).length) = fun j : Nat => (clq rs (j : Int) i).length + (nz (i : Int) (atq (j : Int) v.ts)).length := by
      funext j
      show (clq rs (j : Int) i ++ nz (i : Int) ((rs[i]?.map (fun v => atq (j : Int) v.ts)).getD 0)).length = _
      rw [List.length_append, hv]; rfl
    rw [e1, sumN_add, clq_count h (by omega), ts_count (by omega) (h i v hv)]
    show _ = sumN _ i + ((rs[i]?.map (fun v => v.ts.length)).getD 0)
    rw [hv]; rfl
end Go.Proofs.YtbmfcogfgdggkaaGreat
namespace Go.Proofs.YtbmfcogfgdggkaaGreat
open Go.RowKit

theorem twr_no {S : Nat → ByteArray} : ∀ {r i : Nat}, twr S r i = false → ∀ j k, j < k → i ≤ k → k < i + r → S j ≠ S k
  | 0, i, _, j, k, _, h1, h2 => by omega
  | r + 1, i, h, j, k, hjk, h1, h2 => by
    simp only [twr, Bool.or_eq_false_iff] at h
    by_cases e : k = i
    · subst e
      intro h3
      have := (sawB_iff S k).2 ⟨j, hjk, h3⟩
      rw [h.1] at this; exact Bool.noConfusion this
    · exact twr_no h.2 j k hjk (by omega) (by omega)
theorem idx_self {S : Nat → ByteArray} {j : Nat} : ∀ {r i : Nat}, (∀ k, i ≤ k → k < j → S k ≠ S j) → i ≤ j → j < i + r → idx S (S j) r i = (j : Int)
  | 0, i, _, h1, h2 => by omega
  | r + 1, i, h, h1, h2 => by
    simp only [idx]
    by_cases e : i = j
    · subst e; rw [if_pos rfl]
    · rw [if_neg (fun h3 => h i (by omega) (by omega) h3.symm)]
      exact idx_self (fun k a b => h k (by omega) b) (by omega) (by omega)
theorem atCol_self {M : Mo} (h : chkE M = 0) {j : Nat} (hj : j < M.ck) : atCol M (M.C j).nm = ((j : Int), 0) := by
  obtain ⟨_, _, _, _, _, t1, _, _⟩ := chkE_ok h
  rw [atCol, if_pos h, idx_self (S := fun j => (M.C j).nm) (fun k _ hk => twr_no t1 k j hk (by omega) (by omega)) (by omega) (by omega)]
  unfold plc; rw [if_neg (by omega)]
theorem atRow_self {M : Mo} (h : chkE M = 0) {j : Nat} (hj : j < M.rk) : atRow M (M.R j).nm = ((j : Int), 0) := by
  obtain ⟨_, _, _, _, _, _, t2, _⟩ := chkE_ok h
  rw [atRow, if_pos h, idx_self (S := fun j => (M.R j).nm) (fun k _ hk => twr_no t2 k j hk (by omega) (by omega)) (by omega) (by omega)]
  unfold plc; rw [if_neg (by omega)]
/-- The entries below row i: rows rise, and each is the row's own number. -/
theorem clq_at {rs : List RV} {c : Int} : ∀ {i : Nat} {p : Nat} {a : Int} {q : Rat}, (clq rs c i)[p]? = some (a, q) → ∃ k : Nat, a = (k : Int) ∧ k < i ∧ q = ((rs[k]?.map (fun v => atq c v.ts)).getD 0)
  | 0, p, a, q, h => by simp [clq] at h
  | i + 1, p, a, q, h => by
    unfold clq at h
    by_cases hlt : p < (clq rs c i).length
    · rw [List.getElem?_append_left hlt] at h
      obtain ⟨k, h1, h2, h3⟩ := clq_at h
      exact ⟨k, h1, by omega, h3⟩
    · rw [List.getElem?_append_right (by omega)] at h
      unfold nz at h
      split at h
      · simp at h
      · have h0 := (List.getElem?_eq_some_iff.1 h).1
        have e0 : p - (clq rs c i).length = 0 := by simp at h0; omega
        rw [e0] at h
        obtain ⟨rfl, rfl⟩ : (i : Int) = a ∧ ((rs[i]?.map (fun v => atq c v.ts)).getD 0) = q := by simpa using h
        exact ⟨i, rfl, by omega, rfl⟩
theorem clq_rise {rs : List RV} {c : Int} : ∀ {i : Nat} {p r : Nat} {a b : Int} {q s : Rat}, p < r → (clq rs c i)[p]? = some (a, q) → (clq rs c i)[r]? = some (b, s) → a < b
  | 0, p, r, a, b, q, s, _, h, _ => by simp [clq] at h
  | i + 1, p, r, a, b, q, s, hpr, h, h' => by
    unfold clq at h h'
    by_cases hr : r < (clq rs c i).length
    · rw [List.getElem?_append_left hr] at h'
      rw [List.getElem?_append_left (by omega)] at h
      exact clq_rise hpr h h'
    · rw [List.getElem?_append_right (by omega)] at h'
      have hn : ∀ x : Rat, (nz (i : Int) x).length ≤ 1 := fun x => by unfold nz; split <;> simp
      have h1 := (List.getElem?_eq_some_iff.1 h').1
      have h2 := hn ((rs[i]?.map (fun v => atq c v.ts)).getD 0)
      rw [List.getElem?_append_left (by omega)] at h
      obtain ⟨k, e1, e2, _⟩ := clq_at h
      have e0 : r - (clq rs c i).length = 0 := by omega
      rw [e0] at h'
      unfold nz at h'
      split at h'
      · simp at h'
      · obtain ⟨h3, _⟩ : (i : Int) = b ∧ _ = s := by simpa using h'
        omega
end Go.Proofs.YtbmfcogfgdggkaaGreat
