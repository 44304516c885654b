/-
  The walk of the statement NatKeeps: what comes in, and the three rows of answers.
-/
import Derived.Test.YtclopblgdiahiaaDoorZ4
import Derived.BigQuiet
namespace Go.Proofs.YtclopblgdiahiaaDoor
open Go.RowKit

theorem own_cap4 {k e w base a n c f} (h : Own k e w base (.slice a n c) n f) : n ≤ c ∧ c ≤ 9223372036854775807 := ⟨(Own.slice h).1, (Own.slice h).2.1⟩
/-- What lies ahead of the answers: the two lists, their copies with room behind them. -/
structure In4 (w : World) (ao bo : Option Addr) (n m : Nat) (f h : Nat → Int) (ga gb cA cB : Nat) : Prop where
  ra : Rd .u64 w ao n f
  rb : Rd .u64 w bo m h
  xa : Own .u64 26 w 0 (.slice (some ⟨ga, 0, none⟩) (n + 2) cA) (n + 2) (cat f n (lim2 71 72))
  xb : Own .u64 26 w 0 (.slice (some ⟨gb, 0, none⟩) (m + 2) cB) (m + 2) (cat h m (lim2 73 74))
theorem In4.below {w w' ao bo n m f h ga gb cA cB} (I : In4 w ao bo n m f h ga gb cA cB) (hb : Below w.heap.size w w') : In4 w' ao bo n m f h ga gb cA cB :=
  ⟨I.ra.below hb (Nat.le_refl _), I.rb.below hb (Nat.le_refl _), Own.below I.xa hb, Own.below I.xb hb⟩
theorem cat_rd {w : World} {g n c : Nat} {f : Nat → Int} {x y : Int} (h : Own .u64 26 w 0 (.slice (some ⟨g, 0, none⟩) (n + 2) c) (n + 2) (cat f n (lim2 x y))) :
    Rd .u64 w (some ⟨g, 0, none⟩) n f ∧ w.cell? ⟨g, n, none⟩ = some (.int .u64 x) ∧ w.cell? ⟨g, n + 1, none⟩ = some (.int .u64 y) ∧ n + 2 ≤ c ∧ c ≤ 9223372036854775807 := by
  have hr := (Own.slice h).2.2.2.1
  refine ⟨(hr.take (m := n) (by omega)).congr (fun j hj => cat_in hj), ?_, ?_, (Own.slice h).1, (Own.slice h).2.1⟩
  · have := hr.cell (j := n) (by omega)
    rw [Nat.zero_add, cat_out (Nat.le_refl _)] at this
    simpa [lim2] using this
  · have := hr.cell (j := n + 1) (by omega)
    rw [Nat.zero_add, cat_out (by omega)] at this
    simpa [lim2] using this
theorem own_grown {k e w w' base g n c f} {tb : Option Addr} {m tcb : Nat} (h : Own k e w base (.slice (some ⟨g, 0, none⟩) n c) n f) (hg : w.grownBy w' (Value.ownBlock (.slice tb m tcb))) (hne : ∀ a, tb = some a → a.block ≠ g) : Own k e w' base (.slice (some ⟨g, 0, none⟩) n c) n f := by
  refine Own.of h (fun a ha => ?_)
  cases ha
  obtain ⟨g', e1, hl⟩ := own_at h
  cases e1
  refine hg.block _ hl (fun e2 => ?_)
  cases tb with
  | none => cases e2
  | some a => exact hne a rfl (by simpa [Value.ownBlock] using e2.symm)
theorem In4.xs {w ao bo n m f h ga gb cA cB} (I : In4 w ao bo n m f h ga gb cA cB) : n + 2 ≤ cA ∧ cA ≤ 9223372036854775807 ∧ m + 2 ≤ cB ∧ cB ≤ 9223372036854775807 ∧ Rd .u64 w (some ⟨ga, 0, none⟩) n f ∧ Rd .u64 w (some ⟨gb, 0, none⟩) m h :=
  ⟨(cat_rd I.xa).2.2.2.1, (cat_rd I.xa).2.2.2.2, (cat_rd I.xb).2.2.2.1, (cat_rd I.xb).2.2.2.2, (cat_rd I.xa).1, (cat_rd I.xb).1⟩

theorem sp_mk {i n1 cn gn : Nat} {f2 : Nat → Int} (hle : n1 ≤ 2000) (h0 : 0 < n1 → f2 0 = 100 * (i : Int)) : Sp i ⟨some ⟨gn, 0, none⟩, n1 + 1, cn, cat f2 n1 (fun _ => 9000 + (i : Int))⟩ := by
  refine ⟨Nat.succ_pos _, ?_, ?_, ?_⟩
  · simp; omega
  · simp [cat]
  · intro h1
    have h2 : 1 < n1 + 1 := h1
    have h3 : cat f2 n1 (fun _ => 9000 + (i : Int)) 0 = f2 0 := cat_in (by omega)
    simp only [h3]; exact h0 (by omega)
/-- A row of lists that stands. -/
structure St (N : Nat) (w : World) (g : Nat) (L : Nat → Ls) : Prop where
  fam : Fam 22 w g N L
  own : ∀ j, j < N → Lo .u64 26 w (L j)
theorem AnsF.st {N C w w' g L V} (h : AnsF N C w w' g L V) : St N w' g L := ⟨h.fam, h.own⟩
theorem St.below {N w w' g L} (h : St N w g L) (hb : Below w.heap.size w w') : St N w' g L := ⟨h.fam.of (hb.block g h.fam.lt), fun j hj => Own.below (h.own j hj) hb⟩
theorem St.turned {N lo hi w w' g L} (h : St N w g L) (ht : Turned lo hi w w') (hg : g < lo ∨ hi ≤ g) (hl : ∀ j, j < N → ∀ a, (L j).p = some a → a.block < lo ∨ hi ≤ a.block) : St N w' g L :=
  ⟨h.fam.of (ht.block g h.fam.lt hg), fun j hj => (h.own j hj).of (fun a ha => ht.block _ ((h.own j hj).lt a ha) (hl j hj a ha))⟩
theorem same_self (ao bo : Option Addr) (n ca cb : Nat) (f : Nat → Int) (w : World) (hn : n ≤ 140737488355328) (hr : Rd .u64 w ao n f) (hs : Rd .u64 w bo n f) :
    Calls Tryd.prog 8 #[.slice ao n ca, .slice bo n cb] w fun e w' => e = .returned (.bool true) ∧ ∃ q, w' = w.drewN q := by
  refine (same_c ao bo n n ca cb f f w hn hn hr hs).mono ?_
  rintro e w' ⟨hq, b, rfl, hb⟩
  have : b = true := hb.2 ⟨rfl, fun _ _ => rfl⟩
  subst this
  exact ⟨rfl, hq⟩
/-- What is known when all answers lie there. -/
structure All4 (w4 w6 w7 w8 : World) (ao bo : Option Addr) (n m : Nat) (f h : Nat → Int) (ga gb cA cB : Nat) (g1 g2 g3 : Nat) (one two want : Nat → Ls) (V : Nat → Int) : Prop where
  in0 : In4 w4 ao bo n m f h ga gb cA cB
  b48 : Below w4.heap.size w4 w8
  s12 : w4.heap.size ≤ w6.heap.size
  s23 : w6.heap.size ≤ w7.heap.size
  s34 : w7.heap.size ≤ w8.heap.size
  st1 : St 8 w8 g1 one
  st2 : St 8 w8 g2 two
  st3 : St 8 w8 g3 want
  d1 : ∀ j k, j < 8 → k < 8 → j ≠ k → Apart (one j).p (one k).p
  d2 : ∀ j k, j < 8 → k < 8 → j ≠ k → Apart (two j).p (two k).p
  l1 : ∀ j, j < 8 → ∀ a, (one j).p = some a → a.block ≠ g1 ∧ (w4.heap.size ≤ a.block ∧ a.block < w6.heap.size)
  l2 : ∀ j, j < 8 → ∀ a, (two j).p = some a → a.block ≠ g2 ∧ (w6.heap.size ≤ a.block ∧ a.block < w7.heap.size)
  l3 : ∀ j, j < 8 → ∀ a, (want j).p = some a → w7.heap.size ≤ a.block
  g1s : w4.heap.size ≤ g1 ∧ g1 < w6.heap.size
  g2s : w6.heap.size ≤ g2 ∧ g2 < w7.heap.size
  g3s : w7.heap.size ≤ g3
  form : ∀ j, j < 8 → (Lm (one j).f (one j).n ∧ Fm (one j).f (one j).n ∧ (one j).n ≤ 2000 ∧ vf (one j).f (one j).n = V j) ∧ (Lm (two j).f (two j).n ∧ Fm (two j).f (two j).n ∧ (two j).n ≤ 2000 ∧ vf (two j).f (two j).n = V j) ∧ (Lm (want j).f (want j).n ∧ Fm (want j).f (want j).n ∧ (want j).n ≤ 2000 ∧ vf (want j).f (want j).n = V j)
theorem all4_mk {w4 w6 w7 wt w8 : World} {ao bo : Option Addr} {n m : Nat} {f h : Nat → Int} {ga gb cA cB g1 g2 g3 : Nat} {one two want : Nat → Ls} {V : Nat → Int} (I : In4 w4 ao bo n m f h ga gb cA cB)
    (a1 : AnsF 8 2000 w4 w6 g1 one V) (a2 : AnsF 8 2000 w6 w7 g2 two V) (ht : Below w7.heap.size w7 wt) (a3 : AnsF 8 2000 wt w8 g3 want V) : All4 w4 w6 w7 w8 ao bo n m f h ga gb cA cB g1 g2 g3 one two want V := by
  have b7 : Below w7.heap.size w7 w8 := ht.trans (a3.bel.mono ht.size)
  have b6 : Below w6.heap.size w6 w8 := a2.bel.trans (b7.mono a2.bel.size)
  have b4 : Below w4.heap.size w4 w8 := a1.bel.trans (b6.mono a1.bel.size)
  exact ⟨I, b4, a1.bel.size, a2.bel.size, b7.size, a1.st.below b6, a2.st.below b7, a3.st, a1.dis, a2.dis,
    fun j hj a ha => ⟨(a1.loc j hj a ha).1, (a1.loc j hj a ha).2, (a1.own j hj).lt a ha⟩, fun j hj a ha => ⟨(a2.loc j hj a ha).1, (a2.loc j hj a ha).2, (a2.own j hj).lt a ha⟩,
    fun j hj a ha => by have := (a3.loc j hj a ha).2; have := ht.size; omega, ⟨a1.gs, a1.fam.lt⟩, ⟨a2.gs, a2.fam.lt⟩, Nat.le_trans ht.size a3.gs,
    fun j hj => ⟨⟨a1.lm j hj, a1.fm j hj, a1.le j hj, a1.val j hj⟩, ⟨a2.lm j hj, a2.fm j hj, a2.le j hj, a2.val j hj⟩, ⟨a3.lm j hj, a3.fm j hj, a3.le j hj, a3.val j hj⟩⟩⟩
theorem All4.k1 {w4 w6 w7 w8 ao bo n m f h ga gb cA cB g1 g2 g3 one two want V} (A : All4 w4 w6 w7 w8 ao bo n m f h ga gb cA cB g1 g2 g3 one two want V) : K1 8 w4.heap.size w6.heap.size w8 w8 g1 0 0 one one :=
  ⟨Turned.refl _ _ _, A.st1.fam, A.st1.own, fun _ _ _ => rfl, fun j hj => by omega, A.d1, fun j hj a ha => ⟨(A.l1 j hj a ha).1, .inl (A.l1 j hj a ha).2⟩, A.g1s⟩
/-- In the first round the other rows stand. -/
theorem All4.t1 {w4 w6 w7 w8 w ao bo n m f h ga gb cA cB g1 g2 g3 one two want V} (A : All4 w4 w6 w7 w8 ao bo n m f h ga gb cA cB g1 g2 g3 one two want V) (ht : Turned w4.heap.size w6.heap.size w8 w) : St 8 w g2 two ∧ St 8 w g3 want ∧ In4 w ao bo n m f h ga gb cA cB := by
  have h1 := A.s12; have h2 := A.s23; have h3 := A.s34; have hg2 := A.g2s; have hg3 := A.g3s
  exact ⟨A.st2.turned ht (.inr hg2.1) (fun j hj a ha => .inr (A.l2 j hj a ha).2.1), A.st3.turned ht (.inr (by omega)) (fun j hj a ha => .inr (by have := A.l3 j hj a ha; omega)), A.in0.below (A.b48.trans (ht.bel (Nat.le_refl _) (by omega)))⟩
theorem All4.k2 {w4 w6 w7 w8 w ao bo n m f h ga gb cA cB g1 g2 g3 one two want V} (A : All4 w4 w6 w7 w8 ao bo n m f h ga gb cA cB g1 g2 g3 one two want V) (ht : Turned w4.heap.size w6.heap.size w8 w) : K2 8 w6.heap.size w7.heap.size w w g2 0 two := by
  obtain ⟨s2, s3, i4⟩ := A.t1 ht
  exact ⟨Turned.refl _ _ _, ⟨two, s2.fam, fun _ _ _ => rfl⟩, fun j _ hj => s2.own j hj, A.d2, A.l2, A.g2s⟩
/-- In the second round the third row and what was spoiled stand. -/
theorem All4.t2 {w4 w6 w7 w8 w10 w ao bo n m f h ga gb cA cB g1 g2 g3 one two want V} {L : Nat → Ls} (A : All4 w4 w6 w7 w8 ao bo n m f h ga gb cA cB g1 g2 g3 one two want V) (k1 : K1 8 w4.heap.size w6.heap.size w8 w10 g1 8 8 one L) (ht : Turned w6.heap.size w7.heap.size w10 w) :
    St 8 w g1 L ∧ St 8 w g3 want ∧ In4 w ao bo n m f h ga gb cA cB ∧ Below w4.heap.size w8 w := by
  have h1 := A.s12; have h2 := A.s23; have h3 := A.s34; have hg2 := A.g2s; have hg3 := A.g3s; have hg1 := A.g1s
  obtain ⟨s2, s3, i4⟩ := A.t1 k1.tur
  have h5 := k1.tur.size
  refine ⟨St.turned ⟨k1.fam, k1.own⟩ ht (.inl hg1.2) (fun j hj a ha => ?_), s3.turned ht (.inr hg3) (fun j hj a ha => .inr (A.l3 j hj a ha)), A.in0.below (A.b48.trans ((k1.tur.bel (Nat.le_refl _) (by omega)).trans (ht.bel h1 (by omega)))), (k1.tur.bel (Nat.le_refl _) (by omega)).trans (ht.bel h1 (by omega))⟩
  have := (k1.loc j hj a ha).2; omega

set_option maxRecDepth 100000 in
set_option maxHeartbeats 4000000 in
theorem natKeeps_c (ao bo : Option Addr) (n m ca cb : Nat) (f h : Nat → Int) (w : World) (hn : n ≤ 9223372036854775807) (hm : m ≤ 9223372036854775807) (hr : Rd .u64 w ao n f) (hs : Rd .u64 w bo m h) (hf : Lm f n) (hh : Lm h m) (hna : ao = none → n = 0 ∧ ca = 0) (hnb : bo = none → m = 0 ∧ cb = 0) (htab : Tab w) :
    Calls Tryd.prog 3 #[.slice ao n ca, .slice bo m cb] w fun e w' => e = .returned (.bool true) ∧ Below w.heap.size w w' := by
  have HLa := hid hf; have HLb := hid hh
  have CW := hid (awake_c w htab)
  clear hf hh htab
  obtain ⟨bl, hbl⟩ : ∃ bl, decide (n ≤ 60 ∧ m ≤ 60) = bl := ⟨_, rfl⟩
  have C3 := hid (fun W => hbl ▸ light_c ao bo n m ca cb W)
  have HA0 := hid hr; have HB0 := hid hs
  clear hr hs
  cases bl
  · clear hbl
    go_enter Tryd.func3, Tryd.ntmps3
    go_wp2_with fail
    refine CW.out.mono ?_
    rintro e w1 ⟨rfl, hb1⟩
    go_wp2_with fail
    refine (C3.out _).mono ?_
    rintro e w2 ⟨rfl, rfl⟩
    go_wp2
    go_ret
    exact ⟨rfl, hb1⟩
  have hnm : n ≤ 60 ∧ m ≤ 60 := of_decide_eq_true hbl
  obtain ⟨hn60, hm60⟩ := hnm
  clear hbl
  go_enter Tryd.func3, Tryd.ntmps3
  go_wp2_with fail
  refine CW.out.mono ?_
  rintro e w1 ⟨rfl, hb1⟩
  have HA := hid (HA0.out.below hb1 (Nat.le_refl _)); have HB := hid (HB0.out.below hb1 (Nat.le_refl _)); have BW := hid hb1
  clear hb1 CW
  go_wp2_with fail
  refine (C3.out _).mono ?_
  rintro e w2 ⟨rfl, rfl⟩
  clear C3
  go_wp2_with fail
  refine (twin_c ao n ca f _ (by omega) HA.out hna).mono ?_
  rintro e wx1 ⟨ta, tca, rfl, hbX, hrtX, hcx⟩
  have HA2 := hid (HA.out.below hbX (Nat.le_refl _)); have HB2 := hid (HB.out.below hbX (Nat.le_refl _)); have BW2 := hid (BW.out.trans (hbX.mono BW.out.size)); have OX := hid (Own.base hcx BW.out.size)
  clear HA HB BW hbX hrtX hcx
  have HA := hid (HA2.out.alloc (.cells #[.int .u64 71, .int .u64 72] 26)); have HB := hid (HB2.out.alloc (.cells #[.int .u64 71, .int .u64 72] 26)); have BW := hid (below_alloc BW2.out (.cells #[.int .u64 71, .int .u64 72] 26)); have OX2 := hid (Own.alloc OX.out (.cells #[.int .u64 71, .int .u64 72] 26))
  clear HA2 HB2 BW2 OX
  go_wp2_with (at_builtin; go_must (refine wpList_append_where .u64 _ rfl (.tmp 24) (.tmp 25) 22 rfl w.heap.size 26 8 Tryd.underlying22 Tryd.infoU64 ta n tca f rfl OX2.out wx1.heap.size 0 2 2 (lim2 71 72) rfl (rd_newP wx1 _ 71 72) (by omega) (by unfold maxLen; omega) (by omega) BW.out.size ?_))
  intro ga cA w3 hxa hgr hwh
  have hb3 : Below w.heap.size w w3 := BW.out.grown hgr BW.out.size (fun k hk => Own.ge OX2.out k hk)
  have hA3 : Rd .u64 w3 ao n f := (HA0.out.below hb3 (Nat.le_refl _))
  have hB3 : Rd .u64 w3 bo m h := (HB0.out.below hb3 (Nat.le_refl _))
  have HA2 := hid hA3; have HB2 := hid hB3; have BW2 := hid hb3; have XA := hid hxa
  have hga : ga < w3.heap.size := by
    obtain ⟨g', e1, hl⟩ := own_at hxa
    cases e1; exact hl
  clear HA HB BW OX2 hxa hgr hwh hb3 hA3 hB3
  go_wp2_with fail
  refine (twin_c bo m cb h _ (by omega) HB2.out hnb).mono ?_
  rintro e wx2 ⟨tb, tcb, rfl, hbY, hrtY, hcy⟩
  have BW := hid (BW2.out.trans (hbY.mono BW2.out.size)); have OX := hid (Own.base hcy BW2.out.size); have XA2 := hid (Own.below XA.out hbY)
  have hap : ∀ a, tb = some a → a.block ≠ ga := fun a ha => by have := ((Own.slice hcy).2.2.2.2 a ha).1; omega
  have HAP := hid hap
  clear HA2 HB2 BW2 XA hbY hrtY hcy hap hga
  have BW2 := hid (below_alloc BW.out (.cells #[.int .u64 73, .int .u64 74] 26)); have OX2 := hid (Own.alloc OX.out (.cells #[.int .u64 73, .int .u64 74] 26)); have XA := hid (Own.alloc XA2.out (.cells #[.int .u64 73, .int .u64 74] 26))
  clear BW OX XA2
  go_wp2_with (at_builtin; go_must (refine wpList_append_where .u64 _ rfl (.tmp 28) (.tmp 29) 22 rfl w.heap.size 26 8 Tryd.underlying22 Tryd.infoU64 tb m tcb h rfl OX2.out wx2.heap.size 0 2 2 (lim2 73 74) rfl (rd_newP wx2 _ 73 74) (by omega) (by unfold maxLen; omega) (by omega) BW2.out.size ?_))
  intro gb cB w4 hxb hgr hwh
  have hb4 : Below w.heap.size w w4 := BW2.out.grown hgr BW2.out.size (fun k hk => Own.ge OX2.out k hk)
  have hI : In4 w4 ao bo n m f h ga gb cA cB := ⟨HA0.out.below hb4 (Nat.le_refl _), HB0.out.below hb4 (Nat.le_refl _), Own.base (own_grown XA.out hgr HAP.out) (Nat.zero_le _), Own.base hxb (Nat.zero_le _)⟩
  have I4 := hid hI; have B4 := hid hb4
  obtain ⟨hcA, hcA2, hcB, hcB2, _, _⟩ := hI.xs
  clear BW2 OX2 XA hxb hgr hwh hb4 hI
  clear HAP
  have i1 : ((n : Nat) : Int) ≤ ((cA : Nat) : Int) := by omega
  have i2 : ((m : Nat) : Int) ≤ ((cB : Nat) : Int) := by omega
  have i3 : ¬ (cA = n) := by omega
  have i4 : ¬ (cB = m) := by omega
  go_wp2
  go_quiet (fail)
  have I5 := hid (I4.out.below (below_drewN (Below.refl _ _) nq))
  clear I4
  go_wp2_with fail
  refine (answers_c (some ⟨ga, 0, none⟩) (some ⟨gb, 0, none⟩) n m cA cB f h _ hn60 hm60 (by omega) (by omega) (by omega) (by omega) (show Rd .u64 (w4.drewN nq) _ n f from I5.out.xs.2.2.2.2.1) (show Rd .u64 (w4.drewN nq) _ m h from I5.out.xs.2.2.2.2.2) HLa.out HLb.out).mono ?_
  rintro e w6 ⟨g1, one, rfl, ha1⟩
  have I6 := hid (I5.out.below ha1.bel); have A1 := hid ha1
  clear ha1
  go_wp2_with fail
  refine (answers_c (some ⟨ga, 0, none⟩) (some ⟨gb, 0, none⟩) n m cA cB f h _ hn60 hm60 (by omega) (by omega) (by omega) (by omega) I6.out.xs.2.2.2.2.1 I6.out.xs.2.2.2.2.2 HLa.out HLb.out).mono ?_
  rintro e w7 ⟨g2, two, rfl, ha2⟩
  have I7 := hid (I6.out.below ha2.bel); have A2 := hid ha2
  clear ha2 I6
  go_wp2_with fail
  refine (twin_c ao n ca f _ (by omega) I7.out.ra hna).mono ?_
  rintro e wx3 ⟨ua, uca, rfl, hbX, hrtX, hcx⟩
  have I8 := hid (I7.out.below hbX); have BT := hid hbX; have RX := hid hrtX
  have hu1 := own_cap4 hcx
  clear hbX hrtX hcx
  go_wp2_with fail
  refine (twin_c bo m cb h _ (by omega) I8.out.rb hnb).mono ?_
  rintro e wx4 ⟨ub, ucb, rfl, hbY, hrtY, hcy⟩
  have BT2 := hid (BT.out.trans (hbY.mono BT.out.size)); have RY := hid hrtY; have RX2 := hid (RX.out.below hbY (Nat.le_refl _))
  have hu2 := own_cap4 hcy
  clear hbY hrtY hcy RX BT I8
  go_wp2_with fail
  refine (answers_c ua ub n m uca ucb f h _ hn60 hm60 hu1.1 hu2.1 hu1.2 hu2.2 RX2.out RY.out HLa.out HLb.out).mono ?_
  rintro e w8 ⟨g3, want, rfl, ha3⟩
  have AA := hid (all4_mk I5.out A1.out A2.out BT2.out ha3)
  have B8 := hid ((show Below w.heap.size w (w4.drewN nq) from below_drewN B4.out nq).trans ((A1.out.bel.trans ((A2.out.bel.trans ((BT2.out.trans (ha3.bel.mono BT2.out.size)).mono A2.out.bel.size)).mono A1.out.bel.size)).mono B4.out.size))
  have S5 : Hid (w.heap.size ≤ (w4.drewN nq).heap.size) := B4.out.size
  clear ha3 A1 A2 BT2 RX2 RY I7 I5 B4 HA0 HB0
  have I8 := hid (AA.out.in0.below AA.out.b48)
  go_wp2_with fail
  refine (same_self (some ⟨ga, 0, none⟩) ao n cA ca f _ (by omega) I8.out.xs.2.2.2.2.1 I8.out.ra).mono ?_
  rintro e w9 ⟨rfl, q9, hq9⟩
  have I9 := hid (hq9 ▸ I8.out.below (below_drewN (Below.refl _ _) q9)); have W9 := hid hq9
  clear hq9 I8
  go_wp2_with fail
  refine (same_self (some ⟨gb, 0, none⟩) bo m cB cb h _ (by omega) I9.out.xs.2.2.2.2.2 I9.out.rb).mono ?_
  rintro e w10 ⟨rfl, q10, hq10⟩
  have I10 := hid (hq10 ▸ I9.out.below (below_drewN (Below.refl _ _) q10))
  have W10 := hid (hq10.trans (by rw [W9.out, World.drewN_drewN]))
  clear hq10 I9 W9
  obtain ⟨_, ca1, ca2, _, _⟩ := cat_rd I10.out.xa
  obtain ⟨_, cb1, cb2, _, _⟩ := cat_rd I10.out.xb
  have i5 : ((n : Nat) : Int) < ((n + 2 : Nat) : Int) := by omega
  have i6 : ((m : Nat) : Int) < ((m + 2 : Nat) : Int) := by omega
  go_wp2_with fail
  clear ca1 ca2 cb1 cb2 i5 i6 I10 i1 i2 i3 i4 hu1 hu2
  obtain ⟨w5, hw5⟩ : ∃ x : World, x = w4.drewN nq := ⟨_, rfl⟩
  rw [← hw5] at AA S5
  clear hw5
  go_loopw [96] (fun t wr => ∃ (i : Nat) (L : Nat → Ls), i ≤ 8 ∧ t = .int .i64 i ∧ Hid (K1 8 w5.heap.size w6.heap.size w8 wr g1 i i one L)) (fun t _ => 8 - (intOf t).toNat)
  case atStart => exact ⟨0, one, by omega, rfl, W10.out ▸ AA.out.k1.drewN _⟩
  case round =>
    clear W10
    obtain ⟨i, L, hi8, rfl, HK⟩ := hrel
    by_cases hlt : i < 8
    · obtain ⟨wr1, hwr1⟩ : ∃ x : World, x = wr := ⟨wr, rfl⟩
      subst hwr1
      obtain ⟨S2, S3, I4⟩ := AA.out.t1 HK.out.tur
      have hLi := HK.out.old i (Nat.le_refl _) hlt
      obtain ⟨p1, n1, c1, f1, hone⟩ : ∃ a b c d, one i = ⟨a, b, c, d⟩ := ⟨_, _, _, _, rfl⟩
      have hc1 : wr1.cell? ⟨g1, i, none⟩ = some (.slice p1 n1 c1) := by have := HK.out.fam.cell hlt; rw [hLi, hone] at this; exact this
      have hc2 := S2.fam.cell hlt
      have hc3 := S3.fam.cell hlt
      obtain ⟨⟨lm1, fm1, le1, v1⟩, ⟨lm2, fm2, le2, v2⟩, ⟨lm3, fm3, le3, v3⟩⟩ := AA.out.form i hlt
      rw [hone] at lm1 fm1 le1 v1
      have hle : n1 ≤ 2000 := le1
      have o1 : Lo .u64 26 wr1 ⟨p1, n1, c1, f1⟩ := by have := HK.out.own i hlt; rw [hLi, hone] at this; exact this
      have o2 := S2.own i hlt
      have o3 := S3.own i hlt
      have CS1 := hid (fun q => (same_true p1 (want i).p n1 (want i).n c1 (want i).c f1 (want i).f (wr1.drewN q) (by omega) (by omega) (show Rd .u64 (wr1.drewN q) _ _ _ from o1.rd) (show Rd .u64 (wr1.drewN q) _ _ _ from o3.rd) lm1 lm3 fm1 fm3 (v1.trans v3.symm)).mono (R' := fun e w'' => e = .returned (.bool true) ∧ ∃ n, w'' = wr1.drewN n) (fun _ _ h => ⟨h.1, (by obtain ⟨x, hx⟩ := h.2; exact ⟨_, by rw [hx, World.drewN_drewN]⟩)⟩))
      have CS2 := hid (fun q => (same_true (two i).p (want i).p (two i).n (want i).n (two i).c (want i).c (two i).f (want i).f (wr1.drewN q) (by omega) (by omega) (show Rd .u64 (wr1.drewN q) _ _ _ from o2.rd) (show Rd .u64 (wr1.drewN q) _ _ _ from o3.rd) lm2 lm3 fm2 fm3 (v2.trans v3.symm)).mono (R' := fun e w'' => e = .returned (.bool true) ∧ ∃ n, w'' = wr1.drewN n) (fun _ _ h => ⟨h.1, (by obtain ⟨x, hx⟩ := h.2; exact ⟨_, by rw [hx, World.drewN_drewN]⟩)⟩))
      have HLi := hid (hLi.trans hone)
      clear S2 S3 I4 hLi lm1 fm1 v1 lm2 fm2 le2 v2 lm3 fm3 le3 v3 o1 o2 o3 le1 hone
      have i7 : ((i : Nat) : Int) < 8 := by omega
      go_wp2
      go_quiet (first | (go_at_call 8; with_reducible exact CS1.out _) | (go_at_call 8; with_reducible exact CS2.out _))
      clear CS1 CS2 hc2 hc3
      go_wp2_with fail
      go_loopw [126] (fun t wr => ∃ (j : Nat) (f2 : Nat → Int) (L2 : Nat → Ls), j ≤ n1 ∧ t = .int .i64 j ∧ Hid (L2 i = ⟨p1, n1, c1, f2⟩) ∧ Hid (0 < j → f2 0 = 100 * (i : Int)) ∧ Hid (K1 8 w5.heap.size w6.heap.size w8 wr g1 i (i + 1) one L2)) (fun t _ => n1 - (intOf t).toNat)
      case atStart => exact ⟨0, f1, L, by omega, rfl, HLi.out, fun h => by omega, HK.out.mono.drewN _⟩
      case round =>
        obtain ⟨j, f2, L2, hj, rfl, HL2, HF0, HK2⟩ := hrel
        clear HK HLi hc1
        have hc1 : wr.cell? ⟨g1, i, none⟩ = some (.slice p1 n1 c1) := by have := HK2.out.fam.cell hlt; rw [HL2.out] at this; exact this
        have o2 : Lo .u64 26 wr ⟨p1, n1, c1, f2⟩ := by have := HK2.out.own i hlt; rw [HL2.out] at this; exact this
        by_cases hjl : j < n1
        · obtain ⟨gi, og, hpe⟩ := o2.rd.at (show 0 < n1 by omega)
          have hpe2 : p1 = some ⟨gi, og, none⟩ := hpe
          subst hpe2
          obtain ⟨gi3, e2, _⟩ := own_at o2
          cases e2
          have hcell : wr.cell? ⟨gi, j, none⟩ = some (.int .u64 (f2 j)) := by
            have := o2.rd.cell (j := j) hjl
            rw [Nat.zero_add] at this; exact this
          have hfz := own_frozen o2 j
          have i8 : ((j : Nat) : Int) < ((n1 : Nat) : Int) := by omega
          have hst := HK2.out.store hlt (Nat.lt_succ_self i) (g := gi) (j := j) (by rw [HL2.out]) (by rw [HL2.out]; exact hjl) (100 * (i : Int) + (j : Int))
          rw [HL2.out] at hst
          have HST := hid hst
          clear o2 hst hpe
          go_wp2
          go_roundw
          case rel =>
            refine ⟨j + 1, upd f2 j (100 * (i : Int) + (j : Int)), _, by omega, by go_num, updL_same _ _ _, ?_, HST.out⟩
            intro _
            by_cases h0 : j = 0
            · subst h0; rw [upd_same]; omega
            · rw [upd_other _ _ _ _ (by omega)]; exact HF0.out (by omega)
          case measure => simp [intOf]; omega
        · obtain rfl : n1 = j := by omega
          have o4 := hid (o2.alloc (.cells #[.int .u64 (9000 + (i : Int))] 26)); have K4 := hid (HK2.out.alloc (.cells #[.int .u64 (9000 + (i : Int))] 26))
          clear o2 HK2
          go_wp2_with (at_builtin; go_must (refine wpList_append_where .u64 _ rfl (.tmp 146) (.tmp 150) 22 rfl 0 26 8 Tryd.underlying22 Tryd.infoU64 p1 n1 c1 f2 rfl o4.out wr.heap.size 0 1 1 (fun _ => 9000 + (i : Int)) rfl (rd_new1 wr _ _) (by omega) (by unfold maxLen; omega) (by omega) (Nat.zero_le _) ?_))
          intro gn cn w11 hxo hgr hwh
          obtain ⟨kk, fam11⟩ := K4.out.grow hlt (g := gn) (n' := n1 + 1) (c' := cn) (f' := cat f2 n1 (fun _ => 9000 + (i : Int))) (by rw [HL2.out]; exact hgr) hxo (by rw [HL2.out]; simpa using hwh) (sp_mk hle HF0.out)
          have hcw : w11.cell? ⟨g1, i, none⟩ = some (.slice p1 n1 c1) := by have := fam11.cell hlt; rw [HL2.out] at this; exact this
          have hfw := fam11.frozen i
          have KK := hid kk
          clear o4 K4 hxo hgr hwh kk fam11 hc1
          go_wp2
          go_roundw
          case rel => exact ⟨i + 1, _, by omega, by go_num, KK.out⟩
          case measure => simp [intOf]; omega
    · have e8 : i = 8 := by omega
      have HK8 : Hid (K1 8 w5.heap.size w6.heap.size w8 wr g1 8 8 one L) := by rw [e8] at HK; exact HK
      have i9 : ¬ (((i : Nat) : Int) < 8) := by omega
      clear HK e8
      have HK := HK8
      clear HK8
      obtain ⟨wa, hwa⟩ : ∃ x : World, x = wr := ⟨wr, rfl⟩
      subst hwa
      go_wp2_with fail
      go_loopw [156] (fun t wr => ∃ (i : Nat), i ≤ 8 ∧ t = .int .i64 i ∧ Hid (K2 8 w6.heap.size w7.heap.size wa wr g2 i two)) (fun t _ => 8 - (intOf t).toNat)
      case atStart => exact ⟨0, by omega, rfl, AA.out.k2 HK.out.tur⟩
      case round =>
        obtain ⟨i, hi, rfl, HK2⟩ := hrel
        by_cases hlt2 : i < 8
        · obtain ⟨wr1, hwr1⟩ : ∃ x : World, x = wr := ⟨wr, rfl⟩
          subst hwr1
          obtain ⟨S1, S3, I4, _⟩ := AA.out.t2 HK.out HK2.out.tur
          obtain ⟨p1, n1, c1, f1, htwo⟩ : ∃ a b c d, two i = ⟨a, b, c, d⟩ := ⟨_, _, _, _, rfl⟩
          have hc2 : wr1.cell? ⟨g2, i, none⟩ = some (.slice p1 n1 c1) := by have := HK2.out.cell hlt2; rw [htwo] at this; exact this
          have hc3 := S3.fam.cell hlt2
          obtain ⟨_, ⟨lm2, fm2, le2, v2⟩, ⟨lm3, fm3, le3, v3⟩⟩ := AA.out.form i hlt2
          rw [htwo] at lm2 fm2 le2 v2
          have hle : n1 ≤ 2000 := le2
          have o2 : Lo .u64 26 wr1 ⟨p1, n1, c1, f1⟩ := by have := HK2.out.own i (Nat.le_refl _) hlt2; rw [htwo] at this; exact this
          have o3 := S3.own i hlt2
          have CS2 := hid (fun q => (same_true p1 (want i).p n1 (want i).n c1 (want i).c f1 (want i).f (wr1.drewN q) (by omega) (by omega) (show Rd .u64 (wr1.drewN q) _ _ _ from o2.rd) (show Rd .u64 (wr1.drewN q) _ _ _ from o3.rd) lm2 lm3 fm2 fm3 (v2.trans v3.symm)).mono (R' := fun e w'' => e = .returned (.bool true) ∧ ∃ n, w'' = wr1.drewN n) (fun _ _ h => ⟨h.1, (by obtain ⟨x, hx⟩ := h.2; exact ⟨_, by rw [hx, World.drewN_drewN]⟩)⟩))
          have O2 := hid o2; have HTwo := hid htwo
          clear S1 S3 I4 lm2 fm2 le2 v2 lm3 fm3 le3 v3 o2 o3 htwo
          have i7 : ((i : Nat) : Int) < 8 := by omega
          go_wp2
          go_quiet ((go_at_call 8; with_reducible exact CS2.out _))
          clear CS2 hc3
          have o4 := hid ((show Lo .u64 26 (wr1.drewN nq) ⟨p1, n1, c1, f1⟩ from O2.out).alloc (.cells #[.int .u64 (8000 + (i : Int))] 26)); have K4 := hid ((HK2.out.drewN nq).alloc (.cells #[.int .u64 (8000 + (i : Int))] 26))
          clear O2 HK2
          go_wp2_with (at_builtin; go_must (refine wpList_append_where .u64 _ rfl (.tmp 174) (.tmp 178) 22 rfl 0 26 8 Tryd.underlying22 Tryd.infoU64 p1 n1 c1 f1 rfl o4.out wr1.heap.size 0 1 1 (fun _ => 8000 + (i : Int)) rfl (rd_new1 (wr1.drewN nq) _ _) (by omega) (by unfold maxLen; omega) (by omega) (Nat.zero_le _) ?_))
          intro gn cn w11 hxo hgr hwh
          obtain ⟨kk, hcw, hfw⟩ := K4.out.grow hlt2 (some ⟨gn, 0, none⟩) (n1 + 1) cn (by rw [HTwo.out]; exact hgr)
          rw [HTwo.out] at hcw
          have hcw2 : w11.cell? ⟨g2, i, none⟩ = some (.slice p1 n1 c1) := hcw
          have KK := hid kk
          clear o4 K4 hxo hgr hwh kk hcw hc2
          go_wp2
          go_roundw
          case rel => exact ⟨i + 1, by omega, by go_num, KK.out⟩
          case measure => simp [intOf]; omega
        · have j9 : ¬ (((i : Nat) : Int) < 8) := by omega
          go_wp2_with fail
          go_loopw [184] (fun t wr => ∃ (i : Nat), i ≤ 8 ∧ t = .int .i64 i ∧ Hid (Turned w6.heap.size w7.heap.size wa wr)) (fun t _ => 8 - (intOf t).toNat)
          case atStart => exact ⟨0, by omega, rfl, HK2.out.tur⟩
          case round =>
            obtain ⟨i, hi2, rfl, HT⟩ := hrel
            clear HK2
            by_cases hlt3 : i < 8
            · obtain ⟨S1, S3, I4, _⟩ := AA.out.t2 HK.out HT.out
              obtain ⟨p1, n1, c1, f1, hL⟩ : ∃ a b c d, L i = ⟨a, b, c, d⟩ := ⟨_, _, _, _, rfl⟩
              have hsp := HK.out.new i hlt3
              have o1 := S1.own i hlt3
              have hc1 := S1.fam.cell hlt3
              rw [hL] at hsp o1 hc1
              obtain ⟨s1, s2, s3, s4⟩ := hsp
              obtain ⟨k, rfl⟩ : ∃ k, n1 = k + 1 := ⟨n1 - 1, by have : 0 < n1 := s1; omega⟩
              obtain ⟨gi, og, hpe⟩ := o1.rd.at (show 0 < k + 1 by omega)
              have hpe2 : p1 = some ⟨gi, og, none⟩ := hpe
              subst hpe2
              obtain ⟨gi3, e2, _⟩ := own_at o1
              cases e2
              have hcl : wr.cell? ⟨gi, k, none⟩ = some (.int .u64 (9000 + (i : Int))) := by
                have := o1.rd.cell (j := k) (Nat.lt_succ_self k)
                rw [Nat.zero_add] at this
                have h9 : f1 k = 9000 + (i : Int) := s3
                rw [this]; show some (Value.int _ (f1 k)) = _; rw [h9]
              have hc0 : 0 < k → wr.cell? ⟨gi, 0, none⟩ = some (.int .u64 (100 * (i : Int))) := by
                intro hk
                have := o1.rd.cell (j := 0) (Nat.succ_pos k)
                have h9 : f1 0 = 100 * (i : Int) := s4 (by show 1 < k + 1; omega)
                rw [Nat.zero_add] at this
                rw [this]; show some (Value.int _ (f1 0)) = _; rw [h9]
              have hk4 : k + 1 ≤ 4096 := s2
              have HC0 := hid hc0
              have hcg : wr.cell? ⟨g1, i, none⟩ = some (.slice (some ⟨gi, 0, none⟩) (k + 1) c1) := hc1
              clear S1 S3 I4 s1 s2 s3 s4 o1 hc1 hpe hc0
              have i7 : ((i : Nat) : Int) < 8 := by omega
              by_cases hk : 0 < k
              · have hc0 := HC0.out hk
                have i8 : (0 : Int) < ((k : Nat) : Int) := by omega
                go_wp2
                go_roundw
                case rel => exact ⟨i + 1, by omega, by go_num, HT.out⟩
                case measure => simp [intOf]; omega
              · obtain rfl : k = 0 := by omega
                go_wp2
                go_roundw
                case rel => exact ⟨i + 1, by omega, by go_num, HT.out⟩
                case measure => simp [intOf]; omega
            · have k9 : ¬ (((i : Nat) : Int) < 8) := by omega
              obtain ⟨S1, S3, hI, hB⟩ := AA.out.t2 HK.out HT.out
              have BF := hid (B8.out.trans (hB.mono S5.out))
              have I8 := hid hI
              clear S1 S3 hI hB HT HK
              go_wp2_with fail
              refine (same_self (some ⟨ga, 0, none⟩) ao n cA ca f _ (by omega) I8.out.xs.2.2.2.2.1 I8.out.ra).mono ?_
              rintro e w19 ⟨rfl, q19, hq19⟩
              have I9 := hid (hq19 ▸ I8.out.below (below_drewN (Below.refl _ _) q19)); have BF2 := hid (hq19 ▸ below_drewN BF.out q19)
              clear hq19 I8 BF
              go_wp2_with fail
              refine (same_self (some ⟨gb, 0, none⟩) bo m cB cb h _ (by omega) I9.out.xs.2.2.2.2.2 I9.out.rb).mono ?_
              rintro e w20 ⟨rfl, q20, hq20⟩
              have I10 := hid (hq20 ▸ I9.out.below (below_drewN (Below.refl _ _) q20)); have BF := hid (hq20 ▸ below_drewN BF2.out q20)
              clear hq20 I9 BF2
              obtain ⟨_, ca1, ca2, _, _⟩ := cat_rd I10.out.xa
              obtain ⟨_, cb1, cb2, _, _⟩ := cat_rd I10.out.xb
              have i5 : ((n : Nat) : Int) < ((n + 2 : Nat) : Int) := by omega
              have i6 : ((m : Nat) : Int) < ((m + 2 : Nat) : Int) := by omega
              go_wp2
              go_ret
              exact ⟨rfl, BF.out⟩
theorem natKeeps_k (ao : Option Addr) (n ca : Nat) (f : Nat → Int) (bo : Option Addr) (m cb : Nat) (h : Nat → Int) (w : World) (hn : n ≤ 9223372036854775807) (hr : Rd .u64 w ao n f) (hf : Lm f n) (hna : ao = none → n = 0 ∧ ca = 0) (hm : m ≤ 9223372036854775807) (hs : Rd .u64 w bo m h) (hh : Lm h m) (hnb : bo = none → m = 0 ∧ cb = 0) (htab : Tab w) :
    Calls Tryd.prog 3 #[.slice ao n ca, .slice bo m cb] w fun e w' => e = .returned (.bool true) ∧ Below w.heap.size w w' :=
  natKeeps_c ao bo n m ca cb f h w hn hm hr hs hf hh hna hnb htab
end Go.Proofs.YtclopblgdiahiaaDoor
