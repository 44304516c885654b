/-
  The walk of package farkas' through, with any visitor (written by makers/fk1.py). The walks of package point's Activities, Feasible, Value, whatever they are handed (written by makers/n6.py). The walks of package ray's times, free, endless, slope, by values (written by makers/ra1.py). The walks of package farkas' small calls, and of the visitors that set a flag: anyInfinite, anyBelow. The walks of package farkas' plus, times, weight, noughts, allZero (written by makers/fk3.py). Columns of sums and of lists of numbers, lengths; Dot whatever it is handed. The walk of the visitor that adds up bounds with their multipliers (written by makers/fk4.py).
-/
import Derived.Test.YtedpomledbgpoaaGreatZ0
import Derived.Test.YtedpomledbgpoaaGreatZ10
import Derived.Test.YtedpomledbgpoaaGreatZ5
import Derived.Test.YtedpomledbgpoaaGreatZ6
namespace Go.Proofs.YtedpomledbgpoaaGreat
open Go.RowKit

/-- What a call leaves but for the blocks of F. -/
structure Fr (F : Nat → Prop) (w w' : World) : Prop where
  os : w'.os = w.os
  tape : w'.tape = w.tape
  output : w'.output = w.output
  size : w.heap.size ≤ w'.heap.size
  block : ∀ k, k < w.heap.size → ¬ F k → w'.heap[k]? = w.heap[k]?
  kp : ∀ a k f, Rd .u64 w a k f → Rd .u64 w' a k f
theorem Fr.of {F w w'} (h : Below w.heap.size w w') : Fr F w w' := ⟨h.os, h.tape, h.output, h.size, fun k hk _ => h.block k hk, fun _ _ _ r => r.kp (Kp.of_below h)⟩
theorem Fr.refl (F : Nat → Prop) (w : World) : Fr F w w := ⟨rfl, rfl, rfl, Nat.le_refl _, fun _ _ _ => rfl, fun _ _ _ r => r⟩
theorem Fr.trans {F w w1 w2} (h : Fr F w w1) (k : Fr F w1 w2) : Fr F w w2 :=
  ⟨k.os.trans h.os, k.tape.trans h.tape, k.output.trans h.output, Nat.le_trans h.size k.size, fun j hj hn => (k.block j (Nat.lt_of_lt_of_le hj h.size) hn).trans (h.block j hj hn), fun _ _ _ r => k.kp _ _ _ (h.kp _ _ _ r)⟩
theorem Fr.rn {F w w' L s x n c f y m d g q} (h : Fr F w w') (r : Rn L w s x n c f y m d g q) : Rn L w' s x n c f y m d g q :=
  ⟨⟨h.kp _ _ _ r.num.rd, r.num.lm, r.num.wf, r.num.cap, r.num.nil, r.num.val⟩, ⟨h.kp _ _ _ r.den.rd, r.den.lm, r.den.wf, r.den.cap, r.den.nil, r.den.val⟩, r.ln, r.ld⟩
theorem Fr.imp {F G : Nat → Prop} {w w'} (h : Fr F w w') (hi : ∀ k, F k → G k) : Fr G w w' := ⟨h.os, h.tape, h.output, h.size, fun k hk hn => h.block k hk (fun hf => hn (hi k hf)), h.kp⟩
theorem Fr.below {F w0 w w'} (h0 : Below w0.heap.size w0 w) (h : Fr F w w') (hF : ∀ k, F k → w0.heap.size ≤ k) : Below w0.heap.size w0 w' :=
  ⟨h.os.trans h0.os, h.tape.trans h0.tape, h.output.trans h0.output, Nat.le_trans h0.size h.size, fun k hk => (h.block k (Nat.lt_of_lt_of_le hk h0.size) (fun hf => by have := hF k hf; omega)).trans (h0.block k hk)⟩
theorem Fr.bk {F w w' B vs t} (h : Fr F w w') (hb : Bk w B vs t) (hn : ¬ F B) : Bk w' B vs t := (h.block B hb.lt hn).trans hb
theorem RowV.tfv {L w r v} (h : RowV L w r v) : Tf L w r.ta v.ts := fun j a q e => by
  obtain ⟨h1, h2, b, o, h3, h4⟩ := h.tl j a q e
  exact ⟨b, o, r.T j, h3, by rw [h1] at h4; exact h4, h2⟩
theorem Fr.cell {F w w' b o v} (h : Fr F w w') (hn : ¬ F b) (hc : w.cell? ⟨b, o, none⟩ = some v) : w'.cell? ⟨b, o, none⟩ = some v := (World.cell?_of_block (a := ⟨b, o, none⟩) (h.block b (World.block_lt_of_cell? w _ hc) hn)).trans hc
theorem Tf.fr {F L w w' ao v} (h : Tf L w ao v) (hf : Fr F w w') (hn : ∀ b o, ao = some ⟨b, o, none⟩ → ¬ F b) : Tf L w' ao v := fun j a q e => by
  obtain ⟨b, o, t, h1, h2, h3⟩ := h j a q e
  have hb := hn b o h1
  exact ⟨b, o, t, h1, ⟨hf.cell hb h2.x0, hf.cell hb h2.x1, hf.cell hb h2.x2, hf.cell hb h2.x3⟩, hf.rn h3⟩
/-- A bound in memory, and its values. -/
structure Bd where
  by' : Nm
  at' : Ex
  up : Bool
  ta : Option Addr
  tk : Nat
  tc : Nat
def Bd.val (B : Bd) : Value := .agg #[.bool B.by'.s, .slice B.by'.x B.by'.n B.by'.c, .slice B.by'.y B.by'.m B.by'.d, .int .i64 B.at'.i, .bool B.at'.v.s, .slice B.at'.v.x B.at'.v.n B.at'.v.c, .slice B.at'.v.y B.at'.v.m B.at'.v.d, .bool B.up, .slice B.ta B.tk B.tc]
structure BV where
  q : Rat
  i : Int
  a : Rat
  up : Bool
  ts : List (Int × Rat)
structure BdV (L : Nat) (w : World) (B : Bd) (b : BV) : Prop where
  q : NmV L w B.by' b.q
  i : B.at'.i = b.i
  a : NmV L w B.at'.v b.a
  up : B.up = b.up
  tk : b.ts.length = B.tk
  ts : Tf L w B.ta b.ts
theorem BdV.below {L w w' B b} (h : BdV L w B b) (hb : Below w.heap.size w w') : BdV L w' B b := ⟨h.q.below hb, h.i, h.a.below hb, h.up, h.tk, h.ts.below hb⟩
/-- The bounds of rows, of columns, with their multipliers. -/
def bdR : List RV → List Rat → List Rat → List BV
  | v :: rs, p :: ps, q :: qs => ⟨p, v.li, v.lq, false, v.ts⟩ :: ⟨q, v.hi, v.hq, true, v.ts⟩ :: bdR rs ps qs
  | _, _, _ => []
def bdC : Int → List CV → List Rat → List Rat → List BV
  | j, v :: cs, p :: ps, q :: qs => ⟨p, v.li, v.lq, false, [(j, 1)]⟩ :: ⟨q, v.hi, v.hq, true, [(j, 1)]⟩ :: bdC (j + 1) cs ps qs
  | _, _, _, _ => []
theorem bdR_len : ∀ (rs : List RV) (ps qs : List Rat), (bdR rs ps qs).length ≤ 2 * rs.length
  | [], _, _ => by simp [bdR]
  | _ :: _, [], _ => by simp [bdR]
  | _ :: _, _ :: _, [] => by simp [bdR]
  | _ :: rs, _ :: ps, _ :: qs => by have := bdR_len rs ps qs; simp [bdR]; omega
theorem bdC_len : ∀ (j : Int) (cs : List CV) (ps qs : List Rat), (bdC j cs ps qs).length ≤ 2 * cs.length
  | _, [], _, _ => by simp [bdC]
  | _, _ :: _, [], _ => by simp [bdC]
  | _, _ :: _, _ :: _, [] => by simp [bdC]
  | j, _ :: cs, _ :: ps, _ :: qs => by have := bdC_len (j + 1) cs ps qs; simp [bdC]; omega
theorem bdR_take : ∀ (i : Nat) (rs : List RV) (ps qs : List Rat) (v : RV) (p q : Rat), rs[i]? = some v → ps[i]? = some p → qs[i]? = some q →
    bdR (rs.take (i + 1)) (ps.take (i + 1)) (qs.take (i + 1)) = bdR (rs.take i) (ps.take i) (qs.take i) ++ [⟨p, v.li, v.lq, false, v.ts⟩] ++ [⟨q, v.hi, v.hq, true, v.ts⟩]
  | i, [], _, _, _, _, _, h, _, _ => by simp at h
  | i, _ :: _, [], _, _, _, _, _, h, _ => by simp at h
  | i, _ :: _, _ :: _, [], _, _, _, _, _, h => by simp at h
  | 0, r :: rs, p' :: ps, q' :: qs, v, p, q, h1, h2, h3 => by
    simp only [List.getElem?_cons_zero, Option.some.injEq] at h1 h2 h3
    subst h1; subst h2; subst h3; simp [bdR]
  | i + 1, r :: rs, p' :: ps, q' :: qs, v, p, q, h1, h2, h3 => by
    simp only [List.getElem?_cons_succ] at h1 h2 h3
    have := bdR_take i rs ps qs v p q h1 h2 h3
    simp only [List.take_succ_cons, bdR, this, List.cons_append]
theorem bdC_take : ∀ (i : Nat) (j : Int) (cs : List CV) (ps qs : List Rat) (v : CV) (p q : Rat), cs[i]? = some v → ps[i]? = some p → qs[i]? = some q →
    bdC j (cs.take (i + 1)) (ps.take (i + 1)) (qs.take (i + 1)) = bdC j (cs.take i) (ps.take i) (qs.take i) ++ [⟨p, v.li, v.lq, false, [(j + i, 1)]⟩] ++ [⟨q, v.hi, v.hq, true, [(j + i, 1)]⟩]
  | i, _, [], _, _, _, _, _, h, _, _ => by simp at h
  | i, _, _ :: _, [], _, _, _, _, _, h, _ => by simp at h
  | i, _, _ :: _, _ :: _, [], _, _, _, _, _, h => by simp at h
  | 0, j, r :: cs, p' :: ps, q' :: qs, v, p, q, h1, h2, h3 => by
    simp only [List.getElem?_cons_zero, Option.some.injEq] at h1 h2 h3
    subst h1; subst h2; subst h3; simp [bdC]
  | i + 1, j, r :: cs, p' :: ps, q' :: qs, v, p, q, h1, h2, h3 => by
    simp only [List.getElem?_cons_succ] at h1 h2 h3
    have := bdC_take i (j + 1) cs ps qs v p q h1 h2 h3
    simp only [List.take_succ_cons, bdC, this, List.cons_append]
    rw [show j + 1 + (i : Int) = j + ((i + 1 : Nat) : Int) by omega]
theorem Tf.nf {F : Nat → Prop} {L w ao} {v : List (Int × Rat)} (h : Tf L w ao v) (hF : ∀ k, F k → w.heap.size ≤ k) : v ≠ [] → ∀ b o, ao = some ⟨b, o, none⟩ → ¬ F b := fun hne b o e hf => by
  match v, h, hne with
  | (z, q) :: r, h, _ =>
    obtain ⟨b2, o2, t, h1, h2, h3⟩ := h 0 z q rfl
    rw [e] at h1
    cases h1
    have h4 := World.block_lt_of_cell? w _ h2.x0
    have h5 := hF _ hf
    have h6 : b < w.heap.size := h4
    omega
theorem ts_one {n i : Nat} (h : i < n) : tsB n (-1) [((i : Int), (1 : Rat))] = true := by
  simp only [tsB, Bool.and_eq_true, decide_eq_true_eq]
  exact ⟨by omega, by omega, by decide, trivial⟩
set_option maxRecDepth 100000 in
set_option maxHeartbeats 8000000 in
theorem through_c {w0 w : World} {L nf : Nat} {M : Mo} {off : Rat} {cs : List CV} {rs : List RV} {F : Nat → Prop} {I : List BV → World → Prop} {caps : Array Value} {a1 a2 a3 a4 : Option Addr} {k1 k2 k3 k4 e1 e2 e3 e4 : Nat} {l1 l2 l3 l4 : List Rat}
    (h0 : Below w0.heap.size w0 w) (hF : ∀ k, F k → w0.heap.size ≤ k ∧ k < w.heap.size) (hM : MoV L w0 M off cs rs) (hP : MvP cs rs) (hT : ∀ v ∈ rs, tsB cs.length (-1) v.ts = true) (hx1 : Rf L w0 a1 l1) (hx2 : Rf L w0 a2 l2) (hx3 : Rf L w0 a3 l3) (hx4 : Rf L w0 a4 l4)
    (hl : l1.length = k1 ∧ l2.length = k2 ∧ l3.length = k3 ∧ l4.length = k4) (hk : k1 = rs.length ∧ k2 = rs.length ∧ k3 = cs.length ∧ k4 = cs.length) (hL1 : 4 ≤ L)
    (hcf : ∀ (a : Array Value) (W : World), (callFunc nf a).run Tryz.prog W = .ok (.enter nf a) W) (hI : ∀ l W W', I l W → Below W.heap.size W W' → I l W')
    (hs : ∀ l b (B : Bd) W, l.length < 256 → tsB cs.length (-1) b.ts = true → (b.ts ≠ [] → ∀ b' o', B.ta = some ⟨b', o', none⟩ → ¬ F b') → Below w0.heap.size w0 W → w.heap.size ≤ W.heap.size → I l W → BdV L W B b → Calls Tryz.prog nf (#[B.val] ++ caps) W fun e W' => e = .returned (.tuple #[]) ∧ Fr F W W' ∧ I (l ++ [b]) W') (hi : I [] w) :
    Calls Tryz.prog 43 #[M.val, .agg #[.slice a1 k1 e1, .slice a2 k2 e2, .slice a3 k3 e3, .slice a4 k4 e4], .func (.func nf) #[] caps] w fun e w' => e = .returned (.tuple #[]) ∧ Fr F w w' ∧ I (bdR rs l1 l2 ++ bdC 0 cs l3 l4) w' := by
  obtain ⟨q1, q2, q3, q4⟩ := hk
  subst q1; subst q2; subst q3; subst q4
  have hcl := hP.cl
  have hrl := hP.rl
  obtain ⟨⟨s, x, n, c, f, y, m, d, g⟩, ca, ck, cc, C, ra, rk, rc, R⟩ := M
  have hck : ck = cs.length := hM.ck
  have hrk : rk = rs.length := hM.rk
  subst hck; subst hrk
  have HC : Hid (∀ j v, cs[j]? = some v → (∃ b o, ca = some ⟨b, o, none⟩ ∧ Cs w0 b (o + j * 12) (C j).vs) ∧ ColV L w0 (C j) v) := hM.cls
  have HR : Hid (∀ j v, rs[j]? = some v → (∃ b o, ra = some ⟨b, o, none⟩ ∧ Cs w0 b (o + j * 10) (R j).vs) ∧ RowV L w0 (R j) v) := hM.rls
  have HT0 := hid hT; have HX1 := hid hx1; have HX2 := hid hx2; have HX3 := hid hx3; have HX4 := hid hx4; have HL := hid hl; have HI := hid hI; have HS := hid hs; have HF := hid hF
  have HI0 := hid hi; have HB0 := hid h0
  clear hM hP hT hx1 hx2 hx3 hx4 hl hI hs hF hi h0
  show Calls Tryz.prog 43 #[.agg #[.bool s, .slice x n c, .slice y m d, .slice ca cs.length cc, .slice ra rs.length rc], .agg #[.slice a1 rs.length e1, .slice a2 rs.length e2, .slice a3 cs.length e3, .slice a4 cs.length e4], .func (.func nf) #[] caps] w _
  have hb := below_alloc (below_alloc (Below.refl w.heap.size w) (.cells #[.bool s, .slice x n c, .slice y m d, .slice ca cs.length cc, .slice ra rs.length rc] 28)) (.cells #[.slice a1 rs.length e1, .slice a2 rs.length e2, .slice a3 cs.length e3, .slice a4 cs.length e4] 31)
  have BM : Hid (Bk ((w.alloc (.cells #[.bool s, .slice x n c, .slice y m d, .slice ca cs.length cc, .slice ra rs.length rc] 28)).alloc (.cells #[.slice a1 rs.length e1, .slice a2 rs.length e2, .slice a3 cs.length e3, .slice a4 cs.length e4] 31)) w.heap.size [.bool s, .slice x n c, .slice y m d, .slice ca cs.length cc, .slice ra rs.length rc] 28) := (bk_new w [.bool s, .slice x n c, .slice y m d, .slice ca cs.length cc, .slice ra rs.length rc] 28).below (below_alloc (Below.refl _ _) _)
  have BK : Hid (Bk ((w.alloc (.cells #[.bool s, .slice x n c, .slice y m d, .slice ca cs.length cc, .slice ra rs.length rc] 28)).alloc (.cells #[.slice a1 rs.length e1, .slice a2 rs.length e2, .slice a3 cs.length e3, .slice a4 cs.length e4] 31)) (w.heap.size + 1) [.slice a1 rs.length e1, .slice a2 rs.length e2, .slice a3 cs.length e3, .slice a4 cs.length e4] 31) := by
    have := bk_new (w.alloc (.cells #[.bool s, .slice x n c, .slice y m d, .slice ca cs.length cc, .slice ra rs.length rc] 28)) [.slice a1 rs.length e1, .slice a2 rs.length e2, .slice a3 cs.length e3, .slice a4 cs.length e4] 31
    rw [size_alloc1] at this; exact this
  have r4 := BM.out.cell (j := 4) rfl
  go_enter Tryz.func43, Tryz.ntmps43
  go_wp2_with fail
  clear r4
  replace HI0 := hid (HI.out _ _ _ HI0.out hb); have HFr := hid (Fr.of (F := F) hb); replace HB0 := hid (HB0.out.trans (hb.mono HB0.out.size))
  have hsz := hb.size
  clear hb
  generalize ((w.alloc (.cells #[.bool s, .slice x n c, .slice y m d, .slice ca cs.length cc, .slice ra rs.length rc] 28)).alloc (.cells #[.slice a1 rs.length e1, .slice a2 rs.length e2, .slice a3 cs.length e3, .slice a4 cs.length e4] 31)) = w2 at *
  go_loopw [14] (fun t wr => ∃ (i : Nat), i ≤ rs.length ∧ t = .int .i64 i ∧ Hid (Fr F w2 wr) ∧ Hid (I (bdR (rs.take i) (l1.take i) (l2.take i)) wr)) (fun t _ => rs.length - (intOf t).toNat)
  case atStart => exact ⟨0, by omega, rfl, Fr.refl _ _, HI0.out⟩
  case round =>
    clear HI0
    obtain ⟨i, hi, rfl, HG, HJ⟩ := hrel
    by_cases hlt : i < rs.length
    · obtain ⟨v, hv⟩ : ∃ v, rs[i]? = some v := ⟨_, List.getElem?_eq_getElem hlt⟩
      obtain ⟨p, hp⟩ : ∃ t, l1[i]? = some t := ⟨_, List.getElem?_eq_getElem (by have := HL.out.1; omega)⟩
      obtain ⟨q, hq⟩ : ∃ t, l2[i]? = some t := ⟨_, List.getElem?_eq_getElem (by have := HL.out.2.1; omega)⟩
      have hbw := Fr.below HB0.out HG.out (fun k hf => (HF.out k hf).1)
      obtain ⟨⟨b, o, hra, hc0⟩, hn0⟩ := HR.out i v hv
      subst hra
      have hc := hc0.below hbw
      obtain ⟨b5, o5, ⟨s5, x5, n5, c5, f5, y5, m5, d5, g5⟩, ha5, hc5, hr5⟩ := HX1.out i p hp
      subst ha5
      obtain ⟨b6, o6, ⟨s6, x6, n6, c6, f6, y6, m6, d6, g6⟩, ha6, hc6, hr6⟩ := HX2.out i q hq
      subst ha6
      have hb5 := World.block_lt_of_cell? w0 _ hc5.x0; have hb6 := World.block_lt_of_cell? w0 _ hc6.x0
      have HF5 : Hid (¬ F b5) := fun hf => by have := (HF.out _ hf).1; have h9 : b5 < w0.heap.size := hb5; omega
      have HF6 : Hid (¬ F b6) := fun hf => by have := (HF.out _ hf).1; have h9 : b6 < w0.heap.size := hb6; omega
      obtain ⟨p0, p1, p2⟩ := hc5.below hbw
      obtain ⟨q0, q1, q2⟩ := hc6.below hbw
      have hvm := List.mem_of_getElem? hv
      have htl := HT0.out v hvm
      have hts := hn0.tfv
      obtain ⟨⟨z, ⟨i1, ⟨s1, x1, n1, c1, f1, y1, m1, d1, g1⟩⟩, ⟨i2, ⟨s2, x2, n2, c2, f2, y2, m2, d2, g2⟩⟩, ta, tk, tc, tcol, tt⟩, hCi⟩ : ∃ t, R i = t := ⟨_, rfl⟩
      rw [hCi] at hc hn0 hts
      replace p0 : wr.cell? ⟨b5, o5 + i * 3, none⟩ = some (.bool s5) := p0
      replace p1 : wr.cell? ⟨b5, o5 + i * 3 + 1, none⟩ = some (.slice x5 n5 c5) := p1
      replace p2 : wr.cell? ⟨b5, o5 + i * 3 + 2, none⟩ = some (.slice y5 m5 d5) := p2
      replace q0 : wr.cell? ⟨b6, o6 + i * 3, none⟩ = some (.bool s6) := q0
      replace q1 : wr.cell? ⟨b6, o6 + i * 3 + 1, none⟩ = some (.slice x6 n6 c6) := q1
      replace q2 : wr.cell? ⟨b6, o6 + i * 3 + 2, none⟩ = some (.slice y6 m6 d6) := q2
      have t0 : wr.cell? ⟨b, o + i * 10, none⟩ = some (.string z) := hc 0 _ rfl
      have t1 : wr.cell? ⟨b, o + i * 10 + 1, none⟩ = some (.int .i64 i1) := hc 1 _ rfl
      have t2 : wr.cell? ⟨b, o + i * 10 + 2, none⟩ = some (.bool s1) := hc 2 _ rfl
      have t3 : wr.cell? ⟨b, o + i * 10 + 3, none⟩ = some (.slice x1 n1 c1) := hc 3 _ rfl
      have t4 : wr.cell? ⟨b, o + i * 10 + 4, none⟩ = some (.slice y1 m1 d1) := hc 4 _ rfl
      have t5 : wr.cell? ⟨b, o + i * 10 + 5, none⟩ = some (.int .i64 i2) := hc 5 _ rfl
      have t6 : wr.cell? ⟨b, o + i * 10 + 6, none⟩ = some (.bool s2) := hc 6 _ rfl
      have t7 : wr.cell? ⟨b, o + i * 10 + 7, none⟩ = some (.slice x2 n2 c2) := hc 7 _ rfl
      have t8 : wr.cell? ⟨b, o + i * 10 + 8, none⟩ = some (.slice y2 m2 d2) := hc 8 _ rfl
      have t9 : wr.cell? ⟨b, o + i * 10 + 9, none⟩ = some (.slice ta tk tc) := hc 9 _ rfl
      have V1 : Hid (BdV L w0 ⟨⟨s5, x5, n5, c5, f5, y5, m5, d5, g5⟩, ⟨i1, ⟨s1, x1, n1, c1, f1, y1, m1, d1, g1⟩⟩, false, ta, tk, tc⟩ ⟨p, v.li, v.lq, false, v.ts⟩) := ⟨hr5, hn0.li, hn0.lq, rfl, hn0.tk.symm, hts⟩
      have V2 : Hid (BdV L w0 ⟨⟨s6, x6, n6, c6, f6, y6, m6, d6, g6⟩, ⟨i2, ⟨s2, x2, n2, c2, f2, y2, m2, d2, g2⟩⟩, true, ta, tk, tc⟩ ⟨q, v.hi, v.hq, true, v.ts⟩) := ⟨hr6, hn0.hi, hn0.hq, rfl, hn0.tk.symm, hts⟩
      have i1' : ((i : Nat) : Int) < ((rs.length : Nat) : Int) := by omega
      have hbt := below_alloc (Below.refl wr.heap.size wr) (.cells #[.string z, .int .i64 i1, .bool s1, .slice x1 n1 c1, .slice y1 m1 d1, .int .i64 i2, .bool s2, .slice x2 n2 c2, .slice y2 m2 d2, .slice ta tk tc] 69)
      have BC : Bk (wr.alloc (.cells #[.string z, .int .i64 i1, .bool s1, .slice x1 n1 c1, .slice y1 m1 d1, .int .i64 i2, .bool s2, .slice x2 n2 c2, .slice y2 m2 d2, .slice ta tk tc] 69)) wr.heap.size [.string z, .int .i64 i1, .bool s1, .slice x1 n1 c1, .slice y1 m1 d1, .int .i64 i2, .bool s2, .slice x2 n2 c2, .slice y2 m2 d2, .slice ta tk tc] 69 := bk_new wr [.string z, .int .i64 i1, .bool s1, .slice x1 n1 c1, .slice y1 m1 d1, .int .i64 i2, .bool s2, .slice x2 n2 c2, .slice y2 m2 d2, .slice ta tk tc] 69
      have BK1 := HG.out.bk BK.out (fun hf => by have := (HF.out _ hf).2; omega)
      have HLn := hid (bdR_len (rs.take i) (l1.take i) (l2.take i))
      have HBD := hid (bdR_take i rs l1 l2 v p q hv hp hq)
      have HTL := hid htl; have HNT := hid (hts.nf (fun k hf => (HF.out k hf).1))
      clear hc5 hc6 hb5 hb6 hc hc0 hn0 hv hp hq hr5 hr6 hvm htl hts hCi
      go_upto_region 4 with fail
      clear t0 t1 t2 t3 t4 t5 t6 t7 t8 t9
      replace HJ := hid (HI.out _ _ _ HJ.out hbt)
      have HBw := hid (hbw.trans (hbt.mono hbw.size)); have HG1 := hid (HG.out.trans (Fr.of hbt)); have BK2 := hid (BK1.below hbt); have BC2 := hid BC
      have hs5 := Nat.le_trans hsz (Nat.le_trans HG.out.size hbt.size)
      replace p0 := kCb hbt p0
      replace p1 := kCb hbt p1
      replace p2 := kCb hbt p2
      replace q0 := kCb hbt q0
      replace q1 := kCb hbt q1
      replace q2 := kCb hbt q2
      have hbr : w2.heap.size ≤ wr.heap.size := HG.out.size
      have FK : Hid (¬ F (w.heap.size + 1)) := fun hf => by have := (HF.out _ hf).2; omega
      have FB : Hid (¬ F wr.heap.size) := fun hf => by have := (HF.out _ hf).2; omega
      clear hbt BC BK1 hbw HG
      generalize hbx : wr.heap.size = bx at *
      generalize wr.alloc (.cells #[.string z, .int .i64 i1, .bool s1, .slice x1 n1 c1, .slice y1 m1 d1, .int .i64 i2, .bool s2, .slice x2 n2 c2, .slice y2 m2 d2, .slice ta tk tc] 69) = w5 at *
      clear hbx
      have k0 := BK2.out.cell (j := 0) rfl
      have a1 := BC2.out.cell (j := 1) rfl
      have a2 := BC2.out.cell (j := 2) rfl
      have a3 := BC2.out.cell (j := 3) rfl
      have a4 := BC2.out.cell (j := 4) rfl
      have a9 := BC2.out.cell (j := 9) rfl
      refine wp_region_held_drew (S := (fun w' => w'.cell? ⟨w.heap.size + 1, 0, none⟩ = some (.slice (some ⟨b5, o5, none⟩) rs.length e1) ∧ w'.cell? ⟨b5, o5 + i * 3, none⟩ = some (.bool s5) ∧ w'.cell? ⟨b5, o5 + i * 3 + 1, none⟩ = some (.slice x5 n5 c5) ∧ w'.cell? ⟨b5, o5 + i * 3 + 2, none⟩ = some (.slice y5 m5 d5) ∧ w'.cell? ⟨bx, 1, none⟩ = some (.int .i64 i1) ∧ w'.cell? ⟨bx, 2, none⟩ = some (.bool s1) ∧ w'.cell? ⟨bx, 3, none⟩ = some (.slice x1 n1 c1) ∧ w'.cell? ⟨bx, 4, none⟩ = some (.slice y1 m1 d1) ∧ w'.cell? ⟨bx, 9, none⟩ = some (.slice ta tk tc))) (by kernel_rfl) ?_ (fun hHeld => ?_)
      · (refine ⟨?_, ?_, ?_, ?_, ?_, ?_, ?_, ?_, ?_⟩ <;> repeat (with_reducible first | assumption | refine kCd ?_))
      have hbd := Below.drew (Below.refl w5.heap.size w5)
      replace HJ := hid (HI.out _ _ _ HJ.out hbd)
      have HBd := hid (HBw.out.trans (hbd.mono HBw.out.size))
      have hsd := Nat.le_trans hs5 hbd.size
      refine tkO 0 ?_
      simp only [lay_, Act.put]
      refine tkO 1 ?_
      simp only [lay_, Act.put]
      refine tkO 2 ?_
      simp only [lay_, Act.put]
      refine tkO 3 ?_
      simp only [lay_, Act.put]
      refine tkO 4 ?_
      simp only [lay_, Act.put]
      refine tkO 5 ?_
      simp only [lay_, Act.put]
      refine tkO 6 ?_
      simp only [lay_, Act.put]
      refine tkO 7 ?_
      simp only [lay_, Act.put]
      refine tkO 8 ?_
      simp only [lay_, Act.put]
      refine tkO 9 ?_
      simp only [lay_, Act.put]
      refine tkO 10 ?_
      simp only [lay_, Act.put]
      refine wpAnyH_ready (rs := [11]) (by kernel_rfl) (by simp) ?_
      refine AllReadyH.cons (o := _) rfl (fun K hK => ?_) ?_
      rotate_left
      exact AllReadyH.nil
      go_simp
      refine (HS.out _ ⟨p, v.li, v.lq, false, v.ts⟩ ⟨⟨s5, x5, n5, c5, f5, y5, m5, d5, g5⟩, ⟨i1, ⟨s1, x1, n1, c1, f1, y1, m1, d1, g1⟩⟩, false, ta, tk, tc⟩ _ (by have := HLn.out; rw [List.length_take] at this; omega) HTL.out HNT.out HBd.out hsd HJ.out (V1.out.below HBd.out)).mono ?_
      rintro e w6 ⟨rfl, hfr, hj⟩
      refine hK.out _ _ ⟨hfr.cell FK.out hHeld.1, hfr.cell HF5.out hHeld.2.1, hfr.cell HF5.out hHeld.2.2.1, hfr.cell HF5.out hHeld.2.2.2.1, hfr.cell FB.out hHeld.2.2.2.2.1, hfr.cell FB.out hHeld.2.2.2.2.2.1, hfr.cell FB.out hHeld.2.2.2.2.2.2.1, hfr.cell FB.out hHeld.2.2.2.2.2.2.2.1, hfr.cell FB.out hHeld.2.2.2.2.2.2.2.2⟩ (fun hH => ?_)
      clear hK K
      try simp only [lay_, Act.put]
      refine wpAnyH_done (by kernel_rfl) ?_ _
      have HFd := (Fr.of (F := F) hbd).trans hfr
      replace HG1 := hid (HG1.out.trans HFd)
      replace HBw := hid (Fr.below HBd.out hfr (fun k hf => (HF.out k hf).1))
      replace BK2 := hid (HFd.bk BK2.out FK.out); replace BC2 := hid (HFd.bk BC2.out FB.out)
      replace hs5 := Nat.le_trans hsd hfr.size
      replace HJ := hid hj
      replace q0 := hfr.cell HF6.out (kCb hbd q0); replace q1 := hfr.cell HF6.out (kCb hbd q1); replace q2 := hfr.cell HF6.out (kCb hbd q2)
      clear hHeld hH hfr hj hbd hsd HBd HFd k0 a1 a2 a3 a4 a9 p0 p1 p2
      go_upto_region 5 with fail
      have k1 := BK2.out.cell (j := 1) rfl
      have a5 := BC2.out.cell (j := 5) rfl
      have a6 := BC2.out.cell (j := 6) rfl
      have a7 := BC2.out.cell (j := 7) rfl
      have a8 := BC2.out.cell (j := 8) rfl
      have a9 := BC2.out.cell (j := 9) rfl
      refine wp_region_held_drew (S := (fun w' => w'.cell? ⟨w.heap.size + 1, 1, none⟩ = some (.slice (some ⟨b6, o6, none⟩) rs.length e2) ∧ w'.cell? ⟨b6, o6 + i * 3, none⟩ = some (.bool s6) ∧ w'.cell? ⟨b6, o6 + i * 3 + 1, none⟩ = some (.slice x6 n6 c6) ∧ w'.cell? ⟨b6, o6 + i * 3 + 2, none⟩ = some (.slice y6 m6 d6) ∧ w'.cell? ⟨bx, 5, none⟩ = some (.int .i64 i2) ∧ w'.cell? ⟨bx, 6, none⟩ = some (.bool s2) ∧ w'.cell? ⟨bx, 7, none⟩ = some (.slice x2 n2 c2) ∧ w'.cell? ⟨bx, 8, none⟩ = some (.slice y2 m2 d2) ∧ w'.cell? ⟨bx, 9, none⟩ = some (.slice ta tk tc))) (by kernel_rfl) ?_ (fun hHeld => ?_)
      · (refine ⟨?_, ?_, ?_, ?_, ?_, ?_, ?_, ?_, ?_⟩ <;> repeat (with_reducible first | assumption | refine kCd ?_))
      have hbd := Below.drew (Below.refl w6.heap.size w6)
      replace HJ := hid (HI.out _ _ _ HJ.out hbd)
      have HBd := hid (HBw.out.trans (hbd.mono HBw.out.size))
      have hsd := Nat.le_trans hs5 hbd.size
      refine tkO 0 ?_
      simp only [lay_, Act.put]
      refine tkO 1 ?_
      simp only [lay_, Act.put]
      refine tkO 2 ?_
      simp only [lay_, Act.put]
      refine tkO 3 ?_
      simp only [lay_, Act.put]
      refine tkO 4 ?_
      simp only [lay_, Act.put]
      refine tkO 5 ?_
      simp only [lay_, Act.put]
      refine tkO 6 ?_
      simp only [lay_, Act.put]
      refine tkO 7 ?_
      simp only [lay_, Act.put]
      refine tkO 8 ?_
      simp only [lay_, Act.put]
      refine tkO 9 ?_
      simp only [lay_, Act.put]
      refine tkO 10 ?_
      simp only [lay_, Act.put]
      refine wpAnyH_ready (rs := [11]) (by kernel_rfl) (by simp) ?_
      refine AllReadyH.cons (o := _) rfl (fun K hK => ?_) ?_
      rotate_left
      exact AllReadyH.nil
      go_simp
      refine (HS.out _ ⟨q, v.hi, v.hq, true, v.ts⟩ ⟨⟨s6, x6, n6, c6, f6, y6, m6, d6, g6⟩, ⟨i2, ⟨s2, x2, n2, c2, f2, y2, m2, d2, g2⟩⟩, true, ta, tk, tc⟩ _ (by have := HLn.out; rw [List.length_take] at this; rw [List.length_append]; simp only [List.length_cons, List.length_nil]; omega) HTL.out HNT.out HBd.out hsd HJ.out (V2.out.below HBd.out)).mono ?_
      rintro e w7 ⟨rfl, hfr, hj⟩
      refine hK.out _ _ ⟨hfr.cell FK.out hHeld.1, hfr.cell HF6.out hHeld.2.1, hfr.cell HF6.out hHeld.2.2.1, hfr.cell HF6.out hHeld.2.2.2.1, hfr.cell FB.out hHeld.2.2.2.2.1, hfr.cell FB.out hHeld.2.2.2.2.2.1, hfr.cell FB.out hHeld.2.2.2.2.2.2.1, hfr.cell FB.out hHeld.2.2.2.2.2.2.2.1, hfr.cell FB.out hHeld.2.2.2.2.2.2.2.2⟩ (fun hH => ?_)
      clear hK K
      try simp only [lay_, Act.put]
      refine wpAnyH_done (by kernel_rfl) ?_ _
      replace HG1 := hid (HG1.out.trans ((Fr.of (F := F) hbd).trans hfr))
      have HJ2 : Hid (I (bdR (rs.take (i + 1)) (l1.take (i + 1)) (l2.take (i + 1))) w7) := by
        show I _ _
        rw [HBD.out]; exact hj
      clear hHeld hH hfr hj hbd hsd HBd HBw BK2 BC2 HJ k1 a5 a6 a7 a8 a9 q0 q1 q2 V1 V2 HBD
      go_wp2
      go_roundw
      case rel => exact ⟨i + 1, by omega, by go_num, HG1.out, HJ2.out⟩
      case measure => simp [intOf]; omega
    · have e0 : i = rs.length := by omega
      have i4' : ¬ (((i : Nat) : Int) < ((rs.length : Nat) : Int)) := by omega
      have HJ0 : Hid (I (bdR rs l1 l2) wr) := by
        show I _ _
        have := HJ.out
        rw [List.take_of_length_le (by omega), List.take_of_length_le (by have := HL.out.1; omega), List.take_of_length_le (by have := HL.out.2.1; omega)] at this; exact this
      have BM1 := HG.out.bk BM.out (fun hf => by have := (HF.out _ hf).2; omega)
      have r3 := BM1.cell (j := 3) rfl
      have HG0 := hid HG.out
      clear e0 HJ HG BM1
      go_wp2_with fail
      clear r3 i4' hi
      have hs3 := Nat.le_trans hsz HG0.out.size
      generalize wr = w3 at *
      go_loopw [47] (fun t wr => ∃ (i : Nat), i ≤ cs.length ∧ t = .int .i64 i ∧ Hid (Fr F w3 wr) ∧ Hid (I (bdR rs l1 l2 ++ bdC 0 (cs.take i) (l3.take i) (l4.take i)) wr)) (fun t _ => cs.length - (intOf t).toNat)
      case atStart => exact ⟨0, by omega, rfl, Fr.refl _ _, by show I _ _; rw [show bdR rs l1 l2 ++ bdC 0 (cs.take 0) (l3.take 0) (l4.take 0) = bdR rs l1 l2 by simp [bdC]]; exact HJ0.out⟩
      case round =>
        clear HJ0
        obtain ⟨i, hi, rfl, HG, HJ⟩ := hrel
        by_cases hlt : i < cs.length
        · obtain ⟨v, hv⟩ : ∃ v, cs[i]? = some v := ⟨_, List.getElem?_eq_getElem hlt⟩
          obtain ⟨p, hp⟩ : ∃ t, l3[i]? = some t := ⟨_, List.getElem?_eq_getElem (by have := HL.out.2.2.1; omega)⟩
          obtain ⟨q, hq⟩ : ∃ t, l4[i]? = some t := ⟨_, List.getElem?_eq_getElem (by have := HL.out.2.2.2; omega)⟩
          have hG2 := HG0.out.trans HG.out
          have hbw := Fr.below HB0.out hG2 (fun k hf => (HF.out k hf).1)
          obtain ⟨⟨b, o, hca, hc0⟩, hn0⟩ := HC.out i v hv
          subst hca
          have hc := hc0.below hbw
          obtain ⟨b5, o5, ⟨s5, x5, n5, c5, f5, y5, m5, d5, g5⟩, ha5, hc5, hr5⟩ := HX3.out i p hp
          subst ha5
          obtain ⟨b6, o6, ⟨s6, x6, n6, c6, f6, y6, m6, d6, g6⟩, ha6, hc6, hr6⟩ := HX4.out i q hq
          subst ha6
          have hb5 := World.block_lt_of_cell? w0 _ hc5.x0; have hb6 := World.block_lt_of_cell? w0 _ hc6.x0
          have HF5 : Hid (¬ F b5) := fun hf => by have := (HF.out _ hf).1; have h9 : b5 < w0.heap.size := hb5; omega
          have HF6 : Hid (¬ F b6) := fun hf => by have := (HF.out _ hf).1; have h9 : b6 < w0.heap.size := hb6; omega
          obtain ⟨p0, p1, p2⟩ := hc5.below hbw
          obtain ⟨q0, q1, q2⟩ := hc6.below hbw
          obtain ⟨⟨z, ⟨s0, x0, n0, c0, f0, y0, m0, d0, g0⟩, ⟨i1, ⟨s1, x1, n1, c1, f1, y1, m1, d1, g1⟩⟩, ⟨i2, ⟨s2, x2, n2, c2, f2, y2, m2, d2, g2⟩⟩⟩, hCi⟩ : ∃ t, C i = t := ⟨_, rfl⟩
          rw [hCi] at hc hn0
          replace p0 : wr.cell? ⟨b5, o5 + i * 3, none⟩ = some (.bool s5) := p0
          replace p1 : wr.cell? ⟨b5, o5 + i * 3 + 1, none⟩ = some (.slice x5 n5 c5) := p1
          replace p2 : wr.cell? ⟨b5, o5 + i * 3 + 2, none⟩ = some (.slice y5 m5 d5) := p2
          replace q0 : wr.cell? ⟨b6, o6 + i * 3, none⟩ = some (.bool s6) := q0
          replace q1 : wr.cell? ⟨b6, o6 + i * 3 + 1, none⟩ = some (.slice x6 n6 c6) := q1
          replace q2 : wr.cell? ⟨b6, o6 + i * 3 + 2, none⟩ = some (.slice y6 m6 d6) := q2
          have t0 : wr.cell? ⟨b, o + i * 12, none⟩ = some (.string z) := hc 0 _ rfl
          have t1 : wr.cell? ⟨b, o + i * 12 + 1, none⟩ = some (.bool s0) := hc 1 _ rfl
          have t2 : wr.cell? ⟨b, o + i * 12 + 2, none⟩ = some (.slice x0 n0 c0) := hc 2 _ rfl
          have t3 : wr.cell? ⟨b, o + i * 12 + 3, none⟩ = some (.slice y0 m0 d0) := hc 3 _ rfl
          have t4 : wr.cell? ⟨b, o + i * 12 + 4, none⟩ = some (.int .i64 i1) := hc 4 _ rfl
          have t5 : wr.cell? ⟨b, o + i * 12 + 5, none⟩ = some (.bool s1) := hc 5 _ rfl
          have t6 : wr.cell? ⟨b, o + i * 12 + 6, none⟩ = some (.slice x1 n1 c1) := hc 6 _ rfl
          have t7 : wr.cell? ⟨b, o + i * 12 + 7, none⟩ = some (.slice y1 m1 d1) := hc 7 _ rfl
          have t8 : wr.cell? ⟨b, o + i * 12 + 8, none⟩ = some (.int .i64 i2) := hc 8 _ rfl
          have t9 : wr.cell? ⟨b, o + i * 12 + 9, none⟩ = some (.bool s2) := hc 9 _ rfl
          have t10 : wr.cell? ⟨b, o + i * 12 + 10, none⟩ = some (.slice x2 n2 c2) := hc 10 _ rfl
          have t11 : wr.cell? ⟨b, o + i * 12 + 11, none⟩ = some (.slice y2 m2 d2) := hc 11 _ rfl
          have i1' : ((i : Nat) : Int) < ((cs.length : Nat) : Int) := by omega
          have hbt := below_alloc (Below.refl wr.heap.size wr) (.cells #[.string z, .bool s0, .slice x0 n0 c0, .slice y0 m0 d0, .int .i64 i1, .bool s1, .slice x1 n1 c1, .slice y1 m1 d1, .int .i64 i2, .bool s2, .slice x2 n2 c2, .slice y2 m2 d2] 66)
          have BC : Bk (wr.alloc (.cells #[.string z, .bool s0, .slice x0 n0 c0, .slice y0 m0 d0, .int .i64 i1, .bool s1, .slice x1 n1 c1, .slice y1 m1 d1, .int .i64 i2, .bool s2, .slice x2 n2 c2, .slice y2 m2 d2] 66)) wr.heap.size [.string z, .bool s0, .slice x0 n0 c0, .slice y0 m0 d0, .int .i64 i1, .bool s1, .slice x1 n1 c1, .slice y1 m1 d1, .int .i64 i2, .bool s2, .slice x2 n2 c2, .slice y2 m2 d2] 66 := bk_new wr [.string z, .bool s0, .slice x0 n0 c0, .slice y0 m0 d0, .int .i64 i1, .bool s1, .slice x1 n1 c1, .slice y1 m1 d1, .int .i64 i2, .bool s2, .slice x2 n2 c2, .slice y2 m2 d2] 66
          have BK1 := hG2.bk BK.out (fun hf => by have := (HF.out _ hf).2; omega)
          have HLn := hid (bdC_len 0 (cs.take i) (l3.take i) (l4.take i)); have HLm := hid (bdR_len rs l1 l2)
          have HBD := hid (bdC_take i 0 cs l3 l4 v p q hv hp hq)
          have W1 := hid (And.intro hr5 (And.intro hn0.li hn0.lq)); have W2 := hid (And.intro hr6 (And.intro hn0.hi hn0.hq))
          clear hc5 hc6 hb5 hb6 hc hc0 hn0 hv hp hq hr5 hr6 hCi
          go_wp2_with fail
          clear t0 t1 t2 t3 t4 t5 t6 t7 t8 t9 t10 t11
          refine (rOf_c (z := 1) (by decide) (by decide)).mono ?_
          rintro e w4 ⟨s9, x9, n9, c9, f9, y9, m9, d9, g9, rfl, hb4, hr9⟩
          have hbn := below_alloc (Below.refl w4.heap.size w4) (.cells #[.int .i64 (i : Int), .bool s9, .slice x9 n9 c9, .slice y9 m9 d9] 71)
          have hts : Tf L (w4.alloc (.cells #[.int .i64 (i : Int), .bool s9, .slice x9 n9 c9, .slice y9 m9 d9] 71)) (some ⟨w4.heap.size, 0, none⟩) [((i : Int), 1)] := tf_alloc (w := w4) [((i : Int), ⟨s9, x9, n9, c9, f9, y9, m9, d9, g9⟩)] _ (fun j a q e => by
            cases j with
            | zero => simp only [List.getElem?_cons_zero, Option.some.injEq, Prod.mk.injEq] at e; obtain ⟨rfl, rfl⟩ := e; exact ⟨_, rfl, hr9.mono hL1⟩
            | succ j => simp at e)
          have BT := bk_new w4 [.int .i64 (i : Int), .bool s9, .slice x9 n9 c9, .slice y9 m9 d9] 71
          have hball := (hbt.trans (hb4.mono hbt.size)).trans (hbn.mono (Nat.le_trans hbt.size hb4.size))
          have hb4n := hb4.trans (hbn.mono hb4.size)
          go_upto_region 11 with fail
          replace HJ := hid (HI.out _ _ _ HJ.out hball)
          have HBw := hid (hbw.trans (hball.mono hbw.size)); have HG1 := hid (HG.out.trans (Fr.of hball)); have BK2 := hid (BK1.below hball); have BC2 := hid (BC.below hb4n)
          have hs4 := Nat.le_trans hs3 HG.out.size
          have hs5 := Nat.le_trans hs4 hball.size
          have hs6 := Nat.le_trans hs4 (Nat.le_trans hbt.size hb4.size)
          replace p0 := kCb hball p0
          replace p1 := kCb hball p1
          replace p2 := kCb hball p2
          replace q0 := kCb hball q0
          replace q1 := kCb hball q1
          replace q2 := kCb hball q2
          have FK : Hid (¬ F (w.heap.size + 1)) := fun hf => by have := (HF.out _ hf).2; omega
          have FB : Hid (¬ F wr.heap.size) := fun hf => by have := (HF.out _ hf).2; omega
          have FT : Hid (¬ F w4.heap.size) := fun hf => by have := (HF.out _ hf).2; omega
          rw [Int.zero_add] at HBD
          replace hbn := BT
          clear hbt hb4 hbn hb4n hball BT BC BK1 hbw HG hG2 hr9 hs4 hs6
          generalize wr.heap.size = bx at *
          generalize hNW : (w4.alloc (.cells #[.int .i64 (i : Int), .bool s9, .slice x9 n9 c9, .slice y9 m9 d9] 71)) = w5 at *
          clear hNW
          generalize w4.heap.size = bt at *
          have HT := hid hts
          clear hts
          have k0 := BK2.out.cell (j := 2) rfl
          have a4 := BC2.out.cell (j := 4) rfl
          have a5 := BC2.out.cell (j := 5) rfl
          have a6 := BC2.out.cell (j := 6) rfl
          have a7 := BC2.out.cell (j := 7) rfl
          refine wp_region_held_drew (S := (fun w' => w'.cell? ⟨w.heap.size + 1, 2, none⟩ = some (.slice (some ⟨b5, o5, none⟩) cs.length e3) ∧ w'.cell? ⟨b5, o5 + i * 3, none⟩ = some (.bool s5) ∧ w'.cell? ⟨b5, o5 + i * 3 + 1, none⟩ = some (.slice x5 n5 c5) ∧ w'.cell? ⟨b5, o5 + i * 3 + 2, none⟩ = some (.slice y5 m5 d5) ∧ w'.cell? ⟨bx, 4, none⟩ = some (.int .i64 i1) ∧ w'.cell? ⟨bx, 5, none⟩ = some (.bool s1) ∧ w'.cell? ⟨bx, 6, none⟩ = some (.slice x1 n1 c1) ∧ w'.cell? ⟨bx, 7, none⟩ = some (.slice y1 m1 d1))) (by kernel_rfl) ?_ (fun hHeld => ?_)
          · (refine ⟨?_, ?_, ?_, ?_, ?_, ?_, ?_, ?_⟩ <;> repeat (with_reducible first | assumption | refine kCd ?_))
          have hbd := Below.drew (Below.refl w5.heap.size w5)
          replace HJ := hid (HI.out _ _ _ HJ.out hbd)
          have HBd := hid (HBw.out.trans (hbd.mono HBw.out.size))
          have hsd := Nat.le_trans hs5 hbd.size
          refine tkO 0 ?_
          simp only [lay_, Act.put]
          refine tkO 1 ?_
          simp only [lay_, Act.put]
          refine tkO 2 ?_
          simp only [lay_, Act.put]
          refine tkO 3 ?_
          simp only [lay_, Act.put]
          refine tkO 4 ?_
          simp only [lay_, Act.put]
          refine tkO 5 ?_
          simp only [lay_, Act.put]
          refine tkO 6 ?_
          simp only [lay_, Act.put]
          refine tkO 7 ?_
          simp only [lay_, Act.put]
          refine tkO 8 ?_
          simp only [lay_, Act.put]
          refine tkO 9 ?_
          simp only [lay_, Act.put]
          refine wpAnyH_ready (rs := [10]) (by kernel_rfl) (by simp) ?_
          refine AllReadyH.cons (o := _) rfl (fun K hK => ?_) ?_
          rotate_left
          exact AllReadyH.nil
          go_simp
          refine (HS.out _ ⟨p, v.li, v.lq, false, [((i : Int), 1)]⟩ ⟨⟨s5, x5, n5, c5, f5, y5, m5, d5, g5⟩, ⟨i1, ⟨s1, x1, n1, c1, f1, y1, m1, d1, g1⟩⟩, false, some ⟨bt, 0, none⟩, 1, 1⟩ _ (by have := HLn.out; have h9 := HLm.out; rw [List.length_take] at this; rw [List.length_append]; omega) (ts_one hlt) (fun _ b o e => by cases e; exact FT.out) HBd.out hsd HJ.out ⟨NmV.below W1.out.1 HBd.out, W1.out.2.1, NmV.below W1.out.2.2 HBd.out, rfl, rfl, HT.out.below hbd⟩).mono ?_
          rintro e w6 ⟨rfl, hfr, hj⟩
          refine hK.out _ _ ⟨hfr.cell FK.out hHeld.1, hfr.cell HF5.out hHeld.2.1, hfr.cell HF5.out hHeld.2.2.1, hfr.cell HF5.out hHeld.2.2.2.1, hfr.cell FB.out hHeld.2.2.2.2.1, hfr.cell FB.out hHeld.2.2.2.2.2.1, hfr.cell FB.out hHeld.2.2.2.2.2.2.1, hfr.cell FB.out hHeld.2.2.2.2.2.2.2⟩ (fun hH => ?_)
          clear hK K
          try simp only [lay_, Act.put]
          refine wpAnyH_done (by kernel_rfl) ?_ _
          have HFd := (Fr.of (F := F) hbd).trans hfr
          replace HG1 := hid (HG1.out.trans HFd)
          replace HBw := hid (Fr.below HBd.out hfr (fun k hf => (HF.out k hf).1))
          replace BK2 := hid (HFd.bk BK2.out FK.out); replace BC2 := hid (HFd.bk BC2.out FB.out)
          replace HT := hid (HT.out.fr HFd (fun b o e => by cases e; exact FT.out))
          replace hs5 := Nat.le_trans hsd hfr.size
          replace HJ := hid hj
          replace q0 := hfr.cell HF6.out (kCb hbd q0); replace q1 := hfr.cell HF6.out (kCb hbd q1); replace q2 := hfr.cell HF6.out (kCb hbd q2)
          clear hHeld hH hfr hj hbd hsd HBd HFd k0 a4 a5 a6 a7 p0 p1 p2
          go_upto_region 12 with fail
          have k1 := BK2.out.cell (j := 3) rfl
          have a8 := BC2.out.cell (j := 8) rfl
          have a9 := BC2.out.cell (j := 9) rfl
          have a10 := BC2.out.cell (j := 10) rfl
          have a11 := BC2.out.cell (j := 11) rfl
          refine wp_region_held_drew (S := (fun w' => w'.cell? ⟨w.heap.size + 1, 3, none⟩ = some (.slice (some ⟨b6, o6, none⟩) cs.length e4) ∧ w'.cell? ⟨b6, o6 + i * 3, none⟩ = some (.bool s6) ∧ w'.cell? ⟨b6, o6 + i * 3 + 1, none⟩ = some (.slice x6 n6 c6) ∧ w'.cell? ⟨b6, o6 + i * 3 + 2, none⟩ = some (.slice y6 m6 d6) ∧ w'.cell? ⟨bx, 8, none⟩ = some (.int .i64 i2) ∧ w'.cell? ⟨bx, 9, none⟩ = some (.bool s2) ∧ w'.cell? ⟨bx, 10, none⟩ = some (.slice x2 n2 c2) ∧ w'.cell? ⟨bx, 11, none⟩ = some (.slice y2 m2 d2))) (by kernel_rfl) ?_ (fun hHeld => ?_)
          · (refine ⟨?_, ?_, ?_, ?_, ?_, ?_, ?_, ?_⟩ <;> repeat (with_reducible first | assumption | refine kCd ?_))
          have hbd := Below.drew (Below.refl w6.heap.size w6)
          replace HJ := hid (HI.out _ _ _ HJ.out hbd)
          have HBd := hid (HBw.out.trans (hbd.mono HBw.out.size))
          have hsd := Nat.le_trans hs5 hbd.size
          refine tkO 0 ?_
          simp only [lay_, Act.put]
          refine tkO 1 ?_
          simp only [lay_, Act.put]
          refine tkO 2 ?_
          simp only [lay_, Act.put]
          refine tkO 3 ?_
          simp only [lay_, Act.put]
          refine tkO 4 ?_
          simp only [lay_, Act.put]
          refine tkO 5 ?_
          simp only [lay_, Act.put]
          refine tkO 6 ?_
          simp only [lay_, Act.put]
          refine tkO 7 ?_
          simp only [lay_, Act.put]
          refine tkO 8 ?_
          simp only [lay_, Act.put]
          refine tkO 9 ?_
          simp only [lay_, Act.put]
          refine wpAnyH_ready (rs := [10]) (by kernel_rfl) (by simp) ?_
          refine AllReadyH.cons (o := _) rfl (fun K hK => ?_) ?_
          rotate_left
          exact AllReadyH.nil
          go_simp
          refine (HS.out _ ⟨q, v.hi, v.hq, true, [((i : Int), 1)]⟩ ⟨⟨s6, x6, n6, c6, f6, y6, m6, d6, g6⟩, ⟨i2, ⟨s2, x2, n2, c2, f2, y2, m2, d2, g2⟩⟩, true, some ⟨bt, 0, none⟩, 1, 1⟩ _ (by have := HLn.out; have h9 := HLm.out; rw [List.length_take] at this; rw [List.length_append, List.length_append]; simp only [List.length_cons, List.length_nil]; omega) (ts_one hlt) (fun _ b o e => by cases e; exact FT.out) HBd.out hsd HJ.out ⟨NmV.below W2.out.1 HBd.out, W2.out.2.1, NmV.below W2.out.2.2 HBd.out, rfl, rfl, HT.out.below hbd⟩).mono ?_
          rintro e w7 ⟨rfl, hfr, hj⟩
          refine hK.out _ _ ⟨hfr.cell FK.out hHeld.1, hfr.cell HF6.out hHeld.2.1, hfr.cell HF6.out hHeld.2.2.1, hfr.cell HF6.out hHeld.2.2.2.1, hfr.cell FB.out hHeld.2.2.2.2.1, hfr.cell FB.out hHeld.2.2.2.2.2.1, hfr.cell FB.out hHeld.2.2.2.2.2.2.1, hfr.cell FB.out hHeld.2.2.2.2.2.2.2⟩ (fun hH => ?_)
          clear hK K
          try simp only [lay_, Act.put]
          refine wpAnyH_done (by kernel_rfl) ?_ _
          replace HG1 := hid (HG1.out.trans ((Fr.of (F := F) hbd).trans hfr))
          have HJ2 : Hid (I (bdR rs l1 l2 ++ bdC 0 (cs.take (i + 1)) (l3.take (i + 1)) (l4.take (i + 1))) w7) := by
            show I _ _
            rw [HBD.out, List.append_assoc, ← List.append_assoc, ← List.append_assoc]; exact hj
          clear hHeld hH hfr hj hbd hsd HBd HBw BK2 BC2 HJ k1 a8 a9 a10 a11 q0 q1 q2 W1 W2 HBD
          go_wp2
          go_roundw
          case rel => exact ⟨i + 1, by omega, by go_num, HG1.out, HJ2.out⟩
          case measure => simp [intOf]; omega
        · have e0 : i = cs.length := by omega
          have i5' : ¬ (((i : Nat) : Int) < ((cs.length : Nat) : Int)) := by omega
          have HJ9 : Hid (I (bdR rs l1 l2 ++ bdC 0 cs l3 l4) wr) := by
            show I _ _
            have := HJ.out
            rw [List.take_of_length_le (by omega), List.take_of_length_le (by have := HL.out.2.2.1; omega), List.take_of_length_le (by have := HL.out.2.2.2; omega)] at this; exact this
          have HG9 := hid ((HFr.out.trans HG0.out).trans HG.out)
          clear HJ HG e0
          go_wp2_with fail
          go_end0
          exact ⟨rfl, HG9.out, HJ9.out⟩
end Go.Proofs.YtedpomledbgpoaaGreat
namespace Go.Proofs.YtedpomledbgpoaaGreat
open Go.RowKit

/-- Are all bounds kept? -/
def feasB (cs : List CV) (rs : List RV) (xs : List Rat) : Bool := decide ((crl (bcB cs xs) cs.length).length = 0) && decide ((crl (brB rs xs) rs.length).length = 0)
theorem gr_one {K base : Nat} {w : World} {s : Bool} {x : Option Addr} {n c : Nat} {f : Nat → Int} {y : Option Addr} {m d : Nat} {g : Nat → Int} {q : Rat} (h : Rn K w s x n c f y m d g q) (hb : base ≤ w.heap.size) : Gr K base (w.alloc (.cells #[.bool s, .slice x n c, .slice y m d] 24)) (.slice (some ⟨w.heap.size, 0, none⟩) 1 1) [q] := by
  refine ⟨fun _ => ⟨s, x, n, c, f, y, m, d, g⟩, ⟨rfl, .inr ⟨w.heap.size, 1, #[.bool s, .slice x n c, .slice y m d], rfl, hb, heap_alloc_new w _, Nat.le_refl _, by decide, rfl, rfl, nou_list (not3 _ _ _ _ _ _ _)⟩⟩, fun j q' e => ?_⟩
  cases j with
  | zero => cases e; exact h.alloc _
  | succ j => simp at e
set_option maxRecDepth 100000 in
set_option maxHeartbeats 4000000 in
theorem pFeas_v {w : World} {L : Nat} {M : Mo} {off : Rat} {cs : List CV} {rs : List RV} {ao : Option Addr} {k cap : Nat} {X : Nat → Nm} {xs : List Rat} {er : Int} (hW : MoW w M) (hx : Rl w ao k X) (hk : k ≤ 1048576) (he : pckE M k X = er) (hv : er = 0 → MoV L w M off cs rs ∧ mvOk cs rs = true ∧ Rf L w ao xs ∧ xs.length = k ∧ k = cs.length) (hL : L ≤ 30) :
    Calls Tryz.prog 12 #[M.val, .slice ao k cap] w fun e w' => e = .returned (.tuple #[.bool (decide (er = 0) && feasB cs rs xs), .int .i64 er]) ∧ Below w.heap.size w w' := by
  have CB : Hid (∀ W, Below w.heap.size w W → Calls Tryz.prog 33 #[M.val, .slice ao k cap] W fun e w' => BrAns W w' e er cs rs xs) := fun W hW2 => pBroken_v (hW.below hW2) (hx.below hW2) hk he (fun h0 => ⟨(hv h0).1.below hW2, (hv h0).2.1, (hv h0).2.2.1.below hW2, (hv h0).2.2.2⟩) hL
  clear hW hx hv he
  obtain ⟨⟨s, x, n, c, f, y, m, d, g⟩, ca, ck, cc, C, ra, rk, rc, R⟩ := M
  replace CB : Hid (∀ W, Below w.heap.size w W → Calls Tryz.prog 33 #[.agg #[.bool s, .slice x n c, .slice y m d, .slice ca ck cc, .slice ra rk rc], .slice ao k cap] W fun e w' => BrAns W w' e er cs rs xs) := CB
  obtain ⟨l1, hl1⟩ : ∃ z, (crl (bcB cs xs) cs.length).length = z := ⟨_, rfl⟩
  obtain ⟨l2, hl2⟩ : ∃ z, (crl (brB rs xs) rs.length).length = z := ⟨_, rfl⟩
  have HF : Hid (feasB cs rs xs = (decide (l1 = 0) && decide (l2 = 0))) := by show _ = _; rw [feasB, hl1, hl2]
  unfold BrAns at CB
  rw [hl1, hl2] at CB
  clear hl1 hl2
  show Calls Tryz.prog 12 #[.agg #[.bool s, .slice x n c, .slice y m d, .slice ca ck cc, .slice ra rk rc], .slice ao k cap] w _
  have HB := hid (below_alloc (Below.refl w.heap.size w) (.cells #[.bool s, .slice x n c, .slice y m d, .slice ca ck cc, .slice ra rk rc] 28))
  go_enter Tryz.func12, Tryz.ntmps12
  go_wp2_with fail
  refine (CB.out _ HB.out).mono ?_
  rintro e w1 ⟨hb, hans⟩
  replace HB := hid (HB.out.trans (hb.mono HB.out.size))
  clear hb CB
  rcases hans with ⟨h0, rfl⟩ | ⟨h0, xa, xc, ya, yc, rfl, _, _⟩
  · have h1 : (er == 0) = false := by simpa using h0
    have HE : Hid (decide (er = 0) = false) := decide_eq_false h0
    clear h0
    go_wp2
    go_ret2
    exact ⟨by rw [HE.out]; rfl, HB.out⟩
  · subst h0
    by_cases c1 : l1 = 0
    · subst c1
      by_cases c2 : l2 = 0
      · subst c2
        go_wp2
        go_ret2
        exact ⟨by rw [HF.out]; rfl, HB.out⟩
      · have c3 : (((l2 : Nat) : Int) == 0) = false := by simp; omega
        have HE : Hid (decide (l2 = 0) = false) := decide_eq_false c2
        go_wp2
        go_ret2
        exact ⟨by rw [HF.out, HE.out]; rfl, HB.out⟩
    · have c3 : (((l1 : Nat) : Int) == 0) = false := by simp; omega
      have HE : Hid (decide (l1 = 0) = false) := decide_eq_false c1
      go_wp2
      go_ret2
      exact ⟨by rw [HF.out, HE.out]; rfl, HB.out⟩
end Go.Proofs.YtedpomledbgpoaaGreat
namespace Go.Proofs.YtedpomledbgpoaaGreat
open Go.RowKit

theorem Rn.sg {L w s x n c f y m d g q} (h : Rn L w s x n c f y m d g q) : s = decide (q < 0) := by
  have h1 := h.num.val; have h2 := h.num.wf; have h5 := vf_nonneg h.num.lm; have hz := h.q_zero
  cases s
  · have h3 : q.num = vf f n := by rw [← h1]; rfl
    have h4 : 0 ≤ q := Rat.num_nonneg.1 (by omega)
    rw [decide_eq_false (Rat.not_lt.2 h4)]
  · have hn : n ≠ 0 := fun e => by subst e; simp [wfB] at h2
    have h3 : q.num = - vf f n := by rw [← h1]; rfl
    have h4 : q < 0 := Rat.not_le.1 (fun e => by
      have h6 := Rat.num_nonneg.2 e
      exact hn (hz.1 (Rat.num_eq_zero.1 (by omega))))
    rw [decide_eq_true h4]
end Go.Proofs.YtedpomledbgpoaaGreat
namespace Go.Proofs.YtedpomledbgpoaaGreat
open Go.RowKit

/-- Is the multiplier of an infinite bound other than 0? Is a multiplier below 0? -/
def infB (b : BV) : Bool := decide (b.i ≠ 0) && decide (b.q ≠ 0)
def negB (b : BV) : Bool := decide (b.q < 0)
theorem fisZero_c (s : Bool) (x : Option Addr) (n c : Nat) (y : Option Addr) (m d : Nat) (w : World) :
    Calls Tryz.prog 29 #[.agg #[.bool s, .slice x n c, .slice y m d]] w fun e w' => e = .returned (.bool (decide (n = 0))) ∧ Below w.heap.size w w' := by
  have hd : ((n : Int) == 0) = decide (n = 0) := by
    by_cases h : n = 0
    · subst h; rfl
    · have : ((n : Int) == 0) = false := by simp; omega
      rw [this]; simp [h]
  go_enter Tryz.func29, Tryz.ntmps29
  go_wp2
  go_ret
  refine ⟨?_, below_alloc (Below.refl _ _) _⟩
  first
    | rfl
    | (simp [hd]; done)
    | (rw [hd])
/-- A flag in a box of its own is set. -/
theorem flag_st {W W2 : World} {X : Nat} {u v : Bool} {t : TypeId} (h : Bk W X [.bool u] t) (hb : Below W.heap.size W W2) :
    Fr (fun k => k = X) W (W2.setCell ⟨X, 0, none⟩ (.bool v)) ∧ Bk (W2.setCell ⟨X, 0, none⟩ (.bool v)) X [.bool v] t := by
  have h2 := h.below hb
  refine ⟨⟨hb.os, hb.tape, hb.output, Nat.le_trans hb.size (by simp [World.setCell]), fun k hk hn => ?_, fun _ _ _ r => r.kp ((Kp.of_below hb).set (x := ⟨X, 0, none⟩) h2 (nou_one (fun z e => by cases e)) _)⟩, h2.set 0 _⟩
  exact (Below.heap_setCell _ _ _ _ hn).trans (hb.block k hk)
theorem any_snoc {f : BV → Bool} {l : List BV} {b : BV} : (l ++ [b]).any f = (l.any f || f b) := by simp
set_option maxRecDepth 100000 in
set_option maxHeartbeats 4000000 in
theorem vBelow_c {W : World} {X L : Nat} {B : Bd} {b : BV} {l : List BV} (hI : Bk W X [.bool (l.any negB)] 4) (hB : BdV L W B b) :
    Calls Tryz.prog 60 (#[B.val] ++ #[.pointer (some ⟨X, 0, none⟩)]) W fun e W' => e = .returned (.tuple #[]) ∧ Fr (fun k => k = X) W W' ∧ Bk W' X [.bool ((l ++ [b]).any negB)] 4 := by
  obtain ⟨⟨s, x, n, c, f, y, m, d, g⟩, ⟨i1, ⟨s1, x1, n1, c1, f1, y1, m1, d1, g1⟩⟩, up, ta, tk, tc⟩ := B
  have hs : s = decide (b.q < 0) := hB.q.sg
  rw [any_snoc, show negB b = s from hs.symm]
  clear hs hB
  generalize l.any negB = u at *
  show Calls Tryz.prog 60 #[.agg #[.bool s, .slice x n c, .slice y m d, .int .i64 i1, .bool s1, .slice x1 n1 c1, .slice y1 m1 d1, .bool up, .slice ta tk tc], .pointer (some ⟨X, 0, none⟩)] W _
  have hb := below_alloc (Below.refl W.heap.size W) (.cells #[.bool s, .slice x n c, .slice y m d, .int .i64 i1, .bool s1, .slice x1 n1 c1, .slice y1 m1 d1, .bool up, .slice ta tk tc] 90)
  have h2 := hI.below hb
  have c0 := h2.cell (j := 0) rfl
  have z0 := h2.frozen 0
  have HF := hid (fun v => flag_st (v := v) hI hb)
  clear hI hb h2
  go_enter Tryz.func60, Tryz.ntmps60
  cases u
  · go_wp2
    go_end0
    exact ⟨rfl, HF.out _⟩
  · go_wp2
    go_end0
    exact ⟨rfl, HF.out _⟩
set_option maxRecDepth 100000 in
set_option maxHeartbeats 4000000 in
theorem vInf_c {W : World} {X L : Nat} {B : Bd} {b : BV} {l : List BV} (hI : Bk W X [.bool (l.any infB)] 4) (hB : BdV L W B b) :
    Calls Tryz.prog 75 (#[B.val] ++ #[.pointer (some ⟨X, 0, none⟩)]) W fun e W' => e = .returned (.tuple #[]) ∧ Fr (fun k => k = X) W W' ∧ Bk W' X [.bool ((l ++ [b]).any infB)] 4 := by
  obtain ⟨⟨s, x, n, c, f, y, m, d, g⟩, ⟨i1, ⟨s1, x1, n1, c1, f1, y1, m1, d1, g1⟩⟩, up, ta, tk, tc⟩ := B
  have hz : b.q = 0 ↔ n = 0 := hB.q.q_zero
  have hi : i1 = b.i := hB.i
  have hv : infB b = (decide (i1 ≠ 0) && !decide (n = 0)) := by rw [infB, hi, show decide (b.q ≠ 0) = !decide (n = 0) by rw [decide_not, decide_eq_decide.2 hz]]
  rw [any_snoc, hv]
  clear hz hi hv hB
  generalize l.any infB = u at *
  show Calls Tryz.prog 75 #[.agg #[.bool s, .slice x n c, .slice y m d, .int .i64 i1, .bool s1, .slice x1 n1 c1, .slice y1 m1 d1, .bool up, .slice ta tk tc], .pointer (some ⟨X, 0, none⟩)] W _
  have hb := below_alloc (Below.refl W.heap.size W) (.cells #[.bool s, .slice x n c, .slice y m d, .int .i64 i1, .bool s1, .slice x1 n1 c1, .slice y1 m1 d1, .bool up, .slice ta tk tc] 90)
  have h2 := hI.below hb
  have c0 := h2.cell (j := 0) rfl
  have z0 := h2.frozen 0
  have HI := hid hI; have HB := hid hb
  have HF := hid (fun v => flag_st (v := v) hI hb)
  clear hI hb h2
  go_enter Tryz.func75, Tryz.ntmps75
  cases u
  · by_cases e1 : i1 = 0
    · subst e1
      rw [show (false || (decide ((0 : Int) ≠ 0) && !decide (n = 0))) = false by simp]
      go_wp2
      go_end0
      exact ⟨rfl, HF.out _⟩
    · have e2 : (i1 != 0) = true := by simp [e1]
      rw [show (false || (decide (i1 ≠ 0) && !decide (n = 0))) = !decide (n = 0) by simp [e1]]
      clear e1
      go_wp2_with fail
      refine (fisZero_c _ _ _ _ _ _ _ _).mono ?_
      rintro e w2 ⟨rfl, hb2⟩
      have hb3 := HB.out.trans (hb2.mono HB.out.size)
      have h3 := HI.out.below hb3
      have c1 := h3.cell (j := 0) rfl
      have z1 := h3.frozen 0
      have HG := hid (fun v => flag_st (v := v) HI.out hb3)
      clear hb2 hb3 h3 c0 z0
      go_wp2
      go_end0
      exact ⟨rfl, HG.out _⟩
  · go_wp2
    go_end0
    exact ⟨rfl, HF.out _⟩
-- any
set_option maxRecDepth 100000 in
set_option maxHeartbeats 4000000 in
theorem anyBelow_c {w : World} {L : Nat} {M : Mo} {off : Rat} {cs : List CV} {rs : List RV} {a1 a2 a3 a4 : Option Addr} {k1 k2 k3 k4 e1 e2 e3 e4 : Nat} {l1 l2 l3 l4 : List Rat}
    (hM : MoV L w M off cs rs) (hP : MvP cs rs) (hT : ∀ v ∈ rs, tsB cs.length (-1) v.ts = true) (hx1 : Rf L w a1 l1) (hx2 : Rf L w a2 l2) (hx3 : Rf L w a3 l3) (hx4 : Rf L w a4 l4)
    (hl : l1.length = k1 ∧ l2.length = k2 ∧ l3.length = k3 ∧ l4.length = k4) (hk : k1 = rs.length ∧ k2 = rs.length ∧ k3 = cs.length ∧ k4 = cs.length) (hL1 : 4 ≤ L) :
    Calls Tryz.prog 27 #[M.val, .agg #[.slice a1 k1 e1, .slice a2 k2 e2, .slice a3 k3 e3, .slice a4 k4 e4]] w fun e w' => e = .returned (.bool ((bdR rs l1 l2 ++ bdC 0 cs l3 l4).any negB)) ∧ Below w.heap.size w w' := by
  have HM := hid hM; have HP := hid hP; have HT := hid hT; have HX1 := hid hx1; have HX2 := hid hx2; have HX3 := hid hx3; have HX4 := hid hx4; have HL := hid hl; have HK := hid hk
  clear hM hP hT hx1 hx2 hx3 hx4 hl hk
  obtain ⟨⟨s, x, n, c, f, y, m, d, g⟩, ca, ck, cc, C, ra, rk, rc, R⟩ := M
  have hck : ck = cs.length := HM.out.ck
  have hrk : rk = rs.length := HM.out.rk
  subst hck; subst hrk
  show Calls Tryz.prog 27 #[.agg #[.bool s, .slice x n c, .slice y m d, .slice ca cs.length cc, .slice ra rs.length rc], .agg #[.slice a1 k1 e1, .slice a2 k2 e2, .slice a3 k3 e3, .slice a4 k4 e4]] w _
  have hb := below_alloc (below_alloc (below_alloc (Below.refl w.heap.size w) (.cells #[.bool s, .slice x n c, .slice y m d, .slice ca cs.length cc, .slice ra rs.length rc] 28)) (.cells #[.slice a1 k1 e1, .slice a2 k2 e2, .slice a3 k3 e3, .slice a4 k4 e4] 31)) (.cells #[.bool false] 4)
  have BX : Bk (((w.alloc (.cells #[.bool s, .slice x n c, .slice y m d, .slice ca cs.length cc, .slice ra rs.length rc] 28)).alloc (.cells #[.slice a1 k1 e1, .slice a2 k2 e2, .slice a3 k3 e3, .slice a4 k4 e4] 31)).alloc (.cells #[.bool false] 4)) (w.heap.size + 1 + 1) [.bool false] 4 := by
    have := bk_new ((w.alloc (.cells #[.bool s, .slice x n c, .slice y m d, .slice ca cs.length cc, .slice ra rs.length rc] 28)).alloc (.cells #[.slice a1 k1 e1, .slice a2 k2 e2, .slice a3 k3 e3, .slice a4 k4 e4] 31)) [.bool false] 4
    rw [size_alloc1, size_alloc1] at this; exact this
  go_enter Tryz.func27, Tryz.ntmps27
  go_wp2_with fail
  generalize ((w.alloc (.cells #[.bool s, .slice x n c, .slice y m d, .slice ca cs.length cc, .slice ra rs.length rc] 28)).alloc (.cells #[.slice a1 k1 e1, .slice a2 k2 e2, .slice a3 k3 e3, .slice a4 k4 e4] 31)).alloc (.cells #[.bool false] 4) = w3 at *
  have hX := BX.lt
  refine (through_c (w0 := w) (F := fun k => k = w.heap.size + 1 + 1) (I := fun l W => Bk W (w.heap.size + 1 + 1) [.bool (l.any negB)] 4) hb (fun k hk => by subst hk; omega) HM.out HP.out HT.out HX1.out HX2.out HX3.out HX4.out HL.out HK.out hL1 (fun _ _ => rfl) (fun l W W' h h2 => h.below h2) (fun l b B W _ _ _ _ _ h1 h2 => vBelow_c h1 h2) BX).mono ?_
  rintro e w4 ⟨rfl, hf, hI⟩
  have HW := hid (Fr.below hb hf (fun k hk => by subst hk; omega))
  have c0 := hI.cell (j := 0) rfl
  clear hf hI hb BX hX
  go_wp2
  go_ret
  exact ⟨by rw [List.any_append]; rfl, HW.out⟩
set_option maxRecDepth 100000 in
set_option maxHeartbeats 4000000 in
theorem anyInf_c {w : World} {L : Nat} {M : Mo} {off : Rat} {cs : List CV} {rs : List RV} {a1 a2 a3 a4 : Option Addr} {k1 k2 k3 k4 e1 e2 e3 e4 : Nat} {l1 l2 l3 l4 : List Rat}
    (hM : MoV L w M off cs rs) (hP : MvP cs rs) (hT : ∀ v ∈ rs, tsB cs.length (-1) v.ts = true) (hx1 : Rf L w a1 l1) (hx2 : Rf L w a2 l2) (hx3 : Rf L w a3 l3) (hx4 : Rf L w a4 l4)
    (hl : l1.length = k1 ∧ l2.length = k2 ∧ l3.length = k3 ∧ l4.length = k4) (hk : k1 = rs.length ∧ k2 = rs.length ∧ k3 = cs.length ∧ k4 = cs.length) (hL1 : 4 ≤ L) :
    Calls Tryz.prog 42 #[M.val, .agg #[.slice a1 k1 e1, .slice a2 k2 e2, .slice a3 k3 e3, .slice a4 k4 e4]] w fun e w' => e = .returned (.bool ((bdR rs l1 l2 ++ bdC 0 cs l3 l4).any infB)) ∧ Below w.heap.size w w' := by
  have HM := hid hM; have HP := hid hP; have HT := hid hT; have HX1 := hid hx1; have HX2 := hid hx2; have HX3 := hid hx3; have HX4 := hid hx4; have HL := hid hl; have HK := hid hk
  clear hM hP hT hx1 hx2 hx3 hx4 hl hk
  obtain ⟨⟨s, x, n, c, f, y, m, d, g⟩, ca, ck, cc, C, ra, rk, rc, R⟩ := M
  have hck : ck = cs.length := HM.out.ck
  have hrk : rk = rs.length := HM.out.rk
  subst hck; subst hrk
  show Calls Tryz.prog 42 #[.agg #[.bool s, .slice x n c, .slice y m d, .slice ca cs.length cc, .slice ra rs.length rc], .agg #[.slice a1 k1 e1, .slice a2 k2 e2, .slice a3 k3 e3, .slice a4 k4 e4]] w _
  have hb := below_alloc (below_alloc (below_alloc (Below.refl w.heap.size w) (.cells #[.bool s, .slice x n c, .slice y m d, .slice ca cs.length cc, .slice ra rs.length rc] 28)) (.cells #[.slice a1 k1 e1, .slice a2 k2 e2, .slice a3 k3 e3, .slice a4 k4 e4] 31)) (.cells #[.bool false] 4)
  have BX : Bk (((w.alloc (.cells #[.bool s, .slice x n c, .slice y m d, .slice ca cs.length cc, .slice ra rs.length rc] 28)).alloc (.cells #[.slice a1 k1 e1, .slice a2 k2 e2, .slice a3 k3 e3, .slice a4 k4 e4] 31)).alloc (.cells #[.bool false] 4)) (w.heap.size + 1 + 1) [.bool false] 4 := by
    have := bk_new ((w.alloc (.cells #[.bool s, .slice x n c, .slice y m d, .slice ca cs.length cc, .slice ra rs.length rc] 28)).alloc (.cells #[.slice a1 k1 e1, .slice a2 k2 e2, .slice a3 k3 e3, .slice a4 k4 e4] 31)) [.bool false] 4
    rw [size_alloc1, size_alloc1] at this; exact this
  go_enter Tryz.func42, Tryz.ntmps42
  go_wp2_with fail
  generalize ((w.alloc (.cells #[.bool s, .slice x n c, .slice y m d, .slice ca cs.length cc, .slice ra rs.length rc] 28)).alloc (.cells #[.slice a1 k1 e1, .slice a2 k2 e2, .slice a3 k3 e3, .slice a4 k4 e4] 31)).alloc (.cells #[.bool false] 4) = w3 at *
  have hX := BX.lt
  refine (through_c (w0 := w) (F := fun k => k = w.heap.size + 1 + 1) (I := fun l W => Bk W (w.heap.size + 1 + 1) [.bool (l.any infB)] 4) hb (fun k hk => by subst hk; omega) HM.out HP.out HT.out HX1.out HX2.out HX3.out HX4.out HL.out HK.out hL1 (fun _ _ => rfl) (fun l W W' h h2 => h.below h2) (fun l b B W _ _ _ _ _ h1 h2 => vInf_c h1 h2) BX).mono ?_
  rintro e w4 ⟨rfl, hf, hI⟩
  have HW := hid (Fr.below hb hf (fun k hk => by subst hk; omega))
  have c0 := hI.cell (j := 0) rfl
  clear hf hI hb BX hX
  go_wp2
  go_ret
  exact ⟨by rw [List.any_append]; rfl, HW.out⟩
end Go.Proofs.YtedpomledbgpoaaGreat
namespace Go.Proofs.YtedpomledbgpoaaGreat
open Go.RowKit

set_option maxRecDepth 100000 in
set_option maxHeartbeats 4000000 in
theorem ftimes_c {L : Nat} {w : World} {sa : Bool} {xa : Option Addr} {na ca : Nat} {fa : Nat → Int} {ya : Option Addr} {ma da : Nat} {ga : Nat → Int} {a : Rat} {sb : Bool} {xb : Option Addr} {nb cb : Nat} {fb : Nat → Int} {yb : Option Addr} {mb db : Nat} {gb : Nat → Int} {b : Rat} (ha : Rn L w sa xa na ca fa ya ma da ga a) (hb : Rn L w sb xb nb cb fb yb mb db gb b) (hL : L ≤ 200000) :
    Calls Tryz.prog 47 #[.agg #[.bool sa, .slice xa na ca, .slice ya ma da], .agg #[.bool sb, .slice xb nb cb, .slice yb mb db]] w fun e w' => RatAns (2 * L + 1) w w' e (a * b) := by
  have h1 := ((ha.alloc (.cells #[.bool sa, .slice xa na ca, .slice ya ma da] 24)).alloc (.cells #[.bool sb, .slice xb nb cb, .slice yb mb db] 24)).alloc (.cells #[.bool false, .slice none 0 0, .slice none 0 0] 24)
  have h2 := ((hb.alloc (.cells #[.bool sa, .slice xa na ca, .slice ya ma da] 24)).alloc (.cells #[.bool sb, .slice xb nb cb, .slice yb mb db] 24)).alloc (.cells #[.bool false, .slice none 0 0, .slice none 0 0] 24)
  have h3 := ob_new ((w.alloc (.cells #[.bool sa, .slice xa na ca, .slice ya ma da] 24)).alloc (.cells #[.bool sb, .slice xb nb cb, .slice yb mb db] 24)) 24
  rw [size_alloc1, size_alloc1] at h3
  have h4 := below_alloc (below_alloc (below_alloc (Below.refl w.heap.size w) (.cells #[.bool sa, .slice xa na ca, .slice ya ma da] 24)) (.cells #[.bool sb, .slice xb nb cb, .slice yb mb db] 24)) (.cells #[.bool false, .slice none 0 0, .slice none 0 0] 24)
  clear ha hb
  go_enter Tryz.func47, Tryz.ntmps47
  go_wp2_with fail
  generalize ((w.alloc (.cells #[.bool sa, .slice xa na ca, .slice ya ma da] 24)).alloc (.cells #[.bool sb, .slice xb nb cb, .slice yb mb db] 24)).alloc (.cells #[.bool false, .slice none 0 0, .slice none 0 0] 24) = w1 at *
  have OB1 := hid h3; have HW1 := hid h4
  refine (rMul_n h1 h2 hL).mono ?_
  clear h1 h2 h3 h4
  rintro e w2 ⟨s, x, n, c, f, y, m, d, g, rfl, hb2, hq⟩
  have hob := OB1.out.below hb2
  have hbw := HW1.out.trans (hb2.mono HW1.out.size)
  obtain ⟨hz, z0, z1, z2, zf⟩ := OB1.out.below hb2
  have HQ := hid hq; have HOB := hid hob; have HBW := hid hbw
  clear hq hob hbw hb2 OB1 HW1
  go_wp2
  exact bodyPost_ret (v := .agg #[.bool s, .slice x n c, .slice y m d]) (by simp [results, Tryz.results47, go_sem, z0, z1, z2, hz]) rfl ⟨s, x, n, c, f, y, m, d, g, rfl, below_alloc (below_st HBW.out (by omega)) _, (HOB.out.rn HQ.out).alloc _⟩
set_option maxRecDepth 100000 in
set_option maxHeartbeats 4000000 in
theorem fplus_c {L : Nat} {w : World} {sa : Bool} {xa : Option Addr} {na ca : Nat} {fa : Nat → Int} {ya : Option Addr} {ma da : Nat} {ga : Nat → Int} {a : Rat} {sb : Bool} {xb : Option Addr} {nb cb : Nat} {fb : Nat → Int} {yb : Option Addr} {mb db : Nat} {gb : Nat → Int} {b : Rat} (ha : Rn L w sa xa na ca fa ya ma da ga a) (hb : Rn L w sb xb nb cb fb yb mb db gb b) (hL : L ≤ 200000) :
    Calls Tryz.prog 46 #[.agg #[.bool sa, .slice xa na ca, .slice ya ma da], .agg #[.bool sb, .slice xb nb cb, .slice yb mb db]] w fun e w' => RatAns (2 * L + 1) w w' e (a + b) := by
  have h1 := ((ha.alloc (.cells #[.bool sa, .slice xa na ca, .slice ya ma da] 24)).alloc (.cells #[.bool sb, .slice xb nb cb, .slice yb mb db] 24)).alloc (.cells #[.bool false, .slice none 0 0, .slice none 0 0] 24)
  have h2 := ((hb.alloc (.cells #[.bool sa, .slice xa na ca, .slice ya ma da] 24)).alloc (.cells #[.bool sb, .slice xb nb cb, .slice yb mb db] 24)).alloc (.cells #[.bool false, .slice none 0 0, .slice none 0 0] 24)
  have h3 := ob_new ((w.alloc (.cells #[.bool sa, .slice xa na ca, .slice ya ma da] 24)).alloc (.cells #[.bool sb, .slice xb nb cb, .slice yb mb db] 24)) 24
  rw [size_alloc1, size_alloc1] at h3
  have h4 := below_alloc (below_alloc (below_alloc (Below.refl w.heap.size w) (.cells #[.bool sa, .slice xa na ca, .slice ya ma da] 24)) (.cells #[.bool sb, .slice xb nb cb, .slice yb mb db] 24)) (.cells #[.bool false, .slice none 0 0, .slice none 0 0] 24)
  clear ha hb
  go_enter Tryz.func46, Tryz.ntmps46
  go_wp2_with fail
  generalize ((w.alloc (.cells #[.bool sa, .slice xa na ca, .slice ya ma da] 24)).alloc (.cells #[.bool sb, .slice xb nb cb, .slice yb mb db] 24)).alloc (.cells #[.bool false, .slice none 0 0, .slice none 0 0] 24) = w1 at *
  have OB1 := hid h3; have HW1 := hid h4
  refine (rAdd_n h1 h2 hL).mono ?_
  clear h1 h2 h3 h4
  rintro e w2 ⟨s, x, n, c, f, y, m, d, g, rfl, hb2, hq⟩
  have hob := OB1.out.below hb2
  have hbw := HW1.out.trans (hb2.mono HW1.out.size)
  obtain ⟨hz, z0, z1, z2, zf⟩ := OB1.out.below hb2
  have HQ := hid hq; have HOB := hid hob; have HBW := hid hbw
  clear hq hob hbw hb2 OB1 HW1
  go_wp2
  exact bodyPost_ret (v := .agg #[.bool s, .slice x n c, .slice y m d]) (by simp [results, Tryz.results46, go_sem, z0, z1, z2, hz]) rfl ⟨s, x, n, c, f, y, m, d, g, rfl, below_alloc (below_st HBW.out (by omega)) _, (HOB.out.rn HQ.out).alloc _⟩
set_option maxRecDepth 100000 in
set_option maxHeartbeats 4000000 in
theorem weight_c {L : Nat} {w : World} {s : Bool} {x : Option Addr} {n c : Nat} {f : Nat → Int} {y : Option Addr} {m d : Nat} {g : Nat → Int} {q : Rat} {i1 : Int} {s1 : Bool} {x1 : Option Addr} {n1 c1 : Nat} {y1 : Option Addr} {m1 d1 : Nat} {up : Bool} {ta : Option Addr} {tk tc : Nat} (h : Rn L w s x n c f y m d g q) (hL : L ≤ 200000) :
    Calls Tryz.prog 45 #[.agg #[.bool s, .slice x n c, .slice y m d, .int .i64 i1, .bool s1, .slice x1 n1 c1, .slice y1 m1 d1, .bool up, .slice ta tk tc]] w fun e w' => RatAns L w w' e (if up then -q else q) := by
  have hb := below_alloc (below_alloc (Below.refl w.heap.size w) (.cells #[.bool s, .slice x n c, .slice y m d, .int .i64 i1, .bool s1, .slice x1 n1 c1, .slice y1 m1 d1, .bool up, .slice ta tk tc] 90)) (.cells #[.bool false, .slice none 0 0, .slice none 0 0] 24)
  have BB : Bk ((w.alloc (.cells #[.bool s, .slice x n c, .slice y m d, .int .i64 i1, .bool s1, .slice x1 n1 c1, .slice y1 m1 d1, .bool up, .slice ta tk tc] 90)).alloc (.cells #[.bool false, .slice none 0 0, .slice none 0 0] 24)) w.heap.size [.bool s, .slice x n c, .slice y m d, .int .i64 i1, .bool s1, .slice x1 n1 c1, .slice y1 m1 d1, .bool up, .slice ta tk tc] 90 := (bk_new w [.bool s, .slice x n c, .slice y m d, .int .i64 i1, .bool s1, .slice x1 n1 c1, .slice y1 m1 d1, .bool up, .slice ta tk tc] 90).below (below_alloc (Below.refl _ _) _)
  have OB : Ob ((w.alloc (.cells #[.bool s, .slice x n c, .slice y m d, .int .i64 i1, .bool s1, .slice x1 n1 c1, .slice y1 m1 d1, .bool up, .slice ta tk tc] 90)).alloc (.cells #[.bool false, .slice none 0 0, .slice none 0 0] 24)) (w.heap.size + 1) := by
    have := ob_new (w.alloc (.cells #[.bool s, .slice x n c, .slice y m d, .int .i64 i1, .bool s1, .slice x1 n1 c1, .slice y1 m1 d1, .bool up, .slice ta tk tc] 90)) 24
    rw [size_alloc1] at this; exact this
  have hq := h.below hb
  clear h
  go_enter Tryz.func45, Tryz.ntmps45
  go_upto_region 1 with fail
  have HBW := hid hb; have HOB := hid OB; have HQ := hid hq
  generalize ((w.alloc (.cells #[.bool s, .slice x n c, .slice y m d, .int .i64 i1, .bool s1, .slice x1 n1 c1, .slice y1 m1 d1, .bool up, .slice ta tk tc] 90)).alloc (.cells #[.bool false, .slice none 0 0, .slice none 0 0] 24)) = w2 at *
  have k0 := BB.cell (j := 0) rfl
  have k1 := BB.cell (j := 1) rfl
  have k2 := BB.cell (j := 2) rfl
  have k7 := BB.cell (j := 7) rfl
  obtain ⟨hz, z0, z1, z2, zf⟩ := OB
  clear hb hq BB
  cases up
  · go_wp2
    exact bodyPost_ret (v := .agg #[.bool s, .slice x n c, .slice y m d]) (by simp [results, Tryz.results45, go_sem, z0, z1, z2]) rfl ⟨s, x, n, c, f, y, m, d, g, rfl, below_st HBW.out (by omega), HOB.out.rn HQ.out⟩
  · go_wp2_with fail
    refine (rNeg_n HQ.out hL).mono ?_
    rintro e w3 ⟨s3, x3, n3, c3, f3, y3, m3, d3, g3, rfl, hb3, hq3⟩
    have hob := HOB.out.below hb3
    have hbw := HBW.out.trans (hb3.mono HBW.out.size)
    clear z0 z1 z2 zf hz k0 k1 k2 k7
    obtain ⟨hz, z0, z1, z2, zf⟩ := HOB.out.below hb3
    have HQ3 := hid hq3; have HO3 := hid hob; have HB3 := hid hbw
    clear hq3 hob hbw hb3 HOB HBW HQ
    go_wp2
    exact bodyPost_ret (v := .agg #[.bool s3, .slice x3 n3 c3, .slice y3 m3 d3]) (by simp [results, Tryz.results45, go_sem, z0, z1, z2, hz]) rfl ⟨s3, x3, n3, c3, f3, y3, m3, d3, g3, rfl, below_alloc (below_st HB3.out (by omega)) _, (HO3.out.rn HQ3.out).alloc _⟩
set_option maxRecDepth 100000 in
set_option maxHeartbeats 4000000 in
theorem noughts_c {w : World} {n : Nat} (hn : n ≤ 64) :
    Calls Tryz.prog 35 #[.int .i64 (n : Int)] w fun e w' => ∃ B, e = .returned (.slice (some ⟨B, 0, none⟩) n n) ∧ w.heap.size ≤ B ∧ Below w.heap.size w w' ∧ Rk w' B n ∧ Rq 4 w' B n (fun _ => 0) := by
  go_enter Tryz.func35, Tryz.ntmps35
  go_wp2_with (at_make; refine wpList_make_rk _ rfl (.tmp 5) (.tmp 5) 29 rfl 24 56 Tryz.underlying29 Tryz.infoRat .i64 .i64 n n n rfl rfl rfl rfl (by omega) (by unfold maxLen; omega) ?_; intro w3 hk3 hb3)
  have HB3 := hid hb3; have HK3 := hid hk3
  clear hk3 hb3
  go_loopw [9] (fun t wr => ∃ (i : Nat), i ≤ n ∧ t = .int .i64 i ∧ Hid (Below w.heap.size w wr) ∧ Hid (Rk wr w.heap.size n) ∧ Hid (Rq 4 wr w.heap.size i (fun _ => 0))) (fun t _ => n - (intOf t).toNat)
  case atStart => exact ⟨0, by omega, rfl, HB3, HK3, fun j hj => by omega⟩
  case round =>
    clear HB3 HK3
    obtain ⟨i, hi, rfl, HB, HK, HQ⟩ := hrel
    by_cases hlt : i < n
    · have i2 : ((i : Nat) : Int) < ((n : Nat) : Int) := by omega
      go_wp2_with fail
      refine (rOf_c (z := 0) (by decide) (by decide)).mono ?_
      rintro e w4 ⟨s0, x0, n0, c0, f0, y0, m0, d0, g0, rfl, hb4, hq4⟩
      have HB4 := hid (HB.out.trans (hb4.mono HB.out.size)); have hk4 := HK.out.below hb4; have hq5 := HQ.out.below hb4
      obtain ⟨R1, R2⟩ := rq_st (i' := i + 1) (Q' := fun _ => 0) hk4 hq5 hlt hq4 (fun j' h1 h2 => ⟨by omega, rfl⟩)
      obtain ⟨_, a0, _⟩ := hk4.has (i * 3) (by omega)
      obtain ⟨_, a1, _⟩ := hk4.has (i * 3 + 1) (by omega)
      obtain ⟨_, a2, _⟩ := hk4.has (i * 3 + 2) (by omega)
      have hfz := hk4.fz
      have HR1 := hid R1; have HR2 := hid R2
      clear R1 R2 hb4 hq4 hk4 hq5 HB HK HQ
      go_wp2
      go_roundw
      case rel => exact ⟨i + 1, by omega, by go_num, below_at HB4.out (by omega), HR1.out, HR2.out⟩
      case measure => simp [intOf]; omega
    · have i2 : ¬ (((i : Nat) : Int) < ((n : Nat) : Int)) := by omega
      have e1 : i = n := by omega
      have HQ0 : Hid (Rq 4 wr w.heap.size n (fun (_ : Nat) => 0)) := by
        have h := HQ.out
        rw [e1] at h
        exact h
      clear HQ e1
      go_wp2
      go_ret
      exact ⟨w.heap.size, rfl, Nat.le_refl _, HB.out, HK.out, HQ0.out⟩
set_option maxRecDepth 100000 in
set_option maxHeartbeats 4000000 in
theorem fallZero_c {w : World} {L : Nat} {ao : Option Addr} {k cap : Nat} {p : List Rat} (h : Rf L w ao p) (hk : p.length = k) (hk2 : k ≤ 400) :
    Calls Tryz.prog 28 #[.slice ao k cap] w fun e w' => e = .returned (.bool (p.all (fun q => decide (q = 0)))) ∧ Below w.heap.size w w' := by
  have H := hid h
  clear h
  go_enter Tryz.func28, Tryz.ntmps28
  go_wp2_with fail
  go_loopw [7] (fun t wr => ∃ (i : Nat), i ≤ k ∧ t = .int .i64 i ∧ Hid (Below w.heap.size w wr) ∧ Hid ((p.take i).all (fun q => decide (q = 0)) = true)) (fun t _ => k - (intOf t).toNat)
  case atStart => exact ⟨0, by omega, rfl, Below.refl _ _, rfl⟩
  case round =>
    obtain ⟨i, hi, rfl, HB, HA⟩ := hrel
    by_cases hlt : i < k
    · obtain ⟨q, haq⟩ : ∃ t, p[i]? = some t := ⟨_, List.getElem?_eq_getElem (by omega)⟩
      obtain ⟨b, o, ⟨ts, tx, tn, tc, tf, ty, tm, td, tg⟩, hav, hc, hr⟩ := (H.out.below HB.out) i q haq
      have hav2 := hav
      subst hav2
      obtain ⟨x0, x1, x2⟩ := hc
      replace x0 : wr.cell? ⟨b, o + i * 3, none⟩ = some (.bool ts) := x0
      replace x1 : wr.cell? ⟨b, o + i * 3 + 1, none⟩ = some (.slice tx tn tc) := x1
      replace x2 : wr.cell? ⟨b, o + i * 3 + 2, none⟩ = some (.slice ty tm td) := x2
      have hz : q = 0 ↔ tn = 0 := hr.q_zero
      have HD : Hid ((p.take (i + 1)).all (fun q => decide (q = 0)) = decide (tn = 0)) := by
        show _ = _
        rw [List.take_add_one, haq, Option.toList_some, List.all_append, HA.out, Bool.true_and]
        simp [hz]
      have HF : Hid (tn ≠ 0 → p.all (fun q => decide (q = 0)) = false) := by
        intro hn
        rw [Bool.eq_false_iff]
        intro ht
        rw [List.all_eq_true] at ht
        have := ht q (List.mem_of_getElem? haq)
        exact hn (hz.1 (by simpa using this))
      have i2 : ((i : Nat) : Int) < ((k : Nat) : Int) := by omega
      have hbt := below_alloc (Below.refl wr.heap.size wr) (.cells #[.bool ts, .slice tx tn tc, .slice ty tm td] 24)
      have HB1 := hid (HB.out.trans (hbt.mono HB.out.size))
      clear haq hav hr hz HA HB hbt
      go_wp2_with fail
      refine (fisZero_c _ _ _ _ _ _ _ _).mono ?_
      rintro e w4 ⟨rfl, hb4⟩
      have HB4 := hid (HB1.out.trans (hb4.mono HB1.out.size))
      clear hb4 HB1
      by_cases e0 : tn = 0
      · subst e0
        have HD1 : Hid ((p.take (i + 1)).all (fun q => decide (q = 0)) = true) := HD.out
        clear HD HF
        go_wp2
        go_roundw
        case rel => exact ⟨i + 1, by omega, by go_num, HB4.out, HD1.out⟩
        case measure => simp [intOf]; omega
      · have HF1 := hid (HF.out e0)
        have e1 : decide (tn = 0) = false := decide_eq_false e0
        rw [e1]
        clear HD HF e0 e1
        go_wp2
        go_ret
        exact ⟨by rw [HF1.out]; rfl, HB4.out⟩
    · have i2 : ¬ (((i : Nat) : Int) < ((k : Nat) : Int)) := by omega
      have HF : Hid (p.all (fun q => decide (q = 0)) = true) := by
        show _ = _
        have e1 : i = k := by omega
        have := HA.out
        rw [e1, ← hk, List.take_length] at this; exact this
      clear HA
      go_wp2
      go_ret
      exact ⟨by rw [HF.out]; rfl, HB.out⟩
end Go.Proofs.YtedpomledbgpoaaGreat
namespace Go.Proofs.YtedpomledbgpoaaGreat
open Go.RowKit

theorem lo_zero {L : Nat} (hL : 1 ≤ L) : Lo L 0 := by
  have h := pw_mono hL
  have h1 : pw 1 = 18446744073709551616 := by decide
  constructor
  · show ((0 : Nat) : Int) < _; omega
  · show ((1 : Nat) : Int) < _; omega
theorem Tf.lo {L w ao} {v : List (Int × Rat)} (h : Tf L w ao v) : ∀ (j : Nat) (a : Int) (q : Rat), v[j]? = some (a, q) → Lo L q := fun j a q hj => by
  obtain ⟨_, _, _, _, _, h2⟩ := h j a q hj
  exact h2.lo h2.ln h2.ld
theorem Rf.lo {L w ao} {p : List Rat} (h : Rf L w ao p) : ∀ (j : Nat) (q : Rat), p[j]? = some q → Lo L q := fun j q hj => by
  obtain ⟨_, _, _, _, _, h2⟩ := h j q hj
  exact h2.lo h2.ln h2.ld
end Go.Proofs.YtedpomledbgpoaaGreat
namespace Go.Proofs.YtedpomledbgpoaaGreat
open Go.RowKit

/-- A bound's weight, a column's coefficient, and what bounds make. -/
def wtQ (b : BV) : Rat := if b.up then -b.q else b.q
def coefT : List (Int × Rat) → Nat → Rat
  | [], _ => 0
  | (z, a) :: r, j => (if z = (j : Int) then a else 0) + coefT r j
def sumF (f : BV → Rat) : List BV → Rat
  | [] => 0
  | b :: l => f b + sumF f l
theorem sumF_snoc (f : BV → Rat) : ∀ (l : List BV) (b : BV), sumF f (l ++ [b]) = sumF f l + f b
  | [], b => by show f b + 0 = 0 + f b; grind
  | c :: l, b => by
    simp only [List.cons_append, sumF]
    rw [sumF_snoc f l b]; grind
theorem coefT_snoc (z : Int) (a : Rat) (j : Nat) : ∀ (l : List (Int × Rat)), coefT (l ++ [(z, a)]) j = coefT l j + (if z = (j : Int) then a else 0)
  | [] => by simp only [List.nil_append, coefT]; grind
  | (y, b) :: l => by
    simp only [List.cons_append, coefT]
    rw [coefT_snoc z a j l]; grind
def cmbQ (l : List BV) (j : Nat) : Rat := sumF (fun b => wtQ b * coefT b.ts j) l
def cmbS (l : List BV) : Rat := sumF (fun b => wtQ b * b.a) l
theorem tsB_take {n : Nat} : ∀ {ts : List (Int × Rat)} {z : Int} (i : Nat), tsB n z ts = true → tsB n z (ts.take i) = true
  | [], _, i, _ => by simp [tsB]
  | (y, q) :: r, z, 0, _ => rfl
  | (y, q) :: r, z, i + 1, h => by
    simp only [tsB, Bool.and_eq_true, decide_eq_true_eq] at h
    simp only [List.take_succ_cons, tsB, Bool.and_eq_true, decide_eq_true_eq]
    exact ⟨h.1, h.2.1, h.2.2.1, tsB_take i h.2.2.2⟩
theorem coefT_low {n : Nat} {j : Nat} : ∀ {ts : List (Int × Rat)} {z : Int}, tsB n z ts = true → (j : Int) ≤ z → coefT ts j = 0
  | [], _, _, _ => rfl
  | (y, q) :: r, z, h, hj => by
    simp only [tsB, Bool.and_eq_true, decide_eq_true_eq] at h
    simp only [coefT]
    rw [if_neg (by omega), coefT_low h.2.2.2 (by omega)]
    grind
theorem lo_coef {n L j : Nat} (hL : 1 ≤ L) : ∀ {ts : List (Int × Rat)} {z : Int}, tsB n z ts = true → (∀ p ∈ ts, Lo L p.2) → Lo L (coefT ts j)
  | [], _, _, _ => lo_zero hL
  | (y, q) :: r, z, h, hp => by
    simp only [tsB, Bool.and_eq_true, decide_eq_true_eq] at h
    simp only [coefT]
    by_cases e : y = (j : Int)
    · rw [if_pos e, coefT_low h.2.2.2 (by omega), show q + (0 : Rat) = q by grind]
      exact hp _ List.mem_cons_self
    · rw [if_neg e, show (0 : Rat) + coefT r j = coefT r j by grind]
      exact lo_coef hL h.2.2.2 (fun p h => hp p (List.mem_cons_of_mem _ h))
theorem lo_wt {L : Nat} {b : BV} (h : Lo L b.q) : Lo L (wtQ b) := by
  unfold wtQ
  split
  · exact lo_neg h
  · exact h
theorem Tf.loM {L w ao v} (h : Tf L w ao v) : ∀ p ∈ v, Lo L p.2 := fun p hp => by
  obtain ⟨j, hj, e⟩ := List.getElem_of_mem hp
  obtain ⟨b, o, t, h1, h2, h3⟩ := h j p.1 p.2 (by rw [List.getElem?_eq_getElem hj, e])
  exact h3.lo h3.ln h3.ld
theorem frozen_bk {w w' : World} {B o : Nat} (h : w'.heap[B]? = w.heap[B]?) : w'.frozen? ⟨B, o, none⟩ = w.frozen? ⟨B, o, none⟩ := by
  simp only [World.frozen?, h]
theorem Rk.fr {F : Nat → Prop} {w w' B n} (h : Rk w B n) (hf : Fr F w w') (hn : ¬ F B) : Rk w' B n :=
  ⟨Nat.lt_of_lt_of_le h.z hf.size, fun o ho => by obtain ⟨u, h1, h2⟩ := h.has o ho; exact ⟨u, hf.cell hn h1, h2⟩, fun o => (frozen_bk (hf.block B h.z hn)).trans (h.fz o)⟩
theorem Rq.fr {F : Nat → Prop} {Kn w w' B i Q} (h : Rq Kn w B i Q) (hf : Fr F w w') (hn : ¬ F B) : Rq Kn w' B i Q := fun j hj => by
  obtain ⟨t, h1, h2⟩ := h j hj
  exact ⟨t, ⟨hf.cell hn h1.x0, hf.cell hn h1.x1, hf.cell hn h1.x2⟩, hf.rn h2⟩
theorem Sx.fr {F : Nat → Prop} {w w' B s x n c y m d} (h : Sx w B s x n c y m d) (hf : Fr F w w') (hn : ¬ F B) : Sx w' B s x n c y m d :=
  ⟨Nat.lt_of_lt_of_le h.z hf.size, hf.cell hn h.x0, hf.cell hn h.x1, hf.cell hn h.x2, fun o => (frozen_bk (hf.block B h.z hn)).trans (h.fz o)⟩
theorem rk_fr {w B n j s x k c y m d} (h : Rk w B n) (hj : j < n) : Fr (fun k => k = B) w (((w.setCell ⟨B, j * 3, none⟩ (.bool s)).setCell ⟨B, j * 3 + 1, none⟩ (.slice x k c)).setCell ⟨B, j * 3 + 2, none⟩ (.slice y m d)) := by
  have k1 := h.set (o := j * 3) (u := .bool s) (fun i h => by cases h)
  have k2 := k1.set (o := j * 3 + 1) (u := .slice x k c) (fun i h => by cases h)
  refine ⟨rfl, rfl, rfl, by simp [World.setCell], fun k _ hn => ?_, fun _ _ _ r => k2.rd (by omega) (k1.rd (by omega) (h.rd (by omega) r))⟩
  exact (Below.heap_setCell _ _ _ _ hn).trans ((Below.heap_setCell _ _ _ _ hn).trans (Below.heap_setCell _ _ _ _ hn))
theorem sx_fr {w B s x n c y m d u0 u1 u2} (S : Sx w B s x n c y m d) : Fr (fun k => k = B) w (((w.setCell ⟨B, 0, none⟩ u0).setCell ⟨B, 1, none⟩ u1).setCell ⟨B, 2, none⟩ u2) := by
  refine ⟨rfl, rfl, rfl, by simp [World.setCell], fun k _ hn => ?_, fun _ _ _ r => S.rd r⟩
  exact (Below.heap_setCell _ _ _ _ hn).trans ((Below.heap_setCell _ _ _ _ hn).trans (Below.heap_setCell _ _ _ _ hn))
/-- What has been added up so far: the list of coefficients in block BL, which box XL holds; the bound in box XR. -/
structure CmI (Kn N cn BL XL XR : Nat) (l : List BV) (W : World) : Prop where
  xl : Bk W XL [.slice (some ⟨BL, 0, none⟩) cn cn] 29
  rk : Rk W BL cn
  rq : Rq Kn W BL cn (cmbQ l)
  sx : ∃ s x k c f y m d g, Sx W XR s x k c y m d ∧ Rn Kn W s x k c f y m d g (cmbS l)
  lq : ∀ j, Lo (4 + l.length * N) (cmbQ l j)
  ls : Lo (4 + l.length * N) (cmbS l)
theorem CmI.below {Kn N cn BL XL XR l W W'} (h : CmI Kn N cn BL XL XR l W) (hb : Below W.heap.size W W') : CmI Kn N cn BL XL XR l W' := by
  obtain ⟨s, x, k, c, f, y, m, d, g, h1, h2⟩ := h.sx
  exact ⟨h.xl.below hb, h.rk.below hb, h.rq.below hb, ⟨s, x, k, c, f, y, m, d, g, h1.below hb, h2.below hb⟩, h.lq, h.ls⟩
theorem cq_zero (l : List BV) (b : BV) : (fun j => cmbQ l j + wtQ b * coefT (b.ts.take 0) j) = cmbQ l := by
  funext j
  show cmbQ l j + wtQ b * 0 = cmbQ l j
  grind
theorem cq_all {l : List BV} {b : BV} {i : Nat} (h : b.ts.length ≤ i) : (fun j => cmbQ l j + wtQ b * coefT (b.ts.take i) j) = cmbQ (l ++ [b]) := by
  funext j
  rw [List.take_of_length_le h]
  exact (sumF_snoc (fun b => wtQ b * coefT b.ts j) l b).symm
theorem cq_step {l : List BV} {b : BV} {i zn : Nat} {q : Rat} (h : b.ts[i]? = some ((zn : Int), q)) (j : Nat) : cmbQ l j + wtQ b * coefT (b.ts.take (i + 1)) j = cmbQ l j + wtQ b * coefT (b.ts.take i) j + (if zn = j then wtQ b * q else 0) := by
  rw [List.take_add_one, h, Option.toList_some, coefT_snoc]
  by_cases e : zn = j
  · rw [if_pos (by omega), if_pos e]; grind
  · rw [if_neg (by omega), if_neg e]; grind
set_option maxRecDepth 100000 in
set_option maxHeartbeats 8000000 in
theorem vComb_c {W : World} {Kn L cn BL XL XR : Nat} {B : Bd} {b : BV} {l : List BV} (hlen : l.length < 256) (hts : tsB cn (-1) b.ts = true) (hnf : b.ts ≠ [] → ∀ b' o', B.ta = some ⟨b', o', none⟩ → ¬ (b' = BL ∨ b' = XR)) (hI : CmI Kn (2 * L + 2) cn BL XL XR l W) (hB : BdV L W B b) (hL1 : 1 ≤ L) (hL2 : L ≤ 100) (hK1 : 4 + 256 * (2 * L + 2) ≤ Kn) (hK2 : Kn ≤ 200000) (hcn : cn ≤ 64) (ap1 : BL ≠ XL) (ap2 : BL ≠ XR) (ap3 : XL ≠ XR) :
    Calls Tryz.prog 44 (#[B.val] ++ #[.pointer (some ⟨XL, 0, none⟩), .pointer (some ⟨XR, 0, none⟩)]) W fun e W' => e = .returned (.tuple #[]) ∧ Fr (fun k => k = BL ∨ k = XR) W W' ∧ CmI Kn (2 * L + 2) cn BL XL XR (l ++ [b]) W' := by
  obtain ⟨⟨s, x, n, c, f, y, m, d, g⟩, ⟨i1, ⟨s1, x1, n1, c1, f1, y1, m1, d1, g1⟩⟩, up, ta, tk, tc⟩ := B
  have hq : Rn L W s x n c f y m d g b.q := hB.q
  have ha : Rn L W s1 x1 n1 c1 f1 y1 m1 d1 g1 b.a := hB.a
  have HUP : Hid (up = b.up) := hB.up
  have htk : b.ts.length = tk := hB.tk
  have htf : Tf L W ta b.ts := hB.ts
  replace hnf : b.ts ≠ [] → ∀ b' o', ta = some ⟨b', o', none⟩ → ¬ (b' = BL ∨ b' = XR) := hnf
  have hlw : Lo L (wtQ b) := lo_wt (hq.lo hq.ln hq.ld)
  have hlp : (l.length + 1) * (2 * L + 2) ≤ 256 * (2 * L + 2) := Nat.mul_le_mul_right _ (by omega)
  have htk6 : tk ≤ 64 := by have := tsB_len hts (by omega); omega
  have hle : (l ++ [b]).length = l.length + 1 := by simp
  have HLQ : Hid (∀ i j, Lo (4 + (l.length + 1) * (2 * L + 2)) (cmbQ l j + wtQ b * coefT (b.ts.take i) j)) := fun i j => (lo_add (hI.lq j) (lo_mul hlw (lo_coef hL1 (tsB_take i hts) (fun q hq => htf.loM q (List.mem_of_mem_take hq))))).mono (by rw [Nat.add_mul]; omega)
  have HLS : Hid (Lo (4 + (l.length + 1) * (2 * L + 2)) (cmbS l + wtQ b * b.a)) := (lo_add hI.ls (lo_mul hlw (ha.lo ha.ln ha.ld))).mono (by rw [Nat.add_mul]; omega)
  have HTS := hid hts; have HNF := hid hnf; have HI := hid hI; have HA := hid ha; have HTF := hid htf
  have hBLz := hI.rk.z
  have hXLz := hI.xl.lt
  obtain ⟨_, _, _, _, _, _, _, _, _, hsx0, _⟩ := hI.sx
  have hXRz := hsx0.z
  clear hts hnf hI ha htf hB hlw hsx0
  show Calls Tryz.prog 44 #[.agg #[.bool s, .slice x n c, .slice y m d, .int .i64 i1, .bool s1, .slice x1 n1 c1, .slice y1 m1 d1, .bool up, .slice ta tk tc], .pointer (some ⟨XL, 0, none⟩), .pointer (some ⟨XR, 0, none⟩)] W _
  have hb := below_alloc (Below.refl W.heap.size W) (.cells #[.bool s, .slice x n c, .slice y m d, .int .i64 i1, .bool s1, .slice x1 n1 c1, .slice y1 m1 d1, .bool up, .slice ta tk tc] 90)
  have BB := hid (bk_new W [.bool s, .slice x n c, .slice y m d, .int .i64 i1, .bool s1, .slice x1 n1 c1, .slice y1 m1 d1, .bool up, .slice ta tk tc] 90)
  replace BB : Hid (Bk (W.alloc (.cells #[.bool s, .slice x n c, .slice y m d, .int .i64 i1, .bool s1, .slice x1 n1 c1, .slice y1 m1 d1, .bool up, .slice ta tk tc] 90)) W.heap.size [.bool s, .slice x n c, .slice y m d, .int .i64 i1, .bool s1, .slice x1 n1 c1, .slice y1 m1 d1, .bool up, .slice ta tk tc] 90) := BB
  go_enter Tryz.func44, Tryz.ntmps44
  go_wp2_with fail
  generalize W.alloc (.cells #[.bool s, .slice x n c, .slice y m d, .int .i64 i1, .bool s1, .slice x1 n1 c1, .slice y1 m1 d1, .bool up, .slice ta tk tc] 90) = w1 at *
  refine (weight_c (hq.below hb) (by omega)).mono ?_
  rintro e w2 ⟨s9, x9, n9, c9, f9, y9, m9, d9, g9, rfl, hb2, hq9⟩
  replace hq9 : Rn L w2 s9 x9 n9 c9 f9 y9 m9 d9 g9 (wtQ b) := by rw [HUP.out] at hq9; exact hq9
  have hb12 := hb.trans (hb2.mono hb.size)
  have hb3 := below_alloc (Below.refl w2.heap.size w2) (.cells #[.bool s9, .slice x9 n9 c9, .slice y9 m9 d9] 24)
  have hb13 := hb12.trans (hb3.mono hb12.size)
  have BW := hid (bk_new w2 [.bool s9, .slice x9 n9 c9, .slice y9 m9 d9] 24)
  replace BW : Hid (Bk (w2.alloc (.cells #[.bool s9, .slice x9 n9 c9, .slice y9 m9 d9] 24)) w2.heap.size [.bool s9, .slice x9 n9 c9, .slice y9 m9 d9] 24) := BW
  have k8 := ((BB.out.below hb2).below hb3).cell (j := 8) rfl
  go_wp2_with fail
  clear k8
  replace BB := hid ((BB.out.below hb2).below hb3)
  have HQ9 := hid (hq9.below hb3)
  have HB3 := hid hb13
  have FB3 : Hid (Fr (fun k => k = BL ∨ k = XR) W (w2.alloc (.cells #[.bool s9, .slice x9 n9 c9, .slice y9 m9 d9] 24))) := Fr.of hb13
  have I3 := hid (HI.out.below hb13); have HA3 := hid (HA.out.below hb13); have HT3 := hid (HTF.out.below hb13)
  have hs2 : W.heap.size ≤ w2.heap.size := hb12.size
  clear hb hb2 hq hq9 hb12 hb3 hb13 HI HA HTF
  generalize hw3 : w2.alloc (.cells #[.bool s9, .slice x9 n9 c9, .slice y9 m9 d9] 24) = w3 at *
  clear hw3
  generalize w2.heap.size = xw at *
  generalize hxb : W.heap.size = xb at *
  go_loopw [12] (fun t wr => ∃ (i : Nat), i ≤ tk ∧ t = .int .i64 i ∧ Hid (Fr (fun k => k = BL) w3 wr) ∧ Hid (Rk wr BL cn) ∧ Hid (Rq Kn wr BL cn (fun j => cmbQ l j + wtQ b * coefT (b.ts.take i) j))) (fun t _ => tk - (intOf t).toNat)
  case atStart => exact ⟨0, by omega, rfl, Fr.refl _ _, I3.out.rk, by show Rq _ _ _ _ _; rw [cq_zero]; exact I3.out.rq⟩
  case round =>
    obtain ⟨i, hi, rfl, HG, HK, HQ⟩ := hrel
    by_cases hlt : i < tk
    · obtain ⟨⟨z, q⟩, haq⟩ : ∃ t, b.ts[i]? = some t := ⟨_, List.getElem?_eq_getElem (by omega)⟩
      obtain ⟨hz0, hz1, _⟩ := tsB_mem HTS.out _ (List.mem_of_getElem? haq)
      replace hz0 : (-1 : Int) < z := hz0
      replace hz1 : z < (cn : Int) := hz1
      obtain ⟨zn, rfl⟩ := Int.eq_ofNat_of_zero_le (show 0 ≤ z by omega)
      have hne : b.ts ≠ [] := fun e => by rw [e] at haq; cases haq
      obtain ⟨b2, o2, ⟨ts, tx, tn, tc2, tf, ty, tm, td, tg⟩, hta, hc, hr⟩ := (HT3.out.fr HG.out (fun b' o' e hf => HNF.out hne b' o' e (Or.inl hf))) i (zn : Int) q haq
      subst hta
      obtain ⟨x0, x1, x2, x3⟩ := hc
      replace x0 : wr.cell? ⟨b2, o2 + i * 4, none⟩ = some (.int .i64 zn) := x0
      replace x1 : wr.cell? ⟨b2, o2 + i * 4 + 1, none⟩ = some (.bool ts) := x1
      replace x2 : wr.cell? ⟨b2, o2 + i * 4 + 2, none⟩ = some (.slice tx tn tc2) := x2
      replace x3 : wr.cell? ⟨b2, o2 + i * 4 + 3, none⟩ = some (.slice ty tm td) := x3
      have hr2 : Rn L wr ts tx tn tc2 tf ty tm td tg q := hr
      obtain ⟨⟨ls, lx, ln, lc, lf, ly, lm, ld, lg⟩, ⟨p0, p1, p2⟩, hr0⟩ := HQ.out zn (by omega)
      replace p0 : wr.cell? ⟨BL, zn * 3, none⟩ = some (.bool ls) := p0
      replace p1 : wr.cell? ⟨BL, zn * 3 + 1, none⟩ = some (.slice lx ln lc) := p1
      replace p2 : wr.cell? ⟨BL, zn * 3 + 2, none⟩ = some (.slice ly lm ld) := p2
      replace hr0 : Rn Kn wr ls lx ln lc lf ly lm ld lg (cmbQ l zn + wtQ b * coefT (b.ts.take i) zn) := hr0
      have hbt := below_alloc (Below.refl wr.heap.size wr) (.cells #[.int .i64 zn, .bool ts, .slice tx tn tc2, .slice ty tm td] 71)
      have a0 : (wr.alloc (.cells #[.int .i64 zn, .bool ts, .slice tx tn tc2, .slice ty tm td] 71)).cell? ⟨wr.heap.size, 0, none⟩ = some (.int .i64 zn) := by simp [go_sem]
      have a1 : (wr.alloc (.cells #[.int .i64 zn, .bool ts, .slice tx tn tc2, .slice ty tm td] 71)).cell? ⟨wr.heap.size, 1, none⟩ = some (.bool ts) := by simp [go_sem]
      have a2 : (wr.alloc (.cells #[.int .i64 zn, .bool ts, .slice tx tn tc2, .slice ty tm td] 71)).cell? ⟨wr.heap.size, 2, none⟩ = some (.slice tx tn tc2) := by simp [go_sem]
      have a3 : (wr.alloc (.cells #[.int .i64 zn, .bool ts, .slice tx tn tc2, .slice ty tm td] 71)).cell? ⟨wr.heap.size, 3, none⟩ = some (.slice ty tm td) := by simp [go_sem]
      have XK := (HG.out.bk I3.out.xl (fun e => ap1 e.symm)).below hbt
      have WK := (HG.out.bk BW.out (fun (e : xw = BL) => by omega)).below hbt
      have i2' : ((i : Nat) : Int) < ((tk : Nat) : Int) := by omega
      have i3' : ((zn : Nat) : Int) < ((cn : Nat) : Int) := by omega
      have hzn : zn < cn := by omega
      have HAQ := hid haq
      clear haq hr hne
      go_upto_region 5 with fail
      clear x0 x1 x2 x3
      replace p0 := kCb hbt p0; replace p1 := kCb hbt p1; replace p2 := kCb hbt p2
      have R0 := hid (hr0.below hbt); have R1 := hid ((HG.out.rn HQ9.out).below hbt); have R2 := hid (hr2.below hbt)
      replace HG := hid (HG.out.trans (Fr.of hbt)); replace HK := hid (HK.out.below hbt); replace HQ := hid (HQ.out.below hbt)
      clear hr0 hr2 hbt
      generalize hbx : wr.heap.size = bx at *
      generalize wr.alloc (.cells #[.int .i64 zn, .bool ts, .slice tx tn tc2, .slice ty tm td] 71) = w5 at *
      clear hbx
      have e0 := XK.cell (j := 0) rfl
      have v0 := WK.cell (j := 0) rfl
      have v1 := WK.cell (j := 1) rfl
      have v2 := WK.cell (j := 2) rfl
      clear XK WK
      refine wp_region_phase (S := (fun w' => w'.cell? ⟨XL, 0, none⟩ = some (.slice (some ⟨BL, 0, none⟩) cn cn) ∧ w'.cell? ⟨bx, 0, none⟩ = some (.int .i64 zn) ∧ w'.cell? ⟨bx, 1, none⟩ = some (.bool ts) ∧ w'.cell? ⟨bx, 2, none⟩ = some (.slice tx tn tc2) ∧ w'.cell? ⟨bx, 3, none⟩ = some (.slice ty tm td) ∧ w'.cell? ⟨BL, zn * 3, none⟩ = some (.bool ls) ∧ w'.cell? ⟨BL, zn * 3 + 1, none⟩ = some (.slice lx ln lc) ∧ w'.cell? ⟨BL, zn * 3 + 2, none⟩ = some (.slice ly lm ld) ∧ w'.cell? ⟨xw, 0, none⟩ = some (.bool s9) ∧ w'.cell? ⟨xw, 1, none⟩ = some (.slice x9 n9 c9) ∧ w'.cell? ⟨xw, 2, none⟩ = some (.slice y9 m9 d9))) 14 (by kernel_rfl) ⟨kCd e0, kCd a0, kCd a1, kCd a2, kCd a3, kCd p0, kCd p1, kCd p2, kCd v0, kCd v1, kCd v2⟩ (fun hHeld => ?_)
      refine wpAnyP_takeA (i := 0) (v := ?_) rfl (by kernel_rfl) (by kernel_rfl) (by kernel_rfl) (by kernel_rfl) (by kernel_rfl) (by kernel_rfl) (fun _ _ _ h => h) (Or.inl ⟨by rfl, ?_⟩) (by assumption) ?_
      rotate_left
      (focus (intro w0 hSw; (try dsimp only at hSw); go_simp <;> with_reducible rfl))
      simp only [List.getElem_toArray, List.getElem_cons_zero, Act.put, List.setIfInBounds_toArray, List.set_cons_zero, List.set_cons_succ]
      refine wpAnyP_skim (i := 1) (v := ?_) rfl (by kernel_rfl) (by kernel_rfl) (by kernel_rfl) (by kernel_rfl) (fun _ _ _ h => h) (Or.inl ⟨by rfl, ?_⟩) (fun _ => by assumption) ?_
      rotate_left
      (focus (intro w0 hSw; go_simp <;> with_reducible rfl))
      simp only [List.getElem_toArray, List.getElem_cons_succ, List.getElem_cons_zero, Act.put, List.setIfInBounds_toArray, List.set_cons_zero, List.set_cons_succ]
      refine wpAnyP_takeA (i := 2) (v := ?_) rfl (by kernel_rfl) (by kernel_rfl) (by kernel_rfl) (by kernel_rfl) (by kernel_rfl) (by kernel_rfl) (fun _ _ _ h => h) (Or.inl ⟨by rfl, ?_⟩) (by assumption) ?_
      rotate_left
      (focus (intro w0 hSw; (try dsimp only at hSw); go_simp <;> with_reducible rfl))
      simp only [List.getElem_toArray, List.getElem_cons_succ, List.getElem_cons_zero, Act.put, List.setIfInBounds_toArray, List.set_cons_zero, List.set_cons_succ]
      refine wpAnyP_takeA (i := 3) (v := ?_) rfl (by kernel_rfl) (by kernel_rfl) (by kernel_rfl) (by kernel_rfl) (by kernel_rfl) (by kernel_rfl) (fun _ _ _ h => h) (Or.inl ⟨by rfl, ?_⟩) (by assumption) ?_
      rotate_left
      (focus (intro w0 hSw; (try dsimp only at hSw); go_simp <;> with_reducible rfl))
      simp only [List.getElem_toArray, List.getElem_cons_succ, List.getElem_cons_zero, Act.put, List.setIfInBounds_toArray, List.set_cons_zero, List.set_cons_succ]
      refine wpAnyP_skim (i := 4) (v := ?_) rfl (by kernel_rfl) (by kernel_rfl) (by kernel_rfl) (by kernel_rfl) (fun _ _ _ h => h) (Or.inl ⟨by rfl, ?_⟩) (fun _ => by assumption) ?_
      rotate_left
      (focus (intro w0 hSw; go_simp <;> with_reducible rfl))
      simp only [List.getElem_toArray, List.getElem_cons_succ, List.getElem_cons_zero, Act.put, List.setIfInBounds_toArray, List.set_cons_zero, List.set_cons_succ]
      refine wpAnyP_takeA (i := 5) (v := ?_) rfl (by kernel_rfl) (by kernel_rfl) (by kernel_rfl) (by kernel_rfl) (by kernel_rfl) (by kernel_rfl) (fun _ _ _ h => h) (Or.inl ⟨by rfl, ?_⟩) (by assumption) ?_
      rotate_left
      (focus (intro w0 hSw; (try dsimp only at hSw); go_simp <;> with_reducible rfl))
      simp only [List.getElem_toArray, List.getElem_cons_succ, List.getElem_cons_zero, Act.put, List.setIfInBounds_toArray, List.set_cons_zero, List.set_cons_succ]
      refine wpAnyP_skim (i := 6) (v := ?_) rfl (by kernel_rfl) (by kernel_rfl) (by kernel_rfl) (by kernel_rfl) (fun _ _ _ h => h) (Or.inl ⟨by rfl, ?_⟩) (fun _ => by assumption) ?_
      rotate_left
      (focus (intro w0 hSw; go_simp <;> with_reducible rfl))
      simp only [List.getElem_toArray, List.getElem_cons_succ, List.getElem_cons_zero, Act.put, List.setIfInBounds_toArray, List.set_cons_zero, List.set_cons_succ]
      refine wpAnyP_takeA (i := 7) (v := ?_) rfl (by kernel_rfl) (by kernel_rfl) (by kernel_rfl) (by kernel_rfl) (by kernel_rfl) (by kernel_rfl) (fun _ _ _ h => h) (Or.inl ⟨by rfl, ?_⟩) (by assumption) ?_
      rotate_left
      (focus (intro w0 hSw; (try dsimp only at hSw); go_simp <;> with_reducible rfl))
      simp only [List.getElem_toArray, List.getElem_cons_succ, List.getElem_cons_zero, Act.put, List.setIfInBounds_toArray, List.set_cons_zero, List.set_cons_succ]
      refine wpAnyP_takeA (i := 8) (v := ?_) rfl (by kernel_rfl) (by kernel_rfl) (by kernel_rfl) (by kernel_rfl) (by kernel_rfl) (by kernel_rfl) (fun _ _ _ h => h) (Or.inl ⟨by rfl, ?_⟩) (by assumption) ?_
      rotate_left
      (focus (intro w0 hSw; (try dsimp only at hSw); go_simp <;> with_reducible rfl))
      simp only [List.getElem_toArray, List.getElem_cons_succ, List.getElem_cons_zero, Act.put, List.setIfInBounds_toArray, List.set_cons_zero, List.set_cons_succ]
      refine wpAnyP_skim (i := 9) (v := ?_) rfl (by kernel_rfl) (by kernel_rfl) (by kernel_rfl) (by kernel_rfl) (fun _ _ _ h => h) (Or.inl ⟨by rfl, ?_⟩) (fun _ => by assumption) ?_
      rotate_left
      (focus (intro w0 hSw; go_simp <;> with_reducible rfl))
      simp only [List.getElem_toArray, List.getElem_cons_succ, List.getElem_cons_zero, Act.put, List.setIfInBounds_toArray, List.set_cons_zero, List.set_cons_succ]
      refine wpAnyP_takeA (i := 10) (v := ?_) rfl (by kernel_rfl) (by kernel_rfl) (by kernel_rfl) (by kernel_rfl) (by kernel_rfl) (by kernel_rfl) (fun _ _ _ h => h) (Or.inl ⟨by rfl, ?_⟩) (by assumption) ?_
      rotate_left
      (focus (intro w0 hSw; (try dsimp only at hSw); go_simp <;> with_reducible rfl))
      simp only [List.getElem_toArray, List.getElem_cons_succ, List.getElem_cons_zero, Act.put, List.setIfInBounds_toArray, List.set_cons_zero, List.set_cons_succ]
      refine wpAnyP_ready (rs := [11]) (by kernel_rfl) (by simp) ?_
      refine AllReadyP.cons (o := _) rfl (fun K hK => ?_) ?_
      rotate_left
      exact AllReadyP.nil
      go_simp
      go_at_call 47
      refine (ftimes_c (L := L) (kRnd R1.out) (kRnd R2.out) (by omega)).mono ?_
      rintro e w6 ⟨s6, x6, n6, c6, f6, y6, m6, d6, g6, rfl, hb6, hq6⟩
      (try go_wp2_with fail)
      have yy0 := kCb hb6 (hHeld.1)
      have yy1 := kCb hb6 (hHeld.2.1)
      have yy2 := kCb hb6 (hHeld.2.2.1)
      have yy3 := kCb hb6 (hHeld.2.2.2.1)
      have yy4 := kCb hb6 (hHeld.2.2.2.2.1)
      have yy5 := kCb hb6 (hHeld.2.2.2.2.2.1)
      have yy6 := kCb hb6 (hHeld.2.2.2.2.2.2.1)
      have yy7 := kCb hb6 (hHeld.2.2.2.2.2.2.2.1)
      have yy8 := kCb hb6 (hHeld.2.2.2.2.2.2.2.2.1)
      have yy9 := kCb hb6 (hHeld.2.2.2.2.2.2.2.2.2.1)
      have yy10 := kCb hb6 (hHeld.2.2.2.2.2.2.2.2.2.2)
      refine hK.out _ _ (fun _ => ⟨yy0, yy1, yy2, yy3, yy4, yy5, yy6, yy7, yy8, yy9, yy10⟩) (fun hS6 => ?_)
      clear hK K hS6
      try simp only [Act.put, List.setIfInBounds_toArray, List.set_cons_zero, List.set_cons_succ]
      have Bd6 := (Below.drew (Below.refl w5.heap.size w5)).trans (hb6.mono (Nat.le_refl _))
      refine wpAnyP_ready (rs := [12]) (by kernel_rfl) (by simp) ?_
      refine AllReadyP.cons (o := _) rfl (fun K hK => ?_) ?_
      rotate_left
      exact AllReadyP.nil
      go_simp
      go_at_call 46
      refine (fplus_c (L := Kn) (R0.out.below Bd6) (hq6.mono (by omega)) hK2).mono ?_
      rintro e w7 ⟨s7, x7, n7, c7, f7, y7, m7, d7, g7, rfl, hb7, hq7⟩
      (try go_wp2_with fail)
      have uu0 := kCb hb7 yy0
      have uu1 := kCb hb7 yy1
      have uu2 := kCb hb7 yy2
      have uu3 := kCb hb7 yy3
      have uu4 := kCb hb7 yy4
      have uu5 := kCb hb7 yy5
      have uu6 := kCb hb7 yy6
      have uu7 := kCb hb7 yy7
      have uu8 := kCb hb7 yy8
      have uu9 := kCb hb7 yy9
      have uu10 := kCb hb7 yy10
      refine hK.out _ _ (fun _ => ⟨uu0, uu1, uu2, uu3, uu4, uu5, uu6, uu7, uu8, uu9, uu10⟩) (fun hS7 => ?_)
      clear hK K hS7
      try simp only [Act.put, List.setIfInBounds_toArray, List.set_cons_zero, List.set_cons_succ]
      have Bd7 := Bd6.trans (hb7.mono Bd6.size)
      have hk7 := HK.out.below Bd7
      have hq8 : Rn Kn w7 s7 x7 n7 c7 f7 y7 m7 d7 g7 (cmbQ l zn + wtQ b * coefT (b.ts.take (i + 1)) zn) := by
        have h9 := HLQ.out (i + 1) zn
        rw [cq_step HAQ.out, if_pos rfl] at h9 ⊢
        exact (hq7.cut h9).mono (by omega)
      obtain ⟨R1a, R2a⟩ := rq_st (i' := cn) (j := zn) (Q' := fun j => cmbQ l j + wtQ b * coefT (b.ts.take (i + 1)) j) hk7 (HQ.out.below Bd7) hzn hq8 (fun j' h1 h2 => ⟨h1, by show _ + _ = _ + _; rw [cq_step HAQ.out, if_neg (fun e => h2 e.symm)]; grind⟩)
      have HG7 := hid ((HG.out.trans (Fr.of Bd7)).trans (rk_fr (s := s7) (x := x7) (k := n7) (c := c7) (y := y7) (m := m7) (d := d7) hk7 hzn))
      have tf := hk7.fz
      have HR1 := hid R1a; have HR2 := hid R2a
      clear R1a R2a hq8 hq7 hq6 hk7 Bd7 Bd6 hb6 hb7 HK HQ HG R0 R1 R2 yy0 yy1 yy2 yy3 yy4 yy5 yy6 yy7 yy8 yy9 yy10 hHeld e0 a0 a1 a2 a3 p0 p1 p2 v0 v1 v2
      refine wpAnyP_ready (rs := [13]) (by kernel_rfl) (by simp) ?_
      refine AllReadyP.cons (o := _) rfl (fun K hK => ?_) ?_
      rotate_left
      exact AllReadyP.nil
      go_simp
      refine hK.out _ _ (fun _ => ⟨uu0, uu1, uu2, uu3, uu4, uu5, uu6, uu7, uu8, uu9, uu10⟩) (fun hS9 => ?_)
      clear hK K hS9
      try simp only [Act.put, List.setIfInBounds_toArray, List.set_cons_zero, List.set_cons_succ]
      refine wpAnyP_ready (rs := [14]) (by kernel_rfl) (by simp) ?_
      refine AllReadyP.cons (o := _) rfl (fun K hK => ?_) ?_
      rotate_left
      exact AllReadyP.nil
      go_simp
      refine hK.out _ _ (fun h => by cases h) (fun _ => ?_)
      clear hK K
      try simp only [Act.put, List.setIfInBounds_toArray, List.set_cons_zero, List.set_cons_succ]
      refine wpAnyP_done (by kernel_rfl) ?_ _
      clear uu0 uu1 uu2 uu3 uu4 uu5 uu6 uu7 uu8 uu9 uu10 tf
      go_wp2
      go_roundw
      case rel => exact ⟨i + 1, by omega, by go_num, HG7.out, HR1.out, HR2.out⟩
      case measure => simp [intOf]; omega
    · have i4' : ¬ (((i : Nat) : Int) < ((tk : Nat) : Int)) := by omega
      have HQ2 : Hid (Rq Kn wr BL cn (cmbQ (l ++ [b]))) := by
        have := HQ.out
        rw [cq_all (by omega)] at this; exact this
      clear HQ
      obtain ⟨sr, xr, nr, cr, fr, yr, mr, dr, gr, hsx, hrn⟩ := I3.out.sx
      have SX := hid (hsx.fr HG.out (fun e => ap2 e.symm)); have R0 := hid (HG.out.rn hrn); have R1 := hid (HG.out.rn HQ9.out); have R2 := hid (HG.out.rn HA3.out)
      have XK := hid (HG.out.bk I3.out.xl (fun e => ap1 e.symm)); have WK := hid (HG.out.bk BW.out (fun (e : xw = BL) => by omega)); have BK := hid (HG.out.bk BB.out (fun (e : xb = BL) => by omega))
      clear hsx hrn I3 HQ9 HA3 BW BB
      go_upto_region 7 with fail
      have e0 := SX.out.x0; have e1 := SX.out.x1; have e2 := SX.out.x2
      have v0 := WK.out.cell (j := 0) rfl
      have v1 := WK.out.cell (j := 1) rfl
      have v2 := WK.out.cell (j := 2) rfl
      have b4 := BK.out.cell (j := 4) rfl
      have b5 := BK.out.cell (j := 5) rfl
      have b6 := BK.out.cell (j := 6) rfl
      refine wp_region_phase (S := (fun w' => w'.cell? ⟨XR, 0, none⟩ = some (.bool sr) ∧ w'.cell? ⟨XR, 1, none⟩ = some (.slice xr nr cr) ∧ w'.cell? ⟨XR, 2, none⟩ = some (.slice yr mr dr) ∧ w'.cell? ⟨xw, 0, none⟩ = some (.bool s9) ∧ w'.cell? ⟨xw, 1, none⟩ = some (.slice x9 n9 c9) ∧ w'.cell? ⟨xw, 2, none⟩ = some (.slice y9 m9 d9) ∧ w'.cell? ⟨xb, 4, none⟩ = some (.bool s1) ∧ w'.cell? ⟨xb, 5, none⟩ = some (.slice x1 n1 c1) ∧ w'.cell? ⟨xb, 6, none⟩ = some (.slice y1 m1 d1))) 7 (by kernel_rfl) ⟨kCd e0, kCd e1, kCd e2, kCd v0, kCd v1, kCd v2, kCd b4, kCd b5, kCd b6⟩ (fun hHeld => ?_)
      refine wpAnyP_takeA (i := 0) (v := ?_) rfl (by kernel_rfl) (by kernel_rfl) (by kernel_rfl) (by kernel_rfl) (by kernel_rfl) (by kernel_rfl) (fun _ _ _ h => h) (Or.inl ⟨by rfl, ?_⟩) (by assumption) ?_
      rotate_left
      (focus (intro w0 hSw; (try dsimp only at hSw); go_simp <;> with_reducible rfl))
      simp only [List.getElem_toArray, List.getElem_cons_zero, Act.put, List.setIfInBounds_toArray, List.set_cons_zero, List.set_cons_succ]
      refine wpAnyP_takeA (i := 1) (v := ?_) rfl (by kernel_rfl) (by kernel_rfl) (by kernel_rfl) (by kernel_rfl) (by kernel_rfl) (by kernel_rfl) (fun _ _ _ h => h) (Or.inl ⟨by rfl, ?_⟩) (by assumption) ?_
      rotate_left
      (focus (intro w0 hSw; (try dsimp only at hSw); go_simp <;> with_reducible rfl))
      simp only [List.getElem_toArray, List.getElem_cons_succ, List.getElem_cons_zero, Act.put, List.setIfInBounds_toArray, List.set_cons_zero, List.set_cons_succ]
      refine wpAnyP_skim (i := 2) (v := ?_) rfl (by kernel_rfl) (by kernel_rfl) (by kernel_rfl) (by kernel_rfl) (fun _ _ _ h => h) (Or.inl ⟨by rfl, ?_⟩) (fun _ => by assumption) ?_
      rotate_left
      (focus (intro w0 hSw; go_simp <;> with_reducible rfl))
      simp only [List.getElem_toArray, List.getElem_cons_succ, List.getElem_cons_zero, Act.put, List.setIfInBounds_toArray, List.set_cons_zero, List.set_cons_succ]
      refine wpAnyP_skim (i := 3) (v := ?_) rfl (by kernel_rfl) (by kernel_rfl) (by kernel_rfl) (by kernel_rfl) (fun _ _ _ h => h) (Or.inl ⟨by rfl, ?_⟩) (fun _ => by assumption) ?_
      rotate_left
      (focus (intro w0 hSw; go_simp <;> with_reducible rfl))
      simp only [List.getElem_toArray, List.getElem_cons_succ, List.getElem_cons_zero, Act.put, List.setIfInBounds_toArray, List.set_cons_zero, List.set_cons_succ]
      refine wpAnyP_takeA (i := 4) (v := ?_) rfl (by kernel_rfl) (by kernel_rfl) (by kernel_rfl) (by kernel_rfl) (by kernel_rfl) (by kernel_rfl) (fun _ _ _ h => h) (Or.inl ⟨by rfl, ?_⟩) (by assumption) ?_
      rotate_left
      (focus (intro w0 hSw; (try dsimp only at hSw); go_simp <;> with_reducible rfl))
      simp only [List.getElem_toArray, List.getElem_cons_succ, List.getElem_cons_zero, Act.put, List.setIfInBounds_toArray, List.set_cons_zero, List.set_cons_succ]
      refine wpAnyP_ready (rs := [5]) (by kernel_rfl) (by simp) ?_
      refine AllReadyP.cons (o := _) rfl (fun K hK => ?_) ?_
      rotate_left
      exact AllReadyP.nil
      go_simp
      go_at_call 47
      refine (ftimes_c (L := L) (kRnd R1.out) (kRnd R2.out) (by omega)).mono ?_
      rintro e w6 ⟨s6, x6, n6, c6, f6, y6, m6, d6, g6, rfl, hb6, hq6⟩
      (try go_wp2_with fail)
      have yy0 := kCb hb6 (hHeld.1)
      have yy1 := kCb hb6 (hHeld.2.1)
      have yy2 := kCb hb6 (hHeld.2.2.1)
      have yy3 := kCb hb6 (hHeld.2.2.2.1)
      have yy4 := kCb hb6 (hHeld.2.2.2.2.1)
      have yy5 := kCb hb6 (hHeld.2.2.2.2.2.1)
      have yy6 := kCb hb6 (hHeld.2.2.2.2.2.2.1)
      have yy7 := kCb hb6 (hHeld.2.2.2.2.2.2.2.1)
      have yy8 := kCb hb6 (hHeld.2.2.2.2.2.2.2.2)
      refine hK.out _ _ (fun _ => ⟨yy0, yy1, yy2, yy3, yy4, yy5, yy6, yy7, yy8⟩) (fun hS6 => ?_)
      clear hK K hS6
      try simp only [Act.put, List.setIfInBounds_toArray, List.set_cons_zero, List.set_cons_succ]
      have Bd6 := (Below.drew (Below.refl wr.heap.size wr)).trans (hb6.mono (Nat.le_refl _))
      refine wpAnyP_ready (rs := [6]) (by kernel_rfl) (by simp) ?_
      refine AllReadyP.cons (o := _) rfl (fun K hK => ?_) ?_
      rotate_left
      exact AllReadyP.nil
      go_simp
      go_at_call 46
      refine (fplus_c (L := Kn) (R0.out.below Bd6) (hq6.mono (by omega)) hK2).mono ?_
      rintro e w7 ⟨s7, x7, n7, c7, f7, y7, m7, d7, g7, rfl, hb7, hq7⟩
      (try go_wp2_with fail)
      have uu0 := kCb hb7 yy0
      have uu1 := kCb hb7 yy1
      have uu2 := kCb hb7 yy2
      have uu3 := kCb hb7 yy3
      have uu4 := kCb hb7 yy4
      have uu5 := kCb hb7 yy5
      have uu6 := kCb hb7 yy6
      have uu7 := kCb hb7 yy7
      have uu8 := kCb hb7 yy8
      refine hK.out _ _ (fun _ => ⟨uu0, uu1, uu2, uu3, uu4, uu5, uu6, uu7, uu8⟩) (fun hS7 => ?_)
      clear hK K hS7
      try simp only [Act.put, List.setIfInBounds_toArray, List.set_cons_zero, List.set_cons_succ]
      have Bd7 := Bd6.trans (hb7.mono Bd6.size)
      have S7 := SX.out.below Bd7
      have h9 := HLS.out
      have hq8 := (hq7.cut h9).mono (show _ ≤ Kn by omega)
      have tf := S7.fz
      have FG := hid (sx_fr (u0 := .bool s7) (u1 := .slice x7 n7 c7) (u2 := .slice y7 m7 d7) S7)
      have HF7 := hid ((FB3.out.trans ((HG.out.trans (Fr.of Bd7)).imp (fun k e => Or.inl e))).trans (FG.out.imp (fun k e => Or.inr e)))
      have HS8 := hid (S7.st (s1 := s7) (x1 := x7) (n1 := n7) (c1 := c7) (y1 := y7) (m1 := m7) (d1 := d7))
      have HR8 := hid (S7.rn (u0 := .bool s7) (u1 := .slice x7 n7 c7) (u2 := .slice y7 m7 d7) hq8)
      have HX8 := hid (FG.out.bk (XK.out.below Bd7) ap3); have HK8 := hid ((HK.out.below Bd7).fr FG.out ap2); have HQ8 := hid ((HQ2.out.below Bd7).fr FG.out ap2)
      clear hq8 hq7 hq6 S7 h9 Bd7 Bd6 hb6 hb7 HK HQ2 HG R0 R1 R2 SX XK WK BK yy0 yy1 yy2 yy3 yy4 yy5 yy6 yy7 yy8 hHeld e0 e1 e2 v0 v1 v2 b4 b5 b6
      refine wpAnyP_ready (rs := [7]) (by kernel_rfl) (by simp) ?_
      refine AllReadyP.cons (o := _) rfl (fun K hK => ?_) ?_
      rotate_left
      exact AllReadyP.nil
      go_simp
      refine hK.out _ _ (fun h => by cases h) (fun _ => ?_)
      clear hK K
      try simp only [Act.put, List.setIfInBounds_toArray, List.set_cons_zero, List.set_cons_succ]
      refine wpAnyP_done (by kernel_rfl) ?_ _
      clear uu0 uu1 uu2 uu3 uu4 uu5 uu6 uu7 uu8 tf
      go_wp2
      go_end0
      exact ⟨rfl, HF7.out, ⟨HX8.out, HK8.out, HQ8.out, ⟨s7, x7, n7, c7, f7, y7, m7, d7, g7, HS8.out, by rw [show cmbS (l ++ [b]) = cmbS l + wtQ b * b.a from sumF_snoc _ l b]; exact HR8.out⟩, fun j => by rw [hle, ← cq_all (i := tk) (by omega)]; exact HLQ.out tk j, by rw [hle, show cmbS (l ++ [b]) = cmbS l + wtQ b * b.a from sumF_snoc _ l b]; exact HLS.out⟩⟩
end Go.Proofs.YtedpomledbgpoaaGreat
