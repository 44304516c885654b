/-
  The walks of package point's Activities, Feasible, Value, whatever they are handed (written by makers/n6.py). The walks of package ray's times, free, endless, slope, by values (written by makers/ra1.py). The walks of package ray's slope, by values, of Recedes, Valid, whatever they are handed (written by makers/ra2.py). The walk of package ray's Along, whatever it is handed (written by makers/ra3.py). The walk of law07's awake (written by makers/f23.py). Ray's calls on values; the walks of law13's one, first, light, of the reference's Twin of a ray, of awake (written by makers/ra4.py). The reference's Same and Sames of lists with the same values. The walk of law13's awake (written by makers/ra5.py). The reference's models by their values; the walk of the reference's From of a model (written by makers/f32.py). A model that is well formed has values; the walks of the reference's Crossed and DocCrossed (written by makers/f33.py). The walk of the law ModelNames (written by makers/f28.py). The walk of law17's awake, and of StackNew (written by makers/o5.py). The walks of the reference's Same of points, of certificates and of bases that are alike; of the calls of a nil stack; of StackNone (written by makers/o6.py). Lists of numbers that are copies; the walk of law17's lists, and what it answers. Twins have the same values; what adds up along directions. The walks of law13's light, of the reference's Twin of a ray (written by makers/ra7.py). Ray's calls on twins of a model and of lists, by what the model and the lists are; the sum of two directions. Along a direction that recedes points stay points, and values move by the slope. Numbers between two lists of numbers: what is said of both is said of what lies between. The walk of law10's between (written by makers/rg2.py). Point's calls on twins, and on what lies along a direction. Calls on a model's twin and lists as they are handed in, between two of them.
-/
import Derived.Test.YtngakajgkklncaaGreatZ12
import Derived.Test.YtngakajgkklncaaGreatZ10
import Derived.Test.YtngakajgkklncaaGreatZ9
import Derived.Test.YtngakajgkklncaaGreatZ8
import Derived.Test.YtngakajgkklncaaGreatZ6
import Derived.BigQuiet
import Derived.Deep.RegionHeld3
import Derived.BigRegion
import Derived.Test.YtngakajgkklncaaGreatZ11
import Derived.Test.YtngakajgkklncaaGreatZ7
namespace Go.Proofs.YtngakajgkklncaaGreat
open Go.RowKit

/-- What Activities answers. -/
def AcAns (L : Nat) (w w' : World) (e : Ending) (er : Int) (rs : List RV) (xs : List Rat) : Prop := Below w.heap.size w w' ∧
  ((er ≠ 0 ∧ e = .returned (.tuple #[.slice none 0 0, .int .i64 er])) ∨ (er = 0 ∧ ∃ a c, e = .returned (.tuple #[.slice a rs.length c, .int .i64 0]) ∧ (rs.length ≤ c ∧ c ≤ 9223372036854775807) ∧ Rf (KA L) w' a (rs.map (actQ xs))))
/-- Are all bounds kept? -/
def feasB (cs : List CV) (rs : List RV) (xs : List Rat) : Bool := decide ((crl (bcB cs xs) cs.length).length = 0) && decide ((crl (brB rs xs) rs.length).length = 0)
/-- The value of numbers. -/
def costs (cs : List CV) (xs : List Rat) : List Rat := List.zipWith (fun v x => v.cost * x) cs xs
def valQ (off : Rat) (cs : List CV) (xs : List Rat) : Rat := psum (off :: costs cs xs) 0
def KV (L : Nat) : Nat := 4 + 65 * (2 * L + 1 + 1)
/-- What Value answers. -/
def VaAns (L : Nat) (w w' : World) (e : Ending) (er : Int) (off : Rat) (cs : List CV) (xs : List Rat) : Prop := Below w.heap.size w w' ∧
  ((er ≠ 0 ∧ e = .returned (.tuple #[.agg #[.bool false, .slice none 0 0, .slice none 0 0], .int .i64 er])) ∨ (er = 0 ∧ ∃ s x n c f y m d g, e = .returned (.tuple #[.agg #[.bool s, .slice x n c, .slice y m d], .int .i64 0]) ∧ Rn (KV L) w' s x n c f y m d g (valQ off cs xs)))
theorem gr_one {K base : Nat} {w : World} {s : Bool} {x : Option Addr} {n c : Nat} {f : Nat → Int} {y : Option Addr} {m d : Nat} {g : Nat → Int} {q : Rat} (h : Rn K w s x n c f y m d g q) (hb : base ≤ w.heap.size) : Gr K base (w.alloc (.cells #[.bool s, .slice x n c, .slice y m d] 24)) (.slice (some ⟨w.heap.size, 0, none⟩) 1 1) [q] := by
  refine ⟨fun _ => ⟨s, x, n, c, f, y, m, d, g⟩, ⟨rfl, .inr ⟨w.heap.size, 1, #[.bool s, .slice x n c, .slice y m d], rfl, hb, heap_alloc_new w _, Nat.le_refl _, by decide, rfl, rfl, nou_list (not3 _ _ _ _ _ _ _)⟩⟩, fun j q' e => ?_⟩
  cases j with
  | zero => cases e; exact h.alloc _
  | succ j => simp at e
set_option maxRecDepth 100000 in
set_option maxHeartbeats 4000000 in
theorem pActs_v {w : World} {L : Nat} {M : Mo} {off : Rat} {cs : List CV} {rs : List RV} {ao : Option Addr} {k cap : Nat} {X : Nat → Nm} {xs : List Rat} {er : Int} (hW : MoW w M) (hx : Rl w ao k X) (hk : k ≤ 1048576) (he : pckE M k X = er) (hv : er = 0 → MoV L w M off cs rs ∧ mvOk cs rs = true ∧ Rf L w ao xs ∧ xs.length = k ∧ k = cs.length) (hL : L ≤ 30) :
    Calls Tryz.prog 9 #[M.val, .slice ao k cap] w fun e w' => AcAns L w w' e er rs xs := by
  have CC := hid (fun W (hW2 : Below w.heap.size w W) => pcheck_c (cap := cap) (hW.below hW2) (hx.below hW2) hk)
  rw [he] at CC
  clear hW hx he
  have HV := hid hv
  clear hv
  have CA : Hid (er = 0 → ∀ W, Below w.heap.size w W → Calls Tryz.prog 32 #[M.val, .slice ao k cap] W fun e w' => ∃ a c, e = .returned (.slice a rs.length c) ∧ Below W.heap.size W w' ∧ (rs.length ≤ c ∧ c ≤ 9223372036854775807) ∧ Hid (Rf (KA L) w' a (rs.map (actQ xs)))) := fun h0 W hW2 => by
    obtain ⟨v1, v2, v3, v4, v5⟩ := HV.out h0
    have mp := mvOk_p v2
    exact acts_c (v1.below hW2) (v3.below hW2) v4 (fun r hr t ht => by have := mp.tc r hr t ht; rw [v5]; exact this) mp.rl mp.tl (by omega)
  obtain ⟨⟨s, x, n, c, f, y, m, d, g⟩, ca, ck, cc, C, ra, rk, rc, R⟩ := M
  replace CC : Hid (∀ W, Below w.heap.size w W → Calls Tryz.prog 31 #[.agg #[.bool s, .slice x n c, .slice y m d, .slice ca ck cc, .slice ra rk rc], .slice ao k cap] W fun e w' => e = .returned (.int .i64 er) ∧ Below W.heap.size W w') := CC
  replace CA : Hid (er = 0 → ∀ W, Below w.heap.size w W → Calls Tryz.prog 32 #[.agg #[.bool s, .slice x n c, .slice y m d, .slice ca ck cc, .slice ra rk rc], .slice ao k cap] W fun e w' => ∃ a c, e = .returned (.slice a rs.length c) ∧ Below W.heap.size W w' ∧ (rs.length ≤ c ∧ c ≤ 9223372036854775807) ∧ Hid (Rf (KA L) w' a (rs.map (actQ xs)))) := CA
  clear HV
  show Calls Tryz.prog 9 #[.agg #[.bool s, .slice x n c, .slice y m d, .slice ca ck cc, .slice ra rk rc], .slice ao k cap] w _
  have hb := below_alloc (Below.refl w.heap.size w) (.cells #[.bool s, .slice x n c, .slice y m d, .slice ca ck cc, .slice ra rk rc] 28)
  have BM : Hid (Bk (w.alloc (.cells #[.bool s, .slice x n c, .slice y m d, .slice ca ck cc, .slice ra rk rc] 28)) w.heap.size [.bool s, .slice x n c, .slice y m d, .slice ca ck cc, .slice ra rk rc] 28) := bk_new w [.bool s, .slice x n c, .slice y m d, .slice ca ck cc, .slice ra rk rc] 28
  have HB := hid hb
  clear hb
  go_enter Tryz.func9, Tryz.ntmps9
  go_wp2_with fail
  generalize w.alloc (.cells #[.bool s, .slice x n c, .slice y m d, .slice ca ck cc, .slice ra rk rc] 28) = w0 at *
  refine (CC.out _ HB.out).mono ?_
  rintro e w1 ⟨rfl, hb⟩
  replace HB := hid (HB.out.trans (hb.mono HB.out.size)); replace BM := hid (BM.out.below hb)
  clear hb CC
  by_cases h0 : er = 0
  case neg =>
    have h1 : (er != 0) = true := by simpa using h0
    have H0 := hid h0
    go_wp2
    go_ret2
    exact ⟨HB.out, .inl ⟨H0.out, rfl⟩⟩
  have CA2 := hid (CA.out h0)
  subst h0
  clear CA
  have r0 := BM.out.cell (j := 0) rfl
  have r1 := BM.out.cell (j := 1) rfl
  have r2 := BM.out.cell (j := 2) rfl
  have r3 := BM.out.cell (j := 3) rfl
  have r4 := BM.out.cell (j := 4) rfl
  go_wp2_with fail
  refine (CA2.out _ HB.out).mono ?_
  rintro e w2 ⟨aa, ac, rfl, hb, hac, HR⟩
  replace HB := hid (HB.out.trans (hb.mono HB.out.size))
  have HAC := hid hac
  clear hb hac r0 r1 r2 r3 r4 BM CA2
  go_wp2
  go_ret2
  exact ⟨HB.out, .inr ⟨rfl, aa, ac, rfl, HAC.out, HR.out⟩⟩
set_option maxRecDepth 100000 in
set_option maxHeartbeats 4000000 in
theorem pFeas_v {w : World} {L : Nat} {M : Mo} {off : Rat} {cs : List CV} {rs : List RV} {ao : Option Addr} {k cap : Nat} {X : Nat → Nm} {xs : List Rat} {er : Int} (hW : MoW w M) (hx : Rl w ao k X) (hk : k ≤ 1048576) (he : pckE M k X = er) (hv : er = 0 → MoV L w M off cs rs ∧ mvOk cs rs = true ∧ Rf L w ao xs ∧ xs.length = k ∧ k = cs.length) (hL : L ≤ 30) :
    Calls Tryz.prog 17 #[M.val, .slice ao k cap] w fun e w' => e = .returned (.tuple #[.bool (decide (er = 0) && feasB cs rs xs), .int .i64 er]) ∧ Below w.heap.size w w' := by
  have CB : Hid (∀ W, Below w.heap.size w W → Calls Tryz.prog 19 #[M.val, .slice ao k cap] W fun e w' => BrAns W w' e er cs rs xs) := fun W hW2 => pBroken_v (hW.below hW2) (hx.below hW2) hk he (fun h0 => ⟨(hv h0).1.below hW2, (hv h0).2.1, (hv h0).2.2.1.below hW2, (hv h0).2.2.2⟩) hL
  clear hW hx hv he
  obtain ⟨⟨s, x, n, c, f, y, m, d, g⟩, ca, ck, cc, C, ra, rk, rc, R⟩ := M
  replace CB : Hid (∀ W, Below w.heap.size w W → Calls Tryz.prog 19 #[.agg #[.bool s, .slice x n c, .slice y m d, .slice ca ck cc, .slice ra rk rc], .slice ao k cap] W fun e w' => BrAns W w' e er cs rs xs) := CB
  obtain ⟨l1, hl1⟩ : ∃ z, (crl (bcB cs xs) cs.length).length = z := ⟨_, rfl⟩
  obtain ⟨l2, hl2⟩ : ∃ z, (crl (brB rs xs) rs.length).length = z := ⟨_, rfl⟩
  have HF : Hid (feasB cs rs xs = (decide (l1 = 0) && decide (l2 = 0))) := by show _ = _; rw [feasB, hl1, hl2]
  unfold BrAns at CB
  rw [hl1, hl2] at CB
  clear hl1 hl2
  show Calls Tryz.prog 17 #[.agg #[.bool s, .slice x n c, .slice y m d, .slice ca ck cc, .slice ra rk rc], .slice ao k cap] w _
  have HB := hid (below_alloc (Below.refl w.heap.size w) (.cells #[.bool s, .slice x n c, .slice y m d, .slice ca ck cc, .slice ra rk rc] 28))
  go_enter Tryz.func17, Tryz.ntmps17
  go_wp2_with fail
  refine (CB.out _ HB.out).mono ?_
  rintro e w1 ⟨hb, hans⟩
  replace HB := hid (HB.out.trans (hb.mono HB.out.size))
  clear hb CB
  rcases hans with ⟨h0, rfl⟩ | ⟨h0, xa, xc, ya, yc, rfl, _, _⟩
  · have h1 : (er == 0) = false := by simpa using h0
    have HE : Hid (decide (er = 0) = false) := decide_eq_false h0
    clear h0
    go_wp2
    go_ret2
    exact ⟨by rw [HE.out]; rfl, HB.out⟩
  · subst h0
    by_cases c1 : l1 = 0
    · subst c1
      by_cases c2 : l2 = 0
      · subst c2
        go_wp2
        go_ret2
        exact ⟨by rw [HF.out]; rfl, HB.out⟩
      · have c3 : (((l2 : Nat) : Int) == 0) = false := by simp; omega
        have HE : Hid (decide (l2 = 0) = false) := decide_eq_false c2
        go_wp2
        go_ret2
        exact ⟨by rw [HF.out, HE.out]; rfl, HB.out⟩
    · have c3 : (((l1 : Nat) : Int) == 0) = false := by simp; omega
      have HE : Hid (decide (l1 = 0) = false) := decide_eq_false c1
      go_wp2
      go_ret2
      exact ⟨by rw [HF.out, HE.out]; rfl, HB.out⟩
set_option maxRecDepth 100000 in
set_option maxHeartbeats 8000000 in
theorem pValue_v {w : World} {L : Nat} {M : Mo} {off : Rat} {cs : List CV} {rs : List RV} {ao : Option Addr} {k cap : Nat} {X : Nat → Nm} {xs : List Rat} {er : Int} (hW : MoW w M) (hx : Rl w ao k X) (hk : k ≤ 1048576) (he : pckE M k X = er) (hv : er = 0 → MoV L w M off cs rs ∧ mvOk cs rs = true ∧ Rf L w ao xs ∧ xs.length = k ∧ k = cs.length) (hL : L ≤ 30) :
    Calls Tryz.prog 14 #[M.val, .slice ao k cap] w fun e w' => VaAns L w w' e er off cs xs := by
  have CC := hid (fun W (hW2 : Below w.heap.size w W) => pcheck_c (cap := cap) (hW.below hW2) (hx.below hW2) hk)
  rw [he] at CC
  clear hW hx he
  have HV := hid hv
  clear hv
  obtain ⟨⟨s, x, n, c, f, y, m, d, g⟩, ca, ck, cc, C, ra, rk, rc, R⟩ := M
  replace CC : Hid (∀ W, Below w.heap.size w W → Calls Tryz.prog 31 #[.agg #[.bool s, .slice x n c, .slice y m d, .slice ca ck cc, .slice ra rk rc], .slice ao k cap] W fun e w' => e = .returned (.int .i64 er) ∧ Below W.heap.size W w') := CC
  show Calls Tryz.prog 14 #[.agg #[.bool s, .slice x n c, .slice y m d, .slice ca ck cc, .slice ra rk rc], .slice ao k cap] w _
  have hb := below_alloc (below_alloc (Below.refl w.heap.size w) (.cells #[.bool s, .slice x n c, .slice y m d, .slice ca ck cc, .slice ra rk rc] 28)) (.cells #[.bool false, .slice none 0 0, .slice none 0 0] 24)
  have BM : Hid (Bk ((w.alloc (.cells #[.bool s, .slice x n c, .slice y m d, .slice ca ck cc, .slice ra rk rc] 28)).alloc (.cells #[.bool false, .slice none 0 0, .slice none 0 0] 24)) w.heap.size [.bool s, .slice x n c, .slice y m d, .slice ca ck cc, .slice ra rk rc] 28) := (bk_new w [.bool s, .slice x n c, .slice y m d, .slice ca ck cc, .slice ra rk rc] 28).below (below_alloc (Below.refl _ _) _)
  have hob := ob_new (w.alloc (.cells #[.bool s, .slice x n c, .slice y m d, .slice ca ck cc, .slice ra rk rc] 28)) 24
  rw [size_alloc1] at hob
  have OB := hid hob; have HB := hid hb
  clear hb hob
  go_enter Tryz.func14, Tryz.ntmps14
  have r0 := BM.out.cell (j := 0) rfl
  have r1 := BM.out.cell (j := 1) rfl
  have r2 := BM.out.cell (j := 2) rfl
  have r3 := BM.out.cell (j := 3) rfl
  have r4 := BM.out.cell (j := 4) rfl
  go_wp2_with fail
  clear r0 r1 r2 r3 r4
  generalize ((w.alloc (.cells #[.bool s, .slice x n c, .slice y m d, .slice ca ck cc, .slice ra rk rc] 28)).alloc (.cells #[.bool false, .slice none 0 0, .slice none 0 0] 24)) = w0 at *
  refine (CC.out _ HB.out).mono ?_
  rintro e w1 ⟨rfl, hb⟩
  replace HB := hid (HB.out.trans (hb.mono HB.out.size)); replace BM := hid (BM.out.below hb); replace OB := hid (OB.out.below hb)
  clear hb CC
  by_cases h0 : er = 0
  case neg =>
    have h1 : (er != 0) = true := by simpa using h0
    have H0 := hid h0
    obtain ⟨hz, z0, z1, z2, zf⟩ := OB.out
    go_wp2
    exact bodyPost_ret (v := .tuple #[.agg #[.bool false, .slice none 0 0, .slice none 0 0], .int .i64 er]) (by simp [results, Tryz.results14, go_sem, z0, z1, z2]) rfl ⟨below_st HB.out (by omega), .inl ⟨H0.out, rfl⟩⟩
  obtain ⟨v1, v2, v3, v4, v5⟩ := HV.out h0
  have mp := mvOk_p v2
  subst h0
  have l64 := mp.cl
  have HC : Hid (∀ j v, cs[j]? = some v → (∃ b o, ca = some ⟨b, o, none⟩ ∧ Cs w b (o + j * 12) (C j).vs) ∧ ColV L w (C j) v) := v1.cls
  have HO : Hid (Rn L w s x n c f y m d g off) := v1.off
  have hck : ck = cs.length := v1.ck
  subst hck
  subst v5
  have HX := hid v3; have HXL := hid v4
  clear v1 v2 v3 v4 mp HV
  have HG := hid (gr_one (K := 2 * L + 1) (base := w1.heap.size) ((HO.out.below HB.out).mono (by omega)) (Nat.le_refl _))
  have hbo := below_alloc (Below.refl w1.heap.size w1) (.cells #[.bool s, .slice x n c, .slice y m d] 24)
  have r0 := BM.out.cell (j := 0) rfl
  have r1 := BM.out.cell (j := 1) rfl
  have r2 := BM.out.cell (j := 2) rfl
  have r3 := BM.out.cell (j := 3) rfl
  have r4 := BM.out.cell (j := 4) rfl
  have r3' := kCb hbo r3
  go_wp2_with fail
  clear r0 r1 r2 r3 r3' r4 HO
  go_loopw [7, 23] (fun ov t wr => ∃ (i : Nat), i ≤ cs.length ∧ t = .int .i64 i ∧ Hid (Below w1.heap.size w1 wr) ∧ Hid (Gr (2 * L + 1) w1.heap.size wr ov (off :: (costs cs xs).take i))) (fun _ t _ => cs.length - (intOf t).toNat)
  case atStart => exact ⟨0, by omega, rfl, hbo, HG⟩
  case round =>
    clear HG hbo
    obtain ⟨i, hi, rfl, HB2, HG2⟩ := hrel
    have hcl : (costs cs xs).length = cs.length := by unfold costs; rw [List.length_zipWith, HXL.out, Nat.min_self]
    have hgl : (off :: (costs cs xs).take i).length = i + 1 := by rw [List.length_cons, List.length_take]; omega
    by_cases hlt : i < cs.length
    · obtain ⟨v, hv⟩ : ∃ t, cs[i]? = some t := ⟨_, List.getElem?_eq_getElem (by omega)⟩
      obtain ⟨⟨b, o, hba, hc⟩, hV⟩ := HC.out i v hv
      subst hba
      have hbz := HB.out.trans (HB2.out.mono HB.out.size)
      have hcost := hV.cost.below hbz
      obtain ⟨⟨z, ⟨s0, x0, n0, c0, f0, y0, m0, d0, g0⟩, ⟨i1, ⟨s1, x1, n1, c1, f1, y1, m1, d1, g1⟩⟩, ⟨i2, ⟨s2, x2, n2, c2, f2, y2, m2, d2, g2⟩⟩⟩, hCi⟩ : ∃ t, C i = t := ⟨_, rfl⟩
      rw [hCi] at hc hcost
      replace hcost : Rn L wr s0 x0 n0 c0 f0 y0 m0 d0 g0 v.cost := hcost
      replace hc := Cs.below hc hbz
      have q0 : wr.cell? ⟨b, o + i * 12, none⟩ = some (.string z) := hc 0 _ rfl
      have q1 : wr.cell? ⟨b, o + i * 12 + 1, none⟩ = some (.bool s0) := hc 1 _ rfl
      have q2 : wr.cell? ⟨b, o + i * 12 + 2, none⟩ = some (.slice x0 n0 c0) := hc 2 _ rfl
      have q3 : wr.cell? ⟨b, o + i * 12 + 3, none⟩ = some (.slice y0 m0 d0) := hc 3 _ rfl
      have q4 : wr.cell? ⟨b, o + i * 12 + 4, none⟩ = some (.int .i64 i1) := hc 4 _ rfl
      have q5 : wr.cell? ⟨b, o + i * 12 + 5, none⟩ = some (.bool s1) := hc 5 _ rfl
      have q6 : wr.cell? ⟨b, o + i * 12 + 6, none⟩ = some (.slice x1 n1 c1) := hc 6 _ rfl
      have q7 : wr.cell? ⟨b, o + i * 12 + 7, none⟩ = some (.slice y1 m1 d1) := hc 7 _ rfl
      have q8 : wr.cell? ⟨b, o + i * 12 + 8, none⟩ = some (.int .i64 i2) := hc 8 _ rfl
      have q9 : wr.cell? ⟨b, o + i * 12 + 9, none⟩ = some (.bool s2) := hc 9 _ rfl
      have q10 : wr.cell? ⟨b, o + i * 12 + 10, none⟩ = some (.slice x2 n2 c2) := hc 10 _ rfl
      have q11 : wr.cell? ⟨b, o + i * 12 + 11, none⟩ = some (.slice y2 m2 d2) := hc 11 _ rfl
      obtain ⟨r, hr⟩ : ∃ t, xs[i]? = some t := ⟨_, List.getElem?_eq_getElem (by have := HXL.out; omega)⟩
      obtain ⟨b', o', ⟨ss, sx, sn, sc, sf, sy, sm, sd, sg⟩, hax, ⟨p0, p1, p2⟩, hr'⟩ := (HX.out.below hbz) i r hr
      subst hax
      replace p0 : wr.cell? ⟨b', o' + i * 3, none⟩ = some (.bool ss) := p0
      replace p1 : wr.cell? ⟨b', o' + i * 3 + 1, none⟩ = some (.slice sx sn sc) := p1
      replace p2 : wr.cell? ⟨b', o' + i * 3 + 2, none⟩ = some (.slice sy sm sd) := p2
      replace hr' : Rn L wr ss sx sn sc sf sy sm sd sg r := hr'
      have HCI : Hid ((costs cs xs).take (i + 1) = (costs cs xs).take i ++ [v.cost * r]) := by
        show _ = _
        rw [List.take_add_one]
        congr 1
        unfold costs
        rw [List.getElem?_zipWith, hv, hr]; rfl
      have hbt := below_alloc (Below.refl wr.heap.size wr) (.cells #[.string z, .bool s0, .slice x0 n0 c0, .slice y0 m0 d0, .int .i64 i1, .bool s1, .slice x1 n1 c1, .slice y1 m1 d1, .int .i64 i2, .bool s2, .slice x2 n2 c2, .slice y2 m2 d2] 85)
      have a1 : (wr.alloc (.cells #[.string z, .bool s0, .slice x0 n0 c0, .slice y0 m0 d0, .int .i64 i1, .bool s1, .slice x1 n1 c1, .slice y1 m1 d1, .int .i64 i2, .bool s2, .slice x2 n2 c2, .slice y2 m2 d2] 85)).cell? ⟨wr.heap.size, 1, none⟩ = some (.bool s0) := by simp [go_sem]
      have a2 : (wr.alloc (.cells #[.string z, .bool s0, .slice x0 n0 c0, .slice y0 m0 d0, .int .i64 i1, .bool s1, .slice x1 n1 c1, .slice y1 m1 d1, .int .i64 i2, .bool s2, .slice x2 n2 c2, .slice y2 m2 d2] 85)).cell? ⟨wr.heap.size, 2, none⟩ = some (.slice x0 n0 c0) := by simp [go_sem]
      have a3 : (wr.alloc (.cells #[.string z, .bool s0, .slice x0 n0 c0, .slice y0 m0 d0, .int .i64 i1, .bool s1, .slice x1 n1 c1, .slice y1 m1 d1, .int .i64 i2, .bool s2, .slice x2 n2 c2, .slice y2 m2 d2] 85)).cell? ⟨wr.heap.size, 3, none⟩ = some (.slice y0 m0 d0) := by simp [go_sem]
      have i1' : ((i : Nat) : Int) < ((cs.length : Nat) : Int) := by omega
      clear hCi hc hV hv hr
      go_upto_region 8 with fail
      clear q0 q1 q2 q3 q4 q5 q6 q7 q8 q9 q10 q11
      replace p0 := kCb hbt p0; replace p1 := kCb hbt p1; replace p2 := kCb hbt p2
      have HB3 := hid (HB2.out.trans (hbt.mono HB2.out.size)); have HG3 := hid (HG2.out.below hbt); have R1 := hid (hcost.below hbt); have R2 := hid (hr'.below hbt)
      clear hbz hbt HB2 HG2 hcost hr'
      generalize hbx : wr.heap.size = bx at *
      generalize wr.alloc (.cells #[.string z, .bool s0, .slice x0 n0 c0, .slice y0 m0 d0, .int .i64 i1, .bool s1, .slice x1 n1 c1, .slice y1 m1 d1, .int .i64 i2, .bool s2, .slice x2 n2 c2, .slice y2 m2 d2] 85) = w5 at *
      clear hbx
      refine wp_region_phase (S := (fun w' => w'.cell? ⟨bx, 1, none⟩ = some (.bool s0) ∧ w'.cell? ⟨bx, 2, none⟩ = some (.slice x0 n0 c0) ∧ w'.cell? ⟨bx, 3, none⟩ = some (.slice y0 m0 d0) ∧ w'.cell? ⟨b', o' + i * 3, none⟩ = some (.bool ss) ∧ w'.cell? ⟨b', o' + i * 3 + 1, none⟩ = some (.slice sx sn sc) ∧ w'.cell? ⟨b', o' + i * 3 + 2, none⟩ = some (.slice sy sm sd))) 7 (by kernel_rfl) ⟨kCd a1, kCd a2, kCd a3, kCd p0, kCd p1, kCd p2⟩ (fun hHeld => ?_)
      refine wpAnyP_skim (i := 0) (v := ?_) rfl (by kernel_rfl) (by kernel_rfl) (by kernel_rfl) (by kernel_rfl) (fun _ _ _ h => h) (Or.inl ⟨by rfl, ?_⟩) (fun _ => by assumption) ?_
      rotate_left
      (focus (intro w0 hSw; go_simp <;> with_reducible rfl))
      simp only [List.getElem_toArray, List.getElem_cons_zero, Act.put, List.setIfInBounds_toArray, List.set_cons_zero, List.set_cons_succ]
      refine wpAnyP_skim (i := 1) (v := ?_) rfl (by kernel_rfl) (by kernel_rfl) (by kernel_rfl) (by kernel_rfl) (fun _ _ _ h => h) (Or.inl ⟨by rfl, ?_⟩) (fun _ => by assumption) ?_
      rotate_left
      (focus (intro w0 hSw; go_simp <;> with_reducible rfl))
      simp only [List.getElem_toArray, List.getElem_cons_succ, List.getElem_cons_zero, Act.put, List.setIfInBounds_toArray, List.set_cons_zero, List.set_cons_succ]
      refine wpAnyP_takeA (i := 2) (v := ?_) rfl (by kernel_rfl) (by kernel_rfl) (by kernel_rfl) (by kernel_rfl) (by kernel_rfl) (by kernel_rfl) (fun _ _ _ h => h) (Or.inl ⟨by rfl, ?_⟩) (by assumption) ?_
      rotate_left
      (focus (intro w0 hSw; (try dsimp only at hSw); go_simp <;> with_reducible rfl))
      simp only [List.getElem_toArray, List.getElem_cons_succ, List.getElem_cons_zero, Act.put, List.setIfInBounds_toArray, List.set_cons_zero, List.set_cons_succ]
      refine wpAnyP_skim (i := 3) (v := ?_) rfl (by kernel_rfl) (by kernel_rfl) (by kernel_rfl) (by kernel_rfl) (fun _ _ _ h => h) (Or.inl ⟨by rfl, ?_⟩) (fun _ => by assumption) ?_
      rotate_left
      (focus (intro w0 hSw; go_simp <;> with_reducible rfl))
      simp only [List.getElem_toArray, List.getElem_cons_succ, List.getElem_cons_zero, Act.put, List.setIfInBounds_toArray, List.set_cons_zero, List.set_cons_succ]
      refine wpAnyP_skim (i := 4) (v := ?_) rfl (by kernel_rfl) (by kernel_rfl) (by kernel_rfl) (by kernel_rfl) (fun _ _ _ h => h) (Or.inl ⟨by rfl, ?_⟩) (fun _ => by assumption) ?_
      rotate_left
      (focus (intro w0 hSw; go_simp <;> with_reducible rfl))
      simp only [List.getElem_toArray, List.getElem_cons_succ, List.getElem_cons_zero, Act.put, List.setIfInBounds_toArray, List.set_cons_zero, List.set_cons_succ]
      refine wpAnyP_skim (i := 5) (v := ?_) rfl (by kernel_rfl) (by kernel_rfl) (by kernel_rfl) (by kernel_rfl) (fun _ _ _ h => h) (Or.inl ⟨by rfl, ?_⟩) (fun _ => by assumption) ?_
      rotate_left
      (focus (intro w0 hSw; go_simp <;> with_reducible rfl))
      simp only [List.getElem_toArray, List.getElem_cons_succ, List.getElem_cons_zero, Act.put, List.setIfInBounds_toArray, List.set_cons_zero, List.set_cons_succ]
      refine wpAnyP_takeA (i := 6) (v := ?_) rfl (by kernel_rfl) (by kernel_rfl) (by kernel_rfl) (by kernel_rfl) (by kernel_rfl) (by kernel_rfl) (fun _ _ _ h => h) (Or.inl ⟨by rfl, ?_⟩) (by assumption) ?_
      rotate_left
      (focus (intro w0 hSw; (try dsimp only at hSw); go_simp <;> with_reducible rfl))
      simp only [List.getElem_toArray, List.getElem_cons_succ, List.getElem_cons_zero, Act.put, List.setIfInBounds_toArray, List.set_cons_zero, List.set_cons_succ]
      refine wpAnyP_ready (rs := [7]) (by kernel_rfl) (by simp) ?_
      refine AllReadyP.cons (o := _) rfl (fun K hK => ?_) ?_
      rotate_left
      exact AllReadyP.nil
      go_simp
      go_at_call 40
      refine (ptimes_c (L := L) (kRnd R1.out) (kRnd R2.out) (by omega)).mono ?_
      rintro e w6 ⟨s6, x6, n6, c6, f6, y6, m6, d6, g6, rfl, hb6, hq6⟩
      (try go_wp2_with fail)
      refine hK.out _ _ (fun h => by cases h) (fun _ => ?_)
      clear hK K
      try simp only [Act.put, List.setIfInBounds_toArray, List.set_cons_zero, List.set_cons_succ]
      refine wpAnyP_ready (rs := [8]) (by kernel_rfl) (by simp) ?_
      refine AllReadyP.cons (o := _) rfl (fun K hK => ?_) ?_
      rotate_left
      exact AllReadyP.nil
      go_simp
      refine hK.out _ _ (fun h => by cases h) (fun _ => ?_)
      clear hK K
      try simp only [Act.put, List.setIfInBounds_toArray, List.set_cons_zero, List.set_cons_succ]
      refine wpAnyP_ready (rs := [9]) (by kernel_rfl) (by simp) ?_
      refine AllReadyP.cons (o := _) rfl (fun K hK => ?_) ?_
      rotate_left
      exact AllReadyP.nil
      obtain ⟨T, hrow, hT⟩ := (Gr.below HG3.out (Below.drew (Below.refl w5.heap.size w5))).below hb6
      rw [hgl] at hrow
      refine step_append_one w6 rfl (.tmp 28) (.tmp 36) 29 rfl w1.heap.size 24 56 3 (.agg #[.bool false, .slice none 0 0, .slice none 0 0]) Tryz.underlying29 Tryz.infoRat rfl (by decide) nz3 u7 (i + 1) _ rfl hrow #[.bool s6, .slice x6 n6 c6, .slice y6 m6 d6] rfl rfl (one3 _ _ _ _ _ _ _) (not3 _ _ _ _ _ _ _) (by omega) (by decide) ?hz ?_
      case hz => exact (HB3.out.drew.trans (hb6.mono HB3.out.drew.size)).size
      intro g8 cap8 w8 hr8 hk8 hb8 hg8
      have HB8 : Hid (Below w1.heap.size w1 w8) := hb8 w1 (HB3.out.drew.trans (hb6.mono HB3.out.drew.size)) (Nat.le_refl _)
      have HG8 : Hid (Gr (2 * L + 1) w1.heap.size w8 (.slice (some ⟨g8, 0, none⟩) (i + 1 + 1) cap8) (off :: (costs cs xs).take (i + 1))) := by
        have hp8 := gr_push (p := off :: (costs cs xs).take i) hT (by rw [hgl]; exact hr8) hk8 hq6
        rw [hgl] at hp8
        rw [HCI.out]; exact hp8
      clear hr8 hk8 hb8 hg8 hrow hT hb6 hq6 HG3 HB3 R1 R2
      refine hK.out _ _ (fun h => by cases h) (fun _ => ?_)
      clear hK K
      simp only [List.getElem_toArray, List.getElem_cons_succ, List.getElem_cons_zero, Act.put, List.setIfInBounds_toArray, List.set_cons_zero, List.set_cons_succ]
      refine wpAnyP_skim (i := 10) (v := ?_) rfl (by kernel_rfl) (by kernel_rfl) (by kernel_rfl) (by kernel_rfl) (fun _ _ _ h => h) (Or.inl ⟨by rfl, ?_⟩) (fun h => by cases h) ?_
      rotate_left
      (focus (intro w0 hSw; go_simp <;> with_reducible rfl))
      simp only [List.getElem_toArray, List.getElem_cons_succ, List.getElem_cons_zero, Act.put, List.setIfInBounds_toArray, List.set_cons_zero, List.set_cons_succ]
      refine wpAnyP_done (by kernel_rfl) ?_ _
      clear hHeld a1 a2 a3 p0 p1 p2
      go_wp2
      go_roundw
      case rel => exact ⟨i + 1, by omega, by go_num, HB8.out, HG8.out⟩
      case measure => simp [intOf]; omega
    · have i4 : ¬ (((i : Nat) : Int) < ((cs.length : Nat) : Int)) := by omega
      have e9 : i = cs.length := by omega
      obtain ⟨va, vc, hvs, hvc⟩ := HG2.out.slice
      rw [hgl] at hvs
      have HG4 := HG2.out
      rw [hvs] at HG4
      replace HG4 := hid (show Rf (2 * L + 1) wr va (off :: costs cs xs) by have := HG4.rf; rw [List.take_of_length_le (by omega)] at this; exact this)
      subst hvs
      have HLen := hid (show (off :: costs cs xs).length = i + 1 by rw [List.length_cons]; omega)
      have hi65 : i + 1 ≤ 65 := by omega
      replace HB := hid (HB.out.trans (HB2.out.mono HB.out.size)); replace OB := hid (OB.out.below HB2.out)
      clear HG2 HB2 hgl hcl e9 HC HX BM
      go_wp2_with fail
      refine (pSum_c (L := 2 * L + 1) HG4.out HLen.out (by omega) (by omega)).mono ?_
      rintro e w6 ⟨s6, x6, n6, c6, f6, y6, m6, d6, g6, rfl, hb6, hq6⟩
      replace HB := hid (HB.out.trans (hb6.mono HB.out.size)); replace OB := hid (OB.out.below hb6)
      have HQ := hid (show Rn (KV L) w6 s6 x6 n6 c6 f6 y6 m6 d6 g6 (valQ off cs xs) from hq6.mono (by unfold KV; have : (i + 1) * (2 * L + 1 + 1) ≤ 65 * (2 * L + 1 + 1) := Nat.mul_le_mul_right _ hi65; omega))
      clear hb6 hq6 HG4 HLen
      obtain ⟨hz, z0, z1, z2, zf⟩ := OB.out
      go_wp2
      exact bodyPost_ret (v := .tuple #[.agg #[.bool s6, .slice x6 n6 c6, .slice y6 m6 d6], .int .i64 0]) (by simp [results, Tryz.results14, go_sem, z0, z1, z2]) rfl ⟨below_st HB.out (by omega), .inr ⟨rfl, s6, x6, n6, c6, f6, y6, m6, d6, g6, rfl, OB.out.rn HQ.out⟩⟩
end Go.Proofs.YtngakajgkklncaaGreat
namespace Go.Proofs.YtngakajgkklncaaGreat
open Go.RowKit

theorem Rn.sg {L w s x n c f y m d g q} (h : Rn L w s x n c f y m d g q) : s = decide (q < 0) := by
  have h1 := h.num.val; have h2 := h.num.wf; have h5 := vf_nonneg h.num.lm; have hz := h.q_zero
  cases s
  · have h3 : q.num = vf f n := by rw [← h1]; rfl
    have h4 : 0 ≤ q := Rat.num_nonneg.1 (by omega)
    rw [decide_eq_false (Rat.not_lt.2 h4)]
  · have hn : n ≠ 0 := fun e => by subst e; simp [wfB] at h2
    have h3 : q.num = - vf f n := by rw [← h1]; rfl
    have h4 : q < 0 := Rat.not_le.1 (fun e => by
      have h6 := Rat.num_nonneg.2 e
      exact hn (hz.1 (Rat.num_eq_zero.1 (by omega))))
    rw [decide_eq_true h4]
end Go.Proofs.YtngakajgkklncaaGreat
namespace Go.Proofs.YtngakajgkklncaaGreat
open Go.RowKit

end Go.Proofs.YtngakajgkklncaaGreat
namespace Go.Proofs.YtngakajgkklncaaGreat
open Go.RowKit

theorem rf_two {K : Nat} {w : World} {T : TypeId} {s : Bool} {x : Option Addr} {n c : Nat} {f : Nat → Int} {y : Option Addr} {m d : Nat} {g : Nat → Int} {q : Rat} {s2 : Bool} {x2 : Option Addr} {n2 c2 : Nat} {f2 : Nat → Int} {y2 : Option Addr} {m2 d2 : Nat} {g2 : Nat → Int} {q2 : Rat} (h : Rn K w s x n c f y m d g q) (h2 : Rn K w s2 x2 n2 c2 f2 y2 m2 d2 g2 q2) : Rf K (w.alloc (.cells #[.bool s, .slice x n c, .slice y m d, .bool s2, .slice x2 n2 c2, .slice y2 m2 d2] T)) (some ⟨w.heap.size, 0, none⟩) [q, q2] := fun j q' e => by
  match j, e with
  | 0, e => cases e; exact ⟨w.heap.size, 0, ⟨s, x, n, c, f, y, m, d, g⟩, rfl, ⟨by simp [go_sem], by simp [go_sem], by simp [go_sem]⟩, h.alloc _⟩
  | 1, e => cases e; exact ⟨w.heap.size, 0, ⟨s2, x2, n2, c2, f2, y2, m2, d2, g2⟩, rfl, ⟨by simp [go_sem], by simp [go_sem], by simp [go_sem]⟩, h2.alloc _⟩
end Go.Proofs.YtngakajgkklncaaGreat
namespace Go.Proofs.YtngakajgkklncaaGreat
open Go.RowKit

end Go.Proofs.YtngakajgkklncaaGreat
namespace Go.Proofs.YtngakajgkklncaaGreat
open Go.RowKit

theorem pckE_ok {M : Mo} {k : Nat} {X : Nat → Nm} (h1 : chkE M = 0) (h2 : afB k X = true) (h3 : k = M.ck) : pckE M k X = 0 := by
  unfold pckE
  rw [h1, show pnE k X M.ck = 0 by unfold pnE; rw [if_pos h2, if_pos (by rw [h3])]]
  rfl
end Go.Proofs.YtngakajgkklncaaGreat
namespace Go.Proofs.YtngakajgkklncaaGreat
open Go.RowKit

theorem rSameEq_c {L L' w sa xa na ca fa ya ma da ga sb xb nb cb fb yb mb db gb q} (ha : Rn L w sa xa na ca fa ya ma da ga q) (hb : Rn L' w sb xb nb cb fb yb mb db gb q) (h1 : L ≤ 1048576) (h2 : L' ≤ 1048576) :
    Calls Tryz.prog 16 #[.agg #[.bool sa, .slice xa na ca, .slice ya ma da], .agg #[.bool sb, .slice xb nb cb, .slice yb mb db]] w fun e w' => e = .returned (.bool true) ∧ Below w.heap.size w w' := by
  have l1 := ha.ln; have l2 := ha.ld; have l3 := hb.ln; have l4 := hb.ld
  refine (rSame_c sa xa ya na ca ma da fa ga sb xb yb nb cb mb db fb gb w ha.num.rd ha.den.rd hb.num.rd hb.den.rd (by omega) (by omega) (by omega) (by omega)).mono ?_
  rintro e w' ⟨c, rfl, h3, h4⟩
  refine ⟨?_, h3⟩
  rw [h4.2 ((ha.inj hb).2 rfl)]

set_option maxRecDepth 100000 in
set_option maxHeartbeats 4000000 in
theorem samesEq_c {w : World} {L L' : Nat} {ao bo : Option Addr} {k ca cb : Nat} {p : List Rat} (ha : Rf L w ao p) (hb : Rf L' w bo p) (hk : p.length = k) (hk2 : k ≤ 1048576) (h1 : L ≤ 1048576) (h2 : L' ≤ 1048576) :
    Calls Tryz.prog 13 #[.slice ao k ca, .slice bo k cb] w fun e w' => e = .returned (.bool true) ∧ Below w.heap.size w w' := by
  have HA := hid ha; have HB := hid hb
  have hkk : (((k : Nat) : Int) != ((k : Nat) : Int)) = false := by simp
  clear ha hb
  go_enter Tryz.func13, Tryz.ntmps13
  go_wp2_with fail
  go_loopw [13] (fun t wr => ∃ (i : Nat), i ≤ k ∧ t = .int .i64 i ∧ Hid (Below w.heap.size w wr)) (fun t _ => k - (intOf t).toNat)
  case atStart => exact ⟨0, by omega, rfl, Below.refl _ _⟩
  case round =>
    obtain ⟨i, hi, rfl, HW⟩ := hrel
    by_cases hlt : i < k
    · obtain ⟨q, hq⟩ : ∃ q, p[i]? = some q := ⟨_, List.getElem?_eq_getElem (by omega)⟩
      obtain ⟨b, o, ⟨ts, tx, tn, tc, tf, ty, tm, td, tg⟩, rfl, hc, hr⟩ := (HA.out.below HW.out) i q hq
      obtain ⟨b', o', ⟨ss, sx, sn, sc, sf, sy, sm, sd, sg⟩, rfl, hc', hr'⟩ := (HB.out.below HW.out) i q hq
      obtain ⟨x0, x1, x2⟩ := hc
      obtain ⟨p0, p1, p2⟩ := hc'
      replace x0 : wr.cell? ⟨b, o + i * 3, none⟩ = some (.bool ts) := x0
      replace x1 : wr.cell? ⟨b, o + i * 3 + 1, none⟩ = some (.slice tx tn tc) := x1
      replace x2 : wr.cell? ⟨b, o + i * 3 + 2, none⟩ = some (.slice ty tm td) := x2
      replace p0 : wr.cell? ⟨b', o' + i * 3, none⟩ = some (.bool ss) := p0
      replace p1 : wr.cell? ⟨b', o' + i * 3 + 1, none⟩ = some (.slice sx sn sc) := p1
      replace p2 : wr.cell? ⟨b', o' + i * 3 + 2, none⟩ = some (.slice sy sm sd) := p2
      have CS : Hid (∀ W, Below wr.heap.size wr W → Calls Tryz.prog 16 #[.agg #[.bool ts, .slice tx tn tc, .slice ty tm td], .agg #[.bool ss, .slice sx sn sc, .slice sy sm sd]] W fun e w' => e = .returned (.bool true) ∧ Below W.heap.size W w') := fun W hW =>
        rSameEq_c (Rn.below hr hW) (Rn.below hr' hW) h1 h2
      have i2 : ((i : Nat) : Int) < ((k : Nat) : Int) := by omega
      clear hr hr' hq
      go_upto_region 6 with fail
      go_region_held3 (fun w' => w'.cell? ⟨b, o + i * 3, none⟩ = some (.bool ts) ∧ w'.cell? ⟨b, o + i * 3 + 1, none⟩ = some (.slice tx tn tc) ∧ w'.cell? ⟨b, o + i * 3 + 2, none⟩ = some (.slice ty tm td) ∧ w'.cell? ⟨b', o' + i * 3, none⟩ = some (.bool ss) ∧ w'.cell? ⟨b', o' + i * 3 + 1, none⟩ = some (.slice sx sn sc) ∧ w'.cell? ⟨b', o' + i * 3 + 2, none⟩ = some (.slice sy sm sd))
        (refine ⟨?_, ?_, ?_, ?_, ?_, ?_⟩ <;> repeat (with_reducible first | assumption | refine kCd ?_ | refine kCb (by assumption) ?_))
        ((go_at_call 16; with_reducible refine (CS.out _ (by repeat (with_reducible first | assumption | exact Below.refl _ _ | refine kBdn ?_ | refine Below.drew ?_))).mono ?_; rintro e w5 ⟨rfl, hb5⟩))
      all_goals
        (have HW5 : Hid (Below w.heap.size w w5) := hid (HW.out.trans (Below.mono (show Below wr.heap.size wr w5 by repeat (with_reducible first | assumption | exact Below.refl _ _ | refine kBdn ?_ | refine Below.drew ?_ | refine kBb (by assumption) ?_)) HW.out.size))
         clear x0 x1 x2 p0 p1 p2 CS hb5
         go_wp2
         go_roundw
         case rel => exact ⟨i + 1, by omega, by go_num, (by first | exact HW5.out | exact HW5.out.drew | exact below_drewN HW5.out _)⟩
         case measure => simp [intOf]; omega)
    · have i2 : ¬ (((i : Nat) : Int) < ((k : Nat) : Int)) := by omega
      go_wp2
      go_ret
      exact ⟨rfl, HW.out⟩

end Go.Proofs.YtngakajgkklncaaGreat
namespace Go.Proofs.YtngakajgkklncaaGreat
open Go.RowKit

end Go.Proofs.YtngakajgkklncaaGreat
namespace Go.Proofs.YtngakajgkklncaaGreat
open Go.RowKit

/-- What operations of From leave. -/
def FN (K : Nat) (q : Rat) (v : Value) (w : World) : Prop := ∃ t' : Nm, v = t'.val ∧ QnT K w t' q
theorem FN.below {K t v w w'} (h : FN K t v w) (hb : Below w.heap.size w w') : FN K t v w' := by obtain ⟨t', h1, h2⟩ := h; exact ⟨t', h1, h2.below hb⟩
end Go.Proofs.YtngakajgkklncaaGreat
namespace Go.Proofs.YtngakajgkklncaaGreat
open Go.RowKit

theorem NmS.val {w : World} {t : Nm} {K : Nat} (h : NmS w t) (hf : nfB t = true) (hk : t.n ≤ K ∧ t.m ≤ K) : NmV K w t (nq t) := by
  obtain ⟨q, hq⟩ := Nm.rn h hf hk.1 hk.2
  rw [hq.nq]; exact hq
def cvOf (c : Lc) : CV := ⟨c.nm, nq c.cost, c.lo.i, nq c.lo.v, c.hi.i, nq c.hi.v⟩
def rvOf (r : Lr) : RV := ⟨r.nm, r.lo.i, nq r.lo.v, r.hi.i, nq r.hi.v, (List.range r.tk).map (fun p => (r.col p, nq (r.T p)))⟩
theorem range_at {α : Type} {f : Nat → α} {n j : Nat} {v : α} (h : ((List.range n).map f)[j]? = some v) : j < n ∧ v = f j := by
  have hlt : j < n := by have := (List.getElem?_eq_some_iff.1 h).1; simpa using this
  simp [hlt] at h
  exact ⟨hlt, h.symm⟩
theorem range_get {α : Type} {f : Nat → α} {n j : Nat} (h : j < n) : ((List.range n).map f)[j]? = some (f j) := by simp [h]
theorem bd_of {w : World} {a b : Ex} {K : Nat} (ha : NmS w a.v) (hb : NmS w b.v) (ka : a.v.n ≤ K ∧ a.v.m ≤ K) (kb : b.v.n ≤ K ∧ b.v.m ≤ K) (h : abB a b = true) : NmV K w a.v (nq a.v) ∧ NmV K w b.v (nq b.v) ∧ bdB a.i (nq a.v) b.i (nq b.v) = true := by
  obtain ⟨f1, f2, h1, h2⟩ := abB_ok h
  simp only [exF, efB, Bool.and_eq_true, Bool.or_eq_true, decide_eq_true_eq] at f1 f2
  have v1 : NmV K w a.v (nq a.v) := ha.val f1.1 ka
  have v2 : NmV K w b.v (nq b.v) := hb.val f2.1 kb
  refine ⟨v1, v2, ?_⟩
  simp only [bdB, Bool.and_eq_true, Bool.or_eq_true, decide_eq_true_eq]
  constructor
  · rcases f1.2 with h | ⟨h | h, h3⟩
    · exact .inl h
    · exact .inr ⟨h, (Rn.q_zero v1).2 h3⟩
    · exact absurd h h1
  · rcases f2.2 with h | ⟨h | h, h3⟩
    · exact .inl h
    · exact absurd h h2
    · exact .inr ⟨h, (Rn.q_zero v2).2 h3⟩
theorem ts_of {w : World} {col : Nat → Int} {T : Nat → Nm} {n K : Nat} : ∀ {r i : Nat} {last : Int}, tfr col T r i last = true → (∀ p, i ≤ p → p < i + r → col p < (n : Int)) → (∀ p, i ≤ p → p < i + r → NmV K w (T p) (nq (T p))) → tsB n last ((List.range' i r).map (fun p => (col p, nq (T p)))) = true
  | 0, i, last, _, _, _ => rfl
  | r + 1, i, last, h, hc, hv => by
    simp only [tfr, Bool.and_eq_true, decide_eq_true_eq] at h
    rw [List.range'_succ, List.map_cons]
    simp only [tsB, Bool.and_eq_true, decide_eq_true_eq]
    refine ⟨h.1, hc i (by omega) (by omega), fun e => ?_, ts_of h.2.2.2 (fun p a b => hc p (by omega) (by omega)) (fun p a b => hv p (by omega) (by omega))⟩
    have := (Rn.q_zero (hv i (by omega) (by omega))).1 e
    omega
/-- A model's values. -/
def csOf (M : Mo) : List CV := (List.range M.ck).map (fun j => cvOf (M.C j))
def rsOf (M : Mo) : List RV := (List.range M.rk).map (fun j => rvOf (M.R j))
/-- A model that is well formed, by its values. -/
theorem MoR.movC {w M K} (h : MoR w M) (hk : MoK K M) (he : chkE M = 0) : MoV K w M (nq M.off) (csOf M) (rsOf M) ∧ mvOk (csOf M) (rsOf M) = true := by
  obtain ⟨l1, l2, hF, n1, n2, t1, t2, hAl⟩ := chkE_ok he
  simp only [moF, Bool.and_eq_true] at hF
  obtain ⟨hF0, hFC, hFR⟩ := hF
  have hcol : ∀ j, j < M.ck → ColV K w (M.C j) (cvOf (M.C j)) ∧ bdB (cvOf (M.C j)).li (cvOf (M.C j)).lq (cvOf (M.C j)).hi (cvOf (M.C j)).hq = true := fun j hj => by
    obtain ⟨_, _, _, _, hn⟩ := h.cls j hj
    obtain ⟨f1, f2⟩ := clsB_at hFC j (by omega) (by omega)
    have k := hk.c j hj
    obtain ⟨v1, v2, hb⟩ := bd_of hn.lo hn.hi k.2.1 k.2.2 f2
    exact ⟨⟨rfl, hn.cost.val f1 k.1, rfl, v1, rfl, v2⟩, hb⟩
  have hrow : ∀ j, j < M.rk → RowV K w (M.R j) (rvOf (M.R j)) ∧ bdB (rvOf (M.R j)).li (rvOf (M.R j)).lq (rvOf (M.R j)).hi (rvOf (M.R j)).hq = true ∧ tsB M.ck (-1) (rvOf (M.R j)).ts = true := fun j hj => by
    obtain ⟨_, _, _, _, hn⟩ := h.rls j hj
    obtain ⟨f1, f2⟩ := rlsB_at hFR j (by omega) (by omega)
    have k := hk.r j hj
    obtain ⟨v1, v2, hb⟩ := bd_of hn.lo hn.hi k.1 k.2.1 f1
    have hall := (tfr_all f2).1
    have hv : ∀ p, p < (M.R j).tk → NmV K w ((M.R j).T p) (nq ((M.R j).T p)) := fun p hp => by
      obtain ⟨_, _, _, _, hr⟩ := hn.tl p hp
      exact NmS.val hr (hall p (by omega) (by omega)).2.1 (k.2.2.2 p hp)
    refine ⟨⟨rfl, rfl, v1, rfl, v2, by simp [rvOf], fun p z q e => ?_⟩, hb, ?_⟩
    · obtain ⟨hp, e'⟩ := range_at e
      obtain ⟨b, o, ea, c4, _⟩ := hn.tl p hp
      cases e'
      exact ⟨rfl, hv p hp, b, o, ea, c4⟩
    · show tsB M.ck (-1) ((List.range (M.R j).tk).map _) = true
      rw [List.range_eq_range']
      exact ts_of f2 (fun p _ hp => (cols_at f2 (alB_at hAl j (by omega) (by omega)) p (by omega)).2) (fun p _ hp => hv p (by omega))
  unfold csOf rsOf
  refine ⟨⟨h.off.val hF0 hk.off, by simp, by simp, fun j v e => ?_, fun j v e => ?_⟩, ?_⟩
  · obtain ⟨hj, rfl⟩ := range_at e
    obtain ⟨b, o, ea, hc, _⟩ := h.cls j hj
    exact ⟨⟨b, o, ea, hc⟩, (hcol j hj).1⟩
  · obtain ⟨hj, rfl⟩ := range_at e
    obtain ⟨b, o, ea, hc, _⟩ := h.rls j hj
    exact ⟨⟨b, o, ea, hc⟩, (hrow j hj).1⟩
  · have ec : ∀ j, j < M.ck → nmC ((List.range M.ck).map (fun j => cvOf (M.C j))) j = (M.C j).nm := fun j hj => by unfold nmC; rw [range_get hj]; rfl
    have er : ∀ j, j < M.rk → nmR ((List.range M.rk).map (fun j => rvOf (M.R j))) j = (M.R j).nm := fun j hj => by unfold nmR; rw [range_get hj]; rfl
    simp only [mvOk, Bool.and_eq_true, decide_eq_true_eq, List.all_eq_true, List.length_map, List.length_range, Bool.not_eq_true']
    refine ⟨l1, l2, fun v hv => ?_, fun v hv => ?_, ?_, ?_, ?_, ?_⟩
    · obtain ⟨j, hj, rfl⟩ := List.mem_map.1 hv
      exact (hcol j (List.mem_range.1 hj)).2
    · obtain ⟨j, hj, rfl⟩ := List.mem_map.1 hv
      have := hrow j (List.mem_range.1 hj)
      refine ⟨this.2.1, this.2.2, ?_⟩
      have h3 := (hk.r j (List.mem_range.1 hj)).2.2.1
      simp [rvOf]; omega
    · rw [nms_congr (S' := fun j => (M.C j).nm) (fun j _ hj => ec j (by omega))]; exact n1
    · rw [nms_congr (S' := fun j => (M.R j).nm) (fun j _ hj => er j (by omega))]; exact n2
    · rw [twr_congr (S' := fun j => (M.C j).nm) (fun j hj => ec j (by omega))]; exact t1
    · rw [twr_congr (S' := fun j => (M.R j).nm) (fun j hj => er j (by omega))]; exact t2
theorem FnT.of {K w} {e : Ex} {i : Int} {q : Rat} (h : QnT K w e.v q) (hi : e.i = i) (hb : i = 0 ∨ (i = -1 ∨ i = 1) ∧ q = 0) : Fn w e.i e.v.s e.v.x e.v.n e.v.f e.v.y e.v.m e.v.g q := ⟨h.2.2, by rw [hi]; exact hb⟩

end Go.Proofs.YtngakajgkklncaaGreat
namespace Go.Proofs.YtngakajgkklncaaGreat
open Go.RowKit

/-- What a law of models begins with: the parameter's box, and whether the model is light. -/
theorem twin_w {w : World} {M : Mo} {K : Nat} (hX : MoX w M) (hN : MoN M) (hk : M.ck ≤ 64 → M.rk ≤ 64 → MoK K M) (hK : K ≤ 65536) : Calls Tryz.prog 10 #[M.val] w fun e w' => ∃ M' : Mo, e = .returned M'.val ∧ Below w.heap.size w w' ∧ Sm M M' ∧ MoW w' M' ∧ MoX w' M' ∧ (M'.ck ≤ 64 → M'.rk ≤ 64 → MoK K M') :=
  (mTwin_c hX).mono fun e w' ⟨M', h1, h2, h3, h4⟩ => ⟨M', h1, h2, h3, fun a b => h4.mor (h3.mon hN) (h3.mok (hk (by rw [← h3.ck]; exact a) (by rw [← h3.rk]; exact b))) hK a b, h4, fun a b => h3.mok (hk (by rw [← h3.ck]; exact a) (by rw [← h3.rk]; exact b))⟩
theorem lgM_k {K : Nat} {M : Mo} (h : lgM K M = true) : M.ck ≤ 64 → M.rk ≤ 64 → MoK K M := fun a b => lgM_at h a b
end Go.Proofs.YtngakajgkklncaaGreat
namespace Go.Proofs.YtngakajgkklncaaGreat
open Go.RowKit

end Go.Proofs.YtngakajgkklncaaGreat
namespace Go.Proofs.YtngakajgkklncaaGreat
open Go.RowKit

theorem El.below {w w' ao k E} (h : El w ao k E) (hb : Below w.heap.size w w') : El w' ao k E := fun j hj => by
  obtain ⟨b, o, e, h1⟩ := h j hj
  exact ⟨b, o, e, kCb hb h1⟩
end Go.Proofs.YtngakajgkklncaaGreat
namespace Go.Proofs.YtngakajgkklncaaGreat
open Go.RowKit

theorem Sn.trans {a b c : Nm} (h : Sn a b) (k : Sn b c) : Sn a c := by
  obtain ⟨h1, h2, h3, h4, h5⟩ := h
  obtain ⟨k1, k2, k3, k4, k5⟩ := k
  exact ⟨k1.trans h1, k2.trans h2, k3.trans h3, k4.trans h4, k5.trans h5⟩
end Go.Proofs.YtngakajgkklncaaGreat
namespace Go.Proofs.YtngakajgkklncaaGreat
open Go.RowKit

theorem Sn.nq {t t' : Nm} (h : Sn t t') : nq t' = nq t := by
  obtain ⟨h1, h2, h3, h4, h5⟩ := h
  unfold Go.Proofs.YtngakajgkklncaaGreat.nq
  rw [h1, h2, h3, h4, h5]
theorem Sm.csOf {M M' : Mo} (h : Sm M M') : csOf M' = csOf M := by
  unfold Go.Proofs.YtngakajgkklncaaGreat.csOf
  rw [h.ck]
  refine List.map_congr_left (fun j hj => ?_)
  have p := h.C j (List.mem_range.1 hj)
  unfold cvOf
  rw [p.nm, p.cost.nq, p.li, p.lo.nq, p.hi, p.hv.nq]
theorem Sm.rsOf {M M' : Mo} (h : Sm M M') : rsOf M' = rsOf M := by
  unfold Go.Proofs.YtngakajgkklncaaGreat.rsOf
  rw [h.rk]
  refine List.map_congr_left (fun j hj => ?_)
  have p := h.R j (List.mem_range.1 hj)
  unfold rvOf
  rw [p.nm, p.li, p.lo.nq, p.hi, p.hv.nq, p.tk, p.col]
  congr 1
  exact List.map_congr_left (fun q hq => by rw [(p.T q (List.mem_range.1 hq)).nq])
/-- A list's numbers. -/
def psOf (k : Nat) (X : Nat → Nm) : List Rat := (List.range k).map (fun j => nq (X j))
theorem psOf_len (k : Nat) (X : Nat → Nm) : (psOf k X).length = k := by simp [psOf]
theorem psOf_sn {k : Nat} {X X' : Nat → Nm} (h : ∀ j, j < k → Sn (X j) (X' j)) : psOf k X' = psOf k X := List.map_congr_left (fun j hj => (h j (List.mem_range.1 hj)).nq)
theorem Rl.rfC {w : World} {ao : Option Addr} {k K : Nat} {X : Nat → Nm} (h : Rl w ao k X) (hf : afB k X = true) (hk : ∀ j, j < k → (X j).n ≤ K ∧ (X j).m ≤ K) : Rf K w ao (psOf k X) := fun j q e => by
  obtain ⟨hj, rfl⟩ := range_at e
  obtain ⟨b, o, h1, h2, h3⟩ := h j hj
  exact ⟨b, o, X j, h1, h2, NmS.val h3 (afr_all hf j (by omega) (by omega)) (hk j hj)⟩
end Go.Proofs.YtngakajgkklncaaGreat
namespace Go.Proofs.YtngakajgkklncaaGreat
open Go.RowKit

/-- Are a list's numbers of at most K limbs, and not too many? -/
def lgL (K k : Nat) (X : Nat → Nm) : Bool := decide (k ≤ 300) && nlg K X k 0
end Go.Proofs.YtngakajgkklncaaGreat
namespace Go.Proofs.YtngakajgkklncaaGreat
open Go.RowKit

theorem MoK.up {K L : Nat} {M : Mo} (h : MoK K M) (hL : K ≤ L) : MoK L M := by
  have e : ∀ {a b : Nat}, a ≤ K ∧ b ≤ K → a ≤ L ∧ b ≤ L := fun p => ⟨Nat.le_trans p.1 hL, Nat.le_trans p.2 hL⟩
  exact ⟨e h.off, fun j hj => ⟨e (h.c j hj).1, e (h.c j hj).2.1, e (h.c j hj).2.2⟩, fun j hj => ⟨e (h.r j hj).1, e (h.r j hj).2.1, (h.r j hj).2.2.1, fun p hp => e ((h.r j hj).2.2.2 p hp)⟩⟩
theorem Rf.cut {K L : Nat} {w : World} {ao : Option Addr} {p : List Rat} (h : Rf K w ao p) (hp : ∀ q, q ∈ p → Lo L q) : Rf L w ao p := fun j q hj => by
  obtain ⟨b, o, t, e, h1, h2⟩ := h j q hj
  exact ⟨b, o, t, e, h1, h2.cut (hp q (List.mem_of_getElem? hj))⟩
theorem Rf.loM {K : Nat} {w : World} {ao : Option Addr} {p : List Rat} (h : Rf K w ao p) : ∀ q, q ∈ p → Lo K q := fun q hq => by
  obtain ⟨j, hj⟩ := List.getElem?_of_mem hq
  obtain ⟨b, o, t, e, h1, h2⟩ := h j q hj
  exact h2.lo h2.ln h2.ld
theorem pckE_two {M : Mo} {k : Nat} {X : Nat → Nm} (h : pckE M k X = 0) : chkE M = 0 ∧ afB k X = true ∧ k = M.ck := by
  obtain ⟨h1, h2⟩ := two_zero h
  refine ⟨h1, ?_⟩
  unfold pnE at h2
  by_cases a : afB k X = true
  · rw [if_pos a] at h2
    by_cases b : k = M.ck
    · exact ⟨a, b⟩
    · rw [if_neg (by omega)] at h2; cases h2
  · rw [if_neg a] at h2; cases h2
theorem csOf_len (M : Mo) : (csOf M).length = M.ck := by simp [csOf]
/-- A model's twin, the model's numbers being of at most 6 limbs. -/
def Tm (w : World) (M M' : Mo) : Prop := Sm M M' ∧ MoW w M' ∧ MoX w M' ∧ (M'.ck ≤ 64 → M'.rk ≤ 64 → MoK 6 M')
theorem Tm.below {w w' M M'} (h : Tm w M M') (hb : Below w.heap.size w w') : Tm w' M M' := ⟨h.1, h.2.1.below hb, h.2.2.1.below hb, h.2.2.2⟩
/-- A list's twin, the list's numbers being of at most 6 limbs. -/
def Tx (w : World) (ao : Option Addr) (k : Nat) (X X' : Nat → Nm) : Prop := Rl w ao k X' ∧ ∀ j, j < k → Sn (X j) (X' j)
theorem Tx.below {w w' ao k X X'} (h : Tx w ao k X X') (hb : Below w.heap.size w w') : Tx w' ao k X X' := ⟨h.1.below hb, h.2⟩
/-- A list that is short, its numbers too. -/
def Sh (k : Nat) (X : Nat → Nm) : Prop := k ≤ 300 ∧ ∀ j, j < k → (X j).n ≤ 6 ∧ (X j).m ≤ 6
theorem lgL_sh {k : Nat} {X : Nat → Nm} (h : lgL 6 k X = true) : Sh k X := by
  simp only [lgL, Bool.and_eq_true, decide_eq_true_eq] at h
  exact ⟨h.1, fun j hj => nlg_all h.2 j (by omega) (by omega)⟩
theorem Tm.val {w M M'} (h : Tm w M M') (hN : MoN M) (he : chkE M = 0) : MoV 13 w M' (nq M'.off) (csOf M) (rsOf M) ∧ mvOk (csOf M) (rsOf M) = true := by
  obtain ⟨s, hw, hx, hk⟩ := h
  have he' : chkE M' = 0 := s.chk.trans he
  obtain ⟨l1, l2, _⟩ := chkE_ok he'
  have k6 := hk l1 l2
  have := (hx.mor (s.mon hN) k6 (by decide) l1 l2).movC (k6.up (show 6 ≤ 13 by decide)) he'
  rw [s.csOf, s.rsOf] at this
  exact this
theorem Tx.val {w ao k X X'} (h : Tx w ao k X X') (hs : Sh k X) (ha : afB k X = true) : Rf 6 w ao (psOf k X) := by
  rw [← psOf_sn h.2]
  refine h.1.rfC ?_ (fun j hj => by rw [(h.2 j hj).2.1, (h.2 j hj).2.2.2.1]; exact hs.2 j hj)
  exact (afr_sn (fun j _ b => h.2 j (by omega))).trans ha
theorem pckE_tw {w ao k X X' M M'} (h : Tm w M M') (hx : Tx w ao k X X') : pckE M' k X' = pckE M k X := by
  unfold pckE
  rw [h.1.chk, h.1.ck]
  unfold pnE
  rw [show afB k X' = afB k X from afr_sn (fun j _ b => hx.2 j (by omega))]
end Go.Proofs.YtngakajgkklncaaGreat
namespace Go.Proofs.YtngakajgkklncaaGreat
open Go.RowKit

theorem crl_nil {B : Nat → Bool} : ∀ {n : Nat}, (crl B n).length = 0 ↔ ∀ j, j < n → B j = false
  | 0 => ⟨fun _ j hj => by omega, fun _ => rfl⟩
  | n + 1 => by
    have ih := crl_nil (B := B) (n := n)
    cases e : B n with
    | true =>
      rw [crl_yes e]
      refine ⟨fun h => by simp at h, fun h => ?_⟩
      rw [h n (by omega)] at e; cases e
    | false =>
      rw [crl_no e, ih]
      refine ⟨fun h j hj => ?_, fun h j hj => h j (by omega)⟩
      by_cases g : j = n
      · rw [g]; exact e
      · exact h j (by omega)
end Go.Proofs.YtngakajgkklncaaGreat
namespace Go.Proofs.YtngakajgkklncaaGreat
open Go.RowKit

/-- A quarter of one and three quarters of the other. -/
def bqr (x y : Rat) : Rat := (x + 3 * y) / 4
def btw (xs ys : List Rat) : List Rat := List.zipWith bqr xs ys
theorem btw_len {xs ys : List Rat} (h : xs.length = ys.length) : (btw xs ys).length = xs.length := by unfold btw; rw [List.length_zipWith, h, Nat.min_self]
theorem btw_get {xs ys : List Rat} (j : Nat) : (btw xs ys)[j]? = (xs[j]?.bind fun x => ys[j]?.map fun y => bqr x y) := by
  unfold btw
  rw [List.getElem?_zipWith]
  cases xs[j]? <;> cases ys[j]? <;> rfl
theorem bqr_mul (a x y : Rat) : a * bqr x y = bqr (a * x) (a * y) := by unfold bqr; grind
theorem bqr_add (a b x y : Rat) : bqr a b + bqr x y = bqr (a + x) (b + y) := by unfold bqr; grind
theorem bqr_zero : bqr 0 0 = 0 := by decide +kernel
theorem bqr_self (a : Rat) : bqr a a = a := by unfold bqr; grind
theorem btw_getD {xs ys : List Rat} (h : xs.length = ys.length) (j : Nat) : (btw xs ys).getD j 0 = bqr (xs.getD j 0) (ys.getD j 0) := by
  rw [List.getD_eq_getElem?_getD, List.getD_eq_getElem?_getD, List.getD_eq_getElem?_getD, btw_get]
  rcases Nat.lt_or_ge j xs.length with h1 | h1
  · rw [List.getElem?_eq_getElem h1, List.getElem?_eq_getElem (by omega)]; rfl
  · rw [List.getElem?_eq_none h1, List.getElem?_eq_none (by omega)]; exact bqr_zero.symm
theorem psum_btw {α : Type} (f g h : α → Rat) (e : ∀ a, h a = bqr (f a) (g a)) : ∀ (l : List α) (x y : Rat), psum (l.map h) (bqr x y) = bqr (psum (l.map f) x) (psum (l.map g) y)
  | [], _, _ => rfl
  | a :: l, x, y => by
    show psum (l.map h) (bqr x y + h a) = bqr (psum (l.map f) (x + f a)) (psum (l.map g) (y + g a))
    rw [e, bqr_add]
    exact psum_btw f g h e l _ _
theorem act_btw {xs ys : List Rat} (hl : xs.length = ys.length) (r : RV) : actQ (btw xs ys) r = bqr (actQ xs r) (actQ ys r) := by
  unfold actQ
  have := psum_btw (tprod xs) (tprod ys) (tprod (btw xs ys)) (fun t => by unfold tprod; rw [btw_getD hl, bqr_mul]) r.ts 0 0
  rw [bqr_zero] at this; exact this
theorem acts_btw {xs ys : List Rat} (hl : xs.length = ys.length) (rs : List RV) : rs.map (actQ (btw xs ys)) = btw (rs.map (actQ xs)) (rs.map (actQ ys)) := by
  unfold btw
  rw [List.zipWith_map, List.zipWith_self]
  exact List.map_congr_left (fun r _ => act_btw hl r)
theorem costs_btw : ∀ (cs : List CV) (xs ys : List Rat), xs.length = ys.length → ∀ x y, psum (costs cs (btw xs ys)) (bqr x y) = bqr (psum (costs cs xs) x) (psum (costs cs ys) y)
  | [], _, _, _, _, _ => rfl
  | c :: cs, [], [], _, _, _ => rfl
  | c :: cs, a :: xs, b :: ys, h, x, y => by
    show psum (costs cs (btw xs ys)) (bqr x y + c.cost * bqr a b) = bqr (psum (costs cs xs) (x + c.cost * a)) (psum (costs cs ys) (y + c.cost * b))
    rw [bqr_mul, bqr_add]
    exact costs_btw cs xs ys (by simpa using h) _ _
theorem val_btw {off : Rat} {cs : List CV} {xs ys : List Rat} (hl : xs.length = ys.length) : valQ off cs (btw xs ys) = bqr (valQ off cs xs) (valQ off cs ys) := by
  show psum (costs cs (btw xs ys)) (0 + off) = bqr (psum (costs cs xs) (0 + off)) (psum (costs cs ys) (0 + off))
  have := costs_btw cs xs ys hl (0 + off) (0 + off)
  rw [bqr_self] at this; exact this
theorem kps_btw {x y : Rat} {li : Int} {lq : Rat} {hi : Int} {hq : Rat} (h1 : kpsB x li lq hi hq = true) (h2 : kpsB y li lq hi hq = true) : kpsB (bqr x y) li lq hi hq = true := by
  unfold kpsB at *
  simp only [decide_eq_true_eq] at *
  obtain ⟨a, b⟩ := h1
  obtain ⟨c, d⟩ := h2
  refine ⟨?_, ?_⟩
  · rcases a with a | ⟨a, a'⟩
    · exact .inl a
    · rcases c with c | ⟨c, c'⟩
      · exact .inl c
      · exact .inr ⟨a, by unfold bqr; grind⟩
  · rcases b with b | ⟨b, b'⟩
    · exact .inl b
    · rcases d with d | ⟨d, d'⟩
      · exact .inl d
      · exact .inr ⟨b, by unfold bqr; grind⟩
theorem feas_btw {cs : List CV} {rs : List RV} {xs ys : List Rat} (hl : xs.length = ys.length) (h1 : feasB cs rs xs = true) (h2 : feasB cs rs ys = true) : feasB cs rs (btw xs ys) = true := by
  simp only [feasB, Bool.and_eq_true, decide_eq_true_eq, crl_nil] at *
  refine ⟨fun j hj => ?_, fun j hj => ?_⟩
  · have a := h1.1 j hj; have b := h2.1 j hj
    unfold bcB at *
    rw [btw_get]
    cases e : cs[j]? with
    | none => rfl
    | some v =>
      rw [e] at a b
      cases e1 : xs[j]? with
      | none => rfl
      | some x =>
        cases e2 : ys[j]? with
        | none => rfl
        | some y =>
          rw [e1] at a
          rw [e2] at b
          simp only [Bool.not_eq_false'] at a b
          simp only [Option.bind_some, Option.map_some, Bool.not_eq_false']
          exact kps_btw a b
  · have a := h1.2 j hj; have b := h2.2 j hj
    unfold brB at *
    cases e : rs[j]? with
    | none => rfl
    | some v =>
      rw [e] at a b
      simp only [Bool.not_eq_false'] at a b
      simp only [Bool.not_eq_false']
      rw [act_btw hl]
      exact kps_btw a b
end Go.Proofs.YtngakajgkklncaaGreat
namespace Go.Proofs.YtngakajgkklncaaGreat
open Go.RowKit

/-- How long a number between two may be, as it is reckoned. -/
def KB (L : Nat) : Nat := 48 * L + 82
/-- A value that is a number; one that is a box of its own for the reference's number. -/
def NV4 (K : Nat) (q : Rat) (v : Value) (w : World) : Prop := ∃ t : Nm, v = t.val ∧ NmV K w t q
theorem NV4.below {K q v w w'} (h : NV4 K q v w) (hb : Below w.heap.size w w') : NV4 K q v w' := by obtain ⟨t, h1, h2⟩ := h; exact ⟨t, h1, Rn.below h2 hb⟩
def Bz (base : Nat) (v : Value) (w : World) : Prop := ∃ b, v = .pointer (some ⟨b, 0, none⟩) ∧ base ≤ b ∧ Bk w b [.bool false, .slice none 0 0, .slice none 0 0] 62
theorem Bz.below {base v w w'} (h : Bz base v w) (hb : Below w.heap.size w w') : Bz base v w' := by
  obtain ⟨b, h1, h2, h3⟩ := h
  exact ⟨b, h1, h2, h3.below hb⟩
set_option maxRecDepth 100000 in
set_option maxHeartbeats 8000000 in
theorem between_c {w : World} {L : Nat} {ax : Option Addr} {k capx : Nat} {ao : Option Addr} {cap : Nat} {xs ys : List Rat} (h1 : Rf L w ax xs) (l1 : xs.length = k) (h2 : Rf L w ao ys) (l2 : ys.length = k) (hk : k ≤ 1000) (hL : L ≤ 1200) :
    Calls Tryz.prog 22 #[.slice ax k capx, .slice ao k cap] w fun e w' => ∃ a c, e = .returned (.slice a k c) ∧ Below w.heap.size w w' ∧ (k ≤ c ∧ c ≤ 9223372036854775807) ∧ Hid (Rf (KB L) w' a (btw xs ys)) := by
  have X1 := hid h1; have X2 := hid h2
  clear h1 h2
  go_enter Tryz.func22, Tryz.ntmps22
  go_wp2_with fail
  go_loopw [5, 10] (fun ov t wr => ∃ (i : Nat), i ≤ k ∧ t = .int .i64 i ∧ Hid (Below w.heap.size w wr) ∧ Hid (Gr (KB L) w.heap.size wr ov ((btw xs ys).take i))) (fun _ t _ => k - (intOf t).toNat)
  case atStart => exact ⟨0, by omega, rfl, Below.refl _ _, gr_nil _ _ _⟩
  case round =>
    obtain ⟨i, hi, rfl, HBr, HG⟩ := hrel
    by_cases hlt : i < k
    · obtain ⟨x, hx⟩ : ∃ t, xs[i]? = some t := ⟨_, List.getElem?_eq_getElem (by omega)⟩
      obtain ⟨yy, hd⟩ : ∃ t, ys[i]? = some t := ⟨_, List.getElem?_eq_getElem (by omega)⟩
      obtain ⟨b1, o1, ⟨su, xu, nu, cu, fu, yu, mu, du, gu⟩, hax, ⟨p0, p1, p2⟩, hr1⟩ := (X1.out.below HBr.out) i x hx
      obtain ⟨b2, o2, ⟨sv, xv, nv, cv, fv, yv, mv, dv, gv⟩, hao, ⟨q0, q1, q2⟩, hr2⟩ := (X2.out.below HBr.out) i yy hd
      subst hax
      subst hao
      replace p0 : wr.cell? ⟨b1, o1 + i * 3, none⟩ = some (.bool su) := p0
      replace p1 : wr.cell? ⟨b1, o1 + i * 3 + 1, none⟩ = some (.slice xu nu cu) := p1
      replace p2 : wr.cell? ⟨b1, o1 + i * 3 + 2, none⟩ = some (.slice yu mu du) := p2
      replace q0 : wr.cell? ⟨b2, o2 + i * 3, none⟩ = some (.bool sv) := q0
      replace q1 : wr.cell? ⟨b2, o2 + i * 3 + 1, none⟩ = some (.slice xv nv cv) := q1
      replace q2 : wr.cell? ⟨b2, o2 + i * 3 + 2, none⟩ = some (.slice yv mv dv) := q2
      have R1 := hid hr1; have R2 := hid hr2; have HXi := hid hx; have HDi := hid hd
      clear hr1 hr2 hx hd
      have i1 : ((i : Nat) : Int) < ((k : Nat) : Int) := by omega
      go_upto_region 5 with fail
      refine wp_region_held_drew (S := (fun w' => w'.cell? ⟨b1, o1 + i * 3, none⟩ = some (.bool su) ∧ w'.cell? ⟨b1, o1 + i * 3 + 1, none⟩ = some (.slice xu nu cu) ∧ w'.cell? ⟨b1, o1 + i * 3 + 2, none⟩ = some (.slice yu mu du) ∧ w'.cell? ⟨b2, o2 + i * 3, none⟩ = some (.bool sv) ∧ w'.cell? ⟨b2, o2 + i * 3 + 1, none⟩ = some (.slice xv nv cv) ∧ w'.cell? ⟨b2, o2 + i * 3 + 2, none⟩ = some (.slice yv mv dv))) (by kernel_rfl) ?_ (fun hHeld => ?_)
      · (refine ⟨?_, ?_, ?_, ?_, ?_, ?_⟩ <;> repeat (with_reducible first | assumption | refine kCd ?_))
      have hbd := Below.drew (Below.refl wr.heap.size wr)
      replace HBr := hid (HBr.out.trans (hbd.mono HBr.out.size)); replace HG := hid (HG.out.below hbd); replace R1 := hid (Rn.below R1.out hbd); replace R2 := hid (Rn.below R2.out hbd)
      replace p0 := kCb hbd p0
      replace p1 := kCb hbd p1
      replace p2 := kCb hbd p2
      replace q0 := kCb hbd q0
      replace q1 := kCb hbd q1
      replace q2 := kCb hbd q2
      generalize wr.drew = wd at *
      clear hbd
      have HOwn : Hid (∀ b, wd.heap.size ≤ b → u5.ownBlock ≠ some b) := by
        obtain ⟨T0, hrow0, _⟩ := HG.out
        exact fun b hb e => by have := (hrow0.lt b e).2; omega
      have HP := hid (And.intro p0 (And.intro p1 (And.intro p2 (And.intro q0 (And.intro q1 q2)))))
      clear p0 p1 p2 q0 q1 q2
      have hlz : b1 < wd.heap.size ∧ b2 < wd.heap.size := ⟨World.block_lt_of_cell? wd _ HP.out.1, World.block_lt_of_cell? wd _ HP.out.2.2.2.1⟩
      refine wpAnyH_take (i := 0) (v := ?_) rfl (by kernel_rfl) (by kernel_rfl) (by kernel_rfl) (fun _ _ _ h => h) (Or.inl ⟨by rfl, ?_⟩) (by assumption) ?_
      rotate_left
      (focus (intro w0 hSw; (try dsimp only at hSw); go_simp <;> with_reducible rfl))
      simp only [List.getElem_toArray, List.getElem_cons_zero, Act.put, List.setIfInBounds_toArray, List.set_cons_zero, List.set_cons_succ]
      refine wpAnyH_take (i := 1) (v := ?_) rfl (by kernel_rfl) (by kernel_rfl) (by kernel_rfl) (fun _ _ _ h => h) (Or.inl ⟨by rfl, ?_⟩) (by assumption) ?_
      rotate_left
      (focus (intro w0 hSw; (try dsimp only at hSw); go_simp <;> with_reducible rfl))
      simp only [List.getElem_toArray, List.getElem_cons_succ, List.getElem_cons_zero, Act.put, List.setIfInBounds_toArray, List.set_cons_zero, List.set_cons_succ]
      refine wpAnyH_take (i := 2) (v := ?_) rfl (by kernel_rfl) (by kernel_rfl) (by kernel_rfl) (fun _ _ _ h => h) (Or.inl ⟨by rfl, ?_⟩) (by assumption) ?_
      rotate_left
      (focus (intro w0 hSw; (try dsimp only at hSw); go_simp <;> with_reducible rfl))
      simp only [List.getElem_toArray, List.getElem_cons_succ, List.getElem_cons_zero, Act.put, List.setIfInBounds_toArray, List.set_cons_zero, List.set_cons_succ]
      refine wpAnyH_take (i := 3) (v := ?_) rfl (by kernel_rfl) (by kernel_rfl) (by kernel_rfl) (fun _ _ _ h => h) (Or.inl ⟨by rfl, ?_⟩) (by assumption) ?_
      rotate_left
      (focus (intro w0 hSw; (try dsimp only at hSw); go_simp <;> with_reducible rfl))
      simp only [List.getElem_toArray, List.getElem_cons_succ, List.getElem_cons_zero, Act.put, List.setIfInBounds_toArray, List.set_cons_zero, List.set_cons_succ]
      refine wpAnyH_take (i := 6) (v := ?_) rfl (by kernel_rfl) (by kernel_rfl) (by kernel_rfl) (fun _ _ _ h => h) (Or.inl ⟨by rfl, ?_⟩) (by assumption) ?_
      rotate_left
      (focus (intro w0 hSw; (try dsimp only at hSw); go_simp <;> with_reducible rfl))
      simp only [List.getElem_toArray, List.getElem_cons_succ, List.getElem_cons_zero, Act.put, List.setIfInBounds_toArray, List.set_cons_zero, List.set_cons_succ]
      refine wpAnyH_take (i := 7) (v := ?_) rfl (by kernel_rfl) (by kernel_rfl) (by kernel_rfl) (fun _ _ _ h => h) (Or.inl ⟨by rfl, ?_⟩) (by assumption) ?_
      rotate_left
      (focus (intro w0 hSw; (try dsimp only at hSw); go_simp <;> with_reducible rfl))
      simp only [List.getElem_toArray, List.getElem_cons_succ, List.getElem_cons_zero, Act.put, List.setIfInBounds_toArray, List.set_cons_zero, List.set_cons_succ]
      refine wpAnyH_take (i := 8) (v := ?_) rfl (by kernel_rfl) (by kernel_rfl) (by kernel_rfl) (fun _ _ _ h => h) (Or.inl ⟨by rfl, ?_⟩) (by assumption) ?_
      rotate_left
      (focus (intro w0 hSw; (try dsimp only at hSw); go_simp <;> with_reducible rfl))
      simp only [List.getElem_toArray, List.getElem_cons_succ, List.getElem_cons_zero, Act.put, List.setIfInBounds_toArray, List.set_cons_zero, List.set_cons_succ]
      refine wpAnyH_take (i := 9) (v := ?_) rfl (by kernel_rfl) (by kernel_rfl) (by kernel_rfl) (fun _ _ _ h => h) (Or.inl ⟨by rfl, ?_⟩) (by assumption) ?_
      rotate_left
      (focus (intro w0 hSw; (try dsimp only at hSw); go_simp <;> with_reducible rfl))
      simp only [List.getElem_toArray, List.getElem_cons_succ, List.getElem_cons_zero, Act.put, List.setIfInBounds_toArray, List.set_cons_zero, List.set_cons_succ]
      refine (show wpAnyH _ _ _ _ _ (6 + 1) _ _ _ from wpAnyH_flow (fun j v w => match j with | 4 => FN (2 * L) x v w | 5 => FN 2 ((3 : Int) : Rat) v w | 10 => FN (2 * L) yy v w | 11 => FN (4 * L + 7) (((3 : Int) : Rat) * yy) v w | 12 => FN (12 * L + 17) (x + ((3 : Int) : Rat) * yy) v w | 13 => Bz wd.heap.size v w | _ => True) [(4, 17), (5, 18), (10, 23), (11, 24), (12, 25), (13, 7)] [4, 5, 10, 11, 12, 13] [14] _ _ _ 1 ?k1 ?k4 ?k2 ?k3 ?k5 ?k6 ?k8)
      case k1 => kernel_rfl
      case k4 => kernel_rfl
      case k2 => exact fun w w' h hb => ⟨kCb hb h.1, kCb hb h.2.1, kCb hb h.2.2.1, kCb hb h.2.2.2.1, kCb hb h.2.2.2.2.1, kCb hb h.2.2.2.2.2⟩
      case k3 =>
        intro j v w w' h hb
        split at h <;> first | exact FN.below h hb | exact Bz.below h hb | exact h | trivial
      case k8 => exact hHeld
      case k5 =>
        intro i hi
        simp only [List.mem_cons, List.not_mem_nil, or_false] at hi
        rcases hi with rfl | rfl | rfl | rfl | rfl | rfl
        · refine ⟨_, rfl, fun u w5 hS hb5 hd K hK => ?_⟩
          simp only [fill, List.foldl_cons, List.foldl_nil, Act.put, List.setIfInBounds_toArray, List.set_cons_zero, List.set_cons_succ] at hK ⊢
          go_simp
          go_at_call 25
          refine (qFrom_c (Rn.below R1.out hb5) (Nat.le_trans hL (by decide))).mono ?_
          rintro e w6 ⟨sq, zp, nq9, cp, dp, zq, mq9, cq, gq, rfl, hb6, hq1, hq2, hq⟩
          (try go_wp2_with fail)
          exact hK.out _ _ hb6 ⟨⟨sq, zp, nq9, cp, dp, zq, mq9, cq, gq⟩, rfl, hq1, hq2, hq⟩
        · refine ⟨_, rfl, fun u w5 hS hb5 hd K hK => ?_⟩
          simp only [fill, List.foldl_cons, List.foldl_nil, Act.put, List.setIfInBounds_toArray, List.set_cons_zero, List.set_cons_succ] at hK ⊢
          go_simp
          go_at_call 48
          refine (qInt_c (z := 3) (by decide) (by decide)).mono ?_
          rintro e w6 ⟨sq, zp, nq9, cp, dp, zq, mq9, cq, gq, rfl, hb6, hq1, hq2, hq⟩
          (try go_wp2_with fail)
          exact hK.out _ _ hb6 ⟨⟨sq, zp, nq9, cp, dp, zq, mq9, cq, gq⟩, rfl, hq1, hq2, hq⟩
        · refine ⟨_, rfl, fun u w5 hS hb5 hd K hK => ?_⟩
          simp only [fill, List.foldl_cons, List.foldl_nil, Act.put, List.setIfInBounds_toArray, List.set_cons_zero, List.set_cons_succ] at hK ⊢
          go_simp
          go_at_call 25
          refine (qFrom_c (Rn.below R2.out hb5) (Nat.le_trans hL (by decide))).mono ?_
          rintro e w6 ⟨sq, zp, nq9, cp, dp, zq, mq9, cq, gq, rfl, hb6, hq1, hq2, hq⟩
          (try go_wp2_with fail)
          exact hK.out _ _ hb6 ⟨⟨sq, zp, nq9, cp, dp, zq, mq9, cq, gq⟩, rfl, hq1, hq2, hq⟩
        · refine ⟨_, rfl, fun u w5 hS hb5 hd K hK => ?_⟩
          have h5 : FN 2 ((3 : Int) : Rat) (u 5) w5 := hd 5 (by kernel_rfl) (by kernel_rfl)
          obtain ⟨⟨sa5, xa5, na5, ca5, fa5, ya5, ma5, da5, ga5⟩, e5, hm5, hn5, hv5⟩ := h5
          replace e5 : u 5 = .agg #[.bool sa5, .slice xa5 na5 ca5, .slice ya5 ma5 da5] := e5
          replace hm5 : na5 ≤ _ := hm5
          replace hn5 : ma5 ≤ _ := hn5
          replace hv5 : Qn w5 sa5 xa5 na5 fa5 ya5 ma5 ga5 _ := hv5
          have h10 : FN (2 * L) yy (u 10) w5 := hd 10 (by kernel_rfl) (by kernel_rfl)
          obtain ⟨⟨sa10, xa10, na10, ca10, fa10, ya10, ma10, da10, ga10⟩, e10, hm10, hn10, hv10⟩ := h10
          replace e10 : u 10 = .agg #[.bool sa10, .slice xa10 na10 ca10, .slice ya10 ma10 da10] := e10
          replace hm10 : na10 ≤ _ := hm10
          replace hn10 : ma10 ≤ _ := hn10
          replace hv10 : Qn w5 sa10 xa10 na10 fa10 ya10 ma10 ga10 _ := hv10
          simp only [fill, List.foldl_cons, List.foldl_nil, Act.put, List.setIfInBounds_toArray, List.set_cons_zero, List.set_cons_succ] at hK ⊢
          simp only [e5, e10] at hK ⊢
          go_simp
          go_at_call 47
          refine (qMul_c hv5 hv10 (by omega) (by omega) (by omega) (by omega)).mono ?_
          rintro e w6 ⟨sq, zp, nq9, cp, dp, zq, mq9, cq, gq, rfl, hb6, hq1, hq2, hq⟩
          (try go_wp2_with fail)
          exact hK.out _ _ hb6 ⟨⟨sq, zp, nq9, cp, dp, zq, mq9, cq, gq⟩, rfl, Nat.le_trans hq1 (by omega), Nat.le_trans hq2 (by omega), hq⟩
        · refine ⟨_, rfl, fun u w5 hS hb5 hd K hK => ?_⟩
          have h4 : FN (2 * L) x (u 4) w5 := hd 4 (by kernel_rfl) (by kernel_rfl)
          obtain ⟨⟨sa4, xa4, na4, ca4, fa4, ya4, ma4, da4, ga4⟩, e4, hm4, hn4, hv4⟩ := h4
          replace e4 : u 4 = .agg #[.bool sa4, .slice xa4 na4 ca4, .slice ya4 ma4 da4] := e4
          replace hm4 : na4 ≤ _ := hm4
          replace hn4 : ma4 ≤ _ := hn4
          replace hv4 : Qn w5 sa4 xa4 na4 fa4 ya4 ma4 ga4 _ := hv4
          have h11 : FN (4 * L + 7) (((3 : Int) : Rat) * yy) (u 11) w5 := hd 11 (by kernel_rfl) (by kernel_rfl)
          obtain ⟨⟨sa11, xa11, na11, ca11, fa11, ya11, ma11, da11, ga11⟩, e11, hm11, hn11, hv11⟩ := h11
          replace e11 : u 11 = .agg #[.bool sa11, .slice xa11 na11 ca11, .slice ya11 ma11 da11] := e11
          replace hm11 : na11 ≤ _ := hm11
          replace hn11 : ma11 ≤ _ := hn11
          replace hv11 : Qn w5 sa11 xa11 na11 fa11 ya11 ma11 ga11 _ := hv11
          simp only [fill, List.foldl_cons, List.foldl_nil, Act.put, List.setIfInBounds_toArray, List.set_cons_zero, List.set_cons_succ] at hK ⊢
          simp only [e4, e11] at hK ⊢
          go_simp
          go_at_call 46
          refine (qAdd_c hv4 hv11 (by omega) (by omega) (by omega) (by omega)).mono ?_
          rintro e w6 ⟨sq, zp, nq9, cp, dp, zq, mq9, cq, gq, rfl, hb6, hq1, hq2, hq⟩
          (try go_wp2_with fail)
          exact hK.out _ _ hb6 ⟨⟨sq, zp, nq9, cp, dp, zq, mq9, cq, gq⟩, rfl, Nat.le_trans hq1 (by omega), Nat.le_trans hq2 (by omega), hq⟩
        · refine ⟨_, rfl, fun u w5 hS hb5 hd K hK => ?_⟩
          simp only [fill, List.foldl_cons, List.foldl_nil, Act.put, List.setIfInBounds_toArray, List.set_cons_zero, List.set_cons_succ] at hK ⊢
          go_simp
          exact hK.out _ _ (below_alloc (Below.refl _ _) _) ⟨w5.heap.size, rfl, hb5.size, bk_new w5 [.bool false, .slice none 0 0, .slice none 0 0] _⟩
      case k6 =>
        intro u w5 hS5 hb5 hg
        have h12 : FN (12 * L + 17) (x + ((3 : Int) : Rat) * yy) (u 12) w5 := hg 12 (by simp)
        have h13 : Bz wd.heap.size (u 13) w5 := hg 13 (by simp)
        obtain ⟨⟨s6, x6, n6, c6, f6, y6, m6, d6, g6⟩, e12, hm6, hn6, hv6⟩ := h12
        replace e12 : u 12 = .agg #[.bool s6, .slice x6 n6 c6, .slice y6 m6 d6] := e12
        replace hm6 : n6 ≤ 12 * L + 17 := hm6
        replace hn6 : m6 ≤ 12 * L + 17 := hn6
        replace hv6 : Qn w5 s6 x6 n6 f6 y6 m6 g6 (x + ((3 : Int) : Rat) * yy) := hv6
        obtain ⟨gb, e13, hge, hbk⟩ := h13
        clear hg
        simp only [fill, List.foldl_cons, List.foldl_nil, Act.put, List.setIfInBounds_toArray, List.set_cons_zero, List.set_cons_succ]
        simp only [e12, e13]
        clear e12 e13
        refine wpAnyH_ready (rs := [14]) (by kernel_rfl) (by simp) ?_
        refine AllReadyH.cons (o := _) rfl (fun K hK => ?_) ?_
        rotate_left
        exact AllReadyH.nil
        have l0 := hbk.cell (j := 0) rfl
        have l1 := hbk.cell (j := 1) rfl
        have l2 := hbk.cell (j := 2) rfl
        have ff := hbk.frozen
        go_simp
        obtain ⟨hx1, hx2, hx3⟩ := st_new [.bool s6, .slice x6 n6 c6, .slice y6 m6 d6] hbk (nou_list (fun u hu q => by simp at hu; rcases hu with rfl | rfl <;> simp)) hb5 hge
        have B9 := stl_bk [.bool s6, .slice x6 n6 c6, .slice y6 m6 d6] _ 0 _ rfl hbk
        obtain ⟨w19, hw19⟩ : ∃ x, stl gb 0 [.bool s6, .slice x6 n6 c6, .slice y6 m6 d6] w5 = x := ⟨_, rfl⟩
        rw [show (((w5.setCell ⟨gb, 0, none⟩ (.bool s6)).setCell ⟨gb, 1, none⟩ (.slice x6 n6 c6)).setCell ⟨gb, 2, none⟩ (.slice y6 m6 d6)) = w19 from hw19]
        rw [hw19] at hx1 hx2 hx3 B9
        replace B9 : Bk w19 gb [.bool s6, .slice x6 n6 c6, .slice y6 m6 d6] _ := B9
        have HQ := hid (show QnT (12 * L + 17) w19 ⟨s6, x6, n6, c6, f6, y6, m6, d6, g6⟩ (x + ((3 : Int) : Rat) * yy) from QnT.kp ⟨hm6, hn6, hv6⟩ hx2)
        replace HBr := hid (HBr.out.trans (hx1.mono HBr.out.size)); replace HG := hid (HG.out.below hx1)
        clear hw19 ff l0 l1 l2
        refine hK.out _ _ ⟨kCb hx1 HP.out.1, kCb hx1 HP.out.2.1, kCb hx1 HP.out.2.2.1, kCb hx1 HP.out.2.2.2.1, kCb hx1 HP.out.2.2.2.2.1, kCb hx1 HP.out.2.2.2.2.2⟩ (fun hH9 => ?_)
        clear hK K
        try simp only [Act.put]
        refine wpAnyH_done (by kernel_rfl) ?_ _
        have HB9 := hid B9
        clear hx1 hx2 hx3 hH9 hS5 hHeld hbk B9 hb5 hv6 HP hlz hm6 hn6 R1 R2
        go_upto_region 6 with fail
        have c0 := HB9.out.cell (j := 0) rfl
        have c1 := HB9.out.cell (j := 1) rfl
        have c2 := HB9.out.cell (j := 2) rfl
        refine wp_region_held_drew (S := (fun w' => w'.cell? ⟨gb, 0, none⟩ = some (.bool s6) ∧ w'.cell? ⟨gb, 1, none⟩ = some (.slice x6 n6 c6) ∧ w'.cell? ⟨gb, 2, none⟩ = some (.slice y6 m6 d6))) (by kernel_rfl) ?_ (fun hHeld => ?_)
        · (refine ⟨?_, ?_, ?_⟩ <;> repeat (with_reducible first | assumption | refine kCd ?_))
        have hbd := Below.drew (Below.refl w19.heap.size w19)
        replace HBr := hid (HBr.out.trans (hbd.mono HBr.out.size)); replace HG := hid (HG.out.below hbd); replace HQ := hid (QnT.below HQ.out hbd); replace HB9 := hid (HB9.out.below hbd)
        generalize w19.drew = we at *
        clear hbd c0 c1 c2
        refine wpAnyH_take (i := 0) (v := ?_) rfl (by kernel_rfl) (by kernel_rfl) (by kernel_rfl) (fun _ _ _ h => h) (Or.inl ⟨by rfl, ?_⟩) (by assumption) ?_
        rotate_left
        (focus (intro w0 hSw; (try dsimp only at hSw); go_simp <;> with_reducible rfl))
        simp only [List.getElem_toArray, List.getElem_cons_zero, Act.put, List.setIfInBounds_toArray, List.set_cons_zero, List.set_cons_succ]
        refine wpAnyH_take (i := 1) (v := ?_) rfl (by kernel_rfl) (by kernel_rfl) (by kernel_rfl) (fun _ _ _ h => h) (Or.inl ⟨by rfl, ?_⟩) (by assumption) ?_
        rotate_left
        (focus (intro w0 hSw; (try dsimp only at hSw); go_simp <;> with_reducible rfl))
        simp only [List.getElem_toArray, List.getElem_cons_succ, List.getElem_cons_zero, Act.put, List.setIfInBounds_toArray, List.set_cons_zero, List.set_cons_succ]
        refine (show wpAnyH _ _ _ _ _ (3 + 3) _ _ _ from wpAnyH_flow (fun j v w => match j with | 2 => FN 2 ((4 : Int) : Rat) v w | 3 => FN (24 * L + 41) (bqr x yy) v w | 4 => NV4 (KB L) (bqr x yy) v w | _ => True) [(2, 28), (3, 29), (4, 30)] [2, 3, 4] [5, 6, 7] _ _ _ 3 ?k1 ?k4 ?k2 ?k3 ?k5 ?k6 ?k8)
        case k1 => kernel_rfl
        case k4 => kernel_rfl
        case k2 => exact fun w w' h hb => ⟨kCb hb h.1, kCb hb h.2.1, kCb hb h.2.2⟩
        case k3 =>
          intro j v w w' h hb
          split at h <;> first | exact FN.below h hb | exact NV4.below h hb | exact h | trivial
        case k8 => exact hHeld
        case k5 =>
          intro i hi
          simp only [List.mem_cons, List.not_mem_nil, or_false] at hi
          rcases hi with rfl | rfl | rfl
          · refine ⟨_, rfl, fun u w5 hS hb5 hd K hK => ?_⟩
            simp only [fill, List.foldl_cons, List.foldl_nil, Act.put, List.setIfInBounds_toArray, List.set_cons_zero, List.set_cons_succ] at hK ⊢
            go_simp
            go_at_call 48
            refine (qInt_c (z := 4) (by decide) (by decide)).mono ?_
            rintro e w6 ⟨sq, zp, nq9, cp, dp, zq, mq9, cq, gq, rfl, hb6, hq1, hq2, hq⟩
            (try go_wp2_with fail)
            exact hK.out _ _ hb6 ⟨⟨sq, zp, nq9, cp, dp, zq, mq9, cq, gq⟩, rfl, hq1, hq2, hq⟩
          · refine ⟨_, rfl, fun u w5 hS hb5 hd K hK => ?_⟩
            have h2 : FN 2 ((4 : Int) : Rat) (u 2) w5 := hd 2 (by kernel_rfl) (by kernel_rfl)
            obtain ⟨⟨sa2, xa2, na2, ca2, fa2, ya2, ma2, da2, ga2⟩, e2, hm2, hn2, hv2⟩ := h2
            replace e2 : u 2 = .agg #[.bool sa2, .slice xa2 na2 ca2, .slice ya2 ma2 da2] := e2
            replace hm2 : na2 ≤ _ := hm2
            replace hn2 : ma2 ≤ _ := hn2
            replace hv2 : Qn w5 sa2 xa2 na2 fa2 ya2 ma2 ga2 _ := hv2
            obtain ⟨hm7, hn7, hv7⟩ := HQ.out
            replace hm7 : n6 ≤ 12 * L + 17 := hm7
            replace hn7 : m6 ≤ 12 * L + 17 := hn7
            replace hv7 : Qn we s6 x6 n6 f6 y6 m6 g6 (x + ((3 : Int) : Rat) * yy) := hv7
            simp only [fill, List.foldl_cons, List.foldl_nil, Act.put, List.setIfInBounds_toArray, List.set_cons_zero, List.set_cons_succ] at hK ⊢
            simp only [e2] at hK ⊢
            go_simp
            go_at_call 49
            refine (qQuo_c (hv7.below hb5) hv2 (by omega) (by omega) (by omega) (by omega) (by decide)).mono ?_
            rintro e w6 ⟨sq, zp, nq9, cp, dp, zq, mq9, cq, gq, rfl, hb6, hq1, hq2, hq⟩
            (try go_wp2_with fail)
            exact hK.out _ _ hb6 ⟨⟨sq, zp, nq9, cp, dp, zq, mq9, cq, gq⟩, rfl, Nat.le_trans hq1 (by omega), Nat.le_trans hq2 (by omega), hq⟩
          · refine ⟨_, rfl, fun u w5 hS hb5 hd K hK => ?_⟩
            have h3 : FN (24 * L + 41) (bqr x yy) (u 3) w5 := hd 3 (by kernel_rfl) (by kernel_rfl)
            obtain ⟨⟨sa3, xa3, na3, ca3, fa3, ya3, ma3, da3, ga3⟩, e3, hm3, hn3, hv3⟩ := h3
            replace e3 : u 3 = .agg #[.bool sa3, .slice xa3 na3 ca3, .slice ya3 ma3 da3] := e3
            replace hm3 : na3 ≤ _ := hm3
            replace hn3 : ma3 ≤ _ := hn3
            replace hv3 : Qn w5 sa3 xa3 na3 fa3 ya3 ma3 ga3 _ := hv3
            simp only [fill, List.foldl_cons, List.foldl_nil, Act.put, List.setIfInBounds_toArray, List.set_cons_zero, List.set_cons_succ] at hK ⊢
            simp only [e3] at hK ⊢
            go_simp
            go_at_call 37
            refine (qToR_c hv3 (by omega) (by omega)).mono ?_
            rintro e w6 ⟨zp, nq9, cp, dp, zq, mq9, cq, gq, rfl, hb6, hq⟩
            (try go_wp2_with fail)
            exact hK.out _ _ hb6 ⟨⟨_, zp, nq9, cp, dp, zq, mq9, cq, gq⟩, rfl, hq.out.mono (by unfold KB; omega)⟩
        case k6 =>
          intro u w6 hS6 hb6 hg
          have h4 : NV4 (KB L) (bqr x yy) (u 4) w6 := hg 4 (by simp)
          obtain ⟨⟨s7, x7, n7, c7, f7, y7, m7, d7, g7⟩, e4, hq7⟩ := h4
          replace e4 : u 4 = .agg #[.bool s7, .slice x7 n7 c7, .slice y7 m7 d7] := e4
          replace hq7 : Rn (KB L) w6 s7 x7 n7 c7 f7 y7 m7 d7 g7 (bqr x yy) := hq7
          clear hg
          simp only [fill, List.foldl_cons, List.foldl_nil, Act.put, List.setIfInBounds_toArray, List.set_cons_zero, List.set_cons_succ]
          simp only [e4]
          clear e4
          have HB6 := hid (HBr.out.trans (hb6.mono HBr.out.size))
          replace HG := hid (HG.out.below hb6)
          replace HB9 := hid (HB9.out.below hb6)
          refine wpAnyH_ready (rs := [5]) (by kernel_rfl) (by simp) ?_
          refine AllReadyH.cons (o := _) rfl (fun K hK => ?_) ?_
          rotate_left
          exact AllReadyH.nil
          go_simp
          refine hK.out _ _ ?_ (fun hH7 => ?_)
          · have hn := below_alloc (Below.refl w6.heap.size w6) (.cells #[.bool s7, .slice x7 n7 c7, .slice y7 m7 d7] 24)
            exact ⟨kCb hn hS6.1, kCb hn hS6.2.1, kCb hn hS6.2.2⟩
          clear hK K
          try simp only [Act.put, List.setIfInBounds_toArray, List.set_cons_zero, List.set_cons_succ]
          refine wpAnyH_ready (rs := [6]) (by kernel_rfl) (by simp) ?_
          refine AllReadyH.cons (o := _) rfl (fun K hK => ?_) ?_
          rotate_left
          exact AllReadyH.nil
          obtain ⟨T9, hrow, hT⟩ := HG.out
          have hli : ((btw xs ys).take i).length = i := by rw [List.length_take, btw_len (by omega)]; omega
          rw [hli] at hrow
          refine step_append_one w6 rfl (.tmp 26) (.tmp 31) 29 rfl w.heap.size 24 56 3 (.agg #[.bool false, .slice none 0 0, .slice none 0 0]) Tryz.underlying29 Tryz.infoRat rfl (by decide) nz3 u5 i _ rfl hrow #[.bool s7, .slice x7 n7 c7, .slice y7 m7 d7] rfl rfl (one3 _ _ _ _ _ _ _) (not3 _ _ _ _ _ _ _) (by omega) (by decide) HB6.out.size ?_
          intro g8 cap8 w8 hr8 hk8 hb8 hg8
          have HB8 : Hid (Below w.heap.size w w8) := hb8 w HB6.out (Nat.le_refl _)
          have hown : u5.ownBlock ≠ some gb := HOwn.out gb hge
          have hB8 := hg8 gb HB9.out.lt hown
          have HG8 : Hid (Gr (KB L) w.heap.size w8 (.slice (some ⟨g8, 0, none⟩) (i + 1) cap8) ((btw xs ys).take (i + 1))) := by
            have hp8 := gr_push (p := (btw xs ys).take i) hT (by rw [hli]; exact hr8) hk8 hq7
            rw [hli] at hp8
            have e9 : (btw xs ys)[i]? = some (bqr x yy) := by
              rw [btw_get, HXi.out, HDi.out]; rfl
            rw [List.take_add_one, e9]; exact hp8
          have B8 := HB9.out.of hB8
          refine hK.out _ _ ⟨B8.cell (j := 0) rfl, B8.cell (j := 1) rfl, B8.cell (j := 2) rfl⟩ (fun hH8 => ?_)
          clear hK K B8 hB8 hown
          try simp only [Act.put, List.setIfInBounds_toArray]
          clear hr8 hk8 hb8 hg8 hrow hT hb6 hq7 HG HB6 hS6 hH7 HB9 HQ
          refine wpAnyH_take (i := 7) (v := ?_) rfl (by kernel_rfl) (by kernel_rfl) (by kernel_rfl) (fun _ _ _ h => h) (Or.inl ⟨by rfl, ?_⟩) (by assumption) ?_
          rotate_left
          (focus (intro w0 hSw; (try dsimp only at hSw); go_simp <;> with_reducible rfl))
          simp only [List.getElem_toArray, List.getElem_cons_succ, List.getElem_cons_zero, Act.put, List.setIfInBounds_toArray, List.set_cons_zero, List.set_cons_succ]
          refine wpAnyH_done (by kernel_rfl) ?_ _
          clear hHeld hH8 HXi HDi
          go_wp2
          go_roundw
          case rel => exact ⟨i + 1, by omega, by go_num, HB8.out, HG8.out⟩
          case measure => simp [intOf]; omega
    · have e1 : i = k := by omega
      have i4' : ¬ (((i : Nat) : Int) < ((k : Nat) : Int)) := by omega
      have hla : (btw xs ys).length = k := (btw_len (by omega)).trans l1
      obtain ⟨va, vc, hvs, hvc⟩ := HG.out.slice
      rw [List.take_of_length_le (by omega)] at hvs hvc
      rw [hla] at hvs hvc
      have HG4 := HG.out
      rw [hvs] at HG4
      replace HG4 := hid (show Rf (KB L) wr va (btw xs ys) by have := HG4.rf; rw [List.take_of_length_le (by omega)] at this; exact this)
      subst hvs
      have HV4 := hid hvc
      clear HG e1 hvc hla
      go_wp2
      go_ret
      exact ⟨va, vc, rfl, HBr.out, HV4.out, HG4.out⟩
end Go.Proofs.YtngakajgkklncaaGreat
namespace Go.Proofs.YtngakajgkklncaaGreat
open Go.RowKit

theorem Tm.valL {w M M'} (L : Nat) (hL : 6 ≤ L) (h : Tm w M M') (hN : MoN M) (he : chkE M = 0) : MoV L w M' (nq M.off) (csOf M) (rsOf M) ∧ mvOk (csOf M) (rsOf M) = true := by
  obtain ⟨s, hw, hx, hk⟩ := h
  have he' : chkE M' = 0 := s.chk.trans he
  obtain ⟨l1, l2, _⟩ := chkE_ok he'
  have k6 := hk l1 l2
  have := (hx.mor (s.mon hN) k6 (by decide) l1 l2).movC (k6.up hL) he'
  rw [s.csOf, s.rsOf, s.off.nq] at this
  exact this
theorem tw_hvL {w ao k X X' M M'} (L : Nat) (hL : 6 ≤ L) (h : Tm w M M') (hN : MoN M) (hx : Tx w ao k X X') (hs : Sh k X) (he : pckE M k X = 0) : MoV L w M' (nq M.off) (csOf M) (rsOf M) ∧ mvOk (csOf M) (rsOf M) = true ∧ Rf L w ao (psOf k X) ∧ (psOf k X).length = k ∧ k = (csOf M).length := by
  obtain ⟨h1, h2, h3⟩ := pckE_two he
  obtain ⟨a, b⟩ := h.valL L hL hN h1
  exact ⟨a, b, (hx.val hs h2).mono hL, psOf_len _ _, by rw [csOf_len]; exact h3⟩
theorem feasTw_c {w : World} {M M' : Mo} {ao : Option Addr} {k cap : Nat} {X X' : Nat → Nm} (h : Tm w M M') (hN : MoN M) (hx : Tx w ao k X X') (hs : Sh k X) :
    Calls Tryz.prog 17 #[M'.val, .slice ao k cap] w fun e w' => e = .returned (.tuple #[.bool (decide (pckE M k X = 0) && feasB (csOf M) (rsOf M) (psOf k X)), .int .i64 (pckE M k X)]) ∧ Below w.heap.size w w' :=
  pFeas_v h.2.1 hx.1 (by have := hs.1; omega) (pckE_tw h hx) (fun he => tw_hvL 20 (by decide) h hN hx hs he) (by decide)
/-- Numbers along a direction. -/
def Sv (w : World) (ao : Option Addr) (k : Nat) (ss : List Rat) : Prop := Rf 20 w ao ss ∧ ss.length = k
theorem Sv.below {w w' ao k ss} (h : Sv w ao k ss) (hb : Below w.heap.size w w') : Sv w' ao k ss := ⟨h.1.below hb, h.2⟩
theorem Sv.rl {w ao k ss} (h : Sv w ao k ss) : ∃ S, Rl w ao k S ∧ afB k S = true := by
  obtain ⟨S, h3, h4⟩ := rf_rl h.1 (by omega)
  rw [h.2] at h3 h4
  exact ⟨S, h3, h4⟩
theorem feasSv_c {w : World} {M M' : Mo} {ao : Option Addr} {k cap : Nat} {ss : List Rat} (h : Tm w M M') (hN : MoN M) (h0 : chkE M = 0) (hk : k = M.ck) (hx : Sv w ao k ss) :
    Calls Tryz.prog 17 #[M'.val, .slice ao k cap] w fun e w' => e = .returned (.tuple #[.bool (feasB (csOf M) (rsOf M) ss), .int .i64 0]) ∧ Below w.heap.size w w' := by
  obtain ⟨a, b⟩ := h.valL 20 (by decide) hN h0
  obtain ⟨S, h3, h4⟩ := hx.rl
  have hl := chkE_ok h0
  have c0 : chkE M' = 0 := h.1.chk.trans h0
  refine (pFeas_v h.2.1 h3 (by have := hl.1; omega) (pckE_ok c0 h4 (by rw [h.1.ck]; exact hk)) (fun _ => ⟨a, b, hx.1, hx.2, by rw [csOf_len]; exact hk⟩) (by decide)).mono ?_
  rintro e w' ⟨rfl, hb⟩
  exact ⟨by rw [decide_eq_true rfl, Bool.true_and], hb⟩
theorem valueSv_c {w : World} {M M' : Mo} {ao : Option Addr} {k cap : Nat} {ss : List Rat} (h : Tm w M M') (hN : MoN M) (h0 : chkE M = 0) (hk : k = M.ck) (hx : Sv w ao k ss) :
    Calls Tryz.prog 14 #[M'.val, .slice ao k cap] w fun e w' => ∃ s x n c f y m d g, e = .returned (.tuple #[.agg #[.bool s, .slice x n c, .slice y m d], .int .i64 0]) ∧ Below w.heap.size w w' ∧ Hid (Rn (KV 20) w' s x n c f y m d g (valQ (nq M.off) (csOf M) ss)) := by
  obtain ⟨a, b⟩ := h.valL 20 (by decide) hN h0
  obtain ⟨S, h3, h4⟩ := hx.rl
  have hl := chkE_ok h0
  have c0 : chkE M' = 0 := h.1.chk.trans h0
  refine (pValue_v h.2.1 h3 (by have := hl.1; omega) (pckE_ok c0 h4 (by rw [h.1.ck]; exact hk)) (fun _ => ⟨a, b, hx.1, hx.2, by rw [csOf_len]; exact hk⟩) (by decide)).mono ?_
  rintro e w' ⟨hb, ⟨h9, _⟩ | ⟨_, s, x, n, c, f, y, m, d, g, rfl, hr⟩⟩
  · exact absurd rfl h9
  · exact ⟨s, x, n, c, f, y, m, d, g, rfl, hb, hid hr⟩
end Go.Proofs.YtngakajgkklncaaGreat
namespace Go.Proofs.YtngakajgkklncaaGreat
open Go.RowKit

theorem lo_three : Lo 1 (3 : Rat) := by constructor <;> decide +kernel
theorem lo_quart : Lo 1 (1 / 4 : Rat) := by constructor <;> decide +kernel
theorem lo_bqr {x y : Rat} (h1 : Lo 6 x) (h2 : Lo 6 y) : Lo 20 (bqr x y) := by
  have h := lo_mul (lo_add h1 (lo_mul lo_three h2)) lo_quart
  rw [show bqr x y = (x + 3 * y) * (1 / 4) from by unfold bqr; grind]
  exact Lo.mono h (by decide)
theorem btw_lo {xs ys : List Rat} (h1 : ∀ q, q ∈ xs → Lo 6 q) (h2 : ∀ q, q ∈ ys → Lo 6 q) : ∀ q, q ∈ btw xs ys → Lo 20 q := fun q hq => by
  obtain ⟨j, hj⟩ := List.getElem?_of_mem hq
  rw [btw_get] at hj
  cases e1 : xs[j]? with
  | none => rw [e1] at hj; cases hj
  | some x =>
    cases e2 : ys[j]? with
    | none => rw [e1, e2] at hj; cases hj
    | some y =>
      rw [e1, e2] at hj
      simp only [Option.bind_some, Option.map_some, Option.some.injEq] at hj
      rw [← hj]
      exact lo_bqr (h1 x (List.mem_of_getElem? e1)) (h2 y (List.mem_of_getElem? e2))
theorem twinT10_c {w : World} {M : Mo} (hX : MoX w M) (hN : MoN M) (hk : M.ck ≤ 64 → M.rk ≤ 64 → MoK 6 M) : Calls Tryz.prog 10 #[M.val] w fun e w' => ∃ (vm : Value) (M' : Mo), e = .returned vm ∧ Below w.heap.size w w' ∧ Hid (vm = M'.val ∧ Tm w' M M') :=
  (twin_w (K := 6) hX hN hk (by decide)).mono fun e w' ⟨M', h1, h2, h3, h4, h5, h6⟩ => ⟨M'.val, M', h1, h2, hid ⟨rfl, h3, h4, h5, h6⟩⟩
theorem tx_self {w ao k X} (h : Rl w ao k X) : Tx w ao k X X := ⟨h, fun _ _ => ⟨rfl, rfl, rfl, rfl, rfl⟩⟩
theorem betweenTx_c {w : World} {ax : Option Addr} {k cx : Nat} {Y : Nat → Nm} {ao : Option Addr} {co : Nat} {X : Nat → Nm} (hy : Rl w ax k Y) (sy : Sh k Y) (fy : afB k Y = true) (hx : Rl w ao k X) (sx : Sh k X) (fx : afB k X = true) :
    Calls Tryz.prog 22 #[.slice ax k cx, .slice ao k co] w fun e w' => ∃ a c, e = .returned (.slice a k c) ∧ Below w.heap.size w w' ∧ Hid (Sv w' a k (btw (psOf k Y) (psOf k X))) := by
  have r1 := (tx_self hy).val sy fy; have r2 := (tx_self hx).val sx fx
  refine (between_c r1 (psOf_len _ _) r2 (psOf_len _ _) (by have := sy.1; omega) (by decide)).mono ?_
  rintro e w' ⟨a, c, rfl, hb, _, hr⟩
  exact ⟨a, c, rfl, hb, hid ⟨hr.out.cut (btw_lo r1.loM r2.loM), (btw_len (by rw [psOf_len, psOf_len])).trans (psOf_len _ _)⟩⟩
theorem valueT6_c {w : World} {M M' : Mo} {ao : Option Addr} {k cap : Nat} {X : Nat → Nm} (h : Tm w M M') (hN : MoN M) (hx : Rl w ao k X) (hs : Sh k X) (h0 : pckE M k X = 0) :
    Calls Tryz.prog 14 #[M'.val, .slice ao k cap] w fun e w' => ∃ s x n c f y m d g, e = .returned (.tuple #[.agg #[.bool s, .slice x n c, .slice y m d], .int .i64 0]) ∧ Below w.heap.size w w' ∧ Hid (Rn (KV 6) w' s x n c f y m d g (valQ (nq M.off) (csOf M) (psOf k X))) := by
  refine (pValue_v h.2.1 hx (by have := hs.1; omega) ((pckE_tw h (tx_self hx)).trans h0) (fun _ => tw_hvL 6 (by decide) h hN (tx_self hx) hs h0) (by decide)).mono ?_
  rintro e w' ⟨hb, ⟨h9, _⟩ | ⟨_, s, x, n, c, f, y, m, d, g, rfl, hr⟩⟩
  · exact absurd rfl h9
  · exact ⟨s, x, n, c, f, y, m, d, g, rfl, hb, hid hr⟩
theorem actsT6_c {w : World} {M M' : Mo} {ao : Option Addr} {k cap : Nat} {X : Nat → Nm} (h : Tm w M M') (hN : MoN M) (hx : Rl w ao k X) (hs : Sh k X) (h0 : pckE M k X = 0) :
    Calls Tryz.prog 9 #[M'.val, .slice ao k cap] w fun e w' => ∃ a c, e = .returned (.tuple #[.slice a (rsOf M).length c, .int .i64 0]) ∧ Below w.heap.size w w' ∧ Hid (Rf (KA 6) w' a ((rsOf M).map (actQ (psOf k X)))) := by
  refine (pActs_v h.2.1 hx (by have := hs.1; omega) ((pckE_tw h (tx_self hx)).trans h0) (fun _ => tw_hvL 6 (by decide) h hN (tx_self hx) hs h0) (by decide)).mono ?_
  rintro e w' ⟨hb, ⟨h9, _⟩ | ⟨_, a, c, rfl, _, hr⟩⟩
  · exact absurd rfl h9
  · exact ⟨a, c, rfl, hb, hid hr⟩
theorem actsSv_c {w : World} {M M' : Mo} {ao : Option Addr} {k cap : Nat} {ss : List Rat} (h : Tm w M M') (hN : MoN M) (h0 : chkE M = 0) (hk : k = M.ck) (hx : Sv w ao k ss) :
    Calls Tryz.prog 9 #[M'.val, .slice ao k cap] w fun e w' => ∃ a c, e = .returned (.tuple #[.slice a (rsOf M).length c, .int .i64 0]) ∧ Below w.heap.size w w' ∧ Hid (Rf (KA 20) w' a ((rsOf M).map (actQ ss))) := by
  obtain ⟨a, b⟩ := h.valL 20 (by decide) hN h0
  obtain ⟨S, h3, h4⟩ := hx.rl
  have hl := chkE_ok h0
  have c0 : chkE M' = 0 := h.1.chk.trans h0
  refine (pActs_v h.2.1 h3 (by have := hl.1; omega) (pckE_ok c0 h4 (by rw [h.1.ck]; exact hk)) (fun _ => ⟨a, b, hx.1, hx.2, by rw [csOf_len]; exact hk⟩) (by decide)).mono ?_
  rintro e w' ⟨hb, ⟨h9, _⟩ | ⟨_, a, c, rfl, _, hr⟩⟩
  · exact absurd rfl h9
  · exact ⟨a, c, rfl, hb, hid hr⟩
/-- A list of one number. -/
def G1 (K : Nat) (q : Rat) (v : Value) (w : World) : Prop := ∃ b, v = .slice (some ⟨b, 0, none⟩) 1 1 ∧ Rf K w (some ⟨b, 0, none⟩) [q]
theorem G1.below {K q v w w'} (h : G1 K q v w) (hb : Below w.heap.size w w') : G1 K q v w' := by obtain ⟨b, h1, h2⟩ := h; exact ⟨b, h1, h2.below hb⟩
def G4 (K : Nat) (q : Rat) (v : Value) (w : World) : Prop := ∃ a c, v = .slice a 1 c ∧ Rf K w a [q]
theorem G4.below {K q v w w'} (h : G4 K q v w) (hb : Below w.heap.size w w') : G4 K q v w' := by obtain ⟨a, c, h1, h2⟩ := h; exact ⟨a, c, h1, h2.below hb⟩
def GT9 (v : Value) (_ : World) : Prop := v = .bool true
theorem GT9.below {v w w'} (h : GT9 v w) (_ : Below w.heap.size w w') : GT9 v w' := h
end Go.Proofs.YtngakajgkklncaaGreat
