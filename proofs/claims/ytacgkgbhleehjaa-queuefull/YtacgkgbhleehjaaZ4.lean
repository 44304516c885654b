/-
  The walk of the statement QueueDrains.
-/
import Derived.Test.YtacgkgbhleehjaaZ3
namespace Go.Proofs.Ytacgkgbhleehjaa
open Go.RowKit Go.Sort Go.MapKept

theorem push_ok {l : List (Int × Int)} {id : Int} (key : Int) (h : pushE l id = 0) : (pushL l id key).length = l.length + 1 := by
  unfold pushE at h
  unfold pushL
  by_cases h1 : hasL l id = true
  · simp [h1] at h
  · by_cases h2 : 4096 ≤ l.length
    · simp [h1, h2] at h
    · simp [h1, h2, len_insL]
theorem push_no {l : List (Int × Int)} {id : Int} (key : Int) (h : pushE l id ≠ 0) : pushL l id key = l := by
  unfold pushE at h
  unfold pushL
  by_cases h1 : hasL l id = true
  · simp [h1]
  · by_cases h2 : 4096 ≤ l.length
    · simp [h1, h2]
    · simp [h1, h2] at h
theorem rem_ok {w q F l} (hq : Ql w q F l) {id : Int} (h : fixE l id = 0) : (remL l id).length + 1 = l.length := by
  unfold fixE at h
  by_cases h1 : hasL l id = true
  · rw [show remL l id = delL l id by simp [remL, h1]]
    exact hq.len_del (hasL_iff.1 h1)
  · simp [h1] at h
theorem rem_no {l : List (Int × Int)} {id : Int} (h : fixE l id ≠ 0) : remL l id = l := by
  unfold fixE at h
  by_cases h1 : hasL l id = true
  · simp [h1] at h
  · simp [remL, h1]
theorem neq_item (a b c d : Int) (w : World) : (binOp .neq 40 (.agg #[.int .i64 a, .int .i64 b]) (.agg #[.int .i64 c, .int .i64 d])).run Try.prog w = .ok (.bool (!(a == c && b == d))) w := by
  have u3 := Try.underlying3
  have a3 := Try.isAgg3
  have z3 := Try.sizeOf3
  have hS : Try.prog.underlying 40 = some (.struct (Try.prog.fieldsOf 40)) := by kernel_rfl
  have hp : Try.prog.stoodInHeld 40 = false := by kernel_rfl
  rw [run_neq_struct, show (10000 : Nat) = 9999 + 1 from rfl, run_equalIn_agg w 9999 40 _ _ hS hp]
  simp only [Program.fieldsOf, Try.underlying40]
  go_simp
  by_cases h1 : a = c <;> by_cases h2 : b = d <;> simp [h1, h2]
/-- A queue that the call itself made, with as many items as were counted. -/
def Qp (w0 w : World) (q i n : Nat) : Prop := ∃ F l, Qb w0 w q F l ∧ l.length = n ∧ n ≤ i
/-- The items that were told, and the queue that still has those from place i on. -/
def Qd (w0 w : World) (q : Nat) (L : List (Int × Int)) (i : Nat) (v : Value) : Prop := ∃ F, Qb w0 w q F (L.drop i) ∧ Rr w v L ∧ ∀ k, Vb v k → k < w.heap.size ∧ ¬ F k
--DRAINS
theorem ql_tail {w q F} {x : Int × Int} {r : List (Int × Int)} (h : Ql w q F (x :: r)) : hasL r x.1 = false := by
  cases hb : hasL r x.1 with
  | false => rfl
  | true =>
    obtain ⟨key, hk⟩ := hasL_iff.1 hb
    have := h.uniq (List.mem_cons_of_mem _ hk) (List.mem_cons_self ..) rfl
    rw [this] at hk
    exact absurd ((List.pairwise_cons.1 h.ord).1 x hk) (ahd_irrefl _)
theorem ord_at {l : List (Int × Int)} (h : l.Pairwise ahd) {i j : Nat} (hij : i < j) (hj : j < l.length) : ahd (atL l i) (atL l j) := by
  have := (List.pairwise_iff_getElem.1 h) i j (by omega) hj hij
  have e1 := atL_get (show i < l.length by omega)
  have e2 := atL_get hj
  rw [List.getElem?_eq_getElem (by omega)] at e1 e2
  rw [← Option.some.inj e1, ← Option.some.inj e2]
  exact this
theorem it_qd {w0 w w' : World} {q : Nat} {F : Nat → Prop} {l : List (Int × Int)} {ao : Option Addr} {cap : Nat} (hQ : Qb w0 w q F l) (hc : l.length ≤ cap) (ht : cap ≤ 9223372036854775807) (hb : Below w.heap.size w w') (hi : (ao = none ∧ l = [] ∧ cap = 0) ∨ ∃ g, ao = some ⟨g, 0, none⟩ ∧ w.heap.size ≤ g ∧ Ro w' g cap l.length (atL l)) : Qd w0 w' q l 0 (.slice ao l.length cap) := by
  refine ⟨F, by rw [List.drop_zero]; exact hQ.below hb, ⟨ao, cap, rfl, it_rl hi, fun e => ?_, hc, ht⟩, ?_⟩
  · rcases hi with ⟨_, rfl, rfl⟩ | ⟨g, rfl, _⟩
    · exact ⟨rfl, rfl⟩
    · cases e
  · rintro k ⟨ao', n', c', e, a, ha, hk⟩
    cases e
    rcases hi with ⟨rfl, _, _⟩ | ⟨g, rfl, hg, hr⟩
    · cases ha
    · cases ha
      obtain ⟨cur, hbk, _⟩ := hr.blk
      subst hk
      refine ⟨(Array.getElem?_eq_some_iff.1 hbk).1, fun e => ?_⟩
      have h1 := hQ.ql.qu.lt _ e
      have h2 : w.heap.size ≤ g := hg
      have h3 : g < w.heap.size := h1
      omega
theorem Qd.below {w0 w w' : World} {q i : Nat} {L : List (Int × Int)} {v : Value} (h : Qd w0 w q L i v) (hb : Below w.heap.size w w') : Qd w0 w' q L i v := by
  obtain ⟨F, h1, h2, h3⟩ := h
  exact ⟨F, h1.below hb, h2.below hb, fun k hk => ⟨Nat.lt_of_lt_of_le (h3 k hk).1 hb.size, (h3 k hk).2⟩⟩
theorem Qd.has {w0 w : World} {q i : Nat} {L : List (Int × Int)} {v : Value} (h : Qd w0 w q L i v) {id : Int} {b : Bool} (he : hasL (L.drop i) id = b) : Calls Try.prog 15 #[.pointer (some ⟨q, 0, none⟩), .int .i64 id] w fun r w' => r = .returned (.bool b) ∧ w' = w := by
  obtain ⟨F, h1, _⟩ := h
  exact has_i h1.ql he
theorem qd_next {w0 W w6 : World} {q j B : Nat} {F : Nat → Prop} {L : List (Int × Int)} {v : Value} {x : Int × Int} {o : Obj} (hQ : Qb w0 W q F (x :: L.drop (j + 1))) (hR : Rr W v L) (hV : ∀ k, Vb v k → k < W.heap.size ∧ ¬ F k) (hk : W.heap[B]? = some o) (hB : B < W.heap.size) (hF : ¬ F B) (hq : QlA W q F (L.drop (j + 1)) w6) : w6.heap[B]? = some o ∧ Qd w0 w6 q L (j + 1) v := by
  obtain ⟨F6, h6, t6, n6⟩ := hQ.step hq
  refine ⟨(t6.block B hB hF).trans hk, F6, h6, rr_tn hR hV t6, fun k hk => ⟨Nat.lt_of_lt_of_le (hV k hk).1 t6.size, fun e => ?_⟩⟩
  rcases n6 k e with e | e
  · exact (hV k hk).2 e
  · have := (hV k hk).1; omega
theorem has_head (x : Int × Int) (r : List (Int × Int)) : hasL (x :: r) x.1 = true := by simp [hasL]
set_option maxRecDepth 100000 in
set_option maxHeartbeats 8000000 in
theorem drains_c (ao : Option Addr) (k c : Nat) (X : Nat → Op3) (w : World) (ho : Ops w ao k X) (_ : k ≤ c ∧ c ≤ 9223372036854775807) : Calls Try.prog 4 #[.slice ao k c] w fun e w' => e = .returned (.bool true) ∧ Below w.heap.size w w' := by
  have HO := hid ho
  clear ho
  by_cases hk : 3000 < k
  · have hk' : decide ((3000 : Int) < k) = true := decide_eq_true (by omega)
    go_enter Try.func4, Try.ntmps4
    go_wp2_with (go_at_call 7; refine (awake_c _).mono ?_; rintro e w1 ⟨rfl, hb1⟩)
    go_ret
    exact ⟨rfl, hb1⟩
  · have hk' : decide ((3000 : Int) < k) = false := decide_eq_false (by omega)
    go_enter Try.func4, Try.ntmps4
    go_wp2_with fail
    refine (awake_c _).mono ?_
    rintro e w1 ⟨rfl, hb1⟩
    have HB1 := hid hb1
    clear hb1
    go_wp2_with fail
    refine (new_c _).mono ?_
    rintro e w2 ⟨rfl, rfl⟩
    have hal : Below w1.heap.size w1 (w1.alloc (.cells #[.slice none 0 0, .map none] 50)) := (Below.refl _ _).alloc (Nat.le_refl _) _
    have hQ : Qb w (w1.alloc (.cells #[.slice none 0 0, .map none] 50)) w1.heap.size (fun k => k = w1.heap.size) [] := ⟨ql_new w1, HB1.out.trans (hal.mono HB1.out.size), fun k e => by have := HB1.out.size; omega⟩
    have HQ0 := hid (show Qp w _ w1.heap.size 0 0 from ⟨_, [], hQ, rfl, Nat.le_refl _⟩)
    clear hal hQ HB1
    generalize w1.alloc (.cells #[.slice none 0 0, .map none] 50) = w2 at *
    generalize w1.heap.size = q at *
    go_wp2_with fail
    go_loopw [4, 24] (fun pv t wr => ∃ (i n : Nat), i ≤ k ∧ t = .int .i64 i ∧ pv = .int .i64 n ∧ Hid (Qp w wr q i n)) (fun _ t _ => k - (intOf t).toNat)
    case atStart => exact ⟨0, 0, by omega, rfl, rfl, HQ0⟩
    case round =>
      clear HQ0
      obtain ⟨i, n, hi, rfl, rfl, HQ⟩ := hrel
      by_cases hlt : i < k
      · have hlt' : (i : Int) < k := by omega
        obtain ⟨F, l, hQ, hln, hni⟩ := HQ.out
        obtain ⟨b, o, rfl, c0, c1, c2⟩ := (HO.out.below hQ.bel) i hlt
        rw [show o + (i * 3 + 1) = o + i * 3 + 1 by omega] at c1
        rw [show o + (i * 3 + 2) = o + i * 3 + 2 by omega] at c2
        generalize (X i).kind = kd at *
        generalize (X i).id = id' at *
        generalize (X i).key = ky at *
        have hal : Below wr.heap.size wr (wr.alloc (.cells #[.int .i64 kd, .int .i64 id', .int .i64 ky] 28)) := (Below.refl _ _).alloc (Nat.le_refl _) _
        have HQ3 := hid (hQ.below hal)
        have HPu := hid (lpush_c HQ3.out.ql id' ky)
        have bx := (heap_alloc wr (.cells #[.int .i64 kd, .int .i64 id', .int .i64 ky] 28)).1
        have hBs : wr.heap.size < (wr.alloc (.cells #[.int .i64 kd, .int .i64 id', .int .i64 ky] 28)).heap.size := by simp
        have hBF : ¬ F wr.heap.size := fun e => by have := hQ.ql.qu.lt _ e; omega
        have HLn := hid hln
        clear hal hQ hln HQ
        by_cases hpe : pushE l id' = 0
        · by_cases hkd : kd = 4
          · by_cases hfe : fixE (pushL l id' ky) id' = 0
            · have HL4 := hid (show (pushL l id' ky).length = n + 1 from by rw [push_ok ky hpe, HLn.out])
              generalize pushE l id' = pe at *
              have hpe' : (pe == 0) = true := by simp [hpe]
              subst hkd
              have HL5 := hid (fun (W : World) (G : Nat → Prop) (hh : Ql W q G (pushL l id' ky)) => rem_ok hh hfe)
              generalize hfx : fixE (pushL l id' ky) id' = fe at *
              have HFX := hid hfx
              have hfe' : (fe == 0) = true := by simp [hfe]
              clear hfx
              clear hpe hfe
              have hn0 : (0 : Int) ≤ n := by omega
              go_wp2_with (first
                | (go_at_call 13; refine HPu.out.mono ?_; rintro e w4 ⟨rfl, hq4⟩; obtain ⟨F4, hQ4, ht4, hF4⟩ := HQ3.out.step hq4; have HQ4 := hid hQ4; have hk4 := (ht4.block wr.heap.size hBs hBF).trans bx; have C0 := (cells3 hk4).1; have C1 := (cells3 hk4).2.1; have C2 := (cells3 hk4).2.2; have HRe := hid (lrem_c HQ4.out.ql id'); rw [HFX.out] at HRe; clear hq4 hQ4 ht4 hF4 hk4)
                | (go_at_call 14; refine HRe.out.mono ?_; rintro e w5 ⟨rfl, hq5⟩; obtain ⟨F5, hQ5, _, _⟩ := HQ4.out.step hq5; have HQ5 := hid hQ5; clear hq5 hQ5))
              go_roundw
              case rel =>
                have h6 := HL5.out _ _ HQ4.out.ql
                have h7 := HL4.out
                exact ⟨i + 1, n + 1 - 1, by omega, by go_num, by go_num, ⟨F5, _, HQ5.out, by omega, by omega⟩⟩
              case measure => simp [intOf]; omega
            · have HL4 := hid (show (pushL l id' ky).length = n + 1 from by rw [push_ok ky hpe, HLn.out])
              generalize pushE l id' = pe at *
              have hpe' : (pe == 0) = true := by simp [hpe]
              subst hkd
              have HL5 := hid (rem_no hfe)
              generalize hfx : fixE (pushL l id' ky) id' = fe at *
              have HFX := hid hfx
              have hfe' : (fe == 0) = false := by simp [hfe]
              clear hfx
              clear hpe hfe
              have hn0 : (0 : Int) ≤ n := by omega
              go_wp2_with (first
                | (go_at_call 13; refine HPu.out.mono ?_; rintro e w4 ⟨rfl, hq4⟩; obtain ⟨F4, hQ4, ht4, hF4⟩ := HQ3.out.step hq4; have HQ4 := hid hQ4; have hk4 := (ht4.block wr.heap.size hBs hBF).trans bx; have C0 := (cells3 hk4).1; have C1 := (cells3 hk4).2.1; have C2 := (cells3 hk4).2.2; have HRe := hid (lrem_c HQ4.out.ql id'); rw [HFX.out] at HRe; clear hq4 hQ4 ht4 hF4 hk4)
                | (go_at_call 14; refine HRe.out.mono ?_; rintro e w5 ⟨rfl, hq5⟩; obtain ⟨F5, hQ5, _, _⟩ := HQ4.out.step hq5; have HQ5 := hid hQ5; clear hq5 hQ5))
              go_roundw
              case rel => exact ⟨i + 1, n + 1, by omega, by go_num, by go_num, ⟨F5, _, HQ5.out, by rw [HL5.out]; exact HL4.out, by omega⟩⟩
              case measure => simp [intOf]; omega
          · have HL4 := hid (show (pushL l id' ky).length = n + 1 from by rw [push_ok ky hpe, HLn.out])
            generalize pushE l id' = pe at *
            have hpe' : (pe == 0) = true := by simp [hpe]
            have hkd' : (kd == 4) = false := by simp [hkd]
            clear hpe
            go_wp2_with (first
              | (go_at_call 13; refine HPu.out.mono ?_; rintro e w4 ⟨rfl, hq4⟩; obtain ⟨F4, hQ4, ht4, hF4⟩ := HQ3.out.step hq4; have HQ4 := hid hQ4; have hk4 := (ht4.block wr.heap.size hBs hBF).trans bx; have C0 := (cells3 hk4).1; have C1 := (cells3 hk4).2.1; have C2 := (cells3 hk4).2.2; clear hq4 hQ4 ht4 hF4 hk4))
            go_roundw
            case rel => exact ⟨i + 1, n + 1, by omega, by go_num, by go_num, ⟨F4, _, HQ4.out, HL4.out, by omega⟩⟩
            case measure => simp [intOf]; omega
        · by_cases hkd : kd = 4
          · by_cases hfe : fixE (pushL l id' ky) id' = 0
            · have HL4 := hid (show (pushL l id' ky).length = n from by rw [push_no ky hpe, HLn.out])
              generalize pushE l id' = pe at *
              have hpe' : (pe == 0) = false := by simp [hpe]
              subst hkd
              have HL5 := hid (fun (W : World) (G : Nat → Prop) (hh : Ql W q G (pushL l id' ky)) => rem_ok hh hfe)
              generalize hfx : fixE (pushL l id' ky) id' = fe at *
              have HFX := hid hfx
              have hfe' : (fe == 0) = true := by simp [hfe]
              clear hfx
              clear hpe hfe
              have hn0 : (0 : Int) ≤ n := by omega
              go_wp2_with (first
                | (go_at_call 13; refine HPu.out.mono ?_; rintro e w4 ⟨rfl, hq4⟩; obtain ⟨F4, hQ4, ht4, hF4⟩ := HQ3.out.step hq4; have HQ4 := hid hQ4; have hk4 := (ht4.block wr.heap.size hBs hBF).trans bx; have C0 := (cells3 hk4).1; have C1 := (cells3 hk4).2.1; have C2 := (cells3 hk4).2.2; have HRe := hid (lrem_c HQ4.out.ql id'); rw [HFX.out] at HRe; clear hq4 hQ4 ht4 hF4 hk4)
                | (go_at_call 14; refine HRe.out.mono ?_; rintro e w5 ⟨rfl, hq5⟩; obtain ⟨F5, hQ5, _, _⟩ := HQ4.out.step hq5; have HQ5 := hid hQ5; clear hq5 hQ5))
              go_roundw
              case rel =>
                have h6 := HL5.out _ _ HQ4.out.ql
                have h7 := HL4.out
                exact ⟨i + 1, n - 1, by omega, by go_num, by go_num, ⟨F5, _, HQ5.out, by omega, by omega⟩⟩
              case measure => simp [intOf]; omega
            · have HL4 := hid (show (pushL l id' ky).length = n from by rw [push_no ky hpe, HLn.out])
              generalize pushE l id' = pe at *
              have hpe' : (pe == 0) = false := by simp [hpe]
              subst hkd
              have HL5 := hid (rem_no hfe)
              generalize hfx : fixE (pushL l id' ky) id' = fe at *
              have HFX := hid hfx
              have hfe' : (fe == 0) = false := by simp [hfe]
              clear hfx
              clear hpe hfe
              have hn0 : (0 : Int) ≤ n := by omega
              go_wp2_with (first
                | (go_at_call 13; refine HPu.out.mono ?_; rintro e w4 ⟨rfl, hq4⟩; obtain ⟨F4, hQ4, ht4, hF4⟩ := HQ3.out.step hq4; have HQ4 := hid hQ4; have hk4 := (ht4.block wr.heap.size hBs hBF).trans bx; have C0 := (cells3 hk4).1; have C1 := (cells3 hk4).2.1; have C2 := (cells3 hk4).2.2; have HRe := hid (lrem_c HQ4.out.ql id'); rw [HFX.out] at HRe; clear hq4 hQ4 ht4 hF4 hk4)
                | (go_at_call 14; refine HRe.out.mono ?_; rintro e w5 ⟨rfl, hq5⟩; obtain ⟨F5, hQ5, _, _⟩ := HQ4.out.step hq5; have HQ5 := hid hQ5; clear hq5 hQ5))
              go_roundw
              case rel => exact ⟨i + 1, n, by omega, by go_num, by go_num, ⟨F5, _, HQ5.out, by rw [HL5.out]; exact HL4.out, by omega⟩⟩
              case measure => simp [intOf]; omega
          · have HL4 := hid (show (pushL l id' ky).length = n from by rw [push_no ky hpe, HLn.out])
            generalize pushE l id' = pe at *
            have hpe' : (pe == 0) = false := by simp [hpe]
            have hkd' : (kd == 4) = false := by simp [hkd]
            clear hpe
            go_wp2_with (first
              | (go_at_call 13; refine HPu.out.mono ?_; rintro e w4 ⟨rfl, hq4⟩; obtain ⟨F4, hQ4, ht4, hF4⟩ := HQ3.out.step hq4; have HQ4 := hid hQ4; have hk4 := (ht4.block wr.heap.size hBs hBF).trans bx; have C0 := (cells3 hk4).1; have C1 := (cells3 hk4).2.1; have C2 := (cells3 hk4).2.2; clear hq4 hQ4 ht4 hF4 hk4))
            go_roundw
            case rel => exact ⟨i + 1, n, by omega, by go_num, by go_num, ⟨F4, _, HQ4.out, HL4.out, by omega⟩⟩
            case measure => simp [intOf]; omega
      · have hlt' : decide ((i : Int) < k) = false := decide_eq_false (by omega)
        obtain ⟨F, l, hQ, hln, hni⟩ := HQ.out
        subst hln
        have HQ1 := hid hQ
        have HIt := hid (items_c hQ.ql)
        have hll : l.length ≤ 1000000 := by omega
        have e9 : ((l.length : Int) != (l.length : Int)) = false := by simp
        clear hQ HQ HO
        go_wp2_with fail
        refine HIt.out.mono ?_
        rintro e w3 ⟨ao3, cap3, rfl, hc3, ht3, hb3, hi3⟩
        have HQ3 := hid (HQ1.out.below hb3)
        have HD0 := hid (it_qd HQ1.out hc3 ht3 hb3 hi3)
        have HOrd := hid HQ1.out.ql.ord
        clear HIt HQ1 hb3 hi3
        go_wp2_with (go_at_call 12; refine (llen_c HQ3.out.ql).mono ?_; rintro e w4 ⟨rfl, rfl⟩)
        clear HQ3
        go_loopw [64] (fun t wr => ∃ (i : Nat), i ≤ l.length ∧ t = .int .i64 i ∧ Hid (Qd w wr q l i (.slice ao3 l.length cap3))) (fun t _ => l.length - (intOf t).toNat)
        case atStart => exact ⟨0, by omega, rfl, HD0⟩
        case round =>
          clear HD0
          obtain ⟨j, hj, rfl, HD⟩ := hrel
          by_cases hlt : j < l.length
          · have hlt' : (j : Int) < l.length := by omega
            obtain ⟨F, hQ, hR, hV⟩ := HD.out
            obtain ⟨ao4, cap4, ev, hr4, _⟩ := hR
            cases ev
            obtain ⟨b, o, rfl, c0, c1⟩ := hr4 j hlt
            rw [drop_at hlt] at hQ
            have HTl := hid (ql_tail hQ.ql)
            have hal : Below wr.heap.size wr (wr.alloc (.cells #[.int .i64 (atL l j).1, .int .i64 (atL l j).2] 40)) := (Below.refl _ _).alloc (Nat.le_refl _) _
            have bx := cells_at (heap_alloc wr (.cells #[.int .i64 (atL l j).1, .int .i64 (atL l j).2] 40)).1
            have bk := (heap_alloc wr (.cells #[.int .i64 (atL l j).1, .int .i64 (atL l j).2] 40)).1
            have hBs : wr.heap.size < (wr.alloc (.cells #[.int .i64 (atL l j).1, .int .i64 (atL l j).2] 40)).heap.size := by simp
            have hBF : ¬ F wr.heap.size := fun e => by have := hQ.ql.qu.lt _ e; omega
            have HQ5 := hid (hQ.below hal)
            have HR5 := hid (show Rr (wr.alloc (.cells #[.int .i64 (atL l j).1, .int .i64 (atL l j).2] 40)) (.slice (some ⟨b, o, none⟩) l.length cap3) l from (Rr.below ⟨_, _, rfl, hr4, by assumption⟩ hal))
            have HV5 := hid hV
            have HQN := hid (fun (n : Nat) => HQ5.out.below (w' := (wr.alloc (.cells #[.int .i64 (atL l j).1, .int .i64 (atL l j).2] 40)).drewN n) ⟨rfl, rfl, rfl, Nat.le_refl _, fun _ _ => rfl⟩)
            have HHa := hid (fun (n : Nat) => has_i (HQN.out n).ql (has_head (atL l j) (l.drop (j + 1))))
            have HPo := hid (fun (n : Nat) => lpop_c (HQN.out n).ql)
            have HQD := hid (fun (n : Nat) (w6 : World) (hq : QlA ((wr.alloc (.cells #[.int .i64 (atL l j).1, .int .i64 (atL l j).2] 40)).drewN n) q F (l.drop (j + 1)) w6) => qd_next (HQN.out n) (HR5.out.below (w' := (wr.alloc (.cells #[.int .i64 (atL l j).1, .int .i64 (atL l j).2] 40)).drewN n) ⟨rfl, rfl, rfl, Nat.le_refl _, fun _ _ => rfl⟩) (fun k hk => ⟨Nat.lt_trans (HV5.out k hk).1 hBs, (HV5.out k hk).2⟩) bk hBs hBF hq)
            have y0 := bx.1; have y1 := bx.2
            have hRL : RL (wr.alloc (.cells #[.int .i64 (atL l j).1, .int .i64 (atL l j).2] 40)) (some ⟨b, o, none⟩) l.length (atL l) := by obtain ⟨_, _, ev, hh, _⟩ := HR5.out; cases ev; exact hh
            clear hal bx bk hQ hr4 HD hV HQ5 HR5 HV5 HQN hBs hBF
            by_cases hj0 : j = 0
            · subst hj0
              simp only [Nat.zero_mul, Nat.add_zero] at c0 c1
              generalize (atL l 0).1 = x0 at *
              generalize (atL l 0).2 = x1 at *
              have nq : ∀ W, (binOp .neq 40 (.agg #[.int .i64 x0, .int .i64 x1]) (.agg #[.int .i64 x0, .int .i64 x1])).run Try.prog W = .ok (.bool false) W := fun W => by rw [neq_item]; simp
              clear hRL
              go_wp2_with fail
              generalize wr.alloc (.cells #[.int .i64 x0, .int .i64 x1] 40) = wB at *
              generalize wr.heap.size = B at *
              go_quiet (first | (go_at_call 15; refine Calls.quiet_of_same (HHa.out _)))
              go_wp2_with (go_at_call 16; refine (HPo.out _).mono ?_; rintro e w6 ⟨rfl, hq6⟩; obtain ⟨hk6, hq7⟩ := HQD.out _ _ hq6; have z0 : (w6.alloc (.cells #[.int .i64 x0, .int .i64 x1] 40)).cell? ⟨B, 0, none⟩ = some (.int .i64 x0) := kCa (cells_at hk6).1; have z1 : (w6.alloc (.cells #[.int .i64 x0, .int .i64 x1] 40)).cell? ⟨B, 1, none⟩ = some (.int .i64 x1) := kCa (cells_at hk6).2; have HQ7 := hid (hq7.below ((Below.refl _ w6).alloc (Nat.le_refl _) (.cells #[.int .i64 x0, .int .i64 x1] 40))); have HH7 := hid (HQ7.out.has HTl.out); clear hq6 hk6 hq7)
              refine HH7.out.mono ?_
              rintro e w8 ⟨rfl, rfl⟩
              go_wp2_with fail
              go_roundw
              case rel => exact ⟨0 + 1, by omega, by go_num, HQ7⟩
              case measure => simp [intOf]; omega
            · obtain ⟨m, rfl⟩ : ∃ m, j = m + 1 := ⟨j - 1, by omega⟩
              obtain ⟨b', o', eb, u0, u1⟩ := hRL m (by omega)
              cases eb
              have hor := ord_at HOrd.out (show m < m + 1 by omega) hlt
              have hor' : (atL l m).2 < (atL l (m + 1)).2 ∨ ((atL l m).2 = (atL l (m + 1)).2 ∧ (atL l m).1 < (atL l (m + 1)).1) := hor
              clear hor hRL hj0
              generalize (atL l m).1 = p0 at *
              generalize (atL l m).2 = p1 at *
              generalize (atL l (m + 1)).1 = x0 at *
              generalize (atL l (m + 1)).2 = x1 at *
              have nq : ∀ W, (binOp .neq 40 (.agg #[.int .i64 x0, .int .i64 x1]) (.agg #[.int .i64 x0, .int .i64 x1])).run Try.prog W = .ok (.bool false) W := fun W => by rw [neq_item]; simp
              have hm1 : (m : Int) < l.length := by omega
              have g0 : decide ((0 : Int) < (m : Int) + 1) = true := decide_eq_true (by omega)
              rcases hor' with h1 | ⟨h1, h2⟩
              · have t1 : decide (x1 < p1) = false := decide_eq_false (by omega)
                have t2 : (p1 == x1) = false := by simp; omega
                clear h1
                go_wp2_with fail
                generalize wr.alloc (.cells #[.int .i64 x0, .int .i64 x1] 40) = wB at *
                generalize wr.heap.size = B at *
                go_quiet (first | (go_at_call 15; refine Calls.quiet_of_same (HHa.out _)))
                go_wp2_with (go_at_call 16; refine (HPo.out _).mono ?_; rintro e w6 ⟨rfl, hq6⟩; obtain ⟨hk6, hq7⟩ := HQD.out _ _ hq6; have z0 : (w6.alloc (.cells #[.int .i64 x0, .int .i64 x1] 40)).cell? ⟨B, 0, none⟩ = some (.int .i64 x0) := kCa (cells_at hk6).1; have z1 : (w6.alloc (.cells #[.int .i64 x0, .int .i64 x1] 40)).cell? ⟨B, 1, none⟩ = some (.int .i64 x1) := kCa (cells_at hk6).2; have HQ7 := hid (hq7.below ((Below.refl _ w6).alloc (Nat.le_refl _) (.cells #[.int .i64 x0, .int .i64 x1] 40))); have HH7 := hid (HQ7.out.has HTl.out); clear hq6 hk6 hq7)
                refine HH7.out.mono ?_
                rintro e w8 ⟨rfl, rfl⟩
                go_wp2_with fail
                go_roundw
                case rel => exact ⟨m + 1 + 1, by omega, by go_num, HQ7⟩
                case measure => simp [intOf]; omega
              · have t1 : decide (x1 < p1) = false := decide_eq_false (by omega)
                have t2 : (p1 == x1) = true := by simp [h1]
                have t3 : decide (x0 ≤ p0) = false := decide_eq_false (by omega)
                clear h1 h2
                go_wp2_with fail
                generalize wr.alloc (.cells #[.int .i64 x0, .int .i64 x1] 40) = wB at *
                generalize wr.heap.size = B at *
                go_quiet (first | (go_at_call 15; refine Calls.quiet_of_same (HHa.out _)))
                go_wp2_with (go_at_call 16; refine (HPo.out _).mono ?_; rintro e w6 ⟨rfl, hq6⟩; obtain ⟨hk6, hq7⟩ := HQD.out _ _ hq6; have z0 : (w6.alloc (.cells #[.int .i64 x0, .int .i64 x1] 40)).cell? ⟨B, 0, none⟩ = some (.int .i64 x0) := kCa (cells_at hk6).1; have z1 : (w6.alloc (.cells #[.int .i64 x0, .int .i64 x1] 40)).cell? ⟨B, 1, none⟩ = some (.int .i64 x1) := kCa (cells_at hk6).2; have HQ7 := hid (hq7.below ((Below.refl _ w6).alloc (Nat.le_refl _) (.cells #[.int .i64 x0, .int .i64 x1] 40))); have HH7 := hid (HQ7.out.has HTl.out); clear hq6 hk6 hq7)
                refine HH7.out.mono ?_
                rintro e w8 ⟨rfl, rfl⟩
                go_wp2_with fail
                go_roundw
                case rel => exact ⟨m + 1 + 1, by omega, by go_num, HQ7⟩
                case measure => simp [intOf]; omega
          · have hlt' : decide ((j : Int) < l.length) = false := decide_eq_false (by omega)
            obtain ⟨F, hQ, hR, hV⟩ := HD.out
            rw [List.drop_of_length_le (by omega)] at hQ
            have HQ5 := hid hQ
            clear hQ hR hV HD
            go_wp2_with (first
              | (go_at_call 16; refine (lpop0_c HQ5.out.ql).mono ?_; rintro e w5 ⟨rfl, hb5⟩; have HQ6 := hid ((HQ5.out.below hb5).below ((Below.refl _ _).alloc (Nat.le_refl _) (.cells #[.int .i64 0, .int .i64 0] 40))); clear hb5)
              | (go_at_call 17; refine (lpeek0_c HQ6.out.ql).mono ?_; rintro e w6 ⟨rfl, hb6⟩; have HQ7 := hid ((HQ6.out.below hb6).below ((Below.refl _ _).alloc (Nat.le_refl _) (.cells #[.int .i64 0, .int .i64 0] 40))); clear hb6)
              | (go_at_call 12; refine (llen_c HQ7.out.ql).mono ?_; rintro e w7 ⟨rfl, rfl⟩))
            go_ret
            exact ⟨rfl, HQ7.out.bel⟩
end Go.Proofs.Ytacgkgbhleehjaa
