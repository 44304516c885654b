/-
  The walk of the statement QueueFull.
-/
import Derived.Test.YtacgkgbhleehjaaZ4
namespace Go.Proofs.Ytacgkgbhleehjaa
open Go.RowKit Go.Sort Go.MapKept

theorem kCt {F : Nat → Prop} {w w' : World} {a : Addr} {v : Value} (ht : Tn F w w') (hl : a.block < w.heap.size) (hF : ¬ F a.block) (h : w.cell? a = some v) : w'.cell? a = some v := (World.cell?_of_block (a := a) (ht.block a.block hl hF)).trans h
theorem mul_bd {i : Nat} {s : Int} (hi : i ≤ 4096) (h1 : -1000 ≤ s) (h2 : s ≤ 1000) : -4096000 ≤ (i : Int) * s ∧ (i : Int) * s ≤ 4096000 := by
  rcases Int.le_total 0 s with h | h
  · have a := Int.mul_nonneg (show (0 : Int) ≤ i by omega) h
    have b := Int.mul_le_mul (show (i : Int) ≤ 4096 by omega) h2 h (by omega)
    omega
  · have a := Int.mul_nonneg (show (0 : Int) ≤ i by omega) (show 0 ≤ -s by omega)
    have b := Int.mul_le_mul (show (i : Int) ≤ 4096 by omega) (show -s ≤ 1000 by omega) (by omega) (by omega)
    rw [Int.mul_neg] at a b
    omega
/-- The numbers first, first + step .. have been pushed, n of them. -/
def Ids (f s : Int) (n : Nat) (l : List (Int × Int)) : Prop := l.length = n ∧ ∀ id, hasL l id = true ↔ ∃ j : Nat, j < n ∧ id = f + (j : Int) * s
theorem mul_inj {s : Int} (hs : s ≠ 0) {a b : Int} (h : a * s = b * s) : a = b := Int.eq_of_mul_eq_mul_right hs h
theorem Ids.new {f s n l} (h : Ids f s n l) (hs : s ≠ 0) : hasL l (f + (n : Int) * s) = false := by
  cases hb : hasL l (f + (n : Int) * s) with
  | false => rfl
  | true =>
    obtain ⟨j, hj, e⟩ := (h.2 _).1 hb
    have := mul_inj hs (show (n : Int) * s = (j : Int) * s by omega)
    omega
theorem Ids.prev {f s n l} (h : Ids f s n l) (hs : s ≠ 0) : hasL l (f - s) = false := by
  cases hb : hasL l (f - s) with
  | false => rfl
  | true =>
    obtain ⟨j, hj, e⟩ := (h.2 _).1 hb
    have := mul_inj hs (show (-1 : Int) * s = (j : Int) * s by omega)
    omega
theorem hasL_ins (l : List (Int × Int)) (p : Int × Int) (id : Int) : hasL (insL l p) id = true ↔ hasL l id = true ∨ id = p.1 := by
  rw [hasL_iff, hasL_iff]
  constructor
  · rintro ⟨k, hk⟩
    rcases mem_insL.1 hk with h | h
    · exact .inl ⟨k, h⟩
    · exact .inr (by rw [← h])
  · rintro (⟨k, hk⟩ | e)
    · exact ⟨k, mem_insL.2 (.inl hk)⟩
    · exact ⟨p.2, mem_insL.2 (.inr (by rw [e]))⟩
theorem Ids.push {f s n l} (h : Ids f s n l) (hs : s ≠ 0) (hn : n < 4096) (key : Int) : pushE l (f + (n : Int) * s) = 0 ∧ Ids f s (n + 1) (pushL l (f + (n : Int) * s) key) := by
  have hb := h.new hs
  have hl := h.1
  have h2 : ¬ 4096 ≤ l.length := by omega
  refine ⟨by simp [pushE, hb, h2], ?_⟩
  rw [show pushL l (f + (n : Int) * s) key = insL l (f + (n : Int) * s, key) by simp [pushL, hb, h2]]
  refine ⟨by rw [len_insL, hl], fun id => ?_⟩
  rw [hasL_ins, h.2 id]
  constructor
  · rintro (⟨j, hj, e⟩ | e)
    · exact ⟨j, by omega, e⟩
    · exact ⟨n, by omega, e⟩
  · rintro ⟨j, hj, e⟩
    by_cases hjn : j = n
    · subst hjn; exact .inr e
    · exact .inl ⟨j, by omega, e⟩
/-- Both queues: the one that is filled, the other one. -/
structure Q2 (w0 w : World) (q o : Nat) (F : Nat → Prop) (l : List (Int × Int)) : Prop where
  one : Qb w0 w q F l
  two : Ql w o (fun k => k = o) []
  apart : ¬ F o
theorem Q2.step {w0 w w' q o F l l'} (h : Q2 w0 w q o F l) (ha : QlA w q F l' w') : ∃ F', Q2 w0 w' q o F' l' ∧ Tn F w w' ∧ ∀ k, F' k → F k ∨ w.heap.size ≤ k := by
  obtain ⟨F', h1, h2, h3⟩ := h.one.step ha
  have hlt := h.two.qu.lt o rfl
  refine ⟨F', ⟨h1, h.two.of (fun k hk => by subst hk; exact h2.block _ hlt h.apart), fun e => ?_⟩, h2, h3⟩
  rcases h3 o e with e | e
  · exact h.apart e
  · omega
theorem Q2.below {w0 w w' q o F l} (h : Q2 w0 w q o F l) (hb : Below w.heap.size w w') : Q2 w0 w' q o F l := ⟨h.one.below hb, h.two.below hb, h.apart⟩
/-- n numbers are in. -/
def Fu (w0 w : World) (q o : Nat) (f s : Int) (n : Nat) : Prop := ∃ F l, Q2 w0 w q o F l ∧ Ids f s n l
theorem len_i {w : World} {q n : Nat} {F : Nat → Prop} {l : List (Int × Int)} (h : Ql w q F l) (hl : l.length = n) : Calls Try.prog 12 #[.pointer (some ⟨q, 0, none⟩)] w fun e w' => e = .returned (.int .i64 (n : Int)) ∧ w' = w := by
  subst hl; exact llen_c h
theorem items_i {w : World} {q n : Nat} {F : Nat → Prop} {l : List (Int × Int)} (h : Ql w q F l) (hl : l.length = n) (hn : 0 < n) : Calls Try.prog 11 #[.pointer (some ⟨q, 0, none⟩)] w fun e w' => ∃ g cap, e = .returned (.slice (some ⟨g, 0, none⟩) n cap) ∧ n ≤ cap ∧ cap ≤ 9223372036854775807 ∧ Below w.heap.size w w' ∧ w.heap.size ≤ g ∧ Ro w' g cap n (atL l) := by
  subst hl
  refine (items_c h).mono ?_
  rintro e w' ⟨ao, cap, rfl, h1, h2, h3, h4⟩
  rcases h4 with ⟨_, rfl, _⟩ | ⟨g, rfl, hg, hr⟩
  · simp at hn
  · exact ⟨g, cap, rfl, h1, h2, h3, hg, hr⟩
theorem wpList_appE {P : Program} {w w' : World} {ops : Array Oper} {rest : List Oper} {o : Oper} {a : Act} {Q : Exit → Act → World → Prop} (hgd : o.guard = none) (s x : Operand) (t : TypeId)
    (ho : o.op = .call { callee := .builtin .append, args := #[s, x], argTypes := #[t, t] }) {v u v' : Value} (hs : a.eval s = v) (hx : a.eval x = u) (hr : (Builtin.append_ #[t, t] o.type #[v, u]).run P w = .ok v' w') (hK : wpList P ops Q rest (a.put o.dst v') w') : wpList P ops Q (o :: rest) a w := by
  refine wpList_plain hgd fun K hK' => ?_
  unfold Oper.wp execOp
  simp only [ho, resolve, invoke, builtin, Sem.run_bind, Sem.run_pure, Result.andThen_ok, List.map_toArray, List.map_cons, List.map_nil, hs, hx, hr]
  exact hK' _ _ hK
theorem Q2.tn {w0 w w' : World} {q o : Nat} {F G : Nat → Prop} {l : List (Int × Int)} (h : Q2 w0 w q o F l) (ht : Tn G w w') (hG : ∀ k, G k → ¬ F k ∧ k ≠ o ∧ w0.heap.size ≤ k) : Q2 w0 w' q o F l :=
  ⟨⟨h.one.ql.of (fun k hk => ht.block k (h.one.ql.qu.lt k hk) (fun e => (hG k e).1 hk)), kBm h.one.bel ht (fun k e => (hG k e).2.2), h.one.new⟩, h.two.of (fun k hk => ht.block k (h.two.qu.lt k hk) (fun e => (hG k e).2.1 hk)), h.apart⟩
set_option maxRecDepth 100000 in
set_option maxHeartbeats 8000000 in
theorem full_c (f s key : Int) (w : World) : Calls Try.prog 5 #[.int .i64 f, .int .i64 s, .int .i64 key] w fun e w' => e = .returned (.bool true) ∧ Below w.heap.size w w' := by
  by_cases hok : s = 0 ∨ 1000 < s ∨ s < -1000 ∨ 1099511627776 < f ∨ f < -1099511627776
  · by_cases n0 : s = 0
    · have h := n0
      have t0 : (s == 0) = true := by simp [h]
      clear hok n0 h
      go_enter Try.func5, Try.ntmps5
      go_wp2_with (first
        | (go_at_call 7; refine (awake_c _).mono ?_; rintro e w1 ⟨rfl, hb1⟩; have HB1 := hid hb1; clear hb1)
        | (go_at_call 8; refine (new_c _).mono ?_; rintro e w2 ⟨rfl, rfl⟩))
      go_ret
      exact ⟨rfl, (HB1.out.alloc HB1.out.size _).alloc (HB1.out.alloc HB1.out.size _).size _⟩
    by_cases n1 : 1000 < s
    · have h := n1
      have t0 : (s == 0) = false := by simp; omega
      have t1 : decide (1000 < s) = true := decide_eq_true h
      clear hok n0 n1 h
      go_enter Try.func5, Try.ntmps5
      go_wp2_with (first
        | (go_at_call 7; refine (awake_c _).mono ?_; rintro e w1 ⟨rfl, hb1⟩; have HB1 := hid hb1; clear hb1)
        | (go_at_call 8; refine (new_c _).mono ?_; rintro e w2 ⟨rfl, rfl⟩))
      go_ret
      exact ⟨rfl, (HB1.out.alloc HB1.out.size _).alloc (HB1.out.alloc HB1.out.size _).size _⟩
    by_cases n2 : s < -1000
    · have h := n2
      have t0 : (s == 0) = false := by simp; omega
      have t1 : decide (1000 < s) = false := decide_eq_false (by omega)
      have t2 : decide (s < -1000) = true := decide_eq_true h
      clear hok n0 n1 n2 h
      go_enter Try.func5, Try.ntmps5
      go_wp2_with (first
        | (go_at_call 7; refine (awake_c _).mono ?_; rintro e w1 ⟨rfl, hb1⟩; have HB1 := hid hb1; clear hb1)
        | (go_at_call 8; refine (new_c _).mono ?_; rintro e w2 ⟨rfl, rfl⟩))
      go_ret
      exact ⟨rfl, (HB1.out.alloc HB1.out.size _).alloc (HB1.out.alloc HB1.out.size _).size _⟩
    by_cases n3 : 1099511627776 < f
    · have h := n3
      have t0 : (s == 0) = false := by simp [n0]
      have t1 : decide (1000 < s) = false := decide_eq_false n1
      have t2 : decide (s < -1000) = false := decide_eq_false n2
      have t3 : decide (1099511627776 < f) = true := decide_eq_true h
      clear hok n0 n1 n2 n3 h
      go_enter Try.func5, Try.ntmps5
      go_wp2_with (first
        | (go_at_call 7; refine (awake_c _).mono ?_; rintro e w1 ⟨rfl, hb1⟩; have HB1 := hid hb1; clear hb1)
        | (go_at_call 8; refine (new_c _).mono ?_; rintro e w2 ⟨rfl, rfl⟩))
      go_ret
      exact ⟨rfl, (HB1.out.alloc HB1.out.size _).alloc (HB1.out.alloc HB1.out.size _).size _⟩
    by_cases n4 : f < -1099511627776
    · have h := n4
      have t0 : (s == 0) = false := by simp [n0]
      have t1 : decide (1000 < s) = false := decide_eq_false n1
      have t2 : decide (s < -1000) = false := decide_eq_false n2
      have t3 : decide (1099511627776 < f) = false := decide_eq_false (by omega)
      have t4 : decide (f < -1099511627776) = true := decide_eq_true h
      clear hok n0 n1 n2 n3 n4 h
      go_enter Try.func5, Try.ntmps5
      go_wp2_with (first
        | (go_at_call 7; refine (awake_c _).mono ?_; rintro e w1 ⟨rfl, hb1⟩; have HB1 := hid hb1; clear hb1)
        | (go_at_call 8; refine (new_c _).mono ?_; rintro e w2 ⟨rfl, rfl⟩))
      go_ret
      exact ⟨rfl, (HB1.out.alloc HB1.out.size _).alloc (HB1.out.alloc HB1.out.size _).size _⟩
    exact absurd hok (by omega)
  · have hs0 : s ≠ 0 := fun e => hok (.inl e)
    have t0 : (s == 0) = false := by simp [hs0]
    have t1 : decide (1000 < s) = false := decide_eq_false (fun e => hok (.inr (.inl e)))
    have t2 : decide (s < -1000) = false := decide_eq_false (fun e => hok (.inr (.inr (.inl e))))
    have t3 : decide (1099511627776 < f) = false := decide_eq_false (fun e => hok (.inr (.inr (.inr (.inl e)))))
    have t4 : decide (f < -1099511627776) = false := decide_eq_false (fun e => hok (.inr (.inr (.inr (.inr e)))))
    have bs1 : -1000 ≤ s := by omega
    have bs2 : s ≤ 1000 := by omega
    have bf1 : -1099511627776 ≤ f := by omega
    have bf2 : f ≤ 1099511627776 := by omega
    clear hok
    go_enter Try.func5, Try.ntmps5
    go_wp2_with fail
    refine (awake_c _).mono ?_
    rintro e w1 ⟨rfl, hb1⟩
    have HB1 := hid hb1
    clear hb1
    go_wp2_with fail
    refine (new_c _).mono ?_
    rintro e w2 ⟨rfl, rfl⟩
    go_wp2_with fail
    refine (new_c _).mono ?_
    rintro e w3 ⟨rfl, rfl⟩
    have hal : Below w1.heap.size w1 (w1.alloc (.cells #[.slice none 0 0, .map none] 50)) := (Below.refl _ _).alloc (Nat.le_refl _) _
    have hal2 : Below (w1.alloc (.cells #[.slice none 0 0, .map none] 50)).heap.size (w1.alloc (.cells #[.slice none 0 0, .map none] 50)) ((w1.alloc (.cells #[.slice none 0 0, .map none] 50)).alloc (.cells #[.slice none 0 0, .map none] 50)) := (Below.refl _ _).alloc (Nat.le_refl _) _
    have hsz : (w1.alloc (.cells #[.slice none 0 0, .map none] 50)).heap.size = w1.heap.size + 1 := by simp
    have hQ : Qb w ((w1.alloc (.cells #[.slice none 0 0, .map none] 50)).alloc (.cells #[.slice none 0 0, .map none] 50)) w1.heap.size (fun k => k = w1.heap.size) [] := Qb.below ⟨ql_new w1, HB1.out.trans (hal.mono HB1.out.size), fun k e => by have := HB1.out.size; omega⟩ hal2
    have HQ0 := hid (show Fu w _ w1.heap.size (w1.alloc (.cells #[.slice none 0 0, .map none] 50)).heap.size f s 0 from ⟨_, [], ⟨hQ, ql_new _, by rw [hsz]; omega⟩, rfl, fun id => by simp [hasL]⟩)
    clear hal hal2 hQ HB1
    rw [hsz] at HQ0
    rw [hsz]
    generalize (w1.alloc (.cells #[.slice none 0 0, .map none] 50)).alloc (.cells #[.slice none 0 0, .map none] 50) = w2 at *
    generalize w1.heap.size + 1 = o at *
    generalize w1.heap.size = q at *
    clear hsz
    go_wp2_with fail
    go_loopw [38] (fun t wr => ∃ (i : Nat), i ≤ 4096 ∧ t = .int .i64 i ∧ Hid (Fu w wr q o f s i)) (fun t _ => 4096 - (intOf t).toNat)
    case atStart => exact ⟨0, by omega, rfl, HQ0⟩
    case round =>
      clear HQ0
      obtain ⟨i, hi, rfl, HQ⟩ := hrel
      by_cases hlt : i < 4096
      · have hlt' : (i : Int) < 4096 := by omega
        obtain ⟨F, l, hQ, hI⟩ := HQ.out
        obtain ⟨m1, m2⟩ := mul_bd hi bs1 bs2
        obtain ⟨pe, hI2⟩ := hI.push hs0 hlt key
        have HPu := hid (push_i hQ.one.ql pe rfl (key := key))
        have HQ1 := hid hQ; have HI2 := hid hI2
        generalize hp : (i : Int) * s = p at *
        generalize hid' : f + p = d at *
        have w1' : IntKind.i64.wrap ((i : Int) * s) = p := by rw [IntKind.wrap_i64, hp]; omega
        have w2' : IntKind.i64.wrap (f + p) = d := by rw [IntKind.wrap_i64, hid']; omega
        clear hQ hI pe hI2 hp hid' HQ
        go_wp2_with (go_at_call 13; refine HPu.out.mono ?_; rintro e w4 ⟨rfl, hq4⟩)
        obtain ⟨F4, hQ4, _, _⟩ := HQ1.out.step hq4
        go_roundw
        case rel => exact ⟨i + 1, by omega, by go_num, ⟨F4, _, hQ4, HI2.out⟩⟩
        case measure => simp [intOf]; omega
      · have hlt' : decide ((i : Int) < 4096) = false := decide_eq_false (by omega)
        have HQ4 : Hid (Fu w wr q o f s 4096) := by
          have : i = 4096 := by omega
          subst this; exact HQ
        obtain ⟨F, l, hQ, hI⟩ := HQ4.out
        have hll := hI.1
        obtain ⟨a0, r0, rfl⟩ : ∃ a r, l = a :: r := by
          cases l with
          | nil => simp at hll
          | cons a r => exact ⟨a, r, rfl⟩
        have hpv := hI.prev hs0
        have hf : hasL (a0 :: r0) f = true := (hI.2 f).2 ⟨0, by omega, by omega⟩
        obtain ⟨d, hd⟩ : ∃ d, f - s = d := ⟨_, rfl⟩
        rw [hd] at hpv
        have wd : IntKind.i64.wrap (f - s) = d := by rw [IntKind.wrap_i64, hd]; omega
        have E1 := hid (show pushE (a0 :: r0) d = 10 by simp only [pushE, hpv, hll]; simp)
        have L1 := hid (show pushL (a0 :: r0) d key = a0 :: r0 by simp only [pushL, hpv, hll]; simp)
        have E2 := hid (show pushE (a0 :: r0) f = 6 by simp only [pushE, hf]; simp)
        have L2 := hid (show pushL (a0 :: r0) f key = a0 :: r0 by simp only [pushL, hf]; simp)
        have E3 := hid (show fixE (a0 :: r0) f = 0 by simp only [fixE, hf]; simp)
        have HQ5 := hid hQ; have HLL := hid hll
        have HR4 := hid (rem_ok hQ.one.ql E3.out)
        have E5 := hid (show pushE (remL (a0 :: r0) f) d = 0 from by
          have h4 := HR4.out
          have h5 : hasL (remL (a0 :: r0) f) d = false := by
            cases hb : hasL (remL (a0 :: r0) f) d with
            | false => rfl
            | true =>
              obtain ⟨ky, hky⟩ := hasL_iff.1 hb
              rw [show remL (a0 :: r0) f = delL (a0 :: r0) f by simp only [remL, hf]; simp] at hky
              have := hasL_iff.2 ⟨ky, (mem_delL.1 hky).1⟩
              rw [hpv] at this; cases this
          have h6 : ¬ 4096 ≤ (remL (a0 :: r0) f).length := by omega
          simp only [pushE, h5, h6]; simp)
        clear hQ hI hpv hf hd HQ HQ4 hll
        go_wp2_with fail
        refine (push_i HQ5.out.one.ql E1.out L1.out).mono ?_
        rintro e w4 ⟨rfl, hq4⟩
        obtain ⟨F4, hQ4, _, _⟩ := HQ5.out.step hq4
        have HQ6 := hid hQ4
        clear hq4 hQ4 HQ5
        go_wp2_with fail
        refine (push_i HQ6.out.one.ql E2.out L2.out).mono ?_
        rintro e w5 ⟨rfl, hq5⟩
        obtain ⟨F5, hQ5, _, _⟩ := HQ6.out.step hq5
        have HQ7 := hid hQ5
        clear hq5 hQ5 HQ6
        have HLe := hid (len_i HQ7.out.one.ql HLL.out); have HLo := hid (len_i HQ7.out.two (n := 0) rfl)
        go_wp2_with (first
          | (go_at_call 12; first | (with_reducible refine HLe.out.mono ?_; rintro e w6 ⟨rfl, rfl⟩) | (with_reducible refine HLo.out.mono ?_; rintro e w7 ⟨rfl, rfl⟩))
          | (go_at_call 15; refine (has_i HQ7.out.two (b := false) (by simp [hasL])).mono ?_; rintro e w8 ⟨rfl, rfl⟩))
        refine (items_i HQ7.out.one.ql HLL.out (by omega)).mono ?_
        rintro e wa ⟨ga, ca, rfl, ca1, ca2, hba, hga, hra⟩
        have HQ8 := hid (HQ7.out.below hba); have HRa := hid hra
        have la : ga < wa.heap.size := by obtain ⟨cur, hb, _⟩ := hra.blk; exact (Array.getElem?_eq_some_iff.1 hb).1
        have NA := hid (show ¬ F5 ga ∧ ga ≠ o ∧ w.heap.size ≤ ga from ⟨fun e => by have := HQ7.out.one.ql.qu.lt _ e; omega, fun e => by have := HQ7.out.two.qu.lt o rfl; omega, Nat.le_trans HQ7.out.one.bel.size hga⟩)
        clear hba hra hga HLe HLo HQ7
        go_wp2_with fail
        refine (items_i HQ8.out.one.ql HLL.out (by omega)).mono ?_
        rintro e wb ⟨gb, cb, rfl, cb1, cb2, hbb, hgb, hrb⟩
        have HQ9 := hid (HQ8.out.below hbb); have HRb := hid hrb
        have la' : ga < wb.heap.size := Nat.lt_of_lt_of_le la hbb.size
        have hab : ga ≠ gb := by omega
        have lb : gb < wb.heap.size := by obtain ⟨cur, hb, _⟩ := hrb.blk; exact (Array.getElem?_eq_some_iff.1 hb).1
        have hngb : ¬ F5 gb := fun e => by have := HQ8.out.one.ql.qu.lt _ e; omega
        have HRa2 := hid (HRa.out.of (hbb.block ga la))
        have y0 := hrb.c0 0 (by omega); have y1 := hrb.c1 0 (by omega)
        rw [show atL (a0 :: r0) 0 = a0 from rfl, Nat.zero_mul] at y0 y1
        have hbx := (heap_alloc wb (.cells #[.int .i64 a0.1, .int .i64 a0.2] 40)).1
        have hal : Below wb.heap.size wb (wb.alloc (.cells #[.int .i64 a0.1, .int .i64 a0.2] 40)) := (Below.refl _ _).alloc (Nat.le_refl _) _
        have HQ10 := hid (HQ9.out.below hal); have HRa3 := hid (HRa2.out.of (hal.block ga la'))
        have z0 := kCb hal y0; have z1 := kCb hal y1
        have v0 := (cells_at hbx).1; have v1 := (cells_at hbx).2
        have hBWs : wb.heap.size < (wb.alloc (.cells #[.int .i64 a0.1, .int .i64 a0.2] 40)).heap.size := by simp
        have hnBW : ¬ F5 wb.heap.size := fun e => by have := HQ9.out.one.ql.qu.lt _ e; omega
        have hBWa : wb.heap.size ≠ ga := by omega
        have HPk := hid (fun (W : World) (hh : Ql W q F5 (a0 :: r0)) => lpeek_c hh)
        obtain ⟨x0, x1⟩ := a0
        have HZ0 := hid z0; have HZ1 := hid z1; have HV0 := hid v0; have HV1 := hid v1
        clear hrb hbb hgb hbx hal HQ8 HQ9 HRa HRa2 z0 z1 v0 v1
        go_wp2_with fail
        generalize wb.alloc (.cells #[.int .i64 x0, .int .i64 x1] 40) = wc at *
        generalize wb.heap.size = BW at *
        go_loopw [97] (fun t wr => ∃ (i : Nat), i ≤ 4096 ∧ t = .int .i64 i ∧ Hid (∃ dd, Ro wr ga ca 4096 dd) ∧ Hid (One ga wc wr)) (fun t _ => 4096 - (intOf t).toNat)
        case atStart => exact ⟨0, by omega, rfl, ⟨_, HRa3.out⟩, ⟨rfl, rfl, rfl, rfl, fun _ _ => rfl⟩⟩
        case round =>
          obtain ⟨j, hj, rfl, HR, HOn⟩ := hrel
          by_cases hlt2 : j < 4096
          · have hlt2' : (j : Int) < 4096 := by omega
            obtain ⟨dd, hr⟩ := HR.out
            have c0 := hr.c0 j hlt2; have c1 := hr.c1 j hlt2
            have f0 : wr.frozen? ⟨ga, j * 2, none⟩ = false := by obtain ⟨cur, hb, _⟩ := hr.blk; exact free_at hb
            have f1 : wr.frozen? ⟨ga, j * 2 + 1, none⟩ = false := by obtain ⟨cur, hb, _⟩ := hr.blk; exact free_at hb
            have HR2 := hid (hr.put hlt2 (1, 2))
            have HO2 := hid ((HOn.out.set (j * 2) (.int .i64 1)).set (j * 2 + 1) (.int .i64 2))
            clear hr HR HOn
            go_wp2_with fail
            go_roundw
            case rel => exact ⟨j + 1, by omega, by go_num, ⟨_, HR2.out⟩, HO2⟩
            case measure => simp [intOf]; omega
          · have hlt2' : decide ((j : Int) < 4096) = false := decide_eq_false (by omega)
            obtain ⟨dd, hr⟩ := HR.out
            have hon := HOn.out
            have hal2 : Below wr.heap.size wr (wr.alloc (.cells #[.int .i64 0, .int .i64 0] 40)) := (Below.refl _ _).alloc (Nat.le_refl _) _
            have la3 : ga < wr.heap.size := by obtain ⟨cur, hb, _⟩ := hr.blk; exact (Array.getElem?_eq_some_iff.1 hb).1
            obtain ⟨gn, cn, we, ea, hre, _, _, hgr, hat⟩ := app_item (w := wr.alloc (.cells #[.int .i64 0, .int .i64 0] 40)) (v := .slice (some ⟨ga, 0, none⟩) 4096 ca) (n := 4096) (d := dd) (.inr ⟨ga, ca, rfl, hr.of (hal2.block ga la3), ca1, ca2⟩) (by omega) (p := (0, 0)) (heap_alloc wr (.cells #[.int .i64 0, .int .i64 0] 40)).1
            have hTn : Tn (fun k => k = ga) wc we := by
              have s1 := hon.size; have s2 := hal2.size; have s3 := hgr.size
              refine ⟨(hgr.os.trans hal2.os).trans hon.os, (hgr.tape.trans hal2.tape).trans hon.tape, (hgr.output.trans hal2.output).trans hon.output, by omega, fun k hk hf => ?_⟩
              rw [hgr.block k (by omega) (by simp [Value.ownBlock]; exact hf), hal2.block k (by omega), hon.block k hf]
            have HQ11 := hid (HQ10.out.tn hTn (fun k e => e ▸ NA.out))
            have k0 := kCt hTn (show gb < wc.heap.size by omega) hab.symm HZ0.out
            have k1 := kCt hTn (show gb < wc.heap.size by omega) hab.symm HZ1.out
            have k2 := kCt hTn hBWs hBWa HV0.out
            have k3 := kCt hTn hBWs hBWa HV1.out
            have lbe : gb < we.heap.size := by have := hTn.size; omega
            have lBe : BW < we.heap.size := by have := hTn.size; omega
            clear hr hon HR HOn hal2 hre hgr hat hTn HQ10 HZ0 HZ1 HV0 HV1 HRa3 HRb
            go_wp2_with (first
              | (at_builtin; refine wpList_appE rfl (.tmp 105) (.tmp 107) 32 rfl rfl rfl ea ?_)
              | (go_at_call 17; refine (HPk.out _ HQ11.out.one.ql).mono ?_; rintro e wf ⟨rfl, hbf⟩))
            have hal3 : Below wf.heap.size wf (wf.alloc (.cells #[.int .i64 x0, .int .i64 x1] 40)) := (Below.refl _ _).alloc (Nat.le_refl _) _
            have bxT := cells_at (heap_alloc wf (.cells #[.int .i64 x0, .int .i64 x1] 40)).1
            have hQz := (HQ11.out.below hbf).below hal3
            have c0 : (wf.alloc (.cells #[.int .i64 x0, .int .i64 x1] 40)).drew.cell? ⟨gb, 0, none⟩ = some (.int .i64 x0) := kCd (kCb hal3 (kCb hbf k0))
            have c1 : (wf.alloc (.cells #[.int .i64 x0, .int .i64 x1] 40)).drew.cell? ⟨gb, 1, none⟩ = some (.int .i64 x1) := kCd (kCb hal3 (kCb hbf k1))
            have c2 : (wf.alloc (.cells #[.int .i64 x0, .int .i64 x1] 40)).drew.cell? ⟨BW, 0, none⟩ = some (.int .i64 x0) := kCd (kCb hal3 (kCb hbf k2))
            have c3 : (wf.alloc (.cells #[.int .i64 x0, .int .i64 x1] 40)).drew.cell? ⟨BW, 1, none⟩ = some (.int .i64 x1) := kCd (kCb hal3 (kCb hbf k3))
            have c4 : (wf.alloc (.cells #[.int .i64 x0, .int .i64 x1] 40)).drew.cell? ⟨wf.heap.size, 0, none⟩ = some (.int .i64 x0) := kCd bxT.1
            have c5 : (wf.alloc (.cells #[.int .i64 x0, .int .i64 x1] 40)).drew.cell? ⟨wf.heap.size, 1, none⟩ = some (.int .i64 x1) := kCd bxT.2
            have sz : (wf.alloc (.cells #[.int .i64 x0, .int .i64 x1] 40)).drew.heap.size = wf.heap.size + 1 := by show (wf.alloc _).heap.size = _; simp
            have hbz := hbf.size
            have l1 : gb < (wf.alloc (.cells #[.int .i64 x0, .int .i64 x1] 40)).drew.heap.size := by omega
            have l2 : BW < (wf.alloc (.cells #[.int .i64 x0, .int .i64 x1] 40)).drew.heap.size := by omega
            have l3 : wf.heap.size < (wf.alloc (.cells #[.int .i64 x0, .int .i64 x1] 40)).drew.heap.size := by omega
            have hnBT : ¬ F5 wf.heap.size := fun e => by have := (HQ11.out.below hbf).one.ql.qu.lt _ e; omega
            have HQz := hid (show Q2 w (wf.alloc (.cells #[.int .i64 x0, .int .i64 x1] 40)).drew q o F5 ((x0, x1) :: r0) from hQz.below ⟨rfl, rfl, rfl, Nat.le_refl _, fun _ _ => rfl⟩)
            have HRm := hid (lrem_c HQz.out.one.ql f)
            rw [E3.out] at HRm
            have HPe := E5
            have eqq : ∀ W, (binOp .eql 40 (.agg #[.int .i64 x0, .int .i64 x1]) (.agg #[.int .i64 x0, .int .i64 x1])).run Try.prog W = .ok (.bool true) W := fun W => by rw [eq_item]; simp
            clear hal3 bxT hQz k0 k1 k2 k3 hbf HQ11 sz hbz ea HPk y0 y1 lbe lBe
            generalize wf.alloc (.cells #[.int .i64 x0, .int .i64 x1] 40) = wz at *
            generalize wf.heap.size = BT at *
            refine wp_region_held_drew (S := (fun w' => w'.cell? ⟨gb, 0, none⟩ = some (.int .i64 x0) ∧ w'.cell? ⟨gb, 1, none⟩ = some (.int .i64 x1) ∧ w'.cell? ⟨BW, 0, none⟩ = some (.int .i64 x0) ∧ w'.cell? ⟨BW, 1, none⟩ = some (.int .i64 x1) ∧ w'.cell? ⟨BT, 0, none⟩ = some (.int .i64 x0) ∧ w'.cell? ⟨BT, 1, none⟩ = some (.int .i64 x1))) (by kernel_rfl) ?_ (fun hHeld => ?_)
            · (refine ⟨?_, ?_, ?_, ?_, ?_, ?_⟩ <;> repeat (with_reducible first | assumption | refine kCd ?_))
            generalize wz.drew = wy at *
            refine wpAnyH_take (i := 0) (v := ?_) rfl (by kernel_rfl) (by kernel_rfl) (by kernel_rfl) (fun _ _ _ h => h) (Or.inl ⟨by rfl, ?_⟩) (by assumption) ?_
            rotate_left
            (focus (intro w0 hSw; (try dsimp only at hSw); go_simp <;> with_reducible rfl))
            simp only [List.getElem_toArray, List.getElem_cons_zero, Act.put, List.setIfInBounds_toArray, List.set_cons_zero, List.set_cons_succ]
            refine wpAnyH_take (i := 1) (v := ?_) rfl (by kernel_rfl) (by kernel_rfl) (by kernel_rfl) (fun _ _ _ h => h) (Or.inl ⟨by rfl, ?_⟩) (by assumption) ?_
            rotate_left
            (focus (intro w0 hSw; (try dsimp only at hSw); go_simp <;> with_reducible rfl))
            simp only [List.getElem_toArray, List.getElem_cons_succ, List.getElem_cons_zero, Act.put, List.setIfInBounds_toArray, List.set_cons_zero, List.set_cons_succ]
            refine wpAnyH_take (i := 2) (v := ?_) rfl (by kernel_rfl) (by kernel_rfl) (by kernel_rfl) (fun _ _ _ h => h) (Or.inl ⟨by rfl, ?_⟩) (by assumption) ?_
            rotate_left
            (focus (intro w0 hSw; (try dsimp only at hSw); go_simp <;> with_reducible rfl))
            simp only [List.getElem_toArray, List.getElem_cons_succ, List.getElem_cons_zero, Act.put, List.setIfInBounds_toArray, List.set_cons_zero, List.set_cons_succ]
            refine wpAnyH_take (i := 3) (v := ?_) rfl (by kernel_rfl) (by kernel_rfl) (by kernel_rfl) (fun _ _ _ h => h) (Or.inl ⟨by rfl, ?_⟩) (by assumption) ?_
            rotate_left
            (focus (intro w0 hSw; (try dsimp only at hSw); go_simp <;> with_reducible rfl))
            simp only [List.getElem_toArray, List.getElem_cons_succ, List.getElem_cons_zero, Act.put, List.setIfInBounds_toArray, List.set_cons_zero, List.set_cons_succ]
            refine wpAnyH_take (i := 4) (v := ?_) rfl (by kernel_rfl) (by kernel_rfl) (by kernel_rfl) (fun _ _ _ h => h) (Or.inl ⟨by rfl, ?_⟩) (by assumption) ?_
            rotate_left
            (focus (intro w0 hSw; (try dsimp only at hSw); go_simp <;> with_reducible rfl))
            simp only [List.getElem_toArray, List.getElem_cons_succ, List.getElem_cons_zero, Act.put, List.setIfInBounds_toArray, List.set_cons_zero, List.set_cons_succ]
            refine wpAnyH_take (i := 5) (v := ?_) rfl (by kernel_rfl) (by kernel_rfl) (by kernel_rfl) (fun _ _ _ h => h) (Or.inl ⟨by rfl, ?_⟩) (by assumption) ?_
            rotate_left
            (focus (intro w0 hSw; (try dsimp only at hSw); go_simp <;> with_reducible rfl))
            simp only [List.getElem_toArray, List.getElem_cons_succ, List.getElem_cons_zero, Act.put, List.setIfInBounds_toArray, List.set_cons_zero, List.set_cons_succ]
            refine wpAnyH_take (i := 6) (v := ?_) rfl (by kernel_rfl) (by kernel_rfl) (by kernel_rfl) (fun _ _ _ h => h) (Or.inl ⟨by rfl, ?_⟩) (by assumption) ?_
            rotate_left
            (focus (intro w0 hSw; (try dsimp only at hSw); go_simp <;> with_reducible rfl))
            simp only [List.getElem_toArray, List.getElem_cons_succ, List.getElem_cons_zero, Act.put, List.setIfInBounds_toArray, List.set_cons_zero, List.set_cons_succ]
            refine wpAnyH_take (i := 7) (v := ?_) rfl (by kernel_rfl) (by kernel_rfl) (by kernel_rfl) (fun _ _ _ h => h) (Or.inl ⟨by rfl, ?_⟩) (by assumption) ?_
            rotate_left
            (focus (intro w0 hSw; (try dsimp only at hSw); go_simp <;> with_reducible rfl))
            simp only [List.getElem_toArray, List.getElem_cons_succ, List.getElem_cons_zero, Act.put, List.setIfInBounds_toArray, List.set_cons_zero, List.set_cons_succ]
            refine wpAnyH_take (i := 8) (v := ?_) rfl (by kernel_rfl) (by kernel_rfl) (by kernel_rfl) (fun _ _ _ h => h) (Or.inl ⟨by rfl, ?_⟩) (by assumption) ?_
            rotate_left
            (focus (intro w0 hSw; (try dsimp only at hSw); go_simp <;> with_reducible rfl))
            simp only [List.getElem_toArray, List.getElem_cons_succ, List.getElem_cons_zero, Act.put, List.setIfInBounds_toArray, List.set_cons_zero, List.set_cons_succ]
            refine wpAnyH_take (i := 9) (v := ?_) rfl (by kernel_rfl) (by kernel_rfl) (by kernel_rfl) (fun _ _ _ h => h) (Or.inl ⟨by rfl, ?_⟩) (by assumption) ?_
            rotate_left
            (focus (intro w0 hSw; (try dsimp only at hSw); go_simp <;> with_reducible rfl))
            simp only [List.getElem_toArray, List.getElem_cons_succ, List.getElem_cons_zero, Act.put, List.setIfInBounds_toArray, List.set_cons_zero, List.set_cons_succ]
            refine wpAnyH_take (i := 10) (v := ?_) rfl (by kernel_rfl) (by kernel_rfl) (by kernel_rfl) (fun _ _ _ h => h) (Or.inl ⟨by rfl, ?_⟩) (by assumption) ?_
            rotate_left
            (focus (intro w0 hSw; (try dsimp only at hSw); go_simp <;> with_reducible rfl))
            simp only [List.getElem_toArray, List.getElem_cons_succ, List.getElem_cons_zero, Act.put, List.setIfInBounds_toArray, List.set_cons_zero, List.set_cons_succ]
            refine wpAnyH_take (i := 11) (v := ?_) rfl (by kernel_rfl) (by kernel_rfl) (by kernel_rfl) (fun _ _ _ h => h) (Or.inl ⟨by rfl, ?_⟩) (by assumption) ?_
            rotate_left
            (focus (intro w0 hSw; (try dsimp only at hSw); go_simp <;> with_reducible rfl))
            simp only [List.getElem_toArray, List.getElem_cons_succ, List.getElem_cons_zero, Act.put, List.setIfInBounds_toArray, List.set_cons_zero, List.set_cons_succ]
            refine wpAnyH_take (i := 12) (v := ?_) rfl (by kernel_rfl) (by kernel_rfl) (by kernel_rfl) (fun _ _ _ h => h) (Or.inl ⟨by rfl, ?_⟩) (by assumption) ?_
            rotate_left
            (focus (intro w0 hSw; (try dsimp only at hSw); go_simp <;> with_reducible rfl))
            simp only [List.getElem_toArray, List.getElem_cons_succ, List.getElem_cons_zero, Act.put, List.setIfInBounds_toArray, List.set_cons_zero, List.set_cons_succ]
            refine wpAnyH_take (i := 13) (v := ?_) rfl (by kernel_rfl) (by kernel_rfl) (by kernel_rfl) (fun _ _ _ h => h) (Or.inl ⟨by rfl, ?_⟩) (by assumption) ?_
            rotate_left
            (focus (intro w0 hSw; (try dsimp only at hSw); go_simp <;> with_reducible rfl))
            simp only [List.getElem_toArray, List.getElem_cons_succ, List.getElem_cons_zero, Act.put, List.setIfInBounds_toArray, List.set_cons_zero, List.set_cons_succ]
            refine wpAnyH_take (i := 14) (v := ?_) rfl (by kernel_rfl) (by kernel_rfl) (by kernel_rfl) (fun _ _ _ h => h) (Or.inl ⟨by rfl, ?_⟩) (by assumption) ?_
            rotate_left
            (focus (intro w0 hSw; (try dsimp only at hSw); go_simp <;> with_reducible rfl))
            simp only [List.getElem_toArray, List.getElem_cons_succ, List.getElem_cons_zero, Act.put, List.setIfInBounds_toArray, List.set_cons_zero, List.set_cons_succ]
            refine wpAnyH_take (i := 15) (v := ?_) rfl (by kernel_rfl) (by kernel_rfl) (by kernel_rfl) (fun _ _ _ h => h) (Or.inl ⟨by rfl, ?_⟩) (by assumption) ?_
            rotate_left
            (focus (intro w0 hSw; (try dsimp only at hSw); go_simp <;> with_reducible rfl))
            simp only [List.getElem_toArray, List.getElem_cons_succ, List.getElem_cons_zero, Act.put, List.setIfInBounds_toArray, List.set_cons_zero, List.set_cons_succ]
            refine wpAnyH_take (i := 16) (v := ?_) rfl (by kernel_rfl) (by kernel_rfl) (by kernel_rfl) (fun _ _ _ h => h) (Or.inl ⟨by rfl, ?_⟩) (by assumption) ?_
            rotate_left
            (focus (intro w0 hSw; (try dsimp only at hSw); go_simp <;> with_reducible rfl))
            simp only [List.getElem_toArray, List.getElem_cons_succ, List.getElem_cons_zero, Act.put, List.setIfInBounds_toArray, List.set_cons_zero, List.set_cons_succ]
            refine wpAnyH_take (i := 17) (v := ?_) rfl (by kernel_rfl) (by kernel_rfl) (by kernel_rfl) (fun _ _ _ h => h) (Or.inl ⟨by rfl, ?_⟩) (by assumption) ?_
            rotate_left
            (focus (intro w0 hSw; (try dsimp only at hSw); go_simp <;> with_reducible rfl))
            simp only [List.getElem_toArray, List.getElem_cons_succ, List.getElem_cons_zero, Act.put, List.setIfInBounds_toArray, List.set_cons_zero, List.set_cons_succ]
            refine wpAnyH_take (i := 18) (v := ?_) rfl (by kernel_rfl) (by kernel_rfl) (by kernel_rfl) (fun _ _ _ h => h) (Or.inl ⟨by rfl, ?_⟩) (by assumption) ?_
            rotate_left
            (focus (intro w0 hSw; (try dsimp only at hSw); go_simp <;> with_reducible rfl))
            simp only [List.getElem_toArray, List.getElem_cons_succ, List.getElem_cons_zero, Act.put, List.setIfInBounds_toArray, List.set_cons_zero, List.set_cons_succ]
            refine wpAnyH_take (i := 19) (v := ?_) rfl (by kernel_rfl) (by kernel_rfl) (by kernel_rfl) (fun _ _ _ h => h) (Or.inl ⟨by rfl, ?_⟩) (by assumption) ?_
            rotate_left
            (focus (intro w0 hSw; (try dsimp only at hSw); go_simp <;> with_reducible rfl))
            simp only [List.getElem_toArray, List.getElem_cons_succ, List.getElem_cons_zero, Act.put, List.setIfInBounds_toArray, List.set_cons_zero, List.set_cons_succ]
            refine wpAnyH_take (i := 20) (v := ?_) rfl (by kernel_rfl) (by kernel_rfl) (by kernel_rfl) (fun _ _ _ h => h) (Or.inl ⟨by rfl, ?_⟩) (by assumption) ?_
            rotate_left
            (focus (intro w0 hSw; (try dsimp only at hSw); go_simp <;> with_reducible rfl))
            simp only [List.getElem_toArray, List.getElem_cons_succ, List.getElem_cons_zero, Act.put, List.setIfInBounds_toArray, List.set_cons_zero, List.set_cons_succ]
            refine wpAnyH_take (i := 21) (v := ?_) rfl (by kernel_rfl) (by kernel_rfl) (by kernel_rfl) (fun _ _ _ h => h) (Or.inl ⟨by rfl, ?_⟩) (by assumption) ?_
            rotate_left
            (focus (intro w0 hSw; (try dsimp only at hSw); go_simp <;> with_reducible rfl))
            simp only [List.getElem_toArray, List.getElem_cons_succ, List.getElem_cons_zero, Act.put, List.setIfInBounds_toArray, List.set_cons_zero, List.set_cons_succ]
            refine wpAnyH_ready (rs := [22]) (by kernel_rfl) (by simp) ?_
            refine AllReadyH.cons (o := _) rfl (fun K hK => ?_) ?_
            rotate_left
            exact AllReadyH.nil
            go_simp
            refine HRm.out.mono ?_
            rintro e wm ⟨rfl, hqm⟩
            obtain ⟨Fm, hQm, htm, hFm⟩ := HQz.out.step hqm
            have HTm := hid htm; have HQm := hid hQm; have HFm := hid hFm; clear hqm hQm htm hFm
            refine hK.out _ _ ?_ (fun hH1 => ?_)
            · ((try dsimp only); (refine ⟨?_, ?_, ?_, ?_, ?_, ?_⟩ <;> repeat (with_reducible first | assumption | refine kCd ?_ | refine kCt HTm.out (by assumption) (by assumption) ?_)))
            clear hK K
            try simp only [Act.put, List.setIfInBounds_toArray, List.set_cons_zero, List.set_cons_succ]
            have HPu := hid (push_i (key := key) HQm.out.one.ql HPe.out rfl)
            have hH1c := hH1
            obtain ⟨s0, s1, s2, s3, s4, s5⟩ := hH1c
            refine wpAnyH_take (i := 23) (v := ?_) rfl (by kernel_rfl) (by kernel_rfl) (by kernel_rfl) (fun _ _ _ h => h) (Or.inl ⟨by rfl, ?_⟩) (by assumption) ?_
            rotate_left
            (focus (intro w0 hSw; (try dsimp only at hSw); go_simp <;> with_reducible rfl))
            simp only [List.getElem_toArray, List.getElem_cons_succ, List.getElem_cons_zero, Act.put, List.setIfInBounds_toArray, List.set_cons_zero, List.set_cons_succ]
            refine wpAnyH_take (i := 24) (v := ?_) rfl (by kernel_rfl) (by kernel_rfl) (by kernel_rfl) (fun _ _ _ h => h) (Or.inl ⟨by rfl, ?_⟩) (by assumption) ?_
            rotate_left
            (focus (intro w0 hSw; (try dsimp only at hSw); go_simp <;> with_reducible rfl))
            simp only [List.getElem_toArray, List.getElem_cons_succ, List.getElem_cons_zero, Act.put, List.setIfInBounds_toArray, List.set_cons_zero, List.set_cons_succ]
            refine wpAnyH_take (i := 25) (v := ?_) rfl (by kernel_rfl) (by kernel_rfl) (by kernel_rfl) (fun _ _ _ h => h) (Or.inl ⟨by rfl, ?_⟩) (by assumption) ?_
            rotate_left
            (focus (intro w0 hSw; (try dsimp only at hSw); go_simp <;> with_reducible rfl))
            simp only [List.getElem_toArray, List.getElem_cons_succ, List.getElem_cons_zero, Act.put, List.setIfInBounds_toArray, List.set_cons_zero, List.set_cons_succ]
            refine wpAnyH_take (i := 26) (v := ?_) rfl (by kernel_rfl) (by kernel_rfl) (by kernel_rfl) (fun _ _ _ h => h) (Or.inl ⟨by rfl, ?_⟩) (by assumption) ?_
            rotate_left
            (focus (intro w0 hSw; (try dsimp only at hSw); go_simp <;> with_reducible rfl))
            simp only [List.getElem_toArray, List.getElem_cons_succ, List.getElem_cons_zero, Act.put, List.setIfInBounds_toArray, List.set_cons_zero, List.set_cons_succ]
            refine wpAnyH_take (i := 27) (v := ?_) rfl (by kernel_rfl) (by kernel_rfl) (by kernel_rfl) (fun _ _ _ h => h) (Or.inl ⟨by rfl, ?_⟩) (by assumption) ?_
            rotate_left
            (focus (intro w0 hSw; (try dsimp only at hSw); go_simp <;> with_reducible rfl))
            simp only [List.getElem_toArray, List.getElem_cons_succ, List.getElem_cons_zero, Act.put, List.setIfInBounds_toArray, List.set_cons_zero, List.set_cons_succ]
            refine wpAnyH_take (i := 28) (v := ?_) rfl (by kernel_rfl) (by kernel_rfl) (by kernel_rfl) (fun _ _ _ h => h) (Or.inl ⟨by rfl, ?_⟩) (by assumption) ?_
            rotate_left
            (focus (intro w0 hSw; (try dsimp only at hSw); go_simp <;> with_reducible rfl))
            simp only [List.getElem_toArray, List.getElem_cons_succ, List.getElem_cons_zero, Act.put, List.setIfInBounds_toArray, List.set_cons_zero, List.set_cons_succ]
            refine wpAnyH_take (i := 29) (v := ?_) rfl (by kernel_rfl) (by kernel_rfl) (by kernel_rfl) (fun _ _ _ h => h) (Or.inl ⟨by rfl, ?_⟩) (by assumption) ?_
            rotate_left
            (focus (intro w0 hSw; (try dsimp only at hSw); go_simp <;> with_reducible rfl))
            simp only [List.getElem_toArray, List.getElem_cons_succ, List.getElem_cons_zero, Act.put, List.setIfInBounds_toArray, List.set_cons_zero, List.set_cons_succ]
            refine wpAnyH_take (i := 30) (v := ?_) rfl (by kernel_rfl) (by kernel_rfl) (by kernel_rfl) (fun _ _ _ h => h) (Or.inl ⟨by rfl, ?_⟩) (by assumption) ?_
            rotate_left
            (focus (intro w0 hSw; (try dsimp only at hSw); go_simp <;> with_reducible rfl))
            simp only [List.getElem_toArray, List.getElem_cons_succ, List.getElem_cons_zero, Act.put, List.setIfInBounds_toArray, List.set_cons_zero, List.set_cons_succ]
            refine wpAnyH_ready (rs := [31]) (by kernel_rfl) (by simp) ?_
            refine AllReadyH.cons (o := _) rfl (fun K hK => ?_) ?_
            rotate_left
            exact AllReadyH.nil
            go_simp
            refine HPu.out.mono ?_
            rintro e wp ⟨rfl, hqp⟩
            obtain ⟨Fp, hQp, htp, hFp⟩ := HQm.out.step hqp
            have HTp := hid htp; have HQp := hid hQp; clear hqp hQp htp hFp
            have nf1 : ¬ Fm gb := fun e => (HFm.out _ e).elim hngb (fun e => by omega)
            have nf2 : ¬ Fm BW := fun e => (HFm.out _ e).elim hnBW (fun e => by omega)
            have nf3 : ¬ Fm BT := fun e => (HFm.out _ e).elim hnBT (fun e => by omega)
            have sm := HTm.out.size
            have lt1 : gb < wm.heap.size := by omega
            have lt2 : BW < wm.heap.size := by omega
            have lt3 : BT < wm.heap.size := by omega
            refine hK.out _ _ ?_ (fun hH2 => ?_)
            · ((try dsimp only); (refine ⟨?_, ?_, ?_, ?_, ?_, ?_⟩ <;> repeat (with_reducible first | assumption | refine kCd ?_ | refine kCt HTp.out (by assumption) (by assumption) ?_)))
            clear hK K
            try simp only [Act.put, List.setIfInBounds_toArray, List.set_cons_zero, List.set_cons_succ]
            refine wpAnyH_take (i := 32) (v := ?_) rfl (by kernel_rfl) (by kernel_rfl) (by kernel_rfl) (fun _ _ _ h => h) (Or.inl ⟨by rfl, ?_⟩) (by assumption) ?_
            rotate_left
            (focus (intro w0 hSw; (try dsimp only at hSw); go_simp <;> with_reducible rfl))
            simp only [List.getElem_toArray, List.getElem_cons_succ, List.getElem_cons_zero, Act.put, List.setIfInBounds_toArray, List.set_cons_zero, List.set_cons_succ]
            refine wpAnyH_take (i := 33) (v := ?_) rfl (by kernel_rfl) (by kernel_rfl) (by kernel_rfl) (fun _ _ _ h => h) (Or.inl ⟨by rfl, ?_⟩) (by assumption) ?_
            rotate_left
            (focus (intro w0 hSw; (try dsimp only at hSw); go_simp <;> with_reducible rfl))
            simp only [List.getElem_toArray, List.getElem_cons_succ, List.getElem_cons_zero, Act.put, List.setIfInBounds_toArray, List.set_cons_zero, List.set_cons_succ]
            have hH2c := hH2
            obtain ⟨r0, r1, r2, r3, r4, r5⟩ := hH2c
            refine wpAnyH_ready (rs := [34]) (by kernel_rfl) (by simp) ?_
            refine AllReadyH.cons (o := _) rfl (fun K hK => ?_) ?_
            rotate_left
            exact AllReadyH.nil
            go_simp
            refine hK.out _ _ ?_ (fun hH3 => ?_)
            · ((try dsimp only); (refine ⟨?_, ?_, ?_, ?_, ?_, ?_⟩ <;> repeat (with_reducible first | assumption | refine kCd ?_)))
            clear hK K
            try simp only [Act.put, List.setIfInBounds_toArray, List.set_cons_zero, List.set_cons_succ]
            refine wpAnyH_done (by kernel_rfl) ?_ _
            go_wp2_with fail
            go_ret
            exact ⟨rfl, HQp.out.one.bel⟩
end Go.Proofs.Ytacgkgbhleehjaa
