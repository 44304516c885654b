/-
  Walks of container/heap's up and down over the queue's line. Walks of container/heap's down over the queue's line. append of one item to the queue's row. Walks of line's Push and Pop. The walk of line's Pop. Walks of container/heap's Push, Pop, Fix, Remove over the queue's line. Walks of container/heap's Fix and Remove over the queue's line. The queue as a set of items. Walks of New, Len, Has, Push.
-/
import Derived.Test.YtacgkgbhleehjaaZ0
import Derived.Deep.LoopGhost
import Derived.Maps.AppendAt
namespace Go.Proofs.Ytacgkgbhleehjaa
open Go.RowKit Go.Sort

/-- The first p items change places alone. -/
structure Mv (p : Nat) (d d' : Nat → Int × Int) : Prop where
  far : ∀ k, p ≤ k → d' k = d k
  mem : ∀ x, (∃ k, k < p ∧ d' k = x) ↔ (∃ k, k < p ∧ d k = x)
theorem Mv.refl (p : Nat) (d : Nat → Int × Int) : Mv p d d := ⟨fun _ _ => rfl, fun _ => .rfl⟩
theorem Mv.trans {p a b c} (h : Mv p a b) (k : Mv p b c) : Mv p a c := ⟨fun i hi => (k.far i hi).trans (h.far i hi), fun x => (k.mem x).trans (h.mem x)⟩
theorem mv_swap {p i j : Nat} (d : Nat → Int × Int) (hi : i < p) (hj : j < p) : Mv p d (swf d i j) := by
  have hb : ∀ k, k < p → (if k = i then j else if k = j then i else k) < p := fun k hk => by
    split
    · exact hj
    · split
      · exact hi
      · exact hk
  refine ⟨fun k hk => swf_ne (by omega) (by omega), fun x => ⟨fun ⟨k, hk, e⟩ => ⟨_, hb k hk, by rw [← e, swf_at]⟩, fun ⟨k, hk, e⟩ => ⟨if k = i then j else if k = j then i else k, hb k hk, ?_⟩⟩⟩
  rw [swf_at, ← e]
  congr 1
  by_cases e1 : k = i
  · subst e1; simp
  · by_cases e2 : k = j
    · subst e2; simp [e1]
    · simp [e1, e2]
theorem Tn.refl (F : Nat → Prop) (w : World) : Tn F w w := ⟨rfl, rfl, rfl, Nat.le_refl _, fun _ _ _ => rfl⟩
theorem Tn.trans {F : Nat → Prop} {a b c : World} (h : Tn F a b) (k : Tn F b c) : Tn F a c :=
  ⟨k.os.trans h.os, k.tape.trans h.tape, k.output.trans h.output, Nat.le_trans h.size k.size, fun i hi hf => (k.block i (Nat.lt_of_lt_of_le hi h.size) hf).trans (h.block i hi hf)⟩
theorem Tn.of_below {F : Nat → Prop} {w w' : World} (h : Below w.heap.size w w') : Tn F w w' := ⟨h.os, h.tape, h.output, h.size, fun k hk _ => h.block k hk⟩
theorem m_less (k : Nat) (a : Addr) (w : World) : (method (k + 1) 62 (.pointer (some a)) "Less").run Try.prog w = .ok (75, .pointer (some a)) w := by kernel_rfl
theorem m_swap (k : Nat) (a : Addr) (w : World) : (method (k + 1) 62 (.pointer (some a)) "Swap").run Try.prog w = .ok (78, .pointer (some a)) w := by kernel_rfl
theorem m_len (k : Nat) (a : Addr) (w : World) : (method (k + 1) 62 (.pointer (some a)) "Len").run Try.prog w = .ok (27, .pointer (some a)) w := by kernel_rfl
theorem m_push (k : Nat) (a : Addr) (w : World) : (method (k + 1) 62 (.pointer (some a)) "Push").run Try.prog w = .ok (77, .pointer (some a)) w := by kernel_rfl
theorem m_pop (k : Nat) (a : Addr) (w : World) : (method (k + 1) 62 (.pointer (some a)) "Pop").run Try.prog w = .ok (76, .pointer (some a)) w := by kernel_rfl
theorem cmp_le {a b : Int × Int} (h : ahd a b) : decide (cmpI a b < 0) = true := decide_eq_true ((cmpI_neg a b).2 h)
theorem cmp_nl {a b : Int × Int} (h : ¬ ahd a b) : decide (cmpI a b < 0) = false := decide_eq_false (fun e => h ((cmpI_neg a b).1 e))
/-- Less, by the order. -/
theorem less_t {w : World} {q g cap m n : Nat} {d : Nat → Int × Int} (h : Qi w q g cap m n d) {i j : Nat} (hi : i < n) (hj : j < n) (hl : ahd (d i) (d j)) :
    Calls Try.prog 75 #[.pointer (some ⟨q, 0, none⟩), .int .i64 i, .int .i64 j] w fun e w' => e = .returned (.bool true) ∧ Below w.heap.size w w' := by
  have := less_c h hi hj
  rw [cmp_le hl] at this
  exact this
theorem less_f {w : World} {q g cap m n : Nat} {d : Nat → Int × Int} (h : Qi w q g cap m n d) {i j : Nat} (hi : i < n) (hj : j < n) (hl : ¬ ahd (d i) (d j)) :
    Calls Try.prog 75 #[.pointer (some ⟨q, 0, none⟩), .int .i64 i, .int .i64 j] w fun e w' => e = .returned (.bool false) ∧ Below w.heap.size w w' := by
  have := less_c h hi hj
  rw [cmp_nl hl] at this
  exact this
theorem half_p {j : Nat} (hj : 0 < j) : ((j : Int) - 1).tdiv 2 = (((j - 1) / 2 : Nat) : Int) := by
  obtain ⟨k, rfl⟩ : ∃ k, j = k + 1 := ⟨j - 1, by omega⟩
  simp only [Nat.add_sub_cancel]
  rw [show ((k + 1 : Nat) : Int) - 1 = (k : Int) by omega]
  exact (Int.ofNat_tdiv k 2).symm
set_option maxRecDepth 100000 in
set_option maxHeartbeats 8000000 in
theorem up_c {w : World} {q g cap m n p j0 : Nat} {d : Nat → Int × Int} (h : Qi w q g cap m n d) (hp : p ≤ n) (hj : j0 < p) (hu : Hup p d j0) :
    Calls Try.prog 39 #[.iface 62 (.pointer (some ⟨q, 0, none⟩)), .int .i64 j0] w fun e w' => e = .returned (.tuple #[]) ∧ ∃ d', Qi w' q g cap m n d' ∧ Hp p d' ∧ Mv p d d' ∧ Tn (fun k => k = g ∨ k = m) w w' := by
  have HQ := hid h; have HU := hid hu
  have hlim := h.lim
  clear h hu
  go_enter Try.func39, Try.ntmps39
  go_wp2_with fail
  go_loopw [1] (fun t wr => ∃ (j : Nat) (d' : Nat → Int × Int), j < p ∧ t = .int .i64 j ∧ Hid (Qi wr q g cap m n d') ∧ Hid (Hup p d' j) ∧ Hid (Mv p d d') ∧ Hid (Tn (fun k => k = g ∨ k = m) w wr)) (fun t _ => (intOf t).toNat)
  case atStart => exact ⟨j0, d, hj, rfl, HQ, HU, Mv.refl _ _, Tn.refl _ _⟩
  case round =>
    clear HQ HU
    obtain ⟨j, d', hjp, rfl, HQ, HU, HM, HT⟩ := hrel
    by_cases hj0 : j = 0
    · subst hj0
      go_wp2_with fail
      go_end0
      exact ⟨rfl, d', HQ.out, HU.out.done0, HM.out, HT.out⟩
    · have e1 : ((j : Int) - 1).tdiv 2 = (((j - 1) / 2 : Nat) : Int) := half_p (by omega)
      have hi0 : (j - 1) / 2 < j := by omega
      have HI := hid (show (j - 1) / 2 = (j - 1) / 2 from rfl)
      by_cases hl : ahd (d' j) (d' ((j - 1) / 2))
      · have HC := hid (less_t HQ.out (i := j) (j := (j - 1) / 2) (by omega) (by omega) hl)
        have HS := hid (HU.out.step hjp (by omega) hl)
        have HW := hid (mv_swap d' (i := (j - 1) / 2) (j := j) (p := p) (by omega) hjp)
        clear hl HU
        generalize hig : (j - 1) / 2 = i at *
        have e2 : ((i : Int) == (j : Int)) = false := by simp; omega
        have e3 : decide ((i : Int) = (j : Int)) = false := by simp; omega
        have ml := fun k => m_less k ⟨q, 0, none⟩
        have ms := fun k => m_swap k ⟨q, 0, none⟩
        have hjn : j < n := by omega
        have hin : i < n := by omega
        go_wp2_with (first
          | (go_at_call 75; refine HC.out.mono ?_; rintro e w1 ⟨rfl, hb1⟩)
          | (go_at_call 78; refine (swap_c (HQ.out.below hb1) hin hjn).mono ?_; rintro e w2 ⟨rfl, hq2, ht2⟩))
        go_roundw
        case rel => exact ⟨i, swf d' i j, by omega, rfl, hq2, HS, HM.out.trans HW.out, HT.out.trans ((Tn.of_below hb1).trans ht2)⟩
        case measure => simp [intOf]; omega
      · have HC := hid (less_f HQ.out (i := j) (j := (j - 1) / 2) (by omega) (by omega) hl)
        have HS := hid (HU.out.done hl)
        clear hl HU
        generalize hig : (j - 1) / 2 = i at *
        have e2 : ((i : Int) == (j : Int)) = false := by simp; omega
        have ml := fun k => m_less k ⟨q, 0, none⟩
        go_wp2_with (first
          | (go_at_call 75; refine HC.out.mono ?_; rintro e w1 ⟨rfl, hb1⟩))
        go_end0
        exact ⟨rfl, d', HQ.out.below hb1, HS.out, HM.out, HT.out.trans (Tn.of_below hb1)⟩
end Go.Proofs.Ytacgkgbhleehjaa
namespace Go.Proofs.Ytacgkgbhleehjaa
open Go.RowKit Go.Sort

/-- What down answers. -/
def DnAns (w : World) (q g cap m n p i0 : Nat) (d : Nat → Int × Int) (e : Ending) (w' : World) : Prop :=
  ∃ b : Bool, e = .returned (.bool b) ∧ ∃ d', Qi w' q g cap m n d' ∧ Mv p d d' ∧ Tn (fun k => k = g ∨ k = m) w w' ∧ (b = true → Hp p d') ∧ (b = false → d' = d ∧ Hup p d' i0)
set_option maxRecDepth 100000 in
set_option maxHeartbeats 8000000 in
theorem down_c {w : World} {q g cap m n p i0 : Nat} {d : Nat → Int × Int} (h : Qi w q g cap m n d) (hp : p ≤ n) (hj : i0 ≤ p) (hd : Hdn p d i0 i0) :
    Calls Try.prog 40 #[.iface 62 (.pointer (some ⟨q, 0, none⟩)), .int .i64 i0, .int .i64 p] w fun e w' => DnAns w q g cap m n p i0 d e w' := by
  have HQ := hid h; have HD := hid hd
  have hlim := h.lim
  clear h hd
  go_enter Try.func40, Try.ntmps40
  go_wp2_with fail
  go_loopw [7] (fun t wr => ∃ (i : Nat) (d' : Nat → Int × Int), i0 ≤ i ∧ i ≤ p ∧ t = .int .i64 i ∧ Hid (Qi wr q g cap m n d') ∧ Hid (Hdn p d' i0 i) ∧ Hid (i = i0 → d' = d) ∧ Hid (Mv p d d') ∧ Hid (Tn (fun k => k = g ∨ k = m) w wr)) (fun t _ => p - (intOf t).toNat)
  case atStart => exact ⟨i0, d, Nat.le_refl _, hj, rfl, HQ, HD, fun _ => rfl, Mv.refl _ _, Tn.refl _ _⟩
  case round =>
    clear HQ HD
    obtain ⟨i, d', hi0, hip, rfl, HQ, HD, HE, HM, HT⟩ := hrel
    have ml := fun k => m_less k ⟨q, 0, none⟩
    have ms := fun k => m_swap k ⟨q, 0, none⟩
    by_cases c1 : 2 * i + 1 < p
    · obtain ⟨a, ha1, ha2⟩ : ∃ a, a ≤ 2 * i + 1 ∧ 2 * i + 1 ≤ a := ⟨_, Nat.le_refl _, Nat.le_refl _⟩
      obtain ⟨b, hb1, hb2⟩ : ∃ b, b ≤ 2 * i + 2 ∧ 2 * i + 2 ≤ b := ⟨_, Nat.le_refl _, Nat.le_refl _⟩
      have ea : IntKind.i64.wrap (2 * (i : Int) + 1) = (a : Int) := by rw [IntKind.wrap_i64]; omega
      have eb : IntKind.i64.wrap ((a : Int) + 1) = (b : Int) := by rw [IntKind.wrap_i64]; omega
      have c1' : (a : Int) < (p : Int) := by omega
      clear c1
--DOWN
      by_cases c2 : b < p
      · have c2' : (b : Int) < (p : Int) := by omega
        by_cases t2 : ahd (d' b) (d' a)
        · by_cases t3 : ahd (d' b) (d' i)
          · have HJ := hid (show ∀ c, 0 < c → c < p → (c - 1) / 2 = i → ¬ ahd (d' c) (d' b) from fun c hc hn he => by
              have hk : c = a ∨ c = b := by omega
              rcases hk with rfl | rfl
              · exact ahd_asymm t2
              · exact ahd_irrefl _)
            have HC1 := hid (less_t HQ.out (i := b) (j := a) (by omega) (by omega) t2)
            have HQ1 := hid (fun W (hb : Below wr.heap.size wr W) => less_t (HQ.out.below hb) (i := b) (j := i) (by omega) (by omega) t3)
            have hbn : b < n := by omega
            have hin : i < n := by omega
            have HS := hid (HD.out.step hi0 (j := b) (by omega) (by omega) (by omega) t3 HJ.out)
            have HW := hid (mv_swap d' (i := i) (j := b) (p := p) (by omega) (by omega))
            clear t3 t2
            go_wp2_with (first
                      | (go_at_call 75; with_reducible refine HC1.out.mono ?_; rintro e w1 ⟨rfl, hw1⟩; have HB := hid hw1; clear hw1)
                      | (go_at_call 75; with_reducible refine (HQ1.out _ HB.out).mono ?_; rintro e w2 ⟨rfl, hw2⟩; have HB2 := hid (HB.out.trans (hw2.mono HB.out.size)); clear hw2)
                      | (go_at_call 78; with_reducible refine (swap_c (HQ.out.below HB2.out) hin hbn).mono ?_; rintro e w3 ⟨rfl, hq3, ht3⟩))
            go_roundw
            case rel => exact ⟨b, swf d' i b, by omega, by omega, rfl, hq3, HS, fun e => by omega, HM.out.trans HW.out, HT.out.trans ((Tn.of_below HB2.out).trans ht3)⟩
            case measure => simp [intOf]; omega
          · have HJ := hid (show ∀ c, 0 < c → c < p → (c - 1) / 2 = i → ¬ ahd (d' c) (d' b) from fun c hc hn he => by
              have hk : c = a ∨ c = b := by omega
              rcases hk with rfl | rfl
              · exact ahd_asymm t2
              · exact ahd_irrefl _)
            have HC1 := hid (less_t HQ.out (i := b) (j := a) (by omega) (by omega) t2)
            have HQ1 := hid (fun W (hb : Below wr.heap.size wr W) => less_f (HQ.out.below hb) (i := b) (j := i) (by omega) (by omega) t3)
            have hbn : b < n := by omega
            have hin : i < n := by omega
            have HN := hid (show ∀ c, 0 < c → c < p → (c - 1) / 2 = i → ¬ ahd (d' c) (d' i) from fun c hc hn he => ahd_not (HJ.out c hc hn he) t3)
            clear t3 t2
            by_cases hm : i0 < i
            · have HP := hid (HD.out.moved hm HN.out)
              have hm' : decide ((i0 : Int) < (i : Int)) = true := decide_eq_true (by omega)
              go_wp2_with (first
                        | (go_at_call 75; with_reducible refine HC1.out.mono ?_; rintro e w1 ⟨rfl, hw1⟩; have HB := hid hw1; clear hw1)
                        | (go_at_call 75; with_reducible refine (HQ1.out _ HB.out).mono ?_; rintro e w2 ⟨rfl, hw2⟩; have HB2 := hid (HB.out.trans (hw2.mono HB.out.size)); clear hw2))
              go_ret
              exact ⟨true, rfl, d', HQ.out.below HB2.out, HM.out, HT.out.trans (Tn.of_below HB2.out), fun _ => HP.out, fun e => by cases e⟩
            · obtain rfl : i = i0 := by omega
              have HP := hid (HD.out.stays HN.out)
              have HD0 := hid (HE.out rfl)
              clear HE
              have hm' : decide ((i : Int) < (i : Int)) = false := decide_eq_false (by omega)
              go_wp2_with (first
                        | (go_at_call 75; with_reducible refine HC1.out.mono ?_; rintro e w1 ⟨rfl, hw1⟩; have HB := hid hw1; clear hw1)
                        | (go_at_call 75; with_reducible refine (HQ1.out _ HB.out).mono ?_; rintro e w2 ⟨rfl, hw2⟩; have HB2 := hid (HB.out.trans (hw2.mono HB.out.size)); clear hw2))
              go_ret
              exact ⟨false, rfl, d', HQ.out.below HB2.out, HM.out, HT.out.trans (Tn.of_below HB2.out), fun e => (by cases e), fun _ => ⟨HD0.out, HP.out⟩⟩
        · by_cases t3 : ahd (d' a) (d' i)
          · have HJ := hid (show ∀ c, 0 < c → c < p → (c - 1) / 2 = i → ¬ ahd (d' c) (d' a) from fun c hc hn he => by
              have hk : c = a ∨ c = b := by omega
              rcases hk with rfl | rfl
              · exact ahd_irrefl _
              · exact t2)
            have HC1 := hid (less_f HQ.out (i := b) (j := a) (by omega) (by omega) t2)
            have HQ1 := hid (fun W (hb : Below wr.heap.size wr W) => less_t (HQ.out.below hb) (i := a) (j := i) (by omega) (by omega) t3)
            have han : a < n := by omega
            have hin : i < n := by omega
            have HS := hid (HD.out.step hi0 (j := a) (by omega) (by omega) (by omega) t3 HJ.out)
            have HW := hid (mv_swap d' (i := i) (j := a) (p := p) (by omega) (by omega))
            clear t3 t2
            go_wp2_with (first
                      | (go_at_call 75; with_reducible refine HC1.out.mono ?_; rintro e w1 ⟨rfl, hw1⟩; have HB := hid hw1; clear hw1)
                      | (go_at_call 75; with_reducible refine (HQ1.out _ HB.out).mono ?_; rintro e w2 ⟨rfl, hw2⟩; have HB2 := hid (HB.out.trans (hw2.mono HB.out.size)); clear hw2)
                      | (go_at_call 78; with_reducible refine (swap_c (HQ.out.below HB2.out) hin han).mono ?_; rintro e w3 ⟨rfl, hq3, ht3⟩))
            go_roundw
            case rel => exact ⟨a, swf d' i a, by omega, by omega, rfl, hq3, HS, fun e => by omega, HM.out.trans HW.out, HT.out.trans ((Tn.of_below HB2.out).trans ht3)⟩
            case measure => simp [intOf]; omega
          · have HJ := hid (show ∀ c, 0 < c → c < p → (c - 1) / 2 = i → ¬ ahd (d' c) (d' a) from fun c hc hn he => by
              have hk : c = a ∨ c = b := by omega
              rcases hk with rfl | rfl
              · exact ahd_irrefl _
              · exact t2)
            have HC1 := hid (less_f HQ.out (i := b) (j := a) (by omega) (by omega) t2)
            have HQ1 := hid (fun W (hb : Below wr.heap.size wr W) => less_f (HQ.out.below hb) (i := a) (j := i) (by omega) (by omega) t3)
            have han : a < n := by omega
            have hin : i < n := by omega
            have HN := hid (show ∀ c, 0 < c → c < p → (c - 1) / 2 = i → ¬ ahd (d' c) (d' i) from fun c hc hn he => ahd_not (HJ.out c hc hn he) t3)
            clear t3 t2
            by_cases hm : i0 < i
            · have HP := hid (HD.out.moved hm HN.out)
              have hm' : decide ((i0 : Int) < (i : Int)) = true := decide_eq_true (by omega)
              go_wp2_with (first
                        | (go_at_call 75; with_reducible refine HC1.out.mono ?_; rintro e w1 ⟨rfl, hw1⟩; have HB := hid hw1; clear hw1)
                        | (go_at_call 75; with_reducible refine (HQ1.out _ HB.out).mono ?_; rintro e w2 ⟨rfl, hw2⟩; have HB2 := hid (HB.out.trans (hw2.mono HB.out.size)); clear hw2))
              go_ret
              exact ⟨true, rfl, d', HQ.out.below HB2.out, HM.out, HT.out.trans (Tn.of_below HB2.out), fun _ => HP.out, fun e => by cases e⟩
            · obtain rfl : i = i0 := by omega
              have HP := hid (HD.out.stays HN.out)
              have HD0 := hid (HE.out rfl)
              clear HE
              have hm' : decide ((i : Int) < (i : Int)) = false := decide_eq_false (by omega)
              go_wp2_with (first
                        | (go_at_call 75; with_reducible refine HC1.out.mono ?_; rintro e w1 ⟨rfl, hw1⟩; have HB := hid hw1; clear hw1)
                        | (go_at_call 75; with_reducible refine (HQ1.out _ HB.out).mono ?_; rintro e w2 ⟨rfl, hw2⟩; have HB2 := hid (HB.out.trans (hw2.mono HB.out.size)); clear hw2))
              go_ret
              exact ⟨false, rfl, d', HQ.out.below HB2.out, HM.out, HT.out.trans (Tn.of_below HB2.out), fun e => (by cases e), fun _ => ⟨HD0.out, HP.out⟩⟩
      · have c2' : decide ((b : Int) < (p : Int)) = false := decide_eq_false (by omega)
        by_cases t3 : ahd (d' a) (d' i)
        · have HJ := hid (show ∀ c, 0 < c → c < p → (c - 1) / 2 = i → ¬ ahd (d' c) (d' a) from fun c hc hn he => by
            have hk : c = a ∨ c = b := by omega
            rcases hk with rfl | rfl
            · exact ahd_irrefl _
            · omega)
          have HC2 := hid (less_t HQ.out (i := a) (j := i) (by omega) (by omega) t3)
          have han : a < n := by omega
          have hin : i < n := by omega
          have HS := hid (HD.out.step hi0 (j := a) (by omega) (by omega) (by omega) t3 HJ.out)
          have HW := hid (mv_swap d' (i := i) (j := a) (p := p) (by omega) (by omega))
          clear t3 
          go_wp2_with (first
                    | (go_at_call 75; with_reducible refine HC2.out.mono ?_; rintro e w2 ⟨rfl, hw2⟩; have HB2 := hid hw2; clear hw2)
                    | (go_at_call 78; with_reducible refine (swap_c (HQ.out.below HB2.out) hin han).mono ?_; rintro e w3 ⟨rfl, hq3, ht3⟩))
          go_roundw
          case rel => exact ⟨a, swf d' i a, by omega, by omega, rfl, hq3, HS, fun e => by omega, HM.out.trans HW.out, HT.out.trans ((Tn.of_below HB2.out).trans ht3)⟩
          case measure => simp [intOf]; omega
        · have HJ := hid (show ∀ c, 0 < c → c < p → (c - 1) / 2 = i → ¬ ahd (d' c) (d' a) from fun c hc hn he => by
            have hk : c = a ∨ c = b := by omega
            rcases hk with rfl | rfl
            · exact ahd_irrefl _
            · omega)
          have HC2 := hid (less_f HQ.out (i := a) (j := i) (by omega) (by omega) t3)
          have han : a < n := by omega
          have hin : i < n := by omega
          have HN := hid (show ∀ c, 0 < c → c < p → (c - 1) / 2 = i → ¬ ahd (d' c) (d' i) from fun c hc hn he => ahd_not (HJ.out c hc hn he) t3)
          clear t3 
          by_cases hm : i0 < i
          · have HP := hid (HD.out.moved hm HN.out)
            have hm' : decide ((i0 : Int) < (i : Int)) = true := decide_eq_true (by omega)
            go_wp2_with (first
                      | (go_at_call 75; with_reducible refine HC2.out.mono ?_; rintro e w2 ⟨rfl, hw2⟩; have HB2 := hid hw2; clear hw2))
            go_ret
            exact ⟨true, rfl, d', HQ.out.below HB2.out, HM.out, HT.out.trans (Tn.of_below HB2.out), fun _ => HP.out, fun e => by cases e⟩
          · obtain rfl : i = i0 := by omega
            have HP := hid (HD.out.stays HN.out)
            have HD0 := hid (HE.out rfl)
            clear HE
            have hm' : decide ((i : Int) < (i : Int)) = false := decide_eq_false (by omega)
            go_wp2_with (first
                      | (go_at_call 75; with_reducible refine HC2.out.mono ?_; rintro e w2 ⟨rfl, hw2⟩; have HB2 := hid hw2; clear hw2))
            go_ret
            exact ⟨false, rfl, d', HQ.out.below HB2.out, HM.out, HT.out.trans (Tn.of_below HB2.out), fun e => (by cases e), fun _ => ⟨HD0.out, HP.out⟩⟩
--DOWNEND
    · have c1' : decide ((p : Int) ≤ 2 * (i : Int) + 1) = true := decide_eq_true (by omega)
      have HK := hid (fun c (hc : 0 < c) (hn : c < p) (he : (c - 1) / 2 = i) => (show False by omega))
      by_cases hm : i0 < i
      · have HP := hid (HD.out.moved hm (fun c hc hn he => (HK.out c hc hn he).elim))
        have hm' : decide ((i0 : Int) < (i : Int)) = true := decide_eq_true (by omega)
        go_wp2_with fail
        go_ret
        exact ⟨true, rfl, d', HQ.out, HM.out, HT.out, fun _ => HP.out, fun e => by cases e⟩
      · obtain rfl : i = i0 := by omega
        have HP := hid (HD.out.stays (fun c hc hn he => (HK.out c hc hn he).elim))
        have HD0 := hid (HE.out rfl)
        clear HE
        have hm' : decide ((i : Int) < (i : Int)) = false := decide_eq_false (by omega)
        go_wp2_with fail
        go_ret
        exact ⟨false, rfl, d', HQ.out, HM.out, HT.out, fun e => (by cases e), fun _ => ⟨HD0.out, HP.out⟩⟩
end Go.Proofs.Ytacgkgbhleehjaa
namespace Go.Proofs.Ytacgkgbhleehjaa
open Go.RowKit Go.Sort

/-- The cells of the first n items. -/
def flat (d : Nat → Int × Int) : Nat → List Value
  | 0 => []
  | n + 1 => flat d n ++ [.int .i64 (d n).1, .int .i64 (d n).2]
theorem flat_len (d : Nat → Int × Int) (n : Nat) : (flat d n).length = n * 2 := by
  induction n with
  | zero => rfl
  | succ n ih => simp [flat, ih]; omega
theorem flat_get {d : Nat → Int × Int} {n i : Nat} (hi : i < n) : (flat d n)[i * 2]? = some (.int .i64 (d i).1) ∧ (flat d n)[i * 2 + 1]? = some (.int .i64 (d i).2) := by
  induction n with
  | zero => omega
  | succ n ih =>
    have hl := flat_len d n
    by_cases e : i = n
    · subst e
      unfold flat
      constructor
      · rw [List.getElem?_append_right (by omega), hl]; simp
      · rw [List.getElem?_append_right (by omega), hl]; simp
    · obtain ⟨h1, h2⟩ := ih (by omega)
      unfold flat
      constructor
      · rw [List.getElem?_append_left (by omega)]; exact h1
      · rw [List.getElem?_append_left (by omega)]; exact h2
theorem flat_ext {d : Nat → Int × Int} {n : Nat} {l : List Value} (hl : l.length = n * 2) (h : ∀ i, i < n → l[i * 2]? = some (.int .i64 (d i).1) ∧ l[i * 2 + 1]? = some (.int .i64 (d i).2)) : l = flat d n := by
  apply List.ext_getElem?
  intro k
  by_cases hk : k < n * 2
  · obtain ⟨h1, h2⟩ := h (k / 2) (by omega)
    obtain ⟨h3, h4⟩ := flat_get (d := d) (n := n) (i := k / 2) (by omega)
    rcases Nat.mod_two_eq_zero_or_one k with e | e
    · have : k / 2 * 2 = k := by omega
      rw [this] at h1 h3
      rw [h1, h3]
    · have : k / 2 * 2 + 1 = k := by omega
      rw [this] at h2 h4
      rw [h2, h4]
  · rw [List.getElem?_eq_none (by omega), List.getElem?_eq_none (by rw [flat_len]; omega)]
theorem flat_congr {d d' : Nat → Int × Int} {n : Nat} (e : ∀ i, i < n → d' i = d i) : flat d' n = flat d n := by
  induction n with
  | zero => rfl
  | succ n ih => unfold flat; rw [ih (fun i hi => e i (by omega)), e n (by omega)]
/-- A row of items, or nil. -/
def Own2 (w : World) (v : Value) (n : Nat) (d : Nat → Int × Int) : Prop :=
  (v = .slice none 0 0 ∧ n = 0) ∨ ∃ g cap, v = .slice (some ⟨g, 0, none⟩) n cap ∧ Ro w g cap n d ∧ n ≤ cap ∧ cap ≤ 9223372036854775807
theorem Own2.owns {w v n d} (h : Own2 w v n d) : w.ownsRow 0 40 2 v n (flat d n) := by
  refine ⟨flat_len d n, ?_⟩
  rcases h with ⟨rfl, rfl⟩ | ⟨g, cap, rfl, hr, h1, h2⟩
  · exact .inl ⟨rfl, rfl⟩
  · obtain ⟨cur, hb, hs⟩ := hr.blk
    refine .inr ⟨g, cap, cur, rfl, Nat.zero_le _, hb, h1, by unfold maxLen; omega, hs, ?_⟩
    refine flat_ext (by simp [hs]; omega) (fun i hi => ?_)
    have c0 := hr.c0 i hi
    have c1 := hr.c1 i hi
    simp [World.cell?, hb] at c0 c1
    constructor
    · rw [List.getElem?_take_of_lt (by omega)]; simpa using c0
    · rw [List.getElem?_take_of_lt (by omega)]; simpa using c1
theorem own2_of {w v n d} (h : w.ownsRow 0 40 2 v n (flat d n)) : Own2 w v n d := by
  rcases h.2 with h | ⟨g, cap, cur, rfl, _, hb, h1, h2, hs, ht⟩
  · exact .inl h
  · refine .inr ⟨g, cap, rfl, ⟨⟨cur, hb, hs⟩, fun i hi => ?_, fun i hi => ?_⟩, h1, by unfold maxLen at h2; omega⟩
    · have := (flat_get (d := d) hi).1
      rw [← ht, List.getElem?_take_of_lt (by omega)] at this
      simp [World.cell?, hb]; simpa using this
    · have := (flat_get (d := d) hi).2
      rw [← ht, List.getElem?_take_of_lt (by omega)] at this
      simp [World.cell?, hb]; simpa using this
theorem Try.infoItem : (Try.prog.info? 40).map (fun i => (i.zero, i.size, i.bytes)) = some (some (.agg #[.int .i64 0, .int .i64 0]), 2, 16) := by kernel_rfl
theorem app_item {w : World} {v : Value} {n : Nat} {d : Nat → Int × Int} (h : Own2 w v n d) (hn : n ≤ 1000000) {g0 : Nat} {p : Int × Int} (hg : w.heap[g0]? = some (.cells #[.int .i64 p.1, .int .i64 p.2] 40 (0, 0))) :
    ∃ g cap w', (Builtin.append_ #[32, 32] 32 #[v, .slice (some ⟨g0, 0, none⟩) 1 1]).run Try.prog w = .ok (.slice (some ⟨g, 0, none⟩) (n + 1) cap) w' ∧ Ro w' g cap (n + 1) (upf d n p) ∧ n + 1 ≤ cap ∧ cap ≤ 9223372036854775807 ∧ w.grownBy w' v.ownBlock ∧ (v.ownBlock = some g ∨ g = w.heap.size) := by
  obtain ⟨i, hi, hz0, hz1, hz2⟩ := info_parts Try.infoItem
  obtain ⟨v', w', hr, ho, hgr, hnil, hat⟩ := run_append_own_at (P := Try.prog) w 0 32 32 40 i _ 2 16 Try.underlying32 hi hz0 hz1 hz2 rfl (by decide) v n (flat d n) h.owns ⟨g0, 0, none⟩ 1 1 [.int .i64 p.1, .int .i64 p.2] rfl
    (fun j u hu => by
      match j, hu with
      | 0, hu => cases hu; simp [World.cell?, hg, Addr.add]
      | 1, hu => cases hu; simp [World.cell?, hg, Addr.add]) (by intro u hu; simp at hu; rcases hu with rfl | rfl <;> rfl) (by unfold maxLen; omega) (by omega) (Nat.zero_le _)
  have e : flat d n ++ [.int .i64 p.1, .int .i64 p.2] = flat (upf d n p) (n + 1) := by
    show _ = flat (upf d n p) n ++ [.int .i64 (upf d n p n).1, .int .i64 (upf d n p n).2]
    rw [flat_congr (d := d) (d' := upf d n p) (fun i hi => upf_ne (by omega)), upf_at]
  rw [e] at ho
  rcases own2_of ho with ⟨rfl, h0⟩ | ⟨g, cap, rfl, hro, h1, h2⟩
  · omega
  · refine ⟨g, cap, w', hr, hro, h1, h2, hgr, ?_⟩
    rcases hat with hat | hat
    · left; rw [← hat]; rfl
    · right; simpa [Value.ownBlock] using hat
end Go.Proofs.Ytacgkgbhleehjaa
namespace Go.Proofs.Ytacgkgbhleehjaa
open Go.RowKit Go.Sort Go.MapKept

/-- A queue as New makes it. -/
def Qn0 (w : World) (q : Nat) : Prop := w.heap[q]? = some (.cells #[.slice none 0 0, .map none] 50 (0, 0))
theorem box_at {w : World} {a b : Value} {t : TypeId} : (w.alloc (.cells #[a, b] t)).cell? ⟨w.heap.size, 0, none⟩ = some a ∧ (w.alloc (.cells #[a, b] t)).cell? ⟨w.heap.size, 1, none⟩ = some b := cells_at (heap_alloc w _).1
theorem One.kept {b : Nat} {w w' : World} (h : One b w w') {k : Nat} (hk : k ≠ b) : w'.heap[k]? = w.heap[k]? := h.block k hk
theorem set_st {w : World} {q : Nat} {u v u' : Value} {t : TypeId} (h : w.heap[q]? = some (.cells #[u, v] t (0, 0))) : (w.setCell ⟨q, 0, none⟩ u').heap[q]? = some (.cells #[u', v] t (0, 0)) := by
  simp [World.setCell, Array.getElem?_modify, h]
theorem set_st1 {w : World} {q : Nat} {u v u' : Value} {t : TypeId} (h : w.heap[q]? = some (.cells #[u, v] t (0, 0))) : (w.setCell ⟨q, 1, none⟩ u').heap[q]? = some (.cells #[u, u'] t (0, 0)) := by
  simp [World.setCell, Array.getElem?_modify, h]
theorem plR_put {n : Nat} {d : Nat → Int × Int} {p : Int × Int} (hp : ∀ i, i < n → (d i).1 ≠ p.1) (k v : Int) : plR (n + 1) (upf d n p) k v ↔ putR (plR n d) p.1 n k v := by
  constructor
  · rintro ⟨i, hi, e1, e2⟩
    by_cases h : i = n
    · subst h; rw [upf_at] at e1; exact .inl ⟨e1.symm, e2⟩
    · rw [upf_ne h] at e1
      exact .inr ⟨fun e => hp i (by omega) (e1.trans e), i, by omega, e1, e2⟩
  · rintro (⟨e1, e2⟩ | ⟨_, i, hi, e1, e2⟩)
    · exact ⟨n, by omega, by rw [upf_at]; exact e1.symm, e2⟩
    · exact ⟨i, by omega, by rw [upf_ne (by omega)]; exact e1, e2⟩
theorem inj_put {n : Nat} {d : Nat → Int × Int} {p : Int × Int} (hp : ∀ i, i < n → (d i).1 ≠ p.1) (inj : ∀ i j, i < n → j < n → (d i).1 = (d j).1 → i = j) : ∀ i j, i < n + 1 → j < n + 1 → (upf d n p i).1 = (upf d n p j).1 → i = j := by
  intro i j hi hj he
  by_cases h1 : i = n <;> by_cases h2 : j = n
  · omega
  · subst h1; rw [upf_at, upf_ne h2] at he; exact absurd he.symm (hp j (by omega))
  · subst h2; rw [upf_at, upf_ne h1] at he; exact absurd he (hp i (by omega))
  · rw [upf_ne h1, upf_ne h2] at he; exact inj i j (by omega) (by omega) he
theorem plR_cut {n : Nat} {d : Nat → Int × Int} (inj : ∀ i j, i < n + 1 → j < n + 1 → (d i).1 = (d j).1 → i = j) (k v : Int) : plR n d k v ↔ delR (plR (n + 1) d) (d n).1 k v := by
  constructor
  · rintro ⟨i, hi, e1, e2⟩
    exact ⟨fun e => by have := inj i n (by omega) (by omega) (e1.trans e); omega, i, by omega, e1, e2⟩
  · rintro ⟨hne, i, hi, e1, e2⟩
    exact ⟨i, by have : i ≠ n := fun e => hne (by subst e; exact e1.symm); omega, e1, e2⟩
/-- What Push answers: a queue with one item more. -/
def PuAns (F : Nat → Prop) (w : World) (q n : Nat) (d : Nat → Int × Int) (m0 : Option Nat) (g0 : Option Nat) (p : Int × Int) (w' : World) : Prop :=
  ∃ g cap m, Qi w' q g cap m (n + 1) (upf d n p) ∧ Tn F w w' ∧ (g0 = some g ∨ w.heap.size ≤ g) ∧ (m0 = some m ∨ w.heap.size ≤ m)
theorem push_done {F : Nat → Prop} {w wA w1 w2 w3 w4 : World} {q m n g cap : Nat} {v : Value} {d : Nat → Int × Int} {m0 : Option Nat} {p : Int × Int}
    (hA : Tn F w wA) (hFq : F q) (hFm : F m ∨ w.heap.size ≤ m) (hFv : ∀ k, v.ownBlock = some k → F k ∨ w.heap.size ≤ k) (hqs : q < w.heap.size) (hst : wA.heap[q]? = some (.cells #[v, .map (some m)] 50 (0, 0))) (hm0 : m0 = some m ∨ w.heap.size ≤ m) (hmw : m < wA.heap.size)
    (h1 : Below wA.heap.size wA w1) (hM : Mp w2 m (putR (plR n d) p.1 n)) (o2 : One m w1 w2) (h3 : Below w2.heap.size w2 w3) (hgr : w3.grownBy w4 v.ownBlock) (hat : v.ownBlock = some g ∨ g = w3.heap.size)
    (hro : Ro w4 g cap (n + 1) (upf d n p)) (hle : n + 1 ≤ cap) (hcap : cap ≤ 9223372036854775807) (hn : n < 1000000) (hqm : q ≠ m) (hqv : v.ownBlock ≠ some q) (hmv : v.ownBlock ≠ some m)
    (hp : ∀ i, i < n → (d i).1 ≠ p.1) (inj : ∀ i j, i < n → j < n → (d i).1 = (d j).1 → i = j) : PuAns F w q n d m0 v.ownBlock p (w4.setCell ⟨q, 0, none⟩ (.slice (some ⟨g, 0, none⟩) (n + 1) cap)) := by
  have s1 := h1.size; have s2 := o2.size; have s3 := h3.size; have s4 := hgr.size; have sA := hA.size
  have hqA : q < wA.heap.size := by omega
  have hq4 : w4.heap[q]? = some (.cells #[v, .map (some m)] 50 (0, 0)) := by
    rw [hgr.block q (by omega) (fun e => hqv e.symm), h3.block q (by omega), o2.block q hqm, h1.block q hqA]; exact hst
  have hqg : q ≠ g := by
    rintro rfl
    rcases hat with hat | hat
    · exact hqv hat
    · omega
  have hset : ∀ k, k ≠ q → (w4.setCell ⟨q, 0, none⟩ (.slice (some ⟨g, 0, none⟩) (n + 1) cap)).heap[k]? = w4.heap[k]? := fun k hk => Below.heap_setCell _ _ _ _ hk
  have hm4 : w4.heap[m]? = w2.heap[m]? := by
    rw [hgr.block m (by omega) (fun e => hmv e.symm), h3.block m (by omega)]
  refine ⟨g, cap, m, ⟨set_st hq4, hro.of (hset g hqg.symm), hle, hcap, by omega, ((hM.of hm4).of (hset m hqm.symm)).congr (fun k u => plR_put hp k u), inj_put hp inj⟩, ⟨?_, ?_, ?_, ?_, fun k hk hF => ?_⟩, ?_, hm0⟩
  · exact (((hgr.os.trans h3.os).trans o2.os).trans h1.os).trans hA.os
  · exact (((hgr.tape.trans h3.tape).trans o2.tape).trans h1.tape).trans hA.tape
  · exact (((hgr.output.trans h3.output).trans o2.output).trans h1.output).trans hA.output
  · simp [World.setCell]; omega
  · have hkq : k ≠ q := fun e => hF (e ▸ hFq)
    have hkm : k ≠ m := fun e => by rcases hFm with h | h; · exact hF (e ▸ h)
                                    · omega
    have hkv : some k ≠ v.ownBlock := fun e => by rcases hFv k e.symm with h | h; · exact hF h
                                                  · omega
    rw [hset k hkq, hgr.block k (by omega) hkv, h3.block k (by omega), o2.block k hkm, h1.block k (by omega), hA.block k hk hF]
  · rcases hat with hat | hat
    · exact .inl hat
    · right; omega
theorem step_app {P : Program} {w w' : World} {ops : Array Oper} {o : Oper} {a : Act} {K : Act → World → Prop} {Q : Exit → Act → World → Prop} {E : Prop} (hgd : o.guard = none) (s x : Operand) (t : TypeId)
    (ho : o.op = .call { callee := .builtin .append, args := #[s, x], argTypes := #[t, t] }) {v u v' : Value} (hs : a.eval s = v) (hx : a.eval x = u) (hr : (Builtin.append_ #[t, t] o.type #[v, u]).run P w = .ok v' w') (hK : K (a.put o.dst v') w') : if Region.wanted o (yielded ops a.tmps) = true then Oper.wp P o a w K Q else E := by
  have hwt : Region.wanted o (yielded ops a.tmps) = true := by simp [Region.wanted, hgd]
  rw [if_pos hwt]
  unfold Oper.wp execOp
  simp only [ho, resolve, invoke, builtin, Sem.run_bind, Sem.run_pure, Result.andThen_ok, List.map_toArray, List.map_cons, List.map_nil, hs, hx, hr]
  exact hK
theorem frozen_of_block {w w' : World} {a : Addr} (h : w'.heap[a.block]? = w.heap[a.block]?) : w'.frozen? a = w.frozen? a := by simp [World.frozen?, h]
theorem frozen_alloc {w : World} {q o : Nat} {ob : Obj} (hq : q < w.heap.size) (h : w.frozen? ⟨q, o, none⟩ = false) : (w.alloc ob).frozen? ⟨q, o, none⟩ = false := (frozen_of_block (a := ⟨q, o, none⟩) ((heap_alloc w ob).2 q hq)).trans h
set_option maxRecDepth 100000 in
set_option maxHeartbeats 8000000 in
theorem pushB_c {w : World} {q g0 cap0 m n : Nat} {d : Nat → Int × Int} {p0 p1 : Int} (h : Qi w q g0 cap0 m n d) (hn : n < 1000000) (hp : ∀ i, i < n → (d i).1 ≠ p0) :
    Calls Try.prog 77 #[.pointer (some ⟨q, 0, none⟩), .iface 40 (.agg #[.int .i64 p0, .int .i64 p1])] w fun e w' => e = .returned (.tuple #[]) ∧ PuAns (fun k => k = q ∨ k = g0 ∨ k = m) w q n d (some m) (some g0) (p0, p1) w' := by
  have HQ := hid h; have HP := hid hp
  have hf0 := h.f0; have hf1 := h.f1; have hlt := h.lt
  clear h hp
  have ta : ∀ W, (Instr.typeAssert (.iface 40 (.agg #[.int .i64 p0, .int .i64 p1])) 20 40 false).run Try.prog W = .ok (.agg #[.int .i64 p0, .int .i64 p1]) W := fun W => by kernel_rfl
  have mb : ∀ W, (binOp .eql 46 (.map (some m)) (.map none)).run Try.prog W = .ok (.bool false) W := fun W => by kernel_rfl
  go_enter Try.func77, Try.ntmps77
  go_wp2_with fail
  have QB := HQ.out.below (w' := w.alloc (.cells #[.int .i64 p0, .int .i64 p1] 40)) (Below.alloc (Below.refl _ _) (Nat.le_refl _) _)
  have hB1 : Below w.heap.size w (w.alloc (.cells #[.int .i64 p0, .int .i64 p1] 40)) := (Below.refl _ _).alloc (Nat.le_refl _) _
  have b01 := box_at (w := w) (a := .int .i64 p0) (b := .int .i64 p1) (t := 40)
  have hsz : (w.alloc (.cells #[.int .i64 p0, .int .i64 p1] 40)).heap.size = w.heap.size + 1 := by simp
  generalize w.alloc (.cells #[.int .i64 p0, .int .i64 p1] 40) = wB at *
  have f0 : wB.drew.cell? ⟨q, 0, none⟩ = some (.slice (some ⟨g0, 0, none⟩) n cap0) := QB.f0
  have f1 : wB.drew.cell? ⟨q, 1, none⟩ = some (.map (some m)) := QB.f1
  have b0 : wB.drew.cell? ⟨w.heap.size, 0, none⟩ = some (.int .i64 p0) := b01.1
  have b1 : wB.drew.cell? ⟨w.heap.size, 1, none⟩ = some (.int .i64 p1) := b01.2
  have hqm : q ≠ m := QB.qm
  have hBm : w.heap.size ≠ m := by omega
  have M0 : Mp wB.drew m (plR n d) := QB.mp
  obtain ⟨w2, eu, M2, O2⟩ := M0.update (P := Try.prog) (t := 46) Try.underlying46 Try.underlying3 p0 n
  have HO2 := hid O2; have HM2 := hid M2
  have HZ := hid (show w2.drew.frozen? ⟨q, 0, none⟩ = false from (frozen_of_block (w := wB) (a := ⟨q, 0, none⟩) (O2.block q hqm)).trans (QB.qf 0))
  have HOW := hid (show Own2 ((w2.alloc (.cells #[.int .i64 p0, .int .i64 p1] 40)).drew) (.slice (some ⟨g0, 0, none⟩) n cap0) n d from .inr ⟨g0, cap0, rfl, QB.ro.of (((heap_alloc w2 _).2 g0 (by have := O2.size; have := QB.lt; show g0 < w2.heap.size; have e9 : wB.drew.heap.size = wB.heap.size := rfl; omega)).trans (O2.block g0 QB.gm)), QB.le, QB.top⟩)
  have HS := hid (show q < w2.drew.heap.size from by have := O2.size; have := QB.lt; show q < w2.heap.size; have e9 : wB.drew.heap.size = wB.heap.size := rfl; omega)
  have HBs := hid (show w.heap.size < w2.drew.heap.size from by have := O2.size; show w.heap.size < w2.heap.size; have e9 : wB.drew.heap.size = wB.heap.size := rfl; omega)
  have HQV := hid (show (Value.slice (some ⟨g0, 0, none⟩) n cap0).ownBlock ≠ some q from by simp [Value.ownBlock]; exact fun e => QB.qg e.symm)
  have HBV := hid (show (Value.slice (some ⟨g0, 0, none⟩) n cap0).ownBlock ≠ some w.heap.size from by simp [Value.ownBlock]; omega)
  have hBq : q ≠ w.heap.size := by omega
  have HQB := hid QB; have HB1 := hid hB1
  clear b01 M0 M2 O2 QB hB1 hsz
  refine wp_region_held_drew (S := (fun w' => w'.cell? ⟨q, 0, none⟩ = some (.slice (some ⟨g0, 0, none⟩) n cap0) ∧ w'.cell? ⟨q, 1, none⟩ = some (.map (some m)) ∧ w'.cell? ⟨w.heap.size, 0, none⟩ = some (.int .i64 p0) ∧ w'.cell? ⟨w.heap.size, 1, none⟩ = some (.int .i64 p1))) (by kernel_rfl) ?_ (fun hHeld => ?_)
  · (refine ⟨?_, ?_, ?_, ?_⟩ <;> repeat (with_reducible first | assumption | refine kCd ?_))
  generalize hwd : wB.drew = wC at *
  refine wpAnyH_take (i := 0) (v := ?_) rfl (by kernel_rfl) (by kernel_rfl) (by kernel_rfl) (fun _ _ _ h => h) (Or.inl ⟨by rfl, ?_⟩) (by assumption) ?_
  rotate_left
  (focus (intro w0 hSw; (try dsimp only at hSw); go_simp <;> with_reducible rfl))
  simp only [List.getElem_toArray, List.getElem_cons_zero, Act.put, List.setIfInBounds_toArray, List.set_cons_zero, List.set_cons_succ]
  refine wpAnyH_take (i := 1) (v := ?_) rfl (by kernel_rfl) (by kernel_rfl) (by kernel_rfl) (fun _ _ _ h => h) (Or.inl ⟨by rfl, ?_⟩) (by assumption) ?_
  rotate_left
  (focus (intro w0 hSw; (try dsimp only at hSw); go_simp <;> with_reducible rfl))
  simp only [List.getElem_toArray, List.getElem_cons_succ, List.getElem_cons_zero, Act.put, List.setIfInBounds_toArray, List.set_cons_zero, List.set_cons_succ]
  refine wpAnyH_take (i := 2) (v := ?_) rfl (by kernel_rfl) (by kernel_rfl) (by kernel_rfl) (fun _ _ _ h => h) (Or.inl ⟨by rfl, ?_⟩) (by assumption) ?_
  rotate_left
  (focus (intro w0 hSw; (try dsimp only at hSw); go_simp <;> with_reducible rfl))
  simp only [List.getElem_toArray, List.getElem_cons_succ, List.getElem_cons_zero, Act.put, List.setIfInBounds_toArray, List.set_cons_zero, List.set_cons_succ]
  refine wpAnyH_take (i := 3) (v := ?_) rfl (by kernel_rfl) (by kernel_rfl) (by kernel_rfl) (fun _ _ _ h => h) (Or.inl ⟨by rfl, ?_⟩) (by assumption) ?_
  rotate_left
  (focus (intro w0 hSw; (try dsimp only at hSw); go_simp <;> with_reducible rfl))
  simp only [List.getElem_toArray, List.getElem_cons_succ, List.getElem_cons_zero, Act.put, List.setIfInBounds_toArray, List.set_cons_zero, List.set_cons_succ]
  refine wpAnyH_take (i := 4) (v := ?_) rfl (by kernel_rfl) (by kernel_rfl) (by kernel_rfl) (fun _ _ _ h => h) (Or.inl ⟨by rfl, ?_⟩) (by assumption) ?_
  rotate_left
  (focus (intro w0 hSw; (try dsimp only at hSw); go_simp <;> with_reducible rfl))
  simp only [List.getElem_toArray, List.getElem_cons_succ, List.getElem_cons_zero, Act.put, List.setIfInBounds_toArray, List.set_cons_zero, List.set_cons_succ]
  refine wpAnyH_take (i := 5) (v := ?_) rfl (by kernel_rfl) (by kernel_rfl) (by kernel_rfl) (fun _ _ _ h => h) (Or.inl ⟨by rfl, ?_⟩) (by assumption) ?_
  rotate_left
  (focus (intro w0 hSw; (try dsimp only at hSw); go_simp <;> with_reducible rfl))
  simp only [List.getElem_toArray, List.getElem_cons_succ, List.getElem_cons_zero, Act.put, List.setIfInBounds_toArray, List.set_cons_zero, List.set_cons_succ]
  refine wpAnyH_take (i := 6) (v := ?_) rfl (by kernel_rfl) (by kernel_rfl) (by kernel_rfl) (fun _ _ _ h => h) (Or.inl ⟨by rfl, ?_⟩) (by assumption) ?_
  rotate_left
  (focus (intro w0 hSw; (try dsimp only at hSw); go_simp <;> with_reducible rfl))
  simp only [List.getElem_toArray, List.getElem_cons_succ, List.getElem_cons_zero, Act.put, List.setIfInBounds_toArray, List.set_cons_zero, List.set_cons_succ]
  refine wpAnyH_take (i := 7) (v := ?_) rfl (by kernel_rfl) (by kernel_rfl) (by kernel_rfl) (fun _ _ _ h => h) (Or.inl ⟨by rfl, ?_⟩) (by assumption) ?_
  rotate_left
  (focus (intro w0 hSw; (try dsimp only at hSw); go_simp <;> with_reducible rfl))
  simp only [List.getElem_toArray, List.getElem_cons_succ, List.getElem_cons_zero, Act.put, List.setIfInBounds_toArray, List.set_cons_zero, List.set_cons_succ]
  refine wpAnyH_take (i := 8) (v := ?_) rfl (by kernel_rfl) (by kernel_rfl) (by kernel_rfl) (fun _ _ _ h => h) (Or.inl ⟨by rfl, ?_⟩) (by assumption) ?_
  rotate_left
  (focus (intro w0 hSw; (try dsimp only at hSw); go_simp <;> with_reducible rfl))
  simp only [List.getElem_toArray, List.getElem_cons_succ, List.getElem_cons_zero, Act.put, List.setIfInBounds_toArray, List.set_cons_zero, List.set_cons_succ]
  refine wpAnyH_take (i := 9) (v := ?_) rfl (by kernel_rfl) (by kernel_rfl) (by kernel_rfl) (fun _ _ _ h => h) (Or.inl ⟨by rfl, ?_⟩) (by assumption) ?_
  rotate_left
  (focus (intro w0 hSw; (try dsimp only at hSw); go_simp <;> with_reducible rfl))
  simp only [List.getElem_toArray, List.getElem_cons_succ, List.getElem_cons_zero, Act.put, List.setIfInBounds_toArray, List.set_cons_zero, List.set_cons_succ]
  refine wpAnyH_take (i := 10) (v := ?_) rfl (by kernel_rfl) (by kernel_rfl) (by kernel_rfl) (fun _ _ _ h => h) (Or.inl ⟨by rfl, ?_⟩) (by assumption) ?_
  rotate_left
  (focus (intro w0 hSw; (try dsimp only at hSw); go_simp <;> with_reducible rfl))
  simp only [List.getElem_toArray, List.getElem_cons_succ, List.getElem_cons_zero, Act.put, List.setIfInBounds_toArray, List.set_cons_zero, List.set_cons_succ]
  refine wpAnyH_ready (rs := [11]) (by kernel_rfl) (by simp) ?_
  refine AllReadyH.cons (o := _) rfl (fun K hK => ?_) ?_
  rotate_left
  exact AllReadyH.nil
  go_simp
  refine hK.out _ _ ?_ (fun hG1 => ?_)
  · ((try dsimp only); (refine ⟨?_, ?_, ?_, ?_⟩ <;> repeat (with_reducible first | assumption | refine kCd ?_ | refine kCo HO2.out (by assumption) ?_)))
  clear hK K
  try simp only [Act.put, List.setIfInBounds_toArray, List.set_cons_zero, List.set_cons_succ]
  refine wpAnyH_done (by kernel_rfl) ?_ _
  go_wp2_with fail
  obtain ⟨f0, f1, b0, b1⟩ := hG1
  have f0d : w2.drew.cell? ⟨q, 0, none⟩ = some (.slice (some ⟨g0, 0, none⟩) n cap0) := f0
  have z0 : w2.drew.frozen? ⟨q, 0, none⟩ = false := HZ.out
  refine wp_region_held_drew (S := (fun w' => w'.cell? ⟨w.heap.size, 0, none⟩ = some (.int .i64 p0) ∧ w'.cell? ⟨w.heap.size, 1, none⟩ = some (.int .i64 p1))) (by kernel_rfl) ?_ (fun hHeld => ?_)
  · (refine ⟨?_, ?_⟩ <;> repeat (with_reducible first | assumption | refine kCd ?_))
  have hg0 : ((w2.alloc (.cells #[.int .i64 p0, .int .i64 p1] 40)).drew).heap[w2.heap.size]? = some (.cells #[.int .i64 p0, .int .i64 p1] 40 (0, 0)) := (heap_alloc w2 (.cells #[.int .i64 p0, .int .i64 p1] 40)).1
  obtain ⟨g, cap, w4, ea, hro, hle, hcap, hgr, hat⟩ := app_item (HOW.out) (by omega) (p := (p0, p1)) hg0
  have HR := hid hro; have HL := hid hle; have HCp := hid hcap; have HG := hid hgr; have HAt := hid hat
  have q4 : w4.cell? ⟨q, 0, none⟩ = some (.slice (some ⟨g0, 0, none⟩) n cap0) := (World.cell?_of_block (a := ⟨q, 0, none⟩) (HG.out.block q (by have := HS.out; have e9 : w2.drew.heap.size = w2.heap.size := rfl; simp; omega) (fun e => HQV.out e.symm))).trans (kCd (kCa f0d))
  have z4 : w4.frozen? ⟨q, 0, none⟩ = false := (frozen_of_block (a := ⟨q, 0, none⟩) (HG.out.block q (by have := HS.out; have e9 : w2.drew.heap.size = w2.heap.size := rfl; simp; omega) (fun e => HQV.out e.symm))).trans (frozen_alloc HS.out z0)
  have c4 : w4.cell? ⟨w.heap.size, 0, none⟩ = some (.int .i64 p0) := (World.cell?_of_block (a := ⟨w.heap.size, 0, none⟩) (HG.out.block w.heap.size (by have := HBs.out; have e9 : w2.drew.heap.size = w2.heap.size := rfl; simp; omega) (fun e => HBV.out e.symm))).trans (kCd (kCa b0))
  have c5 : w4.cell? ⟨w.heap.size, 1, none⟩ = some (.int .i64 p1) := (World.cell?_of_block (a := ⟨w.heap.size, 1, none⟩) (HG.out.block w.heap.size (by have := HBs.out; have e9 : w2.drew.heap.size = w2.heap.size := rfl; simp; omega) (fun e => HBV.out e.symm))).trans (kCd (kCa b1))
  clear hro hle hcap hgr hat hg0
  generalize hwe : (w2.alloc (.cells #[.int .i64 p0, .int .i64 p1] 40)).drew = w3 at *
  refine wpAnyH_take (i := 0) (v := ?_) rfl (by kernel_rfl) (by kernel_rfl) (by kernel_rfl) (fun _ _ _ h => h) (Or.inl ⟨by rfl, ?_⟩) (by assumption) ?_
  rotate_left
  (focus (intro w0 hSw; (try dsimp only at hSw); go_simp <;> with_reducible rfl))
  simp only [List.getElem_toArray, List.getElem_cons_zero, Act.put, List.setIfInBounds_toArray, List.set_cons_zero, List.set_cons_succ]
  refine wpAnyH_take (i := 1) (v := ?_) rfl (by kernel_rfl) (by kernel_rfl) (by kernel_rfl) (fun _ _ _ h => h) (Or.inl ⟨by rfl, ?_⟩) (by assumption) ?_
  rotate_left
  (focus (intro w0 hSw; (try dsimp only at hSw); go_simp <;> with_reducible rfl))
  simp only [List.getElem_toArray, List.getElem_cons_succ, List.getElem_cons_zero, Act.put, List.setIfInBounds_toArray, List.set_cons_zero, List.set_cons_succ]
  refine wpAnyH_take (i := 2) (v := ?_) rfl (by kernel_rfl) (by kernel_rfl) (by kernel_rfl) (fun _ _ _ h => h) (Or.inl ⟨by rfl, ?_⟩) (by assumption) ?_
  rotate_left
  (focus (intro w0 hSw; (try dsimp only at hSw); go_simp <;> with_reducible rfl))
  simp only [List.getElem_toArray, List.getElem_cons_succ, List.getElem_cons_zero, Act.put, List.setIfInBounds_toArray, List.set_cons_zero, List.set_cons_succ]
  refine wpAnyH_take (i := 3) (v := ?_) rfl (by kernel_rfl) (by kernel_rfl) (by kernel_rfl) (fun _ _ _ h => h) (Or.inl ⟨by rfl, ?_⟩) (by assumption) ?_
  rotate_left
  (focus (intro w0 hSw; (try dsimp only at hSw); go_simp <;> with_reducible rfl))
  simp only [List.getElem_toArray, List.getElem_cons_succ, List.getElem_cons_zero, Act.put, List.setIfInBounds_toArray, List.set_cons_zero, List.set_cons_succ]
  refine wpAnyH_take (i := 5) (v := ?_) rfl (by kernel_rfl) (by kernel_rfl) (by kernel_rfl) (fun _ _ _ h => h) (Or.inl ⟨by rfl, ?_⟩) (by assumption) ?_
  rotate_left
  (focus (intro w0 hSw; (try dsimp only at hSw); go_simp <;> with_reducible rfl))
  simp only [List.getElem_toArray, List.getElem_cons_succ, List.getElem_cons_zero, Act.put, List.setIfInBounds_toArray, List.set_cons_zero, List.set_cons_succ]
  refine wpAnyH_ready (rs := [4, 6]) (by kernel_rfl) (by simp) ?_
  refine AllReadyH.cons (o := _) rfl (fun K hK => ?_) ?_
  · go_simp
    refine hK.out _ _ ?_ (fun hH1 => ?_)
    · ((try dsimp only); (refine ⟨?_, ?_⟩ <;> repeat (with_reducible first | assumption | refine kCd ?_ | refine kCs1 (by assumption) ?_ | refine kCa ?_)))
    clear hK K
    try simp only [Act.put, List.setIfInBounds_toArray, List.set_cons_zero, List.set_cons_succ]
    refine wpAnyH_ready (rs := [6]) (by kernel_rfl) (by simp) ?_
    refine AllReadyH.cons (o := _) rfl (fun K hK => ?_) ?_
    rotate_left
    exact AllReadyH.nil
    go_simp
    refine hK.out _ _ ?_ (fun hHb => ?_)
    · ((try dsimp only); (refine ⟨?_, ?_⟩ <;> repeat (with_reducible first | assumption | rw [← hwe] | refine kCd ?_ | refine kCs1 (by assumption) ?_ | refine kCa ?_)))
    clear hK K
    try simp only [Act.put, List.setIfInBounds_toArray, List.set_cons_zero, List.set_cons_succ]
    refine wpAnyH_ready (rs := [7]) (by kernel_rfl) (by simp) ?_
    refine AllReadyH.cons (o := _) rfl (fun K hK => ?_) ?_
    rotate_left
    exact AllReadyH.nil
    refine step_app rfl (.tmp 31) (.tmp 33) 32 rfl rfl rfl ea ?_
    refine hK.out _ _ ?_ (fun hH2 => ?_)
    · ((try dsimp only); (refine ⟨?_, ?_⟩ <;> repeat (with_reducible first | assumption | refine kCd ?_ | refine kCs1 (by assumption) ?_ | refine kCa ?_)))
    clear hK K
    simp only [Act.put, List.setIfInBounds_toArray]
    refine wpAnyH_take (i := 8) (v := ?_) rfl (by kernel_rfl) (by kernel_rfl) (by kernel_rfl) (fun _ _ _ h => h) (Or.inl ⟨by rfl, ?_⟩) (by assumption) ?_
    rotate_left
    (focus (intro w0 hSw; (try dsimp only at hSw); go_simp <;> with_reducible rfl))
    simp only [List.getElem_toArray, List.getElem_cons_succ, List.getElem_cons_zero, Act.put, List.setIfInBounds_toArray, List.set_cons_zero, List.set_cons_succ]
    refine wpAnyH_take (i := 9) (v := ?_) rfl (by kernel_rfl) (by kernel_rfl) (by kernel_rfl) (fun _ _ _ h => h) (Or.inl ⟨by rfl, ?_⟩) (by assumption) ?_
    rotate_left
    (focus (intro w0 hSw; (try dsimp only at hSw); go_simp <;> with_reducible rfl))
    simp only [List.getElem_toArray, List.getElem_cons_succ, List.getElem_cons_zero, Act.put, List.setIfInBounds_toArray, List.set_cons_zero, List.set_cons_succ]
    refine wpAnyH_ready (rs := [10]) (by kernel_rfl) (by simp) ?_
    refine AllReadyH.cons (o := _) rfl (fun K hK => ?_) ?_
    rotate_left
    exact AllReadyH.nil
    go_simp
    refine hK.out _ _ ?_ (fun hH3 => ?_)
    · ((try dsimp only); (refine ⟨?_, ?_⟩ <;> repeat (with_reducible first | assumption | refine kCd ?_ | refine kCs1 (by assumption) ?_ | refine kCa ?_)))
    clear hK K
    try simp only [Act.put, List.setIfInBounds_toArray, List.set_cons_zero, List.set_cons_succ]
    refine wpAnyH_done (by kernel_rfl) ?_ _
    go_wp2
    go_end0
    refine ⟨rfl, ?_⟩
    subst hwd
    subst hwe
    exact push_done (F := fun k => k = q ∨ k = g0 ∨ k = m) (v := .slice (some ⟨g0, 0, none⟩) n cap0) (Tn.refl _ w) (.inl rfl) (.inl (.inr (.inr rfl))) (fun k hk => .inl (.inr (.inl (by simpa [Value.ownBlock] using hk.symm)))) HQ.out.lt.1 HQ.out.st (.inl rfl) HQ.out.lt.2.2 HB1.out HM2.out ⟨HO2.out.os, HO2.out.tape, HO2.out.output, HO2.out.size, HO2.out.block⟩ (Below.drew ((Below.refl _ w2).alloc (Nat.le_refl _) _)) HG.out HAt.out HR.out HL.out HCp.out hn hqm HQV.out (by simp [Value.ownBlock]; exact HQ.out.gm) HP.out HQ.out.inj
  refine AllReadyH.cons (o := _) rfl (fun K hK => ?_) ?_
  · go_simp
    refine hK.out _ _ ?_ (fun hH1 => ?_)
    · ((try dsimp only); (refine ⟨?_, ?_⟩ <;> repeat (with_reducible first | assumption | rw [← hwe] | refine kCd ?_ | refine kCs1 (by assumption) ?_ | refine kCa ?_)))
    clear hK K
    try simp only [Act.put, List.setIfInBounds_toArray, List.set_cons_zero, List.set_cons_succ]
    have f0e : w3.cell? ⟨q, 0, none⟩ = some (.slice (some ⟨g0, 0, none⟩) n cap0) := by rw [← hwe]; exact kCd (kCa f0d)
    have d0 := hH1.1; have d1 := hH1.2
    refine wpAnyH_ready (rs := [4]) (by kernel_rfl) (by simp) ?_
    refine AllReadyH.cons (o := _) rfl (fun K hK => ?_) ?_
    rotate_left
    exact AllReadyH.nil
    go_simp
    refine hK.out _ _ ?_ (fun hHb => ?_)
    · ((try dsimp only); (refine ⟨?_, ?_⟩ <;> repeat (with_reducible first | assumption | refine kCd ?_ | refine kCs1 (by assumption) ?_ | refine kCa ?_)))
    clear hK K
    try simp only [Act.put, List.setIfInBounds_toArray, List.set_cons_zero, List.set_cons_succ]
    refine wpAnyH_ready (rs := [7]) (by kernel_rfl) (by simp) ?_
    refine AllReadyH.cons (o := _) rfl (fun K hK => ?_) ?_
    rotate_left
    exact AllReadyH.nil
    refine step_app rfl (.tmp 31) (.tmp 33) 32 rfl rfl rfl ea ?_
    refine hK.out _ _ ?_ (fun hH2 => ?_)
    · ((try dsimp only); (refine ⟨?_, ?_⟩ <;> repeat (with_reducible first | assumption | refine kCd ?_ | refine kCs1 (by assumption) ?_ | refine kCa ?_)))
    clear hK K
    simp only [Act.put, List.setIfInBounds_toArray]
    refine wpAnyH_take (i := 8) (v := ?_) rfl (by kernel_rfl) (by kernel_rfl) (by kernel_rfl) (fun _ _ _ h => h) (Or.inl ⟨by rfl, ?_⟩) (by assumption) ?_
    rotate_left
    (focus (intro w0 hSw; (try dsimp only at hSw); go_simp <;> with_reducible rfl))
    simp only [List.getElem_toArray, List.getElem_cons_succ, List.getElem_cons_zero, Act.put, List.setIfInBounds_toArray, List.set_cons_zero, List.set_cons_succ]
    refine wpAnyH_take (i := 9) (v := ?_) rfl (by kernel_rfl) (by kernel_rfl) (by kernel_rfl) (fun _ _ _ h => h) (Or.inl ⟨by rfl, ?_⟩) (by assumption) ?_
    rotate_left
    (focus (intro w0 hSw; (try dsimp only at hSw); go_simp <;> with_reducible rfl))
    simp only [List.getElem_toArray, List.getElem_cons_succ, List.getElem_cons_zero, Act.put, List.setIfInBounds_toArray, List.set_cons_zero, List.set_cons_succ]
    refine wpAnyH_ready (rs := [10]) (by kernel_rfl) (by simp) ?_
    refine AllReadyH.cons (o := _) rfl (fun K hK => ?_) ?_
    rotate_left
    exact AllReadyH.nil
    go_simp
    refine hK.out _ _ ?_ (fun hH3 => ?_)
    · ((try dsimp only); (refine ⟨?_, ?_⟩ <;> repeat (with_reducible first | assumption | refine kCd ?_ | refine kCs1 (by assumption) ?_ | refine kCa ?_)))
    clear hK K
    try simp only [Act.put, List.setIfInBounds_toArray, List.set_cons_zero, List.set_cons_succ]
    refine wpAnyH_done (by kernel_rfl) ?_ _
    go_wp2
    go_end0
    refine ⟨rfl, ?_⟩
    subst hwd
    subst hwe
    exact push_done (F := fun k => k = q ∨ k = g0 ∨ k = m) (v := .slice (some ⟨g0, 0, none⟩) n cap0) (Tn.refl _ w) (.inl rfl) (.inl (.inr (.inr rfl))) (fun k hk => .inl (.inr (.inl (by simpa [Value.ownBlock] using hk.symm)))) HQ.out.lt.1 HQ.out.st (.inl rfl) HQ.out.lt.2.2 HB1.out HM2.out ⟨HO2.out.os, HO2.out.tape, HO2.out.output, HO2.out.size, HO2.out.block⟩ (Below.drew ((Below.refl _ w2).alloc (Nat.le_refl _) _)) HG.out HAt.out HR.out HL.out HCp.out hn hqm HQV.out (by simp [Value.ownBlock]; exact HQ.out.gm) HP.out HQ.out.inj
  exact AllReadyH.nil
set_option maxRecDepth 100000 in
set_option maxHeartbeats 8000000 in
theorem pushA_c {w : World} {q : Nat} {d : Nat → Int × Int} {p0 p1 : Int} (h : Qn0 w q) :
    Calls Try.prog 77 #[.pointer (some ⟨q, 0, none⟩), .iface 40 (.agg #[.int .i64 p0, .int .i64 p1])] w fun e w' => e = .returned (.tuple #[]) ∧ PuAns (fun k => k = q) w q 0 d none none (p0, p1) w' := by
  have HQ := hid h
  have hf0 := (cells_at h).1; have hf1 := (cells_at h).2; have hlt : q < w.heap.size := (Array.getElem?_eq_some_iff.1 h).1
  have hz1 : w.frozen? ⟨q, 1, none⟩ = false := free_at h
  have ta : ∀ W, (Instr.typeAssert (.iface 40 (.agg #[.int .i64 p0, .int .i64 p1])) 20 40 false).run Try.prog W = .ok (.agg #[.int .i64 p0, .int .i64 p1]) W := fun W => by kernel_rfl
  have mb : ∀ W, (binOp .eql 46 (.map none) (.map none)).run Try.prog W = .ok (.bool true) W := fun W => by kernel_rfl
  have hmm := @run_makeMap Try.prog
  clear h
  go_enter Try.func77, Try.ntmps77
  go_wp2_with fail
  obtain ⟨u1, hu1⟩ : ∃ x, x = w.setCell ⟨q, 1, none⟩ (.map (some (w.heap.size + 1))) := ⟨_, rfl⟩
  rw [← hu1]
  have zu : u1.heap.size = w.heap.size := by rw [hu1]; simp [World.setCell]
  have ou : ∀ k, k ≠ q → u1.heap[k]? = w.heap[k]? := fun k hk => by rw [hu1]; exact Below.heap_setCell _ _ _ _ hk
  have su : u1.heap[q]? = some (.cells #[.slice none 0 0, .map (some (w.heap.size + 1))] 50 (0, 0)) := by rw [hu1]; exact set_st1 HQ.out
  have tu : u1.os = w.os ∧ u1.tape = w.tape ∧ u1.output = w.output := by rw [hu1]; exact ⟨rfl, rfl, rfl⟩
  have c1 := heap_alloc u1 (.cells #[.int .i64 p0, .int .i64 p1] 40)
  have c2 := heap_alloc (u1.alloc (.cells #[.int .i64 p0, .int .i64 p1] 40)) (.map #[] 0)
  have es : (u1.alloc (.cells #[.int .i64 p0, .int .i64 p1] 40)).heap.size = w.heap.size + 1 := by simp [zu]
  rw [es] at c2
  rw [zu] at c1
  have sz : ((u1.alloc (.cells #[.int .i64 p0, .int .i64 p1] 40)).alloc (.map #[] 0)).heap.size = w.heap.size + 2 := by simp [zu]
  have sB : ((u1.alloc (.cells #[.int .i64 p0, .int .i64 p1] 40)).alloc (.map #[] 0)).heap[q]? = some (.cells #[.slice none 0 0, .map (some (w.heap.size + 1))] 50 (0, 0)) := ((c2.2 q (by omega)).trans (c1.2 q hlt)).trans su
  have sM := c2.1
  have sX := (c2.2 w.heap.size (by omega)).trans c1.1
  have sT : Tn (fun k => k = q) w ((u1.alloc (.cells #[.int .i64 p0, .int .i64 p1] 40)).alloc (.map #[] 0)) := ⟨tu.1, tu.2.1, tu.2.2, by omega, fun k hk hF => ((c2.2 k (by omega)).trans (c1.2 k hk)).trans (ou k hF)⟩
  generalize (u1.alloc (.cells #[.int .i64 p0, .int .i64 p1] 40)).alloc (.map #[] 0) = wB at *
  have HM1 := hid (show w.heap.size ≤ w.heap.size + 1 from by omega); have HM2' := hid (show w.heap.size + 1 < wB.heap.size from by omega)
  have hBm : w.heap.size ≠ w.heap.size + 1 := by omega
  have hqm : q ≠ w.heap.size + 1 := by omega
  generalize w.heap.size + 1 = m at *
  have f0 : wB.drew.cell? ⟨q, 0, none⟩ = some (.slice none 0 0) := (cells_at sB).1
  have f1 : wB.drew.cell? ⟨q, 1, none⟩ = some (.map (some m)) := (cells_at sB).2
  have b0 : wB.drew.cell? ⟨w.heap.size, 0, none⟩ = some (.int .i64 p0) := (cells_at sX).1
  have b1 : wB.drew.cell? ⟨w.heap.size, 1, none⟩ = some (.int .i64 p1) := (cells_at sX).2
  have M0 : Mp wB.drew m (plR 0 d) := ⟨#[], 0, sM, stamped_empty 0, by simp, fun k v => by simp [plR]⟩
  obtain ⟨w2, eu, M2, O2⟩ := M0.update (P := Try.prog) (t := 46) Try.underlying46 Try.underlying3 p0 0
  have HO2 := hid O2; have HM2 := hid M2
  have HZ := hid (show w2.drew.frozen? ⟨q, 0, none⟩ = false from (frozen_of_block (w := wB) (a := ⟨q, 0, none⟩) (O2.block q hqm)).trans (free_at sB))
  have HOW := hid (show Own2 ((w2.alloc (.cells #[.int .i64 p0, .int .i64 p1] 40)).drew) (.slice none 0 0) 0 d from .inl ⟨rfl, rfl⟩)
  have HS := hid (show q < w2.drew.heap.size from by have := O2.size; show q < w2.heap.size; have e9 : wB.drew.heap.size = wB.heap.size := rfl; omega)
  have HBs := hid (show w.heap.size < w2.drew.heap.size from by have := O2.size; show w.heap.size < w2.heap.size; have e9 : wB.drew.heap.size = wB.heap.size := rfl; omega)
  have HQV := hid (show (Value.slice none 0 0).ownBlock ≠ some q from by simp [Value.ownBlock])
  have HBV := hid (show (Value.slice none 0 0).ownBlock ≠ some w.heap.size from by simp [Value.ownBlock])
  have hBq : q ≠ w.heap.size := by omega
  have HsB := hid sB; have HsT := hid sT
  clear c1 c2 es sB sM sX sT sz M0 M2 O2 hf0 hf1 hz1 su tu ou zu hu1
  refine wp_region_held_drew (S := (fun w' => w'.cell? ⟨q, 0, none⟩ = some (.slice none 0 0) ∧ w'.cell? ⟨q, 1, none⟩ = some (.map (some m)) ∧ w'.cell? ⟨w.heap.size, 0, none⟩ = some (.int .i64 p0) ∧ w'.cell? ⟨w.heap.size, 1, none⟩ = some (.int .i64 p1))) (by kernel_rfl) ?_ (fun hHeld => ?_)
  · (refine ⟨?_, ?_, ?_, ?_⟩ <;> repeat (with_reducible first | assumption | refine kCd ?_))
  generalize hwd : wB.drew = wC at *
  refine wpAnyH_take (i := 0) (v := ?_) rfl (by kernel_rfl) (by kernel_rfl) (by kernel_rfl) (fun _ _ _ h => h) (Or.inl ⟨by rfl, ?_⟩) (by assumption) ?_
  rotate_left
  (focus (intro w0 hSw; (try dsimp only at hSw); go_simp <;> with_reducible rfl))
  simp only [List.getElem_toArray, List.getElem_cons_zero, Act.put, List.setIfInBounds_toArray, List.set_cons_zero, List.set_cons_succ]
  refine wpAnyH_take (i := 1) (v := ?_) rfl (by kernel_rfl) (by kernel_rfl) (by kernel_rfl) (fun _ _ _ h => h) (Or.inl ⟨by rfl, ?_⟩) (by assumption) ?_
  rotate_left
  (focus (intro w0 hSw; (try dsimp only at hSw); go_simp <;> with_reducible rfl))
  simp only [List.getElem_toArray, List.getElem_cons_succ, List.getElem_cons_zero, Act.put, List.setIfInBounds_toArray, List.set_cons_zero, List.set_cons_succ]
  refine wpAnyH_take (i := 2) (v := ?_) rfl (by kernel_rfl) (by kernel_rfl) (by kernel_rfl) (fun _ _ _ h => h) (Or.inl ⟨by rfl, ?_⟩) (by assumption) ?_
  rotate_left
  (focus (intro w0 hSw; (try dsimp only at hSw); go_simp <;> with_reducible rfl))
  simp only [List.getElem_toArray, List.getElem_cons_succ, List.getElem_cons_zero, Act.put, List.setIfInBounds_toArray, List.set_cons_zero, List.set_cons_succ]
  refine wpAnyH_take (i := 3) (v := ?_) rfl (by kernel_rfl) (by kernel_rfl) (by kernel_rfl) (fun _ _ _ h => h) (Or.inl ⟨by rfl, ?_⟩) (by assumption) ?_
  rotate_left
  (focus (intro w0 hSw; (try dsimp only at hSw); go_simp <;> with_reducible rfl))
  simp only [List.getElem_toArray, List.getElem_cons_succ, List.getElem_cons_zero, Act.put, List.setIfInBounds_toArray, List.set_cons_zero, List.set_cons_succ]
  refine wpAnyH_take (i := 4) (v := ?_) rfl (by kernel_rfl) (by kernel_rfl) (by kernel_rfl) (fun _ _ _ h => h) (Or.inl ⟨by rfl, ?_⟩) (by assumption) ?_
  rotate_left
  (focus (intro w0 hSw; (try dsimp only at hSw); go_simp <;> with_reducible rfl))
  simp only [List.getElem_toArray, List.getElem_cons_succ, List.getElem_cons_zero, Act.put, List.setIfInBounds_toArray, List.set_cons_zero, List.set_cons_succ]
  refine wpAnyH_take (i := 5) (v := ?_) rfl (by kernel_rfl) (by kernel_rfl) (by kernel_rfl) (fun _ _ _ h => h) (Or.inl ⟨by rfl, ?_⟩) (by assumption) ?_
  rotate_left
  (focus (intro w0 hSw; (try dsimp only at hSw); go_simp <;> with_reducible rfl))
  simp only [List.getElem_toArray, List.getElem_cons_succ, List.getElem_cons_zero, Act.put, List.setIfInBounds_toArray, List.set_cons_zero, List.set_cons_succ]
  refine wpAnyH_take (i := 6) (v := ?_) rfl (by kernel_rfl) (by kernel_rfl) (by kernel_rfl) (fun _ _ _ h => h) (Or.inl ⟨by rfl, ?_⟩) (by assumption) ?_
  rotate_left
  (focus (intro w0 hSw; (try dsimp only at hSw); go_simp <;> with_reducible rfl))
  simp only [List.getElem_toArray, List.getElem_cons_succ, List.getElem_cons_zero, Act.put, List.setIfInBounds_toArray, List.set_cons_zero, List.set_cons_succ]
  refine wpAnyH_take (i := 7) (v := ?_) rfl (by kernel_rfl) (by kernel_rfl) (by kernel_rfl) (fun _ _ _ h => h) (Or.inl ⟨by rfl, ?_⟩) (by assumption) ?_
  rotate_left
  (focus (intro w0 hSw; (try dsimp only at hSw); go_simp <;> with_reducible rfl))
  simp only [List.getElem_toArray, List.getElem_cons_succ, List.getElem_cons_zero, Act.put, List.setIfInBounds_toArray, List.set_cons_zero, List.set_cons_succ]
  refine wpAnyH_take (i := 8) (v := ?_) rfl (by kernel_rfl) (by kernel_rfl) (by kernel_rfl) (fun _ _ _ h => h) (Or.inl ⟨by rfl, ?_⟩) (by assumption) ?_
  rotate_left
  (focus (intro w0 hSw; (try dsimp only at hSw); go_simp <;> with_reducible rfl))
  simp only [List.getElem_toArray, List.getElem_cons_succ, List.getElem_cons_zero, Act.put, List.setIfInBounds_toArray, List.set_cons_zero, List.set_cons_succ]
  refine wpAnyH_take (i := 9) (v := ?_) rfl (by kernel_rfl) (by kernel_rfl) (by kernel_rfl) (fun _ _ _ h => h) (Or.inl ⟨by rfl, ?_⟩) (by assumption) ?_
  rotate_left
  (focus (intro w0 hSw; (try dsimp only at hSw); go_simp <;> with_reducible rfl))
  simp only [List.getElem_toArray, List.getElem_cons_succ, List.getElem_cons_zero, Act.put, List.setIfInBounds_toArray, List.set_cons_zero, List.set_cons_succ]
  refine wpAnyH_take (i := 10) (v := ?_) rfl (by kernel_rfl) (by kernel_rfl) (by kernel_rfl) (fun _ _ _ h => h) (Or.inl ⟨by rfl, ?_⟩) (by assumption) ?_
  rotate_left
  (focus (intro w0 hSw; (try dsimp only at hSw); go_simp <;> with_reducible rfl))
  simp only [List.getElem_toArray, List.getElem_cons_succ, List.getElem_cons_zero, Act.put, List.setIfInBounds_toArray, List.set_cons_zero, List.set_cons_succ]
  refine wpAnyH_ready (rs := [11]) (by kernel_rfl) (by simp) ?_
  refine AllReadyH.cons (o := _) rfl (fun K hK => ?_) ?_
  rotate_left
  exact AllReadyH.nil
  go_simp
  refine hK.out _ _ ?_ (fun hG1 => ?_)
  · ((try dsimp only); (refine ⟨?_, ?_, ?_, ?_⟩ <;> repeat (with_reducible first | assumption | refine kCd ?_ | refine kCo HO2.out (by assumption) ?_)))
  clear hK K
  try simp only [Act.put, List.setIfInBounds_toArray, List.set_cons_zero, List.set_cons_succ]
  refine wpAnyH_done (by kernel_rfl) ?_ _
  go_wp2_with fail
  obtain ⟨f0, f1, b0, b1⟩ := hG1
  have f0d : w2.drew.cell? ⟨q, 0, none⟩ = some (.slice none 0 0) := f0
  have z0 : w2.drew.frozen? ⟨q, 0, none⟩ = false := HZ.out
  refine wp_region_held_drew (S := (fun w' => w'.cell? ⟨w.heap.size, 0, none⟩ = some (.int .i64 p0) ∧ w'.cell? ⟨w.heap.size, 1, none⟩ = some (.int .i64 p1))) (by kernel_rfl) ?_ (fun hHeld => ?_)
  · (refine ⟨?_, ?_⟩ <;> repeat (with_reducible first | assumption | refine kCd ?_))
  have hg0 : ((w2.alloc (.cells #[.int .i64 p0, .int .i64 p1] 40)).drew).heap[w2.heap.size]? = some (.cells #[.int .i64 p0, .int .i64 p1] 40 (0, 0)) := (heap_alloc w2 (.cells #[.int .i64 p0, .int .i64 p1] 40)).1
  obtain ⟨g, cap, w4, ea, hro, hle, hcap, hgr, hat⟩ := app_item (HOW.out) (by omega) (p := (p0, p1)) hg0
  have HR := hid hro; have HL := hid hle; have HCp := hid hcap; have HG := hid hgr; have HAt := hid hat
  have q4 : w4.cell? ⟨q, 0, none⟩ = some (.slice none 0 0) := (World.cell?_of_block (a := ⟨q, 0, none⟩) (HG.out.block q (by have := HS.out; have e9 : w2.drew.heap.size = w2.heap.size := rfl; simp; omega) (fun e => HQV.out e.symm))).trans (kCd (kCa f0d))
  have z4 : w4.frozen? ⟨q, 0, none⟩ = false := (frozen_of_block (a := ⟨q, 0, none⟩) (HG.out.block q (by have := HS.out; have e9 : w2.drew.heap.size = w2.heap.size := rfl; simp; omega) (fun e => HQV.out e.symm))).trans (frozen_alloc HS.out z0)
  have c4 : w4.cell? ⟨w.heap.size, 0, none⟩ = some (.int .i64 p0) := (World.cell?_of_block (a := ⟨w.heap.size, 0, none⟩) (HG.out.block w.heap.size (by have := HBs.out; have e9 : w2.drew.heap.size = w2.heap.size := rfl; simp; omega) (fun e => HBV.out e.symm))).trans (kCd (kCa b0))
  have c5 : w4.cell? ⟨w.heap.size, 1, none⟩ = some (.int .i64 p1) := (World.cell?_of_block (a := ⟨w.heap.size, 1, none⟩) (HG.out.block w.heap.size (by have := HBs.out; have e9 : w2.drew.heap.size = w2.heap.size := rfl; simp; omega) (fun e => HBV.out e.symm))).trans (kCd (kCa b1))
  clear hro hle hcap hgr hat hg0
  generalize hwe : (w2.alloc (.cells #[.int .i64 p0, .int .i64 p1] 40)).drew = w3 at *
  refine wpAnyH_take (i := 0) (v := ?_) rfl (by kernel_rfl) (by kernel_rfl) (by kernel_rfl) (fun _ _ _ h => h) (Or.inl ⟨by rfl, ?_⟩) (by assumption) ?_
  rotate_left
  (focus (intro w0 hSw; (try dsimp only at hSw); go_simp <;> with_reducible rfl))
  simp only [List.getElem_toArray, List.getElem_cons_zero, Act.put, List.setIfInBounds_toArray, List.set_cons_zero, List.set_cons_succ]
  refine wpAnyH_take (i := 1) (v := ?_) rfl (by kernel_rfl) (by kernel_rfl) (by kernel_rfl) (fun _ _ _ h => h) (Or.inl ⟨by rfl, ?_⟩) (by assumption) ?_
  rotate_left
  (focus (intro w0 hSw; (try dsimp only at hSw); go_simp <;> with_reducible rfl))
  simp only [List.getElem_toArray, List.getElem_cons_succ, List.getElem_cons_zero, Act.put, List.setIfInBounds_toArray, List.set_cons_zero, List.set_cons_succ]
  refine wpAnyH_take (i := 2) (v := ?_) rfl (by kernel_rfl) (by kernel_rfl) (by kernel_rfl) (fun _ _ _ h => h) (Or.inl ⟨by rfl, ?_⟩) (by assumption) ?_
  rotate_left
  (focus (intro w0 hSw; (try dsimp only at hSw); go_simp <;> with_reducible rfl))
  simp only [List.getElem_toArray, List.getElem_cons_succ, List.getElem_cons_zero, Act.put, List.setIfInBounds_toArray, List.set_cons_zero, List.set_cons_succ]
  refine wpAnyH_take (i := 3) (v := ?_) rfl (by kernel_rfl) (by kernel_rfl) (by kernel_rfl) (fun _ _ _ h => h) (Or.inl ⟨by rfl, ?_⟩) (by assumption) ?_
  rotate_left
  (focus (intro w0 hSw; (try dsimp only at hSw); go_simp <;> with_reducible rfl))
  simp only [List.getElem_toArray, List.getElem_cons_succ, List.getElem_cons_zero, Act.put, List.setIfInBounds_toArray, List.set_cons_zero, List.set_cons_succ]
  refine wpAnyH_take (i := 5) (v := ?_) rfl (by kernel_rfl) (by kernel_rfl) (by kernel_rfl) (fun _ _ _ h => h) (Or.inl ⟨by rfl, ?_⟩) (by assumption) ?_
  rotate_left
  (focus (intro w0 hSw; (try dsimp only at hSw); go_simp <;> with_reducible rfl))
  simp only [List.getElem_toArray, List.getElem_cons_succ, List.getElem_cons_zero, Act.put, List.setIfInBounds_toArray, List.set_cons_zero, List.set_cons_succ]
  refine wpAnyH_ready (rs := [4, 6]) (by kernel_rfl) (by simp) ?_
  refine AllReadyH.cons (o := _) rfl (fun K hK => ?_) ?_
  · go_simp
    refine hK.out _ _ ?_ (fun hH1 => ?_)
    · ((try dsimp only); (refine ⟨?_, ?_⟩ <;> repeat (with_reducible first | assumption | refine kCd ?_ | refine kCs1 (by assumption) ?_ | refine kCa ?_)))
    clear hK K
    try simp only [Act.put, List.setIfInBounds_toArray, List.set_cons_zero, List.set_cons_succ]
    refine wpAnyH_ready (rs := [6]) (by kernel_rfl) (by simp) ?_
    refine AllReadyH.cons (o := _) rfl (fun K hK => ?_) ?_
    rotate_left
    exact AllReadyH.nil
    go_simp
    refine hK.out _ _ ?_ (fun hHb => ?_)
    · ((try dsimp only); (refine ⟨?_, ?_⟩ <;> repeat (with_reducible first | assumption | rw [← hwe] | refine kCd ?_ | refine kCs1 (by assumption) ?_ | refine kCa ?_)))
    clear hK K
    try simp only [Act.put, List.setIfInBounds_toArray, List.set_cons_zero, List.set_cons_succ]
    refine wpAnyH_ready (rs := [7]) (by kernel_rfl) (by simp) ?_
    refine AllReadyH.cons (o := _) rfl (fun K hK => ?_) ?_
    rotate_left
    exact AllReadyH.nil
    refine step_app rfl (.tmp 31) (.tmp 33) 32 rfl rfl rfl ea ?_
    refine hK.out _ _ ?_ (fun hH2 => ?_)
    · ((try dsimp only); (refine ⟨?_, ?_⟩ <;> repeat (with_reducible first | assumption | refine kCd ?_ | refine kCs1 (by assumption) ?_ | refine kCa ?_)))
    clear hK K
    simp only [Act.put, List.setIfInBounds_toArray]
    refine wpAnyH_take (i := 8) (v := ?_) rfl (by kernel_rfl) (by kernel_rfl) (by kernel_rfl) (fun _ _ _ h => h) (Or.inl ⟨by rfl, ?_⟩) (by assumption) ?_
    rotate_left
    (focus (intro w0 hSw; (try dsimp only at hSw); go_simp <;> with_reducible rfl))
    simp only [List.getElem_toArray, List.getElem_cons_succ, List.getElem_cons_zero, Act.put, List.setIfInBounds_toArray, List.set_cons_zero, List.set_cons_succ]
    refine wpAnyH_take (i := 9) (v := ?_) rfl (by kernel_rfl) (by kernel_rfl) (by kernel_rfl) (fun _ _ _ h => h) (Or.inl ⟨by rfl, ?_⟩) (by assumption) ?_
    rotate_left
    (focus (intro w0 hSw; (try dsimp only at hSw); go_simp <;> with_reducible rfl))
    simp only [List.getElem_toArray, List.getElem_cons_succ, List.getElem_cons_zero, Act.put, List.setIfInBounds_toArray, List.set_cons_zero, List.set_cons_succ]
    refine wpAnyH_ready (rs := [10]) (by kernel_rfl) (by simp) ?_
    refine AllReadyH.cons (o := _) rfl (fun K hK => ?_) ?_
    rotate_left
    exact AllReadyH.nil
    go_simp
    refine hK.out _ _ ?_ (fun hH3 => ?_)
    · ((try dsimp only); (refine ⟨?_, ?_⟩ <;> repeat (with_reducible first | assumption | refine kCd ?_ | refine kCs1 (by assumption) ?_ | refine kCa ?_)))
    clear hK K
    try simp only [Act.put, List.setIfInBounds_toArray, List.set_cons_zero, List.set_cons_succ]
    refine wpAnyH_done (by kernel_rfl) ?_ _
    go_wp2
    go_end0
    refine ⟨rfl, ?_⟩
    subst hwd
    subst hwe
    exact push_done (F := fun k => k = q) (n := 0) (v := .slice none 0 0) HsT.out rfl (.inr HM1.out) (fun k hk => by simp [Value.ownBlock] at hk) hlt HsB.out (.inr HM1.out) HM2'.out (Below.refl _ _) HM2.out ⟨HO2.out.os, HO2.out.tape, HO2.out.output, HO2.out.size, HO2.out.block⟩ (Below.drew ((Below.refl _ w2).alloc (Nat.le_refl _) _)) HG.out HAt.out HR.out HL.out HCp.out (by omega) hqm HQV.out (by simp [Value.ownBlock]) (fun i hi => by omega) (fun i j hi => by omega)
  refine AllReadyH.cons (o := _) rfl (fun K hK => ?_) ?_
  · go_simp
    refine hK.out _ _ ?_ (fun hH1 => ?_)
    · ((try dsimp only); (refine ⟨?_, ?_⟩ <;> repeat (with_reducible first | assumption | rw [← hwe] | refine kCd ?_ | refine kCs1 (by assumption) ?_ | refine kCa ?_)))
    clear hK K
    try simp only [Act.put, List.setIfInBounds_toArray, List.set_cons_zero, List.set_cons_succ]
    have f0e : w3.cell? ⟨q, 0, none⟩ = some (.slice none 0 0) := by rw [← hwe]; exact kCd (kCa f0d)
    have d0 := hH1.1; have d1 := hH1.2
    refine wpAnyH_ready (rs := [4]) (by kernel_rfl) (by simp) ?_
    refine AllReadyH.cons (o := _) rfl (fun K hK => ?_) ?_
    rotate_left
    exact AllReadyH.nil
    go_simp
    refine hK.out _ _ ?_ (fun hHb => ?_)
    · ((try dsimp only); (refine ⟨?_, ?_⟩ <;> repeat (with_reducible first | assumption | refine kCd ?_ | refine kCs1 (by assumption) ?_ | refine kCa ?_)))
    clear hK K
    try simp only [Act.put, List.setIfInBounds_toArray, List.set_cons_zero, List.set_cons_succ]
    refine wpAnyH_ready (rs := [7]) (by kernel_rfl) (by simp) ?_
    refine AllReadyH.cons (o := _) rfl (fun K hK => ?_) ?_
    rotate_left
    exact AllReadyH.nil
    refine step_app rfl (.tmp 31) (.tmp 33) 32 rfl rfl rfl ea ?_
    refine hK.out _ _ ?_ (fun hH2 => ?_)
    · ((try dsimp only); (refine ⟨?_, ?_⟩ <;> repeat (with_reducible first | assumption | refine kCd ?_ | refine kCs1 (by assumption) ?_ | refine kCa ?_)))
    clear hK K
    simp only [Act.put, List.setIfInBounds_toArray]
    refine wpAnyH_take (i := 8) (v := ?_) rfl (by kernel_rfl) (by kernel_rfl) (by kernel_rfl) (fun _ _ _ h => h) (Or.inl ⟨by rfl, ?_⟩) (by assumption) ?_
    rotate_left
    (focus (intro w0 hSw; (try dsimp only at hSw); go_simp <;> with_reducible rfl))
    simp only [List.getElem_toArray, List.getElem_cons_succ, List.getElem_cons_zero, Act.put, List.setIfInBounds_toArray, List.set_cons_zero, List.set_cons_succ]
    refine wpAnyH_take (i := 9) (v := ?_) rfl (by kernel_rfl) (by kernel_rfl) (by kernel_rfl) (fun _ _ _ h => h) (Or.inl ⟨by rfl, ?_⟩) (by assumption) ?_
    rotate_left
    (focus (intro w0 hSw; (try dsimp only at hSw); go_simp <;> with_reducible rfl))
    simp only [List.getElem_toArray, List.getElem_cons_succ, List.getElem_cons_zero, Act.put, List.setIfInBounds_toArray, List.set_cons_zero, List.set_cons_succ]
    refine wpAnyH_ready (rs := [10]) (by kernel_rfl) (by simp) ?_
    refine AllReadyH.cons (o := _) rfl (fun K hK => ?_) ?_
    rotate_left
    exact AllReadyH.nil
    go_simp
    refine hK.out _ _ ?_ (fun hH3 => ?_)
    · ((try dsimp only); (refine ⟨?_, ?_⟩ <;> repeat (with_reducible first | assumption | refine kCd ?_ | refine kCs1 (by assumption) ?_ | refine kCa ?_)))
    clear hK K
    try simp only [Act.put, List.setIfInBounds_toArray, List.set_cons_zero, List.set_cons_succ]
    refine wpAnyH_done (by kernel_rfl) ?_ _
    go_wp2
    go_end0
    refine ⟨rfl, ?_⟩
    subst hwd
    subst hwe
    exact push_done (F := fun k => k = q) (n := 0) (v := .slice none 0 0) HsT.out rfl (.inr HM1.out) (fun k hk => by simp [Value.ownBlock] at hk) hlt HsB.out (.inr HM1.out) HM2'.out (Below.refl _ _) HM2.out ⟨HO2.out.os, HO2.out.tape, HO2.out.output, HO2.out.size, HO2.out.block⟩ (Below.drew ((Below.refl _ w2).alloc (Nat.le_refl _) _)) HG.out HAt.out HR.out HL.out HCp.out (by omega) hqm HQV.out (by simp [Value.ownBlock]) (fun i hi => by omega) (fun i j hi => by omega)
  exact AllReadyH.nil
end Go.Proofs.Ytacgkgbhleehjaa
namespace Go.Proofs.Ytacgkgbhleehjaa
open Go.RowKit Go.Sort Go.MapKept

theorem step_del {P : Program} {w w' : World} {ops : Array Oper} {o : Oper} {a : Act} {K : Act → World → Prop} {Q : Exit → Act → World → Prop} {E : Prop} (hgd : o.guard = none) (s x : Operand) (t kt : TypeId)
    (ho : o.op = .call { callee := .builtin .delete, args := #[s, x], argTypes := #[t, kt] }) {v u v' : Value} (hs : a.eval s = v) (hx : a.eval x = u) (hr : (Builtin.delete_ #[t, kt] o.type #[v, u]).run P w = .ok v' w') (hK : K (a.put o.dst v') w') : if Region.wanted o (yielded ops a.tmps) = true then Oper.wp P o a w K Q else E := by
  have hwt : Region.wanted o (yielded ops a.tmps) = true := by simp [Region.wanted, hgd]
  rw [if_pos hwt]
  unfold Oper.wp execOp
  simp only [ho, resolve, invoke, builtin, Sem.run_bind, Sem.run_pure, Result.andThen_ok, List.map_toArray, List.map_cons, List.map_nil, hs, hx, hr]
  exact hK
set_option maxRecDepth 100000 in
set_option maxHeartbeats 8000000 in
theorem pop_c {w : World} {q g cap m n : Nat} {d : Nat → Int × Int} (h : Qi w q g cap m (n + 1) d) :
    Calls Try.prog 76 #[.pointer (some ⟨q, 0, none⟩)] w fun e w' => e = .returned (.iface 40 (.agg #[.int .i64 (d n).1, .int .i64 (d n).2])) ∧ Qi w' q g cap m n d ∧ Tn (fun k => k = q ∨ k = g ∨ k = m) w w' := by
  have HQ := hid h
  have f0 := h.f0; have hlt := h.lt; have hlim := h.lim; have hle := h.le; have htop := h.top
  have a0 := h.c0 n (by omega); have a1 := h.c1 n (by omega)
  obtain ⟨p0, hp0⟩ : ∃ x, (d n).1 = x := ⟨_, rfl⟩
  obtain ⟨p1, hp1⟩ : ∃ x, (d n).2 = x := ⟨_, rfl⟩
  rw [hp0] at a0; rw [hp1] at a1
  have HP := hid hp0; have HP1 := hid hp1
  have hn' : (n : Int) < (n : Int) + 1 := by omega
  clear h hp0 hp1
  go_enter Try.func76, Try.ntmps76
  go_wp2_with fail
  have hB1 : Below w.heap.size w (w.alloc (.cells #[.int .i64 p0, .int .i64 p1] 40)) := (Below.refl _ _).alloc (Nat.le_refl _) _
  have QB := HQ.out.below hB1
  have b01 := box_at (w := w) (a := .int .i64 p0) (b := .int .i64 p1) (t := 40)
  have hsz : (w.alloc (.cells #[.int .i64 p0, .int .i64 p1] 40)).heap.size = w.heap.size + 1 := by simp
  generalize w.alloc (.cells #[.int .i64 p0, .int .i64 p1] 40) = wB at *
  have f1 : wB.drew.cell? ⟨q, 1, none⟩ = some (.map (some m)) := QB.f1
  have b0 : wB.drew.cell? ⟨w.heap.size, 0, none⟩ = some (.int .i64 p0) := b01.1
  have hqm : q ≠ m := QB.qm
  have hBm : w.heap.size ≠ m := by omega
  have hBq : w.heap.size ≠ q := by omega
  have M0 : Mp wB.drew m (plR (n + 1) d) := QB.mp
  obtain ⟨w2, eu, M2, O2⟩ := M0.delete (P := Try.prog) (t := 46) Try.underlying46 Try.underlying3 p0
  have HO2 := hid O2; have HM2 := hid M2
  have g0 : w2.cell? ⟨q, 0, none⟩ = some (.slice (some ⟨g, 0, none⟩) (n + 1) cap) := (World.cell?_of_block (a := ⟨q, 0, none⟩) (O2.block q hqm)).trans QB.f0
  have gz : w2.frozen? ⟨q, 0, none⟩ = false := (frozen_of_block (w := wB) (a := ⟨q, 0, none⟩) (O2.block q hqm)).trans (QB.qf 0)
  have e0 : w2.cell? ⟨w.heap.size, 0, none⟩ = some (.int .i64 p0) := (World.cell?_of_block (w := wB) (a := ⟨w.heap.size, 0, none⟩) (O2.block w.heap.size hBm)).trans b01.1
  have e1 : w2.cell? ⟨w.heap.size, 1, none⟩ = some (.int .i64 p1) := (World.cell?_of_block (w := wB) (a := ⟨w.heap.size, 1, none⟩) (O2.block w.heap.size hBm)).trans b01.2
  have HQB := hid QB; have HB1 := hid hB1
  clear M0 M2 O2 QB hB1 b01 f0 a0 a1
  refine wp_region_held_drew (S := (fun w' => w'.cell? ⟨q, 1, none⟩ = some (.map (some m)) ∧ w'.cell? ⟨w.heap.size, 0, none⟩ = some (.int .i64 p0))) (by kernel_rfl) ?_ (fun hHeld => ?_)
  · (refine ⟨?_, ?_⟩ <;> repeat (with_reducible first | assumption | refine kCd ?_))
  generalize hwd : wB.drew = wC at *
  refine wpAnyH_take (i := 0) (v := ?_) rfl (by kernel_rfl) (by kernel_rfl) (by kernel_rfl) (fun _ _ _ h => h) (Or.inl ⟨by rfl, ?_⟩) (by assumption) ?_
  rotate_left
  (focus (intro w0 hSw; (try dsimp only at hSw); go_simp <;> with_reducible rfl))
  simp only [List.getElem_toArray, List.getElem_cons_zero, Act.put, List.setIfInBounds_toArray, List.set_cons_zero, List.set_cons_succ]
  refine wpAnyH_take (i := 1) (v := ?_) rfl (by kernel_rfl) (by kernel_rfl) (by kernel_rfl) (fun _ _ _ h => h) (Or.inl ⟨by rfl, ?_⟩) (by assumption) ?_
  rotate_left
  (focus (intro w0 hSw; (try dsimp only at hSw); go_simp <;> with_reducible rfl))
  simp only [List.getElem_toArray, List.getElem_cons_succ, List.getElem_cons_zero, Act.put, List.setIfInBounds_toArray, List.set_cons_zero, List.set_cons_succ]
  refine wpAnyH_take (i := 2) (v := ?_) rfl (by kernel_rfl) (by kernel_rfl) (by kernel_rfl) (fun _ _ _ h => h) (Or.inl ⟨by rfl, ?_⟩) (by assumption) ?_
  rotate_left
  (focus (intro w0 hSw; (try dsimp only at hSw); go_simp <;> with_reducible rfl))
  simp only [List.getElem_toArray, List.getElem_cons_succ, List.getElem_cons_zero, Act.put, List.setIfInBounds_toArray, List.set_cons_zero, List.set_cons_succ]
  refine wpAnyH_take (i := 3) (v := ?_) rfl (by kernel_rfl) (by kernel_rfl) (by kernel_rfl) (fun _ _ _ h => h) (Or.inl ⟨by rfl, ?_⟩) (by assumption) ?_
  rotate_left
  (focus (intro w0 hSw; (try dsimp only at hSw); go_simp <;> with_reducible rfl))
  simp only [List.getElem_toArray, List.getElem_cons_succ, List.getElem_cons_zero, Act.put, List.setIfInBounds_toArray, List.set_cons_zero, List.set_cons_succ]
  refine wpAnyH_take (i := 4) (v := ?_) rfl (by kernel_rfl) (by kernel_rfl) (by kernel_rfl) (fun _ _ _ h => h) (Or.inl ⟨by rfl, ?_⟩) (by assumption) ?_
  rotate_left
  (focus (intro w0 hSw; (try dsimp only at hSw); go_simp <;> with_reducible rfl))
  simp only [List.getElem_toArray, List.getElem_cons_succ, List.getElem_cons_zero, Act.put, List.setIfInBounds_toArray, List.set_cons_zero, List.set_cons_succ]
  refine wpAnyH_take (i := 5) (v := ?_) rfl (by kernel_rfl) (by kernel_rfl) (by kernel_rfl) (fun _ _ _ h => h) (Or.inl ⟨by rfl, ?_⟩) (by assumption) ?_
  rotate_left
  (focus (intro w0 hSw; (try dsimp only at hSw); go_simp <;> with_reducible rfl))
  simp only [List.getElem_toArray, List.getElem_cons_succ, List.getElem_cons_zero, Act.put, List.setIfInBounds_toArray, List.set_cons_zero, List.set_cons_succ]
  refine wpAnyH_ready (rs := [6]) (by kernel_rfl) (by simp) ?_
  refine AllReadyH.cons (o := _) rfl (fun K hK => ?_) ?_
  rotate_left
  exact AllReadyH.nil
  refine step_del rfl (.tmp 21) (.tmp 23) 46 3 rfl rfl rfl (eu _) ?_
  refine hK.out _ _ ?_ (fun hG1 => ?_)
  · ((try dsimp only); (refine ⟨?_, ?_⟩ <;> repeat (with_reducible first | assumption | refine kCd ?_ | refine kCo HO2.out (by assumption) ?_)))
  clear hK K
  refine wpAnyH_done (by kernel_rfl) ?_ _
  clear eu f1 b0 hHeld hG1
  go_wp2
  go_ret
  refine ⟨by rw [HP.out, HP1.out]; rfl, ?_⟩
  subst hwd
  have O2 := HO2.out; have QB := HQB.out; have hB1 := HB1.out; have hh := HQ.out
  have b2 : ∀ k, k ≠ m → k < w.heap.size → w2.heap[k]? = w.heap[k]? := fun k hk hl => (O2.block k hk).trans (hB1.block k hl)
  have sz2 : w2.heap.size = wB.heap.size := O2.size
  have szB := hB1.size
  have hset : ∀ k, k ≠ q → (w2.setCell ⟨q, 0, none⟩ (.slice (some ⟨g, 0, none⟩) n cap)).heap[k]? = w2.heap[k]? := fun k hk => Below.heap_setCell _ _ _ _ hk
  refine ⟨⟨set_st ((O2.block q hqm).trans QB.st), ⟨?_, fun i hi => ?_, fun i hi => ?_⟩, by omega, hh.top, by omega, ((HM2.out.of (hset m hqm.symm))).congr (fun k v => by rw [← HP.out]; exact plR_cut hh.inj k v), fun i j hi hj => hh.inj i j (by omega) (by omega)⟩, ⟨O2.os.trans hB1.os, O2.tape.trans hB1.tape, O2.output.trans hB1.output, by simp [World.setCell]; omega, fun k hk hF => ?_⟩⟩
  · have := (hh.ro.of ((hset g hh.qg.symm).trans (b2 g hh.gm hh.lt.2.1))).blk; exact this
  · exact (hh.ro.of ((hset g hh.qg.symm).trans (b2 g hh.gm hh.lt.2.1))).c0 i (by omega)
  · exact (hh.ro.of ((hset g hh.qg.symm).trans (b2 g hh.gm hh.lt.2.1))).c1 i (by omega)
  · exact (hset k (fun e => hF (.inl e))).trans (b2 k (fun e => hF (.inr (.inr e))) hk)
end Go.Proofs.Ytacgkgbhleehjaa
namespace Go.Proofs.Ytacgkgbhleehjaa
open Go.RowKit Go.Sort

theorem Tn.comp {F G : Nat → Prop} {w w1 w2 : World} (h : Tn F w w1) (k : Tn G w1 w2) (hG : ∀ i, G i → F i ∨ w.heap.size ≤ i) : Tn F w w2 :=
  ⟨k.os.trans h.os, k.tape.trans h.tape, k.output.trans h.output, Nat.le_trans h.size k.size, fun i hi hf => (k.block i (Nat.lt_of_lt_of_le hi h.size) (fun e => (hG i e).elim hf (fun e2 => by omega))).trans (h.block i hi hf)⟩
/-- A queue with one item more, a heap. -/
def PuH (F : Nat → Prop) (w : World) (q n : Nat) (d : Nat → Int × Int) (m0 g0 : Option Nat) (p : Int × Int) (w' : World) : Prop :=
  ∃ g cap m d', Qi w' q g cap m (n + 1) d' ∧ Hp (n + 1) d' ∧ Mv (n + 1) (upf d n p) d' ∧ Tn F w w' ∧ (g0 = some g ∨ w.heap.size ≤ g) ∧ (m0 = some m ∨ w.heap.size ≤ m)
theorem hup_put {n : Nat} {d : Nat → Int × Int} {p : Int × Int} (h : Hp n d) : Hup (n + 1) (upf d n p) n := by
  refine ⟨fun c h0 hc hne => ?_, fun c h0 hc hp h1 => by omega⟩
  rw [upf_ne hne, upf_ne (by omega)]
  exact h c h0 (by omega)
theorem hpush_c {F : Nat → Prop} {w : World} {q n : Nat} {d : Nat → Int × Int} {m0 g0 : Option Nat} {p0 p1 : Int} (hh : Hp n d) (hn : n < 1000000) (hF : ∀ g m, (g0 = some g ∨ w.heap.size ≤ g) → (m0 = some m ∨ w.heap.size ≤ m) → ∀ k, (k = g ∨ k = m) → F k ∨ w.heap.size ≤ k)
    (hpu : Calls Try.prog 77 #[.pointer (some ⟨q, 0, none⟩), .iface 40 (.agg #[.int .i64 p0, .int .i64 p1])] w fun e w' => e = .returned (.tuple #[]) ∧ PuAns F w q n d m0 g0 (p0, p1) w') :
    Calls Try.prog 28 #[.iface 62 (.pointer (some ⟨q, 0, none⟩)), .iface 40 (.agg #[.int .i64 p0, .int .i64 p1])] w fun e w' => e = .returned (.tuple #[]) ∧ PuH F w q n d m0 g0 (p0, p1) w' := by
  have HP := hid hpu; have HH := hid hh; have HF := hid hF
  have mu := fun k => m_push k ⟨q, 0, none⟩
  have ml := fun k => m_len k ⟨q, 0, none⟩
  clear hpu hh hF
  go_enter Try.func28, Try.ntmps28
  go_wp2_with (first
    | (go_at_call 77; refine HP.out.mono ?_; rintro e w1 ⟨rfl, g, cap, m, hq, ht, l1, l2⟩; have HQ := hid hq; have HT := hid ht; have L1 := hid l1; have L2 := hid l2; clear hq ht l1 l2)
    | (go_at_call 27; refine (len_c HQ.out.f0).mono ?_; rintro e w2 ⟨rfl, rfl⟩)
    | (go_at_call 39; refine (up_c HQ.out (Nat.le_refl _) (by omega) (hup_put HH.out)).mono ?_; rintro e w3 ⟨rfl, d', hq3, hh3, hm3, ht3⟩))
  go_end0
  exact ⟨rfl, g, cap, m, d', hq3, hh3, hm3, HT.out.comp ht3 (HF.out g m L1.out L2.out), L1.out, L2.out⟩
/-- The first item is taken out. -/
def PoH (w : World) (q g cap m n : Nat) (d : Nat → Int × Int) (e : Ending) (w' : World) : Prop :=
  e = .returned (.iface 40 (.agg #[.int .i64 (d 0).1, .int .i64 (d 0).2])) ∧ ∃ d', Qi w' q g cap m n d' ∧ Hp n d' ∧ (∀ x, (∃ k, k < n ∧ d' k = x) ↔ ∃ k, k < n + 1 ∧ k ≠ 0 ∧ d k = x) ∧ Tn (fun k => k = q ∨ k = g ∨ k = m) w w'
theorem hdn_swap {n i : Nat} {d : Nat → Int × Int} (h : Hp (n + 1) d) (hi : i ≤ n) : Hdn n (swf d i n) i i := by
  refine Hdn.start (fun c h0 hc hne hp => ?_) (fun c h0 hc hp h1 => ?_)
  · rw [swf_ne hne (by omega), swf_ne hp (by omega)]
    exact h c h0 (by omega)
  · rw [swf_ne (by omega) (by omega), swf_ne (by omega) (by omega)]
    exact h.grand h0 (by omega) hp h1
theorem cut_swap {n i : Nat} {d d' : Nat → Int × Int} (hi : i ≤ n) (hm : Mv n (swf d i n) d') (x : Int × Int) : (∃ k, k < n ∧ d' k = x) ↔ ∃ k, k < n + 1 ∧ k ≠ i ∧ d k = x := by
  rw [hm.mem x]
  constructor
  · rintro ⟨k, hk, e⟩
    by_cases h : k = i
    · subst h; rw [swf_l] at e; exact ⟨n, by omega, by omega, e⟩
    · rw [swf_ne h (by omega)] at e; exact ⟨k, by omega, h, e⟩
  · rintro ⟨k, hk, hne, e⟩
    by_cases h : k = n
    · subst h
      exact ⟨i, by omega, by rw [swf_l]; exact e⟩
    · exact ⟨k, by omega, by rw [swf_ne hne h]; exact e⟩
theorem tn3 {g m q : Nat} {w w' : World} (h : Tn (fun k => k = g ∨ k = m) w w') : Tn (fun k => k = q ∨ k = g ∨ k = m) w w' :=
  ⟨h.os, h.tape, h.output, h.size, fun k hk hf => h.block k hk (fun e => hf (.inr e))⟩
theorem hpop_c {w : World} {q g cap m n : Nat} {d : Nat → Int × Int} (h : Qi w q g cap m (n + 1) d) (hh : Hp (n + 1) d) :
    Calls Try.prog 30 #[.iface 62 (.pointer (some ⟨q, 0, none⟩))] w fun e w' => PoH w q g cap m n d e w' := by
  have HQ := hid h; have HH := hid hh
  have hlim := h.lim
  have mu := fun k => m_pop k ⟨q, 0, none⟩
  have ml := fun k => m_len k ⟨q, 0, none⟩
  have ms := fun k => m_swap k ⟨q, 0, none⟩
  clear h hh
  have HS := hid (swap_c (i := 0) (j := n) HQ.out (by omega) (by omega))
  have z0 : ((0 : Nat) : Int) = 0 := rfl
  rw [z0] at HS
  go_enter Try.func30, Try.ntmps30
  go_wp2_with (first
    | (go_at_call 27; refine (len_c HQ.out.f0).mono ?_; rintro e w2 ⟨rfl, rfl⟩)
    | (go_at_call 78; refine HS.out.mono ?_; rintro e w3 ⟨rfl, hq3, ht3⟩; have HQ3 := hid hq3; have HT3 := hid ht3; have HD := hid (down_c (i0 := 0) hq3 (Nat.le_succ n) (Nat.zero_le _) (hdn_swap HH.out (Nat.zero_le n))); rw [z0] at HD; clear hq3 ht3)
    | (go_at_call 40; refine HD.out.mono ?_; rintro e w4 ⟨b, rfl, d', hq4, hm4, ht4, hb1, hb2⟩; have HQ4 := hid hq4; have HT4 := hid ht4; have HM4 := hid hm4; have HP := hid (show Hp n d' from by cases b with | true => exact hb1 rfl | false => exact (hb2 rfl).2.done0); clear hq4 ht4 hm4 hb1 hb2)
    | (go_at_call 76; refine (pop_c HQ4.out).mono ?_; rintro e w5 ⟨rfl, hq5, ht5⟩))
  go_ret
  have e0 : d' n = d 0 := by rw [HM4.out.far n (Nat.le_refl _), swf_r]
  refine ⟨by rw [e0]; rfl, d', hq5, HP.out, fun x => cut_swap (Nat.zero_le n) HM4.out x, ((tn3 HT3.out).trans (tn3 HT4.out)).trans ht5⟩
end Go.Proofs.Ytacgkgbhleehjaa
namespace Go.Proofs.Ytacgkgbhleehjaa
open Go.RowKit Go.Sort

theorem hdn_put {n i : Nat} {d : Nat → Int × Int} {p : Int × Int} (h : Hp n d) : Hdn n (upf d i p) i i := by
  refine Hdn.start (fun c h0 hc hne hp => ?_) (fun c h0 hc hp h1 => ?_)
  · rw [upf_ne hne, upf_ne hp]
    exact h c h0 hc
  · rw [upf_ne (by omega), upf_ne (by omega)]
    exact h.grand h0 hc hp h1
/-- Down, and up where nothing sank. -/
def DuAns (w : World) (q g cap m n p : Nat) (d : Nat → Int × Int) (w' : World) : Prop :=
  ∃ d', Qi w' q g cap m n d' ∧ Hp p d' ∧ Mv p d d' ∧ Tn (fun k => k = g ∨ k = m) w w'
theorem hfix_c {w : World} {q g cap m n i : Nat} {d : Nat → Int × Int} (h : Qi w q g cap m n d) (hi : i < n) (hh : Hdn n d i i) :
    Calls Try.prog 31 #[.iface 62 (.pointer (some ⟨q, 0, none⟩)), .int .i64 i] w fun e w' => e = .returned (.tuple #[]) ∧ DuAns w q g cap m n n d w' := by
  have HQ := hid h
  have hlim := h.lim
  have ml := fun k => m_len k ⟨q, 0, none⟩
  have HD := hid (down_c h (Nat.le_refl _) (by omega) hh)
  clear h hh
  go_enter Try.func31, Try.ntmps31
  go_wp2_with (first
    | (go_at_call 27; refine (len_c HQ.out.f0).mono ?_; rintro e w2 ⟨rfl, rfl⟩)
    | (go_at_call 40; refine HD.out.mono ?_; rintro e w4 ⟨b, rfl, d', hq4, hm4, ht4, hb1, hb2⟩; have HQ4 := hid hq4; have HT4 := hid ht4; have HM4 := hid hm4; clear hq4 ht4 hm4; (cases b <;> first | (have HU := hid (hb2 rfl).2; clear hb1 hb2) | (have HU := hid (hb1 rfl); clear hb1 hb2)))
    | (go_at_call 39; refine (up_c HQ4.out (Nat.le_refl _) hi HU.out).mono ?_; rintro e w5 ⟨rfl, d5, hq5, hh5, hm5, ht5⟩))
  · go_end0
    exact ⟨rfl, d5, hq5, hh5, HM4.out.trans hm5, HT4.out.trans ht5⟩
  · go_end0
    exact ⟨rfl, d', HQ4.out, HU.out, HM4.out, HT4.out⟩
/-- An item is taken out. -/
def ReH (w : World) (q g cap m n i : Nat) (d : Nat → Int × Int) (e : Ending) (w' : World) : Prop :=
  (∃ v, e = .returned v) ∧ ∃ d', Qi w' q g cap m n d' ∧ Hp n d' ∧ (∀ x, (∃ k, k < n ∧ d' k = x) ↔ ∃ k, k < n + 1 ∧ k ≠ i ∧ d k = x) ∧ Tn (fun k => k = q ∨ k = g ∨ k = m) w w'
theorem hrem_c {w : World} {q g cap m n i : Nat} {d : Nat → Int × Int} (h : Qi w q g cap m (n + 1) d) (hh : Hp (n + 1) d) (hi : i < n + 1) :
    Calls Try.prog 29 #[.iface 62 (.pointer (some ⟨q, 0, none⟩)), .int .i64 i] w fun e w' => ReH w q g cap m n i d e w' := by
  have HQ := hid h; have HH := hid hh
  have hlim := h.lim
  have mu := fun k => m_pop k ⟨q, 0, none⟩
  have ml := fun k => m_len k ⟨q, 0, none⟩
  have ms := fun k => m_swap k ⟨q, 0, none⟩
  clear h hh
  by_cases hin : i = n
  · subst hin
    have e1 : ((i : Int) != (i : Int)) = false := by simp
    go_enter Try.func29, Try.ntmps29
    go_wp2_with (first
      | (go_at_call 27; refine (len_c HQ.out.f0).mono ?_; rintro e w2 ⟨rfl, rfl⟩)
      | (go_at_call 76; refine (pop_c HQ.out).mono ?_; rintro e w5 ⟨rfl, hq5, ht5⟩))
    go_ret
    refine ⟨⟨_, rfl⟩, d, hq5, HH.out.less (by omega), fun x => ⟨fun ⟨k, hk, e⟩ => ⟨k, by omega, by omega, e⟩, fun ⟨k, hk, hne, e⟩ => ⟨k, by omega, e⟩⟩, ht5⟩
  · have e1 : ((n : Int) != (i : Int)) = true := by simp; omega
    have HS := hid (swap_c (i := i) (j := n) HQ.out (by omega) (by omega))
    have hin' : i < n := by omega
    go_enter Try.func29, Try.ntmps29
    go_wp2_with (first
      | (go_at_call 27; refine (len_c HQ.out.f0).mono ?_; rintro e w2 ⟨rfl, rfl⟩)
      | (go_at_call 78; refine HS.out.mono ?_; rintro e w3 ⟨rfl, hq3, ht3⟩; have HQ3 := hid hq3; have HT3 := hid ht3; have HD := hid (down_c hq3 (Nat.le_succ n) (by omega) (hdn_swap HH.out (by omega))); clear hq3 ht3)
      | (go_at_call 40; refine HD.out.mono ?_; rintro e w4 ⟨b, rfl, d', hq4, hm4, ht4, hb1, hb2⟩; have HQ4 := hid hq4; have HT4 := hid ht4; have HM4 := hid hm4; clear hq4 ht4 hm4; (cases b <;> first | (have HU := hid (hb2 rfl).2; clear hb1 hb2) | (have HU := hid (hb1 rfl); clear hb1 hb2)))
      | (go_at_call 39; refine (up_c HQ4.out (Nat.le_succ n) hin' HU.out).mono ?_; rintro e w5 ⟨rfl, d5, hq5, hh5, hm5, ht5⟩; have HQ5 := hid hq5; have HH5 := hid hh5; have HM5 := hid hm5; have HT5 := hid ht5; clear hq5 hh5 hm5 ht5)
      | (go_at_call 76; first | (refine (pop_c HQ5.out).mono ?_; rintro e w6 ⟨rfl, hq6, ht6⟩) | (refine (pop_c HQ4.out).mono ?_; rintro e w6 ⟨rfl, hq6, ht6⟩)))
    · go_ret
      exact ⟨⟨_, rfl⟩, d5, hq6, HH5.out, fun x => cut_swap (by omega) (HM4.out.trans HM5.out) x, (((tn3 HT3.out).trans (tn3 HT4.out)).trans (tn3 HT5.out)).trans ht6⟩
    · go_ret
      exact ⟨⟨_, rfl⟩, d', hq6, HU.out, fun x => cut_swap (by omega) HM4.out x, ((tn3 HT3.out).trans (tn3 HT4.out)).trans ht6⟩
end Go.Proofs.Ytacgkgbhleehjaa
namespace Go.Proofs.Ytacgkgbhleehjaa
open Go.RowKit Go.Sort Go.MapKept

/-- The queue at block q, whose blocks are F, has n items, A. -/
def Qu (w : World) (q : Nat) (F : Nat → Prop) (n : Nat) (A : Int × Int → Prop) : Prop :=
  (Qn0 w q ∧ n = 0 ∧ (∀ x, ¬ A x) ∧ ∀ k, F k ↔ k = q) ∨ ∃ g cap m d, Qi w q g cap m n d ∧ Hp n d ∧ (∀ x, A x ↔ ∃ i, i < n ∧ d i = x) ∧ ∀ k, F k ↔ (k = q ∨ k = g ∨ k = m)
theorem Qu.self {w q F n A} (h : Qu w q F n A) : F q := by
  rcases h with ⟨_, _, _, h⟩ | ⟨g, cap, m, d, _, _, _, h⟩
  · exact (h q).2 rfl
  · exact (h q).2 (.inl rfl)
theorem Qu.lt {w q F n A} (h : Qu w q F n A) : ∀ k, F k → k < w.heap.size := by
  intro k hk
  rcases h with ⟨h0, _, _, h⟩ | ⟨g, cap, m, d, h0, _, _, h⟩
  · have := (h k).1 hk; subst this; exact (Array.getElem?_eq_some_iff.1 h0).1
  · rcases (h k).1 hk with rfl | rfl | rfl
    · exact h0.lt.1
    · exact h0.lt.2.1
    · exact h0.lt.2.2
theorem Qu.of {w w' q F n A} (h : Qu w q F n A) (hb : ∀ k, F k → w'.heap[k]? = w.heap[k]?) : Qu w' q F n A := by
  rcases h with ⟨h0, h1, h2, h3⟩ | ⟨g, cap, m, d, h0, h1, h2, h3⟩
  · exact .inl ⟨(hb q ((h3 q).2 rfl)).trans h0, h1, h2, h3⟩
  · exact .inr ⟨g, cap, m, d, h0.of (hb q ((h3 q).2 (.inl rfl))) (hb g ((h3 g).2 (.inr (.inl rfl)))) (hb m ((h3 m).2 (.inr (.inr rfl)))), h1, h2, h3⟩
theorem Qu.below {w w' q F n A} (h : Qu w q F n A) (hb : Below w.heap.size w w') : Qu w' q F n A := h.of (fun k hk => hb.block k (h.lt k hk))
theorem Qu.congr {w q F n A A'} (h : Qu w q F n A) (e : ∀ x, A' x ↔ A x) : Qu w q F n A' := by
  rcases h with ⟨h0, h1, h2, h3⟩ | ⟨g, cap, m, d, h0, h1, h2, h3⟩
  · exact .inl ⟨h0, h1, fun x hx => h2 x ((e x).1 hx), h3⟩
  · exact .inr ⟨g, cap, m, d, h0, h1, fun x => (e x).trans (h2 x), h3⟩
/-- No number twice. -/
theorem Qu.uniq {w q F n A} (h : Qu w q F n A) {x y : Int × Int} (hx : A x) (hy : A y) (e : x.1 = y.1) : x = y := by
  rcases h with ⟨_, _, h2, _⟩ | ⟨g, cap, m, d, h0, h1, h2, h3⟩
  · exact absurd hx (h2 x)
  · obtain ⟨i, hi, rfl⟩ := (h2 x).1 hx
    obtain ⟨j, hj, rfl⟩ := (h2 y).1 hy
    rw [h0.inj i j hi hj e]
/-- The queue's field that tells its items. -/
theorem Qu.f0 {w q F n A} (h : Qu w q F n A) : ∃ ao cap, w.cell? ⟨q, 0, none⟩ = some (.slice ao n cap) := by
  rcases h with ⟨h0, h1, _⟩ | ⟨g, cap, m, d, h0, _⟩
  · subst h1; exact ⟨none, 0, (cells_at h0).1⟩
  · exact ⟨_, _, h0.f0⟩
theorem new_c (w : World) : Calls Try.prog 8 #[] w fun e w' => e = .returned (.pointer (some ⟨w.heap.size, 0, none⟩)) ∧ w' = w.alloc (.cells #[.slice none 0 0, .map none] 50) := by
  go_enter Try.func8, Try.ntmps8
  go_wp2
  go_ret
  exact ⟨rfl, rfl⟩
theorem qu_new (w : World) : Qu (w.alloc (.cells #[.slice none 0 0, .map none] 50)) w.heap.size (fun k => k = w.heap.size) 0 (fun _ => False) :=
  .inl ⟨(heap_alloc w _).1, rfl, fun _ h => h, fun _ => .rfl⟩
theorem qlenN_c (w : World) : Calls Try.prog 12 #[.pointer none] w fun e w' => e = .returned (.int .i64 0) ∧ w' = w := by
  go_enter Try.func12, Try.ntmps12
  go_wp2
  go_ret
  exact ⟨rfl, rfl⟩
theorem qlen_c {w : World} {q n : Nat} {F : Nat → Prop} {A : Int × Int → Prop} (h : Qu w q F n A) : Calls Try.prog 12 #[.pointer (some ⟨q, 0, none⟩)] w fun e w' => e = .returned (.int .i64 n) ∧ w' = w := by
  obtain ⟨ao, cap, f0⟩ := h.f0
  clear h
  go_enter Try.func12, Try.ntmps12
  go_wp2_with (go_at_call 27; refine (len_c f0).mono ?_; rintro e w2 ⟨rfl, rfl⟩)
  go_ret
  exact ⟨rfl, rfl⟩
theorem zeroInt (w : World) : (zeroValue 3).run Try.prog w = .ok (.int .i64 0) w := by kernel_rfl
theorem hasN_c (w : World) (id : Int) : Calls Try.prog 15 #[.pointer none, .int .i64 id] w fun e w' => e = .returned (.bool false) ∧ w' = w := by
  go_enter Try.func15, Try.ntmps15
  go_wp2
  go_ret
  exact ⟨rfl, rfl⟩
/-- What a look into the map answers. -/
theorem Qu.look {w q F n A} (h : Qu w q F n A) (id : Int) (b : Bool) (hb : b = true ↔ ∃ key, A (id, key)) : ∃ mo v, w.cell? ⟨q, 1, none⟩ = some (.map mo) ∧ (Instr.lookup 46 (.map mo) (.int .i64 id) true).run Try.prog w = .ok (.tuple #[.int .i64 v, .bool b]) w := by
  rcases h with ⟨h0, h1, h2, h3⟩ | ⟨g, cap, m, d, h0, h1, h2, h3⟩
  · refine ⟨none, 0, (cells_at h0).2, ?_⟩
    have hf : b = false := by
      cases b with
      | false => rfl
      | true => obtain ⟨key, hk⟩ := hb.1 rfl; exact absurd hk (h2 _)
    subst hf
    have := look_nilmap (P := Try.prog) (t := 46) (k := id) (w := w) Try.underlying46 Try.underlying3 (zeroInt w) true
    simpa using this
  · cases b with
    | true =>
      obtain ⟨key, hk⟩ := hb.1 rfl
      obtain ⟨i, hi, e⟩ := (h2 _).1 hk
      refine ⟨some m, i, h0.f1, ?_⟩
      have := h0.mp.look (P := Try.prog) (t := 46) Try.underlying46 Try.underlying3 (k := id) (v := i) ⟨i, hi, by rw [e], rfl⟩ true
      simpa using this
    | false =>
      refine ⟨some m, 0, h0.f1, ?_⟩
      have := h0.mp.miss (P := Try.prog) (t := 46) Try.underlying46 Try.underlying3 (zeroInt w) (k := id) (fun v ⟨i, hi, e, _⟩ => by
        have : A (id, (d i).2) := (h2 _).2 ⟨i, hi, by rw [← e]⟩
        have := hb.2 ⟨_, this⟩
        cases this) true
      simpa using this
theorem has_c {w : World} {q n : Nat} {F : Nat → Prop} {A : Int × Int → Prop} (h : Qu w q F n A) (id : Int) (b : Bool) (hb : b = true ↔ ∃ key, A (id, key)) : Calls Try.prog 15 #[.pointer (some ⟨q, 0, none⟩), .int .i64 id] w fun e w' => e = .returned (.bool b) ∧ w' = w := by
  obtain ⟨mo, v, f1, hl⟩ := h.look id b hb
  clear h hb
  go_enter Try.func15, Try.ntmps15
  go_wp2
  go_ret
  exact ⟨rfl, rfl⟩
/-- A queue behind a call: what has turned lies in its blocks, or is new. -/
def QuA (w : World) (q : Nat) (F : Nat → Prop) (n' : Nat) (A' : Int × Int → Prop) (w' : World) : Prop :=
  ∃ F', Qu w' q F' n' A' ∧ Tn F w w' ∧ ∀ k, F' k → F k ∨ w.heap.size ≤ k
theorem pushE_c {w : World} {q n : Nat} {F : Nat → Prop} {A : Int × Int → Prop} (h : Qu w q F n A) (id key : Int) (hb : ∃ key, A (id, key)) :
    Calls Try.prog 13 #[.pointer (some ⟨q, 0, none⟩), .int .i64 id, .int .i64 key] w fun e w' => e = .returned (.int .i64 6) ∧ w' = w := by
  have HC := hid (has_c h id true ⟨fun _ => hb, fun _ => rfl⟩)
  clear h hb
  go_enter Try.func13, Try.ntmps13
  go_wp2_with (go_at_call 15; refine HC.out.mono ?_; rintro e w2 ⟨rfl, rfl⟩)
  go_ret
  exact ⟨rfl, rfl⟩
theorem pushF_c {w : World} {q n : Nat} {F : Nat → Prop} {A : Int × Int → Prop} (h : Qu w q F n A) (id key : Int) (hb : ¬ ∃ key, A (id, key)) (hn : 4096 ≤ n) :
    Calls Try.prog 13 #[.pointer (some ⟨q, 0, none⟩), .int .i64 id, .int .i64 key] w fun e w' => e = .returned (.int .i64 10) ∧ w' = w := by
  have HC := hid (has_c h id false ⟨fun e => (by cases e), fun e => absurd e hb⟩)
  have HL := hid (qlen_c h)
  have hn' : decide ((4096 : Int) ≤ n) = true := decide_eq_true (by omega)
  clear h hb
  go_enter Try.func13, Try.ntmps13
  go_wp2_with (first
    | (go_at_call 15; refine HC.out.mono ?_; rintro e w2 ⟨rfl, rfl⟩)
    | (go_at_call 12; refine HL.out.mono ?_; rintro e w3 ⟨rfl, rfl⟩))
  go_ret
  exact ⟨rfl, rfl⟩
theorem hp_zero (d : Nat → Int × Int) : Hp 0 d := fun c _ hc => by omega
theorem qpush_c {w : World} {q n : Nat} {F : Nat → Prop} {A : Int × Int → Prop} (h : Qu w q F n A) (id key : Int) (hb : ¬ ∃ key, A (id, key)) (hn : n < 4096) :
    Calls Try.prog 13 #[.pointer (some ⟨q, 0, none⟩), .int .i64 id, .int .i64 key] w fun e w' => e = .returned (.int .i64 0) ∧ QuA w q F (n + 1) (fun x => A x ∨ x = (id, key)) w' := by
  have HC := hid (has_c h id false ⟨fun e => (by cases e), fun e => absurd e hb⟩)
  have HL := hid (qlen_c h)
  have hn' : decide ((4096 : Int) ≤ n) = false := decide_eq_false (by omega)
  have HP : Hid (Calls Try.prog 28 #[.iface 62 (.pointer (some ⟨q, 0, none⟩)), .iface 40 (.agg #[.int .i64 id, .int .i64 key])] w fun e w' => e = .returned (.tuple #[]) ∧ QuA w q F (n + 1) (fun x => A x ∨ x = (id, key)) w') := by
    rcases h with ⟨h0, rfl, h2, h3⟩ | ⟨g, cap, m, d, h0, h1, h2, h3⟩
    · refine hid ((hpush_c (F := fun k => k = q) (d := fun _ => (0, 0)) (hp_zero _) (by omega) (fun g m l1 l2 k hk => .inr ?_) (pushA_c h0)).mono ?_)
      · rcases l1 with l1 | l1 <;> rcases l2 with l2 | l2 <;> first | (cases l1; done) | (cases l2; done) | (rcases hk with rfl | rfl <;> assumption)
      · rintro e w' ⟨rfl, g, cap, m, d', hq, hh, hm, ht, l1, l2⟩
        refine ⟨rfl, _, .inr ⟨g, cap, m, d', hq, hh, fun x => ?_, fun k => .rfl⟩, ⟨ht.os, ht.tape, ht.output, ht.size, fun k hk hf => ht.block k hk (fun e => hf ((h3 k).2 e))⟩, fun k hk => ?_⟩
        · rw [hm.mem x]
          constructor
          · rintro (hx | rfl)
            · exact absurd hx (h2 x)
            · exact ⟨0, by omega, by rw [upf_at]⟩
          · rintro ⟨k, hk, e⟩
            obtain rfl : k = 0 := by omega
            rw [upf_at] at e
            exact .inr e.symm
        · rcases hk with rfl | rfl | rfl
          · exact .inl ((h3 k).2 rfl)
          · rcases l1 with l1 | l1
            · cases l1
            · exact .inr l1
          · rcases l2 with l2 | l2
            · cases l2
            · exact .inr l2
    · have hid' : ∀ i, i < n → (d i).1 ≠ id := fun i hi e => hb ⟨(d i).2, (h2 _).2 ⟨i, hi, by rw [← e]⟩⟩
      refine hid ((hpush_c (F := fun k => k = q ∨ k = g ∨ k = m) (d := d) h1 (by omega) (fun g' m' l1 l2 k hk => ?_) (pushB_c h0 (by omega) hid')).mono ?_)
      · rcases hk with rfl | rfl
        · rcases l1 with l1 | l1
          · cases l1; exact .inl (.inr (.inl rfl))
          · exact .inr l1
        · rcases l2 with l2 | l2
          · cases l2; exact .inl (.inr (.inr rfl))
          · exact .inr l2
      · rintro e w' ⟨rfl, g', cap', m', d', hq, hh, hm, ht, l1, l2⟩
        refine ⟨rfl, _, .inr ⟨g', cap', m', d', hq, hh, fun x => ?_, fun k => .rfl⟩, ⟨ht.os, ht.tape, ht.output, ht.size, fun k hk hf => ht.block k hk (fun e => hf ((h3 k).2 e))⟩, fun k hk => ?_⟩
        · rw [hm.mem x]
          constructor
          · rintro (hx | rfl)
            · obtain ⟨i, hi, e⟩ := (h2 x).1 hx
              exact ⟨i, by omega, by rw [upf_ne (by omega)]; exact e⟩
            · exact ⟨n, by omega, by rw [upf_at]⟩
          · rintro ⟨k, hk, e⟩
            by_cases hkn : k = n
            · subst hkn; rw [upf_at] at e; exact .inr e.symm
            · rw [upf_ne hkn] at e; exact .inl ((h2 x).2 ⟨k, by omega, e⟩)
        · rcases hk with rfl | rfl | rfl
          · exact .inl ((h3 k).2 (.inl rfl))
          · rcases l1 with l1 | l1
            · cases l1; exact .inl ((h3 _).2 (.inr (.inl rfl)))
            · exact .inr l1
          · rcases l2 with l2 | l2
            · cases l2; exact .inl ((h3 _).2 (.inr (.inr rfl)))
            · exact .inr l2
  clear h hb
  go_enter Try.func13, Try.ntmps13
  go_wp2_with (first
    | (go_at_call 15; refine HC.out.mono ?_; rintro e w2 ⟨rfl, rfl⟩)
    | (go_at_call 12; refine HL.out.mono ?_; rintro e w3 ⟨rfl, rfl⟩)
    | (go_at_call 28; refine HP.out.mono ?_; rintro e w4 ⟨rfl, hq4⟩))
  go_ret
  exact ⟨rfl, hq4⟩
theorem pushN_c (w : World) (id key : Int) : Calls Try.prog 13 #[.pointer none, .int .i64 id, .int .i64 key] w fun e w' => e = .returned (.int .i64 9) ∧ w' = w := by
  go_enter Try.func13, Try.ntmps13
  go_wp2
  go_ret
  exact ⟨rfl, rfl⟩
end Go.Proofs.Ytacgkgbhleehjaa
