/-
  Walks of package nat's lists and sums: padded, clone, fromWord, add, sub.
-/
import Derived.Test.YtjjbmioicliipabDoorW3
import Derived.Test.YtjjbmioicliipabDoorLw
namespace Go.Proofs.YtjjbmioicliipabDoor
open Go.RowKit

theorem Tryd.infoU64 : (Tryd.prog.info? 32).map (fun i => (i.zero, i.size, i.bytes)) = some (some (.int .u64 0), 1, 8) := by kernel_rfl
theorem Tryd.sizeU64 : (Tryd.prog.info? 32).map (·.size) = some 1 := by kernel_rfl

/-- A number that a call answers: nil, or a block of its own; in form. -/
structure Res (C : Nat) (w w' : World) (ao : Option Addr) (n cap : Nat) (f : Nat → Int) : Prop where
  bel : Below w.heap.size w w'
  own : (ao = none ∧ n = 0 ∧ cap = 0) ∨ (∃ g, ao = some ⟨g, 0, none⟩ ∧ w.heap.size ≤ g ∧ 0 < n ∧ n ≤ cap ∧ cap ≤ C ∧ Blk .u64 32 w' g cap f)
  lmc : Lm f cap
  fm : Fm f n
theorem Res.rd {C w w' ao n cap f} (h : Res C w w' ao n cap f) : Rd .u64 w' ao n f := by
  rcases h.own with ⟨rfl, rfl, rfl⟩ | ⟨g, rfl, _, _, hn, _, hb⟩
  · exact Rd.zero
  · exact hb.rd0 hn
theorem Res.und {C w w' ao n cap f} (h : Res C w w' ao n cap f) : Und ao w'.heap.size := by
  rcases h.own with ⟨rfl, rfl, rfl⟩ | ⟨g, rfl, _, _, hn, _, hb⟩
  · exact und_none _
  · exact und_some hb.lt
theorem Res.off {C w w' ao n cap f} (h : Res C w w' ao n cap f) {g : Nat} (hg : g < w.heap.size) : Off ao g := by
  rcases h.own with ⟨rfl, rfl, rfl⟩ | ⟨g', rfl, h1, _, hn, _, hb⟩
  · exact off_none _
  · exact off_some (by omega)
theorem Res.le {C w w' ao n cap f} (h : Res C w w' ao n cap f) : n ≤ C := by
  rcases h.own with ⟨rfl, rfl, rfl⟩ | ⟨g', rfl, h1, _, hn, _, hb⟩ <;> omega
theorem Res.ncap {C w w' ao n cap f} (h : Res C w w' ao n cap f) : n ≤ cap ∧ cap ≤ C := by
  rcases h.own with ⟨rfl, rfl, rfl⟩ | ⟨g', rfl, h1, _, hn, _, hb⟩ <;> omega
theorem Res.lm {C w w' ao n cap f} (h : Res C w w' ao n cap f) : Lm f n := h.lmc.mono h.ncap.1
theorem Res.nil {C : Nat} {w w' : World} (f : Nat → Int) (h : Below w.heap.size w w') : Res C w w' none 0 0 f := ⟨h, .inl ⟨rfl, rfl, rfl⟩, fun j hj => by omega, .inl rfl⟩
theorem Res.mono {C C' w w' ao n cap f} (h : Res C w w' ao n cap f) (hC : C ≤ C') : Res C' w w' ao n cap f :=
  ⟨h.bel, h.own.imp id (fun ⟨g, a, b, c, d, e, f⟩ => ⟨g, a, b, c, d, by omega, f⟩), h.lmc, h.fm⟩
/-- Seen from an earlier world. -/
theorem Res.ahead {C w0 w w' ao n cap f} (h : Res C w w' ao n cap f) (hb : Below w0.heap.size w0 w) : Res C w0 w' ao n cap f :=
  ⟨hb.trans (h.bel.mono hb.size), h.own.imp id (fun ⟨g, a, b, c, d, e, f⟩ => ⟨g, a, by have := hb.size; omega, c, d, e, f⟩), h.lmc, h.fm⟩
/-- Seen in a later world. -/
theorem Res.later {C w w' w'' ao n cap f} (h : Res C w w' ao n cap f) (hb : Below w'.heap.size w' w'') : Res C w w'' ao n cap f :=
  ⟨h.bel.trans (hb.mono h.bel.size), h.own.imp id (fun ⟨g, a, b, c, d, e, f⟩ => ⟨g, a, b, c, d, e, f.below hb f.lt⟩), h.lmc, h.fm⟩
theorem below_drewN {B : Nat} {a w : World} (h : Below B a w) (q : Nat) : Below B a (w.drewN q) := ⟨h.os, h.tape, h.output, h.size, h.block⟩

set_option maxRecDepth 100000 in
set_option maxHeartbeats 400000 in
theorem padded_c (ao : Option Addr) (n cap m : Nat) (z : Int) (f : Nat → Int) (w : World) (hz : z = m) (hnm : n ≤ m) (hm : m ≤ 17592186044416) (hr : Rd .u64 w ao n f) :
    Calls Tryd.prog 40 #[.slice ao n cap, .int .i64 z] w fun e w' => e = .returned (.slice (some ⟨w.heap.size, 0, none⟩) m m) ∧ Below w.heap.size w w' ∧ Blk .u64 32 w' w.heap.size m (ext f n) := by
  subst hz
  go_enter Tryd.func40, Tryd.ntmps40
  go_wp2_with (first | (at_make; refine wpList_make_blk .u64 w rfl (.tmp 6) (.tmp 6) 22 rfl 32 8 Tryd.underlying22 Tryd.infoU64 .i64 .i64 m m m rfl rfl rfl rfl (by omega) (by unfold maxLen; omega) ?_; intro w1 hb1 hbel1) | (refine wpList_copy_blk .u64 w1 rfl (.tmp 8) (.tmp 9) 22 22 rfl 32 Tryd.underlying22 Tryd.sizeU64 w.heap.size 0 m (fun _ => 0) ao m m n cap n f rfl rfl hb1 (hr.below hbel1 (Nat.le_refl _)) (Nat.min_eq_left hnm).symm (by omega) ?_; intro w2 hb2 hon2))
  go_ret
  refine ⟨rfl, below_only hbel1 hon2 (Nat.le_refl _) hbel1.size, hb2.congr (fun j hj => ?_)⟩
  by_cases h : j < n
  · rw [put_in (by omega) (by omega), ext_in _ _ _ h]; rfl
  · rw [put_out (by omega), ext_out _ _ _ (by omega)]

/-- trim of a list in a block of the call's own. -/
theorem trim_res (g N n : Nat) (f : Nat → Int) (w0 w : World) (hbel : Below w0.heap.size w0 w) (hg : w0.heap.size ≤ g) (hb : Blk .u64 32 w g N f) (hn : n ≤ N) (hN : N ≤ 140737488355328) (hf : Lm f N) :
    Calls Tryd.prog 33 #[.slice (some ⟨g, 0, none⟩) n N] w fun e w' => w' = w ∧ ∃ ao' m cap', e = .returned (.slice ao' m cap') ∧ Res N w0 w ao' m cap' f ∧ m ≤ n ∧ vf f m = vf f n := by
  refine (trim_c _ n N f w hn hN (hb.rd0 hn)).mono ?_
  rintro e w2 ⟨rfl, m, hmn, hz, he⟩
  refine ⟨rfl, ?_⟩
  have hv : vf f m = vf f n := trim_val hmn hz
  rcases he with ⟨rfl, rfl⟩ | ⟨hm0, hne, rfl⟩
  · exact ⟨none, 0, 0, rfl, Res.nil f hbel, hmn, hv⟩
  · exact ⟨_, m, N, rfl, ⟨hbel, .inr ⟨g, rfl, hg, hm0, by omega, Nat.le_refl _, hb⟩, hf, .inr hne⟩, hmn, hv⟩

set_option maxHeartbeats 400000 in
/-- clone: the number, in form, in memory of its own. -/
theorem clone_c (ao : Option Addr) (n cap : Nat) (f : Nat → Int) (w : World) (hm : n ≤ 17592186044416) (hr : Rd .u64 w ao n f) (hf : Lm f n) :
    Calls Tryd.prog 27 #[.slice ao n cap] w fun e w' => ∃ ao' m cap', e = .returned (.slice ao' m cap') ∧ Res n w w' ao' m cap' f ∧ m ≤ n ∧ vf f m = vf f n := by
  have HF := (show Hid (Lm f n) from hf)
  clear hf
  go_enter Tryd.func27, Tryd.ntmps27
  go_wp2_with fail
  refine (padded_c ao n cap n _ f w rfl (Nat.le_refl _) hm hr).mono ?_
  rintro e w1 ⟨rfl, hbel, hb⟩
  go_wp2_with fail
  refine (trim_res w.heap.size n n f w w1 hbel (Nat.le_refl _) (hb.congr (fun j hj => ext_in _ _ _ hj)) (Nat.le_refl _) (by omega) HF.out).mono ?_
  rintro e w2 ⟨rfl, ao', m, cap', rfl, hres, hmn, hv⟩
  have HV := hid hv
  clear hv
  go_wp2
  go_ret
  exact ⟨ao', m, cap', rfl, hres, hmn, HV.out⟩

set_option maxHeartbeats 400000 in
theorem fromWord_c (x : Int) (w : World) (x0 : 0 ≤ x) (x1 : x < 18446744073709551616) :
    Calls Tryd.prog 28 #[.int .u64 x] w fun e w' => ∃ ao' m cap' f, e = .returned (.slice ao' m cap') ∧ Res 1 w w' ao' m cap' f ∧ vf f m = x := by
  have hb : Blk .u64 32 (w.alloc (.cells #[.int .u64 x] 32)) w.heap.size 1 (fun _ => x) := ⟨#[.int .u64 x], heap_alloc_new w _, rfl, fun j hj => by obtain rfl : j = 0 := by omega
                                                                                                                                                    rfl⟩
  go_enter Tryd.func28, Tryd.ntmps28
  go_wp2_with fail
  refine (trim_res w.heap.size 1 1 (fun _ => x) w _ ((Below.refl _ _).alloc (Nat.le_refl _) _) (Nat.le_refl _) hb (Nat.le_refl _) (by decide) (fun j hj => ⟨x0, x1⟩)).mono ?_
  rintro e w1 ⟨rfl, ao, m, cap, rfl, hres, hmn, hv⟩
  go_wp2
  go_ret
  exact ⟨ao, m, cap, _, rfl, hres, by rw [hv]; simp [vf, pw]⟩

set_option maxHeartbeats 800000 in
/-- add: the sum. -/
theorem add_c (ao bo : Option Addr) (n m ca cb : Nat) (f h : Nat → Int) (w : World) (hn : n ≤ 8796093022208) (hm : m ≤ 8796093022208) (hr : Rd .u64 w ao n f) (hs : Rd .u64 w bo m h) (hf : Lm f n) (hh : Lm h m) :
    Calls Tryd.prog 23 #[.slice ao n ca, .slice bo m cb] w fun e w' => ∃ ao' k cap' f', e = .returned (.slice ao' k cap') ∧ Res (max n m + 1) w w' ao' k cap' f' ∧ vf f' k = vf f n + vf h m := by
  obtain ⟨M, hM⟩ : ∃ M, M = max n m := ⟨_, rfl⟩
  rw [← hM]
  have hnM : n ≤ M := by omega
  have hmM : m ≤ M := by omega
  have hM2 : M ≤ 8796093022208 := by omega
  have HM := hid hM
  clear hM
  have HF := (show Hid (Lm f n) from hf)
  have HH := (show Hid (Lm h m) from hh)
  clear hf hh
  have hl : Lm (ext f n) (M + 1) := fun j hj => by
    by_cases hjn : j < n
    · rw [ext_in _ _ _ hjn]; exact HF.out j hjn
    · rw [ext_out _ _ _ (by omega)]; omega
  have hroom : vf (sh (ext f n) 0) (M + 1) + vf h m < pw (M + 1) := by
    rw [sh_zero, vf_ext_list _ _ _ (by omega), pw_succ]
    have h1 := vf_lt HF.out
    have h2 := vf_lt HH.out
    have h3 := pw_mono hnM
    have h4 := pw_mono hmM
    have h5 := pw_pos M
    omega
  have HL := hid hl
  have HRm := hid hroom
  clear hl hroom
  by_cases hlt : n < m
  all_goals
    go_enter Tryd.func23, Tryd.ntmps23
    go_wp2_with fail
    refine (padded_c ao n ca (M + 1) _ f w (by have := HM.out; omega) (by omega) (by omega) hr).mono ?_
    rintro e w1 ⟨rfl, hbel, hb⟩
    go_wp2_with fail
    refine (addTo_c w.heap.size 0 (M + 1) (M + 1) (M + 1) (ext f n) bo m cb h w1 hb HL.out (by omega) (by omega) (hs.below hbel (Nat.le_refl _)) HH.out ?off (by omega) (Nat.le_refl _) (by omega) HRm.out).mono ?_
    case off => exact fun hm0 => (hs.und hm0).off (Nat.le_refl _)
    rintro e w2 ⟨rfl, hon, f2, hb2, hl2, he2, hv2⟩
    have HV2 := hid hv2
    clear hv2
    go_wp2_with fail
    refine (trim_res w.heap.size (M + 1) (M + 1) f2 w w2 (below_only hbel hon (Nat.le_refl _) hbel.size) (Nat.le_refl _) hb2 (Nat.le_refl _) (by omega) hl2).mono ?_
    rintro e w3 ⟨rfl, ao, k, cap, rfl, hres, hkn, hv⟩
    have HV3 := hid hv
    clear hv
    go_wp2
    go_ret
    refine ⟨ao, k, cap, f2, rfl, hres, ?_⟩
    have a1 := HV2.out
    have a2 := HV3.out
    rw [sh_zero, sh_zero, vf_ext_list _ _ _ (by omega)] at a1
    rw [a2, a1]

theorem subFrom_nil (bo : Option Addr) (cb : Nat) (w : World) : Calls Tryd.prog 43 #[.slice none 0 0, .slice bo 0 cb] w fun e w' => e = .returned (.tuple #[]) ∧ w' = w := by
  go_enter Tryd.func43, Tryd.ntmps43
  go_wp2
  refine wp_loop_rounds 1 ?_
  rw [rounds_succ]
  go_wp2
  refine wp_loop_rounds 1 ?_
  rw [rounds_succ]
  go_wp2
  exact bodyPost_end (v := .tuple #[]) (results_none rfl _ _ _) rfl ⟨rfl, rfl⟩

theorem trim_nil (w : World) : Calls Tryd.prog 33 #[.slice none 0 0] w fun e w' => e = .returned (.slice none 0 0) ∧ w' = w :=
  (trim_c none 0 0 (fun _ => 0) w (by omega) (by omega) Rd.zero).mono (fun e w' ⟨h1, m, h2, _, h3⟩ => ⟨by rcases h3 with h | h; exact h.2; omega, h1⟩)

set_option maxHeartbeats 800000 in
/-- sub: the difference. -/
theorem sub_c (ao bo : Option Addr) (n m ca cb : Nat) (f h : Nat → Int) (w : World) (hn : n ≤ 8796093022208) (hr : Rd .u64 w ao n f) (hs : Rd .u64 w bo m h) (hf : Lm f n) (hh : Lm h m) (fh : Fm h m) (hle : vf h m ≤ vf f n) :
    Calls Tryd.prog 25 #[.slice ao n ca, .slice bo m cb] w fun e w' => ∃ ao' k cap' f', e = .returned (.slice ao' k cap') ∧ Res n w w' ao' k cap' f' ∧ vf f' k = vf f n - vf h m := by
  have HF := (show Hid (Lm f n) from hf)
  have HH := (show Hid (Lm h m) from hh)
  have FH := (show Hid (Fm h m) from fh)
  have HLe := hid hle
  clear hf hh fh hle
  go_enter Tryd.func25, Tryd.ntmps25
  go_wp2_with fail
  refine (clone_c ao n ca f w (by omega) hr HF.out).mono ?_
  rintro e w1 ⟨ao1, k, c1, rfl, hres, hkn, hv⟩
  have HV := hid hv
  clear hv
  have hmk : m ≤ k := vf_len HH.out hres.lm FH.out (by rw [HV.out]; exact HLe.out)
  rcases hres.own with ⟨rfl, rfl, rfl⟩ | ⟨g, rfl, hg, hk0, hkc, hcn, hb⟩
  · obtain rfl : m = 0 := by omega
    go_wp2_with fail
    refine (subFrom_nil _ _ _).mono ?_
    rintro e w2 ⟨rfl, rfl⟩
    go_wp2_with fail
    refine (trim_nil _).mono ?_
    rintro e w2 ⟨rfl, rfl⟩
    go_wp2
    go_ret
    refine ⟨none, 0, 0, f, rfl, Res.nil f hres.bel, ?_⟩
    rw [← HV.out]; simp [vf]
  · have HRes := hid hres
    clear hres
    go_wp2_with fail
    refine (subFrom_c g 0 k c1 c1 f bo m cb h w1 hb HRes.out.lmc (by omega) (by omega) (hs.below HRes.out.bel (Nat.le_refl _)) HH.out (fun h0 => (hs.und h0).off hg) hmk hkc (by omega) (by rw [sh_zero, HV.out]; exact HLe.out)).mono ?_
    rintro e w2 ⟨rfl, hon, f2, hb2, hl2, he2, hv2⟩
    have HV2 := hid hv2
    clear hv2
    go_wp2_with fail
    refine (trim_res g c1 k f2 w w2 (below_only HRes.out.bel hon hg HRes.out.bel.size) hg hb2 hkc (by omega) hl2).mono ?_
    rintro e w3 ⟨rfl, ao, k', cap, rfl, hres, hkn', hv⟩
    have HV3 := hid hv
    clear hv
    go_wp2
    go_ret
    refine ⟨ao, k', cap, f2, rfl, hres.mono hcn, ?_⟩
    have a1 := HV2.out
    rw [sh_zero, sh_zero, HV.out] at a1
    rw [HV3.out, a1]
end Go.Proofs.YtjjbmioicliipabDoor
