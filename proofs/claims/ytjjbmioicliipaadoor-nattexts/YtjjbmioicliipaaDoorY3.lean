/-
  Walks of the document's reference for nat: Read, DocRead, DocText.
-/
import Derived.Test.YtjjbmioicliipaaDoorY2
import Derived.Test.YtjjbmioicliipaaDoorR5
import Derived.Deep.CutRange
namespace Go.Proofs.YtjjbmioicliipaaDoor
open Go.RowKit

/-- Block g: its first k numbers are D. -/
def PB (w : World) (g cap k : Nat) (D : Nat → Int) : Prop := ∃ arr : Array Value, w.heap[g]? = some (.cells arr 46 (0, 0)) ∧ arr.size = cap ∧ ∀ j, j < k → arr[j]? = some (.int .u64 (D j))
theorem PB.cell {w g cap k D} (h : PB w g cap k D) {j : Nat} (hj : j < k) : w.cell? ⟨g, j, none⟩ = some (.int .u64 (D j)) := by
  obtain ⟨arr, h1, h2, h3⟩ := h
  simp [World.cell?, h1, h3 j hj]
theorem PB.frozen {w g cap k D} (h : PB w g cap k D) (j : Nat) : w.frozen? ⟨g, j, none⟩ = false := by
  obtain ⟨arr, h1, h2, h3⟩ := h
  simp [World.frozen?, h1]
theorem PB.lt {w g cap k D} (h : PB w g cap k D) : g < w.heap.size := by
  obtain ⟨arr, h1, h2, h3⟩ := h
  exact (Array.getElem?_eq_some_iff.1 h1).1
theorem PB.set {w g cap k D} (h : PB w g cap k D) (i : Nat) (v : Int) : PB (w.setCell ⟨g, i, none⟩ (.int .u64 v)) g cap k (upd D i v) := by
  obtain ⟨arr, h1, h2, h3⟩ := h
  refine ⟨arr.setIfInBounds i (.int .u64 v), ?_, by simpa using h2, fun j hj => ?_⟩
  · simp [World.setCell, Array.getElem?_modify, h1]
  · have hlt : j < arr.size := (Array.getElem?_eq_some_iff.1 (h3 j hj)).1
    by_cases hji : j = i
    · subst hji; simp [upd, hlt]
    · rw [Array.getElem?_setIfInBounds, if_neg (by omega), h3 j hj]; simp [upd, hji]
theorem Own.pb {w base v k D} (h : Own .u64 46 w base v k D) : (v = .slice none 0 0 ∧ k = 0) ∨ ∃ g cap, v = .slice (some ⟨g, 0, none⟩) k cap ∧ base ≤ g ∧ k ≤ cap ∧ cap ≤ maxLen ∧ PB w g cap k D := by
  obtain ⟨h1, h2⟩ := h
  rcases h2 with ⟨rfl, rfl⟩ | ⟨g, cap, cur, rfl, hb, hg, hn, hm, hs, ht⟩
  · exact .inl ⟨rfl, rfl⟩
  · refine .inr ⟨g, cap, rfl, hb, hn, hm, cur, hg, by omega, fun j hj => ?_⟩
    have e1 : (lst .u64 D k)[j]? = cur.toList[j]? := by
      rw [← ht, List.getElem?_take, if_pos (by omega)]
    rw [lst_get .u64 D k j hj] at e1
    simpa using e1.symm
theorem PB.own {w g cap k D} (h : PB w g cap k D) {base : Nat} (hb : base ≤ g) (hk : k ≤ cap) (hm : cap ≤ maxLen) : Own .u64 46 w base (.slice (some ⟨g, 0, none⟩) k cap) k D := by
  obtain ⟨arr, h1, h2, h3⟩ := h
  refine ⟨by rw [lst_length]; omega, .inr ⟨g, cap, arr, rfl, hb, h1, hk, hm, by omega, ?_⟩⟩
  apply List.ext_getElem?
  intro j
  by_cases hj : j < k
  · rw [List.getElem?_take, if_pos (by omega), lst_get _ _ _ _ hj]; simpa using h3 j hj
  · rw [List.getElem?_eq_none (by simp; omega), List.getElem?_eq_none (by rw [lst_length]; omega)]

/-- Ten times a number and a digit: one round. -/
theorem ten_step {D D' : Nat → Int} {j : Nat} {cc x t : Int} (hv : vd D' j + cc * pd j = 10 * vd D j + x) (ht : t = cc + 10 * D j) :
    vd (upd D' j (t % 4294967296)) (j + 1) + (t / 4294967296) * pd (j + 1) = 10 * vd D (j + 1) + x := by
  have e1 : vd (upd D' j (t % 4294967296)) j = vd D' j := vd_congr (fun i hi => upd_other _ _ _ _ (by omega))
  rw [vd_succ, e1, upd_same, vd_succ, pd_succ]
  have e2 := Int.mul_ediv_add_emod t 4294967296
  have e3 : t * pd j = (4294967296 * (t / 4294967296) + t % 4294967296) * pd j := by rw [e2]
  rw [ht] at e3
  rw [← ht] at e3
  grind
theorem fm_top {D : Nat → Int} {k : Nat} (hd : Dg D k) (hv : k = 0 ∨ pd (k - 1) ≤ vd D k) : Fm D k := by
  by_cases h0 : k = 0
  · exact .inl h0
  · right
    intro hz
    obtain ⟨m, rfl⟩ : ∃ m, k = m + 1 := ⟨k - 1, by omega⟩
    have h1 := vd_lt (hd.mono (m := m) (by omega))
    simp only [Nat.add_sub_cancel] at hz hv
    rw [vd_succ, hz] at hv
    omega

/-- What the reference's Read leaves. -/
def RAns (w w' : World) (ao : Option Addr) (k : Nat) (D : Nat → Int) (L : Nat) (b : Nat → Nat) (R : Bool) : Prop :=
  Below w.heap.size w w' ∧ Rd .u64 w' ao k D ∧ k ≤ L ∧ Dg D k ∧ Fm D k ∧ (R = true → vd D k = (dn b L : Nat))
theorem RAns.no (w : World) (L : Nat) (b : Nat → Nat) : RAns w w none 0 (fun _ => 0) L b false :=
  ⟨Below.refl _ _, Rd.zero, by omega, fun j hj => by omega, .inl rfl, fun h => by cases h⟩

set_option maxRecDepth 100000 in
set_option maxHeartbeats 8000000 in
theorem rread_c (s : ByteArray) (L : Nat) (b : Nat → Nat) (w : World) (hs : Sb s L b) (hL : L ≤ 1048576) :
    Calls Tryd.prog 45 #[.string s] w fun e w' => ∃ ao k cap D, e = .returned (.tuple #[.slice ao k cap, .bool (numB b L)]) ∧ RAns w w' ao k D L b (numB b L) := by
  have HSb := hid hs
  obtain ⟨rfl, hb⟩ := hs
  have HB := hid hb
  clear hb
  obtain ⟨R, hR⟩ : ∃ R, numB b s.size = R := ⟨_, rfl⟩
  rw [hR]
  have HRe := hid hR
  clear hR
  by_cases h0 : s.size = 0
  · have hf : R = false := by rw [← HRe.out]; exact numB_false (fun h => by have := h.2.1; omega)
    subst hf
    go_enter Tryd.func45, Tryd.ntmps45
    go_wp2
    go_ret2
    first | exact ⟨_, _, _, fun _ => 0, rfl, RAns.no _ _ _⟩ | exact ⟨_, _, ⟨_, rfl⟩, ⟨_, RAns.no _ _ _⟩⟩
  obtain ⟨x, hx⟩ : ∃ x, b 0 = x := ⟨_, rfl⟩
  have hc : (s[0]'(by omega)).toNat = x := by rw [HB.out 0 (by omega), hx]
  have HX := hid hx
  have z0 : ((s.size : Int) == 0) = false := beq_eq_false_iff_ne.2 (by omega)
  clear hx
  by_cases hlead : 1 < s.size ∧ x = 48
  · obtain ⟨hl1, hl2⟩ := hlead
    have hf : R = false := by
      rw [← HRe.out]
      refine numB_false (fun h => ?_)
      rcases h.2.2 with h1 | h1
      · omega
      · rw [HX.out] at h1; exact h1 hl2
    subst hf
    subst hl2
    have b1 : decide ((1 : Int) < (s.size : Int)) = true := by simp; omega
    go_enter Tryd.func45, Tryd.ntmps45
    go_wp2
    go_ret2
    first | exact ⟨_, _, _, fun _ => 0, rfl, RAns.no _ _ _⟩ | exact ⟨_, _, ⟨_, rfl⟩, ⟨_, RAns.no _ _ _⟩⟩
  have hnl : s.size = 1 ∨ x ≠ 48 := by
    by_cases h1 : s.size = 1
    · exact .inl h1
    · right; intro h2; exact hlead ⟨by omega, h2⟩
  have HNL := hid hnl
  clear hnl
  go_enter Tryd.func45, Tryd.ntmps45
  go_upto_region 1 with fail
  go_cut [21] from 9 to 20 (fun v wx => v = .bool false ∧ wx = w)
  case first =>
    by_cases hl1 : 1 < s.size
    · have b1 : decide ((1 : Int) < (s.size : Int)) = true := by simp; omega
      have hx48 : ((x : Int) == 48) = false := by have := HNL.out; simp; omega
      clear hlead
      go_wp2
      go_meet
      exact ⟨rfl, rfl⟩
    · have b1 : decide ((1 : Int) < (s.size : Int)) = false := by simp; omega
      clear hlead
      go_wp2
      go_meet
      exact ⟨rfl, rfl⟩
  case rest =>
  obtain ⟨rfl, rfl⟩ := hcut
  clear hlead hc z0
  go_wp2
  go_loop [5] (fun t => ∃ (k : Nat), k ≤ s.size ∧ t = .int .i64 k ∧ Hid (Dig b k)) (fun t => s.size - (intOf t).toNat)
  case atStart => exact ⟨0, by omega, rfl, fun j hj => by omega⟩
  case round =>
    obtain ⟨k, hk, rfl, HD⟩ := hrel
    by_cases hlt : k < s.size
    · obtain ⟨y, hy⟩ : ∃ y, b k = y := ⟨_, rfl⟩
      have hcy : (s[k]'hlt).toNat = y := by rw [HB.out k hlt, hy]
      have HY := hid hy
      clear hy
      by_cases h1 : y < 48
      · have h1b : decide ((y : Int) < 48) = true := by simp; omega
        have hf : R = false := by rw [← HRe.out]; exact numB_false (fun h => by have := h.1 k hlt; rw [HY.out] at this; omega)
        subst hf
        go_wp2
        go_ret2
        first | exact ⟨_, _, _, fun _ => 0, rfl, RAns.no _ _ _⟩ | exact ⟨_, _, ⟨_, rfl⟩, ⟨_, RAns.no _ _ _⟩⟩
      · have h1b : decide ((y : Int) < 48) = false := by simp; omega
        by_cases h2 : 57 < y
        · have h2b : decide ((57 : Int) < y) = true := by simp; omega
          have hf : R = false := by rw [← HRe.out]; exact numB_false (fun h => by have := h.1 k hlt; rw [HY.out] at this; omega)
          subst hf
          go_wp2
          go_ret2
          first | exact ⟨_, _, _, fun _ => 0, rfl, RAns.no _ _ _⟩ | exact ⟨_, _, ⟨_, rfl⟩, ⟨_, RAns.no _ _ _⟩⟩
        · have h2b : decide ((57 : Int) < y) = false := by simp; omega
          go_wp2
          go_round
          case rel =>
            refine ⟨k + 1, by omega, by go_num, fun j hj => ?_⟩
            by_cases hjk : j = k
            · subst hjk; rw [HY.out]; omega
            · exact HD.out j (by omega)
          case measure => simp [intOf]; omega
    · obtain rfl : k = s.size := by omega
      have hf : R = true := by
        rw [← HRe.out]
        refine numB_true ⟨HD.out, by omega, ?_⟩
        rw [HX.out]; exact HNL.out
      subst hf
      clear hlt hk
      go_wp2
      go_loopw [4, 6] (fun v t wr => ∃ (i k : Nat) (D : Nat → Int), i ≤ s.size ∧ t = .int .i64 i ∧ k ≤ i ∧ Below wc.heap.size wc wr ∧ Hid (Own .u64 46 wr wc.heap.size v k D) ∧ Hid (Dg D k) ∧ Hid (Fm D k) ∧ Hid (vd D k = (dn b i : Nat))) (fun _ t _ => s.size - (intOf t).toNat)
      case atStart => exact ⟨0, 0, fun _ => 0, by omega, rfl, by omega, Below.refl _ _, own_nil _ _ _ _ _, fun j hj => by omega, .inl rfl, rfl⟩
      case round =>
        obtain ⟨i, k, D, hi, rfl, hki, hbel, HO, HDg, HFm, HV⟩ := hrel
        obtain ⟨ao, cap, hv, hkc, hnil, hcm, hrd, hlt3⟩ := HO.out.shape
        unfold maxLen at hcm
        subst hv
        have HRd := hid hrd
        clear hrd hlt3 hnil
        by_cases hlt : i < s.size
        · obtain ⟨y, hy⟩ : ∃ y, b i = y := ⟨_, rfl⟩
          have hcy : (s[i]'hlt).toNat = y := by rw [HB.out i hlt, hy]
          have hy9 := HD.out i hlt
          rw [hy] at hy9
          obtain ⟨xd, hxd⟩ : ∃ xd, y - 48 = xd := ⟨_, rfl⟩
          have hsub : ((y : Int) - 48) % 256 = (xd : Int) := by omega
          have hx9 : xd ≤ 9 := by omega
          have HXD := hid (show b i - 48 = xd by rw [hy]; exact hxd)
          clear hy hxd hy9 HRd
          go_wp2
          go_loopw [7, 51] (fun c t wr' => ∃ (j : Nat) (cc : Int) (D' : Nat → Int), j ≤ k ∧ t = .int .i64 j ∧ c = .int .u64 cc ∧ 0 ≤ cc ∧ cc ≤ 9 ∧ Below wc.heap.size wc wr' ∧ Hid (Own .u64 46 wr' wc.heap.size (.slice ao k cap) k D') ∧ Hid (Dg D' k) ∧ Hid (∀ l, j ≤ l → D' l = D l) ∧ Hid (vd D' j + cc * pd j = 10 * vd D j + xd)) (fun _ t _ => k - (intOf t).toNat)
          case atStart => exact ⟨0, xd, D, by omega, rfl, rfl, by omega, by omega, hbel, HO.out, HDg.out, fun _ _ => rfl, by simp [Hid, vd, pd]⟩
          case round =>
            obtain ⟨j, cc, D', hj, rfl, rfl, c0, c1, hbel', HO', HDg', HE', HV'⟩ := hrel
            by_cases hjk : j < k
            · rcases HO'.out.pb with ⟨_, hk0⟩ | ⟨g, cap', hvv, hbg, hkc', hcm', hpb⟩
              · omega
              · obtain ⟨rfl, rfl⟩ : ao = some ⟨g, 0, none⟩ ∧ cap = cap' := by simpa using hvv
                obtain ⟨xj, hxj⟩ : ∃ xj, D' j = xj := ⟨_, rfl⟩
                have hcell : wr.cell? ⟨g, j, none⟩ = some (.int .u64 xj) := by rw [← hxj]; exact hpb.cell hjk
                have hfz := hpb.frozen j
                have hxb := HDg'.out j hjk
                rw [hxj] at hxb
                obtain ⟨xb0, xb1⟩ := hxb
                have HPB := hid hpb
                have hDj : D j = xj := by rw [← HE'.out j (Nat.le_refl _), hxj]
                have HST := hid (ten_step (t := cc + 10 * xj) HV'.out (by rw [hDj]))
                have HPB2 := hid (hpb.set j ((cc + 10 * xj) % 4294967296))
                clear hpb hxj hvv hDj
                go_wp2
                go_roundw
                case rel =>
                  refine ⟨j + 1, _, upd D' j ((cc + 10 * xj) % 4294967296), by omega, by go_num, rfl, by omega, by omega, below_only hbel' ((Only.refl _ _).setCell _ _ _) hbg hbel'.size, HPB2.out.own hbg hkc' hcm', HDg'.out.upd (by omega), ?_, HST.out⟩
                  intro l hl
                  rw [upd_other _ _ _ _ (by omega)]
                  exact HE'.out l (by omega)
                case measure => simp [intOf]; omega
            · obtain rfl : j = k := by omega
              have hvalI : 10 * vd D j + xd = ((dn b (i + 1) : Nat) : Int) := by
                show _ = ((dn b i * 10 + (b i - 48) : Nat) : Int)
                rw [HXD.out, HV.out]; omega
              have HVI := hid hvalI
              clear hvalI
              by_cases hcc : 0 < cc
              · have hccb : decide ((0 : Int) < cc) = true := by simp; omega
                go_wp2_with (at_builtin; refine wpList_append_own_list .u64 _ rfl (.tmp 71) (.tmp 73) 22 rfl wc.heap.size 46 8 Tryd.underlying22 Tryd.infoU64 _ j D' rfl (Own.alloc HO'.out _) wr.heap.size 0 1 1 (fun _ => cc) rfl (rd_new1 wr _ _) ?c1 ?c2 ?c3 ?_)
                case c1 => unfold maxLen; omega
                case c2 => omega
                case c3 => have := hbel'.size; simp; omega
                intro v' w' hown hgr
                have hbel2 : Below wc.heap.size wc w' := (hbel'.alloc hbel'.size _).grown hgr (by have := hbel'.size; simp; omega) (fun k h => (Own.ge HO'.out k h))
                have HO2 := hid hown
                clear hown hgr
                go_wp2
                go_roundw
                case rel =>
                  refine ⟨i + 1, j + 1, _, by omega, by go_num, by omega, hbel2, HO2.out, dg_cat1 HDg'.out (by omega), .inr ?_, ?_⟩
                  · rw [Nat.add_sub_cancel, cat_out (Nat.le_refl _)]; omega
                  · show _ = _
                    rw [vd_cat1, HV'.out, HVI.out]
                case measure => simp [intOf]; omega
              · obtain rfl : cc = 0 := by omega
                have hv2 := HV'.out
                rw [show (0 : Int) * pd j = 0 by omega, Int.add_zero] at hv2
                have hfm2 : Fm D' j := fm_top HDg'.out (by
                  by_cases hj0 : j = 0
                  · exact .inl hj0
                  · right
                    have := vd_form_ge HDg.out HFm.out (by omega)
                    have := pd_pos (j - 1)
                    omega)
                have HV2 := hid hv2; have HF2 := hid hfm2
                clear hv2 hfm2
                go_wp2
                go_roundw
                case rel => exact ⟨i + 1, j, D', by omega, by go_num, by omega, hbel', HO'.out, HDg'.out, HF2.out, by show _ = _; rw [HV2.out, HVI.out]⟩
                case measure => simp [intOf]; omega
        · obtain rfl : i = s.size := by omega
          go_wp2
          go_ret2
          exact ⟨ao, k, cap, D, rfl, ⟨hbel, HRd.out, by omega, HDg.out, HFm.out, fun _ => HV.out⟩⟩
end Go.Proofs.YtjjbmioicliipaaDoor
