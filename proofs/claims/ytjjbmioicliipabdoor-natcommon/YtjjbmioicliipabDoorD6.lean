/-
  The walk of package nat's divLong, and divMod for all numbers.
-/
import Derived.Test.YtjjbmioicliipabDoorD5
namespace Go.Proofs.YtjjbmioicliipabDoor
open Go.RowKit

/-- Quotient and rest out of what is left of the shifted numbers. -/
theorem rest_of {A B P V U q R r : Int} (p0 : 0 < P) (hV : V = B * P) (h : U + V * q = A * P) (hU : U < V) (hR : R * P + r = U) (r0 : 0 ≤ r) (r1 : r < P) : A = q * B + R ∧ R < B := by
  have e1 : (A - q * B) * P = U := by rw [Int.sub_mul]; rw [hV] at h; have : q * B * P = B * P * q := by grind
                                      omega
  have e2 : U / P = A - q * B := by rw [← e1]; exact Int.mul_ediv_cancel _ (by omega)
  have e3 : U / P = R := by rw [← hR, Int.add_comm, Int.add_mul_ediv_right _ _ (by omega), Int.ediv_eq_zero_of_lt r0 r1]; omega
  refine ⟨by omega, ?_⟩
  have : R * P < B * P := by rw [← hV]; omega
  exact Int.lt_of_mul_lt_mul_right this (Int.le_of_lt p0)

set_option maxRecDepth 100000 in
set_option maxHeartbeats 8000000 in
theorem divLong_c (ao bo : Option Addr) (n m ca cb : Nat) (f h : Nat → Int) (w : World) (hn : n ≤ 8796093022208) (hm : m ≤ 8796093022208) (hr : Rd .u64 w ao n f) (hs : Rd .u64 w bo m h) (hf : Lm f n) (hh : Lm h m) (fh : Fm h m) (h2 : 2 ≤ m) (hle : vf h m ≤ vf f n) :
    Calls Tryd.prog 32 #[.slice ao n ca, .slice bo m cb] w fun e w' => ∃ a1 k1 c1 q a2 k2 c2 r, e = .returned (.tuple #[.slice a1 k1 c1, .slice a2 k2 c2]) ∧ Res n w w' a1 k1 c1 q ∧ Res (n + 1) w w' a2 k2 c2 r ∧ vf f n = vf q k1 * vf h m + vf r k2 ∧ 0 ≤ vf r k2 ∧ vf r k2 < vf h m := by
  have hmn : m ≤ n := vf_len hh hf fh hle
  obtain ⟨k, rfl⟩ : ∃ k, m = k + 1 := ⟨m - 1, by omega⟩
  obtain ⟨lq, rfl⟩ : ∃ lq, n = lq + k := ⟨n - k, by omega⟩
  obtain ⟨b, ob, rfl⟩ := hs.at (by omega)
  obtain ⟨y, hy⟩ : ∃ y, h k = y := ⟨_, rfl⟩
  have hcell : w.cell? ⟨b, ob + k, none⟩ = some (.int .u64 y) := by rw [← hy]; exact hs.cell (by omega)
  have hy01 := hh k (by omega)
  have hyne : y ≠ 0 := by rw [← hy]; rcases fh with h | h; omega; simpa using h
  rw [hy] at hy01
  obtain ⟨y, rfl⟩ := Int.eq_ofNat_of_zero_le hy01.1
  obtain ⟨s, s0, s1, hse, hP1, hP2⟩ := lead_nums y (by omega) (by omega)
  have cl := Tryd.bits_LeadingZeros64 (y : Int) w (by omega) (by omega)
  rw [Int.toNat_natCast, hse] at cl
  obtain ⟨P, hP⟩ : ∃ P : Int, 2 ^ s.toNat = P := ⟨_, rfl⟩
  have p0 : 0 < P := by rw [← hP]; exact Int.pow_pos (by decide)
  have p1 : P ≤ 9223372036854775808 := by
    rw [← hP]
    have e1 : (2 : Int) ^ s.toNat * 2 ^ (63 - s).toNat = 9223372036854775808 := by rw [← Int.pow_add, show s.toNat + (63 - s).toNat = 63 by omega]; rfl
    have e2 : (0 : Int) < 2 ^ (63 - s).toNat := Int.pow_pos (by decide)
    have := Int.mul_le_mul_of_nonneg_left (show (1 : Int) ≤ 2 ^ (63 - s).toNat by omega) (Int.le_of_lt (show (0 : Int) < 2 ^ s.toNat from Int.pow_pos (by decide)))
    omega
  have hP1' : 9223372036854775808 ≤ (y : Int) * P := by rw [← hP]; exact hP1
  have hP2' : ((y : Int) + 1) * P ≤ 18446744073709551616 := by rw [← hP]; exact hP2
  obtain ⟨hV1, hV2⟩ := norm_V hh hy p0 hP1' hP2'
  have hA := vf_lt hf
  have CL := hid cl; have HF := hid hf; have HH := hid hh; have HR := hid hr; have HS := hid hs; have HP := hid hP; have PP0 := hid p0; have PP1 := hid p1; have HV1 := hid hV1; have HV2 := hid hV2; have HA := hid hA
  clear cl hf hh hr hs hP p0 p1 hV1 hV2 hA hP1 hP2 hP1' hP2' hse fh hle hy
  go_enter Tryd.func32, Tryd.ntmps32
  go_wp2_with fail
  refine CL.out.mono ?_
  rintro e w' ⟨rfl, rfl⟩
  go_wp2_with fail
  refine (shl_c (some ⟨b, ob, none⟩) (k + 1) cb 0 s s h _ (by omega) (by omega) s0 s1 (by omega) HS.out HH.out).mono ?_
  rintro e w1 ⟨av, kv, cv, fv, rfl, hresv, hvv⟩
  rw [HP.out] at hvv
  have hvv2 : vf fv kv = vf h (k + 1) * P := by rw [hvv]; simp [pw]
  have hkv := norm_len hresv.lm hresv.fm hvv2 HV1.out HV2.out
  subst hkv
  have htop := top_ge hresv.lm (by rw [hvv2]; exact HV1.out)
  obtain ⟨gv, hav, hgv0, hgv, hblv⟩ : ∃ gv, av = some ⟨gv, 0, none⟩ ∧ w'.heap.size ≤ gv ∧ gv < w1.heap.size ∧ Rd .u64 w1 (some ⟨gv, 0, none⟩) (k + 1) fv := by
    rcases hresv.own with ⟨_, h, _⟩ | ⟨g, e, hg, _, hn, _, hb⟩
    · omega
    · exact ⟨g, e, hg, hb.lt, hb.rd0 hn⟩
  subst hav
  have HVV := hid hvv2; have HTop := hid htop; have HRv := hid hblv; have LV := hid hresv.lm; have BV := hid hresv.bel
  have HR1 := hid (HR.out.below BV.out (Nat.le_refl _))
  clear hvv hvv2 htop hblv hresv CL hcell HS HR
  go_wp2_with fail
  refine (shl_c ao (lq + k) ca 0 s s f w1 (by omega) (by omega) s0 s1 (by omega) HR1.out HF.out).mono ?_
  rintro e w2 ⟨au, ku, cu, fu, rfl, hresu, hvu⟩
  rw [HP.out] at hvu
  have hvu2 : vf fu ku = vf f (lq + k) * P := by rw [hvu]; simp [pw]
  have hkul : ku ≤ lq + k + 1 := by have := hresu.le; omega
  have HVU := hid hvu2; have HRu := hid hresu.rd; have LU := hid hresu.lm; have BU := hid hresu.bel
  have HRv2 := hid (HRv.out.below BU.out (Nat.le_refl _))
  clear hvu hvu2 hresu HR1 HRv
  go_wp2_with fail
  refine (padded_c au ku cu (lq + k + 1) _ fu w2 (by omega) hkul (by omega) HRu.out).mono ?_
  rintro e w3 ⟨rfl, hbel3, hb3⟩
  have HRv3 := hid (HRv2.out.below hbel3 (Nat.le_refl _))
  have BP := hid hbel3; have HB3 := hid hb3
  clear HRv2 HRu hbel3 hb3
  go_wp2_with (at_make; refine wpList_make_blk .u64 w3 rfl (.tmp 35) (.tmp 35) 22 rfl 32 8 Tryd.underlying22 Tryd.infoU64 .i64 .i64 _ _ lq rfl rfl (by omega) (by omega) (by omega) (by unfold maxLen; omega) ?_; intro w4 hb4 hbel4)
  have G3 : w2.heap.size < w3.heap.size := HB3.out.lt
  have G4 : w3.heap.size < w4.heap.size := hb4.lt
  have z1 := BV.out.size; have z2 := BU.out.size
  have HB4 := hid (HB3.out.below hbel4 G3)
  have HRv4 := hid (HRv3.out.below hbel4 (Nat.le_refl _))
  have BALL := hid (BV.out.trans ((BU.out.mono z1).trans ((BP.out.mono (by omega)).trans (hbel4.mono (by omega)))))
  obtain ⟨V, hV⟩ : ∃ V, vf h (k + 1) * P = V := ⟨_, rfl⟩
  have hval0 : vf (ext fu ku) (lq + (k + 1)) = vf f (lq + k) * P := by rw [vf_ext_list _ _ _ (by omega), HVU.out]
  have hL0 : Lm (ext fu ku) (lq + (k + 1)) := fun j hj => by
    by_cases hjn : j < ku
    · rw [ext_in _ _ _ hjn]; exact LU.out j hjn
    · rw [ext_out _ _ _ (by omega)]; omega
  have htop0 := first_top hL0 hval0 HA.out PP0.out PP1.out (V := V) (by rw [← hV]; exact HV1.out)
  have VAL0 := hid hval0; have L0 := hid hL0; have TOP0 := hid htop0; have VV := hid hV; have HB4q := hid hb4
  have hVlt : V < pw (k + 1) := by rw [← hV]; exact HV2.out
  have hvfv : vf fv (k + 1) = V := by rw [HVV.out, hV]
  have VLT := hid hVlt; have VFV := hid hvfv
  clear hval0 hL0 htop0 hV hb4 hVlt hvfv HB3 HRv3 BV BU BP HVV HV1 HV2 HVU LU hbel4
  generalize hG : w2.heap.size = G at G3 G4 z2 HB4 ⊢
  generalize hH : w3.heap.size = H at G3 G4 HB4q ⊢
  clear hG hH
  go_loopw [39] (fun t wr => ∃ (i : Nat) (U Q : Nat → Int), i ≤ lq ∧ t = .int .i64 i ∧ Below w'.heap.size w' wr ∧ Hid (w4.heap.size ≤ wr.heap.size) ∧ Hid (Blk .u64 32 wr G (lq + k + 1) U) ∧ Hid (Lm U (lq + k + 1)) ∧ Hid (Blk .u64 32 wr H lq Q) ∧ Hid (Lm Q lq) ∧ Hid (Rd .u64 wr (some ⟨gv, 0, none⟩) (k + 1) fv) ∧ Hid (∀ j, j < lq - i → Q j = 0) ∧ Hid (∀ j, lq - i + (k + 1) ≤ j → j < lq + k + 1 → U j = 0) ∧ Hid (vf (sh U (lq - i)) (k + 1) < V) ∧ Hid (vf U (lq + k + 1) + V * vf Q lq = vf f (lq + k) * P)) (fun t _ => lq - (intOf t).toNat)
  case atStart => exact ⟨0, ext fu ku, fun _ => 0, by omega, rfl, BALL.out, Nat.le_refl _, HB4.out, L0.out, HB4q.out, lm_zero _, HRv4.out, fun _ _ => rfl, fun j h1 h2 => by omega, TOP0.out, (by show _ = _; rw [vf_zero (f := fun _ => 0) (fun _ _ => rfl), VAL0.out.symm]; simp; rfl)⟩
  case round =>
    clear BALL HB4 L0 HB4q HRv4 TOP0 VAL0
    obtain ⟨i, U, Q, hi, rfl, hbel, HSz, HBU, HLU, HBQ, HLQ, HRv, HQz, HUz, HTp, HVal⟩ := hrel
    by_cases hlt : i < lq
    · obtain ⟨p, hp⟩ : ∃ p, lq - i = p + 1 := ⟨lq - i - 1, by omega⟩
      have hpi : (lq : Int) - 1 - (i : Int) = (p : Int) := by omega
      have hp2 : p < lq := by omega
      have hp3 : ¬ (p = lq + k + 1) := by omega
      have HPe := hid hp
      clear hp
      have hw := win_lt (p := p) (HLU.out.mono (by omega)) (by rw [← HPe.out]; exact HTp.out)
      have HW := hid hw
      clear hw
      have hbl := HBU.out
      have z3 := HSz.out
      go_wp2_with fail
      rw [show p + (k + 1) + 1 - p = k + 1 + 1 by omega]
      refine (takeOut_c G p (k + 1) (lq + k + 1 - p) (lq + k + 1) U gv 0 cv fv wr HBU.out HLU.out (by omega) (by omega) (by omega) (by omega) HRv.out LV.out (by omega) h2 HTop.out (by rw [VFV.out]; exact HW.out)).mono ?_
      rintro e w5 ⟨t, rfl, ht0, ht1, hon, U', hbu', hlu', heu', hvu', hlt'⟩
      rw [VFV.out] at hvu' hlt'
      have hbq' := HBQ.out.only hon (by omega)
      have hcelq := hbq'.cell (j := p) hp2
      have hfzq := hbq'.frozen p
      obtain ⟨hz, hzv⟩ := top_zero (hlu'.sh (o := p) (m := k + 1 + 1) (by omega)) (Int.lt_trans hlt' VLT.out)
      have hbel5 : Below w'.heap.size w' w5 := below_only hbel hon (by omega) hbel.size
      have HB5 := hid hbu'; have HQ5 := hid hbq'; have HL5 := hid hlu'; have HE5 := hid heu'; have HV5 := hid hvu'; have HLT5 := hid hlt'; have HZ5 := hid hz; have HZV5 := hid hzv; have HON := hid hon
      have HR5 := hid (HRv.out.only hon (off_some (by omega)))
      clear hbu' hbq' hlu' heu' hvu' hlt' hz hzv hon hbl
      go_wp2
      go_roundw
      case rel =>
        refine ⟨i + 1, U', upd Q p t, by omega, by go_num, below_only hbel5 ((Only.refl _ _).setCell _ _ _) (by omega) hbel5.size, ?_, HB5.out.setOther (by simp; omega) _, HL5.out, HQ5.out.set p t, HLQ.out.upd ⟨ht0, ht1⟩, HR5.out.only ((Only.refl _ _).setCell _ _ _) (off_some (by omega)), ?_, ?_, ?_, ?_⟩
        · have := HON.out.size
          show _ ≤ _
          simp [World.setCell]; omega
        · intro j hj
          have := HPe.out
          rw [upd_other _ _ _ _ (by omega)]
          exact HQz.out j (by omega)
        · intro j h1 h2
          have hpe := HPe.out
          by_cases hj : j = p + (k + 1)
          · subst hj; exact HZ5.out
          · rw [HE5.out j (by omega)]
            exact HUz.out j (by omega) h2
        · have hpe := HPe.out
          show _ < _
          rw [show lq - (i + 1) = p by omega, HZV5.out]; exact HLT5.out
        · have e1 := win_val (N := lq + k + 1) (by omega) HE5.out HV5.out
          have e2 := vf_upd (Q := Q) (N := lq) (t := t) hp2 (HQz.out p (by have := HPe.out; omega))
          have e3 := HVal.out
          show _ = _
          rw [e1, e2, Int.mul_add, ← e3]
          grind
      case measure => simp [intOf]; omega
    · have hil : i = lq := by omega
      subst hil
      have z3 := HSz.out
      have hUz : vf U (i + k + 1) = vf U (k + 1) := vf_ext (by omega) (fun j h1 h2 => HUz.out j (by omega) h2)
      have hTp := HTp.out
      rw [Nat.sub_self, sh_zero] at hTp
      have hVal := HVal.out
      rw [hUz] at hVal
      have TPE := hid hTp; have VALE := hid hVal
      clear hUz hTp hVal
      have i1 : ((k + 1 : Nat) : Int) ≤ ((i + k + 1 : Nat) : Int) := by omega
      go_wp2_with fail
      go_region_with (first | (go_at_call_of 33 H; refine (trim_res H i i Q w' _ (by repeat (first | exact hbel | refine below_drewN ?_ _ | refine Below.drew ?_)) (by omega) (by exact HBQ.out) (Nat.le_refl _) (by omega) HLQ.out).mono ?_; rintro e w6 ⟨rfl, a1, k1, c1, rfl, hres1, hk1, hv1⟩; have HRes1 := hid hres1; have HVq := hid hv1; clear hres1 hv1) | (go_at_call_of 33 G; refine (trim_res G (i + k + 1) (k + 1) U w' _ (by repeat (first | exact hbel | refine below_drewN ?_ _ | refine Below.drew ?_)) (by omega) (by exact HBU.out) (by omega) (by omega) HLU.out).mono ?_; rintro e w6 ⟨rfl, a2, k2, c2, rfl, hres2, hk2, hv2⟩; have HRes2 := hid hres2; have HVr := hid hv2; clear hres2 hv2) | (go_at_call 49; refine (shrBits_c a2 k2 c2 s U _ (by omega) s0 s1 (by exact HRes2.out.rd) HRes2.out.lm).mono ?_; rintro e w7 ⟨a3, k3, c3, R, r, rfl, hres3, r0, r1, hv3⟩; have HRes3 := hid hres3; have HV3 := hid hv3; clear hres3 hv3))
      all_goals
        go_wp2
        go_ret2
        have B := HRes3.out.bel
        have e3 := HV3.out
        rw [HP.out, HVr.out] at e3
        rw [HP.out] at r1
        obtain ⟨g1, g2⟩ := rest_of PP0.out VV.out.symm VALE.out TPE.out e3 r0 r1
        refine ⟨a1, k1, c1, Q, a3, k3, c3, R, rfl, (HRes1.out.later ⟨B.os, B.tape, B.output, B.size, B.block⟩).mono (by omega), (HRes3.out.ahead (by repeat (first | exact hbel | refine below_drewN ?_ _ | refine Below.drew ?_))).mono (by omega), ?_, vf_nonneg HRes3.out.lm, g2⟩
        rw [HVq.out]; exact g1

/-- divMod: for all numbers. -/
theorem divMod_long (ao bo : Option Addr) (n m ca cb : Nat) (f h : Nat → Int) (w : World) (hn : n ≤ 8796093022208) (hm : m ≤ 8796093022208) (hr : Rd .u64 w ao n f) (hs : Rd .u64 w bo m h) (hf : Lm f n) (hh : Lm h m) (ff : Fm f n) (fh : Fm h m) (h2 : 2 ≤ m) (hle : vf h m ≤ vf f n) :
    Calls Tryd.prog 18 #[.slice ao n ca, .slice bo m cb] w fun e w' => ∃ a1 k1 c1 q a2 k2 c2 r, e = .returned (.tuple #[.slice a1 k1 c1, .slice a2 k2 c2]) ∧ Res n w w' a1 k1 c1 q ∧ Res (n + 1) w w' a2 k2 c2 r ∧ vf f n = vf q k1 * vf h m + vf r k2 ∧ 0 ≤ vf r k2 ∧ vf r k2 < vf h m := by
  have cc := cmp_c ao bo n m ca cb f h w (by omega) (by omega) hr hs hf hh ff fh
  have CC := hid cc
  have CL := hid (fun q => divLong_c ao bo n m ca cb f h (w.drewN q) hn hm hr hs hf hh fh h2 hle)
  have HLe := hid hle
  have h1 : ((m : Int) == 1) = false := by simp; omega
  clear cc hr hs hf hh ff fh hle
  go_enter Tryd.func18, Tryd.ntmps18
  go_wp2_with fail
  refine CC.out.mono ?_
  rintro e w1 ⟨⟨q, rfl⟩, c, rfl, ho⟩
  have hc : 0 ≤ c := by have := HLe.out; unfold Ord at ho; omega
  clear ho
  go_wp2_with fail
  refine (CL.out q).mono ?_
  rintro e w2 ⟨a1, k1, c1, q1, a2, k2, c2, r, rfl, hres1, hres2, hv, hr0, hr1⟩
  have HV := hid hv; have HR0 := hid hr0; have HR1 := hid hr1
  clear hv hr0 hr1
  go_wp2
  go_ret2
  have hb := below_drewN (Below.refl w.heap.size w) q
  exact ⟨a1, k1, c1, q1, a2, k2, c2, r, rfl, hres1.ahead hb, hres2.ahead hb, HV.out, HR0.out, HR1.out⟩

theorem divMod_c (ao bo : Option Addr) (n m ca cb : Nat) (f h : Nat → Int) (w : World) (hn : n ≤ 8796093022208) (hm : m ≤ 8796093022208) (hr : Rd .u64 w ao n f) (hs : Rd .u64 w bo m h) (hf : Lm f n) (hh : Lm h m) (ff : Fm f n) (fh : Fm h m) (hm0 : 0 < m) :
    Calls Tryd.prog 18 #[.slice ao n ca, .slice bo m cb] w fun e w' => ∃ a1 k1 c1 q a2 k2 c2 r, e = .returned (.tuple #[.slice a1 k1 c1, .slice a2 k2 c2]) ∧ Res n w w' a1 k1 c1 q ∧ Res (n + 1) w w' a2 k2 c2 r ∧ vf f n = vf q k1 * vf h m + vf r k2 ∧ 0 ≤ vf r k2 ∧ vf r k2 < vf h m := by
  by_cases hsm : m = 1 ∨ vf f n < vf h m
  · exact divMod_small ao bo n m ca cb f h w hn hm hr hs hf hh ff fh hsm
  · exact divMod_long ao bo n m ca cb f h w hn hm hr hs hf hh ff fh (by omega) (by omega)
end Go.Proofs.YtjjbmioicliipabDoor
