/-
  The walk of package nat's divLong, and divMod for all numbers. Walks of nat's calls Mul and DivMod, whatever they are handed. Walks of package nat's texts: bytes.TrimLeft of noughts, digits, Text. Walks of the document's reference for nat: Form, Twin, Same, Low, two, light. Walks of package nat's calls Text, DivMod and Gcd. The walk of the statements' own look at answers that the document fixes (awake). What a call's own stores turned; lists of a call's own. No Go text is named here. Walks of package whole: Form, signed. Walks of package whole's calls Add, Sub, Mul. Walks of package whole: slices.Clone, Neg, Cmp, Of.
-/
import Derived.Test.YtlpmfmphglgocaaGreatDoorZ2
import Derived.Test.YtlpmfmphglgocaaGreatDoorZ1
import Derived.Test.YtlpmfmphglgocaaGreatDoorZ0
import Derived.Lib.LazyBuf
namespace Go.Proofs.YtlpmfmphglgocaaGreatDoor
open Go.RowKit

/-- Quotient and rest out of what is left of the shifted numbers. -/
theorem rest_of {A B P V U q R r : Int} (p0 : 0 < P) (hV : V = B * P) (h : U + V * q = A * P) (hU : U < V) (hR : R * P + r = U) (r0 : 0 ≤ r) (r1 : r < P) : A = q * B + R ∧ R < B := by
  have e1 : (A - q * B) * P = U := by rw [Int.sub_mul]; rw [hV] at h; have : q * B * P = B * P * q := by grind
                                      omega
  have e2 : U / P = A - q * B := by rw [← e1]; exact Int.mul_ediv_cancel _ (by omega)
  have e3 : U / P = R := by rw [← hR, Int.add_comm, Int.add_mul_ediv_right _ _ (by omega), Int.ediv_eq_zero_of_lt r0 r1]; omega
  refine ⟨by omega, ?_⟩
  have : R * P < B * P := by rw [← hV]; omega
  exact Int.lt_of_mul_lt_mul_right this (Int.le_of_lt p0)

set_option maxRecDepth 100000 in
set_option maxHeartbeats 8000000 in
theorem divLong_cA (ao bo : Option Addr) (n m ca cb : Nat) (f h : Nat → Int) (w : World) (hn : n ≤ 8796093022208) (hm : m ≤ 8796093022208) (hr : Rd .u64 w ao n f) (hs : Rd .u64 w bo m h) (hf : Lm f n) (hh : Lm h m) (fh : Fm h m) (h2 : 2 ≤ m) (hle : vf h m ≤ vf f n) :
    Calls Tryz.prog 109 #[.slice ao n ca, .slice bo m cb] w fun e w' => ∃ a1 k1 c1 q a2 k2 c2 r, e = .returned (.tuple #[.slice a1 k1 c1, .slice a2 k2 c2]) ∧ Res n w w' a1 k1 c1 q ∧ Res (n + 1) w w' a2 k2 c2 r ∧ vf f n = vf q k1 * vf h m + vf r k2 ∧ 0 ≤ vf r k2 ∧ vf r k2 < vf h m ∧ Apart a1 a2 := by
  have hmn : m ≤ n := vf_len hh hf fh hle
  obtain ⟨k, rfl⟩ : ∃ k, m = k + 1 := ⟨m - 1, by omega⟩
  obtain ⟨lq, rfl⟩ : ∃ lq, n = lq + k := ⟨n - k, by omega⟩
  obtain ⟨b, ob, rfl⟩ := hs.at (by omega)
  obtain ⟨y, hy⟩ : ∃ y, h k = y := ⟨_, rfl⟩
  have hcell : w.cell? ⟨b, ob + k, none⟩ = some (.int .u64 y) := by rw [← hy]; exact hs.cell (by omega)
  have hy01 := hh k (by omega)
  have hyne : y ≠ 0 := by rw [← hy]; rcases fh with h | h; omega; simpa using h
  rw [hy] at hy01
  obtain ⟨y, rfl⟩ := Int.eq_ofNat_of_zero_le hy01.1
  obtain ⟨s, s0, s1, hse, hP1, hP2⟩ := lead_nums y (by omega) (by omega)
  have cl := Tryz.bits_LeadingZeros64 (y : Int) w (by omega) (by omega)
  rw [Int.toNat_natCast, hse] at cl
  obtain ⟨P, hP⟩ : ∃ P : Int, 2 ^ s.toNat = P := ⟨_, rfl⟩
  have p0 : 0 < P := by rw [← hP]; exact Int.pow_pos (by decide)
  have p1 : P ≤ 9223372036854775808 := by
    rw [← hP]
    have e1 : (2 : Int) ^ s.toNat * 2 ^ (63 - s).toNat = 9223372036854775808 := by rw [← Int.pow_add, show s.toNat + (63 - s).toNat = 63 by omega]; rfl
    have e2 : (0 : Int) < 2 ^ (63 - s).toNat := Int.pow_pos (by decide)
    have := Int.mul_le_mul_of_nonneg_left (show (1 : Int) ≤ 2 ^ (63 - s).toNat by omega) (Int.le_of_lt (show (0 : Int) < 2 ^ s.toNat from Int.pow_pos (by decide)))
    omega
  have hP1' : 9223372036854775808 ≤ (y : Int) * P := by rw [← hP]; exact hP1
  have hP2' : ((y : Int) + 1) * P ≤ 18446744073709551616 := by rw [← hP]; exact hP2
  obtain ⟨hV1, hV2⟩ := norm_V hh hy p0 hP1' hP2'
  have hA := vf_lt hf
  have CL := hid cl; have HF := hid hf; have HH := hid hh; have HR := hid hr; have HS := hid hs; have HP := hid hP; have PP0 := hid p0; have PP1 := hid p1; have HV1 := hid hV1; have HV2 := hid hV2; have HA := hid hA
  clear cl hf hh hr hs hP p0 p1 hV1 hV2 hA hP1 hP2 hP1' hP2' hse fh hle hy
  go_enter Tryz.func109, Tryz.ntmps109
  go_wp2_with fail
  refine CL.out.mono ?_
  rintro e w' ⟨rfl, rfl⟩
  go_wp2_with fail
  refine (shl_c (some ⟨b, ob, none⟩) (k + 1) cb 0 s s h _ (by omega) (by omega) s0 s1 (by omega) HS.out HH.out).mono ?_
  rintro e w1 ⟨av, kv, cv, fv, rfl, hresv, hvv⟩
  rw [HP.out] at hvv
  have hvv2 : vf fv kv = vf h (k + 1) * P := by rw [hvv]; simp [pw]
  have hkv := norm_len hresv.lm hresv.fm hvv2 HV1.out HV2.out
  subst hkv
  have htop := top_ge hresv.lm (by rw [hvv2]; exact HV1.out)
  obtain ⟨gv, hav, hgv0, hgv, hblv⟩ : ∃ gv, av = some ⟨gv, 0, none⟩ ∧ w'.heap.size ≤ gv ∧ gv < w1.heap.size ∧ Rd .u64 w1 (some ⟨gv, 0, none⟩) (k + 1) fv := by
    rcases hresv.own with ⟨_, h, _⟩ | ⟨g, e, hg, _, hn, _, hb⟩
    · omega
    · exact ⟨g, e, hg, hb.lt, hb.rd0 hn⟩
  subst hav
  have HVV := hid hvv2; have HTop := hid htop; have HRv := hid hblv; have LV := hid hresv.lm; have BV := hid hresv.bel
  have HR1 := hid (HR.out.below BV.out (Nat.le_refl _))
  clear hvv hvv2 htop hblv hresv CL hcell HS HR
  go_wp2_with fail
  refine (shl_c ao (lq + k) ca 0 s s f w1 (by omega) (by omega) s0 s1 (by omega) HR1.out HF.out).mono ?_
  rintro e w2 ⟨au, ku, cu, fu, rfl, hresu, hvu⟩
  rw [HP.out] at hvu
  have hvu2 : vf fu ku = vf f (lq + k) * P := by rw [hvu]; simp [pw]
  have hkul : ku ≤ lq + k + 1 := by have := hresu.le; omega
  have HVU := hid hvu2; have HRu := hid hresu.rd; have LU := hid hresu.lm; have BU := hid hresu.bel
  have HRv2 := hid (HRv.out.below BU.out (Nat.le_refl _))
  clear hvu hvu2 hresu HR1 HRv
  go_wp2_with fail
  refine (padded_c au ku cu (lq + k + 1) _ fu w2 (by omega) hkul (by omega) HRu.out).mono ?_
  rintro e w3 ⟨rfl, hbel3, hb3⟩
  have HRv3 := hid (HRv2.out.below hbel3 (Nat.le_refl _))
  have BP := hid hbel3; have HB3 := hid hb3
  clear HRv2 HRu hbel3 hb3
  go_wp2_with (at_make; refine wpList_make_blk .u64 w3 rfl (.tmp 35) (.tmp 35) 22 rfl 28 8 Tryz.underlying22 Tryz.infoU64 .i64 .i64 _ _ lq rfl rfl (by omega) (by omega) (by omega) (by unfold maxLen; omega) ?_; intro w4 hb4 hbel4)
  have G3 : w2.heap.size < w3.heap.size := HB3.out.lt
  have G4 : w3.heap.size < w4.heap.size := hb4.lt
  have z1 := BV.out.size; have z2 := BU.out.size
  have HB4 := hid (HB3.out.below hbel4 G3)
  have HRv4 := hid (HRv3.out.below hbel4 (Nat.le_refl _))
  have BALL := hid (BV.out.trans ((BU.out.mono z1).trans ((BP.out.mono (by omega)).trans (hbel4.mono (by omega)))))
  obtain ⟨V, hV⟩ : ∃ V, vf h (k + 1) * P = V := ⟨_, rfl⟩
  have hval0 : vf (ext fu ku) (lq + (k + 1)) = vf f (lq + k) * P := by rw [vf_ext_list _ _ _ (by omega), HVU.out]
  have hL0 : Lm (ext fu ku) (lq + (k + 1)) := fun j hj => by
    by_cases hjn : j < ku
    · rw [ext_in _ _ _ hjn]; exact LU.out j hjn
    · rw [ext_out _ _ _ (by omega)]; omega
  have htop0 := first_top hL0 hval0 HA.out PP0.out PP1.out (V := V) (by rw [← hV]; exact HV1.out)
  have VAL0 := hid hval0; have L0 := hid hL0; have TOP0 := hid htop0; have VV := hid hV; have HB4q := hid hb4
  have hVlt : V < pw (k + 1) := by rw [← hV]; exact HV2.out
  have hvfv : vf fv (k + 1) = V := by rw [HVV.out, hV]
  have VLT := hid hVlt; have VFV := hid hvfv
  clear hval0 hL0 htop0 hV hb4 hVlt hvfv HB3 HRv3 BV BU BP HVV HV1 HV2 HVU LU hbel4
  generalize hG : w2.heap.size = G at G3 G4 z2 HB4 ⊢
  generalize hH : w3.heap.size = H at G3 G4 HB4q ⊢
  clear hG hH
  go_loopw [39] (fun t wr => ∃ (i : Nat) (U Q : Nat → Int), i ≤ lq ∧ t = .int .i64 i ∧ Below w'.heap.size w' wr ∧ Hid (w4.heap.size ≤ wr.heap.size) ∧ Hid (Blk .u64 28 wr G (lq + k + 1) U) ∧ Hid (Lm U (lq + k + 1)) ∧ Hid (Blk .u64 28 wr H lq Q) ∧ Hid (Lm Q lq) ∧ Hid (Rd .u64 wr (some ⟨gv, 0, none⟩) (k + 1) fv) ∧ Hid (∀ j, j < lq - i → Q j = 0) ∧ Hid (∀ j, lq - i + (k + 1) ≤ j → j < lq + k + 1 → U j = 0) ∧ Hid (vf (sh U (lq - i)) (k + 1) < V) ∧ Hid (vf U (lq + k + 1) + V * vf Q lq = vf f (lq + k) * P)) (fun t _ => lq - (intOf t).toNat)
  case atStart => exact ⟨0, ext fu ku, fun _ => 0, by omega, rfl, BALL.out, Nat.le_refl _, HB4.out, L0.out, HB4q.out, lm_zero _, HRv4.out, fun _ _ => rfl, fun j h1 h2 => by omega, TOP0.out, (by show _ = _; rw [vf_zero (f := fun _ => 0) (fun _ _ => rfl), VAL0.out.symm]; simp; rfl)⟩
  case round =>
    clear BALL HB4 L0 HB4q HRv4 TOP0 VAL0
    obtain ⟨i, U, Q, hi, rfl, hbel, HSz, HBU, HLU, HBQ, HLQ, HRv, HQz, HUz, HTp, HVal⟩ := hrel
    by_cases hlt : i < lq
    · obtain ⟨p, hp⟩ : ∃ p, lq - i = p + 1 := ⟨lq - i - 1, by omega⟩
      have hpi : (lq : Int) - 1 - (i : Int) = (p : Int) := by omega
      have hp2 : p < lq := by omega
      have hp3 : ¬ (p = lq + k + 1) := by omega
      have HPe := hid hp
      clear hp
      have hw := win_lt (p := p) (HLU.out.mono (by omega)) (by rw [← HPe.out]; exact HTp.out)
      have HW := hid hw
      clear hw
      have hbl := HBU.out
      have z3 := HSz.out
      go_wp2_with fail
      rw [show p + (k + 1) + 1 - p = k + 1 + 1 by omega]
      refine (takeOut_c G p (k + 1) (lq + k + 1 - p) (lq + k + 1) U gv 0 cv fv wr HBU.out HLU.out (by omega) (by omega) (by omega) (by omega) HRv.out LV.out (by omega) h2 HTop.out (by rw [VFV.out]; exact HW.out)).mono ?_
      rintro e w5 ⟨t, rfl, ht0, ht1, hon, U', hbu', hlu', heu', hvu', hlt'⟩
      rw [VFV.out] at hvu' hlt'
      have hbq' := HBQ.out.only hon (by omega)
      have hcelq := hbq'.cell (j := p) hp2
      have hfzq := hbq'.frozen p
      obtain ⟨hz, hzv⟩ := top_zero (hlu'.sh (o := p) (m := k + 1 + 1) (by omega)) (Int.lt_trans hlt' VLT.out)
      have hbel5 : Below w'.heap.size w' w5 := below_only hbel hon (by omega) hbel.size
      have HB5 := hid hbu'; have HQ5 := hid hbq'; have HL5 := hid hlu'; have HE5 := hid heu'; have HV5 := hid hvu'; have HLT5 := hid hlt'; have HZ5 := hid hz; have HZV5 := hid hzv; have HON := hid hon
      have HR5 := hid (HRv.out.only hon (off_some (by omega)))
      clear hbu' hbq' hlu' heu' hvu' hlt' hz hzv hon hbl
      go_wp2
      go_roundw
      case rel =>
        refine ⟨i + 1, U', upd Q p t, by omega, by go_num, below_only hbel5 ((Only.refl _ _).setCell _ _ _) (by omega) hbel5.size, ?_, HB5.out.setOther (by simp; omega) _, HL5.out, HQ5.out.set p t, HLQ.out.upd ⟨ht0, ht1⟩, HR5.out.only ((Only.refl _ _).setCell _ _ _) (off_some (by omega)), ?_, ?_, ?_, ?_⟩
        · have := HON.out.size
          show _ ≤ _
          simp [World.setCell]; omega
        · intro j hj
          have := HPe.out
          rw [upd_other _ _ _ _ (by omega)]
          exact HQz.out j (by omega)
        · intro j h1 h2
          have hpe := HPe.out
          by_cases hj : j = p + (k + 1)
          · subst hj; exact HZ5.out
          · rw [HE5.out j (by omega)]
            exact HUz.out j (by omega) h2
        · have hpe := HPe.out
          show _ < _
          rw [show lq - (i + 1) = p by omega, HZV5.out]; exact HLT5.out
        · have e1 := win_val (N := lq + k + 1) (by omega) HE5.out HV5.out
          have e2 := vf_upd (Q := Q) (N := lq) (t := t) hp2 (HQz.out p (by have := HPe.out; omega))
          have e3 := HVal.out
          show _ = _
          rw [e1, e2, Int.mul_add, ← e3]
          grind
      case measure => simp [intOf]; omega
    · have hil : i = lq := by omega
      subst hil
      have z3 := HSz.out
      have hUz : vf U (i + k + 1) = vf U (k + 1) := vf_ext (by omega) (fun j h1 h2 => HUz.out j (by omega) h2)
      have hTp := HTp.out
      rw [Nat.sub_self, sh_zero] at hTp
      have hVal := HVal.out
      rw [hUz] at hVal
      have TPE := hid hTp; have VALE := hid hVal
      clear hUz hTp hVal
      have i1 : ((k + 1 : Nat) : Int) ≤ ((i + k + 1 : Nat) : Int) := by omega
      go_wp2_with fail
      go_region_with (first | (go_at_call_of 132 H; refine (trim_res H i i Q w' _ (by repeat (first | exact hbel | refine below_drewN ?_ _ | refine Below.drew ?_)) (by omega) (by exact HBQ.out) (Nat.le_refl _) (by omega) HLQ.out).mono ?_; rintro e w6 ⟨rfl, a1, k1, c1, rfl, hres1, hk1, hv1⟩; have HRes1 := hid hres1; have HVq := hid hv1; clear hres1 hv1) | (go_at_call_of 132 G; refine (trim_res G (i + k + 1) (k + 1) U w' _ (by repeat (first | exact hbel | refine below_drewN ?_ _ | refine Below.drew ?_)) (by omega) (by exact HBU.out) (by omega) (by omega) HLU.out).mono ?_; rintro e w6 ⟨rfl, a2, k2, c2, rfl, hres2, hk2, hv2⟩; have HRes2 := hid hres2; have HVr := hid hv2; clear hres2 hv2) | (go_at_call 138; refine (shrBits_c a2 k2 c2 s U _ (by omega) s0 s1 (by exact HRes2.out.rd) HRes2.out.lm).mono ?_; rintro e w7 ⟨a3, k3, c3, R, r, rfl, hres3, r0, r1, hv3⟩; have HRes3 := hid hres3; have HV3 := hid hv3; clear hres3 hv3))
      all_goals
        go_wp2
        go_ret2
        have B := HRes3.out.bel
        have e3 := HV3.out
        rw [HP.out, HVr.out] at e3
        rw [HP.out] at r1
        obtain ⟨g1, g2⟩ := rest_of PP0.out VV.out.symm VALE.out TPE.out e3 r0 r1
        refine ⟨a1, k1, c1, Q, a3, k3, c3, R, rfl, (HRes1.out.later ⟨B.os, B.tape, B.output, B.size, B.block⟩).mono (by omega), (HRes3.out.ahead (by repeat (first | exact hbel | refine below_drewN ?_ _ | refine Below.drew ?_))).mono (by omega), ?_, vf_nonneg HRes3.out.lm, g2, HRes3.out.apart HRes1.out.und (Nat.le_refl _)⟩
        rw [HVq.out]; exact g1

/-- divMod: for all numbers. -/
theorem divMod_longA (ao bo : Option Addr) (n m ca cb : Nat) (f h : Nat → Int) (w : World) (hn : n ≤ 8796093022208) (hm : m ≤ 8796093022208) (hr : Rd .u64 w ao n f) (hs : Rd .u64 w bo m h) (hf : Lm f n) (hh : Lm h m) (ff : Fm f n) (fh : Fm h m) (h2 : 2 ≤ m) (hle : vf h m ≤ vf f n) :
    Calls Tryz.prog 83 #[.slice ao n ca, .slice bo m cb] w fun e w' => ∃ a1 k1 c1 q a2 k2 c2 r, e = .returned (.tuple #[.slice a1 k1 c1, .slice a2 k2 c2]) ∧ Res n w w' a1 k1 c1 q ∧ Res (n + 1) w w' a2 k2 c2 r ∧ vf f n = vf q k1 * vf h m + vf r k2 ∧ 0 ≤ vf r k2 ∧ vf r k2 < vf h m ∧ Apart a1 a2 := by
  have cc := cmp_c ao bo n m ca cb f h w (by omega) (by omega) hr hs hf hh ff fh
  have CC := hid cc
  have CL := hid (fun q => divLong_cA ao bo n m ca cb f h (w.drewN q) hn hm hr hs hf hh fh h2 hle)
  have HLe := hid hle
  have h1 : ((m : Int) == 1) = false := by simp; omega
  clear cc hr hs hf hh ff fh hle
  go_enter Tryz.func83, Tryz.ntmps83
  go_wp2_with fail
  refine CC.out.mono ?_
  rintro e w1 ⟨⟨q, rfl⟩, c, rfl, ho⟩
  have hc : 0 ≤ c := by have := HLe.out; unfold Ord at ho; omega
  clear ho
  go_wp2_with fail
  refine (CL.out q).mono ?_
  rintro e w2 ⟨a1, k1, c1, q1, a2, k2, c2, r, rfl, hres1, hres2, hv, hr0, hr1, hap⟩
  have HV := hid hv; have HR0 := hid hr0; have HR1 := hid hr1; have HAP := hid hap
  clear hv hr0 hr1 hap
  go_wp2
  go_ret2
  have hb := below_drewN (Below.refl w.heap.size w) q
  exact ⟨a1, k1, c1, q1, a2, k2, c2, r, rfl, hres1.ahead hb, hres2.ahead hb, HV.out, HR0.out, HR1.out, HAP.out⟩

theorem divMod_cA (ao bo : Option Addr) (n m ca cb : Nat) (f h : Nat → Int) (w : World) (hn : n ≤ 8796093022208) (hm : m ≤ 8796093022208) (hr : Rd .u64 w ao n f) (hs : Rd .u64 w bo m h) (hf : Lm f n) (hh : Lm h m) (ff : Fm f n) (fh : Fm h m) (hm0 : 0 < m) :
    Calls Tryz.prog 83 #[.slice ao n ca, .slice bo m cb] w fun e w' => ∃ a1 k1 c1 q a2 k2 c2 r, e = .returned (.tuple #[.slice a1 k1 c1, .slice a2 k2 c2]) ∧ Res n w w' a1 k1 c1 q ∧ Res (n + 1) w w' a2 k2 c2 r ∧ vf f n = vf q k1 * vf h m + vf r k2 ∧ 0 ≤ vf r k2 ∧ vf r k2 < vf h m ∧ Apart a1 a2 := by
  by_cases hsm : m = 1 ∨ vf f n < vf h m
  · exact divMod_smallA ao bo n m ca cb f h w hn hm hr hs hf hh ff fh hsm
  · exact divMod_longA ao bo n m ca cb f h w hn hm hr hs hf hh ff fh (by omega) (by omega)
theorem divMod_c (ao bo : Option Addr) (n m ca cb : Nat) (f h : Nat → Int) (w : World) (hn : n ≤ 8796093022208) (hm : m ≤ 8796093022208) (hr : Rd .u64 w ao n f) (hs : Rd .u64 w bo m h) (hf : Lm f n) (hh : Lm h m) (ff : Fm f n) (fh : Fm h m) (hm0 : 0 < m) :
    Calls Tryz.prog 83 #[.slice ao n ca, .slice bo m cb] w fun e w' => ∃ a1 k1 c1 q a2 k2 c2 r, e = .returned (.tuple #[.slice a1 k1 c1, .slice a2 k2 c2]) ∧ Res n w w' a1 k1 c1 q ∧ Res (n + 1) w w' a2 k2 c2 r ∧ vf f n = vf q k1 * vf h m + vf r k2 ∧ 0 ≤ vf r k2 ∧ vf r k2 < vf h m :=
  (divMod_cA ao bo n m ca cb f h w hn hm hr hs hf hh ff fh hm0).mono fun _ _ ⟨a1, k1, c1, q, a2, k2, c2, r, h1, h2, h3, h4, h5, h6, _⟩ => ⟨a1, k1, c1, q, a2, k2, c2, r, h1, h2, h3, h4, h5, h6⟩
end Go.Proofs.YtlpmfmphglgocaaGreatDoor
namespace Go.Proofs.YtlpmfmphglgocaaGreatDoor
open Go.RowKit

set_option maxHeartbeats 800000 in
theorem Mul_c (ao bo : Option Addr) (n m ca cb : Nat) (f h : Nat → Int) (w : World) (hn : n ≤ 1099511627776) (hm : m ≤ 1099511627776) (hca : n ≤ ca) (hcb : m ≤ cb) (hcam : ca ≤ 9223372036854775807) (hcbm : cb ≤ 9223372036854775807) (hr : Rd .u64 w ao n f) (hs : Rd .u64 w bo m h) (hf : Lm f n) (hh : Lm h m) :
    Calls Tryz.prog 89 #[.slice ao n ca, .slice bo m cb] w fun e w' => ∃ ao' k cap' f' er, e = .returned (.tuple #[.slice ao' k cap', .int .i64 er]) ∧ Res (n + m) w w' ao' k cap' f' ∧
      (Fm f n ∧ Fm h m ∧ er = 0 ∧ vf f' k = vf f n * vf h m ∨ ¬ (Fm f n ∧ Fm h m) ∧ er = 3 ∧ k = 0) := by
  have HF := (show Hid (Lm f n) from hf)
  have HH := (show Hid (Lm h m) from hh)
  clear hf hh
  cases hfa : fmB f n
  · have c1 := fun w' hr' => form_c ao n ca f w' (by omega) hr'
    rw [hfa] at c1
    have HN := hid (nfm_of hfa)
    have C1 := hid c1
    clear c1 hfa
    go_enter Tryz.func89, Tryz.ntmps89
    go_wp2_with (go_at_call 67; refine (C1.out _ hr).mono ?_; rintro e w' ⟨rfl, rfl⟩)
    go_ret2
    exact ⟨_, _, _, f, _, rfl, Res.nil f (Below.refl _ _), .inr ⟨fun x => HN.out x.1, rfl, rfl⟩⟩
  · have c1 := fun w' hr' => form_c ao n ca f w' (by omega) hr'
    rw [hfa] at c1
    have FA := hid (fm_of hfa)
    have C1 := hid c1
    clear c1 hfa
    cases hfb : fmB h m
    · have c2 := fun w' hr' => form_c bo m cb h w' (by omega) hr'
      rw [hfb] at c2
      have HN := hid (nfm_of hfb)
      have C2 := hid c2
      clear c2 hfb
      go_enter Tryz.func89, Tryz.ntmps89
      go_wp2_with fail
      refine (C1.out _ hr).mono ?_
      rintro e w' ⟨rfl, rfl⟩
      go_wp2_with fail
      refine (C2.out _ hs).mono ?_
      rintro e w' ⟨rfl, rfl⟩
      go_wp2
      go_ret2
      exact ⟨_, _, _, f, _, rfl, Res.nil f (Below.refl _ _), .inr ⟨fun x => HN.out x.2, rfl, rfl⟩⟩
    · have c2 := fun w' hr' => form_c bo m cb h w' (by omega) hr'
      rw [hfb] at c2
      have FB := hid (fm_of hfb)
      have C2 := hid c2
      clear c2 hfb
      go_enter Tryz.func89, Tryz.ntmps89
      go_wp2_with fail
      refine (C1.out _ hr).mono ?_
      rintro e w' ⟨rfl, rfl⟩
      go_wp2_with fail
      refine (C2.out _ hs).mono ?_
      rintro e w' ⟨rfl, rfl⟩
      go_wp2_with fail
      refine (mul_c ao bo n m ca cb f h _ hn hm hca hcb hcam hcbm hr hs HF.out HH.out).mono ?_
      rintro e w' ⟨ao', k, cap', f', rfl, hres, hv⟩
      have HV := hid hv
      clear hv
      go_wp2
      go_ret2
      exact ⟨_, _, _, f', _, rfl, hres, .inl ⟨FA.out, FB.out, rfl, HV.out⟩⟩

/-- What DivMod answers. -/
def DivAns (n m : Nat) (f h : Nat → Int) (k1 k2 : Nat) (q r : Nat → Int) (er : Int) : Prop :=
  Fm f n ∧ Fm h m ∧ 0 < m ∧ er = 0 ∧ vf f n = vf q k1 * vf h m + vf r k2 ∧ 0 ≤ vf r k2 ∧ vf r k2 < vf h m ∨ Fm f n ∧ Fm h m ∧ m = 0 ∧ er = 4 ∧ k1 = 0 ∧ k2 = 0 ∨ ¬ (Fm f n ∧ Fm h m) ∧ er = 3 ∧ k1 = 0 ∧ k2 = 0

set_option maxHeartbeats 800000 in
theorem DivMod_cA (ao bo : Option Addr) (n m ca cb : Nat) (f h : Nat → Int) (w : World) (hn : n ≤ 8796093022208) (hm : m ≤ 8796093022208) (hr : Rd .u64 w ao n f) (hs : Rd .u64 w bo m h) (hf : Lm f n) (hh : Lm h m) :
    Calls Tryz.prog 51 #[.slice ao n ca, .slice bo m cb] w fun e w' => ∃ a1 k1 c1 q a2 k2 c2 r er, e = .returned (.tuple #[.slice a1 k1 c1, .slice a2 k2 c2, .int .i64 er]) ∧ Res n w w' a1 k1 c1 q ∧ Res (n + 1) w w' a2 k2 c2 r ∧ DivAns n m f h k1 k2 q r er ∧ Apart a1 a2 := by
  have HF := (show Hid (Lm f n) from hf)
  have HH := (show Hid (Lm h m) from hh)
  clear hf hh
  cases hfa : fmB f n
  · have c1 := fun w' hr' => form_c ao n ca f w' (by omega) hr'
    rw [hfa] at c1
    have HN := hid (nfm_of hfa)
    have C1 := hid c1
    clear c1 hfa
    go_enter Tryz.func51, Tryz.ntmps51
    go_wp2_with (go_at_call 67; refine (C1.out _ hr).mono ?_; rintro e w' ⟨rfl, rfl⟩)
    go_ret3
    exact ⟨_, _, _, f, _, _, _, f, _, rfl, Res.nil f (Below.refl _ _), Res.nil f (Below.refl _ _), .inr (.inr ⟨fun x => HN.out x.1, rfl, rfl, rfl⟩), apart_none _⟩
  · have c1 := fun w' hr' => form_c ao n ca f w' (by omega) hr'
    rw [hfa] at c1
    have FA := hid (fm_of hfa)
    have C1 := hid c1
    clear c1 hfa
    cases hfb : fmB h m
    · have c2 := fun w' hr' => form_c bo m cb h w' (by omega) hr'
      rw [hfb] at c2
      have HN := hid (nfm_of hfb)
      have C2 := hid c2
      clear c2 hfb
      go_enter Tryz.func51, Tryz.ntmps51
      go_wp2_with fail
      refine (C1.out _ hr).mono ?_
      rintro e w' ⟨rfl, rfl⟩
      go_wp2_with fail
      refine (C2.out _ hs).mono ?_
      rintro e w' ⟨rfl, rfl⟩
      go_wp2
      go_ret3
      exact ⟨_, _, _, f, _, _, _, f, _, rfl, Res.nil f (Below.refl _ _), Res.nil f (Below.refl _ _), .inr (.inr ⟨fun x => HN.out x.2, rfl, rfl, rfl⟩), apart_none _⟩
    · have c2 := fun w' hr' => form_c bo m cb h w' (by omega) hr'
      rw [hfb] at c2
      have FB := hid (fm_of hfb)
      have C2 := hid c2
      clear c2 hfb
      by_cases hm0 : m = 0
      · subst hm0
        go_enter Tryz.func51, Tryz.ntmps51
        go_wp2_with fail
        refine (C1.out _ hr).mono ?_
        rintro e w' ⟨rfl, rfl⟩
        go_wp2_with fail
        refine (C2.out _ hs).mono ?_
        rintro e w' ⟨rfl, rfl⟩
        go_wp2
        go_ret3
        exact ⟨_, _, _, f, _, _, _, f, _, rfl, Res.nil f (Below.refl _ _), Res.nil f (Below.refl _ _), .inr (.inl ⟨FA.out, FB.out, rfl, rfl, rfl, rfl⟩), apart_none _⟩
      · have hmi : ((m : Int) == 0) = false := by simp; omega
        go_enter Tryz.func51, Tryz.ntmps51
        go_wp2_with fail
        refine (C1.out _ hr).mono ?_
        rintro e w' ⟨rfl, rfl⟩
        go_wp2_with fail
        refine (C2.out _ hs).mono ?_
        rintro e w' ⟨rfl, rfl⟩
        go_wp2_with fail
        refine (divMod_cA ao bo n m ca cb f h _ hn hm hr hs HF.out HH.out FA.out FB.out (by omega)).mono ?_
        rintro e w' ⟨a1, k1, c1, q, a2, k2, c2, r, rfl, hres1, hres2, hv, hr0, hr1, hap⟩
        have HV := hid hv; have HR0 := hid hr0; have HR1 := hid hr1; have HAP := hid hap
        clear hv hr0 hr1 hap
        go_wp2
        go_ret3
        exact ⟨_, _, _, q, _, _, _, r, _, rfl, hres1, hres2, .inl ⟨FA.out, FB.out, by omega, rfl, HV.out, HR0.out, HR1.out⟩, HAP.out⟩
theorem DivMod_c (ao bo : Option Addr) (n m ca cb : Nat) (f h : Nat → Int) (w : World) (hn : n ≤ 8796093022208) (hm : m ≤ 8796093022208) (hr : Rd .u64 w ao n f) (hs : Rd .u64 w bo m h) (hf : Lm f n) (hh : Lm h m) :
    Calls Tryz.prog 51 #[.slice ao n ca, .slice bo m cb] w fun e w' => ∃ a1 k1 c1 q a2 k2 c2 r er, e = .returned (.tuple #[.slice a1 k1 c1, .slice a2 k2 c2, .int .i64 er]) ∧ Res n w w' a1 k1 c1 q ∧ Res (n + 1) w w' a2 k2 c2 r ∧ DivAns n m f h k1 k2 q r er :=
  (DivMod_cA ao bo n m ca cb f h w hn hm hr hs hf hh).mono fun _ _ ⟨a1, k1, c1, q, a2, k2, c2, r, er, h1, h2, h3, h4, _⟩ => ⟨a1, k1, c1, q, a2, k2, c2, r, er, h1, h2, h3, h4⟩
end Go.Proofs.YtlpmfmphglgocaaGreatDoor
namespace Go.Proofs.YtlpmfmphglgocaaGreatDoor
open Go.RowKit

set_option maxHeartbeats 1000000 in
theorem trimByte_c (g o L cap k0 : Nat) (t : Nat → Int) (w : World) (hr : Rd .u8 w (some ⟨g, o, none⟩) L t) (hL : L ≤ cap) (hk0 : k0 < L) (hz : ∀ j, j < k0 → t j = 48) (hnz : t k0 ≠ 48) :
    Calls Tryz.prog 153 #[.slice (some ⟨g, o, none⟩) L cap, .int .u8 48] w fun e w' => e = .returned (.slice (some ⟨g, o + k0, none⟩) (L - k0) (cap - k0)) ∧ w' = w := by
  have HZ := hid hz
  clear hz
  go_enter Tryz.func153, Tryz.ntmps153
  go_wp2
  go_loop [0] (fun v => ∃ k : Nat, k ≤ k0 ∧ v = .slice (some ⟨g, o + k, none⟩) (L - k) (cap - k)) (fun v => match v with | .slice _ n _ => n | _ => 0)
  case atStart => exact ⟨0, by omega, rfl⟩
  case round =>
    obtain ⟨k, hk, rfl⟩ := hrel
    obtain ⟨x, hx⟩ : ∃ x, t k = x := ⟨_, rfl⟩
    have hcell : w.cell? ⟨g, o + k, none⟩ = some (.int .u8 x) := by rw [← hx]; exact hr.cell (by omega)
    have hpos : (0 : Int) < ((L - k : Nat) : Int) := by omega
    by_cases hkk : k < k0
    · have hx48 : x = 48 := by rw [← hx]; exact HZ.out k hkk
      subst hx48
      clear hx hr
      have hne : ¬ (1 = cap - k) := by omega
      have hne2 : ¬ (cap - k = 1) := by omega
      have hone : (1 : Int) ≤ ((L - k : Nat) : Int) := by omega
      go_wp2
      go_round
      case rel => exact ⟨k + 1, by omega, by simp only [Value.slice.injEq, Option.some.injEq, Addr.mk.injEq]; exact ⟨⟨trivial, by omega, trivial⟩, by omega, by omega⟩⟩
      case measure => simp; omega
    · obtain rfl : k = k0 := by omega
      have hx1 : (x == 48) = false := by rw [← hx]; simp [hnz]
      have hne0 : (((L - k : Nat) : Int) == 0) = false := by simp; omega
      clear hx hr hnz
      go_wp2
      go_ret
      exact ⟨rfl, rfl⟩

set_option maxRecDepth 100000 in
set_option maxHeartbeats 1000000 in
theorem trimLeft_c (g o L cap k0 : Nat) (t : Nat → Int) (w : World) (hr : Rd .u8 w (some ⟨g, o, none⟩) L t) (hL : L ≤ cap) (hk0 : k0 < L) (hz : ∀ j, j < k0 → t j = 48) (hnz : t k0 ≠ 48) :
    Calls Tryz.prog 122 #[.slice (some ⟨g, o, none⟩) L cap, .string ⟨#[48]⟩] w fun e w' => e = .returned (.slice (some ⟨g, o + k0, none⟩) (L - k0) (cap - k0)) ∧ w' = w := by
  have C := hid (trimByte_c g o L cap k0 t w hr hL hk0 hz hnz)
  have h0 : ((L : Int) == 0) = false := by simp; omega
  clear hr hz hnz
  go_enter Tryz.func122, Tryz.ntmps122
  go_wp2_with fail
  refine C.out.mono ?_
  rintro e w1 ⟨rfl, rfl⟩
  go_wp2
  go_ret
  exact ⟨rfl, rfl⟩

theorem lev_ge (n : Nat) (hn : n ≤ 18446744073709551616) : n ≤ 2 ^ lev n := by
  unfold lev
  by_cases h : n ≤ 1
  · rw [if_pos h]; simpa using h
  · rw [if_neg h]
    have := (bitLen_bounds _ (n - 1) rfl (by omega) (by omega)).2.2
    omega
theorem lev_le (n k : Nat) (hk : k ≤ 64) (h : n ≤ 2 ^ k) : lev n ≤ k := by
  unfold lev
  split
  · omega
  · exact Lib.bitLen_le (n - 1) k hk (by omega)
theorem dgi_top {V : Nat} (hV : 0 < V) : dgi V (Lib.nDigits V - 1) ≠ 48 := by
  have h1 : ∀ (k V : Nat), 0 < V → Lib.nDigits V = k + 1 → V / 10 ^ k % 10 ≠ 0 := by
    intro k
    induction k with
    | zero =>
      intro V hV h
      by_cases hu : V < 10
      · simp; omega
      · rw [Lib.nDigits_big hu] at h; have := Lib.nDigits_pos (V / 10); omega
    | succ k ih =>
      intro V hV h
      by_cases hu : V < 10
      · rw [Lib.nDigits_small hu] at h; omega
      · rw [Lib.nDigits_big hu] at h
        have := ih (V / 10) (by omega) (by omega)
        rw [Nat.div_div_eq_div_mul, ← Nat.pow_succ'] at this
        exact this
  have hp := Lib.nDigits_pos V
  have := h1 (Lib.nDigits V - 1) V hV (by omega)
  unfold dgi
  omega
/-- A number of n limbs has room in so many pieces. -/
theorem room_pieces {n p c : Nat} {V : Int} (hV : V < pw n) (hp : 64 * n ≤ 63 * p) (hc : p ≤ 2 ^ c) : V < ((10 ^ (19 * 2 ^ c) : Nat) : Int) := by
  have h1 : pw n = ((2 ^ (64 * n) : Nat) : Int) := by
    clear hV hp
    induction n with
    | zero => rfl
    | succ n ih => rw [pw_succ, ih, Nat.mul_add, Nat.pow_add]; simp; omega
  have h2 : 2 ^ (64 * n) ≤ 2 ^ (63 * p) := Nat.pow_le_pow_right (by omega) hp
  have h3 : 2 ^ (63 * p) ≤ 10 ^ (19 * p) := by
    rw [Nat.pow_mul, Nat.pow_mul]; exact Nat.pow_le_pow_left (by decide) p
  have h4 : 10 ^ (19 * p) ≤ 10 ^ (19 * 2 ^ c) := Nat.pow_le_pow_right (by omega) (Nat.mul_le_mul_left 19 hc)
  omega
theorem cv_text {P : Program} (w : World) (tB tS tE : TypeId) (g o cap : Nat) (t : Nat → Int) (V : Nat) (h1 : P.underlying tB = some (.slice tE)) (h2 : P.underlying tE = some (.int .u8)) (h3 : P.underlying tS = some .string) (hr : Rd .u8 w (some ⟨g, o, none⟩) (Lib.nDigits V) t) (ht : ∀ j, j < Lib.nDigits V → t j = dgi V (Lib.nDigits V - 1 - j)) :
    (convert tB tS (.slice (some ⟨g, o, none⟩) (Lib.nDigits V) cap)).run P w = .ok (.string ⟨(Lib.decDigits V).toArray⟩) w := by
  have h := run_convert_bytes_back (P := P) w tB tS tE ⟨g, o, none⟩ cap (Lib.decDigits V) h1 h2 h3 (fun j hj => by
    rw [Lib.decDigits_length] at hj
    have e := byt_dec V j hj
    have hc := hr.cell hj
    rw [ht j hj, ← e] at hc
    rw [Lib.add_plain, hc]
    unfold byt
    rw [List.getD_eq_getElem?_getD, List.getElem?_eq_getElem (by rw [Lib.decDigits_length]; exact hj)]
    rfl)
  rw [Lib.decDigits_length] at h
  exact h

set_option maxRecDepth 100000 in
set_option maxHeartbeats 2000000 in
/-- digits: the decimal digits. -/
theorem digits_c (ao : Option Addr) (n ca c : Nat) (f : Nat → Int) (V : Nat) (w : World) (hn : n ≤ 4096) (hr : Rd .u64 w ao n f) (hf : Lm f n) (ff : Fm f n) (hV : vf f n = V) (htab : Tab w) (hc : c = lev ((64 * n + 62) / 63)) (hca : n ≤ ca) (hcam : ca ≤ 9223372036854775807) (hdiv : ∀ j, j < c → ∀ X, 0 ≤ X → X ≤ (V : Int) → DivOk X (tens j)) :
    Calls Tryz.prog 97 #[.slice ao n ca] w fun e w' => e = .returned (.string ⟨(Lib.decDigits V).toArray⟩) ∧ Below w.heap.size w w' := by
  by_cases h0 : n = 0
  · subst h0
    have hV0 : V = 0 := by simp [vf] at hV; omega
    have E := hid (show Lib.decDigits V = [48] by rw [hV0, Lib.decDigits_one (by omega)]; rfl)
    clear hr hf ff hV hdiv
    go_enter Tryz.func97, Tryz.ntmps97
    go_wp2
    go_ret
    exact ⟨by rw [E.out]; rfl, Below.refl _ _⟩
  · have hVp : 0 < V := by
      have := vf_form_ge hf ff (by omega); have := pw_pos (n - 1); omega
    obtain ⟨p, hp⟩ : ∃ p, p = (64 * n + 62) / 63 := ⟨_, rfl⟩
    have hp1 : 1 ≤ p := by omega
    have hp2 : p ≤ 8192 := by omega
    rw [← hp] at hc
    have hc13 : c ≤ 13 := by rw [hc]; exact lev_le p 13 (by omega) (by omega)
    have hpc : p ≤ 2 ^ c := by rw [hc]; exact lev_ge p (by omega)
    obtain ⟨K, hK⟩ : ∃ K, K = 19 * 2 ^ c := ⟨_, rfl⟩
    have h2c : 2 ^ c ≤ 8192 := Nat.pow_le_pow_right (n := 2) (by omega) hc13
    have h2c1 : 1 ≤ 2 ^ c := Nat.pow_pos (by omega)
    have hKb : K ≤ 155648 := by omega
    have hK1 : 19 ≤ K := by omega
    have hVK : V < 10 ^ K := by
      have := room_pieces (n := n) (p := p) (c := c) (V := (V : Int)) (by rw [← hV]; exact vf_lt hf) (by omega) hpc
      rw [← hK] at this
      exact_mod_cast this
    have hnd := nDigits_le hVK (by omega)
    have hndp := Lib.nDigits_pos V
    have hsh : IntKind.i64.wrap (19 * 2 ^ c) = (K : Int) := by
      have : (19 * 2 ^ c : Int) = K := by rw [hK]; simp
      rw [this, IntKind.wrap_i64]; omega
    have C1 := hid (fun (z : Int) hz W => levels_c p z W hz (by omega))
    have C2 := hid (fun W => bases_c c W (by omega))
    have HNum := hid (show Nu w (.slice ao n ca) n (V : Int) from ⟨ao, n, ca, f, rfl, hr, hf, ff, Nat.le_refl _, hV, hca, hcam⟩)
    have HDv := hid hdiv; have HP := hid hp; have HC := hid hc; have HKK := hid hK; have HVK := hid hVK; have HT := hid htab
    have hhi : ((n : Int) * 64 + 63 - 1) / 63 = (p : Int) := by rw [hp]; omega
    clear hdiv hr hf ff hV hp hc hK hVK htab hpc h2c h2c1
    have h0i : ((n : Int) == 0) = false := by simp; omega
    go_enter Tryz.func97, Tryz.ntmps97
    go_wp2_with fail
    refine (C1.out _ rfl _).mono ?_
    rintro e w1 ⟨rfl, rfl⟩
    rw [← HC.out]
    clear C1
    go_wp2_with (at_make; refine wpList_make_blk .u8 w1 rfl (.tmp 16) (.tmp 16) 128 rfl 5 1 Tryz.underlying128 Tryz.infoU8 .i64 .i64 K K K rfl rfl rfl rfl (by omega) (by unfold maxLen; omega) ?_; intro w2 hb2 hbel2)
    have HBk2 := hid hb2
    have HNum2 := hid (HNum.out.below hbel2)
    have HT2 := hid (HT.out.below hbel2 HT.out.lt)
    clear hb2
    refine (C2.out _).mono ?_
    rintro e w3 ⟨bo, cap, rfl, hbel3, hcap, hcapm, _, hbas⟩
    have HBk3 := hid (HBk2.out.below hbel3 HBk2.out.lt)
    have HNum3 := hid (HNum2.out.below hbel3)
    have HT3 := hid (HT2.out.below hbel3 HT2.out.lt)
    have HBas := hid hbas
    have hgl : 5 < w1.heap.size := HT.out.lt
    clear C2 HBk2 HNum2 HT2 hbas
    go_wp2_with fail
    refine (putDigits_c V c HDv.out w1.heap.size 0 K K K (fun _ => 0) ao n ca n V bo cap w3 HBk3.out (by omega) (by omega) HKK.out (Nat.le_refl _) (by omega) HNum3.out (by omega) HVK.out (Int.le_refl _) HBas.out hcap hcapm (by omega) HT3.out hgl).mono ?_
    rintro e w4 ⟨rfl, hon4, t, hb4, he4, hd4⟩
    have hd5 : ∀ j, j < K → t j = dgi V (K - 1 - j) := fun j hj => by have := hd4 j hj; rwa [Nat.zero_add] at this
    have HBk4 := hid hb4; have HD := hid hd5
    have hbel4 : Below w1.heap.size w1 w4 := below_only (hbel2.trans (hbel3.mono hbel2.size)) hon4 (Nat.le_refl _) (Nat.le_trans hbel2.size hbel3.size)
    clear he4 hd4 hd5 hb4 HBk3 HNum3 HT3 HBas hon4 hbel3 hbel2 HNum HT
    obtain ⟨k0, hk0⟩ : ∃ k0, k0 = K - Lib.nDigits V := ⟨_, rfl⟩
    have hk1 : K - k0 = Lib.nDigits V := by omega
    have hk2 : k0 < K := by omega
    have hrd := HBk4.out.rd0 (Nat.le_refl _)
    have c5 := (trimLeft_c w1.heap.size 0 K K k0 t w4 hrd (Nat.le_refl _) hk2 (fun j hj => by rw [HD.out j (by omega)]; exact dgi_front (by omega)) (by rw [HD.out k0 hk2, show K - 1 - k0 = Lib.nDigits V - 1 by omega]; exact dgi_top hVp))
    rw [Nat.zero_add] at c5
    have C5 := hid c5
    clear c5
    have hcv := cv_text (P := Tryz.prog) w4 128 9 5 w1.heap.size (0 + k0) (K - k0) (sh t k0) V Tryz.underlying128 Tryz.underlying5 Tryz.underlying9 (by have := hrd.drop (i := k0) (m := Lib.nDigits V) (by omega); exact this) (fun j hj => by rw [sh_at, HD.out _ (by omega)]; congr 1; omega)
    rw [← hk1, Nat.zero_add] at hcv
    clear hrd hk0 hk1
    go_wp2_with fail
    refine C5.out.mono ?_
    rintro e w5 ⟨rfl, rfl⟩
    go_wp2
    go_ret
    exact ⟨rfl, hbel4⟩
end Go.Proofs.YtlpmfmphglgocaaGreatDoor
namespace Go.Proofs.YtlpmfmphglgocaaGreatDoor
open Go.RowKit

set_option maxHeartbeats 400000 in
theorem rform_c (ao : Option Addr) (n cap : Nat) (f : Nat → Int) (w : World) (hm : n ≤ 9223372036854775807) (hr : Rd .u64 w ao n f) :
    Calls Tryz.prog 113 #[.slice ao n cap] w fun e w' => e = .returned (.bool (fmB f n)) ∧ w' = w := by
  by_cases h0 : n = 0
  · subst h0
    have e : fmB f 0 = true := by simp [fmB]
    go_enter Tryz.func113, Tryz.ntmps113
    go_wp2
    go_ret
    exact ⟨by rw [e]; rfl, rfl⟩
  · obtain ⟨b, o, rfl⟩ := hr.at (by omega)
    obtain ⟨x, hx⟩ : ∃ x, f (n - 1) = x := ⟨_, rfl⟩
    have hc : w.cell? ⟨b, o + (n - 1), none⟩ = some (.int .u64 x) := by rw [← hx]; exact hr.cell (by omega)
    have h1 : ((n : Int) == 0) = false := by simp; omega
    have e : fmB f n = (x != 0) := by simp [fmB, h0, hx, bne]; rfl
    have E := hid e
    clear hr hx e
    go_enter Tryz.func113, Tryz.ntmps113
    go_wp2
    go_ret
    exact ⟨by rw [E.out]; rfl, rfl⟩

set_option maxHeartbeats 400000 in
/-- Low: the digits without noughts at the end. -/
theorem low_c (ao : Option Addr) (n cap : Nat) (f : Nat → Int) (w : World) (hc : n ≤ cap) (hm : cap ≤ 9223372036854775807) (hr : Rd .u64 w ao n f) (hnil : ao = none → cap = 0) :
    Calls Tryz.prog 110 #[.slice ao n cap] w fun e w' => w' = w ∧ ∃ m, m ≤ n ∧ (∀ j, m ≤ j → j < n → f j = 0) ∧ Fm f m ∧ e = .returned (.slice ao m cap) := by
  go_enter Tryz.func110, Tryz.ntmps110
  go_wp2
  go_loop [3] (fun t => ∃ m : Nat, m ≤ n ∧ t = .int .i64 m ∧ Hid (∀ j, m ≤ j → j < n → f j = 0)) (fun t => (intOf t).toNat)
  case atStart => exact ⟨n, Nat.le_refl _, rfl, fun j h1 h2 => by omega⟩
  case round =>
    obtain ⟨m, hmn, rfl, HZ⟩ := hrel
    by_cases h0 : 0 < m
    · obtain ⟨b, o, rfl⟩ := hr.at (by omega)
      obtain ⟨x, hx⟩ : ∃ x, f (m - 1) = x := ⟨_, rfl⟩
      have hcell : w.cell? ⟨b, o + (m - 1), none⟩ = some (.int .u64 x) := by rw [← hx]; exact hr.cell (by omega)
      have HX : Hid (f (m - 1) = x) := hx
      clear hx hr
      by_cases hx0 : x = 0
      · subst hx0
        go_wp2
        go_round
        case rel =>
          refine ⟨m - 1, by omega, by go_num, fun j h1 h2 => ?_⟩
          by_cases hj : j = m - 1
          · rw [hj]; exact HX.out
          · exact HZ.out j (by omega) h2
        case measure => simp [intOf]; omega
      · have hx1 : (x == 0) = false := by simp [hx0]
        go_wp2
        go_ret
        exact ⟨rfl, m, hmn, HZ.out, .inr (by rw [HX.out]; exact hx0), rfl⟩
    · have h00 : m = 0 := by omega
      subst h00
      cases ao with
      | none =>
        obtain rfl : cap = 0 := hnil rfl
        go_wp2
        go_ret
        exact ⟨rfl, 0, hmn, HZ.out, .inl rfl, rfl⟩
      | some ad =>
        clear hnil
        go_wp2
        go_ret
        exact ⟨rfl, 0, hmn, HZ.out, .inl rfl, rfl⟩

/-- Two lists are alike. -/
def Alk (n m : Nat) (f g : Nat → Int) : Prop := n = m ∧ ∀ j, j < n → f j = g j

set_option maxHeartbeats 800000 in
/-- Same: are two lists alike? -/
theorem same_c (ao bo : Option Addr) (n m ca cb : Nat) (f g : Nat → Int) (w : World) (hm : n ≤ 140737488355328) (hm' : m ≤ 140737488355328) (hr : Rd .u64 w ao n f) (hs : Rd .u64 w bo m g) :
    Calls Tryz.prog 32 #[.slice ao n ca, .slice bo m cb] w fun e w' => (∃ q, w' = w.drewN q) ∧ ∃ b, e = .returned (.bool b) ∧ (b = true ↔ Alk n m f g) := by
  by_cases hnm : n = m
  · subst hnm
    have h1 : ((n : Int) != n) = false := by simp
    go_enter Tryz.func32, Tryz.ntmps32
    go_wp2
    go_loopw [13] (fun t wr => ∃ i : Nat, i ≤ n ∧ t = .int .i64 i ∧ Hid (∀ j, j < i → f j = g j) ∧ ∃ q, wr = w.drewN q) (fun t _ => n - (intOf t).toNat)
    case atStart => exact ⟨0, by omega, rfl, fun j h1 => by omega, 0, rfl⟩
    case round =>
      obtain ⟨i, hin, rfl, HE, q, rfl⟩ := hrel
      by_cases hlt : i < n
      · obtain ⟨b, o, rfl⟩ := hr.at (by omega)
        obtain ⟨b', o', rfl⟩ := hs.at (by omega)
        obtain ⟨x, hx⟩ : ∃ x, f i = x := ⟨_, rfl⟩
        obtain ⟨y, hy⟩ : ∃ y, g i = y := ⟨_, rfl⟩
        have hca : w.cell? ⟨b, o + i, none⟩ = some (.int .u64 x) := by rw [← hx]; exact hr.cell (by omega)
        have hcb : w.cell? ⟨b', o' + i, none⟩ = some (.int .u64 y) := by rw [← hy]; exact hs.cell (by omega)
        have HX : Hid (f i = x) := hx
        have HY : Hid (g i = y) := hy
        clear hx hy hr hs
        by_cases hxy : x = y
        · subst hxy
          have hne : (x != x) = false := by simp
          go_wp2
          go_quiet (fail)
          go_wp2
          go_roundw
          case rel =>
            refine ⟨i + 1, by omega, by go_num, fun j h1 => ?_, _, rfl⟩
            by_cases hj : j = i
            · rw [hj]; exact HX.out.trans HY.out.symm
            · exact HE.out j (by omega)
          case measure => simp [intOf]; omega
        · have hne : (x != y) = true := by simp [hxy]
          go_wp2
          go_quiet (fail)
          go_wp2
          go_ret
          refine ⟨⟨_, by (repeat rw [World.drewN_drewN]) <;> rfl⟩, false, rfl, ⟨fun h => (by cases h), fun h => ?_⟩⟩
          have := h.2 i hlt
          rw [HX.out, HY.out] at this
          exact absurd this hxy
      · have hi : i = n := by omega
        subst hi
        go_wp2
        go_ret
        exact ⟨⟨_, rfl⟩, true, rfl, ⟨fun _ => ⟨rfl, HE.out⟩, fun _ => rfl⟩⟩
  · have h1 : ((n : Int) != m) = true := by simp; omega
    go_enter Tryz.func32, Tryz.ntmps32
    go_wp2
    go_ret
    exact ⟨⟨0, rfl⟩, false, rfl, ⟨fun h => (by cases h), fun h => absurd h.1 hnm⟩⟩
end Go.Proofs.YtlpmfmphglgocaaGreatDoor
namespace Go.Proofs.YtlpmfmphglgocaaGreatDoor
open Go.RowKit

set_option maxHeartbeats 1000000 in
theorem Text_u (ao : Option Addr) (n ca c : Nat) (f : Nat → Int) (V : Nat) (w : World) (hn : n ≤ 4096) (hr : Rd .u64 w ao n f) (hf : Lm f n) (ff : Fm f n) (hV : vf f n = V) (htab : Tab w) (hc : c = lev ((64 * n + 62) / 63)) (hca : n ≤ ca) (hcam : ca ≤ 9223372036854775807) (hdiv : ∀ j, j < c → ∀ X, 0 ≤ X → X ≤ (V : Int) → DivOk X (tens j)) :
    Calls Tryz.prog 62 #[.slice ao n ca] w fun e w' => e = .returned (.tuple #[.string ⟨(Lib.decDigits V).toArray⟩, .int .i64 0]) ∧ Below w.heap.size w w' := by
  have c1 := form_c ao n ca f w (by omega) hr
  rw [(fmB_iff f n).2 ff] at c1
  have C1 := hid c1
  have C2 := hid (digits_c ao n ca c f V w hn hr hf ff hV htab hc hca hcam hdiv)
  clear c1 hr hf ff hV htab hc hdiv
  go_enter Tryz.func62, Tryz.ntmps62
  go_wp2_with fail
  refine C1.out.mono ?_
  rintro e w1 ⟨rfl, rfl⟩
  go_wp2_with fail
  refine C2.out.mono ?_
  rintro e w1 ⟨rfl, hb⟩
  go_wp2
  go_ret2
  exact ⟨rfl, hb⟩

end Go.Proofs.YtlpmfmphglgocaaGreatDoor
namespace Go.Proofs.YtlpmfmphglgocaaGreatDoor
open Go.RowKit

theorem vf_one (x : Int) : vf (fun _ => x) 1 = x := by simp [vf, pw]
theorem Rd.alloc {k w ao n f} (h : Rd k w ao n f) (o : Obj) : Rd k (w.alloc o) ao n f := h.below ((Below.refl _ _).alloc (Nat.le_refl _) o) (Nat.le_refl _)
theorem below_alloc {w0 w : World} (h : Below w0.heap.size w0 w) (o : Obj) : Below w0.heap.size w0 (w.alloc o) := h.alloc h.size o
theorem fm1 {x : Int} (h : x ≠ 0) : Fm (fun _ => x) 1 := .inr h
theorem size_alloc1 (w : World) (o : Obj) : (w.alloc o).heap.size = w.heap.size + 1 := by simp

end Go.Proofs.YtlpmfmphglgocaaGreatDoor
namespace Go.Proofs.YtlpmfmphglgocaaGreatDoor
open Go.RowKit

/-- Nothing but blocks from lo on and below hi has turned; there may be new blocks. -/
structure Turned (lo hi : Nat) (w w' : World) : Prop where
  os : w'.os = w.os
  tape : w'.tape = w.tape
  output : w'.output = w.output
  size : w.heap.size ≤ w'.heap.size
  block : ∀ k, k < w.heap.size → k < lo ∨ hi ≤ k → w'.heap[k]? = w.heap[k]?
theorem Turned.refl (lo hi : Nat) (w : World) : Turned lo hi w w := ⟨rfl, rfl, rfl, Nat.le_refl _, fun _ _ _ => rfl⟩
theorem Turned.trans {lo hi : Nat} {a b c : World} (h : Turned lo hi a b) (k : Turned lo hi b c) : Turned lo hi a c :=
  ⟨k.os.trans h.os, k.tape.trans h.tape, k.output.trans h.output, Nat.le_trans h.size k.size, fun i hi hn => (k.block i (Nat.lt_of_lt_of_le hi h.size) hn).trans (h.block i hi hn)⟩
theorem Turned.set {lo hi : Nat} {a w : World} (h : Turned lo hi a w) {x : Addr} (h1 : lo ≤ x.block) (h2 : x.block < hi) (u : Value) : Turned lo hi a (w.setCell x u) :=
  h.trans ⟨rfl, rfl, rfl, by simp [World.setCell], fun k _ hn => Below.heap_setCell _ _ _ _ (by omega)⟩
theorem Turned.alloc {lo hi : Nat} {a w : World} (h : Turned lo hi a w) (o : Obj) : Turned lo hi a (w.alloc o) :=
  h.trans ⟨rfl, rfl, rfl, by simp, fun k hk _ => Below.heap_alloc _ _ _ hk⟩
theorem Turned.drew {lo hi : Nat} {a w : World} (h : Turned lo hi a w) : Turned lo hi a w.drew := ⟨h.os, h.tape, h.output, h.size, h.block⟩
theorem Turned.below {lo hi : Nat} {a w w' : World} (h : Turned lo hi a w) (hb : Below w.heap.size w w') : Turned lo hi a w' :=
  h.trans ⟨hb.os, hb.tape, hb.output, hb.size, fun k hk _ => hb.block k hk⟩
theorem below_turned {B : Nat} {w0 w w' : World} (hb : Below B w0 w) (hB : B ≤ w.heap.size) {lo hi : Nat} (h : Turned lo hi w w') (hl : B ≤ lo) : Below B w0 w' :=
  hb.trans ⟨h.os, h.tape, h.output, h.size, fun k hk => h.block k (by omega) (.inl (by omega))⟩
theorem Own.of {k e w w' base ao n cap f} (h : Own k e w base (.slice ao n cap) n f) (hh : ∀ a, ao = some a → w'.heap[a.block]? = w.heap[a.block]?) : Own k e w' base (.slice ao n cap) n f := by
  obtain ⟨h1, h2⟩ := h
  refine ⟨h1, ?_⟩
  rcases h2 with ⟨h3, h4⟩ | ⟨g, cap', cur, hv, hb, hg, hn, hm, hs, ht⟩
  · exact .inl ⟨h3, h4⟩
  · cases hv
    exact .inr ⟨g, cap, cur, rfl, hb, (hh _ rfl).trans hg, hn, hm, hs, ht⟩
theorem Own.base {k e w base base' v n f} (h : Own k e w base v n f) (hb : base' ≤ base) : Own k e w base' v n f := by
  obtain ⟨h1, h2⟩ := h
  refine ⟨h1, ?_⟩
  rcases h2 with ⟨h3, h4⟩ | ⟨g, cap', cur, hv, hb', hg, hn, hm, hs, ht⟩
  · exact .inl ⟨h3, h4⟩
  · exact .inr ⟨g, cap', cur, hv, Nat.le_trans hb hb', hg, hn, hm, hs, ht⟩
theorem Own.slice {k e w base ao n cap f} (h : Own k e w base (.slice ao n cap) n f) : n ≤ cap ∧ cap ≤ 9223372036854775807 ∧ (ao = none → n = 0 ∧ cap = 0) ∧ Rd k w ao n f ∧ ∀ a, ao = some a → base ≤ a.block ∧ a.block < w.heap.size := by
  obtain ⟨ao', cap', e', h1, h2, h3, h4, h5⟩ := h.shape
  cases e'
  refine ⟨h1, by unfold maxLen at h3; omega, fun e => ⟨by have := h2 e; omega, h2 e⟩, h4, h5⟩
end Go.Proofs.YtlpmfmphglgocaaGreatDoor
namespace Go.Proofs.YtlpmfmphglgocaaGreatDoor
open Go.RowKit

/-- In form, sign and limbs. -/
def wfB (s : Bool) (f : Nat → Int) (n : Nat) : Bool := fmB f n && !(s && decide (n = 0))
/-- Old cells and marks read as before. -/
theorem bcell {W w1 : World} {B : Nat} (hb : Below B W w1) : (∀ b o, b < B → w1.cell? ⟨b, o, none⟩ = W.cell? ⟨b, o, none⟩) ∧ (∀ b o, b < B → w1.frozen? ⟨b, o, none⟩ = W.frozen? ⟨b, o, none⟩) :=
  ⟨fun b o h => hb.cell (p := ⟨b, o, none⟩) h, fun b o h => hb.frozen (p := ⟨b, o, none⟩) h⟩

theorem drewN_below {w w' : World} {q : Nat} (h : w' = w.drewN q) : Below w.heap.size w w' := by rw [h]; exact below_drewN (Below.refl _ _) _

theorem wForm_c (s : Bool) (ao : Option Addr) (n cap : Nat) (f : Nat → Int) (w : World) (hm : n ≤ 9223372036854775807) (hr : Rd .u64 w ao n f) :
    Calls Tryz.prog 49 #[.agg #[.bool s, .slice ao n cap]] w fun e w' => e = .returned (.bool (wfB s f n)) ∧ Below w.heap.size w w' := by
  have hba : Below w.heap.size w (w.alloc (.cells #[.bool s, .slice ao n cap] 44)) := below_alloc (Below.refl _ _) _
  have c1 := form_c ao n cap f (w.alloc (.cells #[.bool s, .slice ao n cap] 44)) hm (hr.alloc _)
  have HB := hid hba
  clear hr hba
  have hwf : wfB s f n = (fmB f n && !(s && decide (n = 0))) := rfl
  rw [hwf]
  clear hwf
  cases hfa : fmB f n
  · rw [hfa] at c1
    have C1 := hid c1
    clear c1 hfa
    go_enter Tryz.func49, Tryz.ntmps49
    go_wp2_with fail
    refine C1.out.mono ?_
    rintro e w1 ⟨rfl, rfl⟩
    go_wp2
    go_ret
    exact ⟨rfl, HB.out⟩
  · rw [hfa] at c1
    have C1 := hid c1
    clear c1 hfa
    cases s
    · go_enter Tryz.func49, Tryz.ntmps49
      go_wp2_with fail
      refine C1.out.mono ?_
      rintro e w1 ⟨rfl, rfl⟩
      go_wp2
      go_ret
      exact ⟨rfl, HB.out⟩
    · by_cases hn0 : n = 0
      · subst hn0
        go_enter Tryz.func49, Tryz.ntmps49
        go_wp2_with fail
        refine C1.out.mono ?_
        rintro e w1 ⟨rfl, rfl⟩
        go_wp2
        go_ret
        exact ⟨rfl, HB.out⟩
      · have hni : ((n : Int) == 0) = false := by simp; omega
        have hdn : decide (n = 0) = false := by simp; omega
        rw [hdn]
        clear hdn
        go_enter Tryz.func49, Tryz.ntmps49
        go_wp2_with fail
        refine C1.out.mono ?_
        rintro e w1 ⟨rfl, rfl⟩
        go_wp2
        go_ret
        exact ⟨rfl, HB.out⟩

theorem signed_c (s : Bool) (ao : Option Addr) (n cap : Nat) (w : World) (hm : n ≤ 9223372036854775807) :
    Calls Tryz.prog 96 #[.bool s, .slice ao n cap] w fun e w' => ∃ r o, e = .returned (.agg #[.bool r, .slice ao n cap]) ∧ Hid (r = (s && decide (0 < n))) ∧ w' = w.alloc o := by
  cases s
  · go_enter Tryz.func96, Tryz.ntmps96
    go_wp2
    exact bodyPost_ret (v := .agg #[.bool false, .slice ao n cap]) (by simp [results, Tryz.results96, go_sem]) rfl ⟨false, _, rfl, rfl, rfl⟩
  · by_cases hn0 : 0 < n
    · have hni : decide ((0 : Int) < (n : Int)) = true := by simp; omega
      have hdn : decide (0 < n) = true := by simp; omega
      rw [hdn]
      clear hdn
      go_enter Tryz.func96, Tryz.ntmps96
      go_wp2
      exact bodyPost_ret (v := .agg #[.bool true, .slice ao n cap]) (by simp [results, Tryz.results96, go_sem]) rfl ⟨true, _, rfl, rfl, rfl⟩
    · have hni : decide ((0 : Int) < (n : Int)) = false := by simp; omega
      have hdn : decide (0 < n) = false := by simp; omega
      rw [hdn]
      clear hdn
      go_enter Tryz.func96, Tryz.ntmps96
      go_wp2
      exact bodyPost_ret (v := .agg #[.bool false, .slice ao n cap]) (by simp [results, Tryz.results96, go_sem]) rfl ⟨false, _, rfl, rfl, rfl⟩

/-- The number that sign and limbs tell. -/
def wv (s : Bool) (f : Nat → Int) (n : Nat) : Int := if s then - vf f n else vf f n
theorem Res.turned {C w0 w w' w'' ao n cap f} (h : Res C w w' ao n cap f) (hb : Below w0.heap.size w0 w) (ht : Turned w0.heap.size w.heap.size w' w'') : Res C w0 w'' ao n cap f := by
  have hb2 : Below w0.heap.size w0 w' := hb.trans (h.bel.mono hb.size)
  refine ⟨below_turned hb2 hb2.size ht (Nat.le_refl _), ?_, h.lmc, h.fm⟩
  rcases h.own with ⟨rfl, rfl, rfl⟩ | ⟨g, rfl, h1, h2, h3, h4, h5⟩
  · exact .inl ⟨rfl, rfl, rfl⟩
  · exact .inr ⟨g, rfl, by have := hb.size; omega, h2, h3, h4, h5.of (ht.block g h5.lt (.inr h1))⟩

/-- A list that a call answers: memory of the call's own, in form. -/
structure Asw (C : Nat) (w w' : World) (ao : Option Addr) (n cap : Nat) (f : Nat → Int) : Prop where
  bel : Below w.heap.size w w'
  own : Own .u64 28 w' w.heap.size (.slice ao n cap) n f
  lm : Lm f n
  fm : Fm f n
  le : n ≤ C
theorem Asw.rd {C w w' ao n cap f} (h : Asw C w w' ao n cap f) : Rd .u64 w' ao n f := h.own.slice.2.2.2.1
theorem Asw.ncap {C w w' ao n cap f} (h : Asw C w w' ao n cap f) : n ≤ cap ∧ cap ≤ 9223372036854775807 := ⟨h.own.slice.1, h.own.slice.2.1⟩
theorem Asw.nil' {C w w' ao n cap f} (h : Asw C w w' ao n cap f) : ao = none → n = 0 ∧ cap = 0 := h.own.slice.2.2.1
theorem Asw.mono {C C' w w' ao n cap f} (h : Asw C w w' ao n cap f) (hC : C ≤ C') : Asw C' w w' ao n cap f := ⟨h.bel, h.own, h.lm, h.fm, Nat.le_trans h.le hC⟩
theorem Asw.none {C : Nat} {w w' : World} (f : Nat → Int) (h : Below w.heap.size w w') : Asw C w w' none 0 0 f := ⟨h, own_nil _ _ _ _ _, fun j hj => by omega, .inl rfl, Nat.zero_le _⟩
theorem Asw.turned {C w0 w w' w'' ao n cap f} (h : Asw C w w' ao n cap f) (hb : Below w0.heap.size w0 w) (ht : Turned w0.heap.size w.heap.size w' w'') : Asw C w0 w'' ao n cap f := by
  have hb2 : Below w0.heap.size w0 w' := hb.trans (h.bel.mono hb.size)
  refine ⟨below_turned hb2 hb2.size ht (Nat.le_refl _), (h.own.of ?_).base hb.size, h.lm, h.fm, h.le⟩
  intro a ha
  obtain ⟨h1, h2⟩ := h.own.slice.2.2.2.2 a ha
  exact ht.block _ h2 (.inr h1)
theorem Asw.ahead {C w0 w w' ao n cap f} (h : Asw C w w' ao n cap f) (hb : Below w0.heap.size w0 w) : Asw C w0 w' ao n cap f := h.turned hb (Turned.refl _ _ _)
theorem Asw.later {C w w' w'' ao n cap f} (h : Asw C w w' ao n cap f) (hb : Below w'.heap.size w' w'') : Asw C w w'' ao n cap f :=
  ⟨h.bel.trans (hb.mono h.bel.size), h.own.below hb, h.lm, h.fm, h.le⟩
theorem Res.ans {C w w' ao n cap f} (h : Res C w w' ao n cap f) (hC : C ≤ 9223372036854775807) : Asw C w w' ao n cap f := by
  refine ⟨h.bel, ?_, h.lm, h.fm, h.le⟩
  rcases h.own with ⟨rfl, rfl, rfl⟩ | ⟨g, rfl, h1, h2, h3, h4, h5⟩
  · exact own_nil _ _ _ _ _
  · exact own_of_blk h5 h1 h3 (by unfold maxLen; omega)
/-- An answer of whole: limbs of its own, in form, and a sign that 0 has not. -/
structure WRes (C : Nat) (w w' : World) (s : Bool) (ao : Option Addr) (n cap : Nat) (f : Nat → Int) : Prop where
  res : Asw C w w' ao n cap f
  sgn : s = true → 0 < n
theorem wfB_iff (s : Bool) (f : Nat → Int) (n : Nat) : wfB s f n = true ↔ Fm f n ∧ (s = true → 0 < n) := by
  rw [← fmB_iff]; unfold wfB; cases s <;> simp; omega
theorem WRes.wfB {C w w' s ao n cap f} (h : WRes C w w' s ao n cap f) : wfB s f n = true := (wfB_iff s f n).2 ⟨h.res.fm, h.sgn⟩
theorem wv_false (f : Nat → Int) (n : Nat) : wv false f n = vf f n := rfl
theorem wv_true (f : Nat → Int) (n : Nat) : wv true f n = - vf f n := rfl
theorem WRes.mk' {C w w' ao n cap f} {r s : Bool} (hr : Hid (r = (s && decide (0 < n)))) (h : Asw C w w' ao n cap f) : WRes C w w' r ao n cap f := ⟨h, fun h => by rw [hr.out] at h; simp at h; exact h.2⟩
theorem wv_sign {f n} {r s : Bool} (hr : Hid (r = (s && decide (0 < n)))) : wv r f n = wv s f n := by
  rw [hr.out]
  by_cases hn : 0 < n
  · simp [hn]
  · obtain rfl : n = 0 := by omega
    cases s <;> simp [wv, vf]

set_option maxHeartbeats 1000000 in
theorem wadd_same (s : Bool) (ao bo : Option Addr) (n m ca cb : Nat) (f h : Nat → Int) (w : World) (hn : n ≤ 8796093022208) (hm : m ≤ 8796093022208) (hr : Rd .u64 w ao n f) (hs : Rd .u64 w bo m h) (hf : Lm f n) (hh : Lm h m) (ff : Fm f n) (fh : Fm h m) :
    Calls Tryz.prog 111 #[.agg #[.bool s, .slice ao n ca], .agg #[.bool s, .slice bo m cb]] w fun e w' => ∃ r ao' k cap' f', e = .returned (.agg #[.bool r, .slice ao' k cap']) ∧ WRes (max n m + 1) w w' r ao' k cap' f' ∧ wv r f' k = wv s f n + wv s h m := by
  have HR := hid hr; have HS := hid hs; have HF := hid hf; have HH := hid hh; have FF := hid ff; have FH := hid fh
  clear hr hs hf hh ff fh
  cases s
  all_goals
    go_enter Tryz.func111, Tryz.ntmps111
    go_wp2_with fail
    refine (Add_c ao bo n m ca cb f h _ hn hm (((HR.out.alloc _).alloc _).alloc _) (((HS.out.alloc _).alloc _).alloc _) HF.out HH.out).mono ?_
    rintro e w1 ⟨xa, k, cx, g, er, rfl, hres, hc⟩
    obtain ⟨rfl, hv⟩ : er = 0 ∧ vf g k = vf f n + vf h m := by
      rcases hc with ⟨_, _, h1, h2⟩ | ⟨h1, _⟩
      · exact ⟨h1, h2⟩
      · exact absurd ⟨FF.out, FH.out⟩ h1
    clear hc
    have hk : k ≤ max n m + 1 := hres.le
    obtain ⟨hc1, hf1⟩ := bcell hres.bel
    have hz : w.heap.size + 1 + 1 < w1.heap.size := by have := hres.bel.size; simp at this; omega
    have HRes := hid hres; have HV := hid hv
    clear hres hv
    go_wp2_with fail
    refine (signed_c _ xa k cx _ (by omega)).mono ?_
    rintro e w2 ⟨r, o, rfl, hsg, rfl⟩
    go_wp2
    refine bodyPost_ret (v := .agg #[.bool r, .slice xa k cx]) (by simp [results, Tryz.results111, go_sem, hc1, hz]) rfl ⟨r, xa, k, cx, g, rfl, WRes.mk' hsg ((HRes.out.turned (below_alloc (below_alloc (below_alloc (Below.refl w.heap.size w) _) _) _) ?_).ans (by omega)), ?_⟩
    · exact (((Turned.refl _ _ _).set (by simp; omega) (by simp) _).set (by simp; omega) (by simp) _).alloc _
    · rw [wv_sign hsg]; simp only [wv_false, wv_true, HV.out]; try omega

theorem beq_bool_ne {s t : Bool} (h : (s == t) = false) : s = !t := by cases s <;> cases t <;> simp_all
set_option maxHeartbeats 1000000 in
theorem wadd_diff (s t : Bool) (hst : (s == t) = false) (ao bo : Option Addr) (n m ca cb : Nat) (f h : Nat → Int) (w : World) (hn : n ≤ 8796093022208) (hm : m ≤ 8796093022208) (hr : Rd .u64 w ao n f) (hs : Rd .u64 w bo m h) (hf : Lm f n) (hh : Lm h m) (ff : Fm f n) (fh : Fm h m) :
    Calls Tryz.prog 111 #[.agg #[.bool s, .slice ao n ca], .agg #[.bool t, .slice bo m cb]] w fun e w' => ∃ r ao' k cap' f', e = .returned (.agg #[.bool r, .slice ao' k cap']) ∧ WRes (max n m + 1) w w' r ao' k cap' f' ∧ wv r f' k = wv s f n + wv t h m := by
  have HR := hid hr; have HS := hid hs; have HF := hid hf; have HH := hid hh; have FF := hid ff; have FH := hid fh
  have HST := hid (beq_bool_ne hst)
  clear hr hs hf hh ff fh
  go_enter Tryz.func111, Tryz.ntmps111
  go_wp2_with fail
  refine (Cmp_c ao bo n m ca cb f h _ hn hm (((HR.out.alloc _).alloc _).alloc _) (((HS.out.alloc _).alloc _).alloc _) HF.out HH.out).mono ?_
  rintro e w1 ⟨⟨q, hq⟩, c, er, rfl, hc⟩
  obtain ⟨rfl, ho⟩ : er = 0 ∧ Ord c (vf f n) (vf h m) := by
    rcases hc with ⟨_, _, h1, h2⟩ | ⟨h1, _⟩
    · exact ⟨h1, h2⟩
    · exact absurd ⟨FF.out, FH.out⟩ h1
  clear hc
  have hb := drewN_below hq
  obtain ⟨hc1, hf1⟩ := bcell hb
  have hz : w.heap.size + 1 + 1 < w1.heap.size := by have := hb.size; simp at this; omega
  have x0 : w1.cell? ⟨w.heap.size, 0, none⟩ = some (.bool s) := (hc1 _ _ (by simp; omega)).trans (by simp [go_sem])
  have x1 : w1.cell? ⟨w.heap.size, 1, none⟩ = some (.slice ao n ca) := (hc1 _ _ (by simp; omega)).trans (by simp [go_sem])
  have y0 : w1.cell? ⟨w.heap.size + 1, 0, none⟩ = some (.bool t) := (hc1 _ _ (by simp)).trans (by simp [go_sem])
  have y1 : w1.cell? ⟨w.heap.size + 1, 1, none⟩ = some (.slice bo m cb) := (hc1 _ _ (by simp)).trans (by simp [go_sem])
  have z0 : w1.cell? ⟨w.heap.size + 1 + 1, 0, none⟩ = some (.bool false) := (hc1 _ _ (by simp)).trans (by simp [go_sem])
  have z1 : w1.cell? ⟨w.heap.size + 1 + 1, 1, none⟩ = some (.slice none 0 0) := (hc1 _ _ (by simp)).trans (by simp [go_sem])
  have HO := hid ho
  have hbw : Below w.heap.size w w1 := (below_alloc (below_alloc (below_alloc (Below.refl w.heap.size w) _) _) _).trans (hb.mono (by simp; omega))
  have HBw := hid hbw
  clear ho hq hb hc1 hbw
  by_cases hc0 : c < 0
  · have hlt : vf f n < vf h m := by have := HO.out; unfold Ord at this; omega
    have HLT := hid hlt
    clear hlt
    go_wp2_with fail
    have hb2 := below_turned HBw.out HBw.out.size (((((Turned.refl w.heap.size (w.heap.size + 1 + 1 + 1) w1).set (x := ⟨w.heap.size, 0, none⟩) (by simp) (by simp; omega) (.bool t)).set (x := ⟨w.heap.size, 1, none⟩) (by simp) (by simp; omega) (.slice bo m cb)).set (x := ⟨w.heap.size + 1, 0, none⟩) (by simp) (by simp) (.bool s)).set (x := ⟨w.heap.size + 1, 1, none⟩) (by simp) (by simp) (.slice ao n ca)) (Nat.le_refl _)
    refine (Sub_c bo ao m n cb ca h f _ hm hn (HS.out.below hb2 (Nat.le_refl _)) (HR.out.below hb2 (Nat.le_refl _)) HH.out HF.out).mono ?_
    rintro e w2 ⟨xa, k, cx, g, er, rfl, hres, hc⟩
    obtain ⟨rfl, hv⟩ : er = 0 ∧ vf g k = vf h m - vf f n := by
      rcases hc with ⟨_, _, _, h1, h2⟩ | ⟨_, _, h1, _⟩ | ⟨h1, _⟩
      · exact ⟨h1, h2⟩
      · have := HLT.out; omega
      · exact absurd ⟨FH.out, FF.out⟩ h1
    clear hc
    obtain ⟨hc2, hf2⟩ := bcell hres.bel
    have hz2 : w.heap.size + 1 + 1 < w2.heap.size := by have := hres.bel.size; (try simp at this); omega
    have u0 : w2.cell? ⟨w.heap.size, 0, none⟩ = some (.bool t) := (hc2 _ _ (by simp; omega)).trans (by simp [go_sem, x0])
    have z0 : w2.cell? ⟨w.heap.size + 1 + 1, 0, none⟩ = some (.bool false) := (hc2 _ _ (by simp; omega)).trans (by simp [go_sem, z0])
    have z1 : w2.cell? ⟨w.heap.size + 1 + 1, 1, none⟩ = some (.slice none 0 0) := (hc2 _ _ (by simp; omega)).trans (by simp [go_sem, z1])
    have hk : k ≤ m := hres.le
    have HRes := hid hres; have HV := hid hv; have HB2 := hid hb2
    clear hres hv hb2 hc2
    go_wp2_with fail
    refine (signed_c _ xa k cx _ (by omega)).mono ?_
    rintro e w3 ⟨r, o, rfl, hsg, rfl⟩
    go_wp2
    refine bodyPost_ret (v := .agg #[.bool r, .slice xa k cx]) (by simp [results, Tryz.results111, go_sem, z0, z1, hz2]) rfl ⟨r, xa, k, cx, g, rfl, WRes.mk' hsg (((HRes.out.turned HB2.out ?_).mono (by omega)).ans (by omega)), ?_⟩
    · exact (((Turned.refl _ _ _).set (by first | omega | (simp; done) | (simp; omega)) (by first | omega | (simp; done) | (simp; omega)) _).set (by first | omega | (simp; done) | (simp; omega)) (by first | omega | (simp; done) | (simp; omega)) _).alloc _
    · rw [wv_sign hsg, HST.out]; have := HV.out; cases t <;> simp only [Bool.not_false, Bool.not_true, wv_false, wv_true] <;> omega
  · have hlt : vf h m ≤ vf f n := by have := HO.out; unfold Ord at this; omega
    have HLT := hid hlt
    clear hlt
    go_wp2_with fail
    have hb2 := HBw.out
    refine (Sub_c ao bo n m ca cb f h _ hn hm (HR.out.below hb2 (Nat.le_refl _)) (HS.out.below hb2 (Nat.le_refl _)) HF.out HH.out).mono ?_
    rintro e w2 ⟨xa, k, cx, g, er, rfl, hres, hc⟩
    obtain ⟨rfl, hv⟩ : er = 0 ∧ vf g k = vf f n - vf h m := by
      rcases hc with ⟨_, _, _, h1, h2⟩ | ⟨_, _, h1, _⟩ | ⟨h1, _⟩
      · exact ⟨h1, h2⟩
      · have := HLT.out; omega
      · exact absurd ⟨FF.out, FH.out⟩ h1
    clear hc
    obtain ⟨hc2, hf2⟩ := bcell hres.bel
    have hz2 : w.heap.size + 1 + 1 < w2.heap.size := by have := hres.bel.size; (try simp at this); omega
    have u0 : w2.cell? ⟨w.heap.size, 0, none⟩ = some (.bool s) := (hc2 _ _ (by omega)).trans x0
    have z0 : w2.cell? ⟨w.heap.size + 1 + 1, 0, none⟩ = some (.bool false) := (hc2 _ _ (by omega)).trans z0
    have z1 : w2.cell? ⟨w.heap.size + 1 + 1, 1, none⟩ = some (.slice none 0 0) := (hc2 _ _ (by omega)).trans z1
    have hk : k ≤ n := hres.le
    have HRes := hid hres; have HV := hid hv; have HB2 := hid hb2
    clear hres hv hb2 hc2
    go_wp2_with fail
    refine (signed_c _ xa k cx _ (by omega)).mono ?_
    rintro e w3 ⟨r, o, rfl, hsg, rfl⟩
    go_wp2
    refine bodyPost_ret (v := .agg #[.bool r, .slice xa k cx]) (by simp [results, Tryz.results111, go_sem, z0, z1, hz2]) rfl ⟨r, xa, k, cx, g, rfl, WRes.mk' hsg (((HRes.out.turned HB2.out ?_).mono (by omega)).ans (by omega)), ?_⟩
    · exact (((Turned.refl _ _ _).set (by first | omega | (simp; done) | (simp; omega)) (by first | omega | (simp; done) | (simp; omega)) _).set (by first | omega | (simp; done) | (simp; omega)) (by first | omega | (simp; done) | (simp; omega)) _).alloc _
    · rw [wv_sign hsg, HST.out]; have := HV.out; cases t <;> simp only [Bool.not_false, Bool.not_true, wv_false, wv_true] <;> omega

theorem wadd_c (s t : Bool) (ao bo : Option Addr) (n m ca cb : Nat) (f h : Nat → Int) (w : World) (hn : n ≤ 8796093022208) (hm : m ≤ 8796093022208) (hr : Rd .u64 w ao n f) (hs : Rd .u64 w bo m h) (hf : Lm f n) (hh : Lm h m) (ff : Fm f n) (fh : Fm h m) :
    Calls Tryz.prog 111 #[.agg #[.bool s, .slice ao n ca], .agg #[.bool t, .slice bo m cb]] w fun e w' => ∃ r ao' k cap' f', e = .returned (.agg #[.bool r, .slice ao' k cap']) ∧ WRes (max n m + 1) w w' r ao' k cap' f' ∧ wv r f' k = wv s f n + wv t h m := by
  cases hst : (s == t)
  · exact wadd_diff s t hst ao bo n m ca cb f h w hn hm hr hs hf hh ff fh
  · obtain rfl : s = t := by simpa using hst
    exact wadd_same s ao bo n m ca cb f h w hn hm hr hs hf hh ff fh
end Go.Proofs.YtlpmfmphglgocaaGreatDoor
namespace Go.Proofs.YtlpmfmphglgocaaGreatDoor
open Go.RowKit

/-- What a call of two numbers answers. -/
def WAns (P : Prop) (v : Int) (r : Bool) (k : Nat) (f : Nat → Int) (er : Int) : Prop := P ∧ er = 0 ∧ wv r f k = v ∨ ¬ P ∧ er = 3 ∧ k = 0
def W2 (s : Bool) (f : Nat → Int) (n : Nat) (t : Bool) (h : Nat → Int) (m : Nat) : Prop := wfB s f n = true ∧ wfB t h m = true
theorem fm_of_wfB {s : Bool} {f : Nat → Int} {n : Nat} (h : wfB s f n = true) : Fm f n := ((wfB_iff s f n).1 h).1
theorem sgn_of_wfB {s : Bool} {f : Nat → Int} {n : Nat} (h : wfB s f n = true) : s = true → 0 < n := ((wfB_iff s f n).1 h).2
/-- Three boxes laid ahead of a call, as they read behind it. -/
theorem boxes3 {w w1 : World} {a0 a1 b0 b1 c0 c1 : Value} {t : TypeId} (hb : Below (((w.alloc (.cells #[a0, a1] t)).alloc (.cells #[b0, b1] t)).alloc (.cells #[c0, c1] t)).heap.size (((w.alloc (.cells #[a0, a1] t)).alloc (.cells #[b0, b1] t)).alloc (.cells #[c0, c1] t)) w1) :
    (w.heap.size + 1 + 1 < w1.heap.size ∧ w1.cell? ⟨w.heap.size, 0, none⟩ = some a0 ∧ w1.cell? ⟨w.heap.size, 1, none⟩ = some a1 ∧ w1.cell? ⟨w.heap.size + 1, 0, none⟩ = some b0 ∧ w1.cell? ⟨w.heap.size + 1, 1, none⟩ = some b1 ∧ w1.cell? ⟨w.heap.size + 1 + 1, 0, none⟩ = some c0 ∧ w1.cell? ⟨w.heap.size + 1 + 1, 1, none⟩ = some c1) ∧ (∀ o, w1.frozen? ⟨w.heap.size + 1 + 1, o, none⟩ = false) ∧ Below w.heap.size w w1 := by
  obtain ⟨h1, h2⟩ := bcell hb
  have hz := hb.size
  simp at hz
  refine ⟨⟨by omega, (h1 _ _ (by simp; omega)).trans (by simp [go_sem]), (h1 _ _ (by simp; omega)).trans (by simp [go_sem]), (h1 _ _ (by simp)).trans (by simp [go_sem]), (h1 _ _ (by simp)).trans (by simp [go_sem]), (h1 _ _ (by simp)).trans (by simp [go_sem]), (h1 _ _ (by simp)).trans (by simp [go_sem])⟩, fun o => (h2 _ _ (by simp)).trans (by
    have e := heap_alloc_new ((w.alloc (.cells #[a0, a1] t)).alloc (.cells #[b0, b1] t)) (.cells #[c0, c1] t)
    rw [size_alloc1, size_alloc1] at e
    simp only [World.frozen?, e]; simp), ?_⟩
  exact (below_alloc (below_alloc (below_alloc (Below.refl w.heap.size w) _) _) _).trans (hb.mono (by simp; omega))
/-- Cells of three boxes behind a further call. -/
theorem keep3 {w w1 w2 : World} {a0 a1 b0 b1 c0 c1 : Value} (hb : Below w1.heap.size w1 w2) (h : w.heap.size + 1 + 1 < w1.heap.size ∧ w1.cell? ⟨w.heap.size, 0, none⟩ = some a0 ∧ w1.cell? ⟨w.heap.size, 1, none⟩ = some a1 ∧ w1.cell? ⟨w.heap.size + 1, 0, none⟩ = some b0 ∧ w1.cell? ⟨w.heap.size + 1, 1, none⟩ = some b1 ∧ w1.cell? ⟨w.heap.size + 1 + 1, 0, none⟩ = some c0 ∧ w1.cell? ⟨w.heap.size + 1 + 1, 1, none⟩ = some c1) (hf : ∀ o, w1.frozen? ⟨w.heap.size + 1 + 1, o, none⟩ = false) (hw : Below w.heap.size w w1) :
    (w.heap.size + 1 + 1 < w2.heap.size ∧ w2.cell? ⟨w.heap.size, 0, none⟩ = some a0 ∧ w2.cell? ⟨w.heap.size, 1, none⟩ = some a1 ∧ w2.cell? ⟨w.heap.size + 1, 0, none⟩ = some b0 ∧ w2.cell? ⟨w.heap.size + 1, 1, none⟩ = some b1 ∧ w2.cell? ⟨w.heap.size + 1 + 1, 0, none⟩ = some c0 ∧ w2.cell? ⟨w.heap.size + 1 + 1, 1, none⟩ = some c1) ∧ (∀ o, w2.frozen? ⟨w.heap.size + 1 + 1, o, none⟩ = false) ∧ Below w.heap.size w w2 := by
  obtain ⟨h1, h2⟩ := bcell hb
  have hz := hb.size
  obtain ⟨z, a, b, c, d, e, f⟩ := h
  exact ⟨⟨by omega, (h1 _ _ (by omega)).trans a, (h1 _ _ (by omega)).trans b, (h1 _ _ (by omega)).trans c, (h1 _ _ (by omega)).trans d, (h1 _ _ (by omega)).trans e, (h1 _ _ (by omega)).trans f⟩, fun o => (h2 _ _ (by omega)).trans (hf o), hw.trans (hb.mono hw.size)⟩

theorem wv_mul (s t : Bool) (f h g : Nat → Int) (n m k : Nat) (hv : vf g k = vf f n * vf h m) : wv (!(s == t)) g k = wv s f n * wv t h m := by
  cases s <;> cases t <;> simp [wv, hv, Int.neg_mul, Int.mul_neg]

set_option maxHeartbeats 1000000 in
theorem wAdd_c (s t : Bool) (ao bo : Option Addr) (n m ca cb : Nat) (f h : Nat → Int) (w : World) (hn : n ≤ 8796093022208) (hm : m ≤ 8796093022208) (hr : Rd .u64 w ao n f) (hs : Rd .u64 w bo m h) (hf : Lm f n) (hh : Lm h m) :
    Calls Tryz.prog 88 #[.agg #[.bool s, .slice ao n ca], .agg #[.bool t, .slice bo m cb]] w fun e w' => ∃ r ao' k cap' f' er, e = .returned (.tuple #[.agg #[.bool r, .slice ao' k cap'], .int .i64 er]) ∧ WRes (max n m + 1) w w' r ao' k cap' f' ∧ WAns (W2 s f n t h m) (wv s f n + wv t h m) r k f' er := by
  have HR := hid hr; have HS := hid hs; have HF := hid hf; have HH := hid hh
  clear hr hs hf hh
  cases hfa : wfB s f n
  · have c1 := fun W hr' => wForm_c s ao n ca f W (by omega) hr'
    rw [hfa] at c1
    have C1 := hid c1; have HN := hid hfa
    clear c1 hfa
    go_enter Tryz.func88, Tryz.ntmps88
    go_wp2_with fail
    refine (C1.out _ (((HR.out.alloc _).alloc _).alloc _)).mono ?_
    rintro e w1 ⟨rfl, hb⟩
    obtain ⟨⟨hz, x0, x1, y0, y1, z0, z1⟩, zf, hw⟩ := boxes3 hb
    have HB := hid hb; have HW := hid hw
    clear hb hw
    go_wp2
    refine bodyPost_ret (v := .tuple #[.agg #[.bool false, .slice none 0 0], .int .i64 3]) (by simp [results, Tryz.results88, go_sem, z0, z1]) rfl ⟨false, none, 0, 0, f, 3, rfl, ⟨Asw.none f ?_, fun h => by cases h⟩, .inr ⟨fun x => ?_, rfl, rfl⟩⟩
    · exact below_turned HW.out HW.out.size (((Turned.refl _ (w.heap.size + 1 + 1 + 1) _).set (by first | omega | (simp; done) | (simp; omega)) (by first | omega | (simp; done) | (simp; omega)) _).set (by first | omega | (simp; done) | (simp; omega)) (by first | omega | (simp; done) | (simp; omega)) _) (Nat.le_refl _)
    · have := x.1; rw [HN.out] at this; cases this
  · have c1 := fun W hr' => wForm_c s ao n ca f W (by omega) hr'
    rw [hfa] at c1
    have C1 := hid c1; have HA := hid hfa
    clear c1 hfa
    cases hfb : wfB t h m
    · have c2 := fun W hr' => wForm_c t bo m cb h W (by omega) hr'
      rw [hfb] at c2
      have C2 := hid c2; have HN := hid hfb
      clear c2 hfb
      go_enter Tryz.func88, Tryz.ntmps88
      go_wp2_with fail
      refine (C1.out _ (((HR.out.alloc _).alloc _).alloc _)).mono ?_
      rintro e w1 ⟨rfl, hb⟩
      obtain ⟨⟨hz, x0, x1, y0, y1, z0, z1⟩, zf, hw⟩ := boxes3 hb
      have HW := hid hw
      clear hb hw
      go_wp2_with fail
      refine (C2.out _ (HS.out.below HW.out (Nat.le_refl _))).mono ?_
      rintro e w2 ⟨rfl, hb⟩
      obtain ⟨⟨hz, x0, x1, y0, y1, z0, z1⟩, zf, hw⟩ := keep3 hb ⟨hz, x0, x1, y0, y1, z0, z1⟩ zf HW.out
      have HW2 := hid hw
      clear hb hw
      go_wp2
      refine bodyPost_ret (v := .tuple #[.agg #[.bool false, .slice none 0 0], .int .i64 3]) (by simp [results, Tryz.results88, go_sem, z0, z1]) rfl ⟨false, none, 0, 0, f, 3, rfl, ⟨Asw.none f ?_, fun h => by cases h⟩, .inr ⟨fun x => ?_, rfl, rfl⟩⟩
      · exact below_turned HW2.out HW2.out.size (((Turned.refl _ (w.heap.size + 1 + 1 + 1) _).set (by first | omega | (simp; done) | (simp; omega)) (by first | omega | (simp; done) | (simp; omega)) _).set (by first | omega | (simp; done) | (simp; omega)) (by first | omega | (simp; done) | (simp; omega)) _) (Nat.le_refl _)
      · have := x.2; rw [HN.out] at this; cases this
    · have c2 := fun W hr' => wForm_c t bo m cb h W (by omega) hr'
      rw [hfb] at c2
      have C2 := hid c2; have HB := hid hfb
      clear c2 hfb
      go_enter Tryz.func88, Tryz.ntmps88
      go_wp2_with fail
      refine (C1.out _ (((HR.out.alloc _).alloc _).alloc _)).mono ?_
      rintro e w1 ⟨rfl, hb⟩
      obtain ⟨⟨hz, x0, x1, y0, y1, z0, z1⟩, zf, hw⟩ := boxes3 hb
      have HW := hid hw
      clear hb hw
      go_wp2_with fail
      refine (C2.out _ (HS.out.below HW.out (Nat.le_refl _))).mono ?_
      rintro e w2 ⟨rfl, hb⟩
      obtain ⟨⟨hz, x0, x1, y0, y1, z0, z1⟩, zf, hw⟩ := keep3 hb ⟨hz, x0, x1, y0, y1, z0, z1⟩ zf HW.out
      have HW2 := hid hw
      clear hb hw
      go_wp2_with fail
      refine (wadd_c s t ao bo n m ca cb f h _ hn hm (HR.out.below HW2.out (Nat.le_refl _)) (HS.out.below HW2.out (Nat.le_refl _)) HF.out HH.out (fm_of_wfB HA.out) (fm_of_wfB HB.out)).mono ?_
      rintro e w3 ⟨r, xa, k, cx, g, rfl, hres, hv⟩
      obtain ⟨⟨hz, x0, x1, y0, y1, z0, z1⟩, zf, hw⟩ := keep3 hres.res.bel ⟨hz, x0, x1, y0, y1, z0, z1⟩ zf HW2.out
      have HRes := hid hres; have HV := hid hv
      clear hres hv hw
      go_wp2
      refine bodyPost_ret (v := .tuple #[.agg #[.bool r, .slice xa k cx], .int .i64 0]) (by simp [results, Tryz.results88, go_sem, z0, z1]) rfl ⟨r, xa, k, cx, g, 0, rfl, ?_, .inl ⟨⟨HA.out, HB.out⟩, rfl, ?_⟩⟩
      · exact ⟨HRes.out.res.turned HW2.out (((Turned.refl _ _ _).set (by first | omega | (simp; done) | (simp; omega)) (by first | omega | (simp; done) | (simp; omega)) _).set (by first | omega | (simp; done) | (simp; omega)) (by first | omega | (simp; done) | (simp; omega)) _), HRes.out.sgn⟩
      · exact HV.out

set_option maxHeartbeats 1000000 in
theorem wMul_c (s t : Bool) (ao bo : Option Addr) (n m ca cb : Nat) (f h : Nat → Int) (w : World) (hn : n ≤ 1099511627776) (hm : m ≤ 1099511627776) (hca : n ≤ ca) (hcb : m ≤ cb) (hcam : ca ≤ 9223372036854775807) (hcbm : cb ≤ 9223372036854775807) (hr : Rd .u64 w ao n f) (hs : Rd .u64 w bo m h) (hf : Lm f n) (hh : Lm h m) :
    Calls Tryz.prog 87 #[.agg #[.bool s, .slice ao n ca], .agg #[.bool t, .slice bo m cb]] w fun e w' => ∃ r ao' k cap' f' er, e = .returned (.tuple #[.agg #[.bool r, .slice ao' k cap'], .int .i64 er]) ∧ WRes (n + m) w w' r ao' k cap' f' ∧ WAns (W2 s f n t h m) (wv s f n * wv t h m) r k f' er := by
  have HR := hid hr; have HS := hid hs; have HF := hid hf; have HH := hid hh
  clear hr hs hf hh
  cases hfa : wfB s f n
  · have c1 := fun W hr' => wForm_c s ao n ca f W (by omega) hr'
    rw [hfa] at c1
    have C1 := hid c1; have HN := hid hfa
    clear c1 hfa
    go_enter Tryz.func87, Tryz.ntmps87
    go_wp2_with fail
    refine (C1.out _ (((HR.out.alloc _).alloc _).alloc _)).mono ?_
    rintro e w1 ⟨rfl, hb⟩
    obtain ⟨⟨hz, x0, x1, y0, y1, z0, z1⟩, zf, hw⟩ := boxes3 hb
    have HB := hid hb; have HW := hid hw
    clear hb hw
    go_wp2
    refine bodyPost_ret (v := .tuple #[.agg #[.bool false, .slice none 0 0], .int .i64 3]) (by simp [results, Tryz.results87, go_sem, z0, z1]) rfl ⟨false, none, 0, 0, f, 3, rfl, ⟨Asw.none f ?_, fun h => by cases h⟩, .inr ⟨fun x => ?_, rfl, rfl⟩⟩
    · exact below_turned HW.out HW.out.size (((Turned.refl _ (w.heap.size + 1 + 1 + 1) _).set (by first | omega | (simp; done) | (simp; omega)) (by first | omega | (simp; done) | (simp; omega)) _).set (by first | omega | (simp; done) | (simp; omega)) (by first | omega | (simp; done) | (simp; omega)) _) (Nat.le_refl _)
    · have := x.1; rw [HN.out] at this; cases this
  · have c1 := fun W hr' => wForm_c s ao n ca f W (by omega) hr'
    rw [hfa] at c1
    have C1 := hid c1; have HA := hid hfa
    clear c1 hfa
    cases hfb : wfB t h m
    · have c2 := fun W hr' => wForm_c t bo m cb h W (by omega) hr'
      rw [hfb] at c2
      have C2 := hid c2; have HN := hid hfb
      clear c2 hfb
      go_enter Tryz.func87, Tryz.ntmps87
      go_wp2_with fail
      refine (C1.out _ (((HR.out.alloc _).alloc _).alloc _)).mono ?_
      rintro e w1 ⟨rfl, hb⟩
      obtain ⟨⟨hz, x0, x1, y0, y1, z0, z1⟩, zf, hw⟩ := boxes3 hb
      have HW := hid hw
      clear hb hw
      go_wp2_with fail
      refine (C2.out _ (HS.out.below HW.out (Nat.le_refl _))).mono ?_
      rintro e w2 ⟨rfl, hb⟩
      obtain ⟨⟨hz, x0, x1, y0, y1, z0, z1⟩, zf, hw⟩ := keep3 hb ⟨hz, x0, x1, y0, y1, z0, z1⟩ zf HW.out
      have HW2 := hid hw
      clear hb hw
      go_wp2
      refine bodyPost_ret (v := .tuple #[.agg #[.bool false, .slice none 0 0], .int .i64 3]) (by simp [results, Tryz.results87, go_sem, z0, z1]) rfl ⟨false, none, 0, 0, f, 3, rfl, ⟨Asw.none f ?_, fun h => by cases h⟩, .inr ⟨fun x => ?_, rfl, rfl⟩⟩
      · exact below_turned HW2.out HW2.out.size (((Turned.refl _ (w.heap.size + 1 + 1 + 1) _).set (by first | omega | (simp; done) | (simp; omega)) (by first | omega | (simp; done) | (simp; omega)) _).set (by first | omega | (simp; done) | (simp; omega)) (by first | omega | (simp; done) | (simp; omega)) _) (Nat.le_refl _)
      · have := x.2; rw [HN.out] at this; cases this
    · have c2 := fun W hr' => wForm_c t bo m cb h W (by omega) hr'
      rw [hfb] at c2
      have C2 := hid c2; have HB := hid hfb
      clear c2 hfb
      go_enter Tryz.func87, Tryz.ntmps87
      go_wp2_with fail
      refine (C1.out _ (((HR.out.alloc _).alloc _).alloc _)).mono ?_
      rintro e w1 ⟨rfl, hb⟩
      obtain ⟨⟨hz, x0, x1, y0, y1, z0, z1⟩, zf, hw⟩ := boxes3 hb
      have HW := hid hw
      clear hb hw
      go_wp2_with fail
      refine (C2.out _ (HS.out.below HW.out (Nat.le_refl _))).mono ?_
      rintro e w2 ⟨rfl, hb⟩
      obtain ⟨⟨hz, x0, x1, y0, y1, z0, z1⟩, zf, hw⟩ := keep3 hb ⟨hz, x0, x1, y0, y1, z0, z1⟩ zf HW.out
      have HW2 := hid hw
      clear hb hw
      go_wp2_with fail
      refine (Mul_c ao bo n m ca cb f h _ hn hm hca hcb hcam hcbm (HR.out.below HW2.out (Nat.le_refl _)) (HS.out.below HW2.out (Nat.le_refl _)) HF.out HH.out).mono ?_
      rintro e w3 ⟨xa, k, cx, g, er, rfl, hres, hc⟩
      obtain ⟨rfl, hv⟩ : er = 0 ∧ vf g k = vf f n * vf h m := by
        rcases hc with ⟨_, _, h1, h2⟩ | ⟨h1, _⟩
        · exact ⟨h1, h2⟩
        · exact absurd ⟨fm_of_wfB HA.out, fm_of_wfB HB.out⟩ h1
      clear hc
      obtain ⟨⟨hz, x0, x1, y0, y1, z0, z1⟩, zf, hw⟩ := keep3 hres.bel ⟨hz, x0, x1, y0, y1, z0, z1⟩ zf HW2.out
      have hk : k ≤ n + m := hres.le
      have HRes := hid hres; have HV := hid hv
      clear hres hv hw
      go_wp2_with fail
      refine (signed_c _ xa k cx _ (by omega)).mono ?_
      rintro e w4 ⟨r, o, rfl, hsg, rfl⟩
      go_wp2
      refine bodyPost_ret (v := .tuple #[.agg #[.bool r, .slice xa k cx], .int .i64 0]) (by simp [results, Tryz.results87, go_sem, z0, z1, hz]) rfl ⟨r, xa, k, cx, g, 0, rfl, ?_, .inl ⟨⟨HA.out, HB.out⟩, rfl, ?_⟩⟩
      · exact WRes.mk' hsg ((HRes.out.turned HW2.out ((((Turned.refl _ _ _).set (by first | omega | (simp; done) | (simp; omega)) (by first | omega | (simp; done) | (simp; omega)) _).set (by first | omega | (simp; done) | (simp; omega)) (by first | omega | (simp; done) | (simp; omega)) _).alloc _)).ans (by omega))
      · rw [wv_sign hsg]; exact wv_mul s t f h g n m k HV.out

end Go.Proofs.YtlpmfmphglgocaaGreatDoor
namespace Go.Proofs.YtlpmfmphglgocaaGreatDoor
open Go.RowKit

def W1 (s : Bool) (f : Nat → Int) (n : Nat) : Prop := wfB s f n = true
/-- Cells of two boxes behind a further call. -/
theorem keep2 {w w1 w2 : World} {a0 a1 c0 c1 : Value} (hb : Below w1.heap.size w1 w2) (h : w.heap.size + 1 < w1.heap.size ∧ w1.cell? ⟨w.heap.size, 0, none⟩ = some a0 ∧ w1.cell? ⟨w.heap.size, 1, none⟩ = some a1 ∧ w1.cell? ⟨w.heap.size + 1, 0, none⟩ = some c0 ∧ w1.cell? ⟨w.heap.size + 1, 1, none⟩ = some c1) (hf : ∀ o, w1.frozen? ⟨w.heap.size + 1, o, none⟩ = false) (hw : Below w.heap.size w w1) :
    (w.heap.size + 1 < w2.heap.size ∧ w2.cell? ⟨w.heap.size, 0, none⟩ = some a0 ∧ w2.cell? ⟨w.heap.size, 1, none⟩ = some a1 ∧ w2.cell? ⟨w.heap.size + 1, 0, none⟩ = some c0 ∧ w2.cell? ⟨w.heap.size + 1, 1, none⟩ = some c1) ∧ (∀ o, w2.frozen? ⟨w.heap.size + 1, o, none⟩ = false) ∧ Below w.heap.size w w2 := by
  obtain ⟨h1, h2⟩ := bcell hb
  have hz := hb.size
  obtain ⟨z, a, b, e, f⟩ := h
  exact ⟨⟨by omega, (h1 _ _ (by omega)).trans a, (h1 _ _ (by omega)).trans b, (h1 _ _ (by omega)).trans e, (h1 _ _ (by omega)).trans f⟩, fun o => (h2 _ _ (by omega)).trans (hf o), hw.trans (hb.mono hw.size)⟩

theorem vf_pos {f : Nat → Int} {n : Nat} (h : Lm f n) (hf : Fm f n) (hn : 0 < n) : 0 < vf f n := by
  have h1 := vf_form_ge h hf hn; have h2 := pw_pos (n - 1); omega
/-- One whole number is answered. -/
def WOne (C : Nat) (w w' : World) (e : Ending) (z : Int) : Prop := ∃ r ao k cap f, e = .returned (.agg #[.bool r, .slice ao k cap]) ∧ WRes C w w' r ao k cap f ∧ wv r f k = z
theorem wrapU (x : Int) : IntKind.u64.wrap x = x % 18446744073709551616 := by simp [IntKind.wrap, IntKind.signed, IntKind.bits]
theorem own_one (w : World) (base g : Nat) (z : Int) (hb : base ≤ w.heap.size) (hg : g = w.heap.size) : Own .u64 28 (w.alloc (.cells #[.int .u64 z] 28)) base (.slice (some ⟨g, 0, none⟩) 1 1) 1 (fun _ => z) := by
  subst hg
  refine own_of_blk (N := 1) ⟨_, heap_alloc_new w _, rfl, fun j hj => ?_⟩ hb (Nat.le_refl _) (by simp [maxLen])
  obtain rfl : j = 0 := by omega
  rfl
set_option maxHeartbeats 1000000 in
theorem wOf_c (z : Int) (w : World) (h0 : -9223372036854775808 ≤ z) (h1 : z ≤ 9223372036854775807) :
    Calls Tryz.prog 70 #[.int .i64 z] w fun e w' => WOne 1 w w' e z := by
  by_cases hz : z = 0
  · subst hz
    go_enter Tryz.func70, Tryz.ntmps70
    go_wp2
    exact bodyPost_ret (v := .agg #[.bool false, .slice none 0 0]) (by simp [results, Tryz.results70, go_sem]) rfl ⟨false, none, 0, 0, fun _ => 0, rfl, ⟨Asw.none _ (below_alloc (Below.refl _ _) _), fun h => by cases h⟩, rfl⟩
  · have hz0 : (z == 0) = false := by simp; omega
    by_cases hneg : z < 0
    · have hW : Hid (IntKind.u64.wrap (-IntKind.u64.wrap z) = -z) := by
        show IntKind.u64.wrap (-IntKind.u64.wrap z) = -z
        simp only [wrapU]; omega
      go_enter Tryz.func70, Tryz.ntmps70
      go_wp2
      rw [hW.out]
      refine bodyPost_ret (v := .agg #[.bool true, .slice (some ⟨w.heap.size + 1, 0, none⟩) 1 1]) (by simp [results, Tryz.results70, go_sem]) rfl ⟨true, _, 1, 1, fun _ => -z, rfl, ⟨⟨below_alloc (below_alloc (Below.refl _ _) _) _, own_one (w.alloc _) w.heap.size _ (-z) (by simp) (by simp), lm_const (x := -z) (by omega) (by omega) 1, .inr (show -z ≠ 0 by omega), Nat.le_refl _⟩, fun _ => by omega⟩, ?_⟩
      rw [wv_true, vf_one]; omega
    · have hW : Hid (IntKind.u64.wrap z = z) := by
        show IntKind.u64.wrap z = z
        simp only [wrapU]; omega
      go_enter Tryz.func70, Tryz.ntmps70
      go_wp2
      (try rw [hW.out])
      refine bodyPost_ret (v := .agg #[.bool false, .slice (some ⟨w.heap.size + 1, 0, none⟩) 1 1]) (by simp [results, Tryz.results70, go_sem]) rfl ⟨false, _, 1, 1, fun _ => z, rfl, ⟨⟨below_alloc (below_alloc (Below.refl _ _) _) _, own_one (w.alloc _) w.heap.size _ z (by simp) (by simp), lm_const (x := z) (by omega) (by omega) 1, .inr (show z ≠ 0 by omega), Nat.le_refl _⟩, fun _ => by omega⟩, ?_⟩
      rw [wv_false, vf_one]
end Go.Proofs.YtlpmfmphglgocaaGreatDoor
