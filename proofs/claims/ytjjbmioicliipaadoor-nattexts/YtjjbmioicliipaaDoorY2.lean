/-
  The walk of the document's reference for nat: Text.
-/
import Derived.Test.YtjjbmioicliipaaDoorY1
import Derived.Test.YtjjbmioicliipaaDoorX1
import Derived.Test.YtjjbmioicliipaaDoorSm
namespace Go.Proofs.YtjjbmioicliipaaDoor
open Go.RowKit

theorem Sb.mid {s L b} (h : Sb s L b) {i j : Nat} (hij : i ≤ j) (hj : j ≤ L) : Sb (s.extract i j) (j - i) (bsh b i) := by
  obtain ⟨h1, h2⟩ := h
  refine ⟨by simp; omega, fun k hk => ?_⟩
  have hk' : k < j - i := by simp at hk; omega
  have := h2 (i + k) (by omega)
  show _ = b (i + k)
  rw [← this, ByteArray.getElem_extract]
theorem Sb.app {s t L M b c} (hs : Sb s L b) (ht : Sb t M c) : Sb (s ++ t) (L + M) (fun k => if k < L then b k else c (k - L)) := by
  obtain ⟨h1, h2⟩ := hs
  obtain ⟨h3, h4⟩ := ht
  refine ⟨by simp; omega, fun k hk => ?_⟩
  simp only [ByteArray.size_append] at hk
  show _ = if k < L then b k else c (k - L)
  by_cases h : k < L
  · rw [if_pos h, ← h2 k (by omega), ByteArray.getElem_append_left (by omega)]
  · rw [if_neg h, ← h4 (k - L) (by omega), ByteArray.getElem_append_right (by omega)]
    simp only [h1]
theorem Sb.congr {s L b c} (h : Sb s L b) (he : ∀ k, k < L → b k = c k) : Sb s L c := ⟨h.1, fun k hk => by rw [h.2 k hk, he k (by have := h.1; omega)]⟩
theorem sb_digits : Sb ⟨#[48, 49, 50, 51, 52, 53, 54, 55, 56, 57]⟩ 10 (fun k => 48 + k) := by
  refine ⟨rfl, fun k hk => ?_⟩
  have : k < 10 := hk
  have : ∀ k : Fin 10, ((ByteArray.mk #[48, 49, 50, 51, 52, 53, 54, 55, 56, 57])[k.1]'(k.2)).toNat = 48 + k.1 := by decide
  exact this ⟨k, hk⟩
/-- The digit of V at place e, as a byte. -/
def dg8 (V e : Nat) : Nat := 48 + V / 10 ^ e % 10
/-- The string holds the last m digits of V. -/
def Low10 (s : ByteArray) (V m : Nat) : Prop := Sb s m (fun k => dg8 V (m - 1 - k))
theorem sb_nil (b : Nat → Nat) : Sb ⟨#[]⟩ 0 b := by
  refine ⟨rfl, fun k hk => absurd hk ?_⟩
  have : (ByteArray.mk #[]).size = 0 := rfl
  omega
theorem low_nil (V : Nat) : Low10 ⟨#[]⟩ V 0 := sb_nil _
theorem sb_dec (V : Nat) : Sb ⟨(Lib.decDigits V).toArray⟩ (Lib.nDigits V) (fun k => dg8 V (Lib.nDigits V - 1 - k)) := by
  refine ⟨by show (Lib.decDigits V).toArray.size = _; simp [Lib.decDigits_length], fun k hk => ?_⟩
  have hk' : k < Lib.nDigits V := by
    have : (ByteArray.mk (Lib.decDigits V).toArray).size = Lib.nDigits V := by show (Lib.decDigits V).toArray.size = _; simp [Lib.decDigits_length]
    omega
  have h := byt_dec V k hk'
  unfold byt dgi at h
  rw [List.getD_eq_getElem?_getD, List.getElem?_eq_getElem (by rw [Lib.decDigits_length]; exact hk')] at h
  simp only [Option.getD_some] at h
  show ((Lib.decDigits V).toArray[k]'_).toNat = 48 + V / 10 ^ (Lib.nDigits V - 1 - k) % 10
  simp only [List.getElem_toArray]
  omega
/-- A digit put in front. -/
theorem Sb.front {p : ByteArray} {b : Nat → Nat} {i d : Nat} (h : Sb p i b) (hd : d < 10) : Sb ((ByteArray.mk #[48, 49, 50, 51, 52, 53, 54, 55, 56, 57]).extract d (d + 1) ++ p) (i + 1) (fun k => if k = 0 then 48 + d else b (k - 1)) := by
  have := (sb_digits.mid (i := d) (j := d + 1) (by omega) (by omega)).app h
  rw [show d + 1 - d = 1 by omega, Nat.add_comm 1 i] at this
  refine this.congr (fun k hk => ?_)
  by_cases h0 : k = 0
  · subst h0; simp [bsh]
  · rw [if_neg (by omega), if_neg h0]

theorem dig_low (Q R i : Nat) (hi : i < 9) : (Q * 1000000000 + R) / 10 ^ i % 10 = R / 10 ^ i % 10 := by
  rcases (show i = 0 ∨ i = 1 ∨ i = 2 ∨ i = 3 ∨ i = 4 ∨ i = 5 ∨ i = 6 ∨ i = 7 ∨ i = 8 by omega) with rfl | rfl | rfl | rfl | rfl | rfl | rfl | rfl | rfl <;> simp only [Nat.reducePow] <;> omega
/-- One round of the text. -/
theorem text_step {q : Nat → Int} {V m i k1 Qn Rn nn n : Nat} (hq : vd q k1 = (Qn : Int)) (h1 : 0 < k1 → 0 < Qn) (h2 : k1 = 0 → Qn = 0) (hA : V / 10 ^ m = Qn * 1000000000 + Rn) (hpos : 0 < V / 10 ^ m) (hB : V < 10 ^ (10 * n)) (hR : Rn < 1000000000) (hn : nn = Rn / 10 ^ i) (hI : i = 0 ∨ 0 < Qn ∨ 0 < Rn / 10 ^ (i - 1)) (hex : i = 9 ∨ k1 = 0 ∧ nn = 0) :
    vd q k1 = (V / 10 ^ (m + i) : Nat) ∧ (k1 = 0 → m + i = Lib.nDigits V) ∧ m + i ≤ 10 * n ∧ V / 10 ^ (m + i) < V / 10 ^ m := by
  have hVQ : V / 10 ^ (m + i) = Qn := by
    rw [Nat.pow_add, ← Nat.div_div_eq_div_mul, hA]
    rcases hex with rfl | ⟨hk, hz⟩
    · simp only [Nat.reducePow]; omega
    · have := h2 hk
      subst this
      rw [hn] at hz
      simpa using hz
  have hend : k1 = 0 → m + i = Lib.nDigits V := by
    intro hk
    have hQ := h2 hk
    subst hQ
    have hRp : 0 < Rn := by omega
    have hi0 : i ≠ 0 := by
      rintro rfl
      rcases hex with h | ⟨_, hz⟩
      · omega
      · rw [hn] at hz; simp at hz; omega
    have hR1 : 0 < Rn / 10 ^ (i - 1) := by
      rcases hI with h | h | h
      · omega
      · omega
      · exact h
    have e1 : V / 10 ^ (m + i - 1) = Rn / 10 ^ (i - 1) := by
      rw [show m + i - 1 = m + (i - 1) by omega, Nat.pow_add, ← Nat.div_div_eq_div_mul, hA]; simp
    have l1 : 10 ^ (m + i - 1) ≤ V := by
      apply Nat.le_of_not_lt; intro hlt
      rw [Nat.div_eq_of_lt hlt] at e1; omega
    have l2 : V < 10 ^ (m + i) := by
      apply Nat.lt_of_not_le; intro hle
      have := Nat.div_pos hle (Nat.pow_pos (n := m + i) (by decide : 0 < 10)); omega
    have := Lib.nDigits_unique (m + i - 1) V l1 (by rw [show m + i - 1 + 1 = m + i by omega]; exact l2)
    omega
  refine ⟨by rw [hVQ]; exact hq, hend, ?_, ?_⟩
  · by_cases hk : k1 = 0
    · rw [hend hk]
      by_cases h10 : 1 ≤ 10 * n
      · exact nDigits_le hB h10
      · have : 10 * n = 0 := by omega
        rw [this] at hB
        simp at hB
        subst hB
        simp at hpos
    · have hp : 10 ^ (m + i) ≤ V := by
        apply Nat.le_of_not_lt; intro hlt
        rw [Nat.div_eq_of_lt hlt] at hVQ
        have := h1 (by omega); omega
      have : 10 ^ (m + i) < 10 ^ (10 * n) := Nat.lt_of_le_of_lt hp hB
      exact Nat.le_of_lt ((Nat.pow_lt_pow_iff_right (by decide)).1 this)
  · rw [hVQ, hA]; rw [hA] at hpos; omega
theorem low_app {p s : ByteArray} {V m i : Nat} (hp : Sb p i (fun k => dg8 V (m + i - 1 - k))) (hs : Low10 s V m) : Low10 (p ++ s) V (m + i) := by
  have := hp.app hs
  rw [Nat.add_comm i m] at this
  refine this.congr (fun k hk => ?_)
  by_cases h : k < i
  · rw [if_pos h]
  · rw [if_neg h]; congr 1; omega
theorem vd_pos_iff {q : Nat → Int} {k Q : Nat} (hd : Dg q k) (hf : Fm q k) (hv : vd q k = (Q : Int)) : 0 < k → 0 < Q := fun h => by
  have := vd_form_ge hd hf h; have := pd_pos (k - 1); omega
theorem vd_zero_of {q : Nat → Int} {k Q : Nat} (hv : vd q k = (Q : Int)) (h : k = 0) : Q = 0 := by subst h; simp [vd] at hv; omega

set_option maxRecDepth 100000 in
set_option maxHeartbeats 8000000 in
theorem rtext_c (ao : Option Addr) (n ca : Nat) (f : Nat → Int) (V : Nat) (w : World) (hn : n ≤ 8192) (hr : Rd .u64 w ao n f) (hf : Dg f n) (ff : Fm f n) (hV : vd f n = V) :
    Calls Tryd.prog 42 #[.slice ao n ca] w fun e w' => e = .returned (.string ⟨(Lib.decDigits V).toArray⟩) ∧ Below w.heap.size w w' := by
  by_cases h0 : n = 0
  · subst h0
    have hV0 : V = 0 := by simp [vd] at hV; omega
    have E := hid (show Lib.decDigits V = [48] by rw [hV0, Lib.decDigits_one (by omega)]; rfl)
    clear hr hf ff hV
    go_enter Tryd.func42, Tryd.ntmps42
    go_wp2
    go_ret
    exact ⟨by rw [E.out]; rfl, Below.refl _ _⟩
  have hVp : 0 < V := by
    have := vd_form_ge hf ff (by omega); have := pd_pos (n - 1); omega
  have hVB : V < 10 ^ (10 * n) := by
    have h1 := vd_lt hf
    have h2 : pd n ≤ ((10 ^ (10 * n) : Nat) : Int) := by
      rw [pd_pow]
      have : 2 ^ (32 * n) ≤ 10 ^ (10 * n) := by rw [Nat.pow_mul, Nat.pow_mul]; exact Nat.pow_le_pow_left (by decide) n
      exact_mod_cast this
    rw [hV] at h1
    omega
  have h0b : ((n : Int) == 0) = false := by simp; omega
  have HRd := hid hr; have HDg := hid hf; have HFm := hid ff; have HVv := hid hV; have HVB := hid hVB; have HVP := hid hVp
  clear hr hf ff hV hVB hVp
  go_enter Tryd.func42, Tryd.ntmps42
  go_wp2
  go_loopw [0, 3] (fun v t wr => ∃ (x : Option Addr) (k c m : Nat) (g : Nat → Int) (s : ByteArray), v = .slice x k c ∧ t = .string s ∧ k ≤ n ∧ m ≤ 10 * n ∧ s.size = m ∧ Below w.heap.size w wr ∧ Hid (Rd .u64 wr x k g) ∧ Hid (Dg g k) ∧ Hid (Fm g k) ∧ Hid (vd g k = (V / 10 ^ m : Nat)) ∧ Hid (Low10 s V m) ∧ Hid (k = 0 → m = Lib.nDigits V)) (fun _ t _ => match t with | .string s => V / 10 ^ s.size | _ => 0)
  case atStart => exact ⟨ao, n, ca, 0, f, ⟨#[]⟩, rfl, rfl, by omega, by omega, rfl, Below.refl _ _, HRd.out, HDg.out, HFm.out, by simpa [Hid] using HVv.out, low_nil V, fun h => absurd h h0⟩
  case round =>
    clear HRd HDg HFm HVv h0b
    obtain ⟨x, k, c, m, g, s, rfl, rfl, hk, hm1, hsz, hbel, HR, HD, HF, HV, HS, HE⟩ := hrel
    by_cases hk0 : k = 0
    · subst hk0
      have hfin : s = ⟨(Lib.decDigits V).toArray⟩ := by
        have h1 := HE.out rfl
        have h2 := HS.out
        rw [h1] at h2
        exact sb_eq h2 (sb_dec V)
      have HFin := hid hfin
      clear hfin HS HE HV HR HD HF
      go_wp2
      go_ret
      exact ⟨by rw [HFin.out]; rfl, hbel⟩
    · go_wp2_with fail
      refine (short_c x k c g 1000000000 wr (by omega) HR.out HD.out (by omega) (by omega)).mono ?_
      rintro e w2 ⟨a1, k1, c1, q, a2, k2, c2, R, rfl, hbel2, hk1, hrq, hdq, hfq, hk2, hr2, hx2, hf2, R0, R1, hval⟩
      obtain ⟨Rn, rfl⟩ := Int.eq_ofNat_of_zero_le R0
      obtain ⟨Qn, hQn⟩ := Int.eq_ofNat_of_zero_le (vd_nonneg hdq)
      rw [HV.out, hQn] at hval
      have hA : V / 10 ^ m = Qn * 1000000000 + Rn := by omega
      have hApos : 0 < V / 10 ^ m := vd_pos_iff HD.out HF.out HV.out (by omega)
      have HA := hid hA; have HAP := hid hApos; have HQ := hid (show (0 < k1 → 0 < Qn) ∧ (k1 = 0 → Qn = 0) from ⟨vd_pos_iff hdq hfq hQn, vd_zero_of hQn⟩)
      have HRq := hid hrq; have HDq := hid hdq; have HFq := hid hfq; have HQn := hid hQn; have HR2 := hid hr2; have BE2 := hid (hbel.trans (hbel2.mono hbel.size))
      clear hA hApos hrq hdq hfq hQn hr2 hf2 hval hbel2 HR HD HF HV HE hbel
      have k0b : decide ((0 : Int) < (k : Int)) = true := by simp; omega
      by_cases hk2z : k2 = 0
      · have hRn0 : Rn = 0 := by have := hx2 hk2z; omega
        subst hk2z
        have HR0 := hid hRn0
        clear hx2 hRn0
        go_wp2
        go_loop [6, 7, 8] (fun c d t => ∃ (i nn : Nat) (p : ByteArray), i ≤ 9 ∧ t = .int .i64 i ∧ d = .string p ∧ c = .int .u64 nn ∧ p.size = i ∧ Hid (nn = Rn / 10 ^ i) ∧ Hid (Sb p i (fun k => dg8 V (m + i - 1 - k))) ∧ Hid (i = 0 ∨ 0 < Qn ∨ 0 < Rn / 10 ^ (i - 1))) (fun _ _ t => 9 - (intOf t).toNat)
        case atStart => exact ⟨0, Rn, ⟨#[]⟩, by omega, rfl, rfl, (by rw [HR0.out]; rfl), rfl, by simp [Hid], sb_nil _, .inl rfl⟩
        case round =>
          obtain ⟨i, nn, p, hi, rfl, rfl, rfl, hpsz, HN, HP, HI⟩ := hrel
          by_cases hgo : i < 9 ∧ (0 < k1 ∨ 0 < nn)
          · obtain ⟨hi9, hor⟩ := hgo
            have b1 : decide ((i : Int) < 9) = true := by simp; omega
            obtain ⟨d, hd⟩ : ∃ d, d = nn % 10 := ⟨_, rfl⟩
            have hd10 : d < 10 := by omega
            have hd1 : (nn : Int) % 10 = (d : Int) := by omega
            obtain ⟨n2, hn2⟩ : ∃ n2, n2 = nn / 10 := ⟨_, rfl⟩
            have hd2 : (nn : Int) / 10 = (n2 : Int) := by omega
            have hnn : nn ≤ 1000000000 := by rw [HN.out]; exact Nat.le_trans (Nat.div_le_self _ _) (by omega)
            have hP' : Hid (Sb ((ByteArray.mk #[48, 49, 50, 51, 52, 53, 54, 55, 56, 57]).extract d (d + 1) ++ p) (i + 1) (fun k => dg8 V (m + (i + 1) - 1 - k))) := by
              refine (HP.out.front hd10).congr (fun k hk => ?_)
              by_cases hk0 : k = 0
              · subst hk0
                rw [if_pos rfl]
                have e1 := dig_low Qn Rn i hi9
                show 48 + d = 48 + V / 10 ^ (m + (i + 1) - 1 - 0) % 10
                rw [show m + (i + 1) - 1 - 0 = m + i by omega, Nat.pow_add, ← Nat.div_div_eq_div_mul, HA.out, e1, hd, HN.out]
              · rw [if_neg hk0]
                show dg8 V _ = dg8 V _
                congr 1; omega
            have hN' : Hid (n2 = Rn / 10 ^ (i + 1)) := by
              show _ = _
              rw [hn2, HN.out, Nat.div_div_eq_div_mul, Nat.pow_succ]
            have hI' : Hid (i + 1 = 0 ∨ 0 < Qn ∨ 0 < Rn / 10 ^ (i + 1 - 1)) := by
              right
              rcases hor with h | h
              · exact .inl (HQ.out.1 h)
              · right; rw [HN.out] at h; exact h
            clear hd HP HN HI hn2
            have hsum : d + 1 - d + i ≤ 9223372036854775807 := by omega
            by_cases hk1p : 0 < k1
            · have b2 : decide ((0 : Int) < (k1 : Int)) = true := by simp; omega
              clear hor
              go_wp2
              go_round
              case rel => exact ⟨i + 1, n2, _, by omega, by go_num, rfl, rfl, hP'.out.1, hN'.out, hP'.out, hI'.out⟩
              case measure => simp [intOf]; omega
            · obtain rfl : k1 = 0 := by omega
              obtain ⟨n9, rfl⟩ : ∃ n9, nn = n9 + 1 := ⟨nn - 1, by omega⟩
              have hd1' : ((n9 : Int) + 1) % 10 = (d : Int) := by omega
              have hd2' : ((n9 : Int) + 1) / 10 = (n2 : Int) := by omega
              clear hor hk1p hk1 hd1 hd2
              go_wp2
              go_round
              case rel => exact ⟨i + 1, n2, _, by omega, by go_num, rfl, (by rw [hd2']), hP'.out.1, hN'.out, hP'.out, hI'.out⟩
              case measure => simp [intOf]; omega
          · have hex : i = 9 ∨ k1 = 0 ∧ nn = 0 := by omega
            have hnew : vd q k1 = (V / 10 ^ (m + i) : Nat) ∧ (k1 = 0 → m + i = Lib.nDigits V) ∧ m + i ≤ 10 * n ∧ V / 10 ^ (m + i) < V / 10 ^ m := text_step HQn.out HQ.out.1 HQ.out.2 HA.out HAP.out HVB.out (by omega) HN.out HI.out hex
            obtain ⟨hn1, hn2, hn3, hn4⟩ := hnew
            have hS' : Hid (Low10 (p ++ s) V (m + i)) := low_app HP.out HS.out
            have N1 := hid hn1; have N2 := hid hn2; have N4 := hid hn4
            have hss := hS'.out.1
            clear hn1 hn2 hn4 HN HP HI
            by_cases hi9 : i < 9
            · obtain ⟨rfl, rfl⟩ : k1 = 0 ∧ nn = 0 := by omega
              have b1 : decide ((i : Int) < 9) = true := by simp; omega
              clear hex hgo
              go_wp2
              go_roundw
              case rel => exact ⟨a1, _, c1, m + i, q, p ++ s, rfl, rfl, by omega, hn3, hss, BE2.out, HRq.out, HDq.out, HFq.out, N1.out, hS'.out, N2.out⟩
              case measure =>
                have e1 := hss
                show V / 10 ^ (p ++ s).size < V / 10 ^ s.size
                rw [hss, hsz]; exact N4.out
            · obtain rfl : i = 9 := by omega
              clear hex hgo hi9
              go_wp2
              go_roundw
              case rel => exact ⟨a1, _, c1, m + 9, q, p ++ s, rfl, rfl, by omega, hn3, hss, BE2.out, HRq.out, HDq.out, HFq.out, N1.out, hS'.out, N2.out⟩
              case measure =>
                have e1 := hss
                show V / 10 ^ (p ++ s).size < V / 10 ^ s.size
                rw [hss, hsz]; exact N4.out
      · obtain rfl : k2 = 1 := by omega
        obtain ⟨b2, o2, rfl⟩ := HR2.out.at (by omega)
        have hcr : w2.cell? ⟨b2, o2, none⟩ = some (.int .u64 (Rn : Int)) := HR2.out.cell (j := 0) (by omega)
        have k2b : decide ((0 : Int) < ((1 : Nat) : Int)) = true := by simp
        clear hk2z hx2 hk2
        go_wp2
        go_loop [6, 7, 8] (fun c d t => ∃ (i nn : Nat) (p : ByteArray), i ≤ 9 ∧ t = .int .i64 i ∧ d = .string p ∧ c = .int .u64 nn ∧ p.size = i ∧ Hid (nn = Rn / 10 ^ i) ∧ Hid (Sb p i (fun k => dg8 V (m + i - 1 - k))) ∧ Hid (i = 0 ∨ 0 < Qn ∨ 0 < Rn / 10 ^ (i - 1))) (fun _ _ t => 9 - (intOf t).toNat)
        case atStart => exact ⟨0, Rn, ⟨#[]⟩, by omega, rfl, rfl, rfl, rfl, by simp [Hid], sb_nil _, .inl rfl⟩
        case round =>
          obtain ⟨i, nn, p, hi, rfl, rfl, rfl, hpsz, HN, HP, HI⟩ := hrel
          by_cases hgo : i < 9 ∧ (0 < k1 ∨ 0 < nn)
          · obtain ⟨hi9, hor⟩ := hgo
            have b1 : decide ((i : Int) < 9) = true := by simp; omega
            obtain ⟨d, hd⟩ : ∃ d, d = nn % 10 := ⟨_, rfl⟩
            have hd10 : d < 10 := by omega
            have hd1 : (nn : Int) % 10 = (d : Int) := by omega
            obtain ⟨n2, hn2⟩ : ∃ n2, n2 = nn / 10 := ⟨_, rfl⟩
            have hd2 : (nn : Int) / 10 = (n2 : Int) := by omega
            have hnn : nn ≤ 1000000000 := by rw [HN.out]; exact Nat.le_trans (Nat.div_le_self _ _) (by omega)
            have hP' : Hid (Sb ((ByteArray.mk #[48, 49, 50, 51, 52, 53, 54, 55, 56, 57]).extract d (d + 1) ++ p) (i + 1) (fun k => dg8 V (m + (i + 1) - 1 - k))) := by
              refine (HP.out.front hd10).congr (fun k hk => ?_)
              by_cases hk0 : k = 0
              · subst hk0
                rw [if_pos rfl]
                have e1 := dig_low Qn Rn i hi9
                show 48 + d = 48 + V / 10 ^ (m + (i + 1) - 1 - 0) % 10
                rw [show m + (i + 1) - 1 - 0 = m + i by omega, Nat.pow_add, ← Nat.div_div_eq_div_mul, HA.out, e1, hd, HN.out]
              · rw [if_neg hk0]
                show dg8 V _ = dg8 V _
                congr 1; omega
            have hN' : Hid (n2 = Rn / 10 ^ (i + 1)) := by
              show _ = _
              rw [hn2, HN.out, Nat.div_div_eq_div_mul, Nat.pow_succ]
            have hI' : Hid (i + 1 = 0 ∨ 0 < Qn ∨ 0 < Rn / 10 ^ (i + 1 - 1)) := by
              right
              rcases hor with h | h
              · exact .inl (HQ.out.1 h)
              · right; rw [HN.out] at h; exact h
            clear hd HP HN HI hn2
            have hsum : d + 1 - d + i ≤ 9223372036854775807 := by omega
            by_cases hk1p : 0 < k1
            · have b2 : decide ((0 : Int) < (k1 : Int)) = true := by simp; omega
              clear hor
              go_wp2
              go_round
              case rel => exact ⟨i + 1, n2, _, by omega, by go_num, rfl, rfl, hP'.out.1, hN'.out, hP'.out, hI'.out⟩
              case measure => simp [intOf]; omega
            · obtain rfl : k1 = 0 := by omega
              obtain ⟨n9, rfl⟩ : ∃ n9, nn = n9 + 1 := ⟨nn - 1, by omega⟩
              have hd1' : ((n9 : Int) + 1) % 10 = (d : Int) := by omega
              have hd2' : ((n9 : Int) + 1) / 10 = (n2 : Int) := by omega
              clear hor hk1p hk1 hd1 hd2
              go_wp2
              go_round
              case rel => exact ⟨i + 1, n2, _, by omega, by go_num, rfl, (by rw [hd2']), hP'.out.1, hN'.out, hP'.out, hI'.out⟩
              case measure => simp [intOf]; omega
          · have hex : i = 9 ∨ k1 = 0 ∧ nn = 0 := by omega
            have hnew : vd q k1 = (V / 10 ^ (m + i) : Nat) ∧ (k1 = 0 → m + i = Lib.nDigits V) ∧ m + i ≤ 10 * n ∧ V / 10 ^ (m + i) < V / 10 ^ m := text_step HQn.out HQ.out.1 HQ.out.2 HA.out HAP.out HVB.out (by omega) HN.out HI.out hex
            obtain ⟨hn1, hn2, hn3, hn4⟩ := hnew
            have hS' : Hid (Low10 (p ++ s) V (m + i)) := low_app HP.out HS.out
            have N1 := hid hn1; have N2 := hid hn2; have N4 := hid hn4
            have hss := hS'.out.1
            clear hn1 hn2 hn4 HN HP HI
            by_cases hi9 : i < 9
            · obtain ⟨rfl, rfl⟩ : k1 = 0 ∧ nn = 0 := by omega
              have b1 : decide ((i : Int) < 9) = true := by simp; omega
              clear hex hgo
              go_wp2
              go_roundw
              case rel => exact ⟨a1, _, c1, m + i, q, p ++ s, rfl, rfl, by omega, hn3, hss, BE2.out, HRq.out, HDq.out, HFq.out, N1.out, hS'.out, N2.out⟩
              case measure =>
                have e1 := hss
                show V / 10 ^ (p ++ s).size < V / 10 ^ s.size
                rw [hss, hsz]; exact N4.out
            · obtain rfl : i = 9 := by omega
              clear hex hgo hi9
              go_wp2
              go_roundw
              case rel => exact ⟨a1, _, c1, m + 9, q, p ++ s, rfl, rfl, by omega, hn3, hss, BE2.out, HRq.out, HDq.out, HFq.out, N1.out, hS'.out, N2.out⟩
              case measure =>
                have e1 := hss
                show V / 10 ^ (p ++ s).size < V / 10 ^ s.size
                rw [hss, hsz]; exact N4.out
end Go.Proofs.YtjjbmioicliipaaDoor
