/-
  The walk of the document's reference for nat: Text. Walks of the document's reference for nat: Sub on digits, and the calls DocAdd, DocSub, DocCmp. Walks of the document's reference for nat: the calls DocAdd, DocSub, DocCmp. Walks of the document's reference for nat: Read, DocRead, DocText. Walks of package nat's reading: joinPieces, fromDigits, Read. Walks of package nat's reading: fromDigits, Read. Walks of nat's Text, and of the document's reference: DocText, DocRead. Walks of package whole's calls Text, Read. The walk of package whole's call Read. The walk of the statements' own look at answers of whole that the document fixes (awake). What the walks of whole's statements share: light, boxes and numbers carried along. Rational numbers in lowest terms: what numerators and denominators become by sums, products, quotients. Euclid's steps by the highest bits (Lehmer's way, Collins' condition), on plain numbers. No Go text is named here. Walks of package nat's greatest common divisor: findSteps.
-/
import Derived.Test.YtbindadjepfkcaaGreatDoorZ4
import Derived.Test.YtbindadjepfkcaaGreatDoorZ3
import Derived.Deep.CutRange
import Derived.Deep.RegionHeld3
import Derived.Test.YtbindadjepfkcaaGreatDoorZ0
import Derived.Test.YtbindadjepfkcaaGreatDoorZ1
import Derived.BigRegion
namespace Go.Proofs.YtbindadjepfkcaaGreatDoor
open Go.RowKit

theorem Sb.mid {s L b} (h : Sb s L b) {i j : Nat} (hij : i ≤ j) (hj : j ≤ L) : Sb (s.extract i j) (j - i) (bsh b i) := by
  obtain ⟨h1, h2⟩ := h
  refine ⟨by simp; omega, fun k hk => ?_⟩
  have hk' : k < j - i := by simp at hk; omega
  have := h2 (i + k) (by omega)
  show _ = b (i + k)
  rw [← this, ByteArray.getElem_extract]
theorem Sb.app {s t L M b c} (hs : Sb s L b) (ht : Sb t M c) : Sb (s ++ t) (L + M) (fun k => if k < L then b k else c (k - L)) := by
  obtain ⟨h1, h2⟩ := hs
  obtain ⟨h3, h4⟩ := ht
  refine ⟨by simp; omega, fun k hk => ?_⟩
  simp only [ByteArray.size_append] at hk
  show _ = if k < L then b k else c (k - L)
  by_cases h : k < L
  · rw [if_pos h, ← h2 k (by omega), ByteArray.getElem_append_left (by omega)]
  · rw [if_neg h, ← h4 (k - L) (by omega), ByteArray.getElem_append_right (by omega)]
    simp only [h1]
theorem Sb.congr {s L b c} (h : Sb s L b) (he : ∀ k, k < L → b k = c k) : Sb s L c := ⟨h.1, fun k hk => by rw [h.2 k hk, he k (by have := h.1; omega)]⟩
theorem sb_digits : Sb ⟨#[48, 49, 50, 51, 52, 53, 54, 55, 56, 57]⟩ 10 (fun k => 48 + k) := by
  refine ⟨rfl, fun k hk => ?_⟩
  have : k < 10 := hk
  have : ∀ k : Fin 10, ((ByteArray.mk #[48, 49, 50, 51, 52, 53, 54, 55, 56, 57])[k.1]'(k.2)).toNat = 48 + k.1 := by decide
  exact this ⟨k, hk⟩
/-- The digit of V at place e, as a byte. -/
def dg8 (V e : Nat) : Nat := 48 + V / 10 ^ e % 10
/-- The string holds the last m digits of V. -/
def Low10 (s : ByteArray) (V m : Nat) : Prop := Sb s m (fun k => dg8 V (m - 1 - k))
theorem sb_nil (b : Nat → Nat) : Sb ⟨#[]⟩ 0 b := by
  refine ⟨rfl, fun k hk => absurd hk ?_⟩
  have : (ByteArray.mk #[]).size = 0 := rfl
  omega
theorem low_nil (V : Nat) : Low10 ⟨#[]⟩ V 0 := sb_nil _
theorem sb_dec (V : Nat) : Sb ⟨(Lib.decDigits V).toArray⟩ (Lib.nDigits V) (fun k => dg8 V (Lib.nDigits V - 1 - k)) := by
  refine ⟨by show (Lib.decDigits V).toArray.size = _; simp [Lib.decDigits_length], fun k hk => ?_⟩
  have hk' : k < Lib.nDigits V := by
    have : (ByteArray.mk (Lib.decDigits V).toArray).size = Lib.nDigits V := by show (Lib.decDigits V).toArray.size = _; simp [Lib.decDigits_length]
    omega
  have h := byt_dec V k hk'
  unfold byt dgi at h
  rw [List.getD_eq_getElem?_getD, List.getElem?_eq_getElem (by rw [Lib.decDigits_length]; exact hk')] at h
  simp only [Option.getD_some] at h
  show ((Lib.decDigits V).toArray[k]'_).toNat = 48 + V / 10 ^ (Lib.nDigits V - 1 - k) % 10
  simp only [List.getElem_toArray]
  omega
/-- A digit put in front. -/
theorem Sb.front {p : ByteArray} {b : Nat → Nat} {i d : Nat} (h : Sb p i b) (hd : d < 10) : Sb ((ByteArray.mk #[48, 49, 50, 51, 52, 53, 54, 55, 56, 57]).extract d (d + 1) ++ p) (i + 1) (fun k => if k = 0 then 48 + d else b (k - 1)) := by
  have := (sb_digits.mid (i := d) (j := d + 1) (by omega) (by omega)).app h
  rw [show d + 1 - d = 1 by omega, Nat.add_comm 1 i] at this
  refine this.congr (fun k hk => ?_)
  by_cases h0 : k = 0
  · subst h0; simp [bsh]
  · rw [if_neg (by omega), if_neg h0]

theorem dig_low (Q R i : Nat) (hi : i < 9) : (Q * 1000000000 + R) / 10 ^ i % 10 = R / 10 ^ i % 10 := by
  rcases (show i = 0 ∨ i = 1 ∨ i = 2 ∨ i = 3 ∨ i = 4 ∨ i = 5 ∨ i = 6 ∨ i = 7 ∨ i = 8 by omega) with rfl | rfl | rfl | rfl | rfl | rfl | rfl | rfl | rfl <;> simp only [Nat.reducePow] <;> omega
/-- One round of the text. -/
theorem text_step {q : Nat → Int} {V m i k1 Qn Rn nn n : Nat} (hq : vd q k1 = (Qn : Int)) (h1 : 0 < k1 → 0 < Qn) (h2 : k1 = 0 → Qn = 0) (hA : V / 10 ^ m = Qn * 1000000000 + Rn) (hpos : 0 < V / 10 ^ m) (hB : V < 10 ^ (10 * n)) (hR : Rn < 1000000000) (hn : nn = Rn / 10 ^ i) (hI : i = 0 ∨ 0 < Qn ∨ 0 < Rn / 10 ^ (i - 1)) (hex : i = 9 ∨ k1 = 0 ∧ nn = 0) :
    vd q k1 = (V / 10 ^ (m + i) : Nat) ∧ (k1 = 0 → m + i = Lib.nDigits V) ∧ m + i ≤ 10 * n ∧ V / 10 ^ (m + i) < V / 10 ^ m := by
  have hVQ : V / 10 ^ (m + i) = Qn := by
    rw [Nat.pow_add, ← Nat.div_div_eq_div_mul, hA]
    rcases hex with rfl | ⟨hk, hz⟩
    · simp only [Nat.reducePow]; omega
    · have := h2 hk
      subst this
      rw [hn] at hz
      simpa using hz
  have hend : k1 = 0 → m + i = Lib.nDigits V := by
    intro hk
    have hQ := h2 hk
    subst hQ
    have hRp : 0 < Rn := by omega
    have hi0 : i ≠ 0 := by
      rintro rfl
      rcases hex with h | ⟨_, hz⟩
      · omega
      · rw [hn] at hz; simp at hz; omega
    have hR1 : 0 < Rn / 10 ^ (i - 1) := by
      rcases hI with h | h | h
      · omega
      · omega
      · exact h
    have e1 : V / 10 ^ (m + i - 1) = Rn / 10 ^ (i - 1) := by
      rw [show m + i - 1 = m + (i - 1) by omega, Nat.pow_add, ← Nat.div_div_eq_div_mul, hA]; simp
    have l1 : 10 ^ (m + i - 1) ≤ V := by
      apply Nat.le_of_not_lt; intro hlt
      rw [Nat.div_eq_of_lt hlt] at e1; omega
    have l2 : V < 10 ^ (m + i) := by
      apply Nat.lt_of_not_le; intro hle
      have := Nat.div_pos hle (Nat.pow_pos (n := m + i) (by decide : 0 < 10)); omega
    have := Lib.nDigits_unique (m + i - 1) V l1 (by rw [show m + i - 1 + 1 = m + i by omega]; exact l2)
    omega
  refine ⟨by rw [hVQ]; exact hq, hend, ?_, ?_⟩
  · by_cases hk : k1 = 0
    · rw [hend hk]
      by_cases h10 : 1 ≤ 10 * n
      · exact nDigits_le hB h10
      · have : 10 * n = 0 := by omega
        rw [this] at hB
        simp at hB
        subst hB
        simp at hpos
    · have hp : 10 ^ (m + i) ≤ V := by
        apply Nat.le_of_not_lt; intro hlt
        rw [Nat.div_eq_of_lt hlt] at hVQ
        have := h1 (by omega); omega
      have : 10 ^ (m + i) < 10 ^ (10 * n) := Nat.lt_of_le_of_lt hp hB
      exact Nat.le_of_lt ((Nat.pow_lt_pow_iff_right (by decide)).1 this)
  · rw [hVQ, hA]; rw [hA] at hpos; omega
theorem low_app {p s : ByteArray} {V m i : Nat} (hp : Sb p i (fun k => dg8 V (m + i - 1 - k))) (hs : Low10 s V m) : Low10 (p ++ s) V (m + i) := by
  have := hp.app hs
  rw [Nat.add_comm i m] at this
  refine this.congr (fun k hk => ?_)
  by_cases h : k < i
  · rw [if_pos h]
  · rw [if_neg h]; congr 1; omega
theorem vd_pos_iff {q : Nat → Int} {k Q : Nat} (hd : Dg q k) (hf : Fm q k) (hv : vd q k = (Q : Int)) : 0 < k → 0 < Q := fun h => by
  have := vd_form_ge hd hf h; have := pd_pos (k - 1); omega
theorem vd_zero_of {q : Nat → Int} {k Q : Nat} (hv : vd q k = (Q : Int)) (h : k = 0) : Q = 0 := by subst h; simp [vd] at hv; omega

set_option maxRecDepth 100000 in
set_option maxHeartbeats 8000000 in
theorem rtext_c (ao : Option Addr) (n ca : Nat) (f : Nat → Int) (V : Nat) (w : World) (hn : n ≤ 8192) (hr : Rd .u64 w ao n f) (hf : Dg f n) (ff : Fm f n) (hV : vd f n = V) :
    Calls Tryz.prog 130 #[.slice ao n ca] w fun e w' => e = .returned (.string ⟨(Lib.decDigits V).toArray⟩) ∧ Below w.heap.size w w' := by
  by_cases h0 : n = 0
  · subst h0
    have hV0 : V = 0 := by simp [vd] at hV; omega
    have E := hid (show Lib.decDigits V = [48] by rw [hV0, Lib.decDigits_one (by omega)]; rfl)
    clear hr hf ff hV
    go_enter Tryz.func130, Tryz.ntmps130
    go_wp2
    go_ret
    exact ⟨by rw [E.out]; rfl, Below.refl _ _⟩
  have hVp : 0 < V := by
    have := vd_form_ge hf ff (by omega); have := pd_pos (n - 1); omega
  have hVB : V < 10 ^ (10 * n) := by
    have h1 := vd_lt hf
    have h2 : pd n ≤ ((10 ^ (10 * n) : Nat) : Int) := by
      rw [pd_pow]
      have : 2 ^ (32 * n) ≤ 10 ^ (10 * n) := by rw [Nat.pow_mul, Nat.pow_mul]; exact Nat.pow_le_pow_left (by decide) n
      exact_mod_cast this
    rw [hV] at h1
    omega
  have h0b : ((n : Int) == 0) = false := by simp; omega
  have HRd := hid hr; have HDg := hid hf; have HFm := hid ff; have HVv := hid hV; have HVB := hid hVB; have HVP := hid hVp
  clear hr hf ff hV hVB hVp
  go_enter Tryz.func130, Tryz.ntmps130
  go_wp2
  go_loopw [0, 3] (fun v t wr => ∃ (x : Option Addr) (k c m : Nat) (g : Nat → Int) (s : ByteArray), v = .slice x k c ∧ t = .string s ∧ k ≤ n ∧ m ≤ 10 * n ∧ s.size = m ∧ Below w.heap.size w wr ∧ Hid (Rd .u64 wr x k g) ∧ Hid (Dg g k) ∧ Hid (Fm g k) ∧ Hid (vd g k = (V / 10 ^ m : Nat)) ∧ Hid (Low10 s V m) ∧ Hid (k = 0 → m = Lib.nDigits V)) (fun _ t _ => match t with | .string s => V / 10 ^ s.size | _ => 0)
  case atStart => exact ⟨ao, n, ca, 0, f, ⟨#[]⟩, rfl, rfl, by omega, by omega, rfl, Below.refl _ _, HRd.out, HDg.out, HFm.out, by simpa [Hid] using HVv.out, low_nil V, fun h => absurd h h0⟩
  case round =>
    clear HRd HDg HFm HVv h0b
    obtain ⟨x, k, c, m, g, s, rfl, rfl, hk, hm1, hsz, hbel, HR, HD, HF, HV, HS, HE⟩ := hrel
    by_cases hk0 : k = 0
    · subst hk0
      have hfin : s = ⟨(Lib.decDigits V).toArray⟩ := by
        have h1 := HE.out rfl
        have h2 := HS.out
        rw [h1] at h2
        exact sb_eq h2 (sb_dec V)
      have HFin := hid hfin
      clear hfin HS HE HV HR HD HF
      go_wp2
      go_ret
      exact ⟨by rw [HFin.out]; rfl, hbel⟩
    · go_wp2_with fail
      refine (short_c x k c g 1000000000 wr (by omega) HR.out HD.out (by omega) (by omega)).mono ?_
      rintro e w2 ⟨a1, k1, c1, q, a2, k2, c2, R, rfl, hbel2, hk1, hrq, hdq, hfq, hk2, hr2, hx2, hf2, R0, R1, hval⟩
      obtain ⟨Rn, rfl⟩ := Int.eq_ofNat_of_zero_le R0
      obtain ⟨Qn, hQn⟩ := Int.eq_ofNat_of_zero_le (vd_nonneg hdq)
      rw [HV.out, hQn] at hval
      have hA : V / 10 ^ m = Qn * 1000000000 + Rn := by omega
      have hApos : 0 < V / 10 ^ m := vd_pos_iff HD.out HF.out HV.out (by omega)
      have HA := hid hA; have HAP := hid hApos; have HQ := hid (show (0 < k1 → 0 < Qn) ∧ (k1 = 0 → Qn = 0) from ⟨vd_pos_iff hdq hfq hQn, vd_zero_of hQn⟩)
      have HRq := hid hrq; have HDq := hid hdq; have HFq := hid hfq; have HQn := hid hQn; have HR2 := hid hr2; have BE2 := hid (hbel.trans (hbel2.mono hbel.size))
      clear hA hApos hrq hdq hfq hQn hr2 hf2 hval hbel2 HR HD HF HV HE hbel
      have k0b : decide ((0 : Int) < (k : Int)) = true := by simp; omega
      by_cases hk2z : k2 = 0
      · have hRn0 : Rn = 0 := by have := hx2 hk2z; omega
        subst hk2z
        have HR0 := hid hRn0
        clear hx2 hRn0
        go_wp2
        go_loop [6, 7, 8] (fun c d t => ∃ (i nn : Nat) (p : ByteArray), i ≤ 9 ∧ t = .int .i64 i ∧ d = .string p ∧ c = .int .u64 nn ∧ p.size = i ∧ Hid (nn = Rn / 10 ^ i) ∧ Hid (Sb p i (fun k => dg8 V (m + i - 1 - k))) ∧ Hid (i = 0 ∨ 0 < Qn ∨ 0 < Rn / 10 ^ (i - 1))) (fun _ _ t => 9 - (intOf t).toNat)
        case atStart => exact ⟨0, Rn, ⟨#[]⟩, by omega, rfl, rfl, (by rw [HR0.out]; rfl), rfl, by simp [Hid], sb_nil _, .inl rfl⟩
        case round =>
          obtain ⟨i, nn, p, hi, rfl, rfl, rfl, hpsz, HN, HP, HI⟩ := hrel
          by_cases hgo : i < 9 ∧ (0 < k1 ∨ 0 < nn)
          · obtain ⟨hi9, hor⟩ := hgo
            have b1 : decide ((i : Int) < 9) = true := by simp; omega
            obtain ⟨d, hd⟩ : ∃ d, d = nn % 10 := ⟨_, rfl⟩
            have hd10 : d < 10 := by omega
            have hd1 : (nn : Int) % 10 = (d : Int) := by omega
            obtain ⟨n2, hn2⟩ : ∃ n2, n2 = nn / 10 := ⟨_, rfl⟩
            have hd2 : (nn : Int) / 10 = (n2 : Int) := by omega
            have hnn : nn ≤ 1000000000 := by rw [HN.out]; exact Nat.le_trans (Nat.div_le_self _ _) (by omega)
            have hP' : Hid (Sb ((ByteArray.mk #[48, 49, 50, 51, 52, 53, 54, 55, 56, 57]).extract d (d + 1) ++ p) (i + 1) (fun k => dg8 V (m + (i + 1) - 1 - k))) := by
              refine (HP.out.front hd10).congr (fun k hk => ?_)
              by_cases hk0 : k = 0
              · subst hk0
                rw [if_pos rfl]
                have e1 := dig_low Qn Rn i hi9
                show 48 + d = 48 + V / 10 ^ (m + (i + 1) - 1 - 0) % 10
                rw [show m + (i + 1) - 1 - 0 = m + i by omega, Nat.pow_add, ← Nat.div_div_eq_div_mul, HA.out, e1, hd, HN.out]
              · rw [if_neg hk0]
                show dg8 V _ = dg8 V _
                congr 1; omega
            have hN' : Hid (n2 = Rn / 10 ^ (i + 1)) := by
              show _ = _
              rw [hn2, HN.out, Nat.div_div_eq_div_mul, Nat.pow_succ]
            have hI' : Hid (i + 1 = 0 ∨ 0 < Qn ∨ 0 < Rn / 10 ^ (i + 1 - 1)) := by
              right
              rcases hor with h | h
              · exact .inl (HQ.out.1 h)
              · right; rw [HN.out] at h; exact h
            clear hd HP HN HI hn2
            have hsum : d + 1 - d + i ≤ 9223372036854775807 := by omega
            by_cases hk1p : 0 < k1
            · have b2 : decide ((0 : Int) < (k1 : Int)) = true := by simp; omega
              clear hor
              go_wp2
              go_round
              case rel => exact ⟨i + 1, n2, _, by omega, by go_num, rfl, rfl, hP'.out.1, hN'.out, hP'.out, hI'.out⟩
              case measure => simp [intOf]; omega
            · obtain rfl : k1 = 0 := by omega
              obtain ⟨n9, rfl⟩ : ∃ n9, nn = n9 + 1 := ⟨nn - 1, by omega⟩
              have hd1' : ((n9 : Int) + 1) % 10 = (d : Int) := by omega
              have hd2' : ((n9 : Int) + 1) / 10 = (n2 : Int) := by omega
              clear hor hk1p hk1 hd1 hd2
              go_wp2
              go_round
              case rel => exact ⟨i + 1, n2, _, by omega, by go_num, rfl, (by rw [hd2']), hP'.out.1, hN'.out, hP'.out, hI'.out⟩
              case measure => simp [intOf]; omega
          · have hex : i = 9 ∨ k1 = 0 ∧ nn = 0 := by omega
            have hnew : vd q k1 = (V / 10 ^ (m + i) : Nat) ∧ (k1 = 0 → m + i = Lib.nDigits V) ∧ m + i ≤ 10 * n ∧ V / 10 ^ (m + i) < V / 10 ^ m := text_step HQn.out HQ.out.1 HQ.out.2 HA.out HAP.out HVB.out (by omega) HN.out HI.out hex
            obtain ⟨hn1, hn2, hn3, hn4⟩ := hnew
            have hS' : Hid (Low10 (p ++ s) V (m + i)) := low_app HP.out HS.out
            have N1 := hid hn1; have N2 := hid hn2; have N4 := hid hn4
            have hss := hS'.out.1
            clear hn1 hn2 hn4 HN HP HI
            by_cases hi9 : i < 9
            · obtain ⟨rfl, rfl⟩ : k1 = 0 ∧ nn = 0 := by omega
              have b1 : decide ((i : Int) < 9) = true := by simp; omega
              clear hex hgo
              go_wp2
              go_roundw
              case rel => exact ⟨a1, _, c1, m + i, q, p ++ s, rfl, rfl, by omega, hn3, hss, BE2.out, HRq.out, HDq.out, HFq.out, N1.out, hS'.out, N2.out⟩
              case measure =>
                have e1 := hss
                show V / 10 ^ (p ++ s).size < V / 10 ^ s.size
                rw [hss, hsz]; exact N4.out
            · obtain rfl : i = 9 := by omega
              clear hex hgo hi9
              go_wp2
              go_roundw
              case rel => exact ⟨a1, _, c1, m + 9, q, p ++ s, rfl, rfl, by omega, hn3, hss, BE2.out, HRq.out, HDq.out, HFq.out, N1.out, hS'.out, N2.out⟩
              case measure =>
                have e1 := hss
                show V / 10 ^ (p ++ s).size < V / 10 ^ s.size
                rw [hss, hsz]; exact N4.out
      · obtain rfl : k2 = 1 := by omega
        obtain ⟨b2, o2, rfl⟩ := HR2.out.at (by omega)
        have hcr : w2.cell? ⟨b2, o2, none⟩ = some (.int .u64 (Rn : Int)) := HR2.out.cell (j := 0) (by omega)
        have k2b : decide ((0 : Int) < ((1 : Nat) : Int)) = true := by simp
        clear hk2z hx2 hk2
        go_wp2
        go_loop [6, 7, 8] (fun c d t => ∃ (i nn : Nat) (p : ByteArray), i ≤ 9 ∧ t = .int .i64 i ∧ d = .string p ∧ c = .int .u64 nn ∧ p.size = i ∧ Hid (nn = Rn / 10 ^ i) ∧ Hid (Sb p i (fun k => dg8 V (m + i - 1 - k))) ∧ Hid (i = 0 ∨ 0 < Qn ∨ 0 < Rn / 10 ^ (i - 1))) (fun _ _ t => 9 - (intOf t).toNat)
        case atStart => exact ⟨0, Rn, ⟨#[]⟩, by omega, rfl, rfl, rfl, rfl, by simp [Hid], sb_nil _, .inl rfl⟩
        case round =>
          obtain ⟨i, nn, p, hi, rfl, rfl, rfl, hpsz, HN, HP, HI⟩ := hrel
          by_cases hgo : i < 9 ∧ (0 < k1 ∨ 0 < nn)
          · obtain ⟨hi9, hor⟩ := hgo
            have b1 : decide ((i : Int) < 9) = true := by simp; omega
            obtain ⟨d, hd⟩ : ∃ d, d = nn % 10 := ⟨_, rfl⟩
            have hd10 : d < 10 := by omega
            have hd1 : (nn : Int) % 10 = (d : Int) := by omega
            obtain ⟨n2, hn2⟩ : ∃ n2, n2 = nn / 10 := ⟨_, rfl⟩
            have hd2 : (nn : Int) / 10 = (n2 : Int) := by omega
            have hnn : nn ≤ 1000000000 := by rw [HN.out]; exact Nat.le_trans (Nat.div_le_self _ _) (by omega)
            have hP' : Hid (Sb ((ByteArray.mk #[48, 49, 50, 51, 52, 53, 54, 55, 56, 57]).extract d (d + 1) ++ p) (i + 1) (fun k => dg8 V (m + (i + 1) - 1 - k))) := by
              refine (HP.out.front hd10).congr (fun k hk => ?_)
              by_cases hk0 : k = 0
              · subst hk0
                rw [if_pos rfl]
                have e1 := dig_low Qn Rn i hi9
                show 48 + d = 48 + V / 10 ^ (m + (i + 1) - 1 - 0) % 10
                rw [show m + (i + 1) - 1 - 0 = m + i by omega, Nat.pow_add, ← Nat.div_div_eq_div_mul, HA.out, e1, hd, HN.out]
              · rw [if_neg hk0]
                show dg8 V _ = dg8 V _
                congr 1; omega
            have hN' : Hid (n2 = Rn / 10 ^ (i + 1)) := by
              show _ = _
              rw [hn2, HN.out, Nat.div_div_eq_div_mul, Nat.pow_succ]
            have hI' : Hid (i + 1 = 0 ∨ 0 < Qn ∨ 0 < Rn / 10 ^ (i + 1 - 1)) := by
              right
              rcases hor with h | h
              · exact .inl (HQ.out.1 h)
              · right; rw [HN.out] at h; exact h
            clear hd HP HN HI hn2
            have hsum : d + 1 - d + i ≤ 9223372036854775807 := by omega
            by_cases hk1p : 0 < k1
            · have b2 : decide ((0 : Int) < (k1 : Int)) = true := by simp; omega
              clear hor
              go_wp2
              go_round
              case rel => exact ⟨i + 1, n2, _, by omega, by go_num, rfl, rfl, hP'.out.1, hN'.out, hP'.out, hI'.out⟩
              case measure => simp [intOf]; omega
            · obtain rfl : k1 = 0 := by omega
              obtain ⟨n9, rfl⟩ : ∃ n9, nn = n9 + 1 := ⟨nn - 1, by omega⟩
              have hd1' : ((n9 : Int) + 1) % 10 = (d : Int) := by omega
              have hd2' : ((n9 : Int) + 1) / 10 = (n2 : Int) := by omega
              clear hor hk1p hk1 hd1 hd2
              go_wp2
              go_round
              case rel => exact ⟨i + 1, n2, _, by omega, by go_num, rfl, (by rw [hd2']), hP'.out.1, hN'.out, hP'.out, hI'.out⟩
              case measure => simp [intOf]; omega
          · have hex : i = 9 ∨ k1 = 0 ∧ nn = 0 := by omega
            have hnew : vd q k1 = (V / 10 ^ (m + i) : Nat) ∧ (k1 = 0 → m + i = Lib.nDigits V) ∧ m + i ≤ 10 * n ∧ V / 10 ^ (m + i) < V / 10 ^ m := text_step HQn.out HQ.out.1 HQ.out.2 HA.out HAP.out HVB.out (by omega) HN.out HI.out hex
            obtain ⟨hn1, hn2, hn3, hn4⟩ := hnew
            have hS' : Hid (Low10 (p ++ s) V (m + i)) := low_app HP.out HS.out
            have N1 := hid hn1; have N2 := hid hn2; have N4 := hid hn4
            have hss := hS'.out.1
            clear hn1 hn2 hn4 HN HP HI
            by_cases hi9 : i < 9
            · obtain ⟨rfl, rfl⟩ : k1 = 0 ∧ nn = 0 := by omega
              have b1 : decide ((i : Int) < 9) = true := by simp; omega
              clear hex hgo
              go_wp2
              go_roundw
              case rel => exact ⟨a1, _, c1, m + i, q, p ++ s, rfl, rfl, by omega, hn3, hss, BE2.out, HRq.out, HDq.out, HFq.out, N1.out, hS'.out, N2.out⟩
              case measure =>
                have e1 := hss
                show V / 10 ^ (p ++ s).size < V / 10 ^ s.size
                rw [hss, hsz]; exact N4.out
            · obtain rfl : i = 9 := by omega
              clear hex hgo hi9
              go_wp2
              go_roundw
              case rel => exact ⟨a1, _, c1, m + 9, q, p ++ s, rfl, rfl, by omega, hn3, hss, BE2.out, HRq.out, HDq.out, HFq.out, N1.out, hS'.out, N2.out⟩
              case measure =>
                have e1 := hss
                show V / 10 ^ (p ++ s).size < V / 10 ^ s.size
                rw [hss, hsz]; exact N4.out
end Go.Proofs.YtbindadjepfkcaaGreatDoor
namespace Go.Proofs.YtbindadjepfkcaaGreatDoor
open Go.RowKit

set_option maxRecDepth 100000 in
set_option maxHeartbeats 2000000 in
/-- Sub: the difference, on digits. -/
theorem rsubO_c (ao bo : Option Addr) (n m ca cb : Nat) (f h : Nat → Int) (w : World) (hn : n ≤ 1048576) (hm : m ≤ 1048576) (hmn : m ≤ n) (hr : Rd .u64 w ao n f) (hs : Rd .u64 w bo m h) (hf : Dg f n) (hh : Dg h m) (hle : vd h m ≤ vd f n) :
    Calls Tryz.prog 107 #[.slice ao n ca, .slice bo m cb] w fun e w' => ∃ ao' k cap' D, e = .returned (.slice ao' k cap') ∧ Below w.heap.size w w' ∧ Rd .u64 w' ao' k D ∧ k ≤ n ∧ Dg D k ∧ Fm D k ∧ (∀ a, ao' = some a → w.heap.size ≤ a.block) ∧ vd D k = vd f n - vd h m := by
  obtain ⟨i0, hi, hz0, hz1, hz2⟩ := info_parts Tryz.infoU64
  have RA := hid hr
  have RB := hid hs
  have DA := hid hf
  have DB := hid hh
  have HLe := hid hle
  clear hr hs hf hh hle
  go_enter Tryz.func107, Tryz.ntmps107
  go_wp2_with (at_make; refine wpList_make_own w rfl (.const (.int .i64 0)) (.tmp 11) 22 rfl w.heap.size 61 i0 (.int .u64 0) 1 Tryz.underlying22 hi hz0 hz1 .i64 .i64 n n rfl rfl (by omega) (by rw [hz2]; omega) (by unfold maxLen; omega) (Nat.le_refl _) ?_; intro w1 hown1 hgr1)
  have hb1 : Below w.heap.size w w1 := (Below.refl _ _).grown hgr1 (Nat.le_refl _) (fun k h => by cases h)
  have HO1 := hid (show Own .u64 61 w1 w.heap.size (.slice (some ⟨w.heap.size, 0, none⟩) 0 n) 0 (fun _ => 0) from hown1)
  clear hown1 hgr1
  go_loopw [5, 6, 15] (fun v c t wr => ∃ (k : Nat) (cc : Int) (D : Nat → Int), k ≤ n ∧ t = .int .i64 k ∧ c = .int .u64 cc ∧ 0 ≤ cc ∧ cc ≤ 1 ∧ Below w.heap.size w wr ∧ Hid (Own .u64 61 wr w.heap.size v k D) ∧ Hid (Dg D k) ∧ Hid (vd D k - cc * pd k = vd f k - vd (ext h m) k)) (fun _ _ t _ => n - (intOf t).toNat)
  case atStart => exact ⟨0, 0, fun _ => 0, by omega, rfl, rfl, by omega, by omega, hb1, HO1.out, fun j hj => by omega, by simp [Hid, vd, pd]⟩
  case round =>
    clear hb1 HO1
    obtain ⟨k, cc, D, hk, rfl, rfl, c0, c1, hbel, HO, HDg, HV⟩ := hrel
    by_cases hlt : k < n
    · have hrA := RA.out
      obtain ⟨b, o, rfl⟩ := hrA.at (by omega)
      obtain ⟨x, hx⟩ : ∃ x, f k = x := ⟨_, rfl⟩
      have hcell : wr.cell? ⟨b, o + k, none⟩ = some (.int .u64 x) := by rw [← hx]; exact (hrA.below hbel (Nat.le_refl _)).cell hlt
      obtain ⟨x0, x1⟩ := DA.out k hlt
      rw [hx] at x0 x1
      have HX := hid hx
      clear hx hrA
      by_cases hlt2 : k < m
      · have hrB := RB.out
        obtain ⟨b', o', rfl⟩ := hrB.at (by omega)
        obtain ⟨y, hy⟩ : ∃ y, h k = y := ⟨_, rfl⟩
        have hcelb : wr.cell? ⟨b', o' + k, none⟩ = some (.int .u64 y) := by rw [← hy]; exact (hrB.below hbel (Nat.le_refl _)).cell hlt2
        obtain ⟨y0, y1⟩ := DB.out k hlt2
        rw [hy] at y0 y1
        have HY := hid (show ext h m k = y from (ext_in _ _ _ hlt2).trans hy)
        clear hy hrB
        by_cases hxy : x < cc + y
        · go_wp2_with (at_builtin; refine wpList_append_own_list .u64 _ rfl (.tmp 36) (.tmp 40) 22 rfl w.heap.size 61 8 Tryz.underlying22 Tryz.infoU64 _ k D rfl (Own.alloc HO.out _) wr.heap.size 0 1 1 (fun _ => x + 4294967296 - (cc + y)) rfl (rd_new1 wr _ _) ?c1 ?c2 ?c3 ?_)
          case c1 => unfold maxLen; omega
          case c2 => omega
          case c3 => have := hbel.size; simp; omega
          intro v' w' hown hgr
          have hbel2 : Below w.heap.size w w' := (hbel.alloc hbel.size _).grown hgr (by have := hbel.size; simp; omega) (fun k h => (Own.ge HO.out k h))
          have HO2 := hid hown
          clear hown hgr HO
          go_wp2
          go_roundw
          case rel => exact ⟨k + 1, 1, _, by omega, by go_num, rfl, by omega, by omega, hbel2, HO2.out, dg_cat1 HDg.out (by omega), dborrow_step HV.out HX.out HY.out (by omega)⟩
          case measure => simp [intOf]; omega
        · go_wp2_with (at_builtin; refine wpList_append_own_list .u64 _ rfl (.tmp 36) (.tmp 40) 22 rfl w.heap.size 61 8 Tryz.underlying22 Tryz.infoU64 _ k D rfl (Own.alloc HO.out _) wr.heap.size 0 1 1 (fun _ => x - (cc + y)) rfl (rd_new1 wr _ _) ?c1 ?c2 ?c3 ?_)
          case c1 => unfold maxLen; omega
          case c2 => omega
          case c3 => have := hbel.size; simp; omega
          intro v' w' hown hgr
          have hbel2 : Below w.heap.size w w' := (hbel.alloc hbel.size _).grown hgr (by have := hbel.size; simp; omega) (fun k h => (Own.ge HO.out k h))
          have HO2 := hid hown
          clear hown hgr HO
          go_wp2
          go_roundw
          case rel => exact ⟨k + 1, 0, _, by omega, by go_num, rfl, by omega, by omega, hbel2, HO2.out, dg_cat1 HDg.out (by omega), dborrow_step HV.out HX.out HY.out (by omega)⟩
          case measure => simp [intOf]; omega
      · have HY := hid (show ext h m k = 0 from ext_out _ _ _ (by omega))
        by_cases hxy : x < cc
        · go_wp2_with (at_builtin; refine wpList_append_own_list .u64 _ rfl (.tmp 36) (.tmp 40) 22 rfl w.heap.size 61 8 Tryz.underlying22 Tryz.infoU64 _ k D rfl (Own.alloc HO.out _) wr.heap.size 0 1 1 (fun _ => x + 4294967296 - cc) rfl (rd_new1 wr _ _) ?c1 ?c2 ?c3 ?_)
          case c1 => unfold maxLen; omega
          case c2 => omega
          case c3 => have := hbel.size; simp; omega
          intro v' w' hown hgr
          have hbel2 : Below w.heap.size w w' := (hbel.alloc hbel.size _).grown hgr (by have := hbel.size; simp; omega) (fun k h => (Own.ge HO.out k h))
          have HO2 := hid hown
          clear hown hgr HO
          go_wp2
          go_roundw
          case rel => exact ⟨k + 1, 1, _, by omega, by go_num, rfl, by omega, by omega, hbel2, HO2.out, dg_cat1 HDg.out (by omega), dborrow_step HV.out HX.out HY.out (by omega)⟩
          case measure => simp [intOf]; omega
        · go_wp2_with (at_builtin; refine wpList_append_own_list .u64 _ rfl (.tmp 36) (.tmp 40) 22 rfl w.heap.size 61 8 Tryz.underlying22 Tryz.infoU64 _ k D rfl (Own.alloc HO.out _) wr.heap.size 0 1 1 (fun _ => x - cc) rfl (rd_new1 wr _ _) ?c1 ?c2 ?c3 ?_)
          case c1 => unfold maxLen; omega
          case c2 => omega
          case c3 => have := hbel.size; simp; omega
          intro v' w' hown hgr
          have hbel2 : Below w.heap.size w w' := (hbel.alloc hbel.size _).grown hgr (by have := hbel.size; simp; omega) (fun k h => (Own.ge HO.out k h))
          have HO2 := hid hown
          clear hown hgr HO
          go_wp2
          go_roundw
          case rel => exact ⟨k + 1, 0, _, by omega, by go_num, rfl, by omega, by omega, hbel2, HO2.out, dg_cat1 HDg.out (by omega), dborrow_step HV.out HX.out HY.out (by omega)⟩
          case measure => simp [intOf]; omega
    · have hkn : k = n := by omega
      subst hkn
      obtain ⟨ao', cap', hv, hcc, hnn, hml, hrd, hlt3⟩ := HO.out.shape
      unfold maxLen at hml
      subst hv
      have HLT := hid hlt3
      clear HO hlt3
      go_wp2_with fail
      refine (low_c ao' k cap' D wr hcc hml hrd hnn).mono ?_
      rintro e w2 ⟨rfl, m', hm1, hz, hfm, rfl⟩
      have HZ := hid hz
      have HFM := hid hfm
      clear hz hfm
      go_wp2
      go_ret
      refine ⟨ao', m', cap', _, rfl, hbel, hrd.take hm1, by omega, HDg.out.mono hm1, HFM.out, fun a ha => (HLT.out a ha).1, ?_⟩
      have hv := HV.out
      have h1 := vd_lt HDg.out
      have h2 := HLe.out
      rw [vd_ext_list _ _ _ hmn] at hv
      rw [trim_vald hm1 HZ.out]
      by_cases hc : cc = 0
      · subst hc; simpa using hv
      · obtain rfl : cc = 1 := by omega
        omega

/-- The same, without the place. -/
theorem rsub_c (ao bo : Option Addr) (n m ca cb : Nat) (f h : Nat → Int) (w : World) (hn : n ≤ 1048576) (hm : m ≤ 1048576) (hmn : m ≤ n) (hr : Rd .u64 w ao n f) (hs : Rd .u64 w bo m h) (hf : Dg f n) (hh : Dg h m) (hle : vd h m ≤ vd f n) :
    Calls Tryz.prog 107 #[.slice ao n ca, .slice bo m cb] w fun e w' => ∃ ao' k cap' D, e = .returned (.slice ao' k cap') ∧ Below w.heap.size w w' ∧ Rd .u64 w' ao' k D ∧ k ≤ n ∧ Dg D k ∧ Fm D k ∧ vd D k = vd f n - vd h m :=
  (rsubO_c ao bo n m ca cb f h w hn hm hmn hr hs hf hh hle).mono (fun _ _ ⟨a, k, c, D, h1, h2, h3, h4, h5, h6, _, h7⟩ => ⟨a, k, c, D, h1, h2, h3, h4, h5, h6, h7⟩)

end Go.Proofs.YtbindadjepfkcaaGreatDoor
namespace Go.Proofs.YtbindadjepfkcaaGreatDoor
open Go.RowKit

/-- A number that the reference answers: it can be read; in form. -/
structure Ans (C : Nat) (w w' : World) (ao : Option Addr) (n : Nat) (f : Nat → Int) : Prop where
  bel : Below w.heap.size w w'
  rd : Rd .u64 w' ao n f
  le : n ≤ C
  lm : Lm f n
  fm : Fm f n

theorem and_fm {f h : Nat → Int} {n m : Nat} (e : (fmB f n && fmB h m) = true) : Fm f n ∧ Fm h m := by
  simp only [Bool.and_eq_true] at e
  exact ⟨fm_of e.1, fm_of e.2⟩
theorem nand_fm {f h : Nat → Int} {n m : Nat} (e : (fmB f n && fmB h m) = false) : ¬ (Fm f n ∧ Fm h m) := fun ⟨a, b⟩ => by
  rw [(fmB_iff f n).2 a, (fmB_iff h m).2 b] at e
  cases e

end Go.Proofs.YtbindadjepfkcaaGreatDoor
namespace Go.Proofs.YtbindadjepfkcaaGreatDoor
open Go.RowKit

/-- Block g: its first k numbers are D. -/
def PB (w : World) (g cap k : Nat) (D : Nat → Int) : Prop := ∃ arr : Array Value, w.heap[g]? = some (.cells arr 61 (0, 0)) ∧ arr.size = cap ∧ ∀ j, j < k → arr[j]? = some (.int .u64 (D j))
theorem PB.cell {w g cap k D} (h : PB w g cap k D) {j : Nat} (hj : j < k) : w.cell? ⟨g, j, none⟩ = some (.int .u64 (D j)) := by
  obtain ⟨arr, h1, h2, h3⟩ := h
  simp [World.cell?, h1, h3 j hj]
theorem PB.frozen {w g cap k D} (h : PB w g cap k D) (j : Nat) : w.frozen? ⟨g, j, none⟩ = false := by
  obtain ⟨arr, h1, h2, h3⟩ := h
  simp [World.frozen?, h1]
theorem PB.lt {w g cap k D} (h : PB w g cap k D) : g < w.heap.size := by
  obtain ⟨arr, h1, h2, h3⟩ := h
  exact (Array.getElem?_eq_some_iff.1 h1).1
theorem PB.set {w g cap k D} (h : PB w g cap k D) (i : Nat) (v : Int) : PB (w.setCell ⟨g, i, none⟩ (.int .u64 v)) g cap k (upd D i v) := by
  obtain ⟨arr, h1, h2, h3⟩ := h
  refine ⟨arr.setIfInBounds i (.int .u64 v), ?_, by simpa using h2, fun j hj => ?_⟩
  · simp [World.setCell, Array.getElem?_modify, h1]
  · have hlt : j < arr.size := (Array.getElem?_eq_some_iff.1 (h3 j hj)).1
    by_cases hji : j = i
    · subst hji; simp [upd, hlt]
    · rw [Array.getElem?_setIfInBounds, if_neg (by omega), h3 j hj]; simp [upd, hji]
theorem Own.pb {w base v k D} (h : Own .u64 61 w base v k D) : (v = .slice none 0 0 ∧ k = 0) ∨ ∃ g cap, v = .slice (some ⟨g, 0, none⟩) k cap ∧ base ≤ g ∧ k ≤ cap ∧ cap ≤ maxLen ∧ PB w g cap k D := by
  obtain ⟨h1, h2⟩ := h
  rcases h2 with ⟨rfl, rfl⟩ | ⟨g, cap, cur, rfl, hb, hg, hn, hm, hs, ht⟩
  · exact .inl ⟨rfl, rfl⟩
  · refine .inr ⟨g, cap, rfl, hb, hn, hm, cur, hg, by omega, fun j hj => ?_⟩
    have e1 : (lst .u64 D k)[j]? = cur.toList[j]? := by
      rw [← ht, List.getElem?_take, if_pos (by omega)]
    rw [lst_get .u64 D k j hj] at e1
    simpa using e1.symm
theorem PB.own {w g cap k D} (h : PB w g cap k D) {base : Nat} (hb : base ≤ g) (hk : k ≤ cap) (hm : cap ≤ maxLen) : Own .u64 61 w base (.slice (some ⟨g, 0, none⟩) k cap) k D := by
  obtain ⟨arr, h1, h2, h3⟩ := h
  refine ⟨by rw [lst_length]; omega, .inr ⟨g, cap, arr, rfl, hb, h1, hk, hm, by omega, ?_⟩⟩
  apply List.ext_getElem?
  intro j
  by_cases hj : j < k
  · rw [List.getElem?_take, if_pos (by omega), lst_get _ _ _ _ hj]; simpa using h3 j hj
  · rw [List.getElem?_eq_none (by simp; omega), List.getElem?_eq_none (by rw [lst_length]; omega)]

/-- Ten times a number and a digit: one round. -/
theorem ten_step {D D' : Nat → Int} {j : Nat} {cc x t : Int} (hv : vd D' j + cc * pd j = 10 * vd D j + x) (ht : t = cc + 10 * D j) :
    vd (upd D' j (t % 4294967296)) (j + 1) + (t / 4294967296) * pd (j + 1) = 10 * vd D (j + 1) + x := by
  have e1 : vd (upd D' j (t % 4294967296)) j = vd D' j := vd_congr (fun i hi => upd_other _ _ _ _ (by omega))
  rw [vd_succ, e1, upd_same, vd_succ, pd_succ]
  have e2 := Int.mul_ediv_add_emod t 4294967296
  have e3 : t * pd j = (4294967296 * (t / 4294967296) + t % 4294967296) * pd j := by rw [e2]
  rw [ht] at e3
  rw [← ht] at e3
  grind
theorem fm_top {D : Nat → Int} {k : Nat} (hd : Dg D k) (hv : k = 0 ∨ pd (k - 1) ≤ vd D k) : Fm D k := by
  by_cases h0 : k = 0
  · exact .inl h0
  · right
    intro hz
    obtain ⟨m, rfl⟩ : ∃ m, k = m + 1 := ⟨k - 1, by omega⟩
    have h1 := vd_lt (hd.mono (m := m) (by omega))
    simp only [Nat.add_sub_cancel] at hz hv
    rw [vd_succ, hz] at hv
    omega

/-- What the reference's Read leaves. -/
def RAns (w w' : World) (ao : Option Addr) (k : Nat) (D : Nat → Int) (L : Nat) (b : Nat → Nat) (R : Bool) : Prop :=
  Below w.heap.size w w' ∧ Rd .u64 w' ao k D ∧ k ≤ L ∧ Dg D k ∧ Fm D k ∧ (R = true → vd D k = (dn b L : Nat)) ∧ (∀ a, ao = some a → w.heap.size ≤ a.block)
theorem RAns.no (w : World) (L : Nat) (b : Nat → Nat) : RAns w w none 0 (fun _ => 0) L b false :=
  ⟨Below.refl _ _, Rd.zero, by omega, fun j hj => by omega, .inl rfl, (fun h => by cases h), fun a h => by cases h⟩

set_option maxRecDepth 100000 in
set_option maxHeartbeats 8000000 in
theorem rread_c (s : ByteArray) (L : Nat) (b : Nat → Nat) (w : World) (hs : Sb s L b) (hL : L ≤ 1048576) :
    Calls Tryz.prog 135 #[.string s] w fun e w' => ∃ ao k cap D, e = .returned (.tuple #[.slice ao k cap, .bool (numB b L)]) ∧ RAns w w' ao k D L b (numB b L) := by
  have HSb := hid hs
  obtain ⟨rfl, hb⟩ := hs
  have HB := hid hb
  clear hb
  obtain ⟨R, hR⟩ : ∃ R, numB b s.size = R := ⟨_, rfl⟩
  rw [hR]
  have HRe := hid hR
  clear hR
  by_cases h0 : s.size = 0
  · have hf : R = false := by rw [← HRe.out]; exact numB_false (fun h => by have := h.2.1; omega)
    subst hf
    go_enter Tryz.func135, Tryz.ntmps135
    go_wp2
    go_ret2
    first | exact ⟨_, _, _, fun _ => 0, rfl, RAns.no _ _ _⟩ | exact ⟨_, _, ⟨_, rfl⟩, ⟨_, RAns.no _ _ _⟩⟩
  obtain ⟨x, hx⟩ : ∃ x, b 0 = x := ⟨_, rfl⟩
  have hc : (s[0]'(by omega)).toNat = x := by rw [HB.out 0 (by omega), hx]
  have HX := hid hx
  have z0 : ((s.size : Int) == 0) = false := beq_eq_false_iff_ne.2 (by omega)
  clear hx
  by_cases hlead : 1 < s.size ∧ x = 48
  · obtain ⟨hl1, hl2⟩ := hlead
    have hf : R = false := by
      rw [← HRe.out]
      refine numB_false (fun h => ?_)
      rcases h.2.2 with h1 | h1
      · omega
      · rw [HX.out] at h1; exact h1 hl2
    subst hf
    subst hl2
    have b1 : decide ((1 : Int) < (s.size : Int)) = true := by simp; omega
    go_enter Tryz.func135, Tryz.ntmps135
    go_wp2
    go_ret2
    first | exact ⟨_, _, _, fun _ => 0, rfl, RAns.no _ _ _⟩ | exact ⟨_, _, ⟨_, rfl⟩, ⟨_, RAns.no _ _ _⟩⟩
  have hnl : s.size = 1 ∨ x ≠ 48 := by
    by_cases h1 : s.size = 1
    · exact .inl h1
    · right; intro h2; exact hlead ⟨by omega, h2⟩
  have HNL := hid hnl
  clear hnl
  go_enter Tryz.func135, Tryz.ntmps135
  go_upto_region 1 with fail
  go_cut [21] from 9 to 20 (fun v wx => v = .bool false ∧ wx = w)
  case first =>
    by_cases hl1 : 1 < s.size
    · have b1 : decide ((1 : Int) < (s.size : Int)) = true := by simp; omega
      have hx48 : ((x : Int) == 48) = false := by have := HNL.out; simp; omega
      clear hlead
      go_wp2
      go_meet
      exact ⟨rfl, rfl⟩
    · have b1 : decide ((1 : Int) < (s.size : Int)) = false := by simp; omega
      clear hlead
      go_wp2
      go_meet
      exact ⟨rfl, rfl⟩
  case rest =>
  obtain ⟨rfl, rfl⟩ := hcut
  clear hlead hc z0
  go_wp2
  go_loop [5] (fun t => ∃ (k : Nat), k ≤ s.size ∧ t = .int .i64 k ∧ Hid (Dig b k)) (fun t => s.size - (intOf t).toNat)
  case atStart => exact ⟨0, by omega, rfl, fun j hj => by omega⟩
  case round =>
    obtain ⟨k, hk, rfl, HD⟩ := hrel
    by_cases hlt : k < s.size
    · obtain ⟨y, hy⟩ : ∃ y, b k = y := ⟨_, rfl⟩
      have hcy : (s[k]'hlt).toNat = y := by rw [HB.out k hlt, hy]
      have HY := hid hy
      clear hy
      by_cases h1 : y < 48
      · have h1b : decide ((y : Int) < 48) = true := by simp; omega
        have hf : R = false := by rw [← HRe.out]; exact numB_false (fun h => by have := h.1 k hlt; rw [HY.out] at this; omega)
        subst hf
        go_wp2
        go_ret2
        first | exact ⟨_, _, _, fun _ => 0, rfl, RAns.no _ _ _⟩ | exact ⟨_, _, ⟨_, rfl⟩, ⟨_, RAns.no _ _ _⟩⟩
      · have h1b : decide ((y : Int) < 48) = false := by simp; omega
        by_cases h2 : 57 < y
        · have h2b : decide ((57 : Int) < y) = true := by simp; omega
          have hf : R = false := by rw [← HRe.out]; exact numB_false (fun h => by have := h.1 k hlt; rw [HY.out] at this; omega)
          subst hf
          go_wp2
          go_ret2
          first | exact ⟨_, _, _, fun _ => 0, rfl, RAns.no _ _ _⟩ | exact ⟨_, _, ⟨_, rfl⟩, ⟨_, RAns.no _ _ _⟩⟩
        · have h2b : decide ((57 : Int) < y) = false := by simp; omega
          go_wp2
          go_round
          case rel =>
            refine ⟨k + 1, by omega, by go_num, fun j hj => ?_⟩
            by_cases hjk : j = k
            · subst hjk; rw [HY.out]; omega
            · exact HD.out j (by omega)
          case measure => simp [intOf]; omega
    · obtain rfl : k = s.size := by omega
      have hf : R = true := by
        rw [← HRe.out]
        refine numB_true ⟨HD.out, by omega, ?_⟩
        rw [HX.out]; exact HNL.out
      subst hf
      clear hlt hk
      go_wp2
      go_loopw [4, 6] (fun v t wr => ∃ (i k : Nat) (D : Nat → Int), i ≤ s.size ∧ t = .int .i64 i ∧ k ≤ i ∧ Below wc.heap.size wc wr ∧ Hid (Own .u64 61 wr wc.heap.size v k D) ∧ Hid (Dg D k) ∧ Hid (Fm D k) ∧ Hid (vd D k = (dn b i : Nat))) (fun _ t _ => s.size - (intOf t).toNat)
      case atStart => exact ⟨0, 0, fun _ => 0, by omega, rfl, by omega, Below.refl _ _, own_nil _ _ _ _ _, fun j hj => by omega, .inl rfl, rfl⟩
      case round =>
        obtain ⟨i, k, D, hi, rfl, hki, hbel, HO, HDg, HFm, HV⟩ := hrel
        obtain ⟨ao, cap, hv, hkc, hnil, hcm, hrd, hlt3⟩ := HO.out.shape
        unfold maxLen at hcm
        subst hv
        have HRd := hid hrd; have HNew := hid (fun a ha => (hlt3 a ha).1)
        clear hrd hlt3 hnil
        by_cases hlt : i < s.size
        · obtain ⟨y, hy⟩ : ∃ y, b i = y := ⟨_, rfl⟩
          have hcy : (s[i]'hlt).toNat = y := by rw [HB.out i hlt, hy]
          have hy9 := HD.out i hlt
          rw [hy] at hy9
          obtain ⟨xd, hxd⟩ : ∃ xd, y - 48 = xd := ⟨_, rfl⟩
          have hsub : ((y : Int) - 48) % 256 = (xd : Int) := by omega
          have hx9 : xd ≤ 9 := by omega
          have HXD := hid (show b i - 48 = xd by rw [hy]; exact hxd)
          clear hy hxd hy9 HRd
          go_wp2
          go_loopw [7, 51] (fun c t wr' => ∃ (j : Nat) (cc : Int) (D' : Nat → Int), j ≤ k ∧ t = .int .i64 j ∧ c = .int .u64 cc ∧ 0 ≤ cc ∧ cc ≤ 9 ∧ Below wc.heap.size wc wr' ∧ Hid (Own .u64 61 wr' wc.heap.size (.slice ao k cap) k D') ∧ Hid (Dg D' k) ∧ Hid (∀ l, j ≤ l → D' l = D l) ∧ Hid (vd D' j + cc * pd j = 10 * vd D j + xd)) (fun _ t _ => k - (intOf t).toNat)
          case atStart => exact ⟨0, xd, D, by omega, rfl, rfl, by omega, by omega, hbel, HO.out, HDg.out, fun _ _ => rfl, by simp [Hid, vd, pd]⟩
          case round =>
            obtain ⟨j, cc, D', hj, rfl, rfl, c0, c1, hbel', HO', HDg', HE', HV'⟩ := hrel
            by_cases hjk : j < k
            · rcases HO'.out.pb with ⟨_, hk0⟩ | ⟨g, cap', hvv, hbg, hkc', hcm', hpb⟩
              · omega
              · obtain ⟨rfl, rfl⟩ : ao = some ⟨g, 0, none⟩ ∧ cap = cap' := by simpa using hvv
                obtain ⟨xj, hxj⟩ : ∃ xj, D' j = xj := ⟨_, rfl⟩
                have hcell : wr.cell? ⟨g, j, none⟩ = some (.int .u64 xj) := by rw [← hxj]; exact hpb.cell hjk
                have hfz := hpb.frozen j
                have hxb := HDg'.out j hjk
                rw [hxj] at hxb
                obtain ⟨xb0, xb1⟩ := hxb
                have HPB := hid hpb
                have hDj : D j = xj := by rw [← HE'.out j (Nat.le_refl _), hxj]
                have HST := hid (ten_step (t := cc + 10 * xj) HV'.out (by rw [hDj]))
                have HPB2 := hid (hpb.set j ((cc + 10 * xj) % 4294967296))
                clear hpb hxj hvv hDj
                go_wp2
                go_roundw
                case rel =>
                  refine ⟨j + 1, _, upd D' j ((cc + 10 * xj) % 4294967296), by omega, by go_num, rfl, by omega, by omega, below_only hbel' ((Only.refl _ _).setCell _ _ _) hbg hbel'.size, HPB2.out.own hbg hkc' hcm', HDg'.out.upd (by omega), ?_, HST.out⟩
                  intro l hl
                  rw [upd_other _ _ _ _ (by omega)]
                  exact HE'.out l (by omega)
                case measure => simp [intOf]; omega
            · obtain rfl : j = k := by omega
              have hvalI : 10 * vd D j + xd = ((dn b (i + 1) : Nat) : Int) := by
                show _ = ((dn b i * 10 + (b i - 48) : Nat) : Int)
                rw [HXD.out, HV.out]; omega
              have HVI := hid hvalI
              clear hvalI
              by_cases hcc : 0 < cc
              · have hccb : decide ((0 : Int) < cc) = true := by simp; omega
                go_wp2_with (at_builtin; refine wpList_append_own_list .u64 _ rfl (.tmp 71) (.tmp 73) 22 rfl wc.heap.size 61 8 Tryz.underlying22 Tryz.infoU64 _ j D' rfl (Own.alloc HO'.out _) wr.heap.size 0 1 1 (fun _ => cc) rfl (rd_new1 wr _ _) ?c1 ?c2 ?c3 ?_)
                case c1 => unfold maxLen; omega
                case c2 => omega
                case c3 => have := hbel'.size; simp; omega
                intro v' w' hown hgr
                have hbel2 : Below wc.heap.size wc w' := (hbel'.alloc hbel'.size _).grown hgr (by have := hbel'.size; simp; omega) (fun k h => (Own.ge HO'.out k h))
                have HO2 := hid hown
                clear hown hgr
                go_wp2
                go_roundw
                case rel =>
                  refine ⟨i + 1, j + 1, _, by omega, by go_num, by omega, hbel2, HO2.out, dg_cat1 HDg'.out (by omega), .inr ?_, ?_⟩
                  · rw [Nat.add_sub_cancel, cat_out (Nat.le_refl _)]; omega
                  · show _ = _
                    rw [vd_cat1, HV'.out, HVI.out]
                case measure => simp [intOf]; omega
              · obtain rfl : cc = 0 := by omega
                have hv2 := HV'.out
                rw [show (0 : Int) * pd j = 0 by omega, Int.add_zero] at hv2
                have hfm2 : Fm D' j := fm_top HDg'.out (by
                  by_cases hj0 : j = 0
                  · exact .inl hj0
                  · right
                    have := vd_form_ge HDg.out HFm.out (by omega)
                    have := pd_pos (j - 1)
                    omega)
                have HV2 := hid hv2; have HF2 := hid hfm2
                clear hv2 hfm2
                go_wp2
                go_roundw
                case rel => exact ⟨i + 1, j, D', by omega, by go_num, by omega, hbel', HO'.out, HDg'.out, HF2.out, by show _ = _; rw [HV2.out, HVI.out]⟩
                case measure => simp [intOf]; omega
        · obtain rfl : i = s.size := by omega
          go_wp2
          go_ret2
          exact ⟨ao, k, cap, D, rfl, ⟨hbel, HRd.out, by omega, HDg.out, HFm.out, (fun _ => HV.out), HNew.out⟩⟩
end Go.Proofs.YtbindadjepfkcaaGreatDoor
namespace Go.Proofs.YtbindadjepfkcaaGreatDoor
open Go.RowKit

set_option maxRecDepth 100000 in
set_option maxHeartbeats 4000000 in
theorem join_c (c : Nat) : ∀ (s : ByteArray) (L : Nat) (b : Nat → Nat) (bo : Option Addr) (cb : Nat) (w : World) (_ : Sb s L b) (_ : Dig b L) (_ : L ≤ 19 * 2 ^ c) (_ : Bas w bo c) (_ : c ≤ cb) (_ : cb ≤ maxLen) (_ : bo = none → cb = 0) (_ : c ≤ 30),
    Calls Tryz.prog 178 #[.string s, .slice bo c cb] w fun e w' => ∃ ao k cap f, e = .returned (.slice ao k cap) ∧ Res (4 * 2 ^ c) w w' ao k cap f ∧ vf f k = (dn b L : Nat) := by
  induction c with
  | zero =>
    intro s L b bo cb w hs hd hL hbas hcb hcbm hnil hc30
    have C1 := hid (readPiece_c s L b w hs (by simpa using hL) hd)
    have hlt : dn b L < 10 ^ 19 := Nat.lt_of_lt_of_le (dn_lt hd) (Nat.pow_le_pow_right (by decide) (by simpa using hL))
    obtain ⟨V, hV⟩ : ∃ V, dn b L = V := ⟨_, rfl⟩
    rw [hV] at C1 hlt ⊢
    have hlt2 : (V : Int) < 18446744073709551616 := by omega
    clear hs hd hL hbas hV hlt hnil
    go_enter Tryz.func178, Tryz.ntmps178
    go_wp2_with fail
    refine C1.out.mono ?_
    rintro e w1 ⟨rfl, rfl⟩
    go_wp2_with fail
    refine (fromWord_c V _ (by omega) hlt2).mono ?_
    rintro e w1 ⟨ao, k, cap, f, rfl, hres, hv⟩
    have HV := hid hv
    clear hv
    go_wp2
    go_ret
    exact ⟨ao, k, cap, f, rfl, hres.mono (by omega), HV.out⟩
  | succ c ih =>
    intro s L b bo cb w hs hd hL hbas hcb hcbm hnil hc30
    have IH := hid ih
    obtain ⟨p, hp⟩ : ∃ p, p = 2 ^ c := ⟨_, rfl⟩
    have hp0 : 1 ≤ p := by rw [hp]; exact Nat.pow_pos (by decide)
    have hp1 : p ≤ 1073741824 := by rw [hp]; exact Nat.pow_le_pow_right (n := 2) (by decide) (show c ≤ 30 by omega)
    have e4 : 4 * 2 ^ (c + 1) = 8 * p := by rw [Nat.pow_succ, ← hp]; omega
    rw [e4]
    have hL2 : L ≤ 2 * (19 * p) := by rw [Nat.pow_succ, ← hp] at hL; omega
    obtain ⟨K, hK⟩ : ∃ K, K = 19 * p := ⟨_, rfl⟩
    have hsh : IntKind.i64.wrap (19 * 2 ^ c) = (K : Int) := by
      have : (19 * 2 ^ c : Int) = K := by rw [hK, hp]; simp
      rw [this, IntKind.wrap_i64]; omega
    obtain ⟨cut, hcut⟩ : ∃ cut, cut = L - K := ⟨_, rfl⟩
    have hmax : max ((L : Int) - (K : Int)) 0 = (cut : Int) := by omega
    have hcL : cut ≤ L := by omega
    have hval : (dn b L : Int) = (dn b cut : Int) * tens c + (dn (bsh b cut) (L - cut) : Int) := by
      have e1 := dn_split b cut (L - cut)
      rw [show cut + (L - cut) = L by omega] at e1
      rw [e1]
      by_cases h : K ≤ L
      · have : L - cut = 19 * 2 ^ c := by rw [← hp]; omega
        rw [this]; unfold tens; simp
      · have : cut = 0 := by omega
        rw [this]; simp [dn]
    have hs1 := hs.take hcL
    have hs2 := hs.drop hcL
    obtain ⟨gb, u, arr, fr, hbo, hg, hcu, hnum⟩ := hbas c (by omega)
    subst hbo
    have hB0 := hbas.take (show c ≤ c + 1 by omega)
    have hsz := hs.1
    subst hsz
    have C1 := hid (fun W (h : Bas W (some ⟨gb, 0, none⟩) c) => ih (s.extract 0 cut) cut b (some ⟨gb, 0, none⟩) cb W hs1 (hd.mono hcL) (by rw [← hp]; omega) h (by omega) hcbm hnil (by omega))
    have C2 := hid (fun W (h : Bas W (some ⟨gb, 0, none⟩) c) => ih (s.extract cut s.size) (s.size - cut) (bsh b cut) (some ⟨gb, 0, none⟩) cb W hs2 (hd.bsh (by omega)) (by rw [← hp]; omega) h (by omega) hcbm hnil (by omega))
    have HVal := hid hval; have BAS := hid hbas; have BAS0 := hid hB0; have HPe := hid hp
    rw [← hp] at C1 C2
    have q1 : (cut : Int) ≤ (s.size : Int) := by omega
    have q2 : (c : Int) ≤ (cb : Int) := by omega
    have q3 : (c : Int) ≤ ((c + 1 : Nat) : Int) := by omega
    unfold maxLen at hcbm
    have hK2 : K ≤ 20401094656 := by omega
    have hL3 : s.size ≤ 40802189312 := by omega
    clear hs hd hL hbas hval hs1 hs2 hg hcu hnum hB0 hp e4 hK hcut hnil ih IH hL2 arr fr u
    go_enter Tryz.func178, Tryz.ntmps178
    go_upto_region 5 with fail
    go_cut [7] from 23 to 29 (fun v wx => ∃ ao k cap f, v = .slice ao k cap ∧ Res (4 * p) w wx ao k cap f ∧ vf f k = (dn b cut : Nat))
    case first =>
      go_region_with (go_at_call 178; refine (C1.out _ (by exact BAS0.out)).mono ?_; rintro e wl ⟨a1, k1, c1, f1, rfl, hres1, hv1⟩; have HV1 := hid hv1; clear hv1)
      all_goals
        go_wp2_with fail
        go_meet
        have B := hres1.bel
        exact ⟨a1, k1, c1, f1, rfl, hres1.ahead (by repeat (first | exact Below.refl _ _ | refine below_drewN ?_ _ | refine Below.drew ?_)), HV1.out⟩
    case rest =>
    rename World => w1
    obtain ⟨a1, k1, c1, f1, rfl, hres1, hv1⟩ := hcut
    have RES1 := hid hres1; have HV1 := hid hv1
    have BAS1 := hid (BAS.out.below hres1.bel); have BAS01 := hid (BAS0.out.below hres1.bel)
    clear hres1 hv1 BAS BAS0 C1
    go_upto_region 6 with fail
    go_cut [8] from 30 to 36 (fun v wx => ∃ ao k cap f, v = .slice ao k cap ∧ Res (4 * p) w1 wx ao k cap f ∧ vf f k = (dn (bsh b cut) (s.size - cut) : Nat))
    case first =>
      go_region_with (go_at_call 178; refine (C2.out _ (by exact BAS01.out)).mono ?_; rintro e wl ⟨a2, k2, c2, f2, rfl, hres2, hv2⟩; have HV2 := hid hv2; clear hv2)
      all_goals
        go_wp2_with fail
        go_meet
        have B := hres2.bel
        exact ⟨a2, k2, c2, f2, rfl, hres2.ahead (by repeat (first | exact Below.refl _ _ | refine below_drewN ?_ _ | refine Below.drew ?_)), HV2.out⟩
    case rest =>
    rename World => w2
    obtain ⟨a2, k2, c2, f2, rfl, hres2, hv2⟩ := hcut
    have BAS2 := hid (BAS1.out.below hres2.bel)
    obtain ⟨gb', u, arr, fr, hbo, hg, hcu, hnum⟩ := BAS2.out c (by omega)
    cases hbo
    obtain ⟨a3, n3, c3, f3, rfl, hr3, ht3, hl3, hf3, hn3, hvf3, hcap3, hcapm3⟩ := hnum
    rw [← HPe.out] at hn3
    have l1 := RES1.out.ncap
    have l2 := hres2.ncap
    have R1 := hid (RES1.out.rd.below hres2.bel (Nat.le_refl _)); have L1 := hid RES1.out.lm; have BE1 := hid RES1.out.bel; have BE2 := hid hres2.bel
    have R2 := hid hres2.rd; have L2 := hid hres2.lm; have HV2 := hid hv2; have R3 := hid hr3; have L3 := hid hl3; have HV3 := hid hvf3
    clear hres2 hv2 hr3 ht3 hl3 hf3 hvf3 hg BAS1 BAS01 BAS2 C2 RES1
    go_wp2_with fail
    refine (mul_c a1 a3 k1 n3 c1 c3 f1 f3 w2 (by omega) (by omega) l1.1 hcap3 (by omega) hcapm3 R1.out R3.out L1.out L3.out).mono ?_
    rintro e w3 ⟨a4, k4, c4, f4, rfl, hres4, hv4⟩
    have HV4 := hid hv4; have l4 := hres4.ncap
    have R4 := hid hres4.rd; have L4 := hid hres4.lm; have R22 := hid (R2.out.below hres4.bel (Nat.le_refl _)); have BE4 := hid hres4.bel
    clear hv4 hres4 R2 R1 R3
    go_wp2_with fail
    refine (add_c a4 a2 k4 k2 c4 c2 f4 f2 w3 (by omega) (by omega) R4.out R22.out L4.out L2.out).mono ?_
    rintro e w4 ⟨a5, k5, c5, f5, rfl, hres5, hv5⟩
    have HV5 := hid hv5
    clear hv5
    go_wp2
    go_ret
    have z1 := BE1.out.size; have z2 := BE2.out.size
    refine ⟨a5, k5, c5, f5, rfl, (hres5.ahead (BE1.out.trans ((BE2.out.mono z1).trans (BE4.out.mono (by omega))))).mono (by omega), ?_⟩
    rw [HV5.out, HV4.out, HV1.out, HV2.out, HV3.out, HVal.out]
end Go.Proofs.YtbindadjepfkcaaGreatDoor
namespace Go.Proofs.YtbindadjepfkcaaGreatDoor
open Go.RowKit

set_option maxHeartbeats 1000000 in
theorem fromDigits_c (s : ByteArray) (L : Nat) (b : Nat → Nat) (w : World) (hs : Sb s L b) (hd : Dig b L) (hL : L ≤ 1048576) :
    Calls Tryz.prog 152 #[.string s] w fun e w' => ∃ ao k cap f, e = .returned (.slice ao k cap) ∧ Res 4294967296 w w' ao k cap f ∧ vf f k = (dn b L : Nat) := by
  obtain ⟨p, hp⟩ : ∃ p, p = (L + 18) / 19 := ⟨_, rfl⟩
  obtain ⟨c, hc⟩ : ∃ c, c = lev p := ⟨_, rfl⟩
  have hpc : p ≤ 2 ^ c := by rw [hc]; exact lev_ge p (by omega)
  have hc30 : c ≤ 16 := by rw [hc]; exact lev_le p 16 (by omega) (by omega)
  have hLc : L ≤ 19 * 2 ^ c := by omega
  have h2c : 2 ^ c ≤ 65536 := Nat.pow_le_pow_right (n := 2) (by omega) hc30
  have C1 := hid (levels_c p p w rfl (by omega))
  rw [← hc] at C1
  have C2 := hid (bases_c c w (by omega))
  have C3 := hid (fun bo cb W h1 h2 h3 h4 => join_c c s L b bo cb W hs hd hLc h1 h2 h3 h4 (by omega))
  have hsz := hs.1
  subst hsz
  have d1 : Int.tdiv ((s.size : Int) + 18) 19 = (p : Int) := by rw [Int.tdiv_eq_ediv_of_nonneg (by omega)]; omega
  have d2 : ((s.size : Int) + 18) / 19 = (p : Int) := by omega
  have d3 : Int.tdiv ((s.size : Int) + 19 - 1) 19 = (p : Int) := by rw [Int.tdiv_eq_ediv_of_nonneg (by omega)]; omega
  have d4 : ((s.size : Int) + 19 - 1) / 19 = (p : Int) := by omega
  have H2c := hid h2c
  clear hs hd hLc hpc hp hc h2c
  go_enter Tryz.func152, Tryz.ntmps152
  go_wp2_with fail
  refine C1.out.mono ?_
  rintro e w1 ⟨rfl, rfl⟩
  go_wp2_with fail
  refine C2.out.mono ?_
  rintro e w1 ⟨bo, cap, rfl, hbel, hcc, hcm, hnil, hbas⟩
  have HBel := hid hbel
  have C4 := hid (C3.out bo cap w1 hbas hcc hcm hnil)
  clear hbas hnil C3 C2 C1 hbel
  go_wp2_with fail
  refine C4.out.mono ?_
  rintro e w2 ⟨a1, k1, c1, f1, rfl, hres, hv⟩
  have HV := hid hv
  clear hv
  go_wp2
  go_ret
  exact ⟨a1, k1, c1, f1, rfl, (hres.ahead HBel.out).mono (by have := H2c.out; omega), HV.out⟩

/-- What Read answers. -/
def ReadAns (L : Nat) (b : Nat → Nat) (k : Nat) (f : Nat → Int) (er : Int) : Prop :=
  1048576 < L ∧ er = 2 ∧ k = 0 ∨ L ≤ 1048576 ∧ ¬ IsNum b L ∧ er = 11 ∧ k = 0 ∨ L ≤ 1048576 ∧ IsNum b L ∧ er = 0 ∧ vf f k = (dn b L : Nat)

set_option maxHeartbeats 1000000 in
theorem Read_c (s : ByteArray) (L : Nat) (b : Nat → Nat) (w : World) (hs : Sb s L b) :
    Calls Tryz.prog 133 #[.string s] w fun e w' => ∃ ao k cap f er, e = .returned (.tuple #[.slice ao k cap, .int .i64 er]) ∧ Res 4294967296 w w' ao k cap f ∧ ReadAns L b k f er := by
  have hsz := hs.1
  subst hsz
  by_cases hL : 1048576 < s.size
  · have HLt := hid hL
    go_enter Tryz.func133, Tryz.ntmps133
    go_wp2
    go_ret2
    exact ⟨_, _, _, fun _ => 0, _, rfl, Res.nil _ (Below.refl _ _), .inl ⟨HLt.out, rfl, rfl⟩⟩
  · have c1 := isNumber_c s s.size b w hs (by omega)
    cases hn : numB b s.size
    · rw [hn] at c1
      have C1 := hid c1
      have HN := hid (show ¬ IsNum b s.size from fun h => by rw [numB_true h] at hn; cases hn)
      clear c1 hn hs
      go_enter Tryz.func133, Tryz.ntmps133
      go_wp2_with fail
      refine C1.out.mono ?_
      rintro e w1 ⟨rfl, rfl⟩
      go_wp2
      go_ret2
      exact ⟨_, _, _, fun _ => 0, _, rfl, Res.nil _ (Below.refl _ _), .inr (.inl ⟨by omega, HN.out, rfl, rfl⟩)⟩
    · rw [hn] at c1
      have C1 := hid c1
      have HY := hid ((numB_iff b s.size).1 hn)
      have C2 := hid (fromDigits_c s s.size b w hs HY.out.1 (by omega))
      clear c1 hn hs
      go_enter Tryz.func133, Tryz.ntmps133
      go_wp2_with fail
      refine C1.out.mono ?_
      rintro e w1 ⟨rfl, rfl⟩
      go_wp2_with fail
      refine C2.out.mono ?_
      rintro e w2 ⟨a1, k1, c1, f1, rfl, hres, hv⟩
      have HV := hid hv
      clear hv
      go_wp2
      go_ret2
      exact ⟨_, _, _, f1, _, rfl, hres, .inr (.inr ⟨by omega, HY.out, rfl, HV.out⟩)⟩
end Go.Proofs.YtbindadjepfkcaaGreatDoor
namespace Go.Proofs.YtbindadjepfkcaaGreatDoor
open Go.RowKit

theorem divOk_all {X Y : Int} (hY : 0 < Y) : DivOk X Y := by
  intro ao bo n m ca cb f h' w hn hm hr hs hf hh ff fh hX hY'
  have h2 : m ≠ 0 := fun h0 => by subst h0; simp [vf] at hY'; omega
  exact divMod_c ao bo n m ca cb f h' w hn hm hr hs hf hh ff fh (by omega)
theorem tens_pos (j : Nat) : 0 < tens j := Int.pow_pos (by decide)

/-- The text of a number, or none. -/
def txt (f : Nat → Int) (n : Nat) : ByteArray := if fmB f n then ⟨(Lib.decDigits (vf f n).toNat).toArray⟩ else ⟨#[]⟩
def ter (f : Nat → Int) (n : Nat) : Int := if fmB f n then 0 else 3

set_option maxHeartbeats 1000000 in
theorem TextAll_u (ao : Option Addr) (n ca : Nat) (f : Nat → Int) (w : World) (hn : n ≤ 4096) (hr : Rd .u64 w ao n f) (hf : Lm f n) (htab : Tab w) (hca : n ≤ ca) (hcam : ca ≤ 9223372036854775807) :
    Calls Tryz.prog 98 #[.slice ao n ca] w fun e w' => e = .returned (.tuple #[.string (txt f n), .int .i64 (ter f n)]) ∧ Below w.heap.size w w' := by
  cases hfa : fmB f n
  · have c1 := form_c ao n ca f w (by omega) hr
    rw [hfa] at c1
    have C1 := hid c1
    have E1 := hid (show txt f n = ⟨#[]⟩ by simp [txt, hfa]); have E2 := hid (show ter f n = 3 by simp [ter, hfa])
    rw [E1.out, E2.out]
    clear c1 hfa hr hf htab
    go_enter Tryz.func98, Tryz.ntmps98
    go_wp2_with fail
    refine C1.out.mono ?_
    rintro e w1 ⟨rfl, rfl⟩
    go_wp2
    go_ret2
    exact ⟨rfl, Below.refl _ _⟩
  · have h0 := vf_nonneg hf
    have := Text_u ao n ca _ f (vf f n).toNat w hn hr hf (fm_of hfa) (by omega) htab rfl hca hcam (fun j _ X _ _ => divOk_all (tens_pos j))
    rw [show txt f n = ⟨(Lib.decDigits (vf f n).toNat).toArray⟩ by simp [txt, hfa], show ter f n = 0 by simp [ter, hfa]]
    exact this

theorem TextAll_c (ao : Option Addr) (n ca : Nat) (f : Nat → Int) (w : World) (hn : n ≤ 4096) (hr : Rd .u64 w ao n f) (_ : Tg w ao) (hf : Lm f n) (htab : Tab w) (hca : n ≤ ca) (hcam : ca ≤ 9223372036854775807) :
    Calls Tryz.prog 98 #[.slice ao n ca] w fun e w' => e = .returned (.tuple #[.string (txt f n), .int .i64 (ter f n)]) ∧ Below w.heap.size w w' := TextAll_u ao n ca f w hn hr hf htab hca hcam

end Go.Proofs.YtbindadjepfkcaaGreatDoor
namespace Go.Proofs.YtbindadjepfkcaaGreatDoor
open Go.RowKit

theorem Tg.kept {w w' : World} {ao : Option Addr} (h : Tg w ao) (hb : Below w.heap.size w w') : Tg w' ao := fun a ha => by
  obtain ⟨arr, fr, he⟩ := h a ha
  exact ⟨arr, fr, (hb.block _ (Array.getElem?_eq_some_iff.1 he).1).trans he⟩
theorem ndigits_le : ∀ (k V : Nat), V < 10 ^ (k + 1) → Lib.nDigits V ≤ k + 1
  | 0, V, h => by rw [Lib.nDigits_small (by simpa using h)]; omega
  | k + 1, V, h => by
    by_cases hu : V < 10
    · rw [Lib.nDigits_small hu]; omega
    · rw [Lib.nDigits_big hu]
      have := ndigits_le k (V / 10) (by rw [Nat.div_lt_iff_lt_mul (by decide)]; rw [Nat.pow_succ] at h; exact h)
      omega
theorem pw_ten (n : Nat) : pw n ≤ (10 : Int) ^ (20 * n) := by
  induction n with
  | zero => decide
  | succ n ih =>
    rw [pw_succ, show 20 * (n + 1) = 20 * n + 20 by omega, Int.pow_add]
    have h1 : (18446744073709551616 : Int) ≤ 10 ^ 20 := by decide
    have h2 := pw_pos n
    calc (18446744073709551616 : Int) * pw n ≤ 10 ^ 20 * pw n := Int.mul_le_mul_of_nonneg_right h1 (Int.le_of_lt h2)
      _ ≤ 10 ^ 20 * 10 ^ (20 * n) := Int.mul_le_mul_of_nonneg_left ih (by decide)
      _ = 10 ^ (20 * n) * 10 ^ 20 := Int.mul_comm _ _
theorem txt_size {f : Nat → Int} {n : Nat} (hf : Lm f n) (hn : n ≤ 4096) : (txt f n).size ≤ 81921 := by
  unfold txt
  split
  · show ((Lib.decDigits (vf f n).toNat).toArray).size ≤ _
    rw [List.size_toArray, Lib.decDigits_length]
    have h1 := vf_lt hf; have h0 := vf_nonneg hf; have h2 := pw_ten n
    have h3 : (vf f n).toNat < 10 ^ (20 * n + 1) := by
      have e : ((10 ^ (20 * n) : Nat) : Int) = (10 : Int) ^ (20 * n) := by simp
      have h4 : (vf f n).toNat < 10 ^ (20 * n) := by omega
      exact Nat.lt_of_lt_of_le h4 (Nat.pow_le_pow_right (by decide) (by omega))
    have := ndigits_le (20 * n) _ h3
    omega
  · show 0 ≤ _; omega
/-- The text of a whole number, or none. -/
def wtxt (s : Bool) (f : Nat → Int) (n : Nat) : ByteArray := if wfB s f n then (if s then ⟨#[45]⟩ ++ txt f n else txt f n) else ⟨#[]⟩
def wter (s : Bool) (f : Nat → Int) (n : Nat) : Int := if wfB s f n then 0 else 3

set_option maxHeartbeats 1000000 in
theorem wText_u (s : Bool) (ao : Option Addr) (n ca : Nat) (f : Nat → Int) (w : World) (hn : n ≤ 4096) (hr : Rd .u64 w ao n f) (hf : Lm f n) (htab : Tab w) (hca : n ≤ ca) (hcam : ca ≤ 9223372036854775807) :
    Calls Tryz.prog 97 #[.agg #[.bool s, .slice ao n ca]] w fun e w' => e = .returned (.tuple #[.string (wtxt s f n), .int .i64 (wter s f n)]) ∧ Below w.heap.size w w' := by
  have HR := hid hr; have HF := hid hf; have HTab := hid htab
  clear hr hf htab
  cases hfa : wfB s f n
  · rw [show wtxt s f n = ⟨#[]⟩ by simp [wtxt, hfa], show wter s f n = 3 by simp [wter, hfa]]
    have c1 := fun W hr' => wForm_c s ao n ca f W (by omega) hr'
    rw [hfa] at c1
    have C1 := hid c1
    clear c1 hfa
    go_enter Tryz.func97, Tryz.ntmps97
    go_wp2_with fail
    refine (C1.out _ (HR.out.alloc _)).mono ?_
    rintro e w1 ⟨rfl, hb⟩
    obtain ⟨_, _, hw⟩ := boxes1 hb
    have HW := hid hw
    clear hb hw
    go_wp2
    go_ret2
    exact ⟨rfl, HW.out⟩
  · have hfm : fmB f n = true := (fmB_iff f n).2 (fm_of_wfB hfa)
    have HE := hid (show wtxt s f n = (if s then ⟨#[45]⟩ ++ txt f n else txt f n) by simp [wtxt, hfa])
    rw [show wter s f n = 0 by simp [wter, hfa]]
    have HT0 := hid (show ter f n = 0 by simp [ter, hfm])
    have c1 := fun W hr' => wForm_c s ao n ca f W (by omega) hr'
    rw [hfa] at c1
    have C1 := hid c1
    clear c1 hfa hfm
    have hsz := txt_size HF.out hn
    cases s
    all_goals
      go_enter Tryz.func97, Tryz.ntmps97
      go_wp2_with fail
      refine (C1.out _ (HR.out.alloc _)).mono ?_
      rintro e w1 ⟨rfl, hb⟩
      obtain ⟨⟨hz, x0, x1⟩, xf, hw⟩ := boxes1 hb
      have HW := hid hw
      clear hb hw
      have ct := TextAll_u ao n ca f w1 hn (HR.out.below HW.out (Nat.le_refl _)) HF.out (HTab.out.below HW.out HTab.out.lt) hca hcam
      rw [HT0.out] at ct
      have CT := hid ct
      clear ct
      go_wp2_with fail
      refine CT.out.mono ?_
      rintro e w2 ⟨rfl, hb⟩
      obtain ⟨⟨hz, x0, x1⟩, xf, hw⟩ := keep1 hb ⟨hz, x0, x1⟩ xf HW.out
      have HW2 := hid hw
      clear hb hw
      go_wp2
      go_ret2
      exact ⟨by rw [HE.out]; rfl, HW2.out⟩
theorem wText_c (s : Bool) (ao : Option Addr) (n ca : Nat) (f : Nat → Int) (w : World) (hn : n ≤ 4096) (hr : Rd .u64 w ao n f) (_ : Tg w ao) (hf : Lm f n) (htab : Tab w) (hca : n ≤ ca) (hcam : ca ≤ 9223372036854775807) :
    Calls Tryz.prog 97 #[.agg #[.bool s, .slice ao n ca]] w fun e w' => e = .returned (.tuple #[.string (wtxt s f n), .int .i64 (wter s f n)]) ∧ Below w.heap.size w w' := wText_u s ao n ca f w hn hr hf htab hca hcam
end Go.Proofs.YtbindadjepfkcaaGreatDoor
namespace Go.Proofs.YtbindadjepfkcaaGreatDoor
open Go.RowKit

/-- Does a text begin with a minus? -/
def mnB (s : ByteArray) : Bool := (s.extract 0 1).toList == [45]
theorem mnB_iff {s : ByteArray} {L : Nat} {b : Nat → Nat} (hs : Sb s L b) : mnB s = true ↔ 0 < L ∧ b 0 = 45 := by
  unfold mnB
  rw [ByteArray.toList_eq, beq_iff_eq]
  by_cases hL : 0 < L
  · have hsb := hs.take (c := 1) (by omega)
    generalize s.extract 0 1 = t at hsb
    obtain ⟨⟨l⟩⟩ := t
    obtain ⟨h1, h2⟩ := hsb
    match l, h1, h2 with
    | [x], _, h2 =>
      have h4 : x.toNat = b 0 := h2 0 (show 0 < [x].length by simp)
      constructor
      · intro h
        have hx : x = 45 := by simpa using h
        exact ⟨hL, by rw [← h4, hx]; rfl⟩
      · rintro ⟨_, h5⟩
        have hx : x = 45 := UInt8.toNat_inj.1 (by rw [h4, h5]; rfl)
        rw [hx]
    | [], h1, _ => exact absurd h1 (by decide)
    | _ :: _ :: _, h1, _ => have := h1; simp [ByteArray.size] at this
  · constructor
    · intro h
      have h5 : (s.extract 0 1).size = 1 := by show (s.extract 0 1).data.size = 1; rw [← Array.length_toList, h]; rfl
      rw [ByteArray.size_extract, hs.1] at h5
      omega
    · intro h; exact absurd h.1 hL
theorem sb_self (s : ByteArray) : Sb s s.size (fun k => if h : k < s.size then (s[k]'h).toNat else 0) := ⟨rfl, fun k h => by simp [h]⟩
theorem mnB_short {s : ByteArray} (h : ¬ 1 ≤ s.size) : mnB s = false := by
  cases hb : mnB s with
  | false => rfl
  | true => exact absurd ((mnB_iff (sb_self s)).1 hb).1 (by omega)
theorem hasMinus_c (s : ByteArray) (w : World) (hm : s.size ≤ 9223372036854775807) :
    Calls Tryz.prog 177 #[.string s, .string ⟨#[45]⟩] w fun e w' => e = .returned (.bool (mnB s)) ∧ w' = w := by
  by_cases h : 1 ≤ s.size
  · have hd : decide ((1 : Int) ≤ (s.size : Int)) = true := by simp; omega
    go_enter Tryz.func177, Tryz.ntmps177
    go_wp2
    go_ret
    exact ⟨rfl, rfl⟩
  · have hd : decide ((1 : Int) ≤ (s.size : Int)) = false := by simp; omega
    have hf : mnB s = false := mnB_short h
    rw [hf]
    clear hf
    go_enter Tryz.func177, Tryz.ntmps177
    go_wp2
    go_ret
    exact ⟨rfl, rfl⟩
theorem cutLite_yes (s : ByteArray) (w : World) (hm : s.size ≤ 9223372036854775807) (hy : mnB s = true) (hs : 1 ≤ s.size) :
    Calls Tryz.prog 150 #[.string s, .string ⟨#[45]⟩] w fun e w' => e = .returned (.tuple #[.string (s.extract 1 s.size), .bool true]) ∧ w' = w := by
  have c := hasMinus_c s w hm
  rw [hy] at c
  have C := hid c
  clear c hy
  go_enter Tryz.func150, Tryz.ntmps150
  go_wp2_with fail
  refine C.out.mono ?_
  rintro e w1 ⟨rfl, rfl⟩
  go_wp2
  go_ret2
  exact ⟨rfl, rfl⟩
theorem cutLite_no (s : ByteArray) (w : World) (hm : s.size ≤ 9223372036854775807) (hy : mnB s = false) :
    Calls Tryz.prog 150 #[.string s, .string ⟨#[45]⟩] w fun e w' => e = .returned (.tuple #[.string s, .bool false]) ∧ w' = w := by
  have c := hasMinus_c s w hm
  rw [hy] at c
  have C := hid c
  clear c hy
  go_enter Tryz.func150, Tryz.ntmps150
  go_wp2_with fail
  refine C.out.mono ?_
  rintro e w1 ⟨rfl, rfl⟩
  go_wp2
  go_ret2
  exact ⟨rfl, rfl⟩
theorem cut_yes (s : ByteArray) (w : World) (hm : s.size ≤ 9223372036854775807) (hy : mnB s = true) (hs : 1 ≤ s.size) :
    Calls Tryz.prog 132 #[.string s, .string ⟨#[45]⟩] w fun e w' => e = .returned (.tuple #[.string (s.extract 1 s.size), .bool true]) ∧ w' = w := by
  have C := hid (cutLite_yes s w hm hy hs)
  clear hy
  go_enter Tryz.func132, Tryz.ntmps132
  go_wp2_with fail
  refine C.out.mono ?_
  rintro e w1 ⟨rfl, rfl⟩
  go_wp2
  go_ret2
  exact ⟨rfl, rfl⟩
theorem cut_no (s : ByteArray) (w : World) (hm : s.size ≤ 9223372036854775807) (hy : mnB s = false) :
    Calls Tryz.prog 132 #[.string s, .string ⟨#[45]⟩] w fun e w' => e = .returned (.tuple #[.string s, .bool false]) ∧ w' = w := by
  have C := hid (cutLite_no s w hm hy)
  clear hy
  go_enter Tryz.func132, Tryz.ntmps132
  go_wp2_with fail
  refine C.out.mono ?_
  rintro e w1 ⟨rfl, rfl⟩
  go_wp2
  go_ret2
  exact ⟨rfl, rfl⟩


/-- What Read answers: neg, digits, the number. -/
def WRead (L : Nat) (b : Nat → Nat) (r : Bool) (k : Nat) (f : Nat → Int) (er : Int) : Prop :=
  1048576 < L ∧ er = 2 ∧ k = 0 ∨ L ≤ 1048576 ∧ 0 < L ∧ b 0 = 45 ∧ IsNum (bsh b 1) (L - 1) ∧ 0 < dn (bsh b 1) (L - 1) ∧ er = 0 ∧ wv r f k = - (dn (bsh b 1) (L - 1) : Nat) ∨
  L ≤ 1048576 ∧ ¬ (0 < L ∧ b 0 = 45) ∧ IsNum b L ∧ er = 0 ∧ wv r f k = (dn b L : Nat) ∨
  L ≤ 1048576 ∧ ¬ (0 < L ∧ b 0 = 45 ∧ IsNum (bsh b 1) (L - 1) ∧ 0 < dn (bsh b 1) (L - 1)) ∧ ¬ (¬ (0 < L ∧ b 0 = 45) ∧ IsNum b L) ∧ er = 11 ∧ k = 0

set_option maxHeartbeats 1000000 in
theorem wRead_c (s : ByteArray) (L : Nat) (b : Nat → Nat) (w : World) (hs : Sb s L b) (hL : L ≤ 9223372036854775807) :
    Calls Tryz.prog 101 #[.string s] w fun e w' => ∃ r ao k cap f er, e = .returned (.tuple #[.agg #[.bool r, .slice ao k cap], .int .i64 er]) ∧ WRes 4294967296 w w' r ao k cap f ∧ WRead L b r k f er := by
  have hsz := hs.1
  subst hsz
  by_cases hlong : 1048576 < s.size
  · have hd : decide ((1048576 : Int) < (s.size : Int)) = true := by simp; omega
    go_enter Tryz.func101, Tryz.ntmps101
    go_wp2
    exact bodyPost_ret (v := .tuple #[.agg #[.bool false, .slice none 0 0], .int .i64 2]) (by simp [results, Tryz.results101, go_sem]) rfl ⟨false, none, 0, 0, fun _ => 0, 2, rfl, ⟨Asw.none _ (below_alloc (Below.refl _ _) _), fun h => by cases h⟩, .inl ⟨hlong, rfl, rfl⟩⟩
  · have hd : decide ((1048576 : Int) < (s.size : Int)) = false := by simp; omega
    cases hmn : mnB s
    · have hnm : Hid (¬ (0 < s.size ∧ b 0 = 45)) := by
        show ¬ (0 < s.size ∧ b 0 = 45)
        rw [← mnB_iff hs, hmn]; simp
      have CC := hid (fun W => cut_no s W hL hmn)
      have HSb := hid hs
      clear hmn hs
      go_enter Tryz.func101, Tryz.ntmps101
      go_wp2_with fail
      refine (CC.out _).mono ?_
      rintro e w1 ⟨rfl, rfl⟩
      go_wp2_with fail
      refine (Read_c s s.size b _ HSb.out).mono ?_
      rintro e w2 ⟨xa, k, cx, g, er, rfl, hres, hans⟩
      obtain ⟨⟨hz, z0, z1⟩, zf, hw⟩ := boxes1 hres.bel
      have HRes := hid hres; have HW := hid hw; have HAns := hid hans; have hk : k ≤ 4294967296 := hres.le
      clear hres hw hans
      rcases HAns.out with ⟨h1, _⟩ | ⟨_, h1, h2, h3⟩ | ⟨_, h1, h2, h3⟩
      · exact absurd h1 hlong
      · subst h2; subst h3
        have HN := hid h1
        clear h1 HAns
        go_wp2
        refine bodyPost_ret (v := .tuple #[.agg #[.bool false, .slice none 0 0], .int .i64 11]) (by simp [results, Tryz.results101, go_sem, z0, z1]) rfl ⟨false, none, 0, 0, fun _ => 0, 11, rfl, ⟨Asw.none _ ?_, fun h => by cases h⟩, .inr (.inr (.inr ⟨by omega, fun x => hnm.out ⟨x.1, x.2.1⟩, fun x => HN.out x.2, rfl, rfl⟩))⟩
        exact below_turned HW.out HW.out.size (((Turned.refl _ (w.heap.size + 1) _).set (by first | omega | (simp; done) | (simp; omega)) (by first | omega | (simp; done) | (simp; omega)) _).set (by first | omega | (simp; done) | (simp; omega)) (by first | omega | (simp; done) | (simp; omega)) _) (Nat.le_refl _)
      · subst h2
        have HN := hid h1; have HV := hid h3
        clear h1 h3 HAns
        go_wp2_with fail
        refine (signed_c _ xa k cx _ (by omega)).mono ?_
        rintro e w3 ⟨r, o, rfl, hsg, rfl⟩
        go_wp2
        refine bodyPost_ret (v := .tuple #[.agg #[.bool r, .slice xa k cx], .int .i64 0]) (by simp [results, Tryz.results101, go_sem, z0, z1, hz]) rfl ⟨r, xa, k, cx, g, 0, rfl, WRes.mk' hsg ((HRes.out.turned (below_alloc (Below.refl _ _) _) ?_).ans (by omega)), .inr (.inr (.inl ⟨by omega, hnm.out, HN.out, rfl, ?_⟩))⟩
        · exact (((Turned.refl _ _ _).set (by first | omega | (simp; done) | (simp; omega)) (by first | omega | (simp; done) | (simp; omega)) _).set (by first | omega | (simp; done) | (simp; omega)) (by first | omega | (simp; done) | (simp; omega)) _).alloc _
        · rw [wv_sign hsg, wv_false]; exact HV.out
    · obtain ⟨h0, h1⟩ := (mnB_iff hs).1 hmn
      have hmi : Hid (0 < s.size ∧ b 0 = 45) := ⟨h0, h1⟩
      have CC := hid (fun W => cut_yes s W hL hmn h0)
      have HSb := hid (hs.drop (c := 1) h0)
      clear hmn hs h1
      go_enter Tryz.func101, Tryz.ntmps101
      go_wp2_with fail
      refine (CC.out _).mono ?_
      rintro e w1 ⟨rfl, rfl⟩
      go_wp2_with fail
      refine (Read_c (s.extract 1 s.size) (s.size - 1) (bsh b 1) _ HSb.out).mono ?_
      rintro e w2 ⟨xa, k, cx, g, er, rfl, hres, hans⟩
      obtain ⟨⟨hz, z0, z1⟩, zf, hw⟩ := boxes1 hres.bel
      have HRes := hid hres; have HW := hid hw; have HAns := hid hans; have hk : k ≤ 4294967296 := hres.le
      clear hres hw hans
      rcases HAns.out with ⟨h1, _⟩ | ⟨_, h1, h2, h3⟩ | ⟨_, h1, h2, h3⟩
      · omega
      · subst h2; subst h3
        have HN := hid h1
        clear h1 HAns
        go_wp2
        refine bodyPost_ret (v := .tuple #[.agg #[.bool false, .slice none 0 0], .int .i64 11]) (by simp [results, Tryz.results101, go_sem, z0, z1]) rfl ⟨false, none, 0, 0, fun _ => 0, 11, rfl, ⟨Asw.none _ ?_, fun h => by cases h⟩, .inr (.inr (.inr ⟨by omega, fun x => HN.out x.2.2.1, fun x => x.1 hmi.out, rfl, rfl⟩))⟩
        exact below_turned HW.out HW.out.size (((Turned.refl _ (w.heap.size + 1) _).set (by first | omega | (simp; done) | (simp; omega)) (by first | omega | (simp; done) | (simp; omega)) _).set (by first | omega | (simp; done) | (simp; omega)) (by first | omega | (simp; done) | (simp; omega)) _) (Nat.le_refl _)
      · subst h2
        have HN := hid h1; have HV := hid h3
        clear h1 h3 HAns
        by_cases hk0 : k = 0
        · subst hk0
          have hdn : Hid (dn (bsh b 1) (s.size - 1) = 0) := by
            show dn (bsh b 1) (s.size - 1) = 0
            have := HV.out; simp [vf] at this; omega
          go_wp2
          refine bodyPost_ret (v := .tuple #[.agg #[.bool false, .slice none 0 0], .int .i64 11]) (by simp [results, Tryz.results101, go_sem, z0, z1]) rfl ⟨false, none, 0, 0, fun _ => 0, 11, rfl, ⟨Asw.none _ ?_, fun h => by cases h⟩, .inr (.inr (.inr ⟨by omega, fun x => by have := hdn.out; have := x.2.2.2; omega, fun x => x.1 hmi.out, rfl, rfl⟩))⟩
          exact below_turned HW.out HW.out.size (((Turned.refl _ (w.heap.size + 1) _).set (by first | omega | (simp; done) | (simp; omega)) (by first | omega | (simp; done) | (simp; omega)) _).set (by first | omega | (simp; done) | (simp; omega)) (by first | omega | (simp; done) | (simp; omega)) _) (Nat.le_refl _)
        · have hki : ((k : Int) == 0) = false := by simp; omega
          have hdn : Hid (0 < dn (bsh b 1) (s.size - 1)) := by
            show 0 < dn (bsh b 1) (s.size - 1)
            have := HV.out; have := vf_pos HRes.out.lm HRes.out.fm (show 0 < k by omega); omega
          go_wp2_with fail
          refine (signed_c _ xa k cx _ (by omega)).mono ?_
          rintro e w3 ⟨r, o, rfl, hsg, rfl⟩
          go_wp2
          refine bodyPost_ret (v := .tuple #[.agg #[.bool r, .slice xa k cx], .int .i64 0]) (by simp [results, Tryz.results101, go_sem, z0, z1, hz]) rfl ⟨r, xa, k, cx, g, 0, rfl, WRes.mk' hsg ((HRes.out.turned (below_alloc (Below.refl _ _) _) ?_).ans (by omega)), .inr (.inl ⟨by omega, hmi.out.1, hmi.out.2, HN.out, hdn.out, rfl, ?_⟩)⟩
          · exact (((Turned.refl _ _ _).set (by first | omega | (simp; done) | (simp; omega)) (by first | omega | (simp; done) | (simp; omega)) _).set (by first | omega | (simp; done) | (simp; omega)) (by first | omega | (simp; done) | (simp; omega)) _).alloc _
          · rw [wv_sign hsg, wv_true, HV.out]
end Go.Proofs.YtbindadjepfkcaaGreatDoor
namespace Go.Proofs.YtbindadjepfkcaaGreatDoor
open Go.RowKit

theorem Own.tg {w base ao n cap f} (h : Own .u64 61 w base (.slice ao n cap) n f) : Tg w ao := fun a ha => by
  obtain ⟨h1, h2⟩ := h
  rcases h2 with ⟨hv, _⟩ | ⟨g, cap', cur, hv, hb, hg, hn, hm, hs, ht⟩
  · cases hv; cases ha
  · cases hv; cases ha; exact ⟨_, _, hg⟩
theorem text_63 : Lib.decDigits 9223372036854775808 = [57, 50, 50, 51, 51, 55, 50, 48, 51, 54, 56, 53, 52, 55, 55, 53, 56, 48, 56] := by
  have hn : Lib.nDigits 9223372036854775808 = 19 := Lib.nDigits_unique 18 _ (by decide) (by decide)
  rw [Lib.decDigits_eq, hn]
  decide +kernel
/-- Text of -2^63. -/
theorem wtxt_63 {s : Bool} {f : Nat → Int} {n : Nat} (hf : Lm f n) (hw : wfB s f n = true) (hv : wv s f n = -9223372036854775808) : wtxt s f n = ⟨#[45, 57, 50, 50, 51, 51, 55, 50, 48, 51, 54, 56, 53, 52, 55, 55, 53, 56, 48, 56]⟩ ∧ wter s f n = 0 := by
  have h0 := vf_nonneg hf
  have hfm : fmB f n = true := (fmB_iff f n).2 (fm_of_wfB hw)
  cases s
  · rw [wv_false] at hv; omega
  · rw [wv_true] at hv
    have e : (vf f n).toNat = 9223372036854775808 := by omega
    refine ⟨?_, by simp [wter, hw]⟩
    unfold wtxt txt
    rw [if_pos hw, if_pos rfl, if_pos hfm, e, text_63]
    rfl

theorem kN0 {w : World} {x y : Value} {t : TypeId} : (w.alloc (.cells #[x, y] t)).cell? ⟨w.heap.size, 0, none⟩ = some x := by simp [go_sem]
theorem kN1 {w : World} {x y : Value} {t : TypeId} : (w.alloc (.cells #[x, y] t)).cell? ⟨w.heap.size, 1, none⟩ = some y := by simp [go_sem]
theorem keep2' {w w1 w2 : World} {a0 a1 c0 c1 : Value} (hb : Below w1.heap.size w1 w2) (h : w.heap.size + 1 < w1.heap.size ∧ w1.cell? ⟨w.heap.size, 0, none⟩ = some a0 ∧ w1.cell? ⟨w.heap.size, 1, none⟩ = some a1 ∧ w1.cell? ⟨w.heap.size + 1, 0, none⟩ = some c0 ∧ w1.cell? ⟨w.heap.size + 1, 1, none⟩ = some c1) (hw : Below w.heap.size w w1) :
    (w.heap.size + 1 < w2.heap.size ∧ w2.cell? ⟨w.heap.size, 0, none⟩ = some a0 ∧ w2.cell? ⟨w.heap.size, 1, none⟩ = some a1 ∧ w2.cell? ⟨w.heap.size + 1, 0, none⟩ = some c0 ∧ w2.cell? ⟨w.heap.size + 1, 1, none⟩ = some c1) ∧ Below w.heap.size w w2 := by
  obtain ⟨h1, h2⟩ := bcell hb
  have hz := hb.size
  obtain ⟨z, a, b, e, f⟩ := h
  exact ⟨⟨by omega, (h1 _ _ (by omega)).trans a, (h1 _ _ (by omega)).trans b, (h1 _ _ (by omega)).trans e, (h1 _ _ (by omega)).trans f⟩, hw.trans (hb.mono hw.size)⟩
theorem sb_m12 : Sb ⟨#[45, 49, 50]⟩ 3 (fun k => if k = 0 then 45 else if k = 1 then 49 else 50) := ⟨rfl, fun k h => by
  have hk : k < 3 := h
  rcases (show k = 0 ∨ k = 1 ∨ k = 2 by omega) with rfl | rfl | rfl <;> rfl⟩
theorem read_m12 {r : Bool} {k : Nat} {f : Nat → Int} {er : Int} (h : WRead 3 (fun k => if k = 0 then 45 else if k = 1 then 49 else 50) r k f er) : er = 0 ∧ wv r f k = -12 := by
  have hn : IsNum (bsh (fun k => if k = 0 then 45 else if k = 1 then 49 else 50) 1) (3 - 1) := ⟨(digB_iff _ _).1 (by decide), by decide, .inr (by decide)⟩
  have hd : dn (bsh (fun k => if k = 0 then 45 else if k = 1 then 49 else 50) 1) (3 - 1) = 12 := by decide
  rcases h with ⟨h1, _⟩ | ⟨_, _, _, _, _, h1, h2⟩ | ⟨_, h1, _⟩ | ⟨_, h1, _⟩
  · omega
  · rw [hd] at h2; exact ⟨h1, h2⟩
  · exact absurd ⟨by decide, rfl⟩ h1
  · exact absurd ⟨by decide, rfl, hn, by rw [hd]; decide⟩ h1
theorem kCb {w w' : World} {a : Addr} {v : Value} (hb : Below w.heap.size w w') (h : w.cell? a = some v) : w'.cell? a = some v := (hb.cell (World.block_lt_of_cell? w a h)).trans h
theorem kBa {w0 w : World} {o : Obj} (h : Below w0.heap.size w0 w) : Below w0.heap.size w0 (w.alloc o) := below_alloc h o
theorem kBb {w0 w w' : World} (hb : Below w.heap.size w w') (h : Below w0.heap.size w0 w) : Below w0.heap.size w0 w' := h.trans (hb.mono h.size)
end Go.Proofs.YtbindadjepfkcaaGreatDoor
namespace Go.Proofs.YtbindadjepfkcaaGreatDoor
open Go.RowKit

/-- A box at block b holds this whole number. -/
def Bx (w : World) (b : Nat) (s : Bool) (x : Option Addr) (n c : Nat) : Prop := b < w.heap.size ∧ w.cell? ⟨b, 0, none⟩ = some (.bool s) ∧ w.cell? ⟨b, 1, none⟩ = some (.slice x n c)
theorem Bx.below {w w' : World} {b : Nat} {s x n c} (h : Bx w b s x n c) (hb : Below w.heap.size w w') : Bx w' b s x n c := ⟨Nat.lt_of_lt_of_le h.1 hb.size, kCb hb h.2.1, kCb hb h.2.2⟩
theorem Bx.alloc {w : World} {b : Nat} {s x n c} (h : Bx w b s x n c) (o : Obj) : Bx (w.alloc o) b s x n c := ⟨by have := h.1; simp; omega, kCa h.2.1, kCa h.2.2⟩
theorem Bx.next {w w' : World} {b : Nat} {s x n c} {o : Obj} (h : Bx w b s x n c) (hb : Below (w.alloc o).heap.size (w.alloc o) w') : Bx w' b s x n c := (h.alloc o).below hb
theorem bx_new {w w' : World} {s x n c} {t : TypeId} (hb : Below (w.alloc (.cells #[.bool s, .slice x n c] t)).heap.size (w.alloc (.cells #[.bool s, .slice x n c] t)) w') : Bx w' w.heap.size s x n c :=
  ⟨by have := hb.size; simp at this; omega, kCb hb kN0, kCb hb kN1⟩
/-- A whole number in form that can be read. -/
structure Wn (w : World) (s : Bool) (x : Option Addr) (n c : Nat) (f : Nat → Int) (v : Int) : Prop where
  rd : Rd .u64 w x n f
  lm : Lm f n
  wf : wfB s f n = true
  cap : n ≤ c ∧ c ≤ 9223372036854775807
  nil : x = none → n = 0 ∧ c = 0
  val : wv s f n = v
theorem Wn.below {w w' : World} {s x n c f v} (h : Wn w s x n c f v) (hb : Below w.heap.size w w') : Wn w' s x n c f v := ⟨h.rd.below hb (Nat.le_refl _), h.lm, h.wf, h.cap, h.nil, h.val⟩
theorem Wn.alloc {w : World} {s x n c f v} (h : Wn w s x n c f v) (o : Obj) : Wn (w.alloc o) s x n c f v := ⟨h.rd.alloc o, h.lm, h.wf, h.cap, h.nil, h.val⟩
theorem Wn.next {w w' : World} {s x n c f v} {o : Obj} (h : Wn w s x n c f v) (hb : Below (w.alloc o).heap.size (w.alloc o) w') : Wn w' s x n c f v := (h.alloc o).below hb
theorem WRes.wn {C w w' s x n c f v} (h : WRes C w w' s x n c f) (hv : wv s f n = v) : Wn w' s x n c f v := ⟨h.res.rd, h.res.lm, h.wfB, h.res.ncap, h.res.nil', hv⟩
theorem WAns.ok {P : Prop} {v : Int} {r k f er} (h : WAns P v r k f er) (hp : P) : er = 0 ∧ wv r f k = v := by
  rcases h with ⟨_, h1, h2⟩ | ⟨h1, _⟩
  · exact ⟨h1, h2⟩
  · exact absurd hp h1
/-- Two numbers' calls, both in form. -/
theorem add_n {w : World} {s t x y n m c d f g u v} (ha : Wn w s x n c f u) (hb : Wn w t y m d g v) (hn : n ≤ 4096) (hm : m ≤ 4096) :
    Calls Tryz.prog 121 #[.agg #[.bool s, .slice x n c], .agg #[.bool t, .slice y m d]] w fun e w' => ∃ r z k e' h, e = .returned (.tuple #[.agg #[.bool r, .slice z k e'], .int .i64 0]) ∧ Below w.heap.size w w' ∧ k ≤ max n m + 1 ∧ Wn w' r z k e' h (u + v) := by
  refine (wAdd_c s t x y n m c d f g w (by omega) (by omega) ha.rd hb.rd ha.lm hb.lm).mono ?_
  rintro e w' ⟨r, z, k, e', h, er, rfl, hres, hans⟩
  obtain ⟨rfl, hv⟩ := hans.ok ⟨ha.wf, hb.wf⟩
  exact ⟨r, z, k, e', h, rfl, hres.res.bel, hres.res.le, hres.wn (by rw [hv, ha.val, hb.val])⟩
theorem mul_n {w : World} {s t x y n m c d f g u v} (ha : Wn w s x n c f u) (hb : Wn w t y m d g v) (hn : n ≤ 4096) (hm : m ≤ 4096) :
    Calls Tryz.prog 78 #[.agg #[.bool s, .slice x n c], .agg #[.bool t, .slice y m d]] w fun e w' => ∃ r z k e' h, e = .returned (.tuple #[.agg #[.bool r, .slice z k e'], .int .i64 0]) ∧ Below w.heap.size w w' ∧ k ≤ n + m ∧ Wn w' r z k e' h (u * v) := by
  refine (wMul_c s t x y n m c d f g w (by omega) (by omega) ha.cap.1 hb.cap.1 ha.cap.2 hb.cap.2 ha.rd hb.rd ha.lm hb.lm).mono ?_
  rintro e w' ⟨r, z, k, e', h, er, rfl, hres, hans⟩
  obtain ⟨rfl, hv⟩ := hans.ok ⟨ha.wf, hb.wf⟩
  exact ⟨r, z, k, e', h, rfl, hres.res.bel, hres.res.le, hres.wn (by rw [hv, ha.val, hb.val])⟩
theorem form_n {w : World} {s x n c f u} (ha : Wn w s x n c f u) (hn : n ≤ 4096) :
    Calls Tryz.prog 83 #[.agg #[.bool s, .slice x n c]] w fun e w' => e = .returned (.bool true) ∧ Below w.heap.size w w' := by
  have := wForm_c s x n c f w (by omega) ha.rd
  rw [ha.wf] at this
  exact this

def lgt (n m : Nat) : Bool := decide (n ≤ 60) && decide (m ≤ 60)
end Go.Proofs.YtbindadjepfkcaaGreatDoor
namespace Go.Proofs.YtbindadjepfkcaaGreatDoor
open Go.RowKit

/-- A whole number by its sign and its magnitude. -/
def sg (s : Bool) (A : Nat) : Int := if s then -(A : Int) else A
theorem sg_tdiv (s : Bool) (A G : Nat) (hG : 0 < G) : (sg s (A * G)).tdiv G = sg s A := by
  have h : (G : Int) ≠ 0 := by omega
  cases s
  · show ((A * G : Nat) : Int).tdiv G = A
    rw [Int.natCast_mul]; exact Int.mul_tdiv_cancel _ h
  · show (-((A * G : Nat) : Int)).tdiv G = -A
    rw [Int.neg_tdiv, Int.natCast_mul, Int.mul_tdiv_cancel _ h]
theorem sg_natAbs (s : Bool) (A : Nat) : (sg s A).natAbs = A := by cases s <;> simp [sg]
theorem sg_mul (s t : Bool) (A B : Nat) : sg s A * sg t B = sg (s != t) (A * B) := by
  cases s <;> cases t <;> simp [sg, Int.neg_mul, Int.mul_neg]
theorem radd {a b : Rat} {G RA RB L BL : Nat} {S N : Int} (hG : G = a.den.gcd b.den) (hA : RA * G = a.den) (hB : RB * G = b.den) (hS : S = a.num * RB + b.num * RA) (hL : L = S.natAbs.gcd G) (hBL : BL * L = b.den) (hN : N * L = S) :
    (a + b).num = N ∧ (a + b).den = RA * BL := by
  have hG0 : 0 < G := by rw [hG]; exact Nat.gcd_pos_of_pos_left _ a.den_pos
  have hL0 : 0 < L := by rw [hL]; exact Nat.gcd_pos_of_pos_right _ hG0
  have eA : a.den / G = RA := by rw [← hA]; exact Nat.mul_div_cancel _ hG0
  have eB : b.den / G = RB := by rw [← hB]; exact Nat.mul_div_cancel _ hG0
  have e1 : (a + b) = Rat.add a b := rfl
  rw [e1]
  unfold Rat.add
  simp only [← hG, eA, eB]
  split
  · next h1 =>
    have hL1 : L = 1 := by rw [hL, h1]; simp
    have : RA = a.den := by rw [← hA, h1]; simp
    have h2 : RB = b.den := by rw [← hB, h1]; simp
    have h3 : BL = b.den := by rw [← hBL, hL1]; simp
    have h4 : N = S := by rw [← hN, hL1]; simp
    subst this; subst h2; subst h3
    exact ⟨by rw [h4, hS], rfl⟩
  · rw [Rat.maybeNormalize_eq]
    have e2 : (a.num * (RB : Int) + b.num * (RA : Int)).natAbs.gcd G = L := by rw [hL, hS]
    refine ⟨?_, ?_⟩
    · simp only [e2]
      rw [Int.divExact_eq_tdiv]
      rw [← hS, ← hN]
      exact Int.mul_tdiv_cancel _ (by omega)
    · simp only [e2]
      rw [← hBL, ← Nat.mul_assoc]
      exact Nat.mul_div_cancel _ hL0
theorem rmul {a b : Rat} {s t : Bool} {G H NA NB DA DB : Nat} (ha : a.num = sg s (NA * G)) (hb : b.num = sg t (NB * H)) (hG : G = a.num.natAbs.gcd b.den) (hH : H = b.num.natAbs.gcd a.den) (h3 : DA * H = a.den) (h4 : DB * G = b.den) :
    (a * b).num = sg (s != t) (NA * NB) ∧ (a * b).den = DA * DB := by
  have hG0 : 0 < G := by rw [hG]; exact Nat.gcd_pos_of_pos_right _ b.den_pos
  have hH0 : 0 < H := by rw [hH]; exact Nat.gcd_pos_of_pos_right _ a.den_pos
  have e1 : (a * b) = Rat.mul a b := rfl
  rw [e1]
  unfold Rat.mul
  simp only [← hG, ← hH, Int.divExact_eq_tdiv, Nat.divExact_eq_div]
  refine ⟨?_, ?_⟩
  · rw [ha, hb, sg_tdiv _ _ _ hG0, sg_tdiv _ _ _ hH0, sg_mul]
  · rw [← h3, ← h4, Nat.mul_div_cancel _ hG0, Nat.mul_div_cancel _ hH0]
theorem rinv {b : Rat} {t : Bool} {B : Nat} (hb : b.num = sg t B) (h0 : 0 < B) : (b⁻¹).num = sg t b.den ∧ (b⁻¹).den = B := by
  have e1 : b⁻¹ = Rat.inv b := rfl
  rw [e1]
  unfold Rat.inv
  cases t
  · have h1 : b.num = B := hb
    rw [dif_neg (by omega), dif_pos (by omega)]
    exact ⟨rfl, by show b.num.natAbs = B; omega⟩
  · have h1 : b.num = -(B : Int) := hb
    rw [dif_pos (by omega)]
    exact ⟨rfl, by show b.num.natAbs = B; omega⟩
theorem rmake {s t : Bool} {NA NB G : Nat} (hB : 0 < NB * G) (hG : G = (NA * G).gcd (NB * G)) :
    (((sg s (NA * G) : Int) : Rat) / (sg t (NB * G) : Int)).num = sg (s != t) NA ∧ (((sg s (NA * G) : Int) : Rat) / (sg t (NB * G) : Int)).den = NB := by
  have hNB : 0 < NB := Nat.pos_of_mul_pos_right hB
  have hG0 : 0 < G := Nat.pos_of_mul_pos_left hB
  have hc : (sg (s != t) NA).natAbs.Coprime NB := by
    have h1 : (sg (s != t) NA).natAbs = NA := by cases s <;> cases t <;> simp [sg]
    rw [h1]
    have : NA.gcd NB * G = G := by rw [← Nat.gcd_mul_right]; exact hG.symm
    exact Nat.eq_of_mul_eq_mul_right hG0 (by rw [this, Nat.one_mul])
  have h2 : ((sg s (NA * G) : Int) : Rat) / (sg t (NB * G) : Int) = ⟨sg (s != t) NA, NB, by omega, hc⟩ := by
    rw [Rat.mk_eq_divInt, ← Rat.divInt_eq_div, Rat.divInt_eq_divInt_iff]
    · cases s <;> cases t <;> simp [sg] <;> grind
    · cases t <;> simp [sg] <;> omega
    · omega
  rw [h2]; exact ⟨rfl, rfl⟩
theorem rfloor (a : Rat) : a.floor = a.num / a.den := by
  unfold Rat.floor
  split
  · next h => rw [h]; simp
  · rfl
end Go.Proofs.YtbindadjepfkcaaGreatDoor
namespace Go.Proofs.YtbindadjepfkcaaGreatDoor
open Go.RowKit

/-- The two numbers that steps lead to. -/
def stU (odd : Bool) (a0 b0 A B : Int) : Int := if odd then b0 * B - a0 * A else a0 * A - b0 * B
def stV (odd : Bool) (a1 b1 A B : Int) : Int := if odd then a1 * A - b1 * B else b1 * B - a1 * A
/-- The same common divisors. -/
def Cd (u v A B : Int) : Prop := ∀ d : Int, (d ∣ u ∧ d ∣ v) ↔ (d ∣ A ∧ d ∣ B)
theorem Cd.refl (A B : Int) : Cd A B A B := fun _ => Iff.rfl
theorem Cd.step {u v A B : Int} (h : Cd u v A B) (q : Int) : Cd v (u - q * v) A B := fun d => by
  rw [← h d]
  constructor
  · rintro ⟨h1, h2⟩
    refine ⟨?_, h1⟩
    have := Int.dvd_add h2 (Int.dvd_mul_of_dvd_right (b := q) h1)
    rwa [Int.sub_add_cancel] at this
  · rintro ⟨h1, h2⟩
    exact ⟨h2, Int.dvd_sub h1 (Int.dvd_mul_of_dvd_right (b := q) h2)⟩
theorem Cd.trans {u v A B C D : Int} (h : Cd u v A B) (k : Cd A B C D) : Cd u v C D := fun d => (h d).trans (k d)
theorem Cd.swap {u v A B : Int} (h : Cd u v A B) : Cd v u A B := fun d => by rw [← h d]; exact And.comm

/-- What some steps lead to, for all numbers that begin with the bits x and y. -/
def Led (odd : Bool) (a0 b0 a1 b1 x y : Int) : Prop := ∀ T ra rb : Int, 0 ≤ ra → ra < T → 0 ≤ rb → rb < T →
  0 ≤ stV odd a1 b1 (x * T + ra) (y * T + rb) ∧ stV odd a1 b1 (x * T + ra) (y * T + rb) < stU odd a0 b0 (x * T + ra) (y * T + rb) ∧ stU odd a0 b0 (x * T + ra) (y * T + rb) ≤ y * T + rb ∧ Cd (stU odd a0 b0 (x * T + ra) (y * T + rb)) (stV odd a1 b1 (x * T + ra) (y * T + rb)) (x * T + ra) (y * T + rb)

/-- The state of the search. -/
structure Lh (odd : Bool) (a b a0 b0 a1 b1 x y : Int) : Prop where
  a_0 : 0 ≤ a
  b_0 : 0 ≤ b
  ua : a = stU odd a0 b0 x y
  ub : b = stV odd a1 b1 x y
  top : x = b1 * a + b0 * b
  p0 : 0 ≤ a0
  p1 : 0 ≤ b0
  p2 : 0 ≤ a1
  p3 : 1 ≤ b1
  st : (odd = false ∧ a0 = 1 ∧ b0 = 0 ∧ a1 = 0 ∧ b1 = 1) ∨ (a0 ≤ b0 ∧ a1 ≤ b1 ∧ 1 ≤ b0 ∧ b1 ≤ b ∧ b < a ∧ Led odd a0 b0 a1 b1 x y)

theorem lh_start {x y : Int} (hx : 0 ≤ x) (hy : 0 ≤ y) : Lh false x y 1 0 0 1 x y :=
  ⟨hx, hy, by simp [stU], by simp [stV], by omega, by omega, by omega, by omega, by omega, .inl ⟨rfl, rfl, rfl, rfl, rfl⟩⟩

theorem stU_next {odd : Bool} {a1 b1 A B : Int} : stU (!odd) a1 b1 A B = stV odd a1 b1 A B := by cases odd <;> simp [stU, stV]
theorem stV_next {odd : Bool} {a0 b0 a1 b1 q A B : Int} : stV (!odd) (a0 + q * a1) (b0 + q * b1) A B = stU odd a0 b0 A B - q * stV odd a1 b1 A B := by
  cases odd <;> simp only [stU, stV, Bool.not_false, Bool.not_true, if_true, if_false, Bool.false_eq_true] <;> grind

/-- A number is near its highest bits. -/
theorem stV_low {odd : Bool} {a1 b1 x y T ra rb : Int} (h0 : 0 ≤ a1) (h1 : a1 ≤ b1) (r0 : 0 ≤ ra) (r1 : ra < T) (s0 : 0 ≤ rb) (s1 : rb < T) :
    stV odd a1 b1 x y * T - b1 * (T - 1) ≤ stV odd a1 b1 (x * T + ra) (y * T + rb) ∧ stV odd a1 b1 (x * T + ra) (y * T + rb) ≤ stV odd a1 b1 x y * T + b1 * (T - 1) := by
  have m1 : 0 ≤ a1 * ra := Int.mul_nonneg h0 r0
  have m2 : 0 ≤ b1 * rb := Int.mul_nonneg (by omega) s0
  have m3 : a1 * ra ≤ b1 * ra := Int.mul_le_mul_of_nonneg_right h1 r0
  have m4 : b1 * ra ≤ b1 * (T - 1) := Int.mul_le_mul_of_nonneg_left (by omega) (by omega)
  have m5 : b1 * rb ≤ b1 * (T - 1) := Int.mul_le_mul_of_nonneg_left (by omega) (by omega)
  cases odd
  · have e : stV false a1 b1 (x * T + ra) (y * T + rb) = stV false a1 b1 x y * T + b1 * rb - a1 * ra := by simp only [stV, Bool.false_eq_true, if_false]; grind
    rw [e]; omega
  · have e : stV true a1 b1 (x * T + ra) (y * T + rb) = stV true a1 b1 x y * T + a1 * ra - b1 * rb := by simp only [stV, if_true]; grind
    rw [e]; omega

/-- One step, where Collins' condition holds. -/
theorem lh_step {odd : Bool} {a b a0 b0 a1 b1 x y : Int} (h : Lh odd a b a0 b0 a1 b1 x y) (hxy : y ≤ x) (hb : 0 < b) (c1 : b0 + a / b * b1 ≤ a - a / b * b) (c2 : b1 + (b0 + a / b * b1) ≤ b - (a - a / b * b)) :
    Lh (!odd) b (a - a / b * b) a1 b1 (a0 + a / b * a1) (b0 + a / b * b1) x y := by
  obtain ⟨q, hq⟩ : ∃ q, a / b = q := ⟨_, rfl⟩
  rw [hq] at c1 c2 ⊢
  have hq0 : 0 ≤ q := by rw [← hq]; exact Int.ediv_nonneg h.a_0 h.b_0
  have hr0 : 0 ≤ a - q * b := by
    have := Int.emod_nonneg a (show b ≠ 0 by omega); have e := Int.mul_ediv_add_emod a b
    rw [hq, Int.mul_comm] at e; omega
  have hb1 : 0 ≤ q * b1 := Int.mul_nonneg hq0 (by have := h.p3; omega)
  have ha1 : 0 ≤ q * a1 := Int.mul_nonneg hq0 h.p2
  have p0 := h.p0; have p1 := h.p1; have p2 := h.p2; have p3 := h.p3
  have hua := h.ua; have hub := h.ub; have htop := h.top
  -- the quotient is not 0 at the first step
  have hmono : a0 + q * a1 ≤ b0 + q * b1 ∧ a1 ≤ b1 := by
    rcases h.st with ⟨rfl, rfl, rfl, rfl, rfl⟩ | ⟨s1, s2, _, _, _, _⟩
    · have ea : a = x := by rw [hua]; simp [stU]
      have eb : b = y := by rw [hub]; simp [stV]
      have : 1 ≤ q := by rw [← hq]; exact (Int.le_ediv_iff_mul_le hb).2 (by omega)
      omega
    · have : q * a1 ≤ q * b1 := Int.mul_le_mul_of_nonneg_left s2 hq0
      omega
  have hb1' : 1 ≤ b0 + q * b1 := by
    rcases h.st with ⟨rfl, rfl, rfl, rfl, rfl⟩ | ⟨s1, s2, s3, _, _, _⟩
    · omega
    · omega
  refine ⟨h.b_0, hr0, ?_, ?_, ?_, p2, by omega, by omega, hb1', .inr ⟨hmono.2, hmono.1, p3, c1, by omega, ?_⟩⟩
  · rw [stU_next]; exact hub
  · rw [stV_next, ← hua, ← hub]
  · rw [htop]; grind
  · intro T ra rb r0 r1 s0 s1
    have hV : stV (!odd) (a0 + q * a1) (b0 + q * b1) x y = a - q * b := by rw [stV_next, ← hua, ← hub]
    have lo := stV_low (odd := !odd) (x := x) (y := y) (by omega) hmono.1 r0 r1 s0 s1
    have lo2 := stV_low (odd := odd) (x := x) (y := y) p2 hmono.2 r0 r1 s0 s1
    rw [hV] at lo
    rw [← hub] at lo2
    have hT : 1 ≤ T := by omega
    have k1 : (b0 + q * b1) * T ≤ (a - q * b) * T := Int.mul_le_mul_of_nonneg_right c1 (by omega)
    have k2 : (b1 + (b0 + q * b1)) * T ≤ (b - (a - q * b)) * T := Int.mul_le_mul_of_nonneg_right c2 (by omega)
    have x1 : (b0 + q * b1) * (T - 1) = (b0 + q * b1) * T - (b0 + q * b1) := by rw [Int.mul_sub, Int.mul_one]
    have x2 : b1 * (T - 1) = b1 * T - b1 := by rw [Int.mul_sub, Int.mul_one]
    have x3 : (b1 + (b0 + q * b1)) * T = b1 * T + (b0 + q * b1) * T := by rw [Int.add_mul]
    have x4 : (b - (a - q * b)) * T = b * T - (a - q * b) * T := by rw [Int.sub_mul]
    rw [stU_next]
    refine ⟨by omega, by omega, ?_, ?_⟩
    · rcases h.st with ⟨rfl, rfl, rfl, rfl, rfl⟩ | ⟨_, _, _, _, _, hl⟩
      · simp [stV]
      · obtain ⟨_, l2, l3, _⟩ := hl T ra rb r0 r1 s0 s1
        omega
    · rw [stV_next]
      refine Cd.step ?_ q
      rcases h.st with ⟨rfl, rfl, rfl, rfl, rfl⟩ | ⟨_, _, _, _, _, hl⟩
      · simp only [stU, stV, Bool.false_eq_true, if_false]
        have e1 : 1 * (x * T + ra) - 0 * (y * T + rb) = x * T + ra := by omega
        have e2 : 1 * (y * T + rb) - 0 * (x * T + ra) = y * T + rb := by omega
        rw [e1, e2]; exact Cd.refl _ _
      · exact (hl T ra rb r0 r1 s0 s1).2.2.2
/-- The new factors are at most x. -/
theorem lh_room {odd : Bool} {a b a0 b0 a1 b1 x y : Int} (h : Lh odd a b a0 b0 a1 b1 x y) (hxy : y ≤ x) (hb : 0 < b) : b0 + a / b * b1 ≤ x ∧ a0 + a / b * a1 ≤ x ∧ 0 ≤ a / b * a1 ∧ 0 ≤ a / b * b1 ∧ (0 < a - a / b * b → b1 + (b0 + a / b * b1) ≤ x) ∧ 1 ≤ b0 + a / b * b1 := by
  obtain ⟨q, hq⟩ : ∃ q, a / b = q := ⟨_, rfl⟩
  rw [hq]
  have hq0 : 0 ≤ q := by rw [← hq]; exact Int.ediv_nonneg h.a_0 h.b_0
  have hr0 : 0 ≤ a - q * b := by
    have := Int.emod_nonneg a (show b ≠ 0 by omega); have e := Int.mul_ediv_add_emod a b
    rw [hq, Int.mul_comm] at e; omega
  have p0 := h.p0; have p1 := h.p1; have p2 := h.p2; have p3 := h.p3
  have hb1 : 0 ≤ q * b1 := Int.mul_nonneg hq0 (by omega)
  have ha1 : 0 ≤ q * a1 := Int.mul_nonneg hq0 h.p2
  have e : x = (b0 + q * b1) * b + b1 * (a - q * b) := by rw [h.top]; grind
  have f1 : (b0 + q * b1) * 1 ≤ (b0 + q * b1) * b := Int.mul_le_mul_of_nonneg_left (by omega) (by omega)
  have f2 : 0 ≤ b1 * (a - q * b) := Int.mul_nonneg (by omega) hr0
  refine ⟨by omega, ?_, ha1, hb1, fun hp => ?_, ?_⟩
  · rcases h.st with ⟨rfl, rfl, rfl, rfl, rfl⟩ | ⟨s1, s2, _, _, _, _⟩
    · have eb : b = y := by rw [h.ub]; simp [stV]
      omega
    · have : q * a1 ≤ q * b1 := Int.mul_le_mul_of_nonneg_left s2 hq0
      omega
  · have f3 : b1 * 1 ≤ b1 * (a - q * b) := Int.mul_le_mul_of_nonneg_left (by omega) (by omega)
    omega
  · rcases h.st with ⟨rfl, rfl, rfl, rfl, rfl⟩ | ⟨s1, s2, s3, _, _, _⟩
    · have ea : a = x := by rw [h.ua]; simp [stU]
      have eb : b = y := by rw [h.ub]; simp [stV]
      have : 1 ≤ q := by rw [← hq]; exact (Int.le_ediv_iff_mul_le hb).2 (by omega)
      omega
    · omega
/-- Some steps: their factors have room, and what they lead to. -/
theorem lh_some {odd : Bool} {a b a0 b0 a1 b1 x y : Int} (h : Lh odd a b a0 b0 a1 b1 x y) (hb0 : b0 ≠ 0) : Led odd a0 b0 a1 b1 x y ∧ a0 + 2 ≤ x ∧ b0 + 2 ≤ x ∧ a1 + 2 ≤ x ∧ b1 + 2 ≤ x := by
  rcases h.st with ⟨_, _, h0, _⟩ | ⟨s1, s2, s3, s4, s5, hl⟩
  · exact absurd h0 hb0
  · have p3 := h.p3; have p1 := h.p1
    have e := h.top
    have m1 : b1 * 2 ≤ b1 * a := Int.mul_le_mul_of_nonneg_left (by omega) (by omega)
    have m2 : b0 * 1 ≤ b0 * b := Int.mul_le_mul_of_nonneg_left (by omega) (by omega)
    exact ⟨hl, by omega, by omega, by omega, by omega⟩
theorem lh_none {odd : Bool} {a b a0 b0 a1 b1 x y : Int} (h : Lh odd a b a0 b0 a1 b1 x y) : 0 ≤ a0 ∧ 0 ≤ b0 ∧ 0 ≤ a1 ∧ 0 ≤ b1 := ⟨h.p0, h.p1, h.p2, by have := h.p3; omega⟩
end Go.Proofs.YtbindadjepfkcaaGreatDoor
namespace Go.Proofs.YtbindadjepfkcaaGreatDoor
open Go.RowKit

/-- Block g holds the five fields of steps. -/
def SB (w : World) (g : Nat) (a0 b0 a1 b1 : Int) (odd : Bool) : Prop := w.heap[g]? = some (.cells #[.int .u64 a0, .int .u64 b0, .int .u64 a1, .int .u64 b1, .bool odd] 197 (0, 0))
theorem SB.cells {w g a0 b0 a1 b1 odd} (h : SB w g a0 b0 a1 b1 odd) : w.cell? ⟨g, 0, none⟩ = some (.int .u64 a0) ∧ w.cell? ⟨g, 1, none⟩ = some (.int .u64 b0) ∧ w.cell? ⟨g, 2, none⟩ = some (.int .u64 a1) ∧ w.cell? ⟨g, 3, none⟩ = some (.int .u64 b1) ∧ w.cell? ⟨g, 4, none⟩ = some (.bool odd) := by
  unfold SB at h
  simp [World.cell?, h]
theorem SB.frozen {w g a0 b0 a1 b1 odd} (h : SB w g a0 b0 a1 b1 odd) (j : Nat) : w.frozen? ⟨g, j, none⟩ = false := by
  unfold SB at h
  simp [World.frozen?, h]
theorem SB.lt {w g a0 b0 a1 b1 odd} (h : SB w g a0 b0 a1 b1 odd) : g < w.heap.size := (Array.getElem?_eq_some_iff.1 h).1
theorem SB.below {w w' g a0 b0 a1 b1 odd} (h : SB w g a0 b0 a1 b1 odd) (hb : Below w.heap.size w w') : SB w' g a0 b0 a1 b1 odd := (hb.block g h.lt).trans h

theorem SB.set5 {w g a0 b0 a1 b1 odd} (h : SB w g a0 b0 a1 b1 odd) (c0 d0 c1 d1 : Int) (o : Bool) : SB (((((w.setCell ⟨g, 0, none⟩ (.int .u64 c0)).setCell ⟨g, 1, none⟩ (.int .u64 d0)).setCell ⟨g, 2, none⟩ (.int .u64 c1)).setCell ⟨g, 3, none⟩ (.int .u64 d1)).setCell ⟨g, 4, none⟩ (.bool o)) g c0 d0 c1 d1 o := by
  unfold SB at h ⊢
  simp [World.setCell, Array.getElem?_modify, h]
theorem only_set5 (w : World) (g : Nat) (u0 u1 u2 u3 u4 : Value) : Only g w (((((w.setCell ⟨g, 0, none⟩ u0).setCell ⟨g, 1, none⟩ u1).setCell ⟨g, 2, none⟩ u2).setCell ⟨g, 3, none⟩ u3).setCell ⟨g, 4, none⟩ u4) :=
  (((((Only.refl _ _).setCell _ _ _).setCell _ _ _).setCell _ _ _).setCell _ _ _).setCell _ _ _
/-- What findSteps answers. -/
def FsAns (w w' : World) (e : Ending) (x y : Int) : Prop := Below w.heap.size w w' ∧ ∃ a0 b0 a1 b1 odd a b, e = .returned (.agg #[.int .u64 a0, .int .u64 b0, .int .u64 a1, .int .u64 b1, .bool odd]) ∧ Lh odd a b a0 b0 a1 b1 x y ∧ b0 ≤ x ∧ a0 ≤ x ∧ a1 ≤ x ∧ b1 ≤ x

set_option maxRecDepth 100000 in
set_option maxHeartbeats 4000000 in
theorem findSteps_c (x y : Int) (w : World) (y0 : 0 ≤ y) (hyx : y ≤ x) (x0 : 1 ≤ x) (x1 : x < 18446744073709551616) :
    Calls Tryz.prog 200 #[.int .u64 x, .int .u64 y] w fun e w' => FsAns w w' e x y := by
  go_enter Tryz.func200, Tryz.ntmps200
  go_wp2
  go_loopw [0, 1] (fun c d wr => ∃ (a b a0 b0 a1 b1 : Int) (odd : Bool), c = .int .u64 a ∧ d = .int .u64 b ∧ 0 ≤ a ∧ a ≤ x ∧ 0 ≤ b ∧ b ≤ x ∧ Below w.heap.size w wr ∧ Hid (SB wr w.heap.size 0 0 0 0 false) ∧ Hid (SB wr (w.heap.size + 1) a0 b0 a1 b1 odd) ∧ Hid (Lh odd a b a0 b0 a1 b1 x y) ∧ Hid (b0 ≤ x ∧ a0 ≤ x ∧ a1 ≤ x ∧ b1 ≤ x)) (fun _ d _ => (intOf d).toNat)
  case atStart =>
    refine ⟨x, y, 1, 0, 0, 1, false, rfl, rfl, by omega, by omega, by omega, by omega, ((Below.refl _ _).alloc (Nat.le_refl _) _).alloc (by simp) _, ?_, ?_, lh_start (by omega) y0, ?_⟩
    · exact Below.heap_alloc _ _ _ (by simp) |>.trans (heap_alloc_new w _)
    · show _ = _
      have := heap_alloc_new (w.alloc (.cells #[.int .u64 0, .int .u64 0, .int .u64 0, .int .u64 0, .bool false] 197)) (.cells #[.int .u64 1, .int .u64 0, .int .u64 0, .int .u64 1, .bool false] 197)
      simpa using this
    · show _ ∧ _ ∧ _ ∧ _
      omega
  case round =>
    obtain ⟨a, b, a0, b0, a1, b1, odd, rfl, rfl, ha0, hax, hb0, hbx, hbel, HG, HS, HL, HX⟩ := hrel
    obtain ⟨s0, s1, s2, s3, s4⟩ := HS.out.cells
    obtain ⟨r0, r1, r2, r3, r4⟩ := HG.out.cells
    have fz := HS.out.frozen
    have fr := HG.out.frozen
    have alS : ∀ o, SB (wr.alloc o) (w.heap.size + 1) a0 b0 a1 b1 odd := fun o => HS.out.below ((Below.refl _ _).alloc (Nat.le_refl _) o)
    have alG : ∀ o, SB (wr.alloc o) w.heap.size 0 0 0 0 false := fun o => HG.out.below ((Below.refl _ _).alloc (Nat.le_refl _) o)
    have sa0 := fun o => (alS o).cells.1
    have sa1 := fun o => (alS o).cells.2.1
    have sa2 := fun o => (alS o).cells.2.2.1
    have sa3 := fun o => (alS o).cells.2.2.2.1
    have sa4 := fun o => (alS o).cells.2.2.2.2
    have ga0 := fun o => (alG o).cells.1
    have ga1 := fun o => (alG o).cells.2.1
    have ga2 := fun o => (alG o).cells.2.2.1
    have ga3 := fun o => (alG o).cells.2.2.2.1
    have ga4 := fun o => (alG o).cells.2.2.2.2
    have fza := fun o => (alS o).frozen
    have fra := fun o => (alG o).frozen
    have ltS := HS.out.lt
    clear alS alG
    by_cases hbz : b = 0
    · subst hbz
      go_wp2
      obtain ⟨t0, t1, t2, t3, t4⟩ := (HG.out.set5 a0 b0 a1 b1 odd).cells
      refine bodyPost_ret (v := .agg #[.int .u64 a0, .int .u64 b0, .int .u64 a1, .int .u64 b1, .bool odd]) (by simp [results, Tryz.results200, go_sem, t0, t1, t2, t3, t4]) rfl ⟨?_, a0, b0, a1, b1, odd, _, _, rfl, HL.out, HX.out⟩
      exact below_only hbel (only_set5 _ _ _ _ _ _ _) (Nat.le_refl _) hbel.size
    · have hbp : 0 < b := by omega
      have hbb : (b != 0) = true := by simp [hbz]
      obtain ⟨m1, m2, m3, m4, m5, m6⟩ := lh_room HL.out hyx hbp
      have cstep := lh_step HL.out hyx hbp
      obtain ⟨q, hq⟩ : ∃ q, a / b = q := ⟨_, rfl⟩
      have hq0 : 0 ≤ q := by rw [← hq]; exact Int.ediv_nonneg ha0 hb0
      have hpr : 0 ≤ a - q * b ∧ a - q * b < b ∧ 0 ≤ q * b := by
        have e1 := Int.emod_nonneg a hbz; have e2 := Int.emod_lt_of_pos a hbp; have e := Int.mul_ediv_add_emod a b
        rw [hq, Int.mul_comm] at e
        exact ⟨by omega, by omega, Int.mul_nonneg hq0 hb0⟩
      rw [hq] at m1 m2 m3 m4 m5 m6 cstep
      obtain ⟨p, hp⟩ : ∃ p, q * b = p := ⟨_, rfl⟩
      obtain ⟨qa, hqa⟩ : ∃ p, q * a1 = p := ⟨_, rfl⟩
      obtain ⟨qb, hqb⟩ : ∃ p, q * b1 = p := ⟨_, rfl⟩
      rw [hp] at hpr m5 cstep
      rw [hqa] at m2 m3 cstep
      rw [hqb] at m1 m4 m5 m6 cstep
      obtain ⟨p1, p2, p3⟩ := hpr
      obtain ⟨l0, l1, l2, l3⟩ := (⟨HL.out.p0, HL.out.p1, HL.out.p2, HL.out.p3⟩ : 0 ≤ a0 ∧ 0 ≤ b0 ∧ 0 ≤ a1 ∧ 1 ≤ b1)
      obtain ⟨z1, z2, z3, z4⟩ := HX.out
      have CS := hid cstep
      have M5 := hid m5
      clear cstep m5
      by_cases c1 : a - p < b0 + qb
      · have c1b : decide (a - p < b0 + qb) = true := by simp [c1]
        go_wp2
        obtain ⟨t0, t1, t2, t3, t4⟩ := ((HG.out.below ((Below.refl _ _).alloc (Nat.le_refl _) (.cells #[.int .u64 a1, .int .u64 b1, .int .u64 (a0 + qa), .int .u64 (b0 + qb), .bool !odd] 197))).set5 a0 b0 a1 b1 odd).cells
        refine bodyPost_ret (v := .agg #[.int .u64 a0, .int .u64 b0, .int .u64 a1, .int .u64 b1, .bool odd]) (by simp [results, Tryz.results200, go_sem, t0, t1, t2, t3, t4]) rfl ⟨?_, a0, b0, a1, b1, odd, _, _, rfl, HL.out, HX.out⟩
        exact below_only (hbel.alloc hbel.size _) (only_set5 _ _ _ _ _ _ _) (Nat.le_refl _) (by have := hbel.size; simp; omega)
      · have c1b : decide (a - p < b0 + qb) = false := by simp; omega
        have hm5 := M5.out (by omega)
        by_cases c2 : b - (a - p) < b1 + (b0 + qb)
        · have c2b : decide (b - (a - p) < b1 + (b0 + qb)) = true := by simp [c2]
          go_wp2
          obtain ⟨t0, t1, t2, t3, t4⟩ := ((HG.out.below ((Below.refl _ _).alloc (Nat.le_refl _) (.cells #[.int .u64 a1, .int .u64 b1, .int .u64 (a0 + qa), .int .u64 (b0 + qb), .bool !odd] 197))).set5 a0 b0 a1 b1 odd).cells
          refine bodyPost_ret (v := .agg #[.int .u64 a0, .int .u64 b0, .int .u64 a1, .int .u64 b1, .bool odd]) (by simp [results, Tryz.results200, go_sem, t0, t1, t2, t3, t4]) rfl ⟨?_, a0, b0, a1, b1, odd, _, _, rfl, HL.out, HX.out⟩
          exact below_only (hbel.alloc hbel.size _) (only_set5 _ _ _ _ _ _ _) (Nat.le_refl _) (by have := hbel.size; simp; omega)
        · have c2b : decide (b - (a - p) < b1 + (b0 + qb)) = false := by simp; omega
          have NX := hid (CS.out (by omega) (by omega))
          go_wp2
          go_region
          all_goals
            go_wp2
            go_roundw
            case rel =>
              have o1 : Only (w.heap.size + 1) wr _ := only_set5 wr (w.heap.size + 1) (.int .u64 a1) (.int .u64 b1) (.int .u64 (a0 + qa)) (.int .u64 (b0 + qb)) (.bool !odd)
              have b1' := below_only hbel o1 (by omega) hbel.size
              refine ⟨b, a - p, a1, b1, a0 + qa, b0 + qb, !odd, rfl, rfl, by omega, by omega, by omega, by omega, (b1'.alloc b1'.size _).drew, ?_, ?_, NX.out, ?_⟩
              · exact (show SB _ _ _ _ _ _ _ from (o1.block _ HG.out.lt (by omega)).trans HG.out).below ((Below.refl _ _).alloc (Nat.le_refl _) _).drew
              · exact (HS.out.set5 a1 b1 (a0 + qa) (b0 + qb) (!odd)).below ((Below.refl _ _).alloc (Nat.le_refl _) _).drew
              · show _ ∧ _ ∧ _ ∧ _
                omega
            case measure => simp [intOf]; omega
end Go.Proofs.YtbindadjepfkcaaGreatDoor
