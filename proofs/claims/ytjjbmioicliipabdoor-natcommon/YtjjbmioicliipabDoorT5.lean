/-
  Walks of package nat's texts: bytes.TrimLeft of noughts, digits, Text.
-/
import Derived.Test.YtjjbmioicliipabDoorT4
namespace Go.Proofs.YtjjbmioicliipabDoor
open Go.RowKit

set_option maxHeartbeats 1000000 in
theorem trimByte_c (g o L cap k0 : Nat) (t : Nat → Int) (w : World) (hr : Rd .u8 w (some ⟨g, o, none⟩) L t) (hL : L ≤ cap) (hk0 : k0 < L) (hz : ∀ j, j < k0 → t j = 48) (hnz : t k0 ≠ 48) :
    Calls Tryd.prog 55 #[.slice (some ⟨g, o, none⟩) L cap, .int .u8 48] w fun e w' => e = .returned (.slice (some ⟨g, o + k0, none⟩) (L - k0) (cap - k0)) ∧ w' = w := by
  have HZ := hid hz
  clear hz
  go_enter Tryd.func55, Tryd.ntmps55
  go_wp2
  go_loop [0] (fun v => ∃ k : Nat, k ≤ k0 ∧ v = .slice (some ⟨g, o + k, none⟩) (L - k) (cap - k)) (fun v => match v with | .slice _ n _ => n | _ => 0)
  case atStart => exact ⟨0, by omega, rfl⟩
  case round =>
    obtain ⟨k, hk, rfl⟩ := hrel
    obtain ⟨x, hx⟩ : ∃ x, t k = x := ⟨_, rfl⟩
    have hcell : w.cell? ⟨g, o + k, none⟩ = some (.int .u8 x) := by rw [← hx]; exact hr.cell (by omega)
    have hpos : (0 : Int) < ((L - k : Nat) : Int) := by omega
    by_cases hkk : k < k0
    · have hx48 : x = 48 := by rw [← hx]; exact HZ.out k hkk
      subst hx48
      clear hx hr
      have hne : ¬ (1 = cap - k) := by omega
      have hne2 : ¬ (cap - k = 1) := by omega
      have hone : (1 : Int) ≤ ((L - k : Nat) : Int) := by omega
      go_wp2
      go_round
      case rel => exact ⟨k + 1, by omega, by simp only [Value.slice.injEq, Option.some.injEq, Addr.mk.injEq]; exact ⟨⟨trivial, by omega, trivial⟩, by omega, by omega⟩⟩
      case measure => simp; omega
    · obtain rfl : k = k0 := by omega
      have hx1 : (x == 48) = false := by rw [← hx]; simp [hnz]
      have hne0 : (((L - k : Nat) : Int) == 0) = false := by simp; omega
      clear hx hr hnz
      go_wp2
      go_ret
      exact ⟨rfl, rfl⟩

set_option maxRecDepth 100000 in
set_option maxHeartbeats 1000000 in
theorem trimLeft_c (g o L cap k0 : Nat) (t : Nat → Int) (w : World) (hr : Rd .u8 w (some ⟨g, o, none⟩) L t) (hL : L ≤ cap) (hk0 : k0 < L) (hz : ∀ j, j < k0 → t j = 48) (hnz : t k0 ≠ 48) :
    Calls Tryd.prog 39 #[.slice (some ⟨g, o, none⟩) L cap, .string ⟨#[48]⟩] w fun e w' => e = .returned (.slice (some ⟨g, o + k0, none⟩) (L - k0) (cap - k0)) ∧ w' = w := by
  have C := hid (trimByte_c g o L cap k0 t w hr hL hk0 hz hnz)
  have h0 : ((L : Int) == 0) = false := by simp; omega
  clear hr hz hnz
  go_enter Tryd.func39, Tryd.ntmps39
  go_wp2_with fail
  refine C.out.mono ?_
  rintro e w1 ⟨rfl, rfl⟩
  go_wp2
  go_ret
  exact ⟨rfl, rfl⟩

theorem lev_ge (n : Nat) (hn : n ≤ 18446744073709551616) : n ≤ 2 ^ lev n := by
  unfold lev
  by_cases h : n ≤ 1
  · rw [if_pos h]; simpa using h
  · rw [if_neg h]
    have := (bitLen_bounds _ (n - 1) rfl (by omega) (by omega)).2.2
    omega
theorem lev_le (n k : Nat) (hk : k ≤ 64) (h : n ≤ 2 ^ k) : lev n ≤ k := by
  unfold lev
  split
  · omega
  · exact Lib.bitLen_le (n - 1) k hk (by omega)
theorem dgi_top {V : Nat} (hV : 0 < V) : dgi V (Lib.nDigits V - 1) ≠ 48 := by
  have h1 : ∀ (k V : Nat), 0 < V → Lib.nDigits V = k + 1 → V / 10 ^ k % 10 ≠ 0 := by
    intro k
    induction k with
    | zero =>
      intro V hV h
      by_cases hu : V < 10
      · simp; omega
      · rw [Lib.nDigits_big hu] at h; have := Lib.nDigits_pos (V / 10); omega
    | succ k ih =>
      intro V hV h
      by_cases hu : V < 10
      · rw [Lib.nDigits_small hu] at h; omega
      · rw [Lib.nDigits_big hu] at h
        have := ih (V / 10) (by omega) (by omega)
        rw [Nat.div_div_eq_div_mul, ← Nat.pow_succ'] at this
        exact this
  have hp := Lib.nDigits_pos V
  have := h1 (Lib.nDigits V - 1) V hV (by omega)
  unfold dgi
  omega
/-- A number of n limbs has room in so many pieces. -/
theorem room_pieces {n p c : Nat} {V : Int} (hV : V < pw n) (hp : 64 * n ≤ 63 * p) (hc : p ≤ 2 ^ c) : V < ((10 ^ (19 * 2 ^ c) : Nat) : Int) := by
  have h1 : pw n = ((2 ^ (64 * n) : Nat) : Int) := by
    clear hV hp
    induction n with
    | zero => rfl
    | succ n ih => rw [pw_succ, ih, Nat.mul_add, Nat.pow_add]; simp; omega
  have h2 : 2 ^ (64 * n) ≤ 2 ^ (63 * p) := Nat.pow_le_pow_right (by omega) hp
  have h3 : 2 ^ (63 * p) ≤ 10 ^ (19 * p) := by
    rw [Nat.pow_mul, Nat.pow_mul]; exact Nat.pow_le_pow_left (by decide) p
  have h4 : 10 ^ (19 * p) ≤ 10 ^ (19 * 2 ^ c) := Nat.pow_le_pow_right (by omega) (Nat.mul_le_mul_left 19 hc)
  omega
theorem cv_text {P : Program} (w : World) (tB tS tE : TypeId) (g o cap : Nat) (t : Nat → Int) (V : Nat) (h1 : P.underlying tB = some (.slice tE)) (h2 : P.underlying tE = some (.int .u8)) (h3 : P.underlying tS = some .string) (hr : Rd .u8 w (some ⟨g, o, none⟩) (Lib.nDigits V) t) (ht : ∀ j, j < Lib.nDigits V → t j = dgi V (Lib.nDigits V - 1 - j)) :
    (convert tB tS (.slice (some ⟨g, o, none⟩) (Lib.nDigits V) cap)).run P w = .ok (.string ⟨(Lib.decDigits V).toArray⟩) w := by
  have h := run_convert_bytes_back (P := P) w tB tS tE ⟨g, o, none⟩ cap (Lib.decDigits V) h1 h2 h3 (fun j hj => by
    rw [Lib.decDigits_length] at hj
    have e := byt_dec V j hj
    have hc := hr.cell hj
    rw [ht j hj, ← e] at hc
    rw [Lib.add_plain, hc]
    unfold byt
    rw [List.getD_eq_getElem?_getD, List.getElem?_eq_getElem (by rw [Lib.decDigits_length]; exact hj)]
    rfl)
  rw [Lib.decDigits_length] at h
  exact h

set_option maxRecDepth 100000 in
set_option maxHeartbeats 2000000 in
/-- digits: the decimal digits. -/
theorem digits_c (ao : Option Addr) (n ca c : Nat) (f : Nat → Int) (V : Nat) (w : World) (hn : n ≤ 4096) (hr : Rd .u64 w ao n f) (htg : Tg w ao) (hf : Lm f n) (ff : Fm f n) (hV : vf f n = V) (htab : Tab w) (hc : c = lev ((64 * n + 62) / 63)) (hca : n ≤ ca) (hcam : ca ≤ 9223372036854775807) (hdiv : ∀ j, j < c → ∀ X, 0 ≤ X → X ≤ (V : Int) → DivOk X (tens j)) :
    Calls Tryd.prog 22 #[.slice ao n ca] w fun e w' => e = .returned (.string ⟨(Lib.decDigits V).toArray⟩) ∧ Below w.heap.size w w' := by
  by_cases h0 : n = 0
  · subst h0
    have hV0 : V = 0 := by simp [vf] at hV; omega
    have E := hid (show Lib.decDigits V = [48] by rw [hV0, Lib.decDigits_one (by omega)]; rfl)
    clear hr hf ff hV hdiv
    go_enter Tryd.func22, Tryd.ntmps22
    go_wp2
    go_ret
    exact ⟨by rw [E.out]; rfl, Below.refl _ _⟩
  · have hVp : 0 < V := by
      have := vf_form_ge hf ff (by omega); have := pw_pos (n - 1); omega
    obtain ⟨p, hp⟩ : ∃ p, p = (64 * n + 62) / 63 := ⟨_, rfl⟩
    have hp1 : 1 ≤ p := by omega
    have hp2 : p ≤ 8192 := by omega
    rw [← hp] at hc
    have hc13 : c ≤ 13 := by rw [hc]; exact lev_le p 13 (by omega) (by omega)
    have hpc : p ≤ 2 ^ c := by rw [hc]; exact lev_ge p (by omega)
    obtain ⟨K, hK⟩ : ∃ K, K = 19 * 2 ^ c := ⟨_, rfl⟩
    have h2c : 2 ^ c ≤ 8192 := Nat.pow_le_pow_right (n := 2) (by omega) hc13
    have h2c1 : 1 ≤ 2 ^ c := Nat.pow_pos (by omega)
    have hKb : K ≤ 155648 := by omega
    have hK1 : 19 ≤ K := by omega
    have hVK : V < 10 ^ K := by
      have := room_pieces (n := n) (p := p) (c := c) (V := (V : Int)) (by rw [← hV]; exact vf_lt hf) (by omega) hpc
      rw [← hK] at this
      exact_mod_cast this
    have hnd := nDigits_le hVK (by omega)
    have hndp := Lib.nDigits_pos V
    have hsh : IntKind.i64.wrap (19 * 2 ^ c) = (K : Int) := by
      have : (19 * 2 ^ c : Int) = K := by rw [hK]; simp
      rw [this, IntKind.wrap_i64]; omega
    have C1 := hid (fun (z : Int) hz W => levels_c p z W hz (by omega))
    have C2 := hid (fun W => bases_c c W (by omega))
    have HNum := hid (show Num w (.slice ao n ca) n (V : Int) from ⟨ao, n, ca, f, rfl, hr, htg, hf, ff, Nat.le_refl _, hV, hca, hcam⟩)
    have HDv := hid hdiv; have HP := hid hp; have HC := hid hc; have HKK := hid hK; have HVK := hid hVK; have HT := hid htab
    have hhi : ((n : Int) * 64 + 63 - 1) / 63 = (p : Int) := by rw [hp]; omega
    clear hdiv hr htg hf ff hV hp hc hK hVK htab hpc h2c h2c1
    have h0i : ((n : Int) == 0) = false := by simp; omega
    go_enter Tryd.func22, Tryd.ntmps22
    go_wp2_with fail
    refine (C1.out _ rfl _).mono ?_
    rintro e w1 ⟨rfl, rfl⟩
    rw [← HC.out]
    clear C1
    go_wp2_with (at_make; refine wpList_make_blk .u8 w1 rfl (.tmp 16) (.tmp 16) 54 rfl 5 1 Tryd.underlying54 Tryd.infoU8 .i64 .i64 K K K rfl rfl rfl rfl (by omega) (by unfold maxLen; omega) ?_; intro w2 hb2 hbel2)
    have HBk2 := hid hb2
    have HNum2 := hid (HNum.out.below hbel2)
    have HT2 := hid (HT.out.below hbel2 HT.out.lt)
    clear hb2
    refine (C2.out _).mono ?_
    rintro e w3 ⟨bo, cap, rfl, hbel3, hcap, hcapm, _, hbas⟩
    have HBk3 := hid (HBk2.out.below hbel3 HBk2.out.lt)
    have HNum3 := hid (HNum2.out.below hbel3)
    have HT3 := hid (HT2.out.below hbel3 HT2.out.lt)
    have HBas := hid hbas
    have hgl : 4 < w1.heap.size := HT.out.lt
    clear C2 HBk2 HNum2 HT2 hbas
    go_wp2_with fail
    refine (putDigits_c V c HDv.out w1.heap.size 0 K K K (fun _ => 0) ao n ca n V bo cap w3 HBk3.out (by omega) (by omega) HKK.out (Nat.le_refl _) (by omega) HNum3.out (by omega) HVK.out (Int.le_refl _) HBas.out hcap hcapm (by omega) HT3.out hgl).mono ?_
    rintro e w4 ⟨rfl, hon4, t, hb4, he4, hd4⟩
    have hd5 : ∀ j, j < K → t j = dgi V (K - 1 - j) := fun j hj => by have := hd4 j hj; rwa [Nat.zero_add] at this
    have HBk4 := hid hb4; have HD := hid hd5
    have hbel4 : Below w1.heap.size w1 w4 := below_only (hbel2.trans (hbel3.mono hbel2.size)) hon4 (Nat.le_refl _) (Nat.le_trans hbel2.size hbel3.size)
    clear he4 hd4 hd5 hb4 HBk3 HNum3 HT3 HBas hon4 hbel3 hbel2 HNum HT
    obtain ⟨k0, hk0⟩ : ∃ k0, k0 = K - Lib.nDigits V := ⟨_, rfl⟩
    have hk1 : K - k0 = Lib.nDigits V := by omega
    have hk2 : k0 < K := by omega
    have hrd := HBk4.out.rd0 (Nat.le_refl _)
    have c5 := (trimLeft_c w1.heap.size 0 K K k0 t w4 hrd (Nat.le_refl _) hk2 (fun j hj => by rw [HD.out j (by omega)]; exact dgi_front (by omega)) (by rw [HD.out k0 hk2, show K - 1 - k0 = Lib.nDigits V - 1 by omega]; exact dgi_top hVp))
    rw [Nat.zero_add] at c5
    have C5 := hid c5
    clear c5
    have hcv := cv_text (P := Tryd.prog) w4 54 9 5 w1.heap.size (0 + k0) (K - k0) (sh t k0) V Tryd.underlying54 Tryd.underlying5 Tryd.underlying9 (by have := hrd.drop (i := k0) (m := Lib.nDigits V) (by omega); exact this) (fun j hj => by rw [sh_at, HD.out _ (by omega)]; congr 1; omega)
    rw [← hk1, Nat.zero_add] at hcv
    clear hrd hk0 hk1
    go_wp2_with fail
    refine C5.out.mono ?_
    rintro e w5 ⟨rfl, rfl⟩
    go_wp2
    go_ret
    exact ⟨rfl, hbel4⟩
end Go.Proofs.YtjjbmioicliipabDoor
