/-
  Walks of package nat's texts: putDigits.
-/
import Derived.Test.YtjjbmioicliipabDoorT3
namespace Go.Proofs.YtjjbmioicliipabDoor
open Go.RowKit

/-- The table of powers of ten lies as the program's text lays it. -/
def Tab (w : World) : Prop := Lib.TabIs Tryd.prog w "internal/strconv.uint64pow10" .u64 Lib.pow10Tab
theorem tab_gl : Tryd.prog.globalNamed "internal/strconv.uint64pow10" = some 4 := by kernel_rfl
theorem Tab.of {w w' : World} (h : Tab w) (he : w'.heap[4]? = w.heap[4]?) : Tab w' := by
  unfold Tab Lib.TabIs World.var? at *
  rw [tab_gl] at h ⊢
  simp only [Option.bind_some] at h ⊢
  rw [he]; exact h
theorem Tab.lt {w : World} (h : Tab w) : 4 < w.heap.size := by
  unfold Tab Lib.TabIs World.var? at h
  rw [tab_gl] at h
  simp only [Option.bind_some] at h
  rcases Nat.lt_or_ge 4 w.heap.size with h' | h'
  · exact h'
  · rw [Array.getElem?_eq_none h'] at h; simp at h
theorem Tab.below {w w' : World} {B : Nat} (h : Tab w) (hb : Below B w w') (hB : 4 < B) : Tab w' := h.of (hb.block _ hB)
theorem Tab.only {w w' : World} {g : Nat} (h : Tab w) (hb : Only g w w') (hg : 4 < g) : Tab w' := h.of (hb.block _ h.lt (by omega))

/-- divMod does its work at these numbers. -/
def DivOk (X Y : Int) : Prop := ∀ (ao bo : Option Addr) (n m ca cb : Nat) (f h : Nat → Int) (w : World), n ≤ 8796093022208 → m ≤ 8796093022208 → Rd .u64 w ao n f → Rd .u64 w bo m h → Lm f n → Lm h m → Fm f n → Fm h m → vf f n = X → vf h m = Y →
    Calls Tryd.prog 18 #[.slice ao n ca, .slice bo m cb] w fun e w' => ∃ a1 k1 c1 q a2 k2 c2 r, e = .returned (.tuple #[.slice a1 k1 c1, .slice a2 k2 c2]) ∧ Res n w w' a1 k1 c1 q ∧ Res (n + 1) w w' a2 k2 c2 r ∧ vf f n = vf q k1 * vf h m + vf r k2 ∧ 0 ≤ vf r k2 ∧ vf r k2 < vf h m
theorem divOk_small {X Y : Int} (hY : 0 < Y) (h : Y < 18446744073709551616 ∨ X < Y) : DivOk X Y := by
  intro ao bo n m ca cb f h' w hn hm hr hs hf hh ff fh hX hY'
  refine divMod_small ao bo n m ca cb f h' w hn hm hr hs hf hh ff fh ?_
  rcases h with h | h
  · left
    have h1 : m ≤ 1 := by
      refine vf_len (f := h') (g := fun _ => Y) (m := 1) hh (lm_const (Int.le_of_lt hY) h 1) fh ?_
      rw [hY']; simp [vf, pw]
    have h2 : m ≠ 0 := fun h0 => by subst h0; simp [vf] at hY'; omega
    omega
  · right; omega

theorem dgi_hi {V H R c : Nat} (hV : V = H * 10 ^ c + R) (hR : R < 10 ^ c) (e : Nat) : dgi H e = dgi V (c + e) := by
  unfold dgi
  have : V / 10 ^ (c + e) = H / 10 ^ e := by
    rw [Nat.pow_add, ← Nat.div_div_eq_div_mul, hV]
    congr 1
    rw [Nat.add_comm, Nat.add_mul_div_right _ _ (Nat.pow_pos (by omega)), Nat.div_eq_of_lt hR]; omega
  rw [this]
theorem dgi_lo {V H R c : Nat} (hV : V = H * 10 ^ c + R) (e : Nat) (he : e < c) : dgi R e = dgi V e := by
  unfold dgi
  have h1 : 10 ^ c = 10 ^ e * (10 * 10 ^ (c - e - 1)) := by
    rw [← Nat.pow_succ', ← Nat.pow_add]; congr 1; omega
  have : V / 10 ^ e % 10 = R / 10 ^ e % 10 := by
    rw [hV, h1, ← Nat.mul_assoc, Nat.mul_comm H, Nat.mul_assoc, Nat.add_comm, Nat.add_mul_div_left _ _ (Nat.pow_pos (by omega))]
    rw [← Nat.mul_assoc, Nat.mul_comm H 10, Nat.mul_assoc, Nat.add_mul_mod_self_left]
  rw [this]

set_option maxRecDepth 100000 in
set_option maxHeartbeats 2000000 in
/-- putDigits: the digits of a number below the last base squared. -/
theorem putDigits_c (M : Int) (c : Nat) : ∀ (_ : ∀ j, j < c → ∀ X, 0 ≤ X → X ≤ M → DivOk X (tens j)) (g o L cap N : Nat) (t : Nat → Int) (ao : Option Addr) (n ca C : Nat) (V : Nat) (bo : Option Addr) (cb : Nat) (w : World) (_ : Blk .u8 5 w g N t) (_ : o + L ≤ N) (_ : N ≤ 140737488355328) (_ : L = 19 * 2 ^ c) (_ : L ≤ cap) (_ : cap ≤ 140737488355328)
    (_ : Num w (.slice ao n ca) C V) (_ : C + c ≤ 4398046511104) (_ : V < 10 ^ L) (_ : (V : Int) ≤ M) (_ : Bas w bo c) (_ : c ≤ cb) (_ : cb ≤ maxLen) (_ : c ≤ 30) (_ : Tab w) (_ : 4 < g),
    Calls Tryd.prog 38 #[.slice (some ⟨g, o, none⟩) L cap, .slice ao n ca, .slice bo c cb] w fun e w' => e = .returned (.tuple #[]) ∧ Only g w w' ∧
      ∃ t', Blk .u8 5 w' g N t' ∧ (∀ j, j < o ∨ o + L ≤ j → t' j = t j) ∧ (∀ j, j < L → t' (o + j) = dgi V (L - 1 - j)) := by
  induction c with
  | zero =>
    intro hdiv g o L cap N t ao n ca C V bo cb w hb ho hN hL hcap hcm hnum hC hV hVM hbas hcb hcbm hc30 htab hg
    simp at hL
    subst hL
    obtain ⟨ao', n', ca', f, hv, hr, ht, hl, hf, hn, hvf, _⟩ := hnum
    cases hv
    have hV64 : V < 18446744073709551616 := by have : 10 ^ 19 < 18446744073709551616 := by decide
                                               omega
    have hn1 : n ≤ 1 := by
      refine vf_len (f := f) (g := fun _ => (V : Int)) (m := 1) hl (lm_const (by omega) (by omega) 1) hf ?_
      rw [hvf]; simp [vf, pw]
    have he : ext f n 0 = V := by
      rcases (show n = 0 ∨ n = 1 by omega) with rfl | rfl
      · simp [vf] at hvf; rw [ext_out _ _ _ (by omega)]; omega
      · rw [ext_in _ _ _ (by omega)]; simpa [vf, pw] using hvf
    have c1 := limbAt_c ao n ca f 0 w (by omega) (by omega) hr
    rw [he] at c1
    have c2 := putPiece_c g o 19 cap N t V w hb ho hN (by omega) hcap hcm hV hV64 htab
    have C1 := hid c1; have C2 := hid c2
    clear c1 c2 hb hr ht hl hf hvf he hbas htab hdiv hV
    go_enter Tryd.func38, Tryd.ntmps38
    go_wp2_with fail
    refine C1.out.mono ?_
    rintro e w1 ⟨rfl, rfl⟩
    go_wp2_with fail
    refine C2.out.mono ?_
    rintro e w1 ⟨rfl, hrest⟩
    have HRest := hid hrest
    clear hrest
    go_wp2
    exact bodyPost_ret (v := .tuple #[]) (results_none rfl _ _ _) rfl ⟨rfl, HRest.out⟩
  | succ c ih =>
    intro hdiv g o L cap N t ao n ca C V bo cb w hb ho hN hL hcap hcm hnum hC hV hVM hbas hcb hcbm hc30 htab hg
    have IH := hid (ih (fun j hj => hdiv j (by omega)))
    obtain ⟨K, hK⟩ : ∃ K, K = 19 * 2 ^ c := ⟨_, rfl⟩
    have hLK : L = 2 * K := by rw [hL, hK, Nat.pow_succ]; omega
    have hKt : tens c = ((10 ^ K : Nat) : Int) := by rw [hK]; simp [tens]
    obtain ⟨ao', n', ca', f, hv, hr, ht, hl, hf, hn, hvf, _⟩ := hnum
    cases hv
    obtain ⟨b, u, arr, fr, rfl, hbt, hbc, hbn⟩ := hbas c (by omega)
    obtain ⟨a1, n1, c1, f1, rfl, hr1, ht1, hl1, hf1, hn1, hvf1, _⟩ := hbn
    have hn1b : n1 ≤ 1073741824 := Nat.le_trans hn1 (Nat.pow_le_pow_right (n := 2) (by omega) (show c ≤ 30 by omega))
    have cd := hdiv c (by omega) V (by omega) hVM ao a1 n n1 ca c1 f f1 w (by omega) (by omega) hr hr1 hl hl1 hf hf1 hvf hvf1
    rw [hvf, hvf1, hKt] at cd
    have CD := hid cd; have HB := hid hbas; have HBk := hid hb; have HT := hid htab; have HV := hid hV
    have HK := hid hK
    clear cd hbas hb htab hV hr ht hl hf hvf hr1 ht1 hl1 hf1 hvf1 hKt ih hdiv hK hL hbt
    have hK1 : 1 ≤ K := by rw [HK.out]; have := Nat.pow_pos (n := c) (show 0 < 2 by omega); omega
    subst hLK
    unfold maxLen at hcbm
    go_enter Tryd.func38, Tryd.ntmps38
    go_wp2_with fail
    refine CD.out.mono ?_
    rintro e w1 ⟨q1, k1, e1, fq, q2, k2, e2, fr', rfl, hres1, hres2, hdv, hr0, hr1⟩
    have hq0 := vf_nonneg hres1.lm
    obtain ⟨H, hH⟩ : ∃ H : Nat, vf fq k1 = H := ⟨(vf fq k1).toNat, by omega⟩
    obtain ⟨R, hR⟩ : ∃ R : Nat, vf fr' k2 = R := ⟨(vf fr' k2).toNat, by omega⟩
    rw [hH, hR] at hdv
    rw [hR] at hr1
    have hVn : V = H * 10 ^ K + R := by exact_mod_cast hdv
    have hRl : R < 10 ^ K := by exact_mod_cast hr1
    have hHl : H < 10 ^ K := by
      have := HV.out
      rw [hVn, show 2 * K = K + K by omega, Nat.pow_add] at this
      apply Nat.lt_of_not_le; intro h
      have := Nat.mul_le_mul_right (10 ^ K) h
      omega
    have hHM : (H : Int) ≤ M := by
      have h1 : H * 1 ≤ H * 10 ^ K := Nat.mul_le_mul_left H (Nat.pow_pos (by omega))
      have h2 : H ≤ V := by omega
      omega
    have hRM : (R : Int) ≤ M := by
      have h2 : R ≤ V := by omega
      omega
    have N1 := hid (show Num w1 (.slice q1 k1 e1) n (H : Int) by have := hres1.num (by omega); rw [hH] at this; exact this)
    have N2 := hid (show Num w1 (.slice q2 k2 e2) (n + 1) (R : Int) by have := hres2.num (by omega); rw [hR] at this; exact this)
    have hb1 := hres1.bel
    have HBk1 := hid (HBk.out.below hb1 HBk.out.lt)
    have HB1 := hid ((HB.out.below hb1).take (show c ≤ c + 1 by omega))
    have HT1 := hid (HT.out.below hb1 HT.out.lt)
    have hon1 : Only g w w1 := Only.of_below hb1
    have HVn := hid hVn; have HRl := hid hRl; have HHl := hid hHl
    clear hVn hRl hHl hdv hr1 hr0 hH hR hq0 hres1 hres2 hb1 HBk HB HT CD HV hbc
    have hcut : 2 * (K : Int) / 2 = K := by omega
    have hne1 : ¬ (K = cap) := by omega
    have hne2 : ¬ (cap = K) := by omega
    have hne3 : ¬ (cap - K = 0) := by omega
    have h2K : 2 * K - K = K := by omega
    have H2K := hid h2K
    clear h2K
    have CA := hid (fun W (h1 : Blk .u8 5 W g N t) (h2 : Num W (.slice q1 k1 e1) n (H : Int)) (h3 : Bas W (some ⟨b, 0, none⟩) c) (h4 : Tab W) => IH.out g o K cap N t q1 k1 e1 n H (some ⟨b, 0, none⟩) cb W h1 (by omega) hN HK.out (by omega) hcm h2 (by omega) HHl.out hHM h3 (by omega) (by unfold maxLen; omega) (by omega) h4 hg)
    have CB := hid (fun t W (h1 : Blk .u8 5 W g N t) (h2 : Num W (.slice q2 k2 e2) (n + 1) (R : Int)) (h3 : Bas W (some ⟨b, 0, none⟩) c) (h4 : Tab W) => IH.out g (o + K) (2 * K - K) (cap - K) N t q2 k2 e2 (n + 1) R (some ⟨b, 0, none⟩) cb W h1 (by omega) hN (by rw [H2K.out]; exact HK.out) (by omega) (by omega) h2 (by omega) (by rw [H2K.out]; exact HRl.out) hRM h3 (by omega) (by unfold maxLen; omega) (by omega) h4 hg)
    clear IH
    go_wp2_with fail
    go_region_with (go_at_call 38; refine (CA.out _ (by exact HBk1.out) (by exact N1.out) (by exact HB1.out) (by exact HT1.out)).mono ?_; rintro e w2 ⟨rfl, hon2, t2, hb2, he2, hd2⟩)
    all_goals
      have hon2' : Only g w1 w2 := (Only.refl g w1).drew.trans hon2
      obtain ⟨curx, hgx, _, _⟩ := id HBk1.out
      have N2' := hid (N2.out.only hon2' hgx (by decide))
      have HB2' := hid (HB1.out.only hon2' hgx (by decide) (by decide))
      have HT2' := hid (HT1.out.only hon2' hg)
      have HE2 := hid he2; have HD2 := hid hd2; have HBk2 := hid hb2
      clear he2 hd2 hb2 hgx hon2
      go_wp2_with fail
      go_region_with (go_at_call 38; refine (CB.out t2 _ (by exact HBk2.out) (by exact N2'.out) (by exact HB2'.out) (by exact HT2'.out)).mono ?_; rintro e w3 ⟨rfl, hon3, t3, hb3, he3, hd3⟩)
      all_goals
        have HE3 := hid he3; have HD3 := hid hd3; have HBk3 := hid hb3
        clear he3 hd3 hb3
        go_wp2
        refine bodyPost_end (v := .tuple #[]) (results_none rfl _ _ _) rfl ⟨rfl, (hon1.trans hon2').drew.trans hon3, t3, HBk3.out, fun j hj => ?_, fun j hj => ?_⟩
        · exact (HE3.out j (by omega)).trans (HE2.out j (by omega))
        · by_cases hjk : j < K
          · rw [HE3.out _ (by omega), HD2.out j hjk, dgi_hi HVn.out HRl.out]
            congr 1; omega
          · have e1 := HD3.out (j - K) (by omega)
            rw [show o + K + (j - K) = o + j by omega] at e1
            rw [e1, H2K.out, dgi_lo HVn.out _ (by omega)]
            congr 1; omega
end Go.Proofs.YtjjbmioicliipabDoor
