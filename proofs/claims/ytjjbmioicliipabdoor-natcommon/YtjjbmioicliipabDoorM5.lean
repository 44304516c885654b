/-
  Package nat's products for all lengths.
-/
import Derived.Test.YtjjbmioicliipabDoorM4
namespace Go.Proofs.YtjjbmioicliipabDoor
open Go.RowKit

set_option maxHeartbeats 2000000 in
/-- addProduct, where products of shorter lists are right. -/
theorem addProd_big (n m ca cb : Nat) (hn : n ≤ 2199023255552) (hm : m ≤ 2199023255552) (hca : n ≤ ca) (hcb : m ≤ cb) (hcam : ca ≤ 9223372036854775807) (hcbm : cb ≤ 9223372036854775807) (hn40 : 40 ≤ n) (hm40 : 40 ≤ m)
    (hih : ∀ k l x y, k + l < n + m → k ≤ x → l ≤ y → x ≤ 9223372036854775807 → y ≤ 9223372036854775807 → AddProdC k l x y) : AddProdC n m ca cb := by
  intro g o cap N f ao bo D fa fb w hb hf ho hD hN hra hrb ha hbb hoa hob hcap hcm hroom
  by_cases hsw : n < m
  · have hmul : vf fa n * vf fb m = vf fb m * vf fa n := Int.mul_comm _ _
    rw [hmul] at hroom ⊢
    obtain ⟨ba, oa, rfl⟩ := hrb.at (by omega)
    obtain ⟨bb, obb, rfl⟩ := hra.at (by omega)
    have hne_a : ba ≠ g := hob (by omega) _ rfl
    have hne_b : bb ≠ g := hoa (by omega) _ rfl
    obtain ⟨c, hc⟩ : ∃ c, c = (m + 1) / 2 := ⟨_, rfl⟩
    have CH := hid (half_c m c m w (by omega) rfl hc)
    by_cases hcut : n ≤ c
    · have C := hid (piece_c g o cap N f ba oa (some ⟨bb, obb, none⟩) m n cb ca D fb fa w hb hf ho (by omega) hN hrb hra hbb ha (hne_a) hoa hcap hcm hcb hcbm (by omega) (fun k x h1 h2 h3 => hih k n x ca (by omega) h2 hca (by omega) hcam) hroom)
      clear hroom hra hrb ha hbb hoa hob hb hf hih hc hne_a hne_b hmul
      go_enter Tryd.func50, Tryd.ntmps50
      go_wp2_with fail
      refine CH.out.mono ?_
      rintro e w' ⟨rfl, rfl⟩
      go_wp2_with fail
      refine C.out.mono ?_
      rintro e w' ⟨rfl, hrest⟩
      have HRest := hid hrest
      clear hrest
      go_wp2
      exact bodyPost_end (v := .tuple #[]) (results_none rfl _ _ _) rfl ⟨rfl, HRest.out⟩
    · have C := hid (cut_c g o cap N f ba oa bb obb m n cb ca D c fb fa w hb hf ho (by omega) hN hrb hra hbb ha hcap hcm hcb hcbm hca hcam hc (by omega) (by omega) (by omega) (by omega) (fun k l x y h => hih k l x y (by omega)) hroom)
      clear hroom hra hrb ha hbb hoa hob hb hf hih hc hne_a hne_b hmul
      go_enter Tryd.func50, Tryd.ntmps50
      go_wp2_with fail
      refine CH.out.mono ?_
      rintro e w' ⟨rfl, rfl⟩
      go_wp2_with fail
      refine C.out.mono ?_
      rintro e w' ⟨rfl, hrest⟩
      have HRest := hid hrest
      clear hrest
      go_wp2
      exact bodyPost_end (v := .tuple #[]) (results_none rfl _ _ _) rfl ⟨rfl, HRest.out⟩
  · skip
    obtain ⟨ba, oa, rfl⟩ := hra.at (by omega)
    obtain ⟨bb, obb, rfl⟩ := hrb.at (by omega)
    have hne_a : ba ≠ g := hoa (by omega) _ rfl
    have hne_b : bb ≠ g := hob (by omega) _ rfl
    obtain ⟨c, hc⟩ : ∃ c, c = (n + 1) / 2 := ⟨_, rfl⟩
    have CH := hid (half_c n c n w (by omega) rfl hc)
    by_cases hcut : m ≤ c
    · have C := hid (piece_c g o cap N f ba oa (some ⟨bb, obb, none⟩) n m ca cb D fa fb w hb hf ho (by omega) hN hra hrb ha hbb (hne_a) hob hcap hcm hca hcam (by omega) (fun k x h1 h2 h3 => hih k m x cb (by omega) h2 hcb (by omega) hcbm) hroom)
      clear hroom hra hrb ha hbb hoa hob hb hf hih hc hne_a hne_b
      go_enter Tryd.func50, Tryd.ntmps50
      go_wp2_with fail
      refine CH.out.mono ?_
      rintro e w' ⟨rfl, rfl⟩
      go_wp2_with fail
      refine C.out.mono ?_
      rintro e w' ⟨rfl, hrest⟩
      have HRest := hid hrest
      clear hrest
      go_wp2
      exact bodyPost_end (v := .tuple #[]) (results_none rfl _ _ _) rfl ⟨rfl, HRest.out⟩
    · have C := hid (cut_c g o cap N f ba oa bb obb n m ca cb D c fa fb w hb hf ho (by omega) hN hra hrb ha hbb hcap hcm hca hcam hcb hcbm hc (by omega) (by omega) (by omega) (by omega) (fun k l x y h => hih k l x y (by omega)) hroom)
      clear hroom hra hrb ha hbb hoa hob hb hf hih hc hne_a hne_b
      go_enter Tryd.func50, Tryd.ntmps50
      go_wp2_with fail
      refine CH.out.mono ?_
      rintro e w' ⟨rfl, rfl⟩
      go_wp2_with fail
      refine C.out.mono ?_
      rintro e w' ⟨rfl, hrest⟩
      have HRest := hid hrest
      clear hrest
      go_wp2
      exact bodyPost_end (v := .tuple #[]) (results_none rfl _ _ _) rfl ⟨rfl, HRest.out⟩

/-- addProduct: for all lists. -/
theorem addProd_all (s : Nat) : ∀ n m ca cb, n + m ≤ s → s ≤ 2199023255552 → n ≤ ca → m ≤ cb → ca ≤ 9223372036854775807 → cb ≤ 9223372036854775807 → AddProdC n m ca cb := by
  induction s with
  | zero => intro n m ca cb h _ _ _ _ _; exact (addProd_small n m (by omega)).at ca cb
  | succ s ih =>
    intro n m ca cb h hs h1 h2 h3 h4
    by_cases hsm : n < 40 ∨ m < 40
    · exact (addProd_small n m hsm).at ca cb
    · exact addProd_big n m ca cb (by omega) (by omega) h1 h2 h3 h4 (by omega) (by omega) (fun k l x y hk => ih k l x y (by omega) (by omega))

set_option maxHeartbeats 1000000 in
/-- mul: the product. -/
theorem mul_c (ao bo : Option Addr) (n m ca cb : Nat) (fa fb : Nat → Int) (w : World) (hn : n ≤ 1099511627776) (hm : m ≤ 1099511627776) (hca : n ≤ ca) (hcb : m ≤ cb) (hcam : ca ≤ 9223372036854775807) (hcbm : cb ≤ 9223372036854775807) (hra : Rd .u64 w ao n fa) (hrb : Rd .u64 w bo m fb) (ha : Lm fa n) (hb : Lm fb m) :
    Calls Tryd.prog 19 #[.slice ao n ca, .slice bo m cb] w fun e w' => ∃ ao' k cap' f', e = .returned (.slice ao' k cap') ∧ Res (n + m) w w' ao' k cap' f' ∧ vf f' k = vf fa n * vf fb m := by
  have c := product_c ao bo n m ca cb fa fb w (addProd_all (n + m) n m ca cb (Nat.le_refl _) (by omega) hca hcb hcam hcbm) (by omega) (by omega) hra hrb ha hb
  have C := hid c
  clear c ha hb hra hrb
  go_enter Tryd.func19, Tryd.ntmps19
  go_wp2_with fail
  refine C.out.mono ?_
  rintro e w1 ⟨rfl, hbel, f1, hb1, hl1, hv1⟩
  have HV1 := hid hv1
  clear hv1
  go_wp2_with fail
  refine (trim_res w.heap.size (n + m) (n + m) f1 w w1 hbel (Nat.le_refl _) hb1 (Nat.le_refl _) (by omega) hl1).mono ?_
  rintro e w2 ⟨rfl, ao', k, cap', rfl, hres, hkn, hv⟩
  have HV := hid hv
  clear hv
  go_wp2
  go_ret
  exact ⟨ao', k, cap', f1, rfl, hres, by rw [HV.out]; exact HV1.out⟩
end Go.Proofs.YtjjbmioicliipabDoor
