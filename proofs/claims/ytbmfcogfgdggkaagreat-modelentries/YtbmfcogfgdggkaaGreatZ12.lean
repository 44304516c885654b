/-
  The walk of the law ModelEntries (written by makers/f44.py).
-/
import Derived.Test.YtbmfcogfgdggkaaGreatZ11
namespace Go.Proofs.YtbmfcogfgdggkaaGreat
open Go.RowKit

theorem sumN_le {f : Nat → Nat} {K : Nat} : ∀ {n : Nat}, (∀ j, j < n → f j ≤ K) → sumN f n ≤ n * K
  | 0, _ => by simp [sumN]
  | n + 1, h => by
    have h1 := sumN_le (fun j hj => h j (by omega)) (n := n)
    have h2 := h n (by omega)
    have h3 : (n + 1) * K = n * K + K := Nat.succ_mul n K
    simp only [sumN]; omega
/-- What a twin's calls answer. -/
def TwE (w : World) (V : Value) (er : Int) (kk : Nat) (E : Nat → List (Int × Rat)) (ac ar : ByteArray → Int × Int) : Prop :=
  (∀ w', Below w.heap.size w w' → Calls Tryz.prog 17 #[V] w' fun e w2 => LsA 10 w' w2 e er kk E) ∧
  (∀ z w', Below w.heap.size w w' → Calls Tryz.prog 22 #[V, .string z] w' fun e w2 => e = .returned (.tuple #[.int .i64 (ac z).1, .int .i64 (ac z).2]) ∧ Below w'.heap.size w' w2) ∧
  (∀ z w', Below w.heap.size w w' → Calls Tryz.prog 24 #[V, .string z] w' fun e w2 => e = .returned (.tuple #[.int .i64 (ar z).1, .int .i64 (ar z).2]) ∧ Below w'.heap.size w' w2)
/-- A row's terms, as the reference reads them. -/
structure RwE (w : World) (ra : Option Addr) (k : Nat) (r : Lr) (v : RV) : Prop where
  at9 : ∃ b o, ra = some ⟨b, o, none⟩ ∧ Cs w b (o + k * 10) r.vs
  tk : r.tk = v.ts.length
  len : v.ts.length ≤ 300
  from' : ∀ w', Below w.heap.size w w' → Calls Tryz.prog 31 #[.slice r.ta r.tk r.tc] w' fun e w2 => FrNew 20 w' w2 e r.tk v.ts
theorem RwE.of {w : World} {M : Mo} {q : Rat} {cs : List CV} {rs : List RV} (h : MoV 10 w M q cs rs) (hr : MoR w M) (hk : MoK 10 M) {k : Nat} {v : RV} (hv : rs[k]? = some v) : RwE w M.ra k (M.R k) v := by
  have hlt : k < M.rk := by rw [h.rk]; exact (List.getElem?_eq_some_iff.1 hv).1
  obtain ⟨_, kr⟩ := h.rls k v hv
  obtain ⟨b, o, e, hc, hn⟩ := hr.rls k hlt
  have h3 := (hk.r k hlt).2.2.1
  refine ⟨⟨b, o, e, hc⟩, kr.tk, by rw [← kr.tk]; exact h3, fun w' hw => fromTN_c (L := 10) (hn.tl.below hw) (Nat.le_trans h3 (by decide)) (by decide) kr.tk.symm (fun p hp => ?_)⟩
  obtain ⟨⟨z, r⟩, hz⟩ : ∃ x, v.ts[p]? = some x := ⟨_, List.getElem?_eq_getElem (by rw [← kr.tk]; exact hp)⟩
  obtain ⟨k1, k2, _⟩ := kr.tl p z r hz
  exact ⟨r, by rw [k1]; exact hz, k2.below hw⟩

set_option maxRecDepth 100000 in
set_option maxHeartbeats 8000000 in
theorem modelEntries_c {w : World} {M : Mo} (hX : MoX w M) (hN : MoN M) (_ : MoC M) : Calls Tryz.prog 7 #[M.val] w fun e w' => e = .returned (.bool true) ∧ Below w.heap.size w w' := by
  obtain ⟨lb, hlb⟩ : ∃ t, lgM 10 M = t := ⟨_, rfl⟩
  have CL := hid (fun w' (hw : Below w.heap.size w w') => mLight_c (w := w') (K := 10) (hX.below hw).light.1 (hX.below hw).light.2)
  rw [hlb] at CL
  obtain ⟨q, cs, rs, hv⟩ : ∃ q cs rs, lb = true → chkE M = 0 → MoV 10 w M q cs rs ∧ mvOk cs rs = true := by
    by_cases h : lb = true
    · by_cases h0 : chkE M = 0
      · obtain ⟨l1, l2, _⟩ := chkE_ok h0
        obtain ⟨q, cs, rs, a, b⟩ := (hX.both hN (lgM_k (hlb.trans h)) (by decide) l1 l2).1.mov (lgM_k (hlb.trans h) l1 l2) h0
        exact ⟨q, cs, rs, fun _ _ => ⟨a, b⟩⟩
      · exact ⟨0, [], [], fun _ e => absurd e h0⟩
    · exact ⟨0, [], [], fun e => absurd e h⟩
  have CT : Hid (∀ w', Below w.heap.size w w' → lb = true → Calls Tryz.prog 12 #[M.val] w' fun e w2 => ∃ V, e = .returned V ∧ Below w'.heap.size w' w2 ∧ TwE w2 V (chkE M) (kkM M) (fun j => clq rs (j : Int) M.rk) (atCol M) (atRow M)) := fun w' hw h => (twin_w (w := w') (K := 10) (hX.below hw) hN (lgM_k (hlb.trans h)) (by decide)).mono fun e w2 ⟨M', h1, h2, h3, h4, h5, h6⟩ => ⟨_, h1, h2,
    fun w3 hw3 => (columns_c (h4.below hw3) (fun a b => (h6 a b).mot (by decide))).mono fun e w4 k => CoAns.lst h3 k (hv h),
    fun z w3 hw3 => (mCol_c (z := z) (h4.below hw3)).mono fun e w4 k => by rw [h3.col] at k; exact k,
    fun z w3 hw3 => (mRow_c (z := z) (h4.below hw3)).mono fun e w4 k => by rw [h3.row] at k; exact k⟩
  have CK := hid (fun w' (hw : Below w.heap.size w w') (h : lb = true) => check_w (w := w') (M := M) (fun a b => ((hX.below hw).both hN (lgM_k (hlb.trans h)) (by decide) a b).1))
  have HZ : Hid (chkE M = 0 → lb = true → M.ck ≤ 64 ∧ M.rk ≤ 64 ∧ M.rk = rs.length ∧ kkM M = M.ck ∧ (∀ j, j < M.ck → atCol M (M.C j).nm = ((j : Int), 0)) ∧ (∀ j, j < M.rk → atRow M (M.R j).nm = ((j : Int), 0)) ∧ Cls w M.ca M.ck M.C ∧ (∀ k v, rs[k]? = some v → RwE w M.ra k (M.R k) v) ∧ sumN (fun j => (clq rs (j : Int) M.rk).length) M.ck = sumN (fun k => ((rs[k]?.map (fun v => v.ts.length)).getD 0)) M.rk) := fun h0 h => by
    obtain ⟨l1, l2, _⟩ := chkE_ok h0
    obtain ⟨hV, hok⟩ := hv h h0
    have hR := (hX.both hN (lgM_k (hlb.trans h)) (by decide) l1 l2).1
    simp only [mvOk, Bool.and_eq_true, decide_eq_true_eq, List.all_eq_true] at hok
    refine ⟨l1, l2, hV.rk, by unfold kkM; rw [if_pos h0], fun j hj => atCol_self h0 hj, fun j hj => atRow_self h0 hj, hR.cls, fun k v hk => RwE.of hV hR (lgM_k (hlb.trans h) l1 l2) hk, ?_⟩
    rw [hV.ck]
    exact clq_count (fun i v hi => (hok.2.2.2.1 v (List.mem_of_getElem? hi)).2.1) (by rw [hV.rk]; exact Nat.le_refl _)
  clear hX hN hlb hv
  obtain ⟨er, her⟩ : ∃ t, chkE M = t := ⟨_, rfl⟩
  obtain ⟨ac, hac⟩ : ∃ t, atCol M = t := ⟨_, rfl⟩
  obtain ⟨ar, har⟩ : ∃ t, atRow M = t := ⟨_, rfl⟩
  obtain ⟨kk, hkk⟩ : ∃ t, kkM M = t := ⟨_, rfl⟩
  rw [her, hac, har, hkk] at CT
  rw [her] at CK
  rw [her, hac, har, hkk] at HZ
  clear her hac har hkk
  obtain ⟨⟨s, x, n, c, f, y, m, d, g⟩, ca, ck, cc, C, ra, rk, rc, R⟩ := M
  replace CL : Hid (∀ w', Below w.heap.size w w' → Calls Tryz.prog 10 #[.agg #[.bool s, .slice x n c, .slice y m d, .slice ca ck cc, .slice ra rk rc], .int .i64 10] w' fun e w2 => e = .returned (.bool lb) ∧ Below w'.heap.size w' w2) := CL
  obtain ⟨E, hE⟩ : ∃ E, (fun j : Nat => clq rs (j : Int) rk) = E := ⟨_, rfl⟩
  replace CT : Hid (∀ w', Below w.heap.size w w' → lb = true → Calls Tryz.prog 12 #[.agg #[.bool s, .slice x n c, .slice y m d, .slice ca ck cc, .slice ra rk rc]] w' fun e w2 => ∃ V, e = .returned V ∧ Below w'.heap.size w' w2 ∧ TwE w2 V er kk E ac ar) := by subst hE; exact CT
  replace CK : Hid (∀ w', Below w.heap.size w w' → lb = true → Calls Tryz.prog 14 #[.agg #[.bool s, .slice x n c, .slice y m d, .slice ca ck cc, .slice ra rk rc]] w' fun e w2 => e = .returned (.int .i64 er) ∧ Below w'.heap.size w' w2) := CK
  replace HZ : Hid (er = 0 → lb = true → ck ≤ 64 ∧ rk ≤ 64 ∧ rk = rs.length ∧ kk = ck ∧ (∀ j, j < ck → ac (C j).nm = ((j : Int), 0)) ∧ (∀ j, j < rk → ar (R j).nm = ((j : Int), 0)) ∧ Cls w ca ck C ∧ (∀ k v, rs[k]? = some v → RwE w ra k (R k) v) ∧ sumN (fun j => (E j).length) ck = sumN (fun k => ((rs[k]?.map (fun v => v.ts.length)).getD 0)) rk) := by subst hE; exact HZ
  have HE : Hid (∀ j : Nat, E j = clq rs (j : Int) rk) := fun j => by rw [← hE]
  clear hE
  show Calls Tryz.prog 7 #[.agg #[.bool s, .slice x n c, .slice y m d, .slice ca ck cc, .slice ra rk rc]] w _
  have h3 := below_alloc (Below.refl w.heap.size w) (.cells #[.bool s, .slice x n c, .slice y m d, .slice ca ck cc, .slice ra rk rc] 28)
  have B1 := bk_new w [.bool s, .slice x n c, .slice y m d, .slice ca ck cc, .slice ra rk rc] 28
  replace B1 : Bk (w.alloc (.cells #[.bool s, .slice x n c, .slice y m d, .slice ca ck cc, .slice ra rk rc] 28)) w.heap.size [.bool s, .slice x n c, .slice y m d, .slice ca ck cc, .slice ra rk rc] 28 := B1
  go_enter Tryz.func7, Tryz.ntmps7
  go_wp2_with fail
  generalize w.alloc (.cells #[.bool s, .slice x n c, .slice y m d, .slice ca ck cc, .slice ra rk rc] 28) = w1 at *
  refine awake7_c.mono ?_
  rintro e w2 ⟨rfl, hb2⟩
  replace B1 := B1.below hb2
  have HW2 := hid (h3.trans (hb2.mono h3.size))
  clear hb2 h3
  have r0 := B1.cell (j := 0) rfl
  have r1 := B1.cell (j := 1) rfl
  have r2 := B1.cell (j := 2) rfl
  have r3 := B1.cell (j := 3) rfl
  have r4 := B1.cell (j := 4) rfl
  go_wp2_with fail
  refine (CL.out _ HW2.out).mono ?_
  rintro e w3 ⟨rfl, hb3⟩
  replace B1 := B1.below hb3
  have HW3 := hid (HW2.out.trans (hb3.mono HW2.out.size))
  clear hb3 HW2 CL r0 r1 r2 r3 r4
  cases lb
  · go_wp2
    go_ret
    exact ⟨rfl, HW3.out⟩
  have r0 := B1.cell (j := 0) rfl
  have r1 := B1.cell (j := 1) rfl
  have r2 := B1.cell (j := 2) rfl
  have r3 := B1.cell (j := 3) rfl
  have r4 := B1.cell (j := 4) rfl
  go_wp2_with fail
  refine (CT.out _ HW3.out (by first | rfl | trivial)).mono ?_
  rintro e w4 ⟨V, rfl, hb4, hT⟩
  have HV := hid hT.1
  replace B1 := B1.below hb4
  have HW4 := hid (HW3.out.trans (hb4.mono HW3.out.size))
  clear hb4 HW3 r0 r1 r2 r3 r4 hT
  go_wp2_with fail
  refine (HV.out _ (Below.refl _ _)).mono ?_
  rintro e w5 ⟨xa, xc, rfl, hb5, i1⟩
  have I1 := hid i1
  replace B1 := B1.below hb5
  have HW5 := hid (HW4.out.trans (hb5.mono HW4.out.size))
  clear hb5 HW4 HV i1
  by_cases h0 : er = 0
  case neg =>
    have hne : (er != 0) = true := by simpa using h0
    have q1 : (er == er) = true := by simp
    have r0 := B1.cell (j := 0) rfl
    have r1 := B1.cell (j := 1) rfl
    have r2 := B1.cell (j := 2) rfl
    have r3 := B1.cell (j := 3) rfl
    have r4 := B1.cell (j := 4) rfl
    go_wp2_with fail
    refine (CK.out _ HW5.out (by first | rfl | trivial)).mono ?_
    rintro e w6 ⟨rfl, hb6⟩
    have HW6 := hid (HW5.out.trans (hb6.mono HW5.out.size))
    clear hb6
    go_wp2
    go_ret
    exact ⟨rfl, HW6.out⟩
  obtain ⟨l1, l2, hrs, hkk, hac, har, hCl, hRw, hsum⟩ := HZ.out h0 (by first | rfl | trivial)
  subst h0
  replace hkk := hkk.symm
  subst hkk
  have HRS := hid hrs; have HAC := hid hac; have HAR := hid har; have HCL := hid hCl; have HRW := hid hRw; have HSUM := hid hsum
  clear HZ hrs hac har hCl hRw hsum CK
  have HBK := hid B1
  clear B1
  go_wp2_with fail
  go_loopw [5, 36] (fun cv t wr => ∃ (j : Nat), j ≤ ck ∧ t = .int .i64 j ∧ cv = .int .i64 ((sumN (fun j => (E j).length) j : Nat) : Int) ∧ Hid (Below w.heap.size w wr) ∧ Hid (Bk wr w.heap.size [.bool s, .slice x n c, .slice y m d, .slice ca ck cc, .slice ra rk rc] 28) ∧ Hid (Lst 10 wr xa ck E)) (fun _ t _ => ck - (intOf t).toNat)
  case atStart => exact ⟨0, by omega, rfl, rfl, HW5.out, HBK.out, I1.out⟩
  case round =>
    obtain ⟨j, hj, rfl, rfl, HB, HBj, HL⟩ := hrel
    clear HW5 HBK I1
    by_cases hlt : j < ck
    · obtain ⟨b, o, tj, tcj, rfl, x1, hTf⟩ := HL.out j hlt
      have i1' : ((j : Nat) : Int) < ((ck : Nat) : Int) := by omega
      obtain ⟨cn, hcn⟩ : ∃ t, sumN (fun j => (E j).length) j = t := ⟨_, rfl⟩
      have hcl : cn ≤ 4096 := by
        have h1 := sumN_le (f := fun j => (E j).length) (K := 64) (n := j) (fun i _ => by show (E i).length ≤ 64; rw [HE.out i]; exact Nat.le_trans (clq_len _ _ _) l2)
        have h2 : j * 64 ≤ 64 * 64 := Nat.mul_le_mul_right _ (by omega)
        omega
      have HCN := hid hcn
      rw [hcn]
      obtain ⟨lj, hlj⟩ : ∃ t, (E j).length = t := ⟨_, rfl⟩
      have hll : lj ≤ 64 := by rw [← hlj, HE.out j]; exact Nat.le_trans (clq_len _ _ _) l2
      rw [hlj] at x1
      have HLJ := hid hlj
      have HTf := hid hTf
      clear hcn hlj hTf
      go_wp2_with fail
      generalize wr = wo at *
      go_loopw [5, 8, 43] (fun cv lv t wr => ∃ (p : Nat) (la : Int), p ≤ lj ∧ t = .int .i64 p ∧ lv = .int .i64 la ∧ cv = .int .i64 ((cn + p : Nat) : Int) ∧ Hid (∀ a q, (E j)[p]? = some (a, q) → la < a) ∧ Hid (Below wo.heap.size wo wr)) (fun _ _ t _ => lj - (intOf t).toNat)
      case atStart => exact ⟨0, -1, by omega, rfl, rfl, by simp, fun a q h => by rw [HE.out j] at h; obtain ⟨k, e1, _, _⟩ := clq_at h; omega, Below.refl _ _⟩
      case round =>
        obtain ⟨p, la, hp, rfl, rfl, rfl, HLa, HBi⟩ := hrel
        by_cases hpl : p < lj
        · obtain ⟨⟨a, qv⟩, ha⟩ : ∃ x, (E j)[p]? = some x := ⟨_, List.getElem?_eq_getElem (by rw [HLJ.out]; exact hpl)⟩
          obtain ⟨k, rfl, hk, hq⟩ := clq_at (by rw [← HE.out j]; exact ha)
          have hla := HLa.out _ _ ha
          obtain ⟨b3, o3, t, hta, h4, hRn⟩ := (HTf.out.below HBi.out) p _ qv ha
          subst hta
          obtain ⟨st, xt, nt, ct, ft, yt, mt, dt, gt⟩ := t
          obtain ⟨v, hv⟩ : ∃ v, rs[k]? = some v := ⟨_, List.getElem?_eq_getElem (by rw [← HRS.out]; exact hk)⟩
          have hqv : atq (j : Int) v.ts = qv := by rw [hq, hv]; rfl
          have hE := HRW.out k v hv
          obtain ⟨b4, o4, hra, hcs⟩ := hE.at9
          have HBW := HB.out.trans (HBi.out.mono HB.out.size)
          have hc9 := hcs.below HBW
          have CF := hid (fun w' (hw : Below wr.heap.size wr w') => hE.from' w' (HBW.trans (hw.mono HBW.size)))
          have hlen := hE.len
          have htk := hE.tk
          obtain ⟨⟨z1, ⟨i1, ⟨s1, x1, n1, c1, f1, y1, m1, d1, g1⟩⟩, ⟨i2, ⟨s2, x2, n2, c2, f2, y2, m2, d2, g2⟩⟩, ta, tk, tc', tcol, tt⟩, hRk⟩ : ∃ t, R k = t := ⟨_, rfl⟩
          rw [hRk] at hc9 CF htk
          replace htk : tk = v.ts.length := htk
          replace CF : Hid (∀ w', Below wr.heap.size wr w' → Calls Tryz.prog 31 #[.slice ta tk tc'] w' fun e w2 => FrNew 20 w' w2 e tk v.ts) := CF
          have x9 : wr.cell? ⟨b4, o4 + k * 10 + 9, none⟩ = some (.slice ta tk tc') := hc9 9 _ rfl
          have x0 : wr.cell? ⟨b3, o3 + p * 4, none⟩ = some (.int .i64 (k : Int)) := h4.x0
          have x1 : wr.cell? ⟨b3, o3 + p * 4 + 1, none⟩ = some (.bool st) := h4.x1
          have x2 : wr.cell? ⟨b3, o3 + p * 4 + 2, none⟩ = some (.slice xt nt ct) := h4.x2
          have x3 : wr.cell? ⟨b3, o3 + p * 4 + 3, none⟩ = some (.slice yt mt dt) := h4.x3
          have i2' : ((p : Nat) : Int) < ((lj : Nat) : Int) := by omega
          have i3' : ((k : Nat) : Int) < ((rk : Nat) : Int) := by omega
          have d0 : decide (((k : Nat) : Int) ≤ la) = false := by simp; omega
          have d1 : decide (((rk : Nat) : Int) ≤ ((k : Nat) : Int)) = false := by simp; omega
          have d2 : decide (((k : Nat) : Int) ≥ ((rk : Nat) : Int)) = false := by simp; omega
          have d3 : decide (rk ≤ k) = false := by simp; omega
          have HQV := hid hqv; have HRN : Hid (Rn 10 wr st xt nt ct ft yt mt dt gt qv) := hRn
          have HNX : Hid (∀ a q, (E j)[p + 1]? = some (a, q) → (k : Int) < a) := fun a q h => clq_rise (rs := rs) (c := (j : Int)) (i := rk) (p := p) (r := p + 1) (by omega) (by rw [← HE.out j]; exact ha) (by rw [← HE.out j]; exact h)
          have HLEN := hid (show tk ≤ 10000 by omega); have HTK := hid htk
          have hb6 := below_alloc (Below.refl wr.heap.size wr) (.cells #[.int .i64 (k : Int), .bool st, .slice xt nt ct, .slice yt mt dt] 62)
          have HBJ := hid ((HBj.out.below HBi.out).below hb6)
          clear ha hq hv hE hcs hc9 hlen htk hRk hRn h4 hqv HBW hk HLa
          subst hra
          go_upto_region 16 with fail
          have hbd := Below.drew (Below.refl (wr.alloc (.cells #[.int .i64 (k : Int), .bool st, .slice xt nt ct, .slice yt mt dt] 62)).heap.size (wr.alloc (.cells #[.int .i64 (k : Int), .bool st, .slice xt nt ct, .slice yt mt dt] 62)))
          have hb7 := hb6.trans (hbd.mono hb6.size)
          have BT := bk_new wr [.int .i64 (k : Int), .bool st, .slice xt nt ct, .slice yt mt dt] 62
          replace BT : Bk (wr.alloc (.cells #[.int .i64 (k : Int), .bool st, .slice xt nt ct, .slice yt mt dt] 62)) wr.heap.size [.int .i64 (k : Int), .bool st, .slice xt nt ct, .slice yt mt dt] 62 := BT
          replace BT := BT.below hbd
          have a0 := BT.cell (j := 0) rfl
          have a1 := BT.cell (j := 1) rfl
          have a2 := BT.cell (j := 2) rfl
          have a3 := BT.cell (j := 3) rfl
          have a4 := (HBJ.out.below hbd).cell (j := 4) rfl
          have a5 := kCb hb7 x9
          have HW := hid hb7
          clear hb6 hbd hb7 x0 x1 x2 x3 x9 HBJ
          refine wp_region_held_drew (S := (fun w' => w'.cell? ⟨wr.heap.size, 0, none⟩ = some (.int .i64 (k : Int)) ∧ w'.cell? ⟨wr.heap.size, 1, none⟩ = some (.bool st) ∧ w'.cell? ⟨wr.heap.size, 2, none⟩ = some (.slice xt nt ct) ∧ w'.cell? ⟨wr.heap.size, 3, none⟩ = some (.slice yt mt dt) ∧ w'.cell? ⟨w.heap.size, 4, none⟩ = some (.slice (some ⟨b4, o4, none⟩) rk rc) ∧ w'.cell? ⟨b4, o4 + k * 10 + 9, none⟩ = some (.slice ta tk tc'))) (by kernel_rfl) ?_ (fun hHeld => ?_)
          · exact ⟨a0, a1, a2, a3, a4, a5⟩
          generalize hwd : (wr.alloc (.cells #[.int .i64 (k : Int), .bool st, .slice xt nt ct, .slice yt mt dt] 62)).drew = wd at *
          clear hwd
          refine wpAnyH_take (i := 0) (v := ?_) rfl (by kernel_rfl) (by kernel_rfl) (by kernel_rfl) (fun _ _ _ h => h) (Or.inl ⟨by rfl, ?_⟩) (by assumption) ?_
          rotate_left
          (focus (intro w0 hSw; (try dsimp only at hSw); go_simp <;> with_reducible rfl))
          simp only [List.getElem_toArray, List.getElem_cons_zero, Act.put, List.setIfInBounds_toArray, List.set_cons_zero, List.set_cons_succ]
          refine wpAnyH_take (i := 1) (v := ?_) rfl (by kernel_rfl) (by kernel_rfl) (by kernel_rfl) (fun _ _ _ h => h) (Or.inl ⟨by rfl, ?_⟩) (by assumption) ?_
          rotate_left
          (focus (intro w0 hSw; (try dsimp only at hSw); go_simp <;> with_reducible rfl))
          simp only [List.getElem_toArray, List.getElem_cons_succ, List.getElem_cons_zero, Act.put, List.setIfInBounds_toArray, List.set_cons_zero, List.set_cons_succ]
          refine wpAnyH_take (i := 2) (v := ?_) rfl (by kernel_rfl) (by kernel_rfl) (by kernel_rfl) (fun _ _ _ h => h) (Or.inl ⟨by rfl, ?_⟩) (by assumption) ?_
          rotate_left
          (focus (intro w0 hSw; (try dsimp only at hSw); go_simp <;> with_reducible rfl))
          simp only [List.getElem_toArray, List.getElem_cons_succ, List.getElem_cons_zero, Act.put, List.setIfInBounds_toArray, List.set_cons_zero, List.set_cons_succ]
          refine wpAnyH_take (i := 3) (v := ?_) rfl (by kernel_rfl) (by kernel_rfl) (by kernel_rfl) (fun _ _ _ h => h) (Or.inl ⟨by rfl, ?_⟩) (by assumption) ?_
          rotate_left
          (focus (intro w0 hSw; (try dsimp only at hSw); go_simp <;> with_reducible rfl))
          simp only [List.getElem_toArray, List.getElem_cons_succ, List.getElem_cons_zero, Act.put, List.setIfInBounds_toArray, List.set_cons_zero, List.set_cons_succ]
          refine wpAnyH_take (i := 4) (v := ?_) rfl (by kernel_rfl) (by kernel_rfl) (by kernel_rfl) (fun _ _ _ h => h) (Or.inl ⟨by rfl, ?_⟩) (by assumption) ?_
          rotate_left
          (focus (intro w0 hSw; (try dsimp only at hSw); go_simp <;> with_reducible rfl))
          simp only [List.getElem_toArray, List.getElem_cons_succ, List.getElem_cons_zero, Act.put, List.setIfInBounds_toArray, List.set_cons_zero, List.set_cons_succ]
          refine wpAnyH_take (i := 5) (v := ?_) rfl (by kernel_rfl) (by kernel_rfl) (by kernel_rfl) (fun _ _ _ h => h) (Or.inl ⟨by rfl, ?_⟩) (by assumption) ?_
          rotate_left
          (focus (intro w0 hSw; (try dsimp only at hSw); go_simp <;> with_reducible rfl))
          simp only [List.getElem_toArray, List.getElem_cons_succ, List.getElem_cons_zero, Act.put, List.setIfInBounds_toArray, List.set_cons_zero, List.set_cons_succ]
          refine wpAnyH_take (i := 6) (v := ?_) rfl (by kernel_rfl) (by kernel_rfl) (by kernel_rfl) (fun _ _ _ h => h) (Or.inl ⟨by rfl, ?_⟩) (by assumption) ?_
          rotate_left
          (focus (intro w0 hSw; (try dsimp only at hSw); go_simp <;> with_reducible rfl))
          simp only [List.getElem_toArray, List.getElem_cons_succ, List.getElem_cons_zero, Act.put, List.setIfInBounds_toArray, List.set_cons_zero, List.set_cons_succ]
          refine wpAnyH_take (i := 7) (v := ?_) rfl (by kernel_rfl) (by kernel_rfl) (by kernel_rfl) (fun _ _ _ h => h) (Or.inl ⟨by rfl, ?_⟩) (by assumption) ?_
          rotate_left
          (focus (intro w0 hSw; (try dsimp only at hSw); go_simp <;> with_reducible rfl))
          simp only [List.getElem_toArray, List.getElem_cons_succ, List.getElem_cons_zero, Act.put, List.setIfInBounds_toArray, List.set_cons_zero, List.set_cons_succ]
          refine wpAnyH_take (i := 8) (v := ?_) rfl (by kernel_rfl) (by kernel_rfl) (by kernel_rfl) (fun _ _ _ h => h) (Or.inl ⟨by rfl, ?_⟩) (by assumption) ?_
          rotate_left
          (focus (intro w0 hSw; (try dsimp only at hSw); go_simp <;> with_reducible rfl))
          simp only [List.getElem_toArray, List.getElem_cons_succ, List.getElem_cons_zero, Act.put, List.setIfInBounds_toArray, List.set_cons_zero, List.set_cons_succ]
          refine wpAnyH_take (i := 9) (v := ?_) rfl (by kernel_rfl) (by kernel_rfl) (by kernel_rfl) (fun _ _ _ h => h) (Or.inl ⟨by rfl, ?_⟩) (by assumption) ?_
          rotate_left
          (focus (intro w0 hSw; (try dsimp only at hSw); go_simp <;> with_reducible rfl))
          simp only [List.getElem_toArray, List.getElem_cons_succ, List.getElem_cons_zero, Act.put, List.setIfInBounds_toArray, List.set_cons_zero, List.set_cons_succ]
          refine wpAnyH_take (i := 10) (v := ?_) rfl (by kernel_rfl) (by kernel_rfl) (by kernel_rfl) (fun _ _ _ h => h) (Or.inl ⟨by rfl, ?_⟩) (by assumption) ?_
          rotate_left
          (focus (intro w0 hSw; (try dsimp only at hSw); go_simp <;> with_reducible rfl))
          simp only [List.getElem_toArray, List.getElem_cons_succ, List.getElem_cons_zero, Act.put, List.setIfInBounds_toArray, List.set_cons_zero, List.set_cons_succ]
          refine wpAnyH_take (i := 11) (v := ?_) rfl (by kernel_rfl) (by kernel_rfl) (by kernel_rfl) (fun _ _ _ h => h) (Or.inl ⟨by rfl, ?_⟩) (by assumption) ?_
          rotate_left
          (focus (intro w0 hSw; (try dsimp only at hSw); go_simp <;> with_reducible rfl))
          simp only [List.getElem_toArray, List.getElem_cons_succ, List.getElem_cons_zero, Act.put, List.setIfInBounds_toArray, List.set_cons_zero, List.set_cons_succ]
          refine wpAnyH_take (i := 12) (v := ?_) rfl (by kernel_rfl) (by kernel_rfl) (by kernel_rfl) (fun _ _ _ h => h) (Or.inl ⟨by rfl, ?_⟩) (by assumption) ?_
          rotate_left
          (focus (intro w0 hSw; (try dsimp only at hSw); go_simp <;> with_reducible rfl))
          simp only [List.getElem_toArray, List.getElem_cons_succ, List.getElem_cons_zero, Act.put, List.setIfInBounds_toArray, List.set_cons_zero, List.set_cons_succ]
          refine wpAnyH_take (i := 13) (v := ?_) rfl (by kernel_rfl) (by kernel_rfl) (by kernel_rfl) (fun _ _ _ h => h) (Or.inl ⟨by rfl, ?_⟩) (by assumption) ?_
          rotate_left
          (focus (intro w0 hSw; (try dsimp only at hSw); go_simp <;> with_reducible rfl))
          simp only [List.getElem_toArray, List.getElem_cons_succ, List.getElem_cons_zero, Act.put, List.setIfInBounds_toArray, List.set_cons_zero, List.set_cons_succ]
          refine wpAnyH_take (i := 14) (v := ?_) rfl (by kernel_rfl) (by kernel_rfl) (by kernel_rfl) (fun _ _ _ h => h) (Or.inl ⟨by rfl, ?_⟩) (by assumption) ?_
          rotate_left
          (focus (intro w0 hSw; (try dsimp only at hSw); go_simp <;> with_reducible rfl))
          simp only [List.getElem_toArray, List.getElem_cons_succ, List.getElem_cons_zero, Act.put, List.setIfInBounds_toArray, List.set_cons_zero, List.set_cons_succ]
          refine wpAnyH_take (i := 15) (v := ?_) rfl (by kernel_rfl) (by kernel_rfl) (by kernel_rfl) (fun _ _ _ h => h) (Or.inl ⟨by rfl, ?_⟩) (by assumption) ?_
          rotate_left
          (focus (intro w0 hSw; (try dsimp only at hSw); go_simp <;> with_reducible rfl))
          simp only [List.getElem_toArray, List.getElem_cons_succ, List.getElem_cons_zero, Act.put, List.setIfInBounds_toArray, List.set_cons_zero, List.set_cons_succ]
          refine wpAnyH_take (i := 16) (v := ?_) rfl (by kernel_rfl) (by kernel_rfl) (by kernel_rfl) (fun _ _ _ h => h) (Or.inl ⟨by rfl, ?_⟩) (by assumption) ?_
          rotate_left
          (focus (intro w0 hSw; (try dsimp only at hSw); go_simp <;> with_reducible rfl))
          simp only [List.getElem_toArray, List.getElem_cons_succ, List.getElem_cons_zero, Act.put, List.setIfInBounds_toArray, List.set_cons_zero, List.set_cons_succ]
          refine wpAnyH_take (i := 17) (v := ?_) rfl (by kernel_rfl) (by kernel_rfl) (by kernel_rfl) (fun _ _ _ h => h) (Or.inl ⟨by rfl, ?_⟩) (by assumption) ?_
          rotate_left
          (focus (intro w0 hSw; (try dsimp only at hSw); go_simp <;> with_reducible rfl))
          simp only [List.getElem_toArray, List.getElem_cons_succ, List.getElem_cons_zero, Act.put, List.setIfInBounds_toArray, List.set_cons_zero, List.set_cons_succ]
          refine wpAnyH_take (i := 18) (v := ?_) rfl (by kernel_rfl) (by kernel_rfl) (by kernel_rfl) (fun _ _ _ h => h) (Or.inl ⟨by rfl, ?_⟩) (by assumption) ?_
          rotate_left
          (focus (intro w0 hSw; (try dsimp only at hSw); go_simp <;> with_reducible rfl))
          simp only [List.getElem_toArray, List.getElem_cons_succ, List.getElem_cons_zero, Act.put, List.setIfInBounds_toArray, List.set_cons_zero, List.set_cons_succ]
          refine wpAnyH_take (i := 19) (v := ?_) rfl (by kernel_rfl) (by kernel_rfl) (by kernel_rfl) (fun _ _ _ h => h) (Or.inl ⟨by rfl, ?_⟩) (by assumption) ?_
          rotate_left
          (focus (intro w0 hSw; (try dsimp only at hSw); go_simp <;> with_reducible rfl))
          simp only [List.getElem_toArray, List.getElem_cons_succ, List.getElem_cons_zero, Act.put, List.setIfInBounds_toArray, List.set_cons_zero, List.set_cons_succ]
          refine wpAnyH_take (i := 21) (v := ?_) rfl (by kernel_rfl) (by kernel_rfl) (by kernel_rfl) (fun _ _ _ h => h) (Or.inl ⟨by rfl, ?_⟩) (by assumption) ?_
          rotate_left
          (focus (intro w0 hSw; (try dsimp only at hSw); go_simp <;> with_reducible rfl))
          simp only [List.getElem_toArray, List.getElem_cons_succ, List.getElem_cons_zero, Act.put, List.setIfInBounds_toArray, List.set_cons_zero, List.set_cons_succ]
          refine wpAnyH_take (i := 24) (v := ?_) rfl (by kernel_rfl) (by kernel_rfl) (by kernel_rfl) (fun _ _ _ h => h) (Or.inl ⟨by rfl, ?_⟩) (by assumption) ?_
          rotate_left
          (focus (intro w0 hSw; (try dsimp only at hSw); go_simp <;> with_reducible rfl))
          simp only [List.getElem_toArray, List.getElem_cons_succ, List.getElem_cons_zero, Act.put, List.setIfInBounds_toArray, List.set_cons_zero, List.set_cons_succ]
          refine wpAnyH_take (i := 25) (v := ?_) rfl (by kernel_rfl) (by kernel_rfl) (by kernel_rfl) (fun _ _ _ h => h) (Or.inl ⟨by rfl, ?_⟩) (by assumption) ?_
          rotate_left
          (focus (intro w0 hSw; (try dsimp only at hSw); go_simp <;> with_reducible rfl))
          simp only [List.getElem_toArray, List.getElem_cons_succ, List.getElem_cons_zero, Act.put, List.setIfInBounds_toArray, List.set_cons_zero, List.set_cons_succ]
          refine wpAnyH_ready (rs := [20]) (by kernel_rfl) (by simp) ?_
          refine AllReadyH.cons (o := _) rfl (fun K hK => ?_) ?_
          rotate_left
          exact AllReadyH.nil
          go_simp
          go_at_call 31
          refine (CF.out _ HW.out).mono ?_
          rintro e w7 ⟨a7, c7, rfl, hb7, _, _, hT7⟩
          replace BT := BT.below hb7
          have HW7 := hid (HW.out.trans (hb7.mono HW.out.size))
          (try go_wp2_with fail)
          refine hK.out _ _ ?_ (fun hH7 => ?_)
          · ((try dsimp only); (refine ⟨?_, ?_, ?_, ?_, ?_, ?_⟩ <;> repeat (with_reducible first | assumption | refine kCb hb10 ?_ | refine kCb hb9 ?_ | refine kCb hb8 ?_ | refine kCb hb7 ?_)))
          clear hK K
          try simp only [Act.put, List.setIfInBounds_toArray, List.set_cons_zero, List.set_cons_succ]
          refine wpAnyH_ready (rs := [22]) (by kernel_rfl) (by simp) ?_
          refine AllReadyH.cons (o := _) rfl (fun K hK => ?_) ?_
          rotate_left
          exact AllReadyH.nil
          go_simp
          go_at_call 30
          refine (fAt_c (cap := c7) (z := (j : Int)) hT7.out HTK.out.symm HLEN.out (by decide)).mono ?_
          rintro e w8 ⟨s9, x9, n9, c9, f9, y9, m9, d9, g9, rfl, hb8, hn9, hm9, hQ9⟩
          rw [HQV.out] at hQ9
          have HQ9 := hid hQ9
          replace BT := BT.below hb8
          have HW8 := hid (HW7.out.trans (hb8.mono HW7.out.size))
          (try go_wp2_with fail)
          refine hK.out _ _ ?_ (fun hH8 => ?_)
          · ((try dsimp only); (refine ⟨?_, ?_, ?_, ?_, ?_, ?_⟩ <;> repeat (with_reducible first | assumption | refine kCb hb10 ?_ | refine kCb hb9 ?_ | refine kCb hb8 ?_ | refine kCb hb7 ?_)))
          clear hK K
          try simp only [Act.put, List.setIfInBounds_toArray, List.set_cons_zero, List.set_cons_succ]
          refine wpAnyH_ready (rs := [23]) (by kernel_rfl) (by simp) ?_
          refine AllReadyH.cons (o := _) rfl (fun K hK => ?_) ?_
          rotate_left
          exact AllReadyH.nil
          go_simp
          go_at_call 29
          refine (qToR_c HQ9.out (Nat.le_trans hn9 (by decide)) (Nat.le_trans hm9 (by decide))).mono ?_
          rintro e w9 ⟨z6, k6, c6, f6, z7, k7, c7', f7, rfl, hb9, HR9⟩
          replace BT := BT.below hb9
          have HW9 := hid (HW8.out.trans (hb9.mono HW8.out.size))
          (try go_wp2_with fail)
          refine hK.out _ _ ?_ (fun hH9 => ?_)
          · ((try dsimp only); (refine ⟨?_, ?_, ?_, ?_, ?_, ?_⟩ <;> repeat (with_reducible first | assumption | refine kCb hb10 ?_ | refine kCb hb9 ?_ | refine kCb hb8 ?_ | refine kCb hb7 ?_)))
          clear hK K
          try simp only [Act.put, List.setIfInBounds_toArray, List.set_cons_zero, List.set_cons_succ]
          refine wpAnyH_ready (rs := [26]) (by kernel_rfl) (by simp) ?_
          refine AllReadyH.cons (o := _) rfl (fun K hK => ?_) ?_
          rotate_left
          exact AllReadyH.nil
          go_simp
          go_at_call 28
          refine (rSameEq_c HR9.out (HRN.out.below HW9.out) (by omega) (by decide)).mono ?_
          rintro e w10 ⟨rfl, hb10⟩
          replace BT := BT.below hb10
          have HW10 := hid (HW9.out.trans (hb10.mono HW9.out.size))
          (try go_wp2_with fail)
          refine hK.out _ _ ?_ (fun hH10 => ?_)
          · ((try dsimp only); (refine ⟨?_, ?_, ?_, ?_, ?_, ?_⟩ <;> repeat (with_reducible first | assumption | refine kCb hb10 ?_ | refine kCb hb9 ?_ | refine kCb hb8 ?_ | refine kCb hb7 ?_)))
          clear hK K
          try simp only [Act.put, List.setIfInBounds_toArray, List.set_cons_zero, List.set_cons_succ]
          refine wpAnyH_take (i := 27) (v := ?_) rfl (by kernel_rfl) (by kernel_rfl) (by kernel_rfl) (fun _ _ _ h => h) (Or.inl ⟨by rfl, ?_⟩) (by assumption) ?_
          rotate_left
          (focus (intro w0 hSw; (try dsimp only at hSw); go_simp <;> with_reducible rfl))
          simp only [List.getElem_toArray, List.getElem_cons_succ, List.getElem_cons_zero, Act.put, List.setIfInBounds_toArray, List.set_cons_zero, List.set_cons_succ]
          refine wpAnyH_take (i := 28) (v := ?_) rfl (by kernel_rfl) (by kernel_rfl) (by kernel_rfl) (fun _ _ _ h => h) (Or.inl ⟨by rfl, ?_⟩) (by assumption) ?_
          rotate_left
          (focus (intro w0 hSw; (try dsimp only at hSw); go_simp <;> with_reducible rfl))
          simp only [List.getElem_toArray, List.getElem_cons_succ, List.getElem_cons_zero, Act.put, List.setIfInBounds_toArray, List.set_cons_zero, List.set_cons_succ]
          refine wpAnyH_done (by kernel_rfl) ?_ _
          have z0 := BT.cell (j := 0) rfl
          have HB9 := hid (HBi.out.trans (HW10.out.mono HBi.out.size))
          clear hHeld hH7 hH8 hH9 hH10 hb7 hb8 hb9 hb10 hT7 HQ9 hQ9 HR9 HW HW7 HW8 HW9 HW10 CF BT a0 a1 a2 a3 a4 a5 d0 d1 d2 d3 HRN HQV
          go_wp2
          go_roundw
          case rel => exact ⟨p + 1, (k : Int), by omega, by go_num, rfl, by go_num, HNX.out, HB9.out⟩
          case measure => simp [intOf]; omega
        · have e1 : p = lj := by omega
          have i2' : ¬ (((p : Nat) : Int) < ((lj : Nat) : Int)) := by omega
          obtain ⟨b5, o5, hca, hc5, _⟩ := HCL.out j hlt
          have HBW := hid (HB.out.trans (HBi.out.mono HB.out.size))
          have hc6 := hc5.below HBW.out
          have y0 : wr.cell? ⟨b5, o5 + j * 12, none⟩ = some (.string (C j).nm) := hc6 0 _ rfl
          have hz := HAC.out j hlt
          obtain ⟨zn, hzn⟩ : ∃ z, (C j).nm = z := ⟨_, rfl⟩
          rw [hzn] at hz y0
          have HZN := hid hz
          have B1 := HBj.out.below HBi.out
          have HS : Hid ((cn + p : Nat) = sumN (fun j => (E j).length) (j + 1)) := by show _ = _; rw [e1, ← HLJ.out, ← HCN.out]; rfl
          have HLi := hid (HL.out.below HBi.out)
          have cnp : cn + p ≤ 5000 := by omega
          clear hc5 hc6 hz hzn e1 HLa HBj HL HTf HLJ HCN
          subst hca
          go_upto_region 21 with fail
          have hbd := Below.drew (Below.refl wr.heap.size wr)
          have HW := hid (HBW.out.trans (hbd.mono HBW.out.size))
          replace B1 := B1.below hbd
          replace y0 := kCb hbd y0
          replace HLi := hid (HLi.out.below hbd)
          clear hbd HBW HB HBi
          have q1 : (((j : Nat) : Int) != ((j : Nat) : Int)) = false := by simp
          have r0 := B1.cell (j := 0) rfl
          have r1 := B1.cell (j := 1) rfl
          have r2 := B1.cell (j := 2) rfl
          have r3 := B1.cell (j := 3) rfl
          have r4 := B1.cell (j := 4) rfl
          refine wp_region_held_drew (S := (fun w' => w'.cell? ⟨w.heap.size, 0, none⟩ = some (.bool s) ∧ w'.cell? ⟨w.heap.size, 1, none⟩ = some (.slice x n c) ∧ w'.cell? ⟨w.heap.size, 2, none⟩ = some (.slice y m d) ∧ w'.cell? ⟨w.heap.size, 3, none⟩ = some (.slice (some ⟨b5, o5, none⟩) ck cc) ∧ w'.cell? ⟨w.heap.size, 4, none⟩ = some (.slice ra rk rc) ∧ w'.cell? ⟨b5, o5 + j * 12, none⟩ = some (.string zn))) (by kernel_rfl) ?_ (fun hHeld => ?_)
          · exact ⟨r0, r1, r2, r3, r4, y0⟩
          generalize hwd : wr.drew = wd at *
          clear hwd
          refine wpAnyH_take (i := 0) (v := ?_) rfl (by kernel_rfl) (by kernel_rfl) (by kernel_rfl) (fun _ _ _ h => h) (Or.inl ⟨by rfl, ?_⟩) (by assumption) ?_
          rotate_left
          (focus (intro w0 hSw; (try dsimp only at hSw); go_simp <;> with_reducible rfl))
          simp only [List.getElem_toArray, List.getElem_cons_zero, Act.put, List.setIfInBounds_toArray, List.set_cons_zero, List.set_cons_succ]
          refine wpAnyH_take (i := 2) (v := ?_) rfl (by kernel_rfl) (by kernel_rfl) (by kernel_rfl) (fun _ _ _ h => h) (Or.inl ⟨by rfl, ?_⟩) (by assumption) ?_
          rotate_left
          (focus (intro w0 hSw; (try dsimp only at hSw); go_simp <;> with_reducible rfl))
          simp only [List.getElem_toArray, List.getElem_cons_succ, List.getElem_cons_zero, Act.put, List.setIfInBounds_toArray, List.set_cons_zero, List.set_cons_succ]
          refine wpAnyH_take (i := 3) (v := ?_) rfl (by kernel_rfl) (by kernel_rfl) (by kernel_rfl) (fun _ _ _ h => h) (Or.inl ⟨by rfl, ?_⟩) (by assumption) ?_
          rotate_left
          (focus (intro w0 hSw; (try dsimp only at hSw); go_simp <;> with_reducible rfl))
          simp only [List.getElem_toArray, List.getElem_cons_succ, List.getElem_cons_zero, Act.put, List.setIfInBounds_toArray, List.set_cons_zero, List.set_cons_succ]
          refine wpAnyH_take (i := 4) (v := ?_) rfl (by kernel_rfl) (by kernel_rfl) (by kernel_rfl) (fun _ _ _ h => h) (Or.inl ⟨by rfl, ?_⟩) (by assumption) ?_
          rotate_left
          (focus (intro w0 hSw; (try dsimp only at hSw); go_simp <;> with_reducible rfl))
          simp only [List.getElem_toArray, List.getElem_cons_succ, List.getElem_cons_zero, Act.put, List.setIfInBounds_toArray, List.set_cons_zero, List.set_cons_succ]
          refine wpAnyH_take (i := 5) (v := ?_) rfl (by kernel_rfl) (by kernel_rfl) (by kernel_rfl) (fun _ _ _ h => h) (Or.inl ⟨by rfl, ?_⟩) (by assumption) ?_
          rotate_left
          (focus (intro w0 hSw; (try dsimp only at hSw); go_simp <;> with_reducible rfl))
          simp only [List.getElem_toArray, List.getElem_cons_succ, List.getElem_cons_zero, Act.put, List.setIfInBounds_toArray, List.set_cons_zero, List.set_cons_succ]
          refine wpAnyH_take (i := 6) (v := ?_) rfl (by kernel_rfl) (by kernel_rfl) (by kernel_rfl) (fun _ _ _ h => h) (Or.inl ⟨by rfl, ?_⟩) (by assumption) ?_
          rotate_left
          (focus (intro w0 hSw; (try dsimp only at hSw); go_simp <;> with_reducible rfl))
          simp only [List.getElem_toArray, List.getElem_cons_succ, List.getElem_cons_zero, Act.put, List.setIfInBounds_toArray, List.set_cons_zero, List.set_cons_succ]
          refine wpAnyH_take (i := 7) (v := ?_) rfl (by kernel_rfl) (by kernel_rfl) (by kernel_rfl) (fun _ _ _ h => h) (Or.inl ⟨by rfl, ?_⟩) (by assumption) ?_
          rotate_left
          (focus (intro w0 hSw; (try dsimp only at hSw); go_simp <;> with_reducible rfl))
          simp only [List.getElem_toArray, List.getElem_cons_succ, List.getElem_cons_zero, Act.put, List.setIfInBounds_toArray, List.set_cons_zero, List.set_cons_succ]
          refine wpAnyH_ready (rs := [1]) (by kernel_rfl) (by simp) ?_
          refine AllReadyH.cons (o := _) rfl (fun K hK => ?_) ?_
          rotate_left
          exact AllReadyH.nil
          go_simp
          go_at_call 12
          refine (CT.out _ HW.out (by first | rfl | trivial)).mono ?_
          rintro e w7 ⟨V', rfl, hb7, hT⟩
          have CQ := hid (hT.2.1 zn)
          rw [HZN.out] at CQ
          replace B1 := B1.below hb7
          have HW7 := hid (HW.out.trans (hb7.mono HW.out.size))
          (try go_wp2_with fail)
          refine hK.out _ _ ?_ (fun hH7 => ?_)
          · ((try dsimp only); (refine ⟨?_, ?_, ?_, ?_, ?_, ?_⟩ <;> repeat (with_reducible first | assumption | refine kCb hb8 ?_ | refine kCb hb7 ?_)))
          clear hK K
          try simp only [Act.put, List.setIfInBounds_toArray, List.set_cons_zero, List.set_cons_succ]
          refine wpAnyH_ready (rs := [8]) (by kernel_rfl) (by simp) ?_
          refine AllReadyH.cons (o := _) rfl (fun K hK => ?_) ?_
          rotate_left
          exact AllReadyH.nil
          go_simp
          go_at_call 22
          refine (CQ.out _ (Below.refl _ _)).mono ?_
          rintro e w8 ⟨rfl, hb8⟩
          replace B1 := B1.below hb8
          have HW8 := hid (HW7.out.trans (hb8.mono HW7.out.size))
          (try go_wp2_with fail)
          refine hK.out _ _ ?_ (fun hH8 => ?_)
          · ((try dsimp only); (refine ⟨?_, ?_, ?_, ?_, ?_, ?_⟩ <;> repeat (with_reducible first | assumption | refine kCb hb8 ?_ | refine kCb hb7 ?_)))
          clear hK K
          try simp only [Act.put, List.setIfInBounds_toArray, List.set_cons_zero, List.set_cons_succ]
          refine wpAnyH_take (i := 9) (v := ?_) rfl (by kernel_rfl) (by kernel_rfl) (by kernel_rfl) (fun _ _ _ h => h) (Or.inl ⟨by rfl, ?_⟩) (by assumption) ?_
          rotate_left
          (focus (intro w0 hSw; (try dsimp only at hSw); go_simp <;> with_reducible rfl))
          simp only [List.getElem_toArray, List.getElem_cons_succ, List.getElem_cons_zero, Act.put, List.setIfInBounds_toArray, List.set_cons_zero, List.set_cons_succ]
          refine wpAnyH_take (i := 10) (v := ?_) rfl (by kernel_rfl) (by kernel_rfl) (by kernel_rfl) (fun _ _ _ h => h) (Or.inl ⟨by rfl, ?_⟩) (by assumption) ?_
          rotate_left
          (focus (intro w0 hSw; (try dsimp only at hSw); go_simp <;> with_reducible rfl))
          simp only [List.getElem_toArray, List.getElem_cons_succ, List.getElem_cons_zero, Act.put, List.setIfInBounds_toArray, List.set_cons_zero, List.set_cons_succ]
          refine wpAnyH_take (i := 11) (v := ?_) rfl (by kernel_rfl) (by kernel_rfl) (by kernel_rfl) (fun _ _ _ h => h) (Or.inl ⟨by rfl, ?_⟩) (by assumption) ?_
          rotate_left
          (focus (intro w0 hSw; (try dsimp only at hSw); go_simp <;> with_reducible rfl))
          simp only [List.getElem_toArray, List.getElem_cons_succ, List.getElem_cons_zero, Act.put, List.setIfInBounds_toArray, List.set_cons_zero, List.set_cons_succ]
          refine wpAnyH_take (i := 12) (v := ?_) rfl (by kernel_rfl) (by kernel_rfl) (by kernel_rfl) (fun _ _ _ h => h) (Or.inl ⟨by rfl, ?_⟩) (by assumption) ?_
          rotate_left
          (focus (intro w0 hSw; (try dsimp only at hSw); go_simp <;> with_reducible rfl))
          simp only [List.getElem_toArray, List.getElem_cons_succ, List.getElem_cons_zero, Act.put, List.setIfInBounds_toArray, List.set_cons_zero, List.set_cons_succ]
          refine wpAnyH_take (i := 13) (v := ?_) rfl (by kernel_rfl) (by kernel_rfl) (by kernel_rfl) (fun _ _ _ h => h) (Or.inl ⟨by rfl, ?_⟩) (by assumption) ?_
          rotate_left
          (focus (intro w0 hSw; (try dsimp only at hSw); go_simp <;> with_reducible rfl))
          simp only [List.getElem_toArray, List.getElem_cons_succ, List.getElem_cons_zero, Act.put, List.setIfInBounds_toArray, List.set_cons_zero, List.set_cons_succ]
          refine wpAnyH_done (by kernel_rfl) ?_ _
          have HL9 := hid ((HLi.out.below hb7).below hb8)
          clear hHeld hH7 hH8 hb7 hb8 hT CQ HW HW7 HLi r0 r1 r2 r3 r4 y0
          have HBK9 := hid B1
          clear B1
          go_wp2
          go_roundw
          case rel => exact ⟨j + 1, by omega, by go_num, by rw [← HS.out]; simp, HW8.out, HBK9.out, HL9.out⟩
          case measure => simp [intOf]; omega
    · have e1 : j = ck := by omega
      have i2' : ¬ (((j : Nat) : Int) < ((ck : Nat) : Int)) := by omega
      replace e1 := e1.symm
      subst e1
      obtain ⟨tot, htot⟩ : ∃ t, sumN (fun j => (E j).length) ck = t := ⟨_, rfl⟩
      have hcl : tot ≤ 4096 := by
        have h1 := sumN_le (f := fun j => (E j).length) (K := 64) (n := ck) (fun i _ => by show (E i).length ≤ 64; rw [HE.out i]; exact Nat.le_trans (clq_len _ _ _) l2)
        have h2 : ck * 64 ≤ 64 * 64 := Nat.mul_le_mul_right _ (by omega)
        omega
      obtain ⟨G, hG⟩ : ∃ G, (fun k : Nat => ((rs[k]?.map (fun v : RV => v.ts.length)).getD 0)) = G := ⟨_, rfl⟩
      have HG : Hid (∀ k v, rs[k]? = some v → G k = v.ts.length) := fun k v h => by rw [← hG]; show ((rs[k]?.map (fun v : RV => v.ts.length)).getD 0) = _; rw [h]; rfl
      have HSU : Hid (tot = sumN G rk) := by show _ = _; rw [← htot, ← hG]; exact HSUM.out
      have hGl : ∀ k, k < rk → G k ≤ 300 := fun k hk => by
        obtain ⟨v, hv⟩ : ∃ v, rs[k]? = some v := ⟨_, List.getElem?_eq_getElem (by rw [← HRS.out]; exact hk)⟩
        rw [HG.out k v hv]; exact (HRW.out k v hv).len
      have HGB : Hid (∀ i, i ≤ rk → sumN G i ≤ 19200) := fun i hi => by
        have h1 := sumN_le (f := G) (K := 300) (n := i) (fun k hk => hGl k (by omega))
        have h2 : i * 300 ≤ 64 * 300 := Nat.mul_le_mul_right _ (by omega)
        omega
      rw [htot]
      clear htot hG hGl HSUM HL HCL HAC HE
      have r4 := HBj.out.cell (j := 4) rfl
      go_wp2_with fail
      go_loopw [5, 104] (fun cv t wr => ∃ (i : Nat), i ≤ rk ∧ t = .int .i64 i ∧ cv = .int .i64 ((tot : Int) - (sumN G i : Nat)) ∧ Hid (Below w.heap.size w wr) ∧ Hid (Bk wr w.heap.size [.bool s, .slice x n c, .slice y m d, .slice ca ck cc, .slice ra rk rc] 28)) (fun _ t _ => rk - (intOf t).toNat)
      case atStart => exact ⟨0, by omega, rfl, by simp [sumN], HB.out, HBj.out⟩
      case round =>
        clear r4 HB HBj
        obtain ⟨i, hi, rfl, rfl, HB, HBj⟩ := hrel
        by_cases hil : i < rk
        · obtain ⟨v, hv⟩ : ∃ v, rs[i]? = some v := ⟨_, List.getElem?_eq_getElem (by rw [← HRS.out]; exact hil)⟩
          have hE := HRW.out i v hv
          obtain ⟨b4, o4, hra, hcs⟩ := hE.at9
          have hc := hcs.below HB.out
          have htk := hE.tk
          have hlen := hE.len
          have hz := HAR.out i hil
          obtain ⟨⟨z1, ⟨i1, ⟨s1, x1, n1, c1, f1, y1, m1, d1, g1⟩⟩, ⟨i2, ⟨s2, x2, n2, c2, f2, y2, m2, d2, g2⟩⟩, ta, tk, tc, tcol, tt⟩, hRk⟩ : ∃ t, R i = t := ⟨_, rfl⟩
          rw [hRk] at hc htk hz
          replace htk : tk = v.ts.length := htk
          replace hz : ar z1 = ((i : Int), 0) := hz
          obtain ⟨sg, hsg⟩ : ∃ t, sumN G i = t := ⟨_, rfl⟩
          have hs1 : sumN G (i + 1) = sg + tk := by show sumN G i + G i = _; rw [hsg, HG.out i v hv, htk]
          have hs2 := HGB.out i hi
          rw [hsg] at hs2 ⊢
          have HS1 := hid hs1; have HZN := hid hz
          have htl : tk ≤ 300 := by omega
          have q0 : wr.cell? ⟨b4, o4 + i * 10, none⟩ = some (.string z1) := hc 0 _ rfl
          have q1 : wr.cell? ⟨b4, o4 + i * 10 + 1, none⟩ = some (.int .i64 i1) := hc 1 _ rfl
          have q2 : wr.cell? ⟨b4, o4 + i * 10 + 2, none⟩ = some (.bool s1) := hc 2 _ rfl
          have q3 : wr.cell? ⟨b4, o4 + i * 10 + 3, none⟩ = some (.slice x1 n1 c1) := hc 3 _ rfl
          have q4 : wr.cell? ⟨b4, o4 + i * 10 + 4, none⟩ = some (.slice y1 m1 d1) := hc 4 _ rfl
          have q5 : wr.cell? ⟨b4, o4 + i * 10 + 5, none⟩ = some (.int .i64 i2) := hc 5 _ rfl
          have q6 : wr.cell? ⟨b4, o4 + i * 10 + 6, none⟩ = some (.bool s2) := hc 6 _ rfl
          have q7 : wr.cell? ⟨b4, o4 + i * 10 + 7, none⟩ = some (.slice x2 n2 c2) := hc 7 _ rfl
          have q8 : wr.cell? ⟨b4, o4 + i * 10 + 8, none⟩ = some (.slice y2 m2 d2) := hc 8 _ rfl
          have q9 : wr.cell? ⟨b4, o4 + i * 10 + 9, none⟩ = some (.slice ta tk tc) := hc 9 _ rfl
          have i3' : ((i : Nat) : Int) < ((rk : Nat) : Int) := by omega
          clear hv hE hcs hc htk hlen hz hRk hsg hs1
          subst hra
          have hb6 := below_alloc (Below.refl wr.heap.size wr) (.cells #[.string z1, .int .i64 i1, .bool s1, .slice x1 n1 c1, .slice y1 m1 d1, .int .i64 i2, .bool s2, .slice x2 n2 c2, .slice y2 m2 d2, .slice ta tk tc] 75)
          have BT := bk_new wr [.string z1, .int .i64 i1, .bool s1, .slice x1 n1 c1, .slice y1 m1 d1, .int .i64 i2, .bool s2, .slice x2 n2 c2, .slice y2 m2 d2, .slice ta tk tc] 75
          replace BT : Bk (wr.alloc (.cells #[.string z1, .int .i64 i1, .bool s1, .slice x1 n1 c1, .slice y1 m1 d1, .int .i64 i2, .bool s2, .slice x2 n2 c2, .slice y2 m2 d2, .slice ta tk tc] 75)) wr.heap.size [.string z1, .int .i64 i1, .bool s1, .slice x1 n1 c1, .slice y1 m1 d1, .int .i64 i2, .bool s2, .slice x2 n2 c2, .slice y2 m2 d2, .slice ta tk tc] 75 := BT
          have t9 := BT.cell (j := 9) rfl
          go_upto_region 29 with fail
          have B1 := HBj.out.below hb6
          have HB6 := HB.out.trans (hb6.mono HB.out.size)
          generalize wr.alloc (.cells #[.string z1, .int .i64 i1, .bool s1, .slice x1 n1 c1, .slice y1 m1 d1, .int .i64 i2, .bool s2, .slice x2 n2 c2, .slice y2 m2 d2, .slice ta tk tc] 75) = wn at *
          have hbd := Below.drew (Below.refl wn.heap.size wn)
          have HW := hid (HB6.trans (hbd.mono HB6.size))
          replace B1 := B1.below hbd
          replace BT := BT.below hbd
          have y0 := BT.cell (j := 0) rfl
          clear hbd HB6 hb6 HB HBj t9 BT q0 q1 q2 q3 q4 q5 q6 q7 q8 q9
          have q1 : (((i : Nat) : Int) != ((i : Nat) : Int)) = false := by simp
          have r0 := B1.cell (j := 0) rfl
          have r1 := B1.cell (j := 1) rfl
          have r2 := B1.cell (j := 2) rfl
          have r3 := B1.cell (j := 3) rfl
          have r4 := B1.cell (j := 4) rfl
          refine wp_region_held_drew (S := (fun w' => w'.cell? ⟨w.heap.size, 0, none⟩ = some (.bool s) ∧ w'.cell? ⟨w.heap.size, 1, none⟩ = some (.slice x n c) ∧ w'.cell? ⟨w.heap.size, 2, none⟩ = some (.slice y m d) ∧ w'.cell? ⟨w.heap.size, 3, none⟩ = some (.slice ca ck cc) ∧ w'.cell? ⟨w.heap.size, 4, none⟩ = some (.slice (some ⟨b4, o4, none⟩) rk rc) ∧ w'.cell? ⟨wr.heap.size, 0, none⟩ = some (.string z1))) (by kernel_rfl) ?_ (fun hHeld => ?_)
          · exact ⟨r0, r1, r2, r3, r4, y0⟩
          generalize hwd : wn.drew = wd at *
          clear hwd
          refine wpAnyH_take (i := 0) (v := ?_) rfl (by kernel_rfl) (by kernel_rfl) (by kernel_rfl) (fun _ _ _ h => h) (Or.inl ⟨by rfl, ?_⟩) (by assumption) ?_
          rotate_left
          (focus (intro w0 hSw; (try dsimp only at hSw); go_simp <;> with_reducible rfl))
          simp only [List.getElem_toArray, List.getElem_cons_zero, Act.put, List.setIfInBounds_toArray, List.set_cons_zero, List.set_cons_succ]
          refine wpAnyH_take (i := 2) (v := ?_) rfl (by kernel_rfl) (by kernel_rfl) (by kernel_rfl) (fun _ _ _ h => h) (Or.inl ⟨by rfl, ?_⟩) (by assumption) ?_
          rotate_left
          (focus (intro w0 hSw; (try dsimp only at hSw); go_simp <;> with_reducible rfl))
          simp only [List.getElem_toArray, List.getElem_cons_succ, List.getElem_cons_zero, Act.put, List.setIfInBounds_toArray, List.set_cons_zero, List.set_cons_succ]
          refine wpAnyH_take (i := 3) (v := ?_) rfl (by kernel_rfl) (by kernel_rfl) (by kernel_rfl) (fun _ _ _ h => h) (Or.inl ⟨by rfl, ?_⟩) (by assumption) ?_
          rotate_left
          (focus (intro w0 hSw; (try dsimp only at hSw); go_simp <;> with_reducible rfl))
          simp only [List.getElem_toArray, List.getElem_cons_succ, List.getElem_cons_zero, Act.put, List.setIfInBounds_toArray, List.set_cons_zero, List.set_cons_succ]
          refine wpAnyH_ready (rs := [1]) (by kernel_rfl) (by simp) ?_
          refine AllReadyH.cons (o := _) rfl (fun K hK => ?_) ?_
          rotate_left
          exact AllReadyH.nil
          go_simp
          go_at_call 12
          refine (CT.out _ HW.out (by first | rfl | trivial)).mono ?_
          rintro e w7 ⟨V', rfl, hb7, hT⟩
          have CQ := hid (hT.2.2 z1)
          rw [HZN.out] at CQ
          replace B1 := B1.below hb7
          have HW7 := hid (HW.out.trans (hb7.mono HW.out.size))
          (try go_wp2_with fail)
          refine hK.out _ _ ?_ (fun hH7 => ?_)
          · ((try dsimp only); (refine ⟨?_, ?_, ?_, ?_, ?_, ?_⟩ <;> repeat (with_reducible first | assumption | refine kCb hb8 ?_ | refine kCb hb7 ?_)))
          clear hK K
          try simp only [Act.put, List.setIfInBounds_toArray, List.set_cons_zero, List.set_cons_succ]
          refine wpAnyH_ready (rs := [4]) (by kernel_rfl) (by simp) ?_
          refine AllReadyH.cons (o := _) rfl (fun K hK => ?_) ?_
          rotate_left
          exact AllReadyH.nil
          go_simp
          go_at_call 24
          refine (CQ.out _ (Below.refl _ _)).mono ?_
          rintro e w8 ⟨rfl, hb8⟩
          replace B1 := B1.below hb8
          have HW8 := hid (HW7.out.trans (hb8.mono HW7.out.size))
          (try go_wp2_with fail)
          refine hK.out _ _ ?_ (fun hH8 => ?_)
          · ((try dsimp only); (refine ⟨?_, ?_, ?_, ?_, ?_, ?_⟩ <;> repeat (with_reducible first | assumption | refine kCb hb8 ?_ | refine kCb hb7 ?_)))
          clear hK K
          try simp only [Act.put, List.setIfInBounds_toArray, List.set_cons_zero, List.set_cons_succ]
          refine wpAnyH_take (i := 5) (v := ?_) rfl (by kernel_rfl) (by kernel_rfl) (by kernel_rfl) (fun _ _ _ h => h) (Or.inl ⟨by rfl, ?_⟩) (by assumption) ?_
          rotate_left
          (focus (intro w0 hSw; (try dsimp only at hSw); go_simp <;> with_reducible rfl))
          simp only [List.getElem_toArray, List.getElem_cons_succ, List.getElem_cons_zero, Act.put, List.setIfInBounds_toArray, List.set_cons_zero, List.set_cons_succ]
          refine wpAnyH_take (i := 6) (v := ?_) rfl (by kernel_rfl) (by kernel_rfl) (by kernel_rfl) (fun _ _ _ h => h) (Or.inl ⟨by rfl, ?_⟩) (by assumption) ?_
          rotate_left
          (focus (intro w0 hSw; (try dsimp only at hSw); go_simp <;> with_reducible rfl))
          simp only [List.getElem_toArray, List.getElem_cons_succ, List.getElem_cons_zero, Act.put, List.setIfInBounds_toArray, List.set_cons_zero, List.set_cons_succ]
          refine wpAnyH_take (i := 7) (v := ?_) rfl (by kernel_rfl) (by kernel_rfl) (by kernel_rfl) (fun _ _ _ h => h) (Or.inl ⟨by rfl, ?_⟩) (by assumption) ?_
          rotate_left
          (focus (intro w0 hSw; (try dsimp only at hSw); go_simp <;> with_reducible rfl))
          simp only [List.getElem_toArray, List.getElem_cons_succ, List.getElem_cons_zero, Act.put, List.setIfInBounds_toArray, List.set_cons_zero, List.set_cons_succ]
          refine wpAnyH_take (i := 8) (v := ?_) rfl (by kernel_rfl) (by kernel_rfl) (by kernel_rfl) (fun _ _ _ h => h) (Or.inl ⟨by rfl, ?_⟩) (by assumption) ?_
          rotate_left
          (focus (intro w0 hSw; (try dsimp only at hSw); go_simp <;> with_reducible rfl))
          simp only [List.getElem_toArray, List.getElem_cons_succ, List.getElem_cons_zero, Act.put, List.setIfInBounds_toArray, List.set_cons_zero, List.set_cons_succ]
          refine wpAnyH_take (i := 9) (v := ?_) rfl (by kernel_rfl) (by kernel_rfl) (by kernel_rfl) (fun _ _ _ h => h) (Or.inl ⟨by rfl, ?_⟩) (by assumption) ?_
          rotate_left
          (focus (intro w0 hSw; (try dsimp only at hSw); go_simp <;> with_reducible rfl))
          simp only [List.getElem_toArray, List.getElem_cons_succ, List.getElem_cons_zero, Act.put, List.setIfInBounds_toArray, List.set_cons_zero, List.set_cons_succ]
          refine wpAnyH_done (by kernel_rfl) ?_ _
          clear hHeld hH7 hH8 hb7 hb8 hT CQ HW HW7 r0 r1 r2 r3 r4 y0
          have HBK9 := hid B1
          clear B1
          go_wp2
          go_roundw
          case rel => exact ⟨i + 1, by omega, by go_num, by rw [HS1.out]; congr 1; omega, HW8.out, HBK9.out⟩
          case measure => simp [intOf]; omega
        · have e1 : i = rk := by omega
          have i3' : ¬ (((i : Nat) : Int) < ((rk : Nat) : Int)) := by omega
          have z0 : (tot : Int) - ((sumN G i : Nat) : Int) = 0 := by rw [e1, ← HSU.out]; omega
          have z1 : (((ck : Nat) : Int) == ((ck : Nat) : Int)) = true := by simp
          rw [z0]
          have r3 := HBj.out.cell (j := 3) rfl
          clear e1
          go_wp2
          go_ret
          exact ⟨rfl, HB.out⟩
end Go.Proofs.YtbmfcogfgdggkaaGreat
