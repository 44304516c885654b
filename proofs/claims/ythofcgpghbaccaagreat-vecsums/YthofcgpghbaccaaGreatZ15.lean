/-
  The walk of the reference's Plus. The walks of the reference's DocPlus and DocScale, whatever they are handed.
-/
import Derived.Test.YthofcgpghbaccaaGreatZ14
namespace Go.Proofs.YthofcgpghbaccaaGreat
open Go.RowKit

/-- The reference's terms as they lie, by their values. -/
def Tql (K : Nat) (w : World) (l : List (Int × Nm)) (us : List (Int × Rat)) : Prop := l.length = us.length ∧ ∀ (j : Nat) (a : Int) (q : Rat), us[j]? = some (a, q) → ∃ t : Nm, l[j]? = some (a, t) ∧ QnT K w t q
theorem Tql.below {K w w' l us} (h : Tql K w l us) (hb : Below w.heap.size w w') : Tql K w' l us := ⟨h.1, fun j a q hj => by obtain ⟨t, h1, h2⟩ := h.2 j a q hj; exact ⟨t, h1, h2.below hb⟩⟩
theorem Tql.kp {K w w' l us} (h : Tql K w l us) (hk : Kp w w') : Tql K w' l us := ⟨h.1, fun j a q hj => by obtain ⟨t, h1, h2⟩ := h.2 j a q hj; exact ⟨t, h1, h2.kp hk⟩⟩
theorem Tql.snoc {K w l us z t q} (h : Tql K w l us) (hr : QnT K w t q) : Tql K w (l ++ [(z, t)]) (us ++ [(z, q)]) := by
  refine ⟨by simp [h.1], fun j a q' hj => ?_⟩
  by_cases hlt : j < us.length
  · rw [List.getElem?_append_left hlt] at hj
    obtain ⟨t', h1, h2⟩ := h.2 j a q' hj
    exact ⟨t', by rw [List.getElem?_append_left (by rw [h.1]; exact hlt)]; exact h1, h2⟩
  · rw [List.getElem?_append_right (by omega)] at hj
    have hj0 : j - us.length = 0 := by
      have := (List.getElem?_eq_some_iff.1 hj).1
      simp at this; omega
    rw [hj0] at hj
    obtain ⟨rfl, rfl⟩ : z = a ∧ q = q' := by simpa using hj
    exact ⟨t, by rw [List.getElem?_append_right (by rw [h.1]; omega), h.1, hj0]; rfl, hr⟩
theorem tql_tq {K : Nat} {base : Nat} {w : World} {ao : Option Addr} {cap : Nat} {l : List (Int × Nm)} {us : List (Int × Rat)} (h : Tql K w l us) (hr : RowG 106 4 base w (.slice ao l.length cap) l.length (tcells l)) : Tq K w ao us := fun j a q hj => by
  obtain ⟨t, h1, h2⟩ := h.2 j a q hj
  have hlt : j < l.length := (List.getElem?_eq_some_iff.1 h1).1
  rcases hr.2 with ⟨hv, h0⟩ | ⟨g, cap', cur, hv, _⟩
  · omega
  · cases hv
    have hc : ∀ i, i < 4 → w.cell? ⟨g, 0 + j * 4 + i, none⟩ = (tcell a t)[i]? := fun i hi => by
      rw [Nat.zero_add]
      have e1 := tcells_get h1 i hi
      obtain ⟨u, hu⟩ : ∃ u, (tcell a t)[i]? = some u := ⟨_, List.getElem?_eq_getElem (by show i < 4; exact hi)⟩
      rw [hu] at e1 ⊢
      exact hr.cells e1
    exact ⟨g, 0, t, rfl, ⟨hc 0 (by decide), hc 1 (by decide), hc 2 (by decide), hc 3 (by decide)⟩, h2⟩
theorem QnT.mono {K K' w t q} (h : QnT K w t q) (hk : K ≤ K') : QnT K' w t q := ⟨Nat.le_trans h.1 hk, Nat.le_trans h.2.1 hk, h.2.2⟩
/-- What stands behind the store of a term into its box. -/
structure Pk (K : Nat) (w0 W : World) (bt : Nat) (a : Int) (t : Nm) (q : Rat) (ov : Value) (l : List (Int × Nm)) (us : List (Int × Rat)) : Prop where
  bel : Below w0.heap.size w0 W
  box : C4 W bt 0 (.int .i64 a) (.bool t.s) (.slice t.x t.n t.c) (.slice t.y t.m t.d)
  row : RowG 106 4 w0.heap.size W ov l.length (tcells l)
  lst : Tql K W l us
  num : QnT K W t q
theorem pk_mk {K : Nat} {w0 w : World} {bt : Nat} {a : Int} {t : Nm} {q : Rat} {ov : Value} {l : List (Int × Nm)} {us : List (Int × Rat)} (hb : Below w0.heap.size w0 w) (hB : w0.heap.size ≤ bt) (ob : Ob4 w bt) (row : RowG 106 4 w0.heap.size w ov l.length (tcells l)) (hne : ov.ownBlock ≠ some bt) (lst : Tql K w l us) (num : QnT K w t q) :
    Pk K w0 ((((w.setCell ⟨bt, 0, none⟩ (.int .i64 a)).setCell ⟨bt, 1, none⟩ (.bool t.s)).setCell ⟨bt, 2, none⟩ (.slice t.x t.n t.c)).setCell ⟨bt, 3, none⟩ (.slice t.y t.m t.d)) bt a t q ov l us := by
  have e0 := kI0 ob.z0; have e1 := kI0 ob.z1; have e2 := kI0 ob.z2; have e3 := kI0 ob.z3
  refine ⟨below_st4 hb hB, ⟨kCo (by decide) (kCo (by decide) (kCo (by decide) (kCe e0))), kCo (by decide) (kCo (by decide) (kCe (kIs e1))), kCo (by decide) (kCe (kIs (kIs e2))), kCe (kIs (kIs (kIs e3)))⟩, row.of (fun g hg => ?_), ⟨lst.1, fun j b p hj => ?_⟩, ⟨num.1, num.2.1, ob.qn num.2.2⟩⟩
  · have hgb : g ≠ bt := fun e => hne (by rw [hg, e])
    rw [Below.heap_setCell _ _ _ _ (by simpa using hgb), Below.heap_setCell _ _ _ _ (by simpa using hgb), Below.heap_setCell _ _ _ _ (by simpa using hgb), Below.heap_setCell _ _ _ _ (by simpa using hgb)]
  · obtain ⟨t', h1, h2⟩ := lst.2 j b p hj
    exact ⟨t', h1, h2.1, h2.2.1, ob.qn h2.2.2⟩
theorem ord_zero {c : Int} {q : Rat} (h : Ord c q.num 0) : (c != 0) = !decide (q = 0) := by
  by_cases hq : q = 0
  · subst hq
    rcases h with ⟨rfl, h⟩ | ⟨rfl, h⟩ | ⟨rfl, h⟩
    · exact absurd h (by decide)
    · rfl
    · exact absurd h (by decide)
  · have hn : q.num ≠ 0 := fun e => hq (Rat.num_eq_zero.1 e)
    rcases h with ⟨rfl, h⟩ | ⟨rfl, h⟩ | ⟨rfl, h⟩
    · simp [hq]
    · exact absurd h hn
    · simp [hq]
theorem drop_get {v : List (Int × Rat)} {i : Nat} {a : Int} {q : Rat} (h : v[i]? = some (a, q)) : v.drop i = (a, q) :: v.drop (i + 1) := by
  have hl : i < v.length := (List.getElem?_eq_some_iff.1 h).1
  have : v[i] = (a, q) := by rw [List.getElem?_eq_getElem hl] at h; exact Option.some.inj h
  rw [← this]; exact List.drop_eq_getElem_cons hl

set_option maxRecDepth 100000 in
set_option maxHeartbeats 16000000 in
theorem fPlus_c {w : World} {K : Nat} {av aw : Option Addr} {k k' cv cw : Nat} {s : Bool} {x : Option Addr} {n c : Nat} {d : Nat → Int} {y : Option Addr} {m e : Nat} {g : Nat → Int} {r : Rat} {v v' : List (Int × Rat)}
    (hv : Tq K w av v) (hw : Tq K w aw v') (hr : Qn w s x n d y m g r) (hn : n ≤ K) (hm : m ≤ K) (lv : v.length = k) (lw : v'.length = k') (hk : k + k' ≤ 2000) (hK : K ≤ 2000) :
    Calls Tryz.prog 47 #[.slice av k cv, .agg #[.bool s, .slice x n c, .slice y m e], .slice aw k' cw] w fun en w' => FrAns (10 * K + 9) w w' en (mg r v v').length (mg r v v') := by
  have hb0 := below_alloc (Below.refl w.heap.size w) (.cells #[.bool s, .slice x n c, .slice y m e] 63)
  have hB0 := bx3_at w (.bool s) (.slice x n c) (.slice y m e) 63
  have TV := hid (hv.below hb0); have TW := hid (hw.below hb0); have RR := hid (hr.below hb0); have BR := hid hB0; have HW0 := hid hb0
  clear hv hw hr
  go_enter Tryz.func47, Tryz.ntmps47
  go_wp2_with fail
  generalize w.alloc (.cells #[.bool s, .slice x n c, .slice y m e] 63) = w0 at *
  have hsz0 : w.heap.size < w0.heap.size := hB0.z
  clear hb0 hB0
  generalize hbr : w.heap.size = br at *
  go_loopw [7, 8, 9] (fun ov t8 t9 wr => ∃ (i j : Nat) (l : List (Int × Nm)) (us : List (Int × Rat)), i ≤ k ∧ j ≤ k' ∧ t8 = .int .i64 i ∧ t9 = .int .i64 j ∧ l.length ≤ i + j ∧ Hid (Below w0.heap.size w0 wr) ∧ Hid (RowG 106 4 w0.heap.size wr ov l.length (tcells l)) ∧ Hid (Tql (10 * K + 9) wr l us) ∧ Hid (us ++ mg r (v.drop i) (v'.drop j) = mg r v v')) (fun _ t8 t9 _ => (k - (intOf t8).toNat) + (k' - (intOf t9).toNat))
  case atStart => exact ⟨0, 0, [], [], by omega, by omega, rfl, rfl, by simp, Below.refl _ _, rowG_nil _ _ _ _, ⟨rfl, fun j a q hj => by simp at hj⟩, rfl⟩
  case round =>
    obtain ⟨i, j, l, us, hi, hj, rfl, rfl, hll, HB, HRow, HT, HE⟩ := hrel
    have hbt0 : w0.heap.size ≤ wr.heap.size := HB.out.size
    have hne : u7.ownBlock ≠ some wr.heap.size := fun e => by have := (HRow.out.lt _ e).2; omega
    by_cases hik : i < k
    · obtain ⟨⟨a, q⟩, haq⟩ : ∃ t, v[i]? = some t := ⟨_, List.getElem?_eq_getElem (by omega)⟩
      have HDv := hid (drop_get haq)
      obtain ⟨b, o, ⟨ts, tx, tn, tc, tf, ty, tm, td, tg⟩, hav, hc, hqv⟩ := (TV.out.below HB.out) i a q haq
      subst hav
      obtain ⟨x0, x1, x2, x3⟩ := hc
      replace x0 : wr.cell? ⟨b, o + i * 4, none⟩ = some (.int .i64 a) := x0
      replace x1 : wr.cell? ⟨b, o + i * 4 + 1, none⟩ = some (.bool ts) := x1
      replace x2 : wr.cell? ⟨b, o + i * 4 + 2, none⟩ = some (.slice tx tn tc) := x2
      replace x3 : wr.cell? ⟨b, o + i * 4 + 3, none⟩ = some (.slice ty tm td) := x3
      have QV : Hid (QnT K wr ⟨ts, tx, tn, tc, tf, ty, tm, td, tg⟩ q) := hqv
      have nbv : wr.heap.size ≠ b := by have := World.block_lt_of_cell? wr _ x0; simp at this; omega
      have i1 : ((i : Nat) : Int) < ((k : Nat) : Int) := by omega
      have i1d : decide (((i : Nat) : Int) < ((k : Nat) : Int)) = true := by simp; omega
      have i1e : (((i : Nat) : Int) == ((k : Nat) : Int)) = false := by simp; omega
      have i1w : ((i : Nat) : Int) ≤ 9223372036854775806 := by omega
      clear haq hqv
      by_cases hjk : j < k'
      · obtain ⟨⟨bb, p⟩, hbp⟩ : ∃ t, v'[j]? = some t := ⟨_, List.getElem?_eq_getElem (by omega)⟩
        have HDw := hid (drop_get hbp)
        obtain ⟨b', o', ⟨ss, sx, sn, sc, sf, sy, sm, sd, sg⟩, haw, hc', hqw⟩ := (TW.out.below HB.out) j bb p hbp
        subst haw
        obtain ⟨y0, y1, y2, y3⟩ := hc'
        replace y0 : wr.cell? ⟨b', o' + j * 4, none⟩ = some (.int .i64 bb) := y0
        replace y1 : wr.cell? ⟨b', o' + j * 4 + 1, none⟩ = some (.bool ss) := y1
        replace y2 : wr.cell? ⟨b', o' + j * 4 + 2, none⟩ = some (.slice sx sn sc) := y2
        replace y3 : wr.cell? ⟨b', o' + j * 4 + 3, none⟩ = some (.slice sy sm sd) := y3
        have QW : Hid (QnT K wr ⟨ss, sx, sn, sc, sf, sy, sm, sd, sg⟩ p) := hqw
        have nbw : wr.heap.size ≠ b' := by have := World.block_lt_of_cell? wr _ y0; simp at this; omega
        have j1 : ((j : Nat) : Int) < ((k' : Nat) : Int) := by omega
        have j1e : (((j : Nat) : Int) == ((k' : Nat) : Int)) = false := by simp; omega
        have j1w : ((j : Nat) : Int) ≤ 9223372036854775806 := by omega
        clear hbp hqw
        by_cases hab : a < bb
        · have d2 : decide (a < bb) = true := by simp [hab]
          have HM : Hid (mg r (v.drop i) (v'.drop j) = nz a q ++ mg r (v.drop (i + 1)) (v'.drop j)) := by
            show _ = _
            rw [HDv.out, HDw.out, mg_lt _ _ _ _ _ _ _ hab]
          go_upto_region 7 with fail
          have hb5 := below_alloc (Below.refl wr.heap.size wr) (.cells #[.int .i64 0, .bool false, .slice none 0 0, .slice none 0 0] 106)
          have hO5 := ob4_new wr 106
          replace x0 := kCb hb5 x0
          replace x1 := kCb hb5 x1
          replace x2 := kCb hb5 x2
          replace x3 := kCb hb5 x3
          replace y0 := kCb hb5 y0
          replace y1 := kCb hb5 y1
          replace y2 := kCb hb5 y2
          replace y3 := kCb hb5 y3
          replace QV := hid (QV.out.below hb5)
          replace QW := hid (QW.out.below hb5)
          replace HRow := hid (HRow.out.below hb5); replace HT := hid (HT.out.below hb5)
          replace HB := hid (HB.out.trans (hb5.mono HB.out.size))
          generalize wr.alloc (.cells #[.int .i64 0, .bool false, .slice none 0 0, .slice none 0 0] 106) = w5 at *
          generalize wr.heap.size = bt at *
          have OB := hid hO5
          clear hb5 hO5
          go_quiet (fail)
          generalize hg : w5.drewN _ = w6
          have hb : Below w5.heap.size w5 w6 := by rw [← hg]; exact below_drewN (Below.refl _ _) _
          clear hg
          replace x0 := kCb hb x0
          replace x1 := kCb hb x1
          replace x2 := kCb hb x2
          replace x3 := kCb hb x3
          replace y0 := kCb hb y0
          replace y1 := kCb hb y1
          replace y2 := kCb hb y2
          replace y3 := kCb hb y3
          replace QV := hid (QV.out.below hb)
          replace QW := hid (QW.out.below hb)
          replace HRow := hid (HRow.out.below hb)
          replace HT := hid (HT.out.below hb)
          replace OB := hid (OB.out.below hb)
          replace HB := hid (HB.out.trans (hb.mono HB.out.size))
          clear hb
          obtain ⟨zo, z0, z1, z2, z3, zf⟩ := OB.out
          have PK := hid (pk_mk (a := a) (t := ⟨ts, tx, tn, tc, tf, ty, tm, td, tg⟩) HB.out hbt0 OB.out HRow.out hne HT.out (QV.out.mono (by omega)))
          go_upto_region 13 with fail
          clear z0 z1 z2 z3 zf zo
          generalize (((w6.setCell ⟨bt, 0, none⟩ (.int .i64 a)).setCell ⟨bt, 1, none⟩ (.bool ts)).setCell ⟨bt, 2, none⟩ (.slice tx tn tc)).setCell ⟨bt, 3, none⟩ (.slice ty tm td) = w9 at *
          clear x0 x1 x2 x3 y0 y1 y2 y3 QV QW HRow HT OB HB
          obtain ⟨c0, c1, c2, c3⟩ := PK.out.box
          replace c0 : w9.cell? ⟨bt, 0, none⟩ = some (.int .i64 a) := c0
          replace c1 : w9.cell? ⟨bt, 1, none⟩ = some (.bool ts) := c1
          replace c2 : w9.cell? ⟨bt, 2, none⟩ = some (.slice tx tn tc) := c2
          replace c3 : w9.cell? ⟨bt, 3, none⟩ = some (.slice ty tm td) := c3
          have QN : Hid (Qn w9 ts tx tn tf ty tm tg (q)) := PK.out.num.2.2
          have hln : tn ≤ 10 * K + 9 := PK.out.num.1
          go_wp2_with fail
          refine (qSign_c QN.out (by omega)).mono ?_
          rintro en w10 ⟨sg1, rfl, hb10, hord⟩
          have hsg := ord_zero hord
          have HB10 := hid (PK.out.bel.trans (hb10.mono PK.out.bel.size)); have HR10 := hid (PK.out.row.below hb10); have HL10 := hid (PK.out.lst.below hb10); have HN10 := hid (PK.out.num.below hb10)
          replace c0 := kCb hb10 c0; replace c1 := kCb hb10 c1; replace c2 := kCb hb10 c2; replace c3 := kCb hb10 c3
          clear PK QN hord hb10
          by_cases hq0 : q = 0
          · have hsz1 : (sg1 != 0) = false := by rw [hsg, hq0]; rfl
            have HEZ : Hid (us ++ mg r (v.drop (i + 1)) (v'.drop (j)) = mg r v v') := by
              show _ = _
              rw [← HE.out, HM.out]; unfold nz; rw [if_pos hq0]; rfl
            clear hsg hq0 HM HE HN10 c0 c1 c2 c3
            go_wp2
            go_roundw
            case rel => exact ⟨i + 1, j, l, us, by omega, by omega, by go_num, by go_num, by omega, HB10.out, HR10.out, HL10.out, HEZ.out⟩
            case measure => simp [intOf]; omega
          · have hsz1 : (sg1 != 0) = true := by rw [hsg]; simp [hq0]
            have HEZ : Hid ((us ++ [((a : Int), q)]) ++ mg r (v.drop (i + 1)) (v'.drop (j)) = mg r v v') := by
              show _ = _
              rw [← HE.out, HM.out]; unfold nz; rw [if_neg hq0, List.append_assoc]
            have hsz := HB10.out.size
            clear hsg hq0 HM HE
            go_wp2_with (at_builtin; go_must (refine wpList_append_one w10 rfl (.tmp 112) (.tmp 114) 84 rfl w0.heap.size 106 64 4 (.agg #[.int .i64 0, .bool false, .slice none 0 0, .slice none 0 0]) Tryz.underlying84 Tryz.infoTq rfl (by decide) nz4 u7 l.length (tcells l) rfl HR10.out #[.int .i64 a, .bool ts, .slice tx tn tc, .slice ty tm td] rfl rfl (one4 _ _ _ _ _ _ _ _) (not4 _ _ _ _ _ _ _ _) ?p1 (by decide) hsz ?_))
            case p1 => omega
            intro g20 cap20 w20 hr20 hk20 hb20 hg20
            have HB20 := hid (hb20 w0 HB10.out (Nat.le_refl _))
            have HR20 : Hid (RowG 106 4 w0.heap.size w20 (.slice (some ⟨g20, 0, none⟩) (l.length + 1) cap20) (l ++ [((a : Int), (⟨ts, tx, tn, tc, tf, ty, tm, td, tg⟩ : Nm))]).length (tcells (l ++ [((a : Int), (⟨ts, tx, tn, tc, tf, ty, tm, td, tg⟩ : Nm))]))) := by
              show RowG _ _ _ _ _ _ _
              rw [tcells_append, List.length_append]; exact hr20
            have HT20 := hid ((HL10.out.kp hk20).snoc (z := (a : Int)) (t := ⟨ts, tx, tn, tc, tf, ty, tm, td, tg⟩) (HN10.out.kp hk20))
            clear hr20 hk20 hb20 hg20 HR10 HL10 HB10 HN10 c0 c1 c2 c3 hsz
            go_wp2
            go_roundw
            case rel => exact ⟨i + 1, j, _, _, by omega, by omega, by go_num, by go_num, by simp; omega, HB20.out, HR20.out, HT20.out, HEZ.out⟩
            case measure => simp [intOf]; omega
        by_cases hba : bb < a
        · have d2 : decide (a < bb) = false := by simp; omega
          have d3 : decide (bb < a) = true := by simp [hba]
          have HM : Hid (mg r (v.drop i) (v'.drop j) = nz bb (r * p) ++ mg r (v.drop i) (v'.drop (j + 1))) := by
            show _ = _
            rw [HDw.out]
            rw [HDv.out, mg_gt _ _ _ _ _ _ _ hba]
          have hbr := BR.out.below HB.out
          obtain ⟨_, r0, r1, r2⟩ := id hbr
          have RQ := hid (RR.out.below HB.out)
          have nbr : wr.heap.size ≠ br := by omega
          clear hbr
          go_upto_region 7 with fail
          have hb5 := below_alloc (Below.refl wr.heap.size wr) (.cells #[.int .i64 0, .bool false, .slice none 0 0, .slice none 0 0] 106)
          have hO5 := ob4_new wr 106
          replace y0 := kCb hb5 y0
          replace y1 := kCb hb5 y1
          replace y2 := kCb hb5 y2
          replace y3 := kCb hb5 y3
          replace r0 := kCb hb5 r0
          replace r1 := kCb hb5 r1
          replace r2 := kCb hb5 r2
          replace x0 := kCb hb5 x0
          replace x1 := kCb hb5 x1
          replace x2 := kCb hb5 x2
          replace x3 := kCb hb5 x3
          replace QW := hid (QW.out.below hb5)
          replace RQ := hid (RQ.out.below hb5)
          replace QV := hid (QV.out.below hb5)
          replace HRow := hid (HRow.out.below hb5); replace HT := hid (HT.out.below hb5)
          replace HB := hid (HB.out.trans (hb5.mono HB.out.size))
          generalize wr.alloc (.cells #[.int .i64 0, .bool false, .slice none 0 0, .slice none 0 0] 106) = w5 at *
          generalize wr.heap.size = bt at *
          have OB := hid hO5
          clear hb5 hO5
          go_quiet (fail)
          generalize hg : w5.drewN _ = w6
          have hb : Below w5.heap.size w5 w6 := by rw [← hg]; exact below_drewN (Below.refl _ _) _
          clear hg
          replace y0 := kCb hb y0
          replace y1 := kCb hb y1
          replace y2 := kCb hb y2
          replace y3 := kCb hb y3
          replace r0 := kCb hb r0
          replace r1 := kCb hb r1
          replace r2 := kCb hb r2
          replace x0 := kCb hb x0
          replace x1 := kCb hb x1
          replace x2 := kCb hb x2
          replace x3 := kCb hb x3
          replace QW := hid (QW.out.below hb)
          replace RQ := hid (RQ.out.below hb)
          replace QV := hid (QV.out.below hb)
          replace HRow := hid (HRow.out.below hb)
          replace HT := hid (HT.out.below hb)
          replace OB := hid (OB.out.below hb)
          replace HB := hid (HB.out.trans (hb.mono HB.out.size))
          clear hb
          go_wp2_with fail
          go_quiet (fail)
          generalize hg : w6.drewN _ = w7
          have hb : Below w6.heap.size w6 w7 := by rw [← hg]; exact below_drewN (Below.refl _ _) _
          clear hg
          replace y0 := kCb hb y0
          replace y1 := kCb hb y1
          replace y2 := kCb hb y2
          replace y3 := kCb hb y3
          replace r0 := kCb hb r0
          replace r1 := kCb hb r1
          replace r2 := kCb hb r2
          replace x0 := kCb hb x0
          replace x1 := kCb hb x1
          replace x2 := kCb hb x2
          replace x3 := kCb hb x3
          replace QW := hid (QW.out.below hb)
          replace RQ := hid (RQ.out.below hb)
          replace QV := hid (QV.out.below hb)
          replace HRow := hid (HRow.out.below hb)
          replace HT := hid (HT.out.below hb)
          replace OB := hid (OB.out.below hb)
          replace HB := hid (HB.out.trans (hb.mono HB.out.size))
          clear hb
          go_wp2_with fail
          have CM : Hid (∀ W, Below w7.heap.size w7 W → Calls Tryz.prog 35 #[.agg #[.bool s, .slice x n c, .slice y m e], .agg #[.bool ss, .slice sx sn sc, .slice sy sm sd]] W fun e w' => ∃ s x n c d y m e' g, e = .returned (.agg #[.bool s, .slice x n c, .slice y m e']) ∧ Below W.heap.size W w' ∧ Hid (n ≤ 4 * K + 3 ∧ m ≤ 4 * K + 3 ∧ Qn w' s x n d y m g (r * p))) := fun W hW => by
            have q1 : sn ≤ K := QW.out.1
            have q2 : sm ≤ K := QW.out.2.1
            have q3 : Qn w7 ss sx sn sf sy sm sg p := QW.out.2.2
            exact (qMul_c (RQ.out.below hW) (q3.below hW) (by omega) (by omega) (by omega) (by omega)).mono (fun _ _ ⟨s, x, n, c, d, y, m, c', g, h1, h2, h3, h4, h5⟩ => ⟨s, x, n, c, d, y, m, c', g, h1, h2, by omega, by omega, h5⟩)
          refine wp_region_held_drew (S := fun w' => w'.cell? ⟨b', o' + j * 4, none⟩ = some (.int .i64 bb) ∧ w'.cell? ⟨b', o' + j * 4 + 1, none⟩ = some (.bool ss) ∧ w'.cell? ⟨b', o' + j * 4 + 2, none⟩ = some (.slice sx sn sc) ∧ w'.cell? ⟨b', o' + j * 4 + 3, none⟩ = some (.slice sy sm sd) ∧ w'.cell? ⟨br, 0, none⟩ = some (.bool s) ∧ w'.cell? ⟨br, 1, none⟩ = some (.slice x n c) ∧ w'.cell? ⟨br, 2, none⟩ = some (.slice y m e)) (by kernel_rfl) ?_ (fun hHeld => ?_)
          · (refine ⟨?_, ?_, ?_, ?_, ?_, ?_, ?_⟩ <;> repeat (with_reducible first | assumption | refine kCd ?_))
          refine wpAnyH_take (i := 0) (v := ?_) rfl (by kernel_rfl) (by kernel_rfl) (by kernel_rfl) (fun _ _ _ h => h) (Or.inl ⟨by rfl, ?_⟩) (by assumption) ?_
          rotate_left
          (focus (intro w0 hSw; (try dsimp only at hSw); go_simp <;> with_reducible rfl))
          simp only [List.getElem_toArray, List.getElem_cons_zero, Act.put, List.setIfInBounds_toArray, List.set_cons_zero, List.set_cons_succ]
          refine wpAnyH_take (i := 1) (v := ?_) rfl (by kernel_rfl) (by kernel_rfl) (by kernel_rfl) (fun _ _ _ h => h) (Or.inl ⟨by rfl, ?_⟩) (by assumption) ?_
          rotate_left
          (focus (intro w0 hSw; (try dsimp only at hSw); go_simp <;> with_reducible rfl))
          simp only [List.getElem_toArray, List.getElem_cons_succ, List.getElem_cons_zero, Act.put, List.setIfInBounds_toArray, List.set_cons_zero, List.set_cons_succ]
          refine wpAnyH_take (i := 2) (v := ?_) rfl (by kernel_rfl) (by kernel_rfl) (by kernel_rfl) (fun _ _ _ h => h) (Or.inl ⟨by rfl, ?_⟩) (by assumption) ?_
          rotate_left
          (focus (intro w0 hSw; (try dsimp only at hSw); go_simp <;> with_reducible rfl))
          simp only [List.getElem_toArray, List.getElem_cons_succ, List.getElem_cons_zero, Act.put, List.setIfInBounds_toArray, List.set_cons_zero, List.set_cons_succ]
          refine wpAnyH_take (i := 3) (v := ?_) rfl (by kernel_rfl) (by kernel_rfl) (by kernel_rfl) (fun _ _ _ h => h) (Or.inl ⟨by rfl, ?_⟩) (by assumption) ?_
          rotate_left
          (focus (intro w0 hSw; (try dsimp only at hSw); go_simp <;> with_reducible rfl))
          simp only [List.getElem_toArray, List.getElem_cons_succ, List.getElem_cons_zero, Act.put, List.setIfInBounds_toArray, List.set_cons_zero, List.set_cons_succ]
          refine wpAnyH_take (i := 4) (v := ?_) rfl (by kernel_rfl) (by kernel_rfl) (by kernel_rfl) (fun _ _ _ h => h) (Or.inl ⟨by rfl, ?_⟩) (by assumption) ?_
          rotate_left
          (focus (intro w0 hSw; (try dsimp only at hSw); go_simp <;> with_reducible rfl))
          simp only [List.getElem_toArray, List.getElem_cons_succ, List.getElem_cons_zero, Act.put, List.setIfInBounds_toArray, List.set_cons_zero, List.set_cons_succ]
          refine wpAnyH_take (i := 5) (v := ?_) rfl (by kernel_rfl) (by kernel_rfl) (by kernel_rfl) (fun _ _ _ h => h) (Or.inl ⟨by rfl, ?_⟩) (by assumption) ?_
          rotate_left
          (focus (intro w0 hSw; (try dsimp only at hSw); go_simp <;> with_reducible rfl))
          simp only [List.getElem_toArray, List.getElem_cons_succ, List.getElem_cons_zero, Act.put, List.setIfInBounds_toArray, List.set_cons_zero, List.set_cons_succ]
          refine wpAnyH_take (i := 6) (v := ?_) rfl (by kernel_rfl) (by kernel_rfl) (by kernel_rfl) (fun _ _ _ h => h) (Or.inl ⟨by rfl, ?_⟩) (by assumption) ?_
          rotate_left
          (focus (intro w0 hSw; (try dsimp only at hSw); go_simp <;> with_reducible rfl))
          simp only [List.getElem_toArray, List.getElem_cons_succ, List.getElem_cons_zero, Act.put, List.setIfInBounds_toArray, List.set_cons_zero, List.set_cons_succ]
          refine wpAnyH_take (i := 7) (v := ?_) rfl (by kernel_rfl) (by kernel_rfl) (by kernel_rfl) (fun _ _ _ h => h) (Or.inl ⟨by rfl, ?_⟩) (by assumption) ?_
          rotate_left
          (focus (intro w0 hSw; (try dsimp only at hSw); go_simp <;> with_reducible rfl))
          simp only [List.getElem_toArray, List.getElem_cons_succ, List.getElem_cons_zero, Act.put, List.setIfInBounds_toArray, List.set_cons_zero, List.set_cons_succ]
          refine wpAnyH_take (i := 8) (v := ?_) rfl (by kernel_rfl) (by kernel_rfl) (by kernel_rfl) (fun _ _ _ h => h) (Or.inl ⟨by rfl, ?_⟩) (by assumption) ?_
          rotate_left
          (focus (intro w0 hSw; (try dsimp only at hSw); go_simp <;> with_reducible rfl))
          simp only [List.getElem_toArray, List.getElem_cons_succ, List.getElem_cons_zero, Act.put, List.setIfInBounds_toArray, List.set_cons_zero, List.set_cons_succ]
          refine wpAnyH_take (i := 9) (v := ?_) rfl (by kernel_rfl) (by kernel_rfl) (by kernel_rfl) (fun _ _ _ h => h) (Or.inl ⟨by rfl, ?_⟩) (by assumption) ?_
          rotate_left
          (focus (intro w0 hSw; (try dsimp only at hSw); go_simp <;> with_reducible rfl))
          simp only [List.getElem_toArray, List.getElem_cons_succ, List.getElem_cons_zero, Act.put, List.setIfInBounds_toArray, List.set_cons_zero, List.set_cons_succ]
          refine wpAnyH_take (i := 10) (v := ?_) rfl (by kernel_rfl) (by kernel_rfl) (by kernel_rfl) (fun _ _ _ h => h) (Or.inl ⟨by rfl, ?_⟩) (by assumption) ?_
          rotate_left
          (focus (intro w0 hSw; (try dsimp only at hSw); go_simp <;> with_reducible rfl))
          simp only [List.getElem_toArray, List.getElem_cons_succ, List.getElem_cons_zero, Act.put, List.setIfInBounds_toArray, List.set_cons_zero, List.set_cons_succ]
          refine wpAnyH_ready (rs := [11]) (by kernel_rfl) (by simp) ?_
          refine AllReadyH.cons (o := _) rfl (fun K hK => ?_) ?_
          rotate_left
          exact AllReadyH.nil
          go_simp
          go_at_call 35
          with_reducible refine (CM.out _ (by repeat (with_reducible first | assumption | exact Below.refl _ _ | refine Below.drew ?_ | refine kBb (by assumption) ?_))).mono ?_
          rintro en w8 ⟨s8, x8, n8, c8, d8, y8, m8, e8, g8, rfl, hb8, H8⟩
          have B8 : Below w7.heap.size w7 w8 := (by repeat (with_reducible first | assumption | exact Below.refl _ _ | refine Below.drew ?_ | refine kBb (by assumption) ?_))
          have O8 := OB.out.below B8
          obtain ⟨_, v0, v1, v2, v3, vf8⟩ := id O8
          (try go_wp2_with fail)
          refine hK.out _ _ ?_ (fun hHeld3 => ?_)
          · ((try dsimp only); (refine ⟨?_, ?_, ?_, ?_, ?_, ?_, ?_⟩ <;> repeat (with_reducible first | assumption | refine kCb B8 ?_)))
          clear hK K
          try simp only [Act.put, List.setIfInBounds_toArray, List.set_cons_zero, List.set_cons_succ]
          refine wpAnyH_take (i := 12) (v := ?_) rfl (by kernel_rfl) (by kernel_rfl) (by kernel_rfl) (fun _ _ _ h => h) (Or.inl ⟨by rfl, ?_⟩) (by assumption) ?_
          rotate_left
          (focus (intro w0 hSw; (try dsimp only at hSw); go_simp <;> with_reducible rfl))
          simp only [List.getElem_toArray, List.getElem_cons_succ, List.getElem_cons_zero, Act.put, List.setIfInBounds_toArray, List.set_cons_zero, List.set_cons_succ]
          refine wpAnyH_ready (rs := [13]) (by kernel_rfl) (by simp) ?_
          refine AllReadyH.cons (o := _) rfl (fun K hK => ?_) ?_
          rotate_left
          exact AllReadyH.nil
          go_simp
          refine hK.out _ _ ?_ (fun hHeld9 => ?_)
          · ((try dsimp only); (refine ⟨?_, ?_, ?_, ?_, ?_, ?_, ?_⟩ <;> repeat (with_reducible first | assumption | refine kCs (by simp only [ne_eq]; omega) ?_ | refine kCb B8 ?_)))
          clear hK K
          try simp only [Act.put, List.setIfInBounds_toArray, List.set_cons_zero, List.set_cons_succ]
          refine wpAnyH_done (by kernel_rfl) ?_ _
          replace HB := hid (HB.out.trans (B8.mono HB.out.size)); replace HRow := hid (HRow.out.below B8); replace HT := hid (HT.out.below B8); replace OB := hid O8
          have QP : QnT (10 * K + 9) w8 ⟨s8, x8, n8, c8, d8, y8, m8, e8, g8⟩ (r * p) := ⟨Nat.le_trans H8.out.1 (by omega), Nat.le_trans H8.out.2.1 (by omega), H8.out.2.2⟩
          have PK := hid (pk_mk (a := bb) (t := ⟨s8, x8, n8, c8, d8, y8, m8, e8, g8⟩) HB.out hbt0 OB.out HRow.out hne HT.out QP)
          clear hHeld hHeld3 hHeld9 O8 B8 hb8 H8 QP v0 v1 v2 v3 vf8 CM
          generalize (((w8.setCell ⟨bt, 0, none⟩ (.int .i64 bb)).setCell ⟨bt, 1, none⟩ (.bool s8)).setCell ⟨bt, 2, none⟩ (.slice x8 n8 c8)).setCell ⟨bt, 3, none⟩ (.slice y8 m8 e8) = w9 at *
          clear y0 y1 y2 y3 r0 r1 r2 x0 x1 x2 x3 QW RQ QV HRow HT OB HB
          obtain ⟨c0, c1, c2, c3⟩ := PK.out.box
          replace c0 : w9.cell? ⟨bt, 0, none⟩ = some (.int .i64 bb) := c0
          replace c1 : w9.cell? ⟨bt, 1, none⟩ = some (.bool s8) := c1
          replace c2 : w9.cell? ⟨bt, 2, none⟩ = some (.slice x8 n8 c8) := c2
          replace c3 : w9.cell? ⟨bt, 3, none⟩ = some (.slice y8 m8 e8) := c3
          have QN : Hid (Qn w9 s8 x8 n8 d8 y8 m8 g8 (r * p)) := PK.out.num.2.2
          have hln : n8 ≤ 10 * K + 9 := PK.out.num.1
          go_wp2_with fail
          refine (qSign_c QN.out (by omega)).mono ?_
          rintro en w10 ⟨sg1, rfl, hb10, hord⟩
          have hsg := ord_zero hord
          have HB10 := hid (PK.out.bel.trans (hb10.mono PK.out.bel.size)); have HR10 := hid (PK.out.row.below hb10); have HL10 := hid (PK.out.lst.below hb10); have HN10 := hid (PK.out.num.below hb10)
          replace c0 := kCb hb10 c0; replace c1 := kCb hb10 c1; replace c2 := kCb hb10 c2; replace c3 := kCb hb10 c3
          clear PK QN hord hb10
          by_cases hq0 : r * p = 0
          · have hsz1 : (sg1 != 0) = false := by rw [hsg, hq0]; rfl
            have HEZ : Hid (us ++ mg r (v.drop (i)) (v'.drop (j + 1)) = mg r v v') := by
              show _ = _
              rw [← HE.out, HM.out]; unfold nz; rw [if_pos hq0]; rfl
            clear hsg hq0 HM HE HN10 c0 c1 c2 c3
            go_wp2
            go_roundw
            case rel => exact ⟨i, j + 1, l, us, by omega, by omega, by go_num, by go_num, by omega, HB10.out, HR10.out, HL10.out, HEZ.out⟩
            case measure => simp [intOf]; omega
          · have hsz1 : (sg1 != 0) = true := by rw [hsg]; simp [hq0]
            have HEZ : Hid ((us ++ [((bb : Int), r * p)]) ++ mg r (v.drop (i)) (v'.drop (j + 1)) = mg r v v') := by
              show _ = _
              rw [← HE.out, HM.out]; unfold nz; rw [if_neg hq0, List.append_assoc]
            have hsz := HB10.out.size
            clear hsg hq0 HM HE
            go_wp2_with (at_builtin; go_must (refine wpList_append_one w10 rfl (.tmp 112) (.tmp 114) 84 rfl w0.heap.size 106 64 4 (.agg #[.int .i64 0, .bool false, .slice none 0 0, .slice none 0 0]) Tryz.underlying84 Tryz.infoTq rfl (by decide) nz4 u7 l.length (tcells l) rfl HR10.out #[.int .i64 bb, .bool s8, .slice x8 n8 c8, .slice y8 m8 e8] rfl rfl (one4 _ _ _ _ _ _ _ _) (not4 _ _ _ _ _ _ _ _) ?p1 (by decide) hsz ?_))
            case p1 => omega
            intro g20 cap20 w20 hr20 hk20 hb20 hg20
            have HB20 := hid (hb20 w0 HB10.out (Nat.le_refl _))
            have HR20 : Hid (RowG 106 4 w0.heap.size w20 (.slice (some ⟨g20, 0, none⟩) (l.length + 1) cap20) (l ++ [((bb : Int), (⟨s8, x8, n8, c8, d8, y8, m8, e8, g8⟩ : Nm))]).length (tcells (l ++ [((bb : Int), (⟨s8, x8, n8, c8, d8, y8, m8, e8, g8⟩ : Nm))]))) := by
              show RowG _ _ _ _ _ _ _
              rw [tcells_append, List.length_append]; exact hr20
            have HT20 := hid ((HL10.out.kp hk20).snoc (z := (bb : Int)) (t := ⟨s8, x8, n8, c8, d8, y8, m8, e8, g8⟩) (HN10.out.kp hk20))
            clear hr20 hk20 hb20 hg20 HR10 HL10 HB10 HN10 c0 c1 c2 c3 hsz
            go_wp2
            go_roundw
            case rel => exact ⟨i, j + 1, _, _, by omega, by omega, by go_num, by go_num, by simp; omega, HB20.out, HR20.out, HT20.out, HEZ.out⟩
            case measure => simp [intOf]; omega
        have d2 : decide (a < bb) = false := by simp; omega
        have d3 : decide (bb < a) = false := by simp; omega
        have HM : Hid (mg r (v.drop i) (v'.drop j) = nz a (q + r * p) ++ mg r (v.drop (i + 1)) (v'.drop (j + 1))) := by
          show _ = _
          have hab2 : bb = a := by omega
          rw [HDv.out, HDw.out, hab2, mg_eq]
        have hbr := BR.out.below HB.out
        obtain ⟨_, r0, r1, r2⟩ := id hbr
        have RQ := hid (RR.out.below HB.out)
        have nbr : wr.heap.size ≠ br := by omega
        clear hbr
        go_upto_region 7 with fail
        have hb5 := below_alloc (Below.refl wr.heap.size wr) (.cells #[.int .i64 0, .bool false, .slice none 0 0, .slice none 0 0] 106)
        have hO5 := ob4_new wr 106
        replace y0 := kCb hb5 y0
        replace y1 := kCb hb5 y1
        replace y2 := kCb hb5 y2
        replace y3 := kCb hb5 y3
        replace r0 := kCb hb5 r0
        replace r1 := kCb hb5 r1
        replace r2 := kCb hb5 r2
        replace x0 := kCb hb5 x0
        replace x1 := kCb hb5 x1
        replace x2 := kCb hb5 x2
        replace x3 := kCb hb5 x3
        replace QW := hid (QW.out.below hb5)
        replace RQ := hid (RQ.out.below hb5)
        replace QV := hid (QV.out.below hb5)
        replace HRow := hid (HRow.out.below hb5); replace HT := hid (HT.out.below hb5)
        replace HB := hid (HB.out.trans (hb5.mono HB.out.size))
        generalize wr.alloc (.cells #[.int .i64 0, .bool false, .slice none 0 0, .slice none 0 0] 106) = w5 at *
        generalize wr.heap.size = bt at *
        have OB := hid hO5
        clear hb5 hO5
        go_quiet (fail)
        generalize hg : w5.drewN _ = w6
        have hb : Below w5.heap.size w5 w6 := by rw [← hg]; exact below_drewN (Below.refl _ _) _
        clear hg
        replace y0 := kCb hb y0
        replace y1 := kCb hb y1
        replace y2 := kCb hb y2
        replace y3 := kCb hb y3
        replace r0 := kCb hb r0
        replace r1 := kCb hb r1
        replace r2 := kCb hb r2
        replace x0 := kCb hb x0
        replace x1 := kCb hb x1
        replace x2 := kCb hb x2
        replace x3 := kCb hb x3
        replace QW := hid (QW.out.below hb)
        replace RQ := hid (RQ.out.below hb)
        replace QV := hid (QV.out.below hb)
        replace HRow := hid (HRow.out.below hb)
        replace HT := hid (HT.out.below hb)
        replace OB := hid (OB.out.below hb)
        replace HB := hid (HB.out.trans (hb.mono HB.out.size))
        clear hb
        go_wp2_with fail
        go_quiet (fail)
        generalize hg : w6.drewN _ = w7
        have hb : Below w6.heap.size w6 w7 := by rw [← hg]; exact below_drewN (Below.refl _ _) _
        clear hg
        replace y0 := kCb hb y0
        replace y1 := kCb hb y1
        replace y2 := kCb hb y2
        replace y3 := kCb hb y3
        replace r0 := kCb hb r0
        replace r1 := kCb hb r1
        replace r2 := kCb hb r2
        replace x0 := kCb hb x0
        replace x1 := kCb hb x1
        replace x2 := kCb hb x2
        replace x3 := kCb hb x3
        replace QW := hid (QW.out.below hb)
        replace RQ := hid (RQ.out.below hb)
        replace QV := hid (QV.out.below hb)
        replace HRow := hid (HRow.out.below hb)
        replace HT := hid (HT.out.below hb)
        replace OB := hid (OB.out.below hb)
        replace HB := hid (HB.out.trans (hb.mono HB.out.size))
        clear hb
        go_wp2_with fail
        have CM : Hid (∀ W, Below w7.heap.size w7 W → Calls Tryz.prog 35 #[.agg #[.bool s, .slice x n c, .slice y m e], .agg #[.bool ss, .slice sx sn sc, .slice sy sm sd]] W fun e w' => ∃ s x n c d y m e' g, e = .returned (.agg #[.bool s, .slice x n c, .slice y m e']) ∧ Below W.heap.size W w' ∧ Hid (n ≤ 4 * K + 3 ∧ m ≤ 4 * K + 3 ∧ Qn w' s x n d y m g (r * p))) := fun W hW => by
          have q1 : sn ≤ K := QW.out.1
          have q2 : sm ≤ K := QW.out.2.1
          have q3 : Qn w7 ss sx sn sf sy sm sg p := QW.out.2.2
          exact (qMul_c (RQ.out.below hW) (q3.below hW) (by omega) (by omega) (by omega) (by omega)).mono (fun _ _ ⟨s, x, n, c, d, y, m, c', g, h1, h2, h3, h4, h5⟩ => ⟨s, x, n, c, d, y, m, c', g, h1, h2, by omega, by omega, h5⟩)
        have CA : Hid (∀ (W : World) (s1 : Bool) (x1 : Option Addr) (n1 c1 : Nat) (d1 : Nat → Int) (y1 : Option Addr) (m1 e1 : Nat) (g1 : Nat → Int), Below w7.heap.size w7 W → n1 ≤ 4 * K + 3 ∧ m1 ≤ 4 * K + 3 ∧ Qn W s1 x1 n1 d1 y1 m1 g1 (r * p) → Calls Tryz.prog 33 #[.agg #[.bool ts, .slice tx tn tc, .slice ty tm td], .agg #[.bool s1, .slice x1 n1 c1, .slice y1 m1 e1]] W fun e w' => ∃ s x n c d y m e' g, e = .returned (.agg #[.bool s, .slice x n c, .slice y m e']) ∧ Below W.heap.size W w' ∧ Hid (n ≤ 10 * K + 9 ∧ m ≤ 10 * K + 9 ∧ Qn w' s x n d y m g (q + r * p))) := fun W s1 x1 n1 c1 d1 y1 m1 e1 g1 hW hh => by
          have q1 : tn ≤ K := QV.out.1
          have q2 : tm ≤ K := QV.out.2.1
          have q3 : Qn w7 ts tx tn tf ty tm tg q := QV.out.2.2
          exact (qAdd_c (q3.below hW) hh.2.2 (by omega) (by omega) (by omega) (by omega)).mono (fun _ _ ⟨s, x, n, c, d, y, m, c', g, h1, h2, h3, h4, h5⟩ => ⟨s, x, n, c, d, y, m, c', g, h1, h2, by omega, by omega, h5⟩)
        refine wp_region_held_drew (S := fun w' => w'.cell? ⟨b', o' + j * 4, none⟩ = some (.int .i64 bb) ∧ w'.cell? ⟨b', o' + j * 4 + 1, none⟩ = some (.bool ss) ∧ w'.cell? ⟨b', o' + j * 4 + 2, none⟩ = some (.slice sx sn sc) ∧ w'.cell? ⟨b', o' + j * 4 + 3, none⟩ = some (.slice sy sm sd) ∧ w'.cell? ⟨br, 0, none⟩ = some (.bool s) ∧ w'.cell? ⟨br, 1, none⟩ = some (.slice x n c) ∧ w'.cell? ⟨br, 2, none⟩ = some (.slice y m e) ∧ w'.cell? ⟨b, o + i * 4, none⟩ = some (.int .i64 a) ∧ w'.cell? ⟨b, o + i * 4 + 1, none⟩ = some (.bool ts) ∧ w'.cell? ⟨b, o + i * 4 + 2, none⟩ = some (.slice tx tn tc) ∧ w'.cell? ⟨b, o + i * 4 + 3, none⟩ = some (.slice ty tm td)) (by kernel_rfl) ?_ (fun hHeld => ?_)
        · (refine ⟨?_, ?_, ?_, ?_, ?_, ?_, ?_, ?_, ?_, ?_, ?_⟩ <;> repeat (with_reducible first | assumption | refine kCd ?_))
        refine wpAnyH_take (i := 0) (v := ?_) rfl (by kernel_rfl) (by kernel_rfl) (by kernel_rfl) (fun _ _ _ h => h) (Or.inl ⟨by rfl, ?_⟩) (by assumption) ?_
        rotate_left
        (focus (intro w0 hSw; (try dsimp only at hSw); go_simp <;> with_reducible rfl))
        simp only [List.getElem_toArray, List.getElem_cons_zero, Act.put, List.setIfInBounds_toArray, List.set_cons_zero, List.set_cons_succ]
        refine wpAnyH_take (i := 1) (v := ?_) rfl (by kernel_rfl) (by kernel_rfl) (by kernel_rfl) (fun _ _ _ h => h) (Or.inl ⟨by rfl, ?_⟩) (by assumption) ?_
        rotate_left
        (focus (intro w0 hSw; (try dsimp only at hSw); go_simp <;> with_reducible rfl))
        simp only [List.getElem_toArray, List.getElem_cons_succ, List.getElem_cons_zero, Act.put, List.setIfInBounds_toArray, List.set_cons_zero, List.set_cons_succ]
        refine wpAnyH_take (i := 2) (v := ?_) rfl (by kernel_rfl) (by kernel_rfl) (by kernel_rfl) (fun _ _ _ h => h) (Or.inl ⟨by rfl, ?_⟩) (by assumption) ?_
        rotate_left
        (focus (intro w0 hSw; (try dsimp only at hSw); go_simp <;> with_reducible rfl))
        simp only [List.getElem_toArray, List.getElem_cons_succ, List.getElem_cons_zero, Act.put, List.setIfInBounds_toArray, List.set_cons_zero, List.set_cons_succ]
        refine wpAnyH_take (i := 3) (v := ?_) rfl (by kernel_rfl) (by kernel_rfl) (by kernel_rfl) (fun _ _ _ h => h) (Or.inl ⟨by rfl, ?_⟩) (by assumption) ?_
        rotate_left
        (focus (intro w0 hSw; (try dsimp only at hSw); go_simp <;> with_reducible rfl))
        simp only [List.getElem_toArray, List.getElem_cons_succ, List.getElem_cons_zero, Act.put, List.setIfInBounds_toArray, List.set_cons_zero, List.set_cons_succ]
        refine wpAnyH_take (i := 4) (v := ?_) rfl (by kernel_rfl) (by kernel_rfl) (by kernel_rfl) (fun _ _ _ h => h) (Or.inl ⟨by rfl, ?_⟩) (by assumption) ?_
        rotate_left
        (focus (intro w0 hSw; (try dsimp only at hSw); go_simp <;> with_reducible rfl))
        simp only [List.getElem_toArray, List.getElem_cons_succ, List.getElem_cons_zero, Act.put, List.setIfInBounds_toArray, List.set_cons_zero, List.set_cons_succ]
        refine wpAnyH_take (i := 5) (v := ?_) rfl (by kernel_rfl) (by kernel_rfl) (by kernel_rfl) (fun _ _ _ h => h) (Or.inl ⟨by rfl, ?_⟩) (by assumption) ?_
        rotate_left
        (focus (intro w0 hSw; (try dsimp only at hSw); go_simp <;> with_reducible rfl))
        simp only [List.getElem_toArray, List.getElem_cons_succ, List.getElem_cons_zero, Act.put, List.setIfInBounds_toArray, List.set_cons_zero, List.set_cons_succ]
        refine wpAnyH_take (i := 6) (v := ?_) rfl (by kernel_rfl) (by kernel_rfl) (by kernel_rfl) (fun _ _ _ h => h) (Or.inl ⟨by rfl, ?_⟩) (by assumption) ?_
        rotate_left
        (focus (intro w0 hSw; (try dsimp only at hSw); go_simp <;> with_reducible rfl))
        simp only [List.getElem_toArray, List.getElem_cons_succ, List.getElem_cons_zero, Act.put, List.setIfInBounds_toArray, List.set_cons_zero, List.set_cons_succ]
        refine wpAnyH_take (i := 7) (v := ?_) rfl (by kernel_rfl) (by kernel_rfl) (by kernel_rfl) (fun _ _ _ h => h) (Or.inl ⟨by rfl, ?_⟩) (by assumption) ?_
        rotate_left
        (focus (intro w0 hSw; (try dsimp only at hSw); go_simp <;> with_reducible rfl))
        simp only [List.getElem_toArray, List.getElem_cons_succ, List.getElem_cons_zero, Act.put, List.setIfInBounds_toArray, List.set_cons_zero, List.set_cons_succ]
        refine wpAnyH_take (i := 8) (v := ?_) rfl (by kernel_rfl) (by kernel_rfl) (by kernel_rfl) (fun _ _ _ h => h) (Or.inl ⟨by rfl, ?_⟩) (by assumption) ?_
        rotate_left
        (focus (intro w0 hSw; (try dsimp only at hSw); go_simp <;> with_reducible rfl))
        simp only [List.getElem_toArray, List.getElem_cons_succ, List.getElem_cons_zero, Act.put, List.setIfInBounds_toArray, List.set_cons_zero, List.set_cons_succ]
        refine wpAnyH_take (i := 9) (v := ?_) rfl (by kernel_rfl) (by kernel_rfl) (by kernel_rfl) (fun _ _ _ h => h) (Or.inl ⟨by rfl, ?_⟩) (by assumption) ?_
        rotate_left
        (focus (intro w0 hSw; (try dsimp only at hSw); go_simp <;> with_reducible rfl))
        simp only [List.getElem_toArray, List.getElem_cons_succ, List.getElem_cons_zero, Act.put, List.setIfInBounds_toArray, List.set_cons_zero, List.set_cons_succ]
        refine wpAnyH_take (i := 10) (v := ?_) rfl (by kernel_rfl) (by kernel_rfl) (by kernel_rfl) (fun _ _ _ h => h) (Or.inl ⟨by rfl, ?_⟩) (by assumption) ?_
        rotate_left
        (focus (intro w0 hSw; (try dsimp only at hSw); go_simp <;> with_reducible rfl))
        simp only [List.getElem_toArray, List.getElem_cons_succ, List.getElem_cons_zero, Act.put, List.setIfInBounds_toArray, List.set_cons_zero, List.set_cons_succ]
        refine wpAnyH_take (i := 11) (v := ?_) rfl (by kernel_rfl) (by kernel_rfl) (by kernel_rfl) (fun _ _ _ h => h) (Or.inl ⟨by rfl, ?_⟩) (by assumption) ?_
        rotate_left
        (focus (intro w0 hSw; (try dsimp only at hSw); go_simp <;> with_reducible rfl))
        simp only [List.getElem_toArray, List.getElem_cons_succ, List.getElem_cons_zero, Act.put, List.setIfInBounds_toArray, List.set_cons_zero, List.set_cons_succ]
        refine wpAnyH_take (i := 12) (v := ?_) rfl (by kernel_rfl) (by kernel_rfl) (by kernel_rfl) (fun _ _ _ h => h) (Or.inl ⟨by rfl, ?_⟩) (by assumption) ?_
        rotate_left
        (focus (intro w0 hSw; (try dsimp only at hSw); go_simp <;> with_reducible rfl))
        simp only [List.getElem_toArray, List.getElem_cons_succ, List.getElem_cons_zero, Act.put, List.setIfInBounds_toArray, List.set_cons_zero, List.set_cons_succ]
        refine wpAnyH_take (i := 13) (v := ?_) rfl (by kernel_rfl) (by kernel_rfl) (by kernel_rfl) (fun _ _ _ h => h) (Or.inl ⟨by rfl, ?_⟩) (by assumption) ?_
        rotate_left
        (focus (intro w0 hSw; (try dsimp only at hSw); go_simp <;> with_reducible rfl))
        simp only [List.getElem_toArray, List.getElem_cons_succ, List.getElem_cons_zero, Act.put, List.setIfInBounds_toArray, List.set_cons_zero, List.set_cons_succ]
        refine wpAnyH_take (i := 14) (v := ?_) rfl (by kernel_rfl) (by kernel_rfl) (by kernel_rfl) (fun _ _ _ h => h) (Or.inl ⟨by rfl, ?_⟩) (by assumption) ?_
        rotate_left
        (focus (intro w0 hSw; (try dsimp only at hSw); go_simp <;> with_reducible rfl))
        simp only [List.getElem_toArray, List.getElem_cons_succ, List.getElem_cons_zero, Act.put, List.setIfInBounds_toArray, List.set_cons_zero, List.set_cons_succ]
        refine wpAnyH_take (i := 15) (v := ?_) rfl (by kernel_rfl) (by kernel_rfl) (by kernel_rfl) (fun _ _ _ h => h) (Or.inl ⟨by rfl, ?_⟩) (by assumption) ?_
        rotate_left
        (focus (intro w0 hSw; (try dsimp only at hSw); go_simp <;> with_reducible rfl))
        simp only [List.getElem_toArray, List.getElem_cons_succ, List.getElem_cons_zero, Act.put, List.setIfInBounds_toArray, List.set_cons_zero, List.set_cons_succ]
        refine wpAnyH_ready (rs := [16]) (by kernel_rfl) (by simp) ?_
        refine AllReadyH.cons (o := _) rfl (fun K hK => ?_) ?_
        rotate_left
        exact AllReadyH.nil
        go_simp
        go_at_call 35
        with_reducible refine (CM.out _ (by repeat (with_reducible first | assumption | exact Below.refl _ _ | refine Below.drew ?_ | refine kBb (by assumption) ?_))).mono ?_
        rintro en w8 ⟨s8, x8, n8, c8, d8, y8, m8, e8, g8, rfl, hb8, H8⟩
        have B8 : Below w7.heap.size w7 w8 := (by repeat (with_reducible first | assumption | exact Below.refl _ _ | refine Below.drew ?_ | refine kBb (by assumption) ?_))
        have O8 := OB.out.below B8
        obtain ⟨_, v0, v1, v2, v3, vf8⟩ := id O8
        (try go_wp2_with fail)
        refine hK.out _ _ ?_ (fun hHeld3 => ?_)
        · ((try dsimp only); (refine ⟨?_, ?_, ?_, ?_, ?_, ?_, ?_, ?_, ?_, ?_, ?_⟩ <;> repeat (with_reducible first | assumption | refine kCb B8 ?_)))
        clear hK K
        try simp only [Act.put, List.setIfInBounds_toArray, List.set_cons_zero, List.set_cons_succ]
        refine wpAnyH_ready (rs := [17]) (by kernel_rfl) (by simp) ?_
        refine AllReadyH.cons (o := _) rfl (fun K hK => ?_) ?_
        rotate_left
        exact AllReadyH.nil
        go_simp
        go_at_call 33
        with_reducible refine (CA.out _ s8 x8 n8 c8 d8 y8 m8 e8 g8 (by repeat (with_reducible first | assumption | exact Below.refl _ _ | refine Below.drew ?_ | refine kBb (by assumption) ?_)) H8.out).mono ?_
        rintro en wz ⟨s9, x9, n9, c9, d9, y9, m9, e9, g9, rfl, hbz, H9⟩
        have Bz : Below w7.heap.size w7 wz := (by repeat (with_reducible first | assumption | exact Below.refl _ _ | refine Below.drew ?_ | refine kBb (by assumption) ?_))
        have Oz := OB.out.below Bz
        obtain ⟨_, t0, t1, t2, t3, tfz⟩ := id Oz
        (try go_wp2_with fail)
        refine hK.out _ _ ?_ (fun hHeld4 => ?_)
        · ((try dsimp only); (refine ⟨?_, ?_, ?_, ?_, ?_, ?_, ?_, ?_, ?_, ?_, ?_⟩ <;> repeat (with_reducible first | assumption | refine kCb Bz ?_)))
        clear hK K
        try simp only [Act.put, List.setIfInBounds_toArray, List.set_cons_zero, List.set_cons_succ]
        refine wpAnyH_take (i := 18) (v := ?_) rfl (by kernel_rfl) (by kernel_rfl) (by kernel_rfl) (fun _ _ _ h => h) (Or.inl ⟨by rfl, ?_⟩) (by assumption) ?_
        rotate_left
        (focus (intro w0 hSw; (try dsimp only at hSw); go_simp <;> with_reducible rfl))
        simp only [List.getElem_toArray, List.getElem_cons_succ, List.getElem_cons_zero, Act.put, List.setIfInBounds_toArray, List.set_cons_zero, List.set_cons_succ]
        refine wpAnyH_ready (rs := [19]) (by kernel_rfl) (by simp) ?_
        refine AllReadyH.cons (o := _) rfl (fun K hK => ?_) ?_
        rotate_left
        exact AllReadyH.nil
        go_simp
        refine hK.out _ _ ?_ (fun hHeld9 => ?_)
        · ((try dsimp only); (refine ⟨?_, ?_, ?_, ?_, ?_, ?_, ?_, ?_, ?_, ?_, ?_⟩ <;> repeat (with_reducible first | assumption | refine kCs (by simp only [ne_eq]; omega) ?_ | refine kCb Bz ?_)))
        clear hK K
        try simp only [Act.put, List.setIfInBounds_toArray, List.set_cons_zero, List.set_cons_succ]
        refine wpAnyH_done (by kernel_rfl) ?_ _
        replace HB := hid (HB.out.trans (Bz.mono HB.out.size)); replace HRow := hid (HRow.out.below Bz); replace HT := hid (HT.out.below Bz); replace OB := hid Oz
        have QP : QnT (10 * K + 9) wz ⟨s9, x9, n9, c9, d9, y9, m9, e9, g9⟩ (q + r * p) := H9.out
        have PK := hid (pk_mk (a := a) (t := ⟨s9, x9, n9, c9, d9, y9, m9, e9, g9⟩) HB.out hbt0 OB.out HRow.out hne HT.out QP)
        clear hHeld hHeld3 hHeld4 hHeld9 O8 B8 hb8 H8 QP v0 v1 v2 v3 vf8 CM CA Oz Bz hbz H9 t0 t1 t2 t3 tfz
        generalize (((wz.setCell ⟨bt, 0, none⟩ (.int .i64 a)).setCell ⟨bt, 1, none⟩ (.bool s9)).setCell ⟨bt, 2, none⟩ (.slice x9 n9 c9)).setCell ⟨bt, 3, none⟩ (.slice y9 m9 e9) = w9 at *
        clear y0 y1 y2 y3 r0 r1 r2 x0 x1 x2 x3 QW RQ QV HRow HT OB HB
        obtain ⟨c0, c1, c2, c3⟩ := PK.out.box
        replace c0 : w9.cell? ⟨bt, 0, none⟩ = some (.int .i64 a) := c0
        replace c1 : w9.cell? ⟨bt, 1, none⟩ = some (.bool s9) := c1
        replace c2 : w9.cell? ⟨bt, 2, none⟩ = some (.slice x9 n9 c9) := c2
        replace c3 : w9.cell? ⟨bt, 3, none⟩ = some (.slice y9 m9 e9) := c3
        have QN : Hid (Qn w9 s9 x9 n9 d9 y9 m9 g9 (q + r * p)) := PK.out.num.2.2
        have hln : n9 ≤ 10 * K + 9 := PK.out.num.1
        go_wp2_with fail
        refine (qSign_c QN.out (by omega)).mono ?_
        rintro en w10 ⟨sg1, rfl, hb10, hord⟩
        have hsg := ord_zero hord
        have HB10 := hid (PK.out.bel.trans (hb10.mono PK.out.bel.size)); have HR10 := hid (PK.out.row.below hb10); have HL10 := hid (PK.out.lst.below hb10); have HN10 := hid (PK.out.num.below hb10)
        replace c0 := kCb hb10 c0; replace c1 := kCb hb10 c1; replace c2 := kCb hb10 c2; replace c3 := kCb hb10 c3
        clear PK QN hord hb10
        by_cases hq0 : q + r * p = 0
        · have hsz1 : (sg1 != 0) = false := by rw [hsg, hq0]; rfl
          have HEZ : Hid (us ++ mg r (v.drop (i + 1)) (v'.drop (j + 1)) = mg r v v') := by
            show _ = _
            rw [← HE.out, HM.out]; unfold nz; rw [if_pos hq0]; rfl
          clear hsg hq0 HM HE HN10 c0 c1 c2 c3
          go_wp2
          go_roundw
          case rel => exact ⟨i + 1, j + 1, l, us, by omega, by omega, by go_num, by go_num, by omega, HB10.out, HR10.out, HL10.out, HEZ.out⟩
          case measure => simp [intOf]; omega
        · have hsz1 : (sg1 != 0) = true := by rw [hsg]; simp [hq0]
          have HEZ : Hid ((us ++ [((a : Int), q + r * p)]) ++ mg r (v.drop (i + 1)) (v'.drop (j + 1)) = mg r v v') := by
            show _ = _
            rw [← HE.out, HM.out]; unfold nz; rw [if_neg hq0, List.append_assoc]
          have hsz := HB10.out.size
          clear hsg hq0 HM HE
          go_wp2_with (at_builtin; go_must (refine wpList_append_one w10 rfl (.tmp 112) (.tmp 114) 84 rfl w0.heap.size 106 64 4 (.agg #[.int .i64 0, .bool false, .slice none 0 0, .slice none 0 0]) Tryz.underlying84 Tryz.infoTq rfl (by decide) nz4 u7 l.length (tcells l) rfl HR10.out #[.int .i64 a, .bool s9, .slice x9 n9 c9, .slice y9 m9 e9] rfl rfl (one4 _ _ _ _ _ _ _ _) (not4 _ _ _ _ _ _ _ _) ?p1 (by decide) hsz ?_))
          case p1 => omega
          intro g20 cap20 w20 hr20 hk20 hb20 hg20
          have HB20 := hid (hb20 w0 HB10.out (Nat.le_refl _))
          have HR20 : Hid (RowG 106 4 w0.heap.size w20 (.slice (some ⟨g20, 0, none⟩) (l.length + 1) cap20) (l ++ [((a : Int), (⟨s9, x9, n9, c9, d9, y9, m9, e9, g9⟩ : Nm))]).length (tcells (l ++ [((a : Int), (⟨s9, x9, n9, c9, d9, y9, m9, e9, g9⟩ : Nm))]))) := by
            show RowG _ _ _ _ _ _ _
            rw [tcells_append, List.length_append]; exact hr20
          have HT20 := hid ((HL10.out.kp hk20).snoc (z := (a : Int)) (t := ⟨s9, x9, n9, c9, d9, y9, m9, e9, g9⟩) (HN10.out.kp hk20))
          clear hr20 hk20 hb20 hg20 HR10 HL10 HB10 HN10 c0 c1 c2 c3 hsz
          go_wp2
          go_roundw
          case rel => exact ⟨i + 1, j + 1, _, _, by omega, by omega, by go_num, by go_num, by simp; omega, HB20.out, HR20.out, HT20.out, HEZ.out⟩
          case measure => simp [intOf]; omega
      · have j1e : (((j : Nat) : Int) == ((k' : Nat) : Int)) = true := by simp; omega
        have hj0 : v'.drop j = [] := by rw [List.drop_eq_nil_iff]; omega
        have HM : Hid (mg r (v.drop i) (v'.drop j) = nz a q ++ mg r (v.drop (i + 1)) (v'.drop j)) := by
          show _ = _
          rw [hj0, HDv.out, mg_cn]
        clear hj0
        go_upto_region 7 with fail
        have hb5 := below_alloc (Below.refl wr.heap.size wr) (.cells #[.int .i64 0, .bool false, .slice none 0 0, .slice none 0 0] 106)
        have hO5 := ob4_new wr 106
        replace x0 := kCb hb5 x0
        replace x1 := kCb hb5 x1
        replace x2 := kCb hb5 x2
        replace x3 := kCb hb5 x3
        replace QV := hid (QV.out.below hb5)
        replace HRow := hid (HRow.out.below hb5); replace HT := hid (HT.out.below hb5)
        replace HB := hid (HB.out.trans (hb5.mono HB.out.size))
        generalize wr.alloc (.cells #[.int .i64 0, .bool false, .slice none 0 0, .slice none 0 0] 106) = w5 at *
        generalize wr.heap.size = bt at *
        have OB := hid hO5
        clear hb5 hO5
        go_quiet (fail)
        generalize hg : w5.drewN _ = w6
        have hb : Below w5.heap.size w5 w6 := by rw [← hg]; exact below_drewN (Below.refl _ _) _
        clear hg
        replace x0 := kCb hb x0
        replace x1 := kCb hb x1
        replace x2 := kCb hb x2
        replace x3 := kCb hb x3
        replace QV := hid (QV.out.below hb)
        replace HRow := hid (HRow.out.below hb)
        replace HT := hid (HT.out.below hb)
        replace OB := hid (OB.out.below hb)
        replace HB := hid (HB.out.trans (hb.mono HB.out.size))
        clear hb
        obtain ⟨zo, z0, z1, z2, z3, zf⟩ := OB.out
        have PK := hid (pk_mk (a := a) (t := ⟨ts, tx, tn, tc, tf, ty, tm, td, tg⟩) HB.out hbt0 OB.out HRow.out hne HT.out (QV.out.mono (by omega)))
        go_upto_region 13 with fail
        clear z0 z1 z2 z3 zf zo
        generalize (((w6.setCell ⟨bt, 0, none⟩ (.int .i64 a)).setCell ⟨bt, 1, none⟩ (.bool ts)).setCell ⟨bt, 2, none⟩ (.slice tx tn tc)).setCell ⟨bt, 3, none⟩ (.slice ty tm td) = w9 at *
        clear x0 x1 x2 x3 QV HRow HT OB HB
        obtain ⟨c0, c1, c2, c3⟩ := PK.out.box
        replace c0 : w9.cell? ⟨bt, 0, none⟩ = some (.int .i64 a) := c0
        replace c1 : w9.cell? ⟨bt, 1, none⟩ = some (.bool ts) := c1
        replace c2 : w9.cell? ⟨bt, 2, none⟩ = some (.slice tx tn tc) := c2
        replace c3 : w9.cell? ⟨bt, 3, none⟩ = some (.slice ty tm td) := c3
        have QN : Hid (Qn w9 ts tx tn tf ty tm tg (q)) := PK.out.num.2.2
        have hln : tn ≤ 10 * K + 9 := PK.out.num.1
        go_wp2_with fail
        refine (qSign_c QN.out (by omega)).mono ?_
        rintro en w10 ⟨sg1, rfl, hb10, hord⟩
        have hsg := ord_zero hord
        have HB10 := hid (PK.out.bel.trans (hb10.mono PK.out.bel.size)); have HR10 := hid (PK.out.row.below hb10); have HL10 := hid (PK.out.lst.below hb10); have HN10 := hid (PK.out.num.below hb10)
        replace c0 := kCb hb10 c0; replace c1 := kCb hb10 c1; replace c2 := kCb hb10 c2; replace c3 := kCb hb10 c3
        clear PK QN hord hb10
        by_cases hq0 : q = 0
        · have hsz1 : (sg1 != 0) = false := by rw [hsg, hq0]; rfl
          have HEZ : Hid (us ++ mg r (v.drop (i + 1)) (v'.drop (j)) = mg r v v') := by
            show _ = _
            rw [← HE.out, HM.out]; unfold nz; rw [if_pos hq0]; rfl
          clear hsg hq0 HM HE HN10 c0 c1 c2 c3
          go_wp2
          go_roundw
          case rel => exact ⟨i + 1, j, l, us, by omega, by omega, by go_num, by go_num, by omega, HB10.out, HR10.out, HL10.out, HEZ.out⟩
          case measure => simp [intOf]; omega
        · have hsz1 : (sg1 != 0) = true := by rw [hsg]; simp [hq0]
          have HEZ : Hid ((us ++ [((a : Int), q)]) ++ mg r (v.drop (i + 1)) (v'.drop (j)) = mg r v v') := by
            show _ = _
            rw [← HE.out, HM.out]; unfold nz; rw [if_neg hq0, List.append_assoc]
          have hsz := HB10.out.size
          clear hsg hq0 HM HE
          go_wp2_with (at_builtin; go_must (refine wpList_append_one w10 rfl (.tmp 112) (.tmp 114) 84 rfl w0.heap.size 106 64 4 (.agg #[.int .i64 0, .bool false, .slice none 0 0, .slice none 0 0]) Tryz.underlying84 Tryz.infoTq rfl (by decide) nz4 u7 l.length (tcells l) rfl HR10.out #[.int .i64 a, .bool ts, .slice tx tn tc, .slice ty tm td] rfl rfl (one4 _ _ _ _ _ _ _ _) (not4 _ _ _ _ _ _ _ _) ?p1 (by decide) hsz ?_))
          case p1 => omega
          intro g20 cap20 w20 hr20 hk20 hb20 hg20
          have HB20 := hid (hb20 w0 HB10.out (Nat.le_refl _))
          have HR20 : Hid (RowG 106 4 w0.heap.size w20 (.slice (some ⟨g20, 0, none⟩) (l.length + 1) cap20) (l ++ [((a : Int), (⟨ts, tx, tn, tc, tf, ty, tm, td, tg⟩ : Nm))]).length (tcells (l ++ [((a : Int), (⟨ts, tx, tn, tc, tf, ty, tm, td, tg⟩ : Nm))]))) := by
            show RowG _ _ _ _ _ _ _
            rw [tcells_append, List.length_append]; exact hr20
          have HT20 := hid ((HL10.out.kp hk20).snoc (z := (a : Int)) (t := ⟨ts, tx, tn, tc, tf, ty, tm, td, tg⟩) (HN10.out.kp hk20))
          clear hr20 hk20 hb20 hg20 HR10 HL10 HB10 HN10 c0 c1 c2 c3 hsz
          go_wp2
          go_roundw
          case rel => exact ⟨i + 1, j, _, _, by omega, by omega, by go_num, by go_num, by simp; omega, HB20.out, HR20.out, HT20.out, HEZ.out⟩
          case measure => simp [intOf]; omega
    · by_cases hjk : j < k'
      · have hi0 : v.drop i = [] := by rw [List.drop_eq_nil_iff]; omega
        have i1n : ¬ (((i : Nat) : Int) < ((k : Nat) : Int)) := by omega
        have i1d : decide (((i : Nat) : Int) < ((k : Nat) : Int)) = false := by simp; omega
        have i1e : (((i : Nat) : Int) == ((k : Nat) : Int)) = true := by simp; omega
        obtain ⟨⟨bb, p⟩, hbp⟩ : ∃ t, v'[j]? = some t := ⟨_, List.getElem?_eq_getElem (by omega)⟩
        have HDw := hid (drop_get hbp)
        obtain ⟨b', o', ⟨ss, sx, sn, sc, sf, sy, sm, sd, sg⟩, haw, hc', hqw⟩ := (TW.out.below HB.out) j bb p hbp
        subst haw
        obtain ⟨y0, y1, y2, y3⟩ := hc'
        replace y0 : wr.cell? ⟨b', o' + j * 4, none⟩ = some (.int .i64 bb) := y0
        replace y1 : wr.cell? ⟨b', o' + j * 4 + 1, none⟩ = some (.bool ss) := y1
        replace y2 : wr.cell? ⟨b', o' + j * 4 + 2, none⟩ = some (.slice sx sn sc) := y2
        replace y3 : wr.cell? ⟨b', o' + j * 4 + 3, none⟩ = some (.slice sy sm sd) := y3
        have QW : Hid (QnT K wr ⟨ss, sx, sn, sc, sf, sy, sm, sd, sg⟩ p) := hqw
        have nbw : wr.heap.size ≠ b' := by have := World.block_lt_of_cell? wr _ y0; simp at this; omega
        have j1 : ((j : Nat) : Int) < ((k' : Nat) : Int) := by omega
        have j1e : (((j : Nat) : Int) == ((k' : Nat) : Int)) = false := by simp; omega
        have j1w : ((j : Nat) : Int) ≤ 9223372036854775806 := by omega
        clear hbp hqw
        have HM : Hid (mg r (v.drop i) (v'.drop j) = nz bb (r * p) ++ mg r (v.drop i) (v'.drop (j + 1))) := by
          show _ = _
          rw [hi0, HDw.out, mg_nc]
        clear hi0
        have hbr := BR.out.below HB.out
        obtain ⟨_, r0, r1, r2⟩ := id hbr
        have RQ := hid (RR.out.below HB.out)
        have nbr : wr.heap.size ≠ br := by omega
        clear hbr
        go_upto_region 7 with fail
        have hb5 := below_alloc (Below.refl wr.heap.size wr) (.cells #[.int .i64 0, .bool false, .slice none 0 0, .slice none 0 0] 106)
        have hO5 := ob4_new wr 106
        replace y0 := kCb hb5 y0
        replace y1 := kCb hb5 y1
        replace y2 := kCb hb5 y2
        replace y3 := kCb hb5 y3
        replace r0 := kCb hb5 r0
        replace r1 := kCb hb5 r1
        replace r2 := kCb hb5 r2
        replace QW := hid (QW.out.below hb5)
        replace RQ := hid (RQ.out.below hb5)
        replace HRow := hid (HRow.out.below hb5); replace HT := hid (HT.out.below hb5)
        replace HB := hid (HB.out.trans (hb5.mono HB.out.size))
        generalize wr.alloc (.cells #[.int .i64 0, .bool false, .slice none 0 0, .slice none 0 0] 106) = w5 at *
        generalize wr.heap.size = bt at *
        have OB := hid hO5
        clear hb5 hO5
        go_quiet (fail)
        generalize hg : w5.drewN _ = w6
        have hb : Below w5.heap.size w5 w6 := by rw [← hg]; exact below_drewN (Below.refl _ _) _
        clear hg
        replace y0 := kCb hb y0
        replace y1 := kCb hb y1
        replace y2 := kCb hb y2
        replace y3 := kCb hb y3
        replace r0 := kCb hb r0
        replace r1 := kCb hb r1
        replace r2 := kCb hb r2
        replace QW := hid (QW.out.below hb)
        replace RQ := hid (RQ.out.below hb)
        replace HRow := hid (HRow.out.below hb)
        replace HT := hid (HT.out.below hb)
        replace OB := hid (OB.out.below hb)
        replace HB := hid (HB.out.trans (hb.mono HB.out.size))
        clear hb
        go_wp2_with fail
        go_quiet (fail)
        generalize hg : w6.drewN _ = w7
        have hb : Below w6.heap.size w6 w7 := by rw [← hg]; exact below_drewN (Below.refl _ _) _
        clear hg
        replace y0 := kCb hb y0
        replace y1 := kCb hb y1
        replace y2 := kCb hb y2
        replace y3 := kCb hb y3
        replace r0 := kCb hb r0
        replace r1 := kCb hb r1
        replace r2 := kCb hb r2
        replace QW := hid (QW.out.below hb)
        replace RQ := hid (RQ.out.below hb)
        replace HRow := hid (HRow.out.below hb)
        replace HT := hid (HT.out.below hb)
        replace OB := hid (OB.out.below hb)
        replace HB := hid (HB.out.trans (hb.mono HB.out.size))
        clear hb
        go_wp2_with fail
        have CM : Hid (∀ W, Below w7.heap.size w7 W → Calls Tryz.prog 35 #[.agg #[.bool s, .slice x n c, .slice y m e], .agg #[.bool ss, .slice sx sn sc, .slice sy sm sd]] W fun e w' => ∃ s x n c d y m e' g, e = .returned (.agg #[.bool s, .slice x n c, .slice y m e']) ∧ Below W.heap.size W w' ∧ Hid (n ≤ 4 * K + 3 ∧ m ≤ 4 * K + 3 ∧ Qn w' s x n d y m g (r * p))) := fun W hW => by
          have q1 : sn ≤ K := QW.out.1
          have q2 : sm ≤ K := QW.out.2.1
          have q3 : Qn w7 ss sx sn sf sy sm sg p := QW.out.2.2
          exact (qMul_c (RQ.out.below hW) (q3.below hW) (by omega) (by omega) (by omega) (by omega)).mono (fun _ _ ⟨s, x, n, c, d, y, m, c', g, h1, h2, h3, h4, h5⟩ => ⟨s, x, n, c, d, y, m, c', g, h1, h2, by omega, by omega, h5⟩)
        refine wp_region_held_drew (S := fun w' => w'.cell? ⟨b', o' + j * 4, none⟩ = some (.int .i64 bb) ∧ w'.cell? ⟨b', o' + j * 4 + 1, none⟩ = some (.bool ss) ∧ w'.cell? ⟨b', o' + j * 4 + 2, none⟩ = some (.slice sx sn sc) ∧ w'.cell? ⟨b', o' + j * 4 + 3, none⟩ = some (.slice sy sm sd) ∧ w'.cell? ⟨br, 0, none⟩ = some (.bool s) ∧ w'.cell? ⟨br, 1, none⟩ = some (.slice x n c) ∧ w'.cell? ⟨br, 2, none⟩ = some (.slice y m e)) (by kernel_rfl) ?_ (fun hHeld => ?_)
        · (refine ⟨?_, ?_, ?_, ?_, ?_, ?_, ?_⟩ <;> repeat (with_reducible first | assumption | refine kCd ?_))
        refine wpAnyH_take (i := 0) (v := ?_) rfl (by kernel_rfl) (by kernel_rfl) (by kernel_rfl) (fun _ _ _ h => h) (Or.inl ⟨by rfl, ?_⟩) (by assumption) ?_
        rotate_left
        (focus (intro w0 hSw; (try dsimp only at hSw); go_simp <;> with_reducible rfl))
        simp only [List.getElem_toArray, List.getElem_cons_zero, Act.put, List.setIfInBounds_toArray, List.set_cons_zero, List.set_cons_succ]
        refine wpAnyH_take (i := 1) (v := ?_) rfl (by kernel_rfl) (by kernel_rfl) (by kernel_rfl) (fun _ _ _ h => h) (Or.inl ⟨by rfl, ?_⟩) (by assumption) ?_
        rotate_left
        (focus (intro w0 hSw; (try dsimp only at hSw); go_simp <;> with_reducible rfl))
        simp only [List.getElem_toArray, List.getElem_cons_succ, List.getElem_cons_zero, Act.put, List.setIfInBounds_toArray, List.set_cons_zero, List.set_cons_succ]
        refine wpAnyH_take (i := 2) (v := ?_) rfl (by kernel_rfl) (by kernel_rfl) (by kernel_rfl) (fun _ _ _ h => h) (Or.inl ⟨by rfl, ?_⟩) (by assumption) ?_
        rotate_left
        (focus (intro w0 hSw; (try dsimp only at hSw); go_simp <;> with_reducible rfl))
        simp only [List.getElem_toArray, List.getElem_cons_succ, List.getElem_cons_zero, Act.put, List.setIfInBounds_toArray, List.set_cons_zero, List.set_cons_succ]
        refine wpAnyH_take (i := 3) (v := ?_) rfl (by kernel_rfl) (by kernel_rfl) (by kernel_rfl) (fun _ _ _ h => h) (Or.inl ⟨by rfl, ?_⟩) (by assumption) ?_
        rotate_left
        (focus (intro w0 hSw; (try dsimp only at hSw); go_simp <;> with_reducible rfl))
        simp only [List.getElem_toArray, List.getElem_cons_succ, List.getElem_cons_zero, Act.put, List.setIfInBounds_toArray, List.set_cons_zero, List.set_cons_succ]
        refine wpAnyH_take (i := 4) (v := ?_) rfl (by kernel_rfl) (by kernel_rfl) (by kernel_rfl) (fun _ _ _ h => h) (Or.inl ⟨by rfl, ?_⟩) (by assumption) ?_
        rotate_left
        (focus (intro w0 hSw; (try dsimp only at hSw); go_simp <;> with_reducible rfl))
        simp only [List.getElem_toArray, List.getElem_cons_succ, List.getElem_cons_zero, Act.put, List.setIfInBounds_toArray, List.set_cons_zero, List.set_cons_succ]
        refine wpAnyH_take (i := 5) (v := ?_) rfl (by kernel_rfl) (by kernel_rfl) (by kernel_rfl) (fun _ _ _ h => h) (Or.inl ⟨by rfl, ?_⟩) (by assumption) ?_
        rotate_left
        (focus (intro w0 hSw; (try dsimp only at hSw); go_simp <;> with_reducible rfl))
        simp only [List.getElem_toArray, List.getElem_cons_succ, List.getElem_cons_zero, Act.put, List.setIfInBounds_toArray, List.set_cons_zero, List.set_cons_succ]
        refine wpAnyH_take (i := 6) (v := ?_) rfl (by kernel_rfl) (by kernel_rfl) (by kernel_rfl) (fun _ _ _ h => h) (Or.inl ⟨by rfl, ?_⟩) (by assumption) ?_
        rotate_left
        (focus (intro w0 hSw; (try dsimp only at hSw); go_simp <;> with_reducible rfl))
        simp only [List.getElem_toArray, List.getElem_cons_succ, List.getElem_cons_zero, Act.put, List.setIfInBounds_toArray, List.set_cons_zero, List.set_cons_succ]
        refine wpAnyH_take (i := 7) (v := ?_) rfl (by kernel_rfl) (by kernel_rfl) (by kernel_rfl) (fun _ _ _ h => h) (Or.inl ⟨by rfl, ?_⟩) (by assumption) ?_
        rotate_left
        (focus (intro w0 hSw; (try dsimp only at hSw); go_simp <;> with_reducible rfl))
        simp only [List.getElem_toArray, List.getElem_cons_succ, List.getElem_cons_zero, Act.put, List.setIfInBounds_toArray, List.set_cons_zero, List.set_cons_succ]
        refine wpAnyH_take (i := 8) (v := ?_) rfl (by kernel_rfl) (by kernel_rfl) (by kernel_rfl) (fun _ _ _ h => h) (Or.inl ⟨by rfl, ?_⟩) (by assumption) ?_
        rotate_left
        (focus (intro w0 hSw; (try dsimp only at hSw); go_simp <;> with_reducible rfl))
        simp only [List.getElem_toArray, List.getElem_cons_succ, List.getElem_cons_zero, Act.put, List.setIfInBounds_toArray, List.set_cons_zero, List.set_cons_succ]
        refine wpAnyH_take (i := 9) (v := ?_) rfl (by kernel_rfl) (by kernel_rfl) (by kernel_rfl) (fun _ _ _ h => h) (Or.inl ⟨by rfl, ?_⟩) (by assumption) ?_
        rotate_left
        (focus (intro w0 hSw; (try dsimp only at hSw); go_simp <;> with_reducible rfl))
        simp only [List.getElem_toArray, List.getElem_cons_succ, List.getElem_cons_zero, Act.put, List.setIfInBounds_toArray, List.set_cons_zero, List.set_cons_succ]
        refine wpAnyH_take (i := 10) (v := ?_) rfl (by kernel_rfl) (by kernel_rfl) (by kernel_rfl) (fun _ _ _ h => h) (Or.inl ⟨by rfl, ?_⟩) (by assumption) ?_
        rotate_left
        (focus (intro w0 hSw; (try dsimp only at hSw); go_simp <;> with_reducible rfl))
        simp only [List.getElem_toArray, List.getElem_cons_succ, List.getElem_cons_zero, Act.put, List.setIfInBounds_toArray, List.set_cons_zero, List.set_cons_succ]
        refine wpAnyH_ready (rs := [11]) (by kernel_rfl) (by simp) ?_
        refine AllReadyH.cons (o := _) rfl (fun K hK => ?_) ?_
        rotate_left
        exact AllReadyH.nil
        go_simp
        go_at_call 35
        with_reducible refine (CM.out _ (by repeat (with_reducible first | assumption | exact Below.refl _ _ | refine Below.drew ?_ | refine kBb (by assumption) ?_))).mono ?_
        rintro en w8 ⟨s8, x8, n8, c8, d8, y8, m8, e8, g8, rfl, hb8, H8⟩
        have B8 : Below w7.heap.size w7 w8 := (by repeat (with_reducible first | assumption | exact Below.refl _ _ | refine Below.drew ?_ | refine kBb (by assumption) ?_))
        have O8 := OB.out.below B8
        obtain ⟨_, v0, v1, v2, v3, vf8⟩ := id O8
        (try go_wp2_with fail)
        refine hK.out _ _ ?_ (fun hHeld3 => ?_)
        · ((try dsimp only); (refine ⟨?_, ?_, ?_, ?_, ?_, ?_, ?_⟩ <;> repeat (with_reducible first | assumption | refine kCb B8 ?_)))
        clear hK K
        try simp only [Act.put, List.setIfInBounds_toArray, List.set_cons_zero, List.set_cons_succ]
        refine wpAnyH_take (i := 12) (v := ?_) rfl (by kernel_rfl) (by kernel_rfl) (by kernel_rfl) (fun _ _ _ h => h) (Or.inl ⟨by rfl, ?_⟩) (by assumption) ?_
        rotate_left
        (focus (intro w0 hSw; (try dsimp only at hSw); go_simp <;> with_reducible rfl))
        simp only [List.getElem_toArray, List.getElem_cons_succ, List.getElem_cons_zero, Act.put, List.setIfInBounds_toArray, List.set_cons_zero, List.set_cons_succ]
        refine wpAnyH_ready (rs := [13]) (by kernel_rfl) (by simp) ?_
        refine AllReadyH.cons (o := _) rfl (fun K hK => ?_) ?_
        rotate_left
        exact AllReadyH.nil
        go_simp
        refine hK.out _ _ ?_ (fun hHeld9 => ?_)
        · ((try dsimp only); (refine ⟨?_, ?_, ?_, ?_, ?_, ?_, ?_⟩ <;> repeat (with_reducible first | assumption | refine kCs (by simp only [ne_eq]; omega) ?_ | refine kCb B8 ?_)))
        clear hK K
        try simp only [Act.put, List.setIfInBounds_toArray, List.set_cons_zero, List.set_cons_succ]
        refine wpAnyH_done (by kernel_rfl) ?_ _
        replace HB := hid (HB.out.trans (B8.mono HB.out.size)); replace HRow := hid (HRow.out.below B8); replace HT := hid (HT.out.below B8); replace OB := hid O8
        have QP : QnT (10 * K + 9) w8 ⟨s8, x8, n8, c8, d8, y8, m8, e8, g8⟩ (r * p) := ⟨Nat.le_trans H8.out.1 (by omega), Nat.le_trans H8.out.2.1 (by omega), H8.out.2.2⟩
        have PK := hid (pk_mk (a := bb) (t := ⟨s8, x8, n8, c8, d8, y8, m8, e8, g8⟩) HB.out hbt0 OB.out HRow.out hne HT.out QP)
        clear hHeld hHeld3 hHeld9 O8 B8 hb8 H8 QP v0 v1 v2 v3 vf8 CM
        generalize (((w8.setCell ⟨bt, 0, none⟩ (.int .i64 bb)).setCell ⟨bt, 1, none⟩ (.bool s8)).setCell ⟨bt, 2, none⟩ (.slice x8 n8 c8)).setCell ⟨bt, 3, none⟩ (.slice y8 m8 e8) = w9 at *
        clear y0 y1 y2 y3 r0 r1 r2 QW RQ HRow HT OB HB
        obtain ⟨c0, c1, c2, c3⟩ := PK.out.box
        replace c0 : w9.cell? ⟨bt, 0, none⟩ = some (.int .i64 bb) := c0
        replace c1 : w9.cell? ⟨bt, 1, none⟩ = some (.bool s8) := c1
        replace c2 : w9.cell? ⟨bt, 2, none⟩ = some (.slice x8 n8 c8) := c2
        replace c3 : w9.cell? ⟨bt, 3, none⟩ = some (.slice y8 m8 e8) := c3
        have QN : Hid (Qn w9 s8 x8 n8 d8 y8 m8 g8 (r * p)) := PK.out.num.2.2
        have hln : n8 ≤ 10 * K + 9 := PK.out.num.1
        go_wp2_with fail
        refine (qSign_c QN.out (by omega)).mono ?_
        rintro en w10 ⟨sg1, rfl, hb10, hord⟩
        have hsg := ord_zero hord
        have HB10 := hid (PK.out.bel.trans (hb10.mono PK.out.bel.size)); have HR10 := hid (PK.out.row.below hb10); have HL10 := hid (PK.out.lst.below hb10); have HN10 := hid (PK.out.num.below hb10)
        replace c0 := kCb hb10 c0; replace c1 := kCb hb10 c1; replace c2 := kCb hb10 c2; replace c3 := kCb hb10 c3
        clear PK QN hord hb10
        by_cases hq0 : r * p = 0
        · have hsz1 : (sg1 != 0) = false := by rw [hsg, hq0]; rfl
          have HEZ : Hid (us ++ mg r (v.drop (i)) (v'.drop (j + 1)) = mg r v v') := by
            show _ = _
            rw [← HE.out, HM.out]; unfold nz; rw [if_pos hq0]; rfl
          clear hsg hq0 HM HE HN10 c0 c1 c2 c3
          go_wp2
          go_roundw
          case rel => exact ⟨i, j + 1, l, us, by omega, by omega, by go_num, by go_num, by omega, HB10.out, HR10.out, HL10.out, HEZ.out⟩
          case measure => simp [intOf]; omega
        · have hsz1 : (sg1 != 0) = true := by rw [hsg]; simp [hq0]
          have HEZ : Hid ((us ++ [((bb : Int), r * p)]) ++ mg r (v.drop (i)) (v'.drop (j + 1)) = mg r v v') := by
            show _ = _
            rw [← HE.out, HM.out]; unfold nz; rw [if_neg hq0, List.append_assoc]
          have hsz := HB10.out.size
          clear hsg hq0 HM HE
          go_wp2_with (at_builtin; go_must (refine wpList_append_one w10 rfl (.tmp 112) (.tmp 114) 84 rfl w0.heap.size 106 64 4 (.agg #[.int .i64 0, .bool false, .slice none 0 0, .slice none 0 0]) Tryz.underlying84 Tryz.infoTq rfl (by decide) nz4 u7 l.length (tcells l) rfl HR10.out #[.int .i64 bb, .bool s8, .slice x8 n8 c8, .slice y8 m8 e8] rfl rfl (one4 _ _ _ _ _ _ _ _) (not4 _ _ _ _ _ _ _ _) ?p1 (by decide) hsz ?_))
          case p1 => omega
          intro g20 cap20 w20 hr20 hk20 hb20 hg20
          have HB20 := hid (hb20 w0 HB10.out (Nat.le_refl _))
          have HR20 : Hid (RowG 106 4 w0.heap.size w20 (.slice (some ⟨g20, 0, none⟩) (l.length + 1) cap20) (l ++ [((bb : Int), (⟨s8, x8, n8, c8, d8, y8, m8, e8, g8⟩ : Nm))]).length (tcells (l ++ [((bb : Int), (⟨s8, x8, n8, c8, d8, y8, m8, e8, g8⟩ : Nm))]))) := by
            show RowG _ _ _ _ _ _ _
            rw [tcells_append, List.length_append]; exact hr20
          have HT20 := hid ((HL10.out.kp hk20).snoc (z := (bb : Int)) (t := ⟨s8, x8, n8, c8, d8, y8, m8, e8, g8⟩) (HN10.out.kp hk20))
          clear hr20 hk20 hb20 hg20 HR10 HL10 HB10 HN10 c0 c1 c2 c3 hsz
          go_wp2
          go_roundw
          case rel => exact ⟨i, j + 1, _, _, by omega, by omega, by go_num, by go_num, by simp; omega, HB20.out, HR20.out, HT20.out, HEZ.out⟩
          case measure => simp [intOf]; omega
      · have e1 : i = k := by omega
        have e2 : j = k' := by omega
        have i1n : ¬ (((i : Nat) : Int) < ((k : Nat) : Int)) := by omega
        have j1n : ¬ (((j : Nat) : Int) < ((k' : Nat) : Int)) := by omega
        obtain ⟨aw2, cw2, rfl⟩ := HRow.out.slice
        have hus : us = mg r v v' := by
          have h := HE.out
          rw [show v.drop i = [] by rw [List.drop_eq_nil_iff]; omega, show v'.drop j = [] by rw [List.drop_eq_nil_iff]; omega, mg_nn, List.append_nil] at h
          exact h
        have HF : Hid (l.length = (mg r v v').length ∧ Tq (10 * K + 9) wr aw2 (mg r v v')) := by
          rw [← hus]; exact ⟨HT.out.1, tql_tq HT.out HRow.out⟩
        have hcw : l.length ≤ cw2 ∧ cw2 ≤ 9223372036854775807 := by
          rcases HRow.out.2 with ⟨hv, h0⟩ | ⟨g1, cap1, _, hv, _, _, h5, h6, _⟩
          · obtain ⟨_, h1, h2⟩ : aw2 = none ∧ l.length = 0 ∧ cw2 = 0 := by simpa using hv
            omega
          · obtain ⟨_, h2⟩ : aw2 = some ⟨g1, 0, none⟩ ∧ cw2 = cap1 := by simpa using hv
            unfold maxLen at h6; omega
        have HCW := hid hcw
        clear e1 e2 hus hcw
        go_wp2
        go_ret
        refine ⟨aw2, cw2, ?_, (by rw [hbr]; exact HW0.out.trans (HB.out.mono (by omega))), by rw [← HF.out.1]; exact HCW.out, HF.out.2⟩
        rw [HF.out.1]; rfl
end Go.Proofs.YthofcgpghbaccaaGreat
namespace Go.Proofs.YthofcgpghbaccaaGreat
open Go.RowKit

/-- What DocPlus and DocScale answer. -/
def OV2 (p : Bool) (L : Nat) (w' : World) (ao : Option Addr) (n : Nat) (er : Int) (vs : List (Int × Rat)) : Prop :=
  p = false ∧ er = 3 ∧ n = 0 ∨ p = true ∧ er = 0 ∧ n = vs.length ∧ Tf L w' ao vs
theorem mg_len (r : Rat) : ∀ (n : Nat) (v w : List (Int × Rat)), v.length + w.length ≤ n → (mg r v w).length ≤ v.length + w.length := by
  intro n
  induction n with
  | zero =>
    intro v w hn
    obtain rfl : v = [] := List.eq_nil_of_length_eq_zero (by omega)
    obtain rfl : w = [] := List.eq_nil_of_length_eq_zero (by omega)
    rw [mg_nn]; simp
  | succ n ih =>
    intro v w hn
    match v, w with
    | [], [] => rw [mg_nn]; simp
    | (a, q) :: v, [] =>
      have h1 := ih v [] (by simp at hn ⊢; omega); have h2 := nz_len a q
      rw [mg_cn, List.length_append]; simp at h1 ⊢; omega
    | [], (b, p) :: w =>
      have h1 := ih [] w (by simp at hn ⊢; omega); have h2 := nz_len b (r * p)
      rw [mg_nc, List.length_append]; simp at h1 ⊢; omega
    | (a, q) :: v, (b, p) :: w =>
      simp only [List.length_cons] at hn
      by_cases h1 : a < b
      · have h3 := ih v ((b, p) :: w) (by simp only [List.length_cons]; omega); have h2 := nz_len a q
        rw [mg_lt _ _ _ _ _ _ _ h1, List.length_append]; simp only [List.length_cons] at h3 ⊢; omega
      · by_cases h2 : b < a
        · have h3 := ih ((a, q) :: v) w (by simp only [List.length_cons]; omega); have h4 := nz_len b (r * p)
          rw [mg_gt _ _ _ _ _ _ _ h2, List.length_append]; simp only [List.length_cons] at h3 ⊢; omega
        · obtain rfl : a = b := by omega
          have h3 := ih v w (by omega); have h4 := nz_len a (q + r * p)
          rw [mg_eq, List.length_append]; simp only [List.length_cons]; omega

set_option maxRecDepth 100000 in
set_option maxHeartbeats 8000000 in
theorem docPlus_c {w : World} {L : Nat} {av aw : Option Addr} {k k' cv cw : Nat} {col col' : Nat → Int} {T T' : Nat → Nm} {s : Bool} {x : Option Addr} {n c : Nat} {f : Nat → Int} {y : Option Addr} {m d : Nat} {g : Nat → Int} {v v' : List (Int × Rat)} {r : Rat}
    (hv : Tl w av k col T) (hw : Tl w aw k' col' T') (hr : Rw w x n c f y m d g) (hk : k ≤ 1000) (hk' : k' ≤ 1000) (hl : ∀ j, j < k → (T j).n ≤ 1000 ∧ (T j).m ≤ 1000) (hl' : ∀ j, j < k' → (T' j).n ≤ 1000 ∧ (T' j).m ≤ 1000) (hn : n ≤ 1000) (hm : m ≤ 1000) (hL : L ≤ 100)
    (fv : FvT L w av k col T v) (fw : FvT L w aw k' col' T' v') (fr : rfB s f n g m = true → Rn L w s x n c f y m d g r) :
    Calls Tryz.prog 14 #[.slice av k cv, .agg #[.bool s, .slice x n c, .slice y m d], .slice aw k' cw] w fun e w' => ∃ ao j cap er, e = .returned (.tuple #[.slice ao j cap, .int .i64 er]) ∧ Below w.heap.size w w' ∧ OV2 (tfB k col T && (rfB s f n g m && tfB k' col' T')) (2 * (10 * (2 * L) + 9)) w' ao j er (mg r v v') := by
  have HV := hid hv; have HW := hid hw; have HR := hid hr; have FV := hid fv; have FW := hid fw; have FR := hid fr
  have hb0 := below_alloc (Below.refl w.heap.size w) (.cells #[.bool s, .slice x n c, .slice y m d] 25)
  have hB0 := bx3_at w (.bool s) (.slice x n c) (.slice y m d) 25
  clear hv hw hr fv fw fr
  go_enter Tryz.func14, Tryz.ntmps14
  go_wp2_with fail
  generalize w.alloc (.cells #[.bool s, .slice x n c, .slice y m d] 25) = w0 at *
  refine (fForm_c (cap := cv) (HV.out.below hb0) (by omega) hl).mono ?_
  rintro e w1 ⟨rfl, hb⟩
  have HB := hid (hb0.trans (hb.mono hb0.size)); have BR := hid (hB0.below hb)
  clear hb hb0 hB0
  cases h1 : tfB k col T
  · have H1 := hid h1
    clear h1 BR
    go_wp2
    go_ret2
    exact ⟨none, 0, 0, 3, rfl, HB.out, .inl ⟨by rw [H1.out]; rfl, rfl, rfl⟩⟩
  have H1 := hid h1
  clear h1
  go_wp2_with fail
  refine (fForm_c (cap := cw) (HW.out.below HB.out) (by omega) hl').mono ?_
  rintro e w2 ⟨rfl, hb⟩
  replace HB := hid (HB.out.trans (hb.mono HB.out.size)); replace BR := hid (BR.out.below hb)
  clear hb
  cases h2 : tfB k' col' T'
  · have H2 := hid h2
    clear h2 BR
    go_wp2
    go_ret2
    exact ⟨none, 0, 0, 3, rfl, HB.out, .inl ⟨by rw [H1.out, H2.out, Bool.and_false]; rfl, rfl, rfl⟩⟩
  have H2 := hid h2
  clear h2
  obtain ⟨zr, r0, r1, r2⟩ := BR.out
  go_wp2_with fail
  refine (qForm_c (s := s) (HR.out.below HB.out) hn hm).mono ?_
  rintro e w3 ⟨rfl, hb⟩
  replace HB := hid (HB.out.trans (hb.mono HB.out.size)); replace BR := hid (BR.out.below hb)
  clear hb zr r0 r1 r2
  cases h3 : rfB s f n g m
  · have H3 := hid h3
    clear h3 BR
    go_wp2
    go_ret2
    exact ⟨none, 0, 0, 3, rfl, HB.out, .inl ⟨by rw [H1.out, H3.out]; rfl, rfl, rfl⟩⟩
  have H3 := hid h3
  clear h3
  obtain ⟨lv, _, _, hq⟩ := (FV.out.below HB.out) H1.out
  obtain ⟨lw, _, _, hqw⟩ := (FW.out.below HB.out) H2.out
  have HQ := hid hq; have HQw := hid hqw; have RR := hid ((FR.out H3.out).below HB.out)
  have TL := hid (HV.out.below HB.out); have TL' := hid (HW.out.below HB.out)
  have hgl : (mg r v v').length ≤ k + k' := by have := mg_len r _ v v' (Nat.le_refl _); omega
  obtain ⟨zr, r0, r1, r2⟩ := BR.out
  clear hq hqw FV FW FR HV HW HR
  generalize hbr : w.heap.size = br at *
  have C1 : Hid (∀ W, Below w3.heap.size w3 W → Calls Tryz.prog 48 #[.slice av k cv] W fun e w' => FrAns (2 * L) W w' e k v) := fun W hW => fromT_c (TL.out.below hW) (by omega) (by omega) lv (fun j hj => by obtain ⟨q, a, b⟩ := HQ.out j hj; exact ⟨q, a, b.below hW⟩)
  have C2 : Hid (∀ W, Below w3.heap.size w3 W → Calls Tryz.prog 34 #[.agg #[.bool s, .slice x n c, .slice y m d]] W fun e w' => QAns (2 * L) W w' e r) := fun W hW => qFrom_c (RR.out.below hW) (by omega)
  have C3 : Hid (∀ W, Below w3.heap.size w3 W → Calls Tryz.prog 48 #[.slice aw k' cw] W fun e w' => FrAns (2 * L) W w' e k' v') := fun W hW => fromT_c (TL'.out.below hW) (by omega) (by omega) lw (fun j hj => by obtain ⟨q, a, b⟩ := HQw.out j hj; exact ⟨q, a, b.below hW⟩)
  go_upto_region 3 with fail
  refine wp_region_held_drew (S := fun w' => w'.cell? ⟨br, 0, none⟩ = some (.bool s) ∧ w'.cell? ⟨br, 1, none⟩ = some (.slice x n c) ∧ w'.cell? ⟨br, 2, none⟩ = some (.slice y m d)) (by kernel_rfl) ?_ (fun hHeld => ?_)
  · (refine ⟨?_, ?_, ?_⟩ <;> repeat (with_reducible first | assumption | refine kCd ?_))
  refine wpAnyH_take (i := 0) (v := ?_) rfl (by kernel_rfl) (by kernel_rfl) (by kernel_rfl) (fun _ _ _ h => h) (Or.inl ⟨by rfl, ?_⟩) (by assumption) ?_
  rotate_left
  (focus (intro w0 hSw; (try dsimp only at hSw); go_simp <;> with_reducible rfl))
  simp only [List.getElem_toArray, List.getElem_cons_zero, Act.put, List.setIfInBounds_toArray, List.set_cons_zero, List.set_cons_succ]
  refine wpAnyH_take (i := 2) (v := ?_) rfl (by kernel_rfl) (by kernel_rfl) (by kernel_rfl) (fun _ _ _ h => h) (Or.inl ⟨by rfl, ?_⟩) (by assumption) ?_
  rotate_left
  (focus (intro w0 hSw; (try dsimp only at hSw); go_simp <;> with_reducible rfl))
  simp only [List.getElem_toArray, List.getElem_cons_succ, List.getElem_cons_zero, Act.put, List.setIfInBounds_toArray, List.set_cons_zero, List.set_cons_succ]
  refine wpAnyH_take (i := 4) (v := ?_) rfl (by kernel_rfl) (by kernel_rfl) (by kernel_rfl) (fun _ _ _ h => h) (Or.inl ⟨by rfl, ?_⟩) (by assumption) ?_
  rotate_left
  (focus (intro w0 hSw; (try dsimp only at hSw); go_simp <;> with_reducible rfl))
  simp only [List.getElem_toArray, List.getElem_cons_succ, List.getElem_cons_zero, Act.put, List.setIfInBounds_toArray, List.set_cons_zero, List.set_cons_succ]
  refine wpAnyH_ready (rs := [1]) (by kernel_rfl) (by simp) ?_
  refine AllReadyH.cons (o := _) rfl (fun K hK => ?_) ?_
  rotate_left
  exact AllReadyH.nil
  go_simp
  go_at_call 48
  with_reducible refine (C1.out _ (by repeat (with_reducible first | assumption | exact Below.refl _ _ | refine Below.drew ?_ | refine kBb (by assumption) ?_))).mono ?_
  rintro en w4 ⟨a4, c4, rfl, hb4, hc4, H4⟩
  have Bw4 : Below w3.heap.size w3 w4 := (by repeat (with_reducible first | assumption | exact Below.refl _ _ | refine Below.drew ?_ | refine kBb (by assumption) ?_))
  (try go_wp2_with fail)
  refine hK.out _ _ ?_ (fun hH1 => ?_)
  · ((try dsimp only); (refine ⟨?_, ?_, ?_⟩ <;> repeat (with_reducible first | assumption | refine kCb Bw4 ?_)))
  clear hK K
  try simp only [Act.put, List.setIfInBounds_toArray, List.set_cons_zero, List.set_cons_succ]
  refine wpAnyH_ready (rs := [3]) (by kernel_rfl) (by simp) ?_
  refine AllReadyH.cons (o := _) rfl (fun K hK => ?_) ?_
  rotate_left
  exact AllReadyH.nil
  go_simp
  go_at_call 34
  with_reducible refine (C2.out _ (by repeat (with_reducible first | assumption | exact Below.refl _ _ | refine Below.drew ?_ | refine kBb (by assumption) ?_))).mono ?_
  rintro en w5 ⟨s5, x5, n5, c5, d5, y5, m5, e5, g5, rfl, hb5, l51, l52, h5⟩
  have Bw5 : Below w3.heap.size w3 w5 := (by repeat (with_reducible first | assumption | exact Below.refl _ _ | refine Below.drew ?_ | refine kBb (by assumption) ?_))
  have H5 := hid h5
  clear h5
  (try go_wp2_with fail)
  refine hK.out _ _ ?_ (fun hH2 => ?_)
  · ((try dsimp only); (refine ⟨?_, ?_, ?_⟩ <;> repeat (with_reducible first | assumption | refine kCb Bw5 ?_)))
  clear hK K
  try simp only [Act.put, List.setIfInBounds_toArray, List.set_cons_zero, List.set_cons_succ]
  refine wpAnyH_ready (rs := [5]) (by kernel_rfl) (by simp) ?_
  refine AllReadyH.cons (o := _) rfl (fun K hK => ?_) ?_
  rotate_left
  exact AllReadyH.nil
  go_simp
  go_at_call 48
  with_reducible refine (C3.out _ (by repeat (with_reducible first | assumption | exact Below.refl _ _ | refine Below.drew ?_ | refine kBb (by assumption) ?_))).mono ?_
  rintro en w6 ⟨a6, c6, rfl, hb6, hc6, H6⟩
  have Bw6 : Below w3.heap.size w3 w6 := (by repeat (with_reducible first | assumption | exact Below.refl _ _ | refine Below.drew ?_ | refine kBb (by assumption) ?_))
  have T4 := (H4.out.below (hb5)).below hb6
  have Q5 := H5.out.below hb6
  (try go_wp2_with fail)
  refine hK.out _ _ ?_ (fun hH3 => ?_)
  · ((try dsimp only); (refine ⟨?_, ?_, ?_⟩ <;> repeat (with_reducible first | assumption | refine kCb Bw6 ?_)))
  clear hK K
  try simp only [Act.put, List.setIfInBounds_toArray, List.set_cons_zero, List.set_cons_succ]
  refine wpAnyH_ready (rs := [6]) (by kernel_rfl) (by simp) ?_
  refine AllReadyH.cons (o := _) rfl (fun K hK => ?_) ?_
  rotate_left
  exact AllReadyH.nil
  go_simp
  go_at_call 47
  with_reducible refine (fPlus_c (K := 2 * L) (cv := c4) (cw := c6) T4 H6.out Q5 l51 l52 lv lw (by omega) (by omega)).mono ?_
  rintro en w7 ⟨a7, c7, rfl, hb7, hc7, H7⟩
  have Bw7 : Below w3.heap.size w3 w7 := (by repeat (with_reducible first | assumption | exact Below.refl _ _ | refine Below.drew ?_ | refine kBb (by assumption) ?_))
  (try go_wp2_with fail)
  refine hK.out _ _ ?_ (fun hH4 => ?_)
  · ((try dsimp only); (refine ⟨?_, ?_, ?_⟩ <;> repeat (with_reducible first | assumption | refine kCb Bw7 ?_)))
  clear hK K
  try simp only [Act.put, List.setIfInBounds_toArray, List.set_cons_zero, List.set_cons_succ]
  refine wpAnyH_ready (rs := [7]) (by kernel_rfl) (by simp) ?_
  refine AllReadyH.cons (o := _) rfl (fun K hK => ?_) ?_
  rotate_left
  exact AllReadyH.nil
  go_simp
  go_at_call 46
  with_reducible refine (toT_c (K := 10 * (2 * L) + 9) (cap := c7) H7.out (by omega) (by omega) rfl).mono ?_
  rintro en w8 ⟨a8, c8, rfl, hb8, hc8, H8⟩
  have Bw8 : Below w3.heap.size w3 w8 := (by repeat (with_reducible first | assumption | exact Below.refl _ _ | refine Below.drew ?_ | refine kBb (by assumption) ?_))
  (try go_wp2_with fail)
  refine hK.out _ _ ?_ (fun hH5 => ?_)
  · ((try dsimp only); (refine ⟨?_, ?_, ?_⟩ <;> repeat (with_reducible first | assumption | refine kCb Bw8 ?_)))
  clear hK K
  try simp only [Act.put, List.setIfInBounds_toArray, List.set_cons_zero, List.set_cons_succ]
  refine wpAnyH_take (i := 8) (v := ?_) rfl (by kernel_rfl) (by kernel_rfl) (by kernel_rfl) (fun _ _ _ h => h) (Or.inl ⟨by rfl, ?_⟩) (by assumption) ?_
  rotate_left
  (focus (intro w0 hSw; (try dsimp only at hSw); go_simp <;> with_reducible rfl))
  simp only [List.getElem_toArray, List.getElem_cons_succ, List.getElem_cons_zero, Act.put, List.setIfInBounds_toArray, List.set_cons_zero, List.set_cons_succ]
  refine wpAnyH_take (i := 9) (v := ?_) rfl (by kernel_rfl) (by kernel_rfl) (by kernel_rfl) (fun _ _ _ h => h) (Or.inl ⟨by rfl, ?_⟩) (by assumption) ?_
  rotate_left
  (focus (intro w0 hSw; (try dsimp only at hSw); go_simp <;> with_reducible rfl))
  simp only [List.getElem_toArray, List.getElem_cons_succ, List.getElem_cons_zero, Act.put, List.setIfInBounds_toArray, List.set_cons_zero, List.set_cons_succ]
  refine wpAnyH_done (by kernel_rfl) ?_ _
  clear hHeld hH1 hH2 hH3 hH4 hH5 hb4 hb5 hb6 hb7 hb8 H4 H5 H6 H7 T4 Q5 Bw4 Bw5 Bw6 Bw7 C1 C2 C3 zr r0 r1 r2 BR
  go_wp2
  go_ret2
  exact ⟨a8, _, c8, 0, rfl, (by rw [hbr]; exact HB.out.trans (Bw8.mono (by have := HB.out.size; omega))), .inr ⟨by rw [H1.out, H2.out, H3.out]; rfl, rfl, rfl, H8.out⟩⟩

set_option maxRecDepth 100000 in
set_option maxHeartbeats 8000000 in
theorem docScale_c {w : World} {L : Nat} {aw : Option Addr} {k' cw : Nat} {col' : Nat → Int} {T' : Nat → Nm} {s : Bool} {x : Option Addr} {n c : Nat} {f : Nat → Int} {y : Option Addr} {m d : Nat} {g : Nat → Int} {v' : List (Int × Rat)} {r : Rat}
    (hw : Tl w aw k' col' T') (hr : Rw w x n c f y m d g) (hk' : k' ≤ 1000) (hl' : ∀ j, j < k' → (T' j).n ≤ 1000 ∧ (T' j).m ≤ 1000) (hn : n ≤ 1000) (hm : m ≤ 1000) (hL : L ≤ 100)
    (fw : FvT L w aw k' col' T' v') (fr : rfB s f n g m = true → Rn L w s x n c f y m d g r) :
    Calls Tryz.prog 19 #[.agg #[.bool s, .slice x n c, .slice y m d], .slice aw k' cw] w fun e w' => ∃ ao j cap er, e = .returned (.tuple #[.slice ao j cap, .int .i64 er]) ∧ Below w.heap.size w w' ∧ OV2 (rfB s f n g m && tfB k' col' T') (2 * (10 * (2 * L) + 9)) w' ao j er (mg r [] v') := by
  have HW := hid hw; have HR := hid hr; have FW := hid fw; have FR := hid fr
  have hb0 := below_alloc (Below.refl w.heap.size w) (.cells #[.bool s, .slice x n c, .slice y m d] 25)
  have hB0 := bx3_at w (.bool s) (.slice x n c) (.slice y m d) 25
  clear hw hr fw fr
  go_enter Tryz.func19, Tryz.ntmps19
  go_wp2_with fail
  generalize w.alloc (.cells #[.bool s, .slice x n c, .slice y m d] 25) = w0 at *
  refine (fForm_c (cap := cw) (HW.out.below hb0) (by omega) hl').mono ?_
  rintro e w2 ⟨rfl, hb⟩
  have HB := hid (hb0.trans (hb.mono hb0.size)); have BR := hid (hB0.below hb)
  clear hb hb0 hB0
  cases h2 : tfB k' col' T'
  · have H2 := hid h2
    clear h2 BR
    go_wp2
    go_ret2
    exact ⟨none, 0, 0, 3, rfl, HB.out, .inl ⟨by rw [H2.out, Bool.and_false], rfl, rfl⟩⟩
  have H2 := hid h2
  clear h2
  obtain ⟨zr, r0, r1, r2⟩ := BR.out
  go_wp2_with fail
  refine (qForm_c (s := s) (HR.out.below HB.out) hn hm).mono ?_
  rintro e w3 ⟨rfl, hb⟩
  replace HB := hid (HB.out.trans (hb.mono HB.out.size)); replace BR := hid (BR.out.below hb)
  clear hb zr r0 r1 r2
  cases h3 : rfB s f n g m
  · have H3 := hid h3
    clear h3 BR
    go_wp2
    go_ret2
    exact ⟨none, 0, 0, 3, rfl, HB.out, .inl ⟨by rw [H3.out]; rfl, rfl, rfl⟩⟩
  have H3 := hid h3
  clear h3
  obtain ⟨lw, _, _, hqw⟩ := (FW.out.below HB.out) H2.out
  have HQw := hid hqw; have RR := hid ((FR.out H3.out).below HB.out)
  have TL' := hid (HW.out.below HB.out)
  have hgl : (mg r [] v').length ≤ k' := by have := mg_len r _ [] v' (Nat.le_refl _); simp at this; omega
  obtain ⟨zr, r0, r1, r2⟩ := BR.out
  clear hqw FW FR HW HR
  go_wp2_with fail
  refine (qFrom_c RR.out (by omega)).mono ?_
  rintro e w4 ⟨s4, x4, n4, c4, d4, y4, m4, e4, g4, rfl, hb, hl1, hl2, hq4⟩
  replace HB := hid (HB.out.trans (hb.mono HB.out.size)); have QR := hid hq4
  have HQ4 : Hid (∀ j, j < k' → ∃ q, v'[j]? = some (col' j, q) ∧ Rn L w4 (T' j).s (T' j).x (T' j).n (T' j).c (T' j).f (T' j).y (T' j).m (T' j).d (T' j).g q) := fun j hj => by obtain ⟨q, a, b⟩ := HQw.out j hj; exact ⟨q, a, b.below hb⟩
  replace TL' := hid (TL'.out.below hb)
  clear hb hq4 HQw RR zr r0 r1 r2 BR
  go_wp2_with fail
  refine (fromT_c (L := L) (cap := cw) TL'.out (by omega) (by omega) lw HQ4.out).mono ?_
  rintro e w5 ⟨ay, cy, rfl, hb, hcy, TQ⟩
  replace HB := hid (HB.out.trans (hb.mono HB.out.size)); replace QR := hid (QR.out.below hb)
  clear hb HQ4 TL'
  go_wp2_with fail
  refine (fPlus_c (K := 2 * L) (cv := 0) (cw := cy) (v := []) (fun j a q hj => by simp at hj) TQ.out QR.out (by omega) (by omega) rfl lw (by simp; omega) (by omega)).mono ?_
  rintro e w6 ⟨az, cz, rfl, hb, hcz, TP⟩
  replace HB := hid (HB.out.trans (hb.mono HB.out.size))
  clear hb TQ QR
  obtain ⟨kp, hkp⟩ : ∃ kp, (mg r [] v').length = kp := ⟨_, rfl⟩
  rw [hkp] at hcz hgl ⊢
  go_wp2_with fail
  refine (toT_c (K := 10 * (2 * L) + 9) (cap := cz) TP.out (by omega) (by omega) hkp).mono ?_
  rintro e w7 ⟨a8, c8, rfl, hb, hc8, H8⟩
  replace HB := hid (HB.out.trans (hb.mono HB.out.size))
  clear hb TP
  go_wp2
  go_ret2
  exact ⟨a8, kp, c8, 0, rfl, HB.out, .inr ⟨by rw [H2.out, H3.out]; rfl, rfl, hkp.symm, H8.out⟩⟩
end Go.Proofs.YthofcgpghbaccaaGreat
