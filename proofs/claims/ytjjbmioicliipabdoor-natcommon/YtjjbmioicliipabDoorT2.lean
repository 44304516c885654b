/-
  Walks of package nat's texts: putPiece, limbAt.
-/
import Derived.Test.YtjjbmioicliipabDoorT1
import Derived.Test.YtjjbmioicliipabDoorLw
import Derived.Test.YtjjbmioicliipabDoorW4
import Derived.Lib.BufferWrite
namespace Go.Proofs.YtjjbmioicliipabDoor
open Go.RowKit Go.Lib

theorem Tryd.infoU8 : (Tryd.prog.info? 5).map (fun i => (i.zero, i.size, i.bytes)) = some (some (.int .u8 0), 1, 1) := by kernel_rfl
theorem Tryd.sizeU8 : (Tryd.prog.info? 5).map (·.size) = some 1 := by kernel_rfl

/-- The bytes of a text, as numbers. -/
def byt (l : List UInt8) : Nat → Int := fun j => ((l.getD j 0).toNat : Int)
theorem byteCells_lst (l : List UInt8) : byteCells l = lst .u8 (byt l) l.length := by
  apply List.ext_getElem?
  intro j
  by_cases hj : j < l.length
  · rw [lst_get _ _ _ _ hj]
    simp [byteCells, byt, hj]
  · rw [List.getElem?_eq_none (by rw [byteCells_length]; omega), List.getElem?_eq_none (by rw [lst_length]; omega)]

/-- 'copy(d, s)', s a text that fits, into a block of the call's own. -/
theorem wpList_copy_text {P : Program} (w : World) {ops : Array Oper} {rest : List Oper} {o : Oper} {a : Act} {Q : Exit → Act → World → Prop} (hgd : o.guard = none) (d s : Operand) (dT sT : TypeId)
    (ho : o.op = .call { callee := .builtin .copy, args := #[d, s], argTypes := #[dT, sT] }) (e : TypeId) (hu : P.underlying dT = some (.slice e)) (hsz : (P.info? e).map (·.size) = some 1)
    (g off N : Nat) (f : Nat → Int) (dLen dCap : Nat) (l : List UInt8) (hd : a.eval d = .slice (some ⟨g, off, none⟩) dLen dCap) (hs : a.eval s = .string ⟨l.toArray⟩)
    (hb : Blk .u8 e w g N f) (hle : l.length ≤ dLen) (hfit : off + l.length ≤ N)
    (hK : ∀ w', Blk .u8 e w' g N (put f off l.length (byt l)) → Only g w w' → wpList P ops Q rest (a.put o.dst (goInt l.length)) w') : wpList P ops Q (o :: rest) a w := by
  refine wpList_plain hgd fun K hK2 => ?_
  obtain ⟨cur, hg, hcs, hcc⟩ := id hb
  have hsize : (⟨l.toArray⟩ : ByteArray).size = l.length := by simp [ByteArray.size]
  have hrun := run_copy_row_string (P := P) w dT sT o.type e g off dLen dCap ⟨l.toArray⟩ cur e hu hsz hg (by rw [hsize]; exact hle) (by rw [hsize]; omega)
  unfold Oper.wp
  simp only [hsize] at hrun
  simp [execOp, ho, resolve, invoke, builtin, hd, hs, hrun, Result.andThen]
  refine hK2 _ _ (hK _ ?_ ?_)
  · have := setRow_blk (h := byt l) (n := l.length) (off := off) hb hfit hg
    rw [← byteCells_lst, byteCells_length] at this
    exact this
  · exact ⟨rfl, rfl, rfl, by simp [World.setRow], fun k _ hk => setRow_other w g k _ hk⟩

/-- The digit of u at place e from the right, as a byte's number. -/
def dgi (u e : Nat) : Int := 48 + ((u / 10 ^ e % 10 : Nat) : Int)
theorem nDigits_le {u L : Nat} (h : u < 10 ^ L) (h1 : 1 ≤ L) : nDigits u ≤ L := by
  by_cases h0 : u = 0
  · subst h0; rw [nDigits_small (by omega)]; omega
  · apply Nat.le_of_not_lt
    intro hlt
    obtain ⟨k, hk⟩ : ∃ k, nDigits u = k + 1 := ⟨nDigits u - 1, by omega⟩
    have : 10 ^ k ≤ u := by
      apply Nat.le_of_not_lt
      intro h2
      have h3 : ∀ (k u : Nat), 0 < u → u < 10 ^ k → nDigits u ≤ k := by
        intro k
        induction k with
        | zero => intro u a b; simp at b; omega
        | succ k ih =>
          intro u a b
          by_cases hu : u < 10
          · rw [nDigits_small hu]; omega
          · rw [nDigits_big hu]
            have := ih (u / 10) (by omega) (by rw [Nat.pow_succ] at b; omega)
            omega
      have := h3 k u (by omega) h2
      omega
    have h4 : 10 ^ L ≤ 10 ^ k := Nat.pow_le_pow_right (by omega) (by omega)
    omega
theorem byt_dec (u j : Nat) (hj : j < nDigits u) : byt (decDigits u) j = dgi u (nDigits u - 1 - j) := by
  unfold byt dgi
  rw [decDigits_eq]
  have e : ((List.range (nDigits u)).map fun t => dg u (nDigits u - 1 - t)).getD j 0 = dg u (nDigits u - 1 - j) := by simp [hj]
  rw [e]
  unfold dg
  have h1 : 48 + u / 10 ^ (nDigits u - 1 - j) % 10 < 256 := by omega
  rw [UInt8.toNat_ofNat', Nat.mod_eq_of_lt h1]
  omega
theorem dgi_front {u L j : Nat} (hj : j < L - nDigits u) : dgi u (L - 1 - j) = 48 := by
  have h1 := lt_pow_nDigits u
  have h2 : 10 ^ nDigits u ≤ 10 ^ (L - 1 - j) := Nat.pow_le_pow_right (by omega) (by omega)
  unfold dgi
  rw [Nat.div_eq_of_lt (by omega)]
  rfl

set_option maxRecDepth 100000 in
set_option maxHeartbeats 1000000 in
/-- putPiece: the digits of a limb, noughts in front. -/
theorem putPiece_c (g o L cap N : Nat) (t : Nat → Int) (u : Nat) (w : World) (hb : Blk .u8 5 w g N t) (ho : o + L ≤ N) (hN : N ≤ 140737488355328) (hL1 : 1 ≤ L) (hcap : L ≤ cap) (hcm : cap ≤ 140737488355328) (hu : u < 10 ^ L) (hu64 : u < 18446744073709551616)
    (htab : TabIs Tryd.prog w "internal/strconv.uint64pow10" .u64 pow10Tab) :
    Calls Tryd.prog 53 #[.slice (some ⟨g, o, none⟩) L cap, .int .u64 u] w fun e w' => e = .returned (.tuple #[]) ∧ Only g w w' ∧
      ∃ t', Blk .u8 5 w' g N t' ∧ (∀ j, j < o ∨ o + L ≤ j → t' j = t j) ∧ (∀ j, j < L → t' (o + j) = dgi u (L - 1 - j)) := by
  have c1 := formatUint_c u hu64 w htab
  have hnd := nDigits_le hu hL1
  have hnp := nDigits_pos u
  have hlen : (decDigits u).length = nDigits u := decDigits_length u
  have hbd := fun j hj => byt_dec u j hj
  have hfr : ∀ j, j < L - nDigits u → dgi u (L - 1 - j) = 48 := fun j hj => dgi_front hj
  have hsz : (⟨(decDigits u).toArray⟩ : ByteArray).size = nDigits u := by rw [← hlen]; simp [ByteArray.size]
  generalize nDigits u = nd at *
  generalize decDigits u = l at *
  have C1 := hid c1; have HLen := hid hlen; have HBd := hid hbd; have HFr := hid hfr
  clear c1 hlen hbd hfr htab hu
  go_enter Tryd.func53, Tryd.ntmps53
  go_wp2_with fail
  refine C1.out.mono ?_
  rintro e w1 ⟨rfl, hbel⟩
  have hb1 := hb.below hbel hb.lt
  have hon1 : Only g w w1 := Only.of_below hbel
  clear hb hbel C1
  go_wp2
  go_loopw [15] (fun c wr => ∃ (k : Nat) (t' : Nat → Int), k ≤ L - nd ∧ c = .int .i64 k ∧ Only g w wr ∧ Blk .u8 5 wr g N t' ∧ Hid (∀ j, j < o ∨ o + k ≤ j → t' j = t j) ∧ Hid (∀ j, j < k → t' (o + j) = 48)) (fun c _ => L - nd - (RowKit.intOf c).toNat)
  case atStart => exact ⟨0, t, by omega, rfl, hon1, hb1, fun _ _ => rfl, fun j hj => by omega⟩
  case round =>
    clear hon1 hb1
    obtain ⟨k, t', hk, rfl, hon, hbl, HE, HZ⟩ := hrel
    by_cases hlt : k < L - nd
    · have hcell := hbl.cell (j := o + k) (by omega)
      have hfz := hbl.frozen (o + k)
      go_wp2
      go_roundw
      case rel =>
        refine ⟨k + 1, upd t' (o + k) 48, by omega, by go_num, hon.setCell _ _ _, hbl.set _ _, fun j hj => ?_, fun j hj => ?_⟩
        · rw [upd_other _ _ _ _ (by omega)]; exact HE.out j (by omega)
        · by_cases hjk : j = k
          · subst hjk; exact upd_same _ _ _
          · rw [upd_other _ _ _ _ (by omega)]; exact HZ.out j (by omega)
      case measure => simp [RowKit.intOf]; omega
    · have hkl : k = L - nd := by omega
      subst hkl
      have hne : ¬ (L - nd = cap) := by omega
      go_wp2_with (refine wpList_copy_text wr rfl (.tmp 24) (.tmp 25) 54 9 rfl 5 Tryd.underlying54 Tryd.sizeU8 g (o + (L - nd)) N t' (L - (L - nd)) (cap - (L - nd)) l rfl rfl hbl (by rw [HLen.out]; omega) (by rw [HLen.out]; omega) ?_; intro w2 hb2 hon2)
      have HB2 := hid hb2
      clear hb2
      go_wp2
      refine bodyPost_end (v := .tuple #[]) (results_none rfl _ _ _) rfl ⟨rfl, hon.trans hon2, _, HB2.out, fun j hj => ?_, fun j hj => ?_⟩
      · rw [put_out (by rw [HLen.out]; omega)]; exact HE.out j (by omega)
      · by_cases h1 : j < L - nd
        · rw [put_out (.inl (by omega)), HZ.out j h1, HFr.out j h1]
        · rw [put_in (by omega) (by rw [HLen.out]; omega)]
          have e1 : o + j - (o + (L - nd)) = j - (L - nd) := by omega
          have e2 : nd - 1 - (j - (L - nd)) = L - 1 - j := by omega
          rw [e1, HBd.out _ (by omega), e2]

theorem limbAt_c (ao : Option Addr) (n cap : Nat) (f : Nat → Int) (i : Nat) (w : World) (hn : n ≤ 140737488355328) (hi : i ≤ 140737488355328) (hr : Rd .u64 w ao n f) :
    Calls Tryd.prog 54 #[.slice ao n cap, .int .i64 i] w fun e w' => e = .returned (.int .u64 (ext f n i)) ∧ w' = w := by
  by_cases h : i < n
  · obtain ⟨b, o, rfl⟩ := hr.at (by omega)
    have hc := hr.cell h
    have E := hid (ext_in f n i h)
    clear hr
    go_enter Tryd.func54, Tryd.ntmps54
    go_wp2
    go_ret
    exact ⟨by rw [E.out]; rfl, rfl⟩
  · have E := hid (ext_out f n i (by omega))
    go_enter Tryd.func54, Tryd.ntmps54
    go_wp2
    go_ret
    exact ⟨by rw [E.out]; rfl, rfl⟩
end Go.Proofs.YtjjbmioicliipabDoor
