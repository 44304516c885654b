/-
  Contracts of the library that lie ready, laid at this translation: math/bits, internal/strconv. strconv.FormatUint at base 10. Walks of package nat's texts: putPiece, limbAt. Walks of package nat's texts: levels, bases. Walks of package nat's texts: putDigits. The same words for digits to the base 2^32. Walks of package nat's texts: bytes.TrimLeft of noughts, digits, Text. Walks of the document's reference for nat: Form, Twin, Same, Low, two, light. Walks of package nat's calls Text, DivMod and Gcd. The walk of package whole's call Divide. Walks of the document's reference for nat: Twin, From, To. Walks of the document's reference for nat: Word, short. Walks of the document's reference for whole: Same, Twin, DocOf.
-/
import Derived.Test.YtlpmfmphglgocaaGreatDoorZ0
import Derived.Test.YtlpmfmphglgocaaGreatDoorZ1
import Derived.Test.YtlpmfmphglgocaaGreatDoorZ2
import Derived.Test.YtlpmfmphglgocaaGreatDoorZ3
import Derived.Test.YtlpmfmphglgocaaGreatDoorZ4
import Derived.Test.YtlpmfmphglgocaaGreatDoorZ5
import Derived.Test.YtlpmfmphglgocaaGreatDoorZ6
import Derived.Test.YtlpmfmphglgocaaGreatDoorZ7
import Derived.Test.YtlpmfmphglgocaaGreatDoorZ8
import Derived.Test.YtlpmfmphglgocaaGreatDoorZ9
import Derived.Shelf.Small.Bits
import Derived.Shelf.Strconv.Itoa0
import Derived.Shelf.Strconv.Itoa1
import Derived.Shelf.LaysM
import Derived.Shelf.Strconv.Itoa2
import Derived.Shelf.Strings.Search1
import Derived.Shelf.Strings.Search2
import Derived.Shelf.Bits.Mul64
import Derived.Test.YtlpmfmphglgocaaGreatDoorProg
import Derived.Lib.ItoaMem
import Derived.Lib.Walk
import Derived.BigCall
import Derived.BigGuard
import Derived.Lib.BufferWrite
import Derived.Deep.RegionHeld3
namespace Go.Proofs
open Go.Shelf
open Go.Lib in
open Go.Lib in
open Go.Lib in
open Go.Lib in
open Go.RowKit Go.Sort Go.Lib in
open Go.RowKit Go.Lib in
open Go.RowKit Go.Lib in
open Go.RowKit Go.Lib in
open Go.RowKit Go.Lib in
open Go.RowKit Go.Lib in
open Go.RowKit Go.Lib in
open Go.RowKit Go.Lib in
def Tryz.lays125_ren : Go.Shelf.Ren := ⟨fun | 125 => 150 | 128 => 171 | 129 => 164 | n => n, fun | 46 => 124 | 3 => 3 | 51 => 167 | 53 => 28 | 4 => 4 | 5 => 5 | 9 => 9 | n => n, fun | n => n⟩
theorem Tryz.lays125 : Go.Proofs.Lays.n125 Tryz.prog Tryz.lays125_ren := {
  mixed := by kernel_rfl
  f125 := Tryz.func150.trans (congrArg some (by kernel_rfl))
  f128 := Tryz.func171.trans (congrArg some (by kernel_rfl))
  f129 := Tryz.func164.trans (congrArg some (by kernel_rfl))
  t3 := Tryz.underlying3
  a3 := Tryz.isAgg3
  z3 := Tryz.sizeOf3
  v3 := Tryz.zeroValue3
  t4 := Tryz.underlying4
  a4 := Tryz.isAgg4
  z4 := Tryz.sizeOf4
  v4 := Tryz.zeroValue4
  t5 := Tryz.underlying5
  a5 := Tryz.isAgg5
  z5 := Tryz.sizeOf5
  v5 := Tryz.zeroValue5
  t9 := Tryz.underlying9
  a9 := Tryz.isAgg9
  z9 := Tryz.sizeOf9
  v9 := Tryz.zeroValue9
  t46 := Tryz.underlying124
  a46 := Tryz.isAgg124
  z46 := Tryz.sizeOf124
  v46 := Tryz.zeroValue124
  t51 := Tryz.underlying167
  a51 := Tryz.isAgg167
  z51 := Tryz.sizeOf167
  v51 := Tryz.zeroValue167
  t53 := Tryz.underlying28
  a53 := Tryz.isAgg28
  z53 := Tryz.sizeOf28
  v53 := Tryz.zeroValue28 }
theorem Tryz.bits_Len (x : Int) (w : World) (h0 : 0 ≤ x) (h1 : x ≤ 18446744073709551615) :
    Calls Tryz.prog 150 #[.int .u64 x] w fun e w' => e = .returned (.int .i64 (Lib.bitLen x.toNat)) ∧ w' = w := Any.bits_Len Tryz.lays125 x w h0 h1
def Tryz.lays283_ren : Go.Shelf.Ren := ⟨fun | 283 => 193 | n => n, fun | 3 => 3 | 9 => 9 | 4 => 4 | n => n, fun | n => n⟩
theorem Tryz.lays283 : Go.Proofs.Lays.n283 Tryz.prog Tryz.lays283_ren := {
  mixed := by kernel_rfl
  f283 := Tryz.func193.trans (congrArg some (by kernel_rfl))
  t3 := Tryz.underlying3
  a3 := Tryz.isAgg3
  z3 := Tryz.sizeOf3
  v3 := Tryz.zeroValue3
  t4 := Tryz.underlying4
  a4 := Tryz.isAgg4
  z4 := Tryz.sizeOf4
  v4 := Tryz.zeroValue4
  t9 := Tryz.underlying9
  a9 := Tryz.isAgg9
  z9 := Tryz.sizeOf9
  v9 := Tryz.zeroValue9 }
theorem Tryz.internal_strconv_small (i : Nat) (h : i < 100) (w : World) :
    Calls Tryz.prog 193 #[.int .i64 i] w fun e w' => e = .returned (.string ⟨(Lib.decDigits i).toArray⟩) ∧ w' = w := Any.internal_strconv_small Tryz.lays283 i h w
def Tryz.laysM284_ren : Go.Shelf.Ren := ⟨fun | 284 => 194 | 129 => 164 | 317 => 197 | 318 => 198 | n => n, fun | 53 => 28 | 3 => 3 | 212 => 190 | 0 => 0 | 4 => 4 | 46 => 124 | 5 => 5 | 9 => 9 | n => n, fun | 17 => 5 | n => n⟩
theorem Tryz.laysM284 : Go.Proofs.LaysM.n284 Tryz.prog Tryz.laysM284_ren := {
  mixed := by kernel_rfl
  f129 := Tryz.func164.trans (congrArg some (by kernel_rfl))
  f284 := Tryz.func194.trans (congrArg some (by kernel_rfl))
  f317 := Tryz.func197.trans (congrArg some (by kernel_rfl))
  f318 := Tryz.func198.trans (congrArg some (by kernel_rfl))
  t0 := Tryz.underlying0
  a0 := Tryz.isAgg0
  z0 := Tryz.sizeOf0
  v0 := Tryz.zeroValue0
  t3 := Tryz.underlying3
  a3 := Tryz.isAgg3
  z3 := Tryz.sizeOf3
  v3 := Tryz.zeroValue3
  t4 := Tryz.underlying4
  a4 := Tryz.isAgg4
  z4 := Tryz.sizeOf4
  v4 := Tryz.zeroValue4
  t5 := Tryz.underlying5
  a5 := Tryz.isAgg5
  z5 := Tryz.sizeOf5
  v5 := Tryz.zeroValue5
  t9 := Tryz.underlying9
  a9 := Tryz.isAgg9
  z9 := Tryz.sizeOf9
  v9 := Tryz.zeroValue9
  t46 := Tryz.underlying124
  a46 := Tryz.isAgg124
  z46 := Tryz.sizeOf124
  v46 := Tryz.zeroValue124
  t53 := Tryz.underlying28
  a53 := Tryz.isAgg28
  z53 := Tryz.sizeOf28
  v53 := Tryz.zeroValue28
  t212 := Tryz.underlying190
  a212 := Tryz.isAgg190
  z212 := Tryz.sizeOf190
  v212 := Tryz.zeroValue190
  g17 := by kernel_rfl
  i0 := by kernel_rfl
  i3 := by kernel_rfl
  i4 := by kernel_rfl
  i5 := by kernel_rfl
  i9 := by kernel_rfl
  i46 := by kernel_rfl
  i53 := by kernel_rfl
  i212 := by kernel_rfl
  m17 := by kernel_rfl }
theorem Tryz.internal_strconv_numDigits (u : Nat) (h1 : 1 ≤ u) (h2 : u < 18446744073709551616) (w : World) (htab : Lib.TabIs Tryz.prog w "internal/strconv.uint64pow10" .u64 Lib.pow10Tab) :
    Calls Tryz.prog 194 #[.int .u64 u] w fun e w' => e = .returned (.int .i64 (Lib.nDigits u)) ∧ w' = w := Any.internal_strconv_numDigits Tryz.laysM284 u h1 h2 w htab
def Tryz.lays285_ren : Go.Shelf.Ren := ⟨fun | 285 => 195 | n => n, fun | 37 => 128 | 53 => 28 | 3 => 3 | 4 => 4 | 51 => 167 | 9 => 9 | 5 => 5 | 0 => 0 | n => n, fun | n => n⟩
theorem Tryz.lays285 : Go.Proofs.Lays.n285 Tryz.prog Tryz.lays285_ren := {
  mixed := by kernel_rfl
  f285 := Tryz.func195.trans (congrArg some (by kernel_rfl))
  t0 := Tryz.underlying0
  a0 := Tryz.isAgg0
  z0 := Tryz.sizeOf0
  v0 := Tryz.zeroValue0
  t3 := Tryz.underlying3
  a3 := Tryz.isAgg3
  z3 := Tryz.sizeOf3
  v3 := Tryz.zeroValue3
  t4 := Tryz.underlying4
  a4 := Tryz.isAgg4
  z4 := Tryz.sizeOf4
  v4 := Tryz.zeroValue4
  t5 := Tryz.underlying5
  a5 := Tryz.isAgg5
  z5 := Tryz.sizeOf5
  v5 := Tryz.zeroValue5
  t9 := Tryz.underlying9
  a9 := Tryz.isAgg9
  z9 := Tryz.sizeOf9
  v9 := Tryz.zeroValue9
  t37 := Tryz.underlying128
  a37 := Tryz.isAgg128
  z37 := Tryz.sizeOf128
  v37 := Tryz.zeroValue128
  t51 := Tryz.underlying167
  a51 := Tryz.isAgg167
  z51 := Tryz.sizeOf167
  v51 := Tryz.zeroValue167
  t53 := Tryz.underlying28
  a53 := Tryz.isAgg28
  z53 := Tryz.sizeOf28
  v53 := Tryz.zeroValue28 }
theorem Tryz.internal_strconv_formatBase10 (blk off cap : Nat) (u : Nat) (d : Array UInt8) (w : World) (hH : Holds (fun (b : UInt8) => Value.int .u8 (b.toNat : Int)) w blk off d) (hu : u < 10 ^ d.size) (hu64 : u < 18446744073709551616) (hsz : d.size < 4611686018427387904) :
    Calls Tryz.prog 195 #[.slice (some ⟨blk, off, none⟩) d.size cap, .int .u64 u] w fun e w' =>
      e = .returned (.tuple #[]) ∧ ∃ (n v' : Nat) (dk : Array UInt8), w' = (putRow (fun (b : UInt8) => Value.int .u8 (b.toNat : Int)) w blk off dk).drewN n ∧ FmtInv d.size u 0 v' dk := Any.internal_strconv_formatBase10 Tryz.lays285 blk off cap u d w hH hu hu64 hsz
def Tryz.lays219_ren : Go.Shelf.Ren := ⟨fun | 219 => 123 | 217 => 157 | 225 => 158 | 224 => 159 | 267 => 160 | 266 => 176 | 314 => 177 | n => n, fun | 9 => 9 | 3 => 3 | 4 => 4 | 5 => 5 | 46 => 124 | 146 => 173 | 51 => 167 | n => n, fun | 1 => 0 | n => n⟩
theorem Tryz.lays219 : Go.Proofs.Lays.n219 Tryz.prog Tryz.lays219_ren := {
  mixed := by kernel_rfl
  f217 := Tryz.func157.trans (congrArg some (by kernel_rfl))
  f219 := Tryz.func123.trans (congrArg some (by kernel_rfl))
  f224 := Tryz.func159.trans (congrArg some (by kernel_rfl))
  f225 := Tryz.func158.trans (congrArg some (by kernel_rfl))
  f266 := Tryz.func176.trans (congrArg some (by kernel_rfl))
  f267 := Tryz.func160.trans (congrArg some (by kernel_rfl))
  f314 := Tryz.func177.trans (congrArg some (by kernel_rfl))
  t3 := Tryz.underlying3
  a3 := Tryz.isAgg3
  z3 := Tryz.sizeOf3
  v3 := Tryz.zeroValue3
  t4 := Tryz.underlying4
  a4 := Tryz.isAgg4
  z4 := Tryz.sizeOf4
  v4 := Tryz.zeroValue4
  t5 := Tryz.underlying5
  a5 := Tryz.isAgg5
  z5 := Tryz.sizeOf5
  v5 := Tryz.zeroValue5
  t9 := Tryz.underlying9
  a9 := Tryz.isAgg9
  z9 := Tryz.sizeOf9
  v9 := Tryz.zeroValue9
  t46 := Tryz.underlying124
  a46 := Tryz.isAgg124
  z46 := Tryz.sizeOf124
  v46 := Tryz.zeroValue124
  t51 := Tryz.underlying167
  a51 := Tryz.isAgg167
  z51 := Tryz.sizeOf167
  v51 := Tryz.zeroValue167
  t146 := Tryz.underlying173
  a146 := Tryz.isAgg173
  z146 := Tryz.sizeOf173
  v146 := Tryz.zeroValue173
  g1 := by kernel_rfl }
theorem Tryz.stringslite_Index_one (s : ByteArray) (c : UInt8) (w : World) :
    Calls Tryz.prog 123 #[.string s, .string ⟨#[c]⟩] w fun e w' => e = .returned (.int .i64 (Lib.indexByte s.data.toList c)) ∧ w' = w := Any.stringslite_Index_one Tryz.lays219 s c w
end Go.Proofs.YtlpmfmphglgocaaGreatDoor
namespace Go.Proofs.YtlpmfmphglgocaaGreatDoor
open Go.RowKit Go.Sort Go.Lib

theorem holds_zero0 (w : World) (T : TypeId) (nd : Nat) (hs : nd ≤ 24) : Holds (fun (b : UInt8) => Value.int .u8 (b.toNat : Int)) (w.alloc (.cells zeros24 T)) w.heap.size 0 (Array.replicate nd (0 : UInt8)) := fun j hj => by
  have hj' : j < nd := by simpa using hj
  refine ⟨?_, World.frozen?_alloc_new _ _ _ _⟩
  rw [World.cell?_alloc_new, zeros24_at _ (by omega), getElem!_pos _ j hj]
  simp
theorem fin_pos0 (w : World) (o : Obj) (dk : Array UInt8) (k : Nat) : ∃ os, (putRow (fun (b : UInt8) => Value.int .u8 (b.toNat : Int)) (w.alloc o) w.heap.size 0 dk).drewN k = grow (w.drewN k) os := by
  rw [alloc_eq_grow]
  obtain ⟨os', _, e⟩ := putRow_grow_new (fun (b : UInt8) => Value.int .u8 (b.toNat : Int)) w #[o] w.heap.size 0 dk (Nat.le_refl _)
  exact ⟨os', by rw [e]; rfl⟩
theorem below_grow (w : World) (k : Nat) (os : Array Obj) : Below w.heap.size w (grow (w.drewN k) os) := by
  refine ⟨rfl, rfl, rfl, ?_, fun i hi => ?_⟩
  · simp [grow]
  · show (w.heap ++ os)[i]? = _
    rw [Array.getElem?_append_left hi]

set_option maxHeartbeats 4000000 in
set_option maxRecDepth 100000 in
theorem fmtU_c (u : Nat) (hu64 : u < 18446744073709551616) (w : World) (htab : TabIs Tryz.prog w "internal/strconv.uint64pow10" .u64 pow10Tab) :
    Calls Tryz.prog 189 #[.int .u64 u, .int .i64 10] w fun e w' => e = .returned (.string ⟨(decDigits u).toArray⟩) ∧ Below w.heap.size w w' := by
  by_cases hs : u < 100
  · go_enter Tryz.func189, Tryz.ntmps189
    go_wp2_with fail
    refine (Tryz.internal_strconv_small u hs _).mono ?_
    rintro e w' ⟨rfl, rfl⟩
    go_wp2
    go_ret
    exact ⟨rfl, Below.refl _ _⟩
  · have hu1 : 1 ≤ u := by omega
    have hnd20 : nDigits u ≤ 20 := by have := numDigits_eq u hu1 hu64; split at this <;> omega
    have hal : Tryz.prog.arrayLen 183 = 24 := by kernel_rfl
    have hsl1 : ∀ W, (Instr.sliceAt 183 (.pointer (some ⟨w.heap.size, 0, none⟩)) none (some (.int .i64 (nDigits u : Int))) none).run Tryz.prog W = .ok (.slice (some ⟨w.heap.size, 0, none⟩) (nDigits u) 24) W := fun W => by
      rw [run_sliceAt_array_h W 183 ⟨w.heap.size, 0, none⟩ (by simp [Program.arrayLen, Program.elem, Tryz.underlying183]) .i64 (nDigits u : Int) (by omega) (by rw [hal]; omega)]
      go_simp
    have hH0 := holds_zero0 w 183 (nDigits u) (by omega)
    have hfmt := Tryz.internal_strconv_formatBase10 w.heap.size 0 24 u (Array.replicate (nDigits u) 0) (w.alloc (.cells zeros24 183)) hH0 (by rw [Array.size_replicate]; exact lt_pow_nDigits u) hu64 (by rw [Array.size_replicate]; omega)
    rw [Array.size_replicate] at hfmt
    have HH0 := Lib.hid hH0
    have HF := Lib.hid hfmt
    have HT := Lib.hid htab
    clear hH0 hal hfmt htab
    go_enter Tryz.func189, Tryz.ntmps189
    go_wp2_with fail
    refine (Tryz.internal_strconv_numDigits u hu1 hu64 _ (by exact tabIs_alloc HT.out _)).mono ?_
    rintro e w' ⟨rfl, rfl⟩
    go_wp2_with fail
    refine HF.out.mono ?_
    rintro e w' ⟨rfl, k, v', dk, rfl, hF⟩
    have hcv : (convert 128 9 (.slice (some ⟨w.heap.size, 0, none⟩) (nDigits u) 24)).run Tryz.prog ((putRow (fun (b : UInt8) => Value.int .u8 (b.toNat : Int)) (w.alloc (.cells zeros24 183)) w.heap.size 0 dk).drewN k) = .ok (.string ⟨(decDigits u).toArray⟩) ((putRow (fun (b : UInt8) => Value.int .u8 (b.toNat : Int)) (w.alloc (.cells zeros24 183)) w.heap.size 0 dk).drewN k) := by
      have h := run_convert_bytes_back (P := Tryz.prog) ((putRow (fun (b : UInt8) => Value.int .u8 (b.toNat : Int)) (w.alloc (.cells zeros24 183)) w.heap.size 0 dk).drewN k) 128 9 5 ⟨w.heap.size, 0, none⟩ 24 (decDigits u) Tryz.underlying128 Tryz.underlying5 Tryz.underlying9 (fun j hj => by
        rw [row_is_numeral hF j hj, add_plain, World.cell?_drewN]
        exact cell?_putRow (fun (b : UInt8) => Value.int .u8 (b.toNat : Int)) _ w.heap.size 0 _ dk HH0.out (by rw [hF.size, Array.size_replicate]) j (by rw [hF.size]; rw [decDigits_length] at hj; exact hj))
      rw [decDigits_length] at h
      exact h
    go_wp2
    go_ret
    obtain ⟨os, eo⟩ := fin_pos0 w (.cells zeros24 183) dk k
    exact ⟨rfl, by rw [eo]; exact below_grow w k os⟩

set_option maxHeartbeats 400000 in
theorem formatUint_c (u : Nat) (hu64 : u < 18446744073709551616) (w : World) (htab : TabIs Tryz.prog w "internal/strconv.uint64pow10" .u64 pow10Tab) :
    Calls Tryz.prog 172 #[.int .u64 u, .int .i64 10] w fun e w' => e = .returned (.string ⟨(decDigits u).toArray⟩) ∧ Below w.heap.size w w' := by
  have c := fmtU_c u hu64 w htab
  have C := Lib.hid c
  clear c htab
  go_enter Tryz.func172, Tryz.ntmps172
  go_wp2_with fail
  refine C.out.mono ?_
  rintro e w' ⟨rfl, hb⟩
  go_wp2
  go_ret
  exact ⟨rfl, hb⟩
end Go.Proofs.YtlpmfmphglgocaaGreatDoor
namespace Go.Proofs.YtlpmfmphglgocaaGreatDoor
open Go.RowKit Go.Lib

theorem Tryz.infoU8 : (Tryz.prog.info? 5).map (fun i => (i.zero, i.size, i.bytes)) = some (some (.int .u8 0), 1, 1) := by kernel_rfl
theorem Tryz.sizeU8 : (Tryz.prog.info? 5).map (·.size) = some 1 := by kernel_rfl

/-- The bytes of a text, as numbers. -/
def byt (l : List UInt8) : Nat → Int := fun j => ((l.getD j 0).toNat : Int)
theorem byteCells_lst (l : List UInt8) : byteCells l = lst .u8 (byt l) l.length := by
  apply List.ext_getElem?
  intro j
  by_cases hj : j < l.length
  · rw [lst_get _ _ _ _ hj]
    simp [byteCells, byt, hj]
  · rw [List.getElem?_eq_none (by rw [byteCells_length]; omega), List.getElem?_eq_none (by rw [lst_length]; omega)]

/-- 'copy(d, s)', s a text that fits, into a block of the call's own. -/
theorem wpList_copy_text {P : Program} (w : World) {ops : Array Oper} {rest : List Oper} {o : Oper} {a : Act} {Q : Exit → Act → World → Prop} (hgd : o.guard = none) (d s : Operand) (dT sT : TypeId)
    (ho : o.op = .call { callee := .builtin .copy, args := #[d, s], argTypes := #[dT, sT] }) (e : TypeId) (hu : P.underlying dT = some (.slice e)) (hsz : (P.info? e).map (·.size) = some 1)
    (g off N : Nat) (f : Nat → Int) (dLen dCap : Nat) (l : List UInt8) (hd : a.eval d = .slice (some ⟨g, off, none⟩) dLen dCap) (hs : a.eval s = .string ⟨l.toArray⟩)
    (hb : Blk .u8 e w g N f) (hle : l.length ≤ dLen) (hfit : off + l.length ≤ N)
    (hK : ∀ w', Blk .u8 e w' g N (put f off l.length (byt l)) → Only g w w' → wpList P ops Q rest (a.put o.dst (goInt l.length)) w') : wpList P ops Q (o :: rest) a w := by
  refine wpList_plain hgd fun K hK2 => ?_
  obtain ⟨cur, hg, hcs, hcc⟩ := id hb
  have hsize : (⟨l.toArray⟩ : ByteArray).size = l.length := by simp [ByteArray.size]
  have hrun := run_copy_row_string (P := P) w dT sT o.type e g off dLen dCap ⟨l.toArray⟩ cur e hu hsz hg (by rw [hsize]; exact hle) (by rw [hsize]; omega)
  unfold Oper.wp
  simp only [hsize] at hrun
  simp [execOp, ho, resolve, invoke, builtin, hd, hs, hrun, Result.andThen]
  refine hK2 _ _ (hK _ ?_ ?_)
  · have := setRow_blk (h := byt l) (n := l.length) (off := off) hb hfit hg
    rw [← byteCells_lst, byteCells_length] at this
    exact this
  · exact ⟨rfl, rfl, rfl, by simp [World.setRow], fun k _ hk => setRow_other w g k _ hk⟩

/-- The digit of u at place e from the right, as a byte's number. -/
def dgi (u e : Nat) : Int := 48 + ((u / 10 ^ e % 10 : Nat) : Int)
theorem nDigits_le {u L : Nat} (h : u < 10 ^ L) (h1 : 1 ≤ L) : nDigits u ≤ L := by
  by_cases h0 : u = 0
  · subst h0; rw [nDigits_small (by omega)]; omega
  · apply Nat.le_of_not_lt
    intro hlt
    obtain ⟨k, hk⟩ : ∃ k, nDigits u = k + 1 := ⟨nDigits u - 1, by omega⟩
    have : 10 ^ k ≤ u := by
      apply Nat.le_of_not_lt
      intro h2
      have h3 : ∀ (k u : Nat), 0 < u → u < 10 ^ k → nDigits u ≤ k := by
        intro k
        induction k with
        | zero => intro u a b; simp at b; omega
        | succ k ih =>
          intro u a b
          by_cases hu : u < 10
          · rw [nDigits_small hu]; omega
          · rw [nDigits_big hu]
            have := ih (u / 10) (by omega) (by rw [Nat.pow_succ] at b; omega)
            omega
      have := h3 k u (by omega) h2
      omega
    have h4 : 10 ^ L ≤ 10 ^ k := Nat.pow_le_pow_right (by omega) (by omega)
    omega
theorem byt_dec (u j : Nat) (hj : j < nDigits u) : byt (decDigits u) j = dgi u (nDigits u - 1 - j) := by
  unfold byt dgi
  rw [decDigits_eq]
  have e : ((List.range (nDigits u)).map fun t => dg u (nDigits u - 1 - t)).getD j 0 = dg u (nDigits u - 1 - j) := by simp [hj]
  rw [e]
  unfold dg
  have h1 : 48 + u / 10 ^ (nDigits u - 1 - j) % 10 < 256 := by omega
  rw [UInt8.toNat_ofNat', Nat.mod_eq_of_lt h1]
  omega
theorem dgi_front {u L j : Nat} (hj : j < L - nDigits u) : dgi u (L - 1 - j) = 48 := by
  have h1 := lt_pow_nDigits u
  have h2 : 10 ^ nDigits u ≤ 10 ^ (L - 1 - j) := Nat.pow_le_pow_right (by omega) (by omega)
  unfold dgi
  rw [Nat.div_eq_of_lt (by omega)]
  rfl

set_option maxRecDepth 100000 in
set_option maxHeartbeats 1000000 in
/-- putPiece: the digits of a limb, noughts in front. -/
theorem putPiece_c (g o L cap N : Nat) (t : Nat → Int) (u : Nat) (w : World) (hb : Blk .u8 5 w g N t) (ho : o + L ≤ N) (hN : N ≤ 140737488355328) (hL1 : 1 ≤ L) (hcap : L ≤ cap) (hcm : cap ≤ 140737488355328) (hu : u < 10 ^ L) (hu64 : u < 18446744073709551616)
    (htab : TabIs Tryz.prog w "internal/strconv.uint64pow10" .u64 pow10Tab) :
    Calls Tryz.prog 151 #[.slice (some ⟨g, o, none⟩) L cap, .int .u64 u] w fun e w' => e = .returned (.tuple #[]) ∧ Only g w w' ∧
      ∃ t', Blk .u8 5 w' g N t' ∧ (∀ j, j < o ∨ o + L ≤ j → t' j = t j) ∧ (∀ j, j < L → t' (o + j) = dgi u (L - 1 - j)) := by
  have c1 := formatUint_c u hu64 w htab
  have hnd := nDigits_le hu hL1
  have hnp := nDigits_pos u
  have hlen : (decDigits u).length = nDigits u := decDigits_length u
  have hbd := fun j hj => byt_dec u j hj
  have hfr : ∀ j, j < L - nDigits u → dgi u (L - 1 - j) = 48 := fun j hj => dgi_front hj
  have hsz : (⟨(decDigits u).toArray⟩ : ByteArray).size = nDigits u := by rw [← hlen]; simp [ByteArray.size]
  generalize nDigits u = nd at *
  generalize decDigits u = l at *
  have C1 := hid c1; have HLen := hid hlen; have HBd := hid hbd; have HFr := hid hfr
  clear c1 hlen hbd hfr htab hu
  go_enter Tryz.func151, Tryz.ntmps151
  go_wp2_with fail
  refine C1.out.mono ?_
  rintro e w1 ⟨rfl, hbel⟩
  have hb1 := hb.below hbel hb.lt
  have hon1 : Only g w w1 := Only.of_below hbel
  clear hb hbel C1
  go_wp2
  go_loopw [15] (fun c wr => ∃ (k : Nat) (t' : Nat → Int), k ≤ L - nd ∧ c = .int .i64 k ∧ Only g w wr ∧ Blk .u8 5 wr g N t' ∧ Hid (∀ j, j < o ∨ o + k ≤ j → t' j = t j) ∧ Hid (∀ j, j < k → t' (o + j) = 48)) (fun c _ => L - nd - (RowKit.intOf c).toNat)
  case atStart => exact ⟨0, t, by omega, rfl, hon1, hb1, fun _ _ => rfl, fun j hj => by omega⟩
  case round =>
    clear hon1 hb1
    obtain ⟨k, t', hk, rfl, hon, hbl, HE, HZ⟩ := hrel
    by_cases hlt : k < L - nd
    · have hcell := hbl.cell (j := o + k) (by omega)
      have hfz := hbl.frozen (o + k)
      go_wp2
      go_roundw
      case rel =>
        refine ⟨k + 1, upd t' (o + k) 48, by omega, by go_num, hon.setCell _ _ _, hbl.set _ _, fun j hj => ?_, fun j hj => ?_⟩
        · rw [upd_other _ _ _ _ (by omega)]; exact HE.out j (by omega)
        · by_cases hjk : j = k
          · subst hjk; exact upd_same _ _ _
          · rw [upd_other _ _ _ _ (by omega)]; exact HZ.out j (by omega)
      case measure => simp [RowKit.intOf]; omega
    · have hkl : k = L - nd := by omega
      subst hkl
      have hne : ¬ (L - nd = cap) := by omega
      go_wp2_with (refine wpList_copy_text wr rfl (.tmp 24) (.tmp 25) 128 9 rfl 5 Tryz.underlying128 Tryz.sizeU8 g (o + (L - nd)) N t' (L - (L - nd)) (cap - (L - nd)) l rfl rfl hbl (by rw [HLen.out]; omega) (by rw [HLen.out]; omega) ?_; intro w2 hb2 hon2)
      have HB2 := hid hb2
      clear hb2
      go_wp2
      refine bodyPost_end (v := .tuple #[]) (results_none rfl _ _ _) rfl ⟨rfl, hon.trans hon2, _, HB2.out, fun j hj => ?_, fun j hj => ?_⟩
      · rw [put_out (by rw [HLen.out]; omega)]; exact HE.out j (by omega)
      · by_cases h1 : j < L - nd
        · rw [put_out (.inl (by omega)), HZ.out j h1, HFr.out j h1]
        · rw [put_in (by omega) (by rw [HLen.out]; omega)]
          have e1 : o + j - (o + (L - nd)) = j - (L - nd) := by omega
          have e2 : nd - 1 - (j - (L - nd)) = L - 1 - j := by omega
          rw [e1, HBd.out _ (by omega), e2]

end Go.Proofs.YtlpmfmphglgocaaGreatDoor
namespace Go.Proofs.YtlpmfmphglgocaaGreatDoor
open Go.RowKit

/-- The levels that so many pieces ask. -/
def lev (n : Nat) : Nat := if n ≤ 1 then 0 else Lib.bitLen (n - 1)

set_option maxHeartbeats 400000 in
theorem levels_c (n : Nat) (z : Int) (w : World) (hz : z = n) (hn : n ≤ 140737488355328) : Calls Tryz.prog 119 #[.int .i64 z] w fun e w' => e = .returned (.int .i64 (lev n)) ∧ w' = w := by
  subst hz
  by_cases h : n ≤ 1
  · have E := hid (show lev n = 0 by simp [lev, h])
    go_enter Tryz.func119, Tryz.ntmps119
    go_wp2
    go_ret
    exact ⟨by rw [E.out]; rfl, rfl⟩
  · have c := Tryz.bits_Len ((n : Int) - 1) w (by omega) (by omega)
    have e : ((n : Int) - 1).toNat = n - 1 := by omega
    rw [e] at c
    have E := hid (show lev n = Lib.bitLen (n - 1) by simp [lev, h])
    have C := hid c
    clear c e
    go_enter Tryz.func119, Tryz.ntmps119
    go_wp2_with fail
    refine C.out.mono ?_
    rintro e w' ⟨rfl, rfl⟩
    go_wp2
    go_ret
    exact ⟨by rw [E.out]; rfl, rfl⟩

theorem own_tag {w : World} {base e n v xs} (h : w.ownsRow base e 1 v n xs) : ∀ g, v.ownBlock = some g → ∃ cur fr, w.heap[g]? = some (.cells cur e fr) := by
  intro g hg
  rcases h.2 with ⟨rfl, _⟩ | ⟨g', cap, cur, rfl, hb, hgg, _⟩
  · simp [Value.ownBlock] at hg
  · simp [Value.ownBlock] at hg
    subst hg
    exact ⟨cur, _, hgg⟩
theorem snoc_get {vs : List Value} {v u : Value} {j : Nat} (h : (vs ++ [v])[j]? = some u) : vs[j]? = some u ∨ j = vs.length ∧ u = v := by
  rcases Nat.lt_trichotomy j vs.length with hl | rfl | hl
  · rw [List.getElem?_append_left hl] at h; exact .inl h
  · simp at h; exact .inr ⟨rfl, h.symm⟩
  · rw [List.getElem?_eq_none (by simp; omega)] at h; cases h

/-- The base of so many doublings. -/
def tens (j : Nat) : Int := 10 ^ (19 * 2 ^ j)
theorem tens_succ (j : Nat) : tens (j + 1) = tens j * tens j := by
  unfold tens
  rw [← Int.pow_add, Nat.pow_succ]; congr 1; omega
/-- The bases, in memory. -/
def Bas (w : World) (bo : Option Addr) (c : Nat) : Prop := ∀ j, j < c → ∃ b u arr fr, bo = some ⟨b, 0, none⟩ ∧ w.heap[b]? = some (.cells arr 22 fr) ∧ w.cell? ⟨b, j, none⟩ = some u ∧ Num w u (2 ^ j) (tens j)
theorem Bas.take {w bo c c'} (h : Bas w bo c) (hc : c' ≤ c) : Bas w bo c' := fun j hj => h j (by omega)
theorem Bas.below {w w' bo c} (h : Bas w bo c) (hb : Below w.heap.size w w') : Bas w' bo c := fun j hj => by
  obtain ⟨b, u, arr, fr, e1, e2, e3, e4⟩ := h j hj
  have hl := (Array.getElem?_eq_some_iff.1 e2).1
  exact ⟨b, u, arr, fr, e1, (hb.block b hl).trans e2, (World.cell?_of_block (hb.block b hl)).trans e3, e4.below hb⟩
theorem Bas.only {w w' bo c g} (h : Bas w bo c) (hb : Only g w w') {cur e fr} (hg : w.heap[g]? = some (.cells cur e fr)) (he : e ≠ 28) (he2 : e ≠ 22) : Bas w' bo c := fun j hj => by
  obtain ⟨b, u, arr, fr, e1, e2, e3, e4⟩ := h j hj
  have hl := (Array.getElem?_eq_some_iff.1 e2).1
  have hbg : b ≠ g := fun h => by
    rw [h, hg] at e2
    simp at e2
    exact he2 e2.2.1
  exact ⟨b, u, arr, fr, e1, (hb.block b hl hbg).trans e2, (World.cell?_of_block (hb.block b hl hbg)).trans e3, e4.only hb hg he⟩
theorem Tryz.infoSl : (Tryz.prog.info? 22).map (fun i => (i.zero, i.size, i.bytes)) = some (some (.slice none 0 0), 1, 24) := by kernel_rfl

set_option maxRecDepth 100000 in
set_option maxHeartbeats 2000000 in
/-- bases: the bases of 1, 2, 4 .. pieces. -/
theorem bases_c (count : Nat) (w : World) (hc : count ≤ 40) :
    Calls Tryz.prog 121 #[.int .i64 count] w fun e w' => ∃ (bo : Option Addr) (cap : Nat), e = .returned (.slice bo count cap) ∧ Below w.heap.size w w' ∧ count ≤ cap ∧ cap ≤ maxLen ∧ (bo = none → cap = 0) ∧ Bas w' bo count := by
  obtain ⟨i0, hi, hz0, hz1, hz2⟩ := info_parts Tryz.infoSl
  go_enter Tryz.func121, Tryz.ntmps121
  go_wp2
  go_loopw [3, 4, 8] (fun v vb c wr => ∃ (k : Nat) (vs : List Value), k ≤ count ∧ c = .int .i64 k ∧ Below w.heap.size w wr ∧ Hid (wr.ownsRow w.heap.size 22 1 v k vs) ∧ Hid (∀ j u, vs[j]? = some u → Num wr u (2 ^ j) (tens j)) ∧ Hid (Num wr vb (2 ^ (k - 1)) (tens (k - 1)))) (fun _ _ c _ => count - (intOf c).toNat)
  case atStart =>
    refine ⟨0, [], by omega, rfl, (Below.refl _ _).alloc (Nat.le_refl _) _, World.ownsRow_nil _ _ _ _, fun j u h => by simp at h, ?_⟩
    refine ⟨_, 1, 1, fun _ => 10000000000000000000, rfl, rd_new1 w _ _, fun a ha => ?_, lm_const (by decide) (by decide) 1, .inr (by show (10000000000000000000 : Int) ≠ 0; decide), by decide, ?_, by decide, by decide⟩
    · cases ha; exact ⟨_, _, heap_alloc_new w _⟩
    · simp [vf, pw, tens]
  case round =>
    obtain ⟨k, vs, hk, rfl, hbl, OO, NA, HB⟩ := hrel
    by_cases hlt : k < count
    · obtain ⟨ab, nb, cb, fb, hvb, hr, ht, hl, hf, hn, hv, hcb1, hcb2⟩ := HB.out
      subst hvb
      have RB := hid hr; have TB := hid ht; have LB := hid hl; have FB := hid hf; have VB := hid hv
      clear hr ht hl hf hv
      by_cases h0 : k = 0
      · subst h0
        have NB := HB
        clear HB RB TB LB FB VB
        go_wp2_with (at_builtin; refine wpList_append_own _ rfl (.tmp 16) (.tmp 18) 130 rfl w.heap.size 22 i0 (.slice none 0 0) 1 24 Tryz.underlying130 hi hz0 hz1 hz2 rfl (by decide) _ 0 vs rfl (World.ownsRow.alloc OO.out _) ⟨wr.heap.size, 0, none⟩ 1 1 [.slice ab nb cb] rfl rfl ?c1 ?c2 ?c3 ?c4 ?c5 ?_)
        case c1 =>
          intro j u hj
          match j, hj with
          | 0, hj => simp at hj; subst hj; simp [Addr.add]
        case c2 => intro u hu; simp at hu; subst hu; rfl
        case c3 => unfold maxLen; omega
        case c4 => omega
        case c5 => have := hbl.size; simp; omega
        intro v' w' hown hgr _
        have hba : Below wr.heap.size wr (wr.alloc _) := (Below.refl _ _).alloc (Nat.le_refl _) (.cells #[.slice ab nb cb] 22)
        have tag := own_tag (World.ownsRow.alloc OO.out (.cells #[.slice ab nb cb] 22))
        have N2 := hid (show Num w' (.slice ab nb cb) (2 ^ 0) (tens 0) from (NB.out.below hba).grown hgr tag)
        have A2 := hid (show ∀ j u, (vs ++ [.slice ab nb cb])[j]? = some u → Num w' u (2 ^ j) (tens j) from fun j u hu => by
          rcases snoc_get hu with h | ⟨rfl, rfl⟩
          · exact ((NA.out j u h).below hba).grown hgr tag
          · rw [show vs.length = 0 by have := OO.out.1; omega]; exact N2.out)
        have hbl2 : Below w.heap.size w w' := (hbl.alloc hbl.size _).grown hgr (by have := hbl.size; simp; omega) (fun g hg => (World.ownsRow.lt OO.out g hg).1)
        have HO2 := hid hown
        clear hown hgr tag hba OO NA NB
        go_wp2
        go_roundw
        case rel => exact ⟨1, vs ++ [Value.slice ab nb cb], by omega, by go_num, hbl2, HO2.out, A2.out, N2.out⟩
        case measure => simp [intOf]; omega
      · have hnb : nb ≤ 2 ^ (count - 2) := Nat.le_trans hn (Nat.pow_le_pow_right (by omega) (by omega))
        have hnb2 : nb ≤ 2 ^ 38 := Nat.le_trans hnb (Nat.pow_le_pow_right (by omega) (by omega))
        have hnb3 : nb ≤ 274877906944 := hnb2
        have hgt : (0 : Int) < k := by omega
        clear HB
        have C := hid (mul_c ab ab nb nb cb cb fb fb wr (by omega) (by omega) hcb1 hcb1 hcb2 hcb2 RB.out RB.out LB.out LB.out)
        go_wp2_with fail
        refine C.out.mono ?_
        clear C RB TB LB FB
        rintro e w1 ⟨ab, nb', cb, f1, rfl, hres, hv1⟩
        rw [VB.out, ← tens_succ, show k - 1 + 1 = k by omega] at hv1
        have NB := hid (show Num w1 (.slice ab nb' cb) (2 ^ k) (tens k) from by
          have := hres.num (by omega)
          rw [hv1] at this
          exact this.mono (by have : 2 ^ k = 2 ^ (k - 1) * 2 := by rw [← Nat.pow_succ, show (k - 1).succ = k by omega]
                              omega))
        have hb1 := hres.bel
        have OO' := hid (World.ownsRow.kept OO.out ⟨hb1.os, hb1.tape, hb1.output, hb1.size, fun k hk _ => hb1.block k hk⟩ (row := none) (by
          cases hvv : Value.ownBlock _ with
          | none => exact .inl rfl
          | some x => exact .inr (by simp)))
        have NA' := hid (fun j u h => (NA.out j u h).below hb1)
        have hbl' := hbl.trans (hb1.mono hbl.size)
        clear OO NA hbl hres hv1 VB hb1
        have OO := OO'; have NA := NA'; have hbl := hbl'
        clear OO' NA' hbl'
        go_wp2_with (at_builtin; refine wpList_append_own _ rfl (.tmp 16) (.tmp 18) 130 rfl w.heap.size 22 i0 (.slice none 0 0) 1 24 Tryz.underlying130 hi hz0 hz1 hz2 rfl (by decide) _ k vs rfl (World.ownsRow.alloc OO.out _) ⟨w1.heap.size, 0, none⟩ 1 1 [.slice ab nb' cb] rfl rfl ?d1 ?d2 ?d3 ?d4 ?d5 ?_)
        case d1 =>
          intro j u hj
          match j, hj with
          | 0, hj => simp at hj; subst hj; simp [Addr.add]
        case d2 => intro u hu; simp at hu; subst hu; rfl
        case d3 => unfold maxLen; omega
        case d4 => omega
        case d5 => have := hbl.size; simp; omega
        intro v' w' hown hgr _
        have hba : Below w1.heap.size w1 (w1.alloc _) := (Below.refl _ _).alloc (Nat.le_refl _) (.cells #[.slice ab nb' cb] 22)
        have tag := own_tag (World.ownsRow.alloc OO.out (.cells #[.slice ab nb' cb] 22))
        have N2 := hid (show Num w' (.slice ab nb' cb) (2 ^ k) (tens k) from (NB.out.below hba).grown hgr tag)
        have A2 := hid (show ∀ j u, (vs ++ [.slice ab nb' cb])[j]? = some u → Num w' u (2 ^ j) (tens j) from fun j u hu => by
          rcases snoc_get hu with h | ⟨rfl, rfl⟩
          · exact ((NA.out j u h).below hba).grown hgr tag
          · rw [show vs.length = k by have := OO.out.1; omega]; exact N2.out)
        have hbl2 : Below w.heap.size w w' := (hbl.alloc hbl.size _).grown hgr (by have := hbl.size; simp; omega) (fun g hg => (World.ownsRow.lt OO.out g hg).1)
        have HO2 := hid hown
        clear hown hgr tag hba OO NA NB
        go_wp2
        go_roundw
        case rel => exact ⟨k + 1, vs ++ [Value.slice ab nb' cb], by omega, by go_num, hbl2, HO2.out, A2.out, N2.out⟩
        case measure => simp [intOf]; omega
    · have hkc : k = count := by omega
      subst hkc
      have hlen := OO.out.1
      rcases OO.out.2 with ⟨hv, hk0⟩ | ⟨g, cap, cur, hv, hb, hg, hn, hm, hs, ht⟩
      · subst hv
        subst hk0
        clear OO HB
        go_wp2
        go_ret
        exact ⟨none, 0, rfl, hbl, by omega, by unfold maxLen; omega, fun _ => rfl, fun j hj => by omega⟩
      · subst hv
        have HG := hid hg; have HT := hid ht; have HS := hid hs
        clear OO HB hg ht hs
        go_wp2
        go_ret
        refine ⟨some ⟨g, 0, none⟩, cap, rfl, hbl, hn, hm, (fun h => by cases h), fun j hj => ?_⟩
        have hu : vs[j]? = some (vs[j]'(by omega)) := List.getElem?_eq_getElem (by omega)
        have hnum := NA.out j _ hu
        have hg := HG.out
        refine ⟨g, _, cur, _, rfl, hg, ?_, hnum⟩
        rw [← hu, ← HT.out, List.getElem?_take, if_pos (by omega)]
        simp [World.cell?, hg]
end Go.Proofs.YtlpmfmphglgocaaGreatDoor
namespace Go.Proofs.YtlpmfmphglgocaaGreatDoor
open Go.RowKit

/-- divMod does its work at these numbers. -/
def DivOk (X Y : Int) : Prop := ∀ (ao bo : Option Addr) (n m ca cb : Nat) (f h : Nat → Int) (w : World), n ≤ 8796093022208 → m ≤ 8796093022208 → Rd .u64 w ao n f → Rd .u64 w bo m h → Lm f n → Lm h m → Fm f n → Fm h m → vf f n = X → vf h m = Y →
    Calls Tryz.prog 83 #[.slice ao n ca, .slice bo m cb] w fun e w' => ∃ a1 k1 c1 q a2 k2 c2 r, e = .returned (.tuple #[.slice a1 k1 c1, .slice a2 k2 c2]) ∧ Res n w w' a1 k1 c1 q ∧ Res (n + 1) w w' a2 k2 c2 r ∧ vf f n = vf q k1 * vf h m + vf r k2 ∧ 0 ≤ vf r k2 ∧ vf r k2 < vf h m
theorem dgi_hi {V H R c : Nat} (hV : V = H * 10 ^ c + R) (hR : R < 10 ^ c) (e : Nat) : dgi H e = dgi V (c + e) := by
  unfold dgi
  have : V / 10 ^ (c + e) = H / 10 ^ e := by
    rw [Nat.pow_add, ← Nat.div_div_eq_div_mul, hV]
    congr 1
    rw [Nat.add_comm, Nat.add_mul_div_right _ _ (Nat.pow_pos (by omega)), Nat.div_eq_of_lt hR]; omega
  rw [this]
theorem dgi_lo {V H R c : Nat} (hV : V = H * 10 ^ c + R) (e : Nat) (he : e < c) : dgi R e = dgi V e := by
  unfold dgi
  have h1 : 10 ^ c = 10 ^ e * (10 * 10 ^ (c - e - 1)) := by
    rw [← Nat.pow_succ', ← Nat.pow_add]; congr 1; omega
  have : V / 10 ^ e % 10 = R / 10 ^ e % 10 := by
    rw [hV, h1, ← Nat.mul_assoc, Nat.mul_comm H, Nat.mul_assoc, Nat.add_comm, Nat.add_mul_div_left _ _ (Nat.pow_pos (by omega))]
    rw [← Nat.mul_assoc, Nat.mul_comm H 10, Nat.mul_assoc, Nat.add_mul_mod_self_left]
  rw [this]

/-- A number in memory, of at most C limbs, in form; whatever block it lies in. -/
def Nu (w : World) (v : Value) (C : Nat) (V : Int) : Prop := ∃ ao n cap f, v = .slice ao n cap ∧ Rd .u64 w ao n f ∧ Lm f n ∧ Fm f n ∧ n ≤ C ∧ vf f n = V ∧ n ≤ cap ∧ cap ≤ 9223372036854775807
theorem Num.nu {w v C V} (h : Num w v C V) : Nu w v C V := by
  obtain ⟨ao, n, cap, f, rfl, h1, _, h2, h3, h4, h5⟩ := h
  exact ⟨ao, n, cap, f, rfl, h1, h2, h3, h4, h5⟩
theorem Nu.below {w w' v C V} (h : Nu w v C V) (hb : Below w.heap.size w w') : Nu w' v C V := by
  obtain ⟨ao, n, cap, f, rfl, h1, h2, h3, h4, h5⟩ := h
  exact ⟨ao, n, cap, f, rfl, h1.below hb (Nat.le_refl _), h2, h3, h4, h5⟩

set_option maxRecDepth 100000 in
set_option maxHeartbeats 2000000 in
/-- putDigits: the digits of a number below the last base squared. -/
theorem putDigits_c (M : Int) (c : Nat) : ∀ (_ : ∀ j, j < c → ∀ X, 0 ≤ X → X ≤ M → DivOk X (tens j)) (g o L cap N : Nat) (t : Nat → Int) (ao : Option Addr) (n ca C : Nat) (V : Nat) (bo : Option Addr) (cb : Nat) (w : World) (_ : Blk .u8 5 w g N t) (_ : o + L ≤ N) (_ : N ≤ 140737488355328) (_ : L = 19 * 2 ^ c) (_ : L ≤ cap) (_ : cap ≤ 140737488355328)
    (_ : Nu w (.slice ao n ca) C V) (_ : C + c ≤ 4398046511104) (_ : V < 10 ^ L) (_ : (V : Int) ≤ M) (_ : Bas w bo c) (_ : c ≤ cb) (_ : cb ≤ maxLen) (_ : c ≤ 30) (_ : Tab w) (_ : 5 < g),
    Calls Tryz.prog 120 #[.slice (some ⟨g, o, none⟩) L cap, .slice ao n ca, .slice bo c cb] w fun e w' => e = .returned (.tuple #[]) ∧ Only g w w' ∧
      ∃ t', Blk .u8 5 w' g N t' ∧ (∀ j, j < o ∨ o + L ≤ j → t' j = t j) ∧ (∀ j, j < L → t' (o + j) = dgi V (L - 1 - j)) := by
  induction c with
  | zero =>
    intro hdiv g o L cap N t ao n ca C V bo cb w hb ho hN hL hcap hcm hnum hC hV hVM hbas hcb hcbm hc30 htab hg
    simp at hL
    subst hL
    obtain ⟨ao', n', ca', f, hv, hr, hl, hf, hn, hvf, _⟩ := hnum
    cases hv
    have hV64 : V < 18446744073709551616 := by have : 10 ^ 19 < 18446744073709551616 := by decide
                                               omega
    have hn1 : n ≤ 1 := by
      refine vf_len (f := f) (g := fun _ => (V : Int)) (m := 1) hl (lm_const (by omega) (by omega) 1) hf ?_
      rw [hvf]; simp [vf, pw]
    have he : ext f n 0 = V := by
      rcases (show n = 0 ∨ n = 1 by omega) with rfl | rfl
      · simp [vf] at hvf; rw [ext_out _ _ _ (by omega)]; omega
      · rw [ext_in _ _ _ (by omega)]; simpa [vf, pw] using hvf
    have c1 := limbAt_c ao n ca f 0 w (by omega) (by omega) hr
    rw [he] at c1
    have c2 := putPiece_c g o 19 cap N t V w hb ho hN (by omega) hcap hcm hV hV64 htab
    have C1 := hid c1; have C2 := hid c2
    clear c1 c2 hb hr hl hf hvf he hbas htab hdiv hV
    go_enter Tryz.func120, Tryz.ntmps120
    go_wp2_with fail
    refine C1.out.mono ?_
    rintro e w1 ⟨rfl, rfl⟩
    go_wp2_with fail
    refine C2.out.mono ?_
    rintro e w1 ⟨rfl, hrest⟩
    have HRest := hid hrest
    clear hrest
    go_wp2
    exact bodyPost_ret (v := .tuple #[]) (results_none rfl _ _ _) rfl ⟨rfl, HRest.out⟩
  | succ c ih =>
    intro hdiv g o L cap N t ao n ca C V bo cb w hb ho hN hL hcap hcm hnum hC hV hVM hbas hcb hcbm hc30 htab hg
    have IH := hid (ih (fun j hj => hdiv j (by omega)))
    obtain ⟨K, hK⟩ : ∃ K, K = 19 * 2 ^ c := ⟨_, rfl⟩
    have hLK : L = 2 * K := by rw [hL, hK, Nat.pow_succ]; omega
    have hKt : tens c = ((10 ^ K : Nat) : Int) := by rw [hK]; simp [tens]
    obtain ⟨ao', n', ca', f, hv, hr, hl, hf, hn, hvf, _⟩ := hnum
    cases hv
    obtain ⟨b, u, arr, fr, rfl, hbt, hbc, hbn⟩ := hbas c (by omega)
    obtain ⟨a1, n1, c1, f1, rfl, hr1, ht1, hl1, hf1, hn1, hvf1, _⟩ := hbn
    have hn1b : n1 ≤ 1073741824 := Nat.le_trans hn1 (Nat.pow_le_pow_right (n := 2) (by omega) (show c ≤ 30 by omega))
    have cd := hdiv c (by omega) V (by omega) hVM ao a1 n n1 ca c1 f f1 w (by omega) (by omega) hr hr1 hl hl1 hf hf1 hvf hvf1
    rw [hvf, hvf1, hKt] at cd
    have CD := hid cd; have HB := hid hbas; have HBk := hid hb; have HT := hid htab; have HV := hid hV
    have HK := hid hK
    clear cd hbas hb htab hV hr hl hf hvf hr1 ht1 hl1 hf1 hvf1 hKt ih hdiv hK hL hbt
    have hK1 : 1 ≤ K := by rw [HK.out]; have := Nat.pow_pos (n := c) (show 0 < 2 by omega); omega
    subst hLK
    unfold maxLen at hcbm
    go_enter Tryz.func120, Tryz.ntmps120
    go_wp2_with fail
    refine CD.out.mono ?_
    rintro e w1 ⟨q1, k1, e1, fq, q2, k2, e2, fr', rfl, hres1, hres2, hdv, hr0, hr1⟩
    have hq0 := vf_nonneg hres1.lm
    obtain ⟨H, hH⟩ : ∃ H : Nat, vf fq k1 = H := ⟨(vf fq k1).toNat, by omega⟩
    obtain ⟨R, hR⟩ : ∃ R : Nat, vf fr' k2 = R := ⟨(vf fr' k2).toNat, by omega⟩
    rw [hH, hR] at hdv
    rw [hR] at hr1
    have hVn : V = H * 10 ^ K + R := by exact_mod_cast hdv
    have hRl : R < 10 ^ K := by exact_mod_cast hr1
    have hHl : H < 10 ^ K := by
      have := HV.out
      rw [hVn, show 2 * K = K + K by omega, Nat.pow_add] at this
      apply Nat.lt_of_not_le; intro h
      have := Nat.mul_le_mul_right (10 ^ K) h
      omega
    have hHM : (H : Int) ≤ M := by
      have h1 : H * 1 ≤ H * 10 ^ K := Nat.mul_le_mul_left H (Nat.pow_pos (by omega))
      have h2 : H ≤ V := by omega
      omega
    have hRM : (R : Int) ≤ M := by
      have h2 : R ≤ V := by omega
      omega
    have N1 := hid (show Num w1 (.slice q1 k1 e1) n (H : Int) by have := hres1.num (by omega); rw [hH] at this; exact this)
    have N2 := hid (show Num w1 (.slice q2 k2 e2) (n + 1) (R : Int) by have := hres2.num (by omega); rw [hR] at this; exact this)
    have hb1 := hres1.bel
    have HBk1 := hid (HBk.out.below hb1 HBk.out.lt)
    have HB1 := hid ((HB.out.below hb1).take (show c ≤ c + 1 by omega))
    have HT1 := hid (HT.out.below hb1 HT.out.lt)
    have hon1 : Only g w w1 := Only.of_below hb1
    have HVn := hid hVn; have HRl := hid hRl; have HHl := hid hHl
    clear hVn hRl hHl hdv hr1 hr0 hH hR hq0 hres1 hres2 hb1 HBk HB HT CD HV hbc
    have hcut : 2 * (K : Int) / 2 = K := by omega
    have hne1 : ¬ (K = cap) := by omega
    have hne2 : ¬ (cap = K) := by omega
    have hne3 : ¬ (cap - K = 0) := by omega
    have h2K : 2 * K - K = K := by omega
    have H2K := hid h2K
    clear h2K
    have CA := hid (fun W (h1 : Blk .u8 5 W g N t) (h2 : Num W (.slice q1 k1 e1) n (H : Int)) (h3 : Bas W (some ⟨b, 0, none⟩) c) (h4 : Tab W) => IH.out g o K cap N t q1 k1 e1 n H (some ⟨b, 0, none⟩) cb W h1 (by omega) hN HK.out (by omega) hcm h2.nu (by omega) HHl.out hHM h3 (by omega) (by unfold maxLen; omega) (by omega) h4 hg)
    have CB := hid (fun t W (h1 : Blk .u8 5 W g N t) (h2 : Num W (.slice q2 k2 e2) (n + 1) (R : Int)) (h3 : Bas W (some ⟨b, 0, none⟩) c) (h4 : Tab W) => IH.out g (o + K) (2 * K - K) (cap - K) N t q2 k2 e2 (n + 1) R (some ⟨b, 0, none⟩) cb W h1 (by omega) hN (by rw [H2K.out]; exact HK.out) (by omega) (by omega) h2.nu (by omega) (by rw [H2K.out]; exact HRl.out) hRM h3 (by omega) (by unfold maxLen; omega) (by omega) h4 hg)
    clear IH
    go_wp2_with fail
    go_region_with (go_at_call 120; refine (CA.out _ (by exact HBk1.out) (by exact N1.out) (by exact HB1.out) (by exact HT1.out)).mono ?_; rintro e w2 ⟨rfl, hon2, t2, hb2, he2, hd2⟩)
    all_goals
      have hon2' : Only g w1 w2 := (Only.refl g w1).drew.trans hon2
      obtain ⟨curx, hgx, _, _⟩ := id HBk1.out
      have N2' := hid (N2.out.only hon2' hgx (by decide))
      have HB2' := hid (HB1.out.only hon2' hgx (by decide) (by decide))
      have HT2' := hid (HT1.out.only hon2' hg)
      have HE2 := hid he2; have HD2 := hid hd2; have HBk2 := hid hb2
      clear he2 hd2 hb2 hgx hon2
      go_wp2_with fail
      go_region_with (go_at_call 120; refine (CB.out t2 _ (by exact HBk2.out) (by exact N2'.out) (by exact HB2'.out) (by exact HT2'.out)).mono ?_; rintro e w3 ⟨rfl, hon3, t3, hb3, he3, hd3⟩)
      all_goals
        have HE3 := hid he3; have HD3 := hid hd3; have HBk3 := hid hb3
        clear he3 hd3 hb3
        go_wp2
        refine bodyPost_end (v := .tuple #[]) (results_none rfl _ _ _) rfl ⟨rfl, (hon1.trans hon2').drew.trans hon3, t3, HBk3.out, fun j hj => ?_, fun j hj => ?_⟩
        · exact (HE3.out j (by omega)).trans (HE2.out j (by omega))
        · by_cases hjk : j < K
          · rw [HE3.out _ (by omega), HD2.out j hjk, dgi_hi HVn.out HRl.out]
            congr 1; omega
          · have e1 := HD3.out (j - K) (by omega)
            rw [show o + K + (j - K) = o + j by omega] at e1
            rw [e1, H2K.out, dgi_lo HVn.out _ (by omega)]
            congr 1; omega
end Go.Proofs.YtlpmfmphglgocaaGreatDoor
namespace Go.Proofs.YtlpmfmphglgocaaGreatDoor
open Go.RowKit

/-- The trimmed list. -/
theorem trim_vald {f : Nat → Int} {m n : Nat} (hm : m ≤ n) (hz : ∀ j, m ≤ j → j < n → f j = 0) : vd f m = vd f n := (vd_ext hm hz).symm
end Go.Proofs.YtlpmfmphglgocaaGreatDoor
namespace Go.Proofs.YtlpmfmphglgocaaGreatDoor
open Go.RowKit

set_option maxHeartbeats 1000000 in
theorem trimByte_c (g o L cap k0 : Nat) (t : Nat → Int) (w : World) (hr : Rd .u8 w (some ⟨g, o, none⟩) L t) (hL : L ≤ cap) (hk0 : k0 < L) (hz : ∀ j, j < k0 → t j = 48) (hnz : t k0 ≠ 48) :
    Calls Tryz.prog 153 #[.slice (some ⟨g, o, none⟩) L cap, .int .u8 48] w fun e w' => e = .returned (.slice (some ⟨g, o + k0, none⟩) (L - k0) (cap - k0)) ∧ w' = w := by
  have HZ := hid hz
  clear hz
  go_enter Tryz.func153, Tryz.ntmps153
  go_wp2
  go_loop [0] (fun v => ∃ k : Nat, k ≤ k0 ∧ v = .slice (some ⟨g, o + k, none⟩) (L - k) (cap - k)) (fun v => match v with | .slice _ n _ => n | _ => 0)
  case atStart => exact ⟨0, by omega, rfl⟩
  case round =>
    obtain ⟨k, hk, rfl⟩ := hrel
    obtain ⟨x, hx⟩ : ∃ x, t k = x := ⟨_, rfl⟩
    have hcell : w.cell? ⟨g, o + k, none⟩ = some (.int .u8 x) := by rw [← hx]; exact hr.cell (by omega)
    have hpos : (0 : Int) < ((L - k : Nat) : Int) := by omega
    by_cases hkk : k < k0
    · have hx48 : x = 48 := by rw [← hx]; exact HZ.out k hkk
      subst hx48
      clear hx hr
      have hne : ¬ (1 = cap - k) := by omega
      have hne2 : ¬ (cap - k = 1) := by omega
      have hone : (1 : Int) ≤ ((L - k : Nat) : Int) := by omega
      go_wp2
      go_round
      case rel => exact ⟨k + 1, by omega, by simp only [Value.slice.injEq, Option.some.injEq, Addr.mk.injEq]; exact ⟨⟨trivial, by omega, trivial⟩, by omega, by omega⟩⟩
      case measure => simp; omega
    · obtain rfl : k = k0 := by omega
      have hx1 : (x == 48) = false := by rw [← hx]; simp [hnz]
      have hne0 : (((L - k : Nat) : Int) == 0) = false := by simp; omega
      clear hx hr hnz
      go_wp2
      go_ret
      exact ⟨rfl, rfl⟩

set_option maxRecDepth 100000 in
set_option maxHeartbeats 1000000 in
theorem trimLeft_c (g o L cap k0 : Nat) (t : Nat → Int) (w : World) (hr : Rd .u8 w (some ⟨g, o, none⟩) L t) (hL : L ≤ cap) (hk0 : k0 < L) (hz : ∀ j, j < k0 → t j = 48) (hnz : t k0 ≠ 48) :
    Calls Tryz.prog 122 #[.slice (some ⟨g, o, none⟩) L cap, .string ⟨#[48]⟩] w fun e w' => e = .returned (.slice (some ⟨g, o + k0, none⟩) (L - k0) (cap - k0)) ∧ w' = w := by
  have C := hid (trimByte_c g o L cap k0 t w hr hL hk0 hz hnz)
  have h0 : ((L : Int) == 0) = false := by simp; omega
  clear hr hz hnz
  go_enter Tryz.func122, Tryz.ntmps122
  go_wp2_with fail
  refine C.out.mono ?_
  rintro e w1 ⟨rfl, rfl⟩
  go_wp2
  go_ret
  exact ⟨rfl, rfl⟩

theorem lev_ge (n : Nat) (hn : n ≤ 18446744073709551616) : n ≤ 2 ^ lev n := by
  unfold lev
  by_cases h : n ≤ 1
  · rw [if_pos h]; simpa using h
  · rw [if_neg h]
    have := (bitLen_bounds _ (n - 1) rfl (by omega) (by omega)).2.2
    omega
theorem lev_le (n k : Nat) (hk : k ≤ 64) (h : n ≤ 2 ^ k) : lev n ≤ k := by
  unfold lev
  split
  · omega
  · exact Lib.bitLen_le (n - 1) k hk (by omega)
theorem dgi_top {V : Nat} (hV : 0 < V) : dgi V (Lib.nDigits V - 1) ≠ 48 := by
  have h1 : ∀ (k V : Nat), 0 < V → Lib.nDigits V = k + 1 → V / 10 ^ k % 10 ≠ 0 := by
    intro k
    induction k with
    | zero =>
      intro V hV h
      by_cases hu : V < 10
      · simp; omega
      · rw [Lib.nDigits_big hu] at h; have := Lib.nDigits_pos (V / 10); omega
    | succ k ih =>
      intro V hV h
      by_cases hu : V < 10
      · rw [Lib.nDigits_small hu] at h; omega
      · rw [Lib.nDigits_big hu] at h
        have := ih (V / 10) (by omega) (by omega)
        rw [Nat.div_div_eq_div_mul, ← Nat.pow_succ'] at this
        exact this
  have hp := Lib.nDigits_pos V
  have := h1 (Lib.nDigits V - 1) V hV (by omega)
  unfold dgi
  omega
/-- A number of n limbs has room in so many pieces. -/
theorem room_pieces {n p c : Nat} {V : Int} (hV : V < pw n) (hp : 64 * n ≤ 63 * p) (hc : p ≤ 2 ^ c) : V < ((10 ^ (19 * 2 ^ c) : Nat) : Int) := by
  have h1 : pw n = ((2 ^ (64 * n) : Nat) : Int) := by
    clear hV hp
    induction n with
    | zero => rfl
    | succ n ih => rw [pw_succ, ih, Nat.mul_add, Nat.pow_add]; simp; omega
  have h2 : 2 ^ (64 * n) ≤ 2 ^ (63 * p) := Nat.pow_le_pow_right (by omega) hp
  have h3 : 2 ^ (63 * p) ≤ 10 ^ (19 * p) := by
    rw [Nat.pow_mul, Nat.pow_mul]; exact Nat.pow_le_pow_left (by decide) p
  have h4 : 10 ^ (19 * p) ≤ 10 ^ (19 * 2 ^ c) := Nat.pow_le_pow_right (by omega) (Nat.mul_le_mul_left 19 hc)
  omega
theorem cv_text {P : Program} (w : World) (tB tS tE : TypeId) (g o cap : Nat) (t : Nat → Int) (V : Nat) (h1 : P.underlying tB = some (.slice tE)) (h2 : P.underlying tE = some (.int .u8)) (h3 : P.underlying tS = some .string) (hr : Rd .u8 w (some ⟨g, o, none⟩) (Lib.nDigits V) t) (ht : ∀ j, j < Lib.nDigits V → t j = dgi V (Lib.nDigits V - 1 - j)) :
    (convert tB tS (.slice (some ⟨g, o, none⟩) (Lib.nDigits V) cap)).run P w = .ok (.string ⟨(Lib.decDigits V).toArray⟩) w := by
  have h := run_convert_bytes_back (P := P) w tB tS tE ⟨g, o, none⟩ cap (Lib.decDigits V) h1 h2 h3 (fun j hj => by
    rw [Lib.decDigits_length] at hj
    have e := byt_dec V j hj
    have hc := hr.cell hj
    rw [ht j hj, ← e] at hc
    rw [Lib.add_plain, hc]
    unfold byt
    rw [List.getD_eq_getElem?_getD, List.getElem?_eq_getElem (by rw [Lib.decDigits_length]; exact hj)]
    rfl)
  rw [Lib.decDigits_length] at h
  exact h

set_option maxRecDepth 100000 in
set_option maxHeartbeats 2000000 in
/-- digits: the decimal digits. -/
theorem digits_c (ao : Option Addr) (n ca c : Nat) (f : Nat → Int) (V : Nat) (w : World) (hn : n ≤ 4096) (hr : Rd .u64 w ao n f) (hf : Lm f n) (ff : Fm f n) (hV : vf f n = V) (htab : Tab w) (hc : c = lev ((64 * n + 62) / 63)) (hca : n ≤ ca) (hcam : ca ≤ 9223372036854775807) (hdiv : ∀ j, j < c → ∀ X, 0 ≤ X → X ≤ (V : Int) → DivOk X (tens j)) :
    Calls Tryz.prog 97 #[.slice ao n ca] w fun e w' => e = .returned (.string ⟨(Lib.decDigits V).toArray⟩) ∧ Below w.heap.size w w' := by
  by_cases h0 : n = 0
  · subst h0
    have hV0 : V = 0 := by simp [vf] at hV; omega
    have E := hid (show Lib.decDigits V = [48] by rw [hV0, Lib.decDigits_one (by omega)]; rfl)
    clear hr hf ff hV hdiv
    go_enter Tryz.func97, Tryz.ntmps97
    go_wp2
    go_ret
    exact ⟨by rw [E.out]; rfl, Below.refl _ _⟩
  · have hVp : 0 < V := by
      have := vf_form_ge hf ff (by omega); have := pw_pos (n - 1); omega
    obtain ⟨p, hp⟩ : ∃ p, p = (64 * n + 62) / 63 := ⟨_, rfl⟩
    have hp1 : 1 ≤ p := by omega
    have hp2 : p ≤ 8192 := by omega
    rw [← hp] at hc
    have hc13 : c ≤ 13 := by rw [hc]; exact lev_le p 13 (by omega) (by omega)
    have hpc : p ≤ 2 ^ c := by rw [hc]; exact lev_ge p (by omega)
    obtain ⟨K, hK⟩ : ∃ K, K = 19 * 2 ^ c := ⟨_, rfl⟩
    have h2c : 2 ^ c ≤ 8192 := Nat.pow_le_pow_right (n := 2) (by omega) hc13
    have h2c1 : 1 ≤ 2 ^ c := Nat.pow_pos (by omega)
    have hKb : K ≤ 155648 := by omega
    have hK1 : 19 ≤ K := by omega
    have hVK : V < 10 ^ K := by
      have := room_pieces (n := n) (p := p) (c := c) (V := (V : Int)) (by rw [← hV]; exact vf_lt hf) (by omega) hpc
      rw [← hK] at this
      exact_mod_cast this
    have hnd := nDigits_le hVK (by omega)
    have hndp := Lib.nDigits_pos V
    have hsh : IntKind.i64.wrap (19 * 2 ^ c) = (K : Int) := by
      have : (19 * 2 ^ c : Int) = K := by rw [hK]; simp
      rw [this, IntKind.wrap_i64]; omega
    have C1 := hid (fun (z : Int) hz W => levels_c p z W hz (by omega))
    have C2 := hid (fun W => bases_c c W (by omega))
    have HNum := hid (show Nu w (.slice ao n ca) n (V : Int) from ⟨ao, n, ca, f, rfl, hr, hf, ff, Nat.le_refl _, hV, hca, hcam⟩)
    have HDv := hid hdiv; have HP := hid hp; have HC := hid hc; have HKK := hid hK; have HVK := hid hVK; have HT := hid htab
    have hhi : ((n : Int) * 64 + 63 - 1) / 63 = (p : Int) := by rw [hp]; omega
    clear hdiv hr hf ff hV hp hc hK hVK htab hpc h2c h2c1
    have h0i : ((n : Int) == 0) = false := by simp; omega
    go_enter Tryz.func97, Tryz.ntmps97
    go_wp2_with fail
    refine (C1.out _ rfl _).mono ?_
    rintro e w1 ⟨rfl, rfl⟩
    rw [← HC.out]
    clear C1
    go_wp2_with (at_make; refine wpList_make_blk .u8 w1 rfl (.tmp 16) (.tmp 16) 128 rfl 5 1 Tryz.underlying128 Tryz.infoU8 .i64 .i64 K K K rfl rfl rfl rfl (by omega) (by unfold maxLen; omega) ?_; intro w2 hb2 hbel2)
    have HBk2 := hid hb2
    have HNum2 := hid (HNum.out.below hbel2)
    have HT2 := hid (HT.out.below hbel2 HT.out.lt)
    clear hb2
    refine (C2.out _).mono ?_
    rintro e w3 ⟨bo, cap, rfl, hbel3, hcap, hcapm, _, hbas⟩
    have HBk3 := hid (HBk2.out.below hbel3 HBk2.out.lt)
    have HNum3 := hid (HNum2.out.below hbel3)
    have HT3 := hid (HT2.out.below hbel3 HT2.out.lt)
    have HBas := hid hbas
    have hgl : 5 < w1.heap.size := HT.out.lt
    clear C2 HBk2 HNum2 HT2 hbas
    go_wp2_with fail
    refine (putDigits_c V c HDv.out w1.heap.size 0 K K K (fun _ => 0) ao n ca n V bo cap w3 HBk3.out (by omega) (by omega) HKK.out (Nat.le_refl _) (by omega) HNum3.out (by omega) HVK.out (Int.le_refl _) HBas.out hcap hcapm (by omega) HT3.out hgl).mono ?_
    rintro e w4 ⟨rfl, hon4, t, hb4, he4, hd4⟩
    have hd5 : ∀ j, j < K → t j = dgi V (K - 1 - j) := fun j hj => by have := hd4 j hj; rwa [Nat.zero_add] at this
    have HBk4 := hid hb4; have HD := hid hd5
    have hbel4 : Below w1.heap.size w1 w4 := below_only (hbel2.trans (hbel3.mono hbel2.size)) hon4 (Nat.le_refl _) (Nat.le_trans hbel2.size hbel3.size)
    clear he4 hd4 hd5 hb4 HBk3 HNum3 HT3 HBas hon4 hbel3 hbel2 HNum HT
    obtain ⟨k0, hk0⟩ : ∃ k0, k0 = K - Lib.nDigits V := ⟨_, rfl⟩
    have hk1 : K - k0 = Lib.nDigits V := by omega
    have hk2 : k0 < K := by omega
    have hrd := HBk4.out.rd0 (Nat.le_refl _)
    have c5 := (trimLeft_c w1.heap.size 0 K K k0 t w4 hrd (Nat.le_refl _) hk2 (fun j hj => by rw [HD.out j (by omega)]; exact dgi_front (by omega)) (by rw [HD.out k0 hk2, show K - 1 - k0 = Lib.nDigits V - 1 by omega]; exact dgi_top hVp))
    rw [Nat.zero_add] at c5
    have C5 := hid c5
    clear c5
    have hcv := cv_text (P := Tryz.prog) w4 128 9 5 w1.heap.size (0 + k0) (K - k0) (sh t k0) V Tryz.underlying128 Tryz.underlying5 Tryz.underlying9 (by have := hrd.drop (i := k0) (m := Lib.nDigits V) (by omega); exact this) (fun j hj => by rw [sh_at, HD.out _ (by omega)]; congr 1; omega)
    rw [← hk1, Nat.zero_add] at hcv
    clear hrd hk0 hk1
    go_wp2_with fail
    refine C5.out.mono ?_
    rintro e w5 ⟨rfl, rfl⟩
    go_wp2
    go_ret
    exact ⟨rfl, hbel4⟩
end Go.Proofs.YtlpmfmphglgocaaGreatDoor
namespace Go.Proofs.YtlpmfmphglgocaaGreatDoor
open Go.RowKit

set_option maxHeartbeats 400000 in
theorem rform_c (ao : Option Addr) (n cap : Nat) (f : Nat → Int) (w : World) (hm : n ≤ 9223372036854775807) (hr : Rd .u64 w ao n f) :
    Calls Tryz.prog 113 #[.slice ao n cap] w fun e w' => e = .returned (.bool (fmB f n)) ∧ w' = w := by
  by_cases h0 : n = 0
  · subst h0
    have e : fmB f 0 = true := by simp [fmB]
    go_enter Tryz.func113, Tryz.ntmps113
    go_wp2
    go_ret
    exact ⟨by rw [e]; rfl, rfl⟩
  · obtain ⟨b, o, rfl⟩ := hr.at (by omega)
    obtain ⟨x, hx⟩ : ∃ x, f (n - 1) = x := ⟨_, rfl⟩
    have hc : w.cell? ⟨b, o + (n - 1), none⟩ = some (.int .u64 x) := by rw [← hx]; exact hr.cell (by omega)
    have h1 : ((n : Int) == 0) = false := by simp; omega
    have e : fmB f n = (x != 0) := by simp [fmB, h0, hx, bne]; rfl
    have E := hid e
    clear hr hx e
    go_enter Tryz.func113, Tryz.ntmps113
    go_wp2
    go_ret
    exact ⟨by rw [E.out]; rfl, rfl⟩

end Go.Proofs.YtlpmfmphglgocaaGreatDoor
namespace Go.Proofs.YtlpmfmphglgocaaGreatDoor
open Go.RowKit

set_option maxHeartbeats 1000000 in
theorem Text_u (ao : Option Addr) (n ca c : Nat) (f : Nat → Int) (V : Nat) (w : World) (hn : n ≤ 4096) (hr : Rd .u64 w ao n f) (hf : Lm f n) (ff : Fm f n) (hV : vf f n = V) (htab : Tab w) (hc : c = lev ((64 * n + 62) / 63)) (hca : n ≤ ca) (hcam : ca ≤ 9223372036854775807) (hdiv : ∀ j, j < c → ∀ X, 0 ≤ X → X ≤ (V : Int) → DivOk X (tens j)) :
    Calls Tryz.prog 62 #[.slice ao n ca] w fun e w' => e = .returned (.tuple #[.string ⟨(Lib.decDigits V).toArray⟩, .int .i64 0]) ∧ Below w.heap.size w w' := by
  have c1 := form_c ao n ca f w (by omega) hr
  rw [(fmB_iff f n).2 ff] at c1
  have C1 := hid c1
  have C2 := hid (digits_c ao n ca c f V w hn hr hf ff hV htab hc hca hcam hdiv)
  clear c1 hr hf ff hV htab hc hdiv
  go_enter Tryz.func62, Tryz.ntmps62
  go_wp2_with fail
  refine C1.out.mono ?_
  rintro e w1 ⟨rfl, rfl⟩
  go_wp2_with fail
  refine C2.out.mono ?_
  rintro e w1 ⟨rfl, hb⟩
  go_wp2
  go_ret2
  exact ⟨rfl, hb⟩

end Go.Proofs.YtlpmfmphglgocaaGreatDoor
namespace Go.Proofs.YtlpmfmphglgocaaGreatDoor
open Go.RowKit

theorem frozen_alloc_some (w : World) (a : Addr) (o : Obj) (h : (w.cell? a).isSome = true) : (w.alloc o).frozen? a = w.frozen? a := by
  obtain ⟨u, hu⟩ := Option.isSome_iff_exists.1 h
  exact World.frozen?_alloc_old _ _ _ (Nat.ne_of_lt (World.block_lt_of_cell? w a hu))
theorem kFa {w : World} {a : Addr} {o : Obj} (h : (w.cell? a).isSome = true) (h2 : w.frozen? a = false) : (w.alloc o).frozen? a = false := (frozen_alloc_some w a o h).trans h2
theorem boxes4 {w w1 : World} {a0 a1 b0 b1 c0 c1 d0 d1 : Value} {t : TypeId} (hb : Below ((((w.alloc (.cells #[a0, a1] t)).alloc (.cells #[b0, b1] t)).alloc (.cells #[c0, c1] t)).alloc (.cells #[d0, d1] t)).heap.size ((((w.alloc (.cells #[a0, a1] t)).alloc (.cells #[b0, b1] t)).alloc (.cells #[c0, c1] t)).alloc (.cells #[d0, d1] t)) w1) :
    B4 w w1 a0 a1 b0 b1 c0 c1 d0 d1 ∧ Below w.heap.size w w1 := by
  obtain ⟨h1, h2⟩ := bcell hb
  have hz := hb.size
  simp at hz
  refine ⟨⟨by omega, (h1 _ _ (by first | omega | (simp; done) | (simp; omega))).trans (by simp [go_sem]), (h1 _ _ (by first | omega | (simp; done) | (simp; omega))).trans (by simp [go_sem]), (h1 _ _ (by first | omega | (simp; done) | (simp; omega))).trans (by simp [go_sem]), (h1 _ _ (by first | omega | (simp; done) | (simp; omega))).trans (by simp [go_sem]), (h1 _ _ (by simp)).trans (by simp [go_sem]), (h1 _ _ (by simp)).trans (by simp [go_sem]), (h1 _ _ (by simp)).trans (by simp [go_sem]), (h1 _ _ (by simp)).trans (by simp [go_sem]), fun o => (h2 _ _ (by simp)).trans ?_, fun o => (h2 _ _ (by simp)).trans ?_⟩, ?_⟩
  · have e := heap_alloc_new ((w.alloc (.cells #[a0, a1] t)).alloc (.cells #[b0, b1] t)) (.cells #[c0, c1] t)
    rw [size_alloc1, size_alloc1] at e
    have e2 := (Below.heap_alloc (((w.alloc (.cells #[a0, a1] t)).alloc (.cells #[b0, b1] t)).alloc (.cells #[c0, c1] t)) (.cells #[d0, d1] t) (w.heap.size + 1 + 1) (by simp)).trans e
    simp only [World.frozen?, e2]; simp
  · have e := heap_alloc_new (((w.alloc (.cells #[a0, a1] t)).alloc (.cells #[b0, b1] t)).alloc (.cells #[c0, c1] t)) (.cells #[d0, d1] t)
    rw [size_alloc1, size_alloc1, size_alloc1] at e
    simp only [World.frozen?, e]; simp
  exact (below_alloc (below_alloc (below_alloc (below_alloc (Below.refl w.heap.size w) _) _) _) _).trans (hb.mono (by simp; omega))
theorem keep4 {w w1 w2 : World} {a0 a1 b0 b1 c0 c1 d0 d1 : Value} (hb : Below w1.heap.size w1 w2) (h : B4 w w1 a0 a1 b0 b1 c0 c1 d0 d1) (hw : Below w.heap.size w w1) : B4 w w2 a0 a1 b0 b1 c0 c1 d0 d1 ∧ Below w.heap.size w w2 := by
  obtain ⟨h1, h2⟩ := bcell hb
  have hz := hb.size
  obtain ⟨z, a, b, c, d, e, f, g, i, j, k⟩ := h
  exact ⟨⟨by omega, (h1 _ _ (by omega)).trans a, (h1 _ _ (by omega)).trans b, (h1 _ _ (by omega)).trans c, (h1 _ _ (by omega)).trans d, (h1 _ _ (by omega)).trans e, (h1 _ _ (by omega)).trans f, (h1 _ _ (by omega)).trans g, (h1 _ _ (by omega)).trans i, fun o => (h2 _ _ (by omega)).trans (j o), fun o => (h2 _ _ (by omega)).trans (k o)⟩, hw.trans (hb.mono hw.size)⟩

/-- Quotient and rest of whole numbers: the quotient rounded down. -/
def Flr (a b q r : Int) : Prop := a = q * b + r ∧ (0 < b ∧ 0 ≤ r ∧ r < b ∨ b < 0 ∧ b < r ∧ r ≤ 0)
/-- What Divide answers. -/
def WDiv (s t : Bool) (n m : Nat) (f h : Nat → Int) (r1 r2 : Bool) (k1 k2 : Nat) (q r : Nat → Int) (er : Int) : Prop :=
  W2 s f n t h m ∧ 0 < m ∧ er = 0 ∧ Flr (wv s f n) (wv t h m) (wv r1 q k1) (wv r2 r k2) ∨ W2 s f n t h m ∧ m = 0 ∧ er = 4 ∧ k1 = 0 ∧ k2 = 0 ∨ ¬ W2 s f n t h m ∧ er = 3 ∧ k1 = 0 ∧ k2 = 0
theorem flr_plain (s t : Bool) (A B Q R : Int) (h : A = Q * B + R) (h0 : 0 ≤ R) (h1 : R < B) (hs : s = t ∨ R = 0) :
    Flr (if s then -A else A) (if t then -B else B) (if (!(s == t)) then -Q else Q) (if t then -R else R) := by
  subst h
  cases s <;> cases t
  · show Flr (Q * B + R) B Q R
    exact ⟨rfl, .inl ⟨by omega, h0, h1⟩⟩
  · have hR : R = 0 := by simpa using hs
    subst hR
    show Flr (Q * B + 0) (-B) (-Q) (-0)
    exact ⟨by rw [Int.neg_mul_neg]; omega, .inr ⟨by omega, by omega, by omega⟩⟩
  · have hR : R = 0 := by simpa using hs
    subst hR
    show Flr (-(Q * B + 0)) B (-Q) 0
    exact ⟨by rw [Int.neg_mul]; omega, .inl ⟨by omega, by omega, by omega⟩⟩
  · show Flr (-(Q * B + R)) (-B) Q (-R)
    exact ⟨by rw [Int.mul_neg]; omega, .inr ⟨by omega, by omega, by omega⟩⟩
theorem flr_down (s t : Bool) (A B Q R : Int) (h : A = Q * B + R) (h0 : 0 < R) (h1 : R < B) (hs : (s == t) = false) :
    Flr (if s then -A else A) (if t then -B else B) (if (!(s == t)) then -(Q + 1) else (Q + 1)) (if t then -(B - R) else (B - R)) := by
  subst h
  cases s <;> cases t
  · cases hs
  · show Flr (Q * B + R) (-B) (-(Q + 1)) (-(B - R))
    exact ⟨by rw [Int.neg_mul_neg, Int.add_mul]; omega, .inr ⟨by omega, by omega, by omega⟩⟩
  · show Flr (-(Q * B + R)) B (-(Q + 1)) (B - R)
    exact ⟨by rw [Int.neg_mul, Int.add_mul]; omega, .inl ⟨by omega, by omega, by omega⟩⟩
  · cases hs

theorem flr_w {s t b : Bool} {n m k1 k2 : Nat} {f h q r : Nat → Int} (hb : b = !(s == t)) (hv : vf f n = vf q k1 * vf h m + vf r k2) (h0 : 0 ≤ vf r k2) (h1 : vf r k2 < vf h m) (hs : s = t ∨ vf r k2 = 0) : Flr (wv s f n) (wv t h m) (wv b q k1) (wv t r k2) := by
  subst hb
  exact flr_plain s t _ _ _ _ hv h0 h1 hs
theorem flr_w2 {s t b : Bool} {n m k1 k2 k3 k4 : Nat} {f h q r q' r' : Nat → Int} (hb : b = !(s == t)) (hv : vf f n = vf q k1 * vf h m + vf r k2) (h0 : 0 < vf r k2) (h1 : vf r k2 < vf h m) (hs : (s == t) = false) (hq : vf q' k3 = vf q k1 + 1) (hr : vf r' k4 = vf h m - vf r k2) : Flr (wv s f n) (wv t h m) (wv b q' k3) (wv t r' k4) := by
  subst hb
  have := flr_down s t _ _ _ _ hv h0 h1 hs
  rw [← hq, ← hr] at this
  exact this

set_option maxRecDepth 100000 in
set_option maxHeartbeats 20000000 in
theorem wDivide_cA (s t : Bool) (ao bo : Option Addr) (n m ca cb : Nat) (f h : Nat → Int) (w : World) (hn : n ≤ 4398046511104) (hm : m ≤ 4398046511104) (hr : Rd .u64 w ao n f) (hs : Rd .u64 w bo m h) (hf : Lm f n) (hh : Lm h m) :
    Calls Tryz.prog 57 #[.agg #[.bool s, .slice ao n ca], .agg #[.bool t, .slice bo m cb]] w fun e w' => ∃ r1 a1 k1 c1 q r2 a2 k2 c2 r er, e = .returned (.tuple #[.agg #[.bool r1, .slice a1 k1 c1], .agg #[.bool r2, .slice a2 k2 c2], .int .i64 er]) ∧ WRes (n + 2) w w' r1 a1 k1 c1 q ∧ WRes (n + m + 1) w w' r2 a2 k2 c2 r ∧ WDiv s t n m f h r1 r2 k1 k2 q r er ∧ Apart a1 a2 := by
  have HR := hid hr; have HS := hid hs; have HF := hid hf; have HH := hid hh
  clear hr hs hf hh
  cases hfa : wfB s f n
  · have c1 := fun W hr' => wForm_c s ao n ca f W (by omega) hr'
    rw [hfa] at c1
    have C1 := hid c1; have HN := hid hfa
    clear c1 hfa
    go_enter Tryz.func57, Tryz.ntmps57
    go_wp2_with fail
    refine (C1.out _ ((((HR.out.alloc _).alloc _).alloc _).alloc _)).mono ?_
    rintro e w1 ⟨rfl, hb⟩
    obtain ⟨⟨hz, x0, x1, y0, y1, c0, c1, d0, d1, cf, df⟩, hw⟩ := boxes4 hb
    have HW := hid hw
    clear hb hw
    go_wp2
    refine bodyPost_ret (v := .tuple #[.agg #[.bool false, .slice none 0 0], .agg #[.bool false, .slice none 0 0], .int .i64 3]) (by simp [results, Tryz.results57, go_sem, c0, c1, d0, d1]) rfl ⟨false, none, 0, 0, f, false, none, 0, 0, f, 3, rfl, ⟨Asw.none f ?_, fun h => by cases h⟩, ⟨Asw.none f ?_, fun h => by cases h⟩, .inr (.inr ⟨(fun x => by have := HN.out.symm.trans x.1; cases this), rfl, rfl, rfl⟩), apart_none _⟩
    all_goals exact below_turned HW.out HW.out.size (((((Turned.refl _ (w.heap.size + 1 + 1 + 1 + 1) _).set (by first | omega | (simp; done) | (simp; omega)) (by first | omega | (simp; done) | (simp; omega)) _).set (by first | omega | (simp; done) | (simp; omega)) (by first | omega | (simp; done) | (simp; omega)) _).set (by first | omega | (simp; done) | (simp; omega)) (by first | omega | (simp; done) | (simp; omega)) _).set (by first | omega | (simp; done) | (simp; omega)) (by first | omega | (simp; done) | (simp; omega)) _) (Nat.le_refl _)
  · have c1 := fun W hr' => wForm_c s ao n ca f W (by omega) hr'
    rw [hfa] at c1
    have C1 := hid c1; have HA := hid hfa
    clear c1 hfa
    cases hfb : wfB t h m
    · have c2 := fun W hr' => wForm_c t bo m cb h W (by omega) hr'
      rw [hfb] at c2
      have C2 := hid c2; have HN := hid hfb
      clear c2 hfb
      go_enter Tryz.func57, Tryz.ntmps57
      go_wp2_with fail
      refine (C1.out _ ((((HR.out.alloc _).alloc _).alloc _).alloc _)).mono ?_
      rintro e w1 ⟨rfl, hb⟩
      obtain ⟨⟨hz, x0, x1, y0, y1, c0, c1, d0, d1, cf, df⟩, hw⟩ := boxes4 hb
      have HW0 := hid hw
      clear hb hw
      go_wp2_with fail
      refine (C2.out _ (HS.out.below HW0.out (Nat.le_refl _))).mono ?_
      rintro e w2 ⟨rfl, hb⟩
      obtain ⟨⟨hz, x0, x1, y0, y1, c0, c1, d0, d1, cf, df⟩, hw⟩ := keep4 hb ⟨hz, x0, x1, y0, y1, c0, c1, d0, d1, cf, df⟩ HW0.out
      have HW := hid hw
      clear hb hw
      go_wp2
      refine bodyPost_ret (v := .tuple #[.agg #[.bool false, .slice none 0 0], .agg #[.bool false, .slice none 0 0], .int .i64 3]) (by simp [results, Tryz.results57, go_sem, c0, c1, d0, d1]) rfl ⟨false, none, 0, 0, f, false, none, 0, 0, f, 3, rfl, ⟨Asw.none f ?_, fun h => by cases h⟩, ⟨Asw.none f ?_, fun h => by cases h⟩, .inr (.inr ⟨(fun x => by have := HN.out.symm.trans x.2; cases this), rfl, rfl, rfl⟩), apart_none _⟩
      all_goals exact below_turned HW.out HW.out.size (((((Turned.refl _ (w.heap.size + 1 + 1 + 1 + 1) _).set (by first | omega | (simp; done) | (simp; omega)) (by first | omega | (simp; done) | (simp; omega)) _).set (by first | omega | (simp; done) | (simp; omega)) (by first | omega | (simp; done) | (simp; omega)) _).set (by first | omega | (simp; done) | (simp; omega)) (by first | omega | (simp; done) | (simp; omega)) _).set (by first | omega | (simp; done) | (simp; omega)) (by first | omega | (simp; done) | (simp; omega)) _) (Nat.le_refl _)
    · have c2 := fun W hr' => wForm_c t bo m cb h W (by omega) hr'
      rw [hfb] at c2
      have C2 := hid c2; have HB := hid hfb
      clear c2 hfb
      by_cases hm0 : m = 0
      · subst hm0
        go_enter Tryz.func57, Tryz.ntmps57
        go_wp2_with fail
        refine (C1.out _ ((((HR.out.alloc _).alloc _).alloc _).alloc _)).mono ?_
        rintro e w1 ⟨rfl, hb⟩
        obtain ⟨⟨hz, x0, x1, y0, y1, c0, c1, d0, d1, cf, df⟩, hw⟩ := boxes4 hb
        have HW0 := hid hw
        clear hb hw
        go_wp2_with fail
        refine (C2.out _ (HS.out.below HW0.out (Nat.le_refl _))).mono ?_
        rintro e w2 ⟨rfl, hb⟩
        obtain ⟨⟨hz, x0, x1, y0, y1, c0, c1, d0, d1, cf, df⟩, hw⟩ := keep4 hb ⟨hz, x0, x1, y0, y1, c0, c1, d0, d1, cf, df⟩ HW0.out
        have HW := hid hw
        clear hb hw
        go_wp2
        refine bodyPost_ret (v := .tuple #[.agg #[.bool false, .slice none 0 0], .agg #[.bool false, .slice none 0 0], .int .i64 4]) (by simp [results, Tryz.results57, go_sem, c0, c1, d0, d1]) rfl ⟨false, none, 0, 0, f, false, none, 0, 0, f, 4, rfl, ⟨Asw.none f ?_, fun h => by cases h⟩, ⟨Asw.none f ?_, fun h => by cases h⟩, .inr (.inl ⟨⟨HA.out, HB.out⟩, rfl, rfl, rfl, rfl⟩), apart_none _⟩
        all_goals exact below_turned HW.out HW.out.size (((((Turned.refl _ (w.heap.size + 1 + 1 + 1 + 1) _).set (by first | omega | (simp; done) | (simp; omega)) (by first | omega | (simp; done) | (simp; omega)) _).set (by first | omega | (simp; done) | (simp; omega)) (by first | omega | (simp; done) | (simp; omega)) _).set (by first | omega | (simp; done) | (simp; omega)) (by first | omega | (simp; done) | (simp; omega)) _).set (by first | omega | (simp; done) | (simp; omega)) (by first | omega | (simp; done) | (simp; omega)) _) (Nat.le_refl _)
      · have hmi : ((m : Int) == 0) = false := by simp; omega
        go_enter Tryz.func57, Tryz.ntmps57
        go_wp2_with fail
        refine (C1.out _ ((((HR.out.alloc _).alloc _).alloc _).alloc _)).mono ?_
        rintro e w1 ⟨rfl, hb⟩
        obtain ⟨⟨hz, x0, x1, y0, y1, c0, c1, d0, d1, cf, df⟩, hw⟩ := boxes4 hb
        have HW0 := hid hw
        clear hb hw
        go_wp2_with fail
        refine (C2.out _ (HS.out.below HW0.out (Nat.le_refl _))).mono ?_
        rintro e w2 ⟨rfl, hb⟩
        obtain ⟨⟨hz, x0, x1, y0, y1, c0, c1, d0, d1, cf, df⟩, hw⟩ := keep4 hb ⟨hz, x0, x1, y0, y1, c0, c1, d0, d1, cf, df⟩ HW0.out
        have HW := hid hw
        clear hb hw
        have hzw0 : w.heap.size + 1 + 1 + 1 < w2.heap.size := hz
        go_wp2_with fail
        refine (DivMod_cA ao bo n m ca cb f h _ (by omega) (by omega) (HR.out.below HW.out (Nat.le_refl _)) (HS.out.below HW.out (Nat.le_refl _)) HF.out HH.out).mono ?_
        rintro e w3 ⟨a1, k1, e1, q, a2, k2, e2, r, er, rfl, hq, hr, hd, hap⟩
        obtain ⟨rfl, hv, hr0, hr1⟩ : er = 0 ∧ vf f n = vf q k1 * vf h m + vf r k2 ∧ 0 ≤ vf r k2 ∧ vf r k2 < vf h m := by
          rcases hd with ⟨_, _, _, h1, h2, h3, h4⟩ | ⟨_, _, h1, _⟩ | ⟨h1, _⟩
          · exact ⟨h1, h2, h3, h4⟩
          · exact absurd h1 hm0
          · exact absurd ⟨fm_of_wfB HA.out, fm_of_wfB HB.out⟩ h1
        obtain ⟨⟨hz, x0, x1, y0, y1, c0, c1, d0, d1, cf, df⟩, hw⟩ := keep4 hq.bel ⟨hz, x0, x1, y0, y1, c0, c1, d0, d1, cf, df⟩ HW.out
        have hk1 : k1 ≤ n := hq.le
        have hk2 : k2 ≤ n + 1 := hr.le
        have HQ := hid hq; have HRr := hid hr; have HV := hid hv; have HR0 := hid hr0; have HR1 := hid hr1; have HW3 := hid hw; have HAP := hid hap
        clear hq hr hv hr0 hr1 hw hd hap
        cases hst : (s == t)
        · by_cases hk0 : k2 = 0
          · subst hk0
            have hnst : Hid (s = t ∨ vf r 0 = 0) := .inr rfl
            have CQ : Hid (∀ (b : Bool) (W : World), Calls Tryz.prog 96 #[.bool b, .slice a1 k1 e1] W fun e w' => ∃ r o, e = .returned (.agg #[.bool r, .slice a1 k1 e1]) ∧ Hid (r = (b && decide (0 < k1))) ∧ w' = W.alloc o) := fun b W => signed_c b a1 k1 e1 W (by omega)
            have CR : Hid (∀ (b : Bool) (W : World), Calls Tryz.prog 96 #[.bool b, .slice a2 0 e2] W fun e w' => ∃ r o, e = .returned (.agg #[.bool r, .slice a2 0 e2]) ∧ Hid (r = (b && decide (0 < 0))) ∧ w' = W.alloc o) := fun b W => signed_c b a2 0 e2 W (by omega)
            have ic0 : (w3.cell? ⟨w.heap.size + 1 + 1, 0, none⟩).isSome = true := by rw [c0]; rfl
            have ic1 : (w3.cell? ⟨w.heap.size + 1 + 1, 1, none⟩).isSome = true := by rw [c1]; rfl
            have id0 : (w3.cell? ⟨w.heap.size + 1 + 1 + 1, 0, none⟩).isSome = true := by rw [d0]; rfl
            have id1 : (w3.cell? ⟨w.heap.size + 1 + 1 + 1, 1, none⟩).isSome = true := by rw [d1]; rfl
            have hz0 : w.heap.size < w3.heap.size := by omega
            have hz1 : w.heap.size + 1 < w3.heap.size := by omega
            have hz2 : w.heap.size + 1 + 1 < w3.heap.size := by omega
            have hz3 : w.heap.size + 1 + 1 < w3.heap.size + 1 := by omega
            have hz4 : w.heap.size + 1 + 1 + 1 < w3.heap.size + 1 := by omega
            go_wp2
            go_region_held3 (fun w' => w'.cell? ⟨w.heap.size, 0, none⟩ = some (.bool s) ∧ w'.cell? ⟨w.heap.size + 1, 0, none⟩ = some (.bool t) ∧ (w'.cell? ⟨w.heap.size + 1 + 1, 0, none⟩).isSome = true ∧ (w'.cell? ⟨w.heap.size + 1 + 1, 1, none⟩).isSome = true ∧ (w'.cell? ⟨w.heap.size + 1 + 1 + 1, 0, none⟩).isSome = true ∧ (w'.cell? ⟨w.heap.size + 1 + 1 + 1, 1, none⟩).isSome = true ∧ w'.frozen? ⟨w.heap.size + 1 + 1, 0, none⟩ = false ∧ w'.frozen? ⟨w.heap.size + 1 + 1, 1, none⟩ = false ∧ w'.frozen? ⟨w.heap.size + 1 + 1 + 1, 0, none⟩ = false ∧ w'.frozen? ⟨w.heap.size + 1 + 1 + 1, 1, none⟩ = false) (refine ⟨?_, ?_, ?_, ?_, ?_, ?_, ?_, ?_, ?_, ?_⟩ <;> repeat (with_reducible first | assumption | exact cf _ | exact df _ | refine kCd ?_ | refine kId ?_ | refine kFd ?_ | refine kCa ?_ | refine kIa ?_ | refine kFa ?_ ?_ | refine kCs (by simp only [ne_eq]; omega) ?_ | refine kIs ?_ | refine kFs ?_)) (first | (go_at_call 96; with_reducible refine (CQ.out _ _).mono ?_; rintro e w8 ⟨s1, o1, rfl, hs1, rfl⟩) | (go_at_call 96; with_reducible refine (CR.out _ _).mono ?_; rintro e w9 ⟨s2, o2, rfl, hs2, rfl⟩))
            all_goals
              go_wp2
              refine bodyPost_ret (v := .tuple #[.agg #[.bool s1, .slice a1 k1 e1], .agg #[.bool s2, .slice a2 0 e2], .int .i64 0]) (by simp [results, Tryz.results57, go_sem, c0, c1, d0, d1, hz2, hz, hz3, hz4]) rfl ⟨s1, a1, k1, e1, q, s2, a2, 0, e2, r, 0, rfl, WRes.mk' hs1 (((HQ.out.turned HW.out (by repeat (with_reducible first | exact Turned.refl _ _ _ | refine Turned.drew ?_ | refine Turned.alloc ?_ _ | refine Turned.set ?_ (by first | omega | (simp; done) | (simp; omega)) (by first | omega | (simp; done) | (simp; omega)) _))).mono (by omega)).ans (by omega)), WRes.mk' hs2 (((HRr.out.turned HW.out (by repeat (with_reducible first | exact Turned.refl _ _ _ | refine Turned.drew ?_ | refine Turned.alloc ?_ _ | refine Turned.set ?_ (by first | omega | (simp; done) | (simp; omega)) (by first | omega | (simp; done) | (simp; omega)) _))).mono (by omega)).ans (by omega)), .inl ⟨⟨HA.out, HB.out⟩, by omega, rfl, ?_⟩, HAP.out⟩
              rw [wv_sign hs1, wv_sign hs2]
              exact flr_w (by rw [hst]; rfl) HV.out HR0.out HR1.out hnst.out

          · have hkd : decide ((0 : Int) < (k2 : Int)) = true := by simp; omega
            have HRp := hid (vf_pos HRr.out.lm HRr.out.fm (show 0 < k2 by omega))
            have HQa := hid (HQ.out.rd.alloc (.cells #[.int .u64 1] 28))
            go_wp2_with fail
            refine (Add_c a1 (some ⟨w3.heap.size, 0, none⟩) k1 1 e1 1 q (fun _ => 1) _ (by omega) (by omega) HQa.out (rd_new1 _ _ _) HQ.out.lm (lm_const (by omega) (by omega) 1)).mono ?_
            rintro e w4 ⟨a3, k3, e3, q', er, rfl, hq', hc⟩
            obtain ⟨rfl, hv'⟩ : er = 0 ∧ vf q' k3 = vf q k1 + 1 := by
              rcases hc with ⟨_, _, h1, h2⟩ | ⟨h1, _⟩
              · exact ⟨h1, by rw [h2, vf_one]⟩
              · exact absurd ⟨HQ.out.fm, .inr (by decide)⟩ h1
            clear hc
            have hb4 : Below w3.heap.size w3 w4 := (below_alloc (Below.refl _ _) _).trans (hq'.bel.mono (by simp))
            obtain ⟨⟨hz, x0, x1, y0, y1, c0, c1, d0, d1, cf, df⟩, hw⟩ := keep4 hb4 ⟨hz, x0, x1, y0, y1, c0, c1, d0, d1, cf, df⟩ HW3.out
            have hk3 : k3 ≤ max k1 1 + 1 := hq'.le
            have HQ' := hid hq'; have HV' := hid hv'; have HW4 := hid hw; have HRd4 := hid (HRr.out.rd.below hb4 (Nat.le_refl _)); have hzw4 : w.heap.size + 1 + 1 + 1 < w4.heap.size := hz
            clear hq' hv' hw hb4
            go_wp2_with fail
            refine (Sub_c bo a2 m k2 cb e2 h r _ (by omega) (by omega) (HS.out.below HW4.out (Nat.le_refl _)) HRd4.out HH.out HRr.out.lm).mono ?_
            rintro e w5 ⟨a4, k4, e4, r', er, rfl, hr', hc⟩
            obtain ⟨rfl, hv''⟩ : er = 0 ∧ vf r' k4 = vf h m - vf r k2 := by
              rcases hc with ⟨_, _, _, h1, h2⟩ | ⟨_, _, h1, _⟩ | ⟨h1, _⟩
              · exact ⟨h1, h2⟩
              · have := HR1.out; omega
              · exact absurd ⟨fm_of_wfB HB.out, HRr.out.fm⟩ h1
            clear hc
            obtain ⟨⟨hz, x0, x1, y0, y1, c0, c1, d0, d1, cf, df⟩, hw⟩ := keep4 hr'.bel ⟨hz, x0, x1, y0, y1, c0, c1, d0, d1, cf, df⟩ HW4.out
            have hk4 : k4 ≤ m := hr'.le
            have HR' := hid hr'; have HV'' := hid hv''; have HQ'' := hid (HQ'.out.later hr'.bel); have HAP2 := hid (hr'.apart HQ'.out.und (Nat.le_refl _))
            have hzw3 : w.heap.size + 1 + 1 + 1 < (w3.alloc (.cells #[.int .u64 1] 28)).heap.size := by simp; omega
            clear hr' hv'' hw
            have CQ : Hid (∀ (b : Bool) (W : World), Calls Tryz.prog 96 #[.bool b, .slice a3 k3 e3] W fun e w' => ∃ r o, e = .returned (.agg #[.bool r, .slice a3 k3 e3]) ∧ Hid (r = (b && decide (0 < k3))) ∧ w' = W.alloc o) := fun b W => signed_c b a3 k3 e3 W (by omega)
            have CR : Hid (∀ (b : Bool) (W : World), Calls Tryz.prog 96 #[.bool b, .slice a4 k4 e4] W fun e w' => ∃ r o, e = .returned (.agg #[.bool r, .slice a4 k4 e4]) ∧ Hid (r = (b && decide (0 < k4))) ∧ w' = W.alloc o) := fun b W => signed_c b a4 k4 e4 W (by omega)
            have ic0 : (w5.cell? ⟨w.heap.size + 1 + 1, 0, none⟩).isSome = true := by rw [c0]; rfl
            have ic1 : (w5.cell? ⟨w.heap.size + 1 + 1, 1, none⟩).isSome = true := by rw [c1]; rfl
            have id0 : (w5.cell? ⟨w.heap.size + 1 + 1 + 1, 0, none⟩).isSome = true := by rw [d0]; rfl
            have id1 : (w5.cell? ⟨w.heap.size + 1 + 1 + 1, 1, none⟩).isSome = true := by rw [d1]; rfl
            have hz0 : w.heap.size < w5.heap.size := by omega
            have hz1 : w.heap.size + 1 < w5.heap.size := by omega
            have hz2 : w.heap.size + 1 + 1 < w5.heap.size := by omega
            have hz3 : w.heap.size + 1 + 1 < w5.heap.size + 1 := by omega
            have hz4 : w.heap.size + 1 + 1 + 1 < w5.heap.size + 1 := by omega
            go_wp2
            go_region_held3 (fun w' => w'.cell? ⟨w.heap.size, 0, none⟩ = some (.bool s) ∧ w'.cell? ⟨w.heap.size + 1, 0, none⟩ = some (.bool t) ∧ (w'.cell? ⟨w.heap.size + 1 + 1, 0, none⟩).isSome = true ∧ (w'.cell? ⟨w.heap.size + 1 + 1, 1, none⟩).isSome = true ∧ (w'.cell? ⟨w.heap.size + 1 + 1 + 1, 0, none⟩).isSome = true ∧ (w'.cell? ⟨w.heap.size + 1 + 1 + 1, 1, none⟩).isSome = true ∧ w'.frozen? ⟨w.heap.size + 1 + 1, 0, none⟩ = false ∧ w'.frozen? ⟨w.heap.size + 1 + 1, 1, none⟩ = false ∧ w'.frozen? ⟨w.heap.size + 1 + 1 + 1, 0, none⟩ = false ∧ w'.frozen? ⟨w.heap.size + 1 + 1 + 1, 1, none⟩ = false) (refine ⟨?_, ?_, ?_, ?_, ?_, ?_, ?_, ?_, ?_, ?_⟩ <;> repeat (with_reducible first | assumption | exact cf _ | exact df _ | refine kCd ?_ | refine kId ?_ | refine kFd ?_ | refine kCa ?_ | refine kIa ?_ | refine kFa ?_ ?_ | refine kCs (by simp only [ne_eq]; omega) ?_ | refine kIs ?_ | refine kFs ?_)) (first | (go_at_call 96; with_reducible refine (CQ.out _ _).mono ?_; rintro e w8 ⟨s1, o1, rfl, hs1, rfl⟩) | (go_at_call 96; with_reducible refine (CR.out _ _).mono ?_; rintro e w9 ⟨s2, o2, rfl, hs2, rfl⟩))
            all_goals
              go_wp2
              refine bodyPost_ret (v := .tuple #[.agg #[.bool s1, .slice a3 k3 e3], .agg #[.bool s2, .slice a4 k4 e4], .int .i64 0]) (by simp [results, Tryz.results57, go_sem, c0, c1, d0, d1, hz2, hz, hz3, hz4]) rfl ⟨s1, a3, k3, e3, q', s2, a4, k4, e4, r', 0, rfl, WRes.mk' hs1 (((HQ''.out.turned (below_alloc HW3.out _) (by repeat (with_reducible first | exact Turned.refl _ _ _ | refine Turned.drew ?_ | refine Turned.alloc ?_ _ | refine Turned.set ?_ (by first | omega | (simp; done) | (simp; omega)) (by first | omega | (simp; done) | (simp; omega)) _))).mono (by omega)).ans (by omega)), WRes.mk' hs2 (((HR'.out.turned HW4.out (by repeat (with_reducible first | exact Turned.refl _ _ _ | refine Turned.drew ?_ | refine Turned.alloc ?_ _ | refine Turned.set ?_ (by first | omega | (simp; done) | (simp; omega)) (by first | omega | (simp; done) | (simp; omega)) _))).mono (by omega)).ans (by omega)), .inl ⟨⟨HA.out, HB.out⟩, by omega, rfl, ?_⟩, HAP2.out⟩
              rw [wv_sign hs1, wv_sign hs2]
              exact flr_w2 (by rw [hst]; rfl) HV.out HRp.out HR1.out hst HV'.out HV''.out

        · obtain rfl : s = t := by simpa using hst
          have hnst : Hid (s = s ∨ vf r k2 = 0) := .inl rfl
          clear hst
          have CQ : Hid (∀ (b : Bool) (W : World), Calls Tryz.prog 96 #[.bool b, .slice a1 k1 e1] W fun e w' => ∃ r o, e = .returned (.agg #[.bool r, .slice a1 k1 e1]) ∧ Hid (r = (b && decide (0 < k1))) ∧ w' = W.alloc o) := fun b W => signed_c b a1 k1 e1 W (by omega)
          have CR : Hid (∀ (b : Bool) (W : World), Calls Tryz.prog 96 #[.bool b, .slice a2 k2 e2] W fun e w' => ∃ r o, e = .returned (.agg #[.bool r, .slice a2 k2 e2]) ∧ Hid (r = (b && decide (0 < k2))) ∧ w' = W.alloc o) := fun b W => signed_c b a2 k2 e2 W (by omega)
          have ic0 : (w3.cell? ⟨w.heap.size + 1 + 1, 0, none⟩).isSome = true := by rw [c0]; rfl
          have ic1 : (w3.cell? ⟨w.heap.size + 1 + 1, 1, none⟩).isSome = true := by rw [c1]; rfl
          have id0 : (w3.cell? ⟨w.heap.size + 1 + 1 + 1, 0, none⟩).isSome = true := by rw [d0]; rfl
          have id1 : (w3.cell? ⟨w.heap.size + 1 + 1 + 1, 1, none⟩).isSome = true := by rw [d1]; rfl
          have hz0 : w.heap.size < w3.heap.size := by omega
          have hz1 : w.heap.size + 1 < w3.heap.size := by omega
          have hz2 : w.heap.size + 1 + 1 < w3.heap.size := by omega
          have hz3 : w.heap.size + 1 + 1 < w3.heap.size + 1 := by omega
          have hz4 : w.heap.size + 1 + 1 + 1 < w3.heap.size + 1 := by omega
          go_wp2
          go_region_held3 (fun w' => w'.cell? ⟨w.heap.size, 0, none⟩ = some (.bool s) ∧ w'.cell? ⟨w.heap.size + 1, 0, none⟩ = some (.bool s) ∧ (w'.cell? ⟨w.heap.size + 1 + 1, 0, none⟩).isSome = true ∧ (w'.cell? ⟨w.heap.size + 1 + 1, 1, none⟩).isSome = true ∧ (w'.cell? ⟨w.heap.size + 1 + 1 + 1, 0, none⟩).isSome = true ∧ (w'.cell? ⟨w.heap.size + 1 + 1 + 1, 1, none⟩).isSome = true ∧ w'.frozen? ⟨w.heap.size + 1 + 1, 0, none⟩ = false ∧ w'.frozen? ⟨w.heap.size + 1 + 1, 1, none⟩ = false ∧ w'.frozen? ⟨w.heap.size + 1 + 1 + 1, 0, none⟩ = false ∧ w'.frozen? ⟨w.heap.size + 1 + 1 + 1, 1, none⟩ = false) (refine ⟨?_, ?_, ?_, ?_, ?_, ?_, ?_, ?_, ?_, ?_⟩ <;> repeat (with_reducible first | assumption | exact cf _ | exact df _ | refine kCd ?_ | refine kId ?_ | refine kFd ?_ | refine kCa ?_ | refine kIa ?_ | refine kFa ?_ ?_ | refine kCs (by simp only [ne_eq]; omega) ?_ | refine kIs ?_ | refine kFs ?_)) (first | (go_at_call 96; with_reducible refine (CQ.out _ _).mono ?_; rintro e w8 ⟨s1, o1, rfl, hs1, rfl⟩) | (go_at_call 96; with_reducible refine (CR.out _ _).mono ?_; rintro e w9 ⟨s2, o2, rfl, hs2, rfl⟩))
          all_goals
            go_wp2
            refine bodyPost_ret (v := .tuple #[.agg #[.bool s1, .slice a1 k1 e1], .agg #[.bool s2, .slice a2 k2 e2], .int .i64 0]) (by simp [results, Tryz.results57, go_sem, c0, c1, d0, d1, hz2, hz, hz3, hz4]) rfl ⟨s1, a1, k1, e1, q, s2, a2, k2, e2, r, 0, rfl, WRes.mk' hs1 (((HQ.out.turned HW.out (by repeat (with_reducible first | exact Turned.refl _ _ _ | refine Turned.drew ?_ | refine Turned.alloc ?_ _ | refine Turned.set ?_ (by first | omega | (simp; done) | (simp; omega)) (by first | omega | (simp; done) | (simp; omega)) _))).mono (by omega)).ans (by omega)), WRes.mk' hs2 (((HRr.out.turned HW.out (by repeat (with_reducible first | exact Turned.refl _ _ _ | refine Turned.drew ?_ | refine Turned.alloc ?_ _ | refine Turned.set ?_ (by first | omega | (simp; done) | (simp; omega)) (by first | omega | (simp; done) | (simp; omega)) _))).mono (by omega)).ans (by omega)), .inl ⟨⟨HA.out, HB.out⟩, by omega, rfl, ?_⟩, HAP.out⟩
            rw [wv_sign hs1, wv_sign hs2]
            exact flr_w (by simp) HV.out HR0.out HR1.out (.inl rfl)
theorem wDivide_c (s t : Bool) (ao bo : Option Addr) (n m ca cb : Nat) (f h : Nat → Int) (w : World) (hn : n ≤ 4398046511104) (hm : m ≤ 4398046511104) (hr : Rd .u64 w ao n f) (hs : Rd .u64 w bo m h) (hf : Lm f n) (hh : Lm h m) :
    Calls Tryz.prog 57 #[.agg #[.bool s, .slice ao n ca], .agg #[.bool t, .slice bo m cb]] w fun e w' => ∃ r1 a1 k1 c1 q r2 a2 k2 c2 r er, e = .returned (.tuple #[.agg #[.bool r1, .slice a1 k1 c1], .agg #[.bool r2, .slice a2 k2 c2], .int .i64 er]) ∧ WRes (n + 2) w w' r1 a1 k1 c1 q ∧ WRes (n + m + 1) w w' r2 a2 k2 c2 r ∧ WDiv s t n m f h r1 r2 k1 k2 q r er :=
  (wDivide_cA s t ao bo n m ca cb f h w hn hm hr hs hf hh).mono fun _ _ ⟨r1, a1, k1, c1, q, r2, a2, k2, c2, r, er, h1, h2, h3, h4, _⟩ => ⟨r1, a1, k1, c1, q, r2, a2, k2, c2, r, er, h1, h2, h3, h4⟩
end Go.Proofs.YtlpmfmphglgocaaGreatDoor
namespace Go.Proofs.YtlpmfmphglgocaaGreatDoor
open Go.RowKit

/-- The digits of limbs. -/
def dig (f : Nat → Int) : Nat → Int := fun j => if j % 2 = 0 then f (j / 2) % 4294967296 else f (j / 2) / 4294967296
theorem dig_cat (f : Nat → Int) (k : Nat) : ∀ j, j < 2 * k + 2 → cat (dig f) (2 * k) (two32 (f k)) j = dig f j := by
  intro j hj
  by_cases h : j < 2 * k
  · exact cat_in h
  · rw [cat_out (by omega)]
    by_cases h2 : j = 2 * k
    · subst h2
      have e1 : 2 * k - 2 * k = 0 := by omega
      have e2 : 2 * k / 2 = k := by omega
      have e3 : 2 * k % 2 = 0 := by omega
      simp [two32, dig]
    · obtain rfl : j = 2 * k + 1 := by omega
      have e1 : 2 * k + 1 - 2 * k = 1 := by omega
      have e2 : (2 * k + 1) / 2 = k := by omega
      have e3 : (2 * k + 1) % 2 = 1 := by omega
      simp [two32, dig, e1, e2, e3]
theorem dig_lm {f : Nat → Int} {n : Nat} (h : Lm f n) : Dg (dig f) (2 * n) := by
  intro j hj
  have := h (j / 2) (by omega)
  unfold dig
  split <;> omega
theorem dig_val (f : Nat → Int) (n : Nat) : vd (dig f) (2 * n) = vf f n := by
  induction n with
  | zero => rfl
  | succ k ih =>
    have e : 2 * (k + 1) = 2 * k + 1 + 1 := by omega
    have e2 : (2 * k + 1) / 2 = k := by omega
    have e3 : (2 * k + 1) % 2 = 1 := by omega
    have e4 : 2 * k / 2 = k := by omega
    have e5 : 2 * k % 2 = 0 := by omega
    have a1 : dig f (2 * k) = f k % 4294967296 := by simp [dig]
    have a2 : dig f (2 * k + 1) = f k / 4294967296 := by simp [dig, e2, e3]
    rw [e, vd_succ, vd_succ, ih, vf_succ, pd_succ, pd_two, a1, a2]
    have e6 : f k = 4294967296 * (f k / 4294967296) + f k % 4294967296 := by omega
    have e7 : f k * pw k = (4294967296 * (f k / 4294967296) + f k % 4294967296) * pw k := by rw [← e6]
    rw [e7]
    grind

set_option maxRecDepth 100000 in
set_option maxHeartbeats 1000000 in
/-- From: the digits of limbs. -/
theorem fromNew_c (ao : Option Addr) (n cap : Nat) (f : Nat → Int) (w : World) (hn : n ≤ 1048576) (hr : Rd .u64 w ao n f) (hf : Lm f n) :
    Calls Tryz.prog 93 #[.slice ao n cap] w fun e w' => ∃ ao' m cap', e = .returned (.slice ao' m cap') ∧ (∀ a, ao' = some a → w.heap.size ≤ a.block) ∧ m ≤ cap' ∧ cap' ≤ 9223372036854775807 ∧ Below w.heap.size w w' ∧ Rd .u64 w' ao' m (dig f) ∧ m ≤ 2 * n ∧ (ao' = none → m = 0) ∧ Dg (dig f) m ∧ Fm (dig f) m ∧ vd (dig f) m = vf f n := by
  have HR := hid hr
  have HF := hid hf
  clear hr hf
  obtain ⟨i0, hi, hz0, hz1, hz2⟩ := info_parts Tryz.infoU64
  go_enter Tryz.func93, Tryz.ntmps93
  go_wp2_with (at_make; refine wpList_make_own w rfl (.const (.int .i64 0)) (.tmp 8) 22 rfl w.heap.size 28 i0 (.int .u64 0) 1 Tryz.underlying22 hi hz0 hz1 .i64 .i64 (2 * (n : Int)) (2 * n) rfl rfl (by omega) (by rw [hz2]; omega) (by unfold maxLen; omega) (Nat.le_refl _) ?_; intro w1 hown1 hgr1)
  have hb1 : Below w.heap.size w w1 := (Below.refl _ _).grown hgr1 (Nat.le_refl _) (fun k h => by cases h)
  have ho1 : Own .u64 28 w1 w.heap.size (.slice (some ⟨w.heap.size, 0, none⟩) 0 (2 * n)) 0 (dig f) := hown1
  clear hown1 hgr1
  have HO1 := hid ho1
  clear ho1
  go_loopw [3, 12] (fun v t wr => ∃ k : Nat, k ≤ n ∧ t = .int .i64 k ∧ Below w.heap.size w wr ∧ Hid (Own .u64 28 wr w.heap.size v (2 * k) (dig f))) (fun _ t _ => n - (intOf t).toNat)
  case atStart => exact ⟨0, by omega, rfl, hb1, HO1.out⟩
  case round =>
    clear hb1 HO1
    obtain ⟨k, hk, rfl, hbel, HO⟩ := hrel
    by_cases hlt : k < n
    · have hr := HR.out
      obtain ⟨b, o, rfl⟩ := hr.at (by omega)
      obtain ⟨x, hx⟩ : ∃ x, f k = x := ⟨_, rfl⟩
      have hcell : wr.cell? ⟨b, o + k, none⟩ = some (.int .u64 x) := by rw [← hx]; exact (hr.below hbel (Nat.le_refl _)).cell hlt
      obtain ⟨x0, x1⟩ := HF.out k hlt
      rw [hx] at x0 x1
      have HX := hid hx
      clear hx hr
      go_wp2_with (at_builtin; refine wpList_append_own_list .u64 _ rfl (.tmp 16) (.tmp 21) 22 rfl w.heap.size 28 8 Tryz.underlying22 Tryz.infoU64 _ (2 * k) (dig f) rfl (Own.alloc HO.out _) wr.heap.size 0 2 2 (two32 x) rfl (rd_new2 wr _ x) ?c1 ?c2 ?c3 ?_)
      case c1 => unfold maxLen; omega
      case c2 => omega
      case c3 => have := hbel.size; simp; omega
      intro v' w' hown hgr
      have hown2 : Own .u64 28 w' w.heap.size v' (2 * (k + 1)) (dig f) := (show Own .u64 28 w' w.heap.size v' (2 * k + 2) _ from hown).congr (fun j hj => by rw [← HX.out]; exact dig_cat f k j hj)
      have hbel2 : Below w.heap.size w w' := (hbel.alloc hbel.size _).grown hgr (by have := hbel.size; simp; omega) (fun k h => (Own.ge HO.out k h))
      have HO2 := hid hown2
      clear hown hgr hown2 HO
      go_wp2
      go_roundw
      case rel => exact ⟨k + 1, by omega, by go_num, hbel2, HO2.out⟩
      case measure => simp [intOf]; omega
    · have hkn : k = n := by omega
      subst hkn
      obtain ⟨ao', cap', hv, hcc, hnn, hml, hrd, hlt2⟩ := HO.out.shape
      unfold maxLen at hml
      subst hv
      have HNew := hid (fun a ha => (hlt2 a ha).1)
      clear HO hlt2
      go_wp2_with fail
      refine (low_c ao' (2 * k) cap' (dig f) wr hcc hml hrd hnn).mono ?_
      rintro e w2 ⟨rfl, m, hm, hz, hfm, rfl⟩
      have HZ := hid hz
      have HFM := hid hfm
      clear hz hfm
      go_wp2
      go_ret
      refine ⟨ao', m, cap', rfl, HNew.out, by omega, hml, hbel, hrd.take hm, hm, fun h => ?_, (dig_lm HF.out).mono hm, HFM.out, ?_⟩
      · have := hnn h; omega
      · rw [trim_vald hm HZ.out]; exact dig_val f k

theorem from_c (ao : Option Addr) (n cap : Nat) (f : Nat → Int) (w : World) (hn : n ≤ 1048576) (hr : Rd .u64 w ao n f) (hf : Lm f n) :
    Calls Tryz.prog 93 #[.slice ao n cap] w fun e w' => ∃ ao' m cap', e = .returned (.slice ao' m cap') ∧ Below w.heap.size w w' ∧ Rd .u64 w' ao' m (dig f) ∧ m ≤ 2 * n ∧ (ao' = none → m = 0) ∧ Dg (dig f) m ∧ Fm (dig f) m ∧ vd (dig f) m = vf f n :=
  (fromNew_c ao n cap f w hn hr hf).mono (fun _ _ ⟨a, m, c, h1, _, _, _, h2⟩ => ⟨a, m, c, h1, h2⟩)

end Go.Proofs.YtlpmfmphglgocaaGreatDoor
namespace Go.Proofs.YtlpmfmphglgocaaGreatDoor
open Go.RowKit

theorem vd_cons (f : Nat → Int) (m i : Nat) : vd (sh f m) (i + 1) = f m + 4294967296 * vd (sh f (m + 1)) i := by
  rw [Nat.add_comm i 1, vd_split (sh f m) 1 i, sh_sh]
  have e1 : vd (sh f m) 1 = f m := by simp [vd, pd, sh]
  have e2 : pd 1 = 4294967296 := by simp [pd]
  rw [e1, e2]; omega
end Go.Proofs.YtlpmfmphglgocaaGreatDoor
namespace Go.Proofs.YtlpmfmphglgocaaGreatDoor
open Go.RowKit

/-- What Same answers. -/
def SameAns (b s t : Bool) (n m : Nat) (f g : Nat → Int) : Prop := b = true ↔ s = t ∧ Alk n m f g
theorem wSame_c (s t : Bool) (ao bo : Option Addr) (n m ca cb : Nat) (f g : Nat → Int) (w : World) (hm : n ≤ 140737488355328) (hm' : m ≤ 140737488355328) (hr : Rd .u64 w ao n f) (hs : Rd .u64 w bo m g) :
    Calls Tryz.prog 24 #[.agg #[.bool s, .slice ao n ca], .agg #[.bool t, .slice bo m cb]] w fun e w' => ∃ b, e = .returned (.bool b) ∧ Below w.heap.size w w' ∧ SameAns b s t n m f g := by
  have HR := hid hr; have HS := hid hs
  clear hr hs
  cases hst : (s == t)
  · have HN := hid (show s ≠ t by intro h; subst h; simp at hst)
    go_enter Tryz.func24, Tryz.ntmps24
    go_wp2
    go_ret
    exact ⟨false, rfl, below_alloc (below_alloc (Below.refl _ _) _) _, ⟨(fun h => by cases h), fun h => absurd h.1 HN.out⟩⟩
  · obtain rfl : s = t := by simpa using hst
    go_enter Tryz.func24, Tryz.ntmps24
    go_wp2_with fail
    refine (same_c ao bo n m ca cb f g _ hm hm' ((HR.out.alloc _).alloc _) ((HS.out.alloc _).alloc _)).mono ?_
    rintro e w1 ⟨⟨q, hq⟩, b, rfl, hb⟩
    have HB := hid hb; have HQ := hid (drewN_below hq)
    clear hb hq
    go_wp2
    go_ret
    exact ⟨b, rfl, (below_alloc (below_alloc (Below.refl w.heap.size w) _) _).trans (HQ.out.mono (by simp; omega)), ⟨fun h => ⟨rfl, HB.out.1 h⟩, fun h => HB.out.2 h.2⟩⟩

/-- One whole number has one form. -/
theorem wv_inj {s t : Bool} {n m : Nat} {f g : Nat → Int} (hf : Lm f n) (hg : Lm g m) (wf : wfB s f n = true) (wg : wfB t g m = true) (hv : wv s f n = wv t g m) : s = t ∧ Alk n m f g := by
  have h1 := vf_nonneg hf; have h2 := vf_nonneg hg
  have f1 := fm_of_wfB wf; have f2 := fm_of_wfB wg
  have p1 : s = true → 0 < vf f n := fun h => vf_pos hf f1 (sgn_of_wfB wf h)
  have p2 : t = true → 0 < vf g m := fun h => vf_pos hg f2 (sgn_of_wfB wg h)
  cases s <;> cases t <;> simp only [wv_false, wv_true] at hv
  · exact ⟨rfl, vf_inj hf hg f1 f2 hv⟩
  · have := p2 rfl; omega
  · have := p1 rfl; omega
  · exact ⟨rfl, vf_inj hf hg f1 f2 (by omega)⟩
theorem wSame_true (s t : Bool) (ao bo : Option Addr) (n m ca cb : Nat) (f g : Nat → Int) (w : World) (hm : n ≤ 140737488355328) (hm' : m ≤ 140737488355328) (hr : Rd .u64 w ao n f) (hs : Rd .u64 w bo m g) (hf : Lm f n) (hg : Lm g m) (wf : wfB s f n = true) (wg : wfB t g m = true) (hv : wv s f n = wv t g m) :
    Calls Tryz.prog 24 #[.agg #[.bool s, .slice ao n ca], .agg #[.bool t, .slice bo m cb]] w fun e w' => e = .returned (.bool true) ∧ Below w.heap.size w w' := by
  refine (wSame_c s t ao bo n m ca cb f g w hm hm' hr hs).mono ?_
  rintro e w' ⟨b, rfl, hb, hiff⟩
  obtain rfl : b = true := hiff.2 (wv_inj hf hg wf wg hv)
  exact ⟨rfl, hb⟩

theorem keep1 {w w1 w2 : World} {c0 c1 : Value} (hb : Below w1.heap.size w1 w2) (h : w.heap.size < w1.heap.size ∧ w1.cell? ⟨w.heap.size, 0, none⟩ = some c0 ∧ w1.cell? ⟨w.heap.size, 1, none⟩ = some c1) (hf : ∀ o, w1.frozen? ⟨w.heap.size, o, none⟩ = false) (hw : Below w.heap.size w w1) :
    (w.heap.size < w2.heap.size ∧ w2.cell? ⟨w.heap.size, 0, none⟩ = some c0 ∧ w2.cell? ⟨w.heap.size, 1, none⟩ = some c1) ∧ (∀ o, w2.frozen? ⟨w.heap.size, o, none⟩ = false) ∧ Below w.heap.size w w2 := by
  obtain ⟨h1, h2⟩ := bcell hb
  have hz := hb.size
  obtain ⟨z, a, b⟩ := h
  exact ⟨⟨by omega, (h1 _ _ (by omega)).trans a, (h1 _ _ (by omega)).trans b⟩, fun o => (h2 _ _ (by omega)).trans (hf o), hw.trans (hb.mono hw.size)⟩

/-- Two boxes of unlike types. -/
theorem boxes2' {w w1 : World} {a0 a1 c0 c1 : Value} {t u : TypeId} (hb : Below ((w.alloc (.cells #[a0, a1] t)).alloc (.cells #[c0, c1] u)).heap.size ((w.alloc (.cells #[a0, a1] t)).alloc (.cells #[c0, c1] u)) w1) :
    (w.heap.size + 1 < w1.heap.size ∧ w1.cell? ⟨w.heap.size, 0, none⟩ = some a0 ∧ w1.cell? ⟨w.heap.size, 1, none⟩ = some a1 ∧ w1.cell? ⟨w.heap.size + 1, 0, none⟩ = some c0 ∧ w1.cell? ⟨w.heap.size + 1, 1, none⟩ = some c1) ∧ (∀ o, w1.frozen? ⟨w.heap.size + 1, o, none⟩ = false) ∧ Below w.heap.size w w1 := by
  obtain ⟨h1, h2⟩ := bcell hb
  have hz := hb.size
  simp at hz
  refine ⟨⟨by omega, (h1 _ _ (by simp; omega)).trans (by simp [go_sem]), (h1 _ _ (by simp; omega)).trans (by simp [go_sem]), (h1 _ _ (by simp)).trans (by simp [go_sem]), (h1 _ _ (by simp)).trans (by simp [go_sem])⟩, fun o => (h2 _ _ (by simp)).trans (by
    have e := heap_alloc_new (w.alloc (.cells #[a0, a1] t)) (.cells #[c0, c1] u)
    rw [size_alloc1] at e
    simp only [World.frozen?, e]; simp), ?_⟩
  exact (below_alloc (below_alloc (Below.refl w.heap.size w) _) _).trans (hb.mono (by simp; omega))

set_option maxRecDepth 100000 in
set_option maxHeartbeats 1000000 in
theorem zTo_c (s : Bool) (ao : Option Addr) (n cap : Nat) (d : Nat → Int) (z : Int) (w : World) (hn : n ≤ 1048576) (hr : Rd .u64 w ao n d) (hd : Dg d n) (hf : Fm d n) (hs : s = true → 0 < n) (hv : (if s then - vd d n else vd d n) = z) :
    Calls Tryz.prog 53 #[.agg #[.bool s, .slice ao n cap]] w fun e w' => WOne n w w' e z := by
  have HR := hid hr; have HD := hid hd; have HF := hid hf; have HSg := hid hs; have HV := hid hv
  clear hr hd hf hs hv
  have CT : Hid (∀ W, Below ((w.alloc (.cells #[.bool s, .slice ao n cap] 69)).alloc (.cells #[.bool false, .slice none 0 0] 44)).heap.size ((w.alloc (.cells #[.bool s, .slice ao n cap] 69)).alloc (.cells #[.bool false, .slice none 0 0] 44)) W → Calls Tryz.prog 84 #[.slice ao n cap] W fun e w' => ∃ ao' m cap' f, e = .returned (.slice ao' m cap') ∧ Hid (Asw n W w' ao' m cap' f ∧ vf f m = vd d n) ∧ (w.heap.size + 1 < w'.heap.size ∧ w'.cell? ⟨w.heap.size, 0, none⟩ = some (.bool s) ∧ w'.cell? ⟨w.heap.size, 1, none⟩ = some (.slice ao n cap) ∧ w'.cell? ⟨w.heap.size + 1, 0, none⟩ = some (.bool false) ∧ w'.cell? ⟨w.heap.size + 1, 1, none⟩ = some (.slice none 0 0)) ∧ (∀ o, w'.frozen? ⟨w.heap.size + 1, o, none⟩ = false) ∧ Hid (Below w.heap.size w W ∧ w.heap.size + 1 < W.heap.size)) := fun W hW => by
    obtain ⟨hz, zf, hw⟩ := boxes2' hW
    refine (toOwn_c ao n cap d W hn (HR.out.below hw (Nat.le_refl _)) HD.out HF.out).mono ?_
    rintro e w' ⟨ao', m, cap', f, rfl, h0, h1, h2, h3, h4, h5, h6⟩
    obtain ⟨hz2, zf2, hw2⟩ := keep2 h1 hz zf hw
    exact ⟨ao', m, cap', f, rfl, ⟨⟨h1, h0, h4, h5, h3⟩, h6⟩, hz2, zf2, hw, hz.1⟩
  go_enter Tryz.func53, Tryz.ntmps53
  go_wp2
  go_region_held3 (fun w' => w'.cell? ⟨w.heap.size, 0, none⟩ = some (.bool s) ∧ w'.cell? ⟨w.heap.size, 1, none⟩ = some (.slice ao n cap) ∧ (w'.cell? ⟨w.heap.size + 1, 0, none⟩).isSome = true ∧ (w'.cell? ⟨w.heap.size + 1, 1, none⟩).isSome = true ∧ w'.frozen? ⟨w.heap.size + 1, 0, none⟩ = false ∧ w'.frozen? ⟨w.heap.size + 1, 1, none⟩ = false) (first | (simp [go_sem]; done) | (refine ⟨?_, ?_, ?_, ?_, ?_, ?_⟩ <;> repeat (with_reducible first | assumption | exact uf _ | exact kI0 u0 | exact kI0 u1 | refine kCd ?_ | refine kId ?_ | refine kFd ?_ | refine kCa ?_ | refine kIa ?_ | refine kFa ?_ ?_ | refine kCs (by simp only [ne_eq]; omega) ?_ | refine kIs ?_ | refine kFs ?_))) (first | (go_at_call 84; refine (CT.out _ (by repeat (first | exact Below.refl _ _ | refine Below.drew ?_))).mono ?_; rintro e w4 ⟨xa, m, cx, g, rfl, HAns, ⟨hz4, v0, v1, u0, u1⟩, uf, HBW⟩))
  all_goals
    go_wp2
    refine bodyPost_ret (v := .agg #[.bool s, .slice xa m cx]) (by simp [results, Tryz.results53, go_sem, u0, u1]) rfl ⟨s, xa, m, cx, g, rfl, ?_⟩
    have hA := HAns.out.1.turned HBW.out.1 (((Turned.refl _ _ _).set (x := ⟨w.heap.size + 1, 0, none⟩) (by first | omega | (simp; done) | (simp; omega)) (by first | omega | (simp; done) | (simp; omega)) (.bool s)).set (x := ⟨w.heap.size + 1, 1, none⟩) (by first | omega | (simp; done) | (simp; omega)) (by first | omega | (simp; done) | (simp; omega)) (.slice xa m cx))
    refine ⟨⟨hA, fun hs => ?_⟩, ?_⟩
    · have h1 := vd_form_ge HD.out HF.out (HSg.out hs); have h2 := pd_pos (n - 1)
      apply Nat.pos_of_ne_zero; intro hm; subst hm
      have := HAns.out.2; simp [vf] at this; omega
    · have := HV.out; rw [← HAns.out.2] at this; exact this

set_option maxHeartbeats 1000000 in
theorem docOf_c (z : Int) (w : World) (h0 : -9223372036854775808 ≤ z) (h1 : z ≤ 9223372036854775807) :
    Calls Tryz.prog 18 #[.int .i64 z] w fun e w' => WOne 2 w w' e z := by
  go_enter Tryz.func18, Tryz.ntmps18
  go_wp2_with fail
  refine (zInt_c z _ h0 h1).mono ?_
  rintro e w1 ⟨s, xa, k, cx, d, rfl, hz⟩
  obtain ⟨⟨hb, z0, z1⟩, zf, hw⟩ := boxes1 hz.bel
  have HZ := hid hz; have HW := hid hw; have hle := hz.le
  clear hz hw
  go_wp2_with fail
  refine (zTo_c s xa k cx d z _ (by omega) HZ.out.rd HZ.out.dg HZ.out.fm HZ.out.sgn HZ.out.val).mono ?_
  rintro e w2 ⟨t, ya, m, cy, g, rfl, hg, hv⟩
  obtain ⟨⟨hb, z0, z1⟩, zf, hw⟩ := keep1 hg.res.bel ⟨hb, z0, z1⟩ zf HW.out
  have HG := hid hg; have HW2 := hid hw; have HV := hid hv
  clear hg hw hv
  go_wp2
  refine bodyPost_ret (v := .agg #[.bool t, .slice ya m cy]) (by simp [results, Tryz.results18, go_sem, z0, z1]) rfl ⟨t, ya, m, cy, g, rfl, ⟨(HG.out.res.turned HW.out ?_).mono hle, HG.out.sgn⟩, HV.out⟩
  exact ((Turned.refl _ _ _).set (by first | omega | (simp; done) | (simp; omega)) (by first | omega | (simp; done) | (simp; omega)) _).set (by first | omega | (simp; done) | (simp; omega)) (by first | omega | (simp; done) | (simp; omega)) _

end Go.Proofs.YtlpmfmphglgocaaGreatDoor
