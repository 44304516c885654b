/-
 Walks of the document's reference for nat: Sub on digits, and the calls DocAdd, DocSub, DocCmp. Contracts of the library that lie ready, laid at this translation: math/bits, internal/strconv. math/bits.Div64: quotient and rest of a number of two limbs by a limb. math/bits.Div64: its contract. Walks of package nat's quotients by one limb, and of the greatest common divisor of two limbs. Walks of the document's reference for nat: Word, short. The walk of the document's reference for nat: Mul. Digits to the base 2^32 that can be read, with their number; the reference's Add, Sub, Mul on them. Numbers times 2^n, limb by limb and digit by digit; a list made with room behind it. No Go text is named here. The walk of the document's reference for nat: bit, Bits, DivMod. Walks of package nat's shl and Shl: a number times 2^n. Walks of the document's reference for nat: the calls DocAdd, DocSub, DocCmp. Walks of nat.Shl and of the document's reference: Shl, DocShl. The walk of the document's reference for nat: half, Gcd. The walk of the document's reference for nat: Gcd. Walks of package nat: divMod by one limb or of a lesser number, gcd of one limb, and the calls DivMod and Gcd there.
-/
import Derived.Test.YtgmllfcngnfpkaaGreatZ0
import Derived.Shelf.Small.Bits
import Derived.Shelf.Strconv.Itoa0
import Derived.Shelf.Bits.Mul64
import Derived.Test.YtgmllfcngnfpkaaGreatProg
import Derived.BigRegion
import Derived.Deep.RegionWith
import Derived.Deep.RegionHeld3
namespace Go.Proofs.YtgmllfcngnfpkaaGreat
open Go.RowKit
set_option maxRecDepth 100000 in
set_option maxHeartbeats 2000000 in
theorem rsubO_c (ao bo:Option Addr) (n m ca cb:Nat) (f h:Nat → Int) (w:World) (hn:n ≤ 1048576) (hm:m ≤ 1048576) (hmn:m ≤ n) (hr:Rd .u64 w ao n f) (hs:Rd .u64 w bo m h) (hf:Dg f n) (hh:Dg h m) (hle:vd h m ≤ vd f n) :
  Calls Tryz.prog 110 #[.slice ao n ca,.slice bo m cb] w fun e w'=>∃ ao' k cap' D,e=.returned (.slice ao' k cap') ∧ Below w.heap.size w w' ∧ Rd .u64 w' ao' k D ∧ k ≤ n ∧ Dg D k ∧ Fm D k ∧ (∀ a,ao'=some a → w.heap.size ≤ a.block) ∧ vd D k=vd f n - vd h m:=by
 obtain ⟨i0,hi,hz0,hz1,hz2⟩:=info_parts Tryz.infoU64
 have RA:=hid hr
 have RB:=hid hs
 have DA:=hid hf
 have DB:=hid hh
 have HLe:=hid hle
 clear hr hs hf hh hle
 go_enter Tryz.func110,Tryz.ntmps110
 go_wp2_with (at_make;refine wpList_make_own w rfl (.const (.int .i64 0)) (.tmp 11) 22 rfl w.heap.size 79 i0 (.int .u64 0) 1 Tryz.underlying22 hi hz0 hz1 .i64 .i64 n n rfl rfl (by omega) (by rw [hz2];omega) (by unfold maxLen;omega) (Nat.le_refl _) ?_;intro w1 hown1 hgr1)
 have hb1:Below w.heap.size w w1:=(Below.refl _ _).grown hgr1 (Nat.le_refl _) (fun k h=>by cases h)
 have HO1:=hid (show Own .u64 79 w1 w.heap.size (.slice (some ⟨w.heap.size,0,none⟩) 0 n) 0 (fun _=>0) from hown1)
 clear hown1 hgr1
 go_loopw [5,6,15] (fun v c t wr=>∃ (k:Nat) (cc:Int) (D:Nat → Int),k ≤ n ∧ t=.int .i64 k ∧ c=.int .u64 cc ∧ 0 ≤ cc ∧ cc ≤ 1 ∧ Below w.heap.size w wr ∧ Hid (Own .u64 79 wr w.heap.size v k D) ∧ Hid (Dg D k) ∧ Hid (vd D k - cc * pd k=vd f k - vd (ext h m) k)) (fun _ _ t _=>n - (intOf t).toNat)
 case atStart=>exact ⟨0,0,fun _=>0,by omega,rfl,rfl,by omega,by omega,hb1,HO1.out,fun j hj=>by omega,by simp [Hid,vd,pd]⟩
 case round =>
  clear hb1 HO1
  obtain ⟨k,cc,D,hk,rfl,rfl,c0,c1,hbel,HO,HDg,HV⟩:=hrel
  by_cases hlt:k < n
  ·have hrA:=RA.out
   obtain ⟨b,o,rfl⟩:=hrA.at (by omega)
   obtain ⟨x,hx⟩:∃ x,f k=x:=⟨_,rfl⟩
   have hcell:wr.cell? ⟨b,o + k,none⟩=some (.int .u64 x):=by rw [← hx];exact (hrA.below hbel (Nat.le_refl _)).cell hlt
   obtain ⟨x0,x1⟩:=DA.out k hlt
   rw [hx] at x0 x1
   have HX:=hid hx
   clear hx hrA
   by_cases hlt2:k < m
   ·have hrB:=RB.out
    obtain ⟨b',o',rfl⟩:=hrB.at (by omega)
    obtain ⟨y,hy⟩:∃ y,h k=y:=⟨_,rfl⟩
    have hcelb:wr.cell? ⟨b',o' + k,none⟩=some (.int .u64 y):=by rw [← hy];exact (hrB.below hbel (Nat.le_refl _)).cell hlt2
    obtain ⟨y0,y1⟩:=DB.out k hlt2
    rw [hy] at y0 y1
    have HY:=hid (show ext h m k=y from (ext_in _ _ _ hlt2).trans hy)
    clear hy hrB
    by_cases hxy:x < cc + y
    ·go_wp2_with (at_builtin;refine wpList_append_own_list .u64 _ rfl (.tmp 36) (.tmp 40) 22 rfl w.heap.size 79 8 Tryz.underlying22 Tryz.infoU64 _ k D rfl (Own.alloc HO.out _) wr.heap.size 0 1 1 (fun _=>x + 4294967296 - (cc + y)) rfl (rd_new1 wr _ _) ?c1 ?c2 ?c3 ?_)
     case c1=>unfold maxLen;omega
     case c2=>omega
     case c3=>have:=hbel.size;simp;omega
     intro v' w' hown hgr
     have hbel2:Below w.heap.size w w':=(hbel.alloc hbel.size _).grown hgr (by have:=hbel.size;simp;omega) (fun k h=>(Own.ge HO.out k h))
     have HO2:=hid hown
     clear hown hgr HO
     go_wp2
     go_roundw
     case rel=>exact ⟨k + 1,1,_,by omega,by go_num,rfl,by omega,by omega,hbel2,HO2.out,dg_cat1 HDg.out (by omega),dborrow_step HV.out HX.out HY.out (by omega)⟩
     case measure=>simp [intOf];omega
    ·go_wp2_with (at_builtin;refine wpList_append_own_list .u64 _ rfl (.tmp 36) (.tmp 40) 22 rfl w.heap.size 79 8 Tryz.underlying22 Tryz.infoU64 _ k D rfl (Own.alloc HO.out _) wr.heap.size 0 1 1 (fun _=>x - (cc + y)) rfl (rd_new1 wr _ _) ?c1 ?c2 ?c3 ?_)
     case c1=>unfold maxLen;omega
     case c2=>omega
     case c3=>have:=hbel.size;simp;omega
     intro v' w' hown hgr
     have hbel2:Below w.heap.size w w':=(hbel.alloc hbel.size _).grown hgr (by have:=hbel.size;simp;omega) (fun k h=>(Own.ge HO.out k h))
     have HO2:=hid hown
     clear hown hgr HO
     go_wp2
     go_roundw
     case rel=>exact ⟨k + 1,0,_,by omega,by go_num,rfl,by omega,by omega,hbel2,HO2.out,dg_cat1 HDg.out (by omega),dborrow_step HV.out HX.out HY.out (by omega)⟩
     case measure=>simp [intOf];omega
   ·have HY:=hid (show ext h m k=0 from ext_out _ _ _ (by omega))
    by_cases hxy:x < cc
    ·go_wp2_with (at_builtin;refine wpList_append_own_list .u64 _ rfl (.tmp 36) (.tmp 40) 22 rfl w.heap.size 79 8 Tryz.underlying22 Tryz.infoU64 _ k D rfl (Own.alloc HO.out _) wr.heap.size 0 1 1 (fun _=>x + 4294967296 - cc) rfl (rd_new1 wr _ _) ?c1 ?c2 ?c3 ?_)
     case c1=>unfold maxLen;omega
     case c2=>omega
     case c3=>have:=hbel.size;simp;omega
     intro v' w' hown hgr
     have hbel2:Below w.heap.size w w':=(hbel.alloc hbel.size _).grown hgr (by have:=hbel.size;simp;omega) (fun k h=>(Own.ge HO.out k h))
     have HO2:=hid hown
     clear hown hgr HO
     go_wp2
     go_roundw
     case rel=>exact ⟨k + 1,1,_,by omega,by go_num,rfl,by omega,by omega,hbel2,HO2.out,dg_cat1 HDg.out (by omega),dborrow_step HV.out HX.out HY.out (by omega)⟩
     case measure=>simp [intOf];omega
    ·go_wp2_with (at_builtin;refine wpList_append_own_list .u64 _ rfl (.tmp 36) (.tmp 40) 22 rfl w.heap.size 79 8 Tryz.underlying22 Tryz.infoU64 _ k D rfl (Own.alloc HO.out _) wr.heap.size 0 1 1 (fun _=>x - cc) rfl (rd_new1 wr _ _) ?c1 ?c2 ?c3 ?_)
     case c1=>unfold maxLen;omega
     case c2=>omega
     case c3=>have:=hbel.size;simp;omega
     intro v' w' hown hgr
     have hbel2:Below w.heap.size w w':=(hbel.alloc hbel.size _).grown hgr (by have:=hbel.size;simp;omega) (fun k h=>(Own.ge HO.out k h))
     have HO2:=hid hown
     clear hown hgr HO
     go_wp2
     go_roundw
     case rel=>exact ⟨k + 1,0,_,by omega,by go_num,rfl,by omega,by omega,hbel2,HO2.out,dg_cat1 HDg.out (by omega),dborrow_step HV.out HX.out HY.out (by omega)⟩
     case measure=>simp [intOf];omega
  ·have hkn:k=n:=by omega
   subst hkn
   obtain ⟨ao',cap',hv,hcc,hnn,hml,hrd,hlt3⟩:=HO.out.shape
   unfold maxLen at hml
   subst hv
   have HLT:=hid hlt3
   clear HO hlt3
   go_wp2_with fail
   refine (low_c ao' k cap' D wr hcc hml hrd hnn).mono ?_
   rintro e w2 ⟨rfl,m',hm1,hz,hfm,rfl⟩
   have HZ:=hid hz
   have HFM:=hid hfm
   clear hz hfm
   go_wp2
   go_ret
   refine ⟨ao',m',cap',_,rfl,hbel,hrd.take hm1,by omega,HDg.out.mono hm1,HFM.out,fun a ha=>(HLT.out a ha).1,?_⟩
   have hv:=HV.out
   have h1:=vd_lt HDg.out
   have h2:=HLe.out
   rw [vd_ext_list _ _ _ hmn] at hv
   rw [trim_vald hm1 HZ.out]
   by_cases hc:cc=0
   ·subst hc;simpa using hv
   ·obtain rfl:cc=1:=by omega
    omega
end Go.Proofs.YtgmllfcngnfpkaaGreat
namespace Go.Proofs
open Go.Shelf
def Tryz.lays134_ren:Go.Shelf.Ren:=⟨fun | 134=>163 | 129=>173 | n=>n,fun | 53=>79 | 3=>3 | 4=>4 | 46=>139 | 5=>5 | 9=>9 | n=>n,fun | n=>n⟩
theorem Tryz.lays134:Go.Proofs.Lays.n134 Tryz.prog Tryz.lays134_ren:={
 mixed:=by kernel_rfl
 f129:=Tryz.func173.trans (congrArg some (by kernel_rfl))
 f134:=Tryz.func163.trans (congrArg some (by kernel_rfl))
 t3:=Tryz.underlying3
 a3:=Tryz.isAgg3
 z3:=Tryz.sizeOf3
 v3:=Tryz.zeroValue3
 t4:=Tryz.underlying4
 a4:=Tryz.isAgg4
 z4:=Tryz.sizeOf4
 v4:=Tryz.zeroValue4
 t5:=Tryz.underlying5
 a5:=Tryz.isAgg5
 z5:=Tryz.sizeOf5
 v5:=Tryz.zeroValue5
 t9:=Tryz.underlying9
 a9:=Tryz.isAgg9
 z9:=Tryz.sizeOf9
 v9:=Tryz.zeroValue9
 t46:=Tryz.underlying139
 a46:=Tryz.isAgg139
 z46:=Tryz.sizeOf139
 v46:=Tryz.zeroValue139
 t53:=Tryz.underlying79
 a53:=Tryz.isAgg79
 z53:=Tryz.sizeOf79
 v53:=Tryz.zeroValue79 }
theorem Tryz.bits_LeadingZeros64 (x:Int) (w:World) (h0:0 ≤ x) (h1:x ≤ 18446744073709551615) :
  Calls Tryz.prog 163 #[.int .u64 x] w fun e w'=>e=.returned (.int .i64 (64 - (Lib.bitLen x.toNat:Int))) ∧ w'=w:=Any.bits_LeadingZeros64 Tryz.lays134 x w h0 h1
def Tryz.lays264_ren:Go.Shelf.Ren:=⟨fun | 264=>180 | n=>n,fun | 53=>79 | 46=>139 | n=>n,fun | n=>n⟩
theorem Tryz.lays264:Go.Proofs.Lays.n264 Tryz.prog Tryz.lays264_ren:={
 mixed:=by kernel_rfl
 f264:=Tryz.func180.trans (congrArg some (by kernel_rfl))
 t46:=Tryz.underlying139
 a46:=Tryz.isAgg139
 z46:=Tryz.sizeOf139
 v46:=Tryz.zeroValue139
 t53:=Tryz.underlying79
 a53:=Tryz.isAgg79
 z53:=Tryz.sizeOf79
 v53:=Tryz.zeroValue79 }
open Go.RowKit Go.Lib in
theorem Tryz.bits_Mul64 (x y:Nat) (hx:x < 18446744073709551616) (hy:y < 18446744073709551616) (w:World) :
  Calls Tryz.prog 180 #[.int .u64 x,.int .u64 y] w fun e w'=>e=.returned (.tuple #[.int .u64 ((x * y / 18446744073709551616:Nat):Int),.int .u64 ((x * y % 18446744073709551616:Nat):Int)]) ∧ w'=w:=Any.bits_Mul64 Tryz.lays264 x y hx hy w
end Go.Proofs
namespace Go.Proofs.YtgmllfcngnfpkaaGreat
open Go.RowKit
structure Gs (U u1 Y y1 y0 q r:Int):Prop where
 q0:0 ≤ q
 r0:0 ≤ r
 eq:U=q * y1 + r
 up:U * 4294967296 + u1 < (q + 1) * Y
theorem gs_start {U u1 Y y1 y0:Int} (hU0:0 ≤ U) (hY:Y=y1 * 4294967296 + y0) (h1:0 < y1) (h0:0 ≤ y0) (k1:u1 < 4294967296):Gs U u1 Y y1 y0 (U / y1) (U - U / y1 * y1):=by
 have a:=Int.emod_nonneg U (Int.ne_of_gt h1)
 have b:=Int.emod_lt_of_pos U h1
 have c:=Int.mul_ediv_add_emod U y1
 have d:U / y1 * y1=y1 * (U / y1):=Int.mul_comm _ _
 have e:0 ≤ U / y1:=Int.ediv_nonneg hU0 (Int.le_of_lt h1)
 have f:0 ≤ (U / y1 + 1) * y0:=Int.mul_nonneg (by omega) h0
 have g:(U / y1 + 1) * Y=y1 * (U / y1) * 4294967296 + y1 * 4294967296 + (U / y1 + 1) * y0:=by rw [hY];grind
 refine ⟨e,by omega,by omega,?_⟩
 rw [g];omega
theorem gs_q {U u1 Y y1 y0 q r:Int} (h:Gs U u1 Y y1 y0 q r) (hU:U < Y) (hY:Y=y1 * 4294967296 + y0) (h1:2147483648 ≤ y1) (h2:y0 < 4294967296):q ≤ 4294967297:=by
 apply Int.le_of_lt_add_one
 have:=h.eq;have:=h.r0
 have h3:q * y1 < (4294967297 + 1) * y1:=by omega
 exact Int.lt_of_mul_lt_mul_right h3 (by omega)
theorem gs_pos {U u1 Y q:Int} (hT:0 ≤ U * 4294967296 + u1) (hc:U * 4294967296 + u1 < q * Y) (hY:0 < Y):0 < q:=by
 apply Int.lt_of_not_ge
 intro h
 have:q * Y ≤ 0 * Y:=Int.mul_le_mul_of_nonneg_right h (Int.le_of_lt hY)
 omega
theorem gs_big {U u1 Y q:Int} (hU:U < Y) (k1:u1 < 4294967296) (hY:0 < Y) (hq:4294967296 ≤ q):U * 4294967296 + u1 < q * Y:=by
 have:4294967296 * Y ≤ q * Y:=Int.mul_le_mul_of_nonneg_right hq (Int.le_of_lt hY)
 omega
theorem gs_mul {U u1 Y y1 y0 q r:Int} (h:Gs U u1 Y y1 y0 q r) (hY:Y=y1 * 4294967296 + y0):q * Y=(U - r) * 4294967296 + q * y0:=by
 have:=h.eq
 rw [hY,Int.mul_add,← Int.mul_assoc]
 have:q * y1=U - r:=by omega
 rw [this]
theorem gs_step {U u1 Y y1 y0 q r:Int} (h:Gs U u1 Y y1 y0 q r) (hc:U * 4294967296 + u1 < q * Y) (hq:0 < q) (h1:0 ≤ y1):Gs U u1 Y y1 y0 (q - 1) (r + y1):=by
 have:=h.eq;have:=h.r0
 refine ⟨by omega,by omega,?_,?_⟩
 ·rw [Int.sub_mul];omega
 ·have e:q - 1 + 1=q:=by omega
  rw [e];exact hc
theorem gs_low {U u1 Y y1 y0 q r:Int} (h:Gs U u1 Y y1 y0 q r) (hY:Y=y1 * 4294967296 + y0) (hc:q * y0 ≤ 4294967296 * r + u1):q * Y ≤ U * 4294967296 + u1:=by
 rw [gs_mul h hY];omega
theorem gs_brk {U u1 Y y1 y0 q r:Int} (h:Gs U u1 Y y1 y0 q r) (hY:Y=y1 * 4294967296 + y0) (hq:q ≤ 4294967296) (hr:4294967296 ≤ r) (h0:0 ≤ y0) (h1:y0 < 4294967296) (k0:0 ≤ u1):q * Y ≤ U * 4294967296 + u1:=by
 refine gs_low h hY ?_
 have:q * y0 ≤ 4294967296 * y0:=Int.mul_le_mul_of_nonneg_right hq h0
 omega
theorem gs_rest (U u1 Y t:Int) (h1:t * Y ≤ U * 4294967296 + u1) (h2:U * 4294967296 + u1 < (t + 1) * Y) (hY:Y ≤ 18446744073709551616) :
  IntKind.u64.wrap (IntKind.u64.wrap (IntKind.u64.wrap (U * 4294967296) + u1) - IntKind.u64.wrap (t * Y))=U * 4294967296 + u1 - t * Y ∧ 0 ≤ U * 4294967296 + u1 - t * Y ∧ U * 4294967296 + u1 - t * Y < Y:=by
 rw [Int.add_mul,Int.one_mul] at h2
 refine ⟨?_,by omega,by omega⟩
 simp only [IntKind.wrap_u64]
 generalize t * Y=X at *
 omega
theorem gs_t {U u1 Y t:Int} (h1:t * Y ≤ U * 4294967296 + u1) (hU:U < Y) (k1:u1 < 4294967296) (hY:0 < Y):t < 4294967296:=by
 have:t * Y < 4294967296 * Y:=by omega
 exact Int.lt_of_mul_lt_mul_right this (Int.le_of_lt hY)
set_option maxRecDepth 100000 in
set_option maxHeartbeats 4000000 in
theorem div64_core (hi lo y s Y y1 y0 U L u1 u0:Int) (w:World) (h0:0 < hi) (h1:hi < y) (_hy:y < 18446744073709551616) (_l0:0 ≤ lo) (_l1:lo < 18446744073709551616) (s0:0 ≤ s) (s1:s ≤ 63)
  (hs:Calls Tryz.prog 163 #[.int .u64 y] w fun e w'=>e=.returned (.int .i64 s) ∧ w'=w)
  (hY:IntKind.u64.wrap (y * 2 ^ s.toNat)=Y) (hY1:Y / 4294967296=y1) (hY0:bits BinOp.and .u64 Y 4294967295=y0)
  (hU:bits BinOp.or .u64 (IntKind.u64.wrap (hi * 2 ^ s.toNat)) (lo / 2 ^ (64 - s).toNat)=U) (hL:IntKind.u64.wrap (lo * 2 ^ s.toNat)=L) (hL1:L / 4294967296=u1) (hL0:bits BinOp.and .u64 L 4294967295=u0)
  (y1a:2147483648 ≤ y1) (y1b:y1 < 4294967296) (y0a:0 ≤ y0) (y0b:y0 < 4294967296) (u1a:0 ≤ u1) (u1b:u1 < 4294967296) (u0a:0 ≤ u0) (u0b:u0 < 4294967296) (Ua:0 ≤ U) (Ub:U < y1 * 4294967296 + y0) (hYY:Hid (Y=y1 * 4294967296 + y0)) :
  Calls Tryz.prog 153 #[.int .u64 hi,.int .u64 lo,.int .u64 y] w fun e w'=>w'=w ∧ ∃ q1 q0 R,e=.returned (.tuple #[.int .u64 (q1 * 4294967296 + q0),.int .u64 (R / 2 ^ s.toNat)]) ∧ 0 ≤ R ∧ R < Y ∧ 0 ≤ q1 ∧ q1 < 4294967296 ∧ 0 ≤ q0 ∧ q0 < 4294967296 ∧ (U * 4294967296 + u1) * 4294967296 + u0=(q1 * 4294967296 + q0) * Y + R:=by
 have HS:=hid hs
 clear hs
 obtain ⟨q,hq⟩:∃ q,U / y1=q:=⟨_,rfl⟩
 obtain ⟨p,hp⟩:∃ p,q * y1=p:=⟨_,rfl⟩
 have g:=gs_start Ua hYY.out (by omega) y0a u1b
 rw [hq,hp] at g
 have hq0:=g.q0
 have hr0:=g.r0
 have hqb:=gs_q g (by rw [hYY.out];exact Ub) hYY.out y1a y0b
 have hr1:U - p < y1:=by
  have:=Int.emod_lt_of_pos U (show 0 < y1 by omega);have:=Int.mul_ediv_add_emod U y1
  rw [hq,Int.mul_comm,hp] at this;omega
 have hpa:0 ≤ p:=by rw [← hp];exact Int.mul_nonneg hq0 (by omega)
 have G:=hid g
 clear g
 have hyh:decide (y ≤ hi)=false:=by simp;omega
 have YP:Hid (0 < Y):=by show _ < _;rw [hYY.out];omega
 have hr2:U - p < 4294967296:=by omega
 go_enter Tryz.func153,Tryz.ntmps153
 go_wp2_with fail
 refine HS.out.mono ?_
 rintro e w1 ⟨rfl,rfl⟩
 go_wp2
 go_loop [15,16] (fun c d=>∃ q r:Int,c=.int .u64 q ∧ d=.int .u64 r ∧ 0 ≤ q ∧ q ≤ 4294967297 ∧ 0 ≤ r ∧ r < 4294967296 ∧ Hid (Gs U u1 Y y1 y0 q r)) (fun c _=>(intOf c).toNat)
 case atStart=>exact ⟨U / y1,U - p,rfl,rfl,by rw [hq];exact hq0,by rw [hq];exact hqb,hr0,hr2,by rw [hq];exact G.out⟩
 case round =>
  clear G hr0 hr1 hr2 hpa hqb hq0 hp hq
  obtain ⟨q,r,rfl,rfl,q0a,q0b,r0a,r0b,G⟩:=hrel
  by_cases hbig:4294967296 ≤ q
  ·have hc:=gs_big (q:=q) (by rw [hYY.out];exact Ub) u1b YP.out hbig
   have G1:=hid (gs_step G.out hc (by omega) (by omega))
   clear hc
   by_cases hbr1:4294967296 ≤ r + y1
   ·obtain ⟨t,rfl⟩:∃ t,q=t + 1:=⟨q - 1,by omega⟩
    rw [show t + 1 - 1=t by omega] at G1
    have L1:=hid (gs_brk G1.out hYY.out (by omega) hbr1 y0a y0b u1a)
    obtain ⟨V,hV,hVa,hVb,HVd⟩:∃ V,IntKind.u64.wrap (IntKind.u64.wrap (IntKind.u64.wrap (U * 4294967296) + u1) - IntKind.u64.wrap (t * Y))=V ∧ 0 ≤ V ∧ V < Y ∧ Hid (V=U * 4294967296 + u1 - t * Y):=⟨_,(gs_rest U u1 Y (t) L1.out G1.out.up (by rw [hYY.out];omega)).1,(gs_rest U u1 Y (t) L1.out G1.out.up (by rw [hYY.out];omega)).2.1,(gs_rest U u1 Y (t) L1.out G1.out.up (by rw [hYY.out];omega)).2.2,rfl⟩
    have ht1:t < 4294967296:=gs_t L1.out (by rw [hYY.out];exact Ub) u1b YP.out
    have HVb:=hid hVb
    rw [hYY.out] at hVb
    obtain ⟨k,hk⟩:∃ k,V / y1=k:=⟨_,rfl⟩
    obtain ⟨p2,hp2⟩:∃ p2,k * y1=p2:=⟨_,rfl⟩
    have g:=gs_start hVa hYY.out (by omega) y0a u0b
    rw [hk,hp2] at g
    have hk0:=g.q0
    have hr0:=g.r0
    have hkb:=gs_q g HVb.out hYY.out y1a y0b
    have hr1:V - p2 < y1:=by
     have:=Int.emod_lt_of_pos V (show 0 < y1 by omega);have:=Int.mul_ediv_add_emod V y1
     rw [hk,Int.mul_comm,hp2] at this;omega
    have hp2a:0 ≤ p2:=by rw [← hp2];exact Int.mul_nonneg hk0 (by omega)
    have hr2:V - p2 < 4294967296:=by omega
    have GG:=hid g
    clear g L1 G1
    go_wp2
    go_loop [16,18] (fun d c=>∃ q r:Int,c=.int .u64 q ∧ d=.int .u64 r ∧ 0 ≤ q ∧ q ≤ 4294967297 ∧ 0 ≤ r ∧ r < 4294967296 ∧ Hid (Gs V u0 Y y1 y0 q r)) (fun _ c=>(intOf c).toNat)
    case atStart=>exact ⟨k,V - p2,rfl,rfl,hk0,hkb,hr0,hr2,GG.out⟩
    case round =>
     clear GG hr0 hr1 hr2 hp2a hkb hk0 hp2 hk
     obtain ⟨m,r2,rfl,rfl,m0a,m0b,r20a,r20b,G0⟩:=hrel
     by_cases hbig2:4294967296 ≤ m
     ·have hc:=gs_big (q:=m) HVb.out u0b YP.out hbig2
      have G2:=hid (gs_step G0.out hc (by omega) (by omega))
      clear hc
      by_cases hbr:4294967296 ≤ r2 + y1
      ·obtain ⟨t2,rfl⟩:∃ t2,m=t2 + 1:=⟨m - 1,by omega⟩
       rw [show t2 + 1 - 1=t2 by omega] at G2
       have L2:=hid (gs_brk G2.out hYY.out (by omega) hbr y0a y0b u0a)
       obtain ⟨R,hR,hRa,hRb,HRd⟩:∃ R,IntKind.u64.wrap (IntKind.u64.wrap (IntKind.u64.wrap (V * 4294967296) + u0) - IntKind.u64.wrap (t2 * Y))=R ∧ 0 ≤ R ∧ R < Y ∧ Hid (R=V * 4294967296 + u0 - t2 * Y):=⟨_,(gs_rest V u0 Y (t2) L2.out G2.out.up (by rw [hYY.out];omega)).1,(gs_rest V u0 Y (t2) L2.out G2.out.up (by rw [hYY.out];omega)).2.1,(gs_rest V u0 Y (t2) L2.out G2.out.up (by rw [hYY.out];omega)).2.2,rfl⟩
       have ht0:t2 < 4294967296:=gs_t L2.out (by have:=HVb.out;exact this) u0b YP.out
       have RA:=hid (show 0 ≤ R ∧ R < Y from ⟨hRa,hRb⟩)
       clear hRa hRb L2 G2
       go_wp2
       go_ret2
       refine ⟨rfl,t,t2,R,rfl,RA.out.1,RA.out.2,by omega,by omega,by omega,by omega,?_⟩
       have e1:=HVd.out
       have e0:=HRd.out
       rw [e0,e1]
       generalize Y=Yg
       grind
      ·go_wp2
       go_round
       case rel=>exact ⟨m - 1,r2 + y1,rfl,rfl,by omega,by omega,by omega,by omega,G2.out⟩
       case measure=>simp [intOf];omega
     ·obtain ⟨p3,hp3⟩:∃ p3,m * y0=p3:=⟨_,rfl⟩
      have hp3a:0 ≤ p3:=by rw [← hp3];exact Int.mul_nonneg m0a y0a
      have hp3b:p3 < 18446744073709551616:=by
       rw [← hp3]
       have:=Int.mul_le_mul (show m ≤ 4294967295 by omega) (show y0 ≤ 4294967295 by omega) y0a (by omega)
       omega
      by_cases hcd2:4294967296 * r2 + u0 < p3
      ·have hc:V * 4294967296 + u0 < m * Y:=by rw [gs_mul G0.out hYY.out,hp3];omega
       have hqp:=gs_pos (by omega) hc YP.out
       have G2:=hid (gs_step G0.out hc hqp (by omega))
       clear hc
       by_cases hbr:4294967296 ≤ r2 + y1
       ·obtain ⟨t2,rfl⟩:∃ t2,m=t2 + 1:=⟨m - 1,by omega⟩
        rw [show t2 + 1 - 1=t2 by omega] at G2
        have L2:=hid (gs_brk G2.out hYY.out (by omega) hbr y0a y0b u0a)
        obtain ⟨R,hR,hRa,hRb,HRd⟩:∃ R,IntKind.u64.wrap (IntKind.u64.wrap (IntKind.u64.wrap (V * 4294967296) + u0) - IntKind.u64.wrap (t2 * Y))=R ∧ 0 ≤ R ∧ R < Y ∧ Hid (R=V * 4294967296 + u0 - t2 * Y):=⟨_,(gs_rest V u0 Y (t2) L2.out G2.out.up (by rw [hYY.out];omega)).1,(gs_rest V u0 Y (t2) L2.out G2.out.up (by rw [hYY.out];omega)).2.1,(gs_rest V u0 Y (t2) L2.out G2.out.up (by rw [hYY.out];omega)).2.2,rfl⟩
        have ht0:t2 < 4294967296:=gs_t L2.out (by have:=HVb.out;exact this) u0b YP.out
        have RA:=hid (show 0 ≤ R ∧ R < Y from ⟨hRa,hRb⟩)
        clear hRa hRb L2 G2
        go_wp2
        go_ret2
        refine ⟨rfl,t,t2,R,rfl,RA.out.1,RA.out.2,by omega,by omega,by omega,by omega,?_⟩
        have e1:=HVd.out
        have e0:=HRd.out
        rw [e0,e1]
        generalize Y=Yg
        grind
       ·go_wp2
        go_round
        case rel=>exact ⟨m - 1,r2 + y1,rfl,rfl,by omega,by omega,by omega,by omega,G2.out⟩
        case measure=>simp [intOf];omega
      ·have L2:=hid (gs_low G0.out hYY.out (by rw [hp3];omega))
       have G2:=G0
       obtain ⟨R,hR,hRa,hRb,HRd⟩:∃ R,IntKind.u64.wrap (IntKind.u64.wrap (IntKind.u64.wrap (V * 4294967296) + u0) - IntKind.u64.wrap (m * Y))=R ∧ 0 ≤ R ∧ R < Y ∧ Hid (R=V * 4294967296 + u0 - m * Y):=⟨_,(gs_rest V u0 Y (m) L2.out G2.out.up (by rw [hYY.out];omega)).1,(gs_rest V u0 Y (m) L2.out G2.out.up (by rw [hYY.out];omega)).2.1,(gs_rest V u0 Y (m) L2.out G2.out.up (by rw [hYY.out];omega)).2.2,rfl⟩
       have ht0:m < 4294967296:=gs_t L2.out (by have:=HVb.out;exact this) u0b YP.out
       have RA:=hid (show 0 ≤ R ∧ R < Y from ⟨hRa,hRb⟩)
       clear hRa hRb L2 G2
       go_wp2
       go_ret2
       refine ⟨rfl,t,m,R,rfl,RA.out.1,RA.out.2,by omega,by omega,by omega,by omega,?_⟩
       have e1:=HVd.out
       have e0:=HRd.out
       rw [e0,e1]
       generalize Y=Yg
       grind
   ·go_wp2
    go_round
    case rel=>exact ⟨q - 1,r + y1,rfl,rfl,by omega,by omega,by omega,by omega,G1.out⟩
    case measure=>simp [intOf];omega
  ·obtain ⟨p,hp⟩:∃ p,q * y0=p:=⟨_,rfl⟩
   have hpa:0 ≤ p:=by rw [← hp];exact Int.mul_nonneg q0a y0a
   have hpb:p < 18446744073709551616:=by
    rw [← hp]
    have:=Int.mul_le_mul (show q ≤ 4294967295 by omega) (show y0 ≤ 4294967295 by omega) y0a (by omega)
    omega
   by_cases hcd:4294967296 * r + u1 < p
   ·have hc:U * 4294967296 + u1 < q * Y:=by rw [gs_mul G.out hYY.out,hp];omega
    have hqp:=gs_pos (by omega) hc YP.out
    have G1:=hid (gs_step G.out hc hqp (by omega))
    clear hc
    by_cases hbr1:4294967296 ≤ r + y1
    ·obtain ⟨t,rfl⟩:∃ t,q=t + 1:=⟨q - 1,by omega⟩
     rw [show t + 1 - 1=t by omega] at G1
     have L1:=hid (gs_brk G1.out hYY.out (by omega) hbr1 y0a y0b u1a)
     obtain ⟨V,hV,hVa,hVb,HVd⟩:∃ V,IntKind.u64.wrap (IntKind.u64.wrap (IntKind.u64.wrap (U * 4294967296) + u1) - IntKind.u64.wrap (t * Y))=V ∧ 0 ≤ V ∧ V < Y ∧ Hid (V=U * 4294967296 + u1 - t * Y):=⟨_,(gs_rest U u1 Y (t) L1.out G1.out.up (by rw [hYY.out];omega)).1,(gs_rest U u1 Y (t) L1.out G1.out.up (by rw [hYY.out];omega)).2.1,(gs_rest U u1 Y (t) L1.out G1.out.up (by rw [hYY.out];omega)).2.2,rfl⟩
     have ht1:t < 4294967296:=gs_t L1.out (by rw [hYY.out];exact Ub) u1b YP.out
     have HVb:=hid hVb
     rw [hYY.out] at hVb
     obtain ⟨k,hk⟩:∃ k,V / y1=k:=⟨_,rfl⟩
     obtain ⟨p2,hp2⟩:∃ p2,k * y1=p2:=⟨_,rfl⟩
     have g:=gs_start hVa hYY.out (by omega) y0a u0b
     rw [hk,hp2] at g
     have hk0:=g.q0
     have hr0:=g.r0
     have hkb:=gs_q g HVb.out hYY.out y1a y0b
     have hr1:V - p2 < y1:=by
      have:=Int.emod_lt_of_pos V (show 0 < y1 by omega);have:=Int.mul_ediv_add_emod V y1
      rw [hk,Int.mul_comm,hp2] at this;omega
     have hp2a:0 ≤ p2:=by rw [← hp2];exact Int.mul_nonneg hk0 (by omega)
     have hr2:V - p2 < 4294967296:=by omega
     have GG:=hid g
     clear g L1 G1
     go_wp2
     go_loop [16,18] (fun d c=>∃ q r:Int,c=.int .u64 q ∧ d=.int .u64 r ∧ 0 ≤ q ∧ q ≤ 4294967297 ∧ 0 ≤ r ∧ r < 4294967296 ∧ Hid (Gs V u0 Y y1 y0 q r)) (fun _ c=>(intOf c).toNat)
     case atStart=>exact ⟨k,V - p2,rfl,rfl,hk0,hkb,hr0,hr2,GG.out⟩
     case round =>
      clear GG hr0 hr1 hr2 hp2a hkb hk0 hp2 hk
      obtain ⟨m,r2,rfl,rfl,m0a,m0b,r20a,r20b,G0⟩:=hrel
      by_cases hbig2:4294967296 ≤ m
      ·have hc:=gs_big (q:=m) HVb.out u0b YP.out hbig2
       have G2:=hid (gs_step G0.out hc (by omega) (by omega))
       clear hc
       by_cases hbr:4294967296 ≤ r2 + y1
       ·obtain ⟨t2,rfl⟩:∃ t2,m=t2 + 1:=⟨m - 1,by omega⟩
        rw [show t2 + 1 - 1=t2 by omega] at G2
        have L2:=hid (gs_brk G2.out hYY.out (by omega) hbr y0a y0b u0a)
        obtain ⟨R,hR,hRa,hRb,HRd⟩:∃ R,IntKind.u64.wrap (IntKind.u64.wrap (IntKind.u64.wrap (V * 4294967296) + u0) - IntKind.u64.wrap (t2 * Y))=R ∧ 0 ≤ R ∧ R < Y ∧ Hid (R=V * 4294967296 + u0 - t2 * Y):=⟨_,(gs_rest V u0 Y (t2) L2.out G2.out.up (by rw [hYY.out];omega)).1,(gs_rest V u0 Y (t2) L2.out G2.out.up (by rw [hYY.out];omega)).2.1,(gs_rest V u0 Y (t2) L2.out G2.out.up (by rw [hYY.out];omega)).2.2,rfl⟩
        have ht0:t2 < 4294967296:=gs_t L2.out (by have:=HVb.out;exact this) u0b YP.out
        have RA:=hid (show 0 ≤ R ∧ R < Y from ⟨hRa,hRb⟩)
        clear hRa hRb L2 G2
        go_wp2
        go_ret2
        refine ⟨rfl,t,t2,R,rfl,RA.out.1,RA.out.2,by omega,by omega,by omega,by omega,?_⟩
        have e1:=HVd.out
        have e0:=HRd.out
        rw [e0,e1]
        generalize Y=Yg
        grind
       ·go_wp2
        go_round
        case rel=>exact ⟨m - 1,r2 + y1,rfl,rfl,by omega,by omega,by omega,by omega,G2.out⟩
        case measure=>simp [intOf];omega
      ·obtain ⟨p3,hp3⟩:∃ p3,m * y0=p3:=⟨_,rfl⟩
       have hp3a:0 ≤ p3:=by rw [← hp3];exact Int.mul_nonneg m0a y0a
       have hp3b:p3 < 18446744073709551616:=by
        rw [← hp3]
        have:=Int.mul_le_mul (show m ≤ 4294967295 by omega) (show y0 ≤ 4294967295 by omega) y0a (by omega)
        omega
       by_cases hcd2:4294967296 * r2 + u0 < p3
       ·have hc:V * 4294967296 + u0 < m * Y:=by rw [gs_mul G0.out hYY.out,hp3];omega
        have hqp:=gs_pos (by omega) hc YP.out
        have G2:=hid (gs_step G0.out hc hqp (by omega))
        clear hc
        by_cases hbr:4294967296 ≤ r2 + y1
        ·obtain ⟨t2,rfl⟩:∃ t2,m=t2 + 1:=⟨m - 1,by omega⟩
         rw [show t2 + 1 - 1=t2 by omega] at G2
         have L2:=hid (gs_brk G2.out hYY.out (by omega) hbr y0a y0b u0a)
         obtain ⟨R,hR,hRa,hRb,HRd⟩:∃ R,IntKind.u64.wrap (IntKind.u64.wrap (IntKind.u64.wrap (V * 4294967296) + u0) - IntKind.u64.wrap (t2 * Y))=R ∧ 0 ≤ R ∧ R < Y ∧ Hid (R=V * 4294967296 + u0 - t2 * Y):=⟨_,(gs_rest V u0 Y (t2) L2.out G2.out.up (by rw [hYY.out];omega)).1,(gs_rest V u0 Y (t2) L2.out G2.out.up (by rw [hYY.out];omega)).2.1,(gs_rest V u0 Y (t2) L2.out G2.out.up (by rw [hYY.out];omega)).2.2,rfl⟩
         have ht0:t2 < 4294967296:=gs_t L2.out (by have:=HVb.out;exact this) u0b YP.out
         have RA:=hid (show 0 ≤ R ∧ R < Y from ⟨hRa,hRb⟩)
         clear hRa hRb L2 G2
         go_wp2
         go_ret2
         refine ⟨rfl,t,t2,R,rfl,RA.out.1,RA.out.2,by omega,by omega,by omega,by omega,?_⟩
         have e1:=HVd.out
         have e0:=HRd.out
         rw [e0,e1]
         generalize Y=Yg
         grind
        ·go_wp2
         go_round
         case rel=>exact ⟨m - 1,r2 + y1,rfl,rfl,by omega,by omega,by omega,by omega,G2.out⟩
         case measure=>simp [intOf];omega
       ·have L2:=hid (gs_low G0.out hYY.out (by rw [hp3];omega))
        have G2:=G0
        obtain ⟨R,hR,hRa,hRb,HRd⟩:∃ R,IntKind.u64.wrap (IntKind.u64.wrap (IntKind.u64.wrap (V * 4294967296) + u0) - IntKind.u64.wrap (m * Y))=R ∧ 0 ≤ R ∧ R < Y ∧ Hid (R=V * 4294967296 + u0 - m * Y):=⟨_,(gs_rest V u0 Y (m) L2.out G2.out.up (by rw [hYY.out];omega)).1,(gs_rest V u0 Y (m) L2.out G2.out.up (by rw [hYY.out];omega)).2.1,(gs_rest V u0 Y (m) L2.out G2.out.up (by rw [hYY.out];omega)).2.2,rfl⟩
        have ht0:m < 4294967296:=gs_t L2.out (by have:=HVb.out;exact this) u0b YP.out
        have RA:=hid (show 0 ≤ R ∧ R < Y from ⟨hRa,hRb⟩)
        clear hRa hRb L2 G2
        go_wp2
        go_ret2
        refine ⟨rfl,t,m,R,rfl,RA.out.1,RA.out.2,by omega,by omega,by omega,by omega,?_⟩
        have e1:=HVd.out
        have e0:=HRd.out
        rw [e0,e1]
        generalize Y=Yg
        grind
    ·go_wp2
     go_round
     case rel=>exact ⟨q - 1,r + y1,rfl,rfl,by omega,by omega,by omega,by omega,G1.out⟩
     case measure=>simp [intOf];omega
   ·have L1:=hid (gs_low G.out hYY.out (by rw [hp];omega))
    have G1:=G
    obtain ⟨V,hV,hVa,hVb,HVd⟩:∃ V,IntKind.u64.wrap (IntKind.u64.wrap (IntKind.u64.wrap (U * 4294967296) + u1) - IntKind.u64.wrap (q * Y))=V ∧ 0 ≤ V ∧ V < Y ∧ Hid (V=U * 4294967296 + u1 - q * Y):=⟨_,(gs_rest U u1 Y (q) L1.out G1.out.up (by rw [hYY.out];omega)).1,(gs_rest U u1 Y (q) L1.out G1.out.up (by rw [hYY.out];omega)).2.1,(gs_rest U u1 Y (q) L1.out G1.out.up (by rw [hYY.out];omega)).2.2,rfl⟩
    have ht1:q < 4294967296:=gs_t L1.out (by rw [hYY.out];exact Ub) u1b YP.out
    have HVb:=hid hVb
    rw [hYY.out] at hVb
    obtain ⟨k,hk⟩:∃ k,V / y1=k:=⟨_,rfl⟩
    obtain ⟨p2,hp2⟩:∃ p2,k * y1=p2:=⟨_,rfl⟩
    have g:=gs_start hVa hYY.out (by omega) y0a u0b
    rw [hk,hp2] at g
    have hk0:=g.q0
    have hr0:=g.r0
    have hkb:=gs_q g HVb.out hYY.out y1a y0b
    have hr1:V - p2 < y1:=by
     have:=Int.emod_lt_of_pos V (show 0 < y1 by omega);have:=Int.mul_ediv_add_emod V y1
     rw [hk,Int.mul_comm,hp2] at this;omega
    have hp2a:0 ≤ p2:=by rw [← hp2];exact Int.mul_nonneg hk0 (by omega)
    have hr2:V - p2 < 4294967296:=by omega
    have GG:=hid g
    clear g L1 G1
    go_wp2
    go_loop [16,18] (fun d c=>∃ q r:Int,c=.int .u64 q ∧ d=.int .u64 r ∧ 0 ≤ q ∧ q ≤ 4294967297 ∧ 0 ≤ r ∧ r < 4294967296 ∧ Hid (Gs V u0 Y y1 y0 q r)) (fun _ c=>(intOf c).toNat)
    case atStart=>exact ⟨k,V - p2,rfl,rfl,hk0,hkb,hr0,hr2,GG.out⟩
    case round =>
     clear GG hr0 hr1 hr2 hp2a hkb hk0 hp2 hk
     obtain ⟨m,r2,rfl,rfl,m0a,m0b,r20a,r20b,G0⟩:=hrel
     by_cases hbig2:4294967296 ≤ m
     ·have hc:=gs_big (q:=m) HVb.out u0b YP.out hbig2
      have G2:=hid (gs_step G0.out hc (by omega) (by omega))
      clear hc
      by_cases hbr:4294967296 ≤ r2 + y1
      ·obtain ⟨t2,rfl⟩:∃ t2,m=t2 + 1:=⟨m - 1,by omega⟩
       rw [show t2 + 1 - 1=t2 by omega] at G2
       have L2:=hid (gs_brk G2.out hYY.out (by omega) hbr y0a y0b u0a)
       obtain ⟨R,hR,hRa,hRb,HRd⟩:∃ R,IntKind.u64.wrap (IntKind.u64.wrap (IntKind.u64.wrap (V * 4294967296) + u0) - IntKind.u64.wrap (t2 * Y))=R ∧ 0 ≤ R ∧ R < Y ∧ Hid (R=V * 4294967296 + u0 - t2 * Y):=⟨_,(gs_rest V u0 Y (t2) L2.out G2.out.up (by rw [hYY.out];omega)).1,(gs_rest V u0 Y (t2) L2.out G2.out.up (by rw [hYY.out];omega)).2.1,(gs_rest V u0 Y (t2) L2.out G2.out.up (by rw [hYY.out];omega)).2.2,rfl⟩
       have ht0:t2 < 4294967296:=gs_t L2.out (by have:=HVb.out;exact this) u0b YP.out
       have RA:=hid (show 0 ≤ R ∧ R < Y from ⟨hRa,hRb⟩)
       clear hRa hRb L2 G2
       go_wp2
       go_ret2
       refine ⟨rfl,q,t2,R,rfl,RA.out.1,RA.out.2,by omega,by omega,by omega,by omega,?_⟩
       have e1:=HVd.out
       have e0:=HRd.out
       rw [e0,e1]
       generalize Y=Yg
       grind
      ·go_wp2
       go_round
       case rel=>exact ⟨m - 1,r2 + y1,rfl,rfl,by omega,by omega,by omega,by omega,G2.out⟩
       case measure=>simp [intOf];omega
     ·obtain ⟨p3,hp3⟩:∃ p3,m * y0=p3:=⟨_,rfl⟩
      have hp3a:0 ≤ p3:=by rw [← hp3];exact Int.mul_nonneg m0a y0a
      have hp3b:p3 < 18446744073709551616:=by
       rw [← hp3]
       have:=Int.mul_le_mul (show m ≤ 4294967295 by omega) (show y0 ≤ 4294967295 by omega) y0a (by omega)
       omega
      by_cases hcd2:4294967296 * r2 + u0 < p3
      ·have hc:V * 4294967296 + u0 < m * Y:=by rw [gs_mul G0.out hYY.out,hp3];omega
       have hqp:=gs_pos (by omega) hc YP.out
       have G2:=hid (gs_step G0.out hc hqp (by omega))
       clear hc
       by_cases hbr:4294967296 ≤ r2 + y1
       ·obtain ⟨t2,rfl⟩:∃ t2,m=t2 + 1:=⟨m - 1,by omega⟩
        rw [show t2 + 1 - 1=t2 by omega] at G2
        have L2:=hid (gs_brk G2.out hYY.out (by omega) hbr y0a y0b u0a)
        obtain ⟨R,hR,hRa,hRb,HRd⟩:∃ R,IntKind.u64.wrap (IntKind.u64.wrap (IntKind.u64.wrap (V * 4294967296) + u0) - IntKind.u64.wrap (t2 * Y))=R ∧ 0 ≤ R ∧ R < Y ∧ Hid (R=V * 4294967296 + u0 - t2 * Y):=⟨_,(gs_rest V u0 Y (t2) L2.out G2.out.up (by rw [hYY.out];omega)).1,(gs_rest V u0 Y (t2) L2.out G2.out.up (by rw [hYY.out];omega)).2.1,(gs_rest V u0 Y (t2) L2.out G2.out.up (by rw [hYY.out];omega)).2.2,rfl⟩
        have ht0:t2 < 4294967296:=gs_t L2.out (by have:=HVb.out;exact this) u0b YP.out
        have RA:=hid (show 0 ≤ R ∧ R < Y from ⟨hRa,hRb⟩)
        clear hRa hRb L2 G2
        go_wp2
        go_ret2
        refine ⟨rfl,q,t2,R,rfl,RA.out.1,RA.out.2,by omega,by omega,by omega,by omega,?_⟩
        have e1:=HVd.out
        have e0:=HRd.out
        rw [e0,e1]
        generalize Y=Yg
        grind
       ·go_wp2
        go_round
        case rel=>exact ⟨m - 1,r2 + y1,rfl,rfl,by omega,by omega,by omega,by omega,G2.out⟩
        case measure=>simp [intOf];omega
      ·have L2:=hid (gs_low G0.out hYY.out (by rw [hp3];omega))
       have G2:=G0
       obtain ⟨R,hR,hRa,hRb,HRd⟩:∃ R,IntKind.u64.wrap (IntKind.u64.wrap (IntKind.u64.wrap (V * 4294967296) + u0) - IntKind.u64.wrap (m * Y))=R ∧ 0 ≤ R ∧ R < Y ∧ Hid (R=V * 4294967296 + u0 - m * Y):=⟨_,(gs_rest V u0 Y (m) L2.out G2.out.up (by rw [hYY.out];omega)).1,(gs_rest V u0 Y (m) L2.out G2.out.up (by rw [hYY.out];omega)).2.1,(gs_rest V u0 Y (m) L2.out G2.out.up (by rw [hYY.out];omega)).2.2,rfl⟩
       have ht0:m < 4294967296:=gs_t L2.out (by have:=HVb.out;exact this) u0b YP.out
       have RA:=hid (show 0 ≤ R ∧ R < Y from ⟨hRa,hRb⟩)
       clear hRa hRb L2 G2
       go_wp2
       go_ret2
       refine ⟨rfl,q,m,R,rfl,RA.out.1,RA.out.2,by omega,by omega,by omega,by omega,?_⟩
       have e1:=HVd.out
       have e0:=HRd.out
       rw [e0,e1]
       generalize Y=Yg
       grind
theorem wraps_u64 (n:Int) (h0:0 ≤ n) (h1:n < 2 ^ 64):IntKind.u64.wrap n=n:=by rw [IntKind.wrap_u64];omega
theorem bitLen_bounds : ∀ (b x : Nat), Lib.bitLen x = b → 0 < x → x < 18446744073709551616 → 1 ≤ b ∧ 2 ^ (b - 1) ≤ x ∧ x < 2 ^ b := by
  intro b
  induction b with
  | zero =>
    intro x h h0 h1
    rw [Lib.bitLen_half x (by omega) (by omega)] at h
    omega
  | succ b ih =>
    intro x h h0 h1
    rw [Lib.bitLen_half x (by omega) (by omega)] at h
    by_cases hx : x = 1
    · subst hx
      have : b = 0 := by have h2 : Lib.bitLen (1 / 2) = 0 := by decide +kernel
                         omega
      subst this
      simp
    · obtain ⟨a1, a2, a3⟩ := ih (x / 2) (by omega) (by omega) (by omega)
      obtain ⟨c, rfl⟩ : ∃ c, b = c + 1 := ⟨b - 1, by omega⟩
      simp only [Nat.add_sub_cancel, Nat.pow_succ] at a2 a3 ⊢
      omega
theorem div64_nums (hi lo y:Int) (b:Nat) (h0:0 ≤ hi) (h1:hi < y) (l0:0 ≤ lo) (l1:lo < 18446744073709551616) (_b1:1 ≤ b) (_b2:b ≤ 64) (p q:Int) (hp:p=2 ^ (64 - b)) (hq:q=2 ^ b) (hpq:p * q=18446744073709551616) (p0:0 < p) (q0:0 < q) (ya:q ≤ 2 * y) (yb:y < q) :
  ∃ Y U L:Int,y * p=Y ∧ 9223372036854775808 ≤ Y ∧ Y < 18446744073709551616 ∧ bits BinOp.or .u64 (IntKind.u64.wrap (hi * p)) (lo / q)=U ∧ 0 ≤ U ∧ U < Y ∧ IntKind.u64.wrap (lo * p)=L ∧ 0 ≤ L ∧ L < 18446744073709551616 ∧ U * 18446744073709551616 + L=(hi * 18446744073709551616 + lo) * p:=by
 have eY:y * p < q * p:=(Int.mul_lt_mul_right p0).2 yb
 have eY2:q * p ≤ 2 * y * p:=Int.mul_le_mul_of_nonneg_right ya (Int.le_of_lt p0)
 rw [Int.mul_comm q p,hpq] at eY eY2
 have eH:hi * p < y * p:=(Int.mul_lt_mul_right p0).2 h1
 have eH0:0 ≤ hi * p:=Int.mul_nonneg h0 (Int.le_of_lt p0)
 have d0:0 ≤ lo / q:=Int.ediv_nonneg l0 (Int.le_of_lt q0)
 have d1:lo / q < p:=by
  apply Int.ediv_lt_of_lt_mul q0
  rw [hpq];exact l1
 have hw:IntKind.u64.wrap (hi * p)=hi * p:=by rw [IntKind.wrap_u64];omega
 have hor:bits BinOp.or .u64 (IntKind.u64.wrap (hi * p)) (lo / q)=hi * p + lo / q:=by
  rw [hw]
  refine bits_join .u64 64 (by decide) wraps_u64 (64 - b) _ _ eH0 ?_ (by omega) d0 (by rw [← hp];exact d1) ?_
  ·rw [← hp];exact Int.mul_emod_left _ _
  ·have:p ≤ 18446744073709551616:=by rw [← hpq];have:=Int.mul_le_mul_of_nonneg_left (show (1:Int) ≤ q by omega) (Int.le_of_lt p0);omega
   omega
 have e1:lo * p / 18446744073709551616=lo / q:=by
  rw [← hpq,Int.mul_comm lo p]
  exact Int.mul_ediv_mul_of_pos _ _ p0
 have e2:=Int.mul_ediv_add_emod (lo * p) 18446744073709551616
 rw [e1] at e2
 have e3:(hi * 18446744073709551616 + lo) * p=hi * p * 18446744073709551616 + lo * p:=by rw [Int.add_mul];congr 1;rw [Int.mul_assoc,Int.mul_comm 18446744073709551616 p,← Int.mul_assoc]
 have e4:(hi * p + lo / q) * 18446744073709551616 + (lo * p) % 18446744073709551616=(hi * 18446744073709551616 + lo) * p:=by rw [e3];omega
 refine ⟨y * p,hi * p + lo / q,(lo * p) % 18446744073709551616,rfl,by rw [Int.mul_assoc] at eY2;omega,eY,hor,by omega,?_,IntKind.wrap_u64 _,by omega,by omega,e4⟩
 have f1:(hi * 18446744073709551616 + lo) * p < y * 18446744073709551616 * p:=(Int.mul_lt_mul_right p0).2 (by omega)
 have f2:y * 18446744073709551616 * p=y * p * 18446744073709551616:=by rw [Int.mul_assoc,Int.mul_comm 18446744073709551616 p,← Int.mul_assoc]
 omega
theorem qr_unique {X y q r:Int} (h:X=q * y + r) (h0:0 ≤ r) (h1:r < y):X / y=q ∧ X % y=r:=by
 have hy:0 < y:=by omega
 have e1:X / y=q:=by
  rw [h,Int.add_comm,Int.add_mul_ediv_right _ _ (by omega),Int.ediv_eq_zero_of_lt h0 h1];omega
 refine ⟨e1,?_⟩
 have:=Int.mul_ediv_add_emod X y
 rw [e1,Int.mul_comm] at this
 omega
set_option maxHeartbeats 1000000 in
theorem div64_c (hi lo y:Int) (w:World) (h0:0 ≤ hi) (h1:hi < y) (hy:y < 18446744073709551616) (l0:0 ≤ lo) (l1:lo < 18446744073709551616) :
  Calls Tryz.prog 153 #[.int .u64 hi,.int .u64 lo,.int .u64 y] w fun e w'=>e=.returned (.tuple #[.int .u64 ((hi * 18446744073709551616 + lo) / y),.int .u64 ((hi * 18446744073709551616 + lo) % y)]) ∧ ∃ n,w'=w.drewN n:=by
 by_cases hz:hi=0
 ·subst hz
  have e0:0 * 18446744073709551616 + lo=lo:=by omega
  rw [e0]
  have b0:0 ≤ lo / y:=Int.ediv_nonneg l0 (by omega)
  have b1:lo / y ≤ lo:=Int.ediv_le_self y l0
  have b2:=Int.emod_nonneg lo (show y ≠ 0 by omega)
  have b3:=Int.emod_lt_of_pos lo (show 0 < y by omega)
  go_enter Tryz.func153,Tryz.ntmps153
  go_wp2
  go_quiet (fail)
  go_wp2
  go_ret2
  exact ⟨rfl,_,rfl⟩
 ·obtain ⟨yn,rfl⟩:=Int.eq_ofNat_of_zero_le (show 0 ≤ y by omega)
  obtain ⟨b,hb⟩:∃ b,Lib.bitLen yn=b:=⟨_,rfl⟩
  obtain ⟨b1,b2,b3⟩:=bitLen_bounds b yn hb (by omega) (by omega)
  have b64:b ≤ 64:=by rw [← hb];exact Lib.bitLen_le yn 64 (by omega) (by omega)
  have hls:=Tryz.bits_LeadingZeros64 (yn:Int) w (by omega) (by omega)
  rw [Int.toNat_natCast,hb] at hls
  have hp64:(2:Int) ^ (64 - b) * 2 ^ b=18446744073709551616:=by rw [← Int.pow_add,show 64 - b + b=64 by omega];rfl
  have hya:(2:Int) ^ b ≤ 2 * (yn:Int):=by
   have:2 ^ b=2 ^ (b - 1) * 2:=by rw [← Nat.pow_succ,show (b - 1).succ=b by omega]
   have h2:2 ^ b ≤ 2 * yn:=by omega
   exact_mod_cast h2
  have hyb:(yn:Int) < 2 ^ b:=by exact_mod_cast b3
  obtain ⟨Y,U,L,e1,c1,c2,e2,c3,c4,e3,c5,c6,e4⟩:=div64_nums hi lo yn b h0 h1 l0 l1 b1 b64 (2 ^ (64 - b)) (2 ^ b) rfl rfl hp64 (Int.pow_pos (by decide)) (Int.pow_pos (by decide)) hya hyb
  have es:(64 - (b:Int)).toNat=64 - b:=by omega
  have eb:(64 - (64 - (b:Int))).toNat=b:=by omega
  have hand:∀ z:Int,0 ≤ z → z < 18446744073709551616 → bits BinOp.and .u64 z 4294967295=z % 4294967296:=fun z z0 z1=>bits_mask .u64 64 (by decide) wraps_u64 32 (by decide) z z0 z1
  refine (div64_core hi lo yn (64 - (b:Int)) Y (Y / 4294967296) (Y % 4294967296) U L (L / 4294967296) (L % 4294967296) w (by omega) h1 hy l0 l1 (by omega) (by omega) hls
   (by rw [es,e1,IntKind.wrap_u64];omega) rfl (hand Y (by omega) (by omega)) (by rw [es,eb];exact e2) (by rw [es];exact e3) rfl (hand L c5 c6) (by omega) (by omega) (by omega) (by omega) (by omega) (by omega) (by omega) (by omega) c3 (by omega) (show Y=_ by omega)).mono ?_
  rintro e w' ⟨rfl,q1,q0,R,rfl,r0,r1,_,_,_,_,hfin⟩
  refine ⟨?_,0,rfl⟩
  rw [es]
  have f1:(U * 4294967296 + L / 4294967296) * 4294967296 + L % 4294967296=U * 18446744073709551616 + L:=by omega
  rw [f1,e4,← e1] at hfin
  have P0:(0:Int) < 2 ^ (64 - b):=Int.pow_pos (by decide)
  generalize (2:Int) ^ (64 - b)=P at *
  have f2:R=(hi * 18446744073709551616 + lo - (q1 * 4294967296 + q0) * yn) * P:=by
   rw [Int.sub_mul,Int.mul_assoc (q1 * 4294967296 + q0)];omega
  have f3:R / P=hi * 18446744073709551616 + lo - (q1 * 4294967296 + q0) * yn:=by rw [f2];exact Int.mul_ediv_cancel _ (by omega)
  have f4:0 ≤ hi * 18446744073709551616 + lo - (q1 * 4294967296 + q0) * yn:=by
   rw [← f3];exact Int.ediv_nonneg r0 (Int.le_of_lt P0)
  have f5:hi * 18446744073709551616 + lo - (q1 * 4294967296 + q0) * yn < yn:=by
   have:(hi * 18446744073709551616 + lo - (q1 * 4294967296 + q0) * yn) * P < yn * P:=by rw [← f2,e1];exact r1
   exact Int.lt_of_mul_lt_mul_right this (Int.le_of_lt P0)
  obtain ⟨g1,g2⟩:=qr_unique (X:=hi * 18446744073709551616 + lo) (y:=yn) (q:=q1 * 4294967296 + q0) (r:=hi * 18446744073709551616 + lo - (q1 * 4294967296 + q0) * yn) (by omega) f4 f5
  rw [g1,g2,f3]
theorem lm_zero (n:Nat):Lm (fun _=>0) n:=fun _ _=>⟨Int.le_refl 0,(by decide:(0:Int) < 18446744073709551616)⟩
theorem vf_cons (f:Nat → Int) (m i:Nat):vf (sh f m) (i + 1)=f m + 18446744073709551616 * vf (sh f (m + 1)) i:=by
 rw [Nat.add_comm i 1,vf_split (sh f m) 1 i,sh_sh]
 have e1:vf (sh f m) 1=f m:=by simp [vf,pw,sh]
 have e2:pw 1=18446744073709551616:=by simp [pw]
 rw [e1,e2];omega
theorem divw_step {f q q':Nat → Int} {k i:Nat} {r wd:Int} (HV:vf (sh f (k + 1)) i=vf (sh q (k + 1)) i * wd + r) (hq:∀ j,k < j → q' j=q j) (hk:q' k=(r * 18446744073709551616 + f k) / wd) :
  vf (sh f k) (i + 1)=vf (sh q' k) (i + 1) * wd + (r * 18446744073709551616 + f k) % wd:=by
 have e1:vf (sh q' (k + 1)) i=vf (sh q (k + 1)) i:=vf_congr (fun j hj=>hq _ (by omega))
 rw [vf_cons,vf_cons,e1,HV,hk]
 have e2:=Int.mul_ediv_add_emod (r * 18446744073709551616 + f k) wd
 generalize (r * 18446744073709551616 + f k) / wd=Q at *
 generalize (r * 18446744073709551616 + f k) % wd=R at *
 grind
set_option maxRecDepth 100000 in
set_option maxHeartbeats 1000000 in
theorem divWord_c (ao:Option Addr) (n cap:Nat) (f:Nat → Int) (wd:Int) (w:World) (hn:n ≤ 17592186044416) (hr:Rd .u64 w ao n f) (hf:Lm f n) (w0:0 < wd) (w1:wd < 18446744073709551616) :
  Calls Tryz.prog 171 #[.slice ao n cap,.int .u64 wd] w fun e w'=>∃ ao' k cap' q r,e=.returned (.tuple #[.slice ao' k cap',.int .u64 r]) ∧ Res n w w' ao' k cap' q ∧ 0 ≤ r ∧ r < wd ∧ vf f n=vf q k * wd + r:=by
 have HR:=hid hr
 have HF:=hid hf
 clear hr hf
 go_enter Tryz.func171,Tryz.ntmps171
 go_wp2_with (at_make;refine wpList_make_blk .u64 w rfl (.tmp 11) (.tmp 11) 22 rfl 79 8 Tryz.underlying22 Tryz.infoU64 .i64 .i64 n n n rfl rfl rfl rfl (by omega) (by unfold maxLen;omega) ?_;intro wa hba hbela)
 go_loopw [7,15] (fun c t wr=>∃ (i:Nat) (r:Int) (q:Nat → Int),i ≤ n ∧ t=.int .i64 i ∧ c=.int .u64 r ∧ 0 ≤ r ∧ r < wd ∧ Below w.heap.size w wr ∧ Blk .u64 79 wr w.heap.size n q ∧ Hid (Lm q n) ∧ Hid (vf (sh f (n - i)) i=vf (sh q (n - i)) i * wd + r)) (fun _ t _=>n - (intOf t).toNat)
 case atStart=>exact ⟨0,0,fun _=>0,by omega,rfl,rfl,by omega,w0,hbela,hba,lm_zero n,by simp [Hid,vf]⟩
 case round =>
  clear hba hbela
  obtain ⟨i,r,q,hi,rfl,rfl,r0,r1,hbel,hbl,HL,HV⟩:=hrel
  by_cases hlt:i < n
  ·have hr:=HR.out
   obtain ⟨b,o,rfl⟩:=hr.at (by omega)
   obtain ⟨k,hk⟩:∃ k,k=n - 1 - i:=⟨_,rfl⟩
   have hk1:n - i=k + 1:=by omega
   have hk2:k < n:=by omega
   obtain ⟨x,hx⟩:∃ x,f k=x:=⟨_,rfl⟩
   have hcell:wr.cell? ⟨b,o + (n - 1 - i),none⟩=some (.int .u64 x):=by rw [← hk,← hx];exact (hr.below hbel (Nat.le_refl _)).cell hk2
   have hcelq:=hbl.cell (j:=n - 1 - i) (by omega)
   have hfz:=hbl.frozen (n - 1 - i)
   obtain ⟨x0,x1⟩:=HF.out k hk2
   rw [hx] at x0 x1
   have HX:=hid hx
   have HK:=hid hk
   have HK1:=hid hk1
   clear hx hk hk1 hr
   obtain ⟨Q,hQ⟩:∃ Q,(r * 18446744073709551616 + x) / wd=Q:=⟨_,rfl⟩
   obtain ⟨R,hR⟩:∃ R,(r * 18446744073709551616 + x) % wd=R:=⟨_,rfl⟩
   have c1:=fun w=>div64_c r x wd w r0 r1 w1 x0 x1
   have hR0:0 ≤ R:=by rw [← hR];exact Int.emod_nonneg _ (by omega)
   have hR1:R < wd:=by rw [← hR];exact Int.emod_lt_of_pos _ w0
   have hQ0:0 ≤ Q:=by rw [← hQ];exact Int.ediv_nonneg (by omega) (by omega)
   have hQ1:Q < 18446744073709551616:=by
    rw [← hQ]
    apply Int.ediv_lt_of_lt_mul w0
    have:(r + 1) * 18446744073709551616 ≤ wd * 18446744073709551616:=Int.mul_le_mul_of_nonneg_right (by omega) (by decide)
    rw [Int.mul_comm 18446744073709551616 wd]
    omega
   rw [hQ,hR] at c1
   have C1:=hid c1
   have HQ:=hid hQ
   have HRR:=hid hR
   clear c1 hQ hR
   go_wp2_with fail
   refine (C1.out _).mono ?_
   rintro e wx ⟨rfl,nq,rfl⟩
   go_wp2
   go_roundw
   case rel =>
    refine ⟨i + 1,R,upd q (n - 1 - i) Q,by omega,by go_num,rfl,hR0,hR1,?_,?_,HL.out.upd ⟨hQ0,hQ1⟩,?_⟩
    ·exact (below_drewN hbel nq).setCell (Nat.le_refl _) _
    ·exact Blk.set (show Blk .u64 79 (wr.drewN nq) w.heap.size n q from hbl) _ _
    ·have e1:n - (i + 1)=k:=by have:=HK1.out;omega
     have hv:=HV.out
     rw [HK1.out] at hv
     have:=divw_step (q':=upd q k Q) hv (fun j hj=>upd_other _ _ _ _ (by omega)) (by rw [upd_same,HX.out,HQ.out])
     rw [HX.out,HRR.out] at this
     rw [e1,← HK.out]
     exact this
   case measure=>simp [intOf];omega
  ·have hin:i=n:=by omega
   subst hin
   have hv:vf f i=vf q i * wd + r:=by have:=HV.out;rwa [Nat.sub_self,sh_zero,sh_zero] at this
   have HV2:=hid hv
   clear hv
   go_wp2_with fail
   refine (trim_res w.heap.size i i q w wr hbel (Nat.le_refl _) hbl (Nat.le_refl _) (by omega) HL.out).mono ?_
   rintro e w3 ⟨rfl,ao',k,cap',rfl,hres,hkn,hvt⟩
   have HVT:=hid hvt
   clear hvt
   go_wp2
   go_ret2
   exact ⟨ao',k,cap',q,r,rfl,hres,r0,r1,by rw [HVT.out];exact HV2.out⟩
theorem modw_step {f:Nat → Int} {k i:Nat} {r wd:Int} (HV:vf (sh f (k + 1)) i % wd=r):vf (sh f k) (i + 1) % wd=(r * 18446744073709551616 + f k) % wd:=by
 rw [vf_cons,← HV,Int.add_comm (f k),Int.mul_comm]
 simp [Int.add_emod,Int.mul_emod]
set_option maxHeartbeats 1000000 in
theorem modWord_c (ao:Option Addr) (n cap:Nat) (f:Nat → Int) (wd:Int) (w:World) (hn:n ≤ 17592186044416) (hr:Rd .u64 w ao n f) (hf:Lm f n) (w0:0 < wd) (w1:wd < 18446744073709551616) :
  Calls Tryz.prog 144 #[.slice ao n cap,.int .u64 wd] w fun e w'=>e=.returned (.int .u64 (vf f n % wd)) ∧ ∃ q,w'=w.drewN q:=by
 have HR:=hid hr
 have HF:=hid hf
 clear hr hf
 go_enter Tryz.func144,Tryz.ntmps144
 go_wp2
 go_loopw [5,9] (fun c t wr=>∃ (i:Nat) (r:Int),i ≤ n ∧ t=.int .i64 i ∧ c=.int .u64 r ∧ 0 ≤ r ∧ r < wd ∧ (∃ q,wr=w.drewN q) ∧ Hid (vf (sh f (n - i)) i % wd=r)) (fun _ t _=>n - (intOf t).toNat)
 case atStart=>exact ⟨0,0,by omega,rfl,rfl,by omega,w0,⟨0,rfl⟩,by simp [Hid,vf]⟩
 case round =>
  obtain ⟨i,r,hi,rfl,rfl,r0,r1,⟨q,rfl⟩,HV⟩:=hrel
  by_cases hlt:i < n
  ·have hr:=HR.out
   obtain ⟨b,o,rfl⟩:=hr.at (by omega)
   obtain ⟨k,hk⟩:∃ k,k=n - 1 - i:=⟨_,rfl⟩
   have hk1:n - i=k + 1:=by omega
   have hk2:k < n:=by omega
   obtain ⟨x,hx⟩:∃ x,f k=x:=⟨_,rfl⟩
   have hcell:w.cell? ⟨b,o + (n - 1 - i),none⟩=some (.int .u64 x):=by rw [← hk,← hx];exact hr.cell hk2
   obtain ⟨x0,x1⟩:=HF.out k hk2
   rw [hx] at x0 x1
   have HX:=hid hx
   have HK:=hid hk
   have HK1:=hid hk1
   clear hx hk hk1 hr
   obtain ⟨R,hR⟩:∃ R,(r * 18446744073709551616 + x) % wd=R:=⟨_,rfl⟩
   have c1:=fun w=>div64_c r x wd w r0 r1 w1 x0 x1
   have hR0:0 ≤ R:=by rw [← hR];exact Int.emod_nonneg _ (by omega)
   have hR1:R < wd:=by rw [← hR];exact Int.emod_lt_of_pos _ w0
   rw [hR] at c1
   have C1:=hid c1
   have HRR:=hid hR
   clear c1 hR
   go_wp2_with fail
   refine (C1.out _).mono ?_
   rintro e wx ⟨rfl,nq,rfl⟩
   go_wp2
   go_roundw
   case rel =>
    refine ⟨i + 1,R,by omega,by go_num,rfl,hR0,hR1,⟨_,by (repeat rw [World.drewN_drewN]) <;> rfl⟩,?_⟩
    have e1:n - (i + 1)=k:=by have:=HK1.out;omega
    have hv:=HV.out
    rw [HK1.out] at hv
    have:=modw_step (k:=k) (i:=i) (r:=r) hv
    rw [HX.out,HRR.out] at this
    rw [e1]
    exact this
   case measure=>simp [intOf];omega
  ·have hin:i=n:=by omega
   subst hin
   have hv:vf f i % wd=r:=by have:=HV.out;rwa [Nat.sub_self,sh_zero] at this
   have HV2:=hid hv
   clear hv
   go_wp2
   go_ret
   exact ⟨by rw [HV2.out];rfl,q,rfl⟩
set_option maxHeartbeats 1000000 in
theorem gcdWord_c (a b:Nat) (w:World) (ha:a < 18446744073709551616) (hb:b < 18446744073709551616) :
  Calls Tryz.prog 143 #[.int .u64 a,.int .u64 b] w fun e w'=>e=.returned (.int .u64 (Nat.gcd a b:Nat)) ∧ ∃ q,w'=w.drewN q:=by
 go_enter Tryz.func143,Tryz.ntmps143
 go_wp2
 go_loopw [0,1] (fun c d wr=>∃ (x y:Nat),c=.int .u64 x ∧ d=.int .u64 y ∧ x < 18446744073709551616 ∧ y < 18446744073709551616 ∧ (∃ q,wr=w.drewN q) ∧ Hid (Nat.gcd x y=Nat.gcd a b)) (fun _ d _=>(intOf d).toNat)
 case atStart=>exact ⟨a,b,rfl,rfl,ha,hb,⟨0,rfl⟩,rfl⟩
 case round =>
  obtain ⟨x,y,rfl,rfl,hx,hy,⟨q,rfl⟩,HV⟩:=hrel
  by_cases h0:y=0
  ·subst h0
   have hg:x=Nat.gcd a b:=by have:=HV.out;rwa [Nat.gcd_zero_right] at this
   have HG:=hid hg
   clear hg
   go_wp2
   go_ret
   exact ⟨by rw [← HG.out];rfl,q,rfl⟩
  ·have h1:((y:Int) != 0)=true:=by simp;omega
   have h2:(0:Int) < y:=by omega
   have h3:(x:Int) % y < y:=Int.emod_lt_of_pos _ h2
   have h4:0 ≤ (x:Int) % y:=Int.emod_nonneg _ (by omega)
   have h5:x % y < y:=Nat.mod_lt _ (by omega)
   have H5:=hid h5
   clear h5
   go_wp2
   go_quiet (fail)
   go_wp2
   go_roundw
   case rel=>exact ⟨y,x % y,rfl,by go_num,hy,by have:=H5.out;omega,⟨_,by (repeat rw [World.drewN_drewN]) <;> rfl⟩,by have:=HV.out;rw [Nat.gcd_comm y,← Nat.gcd_rec y x,Nat.gcd_comm];exact this⟩
   case measure=>simp [intOf];exact H5.out
set_option maxRecDepth 100000 in
set_option maxHeartbeats 400000 in
theorem word_c (x:Int) (w:World) (x0:0 ≤ x) (x1:x < 4294967296) :
  Calls Tryz.prog 117 #[.int .u64 x] w fun e w'=>∃ k,e=.returned (.slice (some ⟨w.heap.size,0,none⟩) k 2) ∧ Below w.heap.size w w' ∧ k ≤ 1 ∧ Rd .u64 w' (some ⟨w.heap.size,0,none⟩) k (fun _=>x) ∧ (k=0 → x=0) ∧ Fm (fun _=>x) k:=by
 have hr:=rd_new2 w 79 x
 have m1:x % 4294967296=x:=by omega
 have m2:x / 4294967296=0:=by omega
 rw [m1,m2] at hr
 have HR:=hid hr
 clear hr
 go_enter Tryz.func117,Tryz.ntmps117
 go_wp2_with fail
 refine (low_c (some ⟨w.heap.size,0,none⟩) 2 2 (two32 x) _ (by omega) (by omega) HR.out (fun h=>by cases h)).mono ?_
 rintro e w1 ⟨rfl,k,hk,hz,hfm,rfl⟩
 have hk1:k ≤ 1:=by
  rcases hfm with h | h
  ·omega
  ·apply Nat.le_of_not_lt;intro h2
   obtain rfl:k=2:=by omega
   exact h (by simp [two32,m2])
 have hx0:k=0 → x=0:=fun h=>by
  have:=hz 0 (by omega) (by omega)
  simp [two32,m1] at this
  exact this
 have hr1:∀ j,j < k → two32 x j=x:=by
  intro j hj
  obtain rfl:j=0:=by omega
  simp [two32,m1]
 have hf1:Fm (fun _=>x) k:=by
  rcases hfm with h | h
  ·exact .inl h
  ·by_cases h0:k=0
   ·exact .inl h0
   ·right;rw [hr1 _ (by omega)] at h;exact h
 have HR1:=hid hr1;have HX0:=hid hx0;have HF1:=hid hf1
 clear hz hfm hr1 hx0 hf1
 go_wp2
 go_ret
 exact ⟨k,rfl,(Below.refl _ _).alloc (Nat.le_refl _) _,hk1,(HR.out.take hk).congr HR1.out,HX0.out,HF1.out⟩
theorem vd_cons (f:Nat → Int) (m i:Nat):vd (sh f m) (i + 1)=f m + 4294967296 * vd (sh f (m + 1)) i:=by
 rw [Nat.add_comm i 1,vd_split (sh f m) 1 i,sh_sh]
 have e1:vd (sh f m) 1=f m:=by simp [vd,pd,sh]
 have e2:pd 1=4294967296:=by simp [pd]
 rw [e1,e2];omega
structure Dn (w:World) (x:Option Addr) (n:Nat) (d:Nat → Int) (V:Nat):Prop where
 rd:Rd .u64 w x n d
 dg:Dg d n
 fm:Fm d n
 val:vd d n=V
theorem Dn.below {w w' x n d V} (h:Dn w x n d V) (hb:Below w.heap.size w w'):Dn w' x n d V:=⟨h.rd.below hb (Nat.le_refl _),h.dg,h.fm,h.val⟩
theorem Dn.alloc {w x n d V} (h:Dn w x n d V) (o:Obj):Dn (w.alloc o) x n d V:=⟨h.rd.below ((Below.refl _ _).alloc (Nat.le_refl _) o) (Nat.le_refl _),h.dg,h.fm,h.val⟩
theorem Dn.next {w w' x n d V} {o:Obj} (h:Dn w x n d V) (hb:Below (w.alloc o).heap.size (w.alloc o) w'):Dn w' x n d V:=(h.alloc o).below hb
theorem Dn.drew {w x n d V} (h:Dn w x n d V):Dn w.drew x n d V:=⟨h.rd,h.dg,h.fm,h.val⟩
theorem Dn.pos {w x n d V} (h:Dn w x n d V) (hV:0 < V):0 < n:=by
 rcases Nat.eq_zero_or_pos n with h0 | h0
 ·subst h0;have:(0:Int)=V:=h.val;omega
 ·exact h0
theorem Dn.zero {w x d V} (h:Dn w x 0 d V):V=0:=by have:(0:Int)=V:=h.val;omega
theorem Dn.pos' {w x n d V} (h:Dn w x n d V) (hn:0 < n):0 < V:=by
 have h1:=vd_form_ge h.dg h.fm hn
 have h2:=pd_pos (n - 1)
 rw [h.val] at h1
 omega
theorem pd_pow (k:Nat):pd k=2 ^ (32 * k):=by
 induction k with
 | zero=>rfl
 | succ k ih=>rw [pd_succ,ih,show 32 * (k + 1)=32 * k + 32 by omega,Int.pow_add,Int.mul_comm];rfl
theorem limb_cut {x P Q:Int} (x0:0 ≤ x) (x1:x < 18446744073709551616) (hPQ:P * Q=18446744073709551616) (p0:0 < P) (q0:0 < Q) :
  (x * P) % 18446744073709551616=(x % Q) * P ∧ 0 ≤ x / Q ∧ x / Q < P ∧ 0 ≤ (x % Q) * P ∧ (x % Q) * P ≤ 18446744073709551616 - P:=by
 have e1:(x * P) % 18446744073709551616=(x % Q) * P:=by rw [← hPQ,Int.mul_comm x P,Int.mul_emod_mul_of_pos _ _ p0,Int.mul_comm]
 refine ⟨e1,Int.ediv_nonneg x0 (Int.le_of_lt q0),?_,Int.mul_nonneg (Int.emod_nonneg _ (by omega)) (Int.le_of_lt p0),?_⟩
 ·exact Int.ediv_lt_of_lt_mul q0 (by rw [hPQ];exact x1)
 ·have h1:=Int.emod_lt_of_pos x q0
  have h2:(x % Q + 1) * P ≤ Q * P:=Int.mul_le_mul_of_nonneg_right (by omega) (Int.le_of_lt p0)
  rw [Int.add_mul,Int.one_mul,Int.mul_comm Q P,hPQ] at h2
  omega
theorem shl_step {F a:Nat → Int} {o k:Nat} {P Q x y:Int} (hv:vf (sh F o) (k + 1)=vf a k * P) (hx:a k=x) (hy:F (o + k)=y) (hPQ:P * Q=18446744073709551616) :
  vf (sh (upd (upd F (o + k) (y + x % Q * P)) (o + k + 1) (x / Q)) o) (k + 1 + 1)=vf a (k + 1) * P:=by
 have e1:vf (sh (upd (upd F (o + k) (y + x % Q * P)) (o + k + 1) (x / Q)) o) k=vf (sh F o) k:=vf_congr (fun j hj=>by rw [sh_at,sh_at,upd_other _ _ _ _ (by omega),upd_other _ _ _ _ (by omega)])
 have e2:sh (upd (upd F (o + k) (y + x % Q * P)) (o + k + 1) (x / Q)) o k=y + x % Q * P:=by rw [sh_at,upd_other _ _ _ _ (by omega),upd_same]
 have e3:sh (upd (upd F (o + k) (y + x % Q * P)) (o + k + 1) (x / Q)) o (k + 1)=x / Q:=by rw [sh_at,← Nat.add_assoc,upd_same]
 rw [vf_succ,vf_succ,e1,e2,e3,vf_succ,pw_succ]
 rw [vf_succ,sh_at,hy] at hv
 have e4:=Int.mul_ediv_add_emod x Q
 rw [hx,← hPQ]
 have e5:x * pw k * P=(Q * (x / Q) + x % Q) * pw k * P:=by rw [e4]
 rw [Int.add_mul (vf a k),e5,← hv]
 grind
theorem vf_ahead {F:Nat → Int} {o n:Nat} (h:∀ j,j < o → F j=0):vf F (o + n)=vf (sh F o) n * pw o:=by
 rw [vf_split,vf_zero h];omega
theorem dshl_step {D a:Nat → Int} {o k:Nat} {P x c:Int} (hv:vd D (o + k) + c * pd (o + k)=vd a k * (P * pd o)) (hx:a k=x) :
  vd (cat D (o + k) (fun _=>(c + x * P) % 4294967296)) (o + k + 1) + ((c + x * P) / 4294967296) * pd (o + k + 1)=vd a (k + 1) * (P * pd o):=by
 have e1:vd (cat D (o + k) (fun _=>(c + x * P) % 4294967296)) (o + k)=vd D (o + k):=vd_congr (fun j hj=>cat_in hj)
 have e2:cat D (o + k) (fun _=>(c + x * P) % 4294967296) (o + k)=(c + x * P) % 4294967296:=cat_out (Nat.le_refl _)
 rw [vd_succ,e1,e2,pd_succ,vd_succ,hx]
 have e3:=Int.mul_ediv_add_emod (c + x * P) 4294967296
 have e4:(c + x * P) * pd (o + k)=(4294967296 * ((c + x * P) / 4294967296) + (c + x * P) % 4294967296) * pd (o + k):=by rw [e3]
 rw [Int.add_mul (vd a k),← hv]
 have e5:x * pd k * (P * pd o)=x * P * pd (o + k):=by rw [pd_add];grind
 rw [e5]
 grind
theorem dshl_carry {P x c:Int} (c0:0 ≤ c) (c1:c < P) (x0:0 ≤ x) (x1:x < 4294967296) (p0:0 < P):0 ≤ c + x * P ∧ c + x * P < 4294967296 * P ∧ (c + x * P) / 4294967296 < P ∧ 0 ≤ x * P ∧ x * P < 4294967296 * P:=by
 have h1:0 ≤ x * P:=Int.mul_nonneg x0 (Int.le_of_lt p0)
 have h2:(x + 1) * P ≤ 4294967296 * P:=Int.mul_le_mul_of_nonneg_right (by omega) (Int.le_of_lt p0)
 rw [Int.add_mul,Int.one_mul] at h2
 refine ⟨by omega,by omega,?_,h1,by omega⟩
 exact Int.ediv_lt_of_lt_mul (by decide) (by omega)
theorem wpList_make_two {P:Program} (k:IntKind) (w:World) {ops:Array Oper} {rest:List Oper} {o:Oper} {a:Act} {Q:Exit → Act → World → Prop}
  (hg:o.guard=none) (lo co:Operand) (t:TypeId) (hop:o.op=Op.makeSlice t lo co)
  (e:TypeId) (bytes:Nat) (h1:P.underlying t=some (.slice e)) (h2:(P.info? e).map (fun i=>(i.zero,i.size,i.bytes))=some (some (.int k 0),1,bytes))
  (kl kc:IntKind) (L C:Int) (l c:Nat) (hl:a.eval lo=.int kl L) (hc:a.eval co=.int kc C) (hL:L=(l:Int)) (hC:C=(c:Int)) (hlc:l ≤ c) (b2:bytes * c ≤ 281474976710656) (b3:c ≤ maxLen)
  (hK:∀ w',Blk k e w' w.heap.size c (fun _=>0) → Below w.heap.size w w' → wpList P ops Q rest (a.put o.dst (.slice (some ⟨w.heap.size,0,none⟩) l c)) w') :
  wpList P ops Q (o :: rest) a w:=by
 obtain ⟨i,hi,hz0,hz1,hz2⟩:=info_parts h2
 subst hL
 subst hC
 refine wpList_plain hg fun K hK'=>?_
 have b2':(i.bytes:Int) * (c:Int) ≤ 281474976710656:=by
  have h:((i.bytes * c:Nat):Int) ≤ 281474976710656:=by rw [hz2];omega
  rwa [Int.natCast_mul] at h
 have hrun:=run_make (P:=P) w t e i (.int k 0) h1 hi hz0 kl kc (l:Int) (c:Int) (by omega) (by omega) b2' (by unfold maxLen at b3;omega)
 simp only [Int.toNat_natCast,hz1,Nat.mul_one] at hrun
 unfold Oper.wp
 simp [execOp,hop,hl,hc,hrun,Result.andThen]
 refine hK' _ _ (hK _ ⟨_,heap_alloc_new w _,size_madeCells _ _,fun j hj=>?_⟩ ((Below.refl _ _).alloc (Nat.le_refl _) _))
 have hm:(madeCells (Value.int k 0).cells c).toList=List.replicate c (.int k 0):=toList_madeCells_one _ _
 have:(madeCells (Value.int k 0).cells c).toList[j]?=some (.int k 0):=by rw [hm,List.getElem?_replicate,if_pos hj]
 simpa using this
theorem drewN_bel {w w':World} {q:Nat} (h:w'=w.drewN q):Below w.heap.size w w':=by rw [h];exact below_drewN (Below.refl _ _) _
theorem dWord_c {w:World} {V:Nat} (hV:V < 4294967296) :
  Calls Tryz.prog 117 #[.int .u64 (V:Int)] w fun e w'=>∃ z k c d,e=.returned (.slice z k c) ∧ Below w.heap.size w w' ∧ Hid (k ≤ 1 ∧ Dn w' z k d V) :=
 (word_c V w (by omega) (by omega)).mono (fun _ _ ⟨k,h1,h2,h3,h4,h5,h6⟩=>⟨_,k,2,_,h1,h2,h3,h4,fun j hj=>⟨by omega,by omega⟩,h6,by
  rcases (show k=0 ∨ k=1 by omega) with h | h
  ·subst h;have:=h5 rfl;simp [vd];omega
  ·subst h;simp [vd,pd]⟩)
theorem dSubO_c {w x n c d A y m e g B} (ha:Dn w x n d A) (hb:Dn w y m g B) (hn:n ≤ 1048576) (hm:m ≤ 1048576) (hle:B ≤ A) :
  Calls Tryz.prog 110 #[.slice x n c,.slice y m e] w fun e w'=>∃ z k c' q,e=.returned (.slice z k c') ∧ Below w.heap.size w w' ∧ Hid (k ≤ n ∧ Dn w' z k q (A - B) ∧ ∀ a,z=some a → w.heap.size ≤ a.block) :=
 (rsubO_c x y n m c e d g w (by omega) (by omega) (vd_len hb.dg ha.dg hb.fm (by rw [ha.val,hb.val];omega)) ha.rd hb.rd ha.dg hb.dg (by rw [ha.val,hb.val];omega)).mono (fun _ _ ⟨z,k,c',q,h1,h2,h3,h4,h5,h6,h8,h7⟩=>⟨z,k,c',q,h1,h2,h4,⟨h3,h5,h6,by rw [h7,ha.val,hb.val];omega⟩,h8⟩)
theorem Dn.len {w x n d A y m g B} (ha:Dn w x n d A) (hb:Dn w y m g B) (hle:A ≤ B):n ≤ m:=vd_len ha.dg hb.dg ha.fm (by rw [ha.val,hb.val];omega)
theorem or_comm64 (x y:Int):bits BinOp.or .u64 x y=bits BinOp.or .u64 y x:=by simp only [bits];rw [BitVec.or_comm]
theorem shl_nums (x y s:Int) (x0:0 ≤ x) (x1:x < 18446744073709551616) (s0:0 ≤ s) (s1:s ≤ 63) (y0:0 ≤ y) (y1:y < 2 ^ s.toNat) :
  ∃ L Z H,IntKind.u64.wrap (x * 2 ^ s.toNat)=L ∧ 0 ≤ L ∧ L < 18446744073709551616 ∧ bits BinOp.or .u64 y L=Z ∧ 0 ≤ Z ∧ Z < 18446744073709551616 ∧ x / 2 ^ (64 - s).toNat=H ∧ 0 ≤ H ∧ H < 18446744073709551616 ∧ Hid (H < 2 ^ s.toNat) ∧ Hid (Z=y + x % 2 ^ (64 - s).toNat * 2 ^ s.toNat):=by
 have hPQ:(2:Int) ^ s.toNat * 2 ^ (64 - s).toNat=18446744073709551616:=by rw [← Int.pow_add,show s.toNat + (64 - s).toNat=64 by omega];rfl
 have p0:(0:Int) < 2 ^ s.toNat:=Int.pow_pos (by decide)
 have q0:(0:Int) < 2 ^ (64 - s).toNat:=Int.pow_pos (by decide)
 obtain ⟨c1,c2,c3,c4,c5⟩:=limb_cut x0 x1 hPQ p0 q0
 have hP:(2:Int) ^ s.toNat ≤ 18446744073709551616:=by
  rw [← hPQ]
  have:=Int.mul_le_mul_of_nonneg_left (show (1:Int) ≤ 2 ^ (64 - s).toNat by omega) (Int.le_of_lt p0)
  omega
 have hL:IntKind.u64.wrap (x * 2 ^ s.toNat)=x % 2 ^ (64 - s).toNat * 2 ^ s.toNat:=by rw [IntKind.wrap_u64,c1]
 refine ⟨_,_,_,hL,c4,by omega,?_,?_,?_,rfl,c2,by omega,c3,rfl⟩
 ·rw [or_comm64 y,bits_join .u64 64 (by decide) wraps_u64 s.toNat _ _ c4 (Int.mul_emod_left _ _) (by omega) y0 y1 (by omega),Int.add_comm]
 ·omega
 ·omega
set_option maxRecDepth 100000 in
set_option maxHeartbeats 1000000 in
theorem shl_c (ao:Option Addr) (n cap skip:Nat) (z s:Int) (f:Nat → Int) (w:World) (hn:n ≤ 8796093022208) (hk:skip ≤ 1048576) (s0:0 ≤ s) (s1:s ≤ 63) (hz:z=64 * skip + s) (hr:Rd .u64 w ao n f) (hf:Lm f n) :
  Calls Tryz.prog 182 #[.slice ao n cap,.int .i64 z] w fun e w'=>∃ ao' m cap' f',e=.returned (.slice ao' m cap') ∧ Res (skip + n + 1) w w' ao' m cap' f' ∧ vf f' m=vf f n * 2 ^ s.toNat * pw skip:=by
 have HF:=hid hf
 have HRd:=hid hr
 clear hf hr
 have z0:0 ≤ z:=by omega
 have z1:z ≤ 67108927:=by omega
 have h1:z / 64=(skip:Int):=by omega
 have h2:z % 64=s:=by omega
 have h3:Int.tdiv z 64=(skip:Int):=by rw [Int.tdiv_eq_ediv_of_nonneg z0];exact h1
 have h4:Int.tmod z 64=s:=by rw [Int.tmod_eq_emod_of_nonneg z0];exact h2
 clear hz
 go_enter Tryz.func182,Tryz.ntmps182
 go_wp2_with (at_make;refine wpList_make_blk .u64 w rfl (.tmp 17) (.tmp 17) 22 rfl 79 8 Tryz.underlying22 Tryz.infoU64 .i64 .i64 _ _ (skip + n + 1) rfl rfl (by omega) (by omega) (by omega) (by unfold maxLen;omega) ?_;intro w1 hb1 hbel1)
 go_loopw [21] (fun t wr=>∃ (k:Nat) (F:Nat → Int),k ≤ n ∧ t=.int .i64 k ∧ Below w.heap.size w wr ∧ Blk .u64 79 wr w.heap.size (skip + n + 1) F ∧ Hid (Lm F (skip + n + 1)) ∧ Hid (∀ j,j < skip ∨ skip + k < j → F j=0) ∧ Hid (F (skip + k) < 2 ^ s.toNat) ∧ Hid (vf (sh F skip) (k + 1)=vf f k * 2 ^ s.toNat)) (fun t _=>n - (intOf t).toNat)
 case atStart=>exact ⟨0,fun _=>0,by omega,rfl,hbel1,hb1,fun j hj=>⟨Int.le_refl 0,show (0:Int) < 18446744073709551616 by decide⟩,fun j hj=>rfl,Int.pow_pos (by decide),by simp [Hid,vf,sh]⟩
 case round =>
  clear hb1 hbel1
  obtain ⟨k,F,hkn,rfl,hbel,hbl,HL,HZ,HT,HV⟩:=hrel
  by_cases hlt:k < n
  ·have hr:=HRd.out
   obtain ⟨b,ob,rfl⟩:=hr.at (by omega)
   obtain ⟨y,hy⟩:∃ y,F (skip + k)=y:=⟨_,rfl⟩
   obtain ⟨x,hx⟩:∃ x,f k=x:=⟨_,rfl⟩
   have hcell:wr.cell? ⟨w.heap.size,skip + k,none⟩=some (.int .u64 y):=by rw [← hy];exact hbl.cell (by omega)
   have hcelb:wr.cell? ⟨b,ob + k,none⟩=some (.int .u64 x):=by rw [← hx];exact (hr.below hbel (Nat.le_refl _)).cell hlt
   have hbw:b < w.heap.size:=World.block_lt_of_cell? w _ (hr.cell hlt)
   have hfz:=hbl.frozen (skip + k)
   have hfz2:=hbl.frozen (skip + k + 1)
   obtain ⟨y0,y1⟩:=HL.out (skip + k) (by omega)
   obtain ⟨x0,x1⟩:=HF.out k hlt
   rw [hx] at x0 x1
   rw [hy] at y0 y1
   obtain ⟨L,Z,H,eL,L0,L1,eZ,Z0,Z1,eH,H0,H1,HH,HZ2⟩:=shl_nums x y s x0 x1 s0 s1 y0 (by rw [← hy];exact HT.out)
   have HX:=hid hx
   have HY:=hid hy
   clear hx hy hr
   have hcelb2:∀ (v:Value),(wr.setCell ⟨w.heap.size,skip + k,none⟩ v).cell? ⟨b,ob + k,none⟩=some (.int .u64 x):=fun v=>by
    rw [World.cell?_of_block (Below.heap_setCell _ _ _ _ (by simp;omega))];exact hcelb
   have hcelb3:∀ (v:Value),(wr.setCell ⟨w.heap.size,skip + k,none⟩ v).drew.cell? ⟨b,ob + k,none⟩=some (.int .u64 x):=hcelb2
   have hcell2:wr.cell? ⟨w.heap.size,skip + k + 1,none⟩=some (.int .u64 0):=by rw [← HZ.out (skip + k + 1) (by omega)];exact hbl.cell (by omega)
   go_wp2
   go_region
   all_goals
    go_wp2
    go_roundw
    case rel =>
     refine ⟨k + 1,_,by omega,by go_num,?_,((hbl.set (skip + k) Z).set (skip + k + 1) H),?_,?_,?_,?_⟩
     ·exact below_only hbel ((((Only.refl _ _).setCell _ _ _).setCell _ _ _).drew) (Nat.le_refl _) hbel.size
     ·exact (HL.out.upd ⟨Z0,Z1⟩).upd ⟨H0,H1⟩
     ·intro j hj
      rw [upd_other _ _ _ _ (by omega),upd_other _ _ _ _ (by omega)]
      exact HZ.out j (by omega)
     ·show _ < _
      rw [← Nat.add_assoc,upd_same];exact HH.out
     ·have:=shl_step (Q:=2 ^ (64 - s).toNat) HV.out HX.out HY.out (by rw [← Int.pow_add,show s.toNat + (64 - s).toNat=64 by omega];rfl)
      rw [← HZ2.out,eH] at this
      exact this
    case measure=>simp [intOf];omega
  ·have hkn2:k=n:=by omega
   subst hkn2
   go_wp2_with fail
   refine (trim_res w.heap.size (skip + k + 1) (skip + k + 1) F w wr hbel (Nat.le_refl _) hbl (Nat.le_refl _) (by omega) HL.out).mono ?_
   rintro e w3 ⟨rfl,ao2,m,cap2,rfl,hres,hmn,hv⟩
   have HV3:=hid hv
   clear hv
   go_wp2
   go_ret
   refine ⟨ao2,m,cap2,F,rfl,hres,?_⟩
   rw [HV3.out,Nat.add_assoc,vf_ahead (fun j hj=>HZ.out j (.inl hj)),HV.out]
set_option maxRecDepth 100000 in
set_option maxHeartbeats 2000000 in
theorem rshl_c (ao:Option Addr) (n ca o:Nat) (z s:Int) (f:Nat → Int) (w:World) (hn:n ≤ 1048576) (ho:o ≤ 1048576) (s0:0 ≤ s) (s1:s ≤ 31) (hz:z=32 * o + s) (hr:Rd .u64 w ao n f) (hf:Dg f n) :
  Calls Tryz.prog 111 #[.slice ao n ca,.int .i64 z] w fun e w'=>∃ ao' k cap' D,e=.returned (.slice ao' k cap') ∧ Below w.heap.size w w' ∧ Rd .u64 w' ao' k D ∧ k ≤ o + n + 1 ∧ Dg D k ∧ Fm D k ∧ vd D k=vd f n * (2 ^ s.toNat * pd o):=by
 have HF:=hid hf
 have HRd:=hid hr
 clear hf hr
 have z0:0 ≤ z:=by omega
 have z1:z ≤ 67108927:=by omega
 have h1:z / 32=(o:Int):=by omega
 have h2:z % 32=s:=by omega
 have h3:Int.tdiv z 32=(o:Int):=by rw [Int.tdiv_eq_ediv_of_nonneg z0];exact h1
 have h4:Int.tmod z 32=s:=by rw [Int.tmod_eq_emod_of_nonneg z0];exact h2
 clear hz
 by_cases hn0:n=0
 ·subst hn0
  go_enter Tryz.func111,Tryz.ntmps111
  go_wp2
  go_ret
  exact ⟨none,0,0,f,rfl,Below.refl _ _,Rd.zero,by omega,fun j hj=>by omega,.inl rfl,by simp [vd]⟩
 ·have hnz:((n:Int) == 0)=false:=by simp;omega
  have p0:(0:Int) < 2 ^ s.toNat:=Int.pow_pos (by decide)
  have p1:(2:Int) ^ s.toNat ≤ 2147483648:=by
   have:(2:Int) ^ s.toNat * 2 ^ (31 - s).toNat=2147483648:=by rw [← Int.pow_add,show s.toNat + (31 - s).toNat=31 by omega];rfl
   have q0:(0:Int) < 2 ^ (31 - s).toNat:=Int.pow_pos (by decide)
   have:=Int.mul_le_mul_of_nonneg_left (show (1:Int) ≤ 2 ^ (31 - s).toNat by omega) (Int.le_of_lt p0)
   omega
  have P0:=hid p0
  have P1:=hid p1
  clear p0 p1
  go_enter Tryz.func111,Tryz.ntmps111
  go_wp2_with (at_make;refine wpList_make_two .u64 w rfl (.tmp 13) (.tmp 19) 22 rfl 79 8 Tryz.underlying22 Tryz.infoU64 .i64 .i64 _ _ o (o + n + 1) rfl rfl (by omega) (by omega) (by omega) (by omega) (by unfold maxLen;omega) ?_;intro w1 hb1 hbel1)
  have HO1:=hid (own_of_blk hb1 (base:=w.heap.size) (n:=o) (Nat.le_refl _) (by omega) (by unfold maxLen;omega))
  clear hb1
  go_loopw [5,6,23] (fun v c t wr=>∃ (k:Nat) (cc:Int) (D:Nat → Int),k ≤ n ∧ t=.int .i64 k ∧ c=.int .u64 cc ∧ 0 ≤ cc ∧ cc < 2147483648 ∧ Hid (cc < 2 ^ s.toNat) ∧ Below w.heap.size w wr ∧ Hid (Own .u64 79 wr w.heap.size v (o + k) D) ∧ Hid (Dg D (o + k)) ∧ Hid (vd D (o + k) + cc * pd (o + k)=vd f k * (2 ^ s.toNat * pd o))) (fun _ _ t _=>n - (intOf t).toNat)
  case atStart=>exact ⟨0,0,fun _=>0,by omega,rfl,rfl,by omega,by omega,P0.out,hbel1,HO1.out,fun j hj=>⟨Int.le_refl 0,show (0:Int) < 4294967296 by decide⟩,by simp [Hid,vd,vd_zero]⟩
  case round =>
   clear hbel1 HO1
   obtain ⟨k,cc,D,hk,rfl,rfl,c0,c1,HC,hbel,HO,HDg,HV⟩:=hrel
   by_cases hlt:k < n
   ·have hrA:=HRd.out
    obtain ⟨b,ob,rfl⟩:=hrA.at (by omega)
    obtain ⟨x,hx⟩:∃ x,f k=x:=⟨_,rfl⟩
    have hcell:wr.cell? ⟨b,ob + k,none⟩=some (.int .u64 x):=by rw [← hx];exact (hrA.below hbel (Nat.le_refl _)).cell hlt
    obtain ⟨x0,x1⟩:=HF.out k hlt
    rw [hx] at x0 x1
    have HX:=hid hx
    clear hx hrA
    obtain ⟨d1,d2,d3,d4,d5⟩:=dshl_carry c0 HC.out x0 x1 P0.out
    obtain ⟨X,eX,HXe⟩:∃ X,IntKind.u64.wrap (x * 2 ^ s.toNat)=X ∧ Hid (X=x * 2 ^ s.toNat):=⟨x * 2 ^ s.toNat,by have:=P1.out;rw [IntKind.wrap_u64];omega,rfl⟩
    have X0:0 ≤ X:=by rw [HXe.out];exact d4
    have X1:X < 9223372036854775808:=by have:=P1.out;rw [HXe.out];omega
    have HD3:=hid d3
    clear d1 d2 d3 d4 d5
    go_wp2_with (at_builtin;refine wpList_append_own_list .u64 _ rfl (.tmp 33) (.tmp 36) 22 rfl w.heap.size 79 8 Tryz.underlying22 Tryz.infoU64 _ (o + k) D rfl (Own.alloc HO.out _) wr.heap.size 0 1 1 (fun _=>(cc + X) % 4294967296) rfl (rd_new1 wr _ _) ?c1 ?c2 ?c3 ?_)
    case c1=>unfold maxLen;omega
    case c2=>omega
    case c3=>have:=hbel.size;simp;omega
    intro v' w' hown hgr
    have hbel2:Below w.heap.size w w':=(hbel.alloc hbel.size _).grown hgr (by have:=hbel.size;simp;omega) (fun k h=>(Own.ge HO.out k h))
    have HO2:=hid hown
    clear hown hgr HO
    go_wp2
    go_roundw
    case rel =>
     refine ⟨k + 1,_,_,by omega,by go_num,rfl,by omega,?_,?_,hbel2,HO2.out,dg_cat1 HDg.out (by omega),?_⟩
     ·have h5:=HD3.out;have h6:=P1.out;rw [← HXe.out] at h5;omega
     ·have h5:=HD3.out;rw [← HXe.out] at h5;exact h5
     ·have h5:=dshl_step HV.out HX.out
      rw [← HXe.out] at h5;exact h5
    case measure=>simp [intOf];omega
   ·have hkn:k=n:=by omega
    subst hkn
    go_wp2_with (at_builtin;refine wpList_append_own_list .u64 _ rfl (.tmp 41) (.tmp 43) 22 rfl w.heap.size 79 8 Tryz.underlying22 Tryz.infoU64 _ (o + k) D rfl (Own.alloc HO.out _) wr.heap.size 0 1 1 (fun _=>cc) rfl (rd_new1 wr _ _) ?c1 ?c2 ?c3 ?_)
    case c1=>unfold maxLen;omega
    case c2=>omega
    case c3=>have:=hbel.size;simp;omega
    intro v' w' hown hgr
    have hbel2:Below w.heap.size w w':=(hbel.alloc hbel.size _).grown hgr (by have:=hbel.size;simp;omega) (fun k h=>(Own.ge HO.out k h))
    obtain ⟨ao',cap',hv,hcc,hnn,hml,hrd,hlt3⟩:=Own.shape hown
    unfold maxLen at hml
    subst hv
    clear hown hgr HO hlt3
    go_wp2_with fail
    refine (low_c ao' (o + k + 1) cap' (cat D (o + k) (fun _=>cc)) w' hcc hml hrd hnn).mono ?_
    rintro e w2 ⟨rfl,m',hm1,hz,hfm,rfl⟩
    have HZ:=hid hz
    have HFM:=hid hfm
    clear hz hfm
    go_wp2
    go_ret
    refine ⟨ao',m',cap',_,rfl,hbel2,hrd.take hm1,by omega,(dg_cat1 HDg.out (by omega)).mono hm1,HFM.out,?_⟩
    rw [trim_vald hm1 HZ.out,vd_cat1,HV.out]
theorem two_cop {b:Nat} (h:b % 2=1):Nat.Coprime 2 b:=by
 unfold Nat.Coprime
 have h1:Nat.gcd 2 b ∣ 2:=Nat.gcd_dvd_left _ _
 have h2:Nat.gcd 2 b ∣ b:=Nat.gcd_dvd_right _ _
 have h3:=Nat.le_of_dvd (by decide) h1
 have h4:Nat.gcd 2 b ≠ 0:=by intro h;rw [h] at h1;simp at h1
 rcases (show Nat.gcd 2 b=1 ∨ Nat.gcd 2 b=2 by omega) with h5 | h5
 ·exact h5
 ·rw [h5] at h2;omega
theorem gcd_half2 {a b:Nat} (ha:a % 2=0) (hb:b % 2=0):Nat.gcd a b=Nat.gcd (a / 2) (b / 2) * 2:=by
 rw [← Nat.gcd_mul_right,show a / 2 * 2=a by omega,show b / 2 * 2=b by omega]
theorem gcd_halfl {a b:Nat} (ha:a % 2=0) (hb:b % 2=1):Nat.gcd (a / 2) b=Nat.gcd a b:=by
 have:=Nat.Coprime.gcd_mul_left_cancel (a / 2) (two_cop hb)
 rw [show 2 * (a / 2)=a by omega] at this
 exact this.symm
theorem gcd_halfr {a b:Nat} (ha:a % 2=1) (hb:b % 2=0):Nat.gcd a (b / 2)=Nat.gcd a b:=by
 rw [Nat.gcd_comm,gcd_halfl hb ha,Nat.gcd_comm]
theorem gcd_take {a b:Nat} (h:b ≤ a):Nat.gcd (a - b) b=Nat.gcd a b:=by
 have:=Nat.gcd_add_self_left b (a - b)
 rw [Nat.sub_add_cancel h] at this
 exact this.symm
noncomputable def dOf (w:World) (v:Value):Nat:=match v with
 | .slice (some a) k _=>(vd (fun j=>match w.cell? ⟨a.block,a.off + j,none⟩ with | some (.int _ z)=>z | _=>0) k).toNat
 | _=>0
theorem Dn.dOf {w x n c d V} (h:Dn w x n d V):dOf w (.slice x n c)=V:=by
 rcases Nat.eq_zero_or_pos n with h0 | h0
 ·subst h0
  rw [h.zero]
  cases x <;> rfl
 ·obtain ⟨b,o,rfl⟩:=h.rd.at h0
  have e:vd (fun j=>match w.cell? ⟨b,o + j,none⟩ with | some (.int _ z)=>z | _=>0) n=vd d n:=vd_congr (fun j hj=>by
   have:=h.rd.cell hj
   simp only [this])
  show (vd _ n).toNat=V
  rw [e,h.val];simp
theorem Dn.par {w x n d V} (h:Dn w x n d V) (hn:0 < n):(d 0 % 2=0 ↔ V % 2=0):=by
 obtain ⟨m,rfl⟩:∃ m,n=m + 1:=⟨n - 1,by omega⟩
 have h1:=vd_cons d 0 m
 rw [sh_zero,h.val] at h1
 omega
theorem half_step {D f:Nat → Int} {k:Nat} {b0 b b' v:Int} (h:2 * vd D k=vd f k - b0 + b * pd k) (hv:2 * v=f k - b + b' * 4294967296) (D':Nat → Int) (hD:∀ j,j < k → D' j=D j) (hk:D' k=v):2 * vd D' (k + 1)=vd f (k + 1) - b0 + b' * pd (k + 1):=by
 rw [vd_succ,vd_succ,pd_succ,vd_congr hD,hk]
 grind
set_option maxRecDepth 100000 in
set_option maxHeartbeats 2000000 in
theorem rhalf_c {w:World} {x:Option Addr} {n c:Nat} {f:Nat → Int} {A:Nat} (ha:Dn w x n f A) (hn:n ≤ 1048576) (hA:A % 2=0) (hA0:0 < A) :
  Calls Tryz.prog 108 #[.slice x n c] w fun e w'=>∃ z k c' d,e=.returned (.slice z k c') ∧ Below w.heap.size w w' ∧ Hid (k ≤ n ∧ Dn w' z k d (A / 2)):=by
 have hn0:=ha.pos hA0
 have hpar:=(ha.par hn0).2 hA
 have HA:=hid ha;have HPar:=hid hpar
 clear ha hpar
 go_enter Tryz.func108,Tryz.ntmps108
 go_wp2_with (at_make;refine wpList_make_blk .u64 w rfl (.tmp 7) (.tmp 7) 22 rfl 79 8 Tryz.underlying22 Tryz.infoU64 .i64 .i64 n n n rfl rfl rfl rfl (by omega) (by unfold maxLen;omega) ?_;intro wa hba hbela)
 go_loopw [11] (fun t wr=>∃ (k:Nat) (Q:Nat → Int),k ≤ n ∧ t=.int .i64 k ∧ Below w.heap.size w wr ∧ Blk .u64 79 wr w.heap.size n Q ∧ Hid (Dg Q n) ∧ Hid (2 * vd Q k=vd f k - f 0 % 2 + (ext f n k % 2) * pd k)) (fun t _=>n - (intOf t).toNat)
 case atStart=>exact ⟨0,fun _=>0,by omega,rfl,hbela,hba,fun j _=>⟨Int.le_refl 0,show (0:Int) < 4294967296 by decide⟩,hid (by rw [ext_in _ _ _ hn0];simp [vd,pd];omega)⟩
 case round =>
  clear hba hbela
  obtain ⟨k,Q,hk,rfl,hbel,hbl,HDg,HV⟩:=hrel
  by_cases hlt:k < n
  ·have hr:=HA.out.rd
   obtain ⟨b,o,rfl⟩:=hr.at (by omega)
   obtain ⟨y,hy⟩:∃ y,f k=y:=⟨_,rfl⟩
   have hcell:wr.cell? ⟨b,o + k,none⟩=some (.int .u64 y):=by rw [← hy];exact (hr.below hbel (Nat.le_refl _)).cell hlt
   obtain ⟨y0,y1⟩:=HA.out.dg k hlt
   rw [hy] at y0 y1
   have hcz:=hbl.cell (j:=k) hlt
   have hfz:=hbl.frozen k
   have hbb:b ≠ w.heap.size:=by have:=hr.und (by omega) _ rfl;simp at this;omega
   have HX:=hid (show ext f n k=y from (ext_in _ _ _ hlt).trans hy)
   have HY:=hid hy
   by_cases hlt2:k + 1 < n
   ·obtain ⟨u,hu⟩:∃ u,f (k + 1)=u:=⟨_,rfl⟩
    have hcelu:wr.cell? ⟨b,o + (k + 1),none⟩=some (.int .u64 u):=by rw [← hu];exact (hr.below hbel (Nat.le_refl _)).cell hlt2
    obtain ⟨u0,u1⟩:=HA.out.dg (k + 1) hlt2
    rw [hu] at u0 u1
    have HU:=hid (show ext f n (k + 1)=u from (ext_in _ _ _ hlt2).trans hu)
    obtain ⟨s,hs⟩:∃ s,y / 2 + u % 2 * 2147483648=s:=⟨_,rfl⟩
    have hst:=half_step (D':=upd (upd Q k (y / 2)) k s) (v:=s) (b':=u % 2) HV.out (by rw [HX.out,hy];omega) (fun j hj=>by rw [upd_other _ _ _ _ (by omega),upd_other _ _ _ _ (by omega)]) (upd_same _ _ _)
    have HSt:=hid hst;have HS:=hid hs
    have hbl2:=hbl.set k (y / 2)
    have hcz2:=hbl2.cell (j:=k) hlt
    rw [upd_same] at hcz2
    have hfz2:=hbl2.frozen k
    have hcu2:(wr.setCell ⟨w.heap.size,k,none⟩ (.int .u64 (y / 2))).cell? ⟨b,o + (k + 1),none⟩=some (.int .u64 u):=by
     rw [World.cell?_setCell_other _ _ _ _ (fun he=>hbb (congrArg Addr.block he).symm)];exact hcelu
    have HBl:=hid hbl2
    clear hst hy hu hr hbl2 hs
    go_wp2_with fail
    go_region
    all_goals go_wp2
    go_roundw
    case rel =>
     refine ⟨k + 1,_,by omega,by go_num,?_,(HBl.out.set _ _).drew,(HDg.out.upd ⟨?_,?_⟩).upd ⟨?_,?_⟩,hid ?_⟩
     ·exact below_only hbel ((((Only.refl _ _).setCell _ _ _).setCell _ _ _).drew) (Nat.le_refl _) hbel.size
     ·omega
     ·omega
     ·omega
     ·omega
     ·rw [HU.out];have e:=HSt.out;rw [← HS.out] at e;exact e
    case measure=>simp [intOf];omega
   ·have HU:=hid (show ext f n (k + 1)=0 from ext_out _ _ _ (by omega))
    have hst:=half_step (D':=upd Q k (y / 2)) (v:=y / 2) (b':=0) HV.out (by rw [HX.out,hy];omega) (fun j hj=>by rw [upd_other _ _ _ _ (by omega)]) (upd_same _ _ _)
    have HSt:=hid hst
    clear hst hy hr
    go_wp2
    go_roundw
    case rel =>
     refine ⟨k + 1,_,by omega,by go_num,?_,hbl.set _ _,HDg.out.upd ⟨?_,?_⟩,hid ?_⟩
     ·exact below_only hbel ((Only.refl _ _).setCell _ _ _) (Nat.le_refl _) hbel.size
     ·omega
     ·omega
     ·rw [HU.out];exact HSt.out
    case measure=>simp [intOf];omega
  ·obtain rfl:k=n:=by omega
   go_wp2_with fail
   refine (low_c (some ⟨w.heap.size,0,none⟩) k k Q wr (Nat.le_refl _) (by omega) (hbl.rd0 (Nat.le_refl _)) (fun h=>by cases h)).mono ?_
   rintro e w2 ⟨rfl,k1,hk1,hz,hfm,rfl⟩
   have HZ2:=hid hz;have HFM:=hid hfm
   clear hz hfm
   go_wp2
   go_ret
   refine ⟨_,k1,_,Q,rfl,hbel,hk1,(hbl.rd0 (Nat.le_refl _)).take hk1,HDg.out.mono hk1,HFM.out,?_⟩
   rw [trim_vald hk1 HZ2.out]
   have h1:=HV.out
   rw [ext_out _ _ _ (Nat.le_refl _),HPar.out,HA.out.val] at h1
   omega
theorem twos_few {w x n d A} {a k:Nat} (h:Dn w x n d A) (ha:a * 2 ^ k=A) (h0:0 < a):k < 32 * n:=by
 have h1:=vd_lt h.dg
 rw [h.val,pd_pow] at h1
 have h2:A < 2 ^ (32 * n):=by exact_mod_cast h1
 apply Nat.lt_of_not_le;intro hge
 have h3:2 ^ (32 * n) ≤ 2 ^ k:=Nat.pow_le_pow_right (by decide) hge
 have h4:1 * 2 ^ k ≤ a * 2 ^ k:=Nat.mul_le_mul_right _ h0
 omega
theorem half_half {a k A:Nat} (h:a * 2 ^ k=A) (ha:a % 2=0):a / 2 * 2 ^ (k + 1)=A:=by
 rw [Nat.pow_succ,← h]
 have:a=a / 2 * 2:=by omega
 generalize a / 2=u at *
 subst this
 rw [Nat.mul_assoc,Nat.mul_comm (2 ^ k) 2]
set_option maxRecDepth 100000 in
set_option maxHeartbeats 8000000 in
theorem rgcd_c {w:World} {x:Option Addr} {n c:Nat} {f:Nat → Int} {A:Nat} {y:Option Addr} {m e:Nat} {g:Nat → Int} {B:Nat} (ha:Dn w x n f A) (hb:Dn w y m g B) (hn:n ≤ 262144) (hm:m ≤ 262144) :
  Calls Tryz.prog 82 #[.slice x n c,.slice y m e] w fun e w'=>∃ z k c' d,e=.returned (.slice z k c') ∧ Below w.heap.size w w' ∧ Hid (k ≤ n + m ∧ Dn w' z k d (Nat.gcd A B)):=by
 by_cases hn0:n=0
 ·subst hn0
  have hA:=ha.zero
  have HB:=hid hb;have HA0:=hid hA
  clear ha hb hA
  go_enter Tryz.func82,Tryz.ntmps82
  go_wp2
  go_ret
  exact ⟨y,m,e,g,rfl,Below.refl _ _,by omega,by rw [HA0.out,Nat.gcd_zero_left];exact HB.out⟩
 by_cases hm0:m=0
 ·subst hm0
  have hB:=hb.zero
  have HA:=hid ha;have HB0:=hid hB
  have hnd:((n:Int) == 0)=false:=by simp;omega
  clear ha hb hB
  go_enter Tryz.func82,Tryz.ntmps82
  go_wp2
  go_ret
  exact ⟨x,n,c,f,rfl,Below.refl _ _,by omega,by rw [HB0.out,Nat.gcd_zero_right];exact HA.out⟩
 have hnd:((n:Int) == 0)=false:=by simp;omega
 have hmd:((m:Int) == 0)=false:=by simp;omega
 have HAp:=hid (ha.pos' (by omega));have HBp:=hid (hb.pos' (by omega))
 have HA:=hid ha;have HB:=hid hb
 clear ha hb
 go_enter Tryz.func82,Tryz.ntmps82
 go_wp2
 go_loopw [0,1,5] (fun u v t wr=>∃ (za:Option Addr) (na ca a:Nat) (fa:Nat → Int) (zb:Option Addr) (nb cb b:Nat) (fb:Nat → Int) (k:Nat),u=.slice za na ca ∧ v=.slice zb nb cb ∧ t=.int .i64 (k:Int) ∧ na ≤ n ∧ nb ≤ m ∧ k ≤ 32 * n ∧ Hid (Below w.heap.size w wr) ∧ Hid (Dn wr za na fa a) ∧ Hid (Dn wr zb nb fb b) ∧ Hid (0 < a ∧ 0 < b ∧ a * 2 ^ k=A ∧ Nat.gcd a b * 2 ^ k=Nat.gcd A B)) (fun _ _ t _=>32 * n + 1 - (intOf t).toNat)
 case atStart=>exact ⟨x,n,c,A,f,y,m,e,B,g,0,rfl,rfl,rfl,by omega,by omega,by omega,Below.refl _ _,HA.out,HB.out,HAp.out,HBp.out,by simp,by simp⟩
 case round =>
  obtain ⟨za,na,ca,a,fa,zb,nb,cb,b,fb,k,rfl,rfl,rfl,hna,hnb,hk,HW,HDa,HDb,HV⟩:=hrel
  have hna0:=HDa.out.pos HV.out.1
  have hnb0:=HDb.out.pos HV.out.2.1
  have hkk:=twos_few HA.out HV.out.2.2.1 HV.out.1
  obtain ⟨ba,oa,rfl⟩:=HDa.out.rd.at hna0
  obtain ⟨bb,ob,rfl⟩:=HDb.out.rd.at hnb0
  have hca:=HDa.out.rd.cell hna0
  have hcb:=HDb.out.rd.cell hnb0
  obtain ⟨xa,hxa⟩:∃ t,fa 0=t:=⟨_,rfl⟩
  obtain ⟨xb,hxb⟩:∃ t,fb 0=t:=⟨_,rfl⟩
  obtain ⟨xa0,xa1⟩:=HDa.out.dg 0 hna0
  obtain ⟨xb0,xb1⟩:=HDb.out.dg 0 hnb0
  have hpa:=HDa.out.par hna0
  have hpb:=HDb.out.par hnb0
  rw [hxa] at hca xa0 xa1 hpa
  rw [hxb] at hcb xb0 xb1 hpb
  rw [Nat.add_zero] at hca hcb
  clear hxa hxb
  by_cases hev:a % 2=0 ∧ b % 2=0
  ·have hea:xa % 2=0:=hpa.2 hev.1
   have heb:xb % 2=0:=hpb.2 hev.2
   have HE:=hid hev
   clear hev hpa hpb
   go_wp2_with fail
   refine (rhalf_c HDa.out (by omega) HE.out.1 HV.out.1).mono ?_
   rintro e w2 ⟨z2,k2,c2,d2,rfl,hb2,H2⟩
   have HB2:=hid hb2
   clear hb2
   go_wp2_with fail
   refine (rhalf_c (HDb.out.below HB2.out) (by omega) HE.out.2 HV.out.2.1).mono ?_
   rintro e w3 ⟨z3,k3,c3,d3,rfl,hb3,H3⟩
   have HB3:=hid hb3
   have hk2:=H2.out.1;have hk3:=H3.out.1
   clear hb3
   go_wp2
   go_roundw
   case rel =>
    refine ⟨z2,k2,c2,a / 2,d2,z3,k3,c3,b / 2,d3,k + 1,rfl,rfl,by go_num,by omega,by omega,by omega,HW.out.trans ((HB2.out.trans (HB3.out.mono HB2.out.size)).mono HW.out.size),H2.out.2.below HB3.out,H3.out.2,?_,?_,half_half HV.out.2.2.1 HE.out.1,?_⟩
    ·have:=HE.out;have:=HV.out.1;omega
    ·have:=HE.out;have:=HV.out.2.1;omega
    ·rw [← HV.out.2.2.2,gcd_half2 HE.out.1 HE.out.2,Nat.pow_succ,Nat.mul_assoc,Nat.mul_comm 2 (2 ^ k)]
   case measure=>simp [intOf];omega
  ·have hodd:a % 2=1 ∨ b % 2=1:=by omega
   have HOd:=hid hodd
   have hcase:(xa % 2 == 0)=false ∨ (xa % 2=0 ∧ (xb % 2 == 0)=false):=by
    by_cases h1:xa % 2=0
    ·right;refine ⟨h1,by simp;intro h2;exact hev ⟨hpa.1 h1,hpb.1 h2⟩⟩
    ·exact .inl (by simp;exact h1)
   obtain ⟨g0,hg0⟩:∃ g0,Nat.gcd a b=g0:=⟨_,rfl⟩
   have HG0:=hid hg0;have HG1:Hid (g0 * 2 ^ k=Nat.gcd A B):=by rw [← hg0];exact HV.out.2.2.2
   clear hev hpa hpb hodd hg0
   rcases hcase with hcd | ⟨hcd,hcd2⟩
   all_goals
    go_wp2
    go_loopw [0,1] (fun u v wr=>∃ (za:Option Addr) (na ca a:Nat) (fa:Nat → Int) (zb:Option Addr) (nb cb b:Nat) (fb:Nat → Int),u=.slice za na ca ∧ v=.slice zb nb cb ∧ na ≤ n + m ∧ nb ≤ n + m ∧ Hid (Below w.heap.size w wr) ∧ Hid (Dn wr za na fa a) ∧ Hid (Dn wr zb nb fb b) ∧ Hid (0 < b ∧ (a % 2=1 ∨ b % 2=1) ∧ Nat.gcd a b=g0)) (fun u v wr=>dOf wr u + dOf wr v)
    case atStart=>exact ⟨_,na,ca,a,fa,_,nb,cb,b,fb,rfl,rfl,by omega,by omega,HW.out,HDa.out,HDb.out,HV.out.2.1,HOd.out,HG0.out⟩
    case round =>
     clear hcd HDa HDb HW hca hcb HOd HG0 HV
     obtain ⟨za,na,ca,a,fa,zb,nb,cb,b,fb,rfl,rfl,hna,hnb,HW,HDa,HDb,HV⟩:=hrel
     obtain ⟨wr1,hwr⟩:∃ x:World,x=wr:=⟨wr,rfl⟩;subst hwr
     by_cases hz:na=0
     ·subst hz
      have ha0:=HDa.out.zero
      have hbg:b=g0:=by have:=HV.out.2.2;rw [ha0,Nat.gcd_zero_left] at this;exact this
      have HBG:=hid hbg
      clear ha0 hbg
      go_wp2_with fail
      refine (rshl_c zb nb cb (k / 32) k ((k % 32:Nat):Int) fb _ (by omega) (by omega) (by omega) (by omega) (by omega) HDb.out.rd HDb.out.dg).mono ?_
      rintro e w9 ⟨z9,k9,c9,d9,rfl,hb9,hr9,hk9,hd9,hf9,hv9⟩
      have hdn:Dn w9 z9 k9 d9 (Nat.gcd A B):=⟨hr9,hd9,hf9,by
       rw [hv9,HDb.out.val,HBG.out,← HG1.out,pd_pow,← Int.pow_add,show ((k % 32:Nat):Int).toNat + 32 * (k / 32)=k by omega]
       simp⟩
      have hle:=hdn.len (HA.out.below (HW.out.trans (hb9.mono HW.out.size))) (Nat.le_of_dvd HAp.out (Nat.gcd_dvd_left _ _))
      have H9:=hid hdn;have HB9:=hid hb9
      clear hdn hb9 hr9 hd9 hf9 hv9
      go_wp2
      go_ret
      exact ⟨z9,k9,c9,d9,rfl,HW.out.trans (HB9.out.mono HW.out.size),by omega,H9.out⟩
     ·have hz0:0 < na:=by omega
      have hzd:decide (0 < na)=true:=decide_eq_true hz0
      have ha0:=HDa.out.pos' (by omega)
      have HA0:=hid ha0
      clear ha0
      go_wp2
      go_loopw [0] (fun u wr=>∃ (zc:Option Addr) (nc cc c:Nat) (fc:Nat → Int),u=.slice zc nc cc ∧ nc ≤ n + m ∧ Hid (Below wr1.heap.size wr1 wr) ∧ Hid (Dn wr zc nc fc c) ∧ Hid (0 < c ∧ c ≤ a ∧ (c % 2=1 ∨ b % 2=1) ∧ Nat.gcd c b=g0)) (fun u wr=>dOf wr u)
      case atStart=>exact ⟨za,na,ca,a,fa,rfl,hna,Below.refl _ _,HDa.out,HA0.out,Nat.le_refl _,HV.out.2⟩
      case round =>
       obtain ⟨zc,nc,cc,c,fc,rfl,hnc,HW2,HDc,HV2⟩:=hrel
       obtain ⟨wr2,hwr⟩:∃ x:World,x=wr:=⟨wr,rfl⟩;subst hwr
       have hnc0:=HDc.out.pos HV2.out.1
       obtain ⟨bc,oc,rfl⟩:=HDc.out.rd.at hnc0
       have hcc:=HDc.out.rd.cell hnc0
       obtain ⟨xc,hxc⟩:∃ t,fc 0=t:=⟨_,rfl⟩
       obtain ⟨xc0,xc1⟩:=HDc.out.dg 0 hnc0
       have hpc:=HDc.out.par hnc0
       rw [hxc] at hcc xc0 xc1 hpc
       rw [Nat.add_zero] at hcc
       clear hxc
       by_cases hec:c % 2=0
       ·have hec':xc % 2=0:=hpc.2 hec
        have HE:=hid hec
        clear hec hpc
        go_wp2_with fail
        refine (rhalf_c HDc.out (by omega) HE.out HV2.out.1).mono ?_
        rintro e w4 ⟨z4,k4,c4,d4,rfl,hb4,H4⟩
        have HB4:=hid hb4
        have hk4:=H4.out.1
        clear hb4
        go_wp2
        go_roundw
        case rel =>
         have h1:=HV2.out.1;have h2:=HV2.out.2.1;have h3:=HE.out;have h4:=HV2.out.2.2.1
         exact ⟨z4,k4,c4,c / 2,d4,rfl,by omega,HW2.out.trans (HB4.out.mono HW2.out.size),H4.out.2,by omega,by omega,by omega,(gcd_halfl h3 (by omega)).trans HV2.out.2.2.2⟩
        case measure =>
         show dOf w4 (.slice z4 k4 c4) < dOf wr2 (.slice _ nc cc)
         rw [H4.out.2.dOf,HDc.out.dOf]
         have:=HV2.out.1;omega
       ·have hec':(xc % 2 == 0)=false:=by simp;intro h;exact hec (hpc.1 h)
        have HE:=hid (show c % 2=1 by omega)
        clear hec hpc
        have HDb2:=hid (HDb.out.below HW2.out)
        go_wp2
        go_loopw [1] (fun v wr=>∃ (ze:Option Addr) (ne ce e:Nat) (fe:Nat → Int),v=.slice ze ne ce ∧ ne ≤ n + m ∧ Hid (Below wr2.heap.size wr2 wr) ∧ Hid (Dn wr ze ne fe e) ∧ Hid (0 < e ∧ e ≤ b ∧ Nat.gcd c e=g0)) (fun v wr=>dOf wr v)
        case atStart=>exact ⟨zb,nb,cb,b,fb,rfl,hnb,Below.refl _ _,HDb2.out,HV.out.1,Nat.le_refl _,HV2.out.2.2.2⟩
        case round =>
         obtain ⟨ze,ne,ce,e',fe,rfl,hne,HW3,HDe,HV3⟩:=hrel
         obtain ⟨wr3,hwr⟩:∃ x:World,x=wr:=⟨wr,rfl⟩;subst hwr
         have hne0:=HDe.out.pos HV3.out.1
         obtain ⟨be,oe,rfl⟩:=HDe.out.rd.at hne0
         have hce:=HDe.out.rd.cell hne0
         obtain ⟨xe,hxe⟩:∃ t,fe 0=t:=⟨_,rfl⟩
         obtain ⟨xe0,xe1⟩:=HDe.out.dg 0 hne0
         have hpe:=HDe.out.par hne0
         rw [hxe] at hce xe0 xe1 hpe
         rw [Nat.add_zero] at hce
         clear hxe hcc
         by_cases hee:e' % 2=0
         ·have hee':xe % 2=0:=hpe.2 hee
          have HEe:=hid hee
          clear hee hpe
          go_wp2_with fail
          refine (rhalf_c HDe.out (by omega) HEe.out HV3.out.1).mono ?_
          rintro e w5 ⟨z5,k5,c5,d5,rfl,hb5,H5⟩
          have HB5:=hid hb5
          have hk5:=H5.out.1
          clear hb5
          go_wp2
          go_roundw
          case rel =>
           have h1:=HV3.out.1;have h2:=HV3.out.2.1;have h3:=HEe.out
           exact ⟨z5,k5,c5,e' / 2,d5,rfl,by omega,HW3.out.trans (HB5.out.mono HW3.out.size),H5.out.2,by omega,by omega,(gcd_halfr HE.out h3).trans HV3.out.2.2⟩
          case measure =>
           show dOf w5 (.slice z5 k5 c5) < dOf wr3 (.slice _ ne ce)
           rw [H5.out.2.dOf,HDe.out.dOf]
           have:=HV3.out.1;omega
         ·have hee':(xe % 2 == 0)=false:=by simp;intro h;exact hee (hpe.1 h)
          have HEe:=hid (show e' % 2=1 by omega)
          clear hee hpe
          have HDc3:=hid (HDc.out.below HW3.out)
          have HWs:=hid (HW.out.trans ((HW2.out.trans (HW3.out.mono HW2.out.size)).mono HW.out.size))
          go_wp2_with fail
          refine (rcmp_c _ _ nc ne cc ce fc fe _ (by omega) (by omega) HDc3.out.rd HDe.out.rd HDc3.out.dg HDe.out.dg HDc3.out.fm HDe.out.fm).mono ?_
          rintro e w6 ⟨⟨q6,hq6⟩,c6,rfl,hord⟩
          have hb6:=drewN_bel hq6
          rw [HDc3.out.val,HDe.out.val] at hord
          have HDc6:=hid (HDc3.out.below hb6);have HDe6:=hid (HDe.out.below hb6);have HW6:=hid (HWs.out.trans (hb6.mono HWs.out.size))
          clear hq6 hb6
          by_cases hlt:c < e'
          ·have hsg:decide (c6 < 0)=true:=by
            rcases hord with ⟨h1,h2⟩ | ⟨h1,h2⟩ | ⟨h1,h2⟩ <;> subst h1 <;> first | rfl | (exfalso;omega)
           clear hord
           go_wp2_with fail
           refine (dSubO_c HDe6.out HDc6.out (by omega) (by omega) (by omega)).mono ?_
           rintro e w7 ⟨z7,k7,c7,d7,rfl,hb7,H7⟩
           have HB7:=hid hb7
           have hk7:=H7.out.1
           clear hb7 hsg
           go_wp2
           go_roundw
           case rel =>
            refine ⟨z7,k7,c7,e' - c,d7,_,nc,cc,c,fc,rfl,rfl,by omega,hnc,HW6.out.trans (HB7.out.mono HW6.out.size),H7.out.2.1,HDc6.out.below HB7.out,HV2.out.1,.inr HE.out,?_⟩
            rw [gcd_take (by omega),Nat.gcd_comm];exact HV3.out.2.2
           case measure =>
            show dOf w7 (.slice z7 k7 c7) + dOf w7 (.slice _ nc cc) < dOf wr1 (.slice za na ca) + dOf wr1 (.slice zb nb cb)
            rw [H7.out.2.1.dOf,(HDc6.out.below HB7.out).dOf,HDa.out.dOf,HDb.out.dOf]
            have h1:=HV2.out;have h2:=HV3.out;omega
          ·have hsg:decide (c6 < 0)=false:=by
            rcases hord with ⟨h1,h2⟩ | ⟨h1,h2⟩ | ⟨h1,h2⟩ <;> subst h1 <;> first | rfl | (exfalso;omega)
           clear hord
           go_wp2_with fail
           refine (dSubO_c HDc6.out HDe6.out (by omega) (by omega) (by omega)).mono ?_
           rintro e w7 ⟨z7,k7,c7,d7,rfl,hb7,H7⟩
           have HB7:=hid hb7
           have hk7:=H7.out.1
           clear hb7 hsg
           go_wp2
           go_roundw
           case rel =>
            refine ⟨z7,k7,c7,c - e',d7,_,ne,ce,e',fe,rfl,rfl,by omega,hne,HW6.out.trans (HB7.out.mono HW6.out.size),H7.out.2.1,HDe6.out.below HB7.out,HV3.out.1,.inr HEe.out,?_⟩
            rw [gcd_take (by omega)];exact HV3.out.2.2
           case measure =>
            show dOf w7 (.slice z7 k7 c7) + dOf w7 (.slice _ ne ce) < dOf wr1 (.slice za na ca) + dOf wr1 (.slice zb nb cb)
            rw [H7.out.2.1.dOf,(HDe6.out.below HB7.out).dOf,HDa.out.dOf,HDb.out.dOf]
            have h1:=HV2.out;have h2:=HV3.out;omega
def Apart (a b:Option Addr):Prop:=∀ x y,a=some x → b=some y → x.block ≠ y.block
theorem apart_none (b:Option Addr):Apart none b:=fun _ _ h=>by cases h
theorem Apart.symm {a b:Option Addr} (h:Apart a b):Apart b a:=fun x y h1 h2 e=>h y x h2 h1 e.symm
theorem Res.apart {C w w' a b n cap f} {B:Nat} (h:Res C w w' b n cap f) (ha:Und a B) (hB:B ≤ w.heap.size):Apart a b:=by
 rcases h.own with ⟨rfl,_,_⟩ | ⟨g,rfl,h1,_,_,_,_⟩
 ·exact fun _ _ _ h=>by cases h
 ·intro x y hx hy
  cases hy
  have:=ha x hx
  simp;omega
set_option maxHeartbeats 1000000 in
theorem divMod_smallA (ao bo:Option Addr) (n m ca cb:Nat) (f h:Nat → Int) (w:World) (hn:n ≤ 8796093022208) (hm:m ≤ 8796093022208) (hr:Rd .u64 w ao n f) (hs:Rd .u64 w bo m h) (hf:Lm f n) (hh:Lm h m) (ff:Fm f n) (fh:Fm h m) (hsm:m=1 ∨ vf f n < vf h m) :
  Calls Tryz.prog 162 #[.slice ao n ca,.slice bo m cb] w fun e w'=>∃ a1 k1 c1 q a2 k2 c2 r,e=.returned (.tuple #[.slice a1 k1 c1,.slice a2 k2 c2]) ∧ Res n w w' a1 k1 c1 q ∧ Res (n + 1) w w' a2 k2 c2 r ∧ vf f n=vf q k1 * vf h m + vf r k2 ∧ 0 ≤ vf r k2 ∧ vf r k2 < vf h m ∧ Apart a1 a2:=by
 have HF:=hid hf;have HH:=hid hh;have FF:=hid ff;have FH:=hid fh
 clear hf hh ff fh
 have cc:=cmp_c ao bo n m ca cb f h w (by omega) (by omega) hr hs HF.out HH.out FF.out FH.out
 have CC:=hid cc
 clear cc
 by_cases hlt:vf f n < vf h m
 ·have HLt:=hid hlt
  clear hlt hsm
  go_enter Tryz.func162,Tryz.ntmps162
  go_wp2_with fail
  refine CC.out.mono ?_
  rintro e w1 ⟨⟨q,rfl⟩,c,rfl,ho⟩
  have hc:c=-1:=by have:=HLt.out;unfold Ord at ho;omega
  subst hc
  clear ho
  go_wp2_with fail
  refine (clone_c ao n ca f _ (by omega) (show Rd .u64 (w.drewN q) ao n f from hr) HF.out).mono ?_
  rintro e w2 ⟨a2,k2,c2,rfl,hres,hk,hv⟩
  have HV:=hid hv
  clear hv
  go_wp2
  go_ret2
  have hb:=below_drewN (Below.refl w.heap.size w) q
  refine ⟨none,0,0,f,a2,k2,c2,f,rfl,Res.nil f (hb.trans hres.bel),(hres.ahead hb).mono (by omega),?_,?_,?_,apart_none _⟩
  ·rw [HV.out];simp [vf]
  ·rw [HV.out];exact vf_nonneg HF.out
  ·rw [HV.out];exact HLt.out
 ·obtain rfl:m=1:=by omega
  have hle:vf h 1 ≤ vf f n:=by omega
  have HLe:=hid hle
  clear hsm hlt hle
  obtain ⟨b,o,rfl⟩:=hs.at (by omega)
  obtain ⟨x,hx⟩:∃ x,h 0=x:=⟨_,rfl⟩
  have hcell:w.cell? ⟨b,o,none⟩=some (.int .u64 x):=by rw [← hx];exact hs.cell (j:=0) (by omega)
  have hx01:=HH.out 0 (by omega)
  have hx2:x ≠ 0:=by rw [← hx];rcases FH.out with h | h;omega;exact h
  rw [hx] at hx01
  obtain ⟨x0,x1⟩:=hx01
  have hv1:vf h 1=x:=by simp [vf,pw,hx]
  have HV1:=hid hv1
  clear hv1 hx
  go_enter Tryz.func162,Tryz.ntmps162
  go_wp2_with fail
  refine CC.out.mono ?_
  rintro e w1 ⟨⟨q,rfl⟩,c,rfl,ho⟩
  have hc:0 ≤ c:=by have:=HLe.out;unfold Ord at ho;omega
  clear ho
  go_wp2_with fail
  refine (divWord_c ao n ca f x _ (by omega) (show Rd .u64 (w.drewN q) ao n f from hr) HF.out (by omega) x1).mono ?_
  rintro e w2 ⟨a1,k1,c1,q1,r,rfl,hres,r0,r1,hv⟩
  have HV:=hid hv
  clear hv
  go_wp2_with fail
  refine (fromWord_c r w2 r0 (by omega)).mono ?_
  rintro e w3 ⟨a2,k2,c2,q2,rfl,hres2,hv2⟩
  have HV2:=hid hv2
  clear hv2
  go_wp2
  go_ret2
  have hb:=below_drewN (Below.refl w.heap.size w) q
  refine ⟨a1,k1,c1,q1,a2,k2,c2,q2,rfl,(hres.later hres2.bel).ahead hb,((hres2.ahead hres.bel).ahead hb).mono (by omega),?_,?_,?_,hres2.apart hres.und (Nat.le_refl _)⟩
  ·rw [HV2.out,HV1.out];exact HV.out
  ·rw [HV2.out];exact r0
  ·rw [HV2.out,HV1.out];exact r1
end Go.Proofs.YtgmllfcngnfpkaaGreat
