/-
 The walk of package nat's divLong, and divMod for all numbers. Walks of nat's calls Mul and DivMod, whatever they are handed. Walks of the document's reference for nat: DocMul, DocDivMod, DocGcd. strconv.FormatUint at base 10. Walks of package nat's texts: putPiece, limbAt. Walks of package nat's texts: levels, bases. Walks of package nat's texts: putDigits. Walks of package nat's texts: bytes.TrimLeft of noughts, digits, Text. Walks of package nat's calls Text, DivMod and Gcd. The walk of the statements' own look at answers that the document fixes (awake). What a call's own stores turned; lists of a call's own. No Go text is named here. Walks of package whole: Form, signed. Walks of package whole's calls Add, Sub, Mul. Walks of package whole: slices.Clone, Neg, Cmp, Of. The walk of package whole's call Divide. Walks of the document's reference for whole: Same, Twin, DocOf. Walks of package nat's reading: isNumber, readPiece. The walk of the document's reference for nat: Text. Walks of the document's reference for nat: Read, DocRead, DocText. Walks of package nat's reading: joinPieces, fromDigits, Read. Walks of package nat's reading: fromDigits, Read. Walks of nat's Text, and of the document's reference: DocText, DocRead. Walks of package whole's calls Text, Read. The walk of package whole's call Read. The walk of the statements' own look at answers of whole that the document fixes (awake). What the walks of whole's statements share: light, boxes and numbers carried along. Rational numbers in lowest terms: what numerators and denominators become by sums, products, quotients. Euclid's steps by the highest bits (Lehmer's way, Collins' condition), on plain numbers. No Go text is named here. Walks of package nat's greatest common divisor: findSteps. Walks of package nat's greatest common divisor: bitsFrom, highBits. Walks of package nat's greatest common divisor: highBits.
-/
import Derived.Test.YtgmllfcngnfpkaaGreatZ2
import Derived.Test.YtgmllfcngnfpkaaGreatZ1
import Derived.Test.YtgmllfcngnfpkaaGreatZ0
import Derived.Lib.ItoaMem
import Derived.Lib.Walk
import Derived.BigCall
import Derived.BigGuard
import Derived.Lib.BufferWrite
import Derived.Lib.LazyBuf
import Derived.Deep.RegionHeld3
import Derived.Deep.CutRange
import Derived.BigRegion
import Derived.BigQuiet
namespace Go.Proofs.YtgmllfcngnfpkaaGreat
open Go.RowKit
theorem rest_of {A B P V U q R r : Int} (p0 : 0 < P) (hV : V = B * P) (h : U + V * q = A * P) (hU : U < V) (hR : R * P + r = U) (r0 : 0 ≤ r) (r1 : r < P) : A = q * B + R ∧ R < B := by
  have e1 : (A - q * B) * P = U := by rw [Int.sub_mul]; rw [hV] at h; have : q * B * P = B * P * q := by grind
                                      omega
  have e2 : U / P = A - q * B := by rw [← e1]; exact Int.mul_ediv_cancel _ (by omega)
  have e3 : U / P = R := by rw [← hR, Int.add_comm, Int.add_mul_ediv_right _ _ (by omega), Int.ediv_eq_zero_of_lt r0 r1]; omega
  refine ⟨by omega, ?_⟩
  have : R * P < B * P := by rw [← hV]; omega
  exact Int.lt_of_mul_lt_mul_right this (Int.le_of_lt p0)
set_option maxRecDepth 100000 in
set_option maxHeartbeats 8000000 in
theorem divLong_cA (ao bo:Option Addr) (n m ca cb:Nat) (f h:Nat → Int) (w:World) (hn:n ≤ 8796093022208) (hm:m ≤ 8796093022208) (hr:Rd .u64 w ao n f) (hs:Rd .u64 w bo m h) (hf:Lm f n) (hh:Lm h m) (fh:Fm h m) (h2:2 ≤ m) (hle:vf h m ≤ vf f n) :
  Calls Tryz.prog 172 #[.slice ao n ca,.slice bo m cb] w fun e w'=>∃ a1 k1 c1 q a2 k2 c2 r,e=.returned (.tuple #[.slice a1 k1 c1,.slice a2 k2 c2]) ∧ Res n w w' a1 k1 c1 q ∧ Res (n + 1) w w' a2 k2 c2 r ∧ vf f n=vf q k1 * vf h m + vf r k2 ∧ 0 ≤ vf r k2 ∧ vf r k2 < vf h m ∧ Apart a1 a2:=by
 have hmn:m ≤ n:=vf_len hh hf fh hle
 obtain ⟨k,rfl⟩:∃ k,m=k + 1:=⟨m - 1,by omega⟩
 obtain ⟨lq,rfl⟩:∃ lq,n=lq + k:=⟨n - k,by omega⟩
 obtain ⟨b,ob,rfl⟩:=hs.at (by omega)
 obtain ⟨y,hy⟩:∃ y,h k=y:=⟨_,rfl⟩
 have hcell:w.cell? ⟨b,ob + k,none⟩=some (.int .u64 y):=by rw [← hy];exact hs.cell (by omega)
 have hy01:=hh k (by omega)
 have hyne:y ≠ 0:=by rw [← hy];rcases fh with h | h;omega;simpa using h
 rw [hy] at hy01
 obtain ⟨y,rfl⟩:=Int.eq_ofNat_of_zero_le hy01.1
 obtain ⟨s,s0,s1,hse,hP1,hP2⟩:=lead_nums y (by omega) (by omega)
 have cl:=Tryz.bits_LeadingZeros64 (y:Int) w (by omega) (by omega)
 rw [Int.toNat_natCast,hse] at cl
 obtain ⟨P,hP⟩:∃ P:Int,2 ^ s.toNat=P:=⟨_,rfl⟩
 have p0:0 < P:=by rw [← hP];exact Int.pow_pos (by decide)
 have p1:P ≤ 9223372036854775808:=by
  rw [← hP]
  have e1:(2:Int) ^ s.toNat * 2 ^ (63 - s).toNat=9223372036854775808:=by rw [← Int.pow_add,show s.toNat + (63 - s).toNat=63 by omega];rfl
  have e2:(0:Int) < 2 ^ (63 - s).toNat:=Int.pow_pos (by decide)
  have:=Int.mul_le_mul_of_nonneg_left (show (1:Int) ≤ 2 ^ (63 - s).toNat by omega) (Int.le_of_lt (show (0:Int) < 2 ^ s.toNat from Int.pow_pos (by decide)))
  omega
 have hP1':9223372036854775808 ≤ (y:Int) * P:=by rw [← hP];exact hP1
 have hP2':((y:Int) + 1) * P ≤ 18446744073709551616:=by rw [← hP];exact hP2
 obtain ⟨hV1,hV2⟩:=norm_V hh hy p0 hP1' hP2'
 have hA:=vf_lt hf
 have CL:=hid cl;have HF:=hid hf;have HH:=hid hh;have HR:=hid hr;have HS:=hid hs;have HP:=hid hP;have PP0:=hid p0;have PP1:=hid p1;have HV1:=hid hV1;have HV2:=hid hV2;have HA:=hid hA
 clear cl hf hh hr hs hP p0 p1 hV1 hV2 hA hP1 hP2 hP1' hP2' hse fh hle hy
 go_enter Tryz.func172,Tryz.ntmps172
 go_wp2_with fail
 refine CL.out.mono ?_
 rintro e w' ⟨rfl,rfl⟩
 go_wp2_with fail
 refine (shl_c (some ⟨b,ob,none⟩) (k + 1) cb 0 s s h _ (by omega) (by omega) s0 s1 (by omega) HS.out HH.out).mono ?_
 rintro e w1 ⟨av,kv,cv,fv,rfl,hresv,hvv⟩
 rw [HP.out] at hvv
 have hvv2:vf fv kv=vf h (k + 1) * P:=by rw [hvv];simp [pw]
 have hkv:=norm_len hresv.lm hresv.fm hvv2 HV1.out HV2.out
 subst hkv
 have htop:=top_ge hresv.lm (by rw [hvv2];exact HV1.out)
 obtain ⟨gv,hav,hgv0,hgv,hblv⟩:∃ gv,av=some ⟨gv,0,none⟩ ∧ w'.heap.size ≤ gv ∧ gv < w1.heap.size ∧ Rd .u64 w1 (some ⟨gv,0,none⟩) (k + 1) fv:=by
  rcases hresv.own with ⟨_,h,_⟩ | ⟨g,e,hg,_,hn,_,hb⟩
  ·omega
  ·exact ⟨g,e,hg,hb.lt,hb.rd0 hn⟩
 subst hav
 have HVV:=hid hvv2;have HTop:=hid htop;have HRv:=hid hblv;have LV:=hid hresv.lm;have BV:=hid hresv.bel
 have HR1:=hid (HR.out.below BV.out (Nat.le_refl _))
 clear hvv hvv2 htop hblv hresv CL hcell HS HR
 go_wp2_with fail
 refine (shl_c ao (lq + k) ca 0 s s f w1 (by omega) (by omega) s0 s1 (by omega) HR1.out HF.out).mono ?_
 rintro e w2 ⟨au,ku,cu,fu,rfl,hresu,hvu⟩
 rw [HP.out] at hvu
 have hvu2:vf fu ku=vf f (lq + k) * P:=by rw [hvu];simp [pw]
 have hkul:ku ≤ lq + k + 1:=by have:=hresu.le;omega
 have HVU:=hid hvu2;have HRu:=hid hresu.rd;have LU:=hid hresu.lm;have BU:=hid hresu.bel
 have HRv2:=hid (HRv.out.below BU.out (Nat.le_refl _))
 clear hvu hvu2 hresu HR1 HRv
 go_wp2_with fail
 refine (padded_c au ku cu (lq + k + 1) _ fu w2 (by omega) hkul (by omega) HRu.out).mono ?_
 rintro e w3 ⟨rfl,hbel3,hb3⟩
 have HRv3:=hid (HRv2.out.below hbel3 (Nat.le_refl _))
 have BP:=hid hbel3;have HB3:=hid hb3
 clear HRv2 HRu hbel3 hb3
 go_wp2_with (at_make;refine wpList_make_blk .u64 w3 rfl (.tmp 35) (.tmp 35) 22 rfl 79 8 Tryz.underlying22 Tryz.infoU64 .i64 .i64 _ _ lq rfl rfl (by omega) (by omega) (by omega) (by unfold maxLen;omega) ?_;intro w4 hb4 hbel4)
 have G3:w2.heap.size < w3.heap.size:=HB3.out.lt
 have G4:w3.heap.size < w4.heap.size:=hb4.lt
 have z1:=BV.out.size;have z2:=BU.out.size
 have HB4:=hid (HB3.out.below hbel4 G3)
 have HRv4:=hid (HRv3.out.below hbel4 (Nat.le_refl _))
 have BALL:=hid (BV.out.trans ((BU.out.mono z1).trans ((BP.out.mono (by omega)).trans (hbel4.mono (by omega)))))
 obtain ⟨V,hV⟩:∃ V,vf h (k + 1) * P=V:=⟨_,rfl⟩
 have hval0:vf (ext fu ku) (lq + (k + 1))=vf f (lq + k) * P:=by rw [vf_ext_list _ _ _ (by omega),HVU.out]
 have hL0:Lm (ext fu ku) (lq + (k + 1)):=fun j hj=>by
  by_cases hjn:j < ku
  ·rw [ext_in _ _ _ hjn];exact LU.out j hjn
  ·rw [ext_out _ _ _ (by omega)];omega
 have htop0:=first_top hL0 hval0 HA.out PP0.out PP1.out (V:=V) (by rw [← hV];exact HV1.out)
 have VAL0:=hid hval0;have L0:=hid hL0;have TOP0:=hid htop0;have VV:=hid hV;have HB4q:=hid hb4
 have hVlt:V < pw (k + 1):=by rw [← hV];exact HV2.out
 have hvfv:vf fv (k + 1)=V:=by rw [HVV.out,hV]
 have VLT:=hid hVlt;have VFV:=hid hvfv
 clear hval0 hL0 htop0 hV hb4 hVlt hvfv HB3 HRv3 BV BU BP HVV HV1 HV2 HVU LU hbel4
 generalize hG:w2.heap.size=G at G3 G4 z2 HB4 ⊢
 generalize hH:w3.heap.size=H at G3 G4 HB4q ⊢
 clear hG hH
 go_loopw [39] (fun t wr=>∃ (i:Nat) (U Q:Nat → Int),i ≤ lq ∧ t=.int .i64 i ∧ Below w'.heap.size w' wr ∧ Hid (w4.heap.size ≤ wr.heap.size) ∧ Hid (Blk .u64 79 wr G (lq + k + 1) U) ∧ Hid (Lm U (lq + k + 1)) ∧ Hid (Blk .u64 79 wr H lq Q) ∧ Hid (Lm Q lq) ∧ Hid (Rd .u64 wr (some ⟨gv,0,none⟩) (k + 1) fv) ∧ Hid (∀ j,j < lq - i → Q j=0) ∧ Hid (∀ j,lq - i + (k + 1) ≤ j → j < lq + k + 1 → U j=0) ∧ Hid (vf (sh U (lq - i)) (k + 1) < V) ∧ Hid (vf U (lq + k + 1) + V * vf Q lq=vf f (lq + k) * P)) (fun t _=>lq - (intOf t).toNat)
 case atStart=>exact ⟨0,ext fu ku,fun _=>0,by omega,rfl,BALL.out,Nat.le_refl _,HB4.out,L0.out,HB4q.out,lm_zero _,HRv4.out,fun _ _=>rfl,fun j h1 h2=>by omega,TOP0.out,(by show _=_;rw [vf_zero (f:=fun _=>0) (fun _ _=>rfl),VAL0.out.symm];simp;rfl)⟩
 case round =>
  clear BALL HB4 L0 HB4q HRv4 TOP0 VAL0
  obtain ⟨i,U,Q,hi,rfl,hbel,HSz,HBU,HLU,HBQ,HLQ,HRv,HQz,HUz,HTp,HVal⟩:=hrel
  by_cases hlt:i < lq
  ·obtain ⟨p,hp⟩:∃ p,lq - i=p + 1:=⟨lq - i - 1,by omega⟩
   have hpi:(lq:Int) - 1 - (i:Int)=(p:Int):=by omega
   have hp2:p < lq:=by omega
   have hp3:¬ (p=lq + k + 1):=by omega
   have HPe:=hid hp
   clear hp
   have hw:=win_lt (p:=p) (HLU.out.mono (by omega)) (by rw [← HPe.out];exact HTp.out)
   have HW:=hid hw
   clear hw
   have hbl:=HBU.out
   have z3:=HSz.out
   go_wp2_with fail
   rw [show p + (k + 1) + 1 - p=k + 1 + 1 by omega]
   refine (takeOut_c G p (k + 1) (lq + k + 1 - p) (lq + k + 1) U gv 0 cv fv wr HBU.out HLU.out (by omega) (by omega) (by omega) (by omega) HRv.out LV.out (by omega) h2 HTop.out (by rw [VFV.out];exact HW.out)).mono ?_
   rintro e w5 ⟨t,rfl,ht0,ht1,hon,U',hbu',hlu',heu',hvu',hlt'⟩
   rw [VFV.out] at hvu' hlt'
   have hbq':=HBQ.out.only hon (by omega)
   have hcelq:=hbq'.cell (j:=p) hp2
   have hfzq:=hbq'.frozen p
   obtain ⟨hz,hzv⟩:=top_zero (hlu'.sh (o:=p) (m:=k + 1 + 1) (by omega)) (Int.lt_trans hlt' VLT.out)
   have hbel5:Below w'.heap.size w' w5:=below_only hbel hon (by omega) hbel.size
   have HB5:=hid hbu';have HQ5:=hid hbq';have HL5:=hid hlu';have HE5:=hid heu';have HV5:=hid hvu';have HLT5:=hid hlt';have HZ5:=hid hz;have HZV5:=hid hzv;have HON:=hid hon
   have HR5:=hid (HRv.out.only hon (off_some (by omega)))
   clear hbu' hbq' hlu' heu' hvu' hlt' hz hzv hon hbl
   go_wp2
   go_roundw
   case rel =>
    refine ⟨i + 1,U',upd Q p t,by omega,by go_num,below_only hbel5 ((Only.refl _ _).setCell _ _ _) (by omega) hbel5.size,?_,HB5.out.setOther (by simp;omega) _,HL5.out,HQ5.out.set p t,HLQ.out.upd ⟨ht0,ht1⟩,HR5.out.only ((Only.refl _ _).setCell _ _ _) (off_some (by omega)),?_,?_,?_,?_⟩
    ·have:=HON.out.size
     show _ ≤ _
     simp [World.setCell];omega
    ·intro j hj
     have:=HPe.out
     rw [upd_other _ _ _ _ (by omega)]
     exact HQz.out j (by omega)
    ·intro j h1 h2
     have hpe:=HPe.out
     by_cases hj:j=p + (k + 1)
     ·subst hj;exact HZ5.out
     ·rw [HE5.out j (by omega)]
      exact HUz.out j (by omega) h2
    ·have hpe:=HPe.out
     show _ < _
     rw [show lq - (i + 1)=p by omega,HZV5.out];exact HLT5.out
    ·have e1:=win_val (N:=lq + k + 1) (by omega) HE5.out HV5.out
     have e2:=vf_upd (Q:=Q) (N:=lq) (t:=t) hp2 (HQz.out p (by have:=HPe.out;omega))
     have e3:=HVal.out
     show _=_
     rw [e1,e2,Int.mul_add,← e3]
     grind
   case measure=>simp [intOf];omega
  ·have hil:i=lq:=by omega
   subst hil
   have z3:=HSz.out
   have hUz:vf U (i + k + 1)=vf U (k + 1):=vf_ext (by omega) (fun j h1 h2=>HUz.out j (by omega) h2)
   have hTp:=HTp.out
   rw [Nat.sub_self,sh_zero] at hTp
   have hVal:=HVal.out
   rw [hUz] at hVal
   have TPE:=hid hTp;have VALE:=hid hVal
   clear hUz hTp hVal
   have i1:((k + 1:Nat):Int) ≤ ((i + k + 1:Nat):Int):=by omega
   go_wp2_with fail
   go_region_with (first | (go_at_call_of 145 H;refine (trim_res H i i Q w' _ (by repeat (first | exact hbel | refine below_drewN ?_ _ | refine Below.drew ?_)) (by omega) (by exact HBQ.out) (Nat.le_refl _) (by omega) HLQ.out).mono ?_;rintro e w6 ⟨rfl,a1,k1,c1,rfl,hres1,hk1,hv1⟩;have HRes1:=hid hres1;have HVq:=hid hv1;clear hres1 hv1) | (go_at_call_of 145 G;refine (trim_res G (i + k + 1) (k + 1) U w' _ (by repeat (first | exact hbel | refine below_drewN ?_ _ | refine Below.drew ?_)) (by omega) (by exact HBU.out) (by omega) (by omega) HLU.out).mono ?_;rintro e w6 ⟨rfl,a2,k2,c2,rfl,hres2,hk2,hv2⟩;have HRes2:=hid hres2;have HVr:=hid hv2;clear hres2 hv2) | (go_at_call 184;refine (shrBits_c a2 k2 c2 s U _ (by omega) s0 s1 (by exact HRes2.out.rd) HRes2.out.lm).mono ?_;rintro e w7 ⟨a3,k3,c3,R,r,rfl,hres3,r0,r1,hv3⟩;have HRes3:=hid hres3;have HV3:=hid hv3;clear hres3 hv3))
   all_goals
    go_wp2
    go_ret2
    have B:=HRes3.out.bel
    have e3:=HV3.out
    rw [HP.out,HVr.out] at e3
    rw [HP.out] at r1
    obtain ⟨g1,g2⟩:=rest_of PP0.out VV.out.symm VALE.out TPE.out e3 r0 r1
    refine ⟨a1,k1,c1,Q,a3,k3,c3,R,rfl,(HRes1.out.later ⟨B.os,B.tape,B.output,B.size,B.block⟩).mono (by omega),(HRes3.out.ahead (by repeat (first | exact hbel | refine below_drewN ?_ _ | refine Below.drew ?_))).mono (by omega),?_,vf_nonneg HRes3.out.lm,g2,HRes3.out.apart HRes1.out.und (Nat.le_refl _)⟩
    rw [HVq.out];exact g1
theorem divMod_longA (ao bo:Option Addr) (n m ca cb:Nat) (f h:Nat → Int) (w:World) (hn:n ≤ 8796093022208) (hm:m ≤ 8796093022208) (hr:Rd .u64 w ao n f) (hs:Rd .u64 w bo m h) (hf:Lm f n) (hh:Lm h m) (ff:Fm f n) (fh:Fm h m) (h2:2 ≤ m) (hle:vf h m ≤ vf f n) :
  Calls Tryz.prog 162 #[.slice ao n ca,.slice bo m cb] w fun e w'=>∃ a1 k1 c1 q a2 k2 c2 r,e=.returned (.tuple #[.slice a1 k1 c1,.slice a2 k2 c2]) ∧ Res n w w' a1 k1 c1 q ∧ Res (n + 1) w w' a2 k2 c2 r ∧ vf f n=vf q k1 * vf h m + vf r k2 ∧ 0 ≤ vf r k2 ∧ vf r k2 < vf h m ∧ Apart a1 a2:=by
 have cc:=cmp_c ao bo n m ca cb f h w (by omega) (by omega) hr hs hf hh ff fh
 have CC:=hid cc
 have CL:=hid (fun q=>divLong_cA ao bo n m ca cb f h (w.drewN q) hn hm hr hs hf hh fh h2 hle)
 have HLe:=hid hle
 have h1:((m:Int) == 1)=false:=by simp;omega
 clear cc hr hs hf hh ff fh hle
 go_enter Tryz.func162,Tryz.ntmps162
 go_wp2_with fail
 refine CC.out.mono ?_
 rintro e w1 ⟨⟨q,rfl⟩,c,rfl,ho⟩
 have hc:0 ≤ c:=by have:=HLe.out;unfold Ord at ho;omega
 clear ho
 go_wp2_with fail
 refine (CL.out q).mono ?_
 rintro e w2 ⟨a1,k1,c1,q1,a2,k2,c2,r,rfl,hres1,hres2,hv,hr0,hr1,hap⟩
 have HV:=hid hv;have HR0:=hid hr0;have HR1:=hid hr1;have HAP:=hid hap
 clear hv hr0 hr1 hap
 go_wp2
 go_ret2
 have hb:=below_drewN (Below.refl w.heap.size w) q
 exact ⟨a1,k1,c1,q1,a2,k2,c2,r,rfl,hres1.ahead hb,hres2.ahead hb,HV.out,HR0.out,HR1.out,HAP.out⟩
theorem divMod_cA (ao bo:Option Addr) (n m ca cb:Nat) (f h:Nat → Int) (w:World) (hn:n ≤ 8796093022208) (hm:m ≤ 8796093022208) (hr:Rd .u64 w ao n f) (hs:Rd .u64 w bo m h) (hf:Lm f n) (hh:Lm h m) (ff:Fm f n) (fh:Fm h m) (hm0:0 < m) :
  Calls Tryz.prog 162 #[.slice ao n ca,.slice bo m cb] w fun e w'=>∃ a1 k1 c1 q a2 k2 c2 r,e=.returned (.tuple #[.slice a1 k1 c1,.slice a2 k2 c2]) ∧ Res n w w' a1 k1 c1 q ∧ Res (n + 1) w w' a2 k2 c2 r ∧ vf f n=vf q k1 * vf h m + vf r k2 ∧ 0 ≤ vf r k2 ∧ vf r k2 < vf h m ∧ Apart a1 a2:=by
 by_cases hsm:m=1 ∨ vf f n < vf h m
 ·exact divMod_smallA ao bo n m ca cb f h w hn hm hr hs hf hh ff fh hsm
 ·exact divMod_longA ao bo n m ca cb f h w hn hm hr hs hf hh ff fh (by omega) (by omega)
theorem divMod_c (ao bo:Option Addr) (n m ca cb:Nat) (f h:Nat → Int) (w:World) (hn:n ≤ 8796093022208) (hm:m ≤ 8796093022208) (hr:Rd .u64 w ao n f) (hs:Rd .u64 w bo m h) (hf:Lm f n) (hh:Lm h m) (ff:Fm f n) (fh:Fm h m) (hm0:0 < m) :
  Calls Tryz.prog 162 #[.slice ao n ca,.slice bo m cb] w fun e w'=>∃ a1 k1 c1 q a2 k2 c2 r,e=.returned (.tuple #[.slice a1 k1 c1,.slice a2 k2 c2]) ∧ Res n w w' a1 k1 c1 q ∧ Res (n + 1) w w' a2 k2 c2 r ∧ vf f n=vf q k1 * vf h m + vf r k2 ∧ 0 ≤ vf r k2 ∧ vf r k2 < vf h m :=
 (divMod_cA ao bo n m ca cb f h w hn hm hr hs hf hh ff fh hm0).mono fun _ _ ⟨a1,k1,c1,q,a2,k2,c2,r,h1,h2,h3,h4,h5,h6,_⟩=>⟨a1,k1,c1,q,a2,k2,c2,r,h1,h2,h3,h4,h5,h6⟩
set_option maxHeartbeats 800000 in
theorem Mul_c (ao bo:Option Addr) (n m ca cb:Nat) (f h:Nat → Int) (w:World) (hn:n ≤ 1099511627776) (hm:m ≤ 1099511627776) (hca:n ≤ ca) (hcb:m ≤ cb) (hcam:ca ≤ 9223372036854775807) (hcbm:cb ≤ 9223372036854775807) (hr:Rd .u64 w ao n f) (hs:Rd .u64 w bo m h) (hf:Lm f n) (hh:Lm h m) :
  Calls Tryz.prog 126 #[.slice ao n ca,.slice bo m cb] w fun e w'=>∃ ao' k cap' f' er,e=.returned (.tuple #[.slice ao' k cap',.int .i64 er]) ∧ Res (n + m) w w' ao' k cap' f' ∧
   (Fm f n ∧ Fm h m ∧ er=0 ∧ vf f' k=vf f n * vf h m ∨ ¬ (Fm f n ∧ Fm h m) ∧ er=3 ∧ k=0):=by
 have HF:=(show Hid (Lm f n) from hf)
 have HH:=(show Hid (Lm h m) from hh)
 clear hf hh
 cases hfa:fmB f n
 ·have c1:=fun w' hr'=>form_c ao n ca f w' (by omega) hr'
  rw [hfa] at c1
  have HN:=hid (nfm_of hfa)
  have C1:=hid c1
  clear c1 hfa
  go_enter Tryz.func126,Tryz.ntmps126
  go_wp2_with (go_at_call 101;refine (C1.out _ hr).mono ?_;rintro e w' ⟨rfl,rfl⟩)
  go_ret2
  exact ⟨_,_,_,f,_,rfl,Res.nil f (Below.refl _ _),.inr ⟨fun x=>HN.out x.1,rfl,rfl⟩⟩
 ·have c1:=fun w' hr'=>form_c ao n ca f w' (by omega) hr'
  rw [hfa] at c1
  have FA:=hid (fm_of hfa)
  have C1:=hid c1
  clear c1 hfa
  cases hfb:fmB h m
  ·have c2:=fun w' hr'=>form_c bo m cb h w' (by omega) hr'
   rw [hfb] at c2
   have HN:=hid (nfm_of hfb)
   have C2:=hid c2
   clear c2 hfb
   go_enter Tryz.func126,Tryz.ntmps126
   go_wp2_with fail
   refine (C1.out _ hr).mono ?_
   rintro e w' ⟨rfl,rfl⟩
   go_wp2_with fail
   refine (C2.out _ hs).mono ?_
   rintro e w' ⟨rfl,rfl⟩
   go_wp2
   go_ret2
   exact ⟨_,_,_,f,_,rfl,Res.nil f (Below.refl _ _),.inr ⟨fun x=>HN.out x.2,rfl,rfl⟩⟩
  ·have c2:=fun w' hr'=>form_c bo m cb h w' (by omega) hr'
   rw [hfb] at c2
   have FB:=hid (fm_of hfb)
   have C2:=hid c2
   clear c2 hfb
   go_enter Tryz.func126,Tryz.ntmps126
   go_wp2_with fail
   refine (C1.out _ hr).mono ?_
   rintro e w' ⟨rfl,rfl⟩
   go_wp2_with fail
   refine (C2.out _ hs).mono ?_
   rintro e w' ⟨rfl,rfl⟩
   go_wp2_with fail
   refine (mul_c ao bo n m ca cb f h _ hn hm hca hcb hcam hcbm hr hs HF.out HH.out).mono ?_
   rintro e w' ⟨ao',k,cap',f',rfl,hres,hv⟩
   have HV:=hid hv
   clear hv
   go_wp2
   go_ret2
   exact ⟨_,_,_,f',_,rfl,hres,.inl ⟨FA.out,FB.out,rfl,HV.out⟩⟩
theorem fromD_c {w:World} {ao:Option Addr} {n cap:Nat} {f:Nat → Int} (hn:n ≤ 32768) (hr:Rd .u64 w ao n f) (hf:Lm f n) :
  Calls Tryz.prog 83 #[.slice ao n cap] w fun e w'=>∃ z k c d,e=.returned (.slice z k c) ∧ Below w.heap.size w w' ∧ Hid (k ≤ 2 * n ∧ Dn w' z k d (vf f n).toNat) :=
 (from_c ao n cap f w (by omega) hr hf).mono (fun _ _ ⟨z,k,c,h1,h2,h3,h4,_,h5,h6,h7⟩=>⟨z,k,c,_,h1,h2,h4,h3,h5,h6,by rw [h7];have:=vf_nonneg hf;omega⟩)
end Go.Proofs.YtgmllfcngnfpkaaGreat
namespace Go.Proofs.YtgmllfcngnfpkaaGreat
open Go.RowKit Go.Sort Go.Lib
end Go.Proofs.YtgmllfcngnfpkaaGreat
namespace Go.Proofs.YtgmllfcngnfpkaaGreat
open Go.RowKit Go.Lib
theorem limbAt_c (ao:Option Addr) (n cap:Nat) (f:Nat → Int) (i:Nat) (w:World) (hn:n ≤ 140737488355328) (hi:i ≤ 140737488355328) (hr:Rd .u64 w ao n f) :
  Calls Tryz.prog 179 #[.slice ao n cap,.int .i64 i] w fun e w'=>e=.returned (.int .u64 (ext f n i)) ∧ w'=w:=by
 by_cases h:i < n
 ·obtain ⟨b,o,rfl⟩:=hr.at (by omega)
  have hc:=hr.cell h
  have E:=hid (ext_in f n i h)
  clear hr
  go_enter Tryz.func179,Tryz.ntmps179
  go_wp2
  go_ret
  exact ⟨by rw [E.out];rfl,rfl⟩
 ·have E:=hid (ext_out f n i (by omega))
  go_enter Tryz.func179,Tryz.ntmps179
  go_wp2
  go_ret
  exact ⟨by rw [E.out];rfl,rfl⟩
end Go.Proofs.YtgmllfcngnfpkaaGreat
namespace Go.Proofs.YtgmllfcngnfpkaaGreat
open Go.RowKit
def Tg (w:World) (ao:Option Addr):Prop:=∀ a,ao=some a → ∃ arr fr,w.heap[a.block]?=some (.cells arr 79 fr)
def Num (w:World) (v:Value) (C:Nat) (V:Int):Prop:=∃ ao n cap f,v=.slice ao n cap ∧ Rd .u64 w ao n f ∧ Tg w ao ∧ Lm f n ∧ Fm f n ∧ n ≤ C ∧ vf f n=V ∧ n ≤ cap ∧ cap ≤ 9223372036854775807
theorem Tg.und {w ao} (h:Tg w ao):Und ao w.heap.size:=fun a ha=>by
 obtain ⟨arr,fr,e⟩:=h a ha
 exact (Array.getElem?_eq_some_iff.1 e).1
theorem Tg.below {w w' ao} (h:Tg w ao) (hb:Below w.heap.size w w'):Tg w' ao:=fun a ha=>by
 obtain ⟨arr,fr,e⟩:=h a ha
 exact ⟨arr,fr,by rw [hb.block _ (Array.getElem?_eq_some_iff.1 e).1];exact e⟩
theorem Num.below {w w' v C V} (h:Num w v C V) (hb:Below w.heap.size w w'):Num w' v C V:=by
 obtain ⟨ao,n,cap,f,rfl,h1,ht,h2,h3,h4,h5⟩:=h
 exact ⟨ao,n,cap,f,rfl,h1.below hb (Nat.le_refl _),ht.below hb,h2,h3,h4,h5⟩
theorem Tg.off {w ao g} (h:Tg w ao) {cur e fr} (hg:w.heap[g]?=some (.cells cur e fr)) (he:e ≠ 79):Off ao g:=fun a ha hag=>by
 obtain ⟨arr,fr',e'⟩:=h a ha
 rw [hag,hg] at e'
 simp at e'
 exact he e'.2.1
theorem Num.only {w w' v C V g} (h:Num w v C V) (hb:Only g w w') {cur e fr} (hg:w.heap[g]?=some (.cells cur e fr)) (he:e ≠ 79):Num w' v C V:=by
 obtain ⟨ao,n,cap,f,rfl,h1,ht,h2,h3,h4,h5⟩:=h
 have ho:=ht.off hg he
 refine ⟨ao,n,cap,f,rfl,h1.only hb ho,fun a ha=>?_,h2,h3,h4,h5⟩
 obtain ⟨arr,fr',e'⟩:=ht a ha
 exact ⟨arr,fr',by rw [hb.block _ (Array.getElem?_eq_some_iff.1 e').1 (ho a ha)];exact e'⟩
theorem Num.grown {w w' v C V row} (h:Num w v C V) (hb:w.grownBy w' row) (hg:∀ g,row=some g → ∃ cur fr,w.heap[g]?=some (.cells cur 22 fr)):Num w' v C V:=by
 cases row with
 | none=>exact h.below ⟨hb.os,hb.tape,hb.output,hb.size,fun k hk=>hb.block k hk (by simp)⟩
 | some g =>
  obtain ⟨cur,fr,e⟩:=hg g rfl
  exact h.only (g:=g) ⟨hb.os,hb.tape,hb.output,hb.size,fun k hk hn=>hb.block k hk (by simpa using hn)⟩ e (by decide)
theorem Res.num {C w w' ao n cap f} (h:Res C w w' ao n cap f) (hC:C ≤ 9223372036854775807):Num w' (.slice ao n cap) C (vf f n):=by
 refine ⟨ao,n,cap,f,rfl,h.rd,fun a ha=>?_,h.lm,h.fm,h.le,rfl,h.ncap.1,by have:=h.ncap;omega⟩
 rcases h.own with ⟨rfl,_⟩ | ⟨g,rfl,_,_,_,_,hb⟩
 ·cases ha
 ·cases ha
  obtain ⟨arr,e,_⟩:=hb
  exact ⟨arr,_,e⟩
theorem Num.mono {w v C C' V} (h:Num w v C V) (hC:C ≤ C'):Num w v C' V:=by
 obtain ⟨ao,n,cap,f,rfl,h1,ht,h2,h3,h4,h5⟩:=h
 exact ⟨ao,n,cap,f,rfl,h1,ht,h2,h3,by omega,h5⟩
theorem Rd.alloc {k w ao n f} (h:Rd k w ao n f) (o:Obj):Rd k (w.alloc o) ao n f:=h.below ((Below.refl _ _).alloc (Nat.le_refl _) o) (Nat.le_refl _)
theorem below_alloc {w0 w:World} (h:Below w0.heap.size w0 w) (o:Obj):Below w0.heap.size w0 (w.alloc o):=h.alloc h.size o
theorem fm1 {x:Int} (h:x ≠ 0):Fm (fun _=>x) 1:=.inr h
theorem size_alloc1 (w:World) (o:Obj):(w.alloc o).heap.size=w.heap.size + 1:=by simp
structure Turned (lo hi:Nat) (w w':World):Prop where
 os:w'.os=w.os
 tape:w'.tape=w.tape
 output:w'.output=w.output
 size:w.heap.size ≤ w'.heap.size
 block:∀ k,k < w.heap.size → k < lo ∨ hi ≤ k → w'.heap[k]?=w.heap[k]?
theorem Turned.refl (lo hi:Nat) (w:World):Turned lo hi w w:=⟨rfl,rfl,rfl,Nat.le_refl _,fun _ _ _=>rfl⟩
theorem Turned.trans {lo hi:Nat} {a b c:World} (h:Turned lo hi a b) (k:Turned lo hi b c):Turned lo hi a c :=
 ⟨k.os.trans h.os,k.tape.trans h.tape,k.output.trans h.output,Nat.le_trans h.size k.size,fun i hi hn=>(k.block i (Nat.lt_of_lt_of_le hi h.size) hn).trans (h.block i hi hn)⟩
theorem Turned.set {lo hi:Nat} {a w:World} (h:Turned lo hi a w) {x:Addr} (h1:lo ≤ x.block) (h2:x.block < hi) (u:Value):Turned lo hi a (w.setCell x u) :=
 h.trans ⟨rfl,rfl,rfl,by simp [World.setCell],fun k _ hn=>Below.heap_setCell _ _ _ _ (by omega)⟩
theorem Turned.alloc {lo hi:Nat} {a w:World} (h:Turned lo hi a w) (o:Obj):Turned lo hi a (w.alloc o) :=
 h.trans ⟨rfl,rfl,rfl,by simp,fun k hk _=>Below.heap_alloc _ _ _ hk⟩
theorem Turned.drew {lo hi:Nat} {a w:World} (h:Turned lo hi a w):Turned lo hi a w.drew:=⟨h.os,h.tape,h.output,h.size,h.block⟩
theorem Turned.below {lo hi:Nat} {a w w':World} (h:Turned lo hi a w) (hb:Below w.heap.size w w'):Turned lo hi a w' :=
 h.trans ⟨hb.os,hb.tape,hb.output,hb.size,fun k hk _=>hb.block k hk⟩
theorem below_turned {B:Nat} {w0 w w':World} (hb:Below B w0 w) (hB:B ≤ w.heap.size) {lo hi:Nat} (h:Turned lo hi w w') (hl:B ≤ lo):Below B w0 w' :=
 hb.trans ⟨h.os,h.tape,h.output,h.size,fun k hk=>h.block k (by omega) (.inl (by omega))⟩
theorem Own.of {k e w w' base ao n cap f} (h:Own k e w base (.slice ao n cap) n f) (hh:∀ a,ao=some a → w'.heap[a.block]?=w.heap[a.block]?):Own k e w' base (.slice ao n cap) n f:=by
 obtain ⟨h1,h2⟩:=h
 refine ⟨h1,?_⟩
 rcases h2 with ⟨h3,h4⟩ | ⟨g,cap',cur,hv,hb,hg,hn,hm,hs,ht⟩
 ·exact .inl ⟨h3,h4⟩
 ·cases hv
  exact .inr ⟨g,cap,cur,rfl,hb,(hh _ rfl).trans hg,hn,hm,hs,ht⟩
theorem Own.base {k e w base base' v n f} (h:Own k e w base v n f) (hb:base' ≤ base):Own k e w base' v n f:=by
 obtain ⟨h1,h2⟩:=h
 refine ⟨h1,?_⟩
 rcases h2 with ⟨h3,h4⟩ | ⟨g,cap',cur,hv,hb',hg,hn,hm,hs,ht⟩
 ·exact .inl ⟨h3,h4⟩
 ·exact .inr ⟨g,cap',cur,hv,Nat.le_trans hb hb',hg,hn,hm,hs,ht⟩
theorem Own.slice {k e w base ao n cap f} (h:Own k e w base (.slice ao n cap) n f):n ≤ cap ∧ cap ≤ 9223372036854775807 ∧ (ao=none → n=0 ∧ cap=0) ∧ Rd k w ao n f ∧ ∀ a,ao=some a → base ≤ a.block ∧ a.block < w.heap.size:=by
 obtain ⟨ao',cap',e',h1,h2,h3,h4,h5⟩:=h.shape
 cases e'
 refine ⟨h1,by unfold maxLen at h3;omega,fun e=>⟨by have:=h2 e;omega,h2 e⟩,h4,h5⟩
def wfB (s:Bool) (f:Nat → Int) (n:Nat):Bool:=fmB f n && !(s && decide (n=0))
theorem bcell {W w1:World} {B:Nat} (hb:Below B W w1):(∀ b o,b < B → w1.cell? ⟨b,o,none⟩=W.cell? ⟨b,o,none⟩) ∧ (∀ b o,b < B → w1.frozen? ⟨b,o,none⟩=W.frozen? ⟨b,o,none⟩) :=
 ⟨fun b o h=>hb.cell (p:=⟨b,o,none⟩) h,fun b o h=>hb.frozen (p:=⟨b,o,none⟩) h⟩
theorem drewN_below {w w':World} {q:Nat} (h:w'=w.drewN q):Below w.heap.size w w':=by rw [h];exact below_drewN (Below.refl _ _) _
theorem wForm_c (s:Bool) (ao:Option Addr) (n cap:Nat) (f:Nat → Int) (w:World) (hm:n ≤ 9223372036854775807) (hr:Rd .u64 w ao n f) :
  Calls Tryz.prog 99 #[.agg #[.bool s,.slice ao n cap]] w fun e w'=>e=.returned (.bool (wfB s f n)) ∧ Below w.heap.size w w':=by
 have hba:Below w.heap.size w (w.alloc (.cells #[.bool s,.slice ao n cap] 147)):=below_alloc (Below.refl _ _) _
 have c1:=form_c ao n cap f (w.alloc (.cells #[.bool s,.slice ao n cap] 147)) hm (hr.alloc _)
 have HB:=hid hba
 clear hr hba
 have hwf:wfB s f n=(fmB f n && !(s && decide (n=0))):=rfl
 rw [hwf]
 clear hwf
 cases hfa:fmB f n
 ·rw [hfa] at c1
  have C1:=hid c1
  clear c1 hfa
  go_enter Tryz.func99,Tryz.ntmps99
  go_wp2_with fail
  refine C1.out.mono ?_
  rintro e w1 ⟨rfl,rfl⟩
  go_wp2
  go_ret
  exact ⟨rfl,HB.out⟩
 ·rw [hfa] at c1
  have C1:=hid c1
  clear c1 hfa
  cases s
  ·go_enter Tryz.func99,Tryz.ntmps99
   go_wp2_with fail
   refine C1.out.mono ?_
   rintro e w1 ⟨rfl,rfl⟩
   go_wp2
   go_ret
   exact ⟨rfl,HB.out⟩
  ·by_cases hn0:n=0
   ·subst hn0
    go_enter Tryz.func99,Tryz.ntmps99
    go_wp2_with fail
    refine C1.out.mono ?_
    rintro e w1 ⟨rfl,rfl⟩
    go_wp2
    go_ret
    exact ⟨rfl,HB.out⟩
   ·have hni:((n:Int) == 0)=false:=by simp;omega
    have hdn:decide (n=0)=false:=by simp;omega
    rw [hdn]
    clear hdn
    go_enter Tryz.func99,Tryz.ntmps99
    go_wp2_with fail
    refine C1.out.mono ?_
    rintro e w1 ⟨rfl,rfl⟩
    go_wp2
    go_ret
    exact ⟨rfl,HB.out⟩
theorem signed_c (s:Bool) (ao:Option Addr) (n cap:Nat) (w:World) (hm:n ≤ 9223372036854775807) :
  Calls Tryz.prog 127 #[.bool s,.slice ao n cap] w fun e w'=>∃ r o,e=.returned (.agg #[.bool r,.slice ao n cap]) ∧ Hid (r=(s && decide (0 < n))) ∧ w'=w.alloc o:=by
 cases s
 ·go_enter Tryz.func127,Tryz.ntmps127
  go_wp2
  exact bodyPost_ret (v:=.agg #[.bool false,.slice ao n cap]) (by simp [results,Tryz.results127,go_sem]) rfl ⟨false,_,rfl,rfl,rfl⟩
 ·by_cases hn0:0 < n
  ·have hni:decide ((0:Int) < (n:Int))=true:=by simp;omega
   have hdn:decide (0 < n)=true:=by simp;omega
   rw [hdn]
   clear hdn
   go_enter Tryz.func127,Tryz.ntmps127
   go_wp2
   exact bodyPost_ret (v:=.agg #[.bool true,.slice ao n cap]) (by simp [results,Tryz.results127,go_sem]) rfl ⟨true,_,rfl,rfl,rfl⟩
  ·have hni:decide ((0:Int) < (n:Int))=false:=by simp;omega
   have hdn:decide (0 < n)=false:=by simp;omega
   rw [hdn]
   clear hdn
   go_enter Tryz.func127,Tryz.ntmps127
   go_wp2
   exact bodyPost_ret (v:=.agg #[.bool false,.slice ao n cap]) (by simp [results,Tryz.results127,go_sem]) rfl ⟨false,_,rfl,rfl,rfl⟩
def wv (s:Bool) (f:Nat → Int) (n:Nat):Int:=if s then - vf f n else vf f n
theorem Res.turned {C w0 w w' w'' ao n cap f} (h:Res C w w' ao n cap f) (hb:Below w0.heap.size w0 w) (ht:Turned w0.heap.size w.heap.size w' w''):Res C w0 w'' ao n cap f:=by
 have hb2:Below w0.heap.size w0 w':=hb.trans (h.bel.mono hb.size)
 refine ⟨below_turned hb2 hb2.size ht (Nat.le_refl _),?_,h.lmc,h.fm⟩
 rcases h.own with ⟨rfl,rfl,rfl⟩ | ⟨g,rfl,h1,h2,h3,h4,h5⟩
 ·exact .inl ⟨rfl,rfl,rfl⟩
 ·exact .inr ⟨g,rfl,by have:=hb.size;omega,h2,h3,h4,h5.of (ht.block g h5.lt (.inr h1))⟩
structure Asw (C:Nat) (w w':World) (ao:Option Addr) (n cap:Nat) (f:Nat → Int):Prop where
 bel:Below w.heap.size w w'
 own:Own .u64 79 w' w.heap.size (.slice ao n cap) n f
 lm:Lm f n
 fm:Fm f n
 le:n ≤ C
theorem Asw.rd {C w w' ao n cap f} (h:Asw C w w' ao n cap f):Rd .u64 w' ao n f:=h.own.slice.2.2.2.1
theorem Asw.ncap {C w w' ao n cap f} (h:Asw C w w' ao n cap f):n ≤ cap ∧ cap ≤ 9223372036854775807:=⟨h.own.slice.1,h.own.slice.2.1⟩
theorem Asw.nil' {C w w' ao n cap f} (h:Asw C w w' ao n cap f):ao=none → n=0 ∧ cap=0:=h.own.slice.2.2.1
theorem Asw.mono {C C' w w' ao n cap f} (h:Asw C w w' ao n cap f) (hC:C ≤ C'):Asw C' w w' ao n cap f:=⟨h.bel,h.own,h.lm,h.fm,Nat.le_trans h.le hC⟩
theorem Asw.none {C:Nat} {w w':World} (f:Nat → Int) (h:Below w.heap.size w w'):Asw C w w' none 0 0 f:=⟨h,own_nil _ _ _ _ _,fun j hj=>by omega,.inl rfl,Nat.zero_le _⟩
theorem Asw.turned {C w0 w w' w'' ao n cap f} (h:Asw C w w' ao n cap f) (hb:Below w0.heap.size w0 w) (ht:Turned w0.heap.size w.heap.size w' w''):Asw C w0 w'' ao n cap f:=by
 have hb2:Below w0.heap.size w0 w':=hb.trans (h.bel.mono hb.size)
 refine ⟨below_turned hb2 hb2.size ht (Nat.le_refl _),(h.own.of ?_).base hb.size,h.lm,h.fm,h.le⟩
 intro a ha
 obtain ⟨h1,h2⟩:=h.own.slice.2.2.2.2 a ha
 exact ht.block _ h2 (.inr h1)
theorem Asw.ahead {C w0 w w' ao n cap f} (h:Asw C w w' ao n cap f) (hb:Below w0.heap.size w0 w):Asw C w0 w' ao n cap f:=h.turned hb (Turned.refl _ _ _)
theorem Asw.later {C w w' w'' ao n cap f} (h:Asw C w w' ao n cap f) (hb:Below w'.heap.size w' w''):Asw C w w'' ao n cap f :=
 ⟨h.bel.trans (hb.mono h.bel.size),h.own.below hb,h.lm,h.fm,h.le⟩
theorem Res.ans {C w w' ao n cap f} (h:Res C w w' ao n cap f) (hC:C ≤ 9223372036854775807):Asw C w w' ao n cap f:=by
 refine ⟨h.bel,?_,h.lm,h.fm,h.le⟩
 rcases h.own with ⟨rfl,rfl,rfl⟩ | ⟨g,rfl,h1,h2,h3,h4,h5⟩
 ·exact own_nil _ _ _ _ _
 ·exact own_of_blk h5 h1 h3 (by unfold maxLen;omega)
structure WRes (C:Nat) (w w':World) (s:Bool) (ao:Option Addr) (n cap:Nat) (f:Nat → Int):Prop where
 res:Asw C w w' ao n cap f
 sgn:s=true → 0 < n
theorem wfB_iff (s:Bool) (f:Nat → Int) (n:Nat):wfB s f n=true ↔ Fm f n ∧ (s=true → 0 < n):=by
 rw [← fmB_iff];unfold wfB;cases s <;> simp;omega
theorem WRes.wfB {C w w' s ao n cap f} (h:WRes C w w' s ao n cap f):wfB s f n=true:=(wfB_iff s f n).2 ⟨h.res.fm,h.sgn⟩
theorem wv_false (f:Nat → Int) (n:Nat):wv false f n=vf f n:=rfl
theorem wv_true (f:Nat → Int) (n:Nat):wv true f n=- vf f n:=rfl
theorem WRes.mk' {C w w' ao n cap f} {r s:Bool} (hr:Hid (r=(s && decide (0 < n)))) (h:Asw C w w' ao n cap f):WRes C w w' r ao n cap f:=⟨h,fun h=>by rw [hr.out] at h;simp at h;exact h.2⟩
theorem wv_sign {f n} {r s:Bool} (hr:Hid (r=(s && decide (0 < n)))):wv r f n=wv s f n:=by
 rw [hr.out]
 by_cases hn:0 < n
 ·simp [hn]
 ·obtain rfl:n=0:=by omega
  cases s <;> simp [wv,vf]
def WAns (P:Prop) (v:Int) (r:Bool) (k:Nat) (f:Nat → Int) (er:Int):Prop:=P ∧ er=0 ∧ wv r f k=v ∨ ¬ P ∧ er=3 ∧ k=0
def W2 (s:Bool) (f:Nat → Int) (n:Nat) (t:Bool) (h:Nat → Int) (m:Nat):Prop:=wfB s f n=true ∧ wfB t h m=true
theorem fm_of_wfB {s:Bool} {f:Nat → Int} {n:Nat} (h:wfB s f n=true):Fm f n:=((wfB_iff s f n).1 h).1
theorem sgn_of_wfB {s:Bool} {f:Nat → Int} {n:Nat} (h:wfB s f n=true):s=true → 0 < n:=((wfB_iff s f n).1 h).2
theorem boxes3 {w w1:World} {a0 a1 b0 b1 c0 c1:Value} {t:TypeId} (hb:Below (((w.alloc (.cells #[a0,a1] t)).alloc (.cells #[b0,b1] t)).alloc (.cells #[c0,c1] t)).heap.size (((w.alloc (.cells #[a0,a1] t)).alloc (.cells #[b0,b1] t)).alloc (.cells #[c0,c1] t)) w1) :
  (w.heap.size + 1 + 1 < w1.heap.size ∧ w1.cell? ⟨w.heap.size,0,none⟩=some a0 ∧ w1.cell? ⟨w.heap.size,1,none⟩=some a1 ∧ w1.cell? ⟨w.heap.size + 1,0,none⟩=some b0 ∧ w1.cell? ⟨w.heap.size + 1,1,none⟩=some b1 ∧ w1.cell? ⟨w.heap.size + 1 + 1,0,none⟩=some c0 ∧ w1.cell? ⟨w.heap.size + 1 + 1,1,none⟩=some c1) ∧ (∀ o,w1.frozen? ⟨w.heap.size + 1 + 1,o,none⟩=false) ∧ Below w.heap.size w w1:=by
 obtain ⟨h1,h2⟩:=bcell hb
 have hz:=hb.size
 simp at hz
 refine ⟨⟨by omega,(h1 _ _ (by simp;omega)).trans (by simp [go_sem]),(h1 _ _ (by simp;omega)).trans (by simp [go_sem]),(h1 _ _ (by simp)).trans (by simp [go_sem]),(h1 _ _ (by simp)).trans (by simp [go_sem]),(h1 _ _ (by simp)).trans (by simp [go_sem]),(h1 _ _ (by simp)).trans (by simp [go_sem])⟩,fun o=>(h2 _ _ (by simp)).trans (by
  have e:=heap_alloc_new ((w.alloc (.cells #[a0,a1] t)).alloc (.cells #[b0,b1] t)) (.cells #[c0,c1] t)
  rw [size_alloc1,size_alloc1] at e
  simp only [World.frozen?,e];simp),?_⟩
 exact (below_alloc (below_alloc (below_alloc (Below.refl w.heap.size w) _) _) _).trans (hb.mono (by simp;omega))
theorem keep3 {w w1 w2:World} {a0 a1 b0 b1 c0 c1:Value} (hb:Below w1.heap.size w1 w2) (h:w.heap.size + 1 + 1 < w1.heap.size ∧ w1.cell? ⟨w.heap.size,0,none⟩=some a0 ∧ w1.cell? ⟨w.heap.size,1,none⟩=some a1 ∧ w1.cell? ⟨w.heap.size + 1,0,none⟩=some b0 ∧ w1.cell? ⟨w.heap.size + 1,1,none⟩=some b1 ∧ w1.cell? ⟨w.heap.size + 1 + 1,0,none⟩=some c0 ∧ w1.cell? ⟨w.heap.size + 1 + 1,1,none⟩=some c1) (hf:∀ o,w1.frozen? ⟨w.heap.size + 1 + 1,o,none⟩=false) (hw:Below w.heap.size w w1) :
  (w.heap.size + 1 + 1 < w2.heap.size ∧ w2.cell? ⟨w.heap.size,0,none⟩=some a0 ∧ w2.cell? ⟨w.heap.size,1,none⟩=some a1 ∧ w2.cell? ⟨w.heap.size + 1,0,none⟩=some b0 ∧ w2.cell? ⟨w.heap.size + 1,1,none⟩=some b1 ∧ w2.cell? ⟨w.heap.size + 1 + 1,0,none⟩=some c0 ∧ w2.cell? ⟨w.heap.size + 1 + 1,1,none⟩=some c1) ∧ (∀ o,w2.frozen? ⟨w.heap.size + 1 + 1,o,none⟩=false) ∧ Below w.heap.size w w2:=by
 obtain ⟨h1,h2⟩:=bcell hb
 have hz:=hb.size
 obtain ⟨z,a,b,c,d,e,f⟩:=h
 exact ⟨⟨by omega,(h1 _ _ (by omega)).trans a,(h1 _ _ (by omega)).trans b,(h1 _ _ (by omega)).trans c,(h1 _ _ (by omega)).trans d,(h1 _ _ (by omega)).trans e,(h1 _ _ (by omega)).trans f⟩,fun o=>(h2 _ _ (by omega)).trans (hf o),hw.trans (hb.mono hw.size)⟩
theorem wv_mul (s t:Bool) (f h g:Nat → Int) (n m k:Nat) (hv:vf g k=vf f n * vf h m):wv (!(s == t)) g k=wv s f n * wv t h m:=by
 cases s <;> cases t <;> simp [wv,hv,Int.neg_mul,Int.mul_neg]
set_option maxHeartbeats 1000000 in
theorem wMul_c (s t:Bool) (ao bo:Option Addr) (n m ca cb:Nat) (f h:Nat → Int) (w:World) (hn:n ≤ 1099511627776) (hm:m ≤ 1099511627776) (hca:n ≤ ca) (hcb:m ≤ cb) (hcam:ca ≤ 9223372036854775807) (hcbm:cb ≤ 9223372036854775807) (hr:Rd .u64 w ao n f) (hs:Rd .u64 w bo m h) (hf:Lm f n) (hh:Lm h m) :
  Calls Tryz.prog 119 #[.agg #[.bool s,.slice ao n ca],.agg #[.bool t,.slice bo m cb]] w fun e w'=>∃ r ao' k cap' f' er,e=.returned (.tuple #[.agg #[.bool r,.slice ao' k cap'],.int .i64 er]) ∧ WRes (n + m) w w' r ao' k cap' f' ∧ WAns (W2 s f n t h m) (wv s f n * wv t h m) r k f' er:=by
 have HR:=hid hr;have HS:=hid hs;have HF:=hid hf;have HH:=hid hh
 clear hr hs hf hh
 cases hfa:wfB s f n
 ·have c1:=fun W hr'=>wForm_c s ao n ca f W (by omega) hr'
  rw [hfa] at c1
  have C1:=hid c1;have HN:=hid hfa
  clear c1 hfa
  go_enter Tryz.func119,Tryz.ntmps119
  go_wp2_with fail
  refine (C1.out _ (((HR.out.alloc _).alloc _).alloc _)).mono ?_
  rintro e w1 ⟨rfl,hb⟩
  obtain ⟨⟨hz,x0,x1,y0,y1,z0,z1⟩,zf,hw⟩:=boxes3 hb
  have HB:=hid hb;have HW:=hid hw
  clear hb hw
  go_wp2
  refine bodyPost_ret (v:=.tuple #[.agg #[.bool false,.slice none 0 0],.int .i64 3]) (by simp [results,Tryz.results119,go_sem,z0,z1]) rfl ⟨false,none,0,0,f,3,rfl,⟨Asw.none f ?_,fun h=>by cases h⟩,.inr ⟨fun x=>?_,rfl,rfl⟩⟩
  ·exact below_turned HW.out HW.out.size (((Turned.refl _ (w.heap.size + 1 + 1 + 1) _).set (by first | omega | (simp;done) | (simp;omega)) (by first | omega | (simp;done) | (simp;omega)) _).set (by first | omega | (simp;done) | (simp;omega)) (by first | omega | (simp;done) | (simp;omega)) _) (Nat.le_refl _)
  ·have:=x.1;rw [HN.out] at this;cases this
 ·have c1:=fun W hr'=>wForm_c s ao n ca f W (by omega) hr'
  rw [hfa] at c1
  have C1:=hid c1;have HA:=hid hfa
  clear c1 hfa
  cases hfb:wfB t h m
  ·have c2:=fun W hr'=>wForm_c t bo m cb h W (by omega) hr'
   rw [hfb] at c2
   have C2:=hid c2;have HN:=hid hfb
   clear c2 hfb
   go_enter Tryz.func119,Tryz.ntmps119
   go_wp2_with fail
   refine (C1.out _ (((HR.out.alloc _).alloc _).alloc _)).mono ?_
   rintro e w1 ⟨rfl,hb⟩
   obtain ⟨⟨hz,x0,x1,y0,y1,z0,z1⟩,zf,hw⟩:=boxes3 hb
   have HW:=hid hw
   clear hb hw
   go_wp2_with fail
   refine (C2.out _ (HS.out.below HW.out (Nat.le_refl _))).mono ?_
   rintro e w2 ⟨rfl,hb⟩
   obtain ⟨⟨hz,x0,x1,y0,y1,z0,z1⟩,zf,hw⟩:=keep3 hb ⟨hz,x0,x1,y0,y1,z0,z1⟩ zf HW.out
   have HW2:=hid hw
   clear hb hw
   go_wp2
   refine bodyPost_ret (v:=.tuple #[.agg #[.bool false,.slice none 0 0],.int .i64 3]) (by simp [results,Tryz.results119,go_sem,z0,z1]) rfl ⟨false,none,0,0,f,3,rfl,⟨Asw.none f ?_,fun h=>by cases h⟩,.inr ⟨fun x=>?_,rfl,rfl⟩⟩
   ·exact below_turned HW2.out HW2.out.size (((Turned.refl _ (w.heap.size + 1 + 1 + 1) _).set (by first | omega | (simp;done) | (simp;omega)) (by first | omega | (simp;done) | (simp;omega)) _).set (by first | omega | (simp;done) | (simp;omega)) (by first | omega | (simp;done) | (simp;omega)) _) (Nat.le_refl _)
   ·have:=x.2;rw [HN.out] at this;cases this
  ·have c2:=fun W hr'=>wForm_c t bo m cb h W (by omega) hr'
   rw [hfb] at c2
   have C2:=hid c2;have HB:=hid hfb
   clear c2 hfb
   go_enter Tryz.func119,Tryz.ntmps119
   go_wp2_with fail
   refine (C1.out _ (((HR.out.alloc _).alloc _).alloc _)).mono ?_
   rintro e w1 ⟨rfl,hb⟩
   obtain ⟨⟨hz,x0,x1,y0,y1,z0,z1⟩,zf,hw⟩:=boxes3 hb
   have HW:=hid hw
   clear hb hw
   go_wp2_with fail
   refine (C2.out _ (HS.out.below HW.out (Nat.le_refl _))).mono ?_
   rintro e w2 ⟨rfl,hb⟩
   obtain ⟨⟨hz,x0,x1,y0,y1,z0,z1⟩,zf,hw⟩:=keep3 hb ⟨hz,x0,x1,y0,y1,z0,z1⟩ zf HW.out
   have HW2:=hid hw
   clear hb hw
   go_wp2_with fail
   refine (Mul_c ao bo n m ca cb f h _ hn hm hca hcb hcam hcbm (HR.out.below HW2.out (Nat.le_refl _)) (HS.out.below HW2.out (Nat.le_refl _)) HF.out HH.out).mono ?_
   rintro e w3 ⟨xa,k,cx,g,er,rfl,hres,hc⟩
   obtain ⟨rfl,hv⟩:er=0 ∧ vf g k=vf f n * vf h m:=by
    rcases hc with ⟨_,_,h1,h2⟩ | ⟨h1,_⟩
    ·exact ⟨h1,h2⟩
    ·exact absurd ⟨fm_of_wfB HA.out,fm_of_wfB HB.out⟩ h1
   clear hc
   obtain ⟨⟨hz,x0,x1,y0,y1,z0,z1⟩,zf,hw⟩:=keep3 hres.bel ⟨hz,x0,x1,y0,y1,z0,z1⟩ zf HW2.out
   have hk:k ≤ n + m:=hres.le
   have HRes:=hid hres;have HV:=hid hv
   clear hres hv hw
   go_wp2_with fail
   refine (signed_c _ xa k cx _ (by omega)).mono ?_
   rintro e w4 ⟨r,o,rfl,hsg,rfl⟩
   go_wp2
   refine bodyPost_ret (v:=.tuple #[.agg #[.bool r,.slice xa k cx],.int .i64 0]) (by simp [results,Tryz.results119,go_sem,z0,z1,hz]) rfl ⟨r,xa,k,cx,g,0,rfl,?_,.inl ⟨⟨HA.out,HB.out⟩,rfl,?_⟩⟩
   ·exact WRes.mk' hsg ((HRes.out.turned HW2.out ((((Turned.refl _ _ _).set (by first | omega | (simp;done) | (simp;omega)) (by first | omega | (simp;done) | (simp;omega)) _).set (by first | omega | (simp;done) | (simp;omega)) (by first | omega | (simp;done) | (simp;omega)) _).alloc _)).ans (by omega))
   ·rw [wv_sign hsg];exact wv_mul s t f h g n m k HV.out
def W1 (s:Bool) (f:Nat → Int) (n:Nat):Prop:=wfB s f n=true
theorem boxes2 {w w1:World} {a0 a1 c0 c1:Value} {t:TypeId} (hb:Below ((w.alloc (.cells #[a0,a1] t)).alloc (.cells #[c0,c1] t)).heap.size ((w.alloc (.cells #[a0,a1] t)).alloc (.cells #[c0,c1] t)) w1) :
  (w.heap.size + 1 < w1.heap.size ∧ w1.cell? ⟨w.heap.size,0,none⟩=some a0 ∧ w1.cell? ⟨w.heap.size,1,none⟩=some a1 ∧ w1.cell? ⟨w.heap.size + 1,0,none⟩=some c0 ∧ w1.cell? ⟨w.heap.size + 1,1,none⟩=some c1) ∧ (∀ o,w1.frozen? ⟨w.heap.size + 1,o,none⟩=false) ∧ Below w.heap.size w w1:=by
 obtain ⟨h1,h2⟩:=bcell hb
 have hz:=hb.size
 simp at hz
 refine ⟨⟨by omega,(h1 _ _ (by simp;omega)).trans (by simp [go_sem]),(h1 _ _ (by simp;omega)).trans (by simp [go_sem]),(h1 _ _ (by simp)).trans (by simp [go_sem]),(h1 _ _ (by simp)).trans (by simp [go_sem])⟩,fun o=>(h2 _ _ (by simp)).trans (by
  have e:=heap_alloc_new (w.alloc (.cells #[a0,a1] t)) (.cells #[c0,c1] t)
  rw [size_alloc1] at e
  simp only [World.frozen?,e];simp),?_⟩
 exact (below_alloc (below_alloc (Below.refl w.heap.size w) _) _).trans (hb.mono (by simp;omega))
theorem keep2 {w w1 w2:World} {a0 a1 c0 c1:Value} (hb:Below w1.heap.size w1 w2) (h:w.heap.size + 1 < w1.heap.size ∧ w1.cell? ⟨w.heap.size,0,none⟩=some a0 ∧ w1.cell? ⟨w.heap.size,1,none⟩=some a1 ∧ w1.cell? ⟨w.heap.size + 1,0,none⟩=some c0 ∧ w1.cell? ⟨w.heap.size + 1,1,none⟩=some c1) (hf:∀ o,w1.frozen? ⟨w.heap.size + 1,o,none⟩=false) (hw:Below w.heap.size w w1) :
  (w.heap.size + 1 < w2.heap.size ∧ w2.cell? ⟨w.heap.size,0,none⟩=some a0 ∧ w2.cell? ⟨w.heap.size,1,none⟩=some a1 ∧ w2.cell? ⟨w.heap.size + 1,0,none⟩=some c0 ∧ w2.cell? ⟨w.heap.size + 1,1,none⟩=some c1) ∧ (∀ o,w2.frozen? ⟨w.heap.size + 1,o,none⟩=false) ∧ Below w.heap.size w w2:=by
 obtain ⟨h1,h2⟩:=bcell hb
 have hz:=hb.size
 obtain ⟨z,a,b,e,f⟩:=h
 exact ⟨⟨by omega,(h1 _ _ (by omega)).trans a,(h1 _ _ (by omega)).trans b,(h1 _ _ (by omega)).trans e,(h1 _ _ (by omega)).trans f⟩,fun o=>(h2 _ _ (by omega)).trans (hf o),hw.trans (hb.mono hw.size)⟩
theorem vf_pos {f:Nat → Int} {n:Nat} (h:Lm f n) (hf:Fm f n) (hn:0 < n):0 < vf f n:=by
 have h1:=vf_form_ge h hf hn;have h2:=pw_pos (n - 1);omega
def WCmp (P:Prop) (a b:Int) (c er:Int):Prop:=P ∧ er=0 ∧ Ord c a b ∨ ¬ P ∧ er=3 ∧ c=0
set_option maxHeartbeats 1000000 in
theorem wCmp_c (s t:Bool) (ao bo:Option Addr) (n m ca cb:Nat) (f h:Nat → Int) (w:World) (hn:n ≤ 8796093022208) (hm:m ≤ 8796093022208) (hr:Rd .u64 w ao n f) (hs:Rd .u64 w bo m h) (hf:Lm f n) (hh:Lm h m) :
  Calls Tryz.prog 121 #[.agg #[.bool s,.slice ao n ca],.agg #[.bool t,.slice bo m cb]] w fun e w'=>∃ c er,e=.returned (.tuple #[.int .i64 c,.int .i64 er]) ∧ Below w.heap.size w w' ∧ WCmp (W2 s f n t h m) (wv s f n) (wv t h m) c er:=by
 have HR:=hid hr;have HS:=hid hs;have HF:=hid hf;have HH:=hid hh
 clear hr hs hf hh
 cases hfa:wfB s f n
 ·have c1:=fun W hr'=>wForm_c s ao n ca f W (by omega) hr'
  rw [hfa] at c1
  have C1:=hid c1;have HN:=hid hfa
  clear c1 hfa
  go_enter Tryz.func121,Tryz.ntmps121
  go_wp2_with fail
  refine (C1.out _ ((HR.out.alloc _).alloc _)).mono ?_
  rintro e w1 ⟨rfl,hb⟩
  obtain ⟨⟨hz,x0,x1,z0,z1⟩,zf,hw⟩:=boxes2 hb
  have HW:=hid hw
  clear hb hw
  go_wp2
  go_ret2
  exact ⟨0,3,rfl,HW.out,.inr ⟨(fun x=>by have:=HN.out.symm.trans x.1;cases this),rfl,rfl⟩⟩
 ·have c1:=fun W hr'=>wForm_c s ao n ca f W (by omega) hr'
  rw [hfa] at c1
  have C1:=hid c1;have HA:=hid hfa
  clear c1 hfa
  cases hfb:wfB t h m
  ·have c2:=fun W hr'=>wForm_c t bo m cb h W (by omega) hr'
   rw [hfb] at c2
   have C2:=hid c2;have HN:=hid hfb
   clear c2 hfb
   go_enter Tryz.func121,Tryz.ntmps121
   go_wp2_with fail
   refine (C1.out _ ((HR.out.alloc _).alloc _)).mono ?_
   rintro e w1 ⟨rfl,hb⟩
   obtain ⟨⟨hz,x0,x1,z0,z1⟩,zf,hw⟩:=boxes2 hb
   have HW:=hid hw
   clear hb hw
   go_wp2_with fail
   refine (C2.out _ (HS.out.below HW.out (Nat.le_refl _))).mono ?_
   rintro e w2 ⟨rfl,hb⟩
   obtain ⟨⟨hz,x0,x1,z0,z1⟩,zf,hw⟩:=keep2 hb ⟨hz,x0,x1,z0,z1⟩ zf HW.out
   have HW2:=hid hw
   clear hb hw
   go_wp2
   go_ret2
   exact ⟨0,3,rfl,HW2.out,.inr ⟨(fun x=>by have:=HN.out.symm.trans x.2;cases this),rfl,rfl⟩⟩
  ·have c2:=fun W hr'=>wForm_c t bo m cb h W (by omega) hr'
   rw [hfb] at c2
   have C2:=hid c2;have HB:=hid hfb
   clear c2 hfb
   cases s <;> cases t
   all_goals
    go_enter Tryz.func121,Tryz.ntmps121
    go_wp2_with fail
    refine (C1.out _ ((HR.out.alloc _).alloc _)).mono ?_
    rintro e w1 ⟨rfl,hb⟩
    obtain ⟨⟨hz,x0,x1,z0,z1⟩,zf,hw⟩:=boxes2 hb
    have HW:=hid hw
    clear hb hw
    go_wp2_with fail
    refine (C2.out _ (HS.out.below HW.out (Nat.le_refl _))).mono ?_
    rintro e w2 ⟨rfl,hb⟩
    obtain ⟨⟨hz,x0,x1,z0,z1⟩,zf,hw⟩:=keep2 hb ⟨hz,x0,x1,z0,z1⟩ zf HW.out
    have HW2:=hid hw
    clear hb hw
    go_wp2_with fail
   ·refine (Cmp_c ao bo n m ca cb f h _ hn hm (HR.out.below HW2.out (Nat.le_refl _)) (HS.out.below HW2.out (Nat.le_refl _)) HF.out HH.out).mono ?_
    rintro e w3 ⟨⟨q,hq⟩,c,er,rfl,hc⟩
    have HB3:=hid (drewN_below hq);have HC:=hid hc
    clear hq hc
    go_wp2
    go_ret2
    refine ⟨c,er,rfl,HW2.out.trans (HB3.out.mono HW2.out.size),?_⟩
    rcases HC.out with ⟨_,_,h1,h2⟩ | ⟨h1,_⟩
    ·exact .inl ⟨⟨HA.out,HB.out⟩,h1,h2⟩
    ·exact absurd ⟨fm_of_wfB HA.out,fm_of_wfB HB.out⟩ h1
   ·go_ret2
    refine ⟨1,0,rfl,HW2.out,.inl ⟨⟨HA.out,HB.out⟩,rfl,.inr (.inr ⟨rfl,?_⟩)⟩⟩
    have h1:=vf_pos HH.out (fm_of_wfB HB.out) (sgn_of_wfB HB.out rfl)
    have h2:=vf_nonneg HF.out
    rw [wv_true,wv_false];omega
   ·go_ret2
    refine ⟨-1,0,rfl,HW2.out,.inl ⟨⟨HA.out,HB.out⟩,rfl,.inl ⟨rfl,?_⟩⟩⟩
    have h1:=vf_pos HF.out (fm_of_wfB HA.out) (sgn_of_wfB HA.out rfl)
    have h2:=vf_nonneg HH.out
    rw [wv_true,wv_false];omega
   ·refine (Cmp_c bo ao m n cb ca h f _ hm hn (HS.out.below HW2.out (Nat.le_refl _)) (HR.out.below HW2.out (Nat.le_refl _)) HH.out HF.out).mono ?_
    rintro e w3 ⟨⟨q,hq⟩,c,er,rfl,hc⟩
    have HB3:=hid (drewN_below hq);have HC:=hid hc
    clear hq hc
    go_wp2
    go_ret2
    refine ⟨c,er,rfl,HW2.out.trans (HB3.out.mono HW2.out.size),?_⟩
    rcases HC.out with ⟨_,_,h1,h2⟩ | ⟨h1,_⟩
    ·refine .inl ⟨⟨HA.out,HB.out⟩,h1,?_⟩
     unfold Ord at h2 ⊢;rw [wv_true,wv_true];omega
    ·exact absurd ⟨fm_of_wfB HB.out,fm_of_wfB HA.out⟩ h1
theorem wrapU (x:Int):IntKind.u64.wrap x=x % 18446744073709551616:=by simp [IntKind.wrap,IntKind.signed,IntKind.bits]
theorem Turned.mono {lo hi hi':Nat} {a b:World} (h:Turned lo hi a b) (hh:hi ≤ hi'):Turned lo hi' a b:=⟨h.os,h.tape,h.output,h.size,fun k hk hn=>h.block k hk (by omega)⟩
theorem isSome_setCell (w:World) (p q:Addr) (v:Value) (h:(w.cell? q).isSome=true):((w.setCell p v).cell? q).isSome=true:=by
 obtain ⟨u,hu⟩:=Option.isSome_iff_exists.1 h
 obtain ⟨u',hu'⟩:=cell?_setCell_some (p:=p) (x:=v) hu
 rw [hu'];rfl
theorem kCa {w:World} {a:Addr} {v:Value} {o:Obj} (h:w.cell? a=some v):(w.alloc o).cell? a=some v:=(World.cell?_alloc_lt _ _ _ (World.block_lt_of_cell? w a h)).trans h
theorem kCs {w:World} {p a:Addr} {u v:Value} (hb:p.block ≠ a.block) (h:w.cell? a=some u):(w.setCell p v).cell? a=some u:=(World.cell?_setCell_far w p a v hb).trans h
theorem kCd {w:World} {a:Addr} {v:Value} (h:w.cell? a=some v):w.drew.cell? a=some v:=h
theorem kIa {w:World} {a:Addr} {o:Obj} (h:(w.cell? a).isSome=true):((w.alloc o).cell? a).isSome=true:=by rw [World.cell?_alloc_some w a o h];exact h
theorem kIs {w:World} {p a:Addr} {v:Value} (h:(w.cell? a).isSome=true):((w.setCell p v).cell? a).isSome=true:=isSome_setCell w p a v h
theorem kId {w:World} {a:Addr} (h:(w.cell? a).isSome=true):(w.drew.cell? a).isSome=true:=h
theorem kFs {w:World} {p a:Addr} {v:Value} (h:w.frozen? a=false):(w.setCell p v).frozen? a=false:=by rw [World.frozen?_setCell];exact h
theorem kFd {w:World} {a:Addr} (h:w.frozen? a=false):w.drew.frozen? a=false:=h
set_option maxHeartbeats 1000000 in
theorem word2_c (x:Int) (w:World) (x0:0 ≤ x) (x1:x < 18446744073709551616) :
  Calls Tryz.prog 117 #[.int .u64 x] w fun e w'=>∃ k cap,e=.returned (.slice (some ⟨w.heap.size,0,none⟩) k cap) ∧ Below w.heap.size w w' ∧ k ≤ 2 ∧ Rd .u64 w' (some ⟨w.heap.size,0,none⟩) k (two32 x) ∧ Dg (two32 x) k ∧ Fm (two32 x) k ∧ vd (two32 x) k=x:=by
 have hr:=rd_new2 w 79 x
 have HR:=hid hr
 clear hr
 go_enter Tryz.func117,Tryz.ntmps117
 go_wp2_with fail
 refine (low_c (some ⟨w.heap.size,0,none⟩) 2 2 (two32 x) _ (by omega) (by omega) HR.out (fun h=>by cases h)).mono ?_
 rintro e w1 ⟨rfl,k,hk,hz,hfm,rfl⟩
 have hdg:Dg (two32 x) k:=fun j hj=>by
  unfold two32
  split <;> omega
 have hv2:vd (two32 x) 2=x:=by simp [vd,pd,two32];omega
 have hv:vd (two32 x) k=x:=(vd_ext hk hz).symm.trans hv2
 have HD:=hid hdg;have HF:=hid hfm;have HV:=hid hv;have HRk:=hid (HR.out.take hk)
 clear hdg hfm hv hv2 hz
 go_wp2
 go_ret
 exact ⟨k,2,rfl,below_alloc (Below.refl _ _) _,hk,HRk.out,HD.out,HF.out,HV.out⟩
structure ZRes (C:Nat) (w w':World) (s:Bool) (ao:Option Addr) (n:Nat) (d:Nat → Int) (z:Int):Prop where
 bel:Below w.heap.size w w'
 rd:Rd .u64 w' ao n d
 dg:Dg d n
 fm:Fm d n
 le:n ≤ C
 sgn:s=true → 0 < n
 val:(if s then - vd d n else vd d n)=z
 nil:ao=none → n=0
def ZOne (C:Nat) (w w':World) (e:Ending) (z:Int):Prop:=∃ s ao n cap d,e=.returned (.agg #[.bool s,.slice ao n cap]) ∧ ZRes C w w' s ao n d z
theorem Rd.turned {k w w' ao n f} {lo hi:Nat} (h:Rd k w ao n f) (ht:Turned lo hi w w') (hu:∀ a,ao=some a → a.block < lo ∨ hi ≤ a.block):Rd k w' ao n f:=fun j hj=>by
 obtain ⟨b,o,e,hc⟩:=h j hj
 exact ⟨b,o,e,(World.cell?_of_block (ht.block b (World.block_lt_of_cell? w _ hc) (hu _ e))).trans hc⟩
theorem boxes1 {w w1:World} {c0 c1:Value} {t:TypeId} (hb:Below (w.alloc (.cells #[c0,c1] t)).heap.size (w.alloc (.cells #[c0,c1] t)) w1) :
  (w.heap.size < w1.heap.size ∧ w1.cell? ⟨w.heap.size,0,none⟩=some c0 ∧ w1.cell? ⟨w.heap.size,1,none⟩=some c1) ∧ (∀ o,w1.frozen? ⟨w.heap.size,o,none⟩=false) ∧ Below w.heap.size w w1:=by
 obtain ⟨h1,h2⟩:=bcell hb
 have hz:=hb.size
 simp at hz
 refine ⟨⟨by omega,(h1 _ _ (by simp)).trans (by simp [go_sem]),(h1 _ _ (by simp)).trans (by simp [go_sem])⟩,fun o=>(h2 _ _ (by simp)).trans (by
  have e:=heap_alloc_new w (.cells #[c0,c1] t)
  simp only [World.frozen?,e];simp),?_⟩
 exact (below_alloc (Below.refl w.heap.size w) _).trans (hb.mono (by simp))
set_option maxHeartbeats 1000000 in
theorem zInt_c (z:Int) (w:World) (h0:-9223372036854775808 ≤ z) (h1:z ≤ 9223372036854775807) :
  Calls Tryz.prog 116 #[.int .i64 z] w fun e w'=>ZOne 2 w w' e z:=by
 by_cases hneg:z < 0
 ·have hW:IntKind.u64.wrap (-(z + 1))=-(z + 1):=by simp only [wrapU];omega
  go_enter Tryz.func116,Tryz.ntmps116
  go_wp2_with fail
  rw [show -(z + 1) + 1=-z by omega]
  refine (word2_c (-z) _ (by omega) (by omega)).mono ?_
  rintro e w1 ⟨k,cap,rfl,hb,hk,hr,hd,hf,hv⟩
  obtain ⟨⟨hz,z0,z1⟩,zf,hw⟩:=boxes1 hb
  have HW:=hid hw;have HR:=hid hr;have HD:=hid hd;have HF:=hid hf;have HV:=hid hv
  have hk0:Hid (0 < k):=by
   show 0 < k
   apply Nat.pos_of_ne_zero;intro hk0;subst hk0;simp [vd] at hv;omega
  clear hb hw hr hd hf hv
  go_wp2
  refine bodyPost_ret (v:=.agg #[.bool true,.slice (some ⟨(w.alloc (.cells #[.bool false,.slice none 0 0] 66)).heap.size,0,none⟩) k cap]) (by simp [results,Tryz.results116,go_sem,z0,z1]) rfl ⟨true,_,k,cap,two32 (-z),rfl,?_⟩
  have hT:=((Turned.refl w.heap.size (w.heap.size + 1) w1).set (x:=⟨w.heap.size,0,none⟩) (by first | omega | (simp;done) | (simp;omega)) (by first | omega | (simp;done) | (simp;omega)) (.bool true)).set (x:=⟨w.heap.size,1,none⟩) (by first | omega | (simp;done) | (simp;omega)) (by first | omega | (simp;done) | (simp;omega)) (.slice (some ⟨w.heap.size + 1,0,none⟩) k cap)
  refine ⟨below_turned HW.out HW.out.size (by simpa using hT) (Nat.le_refl _),HR.out.turned (by simpa using hT) (fun a ha=>by cases ha;simp),HD.out,HF.out,hk,fun _=>hk0.out,?_,fun h=>by cases h⟩
  rw [if_pos rfl,HV.out];omega
 ·go_enter Tryz.func116,Tryz.ntmps116
  go_wp2_with fail
  refine (word2_c z _ (by omega) (by omega)).mono ?_
  rintro e w1 ⟨k,cap,rfl,hb,hk,hr,hd,hf,hv⟩
  obtain ⟨⟨hz,z0,z1⟩,zf,hw⟩:=boxes1 hb
  have HW:=hid hw;have HR:=hid hr;have HD:=hid hd;have HF:=hid hf;have HV:=hid hv
  clear hb hw hr hd hf hv
  go_wp2
  refine bodyPost_ret (v:=.agg #[.bool false,.slice (some ⟨(w.alloc (.cells #[.bool false,.slice none 0 0] 66)).heap.size,0,none⟩) k cap]) (by simp [results,Tryz.results116,go_sem,z0,z1]) rfl ⟨false,_,k,cap,two32 z,rfl,?_⟩
  have hT:=((Turned.refl w.heap.size (w.heap.size + 1) w1).set (x:=⟨w.heap.size,0,none⟩) (by first | omega | (simp;done) | (simp;omega)) (by first | omega | (simp;done) | (simp;omega)) (.bool false)).set (x:=⟨w.heap.size,1,none⟩) (by first | omega | (simp;done) | (simp;omega)) (by first | omega | (simp;done) | (simp;omega)) (.slice (some ⟨w.heap.size + 1,0,none⟩) k cap)
  refine ⟨below_turned HW.out HW.out.size (by simpa using hT) (Nat.le_refl _),HR.out.turned (by simpa using hT) (fun a ha=>by cases ha;simp),HD.out,HF.out,hk,(fun h=>by cases h),?_,(fun h=>by cases h)⟩
  exact HV.out
theorem kI0 {w:World} {a:Addr} {v:Value} (h:w.cell? a=some v):(w.cell? a).isSome=true:=by rw [h];rfl
def dn (b:Nat → Nat):Nat → Nat | 0=>0 | n + 1=>dn b n * 10 + (b n - 48)
def PB (w:World) (g cap k:Nat) (D:Nat → Int):Prop:=∃ arr:Array Value,w.heap[g]?=some (.cells arr 79 (0,0)) ∧ arr.size=cap ∧ ∀ j,j < k → arr[j]?=some (.int .u64 (D j))
theorem PB.cell {w g cap k D} (h:PB w g cap k D) {j:Nat} (hj:j < k):w.cell? ⟨g,j,none⟩=some (.int .u64 (D j)):=by
 obtain ⟨arr,h1,h2,h3⟩:=h
 simp [World.cell?,h1,h3 j hj]
theorem PB.frozen {w g cap k D} (h:PB w g cap k D) (j:Nat):w.frozen? ⟨g,j,none⟩=false:=by
 obtain ⟨arr,h1,h2,h3⟩:=h
 simp [World.frozen?,h1]
theorem PB.lt {w g cap k D} (h:PB w g cap k D):g < w.heap.size:=by
 obtain ⟨arr,h1,h2,h3⟩:=h
 exact (Array.getElem?_eq_some_iff.1 h1).1
theorem PB.set {w g cap k D} (h:PB w g cap k D) (i:Nat) (v:Int):PB (w.setCell ⟨g,i,none⟩ (.int .u64 v)) g cap k (upd D i v):=by
 obtain ⟨arr,h1,h2,h3⟩:=h
 refine ⟨arr.setIfInBounds i (.int .u64 v),?_,by simpa using h2,fun j hj=>?_⟩
 ·simp [World.setCell,Array.getElem?_modify,h1]
 ·have hlt:j < arr.size:=(Array.getElem?_eq_some_iff.1 (h3 j hj)).1
  by_cases hji:j=i
  ·subst hji;simp [upd,hlt]
  ·rw [Array.getElem?_setIfInBounds,if_neg (by omega),h3 j hj];simp [upd,hji]
theorem Own.pb {w base v k D} (h:Own .u64 79 w base v k D):(v=.slice none 0 0 ∧ k=0) ∨ ∃ g cap,v=.slice (some ⟨g,0,none⟩) k cap ∧ base ≤ g ∧ k ≤ cap ∧ cap ≤ maxLen ∧ PB w g cap k D:=by
 obtain ⟨h1,h2⟩:=h
 rcases h2 with ⟨rfl,rfl⟩ | ⟨g,cap,cur,rfl,hb,hg,hn,hm,hs,ht⟩
 ·exact .inl ⟨rfl,rfl⟩
 ·refine .inr ⟨g,cap,rfl,hb,hn,hm,cur,hg,by omega,fun j hj=>?_⟩
  have e1:(lst .u64 D k)[j]?=cur.toList[j]?:=by
   rw [← ht,List.getElem?_take,if_pos (by omega)]
  rw [lst_get .u64 D k j hj] at e1
  simpa using e1.symm
theorem PB.own {w g cap k D} (h:PB w g cap k D) {base:Nat} (hb:base ≤ g) (hk:k ≤ cap) (hm:cap ≤ maxLen):Own .u64 79 w base (.slice (some ⟨g,0,none⟩) k cap) k D:=by
 obtain ⟨arr,h1,h2,h3⟩:=h
 refine ⟨by rw [lst_length];omega,.inr ⟨g,cap,arr,rfl,hb,h1,hk,hm,by omega,?_⟩⟩
 apply List.ext_getElem?
 intro j
 by_cases hj:j < k
 ·rw [List.getElem?_take,if_pos (by omega),lst_get _ _ _ _ hj];simpa using h3 j hj
 ·rw [List.getElem?_eq_none (by simp;omega),List.getElem?_eq_none (by rw [lst_length];omega)]
theorem Tg.kept {w w':World} {ao:Option Addr} (h:Tg w ao) (hb:Below w.heap.size w w'):Tg w' ao:=fun a ha=>by
 obtain ⟨arr,fr,he⟩:=h a ha
 exact ⟨arr,fr,(hb.block _ (Array.getElem?_eq_some_iff.1 he).1).trans he⟩
theorem Own.tg {w base ao n cap f} (h:Own .u64 79 w base (.slice ao n cap) n f):Tg w ao:=fun a ha=>by
 obtain ⟨h1,h2⟩:=h
 rcases h2 with ⟨hv,_⟩ | ⟨g,cap',cur,hv,hb,hg,hn,hm,hs,ht⟩
 ·cases hv;cases ha
 ·cases hv;cases ha;exact ⟨_,_,hg⟩
theorem kN0 {w:World} {x y:Value} {t:TypeId}:(w.alloc (.cells #[x,y] t)).cell? ⟨w.heap.size,0,none⟩=some x:=by simp [go_sem]
theorem kN1 {w:World} {x y:Value} {t:TypeId}:(w.alloc (.cells #[x,y] t)).cell? ⟨w.heap.size,1,none⟩=some y:=by simp [go_sem]
theorem kCb {w w':World} {a:Addr} {v:Value} (hb:Below w.heap.size w w') (h:w.cell? a=some v):w'.cell? a=some v:=(hb.cell (World.block_lt_of_cell? w a h)).trans h
theorem kBa {w0 w:World} {o:Obj} (h:Below w0.heap.size w0 w):Below w0.heap.size w0 (w.alloc o):=below_alloc h o
theorem kBb {w0 w w':World} (hb:Below w.heap.size w w') (h:Below w0.heap.size w0 w):Below w0.heap.size w0 w':=h.trans (hb.mono h.size)
def Bx (w:World) (b:Nat) (s:Bool) (x:Option Addr) (n c:Nat):Prop:=b < w.heap.size ∧ w.cell? ⟨b,0,none⟩=some (.bool s) ∧ w.cell? ⟨b,1,none⟩=some (.slice x n c)
theorem Bx.below {w w':World} {b:Nat} {s x n c} (h:Bx w b s x n c) (hb:Below w.heap.size w w'):Bx w' b s x n c:=⟨Nat.lt_of_lt_of_le h.1 hb.size,kCb hb h.2.1,kCb hb h.2.2⟩
theorem Bx.alloc {w:World} {b:Nat} {s x n c} (h:Bx w b s x n c) (o:Obj):Bx (w.alloc o) b s x n c:=⟨by have:=h.1;simp;omega,kCa h.2.1,kCa h.2.2⟩
theorem Bx.next {w w':World} {b:Nat} {s x n c} {o:Obj} (h:Bx w b s x n c) (hb:Below (w.alloc o).heap.size (w.alloc o) w'):Bx w' b s x n c:=(h.alloc o).below hb
structure Wn (w:World) (s:Bool) (x:Option Addr) (n c:Nat) (f:Nat → Int) (v:Int):Prop where
 rd:Rd .u64 w x n f
 lm:Lm f n
 wf:wfB s f n=true
 cap:n ≤ c ∧ c ≤ 9223372036854775807
 nil:x=none → n=0 ∧ c=0
 val:wv s f n=v
theorem Wn.below {w w':World} {s x n c f v} (h:Wn w s x n c f v) (hb:Below w.heap.size w w'):Wn w' s x n c f v:=⟨h.rd.below hb (Nat.le_refl _),h.lm,h.wf,h.cap,h.nil,h.val⟩
theorem Wn.alloc {w:World} {s x n c f v} (h:Wn w s x n c f v) (o:Obj):Wn (w.alloc o) s x n c f v:=⟨h.rd.alloc o,h.lm,h.wf,h.cap,h.nil,h.val⟩
theorem Wn.next {w w':World} {s x n c f v} {o:Obj} (h:Wn w s x n c f v) (hb:Below (w.alloc o).heap.size (w.alloc o) w'):Wn w' s x n c f v:=(h.alloc o).below hb
theorem WRes.wn {C w w' s x n c f v} (h:WRes C w w' s x n c f) (hv:wv s f n=v):Wn w' s x n c f v:=⟨h.res.rd,h.res.lm,h.wfB,h.res.ncap,h.res.nil',hv⟩
theorem WAns.ok {P:Prop} {v:Int} {r k f er} (h:WAns P v r k f er) (hp:P):er=0 ∧ wv r f k=v:=by
 rcases h with ⟨_,h1,h2⟩ | ⟨h1,_⟩
 ·exact ⟨h1,h2⟩
 ·exact absurd hp h1
def sg (s:Bool) (A:Nat):Int:=if s then -(A:Int) else A
theorem sg_natAbs (s:Bool) (A:Nat):(sg s A).natAbs=A:=by cases s <;> simp [sg]
def stU (odd:Bool) (a0 b0 A B:Int):Int:=if odd then b0 * B - a0 * A else a0 * A - b0 * B
def stV (odd:Bool) (a1 b1 A B:Int):Int:=if odd then a1 * A - b1 * B else b1 * B - a1 * A
def Cd (u v A B:Int):Prop:=∀ d:Int,(d ∣ u ∧ d ∣ v) ↔ (d ∣ A ∧ d ∣ B)
theorem Cd.refl (A B:Int):Cd A B A B:=fun _=>Iff.rfl
theorem Cd.step {u v A B:Int} (h:Cd u v A B) (q:Int):Cd v (u - q * v) A B:=fun d=>by
 rw [← h d]
 constructor
 ·rintro ⟨h1,h2⟩
  refine ⟨?_,h1⟩
  have:=Int.dvd_add h2 (Int.dvd_mul_of_dvd_right (b:=q) h1)
  rwa [Int.sub_add_cancel] at this
 ·rintro ⟨h1,h2⟩
  exact ⟨h2,Int.dvd_sub h1 (Int.dvd_mul_of_dvd_right (b:=q) h2)⟩
theorem Cd.trans {u v A B C D:Int} (h:Cd u v A B) (k:Cd A B C D):Cd u v C D:=fun d=>(h d).trans (k d)
theorem Cd.swap {u v A B:Int} (h:Cd u v A B):Cd v u A B:=fun d=>by rw [← h d];exact And.comm
def Led (odd:Bool) (a0 b0 a1 b1 x y:Int):Prop:=∀ T ra rb:Int,0 ≤ ra → ra < T → 0 ≤ rb → rb < T →
 0 ≤ stV odd a1 b1 (x * T + ra) (y * T + rb) ∧ stV odd a1 b1 (x * T + ra) (y * T + rb) < stU odd a0 b0 (x * T + ra) (y * T + rb) ∧ stU odd a0 b0 (x * T + ra) (y * T + rb) ≤ y * T + rb ∧ Cd (stU odd a0 b0 (x * T + ra) (y * T + rb)) (stV odd a1 b1 (x * T + ra) (y * T + rb)) (x * T + ra) (y * T + rb)
structure Lh (odd:Bool) (a b a0 b0 a1 b1 x y:Int):Prop where
 a_0:0 ≤ a
 b_0:0 ≤ b
 ua:a=stU odd a0 b0 x y
 ub:b=stV odd a1 b1 x y
 top:x=b1 * a + b0 * b
 p0:0 ≤ a0
 p1:0 ≤ b0
 p2:0 ≤ a1
 p3:1 ≤ b1
 st:(odd=false ∧ a0=1 ∧ b0=0 ∧ a1=0 ∧ b1=1) ∨ (a0 ≤ b0 ∧ a1 ≤ b1 ∧ 1 ≤ b0 ∧ b1 ≤ b ∧ b < a ∧ Led odd a0 b0 a1 b1 x y)
theorem lh_start {x y:Int} (hx:0 ≤ x) (hy:0 ≤ y):Lh false x y 1 0 0 1 x y :=
 ⟨hx,hy,by simp [stU],by simp [stV],by omega,by omega,by omega,by omega,by omega,.inl ⟨rfl,rfl,rfl,rfl,rfl⟩⟩
theorem stU_next {odd:Bool} {a1 b1 A B:Int}:stU (!odd) a1 b1 A B=stV odd a1 b1 A B:=by cases odd <;> simp [stU,stV]
theorem stV_next {odd:Bool} {a0 b0 a1 b1 q A B:Int}:stV (!odd) (a0 + q * a1) (b0 + q * b1) A B=stU odd a0 b0 A B - q * stV odd a1 b1 A B:=by
 cases odd <;> simp only [stU,stV,Bool.not_false,Bool.not_true,if_true,if_false,Bool.false_eq_true] <;> grind
theorem stV_low {odd:Bool} {a1 b1 x y T ra rb:Int} (h0:0 ≤ a1) (h1:a1 ≤ b1) (r0:0 ≤ ra) (r1:ra < T) (s0:0 ≤ rb) (s1:rb < T) :
  stV odd a1 b1 x y * T - b1 * (T - 1) ≤ stV odd a1 b1 (x * T + ra) (y * T + rb) ∧ stV odd a1 b1 (x * T + ra) (y * T + rb) ≤ stV odd a1 b1 x y * T + b1 * (T - 1):=by
 have m1:0 ≤ a1 * ra:=Int.mul_nonneg h0 r0
 have m2:0 ≤ b1 * rb:=Int.mul_nonneg (by omega) s0
 have m3:a1 * ra ≤ b1 * ra:=Int.mul_le_mul_of_nonneg_right h1 r0
 have m4:b1 * ra ≤ b1 * (T - 1):=Int.mul_le_mul_of_nonneg_left (by omega) (by omega)
 have m5:b1 * rb ≤ b1 * (T - 1):=Int.mul_le_mul_of_nonneg_left (by omega) (by omega)
 cases odd
 ·have e:stV false a1 b1 (x * T + ra) (y * T + rb)=stV false a1 b1 x y * T + b1 * rb - a1 * ra:=by simp only [stV,Bool.false_eq_true,if_false];grind
  rw [e];omega
 ·have e:stV true a1 b1 (x * T + ra) (y * T + rb)=stV true a1 b1 x y * T + a1 * ra - b1 * rb:=by simp only [stV,if_true];grind
  rw [e];omega
theorem lh_step {odd:Bool} {a b a0 b0 a1 b1 x y:Int} (h:Lh odd a b a0 b0 a1 b1 x y) (hxy:y ≤ x) (hb:0 < b) (c1:b0 + a / b * b1 ≤ a - a / b * b) (c2:b1 + (b0 + a / b * b1) ≤ b - (a - a / b * b)) :
  Lh (!odd) b (a - a / b * b) a1 b1 (a0 + a / b * a1) (b0 + a / b * b1) x y:=by
 obtain ⟨q,hq⟩:∃ q,a / b=q:=⟨_,rfl⟩
 rw [hq] at c1 c2 ⊢
 have hq0:0 ≤ q:=by rw [← hq];exact Int.ediv_nonneg h.a_0 h.b_0
 have hr0:0 ≤ a - q * b:=by
  have:=Int.emod_nonneg a (show b ≠ 0 by omega);have e:=Int.mul_ediv_add_emod a b
  rw [hq,Int.mul_comm] at e;omega
 have hb1:0 ≤ q * b1:=Int.mul_nonneg hq0 (by have:=h.p3;omega)
 have ha1:0 ≤ q * a1:=Int.mul_nonneg hq0 h.p2
 have p0:=h.p0;have p1:=h.p1;have p2:=h.p2;have p3:=h.p3
 have hua:=h.ua;have hub:=h.ub;have htop:=h.top
 -- the quotient is not 0 at the first step
 have hmono:a0 + q * a1 ≤ b0 + q * b1 ∧ a1 ≤ b1:=by
  rcases h.st with ⟨rfl,rfl,rfl,rfl,rfl⟩ | ⟨s1,s2,_,_,_,_⟩
  ·have ea:a=x:=by rw [hua];simp [stU]
   have eb:b=y:=by rw [hub];simp [stV]
   have:1 ≤ q:=by rw [← hq];exact (Int.le_ediv_iff_mul_le hb).2 (by omega)
   omega
  ·have:q * a1 ≤ q * b1:=Int.mul_le_mul_of_nonneg_left s2 hq0
   omega
 have hb1':1 ≤ b0 + q * b1:=by
  rcases h.st with ⟨rfl,rfl,rfl,rfl,rfl⟩ | ⟨s1,s2,s3,_,_,_⟩
  ·omega
  ·omega
 refine ⟨h.b_0,hr0,?_,?_,?_,p2,by omega,by omega,hb1',.inr ⟨hmono.2,hmono.1,p3,c1,by omega,?_⟩⟩
 ·rw [stU_next];exact hub
 ·rw [stV_next,← hua,← hub]
 ·rw [htop];grind
 ·intro T ra rb r0 r1 s0 s1
  have hV:stV (!odd) (a0 + q * a1) (b0 + q * b1) x y=a - q * b:=by rw [stV_next,← hua,← hub]
  have lo:=stV_low (odd:=!odd) (x:=x) (y:=y) (by omega) hmono.1 r0 r1 s0 s1
  have lo2:=stV_low (odd:=odd) (x:=x) (y:=y) p2 hmono.2 r0 r1 s0 s1
  rw [hV] at lo
  rw [← hub] at lo2
  have hT:1 ≤ T:=by omega
  have k1:(b0 + q * b1) * T ≤ (a - q * b) * T:=Int.mul_le_mul_of_nonneg_right c1 (by omega)
  have k2:(b1 + (b0 + q * b1)) * T ≤ (b - (a - q * b)) * T:=Int.mul_le_mul_of_nonneg_right c2 (by omega)
  have x1:(b0 + q * b1) * (T - 1)=(b0 + q * b1) * T - (b0 + q * b1):=by rw [Int.mul_sub,Int.mul_one]
  have x2:b1 * (T - 1)=b1 * T - b1:=by rw [Int.mul_sub,Int.mul_one]
  have x3:(b1 + (b0 + q * b1)) * T=b1 * T + (b0 + q * b1) * T:=by rw [Int.add_mul]
  have x4:(b - (a - q * b)) * T=b * T - (a - q * b) * T:=by rw [Int.sub_mul]
  rw [stU_next]
  refine ⟨by omega,by omega,?_,?_⟩
  ·rcases h.st with ⟨rfl,rfl,rfl,rfl,rfl⟩ | ⟨_,_,_,_,_,hl⟩
   ·simp [stV]
   ·obtain ⟨_,l2,l3,_⟩:=hl T ra rb r0 r1 s0 s1
    omega
  ·rw [stV_next]
   refine Cd.step ?_ q
   rcases h.st with ⟨rfl,rfl,rfl,rfl,rfl⟩ | ⟨_,_,_,_,_,hl⟩
   ·simp only [stU,stV,Bool.false_eq_true,if_false]
    have e1:1 * (x * T + ra) - 0 * (y * T + rb)=x * T + ra:=by omega
    have e2:1 * (y * T + rb) - 0 * (x * T + ra)=y * T + rb:=by omega
    rw [e1,e2];exact Cd.refl _ _
   ·exact (hl T ra rb r0 r1 s0 s1).2.2.2
theorem lh_room {odd:Bool} {a b a0 b0 a1 b1 x y:Int} (h:Lh odd a b a0 b0 a1 b1 x y) (hxy:y ≤ x) (hb:0 < b):b0 + a / b * b1 ≤ x ∧ a0 + a / b * a1 ≤ x ∧ 0 ≤ a / b * a1 ∧ 0 ≤ a / b * b1 ∧ (0 < a - a / b * b → b1 + (b0 + a / b * b1) ≤ x) ∧ 1 ≤ b0 + a / b * b1:=by
 obtain ⟨q,hq⟩:∃ q,a / b=q:=⟨_,rfl⟩
 rw [hq]
 have hq0:0 ≤ q:=by rw [← hq];exact Int.ediv_nonneg h.a_0 h.b_0
 have hr0:0 ≤ a - q * b:=by
  have:=Int.emod_nonneg a (show b ≠ 0 by omega);have e:=Int.mul_ediv_add_emod a b
  rw [hq,Int.mul_comm] at e;omega
 have p0:=h.p0;have p1:=h.p1;have p2:=h.p2;have p3:=h.p3
 have hb1:0 ≤ q * b1:=Int.mul_nonneg hq0 (by omega)
 have ha1:0 ≤ q * a1:=Int.mul_nonneg hq0 h.p2
 have e:x=(b0 + q * b1) * b + b1 * (a - q * b):=by rw [h.top];grind
 have f1:(b0 + q * b1) * 1 ≤ (b0 + q * b1) * b:=Int.mul_le_mul_of_nonneg_left (by omega) (by omega)
 have f2:0 ≤ b1 * (a - q * b):=Int.mul_nonneg (by omega) hr0
 refine ⟨by omega,?_,ha1,hb1,fun hp=>?_,?_⟩
 ·rcases h.st with ⟨rfl,rfl,rfl,rfl,rfl⟩ | ⟨s1,s2,_,_,_,_⟩
  ·have eb:b=y:=by rw [h.ub];simp [stV]
   omega
  ·have:q * a1 ≤ q * b1:=Int.mul_le_mul_of_nonneg_left s2 hq0
   omega
 ·have f3:b1 * 1 ≤ b1 * (a - q * b):=Int.mul_le_mul_of_nonneg_left (by omega) (by omega)
  omega
 ·rcases h.st with ⟨rfl,rfl,rfl,rfl,rfl⟩ | ⟨s1,s2,s3,_,_,_⟩
  ·have ea:a=x:=by rw [h.ua];simp [stU]
   have eb:b=y:=by rw [h.ub];simp [stV]
   have:1 ≤ q:=by rw [← hq];exact (Int.le_ediv_iff_mul_le hb).2 (by omega)
   omega
  ·omega
theorem lh_some {odd:Bool} {a b a0 b0 a1 b1 x y:Int} (h:Lh odd a b a0 b0 a1 b1 x y) (hb0:b0 ≠ 0):Led odd a0 b0 a1 b1 x y ∧ a0 + 2 ≤ x ∧ b0 + 2 ≤ x ∧ a1 + 2 ≤ x ∧ b1 + 2 ≤ x:=by
 rcases h.st with ⟨_,_,h0,_⟩ | ⟨s1,s2,s3,s4,s5,hl⟩
 ·exact absurd h0 hb0
 ·have p3:=h.p3;have p1:=h.p1
  have e:=h.top
  have m1:b1 * 2 ≤ b1 * a:=Int.mul_le_mul_of_nonneg_left (by omega) (by omega)
  have m2:b0 * 1 ≤ b0 * b:=Int.mul_le_mul_of_nonneg_left (by omega) (by omega)
  exact ⟨hl,by omega,by omega,by omega,by omega⟩
theorem lh_none {odd:Bool} {a b a0 b0 a1 b1 x y:Int} (h:Lh odd a b a0 b0 a1 b1 x y):0 ≤ a0 ∧ 0 ≤ b0 ∧ 0 ≤ a1 ∧ 0 ≤ b1:=⟨h.p0,h.p1,h.p2,by have:=h.p3;omega⟩
def SB (w:World) (g:Nat) (a0 b0 a1 b1:Int) (odd:Bool):Prop:=w.heap[g]?=some (.cells #[.int .u64 a0,.int .u64 b0,.int .u64 a1,.int .u64 b1,.bool odd] 184 (0,0))
theorem SB.cells {w g a0 b0 a1 b1 odd} (h:SB w g a0 b0 a1 b1 odd):w.cell? ⟨g,0,none⟩=some (.int .u64 a0) ∧ w.cell? ⟨g,1,none⟩=some (.int .u64 b0) ∧ w.cell? ⟨g,2,none⟩=some (.int .u64 a1) ∧ w.cell? ⟨g,3,none⟩=some (.int .u64 b1) ∧ w.cell? ⟨g,4,none⟩=some (.bool odd):=by
 unfold SB at h
 simp [World.cell?,h]
theorem SB.frozen {w g a0 b0 a1 b1 odd} (h:SB w g a0 b0 a1 b1 odd) (j:Nat):w.frozen? ⟨g,j,none⟩=false:=by
 unfold SB at h
 simp [World.frozen?,h]
theorem SB.lt {w g a0 b0 a1 b1 odd} (h:SB w g a0 b0 a1 b1 odd):g < w.heap.size:=(Array.getElem?_eq_some_iff.1 h).1
theorem SB.below {w w' g a0 b0 a1 b1 odd} (h:SB w g a0 b0 a1 b1 odd) (hb:Below w.heap.size w w'):SB w' g a0 b0 a1 b1 odd:=(hb.block g h.lt).trans h
theorem SB.set5 {w g a0 b0 a1 b1 odd} (h:SB w g a0 b0 a1 b1 odd) (c0 d0 c1 d1:Int) (o:Bool):SB (((((w.setCell ⟨g,0,none⟩ (.int .u64 c0)).setCell ⟨g,1,none⟩ (.int .u64 d0)).setCell ⟨g,2,none⟩ (.int .u64 c1)).setCell ⟨g,3,none⟩ (.int .u64 d1)).setCell ⟨g,4,none⟩ (.bool o)) g c0 d0 c1 d1 o:=by
 unfold SB at h ⊢
 simp [World.setCell,Array.getElem?_modify,h]
theorem only_set5 (w:World) (g:Nat) (u0 u1 u2 u3 u4:Value):Only g w (((((w.setCell ⟨g,0,none⟩ u0).setCell ⟨g,1,none⟩ u1).setCell ⟨g,2,none⟩ u2).setCell ⟨g,3,none⟩ u3).setCell ⟨g,4,none⟩ u4) :=
 (((((Only.refl _ _).setCell _ _ _).setCell _ _ _).setCell _ _ _).setCell _ _ _).setCell _ _ _
def FsAns (w w':World) (e:Ending) (x y:Int):Prop:=Below w.heap.size w w' ∧ ∃ a0 b0 a1 b1 odd a b,e=.returned (.agg #[.int .u64 a0,.int .u64 b0,.int .u64 a1,.int .u64 b1,.bool odd]) ∧ Lh odd a b a0 b0 a1 b1 x y ∧ b0 ≤ x ∧ a0 ≤ x ∧ a1 ≤ x ∧ b1 ≤ x
set_option maxRecDepth 100000 in
set_option maxHeartbeats 4000000 in
theorem findSteps_c (x y:Int) (w:World) (y0:0 ≤ y) (hyx:y ≤ x) (x0:1 ≤ x) (x1:x < 18446744073709551616) :
  Calls Tryz.prog 158 #[.int .u64 x,.int .u64 y] w fun e w'=>FsAns w w' e x y:=by
 go_enter Tryz.func158,Tryz.ntmps158
 go_wp2
 go_loopw [0,1] (fun c d wr=>∃ (a b a0 b0 a1 b1:Int) (odd:Bool),c=.int .u64 a ∧ d=.int .u64 b ∧ 0 ≤ a ∧ a ≤ x ∧ 0 ≤ b ∧ b ≤ x ∧ Below w.heap.size w wr ∧ Hid (SB wr w.heap.size 0 0 0 0 false) ∧ Hid (SB wr (w.heap.size + 1) a0 b0 a1 b1 odd) ∧ Hid (Lh odd a b a0 b0 a1 b1 x y) ∧ Hid (b0 ≤ x ∧ a0 ≤ x ∧ a1 ≤ x ∧ b1 ≤ x)) (fun _ d _=>(intOf d).toNat)
 case atStart =>
  refine ⟨x,y,1,0,0,1,false,rfl,rfl,by omega,by omega,by omega,by omega,((Below.refl _ _).alloc (Nat.le_refl _) _).alloc (by simp) _,?_,?_,lh_start (by omega) y0,?_⟩
  ·exact Below.heap_alloc _ _ _ (by simp) |>.trans (heap_alloc_new w _)
  ·show _=_
   have:=heap_alloc_new (w.alloc (.cells #[.int .u64 0,.int .u64 0,.int .u64 0,.int .u64 0,.bool false] 184)) (.cells #[.int .u64 1,.int .u64 0,.int .u64 0,.int .u64 1,.bool false] 184)
   simpa using this
  ·show _ ∧ _ ∧ _ ∧ _
   omega
 case round =>
  obtain ⟨a,b,a0,b0,a1,b1,odd,rfl,rfl,ha0,hax,hb0,hbx,hbel,HG,HS,HL,HX⟩:=hrel
  obtain ⟨s0,s1,s2,s3,s4⟩:=HS.out.cells
  obtain ⟨r0,r1,r2,r3,r4⟩:=HG.out.cells
  have fz:=HS.out.frozen
  have fr:=HG.out.frozen
  have alS:∀ o,SB (wr.alloc o) (w.heap.size + 1) a0 b0 a1 b1 odd:=fun o=>HS.out.below ((Below.refl _ _).alloc (Nat.le_refl _) o)
  have alG:∀ o,SB (wr.alloc o) w.heap.size 0 0 0 0 false:=fun o=>HG.out.below ((Below.refl _ _).alloc (Nat.le_refl _) o)
  have sa0:=fun o=>(alS o).cells.1
  have sa1:=fun o=>(alS o).cells.2.1
  have sa2:=fun o=>(alS o).cells.2.2.1
  have sa3:=fun o=>(alS o).cells.2.2.2.1
  have sa4:=fun o=>(alS o).cells.2.2.2.2
  have ga0:=fun o=>(alG o).cells.1
  have ga1:=fun o=>(alG o).cells.2.1
  have ga2:=fun o=>(alG o).cells.2.2.1
  have ga3:=fun o=>(alG o).cells.2.2.2.1
  have ga4:=fun o=>(alG o).cells.2.2.2.2
  have fza:=fun o=>(alS o).frozen
  have fra:=fun o=>(alG o).frozen
  have ltS:=HS.out.lt
  clear alS alG
  by_cases hbz:b=0
  ·subst hbz
   go_wp2
   obtain ⟨t0,t1,t2,t3,t4⟩:=(HG.out.set5 a0 b0 a1 b1 odd).cells
   refine bodyPost_ret (v:=.agg #[.int .u64 a0,.int .u64 b0,.int .u64 a1,.int .u64 b1,.bool odd]) (by simp [results,Tryz.results158,go_sem,t0,t1,t2,t3,t4]) rfl ⟨?_,a0,b0,a1,b1,odd,_,_,rfl,HL.out,HX.out⟩
   exact below_only hbel (only_set5 _ _ _ _ _ _ _) (Nat.le_refl _) hbel.size
  ·have hbp:0 < b:=by omega
   have hbb:(b != 0)=true:=by simp [hbz]
   obtain ⟨m1,m2,m3,m4,m5,m6⟩:=lh_room HL.out hyx hbp
   have cstep:=lh_step HL.out hyx hbp
   obtain ⟨q,hq⟩:∃ q,a / b=q:=⟨_,rfl⟩
   have hq0:0 ≤ q:=by rw [← hq];exact Int.ediv_nonneg ha0 hb0
   have hpr:0 ≤ a - q * b ∧ a - q * b < b ∧ 0 ≤ q * b:=by
    have e1:=Int.emod_nonneg a hbz;have e2:=Int.emod_lt_of_pos a hbp;have e:=Int.mul_ediv_add_emod a b
    rw [hq,Int.mul_comm] at e
    exact ⟨by omega,by omega,Int.mul_nonneg hq0 hb0⟩
   rw [hq] at m1 m2 m3 m4 m5 m6 cstep
   obtain ⟨p,hp⟩:∃ p,q * b=p:=⟨_,rfl⟩
   obtain ⟨qa,hqa⟩:∃ p,q * a1=p:=⟨_,rfl⟩
   obtain ⟨qb,hqb⟩:∃ p,q * b1=p:=⟨_,rfl⟩
   rw [hp] at hpr m5 cstep
   rw [hqa] at m2 m3 cstep
   rw [hqb] at m1 m4 m5 m6 cstep
   obtain ⟨p1,p2,p3⟩:=hpr
   obtain ⟨l0,l1,l2,l3⟩:=(⟨HL.out.p0,HL.out.p1,HL.out.p2,HL.out.p3⟩:0 ≤ a0 ∧ 0 ≤ b0 ∧ 0 ≤ a1 ∧ 1 ≤ b1)
   obtain ⟨z1,z2,z3,z4⟩:=HX.out
   have CS:=hid cstep
   have M5:=hid m5
   clear cstep m5
   by_cases c1:a - p < b0 + qb
   ·have c1b:decide (a - p < b0 + qb)=true:=by simp [c1]
    go_wp2
    obtain ⟨t0,t1,t2,t3,t4⟩:=((HG.out.below ((Below.refl _ _).alloc (Nat.le_refl _) (.cells #[.int .u64 a1,.int .u64 b1,.int .u64 (a0 + qa),.int .u64 (b0 + qb),.bool !odd] 184))).set5 a0 b0 a1 b1 odd).cells
    refine bodyPost_ret (v:=.agg #[.int .u64 a0,.int .u64 b0,.int .u64 a1,.int .u64 b1,.bool odd]) (by simp [results,Tryz.results158,go_sem,t0,t1,t2,t3,t4]) rfl ⟨?_,a0,b0,a1,b1,odd,_,_,rfl,HL.out,HX.out⟩
    exact below_only (hbel.alloc hbel.size _) (only_set5 _ _ _ _ _ _ _) (Nat.le_refl _) (by have:=hbel.size;simp;omega)
   ·have c1b:decide (a - p < b0 + qb)=false:=by simp;omega
    have hm5:=M5.out (by omega)
    by_cases c2:b - (a - p) < b1 + (b0 + qb)
    ·have c2b:decide (b - (a - p) < b1 + (b0 + qb))=true:=by simp [c2]
     go_wp2
     obtain ⟨t0,t1,t2,t3,t4⟩:=((HG.out.below ((Below.refl _ _).alloc (Nat.le_refl _) (.cells #[.int .u64 a1,.int .u64 b1,.int .u64 (a0 + qa),.int .u64 (b0 + qb),.bool !odd] 184))).set5 a0 b0 a1 b1 odd).cells
     refine bodyPost_ret (v:=.agg #[.int .u64 a0,.int .u64 b0,.int .u64 a1,.int .u64 b1,.bool odd]) (by simp [results,Tryz.results158,go_sem,t0,t1,t2,t3,t4]) rfl ⟨?_,a0,b0,a1,b1,odd,_,_,rfl,HL.out,HX.out⟩
     exact below_only (hbel.alloc hbel.size _) (only_set5 _ _ _ _ _ _ _) (Nat.le_refl _) (by have:=hbel.size;simp;omega)
    ·have c2b:decide (b - (a - p) < b1 + (b0 + qb))=false:=by simp;omega
     have NX:=hid (CS.out (by omega) (by omega))
     go_wp2
     go_region
     all_goals
      go_wp2
      go_roundw
      case rel =>
       have o1:Only (w.heap.size + 1) wr _:=only_set5 wr (w.heap.size + 1) (.int .u64 a1) (.int .u64 b1) (.int .u64 (a0 + qa)) (.int .u64 (b0 + qb)) (.bool !odd)
       have b1':=below_only hbel o1 (by omega) hbel.size
       refine ⟨b,a - p,a1,b1,a0 + qa,b0 + qb,!odd,rfl,rfl,by omega,by omega,by omega,by omega,(b1'.alloc b1'.size _).drew,?_,?_,NX.out,?_⟩
       ·exact (show SB _ _ _ _ _ _ _ from (o1.block _ HG.out.lt (by omega)).trans HG.out).below ((Below.refl _ _).alloc (Nat.le_refl _) _).drew
       ·exact (HS.out.set5 a1 b1 (a0 + qa) (b0 + qb) (!odd)).below ((Below.refl _ _).alloc (Nat.le_refl _) _).drew
       ·show _ ∧ _ ∧ _ ∧ _
        omega
      case measure=>simp [intOf];omega
theorem bits_two (h l s:Int) (h0:0 ≤ h) (l0:0 ≤ l) (l1:l < 18446744073709551616) (s0:0 ≤ s) (s1:s ≤ 63) (hh:h < 2 ^ (64 - s).toNat) :
  ∃ H D Z,IntKind.u64.wrap (h * 2 ^ s.toNat)=H ∧ 0 ≤ H ∧ H < 18446744073709551616 ∧ l / 2 ^ (64 - s).toNat=D ∧ 0 ≤ D ∧ D < 18446744073709551616 ∧ bits BinOp.or .u64 H D=Z ∧ 0 ≤ Z ∧ Z < 18446744073709551616 ∧ Hid (h * 18446744073709551616 + l=Z * 2 ^ (64 - s).toNat + l % 2 ^ (64 - s).toNat):=by
 have hPQ:(2:Int) ^ s.toNat * 2 ^ (64 - s).toNat=18446744073709551616:=by rw [← Int.pow_add,show s.toNat + (64 - s).toNat=64 by omega];rfl
 have p0:(0:Int) < 2 ^ s.toNat:=Int.pow_pos (by decide)
 have q0:(0:Int) < 2 ^ (64 - s).toNat:=Int.pow_pos (by decide)
 obtain ⟨P,hP⟩:∃ P:Int,2 ^ s.toNat=P:=⟨_,rfl⟩
 obtain ⟨Q,hQ⟩:∃ Q:Int,2 ^ (64 - s).toNat=Q:=⟨_,rfl⟩
 have d1:l / Q < P:=Int.ediv_lt_of_lt_mul (by omega) (by rw [← hP,← hQ,hPQ];exact l1)
 have d0:0 ≤ l / Q:=Int.ediv_nonneg l0 (by omega)
 have h1:(h + 1) * P ≤ Q * P:=Int.mul_le_mul_of_nonneg_right (by omega) (by omega)
 have hPQ':Q * P=18446744073709551616:=by rw [← hP,← hQ,Int.mul_comm];exact hPQ
 have hP0:0 ≤ h * P:=Int.mul_nonneg h0 (by omega)
 rw [Int.add_mul,Int.one_mul,hPQ'] at h1
 have hPle:P ≤ 18446744073709551616:=by omega
 have hw:IntKind.u64.wrap (h * 2 ^ s.toNat)=h * P:=by rw [hP,IntKind.wrap_u64];omega
 refine ⟨_,_,h * P + l / Q,hw,hP0,by omega,rfl,by rw [hQ];exact d0,by rw [hQ];omega,?_,?_,?_,?_⟩
 ·rw [hQ]
  exact bits_join .u64 64 (by decide) wraps_u64 s.toNat _ _ hP0 (by rw [hP];exact Int.mul_emod_left _ _) (by omega) d0 (by rw [hP];exact d1) (by omega)
 ·omega
 ·omega
 ·show _=_
  rw [hQ]
  have e:=Int.mul_ediv_add_emod l Q
  rw [Int.add_mul,Int.mul_assoc,Int.mul_comm P Q,hPQ',Int.mul_comm (l / Q) Q]
  omega
set_option maxRecDepth 100000 in
set_option maxHeartbeats 1000000 in
theorem bitsFrom_c (ao:Option Addr) (n cap k:Nat) (z:Int) (f:Nat → Int) (s:Int) (w:World) (hn:n ≤ 140737488355328) (hk:k + 1 ≤ 140737488355328) (hz:z=(k:Int) + 1) (hr:Rd .u64 w ao n f) (hf:Lm f n) (s0:0 ≤ s) (s1:s ≤ 63) (hh:ext f n (k + 1) < 2 ^ (64 - s).toNat) :
  ∃ Z,0 ≤ Z ∧ Z < 18446744073709551616 ∧ ext f n (k + 1) * 18446744073709551616 + ext f n k=Z * 2 ^ (64 - s).toNat + ext f n k % 2 ^ (64 - s).toNat ∧ Calls Tryz.prog 168 #[.slice ao n cap,.int .i64 z,.int .i64 s] w fun e w'=>e=.returned (.int .u64 Z) ∧ ∃ q,w'=w.drewN q:=by
 have lm:∀ j,0 ≤ ext f n j ∧ ext f n j < 18446744073709551616:=fun j=>by
  by_cases hj:j < n
  ·rw [ext_in _ _ _ hj];exact hf j hj
  ·rw [ext_out _ _ _ (by omega)];omega
 have C1:=hid (fun W (h:Rd .u64 W ao n f)=>limbAt_c ao n cap f (k + 1) W hn hk h)
 have C2:=hid (fun W (h:Rd .u64 W ao n f)=>limbAt_c ao n cap f k W hn (by omega) h)
 obtain ⟨x,hx⟩:∃ x,ext f n (k + 1)=x:=⟨_,rfl⟩
 obtain ⟨y,hy⟩:∃ y,ext f n k=y:=⟨_,rfl⟩
 have lx:=lm (k + 1);have ly:=lm k
 rw [hx] at lx hh C1 ⊢
 rw [hy] at ly C2 ⊢
 obtain ⟨H,D,Z,e1,H0,H1,e2,D0,D1,e3,Z0,Z1,HZ⟩:=bits_two x y s lx.1 ly.1 ly.2 s0 s1 hh
 refine ⟨Z,Z0,Z1,HZ.out,?_⟩
 have HR:=hid hr
 obtain ⟨x0,x1⟩:=lx
 obtain ⟨y0,y1⟩:=ly
 have z0:1 ≤ z:=by omega
 have z1:z ≤ 140737488355328:=by omega
 have C3:=C2
 rw [show ((k + 1:Nat):Int)=z by omega] at C1
 rw [show ((k:Nat):Int)=z - 1 by omega] at C3
 have C4:=C3
 rw [show z - 1=IntKind.i64.wrap (z - 1) by rw [IntKind.wrap_i64];omega] at C4
 have D1:=hid (fun q=>(C1.out (w.drewN q) (show Rd .u64 (w.drewN q) ao n f from hr)).mono (R':=fun e w''=>e=.returned (.int .u64 x) ∧ ∃ n,w''=w.drewN n) (fun _ _ h=>⟨h.1,_,h.2⟩))
 have D3:=hid (fun q=>(C3.out (w.drewN q) (show Rd .u64 (w.drewN q) ao n f from hr)).mono (R':=fun e w''=>e=.returned (.int .u64 y) ∧ ∃ n,w''=w.drewN n) (fun _ _ h=>⟨h.1,_,h.2⟩))
 have D4:=hid (fun q=>(C4.out (w.drewN q) (show Rd .u64 (w.drewN q) ao n f from hr)).mono (R':=fun e w''=>e=.returned (.int .u64 y) ∧ ∃ n,w''=w.drewN n) (fun _ _ h=>⟨h.1,_,h.2⟩))
 clear hr hf lm hx hy hh hz C2 hk C1 C3 C4
 go_enter Tryz.func168,Tryz.ntmps168
 go_wp2
 go_quiet (first | (go_at_call 179;with_reducible exact D1.out _) | (go_at_call 179;with_reducible exact D3.out _) | (go_at_call 179;with_reducible exact D4.out _))
 go_wp2
 go_ret
 exact ⟨rfl,_,rfl⟩
theorem hb_num {g:Nat → Int} {k:Nat} {Z Q:Int} (hl:Lm g (k + 2)) (q0:0 < Q) (he:g (k + 1) * 18446744073709551616 + g k=Z * Q + g k % Q) :
  vf g (k + 2)=Z * (Q * pw k) + (g k % Q * pw k + vf g k) ∧ 0 ≤ g k % Q * pw k + vf g k ∧ g k % Q * pw k + vf g k < Q * pw k:=by
 have r0:=Int.emod_nonneg (g k) (show Q ≠ 0 by omega)
 have r1:=Int.emod_lt_of_pos (g k) q0
 have v0:=vf_nonneg (hl.mono (m:=k) (by omega))
 have v1:=vf_lt (hl.mono (m:=k) (by omega))
 have p0:=pw_pos k
 have m0:0 ≤ g k % Q * pw k:=Int.mul_nonneg r0 (by omega)
 have m1:(g k % Q + 1) * pw k ≤ Q * pw k:=Int.mul_le_mul_of_nonneg_right (by omega) (by omega)
 rw [Int.add_mul,Int.one_mul] at m1
 refine ⟨?_,by omega,by omega⟩
 rw [top2,he];grind
theorem top_le {f g:Nat → Int} {k:Nat} (hf:Lm f (k + 1)) (hg:Lm g (k + 1)) (h:vf g (k + 1) ≤ vf f (k + 1)):g k ≤ f k:=by
 apply Int.le_of_lt_add_one
 have a1:=vf_lt (hf.mono (m:=k) (by omega));have a2:=vf_nonneg (hg.mono (m:=k) (by omega))
 rw [vf_succ,vf_succ] at h
 have:g k * pw k < (f k + 1) * pw k:=by rw [Int.add_mul,Int.one_mul];omega
 exact Int.lt_of_mul_lt_mul_right this (Int.le_of_lt (pw_pos k))
def Top2 (A B x y:Int):Prop:=9223372036854775808 ≤ x ∧ x < 18446744073709551616 ∧ 0 ≤ y ∧ y ≤ x ∧ ∃ T ra rb,A=x * T + ra ∧ B=y * T + rb ∧ 0 ≤ ra ∧ ra < T ∧ 0 ≤ rb ∧ rb < T
set_option maxRecDepth 100000 in
set_option maxHeartbeats 2000000 in
theorem highBits_c (ao bo:Option Addr) (n m ca cb:Nat) (f h:Nat → Int) (w:World) (hn:n ≤ 8796093022208) (hn2:2 ≤ n) (hmn:m ≤ n) (hr:Rd .u64 w ao n f) (hs:Rd .u64 w bo m h) (hf:Lm f n) (hh:Lm h m) (ff:Fm f n) (hle:vf h m ≤ vf f n) :
  ∃ x y,Top2 (vf f n) (vf h m) x y ∧ Calls Tryz.prog 159 #[.slice ao n ca,.slice bo m cb] w fun e w'=>e=.returned (.tuple #[.int .u64 x,.int .u64 y]) ∧ ∃ q,w'=w.drewN q:=by
 obtain ⟨k,rfl⟩:∃ k,n=k + 2:=⟨n - 2,by omega⟩
 obtain ⟨b,ob,rfl⟩:=hr.at (by omega)
 obtain ⟨y,hy⟩:∃ y,f (k + 1)=y:=⟨_,rfl⟩
 have hcell:w.cell? ⟨b,ob + (k + 1),none⟩=some (.int .u64 y):=by rw [← hy];exact hr.cell (by omega)
 have hy01:=hf (k + 1) (by omega)
 have hyne:y ≠ 0:=by rw [← hy];rcases ff with h | h;omega;simpa using h
 rw [hy] at hy01
 obtain ⟨y,rfl⟩:=Int.eq_ofNat_of_zero_le hy01.1
 obtain ⟨s,s0,s1,hse,hP1,hP2⟩:=lead_nums y (by omega) (by omega)
 have cl:=Tryz.bits_LeadingZeros64 (y:Int) w (by omega) (by omega)
 rw [Int.toNat_natCast,hse] at cl
 have hPQ:(2:Int) ^ s.toNat * 2 ^ (64 - s).toNat=18446744073709551616:=by rw [← Int.pow_add,show s.toNat + (64 - s).toNat=64 by omega];rfl
 obtain ⟨P,hP⟩:∃ P:Int,2 ^ s.toNat=P:=⟨_,rfl⟩
 obtain ⟨Q,hQ⟩:∃ Q:Int,2 ^ (64 - s).toNat=Q:=⟨_,rfl⟩
 have p0:0 < P:=by rw [← hP];exact Int.pow_pos (by decide)
 have q0:0 < Q:=by rw [← hQ];exact Int.pow_pos (by decide)
 rw [hP] at hP1 hP2 hPQ
 rw [hQ] at hPQ
 have hyQ:(y:Int) < Q:=by
  have:((y:Int) + 1) * P ≤ Q * P:=by rw [Int.mul_comm Q P,hPQ];exact hP2
  have:=Int.le_of_mul_le_mul_right this p0
  omega
 have lmx:Lm (ext h m) (k + 2):=fun j hj=>by
  by_cases hjm:j < m
  ·rw [ext_in _ _ _ hjm];exact hh j hjm
  ·rw [ext_out _ _ _ (by omega)];omega
 have hvh:vf (ext h m) (k + 2)=vf h m:=vf_ext_list _ _ _ hmn
 have htop:=top_le hf lmx (by rw [hvh];exact hle)
 rw [hy] at htop
 have e1:ext f (k + 2) (k + 1)=f (k + 1):=ext_in _ _ _ (by omega)
 have e0:ext f (k + 2) k=f k:=ext_in _ _ _ (by omega)
 obtain ⟨z,hz⟩:∃ z,(k:Int) + 2 - 1=z:=⟨_,rfl⟩
 have hzn:z.toNat=k + 1:=by omega
 have hz0:0 ≤ z:=by omega
 have hz1:z < (k:Int) + 2:=by omega
 obtain ⟨X,X0,X1,hX,cX⟩:=bitsFrom_c (some ⟨b,ob,none⟩) (k + 2) ca k z f s w (by omega) (by omega) (by omega) hr hf s0 s1 (by rw [e1,hy,hQ];exact hyQ)
 have cY0:=fun q=>bitsFrom_c bo m cb k z h s (w.drewN q) (by omega) (by omega) (by omega) (show Rd .u64 (w.drewN q) bo m h from hs) hh s0 s1 (by rw [hQ];omega)
 rw [e1,e0,hQ] at hX
 obtain ⟨Y,Y0,Y1,hY,_⟩:=cY0 0
 rw [hQ] at hY
 have cY:∀ q,Calls Tryz.prog 168 #[.slice bo m cb,.int .i64 z,.int .i64 s] (w.drewN q) fun e w'=>e=.returned (.int .u64 Y) ∧ ∃ n,w'=(w.drewN q).drewN n:=fun q=>by
  obtain ⟨Y',a1,a2,a3,a4⟩:=cY0 q
  rw [hQ] at a3
  have:Y'=Y:=by
   have e:Y' * Q=Y * Q:=by omega
   exact Int.eq_of_mul_eq_mul_right (by omega) e
  rw [this] at a4
  exact a4
 obtain ⟨A1,A2,A3⟩:=hb_num hf q0 hX
 obtain ⟨B1,B2,B3⟩:=hb_num lmx q0 hY
 rw [hvh] at B1
 have hXlow:9223372036854775808 ≤ X:=by
  have m1:9223372036854775808 * Q ≤ (y:Int) * P * Q:=Int.mul_le_mul_of_nonneg_right hP1 (by omega)
  rw [Int.mul_assoc,hPQ] at m1
  have r1:=Int.emod_lt_of_pos (f k) q0
  have fk:=hf k (by omega)
  have:9223372036854775808 * Q < (X + 1) * Q:=by rw [Int.add_mul,Int.one_mul,hy] at *;omega
  have:=Int.lt_of_mul_lt_mul_right this (by omega)
  omega
 have hYX:Y ≤ X:=by
  have hT:0 < Q * pw k:=Int.mul_pos q0 (pw_pos k)
  have:Y * (Q * pw k) < (X + 1) * (Q * pw k):=by rw [Int.add_mul,Int.one_mul];omega
  have:=Int.lt_of_mul_lt_mul_right this (by omega)
  omega
 refine ⟨X,Y,⟨hXlow,X1,Y0,hYX,Q * pw k,_,_,A1,B1,A2,A3,B2,B3⟩,?_⟩
 have CL:=hid cl;have CX:=hid cX;have CY:=hid cY
 clear cl cX cY cY0 hf hh hr hs ff hle hP1 hP2 hPQ hX hY A1 A2 A3 B1 B2 B3 hvh htop lmx e1 e0 hy hse hP hQ
 go_enter Tryz.func159,Tryz.ntmps159
 go_wp2_with fail
 refine CL.out.mono ?_
 rintro e w' ⟨rfl,rfl⟩
 go_wp2_with fail
 refine CX.out.mono ?_
 rintro e w' ⟨rfl,q1,rfl⟩
 go_wp2_with fail
 refine (CY.out _).mono ?_
 rintro e w' ⟨rfl,q2,rfl⟩
 go_wp2
 go_ret2
 exact ⟨rfl,_,by (repeat rw [World.drewN_drewN]) <;> rfl⟩
end Go.Proofs.YtgmllfcngnfpkaaGreat
