/-
 The walk of package nat's addCutProduct: three products in place of four. Package nat's products for all lengths. Walks of package nat's long division, its parts: addWord and addTo with what goes over, mulSubFrom, guess. The walk of package nat's guess: a digit of a long quotient. The walk of package nat's takeOut: a digit of a long quotient, and what is left. The walk of package nat's shrBits: a number by 2^n. The walk of package nat's divLong: quotient and rest of long numbers. The walk of package nat's divLong, and divMod for all numbers. Walks of nat's calls Mul and DivMod, whatever they are handed. Walks of the document's reference for nat: DocMul, DocDivMod, DocGcd. strconv.FormatUint at base 10. Walks of package nat's texts: putPiece, limbAt. Walks of package nat's texts: levels, bases. Walks of package nat's texts: putDigits. Walks of package nat's texts: bytes.TrimLeft of noughts, digits, Text. Walks of package nat's calls Text, DivMod and Gcd.
-/
import Derived.Test.YtdbbncamlaiajaaGreatZ2
import Derived.Deep.CutRange
import Derived.Deep.RegionHeld3
import Derived.BigQuiet
import Derived.Test.YtdbbncamlaiajaaGreatZ1
import Derived.Test.YtdbbncamlaiajaaGreatZ0
import Derived.Lib.ItoaMem
import Derived.Lib.Walk
import Derived.BigCall
import Derived.BigGuard
import Derived.Lib.BufferWrite
namespace Go.Proofs.YtdbbncamlaiajaaGreat
open Go.RowKit
set_option maxRecDepth 100000 in
set_option maxHeartbeats 1000000 in
theorem product_c (ao bo:Option Addr) (n m ca cb:Nat) (fa fb:Nat→Int) (w:World) (hap:AddProdC n m ca cb) (hn:n≤4398046511104) (hm:m≤4398046511104) (hra:Rd .u64 w ao n fa) (hrb:Rd .u64 w bo m fb) (ha:Lm fa n) (hb:Lm fb m) :
  Calls Tryz.prog 170 #[.slice ao n ca,.slice bo m cb] w fun e w'=>e=.returned (.slice (some ⟨w.heap.size,0,none⟩) (n+m) (n+m))∧Below w.heap.size w w' ∧
   ∃f',Blk .u64 145 w' w.heap.size (n+m) f'∧Lm f' (n+m)∧vf f' (n+m)=vf fa n*vf fb m:=by
 have HP:=hid hap;have HA:=hid ha;have HB:=hid hb;have RA:=hid hra;have RB:=hid hrb
 clear hap ha hb hra hrb;go_enter Tryz.func170,Tryz.ntmps170;go_wp2_with (at_make;refine wpList_make_blk .u64 w rfl (.tmp 10) (.tmp 10) 22 rfl 145 8 Tryz.underlying22 Tryz.infoU64 .i64 .i64 ((n:Int)+m) ((n:Int)+m) (n+m) rfl rfl (by omega) (by omega) (by omega) (by unfold maxLen;omega) ?_;intro w1 hb1 hbel1)
 have hz:vf (sh (fun _=>(0:Int)) 0) (n+m)=0:=vf_zero (fun _ _=>rfl);refine (HP.out w.heap.size 0 (n+m) (n+m) (fun _=>0) ao bo (n+m) fa fb w1 hb1 (lm_zero _) (by omega) (Nat.le_refl _) (by omega) (RA.out.below hbel1 (Nat.le_refl _)) (RB.out.below hbel1 (Nat.le_refl _)) HA.out HB.out (fun h0=>(RA.out.und h0).off (Nat.le_refl _)) (fun h0=>(RB.out.und h0).off (Nat.le_refl _)) (Nat.le_refl _) (by omega) (by rw [hz];have:=prod_lt HA.out HB.out;omega)).mono ?_;rintro e w2 ⟨rfl,hon,f2,hb2,hl2,he2,hv2⟩;rw [hz] at hv2;have HV2:=hid hv2;clear hv2 hz;go_wp2;go_ret;exact ⟨rfl,below_only hbel1 hon (Nat.le_refl _) hbel1.size,f2,hb2,hl2,by have:=HV2.out;rw [sh_zero] at this;omega⟩
theorem trim_at (g N n:Nat) (f:Nat→Int) (w:World) (hb:Blk .u64 145 w g N f) (hn:n≤N) (hN:N≤140737488355328) (hf:Lm f N) :
  Calls Tryz.prog 169 #[.slice (some ⟨g,0,none⟩) n N] w fun e w'=>w'=w∧∃x k c,e=.returned (.slice x k c)∧(∀h,h≠g→Off x h)∧k≤n∧Rd .u64 w x k f∧Lm f k∧Fm f k∧vf f k=vf f n:=by
 refine (trim_c _ n N f w hn hN (hb.rd0 hn)).mono ?_;rintro e w2 ⟨rfl,m,hmn,hz,he⟩;refine ⟨rfl,?_⟩;have hv:vf f m=vf f n:=trim_val hmn hz;rcases he with ⟨rfl,rfl⟩ | ⟨hm0,hne,rfl⟩
 ·exact ⟨none,0,0,rfl,fun _ _=>off_none _,hmn,Rd.zero,fun j hj=>by omega,.inl rfl,hv⟩
 ·exact ⟨_,m,N,rfl,fun _ h=>off_some (Ne.symm h),hmn,hb.rd0 (by omega),hf.mono (by omega),.inr hne,hv⟩
theorem Res.kept {C w w' ao n cap f} (h:Res C w w' ao n cap f) {k x m q} (hr:Rd k w x m q):Rd k w' x m q:=hr.below h.bel (Nat.le_refl _)
theorem mid_len {f:Nat→Int} {k D:Nat} (hl:Lm f k) (hf:Fm f k) (h:vf f k<pw D):k≤D:=by
 apply Nat.le_of_not_lt;intro hlt
 have b1:=vf_form_ge hl hf (by omega);have b2:=pw_mono (show D≤k-1 by omega);omega
set_option maxRecDepth 100000 in
set_option maxHeartbeats 8000000 in
theorem cut_c (g o cap N:Nat) (f:Nat→Int) (b ob b' ob' n m ca cb D c:Nat) (fa fb:Nat→Int) (w:World) (hb:Blk .u64 145 w g N f) (hf:Lm f N) (ho:o+D≤N) (hD:n+m≤D) (hN:N≤140737488355328)
  (hra:Rd .u64 w (some ⟨b,ob,none⟩) n fa) (hrb:Rd .u64 w (some ⟨b',ob',none⟩) m fb) (ha:Lm fa n) (hbb:Lm fb m) (hcap:D≤cap) (hcm:cap≤140737488355328) (hca:n≤ca) (hcam:ca≤9223372036854775807) (hcb:m≤cb) (hcbm:cb≤9223372036854775807)
  (hc:c=(n+1)/2) (hcm1:c<m) (hmn:m≤n) (hm40:40≤m) (hn44:n≤2199023255552)
  (hih:∀k l x y,k+l<n+m→k≤x→l≤y→x≤9223372036854775807→y≤9223372036854775807→AddProdC k l x y) (hroom:vf (sh f o) D+vf fa n*vf fb m<pw D) :
  Calls Tryz.prog 195 #[.slice (some ⟨g,o,none⟩) D cap,.slice (some ⟨b,ob,none⟩) n ca,.slice (some ⟨b',ob',none⟩) m cb] w fun e w'=>e=.returned (.tuple #[])∧Only g w w' ∧
   ∃f',Blk .u64 145 w' g N f'∧Lm f' N∧(∀j,j<o∨o+D≤j→f' j=f j)∧vf (sh f' o) D=vf (sh f o) D+vf fa n*vf fb m:=by
 have HRm:=hid hroom;have HB:=hid hb;have HF:=hid hf;have HRA:=hid hra;have HRB:=hid hrb;have HA:=hid ha;have HBB:=hid hbb;have HIH:=hid hih
 have CH:=hid (half_c n c n w (by omega) rfl hc);have hc1:c<n:=by omega
 have hc2:2*c≤n+1:=by omega
 have hc3:n≤2*c:=by omega
 clear hroom hb hf hra hrb ha hbb hih hc;have e1:(c:Int)≤(n:Int):=by omega
 have e2:(c:Int)≤(m:Int):=by omega
 have e3:(c:Int)≤(ca:Int):=by omega
 have e4:(c:Int)≤(cb:Int):=by omega
 have e5:¬(c=ca):=by omega
 have e6:¬(ca=c):=by omega
 have e7:¬(c=cb):=by omega
 have e8:¬(cb=c):=by omega
 have C1:=hid (fun W h1 h2=>product_c (some ⟨b,ob,none⟩) (some ⟨b',ob',none⟩) c c ca cb fa fb W (HIH.out c c ca cb (by omega) (by omega) (by omega) hcam hcbm) (by omega) (by omega) h1 h2 (HA.out.mono (by omega)) (HBB.out.mono (by omega)));go_enter Tryz.func195,Tryz.ntmps195;go_wp2_with fail
 refine CH.out.mono ?_;rintro e w' ⟨rfl,rfl⟩;go_upto_region 1 with fail
 go_cut [7] from 13 to 19 (fun s wx=>s=.slice (some ⟨w'.heap.size,0,none⟩) (c+c) (c+c)∧Below w'.heap.size w' wx∧∃fl,Blk .u64 145 wx w'.heap.size (c+c) fl∧Lm fl (c+c)∧vf fl (c+c)=vf fa c*vf fb c)
 case first =>
  go_region_with (go_at_call 170;refine (C1.out _ (by exact HRA.out.take (by omega)) (by exact HRB.out.take (by omega))).mono ?_;rintro e wl ⟨rfl,hbl,fl,hbl1,hll,hvl⟩;have HVl:=hid hvl;clear hvl)
  all_goals
   go_wp2_with fail
   go_meet
   exact ⟨rfl,⟨hbl.os,hbl.tape,hbl.output,hbl.size,hbl.block⟩,fl,hbl1,hll,HVl.out⟩
 case rest =>
 rename World=>w1
 obtain ⟨rfl,hbel1,fl,hbl1,hll,hvl⟩:=hcut;have HBl1:=hid hbl1;have HLl:=hid hll;have HVl:=hid hvl;have BE1:=hid hbel1
 have HRA1:=hid (HRA.out.below hbel1 (Nat.le_refl _));have HRB1:=hid (HRB.out.below hbel1 (Nat.le_refl _))
 clear hbl1 hll hvl C1 CH hbel1;have C2:=hid (fun W h1 h2=>product_c (some ⟨b,ob+c,none⟩) (some ⟨b',ob'+c,none⟩) (n-c) (m-c) (ca-c) (cb-c) (sh fa c) (sh fb c) W (HIH.out (n-c) (m-c) (ca-c) (cb-c) (by omega) (by omega) (by omega) (by omega) (by omega)) (by omega) (by omega) h1 h2 (HA.out.sh (by omega)) (HBB.out.sh (by omega)));go_upto_region 2 with fail
 go_cut [8] from 20 to 26 (fun s wx=>s=.slice (some ⟨w1.heap.size,0,none⟩) (n-c+(m-c)) (n-c+(m-c))∧Below w1.heap.size w1 wx∧∃fh,Blk .u64 145 wx w1.heap.size (n-c+(m-c)) fh∧Lm fh (n-c+(m-c))∧vf fh (n-c+(m-c))=vf (sh fa c) (n-c)*vf (sh fb c) (m-c))
 case first =>
  go_region_with (go_at_call 170;refine (C2.out _ (by exact HRA1.out.drop (by omega)) (by exact HRB1.out.drop (by omega))).mono ?_;rintro e wh ⟨rfl,hbh,fh,hbh1,hlh,hvh⟩;have HVh:=hid hvh;clear hvh)
  all_goals
   go_wp2_with fail
   go_meet
   exact ⟨rfl,⟨hbh.os,hbh.tape,hbh.output,hbh.size,hbh.block⟩,fh,hbh1,hlh,HVh.out⟩
 case rest =>
 rename World=>w2
 obtain ⟨rfl,hbel2,fh,hbh1,hlh,hvh⟩:=hcut;have HBh2:=hid hbh1;have HLh:=hid hlh;have HVh:=hid hvh;have BE2:=hid hbel2
 have HRA2:=hid (HRA1.out.below hbel2 (Nat.le_refl _));have HRB2:=hid (HRB1.out.below hbel2 (Nat.le_refl _))
 have HBl2:=hid (HBl1.out.below hbel2 (HBl1.out.lt));have BE12:=hid (BE1.out.trans (hbel2.mono BE1.out.size));have zz1:=BE1.out.size;have zl1:=HBl1.out.lt;have zh2:=HBh2.out.lt;clear hbh1 hlh hvh C2 hbel2 HRA1 HRB1 HBl1;have C3:=hid (fun W h1 h2=>add_c (some ⟨b,ob,none⟩) (some ⟨b,ob+c,none⟩) c (n-c) ca (ca-c) fa (sh fa c) W (by omega) (by omega) h1 h2 (HA.out.mono (by omega)) (HA.out.sh (by omega)));have C4:=hid (fun W h1 h2=>add_c (some ⟨b',ob',none⟩) (some ⟨b',ob'+c,none⟩) c (m-c) cb (cb-c) fb (sh fb c) W (by omega) (by omega) h1 h2 (HBB.out.mono (by omega)) (HBB.out.sh (by omega)));have hbb':b=b'∨b≠b':=by omega
 go_upto_region 3 with fail
 go_cut [9] from 27 to 41 (fun s wx=>∃G K fm,s=.slice (some ⟨G,0,none⟩) K K∧w2.heap.size≤G∧Below w2.heap.size w2 wx∧K≤4398046511104∧Blk .u64 145 wx G K fm∧Lm fm K∧vf fm K=(vf fa c+vf (sh fa c) (n-c))*(vf fb c+vf (sh fb c) (m-c)))
 case first =>
  go_region_with (first | (go_at_call_of 185 ca;refine (C3.out _ (by exact HRA2.out.take (by omega)) (by exact HRA2.out.drop (by omega))).mono ?_;rintro e wa ⟨xa,ka,da,va,rfl,hresa,hvva⟩;have HResA:=hid hresa;have HVa:=hid hvva;clear hresa hvva) | (go_at_call_of 185 cb;refine (C4.out _ ((HResA.out.kept (by exact HRB2.out)).take (by omega)) ((HResA.out.kept (by exact HRB2.out)).drop (by omega))).mono ?_;rintro e wb ⟨xb,kb,db,vb,rfl,hresb,hvvb⟩;have HResB:=hid hresb;have HVb:=hid hvvb;clear hresb hvvb) | (go_at_call 170;refine (product_c xa xb ka kb da db va vb _ (HIH.out ka kb da db (by have:=HResA.out.le;have:=HResB.out.le;omega) HResA.out.ncap.1 HResB.out.ncap.1 (by have:=HResA.out.ncap;omega) (by have:=HResB.out.ncap;omega)) (by have:=HResA.out.le;omega) (by have:=HResB.out.le;omega) (HResB.out.kept (by exact HResA.out.rd)) (by exact HResB.out.rd) HResA.out.lm HResB.out.lm).mono ?_;rintro e wm ⟨rfl,hbm,fm,hbm1,hlm,hvm⟩;have HVm:=hid hvm;clear hvm))
  all_goals
   go_wp2_with fail
   go_meet
   have A:=HResA.out.bel;have BA:Below w2.heap.size w2 wa:=⟨A.os,A.tape,A.output,A.size,A.block⟩;have BB:=HResB.out.bel;have y1:=BA.size;have y2:=BB.size;refine ⟨wb.heap.size,ka+kb,fm,rfl,by omega,BA.trans ((BB.mono y1).trans (hbm.mono (by omega))),by have:=HResA.out.le;have:=HResB.out.le;omega,hbm1,hlm,?_⟩;rw [HVm.out,HVa.out,HVb.out]
 case rest =>
 rename World=>w3
 obtain ⟨G,K,fm,rfl,hG,hbel3,hK,hbm3,hlm,hvm⟩:=hcut;have zz2:=BE2.out.size;have zG:=hbm3.lt;obtain ⟨A0,hA0⟩:∃A0,vf fa c=A0:=⟨_,rfl⟩;obtain ⟨A1,hA1⟩:∃A1,vf (sh fa c) (n-c)=A1:=⟨_,rfl⟩;obtain ⟨B0,hB0⟩:∃B0,vf fb c=B0:=⟨_,rfl⟩;obtain ⟨B1,hB1⟩:∃B1,vf (sh fb c) (m-c)=B1:=⟨_,rfl⟩;have pA0:0≤A0:=by rw [←hA0];exact vf_nonneg (HA.out.mono (by omega))
 have pA1:0≤A1:=by rw [←hA1];exact vf_nonneg (HA.out.sh (by omega))
 have pB0:0≤B0:=by rw [←hB0];exact vf_nonneg (HBB.out.mono (by omega))
 have pB1:0≤B1:=by rw [←hB1];exact vf_nonneg (HBB.out.sh (by omega))
 have hAn:vf fa n=A0+A1*pw c:=by rw [←hA0,←hA1,←vf_split,show c+(n-c)=n by omega]
 have hBn:vf fb m=B0+B1*pw c:=by rw [←hB0,←hB1,←vf_split,show c+(m-c)=m by omega]
 have hvl:=HVl.out;have hvh:=HVh.out;rw [hA0,hB0] at hvl;rw [hA1,hB1] at hvh;rw [hA0,hA1,hB0,hB1] at hvm;have p00:0≤A0*B0:=Int.mul_nonneg pA0 pB0;have p11:0≤A1*B1:=Int.mul_nonneg pA1 pB1;have p01:0≤A0*B1:=Int.mul_nonneg pA0 pB1;have p10:0≤A1*B0:=Int.mul_nonneg pA1 pB0;have hmid:(A0+A1)*(B0+B1)=A0*B0+A1*B1+(A0*B1+A1*B0):=by grind
 rw [hmid] at hvm;have hroom:=HRm.out;rw [hAn,hBn] at hroom;have hall:vf (sh f o) D+(A0+A1*pw c)*(B0+B1*pw c)=vf (sh f o) D+A0*B0+A1*B1*pw (2*c)+(A0*B1+A1*B0)*pw c:=by
  rw [show 2*c=c+c by omega,pw_add];grind
 rw [hall] at hroom;generalize hL00:A0*B0=L00 at *;generalize hL11:A1*B1=L11 at *;generalize hLm:A0*B1+A1*B0=Lm' at *;have pm:0≤Lm':=by omega
 clear hmid hA0 hA1 hB0 hB1 pA0 pA1 pB0 pB1 hL00 hL11 hLm p01 p10 C3 C4 HRA2 HRB2 HRA HRB HVl HVh HRm;have ROOM:=hid hroom;have HVl:=hid hvl;have HVh:=hid hvh;have HVm:=hid hvm;have HAll:=hid hall;have HAn:=hid hAn;have HBn:=hid hBn;have HLm3:=hid hlm;have HBm3:=hid hbm3
 have HBl3:=hid (HBl2.out.below hbel3 HBl2.out.lt);have HBh3:=hid (HBh2.out.below hbel3 HBh2.out.lt);have BE3:=hid (BE12.out.trans (hbel3.mono (by omega)));have HB3:=hid (HB.out.below BE3.out HB.out.lt);have gG:=HB.out.lt;clear hroom hvl hvh hvm hall hAn hBn hlm hbm3 hbel3 HBl2 HBh2 HB;generalize hgl:w'.heap.size=gl at *;generalize hgh:w1.heap.size=gh at *;go_wp2_with fail
 refine (trim_at gl (c+c) (c+c) fl w3 HBl3.out (Nat.le_refl _) (by omega) HLl.out).mono ?_;rintro e wt ⟨rfl,x1,k1,d1,rfl,hoff1,hk1,hr1,hl1,hf1,hv1⟩;have HV1:=hid hv1;have HL1:=hid hl1;have HF1:=hid hf1;have HR1:=hid hr1;have HO1:=hid hoff1
 have hkK:k1≤K:=vf_len hl1 HLm3.out hf1 (by rw [hv1,HVl.out,HVm.out];omega);clear hv1 hl1 hf1 hr1 hoff1;go_wp2_with fail
 refine (subFrom_c G 0 K K K fm x1 k1 d1 fl _ HBm3.out HLm3.out (by omega) (by omega) HR1.out HL1.out (fun _=>HO1.out G (by omega)) hkK (Nat.le_refl _) (by omega) (by rw [sh_zero,HV1.out,HVl.out,HVm.out];omega)).mono ?_;rintro e w4 ⟨rfl,hon4,fm1,hb4,hl4,_,hv4⟩;rw [sh_zero,sh_zero,HV1.out,HVl.out,HVm.out] at hv4;have HBm4:=hid hb4;have HLm4:=hid hl4;have HVm4:=hid hv4;have ON4:=hid hon4
 have HBl4:=hid (HBl3.out.only hon4 (by omega));have HBh4:=hid (HBh3.out.only hon4 (by omega));have HB4:=hid (HB3.out.only hon4 (by omega))
 clear hb4 hl4 hv4 hon4 HR1 HL1 HF1 HO1 HV1 HBl3 HBh3 HB3 HBm3 HLm3 HVm hkK hk1;go_wp2_with fail
 refine (trim_at gh (n-c+(m-c)) (n-c+(m-c)) fh w4 HBh4.out (Nat.le_refl _) (by omega) HLh.out).mono ?_;rintro e wt ⟨rfl,x2,k2,d2,rfl,hoff1,hk1,hr1,hl1,hf1,hv1⟩;have HV1:=hid hv1;have HL1:=hid hl1;have HF1:=hid hf1;have HR1:=hid hr1;have HO1:=hid hoff1
 have hkK:k2≤K:=vf_len hl1 HLm4.out hf1 (by rw [hv1,HVh.out,HVm4.out];omega);clear hv1 hl1 hf1 hr1 hoff1;go_wp2_with fail
 refine (subFrom_c G 0 K K K fm1 x2 k2 d2 fh _ HBm4.out HLm4.out (by omega) (by omega) HR1.out HL1.out (fun _=>HO1.out G (by omega)) hkK (Nat.le_refl _) (by omega) (by rw [sh_zero,HV1.out,HVh.out,HVm4.out];omega)).mono ?_;rintro e w5 ⟨rfl,hon5,fm2,hb5,hl5,_,hv5⟩;rw [sh_zero,sh_zero,HV1.out,HVh.out,HVm4.out] at hv5;have HBm5:=hid hb5;have HLm5:=hid hl5;have HVm5:=hid (show vf fm2 K=Lm' by omega);have ON5:=hid (ON4.out.trans hon5)
 have HBl5:=hid (HBl4.out.only hon5 (by omega));have HBh5:=hid (HBh4.out.only hon5 (by omega));have HB5:=hid (HB4.out.only hon5 (by omega))
 clear hb5 hl5 hv5 hon5 HR1 HL1 HF1 HO1 HV1 HBl4 HBh4 HB4 HBm4 HLm4 HVm4 hkK hk1 ON4;have p2c:=pw_pos (2*c);have pc:=pw_pos c;have q11:0≤L11*pw (2*c):=Int.mul_nonneg p11 (Int.le_of_lt p2c);have qmm:0≤Lm'*pw c:=Int.mul_nonneg pm (Int.le_of_lt pc);have Q11:=hid q11;have QM:=hid qmm
 clear q11 qmm p2c pc;go_wp2_with fail
 refine (addTo_c g o D cap N f (some ⟨gl,0,none⟩) (c+c) (c+c) fl w5 HB5.out HF.out ho hN (HBl5.out.rd0 (Nat.le_refl _)) HLl.out (fun _=>off_some (by omega)) (by omega) hcap hcm (by rw [HVl.out];have:=ROOM.out;have:=Q11.out;have:=QM.out;omega)).mono ?_;rintro e w6 ⟨rfl,hon6,f6,hb6,hl6,he6,hv6⟩;rw [HVl.out] at hv6;have HB6:=hid hb6;have HL6:=hid hl6;have HE6:=hid he6;have HV6:=hid hv6;have ON6:=hid hon6
 have HBh6:=hid (HBh5.out.only hon6 (by omega));have HBm6:=hid (HBm5.out.only hon6 (by omega))
 clear hb6 hl6 he6 hv6 hon6 HBh5 HBm5 HBl5 HB5;have r1:¬(2*c=cap):=by omega
 have r2:¬(cap=2*c):=by omega
 have r3:(2*(c:Int))≤(D:Int):=by omega
 have r4:(2*(c:Int)).toNat=2*c:=by omega
 have hroom7:=piece_room (o:=o) (i:=2*c) (D:=D) (N:=N) (X:=L11) (by omega) HL6.out ho HV6.out (by have:=ROOM.out;have:=QM.out;omega);have R7:=hid hroom7;clear hroom7;go_wp2_with fail
 refine (addTo_c g (o+2*c) (D-2*c) (cap-2*c) N f6 (some ⟨gh,0,none⟩) (n-c+(m-c)) (n-c+(m-c)) fh w6 HB6.out HL6.out (by omega) hN (HBh6.out.rd0 (Nat.le_refl _)) HLh.out (fun _=>off_some (by omega)) (by omega) (by omega) (by omega) (by rw [HVh.out];exact R7.out)).mono ?_;rintro e w7 ⟨rfl,hon7,f7,hb7,hl7,he7,hv7⟩;rw [HVh.out] at hv7;have hv7':=piece_val (V:=vf (sh f o) D+L00+L11*pw (2*c)) (by omega) HV6.out he7 hv7 rfl;have hroom8:=piece_room (o:=o) (i:=c) (D:=D) (N:=N) (X:=Lm') (by omega) hl7 ho hv7' (by have:=ROOM.out;omega);have lo8:=vf_nonneg (hl7.sh (o:=o+c) (m:=D-c) (by omega));have R8:=hid hroom8;have HB7:=hid hb7;have HL7:=hid hl7;have HV7:=hid hv7';have ON7:=hid (ON6.out.trans hon7)
 have HE7:=hid (show ∀j,j<o∨o+D≤j→f7 j=f j from fun j hj=>(he7 j (by omega)).trans (HE6.out j hj));have LO8:=hid lo8;have HBm7:=hid (HBm6.out.only hon7 (by omega));clear hroom8 hb7 hl7 hv7 hv7' he7 hon7 lo8 HB6 HL6 HE6 HV6 ON6 HBh6 HBm6 R7;have r5:¬(c=cap):=by omega
 have r6:¬(cap=c):=by omega
 have r7:(c:Int)≤(D:Int):=by omega
 go_wp2_with fail
 go_region_with (first | (go_at_call 169;refine (trim_at G K K fm2 _ (by exact HBm7.out) (Nat.le_refl _) (by omega) HLm5.out).mono ?_;rintro e wt ⟨rfl,x3,k3,d3,rfl,hoff3,hk3,hr3,hl3,hf3,hv3⟩;have HV3:=hid hv3;have HL3:=hid hl3;have HF3:=hid hf3;have HR3:=hid hr3;have HO3:=hid hoff3;clear hv3 hl3 hf3 hr3 hoff3) | (go_at_call 199;refine (addTo_c g (o+c) (D-c) (cap-c) N f7 x3 k3 d3 fm2 _ (by exact HB7.out) HL7.out (by omega) hN (by exact HR3.out) HL3.out (fun _=>HO3.out g (by omega)) (by exact mid_len HL3.out HF3.out (by rw [HV3.out,HVm5.out];have:=R8.out;have:=LO8.out;omega)) (by omega) (by omega) (by rw [HV3.out,HVm5.out];exact R8.out)).mono ?_;rintro e w8 ⟨rfl,hon8,f8,hb8,hl8,he8,hv8⟩;have HB8:=hid hb8;have HL8:=hid hl8;have HE8:=hid he8;have HV8:=hid hv8;clear hb8 hl8 he8 hv8))
 all_goals
  go_wp2;have B5:Below gl w' w5:=below_only BE3.out ON5.out (by omega) (by have:=BE3.out.size;omega);rw [←hgl] at B5;have O7:=(Only.of_below (g:=g) B5).trans ON7.out;have O8:Only g w7 w8:=⟨hon8.os,hon8.tape,hon8.output,hon8.size,hon8.block⟩;have hv8:=HV8.out;rw [HV3.out,HVm5.out] at hv8;have hfin:=piece_val (V:=vf (sh f o) D+L00+L11*pw (2*c)+Lm'*pw c) (by omega) HV7.out HE8.out hv8 rfl;refine bodyPost_end (v:=.tuple #[]) (results_none rfl _ _ _) rfl ⟨rfl,O7.trans O8,f8,HB8.out,HL8.out,fun j hj=>(HE8.out j (by omega)).trans (HE7.out j hj),?_⟩;rw [hfin,HAn.out,HBn.out,HAll.out]
set_option maxHeartbeats 2000000 in
theorem addProd_big (n m ca cb:Nat) (hn:n≤2199023255552) (hm:m≤2199023255552) (hca:n≤ca) (hcb:m≤cb) (hcam:ca≤9223372036854775807) (hcbm:cb≤9223372036854775807) (hn40:40≤n) (hm40:40≤m)
  (hih:∀k l x y,k+l<n+m→k≤x→l≤y→x≤9223372036854775807→y≤9223372036854775807→AddProdC k l x y):AddProdC n m ca cb:=by
 intro g o cap N f ao bo D fa fb w hb hf ho hD hN hra hrb ha hbb hoa hob hcap hcm hroom;by_cases hsw:n<m
 ·have hmul:vf fa n*vf fb m=vf fb m*vf fa n:=Int.mul_comm _ _;rw [hmul] at hroom ⊢;obtain ⟨ba,oa,rfl⟩:=hrb.at (by omega);obtain ⟨bb,obb,rfl⟩:=hra.at (by omega);have hne_a:ba≠g:=hob (by omega) _ rfl;have hne_b:bb≠g:=hoa (by omega) _ rfl;obtain ⟨c,hc⟩:∃c,c=(m+1)/2:=⟨_,rfl⟩;have CH:=hid (half_c m c m w (by omega) rfl hc);by_cases hcut:n≤c
  ·have C:=hid (piece_c g o cap N f ba oa (some ⟨bb,obb,none⟩) m n cb ca D fb fa w hb hf ho (by omega) hN hrb hra hbb ha (hne_a) hoa hcap hcm hcb hcbm (by omega) (fun k x h1 h2 h3=>hih k n x ca (by omega) h2 hca (by omega) hcam) hroom);clear hroom hra hrb ha hbb hoa hob hb hf hih hc hne_a hne_b hmul;go_enter Tryz.func182,Tryz.ntmps182;go_wp2_with fail
   refine CH.out.mono ?_;rintro e w' ⟨rfl,rfl⟩;go_wp2_with fail
   refine C.out.mono ?_;rintro e w' ⟨rfl,hrest⟩;have HRest:=hid hrest;clear hrest;go_wp2;exact bodyPost_end (v:=.tuple #[]) (results_none rfl _ _ _) rfl ⟨rfl,HRest.out⟩
  ·have C:=hid (cut_c g o cap N f ba oa bb obb m n cb ca D c fb fa w hb hf ho (by omega) hN hrb hra hbb ha hcap hcm hcb hcbm hca hcam hc (by omega) (by omega) (by omega) (by omega) (fun k l x y h=>hih k l x y (by omega)) hroom);clear hroom hra hrb ha hbb hoa hob hb hf hih hc hne_a hne_b hmul;go_enter Tryz.func182,Tryz.ntmps182;go_wp2_with fail
   refine CH.out.mono ?_;rintro e w' ⟨rfl,rfl⟩;go_wp2_with fail
   refine C.out.mono ?_;rintro e w' ⟨rfl,hrest⟩;have HRest:=hid hrest;clear hrest;go_wp2;exact bodyPost_end (v:=.tuple #[]) (results_none rfl _ _ _) rfl ⟨rfl,HRest.out⟩
 ·skip
  obtain ⟨ba,oa,rfl⟩:=hra.at (by omega);obtain ⟨bb,obb,rfl⟩:=hrb.at (by omega);have hne_a:ba≠g:=hoa (by omega) _ rfl;have hne_b:bb≠g:=hob (by omega) _ rfl;obtain ⟨c,hc⟩:∃c,c=(n+1)/2:=⟨_,rfl⟩;have CH:=hid (half_c n c n w (by omega) rfl hc);by_cases hcut:m≤c
  ·have C:=hid (piece_c g o cap N f ba oa (some ⟨bb,obb,none⟩) n m ca cb D fa fb w hb hf ho (by omega) hN hra hrb ha hbb (hne_a) hob hcap hcm hca hcam (by omega) (fun k x h1 h2 h3=>hih k m x cb (by omega) h2 hcb (by omega) hcbm) hroom);clear hroom hra hrb ha hbb hoa hob hb hf hih hc hne_a hne_b;go_enter Tryz.func182,Tryz.ntmps182;go_wp2_with fail
   refine CH.out.mono ?_;rintro e w' ⟨rfl,rfl⟩;go_wp2_with fail
   refine C.out.mono ?_;rintro e w' ⟨rfl,hrest⟩;have HRest:=hid hrest;clear hrest;go_wp2;exact bodyPost_end (v:=.tuple #[]) (results_none rfl _ _ _) rfl ⟨rfl,HRest.out⟩
  ·have C:=hid (cut_c g o cap N f ba oa bb obb n m ca cb D c fa fb w hb hf ho (by omega) hN hra hrb ha hbb hcap hcm hca hcam hcb hcbm hc (by omega) (by omega) (by omega) (by omega) (fun k l x y h=>hih k l x y (by omega)) hroom);clear hroom hra hrb ha hbb hoa hob hb hf hih hc hne_a hne_b;go_enter Tryz.func182,Tryz.ntmps182;go_wp2_with fail
   refine CH.out.mono ?_;rintro e w' ⟨rfl,rfl⟩;go_wp2_with fail
   refine C.out.mono ?_;rintro e w' ⟨rfl,hrest⟩;have HRest:=hid hrest;clear hrest;go_wp2;exact bodyPost_end (v:=.tuple #[]) (results_none rfl _ _ _) rfl ⟨rfl,HRest.out⟩
theorem addProd_all (s:Nat):∀n m ca cb,n+m≤s→s≤2199023255552→n≤ca→m≤cb→ca≤9223372036854775807→cb≤9223372036854775807→AddProdC n m ca cb:=by
 induction s with
 | zero=>intro n m ca cb h _ _ _ _ _;exact (addProd_small n m (by omega)).at ca cb
 | succ s ih =>
  intro n m ca cb h hs h1 h2 h3 h4;by_cases hsm:n<40∨m<40
  ·exact (addProd_small n m hsm).at ca cb
  ·exact addProd_big n m ca cb (by omega) (by omega) h1 h2 h3 h4 (by omega) (by omega) (fun k l x y hk=>ih k l x y (by omega) (by omega))
set_option maxHeartbeats 1000000 in
theorem mul_c (ao bo:Option Addr) (n m ca cb:Nat) (fa fb:Nat→Int) (w:World) (hn:n≤1099511627776) (hm:m≤1099511627776) (hca:n≤ca) (hcb:m≤cb) (hcam:ca≤9223372036854775807) (hcbm:cb≤9223372036854775807) (hra:Rd .u64 w ao n fa) (hrb:Rd .u64 w bo m fb) (ha:Lm fa n) (hb:Lm fb m) :
  Calls Tryz.prog 156 #[.slice ao n ca,.slice bo m cb] w fun e w'=>∃ao' k cap' f',e=.returned (.slice ao' k cap')∧Res (n+m) w w' ao' k cap' f'∧vf f' k=vf fa n*vf fb m:=by
 have c:=product_c ao bo n m ca cb fa fb w (addProd_all (n+m) n m ca cb (Nat.le_refl _) (by omega) hca hcb hcam hcbm) (by omega) (by omega) hra hrb ha hb;have C:=hid c;clear c ha hb hra hrb;go_enter Tryz.func156,Tryz.ntmps156;go_wp2_with fail
 refine C.out.mono ?_;rintro e w1 ⟨rfl,hbel,f1,hb1,hl1,hv1⟩;have HV1:=hid hv1;clear hv1;go_wp2_with fail
 refine (trim_res w.heap.size (n+m) (n+m) f1 w w1 hbel (Nat.le_refl _) hb1 (Nat.le_refl _) (by omega) hl1).mono ?_;rintro e w2 ⟨rfl,ao',k,cap',rfl,hres,hkn,hv⟩;have HV:=hid hv;clear hv;go_wp2;go_ret;exact ⟨ao',k,cap',f1,rfl,hres,by rw [HV.out];exact HV1.out⟩
set_option maxHeartbeats 800000 in
theorem addWord_g (g o n cap N:Nat) (f:Nat→Int) (w0:Int) (w:World) (hb:Blk .u64 145 w g N f) (hf:Lm f N) (ho:o+n≤N) (hm:N≤140737488355328) (h0:0≤w0) (h1:w0<18446744073709551616) :
  Calls Tryz.prog 205 #[.slice (some ⟨g,o,none⟩) n cap,.int .u64 w0] w fun e w'=>e=.returned (.tuple #[])∧Only g w w' ∧
   ∃f' c,Blk .u64 145 w' g N f'∧Lm f' N∧(∀j,j<o∨o+n≤j→f' j=f j)∧0≤c∧vf (sh f' o) n+c*pw n=vf (sh f o) n+w0:=by
 go_enter Tryz.func205,Tryz.ntmps205;go_wp2;go_loopw [1,7] (fun c t wr=>∃(k:Nat) (cc:Int) (f':Nat→Int),k≤n∧t=.int .i64 k∧c=.int .u64 cc∧0≤cc∧cc<18446744073709551616∧Only g w wr∧Blk .u64 145 wr g N f'∧Hid (Lm f' N)∧Hid (∀j,j<o∨o+k≤j→f' j=f j) ∧
   Hid (vf (sh f' o) k+cc*pw k=vf (sh f o) k+vf (fun _=>0) k+w0)) (fun _ t _=>n-(intOf t).toNat)
 case atStart=>exact ⟨0,w0,f,by omega,rfl,rfl,h0,h1,Only.refl _ _,hb,hf,fun _ _=>rfl,by simp [Hid,vf,pw]⟩
 case round =>
  obtain ⟨k,cc,f',hk,rfl,rfl,c0,c1,hon,hbl,HL,HE,HV⟩:=hrel;have z0:∀i,vf (fun _=>0) i=0:=fun i=>vf_zero (fun _ _=>rfl)
  have Z0:=hid z0;clear z0;by_cases hlt:k<n
  ·by_cases hc:cc=0
   ·subst hc;go_wp2;refine bodyPost_ret (v:=.tuple #[]) (results_none rfl _ _ _) rfl ⟨rfl,hon,f',0,hbl,HL.out,fun j hj=>HE.out j (by omega),by omega,?_⟩;have hv:=HV.out;obtain ⟨d,rfl⟩:=Nat.exists_eq_add_of_le (show k≤n by omega);rw [vf_split,vf_split (sh f o),sh_sh,sh_sh,vf_congr (f:=sh f' (o+k)) (g:=sh f (o+k)) (fun j hj=>HE.out _ (by omega))];rw [Z0.out] at hv;omega
   ·have hc1:(cc==0)=false:=by simp [hc]
    obtain ⟨x,hx⟩:∃x,f' (o+k)=x:=⟨_,rfl⟩;have hcell:wr.cell? ⟨g,o+k,none⟩=some (.int .u64 x):=by rw [←hx];exact hbl.cell (by omega)
    have hfz:=hbl.frozen (o+k);have hx01:=HL.out (o+k) (by omega);rw [hx] at hx01;obtain ⟨x0,x1⟩:=hx01;have HX:=hid hx;clear hx;go_wp2_with (simp only [add64_0 x cc x0 c0])
    go_roundw
    case rel =>
     refine ⟨k+1,_,upd f' (o+k) ((x+cc)%18446744073709551616),by omega,by go_num,rfl,by omega,by omega,hon.setCell _ _ _,hbl.set _ _,HL.out.upd (by omega),?_,?_⟩
     ·intro j hj;rw [upd_other _ _ _ _ (by omega)];exact HE.out j (by omega)
     ·have:=carry_step (y:=0) HV.out (HE.out _ (by omega)) rfl;rw [HX.out] at this;simpa [Hid] using this
    case measure=>simp [intOf];omega
  ·have hkn:k=n:=by omega
   subst hkn;go_wp2;refine bodyPost_end (v:=.tuple #[]) (results_none rfl _ _ _) rfl ⟨rfl,hon,f',cc,hbl,HL.out,HE.out,c0,?_⟩;have hv:=HV.out;rw [Z0.out] at hv;omega
set_option maxHeartbeats 1000000 in
theorem addTo_g (g o n cap N:Nat) (f:Nat→Int) (bo:Option Addr) (m cb:Nat) (h:Nat→Int) (w:World) (hb:Blk .u64 145 w g N f) (hf:Lm f N) (ho:o+n≤N) (hm:N≤140737488355328)
  (hr:Rd .u64 w bo m h) (hh:Lm h m) (hoff:0<m→Off bo g) (hmn:m<n) (hcap:n≤cap) (hcm:cap≤140737488355328) :
  Calls Tryz.prog 199 #[.slice (some ⟨g,o,none⟩) n cap,.slice bo m cb] w fun e w'=>e=.returned (.tuple #[])∧Only g w w' ∧
   ∃f' c,Blk .u64 145 w' g N f'∧Lm f' N∧(∀j,j<o∨o+n≤j→f' j=f j)∧0≤c∧vf (sh f' o) n+c*pw n=vf (sh f o) n+vf h m:=by
 have HH:=(show Hid (Lm h m) from hh);have HRd:=(show Hid (Rd .u64 w bo m h) from hr);clear hh hr;go_enter Tryz.func199,Tryz.ntmps199;go_wp2;go_loopw [4,8] (fun c t wr=>∃(k:Nat) (cc:Int) (f':Nat→Int),k≤m∧t=.int .i64 k∧c=.int .u64 cc∧0≤cc∧cc≤1∧Only g w wr∧Blk .u64 145 wr g N f'∧Hid (Lm f' N)∧Hid (∀j,j<o∨o+k≤j→f' j=f j) ∧
   Hid (vf (sh f' o) k+cc*pw k=vf (sh f o) k+vf h k+0)) (fun _ t _=>m-(intOf t).toNat)
 case atStart=>exact ⟨0,0,f,by omega,rfl,rfl,by omega,by omega,Only.refl _ _,hb,hf,fun _ _=>rfl,by simp [Hid,vf,pw]⟩
 case round =>
  obtain ⟨k,cc,f',hk,rfl,rfl,c0,c1,hon,hbl,HL,HE,HV⟩:=hrel;by_cases hlt:k<m
  ·have hr:=HRd.out;obtain ⟨b,ob,rfl⟩:=hr.at (by omega);obtain ⟨x,hx⟩:∃x,f' (o+k)=x:=⟨_,rfl⟩;obtain ⟨y,hy⟩:∃y,h k=y:=⟨_,rfl⟩;have hcell:wr.cell? ⟨g,o+k,none⟩=some (.int .u64 x):=by rw [←hx];exact hbl.cell (by omega)
   have hcelb:wr.cell? ⟨b,ob+k,none⟩=some (.int .u64 y):=by rw [←hy];exact (hr.only hon (hoff (by omega))).cell hlt
   have hfz:=hbl.frozen (o+k);have hx01:=HL.out (o+k) (by omega);have hy01:=HH.out k hlt;rw [hx] at hx01;rw [hy] at hy01;obtain ⟨x0,x1⟩:=hx01;obtain ⟨y0,y1⟩:=hy01;have HX:=hid hx;have HY:=hid hy;clear hx hy hr;have hadd:=fun w=>add64 x y cc x0 y0 c0 c1 w
   go_wp2
   go_region
   all_goals
    go_wp2;go_roundw
    case rel =>
     refine ⟨k+1,_,upd f' (o+k) ((x+y+cc)%18446744073709551616),by omega,by go_num,rfl,by omega,by omega,?_,?_,HL.out.upd (by omega),?_,?_⟩
     ·exact (hon.setCell _ _ _).drew
     ·exact (hbl.set _ _).drew
     ·intro j hj;rw [upd_other _ _ _ _ (by omega)];exact HE.out j (by omega)
     ·have:=carry_step (y:=y) HV.out (HE.out _ (by omega)) HY.out;rw [HX.out] at this;exact this
    case measure=>simp [intOf];omega
  ·have hkm:k=m:=by omega
   subst hkm;obtain ⟨d,rfl⟩:=Nat.exists_eq_add_of_le (Nat.le_of_lt hmn);have HS:=hid (show ∀j,j<d→sh f' (o+k) j=sh f (o+k) j from fun j hj=>HE.out _ (by omega));have hne:¬(k=cap):=by omega
   go_wp2_with fail
   refine (addWord_g g (o+k) d (cap-k) N f' cc wr hbl HL.out (by omega) hm c0 (by omega)).mono ?_;rintro e w' ⟨rfl,hon2,f2,c2,hb2,hl2,he2,hc2,hv2⟩;have HV2:=hid hv2;clear hv2;go_wp2;refine bodyPost_end (v:=.tuple #[]) (results_none rfl _ _ _) rfl ⟨rfl,hon.trans hon2,f2,c2,hb2,hl2,fun j hj=>(he2 j (by omega)).trans (HE.out j (by omega)),hc2,?_⟩;have hv:=HV.out;have hv2:=HV2.out;rw [vf_split,vf_split (sh f o),sh_sh,sh_sh,pw_add,vf_congr (f:=sh f2 o) (g:=sh f' o) (n:=k) (fun j hj=>he2 _ (by omega))];rw [vf_congr HS.out] at hv2;have e1:(vf (sh f2 (o+k)) d+c2*pw d)*pw k=(vf (sh f (o+k)) d+cc)*pw k:=by rw [hv2]
   rw [Int.add_mul,Int.add_mul,Int.mul_assoc c2,Int.mul_comm (pw d)] at e1;omega
theorem mulsub_step {f f' G:Nat→Int} {o k:Nat} {ov wd x y hi l d b:Int} (HV:vf (sh f' o) k+vf G k*wd=vf (sh f o) k+ov*pw k) (hE:f' (o+k)=f (o+k)) (hx:f' (o+k)=x) (hy:G k=y) (h1:y*wd+ov=hi*18446744073709551616+l) (h2:d=x-l+b*18446744073709551616) :
  vf (sh (upd f' (o+k) d) o) (k+1)+vf G (k+1)*wd=vf (sh f o) (k+1)+(hi+b)*pw (k+1):=by
 have e1:vf (sh (upd f' (o+k) d) o) k=vf (sh f' o) k:=vf_congr (fun j hj=>upd_other _ _ _ _ (by omega));rw [vf_succ,vf_succ,vf_succ,e1,pw_succ,sh_at,sh_at,upd_same,hy,←hE,hx,h2]
 grind
set_option maxHeartbeats 1000000 in
theorem mulSubFrom_c (g o n cap N:Nat) (f:Nat→Int) (bo:Option Addr) (m cb:Nat) (h:Nat→Int) (wd:Int) (w:World) (hb:Blk .u64 145 w g N f) (hf:Lm f N) (ho:o+n≤N)
  (hr:Rd .u64 w bo m h) (hh:Lm h m) (hoff:0<m→Off bo g) (hmn:m≤n) (hcap:n≤cap) (hcm:cap≤140737488355328) (d0:0≤wd) (d1:wd<18446744073709551616) :
  Calls Tryz.prog 208 #[.slice (some ⟨g,o,none⟩) n cap,.slice bo m cb,.int .u64 wd] w fun e w'=>∃ov,e=.returned (.int .u64 ov)∧0≤ov∧ov<18446744073709551616∧Only g w w' ∧
   ∃f',Blk .u64 145 w' g N f'∧Lm f' N∧(∀j,j<o∨o+m≤j→f' j=f j)∧vf (sh f' o) m+vf h m*wd=vf (sh f o) m+ov*pw m:=by
 have HH:=hid hh;have HRd:=hid hr;clear hh hr;go_enter Tryz.func208,Tryz.ntmps208;go_wp2;go_loopw [7,18] (fun c t wr=>∃(k:Nat) (ov:Int) (f':Nat→Int),k≤m∧t=.int .i64 k∧c=.int .u64 ov∧0≤ov∧ov<18446744073709551616∧Only g w wr∧Blk .u64 145 wr g N f'∧Hid (Lm f' N)∧Hid (∀j,j<o∨o+k≤j→f' j=f j) ∧
   Hid (vf (sh f' o) k+vf h k*wd=vf (sh f o) k+ov*pw k)) (fun _ t _=>m-(intOf t).toNat)
 case atStart=>exact ⟨0,0,f,by omega,rfl,rfl,by omega,by omega,Only.refl _ _,hb,hf,fun _ _=>rfl,by simp [Hid,vf,pw]⟩
 case round =>
  obtain ⟨k,ov,f',hk,rfl,rfl,v0,v1,hon,hbl,HL,HE,HV⟩:=hrel;by_cases hlt:k<m
  ·have hr:=HRd.out;obtain ⟨b,ob,rfl⟩:=hr.at (by omega);obtain ⟨x,hx⟩:∃x,f' (o+k)=x:=⟨_,rfl⟩;obtain ⟨y,hy⟩:∃y,h k=y:=⟨_,rfl⟩;have hcell:wr.cell? ⟨g,o+k,none⟩=some (.int .u64 x):=by rw [←hx];exact hbl.cell (by omega)
   have hcelb:wr.cell? ⟨b,ob+k,none⟩=some (.int .u64 y):=by rw [←hy];exact (hr.only hon (hoff (by omega))).cell hlt
   have hfz:=hbl.frozen (o+k);have hx01:=HL.out (o+k) (by omega);have hy01:=HH.out k hlt;rw [hx] at hx01;rw [hy] at hy01;obtain ⟨x0,x1⟩:=hx01;obtain ⟨y0,y1⟩:=hy01;have HX:=hid hx;have HY:=hid hy;clear hx hy hr;have c1:=fun w=>mulAdd_c y wd ov w y0 y1 d0 d1 v0 v1
   have hbd:=prod_bounds y0 y1 d0 d1;obtain ⟨hi,hhi⟩:∃hi,(y*wd+ov)/18446744073709551616=hi:=⟨_,rfl⟩;obtain ⟨l,hl⟩:∃l,(y*wd+ov)%18446744073709551616=l:=⟨_,rfl⟩;rw [hhi,hl] at c1;have hP:y*wd+ov=hi*18446744073709551616+l:=by omega
   have i0:0≤hi:=by omega
   have i1:hi+bor x l<18446744073709551616:=by have:=bor_01 x l;unfold bor;split <;> omega
   have l0:0≤l:=by omega
   have l1:l<18446744073709551616:=by omega
   obtain ⟨bb,hbb⟩:∃bb,bor x l=bb:=⟨_,rfl⟩;have bb0:0≤bb:=by rw [←hbb];exact (bor_01 _ _).1
   have bb1:bb≤1:=by rw [←hbb];exact (bor_01 _ _).2
   have hd:(x-l)%18446744073709551616=x-l+bb*18446744073709551616:=by
    rw [←hbb];unfold bor;split <;> omega
   have hsub:=fun w=>sub64_0 x l x0 l0 l1 w
   simp only [hbb] at hsub;obtain ⟨dd,hdd⟩:∃dd,(x-l)%18446744073709551616=dd:=⟨_,rfl⟩;rw [hdd] at hd;rw [hbb] at i1;simp only [hdd] at hsub;have dd0:0≤dd∧dd<18446744073709551616:=by omega
   have C1:=hid c1;have HP:=hid hP;have HD:=hid hd
   clear c1 hP hbd hhi hl hd hdd hbb;go_wp2_with fail
   refine (C1.out _).mono ?_;rintro e wx ⟨rfl,rfl⟩;go_wp2;go_roundw
   case rel =>
    refine ⟨k+1,hi+bb,upd f' (o+k) dd,by omega,by go_num,rfl,by omega,by omega,hon.setCell _ _ _,hbl.set _ _,HL.out.upd dd0,?_,?_⟩
    ·intro j hj;rw [upd_other _ _ _ _ (by omega)];exact HE.out j (by omega)
    ·exact mulsub_step HV.out (HE.out _ (by omega)) HX.out HY.out HP.out HD.out
   case measure=>simp [intOf];omega
  ·have hkm:k=m:=by omega
   subst hkm;go_wp2;go_ret;exact ⟨ov,rfl,v0,v1,hon,f',hbl,HL.out,HE.out,HV.out⟩
structure Gk (X u0 v1 v0 t r:Int):Prop where
 eq:t*v1+r=X
 up:t=18446744073709551615∨X*18446744073709551616+u0<(t+1)*(v1*18446744073709551616+v0)
theorem gk_mul {X u0 v1 v0 t r:Int} (h:Gk X u0 v1 v0 t r):t*(v1*18446744073709551616+v0)=(X-r)*18446744073709551616+t*v0:=by
 have:=h.eq;have e:t*v1=X-r:=by omega
 rw [Int.mul_add,←Int.mul_assoc,e]
theorem gk_fit {X u0 v1 v0 t r:Int} (h:Gk X u0 v1 v0 t r) (hl:t*v0≤r*18446744073709551616+u0):t*(v1*18446744073709551616+v0)≤X*18446744073709551616+u0:=by
 rw [gk_mul h];omega
theorem gk_big {X u0 v1 v0 t r:Int} (h:Gk X u0 v1 v0 t r) (t1:t<18446744073709551616) (v00:0≤v0) (v01:v0<18446744073709551616) (u00:0≤u0) (hr:18446744073709551616≤r):t*(v1*18446744073709551616+v0)≤X*18446744073709551616+u0:=by
 refine gk_fit h ?_;have:t*v0≤18446744073709551616*v0:=Int.mul_le_mul_of_nonneg_right (by omega) v00;omega
theorem gk_pos {u0 v0 t r:Int} (r0:0≤r) (u00:0≤u0) (v00:0≤v0) (hl:r*18446744073709551616+u0<t*v0):0<t:=by
 apply Int.lt_of_not_ge;intro h;have:t*v0≤0*v0:=Int.mul_le_mul_of_nonneg_right h v00;omega
theorem gk_step {X u0 v1 v0 t r:Int} (h:Gk X u0 v1 v0 (t+1) r) (hl:r*18446744073709551616+u0<(t+1)*v0):Gk X u0 v1 v0 t (r+v1):=by
 refine ⟨?_,.inr ?_⟩
 ·have:=h.eq;rw [Int.add_mul] at this;omega
 ·rw [gk_mul h];omega
theorem gk_first {u2 u1 u0 v1 v0:Int} (a0:0≤u2) (a1:u2<v1) (b0:0≤u1) (b1:u1<18446744073709551616) (_c0:0≤u0) (c1:u0<18446744073709551616) (d0:0≤v0) :
  Gk (u2*18446744073709551616+u1) u0 v1 v0 ((u2*18446744073709551616+u1)/v1) ((u2*18446744073709551616+u1)%v1)∧0≤(u2*18446744073709551616+u1)/v1∧(u2*18446744073709551616+u1)/v1<18446744073709551616∧0≤(u2*18446744073709551616+u1)%v1∧(u2*18446744073709551616+u1)%v1<v1:=by
 have hv:0<v1:=by omega
 obtain ⟨X,hX⟩:∃X,u2*18446744073709551616+u1=X:=⟨_,rfl⟩;rw [hX];have e1:=Int.mul_ediv_add_emod X v1;have e2:=Int.emod_nonneg X (show v1≠0 by omega);have e3:=Int.emod_lt_of_pos X hv;have e4:0≤X/v1:=Int.ediv_nonneg (by omega) (by omega);have e5:X/v1<18446744073709551616:=Int.ediv_lt_of_lt_mul hv (by
  have:u2+1≤v1:=by omega
  have:=Int.mul_le_mul_of_nonneg_left this (show (0:Int)≤18446744073709551616 by decide);omega)
 refine ⟨⟨by rw [Int.mul_comm];exact e1,.inr ?_⟩,e4,e5,e2,e3⟩;have e6:(X/v1+1)*v1=v1*(X/v1)+v1:=by rw [Int.add_mul,Int.mul_comm];omega
 have e7:0≤(X/v1+1)*v0:=Int.mul_nonneg (by omega) d0;rw [Int.mul_add,←Int.mul_assoc,e6];omega
set_option maxRecDepth 100000 in
set_option maxHeartbeats 4000000 in
theorem guess_c (u2 u1 u0 v1 v0:Int) (w:World) (a0:0≤u2) (a1:u2≤v1) (b0:0≤u1) (b1:u1<18446744073709551616) (c0:0≤u0) (c1:u0<18446744073709551616) (d0:0≤v0) (d1:v0<18446744073709551616) (e0:0<v1) (e1:v1<18446744073709551616) :
  Calls Tryz.prog 207 #[.int .u64 u2,.int .u64 u1,.int .u64 u0,.int .u64 v1,.int .u64 v0] w fun e w'=>(∃q,w'=w.drewN q)∧∃t,e=.returned (.int .u64 t)∧0≤t∧t<18446744073709551616 ∧
   t*(v1*18446744073709551616+v0)≤(u2*18446744073709551616+u1)*18446744073709551616+u0∧(t=18446744073709551615∨(u2*18446744073709551616+u1)*18446744073709551616+u0<(t+1)*(v1*18446744073709551616+v0)):=by
 by_cases hlt:u2<v1
 ·obtain ⟨g1,g2,g3,g4,g5⟩:=gk_first (u0:=u0) (v0:=v0) a0 hlt b0 b1 c0 c1 d0;have CD:=hid (div64_c u2 u1 v1 w a0 hlt e1 b0 b1);obtain ⟨X,hX⟩:∃X,u2*18446744073709551616+u1=X:=⟨_,rfl⟩;rw [hX] at g1 g2 g3 g4 g5 CD ⊢;obtain ⟨t0,ht0⟩:∃t0,X/v1=t0:=⟨_,rfl⟩;obtain ⟨r0,hr0⟩:∃r0,X%v1=r0:=⟨_,rfl⟩;rw [ht0,hr0] at g1 CD;rw [ht0] at g2 g3;rw [hr0] at g4 g5;have G:=hid g1;clear g1 hX ht0 hr0;go_enter Tryz.func207,Tryz.ntmps207;go_wp2_with fail
  refine CD.out.mono ?_;rintro e w1 ⟨rfl,q,rfl⟩;go_wp2
  go_loop [11,12,13] (fun c d e=>∃t r k:Int,c=.int .u64 t∧d=.int .u64 r∧e=.int .u64 k∧0≤t∧t<18446744073709551616∧0≤r∧r<18446744073709551616∧0≤k∧k≤1∧Hid (Gk X u0 v1 v0 t (r+k*18446744073709551616))) (fun c _ _=>(intOf c).toNat)
  case atStart=>exact ⟨t0,r0,0,rfl,rfl,rfl,g2,g3,g4,by omega,by omega,by omega,by have:=G.out;simpa [Hid] using this⟩
  case round =>
   clear G g2 g3 g4 g5;obtain ⟨t,r,k,rfl,rfl,rfl,t0a,t0b,r0a,r0b,k0,k1,G⟩:=hrel;by_cases hk:k=0
   ·subst hk;have G2:=G.out;rw [show r+0*18446744073709551616=r by omega] at G2;have GG:=hid G2;clear G2 G;have c1:=fun W=>mul64_c t v0 W t0a t0b d0 d1
    have hbd:=prod_bounds t0a t0b d0 d1;obtain ⟨P,hP⟩:∃P,t*v0=P:=⟨_,rfl⟩;rw [hP] at c1 hbd;obtain ⟨hi,hhi⟩:∃hi,P/18446744073709551616=hi:=⟨_,rfl⟩;obtain ⟨lo,hlo⟩:∃lo,P%18446744073709551616=lo:=⟨_,rfl⟩;rw [hhi,hlo] at c1;have hPP:P=hi*18446744073709551616+lo:=by omega
    have i0:0≤hi:=by omega
    have i1:hi<18446744073709551616:=by omega
    have l0:0≤lo:=by omega
    have l1:lo<18446744073709551616:=by omega
    have C1:=hid c1;have HP:=hid hP;have HPP:=hid hPP
    clear c1 hP hPP hhi hlo hbd;by_cases hfit:P≤r*18446744073709551616+u0
    ·have FIT:=hid (gk_fit GG.out (by rw [HP.out];exact hfit));have UP:=hid GG.out.up;by_cases hhr:hi<r
     ·clear hfit;go_wp2_with fail
      refine (C1.out _).mono ?_;rintro e wx ⟨rfl,rfl⟩;go_wp2;go_ret;exact ⟨⟨q,rfl⟩,t,rfl,t0a,t0b,FIT.out,UP.out⟩
     ·have hhe:hi=r:=by have:=HPP.out;omega
      have hlu:lo≤u0:=by have:=HPP.out;omega
      subst hhe;clear hfit;have hee:(hi==hi)=true:=by simp
      go_wp2_with fail
      refine (C1.out _).mono ?_;rintro e wx ⟨rfl,rfl⟩;go_wp2;go_ret;exact ⟨⟨q,rfl⟩,t,rfl,t0a,t0b,FIT.out,UP.out⟩
    ·have hgt:r*18446744073709551616+u0<t*v0:=by rw [HP.out];omega
     have htp:=gk_pos r0a c0 d0 hgt;obtain ⟨s,rfl⟩:∃s,t=s+1:=⟨t-1,by omega⟩;have G1:=hid (gk_step GG.out hgt);clear GG hgt;have G3:Hid (Gk X u0 v1 v0 s ((r+v1)%18446744073709551616+(r+v1)/18446744073709551616*18446744073709551616)):=by
      show Gk _ _ _ _ _ _;have:(r+v1)%18446744073709551616+(r+v1)/18446744073709551616*18446744073709551616=r+v1:=by omega
      rw [this];exact G1.out
     clear G1;have hs:s+1-1=s:=by omega
     by_cases hhr:r<hi
     ·have hne:(hi==r)=false:=by simp;omega
      clear hfit;go_wp2_with fail
      refine (C1.out _).mono ?_;rintro e wx ⟨rfl,rfl⟩;go_wp2_with (simp only [add64_0 r v1 r0a (Int.le_of_lt e0)])
      go_round
      case rel=>exact ⟨s,_,_,by go_num,rfl,rfl,by omega,by omega,by omega,by omega,by omega,by omega,G3.out⟩
      case measure=>simp [intOf];omega
     ·have hhe:hi=r:=by have:=HPP.out;omega
      have hlu:¬lo≤u0:=by have:=HPP.out;omega
      subst hhe;clear hfit;have hee:(hi==hi)=true:=by simp
      go_wp2_with fail
      refine (C1.out _).mono ?_;rintro e wx ⟨rfl,rfl⟩;go_wp2_with (simp only [add64_0 hi v1 r0a (Int.le_of_lt e0)])
      go_round
      case rel=>exact ⟨s,_,_,by go_num,rfl,rfl,by omega,by omega,by omega,by omega,by omega,by omega,G3.out⟩
      case measure=>simp [intOf];omega
   ·have hk1:k=1:=by omega
    subst hk1;have BIG:=hid (gk_big G.out t0b d0 d1 c0 (by omega));have UP:=hid G.out.up;go_wp2;go_ret;exact ⟨⟨q,rfl⟩,t,rfl,t0a,t0b,BIG.out,UP.out⟩
 ·obtain rfl:u2=v1:=by omega
  obtain ⟨X,hX⟩:∃X,u2*18446744073709551616+u1=X:=⟨_,rfl⟩;rw [hX];have G:Hid (Gk X u0 u2 v0 18446744073709551615 ((u1+u2)%18446744073709551616+(u1+u2)/18446744073709551616*18446744073709551616)):=by
   show Gk _ _ _ _ _ _;exact ⟨by omega,.inl rfl⟩
  clear hX;go_enter Tryz.func207,Tryz.ntmps207;go_wp2_with (simp only [add64_0 u1 u2 b0 a0])
  go_loop [11,12,13] (fun c d e=>∃t r k:Int,c=.int .u64 t∧d=.int .u64 r∧e=.int .u64 k∧0≤t∧t<18446744073709551616∧0≤r∧r<18446744073709551616∧0≤k∧k≤1∧Hid (Gk X u0 u2 v0 t (r+k*18446744073709551616))) (fun c _ _=>(intOf c).toNat)
  case atStart=>exact ⟨18446744073709551615,_,_,rfl,rfl,rfl,by omega,by omega,by omega,by omega,by omega,by omega,G.out⟩
  case round =>
   clear G;obtain ⟨t,r,k,rfl,rfl,rfl,t0a,t0b,r0a,r0b,k0,k1,G⟩:=hrel;by_cases hk:k=0
   ·subst hk;have G2:=G.out;rw [show r+0*18446744073709551616=r by omega] at G2;have GG:=hid G2;clear G2 G;have c1:=fun W=>mul64_c t v0 W t0a t0b d0 d1
    have hbd:=prod_bounds t0a t0b d0 d1;obtain ⟨P,hP⟩:∃P,t*v0=P:=⟨_,rfl⟩;rw [hP] at c1 hbd;obtain ⟨hi,hhi⟩:∃hi,P/18446744073709551616=hi:=⟨_,rfl⟩;obtain ⟨lo,hlo⟩:∃lo,P%18446744073709551616=lo:=⟨_,rfl⟩;rw [hhi,hlo] at c1;have hPP:P=hi*18446744073709551616+lo:=by omega
    have i0:0≤hi:=by omega
    have i1:hi<18446744073709551616:=by omega
    have l0:0≤lo:=by omega
    have l1:lo<18446744073709551616:=by omega
    have C1:=hid c1;have HP:=hid hP;have HPP:=hid hPP
    clear c1 hP hPP hhi hlo hbd;by_cases hfit:P≤r*18446744073709551616+u0
    ·have FIT:=hid (gk_fit GG.out (by rw [HP.out];exact hfit));have UP:=hid GG.out.up;by_cases hhr:hi<r
     ·clear hfit;go_wp2_with fail
      refine (C1.out _).mono ?_;rintro e wx ⟨rfl,rfl⟩;go_wp2;go_ret;exact ⟨⟨0,rfl⟩,t,rfl,t0a,t0b,FIT.out,UP.out⟩
     ·have hhe:hi=r:=by have:=HPP.out;omega
      have hlu:lo≤u0:=by have:=HPP.out;omega
      subst hhe;clear hfit;have hee:(hi==hi)=true:=by simp
      go_wp2_with fail
      refine (C1.out _).mono ?_;rintro e wx ⟨rfl,rfl⟩;go_wp2;go_ret;exact ⟨⟨0,rfl⟩,t,rfl,t0a,t0b,FIT.out,UP.out⟩
    ·have hgt:r*18446744073709551616+u0<t*v0:=by rw [HP.out];omega
     have htp:=gk_pos r0a c0 d0 hgt;obtain ⟨s,rfl⟩:∃s,t=s+1:=⟨t-1,by omega⟩;have G1:=hid (gk_step GG.out hgt);clear GG hgt;have G3:Hid (Gk X u0 u2 v0 s ((r+u2)%18446744073709551616+(r+u2)/18446744073709551616*18446744073709551616)):=by
      show Gk _ _ _ _ _ _;have:(r+u2)%18446744073709551616+(r+u2)/18446744073709551616*18446744073709551616=r+u2:=by omega
      rw [this];exact G1.out
     clear G1;have hs:s+1-1=s:=by omega
     by_cases hhr:r<hi
     ·have hne:(hi==r)=false:=by simp;omega
      clear hfit;go_wp2_with fail
      refine (C1.out _).mono ?_;rintro e wx ⟨rfl,rfl⟩;go_wp2_with (simp only [add64_0 r u2 r0a (Int.le_of_lt e0)])
      go_round
      case rel=>exact ⟨s,_,_,by go_num,rfl,rfl,by omega,by omega,by omega,by omega,by omega,by omega,G3.out⟩
      case measure=>simp [intOf];omega
     ·have hhe:hi=r:=by have:=HPP.out;omega
      have hlu:¬lo≤u0:=by have:=HPP.out;omega
      subst hhe;clear hfit;have hee:(hi==hi)=true:=by simp
      go_wp2_with fail
      refine (C1.out _).mono ?_;rintro e wx ⟨rfl,rfl⟩;go_wp2_with (simp only [add64_0 hi u2 r0a (Int.le_of_lt e0)])
      go_round
      case rel=>exact ⟨s,_,_,by go_num,rfl,rfl,by omega,by omega,by omega,by omega,by omega,by omega,G3.out⟩
      case measure=>simp [intOf];omega
   ·have hk1:k=1:=by omega
    subst hk1;have BIG:=hid (gk_big G.out t0b d0 d1 c0 (by omega));have UP:=hid G.out.up;go_wp2;go_ret;exact ⟨⟨0,rfl⟩,t,rfl,t0a,t0b,BIG.out,UP.out⟩
def gq (T V:Int):Int:=if T/V≤18446744073709551615 then T/V else 18446744073709551615
theorem gq_of {T V t:Int} (hV:0<V) (t1:t<18446744073709551616) (h1:t*V≤T) (h2:t=18446744073709551615∨T<(t+1)*V):t=gq T V:=by
 have e1:=Int.mul_ediv_add_emod T V;have e2:=Int.emod_nonneg T (show V≠0 by omega);have e3:=Int.emod_lt_of_pos T hV;have le:t≤T/V:=(Int.le_ediv_iff_mul_le hV).2 h1;unfold gq;rcases h2 with rfl | h2
 ·split <;> omega
 ·have:T/V<t+1:=(Int.ediv_lt_iff_lt_mul hV).2 h2;rw [if_pos (by omega)];omega
theorem guess_q (u2 u1 u0 v1 v0:Int) (w:World) (a0:0≤u2) (a1:u2≤v1) (b0:0≤u1) (b1:u1<18446744073709551616) (c0:0≤u0) (c1:u0<18446744073709551616) (d0:0≤v0) (d1:v0<18446744073709551616) (e0:0<v1) (e1:v1<18446744073709551616) :
  Calls Tryz.prog 207 #[.int .u64 u2,.int .u64 u1,.int .u64 u0,.int .u64 v1,.int .u64 v0] w fun e w'=>e=.returned (.int .u64 (gq ((u2*18446744073709551616+u1)*18446744073709551616+u0) (v1*18446744073709551616+v0)))∧∃q,w'=w.drewN q:=by
 refine (guess_c u2 u1 u0 v1 v0 w a0 a1 b0 b1 c0 c1 d0 d1 e0 e1).mono ?_;rintro e w' ⟨hq,t,rfl,t0,t1,h1,h2⟩;refine ⟨?_,hq⟩;rw [←gq_of (by omega) t1 h1 h2]
theorem gq_is {T V:Int} (hT:0≤T) (hV:0<V):0≤gq T V∧gq T V<18446744073709551616∧gq T V*V≤T∧(gq T V=18446744073709551615∨T<(gq T V+1)*V):=by
 have e1:=Int.mul_ediv_add_emod T V;have e2:=Int.emod_nonneg T (show V≠0 by omega);have e3:=Int.emod_lt_of_pos T hV;have e4:0≤T/V:=Int.ediv_nonneg hT (by omega);have e5:T/V*V=V*(T/V):=Int.mul_comm _ _;unfold gq
 split
 ·exact ⟨e4,by omega,by omega,.inr (by rw [Int.add_mul];omega)⟩
 ·refine ⟨by decide,by decide,?_,.inl rfl⟩;have:18446744073709551615*V≤T/V*V:=Int.mul_le_mul_of_nonneg_right (by omega) (by omega);omega
theorem top2 (f:Nat→Int) (m:Nat):vf f (m+2)=vf f m+(f (m+1)*18446744073709551616+f m)*pw m:=by
 rw [vf_succ,vf_succ,pw_succ];grind
theorem top3 (f:Nat→Int) (m:Nat):vf f (m+2+1)=vf f m+((f (m+2)*18446744073709551616+f (m+1))*18446744073709551616+f m)*pw m:=by
 rw [vf_succ,vf_succ,vf_succ,pw_succ (m+1),pw_succ m];grind
theorem div_range {lu lv T V2 t p U V:Int} (hU:U=lu+T*p) (hV:V=lv+V2*p) (a0:0≤lu) (a1:lu<p) (b0:0≤lv) (b1:lv<p) (hUV:U<V*18446744073709551616) (hV2:18446744073709551616≤V2) (t0:0≤t) (t1:t<18446744073709551616) (h1:t*V2≤T) (h2:t=18446744073709551615∨T<(t+1)*V2) :
  U<(t+1)*V∧(t-1)*V≤U:=by
 have hp:0<p:=by omega
 constructor
 ·rcases h2 with rfl | h2
  ·omega
  ·have e1:(T+1)*p≤(t+1)*V2*p:=Int.mul_le_mul_of_nonneg_right (by omega) (Int.le_of_lt hp);have e2:0≤(t+1)*lv:=Int.mul_nonneg (by omega) b0;rw [hV,Int.mul_add,←Int.mul_assoc,hU];rw [Int.add_mul,Int.one_mul] at e1;omega
 ·have hT:0≤T:=Int.le_trans (Int.mul_nonneg t0 (by omega)) h1;have hTp:0≤T*p:=Int.mul_nonneg hT (Int.le_of_lt hp);by_cases h0:t=0
  ·subst h0;have:0≤V2*p:=Int.mul_nonneg (by omega) (Int.le_of_lt hp);omega
  ·have e1:(t-1)*V≤(t-1)*((V2+1)*p):=Int.mul_le_mul_of_nonneg_left (by rw [Int.add_mul,Int.one_mul];omega) (by omega);have e2:(t-1)*(V2+1)=t*V2+t-V2-1:=by grind
   have e3:(t-1)*(V2+1)*p≤T*p:=Int.mul_le_mul_of_nonneg_right (by rw [e2];omega) (Int.le_of_lt hp);rw [←Int.mul_assoc] at e1;omega
theorem only_drewN {g:Nat} {a w:World} (h:Only g a w) (q:Nat):Only g a (w.drewN q):=⟨h.os,h.tape,h.output,h.size,h.block⟩
structure Took (g o n N:Nat) (f:Nat→Int) (w w':World) (V t:Int):Prop where
 t0:0≤t
 t1:t<18446744073709551616
 only:Only g w w'
 res:∃f',Blk .u64 145 w' g N f'∧Lm f' N∧(∀j,j<o∨o+(n+1)≤j→f' j=f j)∧vf (sh f' o) (n+1)=vf (sh f o) (n+1)-t*V∧vf (sh f' o) (n+1)<V
set_option maxRecDepth 100000 in
set_option maxHeartbeats 4000000 in
theorem takeOut_c (g o n cap N:Nat) (f:Nat→Int) (b ob cb:Nat) (h:Nat→Int) (w:World) (hb:Blk .u64 145 w g N f) (hf:Lm f N) (ho:o+(n+1)≤N) (hN:N≤17592186044416) (hcap:n+1≤cap) (hcm:cap≤17592186044416)
  (hr:Rd .u64 w (some ⟨b,ob,none⟩) n h) (hh:Lm h n) (hoff:b≠g) (hn2:2≤n) (htop:9223372036854775808≤h (n-1)) (hUV:vf (sh f o) (n+1)<vf h n*18446744073709551616) :
  Calls Tryz.prog 197 #[.slice (some ⟨g,o,none⟩) (n+1) cap,.slice (some ⟨b,ob,none⟩) n cb] w fun e w'=>∃t,e=.returned (.int .u64 t)∧Took g o n N f w w' (vf h n) t:=by
 obtain ⟨m,rfl⟩:∃m,n=m+2:=⟨n-2,by omega⟩;obtain ⟨x2,hx2⟩:∃x,f (o+(m+2))=x:=⟨_,rfl⟩;obtain ⟨x1,hx1⟩:∃x,f (o+(m+1))=x:=⟨_,rfl⟩;obtain ⟨x0,hx0⟩:∃x,f (o+m)=x:=⟨_,rfl⟩;obtain ⟨y1,hy1⟩:∃x,h (m+1)=x:=⟨_,rfl⟩;obtain ⟨y0,hy0⟩:∃x,h m=x:=⟨_,rfl⟩;have hcx2:w.cell? ⟨g,o+(m+2),none⟩=some (.int .u64 x2):=by rw [←hx2];exact hb.cell (by omega)
 have hcx1:w.cell? ⟨g,o+(m+1),none⟩=some (.int .u64 x1):=by rw [←hx1];exact hb.cell (by omega)
 have hcx0:w.cell? ⟨g,o+m,none⟩=some (.int .u64 x0):=by rw [←hx0];exact hb.cell (by omega)
 have hcy1:w.cell? ⟨b,ob+(m+1),none⟩=some (.int .u64 y1):=by rw [←hy1];exact hr.cell (by omega)
 have hcy0:w.cell? ⟨b,ob+m,none⟩=some (.int .u64 y0):=by rw [←hy0];exact hr.cell (by omega)
 have bx2:=hf (o+(m+2)) (by omega);have bx1:=hf (o+(m+1)) (by omega);have bx0:=hf (o+m) (by omega);have by1:=hh (m+1) (by omega);have by0:=hh m (by omega);rw [hx2] at bx2;rw [hx1] at bx1;rw [hx0] at bx0;rw [hy1] at by1;rw [hy0] at by0
 have htop':9223372036854775808≤y1:=by rw [←hy1];exact htop
 have hU:=top3 (sh f o) m;have hV:=top2 h m;simp only [sh_at] at hU;rw [hx2,hx1,hx0] at hU;rw [hy1,hy0] at hV;have lu0:=vf_nonneg (hf.sh (o:=o) (m:=m) (by omega));have lu1:=vf_lt (hf.sh (o:=o) (m:=m) (by omega));have lv0:=vf_nonneg (hh.mono (m:=m) (by omega));have lv1:=vf_lt (hh.mono (m:=m) (by omega));have hV0:=vf_nonneg hh;have hV1:=vf_lt hh;have hx2y1:x2≤y1:=by
  apply Int.le_of_lt_add_one;have p0:=pw_pos m;have e1:((x2*18446744073709551616+x1)*18446744073709551616+x0)*pw m<((y1+1)*18446744073709551616*18446744073709551616)*pw m:=by
   have a2:(y1*18446744073709551616+y0+1)*pw m≤((y1+1)*18446744073709551616)*pw m:=Int.mul_le_mul_of_nonneg_right (by omega) (Int.le_of_lt p0);rw [Int.add_mul _ 1,Int.one_mul] at a2;have a3:((y1+1)*18446744073709551616*18446744073709551616)*pw m=((y1+1)*18446744073709551616)*pw m*18446744073709551616:=by grind
   rw [a3];omega
  have e2:=Int.lt_of_mul_lt_mul_right e1 (Int.le_of_lt p0);omega
 obtain ⟨T,hT⟩:∃T,(x2*18446744073709551616+x1)*18446744073709551616+x0=T:=⟨_,rfl⟩;obtain ⟨V2,hV2⟩:∃V2,y1*18446744073709551616+y0=V2:=⟨_,rfl⟩;have cg:=fun W=>guess_q x2 x1 x0 y1 y0 W bx2.1 hx2y1 bx1.1 bx1.2 bx0.1 bx0.2 by0.1 by0.2 (by omega) by1.2
 have hgi:=gq_is (T:=T) (V:=V2) (by omega) (by omega);rw [hT] at hU cg;rw [hV2] at hV cg;obtain ⟨t,ht⟩:∃t,gq T V2=t:=⟨_,rfl⟩;rw [ht] at cg hgi;obtain ⟨t0,t1,ht1,ht2⟩:=hgi;have hrange:=div_range hU hV lu0 lu1 lv0 lv1 hUV (by omega) t0 t1 ht1 ht2;have CG:=hid cg;have RNG:=hid hrange;have HB:=hid hb;have HF:=hid hf;have HR:=hid hr;have HH:=hid hh;have HX2:=hid hx2
 have hfz:=hb.frozen (o+(m+2));have BV0:=hid hV0;have BV1:=hid hV1
 clear cg hrange hb hf hr hh hT hV2 ht ht1 ht2 hU hV lu0 lu1 lv0 lv1 hUV hx2 hx1 hx0 hy1 hy0 htop hV0 hV1;have i1:((m+2:Nat):Int)<((m+2+1:Nat):Int):=by omega
 obtain ⟨bx2a,bx2b⟩:=bx2;go_enter Tryz.func197,Tryz.ntmps197;go_wp2
 go_quiet ((go_at_call 207;exact (CG.out _).mono (fun _ _ h=>⟨h.1,(by obtain ⟨q,hq⟩:=h.2;exact ⟨_,by rw [hq,World.drewN_drewN]⟩)⟩)))
 go_wp2_with fail
 refine (mulSubFrom_c g o (m+2+1) cap N f (some ⟨b,ob,none⟩) (m+2) cb h t (w.drewN _) HB.out HF.out ho HR.out HH.out (fun _=>off_some hoff) (by omega) hcap (by omega) t0 t1).mono ?_;rintro e w1 ⟨ov,rfl,v0,v1,hon1,f1,hb1,hl1,he1,hv1⟩;have HV1:=hid hv1;have hx2':f1 (o+(m+2))=x2:=(he1 _ (by omega)).trans HX2.out;have hcx2':w1.cell? ⟨g,o+(m+2),none⟩=some (.int .u64 x2):=by rw [←hx2'];exact hb1.cell (by omega)
 have hfz1:=hb1.frozen (o+(m+2));have HX2':=hid hx2';have HE1:=hid he1;have HL1:=hid hl1;have HB1:=hid hb1
 clear hv1 hx2' he1 hl1 hb1 hcx2 hcx1 hcx0 hcy1 hcy0 hfz;have n1:=vf_nonneg (HL1.out.sh (o:=o) (m:=m+2) (by omega));have n2:=vf_lt (HL1.out.sh (o:=o) (m:=m+2) (by omega));have N1:=hid n1;have N2:=hid n2
 clear n1 n2;have hUe:vf (sh f o) (m+2+1)=vf (sh f o) (m+2)+x2*pw (m+2):=by rw [vf_succ,sh_at,HX2.out]
 have hmain:vf (sh f1 o) (m+2)+(x2-ov)*pw (m+2)=vf (sh f o) (m+2+1)-t*vf h (m+2):=by
  have:=HV1.out;rw [hUe,Int.sub_mul,Int.mul_comm t];omega
 have HMain:=hid hmain;have U0:=hid (vf_nonneg (HF.out.sh (o:=o) (m:=m+2+1) (by omega)));have PW:=hid (pw_pos (m+2));have hupd:∀z,vf (sh (upd f1 (o+(m+2)) z) o) (m+2+1)=vf (sh f1 o) (m+2)+z*pw (m+2):=fun z=>by
  rw [vf_succ,sh_at,upd_same,vf_congr (f:=sh (upd f1 (o+(m+2)) z) o) (g:=sh f1 o) (fun j hj=>upd_other _ _ _ _ (by omega))]
 have HUpd:=hid hupd;clear hUe hmain hupd CG;by_cases hs:x2<ov
 ·have hneg:vf (sh f o) (m+2+1)-t*vf h (m+2)<0:=by
   rw [←HMain.out];have:=N2.out;have e:(x2-ov)*pw (m+2)≤(-1)*pw (m+2):=Int.mul_le_mul_of_nonneg_right (by omega) (Int.le_of_lt PW.out);omega
  have ht:0<t:=by
   apply Int.lt_of_not_ge;intro h0;obtain rfl:t=0:=by omega
   have:=U0.out;omega
  obtain ⟨s,rfl⟩:∃s,t=s+1:=⟨t-1,by omega⟩;have hs1:s+1-1=s:=by omega
  have hw:IntKind.u64.wrap (x2-ov)=x2-ov+18446744073709551616:=by rw [IntKind.wrap_u64];omega
  have hsb:decide (x2<ov)=true:=by simp [hs]
  have hw2:IntKind.u64.wrap (s+1-1)=s:=by rw [IntKind.wrap_u64];omega
  have HNeg:=hid hneg;clear hneg;go_wp2_with fail
  refine (addTo_g g o (m+2+1) cap N _ (some ⟨b,ob,none⟩) (m+2) cb h _ (HB1.out.set _ _) (HL1.out.upd (by omega)) ho (by omega) ((HR.out.only (only_drewN (Only.refl g w) _) (off_some hoff)).only (hon1.trans ((Only.refl _ _).setCell _ _ _)) (off_some hoff)) HH.out (fun _=>off_some hoff) (by omega) hcap (by omega)).mono ?_;rintro e w2 ⟨rfl,hon2,f3,c,hb3,hl3,he3,hc0,hv3⟩;have HV3:=hid hv3;have HB3:=hid hb3;have HL3:=hid hl3;have HE3:=hid he3
  clear hv3 hb3 hl3 he3;go_wp2;go_ret;have r1:=RNG.out;have r2:=HNeg.out;have a1:=HV3.out;rw [HUpd.out,Int.add_mul (x2-ov),←Int.add_assoc,HMain.out,←pw_succ (m+2)] at a1;rw [show s+1-1=s by omega] at r1;have a2:=vf_nonneg (HL3.out.sh (o:=o) (m:=m+2+1) (by omega));have a3:=vf_lt (HL3.out.sh (o:=o) (m:=m+2+1) (by omega));have a4:(s+1)*vf h (m+2)=s*vf h (m+2)+vf h (m+2):=by rw [Int.add_mul,Int.one_mul]
  have a5:(s+1+1)*vf h (m+2)=s*vf h (m+2)+vf h (m+2)+vf h (m+2):=by rw [Int.add_mul,Int.add_mul,Int.one_mul]
  have a6:pw (m+2)<pw (m+2+1):=by have:=pw_pos (m+2);rw [pw_succ (m+2)];omega
  have a7:=BV1.out;have a8:=pw_pos (m+2+1);have hc1:c=1:=by
   have hc2:c<2:=by
    apply Int.lt_of_not_ge;intro hc
    have:2*pw (m+2+1)≤c*pw (m+2+1):=Int.mul_le_mul_of_nonneg_right hc (Int.le_of_lt a8);omega
   have hc3:c≠0:=by
    rintro rfl;omega
   omega
  subst hc1;refine ⟨s,rfl,by omega,by omega,((only_drewN (Only.refl g w) _).trans hon1).trans (((Only.refl _ _).setCell _ _ _).trans hon2),f3,HB3.out,HL3.out,fun j hj=>?_,by omega,by omega⟩;rw [HE3.out j hj,upd_other _ _ _ _ (by omega),HE1.out j (by omega)]
 ·have hw:IntKind.u64.wrap (x2-ov)=x2-ov:=by rw [IntKind.wrap_u64];omega
  have hsb:decide (x2<ov)=false:=by simp;omega
  go_wp2;go_ret;have r1:=RNG.out;have a0:=HMain.out;have a1:=HUpd.out (x2-ov);have a4:(t+1)*vf h (m+2)=t*vf h (m+2)+vf h (m+2):=by rw [Int.add_mul,Int.one_mul]
  refine ⟨t,rfl,t0,t1,((only_drewN (Only.refl g w) _).trans hon1).trans ((Only.refl _ _).setCell _ _ _),upd f1 (o+(m+2)) (x2-ov),HB1.out.set _ _,HL1.out.upd (by omega),fun j hj=>?_,by omega,by omega⟩;rw [upd_other _ _ _ _ (by omega),HE1.out j (by omega)]
theorem shr_nums (x y s:Int) (x0:0≤x) (x1:x<18446744073709551616) (s0:0≤s) (s1:s≤63) (y0:0≤y) (y1:y<2^(64-s).toNat) :
  ∃L Z H,IntKind.u64.wrap (x*2^(64-s).toNat)=L∧0≤L∧L<18446744073709551616∧bits BinOp.or .u64 y L=Z∧0≤Z∧Z<18446744073709551616∧x/2^s.toNat=H∧0≤H∧H<18446744073709551616∧Hid (H<2^(64-s).toNat)∧Hid (Z=y+x%2^s.toNat*2^(64-s).toNat):=by
 have hPQ:(2:Int)^(64-s).toNat*2^s.toNat=18446744073709551616:=by rw [←Int.pow_add,show (64-s).toNat+s.toNat=64 by omega];rfl
 have p0:(0:Int)<2^(64-s).toNat:=Int.pow_pos (by decide);have q0:(0:Int)<2^s.toNat:=Int.pow_pos (by decide);obtain ⟨c1,c2,c3,c4,c5⟩:=limb_cut x0 x1 hPQ p0 q0;have hP:(2:Int)^(64-s).toNat≤18446744073709551616:=by
  rw [←hPQ];have:=Int.mul_le_mul_of_nonneg_left (show (1:Int)≤2^s.toNat by omega) (Int.le_of_lt p0);omega
 have hL:IntKind.u64.wrap (x*2^(64-s).toNat)=x%2^s.toNat*2^(64-s).toNat:=by rw [IntKind.wrap_u64,c1]
 refine ⟨_,_,_,hL,c4,by omega,?_,?_,?_,rfl,c2,by omega,c3,rfl⟩
 ·rw [or_comm64 y,bits_join .u64 64 (by decide) wraps_u64 (64-s).toNat _ _ c4 (Int.mul_emod_left _ _) (by omega) y0 y1 (by omega),Int.add_comm]
 ·omega
 ·omega
theorem shr_step {D a:Nat→Int} {j:Nat} {P Q x y r:Int} (hv:vf D (j+1)*P+r=vf a (j+1)) (hx:a (j+1)=x) (hy:D j=y) (hPQ:Q*P=18446744073709551616) :
  vf (upd (upd D (j+1) (x/P)) j (y+x%P*Q)) (j+1+1)*P+r=vf a (j+1+1):=by
 have e1:vf (upd (upd D (j+1) (x/P)) j (y+x%P*Q)) j=vf D j:=vf_congr (fun i hi=>by rw [upd_other _ _ _ _ (by omega),upd_other _ _ _ _ (by omega)]);have e2:upd (upd D (j+1) (x/P)) j (y+x%P*Q) (j+1)=x/P:=by rw [upd_other _ _ _ _ (by omega),upd_same]
 rw [vf_succ,vf_succ,e1,e2,upd_same,vf_succ a (j+1),hx,←hv,vf_succ D j,hy,pw_succ,←hPQ];have e4:=Int.mul_ediv_add_emod x P;have e5:x*(Q*P*pw j)=(P*(x/P)+x%P)*(Q*P*pw j):=by rw [e4]
 rw [e5]
 grind
theorem shr_step0 {D a:Nat→Int} {P x:Int} (hx:a 0=x):vf (upd D 0 (x/P)) 1*P+x%P=vf a 1:=by
 have e4:=Int.mul_ediv_add_emod x P;simp only [vf,pw,upd_same,hx,Int.zero_add,Int.mul_one];have:x/P*P=P*(x/P):=Int.mul_comm _ _;omega
set_option maxRecDepth 100000 in
set_option maxHeartbeats 1000000 in
theorem shrBits_c (ao:Option Addr) (n cap:Nat) (s:Int) (f:Nat→Int) (w:World) (hn:n≤17592186044416) (s0:0≤s) (s1:s≤63) (hr:Rd .u64 w ao n f) (hf:Lm f n) :
  Calls Tryz.prog 198 #[.slice ao n cap,.int .i64 s] w fun e w'=>∃ao' m cap' f' r,e=.returned (.slice ao' m cap')∧Res n w w' ao' m cap' f'∧0≤r∧r<2^s.toNat∧vf f' m*2^s.toNat+r=vf f n:=by
 have HF:=hid hf;have HRd:=hid hr;clear hf hr;have P0:Hid ((0:Int)<2^s.toNat):=Int.pow_pos (by decide);have Q0:Hid ((0:Int)<2^(64-s).toNat):=Int.pow_pos (by decide);go_enter Tryz.func198,Tryz.ntmps198;go_wp2_with (at_make;refine wpList_make_blk .u64 w rfl (.tmp 8) (.tmp 8) 22 rfl 145 8 Tryz.underlying22 Tryz.infoU64 .i64 .i64 _ _ n rfl rfl rfl rfl (by omega) (by unfold maxLen;omega) ?_;intro w1 hb1 hbel1)
 go_loopw [12] (fun t wr=>∃(k:Nat) (D:Nat→Int) (r:Int),k≤n∧t=.int .i64 k∧Below w.heap.size w wr∧Blk .u64 145 wr w.heap.size n D∧Hid (Lm D n)∧Hid (0≤r∧r<2^s.toNat)∧Hid (∀j,j+1=k→D j<2^(64-s).toNat)∧Hid (vf D k*2^s.toNat+r=vf f k)) (fun t _=>n-(intOf t).toNat)
 case atStart=>exact ⟨0,fun _=>0,0,by omega,rfl,hbel1,hb1,fun j hj=>⟨Int.le_refl 0,show (0:Int)<18446744073709551616 by decide⟩,⟨Int.le_refl 0,P0.out⟩,fun j hj=>by omega,by simp [Hid,vf]⟩
 case round =>
  clear hb1 hbel1;obtain ⟨k,D,r,hkn,rfl,hbel,hbl,HL,HR,HT,HV⟩:=hrel;by_cases hlt:k<n
  ·have hr:=HRd.out;obtain ⟨b,ob,rfl⟩:=hr.at (by omega);have hbw:b<w.heap.size:=World.block_lt_of_cell? w _ (hr.cell hlt);have hrr:=hid (hr.below hbel (Nat.le_refl _));clear hr;cases k with
   | zero =>
    obtain ⟨x,hx⟩:∃x,f 0=x:=⟨_,rfl⟩;have hcelb:wr.cell? ⟨b,ob,none⟩=some (.int .u64 x):=by rw [←hx];exact hrr.out.cell hlt
    have hcell:=hbl.cell (j:=0) hlt;have hfz:=hbl.frozen 0;obtain ⟨x0,x1⟩:=HF.out 0 hlt;rw [hx] at x0 x1;obtain ⟨L,Z,H,eL,L0,L1,eZ,Z0,Z1,eH,H0,H1,HH,HZ2⟩:=shr_nums x 0 s x0 x1 s0 s1 (Int.le_refl _) Q0.out;have HX:=hid hx;clear hx;go_wp2;go_roundw
    case rel =>
     refine ⟨1,_,x%2^s.toNat,by omega,by go_num,below_only hbel ((Only.refl _ _).setCell _ _ _) (Nat.le_refl _) hbel.size,hbl.set 0 H,HL.out.upd ⟨H0,H1⟩,⟨Int.emod_nonneg _ (by have:=P0.out;omega),Int.emod_lt_of_pos _ P0.out⟩,fun j hj=>?_,?_⟩
     ·obtain rfl:j=0:=by omega
      rw [upd_same];exact HH.out
     ·rw [←eH];exact shr_step0 HX.out
    case measure=>simp [intOf];omega
   | succ j =>
    obtain ⟨x,hx⟩:∃x,f (j+1)=x:=⟨_,rfl⟩;obtain ⟨y,hy⟩:∃y,D j=y:=⟨_,rfl⟩;have hcelb:wr.cell? ⟨b,ob+(j+1),none⟩=some (.int .u64 x):=by rw [←hx];exact hrr.out.cell hlt
    have hcell:=hbl.cell (j:=j+1) hlt;have hcely:wr.cell? ⟨w.heap.size,j,none⟩=some (.int .u64 y):=by rw [←hy];exact hbl.cell (by omega)
    have hfz:=hbl.frozen (j+1);have hfz2:=hbl.frozen j;obtain ⟨x0,x1⟩:=HF.out (j+1) hlt;obtain ⟨y0,y1⟩:=HL.out j (by omega);rw [hx] at x0 x1;rw [hy] at y0 y1;obtain ⟨L,Z,H,eL,L0,L1,eZ,Z0,Z1,eH,H0,H1,HH,HZ2⟩:=shr_nums x y s x0 x1 s0 s1 y0 (by rw [←hy];exact HT.out j rfl);have HX:=hid hx;have HY:=hid hy;clear hx hy;have hcelb2:∀(v:Value),(wr.setCell ⟨w.heap.size,j+1,none⟩ v).cell? ⟨b,ob+(j+1),none⟩=some (.int .u64 x):=fun v=>by
     rw [World.cell?_of_block (Below.heap_setCell _ _ _ _ (by simp;omega))];exact hcelb
    go_wp2
    go_region
    all_goals
     go_wp2;go_roundw
     case rel =>
      refine ⟨j+1+1,_,r,by omega,by go_num,?_,((hbl.set (j+1) H).set j Z),?_,HR.out,fun i hi=>?_,?_⟩
      ·exact below_only hbel ((((Only.refl _ _).setCell _ _ _).setCell _ _ _).drew) (Nat.le_refl _) hbel.size
      ·exact (HL.out.upd ⟨H0,H1⟩).upd ⟨Z0,Z1⟩
      ·obtain rfl:i=j+1:=by omega
       rw [upd_other _ _ _ _ (by omega),upd_same];exact HH.out
      ·have:=shr_step (Q:=2^(64-s).toNat) HV.out HX.out HY.out (by rw [←Int.pow_add,show (64-s).toNat+s.toNat=64 by omega];rfl);rw [←HZ2.out,eH] at this;exact this
     case measure=>simp [intOf];omega
  ·have hkn2:k=n:=by omega
   subst hkn2;go_wp2_with fail
   refine (trim_res w.heap.size k k D w wr hbel (Nat.le_refl _) hbl (Nat.le_refl _) (by omega) HL.out).mono ?_;rintro e w3 ⟨rfl,ao2,m,cap2,rfl,hres,hmn,hv⟩;have HV3:=hid hv;clear hv;go_wp2;go_ret;exact ⟨ao2,m,cap2,D,r,rfl,hres,HR.out.1,HR.out.2,by rw [HV3.out,HV.out]⟩
theorem top_zero {f:Nat→Int} {m:Nat} (h:Lm f (m+1)) (hv:vf f (m+1)<pw m):f m=0∧vf f m=vf f (m+1):=by
 have h0:=vf_nonneg (h.mono (m:=m) (by omega));have h1:=h m (by omega);rw [vf_succ] at hv ⊢;have hz:f m=0:=by
  apply Int.le_antisymm _ h1.1;apply Int.le_of_lt_add_one;apply Int.lt_of_not_ge;intro hge;have:1*pw m≤f m*pw m:=Int.mul_le_mul_of_nonneg_right (by omega) (Int.le_of_lt (pw_pos m));omega
 rw [hz];simp
theorem top_ge {f:Nat→Int} {k:Nat} {c:Int} (h:Lm f (k+1)) (hv:c*pw k≤vf f (k+1)):c≤f k:=by
 apply Int.le_of_lt_add_one;have h1:=vf_lt (h.mono (m:=k) (by omega));rw [vf_succ] at hv;have:c*pw k<(f k+1)*pw k:=by rw [Int.add_mul,Int.one_mul];omega
 exact Int.lt_of_mul_lt_mul_right this (Int.le_of_lt (pw_pos k))
theorem win_val {U U':Nat→Int} {p l N:Nat} {X:Int} (hN:p+l≤N) (he:∀j,j<p∨p+l≤j→U' j=U j) (hv:vf (sh U' p) l=vf (sh U p) l-X):vf U' N=vf U N-X*pw p:=by
 obtain ⟨r,rfl⟩:=Nat.exists_eq_add_of_le hN;rw [Nat.add_assoc,vf_split U' p,vf_split U p,vf_split (sh U' p) l,vf_split (sh U p) l,sh_sh,sh_sh,vf_congr (f:=U') (g:=U) (n:=p) (fun j hj=>he j (by omega)),vf_congr (f:=sh U' (p+l)) (g:=sh U (p+l)) (n:=r) (fun j hj=>he _ (by omega)),hv]
 grind
theorem vf_upd {Q:Nat→Int} {p N:Nat} {t:Int} (hp:p<N) (h0:Q p=0):vf (upd Q p t) N=vf Q N+t*pw p:=by
 have:=win_val (U:=Q) (U':=upd Q p t) (p:=p) (l:=1) (N:=N) (X:=-t) (by omega) (fun j hj=>upd_other _ _ _ _ (by omega)) (by simp [vf,pw,sh,upd,h0]);rw [this];grind
theorem norm_V {h:Nat→Int} {k:Nat} {y P:Int} (hl:Lm h (k+1)) (hy:h k=y) (p0:0<P) (h1:9223372036854775808≤y*P) (h2:(y+1)*P≤18446744073709551616):9223372036854775808*pw k≤vf h (k+1)*P∧vf h (k+1)*P<pw (k+1):=by
 have lo:=vf_nonneg (hl.mono (m:=k) (by omega));have hi:=vf_lt (hl.mono (m:=k) (by omega));have pk:=pw_pos k;rw [vf_succ,hy,pw_succ,Int.add_mul];have e0:0≤vf h k*P:=Int.mul_nonneg lo (Int.le_of_lt p0);have e1:9223372036854775808*pw k≤y*P*pw k:=Int.mul_le_mul_of_nonneg_right h1 (Int.le_of_lt pk);have e2:(y+1)*P*pw k≤18446744073709551616*pw k:=Int.mul_le_mul_of_nonneg_right h2 (Int.le_of_lt pk);have e3:y*pw k*P=y*P*pw k:=by grind
 have e4:(y+1)*P*pw k=y*P*pw k+pw k*P:=by grind
 have e5:vf h k*P<pw k*P:=(Int.mul_lt_mul_right p0).2 hi;rw [e3];omega
theorem norm_len {fv:Nat→Int} {kv k:Nat} {V:Int} (hl:Lm fv kv) (hf:Fm fv kv) (hv:vf fv kv=V) (h1:9223372036854775808*pw k≤V) (h2:V<pw (k+1)):kv=k+1:=by
 have pk:=pw_pos k;have a:k+1≤kv:=by
  apply Nat.le_of_not_lt;intro hlt
  have b1:=vf_lt hl;have b2:=pw_mono (show kv≤k by omega);omega
 have b:kv≤k+1:=by
  apply Nat.le_of_not_lt;intro hlt
  have b1:=vf_form_ge hl hf (by omega);have b2:=pw_mono (show k+1≤kv-1 by omega);omega
 omega
theorem first_top {U:Nat→Int} {lq k:Nat} {A P V:Int} (hU:Lm U (lq+(k+1))) (hv:vf U (lq+(k+1))=A*P) (hA:A<pw (lq+k)) (p0:0<P) (p1:P≤9223372036854775808) (hV:9223372036854775808*pw k≤V):vf (sh U lq) (k+1)<V:=by
 have lo:=vf_nonneg (hU.mono (m:=lq) (by omega));rw [vf_split] at hv;have e1:A*P<pw (lq+k)*P:=(Int.mul_lt_mul_right p0).2 hA;have e2:P*pw k≤9223372036854775808*pw k:=Int.mul_le_mul_of_nonneg_right p1 (Int.le_of_lt (pw_pos k));have e3:P*pw k*pw lq≤V*pw lq:=Int.mul_le_mul_of_nonneg_right (by omega) (Int.le_of_lt (pw_pos lq));have e4:pw (lq+k)*P=P*pw k*pw lq:=by rw [pw_add];grind
 have:vf (sh U lq) (k+1)*pw lq<V*pw lq:=by omega
 exact Int.lt_of_mul_lt_mul_right this (Int.le_of_lt (pw_pos lq))
theorem win_lt {U:Nat→Int} {p m:Nat} {V:Int} (hU:Lm U (p+1)) (h:vf (sh U (p+1)) m<V):vf (sh U p) (m+1)<V*18446744073709551616:=by
 have:=hU p (by omega);rw [vf_cons];omega
theorem lead_nums (y:Nat) (y0:0<y) (y1:y<18446744073709551616):∃s:Int,0≤s∧s≤63∧(64-(Lib.bitLen y:Int))=s∧9223372036854775808≤(y:Int)*2^s.toNat∧((y:Int)+1)*2^s.toNat≤18446744073709551616:=by
 obtain ⟨b,hb⟩:∃b,Lib.bitLen y=b:=⟨_,rfl⟩;obtain ⟨b1,b2,b3⟩:=bitLen_bounds b y hb y0 y1;have b64:b≤64:=by rw [←hb];exact Lib.bitLen_le y 64 (by omega) (by omega)
 rw [hb];have es:(64-(b:Int)).toNat=64-b:=by omega
 refine ⟨64-(b:Int),by omega,by omega,rfl,?_,?_⟩
 ·rw [es];have e1:(2:Int)^(b-1)*2^(64-b)=9223372036854775808:=by rw [←Int.pow_add,show b-1+(64-b)=63 by omega];rfl
  have e2:(2:Int)^(b-1)≤y:=by exact_mod_cast b2
  have:=Int.mul_le_mul_of_nonneg_right e2 (Int.le_of_lt (show (0:Int)<2^(64-b) from Int.pow_pos (by decide)));omega
 ·rw [es];have e1:(2:Int)^b*2^(64-b)=18446744073709551616:=by rw [←Int.pow_add,show b+(64-b)=64 by omega];rfl
  have e2:(y:Int)+1≤2^b:=by exact_mod_cast b3
  have:=Int.mul_le_mul_of_nonneg_right e2 (Int.le_of_lt (show (0:Int)<2^(64-b) from Int.pow_pos (by decide)));omega
theorem rest_of {A B P V U q R r : Int} (p0 : 0 < P) (hV : V = B * P) (h : U + V * q = A * P) (hU : U < V) (hR : R * P + r = U) (r0 : 0 ≤ r) (r1 : r < P) : A = q * B + R ∧ R < B := by
  have e1 : (A - q * B) * P = U := by rw [Int.sub_mul]; rw [hV] at h; have : q * B * P = B * P * q := by grind
                                      omega
  have e2 : U / P = A - q * B := by rw [← e1]; exact Int.mul_ediv_cancel _ (by omega)
  have e3 : U / P = R := by rw [← hR, Int.add_comm, Int.add_mul_ediv_right _ _ (by omega), Int.ediv_eq_zero_of_lt r0 r1]; omega
  refine ⟨by omega, ?_⟩
  have : R * P < B * P := by rw [← hV]; omega
  exact Int.lt_of_mul_lt_mul_right this (Int.le_of_lt p0)
set_option maxRecDepth 100000 in
set_option maxHeartbeats 8000000 in
theorem divLong_cA (ao bo:Option Addr) (n m ca cb:Nat) (f h:Nat→Int) (w:World) (hn:n≤8796093022208) (hm:m≤8796093022208) (hr:Rd .u64 w ao n f) (hs:Rd .u64 w bo m h) (hf:Lm f n) (hh:Lm h m) (fh:Fm h m) (h2:2≤m) (hle:vf h m≤vf f n) :
  Calls Tryz.prog 184 #[.slice ao n ca,.slice bo m cb] w fun e w'=>∃a1 k1 c1 q a2 k2 c2 r,e=.returned (.tuple #[.slice a1 k1 c1,.slice a2 k2 c2])∧Res n w w' a1 k1 c1 q∧Res (n+1) w w' a2 k2 c2 r∧vf f n=vf q k1*vf h m+vf r k2∧0≤vf r k2∧vf r k2<vf h m∧Apart a1 a2:=by
 have hmn:m≤n:=vf_len hh hf fh hle;obtain ⟨k,rfl⟩:∃k,m=k+1:=⟨m-1,by omega⟩;obtain ⟨lq,rfl⟩:∃lq,n=lq+k:=⟨n-k,by omega⟩;obtain ⟨b,ob,rfl⟩:=hs.at (by omega);obtain ⟨y,hy⟩:∃y,h k=y:=⟨_,rfl⟩;have hcell:w.cell? ⟨b,ob+k,none⟩=some (.int .u64 y):=by rw [←hy];exact hs.cell (by omega)
 have hy01:=hh k (by omega);have hyne:y≠0:=by rw [←hy];rcases fh with h | h;omega;simpa using h
 rw [hy] at hy01;obtain ⟨y,rfl⟩:=Int.eq_ofNat_of_zero_le hy01.1;obtain ⟨s,s0,s1,hse,hP1,hP2⟩:=lead_nums y (by omega) (by omega);have cl:=Tryz.bits_LeadingZeros64 (y:Int) w (by omega) (by omega);rw [Int.toNat_natCast,hse] at cl;obtain ⟨P,hP⟩:∃P:Int,2^s.toNat=P:=⟨_,rfl⟩;have p0:0<P:=by rw [←hP];exact Int.pow_pos (by decide)
 have p1:P≤9223372036854775808:=by
  rw [←hP];have e1:(2:Int)^s.toNat*2^(63-s).toNat=9223372036854775808:=by rw [←Int.pow_add,show s.toNat+(63-s).toNat=63 by omega];rfl
  have e2:(0:Int)<2^(63-s).toNat:=Int.pow_pos (by decide);have:=Int.mul_le_mul_of_nonneg_left (show (1:Int)≤2^(63-s).toNat by omega) (Int.le_of_lt (show (0:Int)<2^s.toNat from Int.pow_pos (by decide)));omega
 have hP1':9223372036854775808≤(y:Int)*P:=by rw [←hP];exact hP1
 have hP2':((y:Int)+1)*P≤18446744073709551616:=by rw [←hP];exact hP2
 obtain ⟨hV1,hV2⟩:=norm_V hh hy p0 hP1' hP2';have hA:=vf_lt hf;have CL:=hid cl;have HF:=hid hf;have HH:=hid hh;have HR:=hid hr;have HS:=hid hs;have HP:=hid hP;have PP0:=hid p0;have PP1:=hid p1;have HV1:=hid hV1;have HV2:=hid hV2;have HA:=hid hA
 clear cl hf hh hr hs hP p0 p1 hV1 hV2 hA hP1 hP2 hP1' hP2' hse fh hle hy;go_enter Tryz.func184,Tryz.ntmps184;go_wp2_with fail
 refine CL.out.mono ?_;rintro e w' ⟨rfl,rfl⟩;go_wp2_with fail
 refine (shl_c (some ⟨b,ob,none⟩) (k+1) cb 0 s s h _ (by omega) (by omega) s0 s1 (by omega) HS.out HH.out).mono ?_;rintro e w1 ⟨av,kv,cv,fv,rfl,hresv,hvv⟩;rw [HP.out] at hvv;have hvv2:vf fv kv=vf h (k+1)*P:=by rw [hvv];simp [pw]
 have hkv:=norm_len hresv.lm hresv.fm hvv2 HV1.out HV2.out;subst hkv;have htop:=top_ge hresv.lm (by rw [hvv2];exact HV1.out);obtain ⟨gv,hav,hgv0,hgv,hblv⟩:∃gv,av=some ⟨gv,0,none⟩∧w'.heap.size≤gv∧gv<w1.heap.size∧Rd .u64 w1 (some ⟨gv,0,none⟩) (k+1) fv:=by
  rcases hresv.own with ⟨_,h,_⟩ | ⟨g,e,hg,_,hn,_,hb⟩
  ·omega
  ·exact ⟨g,e,hg,hb.lt,hb.rd0 hn⟩
 subst hav;have HVV:=hid hvv2;have HTop:=hid htop;have HRv:=hid hblv;have LV:=hid hresv.lm;have BV:=hid hresv.bel
 have HR1:=hid (HR.out.below BV.out (Nat.le_refl _));clear hvv hvv2 htop hblv hresv CL hcell HS HR;go_wp2_with fail
 refine (shl_c ao (lq+k) ca 0 s s f w1 (by omega) (by omega) s0 s1 (by omega) HR1.out HF.out).mono ?_;rintro e w2 ⟨au,ku,cu,fu,rfl,hresu,hvu⟩;rw [HP.out] at hvu;have hvu2:vf fu ku=vf f (lq+k)*P:=by rw [hvu];simp [pw]
 have hkul:ku≤lq+k+1:=by have:=hresu.le;omega
 have HVU:=hid hvu2;have HRu:=hid hresu.rd;have LU:=hid hresu.lm;have BU:=hid hresu.bel
 have HRv2:=hid (HRv.out.below BU.out (Nat.le_refl _));clear hvu hvu2 hresu HR1 HRv;go_wp2_with fail
 refine (padded_c au ku cu (lq+k+1) _ fu w2 (by omega) hkul (by omega) HRu.out).mono ?_;rintro e w3 ⟨rfl,hbel3,hb3⟩;have HRv3:=hid (HRv2.out.below hbel3 (Nat.le_refl _));have BP:=hid hbel3;have HB3:=hid hb3
 clear HRv2 HRu hbel3 hb3;go_wp2_with (at_make;refine wpList_make_blk .u64 w3 rfl (.tmp 35) (.tmp 35) 22 rfl 145 8 Tryz.underlying22 Tryz.infoU64 .i64 .i64 _ _ lq rfl rfl (by omega) (by omega) (by omega) (by unfold maxLen;omega) ?_;intro w4 hb4 hbel4)
 have G3:w2.heap.size<w3.heap.size:=HB3.out.lt;have G4:w3.heap.size<w4.heap.size:=hb4.lt;have z1:=BV.out.size;have z2:=BU.out.size
 have HB4:=hid (HB3.out.below hbel4 G3);have HRv4:=hid (HRv3.out.below hbel4 (Nat.le_refl _));have BALL:=hid (BV.out.trans ((BU.out.mono z1).trans ((BP.out.mono (by omega)).trans (hbel4.mono (by omega)))));obtain ⟨V,hV⟩:∃V,vf h (k+1)*P=V:=⟨_,rfl⟩;have hval0:vf (ext fu ku) (lq+(k+1))=vf f (lq+k)*P:=by rw [vf_ext_list _ _ _ (by omega),HVU.out]
 have hL0:Lm (ext fu ku) (lq+(k+1)):=fun j hj=>by
  by_cases hjn:j<ku
  ·rw [ext_in _ _ _ hjn];exact LU.out j hjn
  ·rw [ext_out _ _ _ (by omega)];omega
 have htop0:=first_top hL0 hval0 HA.out PP0.out PP1.out (V:=V) (by rw [←hV];exact HV1.out);have VAL0:=hid hval0;have L0:=hid hL0;have TOP0:=hid htop0;have VV:=hid hV;have HB4q:=hid hb4
 have hVlt:V<pw (k+1):=by rw [←hV];exact HV2.out
 have hvfv:vf fv (k+1)=V:=by rw [HVV.out,hV]
 have VLT:=hid hVlt;have VFV:=hid hvfv
 clear hval0 hL0 htop0 hV hb4 hVlt hvfv HB3 HRv3 BV BU BP HVV HV1 HV2 HVU LU hbel4;generalize hG:w2.heap.size=G at G3 G4 z2 HB4 ⊢;generalize hH:w3.heap.size=H at G3 G4 HB4q ⊢;clear hG hH;go_loopw [39] (fun t wr=>∃(i:Nat) (U Q:Nat→Int),i≤lq∧t=.int .i64 i∧Below w'.heap.size w' wr∧Hid (w4.heap.size≤wr.heap.size)∧Hid (Blk .u64 145 wr G (lq+k+1) U)∧Hid (Lm U (lq+k+1))∧Hid (Blk .u64 145 wr H lq Q)∧Hid (Lm Q lq)∧Hid (Rd .u64 wr (some ⟨gv,0,none⟩) (k+1) fv)∧Hid (∀j,j<lq-i→Q j=0)∧Hid (∀j,lq-i+(k+1)≤j→j<lq+k+1→U j=0)∧Hid (vf (sh U (lq-i)) (k+1)<V)∧Hid (vf U (lq+k+1)+V*vf Q lq=vf f (lq+k)*P)) (fun t _=>lq-(intOf t).toNat)
 case atStart=>exact ⟨0,ext fu ku,fun _=>0,by omega,rfl,BALL.out,Nat.le_refl _,HB4.out,L0.out,HB4q.out,lm_zero _,HRv4.out,fun _ _=>rfl,fun j h1 h2=>by omega,TOP0.out,(by show _=_;rw [vf_zero (f:=fun _=>0) (fun _ _=>rfl),VAL0.out.symm];simp;rfl)⟩
 case round =>
  clear BALL HB4 L0 HB4q HRv4 TOP0 VAL0;obtain ⟨i,U,Q,hi,rfl,hbel,HSz,HBU,HLU,HBQ,HLQ,HRv,HQz,HUz,HTp,HVal⟩:=hrel;by_cases hlt:i<lq
  ·obtain ⟨p,hp⟩:∃p,lq-i=p+1:=⟨lq-i-1,by omega⟩;have hpi:(lq:Int)-1-(i:Int)=(p:Int):=by omega
   have hp2:p<lq:=by omega
   have hp3:¬(p=lq+k+1):=by omega
   have HPe:=hid hp;clear hp;have hw:=win_lt (p:=p) (HLU.out.mono (by omega)) (by rw [←HPe.out];exact HTp.out);have HW:=hid hw;clear hw;have hbl:=HBU.out;have z3:=HSz.out;go_wp2_with fail
   rw [show p+(k+1)+1-p=k+1+1 by omega];refine (takeOut_c G p (k+1) (lq+k+1-p) (lq+k+1) U gv 0 cv fv wr HBU.out HLU.out (by omega) (by omega) (by omega) (by omega) HRv.out LV.out (by omega) h2 HTop.out (by rw [VFV.out];exact HW.out)).mono ?_;rintro e w5 ⟨t,rfl,ht0,ht1,hon,U',hbu',hlu',heu',hvu',hlt'⟩;rw [VFV.out] at hvu' hlt';have hbq':=HBQ.out.only hon (by omega);have hcelq:=hbq'.cell (j:=p) hp2;have hfzq:=hbq'.frozen p;obtain ⟨hz,hzv⟩:=top_zero (hlu'.sh (o:=p) (m:=k+1+1) (by omega)) (Int.lt_trans hlt' VLT.out);have hbel5:Below w'.heap.size w' w5:=below_only hbel hon (by omega) hbel.size;have HB5:=hid hbu';have HQ5:=hid hbq';have HL5:=hid hlu';have HE5:=hid heu';have HV5:=hid hvu';have HLT5:=hid hlt';have HZ5:=hid hz;have HZV5:=hid hzv;have HON:=hid hon
   have HR5:=hid (HRv.out.only hon (off_some (by omega)));clear hbu' hbq' hlu' heu' hvu' hlt' hz hzv hon hbl;go_wp2;go_roundw
   case rel =>
    refine ⟨i+1,U',upd Q p t,by omega,by go_num,below_only hbel5 ((Only.refl _ _).setCell _ _ _) (by omega) hbel5.size,?_,HB5.out.setOther (by simp;omega) _,HL5.out,HQ5.out.set p t,HLQ.out.upd ⟨ht0,ht1⟩,HR5.out.only ((Only.refl _ _).setCell _ _ _) (off_some (by omega)),?_,?_,?_,?_⟩
    ·have:=HON.out.size;show _≤_;simp [World.setCell];omega
    ·intro j hj;have:=HPe.out;rw [upd_other _ _ _ _ (by omega)];exact HQz.out j (by omega)
    ·intro j h1 h2;have hpe:=HPe.out;by_cases hj:j=p+(k+1)
     ·subst hj;exact HZ5.out
     ·rw [HE5.out j (by omega)];exact HUz.out j (by omega) h2
    ·have hpe:=HPe.out;show _<_;rw [show lq-(i+1)=p by omega,HZV5.out];exact HLT5.out
    ·have e1:=win_val (N:=lq+k+1) (by omega) HE5.out HV5.out;have e2:=vf_upd (Q:=Q) (N:=lq) (t:=t) hp2 (HQz.out p (by have:=HPe.out;omega));have e3:=HVal.out;show _=_;rw [e1,e2,Int.mul_add,←e3]
     grind
   case measure=>simp [intOf];omega
  ·have hil:i=lq:=by omega
   subst hil;have z3:=HSz.out;have hUz:vf U (i+k+1)=vf U (k+1):=vf_ext (by omega) (fun j h1 h2=>HUz.out j (by omega) h2);have hTp:=HTp.out;rw [Nat.sub_self,sh_zero] at hTp;have hVal:=HVal.out;rw [hUz] at hVal;have TPE:=hid hTp;have VALE:=hid hVal
   clear hUz hTp hVal;have i1:((k+1:Nat):Int)≤((i+k+1:Nat):Int):=by omega
   go_wp2_with fail
   go_region_with (first | (go_at_call_of 169 H;refine (trim_res H i i Q w' _ (by repeat (first | exact hbel | refine below_drewN ?_ _ | refine Below.drew ?_)) (by omega) (by exact HBQ.out) (Nat.le_refl _) (by omega) HLQ.out).mono ?_;rintro e w6 ⟨rfl,a1,k1,c1,rfl,hres1,hk1,hv1⟩;have HRes1:=hid hres1;have HVq:=hid hv1;clear hres1 hv1) | (go_at_call_of 169 G;refine (trim_res G (i+k+1) (k+1) U w' _ (by repeat (first | exact hbel | refine below_drewN ?_ _ | refine Below.drew ?_)) (by omega) (by exact HBU.out) (by omega) (by omega) HLU.out).mono ?_;rintro e w6 ⟨rfl,a2,k2,c2,rfl,hres2,hk2,hv2⟩;have HRes2:=hid hres2;have HVr:=hid hv2;clear hres2 hv2) | (go_at_call 198;refine (shrBits_c a2 k2 c2 s U _ (by omega) s0 s1 (by exact HRes2.out.rd) HRes2.out.lm).mono ?_;rintro e w7 ⟨a3,k3,c3,R,r,rfl,hres3,r0,r1,hv3⟩;have HRes3:=hid hres3;have HV3:=hid hv3;clear hres3 hv3))
   all_goals
    go_wp2
    go_ret2
    have B:=HRes3.out.bel;have e3:=HV3.out;rw [HP.out,HVr.out] at e3;rw [HP.out] at r1;obtain ⟨g1,g2⟩:=rest_of PP0.out VV.out.symm VALE.out TPE.out e3 r0 r1;refine ⟨a1,k1,c1,Q,a3,k3,c3,R,rfl,(HRes1.out.later ⟨B.os,B.tape,B.output,B.size,B.block⟩).mono (by omega),(HRes3.out.ahead (by repeat (first | exact hbel | refine below_drewN ?_ _ | refine Below.drew ?_))).mono (by omega),?_,vf_nonneg HRes3.out.lm,g2,HRes3.out.apart HRes1.out.und (Nat.le_refl _)⟩;rw [HVq.out];exact g1
theorem divMod_longA (ao bo:Option Addr) (n m ca cb:Nat) (f h:Nat→Int) (w:World) (hn:n≤8796093022208) (hm:m≤8796093022208) (hr:Rd .u64 w ao n f) (hs:Rd .u64 w bo m h) (hf:Lm f n) (hh:Lm h m) (ff:Fm f n) (fh:Fm h m) (h2:2≤m) (hle:vf h m≤vf f n) :
  Calls Tryz.prog 171 #[.slice ao n ca,.slice bo m cb] w fun e w'=>∃a1 k1 c1 q a2 k2 c2 r,e=.returned (.tuple #[.slice a1 k1 c1,.slice a2 k2 c2])∧Res n w w' a1 k1 c1 q∧Res (n+1) w w' a2 k2 c2 r∧vf f n=vf q k1*vf h m+vf r k2∧0≤vf r k2∧vf r k2<vf h m∧Apart a1 a2:=by
 have cc:=cmp_c ao bo n m ca cb f h w (by omega) (by omega) hr hs hf hh ff fh;have CC:=hid cc;have CL:=hid (fun q=>divLong_cA ao bo n m ca cb f h (w.drewN q) hn hm hr hs hf hh fh h2 hle);have HLe:=hid hle;have h1:((m:Int)==1)=false:=by simp;omega
 clear cc hr hs hf hh ff fh hle;go_enter Tryz.func171,Tryz.ntmps171;go_wp2_with fail
 refine CC.out.mono ?_;rintro e w1 ⟨⟨q,rfl⟩,c,rfl,ho⟩;have hc:0≤c:=by have:=HLe.out;unfold Ord at ho;omega
 clear ho;go_wp2_with fail
 refine (CL.out q).mono ?_;rintro e w2 ⟨a1,k1,c1,q1,a2,k2,c2,r,rfl,hres1,hres2,hv,hr0,hr1,hap⟩;have HV:=hid hv;have HR0:=hid hr0;have HR1:=hid hr1;have HAP:=hid hap
 clear hv hr0 hr1 hap;go_wp2
 go_ret2
 have hb:=below_drewN (Below.refl w.heap.size w) q;exact ⟨a1,k1,c1,q1,a2,k2,c2,r,rfl,hres1.ahead hb,hres2.ahead hb,HV.out,HR0.out,HR1.out,HAP.out⟩
theorem divMod_cA (ao bo:Option Addr) (n m ca cb:Nat) (f h:Nat→Int) (w:World) (hn:n≤8796093022208) (hm:m≤8796093022208) (hr:Rd .u64 w ao n f) (hs:Rd .u64 w bo m h) (hf:Lm f n) (hh:Lm h m) (ff:Fm f n) (fh:Fm h m) (hm0:0<m) :
  Calls Tryz.prog 171 #[.slice ao n ca,.slice bo m cb] w fun e w'=>∃a1 k1 c1 q a2 k2 c2 r,e=.returned (.tuple #[.slice a1 k1 c1,.slice a2 k2 c2])∧Res n w w' a1 k1 c1 q∧Res (n+1) w w' a2 k2 c2 r∧vf f n=vf q k1*vf h m+vf r k2∧0≤vf r k2∧vf r k2<vf h m∧Apart a1 a2:=by
 by_cases hsm:m=1∨vf f n<vf h m
 ·exact divMod_smallA ao bo n m ca cb f h w hn hm hr hs hf hh ff fh hsm
 ·exact divMod_longA ao bo n m ca cb f h w hn hm hr hs hf hh ff fh (by omega) (by omega)
theorem divMod_c (ao bo:Option Addr) (n m ca cb:Nat) (f h:Nat→Int) (w:World) (hn:n≤8796093022208) (hm:m≤8796093022208) (hr:Rd .u64 w ao n f) (hs:Rd .u64 w bo m h) (hf:Lm f n) (hh:Lm h m) (ff:Fm f n) (fh:Fm h m) (hm0:0<m) :
  Calls Tryz.prog 171 #[.slice ao n ca,.slice bo m cb] w fun e w'=>∃a1 k1 c1 q a2 k2 c2 r,e=.returned (.tuple #[.slice a1 k1 c1,.slice a2 k2 c2])∧Res n w w' a1 k1 c1 q∧Res (n+1) w w' a2 k2 c2 r∧vf f n=vf q k1*vf h m+vf r k2∧0≤vf r k2∧vf r k2<vf h m :=
 (divMod_cA ao bo n m ca cb f h w hn hm hr hs hf hh ff fh hm0).mono fun _ _ ⟨a1,k1,c1,q,a2,k2,c2,r,h1,h2,h3,h4,h5,h6,_⟩=>⟨a1,k1,c1,q,a2,k2,c2,r,h1,h2,h3,h4,h5,h6⟩
set_option maxHeartbeats 800000 in
theorem Mul_c (ao bo:Option Addr) (n m ca cb:Nat) (f h:Nat→Int) (w:World) (hn:n≤1099511627776) (hm:m≤1099511627776) (hca:n≤ca) (hcb:m≤cb) (hcam:ca≤9223372036854775807) (hcbm:cb≤9223372036854775807) (hr:Rd .u64 w ao n f) (hs:Rd .u64 w bo m h) (hf:Lm f n) (hh:Lm h m) :
  Calls Tryz.prog 138 #[.slice ao n ca,.slice bo m cb] w fun e w'=>∃ao' k cap' f' er,e=.returned (.tuple #[.slice ao' k cap',.int .i64 er])∧Res (n+m) w w' ao' k cap' f' ∧
   (Fm f n∧Fm h m∧er=0∧vf f' k=vf f n*vf h m∨¬(Fm f n∧Fm h m)∧er=3∧k=0):=by
 have HF:=(show Hid (Lm f n) from hf);have HH:=(show Hid (Lm h m) from hh);clear hf hh;cases hfa:fmB f n
 ·have c1:=fun w' hr'=>form_c ao n ca f w' (by omega) hr'
  rw [hfa] at c1;have HN:=hid (nfm_of hfa);have C1:=hid c1;clear c1 hfa;go_enter Tryz.func138,Tryz.ntmps138;go_wp2_with (go_at_call 103;refine (C1.out _ hr).mono ?_;rintro e w' ⟨rfl,rfl⟩)
  go_ret2
  exact ⟨_,_,_,f,_,rfl,Res.nil f (Below.refl _ _),.inr ⟨fun x=>HN.out x.1,rfl,rfl⟩⟩
 ·have c1:=fun w' hr'=>form_c ao n ca f w' (by omega) hr'
  rw [hfa] at c1;have FA:=hid (fm_of hfa);have C1:=hid c1;clear c1 hfa;cases hfb:fmB h m
  ·have c2:=fun w' hr'=>form_c bo m cb h w' (by omega) hr'
   rw [hfb] at c2;have HN:=hid (nfm_of hfb);have C2:=hid c2;clear c2 hfb;go_enter Tryz.func138,Tryz.ntmps138;go_wp2_with fail
   refine (C1.out _ hr).mono ?_;rintro e w' ⟨rfl,rfl⟩;go_wp2_with fail
   refine (C2.out _ hs).mono ?_;rintro e w' ⟨rfl,rfl⟩;go_wp2
   go_ret2
   exact ⟨_,_,_,f,_,rfl,Res.nil f (Below.refl _ _),.inr ⟨fun x=>HN.out x.2,rfl,rfl⟩⟩
  ·have c2:=fun w' hr'=>form_c bo m cb h w' (by omega) hr'
   rw [hfb] at c2;have FB:=hid (fm_of hfb);have C2:=hid c2;clear c2 hfb;go_enter Tryz.func138,Tryz.ntmps138;go_wp2_with fail
   refine (C1.out _ hr).mono ?_;rintro e w' ⟨rfl,rfl⟩;go_wp2_with fail
   refine (C2.out _ hs).mono ?_;rintro e w' ⟨rfl,rfl⟩;go_wp2_with fail
   refine (mul_c ao bo n m ca cb f h _ hn hm hca hcb hcam hcbm hr hs HF.out HH.out).mono ?_;rintro e w' ⟨ao',k,cap',f',rfl,hres,hv⟩;have HV:=hid hv;clear hv;go_wp2
   go_ret2
   exact ⟨_,_,_,f',_,rfl,hres,.inl ⟨FA.out,FB.out,rfl,HV.out⟩⟩
def DivAns (n m:Nat) (f h:Nat→Int) (k1 k2:Nat) (q r:Nat→Int) (er:Int):Prop :=
 Fm f n∧Fm h m∧0<m∧er=0∧vf f n=vf q k1*vf h m+vf r k2∧0≤vf r k2∧vf r k2<vf h m∨Fm f n∧Fm h m∧m=0∧er=4∧k1=0∧k2=0∨¬(Fm f n∧Fm h m)∧er=3∧k1=0∧k2=0
set_option maxHeartbeats 800000 in
theorem DivMod_cA (ao bo:Option Addr) (n m ca cb:Nat) (f h:Nat→Int) (w:World) (hn:n≤8796093022208) (hm:m≤8796093022208) (hr:Rd .u64 w ao n f) (hs:Rd .u64 w bo m h) (hf:Lm f n) (hh:Lm h m) :
  Calls Tryz.prog 157 #[.slice ao n ca,.slice bo m cb] w fun e w'=>∃a1 k1 c1 q a2 k2 c2 r er,e=.returned (.tuple #[.slice a1 k1 c1,.slice a2 k2 c2,.int .i64 er])∧Res n w w' a1 k1 c1 q∧Res (n+1) w w' a2 k2 c2 r∧DivAns n m f h k1 k2 q r er∧Apart a1 a2:=by
 have HF:=(show Hid (Lm f n) from hf);have HH:=(show Hid (Lm h m) from hh);clear hf hh;cases hfa:fmB f n
 ·have c1:=fun w' hr'=>form_c ao n ca f w' (by omega) hr'
  rw [hfa] at c1;have HN:=hid (nfm_of hfa);have C1:=hid c1;clear c1 hfa;go_enter Tryz.func157,Tryz.ntmps157;go_wp2_with (go_at_call 103;refine (C1.out _ hr).mono ?_;rintro e w' ⟨rfl,rfl⟩)
  go_ret3
  exact ⟨_,_,_,f,_,_,_,f,_,rfl,Res.nil f (Below.refl _ _),Res.nil f (Below.refl _ _),.inr (.inr ⟨fun x=>HN.out x.1,rfl,rfl,rfl⟩),apart_none _⟩
 ·have c1:=fun w' hr'=>form_c ao n ca f w' (by omega) hr'
  rw [hfa] at c1;have FA:=hid (fm_of hfa);have C1:=hid c1;clear c1 hfa;cases hfb:fmB h m
  ·have c2:=fun w' hr'=>form_c bo m cb h w' (by omega) hr'
   rw [hfb] at c2;have HN:=hid (nfm_of hfb);have C2:=hid c2;clear c2 hfb;go_enter Tryz.func157,Tryz.ntmps157;go_wp2_with fail
   refine (C1.out _ hr).mono ?_;rintro e w' ⟨rfl,rfl⟩;go_wp2_with fail
   refine (C2.out _ hs).mono ?_;rintro e w' ⟨rfl,rfl⟩;go_wp2
   go_ret3
   exact ⟨_,_,_,f,_,_,_,f,_,rfl,Res.nil f (Below.refl _ _),Res.nil f (Below.refl _ _),.inr (.inr ⟨fun x=>HN.out x.2,rfl,rfl,rfl⟩),apart_none _⟩
  ·have c2:=fun w' hr'=>form_c bo m cb h w' (by omega) hr'
   rw [hfb] at c2;have FB:=hid (fm_of hfb);have C2:=hid c2;clear c2 hfb;by_cases hm0:m=0
   ·subst hm0;go_enter Tryz.func157,Tryz.ntmps157;go_wp2_with fail
    refine (C1.out _ hr).mono ?_;rintro e w' ⟨rfl,rfl⟩;go_wp2_with fail
    refine (C2.out _ hs).mono ?_;rintro e w' ⟨rfl,rfl⟩;go_wp2
    go_ret3
    exact ⟨_,_,_,f,_,_,_,f,_,rfl,Res.nil f (Below.refl _ _),Res.nil f (Below.refl _ _),.inr (.inl ⟨FA.out,FB.out,rfl,rfl,rfl,rfl⟩),apart_none _⟩
   ·have hmi:((m:Int)==0)=false:=by simp;omega
    go_enter Tryz.func157,Tryz.ntmps157;go_wp2_with fail
    refine (C1.out _ hr).mono ?_;rintro e w' ⟨rfl,rfl⟩;go_wp2_with fail
    refine (C2.out _ hs).mono ?_;rintro e w' ⟨rfl,rfl⟩;go_wp2_with fail
    refine (divMod_cA ao bo n m ca cb f h _ hn hm hr hs HF.out HH.out FA.out FB.out (by omega)).mono ?_;rintro e w' ⟨a1,k1,c1,q,a2,k2,c2,r,rfl,hres1,hres2,hv,hr0,hr1,hap⟩;have HV:=hid hv;have HR0:=hid hr0;have HR1:=hid hr1;have HAP:=hid hap
    clear hv hr0 hr1 hap;go_wp2
    go_ret3
    exact ⟨_,_,_,q,_,_,_,r,_,rfl,hres1,hres2,.inl ⟨FA.out,FB.out,by omega,rfl,HV.out,HR0.out,HR1.out⟩,HAP.out⟩
theorem DivMod_c (ao bo:Option Addr) (n m ca cb:Nat) (f h:Nat→Int) (w:World) (hn:n≤8796093022208) (hm:m≤8796093022208) (hr:Rd .u64 w ao n f) (hs:Rd .u64 w bo m h) (hf:Lm f n) (hh:Lm h m) :
  Calls Tryz.prog 157 #[.slice ao n ca,.slice bo m cb] w fun e w'=>∃a1 k1 c1 q a2 k2 c2 r er,e=.returned (.tuple #[.slice a1 k1 c1,.slice a2 k2 c2,.int .i64 er])∧Res n w w' a1 k1 c1 q∧Res (n+1) w w' a2 k2 c2 r∧DivAns n m f h k1 k2 q r er :=
 (DivMod_cA ao bo n m ca cb f h w hn hm hr hs hf hh).mono fun _ _ ⟨a1,k1,c1,q,a2,k2,c2,r,er,h1,h2,h3,h4,_⟩=>⟨a1,k1,c1,q,a2,k2,c2,r,er,h1,h2,h3,h4⟩
theorem fromD_c {w:World} {ao:Option Addr} {n cap:Nat} {f:Nat→Int} (hn:n≤400000) (hr:Rd .u64 w ao n f) (hf:Lm f n) :
  Calls Tryz.prog 113 #[.slice ao n cap] w fun e w'=>∃z k c d,e=.returned (.slice z k c)∧Below w.heap.size w w'∧Hid (k≤2*n∧Dn w' z k d (vf f n).toNat) :=
 (from_c ao n cap f w (by omega) hr hf).mono (fun _ _ ⟨z,k,c,h1,h2,h3,h4,_,h5,h6,h7⟩=>⟨z,k,c,_,h1,h2,h4,h3,h5,h6,by rw [h7];have:=vf_nonneg hf;omega⟩)
end Go.Proofs.YtdbbncamlaiajaaGreat
namespace Go.Proofs.YtdbbncamlaiajaaGreat
open Go.RowKit Go.Sort Go.Lib
end Go.Proofs.YtdbbncamlaiajaaGreat
namespace Go.Proofs.YtdbbncamlaiajaaGreat
open Go.RowKit Go.Lib
theorem limbAt_c (ao:Option Addr) (n cap:Nat) (f:Nat→Int) (i:Nat) (w:World) (hn:n≤140737488355328) (hi:i≤140737488355328) (hr:Rd .u64 w ao n f) :
  Calls Tryz.prog 210 #[.slice ao n cap,.int .i64 i] w fun e w'=>e=.returned (.int .u64 (ext f n i))∧w'=w:=by
 by_cases h:i<n
 ·obtain ⟨b,o,rfl⟩:=hr.at (by omega);have hc:=hr.cell h;have E:=hid (ext_in f n i h);clear hr;go_enter Tryz.func210,Tryz.ntmps210;go_wp2;go_ret;exact ⟨by rw [E.out];rfl,rfl⟩
 ·have E:=hid (ext_out f n i (by omega));go_enter Tryz.func210,Tryz.ntmps210;go_wp2;go_ret;exact ⟨by rw [E.out];rfl,rfl⟩
end Go.Proofs.YtdbbncamlaiajaaGreat
namespace Go.Proofs.YtdbbncamlaiajaaGreat
open Go.RowKit
def Tg (w:World) (ao:Option Addr):Prop:=∀a,ao=some a→∃arr fr,w.heap[a.block]?=some (.cells arr 145 fr)
def Num (w:World) (v:Value) (C:Nat) (V:Int):Prop:=∃ao n cap f,v=.slice ao n cap∧Rd .u64 w ao n f∧Tg w ao∧Lm f n∧Fm f n∧n≤C∧vf f n=V∧n≤cap∧cap≤9223372036854775807
theorem Tg.und {w ao} (h:Tg w ao):Und ao w.heap.size:=fun a ha=>by
 obtain ⟨arr,fr,e⟩:=h a ha;exact (Array.getElem?_eq_some_iff.1 e).1
theorem Tg.below {w w' ao} (h:Tg w ao) (hb:Below w.heap.size w w'):Tg w' ao:=fun a ha=>by
 obtain ⟨arr,fr,e⟩:=h a ha;exact ⟨arr,fr,by rw [hb.block _ (Array.getElem?_eq_some_iff.1 e).1];exact e⟩
theorem Num.below {w w' v C V} (h:Num w v C V) (hb:Below w.heap.size w w'):Num w' v C V:=by
 obtain ⟨ao,n,cap,f,rfl,h1,ht,h2,h3,h4,h5⟩:=h;exact ⟨ao,n,cap,f,rfl,h1.below hb (Nat.le_refl _),ht.below hb,h2,h3,h4,h5⟩
theorem Tg.off {w ao g} (h:Tg w ao) {cur e fr} (hg:w.heap[g]?=some (.cells cur e fr)) (he:e≠145):Off ao g:=fun a ha hag=>by
 obtain ⟨arr,fr',e'⟩:=h a ha;rw [hag,hg] at e';simp at e';exact he e'.2.1
theorem Num.only {w w' v C V g} (h:Num w v C V) (hb:Only g w w') {cur e fr} (hg:w.heap[g]?=some (.cells cur e fr)) (he:e≠145):Num w' v C V:=by
 obtain ⟨ao,n,cap,f,rfl,h1,ht,h2,h3,h4,h5⟩:=h;have ho:=ht.off hg he;refine ⟨ao,n,cap,f,rfl,h1.only hb ho,fun a ha=>?_,h2,h3,h4,h5⟩;obtain ⟨arr,fr',e'⟩:=ht a ha;exact ⟨arr,fr',by rw [hb.block _ (Array.getElem?_eq_some_iff.1 e').1 (ho a ha)];exact e'⟩
theorem Num.grown {w w' v C V row} (h:Num w v C V) (hb:w.grownBy w' row) (hg:∀g,row=some g→∃cur fr,w.heap[g]?=some (.cells cur 22 fr)):Num w' v C V:=by
 cases row with
 | none=>exact h.below ⟨hb.os,hb.tape,hb.output,hb.size,fun k hk=>hb.block k hk (by simp)⟩
 | some g =>
  obtain ⟨cur,fr,e⟩:=hg g rfl;exact h.only (g:=g) ⟨hb.os,hb.tape,hb.output,hb.size,fun k hk hn=>hb.block k hk (by simpa using hn)⟩ e (by decide)
theorem Res.num {C w w' ao n cap f} (h:Res C w w' ao n cap f) (hC:C≤9223372036854775807):Num w' (.slice ao n cap) C (vf f n):=by
 refine ⟨ao,n,cap,f,rfl,h.rd,fun a ha=>?_,h.lm,h.fm,h.le,rfl,h.ncap.1,by have:=h.ncap;omega⟩;rcases h.own with ⟨rfl,_⟩ | ⟨g,rfl,_,_,_,_,hb⟩
 ·cases ha
 ·cases ha
  obtain ⟨arr,e,_⟩:=hb;exact ⟨arr,_,e⟩
theorem Num.mono {w v C C' V} (h:Num w v C V) (hC:C≤C'):Num w v C' V:=by
 obtain ⟨ao,n,cap,f,rfl,h1,ht,h2,h3,h4,h5⟩:=h;exact ⟨ao,n,cap,f,rfl,h1,ht,h2,h3,by omega,h5⟩
end Go.Proofs.YtdbbncamlaiajaaGreat
