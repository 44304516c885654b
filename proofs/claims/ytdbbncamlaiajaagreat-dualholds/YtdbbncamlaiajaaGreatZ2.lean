/-
 The walk of the document's reference for nat: bit, Bits, DivMod. Walks of package nat's shl and Shl: a number times 2^n. Walks of the document's reference for nat: the calls DocAdd, DocSub, DocCmp. Walks of nat.Shl and of the document's reference: Shl, DocShl. The walk of the document's reference for nat: half, Gcd. The walk of the document's reference for nat: Gcd. Walks of package nat: divMod by one limb or of a lesser number, gcd of one limb, and the calls DivMod and Gcd there. Walks of package nat's products, limb by limb: mulAdd, mulAddTo, addLimbProducts. Walks of package nat's products of a number and one of less than 40 limbs: addProduct, product, mul. Walks of package nat's products of long numbers: half, addPieceProducts.
-/
import Derived.Test.YtdbbncamlaiajaaGreatZ1
import Derived.Test.YtdbbncamlaiajaaGreatZ0
import Derived.Deep.RegionWith
import Derived.Deep.RegionHeld3
import Derived.BigQuiet
namespace Go.Proofs.YtdbbncamlaiajaaGreat
open Go.RowKit
theorem drewN_bel {w w':World} {q:Nat} (h:w'=w.drewN q):Below w.heap.size w w':=by rw [h];exact below_drewN (Below.refl _ _) _
theorem vd_upd {Q:Nat→Int} {p N:Nat} {t:Int} (hp:p<N):vd (upd Q p t) N=vd Q N+(t-Q p)*pd p:=by
 obtain ⟨d,rfl⟩:∃d,N=p+1+d:=⟨N-(p+1),by omega⟩;have e1:vd (upd Q p t) p=vd Q p:=vd_congr (fun j hj=>upd_other _ _ _ _ (by omega));have e2:vd (sh (upd Q p t) (p+1)) d=vd (sh Q (p+1)) d:=vd_congr (fun j hj=>upd_other _ _ _ _ (by omega));rw [vd_split (upd Q p t) (p+1) d,vd_split Q (p+1) d,vd_succ,vd_succ,e1,e2,upd_same]
 grind
theorem p2_pos (s:Nat):(0:Int)<2^s:=Int.pow_pos (by decide)
theorem p2_32 {s:Nat} (h:s≤32):(2:Int)^s*2^(32-s)=4294967296:=by rw [←Int.pow_add,show s+(32-s)=32 by omega];rfl
theorem p2_le {s:Nat} (h:s≤31):(2:Int)^s≤2147483648:=by
 have:(2:Int)^s*2^(31-s)=2147483648:=by rw [←Int.pow_add,show s+(31-s)=31 by omega];rfl
 have q0:(0:Int)<2^(31-s):=p2_pos _;have:=Int.mul_le_mul_of_nonneg_left (show (1:Int)≤2^(31-s) by omega) (Int.le_of_lt (p2_pos s));omega
theorem p2_succ (s:Nat):(2:Int)^(s+1)=2*2^s:=by rw [Int.pow_succ,Int.mul_comm]
theorem none_of_lt {D p:Int} (h0:0≤D*p) (h1:D*p<p) (hp:0<p):D=0:=by
 rcases Int.lt_trichotomy D 0 with h | h | h
 ·have:=Int.mul_le_mul_of_nonneg_right (show D ≤ -1 by omega) (Int.le_of_lt hp);omega
 ·exact h
 ·have:=Int.mul_le_mul_of_nonneg_right (show 1≤D by omega) (Int.le_of_lt hp);omega
theorem bit_room {Q:Nat→Int} {n j s:Nat} {V:Int} (h:Dg Q n) (hj:j<n) (hs:s≤31) (hv:vd Q n=V*(2^(s+1)*pd j)):Q j+2^s<4294967296:=by
 obtain ⟨d,rfl⟩:∃d,n=j+1+d:=⟨n-(j+1),by omega⟩;have a0:=vd_nonneg (h.mono (m:=j) (by omega));have a1:=vd_lt (h.mono (m:=j) (by omega));have hp:=pd_pos j;obtain ⟨q0,q1⟩:=h j (by omega);rw [vd_split,vd_succ,pd_succ] at hv;generalize vd (sh Q (j+1)) d=T at hv;have e:vd Q j=(V*2^(s+1)-Q j-T*4294967296)*pd j:=by grind
 have z:=none_of_lt (D:=V*2^(s+1)-Q j-T*4294967296) (p:=pd j) (by omega) (by omega) hp;have m:=p2_32 (s:=s+1) (by omega);have e3:Q j=2^(s+1)*(V-T*2^(32-(s+1))):=by grind
 have g0:=p2_pos (s+1);have g1:=p2_succ s;generalize (V-T*2^(32-(s+1)))=E at e3;have:E<2^(32-(s+1)):=by
  apply Int.lt_of_not_ge;intro hge
  have:=Int.mul_le_mul_of_nonneg_left hge (Int.le_of_lt g0);omega
 have:=Int.mul_le_mul_of_nonneg_left (show E≤2^(32-(s+1))-1 by omega) (Int.le_of_lt g0);rw [Int.mul_sub,Int.mul_one,m] at this;have:=p2_pos s;omega
theorem bit_num {f:Nat→Int} {n j s:Nat} (h:Dg f n) (hj:j<n) (hs:s≤31):f j/2^s%2=vd f n/2^(32*j+s)%2:=by
 obtain ⟨d,rfl⟩:∃d,n=j+1+d:=⟨n-(j+1),by omega⟩;have a0:=vd_nonneg (h.mono (m:=j) (by omega));have a1:=vd_lt (h.mono (m:=j) (by omega));have hp:=pd_pos j;rw [vd_split,vd_succ,pd_succ,Int.pow_add,←pd_pow];generalize vd (sh f (j+1)) d=T;have e:vd f j+f j*pd j+T*(4294967296*pd j)=vd f j+(f j+T*4294967296)*pd j:=by grind
 rw [e,←Int.ediv_ediv_of_nonneg (Int.le_of_lt hp),Int.add_mul_ediv_right _ _ (by omega),Int.ediv_eq_zero_of_lt a0 a1,Int.zero_add];have m:=p2_32 (s:=s) (by omega);have e2:f j+T*4294967296=f j+(T*2^(32-s))*2^s:=by rw [←m];grind
 have g:=p2_pos s;rw [e2,Int.add_mul_ediv_right _ _ (by omega)];have e3:(2:Int)^(32-s)=2*2^(31-s):=by rw [show 32-s=(31-s)+1 by omega,p2_succ]
 rw [e3];generalize f j/2^s=u;have e4:T*(2*2^(31-s))=2*(T*2^(31-s)):=by grind
 rw [e4];omega
theorem bits_top {f:Nat→Int} {n c:Nat} (h:Dg f (n+1)) (hc:f n<2^c):vd f (n+1)<2^(32*n+c):=by
 have a1:=vd_lt (h.mono (m:=n) (by omega));have hp:=pd_pos n;rw [vd_succ,Int.pow_add,←pd_pow];have:=Int.mul_le_mul_of_nonneg_right (show f n+1≤2^c by omega) (Int.le_of_lt hp);rw [Int.add_mul,Int.one_mul] at this;rw [Int.mul_comm (pd n)];omega
theorem bits_half {x t:Int} {c:Nat} (h1:x*2^c≤t) (h2:t<(x+1)*2^c):x/2*2^(c+1)≤t∧t<(x/2+1)*2^(c+1):=by
 have g:=p2_pos c;rw [p2_succ];have k1:=Int.mul_le_mul_of_nonneg_right (show 2*(x/2)≤x by omega) (Int.le_of_lt g);have k2:=Int.mul_le_mul_of_nonneg_right (show x+1≤2*(x/2)+2 by omega) (Int.le_of_lt g);generalize (2:Int)^c=P at *;generalize x/2=y at *;constructor
 ·have:y*(2*P)=2*y*P:=by grind
  omega
 ·have:(y+1)*(2*P)=(2*y+2)*P:=by grind
  omega
theorem bits_few {x t:Int} {c:Nat} (h1:x*2^c≤t) (hx:0<x) (ht:t<4294967296):c<32:=by
 apply Nat.lt_of_not_le;intro h
 obtain ⟨d,rfl⟩:=Nat.exists_eq_add_of_le h;have g:=p2_pos d;have g2:=p2_pos (32+d);have k1:=Int.mul_le_mul_of_nonneg_right (show 1≤x by omega) (Int.le_of_lt g2);have:(2:Int)^(32+d)=4294967296*2^d:=by rw [Int.pow_add];rfl
 have k2:=Int.mul_le_mul_of_nonneg_left (show (1:Int)≤2^d by omega) (show (0:Int)≤4294967296 by decide);omega
set_option maxRecDepth 100000 in
set_option maxHeartbeats 1000000 in
theorem rbit_c (ao:Option Addr) (n cap:Nat) (f:Nat→Int) (i:Nat) (w:World) (hn:n≤1048576) (hr:Rd .u64 w ao n f) (hf:Dg f n) (hi:i<32*n) :
  Calls Tryz.prog 154 #[.slice ao n cap,.int .i64 i] w fun e w'=>e=.returned (.int .u64 (vd f n/2^i%2))∧w'=w:=by
 obtain ⟨j,s,rfl,hs⟩:∃j s,i=32*j+s∧s≤31:=⟨i/32,i%32,by omega,by omega⟩;have hj:j<n:=by omega
 rw [←bit_num hf hj hs];obtain ⟨b,o,rfl⟩:=hr.at (by omega);obtain ⟨x,hx⟩:∃x,f j=x:=⟨_,rfl⟩;have hcell:=hr.cell hj;obtain ⟨x0,x1⟩:=hf j hj;rw [hx] at hcell x0 x1 ⊢;obtain ⟨z,hz⟩:∃z:Int,((32*j+s:Nat):Int)=z:=⟨_,rfl⟩;rw [hz];have z0:0≤z:=by omega
 have z1:z≤67108927:=by omega
 have h3:Int.tdiv z 32=(j:Int):=by rw [Int.tdiv_eq_ediv_of_nonneg z0];omega
 have h4:Int.tmod z 32=(s:Int):=by rw [Int.tmod_eq_emod_of_nonneg z0];omega
 have d0:0≤x/2^s:=Int.ediv_nonneg x0 (Int.le_of_lt (p2_pos s));have d1:x/2^s<4294967296:=Int.lt_of_le_of_lt (Int.ediv_le_self _ x0) x1;have HX:=hid hx;clear hx hz hr hf hi;go_enter Tryz.func154,Tryz.ntmps154;go_wp2;go_ret;exact ⟨rfl,rfl⟩
set_option maxRecDepth 100000 in
set_option maxHeartbeats 1000000 in
theorem rbits_c (ao:Option Addr) (n cap:Nat) (f:Nat→Int) (w:World) (hn:n≤1048576) (hr:Rd .u64 w ao n f) (hf:Dg f n) :
  Calls Tryz.prog 153 #[.slice ao n cap] w fun e w'=>∃B:Nat,e=.returned (.int .i64 B)∧(∃q,w'=w.drewN q)∧Hid (B≤32*n∧vd f n<2^B):=by
 cases n with
 | zero =>
  go_enter Tryz.func153,Tryz.ntmps153;go_wp2;go_ret;exact ⟨0,rfl,⟨0,rfl⟩,by omega,by simp [vd]⟩
 | succ n =>
  obtain ⟨b,o,rfl⟩:=hr.at (by omega);obtain ⟨t,ht⟩:∃t,f n=t:=⟨_,rfl⟩;have hcell:=hr.cell (j:=n) (by omega);obtain ⟨t0,t1⟩:=hf n (by omega);rw [ht] at hcell t0 t1;have HT:=hid ht;have HF:=hid hf
  clear ht hr hf;go_enter Tryz.func153,Tryz.ntmps153;go_wp2;go_loopw [3,4] (fun u v wr=>∃(c:Nat) (x:Int),c≤32∧u=.int .i64 ((32*n+c:Nat):Int)∧v=.int .u64 x∧0≤x∧x<4294967296∧Hid (x*2^c≤t∧t<(x+1)*2^c)∧∃q,wr=w.drewN q) (fun _ v _=>(intOf v).toNat)
  case atStart=>exact ⟨0,t,by omega,by go_num,rfl,t0,t1,⟨by rw [Int.pow_zero,Int.mul_one];exact Int.le_refl _,by rw [Int.pow_zero,Int.mul_one];omega⟩,0,rfl⟩
  case round =>
   obtain ⟨c,x,hc,rfl,rfl,x0,x1,HX,q,rfl⟩:=hrel;by_cases hx:0<x
   ·have hfew:=bits_few HX.out.1 hx t1;have hh:=bits_half HX.out.1 HX.out.2;have HH:=hid hh;clear hh;go_wp2;go_roundw
    case rel=>exact ⟨c+1,x/2,by omega,by go_num,by go_num,by omega,by omega,HH.out,q,rfl⟩
    case measure=>simp [intOf];omega
   ·obtain rfl:x=0:=by omega
    have htop:=bits_top (c:=c) HF.out (by rw [HT.out];have:=HX.out.2;simpa using this);have HTop:=hid htop;clear htop;go_wp2;go_ret;exact ⟨32*n+c,rfl,⟨q,rfl⟩,by omega,HTop.out⟩
theorem dWord_c {w:World} {V:Nat} (hV:V<4294967296) :
  Calls Tryz.prog 97 #[.int .u64 (V:Int)] w fun e w'=>∃z k c d,e=.returned (.slice z k c)∧Below w.heap.size w w'∧Hid (k≤1∧Dn w' z k d V) :=
 (word_c V w (by omega) (by omega)).mono (fun _ _ ⟨k,h1,h2,h3,h4,h5,h6⟩=>⟨_,k,2,_,h1,h2,h3,h4,fun j hj=>⟨by omega,by omega⟩,h6,by
  rcases (show k=0∨k=1 by omega) with h | h
  ·subst h;have:=h5 rfl;simp [vd];omega
  ·subst h;simp [vd,pd]⟩)
theorem dAddO_c {w x n c d A y m e g B} (ha:Dn w x n d A) (hb:Dn w y m g B) (hn:n≤1048576) (hm:m≤1048576) :
  Calls Tryz.prog 144 #[.slice x n c,.slice y m e] w fun e w'=>∃z k c' q,e=.returned (.slice z k c')∧Below w.heap.size w w'∧Hid (k≤n+m+1∧Dn w' z k q (A+B)∧∀a,z=some a→w.heap.size≤a.block) :=
 (raddO_c x y n m c e d g w (by omega) (by omega) ha.rd hb.rd ha.dg hb.dg).mono (fun _ _ ⟨z,k,c',q,h1,h2,h3,h4,h5,h6,h8,h7⟩=>⟨z,k,c',q,h1,h2,h4,⟨h3,h5,h6,by rw [h7,ha.val,hb.val];omega⟩,h8⟩)
theorem dSubO_c {w x n c d A y m e g B} (ha:Dn w x n d A) (hb:Dn w y m g B) (hn:n≤1048576) (hm:m≤1048576) (hle:B≤A) :
  Calls Tryz.prog 146 #[.slice x n c,.slice y m e] w fun e w'=>∃z k c' q,e=.returned (.slice z k c')∧Below w.heap.size w w'∧Hid (k≤n∧Dn w' z k q (A-B)∧∀a,z=some a→w.heap.size≤a.block) :=
 (rsubO_c x y n m c e d g w (by omega) (by omega) (vd_len hb.dg ha.dg hb.fm (by rw [ha.val,hb.val];omega)) ha.rd hb.rd ha.dg hb.dg (by rw [ha.val,hb.val];omega)).mono (fun _ _ ⟨z,k,c',q,h1,h2,h3,h4,h5,h6,h8,h7⟩=>⟨z,k,c',q,h1,h2,h4,⟨h3,h5,h6,by rw [h7,ha.val,hb.val];omega⟩,h8⟩)
theorem Dn.len {w x n d A y m g B} (ha:Dn w x n d A) (hb:Dn w y m g B) (hle:A≤B):n≤m:=vd_len ha.dg hb.dg ha.fm (by rw [ha.val,hb.val];omega)
theorem Dn.setq {w x n d A} {G i:Nat} {u:Value} (h:Dn w x n d A) (hG:∀a,x=some a→G<a.block):Dn (w.setCell ⟨G,i,none⟩ u) x n d A:=⟨h.rd.only ((Only.refl _ _).setCell _ _ _) (fun a ha=>by have:=hG a ha;omega),h.dg,h.fm,h.val⟩
theorem div_next0 {A V Qv R β:Nat} {k:Nat} (h:A/2^(k+1)=Qv*V+R) (hb:A/2^k%2=β):A/2^k=2*Qv*V+(R+R+β):=by
 have:A/2^(k+1)=A/2^k/2:=by rw [Nat.pow_succ,Nat.div_div_eq_div_mul]
 have e:2*Qv*V=2*(Qv*V):=Nat.mul_assoc _ _ _;omega
theorem div_next1 {A V Qv R β:Nat} {k:Nat} (h:A/2^(k+1)=Qv*V+R) (hb:A/2^k%2=β) (hge:V≤R+R+β):A/2^k=(2*Qv+1)*V+(R+R+β-V):=by
 have:=div_next0 h hb;rw [Nat.add_mul,Nat.one_mul];omega
theorem div_end {A V Q R:Nat} (h:A=Q*V+R) (hR:R<V):A/V=Q∧A%V=R:=by
 subst h;constructor
 ·rw [Nat.mul_comm,Nat.mul_add_div (by omega),Nat.div_eq_of_lt hR,Nat.add_zero]
 ·rw [Nat.mul_comm,Nat.mul_add_mod,Nat.mod_eq_of_lt hR]
set_option maxRecDepth 100000 in
set_option maxHeartbeats 4000000 in
theorem rdivL_c {w:World} {x:Option Addr} {n c:Nat} {f:Nat→Int} {A:Nat} {y:Option Addr} {m e:Nat} {g:Nat→Int} {V:Nat} (ha:Dn w x n f A) (hb:Dn w y m g V) (hn:n≤520000) (hm:m≤520000) (hV:0<V) (hm1:m≠1) :
  Calls Tryz.prog 131 #[.slice x n c,.slice y m e] w fun e w'=>∃zq kq cq q zr kr cr r,e=.returned (.tuple #[.slice zq kq cq,.slice zr kr cr])∧Below w.heap.size w w'∧Hid (kq≤n∧kr≤m∧Dn w' zq kq q (A/V)∧Dn w' zr kr r (A%V)):=by
 have HA:=hid ha;have HB:=hid hb
 clear ha hb;have hmd:((m:Int)==1)=false:=by simp;omega
 go_enter Tryz.func131,Tryz.ntmps131;go_wp2_with (at_make;refine wpList_make_blk .u64 w rfl (.tmp 20) (.tmp 20) 22 rfl 145 8 Tryz.underlying22 Tryz.infoU64 .i64 .i64 n n n rfl rfl rfl rfl (by omega) (by unfold maxLen;omega) ?_;intro wa hba hbela)
 have HAa:=hid (HA.out.below hbela);have HBa:=hid (HB.out.below hbela)
 have HQ:=hid hba;have HW:=hid hbela
 clear hba hbela;refine (rbits_c x n c f _ (by omega) HAa.out.rd HAa.out.dg).mono ?_;rintro e w1 ⟨B,rfl,⟨q0,hq⟩,HBt⟩;have hb:=drewN_bel hq;have HQ1:=hid (HQ.out.below hb HQ.out.lt);have HW1:=hid (HW.out.trans (hb.mono HW.out.size))
 clear hq hb HQ HW HAa HBa;have hB32:=HBt.out.1;go_wp2;go_loopw [7,8] (fun u t wr=>∃(k kr cr R Qv:Nat) (z:Option Addr) (d Q:Nat→Int),k≤B∧t=.int .i64 ((k:Int)-1)∧u=.slice z kr cr∧Hid (Below w.heap.size w wr)∧Hid (Blk .u64 145 wr w.heap.size n Q)∧Hid (Dg Q n)∧Hid (Dn wr z kr d R)∧Hid (∀a,z=some a→w.heap.size<a.block)∧Hid (R<V)∧Hid (vd Q n=((Qv*2^k:Nat):Int))∧Hid (A/2^k=Qv*V+R)) (fun _ t _=>(intOf t+1).toNat)
 case atStart =>
  refine ⟨B,0,0,0,0,none,fun _=>0,fun _=>0,by omega,rfl,rfl,HW1.out,HQ1.out,fun j _=>⟨Int.le_refl 0,show (0:Int)<4294967296 by decide⟩,⟨Rd.zero,fun j hj=>by omega,.inl rfl,rfl⟩,(fun a h=>by cases h),hV,hid (by rw [vd_zero (fun _ _=>rfl)];simp),hid ?_⟩;have h2:=HBt.out.2;rw [HA.out.val] at h2;rw [Nat.div_eq_of_lt (by exact_mod_cast h2)];omega
 case round =>
  clear HQ1 HW1;obtain ⟨k,kr,cr,R,Qv,z,d,Q,hk,rfl,rfl,HWr,HQr,HDg,HR,HO,HRV,HVq,HVa⟩:=hrel;have HAr:=hid (HA.out.below HWr.out);have HBr:=hid (HB.out.below HWr.out)
  have hkr:kr≤m:=HR.out.len HBr.out (Nat.le_of_lt HRV.out);cases k with
  | zero =>
   go_wp2_with fail
   refine (low_c (some ⟨w.heap.size,0,none⟩) n n Q wr (Nat.le_refl _) (by omega) (HQr.out.rd0 (Nat.le_refl _)) (fun h=>by cases h)).mono ?_;rintro e w2 ⟨rfl,k1,hk1,hz,hfm,rfl⟩;have HZ2:=hid hz;have HFM:=hid hfm
   clear hz hfm;go_wp2
   go_ret2
   have hA:A=Qv*V+R:=by have:=HVa.out;simpa using this
   obtain ⟨e1,e2⟩:=div_end hA HRV.out;refine ⟨_,k1,_,Q,z,kr,cr,d,rfl,HWr.out,hk1,hkr,⟨(HQr.out.rd0 (Nat.le_refl _)).take hk1,HDg.out.mono hk1,HFM.out,?_⟩,by rw [e2];exact HR.out⟩;rw [trim_vald hk1 HZ2.out,HVq.out,e1];simp
  | succ k =>
   have hkb:k<32*n:=by have:=HBt.out.1;omega
   obtain ⟨β,hβ⟩:∃β,A/2^k%2=β:=⟨_,rfl⟩;have hβ1:β<2:=by rw [←hβ];exact Nat.mod_lt _ (by decide)
   have HBe:=hid hβ;have CB:=hid (show ∀W,Below wr.heap.size wr W→Calls Tryz.prog 154 #[.slice x n c,.int .i64 (k:Int)] W fun e w'=>e=.returned (.int .u64 (β:Int))∧w'=W from fun W hW=>(rbit_c x n c f k W (by omega) (HAr.out.below hW).rd HAr.out.dg hkb).mono (fun e w' ⟨h1,h2⟩=>⟨by rw [h1,HAr.out.val,←hβ];simp,h2⟩));clear hβ;go_wp2_with fail
   refine (dAddO_c HR.out HR.out (by omega) (by omega)).mono ?_;rintro e w2 ⟨z2,k2,c2,d2,rfl,hb2,H2⟩;have HB2:=hid hb2;clear hb2;go_wp2_with fail
   refine (CB.out _ HB2.out).mono ?_;rintro e w3 ⟨rfl,rfl⟩;go_wp2_with fail
   refine (dWord_c (V:=β) (by omega)).mono ?_;rintro e w4 ⟨z4,k4,c4,d4,rfl,hb4,H4⟩;have HB4:=hid hb4;clear hb4;have hk2:=H2.out.1;have hk4:=H4.out.1
   go_wp2_with fail
   refine (dAddO_c (H2.out.2.1.below HB4.out) H4.out.2 (by omega) (by omega)).mono ?_;rintro e w5 ⟨z5,k5,c5,d5,rfl,hb5,H5⟩;have HB5:=hid (HB2.out.trans ((HB4.out.mono HB2.out.size).trans (hb5.mono (Nat.le_trans HB2.out.size HB4.out.size))));have hk5:=H5.out.1;have HO5:Hid (∀a,z5=some a→w.heap.size<a.block):=fun a ha=>by
    have h1:=H5.out.2.2 a ha;have h2:=HB2.out.size;have h3:=HB4.out.size;have h4:=HQr.out.lt;omega
   clear hb5 HB2 HB4 H2 H4 CB;go_wp2_with fail
   refine (rcmp_c z5 y k5 m c5 e d5 g _ (by omega) (by omega) H5.out.2.1.rd (HBr.out.below HB5.out).rd H5.out.2.1.dg HBr.out.dg H5.out.2.1.fm HBr.out.fm).mono ?_;rintro e w6 ⟨⟨q6,hq6⟩,cc,rfl,hord⟩;have hb6:=drewN_bel hq6;rw [H5.out.2.1.val,HBr.out.val] at hord;have HB6:=hid (HB5.out.trans (hb6.mono HB5.out.size));have H6:=hid (H5.out.2.1.below hb6)
   clear hq6 hb6 HB5 H5;by_cases hge:V≤R+R+β
   ·have hsg:decide ((0:Int)≤cc)=true:=by
     rcases hord with ⟨h1,h2⟩ | ⟨h1,h2⟩ | ⟨h1,h2⟩ <;> subst h1 <;> first | rfl | (exfalso;omega)
    clear hord;go_wp2_with fail
    refine (dSubO_c H6.out (HBr.out.below HB6.out) (by omega) (by omega) hge).mono ?_;rintro e w7 ⟨z7,k7,c7,d7,rfl,hb7,H7⟩;have HB7:=hid (HB6.out.trans (hb7.mono HB6.out.size));have HO7:Hid (∀a,z7=some a→w.heap.size<a.block):=fun a ha=>by
     have h1:=H7.out.2.2 a ha;have h2:=HB6.out.size;have h4:=HQr.out.lt;omega
    clear hb7 HB6 H6 hsg;obtain ⟨j,s,hjs,hs⟩:∃j s,k=32*j+s∧s≤31:=⟨k/32,k%32,by omega,by omega⟩;have hj:j<n:=by omega
    have HQ7:=hid (HQr.out.below HB7.out HQr.out.lt);obtain ⟨u,hu⟩:∃u,Q j=u:=⟨_,rfl⟩;have hcell:=HQ7.out.cell hj;have hfz:=HQ7.out.frozen j;obtain ⟨u0,u1⟩:=HDg.out j hj;have hpow:((Qv*2^(k+1):Nat):Int)=(Qv:Int)*(2^(s+1)*pd j):=by
     rw [pd_pow,←Int.pow_add,hjs,show s+1+32*j=32*j+s+1 by omega];simp
    have hroom:=bit_room HDg.out hj hs (HVq.out.trans hpow);rw [hu] at hcell u0 u1 hroom;have hp0:=p2_pos s;have hp1:=p2_le hs;obtain ⟨P,hP⟩:∃P:Int,2^s=P:=⟨_,rfl⟩;rw [hP] at hp0 hp1 hroom;have z1:(k:Int)≤67108927:=by omega
    have h3:Int.tdiv (k:Int) 32=(j:Int):=by rw [Int.tdiv_eq_ediv_of_nonneg (by omega)];omega
    have h4:Int.tmod (k:Int) 32=(s:Int):=by rw [Int.tmod_eq_emod_of_nonneg (by omega)];omega
    have h5:IntKind.u64.wrap (2^s)=P:=by rw [hP,IntKind.wrap_u64];omega
    have h6:k/32=j:=by omega
    have h7:k%32=s:=by omega
    have h8:(k:Int)/32=(j:Int):=by omega
    have h9:(k:Int)%32=(s:Int):=by omega
    have HU:=hid hu;have HP:=hid hP;have HJS:=hid hjs
    clear hu hP hpow hjs;go_wp2_with fail
    go_region
    all_goals go_wp2
    go_roundw
    case rel =>
     refine ⟨k,k7,c7,R+R+β-V,2*Qv+1,z7,d7,upd Q j (u+P),by omega,by go_num,rfl,below_only (HWr.out.trans (HB7.out.mono HWr.out.size)) (((Only.refl _ _).setCell _ _ _).drew) (Nat.le_refl _) (Nat.le_trans HWr.out.size HB7.out.size),(HQ7.out.set _ _).drew,HDg.out.upd ⟨by omega,hroom⟩,(H7.out.2.1.setq HO7.out).drew,HO7.out,hid ?_,hid ?_,hid (div_next1 HVa.out HBe.out hge)⟩
     ·have:=HRV.out;omega
     ·rw [vd_upd hj,HVq.out,HU.out,←HP.out,pd_pow,show u+2^s-u=(2:Int)^s by omega,←Int.pow_add,show s+32*j=k by have:=HJS.out;omega,Nat.pow_succ]
      push_cast
      grind
    case measure=>simp [intOf]
   ·have hsg:decide ((0:Int)≤cc)=false:=by
     rcases hord with ⟨h1,h2⟩ | ⟨h1,h2⟩ | ⟨h1,h2⟩ <;> subst h1 <;> first | rfl | (exfalso;omega)
    clear hord;go_wp2;go_roundw
    case rel =>
     refine ⟨k,k5,c5,R+R+β,2*Qv,z5,d5,Q,by omega,by go_num,rfl,HWr.out.trans (HB6.out.mono HWr.out.size),HQr.out.below HB6.out HQr.out.lt,HDg.out,H6.out,HO5.out,hid (by omega),hid ?_,hid (div_next0 HVa.out HBe.out)⟩;rw [HVq.out,Nat.pow_succ];push_cast;grind
    case measure=>simp [intOf]
set_option maxRecDepth 100000 in
set_option maxHeartbeats 2000000 in
theorem rdivS_c {w:World} {x:Option Addr} {n c:Nat} {f:Nat→Int} {A:Nat} {y:Option Addr} {e:Nat} {g:Nat→Int} {V:Nat} (ha:Dn w x n f A) (hb:Dn w y 1 g V) (hn:n≤520000) :
  Calls Tryz.prog 131 #[.slice x n c,.slice y 1 e] w fun e w'=>∃zq kq cq q zr kr cr r,e=.returned (.tuple #[.slice zq kq cq,.slice zr kr cr])∧Below w.heap.size w w'∧Hid (kq≤n∧kr≤1∧Dn w' zq kq q (A/V)∧Dn w' zr kr r (A%V)):=by
 obtain ⟨b,o,rfl⟩:=hb.rd.at (by omega);have hcell:=hb.rd.cell (j:=0) (by omega);obtain ⟨t0,t1⟩:=hb.dg 0 (by omega);have hv:=hb.val;have hne:g 0≠0:=by rcases hb.fm with h | h;omega;exact h
 obtain ⟨t,ht⟩:∃t,g 0=t:=⟨_,rfl⟩;have hv1:vd g 1=g 0:=by simp [vd,pd]
 rw [hv1] at hv;rw [ht] at hcell t0 t1 hv hne;rw [Nat.add_zero] at hcell;have HA:=hid ha;have HV:=hid hv
 clear ha hb ht hv hv1;go_enter Tryz.func131,Tryz.ntmps131;go_wp2_with fail
 refine (short_c x n c f t _ (by omega) HA.out.rd HA.out.dg (by omega) t1).mono ?_;rintro e w2 ⟨a1,k1,c1,q,a2,k2,c2,R,rfl,hb2,hk1,hr1,hd1,hf1,hk2,hr2,hx2,hf2,hR0,hR1,hval⟩;have hq0:=vd_nonneg hd1;have hres:Hid (k1≤n∧k2≤1∧Dn w2 a1 k1 q (A/V)∧Dn w2 a2 k2 (fun _=>R) (A%V)):=by
  obtain ⟨Q,hQ⟩:∃Q:Nat,vd q k1=Q:=⟨(vd q k1).toNat,by omega⟩;obtain ⟨r,hr⟩:∃r:Nat,R=r:=⟨R.toNat,by omega⟩;have e1:A=Q*V+r:=by
   rw [HA.out.val,hQ,hr,HV.out] at hval
   exact_mod_cast hval
  obtain ⟨e2,e3⟩:=div_end e1 (by have:=HV.out;omega);refine ⟨hk1,hk2,⟨hr1,hd1,hf1,by rw [hQ,e2]⟩,⟨hr2,fun j hj=>⟨hR0,by omega⟩,hf2,?_⟩⟩;rw [e3];rcases (show k2=0∨k2=1 by omega) with h | h
  ·subst h;have:=hx2 rfl;simp [vd];omega
  ·subst h;simp [vd,pd];exact hr
 have HB2:=hid hb2;clear hb2 hr1 hd1 hf1 hr2 hx2 hf2 hval hq0;go_wp2
 go_ret2
 exact ⟨a1,k1,c1,q,a2,k2,c2,_,rfl,HB2.out,hres.out⟩
theorem rdiv_c {w:World} {x:Option Addr} {n c:Nat} {f:Nat→Int} {A:Nat} {y:Option Addr} {m e:Nat} {g:Nat→Int} {V:Nat} (ha:Dn w x n f A) (hb:Dn w y m g V) (hn:n≤520000) (hm:m≤520000) (hV:0<V) :
  Calls Tryz.prog 131 #[.slice x n c,.slice y m e] w fun e w'=>∃zq kq cq q zr kr cr r,e=.returned (.tuple #[.slice zq kq cq,.slice zr kr cr])∧Below w.heap.size w w'∧Hid (kq≤n∧kr≤m∧Dn w' zq kq q (A/V)∧Dn w' zr kr r (A%V)):=by
 by_cases h1:m=1
 ·subst h1;exact rdivS_c ha hb hn
 ·exact rdivL_c ha hb hn hm hV h1
theorem or_comm64 (x y:Int):bits BinOp.or .u64 x y=bits BinOp.or .u64 y x:=by simp only [bits];rw [BitVec.or_comm]
theorem shl_nums (x y s:Int) (x0:0≤x) (x1:x<18446744073709551616) (s0:0≤s) (s1:s≤63) (y0:0≤y) (y1:y<2^s.toNat) :
  ∃L Z H,IntKind.u64.wrap (x*2^s.toNat)=L∧0≤L∧L<18446744073709551616∧bits BinOp.or .u64 y L=Z∧0≤Z∧Z<18446744073709551616∧x/2^(64-s).toNat=H∧0≤H∧H<18446744073709551616∧Hid (H<2^s.toNat)∧Hid (Z=y+x%2^(64-s).toNat*2^s.toNat):=by
 have hPQ:(2:Int)^s.toNat*2^(64-s).toNat=18446744073709551616:=by rw [←Int.pow_add,show s.toNat+(64-s).toNat=64 by omega];rfl
 have p0:(0:Int)<2^s.toNat:=Int.pow_pos (by decide);have q0:(0:Int)<2^(64-s).toNat:=Int.pow_pos (by decide);obtain ⟨c1,c2,c3,c4,c5⟩:=limb_cut x0 x1 hPQ p0 q0;have hP:(2:Int)^s.toNat≤18446744073709551616:=by
  rw [←hPQ];have:=Int.mul_le_mul_of_nonneg_left (show (1:Int)≤2^(64-s).toNat by omega) (Int.le_of_lt p0);omega
 have hL:IntKind.u64.wrap (x*2^s.toNat)=x%2^(64-s).toNat*2^s.toNat:=by rw [IntKind.wrap_u64,c1]
 refine ⟨_,_,_,hL,c4,by omega,?_,?_,?_,rfl,c2,by omega,c3,rfl⟩
 ·rw [or_comm64 y,bits_join .u64 64 (by decide) wraps_u64 s.toNat _ _ c4 (Int.mul_emod_left _ _) (by omega) y0 y1 (by omega),Int.add_comm]
 ·omega
 ·omega
set_option maxRecDepth 100000 in
set_option maxHeartbeats 1000000 in
theorem shl_c (ao:Option Addr) (n cap skip:Nat) (z s:Int) (f:Nat→Int) (w:World) (hn:n≤8796093022208) (hk:skip≤1048576) (s0:0≤s) (s1:s≤63) (hz:z=64*skip+s) (hr:Rd .u64 w ao n f) (hf:Lm f n) :
  Calls Tryz.prog 196 #[.slice ao n cap,.int .i64 z] w fun e w'=>∃ao' m cap' f',e=.returned (.slice ao' m cap')∧Res (skip+n+1) w w' ao' m cap' f'∧vf f' m=vf f n*2^s.toNat*pw skip:=by
 have HF:=hid hf;have HRd:=hid hr;clear hf hr;have z0:0≤z:=by omega
 have z1:z≤67108927:=by omega
 have h1:z/64=(skip:Int):=by omega
 have h2:z%64=s:=by omega
 have h3:Int.tdiv z 64=(skip:Int):=by rw [Int.tdiv_eq_ediv_of_nonneg z0];exact h1
 have h4:Int.tmod z 64=s:=by rw [Int.tmod_eq_emod_of_nonneg z0];exact h2
 clear hz;go_enter Tryz.func196,Tryz.ntmps196;go_wp2_with (at_make;refine wpList_make_blk .u64 w rfl (.tmp 17) (.tmp 17) 22 rfl 145 8 Tryz.underlying22 Tryz.infoU64 .i64 .i64 _ _ (skip+n+1) rfl rfl (by omega) (by omega) (by omega) (by unfold maxLen;omega) ?_;intro w1 hb1 hbel1)
 go_loopw [21] (fun t wr=>∃(k:Nat) (F:Nat→Int),k≤n∧t=.int .i64 k∧Below w.heap.size w wr∧Blk .u64 145 wr w.heap.size (skip+n+1) F∧Hid (Lm F (skip+n+1))∧Hid (∀j,j<skip∨skip+k<j→F j=0)∧Hid (F (skip+k)<2^s.toNat)∧Hid (vf (sh F skip) (k+1)=vf f k*2^s.toNat)) (fun t _=>n-(intOf t).toNat)
 case atStart=>exact ⟨0,fun _=>0,by omega,rfl,hbel1,hb1,fun j hj=>⟨Int.le_refl 0,show (0:Int)<18446744073709551616 by decide⟩,fun j hj=>rfl,Int.pow_pos (by decide),by simp [Hid,vf,sh]⟩
 case round =>
  clear hb1 hbel1;obtain ⟨k,F,hkn,rfl,hbel,hbl,HL,HZ,HT,HV⟩:=hrel;by_cases hlt:k<n
  ·have hr:=HRd.out;obtain ⟨b,ob,rfl⟩:=hr.at (by omega);obtain ⟨y,hy⟩:∃y,F (skip+k)=y:=⟨_,rfl⟩;obtain ⟨x,hx⟩:∃x,f k=x:=⟨_,rfl⟩;have hcell:wr.cell? ⟨w.heap.size,skip+k,none⟩=some (.int .u64 y):=by rw [←hy];exact hbl.cell (by omega)
   have hcelb:wr.cell? ⟨b,ob+k,none⟩=some (.int .u64 x):=by rw [←hx];exact (hr.below hbel (Nat.le_refl _)).cell hlt
   have hbw:b<w.heap.size:=World.block_lt_of_cell? w _ (hr.cell hlt);have hfz:=hbl.frozen (skip+k);have hfz2:=hbl.frozen (skip+k+1);obtain ⟨y0,y1⟩:=HL.out (skip+k) (by omega);obtain ⟨x0,x1⟩:=HF.out k hlt;rw [hx] at x0 x1;rw [hy] at y0 y1;obtain ⟨L,Z,H,eL,L0,L1,eZ,Z0,Z1,eH,H0,H1,HH,HZ2⟩:=shl_nums x y s x0 x1 s0 s1 y0 (by rw [←hy];exact HT.out);have HX:=hid hx;have HY:=hid hy;clear hx hy hr;have hcelb2:∀(v:Value),(wr.setCell ⟨w.heap.size,skip+k,none⟩ v).cell? ⟨b,ob+k,none⟩=some (.int .u64 x):=fun v=>by
    rw [World.cell?_of_block (Below.heap_setCell _ _ _ _ (by simp;omega))];exact hcelb
   have hcelb3:∀(v:Value),(wr.setCell ⟨w.heap.size,skip+k,none⟩ v).drew.cell? ⟨b,ob+k,none⟩=some (.int .u64 x):=hcelb2;have hcell2:wr.cell? ⟨w.heap.size,skip+k+1,none⟩=some (.int .u64 0):=by rw [←HZ.out (skip+k+1) (by omega)];exact hbl.cell (by omega)
   go_wp2
   go_region
   all_goals
    go_wp2;go_roundw
    case rel =>
     refine ⟨k+1,_,by omega,by go_num,?_,((hbl.set (skip+k) Z).set (skip+k+1) H),?_,?_,?_,?_⟩
     ·exact below_only hbel ((((Only.refl _ _).setCell _ _ _).setCell _ _ _).drew) (Nat.le_refl _) hbel.size
     ·exact (HL.out.upd ⟨Z0,Z1⟩).upd ⟨H0,H1⟩
     ·intro j hj;rw [upd_other _ _ _ _ (by omega),upd_other _ _ _ _ (by omega)];exact HZ.out j (by omega)
     ·show _<_;rw [←Nat.add_assoc,upd_same];exact HH.out
     ·have:=shl_step (Q:=2^(64-s).toNat) HV.out HX.out HY.out (by rw [←Int.pow_add,show s.toNat+(64-s).toNat=64 by omega];rfl);rw [←HZ2.out,eH] at this;exact this
    case measure=>simp [intOf];omega
  ·have hkn2:k=n:=by omega
   subst hkn2;go_wp2_with fail
   refine (trim_res w.heap.size (skip+k+1) (skip+k+1) F w wr hbel (Nat.le_refl _) hbl (Nat.le_refl _) (by omega) HL.out).mono ?_;rintro e w3 ⟨rfl,ao2,m,cap2,rfl,hres,hmn,hv⟩;have HV3:=hid hv;clear hv;go_wp2;go_ret;refine ⟨ao2,m,cap2,F,rfl,hres,?_⟩;rw [HV3.out,Nat.add_assoc,vf_ahead (fun j hj=>HZ.out j (.inl hj)),HV.out]
set_option maxRecDepth 100000 in
set_option maxHeartbeats 2000000 in
theorem rshl_c (ao:Option Addr) (n ca o:Nat) (z s:Int) (f:Nat→Int) (w:World) (hn:n≤1048576) (ho:o≤1048576) (s0:0≤s) (s1:s≤31) (hz:z=32*o+s) (hr:Rd .u64 w ao n f) (hf:Dg f n) :
  Calls Tryz.prog 150 #[.slice ao n ca,.int .i64 z] w fun e w'=>∃ao' k cap' D,e=.returned (.slice ao' k cap')∧Below w.heap.size w w'∧Rd .u64 w' ao' k D∧k≤o+n+1∧Dg D k∧Fm D k∧vd D k=vd f n*(2^s.toNat*pd o):=by
 have HF:=hid hf;have HRd:=hid hr;clear hf hr;have z0:0≤z:=by omega
 have z1:z≤67108927:=by omega
 have h1:z/32=(o:Int):=by omega
 have h2:z%32=s:=by omega
 have h3:Int.tdiv z 32=(o:Int):=by rw [Int.tdiv_eq_ediv_of_nonneg z0];exact h1
 have h4:Int.tmod z 32=s:=by rw [Int.tmod_eq_emod_of_nonneg z0];exact h2
 clear hz;by_cases hn0:n=0
 ·subst hn0;go_enter Tryz.func150,Tryz.ntmps150;go_wp2;go_ret;exact ⟨none,0,0,f,rfl,Below.refl _ _,Rd.zero,by omega,fun j hj=>by omega,.inl rfl,by simp [vd]⟩
 ·have hnz:((n:Int)==0)=false:=by simp;omega
  have p0:(0:Int)<2^s.toNat:=Int.pow_pos (by decide);have p1:(2:Int)^s.toNat≤2147483648:=by
   have:(2:Int)^s.toNat*2^(31-s).toNat=2147483648:=by rw [←Int.pow_add,show s.toNat+(31-s).toNat=31 by omega];rfl
   have q0:(0:Int)<2^(31-s).toNat:=Int.pow_pos (by decide);have:=Int.mul_le_mul_of_nonneg_left (show (1:Int)≤2^(31-s).toNat by omega) (Int.le_of_lt p0);omega
  have P0:=hid p0;have P1:=hid p1;clear p0 p1;go_enter Tryz.func150,Tryz.ntmps150;go_wp2_with (at_make;refine wpList_make_two .u64 w rfl (.tmp 13) (.tmp 19) 22 rfl 145 8 Tryz.underlying22 Tryz.infoU64 .i64 .i64 _ _ o (o+n+1) rfl rfl (by omega) (by omega) (by omega) (by omega) (by unfold maxLen;omega) ?_;intro w1 hb1 hbel1)
  have HO1:=hid (own_of_blk hb1 (base:=w.heap.size) (n:=o) (Nat.le_refl _) (by omega) (by unfold maxLen;omega));clear hb1;go_loopw [5,6,23] (fun v c t wr=>∃(k:Nat) (cc:Int) (D:Nat→Int),k≤n∧t=.int .i64 k∧c=.int .u64 cc∧0≤cc∧cc<2147483648∧Hid (cc<2^s.toNat)∧Below w.heap.size w wr∧Hid (Own .u64 145 wr w.heap.size v (o+k) D)∧Hid (Dg D (o+k))∧Hid (vd D (o+k)+cc*pd (o+k)=vd f k*(2^s.toNat*pd o))) (fun _ _ t _=>n-(intOf t).toNat)
  case atStart=>exact ⟨0,0,fun _=>0,by omega,rfl,rfl,by omega,by omega,P0.out,hbel1,HO1.out,fun j hj=>⟨Int.le_refl 0,show (0:Int)<4294967296 by decide⟩,by simp [Hid,vd,vd_zero]⟩
  case round =>
   clear hbel1 HO1;obtain ⟨k,cc,D,hk,rfl,rfl,c0,c1,HC,hbel,HO,HDg,HV⟩:=hrel;by_cases hlt:k<n
   ·have hrA:=HRd.out;obtain ⟨b,ob,rfl⟩:=hrA.at (by omega);obtain ⟨x,hx⟩:∃x,f k=x:=⟨_,rfl⟩;have hcell:wr.cell? ⟨b,ob+k,none⟩=some (.int .u64 x):=by rw [←hx];exact (hrA.below hbel (Nat.le_refl _)).cell hlt
    obtain ⟨x0,x1⟩:=HF.out k hlt;rw [hx] at x0 x1;have HX:=hid hx;clear hx hrA;obtain ⟨d1,d2,d3,d4,d5⟩:=dshl_carry c0 HC.out x0 x1 P0.out;obtain ⟨X,eX,HXe⟩:∃X,IntKind.u64.wrap (x*2^s.toNat)=X∧Hid (X=x*2^s.toNat):=⟨x*2^s.toNat,by have:=P1.out;rw [IntKind.wrap_u64];omega,rfl⟩;have X0:0≤X:=by rw [HXe.out];exact d4
    have X1:X<9223372036854775808:=by have:=P1.out;rw [HXe.out];omega
    have HD3:=hid d3;clear d1 d2 d3 d4 d5;go_wp2_with (at_builtin;refine wpList_append_own_list .u64 _ rfl (.tmp 33) (.tmp 36) 22 rfl w.heap.size 145 8 Tryz.underlying22 Tryz.infoU64 _ (o+k) D rfl (Own.alloc HO.out _) wr.heap.size 0 1 1 (fun _=>(cc+X)%4294967296) rfl (rd_new1 wr _ _) ?c1 ?c2 ?c3 ?_)
    case c1=>unfold maxLen;omega
    case c2=>omega
    case c3=>have:=hbel.size;simp;omega
    intro v' w' hown hgr;have hbel2:Below w.heap.size w w':=(hbel.alloc hbel.size _).grown hgr (by have:=hbel.size;simp;omega) (fun k h=>(Own.ge HO.out k h));have HO2:=hid hown;clear hown hgr HO;go_wp2;go_roundw
    case rel =>
     refine ⟨k+1,_,_,by omega,by go_num,rfl,by omega,?_,?_,hbel2,HO2.out,dg_cat1 HDg.out (by omega),?_⟩
     ·have h5:=HD3.out;have h6:=P1.out;rw [←HXe.out] at h5;omega
     ·have h5:=HD3.out;rw [←HXe.out] at h5;exact h5
     ·have h5:=dshl_step HV.out HX.out;rw [←HXe.out] at h5;exact h5
    case measure=>simp [intOf];omega
   ·have hkn:k=n:=by omega
    subst hkn;go_wp2_with (at_builtin;refine wpList_append_own_list .u64 _ rfl (.tmp 41) (.tmp 43) 22 rfl w.heap.size 145 8 Tryz.underlying22 Tryz.infoU64 _ (o+k) D rfl (Own.alloc HO.out _) wr.heap.size 0 1 1 (fun _=>cc) rfl (rd_new1 wr _ _) ?c1 ?c2 ?c3 ?_)
    case c1=>unfold maxLen;omega
    case c2=>omega
    case c3=>have:=hbel.size;simp;omega
    intro v' w' hown hgr;have hbel2:Below w.heap.size w w':=(hbel.alloc hbel.size _).grown hgr (by have:=hbel.size;simp;omega) (fun k h=>(Own.ge HO.out k h));obtain ⟨ao',cap',hv,hcc,hnn,hml,hrd,hlt3⟩:=Own.shape hown;unfold maxLen at hml;subst hv;clear hown hgr HO hlt3;go_wp2_with fail
    refine (low_c ao' (o+k+1) cap' (cat D (o+k) (fun _=>cc)) w' hcc hml hrd hnn).mono ?_;rintro e w2 ⟨rfl,m',hm1,hz,hfm,rfl⟩;have HZ:=hid hz;have HFM:=hid hfm;clear hz hfm;go_wp2;go_ret;refine ⟨ao',m',cap',_,rfl,hbel2,hrd.take hm1,by omega,(dg_cat1 HDg.out (by omega)).mono hm1,HFM.out,?_⟩;rw [trim_vald hm1 HZ.out,vd_cat1,HV.out]
theorem two_cop {b:Nat} (h:b%2=1):Nat.Coprime 2 b:=by
 unfold Nat.Coprime;have h1:Nat.gcd 2 b ∣ 2:=Nat.gcd_dvd_left _ _;have h2:Nat.gcd 2 b ∣ b:=Nat.gcd_dvd_right _ _;have h3:=Nat.le_of_dvd (by decide) h1;have h4:Nat.gcd 2 b≠0:=by intro h;rw [h] at h1;simp at h1
 rcases (show Nat.gcd 2 b=1∨Nat.gcd 2 b=2 by omega) with h5 | h5
 ·exact h5
 ·rw [h5] at h2;omega
theorem gcd_half2 {a b:Nat} (ha:a%2=0) (hb:b%2=0):Nat.gcd a b=Nat.gcd (a/2) (b/2)*2:=by
 rw [←Nat.gcd_mul_right,show a/2*2=a by omega,show b/2*2=b by omega]
theorem gcd_halfl {a b:Nat} (ha:a%2=0) (hb:b%2=1):Nat.gcd (a/2) b=Nat.gcd a b:=by
 have:=Nat.Coprime.gcd_mul_left_cancel (a/2) (two_cop hb);rw [show 2*(a/2)=a by omega] at this;exact this.symm
theorem gcd_halfr {a b:Nat} (ha:a%2=1) (hb:b%2=0):Nat.gcd a (b/2)=Nat.gcd a b:=by
 rw [Nat.gcd_comm,gcd_halfl hb ha,Nat.gcd_comm]
theorem gcd_take {a b:Nat} (h:b≤a):Nat.gcd (a-b) b=Nat.gcd a b:=by
 have:=Nat.gcd_add_self_left b (a-b);rw [Nat.sub_add_cancel h] at this;exact this.symm
noncomputable def dOf (w:World) (v:Value):Nat:=match v with
 | .slice (some a) k _=>(vd (fun j=>match w.cell? ⟨a.block,a.off+j,none⟩ with | some (.int _ z)=>z | _=>0) k).toNat
 | _=>0
theorem Dn.dOf {w x n c d V} (h:Dn w x n d V):dOf w (.slice x n c)=V:=by
 rcases Nat.eq_zero_or_pos n with h0 | h0
 ·subst h0;rw [h.zero];cases x <;> rfl
 ·obtain ⟨b,o,rfl⟩:=h.rd.at h0;have e:vd (fun j=>match w.cell? ⟨b,o+j,none⟩ with | some (.int _ z)=>z | _=>0) n=vd d n:=vd_congr (fun j hj=>by
   have:=h.rd.cell hj;simp only [this])
  show (vd _ n).toNat=V;rw [e,h.val];simp
theorem Dn.par {w x n d V} (h:Dn w x n d V) (hn:0<n):(d 0%2=0 ↔ V%2=0):=by
 obtain ⟨m,rfl⟩:∃m,n=m+1:=⟨n-1,by omega⟩;have h1:=vd_cons d 0 m;rw [sh_zero,h.val] at h1;omega
theorem half_step {D f:Nat→Int} {k:Nat} {b0 b b' v:Int} (h:2*vd D k=vd f k-b0+b*pd k) (hv:2*v=f k-b+b'*4294967296) (D':Nat→Int) (hD:∀j,j<k→D' j=D j) (hk:D' k=v):2*vd D' (k+1)=vd f (k+1)-b0+b'*pd (k+1):=by
 rw [vd_succ,vd_succ,pd_succ,vd_congr hD,hk]
 grind
set_option maxRecDepth 100000 in
set_option maxHeartbeats 2000000 in
theorem rhalf_c {w:World} {x:Option Addr} {n c:Nat} {f:Nat→Int} {A:Nat} (ha:Dn w x n f A) (hn:n≤1048576) (hA:A%2=0) (hA0:0<A) :
  Calls Tryz.prog 149 #[.slice x n c] w fun e w'=>∃z k c' d,e=.returned (.slice z k c')∧Below w.heap.size w w'∧Hid (k≤n∧Dn w' z k d (A/2)):=by
 have hn0:=ha.pos hA0;have hpar:=(ha.par hn0).2 hA;have HA:=hid ha;have HPar:=hid hpar
 clear ha hpar;go_enter Tryz.func149,Tryz.ntmps149;go_wp2_with (at_make;refine wpList_make_blk .u64 w rfl (.tmp 7) (.tmp 7) 22 rfl 145 8 Tryz.underlying22 Tryz.infoU64 .i64 .i64 n n n rfl rfl rfl rfl (by omega) (by unfold maxLen;omega) ?_;intro wa hba hbela)
 go_loopw [11] (fun t wr=>∃(k:Nat) (Q:Nat→Int),k≤n∧t=.int .i64 k∧Below w.heap.size w wr∧Blk .u64 145 wr w.heap.size n Q∧Hid (Dg Q n)∧Hid (2*vd Q k=vd f k-f 0%2+(ext f n k%2)*pd k)) (fun t _=>n-(intOf t).toNat)
 case atStart=>exact ⟨0,fun _=>0,by omega,rfl,hbela,hba,fun j _=>⟨Int.le_refl 0,show (0:Int)<4294967296 by decide⟩,hid (by rw [ext_in _ _ _ hn0];simp [vd,pd];omega)⟩
 case round =>
  clear hba hbela;obtain ⟨k,Q,hk,rfl,hbel,hbl,HDg,HV⟩:=hrel;by_cases hlt:k<n
  ·have hr:=HA.out.rd;obtain ⟨b,o,rfl⟩:=hr.at (by omega);obtain ⟨y,hy⟩:∃y,f k=y:=⟨_,rfl⟩;have hcell:wr.cell? ⟨b,o+k,none⟩=some (.int .u64 y):=by rw [←hy];exact (hr.below hbel (Nat.le_refl _)).cell hlt
   obtain ⟨y0,y1⟩:=HA.out.dg k hlt;rw [hy] at y0 y1;have hcz:=hbl.cell (j:=k) hlt;have hfz:=hbl.frozen k;have hbb:b≠w.heap.size:=by have:=hr.und (by omega) _ rfl;simp at this;omega
   have HX:=hid (show ext f n k=y from (ext_in _ _ _ hlt).trans hy);have HY:=hid hy;by_cases hlt2:k+1<n
   ·obtain ⟨u,hu⟩:∃u,f (k+1)=u:=⟨_,rfl⟩;have hcelu:wr.cell? ⟨b,o+(k+1),none⟩=some (.int .u64 u):=by rw [←hu];exact (hr.below hbel (Nat.le_refl _)).cell hlt2
    obtain ⟨u0,u1⟩:=HA.out.dg (k+1) hlt2;rw [hu] at u0 u1;have HU:=hid (show ext f n (k+1)=u from (ext_in _ _ _ hlt2).trans hu);obtain ⟨s,hs⟩:∃s,y/2+u%2*2147483648=s:=⟨_,rfl⟩;have hst:=half_step (D':=upd (upd Q k (y/2)) k s) (v:=s) (b':=u%2) HV.out (by rw [HX.out,hy];omega) (fun j hj=>by rw [upd_other _ _ _ _ (by omega),upd_other _ _ _ _ (by omega)]) (upd_same _ _ _);have HSt:=hid hst;have HS:=hid hs
    have hbl2:=hbl.set k (y/2);have hcz2:=hbl2.cell (j:=k) hlt;rw [upd_same] at hcz2;have hfz2:=hbl2.frozen k;have hcu2:(wr.setCell ⟨w.heap.size,k,none⟩ (.int .u64 (y/2))).cell? ⟨b,o+(k+1),none⟩=some (.int .u64 u):=by
     rw [World.cell?_setCell_other _ _ _ _ (fun he=>hbb (congrArg Addr.block he).symm)];exact hcelu
    have HBl:=hid hbl2;clear hst hy hu hr hbl2 hs;go_wp2_with fail
    go_region
    all_goals go_wp2
    go_roundw
    case rel =>
     refine ⟨k+1,_,by omega,by go_num,?_,(HBl.out.set _ _).drew,(HDg.out.upd ⟨?_,?_⟩).upd ⟨?_,?_⟩,hid ?_⟩
     ·exact below_only hbel ((((Only.refl _ _).setCell _ _ _).setCell _ _ _).drew) (Nat.le_refl _) hbel.size
     ·omega
     ·omega
     ·omega
     ·omega
     ·rw [HU.out];have e:=HSt.out;rw [←HS.out] at e;exact e
    case measure=>simp [intOf];omega
   ·have HU:=hid (show ext f n (k+1)=0 from ext_out _ _ _ (by omega));have hst:=half_step (D':=upd Q k (y/2)) (v:=y/2) (b':=0) HV.out (by rw [HX.out,hy];omega) (fun j hj=>by rw [upd_other _ _ _ _ (by omega)]) (upd_same _ _ _);have HSt:=hid hst;clear hst hy hr;go_wp2;go_roundw
    case rel =>
     refine ⟨k+1,_,by omega,by go_num,?_,hbl.set _ _,HDg.out.upd ⟨?_,?_⟩,hid ?_⟩
     ·exact below_only hbel ((Only.refl _ _).setCell _ _ _) (Nat.le_refl _) hbel.size
     ·omega
     ·omega
     ·rw [HU.out];exact HSt.out
    case measure=>simp [intOf];omega
  ·obtain rfl:k=n:=by omega
   go_wp2_with fail
   refine (low_c (some ⟨w.heap.size,0,none⟩) k k Q wr (Nat.le_refl _) (by omega) (hbl.rd0 (Nat.le_refl _)) (fun h=>by cases h)).mono ?_;rintro e w2 ⟨rfl,k1,hk1,hz,hfm,rfl⟩;have HZ2:=hid hz;have HFM:=hid hfm
   clear hz hfm;go_wp2;go_ret;refine ⟨_,k1,_,Q,rfl,hbel,hk1,(hbl.rd0 (Nat.le_refl _)).take hk1,HDg.out.mono hk1,HFM.out,?_⟩;rw [trim_vald hk1 HZ2.out];have h1:=HV.out;rw [ext_out _ _ _ (Nat.le_refl _),HPar.out,HA.out.val] at h1;omega
theorem twos_few {w x n d A} {a k:Nat} (h:Dn w x n d A) (ha:a*2^k=A) (h0:0<a):k<32*n:=by
 have h1:=vd_lt h.dg;rw [h.val,pd_pow] at h1;have h2:A<2^(32*n):=by exact_mod_cast h1
 apply Nat.lt_of_not_le;intro hge
 have h3:2^(32*n)≤2^k:=Nat.pow_le_pow_right (by decide) hge;have h4:1*2^k≤a*2^k:=Nat.mul_le_mul_right _ h0;omega
theorem half_half {a k A:Nat} (h:a*2^k=A) (ha:a%2=0):a/2*2^(k+1)=A:=by
 rw [Nat.pow_succ,←h];have:a=a/2*2:=by omega
 generalize a/2=u at *;subst this;rw [Nat.mul_assoc,Nat.mul_comm (2^k) 2]
set_option maxRecDepth 100000 in
set_option maxHeartbeats 8000000 in
theorem rgcd_c {w:World} {x:Option Addr} {n c:Nat} {f:Nat→Int} {A:Nat} {y:Option Addr} {m e:Nat} {g:Nat→Int} {B:Nat} (ha:Dn w x n f A) (hb:Dn w y m g B) (hn:n≤520000) (hm:m≤520000) :
  Calls Tryz.prog 124 #[.slice x n c,.slice y m e] w fun e w'=>∃z k c' d,e=.returned (.slice z k c')∧Below w.heap.size w w'∧Hid (k≤n+m∧Dn w' z k d (Nat.gcd A B)):=by
 by_cases hn0:n=0
 ·subst hn0;have hA:=ha.zero;have HB:=hid hb;have HA0:=hid hA
  clear ha hb hA;go_enter Tryz.func124,Tryz.ntmps124;go_wp2;go_ret;exact ⟨y,m,e,g,rfl,Below.refl _ _,by omega,by rw [HA0.out,Nat.gcd_zero_left];exact HB.out⟩
 by_cases hm0:m=0
 ·subst hm0;have hB:=hb.zero;have HA:=hid ha;have HB0:=hid hB
  have hnd:((n:Int)==0)=false:=by simp;omega
  clear ha hb hB;go_enter Tryz.func124,Tryz.ntmps124;go_wp2;go_ret;exact ⟨x,n,c,f,rfl,Below.refl _ _,by omega,by rw [HB0.out,Nat.gcd_zero_right];exact HA.out⟩
 have hnd:((n:Int)==0)=false:=by simp;omega
 have hmd:((m:Int)==0)=false:=by simp;omega
 have HAp:=hid (ha.pos' (by omega));have HBp:=hid (hb.pos' (by omega))
 have HA:=hid ha;have HB:=hid hb
 clear ha hb;go_enter Tryz.func124,Tryz.ntmps124;go_wp2;go_loopw [0,1,5] (fun u v t wr=>∃(za:Option Addr) (na ca a:Nat) (fa:Nat→Int) (zb:Option Addr) (nb cb b:Nat) (fb:Nat→Int) (k:Nat),u=.slice za na ca∧v=.slice zb nb cb∧t=.int .i64 (k:Int)∧na≤n∧nb≤m∧k≤32*n∧Hid (Below w.heap.size w wr)∧Hid (Dn wr za na fa a)∧Hid (Dn wr zb nb fb b)∧Hid (0<a∧0<b∧a*2^k=A∧Nat.gcd a b*2^k=Nat.gcd A B)) (fun _ _ t _=>32*n+1-(intOf t).toNat)
 case atStart=>exact ⟨x,n,c,A,f,y,m,e,B,g,0,rfl,rfl,rfl,by omega,by omega,by omega,Below.refl _ _,HA.out,HB.out,HAp.out,HBp.out,by simp,by simp⟩
 case round =>
  obtain ⟨za,na,ca,a,fa,zb,nb,cb,b,fb,k,rfl,rfl,rfl,hna,hnb,hk,HW,HDa,HDb,HV⟩:=hrel;have hna0:=HDa.out.pos HV.out.1;have hnb0:=HDb.out.pos HV.out.2.1;have hkk:=twos_few HA.out HV.out.2.2.1 HV.out.1;obtain ⟨ba,oa,rfl⟩:=HDa.out.rd.at hna0;obtain ⟨bb,ob,rfl⟩:=HDb.out.rd.at hnb0;have hca:=HDa.out.rd.cell hna0;have hcb:=HDb.out.rd.cell hnb0;obtain ⟨xa,hxa⟩:∃t,fa 0=t:=⟨_,rfl⟩;obtain ⟨xb,hxb⟩:∃t,fb 0=t:=⟨_,rfl⟩;obtain ⟨xa0,xa1⟩:=HDa.out.dg 0 hna0;obtain ⟨xb0,xb1⟩:=HDb.out.dg 0 hnb0;have hpa:=HDa.out.par hna0;have hpb:=HDb.out.par hnb0;rw [hxa] at hca xa0 xa1 hpa;rw [hxb] at hcb xb0 xb1 hpb;rw [Nat.add_zero] at hca hcb;clear hxa hxb;by_cases hev:a%2=0∧b%2=0
  ·have hea:xa%2=0:=hpa.2 hev.1;have heb:xb%2=0:=hpb.2 hev.2;have HE:=hid hev;clear hev hpa hpb;go_wp2_with fail
   refine (rhalf_c HDa.out (by omega) HE.out.1 HV.out.1).mono ?_;rintro e w2 ⟨z2,k2,c2,d2,rfl,hb2,H2⟩;have HB2:=hid hb2;clear hb2;go_wp2_with fail
   refine (rhalf_c (HDb.out.below HB2.out) (by omega) HE.out.2 HV.out.2.1).mono ?_;rintro e w3 ⟨z3,k3,c3,d3,rfl,hb3,H3⟩;have HB3:=hid hb3;have hk2:=H2.out.1;have hk3:=H3.out.1
   clear hb3;go_wp2;go_roundw
   case rel =>
    refine ⟨z2,k2,c2,a/2,d2,z3,k3,c3,b/2,d3,k+1,rfl,rfl,by go_num,by omega,by omega,by omega,HW.out.trans ((HB2.out.trans (HB3.out.mono HB2.out.size)).mono HW.out.size),H2.out.2.below HB3.out,H3.out.2,?_,?_,half_half HV.out.2.2.1 HE.out.1,?_⟩
    ·have:=HE.out;have:=HV.out.1;omega
    ·have:=HE.out;have:=HV.out.2.1;omega
    ·rw [←HV.out.2.2.2,gcd_half2 HE.out.1 HE.out.2,Nat.pow_succ,Nat.mul_assoc,Nat.mul_comm 2 (2^k)]
   case measure=>simp [intOf];omega
  ·have hodd:a%2=1∨b%2=1:=by omega
   have HOd:=hid hodd;have hcase:(xa%2==0)=false∨(xa%2=0∧(xb%2==0)=false):=by
    by_cases h1:xa%2=0
    ·right;refine ⟨h1,by simp;intro h2;exact hev ⟨hpa.1 h1,hpb.1 h2⟩⟩
    ·exact .inl (by simp;exact h1)
   obtain ⟨g0,hg0⟩:∃g0,Nat.gcd a b=g0:=⟨_,rfl⟩;have HG0:=hid hg0;have HG1:Hid (g0*2^k=Nat.gcd A B):=by rw [←hg0];exact HV.out.2.2.2
   clear hev hpa hpb hodd hg0;rcases hcase with hcd | ⟨hcd,hcd2⟩
   all_goals
    go_wp2;go_loopw [0,1] (fun u v wr=>∃(za:Option Addr) (na ca a:Nat) (fa:Nat→Int) (zb:Option Addr) (nb cb b:Nat) (fb:Nat→Int),u=.slice za na ca∧v=.slice zb nb cb∧na≤n+m∧nb≤n+m∧Hid (Below w.heap.size w wr)∧Hid (Dn wr za na fa a)∧Hid (Dn wr zb nb fb b)∧Hid (0<b∧(a%2=1∨b%2=1)∧Nat.gcd a b=g0)) (fun u v wr=>dOf wr u+dOf wr v)
    case atStart=>exact ⟨_,na,ca,a,fa,_,nb,cb,b,fb,rfl,rfl,by omega,by omega,HW.out,HDa.out,HDb.out,HV.out.2.1,HOd.out,HG0.out⟩
    case round =>
     clear hcd HDa HDb HW hca hcb HOd HG0 HV;obtain ⟨za,na,ca,a,fa,zb,nb,cb,b,fb,rfl,rfl,hna,hnb,HW,HDa,HDb,HV⟩:=hrel;obtain ⟨wr1,hwr⟩:∃x:World,x=wr:=⟨wr,rfl⟩;subst hwr
     by_cases hz:na=0
     ·subst hz;have ha0:=HDa.out.zero;have hbg:b=g0:=by have:=HV.out.2.2;rw [ha0,Nat.gcd_zero_left] at this;exact this
      have HBG:=hid hbg;clear ha0 hbg;go_wp2_with fail
      refine (rshl_c zb nb cb (k/32) k ((k%32:Nat):Int) fb _ (by omega) (by omega) (by omega) (by omega) (by omega) HDb.out.rd HDb.out.dg).mono ?_;rintro e w9 ⟨z9,k9,c9,d9,rfl,hb9,hr9,hk9,hd9,hf9,hv9⟩;have hdn:Dn w9 z9 k9 d9 (Nat.gcd A B):=⟨hr9,hd9,hf9,by
       rw [hv9,HDb.out.val,HBG.out,←HG1.out,pd_pow,←Int.pow_add,show ((k%32:Nat):Int).toNat+32*(k/32)=k by omega];simp⟩
      have hle:=hdn.len (HA.out.below (HW.out.trans (hb9.mono HW.out.size))) (Nat.le_of_dvd HAp.out (Nat.gcd_dvd_left _ _));have H9:=hid hdn;have HB9:=hid hb9
      clear hdn hb9 hr9 hd9 hf9 hv9;go_wp2;go_ret;exact ⟨z9,k9,c9,d9,rfl,HW.out.trans (HB9.out.mono HW.out.size),by omega,H9.out⟩
     ·have hz0:0<na:=by omega
      have hzd:decide (0<na)=true:=decide_eq_true hz0;have ha0:=HDa.out.pos' (by omega);have HA0:=hid ha0;clear ha0;go_wp2;go_loopw [0] (fun u wr=>∃(zc:Option Addr) (nc cc c:Nat) (fc:Nat→Int),u=.slice zc nc cc∧nc≤n+m∧Hid (Below wr1.heap.size wr1 wr)∧Hid (Dn wr zc nc fc c)∧Hid (0<c∧c≤a∧(c%2=1∨b%2=1)∧Nat.gcd c b=g0)) (fun u wr=>dOf wr u)
      case atStart=>exact ⟨za,na,ca,a,fa,rfl,hna,Below.refl _ _,HDa.out,HA0.out,Nat.le_refl _,HV.out.2⟩
      case round =>
       obtain ⟨zc,nc,cc,c,fc,rfl,hnc,HW2,HDc,HV2⟩:=hrel;obtain ⟨wr2,hwr⟩:∃x:World,x=wr:=⟨wr,rfl⟩;subst hwr
       have hnc0:=HDc.out.pos HV2.out.1;obtain ⟨bc,oc,rfl⟩:=HDc.out.rd.at hnc0;have hcc:=HDc.out.rd.cell hnc0;obtain ⟨xc,hxc⟩:∃t,fc 0=t:=⟨_,rfl⟩;obtain ⟨xc0,xc1⟩:=HDc.out.dg 0 hnc0;have hpc:=HDc.out.par hnc0;rw [hxc] at hcc xc0 xc1 hpc;rw [Nat.add_zero] at hcc;clear hxc;by_cases hec:c%2=0
       ·have hec':xc%2=0:=hpc.2 hec;have HE:=hid hec;clear hec hpc;go_wp2_with fail
        refine (rhalf_c HDc.out (by omega) HE.out HV2.out.1).mono ?_;rintro e w4 ⟨z4,k4,c4,d4,rfl,hb4,H4⟩;have HB4:=hid hb4;have hk4:=H4.out.1;clear hb4;go_wp2;go_roundw
        case rel =>
         have h1:=HV2.out.1;have h2:=HV2.out.2.1;have h3:=HE.out;have h4:=HV2.out.2.2.1
         exact ⟨z4,k4,c4,c/2,d4,rfl,by omega,HW2.out.trans (HB4.out.mono HW2.out.size),H4.out.2,by omega,by omega,by omega,(gcd_halfl h3 (by omega)).trans HV2.out.2.2.2⟩
        case measure =>
         show dOf w4 (.slice z4 k4 c4)<dOf wr2 (.slice _ nc cc);rw [H4.out.2.dOf,HDc.out.dOf];have:=HV2.out.1;omega
       ·have hec':(xc%2==0)=false:=by simp;intro h;exact hec (hpc.1 h)
        have HE:=hid (show c%2=1 by omega);clear hec hpc;have HDb2:=hid (HDb.out.below HW2.out);go_wp2;go_loopw [1] (fun v wr=>∃(ze:Option Addr) (ne ce e:Nat) (fe:Nat→Int),v=.slice ze ne ce∧ne≤n+m∧Hid (Below wr2.heap.size wr2 wr)∧Hid (Dn wr ze ne fe e)∧Hid (0<e∧e≤b∧Nat.gcd c e=g0)) (fun v wr=>dOf wr v)
        case atStart=>exact ⟨zb,nb,cb,b,fb,rfl,hnb,Below.refl _ _,HDb2.out,HV.out.1,Nat.le_refl _,HV2.out.2.2.2⟩
        case round =>
         obtain ⟨ze,ne,ce,e',fe,rfl,hne,HW3,HDe,HV3⟩:=hrel;obtain ⟨wr3,hwr⟩:∃x:World,x=wr:=⟨wr,rfl⟩;subst hwr
         have hne0:=HDe.out.pos HV3.out.1;obtain ⟨be,oe,rfl⟩:=HDe.out.rd.at hne0;have hce:=HDe.out.rd.cell hne0;obtain ⟨xe,hxe⟩:∃t,fe 0=t:=⟨_,rfl⟩;obtain ⟨xe0,xe1⟩:=HDe.out.dg 0 hne0;have hpe:=HDe.out.par hne0;rw [hxe] at hce xe0 xe1 hpe;rw [Nat.add_zero] at hce;clear hxe hcc;by_cases hee:e'%2=0
         ·have hee':xe%2=0:=hpe.2 hee;have HEe:=hid hee;clear hee hpe;go_wp2_with fail
          refine (rhalf_c HDe.out (by omega) HEe.out HV3.out.1).mono ?_;rintro e w5 ⟨z5,k5,c5,d5,rfl,hb5,H5⟩;have HB5:=hid hb5;have hk5:=H5.out.1;clear hb5;go_wp2;go_roundw
          case rel =>
           have h1:=HV3.out.1;have h2:=HV3.out.2.1;have h3:=HEe.out
           exact ⟨z5,k5,c5,e'/2,d5,rfl,by omega,HW3.out.trans (HB5.out.mono HW3.out.size),H5.out.2,by omega,by omega,(gcd_halfr HE.out h3).trans HV3.out.2.2⟩
          case measure =>
           show dOf w5 (.slice z5 k5 c5)<dOf wr3 (.slice _ ne ce);rw [H5.out.2.dOf,HDe.out.dOf];have:=HV3.out.1;omega
         ·have hee':(xe%2==0)=false:=by simp;intro h;exact hee (hpe.1 h)
          have HEe:=hid (show e'%2=1 by omega);clear hee hpe;have HDc3:=hid (HDc.out.below HW3.out);have HWs:=hid (HW.out.trans ((HW2.out.trans (HW3.out.mono HW2.out.size)).mono HW.out.size));go_wp2_with fail
          refine (rcmp_c _ _ nc ne cc ce fc fe _ (by omega) (by omega) HDc3.out.rd HDe.out.rd HDc3.out.dg HDe.out.dg HDc3.out.fm HDe.out.fm).mono ?_;rintro e w6 ⟨⟨q6,hq6⟩,c6,rfl,hord⟩;have hb6:=drewN_bel hq6;rw [HDc3.out.val,HDe.out.val] at hord;have HDc6:=hid (HDc3.out.below hb6);have HDe6:=hid (HDe.out.below hb6);have HW6:=hid (HWs.out.trans (hb6.mono HWs.out.size))
          clear hq6 hb6;by_cases hlt:c<e'
          ·have hsg:decide (c6<0)=true:=by
            rcases hord with ⟨h1,h2⟩ | ⟨h1,h2⟩ | ⟨h1,h2⟩ <;> subst h1 <;> first | rfl | (exfalso;omega)
           clear hord;go_wp2_with fail
           refine (dSubO_c HDe6.out HDc6.out (by omega) (by omega) (by omega)).mono ?_;rintro e w7 ⟨z7,k7,c7,d7,rfl,hb7,H7⟩;have HB7:=hid hb7;have hk7:=H7.out.1;clear hb7 hsg;go_wp2;go_roundw
           case rel =>
            refine ⟨z7,k7,c7,e'-c,d7,_,nc,cc,c,fc,rfl,rfl,by omega,hnc,HW6.out.trans (HB7.out.mono HW6.out.size),H7.out.2.1,HDc6.out.below HB7.out,HV2.out.1,.inr HE.out,?_⟩;rw [gcd_take (by omega),Nat.gcd_comm];exact HV3.out.2.2
           case measure =>
            show dOf w7 (.slice z7 k7 c7)+dOf w7 (.slice _ nc cc)<dOf wr1 (.slice za na ca)+dOf wr1 (.slice zb nb cb);rw [H7.out.2.1.dOf,(HDc6.out.below HB7.out).dOf,HDa.out.dOf,HDb.out.dOf];have h1:=HV2.out;have h2:=HV3.out;omega
          ·have hsg:decide (c6<0)=false:=by
            rcases hord with ⟨h1,h2⟩ | ⟨h1,h2⟩ | ⟨h1,h2⟩ <;> subst h1 <;> first | rfl | (exfalso;omega)
           clear hord;go_wp2_with fail
           refine (dSubO_c HDc6.out HDe6.out (by omega) (by omega) (by omega)).mono ?_;rintro e w7 ⟨z7,k7,c7,d7,rfl,hb7,H7⟩;have HB7:=hid hb7;have hk7:=H7.out.1;clear hb7 hsg;go_wp2;go_roundw
           case rel =>
            refine ⟨z7,k7,c7,c-e',d7,_,ne,ce,e',fe,rfl,rfl,by omega,hne,HW6.out.trans (HB7.out.mono HW6.out.size),H7.out.2.1,HDe6.out.below HB7.out,HV3.out.1,.inr HEe.out,?_⟩;rw [gcd_take (by omega)];exact HV3.out.2.2
           case measure =>
            show dOf w7 (.slice z7 k7 c7)+dOf w7 (.slice _ ne ce)<dOf wr1 (.slice za na ca)+dOf wr1 (.slice zb nb cb);rw [H7.out.2.1.dOf,(HDe6.out.below HB7.out).dOf,HDa.out.dOf,HDb.out.dOf];have h1:=HV2.out;have h2:=HV3.out;omega
theorem lm_const {x:Int} (h0:0≤x) (h1:x<18446744073709551616) (n:Nat):Lm (fun _=>x) n:=fun _ _=>⟨h0,h1⟩
def Apart (a b:Option Addr):Prop:=∀x y,a=some x→b=some y→x.block≠y.block
theorem apart_none (b:Option Addr):Apart none b:=fun _ _ h=>by cases h
theorem Apart.symm {a b:Option Addr} (h:Apart a b):Apart b a:=fun x y h1 h2 e=>h y x h2 h1 e.symm
theorem Res.apart {C w w' a b n cap f} {B:Nat} (h:Res C w w' b n cap f) (ha:Und a B) (hB:B≤w.heap.size):Apart a b:=by
 rcases h.own with ⟨rfl,_,_⟩ | ⟨g,rfl,h1,_,_,_,_⟩
 ·exact fun _ _ _ h=>by cases h
 ·intro x y hx hy;cases hy
  have:=ha x hx;simp;omega
set_option maxHeartbeats 1000000 in
theorem divMod_smallA (ao bo:Option Addr) (n m ca cb:Nat) (f h:Nat→Int) (w:World) (hn:n≤8796093022208) (hm:m≤8796093022208) (hr:Rd .u64 w ao n f) (hs:Rd .u64 w bo m h) (hf:Lm f n) (hh:Lm h m) (ff:Fm f n) (fh:Fm h m) (hsm:m=1∨vf f n<vf h m) :
  Calls Tryz.prog 171 #[.slice ao n ca,.slice bo m cb] w fun e w'=>∃a1 k1 c1 q a2 k2 c2 r,e=.returned (.tuple #[.slice a1 k1 c1,.slice a2 k2 c2])∧Res n w w' a1 k1 c1 q∧Res (n+1) w w' a2 k2 c2 r∧vf f n=vf q k1*vf h m+vf r k2∧0≤vf r k2∧vf r k2<vf h m∧Apart a1 a2:=by
 have HF:=hid hf;have HH:=hid hh;have FF:=hid ff;have FH:=hid fh
 clear hf hh ff fh;have cc:=cmp_c ao bo n m ca cb f h w (by omega) (by omega) hr hs HF.out HH.out FF.out FH.out;have CC:=hid cc;clear cc;by_cases hlt:vf f n<vf h m
 ·have HLt:=hid hlt;clear hlt hsm;go_enter Tryz.func171,Tryz.ntmps171;go_wp2_with fail
  refine CC.out.mono ?_;rintro e w1 ⟨⟨q,rfl⟩,c,rfl,ho⟩;have hc:c=-1:=by have:=HLt.out;unfold Ord at ho;omega
  subst hc;clear ho;go_wp2_with fail
  refine (clone_c ao n ca f _ (by omega) (show Rd .u64 (w.drewN q) ao n f from hr) HF.out).mono ?_;rintro e w2 ⟨a2,k2,c2,rfl,hres,hk,hv⟩;have HV:=hid hv;clear hv;go_wp2
  go_ret2
  have hb:=below_drewN (Below.refl w.heap.size w) q;refine ⟨none,0,0,f,a2,k2,c2,f,rfl,Res.nil f (hb.trans hres.bel),(hres.ahead hb).mono (by omega),?_,?_,?_,apart_none _⟩
  ·rw [HV.out];simp [vf]
  ·rw [HV.out];exact vf_nonneg HF.out
  ·rw [HV.out];exact HLt.out
 ·obtain rfl:m=1:=by omega
  have hle:vf h 1≤vf f n:=by omega
  have HLe:=hid hle;clear hsm hlt hle;obtain ⟨b,o,rfl⟩:=hs.at (by omega);obtain ⟨x,hx⟩:∃x,h 0=x:=⟨_,rfl⟩;have hcell:w.cell? ⟨b,o,none⟩=some (.int .u64 x):=by rw [←hx];exact hs.cell (j:=0) (by omega)
  have hx01:=HH.out 0 (by omega);have hx2:x≠0:=by rw [←hx];rcases FH.out with h | h;omega;exact h
  rw [hx] at hx01;obtain ⟨x0,x1⟩:=hx01;have hv1:vf h 1=x:=by simp [vf,pw,hx]
  have HV1:=hid hv1;clear hv1 hx;go_enter Tryz.func171,Tryz.ntmps171;go_wp2_with fail
  refine CC.out.mono ?_;rintro e w1 ⟨⟨q,rfl⟩,c,rfl,ho⟩;have hc:0≤c:=by have:=HLe.out;unfold Ord at ho;omega
  clear ho;go_wp2_with fail
  refine (divWord_c ao n ca f x _ (by omega) (show Rd .u64 (w.drewN q) ao n f from hr) HF.out (by omega) x1).mono ?_;rintro e w2 ⟨a1,k1,c1,q1,r,rfl,hres,r0,r1,hv⟩;have HV:=hid hv;clear hv;go_wp2_with fail
  refine (fromWord_c r w2 r0 (by omega)).mono ?_;rintro e w3 ⟨a2,k2,c2,q2,rfl,hres2,hv2⟩;have HV2:=hid hv2;clear hv2;go_wp2
  go_ret2
  have hb:=below_drewN (Below.refl w.heap.size w) q;refine ⟨a1,k1,c1,q1,a2,k2,c2,q2,rfl,(hres.later hres2.bel).ahead hb,((hres2.ahead hres.bel).ahead hb).mono (by omega),?_,?_,?_,hres2.apart hres.und (Nat.le_refl _)⟩
  ·rw [HV2.out,HV1.out];exact HV.out
  ·rw [HV2.out];exact r0
  ·rw [HV2.out,HV1.out];exact r1
theorem mul64_c (x y:Int) (w:World) (x0:0≤x) (x1:x<18446744073709551616) (y0:0≤y) (y1:y<18446744073709551616) :
  Calls Tryz.prog 211 #[.int .u64 x,.int .u64 y] w fun e w'=>e=.returned (.tuple #[.int .u64 (x*y/18446744073709551616),.int .u64 (x*y%18446744073709551616)])∧w'=w:=by
 obtain ⟨x,rfl⟩:=Int.eq_ofNat_of_zero_le x0;obtain ⟨y,rfl⟩:=Int.eq_ofNat_of_zero_le y0;refine (Tryz.bits_Mul64 x y (by omega) (by omega) w).mono ?_;rintro e w' ⟨rfl,rfl⟩;exact ⟨by simp,rfl⟩
theorem prod_bounds {x y:Int} (x0:0≤x) (x1:x<18446744073709551616) (y0:0≤y) (y1:y<18446744073709551616):0≤x*y∧x*y≤340282366920938463426481119284349108225:=by
 refine ⟨Int.mul_nonneg x0 y0,?_⟩;have:=Int.mul_le_mul (show x≤18446744073709551615 by omega) (show y≤18446744073709551615 by omega) y0 (by omega);omega
set_option maxHeartbeats 1000000 in
theorem mulAdd_c (x y z:Int) (w:World) (x0:0≤x) (x1:x<18446744073709551616) (y0:0≤y) (y1:y<18446744073709551616) (z0:0≤z) (z1:z<18446744073709551616) :
  Calls Tryz.prog 202 #[.int .u64 x,.int .u64 y,.int .u64 z] w fun e w'=>e=.returned (.tuple #[.int .u64 ((x*y+z)/18446744073709551616),.int .u64 ((x*y+z)%18446744073709551616)])∧w'=w:=by
 have c1:=mul64_c x y w x0 x1 y0 y1;have hb:=prod_bounds x0 x1 y0 y1;generalize x*y=P at *;obtain ⟨p0,p1⟩:=hb;obtain ⟨h,hh⟩:∃h,P/18446744073709551616=h:=⟨_,rfl⟩;obtain ⟨l,hl⟩:∃l,P%18446744073709551616=l:=⟨_,rfl⟩;rw [hh,hl] at c1;have h0:0≤h:=by omega
 have h1:h≤18446744073709551614:=by omega
 have l0:0≤l:=by omega
 have l1:l<18446744073709551616:=by omega
 have e1:(P+z)/18446744073709551616=h+(l+z)/18446744073709551616:=by omega
 have e2:(P+z)%18446744073709551616=(l+z)%18446744073709551616:=by omega
 have C1:=hid c1;have E1:=hid e1;have E2:=hid e2
 clear c1 e1 e2 hh hl p0 p1;go_enter Tryz.func202,Tryz.ntmps202;go_wp2_with fail
 refine C1.out.mono ?_;rintro e w1 ⟨rfl,rfl⟩;go_wp2_with (simp only [add64_0 l z l0 z0])
 go_ret2
 exact ⟨by rw [E1.out,E2.out];rfl,rfl⟩
theorem muladd_step {f f' G:Nat→Int} {o k:Nat} {ov wd x h l dd c:Int} (HV:vf (sh f' o) k+ov*pw k=vf (sh f o) k+vf G k*wd) (hE:f' (o+k)=f (o+k)) (hx:G k=x) (h1:x*wd+ov=h*18446744073709551616+l) (h2:f' (o+k)+l=c*18446744073709551616+dd) :
  vf (sh (upd f' (o+k) dd) o) (k+1)+(h+c)*pw (k+1)=vf (sh f o) (k+1)+vf G (k+1)*wd:=by
 have e1:vf (sh (upd f' (o+k) dd) o) k=vf (sh f' o) k:=vf_congr (fun j hj=>upd_other _ _ _ _ (by omega));rw [vf_succ,vf_succ,vf_succ,e1,pw_succ,sh_at,sh_at,upd_same,hx];rw [hE] at h2
 grind
set_option maxHeartbeats 1000000 in
theorem mulAddTo_c (g o n cap N:Nat) (f:Nat→Int) (bo:Option Addr) (m cb:Nat) (h:Nat→Int) (wd:Int) (w:World) (hb:Blk .u64 145 w g N f) (hf:Lm f N) (ho:o+n≤N)
  (hr:Rd .u64 w bo m h) (hh:Lm h m) (hoff:0<m→Off bo g) (hmn:m≤n) (hcap:n≤cap) (hcm:cap≤140737488355328) (d0:0≤wd) (d1:wd<18446744073709551616) :
  Calls Tryz.prog 206 #[.slice (some ⟨g,o,none⟩) n cap,.slice bo m cb,.int .u64 wd] w fun e w'=>∃ov,e=.returned (.int .u64 ov)∧0≤ov∧ov<18446744073709551616∧Only g w w' ∧
   ∃f',Blk .u64 145 w' g N f'∧Lm f' N∧(∀j,j<o∨o+m≤j→f' j=f j)∧vf (sh f' o) m+ov*pw m=vf (sh f o) m+vf h m*wd:=by
 have HH:=hid hh;have HRd:=hid hr;clear hh hr;go_enter Tryz.func206,Tryz.ntmps206;go_wp2;go_loopw [7,18] (fun c t wr=>∃(k:Nat) (ov:Int) (f':Nat→Int),k≤m∧t=.int .i64 k∧c=.int .u64 ov∧0≤ov∧ov<18446744073709551616∧Only g w wr∧Blk .u64 145 wr g N f'∧Hid (Lm f' N)∧Hid (∀j,j<o∨o+k≤j→f' j=f j) ∧
   Hid (vf (sh f' o) k+ov*pw k=vf (sh f o) k+vf h k*wd)) (fun _ t _=>m-(intOf t).toNat)
 case atStart=>exact ⟨0,0,f,by omega,rfl,rfl,by omega,by omega,Only.refl _ _,hb,hf,fun _ _=>rfl,by simp [Hid,vf,pw]⟩
 case round =>
  obtain ⟨k,ov,f',hk,rfl,rfl,v0,v1,hon,hbl,HL,HE,HV⟩:=hrel;by_cases hlt:k<m
  ·have hr:=HRd.out;obtain ⟨b,ob,rfl⟩:=hr.at (by omega);obtain ⟨x,hx⟩:∃x,f' (o+k)=x:=⟨_,rfl⟩;obtain ⟨y,hy⟩:∃y,h k=y:=⟨_,rfl⟩;have hcell:wr.cell? ⟨g,o+k,none⟩=some (.int .u64 x):=by rw [←hx];exact hbl.cell (by omega)
   have hcelb:wr.cell? ⟨b,ob+k,none⟩=some (.int .u64 y):=by rw [←hy];exact (hr.only hon (hoff (by omega))).cell hlt
   have hfz:=hbl.frozen (o+k);have hx01:=HL.out (o+k) (by omega);have hy01:=HH.out k hlt;rw [hx] at hx01;rw [hy] at hy01;obtain ⟨x0,x1⟩:=hx01;obtain ⟨y0,y1⟩:=hy01;have HX:=hid hx;have HY:=hid hy;clear hx hy hr;have c1:=fun w=>mulAdd_c y wd ov w y0 y1 d0 d1 v0 v1
   have hbd:=prod_bounds y0 y1 d0 d1;obtain ⟨hi,hhi⟩:∃hi,(y*wd+ov)/18446744073709551616=hi:=⟨_,rfl⟩;obtain ⟨l,hl⟩:∃l,(y*wd+ov)%18446744073709551616=l:=⟨_,rfl⟩;rw [hhi,hl] at c1;have hP:y*wd+ov=hi*18446744073709551616+l:=by omega
   have i0:0≤hi:=by omega
   have l0:0≤l:=by omega
   have l1:l<18446744073709551616:=by omega
   have i1:hi+(x+l)/18446744073709551616<18446744073709551616:=by omega
   have C1:=hid c1;have HP:=hid hP
   clear c1 hP hbd hhi hl;go_wp2_with fail
   refine (C1.out _).mono ?_;rintro e wx ⟨rfl,rfl⟩;go_wp2_with (simp only [add64_0 x l x0 l0])
   go_roundw
   case rel =>
    refine ⟨k+1,hi+(x+l)/18446744073709551616,upd f' (o+k) ((x+l)%18446744073709551616),by omega,by go_num,rfl,by omega,by omega,hon.setCell _ _ _,hbl.set _ _,HL.out.upd (by omega),?_,?_⟩
    ·intro j hj;rw [upd_other _ _ _ _ (by omega)];exact HE.out j (by omega)
    ·exact muladd_step HV.out (HE.out _ (by omega)) HY.out HP.out (by rw [HX.out];omega)
   case measure=>simp [intOf];omega
  ·have hkm:k=m:=by omega
   subst hkm;go_wp2;go_ret;exact ⟨ov,rfl,v0,v1,hon,f',hbl,HL.out,HE.out,HV.out⟩
theorem row_val {f f1 f2:Nat→Int} {i n m:Nat} {ov V y:Int} (h1:vf (sh f1 i) n+ov*pw n=vf (sh f i) n+V*y) (h2:vf (sh f2 (i+n)) m=vf (sh f1 (i+n)) m+ov) (e1:∀j,j<i+n→f2 j=f1 j) (e2:∀j,j<i∨i+n≤j→f1 j=f j) :
  vf f2 (i+(n+m))=vf f (i+(n+m))+V*y*pw i:=by
 rw [vf_split f2 i,vf_split f i,vf_split (sh f2 i) n,vf_split (sh f i) n,sh_sh,sh_sh];rw [vf_congr (f:=f2) (g:=f) (n:=i) (fun j hj=>(e1 j (by omega)).trans (e2 j (by omega)))];rw [vf_congr (f:=sh f2 i) (g:=sh f1 i) (n:=n) (fun j hj=>e1 _ (by omega)),h2];rw [vf_congr (f:=sh f1 (i+n)) (g:=sh f (i+n)) (n:=m) (fun j hj=>e2 _ (by omega))];have:vf (sh f1 i) n=vf (sh f i) n+V*y-ov*pw n:=by omega
 rw [this]
 grind
theorem row_room {f f1:Nat→Int} {i n r:Nat} {ov V y:Int} (h1:vf (sh f1 i) n+ov*pw n=vf (sh f i) n+V*y) (e2:∀j,j<i∨i+n≤j→f1 j=f j) (hlt:vf f (i+(n+r))+V*y*pw i<pw (i+(n+r))) (hL:Lm f1 (i+n)) :
  vf (sh f1 (i+n)) r+ov<pw r:=by
 have a1:=vf_nonneg (hL.mono (m:=i) (by omega));have a2:=vf_nonneg (hL.sh (o:=i) (m:=n) (by omega));rw [vf_split f i,vf_split (sh f i) n,sh_sh,pw_add,pw_add] at hlt;rw [vf_congr (f:=sh f1 (i+n)) (g:=sh f (i+n)) (n:=r) (fun j hj=>e2 _ (by omega))];rw [vf_congr (f:=f) (g:=f1) (n:=i) (fun j hj=>(e2 j (by omega)).symm)] at hlt;have e:vf (sh f i) n+V*y=vf (sh f1 i) n+ov*pw n:=h1.symm;have hp:=pw_pos i;have hq:=pw_pos n;have k1:(vf (sh f (i+n)) r+ov)*(pw n*pw i)<pw r*(pw n*pw i):=by
  have k2:0≤vf (sh f1 i) n*pw i:=Int.mul_nonneg a2 (Int.le_of_lt hp);have k3:(vf (sh f i) n+vf (sh f (i+n)) r*pw n)*pw i+V*y*pw i=vf (sh f1 i) n*pw i+(vf (sh f (i+n)) r+ov)*(pw n*pw i):=by
   have:vf (sh f i) n=vf (sh f1 i) n+ov*pw n-V*y:=by omega
   rw [this];grind
  have k4:pw i*(pw n*pw r)=pw r*(pw n*pw i):=by grind
  omega
 exact Int.lt_of_mul_lt_mul_right k1 (Int.le_of_lt (Int.mul_pos hq hp))
theorem addl_fin {A B C V y p s t:Int} (h1:A=B+V*y*p) (h2:B=C+V*s) (h3:t=s+y*p):A=C+V*t:=by
 rw [h1,h2,h3];grind
theorem addl_room {f' f1:Nat→Int} {o i n r D N:Nat} {ov V y:Int} (HV1:vf (sh f1 (o+i)) n+ov*pw n=vf (sh f' (o+i)) n+V*y) (HE1:∀j,j<o+i∨o+i+n≤j→f1 j=f' j) (HRoom:vf (sh f' o) (i+(n+r))+V*y*pw i<pw (i+(n+r))) (HL1:Lm f1 N) (hN:o+D≤N) (hD:D=i+(n+r)) :
  vf (sh f1 (o+(i+n))) (D-(i+n))+ov<pw (D-(i+n)):=by
 have e:D-(i+n)=r:=by omega
 rw [e,←sh_sh];exact row_room (f:=sh f' o) (f1:=sh f1 o) (by rw [sh_sh,sh_sh];exact HV1) (fun j hj=>HE1 _ (by omega)) HRoom (HL1.sh (by omega))
theorem addl_val {f' f1 f2:Nat→Int} {o i n r D:Nat} {ov V y:Int} (HV1:vf (sh f1 (o+i)) n+ov*pw n=vf (sh f' (o+i)) n+V*y) (HE1:∀j,j<o+i∨o+i+n≤j→f1 j=f' j) (hv2:vf (sh f2 (o+(i+n))) (D-(i+n))=vf (sh f1 (o+(i+n))) (D-(i+n))+ov) (he2:∀j,j<o+(i+n)→f2 j=f1 j) (hD:D=i+(n+r)) :
  vf (sh f2 o) D=vf (sh f' o) D+V*y*pw i:=by
 have e:D-(i+n)=r:=by omega
 rw [e] at hv2;rw [hD];exact row_val (f:=sh f' o) (f1:=sh f1 o) (by rw [sh_sh,sh_sh];exact HV1) (by rw [sh_sh,sh_sh];exact hv2) (fun j hj=>he2 _ (by omega)) (fun j hj=>HE1 _ (by omega))
set_option maxHeartbeats 2000000 in
theorem addLimb_c (g o cap N:Nat) (f:Nat→Int) (ao bo:Option Addr) (n m ca cb D:Nat) (fa fb:Nat→Int) (w:World) (hb:Blk .u64 145 w g N f) (hf:Lm f N) (ho:o+D≤N) (hD:n+m≤D) (hm:N≤140737488355328)
  (hra:Rd .u64 w ao n fa) (hrb:Rd .u64 w bo m fb) (ha:Lm fa n) (hbb:Lm fb m) (hoa:0<n→Off ao g) (hob:0<m→Off bo g) (hcap:D≤cap) (hcm:cap≤140737488355328) (hmn:m≤n)
  (hroom:vf (sh f o) D+vf fa n*vf fb m<pw D) :
  Calls Tryz.prog 192 #[.slice (some ⟨g,o,none⟩) D cap,.slice ao n ca,.slice bo m cb] w fun e w'=>e=.returned (.tuple #[])∧Only g w w' ∧
   ∃f',Blk .u64 145 w' g N f'∧Lm f' N∧(∀j,j<o∨o+D≤j→f' j=f j)∧vf (sh f' o) D=vf (sh f o) D+vf fa n*vf fb m:=by
 have HA:=hid ha;have HB:=hid hbb;have RA:=hid hra;have RB:=hid hrb;have HR:=hid hroom
 clear ha hbb hra hrb hroom;go_enter Tryz.func192,Tryz.ntmps192;go_wp2;go_loopw [9] (fun t wr=>∃(i:Nat) (f':Nat→Int),i≤m∧t=.int .i64 i∧Only g w wr∧Blk .u64 145 wr g N f'∧Hid (Lm f' N)∧Hid (∀j,j<o∨o+D≤j→f' j=f j) ∧
   Hid (vf (sh f' o) D=vf (sh f o) D+vf fa n*vf fb i)) (fun t _=>m-(intOf t).toNat)
 case atStart=>exact ⟨0,f,by omega,rfl,Only.refl _ _,hb,hf,fun _ _=>rfl,by simp [Hid,vf]⟩
 case round =>
  obtain ⟨i,f',hi,rfl,hon,hbl,HL,HE,HV⟩:=hrel;by_cases hlt:i<m
  ·have hn0:0<n:=by omega
   have hrb:=RB.out;obtain ⟨b,ob,rfl⟩:=hrb.at (by omega);obtain ⟨y,hy⟩:∃y,fb i=y:=⟨_,rfl⟩;have hcelb:wr.cell? ⟨b,ob+i,none⟩=some (.int .u64 y):=by rw [←hy];exact (hrb.only hon (hob (by omega))).cell hlt
   have hy01:=HB.out i hlt;rw [hy] at hy01;obtain ⟨y0,y1⟩:=hy01;have HY:=hid hy;clear hy hrb;obtain ⟨r,hr⟩:∃r,D=i+(n+r):=⟨D-(i+n),by omega⟩;have hle:vf fb (i+1)≤vf fb m:=vf_le HB.out (by omega);have hroom:vf (sh f' o) (i+(n+r))+vf fa n*y*pw i<pw (i+(n+r)):=by
    have h1:=HV.out;have h2:=HR.out;rw [hr] at h1 h2;rw [h1];have h3:vf fa n*vf fb (i+1)≤vf fa n*vf fb m:=Int.mul_le_mul_of_nonneg_left hle (vf_nonneg HA.out);rw [vf_succ,HY.out,Int.mul_add,←Int.mul_assoc] at h3;omega
   have HRoom:=hid hroom;have HD:=hid hr;have hrn:D-(i+n)=r:=by omega
   have HDr:=hid hrn;clear hr hle hroom hrn;have HRA:=hid (RA.out.only hon (hoa hn0));have hne1:¬(i+n=cap):=by omega
   have hne3:¬(cap=i+n):=by omega
   have hne4:¬(cap=i):=by omega
   have hne5:¬(cap-(i+n)=0):=by omega
   have hne6:¬(cap-i=0):=by omega
   have hw1:IntKind.i64.wrap ((i:Int)+n)=(i:Int)+n:=by rw [IntKind.wrap_i64];omega
   have ht1:((i:Int)+n).toNat=i+n:=by omega
   have hne2:¬(i=cap):=by omega
   have hlt1:i+n<D:=by omega
   go_wp2_with fail
   go_region_with (first | (go_at_call 206;refine (mulAddTo_c g (o+i) (D-i) (cap-i) N f' ao n ca fa y _ (by exact hbl) HL.out (by omega) (by exact HRA.out) HA.out hoa (by omega) (by omega) (by omega) y0 y1).mono ?_;rintro e w1 ⟨ov,rfl,v0,v1,hon1,f1,hb1,hl1,he1,hv1⟩;have HL1:=hid hl1;have HE1:=hid he1;have HV1:=hid hv1;clear hl1 he1 hv1) | (go_at_call 205;refine (addWord_c g (o+(i+n)) (D-(i+n)) (cap-(i+n)) N f1 ov _ (by exact hb1) HL1.out (by omega) hm v0 v1 (addl_room HV1.out HE1.out HRoom.out HL1.out ho HD.out)).mono ?_;rintro e w2 ⟨rfl,hon2,f2,hb2,hl2,he2,hv2⟩;have HL2:=hid hl2;have HE2:=hid he2;have HV2:=hid hv2;clear hl2 he2 hv2))
   all_goals
    go_wp2;go_roundw
    case rel =>
     refine ⟨i+1,f2,by omega,by go_num,(hon.drew.trans hon1).trans hon2,hb2,HL2.out,fun j hj=>?_,?_⟩
     ·exact (HE2.out j (by have:=HDr.out;have:=HD.out;omega)).trans ((HE1.out j (by omega)).trans (HE.out j hj))
     ·exact addl_fin (addl_val HV1.out HE1.out HV2.out (fun j hj=>HE2.out j (.inl hj)) HD.out) HV.out (by rw [vf_succ,HY.out])
    case measure=>simp [intOf];omega
  ·have him:i=m:=by omega
   subst him;go_wp2;exact bodyPost_end (v:=.tuple #[]) (results_none rfl _ _ _) rfl ⟨rfl,hon,f',hbl,HL.out,HE.out,HV.out⟩
def AddProd (n m:Nat):Prop:=∀(g o cap N:Nat) (f:Nat→Int) (ao bo:Option Addr) (ca cb D:Nat) (fa fb:Nat→Int) (w:World),Blk .u64 145 w g N f→Lm f N→o+D≤N→n+m≤D→N≤140737488355328 →
  Rd .u64 w ao n fa→Rd .u64 w bo m fb→Lm fa n→Lm fb m→(0<n→Off ao g)→(0<m→Off bo g)→D≤cap→cap≤140737488355328→vf (sh f o) D+vf fa n*vf fb m<pw D →
  Calls Tryz.prog 182 #[.slice (some ⟨g,o,none⟩) D cap,.slice ao n ca,.slice bo m cb] w fun e w'=>e=.returned (.tuple #[])∧Only g w w' ∧
   ∃f',Blk .u64 145 w' g N f'∧Lm f' N∧(∀j,j<o∨o+D≤j→f' j=f j)∧vf (sh f' o) D=vf (sh f o) D+vf fa n*vf fb m
set_option maxHeartbeats 1000000 in
theorem addProd_small (n m:Nat) (h:n<40∨m<40):AddProd n m:=by
 intro g o cap N f ao bo ca cb D fa fb w hb hf ho hD hN hra hrb ha hbb hoa hob hcap hcm hroom;by_cases hsw:n<m
 ·have hmul:vf fa n*vf fb m=vf fb m*vf fa n:=Int.mul_comm _ _;rw [hmul] at hroom ⊢;have c:=addLimb_c g o cap N f bo ao m n cb ca D fb fa w hb hf ho (by omega) hN hrb hra hbb ha hob hoa hcap hcm (by omega) hroom;have C:=hid c;clear c hroom hra hrb ha hbb hoa hob hmul hb hf;go_enter Tryz.func182,Tryz.ntmps182;go_wp2_with fail
  refine C.out.mono ?_;rintro e w' ⟨rfl,hrest⟩;have HRest:=hid hrest;clear hrest;go_wp2;exact bodyPost_end (v:=.tuple #[]) (results_none rfl _ _ _) rfl ⟨rfl,HRest.out⟩
 ·have c:=addLimb_c g o cap N f ao bo n m ca cb D fa fb w hb hf ho (by omega) hN hra hrb ha hbb hoa hob hcap hcm (by omega) hroom;have C:=hid c;clear c hroom hra hrb ha hbb hoa hob hb hf;go_enter Tryz.func182,Tryz.ntmps182;go_wp2_with fail
  refine C.out.mono ?_;rintro e w' ⟨rfl,hrest⟩;have HRest:=hid hrest;clear hrest;go_wp2;exact bodyPost_end (v:=.tuple #[]) (results_none rfl _ _ _) rfl ⟨rfl,HRest.out⟩
theorem prod_lt {fa fb:Nat→Int} {n m:Nat} (ha:Lm fa n) (hb:Lm fb m):vf fa n*vf fb m<pw (n+m):=by
 have a1:=vf_nonneg ha;have a2:=vf_lt ha;have b1:=vf_nonneg hb;have b2:=vf_lt hb
 rw [pw_add];have h1:vf fa n*vf fb m≤vf fa n*pw m:=Int.mul_le_mul_of_nonneg_left (Int.le_of_lt b2) a1;have h2:vf fa n*pw m<pw n*pw m:=(Int.mul_lt_mul_right (pw_pos m)).2 a2;omega
def AddProdC (n m ca cb:Nat):Prop:=∀(g o cap N:Nat) (f:Nat→Int) (ao bo:Option Addr) (D:Nat) (fa fb:Nat→Int) (w:World),Blk .u64 145 w g N f→Lm f N→o+D≤N→n+m≤D→N≤140737488355328 →
  Rd .u64 w ao n fa→Rd .u64 w bo m fb→Lm fa n→Lm fb m→(0<n→Off ao g)→(0<m→Off bo g)→D≤cap→cap≤140737488355328→vf (sh f o) D+vf fa n*vf fb m<pw D →
  Calls Tryz.prog 182 #[.slice (some ⟨g,o,none⟩) D cap,.slice ao n ca,.slice bo m cb] w fun e w'=>e=.returned (.tuple #[])∧Only g w w' ∧
   ∃f',Blk .u64 145 w' g N f'∧Lm f' N∧(∀j,j<o∨o+D≤j→f' j=f j)∧vf (sh f' o) D=vf (sh f o) D+vf fa n*vf fb m
theorem AddProd.at {n m:Nat} (h:AddProd n m) (ca cb:Nat):AddProdC n m ca cb:=fun g o cap N f ao bo D fa fb w=>h g o cap N f ao bo ca cb D fa fb w
theorem half_c (n c:Nat) (z:Int) (w:World) (hn:n≤140737488355328) (hz:z=n) (hc:c=(n+1)/2):Calls Tryz.prog 193 #[.int .i64 z] w fun e w'=>e=.returned (.int .i64 c)∧w'=w:=by
 subst hz;have h1:Int.tdiv ((n:Int)+1) 2=(c:Int):=by rw [Int.tdiv_eq_ediv_of_nonneg (by omega)];omega
 have h2:((n:Int)+1)/2=(c:Int):=by omega
 clear hc;go_enter Tryz.func193,Tryz.ntmps193;go_wp2;go_ret;exact ⟨rfl,rfl⟩
theorem only_drewN' {g:Nat} {a w:World} (h:Only g a w) (q:Nat):Only g a (w.drewN q):=⟨h.os,h.tape,h.output,h.size,h.block⟩
theorem piece_val {f' F:Nat→Int} {o i D:Nat} {X V0 V:Int} (hi:i≤D) (h0:vf (sh F o) D=V0) (he:∀j,j<o+i∨o+i+(D-i)≤j→f' j=F j) (hv:vf (sh f' (o+i)) (D-i)=vf (sh F (o+i)) (D-i)+X) (hV:V=V0+X*pw i):vf (sh f' o) D=V:=by
 obtain ⟨d,rfl⟩:=Nat.exists_eq_add_of_le hi;rw [Nat.add_sub_cancel_left] at hv he;rw [vf_split,sh_sh] at h0 ⊢;rw [hv,vf_congr (f:=sh f' o) (g:=sh F o) (n:=i) (fun j hj=>he _ (by omega)),hV,←h0]
 grind
theorem piece_room {F:Nat→Int} {o i D N:Nat} {X V0:Int} (hi:i≤D) (hF:Lm F N) (hN:o+D≤N) (h0:vf (sh F o) D=V0) (hr:V0+X*pw i<pw D):vf (sh F (o+i)) (D-i)+X<pw (D-i):=by
 obtain ⟨d,rfl⟩:=Nat.exists_eq_add_of_le hi;rw [Nat.add_sub_cancel_left];have a1:=vf_nonneg (hF.sh (o:=o) (m:=i) (by omega));rw [vf_split,sh_sh] at h0;rw [pw_add] at hr;have hp:=pw_pos i;have:(vf (sh F (o+i)) d+X)*pw i<pw d*pw i:=by rw [Int.add_mul,Int.mul_comm (pw d)];omega
 exact Int.lt_of_mul_lt_mul_right this (Int.le_of_lt hp)
theorem vf_two (fa:Nat→Int) (i n V:_):vf fa (i+n)*V=vf fa i*V+vf (sh fa i) n*V*pw i:=by rw [vf_split];grind
set_option maxRecDepth 100000 in
set_option maxHeartbeats 4000000 in
theorem piece_c (g o cap N:Nat) (f:Nat→Int) (b ob:Nat) (bo:Option Addr) (n m ca cb D:Nat) (fa fb:Nat→Int) (w:World) (hb:Blk .u64 145 w g N f) (hf:Lm f N) (ho:o+D≤N) (hD:n+m≤D) (hN:N≤140737488355328)
  (hra:Rd .u64 w (some ⟨b,ob,none⟩) n fa) (hrb:Rd .u64 w bo m fb) (ha:Lm fa n) (hbb:Lm fb m) (hoa:b≠g) (hob:0<m→Off bo g) (hcap:D≤cap) (hcm:cap≤140737488355328) (hca:n≤ca) (hcam:ca≤9223372036854775807) (hm0:0<m)
  (hih:∀k c,k≤m→k≤c→c≤ca→AddProdC k m c cb) (hroom:vf (sh f o) D+vf fa n*vf fb m<pw D) :
  Calls Tryz.prog 194 #[.slice (some ⟨g,o,none⟩) D cap,.slice (some ⟨b,ob,none⟩) n ca,.slice bo m cb] w fun e w'=>e=.returned (.tuple #[])∧Only g w w' ∧
   ∃f',Blk .u64 145 w' g N f'∧Lm f' N∧(∀j,j<o∨o+D≤j→f' j=f j)∧vf (sh f' o) D=vf (sh f o) D+vf fa n*vf fb m:=by
 have HRm:=hid hroom;have HB:=hid hb;have HF:=hid hf;have HRA:=hid hra;have HRB:=hid hrb;have HA:=hid ha;have HBB:=hid hbb;have HIH:=hid hih;have HOB:=hid hob
 clear hroom hb hf hra hrb ha hbb hih hob;go_enter Tryz.func194,Tryz.ntmps194;go_wp2;go_loopw [0,1] (fun d a wr=>∃(i:Nat) (f':Nat→Int) (x:Option Addr) (c:Nat),i≤n∧d=.slice (some ⟨g,o+i,none⟩) (D-i) (cap-i)∧a=.slice x (n-i) c∧(i<n→x=some ⟨b,ob+i,none⟩∧c=ca-i)∧Only g w wr∧Hid (Blk .u64 145 wr g N f')∧Hid (Lm f' N)∧Hid (∀j,j<o∨o+D≤j→f' j=f j)∧Hid (vf (sh f' o) D=vf (sh f o) D+vf fa i*vf fb m)) (fun _ a _=>match a with | .slice _ k _=>k | _=>0)
 case atStart=>exact ⟨0,f,some ⟨b,ob,none⟩,ca,by omega,rfl,rfl,fun _=>⟨rfl,rfl⟩,Only.refl _ _,HB.out,HF.out,fun _ _=>rfl,by simp [Hid,vf]⟩
 case round =>
  obtain ⟨i,f',x,c,hi,rfl,rfl,hx,hon,HBl,HL,HE,HV⟩:=hrel;by_cases hlt:i<n
  ·obtain ⟨rfl,rfl⟩:=hx hlt;have hbl:=HBl.out;by_cases hsm:m<n-i
   ·have hr1:=piece_room (o:=o) (i:=i) (D:=D) (N:=N) (X:=vf (sh fa i) m*vf fb m) (by omega) HL.out ho HV.out (by
     have e1:=vf_two fa i m (vf fb m);have e2:vf fa (i+m)*vf fb m≤vf fa n*vf fb m:=Int.mul_le_mul_of_nonneg_right (vf_le HA.out (by omega)) (vf_nonneg HBB.out);have:=HRm.out;omega)
    have C:=hid (HIH.out m (ca-i) (Nat.le_refl _) (by omega) (by omega) g (o+i) (cap-i) N f' (some ⟨b,ob+i,none⟩) bo (D-i) (sh fa i) fb wr hbl HL.out (by omega) (by omega) hN ((HRA.out.only hon (off_some hoa)).drop (by omega)) (HRB.out.only hon (HOB.out hm0)) (HA.out.sh (by omega)) HBB.out (fun _=>off_some hoa) HOB.out (by omega) (by omega) hr1);clear hr1 hbl hx;have m1:(m:Int)<((n-i:Nat):Int):=by omega
    have m2:¬(m=ca-i):=by omega
    have m3:¬(m=cap-i):=by omega
    have hmin:min (m:Int) ((n-i:Nat):Int)=(m:Int):=by omega
    go_wp2_with fail
    refine C.out.mono ?_;rintro e w2 ⟨rfl,hon2,f2,hb2,hl2,he2,hv2⟩;have HB2:=hid hb2;have HL2:=hid hl2;have HE2:=hid he2;have HV2:=hid hv2
    clear hb2 hl2 he2 hv2 C;have q1:(m:Int)≤((n-i:Nat):Int):=by omega
    have q2:(m:Int)≤((D-i:Nat):Int):=by omega
    have q3:m≤n-i:=by omega
    have q4:m≤D-i:=by omega
    have m4:¬(ca-i=m):=by omega
    have m5:¬(cap-i=m):=by omega
    go_wp2
    go_quiet (fail)
    go_wp2;go_roundw
    case rel =>
     refine ⟨i+m,f2,_,_,by omega,(by rw [←Nat.add_assoc,←Nat.sub_sub,←Nat.sub_sub]),(by rw [←Nat.sub_sub]),fun _=>⟨by rw [←Nat.add_assoc],by rw [Nat.sub_sub]⟩,only_drewN' (hon.trans hon2) _,HB2.out,HL2.out,fun j hj=>(HE2.out j (by omega)).trans (HE.out j hj),?_⟩;have:=piece_val (by omega) HV.out HE2.out HV2.out rfl;show _=_;rw [this,vf_two];omega
    case measure=>show n-i-m<n-i;omega
   ·have hr1:=piece_room (o:=o) (i:=i) (D:=D) (N:=N) (X:=vf (sh fa i) (n-i)*vf fb m) (by omega) HL.out ho HV.out (by
     have e1:=vf_two fa i (n-i) (vf fb m);have e2:vf fa (i+(n-i))*vf fb m≤vf fa n*vf fb m:=Int.mul_le_mul_of_nonneg_right (vf_le HA.out (by omega)) (vf_nonneg HBB.out);have:=HRm.out;omega)
    have C:=hid (HIH.out (n-i) (ca-i) (by omega) (by omega) (by omega) g (o+i) (cap-i) N f' (some ⟨b,ob+i,none⟩) bo (D-i) (sh fa i) fb wr hbl HL.out (by omega) (by omega) hN ((HRA.out.only hon (off_some hoa)).drop (by omega)) (HRB.out.only hon (HOB.out hm0)) (HA.out.sh (by omega)) HBB.out (fun _=>off_some hoa) HOB.out (by omega) (by omega) hr1);clear hr1 hbl hx;obtain ⟨r,hr⟩:∃r,n-i=r:=⟨_,rfl⟩;have HRe:=hid hr;rw [hr] at C ⊢;have hr0:0<r:=by omega
    have hrca:r≤ca-i:=by omega
    have hrD:r<D-i:=by omega
    have hrcap:r<cap-i:=by omega
    have hrm:r≤m:=by omega
    clear hr;have hmin:min (m:Int) (r:Int)=(r:Int):=by omega
    go_wp2_with fail
    refine C.out.mono ?_;rintro e w2 ⟨rfl,hon2,f2,hb2,hl2,he2,hv2⟩;have HB2:=hid hb2;have HL2:=hid hl2;have HE2:=hid he2;have HV2:=hid hv2
    clear hb2 hl2 he2 hv2 C;have q2:(r:Int)≤((D-i:Nat):Int):=by omega
    have q4:r≤D-i:=by omega
    have m3:¬(r=cap-i):=by omega
    have m5:¬(cap-i=r):=by omega
    have q5:(r:Int)≤(r:Int):=by omega
    by_cases hc:r=ca-i
    ·rw [←hc];clear hc hrca;go_wp2
     go_quiet (fail)
     go_wp2;go_roundw
     case rel =>
      have hre:=HRe.out;refine ⟨n,f2,_,_,by omega,(by rw [show n=i+r by omega,←Nat.add_assoc,←Nat.sub_sub,←Nat.sub_sub]),(by rw [Nat.sub_self]),fun h=>by omega,only_drewN' (hon.trans hon2) _,HB2.out,HL2.out,fun j hj=>(HE2.out j (by omega)).trans (HE.out j hj),?_⟩;have:=piece_val (by omega) HV.out HE2.out HV2.out rfl;show _=_;rw [this,show n=i+r by omega,vf_two];omega
     case measure=>show _<_;simp;omega
    ·have hc2:¬(ca-i=r):=fun h=>hc h.symm
     go_wp2
     go_quiet (fail)
     go_wp2;go_roundw
     case rel =>
      have hre:=HRe.out;refine ⟨n,f2,_,_,by omega,(by rw [show n=i+r by omega,←Nat.add_assoc,←Nat.sub_sub,←Nat.sub_sub]),(by rw [Nat.sub_self]),fun h=>by omega,only_drewN' (hon.trans hon2) _,HB2.out,HL2.out,fun j hj=>(HE2.out j (by omega)).trans (HE.out j hj),?_⟩;have:=piece_val (by omega) HV.out HE2.out HV2.out rfl;show _=_;rw [this,show n=i+r by omega,vf_two];omega
     case measure=>show _<_;simp;omega
  ·have hin:i=n:=by omega
   subst hin;go_wp2;refine bodyPost_end (v:=.tuple #[]) (results_none rfl _ _ _) rfl ⟨rfl,hon,f',HBl.out,HL.out,HE.out,HV.out⟩
end Go.Proofs.YtdbbncamlaiajaaGreat
