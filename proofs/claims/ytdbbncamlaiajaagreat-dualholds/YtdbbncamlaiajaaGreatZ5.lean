/-
 The walk of package nat's steps.apply. Walks of package nat's greatest common divisor: some, euclid. Walks of package nat's greatest common divisor: shorten. Walks of package nat's greatest common divisor: gcd, Gcd. The walk of nat's call Gcd, whatever it is handed. Walks of package rat's helpers: isOne, one, gcd, over, numerator, denominator, signed. Rational numbers in form that can be read; the walks of package rat's add and mul. The walk of package rat's mul.
-/
import Derived.Test.YtdbbncamlaiajaaGreatZ4
import Derived.Test.YtdbbncamlaiajaaGreatZ3
import Derived.BigQuiet
namespace Go.Proofs.YtdbbncamlaiajaaGreat
open Go.RowKit
theorem app_step {p' p q:Nat→Int} {i:Nat} {ca cb c d x y h1 l1 h2 l2 bo v:Int} (hv:vf p' i+(ca-cb)*pw i=c*vf p i-d*vf q i) (hx:p i=x) (hy:q i=y) (e1:x*c+ca=h1*18446744073709551616+l1) (e2:y*d+cb=h2*18446744073709551616+l2) (ev:v=l1-l2+bo*18446744073709551616) :
  vf (upd p' i v) (i+1)+(h1-(h2+bo))*pw (i+1)=c*vf p (i+1)-d*vf q (i+1):=by
 have e:vf (upd p' i v) i=vf p' i:=vf_congr (fun j hj=>upd_other _ _ _ _ (by omega));rw [vf_succ,vf_succ,vf_succ,e,upd_same,pw_succ,hx,hy,ev]
 grind
theorem mod_one {u v p t s:Int} (h:u+t*p=v+s*p) (u0:0≤u) (u1:u<p) (v0:0≤v) (v1:v<p):u=v:=by
 have e:u-v=(s-t)*p:=by rw [Int.sub_mul];omega
 have hz:s-t=0:=by
  rcases Int.lt_trichotomy (s-t) 0 with h | h | h
  ·have:(s-t)*p≤(-1)*p:=Int.mul_le_mul_of_nonneg_right (by omega) (by omega);omega
  ·exact h
  ·have:1*p≤(s-t)*p:=Int.mul_le_mul_of_nonneg_right (by omega) (by omega);omega
 rw [hz] at e;omega
structure Only2 (g h:Nat) (w w':World):Prop where
 os:w'.os=w.os
 tape:w'.tape=w.tape
 output:w'.output=w.output
 size:w.heap.size≤w'.heap.size
 block:∀k,k<w.heap.size→k≠g→k≠h→w'.heap[k]?=w.heap[k]?
theorem Only2.refl (g h:Nat) (w:World):Only2 g h w w:=⟨rfl,rfl,rfl,Nat.le_refl _,fun _ _ _ _=>rfl⟩
theorem Only2.of1 {g h:Nat} {w w':World} (o:Only g w w'):Only2 g h w w':=⟨o.os,o.tape,o.output,o.size,fun k a b _=>o.block k a b⟩
theorem Only2.of2 {g h:Nat} {w w':World} (o:Only h w w'):Only2 g h w w':=⟨o.os,o.tape,o.output,o.size,fun k a _ b=>o.block k a b⟩
theorem Only2.trans {g h:Nat} {a b c:World} (x:Only2 g h a b) (y:Only2 g h b c):Only2 g h a c :=
 ⟨y.os.trans x.os,y.tape.trans x.tape,y.output.trans x.output,Nat.le_trans x.size y.size,fun k h1 h2 h3=>(y.block k (Nat.lt_of_lt_of_le h1 x.size) h2 h3).trans (x.block k h1 h2 h3)⟩
theorem Only2.swap {g h:Nat} {a b:World} (x:Only2 g h a b):Only2 h g a b:=⟨x.os,x.tape,x.output,x.size,fun k h1 h2 h3=>x.block k h1 h3 h2⟩
theorem Only2.drewN {g h:Nat} {a b:World} (x:Only2 g h a b) (q:Nat):Only2 g h a (b.drewN q):=⟨x.os,x.tape,x.output,x.size,x.block⟩
theorem Only2.below {g h B:Nat} {w0 w w':World} (hb:Below B w0 w) (x:Only2 g h w w') (hg:B≤g) (hh:B≤h) (hB:B≤w.heap.size):Below B w0 w' :=
 hb.trans ⟨x.os,x.tape,x.output,x.size,fun k hk=>x.block k (by omega) (by omega) (by omega)⟩
theorem SB.only2 {w w' g h s a0 b0 a1 b1 odd} (x:SB w s a0 b0 a1 b1 odd) (o:Only2 g h w w') (hg:s≠g) (hh:s≠h):SB w' s a0 b0 a1 b1 odd:=(o.block s x.lt hg hh).trans x
theorem mad_of (x c z:Int) (x0:0≤x) (x1:x<18446744073709551616) (c0:0≤c) (c1:c<18446744073709551615) (z0:0≤z) (z1:z≤c) :
  ∃h l,(∀w,Calls Tryz.prog 202 #[.int .u64 x,.int .u64 c,.int .u64 z] w fun e w'=>e=.returned (.tuple #[.int .u64 h,.int .u64 l])∧w'=w)∧0≤h∧h≤c∧0≤l∧l<18446744073709551616∧Hid (x*c+z=h*18446744073709551616+l):=by
 have hb:0≤x*c∧x*c≤18446744073709551615*c:=⟨Int.mul_nonneg x0 c0,Int.mul_le_mul_of_nonneg_right (by omega) c0⟩;refine ⟨_,_,fun w=>mulAdd_c x c z w x0 x1 c0 (by omega) z0 (by omega),?_,?_,?_,?_,?_⟩
 ·omega
 ·omega
 ·omega
 ·omega
 ·show _=_;omega
theorem mad_of' (x c z:Int) (x0:0≤x) (x1:x<18446744073709551616) (c0:0≤c) (c1:c<18446744073709551615) (z0:0≤z) (z1:z≤c+1) :
  ∃h l,(∀w,Calls Tryz.prog 202 #[.int .u64 x,.int .u64 c,.int .u64 z] w fun e w'=>e=.returned (.tuple #[.int .u64 h,.int .u64 l])∧w'=w)∧0≤h∧h≤c∧0≤l∧l<18446744073709551616∧Hid (x*c+z=h*18446744073709551616+l):=by
 have hb:0≤x*c∧x*c≤18446744073709551615*c:=⟨Int.mul_nonneg x0 c0,Int.mul_le_mul_of_nonneg_right (by omega) c0⟩;refine ⟨_,_,fun w=>mulAdd_c x c z w x0 x1 c0 (by omega) z0 (by omega),?_,?_,?_,?_,?_⟩
 ·omega
 ·omega
 ·omega
 ·omega
 ·show _=_;omega
theorem sub_of (l k:Int) (l0:0≤l) (l1:l<18446744073709551616) (k0:0≤k) (k1:k<18446744073709551616) :
  ∃d o,(∀w,(callFunc 203 #[.int .u64 l,.int .u64 k,.int .u64 0]).run Tryz.prog w=.ok (.value (.tuple #[.int .u64 d,.int .u64 o])) w)∧0≤d∧d<18446744073709551616∧0≤o∧o≤1∧Hid (d=l-k+o*18446744073709551616):=by
 refine ⟨_,_,fun w=>sub64_0 l k l0 k0 k1 w,by omega,by omega,(bor_01 _ _).1,(bor_01 _ _).2,?_⟩;show _=_;unfold bor;split <;> omega
set_option maxRecDepth 100000 in
set_option maxHeartbeats 8000000 in
theorem apply_c (ga gb Na Nb n m:Nat) (F H:Nat→Int) (a0 b0 a1 b1:Int) (odd:Bool) (w:World) (hba:Blk .u64 145 w ga Na F) (hbb:Blk .u64 145 w gb Nb H) (la:Lm F Na) (lb:Lm H Nb) (hne:ga≠gb) (hnN:n≤Na) (hmN:m≤Nb) (hmn:m≤n) (hm1:1≤m) (hNa:Na≤140737488355328) (hNb:Nb≤140737488355328)
  (p0:0≤a0∧a0≤18446744073709551613) (p1:0≤b0∧b0≤18446744073709551613) (p2:0≤a1∧a1≤18446744073709551613) (p3:0≤b1∧b1≤18446744073709551613) (U V:Int) (hU:stU odd a0 b0 (vf F n) (vf H m)=U) (hV:stV odd a1 b1 (vf F n) (vf H m)=V) (u0:0≤U) (u1:U<pw m) (v0:0≤V) (v1:V<pw m) :
  Calls Tryz.prog 190 #[.agg #[.int .u64 a0,.int .u64 b0,.int .u64 a1,.int .u64 b1,.bool odd],.slice (some ⟨ga,0,none⟩) n Na,.slice (some ⟨gb,0,none⟩) m Nb] w fun e w'=>Only2 ga gb w w'∧∃gp gq Np Nq k1 k2 c1 c2 P Q x1 x2,e=.returned (.tuple #[.slice x1 k1 c1,.slice x2 k2 c2])∧(gp=ga∧gq=gb∨gp=gb∧gq=ga)∧Blk .u64 145 w' gp Np P∧Blk .u64 145 w' gq Nq Q∧Lm P Np∧Lm Q Nq∧Np≤140737488355328∧Nq≤140737488355328∧(x1=none∧k1=0∧c1=0∨x1=some ⟨gp,0,none⟩∧0<k1∧c1=Np)∧(x2=none∧k2=0∧c2=0∨x2=some ⟨gq,0,none⟩∧0<k2∧c2=Nq)∧k1≤Np∧k2≤Nq∧Fm P k1∧Fm Q k2∧vf P k1=U∧vf Q k2=V:=by
 have HBa:=hid hba;have HBb:=hid hbb;have HLa:=hid la;have HLb:=hid lb;have HU:=hid hU;have HV:=hid hV
 have U1:=hid u1;have V1:=hid v1
 have ga_lt:=hba.lt;have gb_lt:=hbb.lt
 clear hba hbb la lb hU hV u1 v1;obtain ⟨p00,p01⟩:=p0;obtain ⟨p10,p11⟩:=p1;obtain ⟨p20,p21⟩:=p2;obtain ⟨p30,p31⟩:=p3
 have i1:(m:Int)≤(Na:Int):=by omega
 go_enter Tryz.func190,Tryz.ntmps190;cases odd
 ·skip
  go_wp2;have hS0:SB (w.alloc (.cells #[.int .u64 a0,.int .u64 b0,.int .u64 a1,.int .u64 b1,.bool false] 214)) w.heap.size a0 b0 a1 b1 false:=heap_alloc_new w _;have hP0:=HBa.out.alloc (.cells #[.int .u64 a0,.int .u64 b0,.int .u64 a1,.int .u64 b1,.bool false] 214);have hQ0:=HBb.out.alloc (.cells #[.int .u64 a0,.int .u64 b0,.int .u64 a1,.int .u64 b1,.bool false] 214);have HS0:=hid hS0;have HP0:=hid hP0;have HQ0:=hid hQ0
  clear hS0 hP0 hQ0;go_loopw [8,9,10,11,12,40] (fun c1 c2 c3 c4 c5 t wr=>∃(i:Nat) (pa lb pb la bw:Int) (P Q:Nat→Int),i≤m∧t=.int .i64 i∧c1=.int .u64 pa∧c2=.int .u64 lb∧c3=.int .u64 pb∧c4=.int .u64 la∧c5=.int .u64 bw∧0≤pa∧pa≤a0∧0≤lb∧lb≤b0+1∧0≤pb∧pb≤b1∧0≤la∧la≤a1+1∧Hid (Only2 ga gb w wr)∧Hid (w.heap.size<wr.heap.size)∧Hid (SB wr w.heap.size a0 b0 a1 b1 false)∧Hid (Blk .u64 145 wr ga Na P)∧Hid (Blk .u64 145 wr gb Nb Q)∧Hid (Lm P Na)∧Hid (Lm Q Nb)∧Hid (∀j,i≤j→P j=F j)∧Hid (∀j,i≤j→Q j=H j)∧Hid (vf P i+(pa-lb)*pw i=a0*vf F i-b0*vf H i)∧Hid (vf Q i+(pb-la)*pw i=b1*vf H i-a1*vf F i)) (fun _ _ _ _ _ t _=>m-(intOf t).toNat)
  case atStart=>exact ⟨0,0,0,0,0,0,F,H,by omega,rfl,rfl,rfl,rfl,rfl,rfl,by omega,by omega,by omega,by omega,by omega,by omega,by omega,by omega,Only2.of1 ((Only.refl _ _).alloc _),(by show _<_;simp),HS0.out,HP0.out,HQ0.out,HLa.out,HLb.out,fun _ _=>rfl,fun _ _=>rfl,by simp [Hid,vf,pw],by simp [Hid,vf,pw]⟩
  case round =>
   clear HS0 HP0 HQ0;obtain ⟨i,pa,lb,pb,la,bw,P,Q,hi,rfl,rfl,rfl,rfl,rfl,rfl,a1',a2,a3,a4,a5,a6,a7,a8,HO,HSz,HS,HP,HQ,HLP,HLQ,HEP,HEQ,HV1,HV2⟩:=hrel;by_cases hlt:i<m
   ·obtain ⟨x,hx⟩:∃x,P i=x:=⟨_,rfl⟩;obtain ⟨y,hy⟩:∃y,Q i=y:=⟨_,rfl⟩;have hcx:wr.cell? ⟨ga,i,none⟩=some (.int .u64 x):=by rw [←hx];exact HP.out.cell (by omega)
    have hcy:wr.cell? ⟨gb,i,none⟩=some (.int .u64 y):=by rw [←hy];exact HQ.out.cell (by omega)
    have fzp:=HP.out.frozen i;have fzq:=HQ.out.frozen i;obtain ⟨s0,s1,s2,s3,s4⟩:=HS.out.cells;have hgs1:w.heap.size≠ga:=by omega
    have hgs2:w.heap.size≠gb:=by omega
    have t2:∀v,(wr.setCell ⟨ga,i,none⟩ v).cell? ⟨w.heap.size,2,none⟩=some (.int .u64 a1):=fun v=>(World.cell?_of_block (Below.heap_setCell _ _ _ _ (by simpa using hgs1))).trans s2
    have t3:∀v,(wr.setCell ⟨ga,i,none⟩ v).cell? ⟨w.heap.size,3,none⟩=some (.int .u64 b1):=fun v=>(World.cell?_of_block (Below.heap_setCell _ _ _ _ (by simpa using hgs1))).trans s3
    have tq:∀v,(wr.setCell ⟨ga,i,none⟩ v).cell? ⟨gb,i,none⟩=some (.int .u64 y):=fun v=>(World.cell?_of_block (Below.heap_setCell _ _ _ _ (by simp;omega))).trans hcy
    have fq:∀v,(wr.setCell ⟨ga,i,none⟩ (.int .u64 v)).frozen? ⟨gb,i,none⟩=false:=fun v=>(HQ.out.setOther (a:=⟨ga,i,none⟩) (by simp;omega) (.int .u64 v)).frozen i
    have bx:=HLP.out i (by omega);have by':=HLQ.out i (by omega)
    rw [hx] at bx;rw [hy] at by'
    obtain ⟨x0,x1⟩:=bx;obtain ⟨y0,y1⟩:=by'
    have HX:=hid (show F i=x by rw [←HEP.out i (Nat.le_refl _),hx]);have HY:=hid (show H i=y by rw [←HEQ.out i (Nat.le_refl _),hy])
    clear hx hy;obtain ⟨h1,l1,M1,q10,q11,r10,r11,E1⟩:=mad_of x a0 pa x0 x1 p00 (by omega) a1' a2;obtain ⟨h2,l2,M2,q20,q21,r20,r21,E2⟩:=mad_of' y b0 lb y0 y1 p10 (by omega) a3 a4;obtain ⟨h3,l3,M3,q30,q31,r30,r31,E3⟩:=mad_of y b1 pb y0 y1 p30 (by omega) a5 a6;obtain ⟨h4,l4,M4,q40,q41,r40,r41,E4⟩:=mad_of' x a1 la x0 x1 p20 (by omega) a7 a8;obtain ⟨d1,o1',S1,d10,d11,o10,o11,F1⟩:=sub_of l1 l2 r10 r11 r20 r21;obtain ⟨d2,o2',S2,d20,d21,o20,o21,F2⟩:=sub_of l3 l4 r30 r31 r40 r41;have CM1:=hid M1;have CM2:=hid M2;have CM3:=hid M3;have CM4:=hid M4
    clear M1 M2 M3 M4;go_wp2
    go_quiet (fail)
    go_wp2_with fail
    refine (CM1.out _).mono ?_;rintro e w1 ⟨rfl,rfl⟩;go_wp2_with fail
    refine (CM2.out _).mono ?_;rintro e w1 ⟨rfl,rfl⟩;go_wp2_with fail
    refine (CM3.out _).mono ?_;rintro e w1 ⟨rfl,rfl⟩;go_wp2_with fail
    refine (CM4.out _).mono ?_;rintro e w1 ⟨rfl,rfl⟩;go_wp2;go_roundw
    case rel =>
     have o1:Only ga wr _:=(Only.refl ga wr).setCell i none (.int .u64 d1);have o2:Only gb (wr.setCell ⟨ga,i,none⟩ (.int .u64 d1)) _:=(Only.refl gb (wr.setCell ⟨ga,i,none⟩ (.int .u64 d1))).setCell i none (.int .u64 d2);have oo:=(Only2.of1 (h:=gb) o1).trans (Only2.of2 (g:=ga) o2);have hsz:=HSz.out;refine ⟨i+1,h1,h2+o1',h3,h4+o2',o2',upd P i d1,upd Q i d2,by omega,by go_num,rfl,rfl,rfl,rfl,rfl,by omega,by omega,by omega,by omega,by omega,by omega,by omega,by omega,?_,?_,?_,?_,?_,HLP.out.upd ⟨d10,d11⟩,HLQ.out.upd ⟨d20,d21⟩,?_,?_,?_,?_⟩
     ·exact HO.out.trans ⟨oo.os,oo.tape,oo.output,oo.size,oo.block⟩
     ·show _<_;have:=oo.size;exact Nat.lt_of_lt_of_le hsz this
     ·exact HS.out.only2 ⟨oo.os,oo.tape,oo.output,oo.size,oo.block⟩ hgs1 hgs2
     ·exact (HP.out.set i d1).setOther (a:=⟨gb,i,none⟩) (by simp;omega) (.int .u64 d2)
     ·exact (HQ.out.setOther (a:=⟨ga,i,none⟩) (by simp;omega) (.int .u64 d1)).set i d2
     ·intro j hj;rw [upd_other _ _ _ _ (by omega)];exact HEP.out j (by omega)
     ·intro j hj;rw [upd_other _ _ _ _ (by omega)];exact HEQ.out j (by omega)
     ·exact app_step HV1.out HX.out HY.out E1.out E2.out F1.out
     ·exact app_step HV2.out HY.out HX.out E3.out E4.out F2.out
    case measure=>simp [intOf];omega
   ·obtain rfl:i=m:=by omega
    have n1:=vf_nonneg (HLP.out.mono (m:=i) (by omega));have n2:=vf_lt (HLP.out.mono (m:=i) (by omega))
    have n3:=vf_nonneg (HLQ.out.mono (m:=i) (by omega));have n4:=vf_lt (HLQ.out.mono (m:=i) (by omega))
    have hcut:vf F n=vf F i+vf (sh F i) (n-i)*pw i:=by rw [←vf_split,show i+(n-i)=n by omega]
    have hPu:vf P i=U:=by
     have e:=HU.out;simp only [stU,if_false,Bool.false_eq_true] at e;rw [hcut] at e;refine mod_one (p:=pw i) (t:=pa-lb) (s:=-(a0*vf (sh F i) (n-i))) ?_ n1 n2 u0 U1.out;rw [HV1.out,←e];grind
    have hQv:vf Q i=V:=by
     have e:=HV.out;simp only [stV,if_false,Bool.false_eq_true] at e;rw [hcut] at e;refine mod_one (p:=pw i) (t:=pb-la) (s:=a1*vf (sh F i) (n-i)) ?_ n3 n4 v0 V1.out;rw [HV2.out,←e];grind
    have HPu:=hid hPu;have HQv:=hid hQv
    clear n1 n2 n3 n4 hcut hPu hQv;go_wp2_with fail
    refine (trim_c (some ⟨ga,0,none⟩) i Na P wr (by omega) (by omega) (HP.out.rd0 (by omega))).mono ?_;rintro e w1 ⟨rfl,k1,hk1,hz1,he1⟩;have Z1:=hid hz1;clear hz1;obtain ⟨x1,c1,hx1,hf1,hc1⟩:∃x1 c1,e=.returned (.slice x1 k1 c1)∧Fm P k1∧(x1=none∧k1=0∧c1=0∨x1=some ⟨ga,0,none⟩∧0<k1∧c1=Na):=by
     rcases he1 with ⟨h0,he⟩ | ⟨h0,hn0,he⟩
     ·exact ⟨none,0,by rw [he,h0],.inl h0,.inl ⟨rfl,h0,rfl⟩⟩
     ·exact ⟨_,_,he,.inr hn0,.inr ⟨rfl,h0,rfl⟩⟩
    subst hx1;have HF1:=hid hf1;have HC1:=hid hc1
    clear he1 hf1 hc1;go_wp2_with fail
    refine (trim_c (some ⟨gb,0,none⟩) i Nb Q _ (by omega) (by omega) (HQ.out.rd0 (by omega))).mono ?_;rintro e w1 ⟨rfl,k2,hk2,hz2,he2⟩;have Z2:=hid hz2;clear hz2;obtain ⟨x2,c2,hx2,hf2,hc2⟩:∃x2 c2,e=.returned (.slice x2 k2 c2)∧Fm Q k2∧(x2=none∧k2=0∧c2=0∨x2=some ⟨gb,0,none⟩∧0<k2∧c2=Nb):=by
     rcases he2 with ⟨h0,he⟩ | ⟨h0,hn0,he⟩
     ·exact ⟨none,0,by rw [he,h0],.inl h0,.inl ⟨rfl,h0,rfl⟩⟩
     ·exact ⟨_,_,he,.inr hn0,.inr ⟨rfl,h0,rfl⟩⟩
    subst hx2;have HF2:=hid hf2;have HC2:=hid hc2
    clear he2 hf2 hc2;go_wp2
    go_ret2
    refine ⟨HO.out,ga,gb,Na,Nb,k1,k2,c1,c2,P,Q,x1,x2,rfl,.inl ⟨rfl,rfl⟩,HP.out,HQ.out,HLP.out,HLQ.out,by omega,by omega,HC1.out,HC2.out,by omega,by omega,HF1.out,HF2.out,?_,?_⟩
    ·rw [trim_val hk1 Z1.out];exact HPu.out
    ·rw [trim_val hk2 Z2.out];exact HQv.out
 ·skip
  go_wp2;have hS0:SB (w.alloc (.cells #[.int .u64 b0,.int .u64 a0,.int .u64 b1,.int .u64 a1,.bool true] 214)) w.heap.size b0 a0 b1 a1 true:=heap_alloc_new w _;have hP0:=HBb.out.alloc (.cells #[.int .u64 b0,.int .u64 a0,.int .u64 b1,.int .u64 a1,.bool true] 214);have hQ0:=HBa.out.alloc (.cells #[.int .u64 b0,.int .u64 a0,.int .u64 b1,.int .u64 a1,.bool true] 214);have HS0:=hid hS0;have HP0:=hid hP0;have HQ0:=hid hQ0
  clear hS0 hP0 hQ0;go_loopw [8,9,10,11,12,40] (fun c1 c2 c3 c4 c5 t wr=>∃(i:Nat) (pa lb pb la bw:Int) (P Q:Nat→Int),i≤m∧t=.int .i64 i∧c1=.int .u64 pa∧c2=.int .u64 lb∧c3=.int .u64 pb∧c4=.int .u64 la∧c5=.int .u64 bw∧0≤pa∧pa≤b0∧0≤lb∧lb≤a0+1∧0≤pb∧pb≤a1∧0≤la∧la≤b1+1∧Hid (Only2 gb ga w wr)∧Hid (w.heap.size<wr.heap.size)∧Hid (SB wr w.heap.size b0 a0 b1 a1 true)∧Hid (Blk .u64 145 wr gb Nb P)∧Hid (Blk .u64 145 wr ga Na Q)∧Hid (Lm P Nb)∧Hid (Lm Q Na)∧Hid (∀j,i≤j→P j=H j)∧Hid (∀j,i≤j→Q j=F j)∧Hid (vf P i+(pa-lb)*pw i=b0*vf H i-a0*vf F i)∧Hid (vf Q i+(pb-la)*pw i=a1*vf F i-b1*vf H i)) (fun _ _ _ _ _ t _=>m-(intOf t).toNat)
  case atStart=>exact ⟨0,0,0,0,0,0,H,F,by omega,rfl,rfl,rfl,rfl,rfl,rfl,by omega,by omega,by omega,by omega,by omega,by omega,by omega,by omega,Only2.of1 ((Only.refl _ _).alloc _),(by show _<_;simp),HS0.out,HP0.out,HQ0.out,HLb.out,HLa.out,fun _ _=>rfl,fun _ _=>rfl,by simp [Hid,vf,pw],by simp [Hid,vf,pw]⟩
  case round =>
   clear HS0 HP0 HQ0;obtain ⟨i,pa,lb,pb,la,bw,P,Q,hi,rfl,rfl,rfl,rfl,rfl,rfl,a1',a2,a3,a4,a5,a6,a7,a8,HO,HSz,HS,HP,HQ,HLP,HLQ,HEP,HEQ,HV1,HV2⟩:=hrel;by_cases hlt:i<m
   ·obtain ⟨x,hx⟩:∃x,P i=x:=⟨_,rfl⟩;obtain ⟨y,hy⟩:∃y,Q i=y:=⟨_,rfl⟩;have hcx:wr.cell? ⟨gb,i,none⟩=some (.int .u64 x):=by rw [←hx];exact HP.out.cell (by omega)
    have hcy:wr.cell? ⟨ga,i,none⟩=some (.int .u64 y):=by rw [←hy];exact HQ.out.cell (by omega)
    have fzp:=HP.out.frozen i;have fzq:=HQ.out.frozen i;obtain ⟨s0,s1,s2,s3,s4⟩:=HS.out.cells;have hgs1:w.heap.size≠gb:=by omega
    have hgs2:w.heap.size≠ga:=by omega
    have t2:∀v,(wr.setCell ⟨gb,i,none⟩ v).cell? ⟨w.heap.size,2,none⟩=some (.int .u64 b1):=fun v=>(World.cell?_of_block (Below.heap_setCell _ _ _ _ (by simpa using hgs1))).trans s2
    have t3:∀v,(wr.setCell ⟨gb,i,none⟩ v).cell? ⟨w.heap.size,3,none⟩=some (.int .u64 a1):=fun v=>(World.cell?_of_block (Below.heap_setCell _ _ _ _ (by simpa using hgs1))).trans s3
    have tq:∀v,(wr.setCell ⟨gb,i,none⟩ v).cell? ⟨ga,i,none⟩=some (.int .u64 y):=fun v=>(World.cell?_of_block (Below.heap_setCell _ _ _ _ (by simp;omega))).trans hcy
    have fq:∀v,(wr.setCell ⟨gb,i,none⟩ (.int .u64 v)).frozen? ⟨ga,i,none⟩=false:=fun v=>(HQ.out.setOther (a:=⟨gb,i,none⟩) (by simp;omega) (.int .u64 v)).frozen i
    have bx:=HLP.out i (by omega);have by':=HLQ.out i (by omega)
    rw [hx] at bx;rw [hy] at by'
    obtain ⟨x0,x1⟩:=bx;obtain ⟨y0,y1⟩:=by'
    have HX:=hid (show H i=x by rw [←HEP.out i (Nat.le_refl _),hx]);have HY:=hid (show F i=y by rw [←HEQ.out i (Nat.le_refl _),hy])
    clear hx hy;obtain ⟨h1,l1,M1,q10,q11,r10,r11,E1⟩:=mad_of x b0 pa x0 x1 p10 (by omega) a1' a2;obtain ⟨h2,l2,M2,q20,q21,r20,r21,E2⟩:=mad_of' y a0 lb y0 y1 p00 (by omega) a3 a4;obtain ⟨h3,l3,M3,q30,q31,r30,r31,E3⟩:=mad_of y a1 pb y0 y1 p20 (by omega) a5 a6;obtain ⟨h4,l4,M4,q40,q41,r40,r41,E4⟩:=mad_of' x b1 la x0 x1 p30 (by omega) a7 a8;obtain ⟨d1,o1',S1,d10,d11,o10,o11,F1⟩:=sub_of l1 l2 r10 r11 r20 r21;obtain ⟨d2,o2',S2,d20,d21,o20,o21,F2⟩:=sub_of l3 l4 r30 r31 r40 r41;have CM1:=hid M1;have CM2:=hid M2;have CM3:=hid M3;have CM4:=hid M4
    clear M1 M2 M3 M4;go_wp2
    go_quiet (fail)
    go_wp2_with fail
    refine (CM1.out _).mono ?_;rintro e w1 ⟨rfl,rfl⟩;go_wp2_with fail
    refine (CM2.out _).mono ?_;rintro e w1 ⟨rfl,rfl⟩;go_wp2_with fail
    refine (CM3.out _).mono ?_;rintro e w1 ⟨rfl,rfl⟩;go_wp2_with fail
    refine (CM4.out _).mono ?_;rintro e w1 ⟨rfl,rfl⟩;go_wp2;go_roundw
    case rel =>
     have o1:Only gb wr _:=(Only.refl gb wr).setCell i none (.int .u64 d1);have o2:Only ga (wr.setCell ⟨gb,i,none⟩ (.int .u64 d1)) _:=(Only.refl ga (wr.setCell ⟨gb,i,none⟩ (.int .u64 d1))).setCell i none (.int .u64 d2);have oo:=(Only2.of1 (h:=ga) o1).trans (Only2.of2 (g:=gb) o2);have hsz:=HSz.out;refine ⟨i+1,h1,h2+o1',h3,h4+o2',o2',upd P i d1,upd Q i d2,by omega,by go_num,rfl,rfl,rfl,rfl,rfl,by omega,by omega,by omega,by omega,by omega,by omega,by omega,by omega,?_,?_,?_,?_,?_,HLP.out.upd ⟨d10,d11⟩,HLQ.out.upd ⟨d20,d21⟩,?_,?_,?_,?_⟩
     ·exact HO.out.trans ⟨oo.os,oo.tape,oo.output,oo.size,oo.block⟩
     ·show _<_;have:=oo.size;exact Nat.lt_of_lt_of_le hsz this
     ·exact HS.out.only2 ⟨oo.os,oo.tape,oo.output,oo.size,oo.block⟩ hgs1 hgs2
     ·exact (HP.out.set i d1).setOther (a:=⟨ga,i,none⟩) (by simp;omega) (.int .u64 d2)
     ·exact (HQ.out.setOther (a:=⟨gb,i,none⟩) (by simp;omega) (.int .u64 d1)).set i d2
     ·intro j hj;rw [upd_other _ _ _ _ (by omega)];exact HEP.out j (by omega)
     ·intro j hj;rw [upd_other _ _ _ _ (by omega)];exact HEQ.out j (by omega)
     ·exact app_step HV1.out HX.out HY.out E1.out E2.out F1.out
     ·exact app_step HV2.out HY.out HX.out E3.out E4.out F2.out
    case measure=>simp [intOf];omega
   ·obtain rfl:i=m:=by omega
    have n1:=vf_nonneg (HLP.out.mono (m:=i) (by omega));have n2:=vf_lt (HLP.out.mono (m:=i) (by omega))
    have n3:=vf_nonneg (HLQ.out.mono (m:=i) (by omega));have n4:=vf_lt (HLQ.out.mono (m:=i) (by omega))
    have hcut:vf F n=vf F i+vf (sh F i) (n-i)*pw i:=by rw [←vf_split,show i+(n-i)=n by omega]
    have hPu:vf P i=U:=by
     have e:=HU.out;simp only [stU,if_true] at e;rw [hcut] at e;refine mod_one (p:=pw i) (t:=pa-lb) (s:=a0*vf (sh F i) (n-i)) ?_ n1 n2 u0 U1.out;rw [HV1.out,←e];grind
    have hQv:vf Q i=V:=by
     have e:=HV.out;simp only [stV,if_true] at e;rw [hcut] at e;refine mod_one (p:=pw i) (t:=pb-la) (s:=-(a1*vf (sh F i) (n-i))) ?_ n3 n4 v0 V1.out;rw [HV2.out,←e];grind
    have HPu:=hid hPu;have HQv:=hid hQv
    clear n1 n2 n3 n4 hcut hPu hQv;go_wp2_with fail
    refine (trim_c (some ⟨gb,0,none⟩) i Nb P wr (by omega) (by omega) (HP.out.rd0 (by omega))).mono ?_;rintro e w1 ⟨rfl,k1,hk1,hz1,he1⟩;have Z1:=hid hz1;clear hz1;obtain ⟨x1,c1,hx1,hf1,hc1⟩:∃x1 c1,e=.returned (.slice x1 k1 c1)∧Fm P k1∧(x1=none∧k1=0∧c1=0∨x1=some ⟨gb,0,none⟩∧0<k1∧c1=Nb):=by
     rcases he1 with ⟨h0,he⟩ | ⟨h0,hn0,he⟩
     ·exact ⟨none,0,by rw [he,h0],.inl h0,.inl ⟨rfl,h0,rfl⟩⟩
     ·exact ⟨_,_,he,.inr hn0,.inr ⟨rfl,h0,rfl⟩⟩
    subst hx1;have HF1:=hid hf1;have HC1:=hid hc1
    clear he1 hf1 hc1;go_wp2_with fail
    refine (trim_c (some ⟨ga,0,none⟩) i Na Q _ (by omega) (by omega) (HQ.out.rd0 (by omega))).mono ?_;rintro e w1 ⟨rfl,k2,hk2,hz2,he2⟩;have Z2:=hid hz2;clear hz2;obtain ⟨x2,c2,hx2,hf2,hc2⟩:∃x2 c2,e=.returned (.slice x2 k2 c2)∧Fm Q k2∧(x2=none∧k2=0∧c2=0∨x2=some ⟨ga,0,none⟩∧0<k2∧c2=Na):=by
     rcases he2 with ⟨h0,he⟩ | ⟨h0,hn0,he⟩
     ·exact ⟨none,0,by rw [he,h0],.inl h0,.inl ⟨rfl,h0,rfl⟩⟩
     ·exact ⟨_,_,he,.inr hn0,.inr ⟨rfl,h0,rfl⟩⟩
    subst hx2;have HF2:=hid hf2;have HC2:=hid hc2
    clear he2 hf2 hc2;go_wp2
    go_ret2
    refine ⟨HO.out.swap,gb,ga,Nb,Na,k1,k2,c1,c2,P,Q,x1,x2,rfl,.inr ⟨rfl,rfl⟩,HP.out,HQ.out,HLP.out,HLQ.out,by omega,by omega,HC1.out,HC2.out,by omega,by omega,HF1.out,HF2.out,?_,?_⟩
    ·rw [trim_val hk1 Z1.out];exact HPu.out
    ·rw [trim_val hk2 Z2.out];exact HQv.out
set_option maxHeartbeats 400000 in
theorem some_c (a0 b0 a1 b1:Int) (odd:Bool) (w:World):Calls Tryz.prog 189 #[.agg #[.int .u64 a0,.int .u64 b0,.int .u64 a1,.int .u64 b1,.bool odd]] w fun e w'=>e=.returned (.bool (b0 != 0))∧Below w.heap.size w w':=by
 go_enter Tryz.func189,Tryz.ntmps189;go_wp2;go_ret;exact ⟨rfl,(Below.refl _ _).alloc (Nat.le_refl _) _⟩
def One (base:Nat) (w:World) (x:Option Addr) (k c g:Nat) (A:Int):Prop:=∃P,x=some ⟨g,0,none⟩∧0<k∧k≤c∧c≤140737488355328∧base≤g∧Blk .u64 145 w g c P∧Lm P c∧Fm P k∧vf P k=A
theorem One.below {base w w' x k c g A} (h:One base w x k c g A) (hb:Below w.heap.size w w'):One base w' x k c g A:=by
 obtain ⟨P,h1,h2,h3,h4,h5,h6,h7,h8,h9⟩:=h;exact ⟨P,h1,h2,h3,h4,h5,h6.below hb h6.lt,h7,h8,h9⟩
def Two (base:Nat) (w:World) (x1:Option Addr) (k1 c1:Nat) (x2:Option Addr) (k2 c2:Nat) (A B:Int):Prop :=
 ∃g1,One base w x1 k1 c1 g1 A∧0≤B∧B≤A∧((x2=none∧k2=0∧c2=0∧B=0)∨∃g2,g1≠g2∧One base w x2 k2 c2 g2 B)
theorem Two.below {base w w' x1 k1 c1 x2 k2 c2 A B} (h:Two base w x1 k1 c1 x2 k2 c2 A B) (hb:Below w.heap.size w w'):Two base w' x1 k1 c1 x2 k2 c2 A B:=by
 obtain ⟨g1,h1,h2,h3,h4⟩:=h;exact ⟨g1,h1.below hb,h2,h3,h4.imp id (fun ⟨g2,a,b⟩=>⟨g2,a,b.below hb⟩)⟩
set_option maxRecDepth 100000 in
set_option maxHeartbeats 8000000 in
theorem euclid_c (base:Nat) (x1 x2:Option Addr) (k1 c1 k2 c2 K:Nat) (A B:Int) (w:World) (h:Two base w x1 k1 c1 x2 k2 c2 A B) (hk2:2≤k2) (hAK:A<pw K) (hK:K≤8796093022207) (hbase:base≤w.heap.size) :
  Calls Tryz.prog 179 #[.slice x1 k1 c1,.slice x2 k2 c2] w fun e w'=>∃y1 l1 d1 y2 l2 d2 A' B',e=.returned (.tuple #[.slice y1 l1 d1,.slice y2 l2 d2])∧Below base w w'∧Two base w' y1 l1 d1 y2 l2 d2 A' B'∧Cd A' B' A B∧B'<B∧A'≤A:=by
 obtain ⟨g1,⟨P,rfl,a1,a2,a3,a4,hbP,lP,fP,vP⟩,b0,b1,h2⟩:=h;rcases h2 with ⟨_,hz,_⟩ | ⟨g2,hne,Q,rfl,e1,e2,e3,e4,hbQ,lQ,fQ,vQ⟩
 ·omega
 have hk1K:k1≤K:=mid_len (lP.mono a2) fP (by rw [vP];exact hAK);have hk21:k2≤k1:=vf_len (lQ.mono e2) (lP.mono a2) fQ (by rw [vP,vQ];exact b1);have hA0:0≤A:=by rw [←vP];exact vf_nonneg (lP.mono a2)
 have hBlt:B<pw k2:=by rw [←vQ];exact vf_lt (lQ.mono e2)
 obtain ⟨x,y,hT,cH⟩:=highBits_c (some ⟨g1,0,none⟩) (some ⟨g2,0,none⟩) k1 k2 c1 c2 P Q w (by omega) (by omega) hk21 (hbP.rd0 a2) (hbQ.rd0 e2) (lP.mono a2) (lQ.mono e2) fP (by rw [vP,vQ];exact b1);rw [vP,vQ] at hT;obtain ⟨t1,t2,t3,t4,T,ra,rb,hA,hB,ra0,ra1,rb0,rb1⟩:=hT;have CH:=hid cH;have CF:=hid (fun W=>findSteps_c x y W t3 t4 (by omega) t2);have HP:=hid hbP;have HQ:=hid hbQ;have LP:=hid lP;have LQ:=hid lQ;have FP:=hid fP;have FQ:=hid fQ;have VP:=hid vP;have VQ:=hid vQ;have HA:=hid hA;have HB:=hid hB;have BLT:=hid hBlt
 clear cH hbP hbQ lP lQ fP fQ vP vQ hA hB hBlt hAK;go_enter Tryz.func179,Tryz.ntmps179;go_wp2_with fail
 refine CH.out.mono ?_;rintro e w1 ⟨rfl,q1,rfl⟩;go_wp2_with fail
 refine (CF.out _).mono ?_;rintro e w2 ⟨hbel2,a0,b0',a1',b1',odd,a,b,rfl,hL,hx0⟩;have HL:=hid hL;have HX0:=hid hx0
 have BE2:=hid (show Below w.heap.size w w2 from ⟨hbel2.os,hbel2.tape,hbel2.output,hbel2.size,hbel2.block⟩);clear hL hx0 hbel2 CF CH;go_wp2_with fail
 refine (some_c a0 b0' a1' b1' odd _).mono ?_;rintro e w3 ⟨rfl,hbel3⟩;have hS3:SB w3 w2.heap.size a0 b0' a1' b1' odd:=(show SB (w2.alloc _) w2.heap.size a0 b0' a1' b1' odd from heap_alloc_new w2 _).below hbel3;have z2:=BE2.out.size;have BE3:=hid (show Below w.heap.size w w3 from (BE2.out.alloc z2 _).trans (hbel3.mono (by simp;omega)));have HP3:=hid (HP.out.below BE3.out HP.out.lt);have HQ3:=hid (HQ.out.below BE3.out HQ.out.lt)
 obtain ⟨s0,s1,s2,s3,s4⟩:=hS3.cells;have g1lt:=HP.out.lt;have g2lt:=HQ.out.lt
 clear hbel3 hS3 HP HQ;by_cases hz:b0'=0
 ·have hzb:(b0' != 0)=false:=by simp [hz]
  rw [hzb];go_wp2_with fail
  refine (divMod_c (some ⟨g1,0,none⟩) (some ⟨g2,0,none⟩) k1 k2 c1 c2 P Q w3 (by omega) (by omega) (HP3.out.rd0 a2) (HQ3.out.rd0 e2) (LP.out.mono a2) (LQ.out.mono e2) FP.out FQ.out (by omega)).mono ?_;rintro e w4 ⟨xq,kq,cq,q,xr,kr,cr,r,rfl,hresq,hresr,hv,hr0,hr1⟩;rw [VP.out,VQ.out] at hv;rw [VQ.out] at hr1;have HV:=hid hv;have HR0:=hid hr0;have HR1:=hid hr1;have HRS:=hid hresr
  have HQ4:=hid (HQ3.out.below hresr.bel HQ3.out.lt);clear hv hr0 hr1 hresq hresr;go_wp2
  go_ret2
  have hb4:=BE3.out.trans (HRS.out.bel.mono BE3.out.size);refine ⟨_,k2,c2,_,kr,cr,B,vf r kr,rfl,hb4.mono hbase,⟨g2,⟨Q,rfl,by omega,e2,e3,e4,HQ4.out,LQ.out,FQ.out,VQ.out⟩,HR0.out,by have:=HR1.out;omega,?_⟩,?_,HR1.out,b1⟩
  ·have hnc:=HRS.out.ncap;have z3:=BE3.out.size;rcases HRS.out.own with ⟨rfl,rfl,rfl⟩ | ⟨gr,rfl,hgr,hk0,hkc,hcC,hbr⟩
   ·exact .inl ⟨rfl,rfl,rfl,rfl⟩
   ·exact .inr ⟨gr,by omega,r,rfl,hk0,hkc,by omega,by omega,hbr,HRS.out.lmc,HRS.out.fm,rfl⟩
  ·have e:vf r kr=A-vf q kq*B:=by have:=HV.out;omega
   rw [e];exact (Cd.refl A B).step _
 ·have hzb:(b0' != 0)=true:=by simp [hz]
  rw [hzb];obtain ⟨hled,m0,m1,m2,m3⟩:=lh_some HL.out hz;obtain ⟨n0,n1,n2,n3⟩:=lh_none HL.out;have hl:=hled T ra rb ra0 ra1 rb0 rb1;rw [←HA.out,←HB.out] at hl;obtain ⟨l1,l2,l3,l4⟩:=hl;have HC:=hid l4;clear l4 hled;obtain ⟨U,hU⟩:∃U,stU odd a0 b0' A B=U:=⟨_,rfl⟩;obtain ⟨V,hV⟩:∃V,stV odd a1' b1' A B=V:=⟨_,rfl⟩;rw [hU,hV] at HC;rw [hV] at l1 l2;rw [hU] at l2 l3;have CA:=hid (apply_c g1 g2 c1 c2 k1 k2 P Q a0 b0' a1' b1' odd w3 HP3.out HQ3.out LP.out LQ.out hne a2 e2 hk21 (by omega) a3 e3 ⟨n0,by omega⟩ ⟨n1,by omega⟩ ⟨n2,by omega⟩ ⟨n3,by omega⟩ U V (by rw [VP.out,VQ.out];exact hU) (by rw [VP.out,VQ.out];exact hV) (by omega) (by have:=BLT.out;omega) (by omega) (by have:=BLT.out;omega));clear hU hV hz;go_wp2_with fail
  refine CA.out.mono ?_;rintro e w4 ⟨hon2,gp,gq,Np,Nq,t1',t2',d1,d2,P',Q',y1,y2,rfl,hside,hbp,hbq,lp,lq,hNp,hNq,hx1,hx2,hl1,hl2,fp,fq,vp,vq⟩;have H1:=hid hside;have H2:=hid hbp;have H3:=hid hbq;have H4:=hid lp;have H5:=hid lq;have H6:=hid hx1;have H7:=hid hx2;have H8:=hid fp;have H9:=hid fq;have H10:=hid vp;have H11:=hid vq;have HON:=hid hon2
  clear hside hbp hbq lp lq hx1 hx2 fp fq vp vq hon2 CA;go_wp2
  go_ret2
  have z3:=BE3.out.size;have hb4:Below base w w4:=HON.out.below (BE3.out.mono hbase) a4 e4 (by omega);have hgp:base≤gp∧base≤gq∧gp≠gq:=by rcases H1.out with ⟨rfl,rfl⟩ | ⟨rfl,rfl⟩ <;> omega
  refine ⟨y1,t1',d1,y2,t2',d2,U,V,rfl,hb4,⟨gp,?_,by omega,by omega,?_⟩,HC.out,by omega,by omega⟩
  ·rcases H6.out with ⟨_,hk0,_⟩ | ⟨h1,h2,h3⟩
   ·have:=H10.out;rw [hk0] at this;simp [vf] at this;omega
   ·exact ⟨P',h1,h2,by omega,by omega,hgp.1,by rw [h3];exact H2.out,by rw [h3];exact H4.out,H8.out,H10.out⟩
  ·rcases H7.out with ⟨h1,h2,h3⟩ | ⟨h1,h2,h3⟩
   ·left
    refine ⟨h1,h2,h3,?_⟩;rw [←H11.out,h2];rfl
   ·exact .inr ⟨gq,hgp.2.2,Q',h1,h2,by omega,by omega,hgp.2.1,by rw [h3];exact H3.out,by rw [h3];exact H5.out,H9.out,H11.out⟩
noncomputable def vOf (w:World) (v:Value):Nat:=match v with
 | .slice (some a) k _=>(vf (fun j=>match w.cell? ⟨a.block,a.off+j,none⟩ with | some (.int _ z)=>z | _=>0) k).toNat
 | _=>0
theorem One.vOf {base w x k c g A} (h:One base w x k c g A):vOf w (.slice x k c)=A.toNat:=by
 obtain ⟨P,rfl,h2,h3,h4,h5,h6,h7,h8,h9⟩:=h;rw [←h9];show (vf _ k).toNat=_
 congr 1
 refine vf_congr (fun j hj=>?_);have:=h6.cell (j:=j) (by omega);simp only [Nat.zero_add];rw [this]
theorem Two.vOf {base w x1 k1 c1 x2 k2 c2 A B} (h:Two base w x1 k1 c1 x2 k2 c2 A B):vOf w (.slice x2 k2 c2)=B.toNat:=by
 obtain ⟨g1,h1,h2,h3,h4⟩:=h;rcases h4 with ⟨rfl,rfl,rfl,rfl⟩ | ⟨g2,_,h5⟩
 ·rfl
 ·exact h5.vOf
set_option maxRecDepth 100000 in
set_option maxHeartbeats 4000000 in
theorem shorten_c (base:Nat) (x1 x2:Option Addr) (k1 c1 k2 c2 K:Nat) (A B:Int) (w:World) (h:Two base w x1 k1 c1 x2 k2 c2 A B) (hAK:A<pw K) (hK:K≤8796093022207) (hbase:base≤w.heap.size) :
  Calls Tryz.prog 164 #[.slice x1 k1 c1,.slice x2 k2 c2] w fun e w'=>∃y1 l1 d1 y2 l2 d2 A' B',e=.returned (.tuple #[.slice y1 l1 d1,.slice y2 l2 d2])∧Below base w w'∧Two base w' y1 l1 d1 y2 l2 d2 A' B'∧Cd A' B' A B∧l2≤1∧A'≤A:=by
 have HT:=hid h;have HAK:=hid hAK
 clear h hAK;go_enter Tryz.func164,Tryz.ntmps164;go_wp2;go_loopw [0,1] (fun u v wr=>∃(y1:Option Addr) (l1 d1:Nat) (y2:Option Addr) (l2 d2:Nat) (A' B':Int),u=.slice y1 l1 d1∧v=.slice y2 l2 d2∧Hid (Below base w wr)∧base≤wr.heap.size∧Hid (Two base wr y1 l1 d1 y2 l2 d2 A' B')∧Hid (Cd A' B' A B)∧Hid (A'≤A)) (fun _ v wr=>vOf wr v)
 case atStart=>exact ⟨x1,k1,c1,x2,k2,c2,A,B,rfl,rfl,Below.refl _ _,hbase,HT.out,Cd.refl _ _,Int.le_refl _⟩
 case round =>
  clear HT;obtain ⟨y1,l1,d1,y2,l2,d2,A',B',rfl,rfl,HB,hbs,HT,HC,HA⟩:=hrel;by_cases hl:1<l2
  ·have hlb:decide ((1:Int)<(l2:Int))=true:=by simp;omega
   have CE:=hid (euclid_c base y1 y2 l1 d1 l2 d2 K A' B' wr HT.out (by omega) (by have:=HA.out;have:=HAK.out;omega) hK hbs);go_wp2_with fail
   refine CE.out.mono ?_;rintro e w2 ⟨z1,m1,f1,z2,m2,f2,A2,B2,rfl,hb2,ht2,hc2,hlt,hle⟩;have H1:=hid (HB.out.trans hb2);have H2:=hid ht2;have H3:=hid (hc2.trans HC.out);have H4:=hid hlt;have H5:=hid (show A2≤A by have:=HA.out;omega)
   have hsz:=hb2.size;clear hb2 ht2 hc2 hlt hle CE;go_wp2;go_roundw
   case rel=>exact ⟨z1,m1,f1,z2,m2,f2,A2,B2,rfl,rfl,H1.out,by omega,H2.out,H3.out,H5.out⟩
   case measure =>
    have e1:=H2.out.vOf;have e2:=HT.out.vOf;have h0:0≤B2:=by obtain ⟨_,_,h,_⟩:=H2.out;exact h
    have hlt:=H4.out;show vOf w2 (.slice z2 m2 f2)<vOf wr (.slice y2 l2 d2);rw [e1,e2];omega
  ·have hlb:decide ((1:Int)<(l2:Int))=false:=by simp;omega
   go_wp2
   go_ret2
   exact ⟨y1,l1,d1,y2,l2,d2,A',B',rfl,HB.out,HT.out,HC.out,by omega,HA.out⟩
theorem cd_gcd {u v A B:Int} (h:Cd u v A B) (u0:0≤u) (v0:0≤v) (A0:0≤A) (B0:0≤B):Nat.gcd u.toNat v.toNat=Nat.gcd A.toNat B.toNat:=by
 have key:∀{p q r s:Int},Cd p q r s→0≤p→0≤q→0≤r→0≤s→Nat.gcd p.toNat q.toNat ∣ Nat.gcd r.toNat s.toNat:=by
  intro p q r s h p0 q0 r0 s0;have h1:((Nat.gcd p.toNat q.toNat:Nat):Int) ∣ p:=by
   have:=Int.natCast_dvd_natCast.2 (Nat.gcd_dvd_left p.toNat q.toNat)
   rwa [Int.toNat_of_nonneg p0] at this
  have h2:((Nat.gcd p.toNat q.toNat:Nat):Int) ∣ q:=by
   have:=Int.natCast_dvd_natCast.2 (Nat.gcd_dvd_right p.toNat q.toNat)
   rwa [Int.toNat_of_nonneg q0] at this
  obtain ⟨h3,h4⟩:=(h _).1 ⟨h1,h2⟩;refine Nat.dvd_gcd ?_ ?_
  ·apply Int.natCast_dvd_natCast.1;rwa [Int.toNat_of_nonneg r0]
  ·apply Int.natCast_dvd_natCast.1;rwa [Int.toNat_of_nonneg s0]
 exact Nat.dvd_antisymm (key h u0 v0 A0 B0) (key (fun d=>(h d).symm) A0 B0 u0 v0)
set_option maxRecDepth 100000 in
set_option maxHeartbeats 8000000 in
theorem gcd_c (ao bo:Option Addr) (n m ca cb:Nat) (f h:Nat→Int) (w:World) (hn:n≤8796093022207) (hm:m≤8796093022207) (hr:Rd .u64 w ao n f) (hs:Rd .u64 w bo m h) (hf:Lm f n) (hh:Lm h m) (ff:Fm f n) (fh:Fm h m) :
  Calls Tryz.prog 155 #[.slice ao n ca,.slice bo m cb] w fun e w'=>∃ao' k cap' f',e=.returned (.slice ao' k cap')∧Res (max n m+1) w w' ao' k cap' f'∧vf f' k=(Nat.gcd (vf f n).toNat (vf h m).toNat:Nat):=by
 have CC:=hid (cmp_c ao bo n m ca cb f h w (by omega) (by omega) hr hs hf hh ff fh);have HRa:=hid hr;have HRb:=hid hs;have HLa:=hid hf;have HLb:=hid hh;have HFa:=hid ff;have HFb:=hid fh
 clear hr hs hf hh ff fh;by_cases hlt:vf f n<vf h m
 ·skip
  have HLt:=hid hlt;clear hlt;rcases (show n=0∨n=1∨2≤n by omega) with hb0 | hb1 | hb2
  ·have hBz:vf f n=0:=by rw [hb0];rfl
   have HBz:=hid hBz;subst hb0;clear hBz;go_enter Tryz.func155,Tryz.ntmps155;go_wp2_with fail
   refine CC.out.mono ?_;rintro e w1 ⟨⟨q,rfl⟩,c,rfl,ho⟩;have hc:c=-1:=by have:=HLt.out;unfold Ord at ho;omega
   subst hc;clear ho;go_wp2_with fail
   refine (clone_c bo m cb h _ (by omega) (show Rd .u64 (w.drewN q) bo m h from HRb.out) HLb.out).mono ?_;rintro e w9 ⟨xr,kr,cr,rfl,hres,hkr,hv⟩;have HRS:=hid hres;have HVr:=hid hv
   clear hres hv;go_wp2;go_ret;refine ⟨xr,kr,cr,h,rfl,(HRS.out.ahead (below_drewN (Below.refl w.heap.size w) q)).mono (by omega),?_⟩;rw [HVr.out,show vf h m=vf h m from rfl];rw [show vf f 0=0 from rfl];rw [Nat.gcd_comm];simp [Int.toNat_of_nonneg (vf_nonneg HLb.out)]
  ·subst hb1;obtain ⟨bb,ob,rfl⟩:=HRa.out.at (by omega);obtain ⟨x,hx⟩:∃x,f 0=x:=⟨_,rfl⟩;have hcell:w.cell? ⟨bb,ob,none⟩=some (.int .u64 x):=by rw [←hx];exact HRa.out.cell (j:=0) (by omega)
   have hx01:=HLa.out 0 (by omega);have hx2:x≠0:=by rw [←hx];rcases HFa.out with h | h;omega;exact h
   rw [hx] at hx01;obtain ⟨xn,rfl⟩:=Int.eq_ofNat_of_zero_le hx01.1;have HVB:=hid (show vf f 1=(xn:Int) by simp [vf,pw,hx]);clear hx;go_enter Tryz.func155,Tryz.ntmps155;go_wp2_with fail
   refine CC.out.mono ?_;rintro e w1 ⟨⟨q,rfl⟩,c,rfl,ho⟩;have hc:c=-1:=by have:=HLt.out;unfold Ord at ho;omega
   subst hc;clear ho;have hA0:=vf_nonneg HLb.out;obtain ⟨R,hR⟩:∃R:Nat,(vf h m%(xn:Int))=R:=⟨(vf h m%(xn:Int)).toNat,by have:=Int.emod_nonneg (vf h m) (show (xn:Int)≠0 by omega);omega⟩;have hR1:(R:Int)<xn:=by rw [←hR];exact Int.emod_lt_of_pos _ (by omega)
   have cm:=fun W hr'=>modWord_c bo m cb h xn W (by omega) hr' HLb.out (by omega) (by omega)
   rw [hR] at cm;have cg:=fun W=>gcdWord_c xn R W (by omega) (by omega)
   have hgl:Nat.gcd xn R<18446744073709551616:=Nat.lt_of_le_of_lt (Nat.gcd_le_left _ (by omega)) (by omega);have hfin:Nat.gcd xn R=Nat.gcd (vf h m).toNat xn:=by
    have e:R=(vf h m).toNat%xn:=by
     have:((vf h m).toNat:Int)=vf h m:=Int.toNat_of_nonneg hA0;have h2:(((vf h m).toNat%xn:Nat):Int)=vf h m%(xn:Int):=by rw [Int.natCast_emod,this]
     omega
    rw [e,Nat.gcd_comm (vf h m).toNat xn,Nat.gcd_rec xn (vf h m).toNat,Nat.gcd_comm]
   generalize Nat.gcd xn R=G at *;have CM:=hid cm;have CG:=hid cg;have HFin:=hid hfin;have HRd:=hid (show Rd .u64 (w.drewN q) bo m h from HRb.out)
   clear cm cg hfin hR hA0;go_wp2;go_region_with (first | (go_at_call 168;refine (CM.out _ (by exact HRd.out)).mono ?_;rintro e w' ⟨rfl,q1,rfl⟩) | (go_at_call 167;refine (CG.out _).mono ?_;rintro e w' ⟨rfl,q2,rfl⟩) | (go_at_call 166;refine (fromWord_c G _ (by omega) (by omega)).mono ?_;rintro e w' ⟨xr,kr,cr,fr,rfl,hres,hv'⟩))
   all_goals
    go_wp2;go_ret;refine ⟨xr,kr,cr,fr,rfl,(hres.ahead (by repeat (first | exact (below_drewN (Below.refl w.heap.size w) q) | exact Below.refl _ _ | refine below_drewN ?_ _ | refine Below.drew ?_))).mono (by omega),?_⟩;rw [hv',HFin.out,HVB.out];rw [Int.toNat_natCast,Nat.gcd_comm]
  ·have CA:=hid (fun W (hW:Rd .u64 W bo m h)=>clone_c bo m cb h W (by omega) hW HLb.out);have CB:=hid (fun W (hW:Rd .u64 W ao n f)=>clone_c ao n ca f W (by omega) hW HLa.out);have d1:decide ((1:Int)<(n:Int))=true:=by simp;omega
   go_enter Tryz.func155,Tryz.ntmps155;go_wp2_with fail
   refine CC.out.mono ?_;rintro e w1 ⟨⟨q,rfl⟩,c,rfl,ho⟩;have hc:c=-1:=by have:=HLt.out;unfold Ord at ho;omega
   subst hc;clear ho;go_wp2_with fail
   refine (CA.out _ (by exact HRb.out)).mono ?_;rintro e w2 ⟨xa',ka,ca',rfl,hresa,hka,hva⟩;have hRb2:=HRa.out.below (show Below w.heap.size w w2 from ⟨hresa.bel.os,hresa.bel.tape,hresa.bel.output,hresa.bel.size,hresa.bel.block⟩) (Nat.le_refl _);have RESA:=hid hresa;have HVa:=hid hva;have HRb2:=hid hRb2
   clear hresa hva hRb2 CA;go_wp2_with fail
   refine (CB.out _ HRb2.out).mono ?_;rintro e w3 ⟨xb',kb,cb',rfl,hresb,hkb,hvb⟩;have hTwo:Two w.heap.size w3 xa' ka ca' xb' kb cb' (vf h m) (vf f n):=by
    have hz:w.heap.size≤w2.heap.size:=RESA.out.bel.size;have hBp:0<vf f n:=by have:=vf_form_ge HLa.out HFa.out (by omega);have:=pw_pos (n-1);omega
    have hle:vf f n≤vf h m:=by have:=HLt.out;omega
    rcases RESA.out.own with ⟨_,h0,_⟩ | ⟨ga,e1,e2,e3,e4,e5,e6⟩
    ·have:=HVa.out;rw [h0] at this;simp [vf] at this;omega
    ·rcases hresb.own with ⟨_,h0,_⟩ | ⟨gb,f1,f2,f3,f4,f5,f6⟩
     ·rw [h0] at hvb;simp [vf] at hvb;omega
     ·refine ⟨ga,⟨h,e1,e3,e4,by omega,by simpa using e2,e6.below hresb.bel e6.lt,RESA.out.lmc,RESA.out.fm,HVa.out⟩,by omega,hle,.inr ⟨gb,?_,f,f1,f3,f4,by omega,by omega,f6,hresb.lmc,hresb.fm,hvb⟩⟩;have:=e6.lt;omega
   have hb3:Below w.heap.size w w3:=(show Below w.heap.size w w2 from ⟨RESA.out.bel.os,RESA.out.bel.tape,RESA.out.bel.output,RESA.out.bel.size,RESA.out.bel.block⟩).trans (hresb.bel.mono RESA.out.bel.size);have CS:=hid (shorten_c w.heap.size xa' xb' ka ca' kb cb' m (vf h m) (vf f n) w3 hTwo (vf_lt HLb.out) (by omega) hb3.size);have BE3:=hid hb3;clear hTwo hb3 hresb hvb RESA HVa HRb2 CB d1;go_wp2_with fail
   refine CS.out.mono ?_;rintro e w4 ⟨y1,l1,d1,y2,l2,d2,A',B',rfl,hb4,hT,hC,hl2,hA'⟩;obtain ⟨g1,⟨P,rfl,o1,o2,o3,o4,hbP,lP,fP,vP⟩,B0,BA,h2⟩:=hT;have BE4:=hid (BE3.out.trans hb4);have HCd:=hid hC;have hl1:l1≤m:=by
    have:=vf_lt HLb.out;exact mid_len (lP.mono o2) fP (by rw [vP];omega)
   have HP:=hid (hbP.rd0 o2);have LP:=hid (lP.mono o2);have VP:=hid vP
   clear hb4 hC hbP lP fP vP CS;have hgc:Hid (Nat.gcd A'.toNat B'.toNat=Nat.gcd (vf h m).toNat (vf f n).toNat):=cd_gcd HCd.out (by omega) B0 (vf_nonneg HLb.out) (vf_nonneg HLa.out);rcases h2 with ⟨rfl,rfl,rfl,rfl⟩ | ⟨g2,hne,Q,rfl,u1,u2,u3,u4,hbQ,lQ,fQ,vQ⟩
   ·have hA0:0≤A':=by omega
    clear B0 BA;go_wp2_with fail
    refine (clone_c (some ⟨g1,0,none⟩) l1 d1 P _ (by omega) HP.out LP.out).mono ?_;rintro e w9 ⟨xr,kr,cr,rfl,hres,hkr,hv⟩;have HRS:=hid hres;have HVr:=hid hv
    clear hres hv;go_wp2;go_ret;refine ⟨xr,kr,cr,P,rfl,(HRS.out.ahead BE4.out).mono (by omega),?_⟩;rw [HVr.out,VP.out];rw [Nat.gcd_comm];rw [←hgc.out];simp [Int.toNat_of_nonneg hA0]
   ·obtain rfl:l2=1:=by omega
    obtain ⟨x,hx⟩:∃x,Q 0=x:=⟨_,rfl⟩;have hcell:w4.cell? ⟨g2,0,none⟩=some (.int .u64 x):=by rw [←hx];exact hbQ.cell (j:=0) (by omega)
    have hx01:=lQ 0 (by omega);have hx2:x≠0:=by rw [←hx];rcases fQ with h | h;omega;exact h
    rw [hx] at hx01;obtain ⟨xn,rfl⟩:=Int.eq_ofNat_of_zero_le hx01.1;have hvB:B'=(xn:Int):=by rw [←vQ];simp [vf,pw,hx]
    subst hvB;clear hx hbQ lQ fQ vQ B0 BA;have hA0:=vf_nonneg LP.out;obtain ⟨R,hR⟩:∃R:Nat,(vf P l1%(xn:Int))=R:=⟨(vf P l1%(xn:Int)).toNat,by have:=Int.emod_nonneg (vf P l1) (show (xn:Int)≠0 by omega);omega⟩;have hR1:(R:Int)<xn:=by rw [←hR];exact Int.emod_lt_of_pos _ (by omega)
    have cm:=fun W hr'=>modWord_c (some ⟨g1,0,none⟩) l1 d1 P xn W (by omega) hr' LP.out (by omega) (by omega)
    rw [hR] at cm;have cg:=fun W=>gcdWord_c xn R W (by omega) (by omega)
    have hgl:Nat.gcd xn R<18446744073709551616:=Nat.lt_of_le_of_lt (Nat.gcd_le_left _ (by omega)) (by omega);have hfin:Nat.gcd xn R=Nat.gcd (vf P l1).toNat xn:=by
     have e:R=(vf P l1).toNat%xn:=by
      have:((vf P l1).toNat:Int)=vf P l1:=Int.toNat_of_nonneg hA0;have h2:(((vf P l1).toNat%xn:Nat):Int)=vf P l1%(xn:Int):=by rw [Int.natCast_emod,this]
      omega
     rw [e,Nat.gcd_comm (vf P l1).toNat xn,Nat.gcd_rec xn (vf P l1).toNat,Nat.gcd_comm]
    generalize Nat.gcd xn R=G at *;have CM:=hid cm;have CG:=hid cg;have HFin:=hid hfin;have HRd:=hid HP.out
    clear cm cg hfin hR hA0;go_wp2;go_region_with (first | (go_at_call 168;refine (CM.out _ (by exact HRd.out)).mono ?_;rintro e w' ⟨rfl,q1,rfl⟩) | (go_at_call 167;refine (CG.out _).mono ?_;rintro e w' ⟨rfl,q2,rfl⟩) | (go_at_call 166;refine (fromWord_c G _ (by omega) (by omega)).mono ?_;rintro e w' ⟨xr,kr,cr,fr,rfl,hres,hv'⟩))
    all_goals
     go_wp2;go_ret;refine ⟨xr,kr,cr,fr,rfl,(hres.ahead (by repeat (first | exact BE4.out | exact Below.refl _ _ | refine below_drewN ?_ _ | refine Below.drew ?_))).mono (by omega),?_⟩;rw [hv',HFin.out,VP.out];rw [Nat.gcd_comm (vf f n).toNat,←hgc.out,Int.toNat_natCast]
 ·skip
  have HLt:=hid hlt;clear hlt;rcases (show m=0∨m=1∨2≤m by omega) with hb0 | hb1 | hb2
  ·have hBz:vf h m=0:=by rw [hb0];rfl
   have HBz:=hid hBz;subst hb0;clear hBz;go_enter Tryz.func155,Tryz.ntmps155;go_wp2_with fail
   refine CC.out.mono ?_;rintro e w1 ⟨⟨q,rfl⟩,c,rfl,ho⟩;have hc:0≤c:=by have:=HLt.out;unfold Ord at ho;omega
   clear ho;go_wp2_with fail
   refine (clone_c ao n ca f _ (by omega) (show Rd .u64 (w.drewN q) ao n f from HRa.out) HLa.out).mono ?_;rintro e w9 ⟨xr,kr,cr,rfl,hres,hkr,hv⟩;have HRS:=hid hres;have HVr:=hid hv
   clear hres hv;go_wp2;go_ret;refine ⟨xr,kr,cr,f,rfl,(HRS.out.ahead (below_drewN (Below.refl w.heap.size w) q)).mono (by omega),?_⟩;rw [HVr.out,show vf f n=vf f n from rfl];rw [show vf h 0=0 from rfl];simp [Int.toNat_of_nonneg (vf_nonneg HLa.out)]
  ·subst hb1;obtain ⟨bb,ob,rfl⟩:=HRb.out.at (by omega);obtain ⟨x,hx⟩:∃x,h 0=x:=⟨_,rfl⟩;have hcell:w.cell? ⟨bb,ob,none⟩=some (.int .u64 x):=by rw [←hx];exact HRb.out.cell (j:=0) (by omega)
   have hx01:=HLb.out 0 (by omega);have hx2:x≠0:=by rw [←hx];rcases HFb.out with h | h;omega;exact h
   rw [hx] at hx01;obtain ⟨xn,rfl⟩:=Int.eq_ofNat_of_zero_le hx01.1;have HVB:=hid (show vf h 1=(xn:Int) by simp [vf,pw,hx]);clear hx;go_enter Tryz.func155,Tryz.ntmps155;go_wp2_with fail
   refine CC.out.mono ?_;rintro e w1 ⟨⟨q,rfl⟩,c,rfl,ho⟩;have hc:0≤c:=by have:=HLt.out;unfold Ord at ho;omega
   clear ho;have hA0:=vf_nonneg HLa.out;obtain ⟨R,hR⟩:∃R:Nat,(vf f n%(xn:Int))=R:=⟨(vf f n%(xn:Int)).toNat,by have:=Int.emod_nonneg (vf f n) (show (xn:Int)≠0 by omega);omega⟩;have hR1:(R:Int)<xn:=by rw [←hR];exact Int.emod_lt_of_pos _ (by omega)
   have cm:=fun W hr'=>modWord_c ao n ca f xn W (by omega) hr' HLa.out (by omega) (by omega)
   rw [hR] at cm;have cg:=fun W=>gcdWord_c xn R W (by omega) (by omega)
   have hgl:Nat.gcd xn R<18446744073709551616:=Nat.lt_of_le_of_lt (Nat.gcd_le_left _ (by omega)) (by omega);have hfin:Nat.gcd xn R=Nat.gcd (vf f n).toNat xn:=by
    have e:R=(vf f n).toNat%xn:=by
     have:((vf f n).toNat:Int)=vf f n:=Int.toNat_of_nonneg hA0;have h2:(((vf f n).toNat%xn:Nat):Int)=vf f n%(xn:Int):=by rw [Int.natCast_emod,this]
     omega
    rw [e,Nat.gcd_comm (vf f n).toNat xn,Nat.gcd_rec xn (vf f n).toNat,Nat.gcd_comm]
   generalize Nat.gcd xn R=G at *;have CM:=hid cm;have CG:=hid cg;have HFin:=hid hfin;have HRd:=hid (show Rd .u64 (w.drewN q) ao n f from HRa.out)
   clear cm cg hfin hR hA0;go_wp2;go_region_with (first | (go_at_call 168;refine (CM.out _ (by exact HRd.out)).mono ?_;rintro e w' ⟨rfl,q1,rfl⟩) | (go_at_call 167;refine (CG.out _).mono ?_;rintro e w' ⟨rfl,q2,rfl⟩) | (go_at_call 166;refine (fromWord_c G _ (by omega) (by omega)).mono ?_;rintro e w' ⟨xr,kr,cr,fr,rfl,hres,hv'⟩))
   all_goals
    go_wp2;go_ret;refine ⟨xr,kr,cr,fr,rfl,(hres.ahead (by repeat (first | exact (below_drewN (Below.refl w.heap.size w) q) | exact Below.refl _ _ | refine below_drewN ?_ _ | refine Below.drew ?_))).mono (by omega),?_⟩;rw [hv',HFin.out,HVB.out];rw [Int.toNat_natCast]
  ·have CA:=hid (fun W (hW:Rd .u64 W ao n f)=>clone_c ao n ca f W (by omega) hW HLa.out);have CB:=hid (fun W (hW:Rd .u64 W bo m h)=>clone_c bo m cb h W (by omega) hW HLb.out);have d1:decide ((1:Int)<(m:Int))=true:=by simp;omega
   go_enter Tryz.func155,Tryz.ntmps155;go_wp2_with fail
   refine CC.out.mono ?_;rintro e w1 ⟨⟨q,rfl⟩,c,rfl,ho⟩;have hc:0≤c:=by have:=HLt.out;unfold Ord at ho;omega
   clear ho;go_wp2_with fail
   refine (CA.out _ (by exact HRa.out)).mono ?_;rintro e w2 ⟨xa',ka,ca',rfl,hresa,hka,hva⟩;have hRb2:=HRb.out.below (show Below w.heap.size w w2 from ⟨hresa.bel.os,hresa.bel.tape,hresa.bel.output,hresa.bel.size,hresa.bel.block⟩) (Nat.le_refl _);have RESA:=hid hresa;have HVa:=hid hva;have HRb2:=hid hRb2
   clear hresa hva hRb2 CA;go_wp2_with fail
   refine (CB.out _ HRb2.out).mono ?_;rintro e w3 ⟨xb',kb,cb',rfl,hresb,hkb,hvb⟩;have hTwo:Two w.heap.size w3 xa' ka ca' xb' kb cb' (vf f n) (vf h m):=by
    have hz:w.heap.size≤w2.heap.size:=RESA.out.bel.size;have hBp:0<vf h m:=by have:=vf_form_ge HLb.out HFb.out (by omega);have:=pw_pos (m-1);omega
    have hle:vf h m≤vf f n:=by have:=HLt.out;omega
    rcases RESA.out.own with ⟨_,h0,_⟩ | ⟨ga,e1,e2,e3,e4,e5,e6⟩
    ·have:=HVa.out;rw [h0] at this;simp [vf] at this;omega
    ·rcases hresb.own with ⟨_,h0,_⟩ | ⟨gb,f1,f2,f3,f4,f5,f6⟩
     ·rw [h0] at hvb;simp [vf] at hvb;omega
     ·refine ⟨ga,⟨f,e1,e3,e4,by omega,by simpa using e2,e6.below hresb.bel e6.lt,RESA.out.lmc,RESA.out.fm,HVa.out⟩,by omega,hle,.inr ⟨gb,?_,h,f1,f3,f4,by omega,by omega,f6,hresb.lmc,hresb.fm,hvb⟩⟩;have:=e6.lt;omega
   have hb3:Below w.heap.size w w3:=(show Below w.heap.size w w2 from ⟨RESA.out.bel.os,RESA.out.bel.tape,RESA.out.bel.output,RESA.out.bel.size,RESA.out.bel.block⟩).trans (hresb.bel.mono RESA.out.bel.size);have CS:=hid (shorten_c w.heap.size xa' xb' ka ca' kb cb' n (vf f n) (vf h m) w3 hTwo (vf_lt HLa.out) (by omega) hb3.size);have BE3:=hid hb3;clear hTwo hb3 hresb hvb RESA HVa HRb2 CB d1;go_wp2_with fail
   refine CS.out.mono ?_;rintro e w4 ⟨y1,l1,d1,y2,l2,d2,A',B',rfl,hb4,hT,hC,hl2,hA'⟩;obtain ⟨g1,⟨P,rfl,o1,o2,o3,o4,hbP,lP,fP,vP⟩,B0,BA,h2⟩:=hT;have BE4:=hid (BE3.out.trans hb4);have HCd:=hid hC;have hl1:l1≤n:=by
    have:=vf_lt HLa.out;exact mid_len (lP.mono o2) fP (by rw [vP];omega)
   have HP:=hid (hbP.rd0 o2);have LP:=hid (lP.mono o2);have VP:=hid vP
   clear hb4 hC hbP lP fP vP CS;have hgc:Hid (Nat.gcd A'.toNat B'.toNat=Nat.gcd (vf f n).toNat (vf h m).toNat):=cd_gcd HCd.out (by omega) B0 (vf_nonneg HLa.out) (vf_nonneg HLb.out);rcases h2 with ⟨rfl,rfl,rfl,rfl⟩ | ⟨g2,hne,Q,rfl,u1,u2,u3,u4,hbQ,lQ,fQ,vQ⟩
   ·have hA0:0≤A':=by omega
    clear B0 BA;go_wp2_with fail
    refine (clone_c (some ⟨g1,0,none⟩) l1 d1 P _ (by omega) HP.out LP.out).mono ?_;rintro e w9 ⟨xr,kr,cr,rfl,hres,hkr,hv⟩;have HRS:=hid hres;have HVr:=hid hv
    clear hres hv;go_wp2;go_ret;refine ⟨xr,kr,cr,P,rfl,(HRS.out.ahead BE4.out).mono (by omega),?_⟩;rw [HVr.out,VP.out];rw [←hgc.out];simp [Int.toNat_of_nonneg hA0]
   ·obtain rfl:l2=1:=by omega
    obtain ⟨x,hx⟩:∃x,Q 0=x:=⟨_,rfl⟩;have hcell:w4.cell? ⟨g2,0,none⟩=some (.int .u64 x):=by rw [←hx];exact hbQ.cell (j:=0) (by omega)
    have hx01:=lQ 0 (by omega);have hx2:x≠0:=by rw [←hx];rcases fQ with h | h;omega;exact h
    rw [hx] at hx01;obtain ⟨xn,rfl⟩:=Int.eq_ofNat_of_zero_le hx01.1;have hvB:B'=(xn:Int):=by rw [←vQ];simp [vf,pw,hx]
    subst hvB;clear hx hbQ lQ fQ vQ B0 BA;have hA0:=vf_nonneg LP.out;obtain ⟨R,hR⟩:∃R:Nat,(vf P l1%(xn:Int))=R:=⟨(vf P l1%(xn:Int)).toNat,by have:=Int.emod_nonneg (vf P l1) (show (xn:Int)≠0 by omega);omega⟩;have hR1:(R:Int)<xn:=by rw [←hR];exact Int.emod_lt_of_pos _ (by omega)
    have cm:=fun W hr'=>modWord_c (some ⟨g1,0,none⟩) l1 d1 P xn W (by omega) hr' LP.out (by omega) (by omega)
    rw [hR] at cm;have cg:=fun W=>gcdWord_c xn R W (by omega) (by omega)
    have hgl:Nat.gcd xn R<18446744073709551616:=Nat.lt_of_le_of_lt (Nat.gcd_le_left _ (by omega)) (by omega);have hfin:Nat.gcd xn R=Nat.gcd (vf P l1).toNat xn:=by
     have e:R=(vf P l1).toNat%xn:=by
      have:((vf P l1).toNat:Int)=vf P l1:=Int.toNat_of_nonneg hA0;have h2:(((vf P l1).toNat%xn:Nat):Int)=vf P l1%(xn:Int):=by rw [Int.natCast_emod,this]
      omega
     rw [e,Nat.gcd_comm (vf P l1).toNat xn,Nat.gcd_rec xn (vf P l1).toNat,Nat.gcd_comm]
    generalize Nat.gcd xn R=G at *;have CM:=hid cm;have CG:=hid cg;have HFin:=hid hfin;have HRd:=hid HP.out
    clear cm cg hfin hR hA0;go_wp2;go_region_with (first | (go_at_call 168;refine (CM.out _ (by exact HRd.out)).mono ?_;rintro e w' ⟨rfl,q1,rfl⟩) | (go_at_call 167;refine (CG.out _).mono ?_;rintro e w' ⟨rfl,q2,rfl⟩) | (go_at_call 166;refine (fromWord_c G _ (by omega) (by omega)).mono ?_;rintro e w' ⟨xr,kr,cr,fr,rfl,hres,hv'⟩))
    all_goals
     go_wp2;go_ret;refine ⟨xr,kr,cr,fr,rfl,(hres.ahead (by repeat (first | exact BE4.out | exact Below.refl _ _ | refine below_drewN ?_ _ | refine Below.drew ?_))).mono (by omega),?_⟩;rw [hv',HFin.out,VP.out];rw [←hgc.out,Int.toNat_natCast]
set_option maxHeartbeats 800000 in
theorem Gcd_c (ao bo:Option Addr) (n m ca cb:Nat) (f h:Nat→Int) (w:World) (hn:n≤8796093022207) (hm:m≤8796093022207) (hr:Rd .u64 w ao n f) (hs:Rd .u64 w bo m h) (hf:Lm f n) (hh:Lm h m) :
  Calls Tryz.prog 137 #[.slice ao n ca,.slice bo m cb] w fun e w'=>∃ao' k cap' f' er,e=.returned (.tuple #[.slice ao' k cap',.int .i64 er])∧Res (max n m+1) w w' ao' k cap' f' ∧
   (Fm f n∧Fm h m∧er=0∧vf f' k=(Nat.gcd (vf f n).toNat (vf h m).toNat:Nat)∨¬(Fm f n∧Fm h m)∧er=3∧k=0):=by
 have HF:=(show Hid (Lm f n) from hf);have HH:=(show Hid (Lm h m) from hh);clear hf hh;cases hfa:fmB f n
 ·have c1:=fun w' hr'=>form_c ao n ca f w' (by omega) hr'
  rw [hfa] at c1;have HN:=hid (nfm_of hfa);have C1:=hid c1;clear c1 hfa;go_enter Tryz.func137,Tryz.ntmps137;go_wp2_with (go_at_call 103;refine (C1.out _ hr).mono ?_;rintro e w' ⟨rfl,rfl⟩)
  go_ret2
  exact ⟨_,_,_,f,_,rfl,Res.nil f (Below.refl _ _),.inr ⟨fun x=>HN.out x.1,rfl,rfl⟩⟩
 ·have c1:=fun w' hr'=>form_c ao n ca f w' (by omega) hr'
  rw [hfa] at c1;have FA:=hid (fm_of hfa);have C1:=hid c1;clear c1 hfa;cases hfb:fmB h m
  ·have c2:=fun w' hr'=>form_c bo m cb h w' (by omega) hr'
   rw [hfb] at c2;have HN:=hid (nfm_of hfb);have C2:=hid c2;clear c2 hfb;go_enter Tryz.func137,Tryz.ntmps137;go_wp2_with fail
   refine (C1.out _ hr).mono ?_;rintro e w' ⟨rfl,rfl⟩;go_wp2_with fail
   refine (C2.out _ hs).mono ?_;rintro e w' ⟨rfl,rfl⟩;go_wp2
   go_ret2
   exact ⟨_,_,_,f,_,rfl,Res.nil f (Below.refl _ _),.inr ⟨fun x=>HN.out x.2,rfl,rfl⟩⟩
  ·have c2:=fun w' hr'=>form_c bo m cb h w' (by omega) hr'
   rw [hfb] at c2;have FB:=hid (fm_of hfb);have C2:=hid c2;clear c2 hfb;go_enter Tryz.func137,Tryz.ntmps137;go_wp2_with fail
   refine (C1.out _ hr).mono ?_;rintro e w' ⟨rfl,rfl⟩;go_wp2_with fail
   refine (C2.out _ hs).mono ?_;rintro e w' ⟨rfl,rfl⟩;go_wp2_with fail
   refine (gcd_c ao bo n m ca cb f h _ hn hm hr hs HF.out HH.out FA.out FB.out).mono ?_;rintro e w' ⟨ao',k,cap',f',rfl,hres,hv⟩;have HV:=hid hv;clear hv;go_wp2
   go_ret2
   exact ⟨_,_,_,f',_,rfl,hres,.inl ⟨FA.out,FB.out,rfl,HV.out⟩⟩
theorem Wn.fm {w s x n c f v} (h:Wn w s x n c f v):Fm f n:=fm_of_wfB h.wf
theorem Wn.nv {w x n c f v} (h:Wn w false x n c f v):vf f n=v:=h.val
theorem Wn.pos {w x n c f v} (h:Wn w false x n c f v) (hv:0<v):0<n:=by
 rcases Nat.eq_zero_or_pos n with h0 | h0
 ·subst h0;have:(0:Int)=v:=h.nv;omega
 ·exact h0
theorem one_iff {f:Nat→Int} {n:Nat} {A:Int} (hl:Lm f n) (hf:Fm f n) (hv:vf f n=A):A=1 ↔ n=1∧f 0=1:=by
 have v1:vf f 1=f 0:=by simp [vf,pw]
 constructor
 ·intro h;have h0:n≠0:=fun h0=>by subst h0;simp [vf] at hv;omega
  have h1:=vf_form_ge hl hf (by omega);have hn:n=1:=by
   rcases Nat.lt_or_ge 1 n with h2 | h2
   ·have h3:=pw_mono (show 1≤n-1 by omega);have:pw 1=18446744073709551616:=by simp [pw]
    omega
   ·omega
  subst hn;exact ⟨rfl,by rw [←v1,hv,h]⟩
 ·rintro ⟨rfl,h⟩;rw [←hv,v1,h]
theorem isOne_c {w:World} {x n c f} {A:Int} (ha:Wn w false x n c f A) :
  Calls Tryz.prog 104 #[.slice x n c] w fun e w'=>e=.returned (.bool (decide (A=1)))∧w'=w:=by
 have hi:=one_iff ha.lm ha.fm ha.nv;have hr:=ha.rd;have hn:n≤9223372036854775807:=by have:=ha.cap;omega
 by_cases h1:n=1
 ·subst h1;obtain ⟨b,o,rfl⟩:=hr.at (by omega);obtain ⟨y,hy⟩:∃y,f 0=y:=⟨_,rfl⟩;have hc:w.cell? ⟨b,o,none⟩=some (.int .u64 y):=by rw [←hy];exact hr.cell (j:=0) (by omega)
  have e:decide (A=1)=(y==1):=by
   rw [hy] at hi;by_cases h:y=1 <;> simp_all
  have E:=hid e;clear hr hy e hi ha;go_enter Tryz.func104,Tryz.ntmps104;go_wp2;go_ret;exact ⟨by rw [E.out];rfl,rfl⟩
 ·have h1':((n:Int)==1)=false:=by simp;omega
  have e:decide (A=1)=false:=by simp;intro h;exact h1 (hi.1 h).1
  have E:=hid e;clear hr e hi ha;go_enter Tryz.func104,Tryz.ntmps104;go_wp2;go_ret;exact ⟨by rw [E.out];rfl,rfl⟩
theorem ratOne_c (w:World) :
  Calls Tryz.prog 109 #[] w fun e w'=>∃x f,e=.returned (.slice x 1 1)∧Below w.heap.size w w'∧Wn w' false x 1 1 f 1:=by
 go_enter Tryz.func109,Tryz.ntmps109;go_wp2;go_ret;refine ⟨_,fun _=>1,rfl,?_,?_⟩
 ·exact below_alloc (Below.refl _ _) _
 ·refine ⟨Rd.mk (fun j hj=>?_),fun j _=>by simp,?_,by omega,(fun h=>by cases h),?_⟩
  ·have:j=0:=by omega
   subst this;simp [go_sem]
  ·decide
  ·simp [wv,vf,pw]
theorem gcd_n {w:World} {x n c f y m d g} {A B:Nat} (ha:Wn w false x n c f A) (hb:Wn w false y m d g B) (hn:n≤1048576) (hm:m≤1048576) :
  Calls Tryz.prog 137 #[.slice x n c,.slice y m d] w fun e w'=>∃z k e' h,e=.returned (.tuple #[.slice z k e',.int .i64 0])∧Below w.heap.size w w'∧Wn w' false z k e' h (A.gcd B:Nat):=by
 refine (Gcd_c x y n m c d f g w (by omega) (by omega) ha.rd hb.rd ha.lm hb.lm).mono ?_;rintro e w' ⟨z,k,e',h,er,rfl,hres,hv⟩;have hr:=hres.ans (by omega);rcases hv with ⟨_,_,rfl,hv⟩ | ⟨h1,_⟩
 ·refine ⟨z,k,e',h,rfl,hr.bel,hr.rd,hr.lm,(wfB_iff _ _ _).2 ⟨hr.fm,fun h=>by cases h⟩,hr.ncap,hr.nil',?_⟩;show vf h k=_;rw [hv,ha.nv,hb.nv];simp
 ·exact absurd ⟨ha.fm,hb.fm⟩ h1
theorem div_n {w:World} {x n c f y m d g} {A B:Nat} (ha:Wn w false x n c f A) (hb:Wn w false y m d g B) (h0:0<B) (hn:n≤1048576) (hm:m≤1048576) :
  Calls Tryz.prog 157 #[.slice x n c,.slice y m d] w fun e w'=>∃z k e' h z2 k2 e2,e=.returned (.tuple #[.slice z k e',.slice z2 k2 e2,.int .i64 0])∧Below w.heap.size w w'∧k≤n∧Wn w' false z k e' h (A/B:Nat):=by
 refine (DivMod_c x y n m c d f g w (by omega) (by omega) ha.rd hb.rd ha.lm hb.lm).mono ?_;rintro e w' ⟨z,k,e',h,z2,k2,e2,r,er,rfl,hres,_,hv⟩;have hr:=hres.ans (by omega);have hmp:=hb.pos (by omega);rcases hv with ⟨_,_,_,rfl,hv,h1,h2⟩ | ⟨_,_,h1,_⟩ | ⟨h1,_⟩
 ·refine ⟨z,k,e',h,z2,k2,e2,rfl,hr.bel,hr.le,hr.rd,hr.lm,(wfB_iff _ _ _).2 ⟨hr.fm,fun h=>by cases h⟩,hr.ncap,hr.nil',?_⟩;show vf h k=_;rw [ha.nv,hb.nv] at hv;rw [hb.nv] at h2;have hq:=vf_nonneg hr.lm;obtain ⟨Q,hQ⟩:=Int.eq_ofNat_of_zero_le hq;obtain ⟨R,hR⟩:=Int.eq_ofNat_of_zero_le h1;rw [hQ,hR] at hv;rw [hR] at h2;rw [hQ];have h3:A=Q*B+R:=by exact_mod_cast hv
  have h4:R<B:=by exact_mod_cast h2
  have:A/B=Q:=by rw [h3,Nat.mul_comm,Nat.mul_add_div h0,Nat.div_eq_of_lt h4];rfl
  rw [this]
 ·omega
 ·exact absurd ⟨ha.fm,hb.fm⟩ h1
theorem natMul_n {w:World} {x n c f y m d g} {A B:Nat} (ha:Wn w false x n c f A) (hb:Wn w false y m d g B) (hn:n≤1048576) (hm:m≤1048576) :
  Calls Tryz.prog 138 #[.slice x n c,.slice y m d] w fun e w'=>∃z k e' h,e=.returned (.tuple #[.slice z k e',.int .i64 0])∧Below w.heap.size w w'∧k≤n+m∧Wn w' false z k e' h (A*B:Nat):=by
 refine (Mul_c x y n m c d f g w (by omega) (by omega) ha.cap.1 hb.cap.1 ha.cap.2 hb.cap.2 ha.rd hb.rd ha.lm hb.lm).mono ?_;rintro e w' ⟨z,k,e',h,er,rfl,hres,hv⟩;have hr:=hres.ans (by omega);rcases hv with ⟨_,_,rfl,hv⟩ | ⟨h1,_⟩
 ·refine ⟨z,k,e',h,rfl,hr.bel,hr.le,hr.rd,hr.lm,(wfB_iff _ _ _).2 ⟨hr.fm,fun h=>by cases h⟩,hr.ncap,hr.nil',?_⟩;show vf h k=_;rw [hv,ha.nv,hb.nv];simp
 ·exact absurd ⟨ha.fm,hb.fm⟩ h1
theorem Wn.len_le {w w' x n c f y m d g} {A B:Nat} (ha:Wn w false x n c f A) (hb:Wn w' false y m d g B) (h:A≤B):n≤m :=
 vf_len ha.lm hb.lm ha.fm (by rw [ha.nv,hb.nv];exact_mod_cast h)
set_option maxHeartbeats 800000 in
theorem ratGcd_c {w:World} {x n c f y m d g} {A B:Nat} (ha:Wn w false x n c f A) (hb:Wn w false y m d g B) (hn:n≤1048576) (hm:m≤1048576) :
  Calls Tryz.prog 105 #[.slice x n c,.slice y m d] w fun e w'=>∃z k e' h,e=.returned (.slice z k e')∧Below w.heap.size w w'∧Wn w' false z k e' h (A.gcd B:Nat):=by
 have C1:=hid (isOne_c ha);have C2:=hid (isOne_c hb);have C3:=hid (gcd_n ha hb hn hm)
 by_cases h1:A=1
 ·have e1:decide ((A:Int)=1)=true:=by simp [h1]
  have e2:A.gcd B=1:=by rw [h1];simp
  rw [e2];rw [e1] at C1;clear ha hb e1 e2 h1 C2 C3;go_enter Tryz.func105,Tryz.ntmps105;go_wp2_with fail
  refine C1.out.mono ?_;rintro e w1 ⟨rfl,rfl⟩;go_wp2_with fail
  refine (ratOne_c _).mono ?_;rintro e w2 ⟨z,h,rfl,h1,h2⟩;go_wp2;go_ret;exact ⟨z,1,1,h,rfl,h1,h2⟩
 ·have e1:decide ((A:Int)=1)=false:=by simp;omega
  rw [e1] at C1;by_cases h2:B=1
  ·have e1:decide ((B:Int)=1)=true:=by simp [h2]
   have e2:A.gcd B=1:=by rw [h2];simp
   rw [e2];rw [e1] at C2;clear ha hb e1 e2 h1 C3;go_enter Tryz.func105,Tryz.ntmps105;go_wp2_with fail
   refine C1.out.mono ?_;rintro e w1 ⟨rfl,rfl⟩;go_wp2_with fail
   refine C2.out.mono ?_;rintro e w1 ⟨rfl,rfl⟩;go_wp2_with fail
   refine (ratOne_c _).mono ?_;rintro e w2 ⟨z,h,rfl,h1,h2⟩;go_wp2;go_ret;exact ⟨z,1,1,h,rfl,h1,h2⟩
  ·have e1:decide ((B:Int)=1)=false:=by simp;omega
   rw [e1] at C2;clear ha hb e1 h1;go_enter Tryz.func105,Tryz.ntmps105;go_wp2_with fail
   refine C1.out.mono ?_;rintro e w1 ⟨rfl,rfl⟩;go_wp2_with fail
   refine C2.out.mono ?_;rintro e w1 ⟨rfl,rfl⟩;go_wp2_with fail
   refine C3.out.mono ?_;rintro e w2 ⟨z,k,e',h,rfl,h1,h2⟩;have H2:=hid h2;clear h2;go_wp2;go_ret;exact ⟨z,k,e',h,rfl,h1,H2.out⟩
set_option maxHeartbeats 800000 in
theorem over_c {w:World} {x n c f y m d g} {A B:Nat} (ha:Wn w false x n c f A) (hb:Wn w false y m d g B) (h0:0<B) (hn:n≤1048576) (hm:m≤1048576) :
  Calls Tryz.prog 139 #[.slice x n c,.slice y m d] w fun e w'=>∃z k e' h,e=.returned (.slice z k e')∧Below w.heap.size w w'∧Hid (k≤n∧Wn w' false z k e' h (A/B:Nat)):=by
 have C2:=hid (isOne_c hb);have C3:=hid (div_n ha hb h0 hn hm);have HA:=hid ha
 by_cases h2:B=1
 ·have e1:decide ((B:Int)=1)=true:=by simp [h2]
  have e2:A/B=A:=by rw [h2];simp
  rw [e2];rw [e1] at C2;clear ha hb e1 e2 C3 h0 h2;go_enter Tryz.func139,Tryz.ntmps139;go_wp2_with fail
  refine C2.out.mono ?_;rintro e w1 ⟨rfl,rfl⟩;go_wp2;go_ret;exact ⟨x,n,c,f,rfl,Below.refl _ _,Nat.le_refl _,HA.out⟩
 ·have e1:decide ((B:Int)=1)=false:=by simp;omega
  rw [e1] at C2;clear ha hb e1 h0 h2;go_enter Tryz.func139,Tryz.ntmps139;go_wp2_with fail
  refine C2.out.mono ?_;rintro e w1 ⟨rfl,rfl⟩;go_wp2_with fail
  refine C3.out.mono ?_;rintro e w2 ⟨z,k,e',h,z2,k2,e2,rfl,h1,h2,h3⟩;have H2:=hid (And.intro h2 h3);clear h2 h3;go_wp2;go_ret;exact ⟨z,k,e',h,rfl,h1,H2.out⟩
theorem numer_c (s:Bool) (x y:Option Addr) (n c m d:Nat) (w:World) :
  Calls Tryz.prog 102 #[.agg #[.bool s,.slice x n c,.slice y m d]] w fun e w'=>e=.returned (.agg #[.bool s,.slice x n c])∧Below w.heap.size w w':=by
 go_enter Tryz.func102,Tryz.ntmps102;go_wp2;refine bodyPost_ret (v:=.agg #[.bool s,.slice x n c]) (by simp [results,Tryz.results102,go_sem]) rfl ⟨rfl,?_⟩;exact below_alloc (below_alloc (Below.refl w.heap.size w) _) _
theorem denom_c (s:Bool) (x y:Option Addr) (n c m d:Nat) (w:World) :
  Calls Tryz.prog 176 #[.agg #[.bool s,.slice x n c,.slice y m d]] w fun e w'=>e=.returned (.agg #[.bool false,.slice y m d])∧Below w.heap.size w w':=by
 go_enter Tryz.func176,Tryz.ntmps176;go_wp2;refine bodyPost_ret (v:=.agg #[.bool false,.slice y m d]) (by simp [results,Tryz.results176,go_sem]) rfl ⟨rfl,?_⟩;exact below_alloc (below_alloc (Below.refl w.heap.size w) _) _
theorem rsigned_c (s:Bool) (x y:Option Addr) (n c m d:Nat) (w:World) (hm:n≤9223372036854775807) :
  Calls Tryz.prog 65 #[.bool s,.slice x n c,.slice y m d] w fun e w'=>∃r,e=.returned (.agg #[.bool r,.slice x n c,.slice y m d])∧Hid (r=(s && decide (0<n)))∧Below w.heap.size w w':=by
 have key:∀u,Below w.heap.size w (w.alloc u):=fun u=>below_alloc (Below.refl w.heap.size w) u
 cases s
 ·go_enter Tryz.func65,Tryz.ntmps65;go_wp2;exact bodyPost_ret (v:=.agg #[.bool false,.slice x n c,.slice y m d]) (by simp [results,Tryz.results65,go_sem]) rfl ⟨false,rfl,rfl,key _⟩
 ·by_cases hn0:0<n
  ·have hni:decide ((0:Int)<(n:Int))=true:=by simp;omega
   have hdn:decide (0<n)=true:=by simp;omega
   rw [hdn];clear hdn;go_enter Tryz.func65,Tryz.ntmps65;go_wp2;exact bodyPost_ret (v:=.agg #[.bool true,.slice x n c,.slice y m d]) (by simp [results,Tryz.results65,go_sem]) rfl ⟨true,rfl,rfl,key _⟩
  ·have hni:decide ((0:Int)<(n:Int))=false:=by simp;omega
   have hdn:decide (0<n)=false:=by simp;omega
   rw [hdn];clear hdn;go_enter Tryz.func65,Tryz.ntmps65;go_wp2;exact bodyPost_ret (v:=.agg #[.bool false,.slice x n c,.slice y m d]) (by simp [results,Tryz.results65,go_sem]) rfl ⟨false,rfl,rfl,key _⟩
structure Rn (L:Nat) (w:World) (s:Bool) (x:Option Addr) (n c:Nat) (f:Nat→Int) (y:Option Addr) (m d:Nat) (g:Nat→Int) (q:Rat):Prop where
 num:Wn w s x n c f q.num
 den:Wn w false y m d g (q.den:Int)
 ln:n≤L
 ld:m≤L
theorem Rn.below {L w w' s x n c f y m d g q} (h:Rn L w s x n c f y m d g q) (hb:Below w.heap.size w w'):Rn L w' s x n c f y m d g q:=⟨h.num.below hb,h.den.below hb,h.ln,h.ld⟩
theorem Rn.alloc {L w s x n c f y m d g q} (h:Rn L w s x n c f y m d g q) (o:Obj):Rn L (w.alloc o) s x n c f y m d g q:=⟨h.num.alloc o,h.den.alloc o,h.ln,h.ld⟩
theorem Rn.next {L w w' s x n c f y m d g q} {o:Obj} (h:Rn L w s x n c f y m d g q) (hb:Below (w.alloc o).heap.size (w.alloc o) w'):Rn L w' s x n c f y m d g q:=(h.alloc o).below hb
theorem Rn.mono {L L' w s x n c f y m d g q} (h:Rn L w s x n c f y m d g q) (hL:L≤L'):Rn L' w s x n c f y m d g q:=⟨h.num,h.den,Nat.le_trans h.ln hL,Nat.le_trans h.ld hL⟩
theorem Wn.mag {w s x n c f v} (h:Wn w s x n c f v):Wn w false x n c f (v.natAbs:Nat):=by
 refine ⟨h.rd,h.lm,(wfB_iff _ _ _).2 ⟨h.fm,fun h=>by cases h⟩,h.cap,h.nil,?_⟩;have h0:=vf_nonneg h.lm;have hv:=h.val;show vf f n=_;cases s
 ·rw [wv_false] at hv;omega
 ·rw [wv_true] at hv;omega
theorem Wn.sgn {w s x n c f v} (h:Wn w s x n c f v):v=sg s v.natAbs:=by
 have h0:=vf_nonneg h.lm;have hv:=h.val;cases s
 ·rw [wv_false] at hv;show v=(v.natAbs:Int);omega
 ·rw [wv_true] at hv;show v=-(v.natAbs:Int);omega
theorem Wn.resign {w x n c f} {A:Nat} {r s:Bool} (h:Wn w false x n c f (A:Int)) (hr:r=(s && decide (0<n))):Wn w r x n c f (sg s A):=by
 refine ⟨h.rd,h.lm,(wfB_iff _ _ _).2 ⟨h.fm,fun h=>by rw [hr] at h;simp at h;exact h.2⟩,h.cap,h.nil,?_⟩;have hv:=h.nv;rcases Nat.eq_zero_or_pos n with h0 | h0
 ·subst h0;have hA:(0:Int)=A:=hv;have:A=0:=by omega
  subst this;subst hr
  cases s <;> rfl
 ·have:r=s:=by rw [hr];simp [h0]
  subst this;cases r
  ·exact hv
  ·show -vf f n=-(A:Int);rw [hv]
structure Three (B:Nat) (w:World) (a0 a1 a2 b0 b1 b2 c0 c1 c2:Value):Prop where
 z:B+1+1<w.heap.size
 x0:w.cell? ⟨B,0,none⟩=some a0
 x1:w.cell? ⟨B,1,none⟩=some a1
 x2:w.cell? ⟨B,2,none⟩=some a2
 y0:w.cell? ⟨B+1,0,none⟩=some b0
 y1:w.cell? ⟨B+1,1,none⟩=some b1
 y2:w.cell? ⟨B+1,2,none⟩=some b2
 z0:w.cell? ⟨B+1+1,0,none⟩=some c0
 z1:w.cell? ⟨B+1+1,1,none⟩=some c1
 z2:w.cell? ⟨B+1+1,2,none⟩=some c2
 zf:∀o,w.frozen? ⟨B+1+1,o,none⟩=false
theorem Three.below {B w w' a0 a1 a2 b0 b1 b2 c0 c1 c2} (h:Three B w a0 a1 a2 b0 b1 b2 c0 c1 c2) (hb:Below w.heap.size w w'):Three B w' a0 a1 a2 b0 b1 b2 c0 c1 c2:=by
 obtain ⟨h1,h2⟩:=bcell hb;have hz:=hb.size;have z:=h.z;exact ⟨by omega,kCb hb h.x0,kCb hb h.x1,kCb hb h.x2,kCb hb h.y0,kCb hb h.y1,kCb hb h.y2,kCb hb h.z0,kCb hb h.z1,kCb hb h.z2,fun o=>(h2 _ _ (by omega)).trans (h.zf o)⟩
theorem Three.alloc {B w a0 a1 a2 b0 b1 b2 c0 c1 c2} (h:Three B w a0 a1 a2 b0 b1 b2 c0 c1 c2) (o:Obj):Three B (w.alloc o) a0 a1 a2 b0 b1 b2 c0 c1 c2:=h.below (below_alloc (Below.refl _ _) o)
theorem three_new {w w1:World} {a0 a1 a2 b0 b1 b2 c0 c1 c2:Value} {t:TypeId} (hb:Below (((w.alloc (.cells #[a0,a1,a2] t)).alloc (.cells #[b0,b1,b2] t)).alloc (.cells #[c0,c1,c2] t)).heap.size (((w.alloc (.cells #[a0,a1,a2] t)).alloc (.cells #[b0,b1,b2] t)).alloc (.cells #[c0,c1,c2] t)) w1) :
  Three w.heap.size w1 a0 a1 a2 b0 b1 b2 c0 c1 c2∧Below w.heap.size w w1:=by
 have h0:Three w.heap.size (((w.alloc (.cells #[a0,a1,a2] t)).alloc (.cells #[b0,b1,b2] t)).alloc (.cells #[c0,c1,c2] t)) a0 a1 a2 b0 b1 b2 c0 c1 c2:=by
  refine ⟨by simp,by simp [go_sem],by simp [go_sem],by simp [go_sem],by simp [go_sem],by simp [go_sem],by simp [go_sem],by simp [go_sem],by simp [go_sem],by simp [go_sem],fun o=>?_⟩;have e:=heap_alloc_new ((w.alloc (.cells #[a0,a1,a2] t)).alloc (.cells #[b0,b1,b2] t)) (.cells #[c0,c1,c2] t);rw [size_alloc1,size_alloc1] at e;simp only [World.frozen?,e];simp
 exact ⟨h0.below hb,(below_alloc (below_alloc (below_alloc (Below.refl w.heap.size w) _) _) _).trans (hb.mono (by simp;omega))⟩
def RatAns (L:Nat) (w w':World) (e:Ending) (q:Rat):Prop:=∃s x n c f y m d g,e=.returned (.agg #[.bool s,.slice x n c,.slice y m d])∧Below w.heap.size w w'∧Rn L w' s x n c f y m d g q
def RatTup (L:Nat) (w w':World) (e:Ending) (q:Rat):Prop:=∃s x n c f y m d g,e=.returned (.tuple #[.agg #[.bool s,.slice x n c,.slice y m d],.int .i64 0])∧Below w.heap.size w w'∧Rn L w' s x n c f y m d g q
theorem kIb {w w':World} {a:Addr} (hb:Below w.heap.size w w') (h:(w.cell? a).isSome=true):(w'.cell? a).isSome=true:=by
 obtain ⟨u,hu⟩:=Option.isSome_iff_exists.1 h;rw [kCb hb hu];rfl
theorem kWd {w s x n c f v} (h:Wn w s x n c f v):Wn w.drew s x n c f v:=⟨h.rd,h.lm,h.wf,h.cap,h.nil,h.val⟩
theorem kWb {w w' s x n c f v} (hb:Below w.heap.size w w') (h:Wn w s x n c f v):Wn w' s x n c f v:=h.below hb
theorem kTd {B w a0 a1 a2 b0 b1 b2 c0 c1 c2} (h:Three B w a0 a1 a2 b0 b1 b2 c0 c1 c2):Three B w.drew a0 a1 a2 b0 b1 b2 c0 c1 c2:=⟨h.z,h.x0,h.x1,h.x2,h.y0,h.y1,h.y2,h.z0,h.z1,h.z2,h.zf⟩
theorem kTb {B w w' a0 a1 a2 b0 b1 b2 c0 c1 c2} (hb:Below w.heap.size w w') (h:Three B w a0 a1 a2 b0 b1 b2 c0 c1 c2):Three B w' a0 a1 a2 b0 b1 b2 c0 c1 c2:=h.below hb
theorem Three.next {B w w' a0 a1 a2 b0 b1 b2 c0 c1 c2} {o:Obj} (h:Three B w a0 a1 a2 b0 b1 b2 c0 c1 c2) (hb:Below (w.alloc o).heap.size (w.alloc o) w'):Three B w' a0 a1 a2 b0 b1 b2 c0 c1 c2:=(h.alloc o).below hb
theorem cell_off {w:World} {b i j:Nat} {u v:Value} (hij:i≠j) (h:w.cell? ⟨b,j,none⟩=some u):(w.setCell ⟨b,i,none⟩ v).cell? ⟨b,j,none⟩=some u:=by
 rw [World.cell?_setCell_other _ _ _ _ (fun he=>hij (congrArg Addr.off he))];exact h
theorem Wn.set {w:World} {p:Addr} {v u:Value} {s x n c f z} (hp:w.cell? p=some v) (hv:∀i,v≠.int .u64 i) (h:Wn w s x n c f z):Wn (w.setCell p u) s x n c f z:=by
 refine ⟨fun j hj=>?_,h.lm,h.wf,h.cap,h.nil,h.val⟩;obtain ⟨b,o,hx,hc⟩:=h.rd j hj;refine ⟨b,o,hx,?_⟩;rw [World.cell?_setCell_other _ _ _ _ (fun he=>hv _ (Option.some.inj (hp.symm.trans (he ▸ hc))))];exact hc
theorem Three.store {B w a0 a1 a2 b0 b1 b2 e0 e1 n1 m1 e2 n2 m2 u0 u1 u2 s x n c f v} (h:Three B w a0 a1 a2 b0 b1 b2 (.bool e0) (.slice e1 n1 m1) (.slice e2 n2 m2)) (hx:Wn w s x n c f v) :
  Wn (((w.setCell ⟨B+1+1,0,none⟩ u0).setCell ⟨B+1+1,1,none⟩ u1).setCell ⟨B+1+1,2,none⟩ u2) s x n c f v :=
 ((hx.set h.z0 (fun i h=>by cases h)).set (cell_off (by decide) h.z1) (fun i h=>by cases h)).set (cell_off (by decide) (cell_off (by decide) h.z2)) (fun i h=>by cases h)
theorem below_store {w0 w:World} {u0 u1 u2:Value} (hw:Below w0.heap.size w0 w) :
  Below w0.heap.size w0 (((w.setCell ⟨w0.heap.size+1+1,0,none⟩ u0).setCell ⟨w0.heap.size+1+1,1,none⟩ u1).setCell ⟨w0.heap.size+1+1,2,none⟩ u2) :=
 below_turned hw hw.size ((((Turned.refl w0.heap.size (w0.heap.size+1+1+1) w).set (x:=⟨w0.heap.size+1+1,0,none⟩) (by simp;omega) (by simp) _).set (x:=⟨w0.heap.size+1+1,1,none⟩) (by simp;omega) (by simp) _).set (x:=⟨w0.heap.size+1+1,2,none⟩) (by simp;omega) (by simp) _) (Nat.le_refl _)
theorem add_made {a b:Rat} {s:Bool} {S:Int} (hS:S=a.num*(b.den/a.den.gcd b.den:Nat)+b.num*(a.den/a.den.gcd b.den:Nat)) (hs:S=sg s S.natAbs) :
  sg s (S.natAbs/S.natAbs.gcd (a.den.gcd b.den))=(a+b).num∧a.den/a.den.gcd b.den*(b.den/S.natAbs.gcd (a.den.gcd b.den))=(a+b).den:=by
 have hG:0<a.den.gcd b.den:=Nat.gcd_pos_of_pos_left _ a.den_pos;have hL:0<S.natAbs.gcd (a.den.gcd b.den):=Nat.gcd_pos_of_pos_right _ hG;obtain ⟨K,hK⟩:=Nat.gcd_dvd_left S.natAbs (a.den.gcd b.den);have hN:sg s (S.natAbs/S.natAbs.gcd (a.den.gcd b.den))*(S.natAbs.gcd (a.den.gcd b.den):Nat)=S:=by
  have h1:S.natAbs/S.natAbs.gcd (a.den.gcd b.den)=K:=by
   have:=Nat.mul_div_cancel_left K hL;rw [←hK] at this;exact this
  rw [h1];generalize S.natAbs.gcd (a.den.gcd b.den)=l at hK;rw [hs,hK];cases s
  ·show (K:Int)*l=((l*K:Nat):Int);rw [Int.natCast_mul,Int.mul_comm]
  ·show (-(K:Int))*l=-((l*K:Nat):Int);rw [Int.natCast_mul,Int.neg_mul,Int.mul_comm]
 have:=radd (a:=a) (b:=b) rfl (Nat.div_mul_cancel (Nat.gcd_dvd_left _ _)) (Nat.div_mul_cancel (Nat.gcd_dvd_right _ _)) hS rfl (Nat.div_mul_cancel (Nat.dvd_trans (Nat.gcd_dvd_right _ _) (Nat.gcd_dvd_right _ _))) hN;exact ⟨this.1.symm,this.2.symm⟩
set_option maxRecDepth 100000 in
set_option maxHeartbeats 4000000 in
theorem ratadd_c {L:Nat} {w:World} {sa:Bool} {xa:Option Addr} {na ca:Nat} {fa:Nat→Int} {ya:Option Addr} {ma da:Nat} {ga:Nat→Int} {a:Rat} {sb:Bool} {xb:Option Addr} {nb cb:Nat} {fb:Nat→Int} {yb:Option Addr} {mb db:Nat} {gb:Nat→Int} {b:Rat} (ha:Rn L w sa xa na ca fa ya ma da ga a) (hb:Rn L w sb xb nb cb fb yb mb db gb b) (hL:L≤200000) :
  Calls Tryz.prog 110 #[.agg #[.bool sa,.slice xa na ca,.slice ya ma da],.agg #[.bool sb,.slice xb nb cb,.slice yb mb db]] w fun e w'=>RatAns (2*L+1) w w' e (a+b):=by
 have HA0:=hid ha;have HB0:=hid hb
 have b1:=ha.ln;have b2:=ha.ld;have b3:=hb.ln;have b4:=hb.ld
 clear ha hb;go_enter Tryz.func110,Tryz.ntmps110;go_wp2_with fail
 refine (ratGcd_c (((HA0.out.den.alloc _).alloc _).alloc _) (((HB0.out.den.alloc _).alloc _).alloc _) (by omega) (by omega)).mono ?_;rintro e w1 ⟨zg,kg,cg,fg,rfl,hbel,hg⟩;obtain ⟨⟨hz,x0,x1,x2,y0,y1,y2,z0,z1,z2,zf⟩,hw⟩:=three_new hbel;have T1:Hid (Three w.heap.size w1 _ _ _ _ _ _ _ _ _):=⟨hz,x0,x1,x2,y0,y1,y2,z0,z1,z2,zf⟩;have HW1:=hid hw;have WG1:=hid hg;have HA1:=hid (HA0.out.below hw);have HB1:=hid (HB0.out.below hw)
 have hG0:0<a.den.gcd b.den:=Nat.gcd_pos_of_pos_left _ a.den_pos;have hkg:kg≤L:=Nat.le_trans (hg.len_le HA1.out.den (Nat.gcd_le_left _ a.den_pos)) (by omega);clear hbel hw hg HA0 HB0;have C1:Hid ((∀W,Below w1.heap.size w1 W→Calls Tryz.prog 139 #[.slice ya ma da,.slice zg kg cg] W fun e w'=>∃z k e' h,e=.returned (.slice z k e')∧Below W.heap.size W w'∧Hid (k≤L∧Wn w' false z k e' h (a.den/a.den.gcd b.den:Nat)))):=fun W hW=>(over_c (HA1.out.den.below hW) (WG1.out.below hW) hG0 (by omega) (by omega)).mono (fun e w' ⟨z,k,e',h,h1,h2,h3⟩=>⟨z,k,e',h,h1,h2,by have:=h3.out.1;omega,h3.out.2⟩)
 have C2:Hid ((∀W,Below w1.heap.size w1 W→Calls Tryz.prog 139 #[.slice yb mb db,.slice zg kg cg] W fun e w'=>∃z k e' h,e=.returned (.slice z k e')∧Below W.heap.size W w'∧Hid (k≤L∧Wn w' false z k e' h (b.den/a.den.gcd b.den:Nat)))):=fun W hW=>(over_c (HB1.out.den.below hW) (WG1.out.below hW) hG0 (by omega) (by omega)).mono (fun e w' ⟨z,k,e',h,h1,h2,h3⟩=>⟨z,k,e',h,h1,h2,by have:=h3.out.1;omega,h3.out.2⟩)
 go_wp2_with fail
 go_region_held3 (fun w'=>w'.cell? ⟨w.heap.size,2,none⟩=some (.slice ya ma da)∧w'.cell? ⟨w.heap.size+1,2,none⟩=some (.slice yb mb db))
  (refine ⟨?_,?_⟩ <;> repeat (with_reducible first | assumption | refine kCd ?_ | refine kCa ?_ | refine kCb (by assumption) ?_))
  (first
   | (go_at_call 139;with_reducible refine (C1.out _ belA).mono ?_;rintro e w2 ⟨zp,kp,cp,fp,rfl,hb2,HP⟩)
   | (go_at_call 139;with_reducible refine (C2.out _ belA).mono ?_;rintro e w3 ⟨zq,kq,cq,fq,rfl,hb3,HQ⟩))
 have hb:Below w1.heap.size w1 w3:=belA;have hkp:=HP.out.1;have hkq:=HQ.out.1
 have WP3:=hid (HP.out.2.below hb3);have WQ3:=hid HQ.out.2;clear HP HQ C1 C2 hb2 hb3;have HA3:=hid (HA1.out.below hb);have HB3:=hid (HB1.out.below hb);have T3:=hid (T1.out.below hb);have WG3:=hid (WG1.out.below hb);have HW3:=hid (HW1.out.trans (hb.mono HW1.out.size))
 clear HA1 HB1 T1 WG1 HW1 hb;clear hz x0 x1 x2 y0 y1 y2 z0 z1 z2 zf;obtain ⟨hz,x0,x1,x2,y0,y1,y2,z0,z1,z2,zf⟩:=T3.out;have hza:w.heap.size<w3.heap.size:=by omega
 have hzb:w.heap.size+1<w3.heap.size:=by omega
 go_wp2_with fail
 refine (numer_c sa xa ya na ca ma da _).mono ?_;rintro e w4 ⟨rfl,hb⟩;have HA4:=hid (HA3.out.below hb);have HB4:=hid (HB3.out.below hb);have T4:=hid (T3.out.below hb);have WG4:=hid (WG3.out.below hb);have WP4:=hid (WP3.out.below hb);have WQ4:=hid (WQ3.out.below hb);have HW4:=hid (HW3.out.trans (hb.mono HW3.out.size))
 clear HA3 HB3 T3 WG3 WP3 WQ3 HW3 hb;clear hza hzb hz x0 x1 x2 y0 y1 y2 z0 z1 z2 zf;obtain ⟨hz,x0,x1,x2,y0,y1,y2,z0,z1,z2,zf⟩:=T4.out;have hza:w.heap.size<w4.heap.size:=by omega
 have hzb:w.heap.size+1<w4.heap.size:=by omega
 go_wp2_with fail
 refine (mul_n HA4.out.num WQ4.out (by omega) (by omega)).mono ?_;rintro e w5 ⟨s5,p5,k5,c5,f5,rfl,hb,hk5,hp⟩;have WX5:=hid hp;clear hp WQ4;have HA5:=hid (HA4.out.below hb);have HB5:=hid (HB4.out.below hb);have T5:=hid (T4.out.below hb);have WG5:=hid (WG4.out.below hb);have WP5:=hid (WP4.out.below hb);have HW5:=hid (HW4.out.trans (hb.mono HW4.out.size))
 clear HA4 HB4 T4 WG4 WP4 HW4 hb;clear hza hzb hz x0 x1 x2 y0 y1 y2 z0 z1 z2 zf;obtain ⟨hz,x0,x1,x2,y0,y1,y2,z0,z1,z2,zf⟩:=T5.out;have hza:w.heap.size<w5.heap.size:=by omega
 have hzb:w.heap.size+1<w5.heap.size:=by omega
 go_wp2_with fail
 refine (numer_c sb xb yb nb cb mb db _).mono ?_;rintro e w6 ⟨rfl,hb⟩;have BX6:=hid (bx_new hb);have HB6:=hid (HB5.out.next hb);have T6:=hid (T5.out.next hb);have WG6:=hid (WG5.out.next hb);have WP6:=hid (WP5.out.next hb);have WX6:=hid (WX5.out.next hb);have HW6:=hid ((below_alloc HW5.out _).trans (hb.mono (below_alloc HW5.out _).size))
 clear HB5 T5 WG5 WP5 WX5 HW5 hb;clear hza hzb hz x0 x1 x2 y0 y1 y2 z0 z1 z2 zf;obtain ⟨hz,x0,x1,x2,y0,y1,y2,z0,z1,z2,zf⟩:=T6.out;have hza:w.heap.size<w6.heap.size:=by omega
 have hzb:w.heap.size+1<w6.heap.size:=by omega
 go_wp2_with fail
 refine (mul_n HB6.out.num WP6.out (by omega) (by omega)).mono ?_;rintro e w7 ⟨s7,p7,k7,c7,f7,rfl,hb,hk7,hp⟩;have WY7:=hid hp;clear hp;have HB7:=hid (HB6.out.below hb);have T7:=hid (T6.out.below hb);have WG7:=hid (WG6.out.below hb);have WP7:=hid (WP6.out.below hb);have WX7:=hid (WX6.out.below hb);have BX7:=hid (BX6.out.below hb);have HW7:=hid (HW6.out.trans (hb.mono HW6.out.size))
 clear HB6 T6 WG6 WP6 WX6 BX6 HW6 hb;clear hza hzb hz x0 x1 x2 y0 y1 y2 z0 z1 z2 zf;obtain ⟨hz,x0,x1,x2,y0,y1,y2,z0,z1,z2,zf⟩:=T7.out;have hza:w.heap.size<w7.heap.size:=by omega
 have hzb:w.heap.size+1<w7.heap.size:=by omega
 obtain ⟨hzx,bx0,bx1⟩:=BX7.out;go_wp2_with fail
 refine (add_n (WX7.out.alloc _) (WY7.out.alloc _) (by omega) (by omega)).mono ?_;rintro e w8 ⟨s8,p8,k8,c8,f8,rfl,hb,hk8,hp⟩;have WS8:=hid hp;clear hp hzx bx0 bx1 WX7 WY7 BX7;have HB8:=hid (HB7.out.next hb);have T8:=hid (T7.out.next hb);have WG8:=hid (WG7.out.next hb);have WP8:=hid (WP7.out.next hb);have HW8:=hid ((below_alloc HW7.out _).trans (hb.mono (below_alloc HW7.out _).size))
 clear HB7 T7 WG7 WP7 HW7 hb;clear hza hzb hz x0 x1 x2 y0 y1 y2 z0 z1 z2 zf;obtain ⟨hz,x0,x1,x2,y0,y1,y2,z0,z1,z2,zf⟩:=T8.out;have hza:w.heap.size<w8.heap.size:=by omega
 have hzb:w.heap.size+1<w8.heap.size:=by omega
 have hz8:=hz;obtain ⟨S,hS⟩:∃S,S=a.num*(b.den/a.den.gcd b.den:Nat)+b.num*(a.den/a.den.gcd b.den:Nat):=⟨_,rfl⟩;rw [←hS] at WS8;have HS:=hid hS;clear hS;go_wp2_with fail
 refine (ratGcd_c (WS8.out.mag.alloc _) (WG8.out.alloc _) (by omega) (by omega)).mono ?_;rintro e w9 ⟨zl,kl,cl,fl,rfl,hb,hl⟩;have WL9:=hid hl;have BS9:=hid (bx_new hb)
 have hl0:0<S.natAbs.gcd (a.den.gcd b.den):=Nat.gcd_pos_of_pos_right _ hG0;have hkl:kl≤L:=Nat.le_trans (hl.len_le WG8.out (Nat.gcd_le_right _ hG0)) (by omega);clear hl WG8;have HB9:=hid (HB8.out.next hb);have T9:=hid (T8.out.next hb);have WP9:=hid (WP8.out.next hb);have WS9:=hid (WS8.out.next hb);have HW9:=hid ((below_alloc HW8.out _).trans (hb.mono (below_alloc HW8.out _).size))
 clear HB8 T8 WP8 WS8 HW8 hb;clear hza hzb hz x0 x1 x2 y0 y1 y2 z0 z1 z2 zf;obtain ⟨hz,x0,x1,x2,y0,y1,y2,z0,z1,z2,zf⟩:=T9.out;have hza:w.heap.size<w9.heap.size:=by omega
 have hzb:w.heap.size+1<w9.heap.size:=by omega
 go_wp2_with fail
 refine (over_c HB9.out.den WL9.out hl0 (by omega) (by omega)).mono ?_;rintro e w10 ⟨zo,ko,co,fo,rfl,hb,HO⟩;have hko:=HO.out.1;have WO10:=hid HO.out.2
 clear HO HB9;have T10:=hid (T9.out.below hb);have WP10:=hid (WP9.out.below hb);have WS10:=hid (WS9.out.below hb);have WL10:=hid (WL9.out.below hb);have BS10:=hid (BS9.out.below hb);have HW10:=hid (HW9.out.trans (hb.mono HW9.out.size))
 clear T9 WP9 WS9 WL9 BS9 HW9 hb;clear hza hzb hz x0 x1 x2 y0 y1 y2 z0 z1 z2 zf;obtain ⟨hz,x0,x1,x2,y0,y1,y2,z0,z1,z2,zf⟩:=T10.out;have hza:w.heap.size<w10.heap.size:=by omega
 have hzb:w.heap.size+1<w10.heap.size:=by omega
 go_wp2_with fail
 refine (natMul_n WP10.out WO10.out (by omega) (by omega)).mono ?_;rintro e w11 ⟨zd,kd,cd,fd,rfl,hb,hkd,hp⟩;have WD11:=hid hp;clear hp WP10 WO10;have T11:=hid (T10.out.below hb);have WS11:=hid (WS10.out.below hb);have WL11:=hid (WL10.out.below hb);have BS11:=hid (BS10.out.below hb);have HW11:=hid (HW10.out.trans (hb.mono HW10.out.size))
 clear T10 WS10 WL10 BS10 HW10 hb;clear hza hzb hz x0 x1 x2 y0 y1 y2 z0 z1 z2 zf;obtain ⟨hz,x0,x1,x2,y0,y1,y2,z0,z1,z2,zf⟩:=T11.out;have hza:w.heap.size<w11.heap.size:=by omega
 have hzb:w.heap.size+1<w11.heap.size:=by omega
 obtain ⟨hzs,bs0,bs1⟩:=BS11.out;have C3:Hid (∀W,Below w11.heap.size w11 W→Calls Tryz.prog 139 #[.slice p8 k8 c8,.slice zl kl cl] W fun e w'=>∃z k e' h,e=.returned (.slice z k e')∧Below W.heap.size W w'∧Hid (k≤k8∧Wn w' false z k e' h (S.natAbs/S.natAbs.gcd (a.den.gcd b.den):Nat))):=fun W hW=>over_c (WS11.out.mag.below hW) (WL11.out.below hW) hl0 (by omega) (by omega)
 have C4:Hid (∀(W:World) (z:Option Addr) (k c:Nat),k≤1048576→Calls Tryz.prog 65 #[.bool s8,.slice z k c,.slice zd kd cd] W fun e w'=>∃r,e=.returned (.agg #[.bool r,.slice z k c,.slice zd kd cd])∧Below W.heap.size W w'∧Hid (r=(s8 && decide (0<k)))):=fun W z k c hk=>(rsigned_c s8 z zd k c kd cd W (by omega)).mono (fun e w' ⟨r,h1,h2,h3⟩=>⟨r,h1,h3,h2⟩)
 go_wp2_with fail
 go_region_held3 (fun w'=>w'.cell? ⟨w8.heap.size,0,none⟩=some (.bool s8)∧w'.cell? ⟨w8.heap.size,1,none⟩=some (.slice p8 k8 c8)∧(w'.cell? ⟨w.heap.size+1+1,0,none⟩).isSome=true∧(w'.cell? ⟨w.heap.size+1+1,1,none⟩).isSome=true∧(w'.cell? ⟨w.heap.size+1+1,2,none⟩).isSome=true∧w'.frozen? ⟨w.heap.size+1+1,0,none⟩=false∧w'.frozen? ⟨w.heap.size+1+1,1,none⟩=false∧w'.frozen? ⟨w.heap.size+1+1,2,none⟩=false)
  (refine ⟨?_,?_,?_,?_,?_,?_,?_,?_⟩ <;> repeat (with_reducible first | assumption | exact zf _ | exact uf _ | exact vf' _ | exact kI0 z0 | exact kI0 z1 | exact kI0 z2 | exact kI0 u0 | exact kI0 u1 | exact kI0 u2 | exact kI0 v0 | exact kI0 v1 | exact kI0 v2 | refine kCd ?_ | refine kId ?_ | refine kFd ?_ | refine kCs (by simp only [ne_eq];omega) ?_ | refine kIs ?_ | refine kFs ?_ | refine kCb (by assumption) ?_ | refine kIb (by assumption) ?_))
  (first
   | (go_at_call 139;with_reducible refine (C3.out _ belA).mono ?_;rintro e w12 ⟨zn,kn,cn,fn,rfl,hb2,HN⟩;have hkn:kn≤1048576:=(by have:=HN.out.1;omega);have TU:Three w.heap.size w12 (.bool sa) (.slice xa na ca) (.slice ya ma da) (.bool sb) (.slice xb nb cb) (.slice yb mb db) (.bool false) (.slice none 0 0) (.slice none 0 0):=(by repeat (with_reducible first | exact T11.out | exact TU | refine kTd ?_ | refine kTb (by assumption) ?_));obtain ⟨_,_,_,_,_,_,_,u0,u1,u2,uf⟩:=id TU)
   | (go_at_call 65;with_reducible refine (C4.out _ zn kn cn hkn).mono ?_;rintro e w13 ⟨rs,rfl,hb3,HRS⟩;have TV:Three w.heap.size w13 (.bool sa) (.slice xa na ca) (.slice ya ma da) (.bool sb) (.slice xb nb cb) (.slice yb mb db) (.bool false) (.slice none 0 0) (.slice none 0 0):=(by repeat (with_reducible first | exact T11.out | exact TU | refine kTd ?_ | refine kTb (by assumption) ?_));obtain ⟨_,_,_,_,_,_,_,v0,v1,v2,vf'⟩:=id TV))
 have WN:Wn w13 false zn kn cn fn _:=HN.out.2.below hb3;have hw13:Below w11.heap.size w11 w13:=belA;have hm:=add_made HS.out WS11.out.sgn;have hkn':=HN.out.1;go_wp2;refine bodyPost_ret (v:=.agg #[.bool rs,.slice zn kn cn,.slice zd kd cd]) (by simp [results,Tryz.results110,go_sem,v0,v1,v2]) rfl ⟨rs,zn,kn,cn,fn,zd,kd,cd,fd,rfl,below_store (HW11.out.trans (hw13.mono HW11.out.size)),⟨?_,?_,?_,?_⟩⟩
 ·rw [←hm.1];exact TV.store (WN.resign HRS.out)
 ·rw [←hm.2];exact TV.store (WD11.out.below hw13)
 ·omega
 ·omega
theorem mul_made {a b:Rat} {s t:Bool} (ha:a.num=sg s a.num.natAbs) (hb:b.num=sg t b.num.natAbs) :
  sg (s != t) (a.num.natAbs/a.num.natAbs.gcd b.den*(b.num.natAbs/b.num.natAbs.gcd a.den))=(a*b).num∧a.den/b.num.natAbs.gcd a.den*(b.den/a.num.natAbs.gcd b.den)=(a*b).den:=by
 have:=rmul (a:=a) (b:=b) (s:=s) (t:=t) (G:=a.num.natAbs.gcd b.den) (H:=b.num.natAbs.gcd a.den) (NA:=a.num.natAbs/a.num.natAbs.gcd b.den) (NB:=b.num.natAbs/b.num.natAbs.gcd a.den) (DA:=a.den/b.num.natAbs.gcd a.den) (DB:=b.den/a.num.natAbs.gcd b.den)
  (by rw [Nat.div_mul_cancel (Nat.gcd_dvd_left _ _)];exact ha) (by rw [Nat.div_mul_cancel (Nat.gcd_dvd_left _ _)];exact hb) rfl rfl (Nat.div_mul_cancel (Nat.gcd_dvd_right _ _)) (Nat.div_mul_cancel (Nat.gcd_dvd_right _ _))
 exact ⟨this.1.symm,this.2.symm⟩
set_option maxRecDepth 100000 in
set_option maxHeartbeats 4000000 in
theorem ratmul_c {L:Nat} {w:World} {sa:Bool} {xa:Option Addr} {na ca:Nat} {fa:Nat→Int} {ya:Option Addr} {ma da:Nat} {ga:Nat→Int} {a:Rat} {sb:Bool} {xb:Option Addr} {nb cb:Nat} {fb:Nat→Int} {yb:Option Addr} {mb db:Nat} {gb:Nat→Int} {b:Rat} (ha:Rn L w sa xa na ca fa ya ma da ga a) (hb:Rn L w sb xb nb cb fb yb mb db gb b) (hL:L≤200000) :
  Calls Tryz.prog 107 #[.agg #[.bool sa,.slice xa na ca,.slice ya ma da],.agg #[.bool sb,.slice xb nb cb,.slice yb mb db]] w fun e w'=>RatAns (2*L+1) w w' e (a*b):=by
 have b1:=ha.ln;have b2:=ha.ld;have b3:=hb.ln;have b4:=hb.ld
 have hbel:=Below.refl (((w.alloc (.cells #[.bool sa,.slice xa na ca,.slice ya ma da] 24)).alloc (.cells #[.bool sb,.slice xb nb cb,.slice yb mb db] 24)).alloc (.cells #[.bool false,.slice none 0 0,.slice none 0 0] 24)).heap.size (((w.alloc (.cells #[.bool sa,.slice xa na ca,.slice ya ma da] 24)).alloc (.cells #[.bool sb,.slice xb nb cb,.slice yb mb db] 24)).alloc (.cells #[.bool false,.slice none 0 0,.slice none 0 0] 24));obtain ⟨t1,hw⟩:=three_new hbel;have h1:=(((ha.alloc (.cells #[.bool sa,.slice xa na ca,.slice ya ma da] 24)).alloc (.cells #[.bool sb,.slice xb nb cb,.slice yb mb db] 24)).alloc (.cells #[.bool false,.slice none 0 0,.slice none 0 0] 24));have h2:=(((hb.alloc (.cells #[.bool sa,.slice xa na ca,.slice ya ma da] 24)).alloc (.cells #[.bool sb,.slice xb nb cb,.slice yb mb db] 24)).alloc (.cells #[.bool false,.slice none 0 0,.slice none 0 0] 24));clear hbel ha hb;go_enter Tryz.func107,Tryz.ntmps107;go_wp2_with fail
 generalize ((w.alloc (.cells #[.bool sa,.slice xa na ca,.slice ya ma da] 24)).alloc (.cells #[.bool sb,.slice xb nb cb,.slice yb mb db] 24)).alloc (.cells #[.bool false,.slice none 0 0,.slice none 0 0] 24)=w1 at *;have HA1:=hid h1;have HB1:=hid h2;have T1:=hid t1;have HW1:=hid hw
 obtain ⟨hz,x0,x1,x2,y0,y1,y2,z0,z1,z2,zf⟩:=t1;have hza:w.heap.size<w1.heap.size:=by omega
 have hzb:w.heap.size+1<w1.heap.size:=by omega
 clear h1 h2 hw;have hG0:0<a.num.natAbs.gcd b.den:=Nat.gcd_pos_of_pos_right _ b.den_pos;have hH0:0<b.num.natAbs.gcd a.den:=Nat.gcd_pos_of_pos_right _ a.den_pos;have C1:Hid (∀W,Below w1.heap.size w1 W→Calls Tryz.prog 105 #[.slice xa na ca,.slice yb mb db] W fun e w'=>∃z k e' h,e=.returned (.slice z k e')∧Below W.heap.size W w'∧Hid (k≤L∧Wn w' false z k e' h (a.num.natAbs.gcd b.den:Nat))):=fun W hW=>(ratGcd_c (HA1.out.num.mag.below hW) (HB1.out.den.below hW) (by omega) (by omega)).mono (fun e w' ⟨z,k,e',h,h1,h2,h3⟩=>⟨z,k,e',h,h1,h2,Nat.le_trans (h3.len_le ((HB1.out.den.below hW).below h2) (Nat.gcd_le_right _ b.den_pos)) (by omega),h3⟩)
 have C2:Hid (∀W,Below w1.heap.size w1 W→Calls Tryz.prog 105 #[.slice xb nb cb,.slice ya ma da] W fun e w'=>∃z k e' h,e=.returned (.slice z k e')∧Below W.heap.size W w'∧Hid (k≤L∧Wn w' false z k e' h (b.num.natAbs.gcd a.den:Nat))):=fun W hW=>(ratGcd_c (HB1.out.num.mag.below hW) (HA1.out.den.below hW) (by omega) (by omega)).mono (fun e w' ⟨z,k,e',h,h1,h2,h3⟩=>⟨z,k,e',h,h1,h2,Nat.le_trans (h3.len_le ((HA1.out.den.below hW).below h2) (Nat.gcd_le_right _ a.den_pos)) (by omega),h3⟩)
 go_region_held3 (fun w'=>w'.cell? ⟨w.heap.size,1,none⟩=some (.slice xa na ca)∧w'.cell? ⟨w.heap.size+1,2,none⟩=some (.slice yb mb db)∧w'.cell? ⟨w.heap.size+1,1,none⟩=some (.slice xb nb cb)∧w'.cell? ⟨w.heap.size,2,none⟩=some (.slice ya ma da))
  (refine ⟨?_,?_,?_,?_⟩ <;> repeat (with_reducible first | assumption | refine kCd ?_ | refine kCa ?_ | refine kCb (by assumption) ?_))
  (first
   | (go_at_call 105;with_reducible refine (C1.out _ belA).mono ?_;rintro e w2 ⟨zg,kg,cg,fg,rfl,hb2,HG⟩)
   | (go_at_call 105;with_reducible refine (C2.out _ belA).mono ?_;rintro e w3 ⟨zh,kh,ch,fh,rfl,hb3,HH⟩))
 have WG3:=hid (HG.out.2.below hb3);have WH3:=hid HH.out.2
 have hkg:=HG.out.1;have hkh:=HH.out.1
 have hb:Below w1.heap.size w1 w3:=belA;clear HG HH C1 C2 hb2 hb3;have HA3:=hid (HA1.out.below hb);have HB3:=hid (HB1.out.below hb);have T3:=hid (T1.out.below hb);have HW3:=hid (HW1.out.trans (hb.mono HW1.out.size))
 clear HA1 HB1 T1 HW1 hb;clear hza hzb hz x0 x1 x2 y0 y1 y2 z0 z1 z2 zf;obtain ⟨hz,x0,x1,x2,y0,y1,y2,z0,z1,z2,zf⟩:=T3.out;have hza:w.heap.size<w3.heap.size:=by omega
 have hzb:w.heap.size+1<w3.heap.size:=by omega
 have C1:Hid (∀W,Below w3.heap.size w3 W→Calls Tryz.prog 139 #[.slice xa na ca,.slice zg kg cg] W fun e w'=>∃z k e' h,e=.returned (.slice z k e')∧Below W.heap.size W w'∧Hid (k≤L∧Wn w' false z k e' h (a.num.natAbs/a.num.natAbs.gcd b.den:Nat))):=fun W hW=>(over_c (HA3.out.num.mag.below hW) (WG3.out.below hW) hG0 (by omega) (by omega)).mono (fun e w' ⟨z,k,e',h,h1,h2,h3⟩=>⟨z,k,e',h,h1,h2,by have:=h3.out.1;omega,h3.out.2⟩)
 have C2:Hid (∀W,Below w3.heap.size w3 W→Calls Tryz.prog 139 #[.slice xb nb cb,.slice zh kh ch] W fun e w'=>∃z k e' h,e=.returned (.slice z k e')∧Below W.heap.size W w'∧Hid (k≤L∧Wn w' false z k e' h (b.num.natAbs/b.num.natAbs.gcd a.den:Nat))):=fun W hW=>(over_c (HB3.out.num.mag.below hW) (WH3.out.below hW) hH0 (by omega) (by omega)).mono (fun e w' ⟨z,k,e',h,h1,h2,h3⟩=>⟨z,k,e',h,h1,h2,by have:=h3.out.1;omega,h3.out.2⟩)
 go_wp2_with fail
 go_region_held3 (fun w'=>w'.cell? ⟨w.heap.size,1,none⟩=some (.slice xa na ca)∧w'.cell? ⟨w.heap.size+1,1,none⟩=some (.slice xb nb cb))
  (refine ⟨?_,?_⟩ <;> repeat (with_reducible first | assumption | refine kCd ?_ | refine kCa ?_ | refine kCb (by assumption) ?_))
  (first
   | (go_at_call 139;with_reducible refine (C1.out _ belA).mono ?_;rintro e w4 ⟨zp,kp,cp,fp,rfl,hb4,HP⟩)
   | (go_at_call 139;with_reducible refine (C2.out _ belA).mono ?_;rintro e w5 ⟨zq,kq,cq,fq,rfl,hb5,HQ⟩)
   | (go_at_call 138;with_reducible refine (natMul_n (HP.out.2.below hb5) HQ.out.2 (by have:=HP.out.1;omega) (by have:=HQ.out.1;omega)).mono ?_;rintro e w6 ⟨zn,kn,cn,fn,rfl,hb6,hkn,hmn⟩))
 have WN6:=hid hmn;have hkp:=HP.out.1;have hkq:=HQ.out.1
 have hb:Below w3.heap.size w3 w6:=belA;clear HP HQ C1 C2 hb4 hb5 hb6 hmn;have HA6:=hid (HA3.out.below hb);have HB6:=hid (HB3.out.below hb);have T6:=hid (T3.out.below hb);have WG6:=hid (WG3.out.below hb);have WH6:=hid (WH3.out.below hb);have HW6:=hid (HW3.out.trans (hb.mono HW3.out.size))
 clear HA3 HB3 T3 WG3 WH3 HW3 hb;clear hza hzb hz x0 x1 x2 y0 y1 y2 z0 z1 z2 zf;obtain ⟨hz,x0,x1,x2,y0,y1,y2,z0,z1,z2,zf⟩:=T6.out;have hza:w.heap.size<w6.heap.size:=by omega
 have hzb:w.heap.size+1<w6.heap.size:=by omega
 have C1:Hid (∀W,Below w6.heap.size w6 W→Calls Tryz.prog 139 #[.slice ya ma da,.slice zh kh ch] W fun e w'=>∃z k e' h,e=.returned (.slice z k e')∧Below W.heap.size W w'∧Hid (k≤L∧Wn w' false z k e' h (a.den/b.num.natAbs.gcd a.den:Nat))):=fun W hW=>(over_c (HA6.out.den.below hW) (WH6.out.below hW) hH0 (by omega) (by omega)).mono (fun e w' ⟨z,k,e',h,h1,h2,h3⟩=>⟨z,k,e',h,h1,h2,by have:=h3.out.1;omega,h3.out.2⟩)
 have C2:Hid (∀W,Below w6.heap.size w6 W→Calls Tryz.prog 139 #[.slice yb mb db,.slice zg kg cg] W fun e w'=>∃z k e' h,e=.returned (.slice z k e')∧Below W.heap.size W w'∧Hid (k≤L∧Wn w' false z k e' h (b.den/a.num.natAbs.gcd b.den:Nat))):=fun W hW=>(over_c (HB6.out.den.below hW) (WG6.out.below hW) hG0 (by omega) (by omega)).mono (fun e w' ⟨z,k,e',h,h1,h2,h3⟩=>⟨z,k,e',h,h1,h2,by have:=h3.out.1;omega,h3.out.2⟩)
 go_wp2_with fail
 go_region_held3 (fun w'=>w'.cell? ⟨w.heap.size,2,none⟩=some (.slice ya ma da)∧w'.cell? ⟨w.heap.size+1,2,none⟩=some (.slice yb mb db))
  (refine ⟨?_,?_⟩ <;> repeat (with_reducible first | assumption | refine kCd ?_ | refine kCa ?_ | refine kCb (by assumption) ?_))
  (first
   | (go_at_call 139;with_reducible refine (C1.out _ belA).mono ?_;rintro e w7 ⟨zr,kr,cr,fr,rfl,hb7,HP⟩)
   | (go_at_call 139;with_reducible refine (C2.out _ belA).mono ?_;rintro e w8 ⟨zs,ks,cs,fs,rfl,hb8,HQ⟩)
   | (go_at_call 138;with_reducible refine (natMul_n (HP.out.2.below hb8) HQ.out.2 (by have:=HP.out.1;omega) (by have:=HQ.out.1;omega)).mono ?_;rintro e w9 ⟨zd,kd,cd,fd,rfl,hb9,hkd,hmd⟩))
 have WD9:=hid hmd;have hkr:=HP.out.1;have hks:=HQ.out.1
 have hb:Below w6.heap.size w6 w9:=belA;clear HP HQ C1 C2 hb7 hb8 hb9 hmd;have HA9:=hid (HA6.out.below hb);have HB9:=hid (HB6.out.below hb);have T9:=hid (T6.out.below hb);have WN9:=hid (WN6.out.below hb);have HW9:=hid (HW6.out.trans (hb.mono HW6.out.size))
 clear HA6 HB6 T6 WN6 HW6 hb;clear hza hzb hz x0 x1 x2 y0 y1 y2 z0 z1 z2 zf;obtain ⟨hz,x0,x1,x2,y0,y1,y2,z0,z1,z2,zf⟩:=T9.out;have hza:w.heap.size<w9.heap.size:=by omega
 have hzb:w.heap.size+1<w9.heap.size:=by omega
 go_wp2_with fail
 refine (rsigned_c _ zn zd kn cn kd cd _ (by omega)).mono ?_;rintro e w10 ⟨rs,rfl,HRS,hb⟩;have HA10:=hid (HA9.out.below hb);have HB10:=hid (HB9.out.below hb);have T10:=hid (T9.out.below hb);have WN10:=hid (WN9.out.below hb);have WD10:=hid (WD9.out.below hb);have HW10:=hid (HW9.out.trans (hb.mono HW9.out.size))
 clear HA9 HB9 T9 WN9 WD9 HW9 hb;clear hza hzb hz x0 x1 x2 y0 y1 y2 z0 z1 z2 zf;obtain ⟨hz,x0,x1,x2,y0,y1,y2,z0,z1,z2,zf⟩:=T10.out;have hza:w.heap.size<w10.heap.size:=by omega
 have hzb:w.heap.size+1<w10.heap.size:=by omega
 have hm:=mul_made HA10.out.num.sgn HB10.out.num.sgn;go_wp2;refine bodyPost_ret (v:=.agg #[.bool rs,.slice zn kn cn,.slice zd kd cd]) (by simp [results,Tryz.results107,go_sem,z0,z1,z2]) rfl ⟨rs,zn,kn,cn,fn,zd,kd,cd,fd,rfl,below_store HW10.out,⟨?_,?_,?_,?_⟩⟩
 ·rw [←hm.1];exact T10.out.store (WN10.out.resign HRS.out)
 ·rw [←hm.2];exact T10.out.store WD10.out
 ·omega
 ·omega
end Go.Proofs.YtdbbncamlaiajaaGreat
