/-
 The walk of the reference's Light of a model, whatever it is and however long (written by makers/f17.py). The walk of the reference's Twin of a list of terms. append of one struct to a row that may be as long as memory bears, and where the answer lies (written by makers/f18.py out of Ag and C3). No Go text is named here. The walk of the reference's Twin of a list of terms, however long (written by makers/f20.py out of C22). The walks of rat.Copy of any number, and of package model's copyTerms (written by makers/f15.py out of Q16 and C22). Lists of lists of terms; the walk of package model's Columns (written by makers/f19.py). A drawn region as a flow: operations that make values or new memory (calls, builds, lists that are built) in whatever order, each shown once; behind them those that must come last. No Go text is named here. Blocks that are told whole, and what is written into them. Models by their values; the walks of law07's num and small (written by makers/f21.py). What models are by their values: well formed, crossed, equal, the places of names.
-/
import Derived.Test.YtdbbncamlaiajaaGreatZ9
import Derived.Test.YtdbbncamlaiajaaGreatZ8
import Derived.Test.YtdbbncamlaiajaaGreatZ7
import Derived.BigQuiet
import Derived.Deep.RegionHeld3
import Derived.Test.YtdbbncamlaiajaaGreatZ0
namespace Go.Proofs.YtdbbncamlaiajaaGreat
open Go.RowKit
def Cl0 (w:World) (ao:Option Addr) (k:Nat) (C:Nat→Lc):Prop:=∀j,j<k→∃b o,ao=some ⟨b,o,none⟩∧Cs w b (o+j*12) (C j).vs
def Rl0 (w:World) (ao:Option Addr) (k:Nat) (R:Nat→Lr):Prop:=∀j,j<k→∃b o,ao=some ⟨b,o,none⟩∧Cs w b (o+j*10) (R j).vs∧Tr w (R j).ta (R j).tk (R j).col (R j).T∧(R j).tk≤9223372036854775807
theorem Cl0.below {w w' ao k C} (h:Cl0 w ao k C) (hb:Below w.heap.size w w'):Cl0 w' ao k C:=fun j hj=>by
 obtain ⟨b,o,e,h1⟩:=h j hj;exact ⟨b,o,e,h1.below hb⟩
theorem Rl0.below {w w' ao k R} (h:Rl0 w ao k R) (hb:Below w.heap.size w w'):Rl0 w' ao k R:=fun j hj=>by
 obtain ⟨b,o,e,h1,h2,h3⟩:=h j hj;exact ⟨b,o,e,h1.below hb,h2.below hb,h3⟩
def lgN (K:Nat) (t:Nm):Bool:=lg t.n t.m K
def cl3 (K:Nat) (c:Lc):Bool:=lgN K c.cost && (lgN K c.lo.v && lgN K c.hi.v)
def rl3 (K:Nat) (r:Lr):Bool:=decide (r.tk≤300) && (lgN K r.lo.v && (lgN K r.hi.v && nlg K r.T r.tk 0))
def clgs (K:Nat) (C:Nat→Lc):Nat→Bool
 | 0=>true
 | i+1=>clgs K C i && cl3 K (C i)
def rlgs (K:Nat) (R:Nat→Lr):Nat→Bool
 | 0=>true
 | i+1=>rlgs K R i && rl3 K (R i)
def lgM (K:Nat) (M:Mo):Bool:=(decide (64<M.ck) || decide (64<M.rk)) || (lgN K M.off && (clgs K M.C M.ck && rlgs K M.R M.rk))
set_option maxRecDepth 100000 in
set_option maxHeartbeats 4000000 in
theorem mLight_c {w:World} {M:Mo} {K:Nat} (hC:Cl0 w M.ca M.ck M.C) (hR:Rl0 w M.ra M.rk M.R):Calls Tryz.prog 6 #[M.val,.int .i64 K] w fun r w'=>r=.returned (.bool (lgM K M))∧Below w.heap.size w w':=by
 obtain ⟨⟨s,x,n,c,f,y,m,d,g⟩,ca,ck,cc,C,ra,rk,rc,R⟩:=M;have HC:Hid (Cl0 w ca ck C):=hC;have HRL:Hid (Rl0 w ra rk R):=hR;obtain ⟨v0,hv0⟩:∃z,lgN K ⟨s,x,n,c,f,y,m,d,g⟩=z:=⟨_,rfl⟩;obtain ⟨ans,hans⟩:∃z,lgM K ⟨⟨s,x,n,c,f,y,m,d,g⟩,ca,ck,cc,C,ra,rk,rc,R⟩=z:=⟨_,rfl⟩;rw [hans];have HA:=hid (show ans=((decide (64<ck) || decide (64<rk)) || (v0 && (clgs K C ck && rlgs K R rk))) from by rw [←hans,←hv0];rfl);have C0:Hid (∀w',Calls Tryz.prog 26 #[.agg #[.bool s,.slice x n c,.slice y m d],.int .i64 K] w' fun e w2=>e=.returned (.bool v0)∧Below w'.heap.size w' w2):=fun w'=>hv0 ▸ rLightK_c K s x y n c m d w'
 clear hv0 hans hC hR;show Calls Tryz.prog 6 #[.agg #[.bool s,.slice x n c,.slice y m d,.slice ca ck cc,.slice ra rk rc],.int .i64 K] w _;by_cases h1:64<ck
 ·have HV:Hid (ans=true):=by show _=_;rw [HA.out];simp [h1]
  have e1:(ck:Int) > 64:=by omega
  clear HA h1;go_enter Tryz.func6,Tryz.ntmps6;go_wp2;go_ret;refine ⟨?_,below_alloc (Below.refl _ _) _⟩;rw [HV.out];rfl
 by_cases h2:64<rk
 ·have HV:Hid (ans=true):=by show _=_;rw [HA.out];simp [h2]
  have e1:¬(ck:Int) > 64:=by omega
  have e2:(rk:Int) > 64:=by omega
  clear HA h1 h2;go_enter Tryz.func6,Tryz.ntmps6;go_wp2;go_ret;refine ⟨?_,below_alloc (Below.refl _ _) _⟩;rw [HV.out];rfl
 have HV:Hid (ans=(v0 && (clgs K C ck && rlgs K R rk))):=by show _=_;rw [HA.out];simp [h1,h2]
 have e1:¬(ck:Int) > 64:=by omega
 have e2:¬(rk:Int) > 64:=by omega
 have l1:ck≤64:=by omega
 have l2:rk≤64:=by omega
 clear HA h1 h2;go_enter Tryz.func6,Tryz.ntmps6;go_wp2_with fail
 refine (C0.out _).mono ?_;rintro r w1 ⟨rfl,hb1⟩;have k3:=kCb hb1 (a:=⟨w.heap.size,3,none⟩) (v:=.slice ca ck cc) (by simp [go_sem]);have HK4:=hid (kCb hb1 (a:=⟨w.heap.size,4,none⟩) (v:=.slice ra rk rc) (by simp [go_sem]));have HB1:=hid ((below_alloc (Below.refl w.heap.size w) (.cells #[.bool s,.slice x n c,.slice y m d,.slice ca ck cc,.slice ra rk rc] 28)).trans (hb1.mono (by simp)));clear hb1 C0;go_wp2_with fail
 go_loopw [5,28] (fun ov t wr=>∃(i:Nat) (v:Bool),i≤ck∧t=.int .i64 i∧ov=.bool v∧Hid (Below w1.heap.size w1 wr)∧Hid (v=(v0 && clgs K C i))) (fun _ t _=>ck-(intOf t).toNat)
 case atStart=>exact ⟨0,v0,by omega,rfl,rfl,Below.refl _ _,by show _=_;simp [clgs]⟩
 case round =>
  obtain ⟨i,v,hi,rfl,rfl,HB,HI⟩:=hrel;by_cases hlt:i<ck
  ·obtain ⟨b,o,rfl,hc⟩:=(HC.out.below (HB1.out.trans (HB.out.mono HB1.out.size))) i hlt;obtain ⟨t1,ht1⟩:∃t,lgN K (C i).cost=t:=⟨_,rfl⟩;obtain ⟨t2,ht2⟩:∃t,lgN K (C i).lo.v=t:=⟨_,rfl⟩;obtain ⟨t3,ht3⟩:∃t,lgN K (C i).hi.v=t:=⟨_,rfl⟩;have HT:=hid (show (v0 && clgs K C (i+1))=(v && (t1 && (t2 && t3))) from by
    rw [HI.out,←ht1,←ht2,←ht3];show (v0 && (clgs K C i && cl3 K (C i)))=_;rw [Bool.and_assoc];rfl)
   obtain ⟨⟨z,⟨s0,x0,n0,c0,f0,y0,m0,d0,g0⟩,⟨i1,⟨s1,x1,n1,c1,f1,y1,m1,d1,g1⟩⟩,⟨i2,⟨s2,x2,n2,c2,f2,y2,m2,d2,g2⟩⟩⟩,hCi⟩:∃t,C i=t:=⟨_,rfl⟩;rw [hCi] at hc ht1 ht2 ht3;have C1:Hid (∀w',Calls Tryz.prog 26 #[.agg #[.bool s0,.slice x0 n0 c0,.slice y0 m0 d0],.int .i64 K] w' fun e w2=>e=.returned (.bool t1)∧Below w'.heap.size w' w2):=fun w'=>ht1 ▸ rLightK_c K s0 x0 y0 n0 c0 m0 d0 w'
   have C2:Hid (∀w',Calls Tryz.prog 26 #[.agg #[.bool s1,.slice x1 n1 c1,.slice y1 m1 d1],.int .i64 K] w' fun e w2=>e=.returned (.bool t2)∧Below w'.heap.size w' w2):=fun w'=>ht2 ▸ rLightK_c K s1 x1 y1 n1 c1 m1 d1 w'
   have C3:Hid (∀w',Calls Tryz.prog 26 #[.agg #[.bool s2,.slice x2 n2 c2,.slice y2 m2 d2],.int .i64 K] w' fun e w2=>e=.returned (.bool t3)∧Below w'.heap.size w' w2):=fun w'=>ht3 ▸ rLightK_c K s2 x2 y2 n2 c2 m2 d2 w'
   have q0:wr.cell? ⟨b,o+i*12,none⟩=some (.string z):=hc 0 _ rfl;have q1:wr.cell? ⟨b,o+i*12+1,none⟩=some (.bool s0):=hc 1 _ rfl;have q2:wr.cell? ⟨b,o+i*12+2,none⟩=some (.slice x0 n0 c0):=hc 2 _ rfl;have q3:wr.cell? ⟨b,o+i*12+3,none⟩=some (.slice y0 m0 d0):=hc 3 _ rfl;have q4:wr.cell? ⟨b,o+i*12+4,none⟩=some (.int .i64 i1):=hc 4 _ rfl;have q5:wr.cell? ⟨b,o+i*12+5,none⟩=some (.bool s1):=hc 5 _ rfl;have q6:wr.cell? ⟨b,o+i*12+6,none⟩=some (.slice x1 n1 c1):=hc 6 _ rfl;have q7:wr.cell? ⟨b,o+i*12+7,none⟩=some (.slice y1 m1 d1):=hc 7 _ rfl;have q8:wr.cell? ⟨b,o+i*12+8,none⟩=some (.int .i64 i2):=hc 8 _ rfl;have q9:wr.cell? ⟨b,o+i*12+9,none⟩=some (.bool s2):=hc 9 _ rfl;have q10:wr.cell? ⟨b,o+i*12+10,none⟩=some (.slice x2 n2 c2):=hc 10 _ rfl;have q11:wr.cell? ⟨b,o+i*12+11,none⟩=some (.slice y2 m2 d2):=hc 11 _ rfl;have i1':((i:Nat):Int)<((ck:Nat):Int):=by omega
   have hb5:=below_alloc (Below.refl wr.heap.size wr) (.cells #[.string z,.bool s0,.slice x0 n0 c0,.slice y0 m0 d0,.int .i64 i1,.bool s1,.slice x1 n1 c1,.slice y1 m1 d1,.int .i64 i2,.bool s2,.slice x2 n2 c2,.slice y2 m2 d2] 65);have HB5:=hid (HB.out.trans (hb5.mono HB.out.size));have b1:(wr.alloc (.cells #[.string z,.bool s0,.slice x0 n0 c0,.slice y0 m0 d0,.int .i64 i1,.bool s1,.slice x1 n1 c1,.slice y1 m1 d1,.int .i64 i2,.bool s2,.slice x2 n2 c2,.slice y2 m2 d2] 65)).cell? ⟨wr.heap.size,1,none⟩=some (.bool s0):=by simp [go_sem]
   have b2:(wr.alloc (.cells #[.string z,.bool s0,.slice x0 n0 c0,.slice y0 m0 d0,.int .i64 i1,.bool s1,.slice x1 n1 c1,.slice y1 m1 d1,.int .i64 i2,.bool s2,.slice x2 n2 c2,.slice y2 m2 d2] 65)).cell? ⟨wr.heap.size,2,none⟩=some (.slice x0 n0 c0):=by simp [go_sem]
   have b3:(wr.alloc (.cells #[.string z,.bool s0,.slice x0 n0 c0,.slice y0 m0 d0,.int .i64 i1,.bool s1,.slice x1 n1 c1,.slice y1 m1 d1,.int .i64 i2,.bool s2,.slice x2 n2 c2,.slice y2 m2 d2] 65)).cell? ⟨wr.heap.size,3,none⟩=some (.slice y0 m0 d0):=by simp [go_sem]
   have b5:(wr.alloc (.cells #[.string z,.bool s0,.slice x0 n0 c0,.slice y0 m0 d0,.int .i64 i1,.bool s1,.slice x1 n1 c1,.slice y1 m1 d1,.int .i64 i2,.bool s2,.slice x2 n2 c2,.slice y2 m2 d2] 65)).cell? ⟨wr.heap.size,5,none⟩=some (.bool s1):=by simp [go_sem]
   have b6:(wr.alloc (.cells #[.string z,.bool s0,.slice x0 n0 c0,.slice y0 m0 d0,.int .i64 i1,.bool s1,.slice x1 n1 c1,.slice y1 m1 d1,.int .i64 i2,.bool s2,.slice x2 n2 c2,.slice y2 m2 d2] 65)).cell? ⟨wr.heap.size,6,none⟩=some (.slice x1 n1 c1):=by simp [go_sem]
   have b7:(wr.alloc (.cells #[.string z,.bool s0,.slice x0 n0 c0,.slice y0 m0 d0,.int .i64 i1,.bool s1,.slice x1 n1 c1,.slice y1 m1 d1,.int .i64 i2,.bool s2,.slice x2 n2 c2,.slice y2 m2 d2] 65)).cell? ⟨wr.heap.size,7,none⟩=some (.slice y1 m1 d1):=by simp [go_sem]
   have b9:(wr.alloc (.cells #[.string z,.bool s0,.slice x0 n0 c0,.slice y0 m0 d0,.int .i64 i1,.bool s1,.slice x1 n1 c1,.slice y1 m1 d1,.int .i64 i2,.bool s2,.slice x2 n2 c2,.slice y2 m2 d2] 65)).cell? ⟨wr.heap.size,9,none⟩=some (.bool s2):=by simp [go_sem]
   have b10:(wr.alloc (.cells #[.string z,.bool s0,.slice x0 n0 c0,.slice y0 m0 d0,.int .i64 i1,.bool s1,.slice x1 n1 c1,.slice y1 m1 d1,.int .i64 i2,.bool s2,.slice x2 n2 c2,.slice y2 m2 d2] 65)).cell? ⟨wr.heap.size,10,none⟩=some (.slice x2 n2 c2):=by simp [go_sem]
   have b11:(wr.alloc (.cells #[.string z,.bool s0,.slice x0 n0 c0,.slice y0 m0 d0,.int .i64 i1,.bool s1,.slice x1 n1 c1,.slice y1 m1 d1,.int .i64 i2,.bool s2,.slice x2 n2 c2,.slice y2 m2 d2] 65)).cell? ⟨wr.heap.size,11,none⟩=some (.slice y2 m2 d2):=by simp [go_sem]
   clear hCi ht1 ht2 ht3 hc hb5 HI;go_upto_region 7 with fail
   clear q0 q1 q2 q3 q4 q5 q6 q7 q8 q9 q10 q11 HB;generalize wr.alloc (.cells #[.string z,.bool s0,.slice x0 n0 c0,.slice y0 m0 d0,.int .i64 i1,.bool s1,.slice x1 n1 c1,.slice y1 m1 d1,.int .i64 i2,.bool s2,.slice x2 n2 c2,.slice y2 m2 d2] 65)=w5 at *;cases v
   ·go_wp2;go_roundw
    case rel=>exact ⟨i+1,false,by omega,by go_num,rfl,HB5.out,by show _=_;rw [HT.out];rfl⟩
    case measure=>simp [intOf];omega
   ·go_wp2_with fail
    refine (C1.out _).mono ?_;rintro r w6 ⟨rfl,hb6⟩;replace b5:=kCb hb6 b5;replace b6:=kCb hb6 b6;replace b7:=kCb hb6 b7;replace b9:=kCb hb6 b9;replace b10:=kCb hb6 b10;replace b11:=kCb hb6 b11;have HB6:=hid (HB5.out.trans (hb6.mono HB5.out.size));clear hb6 C1 HB5;cases t1
    ·go_wp2;go_roundw
     case rel=>exact ⟨i+1,false,by omega,by go_num,rfl,HB6.out,by show _=_;rw [HT.out];rfl⟩
     case measure=>simp [intOf];omega
    go_wp2_with fail
    refine (C2.out _).mono ?_;rintro r w7 ⟨rfl,hb7⟩;replace b9:=kCb hb7 b9;replace b10:=kCb hb7 b10;replace b11:=kCb hb7 b11;have HB7:=hid (HB6.out.trans (hb7.mono HB6.out.size));clear hb7 C2 HB6;cases t2
    ·go_wp2;go_roundw
     case rel=>exact ⟨i+1,false,by omega,by go_num,rfl,HB7.out,by show _=_;rw [HT.out];rfl⟩
     case measure=>simp [intOf];omega
    go_wp2_with fail
    refine (C3.out _).mono ?_;rintro r w8 ⟨rfl,hb8⟩;have HB8:=hid (HB7.out.trans (hb8.mono HB7.out.size));clear hb8 C3 HB7;cases t3
    ·go_wp2;go_roundw
     case rel=>exact ⟨i+1,false,by omega,by go_num,rfl,HB8.out,by show _=_;rw [HT.out];rfl⟩
     case measure=>simp [intOf];omega
    go_wp2;go_roundw
    case rel=>exact ⟨i+1,true,by omega,by go_num,rfl,HB8.out,by show _=_;rw [HT.out];rfl⟩
    case measure=>simp [intOf];omega
  ·have e3:i=ck:=by omega
   have i2:¬(((i:Nat):Int)<((ck:Nat):Int)):=by omega
   have HV1:=hid (show ans=(v && rlgs K R rk) from by rw [HV.out,HI.out,e3,Bool.and_assoc]);have k4:=kCb HB.out HK4.out;have HB5:=hid (HB1.out.trans (HB.out.mono HB1.out.size));clear e3 HB HC HK4 HB1 k3 HI HV;generalize wr=wa at *;go_wp2_with fail
   go_loopw [5,57] (fun ov t wr=>∃(i:Nat) (u:Bool),i≤rk∧t=.int .i64 i∧ov=.bool u∧Hid (Below wa.heap.size wa wr)∧Hid (u=(v && rlgs K R i))) (fun _ t _=>rk-(intOf t).toNat)
   case atStart=>exact ⟨0,v,by omega,rfl,rfl,Below.refl _ _,by show _=_;simp [rlgs]⟩
   case round =>
    obtain ⟨i,u,hi,rfl,rfl,HB,HI⟩:=hrel;by_cases hlt:i<rk
    ·obtain ⟨b,o,rfl,hc,hTr,htk⟩:=(HRL.out.below (HB5.out.trans (HB.out.mono HB5.out.size))) i hlt;obtain ⟨t2,ht2⟩:∃t,lgN K (R i).lo.v=t:=⟨_,rfl⟩;obtain ⟨t3,ht3⟩:∃t,lgN K (R i).hi.v=t:=⟨_,rfl⟩;have hT:(v && rlgs K R (i+1))=(u && (decide ((R i).tk≤300) && (t2 && (t3 && nlg K (R i).T (R i).tk 0)))):=by
      rw [HI.out,←ht2,←ht3];show (v && (rlgs K R i && rl3 K (R i)))=_;rw [Bool.and_assoc];rfl
     obtain ⟨⟨z,⟨i1,⟨s1,x1,n1,c1,f1,y1,m1,d1,g1⟩⟩,⟨i2,⟨s2,x2,n2,c2,f2,y2,m2,d2,g2⟩⟩,ta,tk,tc,tcol,tt⟩,hCi⟩:∃t,R i=t:=⟨_,rfl⟩;rw [hCi] at hc ht2 ht3 hTr htk hT;have HT:Hid ((v && rlgs K R (i+1))=(u && (decide (tk≤300) && (t2 && (t3 && nlg K tt tk 0))))):=hT;replace htk:tk≤9223372036854775807:=htk;have C2:Hid (∀w',Calls Tryz.prog 26 #[.agg #[.bool s1,.slice x1 n1 c1,.slice y1 m1 d1],.int .i64 K] w' fun e w2=>e=.returned (.bool t2)∧Below w'.heap.size w' w2):=fun w'=>ht2 ▸ rLightK_c K s1 x1 y1 n1 c1 m1 d1 w'
     have C3:Hid (∀w',Calls Tryz.prog 26 #[.agg #[.bool s2,.slice x2 n2 c2,.slice y2 m2 d2],.int .i64 K] w' fun e w2=>e=.returned (.bool t3)∧Below w'.heap.size w' w2):=fun w'=>ht3 ▸ rLightK_c K s2 x2 y2 n2 c2 m2 d2 w'
     have q0:wr.cell? ⟨b,o+i*10,none⟩=some (.string z):=hc 0 _ rfl;have q1:wr.cell? ⟨b,o+i*10+1,none⟩=some (.int .i64 i1):=hc 1 _ rfl;have q2:wr.cell? ⟨b,o+i*10+2,none⟩=some (.bool s1):=hc 2 _ rfl;have q3:wr.cell? ⟨b,o+i*10+3,none⟩=some (.slice x1 n1 c1):=hc 3 _ rfl;have q4:wr.cell? ⟨b,o+i*10+4,none⟩=some (.slice y1 m1 d1):=hc 4 _ rfl;have q5:wr.cell? ⟨b,o+i*10+5,none⟩=some (.int .i64 i2):=hc 5 _ rfl;have q6:wr.cell? ⟨b,o+i*10+6,none⟩=some (.bool s2):=hc 6 _ rfl;have q7:wr.cell? ⟨b,o+i*10+7,none⟩=some (.slice x2 n2 c2):=hc 7 _ rfl;have q8:wr.cell? ⟨b,o+i*10+8,none⟩=some (.slice y2 m2 d2):=hc 8 _ rfl;have q9:wr.cell? ⟨b,o+i*10+9,none⟩=some (.slice ta tk tc):=hc 9 _ rfl;have i1':((i:Nat):Int)<((rk:Nat):Int):=by omega
     have hb5:=below_alloc (Below.refl wr.heap.size wr) (.cells #[.string z,.int .i64 i1,.bool s1,.slice x1 n1 c1,.slice y1 m1 d1,.int .i64 i2,.bool s2,.slice x2 n2 c2,.slice y2 m2 d2,.slice ta tk tc] 68);have HB6:=hid (HB.out.trans (hb5.mono HB.out.size));have HTr:Hid (Tr (wr.alloc (.cells #[.string z,.int .i64 i1,.bool s1,.slice x1 n1 c1,.slice y1 m1 d1,.int .i64 i2,.bool s2,.slice x2 n2 c2,.slice y2 m2 d2,.slice ta tk tc] 68)) ta tk tcol tt):=Tr.below hTr hb5;have b2:(wr.alloc (.cells #[.string z,.int .i64 i1,.bool s1,.slice x1 n1 c1,.slice y1 m1 d1,.int .i64 i2,.bool s2,.slice x2 n2 c2,.slice y2 m2 d2,.slice ta tk tc] 68)).cell? ⟨wr.heap.size,2,none⟩=some (.bool s1):=by simp [go_sem]
     have b3:(wr.alloc (.cells #[.string z,.int .i64 i1,.bool s1,.slice x1 n1 c1,.slice y1 m1 d1,.int .i64 i2,.bool s2,.slice x2 n2 c2,.slice y2 m2 d2,.slice ta tk tc] 68)).cell? ⟨wr.heap.size,3,none⟩=some (.slice x1 n1 c1):=by simp [go_sem]
     have b4:(wr.alloc (.cells #[.string z,.int .i64 i1,.bool s1,.slice x1 n1 c1,.slice y1 m1 d1,.int .i64 i2,.bool s2,.slice x2 n2 c2,.slice y2 m2 d2,.slice ta tk tc] 68)).cell? ⟨wr.heap.size,4,none⟩=some (.slice y1 m1 d1):=by simp [go_sem]
     have b6:(wr.alloc (.cells #[.string z,.int .i64 i1,.bool s1,.slice x1 n1 c1,.slice y1 m1 d1,.int .i64 i2,.bool s2,.slice x2 n2 c2,.slice y2 m2 d2,.slice ta tk tc] 68)).cell? ⟨wr.heap.size,6,none⟩=some (.bool s2):=by simp [go_sem]
     have b7:(wr.alloc (.cells #[.string z,.int .i64 i1,.bool s1,.slice x1 n1 c1,.slice y1 m1 d1,.int .i64 i2,.bool s2,.slice x2 n2 c2,.slice y2 m2 d2,.slice ta tk tc] 68)).cell? ⟨wr.heap.size,7,none⟩=some (.slice x2 n2 c2):=by simp [go_sem]
     have b8:(wr.alloc (.cells #[.string z,.int .i64 i1,.bool s1,.slice x1 n1 c1,.slice y1 m1 d1,.int .i64 i2,.bool s2,.slice x2 n2 c2,.slice y2 m2 d2,.slice ta tk tc] 68)).cell? ⟨wr.heap.size,8,none⟩=some (.slice y2 m2 d2):=by simp [go_sem]
     have b9:(wr.alloc (.cells #[.string z,.int .i64 i1,.bool s1,.slice x1 n1 c1,.slice y1 m1 d1,.int .i64 i2,.bool s2,.slice x2 n2 c2,.slice y2 m2 d2,.slice ta tk tc] 68)).cell? ⟨wr.heap.size,9,none⟩=some (.slice ta tk tc):=by simp [go_sem]
     clear hCi ht2 ht3 hc hb5 HI hTr hT;go_upto_region 12 with fail
     clear q0 q1 q2 q3 q4 q5 q6 q7 q8 q9 HB;generalize wr.alloc (.cells #[.string z,.int .i64 i1,.bool s1,.slice x1 n1 c1,.slice y1 m1 d1,.int .i64 i2,.bool s2,.slice x2 n2 c2,.slice y2 m2 d2,.slice ta tk tc] 68)=w5 at *;cases u
     ·go_wp2_with fail
      go_loopw [5,10] (fun ov t wz=>t=.int .i64 0∧ov=.bool false∧wz=w5) (fun _ _ _=>0)
      case atStart=>exact ⟨rfl,rfl,rfl⟩
      case round =>
       obtain ⟨rfl,rfl,rfl⟩:=hrel;go_wp2;go_roundw
       case rel=>exact ⟨i+1,false,by omega,by go_num,rfl,HB6.out,by show _=_;rw [HT.out];simp⟩
       case measure=>simp [intOf];omega
     by_cases hd:tk≤300
     case neg =>
      have d1:decide ((tk:Int)≤300)=false:=by simp;omega
      have HD:=hid (show decide (tk≤300)=false from by simp;omega);clear hd;rw [HD.out] at HT;go_wp2_with fail
      go_loopw [5,10] (fun ov t wz=>t=.int .i64 0∧ov=.bool false∧wz=w5) (fun _ _ _=>0)
      case atStart=>exact ⟨rfl,rfl,rfl⟩
      case round =>
       obtain ⟨rfl,rfl,rfl⟩:=hrel;go_wp2;go_roundw
       case rel=>exact ⟨i+1,false,by omega,by go_num,rfl,HB6.out,by show _=_;rw [HT.out];simp⟩
       case measure=>simp [intOf];omega
     have d1:decide ((tk:Int)≤300)=true:=by simp;omega
     have HD:=hid (show decide (tk≤300)=true from by simp;omega);rw [HD.out] at HT;go_wp2_with fail
     refine (C2.out _).mono ?_;rintro r w7 ⟨rfl,hb7⟩;replace b6:=kCb hb7 b6;replace b7:=kCb hb7 b7;replace b8:=kCb hb7 b8;replace b9:=kCb hb7 b9
     have HB7:=hid (HB6.out.trans (hb7.mono HB6.out.size));replace HTr:=hid (HTr.out.below hb7);clear hb7 C2 HB6;cases t2
     ·go_wp2_with fail
      go_loopw [5,10] (fun ov t wz=>t=.int .i64 0∧ov=.bool false∧wz=w7) (fun _ _ _=>0)
      case atStart=>exact ⟨rfl,rfl,rfl⟩
      case round =>
       obtain ⟨rfl,rfl,rfl⟩:=hrel;go_wp2;go_roundw
       case rel=>exact ⟨i+1,false,by omega,by go_num,rfl,HB7.out,by show _=_;rw [HT.out];simp⟩
       case measure=>simp [intOf];omega
     go_wp2_with fail
     refine (C3.out _).mono ?_;rintro r w8 ⟨rfl,hb8⟩;replace b9:=kCb hb8 b9;have HB8:=hid (HB7.out.trans (hb8.mono HB7.out.size));replace HTr:=hid (HTr.out.below hb8);clear hb8 C3 HB7 b6 b7 b8 b2 b3 b4;cases t3
     ·go_wp2_with fail
      go_loopw [5,10] (fun ov t wz=>t=.int .i64 0∧ov=.bool false∧wz=w8) (fun _ _ _=>0)
      case atStart=>exact ⟨rfl,rfl,rfl⟩
      case round =>
       obtain ⟨rfl,rfl,rfl⟩:=hrel;go_wp2;go_roundw
       case rel=>exact ⟨i+1,false,by omega,by go_num,rfl,HB8.out,by show _=_;rw [HT.out];simp⟩
       case measure=>simp [intOf];omega
     go_wp2_with fail
     go_loopw [5,10] (fun ov t wz=>∃(k:Nat) (vv:Bool),k≤tk∧t=.int .i64 k∧ov=.bool vv∧Hid (Below w8.heap.size w8 wz)∧Hid ((vv && nlg K tt (tk-k) k)=nlg K tt tk 0)) (fun _ t _=>tk-(intOf t).toNat)
     case atStart=>exact ⟨0,true,by omega,rfl,rfl,Below.refl _ _,by show _=_;simp⟩
     case round =>
      rename_i wz0 _ _ _ _ _;obtain ⟨k,vv,hk,rfl,rfl,HBz,HK⟩:=hrel;have b9z:=kCb HBz.out b9;have HBo:=hid (HB8.out.trans (HBz.out.mono HB8.out.size));cases vv
      ·have HU:=hid (show nlg K tt tk 0=false from by rw [←HK.out];rfl);clear HK HBz;go_wp2;go_roundw
       case rel=>exact ⟨i+1,false,by omega,by go_num,rfl,HBo.out,by show _=_;rw [HT.out,HU.out];simp⟩
       case measure=>simp [intOf];omega
      ·by_cases hkt:k<tk
       ·obtain ⟨tb,tq,hta,⟨_,g1',g2',g3'⟩,_⟩:=(HTr.out.below HBz.out) k hkt;obtain ⟨⟨sn,xn,nn,cn,fn,yn,mn,dn',gn⟩,hTk⟩:∃t,tt k=t:=⟨_,rfl⟩;obtain ⟨t5,ht5⟩:∃t,lg (tt k).n (tt k).m K=t:=⟨_,rfl⟩;obtain ⟨r,hr⟩:∃r,tk-k=r+1:=⟨tk-k-1,by omega⟩;have HN:=hid (show (t5 && nlg K tt (tk-(k+1)) (k+1))=nlg K tt tk 0 from by
         rw [←HK.out,hr,show tk-(k+1)=r by omega,←ht5];rfl)
        rw [hTk] at g1' g2' g3' ht5;subst hta;have C5:Hid (∀w',Calls Tryz.prog 26 #[.agg #[.bool sn,.slice xn nn cn,.slice yn mn dn'],.int .i64 K] w' fun e w2=>e=.returned (.bool t5)∧Below w'.heap.size w' w2):=fun w'=>ht5 ▸ rLightK_c K sn xn yn nn cn mn dn' w'
        have i5:((k:Nat):Int)<((tk:Nat):Int):=by omega
        clear hTk ht5 hr HK;go_wp2_with fail
        refine (C5.out _).mono ?_;rintro r w9 ⟨rfl,hb9⟩;have HB9:=hid (HBz.out.trans (hb9.mono HBz.out.size));clear hb9 HBz C5 HBo;go_wp2;go_roundw
        case rel=>exact ⟨k+1,t5,by omega,by go_num,rfl,HB9.out,HN.out⟩
        case measure=>simp [intOf];omega
       ·have e5:k=tk:=by omega
        have HU:=hid (show nlg K tt tk 0=true from by rw [←HK.out,e5,Nat.sub_self];rfl);have i5:¬(((k:Nat):Int)<((tk:Nat):Int)):=by omega
        clear HK HBz e5;go_wp2;go_roundw
        case rel=>exact ⟨i+1,true,by omega,by go_num,rfl,HBo.out,by show _=_;rw [HT.out,HU.out];simp⟩
        case measure=>simp [intOf];omega
    ·have e3:i=rk:=by omega
     have i2:¬(((i:Nat):Int)<((rk:Nat):Int)):=by omega
     have HV2:=hid (show ans=u from by rw [HV1.out,HI.out,e3]);have HB6:=hid (HB5.out.trans (HB.out.mono HB5.out.size));clear e3 HB HI;go_wp2;go_ret;refine ⟨?_,HB6.out⟩;rw [HV2.out];rfl
def Sn (t t':Nm):Prop:=t'.s=t.s∧t'.n=t.n∧t'.f=t.f∧t'.m=t.m∧t'.g=t.g
theorem Sn.nfB {t t':Nm} (h:Sn t t'):nfB t'=nfB t:=by
 obtain ⟨h1,h2,h3,h4,h5⟩:=h;unfold Go.Proofs.YtdbbncamlaiajaaGreat.nfB;rw [h1,h2,h3,h4,h5]
theorem tfr_sn {col:Nat→Int} {T T':Nat→Nm}:∀{r i:Nat} {last:Int},(∀j,i≤j→j<i+r→Sn (T j) (T' j))→tfr col T' r i last=tfr col T r i last:=by
 intro r
 induction r with
 | zero=>intro i last _;rfl
 | succ r ih =>
  intro i last h;have h0:=h i (by omega) (by omega);simp only [tfr];rw [ih (fun j a b=>h j (by omega) (by omega)),h0.nfB,h0.2.1]
theorem Rn.sn {L:Nat} {w w':World} {t t':Nm} {q:Rat} (h:Rn L w t.s t.x t.n t.c t.f t.y t.m t.d t.g q) (hs:Sn t t') (hr:Rw w' t'.x t'.n t'.c t'.f t'.y t'.m t'.d t'.g):Rn L w' t'.s t'.x t'.n t'.c t'.f t'.y t'.m t'.d t'.g q:=by
 obtain ⟨s,x,n,c,f,y,m,d,g⟩:=t;obtain ⟨s',x',n',c',f',y',m',d',g'⟩:=t';obtain ⟨rfl,rfl,rfl,rfl,rfl⟩:=hs;exact ⟨⟨hr.rx,hr.lx,h.num.wf,hr.cx,hr.nx,h.num.val⟩,⟨hr.ry,hr.ly,h.den.wf,hr.cy,hr.ny,h.den.val⟩,h.ln,h.ld⟩
theorem step_append_W {P:Program} (w:World) {ops:Array Oper} {o:Oper} {a:Act} {K:Act→World→Prop} {Q:Exit→Act→World→Prop} {E:Prop} (hgd:o.guard=none) (s x:Operand) (t:TypeId)
  (ho:o.op=.call { callee:=.builtin .append,args:=#[s,x],argTypes:=#[t,t] })
  (base:Nat) (e:TypeId) (i:TypeInfo) (z:Value) (size bytes:Nat) (ht:P.underlying t=some (.slice e)) (hi:P.info? e=some i) (hz:i.zero=some z)
  (hsize:i.size=size) (hby:i.bytes=bytes) (hzs:z.cells.size=size) (hsz:0<size) (hzu:NoU z.cells)
  (v:Value) (n:Nat) (xs:List Value) (hs:a.eval s=v) (hown:RowG e size base w v n xs)
  (ad:Addr) (m c:Nat) (news:List Value) (hx:a.eval x=.slice (some ad) m c) (hl:news.length=m*size) (hnews:∀j u,news[j]?=some u→w.cell? (ad.add j)=some u) (h1:∀u ∈ news,u.oneCell'=true) (hnu:∀u ∈ news,∀z,u≠.int .u64 z)
  (hm0:0<m) (h63:n+m≤maxLen) (hbytes:(n+m)*bytes≤140737488355328) (hbase:base≤w.heap.size)
  (hK:∀g cap' w',RowG e size base w' (.slice (some ⟨g,0,none⟩) (n+m) cap') (n+m) (xs++news)→w.grownBy w' v.ownBlock→Kp w w'→(v.ownBlock=some g∨w.heap.size≤g)→K (a.put o.dst (.slice (some ⟨g,0,none⟩) (n+m) cap')) w'):if Region.wanted o (yielded ops a.tmps)=true then Oper.wp P o a w K Q else E:=by
 subst hsize;subst hby
 obtain ⟨v',w',hrun,h1',h2',h3'⟩:=run_append_own (P:=P) w base t o.type e i z i.size i.bytes ht hi hz rfl rfl hzs hsz v n xs hown.owns ad m c news hl hnews h1 h63 hbytes hbase;have hlen:(xs++news).length=(n+m)*i.size:=by rw [List.length_append,hown.1,hl,Nat.add_mul]
 have hzc:∀k,NoU (Builtin.zeroCells z.cells k):=by
  intro k j y hj;simp only [Builtin.zeroCells] at hj;have hm:=Array.mem_of_getElem? hj;obtain ⟨q,_,he⟩:=Array.mem_map.1 hm;have hlt:q%z.cells.size<z.cells.size:=Nat.mod_lt _ (by omega);rw [getElem!_pos z.cells (q%z.cells.size) hlt] at he;exact hzu (q%z.cells.size) y (by rw [Array.getElem?_eq_getElem hlt,he])
 have hnu':NoU news.toArray:=nou_list hnu;have hw:∃g cap' cur',v'=.slice (some ⟨g,0,none⟩) (n+m) cap'∧base≤g∧w'.heap[g]?=some (.cells cur' e (0,0))∧n+m≤cap'∧cap'≤maxLen∧cur'.size=cap'*i.size∧cur'.toList.take ((n+m)*i.size)=xs++news∧NoU cur'∧Kp w w'∧(v.ownBlock=some g∨w.heap.size≤g):=by
  have hsm:n+m≤9223372036854775807:=by unfold maxLen at h63;omega
  rcases h1'.2 with ⟨hv0,hn0⟩ | ⟨g',cap',cur',hv',hb',hg',hn',hc',hs',ht'⟩
  ·omega
  ·refine ⟨g',cap',cur',hv',hb',hg',hn',hc',hs',ht',?_⟩;rcases hown.2 with ⟨rfl,rfl⟩ | ⟨g,cap,cur,rfl,hbg,hg,hnc,hcm,hcs,htake,hnuc⟩
   ·have hx0:xs=[]:=List.eq_nil_of_length_eq_zero (by simpa using hown.1);subst hx0;have e1:=run_append_nil (P:=P) w t o.type e i z ht hi hz ad m c news hl hnews hm0 (by omega) (by rw [Nat.zero_add] at hbytes;omega);rw [e1] at hrun;injection hrun with e2 e3;subst e3;rw [hv'] at e2;injection e2 with e4;injection e4 with e5;injection e5 with e6;subst e6;have e7:=heap_alloc_new w.drew (.cells (news.toArray++Builtin.zeroCells z.cells (grownCap w m 0 e-m)) e);rw [show w.heap.size=w.drew.heap.size from rfl,e7] at hg';injection hg' with e8;injection e8 with e9;rw [←e9];exact ⟨nou_append hnu' (hzc _),(Kp.refl w).drew.alloc _,.inr (Nat.le_refl _)⟩
   ·by_cases hroom:n+m≤cap
    ·have e1:=run_append_room (P:=P) w t o.type e i ht hi g n cap cur hg ad m c news hl hnews h1 hroom (by rw [hl,hcs,←Nat.add_mul];exact Nat.mul_le_mul_right _ hroom);rw [e1] at hrun;injection hrun with e2 e3;rw [hv'] at e2;injection e2 with e4;injection e4 with e5;injection e5 with e6;subst e6;have e7:w'.heap[g]?=some (.cells (cur.toList.take (n*i.size)++news++cur.toList.drop (n*i.size+news.length)).toArray e (0,0)):=by rw [←e3];exact setRow_heap w g cur _ e _ hg
     rw [e7] at hg';injection hg' with e8;injection e8 with e9;rw [←e9];refine ⟨nou_list ?_,⟨h2'.os,h2'.tape,h2'.output,h2'.size,fun k hk=>?_⟩,.inl rfl⟩
     ·intro u hu;rcases List.mem_append.1 hu with hu | hu
      ·rcases List.mem_append.1 hu with hu | hu
       ·exact nou_mem hnuc u (List.mem_of_mem_take hu)
       ·exact hnu u hu
      ·exact nou_mem hnuc u (List.mem_of_mem_drop hu)
     ·by_cases hkg:k=g
      ·subst hkg;exact .inr ⟨cur,e,(0,0),hg,hnuc⟩
      ·exact .inl (h2'.block k hk (fun e=>hkg (by simpa [Value.ownBlock] using e)))
    ·have holds:∀j u,xs[j]?=some u→w.cell? ((⟨g,0,none⟩:Addr).add j)=some u:=World.ownsRow.cells hown.owns (g:=g) rfl;have e1:=run_append_grow (P:=P) w t o.type e i z ht hi hz ⟨g,0,none⟩ n cap xs hown.1 holds ad m c news hl hnews (by omega) (by omega) (growslice_fits (by omega) hbytes);rw [e1] at hrun;injection hrun with e2 e3;subst e3;rw [hv'] at e2;injection e2 with e4;injection e4 with e5;injection e5 with e6;subst e6;have e7:=heap_alloc_new w.drew (.cells (xs.toArray++news.toArray++Builtin.zeroCells z.cells (grownCap w (n+m) cap e-(n+m))) e);rw [show w.heap.size=w.drew.heap.size from rfl,e7] at hg';injection hg' with e8;injection e8 with e9;rw [←e9];refine ⟨nou_append (nou_append (nou_list ?_) hnu') (hzc _),(Kp.refl w).drew.alloc _,.inr (Nat.le_refl _)⟩;intro u hu;rw [←htake] at hu;exact nou_mem hnuc u (List.mem_of_mem_take hu)
 obtain ⟨g,cap',cur',rfl,a1,a2,a3,a4,a5,a6,a7,a8,a9⟩:=hw;have hwt:Region.wanted o (yielded ops a.tmps)=true:=by simp [Region.wanted,hgd]
 rw [if_pos hwt];unfold Oper.wp execOp;simp only [ho,resolve,invoke,builtin,Sem.run_bind,Sem.run_pure,Result.andThen_ok,List.map_toArray,List.map_cons,List.map_nil,hs,hx,hrun];exact hK g cap' w' ⟨hlen,.inr ⟨g,cap',cur',rfl,a1,a2,a3,a4,a5,a6,a7⟩⟩ h2' a8 a9
theorem wpList_append_W {P:Program} (w:World) {ops:Array Oper} {rest:List Oper} {o:Oper} {a:Act} {Q:Exit→Act→World→Prop} (hgd:o.guard=none) (s x:Operand) (t:TypeId)
  (ho:o.op=.call { callee:=.builtin .append,args:=#[s,x],argTypes:=#[t,t] })
  (base:Nat) (e:TypeId) (i:TypeInfo) (z:Value) (size bytes:Nat) (ht:P.underlying t=some (.slice e)) (hi:P.info? e=some i) (hz:i.zero=some z)
  (hsize:i.size=size) (hby:i.bytes=bytes) (hzs:z.cells.size=size) (hsz:0<size) (hzu:NoU z.cells)
  (v:Value) (n:Nat) (xs:List Value) (hs:a.eval s=v) (hown:RowG e size base w v n xs)
  (ad:Addr) (m c:Nat) (news:List Value) (hx:a.eval x=.slice (some ad) m c) (hl:news.length=m*size) (hnews:∀j u,news[j]?=some u→w.cell? (ad.add j)=some u) (h1:∀u ∈ news,u.oneCell'=true) (hnu:∀u ∈ news,∀z,u≠.int .u64 z)
  (hm0:0<m) (h63:n+m≤maxLen) (hbytes:(n+m)*bytes≤140737488355328) (hbase:base≤w.heap.size)
  (hK:∀g cap' w',RowG e size base w' (.slice (some ⟨g,0,none⟩) (n+m) cap') (n+m) (xs++news)→w.grownBy w' v.ownBlock→Kp w w'→(v.ownBlock=some g∨w.heap.size≤g)→wpList P ops Q rest (a.put o.dst (.slice (some ⟨g,0,none⟩) (n+m) cap')) w'):wpList P ops Q (o :: rest) a w:=by
 subst hsize;subst hby
 obtain ⟨v',w',hrun,h1',h2',h3'⟩:=run_append_own (P:=P) w base t o.type e i z i.size i.bytes ht hi hz rfl rfl hzs hsz v n xs hown.owns ad m c news hl hnews h1 h63 hbytes hbase;have hlen:(xs++news).length=(n+m)*i.size:=by rw [List.length_append,hown.1,hl,Nat.add_mul]
 have hzc:∀k,NoU (Builtin.zeroCells z.cells k):=by
  intro k j y hj;simp only [Builtin.zeroCells] at hj;have hm:=Array.mem_of_getElem? hj;obtain ⟨q,_,he⟩:=Array.mem_map.1 hm;have hlt:q%z.cells.size<z.cells.size:=Nat.mod_lt _ (by omega);rw [getElem!_pos z.cells (q%z.cells.size) hlt] at he;exact hzu (q%z.cells.size) y (by rw [Array.getElem?_eq_getElem hlt,he])
 have hnu':NoU news.toArray:=nou_list hnu;have hw:∃g cap' cur',v'=.slice (some ⟨g,0,none⟩) (n+m) cap'∧base≤g∧w'.heap[g]?=some (.cells cur' e (0,0))∧n+m≤cap'∧cap'≤maxLen∧cur'.size=cap'*i.size∧cur'.toList.take ((n+m)*i.size)=xs++news∧NoU cur'∧Kp w w'∧(v.ownBlock=some g∨w.heap.size≤g):=by
  have hsm:n+m≤9223372036854775807:=by unfold maxLen at h63;omega
  rcases h1'.2 with ⟨hv0,hn0⟩ | ⟨g',cap',cur',hv',hb',hg',hn',hc',hs',ht'⟩
  ·omega
  ·refine ⟨g',cap',cur',hv',hb',hg',hn',hc',hs',ht',?_⟩;rcases hown.2 with ⟨rfl,rfl⟩ | ⟨g,cap,cur,rfl,hbg,hg,hnc,hcm,hcs,htake,hnuc⟩
   ·have hx0:xs=[]:=List.eq_nil_of_length_eq_zero (by simpa using hown.1);subst hx0;have e1:=run_append_nil (P:=P) w t o.type e i z ht hi hz ad m c news hl hnews hm0 (by omega) (by rw [Nat.zero_add] at hbytes;omega);rw [e1] at hrun;injection hrun with e2 e3;subst e3;rw [hv'] at e2;injection e2 with e4;injection e4 with e5;injection e5 with e6;subst e6;have e7:=heap_alloc_new w.drew (.cells (news.toArray++Builtin.zeroCells z.cells (grownCap w m 0 e-m)) e);rw [show w.heap.size=w.drew.heap.size from rfl,e7] at hg';injection hg' with e8;injection e8 with e9;rw [←e9];exact ⟨nou_append hnu' (hzc _),(Kp.refl w).drew.alloc _,.inr (Nat.le_refl _)⟩
   ·by_cases hroom:n+m≤cap
    ·have e1:=run_append_room (P:=P) w t o.type e i ht hi g n cap cur hg ad m c news hl hnews h1 hroom (by rw [hl,hcs,←Nat.add_mul];exact Nat.mul_le_mul_right _ hroom);rw [e1] at hrun;injection hrun with e2 e3;rw [hv'] at e2;injection e2 with e4;injection e4 with e5;injection e5 with e6;subst e6;have e7:w'.heap[g]?=some (.cells (cur.toList.take (n*i.size)++news++cur.toList.drop (n*i.size+news.length)).toArray e (0,0)):=by rw [←e3];exact setRow_heap w g cur _ e _ hg
     rw [e7] at hg';injection hg' with e8;injection e8 with e9;rw [←e9];refine ⟨nou_list ?_,⟨h2'.os,h2'.tape,h2'.output,h2'.size,fun k hk=>?_⟩,.inl rfl⟩
     ·intro u hu;rcases List.mem_append.1 hu with hu | hu
      ·rcases List.mem_append.1 hu with hu | hu
       ·exact nou_mem hnuc u (List.mem_of_mem_take hu)
       ·exact hnu u hu
      ·exact nou_mem hnuc u (List.mem_of_mem_drop hu)
     ·by_cases hkg:k=g
      ·subst hkg;exact .inr ⟨cur,e,(0,0),hg,hnuc⟩
      ·exact .inl (h2'.block k hk (fun e=>hkg (by simpa [Value.ownBlock] using e)))
    ·have holds:∀j u,xs[j]?=some u→w.cell? ((⟨g,0,none⟩:Addr).add j)=some u:=World.ownsRow.cells hown.owns (g:=g) rfl;have e1:=run_append_grow (P:=P) w t o.type e i z ht hi hz ⟨g,0,none⟩ n cap xs hown.1 holds ad m c news hl hnews (by omega) (by omega) (growslice_fits (by omega) hbytes);rw [e1] at hrun;injection hrun with e2 e3;subst e3;rw [hv'] at e2;injection e2 with e4;injection e4 with e5;injection e5 with e6;subst e6;have e7:=heap_alloc_new w.drew (.cells (xs.toArray++news.toArray++Builtin.zeroCells z.cells (grownCap w (n+m) cap e-(n+m))) e);rw [show w.heap.size=w.drew.heap.size from rfl,e7] at hg';injection hg' with e8;injection e8 with e9;rw [←e9];refine ⟨nou_append (nou_append (nou_list ?_) hnu') (hzc _),(Kp.refl w).drew.alloc _,.inr (Nat.le_refl _)⟩;intro u hu;rw [←htake] at hu;exact nou_mem hnuc u (List.mem_of_mem_take hu)
 obtain ⟨g,cap',cur',rfl,a1,a2,a3,a4,a5,a6,a7,a8,a9⟩:=hw;refine wpList_plain hgd fun _ hK'=>?_
 unfold Oper.wp execOp;simp only [ho,resolve,invoke,builtin,Sem.run_bind,Sem.run_pure,Result.andThen_ok,List.map_toArray,List.map_cons,List.map_nil,hs,hx,hrun];exact hK' _ _ (hK g cap' w' ⟨hlen,.inr ⟨g,cap',cur',rfl,a1,a2,a3,a4,a5,a6,a7⟩⟩ h2' a8 a9)
theorem step_append_oneW {P:Program} (w0:World) {ops:Array Oper} {o:Oper} {a:Act} {K:Act→World→Prop} {Q:Exit→Act→World→Prop} {E:Prop} (hgd:o.guard=none) (s x:Operand) (t:TypeId)
  (ho:o.op=.call { callee:=.builtin .append,args:=#[s,x],argTypes:=#[t,t] })
  (base:Nat) (e:TypeId) (bytes sz:Nat) (z:Value) (ht:P.underlying t=some (.slice e)) (hi:(P.info? e).map (fun i=>(i.zero,i.size,i.bytes))=some (some z,sz,bytes)) (hzs:z.cells.size=sz) (hsz:0<sz) (hzu:NoU z.cells)
  (v:Value) (n:Nat) (xs:List Value) (hs:a.eval s=v) (hown:RowG e sz base w0 v n xs) (c:Array Value) (hx:a.eval x=.slice (some ⟨w0.heap.size,0,none⟩) 1 1) (hc:c.size=sz) (h1:∀u ∈ c.toList,u.oneCell'=true) (hnu:∀u ∈ c.toList,∀q,u≠.int .u64 q) (hn:n+1≤9223372036854775807) (hby:(n+1)*bytes≤140737488355328) (hbase:base≤w0.heap.size)
  (hK:∀g cap' w',RowG e sz base w' (.slice (some ⟨g,0,none⟩) (n+1) cap') (n+1) (xs++c.toList)→Kp w0 w'→(∀b0:World,Below b0.heap.size b0 w0→b0.heap.size≤base→Below b0.heap.size b0 w')→(∀k,k<w0.heap.size→v.ownBlock≠some k→w'.heap[k]?=w0.heap[k]?)→(v.ownBlock=some g∨w0.heap.size≤g)→K (a.put o.dst (.slice (some ⟨g,0,none⟩) (n+1) cap')) w'):if Region.wanted o (yielded ops a.tmps)=true then Oper.wp P o a (w0.alloc (.cells c e)) K Q else E:=by
 obtain ⟨i,hi,hz0,hz1,hz2⟩:=info_parts hi;have hal:=below_alloc (Below.refl w0.heap.size w0) (.cells c e);have hblk:=heap_alloc_new w0 (.cells c e);have hrow:=hown.below hal;refine step_append_W (w0.alloc (.cells c e)) hgd s x t ho base e i z sz bytes ht hi hz0 hz1 hz2 hzs hsz hzu v n xs hs hrow ⟨w0.heap.size,0,none⟩ 1 1 c.toList hx (by simp [hc]) (fun j u hu=>?_) h1 hnu (by decide) (by unfold maxLen;omega) ?_ (by simp;omega) ?_
 ·rw [addr_add,Nat.zero_add];simp only [World.cell?,hblk];simpa using hu
 ·exact hby
 ·intro g cap' w' hr hgr hkp hwh;refine hK g cap' w' hr ((Kp.of_below hal).trans hkp) (fun b0 hb hle=>?_) (fun k hk hne=>(hgr.block k (by simp;omega) (fun e=>hne e.symm)).trans (hal.block k hk)) (hwh.imp id (fun h=>by simp at h;omega));have h2:Below b0.heap.size b0 (w0.alloc (.cells c e)):=hb.trans (hal.mono hb.size);exact h2.grown hgr (by have:=hb.size;simp;omega) (fun k hk=>by have:=(hrow.lt k hk).1;omega)
theorem wpList_append_oneW {P:Program} (w0:World) {ops:Array Oper} {rest:List Oper} {o:Oper} {a:Act} {Q:Exit→Act→World→Prop} (hgd:o.guard=none) (s x:Operand) (t:TypeId)
  (ho:o.op=.call { callee:=.builtin .append,args:=#[s,x],argTypes:=#[t,t] })
  (base:Nat) (e:TypeId) (bytes sz:Nat) (z:Value) (ht:P.underlying t=some (.slice e)) (hi:(P.info? e).map (fun i=>(i.zero,i.size,i.bytes))=some (some z,sz,bytes)) (hzs:z.cells.size=sz) (hsz:0<sz) (hzu:NoU z.cells)
  (v:Value) (n:Nat) (xs:List Value) (hs:a.eval s=v) (hown:RowG e sz base w0 v n xs) (c:Array Value) (hx:a.eval x=.slice (some ⟨w0.heap.size,0,none⟩) 1 1) (hc:c.size=sz) (h1:∀u ∈ c.toList,u.oneCell'=true) (hnu:∀u ∈ c.toList,∀q,u≠.int .u64 q) (hn:n+1≤9223372036854775807) (hby:(n+1)*bytes≤140737488355328) (hbase:base≤w0.heap.size)
  (hK:∀g cap' w',RowG e sz base w' (.slice (some ⟨g,0,none⟩) (n+1) cap') (n+1) (xs++c.toList)→Kp w0 w'→(∀b0:World,Below b0.heap.size b0 w0→b0.heap.size≤base→Below b0.heap.size b0 w')→(∀k,k<w0.heap.size→v.ownBlock≠some k→w'.heap[k]?=w0.heap[k]?)→(v.ownBlock=some g∨w0.heap.size≤g)→wpList P ops Q rest (a.put o.dst (.slice (some ⟨g,0,none⟩) (n+1) cap')) w'):wpList P ops Q (o :: rest) a (w0.alloc (.cells c e)):=by
 obtain ⟨i,hi,hz0,hz1,hz2⟩:=info_parts hi;have hal:=below_alloc (Below.refl w0.heap.size w0) (.cells c e);have hblk:=heap_alloc_new w0 (.cells c e);have hrow:=hown.below hal;refine wpList_append_W (w0.alloc (.cells c e)) hgd s x t ho base e i z sz bytes ht hi hz0 hz1 hz2 hzs hsz hzu v n xs hs hrow ⟨w0.heap.size,0,none⟩ 1 1 c.toList hx (by simp [hc]) (fun j u hu=>?_) h1 hnu (by decide) (by unfold maxLen;omega) ?_ (by simp;omega) ?_
 ·rw [addr_add,Nat.zero_add];simp only [World.cell?,hblk];simpa using hu
 ·exact hby
 ·intro g cap' w' hr hgr hkp hwh;refine hK g cap' w' hr ((Kp.of_below hal).trans hkp) (fun b0 hb hle=>?_) (fun k hk hne=>(hgr.block k (by simp;omega) (fun e=>hne e.symm)).trans (hal.block k hk)) (hwh.imp id (fun h=>by simp at h;omega));have h2:Below b0.heap.size b0 (w0.alloc (.cells c e)):=hb.trans (hal.mono hb.size);exact h2.grown hgr (by have:=hb.size;simp;omega) (fun k hk=>by have:=(hrow.lt k hk).1;omega)
def TrAns (w w':World) (e:Ending) (k:Nat) (col:Nat→Int) (T:Nat→Nm):Prop:=∃aw cw T',e=.returned (.slice aw k cw)∧Below w.heap.size w w'∧(k≤cw∧cw≤9223372036854775807)∧(∀b o s,aw=some ⟨b,o,s⟩→w.heap.size≤b)∧Hid (Tr w' aw k col T'∧∀j,j<k→Sn (T j) (T' j))
set_option maxRecDepth 100000 in
set_option maxHeartbeats 4000000 in
theorem twinTr_c {w:World} {ao:Option Addr} {k cap:Nat} {col:Nat→Int} {T:Nat→Nm} (h:Tr w ao k col T) (hk:k≤2199023255552) (hl:∀j,j<k→(T j).n≤17592186044416∧(T j).m≤17592186044416) :
  Calls Tryz.prog 35 #[.slice ao k cap] w fun e w'=>TrAns w w' e k col T:=by
 have H:=hid h;clear h;go_enter Tryz.func35,Tryz.ntmps35;go_wp2_with fail
 go_loopw [3,8] (fun ov t wr=>∃(i:Nat) (T':Nat→Nm),i≤k∧t=.int .i64 i∧Hid (Below w.heap.size w wr)∧Hid (RowG 70 4 w.heap.size wr ov i (tcells (tls i col T')))∧Hid (∀j,j<i→Sn (T j) (T' j)∧Rw wr (T' j).x (T' j).n (T' j).c (T' j).f (T' j).y (T' j).m (T' j).d (T' j).g)) (fun _ t _=>k-(intOf t).toNat)
 case atStart=>exact ⟨0,T,by omega,rfl,Below.refl _ _,rowG_nil _ _ _ _,fun j hj=>by omega⟩
 case round =>
  obtain ⟨i,T',hi,rfl,HB,HRow,HT⟩:=hrel;by_cases hlt:i<k
  ·obtain ⟨b,o,rfl,hc,hn⟩:=(H.out.below HB.out) i hlt;obtain ⟨⟨s,x,n,c,f,y,m,d,g⟩,hTi⟩:∃t,T i=t:=⟨_,rfl⟩;rw [hTi] at hc hn;obtain ⟨z,hz⟩:∃z,col i=z:=⟨_,rfl⟩;rw [hz] at hc;obtain ⟨x0,x1,x2,x3⟩:=hc;replace x0:wr.cell? ⟨b,o+i*4,none⟩=some (.int .i64 z):=x0;replace x1:wr.cell? ⟨b,o+i*4+1,none⟩=some (.bool s):=x1;replace x2:wr.cell? ⟨b,o+i*4+2,none⟩=some (.slice x n c):=x2;replace x3:wr.cell? ⟨b,o+i*4+3,none⟩=some (.slice y m d):=x3;have i1:((i:Nat):Int)<((k:Nat):Int):=by omega
   obtain ⟨hn10,hm10⟩:=hl i hlt;rw [hTi] at hn10 hm10;have HN:=hid hn;have HZ:=hid hz;have HTi:=hid hTi
   clear hn hz hTi;go_upto_region 5 with fail
   have hb5:=below_alloc (Below.refl wr.heap.size wr) (.cells #[.int .i64 z,.bool s,.slice x n c,.slice y m d] 70);have a0:(wr.alloc (.cells #[.int .i64 z,.bool s,.slice x n c,.slice y m d] 70)).cell? ⟨wr.heap.size,0,none⟩=some (.int .i64 z):=by simp [go_sem]
   have a1:(wr.alloc (.cells #[.int .i64 z,.bool s,.slice x n c,.slice y m d] 70)).cell? ⟨wr.heap.size,1,none⟩=some (.bool s):=by simp [go_sem]
   have a2:(wr.alloc (.cells #[.int .i64 z,.bool s,.slice x n c,.slice y m d] 70)).cell? ⟨wr.heap.size,2,none⟩=some (.slice x n c):=by simp [go_sem]
   have a3:(wr.alloc (.cells #[.int .i64 z,.bool s,.slice x n c,.slice y m d] 70)).cell? ⟨wr.heap.size,3,none⟩=some (.slice y m d):=by simp [go_sem]
   have hne:u3.ownBlock≠some wr.heap.size:=fun e=>by have:=(HRow.out.lt _ e).2;omega
   replace HN:=hid (HN.out.below hb5);replace HRow:=hid (HRow.out.below hb5)
   replace HT:Hid (∀j,j<i→Sn (T j) (T' j)∧Rw (wr.alloc (.cells #[.int .i64 z,.bool s,.slice x n c,.slice y m d] 70)) (T' j).x (T' j).n (T' j).c (T' j).f (T' j).y (T' j).m (T' j).d (T' j).g):=fun j hj=>⟨(HT.out j hj).1,(HT.out j hj).2.below hb5⟩
   replace HB:=hid (HB.out.trans (hb5.mono HB.out.size));clear x0 x1 x2 x3 hb5;have hsz:w.heap.size≤(wr.alloc (.cells #[.int .i64 z,.bool s,.slice x n c,.slice y m d] 70)).heap.size:=HB.out.size;generalize wr.alloc (.cells #[.int .i64 z,.bool s,.slice x n c,.slice y m d] 70)=w5 at *;have CT:Hid (∀W,Below w5.heap.size w5 W→Calls Tryz.prog 33 #[.agg #[.bool s,.slice x n c,.slice y m d]] W fun e w'=>∃z6 c6 z7 c7,e=.returned (.agg #[.bool s,.slice z6 n c6,.slice z7 m c7])∧Below W.heap.size W w'∧Hid (Rw w' z6 n c6 f z7 m c7 g)):=fun W hW=>qTwin_c (HN.out.below hW) hn10 hm10
   go_region_held3 (fun w'=>w'.cell? ⟨wr.heap.size,0,none⟩=some (.int .i64 z)∧w'.cell? ⟨wr.heap.size,1,none⟩=some (.bool s)∧w'.cell? ⟨wr.heap.size,2,none⟩=some (.slice x n c)∧w'.cell? ⟨wr.heap.size,3,none⟩=some (.slice y m d))
    (refine ⟨?_,?_,?_,?_⟩ <;> repeat (with_reducible first | assumption | refine kCd ?_ | refine kCa ?_ | refine kCb (by assumption) ?_))
    (first
     | (go_at_call 33;with_reducible refine (CT.out _ belA).mono ?_;rintro e w6 ⟨z6,c6,z7,c7,rfl,hb6,HQ⟩;have B6:Below w5.heap.size w5 w6:=belA;have HRow6:=HRow.out.below B6;have hz6:w.heap.size≤w6.heap.size:=Nat.le_trans hsz B6.size;have a06:=kCb B6 a0;have a16:=kCb B6 a1;have a26:=kCb B6 a2;have a36:=kCb B6 a3;have hlt6:=World.block_lt_of_cell? w6 _ a06)
     | (refine step_append_oneW w6 rfl (.tmp 12) (.tmp 19) 66 rfl w.heap.size 70 64 4 (.agg #[.int .i64 0,.bool false,.slice none 0 0,.slice none 0 0]) Tryz.underlying66 Tryz.infoTerm rfl (by decide) nz4 u3 i (tcells (tls i col T')) rfl HRow6 #[.int .i64 z,.bool s,.slice z6 n c6,.slice z7 m c7] rfl rfl (one4 _ _ _ _ _ _ _ _) (not4 _ _ _ _ _ _ _ _) ?p1 ?p2 hz6 ?_;(case p1=>omega);(case p2=>omega);intro g8 cap8 w8 hr8 hk8 hb8 hg8 _;have h88:=hg8 wr.heap.size hlt6 hne;have a08:=(World.cell?_of_block (a:=⟨wr.heap.size,0,none⟩) h88).trans a06;have a18:=(World.cell?_of_block (a:=⟨wr.heap.size,1,none⟩) h88).trans a16;have a28:=(World.cell?_of_block (a:=⟨wr.heap.size,2,none⟩) h88).trans a26;have a38:=(World.cell?_of_block (a:=⟨wr.heap.size,3,none⟩) h88).trans a36))
   all_goals
    (have HB8:=hid (hb8 w (HB.out.trans (B6.mono HB.out.size)) (Nat.le_refl _))
     have HR8:Hid (RowG 70 4 w.heap.size w8 (.slice (some ⟨g8,0,none⟩) (i+1) cap8) (i+1) (tcells (tls (i+1) col (putN T' i ⟨s,z6,n,c6,f,z7,m,c7,g⟩)))):=by
      show RowG _ _ _ _ _ _ _;rw [tls_put,HZ.out];exact hr8
     have HT8:Hid (∀j,j<i+1→Sn (T j) (putN T' i ⟨s,z6,n,c6,f,z7,m,c7,g⟩ j)∧Rw w8 (putN T' i ⟨s,z6,n,c6,f,z7,m,c7,g⟩ j).x (putN T' i ⟨s,z6,n,c6,f,z7,m,c7,g⟩ j).n (putN T' i ⟨s,z6,n,c6,f,z7,m,c7,g⟩ j).c (putN T' i ⟨s,z6,n,c6,f,z7,m,c7,g⟩ j).f (putN T' i ⟨s,z6,n,c6,f,z7,m,c7,g⟩ j).y (putN T' i ⟨s,z6,n,c6,f,z7,m,c7,g⟩ j).m (putN T' i ⟨s,z6,n,c6,f,z7,m,c7,g⟩ j).d (putN T' i ⟨s,z6,n,c6,f,z7,m,c7,g⟩ j).g):=fun j hj=>by
      by_cases e:j=i
      ·subst e;rw [putN_at,HTi.out];exact ⟨⟨rfl,rfl,rfl,rfl,rfl⟩,Rw.kp HQ.out hk8⟩
      ·rw [putN_ne e];exact ⟨(HT.out j (by omega)).1,Rw.kp ((HT.out j (by omega)).2.below B6) hk8⟩
     clear hr8 hk8 hb8 hg8 h88 a08 a18 a28 a38 a06 a16 a26 a36 hlt6 hne HRow6 B6 hb6 HQ HRow HT HB CT a0 a1 a2 a3 HN hz6;go_wp2;go_roundw
     case rel=>exact ⟨i+1,_,by omega,by go_num,HB8.out,HR8.out,HT8.out⟩
     case measure=>simp [intOf];omega)
  ·have e1:i=k:=by omega
   have i1:¬(((i:Nat):Int)<((k:Nat):Int)):=by omega
   rw [e1] at HRow HT;obtain ⟨aw,cw,rfl⟩:=HRow.out.slice;have hcw:k≤cw∧cw≤9223372036854775807:=by
    rcases HRow.out.2 with ⟨hv,h0⟩ | ⟨_,_,_,hv,_,_,h5,h6,_⟩
    ·cases hv;omega
    ·cases hv;unfold maxLen at h6;omega
   clear e1;go_wp2;go_ret;exact ⟨aw,cw,T',rfl,HB.out,hcw,(fun b o s e=>(HRow.out.lt b (by rw [e];rfl)).1),(fun j hj=>by obtain ⟨b,hb,h4⟩:=rowg_c4 HRow.out hj;exact ⟨b,0,hb,h4,(HT.out j hj).2⟩),fun j hj=>(HT.out j hj).1⟩
def putV (V:Nat→Value) (i:Nat) (t:Value):Nat→Value:=fun j=>if j=i then t else V j
theorem putV_at (T:Nat→Value) (i:Nat) (t:Value):putV T i t i=t:=by simp [putV]
theorem putV_ne {T:Nat→Value} {i j:Nat} {t:Value} (h:j≠i):putV T i t j=T j:=by simp [putV,h]
theorem Tl.of {w w' ao k col T} (h:Tl w ao k col T) (hb:∀b o s,ao=some ⟨b,o,s⟩→w'.heap[b]?=w.heap[b]?) (hk:Kp w w'):Tl w' ao k col T:=fun j hj=>by
 obtain ⟨b,o,e,⟨c0,c1,c2,c3⟩,h2,h3⟩:=h j hj;have:=hb b o none e;exact ⟨b,o,e,⟨(World.cell?_of_block (a:=⟨b,o+j*4,none⟩) this).trans c0,(World.cell?_of_block (a:=⟨b,o+j*4+1,none⟩) this).trans c1,(World.cell?_of_block (a:=⟨b,o+j*4+2,none⟩) this).trans c2,(World.cell?_of_block (a:=⟨b,o+j*4+3,none⟩) this).trans c3⟩,h2.kp hk,h3⟩
theorem wpList_make_co {P:Program} (w:World) {ops:Array Oper} {rest:List Oper} {o:Oper} {a:Act} {Q:Exit→Act→World→Prop}
  (hg:o.guard=none) (l c:Operand) (t:TypeId) (hop:o.op=Op.makeSlice t l c)
  (e:TypeId) (bytes:Nat) (h1:P.underlying t=some (.slice e)) (h2:(P.info? e).map (fun i=>(i.zero,i.size,i.bytes))=some (some (.slice none 0 0),1,bytes))
  (kl kc:IntKind) (L C:Int) (n:Nat) (hl:a.eval l=.int kl L) (hc:a.eval c=.int kc C) (hL:L=(n:Int)) (hC:C=(n:Int)) (b2:bytes*n≤281474976710656) (b3:n≤maxLen)
  (hK:∀w',(∃cur,w'.heap[w.heap.size]?=some (.cells cur e (0,0))∧cur.size=n∧NoU cur∧∀j,j<n→cur[j]?=some (.slice none 0 0))→Below w.heap.size w w'→wpList P ops Q rest (a.put o.dst (.slice (some ⟨w.heap.size,0,none⟩) n n)) w') :
  wpList P ops Q (o :: rest) a w:=by
 obtain ⟨i,hi,hz0,hz1,hz2⟩:=info_parts h2;refine wpList_make_full w hg l c t hop w.heap.size e i _ 1 h1 hi hz0 hz1 kl kc L C n hl hc hL hC (by rw [hz2];exact b2) b3 (Nat.le_refl _) ?_;intro w' hown hgr;refine hK w' ?_ ((Below.refl _ _).grown hgr (Nat.le_refl _) (fun k h=>by cases h));obtain ⟨h1,h2⟩:=hown;rcases h2 with ⟨hv,_⟩ | ⟨g,cap,cur,hv,hb,hg,hn,hm2,hs,ht⟩
 ·cases hv
 ·cases hv
  have hcz:(Value.slice none 0 0).cells=#[Value.slice none 0 0]:=rfl;have hs':cur.size=n:=by omega
  have hall:∀j,j<n→cur[j]?=some (.slice none 0 0):=fun j hj=>by
   have h3:cur.toList[j]?=(madeCells (Value.slice none 0 0).cells (n*1)).toList[j]?:=by rw [←ht,List.getElem?_take,if_pos (by omega)]
   have h4:(madeCells (Value.slice none 0 0).cells (n*1))[j]?=some (.slice none 0 0):=by simp [madeCells,hcz,hj,Nat.mod_one]
   simpa using h3.trans (by simpa using h4)
  refine ⟨cur,hg,hs',fun j z=>?_,hall⟩;by_cases hj:j<n
  ·rw [hall j hj];simp
  ·rw [Array.getElem?_eq_none (by omega)];simp
theorem tfr_last {col:Nat→Int} {T:Nat→Nm}:∀{r i:Nat} {last:Int},tfr col T r i last=true→∀p,i≤p→p<i+r→last<col p∧col p≤col (i+r-1)
 | 0,i,last,_,p,h1,h2=>by omega
 | r+1,i,last,h,p,h1,h2=>by
  simp only [tfr,Bool.and_eq_true,decide_eq_true_eq] at h;obtain ⟨ha,_,_,hb⟩:=h;cases r with
  | zero =>
   obtain rfl:p=i:=by omega
   exact ⟨ha,by simp⟩
  | succ r =>
   have e:i+(r+1+1)-1=i+1+(r+1)-1:=by omega
   have hn:=tfr_last hb (i+1) (by omega) (by omega);rw [e];by_cases hp:p=i
   ·subst hp;exact ⟨ha,by omega⟩
   ·have:=tfr_last hb p (by omega) (by omega);exact ⟨by omega,this.2⟩
theorem alB_at {k:Nat} {R:Nat→Lr}:∀{r i:Nat},alB k R r i=true→∀j,i≤j→j<i+r→lastB k (R j)=true
 | 0,i,_,j,h1,h2=>by omega
 | r+1,i,h,j,h1,h2=>by
  simp only [alB,Bool.and_eq_true] at h;by_cases e:j=i
  ·subst e;exact h.1
  ·exact alB_at h.2 j (by omega) (by omega)
theorem cols_at {k:Nat} {r:Lr} (h1:tfB r.tk r.col r.T=true) (h2:lastB k r=true):∀p,p<r.tk→0≤r.col p∧r.col p<k:=fun p hp=>by
 have h3:=tfr_last h1 p (by omega) (by omega);simp only [lastB,Bool.or_eq_true,decide_eq_true_eq] at h2;rw [Nat.zero_add] at h3;rcases h2 with h2 | h2 <;> omega
def dstOf (ops:Array Oper) (j:Nat):Option Tmp:=(ops[j]?).bind (·.dst)
def depsOf (md:Region.Mode) (ops:Array Oper) (i:Nat):List Nat:=match ops[i]? with
 | none=>[]
 | some o=>(o.after.toList.filter (Region.binds md)).map (·.on)
def ancs (md:Region.Mode) (ops:Array Oper):Nat→List Nat→List Nat
 | 0,_=>[]
 | n+1,l=>(l.flatMap (depsOf md ops)).eraseDups++ancs md ops n (l.flatMap (depsOf md ops)).eraseDups
def fill (a:Act) (D:List (Nat × Tmp)) (u:Nat→Value):Act:=D.foldl (fun a p=>a.put (some p.2) (u p.1)) a
def lies (a:Act) (D:List (Nat × Tmp)) (j:Nat):Value:=match D.lookup j with
 | some d=>a.tmps.getD d undef
 | none=>undef
def updV (u:Nat→Value) (i:Nat) (v:Value):Nat→Value:=fun j=>if j=i then v else u j
theorem updV_at (u:Nat→Value) (i:Nat) (v:Value):updV u i v i=v:=by simp [updV]
theorem updV_ne {u:Nat→Value} {i j:Nat} {v:Value} (h:j≠i):updV u i v j=u j:=by simp [updV,h]
theorem put_same (a:Act) (d:Tmp) (x y:Value):(a.put (some d) x).put (some d) y=a.put (some d) y:=by
 simp [Act.put]
theorem put_other (a:Act) {d e:Tmp} (h:d≠e) (x y:Value):(a.put (some d) x).put (some e) y=(a.put (some e) y).put (some d) x:=by
 simp only [Act.put]
 congr 1
 exact Array.setIfInBounds_comm _ _ h
theorem put_lies (a:Act) (d:Tmp):a.put (some d) (a.tmps.getD d undef)=a:=by
 obtain ⟨t,ds⟩:=a;simp only [Act.put]
 congr 1
 apply Array.ext_getElem?;intro i;rw [Array.getElem?_setIfInBounds]
 split
 ·rename_i h;subst h
  split
  ·rename_i h2;simp [h2]
  ·rename_i h2;rw [Array.getElem?_eq_none (by omega)]
 ·rfl
theorem fill_other {D:List (Nat × Tmp)} {d:Tmp} {u:Nat→Value} (v:Value):∀{a:Act},d ∉ D.map Prod.snd→(fill a D u).put (some d) v=fill (a.put (some d) v) D u:=by
 induction D with
 | nil=>intro a _;rfl
 | cons p D ih =>
  intro a h;simp only [List.map_cons,List.mem_cons,not_or] at h;show (fill (a.put (some p.2) (u p.1)) D u).put (some d) v=fill ((a.put (some d) v).put (some p.2) (u p.1)) D u;rw [ih h.2,put_other a (Ne.symm h.1)]
theorem fill_congr {D:List (Nat × Tmp)} {u u':Nat→Value}:∀{a:Act},(∀p,p ∈ D→u p.1=u' p.1)→fill a D u=fill a D u':=by
 induction D with
 | nil=>intro a _;rfl
 | cons p D ih =>
  intro a h;show fill (a.put (some p.2) (u p.1)) D u=fill (a.put (some p.2) (u' p.1)) D u';rw [h p (by simp),ih (fun q hq=>h q (by simp [hq]))]
theorem fill_put {D:List (Nat × Tmp)} {i:Nat} {d:Tmp} {u:Nat→Value} (v:Value):∀{a:Act},(D.map Prod.fst).Nodup→(D.map Prod.snd).Nodup→(i,d) ∈ D→(fill a D u).put (some d) v=fill a D (updV u i v):=by
 induction D with
 | nil=>intro a _ _ h;cases h
 | cons p D ih =>
  intro a h1 h2 h;simp only [List.map_cons,List.nodup_cons] at h1 h2;show (fill (a.put (some p.2) (u p.1)) D u).put (some d) v=fill (a.put (some p.2) (updV u i v p.1)) D (updV u i v);by_cases e:p.1=i
  ·have hp:p=(i,d):=by
    rcases List.mem_cons.1 h with h | h
    ·exact h.symm
    ·exact absurd (by rw [e];exact List.mem_map_of_mem (f:=Prod.fst) h) h1.1
   subst hp;rw [fill_other v h2.1,put_same,updV_at];exact fill_congr (fun q hq=>(updV_ne (fun e=>h1.1 (by show i ∈ _;rw [←e];exact List.mem_map_of_mem (f:=Prod.fst) hq))).symm)
  ·have hm:(i,d) ∈ D:=by
    rcases List.mem_cons.1 h with h | h
    ·exact absurd (by rw [←h]) e
    ·exact h
   rw [ih h1.2 h2.2 hm,updV_ne e]
theorem fill_lies {D:List (Nat × Tmp)} {u:Nat→Value} {a:Act} (h:∀p,p ∈ D→u p.1=a.tmps.getD p.2 undef):fill a D u=a:=by
 induction D with
 | nil=>rfl
 | cons p D ih =>
  show fill (a.put (some p.2) (u p.1)) D u=a;rw [h p (by simp),put_lies];exact ih (fun q hq=>h q (by simp [hq]))
theorem lies_at {D:List (Nat × Tmp)} {a:Act}:(D.map Prod.fst).Nodup→∀p,p ∈ D→lies a D p.1=a.tmps.getD p.2 undef:=by
 intro hn p hp;have:D.lookup p.1=some p.2:=by
  induction D with
  | nil=>cases hp
  | cons x D ih =>
   simp only [List.map_cons,List.nodup_cons] at hn;rcases List.mem_cons.1 hp with rfl | hp
   ·simp [List.lookup]
   ·have hne:p.1≠x.1:=fun e=>hn.1 (e ▸ List.mem_map_of_mem (f:=Prod.fst) hp)
    rw [List.lookup];have:(p.1==x.1)=false:=by simpa using hne
    rw [this];exact ih hn.2 hp
 unfold lies;rw [this]
def slotsOk (ops:Array Oper) (D:List (Nat × Tmp)) (F:List Nat):Bool:=(D.map Prod.fst==F) && decide (D.map Prod.snd).Nodup && D.all (fun p=>dstOf ops p.1==some p.2)
def flowOk (md:Region.Mode) (ops:Array Oper) (listed:Array Bool) (F st:List Nat):Bool :=
 listed.size==ops.size && F.Nodup &&
 (List.range ops.size).all (fun i=>!(listed.getD i false) || (depsOf md ops i).all (fun j=>listed.getD j false)) &&
 F.all (fun i=>!(listed.getD i true) && decide (i<ops.size) && !(st.contains i) && (depsOf md ops i).all (fun j=>decide (j<i) && (listed.getD j false || F.contains j))) &&
 (List.range ops.size).all (fun i=>listed.getD i false || F.contains i || st.contains i) &&
 st.all (fun s=>!(listed.getD s true) && ((depsOf md ops s).any (fun j=>st.contains j) || F.all (fun j=>(ancs md ops ops.size [s]).contains j)))
def fullOf (ops:Array Oper) (st:List Nat):Array Bool:=((List.range ops.size).map (fun i=>!(st.contains i))).toArray
theorem mem_deps {md:Region.Mode} {ops:Array Oper} {i j:Nat}:j ∈ depsOf md ops i ↔ ∃o,ops[i]?=some o∧∃e,e ∈ o.after∧Region.binds md e=true∧e.on=j:=by
 unfold depsOf;cases h:ops[i]? with
 | none=>simp
 | some o=>simp [and_assoc]
theorem anc_listed {md:Region.Mode} {ops:Array Oper} {listed:Array Bool} (hc:∀i j,listed.getD i false=true→j ∈ depsOf md ops i→listed.getD j false=true) :
  ∀(n:Nat) (l:List Nat),(∀i,i ∈ l→∀j,j ∈ depsOf md ops i→listed.getD j false=true)→∀j,j ∈ ancs md ops n l→listed.getD j false=true
 | 0,_,_,j,h=>by simp [ancs] at h
 | n+1,l,hl,j,h=>by
  have h1:∀k,k ∈ (l.flatMap (depsOf md ops)).eraseDups→listed.getD k false=true:=fun k hk=>by
   rw [List.mem_eraseDups,List.mem_flatMap] at hk;obtain ⟨i,hi,hki⟩:=hk;exact hl i hi k hki
  simp only [ancs,List.mem_append] at h;rcases h with h | h
  ·exact h1 j h
  ·exact anc_listed hc n _ (fun i hi k hk=>hc i k (h1 i hi) hk) j h
theorem getD_ft {l:Array Bool} {i:Nat} (h:i<l.size):l.getD i true=l.getD i false:=by simp [Array.getD,h]
def left (listed:Array Bool):List Nat→Nat
 | []=>0
 | x :: F=>(if listed.getD x false=true then 0 else 1)+left listed F
theorem left_set {listed:Array Bool} {i:Nat} (hi:i<listed.size) (hl:listed.getD i false=false):∀{F:List Nat},F.Nodup→left listed F=left (listed.setIfInBounds i true) F+(if i ∈ F then 1 else 0)
 | [],_=>by simp [left]
 | x :: F,h=>by
  have h':=List.nodup_cons.1 h;have ih:=left_set hi hl h'.2;have hi':(listed.setIfInBounds i true).getD i false=true:=by simp [Array.getD,hi]
  simp only [left];by_cases hx:x=i
  ·subst hx;rw [hi',hl,ih];simp [h'.1];omega
  ·have h1:(listed.setIfInBounds i true).getD x false=listed.getD x false:=getD_set_ne false (Ne.symm hx);rw [h1,ih];have:(i ∈ x :: F)=(i ∈ F):=by simp [Ne.symm hx]
   simp only [this];omega
theorem left_none {listed:Array Bool}:∀{F:List Nat},left listed F=0→∀j,j ∈ F→listed.getD j false=true
 | [],_,j,hj=>by cases hj
 | x :: F,h,j,hj=>by
  simp only [left] at h;rcases List.mem_cons.1 hj with rfl | hj
  ·cases hb:listed.getD j false
   ·rw [hb] at h;simp at h
   ·rfl
  ·exact left_none (by omega) j hj
theorem left_some {listed:Array Bool}:∀{F:List Nat},left listed F≠0→∃j,j ∈ F∧listed.getD j false=false
 | [],h=>absurd rfl h
 | x :: F,h=>by
  cases hb:listed.getD x false
  ·exact ⟨x,by simp,hb⟩
  ·simp only [left] at h;rw [hb] at h;obtain ⟨j,h1,h2⟩:=left_some (F:=F) (by simpa using h);exact ⟨j,by simp [h1],h2⟩
theorem left_all {listed:Array Bool}:∀{F:List Nat},(∀j,j ∈ F→listed.getD j false=false)→left listed F=F.length
 | [],_=>rfl
 | x :: F,h=>by
  simp only [left,h x (by simp),List.length_cons];rw [left_all (fun j hj=>h j (by simp [hj]))];simp;omega
def StepOk (P:Program) (md:Region.Mode) (ops:Array Oper) (Q:Exit→Act→World→Prop) (S:World→Prop) (G:Nat→Value→World→Prop) (a0:Act) (w0:World) (D:List (Nat × Tmp)) (F:List Nat) (i:Nat):Prop :=
 ∃o,ops[i]?=some o∧∀u w,S w→Below w0.heap.size w0 w→(∀j,F.contains j=true→(depsOf md ops i).contains j=true→G j (u j) w) →
  ∀K:Act→World→Prop,Shut (∀v w',Below w.heap.size w w'→G i v w'→K ((fill a0 D u).put o.dst v) w')→if Region.wanted o (yielded ops (fill a0 D u).tmps)=true then Oper.wp P o (fill a0 D u) w K Q else K ((fill a0 D u).put o.dst undef) w
theorem wpOp_of {P:Program} {ops:Array Oper} {Q:Exit→Act→World→Prop} {i:Nat} {o:Oper} {K:Act→World→Prop} {a:Act} {w:World} (ho:ops[i]?=some o) (h:if Region.wanted o (yielded ops a.tmps)=true then Oper.wp P o a w K Q else K (a.put o.dst undef) w):wpOp P ops Q i K a w:=by
 unfold wpOp;simp only [ho]
 split at h
 ·rename_i hw;simp only [hw,if_true];exact .inl h
 ·rename_i hw;simp only [hw];exact h
theorem wpAnyH_flow {P:Program} {md:Region.Mode} {ops:Array Oper} {Q:Exit→Act→World→Prop} {S:World→Prop} (G:Nat→Value→World→Prop) (D:List (Nat × Tmp)) (F st:List Nat) (listed0:Array Bool) (a0:Act) (w0:World) (fuel:Nat)
  (hok:flowOk md ops listed0 F st=true) (hsl:slotsOk ops D F=true)
  (hS:∀w w',S w→Below w.heap.size w w'→S w')
  (hG:∀j v w w',G j v w→Below w.heap.size w w'→G j v w')
  (hstep:∀i,i ∈ F→StepOk P md ops Q S G a0 w0 D F i)
  (hend:∀u w,S w→Below w0.heap.size w0 w→(∀j,j ∈ F→G j (u j) w)→wpAnyH P md ops Q S fuel (fullOf ops st) (fill a0 D u) w)
  (hS0:S w0):wpAnyH P md ops Q S (F.length+fuel) listed0 a0 w0:=by
 simp only [flowOk,Bool.and_eq_true,beq_iff_eq] at hok;obtain ⟨⟨⟨⟨⟨k1,k0⟩,k2⟩,k3⟩,k4⟩,k5⟩:=hok;have k0:F.Nodup:=of_decide_eq_true k0;have k2':∀i j,listed0.getD i false=true→j ∈ depsOf md ops i→listed0.getD j false=true:=fun i j hi hj=>by
  have hlt:i<ops.size:=by
   rcases Nat.lt_or_ge i ops.size with h | h
   ·exact h
   ·rw [←k1] at h;simp [Array.getElem?_eq_none h] at hi
  have:=List.all_eq_true.1 k2 i (List.mem_range.2 hlt);rw [hi] at this;simpa using List.all_eq_true.1 (by simpa using this) j hj
 have k3':∀i,i ∈ F→listed0.getD i true=false∧i<ops.size∧i ∉ st∧∀j,j ∈ depsOf md ops i→j<i∧(listed0.getD j false=true∨j ∈ F):=fun i hi=>by
  have:=List.all_eq_true.1 k3 i hi;simp only [Bool.and_eq_true,Bool.not_eq_true',decide_eq_true_eq] at this;obtain ⟨⟨⟨a,b⟩,c⟩,d⟩:=this;refine ⟨a,b,fun h=>?_,fun j hj=>?_⟩
  ·rw [List.contains_iff_mem.2 h] at c;cases c
  ·have:=List.all_eq_true.1 d j hj;simp only [Bool.and_eq_true,decide_eq_true_eq,Bool.or_eq_true] at this;exact ⟨this.1,this.2.imp id (fun h=>List.contains_iff_mem.1 h)⟩
 have k4':∀i,i<ops.size→listed0.getD i false=true∨i ∈ F∨i ∈ st:=fun i hi=>by
  have:=List.all_eq_true.1 k4 i (List.mem_range.2 hi);simp only [Bool.or_eq_true] at this;rcases this with (h | h) | h
  ·exact .inl h
  ·exact .inr (.inl (List.contains_iff_mem.1 h))
  ·exact .inr (.inr (List.contains_iff_mem.1 h))
 have k5':∀s,s ∈ st→listed0.getD s true=false∧((∃j,j ∈ depsOf md ops s∧j ∈ st)∨∀j,j ∈ F→j ∈ ancs md ops ops.size [s]):=fun s hs=>by
  have:=List.all_eq_true.1 k5 s hs;simp only [Bool.and_eq_true,Bool.not_eq_true',Bool.or_eq_true] at this;refine ⟨this.1,this.2.imp (fun h=>?_) (fun h j hj=>List.contains_iff_mem.1 (List.all_eq_true.1 h j hj))⟩;obtain ⟨j,h1,h2⟩:=List.any_eq_true.1 h;exact ⟨j,h1,List.contains_iff_mem.1 h2⟩
 simp only [slotsOk,Bool.and_eq_true,beq_iff_eq,decide_eq_true_eq] at hsl;obtain ⟨⟨hf,h2⟩,h3⟩:=hsl;have h1:(D.map Prod.fst).Nodup:=hf ▸ k0;have hput:∀i,i ∈ F→∀u v,(fill a0 D u).put (dstOf ops i) v=fill a0 D (updV u i v):=fun i hi u v=>by
  rw [←hf] at hi;obtain ⟨⟨i',d⟩,hp,rfl⟩:=List.mem_map.1 hi;have h4:=List.all_eq_true.1 h3 _ hp;rw [beq_iff_eq.1 h4];exact fill_put v h1 h2 hp
 have h0:fill a0 D (lies a0 D)=a0:=fill_lies (lies_at h1)
 -- at any time
 have main:∀(n:Nat) (listed:Array Bool) (u:Nat→Value) (w:World),left listed F≤n→listed.size=ops.size→(∀i,i ∉ F→listed.getD i false=listed0.getD i false)→(∀i j,listed.getD i false=true→j ∈ depsOf md ops i→listed.getD j false=true) →
   S w→Below w0.heap.size w0 w→(∀j,j ∈ F→listed.getD j false=true→G j (u j) w)→∀m,m=left listed F→wpAnyH P md ops Q S (m+fuel) listed (fill a0 D u) w:=by
  intro n
  induction n with
  | zero =>
   intro listed u w hn hsz hout hcl hw hb hg m hm;have hz:left listed F=0:=by omega
   have hall:=left_none hz;have hl:listed=fullOf ops st:=by
    apply Array.ext
    ·rw [hsz];simp [fullOf]
    ·intro i h1 h2;have hi:i<ops.size:=by omega
     have e1:listed[i]=listed.getD i false:=by simp [Array.getD,h1]
     have e2:(fullOf ops st)[i]=!(st.contains i):=by simp [fullOf]
     rw [e1,e2];by_cases hF:i ∈ F
     ·rw [hall i hF];have:=(k3' i hF).2.2.1;simp [this]
     ·rw [hout i hF];by_cases hs:i ∈ st
      ·have:=(k5' i hs).1;rw [getD_ft (by omega)] at this;rw [this];simp [hs]
      ·rcases k4' i hi with h | h | h
       ·rw [h];simp [hs]
       ·exact absurd h hF
       ·exact absurd h hs
   rw [hm,hz,Nat.zero_add,hl];exact hend u w hw hb (fun j hj=>hg j hj (hall j hj))
  | succ n ih =>
   intro listed u w hn hsz hout hcl hw hb hg m hm;by_cases hz:left listed F=0
   ·exact ih listed u w (by omega) hsz hout hcl hw hb hg m hm
   ·obtain ⟨m',rfl⟩:∃m',m=m'+1:=⟨m-1,by omega⟩
    -- one of F is ready
    have hex:=left_some hz;have hmin:∀b i,i≤b→i ∈ F→listed.getD i false=false→∃i,i ∈ F∧listed.getD i false=false∧∀j,j ∈ F→j<i→listed.getD j false=true:=by
     intro b
     induction b with
     | zero=>intro i hi hF hl;exact ⟨i,hF,hl,fun j _ hj=>by omega⟩
     | succ b ihb =>
      intro i hi hF hl;by_cases h:∃j,j ∈ F∧j<i∧listed.getD j false=false
      ·obtain ⟨j,h1,h2,h3⟩:=h;exact ihb j (by omega) h1 h3
      ·refine ⟨i,hF,hl,fun j h1 h2=>?_⟩;cases h3:listed.getD j false
       ·exact absurd ⟨j,h1,h2,h3⟩ h
       ·rfl
    have hne:Region.ready md ops listed≠[]:=by
     obtain ⟨i0,h1,h2⟩:=hex;obtain ⟨i,hF,hl,hmn⟩:=hmin i0 i0 (Nat.le_refl _) h1 h2;obtain ⟨_,hlt,_,hd⟩:=k3' i hF;have:i ∈ Region.ready md ops listed:=mem_ready.2 ⟨by rw [getD_ft (by omega)];exact hl,ops[i],by simp [hlt],fun e he hb=>by
      obtain ⟨h1,h2⟩:=hd e.on (mem_deps.2 ⟨ops[i],by simp [hlt],e,he,hb,rfl⟩);by_cases hFe:e.on ∈ F
      ·exact hmn _ hFe h1
      ·rw [hout _ hFe];exact h2.resolve_right hFe⟩
     intro h;rw [h] at this;cases this
    rw [show m'+1+fuel=(m'+fuel)+1 by omega];refine ⟨fun h=>absurd h hne,fun i hi=>?_⟩;obtain ⟨hun,o,ho,hdep⟩:=mem_ready.1 hi;have hlt:i<ops.size:=(Array.getElem?_eq_some_iff.1 ho).1;have hlf:listed.getD i false=false:=by rw [←getD_ft (by omega)];exact hun
    have hdl:∀j,j ∈ depsOf md ops i→listed.getD j false=true:=fun j hj=>by
     obtain ⟨o',ho',e,he,hb',rfl⟩:=mem_deps.1 hj;have:o'=o:=Option.some.inj (ho'.symm.trans ho);subst this;exact hdep e he hb'
    by_cases hF:i ∈ F
    case neg =>
     exfalso;have h1:=hout i hF;rw [hlf] at h1;rcases k4' i hlt with h | h | h
     ·rw [h] at h1;cases h1
     ·exact hF h
     ·rcases (k5' i h).2 with ⟨j,hj,hjs⟩ | hanc
      ·have h2:=hdl j hj;have h3:=k5' j hjs;by_cases hjF:j ∈ F
       ·exact (k3' j hjF).2.2.1 hjs
       ·rw [hout j hjF] at h2;have h4:=h3.1;have hjl:j<listed0.size:=by
         rcases Nat.lt_or_ge j listed0.size with h | h
         ·exact h
         ·simp [Array.getElem?_eq_none h] at h2
        rw [getD_ft hjl,h2] at h4;cases h4
      ·obtain ⟨j,hjF,hjl⟩:=hex;have:=anc_listed hcl ops.size [i] (fun k hk l hl=>by simp at hk;subst hk;exact hdl l hl) j (hanc j hjF);rw [hjl] at this;cases this
    obtain ⟨o',ho',hst⟩:=hstep i hF;obtain rfl:o'=o:=Option.some.inj (ho'.symm.trans ho);refine wpOp_of ho ?_;refine hst u w hw hb (fun j hj hd=>hg j (List.contains_iff_mem.1 hj) (hdl j (List.contains_iff_mem.1 hd))) _ (fun v w' hb' hgi=>?_);have hdst:o'.dst=dstOf ops i:=by simp [dstOf,ho]
    refine ⟨hS w w' hw hb',?_⟩;rw [hdst,hput i hF];have hlt':=left_set (by omega) hlf k0;simp only [hF,if_true] at hlt';have hset:∀j,j≠i→(listed.setIfInBounds i true).getD j false=listed.getD j false:=fun j hj=>getD_set_ne false (Ne.symm hj)
    have hseti:(listed.setIfInBounds i true).getD i false=true:=by simp [Array.getD,show i<listed.size by omega]
    refine ih (listed.setIfInBounds i true) (updV u i v) w' (by omega) (by simpa using hsz) (fun j hj=>?_) (fun j k hj hk=>?_) (hS w w' hw hb') (hb.trans (hb'.mono hb.size)) (fun j hj hl=>?_) m' (by omega)
    ·rw [hset j (fun e=>hj (e ▸ hF)),hout j hj]
    ·by_cases hji:j=i
     ·subst hji;exact getD_set_true (hdl k hk)
     ·rw [hset j hji] at hj;exact getD_set_true (hcl j k hj hk)
    ·by_cases hji:j=i
     ·subst hji;rw [updV_at];exact hgi
     ·rw [updV_ne hji];rw [hset j hji] at hl;exact hG j (u j) w w' (hg j hj hl) hb'
 have hleft:left listed0 F=F.length:=left_all (fun i hi=>by
  have h1:=(k3' i hi).1;have h2:=(k3' i hi).2.1;rw [getD_ft (by omega)] at h1;exact h1)
 have:=main (left listed0 F) listed0 (lies a0 D) w0 (Nat.le_refl _) k1 (fun _ _=>rfl) k2' hS0 (Below.refl _ _) (fun j hj hl=>by
  have h1:=(k3' j hj).1;have h2:=(k3' j hj).2.1;rw [getD_ft (by omega),hl] at h1;cases h1) F.length hleft.symm
 rw [h0] at this;exact this
def Bk (w:World) (B:Nat) (vs:List Value) (t:TypeId):Prop:=w.heap[B]?=some (.cells vs.toArray t (0,0))
theorem bk_new (w:World) (vs:List Value) (t:TypeId):Bk (w.alloc (.cells vs.toArray t)) w.heap.size vs t:=heap_alloc_new w _
theorem Bk.lt {w B vs t} (h:Bk w B vs t):B<w.heap.size:=(Array.getElem?_eq_some_iff.1 h).1
theorem Bk.below {w w' B vs t} (h:Bk w B vs t) (hb:Below w.heap.size w w'):Bk w' B vs t:=(hb.block B h.lt).trans h
theorem Bk.cell {w B vs t} (h:Bk w B vs t) {j:Nat} {v:Value} (hv:vs[j]?=some v):w.cell? ⟨B,j,none⟩=some v:=by
 unfold Bk at h;simp only [World.cell?,h];simpa using hv
theorem Bk.frozen {w B vs t} (h:Bk w B vs t) (o:Nat):w.frozen? ⟨B,o,none⟩=false:=by
 unfold Bk at h;simp [World.frozen?,h]
theorem Bk.set {w B vs t} (h:Bk w B vs t) (j:Nat) (v:Value):Bk (w.setCell ⟨B,j,none⟩ v) B (vs.set j v) t:=by
 unfold Bk at *;simp [World.setCell,Array.getElem?_modify,h]
theorem Bk.of {w w' B vs t} (h:Bk w B vs t) (hb:w'.heap[B]?=w.heap[B]?):Bk w' B vs t:=hb.trans h
def stl (B:Nat):Nat→List Value→World→World
 | _,[],w=>w
 | o,v :: vs,w=>stl B (o+1) vs (w.setCell ⟨B,o,none⟩ v)
theorem stl_at (B:Nat):∀(vs:List Value) (o:Nat) (w:World),(stl B o vs w).os=w.os∧(stl B o vs w).tape=w.tape∧(stl B o vs w).output=w.output∧(stl B o vs w).heap.size=w.heap.size∧∀k,k≠B→(stl B o vs w).heap[k]?=w.heap[k]?
 | [],o,w=>⟨rfl,rfl,rfl,rfl,fun _ _=>rfl⟩
 | v :: vs,o,w=>by
  obtain ⟨h1,h2,h3,h4,h5⟩:=stl_at B vs (o+1) (w.setCell ⟨B,o,none⟩ v);refine ⟨h1,h2,h3,?_,fun k hk=>?_⟩
  ·show (stl B (o+1) vs (w.setCell ⟨B,o,none⟩ v)).heap.size=_;rw [h4];simp [World.setCell]
  ·show (stl B (o+1) vs (w.setCell ⟨B,o,none⟩ v)).heap[k]?=_;rw [h5 k hk];exact Below.heap_setCell _ _ _ _ hk
theorem st_new {w w6:World} {B:Nat} {us:List Value} {t:TypeId} (vs:List Value) (h:Bk w6 B us t) (hu:NoU us.toArray) (hb:Below w.heap.size w w6) (hB:w.heap.size≤B) :
  Below w.heap.size w (stl B 0 vs w6)∧Kp w6 (stl B 0 vs w6)∧∀k,k≠B→(stl B 0 vs w6).heap[k]?=w6.heap[k]?:=by
 obtain ⟨h1,h2,h3,h4,h5⟩:=stl_at B vs 0 w6;refine ⟨hb.trans ⟨h1,h2,h3,by omega,fun k hk=>h5 k (by omega)⟩,⟨h1,h2,h3,by omega,fun k _=>?_⟩,h5⟩;by_cases hk:k=B
 ·subst hk;exact .inr ⟨_,t,(0,0),h,hu⟩
 ·exact .inl (h5 k hk)
theorem stl_bk {B:Nat} {t:TypeId}:∀(vs us:List Value) (o:Nat) (w:World),us.length=o+vs.length→Bk w B us t→Bk (stl B o vs w) B (us.take o++vs) t
 | [],us,o,w,hl,h=>by
  rw [List.append_nil,List.take_of_length_le (by simp at hl;omega)];exact h
 | v :: vs,us,o,w,hl,h=>by
  have hl':us.length=o+(vs.length+1):=hl;have:=stl_bk vs (us.set o v) (o+1) (w.setCell ⟨B,o,none⟩ v) (by rw [List.length_set];omega) (h.set o v);have e:(us.set o v).take (o+1)++vs=us.take o++v :: vs:=by
   rw [List.take_add_one,List.take_set_of_le (Nat.le_refl _),List.getElem?_set_self (by omega),List.append_assoc];rfl
  rw [e] at this;exact this
def NmV (L:Nat) (w:World) (t:Nm) (q:Rat):Prop:=Rn L w t.s t.x t.n t.c t.f t.y t.m t.d t.g q
theorem NmV.below {L w w' t q} (h:NmV L w t q) (hb:Below w.heap.size w w'):NmV L w' t q:=Rn.below h hb
structure CV where
 nm:ByteArray
 cost:Rat
 li:Int
 lq:Rat
 hi:Int
 hq:Rat
structure RV where
 nm:ByteArray
 li:Int
 lq:Rat
 hi:Int
 hq:Rat
 ts:List (Int × Rat)
structure ColV (L:Nat) (w:World) (c:Lc) (v:CV):Prop where
 nm:c.nm=v.nm
 cost:NmV L w c.cost v.cost
 li:c.lo.i=v.li
 lq:NmV L w c.lo.v v.lq
 hi:c.hi.i=v.hi
 hq:NmV L w c.hi.v v.hq
structure RowV (L:Nat) (w:World) (r:Lr) (v:RV):Prop where
 nm:r.nm=v.nm
 li:r.lo.i=v.li
 lq:NmV L w r.lo.v v.lq
 hi:r.hi.i=v.hi
 hq:NmV L w r.hi.v v.hq
 tk:r.tk=v.ts.length
 tl:∀p z q,v.ts[p]?=some (z,q)→r.col p=z∧NmV L w (r.T p) q∧∃b o,r.ta=some ⟨b,o,none⟩∧C4 w b (o+p*4) (.int .i64 (r.col p)) (.bool (r.T p).s) (.slice (r.T p).x (r.T p).n (r.T p).c) (.slice (r.T p).y (r.T p).m (r.T p).d)
theorem ColV.below {L w w' c v} (h:ColV L w c v) (hb:Below w.heap.size w w'):ColV L w' c v:=⟨h.nm,h.cost.below hb,h.li,h.lq.below hb,h.hi,h.hq.below hb⟩
theorem RowV.below {L w w' c v} (h:RowV L w c v) (hb:Below w.heap.size w w'):RowV L w' c v:=⟨h.nm,h.li,h.lq.below hb,h.hi,h.hq.below hb,h.tk,fun p z q e=>by
 obtain ⟨h1,h2,b,o,h3,h4⟩:=h.tl p z q e;exact ⟨h1,h2.below hb,b,o,h3,h4.below hb⟩⟩
structure MoV (L:Nat) (w:World) (M:Mo) (q:Rat) (cs:List CV) (rs:List RV):Prop where
 off:NmV L w M.off q
 ck:M.ck=cs.length
 rk:M.rk=rs.length
 cls:∀j v,cs[j]?=some v→(∃b o,M.ca=some ⟨b,o,none⟩∧Cs w b (o+j*12) (M.C j).vs)∧ColV L w (M.C j) v
 rls:∀j v,rs[j]?=some v→(∃b o,M.ra=some ⟨b,o,none⟩∧Cs w b (o+j*10) (M.R j).vs)∧RowV L w (M.R j) v
theorem MoV.below {L w w' M q cs rs} (h:MoV L w M q cs rs) (hb:Below w.heap.size w w'):MoV L w' M q cs rs :=
 ⟨h.off.below hb,h.ck,h.rk,fun j v e=>by obtain ⟨⟨b,o,h1,h2⟩,h3⟩:=h.cls j v e;exact ⟨⟨b,o,h1,h2.below hb⟩,h3.below hb⟩,fun j v e=>by obtain ⟨⟨b,o,h1,h2⟩,h3⟩:=h.rls j v e;exact ⟨⟨b,o,h1,h2.below hb⟩,h3.below hb⟩⟩
theorem NmV.nms {L w t q} (h:NmV L w t q) (hL:L≤65536):NmS w t∧nfB t=true:=by
 obtain ⟨h1,h2⟩:=Rn.nm h hL;exact ⟨h1,h2⟩
theorem RowV.tls {L w r v} (h:RowV L w r v) (hL:L≤65536):Tl w r.ta r.tk r.col r.T:=fun j hj=>by
 rw [h.tk] at hj;obtain ⟨⟨z,q⟩,hz⟩:∃x,v.ts[j]?=some x:=⟨_,List.getElem?_eq_getElem hj⟩;obtain ⟨_,h2,b,o,h3,h4⟩:=h.tl j z q hz;exact ⟨b,o,h3,h4,(h2.nms hL).1⟩
theorem MoV.mor {L w M q cs rs} (h:MoV L w M q cs rs) (hL:L≤65536) (hc:cs.length≤64) (hr:rs.length≤64) (hn:∀v,v ∈ cs→v.nm.size≤1000) (hm:∀v,v ∈ rs→v.nm.size≤1000∧v.ts.length≤1000):MoR w M:=by
 refine ⟨(h.off.nms hL).1,fun j hj=>?_,fun j hj=>?_,by rw [h.ck];omega,by rw [h.rk];omega⟩
 ·rw [h.ck] at hj;obtain ⟨v,hv⟩:∃x,cs[j]?=some x:=⟨_,List.getElem?_eq_getElem hj⟩;obtain ⟨⟨b,o,h1,h2⟩,h3⟩:=h.cls j v hv;have:=hn v (List.mem_of_getElem? hv);exact ⟨b,o,h1,h2,(h3.cost.nms hL).1,(h3.lq.nms hL).1,(h3.hq.nms hL).1,by rw [h3.nm];omega⟩
 ·rw [h.rk] at hj;obtain ⟨v,hv⟩:∃x,rs[j]?=some x:=⟨_,List.getElem?_eq_getElem hj⟩;obtain ⟨⟨b,o,h1,h2⟩,h3⟩:=h.rls j v hv;have:=hm v (List.mem_of_getElem? hv);exact ⟨b,o,h1,h2,(h3.lq.nms hL).1,(h3.hq.nms hL).1,h3.tls hL,by rw [h3.tk];omega,by rw [h3.nm];omega⟩
theorem MoV.kp {L w w' M q cs rs} (h:MoV L w M q cs rs) (hk:Kp w w') {b0:Nat} (hne:∀k,k≠b0→w'.heap[k]?=w.heap[k]?) (hno:∀o v,w.cell? ⟨b0,o,none⟩=some v→(∀s,v≠.string s)∧∀k z,v≠.int k z):MoV L w' M q cs rs:=by
 have hc:∀b o vs,(∃s,vs[0]?=some (Value.string s))→Cs w b o vs→Cs w' b o vs:=fun b o vs ⟨s,hs⟩ h j v e=>by
  have hb:b≠b0:=fun e=>(hno (o+0) (.string s) (e ▸ h 0 _ hs)).1 s rfl
  exact (World.cell?_of_block (a:=⟨b,o+j,none⟩) (hne b hb)).trans (h j v e)
 have h4:∀b o z a1 a2 a3,C4 w b o (.int .i64 z) a1 a2 a3→C4 w' b o (.int .i64 z) a1 a2 a3:=fun b o z a1 a2 a3 h=>by
  have hb:b≠b0:=fun e=>(hno o _ (e ▸ h.x0)).2 _ z rfl
  exact ⟨(World.cell?_of_block (a:=⟨b,o,none⟩) (hne b hb)).trans h.x0,(World.cell?_of_block (a:=⟨b,o+1,none⟩) (hne b hb)).trans h.x1,(World.cell?_of_block (a:=⟨b,o+2,none⟩) (hne b hb)).trans h.x2,(World.cell?_of_block (a:=⟨b,o+3,none⟩) (hne b hb)).trans h.x3⟩
 refine ⟨Rn.kp h.off hk,h.ck,h.rk,fun j v e=>?_,fun j v e=>?_⟩
 ·obtain ⟨⟨b,o,h1,h2⟩,h3⟩:=h.cls j v e;exact ⟨⟨b,o,h1,hc _ _ _ ⟨_,rfl⟩ h2⟩,h3.nm,Rn.kp h3.cost hk,h3.li,Rn.kp h3.lq hk,h3.hi,Rn.kp h3.hq hk⟩
 ·obtain ⟨⟨b,o,h1,h2⟩,h3⟩:=h.rls j v e;refine ⟨⟨b,o,h1,hc _ _ _ ⟨_,rfl⟩ h2⟩,h3.nm,h3.li,Rn.kp h3.lq hk,h3.hi,Rn.kp h3.hq hk,h3.tk,fun p z q' e'=>?_⟩;obtain ⟨k1,k2,b',o',k3,k4⟩:=h3.tl p z q' e';exact ⟨k1,Rn.kp k2 hk,b',o',k3,h4 _ _ _ _ _ _ k4⟩
def GX (L:Nat) (i:Int) (q:Rat) (v:Value) (w:World):Prop:=∃e:Ex,v=e.val∧e.i=i∧NmV L w e.v q
def GC (L:Nat) (cv:CV) (v:Value) (w:World):Prop:=∃c:Lc,v=.agg c.vs.toArray∧ColV L w c cv
def GT (l:List (Int × Nm)) (v:Value) (w:World):Prop:=∃b,v=.slice (some ⟨b,0,none⟩) l.length l.length∧∀p z t,l[p]?=some (z,t)→C4 w b (0+p*4) (.int .i64 z) (.bool t.s) (.slice t.x t.n t.c) (.slice t.y t.m t.d)
theorem GX.below {L i q v w w'} (h:GX L i q v w) (hb:Below w.heap.size w w'):GX L i q v w':=by
 obtain ⟨e,h1,h2,h3⟩:=h;exact ⟨e,h1,h2,h3.below hb⟩
theorem GC.below {L i v w w'} (h:GC L i v w) (hb:Below w.heap.size w w'):GC L i v w':=by
 obtain ⟨e,h1,h2⟩:=h;exact ⟨e,h1,h2.below hb⟩
theorem GT.below {l v w w'} (h:GT l v w) (hb:Below w.heap.size w w'):GT l v w':=by
 obtain ⟨b,h1,h2⟩:=h;exact ⟨b,h1,fun p z t e=>(h2 p z t e).below hb⟩
theorem kp_st5 {w w':World} {B:Nat} {a0 a1 a2 a3 a4:Value} {t:TypeId} (h:Bk w B [a0,a1,a2,a3,a4] t) (hu:NoU #[a0,a1,a2,a3,a4]) {v0 v1 v2 v3 v4:Value}
  (e:w'=((((w.setCell ⟨B,0,none⟩ v0).setCell ⟨B,1,none⟩ v1).setCell ⟨B,2,none⟩ v2).setCell ⟨B,3,none⟩ v3).setCell ⟨B,4,none⟩ v4):Kp w w'∧∀k,k≠B→w'.heap[k]?=w.heap[k]?:=by
 obtain ⟨w1,h1⟩:∃x,x=w.setCell ⟨B,0,none⟩ v0:=⟨_,rfl⟩;obtain ⟨w2,h2⟩:∃x,x=w1.setCell ⟨B,1,none⟩ v1:=⟨_,rfl⟩;obtain ⟨w3,h3⟩:∃x,x=w2.setCell ⟨B,2,none⟩ v2:=⟨_,rfl⟩;obtain ⟨w4,h4⟩:∃x,x=w3.setCell ⟨B,3,none⟩ v3:=⟨_,rfl⟩;rw [←h1,←h2,←h3,←h4] at e;have g:∀(a b:World) o v,b=a.setCell ⟨B,o,none⟩ v→b.os=a.os∧b.tape=a.tape∧b.output=a.output∧b.heap.size=a.heap.size∧∀k,k≠B→b.heap[k]?=a.heap[k]?:=fun a b o v e=>by
  subst e;exact ⟨rfl,rfl,rfl,by simp [World.setCell],fun k hk=>Below.heap_setCell _ _ _ _ hk⟩
 obtain ⟨a1,b1,c1,d1,e1⟩:=g _ _ _ _ h1;obtain ⟨a2,b2,c2,d2,e2⟩:=g _ _ _ _ h2;obtain ⟨a3,b3,c3,d3,e3⟩:=g _ _ _ _ h3;obtain ⟨a4,b4,c4,d4,e4⟩:=g _ _ _ _ h4;obtain ⟨a5,b5,c5,d5,e5⟩:=g _ _ _ _ e;have hne:∀k,k≠B→w'.heap[k]?=w.heap[k]?:=fun k hk=>by rw [e5 k hk,e4 k hk,e3 k hk,e2 k hk,e1 k hk]
 refine ⟨⟨by rw [a5,a4,a3,a2,a1],by rw [b5,b4,b3,b2,b1],by rw [c5,c4,c3,c2,c1],by omega,fun k _=>?_⟩,hne⟩;by_cases hk:k=B
 ·subst hk;exact .inr ⟨_,t,(0,0),h,hu⟩
 ·exact .inl (hne k hk)
theorem below_st5 {w0 w:World} {B:Nat} {u0 u1 u2 u3 u4:Value} (hw:Below w0.heap.size w0 w) (hB:w0.heap.size≤B) :
  Below w0.heap.size w0 (((((w.setCell ⟨B,0,none⟩ u0).setCell ⟨B,1,none⟩ u1).setCell ⟨B,2,none⟩ u2).setCell ⟨B,3,none⟩ u3).setCell ⟨B,4,none⟩ u4) :=
 below_turned hw hw.size ((((((Turned.refl w0.heap.size (B+1) w).set (x:=⟨B,0,none⟩) hB (by simp) _).set (x:=⟨B,1,none⟩) hB (by simp) _).set (x:=⟨B,2,none⟩) hB (by simp) _).set (x:=⟨B,3,none⟩) hB (by simp) _).set (x:=⟨B,4,none⟩) hB (by simp) _) (Nat.le_refl _)
theorem noc5 {w:World} {B:Nat} {s:Bool} {x1 x2 x3 x4:Option Addr} {n1 n2 n3 n4 c1 c2 c3 c4:Nat} {t:TypeId} (h:Bk w B [.bool s,.slice x1 n1 c1,.slice x2 n2 c2,.slice x3 n3 c3,.slice x4 n4 c4] t):∀o v,w.cell? ⟨B,o,none⟩=some v→(∀s,v≠.string s)∧∀k z,v≠.int k z:=fun o v e=>by
 unfold Bk at h;simp only [World.cell?,h] at e
 match o,e with
 | 0,e=>simp at e;subst e;exact ⟨(fun _ h=>nomatch h),(fun _ _ h=>nomatch h)⟩
 | 1,e=>simp at e;subst e;exact ⟨(fun _ h=>nomatch h),(fun _ _ h=>nomatch h)⟩
 | 2,e=>simp at e;subst e;exact ⟨(fun _ h=>nomatch h),(fun _ _ h=>nomatch h)⟩
 | 3,e=>simp at e;subst e;exact ⟨(fun _ h=>nomatch h),(fun _ _ h=>nomatch h)⟩
 | 4,e=>simp at e;subst e;exact ⟨(fun _ h=>nomatch h),(fun _ _ h=>nomatch h)⟩
 | o+5,e=>simp at e
theorem nou5 (s:Bool) (x1 x2 x3 x4:Option Addr) (n1 n2 n3 n4 c1 c2 c3 c4:Nat):NoU #[Value.bool s,.slice x1 n1 c1,.slice x2 n2 c2,.slice x3 n3 c3,.slice x4 n4 c4]:=nou_list (l:=[Value.bool s,.slice x1 n1 c1,.slice x2 n2 c2,.slice x3 n3 c3,.slice x4 n4 c4]) (fun u hu q=>by simp at hu;rcases hu with rfl | rfl | rfl | rfl | rfl <;> simp)
theorem cs_new (w:World) (t:TypeId) (l l':List Value) (o:Nat) (h:∀j v,l'[j]?=some v→l[o+j]?=some v):Cs (w.alloc (.cells l.toArray t)) w.heap.size o l':=fun j v e=>by
 have:=h j v e;simp only [World.cell?,heap_alloc_new];simpa using this
theorem cs_app (w:World) (t:TypeId) (a b:List Value):Cs (w.alloc (.cells (a++b).toArray t)) w.heap.size 0 a∧Cs (w.alloc (.cells (a++b).toArray t)) w.heap.size a.length b :=
 ⟨cs_new w t _ _ 0 (fun j v e=>by rw [Nat.zero_add,List.getElem?_append_left (List.getElem?_eq_some_iff.1 e).1];exact e),cs_new w t _ _ _ (fun j v e=>by rw [List.getElem?_append_right (by omega),Nat.add_sub_cancel_left];exact e)⟩
theorem cs4 {w:World} {b o:Nat} {a0 a1 a2 a3:Value} (h:Cs w b o [a0,a1,a2,a3]):C4 w b o a0 a1 a2 a3:=⟨h 0 _ rfl,h 1 _ rfl,h 2 _ rfl,h 3 _ rfl⟩
def tvs (z:Int) (t:Nm):List Value:=[.int .i64 z,.bool t.s,.slice t.x t.n t.c,.slice t.y t.m t.d]
theorem gt_new2 (w:World) (ty:TypeId) (z0 z1:Int) (t0 t1:Nm):GT [(z0,t0),(z1,t1)] (.slice (some ⟨w.heap.size,0,none⟩) 2 2) (w.alloc (.cells (tvs z0 t0++tvs z1 t1).toArray ty)):=by
 obtain ⟨h1,h2⟩:=cs_app w ty (tvs z0 t0) (tvs z1 t1);refine ⟨w.heap.size,rfl,fun p z t e=>?_⟩
 match p,e with
 | 0,e=>cases e;exact cs4 h1
 | 1,e=>cases e;exact cs4 h2
def bdB (li:Int) (lq:Rat) (hi:Int) (hq:Rat):Bool:=(decide (li=0) || (decide (li=-1) && decide (lq=0))) && (decide (hi=0) || (decide (hi=1) && decide (hq=0)))
def tsB (n:Nat):Int→List (Int × Rat)→Bool
 | _,[]=>true
 | last,(z,q) :: r=>decide (last<z) && (decide (z<(n:Int)) && (decide (q≠0) && tsB n z r))
def nmC (cs:List CV) (j:Nat):ByteArray:=(cs[j]?.map CV.nm).getD ByteArray.empty
def nmR (rs:List RV) (j:Nat):ByteArray:=(rs[j]?.map RV.nm).getD ByteArray.empty
def mvOk (cs:List CV) (rs:List RV):Bool:=decide (cs.length≤64) && (decide (rs.length≤64) && (cs.all (fun v=>bdB v.li v.lq v.hi v.hq) && (rs.all (fun v=>bdB v.li v.lq v.hi v.hq && (tsB cs.length (-1) v.ts && decide (v.ts.length≤1000))) && (nms (nmC cs) cs.length 0 && (nms (nmR rs) rs.length 0 && (!(twr (nmC cs) cs.length 0) && !(twr (nmR rs) rs.length 0)))))))
theorem nms_congr {S S':Nat→ByteArray}:∀{r i:Nat},(∀j,i≤j→j<i+r→S j=S' j)→nms S r i=nms S' r i
 | 0,_,_=>rfl
 | r+1,i,h=>by simp only [nms];rw [h i (by omega) (by omega),nms_congr (fun j a b=>h j (by omega) (by omega))]
theorem saw_congr {S S':Nat→ByteArray} {i:Nat} (h:∀j,j≤i→S j=S' j):sawB S i=sawB S' i:=by
 rw [Bool.eq_iff_iff,sawB_iff,sawB_iff];exact ⟨fun ⟨j,h1,h2⟩=>⟨j,h1,by rw [←h j (by omega),←h i (by omega)];exact h2⟩,fun ⟨j,h1,h2⟩=>⟨j,h1,by rw [h j (by omega),h i (by omega)];exact h2⟩⟩
theorem twr_congr {S S':Nat→ByteArray}:∀{r i:Nat},(∀j,j<i+r→S j=S' j)→twr S r i=twr S' r i
 | 0,_,_=>rfl
 | r+1,i,h=>by simp only [twr];rw [saw_congr (fun j hj=>h j (by omega)),twr_congr (fun j b=>h j (by omega))]
theorem idx_congr {S S':Nat→ByteArray} {z:ByteArray}:∀{r i:Nat},(∀j,i≤j→j<i+r→S j=S' j)→idx S z r i=idx S' z r i
 | 0,_,_=>rfl
 | r+1,i,h=>by simp only [idx];rw [h i (by omega) (by omega),idx_congr (fun j a b=>h j (by omega) (by omega))]
theorem nms_size {S:Nat→ByteArray}:∀{r i:Nat},nms S r i=true→∀j,i≤j→j<i+r→(S j).size≤16
 | 0,_,_,j,h1,h2=>by omega
 | r+1,i,h,j,h1,h2=>by
  simp only [nms,Bool.and_eq_true] at h;by_cases e:j=i
  ·subst e;have:=h.1;simp only [isNm,Bool.and_eq_true,decide_eq_true_eq] at this;omega
  ·exact nms_size h.2 j (by omega) (by omega)
theorem crl_congr {B B':Nat→Bool}:∀{i:Nat},(∀j,j<i→B j=B' j)→crl B i=crl B' i
 | 0,_=>rfl
 | i+1,h=>by unfold crl;rw [crl_congr (fun j hj=>h j (by omega)),h i (by omega)]
theorem clsB_of {C:Nat→Lc}:∀{r i:Nat},(∀j,i≤j→j<i+r→nfB (C j).cost=true∧abB (C j).lo (C j).hi=true)→clsB C r i=true
 | 0,_,_=>rfl
 | r+1,i,h=>by simp only [clsB];rw [(h i (by omega) (by omega)).1,(h i (by omega) (by omega)).2,clsB_of (fun j a b=>h j (by omega) (by omega))];rfl
theorem rlsB_of {R:Nat→Lr}:∀{r i:Nat},(∀j,i≤j→j<i+r→abB (R j).lo (R j).hi=true∧tfB (R j).tk (R j).col (R j).T=true)→rlsB R r i=true
 | 0,_,_=>rfl
 | r+1,i,h=>by simp only [rlsB];rw [(h i (by omega) (by omega)).1,(h i (by omega) (by omega)).2,rlsB_of (fun j a b=>h j (by omega) (by omega))];rfl
theorem alB_of {k:Nat} {R:Nat→Lr}:∀{r i:Nat},(∀j,i≤j→j<i+r→lastB k (R j)=true)→alB k R r i=true
 | 0,_,_=>rfl
 | r+1,i,h=>by simp only [alB];rw [h i (by omega) (by omega),alB_of (fun j a b=>h j (by omega) (by omega))];rfl
theorem NmV.ex {L w} {e:Ex} {i:Int} {q:Rat} (h:NmV L w e.v q) (hi:e.i=i) (hb:i=0∨(i=-1∨i=1)∧q=0):exF e=true :=
 En.ef (L:=L) (w:=w) (q:=q) ⟨h,by rw [hi];exact hb⟩
theorem ab_of {L w} {a b:Ex} {li:Int} {lq:Rat} {hi:Int} {hq:Rat} (h1:NmV L w a.v lq) (e1:a.i=li) (h2:NmV L w b.v hq) (e2:b.i=hi) (h:bdB li lq hi hq=true):abB a b=true:=by
 simp only [bdB,Bool.and_eq_true,Bool.or_eq_true,decide_eq_true_eq] at h;have f1:=h1.ex e1 (by rcases h.1 with h | h;exact .inl h;exact .inr ⟨.inl h.1,h.2⟩);have f2:=h2.ex e2 (by rcases h.2 with h | h;exact .inl h;exact .inr ⟨.inr h.1,h.2⟩);simp only [abB,f1,f2,Bool.true_and,Bool.and_eq_true,decide_eq_true_eq];rw [e1,e2];omega
theorem tsB_at {n:Nat}:∀{l:List (Int × Rat)} {last:Int},tsB n last l=true→(∀(p:Nat) z q,l[p]?=some (z,q)→last<z∧z<(n:Int)∧q≠0)∧∀(p:Nat) z q z' q',l[p]?=some (z,q)→l[p+1]?=some (z',q')→z<z'
 | [],_,_=>⟨fun p z q h=>by simp at h,fun p z q z' q' h=>by simp at h⟩
 | (a,b) :: r,last,h=>by
  simp only [tsB,Bool.and_eq_true,decide_eq_true_eq] at h;obtain ⟨h1,h2,h3,h4⟩:=h;obtain ⟨k1,k2⟩:=tsB_at h4;refine ⟨fun p z q e=>?_,fun p z q z' q' e e'=>?_⟩
  ·cases p with
   | zero=>simp at e;obtain ⟨rfl,rfl⟩:=e;exact ⟨h1,h2,h3⟩
   | succ p=>have:=k1 p z q (by simpa using e);exact ⟨by omega,this.2⟩
  ·cases p with
   | zero =>
    simp at e;obtain ⟨rfl,rfl⟩:=e
    exact (k1 0 z' q' (by simpa using e')).1
   | succ p=>exact k2 p z q z' q' (by simpa using e) (by simpa using e')
theorem RowV.tf {L w r v n} (h:RowV L w r v) (hL:L≤65536) (ht:tsB n (-1) v.ts=true):tfB r.tk r.col r.T=true∧lastB n r=true:=by
 obtain ⟨k1,k2⟩:=tsB_at ht;have hg:∀p,p<r.tk→∃z q,v.ts[p]?=some (z,q):=fun p hp=>by
  rw [h.tk] at hp;obtain ⟨⟨z,q⟩,e⟩:∃x,v.ts[p]?=some x:=⟨_,List.getElem?_eq_getElem hp⟩;exact ⟨z,q,e⟩
 refine ⟨tfr_of (fun j _ hj=>?_) (fun j _ hj=>?_) (fun h0=>?_),?_⟩
 ·obtain ⟨z,q,e⟩:=hg j (by omega);obtain ⟨_,h2,_⟩:=h.tl j z q e;refine ⟨(h2.nms hL).2,?_⟩;have:=(k1 j z q e).2.2;have hz:=Rn.q_zero h2;rcases Nat.eq_zero_or_pos (r.T j).n with h0 | h0
  ·exact absurd (hz.2 h0) this
  ·exact h0
 ·obtain ⟨z,q,e⟩:=hg j (by omega);obtain ⟨z',q',e'⟩:=hg (j+1) (by omega);rw [(h.tl j z q e).1,(h.tl (j+1) z' q' e').1];exact k2 j z q z' q' e e'
 ·obtain ⟨z,q,e⟩:=hg 0 h0;rw [(h.tl 0 z q e).1];exact (k1 0 z q e).1
 ·simp only [lastB,Bool.or_eq_true,decide_eq_true_eq];by_cases h0:r.tk=0
  ·exact .inl h0
  ·obtain ⟨z,q,e⟩:=hg (r.tk-1) (by omega);rw [(h.tl _ z q e).1];exact .inr (k1 _ z q e).2.1
theorem MoV.nmc {L w M q cs rs} (h:MoV L w M q cs rs):∀j,j<M.ck→(M.C j).nm=nmC cs j:=fun j hj=>by
 rw [h.ck] at hj;obtain ⟨v,hv⟩:∃x,cs[j]?=some x:=⟨_,List.getElem?_eq_getElem hj⟩;rw [nmC,hv,(h.cls j v hv).2.nm];rfl
theorem MoV.nmr {L w M q cs rs} (h:MoV L w M q cs rs):∀j,j<M.rk→(M.R j).nm=nmR rs j:=fun j hj=>by
 rw [h.rk] at hj;obtain ⟨v,hv⟩:∃x,rs[j]?=some x:=⟨_,List.getElem?_eq_getElem hj⟩;rw [nmR,hv,(h.rls j v hv).2.nm];rfl
theorem MoV.chk {L w M q cs rs} (h:MoV L w M q cs rs) (hL:L≤65536) (ho:mvOk cs rs=true):chkE M=0∧MoR w M:=by
 simp only [mvOk,Bool.and_eq_true,decide_eq_true_eq,List.all_eq_true,Bool.not_eq_true'] at ho;obtain ⟨l1,l2,o1,o2,n1,n2,t1,t2⟩:=ho;have hcv:∀j,j<M.ck→∃v,cs[j]?=some v:=fun j hj=>by rw [h.ck] at hj;exact ⟨_,List.getElem?_eq_getElem hj⟩
 have hrv:∀j,j<M.rk→∃v,rs[j]?=some v:=fun j hj=>by rw [h.rk] at hj;exact ⟨_,List.getElem?_eq_getElem hj⟩
 have hF:moF M=true:=by
  simp only [moF,Bool.and_eq_true];refine ⟨(h.off.nms hL).2,clsB_of (fun j _ hj=>?_),rlsB_of (fun j _ hj=>?_)⟩
  ·obtain ⟨v,hv⟩:=hcv j (by omega);obtain ⟨_,k⟩:=h.cls j v hv;exact ⟨(k.cost.nms hL).2,ab_of k.lq k.li k.hq k.hi (o1 v (List.mem_of_getElem? hv))⟩
  ·obtain ⟨v,hv⟩:=hrv j (by omega);obtain ⟨_,k⟩:=h.rls j v hv;have o:=o2 v (List.mem_of_getElem? hv);exact ⟨ab_of k.lq k.li k.hq k.hi o.1,(k.tf hL o.2.1).1⟩
 have hA:alB M.ck M.R M.rk 0=true:=alB_of (fun j _ hj=>by
  obtain ⟨v,hv⟩:=hrv j (by omega);obtain ⟨_,k⟩:=h.rls j v hv;rw [h.ck];exact (k.tf hL (o2 v (List.mem_of_getElem? hv)).2.1).2)
 have e1:nms (fun j=>(M.C j).nm) M.ck 0=true:=by rw [nms_congr (S':=nmC cs) (fun j _ hj=>h.nmc j (by omega)),h.ck];exact n1
 have e2:nms (fun j=>(M.R j).nm) M.rk 0=true:=by rw [nms_congr (S':=nmR rs) (fun j _ hj=>h.nmr j (by omega)),h.rk];exact n2
 have e3:twr (fun j=>(M.C j).nm) M.ck 0=false:=by rw [twr_congr (S':=nmC cs) (fun j hj=>h.nmc j (by omega)),h.ck];exact t1
 have e4:twr (fun j=>(M.R j).nm) M.rk 0=false:=by rw [twr_congr (S':=nmR rs) (fun j hj=>h.nmr j (by omega)),h.rk];exact t2
 have e0:(decide (64<M.ck) || decide (64<M.rk))=false:=by rw [h.ck,h.rk];simp;omega
 refine ⟨by unfold chkE;rw [e0,hF,e1,e2,e3,e4,hA];rfl,h.mor hL l1 l2 (fun v hv=>?_) (fun v hv=>?_)⟩
 ·obtain ⟨j,hj⟩:=List.getElem?_of_mem hv;have:=nms_size n1 j (by omega) (by have:=(List.getElem?_eq_some_iff.1 hj).1;omega);rw [nmC,hj] at this;exact Nat.le_trans this (by decide)
 ·obtain ⟨j,hj⟩:=List.getElem?_of_mem hv;have:=nms_size n2 j (by omega) (by have:=(List.getElem?_eq_some_iff.1 hj).1;omega);rw [nmR,hj] at this;exact ⟨Nat.le_trans this (by decide),(o2 v hv).2.2⟩
def cvB (li:Int) (lq:Rat) (hi:Int) (hq:Rat):Bool:=decide (hi<li) || (decide (li=hi) && decide (hq<lq))
theorem abv_of {L w} {a b:Ex} {li:Int} {lq:Rat} {hi:Int} {hq:Rat} (h1:NmV L w a.v lq) (e1:a.i=li) (h2:NmV L w b.v hq) (e2:b.i=hi):abvB a b=cvB li lq hi hq:=by
 unfold abvB cvB;rw [Rn.nq h1,Rn.nq h2,e1,e2]
def cvC (cs:List CV) (j:Nat):Bool:=(cs[j]?.map (fun v=>cvB v.li v.lq v.hi v.hq)).getD false
def cvR (rs:List RV) (j:Nat):Bool:=(rs[j]?.map (fun v=>cvB v.li v.lq v.hi v.hq)).getD false
theorem MoV.crl {L w M q cs rs} (h:MoV L w M q cs rs):crl (ccB M.C) M.ck=crl (cvC cs) cs.length∧crl (rcB M.R) M.rk=crl (cvR rs) rs.length:=by
 refine ⟨?_,?_⟩
 ·rw [crl_congr (B':=cvC cs) (fun j hj=>?_),h.ck];rw [h.ck] at hj;obtain ⟨v,hv⟩:∃x,cs[j]?=some x:=⟨_,List.getElem?_eq_getElem hj⟩;obtain ⟨_,k⟩:=h.cls j v hv;rw [cvC,hv];exact abv_of k.lq k.li k.hq k.hi
 ·rw [crl_congr (B':=cvR rs) (fun j hj=>?_),h.rk];rw [h.rk] at hj;obtain ⟨v,hv⟩:∃x,rs[j]?=some x:=⟨_,List.getElem?_eq_getElem hj⟩;obtain ⟨_,k⟩:=h.rls j v hv;rw [cvR,hv];exact abv_of k.lq k.li k.hq k.hi
theorem MoV.row {L w M q cs rs} (h:MoV L w M q cs rs) (e:chkE M=0) (z:ByteArray):atRow M z=plc (idx (nmR rs) z rs.length 0):=by
 rw [atRow,if_pos e,idx_congr (S':=nmR rs) (fun j _ hj=>h.nmr j (by omega)),h.rk]
theorem MoV.col {L w M q cs rs} (h:MoV L w M q cs rs) (e:chkE M=0) (z:ByteArray):atCol M z=plc (idx (nmC cs) z cs.length 0):=by
 rw [atCol,if_pos e,idx_congr (S':=nmC cs) (fun j _ hj=>h.nmc j (by omega)),h.ck]
end Go.Proofs.YtdbbncamlaiajaaGreat
