/-
 Walks.
-/
import Derived.Test.YtgmmlmmahdnnhaaGreatZ2
import Derived.Test.YtgmmlmmahdnnhaaGreatZ3
import Derived.BigQuiet
import Derived.Deep.RegionHeld3
import Derived.Test.YtgmmlmmahdnnhaaGreatZ0
import Derived.Deep.CutRange
import Derived.ProofKit
import Derived.OpenShut
import Derived.ChangeSame
import Derived.Deep.Slices
import Derived.SizedLaws
import Derived.Test.YtgmmlmmahdnnhaaGreatRows
import Derived.Test.YtgmmlmmahdnnhaaGreatChecked
import Derived.Deep.DeepHandedRow
set_option maxRecDepth 100000
set_option maxHeartbeats 16000000
namespace Go.Proofs.YtgmmlmmahdnnhaaGreat
open Value (slice)
open Obj (cells)
open Nat (le_refl le_trans zero_add)
open World (cell?_of_block block_lt_of_cell?)
open List (getElem?_eq_getElem)
open Go.Proofs.Tryz
open Go.RowKit
def Cl0 (w:World) (ao:Option Addr) (k:Nat) (C:Nat->Lc):Prop:=∀j,j<k->∃b o,ao=some ⟨b,o,none⟩/\Cs w b (o+j*12) (C j).vs
def Rl0 (w:World) (ao:Option Addr) (k:Nat) (R:Nat->Lr):Prop:=∀j,j<k->∃b o,ao=some ⟨b,o,none⟩/\Cs w b (o+j*10) (R j).vs/\Tr w (R j).ta (R j).tk (R j).col (R j).T/\(R j).tk<=9223372036854775807
theorem Cl0.q_ {w w' ao k C} (h:Cl0 w ao k C) (hb:Bl w w'):Cl0 w' ao k C:=λj hj=>by
 obtain⟨b,o,e,h1⟩:=h j hj;exact⟨b,o,e,h1.q_ hb⟩
theorem Rl0.q_ {w w' ao k R} (h:Rl0 w ao k R) (hb:Bl w w'):Rl0 w' ao k R:=λj hj=>by
 obtain⟨b,o,e,h1,h2,h3⟩:=h j hj;exact⟨b,o,e,h1.q_ hb,h2.q_ hb,h3⟩
def lgN (K:Nat) (t:Nm):Bool:=lg t.n t.m K
def cl3 (K:Nat) (c:Lc):Bool:=lgN K c.cost && (lgN K c.lo.v && lgN K c.hi.v)
def rl3 (K:Nat) (r:Lr):Bool:=decide (r.tk<=300) && (lgN K r.lo.v && (lgN K r.hi.v && nlg K r.T r.tk 0))
def clgs (K:Nat) (C:Nat->Lc):Nat->Bool
 | 0=>true
 | i+1=>clgs K C i && cl3 K (C i)
def rlgs (K:Nat) (R:Nat->Lr):Nat->Bool
 | 0=>true
 | i+1=>rlgs K R i && rl3 K (R i)
def lgM (K:Nat) (M:Mo):Bool:=(decide (64<M.ck) || decide (64<M.rk)) || (lgN K M.off && (clgs K M.C M.ck && rlgs K M.R M.rk))
theorem zlK {w M} {K:Nat} (hC:Cl0 w M.ca M.ck M.C) (hR:Rl0 w M.ra M.rk M.R):Calls prog 5 #[M.val,.int .i64 K] w λr w'=>r=.returned (.bool (lgM K M))/\Bl w w':=by
 obtain⟨⟨s,x,n,c,f,y,m,d,g⟩,ca,ck,cc,C,ra,rk,rc,R⟩:=M;have HC:Hid (Cl0 w ca ck C):=hC;have HRL:Hid (Rl0 w ra rk R):=hR;obtain⟨v0,hv0⟩:∃z,lgN K ⟨s,x,n,c,f,y,m,d,g⟩=z:=⟨_,rfl⟩;obtain⟨ans,hans⟩:∃z,lgM K ⟨⟨s,x,n,c,f,y,m,d,g⟩,ca,ck,cc,C,ra,rk,rc,R⟩=z:=⟨_,rfl⟩;rw[hans];have HA:=zi (show ans=((decide (64<ck) || decide (64<rk)) || (v0 && (clgs K C ck && rlgs K R rk)))from by rw[<-hans,<-hv0];rfl);have C0:Hid (∀w',Calls prog 7 #[.agg #[.bool s,slice x n c,slice y m d],.int .i64 K] w' λe w2=>e=.returned (.bool v0)/\Bl w' w2):=λw'=>hv0 ▸ zaD K s x y n c m d w'
 clear hv0 hans hC hR;show Calls prog 5 #[.agg #[.bool s,slice x n c,slice y m d,slice ca ck cc,slice ra rk rc],.int .i64 K] w _;by_cases h1:64<ck
 ·have HV:Hid (ans=true):=by show _=_;rw[HA.out];simp[h1]
  have e1:(ck:Int) > 64:=by omega
  clear HA h1;go_enter func5,ntmps5;go_wp2;go_ret;refine⟨?_,zk (Below.refl _ _) _⟩;rw[HV.out];rfl
 by_cases h2:64<rk
 ·have HV:Hid (ans=true):=by show _=_;rw[HA.out];simp[h2]
  have e1:¬(ck:Int) > 64:=by omega
  have e2:(rk:Int) > 64:=by omega
  clear HA h1 h2;go_enter func5,ntmps5;go_wp2;go_ret;refine⟨?_,zk (Below.refl _ _) _⟩;rw[HV.out];rfl
 have HV:Hid (ans=(v0 && (clgs K C ck && rlgs K R rk))):=by show _=_;rw[HA.out];simp[h1,h2]
 have e1:¬(ck:Int) > 64:=by omega
 have e2:¬(rk:Int) > 64:=by omega
 have l1:ck<=64:=by omega
 have l2:rk<=64:=by omega
 clear HA h1 h2;go_enter func5,ntmps5;go_wp2_with fail
 refine(C0.out _).mono ?_;rintro r w1 ⟨rfl,hb1⟩;have k3:=kCb hb1 (a:=⟨w.heap.size,3,none⟩) (v:=slice ca ck cc) (by simp[go_sem]);have HK4:=zi (kCb hb1 (a:=⟨w.heap.size,4,none⟩) (v:=slice ra rk rc) (by simp[go_sem]));have HB1:=zi ((zE w (cells #[.bool s,slice x n c,slice y m d,slice ca ck cc,slice ra rk rc] 28)).trans (hb1.mono (by simp)));clear hb1 C0;go_wp2_with fail
 go_loopw[5,28] (λov t wr=>∃(i:Nat) (v:Bool),i<=ck/\t=.int .i64 i/\ov=.bool v/\Hid (Bl w1 wr)/\Hid (v=(v0 && clgs K C i))) (λ_ t _=>ck-(intOf t).toNat)
 case atStart=>exact⟨0,v0,by omega,rfl,rfl,Below.refl _ _,by show _=_;simp[clgs]⟩
 case round =>
  obtain⟨i,v,hi,rfl,rfl,HB,HI⟩:=hrel;by_cases hlt:i<ck
  ·obtain⟨b,o,rfl,hc⟩:=(HC.out.q_ (bUp HB1.out HB.out)) i hlt;obtain⟨t1,ht1⟩:∃t,lgN K (C i).cost=t:=⟨_,rfl⟩;obtain⟨t2,ht2⟩:∃t,lgN K (C i).lo.v=t:=⟨_,rfl⟩;obtain⟨t3,ht3⟩:∃t,lgN K (C i).hi.v=t:=⟨_,rfl⟩;have HT:=zi (show(v0 && clgs K C (i+1))=(v && (t1 && (t2 && t3)))from by
    rw[HI.out,<-ht1,<-ht2,<-ht3];show(v0 && (clgs K C i && cl3 K (C i)))=_;rw[Bool.and_assoc];rfl)
   obtain⟨⟨z,⟨s0,x0,n0,c0,f0,y0,m0,d0,g0⟩,⟨i1,⟨s1,x1,n1,c1,f1,y1,m1,d1,g1⟩⟩,⟨i2,⟨s2,x2,n2,c2,f2,y2,m2,d2,g2⟩⟩⟩,hCi⟩:∃t,C i=t:=⟨_,rfl⟩;rw[hCi]at hc ht1 ht2 ht3
   have C1:Hid (∀w',Calls prog 7 #[.agg #[.bool s0,slice x0 n0 c0,slice y0 m0 d0],.int .i64 K] w' λe w2=>e=.returned (.bool t1)/\Bl w' w2):=λw'=>ht1 ▸ zaD K s0 x0 y0 n0 c0 m0 d0 w'
   have C2:Hid (∀w',Calls prog 7 #[.agg #[.bool s1,slice x1 n1 c1,slice y1 m1 d1],.int .i64 K] w' λe w2=>e=.returned (.bool t2)/\Bl w' w2):=λw'=>ht2 ▸ zaD K s1 x1 y1 n1 c1 m1 d1 w'
   have C3:Hid (∀w',Calls prog 7 #[.agg #[.bool s2,slice x2 n2 c2,slice y2 m2 d2],.int .i64 K] w' λe w2=>e=.returned (.bool t3)/\Bl w' w2):=λw'=>ht3 ▸ zaD K s2 x2 y2 n2 c2 m2 d2 w'
   obtain⟨q0,q1,q2,q3,q4,q5,q6,q7,q8,q9,q10,q11⟩:=hc.lc;have i1':((i:Nat):Int)<((ck:Nat):Int):=by omega
   have hb5:=zE wr (cells #[.string z,.bool s0,slice x0 n0 c0,slice y0 m0 d0,.int .i64 i1,.bool s1,slice x1 n1 c1,slice y1 m1 d1,.int .i64 i2,.bool s2,slice x2 n2 c2,slice y2 m2 d2] 59);have HB5:=zM HB hb5;obtain⟨-,b1,b2,b3,-,b5,b6,b7,-,b9,b10,b11⟩:=zeQ (zI wr [.string z,.bool s0,slice x0 n0 c0,slice y0 m0 d0,.int .i64 i1,.bool s1,slice x1 n1 c1,slice y1 m1 d1,.int .i64 i2,.bool s2,slice x2 n2 c2,slice y2 m2 d2] 59);clear hCi ht1 ht2 ht3 hc hb5 HI;go_upto_region 7 with fail
   clear q0 q1 q2 q3 q4 q5 q6 q7 q8 q9 q10 q11 HB;generalize wr.alloc (cells #[.string z,.bool s0,slice x0 n0 c0,slice y0 m0 d0,.int .i64 i1,.bool s1,slice x1 n1 c1,slice y1 m1 d1,.int .i64 i2,.bool s2,slice x2 n2 c2,slice y2 m2 d2] 59)=w5 at *;cases v
   ·go_wp2;go_roundw
    case rel=>exact⟨i+1,false,by omega,by go_num,rfl,HB5.out,by show _=_;rw[HT.out];rfl⟩
    case measure=>simp[intOf];omega
   ·go_wp2_with fail
    refine(C1.out _).mono ?_;rintro r w6 ⟨rfl,hb6⟩;replace b5:=kCb hb6 b5;replace b6:=kCb hb6 b6;replace b7:=kCb hb6 b7;replace b9:=kCb hb6 b9;replace b10:=kCb hb6 b10;replace b11:=kCb hb6 b11;have HB6:=zM HB5 hb6;clear hb6 C1 HB5;cases t1
    ·go_wp2;go_roundw
     case rel=>exact⟨i+1,false,by omega,by go_num,rfl,HB6.out,by show _=_;rw[HT.out];rfl⟩
     case measure=>simp[intOf];omega
    go_wp2_with fail
    refine(C2.out _).mono ?_;rintro r w7 ⟨rfl,hb7⟩;replace b9:=kCb hb7 b9;replace b10:=kCb hb7 b10;replace b11:=kCb hb7 b11;have HB7:=zM HB6 hb7;clear hb7 C2 HB6;cases t2
    ·go_wp2;go_roundw
     case rel=>exact⟨i+1,false,by omega,by go_num,rfl,HB7.out,by show _=_;rw[HT.out];rfl⟩
     case measure=>simp[intOf];omega
    go_wp2_with fail
    refine(C3.out _).mono ?_;rintro r w8 ⟨rfl,hb8⟩;have HB8:=zM HB7 hb8;clear hb8 C3 HB7;cases t3
    ·go_wp2;go_roundw
     case rel=>exact⟨i+1,false,by omega,by go_num,rfl,HB8.out,by show _=_;rw[HT.out];rfl⟩
     case measure=>simp[intOf];omega
    go_wp2;go_roundw
    case rel=>exact⟨i+1,true,by omega,by go_num,rfl,HB8.out,by show _=_;rw[HT.out];rfl⟩
    case measure=>simp[intOf];omega
  ·have e3:i=ck:=by omega
   have i2:¬(((i:Nat):Int)<((ck:Nat):Int)):=by omega
   have HV1:=zi (show ans=(v && rlgs K R rk)from by rw[HV.out,HI.out,e3,Bool.and_assoc]);have k4:=kCb HB.out HK4.out;have HB5:=zM HB1 HB.out;clear e3 HB HC HK4 HB1 k3 HI HV;generalize wr=wa at *;go_wp2_with fail
   go_loopw[5,57] (λov t wr=>∃(i:Nat) (u:Bool),i<=rk/\t=.int .i64 i/\ov=.bool u/\Hid (Bl wa wr)/\Hid (u=(v && rlgs K R i))) (λ_ t _=>rk-(intOf t).toNat)
   case atStart=>exact⟨0,v,by omega,rfl,rfl,Below.refl _ _,by show _=_;simp[rlgs]⟩
   case round =>
    obtain⟨i,u,hi,rfl,rfl,HB,HI⟩:=hrel;by_cases hlt:i<rk
    ·obtain⟨b,o,rfl,hc,hTr,htk⟩:=(HRL.out.q_ (bUp HB5.out HB.out)) i hlt;obtain⟨t2,ht2⟩:∃t,lgN K (R i).lo.v=t:=⟨_,rfl⟩;obtain⟨t3,ht3⟩:∃t,lgN K (R i).hi.v=t:=⟨_,rfl⟩;have hT:(v && rlgs K R (i+1))=(u && (decide ((R i).tk<=300) && (t2 && (t3 && nlg K (R i).T (R i).tk 0)))):=by
      rw[HI.out,<-ht2,<-ht3];show(v && (rlgs K R i && rl3 K (R i)))=_;rw[Bool.and_assoc];rfl
     obtain⟨⟨z,⟨i1,⟨s1,x1,n1,c1,f1,y1,m1,d1,g1⟩⟩,⟨i2,⟨s2,x2,n2,c2,f2,y2,m2,d2,g2⟩⟩,ta,tk,tc,tcol,tt⟩,hCi⟩:∃t,R i=t:=⟨_,rfl⟩;rw[hCi]at hc ht2 ht3 hTr htk hT
     have HT:Hid ((v && rlgs K R (i+1))=(u && (decide (tk<=300) && (t2 && (t3 && nlg K tt tk 0))))):=hT;replace htk:tk<=9223372036854775807:=htk;have C2:Hid (∀w',Calls prog 7 #[.agg #[.bool s1,slice x1 n1 c1,slice y1 m1 d1],.int .i64 K] w' λe w2=>e=.returned (.bool t2)/\Bl w' w2):=λw'=>ht2 ▸ zaD K s1 x1 y1 n1 c1 m1 d1 w'
     have C3:Hid (∀w',Calls prog 7 #[.agg #[.bool s2,slice x2 n2 c2,slice y2 m2 d2],.int .i64 K] w' λe w2=>e=.returned (.bool t3)/\Bl w' w2):=λw'=>ht3 ▸ zaD K s2 x2 y2 n2 c2 m2 d2 w'
     obtain⟨q0,q1,q2,q3,q4,q5,q6,q7,q8,q9⟩:=hc.lr;have i1':((i:Nat):Int)<((rk:Nat):Int):=by omega
     have hb5:=zE wr (cells #[.string z,.int .i64 i1,.bool s1,slice x1 n1 c1,slice y1 m1 d1,.int .i64 i2,.bool s2,slice x2 n2 c2,slice y2 m2 d2,slice ta tk tc] 62);have HB6:=zM HB hb5;have HTr:Hid (Tr (wr.alloc (cells #[.string z,.int .i64 i1,.bool s1,slice x1 n1 c1,slice y1 m1 d1,.int .i64 i2,.bool s2,slice x2 n2 c2,slice y2 m2 d2,slice ta tk tc] 62)) ta tk tcol tt):=Tr.q_ hTr hb5;obtain⟨-,-,b2,b3,b4,-,b6,b7,b8,b9⟩:=zeR (zI wr [.string z,.int .i64 i1,.bool s1,slice x1 n1 c1,slice y1 m1 d1,.int .i64 i2,.bool s2,slice x2 n2 c2,slice y2 m2 d2,slice ta tk tc] 62);clear hCi ht2 ht3 hc hb5 HI hTr hT;go_upto_region 12 with fail
     clear q0 q1 q2 q3 q4 q5 q6 q7 q8 q9 HB;generalize wr.alloc (cells #[.string z,.int .i64 i1,.bool s1,slice x1 n1 c1,slice y1 m1 d1,.int .i64 i2,.bool s2,slice x2 n2 c2,slice y2 m2 d2,slice ta tk tc] 62)=w5 at *;cases u
     ·go_wp2_with fail
      go_loopw[5,10] (λov t wz=>t=.int .i64 0/\ov=.bool false/\wz=w5) (λ_ _ _=>0)
      case atStart=>exact⟨rfl,rfl,rfl⟩
      case round =>
       obtain⟨rfl,rfl,rfl⟩:=hrel;go_wp2;go_roundw
       case rel=>exact⟨i+1,false,by omega,by go_num,rfl,HB6.out,by show _=_;rw[HT.out];simp⟩
       case measure=>simp[intOf];omega
     by_cases hd:tk<=300
     case neg =>
      have d1:decide ((tk:Int)<=300)=false:=by simp;omega
      have HD:=zi (show decide (tk<=300)=false from by simp;omega);clear hd;rw[HD.out]at HT
      go_wp2_with fail
      go_loopw[5,10] (λov t wz=>t=.int .i64 0/\ov=.bool false/\wz=w5) (λ_ _ _=>0)
      case atStart=>exact⟨rfl,rfl,rfl⟩
      case round =>
       obtain⟨rfl,rfl,rfl⟩:=hrel;go_wp2;go_roundw
       case rel=>exact⟨i+1,false,by omega,by go_num,rfl,HB6.out,by show _=_;rw[HT.out];simp⟩
       case measure=>simp[intOf];omega
     have d1:decide ((tk:Int)<=300)=true:=by simp;omega
     have HD:=zi (show decide (tk<=300)=true from by simp;omega);rw[HD.out]at HT
     go_wp2_with fail
     refine(C2.out _).mono ?_;rintro r w7 ⟨rfl,hb7⟩;replace b6:=kCb hb7 b6;replace b7:=kCb hb7 b7;replace b8:=kCb hb7 b8;replace b9:=kCb hb7 b9
     have HB7:=zM HB6 hb7;replace HTr:=zi (HTr.out.q_ hb7);clear hb7 C2 HB6;cases t2
     ·go_wp2_with fail
      go_loopw[5,10] (λov t wz=>t=.int .i64 0/\ov=.bool false/\wz=w7) (λ_ _ _=>0)
      case atStart=>exact⟨rfl,rfl,rfl⟩
      case round =>
       obtain⟨rfl,rfl,rfl⟩:=hrel;go_wp2;go_roundw
       case rel=>exact⟨i+1,false,by omega,by go_num,rfl,HB7.out,by show _=_;rw[HT.out];simp⟩
       case measure=>simp[intOf];omega
     go_wp2_with fail
     refine(C3.out _).mono ?_;rintro r w8 ⟨rfl,hb8⟩;replace b9:=kCb hb8 b9;have HB8:=zM HB7 hb8;replace HTr:=zi (HTr.out.q_ hb8);clear hb8 C3 HB7 b6 b7 b8 b2 b3 b4;cases t3
     ·go_wp2_with fail
      go_loopw[5,10] (λov t wz=>t=.int .i64 0/\ov=.bool false/\wz=w8) (λ_ _ _=>0)
      case atStart=>exact⟨rfl,rfl,rfl⟩
      case round =>
       obtain⟨rfl,rfl,rfl⟩:=hrel;go_wp2;go_roundw
       case rel=>exact⟨i+1,false,by omega,by go_num,rfl,HB8.out,by show _=_;rw[HT.out];simp⟩
       case measure=>simp[intOf];omega
     go_wp2_with fail
     go_loopw[5,10] (λov t wz=>∃(k:Nat) (vv:Bool),k<=tk/\t=.int .i64 k/\ov=.bool vv/\Hid (Bl w8 wz)/\Hid ((vv && nlg K tt (tk-k) k)=nlg K tt tk 0)) (λ_ t _=>tk-(intOf t).toNat)
     case atStart=>exact⟨0,true,by omega,rfl,rfl,Below.refl _ _,by show _=_;simp⟩
     case round =>
      rename_i wz0 _ _ _ _ _;obtain⟨k,vv,hk,rfl,rfl,HBz,HK⟩:=hrel;have b9z:=kCb HBz.out b9;have HBo:=zM HB8 HBz.out;cases vv
      ·have HU:=zi (show nlg K tt tk 0=false from by rw[<-HK.out];rfl);clear HK HBz;go_wp2;go_roundw
       case rel=>exact⟨i+1,false,by omega,by go_num,rfl,HBo.out,by show _=_;rw[HT.out,HU.out];simp⟩
       case measure=>simp[intOf];omega
      ·by_cases hkt:k<tk
       ·obtain⟨tb,tq,hta,⟨_,g1',g2',g3'⟩,_⟩:=(HTr.out.q_ HBz.out) k hkt;obtain⟨⟨sn,xn,nn,cn,fn,yn,mn,dn',gn⟩,hTk⟩:∃t,tt k=t:=⟨_,rfl⟩;obtain⟨t5,ht5⟩:∃t,lg (tt k).n (tt k).m K=t:=⟨_,rfl⟩;obtain⟨r,hr⟩:∃r,tk-k=r+1:=⟨tk-k-1,by omega⟩;have HN:=zi (show(t5 && nlg K tt (tk-(k+1)) (k+1))=nlg K tt tk 0 from by
         rw[<-HK.out,hr,show tk-(k+1)=r by omega,<-ht5];rfl)
        rw[hTk]at g1' g2' g3' ht5
        subst hta;have C5:Hid (∀w',Calls prog 7 #[.agg #[.bool sn,slice xn nn cn,slice yn mn dn'],.int .i64 K] w' λe w2=>e=.returned (.bool t5)/\Bl w' w2):=λw'=>ht5 ▸ zaD K sn xn yn nn cn mn dn' w'
        have i5:((k:Nat):Int)<((tk:Nat):Int):=by omega
        clear hTk ht5 hr HK;go_wp2_with fail
        refine(C5.out _).mono ?_;rintro r w9 ⟨rfl,hb9⟩;have HB9:=zM HBz hb9;clear hb9 HBz C5 HBo;go_wp2;go_roundw
        case rel=>exact⟨k+1,t5,by omega,by go_num,rfl,HB9.out,HN.out⟩
        case measure=>simp[intOf];omega
       ·have e5:k=tk:=by omega
        have HU:=zi (show nlg K tt tk 0=true from by rw[<-HK.out,e5,Nat.sub_self];rfl);have i5:¬(((k:Nat):Int)<((tk:Nat):Int)):=by omega
        clear HK HBz e5;go_wp2;go_roundw
        case rel=>exact⟨i+1,true,by omega,by go_num,rfl,HBo.out,by show _=_;rw[HT.out,HU.out];simp⟩
        case measure=>simp[intOf];omega
    ·have e3:i=rk:=by omega
     have i2:¬(((i:Nat):Int)<((rk:Nat):Int)):=by omega
     have HV2:=zi (show ans=u from by rw[HV1.out,HI.out,e3]);have HB6:=zM HB5 HB.out;clear e3 HB HI;go_wp2;go_ret;refine⟨?_,HB6.out⟩;rw[HV2.out];rfl
def Sn (t t':Nm):Prop:=t'.s=t.s/\t'.n=t.n/\t'.f=t.f/\t'.m=t.m/\t'.g=t.g
theorem Sn.nfB {t t':Nm} (h:Sn t t'):nfB t'=nfB t:=by
 obtain⟨h1,h2,h3,h4,h5⟩:=h;unfold Go.Proofs.YtgmmlmmahdnnhaaGreat.nfB;rw[h1,h2,h3,h4,h5]
theorem zoT {col T T'}:∀{r i:Nat} {last:Int},(∀j,i<=j->j<i+r->Sn (T j) (T' j))->tfr col T' r i last=tfr col T r i last:=by
 intro r
 induction r with
 | zero=>intro i last _;rfl
 | succ r ih =>
  intro i last h;have h0:=h i (by omega) (by omega);simp only[tfr];rw[ih (λj a b=>h j (by omega) (by omega)),h0.nfB,h0.2.1]
theorem Rn.sn {L w w' t t' q} (h:Rn L w t.s t.x t.n t.c t.f t.y t.m t.d t.g q) (hs:Sn t t') (hr:Rw w' t'.x t'.n t'.c t'.f t'.y t'.m t'.d t'.g):Rn L w' t'.s t'.x t'.n t'.c t'.f t'.y t'.m t'.d t'.g q:=by
 obtain⟨s,x,n,c,f,y,m,d,g⟩:=t;obtain⟨s',x',n',c',f',y',m',d',g'⟩:=t';obtain⟨rfl,rfl,rfl,rfl,rfl⟩:=hs;exact⟨⟨hr.rx,hr.lx,h.num.wf,hr.cx,hr.nx,h.num.val⟩,⟨hr.ry,hr.ly,h.den.wf,hr.cy,hr.ny,h.den.val⟩,h.ln,h.ld⟩
theorem zbz {P} (w:World) {ops o a K Q E} (hgd:o.guard=none) (s x:Operand) (t:TypeId) (ho:o.op=.call { callee:=.builtin .append,args:=#[s,x],argTypes:=#[t,t] }) (base:Nat) (e:TypeId) (i:TypeInfo) (z:Value) (size bytes:Nat) (ht:P.underlying t=some (.slice e)) (hi:P.info? e=some i) (hz:i.zero=some z) (hsize:i.size=size) (hby:i.bytes=bytes) (hzs:z.cells.size=size) (hsz:0<size) (hzu:NoU z.cells) (v:Value) (n:Nat) (xs:List Value) (hs:a.eval s=v) (hown:RowG e size base w v n xs) (ad:Addr) (m c:Nat) (news:List Value) (hx:a.eval x=slice (some ad) m c) (hl:news.length=m*size) (hnews:∀j u,news[j]?=some u->w.cell? (ad.add j)=some u) (h1:∀u ∈ news,u.oneCell'=true) (hnu:∀u ∈ news,∀z,u≠.int .u64 z) (hm0:0<m) (h63:n+m<=maxLen) (hbytes:(n+m)*bytes<=140737488355328) (hbase:base<=w.heap.size) (hK:∀g cap' w',RowG e size base w' (slice (some ⟨g,0,none⟩) (n+m) cap') (n+m) (xs++news)->w.grownBy w' v.ownBlock->Kp w w'->(v.ownBlock=some g∨w.heap.size<=g)->K (a.put o.dst (slice (some ⟨g,0,none⟩) (n+m) cap')) w'):if Region.wanted o (yielded ops a.tmps)=true then Oper.wp P o a w K Q else E:=by
 subst hsize;subst hby
 obtain⟨v',w',hrun,h1',h2',h3'⟩:=run_append_own (P:=P) w base t o.type e i z i.size i.bytes ht hi hz rfl rfl hzs hsz v n xs hown.owns ad m c news hl hnews h1 h63 hbytes hbase;have hlen:(xs++news).length=(n+m)*i.size:=by rw[List.length_append,hown.1,hl,Nat.add_mul]
 have hzc:∀k,NoU (Builtin.zeroCells z.cells k):=by
  intro k j y hj;simp only[Builtin.zeroCells]at hj;have hm:=Array.mem_of_getElem? hj;obtain⟨q,_,he⟩:=Array.mem_map.1 hm;have hlt:q%z.cells.size<z.cells.size:=Nat.mod_lt _ (by omega);rw[getElem!_pos z.cells (q%z.cells.size) hlt]at he
  exact hzu (q%z.cells.size) y (by rw[Array.getElem?_eq_getElem hlt,he])
 have hnu':NoU news.toArray:=zW hnu;have hw:∃g cap' cur',v'=slice (some ⟨g,0,none⟩) (n+m) cap'/\base<=g/\w'.heap[g]?=some (cells cur' e (0,0))/\n+m<=cap'/\cap'<=maxLen/\cur'.size=cap'*i.size/\cur'.toList.take ((n+m)*i.size)=xs++news/\NoU cur'/\Kp w w'/\(v.ownBlock=some g∨w.heap.size<=g):=by
  have hsm:n+m<=9223372036854775807:=by unfold maxLen at h63;omega
  rcases h1'.2 with⟨hv0,hn0⟩|⟨g',cap',cur',hv',hb',hg',hn',hc',hs',ht'⟩
  ·omega
  ·refine⟨g',cap',cur',hv',hb',hg',hn',hc',hs',ht',?_⟩;rcases hown.2 with⟨rfl,rfl⟩|⟨g,cap,cur,rfl,hbg,hg,hnc,hcm,hcs,htake,hnuc⟩
   ·have hx0:xs=[]:=List.eq_nil_of_length_eq_zero (by simpa using hown.1);subst hx0;have e1:=run_append_nil (P:=P) w t o.type e i z ht hi hz ad m c news hl hnews hm0 (by omega) (by rw[zero_add]at hbytes;omega);rw[e1]at hrun
    injection hrun with e2 e3;subst e3;rw[hv']at e2
    injection e2 with e4;injection e4 with e5;injection e5 with e6;subst e6;have e7:=heap_alloc_new w.drew (cells (news.toArray++Builtin.zeroCells z.cells (grownCap w m 0 e-m)) e);rw[show w.heap.size=w.drew.heap.size from rfl,e7]at hg'
    injection hg' with e8;injection e8 with e9;rw[<-e9];exact⟨zaq hnu' (hzc _),(Kp.refl w).drew.alloc _,.inr (le_refl _)⟩
   ·by_cases hroom:n+m<=cap
    ·have e1:=run_append_room (P:=P) w t o.type e i ht hi g n cap cur hg ad m c news hl hnews h1 hroom (by rw[hl,hcs,<-Nat.add_mul];exact Nat.mul_le_mul_right _ hroom);rw[e1]at hrun
     injection hrun with e2 e3;rw[hv']at e2
     injection e2 with e4;injection e4 with e5;injection e5 with e6;subst e6;have e7:w'.heap[g]?=some (cells (cur.toList.take (n*i.size)++news++cur.toList.drop (n*i.size+news.length)).toArray e (0,0)):=by rw[<-e3];exact setRow_heap w g cur _ e _ hg
     rw[e7]at hg'
     injection hg' with e8;injection e8 with e9;rw[<-e9];refine⟨zW ?_,⟨h2'.os,h2'.tape,h2'.output,h2'.size,λk hk=>?_⟩,.inl rfl⟩
     ·intro u hu;rcases List.mem_append.1 hu with hu|hu
      ·rcases List.mem_append.1 hu with hu|hu
       ·exact zbe hnuc u (List.mem_of_mem_take hu)
       ·exact hnu u hu
      ·exact zbe hnuc u (List.mem_of_mem_drop hu)
     ·by_cases hkg:k=g
      ·subst hkg;exact .inr ⟨cur,e,(0,0),hg,hnuc⟩
      ·exact .inl (h2'.block k hk (λe=>hkg (by simpa[Value.ownBlock]using e)))
    ·have holds:∀j u,xs[j]?=some u->w.cell? ((⟨g,0,none⟩:Addr).add j)=some u:=World.ownsRow.cells hown.owns (g:=g) rfl;have e1:=run_append_grow (P:=P) w t o.type e i z ht hi hz ⟨g,0,none⟩ n cap xs hown.1 holds ad m c news hl hnews (by omega) (by omega) (growslice_fits (by omega) hbytes);rw[e1]at hrun
     injection hrun with e2 e3;subst e3;rw[hv']at e2
     injection e2 with e4;injection e4 with e5;injection e5 with e6;subst e6;have e7:=heap_alloc_new w.drew (cells (xs.toArray++news.toArray++Builtin.zeroCells z.cells (grownCap w (n+m) cap e-(n+m))) e);rw[show w.heap.size=w.drew.heap.size from rfl,e7]at hg'
     injection hg' with e8;injection e8 with e9;rw[<-e9];refine⟨zaq (zaq (zW ?_) hnu') (hzc _),(Kp.refl w).drew.alloc _,.inr (le_refl _)⟩;intro u hu;rw[<-htake]at hu
     exact zbe hnuc u (List.mem_of_mem_take hu)
 obtain⟨g,cap',cur',rfl,a1,a2,a3,a4,a5,a6,a7,a8,a9⟩:=hw;have hwt:Region.wanted o (yielded ops a.tmps)=true:=by simp[Region.wanted,hgd]
 rw[if_pos hwt];unfold Oper.wp execOp;simp only[ho,resolve,invoke,builtin,Sem.run_bind,Sem.run_pure,Result.andThen_ok,List.map_toArray,List.map_cons,List.map_nil,hs,hx,hrun];exact hK g cap' w' ⟨hlen,.inr ⟨g,cap',cur',rfl,a1,a2,a3,a4,a5,a6,a7⟩⟩ h2' a8 a9
theorem zcZ {P} (w0:World) {ops o a K Q E} (hgd:o.guard=none) (s x:Operand) (t:TypeId) (ho:o.op=.call { callee:=.builtin .append,args:=#[s,x],argTypes:=#[t,t] }) (base:Nat) (e:TypeId) (bytes sz:Nat) (z:Value) (ht:P.underlying t=some (.slice e)) (hi:(P.info? e).map (λi=>(i.zero,i.size,i.bytes))=some (some z,sz,bytes)) (hzs:z.cells.size=sz) (hsz:0<sz) (hzu:NoU z.cells) (v:Value) (n:Nat) (xs:List Value) (hs:a.eval s=v) (hown:RowG e sz base w0 v n xs) (c:Array Value) (hx:a.eval x=slice (some ⟨w0.heap.size,0,none⟩) 1 1) (hc:c.size=sz) (h1:∀u ∈ c.toList,u.oneCell'=true) (hnu:∀u ∈ c.toList,∀q,u≠.int .u64 q) (hn:n+1<=9223372036854775807) (hby:(n+1)*bytes<=140737488355328) (hbase:base<=w0.heap.size) (hK:∀g cap' w',RowG e sz base w' (slice (some ⟨g,0,none⟩) (n+1) cap') (n+1) (xs++c.toList)->Kp w0 w'->(∀b0:World,Bl b0 w0->b0.heap.size<=base->Bl b0 w')->(∀k,k<w0.heap.size->v.ownBlock≠some k->w'.heap[k]?=w0.heap[k]?)->(v.ownBlock=some g∨w0.heap.size<=g)->K (a.put o.dst (slice (some ⟨g,0,none⟩) (n+1) cap')) w'):if Region.wanted o (yielded ops a.tmps)=true then Oper.wp P o a (w0.alloc (cells c e)) K Q else E:=by
 obtain⟨i,hi,hz0,hz1,hz2⟩:=info_parts hi;have hal:=zE w0 (cells c e);have hblk:=heap_alloc_new w0 (cells c e);have hrow:=hown.q_ hal;refine zbz (w0.alloc (cells c e)) hgd s x t ho base e i z sz bytes ht hi hz0 hz1 hz2 hzs hsz hzu v n xs hs hrow ⟨w0.heap.size,0,none⟩ 1 1 c.toList hx (by simp[hc]) (λj u hu=>?_) h1 hnu (by decide) (by unfold maxLen;omega) ?_ (by simp;omega) ?_
 ·rw[addr_add,zero_add];simp only[World.cell?,hblk];simpa using hu
 ·exact hby
 ·intro g cap' w' hr hgr hkp hwh;refine hK g cap' w' hr ((Kp.of_below hal).trans hkp) (λb0 hb hle=>?_) (λk hk hne=>(hgr.block k (by simp;omega) (λe=>hne e.symm)).trans (hal.block k hk)) (hwh.imp id (λh=>by simp at h;omega));have h2:Bl b0 (w0.alloc (cells c e)):=bUp hb hal;exact h2.grown hgr (by have:=hb.size;simp;omega) (λk hk=>by have:=(hrow.lt k hk).1;omega)
def zqt (w w':World) (e:Ending) (k:Nat) (col:Nat->Int) (T:Nat->Nm):Prop:=∃aw cw T',e=.returned (slice aw k cw)/\Bl w w'/\(k<=cw/\cw<=9223372036854775807)/\(∀b o s,aw=some ⟨b,o,s⟩->w.heap.size<=b)/\Hid (Tr w' aw k col T'/\∀j,j<k->Sn (T j) (T' j))
theorem zkB {w ao k cap col T} (h:Tr w ao k col T) (hk:k<=2199023255552) (hl:∀j,j<k->(T j).n<=17592186044416/\(T j).m<=17592186044416) :
  Calls prog 24 #[slice ao k cap] w λe w'=>zqt w w' e k col T:=by
 have H:=zi h;clear h;go_enter func24,ntmps24;go_wp2_with fail
 go_loopw[3,8] (λov t wr=>∃(i:Nat) (T':Nat->Nm),i<=k/\t=.int .i64 i/\Hid (Bl w wr)/\Hid (RowG 64 4 w.heap.size wr ov i (zbb (tls i col T')))/\Hid (∀j,j<i->Sn (T j) (T' j)/\Rw wr (T' j).x (T' j).n (T' j).c (T' j).f (T' j).y (T' j).m (T' j).d (T' j).g)) (λ_ t _=>k-(intOf t).toNat)
 case atStart=>exact⟨0,T,by omega,rfl,Below.refl _ _,zaK _ _ _ _,λj hj=>by omega⟩
 case round =>
  obtain⟨i,T',hi,rfl,HB,HRow,HT⟩:=hrel;by_cases hlt:i<k
  ·obtain⟨b,o,rfl,hc,hn⟩:=(H.out.q_ HB.out) i hlt;obtain⟨⟨s,x,n,c,f,y,m,d,g⟩,hTi⟩:∃t,T i=t:=⟨_,rfl⟩;rw[hTi]at hc hn
   obtain⟨z,hz⟩:∃z,col i=z:=⟨_,rfl⟩;rw[hz]at hc
   obtain⟨x0,x1,x2,x3⟩:=hc;replace x0:wr.cell? ⟨b,o+i*4,none⟩=some (.int .i64 z):=x0;replace x1:wr.cell? ⟨b,o+i*4+1,none⟩=some (.bool s):=x1;replace x2:wr.cell? ⟨b,o+i*4+2,none⟩=some (slice x n c):=x2;replace x3:wr.cell? ⟨b,o+i*4+3,none⟩=some (slice y m d):=x3;have i1:((i:Nat):Int)<((k:Nat):Int):=by omega
   obtain⟨hn10,hm10⟩:=hl i hlt;rw[hTi]at hn10 hm10
   have HN:=zi hn;have HZ:=zi hz;have HTi:=zi hTi
   clear hn hz hTi;go_upto_region 5 with fail
   have hb5:=zE wr (cells #[.int .i64 z,.bool s,slice x n c,slice y m d] 64);obtain⟨a0,a1,a2,a3⟩:=bk4 (zI wr [.int .i64 z,.bool s,slice x n c,slice y m d] 64);have hne:u3.ownBlock≠some wr.heap.size:=λe=>by have:=(HRow.out.lt _ e).2;omega
   replace HN:=zi (HN.out.q_ hb5);replace HRow:=zi (HRow.out.q_ hb5)
   replace HT:Hid (∀j,j<i->Sn (T j) (T' j)/\Rw (wr.alloc (cells #[.int .i64 z,.bool s,slice x n c,slice y m d] 64)) (T' j).x (T' j).n (T' j).c (T' j).f (T' j).y (T' j).m (T' j).d (T' j).g):=λj hj=>⟨(HT.out j hj).1,(HT.out j hj).2.q_ hb5⟩
   replace HB:=zM HB hb5;clear x0 x1 x2 x3 hb5;have hsz:w.heap.size<=(wr.alloc (cells #[.int .i64 z,.bool s,slice x n c,slice y m d] 64)).heap.size:=HB.out.size;generalize wr.alloc (cells #[.int .i64 z,.bool s,slice x n c,slice y m d] 64)=w5 at *;have CT:Hid (∀W,Bl w5 W->Calls prog 10 #[.agg #[.bool s,slice x n c,slice y m d]] W λe w'=>∃z6 c6 z7 c7,e=.returned (.agg #[.bool s,slice z6 n c6,slice z7 m c7])/\Bl W w'/\Hid (Rw w' z6 n c6 f z7 m c7 g)):=λW hW=>zci (HN.out.q_ hW) hn10 hm10
   go_region_held3 (λw'=>w'.cell? ⟨wr.heap.size,0,none⟩=some (.int .i64 z)/\w'.cell? ⟨wr.heap.size,1,none⟩=some (.bool s)/\w'.cell? ⟨wr.heap.size,2,none⟩=some (slice x n c)/\w'.cell? ⟨wr.heap.size,3,none⟩=some (slice y m d))
    (refine⟨?_,?_,?_,?_⟩ <;> repeat(with_reducible first|assumption|refine kCd ?_|refine kCa ?_|refine kCb (by assumption) ?_))
    (first
     | (go_at_call 10;with_reducible refine(CT.out _ zV).mono ?_;rintro e w6 ⟨z6,c6,z7,c7,rfl,hb6,HQ⟩;have B6:Bl w5 w6:=zV;have HRow6:=HRow.out.q_ B6;have hz6:w.heap.size<=w6.heap.size:=le_trans hsz B6.size;have a06:=kCb B6 a0;have a16:=kCb B6 a1;have a26:=kCb B6 a2;have a36:=kCb B6 a3;have hlt6:=block_lt_of_cell? w6 _ a06)
     | (refine zcZ w6 rfl (.tmp 12) (.tmp 19) 60 rfl w.heap.size 64 64 4 (.agg #[.int .i64 0,.bool false,slice none 0 0,slice none 0 0]) underlying60 zlR rfl (by decide) nz4 u3 i (zbb (tls i col T')) rfl HRow6 #[.int .i64 z,.bool s,slice z6 n c6,slice z7 m c7] rfl rfl (zqH _ _ _ _ _ _ _ _) (zpZ _ _ _ _ _ _ _ _) ?p1 ?p2 hz6 ?_;(case p1=>omega);(case p2=>omega);intro g8 cap8 w8 hr8 hk8 hb8 hg8 _;have h88:=hg8 wr.heap.size hlt6 hne;have a08:=(cell?_of_block (a:=⟨wr.heap.size,0,none⟩) h88).trans a06;have a18:=(cell?_of_block (a:=⟨wr.heap.size,1,none⟩) h88).trans a16;have a28:=(cell?_of_block (a:=⟨wr.heap.size,2,none⟩) h88).trans a26;have a38:=(cell?_of_block (a:=⟨wr.heap.size,3,none⟩) h88).trans a36))
   all_goals
    (have HB8:=zi (hb8 w (bUp HB.out B6) (le_refl _))
     have HR8:Hid (RowG 64 4 w.heap.size w8 (slice (some ⟨g8,0,none⟩) (i+1) cap8) (i+1) (zbb (tls (i+1) col (zaS T' i ⟨s,z6,n,c6,f,z7,m,c7,g⟩)))):=by
      show RowG _ _ _ _ _ _ _;rw[znb,HZ.out];exact hr8
     have HT8:Hid (∀j,j<i+1->Sn (T j) (zaS T' i ⟨s,z6,n,c6,f,z7,m,c7,g⟩ j)/\Rw w8 (zaS T' i ⟨s,z6,n,c6,f,z7,m,c7,g⟩ j).x (zaS T' i ⟨s,z6,n,c6,f,z7,m,c7,g⟩ j).n (zaS T' i ⟨s,z6,n,c6,f,z7,m,c7,g⟩ j).c (zaS T' i ⟨s,z6,n,c6,f,z7,m,c7,g⟩ j).f (zaS T' i ⟨s,z6,n,c6,f,z7,m,c7,g⟩ j).y (zaS T' i ⟨s,z6,n,c6,f,z7,m,c7,g⟩ j).m (zaS T' i ⟨s,z6,n,c6,f,z7,m,c7,g⟩ j).d (zaS T' i ⟨s,z6,n,c6,f,z7,m,c7,g⟩ j).g):=λj hj=>by
      by_cases e:j=i
      ·subst e;rw[zcj,HTi.out];exact⟨⟨rfl,rfl,rfl,rfl,rfl⟩,Rw.kp HQ.out hk8⟩
      ·rw[putN_ne e];exact⟨(HT.out j (by omega)).1,Rw.kp ((HT.out j (by omega)).2.q_ B6) hk8⟩
     clear hr8 hk8 hb8 hg8 h88 a08 a18 a28 a38 a06 a16 a26 a36 hlt6 hne HRow6 B6 hb6 HQ HRow HT HB CT a0 a1 a2 a3 HN hz6;go_wp2;go_roundw
     case rel=>exact⟨i+1,_,by omega,by go_num,HB8.out,HR8.out,HT8.out⟩
     case measure=>simp[intOf];omega)
  ·have e1:i=k:=by omega
   have i1:¬(((i:Nat):Int)<((k:Nat):Int)):=by omega
   rw[e1]at HRow HT
   obtain⟨aw,cw,rfl⟩:=HRow.out.slice;have hcw:k<=cw/\cw<=9223372036854775807:=by
    rcases HRow.out.2 with⟨hv,h0⟩|⟨_,_,_,hv,_,_,h5,h6,_⟩
    ·cases hv;omega
    ·cases hv;unfold maxLen at h6;omega
   clear e1;go_wp2;go_ret;exact⟨aw,cw,T',rfl,HB.out,hcw,(λb o s e=>(HRow.out.lt b (by rw[e];rfl)).1),(λj hj=>by obtain⟨b,hb,h4⟩:=zng HRow.out hj;exact⟨b,0,hb,h4,(HT.out j hj).2⟩),λj hj=>(HT.out j hj).1⟩
theorem Tl.of {w w' ao k col T} (h:Tl w ao k col T) (hb:∀b o s,ao=some ⟨b,o,s⟩->w'.heap[b]?=w.heap[b]?) (hk:Kp w w'):Tl w' ao k col T:=λj hj=>by
 obtain⟨b,o,e,⟨c0,c1,c2,c3⟩,h2,h3⟩:=h j hj;have:=hb b o none e;exact⟨b,o,e,⟨(cell?_of_block (a:=⟨b,o+j*4,none⟩) this).trans c0,(cell?_of_block (a:=⟨b,o+j*4+1,none⟩) this).trans c1,(cell?_of_block (a:=⟨b,o+j*4+2,none⟩) this).trans c2,(cell?_of_block (a:=⟨b,o+j*4+3,none⟩) this).trans c3⟩,h2.kp hk,h3⟩
theorem zeg {col T}:∀{r i:Nat} {last:Int},tfr col T r i last=true->∀p,i<=p->p<i+r->last<col p/\col p<=col (i+r-1)
 | 0,i,last,_,p,h1,h2=>by omega
 | r+1,i,last,h,p,h1,h2=>by
  simp only[tfr,Bool.and_eq_true,decide_eq_true_eq]at h;obtain⟨ha,_,_,hb⟩:=h;cases r with
  | zero =>
   obtain rfl:p=i:=by omega
   exact⟨ha,by simp⟩
  | succ r =>
   have e:i+(r+1+1)-1=i+1+(r+1)-1:=by omega
   have hn:=zeg hb (i+1) (by omega) (by omega);rw[e];by_cases hp:p=i
   ·subst hp;exact⟨ha,by omega⟩
   ·have:=zeg hb p (by omega) (by omega);exact⟨by omega,this.2⟩
theorem zmv {k R}:∀{r i:Nat},alB k R r i=true->∀j,i<=j->j<i+r->lastB k (R j)=true
 | 0,i,_,j,h1,h2=>by omega
 | r+1,i,h,j,h1,h2=>by
  simp only[alB,Bool.and_eq_true]at h;by_cases e:j=i
  ·subst e;exact h.1
  ·exact zmv h.2 j (by omega) (by omega)
theorem znU {k r} (h1:tfB r.tk r.col r.T=true) (h2:lastB k r=true):∀p,p<r.tk->0<=r.col p/\r.col p<k:=λp hp=>by
 have h3:=zeg h1 p (by omega) (by omega);simp only[lastB,Bool.or_eq_true,decide_eq_true_eq]at h2;rw[zero_add]at h3
 rcases h2 with h2|h2 <;> omega
def zez (ops:Array Oper) (j:Nat):Option Tmp:=(ops[j]?).bind (·.dst)
def depsOf (md:Region.Mode) (ops:Array Oper) (i:Nat):List Nat:=match ops[i]? with
 | none=>[]
 | some o=>(o.after.toList.filter (Region.binds md)).map (·.on)
def zeS (md:Region.Mode) (ops:Array Oper):Nat->List Nat->List Nat
 | 0,_=>[]
 | n+1,l=>(l.flatMap (depsOf md ops)).eraseDups++zeS md ops n (l.flatMap (depsOf md ops)).eraseDups
def fill (a:Act) (D:List (Nat × Tmp)) (u:Nat->Value):Act:=D.foldl (λa p=>a.put (some p.2) (u p.1)) a
theorem zaT:(∀{a:Act} {p:Nat × Tmp} {D:List (Nat × Tmp)} {u:Nat->Value},fill a (p :: D) u=fill (a.put (some p.2) (u p.1)) D u)/\(∀{a:Act} {u:Nat->Value},fill a [] u=a):=⟨rfl,rfl⟩
def zjP (a:Act) (D:List (Nat × Tmp)) (j:Nat):Value:=match D.lookup j with
 | some d=>a.tmps.getD d undef
 | none=>undef
def zef (u:Nat->Value) (i:Nat) (v:Value):Nat->Value:=λj=>if j=i then v else u j
theorem zcM (u:Nat->Value) (i:Nat) (v:Value):zef u i v i=v:=by simp[zef]
theorem zbt {u i j v} (h:j≠i):zef u i v j=u j:=by simp[zef,h]
theorem zlo (a:Act) (d:Tmp) (x y:Value):(a.put (some d) x).put (some d) y=a.put (some d) y:=by
 simp[Act.put]
theorem zjI (a:Act) {d e} (h:d≠e) (x y:Value):(a.put (some d) x).put (some e) y=(a.put (some e) y).put (some d) x:=by
 simp only[Act.put]
 congr 1
 exact Array.setIfInBounds_comm _ _ h
theorem zlp (a:Act) (d:Tmp):a.put (some d) (a.tmps.getD d undef)=a:=by
 obtain⟨t,ds⟩:=a;simp only[Act.put]
 congr 1
 apply Array.ext_getElem?;intro i;rw[Array.getElem?_setIfInBounds]
 split
 ·rename_i h;subst h
  split
  ·rename_i h2;simp[h2]
  ·rename_i h2;rw[Array.getElem?_eq_none (by omega)]
 ·rfl
theorem zhK {D d u} (v:Value):∀{a:Act},d ∉ D.map Prod.snd->(fill a D u).put (some d) v=fill (a.put (some d) v) D u:=by
 induction D with
 | nil=>intro a _;rfl
 | cons p D ih =>
  intro a h;simp only[List.map_cons,List.mem_cons,not_or]at h;show(fill (a.put (some p.2) (u p.1)) D u).put (some d) v=fill ((a.put (some d) v).put (some p.2) (u p.1)) D u;rw[ih h.2,zjI a (Ne.symm h.1)]
theorem zhL {D u u'}:∀{a:Act},(∀p,p ∈ D->u p.1=u' p.1)->fill a D u=fill a D u':=by
 induction D with
 | nil=>intro a _;rfl
 | cons p D ih =>
  intro a h;show fill (a.put (some p.2) (u p.1)) D u=fill (a.put (some p.2) (u' p.1)) D u';rw[h p (by simp),ih (λq hq=>h q (by simp[hq]))]
theorem zgN {D i d u} (v:Value):∀{a:Act},(D.map Prod.fst).Nodup->(D.map Prod.snd).Nodup->(i,d) ∈ D->(fill a D u).put (some d) v=fill a D (zef u i v):=by
 induction D with
 | nil=>intro a _ _ h;cases h
 | cons p D ih =>
  intro a h1 h2 h;simp only[List.map_cons,List.nodup_cons]at h1 h2;show(fill (a.put (some p.2) (u p.1)) D u).put (some d) v=fill (a.put (some p.2) (zef u i v p.1)) D (zef u i v);by_cases e:p.1=i
  ·have hp:p=(i,d):=by
    rcases List.mem_cons.1 h with h|h
    ·exact h.symm
    ·exact absurd (by rw[e];exact List.mem_map_of_mem (f:=Prod.fst) h) h1.1
   subst hp;rw[zhK v h2.1,zlo,zcM];exact zhL (λq hq=>(zbt (λe=>h1.1 (by show i ∈ _;rw[<-e];exact List.mem_map_of_mem (f:=Prod.fst) hq))).symm)
  ·have hm:(i,d) ∈ D:=by
    rcases List.mem_cons.1 h with h|h
    ·exact absurd (by rw[<-h]) e
    ·exact h
   rw[ih h1.2 h2.2 hm,zbt e]
theorem zfi {D u a} (h:∀p,p ∈ D->u p.1=a.tmps.getD p.2 undef):fill a D u=a:=by
 induction D with
 | nil=>rfl
 | cons p D ih =>
  show fill (a.put (some p.2) (u p.1)) D u=a;rw[h p (by simp),zlp];exact ih (λq hq=>h q (by simp[hq]))
theorem ziK {D a}:(D.map Prod.fst).Nodup->∀p,p ∈ D->zjP a D p.1=a.tmps.getD p.2 undef:=by
 intro hn p hp;have:D.lookup p.1=some p.2:=by
  induction D with
  | nil=>cases hp
  | cons x D ih =>
   simp only[List.map_cons,List.nodup_cons]at hn;rcases List.mem_cons.1 hp with rfl|hp
   ·simp[List.lookup]
   ·have hne:p.1≠x.1:=λe=>hn.1 (e ▸ List.mem_map_of_mem (f:=Prod.fst) hp)
    rw[List.lookup];have:(p.1==x.1)=false:=by simpa using hne
    rw[this];exact ih hn.2 hp
 unfold zjP;rw[this]
def zdJ (ops:Array Oper) (D:List (Nat × Tmp)) (F:List Nat):Bool:=(D.map Prod.fst==F) && decide (D.map Prod.snd).Nodup && D.all (λp=>zez ops p.1==some p.2)
def zfZ (md:Region.Mode) (ops:Array Oper) (listed:Array Bool) (F st:List Nat):Bool :=
 listed.size==ops.size && F.Nodup &&
 (List.range ops.size).all (λi=>!(listed.getD i false) || (depsOf md ops i).all (λj=>listed.getD j false)) &&
 F.all (λi=>!(listed.getD i true) && decide (i<ops.size) && !(st.contains i) && (depsOf md ops i).all (λj=>decide (j<i) && (listed.getD j false || F.contains j))) &&
 (List.range ops.size).all (λi=>listed.getD i false || F.contains i || st.contains i) &&
 st.all (λs=>!(listed.getD s true) && ((depsOf md ops s).any (λj=>st.contains j) || F.all (λj=>(zeS md ops ops.size [s]).contains j)))
def zbC (ops:Array Oper) (st:List Nat):Array Bool:=((List.range ops.size).map (λi=>!(st.contains i))).toArray
theorem mem_deps {md ops i j}:j ∈ depsOf md ops i ↔ ∃o,ops[i]?=some o/\∃e,e ∈ o.after/\Region.binds md e=true/\e.on=j:=by
 unfold depsOf;cases h:ops[i]? with
 | none=>simp
 | some o=>simp[and_assoc]
theorem zbp {md ops} {listed:Array Bool} (hc:∀i j,listed.getD i false=true->j ∈ depsOf md ops i->listed.getD j false=true) :
  ∀(n:Nat) (l:List Nat),(∀i,i ∈ l->∀j,j ∈ depsOf md ops i->listed.getD j false=true)->∀j,j ∈ zeS md ops n l->listed.getD j false=true
 | 0,_,_,j,h=>by simp[zeS]at h
 | n+1,l,hl,j,h=>by
  have h1:∀k,k ∈ (l.flatMap (depsOf md ops)).eraseDups->listed.getD k false=true:=λk hk=>by
   rw[List.mem_eraseDups,List.mem_flatMap]at hk
   obtain⟨i,hi,hki⟩:=hk;exact hl i hi k hki
  simp only[zeS,List.mem_append]at h;rcases h with h|h
  ·exact h1 j h
  ·exact zbp hc n _ (λi hi k hk=>hc i k (h1 i hi) hk) j h
theorem zaE {l:Array Bool} {i} (h:i<l.size):l.getD i true=l.getD i false:=by simp[Array.getD,h]
def left (listed:Array Bool):List Nat->Nat
 | []=>0
 | x :: F=>(if listed.getD x false=true then 0 else 1)+left listed F
theorem zet {listed i} (hi:i<listed.size) (hl:listed.getD i false=false):∀{F:List Nat},F.Nodup->left listed F=left (listed.setIfInBounds i true) F+(if i ∈ F then 1 else 0)
 | [],_=>by simp[left]
 | x :: F,h=>by
  have h':=List.nodup_cons.1 h;have ih:=zet hi hl h'.2;have hi':(listed.setIfInBounds i true).getD i false=true:=by simp[Array.getD,hi]
  simp only[left];by_cases hx:x=i
  ·subst hx;rw[hi',hl,ih];simp[h'.1];omega
  ·have h1:(listed.setIfInBounds i true).getD x false=listed.getD x false:=getD_set_ne false (Ne.symm hx);rw[h1,ih];have:(i ∈ x :: F)=(i ∈ F):=by simp[Ne.symm hx]
   simp only[this];omega
theorem zdf {listed}:∀{F:List Nat},left listed F=0->∀j,j ∈ F->listed.getD j false=true
 | [],_,j,hj=>by cases hj
 | x :: F,h,j,hj=>by
  simp only[left]at h;rcases List.mem_cons.1 hj with rfl|hj
  ·cases hb:listed.getD j false
   ·rw[hb]at h;simp at h
   ·rfl
  ·exact zdf (by omega) j hj
theorem zde {listed}:∀{F:List Nat},left listed F≠0->∃j,j ∈ F/\listed.getD j false=false
 | [],h=>absurd rfl h
 | x :: F,h=>by
  cases hb:listed.getD x false
  ·exact⟨x,by simp,hb⟩
  ·simp only[left]at h;rw[hb]at h
   obtain⟨j,h1,h2⟩:=zde (F:=F) (by simpa using h);exact⟨j,by simp[h1],h2⟩
theorem zeu {listed}:∀{F:List Nat},(∀j,j ∈ F->listed.getD j false=false)->left listed F=F.length
 | [],_=>rfl
 | x :: F,h=>by
  simp only[left,h x (by simp),List.length_cons];rw[zeu (λj hj=>h j (by simp[hj]))];simp;omega
def zpw (P:Program) (md:Region.Mode) (ops:Array Oper) (Q:Exit->Act->World->Prop) (S:World->Prop) (G:Nat->Value->World->Prop) (a0:Act) (w0:World) (D:List (Nat × Tmp)) (F:List Nat) (i:Nat):Prop :=
 ∃o,ops[i]?=some o/\∀u w,S w->Bl w0 w->(∀j,F.contains j=true->(depsOf md ops i).contains j=true->G j (u j) w) ->
  ∀K:Act->World->Prop,Shut (∀v w',Bl w w'->G i v w'->K ((fill a0 D u).put o.dst v) w')->if Region.wanted o (yielded ops (fill a0 D u).tmps)=true then Oper.wp P o (fill a0 D u) w K Q else K ((fill a0 D u).put o.dst undef) w
theorem zib {P ops Q i o K a w} (ho:ops[i]?=some o) (h:if Region.wanted o (yielded ops a.tmps)=true then Oper.wp P o a w K Q else K (a.put o.dst undef) w):wpOp P ops Q i K a w:=by
 unfold wpOp;simp only[ho]
 split at h
 ·rename_i hw;simp only[hw,if_true];exact .inl h
 ·rename_i hw;simp only[hw];exact h
theorem zbY {P md ops Q S} (G:Nat->Value->World->Prop) (D:List (Nat × Tmp)) (F st:List Nat) (listed0:Array Bool) (a0:Act) (w0:World) (fuel:Nat) (hok:zfZ md ops listed0 F st=true) (hsl:zdJ ops D F=true) (hS:∀w w',S w->Bl w w'->S w') (hG:∀j v w w',G j v w->Bl w w'->G j v w') (hstep:∀i,i ∈ F->zpw P md ops Q S G a0 w0 D F i) (hend:∀u w,S w->Bl w0 w->(∀j,j ∈ F->G j (u j) w)->wpAnyH P md ops Q S fuel (zbC ops st) (fill a0 D u) w) (hS0:S w0):wpAnyH P md ops Q S (F.length+fuel) listed0 a0 w0:=by
 simp only[zfZ,Bool.and_eq_true,beq_iff_eq]at hok;obtain⟨⟨⟨⟨⟨k1,k0⟩,k2⟩,k3⟩,k4⟩,k5⟩:=hok;have k0:F.Nodup:=of_decide_eq_true k0;have k2':∀i j,listed0.getD i false=true->j ∈ depsOf md ops i->listed0.getD j false=true:=λi j hi hj=>by
  have hlt:i<ops.size:=by
   rcases Nat.lt_or_ge i ops.size with h|h
   ·exact h
   ·rw[<-k1]at h;simp[Array.getElem?_eq_none h]at hi
  have:=List.all_eq_true.1 k2 i (List.mem_range.2 hlt);rw[hi]at this
  simpa using List.all_eq_true.1 (by simpa using this) j hj
 have k3':∀i,i ∈ F->listed0.getD i true=false/\i<ops.size/\i ∉ st/\∀j,j ∈ depsOf md ops i->j<i/\(listed0.getD j false=true∨j ∈ F):=λi hi=>by
  have:=List.all_eq_true.1 k3 i hi;simp only[Bool.and_eq_true,Bool.not_eq_true',decide_eq_true_eq]at this;obtain⟨⟨⟨a,b⟩,c⟩,d⟩:=this;refine⟨a,b,λh=>?_,λj hj=>?_⟩
  ·rw[List.contains_iff_mem.2 h]at c;cases c
  ·have:=List.all_eq_true.1 d j hj;simp only[Bool.and_eq_true,decide_eq_true_eq,Bool.or_eq_true]at this;exact⟨this.1,this.2.imp id (λh=>List.contains_iff_mem.1 h)⟩
 have k4':∀i,i<ops.size->listed0.getD i false=true∨i ∈ F∨i ∈ st:=λi hi=>by
  have:=List.all_eq_true.1 k4 i (List.mem_range.2 hi);simp only[Bool.or_eq_true]at this;rcases this with(h|h)|h
  ·exact .inl h
  ·exact .inr (.inl (List.contains_iff_mem.1 h))
  ·exact .inr (.inr (List.contains_iff_mem.1 h))
 have k5':∀s,s ∈ st->listed0.getD s true=false/\((∃j,j ∈ depsOf md ops s/\j ∈ st)∨∀j,j ∈ F->j ∈ zeS md ops ops.size [s]):=λs hs=>by
  have:=List.all_eq_true.1 k5 s hs;simp only[Bool.and_eq_true,Bool.not_eq_true',Bool.or_eq_true]at this;refine⟨this.1,this.2.imp (λh=>?_) (λh j hj=>List.contains_iff_mem.1 (List.all_eq_true.1 h j hj))⟩;obtain⟨j,h1,h2⟩:=List.any_eq_true.1 h;exact⟨j,h1,List.contains_iff_mem.1 h2⟩
 simp only[zdJ,Bool.and_eq_true,beq_iff_eq,decide_eq_true_eq]at hsl;obtain⟨⟨hf,h2⟩,h3⟩:=hsl;have h1:(D.map Prod.fst).Nodup:=hf ▸ k0;have hput:∀i,i ∈ F->∀u v,(fill a0 D u).put (zez ops i) v=fill a0 D (zef u i v):=λi hi u v=>by
  rw[<-hf]at hi
  obtain⟨⟨i',d⟩,hp,rfl⟩:=List.mem_map.1 hi;have h4:=List.all_eq_true.1 h3 _ hp;rw[beq_iff_eq.1 h4];exact zgN v h1 h2 hp
 have h0:fill a0 D (zjP a0 D)=a0:=zfi (ziK h1)
 -- at any time
 have main:∀(n:Nat) (listed:Array Bool) (u:Nat->Value) (w:World),left listed F<=n->listed.size=ops.size->(∀i,i ∉ F->listed.getD i false=listed0.getD i false)->(∀i j,listed.getD i false=true->j ∈ depsOf md ops i->listed.getD j false=true) ->
   S w->Bl w0 w->(∀j,j ∈ F->listed.getD j false=true->G j (u j) w)->∀m,m=left listed F->wpAnyH P md ops Q S (m+fuel) listed (fill a0 D u) w:=by
  intro n
  induction n with
  | zero =>
   intro listed u w hn hsz hout hcl hw hb hg m hm;have hz:left listed F=0:=by omega
   have hall:=zdf hz;have hl:listed=zbC ops st:=by
    apply Array.ext
    ·rw[hsz];simp[zbC]
    ·intro i h1 h2;have hi:i<ops.size:=by omega
     have e1:listed[i]=listed.getD i false:=by simp[Array.getD,h1]
     have e2:(zbC ops st)[i]=!(st.contains i):=by simp[zbC]
     rw[e1,e2];by_cases hF:i ∈ F
     ·rw[hall i hF];have:=(k3' i hF).2.2.1;simp[this]
     ·rw[hout i hF];by_cases hs:i ∈ st
      ·have:=(k5' i hs).1;rw[zaE (by omega)]at this
       rw[this];simp[hs]
      ·rcases k4' i hi with h|h|h
       ·rw[h];simp[hs]
       ·exact absurd h hF
       ·exact absurd h hs
   rw[hm,hz,zero_add,hl];exact hend u w hw hb (λj hj=>hg j hj (hall j hj))
  | succ n ih =>
   intro listed u w hn hsz hout hcl hw hb hg m hm;by_cases hz:left listed F=0
   ·exact ih listed u w (by omega) hsz hout hcl hw hb hg m hm
   ·obtain⟨m',rfl⟩:∃m',m=m'+1:=⟨m-1,by omega⟩
    -- one of F is ready
    have hex:=zde hz;have hmin:∀b i,i<=b->i ∈ F->listed.getD i false=false->∃i,i ∈ F/\listed.getD i false=false/\∀j,j ∈ F->j<i->listed.getD j false=true:=by
     intro b
     induction b with
     | zero=>intro i hi hF hl;exact⟨i,hF,hl,λj _ hj=>by omega⟩
     | succ b ihb =>
      intro i hi hF hl;by_cases h:∃j,j ∈ F/\j<i/\listed.getD j false=false
      ·obtain⟨j,h1,h2,h3⟩:=h;exact ihb j (by omega) h1 h3
      ·refine⟨i,hF,hl,λj h1 h2=>?_⟩;cases h3:listed.getD j false
       ·exact absurd ⟨j,h1,h2,h3⟩ h
       ·rfl
    have hne:Region.ready md ops listed≠[]:=by
     obtain⟨i0,h1,h2⟩:=hex;obtain⟨i,hF,hl,hmn⟩:=hmin i0 i0 (le_refl _) h1 h2;obtain⟨_,hlt,_,hd⟩:=k3' i hF;have:i ∈ Region.ready md ops listed:=mem_ready.2 ⟨by rw[zaE (by omega)];exact hl,ops[i],by simp[hlt],λe he hb=>by
      obtain⟨h1,h2⟩:=hd e.on (mem_deps.2 ⟨ops[i],by simp[hlt],e,he,hb,rfl⟩);by_cases hFe:e.on ∈ F
      ·exact hmn _ hFe h1
      ·rw[hout _ hFe];exact h2.resolve_right hFe⟩
     intro h;rw[h]at this;cases this
    rw[show m'+1+fuel=(m'+fuel)+1 by omega];refine⟨λh=>absurd h hne,λi hi=>?_⟩;obtain⟨hun,o,ho,hdep⟩:=mem_ready.1 hi;have hlt:i<ops.size:=(Array.getElem?_eq_some_iff.1 ho).1;have hlf:listed.getD i false=false:=by rw[<-zaE (by omega)];exact hun
    have hdl:∀j,j ∈ depsOf md ops i->listed.getD j false=true:=λj hj=>by
     obtain⟨o',ho',e,he,hb',rfl⟩:=mem_deps.1 hj;have:o'=o:=Option.some.inj (ho'.symm.trans ho);subst this;exact hdep e he hb'
    by_cases hF:i ∈ F
    case neg =>
     exfalso;have h1:=hout i hF;rw[hlf]at h1
     rcases k4' i hlt with h|h|h
     ·rw[h]at h1;cases h1
     ·exact hF h
     ·rcases(k5' i h).2 with⟨j,hj,hjs⟩|hanc
      ·have h2:=hdl j hj;have h3:=k5' j hjs;by_cases hjF:j ∈ F
       ·exact(k3' j hjF).2.2.1 hjs
       ·rw[hout j hjF]at h2
        have h4:=h3.1;have hjl:j<listed0.size:=by
         rcases Nat.lt_or_ge j listed0.size with h|h
         ·exact h
         ·simp[Array.getElem?_eq_none h]at h2
        rw[zaE hjl,h2]at h4;cases h4
      ·obtain⟨j,hjF,hjl⟩:=hex;have:=zbp hcl ops.size [i] (λk hk l hl=>by simp at hk;subst hk;exact hdl l hl) j (hanc j hjF);rw[hjl]at this;cases this
    obtain⟨o',ho',hst⟩:=hstep i hF;obtain rfl:o'=o:=Option.some.inj (ho'.symm.trans ho);refine zib ho ?_;refine hst u w hw hb (λj hj hd=>hg j (List.contains_iff_mem.1 hj) (hdl j (List.contains_iff_mem.1 hd))) _ (λv w' hb' hgi=>?_);have hdst:o'.dst=zez ops i:=by simp[zez,ho]
    refine⟨hS w w' hw hb',?_⟩;rw[hdst,hput i hF];have hlt':=zet (by omega) hlf k0;simp only[hF,if_true]at hlt';have hset:∀j,j≠i->(listed.setIfInBounds i true).getD j false=listed.getD j false:=λj hj=>getD_set_ne false (Ne.symm hj)
    have hseti:(listed.setIfInBounds i true).getD i false=true:=by simp[Array.getD,show i<listed.size by omega]
    refine ih (listed.setIfInBounds i true) (zef u i v) w' (by omega) (by simpa using hsz) (λj hj=>?_) (λj k hj hk=>?_) (hS w w' hw hb') (hb.trans (hb'.mono hb.size)) (λj hj hl=>?_) m' (by omega)
    ·rw[hset j (λe=>hj (e ▸ hF)),hout j hj]
    ·by_cases hji:j=i
     ·subst hji;exact getD_set_true (hdl k hk)
     ·rw[hset j hji]at hj
      exact getD_set_true (hcl j k hj hk)
    ·by_cases hji:j=i
     ·subst hji;rw[zcM];exact hgi
     ·rw[zbt hji];rw[hset j hji]at hl
      exact hG j (u j) w w' (hg j hj hl) hb'
 have hleft:left listed0 F=F.length:=zeu (λi hi=>by
  have h1:=(k3' i hi).1;have h2:=(k3' i hi).2.1;rw[zaE (by omega)]at h1
  exact h1)
 have:=main (left listed0 F) listed0 (zjP a0 D) w0 (le_refl _) k1 (λ_ _=>rfl) k2' hS0 (Below.refl _ _) (λj hj hl=>by
  have h1:=(k3' j hj).1;have h2:=(k3' j hj).2.1;rw[zaE (by omega),hl]at h1;cases h1) F.length hleft.symm
 rw[h0]at this
 exact this
def NmV (L:Nat) (w:World) (t:Nm) (q:Rat):Prop:=Rn L w t.s t.x t.n t.c t.f t.y t.m t.d t.g q
theorem NmV.q_ {L w w' t q} (h:NmV L w t q) (hb:Bl w w'):NmV L w' t q:=Rn.q_ h hb
structure CV where
 nm:ByteArray
 cost:Rat
 li:Int
 lq:Rat
 hi:Int
 hq:Rat
structure RV where
 nm:ByteArray
 li:Int
 lq:Rat
 hi:Int
 hq:Rat
 ts:List (Int × Rat)
structure ColV (L:Nat) (w:World) (c:Lc) (v:CV):Prop where
 nm:c.nm=v.nm
 cost:NmV L w c.cost v.cost
 li:c.lo.i=v.li
 lq:NmV L w c.lo.v v.lq
 hi:c.hi.i=v.hi
 hq:NmV L w c.hi.v v.hq
structure RowV (L:Nat) (w:World) (r:Lr) (v:RV):Prop where
 nm:r.nm=v.nm
 li:r.lo.i=v.li
 lq:NmV L w r.lo.v v.lq
 hi:r.hi.i=v.hi
 hq:NmV L w r.hi.v v.hq
 tk:r.tk=v.ts.length
 tl:∀p z q,v.ts[p]?=some (z,q)->r.col p=z/\NmV L w (r.T p) q/\∃b o,r.ta=some ⟨b,o,none⟩/\C4 w b (o+p*4) (.int .i64 (r.col p)) (.bool (r.T p).s) (.slice (r.T p).x (r.T p).n (r.T p).c) (.slice (r.T p).y (r.T p).m (r.T p).d)
theorem ColV.q_ {L w w' c v} (h:ColV L w c v) (hb:Bl w w'):ColV L w' c v:=⟨h.nm,h.cost.q_ hb,h.li,h.lq.q_ hb,h.hi,h.hq.q_ hb⟩
theorem RowV.q_ {L w w' c v} (h:RowV L w c v) (hb:Bl w w'):RowV L w' c v:=⟨h.nm,h.li,h.lq.q_ hb,h.hi,h.hq.q_ hb,h.tk,λp z q e=>by
 obtain⟨h1,h2,b,o,h3,h4⟩:=h.tl p z q e;exact⟨h1,h2.q_ hb,b,o,h3,h4.q_ hb⟩⟩
structure MoV (L:Nat) (w:World) (M:Mo) (q:Rat) (cs:List CV) (rs:List RV):Prop where
 off:NmV L w M.off q
 ck:M.ck=cs.length
 rk:M.rk=rs.length
 cls:∀j v,cs[j]?=some v->(∃b o,M.ca=some ⟨b,o,none⟩/\Cs w b (o+j*12) (M.C j).vs)/\ColV L w (M.C j) v
 rls:∀j v,rs[j]?=some v->(∃b o,M.ra=some ⟨b,o,none⟩/\Cs w b (o+j*10) (M.R j).vs)/\RowV L w (M.R j) v
theorem MoV.q_ {L w w' M q cs rs} (h:MoV L w M q cs rs) (hb:Bl w w'):MoV L w' M q cs rs :=
 ⟨h.off.q_ hb,h.ck,h.rk,λj v e=>by obtain⟨⟨b,o,h1,h2⟩,h3⟩:=h.cls j v e;exact⟨⟨b,o,h1,h2.q_ hb⟩,h3.q_ hb⟩,λj v e=>by obtain⟨⟨b,o,h1,h2⟩,h3⟩:=h.rls j v e;exact⟨⟨b,o,h1,h2.q_ hb⟩,h3.q_ hb⟩⟩
theorem NmV.nms {L w t q} (h:NmV L w t q) (hL:L<=65536):NmS w t/\nfB t=true:=by
 obtain⟨h1,h2⟩:=Rn.nm h hL;exact⟨h1,h2⟩
theorem RowV.tls {L w r v} (h:RowV L w r v) (hL:L<=65536):Tl w r.ta r.tk r.col r.T:=λj hj=>by
 rw[h.tk]at hj
 obtain⟨⟨z,q⟩,hz⟩:∃x,v.ts[j]?=some x:=⟨_,getElem?_eq_getElem hj⟩;obtain⟨_,h2,b,o,h3,h4⟩:=h.tl j z q hz;exact⟨b,o,h3,h4,(h2.nms hL).1⟩
theorem MoV.mor {L w M q cs rs} (h:MoV L w M q cs rs) (hL:L<=65536) (hc:cs.length<=64) (hr:rs.length<=64) (hn:∀v,v ∈ cs->v.nm.size<=1000) (hm:∀v,v ∈ rs->v.nm.size<=1000/\v.ts.length<=1000):MoR w M:=by
 refine⟨(h.off.nms hL).1,λj hj=>?_,λj hj=>?_,by rw[h.ck];omega,by rw[h.rk];omega⟩
 ·rw[h.ck]at hj
  obtain⟨v,hv⟩:∃x,cs[j]?=some x:=⟨_,getElem?_eq_getElem hj⟩;obtain⟨⟨b,o,h1,h2⟩,h3⟩:=h.cls j v hv;have:=hn v (List.mem_of_getElem? hv);exact⟨b,o,h1,h2,(h3.cost.nms hL).1,(h3.lq.nms hL).1,(h3.hq.nms hL).1,by rw[h3.nm];omega⟩
 ·rw[h.rk]at hj
  obtain⟨v,hv⟩:∃x,rs[j]?=some x:=⟨_,getElem?_eq_getElem hj⟩;obtain⟨⟨b,o,h1,h2⟩,h3⟩:=h.rls j v hv;have:=hm v (List.mem_of_getElem? hv);exact⟨b,o,h1,h2,(h3.lq.nms hL).1,(h3.hq.nms hL).1,h3.tls hL,by rw[h3.tk];omega,by rw[h3.nm];omega⟩
theorem MoV.kp {L w w' M q cs rs} (h:MoV L w M q cs rs) (hk:Kp w w') {b0} (hne:∀k,k≠b0->w'.heap[k]?=w.heap[k]?) (hno:∀o v,w.cell? ⟨b0,o,none⟩=some v->(∀s,v≠.string s)/\∀k z,v≠.int k z):MoV L w' M q cs rs:=by
 have hc:∀b o vs,(∃s,vs[0]?=some (Value.string s))->Cs w b o vs->Cs w' b o vs:=λb o vs ⟨s,hs⟩ h j v e=>by
  have hb:b≠b0:=λe=>(hno (o+0) (.string s) (e ▸ h 0 _ hs)).1 s rfl
  exact(cell?_of_block (a:=⟨b,o+j,none⟩) (hne b hb)).trans (h j v e)
 have h4:∀b o z a1 a2 a3,C4 w b o (.int .i64 z) a1 a2 a3->C4 w' b o (.int .i64 z) a1 a2 a3:=λb o z a1 a2 a3 h=>by
  have hb:b≠b0:=λe=>(hno o _ (e ▸ h.x0)).2 _ z rfl
  exact⟨(cell?_of_block (a:=⟨b,o,none⟩) (hne b hb)).trans h.x0,(cell?_of_block (a:=⟨b,o+1,none⟩) (hne b hb)).trans h.x1,(cell?_of_block (a:=⟨b,o+2,none⟩) (hne b hb)).trans h.x2,(cell?_of_block (a:=⟨b,o+3,none⟩) (hne b hb)).trans h.x3⟩
 refine⟨Rn.kp h.off hk,h.ck,h.rk,λj v e=>?_,λj v e=>?_⟩
 ·obtain⟨⟨b,o,h1,h2⟩,h3⟩:=h.cls j v e;exact⟨⟨b,o,h1,hc _ _ _ ⟨_,rfl⟩ h2⟩,h3.nm,Rn.kp h3.cost hk,h3.li,Rn.kp h3.lq hk,h3.hi,Rn.kp h3.hq hk⟩
 ·obtain⟨⟨b,o,h1,h2⟩,h3⟩:=h.rls j v e;refine⟨⟨b,o,h1,hc _ _ _ ⟨_,rfl⟩ h2⟩,h3.nm,h3.li,Rn.kp h3.lq hk,h3.hi,Rn.kp h3.hq hk,h3.tk,λp z q' e'=>?_⟩;obtain⟨k1,k2,b',o',k3,k4⟩:=h3.tl p z q' e';exact⟨k1,Rn.kp k2 hk,b',o',k3,h4 _ _ _ _ _ _ k4⟩
theorem zlO {w w' B a0 a1 a2 a3 a4 t} (h:Bk w B [a0,a1,a2,a3,a4] t) (hu:NoU #[a0,a1,a2,a3,a4]) {v0 v1 v2 v3 v4} (e:w'=((((w.setCell ⟨B,0,none⟩ v0).setCell ⟨B,1,none⟩ v1).setCell ⟨B,2,none⟩ v2).setCell ⟨B,3,none⟩ v3).setCell ⟨B,4,none⟩ v4):Kp w w'/\∀k,k≠B->w'.heap[k]?=w.heap[k]?:=by
 obtain⟨w1,h1⟩:∃x,x=w.setCell ⟨B,0,none⟩ v0:=⟨_,rfl⟩;obtain⟨w2,h2⟩:∃x,x=w1.setCell ⟨B,1,none⟩ v1:=⟨_,rfl⟩;obtain⟨w3,h3⟩:∃x,x=w2.setCell ⟨B,2,none⟩ v2:=⟨_,rfl⟩;obtain⟨w4,h4⟩:∃x,x=w3.setCell ⟨B,3,none⟩ v3:=⟨_,rfl⟩;rw[<-h1,<-h2,<-h3,<-h4]at e
 have g:∀(a b:World) o v,b=a.setCell ⟨B,o,none⟩ v->b.os=a.os/\b.tape=a.tape/\b.output=a.output/\b.heap.size=a.heap.size/\∀k,k≠B->b.heap[k]?=a.heap[k]?:=λa b o v e=>by
  subst e;exact⟨rfl,rfl,rfl,by simp[World.setCell],λk hk=>Below.heap_setCell _ _ _ _ hk⟩
 obtain⟨a1,b1,c1,d1,e1⟩:=g _ _ _ _ h1;obtain⟨a2,b2,c2,d2,e2⟩:=g _ _ _ _ h2;obtain⟨a3,b3,c3,d3,e3⟩:=g _ _ _ _ h3;obtain⟨a4,b4,c4,d4,e4⟩:=g _ _ _ _ h4;obtain⟨a5,b5,c5,d5,e5⟩:=g _ _ _ _ e;have hne:∀k,k≠B->w'.heap[k]?=w.heap[k]?:=λk hk=>by rw[e5 k hk,e4 k hk,e3 k hk,e2 k hk,e1 k hk]
 refine⟨⟨by rw[a5,a4,a3,a2,a1],by rw[b5,b4,b3,b2,b1],by rw[c5,c4,c3,c2,c1],by omega,λk _=>?_⟩,hne⟩;by_cases hk:k=B
 ·subst hk;exact .inr ⟨_,t,(0,0),h,hu⟩
 ·exact .inl (hne k hk)
theorem zfo {w0 w B u0 u1 u2 u3 u4} (hw:Bl w0 w) (hB:w0.heap.size<=B) :
  Bl w0 (((((w.setCell ⟨B,0,none⟩ u0).setCell ⟨B,1,none⟩ u1).setCell ⟨B,2,none⟩ u2).setCell ⟨B,3,none⟩ u3).setCell ⟨B,4,none⟩ u4) :=
 zN hw hw.size ((((((Turned.refl w0.heap.size (B+1) w).set (x:=⟨B,0,none⟩) hB (by simp) _).set (x:=⟨B,1,none⟩) hB (by simp) _).set (x:=⟨B,2,none⟩) hB (by simp) _).set (x:=⟨B,3,none⟩) hB (by simp) _).set (x:=⟨B,4,none⟩) hB (by simp) _) (le_refl _)
theorem zqI {w B s x1 x2 x3 x4 n1 n2 n3 n4 c1 c2 c3 c4 t} (h:Bk w B [.bool s,slice x1 n1 c1,slice x2 n2 c2,slice x3 n3 c3,slice x4 n4 c4] t):∀o v,w.cell? ⟨B,o,none⟩=some v->(∀s,v≠.string s)/\∀k z,v≠.int k z:=λo v e=>by
 unfold Bk at h;simp only[World.cell?,h]at e
 match o,e with
 | 0,e=>simp at e;subst e;exact⟨(λ_ h=>nomatch h),(λ_ _ h=>nomatch h)⟩
 | 1,e=>simp at e;subst e;exact⟨(λ_ h=>nomatch h),(λ_ _ h=>nomatch h)⟩
 | 2,e=>simp at e;subst e;exact⟨(λ_ h=>nomatch h),(λ_ _ h=>nomatch h)⟩
 | 3,e=>simp at e;subst e;exact⟨(λ_ h=>nomatch h),(λ_ _ h=>nomatch h)⟩
 | 4,e=>simp at e;subst e;exact⟨(λ_ h=>nomatch h),(λ_ _ h=>nomatch h)⟩
 | o+5,e=>simp at e
theorem zny (s:Bool) (x1 x2 x3 x4:Option Addr) (n1 n2 n3 n4 c1 c2 c3 c4:Nat):NoU #[Value.bool s,slice x1 n1 c1,slice x2 n2 c2,slice x3 n3 c3,slice x4 n4 c4]:=zW (l:=[Value.bool s,slice x1 n1 c1,slice x2 n2 c2,slice x3 n3 c3,slice x4 n4 c4]) (λu hu q=>by simp at hu;rcases hu with rfl|rfl|rfl|rfl|rfl <;> simp)
theorem zhT (w:World) (t:TypeId) (l l':List Value) (o:Nat) (h:∀j v,l'[j]?=some v->l[o+j]?=some v):Cs (w.alloc (cells l.toArray t)) w.heap.size o l':=λj v e=>by
 have:=h j v e;simp only[World.cell?,heap_alloc_new];simpa using this
theorem cs4 {w b o a0 a1 a2 a3} (h:Cs w b o [a0,a1,a2,a3]):C4 w b o a0 a1 a2 a3:=⟨h 0 _ rfl,h 1 _ rfl,h 2 _ rfl,h 3 _ rfl⟩
def bdB (li:Int) (lq:Rat) (hi:Int) (hq:Rat):Bool:=(decide (li=0) || (decide (li=-1) && decide (lq=0))) && (decide (hi=0) || (decide (hi=1) && decide (hq=0)))
def tsB (n:Nat):Int->List (Int × Rat)->Bool
 | _,[]=>true
 | last,(z,q) :: r=>decide (last<z) && (decide (z<(n:Int)) && (decide (q≠0) && tsB n z r))
def nmC (cs:List CV) (j:Nat):ByteArray:=(cs[j]?.map CV.nm).getD ByteArray.empty
def nmR (rs:List RV) (j:Nat):ByteArray:=(rs[j]?.map RV.nm).getD ByteArray.empty
def zcc (cs:List CV) (rs:List RV):Bool:=decide (cs.length<=64) && (decide (rs.length<=64) && (cs.all (λv=>bdB v.li v.lq v.hi v.hq) && (rs.all (λv=>bdB v.li v.lq v.hi v.hq && (tsB cs.length (-1) v.ts && decide (v.ts.length<=1000))) && (nms (nmC cs) cs.length 0 && (nms (nmR rs) rs.length 0 && (!(twr (nmC cs) cs.length 0) && !(twr (nmR rs) rs.length 0)))))))
theorem zaW {S S'}:∀{r i:Nat},(∀j,i<=j->j<i+r->S j=S' j)->nms S r i=nms S' r i
 | 0,_,_=>rfl
 | r+1,i,h=>by simp only[nms];rw[h i (by omega) (by omega),zaW (λj a b=>h j (by omega) (by omega))]
theorem zjD {S S' i} (h:∀j,j<=i->S j=S' j):zhu S i=zhu S' i:=by
 rw[Bool.eq_iff_iff,zei,zei];exact⟨λ⟨j,h1,h2⟩=>⟨j,h1,by rw[<-h j (by omega),<-h i (by omega)];exact h2⟩,λ⟨j,h1,h2⟩=>⟨j,h1,by rw[h j (by omega),h i (by omega)];exact h2⟩⟩
theorem zaV {S S'}:∀{r i:Nat},(∀j,j<i+r->S j=S' j)->twr S r i=twr S' r i
 | 0,_,_=>rfl
 | r+1,i,h=>by simp only[twr];rw[zjD (λj hj=>h j (by omega)),zaV (λj b=>h j (by omega))]
theorem zbH {S S' z}:∀{r i:Nat},(∀j,i<=j->j<i+r->S j=S' j)->idx S z r i=idx S' z r i
 | 0,_,_=>rfl
 | r+1,i,h=>by simp only[idx];rw[h i (by omega) (by omega),zbH (λj a b=>h j (by omega) (by omega))]
theorem zeq {S}:∀{r i:Nat},nms S r i=true->∀j,i<=j->j<i+r->(S j).size<=16
 | 0,_,_,j,h1,h2=>by omega
 | r+1,i,h,j,h1,h2=>by
  simp only[nms,Bool.and_eq_true]at h;by_cases e:j=i
  ·subst e;have:=h.1;simp only[zct,Bool.and_eq_true,decide_eq_true_eq]at this;omega
  ·exact zeq h.2 j (by omega) (by omega)
theorem zdi {B B'}:∀{i:Nat},(∀j,j<i->B j=B' j)->crl B i=crl B' i
 | 0,_=>rfl
 | i+1,h=>by unfold crl;rw[zdi (λj hj=>h j (by omega)),h i (by omega)]
theorem zjc {C}:∀{r i:Nat},(∀j,i<=j->j<i+r->nfB (C j).cost=true/\abB (C j).lo (C j).hi=true)->zdy C r i=true
 | 0,_,_=>rfl
 | r+1,i,h=>by simp only[zdy];rw[(h i (by omega) (by omega)).1,(h i (by omega) (by omega)).2,zjc (λj a b=>h j (by omega) (by omega))];rfl
theorem zis {R}:∀{r i:Nat},(∀j,i<=j->j<i+r->abB (R j).lo (R j).hi=true/\tfB (R j).tk (R j).col (R j).T=true)->zcE R r i=true
 | 0,_,_=>rfl
 | r+1,i,h=>by simp only[zcE];rw[(h i (by omega) (by omega)).1,(h i (by omega) (by omega)).2,zis (λj a b=>h j (by omega) (by omega))];rfl
theorem zmu {k R}:∀{r i:Nat},(∀j,i<=j->j<i+r->lastB k (R j)=true)->alB k R r i=true
 | 0,_,_=>rfl
 | r+1,i,h=>by simp only[alB];rw[h i (by omega) (by omega),zmu (λj a b=>h j (by omega) (by omega))];rfl
theorem NmV.ex {L w e i q} (h:NmV L w e.v q) (hi:e.i=i) (hb:i=0∨(i=-1∨i=1)/\q=0):exF e=true :=
 En.ef (L:=L) (w:=w) (q:=q) ⟨h,by rw[hi];exact hb⟩
theorem zow {L w a b li lq hi hq} (h1:NmV L w a.v lq) (e1:a.i=li) (h2:NmV L w b.v hq) (e2:b.i=hi) (h:bdB li lq hi hq=true):abB a b=true:=by
 simp only[bdB,Bool.and_eq_true,Bool.or_eq_true,decide_eq_true_eq]at h;have f1:=h1.ex e1 (by rcases h.1 with h|h;exact .inl h;exact .inr ⟨.inl h.1,h.2⟩);have f2:=h2.ex e2 (by rcases h.2 with h|h;exact .inl h;exact .inr ⟨.inr h.1,h.2⟩);simp only[abB,f1,f2,Bool.true_and,Bool.and_eq_true,decide_eq_true_eq];rw[e1,e2];omega
theorem zkD {n}:∀{l:List (Int × Rat)} {last:Int},tsB n last l=true->(∀(p:Nat) z q,l[p]?=some (z,q)->last<z/\z<(n:Int)/\q≠0)/\∀(p:Nat) z q z' q',l[p]?=some (z,q)->l[p+1]?=some (z',q')->z<z'
 | [],_,_=>⟨λp z q h=>by simp at h,λp z q z' q' h=>by simp at h⟩
 | (a,b) :: r,last,h=>by
  simp only[tsB,Bool.and_eq_true,decide_eq_true_eq]at h;obtain⟨h1,h2,h3,h4⟩:=h;obtain⟨k1,k2⟩:=zkD h4;refine⟨λp z q e=>?_,λp z q z' q' e e'=>?_⟩
  ·cases p with
   | zero=>simp at e;obtain⟨rfl,rfl⟩:=e;exact⟨h1,h2,h3⟩
   | succ p=>have:=k1 p z q (by simpa using e);exact⟨by omega,this.2⟩
  ·cases p with
   | zero =>
    simp at e;obtain⟨rfl,rfl⟩:=e
    exact(k1 0 z' q' (by simpa using e')).1
   | succ p=>exact k2 p z q z' q' (by simpa using e) (by simpa using e')
theorem RowV.tf {L w r v n} (h:RowV L w r v) (hL:L<=65536) (ht:tsB n (-1) v.ts=true):tfB r.tk r.col r.T=true/\lastB n r=true:=by
 obtain⟨k1,k2⟩:=zkD ht;have hg:∀p,p<r.tk->∃z q,v.ts[p]?=some (z,q):=λp hp=>by
  rw[h.tk]at hp
  obtain⟨⟨z,q⟩,e⟩:∃x,v.ts[p]?=some x:=⟨_,getElem?_eq_getElem hp⟩;exact⟨z,q,e⟩
 refine⟨zoU (λj _ hj=>?_) (λj _ hj=>?_) (λh0=>?_),?_⟩
 ·obtain⟨z,q,e⟩:=hg j (by omega);obtain⟨_,h2,_⟩:=h.tl j z q e;refine⟨(h2.nms hL).2,?_⟩;have:=(k1 j z q e).2.2;have hz:=Rn.q_zero h2;rcases Nat.eq_zero_or_pos (r.T j).n with h0|h0
  ·exact absurd (hz.2 h0) this
  ·exact h0
 ·obtain⟨z,q,e⟩:=hg j (by omega);obtain⟨z',q',e'⟩:=hg (j+1) (by omega);rw[(h.tl j z q e).1,(h.tl (j+1) z' q' e').1];exact k2 j z q z' q' e e'
 ·obtain⟨z,q,e⟩:=hg 0 h0;rw[(h.tl 0 z q e).1];exact(k1 0 z q e).1
 ·simp only[lastB,Bool.or_eq_true,decide_eq_true_eq];by_cases h0:r.tk=0
  ·exact .inl h0
  ·obtain⟨z,q,e⟩:=hg (r.tk-1) (by omega);rw[(h.tl _ z q e).1];exact .inr (k1 _ z q e).2.1
theorem MoV.nmc {L w M q cs rs} (h:MoV L w M q cs rs):∀j,j<M.ck->(M.C j).nm=nmC cs j:=λj hj=>by
 rw[h.ck]at hj
 obtain⟨v,hv⟩:∃x,cs[j]?=some x:=⟨_,getElem?_eq_getElem hj⟩;rw[nmC,hv,(h.cls j v hv).2.nm];rfl
theorem MoV.nmr {L w M q cs rs} (h:MoV L w M q cs rs):∀j,j<M.rk->(M.R j).nm=nmR rs j:=λj hj=>by
 rw[h.rk]at hj
 obtain⟨v,hv⟩:∃x,rs[j]?=some x:=⟨_,getElem?_eq_getElem hj⟩;rw[nmR,hv,(h.rls j v hv).2.nm];rfl
theorem MoV.chk {L w M q cs rs} (h:MoV L w M q cs rs) (hL:L<=65536) (ho:zcc cs rs=true):zaH M=0/\MoR w M:=by
 simp only[zcc,Bool.and_eq_true,decide_eq_true_eq,List.all_eq_true,Bool.not_eq_true']at ho;obtain⟨l1,l2,o1,o2,n1,n2,t1,t2⟩:=ho;have hcv:∀j,j<M.ck->∃v,cs[j]?=some v:=λj hj=>by rw[h.ck]at hj;exact⟨_,getElem?_eq_getElem hj⟩
 have hrv:∀j,j<M.rk->∃v,rs[j]?=some v:=λj hj=>by rw[h.rk]at hj;exact⟨_,getElem?_eq_getElem hj⟩
 have hF:moF M=true:=by
  simp only[moF,Bool.and_eq_true];refine⟨(h.off.nms hL).2,zjc (λj _ hj=>?_),zis (λj _ hj=>?_)⟩
  ·obtain⟨v,hv⟩:=hcv j (by omega);obtain⟨_,k⟩:=h.cls j v hv;exact⟨(k.cost.nms hL).2,zow k.lq k.li k.hq k.hi (o1 v (List.mem_of_getElem? hv))⟩
  ·obtain⟨v,hv⟩:=hrv j (by omega);obtain⟨_,k⟩:=h.rls j v hv;have o:=o2 v (List.mem_of_getElem? hv);exact⟨zow k.lq k.li k.hq k.hi o.1,(k.tf hL o.2.1).1⟩
 have hA:alB M.ck M.R M.rk 0=true:=zmu (λj _ hj=>by
  obtain⟨v,hv⟩:=hrv j (by omega);obtain⟨_,k⟩:=h.rls j v hv;rw[h.ck];exact(k.tf hL (o2 v (List.mem_of_getElem? hv)).2.1).2)
 have e1:nms (λj=>(M.C j).nm) M.ck 0=true:=by rw[zaW (S':=nmC cs) (λj _ hj=>h.nmc j (by omega)),h.ck];exact n1
 have e2:nms (λj=>(M.R j).nm) M.rk 0=true:=by rw[zaW (S':=nmR rs) (λj _ hj=>h.nmr j (by omega)),h.rk];exact n2
 have e3:twr (λj=>(M.C j).nm) M.ck 0=false:=by rw[zaV (S':=nmC cs) (λj hj=>h.nmc j (by omega)),h.ck];exact t1
 have e4:twr (λj=>(M.R j).nm) M.rk 0=false:=by rw[zaV (S':=nmR rs) (λj hj=>h.nmr j (by omega)),h.rk];exact t2
 have e0:(decide (64<M.ck) || decide (64<M.rk))=false:=by rw[h.ck,h.rk];simp;omega
 refine⟨by unfold zaH;rw[e0,hF,e1,e2,e3,e4,hA];rfl,h.mor hL l1 l2 (λv hv=>?_) (λv hv=>?_)⟩
 ·obtain⟨j,hj⟩:=List.getElem?_of_mem hv;have:=zeq n1 j (by omega) (by have:=(List.getElem?_eq_some_iff.1 hj).1;omega);rw[nmC,hj]at this
  exact le_trans this (by decide)
 ·obtain⟨j,hj⟩:=List.getElem?_of_mem hv;have:=zeq n2 j (by omega) (by have:=(List.getElem?_eq_some_iff.1 hj).1;omega);rw[nmR,hj]at this
  exact⟨le_trans this (by decide),(o2 v hv).2.2⟩
def cvB (li:Int) (lq:Rat) (hi:Int) (hq:Rat):Bool:=decide (hi<li) || (decide (li=hi) && decide (hq<lq))
theorem zmC {L w a b li lq hi hq} (h1:NmV L w a.v lq) (e1:a.i=li) (h2:NmV L w b.v hq) (e2:b.i=hi):zod a b=cvB li lq hi hq:=by
 unfold zod cvB;rw[Rn.nq h1,Rn.nq h2,e1,e2]
def cvC (cs:List CV) (j:Nat):Bool:=(cs[j]?.map (λv=>cvB v.li v.lq v.hi v.hq)).getD false
def cvR (rs:List RV) (j:Nat):Bool:=(rs[j]?.map (λv=>cvB v.li v.lq v.hi v.hq)).getD false
theorem MoV.crl {L w M q cs rs} (h:MoV L w M q cs rs):crl (ccB M.C) M.ck=crl (cvC cs) cs.length/\crl (rcB M.R) M.rk=crl (cvR rs) rs.length:=by
 refine⟨?_,?_⟩
 ·rw[zdi (B':=cvC cs) (λj hj=>?_),h.ck];rw[h.ck]at hj
  obtain⟨v,hv⟩:∃x,cs[j]?=some x:=⟨_,getElem?_eq_getElem hj⟩;obtain⟨_,k⟩:=h.cls j v hv;rw[cvC,hv];exact zmC k.lq k.li k.hq k.hi
 ·rw[zdi (B':=cvR rs) (λj hj=>?_),h.rk];rw[h.rk]at hj
  obtain⟨v,hv⟩:∃x,rs[j]?=some x:=⟨_,getElem?_eq_getElem hj⟩;obtain⟨_,k⟩:=h.rls j v hv;rw[cvR,hv];exact zmC k.lq k.li k.hq k.hi
theorem MoV.row {L w M q cs rs} (h:MoV L w M q cs rs) (e:zaH M=0) (z:ByteArray):zgU M z=plc (idx (nmR rs) z rs.length 0):=by
 rw[zgU,if_pos e,zbH (S':=nmR rs) (λj _ hj=>h.nmr j (by omega)),h.rk]
theorem MoV.col {L w M q cs rs} (h:MoV L w M q cs rs) (e:zaH M=0) (z:ByteArray):zgV M z=plc (idx (nmC cs) z cs.length 0):=by
 rw[zgV,if_pos e,zbH (S':=nmC cs) (λj _ hj=>h.nmc j (by omega)),h.ck]
def NmB (w:World) (t:Nm):Prop:=Rw w t.x t.n t.c t.f t.y t.m t.d t.g/\t.n<=17592186044416/\t.m<=17592186044416
theorem NmB.q_ {w w' t} (h:NmB w t) (hb:Bl w w'):NmB w' t:=⟨h.1.q_ hb,h.2⟩
theorem NmB.kp {w w' t} (h:NmB w t) (hb:Kp w w'):NmB w' t:=⟨h.1.kp hb,h.2⟩
structure LcB (w:World) (c:Lc):Prop where
 cost:NmB w c.cost
 lo:NmB w c.lo.v
 hi:NmB w c.hi.v
theorem LcB.q_ {w w' c} (h:LcB w c) (hb:Bl w w'):LcB w' c:=⟨h.cost.q_ hb,h.lo.q_ hb,h.hi.q_ hb⟩
theorem LcB.kp {w w' c} (h:LcB w c) (hb:Kp w w'):LcB w' c:=⟨h.cost.kp hb,h.lo.kp hb,h.hi.kp hb⟩
structure LrB (w:World) (r:Lr):Prop where
 lo:NmB w r.lo.v
 hi:NmB w r.hi.v
 tr:Tr w r.ta r.tk r.col r.T
 tk:r.tk<=2199023255552
 tn:∀p,p<r.tk->(r.T p).n<=17592186044416/\(r.T p).m<=17592186044416
theorem LrB.q_ {w w' c} (h:LrB w c) (hb:Bl w w'):LrB w' c:=⟨h.lo.q_ hb,h.hi.q_ hb,h.tr.q_ hb,h.tk,h.tn⟩
theorem Tr.of {w w' ao k col T} (h:Tr w ao k col T) (hb:k≠0->∀b o s,ao=some ⟨b,o,s⟩->b<w.heap.size->w'.heap[b]?=w.heap[b]?) (hk:Kp w w'):Tr w' ao k col T:=λj hj=>by
 obtain⟨b,o,e,⟨c0,c1,c2,c3⟩,h2⟩:=h j hj;have:=hb (by omega) b o none e (block_lt_of_cell? w _ c0);exact⟨b,o,e,⟨(cell?_of_block (a:=⟨b,o+j*4,none⟩) this).trans c0,(cell?_of_block (a:=⟨b,o+j*4+1,none⟩) this).trans c1,(cell?_of_block (a:=⟨b,o+j*4+2,none⟩) this).trans c2,(cell?_of_block (a:=⟨b,o+j*4+3,none⟩) this).trans c3⟩,h2.kp hk⟩
theorem LrB.of {w w' r} (h:LrB w r) (hb:r.tk≠0->∀b o s,r.ta=some ⟨b,o,s⟩->b<w.heap.size->w'.heap[b]?=w.heap[b]?) (hk:Kp w w'):LrB w' r:=⟨h.lo.kp hk,h.hi.kp hk,h.tr.of hb hk,h.tk,h.tn⟩
def Cl9 (w:World) (ao:Option Addr) (k:Nat) (C:Nat->Lc):Prop:=∀j,j<k->∃b o,ao=some ⟨b,o,none⟩/\Cs w b (o+j*12) (C j).vs/\LcB w (C j)
def Rl9 (w:World) (ao:Option Addr) (k:Nat) (R:Nat->Lr):Prop:=∀j,j<k->∃b o,ao=some ⟨b,o,none⟩/\Cs w b (o+j*10) (R j).vs/\LrB w (R j)
theorem Cl9.q_ {w w' ao k C} (h:Cl9 w ao k C) (hb:Bl w w'):Cl9 w' ao k C:=λj hj=>by
 obtain⟨b,o,e,h1,h2⟩:=h j hj;exact⟨b,o,e,h1.q_ hb,h2.q_ hb⟩
theorem Rl9.q_ {w w' ao k R} (h:Rl9 w ao k R) (hb:Bl w w'):Rl9 w' ao k R:=λj hj=>by
 obtain⟨b,o,e,h1,h2⟩:=h j hj;exact⟨b,o,e,h1.q_ hb,h2.q_ hb⟩
structure MoX (w:World) (M:Mo):Prop where
 off:NmB w M.off
 cls:Cl9 w M.ca M.ck M.C
 rls:Rl9 w M.ra M.rk M.R
 ck:M.ck<=703687441776
 rk:M.rk<=837723144971
theorem MoX.q_ {w w' M} (h:MoX w M) (hb:Bl w w'):MoX w' M:=⟨h.off.q_ hb,h.cls.q_ hb,h.rls.q_ hb,h.ck,h.rk⟩
structure Sc (c c':Lc):Prop where
 nm:c'.nm=c.nm
 cost:Sn c.cost c'.cost
 li:c'.lo.i=c.lo.i
 lo:Sn c.lo.v c'.lo.v
 hi:c'.hi.i=c.hi.i
 hv:Sn c.hi.v c'.hi.v
structure Sr (r r':Lr):Prop where
 nm:r'.nm=r.nm
 li:r'.lo.i=r.lo.i
 lo:Sn r.lo.v r'.lo.v
 hi:r'.hi.i=r.hi.i
 hv:Sn r.hi.v r'.hi.v
 tk:r'.tk=r.tk
 col:r'.col=r.col
 T:∀p,p<r.tk->Sn (r.T p) (r'.T p)
structure Sm (M M':Mo):Prop where
 off:Sn M.off M'.off
 ck:M'.ck=M.ck
 C:∀j,j<M.ck->Sc (M.C j) (M'.C j)
 rk:M'.rk=M.rk
 R:∀j,j<M.rk->Sr (M.R j) (M'.R j)
def ccs (C:Nat->Lc):Nat->List Value
 | 0=>[]
 | i+1=>ccs C i++(C i).vs
def rcs (R:Nat->Lr):Nat->List Value
 | 0=>[]
 | i+1=>rcs R i++(R i).vs
theorem zeb (C:Nat->Lc):∀i,(ccs C i).length=i*12
 | 0=>rfl
 | i+1=>by unfold ccs;rw[List.length_append,zeb C i];show i*12+12=_;omega
theorem zdL (C:Nat->Lr):∀i,(rcs C i).length=i*10
 | 0=>rfl
 | i+1=>by unfold rcs;rw[List.length_append,zdL C i];show i*10+10=_;omega
theorem zfn {C C'}:∀{i:Nat},(∀j,j<i->C j=C' j)->ccs C i=ccs C' i
 | 0,_=>rfl
 | i+1,h=>by unfold ccs;rw[zfn (λj hj=>h j (by omega)),h i (by omega)]
theorem zeX {C C'}:∀{i:Nat},(∀j,j<i->C j=C' j)->rcs C i=rcs C' i
 | 0,_=>rfl
 | i+1,h=>by unfold rcs;rw[zeX (λj hj=>h j (by omega)),h i (by omega)]
theorem zjh {C j q v} (hv:(C j).vs[q]?=some v):∀{i:Nat},j<i->(ccs C i)[j*12+q]?=some v
 | 0,h=>by omega
 | i+1,h=>by
  have hq:q<12:=(List.getElem?_eq_some_iff.1 hv).1;unfold ccs;by_cases e:j=i
  ·subst e;rw[List.getElem?_append_right (by rw[zeb];omega),zeb,Nat.add_sub_cancel_left];exact hv
  ·rw[List.getElem?_append_left (by rw[zeb];omega)];exact zjh hv (by omega)
theorem zix {C j q v} (hv:(C j).vs[q]?=some v):∀{i:Nat},j<i->(rcs C i)[j*10+q]?=some v
 | 0,h=>by omega
 | i+1,h=>by
  have hq:q<10:=(List.getElem?_eq_some_iff.1 hv).1;unfold rcs;by_cases e:j=i
  ·subst e;rw[List.getElem?_append_right (by rw[zdL];omega),zdL,Nat.add_sub_cancel_left];exact hv
  ·rw[List.getElem?_append_left (by rw[zdL];omega)];exact zix hv (by omega)
def putC (C:Nat->Lc) (i:Nat) (c:Lc):Nat->Lc:=λj=>if j=i then c else C j
theorem ziE (C:Nat->Lc) (i:Nat) (c:Lc):putC C i c i=c:=by simp[putC]
theorem ziD {C i j c} (h:j≠i):putC C i c j=C j:=by simp[putC,h]
def zdq (C:Nat->Lr) (i:Nat) (c:Lr):Nat->Lr:=λj=>if j=i then c else C j
theorem zgz (C:Nat->Lr) (i:Nat) (c:Lr):zdq C i c i=c:=by simp[zdq]
theorem zgy {C i j c} (h:j≠i):zdq C i c j=C j:=by simp[zdq,h]
theorem znW (C:Nat->Lc) (i:Nat) (c:Lc):ccs (putC C i c) (i+1)=ccs C i++c.vs:=by
 show ccs (putC C i c) i++(putC C i c i).vs=_;rw[ziE,zfn (C':=C) (λj hj=>ziD (by omega))]
theorem zno (C:Nat->Lr) (i:Nat) (c:Lr):rcs (zdq C i c) (i+1)=rcs C i++c.vs:=by
 show rcs (zdq C i c) i++(zdq C i c i).vs=_;rw[zgz,zeX (C':=C) (λj hj=>zgy (by omega))]
theorem zmU (c:Lc):∀u ∈ c.vs,u.oneCell'=true:=by
 intro u hu;simp[Lc.vs]at hu;rcases hu with rfl|rfl|rfl|rfl|rfl|rfl|rfl|rfl|rfl|rfl|rfl|rfl <;> rfl
theorem zie (c:Lc):∀u ∈ c.vs,∀q,u≠.int .u64 q:=by
 intro u hu q;simp[Lc.vs]at hu;rcases hu with rfl|rfl|rfl|rfl|rfl|rfl|rfl|rfl|rfl|rfl|rfl|rfl <;> simp
theorem zmT (c:Lr):∀u ∈ c.vs,u.oneCell'=true:=by
 intro u hu;simp[Lr.vs]at hu;rcases hu with rfl|rfl|rfl|rfl|rfl|rfl|rfl|rfl|rfl|rfl <;> rfl
theorem zid (c:Lr):∀u ∈ c.vs,∀q,u≠.int .u64 q:=by
 intro u hu q;simp[Lr.vs]at hu;rcases hu with rfl|rfl|rfl|rfl|rfl|rfl|rfl|rfl|rfl|rfl <;> simp
def zC:Value:=.agg #[.string ByteArray.empty,.bool false,slice none 0 0,slice none 0 0,.int .i64 0,.bool false,slice none 0 0,slice none 0 0,.int .i64 0,.bool false,slice none 0 0,slice none 0 0]
def zR:Value:=.agg #[.string ByteArray.empty,.int .i64 0,.bool false,slice none 0 0,slice none 0 0,.int .i64 0,.bool false,slice none 0 0,slice none 0 0,slice none 0 0]
theorem znL:(prog.info? 59).map (λi=>(i.zero,i.size,i.bytes))=some (some zC,12,200):=by kernel_rfl
theorem znK:(prog.info? 62).map (λi=>(i.zero,i.size,i.bytes))=some (some zR,10,168):=by kernel_rfl
def nz9:Nm:=⟨false,none,0,0,λ_=>0,none,0,0,λ_=>0⟩
theorem nzC:NoU zC.cells:=zW (l:=(Lc.mk ByteArray.empty nz9 ⟨0,nz9⟩ ⟨0,nz9⟩).vs) (zie _)
theorem nzR:NoU zR.cells:=zW (l:=(Lr.mk ByteArray.empty ⟨0,nz9⟩ ⟨0,nz9⟩ none 0 0 (λ_=>0) (λ_=>nz9)).vs) (zid _)
def TN (t:Nm) (v:Value) (w:World):Prop:=∃t':Nm,v=t'.val/\Sn t t'/\NmB w t'
def TE (e:Ex) (v:Value) (w:World):Prop:=∃e':Ex,v=e'.val/\e'.i=e.i/\Sn e.v e'.v/\NmB w e'.v
def TC (c:Lc) (v:Value) (w:World):Prop:=∃c':Lc,v=.agg c'.vs.toArray/\Sc c c'/\LcB w c'
def TCs (c:Lc) (v:Value) (w:World):Prop:=∃b,∃c':Lc,v=slice (some ⟨b,0,none⟩) 1 1/\Cs w b 0 c'.vs/\Sc c c'/\LcB w c'
def TT (base:Nat) (ta:Option Addr) (tk:Nat) (col:Nat->Int) (T:Nat->Nm) (v:Value) (w:World):Prop:=∃aw cw T',v=slice aw tk cw/\(∀b o s,aw=some ⟨b,o,s⟩->base<=b)/\Tr w aw tk col T'/\(∀j,j<tk->Sn (T j) (T' j))/\ta=ta
def TR (base:Nat) (r:Lr) (v:Value) (w:World):Prop:=∃r':Lr,v=.agg r'.vs.toArray/\Sr r r'/\LrB w r'/\∀b o s,r'.ta=some ⟨b,o,s⟩->base<=b
def TRs (base:Nat) (r:Lr) (v:Value) (w:World):Prop:=∃b,∃r':Lr,v=slice (some ⟨b,0,none⟩) 1 1/\Cs w b 0 r'.vs/\Sr r r'/\LrB w r'/\∀b o s,r'.ta=some ⟨b,o,s⟩->base<=b
theorem TN.q_ {t v w w'} (h:TN t v w) (hb:Bl w w'):TN t v w':=by obtain⟨t',h1,h2,h3⟩:=h;exact⟨t',h1,h2,h3.q_ hb⟩
theorem TE.q_ {t v w w'} (h:TE t v w) (hb:Bl w w'):TE t v w':=by obtain⟨t',h1,h2,h3,h4⟩:=h;exact⟨t',h1,h2,h3,h4.q_ hb⟩
theorem TC.q_ {t v w w'} (h:TC t v w) (hb:Bl w w'):TC t v w':=by obtain⟨t',h1,h2,h3⟩:=h;exact⟨t',h1,h2,h3.q_ hb⟩
theorem TCs.q_ {t v w w'} (h:TCs t v w) (hb:Bl w w'):TCs t v w':=by obtain⟨b,t',h1,h2,h3,h4⟩:=h;exact⟨b,t',h1,h2.q_ hb,h3,h4.q_ hb⟩
theorem TT.q_ {base ta tk col T v w w'} (h:TT base ta tk col T v w) (hb:Bl w w'):TT base ta tk col T v w':=by obtain⟨aw,cw,T',h1,h2,h3,h4⟩:=h;exact⟨aw,cw,T',h1,h2,h3.q_ hb,h4⟩
theorem TR.q_ {base t v w w'} (h:TR base t v w) (hb:Bl w w'):TR base t v w':=by obtain⟨t',h1,h2,h3,h4⟩:=h;exact⟨t',h1,h2,h3.q_ hb,h4⟩
theorem TRs.q_ {base t v w w'} (h:TRs base t v w) (hb:Bl w w'):TRs base t v w':=by obtain⟨b,t',h1,h2,h3,h4,h5⟩:=h;exact⟨b,t',h1,h2.q_ hb,h3,h4.q_ hb,h5⟩
structure TwC (w:World) (base b1 b2 b3:Nat) (P Z:List Value) (so:Bool) (zx:Option Addr) (zn zc:Nat) (zy:Option Addr) (zm zd:Nat) (oN:Nm) (C:Nat->Lc) (wr:World) (i:Nat) (C':Nat->Lc) (vC:Value):Prop where
 bel:Bl w wr
 p1:Bk wr b1 P 28
 p2:Bk wr b2 Z 28
 p3:Bk wr b3 [.bool so,slice zx zn zc,slice zy zm zd,vC,slice none 0 0] 28
 bs:base<=wr.heap.size
 off:NmB wr oN
 row:RowG 59 12 base wr vC i (ccs C' i)
 el:∀j,j<i->Sc (C j) (C' j)/\LcB wr (C' j)
theorem TwC.q_ {w base b1 b2 b3 P Z so zx zn zc zy zm zd oN C wr i C' vC w'} (h:TwC w base b1 b2 b3 P Z so zx zn zc zy zm zd oN C wr i C' vC) (hb:Bl wr w'):TwC w base b1 b2 b3 P Z so zx zn zc zy zm zd oN C w' i C' vC :=
 ⟨h.bel.trans (hb.mono h.bel.size),h.p1.q_ hb,h.p2.q_ hb,h.p3.q_ hb,le_trans h.bs hb.size,h.off.q_ hb,h.row.q_ hb,λj hj=>⟨(h.el j hj).1,(h.el j hj).2.q_ hb⟩⟩
theorem TwC.next {w base b1 b2 b3 P Z so zx zn zc zy zm zd oN C wr i C' vC w8 g8 cap8 c'} (h:TwC w base b1 b2 b3 P Z so zx zn zc zy zm zd oN C wr i C' vC) (h12:b1<b2) (h23:b2<b3) (h3b:b3<base) (hwb:w.heap.size<=b1) (hs:Sc (C i) c') (hc:LcB wr c') (hr:RowG 59 12 base w8 (slice (some ⟨g8,0,none⟩) (i+1) cap8) (i+1) (ccs C' i++c'.vs)) (hk:Kp wr w8) (hg:wr.grownBy w8 vC.ownBlock) :
  TwC w base b1 b2 b3 P Z so zx zn zc zy zm zd oN C (w8.setCell ⟨b3,3,none⟩ (slice (some ⟨g8,0,none⟩) (i+1) cap8)) (i+1) (putC C' i c') (slice (some ⟨g8,0,none⟩) (i+1) cap8):=by
 have hbs:=h.bs;have hlt:∀k,k<base->w8.heap[k]?=wr.heap[k]?:=λk hk=>hg.block k (by omega) (λe=>by have:=(h.row.lt k e.symm).1;omega)
 have hset:∀k,k≠b3->(w8.setCell ⟨b3,3,none⟩ (slice (some ⟨g8,0,none⟩) (i+1) cap8)).heap[k]?=w8.heap[k]?:=λk hk=>Below.heap_setCell _ _ _ _ hk
 have hp3:Bk w8 b3 [.bool so,slice zx zn zc,slice zy zm zd,vC,slice none 0 0] 28:=h.p3.of (hlt b3 h3b);have hg8:=(hr.lt g8 rfl).1;have hk9:Kp wr (w8.setCell ⟨b3,3,none⟩ (slice (some ⟨g8,0,none⟩) (i+1) cap8)):=hk.set (x:=⟨b3,3,none⟩) hp3 (by obtain⟨aw,cw,e⟩:=h.row.slice;rw[e];exact zny _ _ _ _ _ _ _ _ _ _ _ _ _) _;refine⟨?_,h.p1.of ((hset b1 (by omega)).trans (hlt b1 (by omega))),h.p2.of ((hset b2 (by omega)).trans (hlt b2 (by omega))),hp3.set 3 _,le_trans hbs hk9.size,h.off.kp hk9,?_,λj hj=>?_⟩
 ·have h8:Bl w w8:=h.bel.grown hg (by have:=h.bel.size;omega) (λk e=>by have:=(h.row.lt k e).1;omega);exact zN h8 h8.size ((Turned.refl w.heap.size (b3+1) w8).set (x:=⟨b3,3,none⟩) (by show w.heap.size<=b3;omega) (by simp) _) (le_refl _)
 ·rw[znW];exact hr.of (λk hk=>hset k (λe=>by have:g8=k:=(by simpa[Value.ownBlock]using hk);omega))
 ·by_cases e:j=i
  ·subst e;rw[ziE];exact⟨hs,hc.kp hk9⟩
  ·rw[ziD e];exact⟨(h.el j (by omega)).1,(h.el j (by omega)).2.kp hk9⟩
structure TwR (w:World) (base base2 b2 b3:Nat) (Z:List Value) (so:Bool) (zx:Option Addr) (zn zc:Nat) (zy:Option Addr) (zm zd:Nat) (oN:Nm) (C:Nat->Lc) (ck:Nat) (C':Nat->Lc) (vC:Value) (R:Nat->Lr) (wr:World) (i:Nat) (R':Nat->Lr) (vR:Value):Prop where
 bel:Bl w wr
 p2:Bk wr b2 Z 28
 p3:Bk wr b3 [.bool so,slice zx zn zc,slice zy zm zd,vC,vR] 28
 bs:base2<=wr.heap.size
 off:NmB wr oN
 rowC:RowG 59 12 base wr vC ck (ccs C' ck)
 elC:∀j,j<ck->Sc (C j) (C' j)/\LcB wr (C' j)
 nv:∀k,vC.ownBlock=some k->k<base2
 row:RowG 62 10 base2 wr vR i (rcs R' i)
 el:∀j,j<i->Sr (R j) (R' j)/\LrB wr (R' j)/\((R' j).tk≠0->∀b o s,(R' j).ta=some ⟨b,o,s⟩->base2<=b/\vR.ownBlock≠some b)
theorem TwR.q_ {w base base2 b2 b3 Z so zx zn zc zy zm zd oN C ck C' vC R wr i R' vR w'} (h:TwR w base base2 b2 b3 Z so zx zn zc zy zm zd oN C ck C' vC R wr i R' vR) (hb:Bl wr w'):TwR w base base2 b2 b3 Z so zx zn zc zy zm zd oN C ck C' vC R w' i R' vR :=
 ⟨h.bel.trans (hb.mono h.bel.size),h.p2.q_ hb,h.p3.q_ hb,le_trans h.bs hb.size,h.off.q_ hb,h.rowC.q_ hb,λj hj=>⟨(h.elC j hj).1,(h.elC j hj).2.q_ hb⟩,h.nv,h.row.q_ hb,λj hj=>⟨(h.el j hj).1,(h.el j hj).2.1.q_ hb,(h.el j hj).2.2⟩⟩
theorem Tr.lt {w ta tk col T} (h:Tr w ta tk col T) (hk:tk≠0):∀b o s,ta=some ⟨b,o,s⟩->b<w.heap.size:=λb o s e=>by
 obtain⟨b',o',e',h4,_⟩:=h 0 (by omega);rw[e]at e';cases e'
 exact block_lt_of_cell? w _ h4.x0
theorem TwR.next {w base base2 b2 b3 Z so zx zn zc zy zm zd oN C ck C' vC R wr i R' vR w8 g8 cap8 r'} (h:TwR w base base2 b2 b3 Z so zx zn zc zy zm zd oN C ck C' vC R wr i R' vR) (h23:b2<b3) (h3b:b3<base2) (hbb:b3<base) (hwb:w.heap.size<=b2) (hs:Sr (R i) r') (hc:LrB wr r') (hta:r'.tk≠0->∀b o s,r'.ta=some ⟨b,o,s⟩->base2<=b/\vR.ownBlock≠some b) (hr:RowG 62 10 base2 w8 (slice (some ⟨g8,0,none⟩) (i+1) cap8) (i+1) (rcs R' i++r'.vs)) (hk:Kp wr w8) (hg:wr.grownBy w8 vR.ownBlock) (hl:vR.ownBlock=some g8∨wr.heap.size<=g8) :
  TwR w base base2 b2 b3 Z so zx zn zc zy zm zd oN C ck C' vC R (w8.setCell ⟨b3,4,none⟩ (slice (some ⟨g8,0,none⟩) (i+1) cap8)) (i+1) (zdq R' i r') (slice (some ⟨g8,0,none⟩) (i+1) cap8):=by
 have hbs:=h.bs;have hlt:∀k,k<base2->w8.heap[k]?=wr.heap[k]?:=λk hk=>hg.block k (by omega) (λe=>by have:=(h.row.lt k e.symm).1;omega)
 have hset:∀k,k≠b3->(w8.setCell ⟨b3,4,none⟩ (slice (some ⟨g8,0,none⟩) (i+1) cap8)).heap[k]?=w8.heap[k]?:=λk hk=>Below.heap_setCell _ _ _ _ hk
 have hp3:Bk w8 b3 [.bool so,slice zx zn zc,slice zy zm zd,vC,vR] 28:=h.p3.of (hlt b3 h3b);have hg8:=(hr.lt g8 rfl).1;have hk9:Kp wr (w8.setCell ⟨b3,4,none⟩ (slice (some ⟨g8,0,none⟩) (i+1) cap8)):=hk.set (x:=⟨b3,4,none⟩) hp3 (by obtain⟨aw,cw,e⟩:=h.row.slice;obtain⟨aw2,cw2,e2⟩:=h.rowC.slice;rw[e,e2];exact zny _ _ _ _ _ _ _ _ _ _ _ _ _) _;have hta8:∀r:Lr,LrB wr r->(r.tk≠0->∀b o s,r.ta=some ⟨b,o,s⟩->base2<=b/\vR.ownBlock≠some b)->LrB (w8.setCell ⟨b3,4,none⟩ (slice (some ⟨g8,0,none⟩) (i+1) cap8)) r/\(r.tk≠0->∀b o s,r.ta=some ⟨b,o,s⟩->base2<=b/\(Value.slice (some ⟨g8,0,none⟩) (i+1) cap8).ownBlock≠some b):=λr h1 h2=>by
  refine⟨h1.of (λh3 b o s e hb=>?_) hk9,λh3 b o s e=>?_⟩
  ·obtain⟨k1,k2⟩:=h2 h3 b o s e;rw[hset b (by omega)];exact hg.block b hb (λe=>k2 e.symm)
  ·obtain⟨k1,k2⟩:=h2 h3 b o s e;refine⟨k1,λe2=>?_⟩;have e3:g8=b:=by simpa[Value.ownBlock]using e2
   rcases hl with h4|h4
   ·exact k2 (e3 ▸ h4)
   ·have:=h1.tr.lt h3 b o s e;omega
 refine⟨?_,h.p2.of ((hset b2 (by omega)).trans (hlt b2 (by omega))),hp3.set 4 _,le_trans hbs hk9.size,h.off.kp hk9,h.rowC.of (λk hk=>?_),λj hj=>⟨(h.elC j hj).1,(h.elC j hj).2.kp hk9⟩,h.nv,?_,λj hj=>?_⟩
 ·have h8:Bl w w8:=h.bel.grown hg (by have:=h.bel.size;omega) (λk e=>by have:=(h.row.lt k e).1;omega);exact zN h8 h8.size ((Turned.refl w.heap.size (b3+1) w8).set (x:=⟨b3,4,none⟩) (by show w.heap.size<=b3;omega) (by simp) _) (le_refl _)
 ·have:=(h.rowC.lt k hk).1;rw[hset k (by omega)];exact hlt k (h.nv k hk)
 ·rw[zno];exact hr.of (λk hk=>hset k (λe=>by have:g8=k:=(by simpa[Value.ownBlock]using hk);omega))
 ·by_cases e:j=i
  ·subst e;rw[zgz];exact⟨hs,hta8 r' hc hta⟩
  ·rw[zgy e];exact⟨(h.el j (by omega)).1,hta8 _ (h.el j (by omega)).2.1 (h.el j (by omega)).2.2⟩
theorem TwR.done {w base base2 b2 b3 so zx zn zc zy zm zd oN C ck C' R rk R' wr aC cC aR cR w9 ca cc ra rc v0 v1 v2 v3 v4 N} (h:TwR w base base2 b2 b3 [.bool false,slice none 0 0,slice none 0 0,slice none 0 0,slice none 0 0] so zx zn zc zy zm zd oN C ck C' (slice aC ck cC) R wr rk R' (slice aR rk cR)) (h2:b2<base) (h22:b2<base2) (hwb:w.heap.size<=b2) (e:w9=((((wr.setCell ⟨b2,0,none⟩ v0).setCell ⟨b2,1,none⟩ v1).setCell ⟨b2,2,none⟩ v2).setCell ⟨b2,3,none⟩ v3).setCell ⟨b2,4,none⟩ v4) (ho:Sn N oN) (hck:ck<=703687441776) (hrk:rk<=837723144971) :
  Bl w w9/\Sm ⟨N,ca,ck,cc,C,ra,rk,rc,R⟩ ⟨oN,aC,ck,cC,C',aR,rk,cR,R'⟩/\MoX w9 ⟨oN,aC,ck,cC,C',aR,rk,cR,R'⟩:=by
 obtain⟨hk,hne⟩:=zlO h.p2 (zny _ _ _ _ _ _ _ _ _ _ _ _ _) e;refine⟨by rw[e];exact zfo h.bel hwb,⟨ho,rfl,λj hj=>(h.elC j hj).1,rfl,λj hj=>(h.el j hj).1⟩,h.off.kp hk,λj hj=>?_,λj hj=>?_,hck,hrk⟩
 ·rcases h.rowC.2 with⟨_,h0⟩|⟨gb,cap,cur,hv,hb,_⟩
  ·exact absurd hj (by rw[h0];exact Nat.not_lt_zero _)
  ·have hr:=h.rowC.of (w':=w9) (λk hk=>hne k (by have:=(h.rowC.lt k hk).1;omega));cases hv
   refine⟨gb,0,rfl,λq v hq=>?_,(h.elC j hj).2.kp hk⟩;rw[zero_add];exact hr.cells (zjh hq hj)
 ·rcases h.row.2 with⟨_,h0⟩|⟨gb,cap,cur,hv,hb,_⟩
  ·exact absurd hj (by rw[h0];exact Nat.not_lt_zero _)
  ·have hr:=h.row.of (w':=w9) (λk hk=>hne k (by have:=(h.row.lt k hk).1;omega));cases hv
   refine⟨gb,0,rfl,λq v hq=>?_,(h.el j hj).2.1.of (λh3 b o s e _=>hne b (by have:=((h.el j hj).2.2 h3 b o s e).1;omega)) hk⟩;rw[zero_add];exact hr.cells (zix hq hj)
theorem znD {w M} (h:MoX w M):Calls prog 8 #[M.val] w λe w'=>∃M':Mo,e=.returned M'.val/\Bl w w'/\Sm M M'/\MoX w' M':=by
 generalize hP:(λ(e:Ending) (w':World)=>∃M':Mo,e=.returned M'.val/\Bl w w'/\Sm M M'/\MoX w' M')=P;have HA:Hid (∀w' (M':Mo),Bl w w'->Sm M M'->MoX w' M'->P (.returned M'.val) w'):=by subst hP;exact λw' M' h1 h2 h3=>⟨M',rfl,h1,h2,h3⟩
 clear hP;obtain⟨ho,hC,hR,hck,hrk⟩:=h;obtain⟨⟨s,x,n,c,f,y,m,d,g⟩,ca,ck,cc,C,ra,rk,rc,R⟩:=M;replace hck:ck<=703687441776:=hck;replace hrk:rk<=837723144971:=hrk;have HC:Hid (Cl9 w ca ck C):=hC;have HRL:Hid (Rl9 w ra rk R):=hR;have CO:=zi (λw' (hw:Bl w w')=>zci (w:=w') (s:=s) (ho.q_ hw).1 ho.2.1 ho.2.2);have HO:=zi ho.2;clear ho hC hR;show Calls prog 8 #[.agg #[.bool s,slice x n c,slice y m d,slice ca ck cc,slice ra rk rc]] w _;go_enter func8,ntmps8;go_wp2_with fail
 have hb1:=zk (zE w (cells #[.bool s,slice x n c,slice y m d,slice ca ck cc,slice ra rk rc] 28)) (cells #[.bool false,slice none 0 0,slice none 0 0,slice none 0 0,slice none 0 0] 28);have B1:=(zI w [.bool s,slice x n c,slice y m d,slice ca ck cc,slice ra rk rc] 28).q_ (zk (Below.refl _ _) (cells #[.bool false,slice none 0 0,slice none 0 0,slice none 0 0,slice none 0 0] 28));have B2:=zI (w.alloc (cells #[.bool s,slice x n c,slice y m d,slice ca ck cc,slice ra rk rc] 28)) [.bool false,slice none 0 0,slice none 0 0,slice none 0 0,slice none 0 0] 28;rw[zv]at B2
 replace B1:Bk ((w.alloc (cells #[.bool s,slice x n c,slice y m d,slice ca ck cc,slice ra rk rc] 28)).alloc (cells #[.bool false,slice none 0 0,slice none 0 0,slice none 0 0,slice none 0 0] 28)) w.heap.size [.bool s,slice x n c,slice y m d,slice ca ck cc,slice ra rk rc] 28:=B1;replace B2:Bk ((w.alloc (cells #[.bool s,slice x n c,slice y m d,slice ca ck cc,slice ra rk rc] 28)).alloc (cells #[.bool false,slice none 0 0,slice none 0 0,slice none 0 0,slice none 0 0] 28)) (w.heap.size+1) [.bool false,slice none 0 0,slice none 0 0,slice none 0 0,slice none 0 0] 28:=B2;generalize(w.alloc (cells #[.bool s,slice x n c,slice y m d,slice ca ck cc,slice ra rk rc] 28)).alloc (cells #[.bool false,slice none 0 0,slice none 0 0,slice none 0 0,slice none 0 0] 28)=w1 at *;refine(CO.out _ hb1).mono ?_;rintro e w2 ⟨z2,c2,y2,d2,rfl,hb2,hq⟩;have B3:=zI w2 [.bool s,slice z2 n c2,slice y2 m d2,slice none 0 0,slice none 0 0] 28;have hb3:=zE w2 (cells #[.bool s,slice z2 n c2,slice y2 m d2,slice none 0 0,slice none 0 0] 28);have l1:=B1.lt;have l2:=B2.lt;have l3:=hb2.size
 replace B1:=(B1.q_ hb2).q_ hb3;replace B2:=(B2.q_ hb2).q_ hb3
 have HB3:=zi ((bUp hb1 hb2).trans (hb3.mono (le_trans hb1.size hb2.size)));have HQ:Hid (NmB (w2.alloc (cells #[.bool s,slice z2 n c2,slice y2 m d2,slice none 0 0,slice none 0 0] 28)) ⟨s,z2,n,c2,f,y2,m,d2,g⟩):=⟨hq.out.q_ hb3,HO.out⟩;have k3:=B1.cell (j:=3) rfl;have HB1:=zi B1;have HB2:=zi B2
 obtain⟨b3,hb3e⟩:∃z,w2.heap.size=z:=⟨_,rfl⟩;have hl3:w.heap.size+1<b3:=by omega
 have hbs:b3<(w2.alloc (cells #[.bool s,slice z2 n c2,slice y2 m d2,slice none 0 0,slice none 0 0] 28)).heap.size:=by simp;omega
 clear hb1 hb2 hb3 B1 B2 CO hq l1 l2 l3;go_wp2_with fail
 generalize w2.alloc (cells #[.bool s,slice z2 n c2,slice y2 m d2,slice none 0 0,slice none 0 0] 28)=w3 at *;rw[hb3e]at B3
 obtain⟨base,hbase⟩:∃z,w3.heap.size=z:=⟨_,rfl⟩;have hbb:b3<base:=by omega
 have HI0:Hid (TwC w base w.heap.size (w.heap.size+1) b3 [.bool s,slice x n c,slice y m d,slice ca ck cc,slice ra rk rc] [.bool false,slice none 0 0,slice none 0 0,slice none 0 0,slice none 0 0] s z2 n c2 y2 m d2 ⟨s,z2,n,c2,f,y2,m,d2,g⟩ C w3 0 C (slice none 0 0)):=⟨HB3.out,HB1.out,HB2.out,B3,by omega,HQ.out,zaK _ _ _ _,λj hj=>by omega⟩;clear HB3 HB1 HB2 B3 HQ k3 hb3e hbs hbase;go_loopw[15] (λt wr=>∃(i:Nat) (C':Nat->Lc) (vC:Value),i<=ck/\t=.int .i64 i/\Hid (TwC w base w.heap.size (w.heap.size+1) b3 [.bool s,slice x n c,slice y m d,slice ca ck cc,slice ra rk rc] [.bool false,slice none 0 0,slice none 0 0,slice none 0 0,slice none 0 0] s z2 n c2 y2 m d2 ⟨s,z2,n,c2,f,y2,m,d2,g⟩ C wr i C' vC)) (λt _=>ck-(intOf t).toNat)
 case atStart=>exact⟨0,C,_,by omega,rfl,HI0.out⟩
 case round =>
  obtain⟨i,C',vC,hi,rfl,HI⟩:=hrel;clear HI0;by_cases hlt:i<ck
  ·obtain⟨b,o,rfl,hc,hn⟩:=(HC.out.q_ HI.out.bel) i hlt;obtain⟨cN,hcN⟩:∃t,C i=t:=⟨_,rfl⟩;rw[hcN]at hc hn
   have HCN:=zi hcN;obtain⟨z,⟨s0,x0,n0,c0,f0,y0,m0,d0,g0⟩,⟨i1,⟨s1,x1,n1,c1,f1,y1,m1,d1,g1⟩⟩,⟨i2,⟨s2,x2,n2,c2',f2,y2',m2,d2',g2⟩⟩⟩:=cN;obtain⟨hn0,hn1,hn2⟩:=hn;obtain⟨q0,q1,q2,q3,q4,q5,q6,q7,q8,q9,q10,q11⟩:=hc.lc;have HN0:Hid (NmB wr ⟨s0,x0,n0,c0,f0,y0,m0,d0,g0⟩):=hn0;have HN1:Hid (NmB wr ⟨s1,x1,n1,c1,f1,y1,m1,d1,g1⟩):=hn1;have HN2:Hid (NmB wr ⟨s2,x2,n2,c2',f2,y2',m2,d2',g2⟩):=hn2;have i1':((i:Nat):Int)<((ck:Nat):Int):=by omega
   clear hcN hc hn0 hn1 hn2;go_upto_region 5 with fail
   have hb5:=Below.drew (zE wr (cells #[.string z,.bool s0,slice x0 n0 c0,slice y0 m0 d0,.int .i64 i1,.bool s1,slice x1 n1 c1,slice y1 m1 d1,.int .i64 i2,.bool s2,slice x2 n2 c2',slice y2' m2 d2'] 59));have B5:Bk (wr.alloc (cells #[.string z,.bool s0,slice x0 n0 c0,slice y0 m0 d0,.int .i64 i1,.bool s1,slice x1 n1 c1,slice y1 m1 d1,.int .i64 i2,.bool s2,slice x2 n2 c2',slice y2' m2 d2'] 59)).drew wr.heap.size [.string z,.bool s0,slice x0 n0 c0,slice y0 m0 d0,.int .i64 i1,.bool s1,slice x1 n1 c1,slice y1 m1 d1,.int .i64 i2,.bool s2,slice x2 n2 c2',slice y2' m2 d2'] 59:=zI wr [.string z,.bool s0,slice x0 n0 c0,slice y0 m0 d0,.int .i64 i1,.bool s1,slice x1 n1 c1,slice y1 m1 d1,.int .i64 i2,.bool s2,slice x2 n2 c2',slice y2' m2 d2'] 59;have hne:vC.ownBlock≠some wr.heap.size:=λe=>by have:=(HI.out.row.lt _ e).2;omega
   have hbz:=HI.out.bs;replace HI:=zi (HI.out.q_ hb5);replace HN0:=zi (HN0.out.q_ hb5);replace HN1:=zi (HN1.out.q_ hb5);replace HN2:=zi (HN2.out.q_ hb5)
   obtain⟨a0,a1,a2,a3,a4,a5,a6,a7,a8,a9,a10,a11⟩:=zeQ B5;have HB5:=zi B5;obtain⟨bk,hbk⟩:∃z,wr.heap.size=z:=⟨_,rfl⟩;simp only[hbk]at *;clear hb5 hbk q0 q1 q2 q3 q4 q5 q6 q7 q8 q9 q10 q11 B5;refine wp_region_held_drew (S:=(λw'=>w'.cell? ⟨bk,0,none⟩=some (.string z)/\w'.cell? ⟨bk,1,none⟩=some (.bool s0)/\w'.cell? ⟨bk,2,none⟩=some (slice x0 n0 c0)/\w'.cell? ⟨bk,3,none⟩=some (slice y0 m0 d0)/\w'.cell? ⟨bk,4,none⟩=some (.int .i64 i1)/\w'.cell? ⟨bk,5,none⟩=some (.bool s1)/\w'.cell? ⟨bk,6,none⟩=some (slice x1 n1 c1)/\w'.cell? ⟨bk,7,none⟩=some (slice y1 m1 d1)/\w'.cell? ⟨bk,8,none⟩=some (.int .i64 i2)/\w'.cell? ⟨bk,9,none⟩=some (.bool s2)/\w'.cell? ⟨bk,10,none⟩=some (slice x2 n2 c2')/\w'.cell? ⟨bk,11,none⟩=some (slice y2' m2 d2'))) (by kernel_rfl) ?_ (λhHeld=>?_)
   ·exact⟨a0,a1,a2,a3,a4,a5,a6,a7,a8,a9,a10,a11⟩
   generalize hwd:(wr.alloc (cells #[.string z,.bool s0,slice x0 n0 c0,slice y0 m0 d0,.int .i64 i1,.bool s1,slice x1 n1 c1,slice y1 m1 d1,.int .i64 i2,.bool s2,slice x2 n2 c2',slice y2' m2 d2'] 59)).drew=wd at *;clear hwd;refine tkO 0 ?_;refine tkO 2 ?_;refine tkO 3 ?_;simp only[zA,Act.put];refine tkO 4 ?_;refine tkO 5 ?_;refine tkO 7 ?_;simp only[zA,Act.put];refine tkO 8 ?_;refine tkO 10 ?_;refine tkO 11 ?_;simp only[zA,Act.put];refine(show wpAnyH _ _ _ _ _ (6+3) _ _ _ from zbY (λj v w=>match j with|1=>vC=v|6=>TN ⟨s0,x0,n0,c0,f0,y0,m0,d0,g0⟩ v w|9=>TE ⟨i1,⟨s1,x1,n1,c1,f1,y1,m1,d1,g1⟩⟩ v w|12=>TE ⟨i2,⟨s2,x2,n2,c2',f2,y2',m2,d2',g2⟩⟩ v w|13=>TC ⟨z,⟨s0,x0,n0,c0,f0,y0,m0,d0,g0⟩,⟨i1,⟨s1,x1,n1,c1,f1,y1,m1,d1,g1⟩⟩,⟨i2,⟨s2,x2,n2,c2',f2,y2',m2,d2',g2⟩⟩⟩ v w|14=>TCs ⟨z,⟨s0,x0,n0,c0,f0,y0,m0,d0,g0⟩,⟨i1,⟨s1,x1,n1,c1,f1,y1,m1,d1,g1⟩⟩,⟨i2,⟨s2,x2,n2,c2',f2,y2',m2,d2',g2⟩⟩⟩ v w|_=>True) [(1,20),(6,25),(9,28),(12,31),(13,32),(14,33)] [1,6,9,12,13,14] [15,16,17] _ _ _ 3 ?k1 ?k4 ?k2 ?k3 ?k5 ?k6 ?k8)
   case k1=>kernel_rfl
   case k4=>kernel_rfl
   case k2=>exact λw w' h hb=>⟨kCb hb h.1,kCb hb h.2.1,kCb hb h.2.2.1,kCb hb h.2.2.2.1,kCb hb h.2.2.2.2.1,kCb hb h.2.2.2.2.2.1,kCb hb h.2.2.2.2.2.2.1,kCb hb h.2.2.2.2.2.2.2.1,kCb hb h.2.2.2.2.2.2.2.2.1,kCb hb h.2.2.2.2.2.2.2.2.2.1,kCb hb h.2.2.2.2.2.2.2.2.2.2.1,kCb hb h.2.2.2.2.2.2.2.2.2.2.2⟩
   case k3 =>
    intro j v w w' h hb
    split at h <;> first|exact TN.q_ h hb|exact TE.q_ h hb|exact TC.q_ h hb|exact TCs.q_ h hb|exact h|trivial
   case k8=>exact hHeld
   case k5 =>
    intro i hi;simp only[List.mem_cons,List.not_mem_nil,or_false]at hi;rcases hi with rfl|rfl|rfl|rfl|rfl|rfl
    ·refine⟨_,rfl,λu w5 hS hb5 hd K hK=>?_⟩;have k5:=(HI.out.p3.q_ hb5).cell (j:=3) rfl;simp only[zaT,zA,Act.put]at hK ⊢;go_simp;exact hK.out _ _ (Below.refl _ _) rfl
    ·refine⟨_,rfl,λu w5 hS hb5 hd K hK=>?_⟩;simp only[zaT,zA,Act.put]at hK ⊢;go_simp
     go_at_call 10
     refine(zci (HN0.out.q_ hb5).1 HN0.out.2.1 HN0.out.2.2).mono ?_;rintro e w6 ⟨zp,cp,zq,cq,rfl,hb6,hq⟩
     (try go_wp2_with fail)
     exact hK.out _ _ hb6 ⟨⟨s0,zp,n0,cp,f0,zq,m0,cq,g0⟩,rfl,⟨rfl,rfl,rfl,rfl,rfl⟩,hq.out,HN0.out.2⟩
    ·refine⟨_,rfl,λu w5 hS hb5 hd K hK=>?_⟩;simp only[zaT,zA,Act.put]at hK ⊢;go_simp
     go_at_call 23
     refine(zdz (HN1.out.q_ hb5).1 HN1.out.2.1 HN1.out.2.2).mono ?_;rintro e w6 ⟨zp,cp,zq,cq,rfl,hb6,hq⟩
     (try go_wp2_with fail)
     exact hK.out _ _ hb6 ⟨⟨i1,⟨s1,zp,n1,cp,f1,zq,m1,cq,g1⟩⟩,rfl,rfl,⟨rfl,rfl,rfl,rfl,rfl⟩,hq,HN1.out.2⟩
    ·refine⟨_,rfl,λu w5 hS hb5 hd K hK=>?_⟩;simp only[zaT,zA,Act.put]at hK ⊢;go_simp
     go_at_call 23
     refine(zdz (HN2.out.q_ hb5).1 HN2.out.2.1 HN2.out.2.2).mono ?_;rintro e w6 ⟨zp,cp,zq,cq,rfl,hb6,hq⟩
     (try go_wp2_with fail)
     exact hK.out _ _ hb6 ⟨⟨i2,⟨s2,zp,n2,cp,f2,zq,m2,cq,g2⟩⟩,rfl,rfl,⟨rfl,rfl,rfl,rfl,rfl⟩,hq,HN2.out.2⟩
    ·refine⟨_,rfl,λu w5 hS hb5 hd K hK=>?_⟩;have h6:TN ⟨s0,x0,n0,c0,f0,y0,m0,d0,g0⟩ (u 6) w5:=hd 6 (by kernel_rfl) (by kernel_rfl);obtain⟨⟨sa6,xa6,na6,ca6,fa6,ya6,ma6,da6,ga6⟩,e6,hs6,hv6⟩:=h6;replace e6:u 6=.agg #[.bool sa6,slice xa6 na6 ca6,slice ya6 ma6 da6]:=e6;have h9:TE ⟨i1,⟨s1,x1,n1,c1,f1,y1,m1,d1,g1⟩⟩ (u 9) w5:=hd 9 (by kernel_rfl) (by kernel_rfl);obtain⟨⟨ia9,⟨sa9,xa9,na9,ca9,fa9,ya9,ma9,da9,ga9⟩⟩,e9,hi9,hs9,hv9⟩:=h9;replace e9:u 9=.agg #[.int .i64 ia9,.bool sa9,slice xa9 na9 ca9,slice ya9 ma9 da9]:=e9;have h12:TE ⟨i2,⟨s2,x2,n2,c2',f2,y2',m2,d2',g2⟩⟩ (u 12) w5:=hd 12 (by kernel_rfl) (by kernel_rfl);obtain⟨⟨ia12,⟨sa12,xa12,na12,ca12,fa12,ya12,ma12,da12,ga12⟩⟩,e12,hi12,hs12,hv12⟩:=h12;replace e12:u 12=.agg #[.int .i64 ia12,.bool sa12,slice xa12 na12 ca12,slice ya12 ma12 da12]:=e12;simp only[zaT,zA,Act.put]at hK ⊢;simp only[e6,e9,e12]at hK ⊢;go_simp;exact hK.out _ _ (Below.refl _ _) ⟨⟨z,⟨sa6,xa6,na6,ca6,fa6,ya6,ma6,da6,ga6⟩,⟨ia9,⟨sa9,xa9,na9,ca9,fa9,ya9,ma9,da9,ga9⟩⟩,⟨ia12,⟨sa12,xa12,na12,ca12,fa12,ya12,ma12,da12,ga12⟩⟩⟩,rfl,⟨rfl,hs6,hi9,hs9,hi12,hs12⟩,hv6,hv9,hv12⟩
    ·refine⟨_,rfl,λu w5 hS hb5 hd K hK=>?_⟩;have h13:TC ⟨z,⟨s0,x0,n0,c0,f0,y0,m0,d0,g0⟩,⟨i1,⟨s1,x1,n1,c1,f1,y1,m1,d1,g1⟩⟩,⟨i2,⟨s2,x2,n2,c2',f2,y2',m2,d2',g2⟩⟩⟩ (u 13) w5:=hd 13 (by kernel_rfl) (by kernel_rfl);obtain⟨⟨zj,⟨sb,xb,nb,cb,fb,yb,mb,db,gb⟩,⟨ic,⟨sc,xc,nc,cc9,fc,yc,mc,dc,gc⟩⟩,⟨ie,⟨sd,xd,nd,cd,fd,yd,md,dd,gd⟩⟩⟩,e13,hs,hv⟩:=h13;replace e13:u 13=.agg #[.string zj,.bool sb,slice xb nb cb,slice yb mb db,.int .i64 ic,.bool sc,slice xc nc cc9,slice yc mc dc,.int .i64 ie,.bool sd,slice xd nd cd,slice yd md dd]:=e13;simp only[zaT,zA,Act.put]at hK ⊢;simp only[e13]at hK ⊢;go_simp;have hn:=zE w5 (cells #[.string zj,.bool sb,slice xb nb cb,slice yb mb db,.int .i64 ic,.bool sc,slice xc nc cc9,slice yc mc dc,.int .i64 ie,.bool sd,slice xd nd cd,slice yd md dd] 59);have hx:=zhT w5 59 [.string zj,.bool sb,slice xb nb cb,slice yb mb db,.int .i64 ic,.bool sc,slice xc nc cc9,slice yc mc dc,.int .i64 ie,.bool sd,slice xd nd cd,slice yd md dd] [.string zj,.bool sb,slice xb nb cb,slice yb mb db,.int .i64 ic,.bool sc,slice xc nc cc9,slice yc mc dc,.int .i64 ie,.bool sd,slice xd nd cd,slice yd md dd] 0 (λj v e=>by rw[zero_add];exact e);exact hK.out _ _ hn ⟨w5.heap.size,⟨zj,⟨sb,xb,nb,cb,fb,yb,mb,db,gb⟩,⟨ic,⟨sc,xc,nc,cc9,fc,yc,mc,dc,gc⟩⟩,⟨ie,⟨sd,xd,nd,cd,fd,yd,md,dd,gd⟩⟩⟩,rfl,hx,hs,hv.q_ hn⟩
   case k6 =>
    intro u w5 hS5 hb5 hg;have h1:vC=u 1:=hg 1 (by simp);have h14:TCs ⟨z,⟨s0,x0,n0,c0,f0,y0,m0,d0,g0⟩,⟨i1,⟨s1,x1,n1,c1,f1,y1,m1,d1,g1⟩⟩,⟨i2,⟨s2,x2,n2,c2',f2,y2',m2,d2',g2⟩⟩⟩ (u 14) w5:=hg 14 (by simp);obtain⟨b14,⟨zj,⟨sb,xb,nb,cb,fb,yb,mb,db,gb⟩,⟨ic,⟨sc,xc,nc,cc9,fc,yc,mc,dc,gc⟩⟩,⟨ie,⟨sd,xd,nd,cd,fd,yd,md,dd,gd⟩⟩⟩,e14,hcs,hsc,hlc⟩:=h14;replace HI:=zi (HI.out.q_ hb5);obtain⟨i0,hi0,hz0,hz1,hz2⟩:=info_parts znL;obtain⟨t0,t1,t2,t3,t4,t5,t6,t7,t8,t9,t10,t11⟩:=id hS5;have hbl:=block_lt_of_cell? w5 _ t0;replace hbl:bk<w5.heap.size:=hbl;clear hg;simp only[zaT,zA,Act.put];simp only[<-h1,e14];clear h1 e14;refine rdO 15 (λK hK=>?_);refine zbz w5 rfl (.tmp 20) (.tmp 33) 25 rfl base 59 i0 zC 12 200 underlying25 hi0 hz0 hz1 hz2 rfl (by decide) nzC vC i (ccs C' i) rfl HI.out.row ⟨b14,0,none⟩ 1 1 (Lc.vs ⟨zj,⟨sb,xb,nb,cb,fb,yb,mb,db,gb⟩,⟨ic,⟨sc,xc,nc,cc9,fc,yc,mc,dc,gc⟩⟩,⟨ie,⟨sd,xd,nd,cd,fd,yd,md,dd,gd⟩⟩⟩) rfl rfl ?n1 (zmU _) (zie _) (by decide) ?p1 ?p2 HI.out.bs ?_
    case n1=>intro j u hu;rw[addr_add];exact hcs j u hu
    case p1=>unfold maxLen;omega
    case p2=>omega
    intro g8 cap8 w8 hr8 hgr8 hk8 hl8;have hB8:=hgr8.block bk hbl (λe=>hne e.symm);have e0:=(cell?_of_block (a:=⟨bk,0,none⟩) hB8).trans t0;have e1:=(cell?_of_block (a:=⟨bk,1,none⟩) hB8).trans t1;have e2:=(cell?_of_block (a:=⟨bk,2,none⟩) hB8).trans t2;have e3:=(cell?_of_block (a:=⟨bk,3,none⟩) hB8).trans t3;have e4:=(cell?_of_block (a:=⟨bk,4,none⟩) hB8).trans t4;have e5:=(cell?_of_block (a:=⟨bk,5,none⟩) hB8).trans t5;have e6:=(cell?_of_block (a:=⟨bk,6,none⟩) hB8).trans t6;have e7:=(cell?_of_block (a:=⟨bk,7,none⟩) hB8).trans t7;have e8:=(cell?_of_block (a:=⟨bk,8,none⟩) hB8).trans t8;have e9:=(cell?_of_block (a:=⟨bk,9,none⟩) hB8).trans t9;have e10:=(cell?_of_block (a:=⟨bk,10,none⟩) hB8).trans t10;have e11:=(cell?_of_block (a:=⟨bk,11,none⟩) hB8).trans t11;have hp8:=HI.out.p3.of (hgr8.block b3 HI.out.p3.lt (λe=>by have:=(HI.out.row.lt b3 e.symm).1;omega));have f0:=hp8.cell (j:=3) rfl;have ff:=hp8.frozen 3;refine hK.out _ _ ?_ (λhH8=>?_)
    ·exact⟨e0,e1,e2,e3,e4,e5,e6,e7,e8,e9,e10,e11⟩
    clear hK K;try simp only[Act.put,List.setIfInBounds_toArray]
    refine tkO 16 ?_;simp only[zA,Act.put];refine rdO 17 (λK hK=>?_);go_simp;refine hK.out _ _ ?_ (λhH9=>?_)
    ·((try dsimp only);(refine⟨?_,?_,?_,?_,?_,?_,?_,?_,?_,?_,?_,?_⟩ <;> repeat(with_reducible first|assumption|refine kCs (by simp only[ne_eq];omega) ?_)))
    clear hK K;try simp only[Act.put]
    refine dnO ?_;have HI9:=zi (HI.out.next (by omega) (by omega) hbb (le_refl _) (by rw[HCN.out];exact hsc) hlc hr8 hk8 hgr8);clear hr8 hgr8 hk8 hl8 hB8 hp8 f0 ff hH8 hH9 HI hsc hlc hcs hHeld HB5 e0 e1 e2 e3 e4 e5 e6 e7 e8 e9 e10 e11;go_wp2;go_roundw
    case rel=>exact⟨i+1,_,_,by omega,by go_num,HI9.out⟩
    case measure=>simp[intOf];omega
  ·have e1:i=ck:=by omega
   have i2':¬(((i:Nat):Int)<((ck:Nat):Int)):=by omega
   rw[e1]at HI
   have k4:=HI.out.p1.cell (j:=4) rfl;obtain⟨base2,hbase2⟩:∃z,wr.heap.size=z:=⟨_,rfl⟩;have hb2:base<=base2:=by have:=HI.out.bs;omega
   have HI2:Hid (TwR w base base2 (w.heap.size+1) b3 [.bool false,slice none 0 0,slice none 0 0,slice none 0 0,slice none 0 0] s z2 n c2 y2 m d2 ⟨s,z2,n,c2,f,y2,m,d2,g⟩ C ck C' vC R wr 0 R (slice none 0 0)):=⟨HI.out.bel,HI.out.p2,HI.out.p3,by omega,HI.out.off,HI.out.row,HI.out.el,λk hk=>by have:=(HI.out.row.lt k hk).2;omega,zaK _ _ _ _,λj hj=>by omega⟩;clear HI e1 HC hbase2;go_wp2_with fail
   go_loopw[40] (λt wr=>∃(i:Nat) (R':Nat->Lr) (vR:Value),i<=rk/\t=.int .i64 i/\Hid (TwR w base base2 (w.heap.size+1) b3 [.bool false,slice none 0 0,slice none 0 0,slice none 0 0,slice none 0 0] s z2 n c2 y2 m d2 ⟨s,z2,n,c2,f,y2,m,d2,g⟩ C ck C' vC R wr i R' vR)) (λt _=>rk-(intOf t).toNat)
   case atStart=>exact⟨0,R,_,by omega,rfl,HI2.out⟩
   case round =>
    obtain⟨i,R',vR,hi,rfl,HI⟩:=hrel;clear HI2 k4;by_cases hlt:i<rk
    ·obtain⟨b,o,rfl,hc,hn⟩:=(HRL.out.q_ HI.out.bel) i hlt;obtain⟨rN,hrN⟩:∃t,R i=t:=⟨_,rfl⟩;rw[hrN]at hc hn
     have HRN:=zi hrN;obtain⟨z,⟨i1,⟨s1,x1,n1,c1,f1,y1,m1,d1,g1⟩⟩,⟨i2,⟨s2,x2,n2,c2',f2,y2',m2,d2',g2⟩⟩,ta,tk,tc,tcol,tt⟩:=rN;obtain⟨hn1,hn2,hn3,hn4,hn5⟩:=hn;obtain⟨q0,q1,q2,q3,q4,q5,q6,q7,q8,q9⟩:=hc.lr;have HN1:Hid (NmB wr ⟨s1,x1,n1,c1,f1,y1,m1,d1,g1⟩):=hn1;have HN2:Hid (NmB wr ⟨s2,x2,n2,c2',f2,y2',m2,d2',g2⟩):=hn2;have HN3:Hid (Tr wr ta tk tcol tt):=hn3;have HN4:Hid (tk<=2199023255552/\∀p,p<tk->(tt p).n<=17592186044416/\(tt p).m<=17592186044416):=⟨hn4,hn5⟩;have i1':((i:Nat):Int)<((rk:Nat):Int):=by omega
     clear hrN hc hn1 hn2 hn3 hn4 hn5;go_upto_region 10 with fail
     have hb5:=Below.drew (zE wr (cells #[.string z,.int .i64 i1,.bool s1,slice x1 n1 c1,slice y1 m1 d1,.int .i64 i2,.bool s2,slice x2 n2 c2',slice y2' m2 d2',slice ta tk tc] 62));have B5:Bk (wr.alloc (cells #[.string z,.int .i64 i1,.bool s1,slice x1 n1 c1,slice y1 m1 d1,.int .i64 i2,.bool s2,slice x2 n2 c2',slice y2' m2 d2',slice ta tk tc] 62)).drew wr.heap.size [.string z,.int .i64 i1,.bool s1,slice x1 n1 c1,slice y1 m1 d1,.int .i64 i2,.bool s2,slice x2 n2 c2',slice y2' m2 d2',slice ta tk tc] 62:=zI wr [.string z,.int .i64 i1,.bool s1,slice x1 n1 c1,slice y1 m1 d1,.int .i64 i2,.bool s2,slice x2 n2 c2',slice y2' m2 d2',slice ta tk tc] 62;have hne:vR.ownBlock≠some wr.heap.size:=λe=>by have:=(HI.out.row.lt _ e).2;omega
     have hbz:=HI.out.bs;replace HI:=zi (HI.out.q_ hb5);replace HN1:=zi (HN1.out.q_ hb5);replace HN2:=zi (HN2.out.q_ hb5);replace HN3:=zi (HN3.out.q_ hb5)
     obtain⟨a0,a1,a2,a3,a4,a5,a6,a7,a8,a9⟩:=zeR B5;have HB5:=zi B5;obtain⟨bk,hbk⟩:∃z,wr.heap.size=z:=⟨_,rfl⟩;simp only[hbk]at *;clear hb5 hbk q0 q1 q2 q3 q4 q5 q6 q7 q8 q9 B5;refine wp_region_held_drew (S:=(λw'=>w'.cell? ⟨bk,0,none⟩=some (.string z)/\w'.cell? ⟨bk,1,none⟩=some (.int .i64 i1)/\w'.cell? ⟨bk,2,none⟩=some (.bool s1)/\w'.cell? ⟨bk,3,none⟩=some (slice x1 n1 c1)/\w'.cell? ⟨bk,4,none⟩=some (slice y1 m1 d1)/\w'.cell? ⟨bk,5,none⟩=some (.int .i64 i2)/\w'.cell? ⟨bk,6,none⟩=some (.bool s2)/\w'.cell? ⟨bk,7,none⟩=some (slice x2 n2 c2')/\w'.cell? ⟨bk,8,none⟩=some (slice y2' m2 d2')/\w'.cell? ⟨bk,9,none⟩=some (slice ta tk tc))) (by kernel_rfl) ?_ (λhHeld=>?_)
     ·exact⟨a0,a1,a2,a3,a4,a5,a6,a7,a8,a9⟩
     generalize hwd:(wr.alloc (cells #[.string z,.int .i64 i1,.bool s1,slice x1 n1 c1,slice y1 m1 d1,.int .i64 i2,.bool s2,slice x2 n2 c2',slice y2' m2 d2',slice ta tk tc] 62)).drew=wd at *;clear hwd;obtain⟨bse,hbse⟩:∃z,wd.heap.size=z:=⟨_,rfl⟩;have hb2s:base2<=bse:=by have:=HI.out.bs;omega
     have hown:∀b,bse<=b->vR.ownBlock≠some b:=λb hb e=>by have:=(HI.out.row.lt b e).2;omega
     have HW:=zi hown;clear hown;refine tkO 0 ?_;refine tkO 2 ?_;refine tkO 3 ?_;simp only[zA,Act.put];refine tkO 4 ?_;refine tkO 5 ?_;refine tkO 7 ?_;simp only[zA,Act.put];refine tkO 8 ?_;refine tkO 10 ?_;refine tkO 11 ?_;simp only[zA,Act.put];refine(show wpAnyH _ _ _ _ _ (6+3) _ _ _ from zbY (λj v w=>match j with|1=>vR=v|6=>TE ⟨i1,⟨s1,x1,n1,c1,f1,y1,m1,d1,g1⟩⟩ v w|9=>TE ⟨i2,⟨s2,x2,n2,c2',f2,y2',m2,d2',g2⟩⟩ v w|12=>TT bse ta tk tcol tt v w|13=>TR bse ⟨z,⟨i1,⟨s1,x1,n1,c1,f1,y1,m1,d1,g1⟩⟩,⟨i2,⟨s2,x2,n2,c2',f2,y2',m2,d2',g2⟩⟩,ta,tk,tc,tcol,tt⟩ v w|14=>TRs bse ⟨z,⟨i1,⟨s1,x1,n1,c1,f1,y1,m1,d1,g1⟩⟩,⟨i2,⟨s2,x2,n2,c2',f2,y2',m2,d2',g2⟩⟩,ta,tk,tc,tcol,tt⟩ v w|_=>True) [(1,45),(6,50),(9,53),(12,56),(13,57),(14,58)] [1,6,9,12,13,14] [15,16,17] _ _ _ 3 ?k1 ?k4 ?k2 ?k3 ?k5 ?k6 ?k8)
     case k1=>kernel_rfl
     case k4=>kernel_rfl
     case k2=>exact λw w' h hb=>⟨kCb hb h.1,kCb hb h.2.1,kCb hb h.2.2.1,kCb hb h.2.2.2.1,kCb hb h.2.2.2.2.1,kCb hb h.2.2.2.2.2.1,kCb hb h.2.2.2.2.2.2.1,kCb hb h.2.2.2.2.2.2.2.1,kCb hb h.2.2.2.2.2.2.2.2.1,kCb hb h.2.2.2.2.2.2.2.2.2⟩
     case k3 =>
      intro j v w w' h hb
      split at h <;> first|exact TE.q_ h hb|exact TT.q_ h hb|exact TR.q_ h hb|exact TRs.q_ h hb|exact h|trivial
     case k8=>exact hHeld
     case k5 =>
      intro i hi;simp only[List.mem_cons,List.not_mem_nil,or_false]at hi;rcases hi with rfl|rfl|rfl|rfl|rfl|rfl
      ·refine⟨_,rfl,λu w5 hS hb5 hd K hK=>?_⟩;have k5:=(HI.out.p3.q_ hb5).cell (j:=4) rfl;simp only[zaT,zA,Act.put]at hK ⊢;go_simp;exact hK.out _ _ (Below.refl _ _) rfl
      ·refine⟨_,rfl,λu w5 hS hb5 hd K hK=>?_⟩;simp only[zaT,zA,Act.put]at hK ⊢;go_simp
       go_at_call 23
       refine(zdz (HN1.out.q_ hb5).1 HN1.out.2.1 HN1.out.2.2).mono ?_;rintro e w6 ⟨zp,cp,zq,cq,rfl,hb6,hq⟩
       (try go_wp2_with fail)
       exact hK.out _ _ hb6 ⟨⟨i1,⟨s1,zp,n1,cp,f1,zq,m1,cq,g1⟩⟩,rfl,rfl,⟨rfl,rfl,rfl,rfl,rfl⟩,hq,HN1.out.2⟩
      ·refine⟨_,rfl,λu w5 hS hb5 hd K hK=>?_⟩;simp only[zaT,zA,Act.put]at hK ⊢;go_simp
       go_at_call 23
       refine(zdz (HN2.out.q_ hb5).1 HN2.out.2.1 HN2.out.2.2).mono ?_;rintro e w6 ⟨zp,cp,zq,cq,rfl,hb6,hq⟩
       (try go_wp2_with fail)
       exact hK.out _ _ hb6 ⟨⟨i2,⟨s2,zp,n2,cp,f2,zq,m2,cq,g2⟩⟩,rfl,rfl,⟨rfl,rfl,rfl,rfl,rfl⟩,hq,HN2.out.2⟩
      ·refine⟨_,rfl,λu w5 hS hb5 hd K hK=>?_⟩;simp only[zaT,zA,Act.put]at hK ⊢;go_simp
       go_at_call 24
       refine(zkB (HN3.out.q_ hb5) HN4.out.1 HN4.out.2).mono ?_;rintro e w6 ⟨aw,cw,T9,rfl,hb6,_,hfr,hq⟩
       (try go_wp2_with fail)
       exact hK.out _ _ hb6 ⟨aw,cw,T9,rfl,λb o s e=>by have h1:=hfr b o s e;have h2:=hb5.size;omega,hq.out.1,hq.out.2,rfl⟩
      ·refine⟨_,rfl,λu w5 hS hb5 hd K hK=>?_⟩;have h6:TE ⟨i1,⟨s1,x1,n1,c1,f1,y1,m1,d1,g1⟩⟩ (u 6) w5:=hd 6 (by kernel_rfl) (by kernel_rfl);obtain⟨⟨ia6,⟨sa6,xa6,na6,ca6,fa6,ya6,ma6,da6,ga6⟩⟩,e6,hi6,hs6,hv6⟩:=h6;replace e6:u 6=.agg #[.int .i64 ia6,.bool sa6,slice xa6 na6 ca6,slice ya6 ma6 da6]:=e6;have h9:TE ⟨i2,⟨s2,x2,n2,c2',f2,y2',m2,d2',g2⟩⟩ (u 9) w5:=hd 9 (by kernel_rfl) (by kernel_rfl);obtain⟨⟨ia9,⟨sa9,xa9,na9,ca9,fa9,ya9,ma9,da9,ga9⟩⟩,e9,hi9,hs9,hv9⟩:=h9;replace e9:u 9=.agg #[.int .i64 ia9,.bool sa9,slice xa9 na9 ca9,slice ya9 ma9 da9]:=e9;have h12:TT bse ta tk tcol tt (u 12) w5:=hd 12 (by kernel_rfl) (by kernel_rfl);obtain⟨aw,cw,T9,e12,hfr,htr,hsn,_⟩:=h12;simp only[zaT,zA,Act.put]at hK ⊢;simp only[e6,e9,e12]at hK ⊢;go_simp;exact hK.out _ _ (Below.refl _ _) ⟨⟨z,⟨ia6,⟨sa6,xa6,na6,ca6,fa6,ya6,ma6,da6,ga6⟩⟩,⟨ia9,⟨sa9,xa9,na9,ca9,fa9,ya9,ma9,da9,ga9⟩⟩,aw,tk,cw,tcol,T9⟩,rfl,⟨rfl,hi6,hs6,hi9,hs9,rfl,rfl,hsn⟩,⟨hv6,hv9,htr,HN4.out.1,λp hp=>by obtain⟨_,e2,_,e4,_⟩:=hsn p hp;show(T9 p).n<=_/\(T9 p).m<=_;rw[e2,e4];exact HN4.out.2 p hp⟩,hfr⟩
      ·refine⟨_,rfl,λu w5 hS hb5 hd K hK=>?_⟩;have h13:TR bse ⟨z,⟨i1,⟨s1,x1,n1,c1,f1,y1,m1,d1,g1⟩⟩,⟨i2,⟨s2,x2,n2,c2',f2,y2',m2,d2',g2⟩⟩,ta,tk,tc,tcol,tt⟩ (u 13) w5:=hd 13 (by kernel_rfl) (by kernel_rfl);obtain⟨⟨zj,⟨ic,⟨sc,xc,nc,cc9,fc,yc,mc,dc,gc⟩⟩,⟨ie,⟨sd,xd,nd,cd,fd,yd,md,dd,gd⟩⟩,ta9,tk9,tc9,tcol9,tt9⟩,e13,hs,hv,hfr⟩:=h13;replace e13:u 13=.agg #[.string zj,.int .i64 ic,.bool sc,slice xc nc cc9,slice yc mc dc,.int .i64 ie,.bool sd,slice xd nd cd,slice yd md dd,slice ta9 tk9 tc9]:=e13;simp only[zaT,zA,Act.put]at hK ⊢;simp only[e13]at hK ⊢;go_simp;have hn:=zE w5 (cells #[.string zj,.int .i64 ic,.bool sc,slice xc nc cc9,slice yc mc dc,.int .i64 ie,.bool sd,slice xd nd cd,slice yd md dd,slice ta9 tk9 tc9] 62);have hx:=zhT w5 62 [.string zj,.int .i64 ic,.bool sc,slice xc nc cc9,slice yc mc dc,.int .i64 ie,.bool sd,slice xd nd cd,slice yd md dd,slice ta9 tk9 tc9] [.string zj,.int .i64 ic,.bool sc,slice xc nc cc9,slice yc mc dc,.int .i64 ie,.bool sd,slice xd nd cd,slice yd md dd,slice ta9 tk9 tc9] 0 (λj v e=>by rw[zero_add];exact e);exact hK.out _ _ hn ⟨w5.heap.size,⟨zj,⟨ic,⟨sc,xc,nc,cc9,fc,yc,mc,dc,gc⟩⟩,⟨ie,⟨sd,xd,nd,cd,fd,yd,md,dd,gd⟩⟩,ta9,tk9,tc9,tcol9,tt9⟩,rfl,hx,hs,hv.q_ hn,hfr⟩
     case k6 =>
      intro u w5 hS5 hb5 hg;have h1:vR=u 1:=hg 1 (by simp);have h14:TRs bse ⟨z,⟨i1,⟨s1,x1,n1,c1,f1,y1,m1,d1,g1⟩⟩,⟨i2,⟨s2,x2,n2,c2',f2,y2',m2,d2',g2⟩⟩,ta,tk,tc,tcol,tt⟩ (u 14) w5:=hg 14 (by simp);obtain⟨b14,⟨zj,⟨ic,⟨sc,xc,nc,cc9,fc,yc,mc,dc,gc⟩⟩,⟨ie,⟨sd,xd,nd,cd,fd,yd,md,dd,gd⟩⟩,ta9,tk9,tc9,tcol9,tt9⟩,e14,hcs,hsc,hlc,hfr⟩:=h14;replace HI:=zi (HI.out.q_ hb5);obtain⟨i0,hi0,hz0,hz1,hz2⟩:=info_parts znK;obtain⟨t0,t1,t2,t3,t4,t5,t6,t7,t8,t9⟩:=id hS5;have hbl:=block_lt_of_cell? w5 _ t0;replace hbl:bk<w5.heap.size:=hbl;clear hg;simp only[zaT,zA,Act.put];simp only[<-h1,e14];clear h1 e14;refine rdO 15 (λK hK=>?_);refine zbz w5 rfl (.tmp 45) (.tmp 58) 26 rfl base2 62 i0 zR 10 168 underlying26 hi0 hz0 hz1 hz2 rfl (by decide) nzR vR i (rcs R' i) rfl HI.out.row ⟨b14,0,none⟩ 1 1 (Lr.vs ⟨zj,⟨ic,⟨sc,xc,nc,cc9,fc,yc,mc,dc,gc⟩⟩,⟨ie,⟨sd,xd,nd,cd,fd,yd,md,dd,gd⟩⟩,ta9,tk9,tc9,tcol9,tt9⟩) rfl rfl ?n1 (zmT _) (zid _) (by decide) ?p1 ?p2 HI.out.bs ?_
      case n1=>intro j u hu;rw[addr_add];exact hcs j u hu
      case p1=>unfold maxLen;omega
      case p2=>omega
      intro g8 cap8 w8 hr8 hgr8 hk8 hl8;have hB8:=hgr8.block bk hbl (λe=>hne e.symm);have e0:=(cell?_of_block (a:=⟨bk,0,none⟩) hB8).trans t0;have e1:=(cell?_of_block (a:=⟨bk,1,none⟩) hB8).trans t1;have e2:=(cell?_of_block (a:=⟨bk,2,none⟩) hB8).trans t2;have e3:=(cell?_of_block (a:=⟨bk,3,none⟩) hB8).trans t3;have e4:=(cell?_of_block (a:=⟨bk,4,none⟩) hB8).trans t4;have e5:=(cell?_of_block (a:=⟨bk,5,none⟩) hB8).trans t5;have e6:=(cell?_of_block (a:=⟨bk,6,none⟩) hB8).trans t6;have e7:=(cell?_of_block (a:=⟨bk,7,none⟩) hB8).trans t7;have e8:=(cell?_of_block (a:=⟨bk,8,none⟩) hB8).trans t8;have e9:=(cell?_of_block (a:=⟨bk,9,none⟩) hB8).trans t9;have hp8:=HI.out.p3.of (hgr8.block b3 HI.out.p3.lt (λe=>by have:=(HI.out.row.lt b3 e.symm).1;omega));have f0:=hp8.cell (j:=4) rfl;have ff:=hp8.frozen 4;refine hK.out _ _ ?_ (λhH8=>?_)
      ·exact⟨e0,e1,e2,e3,e4,e5,e6,e7,e8,e9⟩
      clear hK K;try simp only[Act.put,List.setIfInBounds_toArray]
      refine tkO 16 ?_;simp only[zA,Act.put];refine rdO 17 (λK hK=>?_);go_simp;refine hK.out _ _ ?_ (λhH9=>?_)
      ·((try dsimp only);(refine⟨?_,?_,?_,?_,?_,?_,?_,?_,?_,?_⟩ <;> repeat(with_reducible first|assumption|refine kCs (by simp only[ne_eq];omega) ?_)))
      clear hK K;try simp only[Act.put]
      refine dnO ?_;have HI9:=zi (HI.out.next (by omega) (by omega) hbb (by omega) (by rw[HRN.out];exact hsc) hlc (λ_ b o s e=>⟨by have:=hfr b o s e;omega,HW.out b (hfr b o s e)⟩) hr8 hk8 hgr8 hl8);clear hr8 hgr8 hk8 hl8 hB8 hp8 f0 ff hH8 hH9 HI hsc hlc hcs hHeld HB5 e0 e1 e2 e3 e4 e5 e6 e7 e8 e9;go_wp2;go_roundw
      case rel=>exact⟨i+1,_,_,by omega,by go_num,HI9.out⟩
      case measure=>simp[intOf];omega
    ·have e1:i=rk:=by omega
     have i2':¬(((i:Nat):Int)<((rk:Nat):Int)):=by omega
     rw[e1]at HI
     obtain⟨aC,cC,rfl⟩:=HI.out.rowC.slice;obtain⟨aR,cR,rfl⟩:=HI.out.row.slice;have o0:=HI.out.p3.cell (j:=0) rfl;have o1:=HI.out.p3.cell (j:=1) rfl;have o2:=HI.out.p3.cell (j:=2) rfl;have o3:=HI.out.p3.cell (j:=3) rfl;have o4:=HI.out.p3.cell (j:=4) rfl;have r0:=HI.out.p2.cell (j:=0) rfl;have r1:=HI.out.p2.cell (j:=1) rfl;have r2:=HI.out.p2.cell (j:=2) rfl;have r3:=HI.out.p2.cell (j:=3) rfl;have r4:=HI.out.p2.cell (j:=4) rfl;have rf:=HI.out.p2.frozen;obtain⟨hx1,hx2,hx3⟩:=HI.out.done (N:=⟨s,x,n,c,f,y,m,d,g⟩) (ca:=ca) (cc:=cc) (ra:=ra) (rc:=rc) (v0:=.bool s) (v1:=slice z2 n c2) (v2:=slice y2 m d2) (v3:=slice aC ck cC) (v4:=slice aR rk cR) (by omega) (by omega) (by omega) rfl ⟨rfl,rfl,rfl,rfl,rfl⟩ hck hrk;have HX:=zi (HA.out _ _ hx1 hx2 hx3);clear hx1 hx2 hx3 HI e1;go_wp2;exact bodyPost_ret (v:=.agg #[.bool s,slice z2 n c2,slice y2 m d2,slice aC ck cC,slice aR rk cR]) (by simp[results,results8,go_sem,r0,r1,r2,r3,r4]) rfl HX.out
def ev (b3 b5 b6 b7:Bool):Int:=if b3 then 3 else if b5 then 5 else if b6 then 6 else if b7 then 7 else 0
structure MoS (M:Mo):Prop where
 off:M.off.n<=1000/\M.off.m<=1000
 c:∀j,j<M.ck->((M.C j).cost.n<=1000/\(M.C j).cost.m<=1000)/\((M.C j).lo.v.n<=1000/\(M.C j).lo.v.m<=1000)/\(M.C j).hi.v.n<=1000/\(M.C j).hi.v.m<=1000
 r:∀j,j<M.rk->((M.R j).lo.v.n<=1000/\(M.R j).lo.v.m<=1000)/\((M.R j).hi.v.n<=1000/\(M.R j).hi.v.m<=1000)/\(M.R j).tk<=10000/\∀p,p<(M.R j).tk->((M.R j).T p).n<=1000/\((M.R j).T p).m<=1000
def MoC (M:Mo):Prop:=(M.ck<=M.cc/\M.cc<=9223372036854775807)/\M.rk<=M.rc/\M.rc<=9223372036854775807
theorem Sn.exF {a b:Ex} (hi:b.i=a.i) (h:Sn a.v b.v):exF b=exF a:=by
 obtain⟨h1,h2,h3,h4,h5⟩:=h;unfold Go.Proofs.YtgmmlmmahdnnhaaGreat.exF;rw[hi,h1,h2,h3,h4,h5]
theorem zhc {a b a' b'} (h1:a'.i=a.i) (h2:Sn a.v a'.v) (h3:b'.i=b.i) (h4:Sn b.v b'.v):abB a' b'=abB a b:=by
 unfold abB;rw[Sn.exF h1 h2,Sn.exF h3 h4,h1,h3]
theorem zeA {C C'}:∀{r i:Nat},(∀j,i<=j->j<i+r->Sc (C j) (C' j))->zdy C' r i=zdy C r i
 | 0,_,_=>rfl
 | r+1,i,h=>by
  have k:=h i (by omega) (by omega);simp only[zdy];rw[k.cost.nfB,zhc k.li k.lo k.hi k.hv,zeA (λj a b=>h j (by omega) (by omega))]
theorem zjy {r r'} (k:Sr r r'):tfB r'.tk r'.col r'.T=tfB r.tk r.col r.T:=by
 unfold tfB;rw[k.tk,k.col]
 exact zoT (λj _ hj=>k.T j (by omega))
theorem zem {R R'}:∀{r i:Nat},(∀j,i<=j->j<i+r->Sr (R j) (R' j))->zcE R' r i=zcE R r i
 | 0,_,_=>rfl
 | r+1,i,h=>by
  have k:=h i (by omega) (by omega);simp only[zcE];rw[zjy k,zhc k.li k.lo k.hi k.hv,zem (λj a b=>h j (by omega) (by omega))]
theorem zfp {k R R'}:∀{r i:Nat},(∀j,i<=j->j<i+r->Sr (R j) (R' j))->alB k R' r i=alB k R r i
 | 0,_,_=>rfl
 | r+1,i,h=>by
  have q:=h i (by omega) (by omega);simp only[alB,lastB];rw[q.tk,q.col,zfp (λj a b=>h j (by omega) (by omega))]
theorem Sm.chk {M M'} (h:Sm M M'):zaH M'=zaH M:=by
 have e1:moF M'=moF M:=by
  unfold moF;rw[h.off.nfB,h.ck,h.rk,zeA (λj _ hj=>h.C j (by omega)),zem (λj _ hj=>h.R j (by omega))]
 unfold zaH;rw[e1,h.ck,h.rk,zaW (S':=λj=>(M.C j).nm) (λj _ hj=>(h.C j (by omega)).nm),zaW (S':=λj=>(M.R j).nm) (λj _ hj=>(h.R j (by omega)).nm),
  zaV (S':=λj=>(M.C j).nm) (λj hj=>(h.C j (by omega)).nm),zaV (S':=λj=>(M.R j).nm) (λj hj=>(h.R j (by omega)).nm),zfp (λj _ hj=>h.R j (by omega))]
theorem Sm.col {M M'} (h:Sm M M') (z:ByteArray):zgV M' z=zgV M z:=by
 unfold zgV;rw[h.chk,h.ck,zbH (S':=λj=>(M.C j).nm) (λj _ hj=>(h.C j (by omega)).nm)]
theorem Sm.row {M M'} (h:Sm M M') (z:ByteArray):zgU M' z=zgU M z:=by
 unfold zgU;rw[h.chk,h.rk,zbH (S':=λj=>(M.R j).nm) (λj _ hj=>(h.R j (by omega)).nm)]
structure MoN (M:Mo):Prop where
 c:∀j,j<M.ck->(M.C j).nm.size<=9223372036854775807
 r:∀j,j<M.rk->(M.R j).nm.size<=9223372036854775807
theorem Sm.mon {M M'} (h:Sm M M') (k:MoN M):MoN M':=⟨λj hj=>by rw[h.ck]at hj;rw[(h.C j hj).nm];exact k.c j hj,λj hj=>by rw[h.rk]at hj;rw[(h.R j hj).nm];exact k.r j hj⟩
theorem zje {K C}:∀{i:Nat},clgs K C i=true->∀j,j<i->cl3 K (C j)=true
 | 0,_,j,hj=>by omega
 | i+1,h,j,hj=>by
  simp only[clgs,Bool.and_eq_true]at h;by_cases e:j=i
  ·subst e;exact h.2
  ·exact zje h.1 j (by omega)
theorem ziu {K R}:∀{i:Nat},rlgs K R i=true->∀j,j<i->rl3 K (R j)=true
 | 0,_,j,hj=>by omega
 | i+1,h,j,hj=>by
  simp only[rlgs,Bool.and_eq_true]at h;by_cases e:j=i
  ·subst e;exact h.2
  ·exact ziu h.1 j (by omega)
theorem zlz {K X}:∀{r i:Nat},nlg K X r i=true->∀j,i<=j->j<i+r->(X j).n<=K/\(X j).m<=K
 | 0,_,_,j,h1,h2=>by omega
 | r+1,i,h,j,h1,h2=>by
  simp only[nlg,lg,Bool.and_eq_true,decide_eq_true_eq]at h;by_cases e:j=i
  ·subst e;exact h.1
  ·exact zlz h.2 j (by omega) (by omega)
theorem zdd {K t} (h:lgN K t=true):t.n<=K/\t.m<=K:=by
 simpa only[lgN,lg,Bool.and_eq_true,decide_eq_true_eq]using h
structure MoK (K:Nat) (M:Mo):Prop where
 off:M.off.n<=K/\M.off.m<=K
 c:∀j,j<M.ck->((M.C j).cost.n<=K/\(M.C j).cost.m<=K)/\((M.C j).lo.v.n<=K/\(M.C j).lo.v.m<=K)/\(M.C j).hi.v.n<=K/\(M.C j).hi.v.m<=K
 r:∀j,j<M.rk->((M.R j).lo.v.n<=K/\(M.R j).lo.v.m<=K)/\((M.R j).hi.v.n<=K/\(M.R j).hi.v.m<=K)/\(M.R j).tk<=300/\∀p,p<(M.R j).tk->((M.R j).T p).n<=K/\((M.R j).T p).m<=K
theorem zpp {K M} (h:lgM K M=true) (h1:M.ck<=64) (h2:M.rk<=64):MoK K M:=by
 have e0:(decide (64<M.ck) || decide (64<M.rk))=false:=by simp;omega
 unfold lgM at h;rw[e0,Bool.false_or]at h
 simp only[Bool.and_eq_true]at h;refine⟨zdd h.1,λj hj=>?_,λj hj=>?_⟩
 ·have:=zje h.2.1 j hj;simp only[cl3,Bool.and_eq_true]at this;exact⟨zdd this.1,zdd this.2.1,zdd this.2.2⟩
 ·have:=ziu h.2.2 j hj;simp only[rl3,Bool.and_eq_true,decide_eq_true_eq]at this;exact⟨zdd this.2.1,zdd this.2.2.1,this.1,λp hp=>zlz this.2.2.2 p (by omega) (by omega)⟩
theorem Sm.mok {K M M'} (h:Sm M M') (k:MoK K M):MoK K M':=by
 have hn:∀{t t':Nm},Sn t t'->t.n<=K/\t.m<=K->t'.n<=K/\t'.m<=K:=λe l=>by rw[e.2.1,e.2.2.2.1];exact l
 refine⟨hn h.off k.off,λj hj=>?_,λj hj=>?_⟩
 ·rw[h.ck]at hj
  have a:=h.C j hj;have b:=k.c j hj
  exact⟨hn a.cost b.1,hn a.lo b.2.1,hn a.hv b.2.2⟩
 ·rw[h.rk]at hj
  have a:=h.R j hj;have b:=k.r j hj
  exact⟨hn a.lo b.1,hn a.hv b.2.1,by rw[a.tk];exact b.2.2.1,λp hp=>by rw[a.tk]at hp;exact hn (a.T p hp) (b.2.2.2 p hp)⟩
theorem MoX.mor {w M K} (h:MoX w M) (hn:MoN M) (hk:MoK K M) (hK:K<=65536) (h1:M.ck<=64) (h2:M.rk<=64):MoR w M:=by
 have hs:∀{t:Nm},NmB w t->t.n<=K/\t.m<=K->NmS w t:=λa b=>⟨a.1,le_trans b.1 hK,le_trans b.2 hK⟩
 refine⟨hs h.off hk.off,λj hj=>?_,λj hj=>?_,by omega,by omega⟩
 ·obtain⟨b,o,e,a1,a2⟩:=h.cls j hj;have q:=hk.c j hj;exact⟨b,o,e,a1,hs a2.cost q.1,hs a2.lo q.2.1,hs a2.hi q.2.2,hn.c j hj⟩
 ·obtain⟨b,o,e,a1,a2⟩:=h.rls j hj;have q:=hk.r j hj;refine⟨b,o,e,a1,hs a2.lo q.1,hs a2.hi q.2.1,λp hp=>?_,by omega,hn.r j hj⟩;obtain⟨b',o',e',c4,rw'⟩:=a2.tr p hp;exact⟨b',o',e',c4,rw',le_trans (q.2.2.2 p hp).1 hK,le_trans (q.2.2.2 p hp).2 hK⟩
theorem MoK.mos {K M} (h:MoK K M) (hK:K<=1000):MoS M:=by
 have hs:∀{a b:Nat},a<=K/\b<=K->a<=1000/\b<=1000:=λl=>⟨le_trans l.1 hK,le_trans l.2 hK⟩
 exact⟨hs h.off,λj hj=>⟨hs (h.c j hj).1,hs (h.c j hj).2.1,hs (h.c j hj).2.2⟩,λj hj=>⟨hs (h.r j hj).1,hs (h.r j hj).2.1,by have:=(h.r j hj).2.2.1;omega,λp hp=>hs ((h.r j hj).2.2.2 p hp)⟩⟩
theorem MoX.light {w M} (h:MoX w M):Cl0 w M.ca M.ck M.C/\Rl0 w M.ra M.rk M.R :=
 ⟨λj hj=>by obtain⟨b,o,e,a1,_⟩:=h.cls j hj;exact⟨b,o,e,a1⟩,λj hj=>by obtain⟨b,o,e,a1,a2⟩:=h.rls j hj;exact⟨b,o,e,a1,a2.tr,le_trans a2.tk (by decide)⟩⟩
end Go.Proofs.YtgmmlmmahdnnhaaGreat
namespace Go.Proofs.YtgmmlmmahdnnhaaGreat
open Value (slice)
open Obj (cells)
open Nat (le_refl le_trans zero_add)
open World (cell?_of_block block_lt_of_cell?)
open List (getElem?_eq_getElem)
open Go.Proofs.Tryz
open Go.ChangeShapes Go.WideShapes Go.ChangeAt Go.RowKit
theorem zjl {H:Type} {P:Program} {e:TypeId}:∀{l:List (DataW H)} {d:DataW H},d ∈ l->∀n ∈ d.weights P e,n ∈ DataW.weightsAll P e l
 | x :: l,d,h,n,hn=>by
  simp only[DataW.weightsAll,List.mem_append];rcases List.mem_cons.1 h with rfl|h
  ·exact .inl hn
  ·exact .inr (zjl h n hn)
def Wt {H:Type} (P:Program) (t:TypeId) (x:DataW H × List MemPlace):Prop:=∀n ∈ x.1.weights P t,n<=reachBytes
theorem zbP {H:Type} {enc:TypeId × Value->H} {P:Program} {w:World} {t:TypeId} {fs:Array Field} {fuel:Nat} {cs:List Value} {x:DataW H × List MemPlace} (ht:P.underlying t=some (.struct fs)) (h:DataW.trod enc P w 0 (λ_=>true) true fuel t cs=some x) (hw:Wt P t x) :
  ∃k,∀(i:Nat) (f:Field),fs[i]?=some f->∃y,DataW.trod enc P w 0 (λ_=>true) true k f.type ((cs.drop f.offset).take (P.cellsOf f.type))=some y/\Wt P f.type y:=by
 obtain⟨xs,k,_,rfl,_,hlen,hf⟩:=DataW.trod_struct ht h;refine⟨k,λi f hi=>?_⟩;have hlt:i<xs.length:=by rw[hlen];exact(Array.getElem?_eq_some_iff.1 hi).1
 refine⟨xs[i],by rw[hf i f hi,getElem?_eq_getElem hlt],λn hn=>hw n ?_⟩;show n ∈ (DataW.agg (xs.map (·.1))).weights P t;simp only[DataW.weights,ht];refine DataW.weights_mem_each (j:=i) (t:=f.type) (d:=(xs[i]).1) ?_ ?_ n hn
 ·simp[hi]
 ·simp[hlt]
theorem sliceW {H:Type} {enc:TypeId × Value->H} {P:Program} {w:World} {t e:TypeId} {fuel:Nat} {cs:List Value} {x:DataW H × List MemPlace} (ht:P.underlying t=some (.slice e)) (h:DataW.trod enc P w 0 (λ_=>true) true fuel t cs=some x) (hw:Wt P t x) :
  cs=[slice none 0 0]∨∃(a:Addr) (len cap k:Nat),cs=[slice (some a) len cap]/\len<=cap/\cap<=maxLen/\cap*P.bytesOf e<=reachBytes /\
   ∀i,i<len->∃cs' y,w.cells? 0 (a.add (i*P.cellsOf e)) (P.cellsOf e)=some cs'/\DataW.trod enc P w 0 (λ_=>true) true k e cs'=some y/\Wt P e y:=by
 rcases Go.Deep.open_slice ht h with⟨hcs,_⟩|⟨a,len,cap,m,n,D,Pl,hcs,_,hl,hm,hmm,rfl,hel⟩
 ·exact .inl hcs
 ·simp only[if_true]at hmm;subst hmm;refine .inr ⟨a,len,m,n,hcs,hl,hm,?_,λi hi=>?_⟩
  ·refine hw _ ?_;simp only[DataW.weights,ht,List.length_map,List.length_range];rw[show len+(m-len)=m by omega];exact List.mem_cons_self
  ·obtain⟨cs',h1,h2⟩:=hel i (by omega);refine⟨cs',_,h1,h2,λk hk=>hw k ?_⟩;simp only[DataW.weights,ht];exact List.mem_cons_of_mem _ (List.mem_append_left _ (zjl (d:=D i) (List.mem_map.2 ⟨i,List.mem_range.2 hi,rfl⟩) k hk))
theorem Tryz.bytesU64:prog.bytesOf 47=8:=by kernel_rfl
theorem Tryz.bytesTerm:prog.bytesOf 64=64:=by kernel_rfl
theorem Tryz.bytesCol:prog.bytesOf 59=200:=by kernel_rfl
theorem Tryz.bytesRow:prog.bytesOf 62=168:=by kernel_rfl
theorem Tryz.cellsU:prog.cellsOf 47=1:=by kernel_rfl
theorem Tryz.cellsTerm:prog.cellsOf 64=4:=by kernel_rfl
theorem Tryz.cellsCol:prog.cellsOf 59=12:=by kernel_rfl
theorem Tryz.cellsRow:prog.cellsOf 62=10:=by kernel_rfl
theorem zkt {H:Type} {enc:TypeId × Value->H} {W:World} {fuel:Nat} {v:Value} {x:DataW H × List MemPlace} (h:DataW.trod enc prog W 0 (λ_=>true) true fuel 22 [v]=some x) (hw:Wt prog 22 x) :
  ∃ao n cap f,v=slice ao n cap/\Rd .u64 W ao n f/\Lm f n/\(ao=none->n=0/\cap=0)/\(n<=cap/\cap<=9223372036854775807)/\n<=17592186044416:=by
 rcases open_ints underlying22 underlying47 Tryz.cellsU h with⟨hcs,hx⟩|⟨a,len',cap',zs,hcs,_,hl,hm,hz,hx,hcell,hwz⟩
 ·simp at hcs;subst hcs;exact⟨none,0,0,λ_=>0,rfl,Rd.zero,λj hj=>by omega,λ_=>⟨rfl,rfl⟩,⟨by omega,by omega⟩,by omega⟩
 ·simp at hcs;subst hcs;simp only[if_true]at hz;have hb:cap'*8<=reachBytes:=by
   have:cap'*prog.bytesOf 47<=reachBytes:=by
    refine hw _ ?_;rw[hx];simp only[DataW.weights,underlying22];have e:(lits .u64 (zs.take len'):List (DataW H)).length+(lits .u64 (zs.drop len'):List (DataW H)).length=cap':=by simp[lits];omega
    rw[e];exact List.mem_cons_self
   rw[Tryz.bytesU64]at this
   exact this
  refine⟨some a,len',cap',λj=>zs.getD j 0,rfl,λj hj=>?_,λj hj=>?_,(λh=>by cases h),⟨hl,by unfold maxLen at hm;omega⟩,by unfold reachBytes at hb;omega⟩
  ·obtain⟨b,off,spot⟩:=a;have hspot:spot=none:=by simpa[Addr.add]using World.cell?_spot (hcell 0 (by omega))
   subst hspot;exact⟨b,off,rfl,by have:=hcell j (by omega);rwa[addr_add]at this⟩
  ·have hmem:zs.getD j 0 ∈ zs:=by
    rw[List.getD_eq_getElem?_getD,getElem?_eq_getElem (by omega)];exact List.getElem_mem _
   have:=bounds_u64 (hwz _ hmem);show 0<=zs.getD j 0/\zs.getD j 0<18446744073709551616;omega
theorem zcX {H:Type} {enc:TypeId × Value->H} {W:World} {k:Nat} {c0 c1 c2:Value} {z:DataW H × List MemPlace} (hf:DataW.trod enc prog W 0 (λ_=>true) true k 24 [c0,c1,c2]=some z) (hw:Wt prog 24 z) :
  ∃t:Nm,c0=.bool t.s/\c1=slice t.x t.n t.c/\c2=slice t.y t.m t.d/\NmB W t:=by
 obtain⟨k,hk⟩:=zbP underlying24 hf hw;obtain⟨y0,h0,_⟩:=hk 0 _ rfl;obtain⟨y1,h1,w1⟩:=hk 1 _ rfl;obtain⟨y2,h2,w2⟩:=hk 2 _ rfl;have h0':DataW.trod enc prog W 0 (λ_=>true) true k 4 [c0]=some y0:=h0;have h1':DataW.trod enc prog W 0 (λ_=>true) true k 22 [c1]=some y1:=h1;have h2':DataW.trod enc prog W 0 (λ_=>true) true k 22 [c2]=some y2:=h2;obtain⟨s,hs,_⟩:=DataW.trod_bool underlying4 h0';obtain⟨ao,n,cap,f,rfl,hr,hlm,hnil,hc,hl⟩:=zkt h1' w1;obtain⟨bo,m,cap',g,rfl,hr',hlm',hnil',hc',hl'⟩:=zkt h2' w2;simp at hs;exact⟨⟨s,ao,n,cap,f,bo,m,cap',g⟩,hs,rfl,rfl,⟨hr,hlm,hc,hnil,hr',hlm',hc',hnil'⟩,hl,hl'⟩
theorem zfw {H:Type} {enc:TypeId × Value->H} {W:World} {k:Nat} {c0 c1 c2 c3:Value} {z:DataW H × List MemPlace} (hf:DataW.trod enc prog W 0 (λ_=>true) true k 57 [c0,c1,c2,c3]=some z) (hw:Wt prog 57 z) :
  ∃e:Ex,c0=.int .i64 e.i/\c1=.bool e.v.s/\c2=slice e.v.x e.v.n e.v.c/\c3=slice e.v.y e.v.m e.v.d/\NmB W e.v:=by
 obtain⟨k,hk⟩:=zbP underlying57 hf hw;obtain⟨y0,h0,_⟩:=hk 0 _ rfl;obtain⟨y1,h1,w1⟩:=hk 1 _ rfl;have h0':DataW.trod enc prog W 0 (λ_=>true) true k 3 [c0]=some y0:=h0;have h1':DataW.trod enc prog W 0 (λ_=>true) true k 24 [c1,c2,c3]=some y1:=h1;obtain⟨i,hi,_⟩:=DataW.trod_int underlying3 h0';obtain⟨t,e1,e2,e3,ht⟩:=zcX h1' w1;simp at hi;exact⟨⟨i,t⟩,hi,e1,e2,e3,ht⟩
theorem zbi {w:World} {base n:Nat} {a:Addr} {cs:List Value} (h:w.cells? base a n=some cs):cs.length=n/\∀(i:Nat) u,cs[i]?=some u->w.cell? (a.add i)=some u:=by
 obtain⟨_,h1,h2⟩:=World.cells?_some h;refine⟨h1,λi u hi=>?_⟩;have hlt:i<n:=by rw[<-h1];exact(List.getElem?_eq_some_iff.1 hi).1
 rw[<-hi];exact h2 i hlt
theorem zgZ (a:Addr) (j i:Nat):(a.add j).add i=a.add (j+i):=by
 obtain⟨b,o,s⟩:=a;by_cases hj:j=0
 ·subst hj;by_cases hi:i=0
  ·subst hi;simp[Addr.add]
  ·simp[Addr.add,hi]
 ·by_cases hi:i=0
  ·subst hi;simp[Addr.add,hj]
  ·simp[Addr.add,hi,hj,Nat.add_assoc]
theorem zja {w:World} {base n:Nat} {b o j:Nat} {cs:List Value} (h:w.cells? base (Addr.add ⟨b,o,none⟩ (j*n)) n=some cs):Cs w b (o+j*n) cs:=λi v e=>by
 have:=(zbi h).2 i v e;rw[zgZ,addr_add]at this
 rw[Nat.add_assoc];exact this
theorem zdI {w:World} {base n:Nat} {a:Addr} {cs:List Value} (h:w.cells? base (a.add (0*n)) n=some cs) (hn:0<n):a.spot=none:=by
 obtain⟨h1,h2⟩:=zbi h;have:=h2 0 cs[0] (getElem?_eq_getElem (by omega));rw[zgZ,Nat.zero_mul]at this
 simpa[Addr.add]using World.cell?_spot this
theorem zoH {H:Type} {enc:TypeId × Value->H} {W:World} {fuel:Nat} {v:Value} {x:DataW H × List MemPlace} (h:DataW.trod enc prog W 0 (λ_=>true) true fuel 60 [v]=some x) (hw:Wt prog 60 x) :
  ∃ta tk tc col T,v=slice ta tk tc/\Tr W ta tk col T/\tk<=2199023255552/\∀p,p<tk->(T p).n<=17592186044416/\(T p).m<=17592186044416:=by
 rcases sliceW underlying60 h hw with hcs|⟨a,len,cap,k,hcs,hl,hm,hb,hel⟩
 ·simp at hcs;exact⟨none,0,0,λ_=>0,λ_=>nz9,hcs,λj hj=>by omega,by omega,λj hj=>by omega⟩
 ·simp at hcs;rw[Tryz.cellsTerm]at hel
  rw[Tryz.bytesTerm]at hb
  have hX:∀j,∃zt:Int × Nm,j<len->W.cells? 0 (a.add (j*4)) 4=some [.int .i64 zt.1,.bool zt.2.s,slice zt.2.x zt.2.n zt.2.c,slice zt.2.y zt.2.m zt.2.d]/\NmB W zt.2:=λj=>by
   by_cases hj:j<len
   ·obtain⟨cs',y,h1,h2,w2⟩:=hel j hj
    match cs',(zbi h1).1 with
    | [c0,c1,c2,c3],_ =>
     obtain⟨k',hk⟩:=zbP underlying64 h2 w2;obtain⟨y0,g0,_⟩:=hk 0 _ rfl;obtain⟨y1,g1,w1⟩:=hk 1 _ rfl;have g0':DataW.trod enc prog W 0 (λ_=>true) true k' 3 [c0]=some y0:=g0;have g1':DataW.trod enc prog W 0 (λ_=>true) true k' 24 [c1,c2,c3]=some y1:=g1;obtain⟨i,hi,_⟩:=DataW.trod_int underlying3 g0';obtain⟨t,e1,e2,e3,ht⟩:=zcX g1' w1;simp at hi;subst hi;subst e1;subst e2;subst e3
     exact⟨(i,t),λ_=>⟨h1,ht⟩⟩
   ·exact⟨(0,nz9),λh=>absurd h hj⟩
  have hX':∃Z:Nat->Int × Nm,∀j,j<len->W.cells? 0 (a.add (j*4)) 4=some [.int .i64 (Z j).1,.bool (Z j).2.s,.slice (Z j).2.x (Z j).2.n (Z j).2.c,.slice (Z j).2.y (Z j).2.m (Z j).2.d]/\NmB W (Z j).2:=⟨λj=>Classical.choose (hX j),λj=>Classical.choose_spec (hX j)⟩;obtain⟨Z,hZ⟩:=hX';refine⟨some a,len,cap,λj=>(Z j).1,λj=>(Z j).2,hcs,λj hj=>?_,by unfold reachBytes at hb;omega,λp hp=>(hZ p hp).2.2⟩;have hs:=zdI (n:=4) (hZ 0 (by omega)).1 (by decide);obtain⟨b,o,sp⟩:=a;simp only at hs;subst hs;exact⟨b,o,rfl,cs4 (zja (hZ j hj).1),(hZ j hj).2.1⟩
theorem zoK {H:Type} {enc:TypeId × Value->H} {W:World} {k:Nat} {c0 c1 c2 c3 c4 c5 c6 c7 c8 c9 c10 c11:Value} {z:DataW H × List MemPlace} (hf:DataW.trod enc prog W 0 (λ_=>true) true k 59 [c0,c1,c2,c3,c4,c5,c6,c7,c8,c9,c10,c11]=some z) (hw:Wt prog 59 z) :
  ∃c:Lc,[c0,c1,c2,c3,c4,c5,c6,c7,c8,c9,c10,c11]=c.vs/\LcB W c/\c.nm.size<=9223372036854775807:=by
 obtain⟨k,hk⟩:=zbP underlying59 hf hw;obtain⟨y0,h0,_⟩:=hk 0 _ rfl;obtain⟨y1,h1,w1⟩:=hk 1 _ rfl;obtain⟨y2,h2,w2⟩:=hk 2 _ rfl;obtain⟨y3,h3,w3⟩:=hk 3 _ rfl;have h0':DataW.trod enc prog W 0 (λ_=>true) true k 9 [c0]=some y0:=h0;have h1':DataW.trod enc prog W 0 (λ_=>true) true k 24 [c1,c2,c3]=some y1:=h1;have h2':DataW.trod enc prog W 0 (λ_=>true) true k 57 [c4,c5,c6,c7]=some y2:=h2;have h3':DataW.trod enc prog W 0 (λ_=>true) true k 57 [c8,c9,c10,c11]=some y3:=h3;obtain⟨s,hs,_,hz⟩:=DataW.trod_string underlying9 h0';obtain⟨t,rfl,rfl,rfl,ht⟩:=zcX h1' w1;obtain⟨e1,rfl,rfl,rfl,rfl,he1⟩:=zfw h2' w2;obtain⟨e2,rfl,rfl,rfl,rfl,he2⟩:=zfw h3' w3;simp at hs;subst hs;exact⟨⟨s,t,e1,e2⟩,rfl,⟨ht,he1,he2⟩,by unfold maxLen at hz;exact le_trans hz (by decide)⟩
theorem zoJ {H:Type} {enc:TypeId × Value->H} {W:World} {k:Nat} {c0 c1 c2 c3 c4 c5 c6 c7 c8 c9:Value} {z:DataW H × List MemPlace} (hf:DataW.trod enc prog W 0 (λ_=>true) true k 62 [c0,c1,c2,c3,c4,c5,c6,c7,c8,c9]=some z) (hw:Wt prog 62 z) :
  ∃r:Lr,[c0,c1,c2,c3,c4,c5,c6,c7,c8,c9]=r.vs/\LrB W r/\r.nm.size<=9223372036854775807:=by
 obtain⟨k,hk⟩:=zbP underlying62 hf hw;obtain⟨y0,h0,_⟩:=hk 0 _ rfl;obtain⟨y1,h1,w1⟩:=hk 1 _ rfl;obtain⟨y2,h2,w2⟩:=hk 2 _ rfl;obtain⟨y3,h3,w3⟩:=hk 3 _ rfl;have h0':DataW.trod enc prog W 0 (λ_=>true) true k 9 [c0]=some y0:=h0;have h1':DataW.trod enc prog W 0 (λ_=>true) true k 57 [c1,c2,c3,c4]=some y1:=h1;have h2':DataW.trod enc prog W 0 (λ_=>true) true k 57 [c5,c6,c7,c8]=some y2:=h2;have h3':DataW.trod enc prog W 0 (λ_=>true) true k 60 [c9]=some y3:=h3;obtain⟨s,hs,_,hz⟩:=DataW.trod_string underlying9 h0';obtain⟨e1,rfl,rfl,rfl,rfl,he1⟩:=zfw h1' w1;obtain⟨e2,rfl,rfl,rfl,rfl,he2⟩:=zfw h2' w2;obtain⟨ta,tk,tc,col,T,rfl,ht,hk',hn⟩:=zoH h3' w3;simp at hs;subst hs;exact⟨⟨s,e1,e2,ta,tk,tc,col,T⟩,rfl,⟨he1,he2,ht,hk',hn⟩,by unfold maxLen at hz;exact le_trans hz (by decide)⟩
theorem zmW {H:Type} {enc:TypeId × Value->H} {W:World} {fuel:Nat} {v:Value} {x:DataW H × List MemPlace} (h:DataW.trod enc prog W 0 (λ_=>true) true fuel 25 [v]=some x) (hw:Wt prog 25 x) :
  ∃ca ck cc C,v=slice ca ck cc/\Cl9 W ca ck C/\ck<=703687441776/\(ck<=cc/\cc<=9223372036854775807)/\∀j,j<ck->(C j).nm.size<=9223372036854775807:=by
 have z9:Lc:=⟨ByteArray.empty,nz9,⟨0,nz9⟩,⟨0,nz9⟩⟩;rcases sliceW underlying25 h hw with hcs|⟨a,len,cap,k,hcs,hl,hm,hb,hel⟩
 ·simp at hcs;exact⟨none,0,0,λ_=>z9,hcs,λj hj=>by omega,by omega,⟨by omega,by omega⟩,λj hj=>by omega⟩
 ·simp at hcs;rw[Tryz.cellsCol]at hel
  rw[Tryz.bytesCol]at hb
  have hX:∀j,∃c:Lc,j<len->W.cells? 0 (a.add (j*12)) 12=some c.vs/\LcB W c/\c.nm.size<=9223372036854775807:=λj=>by
   by_cases hj:j<len
   ·obtain⟨cs',y,h1,h2,w2⟩:=hel j hj
    match cs',(zbi h1).1 with
    | [c0,c1,c2,c3,c4,c5,c6,c7,c8,c9,c10,c11],_ =>
     obtain⟨c,e,hc,hn⟩:=zoK h2 w2;rw[e]at h1
     exact⟨c,λ_=>⟨h1,hc,hn⟩⟩
   ·exact⟨z9,λh=>absurd h hj⟩
  have hX':∃Z:Nat->Lc,∀j,j<len->W.cells? 0 (a.add (j*12)) 12=some (Z j).vs/\LcB W (Z j)/\(Z j).nm.size<=9223372036854775807:=⟨λj=>Classical.choose (hX j),λj=>Classical.choose_spec (hX j)⟩;obtain⟨Z,hZ⟩:=hX';refine⟨some a,len,cap,Z,hcs,λj hj=>?_,by unfold reachBytes at hb;omega,⟨hl,by unfold maxLen at hm;omega⟩,λj hj=>(hZ j hj).2.2⟩;have hs:=zdI (n:=12) (hZ 0 (by omega)).1 (by decide);obtain⟨b,o,sp⟩:=a;simp only at hs;subst hs;exact⟨b,o,rfl,zja (hZ j hj).1,(hZ j hj).2.1⟩
theorem zmV {H:Type} {enc:TypeId × Value->H} {W:World} {fuel:Nat} {v:Value} {x:DataW H × List MemPlace} (h:DataW.trod enc prog W 0 (λ_=>true) true fuel 26 [v]=some x) (hw:Wt prog 26 x) :
  ∃ra rk rc R,v=slice ra rk rc/\Rl9 W ra rk R/\rk<=837723144971/\(rk<=rc/\rc<=9223372036854775807)/\∀j,j<rk->(R j).nm.size<=9223372036854775807:=by
 have z9:Lr:=⟨ByteArray.empty,⟨0,nz9⟩,⟨0,nz9⟩,none,0,0,λ_=>0,λ_=>nz9⟩;rcases sliceW underlying26 h hw with hcs|⟨a,len,cap,k,hcs,hl,hm,hb,hel⟩
 ·simp at hcs;exact⟨none,0,0,λ_=>z9,hcs,λj hj=>by omega,by omega,⟨by omega,by omega⟩,λj hj=>by omega⟩
 ·simp at hcs;rw[Tryz.cellsRow]at hel
  rw[Tryz.bytesRow]at hb
  have hX:∀j,∃c:Lr,j<len->W.cells? 0 (a.add (j*10)) 10=some c.vs/\LrB W c/\c.nm.size<=9223372036854775807:=λj=>by
   by_cases hj:j<len
   ·obtain⟨cs',y,h1,h2,w2⟩:=hel j hj
    match cs',(zbi h1).1 with
    | [c0,c1,c2,c3,c4,c5,c6,c7,c8,c9],_ =>
     obtain⟨c,e,hc,hn⟩:=zoJ h2 w2;rw[e]at h1
     exact⟨c,λ_=>⟨h1,hc,hn⟩⟩
   ·exact⟨z9,λh=>absurd h hj⟩
  have hX':∃Z:Nat->Lr,∀j,j<len->W.cells? 0 (a.add (j*10)) 10=some (Z j).vs/\LrB W (Z j)/\(Z j).nm.size<=9223372036854775807:=⟨λj=>Classical.choose (hX j),λj=>Classical.choose_spec (hX j)⟩;obtain⟨Z,hZ⟩:=hX';refine⟨some a,len,cap,Z,hcs,λj hj=>?_,by unfold reachBytes at hb;omega,⟨hl,by unfold maxLen at hm;omega⟩,λj hj=>(hZ j hj).2.2⟩;have hs:=zdI (n:=10) (hZ 0 (by omega)).1 (by decide);obtain⟨b,o,sp⟩:=a;simp only at hs;subst hs;exact⟨b,o,rfl,zja (hZ j hj).1,(hZ j hj).2.1⟩
theorem Tryz.cellsM:prog.cellsOf 28=5:=by kernel_rfl
theorem Tryz.readM:prog.readableRec 28=true:=by kernel_rfl
theorem Tryz.sizeM:28<prog.types.size:=of_decide_eq_true (by kernel_rfl)
theorem zpK {H:Type} {enc:TypeId × Value->H} {W:World} {base:Nat} {v:Value} {d:DataW H} {p:List MemPlace} (hok:Value.okWide prog W .any base 28 v) (h:DataW.Trod enc prog W 0 (λ_=>true) true 28 v d p) (hw:∀n ∈ d.weights prog 28,n<=reachBytes) :
  ∃M:Mo,v=M.val/\MoX W M/\MoN M/\MoC M:=by
 obtain⟨cs,rfl,hsz⟩:=okWide_struct underlying28 hok;rw[Tryz.cellsM]at hsz
 obtain⟨fuel,hf⟩:=h;obtain⟨l⟩:=cs
 match l,hsz with
 | [c0,c1,c2,c3,c4],_ =>
  obtain⟨k,hk⟩:=zbP (x:=(d,p)) underlying28 hf hw;obtain⟨y0,h0,w0⟩:=hk 0 _ rfl;obtain⟨y1,h1,w1⟩:=hk 1 _ rfl;obtain⟨y2,h2,w2⟩:=hk 2 _ rfl;have h0':DataW.trod enc prog W 0 (λ_=>true) true k 24 [c0,c1,c2]=some y0:=h0;have h1':DataW.trod enc prog W 0 (λ_=>true) true k 25 [c3]=some y1:=h1;have h2':DataW.trod enc prog W 0 (λ_=>true) true k 26 [c4]=some y2:=h2;obtain⟨t,rfl,rfl,rfl,ht⟩:=zcX h0' w0;obtain⟨ca,ck,cc,C,rfl,hC,hck,hcc,hcn⟩:=zmW h1' w1;obtain⟨ra,rk,rc,R,rfl,hR,hrk,hrc,hrn⟩:=zmV h2' w2;exact⟨⟨t,ca,ck,cc,C,ra,rk,rc,R⟩,rfl,⟨ht,hC,hR,hck,hrk⟩,⟨hcn,hrn⟩,hcc,hrc⟩
end Go.Proofs.YtgmmlmmahdnnhaaGreat
namespace Go.Proofs.YtgmmlmmahdnnhaaGreat
open Value (slice)
open Obj (cells)
open Nat (le_refl le_trans zero_add)
open World (cell?_of_block block_lt_of_cell?)
open List (getElem?_eq_getElem)
open Go.Proofs.Tryz
open Go.ChangeShapes Go.WideShapes Go.ChangeAt Go.RowKit
theorem Tryz.own:ownKnob prog.godebug=none:=by kernel_rfl
theorem Tryz.laidOut:laidOutB prog=true:=by kernel_rfl
end Go.Proofs.YtgmmlmmahdnnhaaGreat
namespace Go.Proofs.YtgmmlmmahdnnhaaGreat
open Value (slice)
open Obj (cells)
open Nat (le_refl le_trans zero_add)
open World (cell?_of_block block_lt_of_cell?)
open List (getElem?_eq_getElem)
open Go.Proofs.Tryz
open Go.ChangeShapes Go.WideShapes Go.ChangeAt Go.RowKit
theorem Tryz.bytesRat:prog.bytesOf 24=56:=by kernel_rfl
theorem Tryz.cellsRat:prog.cellsOf 24=3:=by kernel_rfl
theorem Tryz.cellsY:prog.cellsOf 31=2:=by kernel_rfl
theorem Tryz.readY:prog.readableRec 31=true:=by kernel_rfl
theorem Tryz.sizeY:31<prog.types.size:=of_decide_eq_true (by kernel_rfl)
theorem zks {H:Type} {enc:TypeId × Value->H} {W:World} {fuel:Nat} {v:Value} {x:DataW H × List MemPlace} (h:DataW.trod enc prog W 0 (λ_=>true) true fuel 29 [v]=some x) (hw:Wt prog 29 x) :
  ∃ao k c X,v=slice ao k c/\Rr W ao k X/\k<=9223372036854775807:=by
 rcases sliceW underlying29 h hw with hcs|⟨a,len,cap,k,hcs,hl,hm,hb,hel⟩
 ·simp at hcs;exact⟨none,0,0,λ_=>nz9,hcs,λj hj=>by omega,by omega⟩
 ·simp at hcs;rw[Tryz.cellsRat]at hel
  rw[Tryz.bytesRat]at hb
  have hX:∀j,∃t:Nm,j<len->W.cells? 0 (a.add (j*3)) 3=some [.bool t.s,slice t.x t.n t.c,slice t.y t.m t.d]/\NmB W t:=λj=>by
   by_cases hj:j<len
   ·obtain⟨cs',y,h1,h2,w2⟩:=hel j hj
    match cs',(zbi h1).1 with
    | [c0,c1,c2],_ =>
     obtain⟨t,e1,e2,e3,ht⟩:=zcX h2 w2;subst e1;subst e2;subst e3
     exact⟨t,λ_=>⟨h1,ht⟩⟩
   ·exact⟨nz9,λh=>absurd h hj⟩
  have hX':∃Z:Nat->Nm,∀j,j<len->W.cells? 0 (a.add (j*3)) 3=some [.bool (Z j).s,.slice (Z j).x (Z j).n (Z j).c,.slice (Z j).y (Z j).m (Z j).d]/\NmB W (Z j):=⟨λj=>Classical.choose (hX j),λj=>Classical.choose_spec (hX j)⟩;obtain⟨Z,hZ⟩:=hX';refine⟨some a,len,cap,Z,hcs,λj hj=>?_,by unfold reachBytes at hb;omega⟩;have hs:=zdI (n:=3) (hZ 0 (by omega)).1 (by decide);obtain⟨b,o,sp⟩:=a;simp only at hs;subst hs;have hc:=zja (hZ j hj).1;exact⟨b,o,rfl,⟨hc 0 _ rfl,hc 1 _ rfl,hc 2 _ rfl⟩,(hZ j hj).2.1⟩
theorem zpJ {H:Type} {enc:TypeId × Value->H} {W:World} {base:Nat} {v:Value} {d:DataW H} {p:List MemPlace} (hok:Value.okWide prog W .any base 31 v) (h:DataW.Trod enc prog W 0 (λ_=>true) true 31 v d p) (hw:∀n ∈ d.weights prog 31,n<=reachBytes) :
  ∃a0 k0 c0 X0 a1 k1 c1 X1,v=.agg #[slice a0 k0 c0,slice a1 k1 c1]/\Rr W a0 k0 X0/\Rr W a1 k1 X1/\k0<=9223372036854775807/\k1<=9223372036854775807:=by
 obtain⟨cs,rfl,hsz⟩:=okWide_struct underlying31 hok;rw[Tryz.cellsY]at hsz
 obtain⟨fuel,hf⟩:=h;obtain⟨l⟩:=cs
 match l,hsz with
 | [v0,v1],_ =>
  obtain⟨k,hk⟩:=zbP (x:=(d,p)) underlying31 hf hw;obtain⟨y0,g0,w0⟩:=hk 0 _ rfl;obtain⟨y1,g1,w1⟩:=hk 1 _ rfl;have g0':DataW.trod enc prog W 0 (λ_=>true) true k 29 [v0]=some y0:=g0;have g1':DataW.trod enc prog W 0 (λ_=>true) true k 29 [v1]=some y1:=g1;obtain⟨a0,k0,c0,X0,rfl,h0,l0⟩:=zks g0' w0;obtain⟨a1,k1,c1,X1,rfl,h1,l1⟩:=zks g1' w1;exact⟨a0,k0,c0,X0,a1,k1,c1,X1,rfl,h0,h1,l0,l1⟩
theorem Tryz.readRq:prog.readableRec 24=true:=by kernel_rfl
theorem Tryz.sizeRq:24<prog.types.size:=of_decide_eq_true (by kernel_rfl)
theorem zoI {H:Type} {enc:TypeId × Value->H} {W:World} {base:Nat} {v:Value} {d:DataW H} {p:List MemPlace} (hok:Value.okWide prog W .any base 24 v) (h:DataW.Trod enc prog W 0 (λ_=>true) true 24 v d p) (hw:∀n ∈ d.weights prog 24,n<=reachBytes) :
  ∃t:Nm,v=.agg #[.bool t.s,slice t.x t.n t.c,slice t.y t.m t.d]/\NmB W t:=by
 obtain⟨cs,rfl,hsz⟩:=okWide_struct underlying24 hok;rw[Tryz.cellsRat]at hsz
 obtain⟨fuel,hf⟩:=h;obtain⟨l⟩:=cs
 match l,hsz with
 | [v0,v1,v2],_ =>
  obtain⟨t,e1,e2,e3,ht⟩:=zcX (z:=(d,p)) hf hw;subst e1;subst e2;subst e3
  exact⟨t,rfl,ht⟩
end Go.Proofs.YtgmmlmmahdnnhaaGreat
namespace Go.Proofs.YtgmmlmmahdnnhaaGreat
open Value (slice)
open Obj (cells)
open Nat (le_refl le_trans zero_add)
open World (cell?_of_block block_lt_of_cell?)
open List (getElem?_eq_getElem)
open Go.Proofs.Tryz
open Go.RowKit
theorem zlr {L w sa xa na ca fa ya ma da ga a sb xb nb cb fb yb mb db gb b} (ha:Rn L w sa xa na ca fa ya ma da ga a) (hb:Rn L w sb xb nb cb fb yb mb db gb b) (hL:L<=200000) :
  Calls prog 78 #[.agg #[.bool sa,slice xa na ca,slice ya ma da],.agg #[.bool sb,slice xb nb cb,slice yb mb db]] w λe w'=>zbq (2*L+1) w w' e (a*b):=by
 have h1:=((ha.alloc (cells #[.bool sa,slice xa na ca,slice ya ma da] 24)).alloc (cells #[.bool sb,slice xb nb cb,slice yb mb db] 24)).alloc (cells #[.bool false,slice none 0 0,slice none 0 0] 24);have h2:=((hb.alloc (cells #[.bool sa,slice xa na ca,slice ya ma da] 24)).alloc (cells #[.bool sb,slice xb nb cb,slice yb mb db] 24)).alloc (cells #[.bool false,slice none 0 0,slice none 0 0] 24);have h3:=zay ((w.alloc (cells #[.bool sa,slice xa na ca,slice ya ma da] 24)).alloc (cells #[.bool sb,slice xb nb cb,slice yb mb db] 24)) 24;rw[zv,zv]at h3
 have h4:=zk (zk (zE w (cells #[.bool sa,slice xa na ca,slice ya ma da] 24)) (cells #[.bool sb,slice xb nb cb,slice yb mb db] 24)) (cells #[.bool false,slice none 0 0,slice none 0 0] 24);clear ha hb;go_enter func78,ntmps78;go_wp2_with fail
 generalize((w.alloc (cells #[.bool sa,slice xa na ca,slice ya ma da] 24)).alloc (cells #[.bool sb,slice xb nb cb,slice yb mb db] 24)).alloc (cells #[.bool false,slice none 0 0,slice none 0 0] 24)=w1 at *;have OB1:=zi h3;have HW1:=zi h4
 refine(zlh h1 h2 hL).mono ?_;clear h1 h2 h3 h4;rintro e w2 ⟨s,x,n,c,f,y,m,d,g,rfl,hb2,hq⟩;have hob:=OB1.out.q_ hb2;have hbw:=bUp HW1.out hb2;obtain⟨hz,z0,z1,z2,zf⟩:=OB1.out.q_ hb2;have HQ:=zi hq;have HOB:=zi hob;have HBW:=zi hbw
 clear hq hob hbw hb2 OB1 HW1;go_wp2;exact bodyPost_ret (v:=.agg #[.bool s,slice x n c,slice y m d]) (by simp[results,results78,go_sem,z0,z1,z2,hz]) rfl ⟨s,x,n,c,f,y,m,d,g,rfl,zk (zZ HBW.out (by omega)) _,(HOB.out.rn HQ.out).alloc _⟩
def zbK:List Rat->Rat->Rat
 | [],acc=>acc
 | q :: p,acc=>zbK p (acc+q)
theorem zeY {i L} (hi:i<=400) (hL:L<=400):4+i*(L+1)<=164000:=by
 have h1:i*(L+1)<=400*(L+1):=Nat.mul_le_mul_right _ hi;omega
theorem zhA {w L ao k cap p} (h:Rf L w ao p) (hk:p.length=k) (hk2:k<=400) (hL:L<=400) :
  Calls prog 34 #[slice ao k cap] w λe w'=>zbq (4+k*(L+1)) w w' e (zbK p 0):=by
 have H:=zi h;have h2:=zay w 24;have h3:=zE w (cells #[.bool false,slice none 0 0,slice none 0 0] 24);clear h;go_enter func34,ntmps34;go_wp2_with fail
 generalize w.alloc (cells #[.bool false,slice none 0 0,slice none 0 0] 24)=w0 at *;refine(zpS (z:=0) (by omega) (by omega)).mono ?_;rintro e w4 ⟨s0,x0,n0,c0,f0,y0,m0,d0,g0,rfl,hb4,hq4⟩;have OB4:=zi (h2.q_ hb4);have HB4:=zi (bUp h3 hb4);have HQ4:=zi hq4
 clear h2 h3 hb4 hq4;go_wp2_with fail
 have hSx:Sx (w4.alloc (cells #[.bool s0,slice x0 n0 c0,slice y0 m0 d0] 24)) w4.heap.size s0 x0 n0 c0 y0 m0 d0:=⟨by simp,by simp[go_sem],by simp[go_sem],by simp[go_sem],λo=>by simp only[World.frozen?,heap_alloc_new w4 (cells #[.bool s0,slice x0 n0 c0,slice y0 m0 d0] 24)];simp⟩;have hal:=zE w4 (cells #[.bool s0,slice x0 n0 c0,slice y0 m0 d0] 24);have hne:w.heap.size<w4.heap.size:=OB4.out.z;have ST:=zi hSx;have HB5:=zM HB4 hal;have HQ5:=zi (HQ4.out.q_ hal);have OB5:=zi (OB4.out.q_ hal)
 clear hSx hal HB4 HQ4 OB4;go_loopw[9] (λt wr=>∃(i:Nat) (acc:Rat) (s:Bool) (x:Option Addr) (n c:Nat) (f:Nat->Int) (y:Option Addr) (m d:Nat) (g:Nat->Int),i<=k/\t=.int .i64 i/\Hid (Bl w wr)/\Hid (Sx wr w4.heap.size s x n c y m d)/\Hid (Ob wr w.heap.size)/\Hid (Rn (4+i*(L+1)) wr s x n c f y m d g acc)/\Hid (zbK (p.drop i) acc=zbK p 0)) (λt _=>k-(intOf t).toNat)
 case atStart=>exact⟨0,0,s0,x0,n0,c0,f0,y0,m0,d0,g0,by omega,rfl,HB5,ST,OB5,(by show Rn _ _ _ _ _ _ _ _ _ _ _ _;exact HQ5.out.mono (by omega)),rfl⟩
 case round =>
  clear HB5 HQ5 OB5 ST;obtain⟨i,acc,s,x,n,c,f,y,m,d,g,hi,rfl,HB,HS,HO,HQ,HE⟩:=hrel;by_cases hlt:i<k
  ·obtain⟨q,haq⟩:∃t,p[i]?=some t:=⟨_,getElem?_eq_getElem (by omega)⟩;obtain⟨b,o,⟨ts,tx,tn,tc,tf,ty,tm,td,tg⟩,hav,hc,hr⟩:=(H.out.q_ HB.out) i q haq;have hav2:=hav;subst hav2;obtain⟨x0,x1,x2⟩:=hc;replace x0:wr.cell? ⟨b,o+i*3,none⟩=some (.bool ts):=x0;replace x1:wr.cell? ⟨b,o+i*3+1,none⟩=some (slice tx tn tc):=x1;replace x2:wr.cell? ⟨b,o+i*3+2,none⟩=some (slice ty tm td):=x2;have HD:Hid (zbK (p.drop (i+1)) (acc+q)=zbK p 0):=by
    show _=_;have e1:p.drop i=q :: p.drop (i+1):=by
     have hl:i<p.length:=by omega
     have:p[i]=q:=by rw[getElem?_eq_getElem hl]at haq;exact Option.some.inj haq
     rw[<-this];exact List.drop_eq_getElem_cons hl
    rw[<-HE.out,e1];rfl
   have hb5:=zE wr (cells #[.bool ts,slice tx tn tc,slice ty tm td] 24);have HR1:Hid (Rn L (wr.alloc (cells #[.bool ts,slice tx tn tc,slice ty tm td] 24)) ts tx tn tc tf ty tm td tg q):=Rn.q_ hr hb5;replace HS:=zi (HS.out.q_ hb5);replace HO:=zi (HO.out.q_ hb5);replace HQ:=zi (HQ.out.q_ hb5);replace HB:=zM HB hb5
   have i2:((i:Nat):Int)<((k:Nat):Int):=by omega
   obtain⟨sz,u0,u1,u2,uf⟩:=HS.out;clear hr haq hav HE hb5;go_wp2_with fail
   clear sz u0 u1 u2 uf x0 x1 x2;generalize wr.alloc (cells #[.bool ts,slice tx tn tc,slice ty tm td] 24)=w5 at *;have hKi:=zeY (i:=i) (L:=L) (by omega) hL;refine(zpd (L:=164000) (HQ.out.mono hKi) (HR1.out.mono (by omega)) (by omega)).mono ?_;rintro e w6 ⟨s6,x6,n6,c6,f6,y6,m6,d6,g6,rfl,hb6,hq6⟩;have S6:=HS.out.q_ hb6;have R1:=zi (zlc (bUp HB.out hb6) S6 (HO.out.q_ hb6) (hq6.cut (K:=4+(i+1)*(L+1)) ((zlM (HQ.out.lo HQ.out.ln HQ.out.ld) (HR1.out.lo HR1.out.ln HR1.out.ld)).mono (by rw[Nat.add_mul];omega))) hne);obtain⟨sz,u0,u1,u2,uf⟩:=S6;clear HS HO HQ HR1 HB hb6 hq6 hKi;go_wp2;go_roundw
   case rel=>exact⟨i+1,acc+q,s6,x6,n6,c6,f6,y6,m6,d6,g6,by omega,by go_num,R1.out.bel,R1.out.sx,R1.out.ob,R1.out.rn,HD.out⟩
   case measure=>simp[intOf];omega
  ·have e1:i=k:=by omega
   have HF:Hid (acc=zbK p 0):=by
    show _=_;rw[<-HE.out,e1,<-hk,List.drop_length];rfl
   have i2:¬(((i:Nat):Int)<((k:Nat):Int)):=by omega
   obtain⟨sz,u0,u1,u2,uf⟩:=HS.out;obtain⟨hz,z0,z1,z2,zf⟩:=HO.out;have HKK:Hid (i=k):=e1;clear e1 HE;go_wp2;exact bodyPost_ret (v:=.agg #[.bool s,slice x n c,slice y m d]) (by simp[results,results34,go_sem,z0,z1,z2]) rfl ⟨s,x,n,c,f,y,m,d,g,rfl,zZ HB.out (by omega),by rw[<-HF.out,<-HKK.out];exact HO.out.rn HQ.out⟩
def zal (P:Program) (md:Region.Mode) (ops:Array Oper) (Q:Exit->Act->World->Prop) (S:World->Prop) (k:Nat):Nat->Array Bool->Act->World->Prop
 | 0,listed,a,w=>Region.ready md ops listed=[]/\Q .normal a w
 | fuel+1,listed,a,w =>
  (Region.ready md ops listed=[]->Q .normal a w) /\
  ∀i ∈ Region.ready md ops listed,wpOp P ops Q i (λa' w'=>((listed.setIfInBounds i true).getD k true=false->S w')/\zal P md ops Q S k fuel (listed.setIfInBounds i true) a' w') a w
theorem zbX {P ops Q md S k}:∀(fuel:Nat) (listed:Array Bool) (a:Act) (w:World),zal P md ops Q S k fuel listed a w->wpAny P md ops Q fuel listed a w
 | 0,_,_,_,h=>h
 | fuel+1,_,_,_,h=>⟨h.1,λi hi=>wpOp_mono (λa' w' h'=>zbX fuel _ a' w' h'.2) (h.2 i hi)⟩
theorem zdp {ops md listed i j} (hi:i ∈ Region.ready md ops listed) (hj:j ∈ Region.ready md ops listed) (hd:i ∈ depsOf md ops j):False:=by
 obtain⟨oj,hoj,e,he,hb,rfl⟩:=mem_deps.1 hd;obtain⟨_,oj',hoj',hall⟩:=mem_ready.1 hj;rw[hoj]at hoj'
 cases hoj'
 have h1:=hall e he hb;have h0:=(mem_ready.1 hi).1;rcases Nat.lt_or_ge e.on listed.size with h'|h'
 ·simp[h']at h0 h1;rw[h0]at h1;cases h1
 ·simp[Array.getElem?_eq_none h']at h1
theorem zgl {P ops Q md S k i oi v} (hi:ops[i]?=some oi) (hsel:∀(j:Nat) (o:Oper) cs b,ops[j]?=some o->o.op≠.select cs b) (hQ:∀c a w,Q (.panic c) (a.put oi.dst v) w->Q (.panic c) a w) (hik:i≠k) :
  ∀(fuel:Nat) (listed:Array Bool) (a:Act) (w:World),
   (∀j oj,ops[j]?=some oj->j≠i->listed.getD j true=false->(∀e ∈ oj.after,Region.binds md e=true->e.on≠i)->oi.apart ops oj=true) ->
   i ∈ Region.ready md ops listed->YieldsIf P ops (λ_=>True) oi v a->(listed.getD k true=false->S w) ->
   zal P md ops Q S k fuel (listed.setIfInBounds i true) (a.put oi.dst v) w->zal P md ops Q S k (fuel+1) listed a w:=by
 intro fuel
 induction fuel with
 | zero =>
  intro listed a w _ hr hy hS H;refine⟨λh=>(by rw[h]at hr;cases hr),λj hj=>?_⟩;by_cases hji:j=i
  ·subst hji;exact hy.wpOp hi trivial ⟨λh=>hS (by rw[getD_set_ne true hik]at h;exact h),H⟩
  ·have:=ready_mono hj hji;rw[H.1]at this
   cases this
 | succ fuel ih =>
  intro listed a w hfree hr hy hS H;refine⟨λh=>(by rw[h]at hr;cases hr),λj hj=>?_⟩;by_cases hji:j=i
  ·subst hji;exact hy.wpOp hi trivial ⟨λh=>hS (by rw[getD_set_ne true hik]at h;exact h),H⟩
  ·have h1:=H.2 j (ready_mono hj hji);obtain⟨hjun,oj,hoj,hall⟩:=mem_ready.1 hj;have hnot:∀e ∈ oj.after,Region.binds md e=true->e.on≠i:=λe he hb heq=>zdp hr hj (mem_deps.2 ⟨oj,hoj,e,he,hb,heq⟩)
   have h2:=wpOp_putIf hoj (hfree j oj hoj hji hjun hnot) (λcs b=>hsel i oi cs b hi) (λcs b=>hsel j oj cs b hoj) hQ hy h1;have hfree':∀k ok,ops[k]?=some ok->k≠i->(listed.setIfInBounds j true).getD k true=false ->
     (∀e ∈ ok.after,Region.binds md e=true->e.on≠i)->oi.apart ops ok=true:=λk ok hk hki hun hno=>by
    refine hfree k ok hk hki ?_ hno;by_cases hjk:j=k
    ·subst hjk;exact hjun
    ·rw[getD_set_ne true hjk]at hun;exact hun
   have hS':∀w',(((listed.setIfInBounds i true).setIfInBounds j true).getD k true=false->S w')->(listed.setIfInBounds j true).getD k true=false->S w':=λw' h hk=>h (by
    by_cases hjk:j=k
    ·subst hjk;rcases Nat.lt_or_ge j listed.size with h'|h'
     ·simp[h']at hk
     ·simp[Array.getElem?_eq_none h']at hjun
    ·rw[getD_set_ne true hjk]at hk ⊢;rw[getD_set_ne true hik];exact hk)
   refine wpOp_mono (λa' w' h3=>⟨hS' _ h3.2.1,ih (listed.setIfInBounds j true) a' w' hfree' (ready_mono hr (Ne.symm hji)) h3.1 (hS' _ h3.2.1) ?_⟩) h2;rw[Array.setIfInBounds_comm _ _ hji];exact h3.2.2
theorem zaa {P ops Q md S k i oi v fuel listed a w} (hi:ops[i]?=some oi) (hs:Region.noSelect ops=true) (hf:Region.free md ops listed i=true) (hr:(Region.ready md ops listed).contains i=true) (hik:(i==k)=false) (hQ:∀c a w,Q (.panic c) (a.put oi.dst v) w->Q (.panic c) a w) (hy:YieldsIf P ops (λ_=>True) oi v a) (hS:listed.getD k true=false->S w) (h:zal P md ops Q S k fuel (listed.setIfInBounds i true) (a.put oi.dst v) w):zal P md ops Q S k (fuel+1) listed a w :=
 zgl hi (Region.noSelect_spec hs) hQ (by simpa using hik) fuel listed a w (Region.free_spec hi hf) (by simpa using hr) hy hS h
theorem skP {P:Program} {ops:Array Oper} {Q:Exit->Act->World->Prop} {md:Region.Mode} {S:World->Prop} {k:Nat} {oi:Oper} {v:Value} {fuel:Nat} {listed:Array Bool} {a:Act} {w:World} (i:Nat) (h:zal P md ops Q S k fuel (listed.setIfInBounds i true) (a.put oi.dst v) w)
  (hi:ops[i]?=some oi:=by exact rfl) (hy:YieldsIf P ops (λ_=>True) oi v a:=by (refine Or.inl ⟨by rfl,?_⟩;intro w0 hSw;go_simp <;> with_reducible rfl))
  (hs:Region.noSelect ops=true:=by kernel_rfl) (hf:Region.free md ops listed i=true:=by kernel_rfl) (hr:(Region.ready md ops listed).contains i=true:=by kernel_rfl) (hik:(i==k)=false:=by kernel_rfl)
  (hQ:∀c a w,Q (.panic c) (a.put oi.dst v) w->Q (.panic c) a w:=by exact(λ_ _ _ h=>h)) (hS:listed.getD k true=false->S w:=by exact(λ_=>by assumption)):zal P md ops Q S k (fuel+1) listed a w :=
 zaa hi hs hf hr hik hQ hy hS h
def AllReadyP (P:Program) (md:Region.Mode) (ops:Array Oper) (Q:Exit->Act->World->Prop) (S:World->Prop) (k:Nat) (fuel:Nat) (listed:Array Bool) (a:Act) (w:World) (rs:List Nat):Prop :=
 ∀i ∈ rs,wpOp P ops Q i (λa' w'=>((listed.setIfInBounds i true).getD k true=false->S w')/\zal P md ops Q S k fuel (listed.setIfInBounds i true) a' w') a w
theorem AllReadyP.nil {P ops Q md S k fuel listed a w}:AllReadyP P md ops Q S k fuel listed a w []:=λ_ h=>by cases h
theorem AllReadyP.cons {P ops Q md S k fuel listed a w i o rs} (ho:ops[i]?=some o) (h:∀K':Act->World->Prop,Shut (∀a w,((listed.setIfInBounds i true).getD k true=false->S w)->(((listed.setIfInBounds i true).getD k true=false->S w)->zal P md ops Q S k fuel (listed.setIfInBounds i true) a w)->K' a w)->if Region.wanted o (yielded ops a.tmps)=true then Oper.wp P o a w K' Q else K' (a.put o.dst undef) w) (hs:AllReadyP P md ops Q S k fuel listed a w rs):AllReadyP P md ops Q S k fuel listed a w (i :: rs):=λj hj=>by
 rcases List.mem_cons.1 hj with rfl|hj
 ·exact wpOp_step ho (λK' hK=>h K' (λa w hS hW=>hK a w ⟨hS,hW hS⟩))
 ·exact hs j hj
theorem zfu {P ops Q md S k rs fuel listed a w} (hr:Region.ready md ops listed=rs) (hne:rs≠[]) (h:AllReadyP P md ops Q S k fuel listed a w rs):zal P md ops Q S k (fuel+1) listed a w:=⟨λh0=>absurd (hr ▸ h0) hne,hr ▸ h⟩
theorem zgm {P ops Q md S k listed a w} (hr:Region.ready md ops listed=[]) (h:Q .normal a w) :
  ∀fuel,zal P md ops Q S k fuel listed a w
 | 0=>⟨hr,h⟩
 | _+1=>⟨λ_=>h,by rw[hr];simp⟩
theorem rdP {P ops Q md} {S:World->Prop} {k fuel listed a w o} (i:Nat) (h:∀K':Act->World->Prop,Shut (∀a w,((listed.setIfInBounds i true).getD k true=false->S w)->(((listed.setIfInBounds i true).getD k true=false->S w)->zal P md ops Q S k fuel (listed.setIfInBounds i true) a w)->K' a w)->if Region.wanted o (yielded ops a.tmps)=true then Oper.wp P o a w K' Q else K' (a.put o.dst undef) w)
  (ho:ops[i]?=some o:=by exact rfl) (hr:Region.ready md ops listed=[i]:=by kernel_rfl):zal P md ops Q S k (fuel+1) listed a w:=zfu hr (by simp) (AllReadyP.cons ho h AllReadyP.nil)
theorem dnP {P ops Q md} {S:World->Prop} {k fuel listed a w} (h:Q .normal a w) (hr:Region.ready md ops listed=[]:=by kernel_rfl):zal P md ops Q S k fuel listed a w:=zgm hr h fuel
theorem zaL {P ops Q S id a w} (k:Nat) (hm:P.follows .mixedOrders=true) (hS:S w.drew) (h:S w.drew->zal P .any ops Q S k ops.size (Array.replicate ops.size false) a w.drew):(Code.region id ops true).wp P Q a w :=
 wp_region_any hm (zbX _ _ _ _ (h hS))
theorem zhh {P ops Q md S k i oi v} (hi:ops[i]?=some oi) (hsel:∀(j:Nat) (o:Oper) cs b,ops[j]?=some o->o.op≠.select cs b) (hQ:∀c a w,Q (.panic c) (a.put oi.dst v) w->Q (.panic c) a w) (hd:i ∈ zeS md ops ops.size [k]) :
  ∀(fuel:Nat) (listed:Array Bool) (a:Act) (w:World),
   (∀j oj,ops[j]?=some oj->j≠i->listed.getD j true=false->(∀e ∈ oj.after,Region.binds md e=true->e.on≠i)->oi.apart ops oj=true) ->
   i ∈ Region.ready md ops listed->listed.getD k true=false->(∀a b,listed.getD a false=true->b ∈ depsOf md ops a->listed.getD b false=true)->YieldsIf P ops S oi v a->S w ->
   zal P md ops Q S k fuel (listed.setIfInBounds i true) (a.put oi.dst v) w->zal P md ops Q S k (fuel+1) listed a w:=by
 intro fuel
 induction fuel with
 | zero =>
  intro listed a w _ hr _ _ hy hS H;refine⟨λh=>(by rw[h]at hr;cases hr),λj hj=>?_⟩;by_cases hji:j=i
  ·subst hji;exact hy.wpOp hi hS ⟨λ_=>hS,H⟩
  ·have:=ready_mono hj hji;rw[H.1]at this
   cases this
 | succ fuel ih =>
  intro listed a w hfree hr hk hcl hy hS H;refine⟨λh=>(by rw[h]at hr;cases hr),λj hj=>?_⟩;by_cases hji:j=i
  ·subst hji;exact hy.wpOp hi hS ⟨λ_=>hS,H⟩
  ·have h1:=H.2 j (ready_mono hj hji);obtain⟨hjun,oj,hoj,hall⟩:=mem_ready.1 hj;have hil:listed.getD i false=true->False:=λh=>by
    have h0:=(mem_ready.1 hr).1;rcases Nat.lt_or_ge i listed.size with h'|h'
    ·simp[h']at h0 h;rw[h0]at h;cases h
    ·simp[Array.getElem?_eq_none h']at h
   have hjd:∀b,b ∈ depsOf md ops j->listed.getD b false=true:=λb hb=>by
    obtain⟨o',ho',e,he,hb',rfl⟩:=mem_deps.1 hb;obtain⟨_,oj',hoj',hall'⟩:=mem_ready.1 hj;obtain rfl:o'=oj':=Option.some.inj (ho'.symm.trans hoj');exact hall' e he hb'
   have hjk:j≠k:=λe=>by
    subst e;exact hil (zbp hcl ops.size [j] (λa ha b hb=>by simp at ha;subst ha;exact hjd b hb) i hd)
   have hik:i≠k:=λe=>by
    subst e;refine hil (zbp hcl ops.size [i] (λa ha b hb=>?_) i hd);simp at ha;subst ha
    obtain⟨o',ho',e,he,hb',rfl⟩:=mem_deps.1 hb;obtain⟨_,oi',hoi',hall'⟩:=mem_ready.1 hr;obtain rfl:o'=oi':=Option.some.inj (ho'.symm.trans hoi');exact hall' e he hb'
   have hnot:∀e ∈ oj.after,Region.binds md e=true->e.on≠i:=λe he hb heq=>zdp hr hj (mem_deps.2 ⟨oj,hoj,e,he,hb,heq⟩)
   have h2:=wpOp_putIf hoj (hfree j oj hoj hji hjun hnot) (λcs b=>hsel i oi cs b hi) (λcs b=>hsel j oj cs b hoj) hQ hy h1;have hfree':∀k ok,ops[k]?=some ok->k≠i->(listed.setIfInBounds j true).getD k true=false ->
     (∀e ∈ ok.after,Region.binds md e=true->e.on≠i)->oi.apart ops ok=true:=λk ok hk hki hun hno=>by
    refine hfree k ok hk hki ?_ hno;by_cases hjk:j=k
    ·subst hjk;exact hjun
    ·rw[getD_set_ne true hjk]at hun;exact hun
   have hk':(listed.setIfInBounds j true).getD k true=false:=by rw[getD_set_ne true hjk];exact hk
   have hk2:((listed.setIfInBounds i true).setIfInBounds j true).getD k true=false:=by rw[getD_set_ne true hjk,getD_set_ne true hik];exact hk
   have hcl':∀a b,(listed.setIfInBounds j true).getD a false=true->b ∈ depsOf md ops a->(listed.setIfInBounds j true).getD b false=true:=λa b ha hb=>by
    by_cases e:a=j
    ·subst e;exact getD_set_true (hjd b hb)
    ·rw[getD_set_ne false (Ne.symm e)]at ha;exact getD_set_true (hcl a b ha hb)
   refine wpOp_mono (λa' w' h3=>⟨λ_=>h3.2.1 hk2,ih (listed.setIfInBounds j true) a' w' hfree' (ready_mono hr (Ne.symm hji)) hk' hcl' h3.1 (h3.2.1 hk2) ?_⟩) h2;rw[Array.setIfInBounds_comm _ _ hji];exact h3.2.2
def zkP (md:Region.Mode) (ops:Array Oper) (listed:Array Bool):Bool:=(List.range listed.size).all (λa=>!(listed.getD a false) || (depsOf md ops a).all (λb=>listed.getD b false))
theorem zkO {md ops listed} (h:zkP md ops listed=true):∀a b,listed.getD a false=true->b ∈ depsOf md ops a->listed.getD b false=true:=λa b ha hb=>by
 rcases Nat.lt_or_ge a listed.size with hl|hl
 ·have:=List.all_eq_true.1 h a (List.mem_range.2 hl);rw[ha]at this
  have h2:=List.all_eq_true.1 (show(depsOf md ops a).all (λb=>listed.getD b false)=true from(by simpa only[Bool.not_true,Bool.false_or]using this)) b hb;exact h2
 ·simp[Array.getElem?_eq_none hl]at ha
theorem zag {P ops Q md S k i oi v fuel listed a w} (hi:ops[i]?=some oi) (hs:Region.noSelect ops=true) (hf:Region.free md ops listed i=true) (hr:(Region.ready md ops listed).contains i=true) (hd:(zeS md ops ops.size [k]).contains i=true) (hk:listed.getD k true=false) (hc:zkP md ops listed=true) (hQ:∀c a w,Q (.panic c) (a.put oi.dst v) w->Q (.panic c) a w) (hy:YieldsIf P ops S oi v a) (hS:S w) (h:zal P md ops Q S k fuel (listed.setIfInBounds i true) (a.put oi.dst v) w):zal P md ops Q S k (fuel+1) listed a w :=
 zhh hi (Region.noSelect_spec hs) hQ (by simpa using hd) fuel listed a w (Region.free_spec hi hf) (by simpa using hr) hk (zkO hc) hy hS h
theorem tkP {P:Program} {ops:Array Oper} {Q:Exit->Act->World->Prop} {md:Region.Mode} {S:World->Prop} {k:Nat} {oi:Oper} {v:Value} {fuel:Nat} {listed:Array Bool} {a:Act} {w:World} (i:Nat) (h:zal P md ops Q S k fuel (listed.setIfInBounds i true) (a.put oi.dst v) w)
  (hi:ops[i]?=some oi:=by exact rfl) (hy:YieldsIf P ops S oi v a:=by (refine Or.inl ⟨by rfl,?_⟩;intro w0 hSw;(try dsimp only at hSw);go_simp <;> with_reducible rfl))
  (hs:Region.noSelect ops=true:=by kernel_rfl) (hf:Region.free md ops listed i=true:=by kernel_rfl) (hr:(Region.ready md ops listed).contains i=true:=by kernel_rfl) (hd:(zeS md ops ops.size [k]).contains i=true:=by kernel_rfl) (hk:listed.getD k true=false:=by kernel_rfl) (hc:zkP md ops listed=true:=by kernel_rfl)
  (hQ:∀c a w,Q (.panic c) (a.put oi.dst v) w->Q (.panic c) a w:=by exact(λ_ _ _ h=>h)) (hS:S w:=by assumption):zal P md ops Q S k (fuel+1) listed a w :=
 zag hi hs hf hr hd hk hc hQ hy hS h
def Gr (K base:Nat) (w:World) (v:Value) (p:List Rat):Prop:=∃T:Nat->Nm,RowG 24 3 base w v p.length (zaG (rls p.length T))/\∀(j:Nat) (q:Rat),p[j]?=some q->Rn K w (T j).s (T j).x (T j).n (T j).c (T j).f (T j).y (T j).m (T j).d (T j).g q
theorem zfY (K base:Nat) (w:World):Gr K base w (slice none 0 0) []:=⟨λ_=>⟨false,none,0,0,λ_=>0,none,0,0,λ_=>0⟩,zaK _ _ _ _,λj q h=>by simp at h⟩
theorem Gr.q_ {K base w w' v p} (h:Gr K base w v p) (hb:Bl w w'):Gr K base w' v p:=by
 obtain⟨T,h1,h2⟩:=h;exact⟨T,h1.q_ hb,λj q e=>(h2 j q e).q_ hb⟩
theorem zdV {K base w0 w' p T g cap s x n c f y m d gg q} (hT:∀(j:Nat) (q:Rat),p[j]?=some q->Rn K w0 (T j).s (T j).x (T j).n (T j).c (T j).f (T j).y (T j).m (T j).d (T j).g q) (hr:RowG 24 3 base w' (slice (some ⟨g,0,none⟩) (p.length+1) cap) (p.length+1) (zaG (rls p.length T)++#[Value.bool s,slice x n c,slice y m d].toList)) (hk:Kp w0 w') (hq:Rn K w0 s x n c f y m d gg q):Gr K base w' (slice (some ⟨g,0,none⟩) (p.length+1) cap) (p++[q]):=by
 refine⟨zaS T p.length ⟨s,x,n,c,f,y,m,d,gg⟩,?_,λj q' e=>?_⟩
 ·rw[List.length_append,List.length_singleton,zfE];exact hr
 ·by_cases hj:j<p.length
  ·rw[List.getElem?_append_left hj]at e
   rw[putN_ne (by omega)];exact Rn.kp (hT j q' e) hk
  ·rw[List.getElem?_append_right (by omega)]at e
   have h0:j-p.length=0:=by
    rcases Nat.eq_zero_or_pos (j-p.length)with h|h
    ·exact h
    ·rw[List.getElem?_eq_none (by simp;omega)]at e;cases e
   have hjj:j=p.length:=by omega
   subst hjj;rw[h0]at e
   cases e
   rw[zcj];exact Rn.kp hq hk
theorem Gr.rf {K base w ao n cap p} (h:Gr K base w (.slice ao n cap) p):Rf K w ao p:=λj q hj=>by
 obtain⟨T,h1,h2⟩:=h;have hl:j<p.length:=by
  rcases Nat.lt_or_ge j p.length with h|h
  ·exact h
  ·rw[List.getElem?_eq_none h]at hj;cases hj
 have hn:n=p.length:=by
  obtain⟨ao',cap',e⟩:=h1.slice;cases e;rfl
 subst hn;obtain⟨b,e,hc⟩:=zfD h1 hl;exact⟨b,0,T j,e,hc,h2 j q hj⟩
theorem Gr.slice {K base w v p} (h:Gr K base w v p):∃ao cap,v=.slice ao p.length cap/\p.length<=cap/\cap<=9223372036854775807:=by
 obtain⟨T,h1,h2⟩:=h;obtain⟨ao,cap,rfl⟩:=h1.slice;refine⟨ao,cap,rfl,?_⟩;rcases h1.2 with⟨hv,h0⟩|⟨_,_,_,hv,_,_,h5,h6,_⟩
 ·injection hv with _ e2 e3;omega
 ·injection hv with _ _ e3;subst e3;unfold maxLen at h6;omega
def zdn (xs:List Rat) (t:Int × Rat):Rat:=t.2*xs.getD t.1.toNat 0
def zbg (xs:List Rat) (r:RV):Rat:=zbK (r.ts.map (zdn xs)) 0
def KA (L:Nat):Nat:=4+64*(2*L+1+1)
theorem zcv {α β:Type} (f:α->β) (l:List α) (i:Nat) (v:α) (h:l[i]?=some v):(l.take (i+1)).map f=(l.take i).map f++[f v]:=by
 rw[List.take_add_one,h,List.map_append];rfl
theorem zaC {α β:Type} (f:α->β) (l:List α) (i:Nat) (h:i<=l.length):((l.take i).map f).length=i:=by simp;omega
theorem zmB {w L M off cs rs ao k cap xs} (h:MoV L w M off cs rs) (hx:Rf L w ao xs) (hk:xs.length=k) (hcol:∀r ∈ rs,∀t ∈ r.ts,0<=t.1/\t.1<(k:Int)) (hrk:rs.length<=64) (htk:∀r ∈ rs,r.ts.length<=64) (hL:L<=100) :
  Calls prog 56 #[M.val,slice ao k cap] w λe w'=>∃a c,e=.returned (slice a rs.length c)/\Bl w w'/\(rs.length<=c/\c<=9223372036854775807)/\Hid (Rf (KA L) w' a (rs.map (zbg xs))):=by
 have hrk2:=h.rk;have hR:=h.rls;clear h;obtain⟨⟨s,x,n,c,f,y,m,d,g⟩,ca,ck,cc,C,ra,rk,rc,R⟩:=M;replace hrk2:rk=rs.length:=hrk2;have HR:Hid (∀j v,rs[j]?=some v->(∃b o,ra=some ⟨b,o,none⟩/\Cs w b (o+j*10) (R j).vs)/\RowV L w (R j) v):=hR;subst hrk2;have HX:=zi hx;have HCol:=zi hcol;have HTk:=zi htk
 clear hR hx hcol htk;have hb0:=zE w (cells #[.bool s,slice x n c,slice y m d,slice ca ck cc,slice ra rs.length rc] 28);have HB0:=zi hb0;obtain⟨-,-,-,-,k4⟩:=bk5 (zI w [.bool s,slice x n c,slice y m d,slice ca ck cc,slice ra rs.length rc] 28);clear hb0;show Calls prog 56 #[.agg #[.bool s,slice x n c,slice y m d,slice ca ck cc,slice ra rs.length rc],slice ao k cap] w _;go_enter func56,ntmps56;go_wp2_with fail
 generalize w.alloc (cells #[.bool s,slice x n c,slice y m d,slice ca ck cc,slice ra rs.length rc] 28)=w0 at *;go_loopw[5,14] (λov t wr=>∃(i:Nat),i<=rs.length/\t=.int .i64 i/\Hid (Bl w wr)/\Hid (Gr (KA L) w.heap.size wr ov ((rs.take i).map (zbg xs)))) (λ_ t _=>rs.length-(intOf t).toNat)
 case atStart=>exact⟨0,by omega,rfl,HB0,zfY _ _ _⟩
 case round =>
  clear k4 HB0;obtain⟨i,hi,rfl,HB,HG⟩:=hrel;by_cases hlt:i<rs.length
  ·obtain⟨v,hv⟩:∃t,rs[i]?=some t:=⟨_,getElem?_eq_getElem (by omega)⟩;have hvm:=List.mem_of_getElem? hv;obtain⟨⟨b,o,hra,hc⟩,hRV⟩:=HR.out i v hv;subst hra;obtain⟨⟨z,⟨i1,⟨s1,x1,n1,c1,f1,y1,m1,d1,g1⟩⟩,⟨i2,⟨s2,x2,n2,c2,f2,y2,m2,d2,g2⟩⟩,ta,tk,tc,tcol,tt⟩,hCi⟩:∃t,R i=t:=⟨_,rfl⟩;rw[hCi]at hc hRV
   replace hc:=Cs.q_ hc HB.out;obtain⟨q0,q1,q2,q3,q4,q5,q6,q7,q8,q9⟩:=hc.lr;have hb1:=zE wr (cells #[.string z,.int .i64 i1,.bool s1,slice x1 n1 c1,slice y1 m1 d1,.int .i64 i2,.bool s2,slice x2 n2 c2,slice y2 m2 d2,slice ta tk tc] 62);obtain⟨-,-,-,-,-,-,-,-,-,b9⟩:=zeR (zI wr [.string z,.int .i64 i1,.bool s1,slice x1 n1 c1,slice y1 m1 d1,.int .i64 i2,.bool s2,slice x2 n2 c2,slice y2 m2 d2,slice ta tk tc] 62);have HTS:Hid (∀p z q,v.ts[p]?=some (z,q)->tcol p=z/\NmV L w (tt p) q/\∃b o,ta=some ⟨b,o,none⟩/\C4 w b (o+p*4) (.int .i64 (tcol p)) (.bool (tt p).s) (.slice (tt p).x (tt p).n (tt p).c) (.slice (tt p).y (tt p).m (tt p).d)):=hRV.tl;have htk2:tk=v.ts.length:=hRV.tk;subst htk2;have htk3:=HTk.out v hvm;have HC2:=zi (HCol.out v hvm);have HV:=zi hv;have HB1:=zM HB hb1;have HG1:=zi (HG.out.q_ hb1)
   have i1':((i:Nat):Int)<((rs.length:Nat):Int):=by omega
   clear hCi hc hRV hb1 hv hvm HB HG;go_wp2_with fail
   clear q0 q1 q2 q3 q4 q5 q6 q7 q8 q9;generalize wr.alloc (cells #[.string z,.int .i64 i1,.bool s1,slice x1 n1 c1,slice y1 m1 d1,.int .i64 i2,.bool s2,slice x2 n2 c2,slice y2 m2 d2,slice ta v.ts.length tc] 62)=wI at *;clear b9;go_loopw[8,21] (λvv t wz=>∃(p:Nat),p<=v.ts.length/\t=.int .i64 p/\Hid (Bl wI wz)/\Hid (Gr (2*L+1) wI.heap.size wz vv ((v.ts.take p).map (zdn xs)))) (λ_ t _=>v.ts.length-(intOf t).toNat)
   case atStart=>exact⟨0,by omega,rfl,Below.refl _ _,zfY _ _ _⟩
   case round =>
    obtain⟨p,hp,rfl,HB2,HG2⟩:=hrel;by_cases hlp:p<v.ts.length
    ·obtain⟨⟨tz,tq⟩,htv⟩:∃t,v.ts[p]?=some t:=⟨_,getElem?_eq_getElem (by omega)⟩;obtain⟨h1,h2,b2,o2,hta,h4⟩:=HTS.out p tz tq htv;obtain⟨hz0,hz1⟩:=HC2.out (tz,tq) (List.mem_of_getElem? htv);replace hz0:0<=tz:=hz0;replace hz1:tz<(k:Int):=hz1;obtain⟨zn,rfl⟩:=Int.eq_ofNat_of_zero_le hz0;subst hta;obtain⟨r,hr⟩:∃t,xs[zn]?=some t:=⟨_,getElem?_eq_getElem (by omega)⟩;have hbz:=bUp HB1.out HB2.out;obtain⟨b',o',⟨ss,sx,sn,sc,sf,sy,sm,sd,sg⟩,hax,⟨p0,p1,p2⟩,hr'⟩:=(HX.out.q_ hbz) zn r hr;subst hax;obtain⟨⟨ts,tx,tn,tc2,tf,ty,tm,td,tg⟩,hTp⟩:∃t,tt p=t:=⟨_,rfl⟩;rw[hTp,h1]at h4
     rw[hTp]at h2
     obtain⟨x0,x1,x2,x3⟩:=h4.q_ hbz;replace x0:wr.cell? ⟨b2,o2+p*4,none⟩=some (.int .i64 zn):=x0;replace x1:wr.cell? ⟨b2,o2+p*4+1,none⟩=some (.bool ts):=x1;replace x2:wr.cell? ⟨b2,o2+p*4+2,none⟩=some (slice tx tn tc2):=x2;replace x3:wr.cell? ⟨b2,o2+p*4+3,none⟩=some (slice ty tm td):=x3;replace p0:wr.cell? ⟨b',o'+zn*3,none⟩=some (.bool ss):=p0;replace p1:wr.cell? ⟨b',o'+zn*3+1,none⟩=some (slice sx sn sc):=p1;replace p2:wr.cell? ⟨b',o'+zn*3+2,none⟩=some (slice sy sm sd):=p2;have h2r:Rn L w ts tx tn tc2 tf ty tm td tg tq:=h2;have hr2:Rn L wr ss sx sn sc sf sy sm sd sg r:=hr';have hbt:=zE wr (cells #[.int .i64 zn,.bool ts,slice tx tn tc2,slice ty tm td] 64);obtain⟨a0,a1,a2,a3⟩:=bk4 (zI wr [.int .i64 zn,.bool ts,slice tx tn tc2,slice ty tm td] 64);have i2':((p:Nat):Int)<((v.ts.length:Nat):Int):=by omega
     have i3':((zn:Nat):Int)<((k:Nat):Int):=by omega
     have HTV:=zi htv;have HRR:=zi hr
     clear htv hr hz0 hz1 h1 h2 h4 hTp hr';go_upto_region 9 with fail
     clear x0 x1 x2 x3;replace p0:=kCb hbt p0;replace p1:=kCb hbt p1;replace p2:=kCb hbt p2
     have HB3:=zM HB2 hbt;have HG3:=zi (HG2.out.q_ hbt);have R1:=zi ((h2r.q_ hbz).q_ hbt);have R2:=zi (hr2.q_ hbt)
     clear hbz hbt h2r hr2 HB2 HG2;generalize hbx:wr.heap.size=bx at *;generalize wr.alloc (cells #[.int .i64 zn,.bool ts,slice tx tn tc2,slice ty tm td] 64)=w5 at *;clear hbx;refine zaL (S:=(λw'=>w'.cell? ⟨bx,0,none⟩=some (.int .i64 zn)/\w'.cell? ⟨bx,1,none⟩=some (.bool ts)/\w'.cell? ⟨bx,2,none⟩=some (slice tx tn tc2)/\w'.cell? ⟨bx,3,none⟩=some (slice ty tm td)/\w'.cell? ⟨b',o'+zn*3,none⟩=some (.bool ss)/\w'.cell? ⟨b',o'+zn*3+1,none⟩=some (slice sx sn sc)/\w'.cell? ⟨b',o'+zn*3+2,none⟩=some (slice sy sm sd))) 8 (by kernel_rfl) ⟨kCd a0,kCd a1,kCd a2,kCd a3,kCd p0,kCd p1,kCd p2⟩ (λhHeld=>?_);refine skP 0 ?_;refine skP 1 ?_;refine tkP 2 ?_;simp only[zA,Act.put];refine skP 3 ?_;refine skP 4 ?_;refine tkP 5 ?_;simp only[zA,Act.put];refine skP 6 ?_;refine tkP 7 ?_;simp only[zA,Act.put];refine rdP 8 (λK hK=>?_);go_simp
     go_at_call 78
     refine(zlr (L:=L) (zeO R1.out) (zeO R2.out) (by omega)).mono ?_;rintro e w6 ⟨s6,x6,n6,c6,f6,y6,m6,d6,g6,rfl,hb6,hq6⟩
     (try go_wp2_with fail)
     refine hK.out _ _ (λh=>by cases h) (λ_=>?_);clear hK K;try simp only[zA,Act.put]
     refine rdP 9 (λK hK=>?_);go_simp;refine hK.out _ _ (λh=>by cases h) (λ_=>?_);clear hK K;try simp only[zA,Act.put]
     refine rdP 10 (λK hK=>?_);obtain⟨T,hrow,hT⟩:=(Gr.q_ HG3.out (Below.drew (Below.refl w5.heap.size w5))).q_ hb6;rw[zaC _ _ _ (by omega)]at hrow
     refine zar w6 rfl (.tmp 25) (.tmp 34) 29 rfl wI.heap.size 24 56 3 (.agg #[.bool false,slice none 0 0,slice none 0 0]) underlying29 zbv rfl (by decide) nz3 u8 p _ rfl hrow #[.bool s6,slice x6 n6 c6,slice y6 m6 d6] rfl rfl (zgB _ _ _ _ _ _ _) (zeN _ _ _ _ _ _ _) (by omega) (by decide) ?hz ?_
     case hz=>exact(HB3.out.drew.trans (hb6.mono HB3.out.drew.size)).size
     intro g8 cap8 w8 hr8 hk8 hb8 hg8;have HB8:Hid (Bl wI w8):=hb8 wI (HB3.out.drew.trans (hb6.mono HB3.out.drew.size)) (le_refl _);have HG8:Hid (Gr (2*L+1) wI.heap.size w8 (slice (some ⟨g8,0,none⟩) (p+1) cap8) ((v.ts.take (p+1)).map (zdn xs))):=by
      have hl:=zaC (zdn xs) v.ts p (by omega);have hp8:=zdV (p:=(v.ts.take p).map (zdn xs)) hT (by rw[hl];exact hr8) hk8 hq6;rw[hl]at hp8
      rw[zcv (zdn xs) v.ts p _ HTV.out];have e9:zdn xs ((zn:Int),tq)=tq*r:=by
       show tq*xs.getD (zn:Int).toNat 0=tq*r;rw[Int.toNat_natCast,List.getD_eq_getElem?_getD,HRR.out];rfl
      rw[e9];exact hp8
     clear hr8 hk8 hb8 hg8 hrow hT hb6 hq6 HG3 HB3 R1 R2;refine hK.out _ _ (λh=>by cases h) (λ_=>?_);clear hK K;simp only[List.getElem_toArray,List.getElem_cons_succ,List.getElem_cons_zero,Act.put,List.setIfInBounds_toArray,List.set_cons_zero,List.set_cons_succ];refine zaa (i:=11) (v:=?_) rfl (by kernel_rfl) (by kernel_rfl) (by kernel_rfl) (by kernel_rfl) (λ_ _ _ h=>h) (Or.inl ⟨by rfl,?_⟩) (λh=>by cases h) ?_;rotate_left
     (focus (intro w0 hSw;go_simp <;> with_reducible rfl))
     simp only[List.getElem_toArray,List.getElem_cons_succ,List.getElem_cons_zero,Act.put,List.setIfInBounds_toArray,List.set_cons_zero,List.set_cons_succ];refine dnP ?_;clear hHeld a0 a1 a2 a3 p0 p1 p2;go_wp2;go_roundw
     case rel=>exact⟨p+1,by omega,by go_num,HB8.out,HG8.out⟩
     case measure=>simp[intOf];omega
    ·have e1:p=v.ts.length:=by omega
     have i4':¬(((p:Nat):Int)<((v.ts.length:Nat):Int)):=by omega
     obtain⟨va,vc,hvs,hvc⟩:=HG2.out.slice;rw[zaC _ _ _ (by omega)]at hvs
     have HG4:=HG2.out;rw[hvs]at HG4
     replace HG4:=zi (show Rf (2*L+1) wr va (v.ts.map (zdn xs)) by have:=HG4.rf;rw[List.take_of_length_le (by omega)]at this;exact this);subst hvs;have HBq:=zM HB1 HB2.out;have HGq:=zi (HG1.out.q_ HB2.out)
     clear HG2 HB2 HB1 HG1 HTS HC2;go_wp2_with fail
     refine(zhA (L:=2*L+1) HG4.out (by rw[List.length_map]) (by omega) (by omega)).mono ?_;rintro e w6 ⟨s6,x6,n6,c6,f6,y6,m6,d6,g6,rfl,hb6,hq6⟩;obtain⟨T,hrow,hT⟩:=HGq.out.q_ hb6;rw[zaC _ _ _ (by omega)]at hrow
     have hsz:=(bUp HBq.out hb6).size;have HB6:=zM HBq hb6;have HQ6:=zi (show Rn (KA L) w6 s6 x6 n6 c6 f6 y6 m6 d6 g6 (zbg xs v)from hq6.mono (by unfold KA;have:v.ts.length*(2*L+1+1)<=64*(2*L+1+1):=Nat.mul_le_mul_right _ (by omega);omega));clear hb6 hq6 HGq HG4 HBq;go_wp2_with(at_builtin;go_must (refine zab w6 rfl (.tmp 37) (.tmp 40) 29 rfl w.heap.size 24 56 3 (.agg #[.bool false,slice none 0 0,slice none 0 0]) underlying29 zbv rfl (by decide) nz3 u5 i _ rfl hrow #[.bool s6,slice x6 n6 c6,slice y6 m6 d6] rfl rfl (zgB _ _ _ _ _ _ _) (zeN _ _ _ _ _ _ _) ?p1 (by decide) hsz ?_))
     case p1=>omega
     intro g8 cap8 w8 hr8 hk8 hb8 hg8;have HB8:=zi (hb8 w HB6.out (le_refl _));have HG8:Hid (Gr (KA L) w.heap.size w8 (slice (some ⟨g8,0,none⟩) (i+1) cap8) ((rs.take (i+1)).map (zbg xs))):=by
      have hl:=zaC (zbg xs) rs i (by omega);have hp8:=zdV (p:=(rs.take i).map (zbg xs)) hT (by rw[hl];exact hr8) hk8 HQ6.out;rw[hl]at hp8
      rw[zcv (zbg xs) rs i _ HV.out];exact hp8
     clear hr8 hk8 hb8 hg8 hrow hT HQ6 HB6 hsz;go_wp2;go_roundw
     case rel=>exact⟨i+1,by omega,by go_num,HB8.out,HG8.out⟩
     case measure=>simp[intOf];omega
  ·have e1:i=rs.length:=by omega
   have i4':¬(((i:Nat):Int)<((rs.length:Nat):Int)):=by omega
   obtain⟨va,vc,hvs,hvc⟩:=HG.out.slice;rw[zaC _ _ _ (by omega)]at hvs hvc
   have HG4:=HG.out;rw[hvs]at HG4
   replace HG4:=zi (show Rf (KA L) wr va (rs.map (zbg xs)) by have:=HG4.rf;rw[List.take_of_length_le (by omega)]at this;exact this);subst hvs;have HE:=zi (show rs.length=i by omega);have HV4:=zi hvc;clear HG e1 hvc;go_wp2;go_ret;exact⟨va,vc,by rw[HE.out];rfl,HB.out,by rw[HE.out];exact HV4.out,HG4.out⟩
def kx (p:Bool):Int:=if p then 0 else 3
theorem Rn.en0 {L w s x n c f y m d g q} (h:Rn L w s x n c f y m d g q):En L w 0 s x n c f y m d g q:=⟨h,.inl rfl⟩
def ks (p:Bool) (n2:Nat):Int:=if p then (if n2=0 then 4 else 0) else 3
theorem zmd {w i1 s1 x1 n1 c1 f1 y1 m1 d1 g1 i2 s2 x2 n2 c2 f2 y2 m2 d2 g2 qa qb p1 p2} (h1:Rw w x1 n1 c1 f1 y1 m1 d1 g1) (h2:Rw w x2 n2 c2 f2 y2 m2 d2 g2) (hn1:n1<=4096) (hm1:m1<=4096) (hn2:n2<=4096) (hm2:m2<=4096) (hp1:efB i1 s1 f1 n1 g1 m1=p1) (hp2:efB i2 s2 f2 n2 g2 m2=p2) (hq1:p1=true->En 4096 w i1 s1 x1 n1 c1 f1 y1 m1 d1 g1 qa) (hq2:p2=true->En 4096 w i2 s2 x2 n2 c2 f2 y2 m2 d2 g2 qb) :
  Calls prog 97 #[.agg #[.int .i64 i1,.bool s1,slice x1 n1 c1,slice y1 m1 d1],.agg #[.int .i64 i2,.bool s2,slice x2 n2 c2,slice y2 m2 d2]] w λe w'=>∃r er,e=.returned (.tuple #[.int .i64 r,.int .i64 er])/\Bl w w'/\Hid (OC (p1 && p2) i1 qa i2 qb r er):=by
 have HP1:=zi hp1;have HP2:=zi hp2
 have k1:=(zbn w (.int .i64 i1) (.bool s1) (slice x1 n1 c1) (slice y1 m1 d1) 57).alloc (cells #[.int .i64 i2,.bool s2,slice x2 n2 c2,slice y2 m2 d2] 57);have k2:=zbn (w.alloc (cells #[.int .i64 i1,.bool s1,slice x1 n1 c1,slice y1 m1 d1] 57)) (.int .i64 i2) (.bool s2) (slice x2 n2 c2) (slice y2 m2 d2) 57;rw[zv]at k2
 have k3:=zk (zE w (cells #[.int .i64 i1,.bool s1,slice x1 n1 c1,slice y1 m1 d1] 57)) (cells #[.int .i64 i2,.bool s2,slice x2 n2 c2,slice y2 m2 d2] 57);have HQ1:=zi (λh=>(hq1 h).q_ k3);have HQ2:=zi (λh=>(hq2 h).q_ k3);have HR1:=zi (h1.q_ k3);have HR2:=zi (h2.q_ k3)
 clear hp1 hp2 hq1 hq2 h1 h2;go_enter func97,ntmps97;go_upto_region 1 with fail
 generalize(w.alloc (cells #[.int .i64 i1,.bool s1,slice x1 n1 c1,slice y1 m1 d1] 57)).alloc (cells #[.int .i64 i2,.bool s2,slice x2 n2 c2,slice y2 m2 d2] 57)=w1 at *;have HW:=zi k3;have BA:=zi k1;have BB:=zi k2
 clear k1 k2 k3;obtain⟨za,a0,a1,a2,a3⟩:=BA.out;obtain⟨zb,b0,b1,b2,b3⟩:=BB.out;go_wp2_with fail
 have cf:=λ(t:TypeId)=>zhZ (zpo w1 (.int .i64 i1) (.bool s1) (slice x1 n1 c1) (slice y1 m1 d1) (.int .i64 i2) (.bool s2) (slice x2 n2 c2) (slice y2 m2 d2) t) (HR1.out.alloc _) (HR2.out.alloc _) (by omega) (by omega) (by omega) (by omega)
 rw[HP1.out,HP2.out]at cf
 refine(cf _).mono ?_;rintro e w2 ⟨rfl,hb⟩;have HB1:Hid (Bl w1 w2):=(zk (Below.refl _ _) _).trans (hb.mono (by simp));have HB:=zM HW HB1.out;clear hb cf za a0 a1 a2 a3 zb b0 b1 b2 b3;obtain⟨pp,hp⟩:∃pp,(p1 && p2)=pp:=⟨_,rfl⟩;have HPP:=zi hp;rw[hp];cases pp
 ·clear hp;go_wp2
  go_ret2
  exact⟨0,3,rfl,HB.out,.inl ⟨HPP.out,rfl,rfl⟩⟩
 have hpp:p1=true/\p2=true:=by simpa using hp
 have E1:=zi ((HQ1.out hpp.1).q_ HB1.out);have E2:=zi ((HQ2.out hpp.2).q_ HB1.out)
 clear hp hpp;obtain⟨za,a0,a1,a2,a3⟩:=BA.out.q_ HB1.out;obtain⟨zb,b0,b1,b2,b3⟩:=BB.out.q_ HB1.out;by_cases hz:i1=0/\i2=0
 ·obtain⟨rfl,rfl⟩:=hz;go_wp2_with fail
  refine(zpb E1.out.rn E2.out.rn (by omega)).mono ?_;rintro e w3 ⟨r,rfl,hb,hr⟩;have HB3:=zM HB hb;have HRr:=zi hr
  clear hb hr;go_wp2
  go_ret2
  refine⟨r,0,rfl,HB3.out,.inr ⟨HPP.out,rfl,?_⟩⟩;rcases HRr.out with⟨j1,j2⟩|⟨j1,j2⟩|⟨j1,j2⟩
  ·exact .inl ⟨j1,.inr ⟨rfl,j2⟩⟩
  ·exact .inr (.inl ⟨j1,rfl,j2⟩)
  ·exact .inr (.inr ⟨j1,.inr ⟨rfl,j2⟩⟩)
 ·have hcase:(i1 != 0)=true∨(i1 != 0)=false/\(i2 != 0)=true:=by
   by_cases h:i1=0
   ·right;subst h;exact⟨by simp,by simp;intro h;exact hz ⟨rfl,h⟩⟩
   ·left;simp;exact h
  have HEq:Hid (i1=i2->qa=qb):=by
   intro h;have j1:=E1.out.inf;have j2:=E2.out.inf
   rcases j1 with j1|j1
   ·exact absurd ⟨j1,by omega⟩ hz
   ·rcases j2 with j2|j2
    ·exact absurd ⟨by omega,j2⟩ hz
    ·rw[j1.2,j2.2]
  clear hz;rcases hcase with hc|⟨hc,hc2⟩
  all_goals
   go_wp2_with fail
   refine compare_c.mono ?_;rintro e w3 ⟨r,rfl,rfl,hr⟩;have HRr:=zi hr;clear hr;go_wp2
   go_ret2
   refine⟨r,0,rfl,HB.out,.inr ⟨HPP.out,rfl,?_⟩⟩;rcases HRr.out with⟨j1,j2⟩|⟨j1,j2⟩|⟨j1,j2⟩
   ·exact .inl ⟨j1,.inl j2⟩
   ·exact .inr (.inl ⟨j1,j2,HEq.out j2⟩)
   ·exact .inr (.inr ⟨j1,.inl j2⟩)
def zhG (q:Rat) (li:Int) (lq:Rat) (hi:Int) (hq:Rat):Bool:=decide ((li<0∨li=0/\lq<=q)/\(0<hi∨hi=0/\q<=hq))
theorem EOrd.geq {c q i b} (h:EOrd c 0 q i b):0<=c ↔ (i<0∨i=0/\b<=q):=by
 rcases h with⟨rfl,h⟩|⟨rfl,h,h'⟩|⟨rfl,h⟩
 ·constructor
  ·intro h;omega
  ·rintro(h2|⟨h2,h3⟩)
   ·rcases h with h|⟨h,_⟩ <;> omega
   ·rcases h with h|⟨_,h⟩
    ·omega
    ·exact absurd h (Rat.not_lt.2 h3)
 ·exact⟨λ_=>.inr ⟨h.symm,by rw[h'];exact Rat.le_refl⟩,λ_=>by omega⟩
 ·exact⟨λ_=>by rcases h with h|⟨h,h2⟩;exact .inl h;exact .inr ⟨h.symm,Rat.le_of_lt h2⟩,λ_=>by omega⟩
theorem EOrd.leq {c q i b} (h:EOrd c 0 q i b):c<=0 ↔ (0<i∨i=0/\q<=b):=by
 rcases h with⟨rfl,h⟩|⟨rfl,h,h'⟩|⟨rfl,h⟩
 ·exact⟨λ_=>by rcases h with h|⟨h,h2⟩;exact .inl h;exact .inr ⟨h.symm,Rat.le_of_lt h2⟩,λ_=>by omega⟩
 ·exact⟨λ_=>.inr ⟨h.symm,by rw[h'];exact Rat.le_refl⟩,λ_=>by omega⟩
 ·constructor
  ·intro h;omega
  ·rintro(h2|⟨h2,h3⟩)
   ·rcases h with h|⟨h,_⟩ <;> omega
   ·rcases h with h|⟨_,h⟩
    ·omega
    ·exact absurd h (Rat.not_lt.2 h3)
theorem ziN {w s0 x0 n0 c0 f0 y0 m0 d0 g0 q i1 s1 x1 n1 c1 f1 y1 m1 d1 g1 q1 i2 s2 x2 n2 c2 f2 y2 m2 d2 g2 q2} (h0:Rn 4096 w s0 x0 n0 c0 f0 y0 m0 d0 g0 q) (h1:En 4096 w i1 s1 x1 n1 c1 f1 y1 m1 d1 g1 q1) (h2:En 4096 w i2 s2 x2 n2 c2 f2 y2 m2 d2 g2 q2) :
  Calls prog 74 #[.agg #[.bool s0,slice x0 n0 c0,slice y0 m0 d0],.agg #[.int .i64 i1,.bool s1,slice x1 n1 c1,slice y1 m1 d1],.agg #[.int .i64 i2,.bool s2,slice x2 n2 c2,slice y2 m2 d2]] w λe w'=>e=.returned (.bool (zhG q i1 q1 i2 q2))/\Bl w w':=by
 have k3:=zk (zk (zk (zE w (cells #[.bool s0,slice x0 n0 c0,slice y0 m0 d0] 24)) (cells #[.int .i64 i1,.bool s1,slice x1 n1 c1,slice y1 m1 d1] 57)) (cells #[.int .i64 i2,.bool s2,slice x2 n2 c2,slice y2 m2 d2] 57)) (cells #[.int .i64 0,.bool s0,slice x0 n0 c0,slice y0 m0 d0] 57);have b1:Bx4 ((((w.alloc (cells #[.bool s0,slice x0 n0 c0,slice y0 m0 d0] 24)).alloc (cells #[.int .i64 i1,.bool s1,slice x1 n1 c1,slice y1 m1 d1] 57)).alloc (cells #[.int .i64 i2,.bool s2,slice x2 n2 c2,slice y2 m2 d2] 57)).alloc (cells #[.int .i64 0,.bool s0,slice x0 n0 c0,slice y0 m0 d0] 57)) (w.heap.size+1) (.int .i64 i1) (.bool s1) (slice x1 n1 c1) (slice y1 m1 d1):=by
  have:=((zbn (w.alloc (cells #[.bool s0,slice x0 n0 c0,slice y0 m0 d0] 24)) (.int .i64 i1) (.bool s1) (slice x1 n1 c1) (slice y1 m1 d1) 57).alloc (cells #[.int .i64 i2,.bool s2,slice x2 n2 c2,slice y2 m2 d2] 57)).alloc (cells #[.int .i64 0,.bool s0,slice x0 n0 c0,slice y0 m0 d0] 57);rw[zv]at this;exact this
 have b2:Bx4 ((((w.alloc (cells #[.bool s0,slice x0 n0 c0,slice y0 m0 d0] 24)).alloc (cells #[.int .i64 i1,.bool s1,slice x1 n1 c1,slice y1 m1 d1] 57)).alloc (cells #[.int .i64 i2,.bool s2,slice x2 n2 c2,slice y2 m2 d2] 57)).alloc (cells #[.int .i64 0,.bool s0,slice x0 n0 c0,slice y0 m0 d0] 57)) (w.heap.size+1+1) (.int .i64 i2) (.bool s2) (slice x2 n2 c2) (slice y2 m2 d2):=by
  have:=(zbn ((w.alloc (cells #[.bool s0,slice x0 n0 c0,slice y0 m0 d0] 24)).alloc (cells #[.int .i64 i1,.bool s1,slice x1 n1 c1,slice y1 m1 d1] 57)) (.int .i64 i2) (.bool s2) (slice x2 n2 c2) (slice y2 m2 d2) 57).alloc (cells #[.int .i64 0,.bool s0,slice x0 n0 c0,slice y0 m0 d0] 57);rw[zv,zv]at this;exact this
 have b3:Bx4 ((((w.alloc (cells #[.bool s0,slice x0 n0 c0,slice y0 m0 d0] 24)).alloc (cells #[.int .i64 i1,.bool s1,slice x1 n1 c1,slice y1 m1 d1] 57)).alloc (cells #[.int .i64 i2,.bool s2,slice x2 n2 c2,slice y2 m2 d2] 57)).alloc (cells #[.int .i64 0,.bool s0,slice x0 n0 c0,slice y0 m0 d0] 57)) (w.heap.size+1+1+1) (.int .i64 0) (.bool s0) (slice x0 n0 c0) (slice y0 m0 d0):=by
  have:=zbn (((w.alloc (cells #[.bool s0,slice x0 n0 c0,slice y0 m0 d0] 24)).alloc (cells #[.int .i64 i1,.bool s1,slice x1 n1 c1,slice y1 m1 d1] 57)).alloc (cells #[.int .i64 i2,.bool s2,slice x2 n2 c2,slice y2 m2 d2] 57)) (.int .i64 0) (.bool s0) (slice x0 n0 c0) (slice y0 m0 d0) 57;rw[zv,zv,zv]at this;exact this
 have E0:=zi ((Rn.en0 h0).q_ k3);have E1:=zi (h1.q_ k3);have E2:=zi (h2.q_ k3);have HB:=zi k3;have B1:=zi b1;have B2:=zi b2;have B3:=zi b3
 clear h0 h1 h2 k3 b1 b2 b3;go_enter func74,ntmps74;go_upto_region 2 with fail
 generalize((((w.alloc (cells #[.bool s0,slice x0 n0 c0,slice y0 m0 d0] 24)).alloc (cells #[.int .i64 i1,.bool s1,slice x1 n1 c1,slice y1 m1 d1] 57)).alloc (cells #[.int .i64 i2,.bool s2,slice x2 n2 c2,slice y2 m2 d2] 57)).alloc (cells #[.int .i64 0,.bool s0,slice x0 n0 c0,slice y0 m0 d0] 57))=w1 at *;obtain⟨za,a0,a1,a2,a3⟩:=B3.out;obtain⟨zb,l0,l1,l2,l3⟩:=B1.out;go_wp2_with fail
 refine(zmd E0.out.rn.rw E1.out.rn.rw E0.out.rn.ln E0.out.rn.ld E1.out.rn.ln E1.out.rn.ld E0.out.ef E1.out.ef (λ_=>E0.out) (λ_=>E1.out)).mono ?_;rintro e w2 ⟨r1,er1,rfl,hb,HO1⟩;replace HB:=zM HB hb;replace E0:=zi (E0.out.q_ hb);replace E2:=zi (E2.out.q_ hb);replace B2:=zi (B2.out.q_ hb);replace B3:=zi (B3.out.q_ hb)
 clear hb za a0 a1 a2 a3 zb l0 l1 l2 l3 E1 B1;obtain⟨za,a0,a1,a2,a3⟩:=B3.out;obtain⟨zb,l0,l1,l2,l3⟩:=B2.out;go_wp2_with fail
 refine(zmd E0.out.rn.rw E2.out.rn.rw E0.out.rn.ln E0.out.rn.ld E2.out.rn.ln E2.out.rn.ld E0.out.ef E2.out.ef (λ_=>E0.out) (λ_=>E2.out)).mono ?_;rintro e w3 ⟨r2,er2,rfl,hb,HO2⟩;replace HB:=zM HB hb;clear hb za a0 a1 a2 a3 zb l0 l1 l2 l3 E0 E2 B2 B3;have o1:EOrd r1 0 q i1 q1:=by rcases HO1.out with⟨h,_⟩|⟨_,_,h⟩;cases h;exact h
 have o2:EOrd r2 0 q i2 q2:=by rcases HO2.out with⟨h,_⟩|⟨_,_,h⟩;cases h;exact h
 have HK:Hid (zhG q i1 q1 i2 q2=(decide (0<=r1) && decide (r2<=0))):=by
  show _=_;unfold zhG;rw[<-Bool.decide_and];exact decide_eq_decide.2 (and_congr o1.geq.symm o2.leq.symm)
 clear o1 o2 HO1 HO2;by_cases c1:0<=r1
 ·have d1:decide (0<=r1)=true:=decide_eq_true c1;have HD:=zi d1;by_cases c2:r2<=0
  ·have HD2:=zi (decide_eq_true c2);go_wp2;go_ret;exact⟨by rw[HK.out,HD.out,HD2.out];rfl,HB.out⟩
  ·have HD2:=zi (decide_eq_false c2);go_wp2;go_ret;exact⟨by rw[HK.out,HD.out,HD2.out];rfl,HB.out⟩
 ·have d1:decide (0<=r1)=false:=decide_eq_false c1;have HD:=zi d1;go_wp2;go_ret;exact⟨by rw[HK.out,HD.out];rfl,HB.out⟩
theorem zcl {w B base u0 u1 u2 x n c f} (h:Own .u64 47 w base (slice x n c) n f) (hB:B<base):Own .u64 47 (((w.setCell ⟨B,0,none⟩ u0).setCell ⟨B,1,none⟩ u1).setCell ⟨B,2,none⟩ u2) base (slice x n c) n f :=
 h.of (λa ha=>by
  have hne:a.block≠B:=by have:=(h.slice.2.2.2.2 a ha).1;omega
  rw[Below.heap_setCell _ _ _ _ hne,Below.heap_setCell _ _ _ _ hne,Below.heap_setCell _ _ _ _ hne])
theorem Dn.kp {w w' x n d V} (h:Dn w x n d V) (hk:Kp w w'):Dn w' x n d V:=⟨h.rd.kp hk,h.dg,h.fm,h.val⟩
theorem Qn.kp {w w' s x n d y m g q} (h:Qn w s x n d y m g q) (hk:Kp w w'):Qn w' s x n d y m g q:=⟨⟨h.num.dn.kp hk,h.num.sgn,h.num.pos⟩,h.den.kp hk⟩
def QnT (K:Nat) (w:World) (t:Nm) (q:Rat):Prop:=t.n<=K/\t.m<=K/\Qn w t.s t.x t.n t.f t.y t.m t.g q
theorem QnT.q_ {K w w' t q} (h:QnT K w t q) (hb:Bl w w'):QnT K w' t q:=⟨h.1,h.2.1,h.2.2.q_ hb⟩
theorem QnT.kp {K w w' t q} (h:QnT K w t q) (hk:Kp w w'):QnT K w' t q:=⟨h.1,h.2.1,h.2.2.kp hk⟩
theorem zdm {X X'}:∀{r i:Nat},(∀j,i<=j->j<i+r->Sn (X j) (X' j))->afr X' r i=afr X r i:=by
 intro r
 induction r with
 | zero=>intro i _;rfl
 | succ r ih =>
  intro i h;simp only[afr];rw[ih (λj a b=>h j (by omega) (by omega)),(h i (by omega) (by omega)).nfB]
theorem ziR {w ao k cap X} (h:Rl w ao k X) (hk:k<=10000) (hl:∀j,j<k->(X j).n<=1000/\(X j).m<=1000) :
  Calls prog 36 #[slice ao k cap] w λe w'=>e=.returned (.bool (afB k X))/\Bl w w':=by
 have H:=zi h;clear h;go_enter func36,ntmps36;go_wp2_with fail
 go_loopw[7] (λt wr=>∃(i:Nat),i<=k/\t=.int .i64 i/\Hid (Bl w wr)/\Hid (afB k X=afr X (k-i) i)) (λt _=>k-(intOf t).toNat)
 case atStart=>exact⟨0,by omega,rfl,Below.refl _ _,rfl⟩
 case round =>
  obtain⟨i,hi,rfl,HB,HT⟩:=hrel;by_cases hlt:i<k
  ·obtain⟨b,o,rfl,hc,hn,hn1,hn2⟩:=(H.out.q_ HB.out) i hlt;obtain⟨r,hr⟩:∃r,k-i=r+1:=⟨k-i-1,by omega⟩;have hT:afB k X=(nfB (X i) && afr X r (i+1)):=by rw[HT.out,hr];rfl
   have hr2:k-(i+1)=r:=by omega
   obtain⟨⟨s,x,n,c,f,y,m,d,g⟩,hTi⟩:∃t,X i=t:=⟨_,rfl⟩;rw[hTi]at hc hn hn1 hn2 hT
   obtain⟨x0,x1,x2⟩:=hc;replace x0:wr.cell? ⟨b,o+i*3,none⟩=some (.bool s):=x0;replace x1:wr.cell? ⟨b,o+i*3+1,none⟩=some (slice x n c):=x1;replace x2:wr.cell? ⟨b,o+i*3+2,none⟩=some (slice y m d):=x2;replace hn:Rw wr x n c f y m d g:=hn;replace hn1:n<=65536:=hn1;replace hn2:m<=65536:=hn2;have hblk:Bl wr (wr.alloc (cells #[.bool s,slice x n c,slice y m d] 24)):=zk (Below.refl _ _) _;obtain⟨hl1,hl2⟩:=hl i hlt;rw[hTi]at hl1 hl2
   have CF:=zi (ziC (s:=s) (hn.q_ hblk) hl1 hl2);have HTi:=zi hT;have HR2:=zi hr2
   have i1:((i:Nat):Int)<((k:Nat):Int):=by omega
   clear hT hr2 hTi hr hn hblk hl1 hl2;cases hf:rfB s f n g m
   ·have CF2:=CF;rw[hf]at CF2
    have HNF:Hid (nfB ⟨s,x,n,c,f,y,m,d,g⟩=false):=hf;clear CF hf;go_wp2_with fail
    refine CF2.out.mono ?_;rintro e w1 ⟨rfl,hb1⟩;obtain⟨_,_,_,_,hb2⟩:=zml hb1;go_wp2;go_ret;refine⟨?_,bUp HB.out hb2⟩;rw[HTi.out,HNF.out];rfl
   ·have CF2:=CF;rw[hf]at CF2
    have HNF:Hid (nfB ⟨s,x,n,c,f,y,m,d,g⟩=true):=hf;clear CF hf;go_wp2_with fail
    refine CF2.out.mono ?_;rintro e w1 ⟨rfl,hb1⟩;obtain⟨_,_,_,_,hb2⟩:=zml hb1;have HB2:=zM HB hb2;clear hb1 hb2;go_wp2;go_roundw
    case rel =>
     refine⟨i+1,by omega,by go_num,HB2.out,?_⟩;show _=_;rw[HTi.out,HNF.out,HR2.out];rfl
    case measure=>simp[intOf];omega
  ·have e1:i=k:=by omega
   have HTe:Hid (afB k X=true):=by
    show _=_;rw[HT.out,e1,Nat.sub_self];rfl
   have i2:¬(((i:Nat):Int)<((k:Nat):Int)):=by omega
   clear e1 HT;go_wp2;go_ret;refine⟨?_,HB.out⟩;rw[HTe.out];rfl
def zoe (w w':World) (e:Ending) (k:Nat) (X:Nat->Nm):Prop:=∃a c X',e=.returned (slice a k c)/\Bl w w'/\(k<=c/\c<=9223372036854775807)/\Hid ((Rl w' a k X'/\∀j,j<k->Sn (X j) (X' j))/\RowG 24 3 w.heap.size w' (slice a k c) k (zaG (rls k X')))
def TwsAnsB (base:Nat) (w w':World) (e:Ending) (k:Nat) (X:Nat->Nm):Prop:=∃a c X',e=.returned (slice a k c)/\Bl w w'/\(k<=c/\c<=9223372036854775807)/\Hid ((Rl w' a k X'/\∀j,j<k->Sn (X j) (X' j))/\∀b o s,a=some ⟨b,o,s⟩->base<=b)
theorem TwsAnsB.base {b b' w w' e k X} (h:TwsAnsB b w w' e k X) (hb:b'<=b):TwsAnsB b' w w' e k X:=by
 obtain⟨a,c,X',h1,h2,h3,h4⟩:=h;exact⟨a,c,X',h1,h2,h3,h4.out.1,λb o s e=>le_trans hb (h4.out.2 b o s e)⟩
theorem zna {w ao k cap X} (h:Rl w ao k X) (hk:k<=10000) (hl:∀j,j<k->(X j).n<=1000/\(X j).m<=1000) :
  Calls prog 25 #[slice ao k cap] w λe w'=>zoe w w' e k X:=by
 have H:=zi h;clear h;go_enter func25,ntmps25;go_wp2_with fail
 go_loopw[3,8] (λov t wr=>∃(i:Nat) (T':Nat->Nm),i<=k/\t=.int .i64 i/\Hid (Bl w wr)/\Hid (RowG 24 3 w.heap.size wr ov i (zaG (rls i T')))/\Hid (∀j,j<i->Sn (X j) (T' j)/\Rw wr (T' j).x (T' j).n (T' j).c (T' j).f (T' j).y (T' j).m (T' j).d (T' j).g)) (λ_ t _=>k-(intOf t).toNat)
 case atStart=>exact⟨0,X,by omega,rfl,Below.refl _ _,zaK _ _ _ _,λj hj=>by omega⟩
 case round =>
  obtain⟨i,T',hi,rfl,HB,HRow,HT⟩:=hrel;by_cases hlt:i<k
  ·obtain⟨b,o,hao,hc,hn,hn1,hn2⟩:=(H.out.q_ HB.out) i hlt;subst hao;obtain⟨⟨s,x,n,c,f,y,m,d,g⟩,hTi⟩:∃t,X i=t:=⟨_,rfl⟩;rw[hTi]at hc hn
   obtain⟨x0,x1,x2⟩:=hc;replace x0:wr.cell? ⟨b,o+i*3,none⟩=some (.bool s):=x0;replace x1:wr.cell? ⟨b,o+i*3+1,none⟩=some (slice x n c):=x1;replace x2:wr.cell? ⟨b,o+i*3+2,none⟩=some (slice y m d):=x2;have i1:((i:Nat):Int)<((k:Nat):Int):=by omega
   obtain⟨hn10,hm10⟩:=hl i hlt;rw[hTi]at hn10 hm10
   replace hn:Rw wr x n c f y m d g:=hn;have hb5:=zE wr (cells #[.bool s,slice x n c,slice y m d] 24);have HN:=zi (hn.q_ hb5);have HTi:=zi hTi;have HRow5:=zi (HRow.out.q_ hb5);have HB5:=zM HB hb5
   have HT5:Hid (∀j,j<i->Sn (X j) (T' j)/\Rw (wr.alloc (cells #[.bool s,slice x n c,slice y m d] 24)) (T' j).x (T' j).n (T' j).c (T' j).f (T' j).y (T' j).m (T' j).d (T' j).g):=λj hj=>⟨(HT.out j hj).1,(HT.out j hj).2.q_ hb5⟩
   clear hn hTi hb5 hn1 hn2;go_wp2_with fail
   clear x0 x1 x2 HB HRow HT;generalize wr.alloc (cells #[.bool s,slice x n c,slice y m d] 24)=w5 at *;refine(zci (s:=s) HN.out (le_trans hn10 (by decide)) (le_trans hm10 (by decide))).mono ?_;rintro e w6 ⟨z6,c6,z7,c7,rfl,hb6,HQ⟩;have HB6:=zM HB5 hb6;have HRow6:=zi (HRow5.out.q_ hb6)
   have HT6:Hid (∀j,j<i->Sn (X j) (T' j)/\Rw w6 (T' j).x (T' j).n (T' j).c (T' j).f (T' j).y (T' j).m (T' j).d (T' j).g):=λj hj=>⟨(HT5.out j hj).1,(HT5.out j hj).2.q_ hb6⟩
   have hsz:=HB6.out.size;clear hb6 HB5 HRow5 HT5 HN;go_wp2_with(at_builtin;go_must (refine zab w6 rfl (.tmp 12) (.tmp 15) 29 rfl w.heap.size 24 56 3 (.agg #[.bool false,slice none 0 0,slice none 0 0]) underlying29 zbv rfl (by decide) nz3 u3 i (zaG (rls i T')) rfl HRow6.out #[.bool s,slice z6 n c6,slice z7 m c7] rfl rfl (zgB _ _ _ _ _ _ _) (zeN _ _ _ _ _ _ _) ?p1 (by decide) hsz ?_))
   case p1=>omega
   intro g8 cap8 w8 hr8 hk8 hb8 hg8;have HB8:=zi (hb8 w HB6.out (le_refl _));have HR8:Hid (RowG 24 3 w.heap.size w8 (slice (some ⟨g8,0,none⟩) (i+1) cap8) (i+1) (zaG (rls (i+1) (zaS T' i ⟨s,z6,n,c6,f,z7,m,c7,g⟩)))):=by
    show RowG _ _ _ _ _ _ _;rw[zfE];exact hr8
   have HT8:Hid (∀j,j<i+1->Sn (X j) (zaS T' i ⟨s,z6,n,c6,f,z7,m,c7,g⟩ j)/\Rw w8 (zaS T' i ⟨s,z6,n,c6,f,z7,m,c7,g⟩ j).x (zaS T' i ⟨s,z6,n,c6,f,z7,m,c7,g⟩ j).n (zaS T' i ⟨s,z6,n,c6,f,z7,m,c7,g⟩ j).c (zaS T' i ⟨s,z6,n,c6,f,z7,m,c7,g⟩ j).f (zaS T' i ⟨s,z6,n,c6,f,z7,m,c7,g⟩ j).y (zaS T' i ⟨s,z6,n,c6,f,z7,m,c7,g⟩ j).m (zaS T' i ⟨s,z6,n,c6,f,z7,m,c7,g⟩ j).d (zaS T' i ⟨s,z6,n,c6,f,z7,m,c7,g⟩ j).g):=λj hj=>by
    by_cases e:j=i
    ·subst e;rw[zcj];rw[HTi.out];exact⟨⟨rfl,rfl,rfl,rfl,rfl⟩,Rw.kp HQ.out hk8⟩
    ·rw[putN_ne e];exact⟨(HT6.out j (by omega)).1,Rw.kp (HT6.out j (by omega)).2 hk8⟩
   clear hr8 hk8 hb8 hg8 HRow6 HT6 HB6 HQ hsz;go_wp2;go_roundw
   case rel=>exact⟨i+1,_,by omega,by go_num,HB8.out,HR8.out,HT8.out⟩
   case measure=>simp[intOf];omega
  ·have e1:i=k:=by omega
   have i1:¬(((i:Nat):Int)<((k:Nat):Int)):=by omega
   rw[e1]at HRow HT
   obtain⟨aw,cw,rfl⟩:=HRow.out.slice;have hcw:k<=cw/\cw<=9223372036854775807:=by
    rcases HRow.out.2 with⟨hv,h0⟩|⟨_,_,_,hv,_,_,h5,h6,_⟩
    ·cases hv;omega
    ·cases hv;unfold maxLen at h6;omega
   clear e1;go_wp2;go_ret;exact⟨aw,cw,T',rfl,HB.out,hcw,⟨(λj hj=>by obtain⟨b,hb,h4⟩:=zfD HRow.out hj;obtain⟨⟨_,e2,_,e4,_⟩,h6⟩:=HT.out j hj;exact⟨b,0,hb,h4,h6,by rw[e2];exact le_trans (hl j hj).1 (by decide),by rw[e4];exact le_trans (hl j hj).2 (by decide)⟩),λj hj=>(HT.out j hj).1⟩,HRow.out⟩
theorem zig {w ao k cap X} (h:Rl w ao k X) (hk:k<=10000) (hl:∀j,j<k->(X j).n<=1000/\(X j).m<=1000) :
  Calls prog 25 #[slice ao k cap] w λe w'=>TwsAnsB w.heap.size w w' e k X :=
 (zna h hk hl).mono λ_ _ ⟨a,c,X',h1,h2,h3,h4⟩=>⟨a,c,X',h1,h2,h3,h4.out.1,λb o s e=>(h4.out.2.lt b (by rw[e];rfl)).1⟩
def pnE (k:Nat) (X:Nat->Nm) (z:Int):Int:=if afB k X=true then (if (k:Int)=z then 0 else 7) else 3
theorem zaP {w ao k cap X z} (h:Rl w ao k X) (hk:k<=1048576) :
  Calls prog 33 #[slice ao k cap,.int .i64 z] w λe w'=>e=.returned (.int .i64 (pnE k X z))/\Bl w w':=by
 have H:=zi h;clear h;go_enter func33,ntmps33;go_wp2_with fail
 go_loopw[9] (λt wr=>∃(i:Nat),i<=k/\t=.int .i64 i/\Hid (Bl w wr)/\Hid (afB k X=afr X (k-i) i)) (λt _=>k-(intOf t).toNat)
 case atStart=>exact⟨0,by omega,rfl,Below.refl _ _,rfl⟩
 case round =>
  obtain⟨i,hi,rfl,HB,HT⟩:=hrel;by_cases hlt:i<k
  ·obtain⟨b,o,rfl,hc,hn,hn1,hn2⟩:=(H.out.q_ HB.out) i hlt;obtain⟨r,hr⟩:∃r,k-i=r+1:=⟨k-i-1,by omega⟩;have hT:afB k X=(nfB (X i) && afr X r (i+1)):=by rw[HT.out,hr];rfl
   have hr2:k-(i+1)=r:=by omega
   obtain⟨⟨s,x,n,c,f,y,m,d,g⟩,hTi⟩:∃t,X i=t:=⟨_,rfl⟩;rw[hTi]at hc hn hn1 hn2 hT
   obtain⟨x0,x1,x2⟩:=hc;replace x0:wr.cell? ⟨b,o+i*3,none⟩=some (.bool s):=x0;replace x1:wr.cell? ⟨b,o+i*3+1,none⟩=some (slice x n c):=x1;replace x2:wr.cell? ⟨b,o+i*3+2,none⟩=some (slice y m d):=x2;replace hn:Rw wr x n c f y m d g:=hn;replace hn1:n<=65536:=hn1;replace hn2:m<=65536:=hn2;have hblk:Bl wr (wr.alloc (cells #[.bool s,slice x n c,slice y m d] 24)):=zk (Below.refl _ _) _;have CF:=zi (zcP (s:=s) (hn.q_ hblk) (by omega) (by omega));have HTi:=zi hT;have HR2:=zi hr2
   have i1:((i:Nat):Int)<((k:Nat):Int):=by omega
   clear hT hr2 hTi hr hn hblk;cases hf:rfB s f n g m
   ·have CF2:=CF;rw[hf]at CF2
    have HNF:Hid (nfB ⟨s,x,n,c,f,y,m,d,g⟩=false):=hf;clear CF hf;go_wp2_with fail
    refine CF2.out.mono ?_;rintro e w1 ⟨rfl,hb1⟩;obtain⟨_,_,_,_,hb2⟩:=zml hb1;go_wp2;go_ret;refine⟨?_,bUp HB.out hb2⟩;rw[pnE,HTi.out,HNF.out];rfl
   ·have CF2:=CF;rw[hf]at CF2
    have HNF:Hid (nfB ⟨s,x,n,c,f,y,m,d,g⟩=true):=hf;clear CF hf;go_wp2_with fail
    refine CF2.out.mono ?_;rintro e w1 ⟨rfl,hb1⟩;obtain⟨_,_,_,_,hb2⟩:=zml hb1;have HB2:=zM HB hb2;clear hb1 hb2;go_wp2;go_roundw
    case rel =>
     refine⟨i+1,by omega,by go_num,HB2.out,?_⟩;show _=_;rw[HTi.out,HNF.out,HR2.out];rfl
    case measure=>simp[intOf];omega
  ·have e1:i=k:=by omega
   have HTe:Hid (afB k X=true):=by
    show _=_;rw[HT.out,e1,Nat.sub_self];rfl
   have i2:¬(((i:Nat):Int)<((k:Nat):Int)):=by omega
   clear e1 HT;by_cases hz:((k:Nat):Int)=z
   ·have hz1:(((k:Nat):Int) != z)=false:=by simpa using hz
    have HZ:=zi (show pnE k X z=0 by rw[pnE,HTe.out];simp[hz]);clear hz;go_wp2;go_ret;refine⟨?_,HB.out⟩;rw[HZ.out];rfl
   ·have hz1:(((k:Nat):Int) != z)=true:=by simpa using hz
    have HZ:=zi (show pnE k X z=7 by rw[pnE,HTe.out];simp[hz]);clear hz;go_wp2;go_ret;refine⟨?_,HB.out⟩;rw[HZ.out];rfl
def Dw (w:World) (base:Nat) (y:Option Addr) (m:Nat):Prop:=0<m->∃b,y=some ⟨b,0,none⟩/\base<=b/\(∃q,w.cell? ⟨b,0,none⟩=some (.int .u64 q))/\w.frozen? ⟨b,0,none⟩=false
theorem Dw.q_ {w w' base y m} (h:Dw w base y m) (hb:Bl w w'):Dw w' base y m:=λhm=>by
 obtain⟨b,h1,h2,⟨q,h3⟩,h4⟩:=h hm;obtain⟨_,h5⟩:=zau hb;exact⟨b,h1,h2,⟨q,kCb hb h3⟩,(h5 _ _ (block_lt_of_cell? w _ h3)).trans h4⟩
theorem zhB {w base y m d g} (h:Own .u64 47 w base (slice y m d) m g):Dw w base y m:=λhm=>by
 obtain⟨h1,h2⟩:=h;rcases h2 with⟨h3,h4⟩|⟨B,cap',cur,hv,hb,hg,hn,hmx,hs,ht⟩
 ·cases h3;omega
 ·cases hv
  refine⟨B,rfl,hb,⟨g 0,?_⟩,by simp[World.frozen?,hg]⟩;have h5:cur.toList[0]?=(lst .u64 g m)[0]?:=by rw[<-ht,List.getElem?_take,if_pos (by omega)]
  have h6:(lst .u64 g m)[0]?=some (.int .u64 (g 0)):=by
   obtain⟨m',rfl⟩:∃m',m=m'+1:=⟨m-1,by omega⟩;have hl:0<(lst .u64 g (m'+1)).length:=by rw[zK];omega
   obtain⟨u,hu⟩:∃u,(lst .u64 g (m'+1))[0]?=some u:=⟨_,getElem?_eq_getElem hl⟩;obtain⟨_,rfl⟩:=zcS hu;exact hu
  simp only[World.cell?,hg];simpa using h5.trans h6
theorem Dw.set {w base y m p u v} (h:Dw w base y m) (hp:w.cell? p=some v) (hv:∀i,v≠.int .u64 i):Dw (w.setCell p u) base y m:=λhm=>by
 obtain⟨b,h1,h2,⟨q,h3⟩,h4⟩:=h hm;refine⟨b,h1,h2,⟨q,?_⟩,kFs h4⟩;rw[World.cell?_setCell_other _ _ _ _ (λhe=>hv _ (Option.some.inj (hp.symm.trans (he ▸ h3))))];exact h3
def Dw2 (w:World) (base:Nat) (t:Nm):Prop:=Dw w base t.y t.m/\Dw w base t.x t.n
theorem Dw2.q_ {w w' base t} (h:Dw2 w base t) (hb:Bl w w'):Dw2 w' base t:=⟨h.1.q_ hb,h.2.q_ hb⟩
theorem Dw2.set {w base t p u v} (h:Dw2 w base t) (hp:w.cell? p=some v) (hv:∀i,v≠.int .u64 i):Dw2 (w.setCell p u) base t:=⟨h.1.set hp hv,h.2.set hp hv⟩
end Go.Proofs.YtgmmlmmahdnnhaaGreat
