/-
 Walks.
-/
import Derived.Test.YtlbgphjdibbkjaaGreatZ2
import Derived.Test.YtlbgphjdibbkjaaGreatZ3
import Derived.BigQuiet
import Derived.Deep.RegionHeld3
import Derived.Test.YtlbgphjdibbkjaaGreatZ0
import Derived.Deep.CutRange
set_option maxRecDepth 100000
set_option maxHeartbeats 16000000
namespace Go.Proofs.YtlbgphjdibbkjaaGreat
open Value (slice)
open Obj (cells)
open Nat (le_refl le_trans zero_add sub_self)
open World (cell?_of_block block_lt_of_cell?)
open List (getElem?_eq_getElem)
open Go.Proofs.Tryz
open Go.RowKit
theorem zbe (K:Nat) (s:Bool) (x y:Option Addr) (n c m d:Nat) (w:World) :
  Calls prog 22 #[.agg #[.bool s,slice x n c,slice y m d],.int .i64 K] w λe w'=>e=.returned (.bool (lg n m K))/\Bl w w':=by
 by_cases h1:n<=K
 ·have d1:decide ((n:Int)<=(K:Int))=true:=by simp;omega
  by_cases h2:m<=K
  ·have d2:decide ((m:Int)<=(K:Int))=true:=by simp;omega
   rw[show lg n m K=true by simp[lg,h1,h2]];go_enter func22,ntmps22;go_wp2;go_ret;exact⟨rfl,zu (Below.refl _ _) _⟩
  ·have d2:decide ((m:Int)<=(K:Int))=false:=by simp;omega
   rw[show lg n m K=false by simp[lg,h2]];go_enter func22,ntmps22;go_wp2;go_ret;exact⟨rfl,zu (Below.refl _ _) _⟩
 ·have d1:decide ((n:Int)<=(K:Int))=false:=by simp;omega
  rw[show lg n m K=false by simp[lg,h1]];go_enter func22,ntmps22;go_wp2;go_ret;exact⟨rfl,zu (Below.refl _ _) _⟩
def Tr (w:World) (ao:Option Addr) (k:Nat) (col:Nat->Int) (T:Nat->Nm):Prop :=
 ∀j,j<k->∃b o,ao=some ⟨b,o,none⟩/\C4 w b (o+j*4) (.int .i64 (col j)) (.bool (T j).s) (.slice (T j).x (T j).n (T j).c) (.slice (T j).y (T j).m (T j).d)/\Rw w (T j).x (T j).n (T j).c (T j).f (T j).y (T j).m (T j).d (T j).g
def Rr (w:World) (ao:Option Addr) (k:Nat) (X:Nat->Nm):Prop :=
 ∀j,j<k->∃b o,ao=some ⟨b,o,none⟩/\C3 w b (o+j*3) (.bool (X j).s) (.slice (X j).x (X j).n (X j).c) (.slice (X j).y (X j).m (X j).d)/\Rw w (X j).x (X j).n (X j).c (X j).f (X j).y (X j).m (X j).d (X j).g
theorem Tr.q_ {w w' ao k col T} (h:Tr w ao k col T) (hb:Bl w w'):Tr w' ao k col T:=λj hj=>by
 obtain⟨b,o,e,h1,h2⟩:=h j hj;exact⟨b,o,e,h1.q_ hb,h2.q_ hb⟩
theorem Rr.q_ {w w' ao k X} (h:Rr w ao k X) (hb:Bl w w'):Rr w' ao k X:=λj hj=>by
 obtain⟨b,o,e,h1,h2⟩:=h j hj;exact⟨b,o,e,h1.q_ hb,h2.q_ hb⟩
def nlg (K:Nat) (X:Nat->Nm):Nat->Nat->Bool
 | 0,_=>true
 | r+1,i=>lg (X i).n (X i).m K && nlg K X r (i+1)
theorem zgS {K X}:∀{r i:Nat},nlg K X r i=true->∀j,i<=j->j<i+r->(X j).n<=K/\(X j).m<=K:=by
 intro r
 induction r with
 | zero=>intro i _ j h1 h2;omega
 | succ r ih =>
  intro i h j hj hj2;simp only[nlg,lg,Bool.and_eq_true,decide_eq_true_eq]at h;by_cases e:j=i
  ·subst e;exact h.1
  ·exact ih h.2 j (by omega) (by omega)
theorem Tr.tl {w ao k col T K} (h:Tr w ao k col T) (hl:nlg K T k 0=true) (hK:K<=65536):Tl w ao k col T:=λj hj=>by
 obtain⟨b,o,e,h1,h2⟩:=h j hj;obtain⟨h3,h4⟩:=zgS hl j (by omega) (by omega);exact⟨b,o,e,h1,h2,by omega,by omega⟩
theorem Rr.rl {w ao k X K} (h:Rr w ao k X) (hl:nlg K X k 0=true) (hK:K<=65536):Rl w ao k X:=λj hj=>by
 obtain⟨b,o,e,h1,h2⟩:=h j hj;obtain⟨h3,h4⟩:=zgS hl j (by omega) (by omega);exact⟨b,o,e,h1,h2,by omega,by omega⟩
theorem zlp {w ao k cap X} (K:Nat) (h:Rr w ao k X) (hk:k<=9223372036854775807) :
  Calls prog 6 #[slice ao k cap,.int .i64 K] w λe w'=>e=.returned (.bool (decide (k<=300) && nlg K X k 0))/\Bl w w':=by
 have H:=zk h;clear h;by_cases h300:k<=300
 ·have i0:¬((300:Int)<((k:Nat):Int)):=by omega
  rw[show(decide (k<=300) && nlg K X k 0)=nlg K X k 0 by simp[h300]];go_enter func6,ntmps6;go_wp2_with fail
  go_loopw[12] (λt wr=>∃(i:Nat),i<=k/\t=.int .i64 i/\Hid (Bl w wr)/\Hid (nlg K X k 0=nlg K X (k-i) i)) (λt _=>k-(intOf t).toNat)
  case atStart=>exact⟨0,by omega,rfl,Below.refl _ _,rfl⟩
  case round =>
   obtain⟨i,hi,rfl,HB,HT⟩:=hrel;by_cases hlt:i<k
   ·obtain⟨b,o,rfl,hc,hn⟩:=(H.out.q_ HB.out) i hlt;obtain⟨r,hr⟩:∃r,k-i=r+1:=⟨k-i-1,by omega⟩;have hT:nlg K X k 0=(lg (X i).n (X i).m K && nlg K X r (i+1)):=by rw[HT.out,hr];rfl
    have hr2:k-(i+1)=r:=by omega
    obtain⟨⟨s,x,n,c,f,y,m,d,g⟩,hTi⟩:∃t,X i=t:=⟨_,rfl⟩;rw[hTi]at hc hn hT
    obtain⟨x0,x1,x2⟩:=hc;replace x0:wr.cell? ⟨b,o+i*3,none⟩=some (.bool s):=x0;replace x1:wr.cell? ⟨b,o+i*3+1,none⟩=some (slice x n c):=x1;replace x2:wr.cell? ⟨b,o+i*3+2,none⟩=some (slice y m d):=x2;have HTi:=zk hT;have HR2:=zk hr2
    have i1:((i:Nat):Int)<((k:Nat):Int):=by omega
    clear hT hr2 hTi hr hn;go_wp2_with fail
    refine(zbe K s x y n c m d _).mono ?_;rintro e w1 ⟨rfl,hb1⟩;obtain⟨_,_,_,_,hb2⟩:=znU hb1;have HB2:=zJ HB hb2;clear hb1 hb2;cases hf:lg n m K
    ·have HF:=zk hf;clear hf;go_wp2;go_ret;refine⟨?_,HB2.out⟩;rw[HTi.out];show _=Ending.returned (.bool (lg n m K && _));rw[HF.out];rfl
    ·have HF:=zk hf;clear hf;go_wp2;go_roundw
     case rel =>
      refine⟨i+1,by omega,by go_num,HB2.out,?_⟩;show _=_;rw[HTi.out,HR2.out];show(lg n m K && _)=_;rw[HF.out];rfl
     case measure=>simp[intOf];omega
   ·have e1:i=k:=by omega
    have HTe:Hid (nlg K X k 0=true):=by
     show _=_;rw[HT.out,e1,sub_self];rfl
    have i2:¬(((i:Nat):Int)<((k:Nat):Int)):=by omega
    clear e1 HT;go_wp2;go_ret;refine⟨?_,HB.out⟩;rw[HTe.out];rfl
 ·have i0:(300:Int)<((k:Nat):Int):=by omega
  rw[show(decide (k<=300) && nlg K X k 0)=false by simp[h300]];go_enter func6,ntmps6;go_wp2;go_ret;exact⟨rfl,Below.refl _ _⟩
def Cl0 (w:World) (ao:Option Addr) (k:Nat) (C:Nat->Lc):Prop:=∀j,j<k->∃b o,ao=some ⟨b,o,none⟩/\Cs w b (o+j*12) (C j).vs
def Rl0 (w:World) (ao:Option Addr) (k:Nat) (R:Nat->Lr):Prop:=∀j,j<k->∃b o,ao=some ⟨b,o,none⟩/\Cs w b (o+j*10) (R j).vs/\Tr w (R j).ta (R j).tk (R j).col (R j).T/\(R j).tk<=9223372036854775807
theorem Cl0.q_ {w w' ao k C} (h:Cl0 w ao k C) (hb:Bl w w'):Cl0 w' ao k C:=λj hj=>by
 obtain⟨b,o,e,h1⟩:=h j hj;exact⟨b,o,e,h1.q_ hb⟩
theorem Rl0.q_ {w w' ao k R} (h:Rl0 w ao k R) (hb:Bl w w'):Rl0 w' ao k R:=λj hj=>by
 obtain⟨b,o,e,h1,h2,h3⟩:=h j hj;exact⟨b,o,e,h1.q_ hb,h2.q_ hb,h3⟩
def lgN (K:Nat) (t:Nm):Bool:=lg t.n t.m K
def cl3 (K:Nat) (c:Lc):Bool:=lgN K c.cost && (lgN K c.lo.v && lgN K c.hi.v)
def rl3 (K:Nat) (r:Lr):Bool:=decide (r.tk<=300) && (lgN K r.lo.v && (lgN K r.hi.v && nlg K r.T r.tk 0))
def clgs (K:Nat) (C:Nat->Lc):Nat->Bool
 | 0=>true
 | i+1=>clgs K C i && cl3 K (C i)
def rlgs (K:Nat) (R:Nat->Lr):Nat->Bool
 | 0=>true
 | i+1=>rlgs K R i && rl3 K (R i)
def lgM (K:Nat) (M:Mo):Bool:=(decide (64<M.ck) || decide (64<M.rk)) || (lgN K M.off && (clgs K M.C M.ck && rlgs K M.R M.rk))
theorem znm {w M} {K:Nat} (hC:Cl0 w M.ca M.ck M.C) (hR:Rl0 w M.ra M.rk M.R):Calls prog 5 #[M.val,.int .i64 K] w λr w'=>r=.returned (.bool (lgM K M))/\Bl w w':=by
 obtain⟨⟨s,x,n,c,f,y,m,d,g⟩,ca,ck,cc,C,ra,rk,rc,R⟩:=M;have HC:Hid (Cl0 w ca ck C):=hC;have HRL:Hid (Rl0 w ra rk R):=hR;obtain⟨v0,hv0⟩:∃z,lgN K ⟨s,x,n,c,f,y,m,d,g⟩=z:=⟨_,rfl⟩;obtain⟨ans,hans⟩:∃z,lgM K ⟨⟨s,x,n,c,f,y,m,d,g⟩,ca,ck,cc,C,ra,rk,rc,R⟩=z:=⟨_,rfl⟩;rw[hans];have HA:=zk (show ans=((decide (64<ck) || decide (64<rk)) || (v0 && (clgs K C ck && rlgs K R rk)))from by rw[<-hans,<-hv0];rfl);have C0:Hid (∀w',Calls prog 22 #[.agg #[.bool s,slice x n c,slice y m d],.int .i64 K] w' λe w2=>e=.returned (.bool v0)/\Bl w' w2):=λw'=>hv0 ▸ zbe K s x y n c m d w'
 clear hv0 hans hC hR;show Calls prog 5 #[.agg #[.bool s,slice x n c,slice y m d,slice ca ck cc,slice ra rk rc],.int .i64 K] w _;by_cases h1:64<ck
 ·have HV:Hid (ans=true):=by show _=_;rw[HA.out];simp[h1]
  have e1:(ck:Int) > 64:=by omega
  clear HA h1;go_enter func5,ntmps5;go_wp2;go_ret;refine⟨?_,zu (Below.refl _ _) _⟩;rw[HV.out];rfl
 by_cases h2:64<rk
 ·have HV:Hid (ans=true):=by show _=_;rw[HA.out];simp[h2]
  have e1:¬(ck:Int) > 64:=by omega
  have e2:(rk:Int) > 64:=by omega
  clear HA h1 h2;go_enter func5,ntmps5;go_wp2;go_ret;refine⟨?_,zu (Below.refl _ _) _⟩;rw[HV.out];rfl
 have HV:Hid (ans=(v0 && (clgs K C ck && rlgs K R rk))):=by show _=_;rw[HA.out];simp[h1,h2]
 have e1:¬(ck:Int) > 64:=by omega
 have e2:¬(rk:Int) > 64:=by omega
 have l1:ck<=64:=by omega
 have l2:rk<=64:=by omega
 clear HA h1 h2;go_enter func5,ntmps5;go_wp2_with fail
 refine(C0.out _).mono ?_;rintro r w1 ⟨rfl,hb1⟩;have k3:=kCb hb1 (a:=⟨w.heap.size,3,none⟩) (v:=slice ca ck cc) (by simp[go_sem]);have HK4:=zk (kCb hb1 (a:=⟨w.heap.size,4,none⟩) (v:=slice ra rk rc) (by simp[go_sem]));have HB1:=zk ((zB w (cells #[.bool s,slice x n c,slice y m d,slice ca ck cc,slice ra rk rc] 28)).trans (hb1.mono (by simp)));clear hb1 C0;go_wp2_with fail
 go_loopw[5,28] (λov t wr=>∃(i:Nat) (v:Bool),i<=ck/\t=.int .i64 i/\ov=.bool v/\Hid (Bl w1 wr)/\Hid (v=(v0 && clgs K C i))) (λ_ t _=>ck-(intOf t).toNat)
 case atStart=>exact⟨0,v0,by omega,rfl,rfl,Below.refl _ _,by show _=_;simp[clgs]⟩
 case round =>
  obtain⟨i,v,hi,rfl,rfl,HB,HI⟩:=hrel;by_cases hlt:i<ck
  ·obtain⟨b,o,rfl,hc⟩:=(HC.out.q_ (bUp HB1.out HB.out)) i hlt;obtain⟨t1,ht1⟩:∃t,lgN K (C i).cost=t:=⟨_,rfl⟩;obtain⟨t2,ht2⟩:∃t,lgN K (C i).lo.v=t:=⟨_,rfl⟩;obtain⟨t3,ht3⟩:∃t,lgN K (C i).hi.v=t:=⟨_,rfl⟩;have HT:=zk (show(v0 && clgs K C (i+1))=(v && (t1 && (t2 && t3)))from by
    rw[HI.out,<-ht1,<-ht2,<-ht3];show(v0 && (clgs K C i && cl3 K (C i)))=_;rw[Bool.and_assoc];rfl)
   obtain⟨⟨z,⟨s0,x0,n0,c0,f0,y0,m0,d0,g0⟩,⟨i1,⟨s1,x1,n1,c1,f1,y1,m1,d1,g1⟩⟩,⟨i2,⟨s2,x2,n2,c2,f2,y2,m2,d2,g2⟩⟩⟩,hCi⟩:∃t,C i=t:=⟨_,rfl⟩;rw[hCi]at hc ht1 ht2 ht3
   have C1:Hid (∀w',Calls prog 22 #[.agg #[.bool s0,slice x0 n0 c0,slice y0 m0 d0],.int .i64 K] w' λe w2=>e=.returned (.bool t1)/\Bl w' w2):=λw'=>ht1 ▸ zbe K s0 x0 y0 n0 c0 m0 d0 w'
   have C2:Hid (∀w',Calls prog 22 #[.agg #[.bool s1,slice x1 n1 c1,slice y1 m1 d1],.int .i64 K] w' λe w2=>e=.returned (.bool t2)/\Bl w' w2):=λw'=>ht2 ▸ zbe K s1 x1 y1 n1 c1 m1 d1 w'
   have C3:Hid (∀w',Calls prog 22 #[.agg #[.bool s2,slice x2 n2 c2,slice y2 m2 d2],.int .i64 K] w' λe w2=>e=.returned (.bool t3)/\Bl w' w2):=λw'=>ht3 ▸ zbe K s2 x2 y2 n2 c2 m2 d2 w'
   obtain⟨q0,q1,q2,q3,q4,q5,q6,q7,q8,q9,q10,q11⟩:=hc.lc;have i1':((i:Nat):Int)<((ck:Nat):Int):=by omega
   have hb5:=zB wr (cells #[.string z,.bool s0,slice x0 n0 c0,slice y0 m0 d0,.int .i64 i1,.bool s1,slice x1 n1 c1,slice y1 m1 d1,.int .i64 i2,.bool s2,slice x2 n2 c2,slice y2 m2 d2] 60);have HB5:=zJ HB hb5;obtain⟨-,b1,b2,b3,-,b5,b6,b7,-,b9,b10,b11⟩:=zee (zF wr [.string z,.bool s0,slice x0 n0 c0,slice y0 m0 d0,.int .i64 i1,.bool s1,slice x1 n1 c1,slice y1 m1 d1,.int .i64 i2,.bool s2,slice x2 n2 c2,slice y2 m2 d2] 60);clear hCi ht1 ht2 ht3 hc hb5 HI;go_upto_region 7 with fail
   clear q0 q1 q2 q3 q4 q5 q6 q7 q8 q9 q10 q11 HB;generalize wr.alloc (cells #[.string z,.bool s0,slice x0 n0 c0,slice y0 m0 d0,.int .i64 i1,.bool s1,slice x1 n1 c1,slice y1 m1 d1,.int .i64 i2,.bool s2,slice x2 n2 c2,slice y2 m2 d2] 60)=w5 at *;cases v
   ·go_wp2;go_roundw
    case rel=>exact⟨i+1,false,by omega,by go_num,rfl,HB5.out,by show _=_;rw[HT.out];rfl⟩
    case measure=>simp[intOf];omega
   ·go_wp2_with fail
    refine(C1.out _).mono ?_;rintro r w6 ⟨rfl,hb6⟩;replace b5:=kCb hb6 b5;replace b6:=kCb hb6 b6;replace b7:=kCb hb6 b7;replace b9:=kCb hb6 b9;replace b10:=kCb hb6 b10;replace b11:=kCb hb6 b11;have HB6:=zJ HB5 hb6;clear hb6 C1 HB5;cases t1
    ·go_wp2;go_roundw
     case rel=>exact⟨i+1,false,by omega,by go_num,rfl,HB6.out,by show _=_;rw[HT.out];rfl⟩
     case measure=>simp[intOf];omega
    go_wp2_with fail
    refine(C2.out _).mono ?_;rintro r w7 ⟨rfl,hb7⟩;replace b9:=kCb hb7 b9;replace b10:=kCb hb7 b10;replace b11:=kCb hb7 b11;have HB7:=zJ HB6 hb7;clear hb7 C2 HB6;cases t2
    ·go_wp2;go_roundw
     case rel=>exact⟨i+1,false,by omega,by go_num,rfl,HB7.out,by show _=_;rw[HT.out];rfl⟩
     case measure=>simp[intOf];omega
    go_wp2_with fail
    refine(C3.out _).mono ?_;rintro r w8 ⟨rfl,hb8⟩;have HB8:=zJ HB7 hb8;clear hb8 C3 HB7;cases t3
    ·go_wp2;go_roundw
     case rel=>exact⟨i+1,false,by omega,by go_num,rfl,HB8.out,by show _=_;rw[HT.out];rfl⟩
     case measure=>simp[intOf];omega
    go_wp2;go_roundw
    case rel=>exact⟨i+1,true,by omega,by go_num,rfl,HB8.out,by show _=_;rw[HT.out];rfl⟩
    case measure=>simp[intOf];omega
  ·have e3:i=ck:=by omega
   have i2:¬(((i:Nat):Int)<((ck:Nat):Int)):=by omega
   have HV1:=zk (show ans=(v && rlgs K R rk)from by rw[HV.out,HI.out,e3,Bool.and_assoc]);have k4:=kCb HB.out HK4.out;have HB5:=zJ HB1 HB.out;clear e3 HB HC HK4 HB1 k3 HI HV;generalize wr=wa at *;go_wp2_with fail
   go_loopw[5,57] (λov t wr=>∃(i:Nat) (u:Bool),i<=rk/\t=.int .i64 i/\ov=.bool u/\Hid (Bl wa wr)/\Hid (u=(v && rlgs K R i))) (λ_ t _=>rk-(intOf t).toNat)
   case atStart=>exact⟨0,v,by omega,rfl,rfl,Below.refl _ _,by show _=_;simp[rlgs]⟩
   case round =>
    obtain⟨i,u,hi,rfl,rfl,HB,HI⟩:=hrel;by_cases hlt:i<rk
    ·obtain⟨b,o,rfl,hc,hTr,htk⟩:=(HRL.out.q_ (bUp HB5.out HB.out)) i hlt;obtain⟨t2,ht2⟩:∃t,lgN K (R i).lo.v=t:=⟨_,rfl⟩;obtain⟨t3,ht3⟩:∃t,lgN K (R i).hi.v=t:=⟨_,rfl⟩;have hT:(v && rlgs K R (i+1))=(u && (decide ((R i).tk<=300) && (t2 && (t3 && nlg K (R i).T (R i).tk 0)))):=by
      rw[HI.out,<-ht2,<-ht3];show(v && (rlgs K R i && rl3 K (R i)))=_;rw[Bool.and_assoc];rfl
     obtain⟨⟨z,⟨i1,⟨s1,x1,n1,c1,f1,y1,m1,d1,g1⟩⟩,⟨i2,⟨s2,x2,n2,c2,f2,y2,m2,d2,g2⟩⟩,ta,tk,tc,tcol,tt⟩,hCi⟩:∃t,R i=t:=⟨_,rfl⟩;rw[hCi]at hc ht2 ht3 hTr htk hT
     have HT:Hid ((v && rlgs K R (i+1))=(u && (decide (tk<=300) && (t2 && (t3 && nlg K tt tk 0))))):=hT;replace htk:tk<=9223372036854775807:=htk;have C2:Hid (∀w',Calls prog 22 #[.agg #[.bool s1,slice x1 n1 c1,slice y1 m1 d1],.int .i64 K] w' λe w2=>e=.returned (.bool t2)/\Bl w' w2):=λw'=>ht2 ▸ zbe K s1 x1 y1 n1 c1 m1 d1 w'
     have C3:Hid (∀w',Calls prog 22 #[.agg #[.bool s2,slice x2 n2 c2,slice y2 m2 d2],.int .i64 K] w' λe w2=>e=.returned (.bool t3)/\Bl w' w2):=λw'=>ht3 ▸ zbe K s2 x2 y2 n2 c2 m2 d2 w'
     obtain⟨q0,q1,q2,q3,q4,q5,q6,q7,q8,q9⟩:=hc.lr;have i1':((i:Nat):Int)<((rk:Nat):Int):=by omega
     have hb5:=zB wr (cells #[.string z,.int .i64 i1,.bool s1,slice x1 n1 c1,slice y1 m1 d1,.int .i64 i2,.bool s2,slice x2 n2 c2,slice y2 m2 d2,slice ta tk tc] 63);have HB6:=zJ HB hb5;have HTr:Hid (Tr (wr.alloc (cells #[.string z,.int .i64 i1,.bool s1,slice x1 n1 c1,slice y1 m1 d1,.int .i64 i2,.bool s2,slice x2 n2 c2,slice y2 m2 d2,slice ta tk tc] 63)) ta tk tcol tt):=Tr.q_ hTr hb5;obtain⟨-,-,b2,b3,b4,-,b6,b7,b8,b9⟩:=zef (zF wr [.string z,.int .i64 i1,.bool s1,slice x1 n1 c1,slice y1 m1 d1,.int .i64 i2,.bool s2,slice x2 n2 c2,slice y2 m2 d2,slice ta tk tc] 63);clear hCi ht2 ht3 hc hb5 HI hTr hT;go_upto_region 12 with fail
     clear q0 q1 q2 q3 q4 q5 q6 q7 q8 q9 HB;generalize wr.alloc (cells #[.string z,.int .i64 i1,.bool s1,slice x1 n1 c1,slice y1 m1 d1,.int .i64 i2,.bool s2,slice x2 n2 c2,slice y2 m2 d2,slice ta tk tc] 63)=w5 at *;cases u
     ·go_wp2_with fail
      go_loopw[5,10] (λov t wz=>t=.int .i64 0/\ov=.bool false/\wz=w5) (λ_ _ _=>0)
      case atStart=>exact⟨rfl,rfl,rfl⟩
      case round =>
       obtain⟨rfl,rfl,rfl⟩:=hrel;go_wp2;go_roundw
       case rel=>exact⟨i+1,false,by omega,by go_num,rfl,HB6.out,by show _=_;rw[HT.out];simp⟩
       case measure=>simp[intOf];omega
     by_cases hd:tk<=300
     case neg =>
      have d1:decide ((tk:Int)<=300)=false:=by simp;omega
      have HD:=zk (show decide (tk<=300)=false from by simp;omega);clear hd;rw[HD.out]at HT
      go_wp2_with fail
      go_loopw[5,10] (λov t wz=>t=.int .i64 0/\ov=.bool false/\wz=w5) (λ_ _ _=>0)
      case atStart=>exact⟨rfl,rfl,rfl⟩
      case round =>
       obtain⟨rfl,rfl,rfl⟩:=hrel;go_wp2;go_roundw
       case rel=>exact⟨i+1,false,by omega,by go_num,rfl,HB6.out,by show _=_;rw[HT.out];simp⟩
       case measure=>simp[intOf];omega
     have d1:decide ((tk:Int)<=300)=true:=by simp;omega
     have HD:=zk (show decide (tk<=300)=true from by simp;omega);rw[HD.out]at HT
     go_wp2_with fail
     refine(C2.out _).mono ?_;rintro r w7 ⟨rfl,hb7⟩;replace b6:=kCb hb7 b6;replace b7:=kCb hb7 b7;replace b8:=kCb hb7 b8;replace b9:=kCb hb7 b9
     have HB7:=zJ HB6 hb7;replace HTr:=zk (HTr.out.q_ hb7);clear hb7 C2 HB6;cases t2
     ·go_wp2_with fail
      go_loopw[5,10] (λov t wz=>t=.int .i64 0/\ov=.bool false/\wz=w7) (λ_ _ _=>0)
      case atStart=>exact⟨rfl,rfl,rfl⟩
      case round =>
       obtain⟨rfl,rfl,rfl⟩:=hrel;go_wp2;go_roundw
       case rel=>exact⟨i+1,false,by omega,by go_num,rfl,HB7.out,by show _=_;rw[HT.out];simp⟩
       case measure=>simp[intOf];omega
     go_wp2_with fail
     refine(C3.out _).mono ?_;rintro r w8 ⟨rfl,hb8⟩;replace b9:=kCb hb8 b9;have HB8:=zJ HB7 hb8;replace HTr:=zk (HTr.out.q_ hb8);clear hb8 C3 HB7 b6 b7 b8 b2 b3 b4;cases t3
     ·go_wp2_with fail
      go_loopw[5,10] (λov t wz=>t=.int .i64 0/\ov=.bool false/\wz=w8) (λ_ _ _=>0)
      case atStart=>exact⟨rfl,rfl,rfl⟩
      case round =>
       obtain⟨rfl,rfl,rfl⟩:=hrel;go_wp2;go_roundw
       case rel=>exact⟨i+1,false,by omega,by go_num,rfl,HB8.out,by show _=_;rw[HT.out];simp⟩
       case measure=>simp[intOf];omega
     go_wp2_with fail
     go_loopw[5,10] (λov t wz=>∃(k:Nat) (vv:Bool),k<=tk/\t=.int .i64 k/\ov=.bool vv/\Hid (Bl w8 wz)/\Hid ((vv && nlg K tt (tk-k) k)=nlg K tt tk 0)) (λ_ t _=>tk-(intOf t).toNat)
     case atStart=>exact⟨0,true,by omega,rfl,rfl,Below.refl _ _,by show _=_;simp⟩
     case round =>
      rename_i wz0 _ _ _ _ _;obtain⟨k,vv,hk,rfl,rfl,HBz,HK⟩:=hrel;have b9z:=kCb HBz.out b9;have HBo:=zJ HB8 HBz.out;cases vv
      ·have HU:=zk (show nlg K tt tk 0=false from by rw[<-HK.out];rfl);clear HK HBz;go_wp2;go_roundw
       case rel=>exact⟨i+1,false,by omega,by go_num,rfl,HBo.out,by show _=_;rw[HT.out,HU.out];simp⟩
       case measure=>simp[intOf];omega
      ·by_cases hkt:k<tk
       ·obtain⟨tb,tq,hta,⟨_,g1',g2',g3'⟩,_⟩:=(HTr.out.q_ HBz.out) k hkt;obtain⟨⟨sn,xn,nn,cn,fn,yn,mn,dn',gn⟩,hTk⟩:∃t,tt k=t:=⟨_,rfl⟩;obtain⟨t5,ht5⟩:∃t,lg (tt k).n (tt k).m K=t:=⟨_,rfl⟩;obtain⟨r,hr⟩:∃r,tk-k=r+1:=⟨tk-k-1,by omega⟩;have HN:=zk (show(t5 && nlg K tt (tk-(k+1)) (k+1))=nlg K tt tk 0 from by
         rw[<-HK.out,hr,show tk-(k+1)=r by omega,<-ht5];rfl)
        rw[hTk]at g1' g2' g3' ht5
        subst hta;have C5:Hid (∀w',Calls prog 22 #[.agg #[.bool sn,slice xn nn cn,slice yn mn dn'],.int .i64 K] w' λe w2=>e=.returned (.bool t5)/\Bl w' w2):=λw'=>ht5 ▸ zbe K sn xn yn nn cn mn dn' w'
        have i5:((k:Nat):Int)<((tk:Nat):Int):=by omega
        clear hTk ht5 hr HK;go_wp2_with fail
        refine(C5.out _).mono ?_;rintro r w9 ⟨rfl,hb9⟩;have HB9:=zJ HBz hb9;clear hb9 HBz C5 HBo;go_wp2;go_roundw
        case rel=>exact⟨k+1,t5,by omega,by go_num,rfl,HB9.out,HN.out⟩
        case measure=>simp[intOf];omega
       ·have e5:k=tk:=by omega
        have HU:=zk (show nlg K tt tk 0=true from by rw[<-HK.out,e5,sub_self];rfl);have i5:¬(((k:Nat):Int)<((tk:Nat):Int)):=by omega
        clear HK HBz e5;go_wp2;go_roundw
        case rel=>exact⟨i+1,true,by omega,by go_num,rfl,HBo.out,by show _=_;rw[HT.out,HU.out];simp⟩
        case measure=>simp[intOf];omega
    ·have e3:i=rk:=by omega
     have i2:¬(((i:Nat):Int)<((rk:Nat):Int)):=by omega
     have HV2:=zk (show ans=u from by rw[HV1.out,HI.out,e3]);have HB6:=zJ HB5 HB.out;clear e3 HB HI;go_wp2;go_ret;refine⟨?_,HB6.out⟩;rw[HV2.out];rfl
def Sn (t t':Nm):Prop:=t'.s=t.s/\t'.n=t.n/\t'.f=t.f/\t'.m=t.m/\t'.g=t.g
theorem Sn.nfB {t t':Nm} (h:Sn t t'):nfB t'=nfB t:=by
 obtain⟨h1,h2,h3,h4,h5⟩:=h;unfold Go.Proofs.YtlbgphjdibbkjaaGreat.nfB;rw[h1,h2,h3,h4,h5]
theorem zqN {col T T'}:∀{r i:Nat} {last:Int},(∀j,i<=j->j<i+r->Sn (T j) (T' j))->tfr col T' r i last=tfr col T r i last:=by
 intro r
 induction r with
 | zero=>intro i last _;rfl
 | succ r ih =>
  intro i last h;have h0:=h i (by omega) (by omega);simp only[tfr];rw[ih (λj a b=>h j (by omega) (by omega)),h0.nfB,h0.2.1]
theorem zaW {P} (w:World) {ops o a K Q E} (hgd:o.guard=none) (s x:Operand) (t:TypeId) (ho:o.op=.call { callee:=.builtin .append,args:=#[s,x],argTypes:=#[t,t] }) (base:Nat) (e:TypeId) (i:TypeInfo) (z:Value) (size bytes:Nat) (ht:P.underlying t=some (.slice e)) (hi:P.info? e=some i) (hz:i.zero=some z) (hsize:i.size=size) (hby:i.bytes=bytes) (hzs:z.cells.size=size) (hsz:0<size) (hzu:NoU z.cells) (v:Value) (n:Nat) (xs:List Value) (hs:a.eval s=v) (hown:RowG e size base w v n xs) (ad:Addr) (m c:Nat) (news:List Value) (hx:a.eval x=slice (some ad) m c) (hl:news.length=m*size) (hnews:∀j u,news[j]?=some u->w.cell? (ad.add j)=some u) (h1:∀u ∈ news,u.oneCell'=true) (hnu:∀u ∈ news,∀z,u≠.int .u64 z) (hm0:0<m) (h63:n+m<=maxLen) (hbytes:(n+m)*bytes<=140737488355328) (hbase:base<=w.heap.size) (hK:∀g cap' w',RowG e size base w' (slice (some ⟨g,0,none⟩) (n+m) cap') (n+m) (xs++news)->w.grownBy w' v.ownBlock->Kp w w'->(v.ownBlock=some g∨w.heap.size<=g)->K (a.put o.dst (slice (some ⟨g,0,none⟩) (n+m) cap')) w'):if Region.wanted o (yielded ops a.tmps)=true then Oper.wp P o a w K Q else E:=by
 subst hsize;subst hby
 obtain⟨v',w',hrun,h1',h2',h3'⟩:=run_append_own (P:=P) w base t o.type e i z i.size i.bytes ht hi hz rfl rfl hzs hsz v n xs hown.owns ad m c news hl hnews h1 h63 hbytes hbase;have hlen:(xs++news).length=(n+m)*i.size:=by rw[List.length_append,hown.1,hl,Nat.add_mul]
 have hzc:∀k,NoU (Builtin.zeroCells z.cells k):=by
  intro k j y hj;simp only[Builtin.zeroCells]at hj;have hm:=Array.mem_of_getElem? hj;obtain⟨q,_,he⟩:=Array.mem_map.1 hm;have hlt:q%z.cells.size<z.cells.size:=Nat.mod_lt _ (by omega);rw[getElem!_pos z.cells (q%z.cells.size) hlt]at he
  exact hzu (q%z.cells.size) y (by rw[Array.getElem?_eq_getElem hlt,he])
 have hnu':NoU news.toArray:=zaa hnu;have hw:∃g cap' cur',v'=slice (some ⟨g,0,none⟩) (n+m) cap'/\base<=g/\w'.heap[g]?=some (cells cur' e (0,0))/\n+m<=cap'/\cap'<=maxLen/\cur'.size=cap'*i.size/\cur'.toList.take ((n+m)*i.size)=xs++news/\NoU cur'/\Kp w w'/\(v.ownBlock=some g∨w.heap.size<=g):=by
  have hsm:n+m<=9223372036854775807:=by unfold maxLen at h63;omega
  rcases h1'.2 with⟨hv0,hn0⟩|⟨g',cap',cur',hv',hb',hg',hn',hc',hs',ht'⟩
  ·omega
  ·refine⟨g',cap',cur',hv',hb',hg',hn',hc',hs',ht',?_⟩;rcases hown.2 with⟨rfl,rfl⟩|⟨g,cap,cur,rfl,hbg,hg,hnc,hcm,hcs,htake,hnuc⟩
   ·have hx0:xs=[]:=List.eq_nil_of_length_eq_zero (by simpa using hown.1);subst hx0;have e1:=run_append_nil (P:=P) w t o.type e i z ht hi hz ad m c news hl hnews hm0 (by omega) (by rw[zero_add]at hbytes;omega);rw[e1]at hrun
    injection hrun with e2 e3;subst e3;rw[hv']at e2
    injection e2 with e4;injection e4 with e5;injection e5 with e6;subst e6;have e7:=heap_alloc_new w.drew (cells (news.toArray++Builtin.zeroCells z.cells (grownCap w m 0 e-m)) e);rw[show w.heap.size=w.drew.heap.size from rfl,e7]at hg'
    injection hg' with e8;injection e8 with e9;rw[<-e9];exact⟨zan hnu' (hzc _),(Kp.refl w).drew.alloc _,.inr (le_refl _)⟩
   ·by_cases hroom:n+m<=cap
    ·have e1:=run_append_room (P:=P) w t o.type e i ht hi g n cap cur hg ad m c news hl hnews h1 hroom (by rw[hl,hcs,<-Nat.add_mul];exact Nat.mul_le_mul_right _ hroom);rw[e1]at hrun
     injection hrun with e2 e3;rw[hv']at e2
     injection e2 with e4;injection e4 with e5;injection e5 with e6;subst e6;have e7:w'.heap[g]?=some (cells (cur.toList.take (n*i.size)++news++cur.toList.drop (n*i.size+news.length)).toArray e (0,0)):=by rw[<-e3];exact setRow_heap w g cur _ e _ hg
     rw[e7]at hg'
     injection hg' with e8;injection e8 with e9;rw[<-e9];refine⟨zaa ?_,⟨h2'.os,h2'.tape,h2'.output,h2'.size,λk hk=>?_⟩,.inl rfl⟩
     ·intro u hu;rcases List.mem_append.1 hu with hu|hu
      ·rcases List.mem_append.1 hu with hu|hu
       ·exact zbb hnuc u (List.mem_of_mem_take hu)
       ·exact hnu u hu
      ·exact zbb hnuc u (List.mem_of_mem_drop hu)
     ·by_cases hkg:k=g
      ·subst hkg;exact .inr ⟨cur,e,(0,0),hg,hnuc⟩
      ·exact .inl (h2'.block k hk (λe=>hkg (by simpa[Value.ownBlock]using e)))
    ·have holds:∀j u,xs[j]?=some u->w.cell? ((⟨g,0,none⟩:Addr).add j)=some u:=World.ownsRow.cells hown.owns (g:=g) rfl;have e1:=run_append_grow (P:=P) w t o.type e i z ht hi hz ⟨g,0,none⟩ n cap xs hown.1 holds ad m c news hl hnews (by omega) (by omega) (growslice_fits (by omega) hbytes);rw[e1]at hrun
     injection hrun with e2 e3;subst e3;rw[hv']at e2
     injection e2 with e4;injection e4 with e5;injection e5 with e6;subst e6;have e7:=heap_alloc_new w.drew (cells (xs.toArray++news.toArray++Builtin.zeroCells z.cells (grownCap w (n+m) cap e-(n+m))) e);rw[show w.heap.size=w.drew.heap.size from rfl,e7]at hg'
     injection hg' with e8;injection e8 with e9;rw[<-e9];refine⟨zan (zan (zaa ?_) hnu') (hzc _),(Kp.refl w).drew.alloc _,.inr (le_refl _)⟩;intro u hu;rw[<-htake]at hu
     exact zbb hnuc u (List.mem_of_mem_take hu)
 obtain⟨g,cap',cur',rfl,a1,a2,a3,a4,a5,a6,a7,a8,a9⟩:=hw;have hwt:Region.wanted o (yielded ops a.tmps)=true:=by simp[Region.wanted,hgd]
 rw[if_pos hwt];unfold Oper.wp execOp;simp only[ho,resolve,invoke,builtin,Sem.run_bind,Sem.run_pure,Result.andThen_ok,List.map_toArray,List.map_cons,List.map_nil,hs,hx,hrun];exact hK g cap' w' ⟨hlen,.inr ⟨g,cap',cur',rfl,a1,a2,a3,a4,a5,a6,a7⟩⟩ h2' a8 a9
theorem zeo {P} (w:World) {ops rest o a Q} (hgd:o.guard=none) (s x:Operand) (t:TypeId) (ho:o.op=.call { callee:=.builtin .append,args:=#[s,x],argTypes:=#[t,t] }) (base:Nat) (e:TypeId) (i:TypeInfo) (z:Value) (size bytes:Nat) (ht:P.underlying t=some (.slice e)) (hi:P.info? e=some i) (hz:i.zero=some z) (hsize:i.size=size) (hby:i.bytes=bytes) (hzs:z.cells.size=size) (hsz:0<size) (hzu:NoU z.cells) (v:Value) (n:Nat) (xs:List Value) (hs:a.eval s=v) (hown:RowG e size base w v n xs) (ad:Addr) (m c:Nat) (news:List Value) (hx:a.eval x=slice (some ad) m c) (hl:news.length=m*size) (hnews:∀j u,news[j]?=some u->w.cell? (ad.add j)=some u) (h1:∀u ∈ news,u.oneCell'=true) (hnu:∀u ∈ news,∀z,u≠.int .u64 z) (hm0:0<m) (h63:n+m<=maxLen) (hbytes:(n+m)*bytes<=140737488355328) (hbase:base<=w.heap.size) (hK:∀g cap' w',RowG e size base w' (slice (some ⟨g,0,none⟩) (n+m) cap') (n+m) (xs++news)->w.grownBy w' v.ownBlock->Kp w w'->(v.ownBlock=some g∨w.heap.size<=g)->wpList P ops Q rest (a.put o.dst (slice (some ⟨g,0,none⟩) (n+m) cap')) w'):wpList P ops Q (o :: rest) a w:=by
 subst hsize;subst hby
 obtain⟨v',w',hrun,h1',h2',h3'⟩:=run_append_own (P:=P) w base t o.type e i z i.size i.bytes ht hi hz rfl rfl hzs hsz v n xs hown.owns ad m c news hl hnews h1 h63 hbytes hbase;have hlen:(xs++news).length=(n+m)*i.size:=by rw[List.length_append,hown.1,hl,Nat.add_mul]
 have hzc:∀k,NoU (Builtin.zeroCells z.cells k):=by
  intro k j y hj;simp only[Builtin.zeroCells]at hj;have hm:=Array.mem_of_getElem? hj;obtain⟨q,_,he⟩:=Array.mem_map.1 hm;have hlt:q%z.cells.size<z.cells.size:=Nat.mod_lt _ (by omega);rw[getElem!_pos z.cells (q%z.cells.size) hlt]at he
  exact hzu (q%z.cells.size) y (by rw[Array.getElem?_eq_getElem hlt,he])
 have hnu':NoU news.toArray:=zaa hnu;have hw:∃g cap' cur',v'=slice (some ⟨g,0,none⟩) (n+m) cap'/\base<=g/\w'.heap[g]?=some (cells cur' e (0,0))/\n+m<=cap'/\cap'<=maxLen/\cur'.size=cap'*i.size/\cur'.toList.take ((n+m)*i.size)=xs++news/\NoU cur'/\Kp w w'/\(v.ownBlock=some g∨w.heap.size<=g):=by
  have hsm:n+m<=9223372036854775807:=by unfold maxLen at h63;omega
  rcases h1'.2 with⟨hv0,hn0⟩|⟨g',cap',cur',hv',hb',hg',hn',hc',hs',ht'⟩
  ·omega
  ·refine⟨g',cap',cur',hv',hb',hg',hn',hc',hs',ht',?_⟩;rcases hown.2 with⟨rfl,rfl⟩|⟨g,cap,cur,rfl,hbg,hg,hnc,hcm,hcs,htake,hnuc⟩
   ·have hx0:xs=[]:=List.eq_nil_of_length_eq_zero (by simpa using hown.1);subst hx0;have e1:=run_append_nil (P:=P) w t o.type e i z ht hi hz ad m c news hl hnews hm0 (by omega) (by rw[zero_add]at hbytes;omega);rw[e1]at hrun
    injection hrun with e2 e3;subst e3;rw[hv']at e2
    injection e2 with e4;injection e4 with e5;injection e5 with e6;subst e6;have e7:=heap_alloc_new w.drew (cells (news.toArray++Builtin.zeroCells z.cells (grownCap w m 0 e-m)) e);rw[show w.heap.size=w.drew.heap.size from rfl,e7]at hg'
    injection hg' with e8;injection e8 with e9;rw[<-e9];exact⟨zan hnu' (hzc _),(Kp.refl w).drew.alloc _,.inr (le_refl _)⟩
   ·by_cases hroom:n+m<=cap
    ·have e1:=run_append_room (P:=P) w t o.type e i ht hi g n cap cur hg ad m c news hl hnews h1 hroom (by rw[hl,hcs,<-Nat.add_mul];exact Nat.mul_le_mul_right _ hroom);rw[e1]at hrun
     injection hrun with e2 e3;rw[hv']at e2
     injection e2 with e4;injection e4 with e5;injection e5 with e6;subst e6;have e7:w'.heap[g]?=some (cells (cur.toList.take (n*i.size)++news++cur.toList.drop (n*i.size+news.length)).toArray e (0,0)):=by rw[<-e3];exact setRow_heap w g cur _ e _ hg
     rw[e7]at hg'
     injection hg' with e8;injection e8 with e9;rw[<-e9];refine⟨zaa ?_,⟨h2'.os,h2'.tape,h2'.output,h2'.size,λk hk=>?_⟩,.inl rfl⟩
     ·intro u hu;rcases List.mem_append.1 hu with hu|hu
      ·rcases List.mem_append.1 hu with hu|hu
       ·exact zbb hnuc u (List.mem_of_mem_take hu)
       ·exact hnu u hu
      ·exact zbb hnuc u (List.mem_of_mem_drop hu)
     ·by_cases hkg:k=g
      ·subst hkg;exact .inr ⟨cur,e,(0,0),hg,hnuc⟩
      ·exact .inl (h2'.block k hk (λe=>hkg (by simpa[Value.ownBlock]using e)))
    ·have holds:∀j u,xs[j]?=some u->w.cell? ((⟨g,0,none⟩:Addr).add j)=some u:=World.ownsRow.cells hown.owns (g:=g) rfl;have e1:=run_append_grow (P:=P) w t o.type e i z ht hi hz ⟨g,0,none⟩ n cap xs hown.1 holds ad m c news hl hnews (by omega) (by omega) (growslice_fits (by omega) hbytes);rw[e1]at hrun
     injection hrun with e2 e3;subst e3;rw[hv']at e2
     injection e2 with e4;injection e4 with e5;injection e5 with e6;subst e6;have e7:=heap_alloc_new w.drew (cells (xs.toArray++news.toArray++Builtin.zeroCells z.cells (grownCap w (n+m) cap e-(n+m))) e);rw[show w.heap.size=w.drew.heap.size from rfl,e7]at hg'
     injection hg' with e8;injection e8 with e9;rw[<-e9];refine⟨zan (zan (zaa ?_) hnu') (hzc _),(Kp.refl w).drew.alloc _,.inr (le_refl _)⟩;intro u hu;rw[<-htake]at hu
     exact zbb hnuc u (List.mem_of_mem_take hu)
 obtain⟨g,cap',cur',rfl,a1,a2,a3,a4,a5,a6,a7,a8,a9⟩:=hw;refine wpList_plain hgd λ_ hK'=>?_
 unfold Oper.wp execOp;simp only[ho,resolve,invoke,builtin,Sem.run_bind,Sem.run_pure,Result.andThen_ok,List.map_toArray,List.map_cons,List.map_nil,hs,hx,hrun];exact hK' _ _ (hK g cap' w' ⟨hlen,.inr ⟨g,cap',cur',rfl,a1,a2,a3,a4,a5,a6,a7⟩⟩ h2' a8 a9)
theorem zaj {P} (w0:World) {ops o a K Q E} (hgd:o.guard=none) (s x:Operand) (t:TypeId) (ho:o.op=.call { callee:=.builtin .append,args:=#[s,x],argTypes:=#[t,t] }) (base:Nat) (e:TypeId) (bytes sz:Nat) (z:Value) (ht:P.underlying t=some (.slice e)) (hi:(P.info? e).map (λi=>(i.zero,i.size,i.bytes))=some (some z,sz,bytes)) (hzs:z.cells.size=sz) (hsz:0<sz) (hzu:NoU z.cells) (v:Value) (n:Nat) (xs:List Value) (hs:a.eval s=v) (hown:RowG e sz base w0 v n xs) (c:Array Value) (hx:a.eval x=slice (some ⟨w0.heap.size,0,none⟩) 1 1) (hc:c.size=sz) (h1:∀u ∈ c.toList,u.oneCell'=true) (hnu:∀u ∈ c.toList,∀q,u≠.int .u64 q) (hn:n+1<=9223372036854775807) (hby:(n+1)*bytes<=140737488355328) (hbase:base<=w0.heap.size) (hK:∀g cap' w',RowG e sz base w' (slice (some ⟨g,0,none⟩) (n+1) cap') (n+1) (xs++c.toList)->Kp w0 w'->(∀b0:World,Bl b0 w0->b0.heap.size<=base->Bl b0 w')->(∀k,k<w0.heap.size->v.ownBlock≠some k->w'.heap[k]?=w0.heap[k]?)->(v.ownBlock=some g∨w0.heap.size<=g)->K (a.put o.dst (slice (some ⟨g,0,none⟩) (n+1) cap')) w'):if Region.wanted o (yielded ops a.tmps)=true then Oper.wp P o a (w0.alloc (cells c e)) K Q else E:=by
 obtain⟨i,hi,hz0,hz1,hz2⟩:=info_parts hi;have hal:=zB w0 (cells c e);have hblk:=heap_alloc_new w0 (cells c e);have hrow:=hown.q_ hal;refine zaW (w0.alloc (cells c e)) hgd s x t ho base e i z sz bytes ht hi hz0 hz1 hz2 hzs hsz hzu v n xs hs hrow ⟨w0.heap.size,0,none⟩ 1 1 c.toList hx (by simp[hc]) (λj u hu=>?_) h1 hnu (by decide) (by unfold maxLen;omega) ?_ (by simp;omega) ?_
 ·rw[addr_add,zero_add];simp only[World.cell?,hblk];simpa using hu
 ·exact hby
 ·intro g cap' w' hr hgr hkp hwh;refine hK g cap' w' hr ((Kp.of_below hal).trans hkp) (λb0 hb hle=>?_) (λk hk hne=>(hgr.block k (by simp;omega) (λe=>hne e.symm)).trans (hal.block k hk)) (hwh.imp id (λh=>by simp at h;omega));have h2:Bl b0 (w0.alloc (cells c e)):=bUp hb hal;exact h2.grown hgr (by have:=hb.size;simp;omega) (λk hk=>by have:=(hrow.lt k hk).1;omega)
theorem zaf {P} (w0:World) {ops rest o a Q} (hgd:o.guard=none) (s x:Operand) (t:TypeId) (ho:o.op=.call { callee:=.builtin .append,args:=#[s,x],argTypes:=#[t,t] }) (base:Nat) (e:TypeId) (bytes sz:Nat) (z:Value) (ht:P.underlying t=some (.slice e)) (hi:(P.info? e).map (λi=>(i.zero,i.size,i.bytes))=some (some z,sz,bytes)) (hzs:z.cells.size=sz) (hsz:0<sz) (hzu:NoU z.cells) (v:Value) (n:Nat) (xs:List Value) (hs:a.eval s=v) (hown:RowG e sz base w0 v n xs) (c:Array Value) (hx:a.eval x=slice (some ⟨w0.heap.size,0,none⟩) 1 1) (hc:c.size=sz) (h1:∀u ∈ c.toList,u.oneCell'=true) (hnu:∀u ∈ c.toList,∀q,u≠.int .u64 q) (hn:n+1<=9223372036854775807) (hby:(n+1)*bytes<=140737488355328) (hbase:base<=w0.heap.size) (hK:∀g cap' w',RowG e sz base w' (slice (some ⟨g,0,none⟩) (n+1) cap') (n+1) (xs++c.toList)->Kp w0 w'->(∀b0:World,Bl b0 w0->b0.heap.size<=base->Bl b0 w')->(∀k,k<w0.heap.size->v.ownBlock≠some k->w'.heap[k]?=w0.heap[k]?)->(v.ownBlock=some g∨w0.heap.size<=g)->wpList P ops Q rest (a.put o.dst (slice (some ⟨g,0,none⟩) (n+1) cap')) w'):wpList P ops Q (o :: rest) a (w0.alloc (cells c e)):=by
 obtain⟨i,hi,hz0,hz1,hz2⟩:=info_parts hi;have hal:=zB w0 (cells c e);have hblk:=heap_alloc_new w0 (cells c e);have hrow:=hown.q_ hal;refine zeo (w0.alloc (cells c e)) hgd s x t ho base e i z sz bytes ht hi hz0 hz1 hz2 hzs hsz hzu v n xs hs hrow ⟨w0.heap.size,0,none⟩ 1 1 c.toList hx (by simp[hc]) (λj u hu=>?_) h1 hnu (by decide) (by unfold maxLen;omega) ?_ (by simp;omega) ?_
 ·rw[addr_add,zero_add];simp only[World.cell?,hblk];simpa using hu
 ·exact hby
 ·intro g cap' w' hr hgr hkp hwh;refine hK g cap' w' hr ((Kp.of_below hal).trans hkp) (λb0 hb hle=>?_) (λk hk hne=>(hgr.block k (by simp;omega) (λe=>hne e.symm)).trans (hal.block k hk)) (hwh.imp id (λh=>by simp at h;omega));have h2:Bl b0 (w0.alloc (cells c e)):=bUp hb hal;exact h2.grown hgr (by have:=hb.size;simp;omega) (λk hk=>by have:=(hrow.lt k hk).1;omega)
def zsG (w w':World) (e:Ending) (k:Nat) (col:Nat->Int) (T:Nat->Nm):Prop:=∃aw cw T',e=.returned (slice aw k cw)/\Bl w w'/\(k<=cw/\cw<=9223372036854775807)/\(∀b o s,aw=some ⟨b,o,s⟩->w.heap.size<=b)/\Hid (Tr w' aw k col T'/\∀j,j<k->Sn (T j) (T' j))
theorem zmj {w ao k cap col T} (h:Tr w ao k col T) (hk:k<=2199023255552) (hl:∀j,j<k->(T j).n<=17592186044416/\(T j).m<=17592186044416) :
  Calls prog 25 #[slice ao k cap] w λe w'=>zsG w w' e k col T:=by
 have H:=zk h;clear h;go_enter func25,ntmps25;go_wp2_with fail
 go_loopw[3,8] (λov t wr=>∃(i:Nat) (T':Nat->Nm),i<=k/\t=.int .i64 i/\Hid (Bl w wr)/\Hid (RowG 65 4 w.heap.size wr ov i (zaL (tls i col T')))/\Hid (∀j,j<i->Sn (T j) (T' j)/\Rw wr (T' j).x (T' j).n (T' j).c (T' j).f (T' j).y (T' j).m (T' j).d (T' j).g)) (λ_ t _=>k-(intOf t).toNat)
 case atStart=>exact⟨0,T,by omega,rfl,Below.refl _ _,zak _ _ _ _,λj hj=>by omega⟩
 case round =>
  obtain⟨i,T',hi,rfl,HB,HRow,HT⟩:=hrel;by_cases hlt:i<k
  ·obtain⟨b,o,rfl,hc,hn⟩:=(H.out.q_ HB.out) i hlt;obtain⟨⟨s,x,n,c,f,y,m,d,g⟩,hTi⟩:∃t,T i=t:=⟨_,rfl⟩;rw[hTi]at hc hn
   obtain⟨z,hz⟩:∃z,col i=z:=⟨_,rfl⟩;rw[hz]at hc
   obtain⟨x0,x1,x2,x3⟩:=hc;replace x0:wr.cell? ⟨b,o+i*4,none⟩=some (.int .i64 z):=x0;replace x1:wr.cell? ⟨b,o+i*4+1,none⟩=some (.bool s):=x1;replace x2:wr.cell? ⟨b,o+i*4+2,none⟩=some (slice x n c):=x2;replace x3:wr.cell? ⟨b,o+i*4+3,none⟩=some (slice y m d):=x3;have i1:((i:Nat):Int)<((k:Nat):Int):=by omega
   obtain⟨hn10,hm10⟩:=hl i hlt;rw[hTi]at hn10 hm10
   have HN:=zk hn;have HZ:=zk hz;have HTi:=zk hTi
   clear hn hz hTi;go_upto_region 5 with fail
   have hb5:=zB wr (cells #[.int .i64 z,.bool s,slice x n c,slice y m d] 65);obtain⟨a0,a1,a2,a3⟩:=bk4 (zF wr [.int .i64 z,.bool s,slice x n c,slice y m d] 65);have hne:u3.ownBlock≠some wr.heap.size:=λe=>by have:=(HRow.out.lt _ e).2;omega
   replace HN:=zk (HN.out.q_ hb5);replace HRow:=zk (HRow.out.q_ hb5)
   replace HT:Hid (∀j,j<i->Sn (T j) (T' j)/\Rw (wr.alloc (cells #[.int .i64 z,.bool s,slice x n c,slice y m d] 65)) (T' j).x (T' j).n (T' j).c (T' j).f (T' j).y (T' j).m (T' j).d (T' j).g):=λj hj=>⟨(HT.out j hj).1,(HT.out j hj).2.q_ hb5⟩
   replace HB:=zJ HB hb5;clear x0 x1 x2 x3 hb5;have hsz:w.heap.size<=(wr.alloc (cells #[.int .i64 z,.bool s,slice x n c,slice y m d] 65)).heap.size:=HB.out.size;generalize wr.alloc (cells #[.int .i64 z,.bool s,slice x n c,slice y m d] 65)=w5 at *;have CT:Hid (∀W,Bl w5 W->Calls prog 23 #[.agg #[.bool s,slice x n c,slice y m d]] W λe w'=>∃z6 c6 z7 c7,e=.returned (.agg #[.bool s,slice z6 n c6,slice z7 m c7])/\Bl W w'/\Hid (Rw w' z6 n c6 f z7 m c7 g)):=λW hW=>zdB (HN.out.q_ hW) hn10 hm10
   go_region_held3 (λw'=>w'.cell? ⟨wr.heap.size,0,none⟩=some (.int .i64 z)/\w'.cell? ⟨wr.heap.size,1,none⟩=some (.bool s)/\w'.cell? ⟨wr.heap.size,2,none⟩=some (slice x n c)/\w'.cell? ⟨wr.heap.size,3,none⟩=some (slice y m d))
    (refine⟨?_,?_,?_,?_⟩ <;> repeat(with_reducible first|assumption|refine kCd ?_|refine kCa ?_|refine kCb (by assumption) ?_))
    (first
     | (go_at_call 23;with_reducible refine(CT.out _ zai).mono ?_;rintro e w6 ⟨z6,c6,z7,c7,rfl,hb6,HQ⟩;have B6:Bl w5 w6:=zai;have HRow6:=HRow.out.q_ B6;have hz6:w.heap.size<=w6.heap.size:=le_trans hsz B6.size;have a06:=kCb B6 a0;have a16:=kCb B6 a1;have a26:=kCb B6 a2;have a36:=kCb B6 a3;have hlt6:=block_lt_of_cell? w6 _ a06)
     | (refine zaj w6 rfl (.tmp 12) (.tmp 19) 61 rfl w.heap.size 65 64 4 (.agg #[.int .i64 0,.bool false,slice none 0 0,slice none 0 0]) underlying61 znv rfl (by decide) nz4 u3 i (zaL (tls i col T')) rfl HRow6 #[.int .i64 z,.bool s,slice z6 n c6,slice z7 m c7] rfl rfl (zpj _ _ _ _ _ _ _ _) (zlt _ _ _ _ _ _ _ _) ?p1 ?p2 hz6 ?_;(case p1=>omega);(case p2=>omega);intro g8 cap8 w8 hr8 hk8 hb8 hg8 _;have h88:=hg8 wr.heap.size hlt6 hne;have a08:=(cell?_of_block (a:=⟨wr.heap.size,0,none⟩) h88).trans a06;have a18:=(cell?_of_block (a:=⟨wr.heap.size,1,none⟩) h88).trans a16;have a28:=(cell?_of_block (a:=⟨wr.heap.size,2,none⟩) h88).trans a26;have a38:=(cell?_of_block (a:=⟨wr.heap.size,3,none⟩) h88).trans a36))
   all_goals
    (have HB8:=zk (hb8 w (bUp HB.out B6) (le_refl _))
     have HR8:Hid (RowG 65 4 w.heap.size w8 (slice (some ⟨g8,0,none⟩) (i+1) cap8) (i+1) (zaL (tls (i+1) col (zaD T' i ⟨s,z6,n,c6,f,z7,m,c7,g⟩)))):=by
      show RowG _ _ _ _ _ _ _;rw[zgy,HZ.out];exact hr8
     have HT8:Hid (∀j,j<i+1->Sn (T j) (zaD T' i ⟨s,z6,n,c6,f,z7,m,c7,g⟩ j)/\Rw w8 (zaD T' i ⟨s,z6,n,c6,f,z7,m,c7,g⟩ j).x (zaD T' i ⟨s,z6,n,c6,f,z7,m,c7,g⟩ j).n (zaD T' i ⟨s,z6,n,c6,f,z7,m,c7,g⟩ j).c (zaD T' i ⟨s,z6,n,c6,f,z7,m,c7,g⟩ j).f (zaD T' i ⟨s,z6,n,c6,f,z7,m,c7,g⟩ j).y (zaD T' i ⟨s,z6,n,c6,f,z7,m,c7,g⟩ j).m (zaD T' i ⟨s,z6,n,c6,f,z7,m,c7,g⟩ j).d (zaD T' i ⟨s,z6,n,c6,f,z7,m,c7,g⟩ j).g):=λj hj=>by
      by_cases e:j=i
      ·subst e;rw[zbs,HTi.out];exact⟨⟨rfl,rfl,rfl,rfl,rfl⟩,Rw.kp HQ.out hk8⟩
      ·rw[putN_ne e];exact⟨(HT.out j (by omega)).1,Rw.kp ((HT.out j (by omega)).2.q_ B6) hk8⟩
     clear hr8 hk8 hb8 hg8 h88 a08 a18 a28 a38 a06 a16 a26 a36 hlt6 hne HRow6 B6 hb6 HQ HRow HT HB CT a0 a1 a2 a3 HN hz6;go_wp2;go_roundw
     case rel=>exact⟨i+1,_,by omega,by go_num,HB8.out,HR8.out,HT8.out⟩
     case measure=>simp[intOf];omega)
  ·have e1:i=k:=by omega
   have i1:¬(((i:Nat):Int)<((k:Nat):Int)):=by omega
   rw[e1]at HRow HT
   obtain⟨aw,cw,rfl⟩:=HRow.out.slice;have hcw:k<=cw/\cw<=9223372036854775807:=by
    rcases HRow.out.2 with⟨hv,h0⟩|⟨_,_,_,hv,_,_,h5,h6,_⟩
    ·cases hv;omega
    ·cases hv;unfold maxLen at h6;omega
   clear e1;go_wp2;go_ret;exact⟨aw,cw,T',rfl,HB.out,hcw,(λb o s e=>(HRow.out.lt b (by rw[e];rfl)).1),(λj hj=>by obtain⟨b,hb,h4⟩:=zgE HRow.out hj;exact⟨b,0,hb,h4,(HT.out j hj).2⟩),λj hj=>(HT.out j hj).1⟩
def zmT (V:Nat->Value) (i:Nat) (t:Value):Nat->Value:=λj=>if j=i then t else V j
theorem zcO (T:Nat->Value) (i:Nat) (t:Value):zmT T i t i=t:=by simp[zmT]
theorem zcg {T i j t} (h:j≠i):zmT T i t j=T j:=by simp[zmT,h]
theorem zcu {P} (w:World) {ops rest o a Q} (hg:o.guard=none) (l c:Operand) (t:TypeId) (hop:o.op=Op.makeSlice t l c) (e:TypeId) (bytes:Nat) (h1:P.underlying t=some (.slice e)) (h2:(P.info? e).map (λi=>(i.zero,i.size,i.bytes))=some (some (slice none 0 0),1,bytes)) (kl kc:IntKind) (L C:Int) (n:Nat) (hl:a.eval l=.int kl L) (hc:a.eval c=.int kc C) (hL:L=(n:Int)) (hC:C=(n:Int)) (b2:bytes*n<=281474976710656) (b3:n<=maxLen) (hK:∀w',(∃cur,w'.heap[w.heap.size]?=some (cells cur e (0,0))/\cur.size=n/\NoU cur/\∀j,j<n->cur[j]?=some (slice none 0 0))->Bl w w'->wpList P ops Q rest (a.put o.dst (slice (some ⟨w.heap.size,0,none⟩) n n)) w') :
  wpList P ops Q (o :: rest) a w:=by
 obtain⟨i,hi,hz0,hz1,hz2⟩:=info_parts h2;refine wpList_make_full w hg l c t hop w.heap.size e i _ 1 h1 hi hz0 hz1 kl kc L C n hl hc hL hC (by rw[hz2];exact b2) b3 (le_refl _) ?_;intro w' hown hgr;refine hK w' ?_ ((Below.refl _ _).grown hgr (le_refl _) (λk h=>by cases h));obtain⟨h1,h2⟩:=hown;rcases h2 with⟨hv,_⟩|⟨g,cap,cur,hv,hb,hg,hn,hm2,hs,ht⟩
 ·cases hv
 ·cases hv
  have hcz:(Value.slice none 0 0).cells=#[Value.slice none 0 0]:=rfl;have hs':cur.size=n:=by omega
  have hall:∀j,j<n->cur[j]?=some (slice none 0 0):=λj hj=>by
   have h3:cur.toList[j]?=(madeCells (Value.slice none 0 0).cells (n*1)).toList[j]?:=by rw[<-ht,List.getElem?_take,if_pos (by omega)]
   have h4:(madeCells (Value.slice none 0 0).cells (n*1))[j]?=some (slice none 0 0):=by simp[madeCells,hcz,hj,Nat.mod_one]
   simpa using h3.trans (by simpa using h4)
  refine⟨cur,hg,hs',λj z=>?_,hall⟩;by_cases hj:j<n
  ·rw[hall j hj];simp
  ·rw[Array.getElem?_eq_none (by omega)];simp
theorem zeZ {col T}:∀{r i:Nat} {last:Int},tfr col T r i last=true->∀p,i<=p->p<i+r->last<col p/\col p<=col (i+r-1)
 | 0,i,last,_,p,h1,h2=>by omega
 | r+1,i,last,h,p,h1,h2=>by
  simp only[tfr,Bool.and_eq_true,decide_eq_true_eq]at h;obtain⟨ha,_,_,hb⟩:=h;cases r with
  | zero =>
   obtain rfl:p=i:=by omega
   exact⟨ha,by simp⟩
  | succ r =>
   have e:i+(r+1+1)-1=i+1+(r+1)-1:=by omega
   have hn:=zeZ hb (i+1) (by omega) (by omega);rw[e];by_cases hp:p=i
   ·subst hp;exact⟨ha,by omega⟩
   ·have:=zeZ hb p (by omega) (by omega);exact⟨by omega,this.2⟩
theorem zjA {k R}:∀{r i:Nat},alB k R r i=true->∀j,i<=j->j<i+r->lastB k (R j)=true
 | 0,i,_,j,h1,h2=>by omega
 | r+1,i,h,j,h1,h2=>by
  simp only[alB,Bool.and_eq_true]at h;by_cases e:j=i
  ·subst e;exact h.1
  ·exact zjA h.2 j (by omega) (by omega)
theorem zkM {k r} (h1:tfB r.tk r.col r.T=true) (h2:lastB k r=true):∀p,p<r.tk->0<=r.col p/\r.col p<k:=λp hp=>by
 have h3:=zeZ h1 p (by omega) (by omega);simp only[lastB,Bool.or_eq_true,decide_eq_true_eq]at h2;rw[zero_add]at h3
 rcases h2 with h2|h2 <;> omega
def zkG (ops:Array Oper) (j:Nat):Option Tmp:=(ops[j]?).bind (·.dst)
def depsOf (md:Region.Mode) (ops:Array Oper) (i:Nat):List Nat:=match ops[i]? with
 | none=>[]
 | some o=>(o.after.toList.filter (Region.binds md)).map (·.on)
def zhr (md:Region.Mode) (ops:Array Oper):Nat->List Nat->List Nat
 | 0,_=>[]
 | n+1,l=>(l.flatMap (depsOf md ops)).eraseDups++zhr md ops n (l.flatMap (depsOf md ops)).eraseDups
def fill (a:Act) (D:List (Nat × Tmp)) (u:Nat->Value):Act:=D.foldl (λa p=>a.put (some p.2) (u p.1)) a
theorem zbl:(∀{a:Act} {p:Nat × Tmp} {D:List (Nat × Tmp)} {u:Nat->Value},fill a (p :: D) u=fill (a.put (some p.2) (u p.1)) D u)/\(∀{a:Act} {u:Nat->Value},fill a [] u=a):=⟨rfl,rfl⟩
def zpv (a:Act) (D:List (Nat × Tmp)) (j:Nat):Value:=match D.lookup j with
 | some d=>a.tmps.getD d undef
 | none=>undef
def zgv (u:Nat->Value) (i:Nat) (v:Value):Nat->Value:=λj=>if j=i then v else u j
theorem zjK (u:Nat->Value) (i:Nat) (v:Value):zgv u i v i=v:=by simp[zgv]
theorem zgu {u i j v} (h:j≠i):zgv u i v j=u j:=by simp[zgv,h]
theorem zmQ (a:Act) (d:Tmp) (x y:Value):(a.put (some d) x).put (some d) y=a.put (some d) y:=by
 simp[Act.put]
theorem zlr (a:Act) {d e} (h:d≠e) (x y:Value):(a.put (some d) x).put (some e) y=(a.put (some e) y).put (some d) x:=by
 simp only[Act.put]
 congr 1
 exact Array.setIfInBounds_comm _ _ h
theorem zmR (a:Act) (d:Tmp):a.put (some d) (a.tmps.getD d undef)=a:=by
 obtain⟨t,ds⟩:=a;simp only[Act.put]
 congr 1
 apply Array.ext_getElem?;intro i;rw[Array.getElem?_setIfInBounds]
 split
 ·rename_i h;subst h
  split
  ·rename_i h2;simp[h2]
  ·rename_i h2;rw[Array.getElem?_eq_none (by omega)]
 ·rfl
theorem zjl {D d u} (v:Value):∀{a:Act},d ∉ D.map Prod.snd->(fill a D u).put (some d) v=fill (a.put (some d) v) D u:=by
 induction D with
 | nil=>intro a _;rfl
 | cons p D ih =>
  intro a h;simp only[List.map_cons,List.mem_cons,not_or]at h;show(fill (a.put (some p.2) (u p.1)) D u).put (some d) v=fill ((a.put (some d) v).put (some p.2) (u p.1)) D u;rw[ih h.2,zlr a (Ne.symm h.1)]
theorem zjm {D u u'}:∀{a:Act},(∀p,p ∈ D->u p.1=u' p.1)->fill a D u=fill a D u':=by
 induction D with
 | nil=>intro a _;rfl
 | cons p D ih =>
  intro a h;show fill (a.put (some p.2) (u p.1)) D u=fill (a.put (some p.2) (u' p.1)) D u';rw[h p (by simp),ih (λq hq=>h q (by simp[hq]))]
theorem znG {D i d u} (v:Value):∀{a:Act},(D.map Prod.fst).Nodup->(D.map Prod.snd).Nodup->(i,d) ∈ D->(fill a D u).put (some d) v=fill a D (zgv u i v):=by
 induction D with
 | nil=>intro a _ _ h;cases h
 | cons p D ih =>
  intro a h1 h2 h;simp only[List.map_cons,List.nodup_cons]at h1 h2;show(fill (a.put (some p.2) (u p.1)) D u).put (some d) v=fill (a.put (some p.2) (zgv u i v p.1)) D (zgv u i v);by_cases e:p.1=i
  ·have hp:p=(i,d):=by
    rcases List.mem_cons.1 h with h|h
    ·exact h.symm
    ·exact absurd (by rw[e];exact List.mem_map_of_mem (f:=Prod.fst) h) h1.1
   subst hp;rw[zjl v h2.1,zmQ,zjK];exact zjm (λq hq=>(zgu (λe=>h1.1 (by show i ∈ _;rw[<-e];exact List.mem_map_of_mem (f:=Prod.fst) hq))).symm)
  ·have hm:(i,d) ∈ D:=by
    rcases List.mem_cons.1 h with h|h
    ·exact absurd (by rw[<-h]) e
    ·exact h
   rw[ih h1.2 h2.2 hm,zgu e]
theorem zlG {D u a} (h:∀p,p ∈ D->u p.1=a.tmps.getD p.2 undef):fill a D u=a:=by
 induction D with
 | nil=>rfl
 | cons p D ih =>
  show fill (a.put (some p.2) (u p.1)) D u=a;rw[h p (by simp),zmR];exact ih (λq hq=>h q (by simp[hq]))
theorem zpu {D a}:(D.map Prod.fst).Nodup->∀p,p ∈ D->zpv a D p.1=a.tmps.getD p.2 undef:=by
 intro hn p hp;have:D.lookup p.1=some p.2:=by
  induction D with
  | nil=>cases hp
  | cons x D ih =>
   simp only[List.map_cons,List.nodup_cons]at hn;rcases List.mem_cons.1 hp with rfl|hp
   ·simp[List.lookup]
   ·have hne:p.1≠x.1:=λe=>hn.1 (e ▸ List.mem_map_of_mem (f:=Prod.fst) hp)
    rw[List.lookup];have:(p.1==x.1)=false:=by simpa using hne
    rw[this];exact ih hn.2 hp
 unfold zpv;rw[this]
def zjS (ops:Array Oper) (D:List (Nat × Tmp)) (F:List Nat):Bool:=(D.map Prod.fst==F) && decide (D.map Prod.snd).Nodup && D.all (λp=>zkG ops p.1==some p.2)
def znF (md:Region.Mode) (ops:Array Oper) (listed:Array Bool) (F st:List Nat):Bool :=
 listed.size==ops.size && F.Nodup &&
 (List.range ops.size).all (λi=>!(listed.getD i false) || (depsOf md ops i).all (λj=>listed.getD j false)) &&
 F.all (λi=>!(listed.getD i true) && decide (i<ops.size) && !(st.contains i) && (depsOf md ops i).all (λj=>decide (j<i) && (listed.getD j false || F.contains j))) &&
 (List.range ops.size).all (λi=>listed.getD i false || F.contains i || st.contains i) &&
 st.all (λs=>!(listed.getD s true) && ((depsOf md ops s).any (λj=>st.contains j) || F.all (λj=>(zhr md ops ops.size [s]).contains j)))
def zfw (ops:Array Oper) (st:List Nat):Array Bool:=((List.range ops.size).map (λi=>!(st.contains i))).toArray
theorem mem_deps {md ops i j}:j ∈ depsOf md ops i ↔ ∃o,ops[i]?=some o/\∃e,e ∈ o.after/\Region.binds md e=true/\e.on=j:=by
 unfold depsOf;cases h:ops[i]? with
 | none=>simp
 | some o=>simp[and_assoc]
theorem zcp {md ops} {listed:Array Bool} (hc:∀i j,listed.getD i false=true->j ∈ depsOf md ops i->listed.getD j false=true) :
  ∀(n:Nat) (l:List Nat),(∀i,i ∈ l->∀j,j ∈ depsOf md ops i->listed.getD j false=true)->∀j,j ∈ zhr md ops n l->listed.getD j false=true
 | 0,_,_,j,h=>by simp[zhr]at h
 | n+1,l,hl,j,h=>by
  have h1:∀k,k ∈ (l.flatMap (depsOf md ops)).eraseDups->listed.getD k false=true:=λk hk=>by
   rw[List.mem_eraseDups,List.mem_flatMap]at hk
   obtain⟨i,hi,hki⟩:=hk;exact hl i hi k hki
  simp only[zhr,List.mem_append]at h;rcases h with h|h
  ·exact h1 j h
  ·exact zcp hc n _ (λi hi k hk=>hc i k (h1 i hi) hk) j h
theorem zcU {l:Array Bool} {i} (h:i<l.size):l.getD i true=l.getD i false:=by simp[Array.getD,h]
def left (listed:Array Bool):List Nat->Nat
 | []=>0
 | x :: F=>(if listed.getD x false=true then 0 else 1)+left listed F
theorem zhX {listed i} (hi:i<listed.size) (hl:listed.getD i false=false):∀{F:List Nat},F.Nodup->left listed F=left (listed.setIfInBounds i true) F+(if i ∈ F then 1 else 0)
 | [],_=>by simp[left]
 | x :: F,h=>by
  have h':=List.nodup_cons.1 h;have ih:=zhX hi hl h'.2;have hi':(listed.setIfInBounds i true).getD i false=true:=by simp[Array.getD,hi]
  simp only[left];by_cases hx:x=i
  ·subst hx;rw[hi',hl,ih];simp[h'.1];omega
  ·have h1:(listed.setIfInBounds i true).getD x false=listed.getD x false:=getD_set_ne false (Ne.symm hx);rw[h1,ih];have:(i ∈ x :: F)=(i ∈ F):=by simp[Ne.symm hx]
   simp only[this];omega
theorem zfX {listed}:∀{F:List Nat},left listed F=0->∀j,j ∈ F->listed.getD j false=true
 | [],_,j,hj=>by cases hj
 | x :: F,h,j,hj=>by
  simp only[left]at h;rcases List.mem_cons.1 hj with rfl|hj
  ·cases hb:listed.getD j false
   ·rw[hb]at h;simp at h
   ·rfl
  ·exact zfX (by omega) j hj
theorem zfW {listed}:∀{F:List Nat},left listed F≠0->∃j,j ∈ F/\listed.getD j false=false
 | [],h=>absurd rfl h
 | x :: F,h=>by
  cases hb:listed.getD x false
  ·exact⟨x,by simp,hb⟩
  ·simp only[left]at h;rw[hb]at h
   obtain⟨j,h1,h2⟩:=zfW (F:=F) (by simpa using h);exact⟨j,by simp[h1],h2⟩
theorem zhY {listed}:∀{F:List Nat},(∀j,j ∈ F->listed.getD j false=false)->left listed F=F.length
 | [],_=>rfl
 | x :: F,h=>by
  simp only[left,h x (by simp),List.length_cons];rw[zhY (λj hj=>h j (by simp[hj]))];simp;omega
def zrJ (P:Program) (md:Region.Mode) (ops:Array Oper) (Q:Exit->Act->World->Prop) (S:World->Prop) (G:Nat->Value->World->Prop) (a0:Act) (w0:World) (D:List (Nat × Tmp)) (F:List Nat) (i:Nat):Prop :=
 ∃o,ops[i]?=some o/\∀u w,S w->Bl w0 w->(∀j,F.contains j=true->(depsOf md ops i).contains j=true->G j (u j) w) ->
  ∀K:Act->World->Prop,Shut (∀v w',Bl w w'->G i v w'->K ((fill a0 D u).put o.dst v) w')->if Region.wanted o (yielded ops (fill a0 D u).tmps)=true then Oper.wp P o (fill a0 D u) w K Q else K ((fill a0 D u).put o.dst undef) w
theorem zoC {P ops Q i o K a w} (ho:ops[i]?=some o) (h:if Region.wanted o (yielded ops a.tmps)=true then Oper.wp P o a w K Q else K (a.put o.dst undef) w):wpOp P ops Q i K a w:=by
 unfold wpOp;simp only[ho]
 split at h
 ·rename_i hw;simp only[hw,if_true];exact .inl h
 ·rename_i hw;simp only[hw];exact h
theorem zbO {P md ops Q S} (G:Nat->Value->World->Prop) (D:List (Nat × Tmp)) (F st:List Nat) (listed0:Array Bool) (a0:Act) (w0:World) (fuel:Nat) (hok:znF md ops listed0 F st=true) (hsl:zjS ops D F=true) (hS:∀w w',S w->Bl w w'->S w') (hG:∀j v w w',G j v w->Bl w w'->G j v w') (hstep:∀i,i ∈ F->zrJ P md ops Q S G a0 w0 D F i) (hend:∀u w,S w->Bl w0 w->(∀j,j ∈ F->G j (u j) w)->wpAnyH P md ops Q S fuel (zfw ops st) (fill a0 D u) w) (hS0:S w0):wpAnyH P md ops Q S (F.length+fuel) listed0 a0 w0:=by
 simp only[znF,Bool.and_eq_true,beq_iff_eq]at hok;obtain⟨⟨⟨⟨⟨k1,k0⟩,k2⟩,k3⟩,k4⟩,k5⟩:=hok;have k0:F.Nodup:=of_decide_eq_true k0;have k2':∀i j,listed0.getD i false=true->j ∈ depsOf md ops i->listed0.getD j false=true:=λi j hi hj=>by
  have hlt:i<ops.size:=by
   rcases Nat.lt_or_ge i ops.size with h|h
   ·exact h
   ·rw[<-k1]at h;simp[Array.getElem?_eq_none h]at hi
  have:=List.all_eq_true.1 k2 i (List.mem_range.2 hlt);rw[hi]at this
  simpa using List.all_eq_true.1 (by simpa using this) j hj
 have k3':∀i,i ∈ F->listed0.getD i true=false/\i<ops.size/\i ∉ st/\∀j,j ∈ depsOf md ops i->j<i/\(listed0.getD j false=true∨j ∈ F):=λi hi=>by
  have:=List.all_eq_true.1 k3 i hi;simp only[Bool.and_eq_true,Bool.not_eq_true',decide_eq_true_eq]at this;obtain⟨⟨⟨a,b⟩,c⟩,d⟩:=this;refine⟨a,b,λh=>?_,λj hj=>?_⟩
  ·rw[List.contains_iff_mem.2 h]at c;cases c
  ·have:=List.all_eq_true.1 d j hj;simp only[Bool.and_eq_true,decide_eq_true_eq,Bool.or_eq_true]at this;exact⟨this.1,this.2.imp id (λh=>List.contains_iff_mem.1 h)⟩
 have k4':∀i,i<ops.size->listed0.getD i false=true∨i ∈ F∨i ∈ st:=λi hi=>by
  have:=List.all_eq_true.1 k4 i (List.mem_range.2 hi);simp only[Bool.or_eq_true]at this;rcases this with(h|h)|h
  ·exact .inl h
  ·exact .inr (.inl (List.contains_iff_mem.1 h))
  ·exact .inr (.inr (List.contains_iff_mem.1 h))
 have k5':∀s,s ∈ st->listed0.getD s true=false/\((∃j,j ∈ depsOf md ops s/\j ∈ st)∨∀j,j ∈ F->j ∈ zhr md ops ops.size [s]):=λs hs=>by
  have:=List.all_eq_true.1 k5 s hs;simp only[Bool.and_eq_true,Bool.not_eq_true',Bool.or_eq_true]at this;refine⟨this.1,this.2.imp (λh=>?_) (λh j hj=>List.contains_iff_mem.1 (List.all_eq_true.1 h j hj))⟩;obtain⟨j,h1,h2⟩:=List.any_eq_true.1 h;exact⟨j,h1,List.contains_iff_mem.1 h2⟩
 simp only[zjS,Bool.and_eq_true,beq_iff_eq,decide_eq_true_eq]at hsl;obtain⟨⟨hf,h2⟩,h3⟩:=hsl;have h1:(D.map Prod.fst).Nodup:=hf ▸ k0;have hput:∀i,i ∈ F->∀u v,(fill a0 D u).put (zkG ops i) v=fill a0 D (zgv u i v):=λi hi u v=>by
  rw[<-hf]at hi
  obtain⟨⟨i',d⟩,hp,rfl⟩:=List.mem_map.1 hi;have h4:=List.all_eq_true.1 h3 _ hp;rw[beq_iff_eq.1 h4];exact znG v h1 h2 hp
 have h0:fill a0 D (zpv a0 D)=a0:=zlG (zpu h1)
 -- at any time
 have main:∀(n:Nat) (listed:Array Bool) (u:Nat->Value) (w:World),left listed F<=n->listed.size=ops.size->(∀i,i ∉ F->listed.getD i false=listed0.getD i false)->(∀i j,listed.getD i false=true->j ∈ depsOf md ops i->listed.getD j false=true) ->
   S w->Bl w0 w->(∀j,j ∈ F->listed.getD j false=true->G j (u j) w)->∀m,m=left listed F->wpAnyH P md ops Q S (m+fuel) listed (fill a0 D u) w:=by
  intro n
  induction n with
  | zero =>
   intro listed u w hn hsz hout hcl hw hb hg m hm;have hz:left listed F=0:=by omega
   have hall:=zfX hz;have hl:listed=zfw ops st:=by
    apply Array.ext
    ·rw[hsz];simp[zfw]
    ·intro i h1 h2;have hi:i<ops.size:=by omega
     have e1:listed[i]=listed.getD i false:=by simp[Array.getD,h1]
     have e2:(zfw ops st)[i]=!(st.contains i):=by simp[zfw]
     rw[e1,e2];by_cases hF:i ∈ F
     ·rw[hall i hF];have:=(k3' i hF).2.2.1;simp[this]
     ·rw[hout i hF];by_cases hs:i ∈ st
      ·have:=(k5' i hs).1;rw[zcU (by omega)]at this
       rw[this];simp[hs]
      ·rcases k4' i hi with h|h|h
       ·rw[h];simp[hs]
       ·exact absurd h hF
       ·exact absurd h hs
   rw[hm,hz,zero_add,hl];exact hend u w hw hb (λj hj=>hg j hj (hall j hj))
  | succ n ih =>
   intro listed u w hn hsz hout hcl hw hb hg m hm;by_cases hz:left listed F=0
   ·exact ih listed u w (by omega) hsz hout hcl hw hb hg m hm
   ·obtain⟨m',rfl⟩:∃m',m=m'+1:=⟨m-1,by omega⟩
    -- one of F is ready
    have hex:=zfW hz;have hmin:∀b i,i<=b->i ∈ F->listed.getD i false=false->∃i,i ∈ F/\listed.getD i false=false/\∀j,j ∈ F->j<i->listed.getD j false=true:=by
     intro b
     induction b with
     | zero=>intro i hi hF hl;exact⟨i,hF,hl,λj _ hj=>by omega⟩
     | succ b ihb =>
      intro i hi hF hl;by_cases h:∃j,j ∈ F/\j<i/\listed.getD j false=false
      ·obtain⟨j,h1,h2,h3⟩:=h;exact ihb j (by omega) h1 h3
      ·refine⟨i,hF,hl,λj h1 h2=>?_⟩;cases h3:listed.getD j false
       ·exact absurd ⟨j,h1,h2,h3⟩ h
       ·rfl
    have hne:Region.ready md ops listed≠[]:=by
     obtain⟨i0,h1,h2⟩:=hex;obtain⟨i,hF,hl,hmn⟩:=hmin i0 i0 (le_refl _) h1 h2;obtain⟨_,hlt,_,hd⟩:=k3' i hF;have:i ∈ Region.ready md ops listed:=mem_ready.2 ⟨by rw[zcU (by omega)];exact hl,ops[i],by simp[hlt],λe he hb=>by
      obtain⟨h1,h2⟩:=hd e.on (mem_deps.2 ⟨ops[i],by simp[hlt],e,he,hb,rfl⟩);by_cases hFe:e.on ∈ F
      ·exact hmn _ hFe h1
      ·rw[hout _ hFe];exact h2.resolve_right hFe⟩
     intro h;rw[h]at this;cases this
    rw[show m'+1+fuel=(m'+fuel)+1 by omega];refine⟨λh=>absurd h hne,λi hi=>?_⟩;obtain⟨hun,o,ho,hdep⟩:=mem_ready.1 hi;have hlt:i<ops.size:=(Array.getElem?_eq_some_iff.1 ho).1;have hlf:listed.getD i false=false:=by rw[<-zcU (by omega)];exact hun
    have hdl:∀j,j ∈ depsOf md ops i->listed.getD j false=true:=λj hj=>by
     obtain⟨o',ho',e,he,hb',rfl⟩:=mem_deps.1 hj;have:o'=o:=Option.some.inj (ho'.symm.trans ho);subst this;exact hdep e he hb'
    by_cases hF:i ∈ F
    case neg =>
     exfalso;have h1:=hout i hF;rw[hlf]at h1
     rcases k4' i hlt with h|h|h
     ·rw[h]at h1;cases h1
     ·exact hF h
     ·rcases(k5' i h).2 with⟨j,hj,hjs⟩|hanc
      ·have h2:=hdl j hj;have h3:=k5' j hjs;by_cases hjF:j ∈ F
       ·exact(k3' j hjF).2.2.1 hjs
       ·rw[hout j hjF]at h2
        have h4:=h3.1;have hjl:j<listed0.size:=by
         rcases Nat.lt_or_ge j listed0.size with h|h
         ·exact h
         ·simp[Array.getElem?_eq_none h]at h2
        rw[zcU hjl,h2]at h4;cases h4
      ·obtain⟨j,hjF,hjl⟩:=hex;have:=zcp hcl ops.size [i] (λk hk l hl=>by simp at hk;subst hk;exact hdl l hl) j (hanc j hjF);rw[hjl]at this;cases this
    obtain⟨o',ho',hst⟩:=hstep i hF;obtain rfl:o'=o:=Option.some.inj (ho'.symm.trans ho);refine zoC ho ?_;refine hst u w hw hb (λj hj hd=>hg j (List.contains_iff_mem.1 hj) (hdl j (List.contains_iff_mem.1 hd))) _ (λv w' hb' hgi=>?_);have hdst:o'.dst=zkG ops i:=by simp[zkG,ho]
    refine⟨hS w w' hw hb',?_⟩;rw[hdst,hput i hF];have hlt':=zhX (by omega) hlf k0;simp only[hF,if_true]at hlt';have hset:∀j,j≠i->(listed.setIfInBounds i true).getD j false=listed.getD j false:=λj hj=>getD_set_ne false (Ne.symm hj)
    have hseti:(listed.setIfInBounds i true).getD i false=true:=by simp[Array.getD,show i<listed.size by omega]
    refine ih (listed.setIfInBounds i true) (zgv u i v) w' (by omega) (by simpa using hsz) (λj hj=>?_) (λj k hj hk=>?_) (hS w w' hw hb') (hb.trans (hb'.mono hb.size)) (λj hj hl=>?_) m' (by omega)
    ·rw[hset j (λe=>hj (e ▸ hF)),hout j hj]
    ·by_cases hji:j=i
     ·subst hji;exact getD_set_true (hdl k hk)
     ·rw[hset j hji]at hj
      exact getD_set_true (hcl j k hj hk)
    ·by_cases hji:j=i
     ·subst hji;rw[zjK];exact hgi
     ·rw[zgu hji];rw[hset j hji]at hl
      exact hG j (u j) w w' (hg j hj hl) hb'
 have hleft:left listed0 F=F.length:=zhY (λi hi=>by
  have h1:=(k3' i hi).1;have h2:=(k3' i hi).2.1;rw[zcU (by omega)]at h1
  exact h1)
 have:=main (left listed0 F) listed0 (zpv a0 D) w0 (le_refl _) k1 (λ_ _=>rfl) k2' hS0 (Below.refl _ _) (λj hj hl=>by
  have h1:=(k3' j hj).1;have h2:=(k3' j hj).2.1;rw[zcU (by omega),hl]at h1;cases h1) F.length hleft.symm
 rw[h0]at this
 exact this
def NmV (L:Nat) (w:World) (t:Nm) (q:Rat):Prop:=Rn L w t.s t.x t.n t.c t.f t.y t.m t.d t.g q
theorem NmV.q_ {L w w' t q} (h:NmV L w t q) (hb:Bl w w'):NmV L w' t q:=Rn.q_ h hb
structure CV where
 nm:ByteArray
 cost:Rat
 li:Int
 lq:Rat
 hi:Int
 hq:Rat
structure RV where
 nm:ByteArray
 li:Int
 lq:Rat
 hi:Int
 hq:Rat
 ts:List (Int × Rat)
structure ColV (L:Nat) (w:World) (c:Lc) (v:CV):Prop where
 nm:c.nm=v.nm
 cost:NmV L w c.cost v.cost
 li:c.lo.i=v.li
 lq:NmV L w c.lo.v v.lq
 hi:c.hi.i=v.hi
 hq:NmV L w c.hi.v v.hq
structure RowV (L:Nat) (w:World) (r:Lr) (v:RV):Prop where
 nm:r.nm=v.nm
 li:r.lo.i=v.li
 lq:NmV L w r.lo.v v.lq
 hi:r.hi.i=v.hi
 hq:NmV L w r.hi.v v.hq
 tk:r.tk=v.ts.length
 tl:∀p z q,v.ts[p]?=some (z,q)->r.col p=z/\NmV L w (r.T p) q/\∃b o,r.ta=some ⟨b,o,none⟩/\C4 w b (o+p*4) (.int .i64 (r.col p)) (.bool (r.T p).s) (.slice (r.T p).x (r.T p).n (r.T p).c) (.slice (r.T p).y (r.T p).m (r.T p).d)
theorem ColV.q_ {L w w' c v} (h:ColV L w c v) (hb:Bl w w'):ColV L w' c v:=⟨h.nm,h.cost.q_ hb,h.li,h.lq.q_ hb,h.hi,h.hq.q_ hb⟩
theorem RowV.q_ {L w w' c v} (h:RowV L w c v) (hb:Bl w w'):RowV L w' c v:=⟨h.nm,h.li,h.lq.q_ hb,h.hi,h.hq.q_ hb,h.tk,λp z q e=>by
 obtain⟨h1,h2,b,o,h3,h4⟩:=h.tl p z q e;exact⟨h1,h2.q_ hb,b,o,h3,h4.q_ hb⟩⟩
structure MoV (L:Nat) (w:World) (M:Mo) (q:Rat) (cs:List CV) (rs:List RV):Prop where
 off:NmV L w M.off q
 ck:M.ck=cs.length
 rk:M.rk=rs.length
 cls:∀j v,cs[j]?=some v->(∃b o,M.ca=some ⟨b,o,none⟩/\Cs w b (o+j*12) (M.C j).vs)/\ColV L w (M.C j) v
 rls:∀j v,rs[j]?=some v->(∃b o,M.ra=some ⟨b,o,none⟩/\Cs w b (o+j*10) (M.R j).vs)/\RowV L w (M.R j) v
theorem MoV.q_ {L w w' M q cs rs} (h:MoV L w M q cs rs) (hb:Bl w w'):MoV L w' M q cs rs :=
 ⟨h.off.q_ hb,h.ck,h.rk,λj v e=>by obtain⟨⟨b,o,h1,h2⟩,h3⟩:=h.cls j v e;exact⟨⟨b,o,h1,h2.q_ hb⟩,h3.q_ hb⟩,λj v e=>by obtain⟨⟨b,o,h1,h2⟩,h3⟩:=h.rls j v e;exact⟨⟨b,o,h1,h2.q_ hb⟩,h3.q_ hb⟩⟩
theorem NmV.nms {L w t q} (h:NmV L w t q) (hL:L<=65536):NmS w t/\nfB t=true:=by
 obtain⟨h1,h2⟩:=Rn.nm h hL;exact⟨h1,h2⟩
theorem RowV.tls {L w r v} (h:RowV L w r v) (hL:L<=65536):Tl w r.ta r.tk r.col r.T:=λj hj=>by
 rw[h.tk]at hj
 obtain⟨⟨z,q⟩,hz⟩:∃x,v.ts[j]?=some x:=⟨_,getElem?_eq_getElem hj⟩;obtain⟨_,h2,b,o,h3,h4⟩:=h.tl j z q hz;exact⟨b,o,h3,h4,(h2.nms hL).1⟩
theorem MoV.mor {L w M q cs rs} (h:MoV L w M q cs rs) (hL:L<=65536) (hc:cs.length<=64) (hr:rs.length<=64) (hn:∀v,v ∈ cs->v.nm.size<=1000) (hm:∀v,v ∈ rs->v.nm.size<=1000/\v.ts.length<=1000):MoR w M:=by
 refine⟨(h.off.nms hL).1,λj hj=>?_,λj hj=>?_,by rw[h.ck];omega,by rw[h.rk];omega⟩
 ·rw[h.ck]at hj
  obtain⟨v,hv⟩:∃x,cs[j]?=some x:=⟨_,getElem?_eq_getElem hj⟩;obtain⟨⟨b,o,h1,h2⟩,h3⟩:=h.cls j v hv;have:=hn v (List.mem_of_getElem? hv);exact⟨b,o,h1,h2,(h3.cost.nms hL).1,(h3.lq.nms hL).1,(h3.hq.nms hL).1,by rw[h3.nm];omega⟩
 ·rw[h.rk]at hj
  obtain⟨v,hv⟩:∃x,rs[j]?=some x:=⟨_,getElem?_eq_getElem hj⟩;obtain⟨⟨b,o,h1,h2⟩,h3⟩:=h.rls j v hv;have:=hm v (List.mem_of_getElem? hv);exact⟨b,o,h1,h2,(h3.lq.nms hL).1,(h3.hq.nms hL).1,h3.tls hL,by rw[h3.tk];omega,by rw[h3.nm];omega⟩
theorem MoV.kp {L w w' M q cs rs} (h:MoV L w M q cs rs) (hk:Kp w w') {b0} (hne:∀k,k≠b0->w'.heap[k]?=w.heap[k]?) (hno:∀o v,w.cell? ⟨b0,o,none⟩=some v->(∀s,v≠.string s)/\∀k z,v≠.int k z):MoV L w' M q cs rs:=by
 have hc:∀b o vs,(∃s,vs[0]?=some (Value.string s))->Cs w b o vs->Cs w' b o vs:=λb o vs ⟨s,hs⟩ h j v e=>by
  have hb:b≠b0:=λe=>(hno (o+0) (.string s) (e ▸ h 0 _ hs)).1 s rfl
  exact(cell?_of_block (a:=⟨b,o+j,none⟩) (hne b hb)).trans (h j v e)
 have h4:∀b o z a1 a2 a3,C4 w b o (.int .i64 z) a1 a2 a3->C4 w' b o (.int .i64 z) a1 a2 a3:=λb o z a1 a2 a3 h=>by
  have hb:b≠b0:=λe=>(hno o _ (e ▸ h.x0)).2 _ z rfl
  exact⟨(cell?_of_block (a:=⟨b,o,none⟩) (hne b hb)).trans h.x0,(cell?_of_block (a:=⟨b,o+1,none⟩) (hne b hb)).trans h.x1,(cell?_of_block (a:=⟨b,o+2,none⟩) (hne b hb)).trans h.x2,(cell?_of_block (a:=⟨b,o+3,none⟩) (hne b hb)).trans h.x3⟩
 refine⟨Rn.kp h.off hk,h.ck,h.rk,λj v e=>?_,λj v e=>?_⟩
 ·obtain⟨⟨b,o,h1,h2⟩,h3⟩:=h.cls j v e;exact⟨⟨b,o,h1,hc _ _ _ ⟨_,rfl⟩ h2⟩,h3.nm,Rn.kp h3.cost hk,h3.li,Rn.kp h3.lq hk,h3.hi,Rn.kp h3.hq hk⟩
 ·obtain⟨⟨b,o,h1,h2⟩,h3⟩:=h.rls j v e;refine⟨⟨b,o,h1,hc _ _ _ ⟨_,rfl⟩ h2⟩,h3.nm,h3.li,Rn.kp h3.lq hk,h3.hi,Rn.kp h3.hq hk,h3.tk,λp z q' e'=>?_⟩;obtain⟨k1,k2,b',o',k3,k4⟩:=h3.tl p z q' e';exact⟨k1,Rn.kp k2 hk,b',o',k3,h4 _ _ _ _ _ _ k4⟩
def GX (L:Nat) (i:Int) (q:Rat) (v:Value) (w:World):Prop:=∃e:Ex,v=e.val/\e.i=i/\NmV L w e.v q
def GC (L:Nat) (cv:CV) (v:Value) (w:World):Prop:=∃c:Lc,v=.agg c.vs.toArray/\ColV L w c cv
def GT (l:List (Int × Nm)) (v:Value) (w:World):Prop:=∃b,v=slice (some ⟨b,0,none⟩) l.length l.length/\∀p z t,l[p]?=some (z,t)->C4 w b (0+p*4) (.int .i64 z) (.bool t.s) (slice t.x t.n t.c) (slice t.y t.m t.d)
theorem GT.q_ {l v w w'} (h:GT l v w) (hb:Bl w w'):GT l v w':=by
 obtain⟨b,h1,h2⟩:=h;exact⟨b,h1,λp z t e=>(h2 p z t e).q_ hb⟩
theorem zjh {w w' B a0 a1 a2 a3 a4 t} (h:Bk w B [a0,a1,a2,a3,a4] t) (hu:NoU #[a0,a1,a2,a3,a4]) {v0 v1 v2 v3 v4} (e:w'=((((w.setCell ⟨B,0,none⟩ v0).setCell ⟨B,1,none⟩ v1).setCell ⟨B,2,none⟩ v2).setCell ⟨B,3,none⟩ v3).setCell ⟨B,4,none⟩ v4):Kp w w'/\∀k,k≠B->w'.heap[k]?=w.heap[k]?:=by
 obtain⟨w1,h1⟩:∃x,x=w.setCell ⟨B,0,none⟩ v0:=⟨_,rfl⟩;obtain⟨w2,h2⟩:∃x,x=w1.setCell ⟨B,1,none⟩ v1:=⟨_,rfl⟩;obtain⟨w3,h3⟩:∃x,x=w2.setCell ⟨B,2,none⟩ v2:=⟨_,rfl⟩;obtain⟨w4,h4⟩:∃x,x=w3.setCell ⟨B,3,none⟩ v3:=⟨_,rfl⟩;rw[<-h1,<-h2,<-h3,<-h4]at e
 have g:∀(a b:World) o v,b=a.setCell ⟨B,o,none⟩ v->b.os=a.os/\b.tape=a.tape/\b.output=a.output/\b.heap.size=a.heap.size/\∀k,k≠B->b.heap[k]?=a.heap[k]?:=λa b o v e=>by
  subst e;exact⟨rfl,rfl,rfl,by simp[World.setCell],λk hk=>Below.heap_setCell _ _ _ _ hk⟩
 obtain⟨a1,b1,c1,d1,e1⟩:=g _ _ _ _ h1;obtain⟨a2,b2,c2,d2,e2⟩:=g _ _ _ _ h2;obtain⟨a3,b3,c3,d3,e3⟩:=g _ _ _ _ h3;obtain⟨a4,b4,c4,d4,e4⟩:=g _ _ _ _ h4;obtain⟨a5,b5,c5,d5,e5⟩:=g _ _ _ _ e;have hne:∀k,k≠B->w'.heap[k]?=w.heap[k]?:=λk hk=>by rw[e5 k hk,e4 k hk,e3 k hk,e2 k hk,e1 k hk]
 refine⟨⟨by rw[a5,a4,a3,a2,a1],by rw[b5,b4,b3,b2,b1],by rw[c5,c4,c3,c2,c1],by omega,λk _=>?_⟩,hne⟩;by_cases hk:k=B
 ·subst hk;exact .inr ⟨_,t,(0,0),h,hu⟩
 ·exact .inl (hne k hk)
theorem zeg {w0 w B u0 u1 u2 u3 u4} (hw:Bl w0 w) (hB:w0.heap.size<=B) :
  Bl w0 (((((w.setCell ⟨B,0,none⟩ u0).setCell ⟨B,1,none⟩ u1).setCell ⟨B,2,none⟩ u2).setCell ⟨B,3,none⟩ u3).setCell ⟨B,4,none⟩ u4) :=
 zL hw hw.size ((((((Turned.refl w0.heap.size (B+1) w).set (x:=⟨B,0,none⟩) hB (by simp) _).set (x:=⟨B,1,none⟩) hB (by simp) _).set (x:=⟨B,2,none⟩) hB (by simp) _).set (x:=⟨B,3,none⟩) hB (by simp) _).set (x:=⟨B,4,none⟩) hB (by simp) _) (le_refl _)
theorem zta {w B s x1 x2 x3 x4 n1 n2 n3 n4 c1 c2 c3 c4 t} (h:Bk w B [.bool s,slice x1 n1 c1,slice x2 n2 c2,slice x3 n3 c3,slice x4 n4 c4] t):∀o v,w.cell? ⟨B,o,none⟩=some v->(∀s,v≠.string s)/\∀k z,v≠.int k z:=λo v e=>by
 unfold Bk at h;simp only[World.cell?,h]at e
 match o,e with
 | 0,e=>simp at e;subst e;exact⟨(λ_ h=>nomatch h),(λ_ _ h=>nomatch h)⟩
 | 1,e=>simp at e;subst e;exact⟨(λ_ h=>nomatch h),(λ_ _ h=>nomatch h)⟩
 | 2,e=>simp at e;subst e;exact⟨(λ_ h=>nomatch h),(λ_ _ h=>nomatch h)⟩
 | 3,e=>simp at e;subst e;exact⟨(λ_ h=>nomatch h),(λ_ _ h=>nomatch h)⟩
 | 4,e=>simp at e;subst e;exact⟨(λ_ h=>nomatch h),(λ_ _ h=>nomatch h)⟩
 | o+5,e=>simp at e
theorem zjb (s:Bool) (x1 x2 x3 x4:Option Addr) (n1 n2 n3 n4 c1 c2 c3 c4:Nat):NoU #[Value.bool s,slice x1 n1 c1,slice x2 n2 c2,slice x3 n3 c3,slice x4 n4 c4]:=zaa (l:=[Value.bool s,slice x1 n1 c1,slice x2 n2 c2,slice x3 n3 c3,slice x4 n4 c4]) (λu hu q=>by simp at hu;rcases hu with rfl|rfl|rfl|rfl|rfl <;> simp)
theorem zdt (w:World) (t:TypeId) (l l':List Value) (o:Nat) (h:∀j v,l'[j]?=some v->l[o+j]?=some v):Cs (w.alloc (cells l.toArray t)) w.heap.size o l':=λj v e=>by
 have:=h j v e;simp only[World.cell?,heap_alloc_new];simpa using this
theorem znN (w:World) (t:TypeId) (a b:List Value):Cs (w.alloc (cells (a++b).toArray t)) w.heap.size 0 a/\Cs (w.alloc (cells (a++b).toArray t)) w.heap.size a.length b :=
 ⟨zdt w t _ _ 0 (λj v e=>by rw[zero_add,List.getElem?_append_left (List.getElem?_eq_some_iff.1 e).1];exact e),zdt w t _ _ _ (λj v e=>by rw[List.getElem?_append_right (by omega),Nat.add_sub_cancel_left];exact e)⟩
theorem cs4 {w b o a0 a1 a2 a3} (h:Cs w b o [a0,a1,a2,a3]):C4 w b o a0 a1 a2 a3:=⟨h 0 _ rfl,h 1 _ rfl,h 2 _ rfl,h 3 _ rfl⟩
def tvs (z:Int) (t:Nm):List Value:=[.int .i64 z,.bool t.s,slice t.x t.n t.c,slice t.y t.m t.d]
theorem zpF (w:World) (ty:TypeId) (z0 z1:Int) (t0 t1:Nm):GT [(z0,t0),(z1,t1)] (slice (some ⟨w.heap.size,0,none⟩) 2 2) (w.alloc (cells (tvs z0 t0++tvs z1 t1).toArray ty)):=by
 obtain⟨h1,h2⟩:=znN w ty (tvs z0 t0) (tvs z1 t1);refine⟨w.heap.size,rfl,λp z t e=>?_⟩
 match p,e with
 | 0,e=>cases e;exact cs4 h1
 | 1,e=>cases e;exact cs4 h2
def bdB (li:Int) (lq:Rat) (hi:Int) (hq:Rat):Bool:=(decide (li=0) || (decide (li=-1) && decide (lq=0))) && (decide (hi=0) || (decide (hi=1) && decide (hq=0)))
def tsB (n:Nat):Int->List (Int × Rat)->Bool
 | _,[]=>true
 | last,(z,q) :: r=>decide (last<z) && (decide (z<(n:Int)) && (decide (q≠0) && tsB n z r))
def nmC (cs:List CV) (j:Nat):ByteArray:=(cs[j]?.map CV.nm).getD ByteArray.empty
def nmR (rs:List RV) (j:Nat):ByteArray:=(rs[j]?.map RV.nm).getD ByteArray.empty
def zbk (cs:List CV) (rs:List RV):Bool:=decide (cs.length<=64) && (decide (rs.length<=64) && (cs.all (λv=>bdB v.li v.lq v.hi v.hq) && (rs.all (λv=>bdB v.li v.lq v.hi v.hq && (tsB cs.length (-1) v.ts && decide (v.ts.length<=1000))) && (nms (nmC cs) cs.length 0 && (nms (nmR rs) rs.length 0 && (!(twr (nmC cs) cs.length 0) && !(twr (nmR rs) rs.length 0)))))))
theorem zbq {S S'}:∀{r i:Nat},(∀j,i<=j->j<i+r->S j=S' j)->nms S r i=nms S' r i
 | 0,_,_=>rfl
 | r+1,i,h=>by simp only[nms];rw[h i (by omega) (by omega),zbq (λj a b=>h j (by omega) (by omega))]
theorem zlj {S S' i} (h:∀j,j<=i->S j=S' j):zhG S i=zhG S' i:=by
 rw[Bool.eq_iff_iff,zcw,zcw];exact⟨λ⟨j,h1,h2⟩=>⟨j,h1,by rw[<-h j (by omega),<-h i (by omega)];exact h2⟩,λ⟨j,h1,h2⟩=>⟨j,h1,by rw[h j (by omega),h i (by omega)];exact h2⟩⟩
theorem zbn {S S'}:∀{r i:Nat},(∀j,j<i+r->S j=S' j)->twr S r i=twr S' r i
 | 0,_,_=>rfl
 | r+1,i,h=>by simp only[twr];rw[zlj (λj hj=>h j (by omega)),zbn (λj b=>h j (by omega))]
theorem zfm {S}:∀{r i:Nat},nms S r i=true->∀j,i<=j->j<i+r->(S j).size<=16
 | 0,_,_,j,h1,h2=>by omega
 | r+1,i,h,j,h1,h2=>by
  simp only[nms,Bool.and_eq_true]at h;by_cases e:j=i
  ·subst e;have:=h.1;simp only[zaC,Bool.and_eq_true,decide_eq_true_eq]at this;omega
  ·exact zfm h.2 j (by omega) (by omega)
theorem zlM {B B'}:∀{i:Nat},(∀j,j<i->B j=B' j)->crl B i=crl B' i
 | 0,_=>rfl
 | i+1,h=>by unfold crl;rw[zlM (λj hj=>h j (by omega)),h i (by omega)]
theorem zhl {C}:∀{r i:Nat},(∀j,i<=j->j<i+r->nfB (C j).cost=true/\abB (C j).lo (C j).hi=true)->zeb C r i=true
 | 0,_,_=>rfl
 | r+1,i,h=>by simp only[zeb];rw[(h i (by omega) (by omega)).1,(h i (by omega) (by omega)).2,zhl (λj a b=>h j (by omega) (by omega))];rfl
theorem zgF {R}:∀{r i:Nat},(∀j,i<=j->j<i+r->abB (R j).lo (R j).hi=true/\tfB (R j).tk (R j).col (R j).T=true)->zdc R r i=true
 | 0,_,_=>rfl
 | r+1,i,h=>by simp only[zdc];rw[(h i (by omega) (by omega)).1,(h i (by omega) (by omega)).2,zgF (λj a b=>h j (by omega) (by omega))];rfl
theorem alB_of {k R}:∀{r i:Nat},(∀j,i<=j->j<i+r->lastB k (R j)=true)->alB k R r i=true
 | 0,_,_=>rfl
 | r+1,i,h=>by simp only[alB];rw[h i (by omega) (by omega),alB_of (λj a b=>h j (by omega) (by omega))];rfl
theorem NmV.ex {L w e i q} (h:NmV L w e.v q) (hi:e.i=i) (hb:i=0∨(i=-1∨i=1)/\q=0):exF e=true :=
 En.ef (L:=L) (w:=w) (q:=q) ⟨h,by rw[hi];exact hb⟩
theorem zqo {L w a b li lq hi hq} (h1:NmV L w a.v lq) (e1:a.i=li) (h2:NmV L w b.v hq) (e2:b.i=hi) (h:bdB li lq hi hq=true):abB a b=true:=by
 simp only[bdB,Bool.and_eq_true,Bool.or_eq_true,decide_eq_true_eq]at h;have f1:=h1.ex e1 (by rcases h.1 with h|h;exact .inl h;exact .inr ⟨.inl h.1,h.2⟩);have f2:=h2.ex e2 (by rcases h.2 with h|h;exact .inl h;exact .inr ⟨.inr h.1,h.2⟩);simp only[abB,f1,f2,Bool.true_and,Bool.and_eq_true,decide_eq_true_eq];rw[e1,e2];omega
theorem zmk {n}:∀{l:List (Int × Rat)} {last:Int},tsB n last l=true->(∀(p:Nat) z q,l[p]?=some (z,q)->last<z/\z<(n:Int)/\q≠0)/\∀(p:Nat) z q z' q',l[p]?=some (z,q)->l[p+1]?=some (z',q')->z<z'
 | [],_,_=>⟨λp z q h=>by simp at h,λp z q z' q' h=>by simp at h⟩
 | (a,b) :: r,last,h=>by
  simp only[tsB,Bool.and_eq_true,decide_eq_true_eq]at h;obtain⟨h1,h2,h3,h4⟩:=h;obtain⟨k1,k2⟩:=zmk h4;refine⟨λp z q e=>?_,λp z q z' q' e e'=>?_⟩
  ·cases p with
   | zero=>simp at e;obtain⟨rfl,rfl⟩:=e;exact⟨h1,h2,h3⟩
   | succ p=>have:=k1 p z q (by simpa using e);exact⟨by omega,this.2⟩
  ·cases p with
   | zero =>
    simp at e;obtain⟨rfl,rfl⟩:=e
    exact(k1 0 z' q' (by simpa using e')).1
   | succ p=>exact k2 p z q z' q' (by simpa using e) (by simpa using e')
theorem RowV.tf {L w r v n} (h:RowV L w r v) (hL:L<=65536) (ht:tsB n (-1) v.ts=true):tfB r.tk r.col r.T=true/\lastB n r=true:=by
 obtain⟨k1,k2⟩:=zmk ht;have hg:∀p,p<r.tk->∃z q,v.ts[p]?=some (z,q):=λp hp=>by
  rw[h.tk]at hp
  obtain⟨⟨z,q⟩,e⟩:∃x,v.ts[p]?=some x:=⟨_,getElem?_eq_getElem hp⟩;exact⟨z,q,e⟩
 refine⟨zqO (λj _ hj=>?_) (λj _ hj=>?_) (λh0=>?_),?_⟩
 ·obtain⟨z,q,e⟩:=hg j (by omega);obtain⟨_,h2,_⟩:=h.tl j z q e;refine⟨(h2.nms hL).2,?_⟩;have:=(k1 j z q e).2.2;have hz:=Rn.q_zero h2;rcases Nat.eq_zero_or_pos (r.T j).n with h0|h0
  ·exact absurd (hz.2 h0) this
  ·exact h0
 ·obtain⟨z,q,e⟩:=hg j (by omega);obtain⟨z',q',e'⟩:=hg (j+1) (by omega);rw[(h.tl j z q e).1,(h.tl (j+1) z' q' e').1];exact k2 j z q z' q' e e'
 ·obtain⟨z,q,e⟩:=hg 0 h0;rw[(h.tl 0 z q e).1];exact(k1 0 z q e).1
 ·simp only[lastB,Bool.or_eq_true,decide_eq_true_eq];by_cases h0:r.tk=0
  ·exact .inl h0
  ·obtain⟨z,q,e⟩:=hg (r.tk-1) (by omega);rw[(h.tl _ z q e).1];exact .inr (k1 _ z q e).2.1
theorem MoV.nmc {L w M q cs rs} (h:MoV L w M q cs rs):∀j,j<M.ck->(M.C j).nm=nmC cs j:=λj hj=>by
 rw[h.ck]at hj
 obtain⟨v,hv⟩:∃x,cs[j]?=some x:=⟨_,getElem?_eq_getElem hj⟩;rw[nmC,hv,(h.cls j v hv).2.nm];rfl
theorem MoV.nmr {L w M q cs rs} (h:MoV L w M q cs rs):∀j,j<M.rk->(M.R j).nm=nmR rs j:=λj hj=>by
 rw[h.rk]at hj
 obtain⟨v,hv⟩:∃x,rs[j]?=some x:=⟨_,getElem?_eq_getElem hj⟩;rw[nmR,hv,(h.rls j v hv).2.nm];rfl
theorem MoV.chk {L w M q cs rs} (h:MoV L w M q cs rs) (hL:L<=65536) (ho:zbk cs rs=true):zaF M=0/\MoR w M:=by
 simp only[zbk,Bool.and_eq_true,decide_eq_true_eq,List.all_eq_true,Bool.not_eq_true']at ho;obtain⟨l1,l2,o1,o2,n1,n2,t1,t2⟩:=ho;have hcv:∀j,j<M.ck->∃v,cs[j]?=some v:=λj hj=>by rw[h.ck]at hj;exact⟨_,getElem?_eq_getElem hj⟩
 have hrv:∀j,j<M.rk->∃v,rs[j]?=some v:=λj hj=>by rw[h.rk]at hj;exact⟨_,getElem?_eq_getElem hj⟩
 have hF:moF M=true:=by
  simp only[moF,Bool.and_eq_true];refine⟨(h.off.nms hL).2,zhl (λj _ hj=>?_),zgF (λj _ hj=>?_)⟩
  ·obtain⟨v,hv⟩:=hcv j (by omega);obtain⟨_,k⟩:=h.cls j v hv;exact⟨(k.cost.nms hL).2,zqo k.lq k.li k.hq k.hi (o1 v (List.mem_of_getElem? hv))⟩
  ·obtain⟨v,hv⟩:=hrv j (by omega);obtain⟨_,k⟩:=h.rls j v hv;have o:=o2 v (List.mem_of_getElem? hv);exact⟨zqo k.lq k.li k.hq k.hi o.1,(k.tf hL o.2.1).1⟩
 have hA:alB M.ck M.R M.rk 0=true:=alB_of (λj _ hj=>by
  obtain⟨v,hv⟩:=hrv j (by omega);obtain⟨_,k⟩:=h.rls j v hv;rw[h.ck];exact(k.tf hL (o2 v (List.mem_of_getElem? hv)).2.1).2)
 have e1:nms (λj=>(M.C j).nm) M.ck 0=true:=by rw[zbq (S':=nmC cs) (λj _ hj=>h.nmc j (by omega)),h.ck];exact n1
 have e2:nms (λj=>(M.R j).nm) M.rk 0=true:=by rw[zbq (S':=nmR rs) (λj _ hj=>h.nmr j (by omega)),h.rk];exact n2
 have e3:twr (λj=>(M.C j).nm) M.ck 0=false:=by rw[zbn (S':=nmC cs) (λj hj=>h.nmc j (by omega)),h.ck];exact t1
 have e4:twr (λj=>(M.R j).nm) M.rk 0=false:=by rw[zbn (S':=nmR rs) (λj hj=>h.nmr j (by omega)),h.rk];exact t2
 have e0:(decide (64<M.ck) || decide (64<M.rk))=false:=by rw[h.ck,h.rk];simp;omega
 refine⟨by unfold zaF;rw[e0,hF,e1,e2,e3,e4,hA];rfl,h.mor hL l1 l2 (λv hv=>?_) (λv hv=>?_)⟩
 ·obtain⟨j,hj⟩:=List.getElem?_of_mem hv;have:=zfm n1 j (by omega) (by have:=(List.getElem?_eq_some_iff.1 hj).1;omega);rw[nmC,hj]at this
  exact le_trans this (by decide)
 ·obtain⟨j,hj⟩:=List.getElem?_of_mem hv;have:=zfm n2 j (by omega) (by have:=(List.getElem?_eq_some_iff.1 hj).1;omega);rw[nmR,hj]at this
  exact⟨le_trans this (by decide),(o2 v hv).2.2⟩
def NmB (w:World) (t:Nm):Prop:=Rw w t.x t.n t.c t.f t.y t.m t.d t.g/\t.n<=17592186044416/\t.m<=17592186044416
theorem NmB.q_ {w w' t} (h:NmB w t) (hb:Bl w w'):NmB w' t:=⟨h.1.q_ hb,h.2⟩
theorem NmB.kp {w w' t} (h:NmB w t) (hb:Kp w w'):NmB w' t:=⟨h.1.kp hb,h.2⟩
structure LcB (w:World) (c:Lc):Prop where
 cost:NmB w c.cost
 lo:NmB w c.lo.v
 hi:NmB w c.hi.v
theorem LcB.q_ {w w' c} (h:LcB w c) (hb:Bl w w'):LcB w' c:=⟨h.cost.q_ hb,h.lo.q_ hb,h.hi.q_ hb⟩
theorem LcB.kp {w w' c} (h:LcB w c) (hb:Kp w w'):LcB w' c:=⟨h.cost.kp hb,h.lo.kp hb,h.hi.kp hb⟩
structure LrB (w:World) (r:Lr):Prop where
 lo:NmB w r.lo.v
 hi:NmB w r.hi.v
 tr:Tr w r.ta r.tk r.col r.T
 tk:r.tk<=2199023255552
 tn:∀p,p<r.tk->(r.T p).n<=17592186044416/\(r.T p).m<=17592186044416
theorem LrB.q_ {w w' c} (h:LrB w c) (hb:Bl w w'):LrB w' c:=⟨h.lo.q_ hb,h.hi.q_ hb,h.tr.q_ hb,h.tk,h.tn⟩
theorem Tr.of {w w' ao k col T} (h:Tr w ao k col T) (hb:k≠0->∀b o s,ao=some ⟨b,o,s⟩->b<w.heap.size->w'.heap[b]?=w.heap[b]?) (hk:Kp w w'):Tr w' ao k col T:=λj hj=>by
 obtain⟨b,o,e,⟨c0,c1,c2,c3⟩,h2⟩:=h j hj;have:=hb (by omega) b o none e (block_lt_of_cell? w _ c0);exact⟨b,o,e,⟨(cell?_of_block (a:=⟨b,o+j*4,none⟩) this).trans c0,(cell?_of_block (a:=⟨b,o+j*4+1,none⟩) this).trans c1,(cell?_of_block (a:=⟨b,o+j*4+2,none⟩) this).trans c2,(cell?_of_block (a:=⟨b,o+j*4+3,none⟩) this).trans c3⟩,h2.kp hk⟩
theorem LrB.of {w w' r} (h:LrB w r) (hb:r.tk≠0->∀b o s,r.ta=some ⟨b,o,s⟩->b<w.heap.size->w'.heap[b]?=w.heap[b]?) (hk:Kp w w'):LrB w' r:=⟨h.lo.kp hk,h.hi.kp hk,h.tr.of hb hk,h.tk,h.tn⟩
def Cl9 (w:World) (ao:Option Addr) (k:Nat) (C:Nat->Lc):Prop:=∀j,j<k->∃b o,ao=some ⟨b,o,none⟩/\Cs w b (o+j*12) (C j).vs/\LcB w (C j)
def Rl9 (w:World) (ao:Option Addr) (k:Nat) (R:Nat->Lr):Prop:=∀j,j<k->∃b o,ao=some ⟨b,o,none⟩/\Cs w b (o+j*10) (R j).vs/\LrB w (R j)
theorem Cl9.q_ {w w' ao k C} (h:Cl9 w ao k C) (hb:Bl w w'):Cl9 w' ao k C:=λj hj=>by
 obtain⟨b,o,e,h1,h2⟩:=h j hj;exact⟨b,o,e,h1.q_ hb,h2.q_ hb⟩
theorem Rl9.q_ {w w' ao k R} (h:Rl9 w ao k R) (hb:Bl w w'):Rl9 w' ao k R:=λj hj=>by
 obtain⟨b,o,e,h1,h2⟩:=h j hj;exact⟨b,o,e,h1.q_ hb,h2.q_ hb⟩
structure MoX (w:World) (M:Mo):Prop where
 off:NmB w M.off
 cls:Cl9 w M.ca M.ck M.C
 rls:Rl9 w M.ra M.rk M.R
 ck:M.ck<=703687441776
 rk:M.rk<=837723144971
theorem MoX.q_ {w w' M} (h:MoX w M) (hb:Bl w w'):MoX w' M:=⟨h.off.q_ hb,h.cls.q_ hb,h.rls.q_ hb,h.ck,h.rk⟩
structure Sc (c c':Lc):Prop where
 nm:c'.nm=c.nm
 cost:Sn c.cost c'.cost
 li:c'.lo.i=c.lo.i
 lo:Sn c.lo.v c'.lo.v
 hi:c'.hi.i=c.hi.i
 hv:Sn c.hi.v c'.hi.v
structure Sr (r r':Lr):Prop where
 nm:r'.nm=r.nm
 li:r'.lo.i=r.lo.i
 lo:Sn r.lo.v r'.lo.v
 hi:r'.hi.i=r.hi.i
 hv:Sn r.hi.v r'.hi.v
 tk:r'.tk=r.tk
 col:r'.col=r.col
 T:∀p,p<r.tk->Sn (r.T p) (r'.T p)
structure Sm (M M':Mo):Prop where
 off:Sn M.off M'.off
 ck:M'.ck=M.ck
 C:∀j,j<M.ck->Sc (M.C j) (M'.C j)
 rk:M'.rk=M.rk
 R:∀j,j<M.rk->Sr (M.R j) (M'.R j)
def ccs (C:Nat->Lc):Nat->List Value
 | 0=>[]
 | i+1=>ccs C i++(C i).vs
def rcs (R:Nat->Lr):Nat->List Value
 | 0=>[]
 | i+1=>rcs R i++(R i).vs
theorem zeU (C:Nat->Lc):∀i,(ccs C i).length=i*12
 | 0=>rfl
 | i+1=>by unfold ccs;rw[List.length_append,zeU C i];show i*12+12=_;omega
theorem zeE (C:Nat->Lr):∀i,(rcs C i).length=i*10
 | 0=>rfl
 | i+1=>by unfold rcs;rw[List.length_append,zeE C i];show i*10+10=_;omega
theorem zgi {C C'}:∀{i:Nat},(∀j,j<i->C j=C' j)->ccs C i=ccs C' i
 | 0,_=>rfl
 | i+1,h=>by unfold ccs;rw[zgi (λj hj=>h j (by omega)),h i (by omega)]
theorem zfT {C C'}:∀{i:Nat},(∀j,j<i->C j=C' j)->rcs C i=rcs C' i
 | 0,_=>rfl
 | i+1,h=>by unfold rcs;rw[zfT (λj hj=>h j (by omega)),h i (by omega)]
theorem zho {C j q v} (hv:(C j).vs[q]?=some v):∀{i:Nat},j<i->(ccs C i)[j*12+q]?=some v
 | 0,h=>by omega
 | i+1,h=>by
  have hq:q<12:=(List.getElem?_eq_some_iff.1 hv).1;unfold ccs;by_cases e:j=i
  ·subst e;rw[List.getElem?_append_right (by rw[zeU];omega),zeU,Nat.add_sub_cancel_left];exact hv
  ·rw[List.getElem?_append_left (by rw[zeU];omega)];exact zho hv (by omega)
theorem zgI {C j q v} (hv:(C j).vs[q]?=some v):∀{i:Nat},j<i->(rcs C i)[j*10+q]?=some v
 | 0,h=>by omega
 | i+1,h=>by
  have hq:q<10:=(List.getElem?_eq_some_iff.1 hv).1;unfold rcs;by_cases e:j=i
  ·subst e;rw[List.getElem?_append_right (by rw[zeE];omega),zeE,Nat.add_sub_cancel_left];exact hv
  ·rw[List.getElem?_append_left (by rw[zeE];omega)];exact zgI hv (by omega)
def putC (C:Nat->Lc) (i:Nat) (c:Lc):Nat->Lc:=λj=>if j=i then c else C j
theorem zgM (C:Nat->Lc) (i:Nat) (c:Lc):putC C i c i=c:=by simp[putC]
theorem zgL {C i j c} (h:j≠i):putC C i c j=C j:=by simp[putC,h]
def zdE (C:Nat->Lr) (i:Nat) (c:Lr):Nat->Lr:=λj=>if j=i then c else C j
theorem zfi (C:Nat->Lr) (i:Nat) (c:Lr):zdE C i c i=c:=by simp[zdE]
theorem zfh {C i j c} (h:j≠i):zdE C i c j=C j:=by simp[zdE,h]
theorem zkP (C:Nat->Lc) (i:Nat) (c:Lc):ccs (putC C i c) (i+1)=ccs C i++c.vs:=by
 show ccs (putC C i c) i++(putC C i c i).vs=_;rw[zgM,zgi (C':=C) (λj hj=>zgL (by omega))]
theorem zkd (C:Nat->Lr) (i:Nat) (c:Lr):rcs (zdE C i c) (i+1)=rcs C i++c.vs:=by
 show rcs (zdE C i c) i++(zdE C i c i).vs=_;rw[zfi,zfT (C':=C) (λj hj=>zfh (by omega))]
theorem zjJ (c:Lc):∀u ∈ c.vs,u.oneCell'=true:=by
 intro u hu;simp[Lc.vs]at hu;rcases hu with rfl|rfl|rfl|rfl|rfl|rfl|rfl|rfl|rfl|rfl|rfl|rfl <;> rfl
theorem zgr (c:Lc):∀u ∈ c.vs,∀q,u≠.int .u64 q:=by
 intro u hu q;simp[Lc.vs]at hu;rcases hu with rfl|rfl|rfl|rfl|rfl|rfl|rfl|rfl|rfl|rfl|rfl|rfl <;> simp
theorem zjI (c:Lr):∀u ∈ c.vs,u.oneCell'=true:=by
 intro u hu;simp[Lr.vs]at hu;rcases hu with rfl|rfl|rfl|rfl|rfl|rfl|rfl|rfl|rfl|rfl <;> rfl
theorem zgq (c:Lr):∀u ∈ c.vs,∀q,u≠.int .u64 q:=by
 intro u hu q;simp[Lr.vs]at hu;rcases hu with rfl|rfl|rfl|rfl|rfl|rfl|rfl|rfl|rfl|rfl <;> simp
def zC:Value:=.agg #[.string ByteArray.empty,.bool false,slice none 0 0,slice none 0 0,.int .i64 0,.bool false,slice none 0 0,slice none 0 0,.int .i64 0,.bool false,slice none 0 0,slice none 0 0]
def zR:Value:=.agg #[.string ByteArray.empty,.int .i64 0,.bool false,slice none 0 0,slice none 0 0,.int .i64 0,.bool false,slice none 0 0,slice none 0 0,slice none 0 0]
theorem zpC:(prog.info? 60).map (λi=>(i.zero,i.size,i.bytes))=some (some zC,12,200):=by kernel_rfl
theorem zpB:(prog.info? 63).map (λi=>(i.zero,i.size,i.bytes))=some (some zR,10,168):=by kernel_rfl
def nz9:Nm:=⟨false,none,0,0,λ_=>0,none,0,0,λ_=>0⟩
theorem nzC:NoU zC.cells:=zaa (l:=(Lc.mk ByteArray.empty nz9 ⟨0,nz9⟩ ⟨0,nz9⟩).vs) (zgr _)
theorem nzR:NoU zR.cells:=zaa (l:=(Lr.mk ByteArray.empty ⟨0,nz9⟩ ⟨0,nz9⟩ none 0 0 (λ_=>0) (λ_=>nz9)).vs) (zgq _)
def TN (t:Nm) (v:Value) (w:World):Prop:=∃t':Nm,v=t'.val/\Sn t t'/\NmB w t'
def TE (e:Ex) (v:Value) (w:World):Prop:=∃e':Ex,v=e'.val/\e'.i=e.i/\Sn e.v e'.v/\NmB w e'.v
def TC (c:Lc) (v:Value) (w:World):Prop:=∃c':Lc,v=.agg c'.vs.toArray/\Sc c c'/\LcB w c'
def TCs (c:Lc) (v:Value) (w:World):Prop:=∃b,∃c':Lc,v=slice (some ⟨b,0,none⟩) 1 1/\Cs w b 0 c'.vs/\Sc c c'/\LcB w c'
def TT (base:Nat) (ta:Option Addr) (tk:Nat) (col:Nat->Int) (T:Nat->Nm) (v:Value) (w:World):Prop:=∃aw cw T',v=slice aw tk cw/\(∀b o s,aw=some ⟨b,o,s⟩->base<=b)/\Tr w aw tk col T'/\(∀j,j<tk->Sn (T j) (T' j))/\ta=ta
def TR (base:Nat) (r:Lr) (v:Value) (w:World):Prop:=∃r':Lr,v=.agg r'.vs.toArray/\Sr r r'/\LrB w r'/\∀b o s,r'.ta=some ⟨b,o,s⟩->base<=b
def TRs (base:Nat) (r:Lr) (v:Value) (w:World):Prop:=∃b,∃r':Lr,v=slice (some ⟨b,0,none⟩) 1 1/\Cs w b 0 r'.vs/\Sr r r'/\LrB w r'/\∀b o s,r'.ta=some ⟨b,o,s⟩->base<=b
theorem TN.q_ {t v w w'} (h:TN t v w) (hb:Bl w w'):TN t v w':=by obtain⟨t',h1,h2,h3⟩:=h;exact⟨t',h1,h2,h3.q_ hb⟩
theorem TE.q_ {t v w w'} (h:TE t v w) (hb:Bl w w'):TE t v w':=by obtain⟨t',h1,h2,h3,h4⟩:=h;exact⟨t',h1,h2,h3,h4.q_ hb⟩
theorem TC.q_ {t v w w'} (h:TC t v w) (hb:Bl w w'):TC t v w':=by obtain⟨t',h1,h2,h3⟩:=h;exact⟨t',h1,h2,h3.q_ hb⟩
theorem TCs.q_ {t v w w'} (h:TCs t v w) (hb:Bl w w'):TCs t v w':=by obtain⟨b,t',h1,h2,h3,h4⟩:=h;exact⟨b,t',h1,h2.q_ hb,h3,h4.q_ hb⟩
theorem TT.q_ {base ta tk col T v w w'} (h:TT base ta tk col T v w) (hb:Bl w w'):TT base ta tk col T v w':=by obtain⟨aw,cw,T',h1,h2,h3,h4⟩:=h;exact⟨aw,cw,T',h1,h2,h3.q_ hb,h4⟩
theorem TR.q_ {base t v w w'} (h:TR base t v w) (hb:Bl w w'):TR base t v w':=by obtain⟨t',h1,h2,h3,h4⟩:=h;exact⟨t',h1,h2,h3.q_ hb,h4⟩
theorem TRs.q_ {base t v w w'} (h:TRs base t v w) (hb:Bl w w'):TRs base t v w':=by obtain⟨b,t',h1,h2,h3,h4,h5⟩:=h;exact⟨b,t',h1,h2.q_ hb,h3,h4.q_ hb,h5⟩
structure TwC (w:World) (base b1 b2 b3:Nat) (P Z:List Value) (so:Bool) (zx:Option Addr) (zn zc:Nat) (zy:Option Addr) (zm zd:Nat) (oN:Nm) (C:Nat->Lc) (wr:World) (i:Nat) (C':Nat->Lc) (vC:Value):Prop where
 bel:Bl w wr
 p1:Bk wr b1 P 28
 p2:Bk wr b2 Z 28
 p3:Bk wr b3 [.bool so,slice zx zn zc,slice zy zm zd,vC,slice none 0 0] 28
 bs:base<=wr.heap.size
 off:NmB wr oN
 row:RowG 60 12 base wr vC i (ccs C' i)
 el:∀j,j<i->Sc (C j) (C' j)/\LcB wr (C' j)
theorem TwC.q_ {w base b1 b2 b3 P Z so zx zn zc zy zm zd oN C wr i C' vC w'} (h:TwC w base b1 b2 b3 P Z so zx zn zc zy zm zd oN C wr i C' vC) (hb:Bl wr w'):TwC w base b1 b2 b3 P Z so zx zn zc zy zm zd oN C w' i C' vC :=
 ⟨h.bel.trans (hb.mono h.bel.size),h.p1.q_ hb,h.p2.q_ hb,h.p3.q_ hb,le_trans h.bs hb.size,h.off.q_ hb,h.row.q_ hb,λj hj=>⟨(h.el j hj).1,(h.el j hj).2.q_ hb⟩⟩
theorem TwC.next {w base b1 b2 b3 P Z so zx zn zc zy zm zd oN C wr i C' vC w8 g8 cap8 c'} (h:TwC w base b1 b2 b3 P Z so zx zn zc zy zm zd oN C wr i C' vC) (h12:b1<b2) (h23:b2<b3) (h3b:b3<base) (hwb:w.heap.size<=b1) (hs:Sc (C i) c') (hc:LcB wr c') (hr:RowG 60 12 base w8 (slice (some ⟨g8,0,none⟩) (i+1) cap8) (i+1) (ccs C' i++c'.vs)) (hk:Kp wr w8) (hg:wr.grownBy w8 vC.ownBlock) :
  TwC w base b1 b2 b3 P Z so zx zn zc zy zm zd oN C (w8.setCell ⟨b3,3,none⟩ (slice (some ⟨g8,0,none⟩) (i+1) cap8)) (i+1) (putC C' i c') (slice (some ⟨g8,0,none⟩) (i+1) cap8):=by
 have hbs:=h.bs;have hlt:∀k,k<base->w8.heap[k]?=wr.heap[k]?:=λk hk=>hg.block k (by omega) (λe=>by have:=(h.row.lt k e.symm).1;omega)
 have hset:∀k,k≠b3->(w8.setCell ⟨b3,3,none⟩ (slice (some ⟨g8,0,none⟩) (i+1) cap8)).heap[k]?=w8.heap[k]?:=λk hk=>Below.heap_setCell _ _ _ _ hk
 have hp3:Bk w8 b3 [.bool so,slice zx zn zc,slice zy zm zd,vC,slice none 0 0] 28:=h.p3.of (hlt b3 h3b);have hg8:=(hr.lt g8 rfl).1;have hk9:Kp wr (w8.setCell ⟨b3,3,none⟩ (slice (some ⟨g8,0,none⟩) (i+1) cap8)):=hk.set (x:=⟨b3,3,none⟩) hp3 (by obtain⟨aw,cw,e⟩:=h.row.slice;rw[e];exact zjb _ _ _ _ _ _ _ _ _ _ _ _ _) _;refine⟨?_,h.p1.of ((hset b1 (by omega)).trans (hlt b1 (by omega))),h.p2.of ((hset b2 (by omega)).trans (hlt b2 (by omega))),hp3.set 3 _,le_trans hbs hk9.size,h.off.kp hk9,?_,λj hj=>?_⟩
 ·have h8:Bl w w8:=h.bel.grown hg (by have:=h.bel.size;omega) (λk e=>by have:=(h.row.lt k e).1;omega);exact zL h8 h8.size ((Turned.refl w.heap.size (b3+1) w8).set (x:=⟨b3,3,none⟩) (by show w.heap.size<=b3;omega) (by simp) _) (le_refl _)
 ·rw[zkP];exact hr.of (λk hk=>hset k (λe=>by have:g8=k:=(by simpa[Value.ownBlock]using hk);omega))
 ·by_cases e:j=i
  ·subst e;rw[zgM];exact⟨hs,hc.kp hk9⟩
  ·rw[zgL e];exact⟨(h.el j (by omega)).1,(h.el j (by omega)).2.kp hk9⟩
structure TwR (w:World) (base base2 b2 b3:Nat) (Z:List Value) (so:Bool) (zx:Option Addr) (zn zc:Nat) (zy:Option Addr) (zm zd:Nat) (oN:Nm) (C:Nat->Lc) (ck:Nat) (C':Nat->Lc) (vC:Value) (R:Nat->Lr) (wr:World) (i:Nat) (R':Nat->Lr) (vR:Value):Prop where
 bel:Bl w wr
 p2:Bk wr b2 Z 28
 p3:Bk wr b3 [.bool so,slice zx zn zc,slice zy zm zd,vC,vR] 28
 bs:base2<=wr.heap.size
 off:NmB wr oN
 rowC:RowG 60 12 base wr vC ck (ccs C' ck)
 elC:∀j,j<ck->Sc (C j) (C' j)/\LcB wr (C' j)
 nv:∀k,vC.ownBlock=some k->k<base2
 row:RowG 63 10 base2 wr vR i (rcs R' i)
 el:∀j,j<i->Sr (R j) (R' j)/\LrB wr (R' j)/\((R' j).tk≠0->∀b o s,(R' j).ta=some ⟨b,o,s⟩->base2<=b/\vR.ownBlock≠some b)
theorem TwR.q_ {w base base2 b2 b3 Z so zx zn zc zy zm zd oN C ck C' vC R wr i R' vR w'} (h:TwR w base base2 b2 b3 Z so zx zn zc zy zm zd oN C ck C' vC R wr i R' vR) (hb:Bl wr w'):TwR w base base2 b2 b3 Z so zx zn zc zy zm zd oN C ck C' vC R w' i R' vR :=
 ⟨h.bel.trans (hb.mono h.bel.size),h.p2.q_ hb,h.p3.q_ hb,le_trans h.bs hb.size,h.off.q_ hb,h.rowC.q_ hb,λj hj=>⟨(h.elC j hj).1,(h.elC j hj).2.q_ hb⟩,h.nv,h.row.q_ hb,λj hj=>⟨(h.el j hj).1,(h.el j hj).2.1.q_ hb,(h.el j hj).2.2⟩⟩
theorem Tr.lt {w ta tk col T} (h:Tr w ta tk col T) (hk:tk≠0):∀b o s,ta=some ⟨b,o,s⟩->b<w.heap.size:=λb o s e=>by
 obtain⟨b',o',e',h4,_⟩:=h 0 (by omega);rw[e]at e';cases e'
 exact block_lt_of_cell? w _ h4.x0
theorem TwR.next {w base base2 b2 b3 Z so zx zn zc zy zm zd oN C ck C' vC R wr i R' vR w8 g8 cap8 r'} (h:TwR w base base2 b2 b3 Z so zx zn zc zy zm zd oN C ck C' vC R wr i R' vR) (h23:b2<b3) (h3b:b3<base2) (hbb:b3<base) (hwb:w.heap.size<=b2) (hs:Sr (R i) r') (hc:LrB wr r') (hta:r'.tk≠0->∀b o s,r'.ta=some ⟨b,o,s⟩->base2<=b/\vR.ownBlock≠some b) (hr:RowG 63 10 base2 w8 (slice (some ⟨g8,0,none⟩) (i+1) cap8) (i+1) (rcs R' i++r'.vs)) (hk:Kp wr w8) (hg:wr.grownBy w8 vR.ownBlock) (hl:vR.ownBlock=some g8∨wr.heap.size<=g8) :
  TwR w base base2 b2 b3 Z so zx zn zc zy zm zd oN C ck C' vC R (w8.setCell ⟨b3,4,none⟩ (slice (some ⟨g8,0,none⟩) (i+1) cap8)) (i+1) (zdE R' i r') (slice (some ⟨g8,0,none⟩) (i+1) cap8):=by
 have hbs:=h.bs;have hlt:∀k,k<base2->w8.heap[k]?=wr.heap[k]?:=λk hk=>hg.block k (by omega) (λe=>by have:=(h.row.lt k e.symm).1;omega)
 have hset:∀k,k≠b3->(w8.setCell ⟨b3,4,none⟩ (slice (some ⟨g8,0,none⟩) (i+1) cap8)).heap[k]?=w8.heap[k]?:=λk hk=>Below.heap_setCell _ _ _ _ hk
 have hp3:Bk w8 b3 [.bool so,slice zx zn zc,slice zy zm zd,vC,vR] 28:=h.p3.of (hlt b3 h3b);have hg8:=(hr.lt g8 rfl).1;have hk9:Kp wr (w8.setCell ⟨b3,4,none⟩ (slice (some ⟨g8,0,none⟩) (i+1) cap8)):=hk.set (x:=⟨b3,4,none⟩) hp3 (by obtain⟨aw,cw,e⟩:=h.row.slice;obtain⟨aw2,cw2,e2⟩:=h.rowC.slice;rw[e,e2];exact zjb _ _ _ _ _ _ _ _ _ _ _ _ _) _;have hta8:∀r:Lr,LrB wr r->(r.tk≠0->∀b o s,r.ta=some ⟨b,o,s⟩->base2<=b/\vR.ownBlock≠some b)->LrB (w8.setCell ⟨b3,4,none⟩ (slice (some ⟨g8,0,none⟩) (i+1) cap8)) r/\(r.tk≠0->∀b o s,r.ta=some ⟨b,o,s⟩->base2<=b/\(Value.slice (some ⟨g8,0,none⟩) (i+1) cap8).ownBlock≠some b):=λr h1 h2=>by
  refine⟨h1.of (λh3 b o s e hb=>?_) hk9,λh3 b o s e=>?_⟩
  ·obtain⟨k1,k2⟩:=h2 h3 b o s e;rw[hset b (by omega)];exact hg.block b hb (λe=>k2 e.symm)
  ·obtain⟨k1,k2⟩:=h2 h3 b o s e;refine⟨k1,λe2=>?_⟩;have e3:g8=b:=by simpa[Value.ownBlock]using e2
   rcases hl with h4|h4
   ·exact k2 (e3 ▸ h4)
   ·have:=h1.tr.lt h3 b o s e;omega
 refine⟨?_,h.p2.of ((hset b2 (by omega)).trans (hlt b2 (by omega))),hp3.set 4 _,le_trans hbs hk9.size,h.off.kp hk9,h.rowC.of (λk hk=>?_),λj hj=>⟨(h.elC j hj).1,(h.elC j hj).2.kp hk9⟩,h.nv,?_,λj hj=>?_⟩
 ·have h8:Bl w w8:=h.bel.grown hg (by have:=h.bel.size;omega) (λk e=>by have:=(h.row.lt k e).1;omega);exact zL h8 h8.size ((Turned.refl w.heap.size (b3+1) w8).set (x:=⟨b3,4,none⟩) (by show w.heap.size<=b3;omega) (by simp) _) (le_refl _)
 ·have:=(h.rowC.lt k hk).1;rw[hset k (by omega)];exact hlt k (h.nv k hk)
 ·rw[zkd];exact hr.of (λk hk=>hset k (λe=>by have:g8=k:=(by simpa[Value.ownBlock]using hk);omega))
 ·by_cases e:j=i
  ·subst e;rw[zfi];exact⟨hs,hta8 r' hc hta⟩
  ·rw[zfh e];exact⟨(h.el j (by omega)).1,hta8 _ (h.el j (by omega)).2.1 (h.el j (by omega)).2.2⟩
theorem TwR.done {w base base2 b2 b3 so zx zn zc zy zm zd oN C ck C' R rk R' wr aC cC aR cR w9 ca cc ra rc v0 v1 v2 v3 v4 N} (h:TwR w base base2 b2 b3 [.bool false,slice none 0 0,slice none 0 0,slice none 0 0,slice none 0 0] so zx zn zc zy zm zd oN C ck C' (slice aC ck cC) R wr rk R' (slice aR rk cR)) (h2:b2<base) (h22:b2<base2) (hwb:w.heap.size<=b2) (e:w9=((((wr.setCell ⟨b2,0,none⟩ v0).setCell ⟨b2,1,none⟩ v1).setCell ⟨b2,2,none⟩ v2).setCell ⟨b2,3,none⟩ v3).setCell ⟨b2,4,none⟩ v4) (ho:Sn N oN) (hck:ck<=703687441776) (hrk:rk<=837723144971) :
  Bl w w9/\Sm ⟨N,ca,ck,cc,C,ra,rk,rc,R⟩ ⟨oN,aC,ck,cC,C',aR,rk,cR,R'⟩/\MoX w9 ⟨oN,aC,ck,cC,C',aR,rk,cR,R'⟩:=by
 obtain⟨hk,hne⟩:=zjh h.p2 (zjb _ _ _ _ _ _ _ _ _ _ _ _ _) e;refine⟨by rw[e];exact zeg h.bel hwb,⟨ho,rfl,λj hj=>(h.elC j hj).1,rfl,λj hj=>(h.el j hj).1⟩,h.off.kp hk,λj hj=>?_,λj hj=>?_,hck,hrk⟩
 ·rcases h.rowC.2 with⟨_,h0⟩|⟨gb,cap,cur,hv,hb,_⟩
  ·exact absurd hj (by rw[h0];exact Nat.not_lt_zero _)
  ·have hr:=h.rowC.of (w':=w9) (λk hk=>hne k (by have:=(h.rowC.lt k hk).1;omega));cases hv
   refine⟨gb,0,rfl,λq v hq=>?_,(h.elC j hj).2.kp hk⟩;rw[zero_add];exact hr.cells (zho hq hj)
 ·rcases h.row.2 with⟨_,h0⟩|⟨gb,cap,cur,hv,hb,_⟩
  ·exact absurd hj (by rw[h0];exact Nat.not_lt_zero _)
  ·have hr:=h.row.of (w':=w9) (λk hk=>hne k (by have:=(h.row.lt k hk).1;omega));cases hv
   refine⟨gb,0,rfl,λq v hq=>?_,(h.el j hj).2.1.of (λh3 b o s e _=>hne b (by have:=((h.el j hj).2.2 h3 b o s e).1;omega)) hk⟩;rw[zero_add];exact hr.cells (zgI hq hj)
theorem zpp {w M} (h:MoX w M):Calls prog 7 #[M.val] w λe w'=>∃M':Mo,e=.returned M'.val/\Bl w w'/\Sm M M'/\MoX w' M':=by
 generalize hP:(λ(e:Ending) (w':World)=>∃M':Mo,e=.returned M'.val/\Bl w w'/\Sm M M'/\MoX w' M')=P;have HA:Hid (∀w' (M':Mo),Bl w w'->Sm M M'->MoX w' M'->P (.returned M'.val) w'):=by subst hP;exact λw' M' h1 h2 h3=>⟨M',rfl,h1,h2,h3⟩
 clear hP;obtain⟨ho,hC,hR,hck,hrk⟩:=h;obtain⟨⟨s,x,n,c,f,y,m,d,g⟩,ca,ck,cc,C,ra,rk,rc,R⟩:=M;replace hck:ck<=703687441776:=hck;replace hrk:rk<=837723144971:=hrk;have HC:Hid (Cl9 w ca ck C):=hC;have HRL:Hid (Rl9 w ra rk R):=hR;have CO:=zk (λw' (hw:Bl w w')=>zdB (w:=w') (s:=s) (ho.q_ hw).1 ho.2.1 ho.2.2);have HO:=zk ho.2;clear ho hC hR;show Calls prog 7 #[.agg #[.bool s,slice x n c,slice y m d,slice ca ck cc,slice ra rk rc]] w _;go_enter func7,ntmps7;go_wp2_with fail
 have hb1:=zu (zB w (cells #[.bool s,slice x n c,slice y m d,slice ca ck cc,slice ra rk rc] 28)) (cells #[.bool false,slice none 0 0,slice none 0 0,slice none 0 0,slice none 0 0] 28);have B1:=(zF w [.bool s,slice x n c,slice y m d,slice ca ck cc,slice ra rk rc] 28).q_ (zu (Below.refl _ _) (cells #[.bool false,slice none 0 0,slice none 0 0,slice none 0 0,slice none 0 0] 28));have B2:=zF (w.alloc (cells #[.bool s,slice x n c,slice y m d,slice ca ck cc,slice ra rk rc] 28)) [.bool false,slice none 0 0,slice none 0 0,slice none 0 0,slice none 0 0] 28;rw[zw]at B2
 replace B1:Bk ((w.alloc (cells #[.bool s,slice x n c,slice y m d,slice ca ck cc,slice ra rk rc] 28)).alloc (cells #[.bool false,slice none 0 0,slice none 0 0,slice none 0 0,slice none 0 0] 28)) w.heap.size [.bool s,slice x n c,slice y m d,slice ca ck cc,slice ra rk rc] 28:=B1;replace B2:Bk ((w.alloc (cells #[.bool s,slice x n c,slice y m d,slice ca ck cc,slice ra rk rc] 28)).alloc (cells #[.bool false,slice none 0 0,slice none 0 0,slice none 0 0,slice none 0 0] 28)) (w.heap.size+1) [.bool false,slice none 0 0,slice none 0 0,slice none 0 0,slice none 0 0] 28:=B2;generalize(w.alloc (cells #[.bool s,slice x n c,slice y m d,slice ca ck cc,slice ra rk rc] 28)).alloc (cells #[.bool false,slice none 0 0,slice none 0 0,slice none 0 0,slice none 0 0] 28)=w1 at *;refine(CO.out _ hb1).mono ?_;rintro e w2 ⟨z2,c2,y2,d2,rfl,hb2,hq⟩;have B3:=zF w2 [.bool s,slice z2 n c2,slice y2 m d2,slice none 0 0,slice none 0 0] 28;have hb3:=zB w2 (cells #[.bool s,slice z2 n c2,slice y2 m d2,slice none 0 0,slice none 0 0] 28);have l1:=B1.lt;have l2:=B2.lt;have l3:=hb2.size
 replace B1:=(B1.q_ hb2).q_ hb3;replace B2:=(B2.q_ hb2).q_ hb3
 have HB3:=zk ((bUp hb1 hb2).trans (hb3.mono (le_trans hb1.size hb2.size)));have HQ:Hid (NmB (w2.alloc (cells #[.bool s,slice z2 n c2,slice y2 m d2,slice none 0 0,slice none 0 0] 28)) ⟨s,z2,n,c2,f,y2,m,d2,g⟩):=⟨hq.out.q_ hb3,HO.out⟩;have k3:=B1.cell (j:=3) rfl;have HB1:=zk B1;have HB2:=zk B2
 obtain⟨b3,hb3e⟩:∃z,w2.heap.size=z:=⟨_,rfl⟩;have hl3:w.heap.size+1<b3:=by omega
 have hbs:b3<(w2.alloc (cells #[.bool s,slice z2 n c2,slice y2 m d2,slice none 0 0,slice none 0 0] 28)).heap.size:=by simp;omega
 clear hb1 hb2 hb3 B1 B2 CO hq l1 l2 l3;go_wp2_with fail
 generalize w2.alloc (cells #[.bool s,slice z2 n c2,slice y2 m d2,slice none 0 0,slice none 0 0] 28)=w3 at *;rw[hb3e]at B3
 obtain⟨base,hbase⟩:∃z,w3.heap.size=z:=⟨_,rfl⟩;have hbb:b3<base:=by omega
 have HI0:Hid (TwC w base w.heap.size (w.heap.size+1) b3 [.bool s,slice x n c,slice y m d,slice ca ck cc,slice ra rk rc] [.bool false,slice none 0 0,slice none 0 0,slice none 0 0,slice none 0 0] s z2 n c2 y2 m d2 ⟨s,z2,n,c2,f,y2,m,d2,g⟩ C w3 0 C (slice none 0 0)):=⟨HB3.out,HB1.out,HB2.out,B3,by omega,HQ.out,zak _ _ _ _,λj hj=>by omega⟩;clear HB3 HB1 HB2 B3 HQ k3 hb3e hbs hbase;go_loopw[15] (λt wr=>∃(i:Nat) (C':Nat->Lc) (vC:Value),i<=ck/\t=.int .i64 i/\Hid (TwC w base w.heap.size (w.heap.size+1) b3 [.bool s,slice x n c,slice y m d,slice ca ck cc,slice ra rk rc] [.bool false,slice none 0 0,slice none 0 0,slice none 0 0,slice none 0 0] s z2 n c2 y2 m d2 ⟨s,z2,n,c2,f,y2,m,d2,g⟩ C wr i C' vC)) (λt _=>ck-(intOf t).toNat)
 case atStart=>exact⟨0,C,_,by omega,rfl,HI0.out⟩
 case round =>
  obtain⟨i,C',vC,hi,rfl,HI⟩:=hrel;clear HI0;by_cases hlt:i<ck
  ·obtain⟨b,o,rfl,hc,hn⟩:=(HC.out.q_ HI.out.bel) i hlt;obtain⟨cN,hcN⟩:∃t,C i=t:=⟨_,rfl⟩;rw[hcN]at hc hn
   have HCN:=zk hcN;obtain⟨z,⟨s0,x0,n0,c0,f0,y0,m0,d0,g0⟩,⟨i1,⟨s1,x1,n1,c1,f1,y1,m1,d1,g1⟩⟩,⟨i2,⟨s2,x2,n2,c2',f2,y2',m2,d2',g2⟩⟩⟩:=cN;obtain⟨hn0,hn1,hn2⟩:=hn;obtain⟨q0,q1,q2,q3,q4,q5,q6,q7,q8,q9,q10,q11⟩:=hc.lc;have HN0:Hid (NmB wr ⟨s0,x0,n0,c0,f0,y0,m0,d0,g0⟩):=hn0;have HN1:Hid (NmB wr ⟨s1,x1,n1,c1,f1,y1,m1,d1,g1⟩):=hn1;have HN2:Hid (NmB wr ⟨s2,x2,n2,c2',f2,y2',m2,d2',g2⟩):=hn2;have i1':((i:Nat):Int)<((ck:Nat):Int):=by omega
   clear hcN hc hn0 hn1 hn2;go_upto_region 5 with fail
   have hb5:=Below.drew (zB wr (cells #[.string z,.bool s0,slice x0 n0 c0,slice y0 m0 d0,.int .i64 i1,.bool s1,slice x1 n1 c1,slice y1 m1 d1,.int .i64 i2,.bool s2,slice x2 n2 c2',slice y2' m2 d2'] 60));have B5:Bk (wr.alloc (cells #[.string z,.bool s0,slice x0 n0 c0,slice y0 m0 d0,.int .i64 i1,.bool s1,slice x1 n1 c1,slice y1 m1 d1,.int .i64 i2,.bool s2,slice x2 n2 c2',slice y2' m2 d2'] 60)).drew wr.heap.size [.string z,.bool s0,slice x0 n0 c0,slice y0 m0 d0,.int .i64 i1,.bool s1,slice x1 n1 c1,slice y1 m1 d1,.int .i64 i2,.bool s2,slice x2 n2 c2',slice y2' m2 d2'] 60:=zF wr [.string z,.bool s0,slice x0 n0 c0,slice y0 m0 d0,.int .i64 i1,.bool s1,slice x1 n1 c1,slice y1 m1 d1,.int .i64 i2,.bool s2,slice x2 n2 c2',slice y2' m2 d2'] 60;have hne:vC.ownBlock≠some wr.heap.size:=λe=>by have:=(HI.out.row.lt _ e).2;omega
   have hbz:=HI.out.bs;replace HI:=zk (HI.out.q_ hb5);replace HN0:=zk (HN0.out.q_ hb5);replace HN1:=zk (HN1.out.q_ hb5);replace HN2:=zk (HN2.out.q_ hb5)
   obtain⟨a0,a1,a2,a3,a4,a5,a6,a7,a8,a9,a10,a11⟩:=zee B5;have HB5:=zk B5;obtain⟨bk,hbk⟩:∃z,wr.heap.size=z:=⟨_,rfl⟩;simp only[hbk]at *;clear hb5 hbk q0 q1 q2 q3 q4 q5 q6 q7 q8 q9 q10 q11 B5;refine wp_region_held_drew (S:=(λw'=>w'.cell? ⟨bk,0,none⟩=some (.string z)/\w'.cell? ⟨bk,1,none⟩=some (.bool s0)/\w'.cell? ⟨bk,2,none⟩=some (slice x0 n0 c0)/\w'.cell? ⟨bk,3,none⟩=some (slice y0 m0 d0)/\w'.cell? ⟨bk,4,none⟩=some (.int .i64 i1)/\w'.cell? ⟨bk,5,none⟩=some (.bool s1)/\w'.cell? ⟨bk,6,none⟩=some (slice x1 n1 c1)/\w'.cell? ⟨bk,7,none⟩=some (slice y1 m1 d1)/\w'.cell? ⟨bk,8,none⟩=some (.int .i64 i2)/\w'.cell? ⟨bk,9,none⟩=some (.bool s2)/\w'.cell? ⟨bk,10,none⟩=some (slice x2 n2 c2')/\w'.cell? ⟨bk,11,none⟩=some (slice y2' m2 d2'))) (by kernel_rfl) ?_ (λhHeld=>?_)
   ·exact⟨a0,a1,a2,a3,a4,a5,a6,a7,a8,a9,a10,a11⟩
   generalize hwd:(wr.alloc (cells #[.string z,.bool s0,slice x0 n0 c0,slice y0 m0 d0,.int .i64 i1,.bool s1,slice x1 n1 c1,slice y1 m1 d1,.int .i64 i2,.bool s2,slice x2 n2 c2',slice y2' m2 d2'] 60)).drew=wd at *;clear hwd;refine zK 0 ?_;refine zK 2 ?_;refine zK 3 ?_;simp only[zA,Act.put];refine zK 4 ?_;refine zK 5 ?_;refine zK 7 ?_;simp only[zA,Act.put];refine zK 8 ?_;refine zK 10 ?_;refine zK 11 ?_;simp only[zA,Act.put];refine(show wpAnyH _ _ _ _ _ (6+3) _ _ _ from zbO (λj v w=>match j with|1=>vC=v|6=>TN ⟨s0,x0,n0,c0,f0,y0,m0,d0,g0⟩ v w|9=>TE ⟨i1,⟨s1,x1,n1,c1,f1,y1,m1,d1,g1⟩⟩ v w|12=>TE ⟨i2,⟨s2,x2,n2,c2',f2,y2',m2,d2',g2⟩⟩ v w|13=>TC ⟨z,⟨s0,x0,n0,c0,f0,y0,m0,d0,g0⟩,⟨i1,⟨s1,x1,n1,c1,f1,y1,m1,d1,g1⟩⟩,⟨i2,⟨s2,x2,n2,c2',f2,y2',m2,d2',g2⟩⟩⟩ v w|14=>TCs ⟨z,⟨s0,x0,n0,c0,f0,y0,m0,d0,g0⟩,⟨i1,⟨s1,x1,n1,c1,f1,y1,m1,d1,g1⟩⟩,⟨i2,⟨s2,x2,n2,c2',f2,y2',m2,d2',g2⟩⟩⟩ v w|_=>True) [(1,20),(6,25),(9,28),(12,31),(13,32),(14,33)] [1,6,9,12,13,14] [15,16,17] _ _ _ 3 ?k1 ?k4 ?k2 ?k3 ?k5 ?k6 ?k8)
   case k1=>kernel_rfl
   case k4=>kernel_rfl
   case k2=>exact λw w' h hb=>⟨kCb hb h.1,kCb hb h.2.1,kCb hb h.2.2.1,kCb hb h.2.2.2.1,kCb hb h.2.2.2.2.1,kCb hb h.2.2.2.2.2.1,kCb hb h.2.2.2.2.2.2.1,kCb hb h.2.2.2.2.2.2.2.1,kCb hb h.2.2.2.2.2.2.2.2.1,kCb hb h.2.2.2.2.2.2.2.2.2.1,kCb hb h.2.2.2.2.2.2.2.2.2.2.1,kCb hb h.2.2.2.2.2.2.2.2.2.2.2⟩
   case k3 =>
    intro j v w w' h hb
    split at h <;> first|exact TN.q_ h hb|exact TE.q_ h hb|exact TC.q_ h hb|exact TCs.q_ h hb|exact h|trivial
   case k8=>exact hHeld
   case k5 =>
    intro i hi;simp only[List.mem_cons,List.not_mem_nil,or_false]at hi;rcases hi with rfl|rfl|rfl|rfl|rfl|rfl
    ·refine⟨_,rfl,λu w5 hS hb5 hd K hK=>?_⟩;have k5:=(HI.out.p3.q_ hb5).cell (j:=3) rfl;simp only[zbl,zA,Act.put]at hK ⊢;go_simp;exact hK.out _ _ (Below.refl _ _) rfl
    ·refine⟨_,rfl,λu w5 hS hb5 hd K hK=>?_⟩;simp only[zbl,zA,Act.put]at hK ⊢;go_simp
     go_at_call 23
     refine(zdB (HN0.out.q_ hb5).1 HN0.out.2.1 HN0.out.2.2).mono ?_;rintro e w6 ⟨zp,cp,zq,cq,rfl,hb6,hq⟩
     (try go_wp2_with fail)
     exact hK.out _ _ hb6 ⟨⟨s0,zp,n0,cp,f0,zq,m0,cq,g0⟩,rfl,⟨rfl,rfl,rfl,rfl,rfl⟩,hq.out,HN0.out.2⟩
    ·refine⟨_,rfl,λu w5 hS hb5 hd K hK=>?_⟩;simp only[zbl,zA,Act.put]at hK ⊢;go_simp
     go_at_call 24
     refine(zes (HN1.out.q_ hb5).1 HN1.out.2.1 HN1.out.2.2).mono ?_;rintro e w6 ⟨zp,cp,zq,cq,rfl,hb6,hq⟩
     (try go_wp2_with fail)
     exact hK.out _ _ hb6 ⟨⟨i1,⟨s1,zp,n1,cp,f1,zq,m1,cq,g1⟩⟩,rfl,rfl,⟨rfl,rfl,rfl,rfl,rfl⟩,hq,HN1.out.2⟩
    ·refine⟨_,rfl,λu w5 hS hb5 hd K hK=>?_⟩;simp only[zbl,zA,Act.put]at hK ⊢;go_simp
     go_at_call 24
     refine(zes (HN2.out.q_ hb5).1 HN2.out.2.1 HN2.out.2.2).mono ?_;rintro e w6 ⟨zp,cp,zq,cq,rfl,hb6,hq⟩
     (try go_wp2_with fail)
     exact hK.out _ _ hb6 ⟨⟨i2,⟨s2,zp,n2,cp,f2,zq,m2,cq,g2⟩⟩,rfl,rfl,⟨rfl,rfl,rfl,rfl,rfl⟩,hq,HN2.out.2⟩
    ·refine⟨_,rfl,λu w5 hS hb5 hd K hK=>?_⟩;have h6:TN ⟨s0,x0,n0,c0,f0,y0,m0,d0,g0⟩ (u 6) w5:=hd 6 (by kernel_rfl) (by kernel_rfl);obtain⟨⟨sa6,xa6,na6,ca6,fa6,ya6,ma6,da6,ga6⟩,e6,hs6,hv6⟩:=h6;replace e6:u 6=.agg #[.bool sa6,slice xa6 na6 ca6,slice ya6 ma6 da6]:=e6;have h9:TE ⟨i1,⟨s1,x1,n1,c1,f1,y1,m1,d1,g1⟩⟩ (u 9) w5:=hd 9 (by kernel_rfl) (by kernel_rfl);obtain⟨⟨ia9,⟨sa9,xa9,na9,ca9,fa9,ya9,ma9,da9,ga9⟩⟩,e9,hi9,hs9,hv9⟩:=h9;replace e9:u 9=.agg #[.int .i64 ia9,.bool sa9,slice xa9 na9 ca9,slice ya9 ma9 da9]:=e9;have h12:TE ⟨i2,⟨s2,x2,n2,c2',f2,y2',m2,d2',g2⟩⟩ (u 12) w5:=hd 12 (by kernel_rfl) (by kernel_rfl);obtain⟨⟨ia12,⟨sa12,xa12,na12,ca12,fa12,ya12,ma12,da12,ga12⟩⟩,e12,hi12,hs12,hv12⟩:=h12;replace e12:u 12=.agg #[.int .i64 ia12,.bool sa12,slice xa12 na12 ca12,slice ya12 ma12 da12]:=e12;simp only[zbl,zA,Act.put]at hK ⊢;simp only[e6,e9,e12]at hK ⊢;go_simp;exact hK.out _ _ (Below.refl _ _) ⟨⟨z,⟨sa6,xa6,na6,ca6,fa6,ya6,ma6,da6,ga6⟩,⟨ia9,⟨sa9,xa9,na9,ca9,fa9,ya9,ma9,da9,ga9⟩⟩,⟨ia12,⟨sa12,xa12,na12,ca12,fa12,ya12,ma12,da12,ga12⟩⟩⟩,rfl,⟨rfl,hs6,hi9,hs9,hi12,hs12⟩,hv6,hv9,hv12⟩
    ·refine⟨_,rfl,λu w5 hS hb5 hd K hK=>?_⟩;have h13:TC ⟨z,⟨s0,x0,n0,c0,f0,y0,m0,d0,g0⟩,⟨i1,⟨s1,x1,n1,c1,f1,y1,m1,d1,g1⟩⟩,⟨i2,⟨s2,x2,n2,c2',f2,y2',m2,d2',g2⟩⟩⟩ (u 13) w5:=hd 13 (by kernel_rfl) (by kernel_rfl);obtain⟨⟨zj,⟨sb,xb,nb,cb,fb,yb,mb,db,gb⟩,⟨ic,⟨sc,xc,nc,cc9,fc,yc,mc,dc,gc⟩⟩,⟨ie,⟨sd,xd,nd,cd,fd,yd,md,dd,gd⟩⟩⟩,e13,hs,hv⟩:=h13;replace e13:u 13=.agg #[.string zj,.bool sb,slice xb nb cb,slice yb mb db,.int .i64 ic,.bool sc,slice xc nc cc9,slice yc mc dc,.int .i64 ie,.bool sd,slice xd nd cd,slice yd md dd]:=e13;simp only[zbl,zA,Act.put]at hK ⊢;simp only[e13]at hK ⊢;go_simp;have hn:=zB w5 (cells #[.string zj,.bool sb,slice xb nb cb,slice yb mb db,.int .i64 ic,.bool sc,slice xc nc cc9,slice yc mc dc,.int .i64 ie,.bool sd,slice xd nd cd,slice yd md dd] 60);have hx:=zdt w5 60 [.string zj,.bool sb,slice xb nb cb,slice yb mb db,.int .i64 ic,.bool sc,slice xc nc cc9,slice yc mc dc,.int .i64 ie,.bool sd,slice xd nd cd,slice yd md dd] [.string zj,.bool sb,slice xb nb cb,slice yb mb db,.int .i64 ic,.bool sc,slice xc nc cc9,slice yc mc dc,.int .i64 ie,.bool sd,slice xd nd cd,slice yd md dd] 0 (λj v e=>by rw[zero_add];exact e);exact hK.out _ _ hn ⟨w5.heap.size,⟨zj,⟨sb,xb,nb,cb,fb,yb,mb,db,gb⟩,⟨ic,⟨sc,xc,nc,cc9,fc,yc,mc,dc,gc⟩⟩,⟨ie,⟨sd,xd,nd,cd,fd,yd,md,dd,gd⟩⟩⟩,rfl,hx,hs,hv.q_ hn⟩
   case k6 =>
    intro u w5 hS5 hb5 hg;have h1:vC=u 1:=hg 1 (by simp);have h14:TCs ⟨z,⟨s0,x0,n0,c0,f0,y0,m0,d0,g0⟩,⟨i1,⟨s1,x1,n1,c1,f1,y1,m1,d1,g1⟩⟩,⟨i2,⟨s2,x2,n2,c2',f2,y2',m2,d2',g2⟩⟩⟩ (u 14) w5:=hg 14 (by simp);obtain⟨b14,⟨zj,⟨sb,xb,nb,cb,fb,yb,mb,db,gb⟩,⟨ic,⟨sc,xc,nc,cc9,fc,yc,mc,dc,gc⟩⟩,⟨ie,⟨sd,xd,nd,cd,fd,yd,md,dd,gd⟩⟩⟩,e14,hcs,hsc,hlc⟩:=h14;replace HI:=zk (HI.out.q_ hb5);obtain⟨i0,hi0,hz0,hz1,hz2⟩:=info_parts zpC;obtain⟨t0,t1,t2,t3,t4,t5,t6,t7,t8,t9,t10,t11⟩:=id hS5;have hbl:=block_lt_of_cell? w5 _ t0;replace hbl:bk<w5.heap.size:=hbl;clear hg;simp only[zbl,zA,Act.put];simp only[<-h1,e14];clear h1 e14;refine rdO 15 (λK hK=>?_);refine zaW w5 rfl (.tmp 20) (.tmp 33) 25 rfl base 60 i0 zC 12 200 underlying25 hi0 hz0 hz1 hz2 rfl (by decide) nzC vC i (ccs C' i) rfl HI.out.row ⟨b14,0,none⟩ 1 1 (Lc.vs ⟨zj,⟨sb,xb,nb,cb,fb,yb,mb,db,gb⟩,⟨ic,⟨sc,xc,nc,cc9,fc,yc,mc,dc,gc⟩⟩,⟨ie,⟨sd,xd,nd,cd,fd,yd,md,dd,gd⟩⟩⟩) rfl rfl ?n1 (zjJ _) (zgr _) (by decide) ?p1 ?p2 HI.out.bs ?_
    case n1=>intro j u hu;rw[addr_add];exact hcs j u hu
    case p1=>unfold maxLen;omega
    case p2=>omega
    intro g8 cap8 w8 hr8 hgr8 hk8 hl8;have hB8:=hgr8.block bk hbl (λe=>hne e.symm);have e0:=(cell?_of_block (a:=⟨bk,0,none⟩) hB8).trans t0;have e1:=(cell?_of_block (a:=⟨bk,1,none⟩) hB8).trans t1;have e2:=(cell?_of_block (a:=⟨bk,2,none⟩) hB8).trans t2;have e3:=(cell?_of_block (a:=⟨bk,3,none⟩) hB8).trans t3;have e4:=(cell?_of_block (a:=⟨bk,4,none⟩) hB8).trans t4;have e5:=(cell?_of_block (a:=⟨bk,5,none⟩) hB8).trans t5;have e6:=(cell?_of_block (a:=⟨bk,6,none⟩) hB8).trans t6;have e7:=(cell?_of_block (a:=⟨bk,7,none⟩) hB8).trans t7;have e8:=(cell?_of_block (a:=⟨bk,8,none⟩) hB8).trans t8;have e9:=(cell?_of_block (a:=⟨bk,9,none⟩) hB8).trans t9;have e10:=(cell?_of_block (a:=⟨bk,10,none⟩) hB8).trans t10;have e11:=(cell?_of_block (a:=⟨bk,11,none⟩) hB8).trans t11;have hp8:=HI.out.p3.of (hgr8.block b3 HI.out.p3.lt (λe=>by have:=(HI.out.row.lt b3 e.symm).1;omega));have f0:=hp8.cell (j:=3) rfl;have ff:=hp8.frozen 3;refine hK.out _ _ ?_ (λhH8=>?_)
    ·exact⟨e0,e1,e2,e3,e4,e5,e6,e7,e8,e9,e10,e11⟩
    clear hK K;try simp only[Act.put,List.setIfInBounds_toArray]
    refine zK 16 ?_;simp only[zA,Act.put];refine rdO 17 (λK hK=>?_);go_simp;refine hK.out _ _ ?_ (λhH9=>?_)
    ·((try dsimp only);(refine⟨?_,?_,?_,?_,?_,?_,?_,?_,?_,?_,?_,?_⟩ <;> repeat(with_reducible first|assumption|refine kCs (by simp only[ne_eq];omega) ?_)))
    clear hK K;try simp only[Act.put]
    refine dnO ?_;have HI9:=zk (HI.out.next (by omega) (by omega) hbb (le_refl _) (by rw[HCN.out];exact hsc) hlc hr8 hk8 hgr8);clear hr8 hgr8 hk8 hl8 hB8 hp8 f0 ff hH8 hH9 HI hsc hlc hcs hHeld HB5 e0 e1 e2 e3 e4 e5 e6 e7 e8 e9 e10 e11;go_wp2;go_roundw
    case rel=>exact⟨i+1,_,_,by omega,by go_num,HI9.out⟩
    case measure=>simp[intOf];omega
  ·have e1:i=ck:=by omega
   have i2':¬(((i:Nat):Int)<((ck:Nat):Int)):=by omega
   rw[e1]at HI
   have k4:=HI.out.p1.cell (j:=4) rfl;obtain⟨base2,hbase2⟩:∃z,wr.heap.size=z:=⟨_,rfl⟩;have hb2:base<=base2:=by have:=HI.out.bs;omega
   have HI2:Hid (TwR w base base2 (w.heap.size+1) b3 [.bool false,slice none 0 0,slice none 0 0,slice none 0 0,slice none 0 0] s z2 n c2 y2 m d2 ⟨s,z2,n,c2,f,y2,m,d2,g⟩ C ck C' vC R wr 0 R (slice none 0 0)):=⟨HI.out.bel,HI.out.p2,HI.out.p3,by omega,HI.out.off,HI.out.row,HI.out.el,λk hk=>by have:=(HI.out.row.lt k hk).2;omega,zak _ _ _ _,λj hj=>by omega⟩;clear HI e1 HC hbase2;go_wp2_with fail
   go_loopw[40] (λt wr=>∃(i:Nat) (R':Nat->Lr) (vR:Value),i<=rk/\t=.int .i64 i/\Hid (TwR w base base2 (w.heap.size+1) b3 [.bool false,slice none 0 0,slice none 0 0,slice none 0 0,slice none 0 0] s z2 n c2 y2 m d2 ⟨s,z2,n,c2,f,y2,m,d2,g⟩ C ck C' vC R wr i R' vR)) (λt _=>rk-(intOf t).toNat)
   case atStart=>exact⟨0,R,_,by omega,rfl,HI2.out⟩
   case round =>
    obtain⟨i,R',vR,hi,rfl,HI⟩:=hrel;clear HI2 k4;by_cases hlt:i<rk
    ·obtain⟨b,o,rfl,hc,hn⟩:=(HRL.out.q_ HI.out.bel) i hlt;obtain⟨rN,hrN⟩:∃t,R i=t:=⟨_,rfl⟩;rw[hrN]at hc hn
     have HRN:=zk hrN;obtain⟨z,⟨i1,⟨s1,x1,n1,c1,f1,y1,m1,d1,g1⟩⟩,⟨i2,⟨s2,x2,n2,c2',f2,y2',m2,d2',g2⟩⟩,ta,tk,tc,tcol,tt⟩:=rN;obtain⟨hn1,hn2,hn3,hn4,hn5⟩:=hn;obtain⟨q0,q1,q2,q3,q4,q5,q6,q7,q8,q9⟩:=hc.lr;have HN1:Hid (NmB wr ⟨s1,x1,n1,c1,f1,y1,m1,d1,g1⟩):=hn1;have HN2:Hid (NmB wr ⟨s2,x2,n2,c2',f2,y2',m2,d2',g2⟩):=hn2;have HN3:Hid (Tr wr ta tk tcol tt):=hn3;have HN4:Hid (tk<=2199023255552/\∀p,p<tk->(tt p).n<=17592186044416/\(tt p).m<=17592186044416):=⟨hn4,hn5⟩;have i1':((i:Nat):Int)<((rk:Nat):Int):=by omega
     clear hrN hc hn1 hn2 hn3 hn4 hn5;go_upto_region 10 with fail
     have hb5:=Below.drew (zB wr (cells #[.string z,.int .i64 i1,.bool s1,slice x1 n1 c1,slice y1 m1 d1,.int .i64 i2,.bool s2,slice x2 n2 c2',slice y2' m2 d2',slice ta tk tc] 63));have B5:Bk (wr.alloc (cells #[.string z,.int .i64 i1,.bool s1,slice x1 n1 c1,slice y1 m1 d1,.int .i64 i2,.bool s2,slice x2 n2 c2',slice y2' m2 d2',slice ta tk tc] 63)).drew wr.heap.size [.string z,.int .i64 i1,.bool s1,slice x1 n1 c1,slice y1 m1 d1,.int .i64 i2,.bool s2,slice x2 n2 c2',slice y2' m2 d2',slice ta tk tc] 63:=zF wr [.string z,.int .i64 i1,.bool s1,slice x1 n1 c1,slice y1 m1 d1,.int .i64 i2,.bool s2,slice x2 n2 c2',slice y2' m2 d2',slice ta tk tc] 63;have hne:vR.ownBlock≠some wr.heap.size:=λe=>by have:=(HI.out.row.lt _ e).2;omega
     have hbz:=HI.out.bs;replace HI:=zk (HI.out.q_ hb5);replace HN1:=zk (HN1.out.q_ hb5);replace HN2:=zk (HN2.out.q_ hb5);replace HN3:=zk (HN3.out.q_ hb5)
     obtain⟨a0,a1,a2,a3,a4,a5,a6,a7,a8,a9⟩:=zef B5;have HB5:=zk B5;obtain⟨bk,hbk⟩:∃z,wr.heap.size=z:=⟨_,rfl⟩;simp only[hbk]at *;clear hb5 hbk q0 q1 q2 q3 q4 q5 q6 q7 q8 q9 B5;refine wp_region_held_drew (S:=(λw'=>w'.cell? ⟨bk,0,none⟩=some (.string z)/\w'.cell? ⟨bk,1,none⟩=some (.int .i64 i1)/\w'.cell? ⟨bk,2,none⟩=some (.bool s1)/\w'.cell? ⟨bk,3,none⟩=some (slice x1 n1 c1)/\w'.cell? ⟨bk,4,none⟩=some (slice y1 m1 d1)/\w'.cell? ⟨bk,5,none⟩=some (.int .i64 i2)/\w'.cell? ⟨bk,6,none⟩=some (.bool s2)/\w'.cell? ⟨bk,7,none⟩=some (slice x2 n2 c2')/\w'.cell? ⟨bk,8,none⟩=some (slice y2' m2 d2')/\w'.cell? ⟨bk,9,none⟩=some (slice ta tk tc))) (by kernel_rfl) ?_ (λhHeld=>?_)
     ·exact⟨a0,a1,a2,a3,a4,a5,a6,a7,a8,a9⟩
     generalize hwd:(wr.alloc (cells #[.string z,.int .i64 i1,.bool s1,slice x1 n1 c1,slice y1 m1 d1,.int .i64 i2,.bool s2,slice x2 n2 c2',slice y2' m2 d2',slice ta tk tc] 63)).drew=wd at *;clear hwd;obtain⟨bse,hbse⟩:∃z,wd.heap.size=z:=⟨_,rfl⟩;have hb2s:base2<=bse:=by have:=HI.out.bs;omega
     have hown:∀b,bse<=b->vR.ownBlock≠some b:=λb hb e=>by have:=(HI.out.row.lt b e).2;omega
     have HW:=zk hown;clear hown;refine zK 0 ?_;refine zK 2 ?_;refine zK 3 ?_;simp only[zA,Act.put];refine zK 4 ?_;refine zK 5 ?_;refine zK 7 ?_;simp only[zA,Act.put];refine zK 8 ?_;refine zK 10 ?_;refine zK 11 ?_;simp only[zA,Act.put];refine(show wpAnyH _ _ _ _ _ (6+3) _ _ _ from zbO (λj v w=>match j with|1=>vR=v|6=>TE ⟨i1,⟨s1,x1,n1,c1,f1,y1,m1,d1,g1⟩⟩ v w|9=>TE ⟨i2,⟨s2,x2,n2,c2',f2,y2',m2,d2',g2⟩⟩ v w|12=>TT bse ta tk tcol tt v w|13=>TR bse ⟨z,⟨i1,⟨s1,x1,n1,c1,f1,y1,m1,d1,g1⟩⟩,⟨i2,⟨s2,x2,n2,c2',f2,y2',m2,d2',g2⟩⟩,ta,tk,tc,tcol,tt⟩ v w|14=>TRs bse ⟨z,⟨i1,⟨s1,x1,n1,c1,f1,y1,m1,d1,g1⟩⟩,⟨i2,⟨s2,x2,n2,c2',f2,y2',m2,d2',g2⟩⟩,ta,tk,tc,tcol,tt⟩ v w|_=>True) [(1,45),(6,50),(9,53),(12,56),(13,57),(14,58)] [1,6,9,12,13,14] [15,16,17] _ _ _ 3 ?k1 ?k4 ?k2 ?k3 ?k5 ?k6 ?k8)
     case k1=>kernel_rfl
     case k4=>kernel_rfl
     case k2=>exact λw w' h hb=>⟨kCb hb h.1,kCb hb h.2.1,kCb hb h.2.2.1,kCb hb h.2.2.2.1,kCb hb h.2.2.2.2.1,kCb hb h.2.2.2.2.2.1,kCb hb h.2.2.2.2.2.2.1,kCb hb h.2.2.2.2.2.2.2.1,kCb hb h.2.2.2.2.2.2.2.2.1,kCb hb h.2.2.2.2.2.2.2.2.2⟩
     case k3 =>
      intro j v w w' h hb
      split at h <;> first|exact TE.q_ h hb|exact TT.q_ h hb|exact TR.q_ h hb|exact TRs.q_ h hb|exact h|trivial
     case k8=>exact hHeld
     case k5 =>
      intro i hi;simp only[List.mem_cons,List.not_mem_nil,or_false]at hi;rcases hi with rfl|rfl|rfl|rfl|rfl|rfl
      ·refine⟨_,rfl,λu w5 hS hb5 hd K hK=>?_⟩;have k5:=(HI.out.p3.q_ hb5).cell (j:=4) rfl;simp only[zbl,zA,Act.put]at hK ⊢;go_simp;exact hK.out _ _ (Below.refl _ _) rfl
      ·refine⟨_,rfl,λu w5 hS hb5 hd K hK=>?_⟩;simp only[zbl,zA,Act.put]at hK ⊢;go_simp
       go_at_call 24
       refine(zes (HN1.out.q_ hb5).1 HN1.out.2.1 HN1.out.2.2).mono ?_;rintro e w6 ⟨zp,cp,zq,cq,rfl,hb6,hq⟩
       (try go_wp2_with fail)
       exact hK.out _ _ hb6 ⟨⟨i1,⟨s1,zp,n1,cp,f1,zq,m1,cq,g1⟩⟩,rfl,rfl,⟨rfl,rfl,rfl,rfl,rfl⟩,hq,HN1.out.2⟩
      ·refine⟨_,rfl,λu w5 hS hb5 hd K hK=>?_⟩;simp only[zbl,zA,Act.put]at hK ⊢;go_simp
       go_at_call 24
       refine(zes (HN2.out.q_ hb5).1 HN2.out.2.1 HN2.out.2.2).mono ?_;rintro e w6 ⟨zp,cp,zq,cq,rfl,hb6,hq⟩
       (try go_wp2_with fail)
       exact hK.out _ _ hb6 ⟨⟨i2,⟨s2,zp,n2,cp,f2,zq,m2,cq,g2⟩⟩,rfl,rfl,⟨rfl,rfl,rfl,rfl,rfl⟩,hq,HN2.out.2⟩
      ·refine⟨_,rfl,λu w5 hS hb5 hd K hK=>?_⟩;simp only[zbl,zA,Act.put]at hK ⊢;go_simp
       go_at_call 25
       refine(zmj (HN3.out.q_ hb5) HN4.out.1 HN4.out.2).mono ?_;rintro e w6 ⟨aw,cw,T9,rfl,hb6,_,hfr,hq⟩
       (try go_wp2_with fail)
       exact hK.out _ _ hb6 ⟨aw,cw,T9,rfl,λb o s e=>by have h1:=hfr b o s e;have h2:=hb5.size;omega,hq.out.1,hq.out.2,rfl⟩
      ·refine⟨_,rfl,λu w5 hS hb5 hd K hK=>?_⟩;have h6:TE ⟨i1,⟨s1,x1,n1,c1,f1,y1,m1,d1,g1⟩⟩ (u 6) w5:=hd 6 (by kernel_rfl) (by kernel_rfl);obtain⟨⟨ia6,⟨sa6,xa6,na6,ca6,fa6,ya6,ma6,da6,ga6⟩⟩,e6,hi6,hs6,hv6⟩:=h6;replace e6:u 6=.agg #[.int .i64 ia6,.bool sa6,slice xa6 na6 ca6,slice ya6 ma6 da6]:=e6;have h9:TE ⟨i2,⟨s2,x2,n2,c2',f2,y2',m2,d2',g2⟩⟩ (u 9) w5:=hd 9 (by kernel_rfl) (by kernel_rfl);obtain⟨⟨ia9,⟨sa9,xa9,na9,ca9,fa9,ya9,ma9,da9,ga9⟩⟩,e9,hi9,hs9,hv9⟩:=h9;replace e9:u 9=.agg #[.int .i64 ia9,.bool sa9,slice xa9 na9 ca9,slice ya9 ma9 da9]:=e9;have h12:TT bse ta tk tcol tt (u 12) w5:=hd 12 (by kernel_rfl) (by kernel_rfl);obtain⟨aw,cw,T9,e12,hfr,htr,hsn,_⟩:=h12;simp only[zbl,zA,Act.put]at hK ⊢;simp only[e6,e9,e12]at hK ⊢;go_simp;exact hK.out _ _ (Below.refl _ _) ⟨⟨z,⟨ia6,⟨sa6,xa6,na6,ca6,fa6,ya6,ma6,da6,ga6⟩⟩,⟨ia9,⟨sa9,xa9,na9,ca9,fa9,ya9,ma9,da9,ga9⟩⟩,aw,tk,cw,tcol,T9⟩,rfl,⟨rfl,hi6,hs6,hi9,hs9,rfl,rfl,hsn⟩,⟨hv6,hv9,htr,HN4.out.1,λp hp=>by obtain⟨_,e2,_,e4,_⟩:=hsn p hp;show(T9 p).n<=_/\(T9 p).m<=_;rw[e2,e4];exact HN4.out.2 p hp⟩,hfr⟩
      ·refine⟨_,rfl,λu w5 hS hb5 hd K hK=>?_⟩;have h13:TR bse ⟨z,⟨i1,⟨s1,x1,n1,c1,f1,y1,m1,d1,g1⟩⟩,⟨i2,⟨s2,x2,n2,c2',f2,y2',m2,d2',g2⟩⟩,ta,tk,tc,tcol,tt⟩ (u 13) w5:=hd 13 (by kernel_rfl) (by kernel_rfl);obtain⟨⟨zj,⟨ic,⟨sc,xc,nc,cc9,fc,yc,mc,dc,gc⟩⟩,⟨ie,⟨sd,xd,nd,cd,fd,yd,md,dd,gd⟩⟩,ta9,tk9,tc9,tcol9,tt9⟩,e13,hs,hv,hfr⟩:=h13;replace e13:u 13=.agg #[.string zj,.int .i64 ic,.bool sc,slice xc nc cc9,slice yc mc dc,.int .i64 ie,.bool sd,slice xd nd cd,slice yd md dd,slice ta9 tk9 tc9]:=e13;simp only[zbl,zA,Act.put]at hK ⊢;simp only[e13]at hK ⊢;go_simp;have hn:=zB w5 (cells #[.string zj,.int .i64 ic,.bool sc,slice xc nc cc9,slice yc mc dc,.int .i64 ie,.bool sd,slice xd nd cd,slice yd md dd,slice ta9 tk9 tc9] 63);have hx:=zdt w5 63 [.string zj,.int .i64 ic,.bool sc,slice xc nc cc9,slice yc mc dc,.int .i64 ie,.bool sd,slice xd nd cd,slice yd md dd,slice ta9 tk9 tc9] [.string zj,.int .i64 ic,.bool sc,slice xc nc cc9,slice yc mc dc,.int .i64 ie,.bool sd,slice xd nd cd,slice yd md dd,slice ta9 tk9 tc9] 0 (λj v e=>by rw[zero_add];exact e);exact hK.out _ _ hn ⟨w5.heap.size,⟨zj,⟨ic,⟨sc,xc,nc,cc9,fc,yc,mc,dc,gc⟩⟩,⟨ie,⟨sd,xd,nd,cd,fd,yd,md,dd,gd⟩⟩,ta9,tk9,tc9,tcol9,tt9⟩,rfl,hx,hs,hv.q_ hn,hfr⟩
     case k6 =>
      intro u w5 hS5 hb5 hg;have h1:vR=u 1:=hg 1 (by simp);have h14:TRs bse ⟨z,⟨i1,⟨s1,x1,n1,c1,f1,y1,m1,d1,g1⟩⟩,⟨i2,⟨s2,x2,n2,c2',f2,y2',m2,d2',g2⟩⟩,ta,tk,tc,tcol,tt⟩ (u 14) w5:=hg 14 (by simp);obtain⟨b14,⟨zj,⟨ic,⟨sc,xc,nc,cc9,fc,yc,mc,dc,gc⟩⟩,⟨ie,⟨sd,xd,nd,cd,fd,yd,md,dd,gd⟩⟩,ta9,tk9,tc9,tcol9,tt9⟩,e14,hcs,hsc,hlc,hfr⟩:=h14;replace HI:=zk (HI.out.q_ hb5);obtain⟨i0,hi0,hz0,hz1,hz2⟩:=info_parts zpB;obtain⟨t0,t1,t2,t3,t4,t5,t6,t7,t8,t9⟩:=id hS5;have hbl:=block_lt_of_cell? w5 _ t0;replace hbl:bk<w5.heap.size:=hbl;clear hg;simp only[zbl,zA,Act.put];simp only[<-h1,e14];clear h1 e14;refine rdO 15 (λK hK=>?_);refine zaW w5 rfl (.tmp 45) (.tmp 58) 26 rfl base2 63 i0 zR 10 168 underlying26 hi0 hz0 hz1 hz2 rfl (by decide) nzR vR i (rcs R' i) rfl HI.out.row ⟨b14,0,none⟩ 1 1 (Lr.vs ⟨zj,⟨ic,⟨sc,xc,nc,cc9,fc,yc,mc,dc,gc⟩⟩,⟨ie,⟨sd,xd,nd,cd,fd,yd,md,dd,gd⟩⟩,ta9,tk9,tc9,tcol9,tt9⟩) rfl rfl ?n1 (zjI _) (zgq _) (by decide) ?p1 ?p2 HI.out.bs ?_
      case n1=>intro j u hu;rw[addr_add];exact hcs j u hu
      case p1=>unfold maxLen;omega
      case p2=>omega
      intro g8 cap8 w8 hr8 hgr8 hk8 hl8;have hB8:=hgr8.block bk hbl (λe=>hne e.symm);have e0:=(cell?_of_block (a:=⟨bk,0,none⟩) hB8).trans t0;have e1:=(cell?_of_block (a:=⟨bk,1,none⟩) hB8).trans t1;have e2:=(cell?_of_block (a:=⟨bk,2,none⟩) hB8).trans t2;have e3:=(cell?_of_block (a:=⟨bk,3,none⟩) hB8).trans t3;have e4:=(cell?_of_block (a:=⟨bk,4,none⟩) hB8).trans t4;have e5:=(cell?_of_block (a:=⟨bk,5,none⟩) hB8).trans t5;have e6:=(cell?_of_block (a:=⟨bk,6,none⟩) hB8).trans t6;have e7:=(cell?_of_block (a:=⟨bk,7,none⟩) hB8).trans t7;have e8:=(cell?_of_block (a:=⟨bk,8,none⟩) hB8).trans t8;have e9:=(cell?_of_block (a:=⟨bk,9,none⟩) hB8).trans t9;have hp8:=HI.out.p3.of (hgr8.block b3 HI.out.p3.lt (λe=>by have:=(HI.out.row.lt b3 e.symm).1;omega));have f0:=hp8.cell (j:=4) rfl;have ff:=hp8.frozen 4;refine hK.out _ _ ?_ (λhH8=>?_)
      ·exact⟨e0,e1,e2,e3,e4,e5,e6,e7,e8,e9⟩
      clear hK K;try simp only[Act.put,List.setIfInBounds_toArray]
      refine zK 16 ?_;simp only[zA,Act.put];refine rdO 17 (λK hK=>?_);go_simp;refine hK.out _ _ ?_ (λhH9=>?_)
      ·((try dsimp only);(refine⟨?_,?_,?_,?_,?_,?_,?_,?_,?_,?_⟩ <;> repeat(with_reducible first|assumption|refine kCs (by simp only[ne_eq];omega) ?_)))
      clear hK K;try simp only[Act.put]
      refine dnO ?_;have HI9:=zk (HI.out.next (by omega) (by omega) hbb (by omega) (by rw[HRN.out];exact hsc) hlc (λ_ b o s e=>⟨by have:=hfr b o s e;omega,HW.out b (hfr b o s e)⟩) hr8 hk8 hgr8 hl8);clear hr8 hgr8 hk8 hl8 hB8 hp8 f0 ff hH8 hH9 HI hsc hlc hcs hHeld HB5 e0 e1 e2 e3 e4 e5 e6 e7 e8 e9;go_wp2;go_roundw
      case rel=>exact⟨i+1,_,_,by omega,by go_num,HI9.out⟩
      case measure=>simp[intOf];omega
    ·have e1:i=rk:=by omega
     have i2':¬(((i:Nat):Int)<((rk:Nat):Int)):=by omega
     rw[e1]at HI
     obtain⟨aC,cC,rfl⟩:=HI.out.rowC.slice;obtain⟨aR,cR,rfl⟩:=HI.out.row.slice;have o0:=HI.out.p3.cell (j:=0) rfl;have o1:=HI.out.p3.cell (j:=1) rfl;have o2:=HI.out.p3.cell (j:=2) rfl;have o3:=HI.out.p3.cell (j:=3) rfl;have o4:=HI.out.p3.cell (j:=4) rfl;have r0:=HI.out.p2.cell (j:=0) rfl;have r1:=HI.out.p2.cell (j:=1) rfl;have r2:=HI.out.p2.cell (j:=2) rfl;have r3:=HI.out.p2.cell (j:=3) rfl;have r4:=HI.out.p2.cell (j:=4) rfl;have rf:=HI.out.p2.frozen;obtain⟨hx1,hx2,hx3⟩:=HI.out.done (N:=⟨s,x,n,c,f,y,m,d,g⟩) (ca:=ca) (cc:=cc) (ra:=ra) (rc:=rc) (v0:=.bool s) (v1:=slice z2 n c2) (v2:=slice y2 m d2) (v3:=slice aC ck cC) (v4:=slice aR rk cR) (by omega) (by omega) (by omega) rfl ⟨rfl,rfl,rfl,rfl,rfl⟩ hck hrk;have HX:=zk (HA.out _ _ hx1 hx2 hx3);clear hx1 hx2 hx3 HI e1;go_wp2;exact bodyPost_ret (v:=.agg #[.bool s,slice z2 n c2,slice y2 m d2,slice aC ck cC,slice aR rk cR]) (by simp[results,results7,go_sem,r0,r1,r2,r3,r4]) rfl HX.out
def zcs (col:Nat->Int):Nat->Int
 | 0=>-1
 | i+1=>col i
theorem zpK {w ao k cap col T} (h:Tl w ao k col T) (hk:k<=10000) (hl:∀j,j<k->(T j).n<=1000/\(T j).m<=1000) :
  Calls prog 109 #[slice ao k cap] w λe w'=>e=.returned (.bool (tfB k col T))/\Bl w w':=by
 have H:=zk h;clear h;go_enter func109,ntmps109;go_wp2_with fail
 go_loopw[7] (λt wr=>∃(i:Nat),i<=k/\t=.int .i64 i/\Hid (Bl w wr)/\Hid (tfB k col T=tfr col T (k-i) i (zcs col i))/\Hid (-1<=zcs col i/\(0<i->0<=zcs col i))) (λt _=>k-(intOf t).toNat)
 case atStart=>exact⟨0,by omega,rfl,Below.refl _ _,rfl,by show(-1:Int) <= -1/\_;exact⟨by decide,λh=>by omega⟩⟩
 case round =>
  obtain⟨i,hi,rfl,HB,HT,HL⟩:=hrel;by_cases hlt:i<k
  ·obtain⟨b,o,rfl,hc,hn,hn1,hn2⟩:=(H.out.q_ HB.out) i hlt;obtain⟨hl1,hl2⟩:=hl i hlt;obtain⟨r,hr⟩:∃r,k-i=r+1:=⟨k-i-1,by omega⟩;have hT:tfB k col T=(decide (zcs col i<col i) && (nfB (T i) && (decide (0<(T i).n) && tfr col T r (i+1) (col i)))):=by rw[HT.out,hr];rfl
   have hr2:k-(i+1)=r:=by omega
   have HLc:Hid (zcs col (i+1)=col i):=rfl;obtain⟨⟨s,x,n,c,f,y,m,d,g⟩,hTi⟩:∃t,T i=t:=⟨_,rfl⟩;rw[hTi]at hc hn hT hl1 hl2
   obtain⟨z,hz⟩:∃z,col i=z:=⟨_,rfl⟩;rw[hz]at hc hT HLc
   obtain⟨x0,x1,x2,x3⟩:=hc;replace x0:wr.cell? ⟨b,o+i*4,none⟩=some (.int .i64 z):=x0;replace x1:wr.cell? ⟨b,o+i*4+1,none⟩=some (.bool s):=x1;replace x2:wr.cell? ⟨b,o+i*4+2,none⟩=some (slice x n c):=x2;replace x3:wr.cell? ⟨b,o+i*4+3,none⟩=some (slice y m d):=x3;replace hn:Rw wr x n c f y m d g:=hn;replace hl1:n<=1000:=hl1;replace hl2:m<=1000:=hl2;have HTi:=zk hT;have HR2:=zk hr2
   have i1:((i:Nat):Int)<((k:Nat):Int):=by omega
   have hb5:=zB wr (cells #[.int .i64 z,.bool s,slice x n c,slice y m d] 65);obtain⟨a0,a1,a2,a3⟩:=bk4 (zF wr [.int .i64 z,.bool s,slice x n c,slice y m d] 65);have HN:=zk (hn.q_ hb5);have HB5:=zJ HB hb5
   have hp:∀i',i=i'+1->(wr.alloc (cells #[.int .i64 z,.bool s,slice x n c,slice y m d] 65)).cell? ⟨b,o+i'*4,none⟩=some (.int .i64 (col i')):=λi' e=>by
    obtain⟨b2,o2,e2,h2,_⟩:=(H.out.q_ HB.out) i' (by omega);cases e2
    exact kCb hb5 h2.x0
   clear hT hr2 hTi hr hn hz hb5 hn1 hn2;go_upto_region 4 with fail
   clear x0 x1 x2 x3 HB;generalize wr.alloc (cells #[.int .i64 z,.bool s,slice x n c,slice y m d] 65)=w5 at *;have CF:Hid (∀W,Bl w5 W->Calls prog 106 #[.agg #[.bool s,slice x n c,slice y m d]] W λe w'=>e=.returned (.bool (rfB s f n g m))/\Bl W w'):=λW hW=>zdD (HN.out.q_ hW) hl1 hl2
   by_cases hz0:z<0
   ·have d0:decide (z<0)=true:=by simp[hz0]
    have hd:decide (zcs col i<z)=false:=by have:=HL.out.1;simp;omega
    have HD:=zk hd;clear hd hp CF HL
    go_quiet (fail)
    go_wp2;go_ret;refine⟨?_,zH HB5.out _⟩;rw[HTi.out,HD.out];rfl
   have d0:decide (z<0)=false:=by simp;omega
   by_cases hi0:i=0
   ·have hd:decide (zcs col i<z)=true:=by rw[hi0];show decide ((-1:Int)<z)=true;simp;omega
    have HD:=zk hd;have d1:decide ((0:Int)<((i:Nat):Int))=false:=by simp[hi0]
    clear hd hp HL;cases hf:rfB s f n g m
    ·rw[hf]at CF
     have HNF:Hid (nfB ⟨s,x,n,c,f,y,m,d,g⟩=false):=hf;clear hf;refine wp_region_held_drew (S:=λw'=>w'.cell? ⟨wr.heap.size,0,none⟩=some (.int .i64 z)/\w'.cell? ⟨wr.heap.size,1,none⟩=some (.bool s)/\w'.cell? ⟨wr.heap.size,2,none⟩=some (slice x n c)/\w'.cell? ⟨wr.heap.size,3,none⟩=some (slice y m d)) (by kernel_rfl) ?_ (λhHeld=>?_)
     ·(refine⟨?_,?_,?_,?_⟩ <;> repeat(with_reducible first|assumption|refine kCd ?_))
     refine zK 0 ?_;refine zK 1 ?_;refine zK 2 ?_;refine zK 3 ?_;simp only[zA,Act.put];refine zK 4 ?_;refine zK 5 ?_;refine zK 6 ?_;refine skO 7 ?_;simp only[zA,Act.put];refine skO 8 ?_;refine skO 9 ?_;refine skO 10 ?_;refine skO 11 ?_;simp only[zA,Act.put];refine skO 12 ?_;refine skO 13 ?_;refine skO 14 ?_;refine skO 15 ?_;simp only[zA,Act.put];refine zK 16 ?_;refine zK 17 ?_;refine zK 18 ?_;refine zK 19 ?_;simp only[zA,Act.put];refine zK 20 ?_;simp only[zA,Act.put];refine rdO 21 (λK hK=>?_);go_simp
     go_at_call 106
     with_reducible refine(CF.out _ zaq).mono ?_
     rintro e w6 ⟨rfl,hb6⟩;have B6:Bl w5 w6:=zaq
     (try go_wp2_with fail)
     refine hK.out _ _ ?_ (λhHeld2=>?_)
     ·((try dsimp only);(refine⟨?_,?_,?_,?_⟩ <;> repeat(with_reducible first|assumption|refine kCb B6 ?_)))
     clear hK K;try simp only[zA,Act.put]
     refine zK 22 ?_;refine zK 23 ?_;refine zK 24 ?_;refine skO 25 ?_;simp only[zA,Act.put];refine skO 26 ?_;refine skO 27 ?_;refine skO 28 ?_;refine skO 29 ?_;simp only[zA,Act.put];refine zK 30 ?_;simp only[zA,Act.put];refine dnO ?_;have HB6:=zJ HB5 B6;go_wp2;go_ret;refine⟨?_,HB6.out⟩;rw[HTi.out,HD.out,HNF.out];rfl
    rw[hf]at CF
    have HNF:Hid (nfB ⟨s,x,n,c,f,y,m,d,g⟩=true):=hf;clear hf;by_cases hn0:n=0
    ·have hnd:(((n:Nat):Int)==0)=true:=by simp[hn0]
     have HN0:=zk hn0;clear hn0;refine wp_region_held_drew (S:=λw'=>w'.cell? ⟨wr.heap.size,0,none⟩=some (.int .i64 z)/\w'.cell? ⟨wr.heap.size,1,none⟩=some (.bool s)/\w'.cell? ⟨wr.heap.size,2,none⟩=some (slice x n c)/\w'.cell? ⟨wr.heap.size,3,none⟩=some (slice y m d)) (by kernel_rfl) ?_ (λhHeld=>?_)
     ·(refine⟨?_,?_,?_,?_⟩ <;> repeat(with_reducible first|assumption|refine kCd ?_))
     refine zK 0 ?_;refine zK 1 ?_;refine zK 2 ?_;refine zK 3 ?_;simp only[zA,Act.put];refine zK 4 ?_;refine zK 5 ?_;refine zK 6 ?_;refine skO 7 ?_;simp only[zA,Act.put];refine skO 8 ?_;refine skO 9 ?_;refine skO 10 ?_;refine skO 11 ?_;simp only[zA,Act.put];refine skO 12 ?_;refine skO 13 ?_;refine skO 14 ?_;refine skO 15 ?_;simp only[zA,Act.put];refine zK 16 ?_;refine zK 17 ?_;refine zK 18 ?_;refine zK 19 ?_;simp only[zA,Act.put];refine zK 20 ?_;simp only[zA,Act.put];refine rdO 21 (λK hK=>?_);go_simp
     go_at_call 106
     with_reducible refine(CF.out _ zaq).mono ?_
     rintro e w6 ⟨rfl,hb6⟩;have B6:Bl w5 w6:=zaq
     (try go_wp2_with fail)
     refine hK.out _ _ ?_ (λhHeld2=>?_)
     ·((try dsimp only);(refine⟨?_,?_,?_,?_⟩ <;> repeat(with_reducible first|assumption|refine kCb B6 ?_)))
     clear hK K;try simp only[zA,Act.put]
     refine zK 22 ?_;refine zK 23 ?_;refine zK 24 ?_;refine zK 25 ?_;simp only[zA,Act.put];refine zK 26 ?_;refine zK 27 ?_;refine zK 28 ?_;refine zK 29 ?_;simp only[zA,Act.put];refine zK 30 ?_;simp only[zA,Act.put];refine dnO ?_;have HB6:=zJ HB5 B6;go_wp2;go_ret;refine⟨?_,HB6.out⟩;rw[HTi.out,HD.out,HNF.out,HN0.out];rfl
    have hnd:(((n:Nat):Int)==0)=false:=by simp;omega
    have hnp:decide (0<n)=true:=by simp;omega
    have HNP:=zk hnp;clear hnp;refine wp_region_held_drew (S:=λw'=>w'.cell? ⟨wr.heap.size,0,none⟩=some (.int .i64 z)/\w'.cell? ⟨wr.heap.size,1,none⟩=some (.bool s)/\w'.cell? ⟨wr.heap.size,2,none⟩=some (slice x n c)/\w'.cell? ⟨wr.heap.size,3,none⟩=some (slice y m d)) (by kernel_rfl) ?_ (λhHeld=>?_)
    ·(refine⟨?_,?_,?_,?_⟩ <;> repeat(with_reducible first|assumption|refine kCd ?_))
    refine zK 0 ?_;refine zK 1 ?_;refine zK 2 ?_;refine zK 3 ?_;simp only[zA,Act.put];refine zK 4 ?_;refine zK 5 ?_;refine zK 6 ?_;refine skO 7 ?_;simp only[zA,Act.put];refine skO 8 ?_;refine skO 9 ?_;refine skO 10 ?_;refine skO 11 ?_;simp only[zA,Act.put];refine skO 12 ?_;refine skO 13 ?_;refine skO 14 ?_;refine skO 15 ?_;simp only[zA,Act.put];refine zK 16 ?_;refine zK 17 ?_;refine zK 18 ?_;refine zK 19 ?_;simp only[zA,Act.put];refine zK 20 ?_;simp only[zA,Act.put];refine rdO 21 (λK hK=>?_);go_simp
    go_at_call 106
    with_reducible refine(CF.out _ zaq).mono ?_
    rintro e w6 ⟨rfl,hb6⟩;have B6:Bl w5 w6:=zaq
    (try go_wp2_with fail)
    refine hK.out _ _ ?_ (λhHeld2=>?_)
    ·((try dsimp only);(refine⟨?_,?_,?_,?_⟩ <;> repeat(with_reducible first|assumption|refine kCb B6 ?_)))
    clear hK K;try simp only[zA,Act.put]
    refine zK 22 ?_;refine zK 23 ?_;refine zK 24 ?_;refine zK 25 ?_;simp only[zA,Act.put];refine zK 26 ?_;refine zK 27 ?_;refine zK 28 ?_;refine zK 29 ?_;simp only[zA,Act.put];refine zK 30 ?_;simp only[zA,Act.put];refine dnO ?_;have HB7:=zJ HB5 B6;clear hb6 CF HN a0 a1 a2 a3 B6 hHeld hHeld2;go_wp2;go_roundw
    case rel =>
     refine⟨i+1,by omega,by go_num,HB7.out,?_,?_⟩
     ·show _=_;rw[HTi.out,HD.out,HNF.out,HR2.out,HLc.out];simp only[HNP.out,Bool.true_and]
     ·show -1<=zcs col (i+1)/\(0<i+1->0<=zcs col (i+1));rw[HLc.out];exact⟨by omega,λ_=>by omega⟩
    case measure=>simp[intOf];omega
   obtain⟨i',rfl⟩:∃i',i=i'+1:=⟨i-1,by omega⟩;have p0:=hp i' rfl;have d1:decide ((0:Int)<((i':Nat):Int)+1)=true:=by simp
   have i8:((i':Nat):Int)<=9223372036854775807:=by omega
   have i9:((i':Nat):Int)+1<=9223372036854775807:=by omega
   have i5:IntKind.i64.wrap ((i':Nat):Int)=((i':Nat):Int):=by rw[IntKind.wrap_i64];omega
   have i3:(((i'+1:Nat):Int)-1)=((i':Nat):Int):=by omega
   have i4:((i':Nat):Int)<((k:Nat):Int):=by omega
   have i7:((i':Nat):Int)+1<((k:Nat):Int):=by omega
   have i6:(0:Int)<=((i':Nat):Int):=by omega
   have hll:zcs col (i'+1)=col i':=rfl;obtain⟨zp,hzp⟩:∃zp,col i'=zp:=⟨_,rfl⟩;rw[hzp]at p0 hll
   rw[hll]at HTi
   clear hp HL;by_cases hpz:z<=zp
   ·have d2:decide (z<=zp)=true:=by simp[hpz]
    have hd:decide (zp<z)=false:=by simp;omega
    have HD:=zk hd;clear hd CF
    go_quiet (fail)
    go_wp2;go_ret;refine⟨?_,zH HB5.out _⟩;rw[HTi.out,HD.out];rfl
   have d2:decide (z<=zp)=false:=by simp;omega
   have hd:decide (zp<z)=true:=by simp;omega
   have HD:=zk hd;clear hd;cases hf:rfB s f n g m
   ·rw[hf]at CF
    have HNF:Hid (nfB ⟨s,x,n,c,f,y,m,d,g⟩=false):=hf;clear hf;refine wp_region_held_drew (S:=λw'=>w'.cell? ⟨wr.heap.size,0,none⟩=some (.int .i64 z)/\w'.cell? ⟨wr.heap.size,1,none⟩=some (.bool s)/\w'.cell? ⟨wr.heap.size,2,none⟩=some (slice x n c)/\w'.cell? ⟨wr.heap.size,3,none⟩=some (slice y m d)/\w'.cell? ⟨b,o+i'*4,none⟩=some (.int .i64 zp)) (by kernel_rfl) ?_ (λhHeld=>?_)
    ·(refine⟨?_,?_,?_,?_,?_⟩ <;> repeat(with_reducible first|assumption|refine kCd ?_))
    refine zK 0 ?_;refine zK 1 ?_;refine zK 2 ?_;refine zK 3 ?_;simp only[zA,Act.put];refine zK 4 ?_;refine zK 5 ?_;refine zK 6 ?_;refine zK 7 ?_;simp only[zA,Act.put];refine zK 8 ?_;refine zK 9 ?_;refine zK 10 ?_;refine zK 11 ?_;simp only[zA,Act.put];refine zK 12 ?_;refine zK 13 ?_;refine zK 14 ?_;refine zK 15 ?_;simp only[zA,Act.put];refine zK 16 ?_;refine zK 17 ?_;refine zK 18 ?_;refine zK 19 ?_;simp only[zA,Act.put];refine zK 20 ?_;simp only[zA,Act.put];refine rdO 21 (λK hK=>?_);go_simp
    go_at_call 106
    with_reducible refine(CF.out _ zaq).mono ?_
    rintro e w6 ⟨rfl,hb6⟩;have B6:Bl w5 w6:=zaq
    (try go_wp2_with fail)
    refine hK.out _ _ ?_ (λhHeld2=>?_)
    ·((try dsimp only);(refine⟨?_,?_,?_,?_,?_⟩ <;> repeat(with_reducible first|assumption|refine kCb B6 ?_)))
    clear hK K;try simp only[zA,Act.put]
    refine zK 22 ?_;refine zK 23 ?_;refine zK 24 ?_;refine skO 25 ?_;simp only[zA,Act.put];refine skO 26 ?_;refine skO 27 ?_;refine skO 28 ?_;refine skO 29 ?_;simp only[zA,Act.put];refine zK 30 ?_;simp only[zA,Act.put];refine dnO ?_;have HB6:=zJ HB5 B6;go_wp2;go_ret;refine⟨?_,HB6.out⟩;rw[HTi.out,HD.out,HNF.out];rfl
   rw[hf]at CF
   have HNF:Hid (nfB ⟨s,x,n,c,f,y,m,d,g⟩=true):=hf;clear hf;by_cases hn0:n=0
   ·have hnd:(((n:Nat):Int)==0)=true:=by simp[hn0]
    have HN0:=zk hn0;clear hn0;refine wp_region_held_drew (S:=λw'=>w'.cell? ⟨wr.heap.size,0,none⟩=some (.int .i64 z)/\w'.cell? ⟨wr.heap.size,1,none⟩=some (.bool s)/\w'.cell? ⟨wr.heap.size,2,none⟩=some (slice x n c)/\w'.cell? ⟨wr.heap.size,3,none⟩=some (slice y m d)/\w'.cell? ⟨b,o+i'*4,none⟩=some (.int .i64 zp)) (by kernel_rfl) ?_ (λhHeld=>?_)
    ·(refine⟨?_,?_,?_,?_,?_⟩ <;> repeat(with_reducible first|assumption|refine kCd ?_))
    refine zK 0 ?_;refine zK 1 ?_;refine zK 2 ?_;refine zK 3 ?_;simp only[zA,Act.put];refine zK 4 ?_;refine zK 5 ?_;refine zK 6 ?_;refine zK 7 ?_;simp only[zA,Act.put];refine zK 8 ?_;refine zK 9 ?_;refine zK 10 ?_;refine zK 11 ?_;simp only[zA,Act.put];refine zK 12 ?_;refine zK 13 ?_;refine zK 14 ?_;refine zK 15 ?_;simp only[zA,Act.put];refine zK 16 ?_;refine zK 17 ?_;refine zK 18 ?_;refine zK 19 ?_;simp only[zA,Act.put];refine zK 20 ?_;simp only[zA,Act.put];refine rdO 21 (λK hK=>?_);go_simp
    go_at_call 106
    with_reducible refine(CF.out _ zaq).mono ?_
    rintro e w6 ⟨rfl,hb6⟩;have B6:Bl w5 w6:=zaq
    (try go_wp2_with fail)
    refine hK.out _ _ ?_ (λhHeld2=>?_)
    ·((try dsimp only);(refine⟨?_,?_,?_,?_,?_⟩ <;> repeat(with_reducible first|assumption|refine kCb B6 ?_)))
    clear hK K;try simp only[zA,Act.put]
    refine zK 22 ?_;refine zK 23 ?_;refine zK 24 ?_;refine zK 25 ?_;simp only[zA,Act.put];refine zK 26 ?_;refine zK 27 ?_;refine zK 28 ?_;refine zK 29 ?_;simp only[zA,Act.put];refine zK 30 ?_;simp only[zA,Act.put];refine dnO ?_;have HB6:=zJ HB5 B6;go_wp2;go_ret;refine⟨?_,HB6.out⟩;rw[HTi.out,HD.out,HNF.out,HN0.out];rfl
   have hnd:(((n:Nat):Int)==0)=false:=by simp;omega
   have hnp:decide (0<n)=true:=by simp;omega
   have HNP:=zk hnp;clear hnp;refine wp_region_held_drew (S:=λw'=>w'.cell? ⟨wr.heap.size,0,none⟩=some (.int .i64 z)/\w'.cell? ⟨wr.heap.size,1,none⟩=some (.bool s)/\w'.cell? ⟨wr.heap.size,2,none⟩=some (slice x n c)/\w'.cell? ⟨wr.heap.size,3,none⟩=some (slice y m d)/\w'.cell? ⟨b,o+i'*4,none⟩=some (.int .i64 zp)) (by kernel_rfl) ?_ (λhHeld=>?_)
   ·(refine⟨?_,?_,?_,?_,?_⟩ <;> repeat(with_reducible first|assumption|refine kCd ?_))
   refine zK 0 ?_;refine zK 1 ?_;refine zK 2 ?_;refine zK 3 ?_;simp only[zA,Act.put];refine zK 4 ?_;refine zK 5 ?_;refine zK 6 ?_;refine zK 7 ?_;simp only[zA,Act.put];refine zK 8 ?_;refine zK 9 ?_;refine zK 10 ?_;refine zK 11 ?_;simp only[zA,Act.put];refine zK 12 ?_;refine zK 13 ?_;refine zK 14 ?_;refine zK 15 ?_;simp only[zA,Act.put];refine zK 16 ?_;refine zK 17 ?_;refine zK 18 ?_;refine zK 19 ?_;simp only[zA,Act.put];refine zK 20 ?_;simp only[zA,Act.put];refine rdO 21 (λK hK=>?_);go_simp
   go_at_call 106
   with_reducible refine(CF.out _ zaq).mono ?_
   rintro e w6 ⟨rfl,hb6⟩;have B6:Bl w5 w6:=zaq
   (try go_wp2_with fail)
   refine hK.out _ _ ?_ (λhHeld2=>?_)
   ·((try dsimp only);(refine⟨?_,?_,?_,?_,?_⟩ <;> repeat(with_reducible first|assumption|refine kCb B6 ?_)))
   clear hK K;try simp only[zA,Act.put]
   refine zK 22 ?_;refine zK 23 ?_;refine zK 24 ?_;refine zK 25 ?_;simp only[zA,Act.put];refine zK 26 ?_;refine zK 27 ?_;refine zK 28 ?_;refine zK 29 ?_;simp only[zA,Act.put];refine zK 30 ?_;simp only[zA,Act.put];refine dnO ?_;have HB7:=zJ HB5 B6;clear hb6 CF HN a0 a1 a2 a3 B6 hHeld hHeld2;go_wp2;go_roundw
   case rel =>
    refine⟨i'+1+1,by omega,by go_num,HB7.out,?_,?_⟩
    ·show _=_;rw[HTi.out,HD.out,HNF.out,HR2.out,HLc.out];simp only[HNP.out,Bool.true_and]
    ·show -1<=zcs col (i'+1+1)/\(0<i'+1+1->0<=zcs col (i'+1+1));rw[HLc.out];exact⟨by omega,λ_=>by omega⟩
   case measure=>simp[intOf];omega
  ·have e1:i=k:=by omega
   have HTe:Hid (tfB k col T=true):=by
    show _=_;rw[HT.out,e1,sub_self];rfl
   have i2:¬(((i:Nat):Int)<((k:Nat):Int)):=by omega
   clear e1 HT;go_wp2;go_ret;refine⟨?_,HB.out⟩;rw[HTe.out];rfl
def zas (B:Nat->Bool):Nat->Bool
 | 0=>false
 | i+1=>zas B i || B i
def ev (b3 b5 b6 b7:Bool):Int:=if b3 then 3 else if b5 then 5 else if b6 then 6 else if b7 then 7 else 0
def lsl (L:List Int):Int:=L.foldl lstep 0
theorem zkq (L:List Int) (x:Int):lsl (L++[x])=lstep (lsl L) x:=by simp[lsl]
theorem ev3 (a b c d:Bool):lstep (ev a b c d) 3=ev true b c d:=by cases a <;> cases b <;> cases c <;> cases d <;> rfl
theorem ev5 (a b c d:Bool):lstep (ev a b c d) 5=ev a true c d:=by cases a <;> cases b <;> cases c <;> cases d <;> rfl
theorem ev6 (a b c d:Bool):lstep (ev a b c d) 6=ev a b true d:=by cases a <;> cases b <;> cases c <;> cases d <;> rfl
theorem ev7 (a b c d:Bool):lstep (ev a b c d) 7=ev a b c true:=by cases a <;> cases b <;> cases c <;> cases d <;> rfl
theorem zhT (L:List Int):∀n,n<=L.length->lsf (λj=>L.getD j 0) n=lsl (L.take n)
 | 0,_=>rfl
 | n+1,h=>by
  have e:L[n]?=some L[n]:=getElem?_eq_getElem (by omega);rw[List.take_add_one,e,Option.toList_some,zkq,<-zhT L n (by omega)];show lstep _ (L.getD n 0)=_;rw[List.getD_eq_getElem?_getD,e];rfl
theorem zps (L:List Int):lsf (λj=>L.getD j 0) L.length=lsl L:=by
 rw[zhT L _ (le_refl _),List.take_length]
theorem zsu {w ao L} (h:Il w ao L):El w ao L.length (λj=>L.getD j 0):=λj hj=>by
 obtain⟨b,o,e,h1⟩:=h j L[j] (getElem?_eq_getElem hj);refine⟨b,o,e,?_⟩;rw[h1];show _=some (Value.int .i64 (L.getD j 0));rw[List.getD_eq_getElem?_getD,getElem?_eq_getElem hj];rfl
def DL (w0 wr:World) (v:Value) (L:List Int) (k:Nat) (e:Int):Prop:=Bl w0 wr/\RowG 3 1 w0.heap.size wr v L.length (ils L)/\L.length<=k/\lsl L=e
theorem DL.q_ {w0 wr v L k e w'} (h:DL w0 wr v L k e) (hb:Bl wr w'):DL w0 w' v L k e:=⟨h.1.trans (hb.mono h.1.size),h.2.1.q_ hb,h.2.2⟩
theorem DL.mono {w0 wr v L k k' e e'} (h:DL w0 wr v L k e) (hk:k<=k') (he:e=e'):DL w0 wr v L k' e':=⟨h.1,h.2.1,le_trans h.2.2.1 hk,h.2.2.2.trans he⟩
theorem DL.app {w0 wr v L k e w8 g8 cap8 x} (h:DL w0 wr v L k e) (hr:RowG 3 1 w0.heap.size w8 (slice (some ⟨g8,0,none⟩) (L.length+1) cap8) (L.length+1) (ils L++#[Value.int .i64 x].toList)) (hb:∀b0:World,Bl b0 wr->b0.heap.size<=w0.heap.size->Bl b0 w8):DL w0 w8 (slice (some ⟨g8,0,none⟩) (L.length+1) cap8) (L++[x]) (k+1) (lstep e x) :=
 ⟨hb w0 h.1 (le_refl _),by rw[List.length_append,List.length_singleton];simpa[ils]using hr,by rw[List.length_append,List.length_singleton];have:=h.2.2.1;omega,by rw[zkq,h.2.2.2]⟩
def DX (w0 wr:World) (v:Value) (L:List Int) (k:Nat) (e:Int) (bx:Nat) (vs:List Value) (t:TypeId):Prop:=DL w0 wr v L k e/\Bk wr bx vs t/\v.ownBlock≠some bx
theorem DX.q_ {w0 wr v L k e bx vs t w'} (h:DX w0 wr v L k e bx vs t) (hb:Bl wr w'):DX w0 w' v L k e bx vs t:=⟨h.1.q_ hb,h.2.1.q_ hb,h.2.2⟩
theorem DX.mono {w0 wr v L k k' e e' bx vs t} (h:DX w0 wr v L k e bx vs t) (hk:k<=k') (he:e=e'):DX w0 wr v L k' e' bx vs t:=⟨h.1.mono hk he,h.2⟩
theorem DX.app {w0 wr v L k e bx vs t w8 g8 cap8 x} (h:DX w0 wr v L k e bx vs t) (hr:RowG 3 1 w0.heap.size w8 (slice (some ⟨g8,0,none⟩) (L.length+1) cap8) (L.length+1) (ils L++#[Value.int .i64 x].toList)) (hb:∀b0:World,Bl b0 wr->b0.heap.size<=w0.heap.size->Bl b0 w8) (hg:∀k,k<wr.heap.size->v.ownBlock≠some k->w8.heap[k]?=wr.heap[k]?) (hl:v.ownBlock=some g8∨wr.heap.size<=g8):DX w0 w8 (slice (some ⟨g8,0,none⟩) (L.length+1) cap8) (L++[x]) (k+1) (lstep e x) bx vs t :=
 ⟨h.1.app hr hb,(hg bx h.2.1.lt h.2.2).trans h.2.1,λe=>by
  have e2:g8=bx:=by simpa[Value.ownBlock]using e
  rcases hl with h1|h1
  ·exact h.2.2 (e2 ▸ h1)
  ·have:=h.2.1.lt;omega⟩
theorem DL.dx {w0 wr v L k e} (h:DL w0 wr v L k e) (vs:List Value) (t:TypeId):DX w0 (wr.alloc (cells vs.toArray t)) v L k e wr.heap.size vs t :=
 ⟨h.q_ (zu (Below.refl _ _) _),zF wr vs t,λe=>by have:=(h.2.1.lt _ e).2;omega⟩
structure MoS (M:Mo):Prop where
 off:M.off.n<=1000/\M.off.m<=1000
 c:∀j,j<M.ck->((M.C j).cost.n<=1000/\(M.C j).cost.m<=1000)/\((M.C j).lo.v.n<=1000/\(M.C j).lo.v.m<=1000)/\(M.C j).hi.v.n<=1000/\(M.C j).hi.v.m<=1000
 r:∀j,j<M.rk->((M.R j).lo.v.n<=1000/\(M.R j).lo.v.m<=1000)/\((M.R j).hi.v.n<=1000/\(M.R j).hi.v.m<=1000)/\(M.R j).tk<=10000/\∀p,p<(M.R j).tk->((M.R j).T p).n<=1000/\((M.R j).T p).m<=1000
def b3c (M:Mo) (i:Nat):Bool:=!(nfB M.off) || zas (λj=>!(nfB (M.C j).cost && abB (M.C j).lo (M.C j).hi)) i
def b5c (M:Mo) (i:Nat):Bool:=zas (λj=>!(zaC (M.C j).nm)) i
def b6c (M:Mo) (i:Nat):Bool:=zas (λj=>zas (λp=>decide ((M.C p).nm=(M.C j).nm)) j) i
def b3r (M:Mo) (i:Nat):Bool:=b3c M M.ck || zas (λj=>!(tfB (M.R j).tk (M.R j).col (M.R j).T && abB (M.R j).lo (M.R j).hi)) i
def b5r (M:Mo) (i:Nat):Bool:=b5c M M.ck || zas (λj=>!(zaC (M.R j).nm)) i
def b6r (M:Mo) (i:Nat):Bool:=b6c M M.ck || zas (λj=>zas (λp=>decide ((M.R p).nm=(M.R j).nm)) j) i
def b7r (M:Mo) (i:Nat):Bool:=zas (λj=>zas (λp=>decide ((M.ck:Int)<=(M.R j).col p)) (M.R j).tk) i
theorem zil {w M} (h:MoR w M) (hs:MoS M) (hck:M.ck<=64) (hrk:M.rk<=64) (hcap:(M.ck<=M.cc/\M.cc<=9223372036854775807)/\M.rk<=M.rc/\M.rc<=9223372036854775807):Calls prog 73 #[M.val] w λe w'=>e=.returned (.int .i64 (ev (b3r M M.rk) (b5r M M.rk) (b6r M M.rk) (b7r M M.rk)))/\Bl w w':=by
 obtain⟨ans,hans⟩:∃a,ev (b3r M M.rk) (b5r M M.rk) (b6r M M.rk) (b7r M M.rk)=a:=⟨_,rfl⟩;rw[hans];obtain⟨N,hN⟩:∃N,N=M:=⟨_,rfl⟩;have H3:=zk (show b3c N 0=!(nfB M.off)from by rw[hN];simp[b3c,zas]);obtain⟨fo,hfo⟩:∃t,nfB M.off=t:=⟨_,rfl⟩;have CO:=zk (λw' (hw:Bl w w')=>zdD (w:=w') (s:=M.off.s) (h.off.q_ hw).1 hs.off.1 hs.off.2);rw[show rfB M.off.s M.off.f M.off.n M.off.g M.off.m=fo from hfo]at CO
 rw[hfo]at H3
 have HSC:=zk hs.c;have HSR:=zk hs.r
 obtain⟨_,hC,hR,_,_⟩:=h;obtain⟨⟨s,x,n,c,f,y,m,d,g⟩,ca,ck,cc,C,ra,rk,rc,R⟩:=M;replace hck:ck<=64:=hck;replace hrk:rk<=64:=hrk;obtain⟨⟨hc1,hc2⟩,hc3,hc4⟩:=hcap;replace hc1:ck<=cc:=hc1;replace hc2:cc<=9223372036854775807:=hc2;replace hc3:rk<=rc:=hc3;replace hc4:rc<=9223372036854775807:=hc4;have HC:Hid (Cls w ca ck C):=hC;have HRL:Hid (Rls w ra rk R):=hR;replace HSC:Hid (∀j,j<ck->((C j).cost.n<=1000/\(C j).cost.m<=1000)/\((C j).lo.v.n<=1000/\(C j).lo.v.m<=1000)/\(C j).hi.v.n<=1000/\(C j).hi.v.m<=1000):=HSC;replace HSR:Hid (∀j,j<rk->((R j).lo.v.n<=1000/\(R j).lo.v.m<=1000)/\((R j).hi.v.n<=1000/\(R j).hi.v.m<=1000)/\(R j).tk<=10000/\∀p,p<(R j).tk->((R j).T p).n<=1000/\((R j).T p).m<=1000):=HSR;replace CO:Hid (∀w' (hw:Bl w w'),Calls prog 106 #[.agg #[.bool s,slice x n c,slice y m d]] w' λe w2=>e=.returned (.bool fo)/\Bl w' w2):=CO;have H3C:=zk (show ∀i,b3c N (i+1)=(b3c N i || !(nfB (C i).cost && abB (C i).lo (C i).hi))from λi=>by rw[hN];simp only[b3c,zas,Bool.or_assoc]);have H5C:=zk (show b5c N 0=false/\∀i,b5c N (i+1)=(b5c N i || !(zaC (C i).nm))from by rw[hN];exact⟨rfl,λi=>rfl⟩);have H6C:=zk (show b6c N 0=false/\∀i,b6c N (i+1)=(b6c N i || zas (λp=>decide ((C p).nm=(C i).nm)) i)from by rw[hN];exact⟨rfl,λi=>rfl⟩);have H3R:=zk (show b3r N 0=b3c N ck/\∀i,b3r N (i+1)=(b3r N i || !(tfB (R i).tk (R i).col (R i).T && abB (R i).lo (R i).hi))from by rw[hN];exact⟨by simp[b3r,zas],λi=>by simp only[b3r,zas,Bool.or_assoc]⟩);have H5R:=zk (show b5r N 0=b5c N ck/\∀i,b5r N (i+1)=(b5r N i || !(zaC (R i).nm))from by rw[hN];exact⟨by simp[b5r,zas],λi=>by simp only[b5r,zas,Bool.or_assoc]⟩);have H6R:=zk (show b6r N 0=b6c N ck/\∀i,b6r N (i+1)=(b6r N i || zas (λp=>decide ((R p).nm=(R i).nm)) i)from by rw[hN];exact⟨by simp[b6r,zas],λi=>by simp only[b6r,zas,Bool.or_assoc]⟩);have H7R:=zk (show b7r N 0=false/\∀i,b7r N (i+1)=(b7r N i || zas (λp=>decide ((ck:Int)<=(R i).col p)) (R i).tk)from by rw[hN];exact⟨rfl,λi=>rfl⟩);have HANS:=zk (show ev (b3r N rk) (b5r N rk) (b6r N rk) (b7r N rk)=ans from by rw[hN];exact hans);show Calls prog 73 #[.agg #[.bool s,slice x n c,slice y m d,slice ca ck cc,slice ra rk rc]] w λe w'=>e=.returned (.int .i64 ans)/\Bl w w'
 clear hC hR hN hfo hs hans;have e1:¬(ck:Int) > 64:=by omega
 have e2:¬(rk:Int) > 64:=by omega
 go_enter func73,ntmps73;go_wp2_with fail
 have HB:=zk (zB w (cells #[.bool s,slice x n c,slice y m d,slice ca ck cc,slice ra rk rc] 28));obtain⟨-,-,-,k3,k4⟩:=bk5 (zF w [.bool s,slice x n c,slice y m d,slice ca ck cc,slice ra rk rc] 28);refine(CO.out _ HB.out).mono ?_;rintro r w1 ⟨rfl,hb1⟩;have HK3:=zk (kCb hb1 k3);have HK4:=zk (kCb hb1 k4)
 have HB1:=zJ HB hb1;generalize w1=w0 at *;clear hb1 HB CO k3 k4;have HD0:Hid (DL w0 w0 (slice none 0 0) [] 0 (ev false false false false)):=⟨Below.refl _ _,zak _ _ _ _,le_refl _,rfl⟩
 go_upto_if 27 with fail
 go_cut [3]from 24 to 30 (λv wx=>∃(wz:World) (L:List Int),wz=wx/\Hid (DL w0 wz v L (0+1) (ev (!fo) false false false)))
 case first =>
  cases fo
  ·have hs0:=trivial;have hsz:=HD0.out.1.size;have hln:=HD0.out.2.2.1;go_wp2_with(at_builtin;go_must (refine zaf w0 rfl (.tmp 28) (.tmp 29) 123 rfl w0.heap.size 3 8 1 (.int .i64 0) underlying123 zbu rfl (by decide) nzi (slice none 0 0) 0 (ils []) rfl HD0.out.2.1 #[.int .i64 3] rfl rfl (zfN _) (zfl _) ?p1 ?p2 hsz ?_))
   case p1=>omega
   case p2=>omega
   intro g8 cap8 w8 hr8 hk8 hb8 hg8 hl8;have HD8:=zk (HD0.out.app hr8 hb8);clear hr8 hk8 hb8 hg8 hl8 hsz hln;go_wp2_with fail
   go_meet
   exact⟨_,_,rfl,HD8.out.mono (by omega) (by rw[ev3];simp)⟩
  ·go_wp2_with fail
   go_meet
   exact⟨_,_,rfl,HD0.out.mono (by omega) (by simp)⟩
 case rest =>
  obtain⟨w2,L,rfl,HD⟩:=hcut;replace HD:=zk (HD.out.mono (e':=ev (b3c N 0) (b5c N 0) (b6c N 0) false) (le_refl _) (by rw[H3.out,H5C.out.1,H6C.out.1]));clear HD0;have k3:=kCb HD.out.1 HK3.out;go_wp2_with fail
  go_loopw[3,34] (λov t wr=>∃(i:Nat) (L:List Int),i<=ck/\t=.int .i64 i/\Hid (DL w0 wr ov L (1+i*70) (ev (b3c N i) (b5c N i) (b6c N i) false))) (λ_ t _=>ck-(intOf t).toNat)
  case atStart=>exact⟨0,L,by omega,rfl,HD.out.mono (by omega) rfl⟩
  case round =>
   clear HD k3;obtain⟨i,L,hi,rfl,HD⟩:=hrel;by_cases hlt:i<ck
   ·skip
    obtain⟨b,o,rfl,hc,hn⟩:=(HC.out.q_ (HB1.out.trans (HD.out.1.mono HB1.out.size))) i hlt;obtain⟨t1,ht1⟩:∃t,nfB (C i).cost=t:=⟨_,rfl⟩;obtain⟨t2,ht2⟩:∃t,abB (C i).lo (C i).hi=t:=⟨_,rfl⟩;obtain⟨t3,ht3⟩:∃t,zaC (C i).nm=t:=⟨_,rfl⟩;have C1:=zk (λw' (hw:Bl wr w')=>zdD (w:=w') (s:=(C i).cost.s) (c:=(C i).cost.c) (d:=(C i).cost.d) (hn.cost.q_ hw).1 (HSC.out i hlt).1.1 (HSC.out i hlt).1.2);have C2:=zk (λw' (hw:Bl wr w')=>zgc (w:=w') (hn.lo.q_ hw) (hn.hi.q_ hw) (HSC.out i hlt).2.1 (HSC.out i hlt).2.2);have C3:=zk (λw'=>zky (w:=w') (s:=(C i).nm) hn.nm);rw[show rfB (C i).cost.s (C i).cost.f (C i).cost.n (C i).cost.g (C i).cost.m=t1 from ht1]at C1
    rw[ht2]at C2
    rw[ht3]at C3
    have E3:=zk (H3C.out i);have E5:=zk (H5C.out.2 i);have E6:=zk (H6C.out.2 i);rw[ht1,ht2]at E3
    rw[ht3]at E5
    obtain⟨zi,hzi⟩:∃z,(C i).nm=z:=⟨_,rfl⟩;rw[hzi]at E6
    obtain⟨⟨z,⟨s0,x0,n0,c0,f0,y0,m0,d0,g0⟩,⟨i1,⟨s1,x1,n1,c1,f1,y1,m1,d1,g1⟩⟩,⟨i2,⟨s2,x2,n2,c2,f2,y2,m2,d2,g2⟩⟩⟩,hCi⟩:∃t,C i=t:=⟨_,rfl⟩;rw[hCi]at hc C1 C2 C3 hzi
    replace hzi:z=zi:=hzi;subst hzi;replace C1:Hid (∀w' (hw:Bl wr w'),Calls prog 106 #[.agg #[.bool s0,slice x0 n0 c0,slice y0 m0 d0]] w' λr w2=>r=.returned (.bool t1)/\Bl w' w2):=C1;replace C2:Hid (∀w' (hw:Bl wr w'),Calls prog 107 #[.agg #[.int .i64 i1,.bool s1,slice x1 n1 c1,slice y1 m1 d1],.agg #[.int .i64 i2,.bool s2,slice x2 n2 c2,slice y2 m2 d2]] w' λr w2=>r=.returned (.bool t2)/\Bl w' w2):=C2;replace C3:Hid (∀w',Calls prog 108 #[.string z] w' λr w2=>r=.returned (.bool t3)/\w2=w'):=C3;obtain⟨q0,q1,q2,q3,q4,q5,q6,q7,q8,q9,q10,q11⟩:=hc.lc;have i1':((i:Nat):Int)<((ck:Nat):Int):=by omega
    clear hCi hc hn ht1 ht2 ht3;go_upto_region 9 with fail
    have hb5:=zB wr (cells #[.string z,.bool s0,slice x0 n0 c0,slice y0 m0 d0,.int .i64 i1,.bool s1,slice x1 n1 c1,slice y1 m1 d1,.int .i64 i2,.bool s2,slice x2 n2 c2,slice y2 m2 d2] 60);have HD5:Hid (DX w0 (wr.alloc (cells #[.string z,.bool s0,slice x0 n0 c0,slice y0 m0 d0,.int .i64 i1,.bool s1,slice x1 n1 c1,slice y1 m1 d1,.int .i64 i2,.bool s2,slice x2 n2 c2,slice y2 m2 d2] 60)) u3 L (1+i*70) (ev (b3c N i) (b5c N i) (b6c N i) false) wr.heap.size [.string z,.bool s0,slice x0 n0 c0,slice y0 m0 d0,.int .i64 i1,.bool s1,slice x1 n1 c1,slice y1 m1 d1,.int .i64 i2,.bool s2,slice x2 n2 c2,slice y2 m2 d2] 60):=HD.out.dx [.string z,.bool s0,slice x0 n0 c0,slice y0 m0 d0,.int .i64 i1,.bool s1,slice x1 n1 c1,slice y1 m1 d1,.int .i64 i2,.bool s2,slice x2 n2 c2,slice y2 m2 d2] 60;have a0:=HD5.out.2.1.cell (j:=0) rfl;have a1:=HD5.out.2.1.cell (j:=1) rfl;have a2:=HD5.out.2.1.cell (j:=2) rfl;have a3:=HD5.out.2.1.cell (j:=3) rfl;have a4:=HD5.out.2.1.cell (j:=4) rfl;have a5:=HD5.out.2.1.cell (j:=5) rfl;have a6:=HD5.out.2.1.cell (j:=6) rfl;have a7:=HD5.out.2.1.cell (j:=7) rfl;have a8:=HD5.out.2.1.cell (j:=8) rfl;have a9:=HD5.out.2.1.cell (j:=9) rfl;have a10:=HD5.out.2.1.cell (j:=10) rfl;have a11:=HD5.out.2.1.cell (j:=11) rfl;clear HD q0 q1 q2 q3 q4 q5 q6 q7 q8 q9 q10 q11;generalize hw5:wr.alloc (cells #[.string z,.bool s0,slice x0 n0 c0,slice y0 m0 d0,.int .i64 i1,.bool s1,slice x1 n1 c1,slice y1 m1 d1,.int .i64 i2,.bool s2,slice x2 n2 c2,slice y2 m2 d2] 60)=w5 at *;go_cut [50,34]from 34 to 79 (λu t wx=>∃(wz:World),wz=wx/\u=.bool (!(t1 && t2))/\t=.int .i64 i/\Hid (Bl w5 wz))
    case first =>
     go_wp2_with fail
     refine(C1.out _ hb5).mono ?_;rintro r w6 ⟨rfl,hb6⟩;replace a4:=kCb hb6 a4;replace a5:=kCb hb6 a5;replace a6:=kCb hb6 a6;replace a7:=kCb hb6 a7;replace a8:=kCb hb6 a8;replace a9:=kCb hb6 a9;replace a10:=kCb hb6 a10;replace a11:=kCb hb6 a11;cases t1
     ·go_wp2_with fail
      go_meet
      exact⟨_,rfl,rfl,rfl,hb6⟩
     ·go_wp2_with fail
      refine(C2.out _ (bUp hb5 hb6)).mono ?_;rintro r w7 ⟨rfl,hb7⟩;go_wp2_with fail
      go_meet
      exact⟨_,rfl,by simp,rfl,bUp hb6 hb7⟩
    case rest =>
     obtain⟨w6,rfl,rfl,rfl,HB6⟩:=hcut;replace HD5:=zk (HD5.out.q_ HB6.out);obtain⟨tb,htb⟩:∃t,(t1 && t2)=t:=⟨_,rfl⟩;rw[htb]at E3
     simp only[htb];generalize wr.heap.size=bx at *;clear C1 C2 htb HB6 hb5 hw5 a0 a1 a2 a3 a4 a5 a6 a7 a8 a9 a10 a11
     go_upto_if 50 with fail
     go_cut [3,34]from 34 to 79 (λv t34 wx=>∃(wz:World) (L:List Int),wz=wx/\t34=.int .i64 i/\Hid (DX w0 wz v L ((1+i*70)+1) (ev (b3c N i || !tb) (b5c N i) (b6c N i) false) bx [.string z,.bool s0,slice x0 n0 c0,slice y0 m0 d0,.int .i64 i1,.bool s1,slice x1 n1 c1,slice y1 m1 d1,.int .i64 i2,.bool s2,slice x2 n2 c2,slice y2 m2 d2] 60))
     case first =>
      cases tb
      ·have hs0:=trivial;have hsz:=HD5.out.1.1.size;have hln:=HD5.out.1.2.2.1;go_wp2_with(at_builtin;go_must (refine zaf w6 rfl (.tmp 51) (.tmp 52) 123 rfl w0.heap.size 3 8 1 (.int .i64 0) underlying123 zbu rfl (by decide) nzi u3 L.length (ils L) rfl HD5.out.1.2.1 #[.int .i64 3] rfl rfl (zfN _) (zfl _) ?p1 ?p2 hsz ?_))
       case p1=>omega
       case p2=>omega
       intro g8 cap8 w8 hr8 hk8 hb8 hg8 hl8;have HD8:=zk (HD5.out.app hr8 hb8 hg8 hl8);clear hr8 hk8 hb8 hg8 hl8 hsz hln;go_wp2_with fail
       go_meet
       exact⟨_,_,rfl,rfl,HD8.out.mono (by omega) (by rw[ev3];simp)⟩
      ·go_wp2_with fail
       go_meet
       exact⟨_,_,rfl,rfl,HD5.out.mono (by omega) (by simp)⟩
     case rest =>
      obtain⟨w7,L,rfl,rfl,HD7⟩:=hcut;clear HD5;have a0:=HD7.out.2.1.cell (j:=0) rfl;go_wp2_with fail
      refine(C3.out _).mono ?_;rintro r w7b ⟨rfl,rfl⟩;rw[<-E3.out]at HD7
      go_upto_if 57 with fail
      go_cut [3,34]from 34 to 79 (λv t34 wx=>∃(wz:World) (L:List Int),wz=wx/\t34=.int .i64 i/\Hid (DX w0 wz v L ((1+i*70)+1+1) (ev (b3c N (i+1)) (b5c N i || !t3) (b6c N i) false) bx [.string z,.bool s0,slice x0 n0 c0,slice y0 m0 d0,.int .i64 i1,.bool s1,slice x1 n1 c1,slice y1 m1 d1,.int .i64 i2,.bool s2,slice x2 n2 c2,slice y2 m2 d2] 60))
      case first =>
       cases t3
       ·have hs0:=trivial;have hsz:=HD7.out.1.1.size;have hln:=HD7.out.1.2.2.1;go_wp2_with(at_builtin;go_must (refine zaf w7b rfl (.tmp 58) (.tmp 59) 123 rfl w0.heap.size 3 8 1 (.int .i64 0) underlying123 zbu rfl (by decide) nzi u3 L.length (ils L) rfl HD7.out.1.2.1 #[.int .i64 5] rfl rfl (zfN _) (zfl _) ?p1 ?p2 hsz ?_))
        case p1=>omega
        case p2=>omega
        intro g8 cap8 w8 hr8 hk8 hb8 hg8 hl8;have HD8:=zk (HD7.out.app hr8 hb8 hg8 hl8);clear hr8 hk8 hb8 hg8 hl8 hsz hln;go_wp2_with fail
        go_meet
        exact⟨_,_,rfl,rfl,HD8.out.mono (by omega) (by rw[ev5];simp)⟩
       ·go_wp2_with fail
        go_meet
        exact⟨_,_,rfl,rfl,HD7.out.mono (by omega) (by simp)⟩
      case rest =>
       obtain⟨w8,L,rfl,rfl,HD⟩:=hcut;clear HD7 a0 C3;rw[<-E5.out]at HD
       have k3:=kCb HD.out.1.1 HK3.out;have j1:((i:Nat):Int)<=((cc:Nat):Int):=by omega
       go_wp2_with fail
       go_loopw[3,66] (λov t wr=>∃(p:Nat) (L:List Int),p<=i/\t=.int .i64 p/\Hid (DX w0 wr ov L ((1+i*70)+2+p) (ev (b3c N (i+1)) (b5c N (i+1)) (b6c N i || zas (λq=>decide ((C q).nm=z)) p) false) bx [.string z,.bool s0,slice x0 n0 c0,slice y0 m0 d0,.int .i64 i1,.bool s1,slice x1 n1 c1,slice y1 m1 d1,.int .i64 i2,.bool s2,slice x2 n2 c2,slice y2 m2 d2] 60)) (λ_ t _=>i-(intOf t).toNat)
       case atStart=>exact⟨0,L,by omega,rfl,HD.out.mono (by omega) (by simp[zas])⟩
       case round =>
        clear HD k3;obtain⟨p,L,hp,rfl,HD⟩:=hrel;by_cases hlp:p<i
        ·obtain⟨b',o',e',hc,hn⟩:=(HC.out.q_ (HB1.out.trans (HD.out.1.1.mono HB1.out.size))) p (by omega);cases e'
         obtain⟨⟨vz,⟨vs0,vx0,vn0,vc0,vf0,vy0,vm0,vd0,vg0⟩,⟨vi1,⟨vs1,vx1,vn1,vc1,vf1,vy1,vm1,vd1,vg1⟩⟩,⟨vi2,⟨vs2,vx2,vn2,vc2,vf2,vy2,vm2,vd2,vg2⟩⟩⟩,hCp⟩:∃t,C p=t:=⟨_,rfl⟩;rw[hCp]at hc
         have HNP:=zk (show(C p).nm=vz from by rw[hCp]);obtain⟨q0,q1,q2,q3,q4,q5,q6,q7,q8,q9,q10,q11⟩:=hc.lc;have a0:=HD.out.2.1.cell (j:=0) rfl;have hblt:=HD.out.2.1.lt;have i2':((p:Nat):Int)<((i:Nat):Int):=by omega
         have HD5:=zk (HD.out.q_ (zB wr (cells #[.string vz,.bool vs0,slice vx0 vn0 vc0,slice vy0 vm0 vd0,.int .i64 vi1,.bool vs1,slice vx1 vn1 vc1,slice vy1 vm1 vd1,.int .i64 vi2,.bool vs2,slice vx2 vn2 vc2,slice vy2 vm2 vd2] 60)));have hbne:¬(bx=wr.heap.size):=by omega
         have a05:=HD5.out.2.1.cell (j:=0) rfl;clear hCp hc hn;by_cases hzq:vz=z
         ·subst hzq
          go_upto_if 74 with fail
          generalize wr.alloc (cells #[.string vz,.bool vs0,slice vx0 vn0 vc0,slice vy0 vm0 vd0,.int .i64 vi1,.bool vs1,slice vx1 vn1 vc1,slice vy1 vm1 vd1,.int .i64 vi2,.bool vs2,slice vx2 vn2 vc2,slice vy2 vm2 vd2] 60)=w5 at *;have hsz:=HD5.out.1.1.size;have hln:=HD5.out.1.2.2.1;go_wp2_with(at_builtin;go_must (refine zaf w5 rfl (.tmp 75) (.tmp 76) 123 rfl w0.heap.size 3 8 1 (.int .i64 0) underlying123 zbu rfl (by decide) nzi u3 L.length (ils L) rfl HD5.out.1.2.1 #[.int .i64 6] rfl rfl (zfN _) (zfl _) ?p1 ?p2 hsz ?_))
          case p1=>omega
          case p2=>omega
          intro g8 cap8 w8 hr8 hk8 hb8 hg8 hl8;have HD8:=zk (HD5.out.app hr8 hb8 hg8 hl8);clear hr8 hk8 hb8 hg8 hl8 hsz hln;go_wp2;go_roundw
          case rel=>exact⟨p+1,_,by omega,by go_num,HD8.out.mono (by omega) (by rw[ev6];simp[zas,HNP.out])⟩
          case measure=>simp[intOf];omega
         ·have hne:=zgB hzq;go_wp2;go_roundw
          case rel=>exact⟨p+1,_,by omega,by go_num,HD5.out.mono (by omega) (by simp[zas,HNP.out,hzq])⟩
          case measure=>simp[intOf];omega
        ·have e1:p=i:=by omega
         have i2':¬(((p:Nat):Int)<((i:Nat):Int)):=by omega
         rw[e1]at HD
         have HD9:=zk (HD.out.1.mono (k':=1+(i+1)*70) (e':=ev (b3c N (i+1)) (b5c N (i+1)) (b6c N (i+1)) false) (by omega) (by rw[E6.out]));clear HD e1;go_wp2;go_roundw
         case rel=>exact⟨i+1,L,by omega,by go_num,HD9.out⟩
         case measure=>simp[intOf];omega
   ·have e1:i=ck:=by omega
    have i2':¬(((i:Nat):Int)<((ck:Nat):Int)):=by omega
    rw[e1]at HD
    have HD2:=zk (HD.out.mono (k':=5000) (e':=ev (b3r N 0) (b5r N 0) (b6r N 0) (b7r N 0)) (by omega) (by rw[H3R.out.1,H5R.out.1,H6R.out.1,H7R.out.1]));have k4:=kCb HD2.out.1 HK4.out;clear HD e1;go_wp2_with fail
    go_loopw[3,83] (λov t wr=>∃(i:Nat) (L:List Int),i<=rk/\t=.int .i64 i/\Hid (DL w0 wr ov L (5000+i*10100) (ev (b3r N i) (b5r N i) (b6r N i) (b7r N i)))) (λ_ t _=>rk-(intOf t).toNat)
    case atStart=>exact⟨0,L,by omega,rfl,HD2.out.mono (by omega) rfl⟩
    case round =>
     clear HD2 k4;obtain⟨i,L,hi,rfl,HD⟩:=hrel;by_cases hlt:i<rk
     ·skip
      obtain⟨b,o,rfl,hc,hn⟩:=(HRL.out.q_ (HB1.out.trans (HD.out.1.mono HB1.out.size))) i hlt;obtain⟨t1,ht1⟩:∃t,tfB (R i).tk (R i).col (R i).T=t:=⟨_,rfl⟩;obtain⟨t2,ht2⟩:∃t,abB (R i).lo (R i).hi=t:=⟨_,rfl⟩;obtain⟨t3,ht3⟩:∃t,zaC (R i).nm=t:=⟨_,rfl⟩;have C1:=zk (λw' (hw:Bl wr w')=>zpK (w:=w') (cap:=(R i).tc) (hn.tl.q_ hw) (HSR.out i hlt).2.2.1 (HSR.out i hlt).2.2.2);have C2:=zk (λw' (hw:Bl wr w')=>zgc (w:=w') (hn.lo.q_ hw) (hn.hi.q_ hw) (HSR.out i hlt).1 (HSR.out i hlt).2.1);have C3:=zk (λw'=>zky (w:=w') (s:=(R i).nm) hn.nm);rw[ht1]at C1
      rw[ht2]at C2
      rw[ht3]at C3
      have E3:=zk (H3R.out.2 i);have E5:=zk (H5R.out.2 i);have E6:=zk (H6R.out.2 i);rw[ht1,ht2]at E3
      rw[ht3]at E5
      have E7:=zk (H7R.out.2 i);have HTL:=zk (show Tl w (R i).ta (R i).tk (R i).col (R i).T from by obtain⟨_,_,_,_,h⟩:=HRL.out i hlt;exact h.tl);have hltk:=(HSR.out i hlt).2.2.1;obtain⟨zi,hzi⟩:∃z,(R i).nm=z:=⟨_,rfl⟩;rw[hzi]at E6
      obtain⟨⟨z,⟨i1,⟨s1,x1,n1,c1,f1,y1,m1,d1,g1⟩⟩,⟨i2,⟨s2,x2,n2,c2,f2,y2,m2,d2,g2⟩⟩,ta,tk,tc,tcol,tt⟩,hCi⟩:∃t,R i=t:=⟨_,rfl⟩;rw[hCi]at hc C1 C2 C3 hzi E7 HTL hltk
      replace hzi:z=zi:=hzi;subst hzi;replace E7:Hid (b7r N (i+1)=(b7r N i || zas (λp=>decide ((ck:Int)<=tcol p)) tk)):=E7;replace HTL:Hid (Tl w ta tk tcol tt):=HTL;replace hltk:tk<=10000:=hltk;replace C1:Hid (∀w' (hw:Bl wr w'),Calls prog 109 #[slice ta tk tc] w' λr w2=>r=.returned (.bool t1)/\Bl w' w2):=C1;replace C2:Hid (∀w' (hw:Bl wr w'),Calls prog 107 #[.agg #[.int .i64 i1,.bool s1,slice x1 n1 c1,slice y1 m1 d1],.agg #[.int .i64 i2,.bool s2,slice x2 n2 c2,slice y2 m2 d2]] w' λr w2=>r=.returned (.bool t2)/\Bl w' w2):=C2;replace C3:Hid (∀w',Calls prog 108 #[.string z] w' λr w2=>r=.returned (.bool t3)/\w2=w'):=C3;obtain⟨q0,q1,q2,q3,q4,q5,q6,q7,q8,q9⟩:=hc.lr;have i1':((i:Nat):Int)<((rk:Nat):Int):=by omega
      clear hCi hc hn ht1 ht2 ht3;go_upto_region 23 with fail
      have hb5:=zB wr (cells #[.string z,.int .i64 i1,.bool s1,slice x1 n1 c1,slice y1 m1 d1,.int .i64 i2,.bool s2,slice x2 n2 c2,slice y2 m2 d2,slice ta tk tc] 63);have HD5:Hid (DX w0 (wr.alloc (cells #[.string z,.int .i64 i1,.bool s1,slice x1 n1 c1,slice y1 m1 d1,.int .i64 i2,.bool s2,slice x2 n2 c2,slice y2 m2 d2,slice ta tk tc] 63)) u3 L (5000+i*10100) (ev (b3r N i) (b5r N i) (b6r N i) (b7r N i)) wr.heap.size [.string z,.int .i64 i1,.bool s1,slice x1 n1 c1,slice y1 m1 d1,.int .i64 i2,.bool s2,slice x2 n2 c2,slice y2 m2 d2,slice ta tk tc] 63):=HD.out.dx [.string z,.int .i64 i1,.bool s1,slice x1 n1 c1,slice y1 m1 d1,.int .i64 i2,.bool s2,slice x2 n2 c2,slice y2 m2 d2,slice ta tk tc] 63;have a0:=HD5.out.2.1.cell (j:=0) rfl;have a1:=HD5.out.2.1.cell (j:=1) rfl;have a2:=HD5.out.2.1.cell (j:=2) rfl;have a3:=HD5.out.2.1.cell (j:=3) rfl;have a4:=HD5.out.2.1.cell (j:=4) rfl;have a5:=HD5.out.2.1.cell (j:=5) rfl;have a6:=HD5.out.2.1.cell (j:=6) rfl;have a7:=HD5.out.2.1.cell (j:=7) rfl;have a8:=HD5.out.2.1.cell (j:=8) rfl;have a9:=HD5.out.2.1.cell (j:=9) rfl;clear HD q0 q1 q2 q3 q4 q5 q6 q7 q8 q9;generalize hw5:wr.alloc (cells #[.string z,.int .i64 i1,.bool s1,slice x1 n1 c1,slice y1 m1 d1,.int .i64 i2,.bool s2,slice x2 n2 c2,slice y2 m2 d2,slice ta tk tc] 63)=w5 at *;go_cut [99,83]from 83 to 145 (λu t wx=>∃(wz:World),wz=wx/\u=.bool (!(t1 && t2))/\t=.int .i64 i/\Hid (Bl w5 wz))
      case first =>
       go_wp2_with fail
       refine(C1.out _ hb5).mono ?_;rintro r w6 ⟨rfl,hb6⟩;replace a1:=kCb hb6 a1;replace a2:=kCb hb6 a2;replace a3:=kCb hb6 a3;replace a4:=kCb hb6 a4;replace a5:=kCb hb6 a5;replace a6:=kCb hb6 a6;replace a7:=kCb hb6 a7;replace a8:=kCb hb6 a8;replace a9:=kCb hb6 a9;cases t1
       ·go_wp2_with fail
        go_meet
        exact⟨_,rfl,rfl,rfl,hb6⟩
       ·go_wp2_with fail
        refine(C2.out _ (bUp hb5 hb6)).mono ?_;rintro r w7 ⟨rfl,hb7⟩;go_wp2_with fail
        go_meet
        exact⟨_,rfl,by simp,rfl,bUp hb6 hb7⟩
      case rest =>
       obtain⟨w6,rfl,rfl,rfl,HB6⟩:=hcut;replace HD5:=zk (HD5.out.q_ HB6.out);obtain⟨tb,htb⟩:∃t,(t1 && t2)=t:=⟨_,rfl⟩;rw[htb]at E3
       simp only[htb];generalize wr.heap.size=bx at *;clear C1 C2 htb HB6 hb5 hw5 a0 a1 a2 a3 a4 a5 a6 a7 a8 a9
       go_upto_if 99 with fail
       go_cut [3,83]from 83 to 145 (λv t83 wx=>∃(wz:World) (L:List Int),wz=wx/\t83=.int .i64 i/\Hid (DX w0 wz v L ((5000+i*10100)+1) (ev (b3r N i || !tb) (b5r N i) (b6r N i) (b7r N i)) bx [.string z,.int .i64 i1,.bool s1,slice x1 n1 c1,slice y1 m1 d1,.int .i64 i2,.bool s2,slice x2 n2 c2,slice y2 m2 d2,slice ta tk tc] 63))
       case first =>
        cases tb
        ·have hs0:=trivial;have hsz:=HD5.out.1.1.size;have hln:=HD5.out.1.2.2.1;go_wp2_with(at_builtin;go_must (refine zaf w6 rfl (.tmp 100) (.tmp 101) 123 rfl w0.heap.size 3 8 1 (.int .i64 0) underlying123 zbu rfl (by decide) nzi u3 L.length (ils L) rfl HD5.out.1.2.1 #[.int .i64 3] rfl rfl (zfN _) (zfl _) ?p1 ?p2 hsz ?_))
         case p1=>omega
         case p2=>omega
         intro g8 cap8 w8 hr8 hk8 hb8 hg8 hl8;have HD8:=zk (HD5.out.app hr8 hb8 hg8 hl8);clear hr8 hk8 hb8 hg8 hl8 hsz hln;go_wp2_with fail
         go_meet
         exact⟨_,_,rfl,rfl,HD8.out.mono (by omega) (by rw[ev3];simp)⟩
        ·go_wp2_with fail
         go_meet
         exact⟨_,_,rfl,rfl,HD5.out.mono (by omega) (by simp)⟩
       case rest =>
        obtain⟨w7,L,rfl,rfl,HD7⟩:=hcut;clear HD5;have a0:=HD7.out.2.1.cell (j:=0) rfl;go_wp2_with fail
        refine(C3.out _).mono ?_;rintro r w7b ⟨rfl,rfl⟩;rw[<-E3.out]at HD7
        go_upto_if 106 with fail
        go_cut [3,83]from 83 to 145 (λv t83 wx=>∃(wz:World) (L:List Int),wz=wx/\t83=.int .i64 i/\Hid (DX w0 wz v L ((5000+i*10100)+1+1) (ev (b3r N (i+1)) (b5r N i || !t3) (b6r N i) (b7r N i)) bx [.string z,.int .i64 i1,.bool s1,slice x1 n1 c1,slice y1 m1 d1,.int .i64 i2,.bool s2,slice x2 n2 c2,slice y2 m2 d2,slice ta tk tc] 63))
        case first =>
         cases t3
         ·have hs0:=trivial;have hsz:=HD7.out.1.1.size;have hln:=HD7.out.1.2.2.1;go_wp2_with(at_builtin;go_must (refine zaf w7b rfl (.tmp 107) (.tmp 108) 123 rfl w0.heap.size 3 8 1 (.int .i64 0) underlying123 zbu rfl (by decide) nzi u3 L.length (ils L) rfl HD7.out.1.2.1 #[.int .i64 5] rfl rfl (zfN _) (zfl _) ?p1 ?p2 hsz ?_))
          case p1=>omega
          case p2=>omega
          intro g8 cap8 w8 hr8 hk8 hb8 hg8 hl8;have HD8:=zk (HD7.out.app hr8 hb8 hg8 hl8);clear hr8 hk8 hb8 hg8 hl8 hsz hln;go_wp2_with fail
          go_meet
          exact⟨_,_,rfl,rfl,HD8.out.mono (by omega) (by rw[ev5];simp)⟩
         ·go_wp2_with fail
          go_meet
          exact⟨_,_,rfl,rfl,HD7.out.mono (by omega) (by simp)⟩
        case rest =>
         obtain⟨w8,L,rfl,rfl,HD⟩:=hcut;clear HD7 a0 C3;rw[<-E5.out]at HD
         have k3:=kCb HD.out.1.1 HK4.out;have j1:((i:Nat):Int)<=((rc:Nat):Int):=by omega
         go_wp2_with fail
         go_loopw[3,115] (λov t wr=>∃(p:Nat) (L:List Int),p<=i/\t=.int .i64 p/\Hid (DX w0 wr ov L ((5000+i*10100)+2+p) (ev (b3r N (i+1)) (b5r N (i+1)) (b6r N i || zas (λq=>decide ((R q).nm=z)) p) (b7r N i)) bx [.string z,.int .i64 i1,.bool s1,slice x1 n1 c1,slice y1 m1 d1,.int .i64 i2,.bool s2,slice x2 n2 c2,slice y2 m2 d2,slice ta tk tc] 63)) (λ_ t _=>i-(intOf t).toNat)
         case atStart=>exact⟨0,L,by omega,rfl,HD.out.mono (by omega) (by simp[zas])⟩
         case round =>
          clear HD k3;obtain⟨p,L,hp,rfl,HD⟩:=hrel;by_cases hlp:p<i
          ·obtain⟨b',o',e',hc,hn⟩:=(HRL.out.q_ (HB1.out.trans (HD.out.1.1.mono HB1.out.size))) p (by omega);cases e'
           obtain⟨⟨vz,⟨vi1,⟨vs1,vx1,vn1,vc1,vf1,vy1,vm1,vd1,vg1⟩⟩,⟨vi2,⟨vs2,vx2,vn2,vc2,vf2,vy2,vm2,vd2,vg2⟩⟩,vta,vtk,vtc,vtcol,vtt⟩,hCp⟩:∃t,R p=t:=⟨_,rfl⟩;rw[hCp]at hc
           have HNP:=zk (show(R p).nm=vz from by rw[hCp]);obtain⟨q0,q1,q2,q3,q4,q5,q6,q7,q8,q9⟩:=hc.lr;have a0:=HD.out.2.1.cell (j:=0) rfl;have hblt:=HD.out.2.1.lt;have i2':((p:Nat):Int)<((i:Nat):Int):=by omega
           have HD5:=zk (HD.out.q_ (zB wr (cells #[.string vz,.int .i64 vi1,.bool vs1,slice vx1 vn1 vc1,slice vy1 vm1 vd1,.int .i64 vi2,.bool vs2,slice vx2 vn2 vc2,slice vy2 vm2 vd2,slice vta vtk vtc] 63)));have hbne:¬(bx=wr.heap.size):=by omega
           have a05:=HD5.out.2.1.cell (j:=0) rfl;clear hCp hc hn;by_cases hzq:vz=z
           ·subst hzq
            go_upto_if 123 with fail
            generalize wr.alloc (cells #[.string vz,.int .i64 vi1,.bool vs1,slice vx1 vn1 vc1,slice vy1 vm1 vd1,.int .i64 vi2,.bool vs2,slice vx2 vn2 vc2,slice vy2 vm2 vd2,slice vta vtk vtc] 63)=w5 at *;have hsz:=HD5.out.1.1.size;have hln:=HD5.out.1.2.2.1;go_wp2_with(at_builtin;go_must (refine zaf w5 rfl (.tmp 124) (.tmp 125) 123 rfl w0.heap.size 3 8 1 (.int .i64 0) underlying123 zbu rfl (by decide) nzi u3 L.length (ils L) rfl HD5.out.1.2.1 #[.int .i64 6] rfl rfl (zfN _) (zfl _) ?p1 ?p2 hsz ?_))
            case p1=>omega
            case p2=>omega
            intro g8 cap8 w8 hr8 hk8 hb8 hg8 hl8;have HD8:=zk (HD5.out.app hr8 hb8 hg8 hl8);clear hr8 hk8 hb8 hg8 hl8 hsz hln;go_wp2;go_roundw
            case rel=>exact⟨p+1,_,by omega,by go_num,HD8.out.mono (by omega) (by rw[ev6];simp[zas,HNP.out])⟩
            case measure=>simp[intOf];omega
           ·have hne:=zgB hzq;go_wp2;go_roundw
            case rel=>exact⟨p+1,_,by omega,by go_num,HD5.out.mono (by omega) (by simp[zas,HNP.out,hzq])⟩
            case measure=>simp[intOf];omega
          ·have e1:p=i:=by omega
           have i2':¬(((p:Nat):Int)<((i:Nat):Int)):=by omega
           rw[e1]at HD
           have HD9:=zk (HD.out.mono (k':=(5000+i*10100)+66) (e':=ev (b3r N (i+1)) (b5r N (i+1)) (b6r N (i+1)) (b7r N i || zas (λq=>decide ((ck:Int)<=tcol q)) 0)) (by omega) (by rw[E6.out];simp[zas]));clear HD e1;have a9:=HD9.out.2.1.cell (j:=9) rfl;go_wp2_with fail
           go_loopw[3,131] (λov t wr=>∃(p:Nat) (L:List Int),p<=tk/\t=.int .i64 p/\Hid (DX w0 wr ov L ((5000+i*10100)+66+p) (ev (b3r N (i+1)) (b5r N (i+1)) (b6r N (i+1)) (b7r N i || zas (λq=>decide ((ck:Int)<=tcol q)) p)) bx [.string z,.int .i64 i1,.bool s1,slice x1 n1 c1,slice y1 m1 d1,.int .i64 i2,.bool s2,slice x2 n2 c2,slice y2 m2 d2,slice ta tk tc] 63)) (λ_ t _=>tk-(intOf t).toNat)
           case atStart=>exact⟨0,L,by omega,rfl,HD9.out.mono (by omega) rfl⟩
           case round =>
            clear HD9 a9;obtain⟨p,L,hp,rfl,HD⟩:=hrel;by_cases hlp:p<tk
            ·obtain⟨b2,o2,rfl,⟨x0,x1,x2,x3⟩,_⟩:=(HTL.out.q_ (HB1.out.trans (HD.out.1.1.mono HB1.out.size))) p hlp;obtain⟨⟨js,jx,jn,jc,jf,jy,jm,jd,jg⟩,hTp⟩:∃t,tt p=t:=⟨_,rfl⟩;obtain⟨jz,hjz⟩:∃t,tcol p=t:=⟨_,rfl⟩;rw[hTp]at x1 x2 x3
             rw[hjz]at x0
             replace x0:wr.cell? ⟨b2,o2+p*4,none⟩=some (.int .i64 jz):=x0;replace x1:wr.cell? ⟨b2,o2+p*4+1,none⟩=some (.bool js):=x1;replace x2:wr.cell? ⟨b2,o2+p*4+2,none⟩=some (slice jx jn jc):=x2;replace x3:wr.cell? ⟨b2,o2+p*4+3,none⟩=some (slice jy jm jd):=x3;have k3:=kCb HD.out.1.1 HK3.out;have hkl:=block_lt_of_cell? wr _ k3;replace hkl:w.heap.size<wr.heap.size:=hkl;have k35:(wr.alloc (cells #[.int .i64 jz,.bool js,slice jx jn jc,slice jy jm jd] 65)).cell? ⟨w.heap.size,3,none⟩=some (slice ca ck cc):=kCa k3;have i2':((p:Nat):Int)<((tk:Nat):Int):=by omega
             have HJZ:=zk hjz;have HD5:=zk (HD.out.q_ (zB wr (cells #[.int .i64 jz,.bool js,slice jx jn jc,slice jy jm jd] 65)));clear hTp hjz;by_cases hge:(ck:Int)<=jz
             ·go_upto_if 140 with fail
              generalize wr.alloc (cells #[.int .i64 jz,.bool js,slice jx jn jc,slice jy jm jd] 65)=w5 at *;have hsz:=HD5.out.1.1.size;have hln:=HD5.out.1.2.2.1;go_wp2_with(at_builtin;go_must (refine zaf w5 rfl (.tmp 141) (.tmp 142) 123 rfl w0.heap.size 3 8 1 (.int .i64 0) underlying123 zbu rfl (by decide) nzi u3 L.length (ils L) rfl HD5.out.1.2.1 #[.int .i64 7] rfl rfl (zfN _) (zfl _) ?p1 ?p2 hsz ?_))
              case p1=>omega
              case p2=>omega
              intro g8 cap8 w8 hr8 hk8 hb8 hg8 hl8;have HD8:=zk (HD5.out.app hr8 hb8 hg8 hl8);clear hr8 hk8 hb8 hg8 hl8 hsz hln;go_wp2;go_roundw
              case rel=>exact⟨p+1,_,by omega,by go_num,HD8.out.mono (by omega) (by rw[ev7];simp[zas,HJZ.out,hge])⟩
              case measure=>simp[intOf];omega
             ·go_wp2;go_roundw
              case rel=>exact⟨p+1,_,by omega,by go_num,HD5.out.mono (by omega) (by simp[zas,HJZ.out,hge])⟩
              case measure=>simp[intOf];omega
            ·have e1:p=tk:=by omega
             have i2':¬(((p:Nat):Int)<((tk:Nat):Int)):=by omega
             rw[e1]at HD
             have HD9:=zk (HD.out.1.mono (k':=5000+(i+1)*10100) (e':=ev (b3r N (i+1)) (b5r N (i+1)) (b6r N (i+1)) (b7r N (i+1))) (by omega) (by rw[E7.out]));clear HD e1;go_wp2;go_roundw
             case rel=>exact⟨i+1,L,by omega,by go_num,HD9.out⟩
             case measure=>simp[intOf];omega
     ·have e1:i=rk:=by omega
      have i2':¬(((i:Nat):Int)<((rk:Nat):Int)):=by omega
      rw[e1]at HD
      obtain⟨aw,cw,rfl⟩:=HD.out.2.1.slice;have hln:=HD.out.2.2.1;have CL:=zk (zdL (cap:=cw) (zsu (zgD HD.out.2.1)) (by omega));rw[zps,HD.out.2.2.2,HANS.out]at CL
      have HB9:=zk (HB1.out.trans (HD.out.1.mono HB1.out.size));clear HD e1;go_wp2_with fail
      refine CL.out.mono ?_;rintro r w9 ⟨rfl,rfl⟩;go_wp2;go_ret;exact⟨rfl,HB9.out⟩
theorem anyB_iff {B}:∀{i:Nat},zas B i=true ↔ ∃j,j<i/\B j=true
 | 0=>⟨λh=>by simp[zas]at h,λ⟨j,hj,_⟩=>by omega⟩
 | i+1=>by
  simp only[zas,Bool.or_eq_true,anyB_iff (i:=i)];constructor
  ·rintro(⟨j,h1,h2⟩|h)
   ·exact⟨j,by omega,h2⟩
   ·exact⟨i,by omega,h⟩
  ·rintro⟨j,h1,h2⟩;by_cases e:j=i
   ·subst e;exact .inr h2
   ·exact .inl ⟨j,by omega,h2⟩
theorem anyB_no {B i}:zas B i=false ↔ ∀j,j<i->B j=false:=by
 rw[<-Bool.not_eq_true,anyB_iff];constructor
 ·intro h j hj;cases hb:B j
  ·rfl
  ·exact absurd ⟨j,hj,hb⟩ h
 ·rintro h ⟨j,hj,hb⟩;rw[h j hj]at hb;cases hb
theorem znd {S}:∀{r i:Nat},nms S r i=true->∀j,i<=j->j<i+r->zaC (S j)=true
 | 0,_,_,j,h1,h2=>by omega
 | r+1,i,h,j,h1,h2=>by
  simp only[nms,Bool.and_eq_true]at h;by_cases e:j=i
  ·subst e;exact h.1
  ·exact znd h.2 j (by omega) (by omega)
theorem znc {S}:∀{r i:Nat},(∀j,i<=j->j<i+r->zaC (S j)=true)->nms S r i=true
 | 0,_,_=>rfl
 | r+1,i,h=>by simp only[nms];rw[h i (by omega) (by omega),znc (λj a b=>h j (by omega) (by omega))];rfl
theorem zjL {S}:∀{r i:Nat},twr S r i=true ↔ ∃j,i<=j/\j<i+r/\zhG S j=true
 | 0,i=>⟨λh=>by simp[twr]at h,λ⟨j,h1,h2,_⟩=>by omega⟩
 | r+1,i=>by
  simp only[twr,Bool.or_eq_true,zjL (r:=r)];constructor
  ·rintro(h|⟨j,h1,h2,h3⟩)
   ·exact⟨i,by omega,by omega,h⟩
   ·exact⟨j,by omega,by omega,h3⟩
  ·rintro⟨j,h1,h2,h3⟩;by_cases e:j=i
   ·subst e;exact .inl h3
   ·exact .inr ⟨j,by omega,by omega,h3⟩
theorem zkn (S:Nat->ByteArray) (k:Nat):nms S k 0=!(zas (λj=>!(zaC (S j))) k):=by
 rw[Bool.eq_iff_iff,Bool.not_eq_true',anyB_no];exact⟨λh j hj=>by rw[znd h j (by omega) (by omega)];rfl,λh=>znc (λj _ hj=>by simpa using h j (by omega))⟩
theorem zjM (S:Nat->ByteArray) (k:Nat):twr S k 0=zas (λj=>zas (λp=>decide (S p=S j)) j) k:=by
 rw[Bool.eq_iff_iff,zjL,anyB_iff];constructor
 ·rintro⟨j,_,h2,h3⟩;obtain⟨p,hp,e⟩:=(zcw S j).1 h3;exact⟨j,by omega,anyB_iff.2 ⟨p,hp,by simpa using e⟩⟩
 ·rintro⟨j,h1,h2⟩;obtain⟨p,hp,e⟩:=anyB_iff.1 h2;exact⟨j,by omega,by omega,(zcw S j).2 ⟨p,hp,by simpa using e⟩⟩
theorem zpP (C:Nat->Lc) (k:Nat):zeb C k 0=!(zas (λj=>!(nfB (C j).cost && abB (C j).lo (C j).hi)) k):=by
 rw[Bool.eq_iff_iff,Bool.not_eq_true',anyB_no];exact⟨λh j hj=>by obtain⟨a,b⟩:=zhm h j (by omega) (by omega);rw[a,b];rfl,λh=>zhl (λj _ hj=>by simpa using h j (by omega))⟩
theorem zoR (R:Nat->Lr) (k:Nat):zdc R k 0=!(zas (λj=>!(tfB (R j).tk (R j).col (R j).T && abB (R j).lo (R j).hi)) k):=by
 rw[Bool.eq_iff_iff,Bool.not_eq_true',anyB_no];exact⟨λh j hj=>by obtain⟨a,b⟩:=zeC h j (by omega) (by omega);rw[a,b];rfl,λh=>zgF (λj _ hj=>by have:=h j (by omega);simp at this;exact⟨this.2,this.1⟩)⟩
theorem zrH {k R n} (h:∀j,j<n->tfB (R j).tk (R j).col (R j).T=true):alB k R n 0=!(zas (λj=>zas (λp=>decide ((k:Int)<=(R j).col p)) (R j).tk) n):=by
 rw[Bool.eq_iff_iff,Bool.not_eq_true',anyB_no];constructor
 ·intro ha j hj;refine anyB_no.2 (λp hp=>?_);have:=(zkM (h j hj) (zjA ha j (by omega) (by omega)) p hp).2;simp;omega
 ·intro ha;refine alB_of (λj _ hj=>?_);have:=anyB_no.1 (ha j (by omega));simp only[lastB,Bool.or_eq_true,decide_eq_true_eq];by_cases h0:(R j).tk=0
  ·exact .inl h0
  ·have:=this ((R j).tk-1) (by omega);simp at this;exact .inr (by omega)
theorem zrG {M} (h1:M.ck<=64) (h2:M.rk<=64):zaF M=ev (b3r M M.rk) (b5r M M.rk) (b6r M M.rk) (b7r M M.rk):=by
 have e0:(decide (64<M.ck) || decide (64<M.rk))=false:=by simp;omega
 have e1:moF M=!(b3r M M.rk):=by
  unfold moF b3r b3c;rw[zpP,zoR];simp only[Bool.not_or,Bool.not_not,Bool.and_assoc]
 have e2:(nms (λj=>(M.C j).nm) M.ck 0 && nms (λj=>(M.R j).nm) M.rk 0)=!(b5r M M.rk):=by
  unfold b5r b5c;rw[zkn,zkn,Bool.not_or]
 have e3:(twr (λj=>(M.C j).nm) M.ck 0 || twr (λj=>(M.R j).nm) M.rk 0)=b6r M M.rk:=by
  unfold b6r b6c;rw[zjM,zjM]
 unfold zaF ziw ev;rw[e0,e1,e2,e3];cases hb:b3r M M.rk
 ·have e4:alB M.ck M.R M.rk 0=!(b7r M M.rk):=zrH (λj hj=>by
   rw[hb]at e1
   simp only[moF,Bool.and_eq_true,Bool.not_false]at e1;exact(zeC e1.2.2 j (by omega) (by omega)).2)
  rw[e4];cases b5r M M.rk <;> cases b6r M M.rk <;> cases b7r M M.rk <;> rfl
 ·rfl
theorem zim {w} {M:Mo} (h:64<M.ck∨64<M.rk):Calls prog 73 #[M.val] w λr w'=>r=.returned (.int .i64 2)/\Bl w w':=by
 obtain⟨⟨s,x,n,c,f,y,m,d,g⟩,ca,ck,cc,C,ra,rk,rc,R⟩:=M;replace h:64<ck∨64<rk:=h;show Calls prog 73 #[.agg #[.bool s,slice x n c,slice y m d,slice ca ck cc,slice ra rk rc]] w _;by_cases h1:64<ck
 ·have e1:(ck:Int) > 64:=by omega
  clear h1 h;go_enter func73,ntmps73;go_wp2;go_ret;exact⟨rfl,zu (Below.refl _ _) _⟩
 ·have e1:¬(ck:Int) > 64:=by omega
  have e2:(rk:Int) > 64:=by omega
  clear h1 h;go_enter func73,ntmps73;go_wp2;go_ret;exact⟨rfl,zu (Below.refl _ _) _⟩
def MoC (M:Mo):Prop:=(M.ck<=M.cc/\M.cc<=9223372036854775807)/\M.rk<=M.rc/\M.rc<=9223372036854775807
theorem zjp {w M} (h:M.ck<=64->M.rk<=64->MoR w M/\MoS M) (hc:MoC M):Calls prog 73 #[M.val] w λr w'=>r=.returned (.int .i64 (zaF M))/\Bl w w':=by
 by_cases h1:64<M.ck∨64<M.rk
 ·have e:zaF M=2:=by
   have:(decide (64<M.ck) || decide (64<M.rk))=true:=by simpa using h1
   rw[zaF,this];rfl
  rw[e];exact zim h1
 ·obtain⟨k1,k2⟩:=h (by omega) (by omega);rw[zrG (by omega) (by omega)];exact zil k1 k2 (by omega) (by omega) hc
theorem Sn.exF {a b:Ex} (hi:b.i=a.i) (h:Sn a.v b.v):exF b=exF a:=by
 obtain⟨h1,h2,h3,h4,h5⟩:=h;unfold Go.Proofs.YtlbgphjdibbkjaaGreat.exF;rw[hi,h1,h2,h3,h4,h5]
theorem ziC {a b a' b'} (h1:a'.i=a.i) (h2:Sn a.v a'.v) (h3:b'.i=b.i) (h4:Sn b.v b'.v):abB a' b'=abB a b:=by
 unfold abB;rw[Sn.exF h1 h2,Sn.exF h3 h4,h1,h3]
theorem zfB {C C'}:∀{r i:Nat},(∀j,i<=j->j<i+r->Sc (C j) (C' j))->zeb C' r i=zeb C r i
 | 0,_,_=>rfl
 | r+1,i,h=>by
  have k:=h i (by omega) (by omega);simp only[zeb];rw[k.cost.nfB,ziC k.li k.lo k.hi k.hv,zfB (λj a b=>h j (by omega) (by omega))]
theorem zlf {r r'} (k:Sr r r'):tfB r'.tk r'.col r'.T=tfB r.tk r.col r.T:=by
 unfold tfB;rw[k.tk,k.col]
 exact zqN (λj _ hj=>k.T j (by omega))
theorem zfd {R R'}:∀{r i:Nat},(∀j,i<=j->j<i+r->Sr (R j) (R' j))->zdc R' r i=zdc R r i
 | 0,_,_=>rfl
 | r+1,i,h=>by
  have k:=h i (by omega) (by omega);simp only[zdc];rw[zlf k,ziC k.li k.lo k.hi k.hv,zfd (λj a b=>h j (by omega) (by omega))]
theorem zgj {k R R'}:∀{r i:Nat},(∀j,i<=j->j<i+r->Sr (R j) (R' j))->alB k R' r i=alB k R r i
 | 0,_,_=>rfl
 | r+1,i,h=>by
  have q:=h i (by omega) (by omega);simp only[alB,lastB];rw[q.tk,q.col,zgj (λj a b=>h j (by omega) (by omega))]
theorem Sm.chk {M M'} (h:Sm M M'):zaF M'=zaF M:=by
 have e1:moF M'=moF M:=by
  unfold moF;rw[h.off.nfB,h.ck,h.rk,zfB (λj _ hj=>h.C j (by omega)),zfd (λj _ hj=>h.R j (by omega))]
 unfold zaF;rw[e1,h.ck,h.rk,zbq (S':=λj=>(M.C j).nm) (λj _ hj=>(h.C j (by omega)).nm),zbq (S':=λj=>(M.R j).nm) (λj _ hj=>(h.R j (by omega)).nm),
  zbn (S':=λj=>(M.C j).nm) (λj hj=>(h.C j (by omega)).nm),zbn (S':=λj=>(M.R j).nm) (λj hj=>(h.R j (by omega)).nm),zgj (λj _ hj=>h.R j (by omega))]
structure MoN (M:Mo):Prop where
 c:∀j,j<M.ck->(M.C j).nm.size<=9223372036854775807
 r:∀j,j<M.rk->(M.R j).nm.size<=9223372036854775807
theorem Sm.mon {M M'} (h:Sm M M') (k:MoN M):MoN M':=⟨λj hj=>by rw[h.ck]at hj;rw[(h.C j hj).nm];exact k.c j hj,λj hj=>by rw[h.rk]at hj;rw[(h.R j hj).nm];exact k.r j hj⟩
theorem zkO {K C}:∀{i:Nat},clgs K C i=true->∀j,j<i->cl3 K (C j)=true
 | 0,_,j,hj=>by omega
 | i+1,h,j,hj=>by
  simp only[clgs,Bool.and_eq_true]at h;by_cases e:j=i
  ·subst e;exact h.2
  ·exact zkO h.1 j (by omega)
theorem zka {K R}:∀{i:Nat},rlgs K R i=true->∀j,j<i->rl3 K (R j)=true
 | 0,_,j,hj=>by omega
 | i+1,h,j,hj=>by
  simp only[rlgs,Bool.and_eq_true]at h;by_cases e:j=i
  ·subst e;exact h.2
  ·exact zka h.1 j (by omega)
theorem zne {K X}:∀{r i:Nat},nlg K X r i=true->∀j,i<=j->j<i+r->(X j).n<=K/\(X j).m<=K
 | 0,_,_,j,h1,h2=>by omega
 | r+1,i,h,j,h1,h2=>by
  simp only[nlg,lg,Bool.and_eq_true,decide_eq_true_eq]at h;by_cases e:j=i
  ·subst e;exact h.1
  ·exact zne h.2 j (by omega) (by omega)
theorem zdX {K t} (h:lgN K t=true):t.n<=K/\t.m<=K:=by
 simpa only[lgN,lg,Bool.and_eq_true,decide_eq_true_eq]using h
structure MoK (K:Nat) (M:Mo):Prop where
 off:M.off.n<=K/\M.off.m<=K
 c:∀j,j<M.ck->((M.C j).cost.n<=K/\(M.C j).cost.m<=K)/\((M.C j).lo.v.n<=K/\(M.C j).lo.v.m<=K)/\(M.C j).hi.v.n<=K/\(M.C j).hi.v.m<=K
 r:∀j,j<M.rk->((M.R j).lo.v.n<=K/\(M.R j).lo.v.m<=K)/\((M.R j).hi.v.n<=K/\(M.R j).hi.v.m<=K)/\(M.R j).tk<=300/\∀p,p<(M.R j).tk->((M.R j).T p).n<=K/\((M.R j).T p).m<=K
theorem zrs {K M} (h:lgM K M=true) (h1:M.ck<=64) (h2:M.rk<=64):MoK K M:=by
 have e0:(decide (64<M.ck) || decide (64<M.rk))=false:=by simp;omega
 unfold lgM at h;rw[e0,Bool.false_or]at h
 simp only[Bool.and_eq_true]at h;refine⟨zdX h.1,λj hj=>?_,λj hj=>?_⟩
 ·have:=zkO h.2.1 j hj;simp only[cl3,Bool.and_eq_true]at this;exact⟨zdX this.1,zdX this.2.1,zdX this.2.2⟩
 ·have:=zka h.2.2 j hj;simp only[rl3,Bool.and_eq_true,decide_eq_true_eq]at this;exact⟨zdX this.2.1,zdX this.2.2.1,this.1,λp hp=>zne this.2.2.2 p (by omega) (by omega)⟩
theorem Sm.mok {K M M'} (h:Sm M M') (k:MoK K M):MoK K M':=by
 have hn:∀{t t':Nm},Sn t t'->t.n<=K/\t.m<=K->t'.n<=K/\t'.m<=K:=λe l=>by rw[e.2.1,e.2.2.2.1];exact l
 refine⟨hn h.off k.off,λj hj=>?_,λj hj=>?_⟩
 ·rw[h.ck]at hj
  have a:=h.C j hj;have b:=k.c j hj
  exact⟨hn a.cost b.1,hn a.lo b.2.1,hn a.hv b.2.2⟩
 ·rw[h.rk]at hj
  have a:=h.R j hj;have b:=k.r j hj
  exact⟨hn a.lo b.1,hn a.hv b.2.1,by rw[a.tk];exact b.2.2.1,λp hp=>by rw[a.tk]at hp;exact hn (a.T p hp) (b.2.2.2 p hp)⟩
theorem MoX.mor {w M K} (h:MoX w M) (hn:MoN M) (hk:MoK K M) (hK:K<=65536) (h1:M.ck<=64) (h2:M.rk<=64):MoR w M:=by
 have hs:∀{t:Nm},NmB w t->t.n<=K/\t.m<=K->NmS w t:=λa b=>⟨a.1,le_trans b.1 hK,le_trans b.2 hK⟩
 refine⟨hs h.off hk.off,λj hj=>?_,λj hj=>?_,by omega,by omega⟩
 ·obtain⟨b,o,e,a1,a2⟩:=h.cls j hj;have q:=hk.c j hj;exact⟨b,o,e,a1,hs a2.cost q.1,hs a2.lo q.2.1,hs a2.hi q.2.2,hn.c j hj⟩
 ·obtain⟨b,o,e,a1,a2⟩:=h.rls j hj;have q:=hk.r j hj;refine⟨b,o,e,a1,hs a2.lo q.1,hs a2.hi q.2.1,λp hp=>?_,by omega,hn.r j hj⟩;obtain⟨b',o',e',c4,rw'⟩:=a2.tr p hp;exact⟨b',o',e',c4,rw',le_trans (q.2.2.2 p hp).1 hK,le_trans (q.2.2.2 p hp).2 hK⟩
theorem MoK.mos {K M} (h:MoK K M) (hK:K<=1000):MoS M:=by
 have hs:∀{a b:Nat},a<=K/\b<=K->a<=1000/\b<=1000:=λl=>⟨le_trans l.1 hK,le_trans l.2 hK⟩
 exact⟨hs h.off,λj hj=>⟨hs (h.c j hj).1,hs (h.c j hj).2.1,hs (h.c j hj).2.2⟩,λj hj=>⟨hs (h.r j hj).1,hs (h.r j hj).2.1,by have:=(h.r j hj).2.2.1;omega,λp hp=>hs ((h.r j hj).2.2.2 p hp)⟩⟩
theorem MoX.light {w M} (h:MoX w M):Cl0 w M.ca M.ck M.C/\Rl0 w M.ra M.rk M.R :=
 ⟨λj hj=>by obtain⟨b,o,e,a1,_⟩:=h.cls j hj;exact⟨b,o,e,a1⟩,λj hj=>by obtain⟨b,o,e,a1,a2⟩:=h.rls j hj;exact⟨b,o,e,a1,a2.tr,le_trans a2.tk (by decide)⟩⟩
end Go.Proofs.YtlbgphjdibbkjaaGreat
