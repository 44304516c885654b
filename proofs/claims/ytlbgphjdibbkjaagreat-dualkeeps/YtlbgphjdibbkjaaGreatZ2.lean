/-
 Walks.
-/
import Derived.Test.YtlbgphjdibbkjaaGreatZ1
import Derived.Deep.RegionHeld3
import Derived.Test.YtlbgphjdibbkjaaGreatProg
import Derived.Test.YtlbgphjdibbkjaaGreatZ0
set_option maxRecDepth 100000
set_option maxHeartbeats 16000000
namespace Go.Proofs.YtlbgphjdibbkjaaGreat
open Value (slice agg)
open Obj (cells)
open Ending (returned)
open Nat (le_refl le_trans)
open Int (le_of_lt mul_comm pow_pos)
open Go.Proofs.Tryz
open Go.RowKit
theorem zsK (ao bo:Option Addr) (n m ca cb:Nat) (f h:Nat->Int) (w:World) (hn:n<=8796093022207) (hm:m<=8796093022207) (hr:Rd .u64 w ao n f) (hs:Rd .u64 w bo m h) (hf:Lm f n) (hh:Lm h m) :
  Calls prog 121 #[slice ao n ca,slice bo m cb] w λe w'=>∃ao' k cap' f' er,e=returned (.tuple #[slice ao' k cap',.int .i64 er])/\Res (max n m+1) w w' ao' k cap' f' /\
   (Fm f n/\Fm h m/\er=0/\vf f' k=(Nat.gcd (vf f n).toNat (vf h m).toNat:Nat)∨¬(Fm f n/\Fm h m)/\er=3/\k=0):=by
 have HF:=(show Hid (Lm f n)from hf);have HH:=(show Hid (Lm h m)from hh);clear hf hh;cases hfa:fmB f n
 ·have c1:=λw' hr'=>zal ao n ca f w' (by omega) hr'
  rw[hfa]at c1
  have HN:=zk (zbx hfa);have C1:=zk c1;clear c1 hfa;go_enter func121,ntmps121;go_wp2_with(go_at_call 91;refine(C1.out _ hr).mono ?_;rintro e w' ⟨rfl,rfl⟩)
  go_ret2
  exact⟨_,_,_,f,_,rfl,Res.nil f (Below.refl _ _),.inr ⟨λx=>HN.out x.1,rfl,rfl⟩⟩
 ·have c1:=λw' hr'=>zal ao n ca f w' (by omega) hr'
  rw[hfa]at c1
  have FA:=zk (zbm hfa);have C1:=zk c1;clear c1 hfa;cases hfb:fmB h m
  ·have c2:=λw' hr'=>zal bo m cb h w' (by omega) hr'
   rw[hfb]at c2
   have HN:=zk (zbx hfb);have C2:=zk c2;clear c2 hfb;go_enter func121,ntmps121;go_wp2_with fail
   refine(C1.out _ hr).mono ?_;rintro e w' ⟨rfl,rfl⟩;go_wp2_with fail
   refine(C2.out _ hs).mono ?_;rintro e w' ⟨rfl,rfl⟩;go_wp2
   go_ret2
   exact⟨_,_,_,f,_,rfl,Res.nil f (Below.refl _ _),.inr ⟨λx=>HN.out x.2,rfl,rfl⟩⟩
  ·have c2:=λw' hr'=>zal bo m cb h w' (by omega) hr'
   rw[hfb]at c2
   have FB:=zk (zbm hfb);have C2:=zk c2;clear c2 hfb;go_enter func121,ntmps121;go_wp2_with fail
   refine(C1.out _ hr).mono ?_;rintro e w' ⟨rfl,rfl⟩;go_wp2_with fail
   refine(C2.out _ hs).mono ?_;rintro e w' ⟨rfl,rfl⟩;go_wp2_with fail
   refine(zsy ao bo n m ca cb f h _ hn hm hr hs HF.out HH.out FA.out FB.out).mono ?_;rintro e w' ⟨ao',k,cap',f',rfl,hres,hv⟩;have HV:=zk hv;clear hv;go_wp2
   go_ret2
   exact⟨_,_,_,f',_,rfl,hres,.inl ⟨FA.out,FB.out,rfl,HV.out⟩⟩
theorem Wn.fm {w s x n c f v} (h:Wn w s x n c f v):Fm f n:=fm_of_wfB h.wf
theorem Wn.nv {w x n c f v} (h:Wn w false x n c f v):vf f n=v:=h.val
theorem Wn.pos {w x n c f v} (h:Wn w false x n c f v) (hv:0<v):0<n:=by
 rcases Nat.eq_zero_or_pos n with h0|h0
 ·subst h0;have:(0:Int)=v:=h.nv;omega
 ·exact h0
theorem zgR {f n A} (hl:Lm f n) (hf:Fm f n) (hv:vf f n=A):A=1 ↔ n=1/\f 0=1:=by
 have v1:vf f 1=f 0:=by simp[vf,pw]
 constructor
 ·intro h;have h0:n≠0:=λh0=>by subst h0;simp[vf]at hv;omega
  have h1:=zaI hl hf (by omega);have hn:n=1:=by
   rcases Nat.lt_or_ge 1 n with h2|h2
   ·have h3:=zaQ (show 1<=n-1 by omega);have:pw 1=18446744073709551616:=by simp[pw]
    omega
   ·omega
  subst hn;exact⟨rfl,by rw[<-v1,hv,h]⟩
 ·rintro⟨rfl,h⟩;rw[<-hv,v1,h]
theorem zdJ {w x n c f A} (ha:Wn w false x n c f A) :
  Calls prog 92 #[slice x n c] w λe w'=>e=returned (.bool (decide (A=1)))/\w'=w:=by
 have hi:=zgR ha.lm ha.fm ha.nv;have hr:=ha.rd;have hn:n<=9223372036854775807:=by have:=ha.cap;omega
 by_cases h1:n=1
 ·subst h1;obtain⟨b,o,rfl⟩:=hr.at (by omega);obtain⟨y,hy⟩:∃y,f 0=y:=⟨_,rfl⟩;have hc:w.cell? ⟨b,o,none⟩=some (.int .u64 y):=by rw[<-hy];exact hr.cell (j:=0) (by omega)
  have e:decide (A=1)=(y==1):=by
   rw[hy]at hi
   by_cases h:y=1 <;> simp_all
  have E:=zk e;clear hr hy e hi ha;go_enter func92,ntmps92;go_wp2;go_ret;exact⟨by rw[E.out];rfl,rfl⟩
 ·have h1':((n:Int)==1)=false:=by simp;omega
  have e:decide (A=1)=false:=by simp;intro h;exact h1 (hi.1 h).1
  have E:=zk e;clear hr e hi ha;go_enter func92,ntmps92;go_wp2;go_ret;exact⟨by rw[E.out];rfl,rfl⟩
theorem zff (w:World) :
  Calls prog 97 #[] w λe w'=>∃x f,e=returned (slice x 1 1)/\Bl w w'/\Wn w' false x 1 1 f 1:=by
 go_enter func97,ntmps97;go_wp2;go_ret;refine⟨_,λ_=>1,rfl,?_,?_⟩
 ·exact zu (Below.refl _ _) _
 ·refine⟨Rd.mk (λj hj=>?_),λj _=>by simp,?_,by omega,(λh=>by cases h),?_⟩
  ·have:j=0:=by omega
   subst this;simp[go_sem]
  ·decide
  ·simp[wv,vf,pw]
theorem zsx {w x n c f y m d g} {A B:Nat} (ha:Wn w false x n c f A) (hb:Wn w false y m d g B) (hn:n<=1048576) (hm:m<=1048576) :
  Calls prog 121 #[slice x n c,slice y m d] w λe w'=>∃z k e' h,e=returned (.tuple #[slice z k e',.int .i64 0])/\Bl w w'/\Wn w' false z k e' h (A.gcd B:Nat):=by
 refine(zsK x y n m c d f g w (by omega) (by omega) ha.rd hb.rd ha.lm hb.lm).mono ?_;rintro e w' ⟨z,k,e',h,er,rfl,hres,hv⟩;have hr:=hres.ans (by omega);rcases hv with⟨_,_,rfl,hv⟩|⟨h1,_⟩
 ·refine⟨z,k,e',h,rfl,hr.bel,hr.rd,hr.lm,(wfB_iff _ _ _).2 ⟨hr.fm,λh=>by cases h⟩,hr.ncap,hr.nil',?_⟩;show vf h k=_;rw[hv,ha.nv,hb.nv];simp
 ·exact absurd ⟨ha.fm,hb.fm⟩ h1
theorem zsB {w x n c f y m d g} {A B:Nat} (ha:Wn w false x n c f A) (hb:Wn w false y m d g B) (h0:0<B) (hn:n<=1048576) (hm:m<=1048576) :
  Calls prog 142 #[slice x n c,slice y m d] w λe w'=>∃z k e' h z2 k2 e2,e=returned (.tuple #[slice z k e',slice z2 k2 e2,.int .i64 0])/\Bl w w'/\k<=n/\Wn w' false z k e' h (A/B:Nat):=by
 refine(ziF x y n m c d f g w (by omega) (by omega) ha.rd hb.rd ha.lm hb.lm).mono ?_;rintro e w' ⟨z,k,e',h,z2,k2,e2,r,er,rfl,hres,_,hv⟩;have hr:=hres.ans (by omega);have hmp:=hb.pos (by omega);rcases hv with⟨_,_,_,rfl,hv,h1,h2⟩|⟨_,_,h1,_⟩|⟨h1,_⟩
 ·refine⟨z,k,e',h,z2,k2,e2,rfl,hr.bel,hr.le,hr.rd,hr.lm,(wfB_iff _ _ _).2 ⟨hr.fm,λh=>by cases h⟩,hr.ncap,hr.nil',?_⟩;show vf h k=_;rw[ha.nv,hb.nv]at hv
  rw[hb.nv]at h2
  have hq:=zz hr.lm;obtain⟨Q,hQ⟩:=Int.eq_ofNat_of_zero_le hq;obtain⟨R,hR⟩:=Int.eq_ofNat_of_zero_le h1;rw[hQ,hR]at hv
  rw[hR]at h2
  rw[hQ];have h3:A=Q*B+R:=by exact_mod_cast hv
  have h4:R<B:=by exact_mod_cast h2
  have:A/B=Q:=by rw[h3,Nat.mul_comm,Nat.mul_add_div h0,Nat.div_eq_of_lt h4];rfl
  rw[this]
 ·omega
 ·exact absurd ⟨ha.fm,hb.fm⟩ h1
theorem zfn {w x n c f y m d g} {A B:Nat} (ha:Wn w false x n c f A) (hb:Wn w false y m d g B) (hn:n<=1048576) (hm:m<=1048576) :
  Calls prog 122 #[slice x n c,slice y m d] w λe w'=>∃z k e' h,e=returned (.tuple #[slice z k e',.int .i64 0])/\Bl w w'/\k<=n+m/\Wn w' false z k e' h (A*B:Nat):=by
 refine(zon x y n m c d f g w (by omega) (by omega) ha.cap.1 hb.cap.1 ha.cap.2 hb.cap.2 ha.rd hb.rd ha.lm hb.lm).mono ?_;rintro e w' ⟨z,k,e',h,er,rfl,hres,hv⟩;have hr:=hres.ans (by omega);rcases hv with⟨_,_,rfl,hv⟩|⟨h1,_⟩
 ·refine⟨z,k,e',h,rfl,hr.bel,hr.le,hr.rd,hr.lm,(wfB_iff _ _ _).2 ⟨hr.fm,λh=>by cases h⟩,hr.ncap,hr.nil',?_⟩;show vf h k=_;rw[hv,ha.nv,hb.nv];simp
 ·exact absurd ⟨ha.fm,hb.fm⟩ h1
theorem Wn.len_le {w w' x n c f y m d g} {A B:Nat} (ha:Wn w false x n c f A) (hb:Wn w' false y m d g B) (h:A<=B):n<=m :=
 zbT ha.lm hb.lm ha.fm (by rw[ha.nv,hb.nv];exact_mod_cast h)
theorem zbH {w x n c f y m d g} {A B:Nat} (ha:Wn w false x n c f A) (hb:Wn w false y m d g B) (hn:n<=1048576) (hm:m<=1048576) :
  Calls prog 93 #[slice x n c,slice y m d] w λe w'=>∃z k e' h,e=returned (slice z k e')/\Bl w w'/\Wn w' false z k e' h (A.gcd B:Nat):=by
 have C1:=zk (zdJ ha);have C2:=zk (zdJ hb);have C3:=zk (zsx ha hb hn hm)
 by_cases h1:A=1
 ·have e1:decide ((A:Int)=1)=true:=by simp[h1]
  have e2:A.gcd B=1:=by rw[h1];simp
  rw[e2];rw[e1]at C1
  clear ha hb e1 e2 h1 C2 C3;go_enter func93,ntmps93;go_wp2_with fail
  refine C1.out.mono ?_;rintro e w1 ⟨rfl,rfl⟩;go_wp2_with fail
  refine(zff _).mono ?_;rintro e w2 ⟨z,h,rfl,h1,h2⟩;go_wp2;go_ret;exact⟨z,1,1,h,rfl,h1,h2⟩
 ·have e1:decide ((A:Int)=1)=false:=by simp;omega
  rw[e1]at C1
  by_cases h2:B=1
  ·have e1:decide ((B:Int)=1)=true:=by simp[h2]
   have e2:A.gcd B=1:=by rw[h2];simp
   rw[e2];rw[e1]at C2
   clear ha hb e1 e2 h1 C3;go_enter func93,ntmps93;go_wp2_with fail
   refine C1.out.mono ?_;rintro e w1 ⟨rfl,rfl⟩;go_wp2_with fail
   refine C2.out.mono ?_;rintro e w1 ⟨rfl,rfl⟩;go_wp2_with fail
   refine(zff _).mono ?_;rintro e w2 ⟨z,h,rfl,h1,h2⟩;go_wp2;go_ret;exact⟨z,1,1,h,rfl,h1,h2⟩
  ·have e1:decide ((B:Int)=1)=false:=by simp;omega
   rw[e1]at C2
   clear ha hb e1 h1;go_enter func93,ntmps93;go_wp2_with fail
   refine C1.out.mono ?_;rintro e w1 ⟨rfl,rfl⟩;go_wp2_with fail
   refine C2.out.mono ?_;rintro e w1 ⟨rfl,rfl⟩;go_wp2_with fail
   refine C3.out.mono ?_;rintro e w2 ⟨z,k,e',h,rfl,h1,h2⟩;have H2:=zk h2;clear h2;go_wp2;go_ret;exact⟨z,k,e',h,rfl,h1,H2.out⟩
theorem zbJ {w x n c f y m d g} {A B:Nat} (ha:Wn w false x n c f A) (hb:Wn w false y m d g B) (h0:0<B) (hn:n<=1048576) (hm:m<=1048576) :
  Calls prog 123 #[slice x n c,slice y m d] w λe w'=>∃z k e' h,e=returned (slice z k e')/\Bl w w'/\Hid (k<=n/\Wn w' false z k e' h (A/B:Nat)):=by
 have C2:=zk (zdJ hb);have C3:=zk (zsB ha hb h0 hn hm);have HA:=zk ha
 by_cases h2:B=1
 ·have e1:decide ((B:Int)=1)=true:=by simp[h2]
  have e2:A/B=A:=by rw[h2];simp
  rw[e2];rw[e1]at C2
  clear ha hb e1 e2 C3 h0 h2;go_enter func123,ntmps123;go_wp2_with fail
  refine C2.out.mono ?_;rintro e w1 ⟨rfl,rfl⟩;go_wp2;go_ret;exact⟨x,n,c,f,rfl,Below.refl _ _,le_refl _,HA.out⟩
 ·have e1:decide ((B:Int)=1)=false:=by simp;omega
  rw[e1]at C2
  clear ha hb e1 h0 h2;go_enter func123,ntmps123;go_wp2_with fail
  refine C2.out.mono ?_;rintro e w1 ⟨rfl,rfl⟩;go_wp2_with fail
  refine C3.out.mono ?_;rintro e w2 ⟨z,k,e',h,z2,k2,e2,rfl,h1,h2,h3⟩;have H2:=zk (And.intro h2 h3);clear h2 h3;go_wp2;go_ret;exact⟨z,k,e',h,rfl,h1,H2.out⟩
theorem zci (s:Bool) (x y:Option Addr) (n c m d:Nat) (w:World) :
  Calls prog 90 #[agg #[.bool s,slice x n c,slice y m d]] w λe w'=>e=returned (agg #[.bool s,slice x n c])/\Bl w w':=by
 go_enter func90,ntmps90;go_wp2;refine bodyPost_ret (v:=agg #[.bool s,slice x n c]) (by simp[results,results90,go_sem]) rfl ⟨rfl,?_⟩;exact zu (zB w _) _
theorem zkI (s:Bool) (x y:Option Addr) (n c m d:Nat) (w:World) :
  Calls prog 160 #[agg #[.bool s,slice x n c,slice y m d]] w λe w'=>e=returned (agg #[.bool false,slice y m d])/\Bl w w':=by
 go_enter func160,ntmps160;go_wp2;refine bodyPost_ret (v:=agg #[.bool false,slice y m d]) (by simp[results,results160,go_sem]) rfl ⟨rfl,?_⟩;exact zu (zB w _) _
theorem zbE (s:Bool) (x y:Option Addr) (n c m d:Nat) (w:World) (hm:n<=9223372036854775807) :
  Calls prog 62 #[.bool s,slice x n c,slice y m d] w λe w'=>∃r,e=returned (agg #[.bool r,slice x n c,slice y m d])/\Hid (r=(s && decide (0<n)))/\Bl w w':=by
 have key:∀u,Bl w (w.alloc u):=λu=>zB w u
 cases s
 ·go_enter func62,ntmps62;go_wp2;exact bodyPost_ret (v:=agg #[.bool false,slice x n c,slice y m d]) (by simp[results,results62,go_sem]) rfl ⟨false,rfl,rfl,key _⟩
 ·by_cases hn0:0<n
  ·have hni:decide ((0:Int)<(n:Int))=true:=by simp;omega
   have hdn:decide (0<n)=true:=by simp;omega
   rw[hdn];clear hdn;go_enter func62,ntmps62;go_wp2;exact bodyPost_ret (v:=agg #[.bool true,slice x n c,slice y m d]) (by simp[results,results62,go_sem]) rfl ⟨true,rfl,rfl,key _⟩
  ·have hni:decide ((0:Int)<(n:Int))=false:=by simp;omega
   have hdn:decide (0<n)=false:=by simp;omega
   rw[hdn];clear hdn;go_enter func62,ntmps62;go_wp2;exact bodyPost_ret (v:=agg #[.bool false,slice x n c,slice y m d]) (by simp[results,results62,go_sem]) rfl ⟨false,rfl,rfl,key _⟩
structure Rn (L:Nat) (w:World) (s:Bool) (x:Option Addr) (n c:Nat) (f:Nat->Int) (y:Option Addr) (m d:Nat) (g:Nat->Int) (q:Rat):Prop where
 num:Wn w s x n c f q.num
 den:Wn w false y m d g (q.den:Int)
 ln:n<=L
 ld:m<=L
theorem Rn.q_ {L w w' s x n c f y m d g q} (h:Rn L w s x n c f y m d g q) (hb:Bl w w'):Rn L w' s x n c f y m d g q:=⟨h.num.q_ hb,h.den.q_ hb,h.ln,h.ld⟩
theorem Rn.alloc {L w s x n c f y m d g q} (h:Rn L w s x n c f y m d g q) (o:Obj):Rn L (w.alloc o) s x n c f y m d g q:=⟨h.num.alloc o,h.den.alloc o,h.ln,h.ld⟩
theorem Rn.next {L w w' s x n c f y m d g q o} (h:Rn L w s x n c f y m d g q) (hb:Below (w.alloc o).heap.size (w.alloc o) w'):Rn L w' s x n c f y m d g q:=(h.alloc o).q_ hb
theorem Rn.mono {L L' w s x n c f y m d g q} (h:Rn L w s x n c f y m d g q) (hL:L<=L'):Rn L' w s x n c f y m d g q:=⟨h.num,h.den,le_trans h.ln hL,le_trans h.ld hL⟩
theorem Wn.mag {w s x n c f v} (h:Wn w s x n c f v):Wn w false x n c f (v.natAbs:Nat):=by
 refine⟨h.rd,h.lm,(wfB_iff _ _ _).2 ⟨h.fm,λh=>by cases h⟩,h.cap,h.nil,?_⟩;have h0:=zz h.lm;have hv:=h.val;show vf f n=_;cases s
 ·rw[zae]at hv;omega
 ·rw[zam]at hv;omega
theorem Wn.sgn {w s x n c f v} (h:Wn w s x n c f v):v=sg s v.natAbs:=by
 have h0:=zz h.lm;have hv:=h.val;cases s
 ·rw[zae]at hv;show v=(v.natAbs:Int);omega
 ·rw[zam]at hv;show v=-(v.natAbs:Int);omega
theorem Wn.resign {w x n c f} {A:Nat} {r s} (h:Wn w false x n c f (A:Int)) (hr:r=(s && decide (0<n))):Wn w r x n c f (sg s A):=by
 refine⟨h.rd,h.lm,(wfB_iff _ _ _).2 ⟨h.fm,λh=>by rw[hr]at h;simp at h;exact h.2⟩,h.cap,h.nil,?_⟩;have hv:=h.nv;rcases Nat.eq_zero_or_pos n with h0|h0
 ·subst h0;have hA:(0:Int)=A:=hv;have:A=0:=by omega
  subst this;subst hr
  cases s <;> rfl
 ·have:r=s:=by rw[hr];simp[h0]
  subst this;cases r
  ·exact hv
  ·show -vf f n=-(A:Int);rw[hv]
structure Three (B:Nat) (w:World) (a0 a1 a2 b0 b1 b2 c0 c1 c2:Value):Prop where
 z:B+1+1<w.heap.size
 x0:w.cell? ⟨B,0,none⟩=some a0
 x1:w.cell? ⟨B,1,none⟩=some a1
 x2:w.cell? ⟨B,2,none⟩=some a2
 y0:w.cell? ⟨B+1,0,none⟩=some b0
 y1:w.cell? ⟨B+1,1,none⟩=some b1
 y2:w.cell? ⟨B+1,2,none⟩=some b2
 z0:w.cell? ⟨B+1+1,0,none⟩=some c0
 z1:w.cell? ⟨B+1+1,1,none⟩=some c1
 z2:w.cell? ⟨B+1+1,2,none⟩=some c2
 zf:∀o,w.frozen? ⟨B+1+1,o,none⟩=false
theorem Three.q_ {B w w' a0 a1 a2 b0 b1 b2 c0 c1 c2} (h:Three B w a0 a1 a2 b0 b1 b2 c0 c1 c2) (hb:Bl w w'):Three B w' a0 a1 a2 b0 b1 b2 c0 c1 c2:=by
 obtain⟨h1,h2⟩:=zaH hb;have hz:=hb.size;have z:=h.z;exact⟨by omega,kCb hb h.x0,kCb hb h.x1,kCb hb h.x2,kCb hb h.y0,kCb hb h.y1,kCb hb h.y2,kCb hb h.z0,kCb hb h.z1,kCb hb h.z2,λo=>(h2 _ _ (by omega)).trans (h.zf o)⟩
theorem Three.alloc {B w a0 a1 a2 b0 b1 b2 c0 c1 c2} (h:Three B w a0 a1 a2 b0 b1 b2 c0 c1 c2) (o:Obj):Three B (w.alloc o) a0 a1 a2 b0 b1 b2 c0 c1 c2:=h.q_ (zu (Below.refl _ _) o)
theorem zbD {w w1 a0 a1 a2 b0 b1 b2 c0 c1 c2 t} (hb:Below (((w.alloc (cells #[a0,a1,a2] t)).alloc (cells #[b0,b1,b2] t)).alloc (cells #[c0,c1,c2] t)).heap.size (((w.alloc (cells #[a0,a1,a2] t)).alloc (cells #[b0,b1,b2] t)).alloc (cells #[c0,c1,c2] t)) w1) :
  Three w.heap.size w1 a0 a1 a2 b0 b1 b2 c0 c1 c2/\Bl w w1:=by
 have h0:Three w.heap.size (((w.alloc (cells #[a0,a1,a2] t)).alloc (cells #[b0,b1,b2] t)).alloc (cells #[c0,c1,c2] t)) a0 a1 a2 b0 b1 b2 c0 c1 c2:=by
  refine⟨by simp,by simp[go_sem],by simp[go_sem],by simp[go_sem],by simp[go_sem],by simp[go_sem],by simp[go_sem],by simp[go_sem],by simp[go_sem],by simp[go_sem],λo=>?_⟩;have e:=heap_alloc_new ((w.alloc (cells #[a0,a1,a2] t)).alloc (cells #[b0,b1,b2] t)) (cells #[c0,c1,c2] t);rw[zw,zw]at e
  simp only[World.frozen?,e];simp
 exact⟨h0.q_ hb,(zu (zu (zB w _) _) _).trans (hb.mono (by simp;omega))⟩
def zcq (L:Nat) (w w':World) (e:Ending) (q:Rat):Prop:=∃s x n c f y m d g,e=returned (agg #[.bool s,slice x n c,slice y m d])/\Bl w w'/\Rn L w' s x n c f y m d g q
def zjC (L:Nat) (w w':World) (e:Ending) (q:Rat):Prop:=∃s x n c f y m d g,e=returned (.tuple #[agg #[.bool s,slice x n c,slice y m d],.int .i64 0])/\Bl w w'/\Rn L w' s x n c f y m d g q
theorem kIb {w w' a} (hb:Bl w w') (h:(w.cell? a).isSome=true):(w'.cell? a).isSome=true:=by
 obtain⟨u,hu⟩:=Option.isSome_iff_exists.1 h;rw[kCb hb hu];rfl
theorem kWd {w s x n c f v} (h:Wn w s x n c f v):Wn w.drew s x n c f v:=⟨h.rd,h.lm,h.wf,h.cap,h.nil,h.val⟩
theorem kWb {w w' s x n c f v} (hb:Bl w w') (h:Wn w s x n c f v):Wn w' s x n c f v:=h.q_ hb
theorem kTd {B w a0 a1 a2 b0 b1 b2 c0 c1 c2} (h:Three B w a0 a1 a2 b0 b1 b2 c0 c1 c2):Three B w.drew a0 a1 a2 b0 b1 b2 c0 c1 c2:=⟨h.z,h.x0,h.x1,h.x2,h.y0,h.y1,h.y2,h.z0,h.z1,h.z2,h.zf⟩
theorem kTb {B w w' a0 a1 a2 b0 b1 b2 c0 c1 c2} (hb:Bl w w') (h:Three B w a0 a1 a2 b0 b1 b2 c0 c1 c2):Three B w' a0 a1 a2 b0 b1 b2 c0 c1 c2:=h.q_ hb
theorem Three.next {B w w' a0 a1 a2 b0 b1 b2 c0 c1 c2 o} (h:Three B w a0 a1 a2 b0 b1 b2 c0 c1 c2) (hb:Below (w.alloc o).heap.size (w.alloc o) w'):Three B w' a0 a1 a2 b0 b1 b2 c0 c1 c2:=(h.alloc o).q_ hb
theorem cell_off {w:World} {b i j u v} (hij:i≠j) (h:w.cell? ⟨b,j,none⟩=some u):(w.setCell ⟨b,i,none⟩ v).cell? ⟨b,j,none⟩=some u:=by
 rw[World.cell?_setCell_other _ _ _ _ (λhe=>hij (congrArg Addr.off he))];exact h
theorem Wn.set {w p v u s x n c f z} (hp:w.cell? p=some v) (hv:∀i,v≠.int .u64 i) (h:Wn w s x n c f z):Wn (w.setCell p u) s x n c f z:=by
 refine⟨λj hj=>?_,h.lm,h.wf,h.cap,h.nil,h.val⟩;obtain⟨b,o,hx,hc⟩:=h.rd j hj;refine⟨b,o,hx,?_⟩;rw[World.cell?_setCell_other _ _ _ _ (λhe=>hv _ (Option.some.inj (hp.symm.trans (he ▸ hc))))];exact hc
theorem Three.store {B w a0 a1 a2 b0 b1 b2 e0 e1 n1 m1 e2 n2 m2 u0 u1 u2 s x n c f v} (h:Three B w a0 a1 a2 b0 b1 b2 (.bool e0) (slice e1 n1 m1) (slice e2 n2 m2)) (hx:Wn w s x n c f v) :
  Wn (((w.setCell ⟨B+1+1,0,none⟩ u0).setCell ⟨B+1+1,1,none⟩ u1).setCell ⟨B+1+1,2,none⟩ u2) s x n c f v :=
 ((hx.set h.z0 (λi h=>by cases h)).set (cell_off (by decide) h.z1) (λi h=>by cases h)).set (cell_off (by decide) (cell_off (by decide) h.z2)) (λi h=>by cases h)
theorem zbf {w0 w u0 u1 u2} (hw:Bl w0 w) :
  Bl w0 (((w.setCell ⟨w0.heap.size+1+1,0,none⟩ u0).setCell ⟨w0.heap.size+1+1,1,none⟩ u1).setCell ⟨w0.heap.size+1+1,2,none⟩ u2) :=
 zL hw hw.size ((((Turned.refl w0.heap.size (w0.heap.size+1+1+1) w).set (x:=⟨w0.heap.size+1+1,0,none⟩) (by simp;omega) (by simp) _).set (x:=⟨w0.heap.size+1+1,1,none⟩) (by simp;omega) (by simp) _).set (x:=⟨w0.heap.size+1+1,2,none⟩) (by simp;omega) (by simp) _) (le_refl _)
theorem ziy {a b:Rat} {s S} (hS:S=a.num*(b.den/a.den.gcd b.den:Nat)+b.num*(a.den/a.den.gcd b.den:Nat)) (hs:S=sg s S.natAbs) :
  sg s (S.natAbs/S.natAbs.gcd (a.den.gcd b.den))=(a+b).num/\a.den/a.den.gcd b.den*(b.den/S.natAbs.gcd (a.den.gcd b.den))=(a+b).den:=by
 have hG:0<a.den.gcd b.den:=Nat.gcd_pos_of_pos_left _ a.den_pos;have hL:0<S.natAbs.gcd (a.den.gcd b.den):=Nat.gcd_pos_of_pos_right _ hG;obtain⟨K,hK⟩:=Nat.gcd_dvd_left S.natAbs (a.den.gcd b.den);have hN:sg s (S.natAbs/S.natAbs.gcd (a.den.gcd b.den))*(S.natAbs.gcd (a.den.gcd b.den):Nat)=S:=by
  have h1:S.natAbs/S.natAbs.gcd (a.den.gcd b.den)=K:=by
   have:=Nat.mul_div_cancel_left K hL;rw[<-hK]at this;exact this
  rw[h1];generalize S.natAbs.gcd (a.den.gcd b.den)=l at hK;rw[hs,hK];cases s
  ·show(K:Int)*l=((l*K:Nat):Int);rw[Int.natCast_mul,mul_comm]
  ·show(-(K:Int))*l=-((l*K:Nat):Int);rw[Int.natCast_mul,Int.neg_mul,mul_comm]
 have:=zsZ (a:=a) (b:=b) rfl (Nat.div_mul_cancel (Nat.gcd_dvd_left _ _)) (Nat.div_mul_cancel (Nat.gcd_dvd_right _ _)) hS rfl (Nat.div_mul_cancel (Nat.dvd_trans (Nat.gcd_dvd_right _ _) (Nat.gcd_dvd_right _ _))) hN;exact⟨this.1.symm,this.2.symm⟩
theorem zmK {L w sa xa na ca fa ya ma da ga a sb xb nb cb fb yb mb db gb b} (ha:Rn L w sa xa na ca fa ya ma da ga a) (hb:Rn L w sb xb nb cb fb yb mb db gb b) (hL:L<=200000) :
  Calls prog 98 #[agg #[.bool sa,slice xa na ca,slice ya ma da],agg #[.bool sb,slice xb nb cb,slice yb mb db]] w λe w'=>zcq (2*L+1) w w' e (a+b):=by
 have HA0:=zk ha;have HB0:=zk hb
 have b1:=ha.ln;have b2:=ha.ld;have b3:=hb.ln;have b4:=hb.ld
 clear ha hb;go_enter func98,ntmps98;go_wp2_with fail
 refine(zbH (((HA0.out.den.alloc _).alloc _).alloc _) (((HB0.out.den.alloc _).alloc _).alloc _) (by omega) (by omega)).mono ?_;rintro e w1 ⟨zg,kg,cg,fg,rfl,hbel,hg⟩;obtain⟨⟨hz,x0,x1,x2,y0,y1,y2,z0,z1,z2,zf⟩,hw⟩:=zbD hbel;have T1:Hid (Three w.heap.size w1 _ _ _ _ _ _ _ _ _):=⟨hz,x0,x1,x2,y0,y1,y2,z0,z1,z2,zf⟩;have HW1:=zk hw;have WG1:=zk hg;have HA1:=zk (HA0.out.q_ hw);have HB1:=zk (HB0.out.q_ hw)
 have hG0:0<a.den.gcd b.den:=Nat.gcd_pos_of_pos_left _ a.den_pos;have hkg:kg<=L:=le_trans (hg.len_le HA1.out.den (Nat.gcd_le_left _ a.den_pos)) (by omega);clear hbel hw hg HA0 HB0;have C1:Hid ((∀W,Bl w1 W->Calls prog 123 #[slice ya ma da,slice zg kg cg] W λe w'=>∃z k e' h,e=returned (slice z k e')/\Bl W w'/\Hid (k<=L/\Wn w' false z k e' h (a.den/a.den.gcd b.den:Nat)))):=λW hW=>(zbJ (HA1.out.den.q_ hW) (WG1.out.q_ hW) hG0 (by omega) (by omega)).mono (λe w' ⟨z,k,e',h,h1,h2,h3⟩=>⟨z,k,e',h,h1,h2,by have:=h3.out.1;omega,h3.out.2⟩)
 have C2:Hid ((∀W,Bl w1 W->Calls prog 123 #[slice yb mb db,slice zg kg cg] W λe w'=>∃z k e' h,e=returned (slice z k e')/\Bl W w'/\Hid (k<=L/\Wn w' false z k e' h (b.den/a.den.gcd b.den:Nat)))):=λW hW=>(zbJ (HB1.out.den.q_ hW) (WG1.out.q_ hW) hG0 (by omega) (by omega)).mono (λe w' ⟨z,k,e',h,h1,h2,h3⟩=>⟨z,k,e',h,h1,h2,by have:=h3.out.1;omega,h3.out.2⟩)
 go_wp2_with fail
 go_region_held3 (λw'=>w'.cell? ⟨w.heap.size,2,none⟩=some (slice ya ma da)/\w'.cell? ⟨w.heap.size+1,2,none⟩=some (slice yb mb db))
  (refine⟨?_,?_⟩ <;> repeat(with_reducible first|assumption|refine kCd ?_|refine kCa ?_|refine kCb (by assumption) ?_))
  (first
   | (go_at_call 123;with_reducible refine(C1.out _ zai).mono ?_;rintro e w2 ⟨zp,kp,cp,fp,rfl,hb2,HP⟩)
   | (go_at_call 123;with_reducible refine(C2.out _ zai).mono ?_;rintro e w3 ⟨zq,kq,cq,fq,rfl,hb3,HQ⟩))
 have hb:Bl w1 w3:=zai;have hkp:=HP.out.1;have hkq:=HQ.out.1
 have WP3:=zk (HP.out.2.q_ hb3);have WQ3:=zk HQ.out.2;clear HP HQ C1 C2 hb2 hb3;have HA3:=zk (HA1.out.q_ hb);have HB3:=zk (HB1.out.q_ hb);have T3:=zk (T1.out.q_ hb);have WG3:=zk (WG1.out.q_ hb);have HW3:=zJ HW1 hb
 clear HA1 HB1 T1 WG1 HW1 hb;clear hz x0 x1 x2 y0 y1 y2 z0 z1 z2 zf;obtain⟨hz,x0,x1,x2,y0,y1,y2,z0,z1,z2,zf⟩:=T3.out;have hza:w.heap.size<w3.heap.size:=by omega
 have hzb:w.heap.size+1<w3.heap.size:=by omega
 go_wp2_with fail
 refine(zci sa xa ya na ca ma da _).mono ?_;rintro e w4 ⟨rfl,hb⟩;have HA4:=zk (HA3.out.q_ hb);have HB4:=zk (HB3.out.q_ hb);have T4:=zk (T3.out.q_ hb);have WG4:=zk (WG3.out.q_ hb);have WP4:=zk (WP3.out.q_ hb);have WQ4:=zk (WQ3.out.q_ hb);have HW4:=zJ HW3 hb
 clear HA3 HB3 T3 WG3 WP3 WQ3 HW3 hb;clear hza hzb hz x0 x1 x2 y0 y1 y2 z0 z1 z2 zf;obtain⟨hz,x0,x1,x2,y0,y1,y2,z0,z1,z2,zf⟩:=T4.out;have hza:w.heap.size<w4.heap.size:=by omega
 have hzb:w.heap.size+1<w4.heap.size:=by omega
 go_wp2_with fail
 refine(zko HA4.out.num WQ4.out (by omega) (by omega)).mono ?_;rintro e w5 ⟨s5,p5,k5,c5,f5,rfl,hb,hk5,hp⟩;have WX5:=zk hp;clear hp WQ4;have HA5:=zk (HA4.out.q_ hb);have HB5:=zk (HB4.out.q_ hb);have T5:=zk (T4.out.q_ hb);have WG5:=zk (WG4.out.q_ hb);have WP5:=zk (WP4.out.q_ hb);have HW5:=zJ HW4 hb
 clear HA4 HB4 T4 WG4 WP4 HW4 hb;clear hza hzb hz x0 x1 x2 y0 y1 y2 z0 z1 z2 zf;obtain⟨hz,x0,x1,x2,y0,y1,y2,z0,z1,z2,zf⟩:=T5.out;have hza:w.heap.size<w5.heap.size:=by omega
 have hzb:w.heap.size+1<w5.heap.size:=by omega
 go_wp2_with fail
 refine(zci sb xb yb nb cb mb db _).mono ?_;rintro e w6 ⟨rfl,hb⟩;have BX6:=zk (zhq hb);have HB6:=zk (HB5.out.next hb);have T6:=zk (T5.out.next hb);have WG6:=zk (WG5.out.next hb);have WP6:=zk (WP5.out.next hb);have WX6:=zk (WX5.out.next hb);have HW6:=zk ((zu HW5.out _).trans (hb.mono (zu HW5.out _).size))
 clear HB5 T5 WG5 WP5 WX5 HW5 hb;clear hza hzb hz x0 x1 x2 y0 y1 y2 z0 z1 z2 zf;obtain⟨hz,x0,x1,x2,y0,y1,y2,z0,z1,z2,zf⟩:=T6.out;have hza:w.heap.size<w6.heap.size:=by omega
 have hzb:w.heap.size+1<w6.heap.size:=by omega
 go_wp2_with fail
 refine(zko HB6.out.num WP6.out (by omega) (by omega)).mono ?_;rintro e w7 ⟨s7,p7,k7,c7,f7,rfl,hb,hk7,hp⟩;have WY7:=zk hp;clear hp;have HB7:=zk (HB6.out.q_ hb);have T7:=zk (T6.out.q_ hb);have WG7:=zk (WG6.out.q_ hb);have WP7:=zk (WP6.out.q_ hb);have WX7:=zk (WX6.out.q_ hb);have BX7:=zk (BX6.out.q_ hb);have HW7:=zJ HW6 hb
 clear HB6 T6 WG6 WP6 WX6 BX6 HW6 hb;clear hza hzb hz x0 x1 x2 y0 y1 y2 z0 z1 z2 zf;obtain⟨hz,x0,x1,x2,y0,y1,y2,z0,z1,z2,zf⟩:=T7.out;have hza:w.heap.size<w7.heap.size:=by omega
 have hzb:w.heap.size+1<w7.heap.size:=by omega
 obtain⟨hzx,bx0,bx1⟩:=BX7.out;go_wp2_with fail
 refine(zsF (WX7.out.alloc _) (WY7.out.alloc _) (by omega) (by omega)).mono ?_;rintro e w8 ⟨s8,p8,k8,c8,f8,rfl,hb,hk8,hp⟩;have WS8:=zk hp;clear hp hzx bx0 bx1 WX7 WY7 BX7;have HB8:=zk (HB7.out.next hb);have T8:=zk (T7.out.next hb);have WG8:=zk (WG7.out.next hb);have WP8:=zk (WP7.out.next hb);have HW8:=zk ((zu HW7.out _).trans (hb.mono (zu HW7.out _).size))
 clear HB7 T7 WG7 WP7 HW7 hb;clear hza hzb hz x0 x1 x2 y0 y1 y2 z0 z1 z2 zf;obtain⟨hz,x0,x1,x2,y0,y1,y2,z0,z1,z2,zf⟩:=T8.out;have hza:w.heap.size<w8.heap.size:=by omega
 have hzb:w.heap.size+1<w8.heap.size:=by omega
 have hz8:=hz;obtain⟨S,hS⟩:∃S,S=a.num*(b.den/a.den.gcd b.den:Nat)+b.num*(a.den/a.den.gcd b.den:Nat):=⟨_,rfl⟩;rw[<-hS]at WS8
 have HS:=zk hS;clear hS;go_wp2_with fail
 refine(zbH (WS8.out.mag.alloc _) (WG8.out.alloc _) (by omega) (by omega)).mono ?_;rintro e w9 ⟨zl,kl,cl,fl,rfl,hb,hl⟩;have WL9:=zk hl;have BS9:=zk (zhq hb)
 have hl0:0<S.natAbs.gcd (a.den.gcd b.den):=Nat.gcd_pos_of_pos_right _ hG0;have hkl:kl<=L:=le_trans (hl.len_le WG8.out (Nat.gcd_le_right _ hG0)) (by omega);clear hl WG8;have HB9:=zk (HB8.out.next hb);have T9:=zk (T8.out.next hb);have WP9:=zk (WP8.out.next hb);have WS9:=zk (WS8.out.next hb);have HW9:=zk ((zu HW8.out _).trans (hb.mono (zu HW8.out _).size))
 clear HB8 T8 WP8 WS8 HW8 hb;clear hza hzb hz x0 x1 x2 y0 y1 y2 z0 z1 z2 zf;obtain⟨hz,x0,x1,x2,y0,y1,y2,z0,z1,z2,zf⟩:=T9.out;have hza:w.heap.size<w9.heap.size:=by omega
 have hzb:w.heap.size+1<w9.heap.size:=by omega
 go_wp2_with fail
 refine(zbJ HB9.out.den WL9.out hl0 (by omega) (by omega)).mono ?_;rintro e w10 ⟨zo,ko,co,fo,rfl,hb,HO⟩;have hko:=HO.out.1;have WO10:=zk HO.out.2
 clear HO HB9;have T10:=zk (T9.out.q_ hb);have WP10:=zk (WP9.out.q_ hb);have WS10:=zk (WS9.out.q_ hb);have WL10:=zk (WL9.out.q_ hb);have BS10:=zk (BS9.out.q_ hb);have HW10:=zJ HW9 hb
 clear T9 WP9 WS9 WL9 BS9 HW9 hb;clear hza hzb hz x0 x1 x2 y0 y1 y2 z0 z1 z2 zf;obtain⟨hz,x0,x1,x2,y0,y1,y2,z0,z1,z2,zf⟩:=T10.out;have hza:w.heap.size<w10.heap.size:=by omega
 have hzb:w.heap.size+1<w10.heap.size:=by omega
 go_wp2_with fail
 refine(zfn WP10.out WO10.out (by omega) (by omega)).mono ?_;rintro e w11 ⟨zd,kd,cd,fd,rfl,hb,hkd,hp⟩;have WD11:=zk hp;clear hp WP10 WO10;have T11:=zk (T10.out.q_ hb);have WS11:=zk (WS10.out.q_ hb);have WL11:=zk (WL10.out.q_ hb);have BS11:=zk (BS10.out.q_ hb);have HW11:=zJ HW10 hb
 clear T10 WS10 WL10 BS10 HW10 hb;clear hza hzb hz x0 x1 x2 y0 y1 y2 z0 z1 z2 zf;obtain⟨hz,x0,x1,x2,y0,y1,y2,z0,z1,z2,zf⟩:=T11.out;have hza:w.heap.size<w11.heap.size:=by omega
 have hzb:w.heap.size+1<w11.heap.size:=by omega
 obtain⟨hzs,bs0,bs1⟩:=BS11.out;have C3:Hid (∀W,Bl w11 W->Calls prog 123 #[slice p8 k8 c8,slice zl kl cl] W λe w'=>∃z k e' h,e=returned (slice z k e')/\Bl W w'/\Hid (k<=k8/\Wn w' false z k e' h (S.natAbs/S.natAbs.gcd (a.den.gcd b.den):Nat))):=λW hW=>zbJ (WS11.out.mag.q_ hW) (WL11.out.q_ hW) hl0 (by omega) (by omega)
 have C4:Hid (∀(W:World) (z:Option Addr) (k c:Nat),k<=1048576->Calls prog 62 #[.bool s8,slice z k c,slice zd kd cd] W λe w'=>∃r,e=returned (agg #[.bool r,slice z k c,slice zd kd cd])/\Bl W w'/\Hid (r=(s8 && decide (0<k)))):=λW z k c hk=>(zbE s8 z zd k c kd cd W (by omega)).mono (λe w' ⟨r,h1,h2,h3⟩=>⟨r,h1,h3,h2⟩)
 go_wp2_with fail
 go_region_held3 (λw'=>w'.cell? ⟨w8.heap.size,0,none⟩=some (.bool s8)/\w'.cell? ⟨w8.heap.size,1,none⟩=some (slice p8 k8 c8)/\(w'.cell? ⟨w.heap.size+1+1,0,none⟩).isSome=true/\(w'.cell? ⟨w.heap.size+1+1,1,none⟩).isSome=true/\(w'.cell? ⟨w.heap.size+1+1,2,none⟩).isSome=true/\w'.frozen? ⟨w.heap.size+1+1,0,none⟩=false/\w'.frozen? ⟨w.heap.size+1+1,1,none⟩=false/\w'.frozen? ⟨w.heap.size+1+1,2,none⟩=false)
  (refine⟨?_,?_,?_,?_,?_,?_,?_,?_⟩ <;> repeat(with_reducible first|assumption|exact zf _|exact uf _|exact vf' _|exact kI0 z0|exact kI0 z1|exact kI0 z2|exact kI0 u0|exact kI0 u1|exact kI0 u2|exact kI0 v0|exact kI0 v1|exact kI0 v2|refine kCd ?_|refine kId ?_|refine kFd ?_|refine kCs (by simp only[ne_eq];omega) ?_|refine kIs ?_|refine kFs ?_|refine kCb (by assumption) ?_|refine kIb (by assumption) ?_))
  (first
   | (go_at_call 123;with_reducible refine(C3.out _ zai).mono ?_;rintro e w12 ⟨zn,kn,cn,fn,rfl,hb2,HN⟩;have hkn:kn<=1048576:=(by have:=HN.out.1;omega);have TU:Three w.heap.size w12 (.bool sa) (slice xa na ca) (slice ya ma da) (.bool sb) (slice xb nb cb) (slice yb mb db) (.bool false) (slice none 0 0) (slice none 0 0):=(by repeat(with_reducible first|exact T11.out|exact TU|refine kTd ?_|refine kTb (by assumption) ?_));obtain⟨_,_,_,_,_,_,_,u0,u1,u2,uf⟩:=id TU)
   | (go_at_call 62;with_reducible refine(C4.out _ zn kn cn hkn).mono ?_;rintro e w13 ⟨rs,rfl,hb3,HRS⟩;have TV:Three w.heap.size w13 (.bool sa) (slice xa na ca) (slice ya ma da) (.bool sb) (slice xb nb cb) (slice yb mb db) (.bool false) (slice none 0 0) (slice none 0 0):=(by repeat(with_reducible first|exact T11.out|exact TU|refine kTd ?_|refine kTb (by assumption) ?_));obtain⟨_,_,_,_,_,_,_,v0,v1,v2,vf'⟩:=id TV))
 have WN:Wn w13 false zn kn cn fn _:=HN.out.2.q_ hb3;have hw13:Bl w11 w13:=zai;have hm:=ziy HS.out WS11.out.sgn;have hkn':=HN.out.1;go_wp2;refine bodyPost_ret (v:=agg #[.bool rs,slice zn kn cn,slice zd kd cd]) (by simp[results,results98,go_sem,v0,v1,v2]) rfl ⟨rs,zn,kn,cn,fn,zd,kd,cd,fd,rfl,zbf (bUp HW11.out hw13),⟨?_,?_,?_,?_⟩⟩
 ·rw[<-hm.1];exact TV.store (WN.resign HRS.out)
 ·rw[<-hm.2];exact TV.store (WD11.out.q_ hw13)
 ·omega
 ·omega
theorem znh {a b:Rat} {s t} (ha:a.num=sg s a.num.natAbs) (hb:b.num=sg t b.num.natAbs) :
  sg (s != t) (a.num.natAbs/a.num.natAbs.gcd b.den*(b.num.natAbs/b.num.natAbs.gcd a.den))=(a*b).num/\a.den/b.num.natAbs.gcd a.den*(b.den/a.num.natAbs.gcd b.den)=(a*b).den:=by
 have:=zsX (a:=a) (b:=b) (s:=s) (t:=t) (G:=a.num.natAbs.gcd b.den) (H:=b.num.natAbs.gcd a.den) (NA:=a.num.natAbs/a.num.natAbs.gcd b.den) (NB:=b.num.natAbs/b.num.natAbs.gcd a.den) (DA:=a.den/b.num.natAbs.gcd a.den) (DB:=b.den/a.num.natAbs.gcd b.den)
  (by rw[Nat.div_mul_cancel (Nat.gcd_dvd_left _ _)];exact ha) (by rw[Nat.div_mul_cancel (Nat.gcd_dvd_left _ _)];exact hb) rfl rfl (Nat.div_mul_cancel (Nat.gcd_dvd_right _ _)) (Nat.div_mul_cancel (Nat.gcd_dvd_right _ _))
 exact⟨this.1.symm,this.2.symm⟩
theorem zmI {L w sa xa na ca fa ya ma da ga a sb xb nb cb fb yb mb db gb b} (ha:Rn L w sa xa na ca fa ya ma da ga a) (hb:Rn L w sb xb nb cb fb yb mb db gb b) (hL:L<=200000) :
  Calls prog 95 #[agg #[.bool sa,slice xa na ca,slice ya ma da],agg #[.bool sb,slice xb nb cb,slice yb mb db]] w λe w'=>zcq (2*L+1) w w' e (a*b):=by
 have b1:=ha.ln;have b2:=ha.ld;have b3:=hb.ln;have b4:=hb.ld
 have hbel:=Below.refl (((w.alloc (cells #[.bool sa,slice xa na ca,slice ya ma da] 24)).alloc (cells #[.bool sb,slice xb nb cb,slice yb mb db] 24)).alloc (cells #[.bool false,slice none 0 0,slice none 0 0] 24)).heap.size (((w.alloc (cells #[.bool sa,slice xa na ca,slice ya ma da] 24)).alloc (cells #[.bool sb,slice xb nb cb,slice yb mb db] 24)).alloc (cells #[.bool false,slice none 0 0,slice none 0 0] 24));obtain⟨t1,hw⟩:=zbD hbel;have h1:=(((ha.alloc (cells #[.bool sa,slice xa na ca,slice ya ma da] 24)).alloc (cells #[.bool sb,slice xb nb cb,slice yb mb db] 24)).alloc (cells #[.bool false,slice none 0 0,slice none 0 0] 24));have h2:=(((hb.alloc (cells #[.bool sa,slice xa na ca,slice ya ma da] 24)).alloc (cells #[.bool sb,slice xb nb cb,slice yb mb db] 24)).alloc (cells #[.bool false,slice none 0 0,slice none 0 0] 24));clear hbel ha hb;go_enter func95,ntmps95;go_wp2_with fail
 generalize((w.alloc (cells #[.bool sa,slice xa na ca,slice ya ma da] 24)).alloc (cells #[.bool sb,slice xb nb cb,slice yb mb db] 24)).alloc (cells #[.bool false,slice none 0 0,slice none 0 0] 24)=w1 at *;have HA1:=zk h1;have HB1:=zk h2;have T1:=zk t1;have HW1:=zk hw
 obtain⟨hz,x0,x1,x2,y0,y1,y2,z0,z1,z2,zf⟩:=t1;have hza:w.heap.size<w1.heap.size:=by omega
 have hzb:w.heap.size+1<w1.heap.size:=by omega
 clear h1 h2 hw;have hG0:0<a.num.natAbs.gcd b.den:=Nat.gcd_pos_of_pos_right _ b.den_pos;have hH0:0<b.num.natAbs.gcd a.den:=Nat.gcd_pos_of_pos_right _ a.den_pos;have C1:Hid (∀W,Bl w1 W->Calls prog 93 #[slice xa na ca,slice yb mb db] W λe w'=>∃z k e' h,e=returned (slice z k e')/\Bl W w'/\Hid (k<=L/\Wn w' false z k e' h (a.num.natAbs.gcd b.den:Nat))):=λW hW=>(zbH (HA1.out.num.mag.q_ hW) (HB1.out.den.q_ hW) (by omega) (by omega)).mono (λe w' ⟨z,k,e',h,h1,h2,h3⟩=>⟨z,k,e',h,h1,h2,le_trans (h3.len_le ((HB1.out.den.q_ hW).q_ h2) (Nat.gcd_le_right _ b.den_pos)) (by omega),h3⟩)
 have C2:Hid (∀W,Bl w1 W->Calls prog 93 #[slice xb nb cb,slice ya ma da] W λe w'=>∃z k e' h,e=returned (slice z k e')/\Bl W w'/\Hid (k<=L/\Wn w' false z k e' h (b.num.natAbs.gcd a.den:Nat))):=λW hW=>(zbH (HB1.out.num.mag.q_ hW) (HA1.out.den.q_ hW) (by omega) (by omega)).mono (λe w' ⟨z,k,e',h,h1,h2,h3⟩=>⟨z,k,e',h,h1,h2,le_trans (h3.len_le ((HA1.out.den.q_ hW).q_ h2) (Nat.gcd_le_right _ a.den_pos)) (by omega),h3⟩)
 go_region_held3 (λw'=>w'.cell? ⟨w.heap.size,1,none⟩=some (slice xa na ca)/\w'.cell? ⟨w.heap.size+1,2,none⟩=some (slice yb mb db)/\w'.cell? ⟨w.heap.size+1,1,none⟩=some (slice xb nb cb)/\w'.cell? ⟨w.heap.size,2,none⟩=some (slice ya ma da))
  (refine⟨?_,?_,?_,?_⟩ <;> repeat(with_reducible first|assumption|refine kCd ?_|refine kCa ?_|refine kCb (by assumption) ?_))
  (first
   | (go_at_call 93;with_reducible refine(C1.out _ zai).mono ?_;rintro e w2 ⟨zg,kg,cg,fg,rfl,hb2,HG⟩)
   | (go_at_call 93;with_reducible refine(C2.out _ zai).mono ?_;rintro e w3 ⟨zh,kh,ch,fh,rfl,hb3,HH⟩))
 have WG3:=zk (HG.out.2.q_ hb3);have WH3:=zk HH.out.2
 have hkg:=HG.out.1;have hkh:=HH.out.1
 have hb:Bl w1 w3:=zai;clear HG HH C1 C2 hb2 hb3;have HA3:=zk (HA1.out.q_ hb);have HB3:=zk (HB1.out.q_ hb);have T3:=zk (T1.out.q_ hb);have HW3:=zJ HW1 hb
 clear HA1 HB1 T1 HW1 hb;clear hza hzb hz x0 x1 x2 y0 y1 y2 z0 z1 z2 zf;obtain⟨hz,x0,x1,x2,y0,y1,y2,z0,z1,z2,zf⟩:=T3.out;have hza:w.heap.size<w3.heap.size:=by omega
 have hzb:w.heap.size+1<w3.heap.size:=by omega
 have C1:Hid (∀W,Bl w3 W->Calls prog 123 #[slice xa na ca,slice zg kg cg] W λe w'=>∃z k e' h,e=returned (slice z k e')/\Bl W w'/\Hid (k<=L/\Wn w' false z k e' h (a.num.natAbs/a.num.natAbs.gcd b.den:Nat))):=λW hW=>(zbJ (HA3.out.num.mag.q_ hW) (WG3.out.q_ hW) hG0 (by omega) (by omega)).mono (λe w' ⟨z,k,e',h,h1,h2,h3⟩=>⟨z,k,e',h,h1,h2,by have:=h3.out.1;omega,h3.out.2⟩)
 have C2:Hid (∀W,Bl w3 W->Calls prog 123 #[slice xb nb cb,slice zh kh ch] W λe w'=>∃z k e' h,e=returned (slice z k e')/\Bl W w'/\Hid (k<=L/\Wn w' false z k e' h (b.num.natAbs/b.num.natAbs.gcd a.den:Nat))):=λW hW=>(zbJ (HB3.out.num.mag.q_ hW) (WH3.out.q_ hW) hH0 (by omega) (by omega)).mono (λe w' ⟨z,k,e',h,h1,h2,h3⟩=>⟨z,k,e',h,h1,h2,by have:=h3.out.1;omega,h3.out.2⟩)
 go_wp2_with fail
 go_region_held3 (λw'=>w'.cell? ⟨w.heap.size,1,none⟩=some (slice xa na ca)/\w'.cell? ⟨w.heap.size+1,1,none⟩=some (slice xb nb cb))
  (refine⟨?_,?_⟩ <;> repeat(with_reducible first|assumption|refine kCd ?_|refine kCa ?_|refine kCb (by assumption) ?_))
  (first
   | (go_at_call 123;with_reducible refine(C1.out _ zai).mono ?_;rintro e w4 ⟨zp,kp,cp,fp,rfl,hb4,HP⟩)
   | (go_at_call 123;with_reducible refine(C2.out _ zai).mono ?_;rintro e w5 ⟨zq,kq,cq,fq,rfl,hb5,HQ⟩)
   | (go_at_call 122;with_reducible refine(zfn (HP.out.2.q_ hb5) HQ.out.2 (by have:=HP.out.1;omega) (by have:=HQ.out.1;omega)).mono ?_;rintro e w6 ⟨zn,kn,cn,fn,rfl,hb6,hkn,hmn⟩))
 have WN6:=zk hmn;have hkp:=HP.out.1;have hkq:=HQ.out.1
 have hb:Bl w3 w6:=zai;clear HP HQ C1 C2 hb4 hb5 hb6 hmn;have HA6:=zk (HA3.out.q_ hb);have HB6:=zk (HB3.out.q_ hb);have T6:=zk (T3.out.q_ hb);have WG6:=zk (WG3.out.q_ hb);have WH6:=zk (WH3.out.q_ hb);have HW6:=zJ HW3 hb
 clear HA3 HB3 T3 WG3 WH3 HW3 hb;clear hza hzb hz x0 x1 x2 y0 y1 y2 z0 z1 z2 zf;obtain⟨hz,x0,x1,x2,y0,y1,y2,z0,z1,z2,zf⟩:=T6.out;have hza:w.heap.size<w6.heap.size:=by omega
 have hzb:w.heap.size+1<w6.heap.size:=by omega
 have C1:Hid (∀W,Bl w6 W->Calls prog 123 #[slice ya ma da,slice zh kh ch] W λe w'=>∃z k e' h,e=returned (slice z k e')/\Bl W w'/\Hid (k<=L/\Wn w' false z k e' h (a.den/b.num.natAbs.gcd a.den:Nat))):=λW hW=>(zbJ (HA6.out.den.q_ hW) (WH6.out.q_ hW) hH0 (by omega) (by omega)).mono (λe w' ⟨z,k,e',h,h1,h2,h3⟩=>⟨z,k,e',h,h1,h2,by have:=h3.out.1;omega,h3.out.2⟩)
 have C2:Hid (∀W,Bl w6 W->Calls prog 123 #[slice yb mb db,slice zg kg cg] W λe w'=>∃z k e' h,e=returned (slice z k e')/\Bl W w'/\Hid (k<=L/\Wn w' false z k e' h (b.den/a.num.natAbs.gcd b.den:Nat))):=λW hW=>(zbJ (HB6.out.den.q_ hW) (WG6.out.q_ hW) hG0 (by omega) (by omega)).mono (λe w' ⟨z,k,e',h,h1,h2,h3⟩=>⟨z,k,e',h,h1,h2,by have:=h3.out.1;omega,h3.out.2⟩)
 go_wp2_with fail
 go_region_held3 (λw'=>w'.cell? ⟨w.heap.size,2,none⟩=some (slice ya ma da)/\w'.cell? ⟨w.heap.size+1,2,none⟩=some (slice yb mb db))
  (refine⟨?_,?_⟩ <;> repeat(with_reducible first|assumption|refine kCd ?_|refine kCa ?_|refine kCb (by assumption) ?_))
  (first
   | (go_at_call 123;with_reducible refine(C1.out _ zai).mono ?_;rintro e w7 ⟨zr,kr,cr,fr,rfl,hb7,HP⟩)
   | (go_at_call 123;with_reducible refine(C2.out _ zai).mono ?_;rintro e w8 ⟨zs,ks,cs,fs,rfl,hb8,HQ⟩)
   | (go_at_call 122;with_reducible refine(zfn (HP.out.2.q_ hb8) HQ.out.2 (by have:=HP.out.1;omega) (by have:=HQ.out.1;omega)).mono ?_;rintro e w9 ⟨zd,kd,cd,fd,rfl,hb9,hkd,hmd⟩))
 have WD9:=zk hmd;have hkr:=HP.out.1;have hks:=HQ.out.1
 have hb:Bl w6 w9:=zai;clear HP HQ C1 C2 hb7 hb8 hb9 hmd;have HA9:=zk (HA6.out.q_ hb);have HB9:=zk (HB6.out.q_ hb);have T9:=zk (T6.out.q_ hb);have WN9:=zk (WN6.out.q_ hb);have HW9:=zJ HW6 hb
 clear HA6 HB6 T6 WN6 HW6 hb;clear hza hzb hz x0 x1 x2 y0 y1 y2 z0 z1 z2 zf;obtain⟨hz,x0,x1,x2,y0,y1,y2,z0,z1,z2,zf⟩:=T9.out;have hza:w.heap.size<w9.heap.size:=by omega
 have hzb:w.heap.size+1<w9.heap.size:=by omega
 go_wp2_with fail
 refine(zbE _ zn zd kn cn kd cd _ (by omega)).mono ?_;rintro e w10 ⟨rs,rfl,HRS,hb⟩;have HA10:=zk (HA9.out.q_ hb);have HB10:=zk (HB9.out.q_ hb);have T10:=zk (T9.out.q_ hb);have WN10:=zk (WN9.out.q_ hb);have WD10:=zk (WD9.out.q_ hb);have HW10:=zJ HW9 hb
 clear HA9 HB9 T9 WN9 WD9 HW9 hb;clear hza hzb hz x0 x1 x2 y0 y1 y2 z0 z1 z2 zf;obtain⟨hz,x0,x1,x2,y0,y1,y2,z0,z1,z2,zf⟩:=T10.out;have hza:w.heap.size<w10.heap.size:=by omega
 have hzb:w.heap.size+1<w10.heap.size:=by omega
 have hm:=znh HA10.out.num.sgn HB10.out.num.sgn;go_wp2;refine bodyPost_ret (v:=agg #[.bool rs,slice zn kn cn,slice zd kd cd]) (by simp[results,results95,go_sem,z0,z1,z2]) rfl ⟨rs,zn,kn,cn,fn,zd,kd,cd,fd,rfl,zbf HW10.out,⟨?_,?_,?_,?_⟩⟩
 ·rw[<-hm.1];exact T10.out.store (WN10.out.resign HRS.out)
 ·rw[<-hm.2];exact T10.out.store WD10.out
 ·omega
 ·omega
structure Rw (w:World) (x:Option Addr) (n c:Nat) (f:Nat->Int) (y:Option Addr) (m d:Nat) (g:Nat->Int):Prop where
 rx:Rd .u64 w x n f
 lx:Lm f n
 cx:n<=c/\c<=9223372036854775807
 nx:x=none->n=0/\c=0
 ry:Rd .u64 w y m g
 ly:Lm g m
 cy:m<=d/\d<=9223372036854775807
 ny:y=none->m=0/\d=0
theorem Rw.q_ {w w' x n c f y m d g} (h:Rw w x n c f y m d g) (hb:Bl w w'):Rw w' x n c f y m d g:=⟨h.rx.q_ hb (le_refl _),h.lx,h.cx,h.nx,h.ry.q_ hb (le_refl _),h.ly,h.cy,h.ny⟩
theorem Rw.alloc {w x n c f y m d g} (h:Rw w x n c f y m d g) (o:Obj):Rw (w.alloc o) x n c f y m d g:=h.q_ (zu (Below.refl _ _) o)
def rfB (s:Bool) (f:Nat->Int) (n:Nat) (g:Nat->Int) (m:Nat):Bool:=wfB s f n && (fmB g m && (decide (0<m) && decide ((vf f n).toNat.gcd (vf g m).toNat=1)))
theorem zdV {s f n} (h:Lm f n):(wv s f n).natAbs=(vf f n).toNat:=by
 have h0:=zz h;cases s
 ·rw[zae];omega
 ·rw[zam];omega
theorem Rw.rn {w s x n c f y m d g L} (h:Rw w x n c f y m d g) (hf:rfB s f n g m=true) (hn:n<=L) (hm:m<=L):∃q,Rn L w s x n c f y m d g q:=by
 simp only[rfB,Bool.and_eq_true,decide_eq_true_eq]at hf;obtain⟨h1,h2,h3,h4⟩:=hf;have hp:=zdi h.ly (zbm h2) h3;refine⟨⟨wv s f n,(vf g m).toNat,by omega,by rw[zdV h.lx];exact h4⟩,⟨h.rx,h.lx,h1,h.cx,h.nx,rfl⟩,⟨h.ry,h.ly,(wfB_iff _ _ _).2 ⟨zbm h2,λh=>by cases h⟩,h.cy,h.ny,?_⟩,hn,hm⟩;show vf g m=((vf g m).toNat:Int);omega
theorem Rn.rw {L w s x n c f y m d g q} (h:Rn L w s x n c f y m d g q):Rw w x n c f y m d g:=⟨h.num.rd,h.num.lm,h.num.cap,h.num.nil,h.den.rd,h.den.lm,h.den.cap,h.den.nil⟩
theorem Rn.rf {L w s x n c f y m d g q} (h:Rn L w s x n c f y m d g q):rfB s f n g m=true:=by
 simp only[rfB,Bool.and_eq_true,decide_eq_true_eq];have hd:=q.den_pos;refine⟨h.num.wf,(zcW _ _).2 h.den.fm,h.den.pos (by omega),?_⟩;rw[<-zdV (s:=s) h.num.lm,h.num.val,h.den.nv];exact q.reduced
theorem Rn.inj {L L' w w' s t x n c f y m d g x' n' c' f' y' m' d' g' q r} (h:Rn L w s x n c f y m d g q) (h':Rn L' w' t x' n' c' f' y' m' d' g' r):(s=t/\Alk n n' f f'/\Alk m m' g g') ↔ q=r:=by
 constructor
 ·rintro⟨rfl,⟨rfl,h1⟩,⟨rfl,h2⟩⟩;have e1:vf f n=vf f' n:=zN h1;have e2:vf g m=vf g' m:=zN h2;refine Rat.ext ?_ ?_
  ·rw[<-h.num.val,<-h'.num.val];cases s
   ·rw[zae,zae,e1]
   ·rw[zam,zam,e1]
  ·have:=h.den.nv;have:=h'.den.nv;omega
 ·rintro rfl;have ha:=zz h.num.lm;have hb:=zz h'.num.lm
  have e2:=zgt h.den.lm h'.den.lm h.den.fm h'.den.fm (h.den.nv.trans h'.den.nv.symm);have v1:=h.num.val;have v2:=h'.num.val
  have p1:=zbo h.num.wf;have p2:=zbo h'.num.wf
  have q1:0<n->0<vf f n:=zdi h.num.lm h.num.fm;have q2:0<n'->0<vf f' n':=zdi h'.num.lm h'.num.fm;cases s <;> cases t
  ·rw[zae]at v1 v2
   exact⟨rfl,zgt h.num.lm h'.num.lm h.num.fm h'.num.fm (v1.trans v2.symm),e2⟩
  ·rw[zae]at v1;rw[zam]at v2
   have:=q2 (p2 rfl);omega
  ·rw[zam]at v1;rw[zae]at v2
   have:=q1 (p1 rfl);omega
  ·rw[zam]at v1 v2
   exact⟨rfl,zgt h.num.lm h'.num.lm h.num.fm h'.num.fm (by omega),e2⟩
structure Bx3 (w:World) (B:Nat) (a0 a1 a2:Value):Prop where
 z:B<w.heap.size
 x0:w.cell? ⟨B,0,none⟩=some a0
 x1:w.cell? ⟨B,1,none⟩=some a1
 x2:w.cell? ⟨B,2,none⟩=some a2
theorem Bx3.q_ {w w' B a0 a1 a2} (h:Bx3 w B a0 a1 a2) (hb:Bl w w'):Bx3 w' B a0 a1 a2:=⟨Nat.lt_of_lt_of_le h.z hb.size,kCb hb h.x0,kCb hb h.x1,kCb hb h.x2⟩
theorem Bx3.alloc {w B a0 a1 a2} (h:Bx3 w B a0 a1 a2) (o:Obj):Bx3 (w.alloc o) B a0 a1 a2:=h.q_ (zu (Below.refl _ _) o)
theorem zbr (w:World) (a0 a1 a2:Value) (t:TypeId):Bx3 (w.alloc (cells #[a0,a1,a2] t)) w.heap.size a0 a1 a2:=⟨by simp,by simp[go_sem],by simp[go_sem],by simp[go_sem]⟩
theorem zkS {w w':World} {a0 a1 a2 t} (hb:Below (w.alloc (cells #[a0,a1,a2] t)).heap.size (w.alloc (cells #[a0,a1,a2] t)) w'):Bx3 w' w.heap.size a0 a1 a2:=(zbr w a0 a1 a2 t).q_ hb
theorem zdA {w s x n c f y m d g} (h:Rw w x n c f y m d g) (hn:n<=1048576) (hm:m<=1048576) :
  Calls prog 60 #[agg #[.bool s,slice x n c,slice y m d]] w λe w'=>e=returned (.bool (rfB s f n g m))/\Bl w w':=by
 have H:=zk h;have hrf:rfB s f n g m=(wfB s f n && (fmB g m && (decide (0<m) && decide ((vf f n).toNat.gcd (vf g m).toNat=1)))):=rfl;rw[hrf];clear h hrf;go_enter func60,ntmps60;go_wp2_with fail
 refine(zci s x y n c m d _).mono ?_;rintro e w1 ⟨rfl,hb⟩;have B1:=zk (zkS hb);have HW1:Hid (Bl w w1):=(zB w _).trans (hb.mono (by simp))
 clear hb;obtain⟨z,x0,x1,x2⟩:=B1.out;go_wp2_with fail
 refine(zaN s x n c f _ (by omega) (H.out.rx.q_ HW1.out (le_refl _))).mono ?_;rintro e w2 ⟨rfl,hb⟩;have B2:=zk (B1.out.q_ hb);have HW2:=zJ HW1 hb
 clear hb B1 z x0 x1 x2 HW1;obtain⟨z,x0,x1,x2⟩:=B2.out;cases h1:wfB s f n
 ·have E:Hid ((wfB s f n && (fmB g m && (decide (0<m) && decide ((vf f n).toNat.gcd (vf g m).toNat=1))))=false):=zk (by rw[h1];rfl);go_wp2;go_ret;exact⟨by rw[E.out];rfl,HW2.out⟩
 have F1:=zk h1;clear h1;have c2:=zal y m d g w2 (by omega) (H.out.ry.q_ HW2.out (le_refl _));go_wp2_with fail
 refine c2.mono ?_;rintro e w3 ⟨rfl,rfl⟩;clear c2;cases h2:fmB g m
 ·have E:Hid ((wfB s f n && (fmB g m && (decide (0<m) && decide ((vf f n).toNat.gcd (vf g m).toNat=1))))=false):=zk (by rw[F1.out,h2];rfl);go_wp2;go_ret;exact⟨by rw[E.out];rfl,HW2.out⟩
 by_cases h3:0<m
 ·have h3':((m:Int)==0)=false:=by simp;omega
  have hd3:decide (0<m)=true:=by simp;omega
  have E:Hid ((wfB s f n && (fmB g m && (decide (0<m) && decide ((vf f n).toNat.gcd (vf g m).toNat=1))))=decide ((((vf f n).toNat.gcd (vf g m).toNat:Nat):Int)=1)):=zk (by
   rw[F1.out,h2,hd3,Bool.true_and,Bool.true_and,Bool.true_and];by_cases h:(vf f n).toNat.gcd (vf g m).toNat=1
   ·simp[h]
   ·have:¬((((vf f n).toNat.gcd (vf g m).toNat:Nat):Int)=1):=by omega
    simp[h,this])
  have hh:=(H.out.q_ HW2.out);have W1:Wn w3 false x n c f ((vf f n).toNat:Nat):=⟨hh.rx,hh.lx,(wfB_iff _ _ _).2 ⟨fm_of_wfB F1.out,λh=>by cases h⟩,hh.cx,hh.nx,by have:=zz hh.lx;show vf f n=_;omega⟩;have W2:Wn w3 false y m d g ((vf g m).toNat:Nat):=⟨hh.ry,hh.ly,(wfB_iff _ _ _).2 ⟨zbm h2,λh=>by cases h⟩,hh.cy,hh.ny,by have:=zz hh.ly;show vf g m=_;omega⟩;have C3:=zk (zbH W1 W2 (by omega) (by omega));clear hh W1 W2 hd3 h2 h3;go_wp2_with fail
  refine C3.out.mono ?_;rintro e w4 ⟨zg,kg,cg,fg,rfl,hb,hg⟩;have C4:=zk (zdJ hg);clear hg;go_wp2_with fail
  refine C4.out.mono ?_;rintro e w5 ⟨rfl,rfl⟩;go_wp2;go_ret;exact⟨by rw[E.out];rfl,bUp HW2.out hb⟩
 ·have h3':m=0:=by omega
  have E:Hid ((wfB s f n && (fmB g m && (decide (0<m) && decide ((vf f n).toNat.gcd (vf g m).toNat=1))))=false):=zk (by simp[h3']);subst h3';go_wp2;go_ret;exact⟨by rw[E.out];rfl,HW2.out⟩
theorem zbA {L w s x n c f y m d g q} (h:Rn L w s x n c f y m d g q) (hL:L<=1048576) :
  Calls prog 60 #[agg #[.bool s,slice x n c,slice y m d]] w λe w'=>e=returned (.bool true)/\Bl w w':=by
 have h1:=h.ln;have h2:=h.ld
 have:=zdA (s:=s) h.rw (by omega) (by omega);rw[h.rf]at this
 exact this
theorem zmN {L w sa xa na ca fa ya ma da ga a sb xb nb cb fb yb mb db gb b} (ha:Rn L w sa xa na ca fa ya ma da ga a) (hb:Rn L w sb xb nb cb fb yb mb db gb b) (hL:L<=200000) :
  Calls prog 65 #[agg #[.bool sa,slice xa na ca,slice ya ma da],agg #[.bool sb,slice xb nb cb,slice yb mb db]] w λe w'=>zjC (2*L+1) w w' e (a+b):=by
 have HA0:=zk ha;have HB0:=zk hb
 clear ha hb;go_enter func65,ntmps65;go_wp2_with fail
 refine(zbA (((HA0.out.alloc _).alloc _).alloc _) (by omega)).mono ?_;rintro e w1 ⟨rfl,hbel⟩;obtain⟨⟨hz,x0,x1,x2,y0,y1,y2,z0,z1,z2,zf⟩,hw⟩:=zbD hbel;have T1:Hid (Three w.heap.size w1 _ _ _ _ _ _ _ _ _):=⟨hz,x0,x1,x2,y0,y1,y2,z0,z1,z2,zf⟩;have HW1:=zk hw;have HA1:=zk (HA0.out.q_ hw);have HB1:=zk (HB0.out.q_ hw)
 clear hbel hw HA0 HB0;go_wp2_with fail
 refine(zbA HB1.out (by omega)).mono ?_;rintro e w2 ⟨rfl,hb⟩;have HA2:=zk (HA1.out.q_ hb);have HB2:=zk (HB1.out.q_ hb);have T2:=zk (T1.out.q_ hb);have HW2:=zJ HW1 hb
 clear HA1 HB1 T1 HW1 hb;clear hz x0 x1 x2 y0 y1 y2 z0 z1 z2 zf;obtain⟨hz,x0,x1,x2,y0,y1,y2,z0,z1,z2,zf⟩:=T2.out;have hza:w.heap.size<w2.heap.size:=by omega
 have hzb:w.heap.size+1<w2.heap.size:=by omega
 go_wp2_with fail
 refine(zmK HA2.out HB2.out hL).mono ?_;rintro e w3 ⟨rs,zn,kn,cn,fn,zd,kd,cd,fd,rfl,hb,hr⟩;have HR:=zk hr;clear hr;have T3:=zk (T2.out.q_ hb);have HW3:=zJ HW2 hb
 clear T2 HW2 hb;clear hza hzb hz x0 x1 x2 y0 y1 y2 z0 z1 z2 zf;obtain⟨hz,x0,x1,x2,y0,y1,y2,z0,z1,z2,zf⟩:=T3.out;have hza:w.heap.size<w3.heap.size:=by omega
 have hzb:w.heap.size+1<w3.heap.size:=by omega
 go_wp2;refine bodyPost_ret (v:=.tuple #[agg #[.bool rs,slice zn kn cn,slice zd kd cd],.int .i64 0]) (by simp[results,results65,go_sem,z0,z1,z2]) rfl ⟨rs,zn,kn,cn,fn,zd,kd,cd,fd,rfl,zbf HW3.out,⟨?_,?_,HR.out.ln,HR.out.ld⟩⟩
 ·exact T3.out.store HR.out.num
 ·exact T3.out.store HR.out.den
theorem ziW {L w sa xa na ca fa ya ma da ga a sb xb nb cb fb yb mb db gb b} (ha:Rn L w sa xa na ca fa ya ma da ga a) (hb:Rn L w sb xb nb cb fb yb mb db gb b) (hL:L<=200000) :
  Calls prog 63 #[agg #[.bool sa,slice xa na ca,slice ya ma da],agg #[.bool sb,slice xb nb cb,slice yb mb db]] w λe w'=>zjC (2*L+1) w w' e (a*b):=by
 have HA0:=zk ha;have HB0:=zk hb
 clear ha hb;go_enter func63,ntmps63;go_wp2_with fail
 refine(zbA (((HA0.out.alloc _).alloc _).alloc _) (by omega)).mono ?_;rintro e w1 ⟨rfl,hbel⟩;obtain⟨⟨hz,x0,x1,x2,y0,y1,y2,z0,z1,z2,zf⟩,hw⟩:=zbD hbel;have T1:Hid (Three w.heap.size w1 _ _ _ _ _ _ _ _ _):=⟨hz,x0,x1,x2,y0,y1,y2,z0,z1,z2,zf⟩;have HW1:=zk hw;have HA1:=zk (HA0.out.q_ hw);have HB1:=zk (HB0.out.q_ hw)
 clear hbel hw HA0 HB0;go_wp2_with fail
 refine(zbA HB1.out (by omega)).mono ?_;rintro e w2 ⟨rfl,hb⟩;have HA2:=zk (HA1.out.q_ hb);have HB2:=zk (HB1.out.q_ hb);have T2:=zk (T1.out.q_ hb);have HW2:=zJ HW1 hb
 clear HA1 HB1 T1 HW1 hb;clear hz x0 x1 x2 y0 y1 y2 z0 z1 z2 zf;obtain⟨hz,x0,x1,x2,y0,y1,y2,z0,z1,z2,zf⟩:=T2.out;have hza:w.heap.size<w2.heap.size:=by omega
 have hzb:w.heap.size+1<w2.heap.size:=by omega
 go_wp2_with fail
 refine(zmI HA2.out HB2.out hL).mono ?_;rintro e w3 ⟨rs,zn,kn,cn,fn,zd,kd,cd,fd,rfl,hb,hr⟩;have HR:=zk hr;clear hr;have T3:=zk (T2.out.q_ hb);have HW3:=zJ HW2 hb
 clear T2 HW2 hb;clear hza hzb hz x0 x1 x2 y0 y1 y2 z0 z1 z2 zf;obtain⟨hz,x0,x1,x2,y0,y1,y2,z0,z1,z2,zf⟩:=T3.out;have hza:w.heap.size<w3.heap.size:=by omega
 have hzb:w.heap.size+1<w3.heap.size:=by omega
 go_wp2;refine bodyPost_ret (v:=.tuple #[agg #[.bool rs,slice zn kn cn,slice zd kd cd],.int .i64 0]) (by simp[results,results63,go_sem,z0,z1,z2]) rfl ⟨rs,zn,kn,cn,fn,zd,kd,cd,fd,rfl,zbf HW3.out,⟨?_,?_,HR.out.ln,HR.out.ld⟩⟩
 ·exact T3.out.store HR.out.num
 ·exact T3.out.store HR.out.den
theorem Rn.negate {L w s x n c f y m d g q r} (h:Rn L w s x n c f y m d g q) (hr:r=(!s && decide (0<n))):Rn L w r x n c f y m d g (-q):=by
 refine⟨?_,h.den,h.ln,h.ld⟩;have h1:=h.num.mag.resign (s:=!s) hr;have h2:=h.num.sgn;show Wn w r x n c f (-q.num);have:-q.num=sg (!s) q.num.natAbs:=by
  generalize q.num.natAbs=A at h2;rw[h2];cases s
  ·rfl
  ·show - -(A:Int)=A;omega
 rw[this];exact h1
structure Nm where
 s:Bool
 x:Option Addr
 n:Nat
 c:Nat
 f:Nat->Int
 y:Option Addr
 m:Nat
 d:Nat
 g:Nat->Int
def NmR (w:World) (t:Nm):Prop:=Rw w t.x t.n t.c t.f t.y t.m t.d t.g/\t.n<=65536/\t.m<=65536
def nfB (t:Nm):Bool:=rfB t.s t.f t.n t.g t.m
theorem NmR.q_ {w w' t} (h:NmR w t) (hb:Bl w w'):NmR w' t:=⟨h.1.q_ hb,h.2⟩
structure C4 (w:World) (b o:Nat) (a0 a1 a2 a3:Value):Prop where
 x0:w.cell? ⟨b,o,none⟩=some a0
 x1:w.cell? ⟨b,o+1,none⟩=some a1
 x2:w.cell? ⟨b,o+2,none⟩=some a2
 x3:w.cell? ⟨b,o+3,none⟩=some a3
theorem C4.q_ {w w' b o a0 a1 a2 a3} (h:C4 w b o a0 a1 a2 a3) (hb:Bl w w'):C4 w' b o a0 a1 a2 a3:=⟨kCb hb h.x0,kCb hb h.x1,kCb hb h.x2,kCb hb h.x3⟩
theorem zsD {w w1 a0 a1 a2 a3 t} (hb:Below (w.alloc (cells #[a0,a1,a2,a3] t)).heap.size (w.alloc (cells #[a0,a1,a2,a3] t)) w1):w.heap.size<w1.heap.size/\w1.cell? ⟨w.heap.size,0,none⟩=some a0/\w1.cell? ⟨w.heap.size,1,none⟩=some a1/\w1.cell? ⟨w.heap.size,2,none⟩=some a2/\w1.cell? ⟨w.heap.size,3,none⟩=some a3/\Bl w w1:=by
 have hz:=hb.size;simp at hz;exact⟨by omega,kCb hb (by simp[go_sem]),kCb hb (by simp[go_sem]),kCb hb (by simp[go_sem]),kCb hb (by simp[go_sem]),(zu (Below.refl _ w) _).trans (hb.mono (by simp))⟩
def Tl (w:World) (ao:Option Addr) (k:Nat) (col:Nat->Int) (T:Nat->Nm):Prop :=
 ∀j,j<k->∃b o,ao=some ⟨b,o,none⟩/\C4 w b (o+j*4) (.int .i64 (col j)) (.bool (T j).s) (.slice (T j).x (T j).n (T j).c) (.slice (T j).y (T j).m (T j).d)/\NmR w (T j)
theorem Tl.q_ {w w' ao k col T} (h:Tl w ao k col T) (hb:Bl w w'):Tl w' ao k col T:=λj hj=>by
 obtain⟨b,o,e,h1,h2⟩:=h j hj;exact⟨b,o,e,h1.q_ hb,h2.q_ hb⟩
def tfr (col:Nat->Int) (T:Nat->Nm):Nat->Nat->Int->Bool
 | 0,_,_=>true
 | r+1,i,last=>decide (last<col i) && (nfB (T i) && (decide (0<(T i).n) && tfr col T r (i+1) (col i)))
def tfB (k:Nat) (col:Nat->Int) (T:Nat->Nm):Bool:=tfr col T k 0 (-1)
theorem znt (s:Bool) (x:Option Addr) (n c:Nat) (y:Option Addr) (m d:Nat) (w:World) (hn:n<=9223372036854775807) :
  Calls prog 118 #[agg #[.bool s,slice x n c,slice y m d]] w λe w'=>e=returned (.bool (decide (n=0)))/\Bl w w':=by
 have hd:((n:Int)==0)=decide (n=0):=by
  by_cases h:n=0
  ·subst h;rfl
  ·have:((n:Int)==0)=false:=by simp;omega
   rw[this];simp[h]
 go_enter func118,ntmps118;go_wp2;go_ret;refine⟨?_,zu (Below.refl _ _) _⟩;first
  | rfl
  | (simp[hd];done)
  | (rw[hd])
theorem zoG {w ao k cap col T} (h:Tl w ao k col T) (hk:k<=1048576) :
  Calls prog 87 #[slice ao k cap] w λe w'=>e=returned (.bool (tfB k col T))/\Bl w w':=by
 have H:=zk h;clear h;go_enter func87,ntmps87;go_wp2_with fail
 go_loopw[3,8] (λl t wr=>∃(i:Nat) (last:Int),i<=k/\t=.int .i64 i/\l=.int .i64 last/\Hid (Bl w wr)/\Hid (tfB k col T=tfr col T (k-i) i last)) (λ_ t _=>k-(intOf t).toNat)
 case atStart=>exact⟨0,-1,by omega,rfl,rfl,Below.refl _ _,rfl⟩
 case round =>
  obtain⟨i,last,hi,rfl,rfl,HB,HT⟩:=hrel;by_cases hlt:i<k
  ·obtain⟨b,o,rfl,hc,hn,hn1,hn2⟩:=(H.out.q_ HB.out) i hlt;obtain⟨r,hr⟩:∃r,k-i=r+1:=⟨k-i-1,by omega⟩;have hT:tfB k col T=(decide (last<col i) && (nfB (T i) && (decide (0<(T i).n) && tfr col T r (i+1) (col i)))):=by rw[HT.out,hr];rfl
   have hr2:k-(i+1)=r:=by omega
   obtain⟨⟨s,x,n,c,f,y,m,d,g⟩,hTi⟩:∃t,T i=t:=⟨_,rfl⟩;rw[hTi]at hc hn hn1 hn2 hT
   obtain⟨z,hz⟩:∃z,col i=z:=⟨_,rfl⟩;rw[hz]at hc hT
   obtain⟨x0,x1,x2,x3⟩:=hc;replace x0:wr.cell? ⟨b,o+i*4,none⟩=some (.int .i64 z):=x0;replace x1:wr.cell? ⟨b,o+i*4+1,none⟩=some (.bool s):=x1;replace x2:wr.cell? ⟨b,o+i*4+2,none⟩=some (slice x n c):=x2;replace x3:wr.cell? ⟨b,o+i*4+3,none⟩=some (slice y m d):=x3;replace hn:Rw wr x n c f y m d g:=hn;replace hn1:n<=65536:=hn1;replace hn2:m<=65536:=hn2;have hblk:Bl wr (wr.alloc (cells #[.int .i64 z,.bool s,slice x n c,slice y m d] 65)):=zu (Below.refl _ _) _;have CF:=zk (zdA (s:=s) (hn.q_ hblk) (by omega) (by omega));have HTi:=zk hT;have HZ:=zk hz;have HR2:=zk hr2
   have i1:((i:Nat):Int)<((k:Nat):Int):=by omega
   clear hT hz hr2 hTi hr hn hblk;by_cases hl:z<=last
   ·have hd:decide (last<z)=false:=by simp;omega
    have HD:=zk hd;clear hd;go_wp2;go_ret;refine⟨?_,?_⟩
    ·rw[HTi.out,HD.out];rfl
    ·exact zu HB.out _
   ·have hd:decide (last<z)=true:=by simp;omega
    have HD:=zk hd;clear hd;cases hf:rfB s f n g m
    ·have CF2:=CF;rw[hf]at CF2
     have HNF:Hid (nfB ⟨s,x,n,c,f,y,m,d,g⟩=false):=hf;clear CF hf;go_wp2_with fail
     refine CF2.out.mono ?_;rintro e w1 ⟨rfl,hb1⟩;obtain⟨_,_,_,_,_,hb2⟩:=zsD hb1;go_wp2;go_ret;refine⟨?_,bUp HB.out hb2⟩;rw[HTi.out,HD.out,HNF.out];rfl
    ·have CF2:=CF;rw[hf]at CF2
     have HNF:Hid (nfB ⟨s,x,n,c,f,y,m,d,g⟩=true):=hf;clear CF hf;go_wp2_with fail
     refine CF2.out.mono ?_;rintro e w1 ⟨rfl,hb1⟩;obtain⟨z0,y0,y1,y2,y3,hb2⟩:=zsD hb1;have HB1:=zJ HB hb2;clear hb1 hb2;go_wp2_with fail
     refine(znt s x n c y m d _ (by omega)).mono ?_;rintro e w2 ⟨rfl,hb3⟩;have v0:=kCb hb3 y0;have HB2:=zJ HB1 hb3;clear hb3;by_cases hn0:n=0
     ·subst hn0;go_wp2;go_ret;refine⟨?_,HB2.out⟩;rw[HTi.out,HD.out,HNF.out];rfl
     ·have hnd:decide (n=0)=false:=by simp[hn0]
      rw[hnd];have hnp:decide (0<n)=true:=by simp;omega
      have HNP:=zk hnp;clear hnd hnp;go_wp2;go_roundw
      case rel =>
       refine⟨i+1,z,by omega,by go_num,rfl,HB2.out,?_⟩;show _=_;rw[HTi.out,HD.out,HNF.out,HR2.out];simp only[HNP.out,Bool.true_and]
      case measure=>simp[intOf];omega
  ·have e1:i=k:=by omega
   have HTe:Hid (tfB k col T=true):=by
    show _=_;rw[HT.out,e1,Nat.sub_self];rfl
   have i2:¬(((i:Nat):Int)<((k:Nat):Int)):=by omega
   clear e1 HT;go_wp2;go_ret;refine⟨?_,HB.out⟩;rw[HTe.out];rfl
theorem zlu {Q Q' i j C x y t S H} (HV:vd (sh Q i) j+C*pd j=S+x*H) (hk:∀k,k<j->Q' (i+k)=Q (i+k)) (hq:Q' (i+j)=t%4294967296) (ht:t=C+(Q (i+j)+x*y)) :
  vd (sh Q' i) (j+1)+(t/4294967296)*pd (j+1)=(S+Q (i+j)*pd j)+x*(H+y*pd j):=by
 rw[zQ,zaw (f:=sh Q' i) (g:=sh Q i) (n:=j) (λk h=>hk k h),zau];have e1:sh Q' i j=t%4294967296:=hq;rw[e1];have e2:t%4294967296=t-4294967296*(t/4294967296):=by omega
 rw[e2,ht];generalize(C+(Q (i+j)+x*y))/4294967296=u
 grind
theorem zpn {Q0 Q Q' i m C x F H} (h0:vd Q0 (i+m)=F*H) (HV:vd (sh Q i) m+C*pd m=vd (sh Q0 i) m+x*H) (he:∀k,k<i->Q k=Q0 k) (hk:∀k,k<i+m->Q' k=Q k) (hc:Q' (i+m)=C) :
  vd Q' (i+m+1)=(F+x*pd i)*H:=by
 rw[zQ,hc,zaw (f:=Q') (g:=Q) (n:=i+m) hk,zaU,zaw (f:=Q) (g:=Q0) (n:=i) he,ziY];rw[zaU]at h0
 grind
theorem zoQ (ao bo:Option Addr) (n m ca cb:Nat) (f h:Nat->Int) (w:World) (hn:n<=1040000) (hm:m<=1040000) (hr:Rd .u64 w ao n f) (hs:Rd .u64 w bo m h) (hf:Dg f n) (hh:Dg h m) :
  Calls prog 84 #[slice ao n ca,slice bo m cb] w λe w'=>∃a1 k c1 q,e=returned (slice a1 k c1)/\Bl w w'/\k<=n+m/\Rd .u64 w' a1 k q/\Dg q k/\Fm q k/\vd q k=vd f n*vd h m:=by
 have HR:=zk hr;have HS:=zk hs;have HF:=zk hf;have HH:=zk hh
 clear hr hs hf hh;go_enter func84,ntmps84;go_wp2_with(at_make;refine zah .u64 w rfl (.tmp 15) (.tmp 15) 22 rfl 49 8 underlying22 zT .i64 .i64 ((n:Int)+(m:Int)) ((n:Int)+(m:Int)) (n+m) rfl rfl (by omega) (by omega) (by omega) (by unfold maxLen;omega) ?_;intro wa hba hbela)
 go_loopw[19] (λt wr=>∃(i:Nat) (Q:Nat->Int),i<=n/\t=.int .i64 i/\Bl w wr/\Blk .u64 49 wr w.heap.size (n+m) Q/\Hid (Dg Q (n+m))/\Hid (∀k,i+m<=k->k<n+m->Q k=0)/\Hid (vd Q (i+m)=vd f i*vd h m)) (λt _=>n-(intOf t).toNat)
 case atStart=>exact⟨0,λ_=>0,by omega,rfl,hbela,hba,λj _=>⟨Int.le_refl 0,show(0:Int)<4294967296 by decide⟩,λ_ _ _=>rfl,zk (by rw[zey (λ_ _=>rfl)];simp[vd])⟩
 case round =>
  clear hba hbela;obtain⟨i,Q0,hi,rfl,hbel,hbl,HL,HZ,HV⟩:=hrel;by_cases hlt:i<n
  ·have hr:=HR.out;obtain⟨b,o,rfl⟩:=hr.at (by omega);obtain⟨x,hx⟩:∃x,f i=x:=⟨_,rfl⟩;have hcell:wr.cell? ⟨b,o+i,none⟩=some (.int .u64 x):=by rw[<-hx];exact(hr.q_ hbel (le_refl _)).cell (by omega)
   obtain⟨x0,x1⟩:=HF.out i (by omega);rw[hx]at x0 x1
   have HX:=zk hx;have HBl:=zk hbl;have HBe:=zk hbel
   clear hx hr;go_wp2;go_loopw[8,26] (λc t wr=>∃(j:Nat) (C:Int) (Q:Nat->Int),j<=m/\t=.int .i64 j/\c=.int .u64 C/\0<=C/\C<4294967296/\Bl w wr/\Blk .u64 49 wr w.heap.size (n+m) Q/\Hid (Dg Q (n+m))/\Hid (∀k,k<i∨i+j<=k->Q k=Q0 k)/\Hid (vd (sh Q i) j+C*pd j=vd (sh Q0 i) j+x*vd h j)) (λ_ t _=>m-(intOf t).toNat)
   case atStart=>exact⟨0,0,Q0,by omega,rfl,rfl,by omega,by omega,HBe.out,HBl.out,HL.out,λ_ _=>rfl,zk (by simp[vd])⟩
   case round =>
    clear hbel hbl hcell;obtain⟨j,C,Q,hj,rfl,rfl,C0,C1,hbel,hbl,HD,HE,HW⟩:=hrel;by_cases hjm:j<m
    ·have hs:=HS.out;obtain⟨b',o',rfl⟩:=hs.at (by omega);obtain⟨y,hy⟩:∃y,h j=y:=⟨_,rfl⟩;obtain⟨z,hz⟩:∃z,Q (i+j)=z:=⟨_,rfl⟩;rename_i wq;have hcy:=(hs.q_ hbel (le_refl _)).cell (j:=j) (by omega);rw[hy]at hcy
     have hcz:=hbl.cell (j:=i+j) (by omega);rw[hz]at hcz
     have hfz:=hbl.frozen (i+j);obtain⟨y0,y1⟩:=HH.out j (by omega);rw[hy]at y0 y1
     obtain⟨z0,z1⟩:=HD.out (i+j) (by omega);rw[hz]at z0 z1
     have hxy0:0<=x*y:=Int.mul_nonneg x0 y0;have hxy1:x*y<=4294967295*4294967295:=Int.mul_le_mul (by omega) (by omega) y0 (by omega);obtain⟨P,hP⟩:∃P,x*y=P:=⟨_,rfl⟩;rw[hP]at hxy0 hxy1
     obtain⟨t,ht⟩:∃t,C+(z+P)=t:=⟨_,rfl⟩;have t0:0<=t:=by omega
     have t1:t<18446744073709551616:=by omega
     have ht2:t/4294967296<4294967296:=by omega
     have hst:=zlu (Q':=upd Q (i+j) (t%4294967296)) (t:=t) (y:=y) HW.out (λk hk=>zE _ _ _ _ (by omega)) (zac _ _ _) (by rw[hz,hP,ht]);have HSt:=zk hst;have HY:=zk hy;have HZz:=zk hz
     clear hst hy hz hs;go_wp2;go_roundw
     case rel =>
      refine⟨j+1,t/4294967296,upd Q (i+j) (t%4294967296),by omega,by go_num,?_,by omega,ht2,zV hbel ((Only.refl _ _).setCell _ _ _) (le_refl _) hbel.size,hbl.set _ _,HD.out.upd ⟨by omega,by omega⟩,λk hk=>?_,?_⟩
      ·first|rfl|(rw[ht])|go_num
      ·rw[zE _ _ _ _ (by omega)];exact HE.out k (by omega)
      ·have e1:vd (sh Q0 i) (j+1)=vd (sh Q0 i) j+Q (i+j)*pd j:=by rw[zQ,HE.out (i+j) (by omega)];rfl
       have e2:vd h (j+1)=vd h j+y*pd j:=by rw[zQ,HY.out]
       show vd _ _+_=_;rw[e1,e2];exact HSt.out
     case measure=>simp[intOf];omega
    ·have hjm':j=m:=by omega
     subst hjm';have hcm:=hbl.cell (j:=i+j) (by omega);have hfz:=hbl.frozen (i+j);have hrow:=zpn (Q':=upd Q (i+j) C) HV.out HW.out (λk hk=>HE.out k (.inl hk)) (λk hk=>zE _ _ _ _ (by omega)) (zac _ _ _);have HRow:=zk hrow;clear hrow;go_wp2;go_roundw
     case rel =>
      refine⟨i+1,upd Q (i+j) C,by omega,by go_num,zV hbel ((Only.refl _ _).setCell _ _ _) (le_refl _) hbel.size,hbl.set _ _,HD.out.upd ⟨C0,C1⟩,λk h1 h2=>?_,?_⟩
      ·rw[zE _ _ _ _ (by omega),HE.out k (.inr (by omega))];exact HZ.out k (by omega) h2
      ·show vd _ _=_;rw[show i+1+j=i+j+1 by omega,zQ f i,HX.out];exact HRow.out
     case measure=>simp[intOf];omega
  ·have hin:i=n:=by omega
   subst hin;go_wp2_with fail
   refine(zcD (some ⟨w.heap.size,0,none⟩) (i+m) (i+m) Q0 wr (le_refl _) (by omega) (hbl.rd0 (le_refl _)) (λh=>by cases h)).mono ?_;rintro e w2 ⟨rfl,k1,hk1,hz,hfm,rfl⟩;have HZ2:=zk hz;have HFM:=zk hfm
   clear hz hfm;go_wp2;go_ret;refine⟨_,k1,_,Q0,rfl,hbel,hk1,(hbl.rd0 (le_refl _)).take hk1,HL.out.mono hk1,HFM.out,?_⟩;rw[zaO hk1 HZ2.out];exact HV.out
structure Dn (w:World) (x:Option Addr) (n:Nat) (d:Nat->Int) (V:Nat):Prop where
 rd:Rd .u64 w x n d
 dg:Dg d n
 fm:Fm d n
 val:vd d n=V
theorem Dn.q_ {w w' x n d V} (h:Dn w x n d V) (hb:Bl w w'):Dn w' x n d V:=⟨h.rd.q_ hb (le_refl _),h.dg,h.fm,h.val⟩
theorem Dn.alloc {w x n d V} (h:Dn w x n d V) (o:Obj):Dn (w.alloc o) x n d V:=⟨h.rd.q_ ((Below.refl _ _).alloc (le_refl _) o) (le_refl _),h.dg,h.fm,h.val⟩
theorem Dn.drew {w x n d V} (h:Dn w x n d V):Dn w.drew x n d V:=⟨h.rd,h.dg,h.fm,h.val⟩
theorem Dn.pos {w x n d V} (h:Dn w x n d V) (hV:0<V):0<n:=by
 rcases Nat.eq_zero_or_pos n with h0|h0
 ·subst h0;have:(0:Int)=V:=h.val;omega
 ·exact h0
theorem Dn.zero {w x d V} (h:Dn w x 0 d V):V=0:=by have:(0:Int)=V:=h.val;omega
theorem Dn.pos' {w x n d V} (h:Dn w x n d V) (hn:0<n):0<V:=by
 have h1:=zcd h.dg h.fm hn;have h2:=zbI (n-1);rw[h.val]at h1
 omega
theorem zrF {w x n c d A y m e g B} (ha:Dn w x n d A) (hb:Dn w y m g B) (hn:n<=1040000) (hm:m<=1040000) :
  Calls prog 138 #[slice x n c,slice y m e] w λe w'=>∃z k c' q,e=returned (slice z k c')/\Bl w w'/\Hid (k<=n+m+1/\Dn w' z k q (A+B)) :=
 (zqZ x y n m c e d g w (by omega) (by omega) ha.rd hb.rd ha.dg hb.dg).mono (λ_ _ ⟨z,k,c',q,h1,h2,h3,h4,h5,h6,h7⟩=>⟨z,k,c',q,h1,h2,h4,h3,h5,h6,by rw[h7,ha.val,hb.val];omega⟩)
theorem znL {w x n c d A y m e g B} (ha:Dn w x n d A) (hb:Dn w y m g B) (hn:n<=1040000) (hm:m<=1040000) (hle:B<=A) :
  Calls prog 134 #[slice x n c,slice y m e] w λe w'=>∃z k c' q,e=returned (slice z k c')/\Bl w w'/\Hid (k<=n/\Dn w' z k q (A-B)) :=
 (zqS x y n m c e d g w (by omega) (by omega) (zdj hb.dg ha.dg hb.fm (by rw[ha.val,hb.val];omega)) ha.rd hb.rd ha.dg hb.dg (by rw[ha.val,hb.val];omega)).mono (λ_ _ ⟨z,k,c',q,h1,h2,h3,h4,h5,h6,h7⟩=>⟨z,k,c',q,h1,h2,h4,h3,h5,h6,by rw[h7,ha.val,hb.val];omega⟩)
theorem zfA {w x n c d A y m e g B} (ha:Dn w x n d A) (hb:Dn w y m g B) (hn:n<=1040000) (hm:m<=1040000) :
  Calls prog 84 #[slice x n c,slice y m e] w λe w'=>∃z k c' q,e=returned (slice z k c')/\Bl w w'/\Hid (k<=n+m/\Dn w' z k q (A*B)) :=
 (zoQ x y n m c e d g w hn hm ha.rd hb.rd ha.dg hb.dg).mono (λ_ _ ⟨z,k,c',q,h1,h2,h3,h4,h5,h6,h7⟩=>⟨z,k,c',q,h1,h2,h3,h4,h5,h6,by rw[h7,ha.val,hb.val];simp⟩)
theorem zjV {w x n c d V} (h:Dn w x n d V) (hn:n<=2) :
  Calls prog 114 #[slice x n c] w λe w'=>e=returned (.int .u64 V)/\w'=w:=by
 have H:=zk h;clear h;go_enter func114,ntmps114;go_wp2
 go_loop [3,4] (λt u=>∃(k:Nat) (z:Int),k<=n/\z=(k:Int)-1/\u=.int .i64 z/\∃X:Int,t=.int .u64 X/\Hid (X=vd (sh d k) (n-k))) (λ_ u=>(intOf u+1).toNat)
 case atStart=>exact⟨n,(n:Int)-1,by omega,rfl,rfl,0,rfl,by rw[Nat.sub_self];rfl⟩
 case round =>
  obtain⟨k,z,hk,hz,rfl,X,rfl,HX⟩:=hrel;rcases Nat.eq_zero_or_pos k with h0|h0
  ·subst h0;have hz':z<0:=by omega
   have hd:decide ((0:Int)<=z)=false:=by simp;omega
   go_wp2;go_ret;refine⟨?_,rfl⟩;have h1:vd (sh d 0) (n-0)=vd d n:=by
    have:sh d 0=d:=by funext j;simp[sh]
    rw[this];rfl
   have:X=V:=by rw[HX.out,h1,H.out.val]
   rw[this];rfl
  ·obtain⟨j,rfl⟩:∃j,k=j+1:=⟨k-1,by omega⟩;have hz':z=(j:Int):=by omega
   subst hz';have hr:=H.out.rd;obtain⟨b,o,rfl⟩:=hr.at (by omega);obtain⟨y,hy⟩:∃y,d j=y:=⟨_,rfl⟩;have hcell:w.cell? ⟨b,o+j,none⟩=some (.int .u64 y):=by rw[<-hy];exact hr.cell (by omega)
   obtain⟨y0,y1⟩:=H.out.dg j (by omega);rw[hy]at y0 y1
   have hX:0<=X/\X<4294967296:=by
    rw[HX.out];rcases(show n-(j+1)=0∨n-(j+1)=1 by omega)with e|e
    ·rw[e];simp[vd]
    ·rw[e];have e1:vd (sh d (j+1)) 1=d (j+1):=by simp[vd,pd,sh]
     rw[e1];exact H.out.dg (j+1) (by omega)
   obtain⟨X0,X1⟩:=hX;have hs:X*4294967296+y=vd (sh d j) (n-j):=by
    rw[show n-j=(n-(j+1))+1 by omega,zez,hy,HX.out];omega
   have HS:=zk hs;clear hs hy hr hz;go_wp2
   go_round
   case rel=>exact⟨j,(j:Int)-1,by omega,rfl,rfl,X*4294967296+y,rfl,HS.out⟩
   case measure=>simp[intOf]
theorem zlX (s:Bool) (ao:Option Addr) (n cap:Nat) (w:World) (hm:n<=9223372036854775807) :
  Calls prog 83 #[.bool s,slice ao n cap] w λe w'=>∃r,e=returned (agg #[.bool r,slice ao n cap])/\Hid (r=(s && decide (0<n)))/\Bl w w':=by
 have key:∀u,Bl w (w.alloc u):=λu=>zB w u
 cases s
 ·go_enter func83,ntmps83;go_wp2;exact bodyPost_ret (v:=agg #[.bool false,slice ao n cap]) (by simp[results,results83,go_sem]) rfl ⟨false,rfl,rfl,key _⟩
 ·by_cases hn0:0<n
  ·have hni:decide ((0:Int)<(n:Int))=true:=by simp;omega
   have hdn:decide (0<n)=true:=by simp;omega
   rw[hdn];clear hdn;go_enter func83,ntmps83;go_wp2;exact bodyPost_ret (v:=agg #[.bool true,slice ao n cap]) (by simp[results,results83,go_sem]) rfl ⟨true,rfl,rfl,key _⟩
  ·have hni:decide ((0:Int)<(n:Int))=false:=by simp;omega
   have hdn:decide (0<n)=false:=by simp;omega
   rw[hdn];clear hdn;go_enter func83,ntmps83;go_wp2;exact bodyPost_ret (v:=agg #[.bool false,slice ao n cap]) (by simp[results,results83,go_sem]) rfl ⟨false,rfl,rfl,key _⟩
structure Ob (w:World) (B:Nat):Prop where
 z:B<w.heap.size
 z0:w.cell? ⟨B,0,none⟩=some (.bool false)
 z1:w.cell? ⟨B,1,none⟩=some (slice none 0 0)
 z2:w.cell? ⟨B,2,none⟩=some (slice none 0 0)
 zf:∀o,w.frozen? ⟨B,o,none⟩=false
theorem Ob.q_ {w w' B} (h:Ob w B) (hb:Bl w w'):Ob w' B:=by
 obtain⟨h1,h2⟩:=zaH hb;exact⟨Nat.lt_of_lt_of_le h.z hb.size,kCb hb h.z0,kCb hb h.z1,kCb hb h.z2,λo=>(h2 _ _ h.z).trans (h.zf o)⟩
theorem kOb {w w' B} (hb:Bl w w') (h:Ob w B):Ob w' B:=h.q_ hb
theorem kDb {w w' x n d V} (hb:Bl w w') (h:Dn w x n d V):Dn w' x n d V:=h.q_ hb
theorem Ob.alloc {w B} (h:Ob w B) (o:Obj):Ob (w.alloc o) B:=h.q_ (zu (Below.refl _ _) o)
theorem Ob.next {w w' B o} (h:Ob w B) (hb:Below (w.alloc o).heap.size (w.alloc o) w'):Ob w' B:=(h.alloc o).q_ hb
theorem Ob.drew {w B} (h:Ob w B):Ob w.drew B:=⟨h.z,h.z0,h.z1,h.z2,h.zf⟩
theorem Ob.drewN {w B} (h:Ob w B) (q:Nat):Ob (w.drewN q) B:=⟨h.z,h.z0,h.z1,h.z2,h.zf⟩
theorem zaz (w:World) (t:TypeId):Ob (w.alloc (cells #[.bool false,slice none 0 0,slice none 0 0] t)) w.heap.size:=by
 refine⟨by simp,by simp[go_sem],by simp[go_sem],by simp[go_sem],λo=>?_⟩;have e:=heap_alloc_new w (cells #[.bool false,slice none 0 0,slice none 0 0] t);simp only[World.frozen?,e];simp
theorem zay {w p v u x n f} (hp:w.cell? p=some v) (hv:∀i,v≠.int .u64 i) (h:Rd .u64 w x n f):Rd .u64 (w.setCell p u) x n f:=by
 intro j hj;obtain⟨b,o,hx,hc⟩:=h j hj;refine⟨b,o,hx,?_⟩;rw[World.cell?_setCell_other _ _ _ _ (λhe=>hv _ (Option.some.inj (hp.symm.trans (he ▸ hc))))];exact hc
theorem Ob.rd {w B u0 u1 u2 x n f} (h:Ob w B) (hx:Rd .u64 w x n f):Rd .u64 (((w.setCell ⟨B,0,none⟩ u0).setCell ⟨B,1,none⟩ u1).setCell ⟨B,2,none⟩ u2) x n f :=
 zay (cell_off (by decide) (cell_off (by decide) h.z2)) (λi h=>by cases h) (zay (cell_off (by decide) h.z1) (λi h=>by cases h) (zay h.z0 (λi h=>by cases h) hx))
theorem Ob.wn {w B u0 u1 u2 s x n c f v} (h:Ob w B) (hx:Wn w s x n c f v):Wn (((w.setCell ⟨B,0,none⟩ u0).setCell ⟨B,1,none⟩ u1).setCell ⟨B,2,none⟩ u2) s x n c f v:=⟨h.rd hx.rd,hx.lm,hx.wf,hx.cap,hx.nil,hx.val⟩
theorem Ob.dn {w B u0 u1 u2 x n d V} (h:Ob w B) (hx:Dn w x n d V):Dn (((w.setCell ⟨B,0,none⟩ u0).setCell ⟨B,1,none⟩ u1).setCell ⟨B,2,none⟩ u2) x n d V:=⟨h.rd hx.rd,hx.dg,hx.fm,hx.val⟩
theorem Ob.rn {w B u0 u1 u2 L s x n c f y m d g q} (h:Ob w B) (hx:Rn L w s x n c f y m d g q):Rn L (((w.setCell ⟨B,0,none⟩ u0).setCell ⟨B,1,none⟩ u1).setCell ⟨B,2,none⟩ u2) s x n c f y m d g q:=⟨h.wn hx.num,h.wn hx.den,hx.ln,hx.ld⟩
theorem zU {w0 w B u0 u1 u2} (hw:Bl w0 w) (hB:w0.heap.size<=B) :
  Bl w0 (((w.setCell ⟨B,0,none⟩ u0).setCell ⟨B,1,none⟩ u1).setCell ⟨B,2,none⟩ u2) :=
 zL hw hw.size ((((Turned.refl w0.heap.size (B+1) w).set (x:=⟨B,0,none⟩) hB (by simp) _).set (x:=⟨B,1,none⟩) hB (by simp) _).set (x:=⟨B,2,none⟩) hB (by simp) _) (le_refl _)
theorem zsz {w x n d V} (h:Dn w x n d V) (hn:n<=2):V<18446744073709551616:=by
 have h1:=zcr h.dg;rw[h.val]at h1
 rcases(show n=0∨n=1∨n=2 by omega)with rfl|rfl|rfl <;> simp[pd]at h1 <;> omega
theorem zlw {w s x n c d y m e g A B} (ha:Dn w x n d A) (hb:Dn w y m g B) (h0:0<A) (hn:n<=2) (hm:m<=2) (hB:0<B) :
  Calls prog 82 #[agg #[.bool s,slice x n c],slice y m e] w λen w'=>∃r z k c' d' z2 k2 c2 d2,en=returned (agg #[.bool r,slice z k c',slice z2 k2 c2])/\Bl w w'/\k<=2/\k2<=2/\r=(s && decide (0<k))/\Dn w' z k d' (A/A.gcd B)/\Dn w' z2 k2 d2 (B/A.gcd B):=by
 have hA64:=zsz ha hn;have hB64:=zsz hb hm
 have hnp:0<n:=by
  rcases Nat.eq_zero_or_pos n with h|h
  ·subst h;have:(0:Int)=A:=ha.val;omega
  ·exact h
 have h1:=(ha.alloc (cells #[.bool s,slice x n c] 71)).alloc (cells #[.bool false,slice none 0 0,slice none 0 0] 73);have h2:=(hb.alloc (cells #[.bool s,slice x n c] 71)).alloc (cells #[.bool false,slice none 0 0,slice none 0 0] 73);have h3:=zaz (w.alloc (cells #[.bool s,slice x n c] 71)) 73;rw[zw]at h3
 have h4:=zu (zB w (cells #[.bool s,slice x n c] 71)) (cells #[.bool false,slice none 0 0,slice none 0 0] 73);have h5:(((w.alloc (cells #[.bool s,slice x n c] 71)).alloc (cells #[.bool false,slice none 0 0,slice none 0 0] 73)).cell? ⟨w.heap.size,0,none⟩=some (.bool s)):=by simp[go_sem]
 clear ha hb;have hn0:((n:Int)==0)=false:=by simp;omega
 have hn2:decide ((n:Int)<=2)=true:=by simp;omega
 have hm2:decide ((m:Int)<=2)=true:=by simp;omega
 go_enter func82,ntmps82;go_wp2_with fail
 generalize(w.alloc (cells #[.bool s,slice x n c] 71)).alloc (cells #[.bool false,slice none 0 0,slice none 0 0] 73)=w1 at *;have HA:=zk h1;have HB:=zk h2;have OB:=zk h3;have HW:=zk h4
 obtain⟨hz,z0,z1,z2,zf⟩:=h3;clear h1 h2 h4;refine(zjV HA.out hn).mono ?_;rintro en w2 ⟨rfl,rfl⟩;go_wp2_with fail
 refine(zjV HB.out hm).mono ?_;rintro en w3 ⟨rfl,rfl⟩;go_wp2;go_loopw[7,8] (λt u wr=>∃(G R q:Nat),t=.int .u64 G/\u=.int .u64 R/\wr=w3.drewN q/\0<G/\G<18446744073709551616/\R<18446744073709551616/\Hid (G.gcd R=A.gcd B)) (λ_ u _=>(intOf u).toNat)
 case atStart=>exact⟨A,B,0,rfl,rfl,rfl,h0,hA64,hB64,rfl⟩
 case round =>
  obtain⟨G,R,q,rfl,rfl,rfl,hG0,hG64,hR64,HG⟩:=hrel;by_cases hR:0<R
  ·have hd:decide ((0:Int)<(R:Int))=true:=by simp;omega
   have hne:((R:Int)==0)=false:=by simp;omega
   have hne':(R:Int)≠0:=by omega
   go_wp2
   go_quiet (fail)
   go_wp2;go_roundw
   case rel=>exact⟨R,G%R,_,rfl,by simp,by (repeat rw[World.drewN_drewN]) <;> rfl,hR,hR64,by have:=Nat.mod_lt G hR;omega,zk (by rw[Nat.gcd_comm,<-Nat.gcd_rec,Nat.gcd_comm];exact HG.out)⟩
   case measure=>have:=Nat.mod_lt G hR;simp only[intOf];omega
  ·have hd:decide ((0:Int)<(R:Int))=false:=by simp;omega
   have hR0:R=0:=by omega
   subst hR0;have hg:G=A.gcd B:=by have:=HG.out;rw[Nat.gcd_zero_right]at this;exact this
   go_wp2;have hwq:Bl w (w3.drewN q):=zH HW.out q;have OQ:=OB.out.drewN q;have hcq:(w3.drewN q).cell? ⟨w.heap.size,0,none⟩=some (.bool s):=h5;have hGi:(G:Int)≠0:=by omega
   have hGi':((G:Int)==0)=false:=by simp;omega
   have hGp:(0:Int)<(G:Int):=by omega
   have hGm:(G:Int)<18446744073709551616:=by omega
   have hA0:(0:Int)<=(A:Int):=by omega
   have hAm:(A:Int)<18446744073709551616:=by omega
   have hB0:(0:Int)<=(B:Int):=by omega
   have hBm:(B:Int)<18446744073709551616:=by omega
   obtain⟨QA,hqa⟩:∃q:Int,(A:Int)/(G:Int)=q:=⟨_,rfl⟩;obtain⟨QB,hqb⟩:∃q:Int,(B:Int)/(G:Int)=q:=⟨_,rfl⟩;have hQA0:0<=QA:=by rw[<-hqa];exact Int.ediv_nonneg hA0 (by omega)
   have hQB0:0<=QB:=by rw[<-hqb];exact Int.ediv_nonneg hB0 (by omega)
   have hQA1:QA<18446744073709551616:=by have:=Int.ediv_le_self (b:=(G:Int)) hA0;omega
   have hQB1:QB<18446744073709551616:=by have:=Int.ediv_le_self (b:=(G:Int)) hB0;omega
   have HqA:Hid (QA=((A/G:Nat):Int)):=zk (by rw[<-hqa];exact(Int.natCast_ediv _ _).symm);have HqB:Hid (QB=((B/G:Nat):Int)):=zk (by rw[<-hqb];exact(Int.natCast_ediv _ _).symm);have HG2:=zk hg;clear hg;clear HG hz z0 z1 z2 zf OB h5;generalize w3.drewN q=w4 at *;clear hG64 hA64 hB64 hR64 hd hG0;generalize hgi:(G:Int)=Gi at *;generalize hai:(A:Int)=Ai at *;generalize hbi:(B:Int)=Bi at *;have HgI:=zk hgi;have HaI:=zk hai;have HbI:=zk hbi
   have hGn:¬(Gi=0):=hGi;clear hgi hai hbi hGi;have hwa:IntKind.u64.wrap (Ai.tdiv Gi)=QA:=by rw[Int.tdiv_eq_ediv_of_nonneg hA0,hqa,IntKind.wrap_u64];omega
   have hwb:IntKind.u64.wrap (Bi.tdiv Gi)=QB:=by rw[Int.tdiv_eq_ediv_of_nonneg hB0,hqb,IntKind.wrap_u64];omega
   clear hqa hqb;obtain⟨hz,z0,z1,z2,zf⟩:=id OQ;have C1:Hid (∀W,Bl w4 W->Calls prog 54 #[.int .u64 QA] W λe w'=>∃z k cap d,e=returned (slice z k cap)/\Bl W w'/\Hid (k<=2/\Dn w' z k d (A/G))):=λW hW=>by
    exact(zew QA W hQA0 hQA1).mono (λe w' ⟨k,cap,h1,h2,h3,h4,h5,h6,h7⟩=>⟨_,k,cap,_,h1,h2,h3,h4,h5,h6,h7.trans HqA.out⟩)
   have C2:Hid (∀W,Bl w4 W->Calls prog 54 #[.int .u64 QB] W λe w'=>∃z k cap d,e=returned (slice z k cap)/\Bl W w'/\Hid (k<=2/\Dn w' z k d (B/G))):=λW hW=>by
    exact(zew QB W hQB0 hQB1).mono (λe w' ⟨k,cap,h1,h2,h3,h4,h5,h6,h7⟩=>⟨_,k,cap,_,h1,h2,h3,h4,h5,h6,h7.trans HqB.out⟩)
   have C3:Hid (∀(W:World) (z:Option Addr) (k cap:Nat),k<=2->Calls prog 83 #[.bool s,slice z k cap] W λe w'=>∃r,e=returned (agg #[.bool r,slice z k cap])/\Bl W w'/\Hid (r=(s && decide (0<k)))):=λW z k cap hk=>(zlX s z k cap W (by omega)).mono (λe w' ⟨r,h1,h2,h3⟩=>⟨r,h1,h3,h2⟩)
   go_region_held3 (λw'=>w'.cell? ⟨w.heap.size,0,none⟩=some (.bool s)/\(w'.cell? ⟨w.heap.size+1,0,none⟩).isSome=true/\(w'.cell? ⟨w.heap.size+1,1,none⟩).isSome=true/\(w'.cell? ⟨w.heap.size+1,2,none⟩).isSome=true/\w'.frozen? ⟨w.heap.size+1,0,none⟩=false/\w'.frozen? ⟨w.heap.size+1,1,none⟩=false/\w'.frozen? ⟨w.heap.size+1,2,none⟩=false)
    (refine⟨?_,?_,?_,?_,?_,?_,?_⟩ <;> repeat(with_reducible first|assumption|exact zf _|exact tf _|exact uf _|exact vf' _|exact kI0 z0|exact kI0 z1|exact kI0 z2|exact kI0 t0|exact kI0 t1|exact kI0 t2|exact kI0 u0|exact kI0 u1|exact kI0 u2|exact kI0 v0|exact kI0 v1|exact kI0 v2|refine kCd ?_|refine kId ?_|refine kFd ?_|refine kCs (by simp only[ne_eq];omega) ?_|refine kIs ?_|refine kFs ?_|refine kCb (by assumption) ?_|refine kIb (by assumption) ?_))
    (first
     | (go_at_call 54;with_reducible refine(C1.out _ zai).mono ?_;rintro e w5 ⟨za,ka,ca,da,rfl,hb5,HP⟩;have hka:ka<=2:=HP.out.1;have TU:Ob w5 (w.heap.size+1):=(by repeat(with_reducible first|exact OQ|exact TU|exact TV|exact TW|refine Ob.drew ?_|refine kOb (by assumption) ?_));obtain⟨_,t0,t1,t2,tf⟩:=id TU)
     | (go_at_call 83;with_reducible refine(C3.out _ za ka ca hka).mono ?_;rintro e w6 ⟨r,rfl,hb6,HR⟩;have TV:Ob w6 (w.heap.size+1):=(by repeat(with_reducible first|exact OQ|exact TU|exact TV|exact TW|refine Ob.drew ?_|refine kOb (by assumption) ?_));obtain⟨_,u0,u1,u2,uf⟩:=id TV)
     | (go_at_call 54;with_reducible refine(C2.out _ zai).mono ?_;rintro e w7 ⟨zb,kb,cb,db,rfl,hb7,HQ⟩;have hkb:kb<=2:=HQ.out.1;have TW:Ob w7 (w.heap.size+1):=(by repeat(with_reducible first|exact OQ|exact TU|exact TV|exact TW|refine Ob.drew ?_|refine kOb (by assumption) ?_));obtain⟨_,v0,v1,v2,vf'⟩:=id TW))
   have hb:Bl w4 w7:=zai;have DA:=HP.out.2;have DB:=HQ.out.2
   have DA7:Dn w7 za ka da (A/G):=(by repeat(with_reducible first|exact DA|refine Dn.drew ?_|refine kDb (by first|exact hb6|exact hb7) ?_));go_wp2;refine bodyPost_ret (v:=agg #[.bool r,slice za ka ca,slice zb kb cb]) (by simp[results,results82,go_sem,v0,v1,v2]) rfl ⟨r,za,ka,ca,da,zb,kb,cb,db,rfl,zU (bUp hwq hb) (by omega),hka,hkb,HR.out,?_,?_⟩
   ·rw[<-HG2.out];exact TW.dn DA7
   ·rw[<-HG2.out];exact TW.dn DB
theorem Tg.set {w x} (h:Tg w x) (p:Addr) (u:Value):Tg (w.setCell p u) x:=λa ha=>by
 obtain⟨arr,fr,hh⟩:=h a ha;by_cases e:a.block=p.block
 ·refine⟨if p.spot.isSome then arr else arr.setIfInBounds p.off u,fr,?_⟩;rw[e]at hh ⊢
  simp[World.setCell,Array.getElem?_modify,hh]
 ·exact⟨arr,fr,(Below.heap_setCell w p u a.block e).trans hh⟩
theorem zmY {w base x n c f} {V:Nat} (h:Own .u64 49 w base (slice x n c) n f) (hl:Lm f n) (hf:Fm f n) (hv:vf f n=V):Wn w false x n c f (V:Int):=by
 obtain⟨h1,h2,h3,h4,_⟩:=h.slice;exact⟨h4,hl,(wfB_iff _ _ _).2 ⟨hf,λh=>by cases h⟩,⟨h1,h2⟩,h3,hv⟩
theorem zmo {w x n c d V} (h:Dn w x n d V) (hn:n<=1048576) :
  Calls prog 52 #[slice x n c] w λe w'=>∃z k c' f,e=returned (slice z k c')/\Bl w w'/\Hid (k<=n/\Wn w' false z k c' f (V:Int)/\Tg w' z) :=
 (zjP x n c d w hn h.rd h.dg h.fm).mono (λ_ _ ⟨z,k,c',f,h1,h2,h3,_,h4,h5,h6,h7⟩=>⟨z,k,c',f,h1,h3,h4,zmY h2 h5 h6 (h7.trans h.val),h2.tg⟩)
theorem zsj {w r x n c d y m e g A B} (ha:Dn w x n d A) (hb:Dn w y m g B) (hn:n<=200000) (hm:m<=200000) :
  Calls prog 26 #[agg #[.bool r,slice x n c,slice y m e]] w λen w'=>∃z k c' f z2 k2 c2 f2,en=returned (agg #[.bool r,slice z k c',slice z2 k2 c2])/\Bl w w'/\k<=n/\k2<=m/\Wn w' false z k c' f (A:Int)/\Wn w' false z2 k2 c2 f2 (B:Int)/\Tg w' z/\Tg w' z2:=by
 have h1:=(ha.alloc (cells #[.bool r,slice x n c,slice y m e] 73)).alloc (cells #[.bool false,slice none 0 0,slice none 0 0] 24);have h2:=(hb.alloc (cells #[.bool r,slice x n c,slice y m e] 73)).alloc (cells #[.bool false,slice none 0 0,slice none 0 0] 24);have h3:=zaz (w.alloc (cells #[.bool r,slice x n c,slice y m e] 73)) 24;rw[zw]at h3
 have h4:=zu (zB w (cells #[.bool r,slice x n c,slice y m e] 73)) (cells #[.bool false,slice none 0 0,slice none 0 0] 24);have h5:=(zbr w (.bool r) (slice x n c) (slice y m e) 73).alloc (cells #[.bool false,slice none 0 0,slice none 0 0] 24);clear ha hb;go_enter func26,ntmps26;go_wp2_with fail
 generalize(w.alloc (cells #[.bool r,slice x n c,slice y m e] 73)).alloc (cells #[.bool false,slice none 0 0,slice none 0 0] 24)=w1 at *;have HA:=zk h1;have HB:=zk h2;have OB:=h3;have HW:=zk h4
 obtain⟨hz,z0,z1,z2,zf⟩:=h3;obtain⟨hy,x0,x1,x2⟩:=h5;clear h1 h2 h4;have C1:Hid (∀W,Bl w1 W->Calls prog 52 #[slice x n c] W λe w'=>∃z k c' f,e=returned (slice z k c')/\Bl W w'/\Hid (k<=n/\Wn w' false z k c' f (A:Int)/\Tg w' z)):=λW hW=>zmo (HA.out.q_ hW) (by omega)
 have C2:Hid (∀W,Bl w1 W->Calls prog 52 #[slice y m e] W λe w'=>∃z k c' f,e=returned (slice z k c')/\Bl W w'/\Hid (k<=m/\Wn w' false z k c' f (B:Int)/\Tg w' z)):=λW hW=>zmo (HB.out.q_ hW) (by omega)
 go_region_held3 (λw'=>w'.cell? ⟨w.heap.size,0,none⟩=some (.bool r)/\w'.cell? ⟨w.heap.size,1,none⟩=some (slice x n c)/\w'.cell? ⟨w.heap.size,2,none⟩=some (slice y m e)/\(w'.cell? ⟨w.heap.size+1,0,none⟩).isSome=true/\(w'.cell? ⟨w.heap.size+1,1,none⟩).isSome=true/\(w'.cell? ⟨w.heap.size+1,2,none⟩).isSome=true/\w'.frozen? ⟨w.heap.size+1,0,none⟩=false/\w'.frozen? ⟨w.heap.size+1,1,none⟩=false/\w'.frozen? ⟨w.heap.size+1,2,none⟩=false)
  (refine⟨?_,?_,?_,?_,?_,?_,?_,?_,?_⟩ <;> repeat(with_reducible first|assumption|exact zf _|exact kI0 z0|exact kI0 z1|exact kI0 z2|exact tf _|exact kI0 t0|exact kI0 t1|exact kI0 t2|exact uf _|exact kI0 u0|exact kI0 u1|exact kI0 u2|refine kCd ?_|refine kId ?_|refine kFd ?_|refine kCs (by simp only[ne_eq];omega) ?_|refine kIs ?_|refine kFs ?_|refine kCb (by assumption) ?_|refine kIb (by assumption) ?_))
  (first
   | (go_at_call 52;with_reducible refine(C1.out _ zai).mono ?_;rintro e w5 ⟨za,ka,ca,fa,rfl,hb5,HP⟩;have TU:Ob w5 (w.heap.size+1):=(by repeat(with_reducible first|exact OB|exact hO2|exact TU|exact TV|exact TW|exact TX|exact TY|refine Ob.drew ?_|refine kOb (by assumption) ?_));obtain⟨_,t0,t1,t2,tf⟩:=id TU)
   | (go_at_call 52;with_reducible refine(C2.out _ zai).mono ?_;rintro e w6 ⟨zb,kb,cb,fb,rfl,hb6,HQ⟩;have TV:Ob w6 (w.heap.size+1):=(by repeat(with_reducible first|exact OB|exact hO2|exact TU|exact TV|exact TW|exact TX|exact TY|refine Ob.drew ?_|refine kOb (by assumption) ?_));obtain⟨_,u0,u1,u2,uf⟩:=id TV))
 have WA:Wn w6 false za ka ca fa (A:Int):=HP.out.2.1.q_ hb6;have hb:Bl w1 w6:=zai;go_wp2;exact bodyPost_ret (v:=agg #[.bool r,slice za ka ca,slice zb kb cb]) (by simp[results,results26,go_sem,u0,u1,u2]) rfl ⟨za,ka,ca,fa,zb,kb,cb,fb,rfl,zU (bUp HW.out hb) (by omega),HP.out.1,HQ.out.1,TV.wn WA,TV.wn HQ.out.2.1,((((HP.out.2.2.q_ hb6).set _ _).set _ _).set _ _),(((HQ.out.2.2.set _ _).set _ _).set _ _)⟩
theorem kM0 {w:World} {g x y t} (h:g=w.heap.size):(w.alloc (cells #[x,y] t)).cell? ⟨g,0,none⟩=some x:=by subst h;exact kN0
theorem kM1 {w:World} {g x y t} (h:g=w.heap.size):(w.alloc (cells #[x,y] t)).cell? ⟨g,1,none⟩=some y:=by subst h;exact kN1
theorem kCe {w:World} {a v} (h:(w.cell? a).isSome=true):(w.setCell a v).cell? a=some v:=World.cell?_setCell_same' w a v h
theorem kCo {w:World} {b i j u v} (hij:i≠j) (h:w.cell? ⟨b,j,none⟩=some u):(w.setCell ⟨b,i,none⟩ v).cell? ⟨b,j,none⟩=some u:=by
 rw[World.cell?_setCell_other _ _ _ _ (λhe=>hij (congrArg Addr.off he))];exact h
structure Ob2 (w:World) (B:Nat):Prop where
 z:B<w.heap.size
 z0:w.cell? ⟨B,0,none⟩=some (.bool false)
 z1:w.cell? ⟨B,1,none⟩=some (slice none 0 0)
 zf:∀o,w.frozen? ⟨B,o,none⟩=false
theorem Ob2.q_ {w w' B} (h:Ob2 w B) (hb:Bl w w'):Ob2 w' B:=by
 obtain⟨h1,h2⟩:=zaH hb;exact⟨Nat.lt_of_lt_of_le h.z hb.size,kCb hb h.z0,kCb hb h.z1,λo=>(h2 _ _ h.z).trans (h.zf o)⟩
theorem zkl (w:World) (t:TypeId):Ob2 (w.alloc (cells #[.bool false,slice none 0 0] t)) w.heap.size:=by
 refine⟨by simp,by simp[go_sem],by simp[go_sem],λo=>?_⟩;have e:=heap_alloc_new w (cells #[.bool false,slice none 0 0] t);simp only[World.frozen?,e];simp
theorem zcb {w0 w B u0 u1} (hw:Bl w0 w) (hB:w0.heap.size<=B) :
  Bl w0 ((w.setCell ⟨B,0,none⟩ u0).setCell ⟨B,1,none⟩ u1) :=
 zL hw hw.size (((Turned.refl w0.heap.size (B+1) w).set (x:=⟨B,0,none⟩) hB (by simp) _).set (x:=⟨B,1,none⟩) hB (by simp) _) (le_refl _)
structure zrN (L:Nat) (w1 wx:World) (b4:Nat) (s:Bool) (z:Option Addr) (k c:Nat) (v:Int):Prop where
 bx:Bx wx b4 s z k c
 bel:Bl w1 wx
 wn:∃f,Wn wx s z k c f v
 le:k<=L+2
theorem zmH (ao:Option Addr) (n cap:Nat) (f:Nat->Int) (w:World) (hn:n<=1048576) (hr:Rd .u64 w ao n f) (hnil:ao=none->n=0/\cap=0) :
  Calls prog 94 #[slice ao n cap] w λe w'=>∃ao' cap',e=returned (slice ao' n cap')/\Bl w w'/\Own .u64 49 w' w.heap.size (slice ao' n cap') n f:=by
 cases ao with
 | none =>
  obtain⟨rfl,rfl⟩:=hnil rfl;go_enter func94,ntmps94;obtain⟨i0,hi,hz0,hz1,hz2⟩:=info_parts zT;go_wp2_with(at_builtin;refine wpList_append_own_none rfl (.const (slice none 0 0)) (.tmp 3) 22 rfl w.heap.size 49 i0 1 underlying22 hi (slice none 0 0) 0 [] rfl (World.ownsRow_nil _ _ _ _) rfl ?_)
  go_ret;exact⟨none,0,rfl,Below.refl _ _,zdG _ _ _ _ _⟩
 | some ad =>
  clear hnil;have HR:=zk hr;clear hr;go_enter func94,ntmps94;obtain⟨i0,hi,hz0,hz1,hz2⟩:=info_parts zT;go_wp2_with(at_builtin;refine wpList_append_own w rfl (.const (slice none 0 0)) (.tmp 3) 22 rfl w.heap.size 49 i0 (.int .u64 0) 1 8 underlying22 hi hz0 hz1 hz2 rfl (by decide) (slice none 0 0) 0 [] rfl (World.ownsRow_nil _ _ _ _) ad n cap (lst .u64 f n) rfl (by rw[zS,Nat.mul_one]) ?c1 (zeN _ _ _) ?c2 ?c3 (le_refl _) ?_)
  case c1 =>
   intro j u hu;obtain⟨hj,rfl⟩:=zcC hu;obtain⟨b,o,e,hc⟩:=HR.out j hj;cases e
   rw[addr_add];exact hc
  case c2=>unfold maxLen;omega
  case c3=>omega
  intro v' w' hown hgr _;have hown':Own .u64 49 w' w.heap.size v' n f:=hown;have hbel:Bl w w':=(Below.refl _ _).grown hgr (le_refl _) (λk h=>by simp[Value.ownBlock]at h);obtain⟨ao',cap',hv,hcc,hnn,hml,hrd,hlt⟩:=hown'.shape;rw[hv]at hown' ⊢
  clear hown hgr hv;have HO:=zk hown';clear hown';go_wp2;go_ret;exact⟨ao',cap',rfl,hbel,HO.out⟩
theorem zgg {w s x n c f v} (h:Wn w s x n c f v) (hn:n<=1048576) :
  Calls prog 94 #[slice x n c] w λe w'=>∃z c',e=returned (slice z n c')/\Bl w w'/\Hid (Wn w' s z n c' f v) :=
 (zmH x n c f w (by omega) h.rd h.nil).mono (λ_ _ ⟨z,c',h1,h2,h3⟩=>⟨z,c',h1,h2,h3.slice.2.2.2.1,h.lm,h.wf,⟨h3.slice.1,h3.slice.2.1⟩,h3.slice.2.2.1,h.val⟩)
theorem zoZ {L w sa xa na ca fa ya ma da ga a} (ha:Rn L w sa xa na ca fa ya ma da ga a) (hL:L<=200000) :
  Calls prog 61 #[agg #[.bool sa,slice xa na ca,slice ya ma da]] w λe w'=>∃x c y d,e=returned (agg #[.bool sa,slice x na c,slice y ma d])/\Bl w w'/\Rn L w' sa x na c fa y ma d ga a:=by
 have b1:=ha.ln;have b2:=ha.ld
 have h1:=(ha.alloc (cells #[.bool sa,slice xa na ca,slice ya ma da] 24)).alloc (cells #[.bool false,slice none 0 0,slice none 0 0] 24);have h3:=zaz (w.alloc (cells #[.bool sa,slice xa na ca,slice ya ma da] 24)) 24;rw[zw]at h3
 have h4:=zu (zB w (cells #[.bool sa,slice xa na ca,slice ya ma da] 24)) (cells #[.bool false,slice none 0 0,slice none 0 0] 24);have h5:=(zbr w (.bool sa) (slice xa na ca) (slice ya ma da) 24).alloc (cells #[.bool false,slice none 0 0,slice none 0 0] 24);clear ha;go_enter func61,ntmps61;go_wp2_with fail
 generalize(w.alloc (cells #[.bool sa,slice xa na ca,slice ya ma da] 24)).alloc (cells #[.bool false,slice none 0 0,slice none 0 0] 24)=w1 at *;have HA:=zk h1;have OB:=h3;have HW:=zk h4
 obtain⟨hz,z0,z1,z2,zf⟩:=h3;obtain⟨hy,x0,x1,x2⟩:=h5;clear h1 h4;have C1:Hid (∀W,Bl w1 W->Calls prog 94 #[slice xa na ca] W λe w'=>∃z c',e=returned (slice z na c')/\Bl W w'/\Hid (Wn w' sa z na c' fa a.num)):=λW hW=>zgg (HA.out.num.q_ hW) (by omega)
 have C2:Hid (∀W,Bl w1 W->Calls prog 94 #[slice ya ma da] W λe w'=>∃z c',e=returned (slice z ma c')/\Bl W w'/\Hid (Wn w' false z ma c' ga (a.den:Int))):=λW hW=>zgg (HA.out.den.q_ hW) (by omega)
 go_region_held3 (λw'=>w'.cell? ⟨w.heap.size,0,none⟩=some (.bool sa)/\w'.cell? ⟨w.heap.size,1,none⟩=some (slice xa na ca)/\w'.cell? ⟨w.heap.size,2,none⟩=some (slice ya ma da)/\(w'.cell? ⟨w.heap.size+1,0,none⟩).isSome=true/\(w'.cell? ⟨w.heap.size+1,1,none⟩).isSome=true/\(w'.cell? ⟨w.heap.size+1,2,none⟩).isSome=true/\w'.frozen? ⟨w.heap.size+1,0,none⟩=false/\w'.frozen? ⟨w.heap.size+1,1,none⟩=false/\w'.frozen? ⟨w.heap.size+1,2,none⟩=false)
  (refine⟨?_,?_,?_,?_,?_,?_,?_,?_,?_⟩ <;> repeat(with_reducible first|assumption|exact zf _|exact kI0 z0|exact kI0 z1|exact kI0 z2|exact tf _|exact kI0 t0|exact kI0 t1|exact kI0 t2|exact uf _|exact kI0 u0|exact kI0 u1|exact kI0 u2|refine kCd ?_|refine kId ?_|refine kFd ?_|refine kCs (by simp only[ne_eq];omega) ?_|refine kIs ?_|refine kFs ?_|refine kCb (by assumption) ?_|refine kIb (by assumption) ?_))
  (first
   | (go_at_call 94;with_reducible refine(C1.out _ zai).mono ?_;rintro e w5 ⟨zp,cp,rfl,hb5,HP⟩;have TU:Ob w5 (w.heap.size+1):=(by repeat(with_reducible first|exact OB|exact TU|exact TV|refine Ob.drew ?_|refine kOb (by assumption) ?_));obtain⟨_,t0,t1,t2,tf⟩:=id TU)
   | (go_at_call 94;with_reducible refine(C2.out _ zai).mono ?_;rintro e w6 ⟨zq,cq,rfl,hb6,HQ⟩;have TV:Ob w6 (w.heap.size+1):=(by repeat(with_reducible first|exact OB|exact TU|exact TV|refine Ob.drew ?_|refine kOb (by assumption) ?_));obtain⟨_,u0,u1,u2,uf⟩:=id TV))
 have WA:=HP.out.q_ hb6;have hb:Bl w1 w6:=zai;go_wp2;exact bodyPost_ret (v:=agg #[.bool sa,slice zp na cp,slice zq ma cq]) (by simp[results,results61,go_sem,u0,u1,u2]) rfl ⟨zp,cp,zq,cq,rfl,zU (bUp HW.out hb) (by omega),TV.wn WA,TV.wn HQ.out,b1,b2⟩
theorem zmM {L w sa xa na ca fa ya ma da ga a} (ha:Rn L w sa xa na ca fa ya ma da ga a) (hL:L<=200000) :
  Calls prog 31 #[agg #[.bool sa,slice xa na ca,slice ya ma da]] w λe w'=>zjC L w w' e (-a):=by
 have HA0:=zk ha;have b1:=ha.num.cap;clear ha;go_enter func31,ntmps31;go_wp2_with fail
 refine(zbA ((HA0.out.alloc _).alloc _) (by omega)).mono ?_;rintro e w1 ⟨rfl,hbel⟩;have hbx:=((zbr w _ _ _ _).alloc _).q_ hbel;have hob:=(zaz (w.alloc _) _).q_ hbel;rw[zw]at hob
 have HW1:Hid (Bl w w1):=(zu (zB w _) _).trans (hbel.mono (by simp;omega));have HA1:=zk (HA0.out.q_ HW1.out);have OB1:=zk hob
 clear hbel hob HA0;obtain⟨za,x0,x1,x2⟩:=hbx;go_wp2_with fail
 refine(zoZ HA1.out hL).mono ?_;rintro e w2 ⟨xp,cp,yp,dp,rfl,hb,hr⟩;have RP2:=zk hr;have OB2:=zk (OB1.out.q_ hb);have HW2:=zJ HW1 hb
 clear hr hb OB1 HW1 HA1 za x0 x1 x2;go_wp2_with fail
 refine(zbE _ xp yp na cp ma dp _ (by omega)).mono ?_;rintro e w3 ⟨rs,rfl,HRS,hb⟩;have RP3:=zk (RP2.out.next hb);have OB3:=zk (OB2.out.next hb);have HW3:=zk ((zu HW2.out _).trans (hb.mono (zu HW2.out _).size))
 clear hb RP2 OB2 HW2;obtain⟨hz,z0,z1,z2,zf⟩:=OB3.out;go_wp2;exact bodyPost_ret (v:=.tuple #[agg #[.bool rs,slice xp na cp,slice yp ma dp],.int .i64 0]) (by simp[results,results31,go_sem,z0,z1,z2]) rfl ⟨rs,xp,na,cp,fa,yp,ma,dp,ga,rfl,zU HW3.out (by omega),OB3.out.rn (RP3.out.negate HRS.out)⟩
structure C3 (w:World) (b o:Nat) (a0 a1 a2:Value):Prop where
 x0:w.cell? ⟨b,o,none⟩=some a0
 x1:w.cell? ⟨b,o+1,none⟩=some a1
 x2:w.cell? ⟨b,o+2,none⟩=some a2
theorem C3.q_ {w w' b o a0 a1 a2} (h:C3 w b o a0 a1 a2) (hb:Bl w w'):C3 w' b o a0 a1 a2:=⟨kCb hb h.x0,kCb hb h.x1,kCb hb h.x2⟩
def Rl (w:World) (ao:Option Addr) (k:Nat) (X:Nat->Nm):Prop :=
 ∀j,j<k->∃b o,ao=some ⟨b,o,none⟩/\C3 w b (o+j*3) (.bool (X j).s) (.slice (X j).x (X j).n (X j).c) (.slice (X j).y (X j).m (X j).d)/\NmR w (X j)
theorem Rl.q_ {w w' ao k X} (h:Rl w ao k X) (hb:Bl w w'):Rl w' ao k X:=λj hj=>by
 obtain⟨b,o,e,h1,h2⟩:=h j hj;exact⟨b,o,e,h1.q_ hb,h2.q_ hb⟩
def afr (X:Nat->Nm):Nat->Nat->Bool
 | 0,_=>true
 | r+1,i=>nfB (X i) && afr X r (i+1)
def afB (k:Nat) (X:Nat->Nm):Bool:=afr X k 0
theorem znU {w w1 a0 a1 a2 t} (hb:Below (w.alloc (cells #[a0,a1,a2] t)).heap.size (w.alloc (cells #[a0,a1,a2] t)) w1):w.heap.size<w1.heap.size/\w1.cell? ⟨w.heap.size,0,none⟩=some a0/\w1.cell? ⟨w.heap.size,1,none⟩=some a1/\w1.cell? ⟨w.heap.size,2,none⟩=some a2/\Bl w w1:=by
 have hz:=hb.size;simp at hz;exact⟨by omega,kCb hb (by simp[go_sem]),kCb hb (by simp[go_sem]),kCb hb (by simp[go_sem]),(zu (Below.refl _ w) _).trans (hb.mono (by simp))⟩
def NoU (cur:Array Value):Prop:=∀(i:Nat) (z:Int),cur[i]?≠some (Value.int .u64 z)
structure Kp (w w':World):Prop where
 os:w'.os=w.os
 tape:w'.tape=w.tape
 output:w'.output=w.output
 size:w.heap.size<=w'.heap.size
 block:∀k,k<w.heap.size->w'.heap[k]?=w.heap[k]?∨∃cur t fr,w.heap[k]?=some (cells cur t fr)/\NoU cur
theorem Kp.refl (w:World):Kp w w:=⟨rfl,rfl,rfl,le_refl _,λ_ _=>.inl rfl⟩
theorem Kp.trans {a b c} (h:Kp a b) (k:Kp b c):Kp a c :=
 ⟨k.os.trans h.os,k.tape.trans h.tape,k.output.trans h.output,le_trans h.size k.size,λi hi=>by
  rcases h.block i hi with e|e
  ·rcases k.block i (Nat.lt_of_lt_of_le hi h.size)with e2|⟨cur,t,fr,e2,e3⟩
   ·exact .inl (e2.trans e)
   ·exact .inr ⟨cur,t,fr,e.symm.trans e2,e3⟩
  ·exact .inr e⟩
theorem Kp.of_below {w w'} (h:Bl w w'):Kp w w':=⟨h.os,h.tape,h.output,h.size,λk hk=>.inl (h.block k hk)⟩
theorem Kp.drew {a w} (h:Kp a w):Kp a w.drew:=⟨h.os,h.tape,h.output,h.size,h.block⟩
theorem Kp.alloc {a w} (h:Kp a w) (o:Obj):Kp a (w.alloc o):=h.trans (Kp.of_below (zu (Below.refl _ _) o))
theorem Kp.set {a w} (h:Kp a w) {x cur t fr} (hx:w.heap[x.block]?=some (cells cur t fr)) (hu:NoU cur) (u:Value):Kp a (w.setCell x u) :=
 h.trans ⟨rfl,rfl,rfl,by simp[World.setCell],λk _=>by
  by_cases e:k=x.block
  ·subst e;exact .inr ⟨cur,t,fr,hx,hu⟩
  ·exact .inl (Below.heap_setCell _ _ _ _ e)⟩
theorem Rd.kp {w w' ao n f} (h:Rd .u64 w ao n f) (hk:Kp w w'):Rd .u64 w' ao n f:=λj hj=>by
 obtain⟨b,o,e,hc⟩:=h j hj;refine⟨b,o,e,?_⟩;have hl:=World.block_lt_of_cell? w _ hc;rcases hk.block b hl with h1|⟨cur,t,fr,h1,h2⟩
 ·exact(World.cell?_of_block (a:=⟨b,o+j,none⟩) h1).trans hc
 ·exfalso;simp[World.cell?,h1]at hc
  exact h2 _ _ hc
theorem Wn.kp {w w' s x n c f v} (h:Wn w s x n c f v) (hk:Kp w w'):Wn w' s x n c f v:=⟨h.rd.kp hk,h.lm,h.wf,h.cap,h.nil,h.val⟩
theorem Rn.kp {L w w' s x n c f y m d g q} (h:Rn L w s x n c f y m d g q) (hk:Kp w w'):Rn L w' s x n c f y m d g q:=⟨h.num.kp hk,h.den.kp hk,h.ln,h.ld⟩
def RowG (e:TypeId) (sz base:Nat) (w:World) (v:Value) (n:Nat) (xs:List Value):Prop :=
 xs.length=n*sz/\((v=slice none 0 0/\n=0)∨∃g cap cur,v=slice (some ⟨g,0,none⟩) n cap/\base<=g/\w.heap[g]?=some (cells cur e (0,0))/\n<=cap/\cap<=maxLen/\cur.size=cap*sz/\cur.toList.take (n*sz)=xs/\NoU cur)
theorem zak (e:TypeId) (sz base:Nat) (w:World):RowG e sz base w (slice none 0 0) 0 []:=⟨by simp,.inl ⟨rfl,rfl⟩⟩
theorem RowG.owns {e sz base w v n xs} (h:RowG e sz base w v n xs):w.ownsRow base e sz v n xs:=by
 obtain⟨h1,h2⟩:=h;refine⟨h1,?_⟩;rcases h2 with h2|⟨g,cap,cur,a,b,c,d,e1,f,g1,_⟩
 ·exact .inl h2
 ·exact .inr ⟨g,cap,cur,a,b,c,d,e1,f,g1⟩
theorem RowG.of {e sz base w w' v n xs} (h:RowG e sz base w v n xs) (hh:∀g,v.ownBlock=some g->w'.heap[g]?=w.heap[g]?):RowG e sz base w' v n xs:=by
 obtain⟨h1,h2⟩:=h;refine⟨h1,?_⟩;rcases h2 with h2|⟨g,cap,cur,rfl,b,c,d,e1,f,g1,k⟩
 ·exact .inl h2
 ·exact .inr ⟨g,cap,cur,rfl,b,(hh g rfl).trans c,d,e1,f,g1,k⟩
theorem RowG.lt {e sz base w v n xs} (h:RowG e sz base w v n xs):∀g,v.ownBlock=some g->base<=g/\g<w.heap.size:=by
 intro g0 hg0;rcases h.2 with⟨rfl,_⟩|⟨g,cap,cur,rfl,b,c,_⟩
 ·cases hg0
 ·have:g=g0:=by simpa[Value.ownBlock]using hg0
  subst this;exact⟨b,(Array.getElem?_eq_some_iff.1 c).1⟩
theorem RowG.q_ {e sz base w w' v n xs} (h:RowG e sz base w v n xs) (hb:Bl w w'):RowG e sz base w' v n xs:=h.of (λg hg=>hb.block g (h.lt g hg).2)
theorem RowG.cells {e sz base w n xs g cap} (h:RowG e sz base w (.slice (some ⟨g,0,none⟩) n cap) n xs) {j u} (hu:xs[j]?=some u):w.cell? ⟨g,j,none⟩=some u:=by
 obtain⟨h1,h2⟩:=h;rcases h2 with⟨h2,_⟩|⟨g',cap',cur,hv,b,c,d,e1,f,g1,k⟩
 ·cases h2
 ·cases hv
  have:cur.toList[j]?=some u:=by
   rw[<-g1]at hu
   rw[List.getElem?_take]at hu
   split at hu
   ·exact hu
   ·cases hu
  simp[World.cell?,c];simpa using this
theorem zan {a b} (ha:NoU a) (hb:NoU b):NoU (a++b):=λi z h=>by
 rw[Array.getElem?_append]at h
 split at h
 ·exact ha _ _ h
 ·exact hb _ _ h
theorem zaa {l:List Value} (h:∀u ∈ l,∀z,u≠.int .u64 z):NoU l.toArray:=λi z he=>by
 rw[List.getElem?_toArray]at he
 exact h _ (List.mem_of_getElem? he) z rfl
theorem zbb {a} (h:NoU a):∀u ∈ a.toList,∀z,u≠.int .u64 z:=λu hu z e=>by
 obtain⟨i,hi⟩:=List.getElem?_of_mem hu;subst e;exact h i z (by simpa using hi)
theorem zep {P} (w:World) {ops rest o a Q} (hgd:o.guard=none) (s x:Operand) (t:TypeId) (ho:o.op=.call { callee:=.builtin .append,args:=#[s,x],argTypes:=#[t,t] }) (base:Nat) (e:TypeId) (i:TypeInfo) (z:Value) (size bytes:Nat) (ht:P.underlying t=some (.slice e)) (hi:P.info? e=some i) (hz:i.zero=some z) (hsize:i.size=size) (hby:i.bytes=bytes) (hzs:z.cells.size=size) (hsz:0<size) (hzu:NoU z.cells) (v:Value) (n:Nat) (xs:List Value) (hs:a.eval s=v) (hown:RowG e size base w v n xs) (ad:Addr) (m c:Nat) (news:List Value) (hx:a.eval x=slice (some ad) m c) (hl:news.length=m*size) (hnews:∀j u,news[j]?=some u->w.cell? (ad.add j)=some u) (h1:∀u ∈ news,u.oneCell'=true) (hnu:∀u ∈ news,∀z,u≠.int .u64 z) (hm0:0<m) (h63:n+m<=maxLen) (hbytes:(n+m)*bytes<=140737488355328) (hbase:base<=w.heap.size) (hK:∀g cap' w',RowG e size base w' (slice (some ⟨g,0,none⟩) (n+m) cap') (n+m) (xs++news)->w.grownBy w' v.ownBlock->Kp w w'->wpList P ops Q rest (a.put o.dst (slice (some ⟨g,0,none⟩) (n+m) cap')) w'):wpList P ops Q (o :: rest) a w:=by
 subst hsize;subst hby
 obtain⟨v',w',hrun,h1',h2',h3'⟩:=run_append_own (P:=P) w base t o.type e i z i.size i.bytes ht hi hz rfl rfl hzs hsz v n xs hown.owns ad m c news hl hnews h1 h63 hbytes hbase;have hlen:(xs++news).length=(n+m)*i.size:=by rw[List.length_append,hown.1,hl,Nat.add_mul]
 have hzc:∀k,NoU (Builtin.zeroCells z.cells k):=by
  intro k j y hj;simp only[Builtin.zeroCells]at hj;have hm:=Array.mem_of_getElem? hj;obtain⟨q,_,he⟩:=Array.mem_map.1 hm;have hlt:q%z.cells.size<z.cells.size:=Nat.mod_lt _ (by omega);rw[getElem!_pos z.cells (q%z.cells.size) hlt]at he
  exact hzu (q%z.cells.size) y (by rw[Array.getElem?_eq_getElem hlt,he])
 have hnu':NoU news.toArray:=zaa hnu;have hw:∃g cap' cur',v'=slice (some ⟨g,0,none⟩) (n+m) cap'/\base<=g/\w'.heap[g]?=some (cells cur' e (0,0))/\n+m<=cap'/\cap'<=maxLen/\cur'.size=cap'*i.size/\cur'.toList.take ((n+m)*i.size)=xs++news/\NoU cur'/\Kp w w':=by
  have hsm:n+m<=9223372036854775807:=by unfold maxLen at h63;omega
  rcases h1'.2 with⟨hv0,hn0⟩|⟨g',cap',cur',hv',hb',hg',hn',hc',hs',ht'⟩
  ·omega
  ·refine⟨g',cap',cur',hv',hb',hg',hn',hc',hs',ht',?_⟩;rcases hown.2 with⟨rfl,rfl⟩|⟨g,cap,cur,rfl,hbg,hg,hnc,hcm,hcs,htake,hnuc⟩
   ·have hx0:xs=[]:=List.eq_nil_of_length_eq_zero (by simpa using hown.1);subst hx0;have e1:=run_append_nil (P:=P) w t o.type e i z ht hi hz ad m c news hl hnews hm0 (by omega) (by rw[Nat.zero_add]at hbytes;omega);rw[e1]at hrun
    injection hrun with e2 e3;subst e3;rw[hv']at e2
    injection e2 with e4;injection e4 with e5;injection e5 with e6;subst e6;have e7:=heap_alloc_new w.drew (cells (news.toArray++Builtin.zeroCells z.cells (grownCap w m 0 e-m)) e);rw[show w.heap.size=w.drew.heap.size from rfl,e7]at hg'
    injection hg' with e8;injection e8 with e9;rw[<-e9];exact⟨zan hnu' (hzc _),(Kp.refl w).drew.alloc _⟩
   ·by_cases hroom:n+m<=cap
    ·have e1:=run_append_room (P:=P) w t o.type e i ht hi g n cap cur hg ad m c news hl hnews h1 hroom (by rw[hl,hcs,<-Nat.add_mul];exact Nat.mul_le_mul_right _ hroom);rw[e1]at hrun
     injection hrun with e2 e3;rw[hv']at e2
     injection e2 with e4;injection e4 with e5;injection e5 with e6;subst e6;have e7:w'.heap[g]?=some (cells (cur.toList.take (n*i.size)++news++cur.toList.drop (n*i.size+news.length)).toArray e (0,0)):=by rw[<-e3];exact setRow_heap w g cur _ e _ hg
     rw[e7]at hg'
     injection hg' with e8;injection e8 with e9;rw[<-e9];refine⟨zaa ?_,h2'.os,h2'.tape,h2'.output,h2'.size,λk hk=>?_⟩
     ·intro u hu;rcases List.mem_append.1 hu with hu|hu
      ·rcases List.mem_append.1 hu with hu|hu
       ·exact zbb hnuc u (List.mem_of_mem_take hu)
       ·exact hnu u hu
      ·exact zbb hnuc u (List.mem_of_mem_drop hu)
     ·by_cases hkg:k=g
      ·subst hkg;exact .inr ⟨cur,e,(0,0),hg,hnuc⟩
      ·exact .inl (h2'.block k hk (λe=>hkg (by simpa[Value.ownBlock]using e)))
    ·have holds:∀j u,xs[j]?=some u->w.cell? ((⟨g,0,none⟩:Addr).add j)=some u:=World.ownsRow.cells hown.owns (g:=g) rfl;have e1:=run_append_grow (P:=P) w t o.type e i z ht hi hz ⟨g,0,none⟩ n cap xs hown.1 holds ad m c news hl hnews (by omega) (by omega) (growslice_fits (by omega) hbytes);rw[e1]at hrun
     injection hrun with e2 e3;subst e3;rw[hv']at e2
     injection e2 with e4;injection e4 with e5;injection e5 with e6;subst e6;have e7:=heap_alloc_new w.drew (cells (xs.toArray++news.toArray++Builtin.zeroCells z.cells (grownCap w (n+m) cap e-(n+m))) e);rw[show w.heap.size=w.drew.heap.size from rfl,e7]at hg'
     injection hg' with e8;injection e8 with e9;rw[<-e9];refine⟨zan (zan (zaa ?_) hnu') (hzc _),(Kp.refl w).drew.alloc _⟩;intro u hu;rw[<-htake]at hu
     exact zbb hnuc u (List.mem_of_mem_take hu)
 obtain⟨g,cap',cur',rfl,a1,a2,a3,a4,a5,a6,a7,a8⟩:=hw;refine wpList_plain hgd λ_ hK'=>?_
 unfold Oper.wp execOp;simp only[ho,resolve,invoke,builtin,Sem.run_bind,Sem.run_pure,Result.andThen_ok,List.map_toArray,List.map_cons,List.map_nil,hs,hx,hrun];exact hK' _ _ (hK g cap' w' ⟨hlen,.inr ⟨g,cap',cur',rfl,a1,a2,a3,a4,a5,a6,a7⟩⟩ h2' a8)
def Bk (w:World) (B:Nat) (vs:List Value) (t:TypeId):Prop:=w.heap[B]?=some (cells vs.toArray t (0,0))
theorem zF (w:World) (vs:List Value) (t:TypeId):Bk (w.alloc (cells vs.toArray t)) w.heap.size vs t:=heap_alloc_new w _
theorem zql (w:World) (o:Obj) (vs:List Value) (t:TypeId):Bk ((w.alloc o).alloc (cells vs.toArray t)) (w.heap.size+1) vs t:=by
 have:=zF (w.alloc o) vs t;rw[show(w.alloc o).heap.size=w.heap.size+1 by simp]at this;exact this
theorem Bk.lt {w B vs t} (h:Bk w B vs t):B<w.heap.size:=(Array.getElem?_eq_some_iff.1 h).1
theorem Bk.q_ {w w' B vs t} (h:Bk w B vs t) (hb:Bl w w'):Bk w' B vs t:=(hb.block B h.lt).trans h
theorem Bk.cell {w B vs t} (h:Bk w B vs t) {j v} (hv:vs[j]?=some v):w.cell? ⟨B,j,none⟩=some v:=by
 unfold Bk at h;simp only[World.cell?,h];simpa using hv
theorem bk2 {w B t vs v0 v1} (h:Bk w B (v0 :: v1 :: vs) t):w.cell? ⟨B,0,none⟩=some v0/\w.cell? ⟨B,1,none⟩=some v1:=⟨h.cell (j:=0) rfl,h.cell (j:=1) rfl⟩
theorem bk3 {w B t vs v0 v1 v2} (h:Bk w B (v0 :: v1 :: v2 :: vs) t):w.cell? ⟨B,0,none⟩=some v0/\w.cell? ⟨B,1,none⟩=some v1/\w.cell? ⟨B,2,none⟩=some v2:=⟨h.cell (j:=0) rfl,h.cell (j:=1) rfl,h.cell (j:=2) rfl⟩
theorem bk4 {w B t vs v0 v1 v2 v3} (h:Bk w B (v0 :: v1 :: v2 :: v3 :: vs) t):w.cell? ⟨B,0,none⟩=some v0/\w.cell? ⟨B,1,none⟩=some v1/\w.cell? ⟨B,2,none⟩=some v2/\w.cell? ⟨B,3,none⟩=some v3:=⟨h.cell (j:=0) rfl,h.cell (j:=1) rfl,h.cell (j:=2) rfl,h.cell (j:=3) rfl⟩
theorem bk5 {w B t vs v0 v1 v2 v3 v4} (h:Bk w B (v0 :: v1 :: v2 :: v3 :: v4 :: vs) t):w.cell? ⟨B,0,none⟩=some v0/\w.cell? ⟨B,1,none⟩=some v1/\w.cell? ⟨B,2,none⟩=some v2/\w.cell? ⟨B,3,none⟩=some v3/\w.cell? ⟨B,4,none⟩=some v4:=⟨h.cell (j:=0) rfl,h.cell (j:=1) rfl,h.cell (j:=2) rfl,h.cell (j:=3) rfl,h.cell (j:=4) rfl⟩
theorem bk9 {w B t vs v0 v1 v2 v3 v4 v5 v6 v7 v8} (h:Bk w B (v0 :: v1 :: v2 :: v3 :: v4 :: v5 :: v6 :: v7 :: v8 :: vs) t):w.cell? ⟨B,0,none⟩=some v0/\w.cell? ⟨B,1,none⟩=some v1/\w.cell? ⟨B,2,none⟩=some v2/\w.cell? ⟨B,3,none⟩=some v3/\w.cell? ⟨B,4,none⟩=some v4/\w.cell? ⟨B,5,none⟩=some v5/\w.cell? ⟨B,6,none⟩=some v6/\w.cell? ⟨B,7,none⟩=some v7/\w.cell? ⟨B,8,none⟩=some v8:=⟨h.cell (j:=0) rfl,h.cell (j:=1) rfl,h.cell (j:=2) rfl,h.cell (j:=3) rfl,h.cell (j:=4) rfl,h.cell (j:=5) rfl,h.cell (j:=6) rfl,h.cell (j:=7) rfl,h.cell (j:=8) rfl⟩
theorem zef {w B t vs v0 v1 v2 v3 v4 v5 v6 v7 v8 v9} (h:Bk w B (v0 :: v1 :: v2 :: v3 :: v4 :: v5 :: v6 :: v7 :: v8 :: v9 :: vs) t):w.cell? ⟨B,0,none⟩=some v0/\w.cell? ⟨B,1,none⟩=some v1/\w.cell? ⟨B,2,none⟩=some v2/\w.cell? ⟨B,3,none⟩=some v3/\w.cell? ⟨B,4,none⟩=some v4/\w.cell? ⟨B,5,none⟩=some v5/\w.cell? ⟨B,6,none⟩=some v6/\w.cell? ⟨B,7,none⟩=some v7/\w.cell? ⟨B,8,none⟩=some v8/\w.cell? ⟨B,9,none⟩=some v9:=⟨h.cell (j:=0) rfl,h.cell (j:=1) rfl,h.cell (j:=2) rfl,h.cell (j:=3) rfl,h.cell (j:=4) rfl,h.cell (j:=5) rfl,h.cell (j:=6) rfl,h.cell (j:=7) rfl,h.cell (j:=8) rfl,h.cell (j:=9) rfl⟩
theorem zee {w B t vs v0 v1 v2 v3 v4 v5 v6 v7 v8 v9 v10 v11} (h:Bk w B (v0 :: v1 :: v2 :: v3 :: v4 :: v5 :: v6 :: v7 :: v8 :: v9 :: v10 :: v11 :: vs) t):w.cell? ⟨B,0,none⟩=some v0/\w.cell? ⟨B,1,none⟩=some v1/\w.cell? ⟨B,2,none⟩=some v2/\w.cell? ⟨B,3,none⟩=some v3/\w.cell? ⟨B,4,none⟩=some v4/\w.cell? ⟨B,5,none⟩=some v5/\w.cell? ⟨B,6,none⟩=some v6/\w.cell? ⟨B,7,none⟩=some v7/\w.cell? ⟨B,8,none⟩=some v8/\w.cell? ⟨B,9,none⟩=some v9/\w.cell? ⟨B,10,none⟩=some v10/\w.cell? ⟨B,11,none⟩=some v11:=⟨h.cell (j:=0) rfl,h.cell (j:=1) rfl,h.cell (j:=2) rfl,h.cell (j:=3) rfl,h.cell (j:=4) rfl,h.cell (j:=5) rfl,h.cell (j:=6) rfl,h.cell (j:=7) rfl,h.cell (j:=8) rfl,h.cell (j:=9) rfl,h.cell (j:=10) rfl,h.cell (j:=11) rfl⟩
theorem Bk.frozen {w B vs t} (h:Bk w B vs t) (o:Nat):w.frozen? ⟨B,o,none⟩=false:=by
 unfold Bk at h;simp[World.frozen?,h]
theorem Bk.set {w B vs t} (h:Bk w B vs t) (j:Nat) (v:Value):Bk (w.setCell ⟨B,j,none⟩ v) B (vs.set j v) t:=by
 unfold Bk at *;simp[World.setCell,Array.getElem?_modify,h]
theorem Bk.of {w w' B vs t} (h:Bk w B vs t) (hb:w'.heap[B]?=w.heap[B]?):Bk w' B vs t:=hb.trans h
def stl (B:Nat):Nat->List Value->World->World
 | _,[],w=>w
 | o,v :: vs,w=>stl B (o+1) vs (w.setCell ⟨B,o,none⟩ v)
theorem zmp (B:Nat):∀(vs:List Value) (o:Nat) (w:World),(stl B o vs w).os=w.os/\(stl B o vs w).tape=w.tape/\(stl B o vs w).output=w.output/\(stl B o vs w).heap.size=w.heap.size/\∀k,k≠B->(stl B o vs w).heap[k]?=w.heap[k]?
 | [],o,w=>⟨rfl,rfl,rfl,rfl,λ_ _=>rfl⟩
 | v :: vs,o,w=>by
  obtain⟨h1,h2,h3,h4,h5⟩:=zmp B vs (o+1) (w.setCell ⟨B,o,none⟩ v);refine⟨h1,h2,h3,?_,λk hk=>?_⟩
  ·show(stl B (o+1) vs (w.setCell ⟨B,o,none⟩ v)).heap.size=_;rw[h4];simp[World.setCell]
  ·show(stl B (o+1) vs (w.setCell ⟨B,o,none⟩ v)).heap[k]?=_;rw[h5 k hk];exact Below.heap_setCell _ _ _ _ hk
theorem zgC {w w6 B us t} (vs:List Value) (h:Bk w6 B us t) (hu:NoU us.toArray) (hb:Bl w w6) (hB:w.heap.size<=B) :
  Bl w (stl B 0 vs w6)/\Kp w6 (stl B 0 vs w6)/\∀k,k≠B->(stl B 0 vs w6).heap[k]?=w6.heap[k]?:=by
 obtain⟨h1,h2,h3,h4,h5⟩:=zmp B vs 0 w6;refine⟨hb.trans ⟨h1,h2,h3,by omega,λk hk=>h5 k (by omega)⟩,⟨h1,h2,h3,by omega,λk _=>?_⟩,h5⟩;by_cases hk:k=B
 ·subst hk;exact .inr ⟨_,t,(0,0),h,hu⟩
 ·exact .inl (h5 k hk)
end Go.Proofs.YtlbgphjdibbkjaaGreat
namespace Go.Proofs.YtlbgphjdibbkjaaGreat
open Value (slice agg)
open Obj (cells)
open Ending (returned)
open Nat (le_refl le_trans)
open Int (le_of_lt mul_comm pow_pos)
open Go.Proofs.Tryz
open Go
theorem zK {P:Program} {md:Region.Mode} {ops:Array Oper} {Q:Exit->Act->World->Prop} {S:World->Prop} {oi:Oper} {v:Value} {fuel:Nat} {listed:Array Bool} {a:Act} {w:World}
  (i:Nat) (h:wpAnyH P md ops Q S fuel (listed.setIfInBounds i true) (a.put oi.dst v) w) (hi:ops[i]?=some oi:=by exact rfl)
  (hy:YieldsIf P ops S oi v a:=by (refine Or.inl ⟨by rfl,?_⟩;intro w0 hSw;(try dsimp only at hSw);go_simp <;> with_reducible rfl))
  (hs:Region.noSelect ops=true:=by kernel_rfl) (hf:Region.free md ops listed i=true:=by kernel_rfl) (hr:(Region.ready md ops listed).contains i=true:=by kernel_rfl)
  (hQ:∀c a w,Q (.panic c) (a.put oi.dst v) w->Q (.panic c) a w:=by exact(λ_ _ _ h=>h)) (hS:S w:=by assumption):wpAnyH P md ops Q S (fuel+1) listed a w :=
 wpAnyH_take hi hs hf hr hQ hy hS h
theorem skO {P:Program} {md:Region.Mode} {ops:Array Oper} {Q:Exit->Act->World->Prop} {S:World->Prop} {oi:Oper} {fuel:Nat} {listed:Array Bool} {a:Act} {w:World}
  (i:Nat) (h:wpAnyH P md ops Q S fuel (listed.setIfInBounds i true) (a.put oi.dst undef) w) (hi:ops[i]?=some oi:=by exact rfl)
  (hy:YieldsIf P ops S oi undef a:=by exact Or.inr ⟨by rfl,rfl⟩)
  (hs:Region.noSelect ops=true:=by kernel_rfl) (hf:Region.free md ops listed i=true:=by kernel_rfl) (hr:(Region.ready md ops listed).contains i=true:=by kernel_rfl)
  (hQ:∀c a w,Q (.panic c) (a.put oi.dst undef) w->Q (.panic c) a w:=by exact(λ_ _ _ h=>h)) (hS:S w:=by assumption):wpAnyH P md ops Q S (fuel+1) listed a w :=
 wpAnyH_take hi hs hf hr hQ hy hS h
theorem zA:(∀{α:Type} {xs:List α} {i:Nat} (h:i<xs.toArray.size),xs.toArray[i]=xs[i]'(by simpa using h)) /\
  (∀{α:Type} {a:α} {l:List α} {i:Nat} (h:i+1<(a :: l).length),(a :: l)[i+1]=l[i]'(Nat.lt_of_succ_lt_succ h)) /\
  (∀{α:Type} {a:α} {l:List α} (h:0<(a :: l).length),(a :: l)[0]=a) /\
  (∀{α:Type} {l:List α} {i:Nat} {a:α},l.toArray.setIfInBounds i a=(l.set i a).toArray) /\
  (∀{α:Type} {x:α} {xs:List α} {b:α},(x :: xs).set 0 b=b :: xs) /\
  (∀{α:Type} {x:α} {xs:List α} {i:Nat} {b:α},(x :: xs).set (i+1) b=x :: xs.set i b) :=
 ⟨λ_=>rfl,λ_=>rfl,λ_=>rfl,by simp,λ{_ _ _ _}=>rfl,λ{_ _ _ _ _}=>rfl⟩
theorem rdO {P:Program} {md:Region.Mode} {ops:Array Oper} {Q:Exit->Act->World->Prop} {S:World->Prop} {o:Oper} {fuel:Nat} {listed:Array Bool} {a:Act} {w:World}
  (i:Nat) (h:∀K':Act->World->Prop,Shut (∀a w,S w->(S w->wpAnyH P md ops Q S fuel (listed.setIfInBounds i true) a w)->K' a w)->if Region.wanted o (yielded ops a.tmps)=true then Oper.wp P o a w K' Q else K' (a.put o.dst undef) w)
  (ho:ops[i]?=some o:=by exact rfl) (hr:Region.ready md ops listed=[i]:=by kernel_rfl):wpAnyH P md ops Q S (fuel+1) listed a w:=wpAnyH_ready hr (by simp) (AllReadyH.cons ho h AllReadyH.nil)
theorem dnO {P:Program} {md:Region.Mode} {ops:Array Oper} {Q:Exit->Act->World->Prop} {S:World->Prop} {fuel:Nat} {listed:Array Bool} {a:Act} {w:World} (h:Q .normal a w) (hr:Region.ready md ops listed=[]:=by kernel_rfl):wpAnyH P md ops Q S fuel listed a w:=wpAnyH_done hr h fuel
end Go.Proofs.YtlbgphjdibbkjaaGreat
namespace Go.Proofs.YtlbgphjdibbkjaaGreat
open Value (slice agg)
open Obj (cells)
open Ending (returned)
open Nat (le_refl le_trans)
open Int (le_of_lt mul_comm pow_pos)
open Go.Proofs.Tryz
open Go.RowKit
theorem zdZ {w w' q} (h:w'=w.drewN q):Bl w w':=by rw[h];exact zH (Below.refl _ _) _
theorem zqG {Q p N t} (hp:p<N):vd (upd Q p t) N=vd Q N+(t-Q p)*pd p:=by
 obtain⟨d,rfl⟩:∃d,N=p+1+d:=⟨N-(p+1),by omega⟩;have e1:vd (upd Q p t) p=vd Q p:=zaw (λj hj=>zE _ _ _ _ (by omega));have e2:vd (sh (upd Q p t) (p+1)) d=vd (sh Q (p+1)) d:=zaw (λj hj=>zE _ _ _ _ (by omega));rw[zaU (upd Q p t) (p+1) d,zaU Q (p+1) d,zQ,zQ,e1,e2,zac]
 grind
theorem zbV (s:Nat):(0:Int)<2^s:=pow_pos (by decide)
theorem zqf {s} (h:s<=32):(2:Int)^s*2^(32-s)=4294967296:=by rw[<-Int.pow_add,show s+(32-s)=32 by omega];rfl
theorem zsl {s} (h:s<=31):(2:Int)^s<=2147483648:=by
 have:(2:Int)^s*2^(31-s)=2147483648:=by rw[<-Int.pow_add,show s+(31-s)=31 by omega];rfl
 have q0:(0:Int)<2^(31-s):=zbV _;have:=Int.mul_le_mul_of_nonneg_left (show(1:Int)<=2^(31-s) by omega) (le_of_lt (zbV s));omega
theorem zgP (s:Nat):(2:Int)^(s+1)=2*2^s:=by rw[Int.pow_succ,mul_comm]
theorem zjc {D p:Int} (h0:0<=D*p) (h1:D*p<p) (hp:0<p):D=0:=by
 rcases Int.lt_trichotomy D 0 with h|h|h
 ·have:=Int.mul_le_mul_of_nonneg_right (show D <= -1 by omega) (le_of_lt hp);omega
 ·exact h
 ·have:=Int.mul_le_mul_of_nonneg_right (show 1<=D by omega) (le_of_lt hp);omega
theorem znY {Q n j s V} (h:Dg Q n) (hj:j<n) (hs:s<=31) (hv:vd Q n=V*(2^(s+1)*pd j)):Q j+2^s<4294967296:=by
 obtain⟨d,rfl⟩:∃d,n=j+1+d:=⟨n-(j+1),by omega⟩;have a0:=zbd (h.mono (m:=j) (by omega));have a1:=zcr (h.mono (m:=j) (by omega));have hp:=zbI j;obtain⟨q0,q1⟩:=h j (by omega);rw[zaU,zQ,zau]at hv
 generalize vd (sh Q (j+1)) d=T at hv;have e:vd Q j=(V*2^(s+1)-Q j-T*4294967296)*pd j:=by grind
 have z:=zjc (D:=V*2^(s+1)-Q j-T*4294967296) (p:=pd j) (by omega) (by omega) hp;have m:=zqf (s:=s+1) (by omega);have e3:Q j=2^(s+1)*(V-T*2^(32-(s+1))):=by grind
 have g0:=zbV (s+1);have g1:=zgP s;generalize(V-T*2^(32-(s+1)))=E at e3;have:E<2^(32-(s+1)):=by
  apply Int.lt_of_not_ge;intro hge
  have:=Int.mul_le_mul_of_nonneg_left hge (le_of_lt g0);omega
 have:=Int.mul_le_mul_of_nonneg_left (show E<=2^(32-(s+1))-1 by omega) (le_of_lt g0);rw[Int.mul_sub,Int.mul_one,m]at this
 have:=zbV s;omega
theorem zpS {f n j s} (h:Dg f n) (hj:j<n) (hs:s<=31):f j/2^s%2=vd f n/2^(32*j+s)%2:=by
 obtain⟨d,rfl⟩:∃d,n=j+1+d:=⟨n-(j+1),by omega⟩;have a0:=zbd (h.mono (m:=j) (by omega));have a1:=zcr (h.mono (m:=j) (by omega));have hp:=zbI j;rw[zaU,zQ,zau,Int.pow_add,<-zdU];generalize vd (sh f (j+1)) d=T;have e:vd f j+f j*pd j+T*(4294967296*pd j)=vd f j+(f j+T*4294967296)*pd j:=by grind
 rw[e,<-Int.ediv_ediv_of_nonneg (le_of_lt hp),Int.add_mul_ediv_right _ _ (by omega),Int.ediv_eq_zero_of_lt a0 a1,Int.zero_add];have m:=zqf (s:=s) (by omega);have e2:f j+T*4294967296=f j+(T*2^(32-s))*2^s:=by rw[<-m];grind
 have g:=zbV s;rw[e2,Int.add_mul_ediv_right _ _ (by omega)];have e3:(2:Int)^(32-s)=2*2^(31-s):=by rw[show 32-s=(31-s)+1 by omega,zgP]
 rw[e3];generalize f j/2^s=u;have e4:T*(2*2^(31-s))=2*(T*2^(31-s)):=by grind
 rw[e4];omega
theorem znW {f n c} (h:Dg f (n+1)) (hc:f n<2^c):vd f (n+1)<2^(32*n+c):=by
 have a1:=zcr (h.mono (m:=n) (by omega));have hp:=zbI n;rw[zQ,Int.pow_add,<-zdU];have:=Int.mul_le_mul_of_nonneg_right (show f n+1<=2^c by omega) (le_of_lt hp);rw[Int.add_mul,Int.one_mul]at this
 rw[mul_comm (pd n)];omega
theorem zlO {x t:Int} {c} (h1:x*2^c<=t) (h2:t<(x+1)*2^c):x/2*2^(c+1)<=t/\t<(x/2+1)*2^(c+1):=by
 have g:=zbV c;rw[zgP];have k1:=Int.mul_le_mul_of_nonneg_right (show 2*(x/2)<=x by omega) (le_of_lt g);have k2:=Int.mul_le_mul_of_nonneg_right (show x+1<=2*(x/2)+2 by omega) (le_of_lt g);generalize(2:Int)^c=P at *;generalize x/2=y at *;constructor
 ·have:y*(2*P)=2*y*P:=by grind
  omega
 ·have:(y+1)*(2*P)=(2*y+2)*P:=by grind
  omega
theorem znX {x t:Int} {c} (h1:x*2^c<=t) (hx:0<x) (ht:t<4294967296):c<32:=by
 apply Nat.lt_of_not_le;intro h
 obtain⟨d,rfl⟩:=Nat.exists_eq_add_of_le h;have g:=zbV d;have g2:=zbV (32+d);have k1:=Int.mul_le_mul_of_nonneg_right (show 1<=x by omega) (le_of_lt g2);have:(2:Int)^(32+d)=4294967296*2^d:=by rw[Int.pow_add];rfl
 have k2:=Int.mul_le_mul_of_nonneg_left (show(1:Int)<=2^d by omega) (show(0:Int)<=4294967296 by decide);omega
theorem zqY (ao:Option Addr) (n cap:Nat) (f:Nat->Int) (i:Nat) (w:World) (hn:n<=1048576) (hr:Rd .u64 w ao n f) (hf:Dg f n) (hi:i<32*n) :
  Calls prog 139 #[slice ao n cap,.int .i64 i] w λe w'=>e=returned (.int .u64 (vd f n/2^i%2))/\w'=w:=by
 obtain⟨j,s,rfl,hs⟩:∃j s,i=32*j+s/\s<=31:=⟨i/32,i%32,by omega,by omega⟩;have hj:j<n:=by omega
 rw[<-zpS hf hj hs];obtain⟨b,o,rfl⟩:=hr.at (by omega);obtain⟨x,hx⟩:∃x,f j=x:=⟨_,rfl⟩;have hcell:=hr.cell hj;obtain⟨x0,x1⟩:=hf j hj;rw[hx]at hcell x0 x1 ⊢
 obtain⟨z,hz⟩:∃z:Int,((32*j+s:Nat):Int)=z:=⟨_,rfl⟩;rw[hz];have z0:0<=z:=by omega
 have z1:z<=67108927:=by omega
 have h3:Int.tdiv z 32=(j:Int):=by rw[Int.tdiv_eq_ediv_of_nonneg z0];omega
 have h4:Int.tmod z 32=(s:Int):=by rw[Int.tmod_eq_emod_of_nonneg z0];omega
 have d0:0<=x/2^s:=Int.ediv_nonneg x0 (le_of_lt (zbV s));have d1:x/2^s<4294967296:=Int.lt_of_le_of_lt (Int.ediv_le_self _ x0) x1;have HX:=zk hx;clear hx hz hr hf hi;go_enter func139,ntmps139;go_wp2;go_ret;exact⟨rfl,rfl⟩
theorem zoX (ao:Option Addr) (n cap:Nat) (f:Nat->Int) (w:World) (hn:n<=1048576) (hr:Rd .u64 w ao n f) (hf:Dg f n) :
  Calls prog 137 #[slice ao n cap] w λe w'=>∃B:Nat,e=returned (.int .i64 B)/\(∃q,w'=w.drewN q)/\Hid (B<=32*n/\vd f n<2^B):=by
 cases n with
 | zero =>
  go_enter func137,ntmps137;go_wp2;go_ret;exact⟨0,rfl,⟨0,rfl⟩,by omega,by simp[vd]⟩
 | succ n =>
  obtain⟨b,o,rfl⟩:=hr.at (by omega);obtain⟨t,ht⟩:∃t,f n=t:=⟨_,rfl⟩;have hcell:=hr.cell (j:=n) (by omega);obtain⟨t0,t1⟩:=hf n (by omega);rw[ht]at hcell t0 t1
  have HT:=zk ht;have HF:=zk hf
  clear ht hr hf;go_enter func137,ntmps137;go_wp2;go_loopw[3,4] (λu v wr=>∃(c:Nat) (x:Int),c<=32/\u=.int .i64 ((32*n+c:Nat):Int)/\v=.int .u64 x/\0<=x/\x<4294967296/\Hid (x*2^c<=t/\t<(x+1)*2^c)/\∃q,wr=w.drewN q) (λ_ v _=>(intOf v).toNat)
  case atStart=>exact⟨0,t,by omega,by go_num,rfl,t0,t1,⟨by rw[Int.pow_zero,Int.mul_one];exact Int.le_refl _,by rw[Int.pow_zero,Int.mul_one];omega⟩,0,rfl⟩
  case round =>
   obtain⟨c,x,hc,rfl,rfl,x0,x1,HX,q,rfl⟩:=hrel;by_cases hx:0<x
   ·have hfew:=znX HX.out.1 hx t1;have hh:=zlO HX.out.1 HX.out.2;have HH:=zk hh;clear hh;go_wp2;go_roundw
    case rel=>exact⟨c+1,x/2,by omega,by go_num,by go_num,by omega,by omega,HH.out,q,rfl⟩
    case measure=>simp[intOf];omega
   ·obtain rfl:x=0:=by omega
    have htop:=znW (c:=c) HF.out (by rw[HT.out];have:=HX.out.2;simpa using this);have HTop:=zk htop;clear htop;go_wp2;go_ret;exact⟨32*n+c,rfl,⟨q,rfl⟩,by omega,HTop.out⟩
theorem zhi {w} {V:Nat} (hV:V<4294967296) :
  Calls prog 54 #[.int .u64 (V:Int)] w λe w'=>∃z k c d,e=returned (slice z k c)/\Bl w w'/\Hid (k<=1/\Dn w' z k d V) :=
 (zma V w (by omega) (by omega)).mono (λ_ _ ⟨k,h1,h2,h3,h4,h5,h6⟩=>⟨_,k,2,_,h1,h2,h3,h4,λj hj=>⟨by omega,by omega⟩,h6,by
  rcases(show k=0∨k=1 by omega)with h|h
  ·subst h;have:=h5 rfl;simp[vd];omega
  ·subst h;simp[vd,pd]⟩)
theorem zkJ {w x n c d A y m e g B} (ha:Dn w x n d A) (hb:Dn w y m g B) (hn:n<=1048576) (hm:m<=1048576) :
  Calls prog 138 #[slice x n c,slice y m e] w λe w'=>∃z k c' q,e=returned (slice z k c')/\Bl w w'/\Hid (k<=n+m+1/\Dn w' z k q (A+B)/\∀a,z=some a->w.heap.size<=a.block) :=
 (zke x y n m c e d g w (by omega) (by omega) ha.rd hb.rd ha.dg hb.dg).mono (λ_ _ ⟨z,k,c',q,h1,h2,h3,h4,h5,h6,h8,h7⟩=>⟨z,k,c',q,h1,h2,h4,⟨h3,h5,h6,by rw[h7,ha.val,hb.val];omega⟩,h8⟩)
theorem zhj {w x n c d A y m e g B} (ha:Dn w x n d A) (hb:Dn w y m g B) (hn:n<=1048576) (hm:m<=1048576) (hle:B<=A) :
  Calls prog 134 #[slice x n c,slice y m e] w λe w'=>∃z k c' q,e=returned (slice z k c')/\Bl w w'/\Hid (k<=n/\Dn w' z k q (A-B)/\∀a,z=some a->w.heap.size<=a.block) :=
 (zjW x y n m c e d g w (by omega) (by omega) (zdj hb.dg ha.dg hb.fm (by rw[ha.val,hb.val];omega)) ha.rd hb.rd ha.dg hb.dg (by rw[ha.val,hb.val];omega)).mono (λ_ _ ⟨z,k,c',q,h1,h2,h3,h4,h5,h6,h8,h7⟩=>⟨z,k,c',q,h1,h2,h4,⟨h3,h5,h6,by rw[h7,ha.val,hb.val];omega⟩,h8⟩)
theorem Dn.len {w x n d A y m g B} (ha:Dn w x n d A) (hb:Dn w y m g B) (hle:A<=B):n<=m:=zdj ha.dg hb.dg ha.fm (by rw[ha.val,hb.val];omega)
theorem Dn.setq {w x n d A G i u} (h:Dn w x n d A) (hG:∀a,x=some a->G<a.block):Dn (w.setCell ⟨G,i,none⟩ u) x n d A:=⟨h.rd.only ((Only.refl _ _).setCell _ _ _) (λa ha=>by have:=hG a ha;omega),h.dg,h.fm,h.val⟩
theorem zgd {A V Qv R β k} (h:A/2^(k+1)=Qv*V+R) (hb:A/2^k%2=β):A/2^k=2*Qv*V+(R+R+β):=by
 have:A/2^(k+1)=A/2^k/2:=by rw[Nat.pow_succ,Nat.div_div_eq_div_mul]
 have e:2*Qv*V=2*(Qv*V):=Nat.mul_assoc _ _ _;omega
theorem div_next1 {A V Qv R β k} (h:A/2^(k+1)=Qv*V+R) (hb:A/2^k%2=β) (hge:V<=R+R+β):A/2^k=(2*Qv+1)*V+(R+R+β-V):=by
 have:=zgd h hb;rw[Nat.add_mul,Nat.one_mul];omega
theorem zkH {A V Q R:Nat} (h:A=Q*V+R) (hR:R<V):A/V=Q/\A%V=R:=by
 subst h;constructor
 ·rw[Nat.mul_comm,Nat.mul_add_div (by omega),Nat.div_eq_of_lt hR,Nat.add_zero]
 ·rw[Nat.mul_comm,Nat.mul_add_mod,Nat.mod_eq_of_lt hR]
theorem zoU {w x n c f A y m e g V} (ha:Dn w x n f A) (hb:Dn w y m g V) (hn:n<=520000) (hm:m<=520000) (hV:0<V) (hm1:m≠1) :
  Calls prog 116 #[slice x n c,slice y m e] w λe w'=>∃zq kq cq q zr kr cr r,e=returned (.tuple #[slice zq kq cq,slice zr kr cr])/\Bl w w'/\Hid (kq<=n/\kr<=m/\Dn w' zq kq q (A/V)/\Dn w' zr kr r (A%V)):=by
 have HA:=zk ha;have HB:=zk hb
 clear ha hb;have hmd:((m:Int)==1)=false:=by simp;omega
 go_enter func116,ntmps116;go_wp2_with(at_make;refine zah .u64 w rfl (.tmp 20) (.tmp 20) 22 rfl 49 8 underlying22 zT .i64 .i64 n n n rfl rfl rfl rfl (by omega) (by unfold maxLen;omega) ?_;intro wa hba hbela)
 have HAa:=zk (HA.out.q_ hbela);have HBa:=zk (HB.out.q_ hbela)
 have HQ:=zk hba;have HW:=zk hbela
 clear hba hbela;refine(zoX x n c f _ (by omega) HAa.out.rd HAa.out.dg).mono ?_;rintro e w1 ⟨B,rfl,⟨q0,hq⟩,HBt⟩;have hb:=zdZ hq;have HQ1:=zk (HQ.out.q_ hb HQ.out.lt);have HW1:=zJ HW hb
 clear hq hb HQ HW HAa HBa;have hB32:=HBt.out.1;go_wp2;go_loopw[7,8] (λu t wr=>∃(k kr cr R Qv:Nat) (z:Option Addr) (d Q:Nat->Int),k<=B/\t=.int .i64 ((k:Int)-1)/\u=slice z kr cr/\Hid (Bl w wr)/\Hid (Blk .u64 49 wr w.heap.size n Q)/\Hid (Dg Q n)/\Hid (Dn wr z kr d R)/\Hid (∀a,z=some a->w.heap.size<a.block)/\Hid (R<V)/\Hid (vd Q n=((Qv*2^k:Nat):Int))/\Hid (A/2^k=Qv*V+R)) (λ_ t _=>(intOf t+1).toNat)
 case atStart =>
  refine⟨B,0,0,0,0,none,λ_=>0,λ_=>0,by omega,rfl,rfl,HW1.out,HQ1.out,λj _=>⟨Int.le_refl 0,show(0:Int)<4294967296 by decide⟩,⟨Rd.zero,λj hj=>by omega,.inl rfl,rfl⟩,(λa h=>by cases h),hV,zk (by rw[zey (λ_ _=>rfl)];simp),zk ?_⟩;have h2:=HBt.out.2;rw[HA.out.val]at h2
  rw[Nat.div_eq_of_lt (by exact_mod_cast h2)];omega
 case round =>
  clear HQ1 HW1;obtain⟨k,kr,cr,R,Qv,z,d,Q,hk,rfl,rfl,HWr,HQr,HDg,HR,HO,HRV,HVq,HVa⟩:=hrel;have HAr:=zk (HA.out.q_ HWr.out);have HBr:=zk (HB.out.q_ HWr.out)
  have hkr:kr<=m:=HR.out.len HBr.out (Nat.le_of_lt HRV.out);cases k with
  | zero =>
   go_wp2_with fail
   refine(zcD (some ⟨w.heap.size,0,none⟩) n n Q wr (le_refl _) (by omega) (HQr.out.rd0 (le_refl _)) (λh=>by cases h)).mono ?_;rintro e w2 ⟨rfl,k1,hk1,hz,hfm,rfl⟩;have HZ2:=zk hz;have HFM:=zk hfm
   clear hz hfm;go_wp2
   go_ret2
   have hA:A=Qv*V+R:=by have:=HVa.out;simpa using this
   obtain⟨e1,e2⟩:=zkH hA HRV.out;refine⟨_,k1,_,Q,z,kr,cr,d,rfl,HWr.out,hk1,hkr,⟨(HQr.out.rd0 (le_refl _)).take hk1,HDg.out.mono hk1,HFM.out,?_⟩,by rw[e2];exact HR.out⟩;rw[zaO hk1 HZ2.out,HVq.out,e1];simp
  | succ k =>
   have hkb:k<32*n:=by have:=HBt.out.1;omega
   obtain⟨β,hβ⟩:∃β,A/2^k%2=β:=⟨_,rfl⟩;have hβ1:β<2:=by rw[<-hβ];exact Nat.mod_lt _ (by decide)
   have HBe:=zk hβ;have CB:=zk (show ∀W,Bl wr W->Calls prog 139 #[slice x n c,.int .i64 (k:Int)] W λe w'=>e=returned (.int .u64 (β:Int))/\w'=W from λW hW=>(zqY x n c f k W (by omega) (HAr.out.q_ hW).rd HAr.out.dg hkb).mono (λe w' ⟨h1,h2⟩=>⟨by rw[h1,HAr.out.val,<-hβ];simp,h2⟩));clear hβ;go_wp2_with fail
   refine(zkJ HR.out HR.out (by omega) (by omega)).mono ?_;rintro e w2 ⟨z2,k2,c2,d2,rfl,hb2,H2⟩;have HB2:=zk hb2;clear hb2;go_wp2_with fail
   refine(CB.out _ HB2.out).mono ?_;rintro e w3 ⟨rfl,rfl⟩;go_wp2_with fail
   refine(zhi (V:=β) (by omega)).mono ?_;rintro e w4 ⟨z4,k4,c4,d4,rfl,hb4,H4⟩;have HB4:=zk hb4;clear hb4;have hk2:=H2.out.1;have hk4:=H4.out.1
   go_wp2_with fail
   refine(zkJ (H2.out.2.1.q_ HB4.out) H4.out.2 (by omega) (by omega)).mono ?_;rintro e w5 ⟨z5,k5,c5,d5,rfl,hb5,H5⟩;have HB5:=zk (HB2.out.trans ((HB4.out.mono HB2.out.size).trans (hb5.mono (le_trans HB2.out.size HB4.out.size))));have hk5:=H5.out.1;have HO5:Hid (∀a,z5=some a->w.heap.size<a.block):=λa ha=>by
    have h1:=H5.out.2.2 a ha;have h2:=HB2.out.size;have h3:=HB4.out.size;have h4:=HQr.out.lt;omega
   clear hb5 HB2 HB4 H2 H4 CB;go_wp2_with fail
   refine(zgJ z5 y k5 m c5 e d5 g _ (by omega) (by omega) H5.out.2.1.rd (HBr.out.q_ HB5.out).rd H5.out.2.1.dg HBr.out.dg H5.out.2.1.fm HBr.out.fm).mono ?_;rintro e w6 ⟨⟨q6,hq6⟩,cc,rfl,hord⟩;have hb6:=zdZ hq6;rw[H5.out.2.1.val,HBr.out.val]at hord
   have HB6:=zJ HB5 hb6;have H6:=zk (H5.out.2.1.q_ hb6)
   clear hq6 hb6 HB5 H5;by_cases hge:V<=R+R+β
   ·have hsg:decide ((0:Int)<=cc)=true:=by
     rcases hord with⟨h1,h2⟩|⟨h1,h2⟩|⟨h1,h2⟩ <;> subst h1 <;> first|rfl|(exfalso;omega)
    clear hord;go_wp2_with fail
    refine(zhj H6.out (HBr.out.q_ HB6.out) (by omega) (by omega) hge).mono ?_;rintro e w7 ⟨z7,k7,c7,d7,rfl,hb7,H7⟩;have HB7:=zJ HB6 hb7;have HO7:Hid (∀a,z7=some a->w.heap.size<a.block):=λa ha=>by
     have h1:=H7.out.2.2 a ha;have h2:=HB6.out.size;have h4:=HQr.out.lt;omega
    clear hb7 HB6 H6 hsg;obtain⟨j,s,hjs,hs⟩:∃j s,k=32*j+s/\s<=31:=⟨k/32,k%32,by omega,by omega⟩;have hj:j<n:=by omega
    have HQ7:=zk (HQr.out.q_ HB7.out HQr.out.lt);obtain⟨u,hu⟩:∃u,Q j=u:=⟨_,rfl⟩;have hcell:=HQ7.out.cell hj;have hfz:=HQ7.out.frozen j;obtain⟨u0,u1⟩:=HDg.out j hj;have hpow:((Qv*2^(k+1):Nat):Int)=(Qv:Int)*(2^(s+1)*pd j):=by
     rw[zdU,<-Int.pow_add,hjs,show s+1+32*j=32*j+s+1 by omega];simp
    have hroom:=znY HDg.out hj hs (HVq.out.trans hpow);rw[hu]at hcell u0 u1 hroom
    have hp0:=zbV s;have hp1:=zsl hs;obtain⟨P,hP⟩:∃P:Int,2^s=P:=⟨_,rfl⟩;rw[hP]at hp0 hp1 hroom
    have z1:(k:Int)<=67108927:=by omega
    have h3:Int.tdiv (k:Int) 32=(j:Int):=by rw[Int.tdiv_eq_ediv_of_nonneg (by omega)];omega
    have h4:Int.tmod (k:Int) 32=(s:Int):=by rw[Int.tmod_eq_emod_of_nonneg (by omega)];omega
    have h5:IntKind.u64.wrap (2^s)=P:=by rw[hP,IntKind.wrap_u64];omega
    have h6:k/32=j:=by omega
    have h7:k%32=s:=by omega
    have h8:(k:Int)/32=(j:Int):=by omega
    have h9:(k:Int)%32=(s:Int):=by omega
    have HU:=zk hu;have HP:=zk hP;have HJS:=zk hjs
    clear hu hP hpow hjs;go_wp2_with fail
    go_region
    all_goals go_wp2
    go_roundw
    case rel =>
     refine⟨k,k7,c7,R+R+β-V,2*Qv+1,z7,d7,upd Q j (u+P),by omega,by go_num,rfl,zV (bUp HWr.out HB7.out) (((Only.refl _ _).setCell _ _ _).drew) (le_refl _) (le_trans HWr.out.size HB7.out.size),(HQ7.out.set _ _).drew,HDg.out.upd ⟨by omega,hroom⟩,(H7.out.2.1.setq HO7.out).drew,HO7.out,zk ?_,zk ?_,zk (div_next1 HVa.out HBe.out hge)⟩
     ·have:=HRV.out;omega
     ·rw[zqG hj,HVq.out,HU.out,<-HP.out,zdU,show u+2^s-u=(2:Int)^s by omega,<-Int.pow_add,show s+32*j=k by have:=HJS.out;omega,Nat.pow_succ]
      push_cast
      grind
    case measure=>simp[intOf]
   ·have hsg:decide ((0:Int)<=cc)=false:=by
     rcases hord with⟨h1,h2⟩|⟨h1,h2⟩|⟨h1,h2⟩ <;> subst h1 <;> first|rfl|(exfalso;omega)
    clear hord;go_wp2;go_roundw
    case rel =>
     refine⟨k,k5,c5,R+R+β,2*Qv,z5,d5,Q,by omega,by go_num,rfl,bUp HWr.out HB6.out,HQr.out.q_ HB6.out HQr.out.lt,HDg.out,H6.out,HO5.out,zk (by omega),zk ?_,zk (zgd HVa.out HBe.out)⟩;rw[HVq.out,Nat.pow_succ];push_cast;grind
    case measure=>simp[intOf]
theorem zoT {w x n c f A y e g V} (ha:Dn w x n f A) (hb:Dn w y 1 g V) (hn:n<=520000) :
  Calls prog 116 #[slice x n c,slice y 1 e] w λe w'=>∃zq kq cq q zr kr cr r,e=returned (.tuple #[slice zq kq cq,slice zr kr cr])/\Bl w w'/\Hid (kq<=n/\kr<=1/\Dn w' zq kq q (A/V)/\Dn w' zr kr r (A%V)):=by
 obtain⟨b,o,rfl⟩:=hb.rd.at (by omega);have hcell:=hb.rd.cell (j:=0) (by omega);obtain⟨t0,t1⟩:=hb.dg 0 (by omega);have hv:=hb.val;have hne:g 0≠0:=by rcases hb.fm with h|h;omega;exact h
 obtain⟨t,ht⟩:∃t,g 0=t:=⟨_,rfl⟩;have hv1:vd g 1=g 0:=by simp[vd,pd]
 rw[hv1]at hv
 rw[ht]at hcell t0 t1 hv hne
 rw[Nat.add_zero]at hcell
 have HA:=zk ha;have HV:=zk hv
 clear ha hb ht hv hv1;go_enter func116,ntmps116;go_wp2_with fail
 refine(zoL x n c f t _ (by omega) HA.out.rd HA.out.dg (by omega) t1).mono ?_;rintro e w2 ⟨a1,k1,c1,q,a2,k2,c2,R,rfl,hb2,hk1,hr1,hd1,hf1,hk2,hr2,hx2,hf2,hR0,hR1,hval⟩;have hq0:=zbd hd1;have hres:Hid (k1<=n/\k2<=1/\Dn w2 a1 k1 q (A/V)/\Dn w2 a2 k2 (λ_=>R) (A%V)):=by
  obtain⟨Q,hQ⟩:∃Q:Nat,vd q k1=Q:=⟨(vd q k1).toNat,by omega⟩;obtain⟨r,hr⟩:∃r:Nat,R=r:=⟨R.toNat,by omega⟩;have e1:A=Q*V+r:=by
   rw[HA.out.val,hQ,hr,HV.out]at hval
   exact_mod_cast hval
  obtain⟨e2,e3⟩:=zkH e1 (by have:=HV.out;omega);refine⟨hk1,hk2,⟨hr1,hd1,hf1,by rw[hQ,e2]⟩,⟨hr2,λj hj=>⟨hR0,by omega⟩,hf2,?_⟩⟩;rw[e3];rcases(show k2=0∨k2=1 by omega)with h|h
  ·subst h;have:=hx2 rfl;simp[vd];omega
  ·subst h;simp[vd,pd];exact hr
 have HB2:=zk hb2;clear hb2 hr1 hd1 hf1 hr2 hx2 hf2 hval hq0;go_wp2
 go_ret2
 exact⟨a1,k1,c1,q,a2,k2,c2,_,rfl,HB2.out,hres.out⟩
theorem zmF {w x n c f A y m e g V} (ha:Dn w x n f A) (hb:Dn w y m g V) (hn:n<=520000) (hm:m<=520000) (hV:0<V) :
  Calls prog 116 #[slice x n c,slice y m e] w λe w'=>∃zq kq cq q zr kr cr r,e=returned (.tuple #[slice zq kq cq,slice zr kr cr])/\Bl w w'/\Hid (kq<=n/\kr<=m/\Dn w' zq kq q (A/V)/\Dn w' zr kr r (A%V)):=by
 by_cases h1:m=1
 ·subst h1;exact zoT ha hb hn
 ·exact zoU ha hb hn hm hV h1
theorem zqT (ao:Option Addr) (n ca o:Nat) (z s:Int) (f:Nat->Int) (w:World) (hn:n<=1048576) (ho:o<=1048576) (s0:0<=s) (s1:s<=31) (hz:z=32*o+s) (hr:Rd .u64 w ao n f) (hf:Dg f n) :
  Calls prog 135 #[slice ao n ca,.int .i64 z] w λe w'=>∃ao' k cap' D,e=returned (slice ao' k cap')/\Bl w w'/\Rd .u64 w' ao' k D/\k<=o+n+1/\Dg D k/\Fm D k/\vd D k=vd f n*(2^s.toNat*pd o):=by
 have HF:=zk hf;have HRd:=zk hr;clear hf hr;have z0:0<=z:=by omega
 have z1:z<=67108927:=by omega
 have h1:z/32=(o:Int):=by omega
 have h2:z%32=s:=by omega
 have h3:Int.tdiv z 32=(o:Int):=by rw[Int.tdiv_eq_ediv_of_nonneg z0];exact h1
 have h4:Int.tmod z 32=s:=by rw[Int.tmod_eq_emod_of_nonneg z0];exact h2
 clear hz;by_cases hn0:n=0
 ·subst hn0;go_enter func135,ntmps135;go_wp2;go_ret;exact⟨none,0,0,f,rfl,Below.refl _ _,Rd.zero,by omega,λj hj=>by omega,.inl rfl,by simp[vd]⟩
 ·have hnz:((n:Int)==0)=false:=by simp;omega
  have p0:(0:Int)<2^s.toNat:=pow_pos (by decide);have p1:(2:Int)^s.toNat<=2147483648:=by
   have:(2:Int)^s.toNat*2^(31-s).toNat=2147483648:=by rw[<-Int.pow_add,show s.toNat+(31-s).toNat=31 by omega];rfl
   have q0:(0:Int)<2^(31-s).toNat:=pow_pos (by decide);have:=Int.mul_le_mul_of_nonneg_left (show(1:Int)<=2^(31-s).toNat by omega) (le_of_lt p0);omega
  have P0:=zk p0;have P1:=zk p1;clear p0 p1;go_enter func135,ntmps135;go_wp2_with(at_make;refine zem .u64 w rfl (.tmp 13) (.tmp 19) 22 rfl 49 8 underlying22 zT .i64 .i64 _ _ o (o+n+1) rfl rfl (by omega) (by omega) (by omega) (by omega) (by unfold maxLen;omega) ?_;intro w1 hb1 hbel1)
  have HO1:=zk (zdm hb1 (base:=w.heap.size) (n:=o) (le_refl _) (by omega) (by unfold maxLen;omega));clear hb1;go_loopw[5,6,23] (λv c t wr=>∃(k:Nat) (cc:Int) (D:Nat->Int),k<=n/\t=.int .i64 k/\c=.int .u64 cc/\0<=cc/\cc<2147483648/\Hid (cc<2^s.toNat)/\Bl w wr/\Hid (Own .u64 49 wr w.heap.size v (o+k) D)/\Hid (Dg D (o+k))/\Hid (vd D (o+k)+cc*pd (o+k)=vd f k*(2^s.toNat*pd o))) (λ_ _ t _=>n-(intOf t).toNat)
  case atStart=>exact⟨0,0,λ_=>0,by omega,rfl,rfl,by omega,by omega,P0.out,hbel1,HO1.out,λj hj=>⟨Int.le_refl 0,show(0:Int)<4294967296 by decide⟩,by simp[Hid,vd,zey]⟩
  case round =>
   clear hbel1 HO1;obtain⟨k,cc,D,hk,rfl,rfl,c0,c1,HC,hbel,HO,HDg,HV⟩:=hrel;by_cases hlt:k<n
   ·have hrA:=HRd.out;obtain⟨b,ob,rfl⟩:=hrA.at (by omega);obtain⟨x,hx⟩:∃x,f k=x:=⟨_,rfl⟩;have hcell:wr.cell? ⟨b,ob+k,none⟩=some (.int .u64 x):=by rw[<-hx];exact(hrA.q_ hbel (le_refl _)).cell hlt
    obtain⟨x0,x1⟩:=HF.out k hlt;rw[hx]at x0 x1
    have HX:=zk hx;clear hx hrA;obtain⟨d1,d2,d3,d4,d5⟩:=zjo c0 HC.out x0 x1 P0.out;obtain⟨X,eX,HXe⟩:∃X,IntKind.u64.wrap (x*2^s.toNat)=X/\Hid (X=x*2^s.toNat):=⟨x*2^s.toNat,by have:=P1.out;rw[IntKind.wrap_u64];omega,rfl⟩;have X0:0<=X:=by rw[HXe.out];exact d4
    have X1:X<9223372036854775808:=by have:=P1.out;rw[HXe.out];omega
    have HD3:=zk d3;clear d1 d2 d3 d4 d5;go_wp2_with(at_builtin;refine zD .u64 _ rfl (.tmp 33) (.tmp 36) 22 rfl w.heap.size 49 8 underlying22 zT _ (o+k) D rfl (Own.alloc HO.out _) wr.heap.size 0 1 1 (λ_=>(cc+X)%4294967296) rfl (zaG wr _ _) ?c1 ?c2 ?c3 ?_)
    case c1=>unfold maxLen;omega
    case c2=>omega
    case c3=>have:=hbel.size;simp;omega
    intro v' w' hown hgr;have hbel2:Bl w w':=(hbel.alloc hbel.size _).grown hgr (by have:=hbel.size;simp;omega) (λk h=>(Own.ge HO.out k h));have HO2:=zk hown;clear hown hgr HO;go_wp2;go_roundw
    case rel =>
     refine⟨k+1,_,_,by omega,by go_num,rfl,by omega,?_,?_,hbel2,HO2.out,zbc HDg.out (by omega),?_⟩
     ·have h5:=HD3.out;have h6:=P1.out;rw[<-HXe.out]at h5;omega
     ·have h5:=HD3.out;rw[<-HXe.out]at h5;exact h5
     ·have h5:=zlH HV.out HX.out;rw[<-HXe.out]at h5;exact h5
    case measure=>simp[intOf];omega
   ·have hkn:k=n:=by omega
    subst hkn;go_wp2_with(at_builtin;refine zD .u64 _ rfl (.tmp 41) (.tmp 43) 22 rfl w.heap.size 49 8 underlying22 zT _ (o+k) D rfl (Own.alloc HO.out _) wr.heap.size 0 1 1 (λ_=>cc) rfl (zaG wr _ _) ?c1 ?c2 ?c3 ?_)
    case c1=>unfold maxLen;omega
    case c2=>omega
    case c3=>have:=hbel.size;simp;omega
    intro v' w' hown hgr;have hbel2:Bl w w':=(hbel.alloc hbel.size _).grown hgr (by have:=hbel.size;simp;omega) (λk h=>(Own.ge HO.out k h));obtain⟨ao',cap',hv,hcc,hnn,hml,hrd,hlt3⟩:=Own.shape hown;unfold maxLen at hml;subst hv;clear hown hgr HO hlt3;go_wp2_with fail
    refine(zcD ao' (o+k+1) cap' (cat D (o+k) (λ_=>cc)) w' hcc hml hrd hnn).mono ?_;rintro e w2 ⟨rfl,m',hm1,hz,hfm,rfl⟩;have HZ:=zk hz;have HFM:=zk hfm;clear hz hfm;go_wp2;go_ret;refine⟨ao',m',cap',_,rfl,hbel2,hrd.take hm1,by omega,(zbc HDg.out (by omega)).mono hm1,HFM.out,?_⟩;rw[zaO hm1 HZ.out,zdw,HV.out]
theorem zoH {b} (h:b%2=1):Nat.Coprime 2 b:=by
 unfold Nat.Coprime;have h1:Nat.gcd 2 b ∣ 2:=Nat.gcd_dvd_left _ _;have h2:Nat.gcd 2 b ∣ b:=Nat.gcd_dvd_right _ _;have h3:=Nat.le_of_dvd (by decide) h1;have h4:Nat.gcd 2 b≠0:=by intro h;rw[h]at h1;simp at h1
 rcases(show Nat.gcd 2 b=1∨Nat.gcd 2 b=2 by omega)with h5|h5
 ·exact h5
 ·rw[h5]at h2;omega
theorem zlD {a b:Nat} (ha:a%2=0) (hb:b%2=0):Nat.gcd a b=Nat.gcd (a/2) (b/2)*2:=by
 rw[<-Nat.gcd_mul_right,show a/2*2=a by omega,show b/2*2=b by omega]
theorem zgb {a b:Nat} (ha:a%2=0) (hb:b%2=1):Nat.gcd (a/2) b=Nat.gcd a b:=by
 have:=Nat.Coprime.gcd_mul_left_cancel (a/2) (zoH hb);rw[show 2*(a/2)=a by omega]at this
 exact this.symm
theorem zlC {a b:Nat} (ha:a%2=1) (hb:b%2=0):Nat.gcd a (b/2)=Nat.gcd a b:=by
 rw[Nat.gcd_comm,zgb hb ha,Nat.gcd_comm]
theorem zib {a b} (h:b<=a):Nat.gcd (a-b) b=Nat.gcd a b:=by
 have:=Nat.gcd_add_self_left b (a-b);rw[Nat.sub_add_cancel h]at this
 exact this.symm
noncomputable def dOf (w:World) (v:Value):Nat:=match v with
 | slice (some a) k _=>(vd (λj=>match w.cell? ⟨a.block,a.off+j,none⟩with|some (.int _ z)=>z|_=>0) k).toNat
 | _=>0
theorem Dn.dOf {w x n c d V} (h:Dn w x n d V):dOf w (slice x n c)=V:=by
 rcases Nat.eq_zero_or_pos n with h0|h0
 ·subst h0;rw[h.zero];cases x <;> rfl
 ·obtain⟨b,o,rfl⟩:=h.rd.at h0;have e:vd (λj=>match w.cell? ⟨b,o+j,none⟩with|some (.int _ z)=>z|_=>0) n=vd d n:=zaw (λj hj=>by
   have:=h.rd.cell hj;simp only[this])
  show(vd _ n).toNat=V;rw[e,h.val];simp
theorem Dn.par {w x n d V} (h:Dn w x n d V) (hn:0<n):(d 0%2=0 ↔ V%2=0):=by
 obtain⟨m,rfl⟩:∃m,n=m+1:=⟨n-1,by omega⟩;have h1:=zez d 0 m;rw[sh_zero,h.val]at h1
 omega
theorem zga {D f k b0 b b' v} (h:2*vd D k=vd f k-b0+b*pd k) (hv:2*v=f k-b+b'*4294967296) (D':Nat->Int) (hD:∀j,j<k->D' j=D j) (hk:D' k=v):2*vd D' (k+1)=vd f (k+1)-b0+b'*pd (k+1):=by
 rw[zQ,zQ,zau,zaw hD,hk]
 grind
theorem zeD {w x n c f A} (ha:Dn w x n f A) (hn:n<=1048576) (hA:A%2=0) (hA0:0<A) :
  Calls prog 132 #[slice x n c] w λe w'=>∃z k c' d,e=returned (slice z k c')/\Bl w w'/\Hid (k<=n/\Dn w' z k d (A/2)):=by
 have hn0:=ha.pos hA0;have hpar:=(ha.par hn0).2 hA;have HA:=zk ha;have HPar:=zk hpar
 clear ha hpar;go_enter func132,ntmps132;go_wp2_with(at_make;refine zah .u64 w rfl (.tmp 7) (.tmp 7) 22 rfl 49 8 underlying22 zT .i64 .i64 n n n rfl rfl rfl rfl (by omega) (by unfold maxLen;omega) ?_;intro wa hba hbela)
 go_loopw[11] (λt wr=>∃(k:Nat) (Q:Nat->Int),k<=n/\t=.int .i64 k/\Bl w wr/\Blk .u64 49 wr w.heap.size n Q/\Hid (Dg Q n)/\Hid (2*vd Q k=vd f k-f 0%2+(ext f n k%2)*pd k)) (λt _=>n-(intOf t).toNat)
 case atStart=>exact⟨0,λ_=>0,by omega,rfl,hbela,hba,λj _=>⟨Int.le_refl 0,show(0:Int)<4294967296 by decide⟩,zk (by rw[zap _ _ _ hn0];simp[vd,pd];omega)⟩
 case round =>
  clear hba hbela;obtain⟨k,Q,hk,rfl,hbel,hbl,HDg,HV⟩:=hrel;by_cases hlt:k<n
  ·have hr:=HA.out.rd;obtain⟨b,o,rfl⟩:=hr.at (by omega);obtain⟨y,hy⟩:∃y,f k=y:=⟨_,rfl⟩;have hcell:wr.cell? ⟨b,o+k,none⟩=some (.int .u64 y):=by rw[<-hy];exact(hr.q_ hbel (le_refl _)).cell hlt
   obtain⟨y0,y1⟩:=HA.out.dg k hlt;rw[hy]at y0 y1
   have hcz:=hbl.cell (j:=k) hlt;have hfz:=hbl.frozen k;have hbb:b≠w.heap.size:=by have:=hr.und (by omega) _ rfl;simp at this;omega
   have HX:=zk (show ext f n k=y from(zap _ _ _ hlt).trans hy);have HY:=zk hy;by_cases hlt2:k+1<n
   ·obtain⟨u,hu⟩:∃u,f (k+1)=u:=⟨_,rfl⟩;have hcelu:wr.cell? ⟨b,o+(k+1),none⟩=some (.int .u64 u):=by rw[<-hu];exact(hr.q_ hbel (le_refl _)).cell hlt2
    obtain⟨u0,u1⟩:=HA.out.dg (k+1) hlt2;rw[hu]at u0 u1
    have HU:=zk (show ext f n (k+1)=u from(zap _ _ _ hlt2).trans hu);obtain⟨s,hs⟩:∃s,y/2+u%2*2147483648=s:=⟨_,rfl⟩;have hst:=zga (D':=upd (upd Q k (y/2)) k s) (v:=s) (b':=u%2) HV.out (by rw[HX.out,hy];omega) (λj hj=>by rw[zE _ _ _ _ (by omega),zE _ _ _ _ (by omega)]) (zac _ _ _);have HSt:=zk hst;have HS:=zk hs
    have hbl2:=hbl.set k (y/2);have hcz2:=hbl2.cell (j:=k) hlt;rw[zac]at hcz2
    have hfz2:=hbl2.frozen k;have hcu2:(wr.setCell ⟨w.heap.size,k,none⟩ (.int .u64 (y/2))).cell? ⟨b,o+(k+1),none⟩=some (.int .u64 u):=by
     rw[World.cell?_setCell_other _ _ _ _ (λhe=>hbb (congrArg Addr.block he).symm)];exact hcelu
    have HBl:=zk hbl2;clear hst hy hu hr hbl2 hs;go_wp2_with fail
    go_region
    all_goals go_wp2
    go_roundw
    case rel =>
     refine⟨k+1,_,by omega,by go_num,?_,(HBl.out.set _ _).drew,(HDg.out.upd ⟨?_,?_⟩).upd ⟨?_,?_⟩,zk ?_⟩
     ·exact zV hbel ((((Only.refl _ _).setCell _ _ _).setCell _ _ _).drew) (le_refl _) hbel.size
     ·omega
     ·omega
     ·omega
     ·omega
     ·rw[HU.out];have e:=HSt.out;rw[<-HS.out]at e;exact e
    case measure=>simp[intOf];omega
   ·have HU:=zk (show ext f n (k+1)=0 from zav _ _ _ (by omega));have hst:=zga (D':=upd Q k (y/2)) (v:=y/2) (b':=0) HV.out (by rw[HX.out,hy];omega) (λj hj=>by rw[zE _ _ _ _ (by omega)]) (zac _ _ _);have HSt:=zk hst;clear hst hy hr;go_wp2;go_roundw
    case rel =>
     refine⟨k+1,_,by omega,by go_num,?_,hbl.set _ _,HDg.out.upd ⟨?_,?_⟩,zk ?_⟩
     ·exact zV hbel ((Only.refl _ _).setCell _ _ _) (le_refl _) hbel.size
     ·omega
     ·omega
     ·rw[HU.out];exact HSt.out
    case measure=>simp[intOf];omega
  ·obtain rfl:k=n:=by omega
   go_wp2_with fail
   refine(zcD (some ⟨w.heap.size,0,none⟩) k k Q wr (le_refl _) (by omega) (hbl.rd0 (le_refl _)) (λh=>by cases h)).mono ?_;rintro e w2 ⟨rfl,k1,hk1,hz,hfm,rfl⟩;have HZ2:=zk hz;have HFM:=zk hfm
   clear hz hfm;go_wp2;go_ret;refine⟨_,k1,_,Q,rfl,hbel,hk1,(hbl.rd0 (le_refl _)).take hk1,HDg.out.mono hk1,HFM.out,?_⟩;rw[zaO hk1 HZ2.out];have h1:=HV.out;rw[zav _ _ _ (le_refl _),HPar.out,HA.out.val]at h1
   omega
theorem zmi {w x n d A a k} (h:Dn w x n d A) (ha:a*2^k=A) (h0:0<a):k<32*n:=by
 have h1:=zcr h.dg;rw[h.val,zdU]at h1
 have h2:A<2^(32*n):=by exact_mod_cast h1
 apply Nat.lt_of_not_le;intro hge
 have h3:2^(32*n)<=2^k:=Nat.pow_le_pow_right (by decide) hge;have h4:1*2^k<=a*2^k:=Nat.mul_le_mul_right _ h0;omega
theorem zlB {a k A} (h:a*2^k=A) (ha:a%2=0):a/2*2^(k+1)=A:=by
 rw[Nat.pow_succ,<-h];have:a=a/2*2:=by omega
 generalize a/2=u at *;subst this;rw[Nat.mul_assoc,Nat.mul_comm (2^k) 2]
theorem zmD {w x n c f A y m e g B} (ha:Dn w x n f A) (hb:Dn w y m g B) (hn:n<=520000) (hm:m<=520000) :
  Calls prog 115 #[slice x n c,slice y m e] w λe w'=>∃z k c' d,e=returned (slice z k c')/\Bl w w'/\Hid (k<=n+m/\Dn w' z k d (Nat.gcd A B)):=by
 by_cases hn0:n=0
 ·subst hn0;have hA:=ha.zero;have HB:=zk hb;have HA0:=zk hA
  clear ha hb hA;go_enter func115,ntmps115;go_wp2;go_ret;exact⟨y,m,e,g,rfl,Below.refl _ _,by omega,by rw[HA0.out,Nat.gcd_zero_left];exact HB.out⟩
 by_cases hm0:m=0
 ·subst hm0;have hB:=hb.zero;have HA:=zk ha;have HB0:=zk hB
  have hnd:((n:Int)==0)=false:=by simp;omega
  clear ha hb hB;go_enter func115,ntmps115;go_wp2;go_ret;exact⟨x,n,c,f,rfl,Below.refl _ _,by omega,by rw[HB0.out,Nat.gcd_zero_right];exact HA.out⟩
 have hnd:((n:Int)==0)=false:=by simp;omega
 have hmd:((m:Int)==0)=false:=by simp;omega
 have HAp:=zk (ha.pos' (by omega));have HBp:=zk (hb.pos' (by omega))
 have HA:=zk ha;have HB:=zk hb
 clear ha hb;go_enter func115,ntmps115;go_wp2;go_loopw[0,1,5] (λu v t wr=>∃(za:Option Addr) (na ca a:Nat) (fa:Nat->Int) (zb:Option Addr) (nb cb b:Nat) (fb:Nat->Int) (k:Nat),u=slice za na ca/\v=slice zb nb cb/\t=.int .i64 (k:Int)/\na<=n/\nb<=m/\k<=32*n/\Hid (Bl w wr)/\Hid (Dn wr za na fa a)/\Hid (Dn wr zb nb fb b)/\Hid (0<a/\0<b/\a*2^k=A/\Nat.gcd a b*2^k=Nat.gcd A B)) (λ_ _ t _=>32*n+1-(intOf t).toNat)
 case atStart=>exact⟨x,n,c,A,f,y,m,e,B,g,0,rfl,rfl,rfl,by omega,by omega,by omega,Below.refl _ _,HA.out,HB.out,HAp.out,HBp.out,by simp,by simp⟩
 case round =>
  obtain⟨za,na,ca,a,fa,zb,nb,cb,b,fb,k,rfl,rfl,rfl,hna,hnb,hk,HW,HDa,HDb,HV⟩:=hrel;have hna0:=HDa.out.pos HV.out.1;have hnb0:=HDb.out.pos HV.out.2.1;have hkk:=zmi HA.out HV.out.2.2.1 HV.out.1;obtain⟨ba,oa,rfl⟩:=HDa.out.rd.at hna0;obtain⟨bb,ob,rfl⟩:=HDb.out.rd.at hnb0;have hca:=HDa.out.rd.cell hna0;have hcb:=HDb.out.rd.cell hnb0;obtain⟨xa,hxa⟩:∃t,fa 0=t:=⟨_,rfl⟩;obtain⟨xb,hxb⟩:∃t,fb 0=t:=⟨_,rfl⟩;obtain⟨xa0,xa1⟩:=HDa.out.dg 0 hna0;obtain⟨xb0,xb1⟩:=HDb.out.dg 0 hnb0;have hpa:=HDa.out.par hna0;have hpb:=HDb.out.par hnb0;rw[hxa]at hca xa0 xa1 hpa
  rw[hxb]at hcb xb0 xb1 hpb
  rw[Nat.add_zero]at hca hcb
  clear hxa hxb;by_cases hev:a%2=0/\b%2=0
  ·have hea:xa%2=0:=hpa.2 hev.1;have heb:xb%2=0:=hpb.2 hev.2;have HE:=zk hev;clear hev hpa hpb;go_wp2_with fail
   refine(zeD HDa.out (by omega) HE.out.1 HV.out.1).mono ?_;rintro e w2 ⟨z2,k2,c2,d2,rfl,hb2,H2⟩;have HB2:=zk hb2;clear hb2;go_wp2_with fail
   refine(zeD (HDb.out.q_ HB2.out) (by omega) HE.out.2 HV.out.2.1).mono ?_;rintro e w3 ⟨z3,k3,c3,d3,rfl,hb3,H3⟩;have HB3:=zk hb3;have hk2:=H2.out.1;have hk3:=H3.out.1
   clear hb3;go_wp2;go_roundw
   case rel =>
    refine⟨z2,k2,c2,a/2,d2,z3,k3,c3,b/2,d3,k+1,rfl,rfl,by go_num,by omega,by omega,by omega,HW.out.trans ((bUp HB2.out HB3.out).mono HW.out.size),H2.out.2.q_ HB3.out,H3.out.2,?_,?_,zlB HV.out.2.2.1 HE.out.1,?_⟩
    ·have:=HE.out;have:=HV.out.1;omega
    ·have:=HE.out;have:=HV.out.2.1;omega
    ·rw[<-HV.out.2.2.2,zlD HE.out.1 HE.out.2,Nat.pow_succ,Nat.mul_assoc,Nat.mul_comm 2 (2^k)]
   case measure=>simp[intOf];omega
  ·have hodd:a%2=1∨b%2=1:=by omega
   have HOd:=zk hodd;have hcase:(xa%2==0)=false∨(xa%2=0/\(xb%2==0)=false):=by
    by_cases h1:xa%2=0
    ·right;refine⟨h1,by simp;intro h2;exact hev ⟨hpa.1 h1,hpb.1 h2⟩⟩
    ·exact .inl (by simp;exact h1)
   obtain⟨g0,hg0⟩:∃g0,Nat.gcd a b=g0:=⟨_,rfl⟩;have HG0:=zk hg0;have HG1:Hid (g0*2^k=Nat.gcd A B):=by rw[<-hg0];exact HV.out.2.2.2
   clear hev hpa hpb hodd hg0;rcases hcase with hcd|⟨hcd,hcd2⟩
   all_goals
    go_wp2;go_loopw[0,1] (λu v wr=>∃(za:Option Addr) (na ca a:Nat) (fa:Nat->Int) (zb:Option Addr) (nb cb b:Nat) (fb:Nat->Int),u=slice za na ca/\v=slice zb nb cb/\na<=n+m/\nb<=n+m/\Hid (Bl w wr)/\Hid (Dn wr za na fa a)/\Hid (Dn wr zb nb fb b)/\Hid (0<b/\(a%2=1∨b%2=1)/\Nat.gcd a b=g0)) (λu v wr=>dOf wr u+dOf wr v)
    case atStart=>exact⟨_,na,ca,a,fa,_,nb,cb,b,fb,rfl,rfl,by omega,by omega,HW.out,HDa.out,HDb.out,HV.out.2.1,HOd.out,HG0.out⟩
    case round =>
     clear hcd HDa HDb HW hca hcb HOd HG0 HV;obtain⟨za,na,ca,a,fa,zb,nb,cb,b,fb,rfl,rfl,hna,hnb,HW,HDa,HDb,HV⟩:=hrel;obtain⟨wr1,hwr⟩:∃x:World,x=wr:=⟨wr,rfl⟩;subst hwr
     by_cases hz:na=0
     ·subst hz;have ha0:=HDa.out.zero;have hbg:b=g0:=by have:=HV.out.2.2;rw[ha0,Nat.gcd_zero_left]at this;exact this
      have HBG:=zk hbg;clear ha0 hbg;go_wp2_with fail
      refine(zqT zb nb cb (k/32) k ((k%32:Nat):Int) fb _ (by omega) (by omega) (by omega) (by omega) (by omega) HDb.out.rd HDb.out.dg).mono ?_;rintro e w9 ⟨z9,k9,c9,d9,rfl,hb9,hr9,hk9,hd9,hf9,hv9⟩;have hdn:Dn w9 z9 k9 d9 (Nat.gcd A B):=⟨hr9,hd9,hf9,by
       rw[hv9,HDb.out.val,HBG.out,<-HG1.out,zdU,<-Int.pow_add,show((k%32:Nat):Int).toNat+32*(k/32)=k by omega];simp⟩
      have hle:=hdn.len (HA.out.q_ (bUp HW.out hb9)) (Nat.le_of_dvd HAp.out (Nat.gcd_dvd_left _ _));have H9:=zk hdn;have HB9:=zk hb9
      clear hdn hb9 hr9 hd9 hf9 hv9;go_wp2;go_ret;exact⟨z9,k9,c9,d9,rfl,bUp HW.out HB9.out,by omega,H9.out⟩
     ·have hz0:0<na:=by omega
      have hzd:decide (0<na)=true:=decide_eq_true hz0;have ha0:=HDa.out.pos' (by omega);have HA0:=zk ha0;clear ha0;go_wp2;go_loopw[0] (λu wr=>∃(zc:Option Addr) (nc cc c:Nat) (fc:Nat->Int),u=slice zc nc cc/\nc<=n+m/\Hid (Bl wr1 wr)/\Hid (Dn wr zc nc fc c)/\Hid (0<c/\c<=a/\(c%2=1∨b%2=1)/\Nat.gcd c b=g0)) (λu wr=>dOf wr u)
      case atStart=>exact⟨za,na,ca,a,fa,rfl,hna,Below.refl _ _,HDa.out,HA0.out,le_refl _,HV.out.2⟩
      case round =>
       obtain⟨zc,nc,cc,c,fc,rfl,hnc,HW2,HDc,HV2⟩:=hrel;obtain⟨wr2,hwr⟩:∃x:World,x=wr:=⟨wr,rfl⟩;subst hwr
       have hnc0:=HDc.out.pos HV2.out.1;obtain⟨bc,oc,rfl⟩:=HDc.out.rd.at hnc0;have hcc:=HDc.out.rd.cell hnc0;obtain⟨xc,hxc⟩:∃t,fc 0=t:=⟨_,rfl⟩;obtain⟨xc0,xc1⟩:=HDc.out.dg 0 hnc0;have hpc:=HDc.out.par hnc0;rw[hxc]at hcc xc0 xc1 hpc
       rw[Nat.add_zero]at hcc
       clear hxc;by_cases hec:c%2=0
       ·have hec':xc%2=0:=hpc.2 hec;have HE:=zk hec;clear hec hpc;go_wp2_with fail
        refine(zeD HDc.out (by omega) HE.out HV2.out.1).mono ?_;rintro e w4 ⟨z4,k4,c4,d4,rfl,hb4,H4⟩;have HB4:=zk hb4;have hk4:=H4.out.1;clear hb4;go_wp2;go_roundw
        case rel =>
         have h1:=HV2.out.1;have h2:=HV2.out.2.1;have h3:=HE.out;have h4:=HV2.out.2.2.1
         exact⟨z4,k4,c4,c/2,d4,rfl,by omega,bUp HW2.out HB4.out,H4.out.2,by omega,by omega,by omega,(zgb h3 (by omega)).trans HV2.out.2.2.2⟩
        case measure =>
         show dOf w4 (slice z4 k4 c4)<dOf wr2 (slice _ nc cc);rw[H4.out.2.dOf,HDc.out.dOf];have:=HV2.out.1;omega
       ·have hec':(xc%2==0)=false:=by simp;intro h;exact hec (hpc.1 h)
        have HE:=zk (show c%2=1 by omega);clear hec hpc;have HDb2:=zk (HDb.out.q_ HW2.out);go_wp2;go_loopw[1] (λv wr=>∃(ze:Option Addr) (ne ce e:Nat) (fe:Nat->Int),v=slice ze ne ce/\ne<=n+m/\Hid (Bl wr2 wr)/\Hid (Dn wr ze ne fe e)/\Hid (0<e/\e<=b/\Nat.gcd c e=g0)) (λv wr=>dOf wr v)
        case atStart=>exact⟨zb,nb,cb,b,fb,rfl,hnb,Below.refl _ _,HDb2.out,HV.out.1,le_refl _,HV2.out.2.2.2⟩
        case round =>
         obtain⟨ze,ne,ce,e',fe,rfl,hne,HW3,HDe,HV3⟩:=hrel;obtain⟨wr3,hwr⟩:∃x:World,x=wr:=⟨wr,rfl⟩;subst hwr
         have hne0:=HDe.out.pos HV3.out.1;obtain⟨be,oe,rfl⟩:=HDe.out.rd.at hne0;have hce:=HDe.out.rd.cell hne0;obtain⟨xe,hxe⟩:∃t,fe 0=t:=⟨_,rfl⟩;obtain⟨xe0,xe1⟩:=HDe.out.dg 0 hne0;have hpe:=HDe.out.par hne0;rw[hxe]at hce xe0 xe1 hpe
         rw[Nat.add_zero]at hce
         clear hxe hcc;by_cases hee:e'%2=0
         ·have hee':xe%2=0:=hpe.2 hee;have HEe:=zk hee;clear hee hpe;go_wp2_with fail
          refine(zeD HDe.out (by omega) HEe.out HV3.out.1).mono ?_;rintro e w5 ⟨z5,k5,c5,d5,rfl,hb5,H5⟩;have HB5:=zk hb5;have hk5:=H5.out.1;clear hb5;go_wp2;go_roundw
          case rel =>
           have h1:=HV3.out.1;have h2:=HV3.out.2.1;have h3:=HEe.out
           exact⟨z5,k5,c5,e'/2,d5,rfl,by omega,bUp HW3.out HB5.out,H5.out.2,by omega,by omega,(zlC HE.out h3).trans HV3.out.2.2⟩
          case measure =>
           show dOf w5 (slice z5 k5 c5)<dOf wr3 (slice _ ne ce);rw[H5.out.2.dOf,HDe.out.dOf];have:=HV3.out.1;omega
         ·have hee':(xe%2==0)=false:=by simp;intro h;exact hee (hpe.1 h)
          have HEe:=zk (show e'%2=1 by omega);clear hee hpe;have HDc3:=zk (HDc.out.q_ HW3.out);have HWs:=zk (HW.out.trans ((bUp HW2.out HW3.out).mono HW.out.size));go_wp2_with fail
          refine(zgJ _ _ nc ne cc ce fc fe _ (by omega) (by omega) HDc3.out.rd HDe.out.rd HDc3.out.dg HDe.out.dg HDc3.out.fm HDe.out.fm).mono ?_;rintro e w6 ⟨⟨q6,hq6⟩,c6,rfl,hord⟩;have hb6:=zdZ hq6;rw[HDc3.out.val,HDe.out.val]at hord
          have HDc6:=zk (HDc3.out.q_ hb6);have HDe6:=zk (HDe.out.q_ hb6);have HW6:=zJ HWs hb6
          clear hq6 hb6;by_cases hlt:c<e'
          ·have hsg:decide (c6<0)=true:=by
            rcases hord with⟨h1,h2⟩|⟨h1,h2⟩|⟨h1,h2⟩ <;> subst h1 <;> first|rfl|(exfalso;omega)
           clear hord;go_wp2_with fail
           refine(zhj HDe6.out HDc6.out (by omega) (by omega) (by omega)).mono ?_;rintro e w7 ⟨z7,k7,c7,d7,rfl,hb7,H7⟩;have HB7:=zk hb7;have hk7:=H7.out.1;clear hb7 hsg;go_wp2;go_roundw
           case rel =>
            refine⟨z7,k7,c7,e'-c,d7,_,nc,cc,c,fc,rfl,rfl,by omega,hnc,bUp HW6.out HB7.out,H7.out.2.1,HDc6.out.q_ HB7.out,HV2.out.1,.inr HE.out,?_⟩;rw[zib (by omega),Nat.gcd_comm];exact HV3.out.2.2
           case measure =>
            show dOf w7 (slice z7 k7 c7)+dOf w7 (slice _ nc cc)<dOf wr1 (slice za na ca)+dOf wr1 (slice zb nb cb);rw[H7.out.2.1.dOf,(HDc6.out.q_ HB7.out).dOf,HDa.out.dOf,HDb.out.dOf];have h1:=HV2.out;have h2:=HV3.out;omega
          ·have hsg:decide (c6<0)=false:=by
            rcases hord with⟨h1,h2⟩|⟨h1,h2⟩|⟨h1,h2⟩ <;> subst h1 <;> first|rfl|(exfalso;omega)
           clear hord;go_wp2_with fail
           refine(zhj HDc6.out HDe6.out (by omega) (by omega) (by omega)).mono ?_;rintro e w7 ⟨z7,k7,c7,d7,rfl,hb7,H7⟩;have HB7:=zk hb7;have hk7:=H7.out.1;clear hb7 hsg;go_wp2;go_roundw
           case rel =>
            refine⟨z7,k7,c7,c-e',d7,_,ne,ce,e',fe,rfl,rfl,by omega,hne,bUp HW6.out HB7.out,H7.out.2.1,HDe6.out.q_ HB7.out,HV3.out.1,.inr HEe.out,?_⟩;rw[zib (by omega)];exact HV3.out.2.2
           case measure =>
            show dOf w7 (slice z7 k7 c7)+dOf w7 (slice _ ne ce)<dOf wr1 (slice za na ca)+dOf wr1 (slice zb nb cb);rw[H7.out.2.1.dOf,(HDe6.out.q_ HB7.out).dOf,HDa.out.dOf,HDb.out.dOf];have h1:=HV2.out;have h2:=HV3.out;omega
theorem zeR {w ao n cap f} (hn:n<=400000) (hr:Rd .u64 w ao n f) (hf:Lm f n) :
  Calls prog 113 #[slice ao n cap] w λe w'=>∃z k c d,e=returned (slice z k c)/\Bl w w'/\Hid (k<=2*n/\Dn w' z k d (vf f n).toNat) :=
 (zrB ao n cap f w (by omega) hr hf).mono (λ_ _ ⟨z,k,c,h1,h2,h3,h4,_,h5,h6,h7⟩=>⟨z,k,c,_,h1,h2,h4,h3,h5,h6,by rw[h7];have:=zz hf;omega⟩)
theorem zjN {w w1 a0 a1 a2 b0 b1 b2 t} (hb:Below ((w.alloc (cells #[a0,a1,a2] t)).alloc (cells #[b0,b1,b2] t)).heap.size ((w.alloc (cells #[a0,a1,a2] t)).alloc (cells #[b0,b1,b2] t)) w1) :
  Bx3 w1 w.heap.size a0 a1 a2/\Bx3 w1 (w.heap.size+1) b0 b1 b2/\Bl w w1:=by
 have h2:=zbr (w.alloc (cells #[a0,a1,a2] t)) b0 b1 b2 t;rw[zw]at h2
 exact⟨((zbr w a0 a1 a2 t).alloc _).q_ hb,h2.q_ hb,(zu (zB w _) _).trans (hb.mono (by simp;omega))⟩
theorem zdg {s t:Bool} (h:s=t):(s==t)=true:=by subst h;cases s <;> rfl
theorem zbL {s t:Bool} (h:¬s=t):(s==t)=false:=by cases s <;> cases t <;> first|rfl|exact absurd rfl h
theorem zeF (sa:Bool) (xa ya:Option Addr) (na ca ma da:Nat) (fa ga:Nat->Int) (sb:Bool) (xb yb:Option Addr) (nb cb mb db:Nat) (fb gb:Nat->Int) (w:World) (h1:Rd .u64 w xa na fa) (h2:Rd .u64 w ya ma ga) (h3:Rd .u64 w xb nb fb) (h4:Rd .u64 w yb mb gb) (l1:na<=140737488355328) (l2:ma<=140737488355328) (l3:nb<=140737488355328) (l4:mb<=140737488355328) :
  Calls prog 16 #[agg #[.bool sa,slice xa na ca,slice ya ma da],agg #[.bool sb,slice xb nb cb,slice yb mb db]] w λe w'=>∃b,e=returned (.bool b)/\Bl w w'/\(b=true ↔ sa=sb/\Alk na nb fa fb/\Alk ma mb ga gb):=by
 have H1:=zk h1;have H2:=zk h2;have H3:=zk h3;have H4:=zk h4
 clear h1 h2 h3 h4;by_cases hs:sa=sb
 ·have hse:=zdg hs;have HS:=zk hs;clear hs;go_enter func16,ntmps16;go_wp2_with fail
  refine(zmA xa xb na nb ca cb fa fb _ l1 l3 ((H1.out.alloc _).alloc _) ((H3.out.alloc _).alloc _)).mono ?_;rintro e w1 ⟨⟨q,hq⟩,b,rfl,hb1⟩;obtain⟨⟨za,x0,x1,x2⟩,⟨zb,y0,y1,y2⟩,hw⟩:=zjN (zaM hq);have HW1:=zk hw;have HB1:=zk hb1
  clear hq hw hb1;cases b
  ·go_wp2;go_ret;exact⟨false,rfl,HW1.out,(λh=>by cases h),λh=>HB1.out.2 h.2.1⟩
  ·go_wp2_with fail
   refine(zmA ya yb ma mb da db ga gb _ l2 l4 (H2.out.q_ HW1.out (le_refl _)) (H4.out.q_ HW1.out (le_refl _))).mono ?_;rintro e w2 ⟨⟨q,hq⟩,b,rfl,hb2⟩;have HW2:=zk (HW1.out.trans ((zaM hq).mono HW1.out.size));have HB2:=zk hb2
   clear hq hb2;go_wp2;go_ret;exact⟨b,rfl,HW2.out,λh=>⟨HS.out,HB1.out.1 (by simp),HB2.out.1 h⟩,λh=>HB2.out.2 h.2.2⟩
 ·have hse:=zbL hs;have HS:=zk hs;clear hs;go_enter func16,ntmps16;go_wp2;go_ret;exact⟨false,rfl,zu (zu (Below.refl _ _) _) _,(λh=>by cases h),λh=>absurd h.1 HS.out⟩
def lg (n m k:Nat):Bool:=decide (n<=k) && decide (m<=k)
theorem Ob2.drew {w B} (h:Ob2 w B):Ob2 w.drew B:=⟨h.z,h.z0,h.z1,h.zf⟩
theorem zhZ {w w' B} (hb:Bl w w') (h:Ob2 w B):Ob2 w' B:=h.q_ hb
theorem Ob2.dn {w B u0 u1 x n d V} (h:Ob2 w B) (hx:Dn w x n d V):Dn ((w.setCell ⟨B,0,none⟩ u0).setCell ⟨B,1,none⟩ u1) x n d V :=
 ⟨zay (cell_off (by decide) h.z1) (λi h=>by cases h) (zay h.z0 (λi h=>by cases h) hx.rd),hx.dg,hx.fm,hx.val⟩
structure Zn (w:World) (s:Bool) (x:Option Addr) (n:Nat) (d:Nat->Int) (v:Int):Prop where
 dn:Dn w x n d v.natAbs
 sgn:v=sg s v.natAbs
 pos:s=true->0<n
theorem Zn.q_ {w w' s x n d v} (h:Zn w s x n d v) (hb:Bl w w'):Zn w' s x n d v:=⟨h.dn.q_ hb,h.sgn,h.pos⟩
theorem Zn.alloc {w s x n d v} (h:Zn w s x n d v) (o:Obj):Zn (w.alloc o) s x n d v:=⟨h.dn.alloc o,h.sgn,h.pos⟩
theorem Zn.of {w z k d V r s} (h:Dn w z k d V) (hr:r=(s && decide (0<k))):Zn w r z k d (sg s V):=by
 refine⟨by rw[zfR];exact h,?_,λh=>by rw[hr]at h;simp at h;exact h.2⟩;rw[zfR];rcases Nat.eq_zero_or_pos k with h0|h0
 ·subst h0;have:=h.zero;subst this;cases s <;> cases r <;> rfl
 ·have:r=s:=by rw[hr];simp[h0]
  rw[this]
theorem zfp {w s z k c} (hk:k<=1048576) :
  Calls prog 83 #[.bool s,slice z k c] w λe w'=>∃r,e=returned (agg #[.bool r,slice z k c])/\Bl w w'/\Hid (r=(s && decide (0<k))):=(zlX s z k c w (by omega)).mono (λ_ _ ⟨r,h1,h2,h3⟩=>⟨r,h1,h3,h2⟩)
def zok (L:Nat) (w w':World) (e:Ending) (v:Int):Prop:=∃s x n c d,e=returned (agg #[.bool s,slice x n c])/\Bl w w'/\n<=L/\Zn w' s x n d v
theorem zgm {w} (sa:Bool) (xa:Option Addr) (na ca:Nat) (sb:Bool) (xb:Option Addr) (nb cb:Nat) (t:TypeId) :
  Bx (((w.alloc (cells #[.bool sa,slice xa na ca] t)).alloc (cells #[.bool sb,slice xb nb cb] t)).alloc (cells #[.bool false,slice none 0 0] t)) w.heap.size sa xa na ca/\Bx (((w.alloc (cells #[.bool sa,slice xa na ca] t)).alloc (cells #[.bool sb,slice xb nb cb] t)).alloc (cells #[.bool false,slice none 0 0] t)) (w.heap.size+1) sb xb nb cb/\Ob2 (((w.alloc (cells #[.bool sa,slice xa na ca] t)).alloc (cells #[.bool sb,slice xb nb cb] t)).alloc (cells #[.bool false,slice none 0 0] t)) (w.heap.size+1+1)/\Bl w (((w.alloc (cells #[.bool sa,slice xa na ca] t)).alloc (cells #[.bool sb,slice xb nb cb] t)).alloc (cells #[.bool false,slice none 0 0] t)):=by
 have h0:Bx (w.alloc (cells #[.bool sa,slice xa na ca] t)) w.heap.size sa xa na ca:=⟨by simp,kN0,kN1⟩;have h1:Bx ((w.alloc (cells #[.bool sa,slice xa na ca] t)).alloc (cells #[.bool sb,slice xb nb cb] t)) (w.heap.size+1) sb xb nb cb:=by
  have:=zw w (cells #[.bool sa,slice xa na ca] t);refine⟨by simp,?_,?_⟩
  ·rw[<-this];exact kN0
  ·rw[<-this];exact kN1
 have h2:=zkl ((w.alloc (cells #[.bool sa,slice xa na ca] t)).alloc (cells #[.bool sb,slice xb nb cb] t)) t;rw[zw,zw]at h2
 exact⟨(h0.alloc _).alloc _,h1.alloc _,h2,zu (zu (zB w _) _) _⟩
theorem zlV {u v s t} (hu:u=sg s u.natAbs) (hv:v=sg t v.natAbs):u*v=sg (!(s==t)) (u.natAbs*v.natAbs):=by
 have:=ziS s t u.natAbs v.natAbs;rw[<-hu,<-hv]at this
 exact this
theorem zkX {u v s t} (h:s=t) (hu:u=sg s u.natAbs) (hv:v=sg t v.natAbs):u+v=sg s (u.natAbs+v.natAbs):=by
 subst h;cases s
 ·have e1:u=u.natAbs:=hu;have e2:v=v.natAbs:=hv;show u+v=((u.natAbs+v.natAbs:Nat):Int);omega
 ·have e1:u=-(u.natAbs:Int):=hu;have e2:v=-(v.natAbs:Int):=hv;show u+v=-((u.natAbs+v.natAbs:Nat):Int);omega
theorem zfP {u v s t} (h:¬s=t) (hu:u=sg s u.natAbs) (hv:v=sg t v.natAbs) (hle:v.natAbs<=u.natAbs):u+v=sg s (u.natAbs-v.natAbs):=by
 cases s <;> cases t
 ·exact absurd rfl h
 ·have e1:u=u.natAbs:=hu;have e2:v=-(v.natAbs:Int):=hv;show u+v=((u.natAbs-v.natAbs:Nat):Int);omega
 ·have e1:u=-(u.natAbs:Int):=hu;have e2:v=v.natAbs:=hv;show u+v=-((u.natAbs-v.natAbs:Nat):Int);omega
 ·exact absurd rfl h
theorem zkY {u v s t} (h:¬s=t) (hu:u=sg s u.natAbs) (hv:v=sg t v.natAbs) (hle:u.natAbs<=v.natAbs):u+v=sg t (v.natAbs-u.natAbs):=by
 rw[Int.add_comm];exact zfP (λe=>h e.symm) hv hu hle
theorem zqs {w sa xa na ca da sb xb nb cb db u v} (ha:Zn w sa xa na da u) (hb:Zn w sb xb nb db v) (hn:na<=520000) (hm:nb<=520000) :
  Calls prog 112 #[agg #[.bool sa,slice xa na ca],agg #[.bool sb,slice xb nb cb]] w λe w'=>zok (na+nb) w w' e (u*v):=by
 obtain⟨ba,bb,ob,hw⟩:=zgm (w:=w) sa xa na ca sb xb nb cb 71;have h1:=((ha.alloc (cells #[.bool sa,slice xa na ca] 71)).alloc (cells #[.bool sb,slice xb nb cb] 71)).alloc (cells #[.bool false,slice none 0 0] 71);have h2:=((hb.alloc (cells #[.bool sa,slice xa na ca] 71)).alloc (cells #[.bool sb,slice xb nb cb] 71)).alloc (cells #[.bool false,slice none 0 0] 71);clear ha hb;go_enter func112,ntmps112;go_wp2_with fail
 generalize((w.alloc (cells #[.bool sa,slice xa na ca] 71)).alloc (cells #[.bool sb,slice xb nb cb] 71)).alloc (cells #[.bool false,slice none 0 0] 71)=w1 at *;have HA:=zk h1;have HB:=zk h2;have HW:=zk hw
 obtain⟨za,a0,a1⟩:=ba;obtain⟨zb,b0,b1⟩:=bb;obtain⟨hz,z0,z1,zf⟩:=id ob;clear h1 h2 hw;have C1:Hid (∀W,Bl w1 W->Calls prog 84 #[slice xa na ca,slice xb nb cb] W λe w'=>∃z k c' q,e=returned (slice z k c')/\Bl W w'/\Hid (k<=na+nb/\Dn w' z k q (u.natAbs*v.natAbs))):=λW hW=>zfA (HA.out.dn.q_ hW) (HB.out.dn.q_ hW) (by omega) (by omega)
 have C2:Hid (∀(W:World) (z:Option Addr) (k c:Nat),k<=na+nb->Calls prog 83 #[.bool (!(sa==sb)),slice z k c] W λe w'=>∃r,e=returned (agg #[.bool r,slice z k c])/\Bl W w'/\Hid (r=((!(sa==sb)) && decide (0<k)))):=λW z k c hk=>zfp (by omega)
 go_wp2_with fail
 go_region_held3 (λw'=>w'.cell? ⟨w.heap.size,0,none⟩=some (.bool sa)/\w'.cell? ⟨w.heap.size,1,none⟩=some (slice xa na ca)/\w'.cell? ⟨w.heap.size+1,0,none⟩=some (.bool sb)/\w'.cell? ⟨w.heap.size+1,1,none⟩=some (slice xb nb cb)/\(w'.cell? ⟨w.heap.size+1+1,0,none⟩).isSome=true/\(w'.cell? ⟨w.heap.size+1+1,1,none⟩).isSome=true/\w'.frozen? ⟨w.heap.size+1+1,0,none⟩=false/\w'.frozen? ⟨w.heap.size+1+1,1,none⟩=false)
  (refine⟨?_,?_,?_,?_,?_,?_,?_,?_⟩ <;> repeat(with_reducible first|assumption|exact zf _|exact kI0 z0|exact kI0 z1|exact tf _|exact kI0 t0|exact kI0 t1|exact uf _|exact kI0 u0|exact kI0 u1|refine kCd ?_|refine kId ?_|refine kFd ?_|refine kCs (by simp only[ne_eq];omega) ?_|refine kIs ?_|refine kFs ?_|refine kCb (by assumption) ?_|refine kIb (by assumption) ?_))
  (first
   | (go_at_call 84;with_reducible refine(C1.out _ zai).mono ?_;rintro e v5 ⟨zp,kp,cp,qp,rfl,hv5,HP⟩;have TU:Ob2 v5 (w.heap.size+1+1):=(by repeat(with_reducible first|exact ob|exact TU|exact TV|refine Ob2.drew ?_|refine zhZ (by assumption) ?_));obtain⟨_,t0,t1,tf⟩:=id TU)
   | (go_at_call 83;with_reducible refine(C2.out _ zp kp cp HP.out.1).mono ?_;rintro e v6 ⟨rr,rfl,hv6,HR⟩;have TV:Ob2 v6 (w.heap.size+1+1):=(by repeat(with_reducible first|exact ob|exact TU|exact TV|refine Ob2.drew ?_|refine zhZ (by assumption) ?_));obtain⟨_,u0,u1,uf⟩:=id TV))
 have hb:Bl w1 v6:=zai;have DP:=HP.out.2.q_ hv6;go_wp2;refine bodyPost_ret (v:=agg #[.bool rr,slice zp kp cp]) (by simp[results,results112,go_sem,u0,u1]) rfl ⟨rr,zp,kp,cp,qp,rfl,zcb (bUp HW.out hb) (by omega),by have:=HP.out.1;omega,?_⟩;rw[zlV HA.out.sgn HB.out.sgn];exact Zn.of (TV.dn DP) HR.out
theorem zkZ {w sa xa na ca da sb xb nb cb db u v} (ha:Zn w sa xa na da u) (hb:Zn w sb xb nb db v) (hn:na<=520000) (hm:nb<=520000) (hs:sa=sb) :
  Calls prog 130 #[agg #[.bool sa,slice xa na ca],agg #[.bool sb,slice xb nb cb]] w λe w'=>zok (na+nb+1) w w' e (u+v):=by
 obtain⟨ba,bb,ob,hw⟩:=zgm (w:=w) sa xa na ca sb xb nb cb 71;have h1:=((ha.alloc (cells #[.bool sa,slice xa na ca] 71)).alloc (cells #[.bool sb,slice xb nb cb] 71)).alloc (cells #[.bool false,slice none 0 0] 71);have h2:=((hb.alloc (cells #[.bool sa,slice xa na ca] 71)).alloc (cells #[.bool sb,slice xb nb cb] 71)).alloc (cells #[.bool false,slice none 0 0] 71);clear ha hb;have hse:=zdg hs;have HS:=zk hs;clear hs;go_enter func130,ntmps130;go_wp2_with fail
 generalize((w.alloc (cells #[.bool sa,slice xa na ca] 71)).alloc (cells #[.bool sb,slice xb nb cb] 71)).alloc (cells #[.bool false,slice none 0 0] 71)=w1 at *;have HA:=zk h1;have HB:=zk h2;have HW:=zk hw
 obtain⟨za,a0,a1⟩:=ba;obtain⟨zb,b0,b1⟩:=bb;obtain⟨hz,z0,z1,zf⟩:=id ob;clear h1 h2 hw;have C1:Hid (∀W,Bl w1 W->Calls prog 138 #[slice xa na ca,slice xb nb cb] W λe w'=>∃z k c' q,e=returned (slice z k c')/\Bl W w'/\Hid (k<=na+nb+1/\Dn w' z k q (u.natAbs+v.natAbs))):=λW hW=>zrF (HA.out.dn.q_ hW) (HB.out.dn.q_ hW) (by omega) (by omega)
 have C2:Hid (∀(W:World) (z:Option Addr) (k c:Nat),k<=na+nb+1->Calls prog 83 #[.bool (sa),slice z k c] W λe w'=>∃r,e=returned (agg #[.bool r,slice z k c])/\Bl W w'/\Hid (r=((sa) && decide (0<k)))):=λW z k c hk=>zfp (by omega)
 go_wp2_with fail
 go_region_held3 (λw'=>w'.cell? ⟨w.heap.size,0,none⟩=some (.bool sa)/\w'.cell? ⟨w.heap.size,1,none⟩=some (slice xa na ca)/\w'.cell? ⟨w.heap.size+1,0,none⟩=some (.bool sb)/\w'.cell? ⟨w.heap.size+1,1,none⟩=some (slice xb nb cb)/\(w'.cell? ⟨w.heap.size+1+1,0,none⟩).isSome=true/\(w'.cell? ⟨w.heap.size+1+1,1,none⟩).isSome=true/\w'.frozen? ⟨w.heap.size+1+1,0,none⟩=false/\w'.frozen? ⟨w.heap.size+1+1,1,none⟩=false)
  (refine⟨?_,?_,?_,?_,?_,?_,?_,?_⟩ <;> repeat(with_reducible first|assumption|exact zf _|exact kI0 z0|exact kI0 z1|exact tf _|exact kI0 t0|exact kI0 t1|exact uf _|exact kI0 u0|exact kI0 u1|refine kCd ?_|refine kId ?_|refine kFd ?_|refine kCs (by simp only[ne_eq];omega) ?_|refine kIs ?_|refine kFs ?_|refine kCb (by assumption) ?_|refine kIb (by assumption) ?_))
  (first
   | (go_at_call 138;with_reducible refine(C1.out _ zai).mono ?_;rintro e v5 ⟨zp,kp,cp,qp,rfl,hv5,HP⟩;have TU:Ob2 v5 (w.heap.size+1+1):=(by repeat(with_reducible first|exact ob|exact TU|exact TV|refine Ob2.drew ?_|refine zhZ (by assumption) ?_));obtain⟨_,t0,t1,tf⟩:=id TU)
   | (go_at_call 83;with_reducible refine(C2.out _ zp kp cp HP.out.1).mono ?_;rintro e v6 ⟨rr,rfl,hv6,HR⟩;have TV:Ob2 v6 (w.heap.size+1+1):=(by repeat(with_reducible first|exact ob|exact TU|exact TV|refine Ob2.drew ?_|refine zhZ (by assumption) ?_));obtain⟨_,u0,u1,uf⟩:=id TV))
 have hb:Bl w1 v6:=zai;have DP:=HP.out.2.q_ hv6;go_wp2;refine bodyPost_ret (v:=agg #[.bool rr,slice zp kp cp]) (by simp[results,results130,go_sem,u0,u1]) rfl ⟨rr,zp,kp,cp,qp,rfl,zcb (bUp HW.out hb) (by omega),by have:=HP.out.1;omega,?_⟩;rw[zkX HS.out HA.out.sgn HB.out.sgn];exact Zn.of (TV.dn DP) HR.out
theorem zla {w sa xa na ca da sb xb nb cb db u v} (ha:Zn w sa xa na da u) (hb:Zn w sb xb nb db v) (hn:na<=520000) (hm:nb<=520000) (hs:¬sa=sb) (hle:v.natAbs<=u.natAbs) :
  Calls prog 130 #[agg #[.bool sa,slice xa na ca],agg #[.bool sb,slice xb nb cb]] w λe w'=>zok (na+nb+1) w w' e (u+v):=by
 obtain⟨ba,bb,ob,hw⟩:=zgm (w:=w) sa xa na ca sb xb nb cb 71;have h1:=((ha.alloc (cells #[.bool sa,slice xa na ca] 71)).alloc (cells #[.bool sb,slice xb nb cb] 71)).alloc (cells #[.bool false,slice none 0 0] 71);have h2:=((hb.alloc (cells #[.bool sa,slice xa na ca] 71)).alloc (cells #[.bool sb,slice xb nb cb] 71)).alloc (cells #[.bool false,slice none 0 0] 71);clear ha hb;have hse:=zbL hs;have HS:=zk hs;clear hs;go_enter func130,ntmps130;go_wp2_with fail
 generalize((w.alloc (cells #[.bool sa,slice xa na ca] 71)).alloc (cells #[.bool sb,slice xb nb cb] 71)).alloc (cells #[.bool false,slice none 0 0] 71)=w1 at *;have HA:=zk h1;have HB:=zk h2;have HW:=zk hw
 obtain⟨za,a0,a1⟩:=ba;obtain⟨zb,b0,b1⟩:=bb;obtain⟨hz,z0,z1,zf⟩:=id ob;clear h1 h2 hw;refine(zgJ xa xb na nb ca cb da db _ (by omega) (by omega) HA.out.dn.rd HB.out.dn.rd HA.out.dn.dg HB.out.dn.dg HA.out.dn.fm HB.out.dn.fm).mono ?_;rintro e w2 ⟨⟨q,hq⟩,cc,rfl,hord⟩;have hb:=zaM hq;clear hq;rw[HA.out.dn.val,HB.out.dn.val]at hord
 have hsg:decide ((0:Int)<=cc)=true:=by
  rcases hord with⟨h1,h2⟩|⟨h1,h2⟩|⟨h1,h2⟩ <;> subst h1 <;> first|rfl|(exfalso;omega)
 have HA2:=zk (HA.out.q_ hb);have HB2:=zk (HB.out.q_ hb);have HW2:=zJ HW hb;have ob2:=ob.q_ hb
 have a0':=kCb hb a0;have a1':=kCb hb a1;have b0':=kCb hb b0;have b1':=kCb hb b1
 clear hb hord a0 a1 b0 b1 hz z0 z1 zf za zb HW HA HB ob;obtain⟨hz,z0,z1,zf⟩:=id ob2;have HA:=zk HA2.out;have HB:=zk HB2.out;have HW:=zk HW2.out
 have C1:Hid (∀W,Bl w2 W->Calls prog 134 #[slice xa na ca,slice xb nb cb] W λe w'=>∃z k c' q,e=returned (slice z k c')/\Bl W w'/\Hid (k<=na/\Dn w' z k q (u.natAbs-v.natAbs))):=λW hW=>znL (HA.out.dn.q_ hW) (HB.out.dn.q_ hW) (by omega) (by omega) hle
 have C2:Hid (∀(W:World) (z:Option Addr) (k c:Nat),k<=na->Calls prog 83 #[.bool (sa),slice z k c] W λe w'=>∃r,e=returned (agg #[.bool r,slice z k c])/\Bl W w'/\Hid (r=((sa) && decide (0<k)))):=λW z k c hk=>zfp (by omega)
 go_wp2_with fail
 go_region_held3 (λw'=>w'.cell? ⟨w.heap.size,0,none⟩=some (.bool sa)/\w'.cell? ⟨w.heap.size,1,none⟩=some (slice xa na ca)/\w'.cell? ⟨w.heap.size+1,0,none⟩=some (.bool sb)/\w'.cell? ⟨w.heap.size+1,1,none⟩=some (slice xb nb cb)/\(w'.cell? ⟨w.heap.size+1+1,0,none⟩).isSome=true/\(w'.cell? ⟨w.heap.size+1+1,1,none⟩).isSome=true/\w'.frozen? ⟨w.heap.size+1+1,0,none⟩=false/\w'.frozen? ⟨w.heap.size+1+1,1,none⟩=false)
  (refine⟨?_,?_,?_,?_,?_,?_,?_,?_⟩ <;> repeat(with_reducible first|assumption|exact zf _|exact kI0 z0|exact kI0 z1|exact tf _|exact kI0 t0|exact kI0 t1|exact uf _|exact kI0 u0|exact kI0 u1|refine kCd ?_|refine kId ?_|refine kFd ?_|refine kCs (by simp only[ne_eq];omega) ?_|refine kIs ?_|refine kFs ?_|refine kCb (by assumption) ?_|refine kIb (by assumption) ?_))
  (first
   | (go_at_call 134;with_reducible refine(C1.out _ zai).mono ?_;rintro e v5 ⟨zp,kp,cp,qp,rfl,hv5,HP⟩;have TU:Ob2 v5 (w.heap.size+1+1):=(by repeat(with_reducible first|exact ob2|exact TU|exact TV|refine Ob2.drew ?_|refine zhZ (by assumption) ?_));obtain⟨_,t0,t1,tf⟩:=id TU)
   | (go_at_call 83;with_reducible refine(C2.out _ zp kp cp HP.out.1).mono ?_;rintro e v6 ⟨rr,rfl,hv6,HR⟩;have TV:Ob2 v6 (w.heap.size+1+1):=(by repeat(with_reducible first|exact ob2|exact TU|exact TV|refine Ob2.drew ?_|refine zhZ (by assumption) ?_));obtain⟨_,u0,u1,uf⟩:=id TV))
 have hb:Bl w2 v6:=zai;have DP:=HP.out.2.q_ hv6;go_wp2;refine bodyPost_ret (v:=agg #[.bool rr,slice zp kp cp]) (by simp[results,results130,go_sem,u0,u1]) rfl ⟨rr,zp,kp,cp,qp,rfl,zcb (bUp HW.out hb) (by omega),by have:=HP.out.1;omega,?_⟩;rw[zfP HS.out HA.out.sgn HB.out.sgn hle];exact Zn.of (TV.dn DP) HR.out
theorem zlb {w sa xa na ca da sb xb nb cb db u v} (ha:Zn w sa xa na da u) (hb:Zn w sb xb nb db v) (hn:na<=520000) (hm:nb<=520000) (hs:¬sa=sb) (hlt:u.natAbs<v.natAbs) :
  Calls prog 130 #[agg #[.bool sa,slice xa na ca],agg #[.bool sb,slice xb nb cb]] w λe w'=>zok (na+nb+1) w w' e (u+v):=by
 obtain⟨ba,bb,ob,hw⟩:=zgm (w:=w) sa xa na ca sb xb nb cb 71;have h1:=((ha.alloc (cells #[.bool sa,slice xa na ca] 71)).alloc (cells #[.bool sb,slice xb nb cb] 71)).alloc (cells #[.bool false,slice none 0 0] 71);have h2:=((hb.alloc (cells #[.bool sa,slice xa na ca] 71)).alloc (cells #[.bool sb,slice xb nb cb] 71)).alloc (cells #[.bool false,slice none 0 0] 71);clear ha hb;have hse:=zbL hs;have HS:=zk hs;clear hs;go_enter func130,ntmps130;go_wp2_with fail
 generalize((w.alloc (cells #[.bool sa,slice xa na ca] 71)).alloc (cells #[.bool sb,slice xb nb cb] 71)).alloc (cells #[.bool false,slice none 0 0] 71)=w1 at *;have HA:=zk h1;have HB:=zk h2;have HW:=zk hw
 obtain⟨za,a0,a1⟩:=ba;obtain⟨zb,b0,b1⟩:=bb;obtain⟨hz,z0,z1,zf⟩:=id ob;clear h1 h2 hw;refine(zgJ xa xb na nb ca cb da db _ (by omega) (by omega) HA.out.dn.rd HB.out.dn.rd HA.out.dn.dg HB.out.dn.dg HA.out.dn.fm HB.out.dn.fm).mono ?_;rintro e w2 ⟨⟨q,hq⟩,cc,rfl,hord⟩;have hb:=zaM hq;clear hq;rw[HA.out.dn.val,HB.out.dn.val]at hord
 have hsg:decide ((0:Int)<=cc)=false:=by
  rcases hord with⟨h1,h2⟩|⟨h1,h2⟩|⟨h1,h2⟩ <;> subst h1 <;> first|rfl|(exfalso;omega)
 have HA2:=zk (HA.out.q_ hb);have HB2:=zk (HB.out.q_ hb);have HW2:=zJ HW hb;have ob2:=ob.q_ hb
 have a0':=kCb hb a0;have a1':=kCb hb a1;have b0':=kCb hb b0;have b1':=kCb hb b1
 clear hb hord a0 a1 b0 b1 hz z0 z1 zf za zb HW HA HB ob;obtain⟨hz,z0,z1,zf⟩:=id ob2;have HA:=zk HA2.out;have HB:=zk HB2.out;have HW:=zk HW2.out
 have C1:Hid (∀W,Bl w2 W->Calls prog 134 #[slice xb nb cb,slice xa na ca] W λe w'=>∃z k c' q,e=returned (slice z k c')/\Bl W w'/\Hid (k<=nb/\Dn w' z k q (v.natAbs-u.natAbs))):=λW hW=>znL (HB.out.dn.q_ hW) (HA.out.dn.q_ hW) (by omega) (by omega) (by omega)
 have C2:Hid (∀(W:World) (z:Option Addr) (k c:Nat),k<=nb->Calls prog 83 #[.bool (sb),slice z k c] W λe w'=>∃r,e=returned (agg #[.bool r,slice z k c])/\Bl W w'/\Hid (r=((sb) && decide (0<k)))):=λW z k c hk=>zfp (by omega)
 go_wp2_with fail
 go_region_held3 (λw'=>w'.cell? ⟨w.heap.size,0,none⟩=some (.bool sa)/\w'.cell? ⟨w.heap.size,1,none⟩=some (slice xa na ca)/\w'.cell? ⟨w.heap.size+1,0,none⟩=some (.bool sb)/\w'.cell? ⟨w.heap.size+1,1,none⟩=some (slice xb nb cb)/\(w'.cell? ⟨w.heap.size+1+1,0,none⟩).isSome=true/\(w'.cell? ⟨w.heap.size+1+1,1,none⟩).isSome=true/\w'.frozen? ⟨w.heap.size+1+1,0,none⟩=false/\w'.frozen? ⟨w.heap.size+1+1,1,none⟩=false)
  (refine⟨?_,?_,?_,?_,?_,?_,?_,?_⟩ <;> repeat(with_reducible first|assumption|exact zf _|exact kI0 z0|exact kI0 z1|exact tf _|exact kI0 t0|exact kI0 t1|exact uf _|exact kI0 u0|exact kI0 u1|refine kCd ?_|refine kId ?_|refine kFd ?_|refine kCs (by simp only[ne_eq];omega) ?_|refine kIs ?_|refine kFs ?_|refine kCb (by assumption) ?_|refine kIb (by assumption) ?_))
  (first
   | (go_at_call 134;with_reducible refine(C1.out _ zai).mono ?_;rintro e v5 ⟨zp,kp,cp,qp,rfl,hv5,HP⟩;have TU:Ob2 v5 (w.heap.size+1+1):=(by repeat(with_reducible first|exact ob2|exact TU|exact TV|refine Ob2.drew ?_|refine zhZ (by assumption) ?_));obtain⟨_,t0,t1,tf⟩:=id TU)
   | (go_at_call 83;with_reducible refine(C2.out _ zp kp cp HP.out.1).mono ?_;rintro e v6 ⟨rr,rfl,hv6,HR⟩;have TV:Ob2 v6 (w.heap.size+1+1):=(by repeat(with_reducible first|exact ob2|exact TU|exact TV|refine Ob2.drew ?_|refine zhZ (by assumption) ?_));obtain⟨_,u0,u1,uf⟩:=id TV))
 have hb:Bl w2 v6:=zai;have DP:=HP.out.2.q_ hv6;go_wp2;refine bodyPost_ret (v:=agg #[.bool rr,slice zp kp cp]) (by simp[results,results130,go_sem,u0,u1]) rfl ⟨rr,zp,kp,cp,qp,rfl,zcb (bUp HW.out hb) (by omega),by have:=HP.out.1;omega,?_⟩;rw[zkY HS.out HA.out.sgn HB.out.sgn (by omega)];exact Zn.of (TV.dn DP) HR.out
theorem zqu {w sa xa na ca da sb xb nb cb db u v} (ha:Zn w sa xa na da u) (hb:Zn w sb xb nb db v) (hn:na<=520000) (hm:nb<=520000) :
  Calls prog 130 #[agg #[.bool sa,slice xa na ca],agg #[.bool sb,slice xb nb cb]] w λe w'=>zok (na+nb+1) w w' e (u+v):=by
 by_cases hs:sa=sb
 ·exact zkZ ha hb hn hm hs
 ·by_cases hle:v.natAbs<=u.natAbs
  ·exact zla ha hb hn hm hs hle
  ·exact zlb ha hb hn hm hs (by omega)
theorem zqr {w sa xa na ca da u} (ha:Zn w sa xa na da u) (hn:na<=520000) :
  Calls prog 131 #[agg #[.bool sa,slice xa na ca]] w λe w'=>∃s c,e=returned (agg #[.bool s,slice xa na c])/\Bl w w'/\Hid (Zn w' s xa na da (-u)):=by
 have HA:=zk ha;clear ha;go_enter func131,ntmps131;go_wp2_with fail
 refine(zlX _ xa na ca _ (by omega)).mono ?_;rintro e w1 ⟨r,rfl,HR,hbel⟩;have hob:=(zkl (w.alloc _) _).q_ hbel;rw[zw]at hob
 have HW1:Hid (Bl w w1):=(zu (zB w _) _).trans (hbel.mono (by simp;omega));have OB1:=zk hob;clear hbel hob;obtain⟨hz,z0,z1,zf⟩:=OB1.out;go_wp2;refine bodyPost_ret (v:=agg #[.bool r,slice xa na ca]) (by simp[results,results131,go_sem,z0,z1]) rfl ⟨r,ca,rfl,zcb HW1.out (by omega),?_⟩;have hm:=HA.out.sgn;have e:-u=sg (!sa) u.natAbs:=by
  generalize u.natAbs=A at hm;rw[hm];cases sa
  ·rfl
  ·show - -(A:Int)=A;omega
 show Zn _ _ _ _ _ (-u);rw[e];exact Zn.of (OB1.out.dn (HA.out.dn.q_ HW1.out)) HR.out
def e2 (s:Bool) (f:Nat->Int) (n:Nat) (t:Bool) (h:Nat->Int) (m:Nat):Int:=if wfB s f n && wfB t h m then 0 else 3
def kv (kind:Nat) (u v:Int):Int:=if kind=0 then u+v else if kind=1 then u-v else u*v
theorem kZd {w s x n d v} (h:Zn w s x n d v):Zn w.drew s x n d v:=⟨h.dn.drew,h.sgn,h.pos⟩
theorem kZb {w w' s x n d v} (hb:Bl w w') (h:Zn w s x n d v):Zn w' s x n d v:=h.q_ hb
theorem zeY {g m} (hl:Lm g m) (hf:Fm g m):vf g m=1 ↔ m=1/\g 0=1:=by
 constructor
 ·intro h;have h1:Lm (λ_=>(1:Int)) 1:=λj _=>⟨show(0:Int)<=1 by decide,show(1:Int)<18446744073709551616 by decide⟩
  have h2:vf (λ_=>(1:Int)) 1=1:=by decide
  obtain⟨e1,e2⟩:=zgt hl h1 hf (.inr (by decide)) (h.trans h2.symm);exact⟨e1,e2 0 (by omega)⟩
 ·rintro⟨rfl,h⟩;simp[vf,pw,h]
theorem Dn.one_iff {w x k d V} (h:Dn w x k d V):V=1 ↔ k=1/\d 0=1:=by
 constructor
 ·intro hV;have h1:Dg (λ_=>(1:Int)) 1:=λj _=>⟨show(0:Int)<=1 by decide,show(1:Int)<4294967296 by decide⟩
  have h2:vd (λ_=>(1:Int)) 1=1:=by decide
  obtain⟨e1,e2⟩:=zqH h.dg h1 h.fm (.inr (by decide)) (by rw[h.val,hV,h2];rfl);exact⟨e1,e2 0 (by omega)⟩
 ·rintro⟨rfl,h0⟩;have:=h.val;simp[vd,pd,h0]at this
  omega
theorem zdD {w s x n c f y m d g} (h:Rw w x n c f y m d g) (hn:n<=1000) (hm:m<=1000) :
  Calls prog 106 #[agg #[.bool s,slice x n c,slice y m d]] w λe w'=>e=returned (.bool (rfB s f n g m))/\Bl w w':=by
 obtain⟨b,hb⟩:∃b,rfB s f n g m=b:=⟨_,rfl⟩;rw[hb];have H:=zk h;have HB:=zk hb
 have hw:=zB w (cells #[.bool s,slice x n c,slice y m d] 24);have hcx:=zkS (Below.refl (w.alloc (cells #[.bool s,slice x n c,slice y m d] 24)).heap.size _);clear h hb;go_enter func106,ntmps106;go_wp2_with fail
 generalize w.alloc (cells #[.bool s,slice x n c,slice y m d] 24)=w1 at *;have HW:=zk hw;have BX:=zk hcx
 clear hw hcx;obtain⟨z,x0,x1,x2⟩:=BX.out;have c1:=zkb x n c f w1 (by omega) (H.out.rx.q_ HW.out (le_refl _));cases h1:fmB f n
 ·have hbf:b=false:=by rw[<-HB.out];simp[rfB,wfB,h1]
  subst hbf;rw[h1]at c1
  refine c1.mono ?_;rintro e w2 ⟨rfl,hw2⟩;replace hw2:=hw2.symm;subst hw2;clear c1;go_wp2;go_ret;exact⟨rfl,HW.out⟩
 rw[h1]at c1
 refine c1.mono ?_;rintro e w2 ⟨rfl,hw2⟩;replace hw2:=hw2.symm;subst hw2;clear c1;have F1:=zk h1;clear h1;have c2:=zkb y m d g w1 (by omega) (H.out.ry.q_ HW.out (le_refl _));go_wp2_with fail
 cases h2:fmB g m
 ·have hbf:b=false:=by rw[<-HB.out];simp[rfB,h2]
  subst hbf;rw[h2]at c2
  refine c2.mono ?_;rintro e w2 ⟨rfl,hw2⟩;replace hw2:=hw2.symm;subst hw2;clear c2;go_wp2;go_ret;exact⟨rfl,HW.out⟩
 rw[h2]at c2
 refine c2.mono ?_;rintro e w2 ⟨rfl,hw2⟩;replace hw2:=hw2.symm;subst hw2;clear c2;have F2:=zk h2;clear h2;by_cases hm0:m=0
 ·subst hm0;have hbf:b=false:=by rw[<-HB.out];simp[rfB]
  subst hbf;go_wp2;go_ret;exact⟨rfl,HW.out⟩
 have hmd:((m:Int)==0)=false:=by simp;omega
 by_cases hn0:n=0
 ·subst hn0;cases s
  ·by_cases hm1:m=1
   ·subst hm1;have hry:=H.out.ry.q_ HW.out (le_refl _);obtain⟨bk,o,rfl⟩:=hry.at (by omega);have hcell:=hry.cell (j:=0) (by omega);obtain⟨t,ht⟩:∃t,g 0=t:=⟨_,rfl⟩;rw[ht,Nat.add_zero]at hcell
    have hbf:b=(t==1):=by
     rw[<-HB.out,<-ht];have e:=zeY H.out.ly (zbm F2.out);have h0:=zz H.out.ly;have e1:(vf g 1).toNat=1 ↔ g 0=1:=by
      constructor
      ·intro h;exact(e.1 (by omega)).2
      ·intro h;have:=e.2 ⟨rfl,h⟩;omega
     by_cases hg:g 0=1
     ·simp[rfB,wfB,vf,hg,fmB,pw]
     ·have hg':¬((vf g 1).toNat=1):=λh=>hg (e1.1 h)
      have e3:(vf f 0).toNat.gcd (vf g 1).toNat=(vf g 1).toNat:=by simp[vf]
      simp[rfB,e3,hg',hg]
    have HBF:=zk hbf;clear ht hry hbf;go_wp2;go_ret;exact⟨by rw[HBF.out];rfl,HW.out⟩
   ·have hm1d:((m:Int)==1)=false:=by simp;omega
    have hbf:b=false:=by
     rw[<-HB.out];have e:=zeY H.out.ly (zbm F2.out);have h0:=zz H.out.ly;have hg':¬((vf g m).toNat=1):=λh=>hm1 (e.1 (by omega)).1
     have e3:(vf f 0).toNat.gcd (vf g m).toNat=(vf g m).toNat:=by simp[vf]
     simp[rfB,e3,hg']
    subst hbf;go_wp2;go_ret;exact⟨rfl,HW.out⟩
  ·have hbf:b=false:=by rw[<-HB.out];simp[rfB,wfB]
   subst hbf;go_wp2;go_ret;exact⟨rfl,HW.out⟩
 have hnd:((n:Int)==0)=false:=by simp;omega
 have HBv:Hid (b=decide ((vf f n).toNat.gcd (vf g m).toNat=1)):=by
  show b=_;rw[<-HB.out];have h3:wfB s f n=true:=(wfB_iff _ _ _).2 ⟨zbm F1.out,λ_=>by omega⟩;have h4:decide (0<m)=true:=by simp;omega
  rw[show rfB s f n g m=(wfB s f n && (fmB g m && (decide (0<m) && decide ((vf f n).toNat.gcd (vf g m).toNat=1))))from rfl,h3,F2.out,h4];simp
 have C1:Hid (∀W,Bl w1 W->Calls prog 113 #[slice x n c] W λe w'=>∃z k c d,e=returned (slice z k c)/\Bl W w'/\Hid (k<=2*n/\Dn w' z k d (vf f n).toNat)):=λW hW=>zeR (by omega) ((H.out.q_ HW.out).q_ hW).rx H.out.lx
 have C2:Hid (∀W,Bl w1 W->Calls prog 113 #[slice y m d] W λe w'=>∃z k c d,e=returned (slice z k c)/\Bl W w'/\Hid (k<=2*m/\Dn w' z k d (vf g m).toNat)):=λW hW=>zeR (by omega) ((H.out.q_ HW.out).q_ hW).ry H.out.ly
 have C3:Hid (∀(W:World) (z5:Option Addr) (k5 c5:Nat) (d5:Nat->Int) (z6:Option Addr) (k6 c6:Nat) (d6:Nat->Int),k5<=2*n->k6<=2*m->Dn W z5 k5 d5 (vf f n).toNat->Dn W z6 k6 d6 (vf g m).toNat->Calls prog 115 #[slice z5 k5 c5,slice z6 k6 c6] W λe w'=>∃z k c' d,e=returned (slice z k c')/\Bl W w'/\Hid (k<=k5+k6/\Dn w' z k d ((vf f n).toNat.gcd (vf g m).toNat))):=λW z5 k5 c5 d5 z6 k6 c6 d6 h1 h2 h3 h4=>zmD h3 h4 (by omega) (by omega)
 go_wp2_with fail
 go_region_held3 (λw'=>w'.cell? ⟨w.heap.size,1,none⟩=some (slice x n c)/\w'.cell? ⟨w.heap.size,2,none⟩=some (slice y m d))
  (refine⟨?_,?_⟩ <;> repeat(with_reducible first|assumption|refine kCd ?_|refine kCb (by assumption) ?_))
  (first
   | (go_at_call 113;with_reducible refine(C1.out _ zaq).mono ?_;rintro e v5 ⟨z5,k5,c5,d5,rfl,hb5,H5⟩)
   | (go_at_call 113;with_reducible refine(C2.out _ zaq).mono ?_;rintro e v6 ⟨z6,k6,c6,d6,rfl,hb6,H6⟩)
   | (go_at_call 115;with_reducible refine(C3.out _ z5 k5 c5 d5 z6 k6 c6 d6 H5.out.1 H6.out.1 (by repeat(with_reducible first|exact H5.out.2|refine Dn.drew ?_|refine kDb (by assumption) ?_)) (by repeat(with_reducible first|exact H6.out.2|refine Dn.drew ?_|refine kDb (by assumption) ?_))).mono ?_;rintro e v7 ⟨z7,k7,c7,d7,rfl,hb7,H7⟩))
 all_goals
  have hb:Bl w1 v7:=zaq;have HBw:=zJ HW hb;have hone:=H7.out.2.one_iff;have hk7:=H7.out.1;have hk5:=H5.out.1;have hk6:=H6.out.1;by_cases hk1:k7=1
  ·subst hk1;have hr7:=H7.out.2.rd;obtain⟨bk,o,rfl⟩:=hr7.at (by omega);have hcell:=hr7.cell (j:=0) (by omega);obtain⟨t,ht⟩:∃t,d7 0=t:=⟨_,rfl⟩;rw[ht,Nat.add_zero]at hcell
   rw[ht]at hone
   have hbf:b=(t==1):=by
    rw[HBv.out];by_cases h1:t=1
    ·simp[hone.2 ⟨rfl,h1⟩,h1]
    ·have hx:¬((vf f n).toNat.gcd (vf g m).toNat=1):=λh=>h1 (hone.1 h).2
     simp[hx,h1]
   have HBF:=zk hbf;clear ht hr7 hbf hone hb;go_wp2;go_ret;exact⟨by rw[HBF.out];rfl,HBw.out⟩
  ·have hk1d:((k7:Int)==1)=false:=by simp;omega
   have hbf:b=false:=by
    have hx:¬((vf f n).toNat.gcd (vf g m).toNat=1):=λh=>hk1 (hone.1 h).1
    rw[HBv.out];simp[hx]
   subst hbf;clear hone hb;go_wp2;go_ret;exact⟨rfl,HBw.out⟩
def zoo (s:Bool) (n m:Nat) (A B:Nat) (w w':World) (en:Ending):Prop:=∃r z k c' d' z2 k2 c2 d2,en=returned (agg #[.bool r,slice z k c',slice z2 k2 c2])/\Bl w w'/\k<=n+2/\k2<=m+2/\r=(s && decide (0<k))/\Dn w' z k d' (A/A.gcd B)/\Dn w' z2 k2 d2 (B/A.gcd B)
theorem zpU {s n} (h:0<n):s=(s && decide (0<n)):=by simp[h]
theorem znj {w s x c d y m e g A B} (ha:Dn w x 0 d A) (_hb:Dn w y m g B) (hs:s=false) (hB:0<B) :
  Calls prog 82 #[agg #[.bool s,slice x 0 c],slice y m e] w λen w'=>zoo s 0 m A B w w' en:=by
 have hA:=ha.zero;have h3:=zaz (w.alloc (cells #[.bool s,slice x 0 c] 71)) 73;rw[zw]at h3
 have h4:=zu (zB w (cells #[.bool s,slice x 0 c] 71)) (cells #[.bool false,slice none 0 0,slice none 0 0] 73);have h5:Bx ((w.alloc (cells #[.bool s,slice x 0 c] 71)).alloc (cells #[.bool false,slice none 0 0,slice none 0 0] 73)) w.heap.size s x 0 c:=Bx.alloc ⟨by simp,kN0,kN1⟩ _;clear ha;have HA:=zk hA;have HS:=zk hs
 clear hA hs;go_enter func82,ntmps82;go_wp2_with fail
 generalize(w.alloc (cells #[.bool s,slice x 0 c] 71)).alloc (cells #[.bool false,slice none 0 0,slice none 0 0] 73)=w1 at *;have OB:=zk h3;have HW:=zk h4
 obtain⟨hz,z0,z1,z2,zf⟩:=h3;obtain⟨za,a0,a1⟩:=h5;clear h4;have C1:Hid (∀W:World,Calls prog 54 #[.int .u64 1] W λe w'=>∃z k cap d,e=returned (slice z k cap)/\Bl W w'/\Hid (k<=1/\Dn w' z k d 1)):=λW=>zhi (V:=1) (by decide)
 go_region_held3 (λw'=>w'.cell? ⟨w.heap.size,0,none⟩=some (.bool s)/\w'.cell? ⟨w.heap.size,1,none⟩=some (slice x 0 c)/\(w'.cell? ⟨w.heap.size+1,0,none⟩).isSome=true/\(w'.cell? ⟨w.heap.size+1,1,none⟩).isSome=true/\(w'.cell? ⟨w.heap.size+1,2,none⟩).isSome=true/\w'.frozen? ⟨w.heap.size+1,0,none⟩=false/\w'.frozen? ⟨w.heap.size+1,1,none⟩=false/\w'.frozen? ⟨w.heap.size+1,2,none⟩=false)
  (refine⟨?_,?_,?_,?_,?_,?_,?_,?_⟩ <;> repeat(with_reducible first|assumption|exact zf _|exact tf _|exact kI0 z0|exact kI0 z1|exact kI0 z2|exact kI0 t0|exact kI0 t1|exact kI0 t2|refine kCd ?_|refine kId ?_|refine kFd ?_|refine kCs (by simp only[ne_eq];omega) ?_|refine kIs ?_|refine kFs ?_|refine kCb (by assumption) ?_|refine kIb (by assumption) ?_))
  (first|(go_at_call 54;with_reducible refine(C1.out _).mono ?_;rintro e w5 ⟨zb,kb,cb,db,rfl,hb5,HP⟩;have TU:Ob w5 (w.heap.size+1):=(by repeat(with_reducible first|exact OB.out|refine Ob.drew ?_|refine kOb (by assumption) ?_));obtain⟨_,t0,t1,t2,tf⟩:=id TU))
 all_goals
  have hb:Bl w1 w5:=zaq;go_wp2;refine bodyPost_ret (v:=agg #[.bool s,slice x 0 c,slice zb kb cb]) (by simp[results,results82,go_sem,t0,t1,t2]) rfl ⟨s,x,0,c,λ_=>0,zb,kb,cb,db,rfl,zU (bUp HW.out hb) (by omega),by omega,by have:=HP.out.1;omega,by rw[HS.out];rfl,?_,?_⟩
  ·rw[HA.out,Nat.zero_div];exact⟨Rd.zero,λj hj=>by omega,.inl rfl,rfl⟩
  ·rw[HA.out,Nat.gcd_zero_left,Nat.div_self hB];exact TU.dn HP.out.2
theorem znk {w s x n c d y m e g A B} (ha:Dn w x n d A) (hb:Dn w y m g B) (h0:0<A) (hn:n<=260000) (hm:m<=260000) (hB:0<B) (hl:¬(n<=2/\m<=2)) :
  Calls prog 82 #[agg #[.bool s,slice x n c],slice y m e] w λen w'=>zoo s n m A B w w' en:=by
 have hn0:=ha.pos h0;have h1:=(ha.alloc (cells #[.bool s,slice x n c] 71)).alloc (cells #[.bool false,slice none 0 0,slice none 0 0] 73);have h2:=(hb.alloc (cells #[.bool s,slice x n c] 71)).alloc (cells #[.bool false,slice none 0 0,slice none 0 0] 73);have h3:=zaz (w.alloc (cells #[.bool s,slice x n c] 71)) 73;rw[zw]at h3
 have h4:=zu (zB w (cells #[.bool s,slice x n c] 71)) (cells #[.bool false,slice none 0 0,slice none 0 0] 73);have h5:Bx ((w.alloc (cells #[.bool s,slice x n c] 71)).alloc (cells #[.bool false,slice none 0 0,slice none 0 0] 73)) w.heap.size s x n c:=Bx.alloc ⟨by simp,kN0,kN1⟩ _;clear ha hb;have hnd:((n:Int)==0)=false:=by simp;omega
 have hcase:decide ((n:Int)<=2)=false∨(decide ((n:Int)<=2)=true/\decide ((m:Int)<=2)=false):=by
  by_cases h:n<=2
  ·right;exact⟨decide_eq_true (by omega),decide_eq_false (by omega)⟩
  ·left;exact decide_eq_false (by omega)
 have HBp:=zk hB;have HAp:=zk h0
 have HGp:=zk (show 0<A.gcd B from Nat.gcd_pos_of_pos_left _ h0);clear hl hB h0;go_enter func82,ntmps82;rcases hcase with hd1|⟨hd1,hd2⟩
 all_goals
  go_wp2_with fail
  generalize(w.alloc (cells #[.bool s,slice x n c] 71)).alloc (cells #[.bool false,slice none 0 0,slice none 0 0] 73)=w1 at *;have HA:=zk h1;have HB:=zk h2;have OB:=zk h3;have HW:=zk h4;have BX:=zk h5
  clear h1 h2 h3 h4 h5;refine(zmD HA.out HB.out (by omega) (by omega)).mono ?_;rintro en w2 ⟨zg,kg,cg,dg,rfl,hb2,HG⟩;have HB2:=zk hb2;have hkg:=HG.out.1;have hone:=HG.out.2.one_iff;clear hb2;obtain⟨za,a0,a1⟩:=BX.out.q_ HB2.out;by_cases hg1:A.gcd B=1
  ·obtain⟨hk1,hd0⟩:=hone.1 hg1;subst hk1;have hr:=HG.out.2.rd;obtain⟨bk,o,rfl⟩:=hr.at (by omega);have hcell:=hr.cell (j:=0) (by omega);rw[hd0,Nat.add_zero]at hcell
   have HG1:=zk hg1;clear hg1 hone hr hd0;obtain⟨hz,z0,z1,z2,zf⟩:=OB.out.q_ HB2.out;go_wp2;refine bodyPost_ret (v:=agg #[.bool s,slice x n c,slice y m e]) (by simp[results,results82,go_sem,z0,z1,z2]) rfl ⟨s,x,n,c,d,y,m,e,g,rfl,zU (bUp HW.out HB2.out) (by omega),by omega,by omega,zpU hn0,?_,?_⟩
   ·rw[HG1.out,Nat.div_one];exact(OB.out.q_ HB2.out).dn (HA.out.q_ HB2.out)
   ·rw[HG1.out,Nat.div_one];exact(OB.out.q_ HB2.out).dn (HB.out.q_ HB2.out)
  ·have hgc:((kg:Int)==1)=false∨(kg=1/\(dg 0==1)=false):=by
    by_cases hk:kg=1
    ·right;refine⟨hk,?_⟩
     simp;intro h;exact hg1 (hone.2 ⟨hk,h⟩)
    ·left;simp;omega
   have HGn:=zk hg1;clear hg1 hone;rcases hgc with hgk|⟨hgk,hgd⟩
   all_goals
    try (subst hgk;have hr:=HG.out.2.rd;obtain⟨bk,o,rfl⟩:=hr.at (by omega);have hcell:=hr.cell (j:=0) (by omega);rw[Nat.add_zero]at hcell;clear hr)
    go_wp2_with fail
    refine(zmF (HA.out.q_ HB2.out) HG.out.2 (by omega) (by omega) HGp.out).mono ?_;rintro en w3 ⟨zq,kq,cq,dq,zr,kr,cr,dr,rfl,hb3,H3⟩;have HB3:=zk hb3;have hkq:=H3.out.1
    clear hb3;go_wp2_with fail
    refine(zmF ((HB.out.q_ HB2.out).q_ HB3.out) (HG.out.2.q_ HB3.out) (by omega) (by omega) HGp.out).mono ?_;rintro en w4 ⟨zp,kp,cp,dp,zs,ks,cs,ds,rfl,hb4,H4⟩;have HB4:=zk (HB2.out.trans ((bUp HB3.out hb4).mono HB2.out.size));have HB34:=zk hb4
    have hkp:=H4.out.1;clear hb4 za a0 a1;obtain⟨za,a0,a1⟩:=BX.out.q_ HB4.out;go_wp2_with fail
    refine(zfp (by omega)).mono ?_;rintro en w5 ⟨r5,rfl,hb5,HR5⟩;have HB5:=zJ HB4 hb5;have DQ:=zk ((H3.out.2.2.1.q_ HB34.out).q_ hb5);have DP:=zk (H4.out.2.2.1.q_ hb5)
    clear hb5 za a0 a1;obtain⟨hz,z0,z1,z2,zf⟩:=OB.out.q_ HB5.out;go_wp2;exact bodyPost_ret (v:=agg #[.bool r5,slice zq kq cq,slice zp kp cp]) (by simp[results,results82,go_sem,z0,z1,z2]) rfl ⟨r5,zq,kq,cq,dq,zp,kp,cp,dp,rfl,zU (bUp HW.out HB5.out) (by omega),by omega,by omega,HR5.out,(OB.out.q_ HB5.out).dn DQ.out,(OB.out.q_ HB5.out).dn DP.out⟩
theorem zso {w s x n c d y m e g A B} (ha:Dn w x n d A) (hb:Dn w y m g B) (hs:s=true->0<n) (hn:n<=260000) (hm:m<=260000) (hB:0<B) :
  Calls prog 82 #[agg #[.bool s,slice x n c],slice y m e] w λen w'=>zoo s n m A B w w' en:=by
 rcases Nat.eq_zero_or_pos n with h0|h0
 ·subst h0;exact znj ha hb (by cases s;rfl;exact absurd (hs rfl) (by omega)) hB
 ·have hA:=ha.pos' h0;by_cases hl:n<=2/\m<=2
  ·exact(zlw ha hb hA hl.1 hl.2 hB).mono (λ_ _ ⟨r,z,k,c',d',z2,k2,c2,d2,h1,h2,h3,h4,h5,h6,h7⟩=>⟨r,z,k,c',d',z2,k2,c2,d2,h1,h2,by omega,by omega,h5,h6,h7⟩)
  ·exact znk ha hb hA hn hm hB hl
structure Qn (w:World) (s:Bool) (x:Option Addr) (n:Nat) (d:Nat->Int) (y:Option Addr) (m:Nat) (g:Nat->Int) (q:Rat):Prop where
 num:Zn w s x n d q.num
 den:Dn w y m g q.den
theorem Qn.q_ {w w' s x n d y m g q} (h:Qn w s x n d y m g q) (hb:Bl w w'):Qn w' s x n d y m g q:=⟨h.num.q_ hb,h.den.q_ hb⟩
theorem Qn.alloc {w s x n d y m g q} (h:Qn w s x n d y m g q) (o:Obj):Qn (w.alloc o) s x n d y m g q:=⟨h.num.alloc o,h.den.alloc o⟩
theorem kQd {w s x n d y m g q} (h:Qn w s x n d y m g q):Qn w.drew s x n d y m g q:=⟨⟨h.num.dn.drew,h.num.sgn,h.num.pos⟩,h.den.drew⟩
theorem kQb {w w' s x n d y m g q} (hb:Bl w w') (h:Qn w s x n d y m g q):Qn w' s x n d y m g q:=h.q_ hb
theorem Ob.zn {w B u0 u1 u2 s x n d v} (h:Ob w B) (hx:Zn w s x n d v):Zn (((w.setCell ⟨B,0,none⟩ u0).setCell ⟨B,1,none⟩ u1).setCell ⟨B,2,none⟩ u2) s x n d v:=⟨h.dn hx.dn,hx.sgn,hx.pos⟩
theorem Ob.qn {w B u0 u1 u2 s x n d y m g q} (h:Ob w B) (hx:Qn w s x n d y m g q):Qn (((w.setCell ⟨B,0,none⟩ u0).setCell ⟨B,1,none⟩ u1).setCell ⟨B,2,none⟩ u2) s x n d y m g q:=⟨h.zn hx.num,h.dn hx.den⟩
def zjD (L:Nat) (w w':World) (e:Ending) (q:Rat):Prop:=∃s x n c d y m c' g,e=returned (agg #[.bool s,slice x n c,slice y m c'])/\Bl w w'/\n<=L/\m<=L/\Qn w' s x n d y m g q
theorem zmO {w} (a0 a1 a2:Value) (t u:TypeId) :
  Bx3 ((w.alloc (cells #[a0,a1,a2] t)).alloc (cells #[.bool false,slice none 0 0,slice none 0 0] u)) w.heap.size a0 a1 a2/\Ob ((w.alloc (cells #[a0,a1,a2] t)).alloc (cells #[.bool false,slice none 0 0,slice none 0 0] u)) (w.heap.size+1)/\Bl w ((w.alloc (cells #[a0,a1,a2] t)).alloc (cells #[.bool false,slice none 0 0,slice none 0 0] u)):=by
 have h3:=zaz (w.alloc (cells #[a0,a1,a2] t)) u;rw[zw]at h3
 exact⟨(zbr w a0 a1 a2 t).q_ (zu (Below.refl _ _) _),h3,zu (zB w _) _⟩
theorem zdC {L w s x n c f y m d g q} (h:Rn L w s x n c f y m d g q) (hL:L<=150000) :
  Calls prog 78 #[agg #[.bool s,slice x n c,slice y m d]] w λe w'=>zjD (2*L) w w' e q:=by
 obtain⟨h1,h2,h3⟩:=zmO (w:=w) (.bool s) (slice x n c) (slice y m d) 24 73;have h4:=(h.alloc (cells #[.bool s,slice x n c,slice y m d] 24)).alloc (cells #[.bool false,slice none 0 0,slice none 0 0] 73);clear h;go_enter func78,ntmps78;go_wp2_with fail
 generalize(w.alloc (cells #[.bool s,slice x n c,slice y m d] 24)).alloc (cells #[.bool false,slice none 0 0,slice none 0 0] 73)=w1 at *;have HN:=zk h4;have OB:=zk h2;have HW:=zk h3
 obtain⟨z,x0,x1,x2⟩:=h1;obtain⟨hz,z0,z1,z2,zf⟩:=h2;have hln:=h4.ln;have hld:=h4.ld
 clear h3 h4;have C1:Hid (∀W,Bl w1 W->Calls prog 113 #[slice x n c] W λe w'=>∃z k c d,e=returned (slice z k c)/\Bl W w'/\Hid (k<=2*n/\Dn w' z k d (vf f n).toNat)):=λW hW=>zeR (by omega) (HN.out.q_ hW).num.rd HN.out.num.lm
 have C2:Hid (∀W,Bl w1 W->Calls prog 113 #[slice y m d] W λe w'=>∃z k c d,e=returned (slice z k c)/\Bl W w'/\Hid (k<=2*m/\Dn w' z k d (vf g m).toNat)):=λW hW=>zeR (by omega) (HN.out.q_ hW).den.rd HN.out.den.lm
 go_region_held3 (λw'=>w'.cell? ⟨w.heap.size,0,none⟩=some (.bool s)/\w'.cell? ⟨w.heap.size,1,none⟩=some (slice x n c)/\w'.cell? ⟨w.heap.size,2,none⟩=some (slice y m d)/\(w'.cell? ⟨w.heap.size+1,0,none⟩).isSome=true/\(w'.cell? ⟨w.heap.size+1,1,none⟩).isSome=true/\(w'.cell? ⟨w.heap.size+1,2,none⟩).isSome=true/\w'.frozen? ⟨w.heap.size+1,0,none⟩=false/\w'.frozen? ⟨w.heap.size+1,1,none⟩=false/\w'.frozen? ⟨w.heap.size+1,2,none⟩=false)
  (refine⟨?_,?_,?_,?_,?_,?_,?_,?_,?_⟩ <;> repeat(with_reducible first|assumption|exact zf _|exact tf _|exact uf _|exact kI0 z0|exact kI0 z1|exact kI0 z2|exact kI0 t0|exact kI0 t1|exact kI0 t2|exact kI0 u0|exact kI0 u1|exact kI0 u2|refine kCd ?_|refine kId ?_|refine kFd ?_|refine kCs (by simp only[ne_eq];omega) ?_|refine kIs ?_|refine kFs ?_|refine kCb (by assumption) ?_|refine kIb (by assumption) ?_))
  (first
   | (go_at_call 113;with_reducible refine(C1.out _ zaq).mono ?_;rintro e v5 ⟨z5,k5,c5,d5,rfl,hb5,H5⟩;have Tt:Ob v5 (w.heap.size+1):=(by repeat(with_reducible first|exact OB.out|exact Tt|refine Ob.drew ?_|refine kOb (by assumption) ?_));obtain⟨_,t0,t1,t2,tf⟩:=id Tt)
   | (go_at_call 113;with_reducible refine(C2.out _ zaq).mono ?_;rintro e v6 ⟨z6,k6,c6,d6,rfl,hb6,H6⟩;have Tu:Ob v6 (w.heap.size+1):=(by repeat(with_reducible first|exact OB.out|exact Tt|exact Tu|refine Ob.drew ?_|refine kOb (by assumption) ?_));obtain⟨_,u0,u1,u2,uf⟩:=id Tu))
 all_goals
  have D5:Dn v6 z5 k5 d5 (vf f n).toNat:=(by repeat(with_reducible first|exact H5.out.2|refine Dn.drew ?_|refine kDb (by assumption) ?_));have hb:Bl w1 v6:=zaq;have e1:(vf f n).toNat=q.num.natAbs:=by rw[<-zdV (s:=s) HN.out.num.lm,HN.out.num.val]
  have e2:(vf g m).toNat=q.den:=by
   have:=HN.out.den.val;rw[zae]at this;omega
  have D6:=H6.out.2;rw[e1]at D5
  rw[e2]at D6
  have hk5:=H5.out.1;have hk6:=H6.out.1
  go_wp2;refine bodyPost_ret (v:=agg #[.bool s,slice z5 k5 c5,slice z6 k6 c6]) (by simp[results,results78,go_sem,u0,u1,u2]) rfl ⟨s,z5,k5,c5,d5,z6,k6,c6,d6,rfl,zU (bUp HW.out hb) (by omega),by omega,by omega,Tu.qn ⟨⟨D5,HN.out.num.sgn,λhs=>?_⟩,D6⟩⟩;subst hs;have hnz:0<n:=((wfB_iff _ _ _).1 HN.out.num.wf).2 rfl;have:=zdi HN.out.num.lm (fm_of_wfB HN.out.num.wf) hnz;exact D5.pos (by omega)
theorem zrh {w s x n c d y m e g q} (h:Qn w s x n d y m g q) (hn:n<=520000) :
  Calls prog 111 #[agg #[.bool s,slice x n c,slice y m e]] w λen w'=>∃s' c',en=returned (agg #[.bool s',slice x n c',slice y m e])/\Bl w w'/\Hid (Qn w' s' x n d y m g (-q)):=by
 obtain⟨h1,h2,h3⟩:=zmO (w:=w) (.bool s) (slice x n c) (slice y m e) 73 73;have h4:=(h.alloc (cells #[.bool s,slice x n c,slice y m e] 73)).alloc (cells #[.bool false,slice none 0 0,slice none 0 0] 73);clear h;go_enter func111,ntmps111;go_wp2_with fail
 generalize(w.alloc (cells #[.bool s,slice x n c,slice y m e] 73)).alloc (cells #[.bool false,slice none 0 0,slice none 0 0] 73)=w1 at *;have HN:=zk h4;have OB:=zk h2;have HW:=zk h3
 obtain⟨z,x0,x1,x2⟩:=h1;obtain⟨hz,z0,z1,z2,zf⟩:=h2;clear h3 h4;have C1:Hid (∀W,Bl w1 W->Calls prog 131 #[agg #[.bool s,slice x n c]] W λe w'=>∃s c,e=returned (agg #[.bool s,slice x n c])/\Bl W w'/\Hid (Zn w' s x n d (-q.num))):=λW hW=>zqr (HN.out.num.q_ hW) hn
 go_region_held3 (λw'=>w'.cell? ⟨w.heap.size,0,none⟩=some (.bool s)/\w'.cell? ⟨w.heap.size,1,none⟩=some (slice x n c)/\w'.cell? ⟨w.heap.size,2,none⟩=some (slice y m e)/\(w'.cell? ⟨w.heap.size+1,0,none⟩).isSome=true/\(w'.cell? ⟨w.heap.size+1,1,none⟩).isSome=true/\(w'.cell? ⟨w.heap.size+1,2,none⟩).isSome=true/\w'.frozen? ⟨w.heap.size+1,0,none⟩=false/\w'.frozen? ⟨w.heap.size+1,1,none⟩=false/\w'.frozen? ⟨w.heap.size+1,2,none⟩=false)
  (refine⟨?_,?_,?_,?_,?_,?_,?_,?_,?_⟩ <;> repeat(with_reducible first|assumption|exact zf _|exact tf _|exact kI0 z0|exact kI0 z1|exact kI0 z2|exact kI0 t0|exact kI0 t1|exact kI0 t2|refine kCd ?_|refine kId ?_|refine kFd ?_|refine kCs (by simp only[ne_eq];omega) ?_|refine kIs ?_|refine kFs ?_|refine kCb (by assumption) ?_|refine kIb (by assumption) ?_))
  (first
   | (go_at_call 131;with_reducible refine(C1.out _ zaq).mono ?_;rintro e v5 ⟨s5,c5,rfl,hb5,H5⟩;have Tt:Ob v5 (w.heap.size+1):=(by repeat(with_reducible first|exact OB.out|exact Tt|refine Ob.drew ?_|refine kOb (by assumption) ?_));obtain⟨_,t0,t1,t2,tf⟩:=id Tt))
 all_goals
  have hb:Bl w1 v5:=zaq;go_wp2;exact bodyPost_ret (v:=agg #[.bool s5,slice x n c5,slice y m e]) (by simp[results,results111,go_sem,t0,t1,t2]) rfl ⟨s5,c5,rfl,zU (bUp HW.out hb) (by omega),Tt.qn ⟨H5.out,HN.out.den.q_ hb⟩⟩
structure X2 (w:World) (B:Nat) (s:Bool) (x:Option Addr) (n c:Nat):Prop where
 z:B<w.heap.size
 c0:w.cell? ⟨B,0,none⟩=some (.bool s)
 c1:w.cell? ⟨B,1,none⟩=some (slice x n c)
 zf:∀o,w.frozen? ⟨B,o,none⟩=false
theorem zgn {w sa xa na ca da sb xb nb cb db u v} (ha:Zn w sa xa na da u) (hb:Zn w sb xb nb db v) (hn:na<=520000) (hm:nb<=520000) :
  Calls prog 112 #[agg #[.bool sa,slice xa na ca],agg #[.bool sb,slice xb nb cb]] w λe w'=>∃s x n c d,e=returned (agg #[.bool s,slice x n c])/\Bl w w'/\Hid (n<=na+nb/\Zn w' s x n d (u*v)) :=
 (zqs ha hb hn hm).mono (λ_ _ ⟨s,x,n,c,d,h1,h2,h3,h4⟩=>⟨s,x,n,c,d,h1,h2,h3,h4⟩)
end Go.Proofs.YtlbgphjdibbkjaaGreat
