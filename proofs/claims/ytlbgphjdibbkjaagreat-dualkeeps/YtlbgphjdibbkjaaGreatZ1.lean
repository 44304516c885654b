/-
 Walks.
-/
import Derived.Test.YtlbgphjdibbkjaaGreatZ0
import Derived.Lib.ItoaMem
import Derived.Lib.Walk
import Derived.BigCall
import Derived.BigGuard
import Derived.Lib.BufferWrite
import Derived.Lib.LazyBuf
import Derived.Deep.RegionHeld3
import Derived.Deep.CutRange
import Derived.BigRegion
import Derived.BigQuiet
set_option maxRecDepth 100000
set_option maxHeartbeats 16000000
namespace Go.Proofs.YtlbgphjdibbkjaaGreat
open Value (slice agg)
open Ending (returned)
open Nat (le_refl le_trans)
open World (cell?_of_block block_lt_of_cell?)
open Int (le_of_lt mul_nonneg add_mul mul_comm one_mul pow_pos)
open Go.Proofs.Tryz
open Go.RowKit
theorem zhF (x y s:Int) (x0:0<=x) (x1:x<18446744073709551616) (s0:0<=s) (s1:s<=63) (y0:0<=y) (y1:y<2^(64-s).toNat) :
  ∃L Z H,IntKind.u64.wrap (x*2^(64-s).toNat)=L/\0<=L/\L<18446744073709551616/\bits BinOp.or .u64 y L=Z/\0<=Z/\Z<18446744073709551616/\x/2^s.toNat=H/\0<=H/\H<18446744073709551616/\Hid (H<2^(64-s).toNat)/\Hid (Z=y+x%2^s.toNat*2^(64-s).toNat):=by
 have hPQ:(2:Int)^(64-s).toNat*2^s.toNat=18446744073709551616:=by rw[<-Int.pow_add,show(64-s).toNat+s.toNat=64 by omega];rfl
 have p0:(0:Int)<2^(64-s).toNat:=pow_pos (by decide);have q0:(0:Int)<2^s.toNat:=pow_pos (by decide);obtain⟨c1,c2,c3,c4,c5⟩:=zhV x0 x1 hPQ p0 q0;have hP:(2:Int)^(64-s).toNat<=18446744073709551616:=by
  rw[<-hPQ];have:=Int.mul_le_mul_of_nonneg_left (show(1:Int)<=2^s.toNat by omega) (le_of_lt p0);omega
 have hL:IntKind.u64.wrap (x*2^(64-s).toNat)=x%2^s.toNat*2^(64-s).toNat:=by rw[IntKind.wrap_u64,c1]
 refine⟨_,_,_,hL,c4,by omega,?_,?_,?_,rfl,c2,by omega,c3,rfl⟩
 ·rw[zfV y,bits_join .u64 64 (by decide) zbX (64-s).toNat _ _ c4 (Int.mul_emod_left _ _) (by omega) y0 y1 (by omega),Int.add_comm]
 ·omega
 ·omega
theorem zmt {D a j P Q x y r} (hv:vf D (j+1)*P+r=vf a (j+1)) (hx:a (j+1)=x) (hy:D j=y) (hPQ:Q*P=18446744073709551616) :
  vf (upd (upd D (j+1) (x/P)) j (y+x%P*Q)) (j+1+1)*P+r=vf a (j+1+1):=by
 have e1:vf (upd (upd D (j+1) (x/P)) j (y+x%P*Q)) j=vf D j:=zN (λi hi=>by rw[zE _ _ _ _ (by omega),zE _ _ _ _ (by omega)]);have e2:upd (upd D (j+1) (x/P)) j (y+x%P*Q) (j+1)=x/P:=by rw[zE _ _ _ _ (by omega),zac]
 rw[zI,zI,e1,e2,zac,zI a (j+1),hx,<-hv,zI D j,hy,zao,<-hPQ];have e4:=Int.mul_ediv_add_emod x P;have e5:x*(Q*P*pw j)=(P*(x/P)+x%P)*(Q*P*pw j):=by rw[e4]
 rw[e5]
 grind
theorem zlh {D a P x} (hx:a 0=x):vf (upd D 0 (x/P)) 1*P+x%P=vf a 1:=by
 have e4:=Int.mul_ediv_add_emod x P;simp only[vf,pw,zac,hx,Int.zero_add,Int.mul_one];have:x/P*P=P*(x/P):=mul_comm _ _;omega
theorem zli (ao:Option Addr) (n cap:Nat) (s:Int) (f:Nat->Int) (w:World) (hn:n<=17592186044416) (s0:0<=s) (s1:s<=63) (hr:Rd .u64 w ao n f) (hf:Lm f n) :
  Calls prog 182 #[slice ao n cap,.int .i64 s] w λe w'=>∃ao' m cap' f' r,e=returned (slice ao' m cap')/\Res n w w' ao' m cap' f'/\0<=r/\r<2^s.toNat/\vf f' m*2^s.toNat+r=vf f n:=by
 have HF:=zk hf;have HRd:=zk hr;clear hf hr;have P0:Hid ((0:Int)<2^s.toNat):=pow_pos (by decide);have Q0:Hid ((0:Int)<2^(64-s).toNat):=pow_pos (by decide);go_enter func182,ntmps182;go_wp2_with(at_make;refine zah .u64 w rfl (.tmp 8) (.tmp 8) 22 rfl 49 8 underlying22 zT .i64 .i64 _ _ n rfl rfl rfl rfl (by omega) (by unfold maxLen;omega) ?_;intro w1 hb1 hbel1)
 go_loopw[12] (λt wr=>∃(k:Nat) (D:Nat->Int) (r:Int),k<=n/\t=.int .i64 k/\Bl w wr/\Blk .u64 49 wr w.heap.size n D/\Hid (Lm D n)/\Hid (0<=r/\r<2^s.toNat)/\Hid (∀j,j+1=k->D j<2^(64-s).toNat)/\Hid (vf D k*2^s.toNat+r=vf f k)) (λt _=>n-(intOf t).toNat)
 case atStart=>exact⟨0,λ_=>0,0,by omega,rfl,hbel1,hb1,λj hj=>⟨Int.le_refl 0,show(0:Int)<18446744073709551616 by decide⟩,⟨Int.le_refl 0,P0.out⟩,λj hj=>by omega,by simp[Hid,vf]⟩
 case round =>
  clear hb1 hbel1;obtain⟨k,D,r,hkn,rfl,hbel,hbl,HL,HR,HT,HV⟩:=hrel;by_cases hlt:k<n
  ·have hr:=HRd.out;obtain⟨b,ob,rfl⟩:=hr.at (by omega);have hbw:b<w.heap.size:=block_lt_of_cell? w _ (hr.cell hlt);have hrr:=zk (hr.q_ hbel (le_refl _));clear hr;cases k with
   | zero =>
    obtain⟨x,hx⟩:∃x,f 0=x:=⟨_,rfl⟩;have hcelb:wr.cell? ⟨b,ob,none⟩=some (.int .u64 x):=by rw[<-hx];exact hrr.out.cell hlt
    have hcell:=hbl.cell (j:=0) hlt;have hfz:=hbl.frozen 0;obtain⟨x0,x1⟩:=HF.out 0 hlt;rw[hx]at x0 x1
    obtain⟨L,Z,H,eL,L0,L1,eZ,Z0,Z1,eH,H0,H1,HH,HZ2⟩:=zhF x 0 s x0 x1 s0 s1 (Int.le_refl _) Q0.out;have HX:=zk hx;clear hx;go_wp2;go_roundw
    case rel =>
     refine⟨1,_,x%2^s.toNat,by omega,by go_num,zV hbel ((Only.refl _ _).setCell _ _ _) (le_refl _) hbel.size,hbl.set 0 H,HL.out.upd ⟨H0,H1⟩,⟨Int.emod_nonneg _ (by have:=P0.out;omega),Int.emod_lt_of_pos _ P0.out⟩,λj hj=>?_,?_⟩
     ·obtain rfl:j=0:=by omega
      rw[zac];exact HH.out
     ·rw[<-eH];exact zlh HX.out
    case measure=>simp[intOf];omega
   | succ j =>
    obtain⟨x,hx⟩:∃x,f (j+1)=x:=⟨_,rfl⟩;obtain⟨y,hy⟩:∃y,D j=y:=⟨_,rfl⟩;have hcelb:wr.cell? ⟨b,ob+(j+1),none⟩=some (.int .u64 x):=by rw[<-hx];exact hrr.out.cell hlt
    have hcell:=hbl.cell (j:=j+1) hlt;have hcely:wr.cell? ⟨w.heap.size,j,none⟩=some (.int .u64 y):=by rw[<-hy];exact hbl.cell (by omega)
    have hfz:=hbl.frozen (j+1);have hfz2:=hbl.frozen j;obtain⟨x0,x1⟩:=HF.out (j+1) hlt;obtain⟨y0,y1⟩:=HL.out j (by omega);rw[hx]at x0 x1
    rw[hy]at y0 y1
    obtain⟨L,Z,H,eL,L0,L1,eZ,Z0,Z1,eH,H0,H1,HH,HZ2⟩:=zhF x y s x0 x1 s0 s1 y0 (by rw[<-hy];exact HT.out j rfl);have HX:=zk hx;have HY:=zk hy;clear hx hy;have hcelb2:∀(v:Value),(wr.setCell ⟨w.heap.size,j+1,none⟩ v).cell? ⟨b,ob+(j+1),none⟩=some (.int .u64 x):=λv=>by
     rw[cell?_of_block (Below.heap_setCell _ _ _ _ (by simp;omega))];exact hcelb
    go_wp2
    go_region
    all_goals
     go_wp2;go_roundw
     case rel =>
      refine⟨j+1+1,_,r,by omega,by go_num,?_,((hbl.set (j+1) H).set j Z),?_,HR.out,λi hi=>?_,?_⟩
      ·exact zV hbel ((((Only.refl _ _).setCell _ _ _).setCell _ _ _).drew) (le_refl _) hbel.size
      ·exact(HL.out.upd ⟨H0,H1⟩).upd ⟨Z0,Z1⟩
      ·obtain rfl:i=j+1:=by omega
       rw[zE _ _ _ _ (by omega),zac];exact HH.out
      ·have:=zmt (Q:=2^(64-s).toNat) HV.out HX.out HY.out (by rw[<-Int.pow_add,show(64-s).toNat+s.toNat=64 by omega];rfl);rw[<-HZ2.out,eH]at this
       exact this
     case measure=>simp[intOf];omega
  ·have hkn2:k=n:=by omega
   subst hkn2;go_wp2_with fail
   refine(zaV w.heap.size k k D w wr hbel (le_refl _) hbl (le_refl _) (by omega) HL.out).mono ?_;rintro e w3 ⟨rfl,ao2,m,cap2,rfl,hres,hmn,hv⟩;have HV3:=zk hv;clear hv;go_wp2;go_ret;exact⟨ao2,m,cap2,D,r,rfl,hres,HR.out.1,HR.out.2,by rw[HV3.out,HV.out]⟩
theorem zmm {f m} (h:Lm f (m+1)) (hv:vf f (m+1)<pw m):f m=0/\vf f m=vf f (m+1):=by
 have h0:=zz (h.mono (m:=m) (by omega));have h1:=h m (by omega);rw[zI]at hv ⊢
 have hz:f m=0:=by
  apply Int.le_antisymm _ h1.1;apply Int.le_of_lt_add_one;apply Int.lt_of_not_ge;intro hge;have:1*pw m<=f m*pw m:=Int.mul_le_mul_of_nonneg_right (by omega) (le_of_lt (zab m));omega
 rw[hz];simp
theorem zqM {f k c} (h:Lm f (k+1)) (hv:c*pw k<=vf f (k+1)):c<=f k:=by
 apply Int.le_of_lt_add_one;have h1:=zar (h.mono (m:=k) (by omega));rw[zI]at hv
 have:c*pw k<(f k+1)*pw k:=by rw[add_mul,one_mul];omega
 exact Int.lt_of_mul_lt_mul_right this (le_of_lt (zab k))
theorem zjH {U U' p l N X} (hN:p+l<=N) (he:∀j,j<p∨p+l<=j->U' j=U j) (hv:vf (sh U' p) l=vf (sh U p) l-X):vf U' N=vf U N-X*pw p:=by
 obtain⟨r,rfl⟩:=Nat.exists_eq_add_of_le hN;rw[Nat.add_assoc,zM U' p,zM U p,zM (sh U' p) l,zM (sh U p) l,zax,zax,zN (f:=U') (g:=U) (n:=p) (λj hj=>he j (by omega)),zN (f:=sh U' (p+l)) (g:=sh U (p+l)) (n:=r) (λj hj=>he _ (by omega)),hv]
 grind
theorem zqF {Q p N t} (hp:p<N) (h0:Q p=0):vf (upd Q p t) N=vf Q N+t*pw p:=by
 have:=zjH (U:=Q) (U':=upd Q p t) (p:=p) (l:=1) (N:=N) (X:=-t) (by omega) (λj hj=>zE _ _ _ _ (by omega)) (by simp[vf,pw,sh,upd,h0]);rw[this];grind
theorem zrn {h k y P} (hl:Lm h (k+1)) (hy:h k=y) (p0:0<P) (h1:9223372036854775808<=y*P) (h2:(y+1)*P<=18446744073709551616):9223372036854775808*pw k<=vf h (k+1)*P/\vf h (k+1)*P<pw (k+1):=by
 have lo:=zz (hl.mono (m:=k) (by omega));have hi:=zar (hl.mono (m:=k) (by omega));have pk:=zab k;rw[zI,hy,zao,add_mul];have e0:0<=vf h k*P:=mul_nonneg lo (le_of_lt p0);have e1:9223372036854775808*pw k<=y*P*pw k:=Int.mul_le_mul_of_nonneg_right h1 (le_of_lt pk);have e2:(y+1)*P*pw k<=18446744073709551616*pw k:=Int.mul_le_mul_of_nonneg_right h2 (le_of_lt pk);have e3:y*pw k*P=y*P*pw k:=by grind
 have e4:(y+1)*P*pw k=y*P*pw k+pw k*P:=by grind
 have e5:vf h k*P<pw k*P:=(Int.mul_lt_mul_right p0).2 hi;rw[e3];omega
theorem znb {fv kv k V} (hl:Lm fv kv) (hf:Fm fv kv) (hv:vf fv kv=V) (h1:9223372036854775808*pw k<=V) (h2:V<pw (k+1)):kv=k+1:=by
 have pk:=zab k;have a:k+1<=kv:=by
  apply Nat.le_of_not_lt;intro hlt
  have b1:=zar hl;have b2:=zaQ (show kv<=k by omega);omega
 have b:kv<=k+1:=by
  apply Nat.le_of_not_lt;intro hlt
  have b1:=zaI hl hf (by omega);have b2:=zaQ (show k+1<=kv-1 by omega);omega
 omega
theorem zlF {U lq k A P V} (hU:Lm U (lq+(k+1))) (hv:vf U (lq+(k+1))=A*P) (hA:A<pw (lq+k)) (p0:0<P) (p1:P<=9223372036854775808) (hV:9223372036854775808*pw k<=V):vf (sh U lq) (k+1)<V:=by
 have lo:=zz (hU.mono (m:=lq) (by omega));rw[zM]at hv
 have e1:A*P<pw (lq+k)*P:=(Int.mul_lt_mul_right p0).2 hA;have e2:P*pw k<=9223372036854775808*pw k:=Int.mul_le_mul_of_nonneg_right p1 (le_of_lt (zab k));have e3:P*pw k*pw lq<=V*pw lq:=Int.mul_le_mul_of_nonneg_right (by omega) (le_of_lt (zab lq));have e4:pw (lq+k)*P=P*pw k*pw lq:=by rw[zbU];grind
 have:vf (sh U lq) (k+1)*pw lq<V*pw lq:=by omega
 exact Int.lt_of_mul_lt_mul_right this (le_of_lt (zab lq))
theorem zqx {U p m V} (hU:Lm U (p+1)) (h:vf (sh U (p+1)) m<V):vf (sh U p) (m+1)<V*18446744073709551616:=by
 have:=hU p (by omega);rw[zex];omega
theorem zfY (y:Nat) (y0:0<y) (y1:y<18446744073709551616):∃s:Int,0<=s/\s<=63/\(64-(Lib.bitLen y:Int))=s/\9223372036854775808<=(y:Int)*2^s.toNat/\((y:Int)+1)*2^s.toNat<=18446744073709551616:=by
 obtain⟨b,hb⟩:∃b,Lib.bitLen y=b:=⟨_,rfl⟩;obtain⟨b1,b2,b3⟩:=zdf b y hb y0 y1;have b64:b<=64:=by rw[<-hb];exact Lib.bitLen_le y 64 (by omega) (by omega)
 rw[hb];have es:(64-(b:Int)).toNat=64-b:=by omega
 refine⟨64-(b:Int),by omega,by omega,rfl,?_,?_⟩
 ·rw[es];have e1:(2:Int)^(b-1)*2^(64-b)=9223372036854775808:=by rw[<-Int.pow_add,show b-1+(64-b)=63 by omega];rfl
  have e2:(2:Int)^(b-1)<=y:=by exact_mod_cast b2
  have:=Int.mul_le_mul_of_nonneg_right e2 (le_of_lt (show(0:Int)<2^(64-b)from pow_pos (by decide)));omega
 ·rw[es];have e1:(2:Int)^b*2^(64-b)=18446744073709551616:=by rw[<-Int.pow_add,show b+(64-b)=64 by omega];rfl
  have e2:(y:Int)+1<=2^b:=by exact_mod_cast b3
  have:=Int.mul_le_mul_of_nonneg_right e2 (le_of_lt (show(0:Int)<2^(64-b)from pow_pos (by decide)));omega
theorem zoS {A B P V U q R r:Int} (p0:0<P) (hV:V=B*P) (h:U+V*q=A*P) (hU:U<V) (hR:R*P+r=U) (r0:0<=r) (r1:r<P):A=q*B+R/\R<B:=by
 have e1:(A-q*B)*P=U:=by rw[Int.sub_mul];rw[hV]at h;have:q*B*P=B*P*q:=(by grind);omega
 have e2:U/P=A-q*B:=by rw[<-e1];exact Int.mul_ediv_cancel _ (by omega)
 have e3:U/P=R:=by rw[<-hR,Int.add_comm,Int.add_mul_ediv_right _ _ (by omega),Int.ediv_eq_zero_of_lt r0 r1];omega
 refine⟨by omega,?_⟩;have:R*P<B*P:=by rw[<-hV];omega
 exact Int.lt_of_mul_lt_mul_right this (le_of_lt p0)
theorem zjr (ao bo:Option Addr) (n m ca cb:Nat) (f h:Nat->Int) (w:World) (hn:n<=8796093022208) (hm:m<=8796093022208) (hr:Rd .u64 w ao n f) (hs:Rd .u64 w bo m h) (hf:Lm f n) (hh:Lm h m) (fh:Fm h m) (h2:2<=m) (hle:vf h m<=vf f n) :
  Calls prog 168 #[slice ao n ca,slice bo m cb] w λe w'=>∃a1 k1 c1 q a2 k2 c2 r,e=returned (.tuple #[slice a1 k1 c1,slice a2 k2 c2])/\Res n w w' a1 k1 c1 q/\Res (n+1) w w' a2 k2 c2 r/\vf f n=vf q k1*vf h m+vf r k2/\0<=vf r k2/\vf r k2<vf h m/\zby a1 a2:=by
 have hmn:m<=n:=zbT hh hf fh hle;obtain⟨k,rfl⟩:∃k,m=k+1:=⟨m-1,by omega⟩;obtain⟨lq,rfl⟩:∃lq,n=lq+k:=⟨n-k,by omega⟩;obtain⟨b,ob,rfl⟩:=hs.at (by omega);obtain⟨y,hy⟩:∃y,h k=y:=⟨_,rfl⟩;have hcell:w.cell? ⟨b,ob+k,none⟩=some (.int .u64 y):=by rw[<-hy];exact hs.cell (by omega)
 have hy01:=hh k (by omega);have hyne:y≠0:=by rw[<-hy];rcases fh with h|h;omega;simpa using h
 rw[hy]at hy01
 obtain⟨y,rfl⟩:=Int.eq_ofNat_of_zero_le hy01.1;obtain⟨s,s0,s1,hse,hP1,hP2⟩:=zfY y (by omega) (by omega);have cl:=Tryz.bits_LeadingZeros64 (y:Int) w (by omega) (by omega);rw[Int.toNat_natCast,hse]at cl
 obtain⟨P,hP⟩:∃P:Int,2^s.toNat=P:=⟨_,rfl⟩;have p0:0<P:=by rw[<-hP];exact pow_pos (by decide)
 have p1:P<=9223372036854775808:=by
  rw[<-hP];have e1:(2:Int)^s.toNat*2^(63-s).toNat=9223372036854775808:=by rw[<-Int.pow_add,show s.toNat+(63-s).toNat=63 by omega];rfl
  have e2:(0:Int)<2^(63-s).toNat:=pow_pos (by decide);have:=Int.mul_le_mul_of_nonneg_left (show(1:Int)<=2^(63-s).toNat by omega) (le_of_lt (show(0:Int)<2^s.toNat from pow_pos (by decide)));omega
 have hP1':9223372036854775808<=(y:Int)*P:=by rw[<-hP];exact hP1
 have hP2':((y:Int)+1)*P<=18446744073709551616:=by rw[<-hP];exact hP2
 obtain⟨hV1,hV2⟩:=zrn hh hy p0 hP1' hP2';have hA:=zar hf;have CL:=zk cl;have HF:=zk hf;have HH:=zk hh;have HR:=zk hr;have HS:=zk hs;have HP:=zk hP;have PP0:=zk p0;have PP1:=zk p1;have HV1:=zk hV1;have HV2:=zk hV2;have HA:=zk hA
 clear cl hf hh hr hs hP p0 p1 hV1 hV2 hA hP1 hP2 hP1' hP2' hse fh hle hy;go_enter func168,ntmps168;go_wp2_with fail
 refine CL.out.mono ?_;rintro e w' ⟨rfl,rfl⟩;go_wp2_with fail
 refine(zqc (some ⟨b,ob,none⟩) (k+1) cb 0 s s h _ (by omega) (by omega) s0 s1 (by omega) HS.out HH.out).mono ?_;rintro e w1 ⟨av,kv,cv,fv,rfl,hresv,hvv⟩;rw[HP.out]at hvv
 have hvv2:vf fv kv=vf h (k+1)*P:=by rw[hvv];simp[pw]
 have hkv:=znb hresv.lm hresv.fm hvv2 HV1.out HV2.out;subst hkv;have htop:=zqM hresv.lm (by rw[hvv2];exact HV1.out);obtain⟨gv,hav,hgv0,hgv,hblv⟩:∃gv,av=some ⟨gv,0,none⟩/\w'.heap.size<=gv/\gv<w1.heap.size/\Rd .u64 w1 (some ⟨gv,0,none⟩) (k+1) fv:=by
  rcases hresv.own with⟨_,h,_⟩|⟨g,e,hg,_,hn,_,hb⟩
  ·omega
  ·exact⟨g,e,hg,hb.lt,hb.rd0 hn⟩
 subst hav;have HVV:=zk hvv2;have HTop:=zk htop;have HRv:=zk hblv;have LV:=zk hresv.lm;have BV:=zk hresv.bel
 have HR1:=zk (HR.out.q_ BV.out (le_refl _));clear hvv hvv2 htop hblv hresv CL hcell HS HR;go_wp2_with fail
 refine(zqc ao (lq+k) ca 0 s s f w1 (by omega) (by omega) s0 s1 (by omega) HR1.out HF.out).mono ?_;rintro e w2 ⟨au,ku,cu,fu,rfl,hresu,hvu⟩;rw[HP.out]at hvu
 have hvu2:vf fu ku=vf f (lq+k)*P:=by rw[hvu];simp[pw]
 have hkul:ku<=lq+k+1:=by have:=hresu.le;omega
 have HVU:=zk hvu2;have HRu:=zk hresu.rd;have LU:=zk hresu.lm;have BU:=zk hresu.bel
 have HRv2:=zk (HRv.out.q_ BU.out (le_refl _));clear hvu hvu2 hresu HR1 HRv;go_wp2_with fail
 refine(zfk au ku cu (lq+k+1) _ fu w2 (by omega) hkul (by omega) HRu.out).mono ?_;rintro e w3 ⟨rfl,hbel3,hb3⟩;have HRv3:=zk (HRv2.out.q_ hbel3 (le_refl _));have BP:=zk hbel3;have HB3:=zk hb3
 clear HRv2 HRu hbel3 hb3;go_wp2_with(at_make;refine zah .u64 w3 rfl (.tmp 35) (.tmp 35) 22 rfl 49 8 underlying22 zT .i64 .i64 _ _ lq rfl rfl (by omega) (by omega) (by omega) (by unfold maxLen;omega) ?_;intro w4 hb4 hbel4)
 have G3:w2.heap.size<w3.heap.size:=HB3.out.lt;have G4:w3.heap.size<w4.heap.size:=hb4.lt;have z1:=BV.out.size;have z2:=BU.out.size
 have HB4:=zk (HB3.out.q_ hbel4 G3);have HRv4:=zk (HRv3.out.q_ hbel4 (le_refl _));have BALL:=zk (BV.out.trans ((BU.out.mono z1).trans ((BP.out.mono (by omega)).trans (hbel4.mono (by omega)))));obtain⟨V,hV⟩:∃V,vf h (k+1)*P=V:=⟨_,rfl⟩;have hval0:vf (ext fu ku) (lq+(k+1))=vf f (lq+k)*P:=by rw[zaJ _ _ _ (by omega),HVU.out]
 have hL0:Lm (ext fu ku) (lq+(k+1)):=λj hj=>by
  by_cases hjn:j<ku
  ·rw[zap _ _ _ hjn];exact LU.out j hjn
  ·rw[zav _ _ _ (by omega)];omega
 have htop0:=zlF hL0 hval0 HA.out PP0.out PP1.out (V:=V) (by rw[<-hV];exact HV1.out);have VAL0:=zk hval0;have L0:=zk hL0;have TOP0:=zk htop0;have VV:=zk hV;have HB4q:=zk hb4
 have hVlt:V<pw (k+1):=by rw[<-hV];exact HV2.out
 have hvfv:vf fv (k+1)=V:=by rw[HVV.out,hV]
 have VLT:=zk hVlt;have VFV:=zk hvfv
 clear hval0 hL0 htop0 hV hb4 hVlt hvfv HB3 HRv3 BV BU BP HVV HV1 HV2 HVU LU hbel4;generalize hG:w2.heap.size=G at G3 G4 z2 HB4 ⊢;generalize hH:w3.heap.size=H at G3 G4 HB4q ⊢;clear hG hH;go_loopw[39] (λt wr=>∃(i:Nat) (U Q:Nat->Int),i<=lq/\t=.int .i64 i/\Bl w' wr/\Hid (w4.heap.size<=wr.heap.size)/\Hid (Blk .u64 49 wr G (lq+k+1) U)/\Hid (Lm U (lq+k+1))/\Hid (Blk .u64 49 wr H lq Q)/\Hid (Lm Q lq)/\Hid (Rd .u64 wr (some ⟨gv,0,none⟩) (k+1) fv)/\Hid (∀j,j<lq-i->Q j=0)/\Hid (∀j,lq-i+(k+1)<=j->j<lq+k+1->U j=0)/\Hid (vf (sh U (lq-i)) (k+1)<V)/\Hid (vf U (lq+k+1)+V*vf Q lq=vf f (lq+k)*P)) (λt _=>lq-(intOf t).toNat)
 case atStart=>exact⟨0,ext fu ku,λ_=>0,by omega,rfl,BALL.out,le_refl _,HB4.out,L0.out,HB4q.out,zgW _,HRv4.out,λ_ _=>rfl,λj h1 h2=>by omega,TOP0.out,(by show _=_;rw[zcK (f:=λ_=>0) (λ_ _=>rfl),VAL0.out.symm];simp;rfl)⟩
 case round =>
  clear BALL HB4 L0 HB4q HRv4 TOP0 VAL0;obtain⟨i,U,Q,hi,rfl,hbel,HSz,HBU,HLU,HBQ,HLQ,HRv,HQz,HUz,HTp,HVal⟩:=hrel;by_cases hlt:i<lq
  ·obtain⟨p,hp⟩:∃p,lq-i=p+1:=⟨lq-i-1,by omega⟩;have hpi:(lq:Int)-1-(i:Int)=(p:Int):=by omega
   have hp2:p<lq:=by omega
   have hp3:¬(p=lq+k+1):=by omega
   have HPe:=zk hp;clear hp;have hw:=zqx (p:=p) (HLU.out.mono (by omega)) (by rw[<-HPe.out];exact HTp.out);have HW:=zk hw;clear hw;have hbl:=HBU.out;have z3:=HSz.out;go_wp2_with fail
   rw[show p+(k+1)+1-p=k+1+1 by omega];refine(zlg G p (k+1) (lq+k+1-p) (lq+k+1) U gv 0 cv fv wr HBU.out HLU.out (by omega) (by omega) (by omega) (by omega) HRv.out LV.out (by omega) h2 HTop.out (by rw[VFV.out];exact HW.out)).mono ?_;rintro e w5 ⟨t,rfl,ht0,ht1,hon,U',hbu',hlu',heu',hvu',hlt'⟩;rw[VFV.out]at hvu' hlt'
   have hbq':=HBQ.out.only hon (by omega);have hcelq:=hbq'.cell (j:=p) hp2;have hfzq:=hbq'.frozen p;obtain⟨hz,hzv⟩:=zmm (hlu'.sh (o:=p) (m:=k+1+1) (by omega)) (Int.lt_trans hlt' VLT.out);have hbel5:Bl w' w5:=zV hbel hon (by omega) hbel.size;have HB5:=zk hbu';have HQ5:=zk hbq';have HL5:=zk hlu';have HE5:=zk heu';have HV5:=zk hvu';have HLT5:=zk hlt';have HZ5:=zk hz;have HZV5:=zk hzv;have HON:=zk hon
   have HR5:=zk (HRv.out.only hon (off_some (by omega)));clear hbu' hbq' hlu' heu' hvu' hlt' hz hzv hon hbl;go_wp2;go_roundw
   case rel =>
    refine⟨i+1,U',upd Q p t,by omega,by go_num,zV hbel5 ((Only.refl _ _).setCell _ _ _) (by omega) hbel5.size,?_,HB5.out.setOther (by simp;omega) _,HL5.out,HQ5.out.set p t,HLQ.out.upd ⟨ht0,ht1⟩,HR5.out.only ((Only.refl _ _).setCell _ _ _) (off_some (by omega)),?_,?_,?_,?_⟩
    ·have:=HON.out.size;show _<=_;simp[World.setCell];omega
    ·intro j hj;have:=HPe.out;rw[zE _ _ _ _ (by omega)];exact HQz.out j (by omega)
    ·intro j h1 h2;have hpe:=HPe.out;by_cases hj:j=p+(k+1)
     ·subst hj;exact HZ5.out
     ·rw[HE5.out j (by omega)];exact HUz.out j (by omega) h2
    ·have hpe:=HPe.out;show _<_;rw[show lq-(i+1)=p by omega,HZV5.out];exact HLT5.out
    ·have e1:=zjH (N:=lq+k+1) (by omega) HE5.out HV5.out;have e2:=zqF (Q:=Q) (N:=lq) (t:=t) hp2 (HQz.out p (by have:=HPe.out;omega));have e3:=HVal.out;show _=_;rw[e1,e2,Int.mul_add,<-e3]
     grind
   case measure=>simp[intOf];omega
  ·have hil:i=lq:=by omega
   subst hil;have z3:=HSz.out;have hUz:vf U (i+k+1)=vf U (k+1):=ziL (by omega) (λj h1 h2=>HUz.out j (by omega) h2);have hTp:=HTp.out;rw[Nat.sub_self,sh_zero]at hTp
   have hVal:=HVal.out;rw[hUz]at hVal
   have TPE:=zk hTp;have VALE:=zk hVal
   clear hUz hTp hVal;have i1:((k+1:Nat):Int)<=((i+k+1:Nat):Int):=by omega
   go_wp2_with fail
   go_region_with (first|(go_at_call_of 153 H;refine(zaV H i i Q w' _ (by repeat(first|exact hbel|refine zH ?_ _|refine Below.drew ?_)) (by omega) (by exact HBQ.out) (le_refl _) (by omega) HLQ.out).mono ?_;rintro e w6 ⟨rfl,a1,k1,c1,rfl,hres1,hk1,hv1⟩;have HRes1:=zk hres1;have HVq:=zk hv1;clear hres1 hv1)|(go_at_call_of 153 G;refine(zaV G (i+k+1) (k+1) U w' _ (by repeat(first|exact hbel|refine zH ?_ _|refine Below.drew ?_)) (by omega) (by exact HBU.out) (by omega) (by omega) HLU.out).mono ?_;rintro e w6 ⟨rfl,a2,k2,c2,rfl,hres2,hk2,hv2⟩;have HRes2:=zk hres2;have HVr:=zk hv2;clear hres2 hv2)|(go_at_call 182;refine(zli a2 k2 c2 s U _ (by omega) s0 s1 (by exact HRes2.out.rd) HRes2.out.lm).mono ?_;rintro e w7 ⟨a3,k3,c3,R,r,rfl,hres3,r0,r1,hv3⟩;have HRes3:=zk hres3;have HV3:=zk hv3;clear hres3 hv3))
   all_goals
    go_wp2
    go_ret2
    have B:=HRes3.out.bel;have e3:=HV3.out;rw[HP.out,HVr.out]at e3
    rw[HP.out]at r1
    obtain⟨g1,g2⟩:=zoS PP0.out VV.out.symm VALE.out TPE.out e3 r0 r1;refine⟨a1,k1,c1,Q,a3,k3,c3,R,rfl,(HRes1.out.later ⟨B.os,B.tape,B.output,B.size,B.block⟩).mono (by omega),(HRes3.out.ahead (by repeat(first|exact hbel|refine zH ?_ _|refine Below.drew ?_))).mono (by omega),?_,zz HRes3.out.lm,g2,HRes3.out.apart HRes1.out.und (le_refl _)⟩;rw[HVq.out];exact g1
theorem zhf (ao bo:Option Addr) (n m ca cb:Nat) (f h:Nat->Int) (w:World) (hn:n<=8796093022208) (hm:m<=8796093022208) (hr:Rd .u64 w ao n f) (hs:Rd .u64 w bo m h) (hf:Lm f n) (hh:Lm h m) (ff:Fm f n) (fh:Fm h m) (h2:2<=m) (hle:vf h m<=vf f n) :
  Calls prog 155 #[slice ao n ca,slice bo m cb] w λe w'=>∃a1 k1 c1 q a2 k2 c2 r,e=returned (.tuple #[slice a1 k1 c1,slice a2 k2 c2])/\Res n w w' a1 k1 c1 q/\Res (n+1) w w' a2 k2 c2 r/\vf f n=vf q k1*vf h m+vf r k2/\0<=vf r k2/\vf r k2<vf h m/\zby a1 a2:=by
 have cc:=ziv ao bo n m ca cb f h w (by omega) (by omega) hr hs hf hh ff fh;have CC:=zk cc;have CL:=zk (λq=>zjr ao bo n m ca cb f h (w.drewN q) hn hm hr hs hf hh fh h2 hle);have HLe:=zk hle;have h1:((m:Int)==1)=false:=by simp;omega
 clear cc hr hs hf hh ff fh hle;go_enter func155,ntmps155;go_wp2_with fail
 refine CC.out.mono ?_;rintro e w1 ⟨⟨q,rfl⟩,c,rfl,ho⟩;have hc:0<=c:=by have:=HLe.out;unfold Ord at ho;omega
 clear ho;go_wp2_with fail
 refine(CL.out q).mono ?_;rintro e w2 ⟨a1,k1,c1,q1,a2,k2,c2,r,rfl,hres1,hres2,hv,hr0,hr1,hap⟩;have HV:=zk hv;have HR0:=zk hr0;have HR1:=zk hr1;have HAP:=zk hap
 clear hv hr0 hr1 hap;go_wp2
 go_ret2
 have hb:=zH (Below.refl w.heap.size w) q;exact⟨a1,k1,c1,q1,a2,k2,c2,r,rfl,hres1.ahead hb,hres2.ahead hb,HV.out,HR0.out,HR1.out,HAP.out⟩
theorem zge (ao bo:Option Addr) (n m ca cb:Nat) (f h:Nat->Int) (w:World) (hn:n<=8796093022208) (hm:m<=8796093022208) (hr:Rd .u64 w ao n f) (hs:Rd .u64 w bo m h) (hf:Lm f n) (hh:Lm h m) (ff:Fm f n) (fh:Fm h m) (hm0:0<m) :
  Calls prog 155 #[slice ao n ca,slice bo m cb] w λe w'=>∃a1 k1 c1 q a2 k2 c2 r,e=returned (.tuple #[slice a1 k1 c1,slice a2 k2 c2])/\Res n w w' a1 k1 c1 q/\Res (n+1) w w' a2 k2 c2 r/\vf f n=vf q k1*vf h m+vf r k2/\0<=vf r k2/\vf r k2<vf h m/\zby a1 a2:=by
 by_cases hsm:m=1∨vf f n<vf h m
 ·exact zfO ao bo n m ca cb f h w hn hm hr hs hf hh ff fh hsm
 ·exact zhf ao bo n m ca cb f h w hn hm hr hs hf hh ff fh (by omega) (by omega)
theorem znK (ao bo:Option Addr) (n m ca cb:Nat) (f h:Nat->Int) (w:World) (hn:n<=8796093022208) (hm:m<=8796093022208) (hr:Rd .u64 w ao n f) (hs:Rd .u64 w bo m h) (hf:Lm f n) (hh:Lm h m) (ff:Fm f n) (fh:Fm h m) (hm0:0<m) :
  Calls prog 155 #[slice ao n ca,slice bo m cb] w λe w'=>∃a1 k1 c1 q a2 k2 c2 r,e=returned (.tuple #[slice a1 k1 c1,slice a2 k2 c2])/\Res n w w' a1 k1 c1 q/\Res (n+1) w w' a2 k2 c2 r/\vf f n=vf q k1*vf h m+vf r k2/\0<=vf r k2/\vf r k2<vf h m :=
 (zge ao bo n m ca cb f h w hn hm hr hs hf hh ff fh hm0).mono λ_ _ ⟨a1,k1,c1,q,a2,k2,c2,r,h1,h2,h3,h4,h5,h6,_⟩=>⟨a1,k1,c1,q,a2,k2,c2,r,h1,h2,h3,h4,h5,h6⟩
theorem zon (ao bo:Option Addr) (n m ca cb:Nat) (f h:Nat->Int) (w:World) (hn:n<=1099511627776) (hm:m<=1099511627776) (hca:n<=ca) (hcb:m<=cb) (hcam:ca<=9223372036854775807) (hcbm:cb<=9223372036854775807) (hr:Rd .u64 w ao n f) (hs:Rd .u64 w bo m h) (hf:Lm f n) (hh:Lm h m) :
  Calls prog 122 #[slice ao n ca,slice bo m cb] w λe w'=>∃ao' k cap' f' er,e=returned (.tuple #[slice ao' k cap',.int .i64 er])/\Res (n+m) w w' ao' k cap' f' /\
   (Fm f n/\Fm h m/\er=0/\vf f' k=vf f n*vf h m∨¬(Fm f n/\Fm h m)/\er=3/\k=0):=by
 have HF:=(show Hid (Lm f n)from hf);have HH:=(show Hid (Lm h m)from hh);clear hf hh;cases hfa:fmB f n
 ·have c1:=λw' hr'=>zal ao n ca f w' (by omega) hr'
  rw[hfa]at c1
  have HN:=zk (zbx hfa);have C1:=zk c1;clear c1 hfa;go_enter func122,ntmps122;go_wp2_with(go_at_call 91;refine(C1.out _ hr).mono ?_;rintro e w' ⟨rfl,rfl⟩)
  go_ret2
  exact⟨_,_,_,f,_,rfl,Res.nil f (Below.refl _ _),.inr ⟨λx=>HN.out x.1,rfl,rfl⟩⟩
 ·have c1:=λw' hr'=>zal ao n ca f w' (by omega) hr'
  rw[hfa]at c1
  have FA:=zk (zbm hfa);have C1:=zk c1;clear c1 hfa;cases hfb:fmB h m
  ·have c2:=λw' hr'=>zal bo m cb h w' (by omega) hr'
   rw[hfb]at c2
   have HN:=zk (zbx hfb);have C2:=zk c2;clear c2 hfb;go_enter func122,ntmps122;go_wp2_with fail
   refine(C1.out _ hr).mono ?_;rintro e w' ⟨rfl,rfl⟩;go_wp2_with fail
   refine(C2.out _ hs).mono ?_;rintro e w' ⟨rfl,rfl⟩;go_wp2
   go_ret2
   exact⟨_,_,_,f,_,rfl,Res.nil f (Below.refl _ _),.inr ⟨λx=>HN.out x.2,rfl,rfl⟩⟩
  ·have c2:=λw' hr'=>zal bo m cb h w' (by omega) hr'
   rw[hfb]at c2
   have FB:=zk (zbm hfb);have C2:=zk c2;clear c2 hfb;go_enter func122,ntmps122;go_wp2_with fail
   refine(C1.out _ hr).mono ?_;rintro e w' ⟨rfl,rfl⟩;go_wp2_with fail
   refine(C2.out _ hs).mono ?_;rintro e w' ⟨rfl,rfl⟩;go_wp2_with fail
   refine(zsn ao bo n m ca cb f h _ hn hm hca hcb hcam hcbm hr hs HF.out HH.out).mono ?_;rintro e w' ⟨ao',k,cap',f',rfl,hres,hv⟩;have HV:=zk hv;clear hv;go_wp2
   go_ret2
   exact⟨_,_,_,f',_,rfl,hres,.inl ⟨FA.out,FB.out,rfl,HV.out⟩⟩
def zoq (n m:Nat) (f h:Nat->Int) (k1 k2:Nat) (q r:Nat->Int) (er:Int):Prop :=
 Fm f n/\Fm h m/\0<m/\er=0/\vf f n=vf q k1*vf h m+vf r k2/\0<=vf r k2/\vf r k2<vf h m∨Fm f n/\Fm h m/\m=0/\er=4/\k1=0/\k2=0∨¬(Fm f n/\Fm h m)/\er=3/\k1=0/\k2=0
theorem zlT (ao bo:Option Addr) (n m ca cb:Nat) (f h:Nat->Int) (w:World) (hn:n<=8796093022208) (hm:m<=8796093022208) (hr:Rd .u64 w ao n f) (hs:Rd .u64 w bo m h) (hf:Lm f n) (hh:Lm h m) :
  Calls prog 142 #[slice ao n ca,slice bo m cb] w λe w'=>∃a1 k1 c1 q a2 k2 c2 r er,e=returned (.tuple #[slice a1 k1 c1,slice a2 k2 c2,.int .i64 er])/\Res n w w' a1 k1 c1 q/\Res (n+1) w w' a2 k2 c2 r/\zoq n m f h k1 k2 q r er/\zby a1 a2:=by
 have HF:=(show Hid (Lm f n)from hf);have HH:=(show Hid (Lm h m)from hh);clear hf hh;cases hfa:fmB f n
 ·have c1:=λw' hr'=>zal ao n ca f w' (by omega) hr'
  rw[hfa]at c1
  have HN:=zk (zbx hfa);have C1:=zk c1;clear c1 hfa;go_enter func142,ntmps142;go_wp2_with(go_at_call 91;refine(C1.out _ hr).mono ?_;rintro e w' ⟨rfl,rfl⟩)
  go_ret3
  exact⟨_,_,_,f,_,_,_,f,_,rfl,Res.nil f (Below.refl _ _),Res.nil f (Below.refl _ _),.inr (.inr ⟨λx=>HN.out x.1,rfl,rfl,rfl⟩),zco _⟩
 ·have c1:=λw' hr'=>zal ao n ca f w' (by omega) hr'
  rw[hfa]at c1
  have FA:=zk (zbm hfa);have C1:=zk c1;clear c1 hfa;cases hfb:fmB h m
  ·have c2:=λw' hr'=>zal bo m cb h w' (by omega) hr'
   rw[hfb]at c2
   have HN:=zk (zbx hfb);have C2:=zk c2;clear c2 hfb;go_enter func142,ntmps142;go_wp2_with fail
   refine(C1.out _ hr).mono ?_;rintro e w' ⟨rfl,rfl⟩;go_wp2_with fail
   refine(C2.out _ hs).mono ?_;rintro e w' ⟨rfl,rfl⟩;go_wp2
   go_ret3
   exact⟨_,_,_,f,_,_,_,f,_,rfl,Res.nil f (Below.refl _ _),Res.nil f (Below.refl _ _),.inr (.inr ⟨λx=>HN.out x.2,rfl,rfl,rfl⟩),zco _⟩
  ·have c2:=λw' hr'=>zal bo m cb h w' (by omega) hr'
   rw[hfb]at c2
   have FB:=zk (zbm hfb);have C2:=zk c2;clear c2 hfb;by_cases hm0:m=0
   ·subst hm0;go_enter func142,ntmps142;go_wp2_with fail
    refine(C1.out _ hr).mono ?_;rintro e w' ⟨rfl,rfl⟩;go_wp2_with fail
    refine(C2.out _ hs).mono ?_;rintro e w' ⟨rfl,rfl⟩;go_wp2
    go_ret3
    exact⟨_,_,_,f,_,_,_,f,_,rfl,Res.nil f (Below.refl _ _),Res.nil f (Below.refl _ _),.inr (.inl ⟨FA.out,FB.out,rfl,rfl,rfl,rfl⟩),zco _⟩
   ·have hmi:((m:Int)==0)=false:=by simp;omega
    go_enter func142,ntmps142;go_wp2_with fail
    refine(C1.out _ hr).mono ?_;rintro e w' ⟨rfl,rfl⟩;go_wp2_with fail
    refine(C2.out _ hs).mono ?_;rintro e w' ⟨rfl,rfl⟩;go_wp2_with fail
    refine(zge ao bo n m ca cb f h _ hn hm hr hs HF.out HH.out FA.out FB.out (by omega)).mono ?_;rintro e w' ⟨a1,k1,c1,q,a2,k2,c2,r,rfl,hres1,hres2,hv,hr0,hr1,hap⟩;have HV:=zk hv;have HR0:=zk hr0;have HR1:=zk hr1;have HAP:=zk hap
    clear hv hr0 hr1 hap;go_wp2
    go_ret3
    exact⟨_,_,_,q,_,_,_,r,_,rfl,hres1,hres2,.inl ⟨FA.out,FB.out,by omega,rfl,HV.out,HR0.out,HR1.out⟩,HAP.out⟩
theorem ziF (ao bo:Option Addr) (n m ca cb:Nat) (f h:Nat->Int) (w:World) (hn:n<=8796093022208) (hm:m<=8796093022208) (hr:Rd .u64 w ao n f) (hs:Rd .u64 w bo m h) (hf:Lm f n) (hh:Lm h m) :
  Calls prog 142 #[slice ao n ca,slice bo m cb] w λe w'=>∃a1 k1 c1 q a2 k2 c2 r er,e=returned (.tuple #[slice a1 k1 c1,slice a2 k2 c2,.int .i64 er])/\Res n w w' a1 k1 c1 q/\Res (n+1) w w' a2 k2 c2 r/\zoq n m f h k1 k2 q r er :=
 (zlT ao bo n m ca cb f h w hn hm hr hs hf hh).mono λ_ _ ⟨a1,k1,c1,q,a2,k2,c2,r,er,h1,h2,h3,h4,_⟩=>⟨a1,k1,c1,q,a2,k2,c2,r,er,h1,h2,h3,h4⟩
end Go.Proofs.YtlbgphjdibbkjaaGreat
namespace Go.Proofs.YtlbgphjdibbkjaaGreat
open Value (slice agg)
open Ending (returned)
open Nat (le_refl le_trans)
open World (cell?_of_block block_lt_of_cell?)
open Int (le_of_lt mul_nonneg add_mul mul_comm one_mul pow_pos)
open Go.Proofs.Tryz
open Go.RowKit Go.Sort Go.Lib
end Go.Proofs.YtlbgphjdibbkjaaGreat
namespace Go.Proofs.YtlbgphjdibbkjaaGreat
open Value (slice agg)
open Ending (returned)
open Nat (le_refl le_trans)
open World (cell?_of_block block_lt_of_cell?)
open Int (le_of_lt mul_nonneg add_mul mul_comm one_mul pow_pos)
open Go.Proofs.Tryz
open Go.RowKit Go.Lib
theorem zhW (ao:Option Addr) (n cap:Nat) (f:Nat->Int) (i:Nat) (w:World) (hn:n<=140737488355328) (hi:i<=140737488355328) (hr:Rd .u64 w ao n f) :
  Calls prog 194 #[slice ao n cap,.int .i64 i] w λe w'=>e=returned (.int .u64 (ext f n i))/\w'=w:=by
 by_cases h:i<n
 ·obtain⟨b,o,rfl⟩:=hr.at (by omega);have hc:=hr.cell h;have E:=zk (zap f n i h);clear hr;go_enter func194,ntmps194;go_wp2;go_ret;exact⟨by rw[E.out];rfl,rfl⟩
 ·have E:=zk (zav f n i (by omega));go_enter func194,ntmps194;go_wp2;go_ret;exact⟨by rw[E.out];rfl,rfl⟩
end Go.Proofs.YtlbgphjdibbkjaaGreat
namespace Go.Proofs.YtlbgphjdibbkjaaGreat
open Value (slice agg)
open Ending (returned)
open Nat (le_refl le_trans)
open World (cell?_of_block block_lt_of_cell?)
open Int (le_of_lt mul_nonneg add_mul mul_comm one_mul pow_pos)
open Go.Proofs.Tryz
open Go.RowKit
def Tg (w:World) (ao:Option Addr):Prop:=∀a,ao=some a->∃arr fr,w.heap[a.block]?=some (.cells arr 49 fr)
theorem Tg.q_ {w w' ao} (h:Tg w ao) (hb:Bl w w'):Tg w' ao:=λa ha=>by
 obtain⟨arr,fr,e⟩:=h a ha;exact⟨arr,fr,by rw[hb.block _ (Array.getElem?_eq_some_iff.1 e).1];exact e⟩
theorem zkb (ao:Option Addr) (n cap:Nat) (f:Nat->Int) (w:World) (hm:n<=9223372036854775807) (hr:Rd .u64 w ao n f) :
  Calls prog 128 #[slice ao n cap] w λe w'=>e=returned (.bool (fmB f n))/\w'=w:=by
 by_cases h0:n=0
 ·subst h0;have e:fmB f 0=true:=by simp[fmB]
  go_enter func128,ntmps128;go_wp2;go_ret;exact⟨by rw[e];rfl,rfl⟩
 ·obtain⟨b,o,rfl⟩:=hr.at (by omega);obtain⟨x,hx⟩:∃x,f (n-1)=x:=⟨_,rfl⟩;have hc:w.cell? ⟨b,o+(n-1),none⟩=some (.int .u64 x):=by rw[<-hx];exact hr.cell (by omega)
  have h1:((n:Int)==0)=false:=by simp;omega
  have e:fmB f n=(x != 0):=by simp[fmB,h0,hx,bne];rfl
  have E:=zk e;clear hr hx e;go_enter func128,ntmps128;go_wp2;go_ret;exact⟨by rw[E.out];rfl,rfl⟩
theorem zcD (ao:Option Addr) (n cap:Nat) (f:Nat->Int) (w:World) (hc:n<=cap) (hm:cap<=9223372036854775807) (hr:Rd .u64 w ao n f) (hnil:ao=none->cap=0) :
  Calls prog 85 #[slice ao n cap] w λe w'=>w'=w/\∃m,m<=n/\(∀j,m<=j->j<n->f j=0)/\Fm f m/\e=returned (slice ao m cap):=by
 go_enter func85,ntmps85;go_wp2
 go_loop [3] (λt=>∃m:Nat,m<=n/\t=.int .i64 m/\Hid (∀j,m<=j->j<n->f j=0)) (λt=>(intOf t).toNat)
 case atStart=>exact⟨n,le_refl _,rfl,λj h1 h2=>by omega⟩
 case round =>
  obtain⟨m,hmn,rfl,HZ⟩:=hrel;by_cases h0:0<m
  ·obtain⟨b,o,rfl⟩:=hr.at (by omega);obtain⟨x,hx⟩:∃x,f (m-1)=x:=⟨_,rfl⟩;have hcell:w.cell? ⟨b,o+(m-1),none⟩=some (.int .u64 x):=by rw[<-hx];exact hr.cell (by omega)
   have HX:Hid (f (m-1)=x):=hx;clear hx hr;by_cases hx0:x=0
   ·subst hx0;go_wp2
    go_round
    case rel =>
     refine⟨m-1,by omega,by go_num,λj h1 h2=>?_⟩;by_cases hj:j=m-1
     ·rw[hj];exact HX.out
     ·exact HZ.out j (by omega) h2
    case measure=>simp[intOf];omega
   ·have hx1:(x==0)=false:=by simp[hx0]
    go_wp2;go_ret;exact⟨rfl,m,hmn,HZ.out,.inr (by rw[HX.out];exact hx0),rfl⟩
  ·have h00:m=0:=by omega
   subst h00;cases ao with
   | none =>
    obtain rfl:cap=0:=hnil rfl;go_wp2;go_ret;exact⟨rfl,0,hmn,HZ.out,.inl rfl,rfl⟩
   | some ad =>
    clear hnil;go_wp2;go_ret;exact⟨rfl,0,hmn,HZ.out,.inl rfl,rfl⟩
def Alk (n m:Nat) (f g:Nat->Int):Prop:=n=m/\∀j,j<n->f j=g j
theorem zmA (ao bo:Option Addr) (n m ca cb:Nat) (f g:Nat->Int) (w:World) (hm:n<=140737488355328) (hm':m<=140737488355328) (hr:Rd .u64 w ao n f) (hs:Rd .u64 w bo m g) :
  Calls prog 46 #[slice ao n ca,slice bo m cb] w λe w'=>(∃q,w'=w.drewN q)/\∃b,e=returned (.bool b)/\(b=true ↔ Alk n m f g):=by
 by_cases hnm:n=m
 ·subst hnm;have h1:((n:Int) != n)=false:=by simp
  go_enter func46,ntmps46;go_wp2;go_loopw[13] (λt wr=>∃i:Nat,i<=n/\t=.int .i64 i/\Hid (∀j,j<i->f j=g j)/\∃q,wr=w.drewN q) (λt _=>n-(intOf t).toNat)
  case atStart=>exact⟨0,by omega,rfl,λj h1=>by omega,0,rfl⟩
  case round =>
   obtain⟨i,hin,rfl,HE,q,rfl⟩:=hrel;by_cases hlt:i<n
   ·obtain⟨b,o,rfl⟩:=hr.at (by omega);obtain⟨b',o',rfl⟩:=hs.at (by omega);obtain⟨x,hx⟩:∃x,f i=x:=⟨_,rfl⟩;obtain⟨y,hy⟩:∃y,g i=y:=⟨_,rfl⟩;have hca:w.cell? ⟨b,o+i,none⟩=some (.int .u64 x):=by rw[<-hx];exact hr.cell (by omega)
    have hcb:w.cell? ⟨b',o'+i,none⟩=some (.int .u64 y):=by rw[<-hy];exact hs.cell (by omega)
    have HX:Hid (f i=x):=hx;have HY:Hid (g i=y):=hy;clear hx hy hr hs;by_cases hxy:x=y
    ·subst hxy;have hne:(x != x)=false:=by simp
     go_wp2
     go_quiet (fail)
     go_wp2;go_roundw
     case rel =>
      refine⟨i+1,by omega,by go_num,λj h1=>?_,_,rfl⟩;by_cases hj:j=i
      ·rw[hj];exact HX.out.trans HY.out.symm
      ·exact HE.out j (by omega)
     case measure=>simp[intOf];omega
    ·have hne:(x != y)=true:=by simp[hxy]
     go_wp2
     go_quiet (fail)
     go_wp2;go_ret;refine⟨⟨_,by (repeat rw[World.drewN_drewN]) <;> rfl⟩,false,rfl,⟨λh=>(by cases h),λh=>?_⟩⟩;have:=h.2 i hlt;rw[HX.out,HY.out]at this
     exact absurd this hxy
   ·have hi:i=n:=by omega
    subst hi;go_wp2;go_ret;exact⟨⟨_,rfl⟩,true,rfl,⟨λ_=>⟨rfl,HE.out⟩,λ_=>rfl⟩⟩
 ·have h1:((n:Int) != m)=true:=by simp;omega
  go_enter func46,ntmps46;go_wp2;go_ret;exact⟨⟨0,rfl⟩,false,rfl,⟨λh=>(by cases h),λh=>absurd h.1 hnm⟩⟩
theorem zmd (x:Int):vf (λ_=>x) 1=x:=by simp[vf,pw]
theorem Rd.alloc {k w ao n f} (h:Rd k w ao n f) (o:Obj):Rd k (w.alloc o) ao n f:=h.q_ ((Below.refl _ _).alloc (le_refl _) o) (le_refl _)
theorem zu {w0 w} (h:Bl w0 w) (o:Obj):Bl w0 (w.alloc o):=h.alloc h.size o
theorem zB (w:World) (o:Obj):Bl w (w.alloc o):=zu (Below.refl _ w) o
theorem fm1 {x} (h:x≠0):Fm (λ_=>x) 1:=.inr h
theorem zw (w:World) (o:Obj):(w.alloc o).heap.size=w.heap.size+1:=by simp
structure Turned (lo hi:Nat) (w w':World):Prop where
 os:w'.os=w.os
 tape:w'.tape=w.tape
 output:w'.output=w.output
 size:w.heap.size<=w'.heap.size
 block:∀k,k<w.heap.size->k<lo∨hi<=k->w'.heap[k]?=w.heap[k]?
theorem Turned.refl (lo hi:Nat) (w:World):Turned lo hi w w:=⟨rfl,rfl,rfl,le_refl _,λ_ _ _=>rfl⟩
theorem Turned.trans {lo hi a b c} (h:Turned lo hi a b) (k:Turned lo hi b c):Turned lo hi a c :=
 ⟨k.os.trans h.os,k.tape.trans h.tape,k.output.trans h.output,le_trans h.size k.size,λi hi hn=>(k.block i (Nat.lt_of_lt_of_le hi h.size) hn).trans (h.block i hi hn)⟩
theorem Turned.set {lo hi a w} (h:Turned lo hi a w) {x} (h1:lo<=x.block) (h2:x.block<hi) (u:Value):Turned lo hi a (w.setCell x u) :=
 h.trans ⟨rfl,rfl,rfl,by simp[World.setCell],λk _ hn=>Below.heap_setCell _ _ _ _ (by omega)⟩
theorem Turned.alloc {lo hi a w} (h:Turned lo hi a w) (o:Obj):Turned lo hi a (w.alloc o) :=
 h.trans ⟨rfl,rfl,rfl,by simp,λk hk _=>Below.heap_alloc _ _ _ hk⟩
theorem Turned.drew {lo hi a w} (h:Turned lo hi a w):Turned lo hi a w.drew:=⟨h.os,h.tape,h.output,h.size,h.block⟩
theorem zL {B w0 w w'} (hb:Below B w0 w) (hB:B<=w.heap.size) {lo hi} (h:Turned lo hi w w') (hl:B<=lo):Below B w0 w' :=
 hb.trans ⟨h.os,h.tape,h.output,h.size,λk hk=>h.block k (by omega) (.inl (by omega))⟩
theorem Own.of {k e w w' base ao n cap f} (h:Own k e w base (.slice ao n cap) n f) (hh:∀a,ao=some a->w'.heap[a.block]?=w.heap[a.block]?):Own k e w' base (.slice ao n cap) n f:=by
 obtain⟨h1,h2⟩:=h;refine⟨h1,?_⟩;rcases h2 with⟨h3,h4⟩|⟨g,cap',cur,hv,hb,hg,hn,hm,hs,ht⟩
 ·exact .inl ⟨h3,h4⟩
 ·cases hv
  exact .inr ⟨g,cap,cur,rfl,hb,(hh _ rfl).trans hg,hn,hm,hs,ht⟩
theorem Own.base {k e w base base' v n f} (h:Own k e w base v n f) (hb:base'<=base):Own k e w base' v n f:=by
 obtain⟨h1,h2⟩:=h;refine⟨h1,?_⟩;rcases h2 with⟨h3,h4⟩|⟨g,cap',cur,hv,hb',hg,hn,hm,hs,ht⟩
 ·exact .inl ⟨h3,h4⟩
 ·exact .inr ⟨g,cap',cur,hv,le_trans hb hb',hg,hn,hm,hs,ht⟩
theorem Own.slice {k e w base ao n cap f} (h:Own k e w base (.slice ao n cap) n f):n<=cap/\cap<=9223372036854775807/\(ao=none->n=0/\cap=0)/\Rd k w ao n f/\∀a,ao=some a->base<=a.block/\a.block<w.heap.size:=by
 obtain⟨ao',cap',e',h1,h2,h3,h4,h5⟩:=h.shape;cases e'
 refine⟨h1,by unfold maxLen at h3;omega,λe=>⟨by have:=h2 e;omega,h2 e⟩,h4,h5⟩
def wfB (s:Bool) (f:Nat->Int) (n:Nat):Bool:=fmB f n && !(s && decide (n=0))
theorem zaH {W w1 B} (hb:Below B W w1):(∀b o,b<B->w1.cell? ⟨b,o,none⟩=W.cell? ⟨b,o,none⟩)/\(∀b o,b<B->w1.frozen? ⟨b,o,none⟩=W.frozen? ⟨b,o,none⟩) :=
 ⟨λb o h=>hb.cell (p:=⟨b,o,none⟩) h,λb o h=>hb.frozen (p:=⟨b,o,none⟩) h⟩
theorem zaM {w w' q} (h:w'=w.drewN q):Bl w w':=by rw[h];exact zH (Below.refl _ _) _
theorem zaN (s:Bool) (ao:Option Addr) (n cap:Nat) (f:Nat->Int) (w:World) (hm:n<=9223372036854775807) (hr:Rd .u64 w ao n f) :
  Calls prog 89 #[agg #[.bool s,slice ao n cap]] w λe w'=>e=returned (.bool (wfB s f n))/\Bl w w':=by
 have hba:Bl w (w.alloc (.cells #[.bool s,slice ao n cap] 150)):=zu (Below.refl _ _) _;have c1:=zal ao n cap f (w.alloc (.cells #[.bool s,slice ao n cap] 150)) hm (hr.alloc _);have HB:=zk hba;clear hr hba;have hwf:wfB s f n=(fmB f n && !(s && decide (n=0))):=rfl;rw[hwf];clear hwf;cases hfa:fmB f n
 ·rw[hfa]at c1
  have C1:=zk c1;clear c1 hfa;go_enter func89,ntmps89;go_wp2_with fail
  refine C1.out.mono ?_;rintro e w1 ⟨rfl,rfl⟩;go_wp2;go_ret;exact⟨rfl,HB.out⟩
 ·rw[hfa]at c1
  have C1:=zk c1;clear c1 hfa;cases s
  ·go_enter func89,ntmps89;go_wp2_with fail
   refine C1.out.mono ?_;rintro e w1 ⟨rfl,rfl⟩;go_wp2;go_ret;exact⟨rfl,HB.out⟩
  ·by_cases hn0:n=0
   ·subst hn0;go_enter func89,ntmps89;go_wp2_with fail
    refine C1.out.mono ?_;rintro e w1 ⟨rfl,rfl⟩;go_wp2;go_ret;exact⟨rfl,HB.out⟩
   ·have hni:((n:Int)==0)=false:=by simp;omega
    have hdn:decide (n=0)=false:=by simp;omega
    rw[hdn];clear hdn;go_enter func89,ntmps89;go_wp2_with fail
    refine C1.out.mono ?_;rintro e w1 ⟨rfl,rfl⟩;go_wp2;go_ret;exact⟨rfl,HB.out⟩
theorem zdy (s:Bool) (ao:Option Addr) (n cap:Nat) (w:World) (hm:n<=9223372036854775807) :
  Calls prog 143 #[.bool s,slice ao n cap] w λe w'=>∃r o,e=returned (agg #[.bool r,slice ao n cap])/\Hid (r=(s && decide (0<n)))/\w'=w.alloc o:=by
 cases s
 ·go_enter func143,ntmps143;go_wp2;exact bodyPost_ret (v:=agg #[.bool false,slice ao n cap]) (by simp[results,results143,go_sem]) rfl ⟨false,_,rfl,rfl,rfl⟩
 ·by_cases hn0:0<n
  ·have hni:decide ((0:Int)<(n:Int))=true:=by simp;omega
   have hdn:decide (0<n)=true:=by simp;omega
   rw[hdn];clear hdn;go_enter func143,ntmps143;go_wp2;exact bodyPost_ret (v:=agg #[.bool true,slice ao n cap]) (by simp[results,results143,go_sem]) rfl ⟨true,_,rfl,rfl,rfl⟩
  ·have hni:decide ((0:Int)<(n:Int))=false:=by simp;omega
   have hdn:decide (0<n)=false:=by simp;omega
   rw[hdn];clear hdn;go_enter func143,ntmps143;go_wp2;exact bodyPost_ret (v:=agg #[.bool false,slice ao n cap]) (by simp[results,results143,go_sem]) rfl ⟨false,_,rfl,rfl,rfl⟩
def wv (s:Bool) (f:Nat->Int) (n:Nat):Int:=if s then-vf f n else vf f n
theorem Res.turned {C w0 w w' w'' ao n cap f} (h:Res C w w' ao n cap f) (hb:Bl w0 w) (ht:Turned w0.heap.size w.heap.size w' w''):Res C w0 w'' ao n cap f:=by
 have hb2:Bl w0 w':=hb.trans (h.bel.mono hb.size);refine⟨zL hb2 hb2.size ht (le_refl _),?_,h.lmc,h.fm⟩;rcases h.own with⟨rfl,rfl,rfl⟩|⟨g,rfl,h1,h2,h3,h4,h5⟩
 ·exact .inl ⟨rfl,rfl,rfl⟩
 ·exact .inr ⟨g,rfl,by have:=hb.size;omega,h2,h3,h4,h5.of (ht.block g h5.lt (.inr h1))⟩
structure Asw (C:Nat) (w w':World) (ao:Option Addr) (n cap:Nat) (f:Nat->Int):Prop where
 bel:Bl w w'
 own:Own .u64 49 w' w.heap.size (slice ao n cap) n f
 lm:Lm f n
 fm:Fm f n
 le:n<=C
theorem Asw.rd {C w w' ao n cap f} (h:Asw C w w' ao n cap f):Rd .u64 w' ao n f:=h.own.slice.2.2.2.1
theorem Asw.ncap {C w w' ao n cap f} (h:Asw C w w' ao n cap f):n<=cap/\cap<=9223372036854775807:=⟨h.own.slice.1,h.own.slice.2.1⟩
theorem Asw.nil' {C w w' ao n cap f} (h:Asw C w w' ao n cap f):ao=none->n=0/\cap=0:=h.own.slice.2.2.1
theorem Asw.none {C:Nat} {w w':World} (f:Nat->Int) (h:Bl w w'):Asw C w w' none 0 0 f:=⟨h,zdG _ _ _ _ _,λj hj=>by omega,.inl rfl,Nat.zero_le _⟩
theorem Asw.turned {C w0 w w' w'' ao n cap f} (h:Asw C w w' ao n cap f) (hb:Bl w0 w) (ht:Turned w0.heap.size w.heap.size w' w''):Asw C w0 w'' ao n cap f:=by
 have hb2:Bl w0 w':=hb.trans (h.bel.mono hb.size);refine⟨zL hb2 hb2.size ht (le_refl _),(h.own.of ?_).base hb.size,h.lm,h.fm,h.le⟩;intro a ha;obtain⟨h1,h2⟩:=h.own.slice.2.2.2.2 a ha;exact ht.block _ h2 (.inr h1)
theorem Res.ans {C w w' ao n cap f} (h:Res C w w' ao n cap f) (hC:C<=9223372036854775807):Asw C w w' ao n cap f:=by
 refine⟨h.bel,?_,h.lm,h.fm,h.le⟩;rcases h.own with⟨rfl,rfl,rfl⟩|⟨g,rfl,h1,h2,h3,h4,h5⟩
 ·exact zdG _ _ _ _ _
 ·exact zdm h5 h1 h3 (by unfold maxLen;omega)
structure WRes (C:Nat) (w w':World) (s:Bool) (ao:Option Addr) (n cap:Nat) (f:Nat->Int):Prop where
 res:Asw C w w' ao n cap f
 sgn:s=true->0<n
theorem wfB_iff (s:Bool) (f:Nat->Int) (n:Nat):wfB s f n=true ↔ Fm f n/\(s=true->0<n):=by
 rw[<-zcW];unfold wfB;cases s <;> simp;omega
theorem WRes.wfB {C w w' s ao n cap f} (h:WRes C w w' s ao n cap f):wfB s f n=true:=(wfB_iff s f n).2 ⟨h.res.fm,h.sgn⟩
theorem zae (f:Nat->Int) (n:Nat):wv false f n=vf f n:=rfl
theorem zam (f:Nat->Int) (n:Nat):wv true f n=- vf f n:=rfl
theorem WRes.mk' {C w w' ao n cap f r s} (hr:Hid (r=(s && decide (0<n)))) (h:Asw C w w' ao n cap f):WRes C w w' r ao n cap f:=⟨h,λh=>by rw[hr.out]at h;simp at h;exact h.2⟩
theorem zev {f n r s} (hr:Hid (r=(s && decide (0<n)))):wv r f n=wv s f n:=by
 rw[hr.out];by_cases hn:0<n
 ·simp[hn]
 ·obtain rfl:n=0:=by omega
  cases s <;> simp[wv,vf]
theorem zlc (s:Bool) (ao bo:Option Addr) (n m ca cb:Nat) (f h:Nat->Int) (w:World) (hn:n<=8796093022208) (hm:m<=8796093022208) (hr:Rd .u64 w ao n f) (hs:Rd .u64 w bo m h) (hf:Lm f n) (hh:Lm h m) (ff:Fm f n) (fh:Fm h m) :
  Calls prog 144 #[agg #[.bool s,slice ao n ca],agg #[.bool s,slice bo m cb]] w λe w'=>∃r ao' k cap' f',e=returned (agg #[.bool r,slice ao' k cap'])/\WRes (max n m+1) w w' r ao' k cap' f'/\wv r f' k=wv s f n+wv s h m:=by
 have HR:=zk hr;have HS:=zk hs;have HF:=zk hf;have HH:=zk hh;have FF:=zk ff;have FH:=zk fh
 clear hr hs hf hh ff fh;cases s
 all_goals
  go_enter func144,ntmps144;go_wp2_with fail
  refine(zsM ao bo n m ca cb f h _ hn hm (((HR.out.alloc _).alloc _).alloc _) (((HS.out.alloc _).alloc _).alloc _) HF.out HH.out).mono ?_;rintro e w1 ⟨xa,k,cx,g,er,rfl,hres,hc⟩;obtain⟨rfl,hv⟩:er=0/\vf g k=vf f n+vf h m:=by
   rcases hc with⟨_,_,h1,h2⟩|⟨h1,_⟩
   ·exact⟨h1,h2⟩
   ·exact absurd ⟨FF.out,FH.out⟩ h1
  clear hc;have hk:k<=max n m+1:=hres.le;obtain⟨hc1,hf1⟩:=zaH hres.bel;have hz:w.heap.size+1+1<w1.heap.size:=by have:=hres.bel.size;simp at this;omega
  have HRes:=zk hres;have HV:=zk hv
  clear hres hv;go_wp2_with fail
  refine(zdy _ xa k cx _ (by omega)).mono ?_;rintro e w2 ⟨r,o,rfl,hsg,rfl⟩;go_wp2;refine bodyPost_ret (v:=agg #[.bool r,slice xa k cx]) (by simp[results,results144,go_sem,hc1,hz]) rfl ⟨r,xa,k,cx,g,rfl,WRes.mk' hsg ((HRes.out.turned (zu (zu (zB w _) _) _) ?_).ans (by omega)),?_⟩
  ·exact(((Turned.refl _ _ _).set (by simp;omega) (by simp) _).set (by simp;omega) (by simp) _).alloc _
  ·rw[zev hsg];simp only[zae,zam,HV.out];try omega
theorem zix {s t} (h:(s==t)=false):s=!t:=by cases s <;> cases t <;> simp_all
theorem zld (s t:Bool) (hst:(s==t)=false) (ao bo:Option Addr) (n m ca cb:Nat) (f h:Nat->Int) (w:World) (hn:n<=8796093022208) (hm:m<=8796093022208) (hr:Rd .u64 w ao n f) (hs:Rd .u64 w bo m h) (hf:Lm f n) (hh:Lm h m) (ff:Fm f n) (fh:Fm h m) :
  Calls prog 144 #[agg #[.bool s,slice ao n ca],agg #[.bool t,slice bo m cb]] w λe w'=>∃r ao' k cap' f',e=returned (agg #[.bool r,slice ao' k cap'])/\WRes (max n m+1) w w' r ao' k cap' f'/\wv r f' k=wv s f n+wv t h m:=by
 have HR:=zk hr;have HS:=zk hs;have HF:=zk hf;have HH:=zk hh;have FF:=zk ff;have FH:=zk fh
 have HST:=zk (zix hst);clear hr hs hf hh ff fh;go_enter func144,ntmps144;go_wp2_with fail
 refine(zor ao bo n m ca cb f h _ hn hm (((HR.out.alloc _).alloc _).alloc _) (((HS.out.alloc _).alloc _).alloc _) HF.out HH.out).mono ?_;rintro e w1 ⟨⟨q,hq⟩,c,er,rfl,hc⟩;obtain⟨rfl,ho⟩:er=0/\Ord c (vf f n) (vf h m):=by
  rcases hc with⟨_,_,h1,h2⟩|⟨h1,_⟩
  ·exact⟨h1,h2⟩
  ·exact absurd ⟨FF.out,FH.out⟩ h1
 clear hc;have hb:=zaM hq;obtain⟨hc1,hf1⟩:=zaH hb;have hz:w.heap.size+1+1<w1.heap.size:=by have:=hb.size;simp at this;omega
 have x0:w1.cell? ⟨w.heap.size,0,none⟩=some (.bool s):=(hc1 _ _ (by simp;omega)).trans (by simp[go_sem]);have x1:w1.cell? ⟨w.heap.size,1,none⟩=some (slice ao n ca):=(hc1 _ _ (by simp;omega)).trans (by simp[go_sem]);have y0:w1.cell? ⟨w.heap.size+1,0,none⟩=some (.bool t):=(hc1 _ _ (by simp)).trans (by simp[go_sem]);have y1:w1.cell? ⟨w.heap.size+1,1,none⟩=some (slice bo m cb):=(hc1 _ _ (by simp)).trans (by simp[go_sem]);have z0:w1.cell? ⟨w.heap.size+1+1,0,none⟩=some (.bool false):=(hc1 _ _ (by simp)).trans (by simp[go_sem]);have z1:w1.cell? ⟨w.heap.size+1+1,1,none⟩=some (slice none 0 0):=(hc1 _ _ (by simp)).trans (by simp[go_sem]);have HO:=zk ho;have hbw:Bl w w1:=(zu (zu (zB w _) _) _).trans (hb.mono (by simp;omega));have HBw:=zk hbw;clear ho hq hb hc1 hbw;by_cases hc0:c<0
 ·have hlt:vf f n<vf h m:=by have:=HO.out;unfold Ord at this;omega
  have HLT:=zk hlt;clear hlt;go_wp2_with fail
  have hb2:=zL HBw.out HBw.out.size (((((Turned.refl w.heap.size (w.heap.size+1+1+1) w1).set (x:=⟨w.heap.size,0,none⟩) (by simp) (by simp;omega) (.bool t)).set (x:=⟨w.heap.size,1,none⟩) (by simp) (by simp;omega) (slice bo m cb)).set (x:=⟨w.heap.size+1,0,none⟩) (by simp) (by simp) (.bool s)).set (x:=⟨w.heap.size+1,1,none⟩) (by simp) (by simp) (slice ao n ca)) (le_refl _);refine(zqp bo ao m n cb ca h f _ hm hn (HS.out.q_ hb2 (le_refl _)) (HR.out.q_ hb2 (le_refl _)) HH.out HF.out).mono ?_;rintro e w2 ⟨xa,k,cx,g,er,rfl,hres,hc⟩;obtain⟨rfl,hv⟩:er=0/\vf g k=vf h m-vf f n:=by
   rcases hc with⟨_,_,_,h1,h2⟩|⟨_,_,h1,_⟩|⟨h1,_⟩
   ·exact⟨h1,h2⟩
   ·have:=HLT.out;omega
   ·exact absurd ⟨FH.out,FF.out⟩ h1
  clear hc;obtain⟨hc2,hf2⟩:=zaH hres.bel;have hz2:w.heap.size+1+1<w2.heap.size:=by have:=hres.bel.size;(try simp at this);omega
  have u0:w2.cell? ⟨w.heap.size,0,none⟩=some (.bool t):=(hc2 _ _ (by simp;omega)).trans (by simp[go_sem,x0]);have z0:w2.cell? ⟨w.heap.size+1+1,0,none⟩=some (.bool false):=(hc2 _ _ (by simp;omega)).trans (by simp[go_sem,z0]);have z1:w2.cell? ⟨w.heap.size+1+1,1,none⟩=some (slice none 0 0):=(hc2 _ _ (by simp;omega)).trans (by simp[go_sem,z1]);have hk:k<=m:=hres.le;have HRes:=zk hres;have HV:=zk hv;have HB2:=zk hb2
  clear hres hv hb2 hc2;go_wp2_with fail
  refine(zdy _ xa k cx _ (by omega)).mono ?_;rintro e w3 ⟨r,o,rfl,hsg,rfl⟩;go_wp2;refine bodyPost_ret (v:=agg #[.bool r,slice xa k cx]) (by simp[results,results144,go_sem,z0,z1,hz2]) rfl ⟨r,xa,k,cx,g,rfl,WRes.mk' hsg (((HRes.out.turned HB2.out ?_).mono (by omega)).ans (by omega)),?_⟩
  ·exact(((Turned.refl _ _ _).set (by first|omega|(simp;done)|(simp;omega)) (by first|omega|(simp;done)|(simp;omega)) _).set (by first|omega|(simp;done)|(simp;omega)) (by first|omega|(simp;done)|(simp;omega)) _).alloc _
  ·rw[zev hsg,HST.out];have:=HV.out;cases t <;> simp only[Bool.not_false,Bool.not_true,zae,zam] <;> omega
 ·have hlt:vf h m<=vf f n:=by have:=HO.out;unfold Ord at this;omega
  have HLT:=zk hlt;clear hlt;go_wp2_with fail
  have hb2:=HBw.out;refine(zqp ao bo n m ca cb f h _ hn hm (HR.out.q_ hb2 (le_refl _)) (HS.out.q_ hb2 (le_refl _)) HF.out HH.out).mono ?_;rintro e w2 ⟨xa,k,cx,g,er,rfl,hres,hc⟩;obtain⟨rfl,hv⟩:er=0/\vf g k=vf f n-vf h m:=by
   rcases hc with⟨_,_,_,h1,h2⟩|⟨_,_,h1,_⟩|⟨h1,_⟩
   ·exact⟨h1,h2⟩
   ·have:=HLT.out;omega
   ·exact absurd ⟨FF.out,FH.out⟩ h1
  clear hc;obtain⟨hc2,hf2⟩:=zaH hres.bel;have hz2:w.heap.size+1+1<w2.heap.size:=by have:=hres.bel.size;(try simp at this);omega
  have u0:w2.cell? ⟨w.heap.size,0,none⟩=some (.bool s):=(hc2 _ _ (by omega)).trans x0;have z0:w2.cell? ⟨w.heap.size+1+1,0,none⟩=some (.bool false):=(hc2 _ _ (by omega)).trans z0;have z1:w2.cell? ⟨w.heap.size+1+1,1,none⟩=some (slice none 0 0):=(hc2 _ _ (by omega)).trans z1;have hk:k<=n:=hres.le;have HRes:=zk hres;have HV:=zk hv;have HB2:=zk hb2
  clear hres hv hb2 hc2;go_wp2_with fail
  refine(zdy _ xa k cx _ (by omega)).mono ?_;rintro e w3 ⟨r,o,rfl,hsg,rfl⟩;go_wp2;refine bodyPost_ret (v:=agg #[.bool r,slice xa k cx]) (by simp[results,results144,go_sem,z0,z1,hz2]) rfl ⟨r,xa,k,cx,g,rfl,WRes.mk' hsg (((HRes.out.turned HB2.out ?_).mono (by omega)).ans (by omega)),?_⟩
  ·exact(((Turned.refl _ _ _).set (by first|omega|(simp;done)|(simp;omega)) (by first|omega|(simp;done)|(simp;omega)) _).set (by first|omega|(simp;done)|(simp;omega)) (by first|omega|(simp;done)|(simp;omega)) _).alloc _
  ·rw[zev hsg,HST.out];have:=HV.out;cases t <;> simp only[Bool.not_false,Bool.not_true,zae,zam] <;> omega
theorem zqy (s t:Bool) (ao bo:Option Addr) (n m ca cb:Nat) (f h:Nat->Int) (w:World) (hn:n<=8796093022208) (hm:m<=8796093022208) (hr:Rd .u64 w ao n f) (hs:Rd .u64 w bo m h) (hf:Lm f n) (hh:Lm h m) (ff:Fm f n) (fh:Fm h m) :
  Calls prog 144 #[agg #[.bool s,slice ao n ca],agg #[.bool t,slice bo m cb]] w λe w'=>∃r ao' k cap' f',e=returned (agg #[.bool r,slice ao' k cap'])/\WRes (max n m+1) w w' r ao' k cap' f'/\wv r f' k=wv s f n+wv t h m:=by
 cases hst:(s==t)
 ·exact zld s t hst ao bo n m ca cb f h w hn hm hr hs hf hh ff fh
 ·obtain rfl:s=t:=by simpa using hst
  exact zlc s ao bo n m ca cb f h w hn hm hr hs hf hh ff fh
def WAns (P:Prop) (v:Int) (r:Bool) (k:Nat) (f:Nat->Int) (er:Int):Prop:=P/\er=0/\wv r f k=v∨¬P/\er=3/\k=0
def W2 (s:Bool) (f:Nat->Int) (n:Nat) (t:Bool) (h:Nat->Int) (m:Nat):Prop:=wfB s f n=true/\wfB t h m=true
theorem fm_of_wfB {s f n} (h:wfB s f n=true):Fm f n:=((wfB_iff s f n).1 h).1
theorem zbo {s f n} (h:wfB s f n=true):s=true->0<n:=((wfB_iff s f n).1 h).2
theorem zed {w w1 a0 a1 b0 b1 c0 c1 t} (hb:Below (((w.alloc (.cells #[a0,a1] t)).alloc (.cells #[b0,b1] t)).alloc (.cells #[c0,c1] t)).heap.size (((w.alloc (.cells #[a0,a1] t)).alloc (.cells #[b0,b1] t)).alloc (.cells #[c0,c1] t)) w1) :
  (w.heap.size+1+1<w1.heap.size/\w1.cell? ⟨w.heap.size,0,none⟩=some a0/\w1.cell? ⟨w.heap.size,1,none⟩=some a1/\w1.cell? ⟨w.heap.size+1,0,none⟩=some b0/\w1.cell? ⟨w.heap.size+1,1,none⟩=some b1/\w1.cell? ⟨w.heap.size+1+1,0,none⟩=some c0/\w1.cell? ⟨w.heap.size+1+1,1,none⟩=some c1)/\(∀o,w1.frozen? ⟨w.heap.size+1+1,o,none⟩=false)/\Bl w w1:=by
 obtain⟨h1,h2⟩:=zaH hb;have hz:=hb.size;simp at hz;refine⟨⟨by omega,(h1 _ _ (by simp;omega)).trans (by simp[go_sem]),(h1 _ _ (by simp;omega)).trans (by simp[go_sem]),(h1 _ _ (by simp)).trans (by simp[go_sem]),(h1 _ _ (by simp)).trans (by simp[go_sem]),(h1 _ _ (by simp)).trans (by simp[go_sem]),(h1 _ _ (by simp)).trans (by simp[go_sem])⟩,λo=>(h2 _ _ (by simp)).trans (by
  have e:=heap_alloc_new ((w.alloc (.cells #[a0,a1] t)).alloc (.cells #[b0,b1] t)) (.cells #[c0,c1] t);rw[zw,zw]at e
  simp only[World.frozen?,e];simp),?_⟩
 exact(zu (zu (zB w _) _) _).trans (hb.mono (by simp;omega))
theorem zfZ {w w1 w2 a0 a1 b0 b1 c0 c1} (hb:Bl w1 w2) (h:w.heap.size+1+1<w1.heap.size/\w1.cell? ⟨w.heap.size,0,none⟩=some a0/\w1.cell? ⟨w.heap.size,1,none⟩=some a1/\w1.cell? ⟨w.heap.size+1,0,none⟩=some b0/\w1.cell? ⟨w.heap.size+1,1,none⟩=some b1/\w1.cell? ⟨w.heap.size+1+1,0,none⟩=some c0/\w1.cell? ⟨w.heap.size+1+1,1,none⟩=some c1) (hf:∀o,w1.frozen? ⟨w.heap.size+1+1,o,none⟩=false) (hw:Bl w w1) :
  (w.heap.size+1+1<w2.heap.size/\w2.cell? ⟨w.heap.size,0,none⟩=some a0/\w2.cell? ⟨w.heap.size,1,none⟩=some a1/\w2.cell? ⟨w.heap.size+1,0,none⟩=some b0/\w2.cell? ⟨w.heap.size+1,1,none⟩=some b1/\w2.cell? ⟨w.heap.size+1+1,0,none⟩=some c0/\w2.cell? ⟨w.heap.size+1+1,1,none⟩=some c1)/\(∀o,w2.frozen? ⟨w.heap.size+1+1,o,none⟩=false)/\Bl w w2:=by
 obtain⟨h1,h2⟩:=zaH hb;have hz:=hb.size;obtain⟨z,a,b,c,d,e,f⟩:=h;exact⟨⟨by omega,(h1 _ _ (by omega)).trans a,(h1 _ _ (by omega)).trans b,(h1 _ _ (by omega)).trans c,(h1 _ _ (by omega)).trans d,(h1 _ _ (by omega)).trans e,(h1 _ _ (by omega)).trans f⟩,λo=>(h2 _ _ (by omega)).trans (hf o),bUp hw hb⟩
theorem zqw (s t:Bool) (f h g:Nat->Int) (n m k:Nat) (hv:vf g k=vf f n*vf h m):wv (!(s==t)) g k=wv s f n*wv t h m:=by
 cases s <;> cases t <;> simp[wv,hv,Int.neg_mul,Int.mul_neg]
theorem zmb (s t:Bool) (ao bo:Option Addr) (n m ca cb:Nat) (f h:Nat->Int) (w:World) (hn:n<=8796093022208) (hm:m<=8796093022208) (hr:Rd .u64 w ao n f) (hs:Rd .u64 w bo m h) (hf:Lm f n) (hh:Lm h m) :
  Calls prog 125 #[agg #[.bool s,slice ao n ca],agg #[.bool t,slice bo m cb]] w λe w'=>∃r ao' k cap' f' er,e=returned (.tuple #[agg #[.bool r,slice ao' k cap'],.int .i64 er])/\WRes (max n m+1) w w' r ao' k cap' f'/\WAns (W2 s f n t h m) (wv s f n+wv t h m) r k f' er:=by
 have HR:=zk hr;have HS:=zk hs;have HF:=zk hf;have HH:=zk hh
 clear hr hs hf hh;cases hfa:wfB s f n
 ·have c1:=λW hr'=>zaN s ao n ca f W (by omega) hr'
  rw[hfa]at c1
  have C1:=zk c1;have HN:=zk hfa
  clear c1 hfa;go_enter func125,ntmps125;go_wp2_with fail
  refine(C1.out _ (((HR.out.alloc _).alloc _).alloc _)).mono ?_;rintro e w1 ⟨rfl,hb⟩;obtain⟨⟨hz,x0,x1,y0,y1,z0,z1⟩,zf,hw⟩:=zed hb;have HB:=zk hb;have HW:=zk hw
  clear hb hw;go_wp2;refine bodyPost_ret (v:=.tuple #[agg #[.bool false,slice none 0 0],.int .i64 3]) (by simp[results,results125,go_sem,z0,z1]) rfl ⟨false,none,0,0,f,3,rfl,⟨Asw.none f ?_,λh=>by cases h⟩,.inr ⟨λx=>?_,rfl,rfl⟩⟩
  ·exact zL HW.out HW.out.size (((Turned.refl _ (w.heap.size+1+1+1) _).set (by first|omega|(simp;done)|(simp;omega)) (by first|omega|(simp;done)|(simp;omega)) _).set (by first|omega|(simp;done)|(simp;omega)) (by first|omega|(simp;done)|(simp;omega)) _) (le_refl _)
  ·have:=x.1;rw[HN.out]at this;cases this
 ·have c1:=λW hr'=>zaN s ao n ca f W (by omega) hr'
  rw[hfa]at c1
  have C1:=zk c1;have HA:=zk hfa
  clear c1 hfa;cases hfb:wfB t h m
  ·have c2:=λW hr'=>zaN t bo m cb h W (by omega) hr'
   rw[hfb]at c2
   have C2:=zk c2;have HN:=zk hfb
   clear c2 hfb;go_enter func125,ntmps125;go_wp2_with fail
   refine(C1.out _ (((HR.out.alloc _).alloc _).alloc _)).mono ?_;rintro e w1 ⟨rfl,hb⟩;obtain⟨⟨hz,x0,x1,y0,y1,z0,z1⟩,zf,hw⟩:=zed hb;have HW:=zk hw;clear hb hw;go_wp2_with fail
   refine(C2.out _ (HS.out.q_ HW.out (le_refl _))).mono ?_;rintro e w2 ⟨rfl,hb⟩;obtain⟨⟨hz,x0,x1,y0,y1,z0,z1⟩,zf,hw⟩:=zfZ hb ⟨hz,x0,x1,y0,y1,z0,z1⟩ zf HW.out;have HW2:=zk hw;clear hb hw;go_wp2;refine bodyPost_ret (v:=.tuple #[agg #[.bool false,slice none 0 0],.int .i64 3]) (by simp[results,results125,go_sem,z0,z1]) rfl ⟨false,none,0,0,f,3,rfl,⟨Asw.none f ?_,λh=>by cases h⟩,.inr ⟨λx=>?_,rfl,rfl⟩⟩
   ·exact zL HW2.out HW2.out.size (((Turned.refl _ (w.heap.size+1+1+1) _).set (by first|omega|(simp;done)|(simp;omega)) (by first|omega|(simp;done)|(simp;omega)) _).set (by first|omega|(simp;done)|(simp;omega)) (by first|omega|(simp;done)|(simp;omega)) _) (le_refl _)
   ·have:=x.2;rw[HN.out]at this;cases this
  ·have c2:=λW hr'=>zaN t bo m cb h W (by omega) hr'
   rw[hfb]at c2
   have C2:=zk c2;have HB:=zk hfb
   clear c2 hfb;go_enter func125,ntmps125;go_wp2_with fail
   refine(C1.out _ (((HR.out.alloc _).alloc _).alloc _)).mono ?_;rintro e w1 ⟨rfl,hb⟩;obtain⟨⟨hz,x0,x1,y0,y1,z0,z1⟩,zf,hw⟩:=zed hb;have HW:=zk hw;clear hb hw;go_wp2_with fail
   refine(C2.out _ (HS.out.q_ HW.out (le_refl _))).mono ?_;rintro e w2 ⟨rfl,hb⟩;obtain⟨⟨hz,x0,x1,y0,y1,z0,z1⟩,zf,hw⟩:=zfZ hb ⟨hz,x0,x1,y0,y1,z0,z1⟩ zf HW.out;have HW2:=zk hw;clear hb hw;go_wp2_with fail
   refine(zqy s t ao bo n m ca cb f h _ hn hm (HR.out.q_ HW2.out (le_refl _)) (HS.out.q_ HW2.out (le_refl _)) HF.out HH.out (fm_of_wfB HA.out) (fm_of_wfB HB.out)).mono ?_;rintro e w3 ⟨r,xa,k,cx,g,rfl,hres,hv⟩;obtain⟨⟨hz,x0,x1,y0,y1,z0,z1⟩,zf,hw⟩:=zfZ hres.res.bel ⟨hz,x0,x1,y0,y1,z0,z1⟩ zf HW2.out;have HRes:=zk hres;have HV:=zk hv
   clear hres hv hw;go_wp2;refine bodyPost_ret (v:=.tuple #[agg #[.bool r,slice xa k cx],.int .i64 0]) (by simp[results,results125,go_sem,z0,z1]) rfl ⟨r,xa,k,cx,g,0,rfl,?_,.inl ⟨⟨HA.out,HB.out⟩,rfl,?_⟩⟩
   ·exact⟨HRes.out.res.turned HW2.out (((Turned.refl _ _ _).set (by first|omega|(simp;done)|(simp;omega)) (by first|omega|(simp;done)|(simp;omega)) _).set (by first|omega|(simp;done)|(simp;omega)) (by first|omega|(simp;done)|(simp;omega)) _),HRes.out.sgn⟩
   ·exact HV.out
theorem ziK (s t:Bool) (ao bo:Option Addr) (n m ca cb:Nat) (f h:Nat->Int) (w:World) (hn:n<=1099511627776) (hm:m<=1099511627776) (hca:n<=ca) (hcb:m<=cb) (hcam:ca<=9223372036854775807) (hcbm:cb<=9223372036854775807) (hr:Rd .u64 w ao n f) (hs:Rd .u64 w bo m h) (hf:Lm f n) (hh:Lm h m) :
  Calls prog 124 #[agg #[.bool s,slice ao n ca],agg #[.bool t,slice bo m cb]] w λe w'=>∃r ao' k cap' f' er,e=returned (.tuple #[agg #[.bool r,slice ao' k cap'],.int .i64 er])/\WRes (n+m) w w' r ao' k cap' f'/\WAns (W2 s f n t h m) (wv s f n*wv t h m) r k f' er:=by
 have HR:=zk hr;have HS:=zk hs;have HF:=zk hf;have HH:=zk hh
 clear hr hs hf hh;cases hfa:wfB s f n
 ·have c1:=λW hr'=>zaN s ao n ca f W (by omega) hr'
  rw[hfa]at c1
  have C1:=zk c1;have HN:=zk hfa
  clear c1 hfa;go_enter func124,ntmps124;go_wp2_with fail
  refine(C1.out _ (((HR.out.alloc _).alloc _).alloc _)).mono ?_;rintro e w1 ⟨rfl,hb⟩;obtain⟨⟨hz,x0,x1,y0,y1,z0,z1⟩,zf,hw⟩:=zed hb;have HB:=zk hb;have HW:=zk hw
  clear hb hw;go_wp2;refine bodyPost_ret (v:=.tuple #[agg #[.bool false,slice none 0 0],.int .i64 3]) (by simp[results,results124,go_sem,z0,z1]) rfl ⟨false,none,0,0,f,3,rfl,⟨Asw.none f ?_,λh=>by cases h⟩,.inr ⟨λx=>?_,rfl,rfl⟩⟩
  ·exact zL HW.out HW.out.size (((Turned.refl _ (w.heap.size+1+1+1) _).set (by first|omega|(simp;done)|(simp;omega)) (by first|omega|(simp;done)|(simp;omega)) _).set (by first|omega|(simp;done)|(simp;omega)) (by first|omega|(simp;done)|(simp;omega)) _) (le_refl _)
  ·have:=x.1;rw[HN.out]at this;cases this
 ·have c1:=λW hr'=>zaN s ao n ca f W (by omega) hr'
  rw[hfa]at c1
  have C1:=zk c1;have HA:=zk hfa
  clear c1 hfa;cases hfb:wfB t h m
  ·have c2:=λW hr'=>zaN t bo m cb h W (by omega) hr'
   rw[hfb]at c2
   have C2:=zk c2;have HN:=zk hfb
   clear c2 hfb;go_enter func124,ntmps124;go_wp2_with fail
   refine(C1.out _ (((HR.out.alloc _).alloc _).alloc _)).mono ?_;rintro e w1 ⟨rfl,hb⟩;obtain⟨⟨hz,x0,x1,y0,y1,z0,z1⟩,zf,hw⟩:=zed hb;have HW:=zk hw;clear hb hw;go_wp2_with fail
   refine(C2.out _ (HS.out.q_ HW.out (le_refl _))).mono ?_;rintro e w2 ⟨rfl,hb⟩;obtain⟨⟨hz,x0,x1,y0,y1,z0,z1⟩,zf,hw⟩:=zfZ hb ⟨hz,x0,x1,y0,y1,z0,z1⟩ zf HW.out;have HW2:=zk hw;clear hb hw;go_wp2;refine bodyPost_ret (v:=.tuple #[agg #[.bool false,slice none 0 0],.int .i64 3]) (by simp[results,results124,go_sem,z0,z1]) rfl ⟨false,none,0,0,f,3,rfl,⟨Asw.none f ?_,λh=>by cases h⟩,.inr ⟨λx=>?_,rfl,rfl⟩⟩
   ·exact zL HW2.out HW2.out.size (((Turned.refl _ (w.heap.size+1+1+1) _).set (by first|omega|(simp;done)|(simp;omega)) (by first|omega|(simp;done)|(simp;omega)) _).set (by first|omega|(simp;done)|(simp;omega)) (by first|omega|(simp;done)|(simp;omega)) _) (le_refl _)
   ·have:=x.2;rw[HN.out]at this;cases this
  ·have c2:=λW hr'=>zaN t bo m cb h W (by omega) hr'
   rw[hfb]at c2
   have C2:=zk c2;have HB:=zk hfb
   clear c2 hfb;go_enter func124,ntmps124;go_wp2_with fail
   refine(C1.out _ (((HR.out.alloc _).alloc _).alloc _)).mono ?_;rintro e w1 ⟨rfl,hb⟩;obtain⟨⟨hz,x0,x1,y0,y1,z0,z1⟩,zf,hw⟩:=zed hb;have HW:=zk hw;clear hb hw;go_wp2_with fail
   refine(C2.out _ (HS.out.q_ HW.out (le_refl _))).mono ?_;rintro e w2 ⟨rfl,hb⟩;obtain⟨⟨hz,x0,x1,y0,y1,z0,z1⟩,zf,hw⟩:=zfZ hb ⟨hz,x0,x1,y0,y1,z0,z1⟩ zf HW.out;have HW2:=zk hw;clear hb hw;go_wp2_with fail
   refine(zon ao bo n m ca cb f h _ hn hm hca hcb hcam hcbm (HR.out.q_ HW2.out (le_refl _)) (HS.out.q_ HW2.out (le_refl _)) HF.out HH.out).mono ?_;rintro e w3 ⟨xa,k,cx,g,er,rfl,hres,hc⟩;obtain⟨rfl,hv⟩:er=0/\vf g k=vf f n*vf h m:=by
    rcases hc with⟨_,_,h1,h2⟩|⟨h1,_⟩
    ·exact⟨h1,h2⟩
    ·exact absurd ⟨fm_of_wfB HA.out,fm_of_wfB HB.out⟩ h1
   clear hc;obtain⟨⟨hz,x0,x1,y0,y1,z0,z1⟩,zf,hw⟩:=zfZ hres.bel ⟨hz,x0,x1,y0,y1,z0,z1⟩ zf HW2.out;have hk:k<=n+m:=hres.le;have HRes:=zk hres;have HV:=zk hv
   clear hres hv hw;go_wp2_with fail
   refine(zdy _ xa k cx _ (by omega)).mono ?_;rintro e w4 ⟨r,o,rfl,hsg,rfl⟩;go_wp2;refine bodyPost_ret (v:=.tuple #[agg #[.bool r,slice xa k cx],.int .i64 0]) (by simp[results,results124,go_sem,z0,z1,hz]) rfl ⟨r,xa,k,cx,g,0,rfl,?_,.inl ⟨⟨HA.out,HB.out⟩,rfl,?_⟩⟩
   ·exact WRes.mk' hsg ((HRes.out.turned HW2.out ((((Turned.refl _ _ _).set (by first|omega|(simp;done)|(simp;omega)) (by first|omega|(simp;done)|(simp;omega)) _).set (by first|omega|(simp;done)|(simp;omega)) (by first|omega|(simp;done)|(simp;omega)) _).alloc _)).ans (by omega))
   ·rw[zev hsg];exact zqw s t f h g n m k HV.out
def W1 (s:Bool) (f:Nat->Int) (n:Nat):Prop:=wfB s f n=true
theorem zjy {w w1 a0 a1 c0 c1 t} (hb:Below ((w.alloc (.cells #[a0,a1] t)).alloc (.cells #[c0,c1] t)).heap.size ((w.alloc (.cells #[a0,a1] t)).alloc (.cells #[c0,c1] t)) w1) :
  (w.heap.size+1<w1.heap.size/\w1.cell? ⟨w.heap.size,0,none⟩=some a0/\w1.cell? ⟨w.heap.size,1,none⟩=some a1/\w1.cell? ⟨w.heap.size+1,0,none⟩=some c0/\w1.cell? ⟨w.heap.size+1,1,none⟩=some c1)/\(∀o,w1.frozen? ⟨w.heap.size+1,o,none⟩=false)/\Bl w w1:=by
 obtain⟨h1,h2⟩:=zaH hb;have hz:=hb.size;simp at hz;refine⟨⟨by omega,(h1 _ _ (by simp;omega)).trans (by simp[go_sem]),(h1 _ _ (by simp;omega)).trans (by simp[go_sem]),(h1 _ _ (by simp)).trans (by simp[go_sem]),(h1 _ _ (by simp)).trans (by simp[go_sem])⟩,λo=>(h2 _ _ (by simp)).trans (by
  have e:=heap_alloc_new (w.alloc (.cells #[a0,a1] t)) (.cells #[c0,c1] t);rw[zw]at e
  simp only[World.frozen?,e];simp),?_⟩
 exact(zu (zB w _) _).trans (hb.mono (by simp;omega))
theorem zqh {w w1 w2 a0 a1 c0 c1} (hb:Bl w1 w2) (h:w.heap.size+1<w1.heap.size/\w1.cell? ⟨w.heap.size,0,none⟩=some a0/\w1.cell? ⟨w.heap.size,1,none⟩=some a1/\w1.cell? ⟨w.heap.size+1,0,none⟩=some c0/\w1.cell? ⟨w.heap.size+1,1,none⟩=some c1) (hf:∀o,w1.frozen? ⟨w.heap.size+1,o,none⟩=false) (hw:Bl w w1) :
  (w.heap.size+1<w2.heap.size/\w2.cell? ⟨w.heap.size,0,none⟩=some a0/\w2.cell? ⟨w.heap.size,1,none⟩=some a1/\w2.cell? ⟨w.heap.size+1,0,none⟩=some c0/\w2.cell? ⟨w.heap.size+1,1,none⟩=some c1)/\(∀o,w2.frozen? ⟨w.heap.size+1,o,none⟩=false)/\Bl w w2:=by
 obtain⟨h1,h2⟩:=zaH hb;have hz:=hb.size;obtain⟨z,a,b,e,f⟩:=h;exact⟨⟨by omega,(h1 _ _ (by omega)).trans a,(h1 _ _ (by omega)).trans b,(h1 _ _ (by omega)).trans e,(h1 _ _ (by omega)).trans f⟩,λo=>(h2 _ _ (by omega)).trans (hf o),bUp hw hb⟩
theorem zdi {f n} (h:Lm f n) (hf:Fm f n) (hn:0<n):0<vf f n:=by
 have h1:=zaI h hf hn;have h2:=zab (n-1);omega
def ztk (P:Prop) (a b:Int) (c er:Int):Prop:=P/\er=0/\Ord c a b∨¬P/\er=3/\c=0
theorem zqz (s t:Bool) (ao bo:Option Addr) (n m ca cb:Nat) (f h:Nat->Int) (w:World) (hn:n<=8796093022208) (hm:m<=8796093022208) (hr:Rd .u64 w ao n f) (hs:Rd .u64 w bo m h) (hf:Lm f n) (hh:Lm h m) :
  Calls prog 161 #[agg #[.bool s,slice ao n ca],agg #[.bool t,slice bo m cb]] w λe w'=>∃c er,e=returned (.tuple #[.int .i64 c,.int .i64 er])/\Bl w w'/\ztk (W2 s f n t h m) (wv s f n) (wv t h m) c er:=by
 have HR:=zk hr;have HS:=zk hs;have HF:=zk hf;have HH:=zk hh
 clear hr hs hf hh;cases hfa:wfB s f n
 ·have c1:=λW hr'=>zaN s ao n ca f W (by omega) hr'
  rw[hfa]at c1
  have C1:=zk c1;have HN:=zk hfa
  clear c1 hfa;go_enter func161,ntmps161;go_wp2_with fail
  refine(C1.out _ ((HR.out.alloc _).alloc _)).mono ?_;rintro e w1 ⟨rfl,hb⟩;obtain⟨⟨hz,x0,x1,z0,z1⟩,zf,hw⟩:=zjy hb;have HW:=zk hw;clear hb hw;go_wp2
  go_ret2
  exact⟨0,3,rfl,HW.out,.inr ⟨(λx=>by have:=HN.out.symm.trans x.1;cases this),rfl,rfl⟩⟩
 ·have c1:=λW hr'=>zaN s ao n ca f W (by omega) hr'
  rw[hfa]at c1
  have C1:=zk c1;have HA:=zk hfa
  clear c1 hfa;cases hfb:wfB t h m
  ·have c2:=λW hr'=>zaN t bo m cb h W (by omega) hr'
   rw[hfb]at c2
   have C2:=zk c2;have HN:=zk hfb
   clear c2 hfb;go_enter func161,ntmps161;go_wp2_with fail
   refine(C1.out _ ((HR.out.alloc _).alloc _)).mono ?_;rintro e w1 ⟨rfl,hb⟩;obtain⟨⟨hz,x0,x1,z0,z1⟩,zf,hw⟩:=zjy hb;have HW:=zk hw;clear hb hw;go_wp2_with fail
   refine(C2.out _ (HS.out.q_ HW.out (le_refl _))).mono ?_;rintro e w2 ⟨rfl,hb⟩;obtain⟨⟨hz,x0,x1,z0,z1⟩,zf,hw⟩:=zqh hb ⟨hz,x0,x1,z0,z1⟩ zf HW.out;have HW2:=zk hw;clear hb hw;go_wp2
   go_ret2
   exact⟨0,3,rfl,HW2.out,.inr ⟨(λx=>by have:=HN.out.symm.trans x.2;cases this),rfl,rfl⟩⟩
  ·have c2:=λW hr'=>zaN t bo m cb h W (by omega) hr'
   rw[hfb]at c2
   have C2:=zk c2;have HB:=zk hfb
   clear c2 hfb;cases s <;> cases t
   all_goals
    go_enter func161,ntmps161;go_wp2_with fail
    refine(C1.out _ ((HR.out.alloc _).alloc _)).mono ?_;rintro e w1 ⟨rfl,hb⟩;obtain⟨⟨hz,x0,x1,z0,z1⟩,zf,hw⟩:=zjy hb;have HW:=zk hw;clear hb hw;go_wp2_with fail
    refine(C2.out _ (HS.out.q_ HW.out (le_refl _))).mono ?_;rintro e w2 ⟨rfl,hb⟩;obtain⟨⟨hz,x0,x1,z0,z1⟩,zf,hw⟩:=zqh hb ⟨hz,x0,x1,z0,z1⟩ zf HW.out;have HW2:=zk hw;clear hb hw;go_wp2_with fail
   ·refine(zor ao bo n m ca cb f h _ hn hm (HR.out.q_ HW2.out (le_refl _)) (HS.out.q_ HW2.out (le_refl _)) HF.out HH.out).mono ?_;rintro e w3 ⟨⟨q,hq⟩,c,er,rfl,hc⟩;have HB3:=zk (zaM hq);have HC:=zk hc
    clear hq hc;go_wp2
    go_ret2
    refine⟨c,er,rfl,bUp HW2.out HB3.out,?_⟩;rcases HC.out with⟨_,_,h1,h2⟩|⟨h1,_⟩
    ·exact .inl ⟨⟨HA.out,HB.out⟩,h1,h2⟩
    ·exact absurd ⟨fm_of_wfB HA.out,fm_of_wfB HB.out⟩ h1
   ·go_ret2
    refine⟨1,0,rfl,HW2.out,.inl ⟨⟨HA.out,HB.out⟩,rfl,.inr (.inr ⟨rfl,?_⟩)⟩⟩;have h1:=zdi HH.out (fm_of_wfB HB.out) (zbo HB.out rfl);have h2:=zz HF.out;rw[zam,zae];omega
   ·go_ret2
    refine⟨-1,0,rfl,HW2.out,.inl ⟨⟨HA.out,HB.out⟩,rfl,.inl ⟨rfl,?_⟩⟩⟩;have h1:=zdi HF.out (fm_of_wfB HA.out) (zbo HA.out rfl);have h2:=zz HH.out;rw[zam,zae];omega
   ·refine(zor bo ao m n cb ca h f _ hm hn (HS.out.q_ HW2.out (le_refl _)) (HR.out.q_ HW2.out (le_refl _)) HH.out HF.out).mono ?_;rintro e w3 ⟨⟨q,hq⟩,c,er,rfl,hc⟩;have HB3:=zk (zaM hq);have HC:=zk hc
    clear hq hc;go_wp2
    go_ret2
    refine⟨c,er,rfl,bUp HW2.out HB3.out,?_⟩;rcases HC.out with⟨_,_,h1,h2⟩|⟨h1,_⟩
    ·refine .inl ⟨⟨HA.out,HB.out⟩,h1,?_⟩;unfold Ord at h2 ⊢;rw[zam,zam];omega
    ·exact absurd ⟨fm_of_wfB HB.out,fm_of_wfB HA.out⟩ h1
def ztj (C:Nat) (w w':World) (e:Ending) (z:Int):Prop:=∃r ao k cap f,e=returned (agg #[.bool r,slice ao k cap])/\WRes C w w' r ao k cap f/\wv r f k=z
theorem zlZ (x:Int):IntKind.u64.wrap x=x%18446744073709551616:=by simp[IntKind.wrap,IntKind.signed,IntKind.bits]
theorem zgQ (w:World) (base g:Nat) (z:Int) (hb:base<=w.heap.size) (hg:g=w.heap.size):Own .u64 49 (w.alloc (.cells #[.int .u64 z] 49)) base (slice (some ⟨g,0,none⟩) 1 1) 1 (λ_=>z):=by
 subst hg;refine zdm (N:=1) ⟨_,heap_alloc_new w _,rfl,λj hj=>?_⟩ hb (le_refl _) (by simp[maxLen]);obtain rfl:j=0:=by omega
 rfl
theorem zpZ (z:Int) (w:World) (h0:-9223372036854775808<=z) (h1:z<=9223372036854775807) :
  Calls prog 96 #[.int .i64 z] w λe w'=>ztj 1 w w' e z:=by
 by_cases hz:z=0
 ·subst hz;go_enter func96,ntmps96;go_wp2;exact bodyPost_ret (v:=agg #[.bool false,slice none 0 0]) (by simp[results,results96,go_sem]) rfl ⟨false,none,0,0,λ_=>0,rfl,⟨Asw.none _ (zu (Below.refl _ _) _),λh=>by cases h⟩,rfl⟩
 ·have hz0:(z==0)=false:=by simp;omega
  by_cases hneg:z<0
  ·have hW:Hid (IntKind.u64.wrap (-IntKind.u64.wrap z)=-z):=by
    show IntKind.u64.wrap (-IntKind.u64.wrap z)=-z;simp only[zlZ];omega
   go_enter func96,ntmps96;go_wp2;rw[hW.out];refine bodyPost_ret (v:=agg #[.bool true,slice (some ⟨w.heap.size+1,0,none⟩) 1 1]) (by simp[results,results96,go_sem]) rfl ⟨true,_,1,1,λ_=>-z,rfl,⟨⟨zu (zu (Below.refl _ _) _) _,zgQ (w.alloc _) w.heap.size _ (-z) (by simp) (by simp),zhU (x:=-z) (by omega) (by omega) 1,.inr (show -z≠0 by omega),le_refl _⟩,λ_=>by omega⟩,?_⟩;rw[zam,zmd];omega
  ·have hW:Hid (IntKind.u64.wrap z=z):=by
    show IntKind.u64.wrap z=z;simp only[zlZ];omega
   go_enter func96,ntmps96;go_wp2
   (try rw[hW.out])
   refine bodyPost_ret (v:=agg #[.bool false,slice (some ⟨w.heap.size+1,0,none⟩) 1 1]) (by simp[results,results96,go_sem]) rfl ⟨false,_,1,1,λ_=>z,rfl,⟨⟨zu (zu (Below.refl _ _) _) _,zgQ (w.alloc _) w.heap.size _ z (by simp) (by simp),zhU (x:=z) (by omega) (by omega) 1,.inr (show z≠0 by omega),le_refl _⟩,λ_=>by omega⟩,?_⟩;rw[zae,zmd]
theorem zft (w:World) (p q:Addr) (v:Value) (h:(w.cell? q).isSome=true):((w.setCell p v).cell? q).isSome=true:=by
 obtain⟨u,hu⟩:=Option.isSome_iff_exists.1 h;obtain⟨u',hu'⟩:=cell?_setCell_some (p:=p) (x:=v) hu;rw[hu'];rfl
theorem kCa {w:World} {a v o} (h:w.cell? a=some v):(w.alloc o).cell? a=some v:=(World.cell?_alloc_lt _ _ _ (block_lt_of_cell? w a h)).trans h
theorem kCs {w:World} {p a u v} (hb:p.block≠a.block) (h:w.cell? a=some u):(w.setCell p v).cell? a=some u:=(World.cell?_setCell_far w p a v hb).trans h
theorem kCd {w:World} {a v} (h:w.cell? a=some v):w.drew.cell? a=some v:=h
theorem kIa {w:World} {a o} (h:(w.cell? a).isSome=true):((w.alloc o).cell? a).isSome=true:=by rw[World.cell?_alloc_some w a o h];exact h
theorem kIs {w:World} {p a v} (h:(w.cell? a).isSome=true):((w.setCell p v).cell? a).isSome=true:=zft w p a v h
theorem kId {w:World} {a} (h:(w.cell? a).isSome=true):(w.drew.cell? a).isSome=true:=h
theorem kFs {w:World} {p a v} (h:w.frozen? a=false):(w.setCell p v).frozen? a=false:=by rw[World.frozen?_setCell];exact h
theorem kFd {w:World} {a} (h:w.frozen? a=false):w.drew.frozen? a=false:=h
theorem zqJ (ao:Option Addr) (n cap:Nat) (f:Nat->Int) (w:World) (hn:n<=17592186044416) (hr:Rd .u64 w ao n f) (hnil:ao=none->n=0/\cap=0) :
  Calls prog 51 #[slice ao n cap] w λe w'=>∃ao' cap',e=returned (slice ao' n cap')/\Bl w w'/\Rd .u64 w' ao' n f/\Own .u64 49 w' w.heap.size (slice ao' n cap') n f:=by
 cases ao with
 | none =>
  obtain⟨rfl,rfl⟩:=hnil rfl;go_enter func51,ntmps51;obtain⟨i0,hi,hz0,hz1,hz2⟩:=info_parts zT;go_wp2_with(at_builtin;refine wpList_append_own_none rfl (.tmp 4) (.tmp 5) 22 rfl w.heap.size 49 i0 1 underlying22 hi (slice none 0 0) 0 [] rfl (World.ownsRow_nil _ _ _ _) rfl ?_)
  go_ret;exact⟨none,0,rfl,Below.refl _ _,Rd.zero,zdG _ _ _ _ _⟩
 | some ad =>
  clear hnil;have HR:=zk hr;clear hr;go_enter func51,ntmps51;obtain⟨i0,hi,hz0,hz1,hz2⟩:=info_parts zT;go_wp2_with(at_builtin;refine wpList_append_own w rfl (.tmp 4) (.tmp 5) 22 rfl w.heap.size 49 i0 (.int .u64 0) 1 8 underlying22 hi hz0 hz1 hz2 rfl (by decide) (slice none 0 0) 0 [] rfl (World.ownsRow_nil _ _ _ _) ad n cap (lst .u64 f n) rfl (by rw[zS,Nat.mul_one]) ?c1 (zeN _ _ _) ?c2 ?c3 (le_refl _) ?_)
  case c1 =>
   intro j u hu;obtain⟨hj,rfl⟩:=zcC hu;obtain⟨b,o,e,hc⟩:=HR.out j hj;cases e
   rw[addr_add];exact hc
  case c2=>unfold maxLen;omega
  case c3=>omega
  intro v' w' hown hgr _;have hown':Own .u64 49 w' w.heap.size v' n f:=hown;have hbel:Bl w w':=(Below.refl _ _).grown hgr (le_refl _) (λk h=>by simp[Value.ownBlock]at h);have hs:=hown'.shape;obtain⟨ao',cap',hv,hcc,hnn,hml,hrd,hlt⟩:=hs;rw[hv]at hown' ⊢
  clear hown hgr hv;have HO:=zk hown';clear hown';go_wp2;go_ret;exact⟨ao',cap',rfl,hbel,hrd,HO.out⟩
def zaK (x:Int):Nat->Int:=λj=>if j=0 then x%4294967296 else x/4294967296
def dig (f:Nat->Int):Nat->Int:=λj=>if j%2=0 then f (j/2)%4294967296 else f (j/2)/4294967296
theorem zpO (f:Nat->Int) (k:Nat):∀j,j<2*k+2->cat (dig f) (2*k) (zaK (f k)) j=dig f j:=by
 intro j hj;by_cases h:j<2*k
 ·exact zec h
 ·rw[zda (by omega)];by_cases h2:j=2*k
  ·subst h2;have e1:2*k-2*k=0:=by omega
   have e2:2*k/2=k:=by omega
   have e3:2*k%2=0:=by omega
   simp[zaK,dig]
  ·obtain rfl:j=2*k+1:=by omega
   have e1:2*k+1-2*k=1:=by omega
   have e2:(2*k+1)/2=k:=by omega
   have e3:(2*k+1)%2=1:=by omega
   simp[zaK,dig,e1,e2,e3]
theorem zdT (k:Nat):pd (2*k)=pw k:=by
 induction k with
 | zero=>rfl
 | succ k ih =>
  have e:2*(k+1)=2*k+1+1:=by omega
  rw[e,zau,zau,zao,ih];omega
theorem zrD {f n} (h:Lm f n):Dg (dig f) (2*n):=by
 intro j hj;have:=h (j/2) (by omega);unfold dig
 split <;> omega
theorem zpN (f:Nat->Int) (n:Nat):vd (dig f) (2*n)=vf f n:=by
 induction n with
 | zero=>rfl
 | succ k ih =>
  have e:2*(k+1)=2*k+1+1:=by omega
  have e2:(2*k+1)/2=k:=by omega
  have e3:(2*k+1)%2=1:=by omega
  have e4:2*k/2=k:=by omega
  have e5:2*k%2=0:=by omega
  have a1:dig f (2*k)=f k%4294967296:=by simp[dig]
  have a2:dig f (2*k+1)=f k/4294967296:=by simp[dig,e2,e3]
  rw[e,zQ,zQ,ih,zI,zau,zdT,a1,a2];have e6:f k=4294967296*(f k/4294967296)+f k%4294967296:=by omega
  have e7:f k*pw k=(4294967296*(f k/4294967296)+f k%4294967296)*pw k:=by rw[<-e6]
  rw[e7]
  grind
theorem zgH (w:World) (e:TypeId) (x:Int):Rd .u64 (w.alloc (.cells #[.int .u64 (x%4294967296),.int .u64 (x/4294967296)] e)) (some ⟨w.heap.size,0,none⟩) 2 (zaK x) :=
 Rd.mk (λj hj=>by
  rw[Nat.zero_add,World.cell?_alloc_new];rcases(show j=0∨j=1 by omega)with rfl|rfl <;> simp[zaK])
theorem zlE (ao:Option Addr) (n cap:Nat) (f:Nat->Int) (w:World) (hn:n<=1048576) (hr:Rd .u64 w ao n f) (hf:Lm f n) :
  Calls prog 113 #[slice ao n cap] w λe w'=>∃ao' m cap',e=returned (slice ao' m cap')/\(∀a,ao'=some a->w.heap.size<=a.block)/\m<=cap'/\cap'<=9223372036854775807/\Bl w w'/\Rd .u64 w' ao' m (dig f)/\m<=2*n/\(ao'=none->m=0)/\Dg (dig f) m/\Fm (dig f) m/\vd (dig f) m=vf f n:=by
 have HR:=zk hr;have HF:=zk hf;clear hr hf;obtain⟨i0,hi,hz0,hz1,hz2⟩:=info_parts zT;go_enter func113,ntmps113;go_wp2_with(at_make;refine wpList_make_own w rfl (.const (.int .i64 0)) (.tmp 8) 22 rfl w.heap.size 49 i0 (.int .u64 0) 1 underlying22 hi hz0 hz1 .i64 .i64 (2*(n:Int)) (2*n) rfl rfl (by omega) (by rw[hz2];omega) (by unfold maxLen;omega) (le_refl _) ?_;intro w1 hown1 hgr1)
 have hb1:Bl w w1:=(Below.refl _ _).grown hgr1 (le_refl _) (λk h=>by cases h);have ho1:Own .u64 49 w1 w.heap.size (slice (some ⟨w.heap.size,0,none⟩) 0 (2*n)) 0 (dig f):=hown1;clear hown1 hgr1;have HO1:=zk ho1;clear ho1;go_loopw[3,12] (λv t wr=>∃k:Nat,k<=n/\t=.int .i64 k/\Bl w wr/\Hid (Own .u64 49 wr w.heap.size v (2*k) (dig f))) (λ_ t _=>n-(intOf t).toNat)
 case atStart=>exact⟨0,by omega,rfl,hb1,HO1.out⟩
 case round =>
  clear hb1 HO1;obtain⟨k,hk,rfl,hbel,HO⟩:=hrel;by_cases hlt:k<n
  ·have hr:=HR.out;obtain⟨b,o,rfl⟩:=hr.at (by omega);obtain⟨x,hx⟩:∃x,f k=x:=⟨_,rfl⟩;have hcell:wr.cell? ⟨b,o+k,none⟩=some (.int .u64 x):=by rw[<-hx];exact(hr.q_ hbel (le_refl _)).cell hlt
   obtain⟨x0,x1⟩:=HF.out k hlt;rw[hx]at x0 x1
   have HX:=zk hx;clear hx hr;go_wp2_with(at_builtin;refine zD .u64 _ rfl (.tmp 16) (.tmp 21) 22 rfl w.heap.size 49 8 underlying22 zT _ (2*k) (dig f) rfl (Own.alloc HO.out _) wr.heap.size 0 2 2 (zaK x) rfl (zgH wr _ x) ?c1 ?c2 ?c3 ?_)
   case c1=>unfold maxLen;omega
   case c2=>omega
   case c3=>have:=hbel.size;simp;omega
   intro v' w' hown hgr;have hown2:Own .u64 49 w' w.heap.size v' (2*(k+1)) (dig f):=(show Own .u64 49 w' w.heap.size v' (2*k+2) _ from hown).congr (λj hj=>by rw[<-HX.out];exact zpO f k j hj);have hbel2:Bl w w':=(hbel.alloc hbel.size _).grown hgr (by have:=hbel.size;simp;omega) (λk h=>(Own.ge HO.out k h));have HO2:=zk hown2;clear hown hgr hown2 HO;go_wp2;go_roundw
   case rel=>exact⟨k+1,by omega,by go_num,hbel2,HO2.out⟩
   case measure=>simp[intOf];omega
  ·have hkn:k=n:=by omega
   subst hkn;obtain⟨ao',cap',hv,hcc,hnn,hml,hrd,hlt2⟩:=HO.out.shape;unfold maxLen at hml;subst hv;have HNew:=zk (λa ha=>(hlt2 a ha).1);clear HO hlt2;go_wp2_with fail
   refine(zcD ao' (2*k) cap' (dig f) wr hcc hml hrd hnn).mono ?_;rintro e w2 ⟨rfl,m,hm,hz,hfm,rfl⟩;have HZ:=zk hz;have HFM:=zk hfm;clear hz hfm;go_wp2;go_ret;refine⟨ao',m,cap',rfl,HNew.out,by omega,hml,hbel,hrd.take hm,hm,λh=>?_,(zrD HF.out).mono hm,HFM.out,?_⟩
   ·have:=hnn h;omega
   ·rw[zaO hm HZ.out];exact zpN f k
theorem zrB (ao:Option Addr) (n cap:Nat) (f:Nat->Int) (w:World) (hn:n<=1048576) (hr:Rd .u64 w ao n f) (hf:Lm f n) :
  Calls prog 113 #[slice ao n cap] w λe w'=>∃ao' m cap',e=returned (slice ao' m cap')/\Bl w w'/\Rd .u64 w' ao' m (dig f)/\m<=2*n/\(ao'=none->m=0)/\Dg (dig f) m/\Fm (dig f) m/\vd (dig f) m=vf f n :=
 (zlE ao n cap f w hn hr hf).mono (λ_ _ ⟨a,m,c,h1,_,_,_,h2⟩=>⟨a,m,c,h1,h2⟩)
def lim (d:Nat->Int) (n:Nat):Nat->Int:=λj=>ext d n (2*j)+4294967296*ext d n (2*j+1)
theorem zhc {d n} (h:Dg d n) (j:Nat):0<=ext d n j/\ext d n j<4294967296:=by
 by_cases hj:j<n
 ·rw[zap _ _ _ hj];exact h j hj
 ·rw[zav _ _ _ (by omega)];omega
theorem zrq {d n} (h:Dg d n) (k:Nat):Lm (lim d n) k:=λj _=>by
 have a:=zhc h (2*j);have b:=zhc h (2*j+1)
 unfold lim;omega
theorem zpt (d:Nat->Int) (n k:Nat):vf (lim d n) k=vd (ext d n) (2*k):=by
 induction k with
 | zero=>rfl
 | succ k ih =>
  have e:2*(k+1)=2*k+1+1:=by omega
  rw[e,zQ,zQ,<-ih,zI,zau,zdT,lim];grind
theorem zbP (h:Nat->Int) (m n:Nat) (hn:m<=n):vd (ext h m) n=vd h m:=by
 rw[ziM hn (λj h1 _=>zav h m j h1)];exact zaw (λj hj=>zap h m j hj)
theorem zrr {d n k} (h:Dg d n) (hf:Fm d n) (h1:n<=2*k) (h2:2*k<=n+1):Fm (lim d n) k:=by
 by_cases h0:n=0
 ·left;omega
 ·right
  have hd:d (n-1)≠0:=by rcases hf with h|h;omega;exact h
  have a:=zhc h (2*(k-1));have b:=zhc h (2*(k-1)+1)
  unfold lim;rcases(show n-1=2*(k-1)∨n-1=2*(k-1)+1 by omega)with e|e
  ·have:=zap d n (2*(k-1)) (by omega);rw[<-e]at this a ⊢
   omega
  ·have:=zap d n (2*(k-1)+1) (by omega);rw[<-e]at this b ⊢
   omega
theorem zkQ {f k x} (h:f k=x):∀j,j<k+1->cat f k (λ_=>x) j=f j:=by
 intro j hj;by_cases h1:j<k
 ·exact zec h1
 ·obtain rfl:j=k:=by omega
  rw[zda (le_refl _),h]
theorem zjP (ao:Option Addr) (n cap:Nat) (d:Nat->Int) (w:World) (hn:n<=1048576) (hr:Rd .u64 w ao n d) (hd:Dg d n) (hfm:Fm d n) :
  Calls prog 52 #[slice ao n cap] w λe w'=>∃ao' m cap' f,e=returned (slice ao' m cap')/\Own .u64 49 w' w.heap.size (slice ao' m cap') m f/\Bl w w'/\Rd .u64 w' ao' m f/\m<=n/\Lm f m/\Fm f m/\vf f m=vd d n:=by
 have HR:=zk hr;have HD:=zk hd;have HFM:=zk hfm;clear hr hd hfm;go_enter func52,ntmps52;go_wp2;go_loopw[3,4] (λv t wr=>∃k:Nat,2*k<=n+1/\t=.int .i64 (2*k)/\Bl w wr/\Hid (Own .u64 49 wr w.heap.size v k (lim d n))) (λ_ t _=>n+2-(intOf t).toNat)
 case atStart=>exact⟨0,by omega,rfl,Below.refl _ _,zdG _ _ _ _ _⟩
 case round =>
  obtain⟨k,hk,rfl,hbel,HO⟩:=hrel;by_cases hlt:2*k<n
  ·have hr:=HR.out;obtain⟨b,o,rfl⟩:=hr.at (by omega);obtain⟨x,hx⟩:∃x,d (2*k)=x:=⟨_,rfl⟩;have hcell:wr.cell? ⟨b,o+2*k,none⟩=some (.int .u64 x):=by rw[<-hx];exact(hr.q_ hbel (le_refl _)).cell hlt
   obtain⟨x0,x1⟩:=HD.out (2*k) hlt;rw[hx]at x0 x1
   have HX:=zk hx;clear hx;by_cases hlt2:2*k+1<n
   ·obtain⟨y,hy⟩:∃y,d (2*k+1)=y:=⟨_,rfl⟩;have hcell2:wr.cell? ⟨b,o+(2*k+1),none⟩=some (.int .u64 y):=by rw[<-hy];exact(hr.q_ hbel (le_refl _)).cell hlt2
    obtain⟨y0,y1⟩:=HD.out (2*k+1) hlt2;rw[hy]at y0 y1
    have HY:=zk hy;clear hy hr;have hl:lim d n k=x+y*4294967296:=by unfold lim;rw[zap _ _ _ hlt,zap _ _ _ hlt2,HX.out,HY.out];omega
    have HLm:=zk hl;clear hl;go_wp2_with(at_builtin;refine zD .u64 _ rfl (.tmp 29) (.tmp 31) 22 rfl w.heap.size 49 8 underlying22 zT _ k (lim d n) rfl (Own.alloc HO.out _) wr.heap.size 0 1 1 (λ_=>x+y*4294967296) rfl (zaG wr _ _) ?c1 ?c2 ?c3 ?_)
    case c1=>unfold maxLen;omega
    case c2=>omega
    case c3=>have:=hbel.size;simp;omega
    intro v' w' hown hgr;have hown2:Own .u64 49 w' w.heap.size v' (k+1) (lim d n):=Own.congr hown (zkQ HLm.out);have hbel2:Bl w w':=(hbel.alloc hbel.size _).grown hgr (by have:=hbel.size;simp;omega) (λk h=>(Own.ge HO.out k h));have HO2:=zk hown2;clear hown hgr hown2 HO;go_wp2;go_roundw
    case rel=>exact⟨k+1,by omega,by go_num,hbel2,HO2.out⟩
    case measure=>simp[intOf];omega
   ·have hl:lim d n k=x:=by unfold lim;rw[zap _ _ _ hlt,zav _ _ _ (by omega),HX.out];omega
    have HLm:=zk hl;clear hl hr;go_wp2_with(at_builtin;refine zD .u64 _ rfl (.tmp 29) (.tmp 31) 22 rfl w.heap.size 49 8 underlying22 zT _ k (lim d n) rfl (Own.alloc HO.out _) wr.heap.size 0 1 1 (λ_=>x) rfl (zaG wr _ _) ?c1 ?c2 ?c3 ?_)
    case c1=>unfold maxLen;omega
    case c2=>omega
    case c3=>have:=hbel.size;simp;omega
    intro v' w' hown hgr;have hown2:Own .u64 49 w' w.heap.size v' (k+1) (lim d n):=Own.congr hown (zkQ HLm.out);have hbel2:Bl w w':=(hbel.alloc hbel.size _).grown hgr (by have:=hbel.size;simp;omega) (λk h=>(Own.ge HO.out k h));have HO2:=zk hown2;clear hown hgr hown2 HO;go_wp2;go_roundw
    case rel=>exact⟨k+1,by omega,by go_num,hbel2,HO2.out⟩
    case measure=>simp[intOf];omega
  ·obtain⟨ao',cap',hv,hcc,hnn,hml,hrd,hlt2⟩:=HO.out.shape;subst hv;clear hlt2;go_wp2;go_ret;exact⟨ao',k,cap',_,rfl,HO.out,hbel,hrd,by omega,zrq HD.out k,zrr HD.out HFM.out (by omega) hk,by rw[zpt,zbP _ _ _ (by omega)]⟩
theorem zgf {f g n k} (hf:Dg f n) (hg:Dg g n) (hk:k<n) (he:∀j,k<j->j<n->f j=g j) (hl:f k<g k):vd f n<vd g n:=by
 obtain⟨d,rfl⟩:=Nat.exists_eq_add_of_le (show k+1<=n by omega);have e:vd (sh f (k+1)) d=vd (sh g (k+1)) d:=zaw (λj hj=>he _ (by omega) (by omega));have a:=zcr (hf.mono (m:=k) (by omega));have b:=zbd (hg.mono (m:=k) (by omega))
 have hp:(f k+1)*pd k<=g k*pd k:=Int.mul_le_mul_of_nonneg_right (by omega) (le_of_lt (zbI k));rw[add_mul,one_mul]at hp
 rw[zaU f (k+1) d,zaU g (k+1) d,e,zQ f k,zQ g k];omega
theorem zdw (D:Nat->Int) (k:Nat) (x:Int):vd (cat D k (λ_=>x)) (k+1)=vd D k+x*pd k:=by
 rw[zQ,zaw (f:=cat D k (λ_=>x)) (g:=D) (λj hj=>zec hj),zda (le_refl _)]
theorem zbc {D k x} (h:Dg D k) (hx:0<=x/\x<4294967296):Dg (cat D k (λ_=>x)) (k+1):=λj hj=>by
 by_cases h1:j<k
 ·rw[zec h1];exact h j h1
 ·rw[zda (by omega)];exact hx
theorem zlL {V x c p:Int}:V+((x+c)%4294967296)*p+((x+c)/4294967296)*(4294967296*p)=V+x*p+c*p:=by
 have e:x+c=4294967296*((x+c)/4294967296)+(x+c)%4294967296:=by omega
 grind
theorem zbS {D F G k cc x y} (HV:vd D k+cc*pd k=vd F k+vd G k) (hx:F k=x) (hy:G k=y) :
  vd (cat D k (λ_=>(cc+x+y)%4294967296)) (k+1)+((cc+x+y)/4294967296)*pd (k+1)=vd F (k+1)+vd G (k+1):=by
 rw[zdw,zQ,zQ,zau,hx,hy];have:=zlL (V:=vd D k) (x:=x+y) (c:=cc) (p:=pd k);have e:x+y+cc=cc+x+y:=by omega
 rw[e]at this
 rw[this]
 grind
theorem zbC {D F G k cc x y v c'} (HV:vd D k-cc*pd k=vd F k-vd G k) (hx:F k=x) (hy:G k=y) (hv:v=x-(cc+y)+4294967296*c') :
  vd (cat D k (λ_=>v)) (k+1)-c'*pd (k+1)=vd F (k+1)-vd G (k+1):=by
 rw[zdw,zQ,zQ,zau,hx,hy,hv]
 grind
theorem zgJ (ao bo:Option Addr) (n m ca cb:Nat) (f g:Nat->Int) (w:World) (hm:n<=140737488355328) (hm':m<=140737488355328)
  (hr:Rd .u64 w ao n f) (hs:Rd .u64 w bo m g) (hf:Dg f n) (hg:Dg g m) (ff:Fm f n) (fg:Fm g m) :
  Calls prog 133 #[slice ao n ca,slice bo m cb] w λe w'=>(∃q,w'=w.drewN q)/\∃c,e=returned (.int .i64 c)/\Ord c (vd f n) (vd g m):=by
 have FF:=zk ff;have FG:=zk fg;have HF:=zk hf;have HG:=zk hg;clear ff fg hf hg;rcases Nat.lt_trichotomy n m with hlt|heq|hlt
 ·have h1:((n:Int) != m)=true:=by simp;omega
  have h2:decide ((n:Int)<m)=true:=by simp;omega
  have h3:vd f n<vd g m:=by
   apply Int.lt_of_not_ge;intro h
   have:=zdj HG.out HF.out FG.out h;omega
  have H3:=zk h3;clear h3;go_enter func133,ntmps133;go_wp2;go_ret;exact⟨⟨0,rfl⟩,-1,rfl,.inl ⟨rfl,H3.out⟩⟩
 ·subst heq;have h1:((n:Int) != n)=false:=by simp
  go_enter func133,ntmps133;go_wp2;go_loopw[5] (λt wr=>∃i:Nat,i<=n/\t=.int .i64 ((i:Int)-1)/\Hid (∀j,i<=j->j<n->f j=g j)/\∃q,wr=w.drewN q) (λt _=>((intOf t)+1).toNat)
  case atStart=>exact⟨n,by omega,rfl,λj h1 h2=>by omega,0,rfl⟩
  case round =>
   obtain⟨i,hin,rfl,HE,q,rfl⟩:=hrel;by_cases hlt:0<i
   ·obtain⟨b,o,rfl⟩:=hr.at (by omega);obtain⟨b',o',rfl⟩:=hs.at (by omega);obtain⟨x,hx⟩:∃x,f (i-1)=x:=⟨_,rfl⟩;obtain⟨y,hy⟩:∃y,g (i-1)=y:=⟨_,rfl⟩;have hca:w.cell? ⟨b,o+(i-1),none⟩=some (.int .u64 x):=by rw[<-hx];exact hr.cell (by omega)
    have hcb:w.cell? ⟨b',o'+(i-1),none⟩=some (.int .u64 y):=by rw[<-hy];exact hs.cell (by omega)
    have HX:=zk hx;have HY:=zk hy;clear hx hy hr hs;rcases Int.lt_trichotomy x y with hl|hxy|hl
    ·have hd:decide (x<y)=true:=by simp[hl]
     go_wp2
     go_quiet (fail)
     go_wp2;go_ret;refine⟨⟨_,by (repeat rw[World.drewN_drewN]) <;> rfl⟩,-1,rfl,.inl ⟨rfl,zgf HF.out HG.out (k:=i-1) (by omega) (λj h1 h2=>HE.out j (by omega) h2) (by rw[HX.out,HY.out];exact hl)⟩⟩
    ·subst hxy;have hd:decide (x<x)=false:=by simp
     go_wp2
     go_quiet (fail)
     go_wp2
     go_quiet (fail)
     go_wp2;go_roundw
     case rel =>
      refine⟨i-1,by omega,by go_num,λj h1 h2=>?_,_,by (repeat rw[World.drewN_drewN]) <;> rfl⟩;by_cases hj:j=i-1
      ·rw[hj];exact HX.out.trans HY.out.symm
      ·exact HE.out j (by omega) h2
     case measure=>simp[intOf];omega
    ·have hd:decide (x<y)=false:=by simp;omega
     have hd2:decide (y<x)=true:=by simp[hl]
     go_wp2
     go_quiet (fail)
     go_wp2
     go_quiet (fail)
     go_wp2;go_ret;refine⟨⟨_,by (repeat rw[World.drewN_drewN]) <;> rfl⟩,1,rfl,.inr (.inr ⟨rfl,zgf HG.out HF.out (k:=i-1) (by omega) (λj h1 h2=>(HE.out j (by omega) h2).symm) (by rw[HX.out,HY.out];omega)⟩)⟩
   ·have hi:i=0:=by omega
    subst hi;go_wp2;go_ret;exact⟨⟨_,rfl⟩,0,rfl,.inr (.inl ⟨rfl,zaw (λj hj=>HE.out j (by omega) hj)⟩)⟩
 ·have h1:((n:Int) != m)=true:=by simp;omega
  have h2:decide ((n:Int)<m)=false:=by simp;omega
  have h3:vd g m<vd f n:=by
   apply Int.lt_of_not_ge;intro h
   have:=zdj HF.out HG.out FF.out h;omega
  have H3:=zk h3;clear h3;go_enter func133,ntmps133;go_wp2;go_ret;exact⟨⟨0,rfl⟩,1,rfl,.inr (.inr ⟨rfl,H3.out⟩)⟩
theorem zke (ao bo:Option Addr) (n m ca cb:Nat) (f h:Nat->Int) (w:World) (hn:n<=1048576) (hm:m<=1048576) (hr:Rd .u64 w ao n f) (hs:Rd .u64 w bo m h) (hf:Dg f n) (hh:Dg h m) :
  Calls prog 138 #[slice ao n ca,slice bo m cb] w λe w'=>∃ao' k cap' D,e=returned (slice ao' k cap')/\Bl w w'/\Rd .u64 w' ao' k D/\k<=n+m+1/\Dg D k/\Fm D k/\(∀a,ao'=some a->w.heap.size<=a.block)/\vd D k=vd f n+vd h m:=by
 obtain⟨i0,hi,hz0,hz1,hz2⟩:=info_parts zT;have RA0:=zk hr;have RB0:=zk hs;have DA0:=zk hf;have DB0:=zk hh;clear hr hs hf hh;by_cases hsw:n<m
 ·have RA:=RB0;have RB:=RA0;have DA:=DB0;have DB:=DA0;clear RA0 RB0 DA0 DB0;go_enter func138,ntmps138;go_wp2_with(at_make;refine wpList_make_own w rfl (.const (.int .i64 0)) (.tmp 18) 22 rfl w.heap.size 49 i0 (.int .u64 0) 1 underlying22 hi hz0 hz1 .i64 .i64 ((m:Int)+1) (m+1) rfl rfl (by omega) (by rw[hz2];omega) (by unfold maxLen;omega) (le_refl _) ?_;intro w1 hown1 hgr1)
  have hb1:Bl w w1:=(Below.refl _ _).grown hgr1 (le_refl _) (λk h=>by cases h);have HO1:=zk (show Own .u64 49 w1 w.heap.size (slice (some ⟨w.heap.size,0,none⟩) 0 (m+1)) 0 (λ_=>0)from hown1);clear hown1 hgr1;go_loopw[5,6,22] (λv c t wr=>∃(k:Nat) (cc:Int) (D:Nat->Int),k<=m/\t=.int .i64 k/\c=.int .u64 cc/\0<=cc/\cc<=1/\Bl w wr/\Hid (Own .u64 49 wr w.heap.size v k D)/\Hid (Dg D k)/\Hid (vd D k+cc*pd k=vd h k+vd (ext f n) k)) (λ_ _ t _=>m-(intOf t).toNat)
  case atStart=>exact⟨0,0,λ_=>0,by omega,rfl,rfl,by omega,by omega,hb1,HO1.out,λj hj=>by omega,by simp[Hid,vd,pd]⟩
  case round =>
   clear hb1 HO1;obtain⟨k,cc,D,hk,rfl,rfl,c0,c1,hbel,HO,HDg,HV⟩:=hrel;by_cases hlt:k<m
   ·have hrA:=RA.out;obtain⟨b,o,rfl⟩:=hrA.at (by omega);obtain⟨x,hx⟩:∃x,h k=x:=⟨_,rfl⟩;have hcell:wr.cell? ⟨b,o+k,none⟩=some (.int .u64 x):=by rw[<-hx];exact(hrA.q_ hbel (le_refl _)).cell hlt
    obtain⟨x0,x1⟩:=DA.out k hlt;rw[hx]at x0 x1
    have HX:=zk hx;clear hx hrA;by_cases hlt2:k<n
    ·have hrB:=RB.out;obtain⟨b',o',rfl⟩:=hrB.at (by omega);obtain⟨y,hy⟩:∃y,f k=y:=⟨_,rfl⟩;have hcelb:wr.cell? ⟨b',o'+k,none⟩=some (.int .u64 y):=by rw[<-hy];exact(hrB.q_ hbel (le_refl _)).cell hlt2
     obtain⟨y0,y1⟩:=DB.out k hlt2;rw[hy]at y0 y1
     have HY:=zk (show ext f n k=y from(zap _ _ _ hlt2).trans hy);clear hy hrB;go_wp2_with(at_builtin;refine zD .u64 _ rfl (.tmp 40) (.tmp 43) 22 rfl w.heap.size 49 8 underlying22 zT _ k D rfl (Own.alloc HO.out _) wr.heap.size 0 1 1 (λ_=>(cc+x+y)%4294967296) rfl (zaG wr _ _) ?c1 ?c2 ?c3 ?_)
     case c1=>unfold maxLen;omega
     case c2=>omega
     case c3=>have:=hbel.size;simp;omega
     intro v' w' hown hgr;have hbel2:Bl w w':=(hbel.alloc hbel.size _).grown hgr (by have:=hbel.size;simp;omega) (λk h=>(Own.ge HO.out k h));have HO2:=zk hown;clear hown hgr HO;go_wp2;go_roundw
     case rel=>exact⟨k+1,_,_,by omega,by go_num,rfl,by omega,by omega,hbel2,HO2.out,zbc HDg.out (by omega),zbS HV.out HX.out HY.out⟩
     case measure=>simp[intOf];omega
    ·have HY:=zk (show ext f n k=0 from zav _ _ _ (by omega));go_wp2_with(at_builtin;refine zD .u64 _ rfl (.tmp 40) (.tmp 43) 22 rfl w.heap.size 49 8 underlying22 zT _ k D rfl (Own.alloc HO.out _) wr.heap.size 0 1 1 (λ_=>(cc+x)%4294967296) rfl (zaG wr _ _) ?c1 ?c2 ?c3 ?_)
     case c1=>unfold maxLen;omega
     case c2=>omega
     case c3=>have:=hbel.size;simp;omega
     intro v' w' hown hgr;have hbel2:Bl w w':=(hbel.alloc hbel.size _).grown hgr (by have:=hbel.size;simp;omega) (λk h=>(Own.ge HO.out k h));have HO2:=zk hown;clear hown hgr HO;go_wp2;go_roundw
     case rel=>exact⟨k+1,_,_,by omega,by go_num,rfl,by omega,by omega,hbel2,HO2.out,zbc HDg.out (by omega),(by have:=zbS HV.out HX.out HY.out;simpa[Hid]using this)⟩
     case measure=>simp[intOf];omega
   ·have hkn:k=m:=by omega
    subst hkn;go_wp2_with(at_builtin;refine zD .u64 _ rfl (.tmp 48) (.tmp 50) 22 rfl w.heap.size 49 8 underlying22 zT _ k D rfl (Own.alloc HO.out _) wr.heap.size 0 1 1 (λ_=>cc) rfl (zaG wr _ _) ?c1 ?c2 ?c3 ?_)
    case c1=>unfold maxLen;omega
    case c2=>omega
    case c3=>have:=hbel.size;simp;omega
    intro v' w' hown hgr;have hbel2:Bl w w':=(hbel.alloc hbel.size _).grown hgr (by have:=hbel.size;simp;omega) (λk h=>(Own.ge HO.out k h));obtain⟨ao',cap',hv,hcc,hnn,hml,hrd,hlt3⟩:=Own.shape hown;unfold maxLen at hml;subst hv;have HLT:=zk hlt3;clear hown hgr HO hlt3;go_wp2_with fail
    refine(zcD ao' (k+1) cap' (cat D k (λ_=>cc)) w' hcc hml hrd hnn).mono ?_;rintro e w2 ⟨rfl,m',hm1,hz,hfm,rfl⟩;have HZ:=zk hz;have HFM:=zk hfm;clear hz hfm;go_wp2;go_ret;refine⟨ao',m',cap',_,rfl,hbel2,hrd.take hm1,by omega,(zbc HDg.out (by omega)).mono hm1,HFM.out,λa ha=>(HLT.out a ha).1,?_⟩;rw[zaO hm1 HZ.out,zdw,HV.out,zbP _ _ _ (by omega)];omega
 ·have RA:=RA0;have RB:=RB0;have DA:=DA0;have DB:=DB0;clear RA0 RB0 DA0 DB0;go_enter func138,ntmps138;go_wp2_with(at_make;refine wpList_make_own w rfl (.const (.int .i64 0)) (.tmp 18) 22 rfl w.heap.size 49 i0 (.int .u64 0) 1 underlying22 hi hz0 hz1 .i64 .i64 ((n:Int)+1) (n+1) rfl rfl (by omega) (by rw[hz2];omega) (by unfold maxLen;omega) (le_refl _) ?_;intro w1 hown1 hgr1)
  have hb1:Bl w w1:=(Below.refl _ _).grown hgr1 (le_refl _) (λk h=>by cases h);have HO1:=zk (show Own .u64 49 w1 w.heap.size (slice (some ⟨w.heap.size,0,none⟩) 0 (n+1)) 0 (λ_=>0)from hown1);clear hown1 hgr1;go_loopw[5,6,22] (λv c t wr=>∃(k:Nat) (cc:Int) (D:Nat->Int),k<=n/\t=.int .i64 k/\c=.int .u64 cc/\0<=cc/\cc<=1/\Bl w wr/\Hid (Own .u64 49 wr w.heap.size v k D)/\Hid (Dg D k)/\Hid (vd D k+cc*pd k=vd f k+vd (ext h m) k)) (λ_ _ t _=>n-(intOf t).toNat)
  case atStart=>exact⟨0,0,λ_=>0,by omega,rfl,rfl,by omega,by omega,hb1,HO1.out,λj hj=>by omega,by simp[Hid,vd,pd]⟩
  case round =>
   clear hb1 HO1;obtain⟨k,cc,D,hk,rfl,rfl,c0,c1,hbel,HO,HDg,HV⟩:=hrel;by_cases hlt:k<n
   ·have hrA:=RA.out;obtain⟨b,o,rfl⟩:=hrA.at (by omega);obtain⟨x,hx⟩:∃x,f k=x:=⟨_,rfl⟩;have hcell:wr.cell? ⟨b,o+k,none⟩=some (.int .u64 x):=by rw[<-hx];exact(hrA.q_ hbel (le_refl _)).cell hlt
    obtain⟨x0,x1⟩:=DA.out k hlt;rw[hx]at x0 x1
    have HX:=zk hx;clear hx hrA;by_cases hlt2:k<m
    ·have hrB:=RB.out;obtain⟨b',o',rfl⟩:=hrB.at (by omega);obtain⟨y,hy⟩:∃y,h k=y:=⟨_,rfl⟩;have hcelb:wr.cell? ⟨b',o'+k,none⟩=some (.int .u64 y):=by rw[<-hy];exact(hrB.q_ hbel (le_refl _)).cell hlt2
     obtain⟨y0,y1⟩:=DB.out k hlt2;rw[hy]at y0 y1
     have HY:=zk (show ext h m k=y from(zap _ _ _ hlt2).trans hy);clear hy hrB;go_wp2_with(at_builtin;refine zD .u64 _ rfl (.tmp 40) (.tmp 43) 22 rfl w.heap.size 49 8 underlying22 zT _ k D rfl (Own.alloc HO.out _) wr.heap.size 0 1 1 (λ_=>(cc+x+y)%4294967296) rfl (zaG wr _ _) ?c1 ?c2 ?c3 ?_)
     case c1=>unfold maxLen;omega
     case c2=>omega
     case c3=>have:=hbel.size;simp;omega
     intro v' w' hown hgr;have hbel2:Bl w w':=(hbel.alloc hbel.size _).grown hgr (by have:=hbel.size;simp;omega) (λk h=>(Own.ge HO.out k h));have HO2:=zk hown;clear hown hgr HO;go_wp2;go_roundw
     case rel=>exact⟨k+1,_,_,by omega,by go_num,rfl,by omega,by omega,hbel2,HO2.out,zbc HDg.out (by omega),zbS HV.out HX.out HY.out⟩
     case measure=>simp[intOf];omega
    ·have HY:=zk (show ext h m k=0 from zav _ _ _ (by omega));go_wp2_with(at_builtin;refine zD .u64 _ rfl (.tmp 40) (.tmp 43) 22 rfl w.heap.size 49 8 underlying22 zT _ k D rfl (Own.alloc HO.out _) wr.heap.size 0 1 1 (λ_=>(cc+x)%4294967296) rfl (zaG wr _ _) ?c1 ?c2 ?c3 ?_)
     case c1=>unfold maxLen;omega
     case c2=>omega
     case c3=>have:=hbel.size;simp;omega
     intro v' w' hown hgr;have hbel2:Bl w w':=(hbel.alloc hbel.size _).grown hgr (by have:=hbel.size;simp;omega) (λk h=>(Own.ge HO.out k h));have HO2:=zk hown;clear hown hgr HO;go_wp2;go_roundw
     case rel=>exact⟨k+1,_,_,by omega,by go_num,rfl,by omega,by omega,hbel2,HO2.out,zbc HDg.out (by omega),(by have:=zbS HV.out HX.out HY.out;simpa[Hid]using this)⟩
     case measure=>simp[intOf];omega
   ·have hkn:k=n:=by omega
    subst hkn;go_wp2_with(at_builtin;refine zD .u64 _ rfl (.tmp 48) (.tmp 50) 22 rfl w.heap.size 49 8 underlying22 zT _ k D rfl (Own.alloc HO.out _) wr.heap.size 0 1 1 (λ_=>cc) rfl (zaG wr _ _) ?c1 ?c2 ?c3 ?_)
    case c1=>unfold maxLen;omega
    case c2=>omega
    case c3=>have:=hbel.size;simp;omega
    intro v' w' hown hgr;have hbel2:Bl w w':=(hbel.alloc hbel.size _).grown hgr (by have:=hbel.size;simp;omega) (λk h=>(Own.ge HO.out k h));obtain⟨ao',cap',hv,hcc,hnn,hml,hrd,hlt3⟩:=Own.shape hown;unfold maxLen at hml;subst hv;have HLT:=zk hlt3;clear hown hgr HO hlt3;go_wp2_with fail
    refine(zcD ao' (k+1) cap' (cat D k (λ_=>cc)) w' hcc hml hrd hnn).mono ?_;rintro e w2 ⟨rfl,m',hm1,hz,hfm,rfl⟩;have HZ:=zk hz;have HFM:=zk hfm;clear hz hfm;go_wp2;go_ret;refine⟨ao',m',cap',_,rfl,hbel2,hrd.take hm1,by omega,(zbc HDg.out (by omega)).mono hm1,HFM.out,λa ha=>(HLT.out a ha).1,?_⟩;rw[zaO hm1 HZ.out,zdw,HV.out,zbP _ _ _ (by omega)]
theorem zqZ (ao bo:Option Addr) (n m ca cb:Nat) (f h:Nat->Int) (w:World) (hn:n<=1048576) (hm:m<=1048576) (hr:Rd .u64 w ao n f) (hs:Rd .u64 w bo m h) (hf:Dg f n) (hh:Dg h m) :
  Calls prog 138 #[slice ao n ca,slice bo m cb] w λe w'=>∃ao' k cap' D,e=returned (slice ao' k cap')/\Bl w w'/\Rd .u64 w' ao' k D/\k<=n+m+1/\Dg D k/\Fm D k/\vd D k=vd f n+vd h m :=
 (zke ao bo n m ca cb f h w hn hm hr hs hf hh).mono (λ_ _ ⟨a,k,c,D,h1,h2,h3,h4,h5,h6,_,h7⟩=>⟨a,k,c,D,h1,h2,h3,h4,h5,h6,h7⟩)
theorem zma (x:Int) (w:World) (x0:0<=x) (x1:x<4294967296) :
  Calls prog 54 #[.int .u64 x] w λe w'=>∃k,e=returned (slice (some ⟨w.heap.size,0,none⟩) k 2)/\Bl w w'/\k<=1/\Rd .u64 w' (some ⟨w.heap.size,0,none⟩) k (λ_=>x)/\(k=0->x=0)/\Fm (λ_=>x) k:=by
 have hr:=zgH w 49 x;have m1:x%4294967296=x:=by omega
 have m2:x/4294967296=0:=by omega
 rw[m1,m2]at hr
 have HR:=zk hr;clear hr;go_enter func54,ntmps54;go_wp2_with fail
 refine(zcD (some ⟨w.heap.size,0,none⟩) 2 2 (zaK x) _ (by omega) (by omega) HR.out (λh=>by cases h)).mono ?_;rintro e w1 ⟨rfl,k,hk,hz,hfm,rfl⟩;have hk1:k<=1:=by
  rcases hfm with h|h
  ·omega
  ·apply Nat.le_of_not_lt;intro h2
   obtain rfl:k=2:=by omega
   exact h (by simp[zaK,m2])
 have hx0:k=0->x=0:=λh=>by
  have:=hz 0 (by omega) (by omega);simp[zaK,m1]at this
  exact this
 have hr1:∀j,j<k->zaK x j=x:=by
  intro j hj;obtain rfl:j=0:=by omega
  simp[zaK,m1]
 have hf1:Fm (λ_=>x) k:=by
  rcases hfm with h|h
  ·exact .inl h
  ·by_cases h0:k=0
   ·exact .inl h0
   ·right;rw[hr1 _ (by omega)]at h;exact h
 have HR1:=zk hr1;have HX0:=zk hx0;have HF1:=zk hf1
 clear hz hfm hr1 hx0 hf1;go_wp2;go_ret;exact⟨k,rfl,(Below.refl _ _).alloc (le_refl _) _,hk1,(HR.out.take hk).congr HR1.out,HX0.out,HF1.out⟩
theorem zez (f:Nat->Int) (m i:Nat):vd (sh f m) (i+1)=f m+4294967296*vd (sh f (m+1)) i:=by
 rw[Nat.add_comm i 1,zaU (sh f m) 1 i,zax];have e1:vd (sh f m) 1=f m:=by simp[vd,pd,sh]
 have e2:pd 1=4294967296:=by simp[pd]
 rw[e1,e2];omega
theorem ziQ {f q q' k i r wd} (HV:vd (sh f (k+1)) i=vd (sh q (k+1)) i*wd+r) (hq:∀j,k<j->q' j=q j) (hk:q' k=(r*4294967296+f k)/wd) :
  vd (sh f k) (i+1)=vd (sh q' k) (i+1)*wd+(r*4294967296+f k)%wd:=by
 have e1:vd (sh q' (k+1)) i=vd (sh q (k+1)) i:=zaw (λj hj=>hq _ (by omega));rw[zez,zez,e1,HV,hk];have e2:=Int.mul_ediv_add_emod (r*4294967296+f k) wd;generalize(r*4294967296+f k)/wd=Q at *;generalize(r*4294967296+f k)%wd=R at *
 grind
theorem zoL (ao:Option Addr) (n cap:Nat) (f:Nat->Int) (wd:Int) (w:World) (hn:n<=1048576) (hr:Rd .u64 w ao n f) (hf:Dg f n) (w0:0<wd) (w1:wd<4294967296) :
  Calls prog 136 #[slice ao n cap,.int .u64 wd] w λe w'=>∃a1 k1 c1 q a2 k2 c2 R,e=returned (.tuple #[slice a1 k1 c1,slice a2 k2 c2])/\Bl w w'/\k1<=n/\Rd .u64 w' a1 k1 q/\Dg q k1/\Fm q k1/\k2<=1/\Rd .u64 w' a2 k2 (λ_=>R)/\(k2=0->R=0)/\Fm (λ_=>R) k2/\0<=R/\R<wd/\vd f n=vd q k1*wd+R:=by
 have HR:=zk hr;have HF:=zk hf;clear hr hf;go_enter func136,ntmps136;go_wp2_with(at_make;refine zah .u64 w rfl (.tmp 10) (.tmp 10) 22 rfl 49 8 underlying22 zT .i64 .i64 n n n rfl rfl rfl rfl (by omega) (by unfold maxLen;omega) ?_;intro wa hba hbela)
 go_loopw[7,8] (λc t wr=>∃(i:Nat) (r:Int) (Q:Nat->Int),i<=n/\t=.int .i64 ((i:Int)-1)/\c=.int .u64 r/\0<=r/\r<wd/\Bl w wr/\Blk .u64 49 wr w.heap.size n Q/\Hid (Dg Q n)/\Hid (vd (sh f i) (n-i)=vd (sh Q i) (n-i)*wd+r)) (λ_ t _=>(intOf t+1).toNat)
 case atStart=>exact⟨n,0,λ_=>0,by omega,rfl,rfl,by omega,w0,hbela,hba,λj _=>⟨Int.le_refl 0,show(0:Int)<4294967296 by decide⟩,by simp[Hid,vd]⟩
 case round =>
  clear hba hbela;obtain⟨i,r,Q,hi,rfl,rfl,r0,r1,hbel,hbl,HL,HV⟩:=hrel;cases i with
  | zero =>
   go_wp2_with fail
   refine(zcD (some ⟨w.heap.size,0,none⟩) n n Q wr (le_refl _) (by omega) (hbl.rd0 (le_refl _)) (λh=>by cases h)).mono ?_;rintro e w2 ⟨rfl,k1,hk1,hz,hfm,rfl⟩;have HZ:=zk hz;have HFM:=zk hfm
   clear hz hfm;go_wp2_with fail
   refine(zma r _ r0 (by omega)).mono ?_;rintro e w3 ⟨k2,rfl,hbel3,hk2,hr2,hx2,hf2⟩;have HB3:=zk hbel3;have HR2:=zk hr2;have HX2:=zk hx2;have HF2:=zk hf2
   clear hbel3 hr2 hx2 hf2;go_wp2
   go_ret2
   have v:=HV.out;rw[sh_zero,sh_zero,Nat.sub_zero]at v
   refine⟨_,k1,n,Q,_,k2,2,r,rfl,bUp hbel HB3.out,hk1,((hbl.rd0 (le_refl _)).take hk1).q_ HB3.out (le_refl _),HL.out.mono hk1,HFM.out,hk2,HR2.out,HX2.out,HF2.out,r0,r1,?_⟩;rw[zaO hk1 HZ.out];exact v
  | succ k =>
   have hr:=HR.out;obtain⟨b,o,rfl⟩:=hr.at (by omega);obtain⟨x,hx⟩:∃x,f k=x:=⟨_,rfl⟩;have hcell:wr.cell? ⟨b,o+k,none⟩=some (.int .u64 x):=by rw[<-hx];exact(hr.q_ hbel (le_refl _)).cell (by omega)
   have hcelq:=hbl.cell (j:=k) (by omega);have hfz:=hbl.frozen k;obtain⟨x0,x1⟩:=HF.out k (by omega);rw[hx]at x0 x1
   obtain⟨q,hq⟩:∃q,(r*4294967296+x)/wd=q:=⟨_,rfl⟩;obtain⟨R,hR⟩:∃R,(r*4294967296+x)%wd=R:=⟨_,rfl⟩;have hR0:0<=R:=by rw[<-hR];exact Int.emod_nonneg _ (by omega)
   have hR1:R<wd:=by rw[<-hR];exact Int.emod_lt_of_pos _ w0
   have hq0:0<=q:=by rw[<-hq];exact Int.ediv_nonneg (by omega) (by omega)
   have hq1:q<4294967296:=by
    rw[<-hq];apply Int.ediv_lt_of_lt_mul w0;omega
   have hst:=ziQ (q':=upd Q k q) (k:=k) (i:=n-(k+1)) HV.out (λj hj=>zE _ _ _ _ (by omega)) (by rw[zac,hx,hq]);rw[hx,hR]at hst
   have HX:=zk hx;have HSt:=zk hst
   clear hx hst hr;have hwd:¬(wd=0):=by omega
   have hwdb:(wd==0)=false:=by simp;omega
   go_wp2;go_roundw
   case rel =>
    refine⟨k,R,upd Q k q,by omega,by go_num,(by rw[hR]),hR0,hR1,zV hbel ((Only.refl _ _).setCell _ _ _) (le_refl _) hbel.size,hbl.set _ _,HL.out.upd ⟨hq0,hq1⟩,?_⟩;have e:n-k=n-(k+1)+1:=by omega
    show _=_;rw[e];exact HSt.out
   case measure=>simp[intOf]
theorem zew (x:Int) (w:World) (x0:0<=x) (x1:x<18446744073709551616) :
  Calls prog 54 #[.int .u64 x] w λe w'=>∃k cap,e=returned (slice (some ⟨w.heap.size,0,none⟩) k cap)/\Bl w w'/\k<=2/\Rd .u64 w' (some ⟨w.heap.size,0,none⟩) k (zaK x)/\Dg (zaK x) k/\Fm (zaK x) k/\vd (zaK x) k=x:=by
 have hr:=zgH w 49 x;have HR:=zk hr;clear hr;go_enter func54,ntmps54;go_wp2_with fail
 refine(zcD (some ⟨w.heap.size,0,none⟩) 2 2 (zaK x) _ (by omega) (by omega) HR.out (λh=>by cases h)).mono ?_;rintro e w1 ⟨rfl,k,hk,hz,hfm,rfl⟩;have hdg:Dg (zaK x) k:=λj hj=>by
  unfold zaK
  split <;> omega
 have hv2:vd (zaK x) 2=x:=by simp[vd,pd,zaK];omega
 have hv:vd (zaK x) k=x:=(ziM hk hz).symm.trans hv2;have HD:=zk hdg;have HF:=zk hfm;have HV:=zk hv;have HRk:=zk (HR.out.take hk)
 clear hdg hfm hv hv2 hz;go_wp2;go_ret;exact⟨k,2,rfl,zu (Below.refl _ _) _,hk,HRk.out,HD.out,HF.out,HV.out⟩
structure zth (C:Nat) (w w':World) (s:Bool) (ao:Option Addr) (n:Nat) (d:Nat->Int) (z:Int):Prop where
 bel:Bl w w'
 rd:Rd .u64 w' ao n d
 dg:Dg d n
 fm:Fm d n
 le:n<=C
 sgn:s=true->0<n
 val:(if s then-vd d n else vd d n)=z
 nil:ao=none->n=0
def zti (C:Nat) (w w':World) (e:Ending) (z:Int):Prop:=∃s ao n cap d,e=returned (agg #[.bool s,slice ao n cap])/\zth C w w' s ao n d z
theorem Rd.turned {k w w' ao n f lo hi} (h:Rd k w ao n f) (ht:Turned lo hi w w') (hu:∀a,ao=some a->a.block<lo∨hi<=a.block):Rd k w' ao n f:=λj hj=>by
 obtain⟨b,o,e,hc⟩:=h j hj;exact⟨b,o,e,(cell?_of_block (ht.block b (block_lt_of_cell? w _ hc) (hu _ e))).trans hc⟩
theorem znT {w w1 c0 c1 t} (hb:Below (w.alloc (.cells #[c0,c1] t)).heap.size (w.alloc (.cells #[c0,c1] t)) w1) :
  (w.heap.size<w1.heap.size/\w1.cell? ⟨w.heap.size,0,none⟩=some c0/\w1.cell? ⟨w.heap.size,1,none⟩=some c1)/\(∀o,w1.frozen? ⟨w.heap.size,o,none⟩=false)/\Bl w w1:=by
 obtain⟨h1,h2⟩:=zaH hb;have hz:=hb.size;simp at hz;refine⟨⟨by omega,(h1 _ _ (by simp)).trans (by simp[go_sem]),(h1 _ _ (by simp)).trans (by simp[go_sem])⟩,λo=>(h2 _ _ (by simp)).trans (by
  have e:=heap_alloc_new w (.cells #[c0,c1] t);simp only[World.frozen?,e];simp),?_⟩
 exact(zB w _).trans (hb.mono (by simp))
theorem zqt (z:Int) (w:World) (h0:-9223372036854775808<=z) (h1:z<=9223372036854775807) :
  Calls prog 53 #[.int .i64 z] w λe w'=>zti 2 w w' e z:=by
 by_cases hneg:z<0
 ·have hW:IntKind.u64.wrap (-(z+1))=-(z+1):=by simp only[zlZ];omega
  go_enter func53,ntmps53;go_wp2_with fail
  rw[show -(z+1)+1=-z by omega];refine(zew (-z) _ (by omega) (by omega)).mono ?_;rintro e w1 ⟨k,cap,rfl,hb,hk,hr,hd,hf,hv⟩;obtain⟨⟨hz,z0,z1⟩,zf,hw⟩:=znT hb;have HW:=zk hw;have HR:=zk hr;have HD:=zk hd;have HF:=zk hf;have HV:=zk hv
  have hk0:Hid (0<k):=by
   show 0<k;apply Nat.pos_of_ne_zero;intro hk0;subst hk0;simp[vd]at hv;omega
  clear hb hw hr hd hf hv;go_wp2;refine bodyPost_ret (v:=agg #[.bool true,slice (some ⟨(w.alloc (.cells #[.bool false,slice none 0 0] 71)).heap.size,0,none⟩) k cap]) (by simp[results,results53,go_sem,z0,z1]) rfl ⟨true,_,k,cap,zaK (-z),rfl,?_⟩;have hT:=((Turned.refl w.heap.size (w.heap.size+1) w1).set (x:=⟨w.heap.size,0,none⟩) (by first|omega|(simp;done)|(simp;omega)) (by first|omega|(simp;done)|(simp;omega)) (.bool true)).set (x:=⟨w.heap.size,1,none⟩) (by first|omega|(simp;done)|(simp;omega)) (by first|omega|(simp;done)|(simp;omega)) (slice (some ⟨w.heap.size+1,0,none⟩) k cap);refine⟨zL HW.out HW.out.size (by simpa using hT) (le_refl _),HR.out.turned (by simpa using hT) (λa ha=>by cases ha;simp),HD.out,HF.out,hk,λ_=>hk0.out,?_,λh=>by cases h⟩;rw[if_pos rfl,HV.out];omega
 ·go_enter func53,ntmps53;go_wp2_with fail
  refine(zew z _ (by omega) (by omega)).mono ?_;rintro e w1 ⟨k,cap,rfl,hb,hk,hr,hd,hf,hv⟩;obtain⟨⟨hz,z0,z1⟩,zf,hw⟩:=znT hb;have HW:=zk hw;have HR:=zk hr;have HD:=zk hd;have HF:=zk hf;have HV:=zk hv
  clear hb hw hr hd hf hv;go_wp2;refine bodyPost_ret (v:=agg #[.bool false,slice (some ⟨(w.alloc (.cells #[.bool false,slice none 0 0] 71)).heap.size,0,none⟩) k cap]) (by simp[results,results53,go_sem,z0,z1]) rfl ⟨false,_,k,cap,zaK z,rfl,?_⟩;have hT:=((Turned.refl w.heap.size (w.heap.size+1) w1).set (x:=⟨w.heap.size,0,none⟩) (by first|omega|(simp;done)|(simp;omega)) (by first|omega|(simp;done)|(simp;omega)) (.bool false)).set (x:=⟨w.heap.size,1,none⟩) (by first|omega|(simp;done)|(simp;omega)) (by first|omega|(simp;done)|(simp;omega)) (slice (some ⟨w.heap.size+1,0,none⟩) k cap);refine⟨zL HW.out HW.out.size (by simpa using hT) (le_refl _),HR.out.turned (by simpa using hT) (λa ha=>by cases ha;simp),HD.out,HF.out,hk,(λh=>by cases h),?_,(λh=>by cases h)⟩;exact HV.out
theorem kI0 {w:World} {a v} (h:w.cell? a=some v):(w.cell? a).isSome=true:=by rw[h];rfl
def dn (b:Nat->Nat):Nat->Nat|0=>0|n+1=>dn b n*10+(b n-48)
theorem zjW (ao bo:Option Addr) (n m ca cb:Nat) (f h:Nat->Int) (w:World) (hn:n<=1048576) (hm:m<=1048576) (hmn:m<=n) (hr:Rd .u64 w ao n f) (hs:Rd .u64 w bo m h) (hf:Dg f n) (hh:Dg h m) (hle:vd h m<=vd f n) :
  Calls prog 134 #[slice ao n ca,slice bo m cb] w λe w'=>∃ao' k cap' D,e=returned (slice ao' k cap')/\Bl w w'/\Rd .u64 w' ao' k D/\k<=n/\Dg D k/\Fm D k/\(∀a,ao'=some a->w.heap.size<=a.block)/\vd D k=vd f n-vd h m:=by
 obtain⟨i0,hi,hz0,hz1,hz2⟩:=info_parts zT;have RA:=zk hr;have RB:=zk hs;have DA:=zk hf;have DB:=zk hh;have HLe:=zk hle;clear hr hs hf hh hle;go_enter func134,ntmps134;go_wp2_with(at_make;refine wpList_make_own w rfl (.const (.int .i64 0)) (.tmp 11) 22 rfl w.heap.size 49 i0 (.int .u64 0) 1 underlying22 hi hz0 hz1 .i64 .i64 n n rfl rfl (by omega) (by rw[hz2];omega) (by unfold maxLen;omega) (le_refl _) ?_;intro w1 hown1 hgr1)
 have hb1:Bl w w1:=(Below.refl _ _).grown hgr1 (le_refl _) (λk h=>by cases h);have HO1:=zk (show Own .u64 49 w1 w.heap.size (slice (some ⟨w.heap.size,0,none⟩) 0 n) 0 (λ_=>0)from hown1);clear hown1 hgr1;go_loopw[5,6,15] (λv c t wr=>∃(k:Nat) (cc:Int) (D:Nat->Int),k<=n/\t=.int .i64 k/\c=.int .u64 cc/\0<=cc/\cc<=1/\Bl w wr/\Hid (Own .u64 49 wr w.heap.size v k D)/\Hid (Dg D k)/\Hid (vd D k-cc*pd k=vd f k-vd (ext h m) k)) (λ_ _ t _=>n-(intOf t).toNat)
 case atStart=>exact⟨0,0,λ_=>0,by omega,rfl,rfl,by omega,by omega,hb1,HO1.out,λj hj=>by omega,by simp[Hid,vd,pd]⟩
 case round =>
  clear hb1 HO1;obtain⟨k,cc,D,hk,rfl,rfl,c0,c1,hbel,HO,HDg,HV⟩:=hrel;by_cases hlt:k<n
  ·have hrA:=RA.out;obtain⟨b,o,rfl⟩:=hrA.at (by omega);obtain⟨x,hx⟩:∃x,f k=x:=⟨_,rfl⟩;have hcell:wr.cell? ⟨b,o+k,none⟩=some (.int .u64 x):=by rw[<-hx];exact(hrA.q_ hbel (le_refl _)).cell hlt
   obtain⟨x0,x1⟩:=DA.out k hlt;rw[hx]at x0 x1
   have HX:=zk hx;clear hx hrA;by_cases hlt2:k<m
   ·have hrB:=RB.out;obtain⟨b',o',rfl⟩:=hrB.at (by omega);obtain⟨y,hy⟩:∃y,h k=y:=⟨_,rfl⟩;have hcelb:wr.cell? ⟨b',o'+k,none⟩=some (.int .u64 y):=by rw[<-hy];exact(hrB.q_ hbel (le_refl _)).cell hlt2
    obtain⟨y0,y1⟩:=DB.out k hlt2;rw[hy]at y0 y1
    have HY:=zk (show ext h m k=y from(zap _ _ _ hlt2).trans hy);clear hy hrB;by_cases hxy:x<cc+y
    ·go_wp2_with(at_builtin;refine zD .u64 _ rfl (.tmp 36) (.tmp 40) 22 rfl w.heap.size 49 8 underlying22 zT _ k D rfl (Own.alloc HO.out _) wr.heap.size 0 1 1 (λ_=>x+4294967296-(cc+y)) rfl (zaG wr _ _) ?c1 ?c2 ?c3 ?_)
     case c1=>unfold maxLen;omega
     case c2=>omega
     case c3=>have:=hbel.size;simp;omega
     intro v' w' hown hgr;have hbel2:Bl w w':=(hbel.alloc hbel.size _).grown hgr (by have:=hbel.size;simp;omega) (λk h=>(Own.ge HO.out k h));have HO2:=zk hown;clear hown hgr HO;go_wp2;go_roundw
     case rel=>exact⟨k+1,1,_,by omega,by go_num,rfl,by omega,by omega,hbel2,HO2.out,zbc HDg.out (by omega),zbC HV.out HX.out HY.out (by omega)⟩
     case measure=>simp[intOf];omega
    ·go_wp2_with(at_builtin;refine zD .u64 _ rfl (.tmp 36) (.tmp 40) 22 rfl w.heap.size 49 8 underlying22 zT _ k D rfl (Own.alloc HO.out _) wr.heap.size 0 1 1 (λ_=>x-(cc+y)) rfl (zaG wr _ _) ?c1 ?c2 ?c3 ?_)
     case c1=>unfold maxLen;omega
     case c2=>omega
     case c3=>have:=hbel.size;simp;omega
     intro v' w' hown hgr;have hbel2:Bl w w':=(hbel.alloc hbel.size _).grown hgr (by have:=hbel.size;simp;omega) (λk h=>(Own.ge HO.out k h));have HO2:=zk hown;clear hown hgr HO;go_wp2;go_roundw
     case rel=>exact⟨k+1,0,_,by omega,by go_num,rfl,by omega,by omega,hbel2,HO2.out,zbc HDg.out (by omega),zbC HV.out HX.out HY.out (by omega)⟩
     case measure=>simp[intOf];omega
   ·have HY:=zk (show ext h m k=0 from zav _ _ _ (by omega));by_cases hxy:x<cc
    ·go_wp2_with(at_builtin;refine zD .u64 _ rfl (.tmp 36) (.tmp 40) 22 rfl w.heap.size 49 8 underlying22 zT _ k D rfl (Own.alloc HO.out _) wr.heap.size 0 1 1 (λ_=>x+4294967296-cc) rfl (zaG wr _ _) ?c1 ?c2 ?c3 ?_)
     case c1=>unfold maxLen;omega
     case c2=>omega
     case c3=>have:=hbel.size;simp;omega
     intro v' w' hown hgr;have hbel2:Bl w w':=(hbel.alloc hbel.size _).grown hgr (by have:=hbel.size;simp;omega) (λk h=>(Own.ge HO.out k h));have HO2:=zk hown;clear hown hgr HO;go_wp2;go_roundw
     case rel=>exact⟨k+1,1,_,by omega,by go_num,rfl,by omega,by omega,hbel2,HO2.out,zbc HDg.out (by omega),zbC HV.out HX.out HY.out (by omega)⟩
     case measure=>simp[intOf];omega
    ·go_wp2_with(at_builtin;refine zD .u64 _ rfl (.tmp 36) (.tmp 40) 22 rfl w.heap.size 49 8 underlying22 zT _ k D rfl (Own.alloc HO.out _) wr.heap.size 0 1 1 (λ_=>x-cc) rfl (zaG wr _ _) ?c1 ?c2 ?c3 ?_)
     case c1=>unfold maxLen;omega
     case c2=>omega
     case c3=>have:=hbel.size;simp;omega
     intro v' w' hown hgr;have hbel2:Bl w w':=(hbel.alloc hbel.size _).grown hgr (by have:=hbel.size;simp;omega) (λk h=>(Own.ge HO.out k h));have HO2:=zk hown;clear hown hgr HO;go_wp2;go_roundw
     case rel=>exact⟨k+1,0,_,by omega,by go_num,rfl,by omega,by omega,hbel2,HO2.out,zbc HDg.out (by omega),zbC HV.out HX.out HY.out (by omega)⟩
     case measure=>simp[intOf];omega
  ·have hkn:k=n:=by omega
   subst hkn;obtain⟨ao',cap',hv,hcc,hnn,hml,hrd,hlt3⟩:=HO.out.shape;unfold maxLen at hml;subst hv;have HLT:=zk hlt3;clear HO hlt3;go_wp2_with fail
   refine(zcD ao' k cap' D wr hcc hml hrd hnn).mono ?_;rintro e w2 ⟨rfl,m',hm1,hz,hfm,rfl⟩;have HZ:=zk hz;have HFM:=zk hfm;clear hz hfm;go_wp2;go_ret;refine⟨ao',m',cap',_,rfl,hbel,hrd.take hm1,by omega,HDg.out.mono hm1,HFM.out,λa ha=>(HLT.out a ha).1,?_⟩;have hv:=HV.out;have h1:=zcr HDg.out;have h2:=HLe.out;rw[zbP _ _ _ hmn]at hv
   rw[zaO hm1 HZ.out];by_cases hc:cc=0
   ·subst hc;simpa using hv
   ·obtain rfl:cc=1:=by omega
    omega
theorem zqS (ao bo:Option Addr) (n m ca cb:Nat) (f h:Nat->Int) (w:World) (hn:n<=1048576) (hm:m<=1048576) (hmn:m<=n) (hr:Rd .u64 w ao n f) (hs:Rd .u64 w bo m h) (hf:Dg f n) (hh:Dg h m) (hle:vd h m<=vd f n) :
  Calls prog 134 #[slice ao n ca,slice bo m cb] w λe w'=>∃ao' k cap' D,e=returned (slice ao' k cap')/\Bl w w'/\Rd .u64 w' ao' k D/\k<=n/\Dg D k/\Fm D k/\vd D k=vd f n-vd h m :=
 (zjW ao bo n m ca cb f h w hn hm hmn hr hs hf hh hle).mono (λ_ _ ⟨a,k,c,D,h1,h2,h3,h4,h5,h6,_,h7⟩=>⟨a,k,c,D,h1,h2,h3,h4,h5,h6,h7⟩)
theorem Own.tg {w base ao n cap f} (h:Own .u64 49 w base (.slice ao n cap) n f):Tg w ao:=λa ha=>by
 obtain⟨h1,h2⟩:=h;rcases h2 with⟨hv,_⟩|⟨g,cap',cur,hv,hb,hg,hn,hm,hs,ht⟩
 ·cases hv;cases ha
 ·cases hv;cases ha;exact⟨_,_,hg⟩
theorem kN0 {w:World} {x y t}:(w.alloc (.cells #[x,y] t)).cell? ⟨w.heap.size,0,none⟩=some x:=by simp[go_sem]
theorem kN1 {w:World} {x y t}:(w.alloc (.cells #[x,y] t)).cell? ⟨w.heap.size,1,none⟩=some y:=by simp[go_sem]
theorem kCb {w w' a v} (hb:Bl w w') (h:w.cell? a=some v):w'.cell? a=some v:=(hb.cell (block_lt_of_cell? w a h)).trans h
theorem kBa {w0 w o} (h:Bl w0 w):Bl w0 (w.alloc o):=zu h o
theorem kBb {w0 w w'} (hb:Bl w w') (h:Bl w0 w):Bl w0 w':=bUp h hb
theorem zai {n:Nat} {w w':World} (h:Below n w w':=by repeat(with_reducible first|assumption|exact Below.refl _ _|refine Below.drew ?_|refine kBa ?_|refine kBb (by assumption) ?_)):Below n w w':=h
theorem zaq {n:Nat} {w w':World} (h:Below n w w':=by repeat(with_reducible first|assumption|exact Below.refl _ _|refine Below.drew ?_|refine kBb (by assumption) ?_)):Below n w w':=h
def Bx (w:World) (b:Nat) (s:Bool) (x:Option Addr) (n c:Nat):Prop:=b<w.heap.size/\w.cell? ⟨b,0,none⟩=some (.bool s)/\w.cell? ⟨b,1,none⟩=some (slice x n c)
theorem Bx.q_ {w w' b s x n c} (h:Bx w b s x n c) (hb:Bl w w'):Bx w' b s x n c:=⟨Nat.lt_of_lt_of_le h.1 hb.size,kCb hb h.2.1,kCb hb h.2.2⟩
theorem Bx.alloc {w b s x n c} (h:Bx w b s x n c) (o:Obj):Bx (w.alloc o) b s x n c:=⟨by have:=h.1;simp;omega,kCa h.2.1,kCa h.2.2⟩
theorem zhq {w w':World} {s x n c t} (hb:Below (w.alloc (.cells #[.bool s,slice x n c] t)).heap.size (w.alloc (.cells #[.bool s,slice x n c] t)) w'):Bx w' w.heap.size s x n c :=
 ⟨by have:=hb.size;simp at this;omega,kCb hb kN0,kCb hb kN1⟩
structure Wn (w:World) (s:Bool) (x:Option Addr) (n c:Nat) (f:Nat->Int) (v:Int):Prop where
 rd:Rd .u64 w x n f
 lm:Lm f n
 wf:wfB s f n=true
 cap:n<=c/\c<=9223372036854775807
 nil:x=none->n=0/\c=0
 val:wv s f n=v
theorem Wn.q_ {w w' s x n c f v} (h:Wn w s x n c f v) (hb:Bl w w'):Wn w' s x n c f v:=⟨h.rd.q_ hb (le_refl _),h.lm,h.wf,h.cap,h.nil,h.val⟩
theorem Wn.alloc {w s x n c f v} (h:Wn w s x n c f v) (o:Obj):Wn (w.alloc o) s x n c f v:=⟨h.rd.alloc o,h.lm,h.wf,h.cap,h.nil,h.val⟩
theorem Wn.next {w w' s x n c f v o} (h:Wn w s x n c f v) (hb:Below (w.alloc o).heap.size (w.alloc o) w'):Wn w' s x n c f v:=(h.alloc o).q_ hb
theorem WRes.wn {C w w' s x n c f v} (h:WRes C w w' s x n c f) (hv:wv s f n=v):Wn w' s x n c f v:=⟨h.res.rd,h.res.lm,h.wfB,h.res.ncap,h.res.nil',hv⟩
theorem WAns.ok {P v r k f er} (h:WAns P v r k f er) (hp:P):er=0/\wv r f k=v:=by
 rcases h with⟨_,h1,h2⟩|⟨h1,_⟩
 ·exact⟨h1,h2⟩
 ·exact absurd hp h1
theorem zsF {w s t x y n m c d f g u v} (ha:Wn w s x n c f u) (hb:Wn w t y m d g v) (hn:n<=1048576) (hm:m<=1048576) :
  Calls prog 125 #[agg #[.bool s,slice x n c],agg #[.bool t,slice y m d]] w λe w'=>∃r z k e' h,e=returned (.tuple #[agg #[.bool r,slice z k e'],.int .i64 0])/\Bl w w'/\k<=max n m+1/\Wn w' r z k e' h (u+v):=by
 refine(zmb s t x y n m c d f g w (by omega) (by omega) ha.rd hb.rd ha.lm hb.lm).mono ?_;rintro e w' ⟨r,z,k,e',h,er,rfl,hres,hans⟩;obtain⟨rfl,hv⟩:=hans.ok ⟨ha.wf,hb.wf⟩;exact⟨r,z,k,e',h,rfl,hres.res.bel,hres.res.le,hres.wn (by rw[hv,ha.val,hb.val])⟩
theorem zko {w s t x y n m c d f g u v} (ha:Wn w s x n c f u) (hb:Wn w t y m d g v) (hn:n<=1048576) (hm:m<=1048576) :
  Calls prog 124 #[agg #[.bool s,slice x n c],agg #[.bool t,slice y m d]] w λe w'=>∃r z k e' h,e=returned (.tuple #[agg #[.bool r,slice z k e'],.int .i64 0])/\Bl w w'/\k<=n+m/\Wn w' r z k e' h (u*v):=by
 refine(ziK s t x y n m c d f g w (by omega) (by omega) ha.cap.1 hb.cap.1 ha.cap.2 hb.cap.2 ha.rd hb.rd ha.lm hb.lm).mono ?_;rintro e w' ⟨r,z,k,e',h,er,rfl,hres,hans⟩;obtain⟨rfl,hv⟩:=hans.ok ⟨ha.wf,hb.wf⟩;exact⟨r,z,k,e',h,rfl,hres.res.bel,hres.res.le,hres.wn (by rw[hv,ha.val,hb.val])⟩
def sg (s:Bool) (A:Nat):Int:=if s then -(A:Int) else A
theorem zjU (s:Bool) (A G:Nat) (hG:0<G):(sg s (A*G)).tdiv G=sg s A:=by
 have h:(G:Int)≠0:=by omega
 cases s
 ·show((A*G:Nat):Int).tdiv G=A;rw[Int.natCast_mul];exact Int.mul_tdiv_cancel _ h
 ·show(-((A*G:Nat):Int)).tdiv G=-A;rw[Int.neg_tdiv,Int.natCast_mul,Int.mul_tdiv_cancel _ h]
theorem zfR (s:Bool) (A:Nat):(sg s A).natAbs=A:=by cases s <;> simp[sg]
theorem ziS (s t:Bool) (A B:Nat):sg s A*sg t B=sg (s != t) (A*B):=by
 cases s <;> cases t <;> simp[sg,Int.neg_mul,Int.mul_neg]
theorem zsZ {a b:Rat} {G RA RB L BL S N} (hG:G=a.den.gcd b.den) (hA:RA*G=a.den) (hB:RB*G=b.den) (hS:S=a.num*RB+b.num*RA) (hL:L=S.natAbs.gcd G) (hBL:BL*L=b.den) (hN:N*L=S) :
  (a+b).num=N/\(a+b).den=RA*BL:=by
 have hG0:0<G:=by rw[hG];exact Nat.gcd_pos_of_pos_left _ a.den_pos
 have hL0:0<L:=by rw[hL];exact Nat.gcd_pos_of_pos_right _ hG0
 have eA:a.den/G=RA:=by rw[<-hA];exact Nat.mul_div_cancel _ hG0
 have eB:b.den/G=RB:=by rw[<-hB];exact Nat.mul_div_cancel _ hG0
 have e1:(a+b)=Rat.add a b:=rfl;rw[e1];unfold Rat.add;simp only[<-hG,eA,eB]
 split
 ·next h1 =>
  have hL1:L=1:=by rw[hL,h1];simp
  have:RA=a.den:=by rw[<-hA,h1];simp
  have h2:RB=b.den:=by rw[<-hB,h1];simp
  have h3:BL=b.den:=by rw[<-hBL,hL1];simp
  have h4:N=S:=by rw[<-hN,hL1];simp
  subst this;subst h2;subst h3
  exact⟨by rw[h4,hS],rfl⟩
 ·rw[Rat.maybeNormalize_eq];have e2:(a.num*(RB:Int)+b.num*(RA:Int)).natAbs.gcd G=L:=by rw[hL,hS]
  refine⟨?_,?_⟩
  ·simp only[e2];rw[Int.divExact_eq_tdiv];rw[<-hS,<-hN];exact Int.mul_tdiv_cancel _ (by omega)
  ·simp only[e2];rw[<-hBL,<-Nat.mul_assoc];exact Nat.mul_div_cancel _ hL0
theorem zsX {a b:Rat} {s t G H NA NB DA DB} (ha:a.num=sg s (NA*G)) (hb:b.num=sg t (NB*H)) (hG:G=a.num.natAbs.gcd b.den) (hH:H=b.num.natAbs.gcd a.den) (h3:DA*H=a.den) (h4:DB*G=b.den) :
  (a*b).num=sg (s != t) (NA*NB)/\(a*b).den=DA*DB:=by
 have hG0:0<G:=by rw[hG];exact Nat.gcd_pos_of_pos_right _ b.den_pos
 have hH0:0<H:=by rw[hH];exact Nat.gcd_pos_of_pos_right _ a.den_pos
 have e1:(a*b)=Rat.mul a b:=rfl;rw[e1];unfold Rat.mul;simp only[<-hG,<-hH,Int.divExact_eq_tdiv,Nat.divExact_eq_div];refine⟨?_,?_⟩
 ·rw[ha,hb,zjU _ _ _ hG0,zjU _ _ _ hH0,ziS]
 ·rw[<-h3,<-h4,Nat.mul_div_cancel _ hG0,Nat.mul_div_cancel _ hH0]
theorem zsY {b:Rat} {t B} (hb:b.num=sg t B) (h0:0<B):(b⁻¹).num=sg t b.den/\(b⁻¹).den=B:=by
 have e1:b⁻¹=Rat.inv b:=rfl;rw[e1];unfold Rat.inv;cases t
 ·have h1:b.num=B:=hb;rw[dif_neg (by omega),dif_pos (by omega)];exact⟨rfl,by show b.num.natAbs=B;omega⟩
 ·have h1:b.num=-(B:Int):=hb;rw[dif_pos (by omega)];exact⟨rfl,by show b.num.natAbs=B;omega⟩
theorem zse {s t NA NB G} (hB:0<NB*G) (hG:G=(NA*G).gcd (NB*G)) :
  (((sg s (NA*G):Int):Rat)/(sg t (NB*G):Int)).num=sg (s != t) NA/\(((sg s (NA*G):Int):Rat)/(sg t (NB*G):Int)).den=NB:=by
 have hNB:0<NB:=Nat.pos_of_mul_pos_right hB;have hG0:0<G:=Nat.pos_of_mul_pos_left hB;have hc:(sg (s != t) NA).natAbs.Coprime NB:=by
  have h1:(sg (s != t) NA).natAbs=NA:=by cases s <;> cases t <;> simp[sg]
  rw[h1];have:NA.gcd NB*G=G:=by rw[<-Nat.gcd_mul_right];exact hG.symm
  exact Nat.eq_of_mul_eq_mul_right hG0 (by rw[this,Nat.one_mul])
 have h2:((sg s (NA*G):Int):Rat)/(sg t (NB*G):Int)=⟨sg (s != t) NA,NB,by omega,hc⟩:=by
  rw[Rat.mk_eq_divInt,<-Rat.divInt_eq_div,Rat.divInt_eq_divInt_iff]
  ·cases s <;> cases t <;> simp[sg] <;> grind
  ·cases t <;> simp[sg] <;> omega
  ·omega
 rw[h2];exact⟨rfl,rfl⟩
def stU (odd:Bool) (a0 b0 A B:Int):Int:=if odd then b0*B-a0*A else a0*A-b0*B
def stV (odd:Bool) (a1 b1 A B:Int):Int:=if odd then a1*A-b1*B else b1*B-a1*A
def Cd (u v A B:Int):Prop:=∀d:Int,(d ∣ u/\d ∣ v) ↔ (d ∣ A/\d ∣ B)
theorem Cd.refl (A B:Int):Cd A B A B:=λ_=>Iff.rfl
theorem Cd.step {u v A B} (h:Cd u v A B) (q:Int):Cd v (u-q*v) A B:=λd=>by
 rw[<-h d];constructor
 ·rintro⟨h1,h2⟩;refine⟨?_,h1⟩;have:=Int.dvd_add h2 (Int.dvd_mul_of_dvd_right (b:=q) h1)
  rwa[Int.sub_add_cancel]at this
 ·rintro⟨h1,h2⟩;exact⟨h2,Int.dvd_sub h1 (Int.dvd_mul_of_dvd_right (b:=q) h2)⟩
theorem Cd.trans {u v A B C D} (h:Cd u v A B) (k:Cd A B C D):Cd u v C D:=λd=>(h d).trans (k d)
def Led (odd:Bool) (a0 b0 a1 b1 x y:Int):Prop:=∀T ra rb:Int,0<=ra->ra<T->0<=rb->rb<T ->
 0<=stV odd a1 b1 (x*T+ra) (y*T+rb)/\stV odd a1 b1 (x*T+ra) (y*T+rb)<stU odd a0 b0 (x*T+ra) (y*T+rb)/\stU odd a0 b0 (x*T+ra) (y*T+rb)<=y*T+rb/\Cd (stU odd a0 b0 (x*T+ra) (y*T+rb)) (stV odd a1 b1 (x*T+ra) (y*T+rb)) (x*T+ra) (y*T+rb)
structure Lh (odd:Bool) (a b a0 b0 a1 b1 x y:Int):Prop where
 a_0:0<=a
 b_0:0<=b
 ua:a=stU odd a0 b0 x y
 ub:b=stV odd a1 b1 x y
 top:x=b1*a+b0*b
 p0:0<=a0
 p1:0<=b0
 p2:0<=a1
 p3:1<=b1
 st:(odd=false/\a0=1/\b0=0/\a1=0/\b1=1)∨(a0<=b0/\a1<=b1/\1<=b0/\b1<=b/\b<a/\Led odd a0 b0 a1 b1 x y)
theorem znr {x y} (hx:0<=x) (hy:0<=y):Lh false x y 1 0 0 1 x y :=
 ⟨hx,hy,by simp[stU],by simp[stV],by omega,by omega,by omega,by omega,by omega,.inl ⟨rfl,rfl,rfl,rfl,rfl⟩⟩
theorem zhD {odd a1 b1 A B}:stU (!odd) a1 b1 A B=stV odd a1 b1 A B:=by cases odd <;> simp[stU,stV]
theorem zfb {odd a0 b0 a1 b1 q A B}:stV (!odd) (a0+q*a1) (b0+q*b1) A B=stU odd a0 b0 A B-q*stV odd a1 b1 A B:=by
 cases odd <;> simp only[stU,stV,Bool.not_false,Bool.not_true,if_true,if_false,Bool.false_eq_true] <;> grind
theorem zjQ {odd a1 b1 x y T ra rb} (h0:0<=a1) (h1:a1<=b1) (r0:0<=ra) (r1:ra<T) (s0:0<=rb) (s1:rb<T) :
  stV odd a1 b1 x y*T-b1*(T-1)<=stV odd a1 b1 (x*T+ra) (y*T+rb)/\stV odd a1 b1 (x*T+ra) (y*T+rb)<=stV odd a1 b1 x y*T+b1*(T-1):=by
 have m1:0<=a1*ra:=mul_nonneg h0 r0;have m2:0<=b1*rb:=mul_nonneg (by omega) s0;have m3:a1*ra<=b1*ra:=Int.mul_le_mul_of_nonneg_right h1 r0;have m4:b1*ra<=b1*(T-1):=Int.mul_le_mul_of_nonneg_left (by omega) (by omega);have m5:b1*rb<=b1*(T-1):=Int.mul_le_mul_of_nonneg_left (by omega) (by omega);cases odd
 ·have e:stV false a1 b1 (x*T+ra) (y*T+rb)=stV false a1 b1 x y*T+b1*rb-a1*ra:=by simp only[stV,Bool.false_eq_true,if_false];grind
  rw[e];omega
 ·have e:stV true a1 b1 (x*T+ra) (y*T+rb)=stV true a1 b1 x y*T+a1*ra-b1*rb:=by simp only[stV,if_true];grind
  rw[e];omega
theorem zpw {odd a b a0 b0 a1 b1 x y} (h:Lh odd a b a0 b0 a1 b1 x y) (hxy:y<=x) (hb:0<b) (c1:b0+a/b*b1<=a-a/b*b) (c2:b1+(b0+a/b*b1)<=b-(a-a/b*b)) :
  Lh (!odd) b (a-a/b*b) a1 b1 (a0+a/b*a1) (b0+a/b*b1) x y:=by
 obtain⟨q,hq⟩:∃q,a/b=q:=⟨_,rfl⟩;rw[hq]at c1 c2 ⊢
 have hq0:0<=q:=by rw[<-hq];exact Int.ediv_nonneg h.a_0 h.b_0
 have hr0:0<=a-q*b:=by
  have:=Int.emod_nonneg a (show b≠0 by omega);have e:=Int.mul_ediv_add_emod a b
  rw[hq,mul_comm]at e;omega
 have hb1:0<=q*b1:=mul_nonneg hq0 (by have:=h.p3;omega);have ha1:0<=q*a1:=mul_nonneg hq0 h.p2;have p0:=h.p0;have p1:=h.p1;have p2:=h.p2;have p3:=h.p3
 have hua:=h.ua;have hub:=h.ub;have htop:=h.top
 -- the quotient is not 0 at the first step
 have hmono:a0+q*a1<=b0+q*b1/\a1<=b1:=by
  rcases h.st with⟨rfl,rfl,rfl,rfl,rfl⟩|⟨s1,s2,_,_,_,_⟩
  ·have ea:a=x:=by rw[hua];simp[stU]
   have eb:b=y:=by rw[hub];simp[stV]
   have:1<=q:=by rw[<-hq];exact(Int.le_ediv_iff_mul_le hb).2 (by omega)
   omega
  ·have:q*a1<=q*b1:=Int.mul_le_mul_of_nonneg_left s2 hq0;omega
 have hb1':1<=b0+q*b1:=by
  rcases h.st with⟨rfl,rfl,rfl,rfl,rfl⟩|⟨s1,s2,s3,_,_,_⟩
  ·omega
  ·omega
 refine⟨h.b_0,hr0,?_,?_,?_,p2,by omega,by omega,hb1',.inr ⟨hmono.2,hmono.1,p3,c1,by omega,?_⟩⟩
 ·rw[zhD];exact hub
 ·rw[zfb,<-hua,<-hub]
 ·rw[htop];grind
 ·intro T ra rb r0 r1 s0 s1;have hV:stV (!odd) (a0+q*a1) (b0+q*b1) x y=a-q*b:=by rw[zfb,<-hua,<-hub]
  have lo:=zjQ (odd:=!odd) (x:=x) (y:=y) (by omega) hmono.1 r0 r1 s0 s1;have lo2:=zjQ (odd:=odd) (x:=x) (y:=y) p2 hmono.2 r0 r1 s0 s1;rw[hV]at lo
  rw[<-hub]at lo2
  have hT:1<=T:=by omega
  have k1:(b0+q*b1)*T<=(a-q*b)*T:=Int.mul_le_mul_of_nonneg_right c1 (by omega);have k2:(b1+(b0+q*b1))*T<=(b-(a-q*b))*T:=Int.mul_le_mul_of_nonneg_right c2 (by omega);have x1:(b0+q*b1)*(T-1)=(b0+q*b1)*T-(b0+q*b1):=by rw[Int.mul_sub,Int.mul_one]
  have x2:b1*(T-1)=b1*T-b1:=by rw[Int.mul_sub,Int.mul_one]
  have x3:(b1+(b0+q*b1))*T=b1*T+(b0+q*b1)*T:=by rw[add_mul]
  have x4:(b-(a-q*b))*T=b*T-(a-q*b)*T:=by rw[Int.sub_mul]
  rw[zhD];refine⟨by omega,by omega,?_,?_⟩
  ·rcases h.st with⟨rfl,rfl,rfl,rfl,rfl⟩|⟨_,_,_,_,_,hl⟩
   ·simp[stV]
   ·obtain⟨_,l2,l3,_⟩:=hl T ra rb r0 r1 s0 s1;omega
  ·rw[zfb];refine Cd.step ?_ q;rcases h.st with⟨rfl,rfl,rfl,rfl,rfl⟩|⟨_,_,_,_,_,hl⟩
   ·simp only[stU,stV,Bool.false_eq_true,if_false];have e1:1*(x*T+ra)-0*(y*T+rb)=x*T+ra:=by omega
    have e2:1*(y*T+rb)-0*(x*T+ra)=y*T+rb:=by omega
    rw[e1,e2];exact Cd.refl _ _
   ·exact(hl T ra rb r0 r1 s0 s1).2.2.2
theorem zpy {odd a b a0 b0 a1 b1 x y} (h:Lh odd a b a0 b0 a1 b1 x y) (hxy:y<=x) (hb:0<b):b0+a/b*b1<=x/\a0+a/b*a1<=x/\0<=a/b*a1/\0<=a/b*b1/\(0<a-a/b*b->b1+(b0+a/b*b1)<=x)/\1<=b0+a/b*b1:=by
 obtain⟨q,hq⟩:∃q,a/b=q:=⟨_,rfl⟩;rw[hq];have hq0:0<=q:=by rw[<-hq];exact Int.ediv_nonneg h.a_0 h.b_0
 have hr0:0<=a-q*b:=by
  have:=Int.emod_nonneg a (show b≠0 by omega);have e:=Int.mul_ediv_add_emod a b
  rw[hq,mul_comm]at e;omega
 have p0:=h.p0;have p1:=h.p1;have p2:=h.p2;have p3:=h.p3
 have hb1:0<=q*b1:=mul_nonneg hq0 (by omega);have ha1:0<=q*a1:=mul_nonneg hq0 h.p2;have e:x=(b0+q*b1)*b+b1*(a-q*b):=by rw[h.top];grind
 have f1:(b0+q*b1)*1<=(b0+q*b1)*b:=Int.mul_le_mul_of_nonneg_left (by omega) (by omega);have f2:0<=b1*(a-q*b):=mul_nonneg (by omega) hr0;refine⟨by omega,?_,ha1,hb1,λhp=>?_,?_⟩
 ·rcases h.st with⟨rfl,rfl,rfl,rfl,rfl⟩|⟨s1,s2,_,_,_,_⟩
  ·have eb:b=y:=by rw[h.ub];simp[stV]
   omega
  ·have:q*a1<=q*b1:=Int.mul_le_mul_of_nonneg_left s2 hq0;omega
 ·have f3:b1*1<=b1*(a-q*b):=Int.mul_le_mul_of_nonneg_left (by omega) (by omega);omega
 ·rcases h.st with⟨rfl,rfl,rfl,rfl,rfl⟩|⟨s1,s2,s3,_,_,_⟩
  ·have ea:a=x:=by rw[h.ua];simp[stU]
   have eb:b=y:=by rw[h.ub];simp[stV]
   have:1<=q:=by rw[<-hq];exact(Int.le_ediv_iff_mul_le hb).2 (by omega)
   omega
  ·omega
theorem zpx {odd a b a0 b0 a1 b1 x y} (h:Lh odd a b a0 b0 a1 b1 x y) (hb0:b0≠0):Led odd a0 b0 a1 b1 x y/\a0+2<=x/\b0+2<=x/\a1+2<=x/\b1+2<=x:=by
 rcases h.st with⟨_,_,h0,_⟩|⟨s1,s2,s3,s4,s5,hl⟩
 ·exact absurd h0 hb0
 ·have p3:=h.p3;have p1:=h.p1
  have e:=h.top;have m1:b1*2<=b1*a:=Int.mul_le_mul_of_nonneg_left (by omega) (by omega);have m2:b0*1<=b0*b:=Int.mul_le_mul_of_nonneg_left (by omega) (by omega);exact⟨hl,by omega,by omega,by omega,by omega⟩
theorem zpz {odd a b a0 b0 a1 b1 x y} (h:Lh odd a b a0 b0 a1 b1 x y):0<=a0/\0<=b0/\0<=a1/\0<=b1:=⟨h.p0,h.p1,h.p2,by have:=h.p3;omega⟩
def SB (w:World) (g:Nat) (a0 b0 a1 b1:Int) (odd:Bool):Prop:=w.heap[g]?=some (.cells #[.int .u64 a0,.int .u64 b0,.int .u64 a1,.int .u64 b1,.bool odd] 197 (0,0))
theorem SB.cells {w g a0 b0 a1 b1 odd} (h:SB w g a0 b0 a1 b1 odd):w.cell? ⟨g,0,none⟩=some (.int .u64 a0)/\w.cell? ⟨g,1,none⟩=some (.int .u64 b0)/\w.cell? ⟨g,2,none⟩=some (.int .u64 a1)/\w.cell? ⟨g,3,none⟩=some (.int .u64 b1)/\w.cell? ⟨g,4,none⟩=some (.bool odd):=by
 unfold SB at h;simp[World.cell?,h]
theorem SB.frozen {w g a0 b0 a1 b1 odd} (h:SB w g a0 b0 a1 b1 odd) (j:Nat):w.frozen? ⟨g,j,none⟩=false:=by
 unfold SB at h;simp[World.frozen?,h]
theorem SB.lt {w g a0 b0 a1 b1 odd} (h:SB w g a0 b0 a1 b1 odd):g<w.heap.size:=(Array.getElem?_eq_some_iff.1 h).1
theorem SB.q_ {w w' g a0 b0 a1 b1 odd} (h:SB w g a0 b0 a1 b1 odd) (hb:Bl w w'):SB w' g a0 b0 a1 b1 odd:=(hb.block g h.lt).trans h
theorem SB.set5 {w g a0 b0 a1 b1 odd} (h:SB w g a0 b0 a1 b1 odd) (c0 d0 c1 d1:Int) (o:Bool):SB (((((w.setCell ⟨g,0,none⟩ (.int .u64 c0)).setCell ⟨g,1,none⟩ (.int .u64 d0)).setCell ⟨g,2,none⟩ (.int .u64 c1)).setCell ⟨g,3,none⟩ (.int .u64 d1)).setCell ⟨g,4,none⟩ (.bool o)) g c0 d0 c1 d1 o:=by
 unfold SB at h ⊢;simp[World.setCell,Array.getElem?_modify,h]
theorem zcS (w:World) (g:Nat) (u0 u1 u2 u3 u4:Value):Only g w (((((w.setCell ⟨g,0,none⟩ u0).setCell ⟨g,1,none⟩ u1).setCell ⟨g,2,none⟩ u2).setCell ⟨g,3,none⟩ u3).setCell ⟨g,4,none⟩ u4) :=
 (((((Only.refl _ _).setCell _ _ _).setCell _ _ _).setCell _ _ _).setCell _ _ _).setCell _ _ _
def zsL (w w':World) (e:Ending) (x y:Int):Prop:=Bl w w'/\∃a0 b0 a1 b1 odd a b,e=returned (agg #[.int .u64 a0,.int .u64 b0,.int .u64 a1,.int .u64 b1,.bool odd])/\Lh odd a b a0 b0 a1 b1 x y/\b0<=x/\a0<=x/\a1<=x/\b1<=x
theorem zic (x y:Int) (w:World) (y0:0<=y) (hyx:y<=x) (x0:1<=x) (x1:x<18446744073709551616) :
  Calls prog 171 #[.int .u64 x,.int .u64 y] w λe w'=>zsL w w' e x y:=by
 go_enter func171,ntmps171;go_wp2;go_loopw[0,1] (λc d wr=>∃(a b a0 b0 a1 b1:Int) (odd:Bool),c=.int .u64 a/\d=.int .u64 b/\0<=a/\a<=x/\0<=b/\b<=x/\Bl w wr/\Hid (SB wr w.heap.size 0 0 0 0 false)/\Hid (SB wr (w.heap.size+1) a0 b0 a1 b1 odd)/\Hid (Lh odd a b a0 b0 a1 b1 x y)/\Hid (b0<=x/\a0<=x/\a1<=x/\b1<=x)) (λ_ d _=>(intOf d).toNat)
 case atStart =>
  refine⟨x,y,1,0,0,1,false,rfl,rfl,by omega,by omega,by omega,by omega,((Below.refl _ _).alloc (le_refl _) _).alloc (by simp) _,?_,?_,znr (by omega) y0,?_⟩
  ·exact Below.heap_alloc _ _ _ (by simp) |>.trans (heap_alloc_new w _)
  ·show _=_;have:=heap_alloc_new (w.alloc (.cells #[.int .u64 0,.int .u64 0,.int .u64 0,.int .u64 0,.bool false] 197)) (.cells #[.int .u64 1,.int .u64 0,.int .u64 0,.int .u64 1,.bool false] 197);simpa using this
  ·show _/\_/\_/\_;omega
 case round =>
  obtain⟨a,b,a0,b0,a1,b1,odd,rfl,rfl,ha0,hax,hb0,hbx,hbel,HG,HS,HL,HX⟩:=hrel;obtain⟨s0,s1,s2,s3,s4⟩:=HS.out.cells;obtain⟨r0,r1,r2,r3,r4⟩:=HG.out.cells;have fz:=HS.out.frozen;have fr:=HG.out.frozen;have alS:∀o,SB (wr.alloc o) (w.heap.size+1) a0 b0 a1 b1 odd:=λo=>HS.out.q_ ((Below.refl _ _).alloc (le_refl _) o)
  have alG:∀o,SB (wr.alloc o) w.heap.size 0 0 0 0 false:=λo=>HG.out.q_ ((Below.refl _ _).alloc (le_refl _) o)
  have sa0:=λo=>(alS o).cells.1
  have sa1:=λo=>(alS o).cells.2.1
  have sa2:=λo=>(alS o).cells.2.2.1
  have sa3:=λo=>(alS o).cells.2.2.2.1
  have sa4:=λo=>(alS o).cells.2.2.2.2
  have ga0:=λo=>(alG o).cells.1
  have ga1:=λo=>(alG o).cells.2.1
  have ga2:=λo=>(alG o).cells.2.2.1
  have ga3:=λo=>(alG o).cells.2.2.2.1
  have ga4:=λo=>(alG o).cells.2.2.2.2
  have fza:=λo=>(alS o).frozen
  have fra:=λo=>(alG o).frozen
  have ltS:=HS.out.lt;clear alS alG;by_cases hbz:b=0
  ·subst hbz;go_wp2;obtain⟨t0,t1,t2,t3,t4⟩:=(HG.out.set5 a0 b0 a1 b1 odd).cells;refine bodyPost_ret (v:=agg #[.int .u64 a0,.int .u64 b0,.int .u64 a1,.int .u64 b1,.bool odd]) (by simp[results,results171,go_sem,t0,t1,t2,t3,t4]) rfl ⟨?_,a0,b0,a1,b1,odd,_,_,rfl,HL.out,HX.out⟩;exact zV hbel (zcS _ _ _ _ _ _ _) (le_refl _) hbel.size
  ·have hbp:0<b:=by omega
   have hbb:(b != 0)=true:=by simp[hbz]
   obtain⟨m1,m2,m3,m4,m5,m6⟩:=zpy HL.out hyx hbp;have cstep:=zpw HL.out hyx hbp;obtain⟨q,hq⟩:∃q,a/b=q:=⟨_,rfl⟩;have hq0:0<=q:=by rw[<-hq];exact Int.ediv_nonneg ha0 hb0
   have hpr:0<=a-q*b/\a-q*b<b/\0<=q*b:=by
    have e1:=Int.emod_nonneg a hbz;have e2:=Int.emod_lt_of_pos a hbp;have e:=Int.mul_ediv_add_emod a b
    rw[hq,mul_comm]at e
    exact⟨by omega,by omega,mul_nonneg hq0 hb0⟩
   rw[hq]at m1 m2 m3 m4 m5 m6 cstep
   obtain⟨p,hp⟩:∃p,q*b=p:=⟨_,rfl⟩;obtain⟨qa,hqa⟩:∃p,q*a1=p:=⟨_,rfl⟩;obtain⟨qb,hqb⟩:∃p,q*b1=p:=⟨_,rfl⟩;rw[hp]at hpr m5 cstep
   rw[hqa]at m2 m3 cstep
   rw[hqb]at m1 m4 m5 m6 cstep
   obtain⟨p1,p2,p3⟩:=hpr;obtain⟨l0,l1,l2,l3⟩:=(⟨HL.out.p0,HL.out.p1,HL.out.p2,HL.out.p3⟩:0<=a0/\0<=b0/\0<=a1/\1<=b1);obtain⟨z1,z2,z3,z4⟩:=HX.out;have CS:=zk cstep;have M5:=zk m5;clear cstep m5;by_cases c1:a-p<b0+qb
   ·have c1b:decide (a-p<b0+qb)=true:=by simp[c1]
    go_wp2;obtain⟨t0,t1,t2,t3,t4⟩:=((HG.out.q_ ((Below.refl _ _).alloc (le_refl _) (.cells #[.int .u64 a1,.int .u64 b1,.int .u64 (a0+qa),.int .u64 (b0+qb),.bool !odd] 197))).set5 a0 b0 a1 b1 odd).cells;refine bodyPost_ret (v:=agg #[.int .u64 a0,.int .u64 b0,.int .u64 a1,.int .u64 b1,.bool odd]) (by simp[results,results171,go_sem,t0,t1,t2,t3,t4]) rfl ⟨?_,a0,b0,a1,b1,odd,_,_,rfl,HL.out,HX.out⟩;exact zV (hbel.alloc hbel.size _) (zcS _ _ _ _ _ _ _) (le_refl _) (by have:=hbel.size;simp;omega)
   ·have c1b:decide (a-p<b0+qb)=false:=by simp;omega
    have hm5:=M5.out (by omega);by_cases c2:b-(a-p)<b1+(b0+qb)
    ·have c2b:decide (b-(a-p)<b1+(b0+qb))=true:=by simp[c2]
     go_wp2;obtain⟨t0,t1,t2,t3,t4⟩:=((HG.out.q_ ((Below.refl _ _).alloc (le_refl _) (.cells #[.int .u64 a1,.int .u64 b1,.int .u64 (a0+qa),.int .u64 (b0+qb),.bool !odd] 197))).set5 a0 b0 a1 b1 odd).cells;refine bodyPost_ret (v:=agg #[.int .u64 a0,.int .u64 b0,.int .u64 a1,.int .u64 b1,.bool odd]) (by simp[results,results171,go_sem,t0,t1,t2,t3,t4]) rfl ⟨?_,a0,b0,a1,b1,odd,_,_,rfl,HL.out,HX.out⟩;exact zV (hbel.alloc hbel.size _) (zcS _ _ _ _ _ _ _) (le_refl _) (by have:=hbel.size;simp;omega)
    ·have c2b:decide (b-(a-p)<b1+(b0+qb))=false:=by simp;omega
     have NX:=zk (CS.out (by omega) (by omega));go_wp2
     go_region
     all_goals
      go_wp2;go_roundw
      case rel =>
       have o1:Only (w.heap.size+1) wr _:=zcS wr (w.heap.size+1) (.int .u64 a1) (.int .u64 b1) (.int .u64 (a0+qa)) (.int .u64 (b0+qb)) (.bool !odd);have b1':=zV hbel o1 (by omega) hbel.size;refine⟨b,a-p,a1,b1,a0+qa,b0+qb,!odd,rfl,rfl,by omega,by omega,by omega,by omega,(b1'.alloc b1'.size _).drew,?_,?_,NX.out,?_⟩
       ·exact(show SB _ _ _ _ _ _ _ from(o1.block _ HG.out.lt (by omega)).trans HG.out).q_ ((Below.refl _ _).alloc (le_refl _) _).drew
       ·exact(HS.out.set5 a1 b1 (a0+qa) (b0+qb) (!odd)).q_ ((Below.refl _ _).alloc (le_refl _) _).drew
       ·show _/\_/\_/\_;omega
      case measure=>simp[intOf];omega
theorem znV (h l s:Int) (h0:0<=h) (l0:0<=l) (l1:l<18446744073709551616) (s0:0<=s) (s1:s<=63) (hh:h<2^(64-s).toNat) :
  ∃H D Z,IntKind.u64.wrap (h*2^s.toNat)=H/\0<=H/\H<18446744073709551616/\l/2^(64-s).toNat=D/\0<=D/\D<18446744073709551616/\bits BinOp.or .u64 H D=Z/\0<=Z/\Z<18446744073709551616/\Hid (h*18446744073709551616+l=Z*2^(64-s).toNat+l%2^(64-s).toNat):=by
 have hPQ:(2:Int)^s.toNat*2^(64-s).toNat=18446744073709551616:=by rw[<-Int.pow_add,show s.toNat+(64-s).toNat=64 by omega];rfl
 have p0:(0:Int)<2^s.toNat:=pow_pos (by decide);have q0:(0:Int)<2^(64-s).toNat:=pow_pos (by decide);obtain⟨P,hP⟩:∃P:Int,2^s.toNat=P:=⟨_,rfl⟩;obtain⟨Q,hQ⟩:∃Q:Int,2^(64-s).toNat=Q:=⟨_,rfl⟩;have d1:l/Q<P:=Int.ediv_lt_of_lt_mul (by omega) (by rw[<-hP,<-hQ,hPQ];exact l1);have d0:0<=l/Q:=Int.ediv_nonneg l0 (by omega);have h1:(h+1)*P<=Q*P:=Int.mul_le_mul_of_nonneg_right (by omega) (by omega);have hPQ':Q*P=18446744073709551616:=by rw[<-hP,<-hQ,mul_comm];exact hPQ
 have hP0:0<=h*P:=mul_nonneg h0 (by omega);rw[add_mul,one_mul,hPQ']at h1
 have hPle:P<=18446744073709551616:=by omega
 have hw:IntKind.u64.wrap (h*2^s.toNat)=h*P:=by rw[hP,IntKind.wrap_u64];omega
 refine⟨_,_,h*P+l/Q,hw,hP0,by omega,rfl,by rw[hQ];exact d0,by rw[hQ];omega,?_,?_,?_,?_⟩
 ·rw[hQ];exact bits_join .u64 64 (by decide) zbX s.toNat _ _ hP0 (by rw[hP];exact Int.mul_emod_left _ _) (by omega) d0 (by rw[hP];exact d1) (by omega)
 ·omega
 ·omega
 ·show _=_;rw[hQ];have e:=Int.mul_ediv_add_emod l Q;rw[add_mul,Int.mul_assoc,mul_comm P Q,hPQ',mul_comm (l/Q) Q];omega
theorem zfC (ao:Option Addr) (n cap k:Nat) (z:Int) (f:Nat->Int) (s:Int) (w:World) (hn:n<=140737488355328) (hk:k+1<=140737488355328) (hz:z=(k:Int)+1) (hr:Rd .u64 w ao n f) (hf:Lm f n) (s0:0<=s) (s1:s<=63) (hh:ext f n (k+1)<2^(64-s).toNat) :
  ∃Z,0<=Z/\Z<18446744073709551616/\ext f n (k+1)*18446744073709551616+ext f n k=Z*2^(64-s).toNat+ext f n k%2^(64-s).toNat/\Calls prog 185 #[slice ao n cap,.int .i64 z,.int .i64 s] w λe w'=>e=returned (.int .u64 Z)/\∃q,w'=w.drewN q:=by
 have lm:∀j,0<=ext f n j/\ext f n j<18446744073709551616:=λj=>by
  by_cases hj:j<n
  ·rw[zap _ _ _ hj];exact hf j hj
  ·rw[zav _ _ _ (by omega)];omega
 have C1:=zk (λW (h:Rd .u64 W ao n f)=>zhW ao n cap f (k+1) W hn hk h);have C2:=zk (λW (h:Rd .u64 W ao n f)=>zhW ao n cap f k W hn (by omega) h);obtain⟨x,hx⟩:∃x,ext f n (k+1)=x:=⟨_,rfl⟩;obtain⟨y,hy⟩:∃y,ext f n k=y:=⟨_,rfl⟩;have lx:=lm (k+1);have ly:=lm k
 rw[hx]at lx hh C1 ⊢
 rw[hy]at ly C2 ⊢
 obtain⟨H,D,Z,e1,H0,H1,e2,D0,D1,e3,Z0,Z1,HZ⟩:=znV x y s lx.1 ly.1 ly.2 s0 s1 hh;refine⟨Z,Z0,Z1,HZ.out,?_⟩;have HR:=zk hr;obtain⟨x0,x1⟩:=lx;obtain⟨y0,y1⟩:=ly;have z0:1<=z:=by omega
 have z1:z<=140737488355328:=by omega
 have C3:=C2;rw[show((k+1:Nat):Int)=z by omega]at C1
 rw[show((k:Nat):Int)=z-1 by omega]at C3
 have C4:=C3;rw[show z-1=IntKind.i64.wrap (z-1) by rw[IntKind.wrap_i64];omega]at C4
 have D1:=zk (λq=>(C1.out (w.drewN q) (show Rd .u64 (w.drewN q) ao n f from hr)).mono (R':=λe w''=>e=returned (.int .u64 x)/\∃n,w''=w.drewN n) (λ_ _ h=>⟨h.1,_,h.2⟩));have D3:=zk (λq=>(C3.out (w.drewN q) (show Rd .u64 (w.drewN q) ao n f from hr)).mono (R':=λe w''=>e=returned (.int .u64 y)/\∃n,w''=w.drewN n) (λ_ _ h=>⟨h.1,_,h.2⟩));have D4:=zk (λq=>(C4.out (w.drewN q) (show Rd .u64 (w.drewN q) ao n f from hr)).mono (R':=λe w''=>e=returned (.int .u64 y)/\∃n,w''=w.drewN n) (λ_ _ h=>⟨h.1,_,h.2⟩));clear hr hf lm hx hy hh hz C2 hk C1 C3 C4;go_enter func185,ntmps185;go_wp2
 go_quiet (first|(go_at_call 194;with_reducible exact D1.out _)|(go_at_call 194;with_reducible exact D3.out _)|(go_at_call 194;with_reducible exact D4.out _))
 go_wp2;go_ret;exact⟨rfl,_,rfl⟩
theorem zny {g k Z Q} (hl:Lm g (k+2)) (q0:0<Q) (he:g (k+1)*18446744073709551616+g k=Z*Q+g k%Q) :
  vf g (k+2)=Z*(Q*pw k)+(g k%Q*pw k+vf g k)/\0<=g k%Q*pw k+vf g k/\g k%Q*pw k+vf g k<Q*pw k:=by
 have r0:=Int.emod_nonneg (g k) (show Q≠0 by omega);have r1:=Int.emod_lt_of_pos (g k) q0;have v0:=zz (hl.mono (m:=k) (by omega));have v1:=zar (hl.mono (m:=k) (by omega));have p0:=zab k;have m0:0<=g k%Q*pw k:=mul_nonneg r0 (by omega);have m1:(g k%Q+1)*pw k<=Q*pw k:=Int.mul_le_mul_of_nonneg_right (by omega) (by omega);rw[add_mul,one_mul]at m1
 refine⟨?_,by omega,by omega⟩;rw[zrX,he];grind
theorem zqL {f g k} (hf:Lm f (k+1)) (hg:Lm g (k+1)) (h:vf g (k+1)<=vf f (k+1)):g k<=f k:=by
 apply Int.le_of_lt_add_one;have a1:=zar (hf.mono (m:=k) (by omega));have a2:=zz (hg.mono (m:=k) (by omega))
 rw[zI,zI]at h
 have:g k*pw k<(f k+1)*pw k:=by rw[add_mul,one_mul];omega
 exact Int.lt_of_mul_lt_mul_right this (le_of_lt (zab k))
def ztl (A B x y:Int):Prop:=9223372036854775808<=x/\x<18446744073709551616/\0<=y/\y<=x/\∃T ra rb,A=x*T+ra/\B=y*T+rb/\0<=ra/\ra<T/\0<=rb/\rb<T
theorem zji (ao bo:Option Addr) (n m ca cb:Nat) (f h:Nat->Int) (w:World) (hn:n<=8796093022208) (hn2:2<=n) (hmn:m<=n) (hr:Rd .u64 w ao n f) (hs:Rd .u64 w bo m h) (hf:Lm f n) (hh:Lm h m) (ff:Fm f n) (hle:vf h m<=vf f n) :
  ∃x y,ztl (vf f n) (vf h m) x y/\Calls prog 172 #[slice ao n ca,slice bo m cb] w λe w'=>e=returned (.tuple #[.int .u64 x,.int .u64 y])/\∃q,w'=w.drewN q:=by
 obtain⟨k,rfl⟩:∃k,n=k+2:=⟨n-2,by omega⟩;obtain⟨b,ob,rfl⟩:=hr.at (by omega);obtain⟨y,hy⟩:∃y,f (k+1)=y:=⟨_,rfl⟩;have hcell:w.cell? ⟨b,ob+(k+1),none⟩=some (.int .u64 y):=by rw[<-hy];exact hr.cell (by omega)
 have hy01:=hf (k+1) (by omega);have hyne:y≠0:=by rw[<-hy];rcases ff with h|h;omega;simpa using h
 rw[hy]at hy01
 obtain⟨y,rfl⟩:=Int.eq_ofNat_of_zero_le hy01.1;obtain⟨s,s0,s1,hse,hP1,hP2⟩:=zfY y (by omega) (by omega);have cl:=Tryz.bits_LeadingZeros64 (y:Int) w (by omega) (by omega);rw[Int.toNat_natCast,hse]at cl
 have hPQ:(2:Int)^s.toNat*2^(64-s).toNat=18446744073709551616:=by rw[<-Int.pow_add,show s.toNat+(64-s).toNat=64 by omega];rfl
 obtain⟨P,hP⟩:∃P:Int,2^s.toNat=P:=⟨_,rfl⟩;obtain⟨Q,hQ⟩:∃Q:Int,2^(64-s).toNat=Q:=⟨_,rfl⟩;have p0:0<P:=by rw[<-hP];exact pow_pos (by decide)
 have q0:0<Q:=by rw[<-hQ];exact pow_pos (by decide)
 rw[hP]at hP1 hP2 hPQ
 rw[hQ]at hPQ
 have hyQ:(y:Int)<Q:=by
  have:((y:Int)+1)*P<=Q*P:=by rw[mul_comm Q P,hPQ];exact hP2
  have:=Int.le_of_mul_le_mul_right this p0;omega
 have lmx:Lm (ext h m) (k+2):=λj hj=>by
  by_cases hjm:j<m
  ·rw[zap _ _ _ hjm];exact hh j hjm
  ·rw[zav _ _ _ (by omega)];omega
 have hvh:vf (ext h m) (k+2)=vf h m:=zaJ _ _ _ hmn;have htop:=zqL hf lmx (by rw[hvh];exact hle);rw[hy]at htop
 have e1:ext f (k+2) (k+1)=f (k+1):=zap _ _ _ (by omega);have e0:ext f (k+2) k=f k:=zap _ _ _ (by omega);obtain⟨z,hz⟩:∃z,(k:Int)+2-1=z:=⟨_,rfl⟩;have hzn:z.toNat=k+1:=by omega
 have hz0:0<=z:=by omega
 have hz1:z<(k:Int)+2:=by omega
 obtain⟨X,X0,X1,hX,cX⟩:=zfC (some ⟨b,ob,none⟩) (k+2) ca k z f s w (by omega) (by omega) (by omega) hr hf s0 s1 (by rw[e1,hy,hQ];exact hyQ);have cY0:=λq=>zfC bo m cb k z h s (w.drewN q) (by omega) (by omega) (by omega) (show Rd .u64 (w.drewN q) bo m h from hs) hh s0 s1 (by rw[hQ];omega)
 rw[e1,e0,hQ]at hX
 obtain⟨Y,Y0,Y1,hY,_⟩:=cY0 0;rw[hQ]at hY
 have cY:∀q,Calls prog 185 #[slice bo m cb,.int .i64 z,.int .i64 s] (w.drewN q) λe w'=>e=returned (.int .u64 Y)/\∃n,w'=(w.drewN q).drewN n:=λq=>by
  obtain⟨Y',a1,a2,a3,a4⟩:=cY0 q;rw[hQ]at a3
  have:Y'=Y:=by
   have e:Y'*Q=Y*Q:=by omega
   exact Int.eq_of_mul_eq_mul_right (by omega) e
  rw[this]at a4
  exact a4
 obtain⟨A1,A2,A3⟩:=zny hf q0 hX;obtain⟨B1,B2,B3⟩:=zny lmx q0 hY;rw[hvh]at B1
 have hXlow:9223372036854775808<=X:=by
  have m1:9223372036854775808*Q<=(y:Int)*P*Q:=Int.mul_le_mul_of_nonneg_right hP1 (by omega);rw[Int.mul_assoc,hPQ]at m1
  have r1:=Int.emod_lt_of_pos (f k) q0;have fk:=hf k (by omega);have:9223372036854775808*Q<(X+1)*Q:=by rw[add_mul,one_mul,hy]at *;omega
  have:=Int.lt_of_mul_lt_mul_right this (by omega);omega
 have hYX:Y<=X:=by
  have hT:0<Q*pw k:=Int.mul_pos q0 (zab k);have:Y*(Q*pw k)<(X+1)*(Q*pw k):=by rw[add_mul,one_mul];omega
  have:=Int.lt_of_mul_lt_mul_right this (by omega);omega
 refine⟨X,Y,⟨hXlow,X1,Y0,hYX,Q*pw k,_,_,A1,B1,A2,A3,B2,B3⟩,?_⟩;have CL:=zk cl;have CX:=zk cX;have CY:=zk cY
 clear cl cX cY cY0 hf hh hr hs ff hle hP1 hP2 hPQ hX hY A1 A2 A3 B1 B2 B3 hvh htop lmx e1 e0 hy hse hP hQ;go_enter func172,ntmps172;go_wp2_with fail
 refine CL.out.mono ?_;rintro e w' ⟨rfl,rfl⟩;go_wp2_with fail
 refine CX.out.mono ?_;rintro e w' ⟨rfl,q1,rfl⟩;go_wp2_with fail
 refine(CY.out _).mono ?_;rintro e w' ⟨rfl,q2,rfl⟩;go_wp2
 go_ret2
 exact⟨rfl,_,by (repeat rw[World.drewN_drewN]) <;> rfl⟩
theorem zdN {p' p q i ca cb c d x y h1 l1 h2 l2 bo v} (hv:vf p' i+(ca-cb)*pw i=c*vf p i-d*vf q i) (hx:p i=x) (hy:q i=y) (e1:x*c+ca=h1*18446744073709551616+l1) (e2:y*d+cb=h2*18446744073709551616+l2) (ev:v=l1-l2+bo*18446744073709551616) :
  vf (upd p' i v) (i+1)+(h1-(h2+bo))*pw (i+1)=c*vf p (i+1)-d*vf q (i+1):=by
 have e:vf (upd p' i v) i=vf p' i:=zN (λj hj=>zE _ _ _ _ (by omega));rw[zI,zI,zI,e,zac,zao,hx,hy,ev]
 grind
theorem zeK {u v p t s:Int} (h:u+t*p=v+s*p) (u0:0<=u) (u1:u<p) (v0:0<=v) (v1:v<p):u=v:=by
 have e:u-v=(s-t)*p:=by rw[Int.sub_mul];omega
 have hz:s-t=0:=by
  rcases Int.lt_trichotomy (s-t) 0 with h|h|h
  ·have:(s-t)*p<=(-1)*p:=Int.mul_le_mul_of_nonneg_right (by omega) (by omega);omega
  ·exact h
  ·have:1*p<=(s-t)*p:=Int.mul_le_mul_of_nonneg_right (by omega) (by omega);omega
 rw[hz]at e;omega
structure Only2 (g h:Nat) (w w':World):Prop where
 os:w'.os=w.os
 tape:w'.tape=w.tape
 output:w'.output=w.output
 size:w.heap.size<=w'.heap.size
 block:∀k,k<w.heap.size->k≠g->k≠h->w'.heap[k]?=w.heap[k]?
theorem Only2.of1 {g h w w'} (o:Only g w w'):Only2 g h w w':=⟨o.os,o.tape,o.output,o.size,λk a b _=>o.block k a b⟩
theorem Only2.of2 {g h w w'} (o:Only h w w'):Only2 g h w w':=⟨o.os,o.tape,o.output,o.size,λk a _ b=>o.block k a b⟩
theorem Only2.trans {g h a b c} (x:Only2 g h a b) (y:Only2 g h b c):Only2 g h a c :=
 ⟨y.os.trans x.os,y.tape.trans x.tape,y.output.trans x.output,le_trans x.size y.size,λk h1 h2 h3=>(y.block k (Nat.lt_of_lt_of_le h1 x.size) h2 h3).trans (x.block k h1 h2 h3)⟩
theorem Only2.swap {g h a b} (x:Only2 g h a b):Only2 h g a b:=⟨x.os,x.tape,x.output,x.size,λk h1 h2 h3=>x.block k h1 h3 h2⟩
theorem Only2.q_ {g h B w0 w w'} (hb:Below B w0 w) (x:Only2 g h w w') (hg:B<=g) (hh:B<=h) (hB:B<=w.heap.size):Below B w0 w' :=
 hb.trans ⟨x.os,x.tape,x.output,x.size,λk hk=>x.block k (by omega) (by omega) (by omega)⟩
theorem SB.only2 {w w' g h s a0 b0 a1 b1 odd} (x:SB w s a0 b0 a1 b1 odd) (o:Only2 g h w w') (hg:s≠g) (hh:s≠h):SB w' s a0 b0 a1 b1 odd:=(o.block s x.lt hg hh).trans x
theorem zgV (x c z:Int) (x0:0<=x) (x1:x<18446744073709551616) (c0:0<=c) (c1:c<18446744073709551615) (z0:0<=z) (z1:z<=c) :
  ∃h l,(∀w,Calls prog 186 #[.int .u64 x,.int .u64 c,.int .u64 z] w λe w'=>e=returned (.tuple #[.int .u64 h,.int .u64 l])/\w'=w)/\0<=h/\h<=c/\0<=l/\l<18446744073709551616/\Hid (x*c+z=h*18446744073709551616+l):=by
 have hb:0<=x*c/\x*c<=18446744073709551615*c:=⟨mul_nonneg x0 c0,Int.mul_le_mul_of_nonneg_right (by omega) c0⟩;refine⟨_,_,λw=>zdI x c z w x0 x1 c0 (by omega) z0 (by omega),?_,?_,?_,?_,?_⟩
 ·omega
 ·omega
 ·omega
 ·omega
 ·show _=_;omega
theorem zeM (x c z:Int) (x0:0<=x) (x1:x<18446744073709551616) (c0:0<=c) (c1:c<18446744073709551615) (z0:0<=z) (z1:z<=c+1) :
  ∃h l,(∀w,Calls prog 186 #[.int .u64 x,.int .u64 c,.int .u64 z] w λe w'=>e=returned (.tuple #[.int .u64 h,.int .u64 l])/\w'=w)/\0<=h/\h<=c/\0<=l/\l<18446744073709551616/\Hid (x*c+z=h*18446744073709551616+l):=by
 have hb:0<=x*c/\x*c<=18446744073709551615*c:=⟨mul_nonneg x0 c0,Int.mul_le_mul_of_nonneg_right (by omega) c0⟩;refine⟨_,_,λw=>zdI x c z w x0 x1 c0 (by omega) z0 (by omega),?_,?_,?_,?_,?_⟩
 ·omega
 ·omega
 ·omega
 ·omega
 ·show _=_;omega
theorem zgz (l k:Int) (l0:0<=l) (l1:l<18446744073709551616) (k0:0<=k) (k1:k<18446744073709551616) :
  ∃d o,(∀w,(callFunc 187 #[.int .u64 l,.int .u64 k,.int .u64 0]).run prog w=.ok (.value (.tuple #[.int .u64 d,.int .u64 o])) w)/\0<=d/\d<18446744073709551616/\0<=o/\o<=1/\Hid (d=l-k+o*18446744073709551616):=by
 refine⟨_,_,λw=>zgA l k l0 k0 k1 w,by omega,by omega,(zcn _ _).1,(zcn _ _).2,?_⟩;show _=_;unfold bor;split <;> omega
theorem zpT (ga gb Na Nb n m:Nat) (F H:Nat->Int) (a0 b0 a1 b1:Int) (odd:Bool) (w:World) (hba:Blk .u64 49 w ga Na F) (hbb:Blk .u64 49 w gb Nb H) (la:Lm F Na) (lb:Lm H Nb) (hne:ga≠gb) (hnN:n<=Na) (hmN:m<=Nb) (hmn:m<=n) (hm1:1<=m) (hNa:Na<=140737488355328) (hNb:Nb<=140737488355328)
  (p0:0<=a0/\a0<=18446744073709551613) (p1:0<=b0/\b0<=18446744073709551613) (p2:0<=a1/\a1<=18446744073709551613) (p3:0<=b1/\b1<=18446744073709551613) (U V:Int) (hU:stU odd a0 b0 (vf F n) (vf H m)=U) (hV:stV odd a1 b1 (vf F n) (vf H m)=V) (u0:0<=U) (u1:U<pw m) (v0:0<=V) (v1:V<pw m) :
  Calls prog 174 #[agg #[.int .u64 a0,.int .u64 b0,.int .u64 a1,.int .u64 b1,.bool odd],slice (some ⟨ga,0,none⟩) n Na,slice (some ⟨gb,0,none⟩) m Nb] w λe w'=>Only2 ga gb w w'/\∃gp gq Np Nq k1 k2 c1 c2 P Q x1 x2,e=returned (.tuple #[slice x1 k1 c1,slice x2 k2 c2])/\(gp=ga/\gq=gb∨gp=gb/\gq=ga)/\Blk .u64 49 w' gp Np P/\Blk .u64 49 w' gq Nq Q/\Lm P Np/\Lm Q Nq/\Np<=140737488355328/\Nq<=140737488355328/\(x1=none/\k1=0/\c1=0∨x1=some ⟨gp,0,none⟩/\0<k1/\c1=Np)/\(x2=none/\k2=0/\c2=0∨x2=some ⟨gq,0,none⟩/\0<k2/\c2=Nq)/\k1<=Np/\k2<=Nq/\Fm P k1/\Fm Q k2/\vf P k1=U/\vf Q k2=V:=by
 have HBa:=zk hba;have HBb:=zk hbb;have HLa:=zk la;have HLb:=zk lb;have HU:=zk hU;have HV:=zk hV
 have U1:=zk u1;have V1:=zk v1
 have ga_lt:=hba.lt;have gb_lt:=hbb.lt
 clear hba hbb la lb hU hV u1 v1;obtain⟨p00,p01⟩:=p0;obtain⟨p10,p11⟩:=p1;obtain⟨p20,p21⟩:=p2;obtain⟨p30,p31⟩:=p3
 have i1:(m:Int)<=(Na:Int):=by omega
 go_enter func174,ntmps174;cases odd
 ·skip
  go_wp2;have hS0:SB (w.alloc (.cells #[.int .u64 a0,.int .u64 b0,.int .u64 a1,.int .u64 b1,.bool false] 197)) w.heap.size a0 b0 a1 b1 false:=heap_alloc_new w _;have hP0:=HBa.out.alloc (.cells #[.int .u64 a0,.int .u64 b0,.int .u64 a1,.int .u64 b1,.bool false] 197);have hQ0:=HBb.out.alloc (.cells #[.int .u64 a0,.int .u64 b0,.int .u64 a1,.int .u64 b1,.bool false] 197);have HS0:=zk hS0;have HP0:=zk hP0;have HQ0:=zk hQ0
  clear hS0 hP0 hQ0;go_loopw[8,9,10,11,12,40] (λc1 c2 c3 c4 c5 t wr=>∃(i:Nat) (pa lb pb la bw:Int) (P Q:Nat->Int),i<=m/\t=.int .i64 i/\c1=.int .u64 pa/\c2=.int .u64 lb/\c3=.int .u64 pb/\c4=.int .u64 la/\c5=.int .u64 bw/\0<=pa/\pa<=a0/\0<=lb/\lb<=b0+1/\0<=pb/\pb<=b1/\0<=la/\la<=a1+1/\Hid (Only2 ga gb w wr)/\Hid (w.heap.size<wr.heap.size)/\Hid (SB wr w.heap.size a0 b0 a1 b1 false)/\Hid (Blk .u64 49 wr ga Na P)/\Hid (Blk .u64 49 wr gb Nb Q)/\Hid (Lm P Na)/\Hid (Lm Q Nb)/\Hid (∀j,i<=j->P j=F j)/\Hid (∀j,i<=j->Q j=H j)/\Hid (vf P i+(pa-lb)*pw i=a0*vf F i-b0*vf H i)/\Hid (vf Q i+(pb-la)*pw i=b1*vf H i-a1*vf F i)) (λ_ _ _ _ _ t _=>m-(intOf t).toNat)
  case atStart=>exact⟨0,0,0,0,0,0,F,H,by omega,rfl,rfl,rfl,rfl,rfl,rfl,by omega,by omega,by omega,by omega,by omega,by omega,by omega,by omega,Only2.of1 ((Only.refl _ _).alloc _),(by show _<_;simp),HS0.out,HP0.out,HQ0.out,HLa.out,HLb.out,λ_ _=>rfl,λ_ _=>rfl,by simp[Hid,vf,pw],by simp[Hid,vf,pw]⟩
  case round =>
   clear HS0 HP0 HQ0;obtain⟨i,pa,lb,pb,la,bw,P,Q,hi,rfl,rfl,rfl,rfl,rfl,rfl,a1',a2,a3,a4,a5,a6,a7,a8,HO,HSz,HS,HP,HQ,HLP,HLQ,HEP,HEQ,HV1,HV2⟩:=hrel;by_cases hlt:i<m
   ·obtain⟨x,hx⟩:∃x,P i=x:=⟨_,rfl⟩;obtain⟨y,hy⟩:∃y,Q i=y:=⟨_,rfl⟩;have hcx:wr.cell? ⟨ga,i,none⟩=some (.int .u64 x):=by rw[<-hx];exact HP.out.cell (by omega)
    have hcy:wr.cell? ⟨gb,i,none⟩=some (.int .u64 y):=by rw[<-hy];exact HQ.out.cell (by omega)
    have fzp:=HP.out.frozen i;have fzq:=HQ.out.frozen i;obtain⟨s0,s1,s2,s3,s4⟩:=HS.out.cells;have hgs1:w.heap.size≠ga:=by omega
    have hgs2:w.heap.size≠gb:=by omega
    have t2:∀v,(wr.setCell ⟨ga,i,none⟩ v).cell? ⟨w.heap.size,2,none⟩=some (.int .u64 a1):=λv=>(cell?_of_block (Below.heap_setCell _ _ _ _ (by simpa using hgs1))).trans s2
    have t3:∀v,(wr.setCell ⟨ga,i,none⟩ v).cell? ⟨w.heap.size,3,none⟩=some (.int .u64 b1):=λv=>(cell?_of_block (Below.heap_setCell _ _ _ _ (by simpa using hgs1))).trans s3
    have tq:∀v,(wr.setCell ⟨ga,i,none⟩ v).cell? ⟨gb,i,none⟩=some (.int .u64 y):=λv=>(cell?_of_block (Below.heap_setCell _ _ _ _ (by simp;omega))).trans hcy
    have fq:∀v,(wr.setCell ⟨ga,i,none⟩ (.int .u64 v)).frozen? ⟨gb,i,none⟩=false:=λv=>(HQ.out.setOther (a:=⟨ga,i,none⟩) (by simp;omega) (.int .u64 v)).frozen i
    have bx:=HLP.out i (by omega);have by':=HLQ.out i (by omega)
    rw[hx]at bx;rw[hy]at by'
    obtain⟨x0,x1⟩:=bx;obtain⟨y0,y1⟩:=by'
    have HX:=zk (show F i=x by rw[<-HEP.out i (le_refl _),hx]);have HY:=zk (show H i=y by rw[<-HEQ.out i (le_refl _),hy])
    clear hx hy;obtain⟨h1,l1,M1,q10,q11,r10,r11,E1⟩:=zgV x a0 pa x0 x1 p00 (by omega) a1' a2;obtain⟨h2,l2,M2,q20,q21,r20,r21,E2⟩:=zeM y b0 lb y0 y1 p10 (by omega) a3 a4;obtain⟨h3,l3,M3,q30,q31,r30,r31,E3⟩:=zgV y b1 pb y0 y1 p30 (by omega) a5 a6;obtain⟨h4,l4,M4,q40,q41,r40,r41,E4⟩:=zeM x a1 la x0 x1 p20 (by omega) a7 a8;obtain⟨d1,o1',S1,d10,d11,o10,o11,F1⟩:=zgz l1 l2 r10 r11 r20 r21;obtain⟨d2,o2',S2,d20,d21,o20,o21,F2⟩:=zgz l3 l4 r30 r31 r40 r41;have CM1:=zk M1;have CM2:=zk M2;have CM3:=zk M3;have CM4:=zk M4
    clear M1 M2 M3 M4;go_wp2
    go_quiet (fail)
    go_wp2_with fail
    refine(CM1.out _).mono ?_;rintro e w1 ⟨rfl,rfl⟩;go_wp2_with fail
    refine(CM2.out _).mono ?_;rintro e w1 ⟨rfl,rfl⟩;go_wp2_with fail
    refine(CM3.out _).mono ?_;rintro e w1 ⟨rfl,rfl⟩;go_wp2_with fail
    refine(CM4.out _).mono ?_;rintro e w1 ⟨rfl,rfl⟩;go_wp2;go_roundw
    case rel =>
     have o1:Only ga wr _:=(Only.refl ga wr).setCell i none (.int .u64 d1);have o2:Only gb (wr.setCell ⟨ga,i,none⟩ (.int .u64 d1)) _:=(Only.refl gb (wr.setCell ⟨ga,i,none⟩ (.int .u64 d1))).setCell i none (.int .u64 d2);have oo:=(Only2.of1 (h:=gb) o1).trans (Only2.of2 (g:=ga) o2);have hsz:=HSz.out;refine⟨i+1,h1,h2+o1',h3,h4+o2',o2',upd P i d1,upd Q i d2,by omega,by go_num,rfl,rfl,rfl,rfl,rfl,by omega,by omega,by omega,by omega,by omega,by omega,by omega,by omega,?_,?_,?_,?_,?_,HLP.out.upd ⟨d10,d11⟩,HLQ.out.upd ⟨d20,d21⟩,?_,?_,?_,?_⟩
     ·exact HO.out.trans ⟨oo.os,oo.tape,oo.output,oo.size,oo.block⟩
     ·show _<_;have:=oo.size;exact Nat.lt_of_lt_of_le hsz this
     ·exact HS.out.only2 ⟨oo.os,oo.tape,oo.output,oo.size,oo.block⟩ hgs1 hgs2
     ·exact(HP.out.set i d1).setOther (a:=⟨gb,i,none⟩) (by simp;omega) (.int .u64 d2)
     ·exact(HQ.out.setOther (a:=⟨ga,i,none⟩) (by simp;omega) (.int .u64 d1)).set i d2
     ·intro j hj;rw[zE _ _ _ _ (by omega)];exact HEP.out j (by omega)
     ·intro j hj;rw[zE _ _ _ _ (by omega)];exact HEQ.out j (by omega)
     ·exact zdN HV1.out HX.out HY.out E1.out E2.out F1.out
     ·exact zdN HV2.out HY.out HX.out E3.out E4.out F2.out
    case measure=>simp[intOf];omega
   ·obtain rfl:i=m:=by omega
    have n1:=zz (HLP.out.mono (m:=i) (by omega));have n2:=zar (HLP.out.mono (m:=i) (by omega))
    have n3:=zz (HLQ.out.mono (m:=i) (by omega));have n4:=zar (HLQ.out.mono (m:=i) (by omega))
    have hcut:vf F n=vf F i+vf (sh F i) (n-i)*pw i:=by rw[<-zM,show i+(n-i)=n by omega]
    have hPu:vf P i=U:=by
     have e:=HU.out;simp only[stU,if_false,Bool.false_eq_true]at e;rw[hcut]at e
     refine zeK (p:=pw i) (t:=pa-lb) (s:=-(a0*vf (sh F i) (n-i))) ?_ n1 n2 u0 U1.out;rw[HV1.out,<-e];grind
    have hQv:vf Q i=V:=by
     have e:=HV.out;simp only[stV,if_false,Bool.false_eq_true]at e;rw[hcut]at e
     refine zeK (p:=pw i) (t:=pb-la) (s:=a1*vf (sh F i) (n-i)) ?_ n3 n4 v0 V1.out;rw[HV2.out,<-e];grind
    have HPu:=zk hPu;have HQv:=zk hQv
    clear n1 n2 n3 n4 hcut hPu hQv;go_wp2_with fail
    refine(zdk (some ⟨ga,0,none⟩) i Na P wr (by omega) (by omega) (HP.out.rd0 (by omega))).mono ?_;rintro e w1 ⟨rfl,k1,hk1,hz1,he1⟩;have Z1:=zk hz1;clear hz1;obtain⟨x1,c1,hx1,hf1,hc1⟩:∃x1 c1,e=returned (slice x1 k1 c1)/\Fm P k1/\(x1=none/\k1=0/\c1=0∨x1=some ⟨ga,0,none⟩/\0<k1/\c1=Na):=by
     rcases he1 with⟨h0,he⟩|⟨h0,hn0,he⟩
     ·exact⟨none,0,by rw[he,h0],.inl h0,.inl ⟨rfl,h0,rfl⟩⟩
     ·exact⟨_,_,he,.inr hn0,.inr ⟨rfl,h0,rfl⟩⟩
    subst hx1;have HF1:=zk hf1;have HC1:=zk hc1
    clear he1 hf1 hc1;go_wp2_with fail
    refine(zdk (some ⟨gb,0,none⟩) i Nb Q _ (by omega) (by omega) (HQ.out.rd0 (by omega))).mono ?_;rintro e w1 ⟨rfl,k2,hk2,hz2,he2⟩;have Z2:=zk hz2;clear hz2;obtain⟨x2,c2,hx2,hf2,hc2⟩:∃x2 c2,e=returned (slice x2 k2 c2)/\Fm Q k2/\(x2=none/\k2=0/\c2=0∨x2=some ⟨gb,0,none⟩/\0<k2/\c2=Nb):=by
     rcases he2 with⟨h0,he⟩|⟨h0,hn0,he⟩
     ·exact⟨none,0,by rw[he,h0],.inl h0,.inl ⟨rfl,h0,rfl⟩⟩
     ·exact⟨_,_,he,.inr hn0,.inr ⟨rfl,h0,rfl⟩⟩
    subst hx2;have HF2:=zk hf2;have HC2:=zk hc2
    clear he2 hf2 hc2;go_wp2
    go_ret2
    refine⟨HO.out,ga,gb,Na,Nb,k1,k2,c1,c2,P,Q,x1,x2,rfl,.inl ⟨rfl,rfl⟩,HP.out,HQ.out,HLP.out,HLQ.out,by omega,by omega,HC1.out,HC2.out,by omega,by omega,HF1.out,HF2.out,?_,?_⟩
    ·rw[zbY hk1 Z1.out];exact HPu.out
    ·rw[zbY hk2 Z2.out];exact HQv.out
 ·skip
  go_wp2;have hS0:SB (w.alloc (.cells #[.int .u64 b0,.int .u64 a0,.int .u64 b1,.int .u64 a1,.bool true] 197)) w.heap.size b0 a0 b1 a1 true:=heap_alloc_new w _;have hP0:=HBb.out.alloc (.cells #[.int .u64 b0,.int .u64 a0,.int .u64 b1,.int .u64 a1,.bool true] 197);have hQ0:=HBa.out.alloc (.cells #[.int .u64 b0,.int .u64 a0,.int .u64 b1,.int .u64 a1,.bool true] 197);have HS0:=zk hS0;have HP0:=zk hP0;have HQ0:=zk hQ0
  clear hS0 hP0 hQ0;go_loopw[8,9,10,11,12,40] (λc1 c2 c3 c4 c5 t wr=>∃(i:Nat) (pa lb pb la bw:Int) (P Q:Nat->Int),i<=m/\t=.int .i64 i/\c1=.int .u64 pa/\c2=.int .u64 lb/\c3=.int .u64 pb/\c4=.int .u64 la/\c5=.int .u64 bw/\0<=pa/\pa<=b0/\0<=lb/\lb<=a0+1/\0<=pb/\pb<=a1/\0<=la/\la<=b1+1/\Hid (Only2 gb ga w wr)/\Hid (w.heap.size<wr.heap.size)/\Hid (SB wr w.heap.size b0 a0 b1 a1 true)/\Hid (Blk .u64 49 wr gb Nb P)/\Hid (Blk .u64 49 wr ga Na Q)/\Hid (Lm P Nb)/\Hid (Lm Q Na)/\Hid (∀j,i<=j->P j=H j)/\Hid (∀j,i<=j->Q j=F j)/\Hid (vf P i+(pa-lb)*pw i=b0*vf H i-a0*vf F i)/\Hid (vf Q i+(pb-la)*pw i=a1*vf F i-b1*vf H i)) (λ_ _ _ _ _ t _=>m-(intOf t).toNat)
  case atStart=>exact⟨0,0,0,0,0,0,H,F,by omega,rfl,rfl,rfl,rfl,rfl,rfl,by omega,by omega,by omega,by omega,by omega,by omega,by omega,by omega,Only2.of1 ((Only.refl _ _).alloc _),(by show _<_;simp),HS0.out,HP0.out,HQ0.out,HLb.out,HLa.out,λ_ _=>rfl,λ_ _=>rfl,by simp[Hid,vf,pw],by simp[Hid,vf,pw]⟩
  case round =>
   clear HS0 HP0 HQ0;obtain⟨i,pa,lb,pb,la,bw,P,Q,hi,rfl,rfl,rfl,rfl,rfl,rfl,a1',a2,a3,a4,a5,a6,a7,a8,HO,HSz,HS,HP,HQ,HLP,HLQ,HEP,HEQ,HV1,HV2⟩:=hrel;by_cases hlt:i<m
   ·obtain⟨x,hx⟩:∃x,P i=x:=⟨_,rfl⟩;obtain⟨y,hy⟩:∃y,Q i=y:=⟨_,rfl⟩;have hcx:wr.cell? ⟨gb,i,none⟩=some (.int .u64 x):=by rw[<-hx];exact HP.out.cell (by omega)
    have hcy:wr.cell? ⟨ga,i,none⟩=some (.int .u64 y):=by rw[<-hy];exact HQ.out.cell (by omega)
    have fzp:=HP.out.frozen i;have fzq:=HQ.out.frozen i;obtain⟨s0,s1,s2,s3,s4⟩:=HS.out.cells;have hgs1:w.heap.size≠gb:=by omega
    have hgs2:w.heap.size≠ga:=by omega
    have t2:∀v,(wr.setCell ⟨gb,i,none⟩ v).cell? ⟨w.heap.size,2,none⟩=some (.int .u64 b1):=λv=>(cell?_of_block (Below.heap_setCell _ _ _ _ (by simpa using hgs1))).trans s2
    have t3:∀v,(wr.setCell ⟨gb,i,none⟩ v).cell? ⟨w.heap.size,3,none⟩=some (.int .u64 a1):=λv=>(cell?_of_block (Below.heap_setCell _ _ _ _ (by simpa using hgs1))).trans s3
    have tq:∀v,(wr.setCell ⟨gb,i,none⟩ v).cell? ⟨ga,i,none⟩=some (.int .u64 y):=λv=>(cell?_of_block (Below.heap_setCell _ _ _ _ (by simp;omega))).trans hcy
    have fq:∀v,(wr.setCell ⟨gb,i,none⟩ (.int .u64 v)).frozen? ⟨ga,i,none⟩=false:=λv=>(HQ.out.setOther (a:=⟨gb,i,none⟩) (by simp;omega) (.int .u64 v)).frozen i
    have bx:=HLP.out i (by omega);have by':=HLQ.out i (by omega)
    rw[hx]at bx;rw[hy]at by'
    obtain⟨x0,x1⟩:=bx;obtain⟨y0,y1⟩:=by'
    have HX:=zk (show H i=x by rw[<-HEP.out i (le_refl _),hx]);have HY:=zk (show F i=y by rw[<-HEQ.out i (le_refl _),hy])
    clear hx hy;obtain⟨h1,l1,M1,q10,q11,r10,r11,E1⟩:=zgV x b0 pa x0 x1 p10 (by omega) a1' a2;obtain⟨h2,l2,M2,q20,q21,r20,r21,E2⟩:=zeM y a0 lb y0 y1 p00 (by omega) a3 a4;obtain⟨h3,l3,M3,q30,q31,r30,r31,E3⟩:=zgV y a1 pb y0 y1 p20 (by omega) a5 a6;obtain⟨h4,l4,M4,q40,q41,r40,r41,E4⟩:=zeM x b1 la x0 x1 p30 (by omega) a7 a8;obtain⟨d1,o1',S1,d10,d11,o10,o11,F1⟩:=zgz l1 l2 r10 r11 r20 r21;obtain⟨d2,o2',S2,d20,d21,o20,o21,F2⟩:=zgz l3 l4 r30 r31 r40 r41;have CM1:=zk M1;have CM2:=zk M2;have CM3:=zk M3;have CM4:=zk M4
    clear M1 M2 M3 M4;go_wp2
    go_quiet (fail)
    go_wp2_with fail
    refine(CM1.out _).mono ?_;rintro e w1 ⟨rfl,rfl⟩;go_wp2_with fail
    refine(CM2.out _).mono ?_;rintro e w1 ⟨rfl,rfl⟩;go_wp2_with fail
    refine(CM3.out _).mono ?_;rintro e w1 ⟨rfl,rfl⟩;go_wp2_with fail
    refine(CM4.out _).mono ?_;rintro e w1 ⟨rfl,rfl⟩;go_wp2;go_roundw
    case rel =>
     have o1:Only gb wr _:=(Only.refl gb wr).setCell i none (.int .u64 d1);have o2:Only ga (wr.setCell ⟨gb,i,none⟩ (.int .u64 d1)) _:=(Only.refl ga (wr.setCell ⟨gb,i,none⟩ (.int .u64 d1))).setCell i none (.int .u64 d2);have oo:=(Only2.of1 (h:=ga) o1).trans (Only2.of2 (g:=gb) o2);have hsz:=HSz.out;refine⟨i+1,h1,h2+o1',h3,h4+o2',o2',upd P i d1,upd Q i d2,by omega,by go_num,rfl,rfl,rfl,rfl,rfl,by omega,by omega,by omega,by omega,by omega,by omega,by omega,by omega,?_,?_,?_,?_,?_,HLP.out.upd ⟨d10,d11⟩,HLQ.out.upd ⟨d20,d21⟩,?_,?_,?_,?_⟩
     ·exact HO.out.trans ⟨oo.os,oo.tape,oo.output,oo.size,oo.block⟩
     ·show _<_;have:=oo.size;exact Nat.lt_of_lt_of_le hsz this
     ·exact HS.out.only2 ⟨oo.os,oo.tape,oo.output,oo.size,oo.block⟩ hgs1 hgs2
     ·exact(HP.out.set i d1).setOther (a:=⟨ga,i,none⟩) (by simp;omega) (.int .u64 d2)
     ·exact(HQ.out.setOther (a:=⟨gb,i,none⟩) (by simp;omega) (.int .u64 d1)).set i d2
     ·intro j hj;rw[zE _ _ _ _ (by omega)];exact HEP.out j (by omega)
     ·intro j hj;rw[zE _ _ _ _ (by omega)];exact HEQ.out j (by omega)
     ·exact zdN HV1.out HX.out HY.out E1.out E2.out F1.out
     ·exact zdN HV2.out HY.out HX.out E3.out E4.out F2.out
    case measure=>simp[intOf];omega
   ·obtain rfl:i=m:=by omega
    have n1:=zz (HLP.out.mono (m:=i) (by omega));have n2:=zar (HLP.out.mono (m:=i) (by omega))
    have n3:=zz (HLQ.out.mono (m:=i) (by omega));have n4:=zar (HLQ.out.mono (m:=i) (by omega))
    have hcut:vf F n=vf F i+vf (sh F i) (n-i)*pw i:=by rw[<-zM,show i+(n-i)=n by omega]
    have hPu:vf P i=U:=by
     have e:=HU.out;simp only[stU,if_true]at e;rw[hcut]at e
     refine zeK (p:=pw i) (t:=pa-lb) (s:=a0*vf (sh F i) (n-i)) ?_ n1 n2 u0 U1.out;rw[HV1.out,<-e];grind
    have hQv:vf Q i=V:=by
     have e:=HV.out;simp only[stV,if_true]at e;rw[hcut]at e
     refine zeK (p:=pw i) (t:=pb-la) (s:=-(a1*vf (sh F i) (n-i))) ?_ n3 n4 v0 V1.out;rw[HV2.out,<-e];grind
    have HPu:=zk hPu;have HQv:=zk hQv
    clear n1 n2 n3 n4 hcut hPu hQv;go_wp2_with fail
    refine(zdk (some ⟨gb,0,none⟩) i Nb P wr (by omega) (by omega) (HP.out.rd0 (by omega))).mono ?_;rintro e w1 ⟨rfl,k1,hk1,hz1,he1⟩;have Z1:=zk hz1;clear hz1;obtain⟨x1,c1,hx1,hf1,hc1⟩:∃x1 c1,e=returned (slice x1 k1 c1)/\Fm P k1/\(x1=none/\k1=0/\c1=0∨x1=some ⟨gb,0,none⟩/\0<k1/\c1=Nb):=by
     rcases he1 with⟨h0,he⟩|⟨h0,hn0,he⟩
     ·exact⟨none,0,by rw[he,h0],.inl h0,.inl ⟨rfl,h0,rfl⟩⟩
     ·exact⟨_,_,he,.inr hn0,.inr ⟨rfl,h0,rfl⟩⟩
    subst hx1;have HF1:=zk hf1;have HC1:=zk hc1
    clear he1 hf1 hc1;go_wp2_with fail
    refine(zdk (some ⟨ga,0,none⟩) i Na Q _ (by omega) (by omega) (HQ.out.rd0 (by omega))).mono ?_;rintro e w1 ⟨rfl,k2,hk2,hz2,he2⟩;have Z2:=zk hz2;clear hz2;obtain⟨x2,c2,hx2,hf2,hc2⟩:∃x2 c2,e=returned (slice x2 k2 c2)/\Fm Q k2/\(x2=none/\k2=0/\c2=0∨x2=some ⟨ga,0,none⟩/\0<k2/\c2=Na):=by
     rcases he2 with⟨h0,he⟩|⟨h0,hn0,he⟩
     ·exact⟨none,0,by rw[he,h0],.inl h0,.inl ⟨rfl,h0,rfl⟩⟩
     ·exact⟨_,_,he,.inr hn0,.inr ⟨rfl,h0,rfl⟩⟩
    subst hx2;have HF2:=zk hf2;have HC2:=zk hc2
    clear he2 hf2 hc2;go_wp2
    go_ret2
    refine⟨HO.out.swap,gb,ga,Nb,Na,k1,k2,c1,c2,P,Q,x1,x2,rfl,.inr ⟨rfl,rfl⟩,HP.out,HQ.out,HLP.out,HLQ.out,by omega,by omega,HC1.out,HC2.out,by omega,by omega,HF1.out,HF2.out,?_,?_⟩
    ·rw[zbY hk1 Z1.out];exact HPu.out
    ·rw[zbY hk2 Z2.out];exact HQv.out
theorem zqP (a0 b0 a1 b1:Int) (odd:Bool) (w:World):Calls prog 173 #[agg #[.int .u64 a0,.int .u64 b0,.int .u64 a1,.int .u64 b1,.bool odd]] w λe w'=>e=returned (.bool (b0 != 0))/\Bl w w':=by
 go_enter func173,ntmps173;go_wp2;go_ret;exact⟨rfl,(Below.refl _ _).alloc (le_refl _) _⟩
def One (base:Nat) (w:World) (x:Option Addr) (k c g:Nat) (A:Int):Prop:=∃P,x=some ⟨g,0,none⟩/\0<k/\k<=c/\c<=140737488355328/\base<=g/\Blk .u64 49 w g c P/\Lm P c/\Fm P k/\vf P k=A
def Two (base:Nat) (w:World) (x1:Option Addr) (k1 c1:Nat) (x2:Option Addr) (k2 c2:Nat) (A B:Int):Prop :=
 ∃g1,One base w x1 k1 c1 g1 A/\0<=B/\B<=A/\((x2=none/\k2=0/\c2=0/\B=0)∨∃g2,g1≠g2/\One base w x2 k2 c2 g2 B)
theorem znH (base:Nat) (x1 x2:Option Addr) (k1 c1 k2 c2 K:Nat) (A B:Int) (w:World) (h:Two base w x1 k1 c1 x2 k2 c2 A B) (hk2:2<=k2) (hAK:A<pw K) (hK:K<=8796093022207) (hbase:base<=w.heap.size) :
  Calls prog 163 #[slice x1 k1 c1,slice x2 k2 c2] w λe w'=>∃y1 l1 d1 y2 l2 d2 A' B',e=returned (.tuple #[slice y1 l1 d1,slice y2 l2 d2])/\Below base w w'/\Two base w' y1 l1 d1 y2 l2 d2 A' B'/\Cd A' B' A B/\B'<B/\A'<=A:=by
 obtain⟨g1,⟨P,rfl,a1,a2,a3,a4,hbP,lP,fP,vP⟩,b0,b1,h2⟩:=h;rcases h2 with⟨_,hz,_⟩|⟨g2,hne,Q,rfl,e1,e2,e3,e4,hbQ,lQ,fQ,vQ⟩
 ·omega
 have hk1K:k1<=K:=zeL (lP.mono a2) fP (by rw[vP];exact hAK);have hk21:k2<=k1:=zbT (lQ.mono e2) (lP.mono a2) fQ (by rw[vP,vQ];exact b1);have hA0:0<=A:=by rw[<-vP];exact zz (lP.mono a2)
 have hBlt:B<pw k2:=by rw[<-vQ];exact zar (lQ.mono e2)
 obtain⟨x,y,hT,cH⟩:=zji (some ⟨g1,0,none⟩) (some ⟨g2,0,none⟩) k1 k2 c1 c2 P Q w (by omega) (by omega) hk21 (hbP.rd0 a2) (hbQ.rd0 e2) (lP.mono a2) (lQ.mono e2) fP (by rw[vP,vQ];exact b1);rw[vP,vQ]at hT
 obtain⟨t1,t2,t3,t4,T,ra,rb,hA,hB,ra0,ra1,rb0,rb1⟩:=hT;have CH:=zk cH;have CF:=zk (λW=>zic x y W t3 t4 (by omega) t2);have HP:=zk hbP;have HQ:=zk hbQ;have LP:=zk lP;have LQ:=zk lQ;have FP:=zk fP;have FQ:=zk fQ;have VP:=zk vP;have VQ:=zk vQ;have HA:=zk hA;have HB:=zk hB;have BLT:=zk hBlt
 clear cH hbP hbQ lP lQ fP fQ vP vQ hA hB hBlt hAK;go_enter func163,ntmps163;go_wp2_with fail
 refine CH.out.mono ?_;rintro e w1 ⟨rfl,q1,rfl⟩;go_wp2_with fail
 refine(CF.out _).mono ?_;rintro e w2 ⟨hbel2,a0,b0',a1',b1',odd,a,b,rfl,hL,hx0⟩;have HL:=zk hL;have HX0:=zk hx0
 have BE2:=zk (show Bl w w2 from⟨hbel2.os,hbel2.tape,hbel2.output,hbel2.size,hbel2.block⟩);clear hL hx0 hbel2 CF CH;go_wp2_with fail
 refine(zqP a0 b0' a1' b1' odd _).mono ?_;rintro e w3 ⟨rfl,hbel3⟩;have hS3:SB w3 w2.heap.size a0 b0' a1' b1' odd:=(show SB (w2.alloc _) w2.heap.size a0 b0' a1' b1' odd from heap_alloc_new w2 _).q_ hbel3;have z2:=BE2.out.size;have BE3:=zk (show Bl w w3 from(BE2.out.alloc z2 _).trans (hbel3.mono (by simp;omega)));have HP3:=zk (HP.out.q_ BE3.out HP.out.lt);have HQ3:=zk (HQ.out.q_ BE3.out HQ.out.lt)
 obtain⟨s0,s1,s2,s3,s4⟩:=hS3.cells;have g1lt:=HP.out.lt;have g2lt:=HQ.out.lt
 clear hbel3 hS3 HP HQ;by_cases hz:b0'=0
 ·have hzb:(b0' != 0)=false:=by simp[hz]
  rw[hzb];go_wp2_with fail
  refine(znK (some ⟨g1,0,none⟩) (some ⟨g2,0,none⟩) k1 k2 c1 c2 P Q w3 (by omega) (by omega) (HP3.out.rd0 a2) (HQ3.out.rd0 e2) (LP.out.mono a2) (LQ.out.mono e2) FP.out FQ.out (by omega)).mono ?_;rintro e w4 ⟨xq,kq,cq,q,xr,kr,cr,r,rfl,hresq,hresr,hv,hr0,hr1⟩;rw[VP.out,VQ.out]at hv
  rw[VQ.out]at hr1
  have HV:=zk hv;have HR0:=zk hr0;have HR1:=zk hr1;have HRS:=zk hresr
  have HQ4:=zk (HQ3.out.q_ hresr.bel HQ3.out.lt);clear hv hr0 hr1 hresq hresr;go_wp2
  go_ret2
  have hb4:=BE3.out.trans (HRS.out.bel.mono BE3.out.size);refine⟨_,k2,c2,_,kr,cr,B,vf r kr,rfl,hb4.mono hbase,⟨g2,⟨Q,rfl,by omega,e2,e3,e4,HQ4.out,LQ.out,FQ.out,VQ.out⟩,HR0.out,by have:=HR1.out;omega,?_⟩,?_,HR1.out,b1⟩
  ·have hnc:=HRS.out.ncap;have z3:=BE3.out.size;rcases HRS.out.own with⟨rfl,rfl,rfl⟩|⟨gr,rfl,hgr,hk0,hkc,hcC,hbr⟩
   ·exact .inl ⟨rfl,rfl,rfl,rfl⟩
   ·exact .inr ⟨gr,by omega,r,rfl,hk0,hkc,by omega,by omega,hbr,HRS.out.lmc,HRS.out.fm,rfl⟩
  ·have e:vf r kr=A-vf q kq*B:=by have:=HV.out;omega
   rw[e];exact(Cd.refl A B).step _
 ·have hzb:(b0' != 0)=true:=by simp[hz]
  rw[hzb];obtain⟨hled,m0,m1,m2,m3⟩:=zpx HL.out hz;obtain⟨n0,n1,n2,n3⟩:=zpz HL.out;have hl:=hled T ra rb ra0 ra1 rb0 rb1;rw[<-HA.out,<-HB.out]at hl
  obtain⟨l1,l2,l3,l4⟩:=hl;have HC:=zk l4;clear l4 hled;obtain⟨U,hU⟩:∃U,stU odd a0 b0' A B=U:=⟨_,rfl⟩;obtain⟨V,hV⟩:∃V,stV odd a1' b1' A B=V:=⟨_,rfl⟩;rw[hU,hV]at HC
  rw[hV]at l1 l2
  rw[hU]at l2 l3
  have CA:=zk (zpT g1 g2 c1 c2 k1 k2 P Q a0 b0' a1' b1' odd w3 HP3.out HQ3.out LP.out LQ.out hne a2 e2 hk21 (by omega) a3 e3 ⟨n0,by omega⟩ ⟨n1,by omega⟩ ⟨n2,by omega⟩ ⟨n3,by omega⟩ U V (by rw[VP.out,VQ.out];exact hU) (by rw[VP.out,VQ.out];exact hV) (by omega) (by have:=BLT.out;omega) (by omega) (by have:=BLT.out;omega));clear hU hV hz;go_wp2_with fail
  refine CA.out.mono ?_;rintro e w4 ⟨hon2,gp,gq,Np,Nq,t1',t2',d1,d2,P',Q',y1,y2,rfl,hside,hbp,hbq,lp,lq,hNp,hNq,hx1,hx2,hl1,hl2,fp,fq,vp,vq⟩;have H1:=zk hside;have H2:=zk hbp;have H3:=zk hbq;have H4:=zk lp;have H5:=zk lq;have H6:=zk hx1;have H7:=zk hx2;have H8:=zk fp;have H9:=zk fq;have H10:=zk vp;have H11:=zk vq;have HON:=zk hon2
  clear hside hbp hbq lp lq hx1 hx2 fp fq vp vq hon2 CA;go_wp2
  go_ret2
  have z3:=BE3.out.size;have hb4:Below base w w4:=HON.out.q_ (BE3.out.mono hbase) a4 e4 (by omega);have hgp:base<=gp/\base<=gq/\gp≠gq:=by rcases H1.out with⟨rfl,rfl⟩|⟨rfl,rfl⟩ <;> omega
  refine⟨y1,t1',d1,y2,t2',d2,U,V,rfl,hb4,⟨gp,?_,by omega,by omega,?_⟩,HC.out,by omega,by omega⟩
  ·rcases H6.out with⟨_,hk0,_⟩|⟨h1,h2,h3⟩
   ·have:=H10.out;rw[hk0]at this
    simp[vf]at this
    omega
   ·exact⟨P',h1,h2,by omega,by omega,hgp.1,by rw[h3];exact H2.out,by rw[h3];exact H4.out,H8.out,H10.out⟩
  ·rcases H7.out with⟨h1,h2,h3⟩|⟨h1,h2,h3⟩
   ·left
    refine⟨h1,h2,h3,?_⟩;rw[<-H11.out,h2];rfl
   ·exact .inr ⟨gq,hgp.2.2,Q',h1,h2,by omega,by omega,hgp.2.1,by rw[h3];exact H3.out,by rw[h3];exact H5.out,H9.out,H11.out⟩
noncomputable def vOf (w:World) (v:Value):Nat:=match v with
 | slice (some a) k _=>(vf (λj=>match w.cell? ⟨a.block,a.off+j,none⟩with|some (.int _ z)=>z|_=>0) k).toNat
 | _=>0
theorem One.vOf {base w x k c g A} (h:One base w x k c g A):vOf w (slice x k c)=A.toNat:=by
 obtain⟨P,rfl,h2,h3,h4,h5,h6,h7,h8,h9⟩:=h;rw[<-h9];show(vf _ k).toNat=_
 congr 1
 refine zN (λj hj=>?_);have:=h6.cell (j:=j) (by omega);simp only[Nat.zero_add];rw[this]
theorem Two.vOf {base w x1 k1 c1 x2 k2 c2 A B} (h:Two base w x1 k1 c1 x2 k2 c2 A B):vOf w (slice x2 k2 c2)=B.toNat:=by
 obtain⟨g1,h1,h2,h3,h4⟩:=h;rcases h4 with⟨rfl,rfl,rfl,rfl⟩|⟨g2,_,h5⟩
 ·rfl
 ·exact h5.vOf
theorem zfQ (base:Nat) (x1 x2:Option Addr) (k1 c1 k2 c2 K:Nat) (A B:Int) (w:World) (h:Two base w x1 k1 c1 x2 k2 c2 A B) (hAK:A<pw K) (hK:K<=8796093022207) (hbase:base<=w.heap.size) :
  Calls prog 148 #[slice x1 k1 c1,slice x2 k2 c2] w λe w'=>∃y1 l1 d1 y2 l2 d2 A' B',e=returned (.tuple #[slice y1 l1 d1,slice y2 l2 d2])/\Below base w w'/\Two base w' y1 l1 d1 y2 l2 d2 A' B'/\Cd A' B' A B/\l2<=1/\A'<=A:=by
 have HT:=zk h;have HAK:=zk hAK
 clear h hAK;go_enter func148,ntmps148;go_wp2;go_loopw[0,1] (λu v wr=>∃(y1:Option Addr) (l1 d1:Nat) (y2:Option Addr) (l2 d2:Nat) (A' B':Int),u=slice y1 l1 d1/\v=slice y2 l2 d2/\Hid (Below base w wr)/\base<=wr.heap.size/\Hid (Two base wr y1 l1 d1 y2 l2 d2 A' B')/\Hid (Cd A' B' A B)/\Hid (A'<=A)) (λ_ v wr=>vOf wr v)
 case atStart=>exact⟨x1,k1,c1,x2,k2,c2,A,B,rfl,rfl,Below.refl _ _,hbase,HT.out,Cd.refl _ _,Int.le_refl _⟩
 case round =>
  clear HT;obtain⟨y1,l1,d1,y2,l2,d2,A',B',rfl,rfl,HB,hbs,HT,HC,HA⟩:=hrel;by_cases hl:1<l2
  ·have hlb:decide ((1:Int)<(l2:Int))=true:=by simp;omega
   have CE:=zk (znH base y1 y2 l1 d1 l2 d2 K A' B' wr HT.out (by omega) (by have:=HA.out;have:=HAK.out;omega) hK hbs);go_wp2_with fail
   refine CE.out.mono ?_;rintro e w2 ⟨z1,m1,f1,z2,m2,f2,A2,B2,rfl,hb2,ht2,hc2,hlt,hle⟩;have H1:=zk (HB.out.trans hb2);have H2:=zk ht2;have H3:=zk (hc2.trans HC.out);have H4:=zk hlt;have H5:=zk (show A2<=A by have:=HA.out;omega)
   have hsz:=hb2.size;clear hb2 ht2 hc2 hlt hle CE;go_wp2;go_roundw
   case rel=>exact⟨z1,m1,f1,z2,m2,f2,A2,B2,rfl,rfl,H1.out,by omega,H2.out,H3.out,H5.out⟩
   case measure =>
    have e1:=H2.out.vOf;have e2:=HT.out.vOf;have h0:0<=B2:=by obtain⟨_,_,h,_⟩:=H2.out;exact h
    have hlt:=H4.out;show vOf w2 (slice z2 m2 f2)<vOf wr (slice y2 l2 d2);rw[e1,e2];omega
  ·have hlb:decide ((1:Int)<(l2:Int))=false:=by simp;omega
   go_wp2
   go_ret2
   exact⟨y1,l1,d1,y2,l2,d2,A',B',rfl,HB.out,HT.out,HC.out,by omega,HA.out⟩
theorem znS {u v A B} (h:Cd u v A B) (u0:0<=u) (v0:0<=v) (A0:0<=A) (B0:0<=B):Nat.gcd u.toNat v.toNat=Nat.gcd A.toNat B.toNat:=by
 have key:∀{p q r s:Int},Cd p q r s->0<=p->0<=q->0<=r->0<=s->Nat.gcd p.toNat q.toNat ∣ Nat.gcd r.toNat s.toNat:=by
  intro p q r s h p0 q0 r0 s0;have h1:((Nat.gcd p.toNat q.toNat:Nat):Int) ∣ p:=by
   have:=Int.natCast_dvd_natCast.2 (Nat.gcd_dvd_left p.toNat q.toNat)
   rwa[Int.toNat_of_nonneg p0]at this
  have h2:((Nat.gcd p.toNat q.toNat:Nat):Int) ∣ q:=by
   have:=Int.natCast_dvd_natCast.2 (Nat.gcd_dvd_right p.toNat q.toNat)
   rwa[Int.toNat_of_nonneg q0]at this
  obtain⟨h3,h4⟩:=(h _).1 ⟨h1,h2⟩;refine Nat.dvd_gcd ?_ ?_
  ·apply Int.natCast_dvd_natCast.1;rwa[Int.toNat_of_nonneg r0]
  ·apply Int.natCast_dvd_natCast.1;rwa[Int.toNat_of_nonneg s0]
 exact Nat.dvd_antisymm (key h u0 v0 A0 B0) (key (λd=>(h d).symm) A0 B0 u0 v0)
theorem zsy (ao bo:Option Addr) (n m ca cb:Nat) (f h:Nat->Int) (w:World) (hn:n<=8796093022207) (hm:m<=8796093022207) (hr:Rd .u64 w ao n f) (hs:Rd .u64 w bo m h) (hf:Lm f n) (hh:Lm h m) (ff:Fm f n) (fh:Fm h m) :
  Calls prog 140 #[slice ao n ca,slice bo m cb] w λe w'=>∃ao' k cap' f',e=returned (slice ao' k cap')/\Res (max n m+1) w w' ao' k cap' f'/\vf f' k=(Nat.gcd (vf f n).toNat (vf h m).toNat:Nat):=by
 have CC:=zk (ziv ao bo n m ca cb f h w (by omega) (by omega) hr hs hf hh ff fh);have HRa:=zk hr;have HRb:=zk hs;have HLa:=zk hf;have HLb:=zk hh;have HFa:=zk ff;have HFb:=zk fh
 clear hr hs hf hh ff fh;by_cases hlt:vf f n<vf h m
 ·skip
  have HLt:=zk hlt;clear hlt;rcases(show n=0∨n=1∨2<=n by omega)with hb0|hb1|hb2
  ·have hBz:vf f n=0:=by rw[hb0];rfl
   have HBz:=zk hBz;subst hb0;clear hBz;go_enter func140,ntmps140;go_wp2_with fail
   refine CC.out.mono ?_;rintro e w1 ⟨⟨q,rfl⟩,c,rfl,ho⟩;have hc:c=-1:=by have:=HLt.out;unfold Ord at ho;omega
   subst hc;clear ho;go_wp2_with fail
   refine(zbv bo m cb h _ (by omega) (show Rd .u64 (w.drewN q) bo m h from HRb.out) HLb.out).mono ?_;rintro e w9 ⟨xr,kr,cr,rfl,hres,hkr,hv⟩;have HRS:=zk hres;have HVr:=zk hv
   clear hres hv;go_wp2;go_ret;refine⟨xr,kr,cr,h,rfl,(HRS.out.ahead (zH (Below.refl w.heap.size w) q)).mono (by omega),?_⟩;rw[HVr.out,show vf h m=vf h m from rfl];rw[show vf f 0=0 from rfl];rw[Nat.gcd_comm];simp[Int.toNat_of_nonneg (zz HLb.out)]
  ·subst hb1;obtain⟨bb,ob,rfl⟩:=HRa.out.at (by omega);obtain⟨x,hx⟩:∃x,f 0=x:=⟨_,rfl⟩;have hcell:w.cell? ⟨bb,ob,none⟩=some (.int .u64 x):=by rw[<-hx];exact HRa.out.cell (j:=0) (by omega)
   have hx01:=HLa.out 0 (by omega);have hx2:x≠0:=by rw[<-hx];rcases HFa.out with h|h;omega;exact h
   rw[hx]at hx01
   obtain⟨xn,rfl⟩:=Int.eq_ofNat_of_zero_le hx01.1;have HVB:=zk (show vf f 1=(xn:Int) by simp[vf,pw,hx]);clear hx;go_enter func140,ntmps140;go_wp2_with fail
   refine CC.out.mono ?_;rintro e w1 ⟨⟨q,rfl⟩,c,rfl,ho⟩;have hc:c=-1:=by have:=HLt.out;unfold Ord at ho;omega
   subst hc;clear ho;have hA0:=zz HLb.out;obtain⟨R,hR⟩:∃R:Nat,(vf h m%(xn:Int))=R:=⟨(vf h m%(xn:Int)).toNat,by have:=Int.emod_nonneg (vf h m) (show(xn:Int)≠0 by omega);omega⟩;have hR1:(R:Int)<xn:=by rw[<-hR];exact Int.emod_lt_of_pos _ (by omega)
   have cm:=λW hr'=>zcT bo m cb h xn W (by omega) hr' HLb.out (by omega) (by omega)
   rw[hR]at cm
   have cg:=λW=>zcV xn R W (by omega) (by omega)
   have hgl:Nat.gcd xn R<18446744073709551616:=Nat.lt_of_le_of_lt (Nat.gcd_le_left _ (by omega)) (by omega);have hfin:Nat.gcd xn R=Nat.gcd (vf h m).toNat xn:=by
    have e:R=(vf h m).toNat%xn:=by
     have:((vf h m).toNat:Int)=vf h m:=Int.toNat_of_nonneg hA0;have h2:(((vf h m).toNat%xn:Nat):Int)=vf h m%(xn:Int):=by rw[Int.natCast_emod,this]
     omega
    rw[e,Nat.gcd_comm (vf h m).toNat xn,Nat.gcd_rec xn (vf h m).toNat,Nat.gcd_comm]
   generalize Nat.gcd xn R=G at *;have CM:=zk cm;have CG:=zk cg;have HFin:=zk hfin;have HRd:=zk (show Rd .u64 (w.drewN q) bo m h from HRb.out)
   clear cm cg hfin hR hA0;go_wp2;go_region_with (first|(go_at_call 152;refine(CM.out _ (by exact HRd.out)).mono ?_;rintro e w' ⟨rfl,q1,rfl⟩)|(go_at_call 151;refine(CG.out _).mono ?_;rintro e w' ⟨rfl,q2,rfl⟩)|(go_at_call 150;refine(zbK G _ (by omega) (by omega)).mono ?_;rintro e w' ⟨xr,kr,cr,fr,rfl,hres,hv'⟩))
   all_goals
    go_wp2;go_ret;refine⟨xr,kr,cr,fr,rfl,(hres.ahead (by repeat(first|exact(zH (Below.refl w.heap.size w) q)|exact Below.refl _ _|refine zH ?_ _|refine Below.drew ?_))).mono (by omega),?_⟩;rw[hv',HFin.out,HVB.out];rw[Int.toNat_natCast,Nat.gcd_comm]
  ·have CA:=zk (λW (hW:Rd .u64 W bo m h)=>zbv bo m cb h W (by omega) hW HLb.out);have CB:=zk (λW (hW:Rd .u64 W ao n f)=>zbv ao n ca f W (by omega) hW HLa.out);have d1:decide ((1:Int)<(n:Int))=true:=by simp;omega
   go_enter func140,ntmps140;go_wp2_with fail
   refine CC.out.mono ?_;rintro e w1 ⟨⟨q,rfl⟩,c,rfl,ho⟩;have hc:c=-1:=by have:=HLt.out;unfold Ord at ho;omega
   subst hc;clear ho;go_wp2_with fail
   refine(CA.out _ (by exact HRb.out)).mono ?_;rintro e w2 ⟨xa',ka,ca',rfl,hresa,hka,hva⟩;have hRb2:=HRa.out.q_ (show Bl w w2 from⟨hresa.bel.os,hresa.bel.tape,hresa.bel.output,hresa.bel.size,hresa.bel.block⟩) (le_refl _);have RESA:=zk hresa;have HVa:=zk hva;have HRb2:=zk hRb2
   clear hresa hva hRb2 CA;go_wp2_with fail
   refine(CB.out _ HRb2.out).mono ?_;rintro e w3 ⟨xb',kb,cb',rfl,hresb,hkb,hvb⟩;have hTwo:Two w.heap.size w3 xa' ka ca' xb' kb cb' (vf h m) (vf f n):=by
    have hz:w.heap.size<=w2.heap.size:=RESA.out.bel.size;have hBp:0<vf f n:=by have:=zaI HLa.out HFa.out (by omega);have:=zab (n-1);omega
    have hle:vf f n<=vf h m:=by have:=HLt.out;omega
    rcases RESA.out.own with⟨_,h0,_⟩|⟨ga,e1,e2,e3,e4,e5,e6⟩
    ·have:=HVa.out;rw[h0]at this;simp[vf]at this;omega
    ·rcases hresb.own with⟨_,h0,_⟩|⟨gb,f1,f2,f3,f4,f5,f6⟩
     ·rw[h0]at hvb;simp[vf]at hvb;omega
     ·refine⟨ga,⟨h,e1,e3,e4,by omega,by simpa using e2,e6.q_ hresb.bel e6.lt,RESA.out.lmc,RESA.out.fm,HVa.out⟩,by omega,hle,.inr ⟨gb,?_,f,f1,f3,f4,by omega,by omega,f6,hresb.lmc,hresb.fm,hvb⟩⟩;have:=e6.lt;omega
   have hb3:Bl w w3:=(show Bl w w2 from⟨RESA.out.bel.os,RESA.out.bel.tape,RESA.out.bel.output,RESA.out.bel.size,RESA.out.bel.block⟩).trans (hresb.bel.mono RESA.out.bel.size);have CS:=zk (zfQ w.heap.size xa' xb' ka ca' kb cb' m (vf h m) (vf f n) w3 hTwo (zar HLb.out) (by omega) hb3.size);have BE3:=zk hb3;clear hTwo hb3 hresb hvb RESA HVa HRb2 CB d1;go_wp2_with fail
   refine CS.out.mono ?_;rintro e w4 ⟨y1,l1,d1,y2,l2,d2,A',B',rfl,hb4,hT,hC,hl2,hA'⟩;obtain⟨g1,⟨P,rfl,o1,o2,o3,o4,hbP,lP,fP,vP⟩,B0,BA,h2⟩:=hT;have BE4:=zk (BE3.out.trans hb4);have HCd:=zk hC;have hl1:l1<=m:=by
    have:=zar HLb.out;exact zeL (lP.mono o2) fP (by rw[vP];omega)
   have HP:=zk (hbP.rd0 o2);have LP:=zk (lP.mono o2);have VP:=zk vP
   clear hb4 hC hbP lP fP vP CS;have hgc:Hid (Nat.gcd A'.toNat B'.toNat=Nat.gcd (vf h m).toNat (vf f n).toNat):=znS HCd.out (by omega) B0 (zz HLb.out) (zz HLa.out);rcases h2 with⟨rfl,rfl,rfl,rfl⟩|⟨g2,hne,Q,rfl,u1,u2,u3,u4,hbQ,lQ,fQ,vQ⟩
   ·have hA0:0<=A':=by omega
    clear B0 BA;go_wp2_with fail
    refine(zbv (some ⟨g1,0,none⟩) l1 d1 P _ (by omega) HP.out LP.out).mono ?_;rintro e w9 ⟨xr,kr,cr,rfl,hres,hkr,hv⟩;have HRS:=zk hres;have HVr:=zk hv
    clear hres hv;go_wp2;go_ret;refine⟨xr,kr,cr,P,rfl,(HRS.out.ahead BE4.out).mono (by omega),?_⟩;rw[HVr.out,VP.out];rw[Nat.gcd_comm];rw[<-hgc.out];simp[Int.toNat_of_nonneg hA0]
   ·obtain rfl:l2=1:=by omega
    obtain⟨x,hx⟩:∃x,Q 0=x:=⟨_,rfl⟩;have hcell:w4.cell? ⟨g2,0,none⟩=some (.int .u64 x):=by rw[<-hx];exact hbQ.cell (j:=0) (by omega)
    have hx01:=lQ 0 (by omega);have hx2:x≠0:=by rw[<-hx];rcases fQ with h|h;omega;exact h
    rw[hx]at hx01
    obtain⟨xn,rfl⟩:=Int.eq_ofNat_of_zero_le hx01.1;have hvB:B'=(xn:Int):=by rw[<-vQ];simp[vf,pw,hx]
    subst hvB;clear hx hbQ lQ fQ vQ B0 BA;have hA0:=zz LP.out;obtain⟨R,hR⟩:∃R:Nat,(vf P l1%(xn:Int))=R:=⟨(vf P l1%(xn:Int)).toNat,by have:=Int.emod_nonneg (vf P l1) (show(xn:Int)≠0 by omega);omega⟩;have hR1:(R:Int)<xn:=by rw[<-hR];exact Int.emod_lt_of_pos _ (by omega)
    have cm:=λW hr'=>zcT (some ⟨g1,0,none⟩) l1 d1 P xn W (by omega) hr' LP.out (by omega) (by omega)
    rw[hR]at cm
    have cg:=λW=>zcV xn R W (by omega) (by omega)
    have hgl:Nat.gcd xn R<18446744073709551616:=Nat.lt_of_le_of_lt (Nat.gcd_le_left _ (by omega)) (by omega);have hfin:Nat.gcd xn R=Nat.gcd (vf P l1).toNat xn:=by
     have e:R=(vf P l1).toNat%xn:=by
      have:((vf P l1).toNat:Int)=vf P l1:=Int.toNat_of_nonneg hA0;have h2:(((vf P l1).toNat%xn:Nat):Int)=vf P l1%(xn:Int):=by rw[Int.natCast_emod,this]
      omega
     rw[e,Nat.gcd_comm (vf P l1).toNat xn,Nat.gcd_rec xn (vf P l1).toNat,Nat.gcd_comm]
    generalize Nat.gcd xn R=G at *;have CM:=zk cm;have CG:=zk cg;have HFin:=zk hfin;have HRd:=zk HP.out
    clear cm cg hfin hR hA0;go_wp2;go_region_with (first|(go_at_call 152;refine(CM.out _ (by exact HRd.out)).mono ?_;rintro e w' ⟨rfl,q1,rfl⟩)|(go_at_call 151;refine(CG.out _).mono ?_;rintro e w' ⟨rfl,q2,rfl⟩)|(go_at_call 150;refine(zbK G _ (by omega) (by omega)).mono ?_;rintro e w' ⟨xr,kr,cr,fr,rfl,hres,hv'⟩))
    all_goals
     go_wp2;go_ret;refine⟨xr,kr,cr,fr,rfl,(hres.ahead (by repeat(first|exact BE4.out|exact Below.refl _ _|refine zH ?_ _|refine Below.drew ?_))).mono (by omega),?_⟩;rw[hv',HFin.out,VP.out];rw[Nat.gcd_comm (vf f n).toNat,<-hgc.out,Int.toNat_natCast]
 ·skip
  have HLt:=zk hlt;clear hlt;rcases(show m=0∨m=1∨2<=m by omega)with hb0|hb1|hb2
  ·have hBz:vf h m=0:=by rw[hb0];rfl
   have HBz:=zk hBz;subst hb0;clear hBz;go_enter func140,ntmps140;go_wp2_with fail
   refine CC.out.mono ?_;rintro e w1 ⟨⟨q,rfl⟩,c,rfl,ho⟩;have hc:0<=c:=by have:=HLt.out;unfold Ord at ho;omega
   clear ho;go_wp2_with fail
   refine(zbv ao n ca f _ (by omega) (show Rd .u64 (w.drewN q) ao n f from HRa.out) HLa.out).mono ?_;rintro e w9 ⟨xr,kr,cr,rfl,hres,hkr,hv⟩;have HRS:=zk hres;have HVr:=zk hv
   clear hres hv;go_wp2;go_ret;refine⟨xr,kr,cr,f,rfl,(HRS.out.ahead (zH (Below.refl w.heap.size w) q)).mono (by omega),?_⟩;rw[HVr.out,show vf f n=vf f n from rfl];rw[show vf h 0=0 from rfl];simp[Int.toNat_of_nonneg (zz HLa.out)]
  ·subst hb1;obtain⟨bb,ob,rfl⟩:=HRb.out.at (by omega);obtain⟨x,hx⟩:∃x,h 0=x:=⟨_,rfl⟩;have hcell:w.cell? ⟨bb,ob,none⟩=some (.int .u64 x):=by rw[<-hx];exact HRb.out.cell (j:=0) (by omega)
   have hx01:=HLb.out 0 (by omega);have hx2:x≠0:=by rw[<-hx];rcases HFb.out with h|h;omega;exact h
   rw[hx]at hx01
   obtain⟨xn,rfl⟩:=Int.eq_ofNat_of_zero_le hx01.1;have HVB:=zk (show vf h 1=(xn:Int) by simp[vf,pw,hx]);clear hx;go_enter func140,ntmps140;go_wp2_with fail
   refine CC.out.mono ?_;rintro e w1 ⟨⟨q,rfl⟩,c,rfl,ho⟩;have hc:0<=c:=by have:=HLt.out;unfold Ord at ho;omega
   clear ho;have hA0:=zz HLa.out;obtain⟨R,hR⟩:∃R:Nat,(vf f n%(xn:Int))=R:=⟨(vf f n%(xn:Int)).toNat,by have:=Int.emod_nonneg (vf f n) (show(xn:Int)≠0 by omega);omega⟩;have hR1:(R:Int)<xn:=by rw[<-hR];exact Int.emod_lt_of_pos _ (by omega)
   have cm:=λW hr'=>zcT ao n ca f xn W (by omega) hr' HLa.out (by omega) (by omega)
   rw[hR]at cm
   have cg:=λW=>zcV xn R W (by omega) (by omega)
   have hgl:Nat.gcd xn R<18446744073709551616:=Nat.lt_of_le_of_lt (Nat.gcd_le_left _ (by omega)) (by omega);have hfin:Nat.gcd xn R=Nat.gcd (vf f n).toNat xn:=by
    have e:R=(vf f n).toNat%xn:=by
     have:((vf f n).toNat:Int)=vf f n:=Int.toNat_of_nonneg hA0;have h2:(((vf f n).toNat%xn:Nat):Int)=vf f n%(xn:Int):=by rw[Int.natCast_emod,this]
     omega
    rw[e,Nat.gcd_comm (vf f n).toNat xn,Nat.gcd_rec xn (vf f n).toNat,Nat.gcd_comm]
   generalize Nat.gcd xn R=G at *;have CM:=zk cm;have CG:=zk cg;have HFin:=zk hfin;have HRd:=zk (show Rd .u64 (w.drewN q) ao n f from HRa.out)
   clear cm cg hfin hR hA0;go_wp2;go_region_with (first|(go_at_call 152;refine(CM.out _ (by exact HRd.out)).mono ?_;rintro e w' ⟨rfl,q1,rfl⟩)|(go_at_call 151;refine(CG.out _).mono ?_;rintro e w' ⟨rfl,q2,rfl⟩)|(go_at_call 150;refine(zbK G _ (by omega) (by omega)).mono ?_;rintro e w' ⟨xr,kr,cr,fr,rfl,hres,hv'⟩))
   all_goals
    go_wp2;go_ret;refine⟨xr,kr,cr,fr,rfl,(hres.ahead (by repeat(first|exact(zH (Below.refl w.heap.size w) q)|exact Below.refl _ _|refine zH ?_ _|refine Below.drew ?_))).mono (by omega),?_⟩;rw[hv',HFin.out,HVB.out];rw[Int.toNat_natCast]
  ·have CA:=zk (λW (hW:Rd .u64 W ao n f)=>zbv ao n ca f W (by omega) hW HLa.out);have CB:=zk (λW (hW:Rd .u64 W bo m h)=>zbv bo m cb h W (by omega) hW HLb.out);have d1:decide ((1:Int)<(m:Int))=true:=by simp;omega
   go_enter func140,ntmps140;go_wp2_with fail
   refine CC.out.mono ?_;rintro e w1 ⟨⟨q,rfl⟩,c,rfl,ho⟩;have hc:0<=c:=by have:=HLt.out;unfold Ord at ho;omega
   clear ho;go_wp2_with fail
   refine(CA.out _ (by exact HRa.out)).mono ?_;rintro e w2 ⟨xa',ka,ca',rfl,hresa,hka,hva⟩;have hRb2:=HRb.out.q_ (show Bl w w2 from⟨hresa.bel.os,hresa.bel.tape,hresa.bel.output,hresa.bel.size,hresa.bel.block⟩) (le_refl _);have RESA:=zk hresa;have HVa:=zk hva;have HRb2:=zk hRb2
   clear hresa hva hRb2 CA;go_wp2_with fail
   refine(CB.out _ HRb2.out).mono ?_;rintro e w3 ⟨xb',kb,cb',rfl,hresb,hkb,hvb⟩;have hTwo:Two w.heap.size w3 xa' ka ca' xb' kb cb' (vf f n) (vf h m):=by
    have hz:w.heap.size<=w2.heap.size:=RESA.out.bel.size;have hBp:0<vf h m:=by have:=zaI HLb.out HFb.out (by omega);have:=zab (m-1);omega
    have hle:vf h m<=vf f n:=by have:=HLt.out;omega
    rcases RESA.out.own with⟨_,h0,_⟩|⟨ga,e1,e2,e3,e4,e5,e6⟩
    ·have:=HVa.out;rw[h0]at this;simp[vf]at this;omega
    ·rcases hresb.own with⟨_,h0,_⟩|⟨gb,f1,f2,f3,f4,f5,f6⟩
     ·rw[h0]at hvb;simp[vf]at hvb;omega
     ·refine⟨ga,⟨f,e1,e3,e4,by omega,by simpa using e2,e6.q_ hresb.bel e6.lt,RESA.out.lmc,RESA.out.fm,HVa.out⟩,by omega,hle,.inr ⟨gb,?_,h,f1,f3,f4,by omega,by omega,f6,hresb.lmc,hresb.fm,hvb⟩⟩;have:=e6.lt;omega
   have hb3:Bl w w3:=(show Bl w w2 from⟨RESA.out.bel.os,RESA.out.bel.tape,RESA.out.bel.output,RESA.out.bel.size,RESA.out.bel.block⟩).trans (hresb.bel.mono RESA.out.bel.size);have CS:=zk (zfQ w.heap.size xa' xb' ka ca' kb cb' n (vf f n) (vf h m) w3 hTwo (zar HLa.out) (by omega) hb3.size);have BE3:=zk hb3;clear hTwo hb3 hresb hvb RESA HVa HRb2 CB d1;go_wp2_with fail
   refine CS.out.mono ?_;rintro e w4 ⟨y1,l1,d1,y2,l2,d2,A',B',rfl,hb4,hT,hC,hl2,hA'⟩;obtain⟨g1,⟨P,rfl,o1,o2,o3,o4,hbP,lP,fP,vP⟩,B0,BA,h2⟩:=hT;have BE4:=zk (BE3.out.trans hb4);have HCd:=zk hC;have hl1:l1<=n:=by
    have:=zar HLa.out;exact zeL (lP.mono o2) fP (by rw[vP];omega)
   have HP:=zk (hbP.rd0 o2);have LP:=zk (lP.mono o2);have VP:=zk vP
   clear hb4 hC hbP lP fP vP CS;have hgc:Hid (Nat.gcd A'.toNat B'.toNat=Nat.gcd (vf f n).toNat (vf h m).toNat):=znS HCd.out (by omega) B0 (zz HLa.out) (zz HLb.out);rcases h2 with⟨rfl,rfl,rfl,rfl⟩|⟨g2,hne,Q,rfl,u1,u2,u3,u4,hbQ,lQ,fQ,vQ⟩
   ·have hA0:0<=A':=by omega
    clear B0 BA;go_wp2_with fail
    refine(zbv (some ⟨g1,0,none⟩) l1 d1 P _ (by omega) HP.out LP.out).mono ?_;rintro e w9 ⟨xr,kr,cr,rfl,hres,hkr,hv⟩;have HRS:=zk hres;have HVr:=zk hv
    clear hres hv;go_wp2;go_ret;refine⟨xr,kr,cr,P,rfl,(HRS.out.ahead BE4.out).mono (by omega),?_⟩;rw[HVr.out,VP.out];rw[<-hgc.out];simp[Int.toNat_of_nonneg hA0]
   ·obtain rfl:l2=1:=by omega
    obtain⟨x,hx⟩:∃x,Q 0=x:=⟨_,rfl⟩;have hcell:w4.cell? ⟨g2,0,none⟩=some (.int .u64 x):=by rw[<-hx];exact hbQ.cell (j:=0) (by omega)
    have hx01:=lQ 0 (by omega);have hx2:x≠0:=by rw[<-hx];rcases fQ with h|h;omega;exact h
    rw[hx]at hx01
    obtain⟨xn,rfl⟩:=Int.eq_ofNat_of_zero_le hx01.1;have hvB:B'=(xn:Int):=by rw[<-vQ];simp[vf,pw,hx]
    subst hvB;clear hx hbQ lQ fQ vQ B0 BA;have hA0:=zz LP.out;obtain⟨R,hR⟩:∃R:Nat,(vf P l1%(xn:Int))=R:=⟨(vf P l1%(xn:Int)).toNat,by have:=Int.emod_nonneg (vf P l1) (show(xn:Int)≠0 by omega);omega⟩;have hR1:(R:Int)<xn:=by rw[<-hR];exact Int.emod_lt_of_pos _ (by omega)
    have cm:=λW hr'=>zcT (some ⟨g1,0,none⟩) l1 d1 P xn W (by omega) hr' LP.out (by omega) (by omega)
    rw[hR]at cm
    have cg:=λW=>zcV xn R W (by omega) (by omega)
    have hgl:Nat.gcd xn R<18446744073709551616:=Nat.lt_of_le_of_lt (Nat.gcd_le_left _ (by omega)) (by omega);have hfin:Nat.gcd xn R=Nat.gcd (vf P l1).toNat xn:=by
     have e:R=(vf P l1).toNat%xn:=by
      have:((vf P l1).toNat:Int)=vf P l1:=Int.toNat_of_nonneg hA0;have h2:(((vf P l1).toNat%xn:Nat):Int)=vf P l1%(xn:Int):=by rw[Int.natCast_emod,this]
      omega
     rw[e,Nat.gcd_comm (vf P l1).toNat xn,Nat.gcd_rec xn (vf P l1).toNat,Nat.gcd_comm]
    generalize Nat.gcd xn R=G at *;have CM:=zk cm;have CG:=zk cg;have HFin:=zk hfin;have HRd:=zk HP.out
    clear cm cg hfin hR hA0;go_wp2;go_region_with (first|(go_at_call 152;refine(CM.out _ (by exact HRd.out)).mono ?_;rintro e w' ⟨rfl,q1,rfl⟩)|(go_at_call 151;refine(CG.out _).mono ?_;rintro e w' ⟨rfl,q2,rfl⟩)|(go_at_call 150;refine(zbK G _ (by omega) (by omega)).mono ?_;rintro e w' ⟨xr,kr,cr,fr,rfl,hres,hv'⟩))
    all_goals
     go_wp2;go_ret;refine⟨xr,kr,cr,fr,rfl,(hres.ahead (by repeat(first|exact BE4.out|exact Below.refl _ _|refine zH ?_ _|refine Below.drew ?_))).mono (by omega),?_⟩;rw[hv',HFin.out,VP.out];rw[<-hgc.out,Int.toNat_natCast]
end Go.Proofs.YtlbgphjdibbkjaaGreat
