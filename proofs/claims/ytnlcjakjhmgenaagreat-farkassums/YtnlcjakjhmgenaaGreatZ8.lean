/-
 Walks.
-/
import Derived.Test.YtnlcjakjhmgenaaGreatZ7
import Derived.BigQuiet
set_option maxRecDepth 100000
set_option maxHeartbeats 16000000
namespace Go.Proofs.YtnlcjakjhmgenaaGreat
open Value (slice)
open Go.Proofs.Tryz
open Go.RowKit
def GAn (er:Int) (K:Nat) (p:List Rat) (v:Value) (w:World):Prop:=∃a n c,v=slice a n c/\ANs er K w a n p
def GVn (er:Int) (K:Nat) (q:Rat) (v:Value) (w:World):Prop:=∃s x n c f y m d g,v=.agg #[.bool s,slice x n c,slice y m d]/\VNs er K w ⟨s,x,n,c,f,y,m,d,g⟩ q
theorem GAn.q_ {er K p v w w'} (h:GAn er K p v w) (hb:Bl w w'):GAn er K p v w':=by obtain⟨a,n,c,e,h⟩:=h;exact⟨a,n,c,e,h.q_ hb⟩
theorem GVn.q_ {er K q v w w'} (h:GVn er K q v w) (hb:Bl w w'):GVn er K q v w':=by obtain⟨s,x,n,c,f,y,m,d,g,e,h⟩:=h;exact⟨s,x,n,c,f,y,m,d,g,e,h.q_ hb⟩
theorem ANs.box {er K w w' a n p B t} (h:ANs er K w a n p) (hB:Bk w B [.bool false,slice none 0 0,slice none 0 0] t) (hk:Kp w w') (hne:∀k,k≠B->w'.heap[k]?=w.heap[k]?):ANs er K w' a n p:=by
 rcases h with h|⟨h1,h2,h3⟩
 ·exact .inl h
 ·exact .inr ⟨h1,h2,h3.box hB hk hne⟩
theorem VNs.kp {er K w w' t q} (h:VNs er K w t q) (hk:Kp w w'):VNs er K w' t q:=by
 rcases h with h|⟨h1,h2⟩
 ·exact .inl h
 ·exact .inr ⟨h1,Rn.kp h2 hk⟩
theorem CmbAns.an {L w w' e er cs bs} (h:CmbAns L w w' e er cs bs):∃v,e=.returned v/\Bl w w'/\GT3v (GAn (cE er bs) (KC L) ((List.range cs.length).map (cmbQ bs))) (GVn (cE er bs) (KC L) (cmbS bs)) (.int .i64 (cE er bs)) v w':=by
 obtain⟨hb,⟨h0,rfl⟩|⟨h0,hi,rfl⟩|⟨h0,hi,B,s,x,n,c,f,y,m,d,g,hB,rfl,hr,hn⟩⟩:=h
 ·have e1:cE er bs=er:=by unfold cE;rw[if_neg h0]
  rw[e1];exact⟨_,rfl,hb,_,_,rfl,⟨none,0,0,rfl,.inl ⟨h0,rfl⟩⟩,⟨false,none,0,0,λ_=>0,none,0,0,λ_=>0,rfl,.inl ⟨h0,rfl⟩⟩⟩
 ·have e1:cE er bs=8:=by unfold cE;rw[if_pos h0,if_pos hi]
  rw[e1];exact⟨_,rfl,hb,_,_,rfl,⟨none,0,0,rfl,.inl ⟨by decide,rfl⟩⟩,⟨false,none,0,0,λ_=>0,none,0,0,λ_=>0,rfl,.inl ⟨by decide,rfl⟩⟩⟩
 ·have e1:cE er bs=0:=by unfold cE;rw[if_pos h0,hi];rfl
  rw[e1];exact⟨_,rfl,hb,_,_,rfl,⟨_,_,_,rfl,.inr ⟨rfl,by simp,hr⟩⟩,⟨s,x,n,c,f,y,m,d,g,rfl,.inr ⟨rfl,hn⟩⟩⟩
theorem znJ {er cs rs} (h:csE er cs rs=0):er=0:=by
 unfold csE at h;by_cases e:er=0
 ·exact e
 ·rw[if_neg e]at h;exact absurd h e
theorem zlH {w M M' a0 a1 a2 a3 k0 c0 k1 c1 k2 c2 k3 c3 X0 X1 X2 X3 Y0 Y1 Y2 Y3} (h:TmK 8 w M M') (hN:MoN M) (t:T4 w a0 a1 a2 a3 k0 X0 Y0 k1 X1 Y1 k2 X2 Y2 k3 X3 Y3) (s0:ShK 8 k0 X0) (s1:ShK 8 k1 X1) (s2:ShK 8 k2 X2) (s3:ShK 8 k3 X3) :
  Calls prog 12 #[M'.val,.agg #[slice a0 k0 c0,slice a1 k1 c1,slice a2 k2 c2,slice a3 k3 c3]] w λe w'=>CmbAns 8 w w' e (cbE M k0 X0 k1 X1 k2 X2 k3 X3) (zag M) (bdA (zag M) (zam M) (zN k0 X0) (zN k1 X1) (zN k2 X2) (zN k3 X3)):=by
 have hE:cbE M' k0 Y0 k1 Y1 k2 Y2 k3 Y3=cbE M k0 X0 k1 X1 k2 X2 k3 X3:=by unfold cbE zit;rw[h.1.chk,h.1.ck,h.1.rk,zhi t.t0,zhi t.t1,zhi t.t2,zhi t.t3]
 exact zdi (L:=8) (c0:=c0) (c1:=c1) (c2:=c2) (c3:=c3) (off:=nq M.off) h.2.1 t.t0.1 t.t1.1 t.t2.1 t.t3.1 (by have:=s0.1;omega) (by have:=s1.1;omega) (by have:=s2.1;omega) (by have:=s3.1;omega) hE (λhe=>by
  obtain⟨h1,⟨f0,f1,f2,f3⟩,g0,g1,g2,g3⟩:=zhJ he;obtain⟨a,b⟩:=h.valL 8 (by decide) (by decide) hN h1;exact⟨a,b,⟨t.t0.valK s0 f0,t.t1.valK s1 f1,t.t2.valK s2 f2,t.t3.valK s3 f3⟩,⟨zbg _ _,zbg _ _,zbg _ _,zbg _ _⟩,by rw[zfD];exact g0,by rw[zfD];exact g1,by rw[zfV];exact g2,by rw[zfV];exact g3⟩) (by decide) (by decide)
theorem zjr {w M M'} (h:TmK 8 w M M') (hN:MoN M):Calls prog 16 #[M'.val] w λe w'=>CsgAns w w' e (zar M) (zag M) (zam M) :=
 zev (L:=8) (off:=nq M.off) h.2.1 (λa b=>(h.2.2.2 a b).mob (by decide)) h.1.chk (λhe=>h.valL 8 (by decide) (by decide) hN he)
theorem zhw {w M a0 a1 a2 a3 k0 c0 k1 c1 k2 c2 k3 c3 X0 X1 X2 X3} (hX:MoX w M) (hN:MoN M) (hC:MoC M) (g0:Rr w a0 k0 X0) (g1:Rr w a1 k1 X1) (g2:Rr w a2 k2 X2) (g3:Rr w a3 k3 X3) (y0:k0<=9223372036854775807) (y1:k1<=9223372036854775807) (y2:k2<=9223372036854775807) (y3:k3<=9223372036854775807) :
  Calls prog 4 #[M.val,.agg #[slice a0 k0 c0,slice a1 k1 c1,slice a2 k2 c2,slice a3 k3 c3]] w λe w'=>e=.returned (.bool true)/\Bl w w':=by
 obtain⟨lb,hlb⟩:∃t,lgM 8 M=t:=⟨_,rfl⟩;obtain⟨la,hla⟩:∃t,(lgL 8 k0 X0 && (lgL 8 k1 X1 && (lgL 8 k2 X2 && lgL 8 k3 X3)))=t:=⟨_,rfl⟩;have CL:=zk (λw' (hw:Bl w w')=>zne (w:=w') (K:=8) (hX.q_ hw).light.1 (hX.q_ hw).light.2);rw[hlb]at CL
 have CA:=zk (λw' (hw:Bl w w')=>zlq (c0:=c0) (c1:=c1) (c2:=c2) (c3:=c3) 8 (g0.q_ hw) (g1.q_ hw) (g2.q_ hw) (g3.q_ hw) y0 y1 y2 y3);rw[hla]at CA
 obtain⟨N,hN'⟩:∃N,N=M:=⟨_,rfl⟩;have HC:Hid (lb=true->la=true->In8 w N/\(Rl w a0 k0 X0/\ShK 8 k0 X0)/\(Rl w a1 k1 X1/\ShK 8 k1 X1)/\(Rl w a2 k2 X2/\ShK 8 k2 X2)/\(Rl w a3 k3 X3/\ShK 8 k3 X3)):=λe1 e2=>by
  subst hN';subst e1;subst e2
  simp only[Bool.and_eq_true]at hla;have key:∀{a:Option Addr} {k:Nat} {X:Nat->Nm},Rr w a k X->lgL 8 k X=true->Rl w a k X:=λh q=>by
   simp only[lgL,Bool.and_eq_true]at q;exact h.rl q.2 (by decide)
  exact⟨⟨hX,hN,hC,zrZ hlb⟩,⟨key g0 hla.1,zfg hla.1⟩,⟨key g1 hla.2.1,zfg hla.2.1⟩,⟨key g2 hla.2.2.1,zfg hla.2.2.1⟩,⟨key g3 hla.2.2.2,zfg hla.2.2.2⟩⟩
 clear hX hN hC g0 g1 g2 g3 hlb hla y0 y1 y2 y3;obtain⟨⟨s,x,n,c,f,y,m,d,g⟩,ca,ck,cc,C,ra,rk,rc,R⟩:=M;have hNv:Hid (N.val=.agg #[.bool s,slice x n c,slice y m d,slice ca ck cc,slice ra rk rc]):=by rw[hN'];exact rfl
 clear hN';replace CL:Hid (∀w',Bl w w'->Calls prog 6 #[.agg #[.bool s,slice x n c,slice y m d,slice ca ck cc,slice ra rk rc],.int .i64 8] w' λe w2=>e=.returned (.bool lb)/\Bl w' w2):=CL;show Calls prog 4 #[.agg #[.bool s,slice x n c,slice y m d,slice ca ck cc,slice ra rk rc],.agg #[slice a0 k0 c0,slice a1 k1 c1,slice a2 k2 c2,slice a3 k3 c3]] w _;have HB:=zk (zu (zA w (.cells #[.bool s,slice x n c,slice y m d,slice ca ck cc,slice ra rk rc] 28)) (.cells #[slice a0 k0 c0,slice a1 k1 c1,slice a2 k2 c2,slice a3 k3 c3] 31));have BM:=zk ((zH w [.bool s,slice x n c,slice y m d,slice ca ck cc,slice ra rk rc] 28).q_ (zA _ (.cells #[slice a0 k0 c0,slice a1 k1 c1,slice a2 k2 c2,slice a3 k3 c3] 31)));have BA:=zk (zaV w (.cells #[.bool s,slice x n c,slice y m d,slice ca ck cc,slice ra rk rc] 28) [slice a0 k0 c0,slice a1 k1 c1,slice a2 k2 c2,slice a3 k3 c3] 31);go_enter func4,ntmps4;go_wp2_with fail
 generalize((w.alloc (.cells #[.bool s,slice x n c,slice y m d,slice ca ck cc,slice ra rk rc] 28)).alloc (.cells #[slice a0 k0 c0,slice a1 k1 c1,slice a2 k2 c2,slice a3 k3 c3] 31))=v0 at *;refine(zlL _).mono ?_;rintro e v1 ⟨rfl,hb⟩;replace HB:=zI HB hb;replace BM:=zk (BM.out.q_ hb);replace BA:=zk (BA.out.q_ hb)
 clear hb;obtain⟨r0,r1,r2,r3,r4⟩:=bk5 BM.out;go_wp2_with fail
 clear r0 r1 r2 r3 r4;refine(CL.out _ HB.out).mono ?_;rintro e v2 ⟨rfl,hb⟩;replace HB:=zI HB hb;replace BM:=zk (BM.out.q_ hb);replace BA:=zk (BA.out.q_ hb)
 clear hb;clear CL;cases lb
 ·go_wp2;go_ret;exact⟨rfl,HB.out⟩
 obtain⟨t0,t1,t2,t3⟩:=bk4 BA.out;go_wp2_with fail
 clear t0 t1 t2 t3;refine(CA.out _ HB.out).mono ?_;rintro e v3 ⟨rfl,hb⟩;replace HB:=zI HB hb;replace BM:=zk (BM.out.q_ hb);replace BA:=zk (BA.out.q_ hb)
 clear hb;clear CA;cases la
 ·go_wp2;go_ret;exact⟨rfl,HB.out⟩
 replace HC:=zk (HC.out (by first|rfl|trivial) (by first|rfl|trivial));have T1:Hid (∀W,Bl w W->Calls prog 9 #[.agg #[.bool s,slice x n c,slice y m d,slice ca ck cc,slice ra rk rc]] W λe w'=>∃(vm:Value) (M':Mo),e=.returned vm/\Bl W w'/\Hid (vm=M'.val/\TmK 8 w' N M')):=λW hW=>by
  have:=zlb (HC.out.1.x.q_ hW) HC.out.1.n HC.out.1.k (by decide);rw[hNv.out]at this
  exact this
 have T2:=zk (λW (hW:Bl w W)=>zmj (c0:=c0) (c1:=c1) (c2:=c2) (c3:=c3) (HC.out.2.1.1.q_ hW) (HC.out.2.2.1.1.q_ hW) (HC.out.2.2.2.1.1.q_ hW) (HC.out.2.2.2.2.1.q_ hW) HC.out.2.1.2 HC.out.2.2.1.2 HC.out.2.2.2.1.2 HC.out.2.2.2.2.2 (by decide));obtain⟨ce,hce⟩:∃t,cE (cbE N k0 X0 k1 X1 k2 X2 k3 X3) (bdA (zag N) (zam N) (zN k0 X0) (zN k1 X1) (zN k2 X2) (zN k3 X3))=t:=⟨_,rfl⟩;obtain⟨pl,hpl⟩:∃t,(List.range (zag N).length).map (cmbQ (bdA (zag N) (zam N) (zN k0 X0) (zN k1 X1) (zN k2 X2) (zN k3 X3)))=t:=⟨_,rfl⟩;obtain⟨fs,hfs⟩:∃t,cmbS (bdA (zag N) (zam N) (zN k0 X0) (zN k1 X1) (zN k2 X2) (zN k3 X3))=t:=⟨_,rfl⟩;obtain⟨cx,hcx⟩:∃t,csE (zar N) (zag N) (zam N)=t:=⟨_,rfl⟩;obtain⟨lr,hlr⟩:∃t,zdc (zam N).length (jrw (zag N) (zam N))=t:=⟨_,rfl⟩;obtain⟨lc,hlc⟩:∃t,zdc (zag N).length (jcl (zag N))=t:=⟨_,rfl⟩;have HPL:Hid (ce=0->pl.length<=64):=λe=>by
  obtain⟨h1,_⟩:=zpN (hce.trans e);have:=(zbB (HC.out.1.val (zhJ h1).1).2).cl;rw[<-hpl];simpa using this
 have HLC:Hid (cx=0->lr.length<=64/\lr.length<=64/\lc.length<=64/\lc.length<=64):=λe=>by
  have mp:=zbB (HC.out.1.val (znJ (hcx.trans e))).2;have h1:=mp.cl;have h2:=mp.rl
  rw[<-hlr,<-hlc,zbf,zbf];exact⟨h2,h2,h1,h1⟩
 have CM:Hid (∀W vm M' b0 d0 Y0 b1 d1 Y1 b2 d2 Y2 b3 d3 Y3,(vm=M'.val/\TmK 8 W N M')->T4 W b0 b1 b2 b3 k0 X0 Y0 k1 X1 Y1 k2 X2 Y2 k3 X3 Y3->Calls prog 12 #[vm,.agg #[slice b0 k0 d0,slice b1 k1 d1,slice b2 k2 d2,slice b3 k3 d3]] W λe w'=>∃v,e=.returned v/\Bl W w'/\GT3v (GAn ce (KC 8) pl) (GVn ce (KC 8) fs) (.int .i64 ce) v w'):=λW vm M' b0 d0 Y0 b1 d1 Y1 b2 d2 Y2 b3 d3 Y3 h1 h2=>by
  have:=zlH (c0:=d0) (c1:=d1) (c2:=d2) (c3:=d3) h1.2 HC.out.1.n h2 HC.out.2.1.2 HC.out.2.2.1.2 HC.out.2.2.2.1.2 HC.out.2.2.2.2.2;rw[<-h1.1]at this
  refine this.mono ?_;intro e w' h;have:=h.an;rw[hce,hpl,hfs]at this
  exact this
 have DC:Hid (∀W,Bl w W->Calls prog 13 #[.agg #[.bool s,slice x n c,slice y m d,slice ca ck cc,slice ra rk rc],.agg #[slice a0 k0 c0,slice a1 k1 c1,slice a2 k2 c2,slice a3 k3 c3]] W λe w'=>zqi W w' e ce pl fs):=λW hW=>by
  have:=zhA (c0:=c0) (c1:=c1) (c2:=c2) (c3:=c3) (HC.out.1.q_ hW) (HC.out.2.1.1.q_ hW) HC.out.2.1.2 (HC.out.2.2.1.1.q_ hW) HC.out.2.2.1.2 (HC.out.2.2.2.1.1.q_ hW) HC.out.2.2.2.1.2 (HC.out.2.2.2.2.1.q_ hW) HC.out.2.2.2.2.2;rw[hce,hpl,hfs,hNv.out]at this
  exact this
 have CX:Hid (∀W vm M',(vm=M'.val/\TmK 8 W N M')->Calls prog 16 #[vm] W λe w'=>zgc W w' e cx lr lc):=λW vm M' h1=>by
  have:=zjr h1.2 HC.out.1.n;rw[<-h1.1]at this
  refine this.mono ?_;intro e w' h;have:=h.crz;rw[hcx,hlr,hlc]at this
  exact this
 have DX:Hid (∀W,Bl w W->Calls prog 17 #[.agg #[.bool s,slice x n c,slice y m d,slice ca ck cc,slice ra rk rc]] W λe w'=>zgc W w' e cx lr lc):=λW hW=>by
  have:=zgi (HC.out.1.q_ hW);rw[hcx,hlr,hlc,hNv.out]at this
  exact this
 clear HC hNv hce hpl hfs hcx hlr hlc;go_upto_region 5 with fail
 obtain⟨r0,r1,r2,r3,r4⟩:=bk5 BM.out;obtain⟨t0,t1,t2,t3⟩:=bk4 BA.out;have hbd:=Below.drew (Below.refl v3.heap.size v3);replace HB:=zI HB hbd;replace BM:=zk (BM.out.q_ hbd);replace BA:=zk (BA.out.q_ hbd)
 clear hbd;refine wp_region_held_drew (S:=(λw'=>w'.cell? ⟨w.heap.size,0,none⟩=some (.bool s)/\w'.cell? ⟨w.heap.size,1,none⟩=some (slice x n c)/\w'.cell? ⟨w.heap.size,2,none⟩=some (slice y m d)/\w'.cell? ⟨w.heap.size,3,none⟩=some (slice ca ck cc)/\w'.cell? ⟨w.heap.size,4,none⟩=some (slice ra rk rc)/\w'.cell? ⟨w.heap.size+1,0,none⟩=some (slice a0 k0 c0)/\w'.cell? ⟨w.heap.size+1,1,none⟩=some (slice a1 k1 c1)/\w'.cell? ⟨w.heap.size+1,2,none⟩=some (slice a2 k2 c2)/\w'.cell? ⟨w.heap.size+1,3,none⟩=some (slice a3 k3 c3))) (by kernel_rfl) ?_ (λhHeld=>?_)
 ·exact⟨kCd r0,kCd r1,kCd r2,kCd r3,kCd r4,kCd t0,kCd t1,kCd t2,kCd t3⟩
 generalize v3.drew=wd2 at *;clear r0 r1 r2 r3 r4 t0 t1 t2 t3;refine zB 0 ?_;refine zB 2 ?_;simp only[zv,Act.put];refine(show wpAnyH _ _ _ _ _ (8+3) _ _ _ from zbv (λj v w=>match j with|1=>GTw 8 N v w|3=>GT4 k0 X0 k1 X1 k2 X2 k3 X3 v w|4=>GT3v (GAn ce (KC 8) pl) (GVn ce (KC 8) fs) (.int .i64 ce) v w|5=>GT3v (GAn ce (KC 8) pl) (GVn ce (KC 8) fs) (.int .i64 ce) v w|6=>GAn ce (KC 8) pl v w|7=>GVn ce (KC 8) fs v w|8=>(λv (_:World)=>v=.int .i64 ce) v w|9=>GBx wd2.heap.size [.bool false,slice none 0 0,slice none 0 0] 24 v w|_=>True) [(1,25),(3,27),(4,28),(9,6),(5,23),(6,29),(7,30),(8,31)] [1,3,4,9] [5,6,7,8] [10,11,12] _ _ _ 3 ?k1 ?k4 ?kn ?kq ?k2 ?k3 ?k5 ?kt ?k6 ?k8)
 case k1=>kernel_rfl
 case k4=>kernel_rfl
 case kn=>kernel_rfl
 case kq=>exact λ_ _ _ _ _ h=>h
 case k2=>exact λw w' h hb=>⟨kCb hb h.1,kCb hb h.2.1,kCb hb h.2.2.1,kCb hb h.2.2.2.1,kCb hb h.2.2.2.2.1,kCb hb h.2.2.2.2.2.1,kCb hb h.2.2.2.2.2.2.1,kCb hb h.2.2.2.2.2.2.2.1,kCb hb h.2.2.2.2.2.2.2.2⟩
 case k3 =>
  intro j v w w' h hb
  split at h <;> first|exact GTw.q_ h hb|exact GT4.q_ h hb|exact GT3v.q_ (λa h=>GAn.q_ h hb) (λa h=>GVn.q_ h hb) h|exact GAn.q_ h hb|exact GVn.q_ h hb|exact GBx.q_ h hb|exact h|trivial
 case k8=>exact hHeld
 case k5 =>
  intro i hi;simp only[List.mem_cons,List.not_mem_nil,or_false]at hi;rcases hi with rfl|rfl|rfl|rfl
  ·refine⟨_,rfl,λu w5 hS hb5 hd K hK=>?_⟩;have hw5:=bUp HB.out hb5;simp only[zal,zv,Act.put]at hK ⊢;go_simp
   go_at_call 9
   refine(T1.out _ hw5).mono ?_;rintro e w6 ⟨vm,M',rfl,hb6,hh⟩
   (try go_wp2_with fail)
   exact hK.out _ _ hb6 ⟨M',hh.out.1,hh.out.2⟩
  ·refine⟨_,rfl,λu w5 hS hb5 hd K hK=>?_⟩;have hw5:=bUp HB.out hb5;simp only[zal,zv,Act.put]at hK ⊢;go_simp
   go_at_call 10
   refine(T2.out _ hw5).mono ?_;rintro e w6 ⟨b0,d0,Y0,b1,d1,Y1,b2,d2,Y2,b3,d3,Y3,rfl,hb6,hh⟩
   (try go_wp2_with fail)
   exact hK.out _ _ hb6 ⟨b0,d0,Y0,b1,d1,Y1,b2,d2,Y2,b3,d3,Y3,rfl,hh.out⟩
  ·refine⟨_,rfl,λu w5 hS hb5 hd K hK=>?_⟩;have hw5:=bUp HB.out hb5;have hc:Calls prog 12 #[u 1,u 3] w5 λe w'=>∃v,e=.returned v/\Bl w5 w'/\GT3v (GAn ce (KC 8) pl) (GVn ce (KC 8) fs) (.int .i64 ce) v w':=by
    have h1:GTw 8 N (u 1) w5:=hd 1 (by kernel_rfl) (by kernel_rfl);have h3:GT4 k0 X0 k1 X1 k2 X2 k3 X3 (u 3) w5:=hd 3 (by kernel_rfl) (by kernel_rfl);obtain⟨M',e1,hM⟩:=h1;obtain⟨b0,d0,Y0,b1,d1,Y1,b2,d2,Y2,b3,d3,Y3,e3b,hQ⟩:=h3;rw[e3b];exact CM.out _ _ M' b0 d0 Y0 b1 d1 Y1 b2 d2 Y2 b3 d3 Y3 ⟨e1,hM⟩ hQ
   simp only[zal,zv,Act.put]at hK ⊢;go_simp
   go_at_call 12
   refine hc.mono ?_;rintro e w6 ⟨v,rfl,hb6,hr⟩
   (try go_wp2_with fail)
   exact hK.out _ _ hb6 hr
  ·refine⟨_,rfl,λu w5 hS hb5 hd K hK=>?_⟩;have hw5:=bUp HB.out hb5;simp only[zal,zv,Act.put]at hK ⊢;go_simp;exact hK.out _ _ (zA w5 _) ⟨w5.heap.size,rfl,zH w5 [.bool false,slice none 0 0,slice none 0 0] 24,hb5.size⟩
 case kt =>
  intro i hi;simp only[List.mem_cons,List.not_mem_nil,or_false]at hi;rcases hi with rfl|rfl|rfl|rfl
  ·refine⟨_,rfl,λu w5 hS hd=>?_⟩;have h4:GT3v (GAn ce (KC 8) pl) (GVn ce (KC 8) fs) (.int .i64 ce) (u 4) w5:=hd 4 (by kernel_rfl) (by kernel_rfl);obtain⟨va,vb,e4,hA,hB⟩:=h4;simp only[zal,zv,Act.put];simp only[e4];exact⟨.tuple #[va,vb,.int .i64 ce],Or.inl ⟨by rfl,λw0 hSw=>by go_simp <;> with_reducible rfl⟩,⟨va,vb,rfl,hA,hB⟩⟩
  ·refine⟨_,rfl,λu w5 hS hd=>?_⟩;have h5:GT3v (GAn ce (KC 8) pl) (GVn ce (KC 8) fs) (.int .i64 ce) (u 5) w5:=hd 5 (by kernel_rfl) (by kernel_rfl);obtain⟨va,vb,e5,hA,hB⟩:=h5;simp only[zal,zv,Act.put];simp only[e5];exact⟨va,Or.inl ⟨by rfl,λw0 hSw=>by go_simp <;> with_reducible rfl⟩,hA⟩
  ·refine⟨_,rfl,λu w5 hS hd=>?_⟩;have h5:GT3v (GAn ce (KC 8) pl) (GVn ce (KC 8) fs) (.int .i64 ce) (u 5) w5:=hd 5 (by kernel_rfl) (by kernel_rfl);obtain⟨va,vb,e5,hA,hB⟩:=h5;simp only[zal,zv,Act.put];simp only[e5];exact⟨vb,Or.inl ⟨by rfl,λw0 hSw=>by go_simp <;> with_reducible rfl⟩,hB⟩
  ·refine⟨_,rfl,λu w5 hS hd=>?_⟩;have h5:GT3v (GAn ce (KC 8) pl) (GVn ce (KC 8) fs) (.int .i64 ce) (u 5) w5:=hd 5 (by kernel_rfl) (by kernel_rfl);obtain⟨va,vb,e5,hA,hB⟩:=h5;simp only[zal,zv,Act.put];simp only[e5];exact⟨.int .i64 ce,Or.inl ⟨by rfl,λw0 hSw=>by go_simp <;> with_reducible rfl⟩,rfl⟩
 case k6 =>
  intro u w6 hS6 hb6 hg;have h6:GAn ce (KC 8) pl (u 6) w6:=hg 6 (by simp);have h7:GVn ce (KC 8) fs (u 7) w6:=hg 7 (by simp);have h8:u 8=.int .i64 ce:=hg 8 (by simp);have h9:GBx wd2.heap.size [.bool false,slice none 0 0,slice none 0 0] 24 (u 9) w6:=hg 9 (by simp);obtain⟨la,ln,lc9,e6,hl⟩:=h6;obtain⟨s7,x7,n7,c7,f7,y7,m7,d7,g7,e7,hq7⟩:=h7;obtain⟨bx7,e9,hBX,hge⟩:=h9;simp only[zal,zv,Act.put];simp only[e6,e7,h8,e9];clear e6 e7 h8 e9 hg;obtain⟨hx1,hx2,hx3,hbk⟩:=st3 s7 x7 n7 c7 y7 m7 d7 rfl hBX hb6 hge;obtain⟨l0_,l1_,l2_⟩:=bk3 hBX;have ff:=hBX.frozen;have hl2:=hl.box hBX hx2 hx3;refine zB 10 ?_;simp only[zv,Act.put];refine rdO 11 (λK hK=>?_);go_simp;generalize(((w6.setCell ⟨bx7,0,none⟩ (.bool s7)).setCell ⟨bx7,1,none⟩ (slice x7 n7 c7)).setCell ⟨bx7,2,none⟩ (slice y7 m7 d7))=zF at *;have HA:=zk hl2;have HV:=zk (hq7.kp hx2);have B7:=zk hbk
  replace HB:=zI HB hx1;replace BM:=zk (BM.out.q_ hx1);replace BA:=zk (BA.out.q_ hx1)
  refine hK.out _ _ ?_ (λhHd=>?_)
  ·exact⟨kCb hx1 hHeld.1,kCb hx1 hHeld.2.1,kCb hx1 hHeld.2.2.1,kCb hx1 hHeld.2.2.2.1,kCb hx1 hHeld.2.2.2.2.1,kCb hx1 hHeld.2.2.2.2.2.1,kCb hx1 hHeld.2.2.2.2.2.2.1,kCb hx1 hHeld.2.2.2.2.2.2.2.1,kCb hx1 hHeld.2.2.2.2.2.2.2.2⟩
  clear hK K;try simp only[zv,Act.put]
  refine zB 12 ?_;simp only[zv,Act.put];refine dnO ?_;clear hHd hHeld hS6 hb6 hx1 hx2 hx3 hbk hl hl2 hq7 ff hBX hge l0_ l1_ l2_ CM T2;obtain⟨r0,r1,r2,r3,r4⟩:=bk5 BM.out;obtain⟨t0,t1,t2,t3⟩:=bk4 BA.out;go_wp2_with fail
  clear r0 r1 r2 r3 r4 t0 t1 t2 t3;refine(DC.out _ HB.out).mono ?_;rintro e v5 ⟨a7,n8,c7b,⟨s8,x8,n9,c8,f8,y8,m8,d8,g8⟩,hr,hb,HA2,HV2⟩;replace hr:e=.returned (.tuple #[slice a7 n8 c7b,.agg #[.bool s8,slice x8 n9 c8,slice y8 m8 d8],.int .i64 ce]):=hr;subst hr;replace HB:=zI HB hb;replace BM:=zk (BM.out.q_ hb);replace HA:=zk (HA.out.q_ hb);replace HV:=zk (HV.out.q_ hb);replace B7:=zk (B7.out.q_ hb)
  clear hb;clear DC BA;have hbn:=zA v5 (.cells #[.bool s8,slice x8 n9 c8,slice y8 m8 d8] 24);have B8:=zk (zH v5 [.bool s8,slice x8 n9 c8,slice y8 m8 d8] 24);replace HB:=zI HB hbn;replace BM:=zk (BM.out.q_ hbn);replace HA:=zk (HA.out.q_ hbn);replace HV:=zk (HV.out.q_ hbn);replace B7:=zk (B7.out.q_ hbn);replace HA2:=zk (HA2.out.q_ hbn);replace HV2:=zk (HV2.out.q_ hbn)
  clear hbn;go_wp2_with fail
  generalize hbx8:v5.heap.size=bx8 at *;generalize v5.alloc (.cells #[.bool s8,slice x8 n9 c8,slice y8 m8 d8] 24)=v6 at *;clear hbx8;refine(zcx (ca:=lc9) (cb:=c7b) HA.out HA2.out HPL.out (by decide) (by decide)).mono ?_;rintro e v7 ⟨rfl,hb⟩;replace HB:=zI HB hb;replace BM:=zk (BM.out.q_ hb);replace HV:=zk (HV.out.q_ hb);replace HV2:=zk (HV2.out.q_ hb);replace B7:=zk (B7.out.q_ hb);replace B8:=zk (B8.out.q_ hb)
  clear hb;clear HA HA2 HPL;obtain⟨p0,p1,p2⟩:=bk3 B7.out;obtain⟨q0,q1,q2⟩:=bk3 B8.out;go_wp2_with fail
  clear p0 p1 p2 q0 q1 q2 B7 B8;refine(zmC (t:=⟨s7,x7,n7,c7,f7,y7,m7,d7,g7⟩) (t2:=⟨s8,x8,n9,c8,f8,y8,m8,d8,g8⟩) HV.out HV2.out (by decide) (by decide)).mono ?_;rintro e v8 ⟨rfl,hb⟩;replace HB:=zI HB hb;replace BM:=zk (BM.out.q_ hb)
  clear hb;clear HV HV2;have ze:(ce != ce)=false:=by simp
  obtain⟨r0,r1,r2,r3,r4⟩:=bk5 BM.out;go_wp2_with fail
  clear r0 r1 r2 r3 r4 ze;refine(T1.out _ HB.out).mono ?_;rintro e v9 ⟨vm,M1,rfl,hb,H1⟩;replace HB:=zI HB hb;replace BM:=zk (BM.out.q_ hb)
  clear hb;go_wp2_with fail
  refine(CX.out _ vm M1 H1.out).mono ?_;rintro e w1 ⟨a0,n0,c0,a1,n1,c1,a2,n2,c2,a3,n3,c3,rfl,hb,G0,G1,G2,G3⟩;replace HB:=zI HB hb;replace BM:=zk (BM.out.q_ hb)
  clear hb;clear CX H1 T1;have hbn:=zA w1 (.cells #[slice a0 n0 c0,slice a1 n1 c1,slice a2 n2 c2,slice a3 n3 c3] 31);have BG:=zk (zH w1 [slice a0 n0 c0,slice a1 n1 c1,slice a2 n2 c2,slice a3 n3 c3] 31);replace HB:=zI HB hbn;replace BM:=zk (BM.out.q_ hbn);replace G0:=zk (G0.out.q_ hbn);replace G1:=zk (G1.out.q_ hbn);replace G2:=zk (G2.out.q_ hbn);replace G3:=zk (G3.out.q_ hbn)
  clear hbn;obtain⟨r0,r1,r2,r3,r4⟩:=bk5 BM.out;go_wp2_with fail
  clear r0 r1 r2 r3 r4;generalize hbg:w1.heap.size=bg at *;generalize w1.alloc (.cells #[slice a0 n0 c0,slice a1 n1 c1,slice a2 n2 c2,slice a3 n3 c3] 31)=w2 at *;clear hbg;refine(DX.out _ HB.out).mono ?_;rintro e w3 ⟨e0,m0,q0,e1,m1,q1,e2,m2,q2,e3,m3,q3,rfl,hb,J0,J1,J2,J3⟩;replace HB:=zI HB hb;replace BM:=zk (BM.out.q_ hb);replace BG:=zk (BG.out.q_ hb);replace G0:=zk (G0.out.q_ hb);replace G1:=zk (G1.out.q_ hb);replace G2:=zk (G2.out.q_ hb);replace G3:=zk (G3.out.q_ hb)
  clear hb;clear DX;have hbn:=zA w3 (.cells #[slice e0 m0 q0,slice e1 m1 q1,slice e2 m2 q2,slice e3 m3 q3] 31);have BJ:=zk (zH w3 [slice e0 m0 q0,slice e1 m1 q1,slice e2 m2 q2,slice e3 m3 q3] 31);replace HB:=zI HB hbn;replace BM:=zk (BM.out.q_ hbn);replace BG:=zk (BG.out.q_ hbn);replace G0:=zk (G0.out.q_ hbn);replace G1:=zk (G1.out.q_ hbn);replace G2:=zk (G2.out.q_ hbn);replace G3:=zk (G3.out.q_ hbn);replace J0:=zk (J0.out.q_ hbn);replace J1:=zk (J1.out.q_ hbn);replace J2:=zk (J2.out.q_ hbn);replace J3:=zk (J3.out.q_ hbn)
  clear hbn;obtain⟨r0,r1,r2,r3⟩:=bk4 BG.out;obtain⟨t0,t1,t2,t3⟩:=bk4 BJ.out;go_wp2_with fail
  clear r0 r1 r2 r3 t0 t1 t2 t3;generalize w3.alloc (.cells #[slice e0 m0 q0,slice e1 m1 q1,slice e2 m2 q2,slice e3 m3 q3] 31)=w4 at *;refine(zmD (c0:=c0) (c1:=c1) (c2:=c2) (c3:=c3) (d0:=q0) (d1:=q1) (d2:=q2) (d3:=q3) G0.out J0.out G1.out J1.out G2.out J2.out G3.out J3.out HLC.out (by decide)).mono ?_;rintro e w5 ⟨rfl,hb⟩;replace HB:=zI HB hb;clear hb G0 G1 G2 G3 J0 J1 J2 J3 BG BJ BM;have ze:(cx==cx)=true:=by simp
  go_wp2;go_ret;exact⟨by first|rfl|simp,HB.out⟩
end Go.Proofs.YtnlcjakjhmgenaaGreat
