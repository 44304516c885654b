/-
 Walks.
-/
import Derived.Test.YtdagpgmehelfkaaGreatZ5
import Derived.Test.YtdagpgmehelfkaaGreatZ6
import Derived.BigQuiet
set_option maxRecDepth 100000
set_option maxHeartbeats 16000000
namespace Go.Proofs.YtdagpgmehelfkaaGreat
open Value (slice)
open Nat (le_refl)
open Go.Proofs.Tryz
open Go.RowKit
theorem zkG {w M M' ao k cap X X'} (h:TmK 8 w M M') (hN:MoN M) (hx:Tx w ao k X X') (hs:ShK 8 k X) :
  Calls prog 10 #[M'.val,slice ao k cap] w λe w'=>zmW 8 w w' e (zbq M k X) (zch M) (zbW k X) :=
 znF h.2.1 hx.1 (by have:=hs.1;omega) (zeK h hx) (λhe=>zhP 8 (by decide) (by decide) h hN hx hs he) (by decide)
theorem zhN {w M M' ao k cap X X'} (h:TmK 8 w M M') (hN:MoN M) (hx:Tx w ao k X X') (hs:ShK 8 k X) :
  Calls prog 11 #[M'.val,slice ao k cap] w λe w'=>zmM 8 w w' e (zbq M k X) (nq M.off) (zbK M) (zbW k X) :=
 zlE h.2.1 hx.1 (by have:=hs.1;omega) (zeK h hx) (λhe=>zhP 8 (by decide) (by decide) h hN hx hs he) (by decide)
theorem zlV {w M M'} (h:TmK 8 w M M') (hX:MoX w M):Calls prog 14 #[M'.val,M.val] w λe w'=>e=.returned (.bool true)/\Bl w w' :=
 (znM h.2.2.1 hX).mono λe w' h1=>⟨by rw[h1.1,h.1.same],h1.2⟩
theorem zgc {w M ao k cap X} (hX:MoX w M) (hN:MoN M) (hC:MoC M) (hx:Rr w ao k X) (hk:k<=9223372036854775807) :
  Calls prog 3 #[M.val,slice ao k cap] w λe w'=>e=.returned (.bool true)/\Bl w w':=by
 obtain⟨lb,hlb⟩:∃t,lgM 8 M=t:=⟨_,rfl⟩;obtain⟨la,hla⟩:∃t,lgL 8 k X=t:=⟨_,rfl⟩;have CL:=zk (λw' (hw:Bl w w')=>zlW (w:=w') (K:=8) (hX.q_ hw).light.1 (hX.q_ hw).light.2);rw[hlb]at CL
 have CA:Hid (∀W,Bl w W->Calls prog 6 #[slice ao k cap,.int .i64 8] W λe w'=>e=.returned (.bool la)/\Bl W w'):=λW hW=>by
  have:=zkf (cap:=cap) 8 (hx.q_ hW) hk;rw[show(decide (k<=300) && nlg 8 X k 0)=la from hla]at this;exact this
 obtain⟨N,hN'⟩:∃N,N=M:=⟨_,rfl⟩;have HC:Hid (lb=true->la=true->zrv w N ao k X):=λe1 e2=>by
  subst hN';subst e1;subst e2
  refine⟨⟨hX,hN,hC,zqA hlb⟩,?_,znX hla⟩;simp only[lgL,Bool.and_eq_true]at hla;exact hx.rl hla.2 (by decide)
 clear hX hN hC hx hlb hla hk;obtain⟨⟨s,x,n,c,f,y,m,d,g⟩,ca,ck,cc,C,ra,rk,rc,R⟩:=M;have hNv:Hid (N.val=.agg #[.bool s,slice x n c,slice y m d,slice ca ck cc,slice ra rk rc]):=by rw[hN'];exact rfl
 clear hN';replace CL:Hid (∀w',Bl w w'->Calls prog 5 #[.agg #[.bool s,slice x n c,slice y m d,slice ca ck cc,slice ra rk rc],.int .i64 8] w' λe w2=>e=.returned (.bool lb)/\Bl w' w2):=CL;show Calls prog 3 #[.agg #[.bool s,slice x n c,slice y m d,slice ca ck cc,slice ra rk rc],slice ao k cap] w _;have HB:=zk (zF w (.cells #[.bool s,slice x n c,slice y m d,slice ca ck cc,slice ra rk rc] 28));have BM:=zk (zJ w [.bool s,slice x n c,slice y m d,slice ca ck cc,slice ra rk rc] 28);go_enter func3,ntmps3;go_wp2_with fail
 generalize(w.alloc (.cells #[.bool s,slice x n c,slice y m d,slice ca ck cc,slice ra rk rc] 28))=v0 at *;refine(zkC _).mono ?_;rintro e v1 ⟨rfl,hb⟩;replace HB:=zP HB hb;replace BM:=zk (BM.out.q_ hb)
 clear hb;obtain⟨r0,r1,r2,r3,r4⟩:=bk5 BM.out;go_wp2_with fail
 clear r0 r1 r2 r3 r4;refine(CL.out _ HB.out).mono ?_;rintro e v2 ⟨rfl,hb⟩;replace HB:=zP HB hb;replace BM:=zk (BM.out.q_ hb)
 clear hb CL;cases lb
 ·go_wp2;go_ret;exact⟨by first|rfl|simp,HB.out⟩
 go_wp2_with fail
 refine(CA.out _ HB.out).mono ?_;rintro e v3 ⟨rfl,hb⟩;replace HB:=zP HB hb;replace BM:=zk (BM.out.q_ hb)
 clear hb CA;cases la
 ·go_wp2;go_ret;exact⟨by first|rfl|simp,HB.out⟩
 replace HC:=zk (HC.out (by first|rfl|trivial) (by first|rfl|trivial));have T1:Hid (∀W,Bl w W->Calls prog 7 #[.agg #[.bool s,slice x n c,slice y m d,slice ca ck cc,slice ra rk rc]] W λe w'=>∃(vm:Value) (M':Mo),e=.returned vm/\Bl W w'/\Hid (vm=M'.val/\TmK 8 w' N M')):=λW hW=>by
  have:=zjU (HC.out.i.x.q_ hW) HC.out.i.n HC.out.i.k (by decide);rw[hNv.out]at this;exact this
 have TX:=zk (λW (hW:Bl w W)=>zhO (K:=8) (cap:=cap) (HC.out.hx.q_ hW) HC.out.sx (by decide));obtain⟨er,her⟩:∃e,zbq N k X=e:=⟨_,rfl⟩;obtain⟨rs,hrs⟩:∃e,zch N=e:=⟨_,rfl⟩;obtain⟨ps,hps⟩:∃e,zbW k X=e:=⟨_,rfl⟩;obtain⟨pl,hpl⟩:∃p,(if er=0 then rs.map (zas ps) else [])=p:=⟨_,rfl⟩;obtain⟨r,hr⟩:∃k,pl.length=k:=⟨_,rfl⟩;have hk3:k<=300:=HC.out.sx.1;have hr3:r<=64:=by
  rw[<-hr,<-hpl]
  split
  ·rename_i h0;have:=(zbo (HC.out.i.val (zcn (her.trans h0)).1).2).rl;rw[hrs]at this
   simpa using this
  ·simp
 have AC:Hid (∀W vm M' b c1 X1,(vm=M'.val/\TmK 8 W N M')->Tx W b k X X1->Calls prog 10 #[vm,slice b k c1] W λe w'=>∃a c,e=.returned (.tuple #[slice a r c,.int .i64 er])/\Bl W w'/\Hid (GrO (KA 8) W.heap.size w' (slice a r c) pl)):=λW vm M' b c1 X1 h1 h2=>by
  have:=zkG (cap:=c1) h1.2 HC.out.i.n h2 HC.out.sx;rw[<-h1.1,her,hrs,hps]at this
  refine this.mono ?_;rintro e w' ⟨hb,⟨h0,rfl⟩|⟨h0,a,c,rfl,_,hg⟩⟩
  ·rw[if_neg h0]at hpl
   subst hpl;subst hr
   exact⟨none,0,rfl,hb,zet _ _ _⟩
  ·rw[if_pos h0]at hpl
   obtain⟨_,_,e1,_⟩:=hg.slice;rw[hpl,hr]at e1
   rw[hpl]at hg
   cases e1
   exact⟨a,c,by rw[h0],hb,hg⟩
 have DA:Hid (∀W,Bl w W->Calls prog 13 #[.agg #[.bool s,slice x n c,slice y m d,slice ca ck cc,slice ra rk rc],slice ao k cap] W λe w'=>∃a c,e=.returned (.tuple #[slice a r c,.int .i64 er])/\Bl W w'/\Hid (GrO (2*KE 8) W.heap.size w' (slice a r c) pl)):=λW hW=>by
  have:=zkw (cap:=cap) (HC.out.i.q_ hW) (HC.out.hx.q_ hW) HC.out.sx;rw[her,hrs,hps,hNv.out]at this
  refine this.mono ?_;rintro e w' ⟨hb,⟨h0,rfl⟩|⟨h0,a,c,rfl,_,hg⟩⟩
  ·rw[if_neg h0]at hpl
   subst hpl;subst hr
   exact⟨none,0,rfl,hb,zet _ _ _⟩
  ·rw[if_pos h0]at hpl
   obtain⟨_,_,e1,_⟩:=hg.slice;rw[hpl,hr]at e1
   rw[hpl]at hg
   cases e1
   exact⟨a,c,by rw[h0],hb,hg⟩
 have VA:Hid (∀W vm M' b c1 X1,(vm=M'.val/\TmK 8 W N M')->Tx W b k X X1->Calls prog 11 #[vm,slice b k c1] W λe w'=>∃s x n c y m d,e=.returned (.tuple #[.agg #[.bool s,slice x n c,slice y m d],.int .i64 er])/\Bl W w'/\Hid (er=0->0<m/\Dw w' W.heap.size y m)):=λW vm M' b c1 X1 h1 h2=>by
  have:=zhN (cap:=c1) h1.2 HC.out.i.n h2 HC.out.sx;rw[<-h1.1,her]at this
  refine this.mono ?_;rintro e w' ⟨hb,⟨h0,rfl⟩|⟨h0,s,x,n,c,f,y,m,d,g,rfl,hv,hd⟩⟩
  ·exact⟨_,_,_,_,_,_,_,rfl,hb,λh=>absurd h h0⟩
  ·exact⟨_,_,_,_,_,_,_,by rw[h0],hb,λ_=>⟨hv.den.pos (by have:=(zjT (nq N.off) (zbK N) (zbW k X)).den_pos;omega),hd.1⟩⟩
 have BK:Hid (∀W vm M' b c1 X1,(vm=M'.val/\TmK 8 W N M')->Tx W b k X X1->Calls prog 12 #[vm,slice b k c1] W λe w'=>∃v,e=.returned v/\Bl W w'):=λW vm M' b c1 X1 h1 h2=>by
  have:=zhy (cap:=c1) h1.2 HC.out.i.n h2 HC.out.sx;rw[<-h1.1]at this
  refine this.mono ?_;rintro e w' ⟨hb,⟨_,rfl⟩|⟨_,xa,xc,ya,yc,rfl,_⟩⟩
  ·exact⟨_,rfl,hb⟩
  ·exact⟨_,rfl,hb⟩
 have SM:Hid (∀W vm M',Bl w W->(vm=M'.val/\TmK 8 W N M')->Calls prog 14 #[vm,.agg #[.bool s,slice x n c,slice y m d,slice ca ck cc,slice ra rk rc]] W λe w'=>e=.returned (.bool true)/\Bl W w'):=λW vm M' hW h=>by
  have:=zlV h.2 (HC.out.i.x.q_ hW);rw[<-h.1,hNv.out]at this
  exact this
 have SP:Hid (∀W a c1 X1,Bl w W->Tx W a k X X1->Calls prog 15 #[slice a k c1,slice ao k cap] W λe w'=>e=.returned (.bool true)/\Bl W w'):=λW a c1 X1 hW h=>zkb h.1 (HC.out.hx.q_ hW) h.2 (by omega)
 have HNN:=zk HC.out.i.n;clear HC hNv her hrs hps hpl;obtain⟨r0,r1,r2,r3,r4⟩:=bk5 BM.out;go_wp2_with fail
 clear r0 r1 r2 r3 r4;refine(T1.out _ HB.out).mono ?_;rintro e v4 ⟨vm,M',rfl,hb,hh⟩;have HVM:=zk hh.out.1;have HT:=zk hh.out.2
 clear hh T1;replace HB:=zP HB hb;replace BM:=zk (BM.out.q_ hb)
 clear hb;go_wp2_with fail
 refine(TX.out _ HB.out).mono ?_;rintro e v5 ⟨a0,c0,X1,rfl,hb,hh⟩;have HB4:=zk HB.out;have BM4:=zk BM.out;have HT4:=zk HT.out;have E4:=zk hb
 have HX:=zk hh.out.1;have HRW:=zk hh.out.2;have hsz:=hb.size
 replace HT:=zk (HT.out.q_ hb);replace HB:=zP HB hb;replace BM:=zk (BM.out.q_ hb)
 clear hb;clear hh TX;go_wp2_with fail
 refine(zhp (z:=71) (by decide) (by decide)).mono ?_;rintro e v6 ⟨s1,x1,n1,c1,f1,y1,m1,d1,g1,rfl,hb,hq,_⟩;replace E4:=zk (bUp E4.out hb);have Q1:=zk hq;replace HT:=zk (HT.out.q_ hb);replace HX:=zk (HX.out.q_ hb);replace HRW:=zk (HRW.out.q_ hb)
 have hsz2:=Nat.le_trans hsz hb.size;clear hq;replace HB:=zP HB hb;replace BM:=zk (BM.out.q_ hb)
 clear hb;clear hsz;go_wp2_with(at_builtin;go_must (refine zS v6 rfl (.tmp 30) (.tmp 32) 29 rfl v4.heap.size 24 56 3 (.agg #[.bool false,slice none 0 0,slice none 0 0]) underlying29 zbg rfl (by decide) nz3 (slice a0 k c0) k _ rfl HRW.out #[.bool s1,slice x1 n1 c1,slice y1 m1 d1] rfl rfl (zeM _ _ _ _ _ _ _) (zdy _ _ _ _ _ _ _) ?p1 (by decide) hsz2 ?_))
 case p1=>omega
 intro g5 cap5 v7 hr7 hk7 hb7 hg7;have F7:=hb7 v4 E4.out (le_refl _);have HX7:=HX.out.put hr7 hk7;have Q7:=Rn.kp Q1.out hk7;have hlx:=HRW.out.1;have u0_:v7.cell? ⟨g5,k*3,none⟩=some (.bool s1):=hr7.cells (by rw[List.getElem?_append_right (by omega),hlx];simp);have u1_:v7.cell? ⟨g5,k*3+1,none⟩=some (slice x1 n1 c1):=hr7.cells (by rw[List.getElem?_append_right (by omega),hlx];simp);have u2_:v7.cell? ⟨g5,k*3+2,none⟩=some (slice y1 m1 d1):=hr7.cells (by rw[List.getElem?_append_right (by omega),hlx];simp);have hcp:k+1<=cap5/\cap5<=9223372036854775807:=by
  rcases hr7.2 with⟨hv,_⟩|⟨_,_,_,hv,_,_,h5,h6,_⟩
  ·cases hv
  ·cases hv;unfold maxLen at h6;omega
 replace HB:=zk (bUp HB4.out F7);replace BM:=zk (BM4.out.q_ F7);replace HT:=zk (HT4.out.q_ F7);replace HX:=zk HX7;replace Q1:=zk Q7
 have HU:=zk (And.intro u0_ (And.intro u1_ u2_));have HCP:=zk hcp
 clear HB4 BM4 HT4 E4 F7 HX7 Q7 hlx u0_ u1_ u2_ hcp hr7 hk7 hb7 hg7 HRW hsz2;obtain⟨⟨ms,mx,mn,mc,mf,my,mm,md,mg⟩,mca,mck,mcc,mC,mra,mrk,mrc,mR⟩:=M';have hvm:vm=.agg #[.bool ms,slice mx mn mc,slice my mm md,slice mca mck mcc,slice mra mrk mrc]:=HVM.out;clear HVM;subst hvm;obtain⟨N',hN'⟩:∃N',N'=(⟨⟨ms,mx,mn,mc,mf,my,mm,md,mg⟩,mca,mck,mcc,mC,mra,mrk,mrc,mR⟩:Mo):=⟨_,rfl⟩;have HNv:Hid (.agg #[.bool ms,slice mx mn mc,slice my mm md,slice mca mck mcc,slice mra mrk mrc]=N'.val):=by rw[hN'];exact rfl
 rw[<-hN']at HT
 clear hN';go_upto_region 6 with fail
 have hbn:=zF v7 (.cells #[.bool ms,slice mx mn mc,slice my mm md,slice mca mck mcc,slice mra mrk mrc] 28);have B5:=zk (zJ v7 [.bool ms,slice mx mn mc,slice my mm md,slice mca mck mcc,slice mra mrk mrc] 28);have hU:=HU.out;replace HU:=zk (And.intro (kCb hbn hU.1) (And.intro (kCb hbn hU.2.1) (kCb hbn hU.2.2)));clear hU;replace HB:=zP HB hbn;replace BM:=zk (BM.out.q_ hbn);replace HT:=zk (HT.out.q_ hbn);replace HX:=zk (HX.out.q_ hbn);replace Q1:=zk (Q1.out.q_ hbn)
 clear hbn;generalize hp5:v7.heap.size=p5 at *;generalize v7.alloc (.cells #[.bool ms,slice mx mn mc,slice my mm md,slice mca mck mcc,slice mra mrk mrc] 28)=z1 at *;clear hp5;obtain⟨hc1,hc2⟩:=HCP.out;have hc3:(0:Int)<=((k:Nat):Int):=by omega
 have hc4:((k:Nat):Int)<=((cap5:Nat):Int):=by omega
 obtain⟨l0,l1,l2,l3,l4⟩:=bk5 B5.out;go_wp2_with fail
 clear l0 l1 l2 l3 l4;refine(AC.out _ _ N' _ _ _ ⟨HNv.out,HT.out⟩ HX.out).mono ?_;rintro e v9 ⟨a1,c3,rfl,hb,G1⟩;have F9:=zk hb;clear hb;obtain⟨l0,l1,l2,l3,l4⟩:=bk5 (B5.out.q_ F9.out);go_wp2_with fail
 clear l0 l1 l2 l3 l4;refine(AC.out _ _ N' _ _ _ ⟨HNv.out,HT.out.q_ F9.out⟩ (HX.out.q_ F9.out)).mono ?_;rintro e va ⟨a2,c4,rfl,hb,G2⟩;have FA:=zk hb;have EA:=zk (bUp F9.out hb);clear hb AC;obtain⟨l0,l1,l2,l3,l4⟩:=bk5 (B5.out.q_ EA.out);go_wp2_with fail
 clear l0 l1 l2 l3 l4;refine(VA.out _ _ N' _ _ _ ⟨HNv.out,HT.out.q_ EA.out⟩ (HX.out.q_ EA.out)).mono ?_;rintro e vb ⟨vs,vx,vn,vc,vy,vm,vd,rfl,hb,HV⟩;have FB:=zk hb;have EB:=zk (bUp EA.out hb);clear hb VA;obtain⟨l0,l1,l2,l3,l4⟩:=bk5 (B5.out.q_ EB.out);go_upto_region 10 with fail
 clear l0 l1 l2 l3 l4;have hbn:=zF vb (.cells #[.bool vs,slice vx vn vc,slice vy vm vd] 24);have B12:=zk (zJ vb [.bool vs,slice vx vn vc,slice vy vm vd] 24);have F2:=zk hbn;have E2:=zk (bUp EB.out hbn)
 clear hbn;obtain⟨p12,hp12⟩:∃z,vb.heap.size=z:=⟨_,rfl⟩
 (try simp only[hp12])
 rw[hp12]at B12
 generalize vb.alloc (.cells #[.bool vs,slice vx vn vc,slice vy vm vd] 24)=z2 at *;have HP12:=zk hp12;clear hp12;obtain⟨l0,l1,l2,l3,l4⟩:=bk5 (B5.out.q_ E2.out);go_wp2_with fail
 clear l0 l1 l2 l3 l4;refine(BK.out _ _ N' _ _ _ ⟨HNv.out,HT.out.q_ E2.out⟩ (HX.out.q_ E2.out)).mono ?_;rintro e z3 ⟨vbr,rfl,hb⟩;have F3:=zk hb;have E3:=zk (bUp E2.out hb)
 clear hb BK;obtain⟨r0,r1,r2,r3,r4⟩:=bk5 (BM.out.q_ E3.out);go_wp2_with fail
 clear r0 r1 r2 r3 r4;refine(DA.out _ (bUp HB.out E3.out)).mono ?_;rintro e z4 ⟨a3,c5,rfl,hb,G3⟩;have FD:=zk hb;have E5:=zk (bUp E3.out hb);have H24:=zk (bUp F3.out hb)
 have HB4:=zk (bUp F2.out H24.out);have HA4:=zk (bUp FB.out HB4.out);have H94:=zk (bUp FA.out HA4.out);clear hb DA;obtain⟨ok,hok⟩:∃ok:Nat->Prop,ok=(λb=>z1.heap.size<=b/\b<v9.heap.size):=⟨_,rfl⟩;have hmk:Mk ok z1.heap.size z4 (slice a1 r c3) r z4 0:=by
  have:=G1.out.mk (ok:=ok) H94.out (λb h1 h2=>by rw[hok];exact⟨h1,h2⟩);rw[hr]at this
  exact this
 have HM:=zk hmk;have HOK:=zk hok
 clear hmk hok hc1 hc2 hc3 hc4;go_wp2_with fail
 go_loopw[67] (λt wr=>∃j:Nat,j<=r/\t=.int .i64 j/\Hid (Mk ok z1.heap.size z4 (slice a1 r c3) r wr j)) (λt _=>r-(intOf t).toNat)
 case atStart=>exact⟨0,by omega,rfl,HM⟩
 case round =>
  clear HM;obtain⟨j,hj,rfl,HJ⟩:=hrel;by_cases hjlt:j<r
  ·obtain⟨g9,c9,s2,x2,k2,q2,b9,m9,d9,z9,e1,hgok,hgl,hfz,⟨x0_,x1_,x2_⟩,hm,hob,hq9,hfq⟩:=HJ.out.el j (le_refl _) hjlt;cases e1
   have j1:((j:Nat):Int)<((r:Nat):Int):=by omega
   have m0:(0:Int)<((m9:Nat):Int):=by omega
   have HJ1:=zk (HJ.out.den hq9 hob 5);have y0_:(wr.setCell ⟨b9,0,none⟩ (.int .u64 5)).cell? ⟨g9,j*3,none⟩=some (.bool s2):=zbj hq9 x0_ (λh=>by cases h);have y1_:(wr.setCell ⟨b9,0,none⟩ (.int .u64 5)).cell? ⟨g9,j*3+1,none⟩=some (slice x2 k2 q2):=zbj hq9 x1_ (λh=>by cases h);have y2_:(wr.setCell ⟨b9,0,none⟩ (.int .u64 5)).cell? ⟨g9,j*3+2,none⟩=some (slice (some ⟨b9,0,none⟩) m9 d9):=zbj hq9 x2_ (λh=>by cases h);have hgz:∀o,(wr.setCell ⟨b9,0,none⟩ (.int .u64 5)).frozen? ⟨g9,o,none⟩=false:=λo=>kFs (hfz o)
   have hgl':g9<(wr.setCell ⟨b9,0,none⟩ (.int .u64 5)).heap.size:=by simpa[World.setCell]using hgl
   go_wp2_with fail
   clear x0_ x1_ x2_ hq9 hfq HJ hfz hgl;generalize wr.setCell ⟨b9,0,none⟩ (.int .u64 5)=w5 at *;refine(zaz (by omega) (by omega)).mono ?_;rintro e w6 ⟨s4,x4,n4,c4_,f4,y4,m4,d4,g4,rfl,hb6',_⟩;have HJ2:=zk ((HJ1.out.q_ hb6').up (Nat.le_succ j));replace y0_:=kCb hb6' y0_;replace y1_:=kCb hb6' y1_;replace y2_:=kCb hb6' y2_
   have hfz:∀o,w6.frozen? ⟨g9,o,none⟩=false:=λo=>((zaC hb6').2 _ _ hgl').trans (hgz o)
   clear hb6' HJ1 hgz hgl';have HJ3:=zk (HJ2.out.set (u:=.bool s4) y0_ (λz h=>by cases h) (λz h=>by cases h) (by omega) hgok);have z1_:=kCo (u:=slice x2 k2 q2) (v:=.bool s4) (by omega:j*3≠j*3+1) y1_;have z2_:=kCo (v:=.bool s4) (by omega:j*3≠j*3+2) y2_;have HJ4:=zk (HJ3.out.set (u:=slice x4 n4 c4_) z1_ (λz h=>by cases h) (λz h=>by cases h) (by omega) hgok);have z3_:=kCo (v:=slice x4 n4 c4_) (by omega:j*3+1≠j*3+2) z2_;have HJ5:=zk (HJ4.out.set (u:=slice y4 m4 d4) z3_ (λz h=>by cases h) (λz h=>by cases h) (by omega) hgok);clear z1_ z2_ z3_ HJ2 HJ3 HJ4;go_wp2;go_roundw
   case rel=>exact⟨j+1,by omega,by go_num,HJ5.out⟩
   case measure=>simp[intOf];omega
  ·have e1:j=r:=by omega
   have j1:¬(((j:Nat):Int)<((r:Nat):Int)):=by omega
   have KW:=zk HJ.out.kq;obtain⟨xs,hrow⟩:=HJ.out.row;have HR:=zk hrow;clear hrow HJ e1;go_wp2_with fail
   refine(zhp (z:=72) (by decide) (by decide)).mono ?_;rintro e w6 ⟨s4,x4,n4,c4_,f4,y4,m4,d4,g4,rfl,hb6,hq6,hd6⟩;have Q6:=zk hq6;have D6:=zk (hd6.base KW.out.size)
   replace KW:=zk (KW.out.q_ hb6);replace HR:=zk (HR.out.q_ hb6)
   have hsz:z1.heap.size<=w6.heap.size:=Nat.le_trans E5.out.size KW.out.size;clear hb6 hq6 hd6;go_wp2_with(at_builtin;go_must (refine zS w6 rfl (.tmp 83) (.tmp 85) 29 rfl z1.heap.size 24 56 3 (.agg #[.bool false,slice none 0 0,slice none 0 0]) underlying29 zbg rfl (by decide) nz3 (slice a1 r c3) r xs rfl HR.out #[.bool s4,slice x4 n4 c4_,slice y4 m4 d4] rfl rfl (zeM _ _ _ _ _ _ _) (zdy _ _ _ _ _ _ _) ?p1 (by decide) hsz ?_))
   case p1=>omega
   intro g8 cap8 w8 hr8 hk8 hb8 hg8;have hnok:∀b,(b<z1.heap.size∨v9.heap.size<=b)->¬ok b:=λb h1 h2=>by
    rw[HOK.out]at h2
    have:=F9.out.size;rcases h1 with h1|h1 <;> omega
   have hB0:Bl z1 w8:=hb8 z1 (KW.out.blw E5.out (λb h=>hnok b (.inl h))) (le_refl _);have hown:∀b,v9.heap.size<=b->(Value.slice a1 r c3).ownBlock≠some b:=λb h1 h2=>by
    obtain⟨T0,hT0,_⟩:=G1.out;have:=(hT0.lt b h2).2;omega
   have hkp:∀b,v9.heap.size<=b->b<z4.heap.size->w8.heap[b]?=z4.heap[b]?:=λb h1 h2=>(hg8 b (Nat.lt_of_lt_of_le h2 KW.out.size) (hown b h1)).trans (KW.out.block b h2 (hnok b (.inr h1)))
   have s1_:=FA.out.size;have s2_:=FB.out.size;have s3_:=HB4.out.size;have s4_:=F3.out.size;have s5_:=FD.out.size;have s6_:=F2.out.size;have s7_:=F9.out.size
   have hB12:Bk w8 p12 [.bool vs,slice vx vn vc,slice vy vm vd] 24:=B12.out.of ((hkp p12 (by rw[<-HP12.out];omega) (by have:=H24.out.size;have:=B12.out.lt;omega)).trans (H24.out.block p12 B12.out.lt));have hV8:er=0->∃b q,vy=some ⟨b,0,none⟩/\0<vm/\va.heap.size<=b/\b<vb.heap.size/\w8.cell? ⟨b,0,none⟩=some (.int .u64 q)/\w8.frozen? ⟨b,0,none⟩=false:=λh0=>by
    obtain⟨h1,h2⟩:=HV.out h0;obtain⟨b,h3,h4,⟨q,h5⟩,h6⟩:=h2 h1;have hl:=World.block_lt_of_cell? vb _ h5;replace hl:b<vb.heap.size:=hl;have he:=(hkp b (by omega) (by omega)).trans (HB4.out.block b hl);exact⟨b,q,h3,h1,h4,hl,(World.cell?_of_block (a:=⟨b,0,none⟩) he).trans h5,by simp only[World.frozen?,he]at h6 ⊢;exact h6⟩
   have Q8:Rn 4 w8 s4 x4 n4 c4_ f4 y4 m4 d4 g4 72:=Rn.kp Q6.out hk8;have D8:=D6.out.kpu hk8;have hxs:xs.length=r*3:=HR.out.1;have e0:w8.cell? ⟨g8,r*3,none⟩=some (.bool s4):=hr8.cells (by rw[List.getElem?_append_right (by omega),hxs];simp);have e1:w8.cell? ⟨g8,r*3+1,none⟩=some (slice x4 n4 c4_):=hr8.cells (by rw[List.getElem?_append_right (by omega),hxs];simp);have e2:w8.cell? ⟨g8,r*3+2,none⟩=some (slice y4 m4 d4):=hr8.cells (by rw[List.getElem?_append_right (by omega),hxs];simp);clear hnok hown hxs hr8 hk8 hb8 hg8 KW HR hsz HOK Q6 D6 HV HP12;go_upto_region 19 with fail
   have hfin:∀wF:World,Bl z1 wF->(∀b,(v9.heap.size<=b/\b<va.heap.size)∨(z3.heap.size<=b/\b<z4.heap.size)->wF.heap[b]?=z4.heap[b]?)->Hid (Rf (KA 8) wF a2 pl)/\Hid (Rf (2*KE 8) wF a3 pl):=λwF h1 h2=>⟨(G2.out.keep (λb h3 h4=>(h2 b (.inl ⟨h3,h4⟩)).trans (HA4.out.block b h4))).rf,(G3.out.keep (λb h3 h4=>h2 b (.inr ⟨h3,h4⟩))).rf⟩
   obtain⟨k0,k1,k2_⟩:=bk3 hB12;by_cases h0:er=0
   case' pos =>
    obtain⟨b9,z9,hvy,hvm,hb1,hb2,hv1,hv2⟩:=hV8 h0;subst hvy;have hm0:(0:Int)<((vm:Nat):Int):=by omega
    subst h0;go_upto_region 21 with fail
    have hBF:Bl z1 (w8.setCell ⟨b9,0,none⟩ (.int .u64 9)):=⟨hB0.os,hB0.tape,hB0.output,by simpa[World.setCell]using hB0.size,λk hk=>(Below.heap_setCell _ _ _ _ (show k≠b9 by omega)).trans (hB0.block k hk)⟩;obtain⟨R2,R3⟩:=hfin _ hBF (λb h=>(Below.heap_setCell _ _ _ _ (show b≠b9 by omega)).trans (hkp b (by omega) (by omega)));have QF:=zk (Rn.keep (t:=⟨s4,x4,n4,c4_,f4,y4,m4,d4,g4⟩) (w':=w8.setCell ⟨b9,0,none⟩ (.int .u64 9)) Q8 D8 (λb h1 h2=>Below.heap_setCell _ _ _ _ (show b≠b9 by omega)));replace QF:Hid (Rn 4 (w8.setCell ⟨b9,0,none⟩ (.int .u64 9)) s4 x4 n4 c4_ f4 y4 m4 d4 g4 72):=QF;replace e0:=zbj (z:=.int .u64 9) hv1 e0 (λh=>by cases h);replace e1:=zbj (z:=.int .u64 9) hv1 e1 (λh=>by cases h);replace e2:=zbj (z:=.int .u64 9) hv1 e2 (λh=>by cases h);clear hv1 hv2 hb1 hb2 hvm hm0 hB0 hkp hB12 hV8 Q8 D8 hfin k0 k1 k2_;generalize w8.setCell ⟨b9,0,none⟩ (.int .u64 9)=wF at *
   case' neg =>
    have hne:(er==0)=false:=by simpa using h0
    go_upto_region 21 with fail
    have hBF:=hB0;obtain⟨R2,R3⟩:=hfin _ hBF (λb h=>hkp b (by omega) (by omega));have QF:=zk Q8;clear hne h0 hB0 hkp hB12 hV8 Q8 D8 hfin k0 k1 k2_;generalize w8=wF at *
   all_goals
    have hBx:=hBF;replace HB:=zP HB hBx;replace BM:=zk (BM.out.q_ hBx);replace HT:=zk (HT.out.q_ hBx);replace HX:=zk (HX.out.q_ hBx);replace Q1:=zk (Q1.out.q_ hBx);replace B5:=zk (B5.out.q_ hBx)
    have hU:=HU.out;replace HU:=zk (And.intro (kCb hBx hU.1) (And.intro (kCb hBx hU.2.1) (kCb hBx hU.2.2)));clear hBx hBF hU s1_ s2_ s3_ s4_ s5_ s6_ s7_ G1 G2 G3 F9 FA FB F2 F3 FD E2 E3 E5 EA EB H24 HB4 HA4 H94 B12;obtain⟨r0,r1,r2,r3,r4⟩:=bk5 BM.out;obtain⟨l0,l1,l2,l3,l4⟩:=bk5 B5.out;obtain⟨u0_,u1_,u2_⟩:=HU.out;have hbd:=Below.drew (Below.refl wF.heap.size wF);replace HB:=zP HB hbd;replace HT:=zk (HT.out.q_ hbd);replace HX:=zk (HX.out.q_ hbd);replace R2:=zk (R2.out.q_ hbd);replace R3:=zk (R3.out.q_ hbd);replace QF:=zk (QF.out.q_ hbd);replace Q1:=zk (Q1.out.q_ hbd)
    refine wp_region_held_drew (S:=(λw'=>w'.cell? ⟨w.heap.size,0,none⟩=some (.bool s)/\w'.cell? ⟨w.heap.size,1,none⟩=some (slice x n c)/\w'.cell? ⟨w.heap.size,2,none⟩=some (slice y m d)/\w'.cell? ⟨w.heap.size,3,none⟩=some (slice ca ck cc)/\w'.cell? ⟨w.heap.size,4,none⟩=some (slice ra rk rc)/\w'.cell? ⟨p5,0,none⟩=some (.bool ms)/\w'.cell? ⟨p5,1,none⟩=some (slice mx mn mc)/\w'.cell? ⟨p5,2,none⟩=some (slice my mm md)/\w'.cell? ⟨p5,3,none⟩=some (slice mca mck mcc)/\w'.cell? ⟨p5,4,none⟩=some (slice mra mrk mrc)/\w'.cell? ⟨g5,k*3,none⟩=some (.bool s1)/\w'.cell? ⟨g5,k*3+1,none⟩=some (slice x1 n1 c1)/\w'.cell? ⟨g5,k*3+2,none⟩=some (slice y1 m1 d1)/\w'.cell? ⟨g8,r*3,none⟩=some (.bool s4)/\w'.cell? ⟨g8,r*3+1,none⟩=some (slice x4 n4 c4_)/\w'.cell? ⟨g8,r*3+2,none⟩=some (slice y4 m4 d4))) (by kernel_rfl) ?_ (λhHeld=>?_)
    ·exact⟨kCd r0,kCd r1,kCd r2,kCd r3,kCd r4,kCd l0,kCd l1,kCd l2,kCd l3,kCd l4,kCd u0_,kCd u1_,kCd u2_,kCd e0,kCd e1,kCd e2⟩
    generalize wF.drew=wd8 at *;clear hbd BM B5 HU r0 r1 r2 r3 r4 l0 l1 l2 l3 l4 u0_ u1_ u2_ e0 e1 e2;refine zH 0 ?_;refine zH 1 ?_;simp only[zw,Act.put];refine rdO 2 (λK hK=>?_);go_simp
    go_at_call 14
    refine(SM.out _ _ N' HB.out ⟨HNv.out,HT.out⟩).mono ?_;rintro e u1 ⟨rfl,hc⟩
    (try go_wp2_with fail)
    refine hK.out _ _ ?_ (λhH1=>?_)
    ·exact⟨kCb hc hHeld.1,kCb hc hHeld.2.1,kCb hc hHeld.2.2.1,kCb hc hHeld.2.2.2.1,kCb hc hHeld.2.2.2.2.1,kCb hc hHeld.2.2.2.2.2.1,kCb hc hHeld.2.2.2.2.2.2.1,kCb hc hHeld.2.2.2.2.2.2.2.1,kCb hc hHeld.2.2.2.2.2.2.2.2.1,kCb hc hHeld.2.2.2.2.2.2.2.2.2.1,kCb hc hHeld.2.2.2.2.2.2.2.2.2.2.1,kCb hc hHeld.2.2.2.2.2.2.2.2.2.2.2.1,kCb hc hHeld.2.2.2.2.2.2.2.2.2.2.2.2.1,kCb hc hHeld.2.2.2.2.2.2.2.2.2.2.2.2.2.1,kCb hc hHeld.2.2.2.2.2.2.2.2.2.2.2.2.2.2.1,kCb hc hHeld.2.2.2.2.2.2.2.2.2.2.2.2.2.2.2⟩
    clear hK K;try simp only[zw,Act.put]
    replace HB:=zP HB hc;replace HX:=zk (HX.out.q_ hc);replace R2:=zk (R2.out.q_ hc);replace R3:=zk (R3.out.q_ hc);replace QF:=zk (QF.out.q_ hc);replace Q1:=zk (Q1.out.q_ hc)
    clear hc hHeld;clear SM HT;refine zH 3 ?_;refine zH 4 ?_;refine zH 5 ?_;simp only[zw,Act.put];refine rdO 6 (λK hK=>?_);go_simp
    go_at_call 15
    refine(SP.out _ _ _ _ HB.out HX.out).mono ?_;rintro e u2 ⟨rfl,hc⟩
    (try go_wp2_with fail)
    refine hK.out _ _ ?_ (λhH2=>?_)
    ·exact⟨kCb hc hH1.1,kCb hc hH1.2.1,kCb hc hH1.2.2.1,kCb hc hH1.2.2.2.1,kCb hc hH1.2.2.2.2.1,kCb hc hH1.2.2.2.2.2.1,kCb hc hH1.2.2.2.2.2.2.1,kCb hc hH1.2.2.2.2.2.2.2.1,kCb hc hH1.2.2.2.2.2.2.2.2.1,kCb hc hH1.2.2.2.2.2.2.2.2.2.1,kCb hc hH1.2.2.2.2.2.2.2.2.2.2.1,kCb hc hH1.2.2.2.2.2.2.2.2.2.2.2.1,kCb hc hH1.2.2.2.2.2.2.2.2.2.2.2.2.1,kCb hc hH1.2.2.2.2.2.2.2.2.2.2.2.2.2.1,kCb hc hH1.2.2.2.2.2.2.2.2.2.2.2.2.2.2.1,kCb hc hH1.2.2.2.2.2.2.2.2.2.2.2.2.2.2.2⟩
    clear hK K;try simp only[zw,Act.put]
    replace HB:=zP HB hc;replace R2:=zk (R2.out.q_ hc);replace R3:=zk (R3.out.q_ hc);replace QF:=zk (QF.out.q_ hc);replace Q1:=zk (Q1.out.q_ hc)
    clear hc hH1;clear SP HX;refine zH 7 ?_;refine zH 8 ?_;refine zH 9 ?_;simp only[zw,Act.put];refine zH 10 ?_;refine zH 11 ?_;simp only[zw,Act.put];have i7:(0:Int)<=((k:Nat):Int)/\((k:Nat):Int)<((k:Nat):Int)+1:=by omega
    have j6:=i7.1;have j7:=i7.2
    refine zH 12 ?_;refine zH 13 ?_;simp only[zw,Act.put];refine rdO 14 (λK hK=>?_);go_simp
    go_at_call 9
    refine(zaz (z:=71) (by decide) (by decide)).mono ?_;rintro e u3 ⟨s7,x7,n7,c7,f7,y7,m7,d7,g7,rfl,hc,hq7⟩
    (try go_wp2_with fail)
    refine hK.out _ _ ?_ (λhH3=>?_)
    ·exact⟨kCb hc hH2.1,kCb hc hH2.2.1,kCb hc hH2.2.2.1,kCb hc hH2.2.2.2.1,kCb hc hH2.2.2.2.2.1,kCb hc hH2.2.2.2.2.2.1,kCb hc hH2.2.2.2.2.2.2.1,kCb hc hH2.2.2.2.2.2.2.2.1,kCb hc hH2.2.2.2.2.2.2.2.2.1,kCb hc hH2.2.2.2.2.2.2.2.2.2.1,kCb hc hH2.2.2.2.2.2.2.2.2.2.2.1,kCb hc hH2.2.2.2.2.2.2.2.2.2.2.2.1,kCb hc hH2.2.2.2.2.2.2.2.2.2.2.2.2.1,kCb hc hH2.2.2.2.2.2.2.2.2.2.2.2.2.2.1,kCb hc hH2.2.2.2.2.2.2.2.2.2.2.2.2.2.2.1,kCb hc hH2.2.2.2.2.2.2.2.2.2.2.2.2.2.2.2⟩
    clear hK K;try simp only[zw,Act.put]
    have QA:=zk hq7;replace HB:=zP HB hc;replace R2:=zk (R2.out.q_ hc);replace R3:=zk (R3.out.q_ hc);replace QF:=zk (QF.out.q_ hc);replace Q1:=zk (Q1.out.q_ hc)
    clear hc hH2 hq7;refine rdO 15 (λK hK=>?_);go_simp
    go_at_call 16
    refine(zbO Q1.out QA.out (by decide) (by decide)).mono ?_;rintro e u4 ⟨rfl,hc⟩
    (try go_wp2_with fail)
    refine hK.out _ _ ?_ (λhH4=>?_)
    ·exact⟨kCb hc hH3.1,kCb hc hH3.2.1,kCb hc hH3.2.2.1,kCb hc hH3.2.2.2.1,kCb hc hH3.2.2.2.2.1,kCb hc hH3.2.2.2.2.2.1,kCb hc hH3.2.2.2.2.2.2.1,kCb hc hH3.2.2.2.2.2.2.2.1,kCb hc hH3.2.2.2.2.2.2.2.2.1,kCb hc hH3.2.2.2.2.2.2.2.2.2.1,kCb hc hH3.2.2.2.2.2.2.2.2.2.2.1,kCb hc hH3.2.2.2.2.2.2.2.2.2.2.2.1,kCb hc hH3.2.2.2.2.2.2.2.2.2.2.2.2.1,kCb hc hH3.2.2.2.2.2.2.2.2.2.2.2.2.2.1,kCb hc hH3.2.2.2.2.2.2.2.2.2.2.2.2.2.2.1,kCb hc hH3.2.2.2.2.2.2.2.2.2.2.2.2.2.2.2⟩
    clear hK K;try simp only[zw,Act.put]
    replace HB:=zP HB hc;replace R2:=zk (R2.out.q_ hc);replace R3:=zk (R3.out.q_ hc);replace QF:=zk (QF.out.q_ hc)
    clear hc hH3;clear Q1 QA;refine zH 16 ?_;refine zH 17 ?_;refine zH 18 ?_;simp only[zw,Act.put];refine zH 19 ?_;simp only[zw,Act.put];refine rdO 20 (λK hK=>?_);go_simp
    go_at_call 15
    refine(zkc (L:=KA 8) (L':=2*KE 8) R2.out R3.out hr (by omega) (by decide) (by decide)).mono ?_;rintro e u5 ⟨rfl,hc⟩
    (try go_wp2_with fail)
    refine hK.out _ _ ?_ (λhH5=>?_)
    ·exact⟨kCb hc hH4.1,kCb hc hH4.2.1,kCb hc hH4.2.2.1,kCb hc hH4.2.2.2.1,kCb hc hH4.2.2.2.2.1,kCb hc hH4.2.2.2.2.2.1,kCb hc hH4.2.2.2.2.2.2.1,kCb hc hH4.2.2.2.2.2.2.2.1,kCb hc hH4.2.2.2.2.2.2.2.2.1,kCb hc hH4.2.2.2.2.2.2.2.2.2.1,kCb hc hH4.2.2.2.2.2.2.2.2.2.2.1,kCb hc hH4.2.2.2.2.2.2.2.2.2.2.2.1,kCb hc hH4.2.2.2.2.2.2.2.2.2.2.2.2.1,kCb hc hH4.2.2.2.2.2.2.2.2.2.2.2.2.2.1,kCb hc hH4.2.2.2.2.2.2.2.2.2.2.2.2.2.2.1,kCb hc hH4.2.2.2.2.2.2.2.2.2.2.2.2.2.2.2⟩
    clear hK K;try simp only[zw,Act.put]
    replace HB:=zP HB hc;replace QF:=zk (QF.out.q_ hc)
    clear hc hH4;clear R2 R3;refine zH 21 ?_;refine zH 22 ?_;refine zH 23 ?_;simp only[zw,Act.put];refine zH 24 ?_;refine zH 25 ?_;refine zH 26 ?_;simp only[zw,Act.put];have i8:IntKind.i64.wrap ((r:Nat):Int)=((r:Nat):Int):=by rw[IntKind.wrap_i64];omega
    simp only[i8];have i9:(0:Int)<=((r:Nat):Int)/\((r:Nat):Int)<((r:Nat):Int)+1:=by omega
    have j8:=i9.1;have j9:=i9.2
    refine zH 27 ?_;refine zH 28 ?_;simp only[zw,Act.put];refine rdO 29 (λK hK=>?_);go_simp
    go_at_call 9
    refine(zaz (z:=72) (by decide) (by decide)).mono ?_;rintro e u6 ⟨s7,x7,n7,c7,f7,y7,m7,d7,g7,rfl,hc,hq7⟩
    (try go_wp2_with fail)
    refine hK.out _ _ ?_ (λhH6=>?_)
    ·exact⟨kCb hc hH5.1,kCb hc hH5.2.1,kCb hc hH5.2.2.1,kCb hc hH5.2.2.2.1,kCb hc hH5.2.2.2.2.1,kCb hc hH5.2.2.2.2.2.1,kCb hc hH5.2.2.2.2.2.2.1,kCb hc hH5.2.2.2.2.2.2.2.1,kCb hc hH5.2.2.2.2.2.2.2.2.1,kCb hc hH5.2.2.2.2.2.2.2.2.2.1,kCb hc hH5.2.2.2.2.2.2.2.2.2.2.1,kCb hc hH5.2.2.2.2.2.2.2.2.2.2.2.1,kCb hc hH5.2.2.2.2.2.2.2.2.2.2.2.2.1,kCb hc hH5.2.2.2.2.2.2.2.2.2.2.2.2.2.1,kCb hc hH5.2.2.2.2.2.2.2.2.2.2.2.2.2.2.1,kCb hc hH5.2.2.2.2.2.2.2.2.2.2.2.2.2.2.2⟩
    clear hK K;try simp only[zw,Act.put]
    have QB:=zk hq7;replace HB:=zP HB hc;replace QF:=zk (QF.out.q_ hc)
    clear hc hH5 hq7;refine rdO 30 (λK hK=>?_);go_simp
    go_at_call 16
    refine(zbO QF.out QB.out (by decide) (by decide)).mono ?_;rintro e u7 ⟨rfl,hc⟩
    (try go_wp2_with fail)
    refine hK.out _ _ ?_ (λhH7=>?_)
    ·exact⟨kCb hc hH6.1,kCb hc hH6.2.1,kCb hc hH6.2.2.1,kCb hc hH6.2.2.2.1,kCb hc hH6.2.2.2.2.1,kCb hc hH6.2.2.2.2.2.1,kCb hc hH6.2.2.2.2.2.2.1,kCb hc hH6.2.2.2.2.2.2.2.1,kCb hc hH6.2.2.2.2.2.2.2.2.1,kCb hc hH6.2.2.2.2.2.2.2.2.2.1,kCb hc hH6.2.2.2.2.2.2.2.2.2.2.1,kCb hc hH6.2.2.2.2.2.2.2.2.2.2.2.1,kCb hc hH6.2.2.2.2.2.2.2.2.2.2.2.2.1,kCb hc hH6.2.2.2.2.2.2.2.2.2.2.2.2.2.1,kCb hc hH6.2.2.2.2.2.2.2.2.2.2.2.2.2.2.1,kCb hc hH6.2.2.2.2.2.2.2.2.2.2.2.2.2.2.2⟩
    clear hK K;try simp only[zw,Act.put]
    replace HB:=zP HB hc;clear hc hH6;clear QF QB;refine zH 31 ?_;refine zH 32 ?_;simp only[zw,Act.put];refine dnO ?_;go_wp2;go_ret;exact⟨rfl,HB.out⟩
end Go.Proofs.YtdagpgmehelfkaaGreat
