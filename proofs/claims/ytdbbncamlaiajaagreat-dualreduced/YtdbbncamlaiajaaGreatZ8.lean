/-
 Walks.
-/
import Derived.Test.YtdbbncamlaiajaaGreatZ7
set_option maxRecDepth 100000
set_option maxHeartbeats 16000000
namespace Go.Proofs.YtdbbncamlaiajaaGreat
open Nat (le_trans)
open Go.Proofs.Tryz
open Go.RowKit
theorem zrQ {p} (h:smI p≠0):smI p=-1/\smQ p=0:=by
 unfold smI smQ at *
 split at h
 ·rename_i h1;rw [if_pos h1,if_pos h1];exact ⟨rfl,rfl⟩
 ·exact absurd rfl h
def ENs (er:Int) (K:Nat) (w:World) (i:Int) (t:Nm) (p:List (Int × Rat)):Prop:=(i=if er=0 then smI p else 0)/\VNs er K w t (smQ p)
theorem ENs.q_ {er K w w' i t p} (h:ENs er K w i t p) (hb:Bl w w'):ENs er K w' i t p:=⟨h.1,h.2.q_ hb⟩
theorem zmx {w er K K' i i' t t2 p} (h1:ENs er K w i t p) (h2:ENs er K' w i' t2 p) (hK:K<=1048576) (hK':K'<=1048576) :
  Calls prog 15 #[.agg #[.int .i64 i,.bool t.s,.slice t.x t.n t.c,.slice t.y t.m t.d],.agg #[.int .i64 i',.bool t2.s,.slice t2.x t2.n t2.c,.slice t2.y t2.m t2.d]] w fun e w'=>e=.returned (.bool true)/\Bl w w':=by
 obtain ⟨e1,h1⟩:=h1;obtain ⟨e2,h2⟩:=h2;rw [e1,e2];exact zhy (fun W hW=>zmw (h1.q_ hW) (h2.q_ hW) hK hK')
def ziE (K:Nat) (w w':World) (e:Ending) (er:Int) (p:List (Int × Rat)):Prop:=∃(i:Int) (t:Nm),e=.returned (.tuple #[.agg #[.int .i64 i,.bool t.s,.slice t.x t.n t.c,.slice t.y t.m t.d],.int .i64 er])/\Bl w w'/\Hid (ENs er K w' i t p)
theorem BoAns.db {L w w' e er p} (h:BoAns L w w' e er p):ziE (KBo L) w w' e er p:=by
 obtain ⟨hb,⟨h0,rfl⟩ | ⟨h0,s,x,n,c,f,y,m,d,g,rfl,he⟩⟩:=h
 ·exact ⟨0,⟨false,none,0,0,fun _=>0,none,0,0,fun _=>0⟩,rfl,hb,zk ⟨by rw [if_neg h0],.inl ⟨h0,rfl⟩⟩⟩
 ·subst h0;exact ⟨_,⟨s,x,n,c,f,y,m,d,g⟩,rfl,hb,zk ⟨by rw [if_pos rfl],.inr ⟨rfl,he.rn⟩⟩⟩
theorem zjj {w M ao k cap X} (hI:In8 w M) (hx:Rl w ao k X) (hs:ShK 8 k X) :
  Calls prog 14 #[M.val,.slice ao k cap] w fun e w'=>ziE (2*(2*KB 8)) w w' e (zbF M k X) (bnP (nq M.off) (zbg M) (zbf M) (zaW k X)):=by
 have CC:=zk (fun W (hW:Bl w W)=>zfi (cap:=cap) (hI.q_ hW) (hx.q_ hW) hs);obtain ⟨er,her⟩:∃e,zbF M k X=e:=⟨_,rfl⟩;have CX:=zk (fun (h0:er=0) W (hW:Bl w W)=>zic (cap:=cap) (hx.q_ hW) hs (zbx (her.trans h0)).2.1);have CM:=zk (fun (h0:er=0) W (hW:Bl w W)=>zkp (hI.q_ hW) (zbx (her.trans h0)).1);have CR:Hid (er=0->∀W (M':Mo) a c,MqV (2*8) W M' (nq M.off) (zbg M) (zbf M)->Rqs (2*8) W a (zaW k X)->Calls prog 43 #[M'.val,.slice a k c] W fun e w'=>zoo (2*KB 8) W w' e (bnP (nq M.off) (zbg M) (zbf M) (zaW k X))):=fun h0 W M' a c h1 h2=>by
  have h3:=zbx (her.trans h0);have hm:=(hI.val h3.1).2;have hk:(zaW k X).length=(zbf M).length:=by rw [zbZ,zfe];exact h3.2.2
  have:=zmK (L:=8) (yc:=c) h1 h2 hk (zbj hm) (zhS hm) (by decide);rw [<-hk,zbZ] at this;exact this
 rw [her];rw [her] at CC;obtain ⟨bn,hbn⟩:∃e,bnP (nq M.off) (zbg M) (zbf M) (zaW k X)=e:=⟨_,rfl⟩;rw [hbn] at CR ⊢;obtain ⟨xs,hxs⟩:∃e,zaW k X=e:=⟨_,rfl⟩;obtain ⟨cs,hcs⟩:∃e,zbg M=e:=⟨_,rfl⟩;obtain ⟨rs,hrs⟩:∃e,zbf M=e:=⟨_,rfl⟩;obtain ⟨of,hof⟩:∃e,nq M.off=e:=⟨_,rfl⟩;simp only [hcs,hrs,hof] at CM;simp only [hcs,hrs,hof,hxs] at CR;simp only [hxs] at CX;unfold zoo at CR;clear hI hx hs her hxs hcs hrs hof hbn;obtain ⟨⟨s,x,n,c,f,y,m,d,g⟩,ca,ck,cc,C,ra,rk,rc,R⟩:=M;replace CC:Hid (∀W,Bl w W->Calls prog 36 #[.agg #[.bool s,.slice x n c,.slice y m d,.slice ca ck cc,.slice ra rk rc],.slice ao k cap] W fun e w'=>e=.returned (.int .i64 er)/\Bl W w'):=CC;replace CM:Hid (er=0->∀W,Bl w W->Calls prog 39 #[.agg #[.bool s,.slice x n c,.slice y m d,.slice ca ck cc,.slice ra rk rc]] W fun e w'=>∃M':Mo,e=.returned M'.val/\Bl W w'/\Hid (MqV (2*8) w' M' of cs rs)):=CM;show Calls prog 14 #[.agg #[.bool s,.slice x n c,.slice y m d,.slice ca ck cc,.slice ra rk rc],.slice ao k cap] w _;have HB:=zk (zu (zB w (.cells #[.bool s,.slice x n c,.slice y m d,.slice ca ck cc,.slice ra rk rc] 28)) (.cells #[.int .i64 0,.bool false,.slice none 0 0,.slice none 0 0] 42));have BM:=zk ((zH w [.bool s,.slice x n c,.slice y m d,.slice ca ck cc,.slice ra rk rc] 28).q_ (zB _ (.cells #[.int .i64 0,.bool false,.slice none 0 0,.slice none 0 0] 42)));have OB:=zaG (w.alloc (.cells #[.bool s,.slice x n c,.slice y m d,.slice ca ck cc,.slice ra rk rc] 28)) 42;rw [zz] at OB;replace OB:=zk OB;go_enter func14,ntmps14;obtain ⟨r0,r1,r2,r3,r4⟩:=bk5 BM.out;go_wp2_with fail
 clear r0 r1 r2 r3 r4;generalize (w.alloc (.cells #[.bool s,.slice x n c,.slice y m d,.slice ca ck cc,.slice ra rk rc] 28)).alloc (.cells #[.int .i64 0,.bool false,.slice none 0 0,.slice none 0 0] 42)=v0 at *;refine (CC.out _ HB.out).mono ?_;rintro e v1 ⟨rfl,hb⟩;replace HB:=zI HB hb;replace BM:=zk (BM.out.q_ hb);replace OB:=zk (OB.out.q_ hb);clear hb
 clear CC;by_cases h0:er=0
 case neg =>
  have h1:(er != 0)=true:=by simpa using h0
  have HN:=zk h0;clear CX CM CR h0;obtain ⟨hz,z0,z1,z2,z3,zf⟩:=id OB.out;go_wp2;exact bodyPost_ret (v:=.tuple #[.agg #[.int .i64 0,.bool false,.slice none 0 0,.slice none 0 0],.int .i64 er]) (by simp [results,results14,go_sem,z0,z1,z2,z3]) rfl ⟨0,⟨false,none,0,0,fun _=>0,none,0,0,fun _=>0⟩,rfl,zQ HB.out (by omega),zk ⟨by rw [if_neg HN.out],.inl ⟨HN.out,rfl⟩⟩⟩
 subst h0;replace CX:=zk (CX.out (by first | rfl | trivial));replace CM:=zk (CM.out (by first | rfl | trivial));replace CR:=zk (CR.out (by first | rfl | trivial))
 obtain ⟨r0,r1,r2,r3,r4⟩:=bk5 BM.out;go_wp2_with fail
 clear r0 r1 r2 r3 r4;refine (CM.out _ HB.out).mono ?_;rintro e w2 ⟨M1,rfl,hb,HM⟩;replace HB:=zI HB hb;replace BM:=zk (BM.out.q_ hb);replace OB:=zk (OB.out.q_ hb);clear hb
 clear CM;go_wp2_with fail
 refine (CX.out _ HB.out).mono ?_;rintro e w3 ⟨a3,c3,rfl,hb,H3⟩;replace HM:=zk (HM.out.q_ hb);replace HB:=zI HB hb;replace OB:=zk (OB.out.q_ hb);clear hb
 clear CX BM;go_wp2_with fail
 refine (CR.out _ M1 a3 c3 HM.out H3.out).mono ?_;rintro e w4 ⟨s5,x5,n5,c5,f5,y5,m5,d5,g5,rfl,hb,H5⟩;replace HB:=zI HB hb;replace OB:=zk (OB.out.q_ hb);clear hb
 clear CR HM H3;have hbt:=zB w4 (.cells #[.bool s5,.slice x5 n5 c5,.slice y5 m5 d5] 89);have BQ:=zk (zH w4 [.bool s5,.slice x5 n5 c5,.slice y5 m5 d5] 89);replace H5:=zk (H5.out.q_ hbt);replace HB:=zI HB hbt;replace OB:=zk (OB.out.q_ hbt);clear hbt
 obtain ⟨ok,hok⟩:∃t,decide (smI bn=0)=t:=⟨_,rfl⟩;rw [hok];have HOK:=zk hok;clear hok;go_upto_region 5 with fail
 generalize hbx:w4.heap.size=bx at *;generalize w4.alloc (.cells #[.bool s5,.slice x5 n5 c5,.slice y5 m5 d5] 89)=w5 at *;clear hbx;cases ok
 ·obtain ⟨e1,e2⟩:=zrQ (of_decide_eq_false HOK.out);have HE:=zk (And.intro e1 e2);clear e1 e2 HOK H5 BQ;go_wp2_with fail
  refine xLow_c.mono ?_;rintro e w6 ⟨s6,x6,n6,c6,f6,y6,m6,d6,g6,rfl,hb,H6⟩;replace HB:=zI HB hb;replace OB:=zk (OB.out.q_ hb);clear hb
  go_wp2_with fail
  refine (zlQ H6.out.2.2 (le_trans H6.out.1 (by decide)) (le_trans H6.out.2.1 (by decide))).mono ?_;rintro e w7 ⟨z,kz,cz,fz,z2_,k2_,c2_,f2_,rfl,hb,H7⟩;have HR:=zk (H7.out.rn.mono (show n6+m6<=2*(2*KB 8) by have:=H6.out.1;have:=H6.out.2.1;have:4<=2*(2*KB 8):=(by decide);omega));replace HB:=zI HB hb;replace OB:=zk (OB.out.q_ hb);clear hb
  clear H6 H7;obtain ⟨hz,z0,z1,z2,z3,zf⟩:=id OB.out;go_wp2;exact bodyPost_ret (v:=.tuple #[.agg #[.int .i64 (-1),.bool s6,.slice z kz cz,.slice z2_ k2_ c2_],.int .i64 0]) (by simp [results,results14,go_sem,z0,z1,z2,z3]) rfl ⟨-1,⟨s6,z,kz,cz,fz,z2_,k2_,c2_,f2_⟩,rfl,zQ HB.out (by omega),zk ⟨by rw [if_pos rfl,HE.out.1],.inr ⟨rfl,by rw [HE.out.2];exact OB.out.rn HR.out⟩⟩⟩
 ·have h1:=of_decide_eq_true HOK.out;have HE:=zk h1;clear h1 HOK;obtain ⟨q0,q1,q2⟩:=bk3 BQ.out;go_wp2_with fail
  clear q0 q1 q2;refine (zqf H5.out.2.2).mono ?_;rintro e w6 ⟨rfl,hb,H6⟩;replace HB:=zI HB hb;replace OB:=zk (OB.out.q_ hb);clear hb
  clear BQ;go_wp2_with fail
  refine (zlQ H6 (le_trans H5.out.1 (by decide)) (le_trans H5.out.2.1 (by decide))).mono ?_;rintro e w7 ⟨z,kz,cz,fz,z2_,k2_,c2_,f2_,rfl,hb,H7⟩;have HR:=zk (H7.out.rn.mono (show n5+m5<=2*(2*KB 8) by have h1:n5<=2*KB 8:=H5.out.1;have h2:m5<=2*KB 8:=H5.out.2.1;omega));replace HB:=zI HB hb;replace OB:=zk (OB.out.q_ hb);clear hb
  clear H5 H6 H7;obtain ⟨hz,z0,z1,z2,z3,zf⟩:=id OB.out;go_wp2;exact bodyPost_ret (v:=.tuple #[.agg #[.int .i64 0,.bool s5,.slice z kz cz,.slice z2_ k2_ c2_],.int .i64 0]) (by simp [results,results14,go_sem,z0,z1,z2,z3]) rfl ⟨0,⟨s5,z,kz,cz,fz,z2_,k2_,c2_,f2_⟩,rfl,zQ HB.out (by omega),zk ⟨by rw [if_pos rfl,HE.out],.inr ⟨rfl,OB.out.rn HR.out⟩⟩⟩
theorem zfV {w M ao k cap X} (hX:MoX w M) (hN:MoN M) (hC:MoC M) (hx:Rr w ao k X) (hk:k<=9223372036854775807) :
  Calls prog 3 #[M.val,.slice ao k cap] w fun e w'=>e=.returned (.bool true)/\Bl w w':=by
 obtain ⟨lb,hlb⟩:∃t,lgM 8 M=t:=⟨_,rfl⟩;obtain ⟨la,hla⟩:∃t,lgL 8 k X=t:=⟨_,rfl⟩;have CL:=zk (fun w' (hw:Bl w w')=>znf (w:=w') (K:=8) (hX.q_ hw).light.1 (hX.q_ hw).light.2);rw [hlb] at CL;have CA:Hid (∀W,Bl w W->Calls prog 7 #[.slice ao k cap,.int .i64 8] W fun e w'=>e=.returned (.bool la)/\Bl W w'):=fun W hW=>by
  have:=zlf (cap:=cap) 8 (hx.q_ hW) hk;rw [show (decide (k<=300) && nlg 8 X k 0)=la from hla] at this;exact this
 obtain ⟨N,hN'⟩:∃N,N=M:=⟨_,rfl⟩;have HC:Hid (lb=true->la=true->zte w N ao k X):=fun e1 e2=>by
  subst hN';subst e1;subst e2
  refine ⟨⟨hX,hN,hC,zsd hlb⟩,?_,zpo hla⟩;simp only [lgL,Bool.and_eq_true] at hla;exact hx.rl hla.2 (by decide)
 clear hX hN hC hx hlb hla hk;obtain ⟨⟨s,x,n,c,f,y,m,d,g⟩,ca,ck,cc,C,ra,rk,rc,R⟩:=M;have hNv:Hid (N.val=.agg #[.bool s,.slice x n c,.slice y m d,.slice ca ck cc,.slice ra rk rc]):=by rw [hN'];exact rfl
 clear hN';replace CL:Hid (∀w',Bl w w'->Calls prog 6 #[.agg #[.bool s,.slice x n c,.slice y m d,.slice ca ck cc,.slice ra rk rc],.int .i64 8] w' fun e w2=>e=.returned (.bool lb)/\Bl w' w2):=CL;show Calls prog 3 #[.agg #[.bool s,.slice x n c,.slice y m d,.slice ca ck cc,.slice ra rk rc],.slice ao k cap] w _;have HB:=zk (zB w (.cells #[.bool s,.slice x n c,.slice y m d,.slice ca ck cc,.slice ra rk rc] 28));have BM:=zk (zH w [.bool s,.slice x n c,.slice y m d,.slice ca ck cc,.slice ra rk rc] 28);go_enter func3,ntmps3;go_wp2_with fail
 generalize (w.alloc (.cells #[.bool s,.slice x n c,.slice y m d,.slice ca ck cc,.slice ra rk rc] 28))=v0 at *;refine (zlE _).mono ?_;rintro e v1 ⟨rfl,hb⟩;replace HB:=zI HB hb;replace BM:=zk (BM.out.q_ hb)
 clear hb;obtain ⟨r0,r1,r2,r3,r4⟩:=bk5 BM.out;go_wp2_with fail
 clear r0 r1 r2 r3 r4;refine (CL.out _ HB.out).mono ?_;rintro e v2 ⟨rfl,hb⟩;replace HB:=zI HB hb;replace BM:=zk (BM.out.q_ hb)
 clear hb CL;cases lb
 ·go_wp2;go_ret;exact ⟨by first | rfl | simp,HB.out⟩
 go_wp2_with fail
 refine (CA.out _ HB.out).mono ?_;rintro e v3 ⟨rfl,hb⟩;replace HB:=zI HB hb;replace BM:=zk (BM.out.q_ hb)
 clear hb CA;cases la
 ·go_wp2;go_ret;exact ⟨by first | rfl | simp,HB.out⟩
 replace HC:=zk (HC.out (by first | rfl | trivial) (by first | rfl | trivial));have T1:Hid (∀W,Bl w W->Calls prog 9 #[.agg #[.bool s,.slice x n c,.slice y m d,.slice ca ck cc,.slice ra rk rc]] W fun e w'=>∃(vm:Value) (M':Mo),e=.returned vm/\Bl W w'/\Hid (vm=M'.val/\TmK 8 w' N M')):=fun W hW=>by
  have:=zkV (HC.out.i.x.q_ hW) HC.out.i.n HC.out.i.k (by decide);rw [hNv.out] at this;exact this
 have TX:=zk (fun W (hW:Bl w W)=>ziK (cap:=cap) (HC.out.hx.q_ hW) HC.out.sx (by decide));obtain ⟨er,her⟩:∃e,zbF N k X=e:=⟨_,rfl⟩;obtain ⟨zs,hzs⟩:∃e,zaz (zbf N) (zaW k X) 0 (zbg N)=e:=⟨_,rfl⟩;obtain ⟨bn,hbn⟩:∃e,bnP (nq N.off) (zbg N) (zbf N) (zaW k X)=e:=⟨_,rfl⟩;have hzl:zs.length=(zbg N).length:=by rw [<-hzs,zba]
 have HL:Hid (er=0->zs.length<=64):=fun h0=>by
  have hP:=zbj (HC.out.i.val (zbx (her.trans h0)).1).2;have:=hP.cl;omega
 have AC:Hid (∀W vm M' a X' c,(vm=M'.val/\TmK 8 W N M')->Tx W a k X X'->Calls prog 8 #[vm,.slice a k c] W fun e w'=>∃a n c,e=.returned (.tuple #[.slice a n c,.int .i64 er])/\Bl W w'/\Hid (ANs er (KV 8) w' a n zs)):=fun W vm M' a X' c h1 h2=>by
  have:=zhI (cap:=c) h1.2 HC.out.i.n h2 HC.out.sx (by decide);unfold zfM at this;rw [her,<-h1.1,hzs] at this;refine this.mono ?_;rintro e w' ⟨hb,⟨h9,rfl⟩ | ⟨h9,a,c,rfl,_,h3⟩⟩
  ·exact ⟨none,0,0,rfl,hb,.inl ⟨h9,rfl⟩⟩
  ·exact ⟨a,_,c,by rw [h9],hb,.inr ⟨h9,hzl.symm,h3⟩⟩
 have DA:Hid (∀W,Bl w W->Calls prog 11 #[.agg #[.bool s,.slice x n c,.slice y m d,.slice ca ck cc,.slice ra rk rc],.slice ao k cap] W fun e w'=>∃a n c,e=.returned (.tuple #[.slice a n c,.int .i64 er])/\Bl W w'/\Hid (ANs er (2*(2*KZ 8)) w' a n zs)):=fun W hW=>by
  have:=zhh (cap:=cap) (HC.out.i.q_ hW) (HC.out.hx.q_ hW) HC.out.sx;rw [her,hNv.out,hzs] at this;refine this.mono ?_;rintro e w' ⟨hb,⟨h9,rfl⟩ | ⟨h9,a,c,rfl,_,h3⟩⟩
  ·exact ⟨none,0,0,rfl,hb,.inl ⟨h9,rfl⟩⟩
  ·exact ⟨a,_,c,by rw [h9],hb,.inr ⟨h9,hzl.symm,h3⟩⟩
 have VA:Hid (∀W vm M' a X' c,(vm=M'.val/\TmK 8 W N M')->Tx W a k X X'->Calls prog 13 #[vm,.slice a k c] W fun e w'=>ziE (KBo 8) W w' e er bn):=fun W vm M' a X' c h1 h2=>by
  have:=zlB (cap:=c) h1.2 HC.out.i.n h2 HC.out.sx (by decide) (by decide);rw [her,<-h1.1,hbn] at this;exact this.mono fun _ _ h=>h.db
 have DV:Hid (∀W,Bl w W->Calls prog 14 #[.agg #[.bool s,.slice x n c,.slice y m d,.slice ca ck cc,.slice ra rk rc],.slice ao k cap] W fun e w'=>ziE (2*(2*KB 8)) W w' e er bn):=fun W hW=>by
  have:=zjj (cap:=cap) (HC.out.i.q_ hW) (HC.out.hx.q_ hW) HC.out.sx;rw [her,hNv.out,hbn] at this;exact this
 unfold ziE at VA DV;clear HC hNv her hzs hbn hzl;have ze:(er != er)=false:=by simp
 have zq:(er==er)=true:=by simp
 have ZE:=zk ze;have ZQ:=zk zq
 clear ze zq;obtain ⟨r0,r1,r2,r3,r4⟩:=bk5 BM.out;go_wp2_with fail
 clear r0 r1 r2 r3 r4;refine (T1.out _ HB.out).mono ?_;rintro e v4 ⟨vm,M1,rfl,hb,H1⟩;replace HB:=zI HB hb;replace BM:=zk (BM.out.q_ hb)
 clear hb;go_wp2_with fail
 refine (TX.out _ HB.out).mono ?_;rintro e v5 ⟨z2,c2,X2,rfl,hb,_,H2⟩;replace HB:=zI HB hb;replace BM:=zk (BM.out.q_ hb)
 have H3:=zk (And.intro H1.out.1 (H1.out.2.q_ hb));clear hb H1;go_wp2_with fail
 refine (AC.out _ vm M1 z2 X2 c2 H3.out H2.out).mono ?_;rintro e v6 ⟨a1,n1,e1,rfl,hb,HA⟩;replace HB:=zI HB hb;replace BM:=zk (BM.out.q_ hb)
 clear hb H2 H3 AC;obtain ⟨r0,r1,r2,r3,r4⟩:=bk5 BM.out;go_wp2_with fail
 clear r0 r1 r2 r3 r4;refine (DA.out _ HB.out).mono ?_;rintro e v7 ⟨a2,n2,e2,rfl,hb,HD⟩;replace HB:=zI HB hb;replace BM:=zk (BM.out.q_ hb);replace HA:=zk (HA.out.q_ hb)
 clear hb DA;go_wp2_with fail
 refine (zmy (ca:=e1) (cb:=e2) HA.out HD.out HL.out (by decide) (by decide)).mono ?_;rintro e v8 ⟨rfl,hb⟩;replace HB:=zI HB hb;replace BM:=zk (BM.out.q_ hb);replace HA:=zk (HA.out.q_ hb);replace HD:=zk (HD.out.q_ hb)
 clear hb HA HD;have ze:=ZE.out;obtain ⟨r0,r1,r2,r3,r4⟩:=bk5 BM.out;go_wp2_with fail
 clear r0 r1 r2 r3 r4;refine (T1.out _ HB.out).mono ?_;rintro e v9 ⟨vm,M1,rfl,hb,H1⟩;replace HB:=zI HB hb;replace BM:=zk (BM.out.q_ hb)
 clear hb;go_wp2_with fail
 refine (TX.out _ HB.out).mono ?_;rintro e v10 ⟨z2,c2,X2,rfl,hb,_,H2⟩;replace HB:=zI HB hb;replace BM:=zk (BM.out.q_ hb)
 have H3:=zk (And.intro H1.out.1 (H1.out.2.q_ hb));clear hb H1;go_wp2_with fail
 refine (VA.out _ vm M1 z2 X2 c2 H3.out H2.out).mono ?_;rintro e v11 ⟨i7,⟨s7,x7,n7,c7,f7,y7,m7,d7,g7⟩,hr,hb,HV⟩;replace hr:e=.returned (.tuple #[.agg #[.int .i64 i7,.bool s7,.slice x7 n7 c7,.slice y7 m7 d7],.int .i64 er]):=hr;subst hr;replace HB:=zI HB hb;replace BM:=zk (BM.out.q_ hb)
 clear hb H2 H3 VA;have hbn:=zB v11 (.cells #[.int .i64 i7,.bool s7,.slice x7 n7 c7,.slice y7 m7 d7] 42);have B7:=zk (zH v11 [.int .i64 i7,.bool s7,.slice x7 n7 c7,.slice y7 m7 d7] 42);replace HB:=zI HB hbn;replace BM:=zk (BM.out.q_ hbn);replace HV:=zk (HV.out.q_ hbn)
 clear hbn;obtain ⟨r0,r1,r2,r3,r4⟩:=bk5 BM.out;go_wp2_with fail
 clear r0 r1 r2 r3 r4;generalize hbx7:v11.heap.size=bx7 at *;generalize v11.alloc (.cells #[.int .i64 i7,.bool s7,.slice x7 n7 c7,.slice y7 m7 d7] 42)=v12 at *;clear hbx7 ze;refine (DV.out _ HB.out).mono ?_;rintro e v13 ⟨i8,⟨s8,x8,n8,c8,f8,y8,m8,d8,g8⟩,hr,hb,HW⟩;replace hr:e=.returned (.tuple #[.agg #[.int .i64 i8,.bool s8,.slice x8 n8 c8,.slice y8 m8 d8],.int .i64 er]):=hr;subst hr;replace HB:=zI HB hb;replace BM:=zk (BM.out.q_ hb);replace HV:=zk (HV.out.q_ hb);replace B7:=zk (B7.out.q_ hb)
 clear hb DV;have hbn:=zB v13 (.cells #[.int .i64 i8,.bool s8,.slice x8 n8 c8,.slice y8 m8 d8] 42);have B8:=zk (zH v13 [.int .i64 i8,.bool s8,.slice x8 n8 c8,.slice y8 m8 d8] 42);replace HB:=zI HB hbn;replace BM:=zk (BM.out.q_ hbn);replace HV:=zk (HV.out.q_ hbn);replace B7:=zk (B7.out.q_ hbn);replace HW:=zk (HW.out.q_ hbn)
 clear hbn;obtain ⟨p0,p1,p2,p3⟩:=bk4 B7.out;obtain ⟨q0,q1,q2,q3⟩:=bk4 B8.out;go_wp2_with fail
 clear p0 p1 p2 p3 q0 q1 q2 q3;generalize hbx8:v13.heap.size=bx8 at *;generalize v13.alloc (.cells #[.int .i64 i8,.bool s8,.slice x8 n8 c8,.slice y8 m8 d8] 42)=v14 at *;clear hbx8 B7 B8;refine (zmx (t:=⟨s7,x7,n7,c7,f7,y7,m7,d7,g7⟩) (t2:=⟨s8,x8,n8,c8,f8,y8,m8,d8,g8⟩) HV.out HW.out (by decide) (by decide)).mono ?_;rintro e v15 ⟨rfl,hb⟩;replace HB:=zI HB hb;replace BM:=zk (BM.out.q_ hb);replace HV:=zk (HV.out.q_ hb);replace HW:=zk (HW.out.q_ hb)
 clear hb HV HW;have zq:=ZQ.out;go_wp2;go_ret;exact ⟨by first | rfl | simp,HB.out⟩
end Go.Proofs.YtdbbncamlaiajaaGreat
