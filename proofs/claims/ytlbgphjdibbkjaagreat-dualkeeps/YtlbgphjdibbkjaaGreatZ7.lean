/-
 Walks.
-/
import Derived.Test.YtlbgphjdibbkjaaGreatZ6
import Derived.Test.YtlbgphjdibbkjaaGreatZ2
import Derived.Test.YtlbgphjdibbkjaaGreatZ4
import Derived.Test.YtlbgphjdibbkjaaGreatZ5
import Derived.Test.YtlbgphjdibbkjaaGreatZ3
import Derived.BigRegion
import Derived.Deep.RegionHeld3
import Derived.BigQuiet
set_option maxRecDepth 100000
set_option maxHeartbeats 16000000
namespace Go.Proofs.YtlbgphjdibbkjaaGreat
open Value (slice agg)
open Obj (cells)
open Ending (returned)
open Nat (le_refl le_trans sub_self)
open World (block_lt_of_cell?)
open List (getElem?_eq_getElem)
open Go.Proofs.Tryz
open Go.RowKit
structure In8 (w:World) (M:Mo):Prop where
 x:MoX w M
 n:MoN M
 c:MoC M
 k:M.ck<=64->M.rk<=64->MoK 8 M
theorem In8.q_ {w w' M} (h:In8 w M) (hb:Bl w w'):In8 w' M:=⟨h.x.q_ hb,h.n,h.c,h.k⟩
theorem In8.val {w M} (h:In8 w M) (he:zaF M=0):MoV 8 w M (nq M.off) (zbi M) (zbp M)/\zbk (zbi M) (zbp M)=true:=by
 obtain⟨l1,l2,_⟩:=zhn he;exact(h.x.mor h.n (h.k l1 l2) (by decide) l1 l2).movC (h.k l1 l2) he
theorem zeO (a b:Int):lsf (two a b) 2=lstep a b:=by
 simp[lsf,two,lstep]
theorem zno (e:Int):lstep (lstep e 3) 7=lstep e 3:=by
 unfold lstep;split <;> split <;> omega
theorem znD {w ao k cap X} (hx:Rl w ao k X) (hs:ShK 8 k X) (ha:afB k X=true):Calls prog 44 #[slice ao k cap] w λe w'=>∃aw cw,e=returned (slice aw k cw)/\Bl w w'/\Hid (Rqs (2*8) w' aw (zbg k X)) :=
 (zpH (L:=8) (p:=zbg k X) hx (by have:=hs.1;omega) (by decide) (zcy _ _) (λj hj=>by
  obtain⟨b,o,_,_,hn⟩:=hx j hj;exact⟨nq (X j),zdS hj,NmS.val (K:=8) hn (zht ha j (by omega) (by omega)) (hs.2 j hj)⟩)).mono (by
   rintro e w' ⟨aw,cw,rfl,h1,_,h3⟩;exact⟨aw,cw,rfl,h1,zk h3.out⟩)
theorem zpI {w M} (h:In8 w M) (he:zaF M=0):Calls prog 43 #[M.val] w λe w'=>∃M':Mo,e=returned M'.val/\Bl w w'/\Hid (MqV (2*8) w' M' (nq M.off) (zbi M) (zbp M)) :=
 (zpr (h.val he).1 (by decide) (h.val he).2).mono (by
  rintro e w' ⟨M',h1,h2,h3⟩;exact⟨M',h1,h2,zk h3⟩)
theorem zeJ {w z} (h0:-1000<=z) (h1:z<=1000):Calls prog 21 #[.int .i64 z] w λe w'=>∃v,e=returned v/\Bl w w'/\GX 8 0 (z:Rat) v w':=by
 have HB:=zk (zB w (cells #[.int .i64 0,.bool false,slice none 0 0,slice none 0 0] 40));have BR:=zk (zF w [.int .i64 0,.bool false,slice none 0 0,slice none 0 0] 40);go_enter func21,ntmps21;go_wp2_with fail
 generalize w.alloc (cells #[.int .i64 0,.bool false,slice none 0 0,slice none 0 0] 40)=w0 at *;refine(zaE (z:=z) (by omega) (by omega)).mono ?_;rintro e w1 ⟨s,x,n,c,f,y,m,d,g,rfl,hb,hr⟩;replace HB:=zJ HB hb;replace BR:=zk (BR.out.q_ hb)
 obtain⟨hx1,hx2,hx3⟩:=zgC [.int .i64 0,.bool s,slice x n c,slice y m d] BR.out (zaa (λu hu q=>by simp at hu;rcases hu with rfl|rfl|rfl|rfl <;> simp)) HB.out (le_refl _);obtain⟨l0,l1,l2,l3⟩:=bk4 BR.out;have ff:=BR.out.frozen;have HX:Hid (Bl w (stl w.heap.size 0 [.int .i64 0,.bool s,slice x n c,slice y m d] w1)/\GX 8 0 (z:Rat) (agg #[.int .i64 0,.bool s,slice x n c,slice y m d]) (stl w.heap.size 0 [.int .i64 0,.bool s,slice x n c,slice y m d] w1)):=⟨hx1,⟨0,⟨s,x,n,c,f,y,m,d,g⟩⟩,rfl,rfl,(Rn.kp hr hx2).mono (by decide)⟩;clear hx1 hx2 hx3 hb hr HB;go_wp2;exact bodyPost_ret (v:=agg #[.int .i64 0,.bool s,slice x n c,slice y m d]) (by simp[results,results21,go_sem,l0,l1,l2,l3]) rfl ⟨_,rfl,HX.out⟩
theorem zkN {w z}:Calls prog 47 #[.string z] w λe w'=>∃v,e=returned v/\Bl w w'/\GC 8 ⟨z,-1,0,0,0,4⟩ v w':=by
 have HB:=zk (zB w (cells #[.string ⟨#[]⟩,.bool false,slice none 0 0,slice none 0 0,.int .i64 0,.bool false,slice none 0 0,slice none 0 0,.int .i64 0,.bool false,slice none 0 0,slice none 0 0] 60));have O0:Hid (Bk (w.alloc (cells #[.string ⟨#[]⟩,.bool false,slice none 0 0,slice none 0 0,.int .i64 0,.bool false,slice none 0 0,slice none 0 0,.int .i64 0,.bool false,slice none 0 0,slice none 0 0] 60)) w.heap.size [.string ⟨#[]⟩,.bool false,slice none 0 0,slice none 0 0,.int .i64 0,.bool false,slice none 0 0,slice none 0 0,.int .i64 0,.bool false,slice none 0 0,slice none 0 0] 60):=zF w [.string ⟨#[]⟩,.bool false,slice none 0 0,slice none 0 0,.int .i64 0,.bool false,slice none 0 0,slice none 0 0,.int .i64 0,.bool false,slice none 0 0,slice none 0 0] 60;go_enter func47,ntmps47;go_wp2_with fail
 generalize w.alloc (cells #[.string ⟨#[]⟩,.bool false,slice none 0 0,slice none 0 0,.int .i64 0,.bool false,slice none 0 0,slice none 0 0,.int .i64 0,.bool false,slice none 0 0,slice none 0 0] 60)=w0 at *;refine(zaE (z:=(-1)) (by decide) (by decide)).mono ?_;rintro e w1 ⟨s1,x1,n1,c1,f1,y1,m1,d1,g1,rfl,hb,hr⟩;replace HB:=zJ HB hb;replace O0:=zk (O0.out.q_ hb)
 have R1:=zk (hr.mono (show 4<=8 by decide));clear hb hr;go_wp2_with fail
 refine(zeJ (z:=0) (by decide) (by decide)).mono ?_;rintro e w2 ⟨v2,rfl,hb,⟨⟨i2,⟨s2,x2,n2,c2,f2,y2,m2,d2,g2⟩⟩,ev,hi2,hv⟩⟩;replace ev:v2=agg #[.int .i64 i2,.bool s2,slice x2 n2 c2,slice y2 m2 d2]:=ev;subst ev;replace HB:=zJ HB hb;replace O0:=zk (O0.out.q_ hb);replace R1:=zk (R1.out.q_ hb)
 replace hi2:i2=0:=hi2;subst hi2;have R2:=zk (show Rn 8 w2 s2 x2 n2 c2 f2 y2 m2 d2 g2 (0:Int)from hv);clear hb hv;go_wp2_with fail
 refine(zeJ (z:=4) (by decide) (by decide)).mono ?_;rintro e w3 ⟨v3,rfl,hb,⟨⟨i3,⟨s3,x3,n3,c3,f3,y3,m3,d3,g3⟩⟩,ev,hi3,hv⟩⟩;replace ev:v3=agg #[.int .i64 i3,.bool s3,slice x3 n3 c3,slice y3 m3 d3]:=ev;subst ev;replace HB:=zJ HB hb;replace O0:=zk (O0.out.q_ hb);replace R1:=zk (R1.out.q_ hb);replace R2:=zk (R2.out.q_ hb)
 replace hi3:i3=0:=hi3;subst hi3;have R3:=zk (show Rn 8 w3 s3 x3 n3 c3 f3 y3 m3 d3 g3 (4:Int)from hv);clear hb hv;obtain⟨hx1,hx2,hx3⟩:=zgC [.string z,.bool s1,slice x1 n1 c1,slice y1 m1 d1,.int .i64 0,.bool s2,slice x2 n2 c2,slice y2 m2 d2,.int .i64 0,.bool s3,slice x3 n3 c3,slice y3 m3 d3] O0.out (zaa (λu hu q=>by simp at hu;rcases hu with rfl|rfl|rfl|rfl|rfl|rfl|rfl|rfl|rfl <;> simp)) HB.out (le_refl _);obtain⟨l0,l1,l2,l3,l4,l5,l6,l7,l8,l9,l10,l11⟩:=zee O0.out;have ff:=O0.out.frozen;have HX:Hid (Bl w (stl w.heap.size 0 [.string z,.bool s1,slice x1 n1 c1,slice y1 m1 d1,.int .i64 0,.bool s2,slice x2 n2 c2,slice y2 m2 d2,.int .i64 0,.bool s3,slice x3 n3 c3,slice y3 m3 d3] w3)/\GC 8 ⟨z,-1,0,0,0,4⟩ (agg #[.string z,.bool s1,slice x1 n1 c1,slice y1 m1 d1,.int .i64 0,.bool s2,slice x2 n2 c2,slice y2 m2 d2,.int .i64 0,.bool s3,slice x3 n3 c3,slice y3 m3 d3]) (stl w.heap.size 0 [.string z,.bool s1,slice x1 n1 c1,slice y1 m1 d1,.int .i64 0,.bool s2,slice x2 n2 c2,slice y2 m2 d2,.int .i64 0,.bool s3,slice x3 n3 c3,slice y3 m3 d3] w3)):=⟨hx1,⟨⟨z,⟨s1,x1,n1,c1,f1,y1,m1,d1,g1⟩,⟨0,⟨s2,x2,n2,c2,f2,y2,m2,d2,g2⟩⟩,⟨0,⟨s3,x3,n3,c3,f3,y3,m3,d3,g3⟩⟩⟩,rfl,rfl,Rn.kp R1.out hx2,rfl,Rn.kp R2.out hx2,rfl,Rn.kp R3.out hx2⟩⟩;clear hx1 hx2 hx3 HB O0;go_wp2;exact bodyPost_ret (v:=agg #[.string z,.bool s1,slice x1 n1 c1,slice y1 m1 d1,.int .i64 0,.bool s2,slice x2 n2 c2,slice y2 m2 d2,.int .i64 0,.bool s3,slice x3 n3 c3,slice y3 m3 d3]) (by simp[results,results47,go_sem,l0,l1,l2,l3,l4,l5,l6,l7,l8,l9,l10,l11]) rfl ⟨_,rfl,HX.out⟩
theorem zhS:Lo 4 (((-1:Int):Rat)/2):=⟨by decide +kernel,by decide +kernel⟩
theorem zcF {w} {z:Int} (h0:-1000<=z) (h1:z<=1000) (hl:Lo 4 ((z:Rat)/2)):Calls prog 18 #[.int .i64 z] w λe w'=>∃s x n c f y m d g,e=returned (agg #[.bool s,slice x n c,slice y m d])/\Bl w w'/\Hid (Rn 4 w' s x n c f y m d g ((z:Rat)/2)):=by
 have HB:=zk (zB w (cells #[.bool false,slice none 0 0,slice none 0 0] 24));have O0:=zk (zF w [.bool false,slice none 0 0,slice none 0 0] 24);go_enter func18,ntmps18;go_wp2_with fail
 generalize w.alloc (cells #[.bool false,slice none 0 0,slice none 0 0] 24)=w0 at *;refine(zfg (z:=z) (by omega) (by omega)).mono ?_;rintro e w1 ⟨s1,x1,n1,c1,d1,y1,m1,e1,g1,rfl,hb,hn1,hm1,hq⟩;replace HB:=zJ HB hb;replace O0:=zk (O0.out.q_ hb)
 have Q1:=zk hq;clear hb hq;go_wp2_with fail
 refine(zfg (z:=2) (by decide) (by decide)).mono ?_;rintro e w2 ⟨s2,x2,n2,c2,d2,y2,m2,e2,g2,rfl,hb,hn2,hm2,hq⟩;replace HB:=zJ HB hb;replace O0:=zk (O0.out.q_ hb);replace Q1:=zk (Q1.out.q_ hb)
 have Q2:=zk hq;clear hb hq;go_wp2_with fail
 refine(zrg Q1.out Q2.out (by omega) (by omega) (by omega) (by omega) (by decide)).mono ?_;rintro e w3 ⟨s3,x3,n3,c3,d3,y3,m3,e3,g3,rfl,hb,hn3,hm3,hq⟩;replace HB:=zJ HB hb;replace O0:=zk (O0.out.q_ hb);replace Q1:=zk (Q1.out.q_ hb);replace Q2:=zk (Q2.out.q_ hb)
 have Q3:=zk hq;clear hb hq;go_wp2_with fail
 refine(zgK Q3.out (by omega) (by omega)).mono ?_;rintro e w4 ⟨z4,k4,t4,f4,v4,l4,u4,g4,rfl,hb,hr⟩;replace HB:=zJ HB hb;replace O0:=zk (O0.out.q_ hb);replace Q1:=zk (Q1.out.q_ hb);replace Q2:=zk (Q2.out.q_ hb);replace Q3:=zk (Q3.out.q_ hb)
 have R4:=zk (hr.out.cut (show Lo 4 ((z:Rat)/((2:Int):Rat))from hl));clear hb hr Q1 Q2 Q3;obtain⟨hx1,hx2,hx3⟩:=zgC [.bool s3,slice z4 k4 t4,slice v4 l4 u4] O0.out (zaa (λu hu q=>by simp at hu;rcases hu with rfl|rfl <;> simp)) HB.out (le_refl _);obtain⟨l0,l1,l2⟩:=bk3 O0.out;have ff:=O0.out.frozen;have HX:Hid (Bl w (stl w.heap.size 0 [.bool s3,slice z4 k4 t4,slice v4 l4 u4] w4)/\Hid (Rn 4 (stl w.heap.size 0 [.bool s3,slice z4 k4 t4,slice v4 l4 u4] w4) s3 z4 k4 t4 f4 v4 l4 u4 g4 ((z:Rat)/2))):=⟨hx1,zk (Rn.kp R4.out hx2)⟩;clear hx1 hx2 hx3 HB O0;go_wp2;exact bodyPost_ret (v:=agg #[.bool s3,slice z4 k4 t4,slice v4 l4 u4]) (by simp[results,results18,go_sem,l0,l1,l2]) rfl ⟨_,_,_,_,_,_,_,_,_,rfl,HX.out⟩
theorem zro {w B o s x1 x2 x3 n1 n2 n3 c1 c2 c3 t} (h:Bk w B [slice x1 n1 c1,slice x2 n2 c2,slice x3 n3 c3] t):w.cell? ⟨B,o,none⟩≠some (.bool s):=λe=>by
 unfold Bk at h;simp only[World.cell?,h]at e
 match o,e with
 | 0,e=>simp at e
 | 1,e=>simp at e
 | 2,e=>simp at e
 | o+3,e=>simp at e
theorem Rf.kpo {L w w' ao B p} (h:Rf L w ao p) (hk:Kp w w') (hne:∀k,k≠B->w'.heap[k]?=w.heap[k]?) (hno:∀o s,w.cell? ⟨B,o,none⟩≠some (.bool s)):Rf L w' ao p:=λj q e=>by
 obtain⟨b,o,t,h1,h2,h3⟩:=h j q e;have hb:b≠B:=λe'=>by subst e';exact hno _ _ h2.x0
 have hc:∀i,w'.cell? ⟨b,i,none⟩=w.cell? ⟨b,i,none⟩:=λi=>by simp only[World.cell?,hne b hb]
 exact⟨b,o,t,h1,⟨(hc _).trans h2.x0,(hc _).trans h2.x1,(hc _).trans h2.x2⟩,Rn.kp h3 hk⟩
theorem best11_c {w}:Calls prog 19 #[] w λe w'=>∃a b c,e=returned (agg #[slice a 2 2,slice b 1 1,slice c 2 2])/\Bl w w'/\Hid (Rf 8 w' a [((4:Int):Rat),((1:Int):Rat)]/\Rf 8 w' b [((-1:Int):Rat)/2]/\Rf 8 w' c [((-1:Int):Rat)/2,((0:Int):Rat)]):=by
 have HB:=zk (zB w (cells #[slice none 0 0,slice none 0 0,slice none 0 0] 46));have O0:=zk (zF w [slice none 0 0,slice none 0 0,slice none 0 0] 46);go_enter func19,ntmps19;go_wp2_with fail
 generalize w.alloc (cells #[slice none 0 0,slice none 0 0,slice none 0 0] 46)=w0 at *;refine(zaE (z:=4) (by decide) (by decide)).mono ?_;rintro e w1 ⟨s1,x1,n1,c1,f1,y1,m1,d1,g1,rfl,hb,hr⟩;replace HB:=zJ HB hb;replace O0:=zk (O0.out.q_ hb)
 have R1:=zk (hr.mono (show 4<=8 by decide));clear hb hr;go_wp2_with fail
 refine(zaE (z:=1) (by decide) (by decide)).mono ?_;rintro e w2 ⟨s2,x2,n2,c2,f2,y2,m2,d2,g2,rfl,hb,hr⟩;replace HB:=zJ HB hb;replace O0:=zk (O0.out.q_ hb);replace R1:=zk (R1.out.q_ hb)
 have R2:=zk (hr.mono (show 4<=8 by decide));clear hb hr;have hn:=zB w2 (cells #[.bool s1,slice x1 n1 c1,slice y1 m1 d1,.bool s2,slice x2 n2 c2,slice y2 m2 d2] 24);have X1:=zk (show Rf 8 (w2.alloc (cells #[.bool s1,slice x1 n1 c1,slice y1 m1 d1,.bool s2,slice x2 n2 c2,slice y2 m2 d2] 24)) (some ⟨w2.heap.size,0,none⟩) [((4:Int):Rat),((1:Int):Rat)]from zmE (R1.out.mono (by decide)) (R2.out.mono (by decide)));replace HB:=zJ HB hn;replace O0:=zk (O0.out.q_ hn);replace R1:=zk (R1.out.q_ hn);replace R2:=zk (R2.out.q_ hn)
 clear hn;go_wp2_with fail
 generalize w2.alloc (cells #[.bool s1,slice x1 n1 c1,slice y1 m1 d1,.bool s2,slice x2 n2 c2,slice y2 m2 d2] 24)=vX1 at *;generalize w2.heap.size=pX1 at *;refine(zcF (z:=(-1)) (by decide) (by decide) zhS).mono ?_;rintro e w3 ⟨s3,x3,n3,c3,f3,y3,m3,d3,g3,rfl,hb,hr⟩;replace HB:=zJ HB hb;replace O0:=zk (O0.out.q_ hb);replace R1:=zk (R1.out.q_ hb);replace R2:=zk (R2.out.q_ hb);replace X1:=zk (X1.out.q_ hb)
 have R3:=zk hr.out;clear hb hr;have hn:=zB w3 (cells #[.bool s3,slice x3 n3 c3,slice y3 m3 d3] 24);have X2:=zk (show Rf 8 (w3.alloc (cells #[.bool s3,slice x3 n3 c3,slice y3 m3 d3] 24)) (some ⟨w3.heap.size,0,none⟩) [((-1:Int):Rat)/2]from(zha (base:=0) (R3.out.mono (by decide)) (Nat.zero_le _)).rf);replace HB:=zJ HB hn;replace O0:=zk (O0.out.q_ hn);replace R1:=zk (R1.out.q_ hn);replace R2:=zk (R2.out.q_ hn);replace X1:=zk (X1.out.q_ hn);replace R3:=zk (R3.out.q_ hn)
 clear hn;go_wp2_with fail
 generalize w3.alloc (cells #[.bool s3,slice x3 n3 c3,slice y3 m3 d3] 24)=vX2 at *;generalize w3.heap.size=pX2 at *;refine(zcF (z:=(-1)) (by decide) (by decide) zhS).mono ?_;rintro e w4 ⟨s4,x4,n4,c4,f4,y4,m4,d4,g4,rfl,hb,hr⟩;replace HB:=zJ HB hb;replace O0:=zk (O0.out.q_ hb);replace R1:=zk (R1.out.q_ hb);replace R2:=zk (R2.out.q_ hb);replace X1:=zk (X1.out.q_ hb);replace R3:=zk (R3.out.q_ hb);replace X2:=zk (X2.out.q_ hb)
 have R4:=zk hr.out;clear hb hr;go_wp2_with fail
 refine(zaE (z:=0) (by decide) (by decide)).mono ?_;rintro e w5 ⟨s5,x5,n5,c5,f5,y5,m5,d5,g5,rfl,hb,hr⟩;replace HB:=zJ HB hb;replace O0:=zk (O0.out.q_ hb);replace R1:=zk (R1.out.q_ hb);replace R2:=zk (R2.out.q_ hb);replace X1:=zk (X1.out.q_ hb);replace R3:=zk (R3.out.q_ hb);replace X2:=zk (X2.out.q_ hb);replace R4:=zk (R4.out.q_ hb)
 have R5:=zk (hr.mono (show 4<=8 by decide));clear hb hr;have hn:=zB w5 (cells #[.bool s4,slice x4 n4 c4,slice y4 m4 d4,.bool s5,slice x5 n5 c5,slice y5 m5 d5] 24);have X3:=zk (show Rf 8 (w5.alloc (cells #[.bool s4,slice x4 n4 c4,slice y4 m4 d4,.bool s5,slice x5 n5 c5,slice y5 m5 d5] 24)) (some ⟨w5.heap.size,0,none⟩) [((-1:Int):Rat)/2,((0:Int):Rat)]from zmE (R4.out.mono (by decide)) (R5.out.mono (by decide)));replace HB:=zJ HB hn;replace O0:=zk (O0.out.q_ hn);replace R1:=zk (R1.out.q_ hn);replace R2:=zk (R2.out.q_ hn);replace X1:=zk (X1.out.q_ hn);replace R3:=zk (R3.out.q_ hn);replace X2:=zk (X2.out.q_ hn);replace R4:=zk (R4.out.q_ hn);replace R5:=zk (R5.out.q_ hn)
 clear hn R1 R2 R3 R4 R5;obtain⟨hx1,hx2,hx3⟩:=zgC [slice (some ⟨pX1,0,none⟩) 2 2,slice (some ⟨pX2,0,none⟩) 1 1,slice (some ⟨w5.heap.size,0,none⟩) 2 2] O0.out (zaa (λu hu q=>by simp at hu;subst hu;simp)) HB.out (le_refl _);obtain⟨l0,l1,l2⟩:=bk3 O0.out;have ff:=O0.out.frozen;have HX:Hid (Bl w (stl w.heap.size 0 [slice (some ⟨pX1,0,none⟩) 2 2,slice (some ⟨pX2,0,none⟩) 1 1,slice (some ⟨w5.heap.size,0,none⟩) 2 2] (w5.alloc (cells #[.bool s4,slice x4 n4 c4,slice y4 m4 d4,.bool s5,slice x5 n5 c5,slice y5 m5 d5] 24)))/\Hid (Rf 8 (stl w.heap.size 0 [slice (some ⟨pX1,0,none⟩) 2 2,slice (some ⟨pX2,0,none⟩) 1 1,slice (some ⟨w5.heap.size,0,none⟩) 2 2] (w5.alloc (cells #[.bool s4,slice x4 n4 c4,slice y4 m4 d4,.bool s5,slice x5 n5 c5,slice y5 m5 d5] 24))) (some ⟨pX1,0,none⟩) [((4:Int):Rat),((1:Int):Rat)]/\Rf 8 (stl w.heap.size 0 [slice (some ⟨pX1,0,none⟩) 2 2,slice (some ⟨pX2,0,none⟩) 1 1,slice (some ⟨w5.heap.size,0,none⟩) 2 2] (w5.alloc (cells #[.bool s4,slice x4 n4 c4,slice y4 m4 d4,.bool s5,slice x5 n5 c5,slice y5 m5 d5] 24))) (some ⟨pX2,0,none⟩) [((-1:Int):Rat)/2]/\Rf 8 (stl w.heap.size 0 [slice (some ⟨pX1,0,none⟩) 2 2,slice (some ⟨pX2,0,none⟩) 1 1,slice (some ⟨w5.heap.size,0,none⟩) 2 2] (w5.alloc (cells #[.bool s4,slice x4 n4 c4,slice y4 m4 d4,.bool s5,slice x5 n5 c5,slice y5 m5 d5] 24))) (some ⟨w5.heap.size,0,none⟩) [((-1:Int):Rat)/2,((0:Int):Rat)])):=⟨hx1,zk ⟨X1.out.kpo hx2 hx3 (λo s=>zro O0.out),X2.out.kpo hx2 hx3 (λo s=>zro O0.out),X3.out.kpo hx2 hx3 (λo s=>zro O0.out)⟩⟩;clear hx1 hx2 hx3 HB O0;go_wp2;exact bodyPost_ret (v:=agg #[slice (some ⟨pX1,0,none⟩) 2 2,slice (some ⟨pX2,0,none⟩) 1 1,slice (some ⟨w5.heap.size,0,none⟩) 2 2]) (by simp[results,results19,go_sem,l0,l1,l2]) rfl ⟨_,_,_,rfl,HX.out⟩
def k2C:List CV:=[⟨⟨#[120]⟩,-1,0,0,0,4⟩,⟨⟨#[121]⟩,-1,0,0,0,4⟩]
def k2R:List RV:=[⟨⟨#[114]⟩,-1,0,0,6,[(0,1),(1,2)]⟩]
theorem first11_c {w}:Calls prog 17 #[] w λe w'=>∃M:Mo,e=returned M.val/\Bl w w'/\Hid (MoV 8 w' M 3 k2C k2R):=by
 have HB:=zk (zB w (cells #[.bool false,slice none 0 0,slice none 0 0,slice none 0 0,slice none 0 0] 28));have O0:=zk (zF w [.bool false,slice none 0 0,slice none 0 0,slice none 0 0,slice none 0 0] 28);go_enter func17,ntmps17;go_wp2_with fail
 generalize w.alloc (cells #[.bool false,slice none 0 0,slice none 0 0,slice none 0 0,slice none 0 0] 28)=w0 at *;refine(zaE (z:=3) (by decide) (by decide)).mono ?_;rintro e w1 ⟨s1,x1,n1,c1,f1,y1,m1,d1,g1,rfl,hb,hr⟩;replace HB:=zJ HB hb;replace O0:=zk (O0.out.q_ hb)
 have R1:=zk (hr.mono (show 4<=8 by decide));clear hb hr;go_wp2_with fail
 refine(zkN (z:=⟨#[120]⟩)).mono ?_;rintro e w2 ⟨v2,rfl,hb,⟨⟨z2,⟨sb2,xb2,nb2,cb2,fb2,yb2,mb2,db2,gb2⟩,⟨ic2,⟨sc2,xc2,nc2,cc2,fc2,yc2,mc2,dc2,gc2⟩⟩,⟨id2,⟨sd2,xd2,nd2,cd2,fd2,yd2,md2,dd2,gd2⟩⟩⟩,ev,hv⟩⟩;replace ev:v2=agg #[.string z2,.bool sb2,slice xb2 nb2 cb2,slice yb2 mb2 db2,.int .i64 ic2,.bool sc2,slice xc2 nc2 cc2,slice yc2 mc2 dc2,.int .i64 id2,.bool sd2,slice xd2 nd2 cd2,slice yd2 md2 dd2]:=ev;subst ev;replace HB:=zJ HB hb;replace O0:=zk (O0.out.q_ hb);replace R1:=zk (R1.out.q_ hb)
 have R2:=zk hv;clear hb hv;go_wp2_with fail
 refine(zkN (z:=⟨#[121]⟩)).mono ?_;rintro e w3 ⟨v3,rfl,hb,⟨⟨z3,⟨sb3,xb3,nb3,cb3,fb3,yb3,mb3,db3,gb3⟩,⟨ic3,⟨sc3,xc3,nc3,cc3,fc3,yc3,mc3,dc3,gc3⟩⟩,⟨id3,⟨sd3,xd3,nd3,cd3,fd3,yd3,md3,dd3,gd3⟩⟩⟩,ev,hv⟩⟩;replace ev:v3=agg #[.string z3,.bool sb3,slice xb3 nb3 cb3,slice yb3 mb3 db3,.int .i64 ic3,.bool sc3,slice xc3 nc3 cc3,slice yc3 mc3 dc3,.int .i64 id3,.bool sd3,slice xd3 nd3 cd3,slice yd3 md3 dd3]:=ev;subst ev;replace HB:=zJ HB hb;replace O0:=zk (O0.out.q_ hb);replace R1:=zk (R1.out.q_ hb);replace R2:=zk (R2.out.q_ hb)
 have R3:=zk hv;clear hb hv;have hn:=zB w3 (cells #[.string z2,.bool sb2,slice xb2 nb2 cb2,slice yb2 mb2 db2,.int .i64 ic2,.bool sc2,slice xc2 nc2 cc2,slice yc2 mc2 dc2,.int .i64 id2,.bool sd2,slice xd2 nd2 cd2,slice yd2 md2 dd2,.string z3,.bool sb3,slice xb3 nb3 cb3,slice yb3 mb3 db3,.int .i64 ic3,.bool sc3,slice xc3 nc3 cc3,slice yc3 mc3 dc3,.int .i64 id3,.bool sd3,slice xd3 nd3 cd3,slice yd3 md3 dd3] 60);have HC:Hid (Cs (w3.alloc (cells #[.string z2,.bool sb2,slice xb2 nb2 cb2,slice yb2 mb2 db2,.int .i64 ic2,.bool sc2,slice xc2 nc2 cc2,slice yc2 mc2 dc2,.int .i64 id2,.bool sd2,slice xd2 nd2 cd2,slice yd2 md2 dd2,.string z3,.bool sb3,slice xb3 nb3 cb3,slice yb3 mb3 db3,.int .i64 ic3,.bool sc3,slice xc3 nc3 cc3,slice yc3 mc3 dc3,.int .i64 id3,.bool sd3,slice xd3 nd3 cd3,slice yd3 md3 dd3] 60)) w3.heap.size 0 [.string z2,.bool sb2,slice xb2 nb2 cb2,slice yb2 mb2 db2,.int .i64 ic2,.bool sc2,slice xc2 nc2 cc2,slice yc2 mc2 dc2,.int .i64 id2,.bool sd2,slice xd2 nd2 cd2,slice yd2 md2 dd2]/\Cs (w3.alloc (cells #[.string z2,.bool sb2,slice xb2 nb2 cb2,slice yb2 mb2 db2,.int .i64 ic2,.bool sc2,slice xc2 nc2 cc2,slice yc2 mc2 dc2,.int .i64 id2,.bool sd2,slice xd2 nd2 cd2,slice yd2 md2 dd2,.string z3,.bool sb3,slice xb3 nb3 cb3,slice yb3 mb3 db3,.int .i64 ic3,.bool sc3,slice xc3 nc3 cc3,slice yc3 mc3 dc3,.int .i64 id3,.bool sd3,slice xd3 nd3 cd3,slice yd3 md3 dd3] 60)) w3.heap.size 12 [.string z3,.bool sb3,slice xb3 nb3 cb3,slice yb3 mb3 db3,.int .i64 ic3,.bool sc3,slice xc3 nc3 cc3,slice yc3 mc3 dc3,.int .i64 id3,.bool sd3,slice xd3 nd3 cd3,slice yd3 md3 dd3]):=znN w3 60 [.string z2,.bool sb2,slice xb2 nb2 cb2,slice yb2 mb2 db2,.int .i64 ic2,.bool sc2,slice xc2 nc2 cc2,slice yc2 mc2 dc2,.int .i64 id2,.bool sd2,slice xd2 nd2 cd2,slice yd2 md2 dd2] [.string z3,.bool sb3,slice xb3 nb3 cb3,slice yb3 mb3 db3,.int .i64 ic3,.bool sc3,slice xc3 nc3 cc3,slice yc3 mc3 dc3,.int .i64 id3,.bool sd3,slice xd3 nd3 cd3,slice yd3 md3 dd3];replace HB:=zJ HB hn;replace O0:=zk (O0.out.q_ hn);replace R1:=zk (R1.out.q_ hn);replace R2:=zk (R2.out.q_ hn);replace R3:=zk (R3.out.q_ hn)
 clear hn;go_wp2_with fail
 generalize hw8:w3.alloc (cells #[.string z2,.bool sb2,slice xb2 nb2 cb2,slice yb2 mb2 db2,.int .i64 ic2,.bool sc2,slice xc2 nc2 cc2,slice yc2 mc2 dc2,.int .i64 id2,.bool sd2,slice xd2 nd2 cd2,slice yd2 md2 dd2,.string z3,.bool sb3,slice xb3 nb3 cb3,slice yb3 mb3 db3,.int .i64 ic3,.bool sc3,slice xc3 nc3 cc3,slice yc3 mc3 dc3,.int .i64 id3,.bool sd3,slice xd3 nd3 cd3,slice yd3 md3 dd3] 60)=w4 at *;clear hw8;generalize w3.heap.size=bc at *;have HC1:=zk HC.out.1;have HC2:=zk HC.out.2
 clear HC;refine(zqv).mono ?_;rintro e w5 ⟨s5,x5,n5,c5,f5,y5,m5,d5,g5,rfl,hb,hF⟩;replace HB:=zJ HB hb;replace O0:=zk (O0.out.q_ hb);replace R1:=zk (R1.out.q_ hb);replace R2:=zk (R2.out.q_ hb);replace R3:=zk (R3.out.q_ hb);replace HC1:=zk (HC1.out.q_ hb);replace HC2:=zk (HC2.out.q_ hb)
 clear hb;go_wp2_with fail
 refine(zrU hF.out.2.2 (by have:=hF.out;omega) (by have:=hF.out;omega)).mono ?_;rintro e w6 ⟨x6,n6,c6,f6,y6,m6,d6,g6,rfl,hb,hE⟩;replace HB:=zJ HB hb;replace O0:=zk (O0.out.q_ hb);replace R1:=zk (R1.out.q_ hb);replace R2:=zk (R2.out.q_ hb);replace R3:=zk (R3.out.q_ hb);replace HC1:=zk (HC1.out.q_ hb);replace HC2:=zk (HC2.out.q_ hb)
 have R6:=zk (hE.out.rn.mono (show _<=8 by have:=hF.out;omega));clear hb hE hF;generalize s5=s6 at *;go_wp2_with fail
 refine(zeJ (z:=6) (by decide) (by decide)).mono ?_;rintro e w7 ⟨v7,rfl,hb,⟨⟨i7,⟨s7,x7,n7,c7,f7,y7,m7,d7,g7⟩⟩,ev,hi7,hv⟩⟩;replace ev:v7=agg #[.int .i64 i7,.bool s7,slice x7 n7 c7,slice y7 m7 d7]:=ev;subst ev;replace HB:=zJ HB hb;replace O0:=zk (O0.out.q_ hb);replace R1:=zk (R1.out.q_ hb);replace R2:=zk (R2.out.q_ hb);replace R3:=zk (R3.out.q_ hb);replace HC1:=zk (HC1.out.q_ hb);replace HC2:=zk (HC2.out.q_ hb);replace R6:=zk (R6.out.q_ hb)
 replace hi7:i7=0:=hi7;subst hi7;have R7:=zk (show Rn 8 w7 s7 x7 n7 c7 f7 y7 m7 d7 g7 (6:Int)from hv);clear hb hv;go_wp2_with fail
 refine(zaE (z:=1) (by decide) (by decide)).mono ?_;rintro e w8 ⟨s8,x8,n8,c8,f8,y8,m8,d8,g8,rfl,hb,hr⟩;replace HB:=zJ HB hb;replace O0:=zk (O0.out.q_ hb);replace R1:=zk (R1.out.q_ hb);replace R2:=zk (R2.out.q_ hb);replace R3:=zk (R3.out.q_ hb);replace HC1:=zk (HC1.out.q_ hb);replace HC2:=zk (HC2.out.q_ hb);replace R6:=zk (R6.out.q_ hb);replace R7:=zk (R7.out.q_ hb)
 have R8:=zk (hr.mono (show 4<=8 by decide));clear hb hr;go_wp2_with fail
 refine(zaE (z:=2) (by decide) (by decide)).mono ?_;rintro e w9 ⟨s9,x9,n9,c9,f9,y9,m9,d9,g9,rfl,hb,hr⟩;replace HB:=zJ HB hb;replace O0:=zk (O0.out.q_ hb);replace R1:=zk (R1.out.q_ hb);replace R2:=zk (R2.out.q_ hb);replace R3:=zk (R3.out.q_ hb);replace HC1:=zk (HC1.out.q_ hb);replace HC2:=zk (HC2.out.q_ hb);replace R6:=zk (R6.out.q_ hb);replace R7:=zk (R7.out.q_ hb);replace R8:=zk (R8.out.q_ hb)
 have R9:=zk (hr.mono (show 4<=8 by decide));clear hb hr;have hn:=zB w9 (cells #[.int .i64 0,.bool s8,slice x8 n8 c8,slice y8 m8 d8,.int .i64 1,.bool s9,slice x9 n9 c9,slice y9 m9 d9] 65);have HT:Hid (GT [(0,⟨s8,x8,n8,c8,f8,y8,m8,d8,g8⟩),(1,⟨s9,x9,n9,c9,f9,y9,m9,d9,g9⟩)] (slice (some ⟨w9.heap.size,0,none⟩) 2 2) (w9.alloc (cells #[.int .i64 0,.bool s8,slice x8 n8 c8,slice y8 m8 d8,.int .i64 1,.bool s9,slice x9 n9 c9,slice y9 m9 d9] 65))):=zpF w9 65 0 1 ⟨s8,x8,n8,c8,f8,y8,m8,d8,g8⟩ ⟨s9,x9,n9,c9,f9,y9,m9,d9,g9⟩;replace HB:=zJ HB hn;replace O0:=zk (O0.out.q_ hn);replace R1:=zk (R1.out.q_ hn);replace R2:=zk (R2.out.q_ hn);replace R3:=zk (R3.out.q_ hn);replace HC1:=zk (HC1.out.q_ hn);replace HC2:=zk (HC2.out.q_ hn);replace R6:=zk (R6.out.q_ hn);replace R7:=zk (R7.out.q_ hn);replace R8:=zk (R8.out.q_ hn);replace R9:=zk (R9.out.q_ hn)
 clear hn;have hn:=zu (Below.refl (w9.alloc (cells #[.int .i64 0,.bool s8,slice x8 n8 c8,slice y8 m8 d8,.int .i64 1,.bool s9,slice x9 n9 c9,slice y9 m9 d9] 65)).heap.size (w9.alloc (cells #[.int .i64 0,.bool s8,slice x8 n8 c8,slice y8 m8 d8,.int .i64 1,.bool s9,slice x9 n9 c9,slice y9 m9 d9] 65))) (cells #[.string ⟨#[114]⟩,.int .i64 (-1),.bool s6,slice x6 n6 c6,slice y6 m6 d6,.int .i64 0,.bool s7,slice x7 n7 c7,slice y7 m7 d7,slice (some ⟨w9.heap.size,0,none⟩) 2 2] 63);have HRs:Hid (Cs ((w9.alloc (cells #[.int .i64 0,.bool s8,slice x8 n8 c8,slice y8 m8 d8,.int .i64 1,.bool s9,slice x9 n9 c9,slice y9 m9 d9] 65)).alloc (cells #[.string ⟨#[114]⟩,.int .i64 (-1),.bool s6,slice x6 n6 c6,slice y6 m6 d6,.int .i64 0,.bool s7,slice x7 n7 c7,slice y7 m7 d7,slice (some ⟨w9.heap.size,0,none⟩) 2 2] 63)) (w9.alloc (cells #[.int .i64 0,.bool s8,slice x8 n8 c8,slice y8 m8 d8,.int .i64 1,.bool s9,slice x9 n9 c9,slice y9 m9 d9] 65)).heap.size 0 [.string ⟨#[114]⟩,.int .i64 (-1),.bool s6,slice x6 n6 c6,slice y6 m6 d6,.int .i64 0,.bool s7,slice x7 n7 c7,slice y7 m7 d7,slice (some ⟨w9.heap.size,0,none⟩) 2 2]):=zdt (w9.alloc (cells #[.int .i64 0,.bool s8,slice x8 n8 c8,slice y8 m8 d8,.int .i64 1,.bool s9,slice x9 n9 c9,slice y9 m9 d9] 65)) 63 [.string ⟨#[114]⟩,.int .i64 (-1),.bool s6,slice x6 n6 c6,slice y6 m6 d6,.int .i64 0,.bool s7,slice x7 n7 c7,slice y7 m7 d7,slice (some ⟨w9.heap.size,0,none⟩) 2 2] [.string ⟨#[114]⟩,.int .i64 (-1),.bool s6,slice x6 n6 c6,slice y6 m6 d6,.int .i64 0,.bool s7,slice x7 n7 c7,slice y7 m7 d7,slice (some ⟨w9.heap.size,0,none⟩) 2 2] 0 (λj v e=>by rw[Nat.zero_add];exact e);replace HB:=zJ HB hn;replace O0:=zk (O0.out.q_ hn);replace R1:=zk (R1.out.q_ hn);replace R2:=zk (R2.out.q_ hn);replace R3:=zk (R3.out.q_ hn);replace HC1:=zk (HC1.out.q_ hn);replace HC2:=zk (HC2.out.q_ hn);replace R6:=zk (R6.out.q_ hn);replace R7:=zk (R7.out.q_ hn);replace R8:=zk (R8.out.q_ hn);replace R9:=zk (R9.out.q_ hn);replace HT:=zk (HT.out.q_ hn)
 clear hn;rw[zw]at HRs
 have HMo:Hid (MoV 8 ((w9.alloc (cells #[.int .i64 0,.bool s8,slice x8 n8 c8,slice y8 m8 d8,.int .i64 1,.bool s9,slice x9 n9 c9,slice y9 m9 d9] 65)).alloc (cells #[.string ⟨#[114]⟩,.int .i64 (-1),.bool s6,slice x6 n6 c6,slice y6 m6 d6,.int .i64 0,.bool s7,slice x7 n7 c7,slice y7 m7 d7,slice (some ⟨w9.heap.size,0,none⟩) 2 2] 63)) ⟨⟨s1,x1,n1,c1,f1,y1,m1,d1,g1⟩,some ⟨bc,0,none⟩,2,2,(λj=>if j=0 then ⟨z2,⟨sb2,xb2,nb2,cb2,fb2,yb2,mb2,db2,gb2⟩,⟨ic2,⟨sc2,xc2,nc2,cc2,fc2,yc2,mc2,dc2,gc2⟩⟩,⟨id2,⟨sd2,xd2,nd2,cd2,fd2,yd2,md2,dd2,gd2⟩⟩⟩ else ⟨z3,⟨sb3,xb3,nb3,cb3,fb3,yb3,mb3,db3,gb3⟩,⟨ic3,⟨sc3,xc3,nc3,cc3,fc3,yc3,mc3,dc3,gc3⟩⟩,⟨id3,⟨sd3,xd3,nd3,cd3,fd3,yd3,md3,dd3,gd3⟩⟩⟩),some ⟨w9.heap.size+1,0,none⟩,1,1,λ_=>⟨⟨#[114]⟩,⟨-1,⟨s6,x6,n6,c6,f6,y6,m6,d6,g6⟩⟩,⟨0,⟨s7,x7,n7,c7,f7,y7,m7,d7,g7⟩⟩,some ⟨w9.heap.size,0,none⟩,2,2,(λp=>if p=0 then 0 else 1),(λp=>if p=0 then ⟨s8,x8,n8,c8,f8,y8,m8,d8,g8⟩ else ⟨s9,x9,n9,c9,f9,y9,m9,d9,g9⟩)⟩⟩ 3 k2C k2R):=by
  refine⟨R1.out,rfl,rfl,λj v e=>?_,λj v e=>?_⟩
  ·match j,e with
   | 0,e=>cases e;exact⟨⟨_,0,rfl,HC1.out⟩,R2.out⟩
   | 1,e=>cases e;exact⟨⟨_,0,rfl,HC2.out⟩,R3.out⟩
  ·match j,e with
   | 0,e =>
    cases e
    obtain⟨bt,et,ht⟩:=HT.out;have et2:w9.heap.size=bt:=by injection et with et;injection et with et;injection et
    subst et2;refine⟨⟨_,0,rfl,HRs.out⟩,rfl,rfl,R6.out,rfl,R7.out,rfl,λp z q e=>?_⟩
    match p,e with
    | 0,e=>cases e;exact⟨rfl,R8.out,_,0,rfl,ht 0 _ _ rfl⟩
    | 1,e=>cases e;exact⟨rfl,R9.out,_,0,rfl,ht 1 _ _ rfl⟩
 obtain⟨hk1,hk2⟩:=zjh (v0:=.bool s1) (v1:=slice x1 n1 c1) (v2:=slice y1 m1 d1) (v3:=slice (some ⟨bc,0,none⟩) 2 2) (v4:=slice (some ⟨w9.heap.size+1,0,none⟩) 1 1) O0.out (zjb _ _ _ _ _ _ _ _ _ _ _ _ _) rfl;have HM2:=zk (HMo.out.kp hk1 hk2 (zta O0.out));have HB2:=zk (zeg (u0:=.bool s1) (u1:=slice x1 n1 c1) (u2:=slice y1 m1 d1) (u3:=slice (some ⟨bc,0,none⟩) 2 2) (u4:=slice (some ⟨w9.heap.size+1,0,none⟩) 1 1) HB.out (le_refl w.heap.size));obtain⟨l0,l1,l2,l3,l4⟩:=bk5 O0.out;have ff:=O0.out.frozen;clear hk1 hk2 HMo HB O0 R1 R2 R3 R6 R7 R8 R9 HC1 HC2 HT HRs;go_wp2;exact bodyPost_ret (v:=agg #[.bool s1,slice x1 n1 c1,slice y1 m1 d1,slice (some ⟨bc,0,none⟩) 2 2,slice (some ⟨w9.heap.size+1,0,none⟩) 1 1]) (by simp[results,results17,go_sem,l0,l1,l2,l3,l4]) rfl ⟨⟨⟨s1,x1,n1,c1,f1,y1,m1,d1,g1⟩,some ⟨bc,0,none⟩,2,2,(λj=>if j=0 then ⟨z2,⟨sb2,xb2,nb2,cb2,fb2,yb2,mb2,db2,gb2⟩,⟨ic2,⟨sc2,xc2,nc2,cc2,fc2,yc2,mc2,dc2,gc2⟩⟩,⟨id2,⟨sd2,xd2,nd2,cd2,fd2,yd2,md2,dd2,gd2⟩⟩⟩ else ⟨z3,⟨sb3,xb3,nb3,cb3,fb3,yb3,mb3,db3,gb3⟩,⟨ic3,⟨sc3,xc3,nc3,cc3,fc3,yc3,mc3,dc3,gc3⟩⟩,⟨id3,⟨sd3,xd3,nd3,cd3,fd3,yd3,md3,dd3,gd3⟩⟩⟩),some ⟨w9.heap.size+1,0,none⟩,1,1,λ_=>⟨⟨#[114]⟩,⟨-1,⟨s6,x6,n6,c6,f6,y6,m6,d6,g6⟩⟩,⟨0,⟨s7,x7,n7,c7,f7,y7,m7,d7,g7⟩⟩,some ⟨w9.heap.size,0,none⟩,2,2,(λp=>if p=0 then 0 else 1),(λp=>if p=0 then ⟨s8,x8,n8,c8,f8,y8,m8,d8,g8⟩ else ⟨s9,x9,n9,c9,f9,y9,m9,d9,g9⟩)⟩⟩,rfl,HB2.out,HM2.out⟩
def rsR (rs:List RV) (ys xs:List Rat):List Bool:=List.zipWith (λv y=>rsB y v.li v.lq v.hi v.hq (zbM xs v)) rs ys
def rsC (cs:List CV) (zs xs:List Rat):List Bool:=List.zipWith (λv (t:Rat × Rat)=>rsB t.1 v.li v.lq v.hi v.hq t.2) cs (zs.zip xs)
def arB (cs:List CV) (rs:List RV) (xs ys zs:List Rat):Bool:=(rsR rs ys xs).all id && (rsC cs zs xs).all id
theorem zqU {rs ys xs} {i:Nat} {v y} (hv:rs[i]?=some v) (hy:ys[i]?=some y):(rsR rs ys xs)[i]?=some (rsB y v.li v.lq v.hi v.hq (zbM xs v)):=by
 unfold rsR;rw[List.getElem?_zipWith,hv,hy]
theorem zqV {cs zs xs} {i:Nat} {v z x} (hv:cs[i]?=some v) (hz:zs[i]?=some z) (hx:xs[i]?=some x):(rsC cs zs xs)[i]?=some (rsB z v.li v.lq v.hi v.hq x):=by
 unfold rsC;rw[List.getElem?_zipWith,hv,(List.getElem?_zip_eq_some (z:=(z,x))).2 ⟨hz,hx⟩]
theorem zob {l:List Bool} {i} (h:l[i]?=some true) (ha:(l.take i).all id=true):(l.take (i+1)).all id=true:=by
 rw[List.take_add_one,h,List.all_append,ha];rfl
theorem zoc {l:List Bool} {i:Nat} (h:l[i]?=some false):l.all id=false:=List.all_eq_false.2 ⟨false,List.mem_of_getElem? h,by simp⟩
theorem zjx {w L M off cs rs a0 a1 a2 k0 c0 k1 c1 k2 c2 X xs ys zs} (hW:MoW w M) (hx:Rl w a0 k0 X) (hk:k0<=1048576) (he:zcz M k0 X=0) (hv:MoV L w M off cs rs) (hm:zbk cs rs=true) (h0:Rf L w a0 xs) (l0:xs.length=k0) (e0:k0=cs.length) (h1:Rf L w a1 ys) (l1:ys.length=k1) (e1:k1=rs.length) (h2:Rf (KV L) w a2 zs) (l2:zs.length=k2) (e2:k2=cs.length) (hL:L<=30) :
  Calls prog 39 #[M.val,agg #[slice a0 k0 c0,slice a1 k1 c1,slice a2 k2 c2]] w λe w'=>e=returned (.bool (arB cs rs xs ys zs))/\Bl w w':=by
 have CA:Hid (∀W,Bl w W->Calls prog 71 #[M.val,slice a0 k0 c0] W λe w'=>zou L W w' e 0 rs xs):=λW hW2=>zph (hW.q_ hW2) (hx.q_ hW2) hk he (λ_=>⟨hv.q_ hW2,hm,h0.q_ hW2,l0,e0⟩) hL
 have mp:=zbj hm;have l64:=mp.cl;have r64:=mp.rl
 have HRB:=zk mp.rb;have HCB:=zk mp.cb
 obtain⟨⟨s,x,n,c,f,y,m,d,g⟩,ca,ck,cc,C,ra,rk,rc,R⟩:=M;have HC:Hid (∀j v,cs[j]?=some v->(∃b o,ca=some ⟨b,o,none⟩/\Cs w b (o+j*12) (C j).vs)/\ColV L w (C j) v):=hv.cls;have HR:Hid (∀j v,rs[j]?=some v->(∃b o,ra=some ⟨b,o,none⟩/\Cs w b (o+j*10) (R j).vs)/\RowV L w (R j) v):=hv.rls;have hck:ck=cs.length:=hv.ck;have hrk:rk=rs.length:=hv.rk;subst hck;subst hrk
 subst e0;subst e1;subst e2
 have HX:=zk h0;have HY:=zk h1;have HZ:=zk h2;have HXL:=zk l0;have HYL:=zk l1;have HZL:=zk l2
 clear hW hx hk he hv hm h0 l0 h1 l1 h2 l2 mp;replace CA:Hid (∀W,Bl w W->Calls prog 71 #[agg #[.bool s,slice x n c,slice y m d,slice ca cs.length cc,slice ra rs.length rc],slice a0 cs.length c0] W λe w'=>zou L W w' e 0 rs xs):=CA;show Calls prog 39 #[agg #[.bool s,slice x n c,slice y m d,slice ca cs.length cc,slice ra rs.length rc],agg #[slice a0 cs.length c0,slice a1 rs.length c1,slice a2 cs.length c2]] w _;have hb:=zu (zB w (cells #[.bool s,slice x n c,slice y m d,slice ca cs.length cc,slice ra rs.length rc] 28)) (cells #[slice a0 cs.length c0,slice a1 rs.length c1,slice a2 cs.length c2] 46);have BM:=zk ((zF w [.bool s,slice x n c,slice y m d,slice ca cs.length cc,slice ra rs.length rc] 28).q_ (zB _ (cells #[slice a0 cs.length c0,slice a1 rs.length c1,slice a2 cs.length c2] 46)));have BP:=zql w (cells #[.bool s,slice x n c,slice y m d,slice ca cs.length cc,slice ra rs.length rc] 28) [slice a0 cs.length c0,slice a1 rs.length c1,slice a2 cs.length c2] 46;have HB:=zk hb;replace BP:=zk BP
 clear hb;go_enter func39,ntmps39;go_upto_region 1 with fail
 generalize((w.alloc (cells #[.bool s,slice x n c,slice y m d,slice ca cs.length cc,slice ra rs.length rc] 28)).alloc (cells #[slice a0 cs.length c0,slice a1 rs.length c1,slice a2 cs.length c2] 46))=w1 at *;obtain⟨r0,r1,r2,r3,r4⟩:=bk5 BM.out;obtain⟨t0,t1,t2⟩:=bk3 BP.out;go_wp2_with fail
 clear r0 r1 r2 r3 r4 t0 t1 t2;refine(CA.out _ HB.out).mono ?_;rintro e w2 ⟨hb2,⟨h9,_⟩|⟨_,aa,ac,rfl,_,hq⟩⟩
 ·exact absurd rfl h9
 ·have HA:=zk hq;replace HB:=zJ HB hb2;replace BM:=zk (BM.out.q_ hb2);replace BP:=zk (BP.out.q_ hb2)
  clear hb2 hq CA;have r4:=BM.out.cell (j:=4) rfl;go_wp2_with fail
  clear r4;go_loopw[21] (λt wr=>∃(i:Nat),i<=rs.length/\t=.int .i64 i/\Hid (Bl w2 wr)/\Hid (((rsR rs ys xs).take i).all id=true)) (λt _=>rs.length-(intOf t).toNat)
  case atStart=>exact⟨0,by omega,rfl,Below.refl _ _,rfl⟩
  case round =>
   obtain⟨i,hi,rfl,HB2,HO⟩:=hrel;by_cases hlt:i<rs.length
   ·obtain⟨v,hv⟩:∃t,rs[i]?=some t:=⟨_,getElem?_eq_getElem (by omega)⟩;obtain⟨yq,hyq⟩:∃t,ys[i]?=some t:=⟨_,getElem?_eq_getElem (by have:=HYL.out;omega)⟩;have hbw:=bUp HB.out HB2.out;obtain⟨⟨b,o,hra,hc⟩,hRV⟩:=HR.out i v hv;subst hra;obtain⟨⟨z,⟨i1,⟨s1,x1,n1,e1,f1,y1,m1,d1,g1⟩⟩,⟨i2,⟨s2,x2,n2,e2,f2,y2,m2,d2,g2⟩⟩,ta,tk,tc,tcol,tt⟩,hCi⟩:∃t,R i=t:=⟨_,rfl⟩;rw[hCi]at hc hRV
    have q1e:i1=v.li:=hRV.li;have q2e:i2=v.hi:=hRV.hi
    have E1:Rn L w s1 x1 n1 e1 f1 y1 m1 d1 g1 v.lq:=hRV.lq;have E2:Rn L w s2 x2 n2 e2 f2 y2 m2 d2 g2 v.hq:=hRV.hq
    replace hc:=Cs.q_ hc hbw;obtain⟨q0,q1,q2,q3,q4,q5,q6,q7,q8,q9⟩:=hc.lr;obtain⟨b',o',⟨ss,sx,sn,sc,sf,sy,sm,sd,sg⟩,hax,⟨p0,p1,p2⟩,hr'⟩:=(HY.out.q_ hbw) i yq hyq;subst hax;replace p0:wr.cell? ⟨b',o'+i*3,none⟩=some (.bool ss):=p0;replace p1:wr.cell? ⟨b',o'+i*3+1,none⟩=some (slice sx sn sc):=p1;replace p2:wr.cell? ⟨b',o'+i*3+2,none⟩=some (slice sy sm sd):=p2;replace hr':Rn L wr ss sx sn sc sf sy sm sd sg yq:=hr';obtain⟨b3,o3,⟨us,ux,un,uc,uf,uy,um,ud,ug⟩,hax,⟨w0,w1',w2'⟩,hr3⟩:=(HA.out.q_ HB2.out) i (zbM xs v) (by rw[List.getElem?_map,hv];rfl);subst hax;have j0:wr.cell? ⟨b3,o3+i*3,none⟩=some (.bool us):=w0;have j1:wr.cell? ⟨b3,o3+i*3+1,none⟩=some (slice ux un uc):=w1';have j2:wr.cell? ⟨b3,o3+i*3+2,none⟩=some (slice uy um ud):=w2';replace hr3:Rn (KA L) wr us ux un uc uf uy um ud ug (zbM xs v):=hr3;clear w0 w1' w2';have hbt:=zB wr (cells #[.string z,.int .i64 i1,.bool s1,slice x1 n1 e1,slice y1 m1 d1,.int .i64 i2,.bool s2,slice x2 n2 e2,slice y2 m2 d2,slice ta tk tc] 63);obtain⟨-,ce1,ce2,ce3,ce4,ce5,ce6,ce7,ce8⟩:=bk9 (zF wr [.string z,.int .i64 i1,.bool s1,slice x1 n1 e1,slice y1 m1 d1,.int .i64 i2,.bool s2,slice x2 n2 e2,slice y2 m2 d2,slice ta tk tc] 63);have i1':((i:Nat):Int)<((rs.length:Nat):Int):=by omega
    replace p0:=kCb hbt p0;replace j0:=kCb hbt j0
    replace p1:=kCb hbt p1;replace j1:=kCb hbt j1
    replace p2:=kCb hbt p2;replace j2:=kCb hbt j2
    have v1:=kCb hbt ((BP.out.q_ HB2.out).cell (j:=1) rfl);have RY:=zk ((hr'.q_ hbt).mono (show _<=KV L by unfold KV;omega));have RA:=zk ((hr3.q_ hbt).mono (show _<=KV L by unfold KV;(try unfold KA);omega));have RE1:=zk (((E1.q_ hbw).q_ hbt).mono (show L<=KV L by unfold KV;omega));have RE2:=zk (((E2.q_ hbw).q_ hbt).mono (show L<=KV L by unfold KV;omega))
    have HAT:=zk (zqU (xs:=xs) hv hyq);rw[<-q1e,<-q2e]at HAT
    have HB3:=zJ HB2 hbt;clear hr' hr3 E1 E2 hCi hc hRV q1e q2e hbw hv hyq;obtain⟨rb,hrb⟩:∃t,rsB yq i1 v.lq i2 v.hq (zbM xs v)=t:=⟨_,rfl⟩;rw[hrb]at HAT
    have HRBB:=zk hrb;clear hrb;go_upto_region 5 with fail
    clear q0 q1 q2 q3 q4 q5 q6 q7 q8 q9 hbt;generalize wr.heap.size=bx at *;generalize(wr.alloc (cells #[.string z,.int .i64 i1,.bool s1,slice x1 n1 e1,slice y1 m1 d1,.int .i64 i2,.bool s2,slice x2 n2 e2,slice y2 m2 d2,slice ta tk tc] 63))=w5 at *;refine zag (S:=(λw'=>w'.cell? ⟨bx,1,none⟩=some (.int .i64 i1)/\w'.cell? ⟨bx,2,none⟩=some (.bool s1)/\w'.cell? ⟨bx,3,none⟩=some (slice x1 n1 e1)/\w'.cell? ⟨bx,4,none⟩=some (slice y1 m1 d1)/\w'.cell? ⟨bx,5,none⟩=some (.int .i64 i2)/\w'.cell? ⟨bx,6,none⟩=some (.bool s2)/\w'.cell? ⟨bx,7,none⟩=some (slice x2 n2 e2)/\w'.cell? ⟨bx,8,none⟩=some (slice y2 m2 d2)/\w'.cell? ⟨b',o'+i*3,none⟩=some (.bool ss)/\w'.cell? ⟨b',o'+i*3+1,none⟩=some (slice sx sn sc)/\w'.cell? ⟨b',o'+i*3+2,none⟩=some (slice sy sm sd)/\w'.cell? ⟨b3,o3+i*3,none⟩=some (.bool us)/\w'.cell? ⟨b3,o3+i*3+1,none⟩=some (slice ux un uc)/\w'.cell? ⟨b3,o3+i*3+2,none⟩=some (slice uy um ud)/\w'.cell? ⟨w.heap.size+1,1,none⟩=some (slice (some ⟨b',o',none⟩) rs.length c1))) 13 (by kernel_rfl) ⟨kCd ce1,kCd ce2,kCd ce3,kCd ce4,kCd ce5,kCd ce6,kCd ce7,kCd ce8,kCd p0,kCd p1,kCd p2,kCd j0,kCd j1,kCd j2,kCd v1⟩ (λhHeld=>?_);have hbd:=Below.drew (Below.refl w5.heap.size w5);replace HB3:=zJ HB3 hbd;replace RY:=zk (RY.out.q_ hbd);replace RA:=zk (RA.out.q_ hbd);replace RE1:=zk (RE1.out.q_ hbd);replace RE2:=zk (RE2.out.q_ hbd)
    clear hbd ce1 ce2 ce3 ce4 ce5 ce6 ce7 ce8 p0 p1 p2 j0 j1 j2 v1;generalize w5.drew=wd at *;refine skP 0 ?_;refine tkP 1 ?_;refine skP 2 ?_;simp only[zA,Act.put];refine skP 3 ?_;refine tkP 4 ?_;refine skP 5 ?_;simp only[zA,Act.put];refine tkP 6 ?_;refine skP 7 ?_;refine tkP 8 ?_;simp only[zA,Act.put];refine skP 9 ?_;refine skP 10 ?_;refine skP 11 ?_;simp only[zA,Act.put];refine tkP 12 ?_;simp only[zA,Act.put];refine rdP 13 (λK hK=>?_);go_simp
    go_at_call 72
    refine(zio (L:=KV L) RY.out RE1.out RE2.out RA.out (by unfold KV;omega)).mono ?_;rintro e w6 ⟨rfl,hb6⟩;rw[HRBB.out]
    (try go_wp2_with fail)
    have HB6:=zJ HB3 hb6;clear hb6 RY RA RE1 RE2 HRBB hHeld HB3;refine hK.out _ _ (λh=>by cases h) (λ_=>?_);clear hK K;try simp only[zA,Act.put]
    refine zaB (i:=14) (v:=?_) rfl (by kernel_rfl) (by kernel_rfl) (by kernel_rfl) (by kernel_rfl) (λ_ _ _ h=>h) (Or.inl ⟨by rfl,?_⟩) (λh=>by cases h) ?_;rotate_left
    (focus (intro w0 hSw;go_simp <;> with_reducible rfl))
    simp only[List.getElem_toArray,List.getElem_cons_succ,List.getElem_cons_zero,Act.put,List.setIfInBounds_toArray,List.set_cons_zero,List.set_cons_succ];refine dnP ?_;cases rb
    ·go_wp2;go_ret;exact⟨by rw[show arB cs rs xs ys zs=false by unfold arB;rw[zoc HAT.out];rfl];rfl,bUp HB.out HB6.out⟩
    ·have HN:=zk (zob HAT.out HO.out);go_wp2;go_roundw
     case rel=>exact⟨i+1,by omega,by go_num,HB6.out,HN.out⟩
     case measure=>simp[intOf];omega
   ·have e1:i=rs.length:=by omega
    have i4':¬(((i:Nat):Int)<((rs.length:Nat):Int)):=by omega
    have HO1:=HO.out;rw[List.take_of_length_le (by unfold rsR;rw[List.length_zipWith];omega)]at HO1
    replace HO1:=zk HO1;replace HB:=zJ HB HB2.out;replace BM:=zk (BM.out.q_ HB2.out);replace BP:=zk (BP.out.q_ HB2.out);replace HA:=zk (HA.out.q_ HB2.out)
    have r3:=BM.out.cell (j:=3) rfl;clear HO HB2 e1;go_wp2_with fail
    clear r3;generalize wr=w3 at *;go_loopw[45] (λt wz=>∃(i:Nat),i<=cs.length/\t=.int .i64 i/\Hid (Bl w3 wz)/\Hid (((rsC cs zs xs).take i).all id=true)) (λt _=>cs.length-(intOf t).toNat)
    case atStart=>exact⟨0,by omega,rfl,Below.refl _ _,rfl⟩
    case round =>
     obtain⟨i,hi,rfl,HB2,HO⟩:=hrel;by_cases hlt:i<cs.length
     ·obtain⟨v,hv⟩:∃t,cs[i]?=some t:=⟨_,getElem?_eq_getElem (by omega)⟩;obtain⟨yq,hyq⟩:∃t,zs[i]?=some t:=⟨_,getElem?_eq_getElem (by have:=HZL.out;omega)⟩;obtain⟨aq,haq⟩:∃t,xs[i]?=some t:=⟨_,getElem?_eq_getElem (by have:=HXL.out;omega)⟩;have hbw:=bUp HB.out HB2.out;obtain⟨⟨b,o,hra,hc⟩,hRV⟩:=HC.out i v hv;subst hra;obtain⟨⟨z,⟨s0,x0,n0,e0,f0,y0,m0,d0,g0⟩,⟨i1,⟨s1,x1,n1,e1,f1,y1,m1,d1,g1⟩⟩,⟨i2,⟨s2,x2,n2,e2,f2,y2,m2,d2,g2⟩⟩⟩,hCi⟩:∃t,C i=t:=⟨_,rfl⟩;rw[hCi]at hc hRV
      have q1e:i1=v.li:=hRV.li;have q2e:i2=v.hi:=hRV.hi
      have E1:Rn L w s1 x1 n1 e1 f1 y1 m1 d1 g1 v.lq:=hRV.lq;have E2:Rn L w s2 x2 n2 e2 f2 y2 m2 d2 g2 v.hq:=hRV.hq
      replace hc:=Cs.q_ hc hbw;obtain⟨q0,q1,q2,q3,q4,q5,q6,q7,q8,q9,q10,q11⟩:=hc.lc;obtain⟨b',o',⟨ss,sx,sn,sc,sf,sy,sm,sd,sg⟩,hax,⟨p0,p1,p2⟩,hr'⟩:=(HZ.out.q_ hbw) i yq hyq;subst hax;replace p0:wr.cell? ⟨b',o'+i*3,none⟩=some (.bool ss):=p0;replace p1:wr.cell? ⟨b',o'+i*3+1,none⟩=some (slice sx sn sc):=p1;replace p2:wr.cell? ⟨b',o'+i*3+2,none⟩=some (slice sy sm sd):=p2;replace hr':Rn (KV L) wr ss sx sn sc sf sy sm sd sg yq:=hr';obtain⟨b3,o3,⟨us,ux,un,uc,uf,uy,um,ud,ug⟩,hax,⟨w0,w1',w2'⟩,hr3⟩:=(HX.out.q_ hbw) i aq haq;subst hax;have j0:wr.cell? ⟨b3,o3+i*3,none⟩=some (.bool us):=w0;have j1:wr.cell? ⟨b3,o3+i*3+1,none⟩=some (slice ux un uc):=w1';have j2:wr.cell? ⟨b3,o3+i*3+2,none⟩=some (slice uy um ud):=w2';replace hr3:Rn L wr us ux un uc uf uy um ud ug aq:=hr3;clear w0 w1' w2';have hbt:=zB wr (cells #[.string z,.bool s0,slice x0 n0 e0,slice y0 m0 d0,.int .i64 i1,.bool s1,slice x1 n1 e1,slice y1 m1 d1,.int .i64 i2,.bool s2,slice x2 n2 e2,slice y2 m2 d2] 60);obtain⟨-,-,-,-,ce4,ce5,ce6,ce7,ce8,ce9,ce10,ce11⟩:=zee (zF wr [.string z,.bool s0,slice x0 n0 e0,slice y0 m0 d0,.int .i64 i1,.bool s1,slice x1 n1 e1,slice y1 m1 d1,.int .i64 i2,.bool s2,slice x2 n2 e2,slice y2 m2 d2] 60);have i1':((i:Nat):Int)<((cs.length:Nat):Int):=by omega
      replace p0:=kCb hbt p0;replace j0:=kCb hbt j0
      replace p1:=kCb hbt p1;replace j1:=kCb hbt j1
      replace p2:=kCb hbt p2;replace j2:=kCb hbt j2
      have v2:=kCb hbt ((BP.out.q_ HB2.out).cell (j:=2) rfl);have v0:=kCb hbt ((BP.out.q_ HB2.out).cell (j:=0) rfl);have RY:=zk ((hr'.q_ hbt).mono (show _<=KV L by unfold KV;omega));have RA:=zk ((hr3.q_ hbt).mono (show _<=KV L by unfold KV;(try unfold KA);omega));have RE1:=zk (((E1.q_ hbw).q_ hbt).mono (show L<=KV L by unfold KV;omega));have RE2:=zk (((E2.q_ hbw).q_ hbt).mono (show L<=KV L by unfold KV;omega))
      have HAT:=zk (zqV hv hyq haq);rw[<-q1e,<-q2e]at HAT
      have HB3:=zJ HB2 hbt;clear hr' hr3 E1 E2 hCi hc hRV q1e q2e hbw hv hyq haq;obtain⟨rb,hrb⟩:∃t,rsB yq i1 v.lq i2 v.hq aq=t:=⟨_,rfl⟩;rw[hrb]at HAT
      have HRBB:=zk hrb;clear hrb;go_upto_region 11 with fail
      clear q0 q1 q2 q3 q4 q5 q6 q7 q8 q9 q10 q11 hbt;generalize wr.heap.size=bx at *;generalize(wr.alloc (cells #[.string z,.bool s0,slice x0 n0 e0,slice y0 m0 d0,.int .i64 i1,.bool s1,slice x1 n1 e1,slice y1 m1 d1,.int .i64 i2,.bool s2,slice x2 n2 e2,slice y2 m2 d2] 60))=w5 at *;refine zag (S:=(λw'=>w'.cell? ⟨bx,4,none⟩=some (.int .i64 i1)/\w'.cell? ⟨bx,5,none⟩=some (.bool s1)/\w'.cell? ⟨bx,6,none⟩=some (slice x1 n1 e1)/\w'.cell? ⟨bx,7,none⟩=some (slice y1 m1 d1)/\w'.cell? ⟨bx,8,none⟩=some (.int .i64 i2)/\w'.cell? ⟨bx,9,none⟩=some (.bool s2)/\w'.cell? ⟨bx,10,none⟩=some (slice x2 n2 e2)/\w'.cell? ⟨bx,11,none⟩=some (slice y2 m2 d2)/\w'.cell? ⟨b',o'+i*3,none⟩=some (.bool ss)/\w'.cell? ⟨b',o'+i*3+1,none⟩=some (slice sx sn sc)/\w'.cell? ⟨b',o'+i*3+2,none⟩=some (slice sy sm sd)/\w'.cell? ⟨b3,o3+i*3,none⟩=some (.bool us)/\w'.cell? ⟨b3,o3+i*3+1,none⟩=some (slice ux un uc)/\w'.cell? ⟨b3,o3+i*3+2,none⟩=some (slice uy um ud)/\w'.cell? ⟨w.heap.size+1,2,none⟩=some (slice (some ⟨b',o',none⟩) cs.length c2)/\w'.cell? ⟨w.heap.size+1,0,none⟩=some (slice (some ⟨b3,o3,none⟩) cs.length c0))) 14 (by kernel_rfl) ⟨kCd ce4,kCd ce5,kCd ce6,kCd ce7,kCd ce8,kCd ce9,kCd ce10,kCd ce11,kCd p0,kCd p1,kCd p2,kCd j0,kCd j1,kCd j2,kCd v2,kCd v0⟩ (λhHeld=>?_);have hbd:=Below.drew (Below.refl w5.heap.size w5);replace HB3:=zJ HB3 hbd;replace RY:=zk (RY.out.q_ hbd);replace RA:=zk (RA.out.q_ hbd);replace RE1:=zk (RE1.out.q_ hbd);replace RE2:=zk (RE2.out.q_ hbd)
      clear hbd ce4 ce5 ce6 ce7 ce8 ce9 ce10 ce11 p0 p1 p2 j0 j1 j2 v2 v0;generalize w5.drew=wd at *;refine skP 0 ?_;refine tkP 1 ?_;refine skP 2 ?_;simp only[zA,Act.put];refine skP 3 ?_;refine tkP 4 ?_;refine skP 5 ?_;simp only[zA,Act.put];refine tkP 6 ?_;refine skP 7 ?_;refine tkP 8 ?_;simp only[zA,Act.put];refine skP 9 ?_;refine tkP 10 ?_;refine skP 11 ?_;simp only[zA,Act.put];refine skP 12 ?_;refine tkP 13 ?_;simp only[zA,Act.put];refine rdP 14 (λK hK=>?_);go_simp
      go_at_call 72
      refine(zio (L:=KV L) RY.out RE1.out RE2.out RA.out (by unfold KV;omega)).mono ?_;rintro e w6 ⟨rfl,hb6⟩;rw[HRBB.out]
      (try go_wp2_with fail)
      have HB6:=zJ HB3 hb6;clear hb6 RY RA RE1 RE2 HRBB hHeld HB3;refine hK.out _ _ (λh=>by cases h) (λ_=>?_);clear hK K;try simp only[zA,Act.put]
      refine zaB (i:=15) (v:=?_) rfl (by kernel_rfl) (by kernel_rfl) (by kernel_rfl) (by kernel_rfl) (λ_ _ _ h=>h) (Or.inl ⟨by rfl,?_⟩) (λh=>by cases h) ?_;rotate_left
      (focus (intro w0 hSw;go_simp <;> with_reducible rfl))
      simp only[List.getElem_toArray,List.getElem_cons_succ,List.getElem_cons_zero,Act.put,List.setIfInBounds_toArray,List.set_cons_zero,List.set_cons_succ];refine dnP ?_;cases rb
      ·go_wp2;go_ret;exact⟨by rw[show arB cs rs xs ys zs=false by unfold arB;rw[zoc HAT.out];exact Bool.and_false _];rfl,bUp HB.out HB6.out⟩
      ·have HN:=zk (zob HAT.out HO.out);go_wp2;go_roundw
       case rel=>exact⟨i+1,by omega,by go_num,HB6.out,HN.out⟩
       case measure=>simp[intOf];omega
     ·have e1:i=cs.length:=by omega
      have i4':¬(((i:Nat):Int)<((cs.length:Nat):Int)):=by omega
      have HO2:=HO.out;rw[List.take_of_length_le (by unfold rsC;rw[List.length_zipWith];omega)]at HO2
      have HF:Hid (arB cs rs xs ys zs=true):=by show _=_;unfold arB;rw[HO1.out,HO2];rfl
      clear HO HO2 e1;go_wp2;go_ret;exact⟨by rw[HF.out];rfl,bUp HB.out HB2.out⟩
theorem zrZ {a b} (h:sqB a b=true):nfB b=nfB a/\nq b=nq a:=by
 obtain⟨s,x,n,c,f,y,m,d,g⟩:=a;obtain⟨s',x',n',c',f',y',m',d',g'⟩:=b;obtain⟨h1,⟨h2,h3⟩,⟨h4,h5⟩⟩:=sq_iff.1 h;simp only at h1 h2 h3 h4 h5;subst h1;subst h2;subst h4
 have e1:vf f' n=vf f n:=(zN h3).symm;have e2:vf g' m=vf g m:=(zN h5).symm;have e3:∀{u v:Nat->Int} {k:Nat},(∀j,j<k->u j=v j)->fmB v k=fmB u k:=λ{u v k} hu=>by
  cases k with
  | zero=>rfl
  | succ k=>unfold fmB;rw[hu (k+1-1) (by omega)]
 constructor
 ·show rfB s f' n g' m=rfB s f n g m;unfold rfB wfB;rw[e1,e2,e3 h3,e3 h5]
 ·show mkRat (wv s f' n) (wv false g' m).toNat=mkRat (wv s f n) (wv false g m).toNat;unfold wv;rw[e1,e2]
theorem zkB {α e} {X Y:Nat->α}:∀{r i:Nat},eqf e X Y r i=true ↔ ∀j,i<=j->j<i+r->e (X j) (Y j)=true
 | 0,_=>⟨λ_ j a b=>by omega,λ_=>rfl⟩
 | r+1,i=>by
  simp only[eqf,Bool.and_eq_true,zkB (r:=r)];constructor
  ·rintro⟨h1,h2⟩ j a b;by_cases e:j=i
   ·subst e;exact h1
   ·exact h2 j (by omega) (by omega)
  ·exact λh=>⟨h i (by omega) (by omega),λj a b=>h j (by omega) (by omega)⟩
theorem Rl.cs {w ao k X} (h:Rl w ao k X):∀j,j<k->∃b o,ao=some ⟨b,o,none⟩/\Cs w b (o+j*3) (rcell (X j))/\NmS w (X j):=λj hj=>by
 obtain⟨b,o,h1,h2,h3⟩:=h j hj;refine⟨b,o,h1,λi v e=>?_,h3⟩
 match i,e with
 | 0,e=>cases e;exact h2.x0
 | 1,e=>cases e;exact h2.x1
 | 2,e=>cases e;exact h2.x2
 | i+3,e=>cases e
theorem zqe {L w ao p} (h:Rf L w ao p):∃E:Nat->Nm,∀j q,p[j]?=some q->(∃b o,ao=some ⟨b,o,none⟩/\C3 w b (o+j*3) (.bool (E j).s) (.slice (E j).x (E j).n (E j).c) (.slice (E j).y (E j).m (E j).d))/\NmV L w (E j) q:=by
 refine Classical.axiomOfChoice (r:=λj (t:Nm)=>∀q,p[j]?=some q->(∃b o,ao=some ⟨b,o,none⟩/\C3 w b (o+j*3) (.bool t.s) (slice t.x t.n t.c) (slice t.y t.m t.d))/\NmV L w t q) (λj=>?_);by_cases hj:j<p.length
 ·obtain⟨b,o,t,h1,h2,h3⟩:=h j (p[j]) (getElem?_eq_getElem hj);refine⟨t,λq e=>?_⟩;rw[getElem?_eq_getElem hj]at e
  rw[Option.some.inj e]at h3
  exact⟨⟨b,o,h1,h2⟩,h3⟩
 ·exact⟨⟨false,none,0,0,λ_=>0,none,0,0,λ_=>0⟩,λq e=>by rw[List.getElem?_eq_none (by omega)]at e;cases e⟩
theorem zrC {L w w1 ao k k2 E Z p} (hp:p.length=k) (hE:∀j q,p[j]?=some q->NmV L w1 (E j) q) (hZ:Rl w ao k2 Z):eqfB sqB k k2 E Z=(afB k2 Z && decide (zbg k2 Z=p))/\(eqfB sqB k k2 E Z=true->Rf L w ao p/\p.length=k2):=by
 have hg:∀j,j<p.length->p[j]?=some (p.getD j 0):=λj hj=>by rw[List.getD_eq_getElem?_getD,getElem?_eq_getElem hj];rfl
 have key:eqfB sqB k k2 E Z=true ↔ k=k2/\∀j,j<k->sqB (E j) (Z j)=true:=by
  unfold eqfB;rw[Bool.and_eq_true,decide_eq_true_eq,zkB];exact⟨λ⟨a,b⟩=>⟨a,λj hj=>b j (by omega) (by omega)⟩,λ⟨a,b⟩=>⟨a,λj _ hj=>b j (by omega)⟩⟩
 have tru:eqfB sqB k k2 E Z=true->(k=k2/\∀j q,p[j]?=some q->NmV L w (Z j) q):=λh=>by
  obtain⟨a,b⟩:=key.1 h;refine⟨a,λj q e=>?_⟩;have hj:j<p.length:=(List.getElem?_eq_some_iff.1 e).1;have h1:=b j (by omega);have h2:=hE j q e;obtain⟨h3,h4⟩:=zrZ h1;obtain⟨_,h5,h6⟩:=sq_iff.1 h1;obtain⟨b',o',_,_,h7⟩:=hZ j (by omega);have h8:=NmS.val (K:=L) h7 (by rw[h3];exact Rn.rf h2) ⟨by rw[<-h5.1];exact h2.ln,by rw[<-h6.1];exact h2.ld⟩;rw[h4,Rn.nq h2]at h8
  exact h8
 refine⟨?_,λh=>?_⟩
 ·rw[Bool.eq_iff_iff,Bool.and_eq_true,decide_eq_true_eq];constructor
  ·intro h;obtain⟨a,b⟩:=tru h;refine⟨zod (λj _ hj=>Rn.rf (b j _ (hg j (by omega)))),?_⟩;refine List.ext_getElem? (λj=>?_);unfold zbg;by_cases hj:j<k2
   ·rw[List.getElem?_map,List.getElem?_range hj,hg j (by omega)];exact congrArg some (Rn.nq (b j _ (hg j (by omega))))
   ·rw[List.getElem?_eq_none (by simp;omega),List.getElem?_eq_none (by omega)]
  ·rintro⟨a,b⟩;have hl:p.length=k2:=by rw[<-b,zcy]
   refine key.2 ⟨by omega,λj hj=>?_⟩;have h2:=hE j _ (hg j (by omega));obtain⟨b',o',_,_,h7⟩:=hZ j (by omega);have h8:=NmS.val (K:=65536) h7 (zht a j (by omega) (by omega)) h7.2;have h9:p.getD j 0=nq (Z j):=by
    have e1:=hg j (by omega);rw[<-b]at e1
    unfold zbg at e1;rw[List.getElem?_map,List.getElem?_range (by omega)]at e1
    rw[<-b];exact(Option.some.inj e1).symm
   have:=(Rn.inj h2 h8).2 h9;exact sq_iff.2 this
 ·obtain⟨a,b⟩:=tru h;refine⟨λj q e=>?_,by omega⟩;have hj:j<p.length:=(List.getElem?_eq_some_iff.1 e).1;obtain⟨b',o',h1,h2,_⟩:=hZ j (by omega);exact⟨b',o',Z j,h1,h2,b j q e⟩
def zeq (e1 e2:Int) (k2:Nat) (Z:Nat->Nm) (cs:List CV) (rs:List RV) (xs ys:List Rat):Bool:=(decide (e1=0) && zfx cs rs xs) && (decide (e2=0) && ((afB k2 Z && decide (zbg k2 Z=zaA rs ys 0 cs)) && arB cs rs xs ys (zaA rs ys 0 cs)))
theorem ziq {w L M off cs rs a0 a1 a2 k0 c0 k1 c1 k2 c2 X Y Z xs ys e1 e2} (hW:MoW w M) (hx:Rl w a0 k0 X) (hy:Rl w a1 k1 Y) (hz:Rl w a2 k2 Z) (hk0:k0<=1048576) (hk1:k1<=1048576) (hk2:k2<=1048576) (he1:zcz M k0 X=e1) (he2:zbB M k1 Y=e2) (hv1:e1=0->MoV L w M off cs rs/\zbk cs rs=true/\Rf L w a0 xs/\xs.length=k0/\k0=cs.length) (hv2:e2=0->MoV L w M off cs rs/\zbk cs rs=true/\Rf L w a1 ys/\ys.length=k1/\k1=rs.length) (hL:L<=30) :
  Calls prog 12 #[M.val,agg #[slice a0 k0 c0,slice a1 k1 c1,slice a2 k2 c2]] w λe w'=>e=returned (.tuple #[.bool (decide (zaF M=0) && zeq e1 e2 k2 Z cs rs xs ys),.int .i64 (zaF M)])/\Bl w w':=by
 have CC:=zk (λW (hW2:Bl w W)=>zeT (hW.q_ hW2));have CF:=zk (λW (hW2:Bl w W)=>zpg (cap:=c0) (hW.q_ hW2) (hx.q_ hW2) hk0 he1 (λh=>by obtain⟨v1,v2,v3,v4,v5⟩:=hv1 h;exact⟨v1.q_ hW2,v2,v3.q_ hW2,v4,v5⟩) hL);have CR:=zk (λW (hW2:Bl w W)=>zds (cap:=c1) (hW.q_ hW2) (hy.q_ hW2) hk1 he2 (λh=>by obtain⟨v1,v2,v3,v4,v5⟩:=hv2 h;exact⟨v1.q_ hW2,v2,v3.q_ hW2,v4,v5⟩) hL);have CA:Hid (∀W,Bl w W->e1=0->e2=0->Rf (KV L) W a2 (zaA rs ys 0 cs)->(zaA rs ys 0 cs).length=k2->Calls prog 39 #[M.val,agg #[slice a0 k0 c0,slice a1 k1 c1,slice a2 k2 c2]] W λe w2=>e=returned (.bool (arB cs rs xs ys (zaA rs ys 0 cs)))/\Bl W w2):=λW hW2 g1 g2 hr hl=>by
  obtain⟨v1,v2,v3,v4,v5⟩:=hv1 g1;obtain⟨_,_,u3,u4,u5⟩:=hv2 g2;exact zjx (hW.q_ hW2) (hx.q_ hW2) hk0 (he1.trans g1) (v1.q_ hW2) v2 (v3.q_ hW2) v4 v5 (u3.q_ hW2) u4 u5 hr hl (by rw[<-hl,zaX]) hL
 have HCL:Hid (e2=0->cs.length<=64):=λg=>by obtain⟨_,v2,_⟩:=hv2 g;exact(zbj v2).cl
 have HZ:=zk hz;clear hW hx hy hz he1 he2 hv1 hv2;obtain⟨e0,he0⟩:∃e,zaF M=e:=⟨_,rfl⟩;rw[he0]at CC ⊢
 clear he0;obtain⟨fs,hfs⟩:∃t,(decide (e1=0) && zfx cs rs xs)=t:=⟨_,rfl⟩;rw[hfs]at CF
 have HFS:=zk hfs;clear hfs;have HLn:=zk (zaX rs ys cs 0);obtain⟨zs,hzs⟩:∃t,zaA rs ys 0 cs=t:=⟨_,rfl⟩;unfold ziD at CR;rw[hzs]at CR CA HLn
 have HZS:=zk hzs;clear hzs;obtain⟨ar,har⟩:∃t,arB cs rs xs ys zs=t:=⟨_,rfl⟩;rw[har]at CA
 have HAR:=zk har;clear har;obtain⟨⟨s,x,n,c,f,y,m,d,g⟩,ca,ck,cc,C,ra,rk,rc,R⟩:=M;replace CC:Hid (∀W,Bl w W->Calls prog 29 #[agg #[.bool s,slice x n c,slice y m d,slice ca ck cc,slice ra rk rc]] W λr w'=>r=returned (.int .i64 e0)/\Bl W w'):=CC;replace CF:Hid (∀W,Bl w W->Calls prog 36 #[agg #[.bool s,slice x n c,slice y m d,slice ca ck cc,slice ra rk rc],slice a0 k0 c0] W λe w'=>e=returned (.tuple #[.bool fs,.int .i64 e1])/\Bl W w'):=CF;replace CR:Hid (∀W,Bl w W->Calls prog 10 #[agg #[.bool s,slice x n c,slice y m d,slice ca ck cc,slice ra rk rc],slice a1 k1 c1] W λe w'=>Bl W w'/\((e2≠0/\e=returned (.tuple #[slice none 0 0,.int .i64 e2]))∨(e2=0/\∃a c,e=returned (.tuple #[slice a cs.length c,.int .i64 0])/\(cs.length<=c/\c<=9223372036854775807)/\Rf (KV L) w' a zs))):=CR;replace CA:Hid (∀W,Bl w W->e1=0->e2=0->Rf (KV L) W a2 zs->zs.length=k2->Calls prog 39 #[agg #[.bool s,slice x n c,slice y m d,slice ca ck cc,slice ra rk rc],agg #[slice a0 k0 c0,slice a1 k1 c1,slice a2 k2 c2]] W λe w2=>e=returned (.bool ar)/\Bl W w2):=CA;show Calls prog 12 #[agg #[.bool s,slice x n c,slice y m d,slice ca ck cc,slice ra rk rc],agg #[slice a0 k0 c0,slice a1 k1 c1,slice a2 k2 c2]] w _;have hb:=zu (zB w (cells #[.bool s,slice x n c,slice y m d,slice ca ck cc,slice ra rk rc] 28)) (cells #[slice a0 k0 c0,slice a1 k1 c1,slice a2 k2 c2] 46);have BM:=zk ((zF w [.bool s,slice x n c,slice y m d,slice ca ck cc,slice ra rk rc] 28).q_ (zB _ (cells #[slice a0 k0 c0,slice a1 k1 c1,slice a2 k2 c2] 46)));have BP:=zql w (cells #[.bool s,slice x n c,slice y m d,slice ca ck cc,slice ra rk rc] 28) [slice a0 k0 c0,slice a1 k1 c1,slice a2 k2 c2] 46;have HB:=zk hb;replace BP:=zk BP
 clear hb;go_enter func12,ntmps12;go_upto_region 1 with fail
 generalize((w.alloc (cells #[.bool s,slice x n c,slice y m d,slice ca ck cc,slice ra rk rc] 28)).alloc (cells #[slice a0 k0 c0,slice a1 k1 c1,slice a2 k2 c2] 46))=w1 at *;obtain⟨r0,r1,r2,r3,r4⟩:=bk5 BM.out;go_wp2_with fail
 clear r0 r1 r2 r3 r4
 go_at_call 29
 refine(CC.out _ HB.out).mono ?_;rintro e w2 ⟨rfl,hb2⟩;replace HB:=zJ HB hb2;replace BM:=zk (BM.out.q_ hb2);replace BP:=zk (BP.out.q_ hb2)
 clear hb2;clear CC;by_cases h0:e0=0
 case neg =>
  have h1:(e0 != 0)=true:=by simpa using h0
  have HE:Hid (decide (e0=0)=false):=decide_eq_false h0;clear h0 CF CR CA;go_wp2
  go_ret2
  exact⟨by rw[HE.out];rfl,HB.out⟩
 subst h0;obtain⟨r0,r1,r2,r3,r4⟩:=bk5 BM.out;obtain⟨p0,p1,p2⟩:=bk3 BP.out;go_wp2_with fail
 clear r0 r1 r2 r3 r4 p0 p1 p2
 go_at_call 36
 refine(CF.out _ HB.out).mono ?_;rintro e w3 ⟨rfl,hb3⟩;replace HB:=zJ HB hb3;replace BM:=zk (BM.out.q_ hb3);replace BP:=zk (BP.out.q_ hb3)
 clear hb3;clear CF;obtain⟨r0,r1,r2,r3,r4⟩:=bk5 BM.out;obtain⟨p0,p1,p2⟩:=bk3 BP.out;go_wp2_with fail
 clear r0 r1 r2 r3 r4 p0 p1 p2
 go_at_call 10
 refine(CR.out _ HB.out).mono ?_;clear CR;rintro e w4 ⟨hb4,⟨h9,rfl⟩|⟨h9,aa,ac,rfl,hca,hrf⟩⟩
 ·replace HB:=zJ HB hb4;replace BM:=zk (BM.out.q_ hb4);replace BP:=zk (BP.out.q_ hb4)
  clear hb4;have h1:(e2 != 0)=true:=by simpa using h9
  have HE:Hid (zeq e1 e2 k2 Z cs rs xs ys=false):=by show _=_;unfold zeq;rw[decide_eq_false h9];simp
  clear h9 CA HZ;cases fs
  ·go_wp2
   go_ret2
   exact⟨by rw[HE.out];rfl,HB.out⟩
  ·go_wp2
   go_ret2
   exact⟨by rw[HE.out];rfl,HB.out⟩
 ·replace HB:=zJ HB hb4;replace BM:=zk (BM.out.q_ hb4);replace BP:=zk (BP.out.q_ hb4)
  clear hb4;subst h9;have HRF:=zk hrf;have hcl:=HCL.out rfl;clear hrf HCL;cases fs
  case false =>
   have HE:Hid (zeq e1 0 k2 Z cs rs xs ys=false):=by show _=_;unfold zeq;rw[HFS.out];simp
   clear CA HZ HRF;go_wp2
   go_ret2
   exact⟨by rw[HE.out];rfl,HB.out⟩
  have HE1:Hid (e1=0):=by have h:=HFS.out;rw[Bool.and_eq_true,decide_eq_true_eq]at h;exact h.1
  obtain⟨E,hE⟩:=zqe HRF.out;have CE:Hid (∀W,Bl w4 W->Calls prog 37 #[slice aa cs.length ac,slice a2 k2 c2,.func (.func 38) #[] #[]] W λe w9=>e=returned (.bool (eqfB sqB cs.length k2 E Z))/\Bl W w9):=λW hW2=>by
   have hb9:=bUp HB.out hW2;refine zju (λj hj=>?_) (HZ.out.q_ hb9).cs (by omega) hk2;obtain⟨q,hq⟩:∃t,zs[j]?=some t:=⟨_,getElem?_eq_getElem (by have:=HLn.out;omega)⟩;obtain⟨⟨b,o,h1,h2⟩,h3⟩:=hE j q hq;refine⟨b,o,h1,λi v e=>?_,(NmV.nms (NmV.q_ h3 hW2) (by unfold KV;omega)).1⟩;replace h2:=C3.q_ h2 hW2
   match i,e with
   | 0,e=>cases e;exact h2.x0
   | 1,e=>cases e;exact h2.x1
   | 2,e=>cases e;exact h2.x2
   | i+3,e=>cases e
  have hz9:=λW (hW2:Bl w W)=>zrC (L:=KV L) (k:=cs.length) (E:=E) HLn.out (λj q e=>(hE j q e).2) (HZ.out.q_ hW2)
  have HZ9:=zk hz9;have HQ:=zk (hz9 w (Below.refl _ _)).1;clear hE hz9 HZ;obtain⟨qe,hqe⟩:∃t,eqfB sqB cs.length k2 E Z=t:=⟨_,rfl⟩;rw[hqe]at CE HQ
  have HQE:=zk hqe;clear hqe;have p2:=BP.out.cell (j:=2) rfl;go_wp2_with fail
  clear p2
  go_at_call 37
  refine(CE.out _ (Below.refl _ _)).mono ?_;rintro e w5 ⟨rfl,hb5⟩;replace HB:=zJ HB hb5;replace BM:=zk (BM.out.q_ hb5);replace BP:=zk (BP.out.q_ hb5)
  clear hb5;clear CE;cases qe
  case false =>
   have HE:Hid (zeq e1 0 k2 Z cs rs xs ys=false):=by show _=_;unfold zeq;rw[HZS.out,<-HQ.out];simp
   clear CA HRF;go_wp2
   go_ret2
   exact⟨by rw[HE.out];rfl,HB.out⟩
  have HE:Hid (zeq e1 0 k2 Z cs rs xs ys=ar):=by show _=_;unfold zeq;rw[HZS.out,<-HQ.out,HFS.out,HAR.out];simp
  obtain⟨g1,g2⟩:=(HZ9.out _ HB.out).2 HQE.out;have CA2:=zk (CA.out _ HB.out HE1.out (by first|rfl|trivial) g1 g2);clear CA g1 g2 HZ9 HQ HQE HRF;obtain⟨r0,r1,r2,r3,r4⟩:=bk5 BM.out;obtain⟨p0,p1,p2⟩:=bk3 BP.out;go_wp2_with fail
  clear r0 r1 r2 r3 r4 p0 p1 p2
  go_at_call 39
  refine CA2.out.mono ?_;rintro e w6 ⟨rfl,hb6⟩;replace HB:=zJ HB hb6;replace BM:=zk (BM.out.q_ hb6);replace BP:=zk (BP.out.q_ hb6)
  clear hb6;go_wp2
  go_ret2
  exact⟨by rw[HE.out];rfl,HB.out⟩
theorem zfe {L w ao p} (h:Rf L w ao p) (hL:L<=65536):∃E,Rl w ao p.length E/\afB p.length E=true/\zbg p.length E=p:=by
 obtain⟨E,hE⟩:=zqe h;have hg:∀j,j<p.length->p[j]?=some (p.getD j 0):=λj hj=>by rw[List.getD_eq_getElem?_getD,getElem?_eq_getElem hj];rfl
 refine⟨E,λj hj=>?_,zod (λj _ hj=>(NmV.nms (hE j _ (hg j (by omega))).2 hL).2),?_⟩
 ·obtain⟨⟨b,o,h1,h2⟩,h3⟩:=hE j _ (hg j hj);exact⟨b,o,h1,h2,(NmV.nms h3 hL).1⟩
 ·refine List.ext_getElem? (λj=>?_);unfold zbg;by_cases hj:j<p.length
  ·rw[List.getElem?_map,List.getElem?_range hj,hg j hj];exact congrArg some (Rn.nq (hE j _ (hg j hj)).2)
  ·rw[List.getElem?_eq_none (by simp;omega),List.getElem?_eq_none (by omega)]
theorem zrj {k X z} (h:afB k X=true) (e:(k:Int)=z):pnE k X z=0:=by unfold pnE;rw[if_pos h,if_pos e]
theorem zhh {M k X} (h:zaF M=0) (h0:afB k X=true) (e0:k=M.rk):zbB M k X=0:=by
 subst e0;unfold zbB;rw[h,zrj h0 rfl];rfl
theorem zjv {w L M off cs rs a1 k1 c1 ys} (h:MoV L w M off cs rs) (ho:zbk cs rs=true) (hy:Rf L w a1 ys) (l1:ys.length=k1) (q1:k1=rs.length) (hL:L<=30):Calls prog 10 #[M.val,slice a1 k1 c1] w λe w'=>ziD L w w' e 0 cs rs ys:=by
 obtain⟨h1,h2⟩:=h.chk (by omega) ho;have mp:=zbj ho;have hcl:=mp.cl;have hrl:=mp.rl
 obtain⟨Y,y1,z1,_⟩:=zfe hy (by omega);rw[l1]at y1 z1
 have he:zbB M k1 Y=0:=zhh h1 z1 (by rw[h.rk];exact q1);exact zds (λ_ _=>h2) y1 (by omega) he (λ_=>⟨h,ho,hy,l1,q1⟩) hL
theorem zis {w L M off cs rs a1 k1 c1 ys} (h:MoV L w M off cs rs) (ho:zbk cs rs=true) (hy:Rf L w a1 ys) (l1:ys.length=k1) (q1:k1=rs.length) (hL4:4<=L) (hL:L<=8):Calls prog 11 #[M.val,slice a1 k1 c1] w λe w'=>zos L w w' e 0 (bnP off cs rs ys):=by
 obtain⟨h1,h2⟩:=h.chk (by omega) ho;have mp:=zbj ho;have hcl:=mp.cl;have hrl:=mp.rl
 obtain⟨Y,y1,z1,_⟩:=zfe hy (by omega);rw[l1]at y1 z1
 have he:zbB M k1 Y=0:=zhh h1 z1 (by rw[h.rk];exact q1);exact zir (λ_ _=>h2) y1 (by omega) he (λ_=>⟨h,ho,hy,l1,q1⟩) hL4 hL
theorem znM {w L M off cs rs a1 k1 c1 ys a0 a2 k0 c0 k2 c2 xs zs} (h:MoV L w M off cs rs) (ho:zbk cs rs=true) (hy:Rf L w a1 ys) (l1:ys.length=k1) (q1:k1=rs.length) (hx:Rf L w a0 xs) (l0:xs.length=k0) (q0:k0=cs.length) (hz:Rf L w a2 zs) (l2:zs.length=k2) (hk2:k2<=1000) (hL:L<=30) :
  Calls prog 12 #[M.val,agg #[slice a0 k0 c0,slice a1 k1 c1,slice a2 k2 c2]] w λe w'=>e=returned (.tuple #[.bool (zfx cs rs xs && (decide (zs=zaA rs ys 0 cs) && arB cs rs xs ys (zaA rs ys 0 cs))),.int .i64 0])/\Bl w w':=by
 obtain⟨h1,h2⟩:=h.chk (by omega) ho;have mp:=zbj ho;have hcl:=mp.cl;have hrl:=mp.rl
 obtain⟨Y,y1,z1,_⟩:=zfe hy (by omega);rw[l1]at y1 z1
 have he:zbB M k1 Y=0:=zhh h1 z1 (by rw[h.rk];exact q1);obtain⟨X,y0,z0,_⟩:=zfe hx (by omega);rw[l0]at y0 z0
 obtain⟨Z,y2,z2,p2⟩:=zfe hz (by omega);rw[l2]at y2 z2 p2
 have he0:zcz M k0 X=0:=zpe h1 z0 (by rw[h.ck];exact q0);have:=ziq (c0:=c0) (c1:=c1) (c2:=c2) (λ_ _=>h2) y0 y1 y2 (by omega) (by omega) (by omega) he0 he (λ_=>⟨h,ho,hx,l0,q0⟩) (λ_=>⟨h,ho,hy,l1,q1⟩) hL;rw[h1]at this
 unfold zeq at this;rw[z2,p2]at this
 simpa using this
theorem zkt:zbk k2C k2R=true:=by decide +kernel
theorem zss:zaA k2R [((-1:Int):Rat)/2] 0 k2C=[((-1:Int):Rat)/2,((0:Int):Rat)]:=by decide +kernel
theorem k2_b1:smI (bnP 3 k2C k2R [((-1:Int):Rat)/2])=0/\smQ (bnP 3 k2C k2R [((-1:Int):Rat)/2])=((-2:Int):Rat):=by decide +kernel
theorem zst:smI (bnP 3 k2C k2R [((1:Int):Rat)])=-1:=by decide +kernel
theorem k2_h:(zfx k2C k2R [((4:Int):Rat),((1:Int):Rat)] && (decide ([((-1:Int):Rat)/2,((0:Int):Rat)]=zaA k2R [((-1:Int):Rat)/2] 0 k2C) && arB k2C k2R [((4:Int):Rat),((1:Int):Rat)] [((-1:Int):Rat)/2] (zaA k2R [((-1:Int):Rat)/2] 0 k2C)))=true:=by decide +kernel
theorem zlP (w:World):Calls prog 4 #[] w λe w'=>e=returned (.bool true)/\Bl w w':=by
 have HB:=zk (Below.refl w.heap.size w);go_enter func4,ntmps4;go_wp2_with fail
 refine first11_c.mono ?_;rintro e v1 ⟨⟨⟨sm,xm,nm,cm,fm,ym,mm,dm,gm⟩,cam,ckm,ccm,Cm,ram,rkm,rcm,Rm⟩,rfl,hb,HM⟩;replace HB:=zJ HB hb;clear hb;go_wp2_with fail
 refine(zcF (z:=-1) (by decide) (by decide) zhS).mono ?_;rintro e v2 ⟨sh,xh,nh,ch,fh,yh,mh,dh,gh,rfl,hb,hr⟩;have hn:=zB v2 (cells #[.bool sh,slice xh nh ch,slice yh mh dh] 24);have hbn:=bUp hb hn;replace HB:=zJ HB hbn;replace HM:=zk (HM.out.q_ hbn)
 have HX:=zk (show Rf 8 (v2.alloc (cells #[.bool sh,slice xh nh ch,slice yh mh dh] 24)) (some ⟨v2.heap.size,0,none⟩) [((-1:Int):Rat)/2]from(zha (base:=0) (hr.out.mono (by decide)) (Nat.zero_le _)).rf);clear hb hr hn hbn;go_wp2_with fail
 generalize v2.alloc (cells #[.bool sh,slice xh nh ch,slice yh mh dh] 24)=vvv2 at *;generalize v2.heap.size=ppv2 at *;refine(zjv (L:=8) HM.out zkt HX.out rfl rfl (by decide)).mono ?_;rintro e v3 ⟨hb,⟨h9,_⟩|⟨_,za,zc,rfl,_,hrf⟩⟩
 ·exact absurd rfl h9
 rw[zss]at hrf
 rw[show k2C.length=2 from rfl];have HZ:=zk hrf;replace HB:=zJ HB hb;clear hb hrf HM HX;go_wp2_with fail
 refine first11_c.mono ?_;rintro e v4 ⟨⟨⟨sm,xm,nm,cm,fm,ym,mm,dm,gm⟩,cam,ckm,ccm,Cm,ram,rkm,rcm,Rm⟩,rfl,hb,HM⟩;replace HB:=zJ HB hb;replace HZ:=zk (HZ.out.q_ hb)
 clear hb;go_wp2_with fail
 refine(zcF (z:=-1) (by decide) (by decide) zhS).mono ?_;rintro e v5 ⟨sh,xh,nh,ch,fh,yh,mh,dh,gh,rfl,hb,hr⟩;have hn:=zB v5 (cells #[.bool sh,slice xh nh ch,slice yh mh dh] 24);have hbn:=bUp hb hn;replace HB:=zJ HB hbn;replace HZ:=zk (HZ.out.q_ hbn);replace HM:=zk (HM.out.q_ hbn)
 have HX:=zk (show Rf 8 (v5.alloc (cells #[.bool sh,slice xh nh ch,slice yh mh dh] 24)) (some ⟨v5.heap.size,0,none⟩) [((-1:Int):Rat)/2]from(zha (base:=0) (hr.out.mono (by decide)) (Nat.zero_le _)).rf);clear hb hr hn hbn;go_wp2_with fail
 generalize v5.alloc (cells #[.bool sh,slice xh nh ch,slice yh mh dh] 24)=vvv5 at *;generalize v5.heap.size=ppv5 at *;refine(zis (L:=8) HM.out zkt HX.out rfl rfl (by decide) (by decide)).mono ?_;rintro e v6 ⟨hb,⟨h9,_⟩|⟨_,sb,xb,nb,cb,fb,yb,mb,db,gb,rfl,hen⟩⟩
 ·exact absurd rfl h9
 rw[k2_b1.1]at hen ⊢
 rw[k2_b1.2]at hen
 have hn:=zB v6 (cells #[.int .i64 0,.bool sb,slice xb nb cb,slice yb mb db] 40);have hbn:=bUp hb hn;replace HB:=zJ HB hbn;replace HZ:=zk (HZ.out.q_ hbn)
 have Bb:=zk (zF v6 [.int .i64 0,.bool sb,slice xb nb cb,slice yb mb db] 40);have Hb:=zk (Rn.q_ hen.rn hn);clear hb hen hn hbn HM HX;go_wp2_with fail
 generalize v6.alloc (cells #[.int .i64 0,.bool sb,slice xb nb cb,slice yb mb db] 40)=vvv6 at *;generalize v6.heap.size=bxb at *;refine first11_c.mono ?_;rintro e v7 ⟨⟨⟨sm,xm,nm,cm,fm,ym,mm,dm,gm⟩,cam,ckm,ccm,Cm,ram,rkm,rcm,Rm⟩,rfl,hb,HM⟩;replace HB:=zJ HB hb;replace HZ:=zk (HZ.out.q_ hb);replace Bb:=zk (Bb.out.q_ hb);replace Hb:=zk (Hb.out.q_ hb)
 clear hb;go_wp2_with fail
 refine(zaE (z:=1) (by decide) (by decide)).mono ?_;rintro e v8 ⟨sh,xh,nh,ch,fh,yh,mh,dh,gh,rfl,hb,hr⟩;have hn:=zB v8 (cells #[.bool sh,slice xh nh ch,slice yh mh dh] 24);have hbn:=bUp hb hn;replace HB:=zJ HB hbn;replace HZ:=zk (HZ.out.q_ hbn);replace Bb:=zk (Bb.out.q_ hbn);replace Hb:=zk (Hb.out.q_ hbn);replace HM:=zk (HM.out.q_ hbn)
 have HX:=zk (show Rf 8 (v8.alloc (cells #[.bool sh,slice xh nh ch,slice yh mh dh] 24)) (some ⟨v8.heap.size,0,none⟩) [((1:Int):Rat)]from(zha (base:=0) (hr.mono (by decide)) (Nat.zero_le _)).rf);clear hb hr hn hbn;go_wp2_with fail
 generalize v8.alloc (cells #[.bool sh,slice xh nh ch,slice yh mh dh] 24)=vvv8 at *;generalize v8.heap.size=ppv8 at *;refine(zis (L:=8) HM.out zkt HX.out rfl rfl (by decide) (by decide)).mono ?_;rintro e v9 ⟨hb,⟨h9,_⟩|⟨_,sc,xc,nc,cc,fc,yc,mc,dc,gc,rfl,hen⟩⟩
 ·exact absurd rfl h9
 rw[zst]at hen ⊢
 have hn:=zB v9 (cells #[.int .i64 (-1),.bool sc,slice xc nc cc,slice yc mc dc] 40);have hbn:=bUp hb hn;replace HB:=zJ HB hbn;replace HZ:=zk (HZ.out.q_ hbn);replace Bb:=zk (Bb.out.q_ hbn);replace Hb:=zk (Hb.out.q_ hbn)
 have Bc:=zk (zF v9 [.int .i64 (-1),.bool sc,slice xc nc cc,slice yc mc dc] 40);clear hb hen hn hbn HM HX;go_wp2_with fail
 generalize v9.alloc (cells #[.int .i64 (-1),.bool sc,slice xc nc cc,slice yc mc dc] 40)=vvv9 at *;generalize v9.heap.size=bxc at *;refine first11_c.mono ?_;rintro e v10 ⟨⟨⟨sm,xm,nm,cm,fm,ym,mm,dm,gm⟩,cam,ckm,ccm,Cm,ram,rkm,rcm,Rm⟩,rfl,hb,HM⟩;replace HB:=zJ HB hb;replace HZ:=zk (HZ.out.q_ hb);replace Bb:=zk (Bb.out.q_ hb);replace Hb:=zk (Hb.out.q_ hb);replace Bc:=zk (Bc.out.q_ hb)
 clear hb;go_wp2_with fail
 refine best11_c.mono ?_;rintro e v11 ⟨ax,ay,az,rfl,hb,hr⟩;replace HB:=zJ HB hb;replace HZ:=zk (HZ.out.q_ hb);replace Bb:=zk (Bb.out.q_ hb);replace Hb:=zk (Hb.out.q_ hb);replace Bc:=zk (Bc.out.q_ hb);replace HM:=zk (HM.out.q_ hb)
 have HP:=zk hr.out;clear hb hr;go_wp2_with fail
 refine(znM (L:=8) HM.out zkt HP.out.2.1 rfl rfl HP.out.1 rfl rfl HP.out.2.2 rfl (by decide) (by decide)).mono ?_;rintro e w5 ⟨rfl,hb⟩;rw[k2_h];replace HB:=zJ HB hb;replace HZ:=zk (HZ.out.q_ hb);replace Bb:=zk (Bb.out.q_ hb);replace Hb:=zk (Hb.out.q_ hb);replace Bc:=zk (Bc.out.q_ hb)
 clear hb HM HP;go_upto_region 5 with fail
 obtain⟨zb,zo,⟨s,x,n,c,f,y,m,d,g⟩,hb1,⟨p0,p1,p2⟩,hr⟩:=HZ.out 0 _ rfl;subst hb1;replace p0:w5.cell? ⟨zb,zo,none⟩=some (.bool s):=p0;replace p1:w5.cell? ⟨zb,zo+1,none⟩=some (slice x n c):=p1;replace p2:w5.cell? ⟨zb,zo+2,none⟩=some (slice y m d):=p2;have HR:Hid (Rn (KV 8) w5 s x n c f y m d g (((-1:Int):Rat)/2)):=hr;clear hr HZ;have k0:=Bb.out.cell (j:=0) rfl;have k1:=Bb.out.cell (j:=1) rfl;have k2:=Bb.out.cell (j:=2) rfl;have k3:=Bb.out.cell (j:=3) rfl
 have j0:=Bc.out.cell (j:=0) rfl;have CD:=zk (λW=>zcF (w:=W) (z:=-1) (by decide) (by decide) zhS);have CE:Hid (∀W,Calls prog 21 #[.int .i64 (-2)] W λe w'=>∃s x n c f y m d g,e=returned (agg #[.int .i64 0,.bool s,slice x n c,slice y m d])/\Bl W w'/\Rn 8 w' s x n c f y m d g ((-2:Int):Rat)):=λW=>(zeJ (w:=W) (z:=-2) (by decide) (by decide)).mono (λe w' ⟨v8,h1,h2,⟨i8,⟨s8,x8,n8,c8,f8,y8,m8,d8,g8⟩⟩,ev,hi8,hv⟩=>by replace hi8:i8=0:=hi8;subst hi8;exact⟨s8,x8,n8,c8,f8,y8,m8,d8,g8,by rw[h1,ev];rfl,h2,hv⟩)
 have CS:Hid (∀W s2 x2 n2 c2 f2 y2 m2 d2 g2,Bl w5 W->Rn 4 W s2 x2 n2 c2 f2 y2 m2 d2 g2 (((-1:Int):Rat)/2)->Calls prog 16 #[agg #[.bool s,slice x n c,slice y m d],agg #[.bool s2,slice x2 n2 c2,slice y2 m2 d2]] W λe w'=>e=returned (.bool true)/\Bl W w'):=λW s2 x2 n2 c2 f2 y2 m2 d2 g2 hW h2=>zbZ (HR.out.q_ hW) h2 (by decide) (by decide)
 have CT:Hid (∀W s3 x3 n3 c3 f3 y3 m3 d3 g3,Bl w5 W->Rn 8 W s3 x3 n3 c3 f3 y3 m3 d3 g3 ((-2:Int):Rat)->Calls prog 20 #[agg #[.int .i64 0,.bool sb,slice xb nb cb,slice yb mb db],agg #[.int .i64 0,.bool s3,slice x3 n3 c3,slice y3 m3 d3]] W λe w'=>e=returned (.bool true)/\Bl W w'):=λW s3 x3 n3 c3 f3 y3 m3 d3 g3 hW h2=>zlY (λV hV=>zbZ (Rn.q_ (Rn.q_ Hb.out hW) hV) (Rn.q_ h2 hV) (by decide) (by decide))
 go_region_held3 (λw'=>w'.cell? ⟨zb,zo,none⟩=some (.bool s)/\w'.cell? ⟨zb,zo+1,none⟩=some (slice x n c)/\w'.cell? ⟨zb,zo+2,none⟩=some (slice y m d)/\w'.cell? ⟨bxb,0,none⟩=some (.int .i64 0)/\w'.cell? ⟨bxb,1,none⟩=some (.bool sb)/\w'.cell? ⟨bxb,2,none⟩=some (slice xb nb cb)/\w'.cell? ⟨bxb,3,none⟩=some (slice yb mb db)/\w'.cell? ⟨bxc,0,none⟩=some (.int .i64 (-1)))
  (refine⟨?_,?_,?_,?_,?_,?_,?_,?_⟩ <;> repeat(with_reducible first|assumption|refine kCd ?_|refine kCb (by assumption) ?_))
  (first
   | (go_at_call 18;with_reducible refine(CD.out _).mono ?_;rintro e w6 ⟨s6,x6,n6,c6,f6,y6,m6,d6,g6,rfl,hb6,H6⟩)
   | (go_at_call 21;with_reducible refine(CE.out _).mono ?_;rintro e w8 ⟨s8,x8,n8,c8,f8,y8,m8,d8,g8,rfl,hb8,H8⟩;replace H8:=zk H8)
   | (go_at_call 16;with_reducible refine(CS.out _ s6 x6 n6 c6 f6 y6 m6 d6 g6 zai (H6.out.q_ zai)).mono ?_;rintro e w7 ⟨rfl,hb7⟩)
   | (go_at_call 20;with_reducible refine(CT.out _ s8 x8 n8 c8 f8 y8 m8 d8 g8 zai (H8.out.q_ zai)).mono ?_;rintro e w9 ⟨rfl,hb9⟩))
 all_goals
  have HB9:=zk (HB.out.trans ((show Bl w5 w9 from zai).mono HB.out.size));clear p0 p1 p2 k0 k1 k2 k3 j0 CD CS CE CT HR;go_wp2;go_ret;exact⟨by first|rfl|simp,HB9.out⟩
structure BV where
 q:Rat
 i:Int
 a:Rat
 up:Bool
 ts:List (Int × Rat)
structure T4 (w:World) (b0 b1 b2 b3:Option Addr) (k0:Nat) (X0 Y0:Nat->Nm) (k1:Nat) (X1 Y1:Nat->Nm) (k2:Nat) (X2 Y2:Nat->Nm) (k3:Nat) (X3 Y3:Nat->Nm):Prop where
 t0:Tx w b0 k0 X0 Y0
 t1:Tx w b1 k1 X1 Y1
 t2:Tx w b2 k2 X2 Y2
 t3:Tx w b3 k3 X3 Y3
theorem zhH (M:Mo):(zbp M).length=M.rk:=by simp[zbp]
theorem zcI {M k X} (h:zbB M k X=0):zaF M=0/\afB k X=true/\k=M.rk:=by
 obtain⟨h1,h2⟩:=zhz h;refine⟨h1,?_⟩;unfold pnE at h2;by_cases a:afB k X=true
 ·rw[if_pos a]at h2
  by_cases b:k=M.rk
  ·exact⟨a,b⟩
  ·rw[if_neg (by omega)]at h2;cases h2
 ·rw[if_neg a]at h2;cases h2
theorem zfz {K w ao k X X' M M'} (h:TmK K w M M') (hx:Tx w ao k X X'):zbB M' k X'=zbB M k X:=by
 unfold zbB;rw[h.1.chk,h.1.rk];unfold pnE;rw[show afB k X'=afB k X from zfG (λj _ b=>hx.2 j (by omega))]
theorem zhd {K w ao k X X' M M'} (L:Nat) (hL:K<=L) (hK:K<=100) (h:TmK K w M M') (hN:MoN M) (hx:Tx w ao k X X') (hs:ShK K k X) (he:zbB M k X=0):MoV L w M' (nq M.off) (zbi M) (zbp M)/\zbk (zbi M) (zbp M)=true/\Rf L w ao (zbg k X)/\(zbg k X).length=k/\k=(zbp M).length:=by
 obtain⟨h1,h2,h3⟩:=zcI he;obtain⟨a,b⟩:=h.valL L hL hK hN h1;exact⟨a,b,(hx.valK hs h2).mono hL,zcy _ _,by rw[zhH];exact h3⟩
theorem zlN {K w M M' ao k cap X X'} (h:TmK K w M M') (hN:MoN M) (hx:Tx w ao k X X') (hs:ShK K k X) (hK4:4<=K) (hK:K<=8) :
  Calls prog 11 #[M'.val,slice ao k cap] w λe w'=>zos K w w' e (zbB M k X) (bnP (nq M.off) (zbi M) (zbp M) (zbg k X)) :=
 zir h.2.1 hx.1 (by have:=hs.1;omega) (zfz h hx) (λhe=>zhd K (by omega) (by omega) h hN hx hs he) hK4 hK
def zsv (M:Mo) (k0:Nat) (X0:Nat->Nm) (k1:Nat) (X1:Nat->Nm) (k2:Nat) (X2:Nat->Nm):Bool:=decide (zaF M=0) && zeq (zcz M k0 X0) (zbB M k1 X1) k2 X2 (zbi M) (zbp M) (zbg k0 X0) (zbg k1 X1)
theorem zlA {K w M M' a0 a1 a2 k0 c0 k1 c1 k2 c2 X0 X1 X2 Y0 Y1 Y2} (h:TmK K w M M') (hN:MoN M) (t0:Tx w a0 k0 X0 Y0) (t1:Tx w a1 k1 X1 Y1) (t2:Tx w a2 k2 X2 Y2) (s0:ShK K k0 X0) (s1:ShK K k1 X1) (s2:ShK K k2 X2) (hK:K<=30) :
  Calls prog 12 #[M'.val,agg #[slice a0 k0 c0,slice a1 k1 c1,slice a2 k2 c2]] w λe w'=>e=returned (.tuple #[.bool (zsv M k0 X0 k1 X1 k2 X2),.int .i64 (zaF M)])/\Bl w w':=by
 have:=ziq (c0:=c0) (c1:=c1) (c2:=c2) h.2.1 t0.1 t1.1 t2.1 (by have:=s0.1;omega) (by have:=s1.1;omega) (by have:=s2.1;omega) (zmW h t0) (zfz h t1) (λhe=>zqK K (by omega) (by omega) h hN t0 s0 he) (λhe=>zhd K (by omega) (by omega) h hN t1 s1 he) hK;unfold zsv;rw[h.1.chk]at this
 unfold zeq at this ⊢;rw[show afB k2 Y2=afB k2 X2 from zfG (λj _ b=>t2.2 j (by omega)),zgO t2.2]at this
 exact this
theorem zng {cs rs} (h:zbk cs rs=true):∀v ∈ rs,tsB cs.length (-1) v.ts=true:=λv hv=>by
 simp only[zbk,Bool.and_eq_true,decide_eq_true_eq,List.all_eq_true]at h;exact(h.2.2.2.1 v hv).2.1
theorem ziX {w M ao k cap X} (hI:In8 w M) (hx:Rl w ao k X) (hs:ShK 8 k X) :
  Calls prog 40 #[M.val,slice ao k cap] w λe w'=>e=returned (.int .i64 (zbB M k X))/\Bl w w':=by
 have CC:=zk (λW (hW:Bl w W)=>zjp (w:=W) ((hI.x.q_ hW).both hI.n hI.k (by decide)) hI.c);have CF:=zk (λW (hW:Bl w W)=>zpJ (w:=W) (cap:=cap) (hx.q_ hW) (by have:=hs.1;omega) (λj hj=>by have:=hs.2 j hj;omega));obtain⟨ec,hec⟩:∃e,zaF M=e:=⟨_,rfl⟩;obtain⟨bf,hbf⟩:∃e,afB k X=e:=⟨_,rfl⟩;unfold zbB pnE;rw[hec]at CC ⊢
 rw[hbf]at CF ⊢
 clear hI hx hs hec hbf;obtain⟨⟨s,x,n,c,f,y,m,d,g⟩,ca,ck,cc,C,ra,rk,rc,R⟩:=M;replace CC:Hid (∀W,Bl w W->Calls prog 73 #[agg #[.bool s,slice x n c,slice y m d,slice ca ck cc,slice ra rk rc]] W λe w'=>e=returned (.int .i64 ec)/\Bl W w'):=CC;show Calls prog 40 #[agg #[.bool s,slice x n c,slice y m d,slice ca ck cc,slice ra rk rc],slice ao k cap] w λe w'=>e=returned (.int .i64 (lsf (two ec (if bf=true then (if (k:Int)=(rk:Int) then 0 else 7) else 3)) 2))/\Bl w w'
 rw[zeO];obtain⟨er,her⟩:∃e,lstep ec (if bf=true then (if (k:Int)=(rk:Int) then 0 else 7) else 3)=e:=⟨_,rfl⟩;rw[her];have HE:=zk her;clear her;have HB:=zk (zB w (cells #[.bool s,slice x n c,slice y m d,slice ca ck cc,slice ra rk rc] 28));have BM:=zk (zF w [.bool s,slice x n c,slice y m d,slice ca ck cc,slice ra rk rc] 28);go_enter func40,ntmps40;obtain⟨r0,r1,r2,r3,r4⟩:=bk5 BM.out;go_wp2_with fail
 clear r0 r1 r2 r3 r4;generalize(w.alloc (cells #[.bool s,slice x n c,slice y m d,slice ca ck cc,slice ra rk rc] 28))=v0 at *;refine(CC.out _ HB.out).mono ?_;rintro e v1 ⟨rfl,hb⟩;replace HB:=zJ HB hb;replace BM:=zk (BM.out.q_ hb)
 clear hb;go_wp2_with fail
 refine(CF.out _ HB.out).mono ?_;rintro e v2 ⟨rfl,hb⟩;replace HB:=zJ HB hb;replace BM:=zk (BM.out.q_ hb)
 clear hb;clear CC CF;cases bf
 ·have h0:lstep ec 3=er:=HE.out;have hb:=zB v2 (cells #[.int .i64 ec,.int .i64 3] 3);go_wp2_with fail
  refine(zdL zdP (by decide)).mono ?_;rintro e w5 ⟨rfl,rfl⟩;replace HB:=zJ HB hb;replace BM:=zk (BM.out.q_ hb)
  clear hb;generalize v2.alloc (cells #[.int .i64 ec,.int .i64 3] 3)=v2' at *;rw[zeO,h0];have r4:=BM.out.cell (j:=4) rfl;by_cases hk:((k:Nat):Int)=((rk:Nat):Int)
  ·have hk':(((k:Nat):Int) != ((rk:Nat):Int))=false:=by simp[hk]
   go_wp2;go_ret;exact⟨rfl,HB.out⟩
  ·have hk':(((k:Nat):Int) != ((rk:Nat):Int))=true:=by simpa using hk
   have h1:lstep er 7=er:=by rw[<-h0];exact zno ec
   have hb:=zu (Below.refl v2'.heap.size v2') (cells #[.int .i64 er,.int .i64 7] 3);go_wp2_with fail
   refine(zdL zdP (by decide)).mono ?_;rintro e w5 ⟨rfl,rfl⟩;replace HB:=zJ HB hb;replace BM:=zk (BM.out.q_ hb)
   clear hb;generalize v2'.alloc (cells #[.int .i64 er,.int .i64 7] 3)=v2'' at *;rw[zeO,h1];go_wp2;go_ret;exact⟨rfl,HB.out⟩
 ·have h0:lstep ec (if (k:Int)=(rk:Int) then 0 else 7)=er:=HE.out;have r4:=BM.out.cell (j:=4) rfl;by_cases hk:((k:Nat):Int)=((rk:Nat):Int)
  ·have hk':(((k:Nat):Int) != ((rk:Nat):Int))=false:=by simp[hk]
   have h9:lstep ec 0=ec:=by unfold lstep;split <;> omega
   rw[if_pos hk,h9]at h0
   subst h0;clear h9;go_wp2;go_ret;exact⟨rfl,HB.out⟩
  ·have hk':(((k:Nat):Int) != ((rk:Nat):Int))=true:=by simpa using hk
   rw[if_neg hk]at h0
   have hb:=zB v2 (cells #[.int .i64 ec,.int .i64 7] 3);go_wp2_with fail
   refine(zdL zdP (by decide)).mono ?_;rintro e w5 ⟨rfl,rfl⟩;replace HB:=zJ HB hb;replace BM:=zk (BM.out.q_ hb)
   clear hb;generalize v2.alloc (cells #[.int .i64 ec,.int .i64 7] 3)=v2' at *;rw[zeO,h0];go_wp2;go_ret;exact⟨rfl,HB.out⟩
theorem zmn {w x n c d V} (h:Dn w x n d V) (hn:n<=1048576) :
  Calls prog 52 #[slice x n c] w λe w'=>∃z k c' f,e=returned (slice z k c')/\Bl w w'/\Hid (k<=n/\Wn w' false z k c' f (V:Int)/\Dw w' w.heap.size z k) :=
 (zjP x n c d w hn h.rd h.dg h.fm).mono (λ_ _ ⟨z,k,c',f,h1,h2,h3,_,h4,h5,h6,h7⟩=>⟨z,k,c',f,h1,h3,h4,zmY h2 h5 h6 (h7.trans h.val),ziZ h2⟩)
theorem zsi {w r x n c d y m e g A B} (ha:Dn w x n d A) (hb:Dn w y m g B) (hn:n<=200000) (hm:m<=200000) :
  Calls prog 26 #[agg #[.bool r,slice x n c,slice y m e]] w λen w'=>∃z k c' f z2 k2 c2 f2,en=returned (agg #[.bool r,slice z k c',slice z2 k2 c2])/\Bl w w'/\k<=n/\k2<=m/\Wn w' false z k c' f (A:Int)/\Wn w' false z2 k2 c2 f2 (B:Int)/\Dw w' w.heap.size z k/\Dw w' w.heap.size z2 k2:=by
 have h1:=(ha.alloc (cells #[.bool r,slice x n c,slice y m e] 73)).alloc (cells #[.bool false,slice none 0 0,slice none 0 0] 24);have h2:=(hb.alloc (cells #[.bool r,slice x n c,slice y m e] 73)).alloc (cells #[.bool false,slice none 0 0,slice none 0 0] 24);have h3:=zaz (w.alloc (cells #[.bool r,slice x n c,slice y m e] 73)) 24;rw[zw]at h3
 have h4:=zu (zB w (cells #[.bool r,slice x n c,slice y m e] 73)) (cells #[.bool false,slice none 0 0,slice none 0 0] 24);have h5:=(zbr w (.bool r) (slice x n c) (slice y m e) 73).alloc (cells #[.bool false,slice none 0 0,slice none 0 0] 24);clear ha hb;go_enter func26,ntmps26;go_wp2_with fail
 generalize(w.alloc (cells #[.bool r,slice x n c,slice y m e] 73)).alloc (cells #[.bool false,slice none 0 0,slice none 0 0] 24)=w1 at *;have HA:=zk h1;have HB:=zk h2;have OB:=h3;have HW:=zk h4
 obtain⟨hz,z0,z1,z2,zf⟩:=h3;obtain⟨hy,x0,x1,x2⟩:=h5;clear h1 h2 h4;have C1:Hid (∀W,Bl w1 W->Calls prog 52 #[slice x n c] W λe w'=>∃z k c' f,e=returned (slice z k c')/\Bl W w'/\Hid (k<=n/\Wn w' false z k c' f (A:Int)/\Dw w' W.heap.size z k)):=λW hW=>zmn (HA.out.q_ hW) (by omega)
 have C2:Hid (∀W,Bl w1 W->Calls prog 52 #[slice y m e] W λe w'=>∃z k c' f,e=returned (slice z k c')/\Bl W w'/\Hid (k<=m/\Wn w' false z k c' f (B:Int)/\Dw w' W.heap.size z k)):=λW hW=>zmn (HB.out.q_ hW) (by omega)
 go_region_held3 (λw'=>w'.cell? ⟨w.heap.size,0,none⟩=some (.bool r)/\w'.cell? ⟨w.heap.size,1,none⟩=some (slice x n c)/\w'.cell? ⟨w.heap.size,2,none⟩=some (slice y m e)/\(w'.cell? ⟨w.heap.size+1,0,none⟩).isSome=true/\(w'.cell? ⟨w.heap.size+1,1,none⟩).isSome=true/\(w'.cell? ⟨w.heap.size+1,2,none⟩).isSome=true/\w'.frozen? ⟨w.heap.size+1,0,none⟩=false/\w'.frozen? ⟨w.heap.size+1,1,none⟩=false/\w'.frozen? ⟨w.heap.size+1,2,none⟩=false)
  (refine⟨?_,?_,?_,?_,?_,?_,?_,?_,?_⟩ <;> repeat(with_reducible first|assumption|exact zf _|exact kI0 z0|exact kI0 z1|exact kI0 z2|exact tf _|exact kI0 t0|exact kI0 t1|exact kI0 t2|exact uf _|exact kI0 u0|exact kI0 u1|exact kI0 u2|refine kCd ?_|refine kId ?_|refine kFd ?_|refine kCs (by simp only[ne_eq];omega) ?_|refine kIs ?_|refine kFs ?_|refine kCb (by assumption) ?_|refine kIb (by assumption) ?_))
  (first
   | (go_at_call 52;with_reducible refine(C1.out _ zai).mono ?_;rintro e w5 ⟨za,ka,ca,fa,rfl,hb5,HP⟩;have TU:Ob w5 (w.heap.size+1):=(by repeat(with_reducible first|exact OB|exact hO2|exact TU|exact TV|exact TW|exact TX|exact TY|refine Ob.drew ?_|refine kOb (by assumption) ?_));obtain⟨_,t0,t1,t2,tf⟩:=id TU)
   | (go_at_call 52;with_reducible refine(C2.out _ zai).mono ?_;rintro e w6 ⟨zb,kb,cb,fb,rfl,hb6,HQ⟩;have TV:Ob w6 (w.heap.size+1):=(by repeat(with_reducible first|exact OB|exact hO2|exact TU|exact TV|exact TW|exact TX|exact TY|refine Ob.drew ?_|refine kOb (by assumption) ?_));obtain⟨_,u0,u1,u2,uf⟩:=id TV))
 have WA:Wn w6 false za ka ca fa (A:Int):=HP.out.2.1.q_ hb6;have hb:Bl w1 w6:=zai;have SX:Sx w6 (w.heap.size+1) false none 0 0 none 0 0:=⟨TV.z,TV.z0,TV.z1,TV.z2,TV.zf⟩;have HD:Hid (Dw2 w6 w.heap.size ⟨r,za,ka,ca,fa,zb,kb,cb,fb⟩):=⟨HQ.out.2.2.base (bUp HW.out zai).size,(HP.out.2.2.q_ hb6).base (bUp HW.out zai).size⟩;go_wp2;exact bodyPost_ret (v:=agg #[.bool r,slice za ka ca,slice zb kb cb]) (by simp[results,results26,go_sem,u0,u1,u2]) rfl ⟨za,ka,ca,fa,zb,kb,cb,fb,rfl,zU (bUp HW.out hb) (by omega),HP.out.1,HQ.out.1,TV.wn WA,TV.wn HQ.out.2.1,(HD.out.st3 SX).2,(HD.out.st3 SX).1⟩
theorem zmP {w s x n c d y m e g q} (h:Qn w s x n d y m g q) (hn:n<=200000) (hm:m<=200000) :
  Calls prog 26 #[agg #[.bool s,slice x n c,slice y m e]] w λen w'=>zhu (n+m) w w' en q:=by
 refine(zsi h.num.dn h.den hn hm).mono ?_;rintro en w' ⟨z,k,c',f,z2,k2,c2,f2,rfl,h2,h3,h4,h5,h6,h7,h8⟩;refine⟨s,z,k,c',f,z2,k2,c2,f2,rfl,h2,⟨⟨h5.rd,h5.lm,(wfB_iff _ _ _).2 ⟨fm_of_wfB h5.wf,λhs=>?_⟩,h5.cap,h5.nil,?_⟩,h6,by omega,by omega⟩,h8,h7⟩
 ·have h0:=h.num.dn.pos' (h.num.pos hs);rcases Nat.eq_zero_or_pos k with hk|hk
  ·subst hk;have hv:=h5.val;rw[zae]at hv
   have:(0:Int)=q.num.natAbs:=hv;omega
  ·exact hk
 ·have hv:=h5.val;rw[zae]at hv
  have hs:=h.num.sgn;cases s
  ·rw[zae,hv];exact hs.symm
  ·rw[zam,hv];exact hs.symm
def zpX (K:Nat) (w w':World) (e:Ending) (k:Nat) (p:List Rat):Prop:=∃a c,e=returned (slice a k c)/\Bl w w'/\(k<=c/\c<=9223372036854775807)/\Hid (GrO K w.heap.size w' (slice a k c) p)
def zrO (w w':World) (e:Ending) (er:Int) (k:Nat) (zs:List Rat):Prop:=Bl w w' /\
 ((er≠0/\e=returned (.tuple #[slice none 0 0,.int .i64 er]))∨(er=0/\∃a c,e=returned (.tuple #[slice a k c,.int .i64 0])/\(k<=c/\c<=9223372036854775807)/\GrO (2*(2*KZ 8)) w.heap.size w' (slice a k c) zs))
theorem zrW {w K ao k cap p} (h:Rqs K w ao p) (hp:p.length=k) (hk:k<=10000) (hK:K<=200000) :
  Calls prog 41 #[slice ao k cap] w λe w'=>zpX (2*K) w w' e k p:=by
 have H:=zk h;clear h;have HPL:=zk hp;go_enter func41,ntmps41;go_wp2_with fail
 go_loopw[3,8] (λov t wr=>∃(i:Nat),i<=k/\t=.int .i64 i/\Hid (Bl w wr)/\Hid (GrO (2*K) w.heap.size wr ov (p.take i))) (λ_ t _=>k-(intOf t).toNat)
 case atStart=>exact⟨0,by omega,rfl,Below.refl _ _,zeQ _ _ _⟩
 case round =>
  obtain⟨i,hi,rfl,HB,HG⟩:=hrel;by_cases hlt:i<k
  ·obtain⟨q,hq⟩:∃q,p[i]?=some q:=⟨_,getElem?_eq_getElem (by omega)⟩;obtain⟨b,o,⟨s,x,n,c,f,y,m,d,g⟩,hao,hc,hn⟩:=(H.out.q_ HB.out) i q hq;subst hao;obtain⟨x0,x1,x2⟩:=hc;replace x0:wr.cell? ⟨b,o+i*3,none⟩=some (.bool s):=x0;replace x1:wr.cell? ⟨b,o+i*3+1,none⟩=some (slice x n c):=x1;replace x2:wr.cell? ⟨b,o+i*3+2,none⟩=some (slice y m d):=x2;have i1:((i:Nat):Int)<((k:Nat):Int):=by omega
   have HQ:=zk hq;have hb5:=zB wr (cells #[.bool s,slice x n c,slice y m d] 73);have HN:=zk (hn.q_ hb5);have HB5:=zJ HB hb5;have HG5:=zk (HG.out.q_ hb5)
   have hli:(p.take i).length=i:=by rw[List.length_take];omega
   have HLI:=zk hli;clear hn hb5 hq hli;go_wp2_with fail
   clear x0 x1 x2 HB HG;generalize wr.alloc (cells #[.bool s,slice x n c,slice y m d] 73)=w5 at *;refine(zmP HN.out.2.2 (le_trans HN.out.1 hK) (le_trans HN.out.2.1 hK)).mono ?_;rintro e w6 ⟨s,zp,np,cp,fp,zq,nq9,cq,fq,rfl,hb6,hr,hd⟩;have HD:=zk (hd.base HB5.out.size);have HB6:=zJ HB5 hb6;have HG6:=zk (HG5.out.q_ hb6)
   have HR:Hid (Rn (2*K) w6 s zp np cp fp zq nq9 cq fq q):=hr.mono (by have h1:n<=K:=HN.out.1;have h2:m<=K:=HN.out.2.1;show n+m<=2*K;omega);clear hb6 HB5 HG5 HN hr hd;have hsz:=HB6.out.size;obtain⟨T9,hrow,hT⟩:=HG6.out;rw[HLI.out]at hrow
   have HROW:=zk hrow;have HTT:=zk hT
   clear hrow hT HG6;go_wp2_with(at_builtin;go_must (refine zO w6 rfl (.tmp 12) (.tmp 15) 29 rfl w.heap.size 24 56 3 (agg #[.bool false,slice none 0 0,slice none 0 0]) underlying29 zaR rfl (by decide) nz3 u3 i (rcells (rls i T9)) rfl HROW.out #[.bool s,slice zp np cp,slice zq nq9 cq] rfl rfl (zdo _ _ _ _ _ _ _) (zcB _ _ _ _ _ _ _) ?p1 (by decide) hsz ?_))
   case p1=>omega
   intro g8 cap8 w8 hr8 hk8 hb8 hg8;have HB8:=zk (hb8 w HB6.out (le_refl _));have HG8:Hid (GrO (2*K) w.heap.size w8 (slice (some ⟨g8,0,none⟩) (i+1) cap8) (p.take (i+1))):=by
    have hp9:=zia (p:=p.take i) HTT.out (by rw[HLI.out];exact hr8) hk8 HR.out HD.out;rw[HLI.out]at hp9
    rw[List.take_add_one,HQ.out];exact hp9
   clear hr8 hk8 hb8 hg8 HB6 hsz HROW HTT HLI HQ HR HD;go_wp2;go_roundw
   case rel=>exact⟨i+1,by omega,by go_num,HB8.out,HG8.out⟩
   case measure=>simp[intOf];omega
  ·have e1:i=k:=by omega
   have i1:¬(((i:Nat):Int)<((k:Nat):Int)):=by omega
   obtain⟨va,vc,hvs,hvc⟩:=HG.out.slice;rw[List.take_of_length_le (by omega)]at hvs hvc
   rw[hp]at hvs hvc
   have HG4:=HG.out;rw[hvs]at HG4
   replace HG4:=zk (show GrO (2*K) w.heap.size wr (slice va k vc) p by have:=HG4;rw[List.take_of_length_le (by omega)]at this;exact this);subst hvs;have HV4:=zk hvc;clear HG e1 hvc;go_wp2;go_ret;exact⟨va,vc,rfl,HB.out,HV4.out,HG4⟩
theorem zhe {w M ao k cap X} (hI:In8 w M) (hx:Rl w ao k X) (hs:ShK 8 k X) :
  Calls prog 13 #[M.val,slice ao k cap] w λe w'=>zrO w w' e (zbB M k X) (zbi M).length (zaA (zbp M) (zbg k X) 0 (zbi M)):=by
 have CC:=zk (λW (hW:Bl w W)=>ziX (cap:=cap) (hI.q_ hW) (hx.q_ hW) hs);obtain⟨er,her⟩:∃e,zbB M k X=e:=⟨_,rfl⟩;have CX:=zk (λ(h0:er=0) W (hW:Bl w W)=>znD (cap:=cap) (hx.q_ hW) hs (zcI (her.trans h0)).2.1);have CM:=zk (λ(h0:er=0) W (hW:Bl w W)=>zpI (hI.q_ hW) (zcI (her.trans h0)).1);have CR:Hid (er=0->(zbi M).length<=64/\∀W (M':Mo) a c,MqV (2*8) W M' (nq M.off) (zbi M) (zbp M)->Rqs (2*8) W a (zbg k X)->Calls prog 42 #[M'.val,slice a k c] W λe w'=>zjF (2*KZ 8) W w' e (zbi M).length (zaA (zbp M) (zbg k X) 0 (zbi M))):=λh0=>by
  have h3:=zcI (her.trans h0);have hm:=(hI.val h3.1).2;exact⟨(zbj hm).cl,λW M' a c h1 h2=>zra (cap:=c) h1 h2 (zcy _ _) (by rw[zhH];exact h3.2.2) (zbj hm) (zng hm) (by decide)⟩
 rw[her];rw[her]at CC
 have HZL:=zaX (zbp M) (zbg k X) (zbi M) 0;obtain⟨zs,hzs⟩:∃e,zaA (zbp M) (zbg k X) 0 (zbi M)=e:=⟨_,rfl⟩;rw[hzs]at CR HZL ⊢
 obtain⟨xs,hxs⟩:∃e,zbg k X=e:=⟨_,rfl⟩;obtain⟨cs,hcs⟩:∃e,zbi M=e:=⟨_,rfl⟩;obtain⟨rs,hrs⟩:∃e,zbp M=e:=⟨_,rfl⟩;obtain⟨of,hof⟩:∃e,nq M.off=e:=⟨_,rfl⟩;rw[hcs]at HZL ⊢
 simp only[hcs,hrs,hof]at CM;simp only[hcs,hrs,hof,hxs]at CR;simp only[hxs]at CX;clear hI hx hs her hxs hcs hrs hof hzs;obtain⟨⟨s,x,n,c,f,y,m,d,g⟩,ca,ck,cc,C,ra,rk,rc,R⟩:=M;replace CC:Hid (∀W,Bl w W->Calls prog 40 #[agg #[.bool s,slice x n c,slice y m d,slice ca ck cc,slice ra rk rc],slice ao k cap] W λe w'=>e=returned (.int .i64 er)/\Bl W w'):=CC;replace CM:Hid (er=0->∀W,Bl w W->Calls prog 43 #[agg #[.bool s,slice x n c,slice y m d,slice ca ck cc,slice ra rk rc]] W λe w'=>∃M':Mo,e=returned M'.val/\Bl W w'/\Hid (MqV (2*8) w' M' of cs rs)):=CM;show Calls prog 13 #[agg #[.bool s,slice x n c,slice y m d,slice ca ck cc,slice ra rk rc],slice ao k cap] w _;have HB:=zk (zB w (cells #[.bool s,slice x n c,slice y m d,slice ca ck cc,slice ra rk rc] 28));have BM:=zk (zF w [.bool s,slice x n c,slice y m d,slice ca ck cc,slice ra rk rc] 28);have HZ:=zk HZL;clear HZL;go_enter func13,ntmps13;obtain⟨r0,r1,r2,r3,r4⟩:=bk5 BM.out;go_wp2_with fail
 clear r0 r1 r2 r3 r4;generalize(w.alloc (cells #[.bool s,slice x n c,slice y m d,slice ca ck cc,slice ra rk rc] 28))=v0 at *;refine(CC.out _ HB.out).mono ?_;rintro e v1 ⟨rfl,hb⟩;replace HB:=zJ HB hb;replace BM:=zk (BM.out.q_ hb)
 clear hb;clear CC;by_cases h0:er=0
 case neg =>
  have h1:(er != 0)=true:=by simpa using h0
  have HN:=zk h0;clear CX CM CR h0;go_wp2
  go_ret2
  exact⟨HB.out,.inl ⟨HN.out,rfl⟩⟩
 subst h0;replace CX:=zk (CX.out (by first|rfl|trivial));replace CM:=zk (CM.out (by first|rfl|trivial))
 obtain⟨hcl,hcr⟩:=CR.out (by first|rfl|trivial);replace CR:=zk hcr;clear hcr;obtain⟨r0,r1,r2,r3,r4⟩:=bk5 BM.out;go_wp2_with fail
 clear r0 r1 r2 r3 r4;refine(CM.out _ HB.out).mono ?_;rintro e w2 ⟨M1,rfl,hb,HM⟩;replace HB:=zJ HB hb;replace BM:=zk (BM.out.q_ hb)
 clear hb;clear CM;go_wp2_with fail
 refine(CX.out _ HB.out).mono ?_;rintro e w3 ⟨a3,c3,rfl,hb,H3⟩;replace HM:=zk (HM.out.q_ hb);replace HB:=zJ HB hb;replace BM:=zk (BM.out.q_ hb)
 clear hb;clear CX BM;go_wp2_with fail
 refine(CR.out _ M1 a3 c3 HM.out H3.out).mono ?_;rintro e w4 ⟨a4,c4,rfl,hb,_,H4⟩;replace HB:=zJ HB hb;clear hb CR HM H3;go_wp2_with fail
 refine(zrW H4.out HZ.out (le_trans hcl (by decide)) (by decide)).mono ?_;rintro e w5 ⟨a5,c5,rfl,hb,hc5,H5⟩;have HG5:=zk (H5.out.base HB.out.size);replace HB:=zJ HB hb;have HC5:=zk hc5;clear hb H4 HZ hc5;go_wp2
 go_ret2
 exact⟨HB.out,.inr ⟨rfl,a5,c5,rfl,HC5.out,HG5.out⟩⟩
def smB (a b:Mo):Bool:=sqB a.off b.off && (eqfB scB a.ck b.ck a.C b.C && eqfB srB a.rk b.rk a.R b.R)
theorem zie (f:Nat->Int):∀(r i:Nat),eqs f f r i=true
 | 0,_=>rfl
 | r+1,i=>by simp[eqs,zie f r (i+1)]
theorem Sn.sq {t t':Nm} (h:Sn t t'):sqB t' t=true:=by
 obtain⟨h1,h2,h3,h4,h5⟩:=h;unfold sqB eqlB;rw[h1,h2,h3,h4,h5];simp[zie]
theorem zhA {a b:Ex} (hi:b.i=a.i) (h:Sn a.v b.v):sxB b a=true:=by unfold sxB;rw[hi,h.sq];simp
theorem zif {α:Type} {e:α->α->Bool} {X Y:Nat->α}:∀{r i:Nat},(∀j,i<=j->j<i+r->e (X j) (Y j)=true)->eqf e X Y r i=true
 | 0,_,_=>rfl
 | r+1,i,h=>by simp only[eqf];rw[h i (by omega) (by omega),zif (λj a b=>h j (by omega) (by omega))];rfl
theorem zdY {α:Type} {e:α->α->Bool} {X Y:Nat->α} {n m:Nat} (hn:n=m) (h:∀j,j<m->e (X j) (Y j)=true):eqfB e n m X Y=true:=by
 subst hn;unfold eqfB;rw[zif (λj _ hj=>h j (by omega))];simp
theorem Sm.same {M M':Mo} (h:Sm M M'):smB M' M=true:=by
 have e1:eqfB scB M'.ck M.ck M'.C M.C=true:=zdY h.ck (λj hj=>by
  have p:=h.C j hj;unfold scB;rw[p.cost.sq,zhA p.li p.lo,zhA p.hi p.hv,p.nm];simp)
 have e2:eqfB srB M'.rk M.rk M'.R M.R=true:=zdY h.rk (λj hj=>by
  have p:=h.R j hj;unfold srB;rw[zhA p.li p.lo,zhA p.hi p.hv,p.nm,zdY p.tk (λq hq=>zhA (a:=tex (M.R j).col (M.R j).T q) (b:=tex (M'.R j).col (M'.R j).T q) (by show(M'.R j).col q=_;rw[p.col];rfl) (p.T q hq))];simp)
 unfold smB;rw[h.off.sq,e1,e2];rfl
theorem zlk {w ao bo k ca cb X Y} (ha:Rl w ao k X) (hb:Rl w bo k Y) (hs:∀j,j<k->Sn (Y j) (X j)) (hk2:k<=1048576) :
  Calls prog 15 #[slice ao k ca,slice bo k cb] w λe w'=>e=returned (.bool true)/\Bl w w':=by
 have HA:=zk ha;have HB:=zk hb;have HSn:=zk hs
 have hkk:(((k:Nat):Int) != ((k:Nat):Int))=false:=by simp
 clear ha hb hs;go_enter func15,ntmps15;go_wp2_with fail
 go_loopw[13] (λt wr=>∃(i:Nat),i<=k/\t=.int .i64 i/\Hid (Bl w wr)) (λt _=>k-(intOf t).toNat)
 case atStart=>exact⟨0,by omega,rfl,Below.refl _ _⟩
 case round =>
  obtain⟨i,hi,rfl,HW⟩:=hrel;by_cases hlt:i<k
  ·obtain⟨b,o,rfl,hc,hr⟩:=(HA.out.q_ HW.out) i hlt;obtain⟨b',o',rfl,hc',hr'⟩:=(HB.out.q_ HW.out) i hlt;have hsn:=HSn.out i hlt;generalize X i=t1 at hc hr hsn;generalize Y i=t2 at hc' hr' hsn;obtain⟨ts,tx,tn,tc,tf,ty,tm,td,tg⟩:=t1;obtain⟨ss,sx,sn,sc,sf,sy,sm,sd,sg⟩:=t2;obtain⟨x0,x1,x2⟩:=hc;obtain⟨p0,p1,p2⟩:=hc';replace x0:wr.cell? ⟨b,o+i*3,none⟩=some (.bool ts):=x0;replace x1:wr.cell? ⟨b,o+i*3+1,none⟩=some (slice tx tn tc):=x1;replace x2:wr.cell? ⟨b,o+i*3+2,none⟩=some (slice ty tm td):=x2;replace p0:wr.cell? ⟨b',o'+i*3,none⟩=some (.bool ss):=p0;replace p1:wr.cell? ⟨b',o'+i*3+1,none⟩=some (slice sx sn sc):=p1;replace p2:wr.cell? ⟨b',o'+i*3+2,none⟩=some (slice sy sm sd):=p2;have CS:Hid (∀W,Bl wr W->Calls prog 16 #[agg #[.bool ts,slice tx tn tc,slice ty tm td],agg #[.bool ss,slice sx sn sc,slice sy sm sd]] W λe w'=>e=returned (.bool true)/\Bl W w'):=λW hW =>
    (zpb (NmS.q_ hr hW) (NmS.q_ hr' hW)).mono λe w' h=>by rw[hsn.sq]at h;exact h
   have i2:((i:Nat):Int)<((k:Nat):Int):=by omega
   clear hr hr' hsn;go_upto_region 6 with fail
   go_region_held3 (λw'=>w'.cell? ⟨b,o+i*3,none⟩=some (.bool ts)/\w'.cell? ⟨b,o+i*3+1,none⟩=some (slice tx tn tc)/\w'.cell? ⟨b,o+i*3+2,none⟩=some (slice ty tm td)/\w'.cell? ⟨b',o'+i*3,none⟩=some (.bool ss)/\w'.cell? ⟨b',o'+i*3+1,none⟩=some (slice sx sn sc)/\w'.cell? ⟨b',o'+i*3+2,none⟩=some (slice sy sm sd))
    (refine⟨?_,?_,?_,?_,?_,?_⟩ <;> repeat(with_reducible first|assumption|refine kCd ?_|refine kCb (by assumption) ?_))
    ((go_at_call 16;with_reducible refine(CS.out _ (by repeat(with_reducible first|assumption|exact Below.refl _ _|refine zly ?_|refine Below.drew ?_))).mono ?_;rintro e w5 ⟨rfl,hb5⟩))
   all_goals
    (have HW5:Hid (Bl w w5):=zk (HW.out.trans (Below.mono (show Bl wr w5 by repeat(with_reducible first|assumption|exact Below.refl _ _|refine zly ?_|refine Below.drew ?_|refine kBb (by assumption) ?_)) HW.out.size))
     clear x0 x1 x2 p0 p1 p2 CS hb5;go_wp2;go_roundw
     case rel=>exact⟨i+1,by omega,by go_num,(by first|exact HW5.out|exact HW5.out.drew|exact zH HW5.out _)⟩
     case measure=>simp[intOf];omega)
  ·have i2:¬(((i:Nat):Int)<((k:Nat):Int)):=by omega
   go_wp2;go_ret;exact⟨rfl,HW.out⟩
structure Kw (ok:Nat->Prop) (w w':World):Prop where
 os:w'.os=w.os
 tape:w'.tape=w.tape
 output:w'.output=w.output
 size:w.heap.size<=w'.heap.size
 block:∀k,k<w.heap.size->¬ok k->w'.heap[k]?=w.heap[k]?
theorem Kw.refl (ok:Nat->Prop) (w:World):Kw ok w w:=⟨rfl,rfl,rfl,le_refl _,λ_ _ _=>rfl⟩
theorem Kw.set {ok:Nat->Prop} {a w:World} (h:Kw ok a w) {x:Addr} (hx:ok x.block) (u:Value):Kw ok a (w.setCell x u) :=
 ⟨h.os,h.tape,h.output,by simpa[World.setCell]using h.size,λk hk hn=>(Below.heap_setCell _ _ _ _ (λ(e:k=x.block)=>hn (by rw[e];exact hx))).trans (h.block k hk hn)⟩
theorem Kw.q_ {ok:Nat->Prop} {a w w':World} (h:Kw ok a w) (hb:Bl w w'):Kw ok a w' :=
 ⟨hb.os.trans h.os,hb.tape.trans h.tape,hb.output.trans h.output,le_trans h.size hb.size,λk hk hn=>(hb.block k (Nat.lt_of_lt_of_le hk h.size)).trans (h.block k hk hn)⟩
theorem Kw.blw {ok:Nat->Prop} {a w w':World} (h:Kw ok w w') (hb:Bl a w) (hn:∀k,k<a.heap.size->¬ok k):Bl a w' :=
 ⟨h.os.trans hb.os,h.tape.trans hb.tape,h.output.trans hb.output,le_trans hb.size h.size,λk hk=>(h.block k (Nat.lt_of_lt_of_le hk hb.size) (hn k hk)).trans (hb.block k hk)⟩
theorem RowG.den {e sz base w v n xs b q u} (h:RowG e sz base w v n xs) (hb:w.cell? ⟨b,0,none⟩=some (.int .u64 q)):RowG e sz base (w.setCell ⟨b,0,none⟩ u) v n xs:=h.of λg hg=>by
 have hne:g≠b:=by
  rintro rfl;rcases h.2 with⟨hv,_⟩|⟨g',cap,cur,hv,_,hc,_,_,_,_,hnu⟩
  ·rw[hv]at hg;cases hg
  ·rw[hv]at hg;cases hg
   simp[World.cell?,hc]at hb
   exact hnu _ _ hb
 exact Below.heap_setCell _ _ _ _ hne
theorem RowG.set {e sz base w n xs g cap o u} (h:RowG e sz base w (.slice (some ⟨g,0,none⟩) n cap) n xs) (hu:∀q,u≠.int .u64 q):∃xs',RowG e sz base (w.setCell ⟨g,o,none⟩ u) (.slice (some ⟨g,0,none⟩) n cap) n xs':=by
 obtain⟨h0,h1⟩:=h;rcases h1 with⟨hv,_⟩|⟨g',cap',cur,hv,hge,hcur,hn,hm,hs,ht,hnu⟩
 ·cases hv
 ·cases hv
  refine⟨(cur.setIfInBounds o u).toList.take (n*sz),?_,.inr ⟨g,cap,cur.setIfInBounds o u,rfl,hge,?_,hn,hm,by simpa using hs,rfl,λi q hq=>?_⟩⟩
  ·rw[List.length_take,Array.length_toList,Array.size_setIfInBounds,hs];exact Nat.min_eq_left (Nat.mul_le_mul_right _ hn)
  ·simp[World.setCell,Array.getElem?_modify,hcur]
  ·rw[Array.getElem?_setIfInBounds]at hq
   split at hq
   ·split at hq
    ·cases hq;exact hu q rfl
    ·cases hq
   ·exact hnu i q hq
structure Mk (ok:Nat->Prop) (base:Nat) (wG:World) (v:Value) (n:Nat) (w:World) (j:Nat):Prop where
 kq:Kw ok wG w
 row:∃xs,RowG 24 3 base w v n xs
 el:∀i,j<=i->i<n->∃g cap s x k c b m d q,v=slice (some ⟨g,0,none⟩) n cap/\ok g/\g<w.heap.size/\(∀o,w.frozen? ⟨g,o,none⟩=false)/\C3 w g (i*3) (.bool s) (slice x k c) (slice (some ⟨b,0,none⟩) m d)/\0<m/\ok b/\w.cell? ⟨b,0,none⟩=some (.int .u64 q)/\w.frozen? ⟨b,0,none⟩=false
theorem Mk.q_ {ok base wG v n w w' j} (h:Mk ok base wG v n w j) (hb:Bl w w'):Mk ok base wG v n w' j:=by
 obtain⟨_,hf⟩:=zaH hb;obtain⟨xs,hx⟩:=h.row;refine⟨h.kq.q_ hb,⟨xs,hx.q_ hb⟩,λi h1 h2=>?_⟩;obtain⟨g,cap,s,x,k,c,b,m,d,q,e1,e2,e3,e4,e5,e6,e7,e8,e9⟩:=h.el i h1 h2;exact⟨g,cap,s,x,k,c,b,m,d,q,e1,e2,Nat.lt_of_lt_of_le e3 hb.size,λo=>(hf _ _ e3).trans (e4 o),e5.q_ hb,e6,e7,kCb hb e8,(hf _ _ (block_lt_of_cell? w _ e8)).trans e9⟩
theorem zcl {w:World} {p a:Addr} {u v z:Value} (hp:w.cell? p=some u) (ha:w.cell? a=some v) (hne:u≠v):(w.setCell p z).cell? a=some v:=by
 have hpa:p≠a:=λe=>hne (Option.some.inj (by rw[<-hp,<-ha,e]))
 exact(World.cell?_setCell_other w p a z hpa).trans ha
theorem Mk.den {ok base wG v n w j b q} (h:Mk ok base wG v n w j) (hb:w.cell? ⟨b,0,none⟩=some (.int .u64 q)) (hok:ok b) (z:Int):Mk ok base wG v n (w.setCell ⟨b,0,none⟩ (.int .u64 z)) j:=by
 obtain⟨xs,hx⟩:=h.row;refine⟨h.kq.set hok _,⟨xs,hx.den hb⟩,λi h1 h2=>?_⟩;obtain⟨g,cap,s,x,k,c,b',m,d,q',e1,e2,e3,e4,⟨x0,x1,x2⟩,e6,e7,e8,e9⟩:=h.el i h1 h2;have hc:C3 (w.setCell ⟨b,0,none⟩ (.int .u64 z)) g (i*3) (.bool s) (slice x k c) (slice (some ⟨b',0,none⟩) m d):=⟨zcl hb x0 (λh=>by cases h),zcl hb x1 (λh=>by cases h),zcl hb x2 (λh=>by cases h)⟩;by_cases e:b'=b
 ·subst e;exact⟨g,cap,s,x,k,c,b',m,d,z,e1,e2,by simpa[World.setCell]using e3,λo=>kFs (e4 o),hc,e6,e7,kCe (kI0 e8),kFs e9⟩
 ·exact⟨g,cap,s,x,k,c,b',m,d,q',e1,e2,by simpa[World.setCell]using e3,λo=>kFs (e4 o),hc,e6,e7,kCs (λh=>e h.symm) e8,kFs e9⟩
theorem Mk.set {ok base wG n w j g cap o u z} (h:Mk ok base wG (slice (some ⟨g,0,none⟩) n cap) n w j) (hc:w.cell? ⟨g,o,none⟩=some z) (hz:∀q,z≠.int .u64 q) (hu:∀q,u≠.int .u64 q) (ho:o<j*3) (hok:ok g):Mk ok base wG (slice (some ⟨g,0,none⟩) n cap) n (w.setCell ⟨g,o,none⟩ u) j:=by
 obtain⟨xs,hx⟩:=h.row;refine⟨h.kq.set hok _,hx.set hu,λi h1 h2=>?_⟩;obtain⟨g',cap',s,x,k,c,b',m,d,q',e1,e2,e3,e4,⟨x0,x1,x2⟩,e6,e7,e8,e9⟩:=h.el i h1 h2;cases e1
 have hk:∀t u',w.cell? ⟨g,i*3+t,none⟩=some u'->(w.setCell ⟨g,o,none⟩ u).cell? ⟨g,i*3+t,none⟩=some u':=λt u' hu=>kCo (by have:j*3<=i*3:=Nat.mul_le_mul_right 3 h1;omega) hu
 exact⟨g,cap,s,x,k,c,b',m,d,q',rfl,e2,by simpa[World.setCell]using e3,λo=>kFs (e4 o),⟨hk 0 _ x0,hk 1 _ x1,hk 2 _ x2⟩,e6,e7,zcl hc e8 (hz _),kFs e9⟩
theorem Mk.up {ok base wG v n w j j'} (h:Mk ok base wG v n w j) (hj:j<=j'):Mk ok base wG v n w j':=⟨h.kq,h.row,λi h1 h2=>h.el i (le_trans hj h1) h2⟩
theorem GrO.mk {ok:Nat->Prop} {K base w v p w'} (h:GrO K base w v p) (hb:Bl w w') (hok:∀b,base<=b->b<w.heap.size->ok b):Mk ok base w' v p.length w' 0:=by
 have h0:Mk ok base w v p.length w 0:=by
  obtain⟨T,h1,h2⟩:=h;refine⟨Kw.refl _ _,⟨_,h1⟩,λi _ hi=>?_⟩;rcases h1.2 with⟨_,hn⟩|⟨g,cap,cur,hv,hge,hcur,hn,hm,hs,ht,hnu⟩
  ·omega
  ·subst hv;obtain⟨b,hb,hc⟩:=zcf h1 hi;cases hb
   have hl:g<w.heap.size:=(Array.getElem?_eq_some_iff.1 hcur).1;obtain⟨q,hq⟩:∃q,p[i]?=some q:=⟨_,getElem?_eq_getElem hi⟩;obtain⟨h3,h4⟩:=h2 i q hq;obtain⟨b,h5,h6,⟨z,h7⟩,h8⟩:=h4.1 (h3.den.pos (by have:=q.den_pos;omega));rw[Nat.zero_add,h5]at hc
   exact⟨g,cap,_,_,_,_,b,_,_,z,rfl,hok g hge hl,hl,λo=>by simp[World.frozen?,hcur],hc,h3.den.pos (by have:=q.den_pos;omega),hok b h6 (block_lt_of_cell? w _ h7),h7,h8⟩
 have h1:=h0.q_ hb;exact⟨Kw.refl _ _,h1.row,h1.el⟩
theorem zik {w z} (h0:-9223372036854775808<=z) (h1:z<=9223372036854775807) :
  Calls prog 9 #[.int .i64 z] w λe w'=>zhu 4 w w' e (z:Rat):=by
 have h2:=zaz w 24;have h3:=zB w (cells #[.bool false,slice none 0 0,slice none 0 0] 24);go_enter func9,ntmps9;go_wp2_with fail
 generalize w.alloc (cells #[.bool false,slice none 0 0,slice none 0 0] 24)=w1 at *;have OB:=zk h2;have HW:=zk h3
 clear h2 h3;refine(zfg h0 h1).mono ?_;rintro e w2 ⟨s2,x2,n2,c2,d2,y2,m2,e2,g2,rfl,hb,hl1,hl2,hq⟩;have HB2:=zk hb;have HQ:=zk hq
 clear hb hq;go_wp2_with fail
 refine(zmP HQ.out (by omega) (by omega)).mono ?_;rintro e w3 ⟨s3,z3,k3,c3,f3,y3,m3,e3,g3,rfl,hb,hr3,hd3⟩;have R3:=zk hr3;have D3:=zk (hd3.base (bUp HW.out HB2.out).size)
 clear hr3 hd3;have HB3:=zJ HB2 hb;clear hb;obtain⟨hz,z0,z1,z2,zf⟩:=OB.out.q_ HB3.out;go_wp2;exact bodyPost_ret (v:=agg #[.bool s3,slice z3 k3 c3,slice y3 m3 e3]) (by simp[results,results9,go_sem,z0,z1,z2]) rfl ⟨s3,z3,k3,c3,f3,y3,m3,e3,g3,rfl,zU (bUp HW.out HB3.out) (by omega),(OB.out.q_ HB3.out).rn (R3.out.mono (by omega)),D3.out.st3 ⟨hz,z0,z1,z2,zf⟩⟩
theorem ziN {K w ao k cap X} (h:Rl w ao k X) (hs:ShK K k X) (hK:K<=100):Calls prog 8 #[slice ao k cap] w λe w'=>∃(a:Option Addr) (c:Nat) (X':Nat->Nm),e=returned (slice a k c)/\Bl w w'/\Hid (Tx w' a k X X'/\RowG 24 3 w.heap.size w' (slice a k c) k (rcells (rls k X'))) :=
 (zoI h (by have:=hs.1;omega) (λj hj=>by have:=hs.2 j hj;omega)).mono λe w' ⟨a,c,X',h1,h2,_,h4⟩=>⟨a,c,X',h1,h2,zk ⟨h4.out.1,h4.out.2⟩⟩
theorem Tx.put {w w' e base a k X X' g cap s x n c y m d} (h:Tx w a k X X') (hr:RowG e 3 base w' (slice (some ⟨g,0,none⟩) (k+1) cap) (k+1) (rcells (rls k X')++#[Value.bool s,slice x n c,slice y m d].toList)) (hk:Kp w w'):Tx w' (some ⟨g,0,none⟩) k X X':=by
 refine⟨λj hj=>?_,h.2⟩;obtain⟨_,_,_,_,h1,h2⟩:=h.1 j hj;have hr2:RowG e 3 base w' (slice (some ⟨g,0,none⟩) (k+1) cap) (k+1) (rcells (rls (k+1) (zaD X' k ⟨s,x,n,c,λ_=>0,y,m,d,λ_=>0⟩))):=by rw[zcM];exact hr
 obtain⟨b,e1,hc⟩:=zcf hr2 (show j<k+1 by omega);rw[putN_ne (by omega)]at hc
 cases e1
 exact⟨g,0,rfl,hc,h1.kp hk,h2⟩
theorem zeG {w a b} (ha:NmB w a) (hb:NmB w b):Calls prog 16 #[a.val,b.val] w λr w'=>r=returned (.bool (sqB a b))/\Bl w w' :=
 (zeF a.s a.x a.y a.n a.c a.m a.d a.f a.g b.s b.x b.y b.n b.c b.m b.d b.f b.g w ha.1.rx ha.1.ry hb.1.rx hb.1.ry (le_trans ha.2.1 (by decide)) (le_trans ha.2.2 (by decide)) (le_trans hb.2.1 (by decide)) (le_trans hb.2.2 (by decide))).mono
  λe w' ⟨q,h1,h2,h3⟩=>⟨by rw[h1,Bool.eq_iff_iff.2 (h3.trans sq_iff.symm)],h2⟩
theorem zet {w a b} (ha:NmB w a.v) (hb:NmB w b.v):Calls prog 20 #[a.val,b.val] w λr w'=>r=returned (.bool (sxB a b))/\Bl w w':=by
 have CS:=zk (λw' (hw:Bl w w')=>zeG (w:=w') (ha.q_ hw) (hb.q_ hw));obtain⟨q,hq⟩:∃q,sqB a.v b.v=q:=⟨_,rfl⟩;rw[hq]at CS
 obtain⟨an,han⟩:∃t,sxB a b=t:=⟨_,rfl⟩;rw[han];have HA:=zk (show an=(decide (a.i=b.i) && q)from by rw[<-han,sxB,hq]);clear ha hb hq han;obtain⟨i1,⟨s1,x1,n1,c1,f1,y1,m1,d1,g1⟩⟩:=a;obtain⟨i2,⟨s2,x2,n2,c2,f2,y2,m2,d2,g2⟩⟩:=b;replace CS:Hid (∀w' (hw:Bl w w'),Calls prog 16 #[agg #[.bool s1,slice x1 n1 c1,slice y1 m1 d1],agg #[.bool s2,slice x2 n2 c2,slice y2 m2 d2]] w' λr w2=>r=returned (.bool q)/\Bl w' w2):=CS;replace HA:Hid (an=(decide (i1=i2) && q)):=HA;show Calls prog 20 #[agg #[.int .i64 i1,.bool s1,slice x1 n1 c1,slice y1 m1 d1],agg #[.int .i64 i2,.bool s2,slice x2 n2 c2,slice y2 m2 d2]] w _;have h1:=(zaT w (.int .i64 i1) (.bool s1) (slice x1 n1 c1) (slice y1 m1 d1) 40).alloc (cells #[.int .i64 i2,.bool s2,slice x2 n2 c2,slice y2 m2 d2] 40);have h2:=zaT (w.alloc (cells #[.int .i64 i1,.bool s1,slice x1 n1 c1,slice y1 m1 d1] 40)) (.int .i64 i2) (.bool s2) (slice x2 n2 c2) (slice y2 m2 d2) 40;rw[zw]at h2
 have h3:=zu (zB w (cells #[.int .i64 i1,.bool s1,slice x1 n1 c1,slice y1 m1 d1] 40)) (cells #[.int .i64 i2,.bool s2,slice x2 n2 c2,slice y2 m2 d2] 40);go_enter func20,ntmps20;go_upto_region 1 with fail
 generalize(w.alloc (cells #[.int .i64 i1,.bool s1,slice x1 n1 c1,slice y1 m1 d1] 40)).alloc (cells #[.int .i64 i2,.bool s2,slice x2 n2 c2,slice y2 m2 d2] 40)=w1 at *;have HW:=zk h3;obtain⟨za,a0,a1,a2,a3⟩:=h1;obtain⟨zb,b0,b1,b2,b3⟩:=h2;clear h3;by_cases hi:i1=i2
 ·subst hi;have hii:(i1==i1)=true:=by simp
  go_wp2_with fail
  refine(CS.out _ HW.out).mono ?_;rintro e w2 ⟨rfl,hb⟩;have HB:=zJ HW hb;clear hb;go_wp2;go_ret;exact⟨by rw[HA.out];simp,HB.out⟩
 ·have hii:(i1==i2)=false:=by simpa using hi
  have HF:=zk (show an=false from by rw[HA.out];simp[hi]);go_wp2;go_ret;exact⟨by rw[HF.out];rfl,HW.out⟩
theorem zoF {w ao bo k m ca cb col col' T T'} (ha:Tr w ao k col T) (la:∀p,p<k->(T p).n<=17592186044416/\(T p).m<=17592186044416) (hb:Tr w bo m col' T') (lb:∀p,p<m->(T' p).n<=17592186044416/\(T' p).m<=17592186044416) (hk:k<=2199023255552) (hm:m<=2199023255552) :
  Calls prog 45 #[slice ao k ca,slice bo m cb] w λe w'=>e=returned (.bool (eqfB sxB k m (tex col T) (tex col' T')))/\Bl w w':=by
 have HA:=zk ha;have HB:=zk hb;have LA:=zk la;have LB:=zk lb
 clear ha hb la lb;obtain⟨an,han⟩:∃t,eqfB sxB k m (tex col T) (tex col' T')=t:=⟨_,rfl⟩;rw[han];by_cases hnm:k=m
 case neg =>
  have HE:=zk (show an=false from by rw[<-han,eqfB];simp[hnm]);have e1:((k:Int) != (m:Int))=true:=by simp;omega
  clear hnm han;go_enter func45,ntmps45;go_wp2;go_ret;refine⟨?_,Below.refl _ _⟩;rw[HE.out];rfl
 subst hnm;have HAN:=zk (show an=eqf sxB (tex col T) (tex col' T') k 0 from by rw[<-han,eqfB];simp);have hkk:(((k:Nat):Int) != ((k:Nat):Int))=false:=by simp
 clear han;go_enter func45,ntmps45;go_wp2_with fail
 go_loopw[13] (λt wr=>∃(i:Nat),i<=k/\t=.int .i64 i/\Hid (Bl w wr)/\Hid (an=eqf sxB (tex col T) (tex col' T') (k-i) i)) (λt _=>k-(intOf t).toNat)
 case atStart=>exact⟨0,by omega,rfl,Below.refl _ _,HAN.out⟩
 case round =>
  obtain⟨i,hi,rfl,HW,HI⟩:=hrel;by_cases hlt:i<k
  ·obtain⟨b,o,rfl,⟨x0,x1,x2,x3⟩,hr⟩:=(HA.out.q_ HW.out) i hlt;obtain⟨b',o',rfl,⟨p0,p1,p2,p3⟩,hr'⟩:=(HB.out.q_ HW.out) i hlt;obtain⟨r,hrr⟩:∃r,k-i=r+1:=⟨k-i-1,by omega⟩;have hT:an=(sxB (tex col T i) (tex col' T' i) && eqf sxB (tex col T) (tex col' T') r (i+1)):=by rw[HI.out,hrr];rfl
   have hr2:k-(i+1)=r:=by omega
   obtain⟨q,hq⟩:∃q,sqB (T i) (T' i)=q:=⟨_,rfl⟩;have CS:=zk (λW (hW:Bl wr W)=>zeG (w:=W) (a:=T i) (b:=T' i) ⟨Rw.q_ hr hW,LA.out i hlt⟩ ⟨Rw.q_ hr' hW,LB.out i hlt⟩);rw[hq]at CS
   have hT2:an=((decide (col i=col' i) && q) && eqf sxB (tex col T) (tex col' T') r (i+1)):=by rw[hT];unfold sxB;show((decide (col i=col' i) && sqB (T i) (T' i)) && _)=_;rw[hq]
   obtain⟨a,hca⟩:∃z,col i=z:=⟨_,rfl⟩;obtain⟨a',hcb⟩:∃z,col' i=z:=⟨_,rfl⟩;rw[hca,hcb]at hT2
   rw[hca]at x0
   rw[hcb]at p0
   obtain⟨⟨ts,tx,tn,tc,tf,ty,tm,td,tg⟩,hTi⟩:∃t,T i=t:=⟨_,rfl⟩;obtain⟨⟨ss,sx,sn,sc,sf,sy,sm,sd,sg⟩,hTi'⟩:∃t,T' i=t:=⟨_,rfl⟩;rw[hTi]at x1 x2 x3 CS
   rw[hTi']at p1 p2 p3 CS
   replace x0:wr.cell? ⟨b,o+i*4,none⟩=some (.int .i64 a):=x0;replace x1:wr.cell? ⟨b,o+i*4+1,none⟩=some (.bool ts):=x1;replace x2:wr.cell? ⟨b,o+i*4+2,none⟩=some (slice tx tn tc):=x2;replace x3:wr.cell? ⟨b,o+i*4+3,none⟩=some (slice ty tm td):=x3;replace p0:wr.cell? ⟨b',o'+i*4,none⟩=some (.int .i64 a'):=p0;replace p1:wr.cell? ⟨b',o'+i*4+1,none⟩=some (.bool ss):=p1;replace p2:wr.cell? ⟨b',o'+i*4+2,none⟩=some (slice sx sn sc):=p2;replace p3:wr.cell? ⟨b',o'+i*4+3,none⟩=some (slice sy sm sd):=p3;replace CS:Hid (∀W,Bl wr W->Calls prog 16 #[agg #[.bool ts,slice tx tn tc,slice ty tm td],agg #[.bool ss,slice sx sn sc,slice sy sm sd]] W λe w'=>e=returned (.bool q)/\Bl W w'):=CS;have i2:((i:Nat):Int)<((k:Nat):Int):=by omega
   have HR:=zk hr2;clear hr hr' hT hr2 hrr hq hca hcb hTi hTi' HI;go_upto_region 6 with fail
   by_cases haa:a=a'
   ·subst haa;have hne:(a != a)=false:=by simp
    have HT:=zk (show an=(q && eqf sxB (tex col T) (tex col' T') r (i+1))from by rw[hT2];simp);clear hT2;go_region_held3 (λw'=>w'.cell? ⟨b,o+i*4,none⟩=some (.int .i64 a)/\w'.cell? ⟨b,o+i*4+1,none⟩=some (.bool ts)/\w'.cell? ⟨b,o+i*4+2,none⟩=some (slice tx tn tc)/\w'.cell? ⟨b,o+i*4+3,none⟩=some (slice ty tm td)/\w'.cell? ⟨b',o'+i*4,none⟩=some (.int .i64 a)/\w'.cell? ⟨b',o'+i*4+1,none⟩=some (.bool ss)/\w'.cell? ⟨b',o'+i*4+2,none⟩=some (slice sx sn sc)/\w'.cell? ⟨b',o'+i*4+3,none⟩=some (slice sy sm sd))
     (refine⟨?_,?_,?_,?_,?_,?_,?_,?_⟩ <;> repeat(with_reducible first|assumption|refine kCd ?_|refine kCb (by assumption) ?_))
     ((go_at_call 16;with_reducible refine(CS.out _ (by repeat(with_reducible first|assumption|exact Below.refl _ _|refine zly ?_|refine Below.drew ?_))).mono ?_;rintro e w5 ⟨rfl,hb5⟩))
    all_goals
     (have HW5:Hid (Bl w w5):=zk (HW.out.trans (Below.mono (show Bl wr w5 by repeat(with_reducible first|assumption|exact Below.refl _ _|refine zly ?_|refine Below.drew ?_|refine kBb (by assumption) ?_)) HW.out.size))
      clear x0 x1 x2 x3 p0 p1 p2 p3 CS hb5;cases q
      ·go_wp2;go_ret;exact⟨by rw[HT.out];rfl,by first|exact HW5.out|exact HW5.out.drew|exact zH HW5.out _⟩
      ·go_wp2;go_roundw
       case rel=>exact⟨i+1,by omega,by go_num,(by first|exact HW5.out|exact HW5.out.drew|exact zH HW5.out _),by show _=_;rw[HT.out,HR.out];rfl⟩
       case measure=>simp[intOf];omega)
   ·have hne:(a != a')=true:=by simpa using haa
    have HF:=zk (show an=false from by rw[hT2];simp[haa]);clear hT2;refine wp_region_held_drew (S:=(λw'=>w'.cell? ⟨b,o+i*4,none⟩=some (.int .i64 a)/\w'.cell? ⟨b',o'+i*4,none⟩=some (.int .i64 a'))) (by kernel_rfl) ?_ (λhHeld=>?_)
    ·(refine⟨?_,?_⟩ <;> repeat(with_reducible first|assumption|refine kCd ?_))
    generalize hwd:wr.drew=wd at *;refine zK 0 ?_;refine zK 1 ?_;refine zK 2 ?_;refine zK 3 ?_;simp only[zA,Act.put];refine zK 4 ?_;refine zK 5 ?_;refine zK 6 ?_;refine zK 7 ?_;simp only[zA,Act.put];refine zK 8 ?_;refine zK 9 ?_;refine zK 10 ?_;refine zK 11 ?_;simp only[zA,Act.put];refine skO 12 ?_;refine skO 13 ?_;refine skO 14 ?_;refine skO 15 ?_;simp only[zA,Act.put];refine skO 16 ?_;refine skO 17 ?_;refine skO 18 ?_;refine skO 19 ?_;simp only[zA,Act.put];refine skO 20 ?_;refine skO 21 ?_;refine skO 22 ?_;refine skO 23 ?_;simp only[zA,Act.put];refine zK 24 ?_;simp only[zA,Act.put];refine dnO ?_;subst hwd;go_wp2;go_ret;exact⟨by rw[HF.out];rfl,HW.out.drew⟩
  ·have e1:i=k:=by omega
   have i2:¬(((i:Nat):Int)<((k:Nat):Int)):=by omega
   have HE:=zk (show an=true from by rw[HI.out,e1,sub_self];rfl);clear e1 HI;go_wp2;go_ret;exact⟨by rw[HE.out];rfl,HW.out⟩
theorem zpq {w:World} {a b:Mo} (ha:MoX w a) (hb:MoX w b):Calls prog 14 #[a.val,b.val] w λr w'=>r=returned (.bool (smB a b))/\Bl w w':=by
 have CO:=zk (λw' (hw:Bl w w')=>zeG (w:=w') (ha.off.q_ hw) (hb.off.q_ hw));obtain⟨tO,hto⟩:∃t,sqB a.off b.off=t:=⟨_,rfl⟩;rw[hto]at CO
 obtain⟨an,han⟩:∃t,smB a b=t:=⟨_,rfl⟩;rw[han];have HA:=zk (show an=(tO && (eqfB scB a.ck b.ck a.C b.C && eqfB srB a.rk b.rk a.R b.R))from by rw[<-han,smB,hto]);obtain⟨_,hC,hR,hck,hrk⟩:=ha;obtain⟨_,hC',hR',hck',hrk'⟩:=hb;clear han hto;obtain⟨⟨s,x,n,c,f,y,m,d,g⟩,ca,ck,cc,C,ra,rk,rc,R⟩:=a;obtain⟨⟨vs,vx,vn,vc,vf,vy,vm,vd,vg⟩,vca,vck,vcc,vC,vra,vrk,vrc,vR⟩:=b;replace hck:ck<=703687441776:=hck;replace hrk:rk<=837723144971:=hrk;replace hck':vck<=703687441776:=hck';replace hrk':vrk<=837723144971:=hrk';have HC:Hid (Cl9 w ca ck C):=hC;have HR:Hid (Rl9 w ra rk R):=hR;have HC':Hid (Cl9 w vca vck vC):=hC';have HR':Hid (Rl9 w vra vrk vR):=hR';replace HA:Hid (an=(tO && (eqfB scB ck vck C vC && eqfB srB rk vrk R vR))):=HA;replace CO:Hid (∀w' (hw:Bl w w'),Calls prog 16 #[agg #[.bool s,slice x n c,slice y m d],agg #[.bool vs,slice vx vn vc,slice vy vm vd]] w' λr w2=>r=returned (.bool tO)/\Bl w' w2):=CO;clear hC hR hC' hR';show Calls prog 14 #[agg #[.bool s,slice x n c,slice y m d,slice ca ck cc,slice ra rk rc],agg #[.bool vs,slice vx vn vc,slice vy vm vd,slice vca vck vcc,slice vra vrk vrc]] w _;have h3:=zu (zu (Below.refl w.heap.size w) (cells #[.bool s,slice x n c,slice y m d,slice ca ck cc,slice ra rk rc] 28)) (cells #[.bool vs,slice vx vn vc,slice vy vm vd,slice vca vck vcc,slice vra vrk vrc] 28);have B1:=(zF w [.bool s,slice x n c,slice y m d,slice ca ck cc,slice ra rk rc] 28).q_ (zu (Below.refl _ _) (cells #[.bool vs,slice vx vn vc,slice vy vm vd,slice vca vck vcc,slice vra vrk vrc] 28));have B2:=zF (w.alloc (cells #[.bool s,slice x n c,slice y m d,slice ca ck cc,slice ra rk rc] 28)) [.bool vs,slice vx vn vc,slice vy vm vd,slice vca vck vcc,slice vra vrk vrc] 28;rw[zw]at B2
 replace B1:Bk ((w.alloc (cells #[.bool s,slice x n c,slice y m d,slice ca ck cc,slice ra rk rc] 28)).alloc (cells #[.bool vs,slice vx vn vc,slice vy vm vd,slice vca vck vcc,slice vra vrk vrc] 28)) w.heap.size [.bool s,slice x n c,slice y m d,slice ca ck cc,slice ra rk rc] 28:=B1;replace B2:Bk ((w.alloc (cells #[.bool s,slice x n c,slice y m d,slice ca ck cc,slice ra rk rc] 28)).alloc (cells #[.bool vs,slice vx vn vc,slice vy vm vd,slice vca vck vcc,slice vra vrk vrc] 28)) (w.heap.size+1) [.bool vs,slice vx vn vc,slice vy vm vd,slice vca vck vcc,slice vra vrk vrc] 28:=B2;go_enter func14,ntmps14;go_upto_region 1 with fail
 generalize(w.alloc (cells #[.bool s,slice x n c,slice y m d,slice ca ck cc,slice ra rk rc] 28)).alloc (cells #[.bool vs,slice vx vn vc,slice vy vm vd,slice vca vck vcc,slice vra vrk vrc] 28)=w1 at *;obtain⟨r0,r1,r2,r3,r4⟩:=bk5 B1;obtain⟨q0,q1,q2,q3,q4⟩:=bk5 B2;go_wp2_with fail
 refine(CO.out _ h3).mono ?_;rintro e w2 ⟨rfl,hb2⟩;have HW:=zk (h3.trans (hb2.mono h3.size));replace B1:=B1.q_ hb2;replace B2:=B2.q_ hb2
 clear hb2 h3 CO r0 r1 r2 r3 r4 q0 q1 q2 q3 q4;cases tO
 ·have HF:=zk (show an=false from by rw[HA.out];rfl);clear HA;go_wp2;go_ret;exact⟨by rw[HF.out];rfl,HW.out⟩
 obtain⟨r0,r1,r2,r3,r4⟩:=bk5 B1;obtain⟨q0,q1,q2,q3,q4⟩:=bk5 B2;by_cases h1:ck=vck
 case neg =>
  have HF:=zk (show an=false from by rw[HA.out,eqfB];simp[h1]);have e1:((ck:Int) != (vck:Int))=true:=by simp;omega
  clear HA;go_wp2;go_ret;exact⟨by rw[HF.out];rfl,HW.out⟩
 subst h1;have e1:((ck:Int) != (ck:Int))=false:=by simp
 by_cases h2:rk=vrk
 case neg =>
  have HF:=zk (show an=false from by rw[HA.out];simp[eqfB,h2]);have e2:((rk:Int) != (vrk:Int))=true:=by simp;omega
  clear HA;go_wp2;go_ret;exact⟨by rw[HF.out];rfl,HW.out⟩
 subst h2;have e2:((rk:Int) != (rk:Int))=false:=by simp
 replace HA:=zk (show an=(eqf scB C vC ck 0 && eqf srB R vR rk 0)from by rw[HA.out];simp[eqfB]);go_wp2_with fail
 go_loopw[38] (λt wr=>∃(i:Nat),i<=ck/\t=.int .i64 i/\Hid (Bl w2 wr)/\Hid (an=(eqf scB C vC (ck-i) i && eqf srB R vR rk 0))) (λt _=>ck-(intOf t).toNat)
 case atStart=>exact⟨0,by omega,rfl,Below.refl _ _,HA.out⟩
 case round =>
  obtain⟨i,hi,rfl,HB,HI⟩:=hrel;clear HA r0 r1 r2 r3 r4 q0 q1 q2 q3 q4;by_cases hlt:i<ck
  ·obtain⟨b,o,rfl,hc,hn⟩:=(HC.out.q_ (HW.out.trans (HB.out.mono HW.out.size))) i hlt;obtain⟨b',o',rfl,hc',hn'⟩:=(HC'.out.q_ (HW.out.trans (HB.out.mono HW.out.size))) i hlt;obtain⟨r,hr⟩:∃r,ck-i=r+1:=⟨ck-i-1,by omega⟩;have hr2:ck-(i+1)=r:=by omega
   obtain⟨t0,ht0⟩:∃t,sqB (C i).cost (vC i).cost=t:=⟨_,rfl⟩;have C0:=zk (λW (hW:Bl wr W)=>zeG (w:=W) (hn.cost.q_ hW) (hn'.cost.q_ hW));rw[ht0]at C0
   obtain⟨t1,ht1⟩:∃t,sxB (C i).lo (vC i).lo=t:=⟨_,rfl⟩;have C1:=zk (λW (hW:Bl wr W)=>zet (w:=W) (hn.lo.q_ hW) (hn'.lo.q_ hW));rw[ht1]at C1
   obtain⟨t2,ht2⟩:∃t,sxB (C i).hi (vC i).hi=t:=⟨_,rfl⟩;have C2:=zk (λW (hW:Bl wr W)=>zet (w:=W) (hn.hi.q_ hW) (hn'.hi.q_ hW));rw[ht2]at C2
   have hT:an=((decide ((C i).nm=(vC i).nm) && (t0 && (t1 && t2))) && eqf scB C vC r (i+1) && eqf srB R vR rk 0):=by
    rw[HI.out,hr,<-ht0,<-ht1,<-ht2];rfl
   obtain⟨⟨z,⟨s0,x0,n0,c0,f0,y0,m0,d0,g0⟩,⟨i1,⟨s1,x1,n1,c1,f1,y1,m1,d1,g1⟩⟩,⟨i2,⟨s2,x2,n2,c2,f2,y2,m2,d2,g2⟩⟩⟩,hCi⟩:∃t,C i=t:=⟨_,rfl⟩;obtain⟨⟨vz,⟨vs0,vx0,vn0,vc0,vf0,vy0,vm0,vd0,vg0⟩,⟨vi1,⟨vs1,vx1,vn1,vc1,vf1,vy1,vm1,vd1,vg1⟩⟩,⟨vi2,⟨vs2,vx2,vn2,vc2,vf2,vy2,vm2,vd2,vg2⟩⟩⟩,hCi'⟩:∃t,vC i=t:=⟨_,rfl⟩;rw[hCi]at hc hT C0 C1 C2
   rw[hCi']at hc' hT C0 C1 C2
   replace hT:an=((decide (z=vz) && (t0 && (t1 && t2))) && eqf scB C vC r (i+1) && eqf srB R vR rk 0):=hT;replace C0:Hid (∀W (hW:Bl wr W),Calls prog 16 #[agg #[.bool s0,slice x0 n0 c0,slice y0 m0 d0],agg #[.bool vs0,slice vx0 vn0 vc0,slice vy0 vm0 vd0]] W λr w2=>r=returned (.bool t0)/\Bl W w2):=C0;replace C1:Hid (∀W (hW:Bl wr W),Calls prog 20 #[agg #[.int .i64 i1,.bool s1,slice x1 n1 c1,slice y1 m1 d1],agg #[.int .i64 vi1,.bool vs1,slice vx1 vn1 vc1,slice vy1 vm1 vd1]] W λr w2=>r=returned (.bool t1)/\Bl W w2):=C1;replace C2:Hid (∀W (hW:Bl wr W),Calls prog 20 #[agg #[.int .i64 i2,.bool s2,slice x2 n2 c2,slice y2 m2 d2],agg #[.int .i64 vi2,.bool vs2,slice vx2 vn2 vc2,slice vy2 vm2 vd2]] W λr w2=>r=returned (.bool t2)/\Bl W w2):=C2;obtain⟨p0,p1,p2,p3,p4,p5,p6,p7,p8,p9,p10,p11⟩:=hc.lc;have u0':wr.cell? ⟨b',o'+i*12,none⟩=some (.string vz):=hc' 0 _ rfl;have u1':wr.cell? ⟨b',o'+i*12+1,none⟩=some (.bool vs0):=hc' 1 _ rfl;have u2':wr.cell? ⟨b',o'+i*12+2,none⟩=some (slice vx0 vn0 vc0):=hc' 2 _ rfl;have u3':wr.cell? ⟨b',o'+i*12+3,none⟩=some (slice vy0 vm0 vd0):=hc' 3 _ rfl;have u4':wr.cell? ⟨b',o'+i*12+4,none⟩=some (.int .i64 vi1):=hc' 4 _ rfl;have u5':wr.cell? ⟨b',o'+i*12+5,none⟩=some (.bool vs1):=hc' 5 _ rfl;have u6':wr.cell? ⟨b',o'+i*12+6,none⟩=some (slice vx1 vn1 vc1):=hc' 6 _ rfl;have u7':wr.cell? ⟨b',o'+i*12+7,none⟩=some (slice vy1 vm1 vd1):=hc' 7 _ rfl;have u8':wr.cell? ⟨b',o'+i*12+8,none⟩=some (.int .i64 vi2):=hc' 8 _ rfl;have u9':wr.cell? ⟨b',o'+i*12+9,none⟩=some (.bool vs2):=hc' 9 _ rfl;have u10':wr.cell? ⟨b',o'+i*12+10,none⟩=some (slice vx2 vn2 vc2):=hc' 10 _ rfl;have u11':wr.cell? ⟨b',o'+i*12+11,none⟩=some (slice vy2 vm2 vd2):=hc' 11 _ rfl;have k9:=(B2.q_ HB.out).cell (j:=3) rfl;have hkl:=(B2.q_ HB.out).lt;have hcl:=block_lt_of_cell? wr _ u0';replace hcl:b'<wr.heap.size:=hcl;have k95:(wr.alloc (cells #[.string z,.bool s0,slice x0 n0 c0,slice y0 m0 d0,.int .i64 i1,.bool s1,slice x1 n1 c1,slice y1 m1 d1,.int .i64 i2,.bool s2,slice x2 n2 c2,slice y2 m2 d2] 60)).cell? ⟨w.heap.size+1,3,none⟩=some (slice (some ⟨b',o',none⟩) ck vcc):=kCa k9;have u05:(wr.alloc (cells #[.string z,.bool s0,slice x0 n0 c0,slice y0 m0 d0,.int .i64 i1,.bool s1,slice x1 n1 c1,slice y1 m1 d1,.int .i64 i2,.bool s2,slice x2 n2 c2,slice y2 m2 d2] 60)).cell? ⟨b',o'+i*12,none⟩=some (.string vz):=kCa u0';have u15:(wr.alloc (cells #[.string z,.bool s0,slice x0 n0 c0,slice y0 m0 d0,.int .i64 i1,.bool s1,slice x1 n1 c1,slice y1 m1 d1,.int .i64 i2,.bool s2,slice x2 n2 c2,slice y2 m2 d2] 60)).cell? ⟨b',o'+i*12+1,none⟩=some (.bool vs0):=kCa u1';have u25:(wr.alloc (cells #[.string z,.bool s0,slice x0 n0 c0,slice y0 m0 d0,.int .i64 i1,.bool s1,slice x1 n1 c1,slice y1 m1 d1,.int .i64 i2,.bool s2,slice x2 n2 c2,slice y2 m2 d2] 60)).cell? ⟨b',o'+i*12+2,none⟩=some (slice vx0 vn0 vc0):=kCa u2';have u35:(wr.alloc (cells #[.string z,.bool s0,slice x0 n0 c0,slice y0 m0 d0,.int .i64 i1,.bool s1,slice x1 n1 c1,slice y1 m1 d1,.int .i64 i2,.bool s2,slice x2 n2 c2,slice y2 m2 d2] 60)).cell? ⟨b',o'+i*12+3,none⟩=some (slice vy0 vm0 vd0):=kCa u3';have u45:(wr.alloc (cells #[.string z,.bool s0,slice x0 n0 c0,slice y0 m0 d0,.int .i64 i1,.bool s1,slice x1 n1 c1,slice y1 m1 d1,.int .i64 i2,.bool s2,slice x2 n2 c2,slice y2 m2 d2] 60)).cell? ⟨b',o'+i*12+4,none⟩=some (.int .i64 vi1):=kCa u4';have u55:(wr.alloc (cells #[.string z,.bool s0,slice x0 n0 c0,slice y0 m0 d0,.int .i64 i1,.bool s1,slice x1 n1 c1,slice y1 m1 d1,.int .i64 i2,.bool s2,slice x2 n2 c2,slice y2 m2 d2] 60)).cell? ⟨b',o'+i*12+5,none⟩=some (.bool vs1):=kCa u5';have u65:(wr.alloc (cells #[.string z,.bool s0,slice x0 n0 c0,slice y0 m0 d0,.int .i64 i1,.bool s1,slice x1 n1 c1,slice y1 m1 d1,.int .i64 i2,.bool s2,slice x2 n2 c2,slice y2 m2 d2] 60)).cell? ⟨b',o'+i*12+6,none⟩=some (slice vx1 vn1 vc1):=kCa u6';have u75:(wr.alloc (cells #[.string z,.bool s0,slice x0 n0 c0,slice y0 m0 d0,.int .i64 i1,.bool s1,slice x1 n1 c1,slice y1 m1 d1,.int .i64 i2,.bool s2,slice x2 n2 c2,slice y2 m2 d2] 60)).cell? ⟨b',o'+i*12+7,none⟩=some (slice vy1 vm1 vd1):=kCa u7';have u85:(wr.alloc (cells #[.string z,.bool s0,slice x0 n0 c0,slice y0 m0 d0,.int .i64 i1,.bool s1,slice x1 n1 c1,slice y1 m1 d1,.int .i64 i2,.bool s2,slice x2 n2 c2,slice y2 m2 d2] 60)).cell? ⟨b',o'+i*12+8,none⟩=some (.int .i64 vi2):=kCa u8';have u95:(wr.alloc (cells #[.string z,.bool s0,slice x0 n0 c0,slice y0 m0 d0,.int .i64 i1,.bool s1,slice x1 n1 c1,slice y1 m1 d1,.int .i64 i2,.bool s2,slice x2 n2 c2,slice y2 m2 d2] 60)).cell? ⟨b',o'+i*12+9,none⟩=some (.bool vs2):=kCa u9';have u105:(wr.alloc (cells #[.string z,.bool s0,slice x0 n0 c0,slice y0 m0 d0,.int .i64 i1,.bool s1,slice x1 n1 c1,slice y1 m1 d1,.int .i64 i2,.bool s2,slice x2 n2 c2,slice y2 m2 d2] 60)).cell? ⟨b',o'+i*12+10,none⟩=some (slice vx2 vn2 vc2):=kCa u10';have u115:(wr.alloc (cells #[.string z,.bool s0,slice x0 n0 c0,slice y0 m0 d0,.int .i64 i1,.bool s1,slice x1 n1 c1,slice y1 m1 d1,.int .i64 i2,.bool s2,slice x2 n2 c2,slice y2 m2 d2] 60)).cell? ⟨b',o'+i*12+11,none⟩=some (slice vy2 vm2 vd2):=kCa u11';have i1':((i:Nat):Int)<((ck:Nat):Int):=by omega
   have HRR:=zk hr2;have HT:=zk hT;clear hCi hCi' hc hc' hn hn' hr hr2 hT HI ht0 ht1 ht2;go_upto_region 7 with fail
   have h5:=zu (zu (Below.refl wr.heap.size wr) (cells #[.string z,.bool s0,slice x0 n0 c0,slice y0 m0 d0,.int .i64 i1,.bool s1,slice x1 n1 c1,slice y1 m1 d1,.int .i64 i2,.bool s2,slice x2 n2 c2,slice y2 m2 d2] 60)) (cells #[.string vz,.bool vs0,slice vx0 vn0 vc0,slice vy0 vm0 vd0,.int .i64 vi1,.bool vs1,slice vx1 vn1 vc1,slice vy1 vm1 vd1,.int .i64 vi2,.bool vs2,slice vx2 vn2 vc2,slice vy2 vm2 vd2] 60);have D1:=(zF wr [.string z,.bool s0,slice x0 n0 c0,slice y0 m0 d0,.int .i64 i1,.bool s1,slice x1 n1 c1,slice y1 m1 d1,.int .i64 i2,.bool s2,slice x2 n2 c2,slice y2 m2 d2] 60).q_ (zu (Below.refl _ _) (cells #[.string vz,.bool vs0,slice vx0 vn0 vc0,slice vy0 vm0 vd0,.int .i64 vi1,.bool vs1,slice vx1 vn1 vc1,slice vy1 vm1 vd1,.int .i64 vi2,.bool vs2,slice vx2 vn2 vc2,slice vy2 vm2 vd2] 60));have D2:=zF (wr.alloc (cells #[.string z,.bool s0,slice x0 n0 c0,slice y0 m0 d0,.int .i64 i1,.bool s1,slice x1 n1 c1,slice y1 m1 d1,.int .i64 i2,.bool s2,slice x2 n2 c2,slice y2 m2 d2] 60)) [.string vz,.bool vs0,slice vx0 vn0 vc0,slice vy0 vm0 vd0,.int .i64 vi1,.bool vs1,slice vx1 vn1 vc1,slice vy1 vm1 vd1,.int .i64 vi2,.bool vs2,slice vx2 vn2 vc2,slice vy2 vm2 vd2] 60;rw[zw]at D2
   replace D1:Bk ((wr.alloc (cells #[.string z,.bool s0,slice x0 n0 c0,slice y0 m0 d0,.int .i64 i1,.bool s1,slice x1 n1 c1,slice y1 m1 d1,.int .i64 i2,.bool s2,slice x2 n2 c2,slice y2 m2 d2] 60)).alloc (cells #[.string vz,.bool vs0,slice vx0 vn0 vc0,slice vy0 vm0 vd0,.int .i64 vi1,.bool vs1,slice vx1 vn1 vc1,slice vy1 vm1 vd1,.int .i64 vi2,.bool vs2,slice vx2 vn2 vc2,slice vy2 vm2 vd2] 60)) wr.heap.size [.string z,.bool s0,slice x0 n0 c0,slice y0 m0 d0,.int .i64 i1,.bool s1,slice x1 n1 c1,slice y1 m1 d1,.int .i64 i2,.bool s2,slice x2 n2 c2,slice y2 m2 d2] 60:=D1;replace D2:Bk ((wr.alloc (cells #[.string z,.bool s0,slice x0 n0 c0,slice y0 m0 d0,.int .i64 i1,.bool s1,slice x1 n1 c1,slice y1 m1 d1,.int .i64 i2,.bool s2,slice x2 n2 c2,slice y2 m2 d2] 60)).alloc (cells #[.string vz,.bool vs0,slice vx0 vn0 vc0,slice vy0 vm0 vd0,.int .i64 vi1,.bool vs1,slice vx1 vn1 vc1,slice vy1 vm1 vd1,.int .i64 vi2,.bool vs2,slice vx2 vn2 vc2,slice vy2 vm2 vd2] 60)) (wr.heap.size+1) [.string vz,.bool vs0,slice vx0 vn0 vc0,slice vy0 vm0 vd0,.int .i64 vi1,.bool vs1,slice vx1 vn1 vc1,slice vy1 vm1 vd1,.int .i64 vi2,.bool vs2,slice vx2 vn2 vc2,slice vy2 vm2 vd2] 60:=D2;clear p0 p1 p2 p3 p4 p5 p6 p7 p8 p9 p10 p11 u0' u1' u2' u3' u4' u5' u6' u7' u8' u9' u10' u11' u05 u15 u25 u35 u45 u55 u65 u75 u85 u95 u105 u115 k9 k95;generalize(wr.alloc (cells #[.string z,.bool s0,slice x0 n0 c0,slice y0 m0 d0,.int .i64 i1,.bool s1,slice x1 n1 c1,slice y1 m1 d1,.int .i64 i2,.bool s2,slice x2 n2 c2,slice y2 m2 d2] 60)).alloc (cells #[.string vz,.bool vs0,slice vx0 vn0 vc0,slice vy0 vm0 vd0,.int .i64 vi1,.bool vs1,slice vx1 vn1 vc1,slice vy1 vm1 vd1,.int .i64 vi2,.bool vs2,slice vx2 vn2 vc2,slice vy2 vm2 vd2] 60)=w5 at *;obtain⟨a0,a1,a2,a3,a4,a5,a6,a7,a8,a9,a10,a11⟩:=zee D1;obtain⟨b0,b1,b2,b3,b4,b5,b6,b7,b8,b9,b10,b11⟩:=zee D2;by_cases hz:z=vz
   case neg =>
    have hne:=zgB hz;have HF:=zk (show an=false from by rw[HT.out];simp[hz]);go_wp2;go_ret;exact⟨by rw[HF.out];rfl,HW.out.trans ((HB.out.trans ((h5).mono HB.out.size)).mono HW.out.size)⟩
   subst hz;replace HT:=zk (show an=((t0 && (t1 && t2)) && eqf scB C vC r (i+1) && eqf srB R vR rk 0)from by rw[HT.out];simp);go_wp2_with fail
   refine(C0.out _ h5).mono ?_;rintro e w6 ⟨rfl,hb6⟩;have h51:=zk (h5.trans (hb6.mono h5.size));replace D1:=D1.q_ hb6;replace D2:=D2.q_ hb6
   clear a0 a1 a2 a3 a4 a5 a6 a7 a8 a9 a10 a11 b0 b1 b2 b3 b4 b5 b6 b7 b8 b9 b10 b11 C0 hb6;cases t0
   ·have HF:=zk (show an=false from by rw[HT.out];simp);go_wp2;go_ret;exact⟨by rw[HF.out];rfl,HW.out.trans ((HB.out.trans ((h51.out).mono HB.out.size)).mono HW.out.size)⟩
   obtain⟨a0,a1,a2,a3,a4,a5,a6,a7,a8,a9,a10,a11⟩:=zee D1;obtain⟨b0,b1,b2,b3,b4,b5,b6,b7,b8,b9,b10,b11⟩:=zee D2;go_wp2_with fail
   refine(C1.out _ h51.out).mono ?_;rintro e w7 ⟨rfl,hb7⟩;have h52:=zk (h51.out.trans (hb7.mono h51.out.size));replace D1:=D1.q_ hb7;replace D2:=D2.q_ hb7
   clear a0 a1 a2 a3 a4 a5 a6 a7 a8 a9 a10 a11 b0 b1 b2 b3 b4 b5 b6 b7 b8 b9 b10 b11 C1 hb7;cases t1
   ·have HF:=zk (show an=false from by rw[HT.out];simp);go_wp2;go_ret;exact⟨by rw[HF.out];rfl,HW.out.trans ((HB.out.trans ((h52.out).mono HB.out.size)).mono HW.out.size)⟩
   obtain⟨a0,a1,a2,a3,a4,a5,a6,a7,a8,a9,a10,a11⟩:=zee D1;obtain⟨b0,b1,b2,b3,b4,b5,b6,b7,b8,b9,b10,b11⟩:=zee D2;go_wp2_with fail
   refine(C2.out _ h52.out).mono ?_;rintro e w8 ⟨rfl,hb8⟩;have h53:=zk (h52.out.trans (hb8.mono h52.out.size));replace D1:=D1.q_ hb8;replace D2:=D2.q_ hb8
   clear a0 a1 a2 a3 a4 a5 a6 a7 a8 a9 a10 a11 b0 b1 b2 b3 b4 b5 b6 b7 b8 b9 b10 b11 C2 hb8;cases t2
   ·have HF:=zk (show an=false from by rw[HT.out];simp);go_wp2;go_ret;exact⟨by rw[HF.out];rfl,HW.out.trans ((HB.out.trans ((h53.out).mono HB.out.size)).mono HW.out.size)⟩
   have HB9:=zk (HB.out.trans (h53.out.mono HB.out.size));go_wp2;go_roundw
   case rel=>exact⟨i+1,by omega,by go_num,HB9.out,by show _=_;rw[HT.out,HRR.out];simp⟩
   case measure=>simp[intOf];omega
  ·have e3:i=ck:=by omega
   have i2:¬(((i:Nat):Int)<((ck:Nat):Int)):=by omega
   have HA2:=zk (show an=eqf srB R vR rk 0 from by rw[HI.out,e3,sub_self];rfl);have HW2:=zk (HW.out.trans (HB.out.mono HW.out.size));replace B1:=B1.q_ HB.out;replace B2:=B2.q_ HB.out
   clear e3 HI HB HC HC';obtain⟨r0,r1,r2,r3,r4⟩:=bk5 B1;obtain⟨q0,q1,q2,q3,q4⟩:=bk5 B2;generalize wr=wa at *;go_wp2_with fail
   go_loopw[81] (λt wr=>∃(i:Nat),i<=rk/\t=.int .i64 i/\Hid (Bl wa wr)/\Hid (an=eqf srB R vR (rk-i) i)) (λt _=>rk-(intOf t).toNat)
   case atStart=>exact⟨0,by omega,rfl,Below.refl _ _,HA2.out⟩
   case round =>
    obtain⟨i,hi,rfl,HB,HI⟩:=hrel;clear HA2 r0 r1 r2 r3 r4 q0 q1 q2 q3 q4;by_cases hlt:i<rk
    ·obtain⟨b,o,rfl,hc,hn⟩:=(HR.out.q_ (HW2.out.trans (HB.out.mono HW2.out.size))) i hlt;obtain⟨b',o',rfl,hc',hn'⟩:=(HR'.out.q_ (HW2.out.trans (HB.out.mono HW2.out.size))) i hlt;obtain⟨r,hr⟩:∃r,rk-i=r+1:=⟨rk-i-1,by omega⟩;have hr2:rk-(i+1)=r:=by omega
     obtain⟨t0,ht0⟩:∃t,sxB (R i).lo (vR i).lo=t:=⟨_,rfl⟩;have C0:=zk (λW (hW:Bl wr W)=>zet (w:=W) (hn.lo.q_ hW) (hn'.lo.q_ hW));rw[ht0]at C0
     obtain⟨t1,ht1⟩:∃t,sxB (R i).hi (vR i).hi=t:=⟨_,rfl⟩;have C1:=zk (λW (hW:Bl wr W)=>zet (w:=W) (hn.hi.q_ hW) (hn'.hi.q_ hW));rw[ht1]at C1
     obtain⟨t2,ht2⟩:∃t,eqfB sxB (R i).tk (vR i).tk (tex (R i).col (R i).T) (tex (vR i).col (vR i).T)=t:=⟨_,rfl⟩;have C2:=zk (λW (hW:Bl wr W)=>zoF (w:=W) (ca:=(R i).tc) (cb:=(vR i).tc) (hn.tr.q_ hW) hn.tn (hn'.tr.q_ hW) hn'.tn hn.tk hn'.tk);rw[ht2]at C2
     have hT:an=((decide ((R i).nm=(vR i).nm) && (t0 && (t1 && t2))) && eqf srB R vR r (i+1)):=by
      rw[HI.out,hr,<-ht0,<-ht1,<-ht2];rfl
     obtain⟨⟨z,⟨i1,⟨s1,x1,n1,c1,f1,y1,m1,d1,g1⟩⟩,⟨i2,⟨s2,x2,n2,c2,f2,y2,m2,d2,g2⟩⟩,ta,tk,tc,tcol,tt⟩,hCi⟩:∃t,R i=t:=⟨_,rfl⟩;obtain⟨⟨vz,⟨vi1,⟨vs1,vx1,vn1,vc1,vf1,vy1,vm1,vd1,vg1⟩⟩,⟨vi2,⟨vs2,vx2,vn2,vc2,vf2,vy2,vm2,vd2,vg2⟩⟩,vta,vtk,vtc,vtcol,vtt⟩,hCi'⟩:∃t,vR i=t:=⟨_,rfl⟩;rw[hCi]at hc hT C0 C1 C2
     rw[hCi']at hc' hT C0 C1 C2
     replace hT:an=((decide (z=vz) && (t0 && (t1 && t2))) && eqf srB R vR r (i+1)):=hT;replace C0:Hid (∀W (hW:Bl wr W),Calls prog 20 #[agg #[.int .i64 i1,.bool s1,slice x1 n1 c1,slice y1 m1 d1],agg #[.int .i64 vi1,.bool vs1,slice vx1 vn1 vc1,slice vy1 vm1 vd1]] W λr w2=>r=returned (.bool t0)/\Bl W w2):=C0;replace C1:Hid (∀W (hW:Bl wr W),Calls prog 20 #[agg #[.int .i64 i2,.bool s2,slice x2 n2 c2,slice y2 m2 d2],agg #[.int .i64 vi2,.bool vs2,slice vx2 vn2 vc2,slice vy2 vm2 vd2]] W λr w2=>r=returned (.bool t1)/\Bl W w2):=C1;replace C2:Hid (∀W (hW:Bl wr W),Calls prog 45 #[slice ta tk tc,slice vta vtk vtc] W λr w2=>r=returned (.bool t2)/\Bl W w2):=C2;obtain⟨p0,p1,p2,p3,p4,p5,p6,p7,p8,p9⟩:=hc.lr;have u0':wr.cell? ⟨b',o'+i*10,none⟩=some (.string vz):=hc' 0 _ rfl;have u1':wr.cell? ⟨b',o'+i*10+1,none⟩=some (.int .i64 vi1):=hc' 1 _ rfl;have u2':wr.cell? ⟨b',o'+i*10+2,none⟩=some (.bool vs1):=hc' 2 _ rfl;have u3':wr.cell? ⟨b',o'+i*10+3,none⟩=some (slice vx1 vn1 vc1):=hc' 3 _ rfl;have u4':wr.cell? ⟨b',o'+i*10+4,none⟩=some (slice vy1 vm1 vd1):=hc' 4 _ rfl;have u5':wr.cell? ⟨b',o'+i*10+5,none⟩=some (.int .i64 vi2):=hc' 5 _ rfl;have u6':wr.cell? ⟨b',o'+i*10+6,none⟩=some (.bool vs2):=hc' 6 _ rfl;have u7':wr.cell? ⟨b',o'+i*10+7,none⟩=some (slice vx2 vn2 vc2):=hc' 7 _ rfl;have u8':wr.cell? ⟨b',o'+i*10+8,none⟩=some (slice vy2 vm2 vd2):=hc' 8 _ rfl;have u9':wr.cell? ⟨b',o'+i*10+9,none⟩=some (slice vta vtk vtc):=hc' 9 _ rfl;have k9:=(B2.q_ HB.out).cell (j:=4) rfl;have hkl:=(B2.q_ HB.out).lt;have hcl:=block_lt_of_cell? wr _ u0';replace hcl:b'<wr.heap.size:=hcl;have k95:(wr.alloc (cells #[.string z,.int .i64 i1,.bool s1,slice x1 n1 c1,slice y1 m1 d1,.int .i64 i2,.bool s2,slice x2 n2 c2,slice y2 m2 d2,slice ta tk tc] 63)).cell? ⟨w.heap.size+1,4,none⟩=some (slice (some ⟨b',o',none⟩) rk vrc):=kCa k9;have u05:(wr.alloc (cells #[.string z,.int .i64 i1,.bool s1,slice x1 n1 c1,slice y1 m1 d1,.int .i64 i2,.bool s2,slice x2 n2 c2,slice y2 m2 d2,slice ta tk tc] 63)).cell? ⟨b',o'+i*10,none⟩=some (.string vz):=kCa u0';have u15:(wr.alloc (cells #[.string z,.int .i64 i1,.bool s1,slice x1 n1 c1,slice y1 m1 d1,.int .i64 i2,.bool s2,slice x2 n2 c2,slice y2 m2 d2,slice ta tk tc] 63)).cell? ⟨b',o'+i*10+1,none⟩=some (.int .i64 vi1):=kCa u1';have u25:(wr.alloc (cells #[.string z,.int .i64 i1,.bool s1,slice x1 n1 c1,slice y1 m1 d1,.int .i64 i2,.bool s2,slice x2 n2 c2,slice y2 m2 d2,slice ta tk tc] 63)).cell? ⟨b',o'+i*10+2,none⟩=some (.bool vs1):=kCa u2';have u35:(wr.alloc (cells #[.string z,.int .i64 i1,.bool s1,slice x1 n1 c1,slice y1 m1 d1,.int .i64 i2,.bool s2,slice x2 n2 c2,slice y2 m2 d2,slice ta tk tc] 63)).cell? ⟨b',o'+i*10+3,none⟩=some (slice vx1 vn1 vc1):=kCa u3';have u45:(wr.alloc (cells #[.string z,.int .i64 i1,.bool s1,slice x1 n1 c1,slice y1 m1 d1,.int .i64 i2,.bool s2,slice x2 n2 c2,slice y2 m2 d2,slice ta tk tc] 63)).cell? ⟨b',o'+i*10+4,none⟩=some (slice vy1 vm1 vd1):=kCa u4';have u55:(wr.alloc (cells #[.string z,.int .i64 i1,.bool s1,slice x1 n1 c1,slice y1 m1 d1,.int .i64 i2,.bool s2,slice x2 n2 c2,slice y2 m2 d2,slice ta tk tc] 63)).cell? ⟨b',o'+i*10+5,none⟩=some (.int .i64 vi2):=kCa u5';have u65:(wr.alloc (cells #[.string z,.int .i64 i1,.bool s1,slice x1 n1 c1,slice y1 m1 d1,.int .i64 i2,.bool s2,slice x2 n2 c2,slice y2 m2 d2,slice ta tk tc] 63)).cell? ⟨b',o'+i*10+6,none⟩=some (.bool vs2):=kCa u6';have u75:(wr.alloc (cells #[.string z,.int .i64 i1,.bool s1,slice x1 n1 c1,slice y1 m1 d1,.int .i64 i2,.bool s2,slice x2 n2 c2,slice y2 m2 d2,slice ta tk tc] 63)).cell? ⟨b',o'+i*10+7,none⟩=some (slice vx2 vn2 vc2):=kCa u7';have u85:(wr.alloc (cells #[.string z,.int .i64 i1,.bool s1,slice x1 n1 c1,slice y1 m1 d1,.int .i64 i2,.bool s2,slice x2 n2 c2,slice y2 m2 d2,slice ta tk tc] 63)).cell? ⟨b',o'+i*10+8,none⟩=some (slice vy2 vm2 vd2):=kCa u8';have u95:(wr.alloc (cells #[.string z,.int .i64 i1,.bool s1,slice x1 n1 c1,slice y1 m1 d1,.int .i64 i2,.bool s2,slice x2 n2 c2,slice y2 m2 d2,slice ta tk tc] 63)).cell? ⟨b',o'+i*10+9,none⟩=some (slice vta vtk vtc):=kCa u9';have i1':((i:Nat):Int)<((rk:Nat):Int):=by omega
     have HRR:=zk hr2;have HT:=zk hT;clear hCi hCi' hc hc' hn hn' hr hr2 hT HI ht0 ht1 ht2;go_upto_region 14 with fail
     have h5:=zu (zu (Below.refl wr.heap.size wr) (cells #[.string z,.int .i64 i1,.bool s1,slice x1 n1 c1,slice y1 m1 d1,.int .i64 i2,.bool s2,slice x2 n2 c2,slice y2 m2 d2,slice ta tk tc] 63)) (cells #[.string vz,.int .i64 vi1,.bool vs1,slice vx1 vn1 vc1,slice vy1 vm1 vd1,.int .i64 vi2,.bool vs2,slice vx2 vn2 vc2,slice vy2 vm2 vd2,slice vta vtk vtc] 63);have D1:=(zF wr [.string z,.int .i64 i1,.bool s1,slice x1 n1 c1,slice y1 m1 d1,.int .i64 i2,.bool s2,slice x2 n2 c2,slice y2 m2 d2,slice ta tk tc] 63).q_ (zu (Below.refl _ _) (cells #[.string vz,.int .i64 vi1,.bool vs1,slice vx1 vn1 vc1,slice vy1 vm1 vd1,.int .i64 vi2,.bool vs2,slice vx2 vn2 vc2,slice vy2 vm2 vd2,slice vta vtk vtc] 63));have D2:=zF (wr.alloc (cells #[.string z,.int .i64 i1,.bool s1,slice x1 n1 c1,slice y1 m1 d1,.int .i64 i2,.bool s2,slice x2 n2 c2,slice y2 m2 d2,slice ta tk tc] 63)) [.string vz,.int .i64 vi1,.bool vs1,slice vx1 vn1 vc1,slice vy1 vm1 vd1,.int .i64 vi2,.bool vs2,slice vx2 vn2 vc2,slice vy2 vm2 vd2,slice vta vtk vtc] 63;rw[zw]at D2
     replace D1:Bk ((wr.alloc (cells #[.string z,.int .i64 i1,.bool s1,slice x1 n1 c1,slice y1 m1 d1,.int .i64 i2,.bool s2,slice x2 n2 c2,slice y2 m2 d2,slice ta tk tc] 63)).alloc (cells #[.string vz,.int .i64 vi1,.bool vs1,slice vx1 vn1 vc1,slice vy1 vm1 vd1,.int .i64 vi2,.bool vs2,slice vx2 vn2 vc2,slice vy2 vm2 vd2,slice vta vtk vtc] 63)) wr.heap.size [.string z,.int .i64 i1,.bool s1,slice x1 n1 c1,slice y1 m1 d1,.int .i64 i2,.bool s2,slice x2 n2 c2,slice y2 m2 d2,slice ta tk tc] 63:=D1;replace D2:Bk ((wr.alloc (cells #[.string z,.int .i64 i1,.bool s1,slice x1 n1 c1,slice y1 m1 d1,.int .i64 i2,.bool s2,slice x2 n2 c2,slice y2 m2 d2,slice ta tk tc] 63)).alloc (cells #[.string vz,.int .i64 vi1,.bool vs1,slice vx1 vn1 vc1,slice vy1 vm1 vd1,.int .i64 vi2,.bool vs2,slice vx2 vn2 vc2,slice vy2 vm2 vd2,slice vta vtk vtc] 63)) (wr.heap.size+1) [.string vz,.int .i64 vi1,.bool vs1,slice vx1 vn1 vc1,slice vy1 vm1 vd1,.int .i64 vi2,.bool vs2,slice vx2 vn2 vc2,slice vy2 vm2 vd2,slice vta vtk vtc] 63:=D2;clear p0 p1 p2 p3 p4 p5 p6 p7 p8 p9 u0' u1' u2' u3' u4' u5' u6' u7' u8' u9' u05 u15 u25 u35 u45 u55 u65 u75 u85 u95 k9 k95;generalize(wr.alloc (cells #[.string z,.int .i64 i1,.bool s1,slice x1 n1 c1,slice y1 m1 d1,.int .i64 i2,.bool s2,slice x2 n2 c2,slice y2 m2 d2,slice ta tk tc] 63)).alloc (cells #[.string vz,.int .i64 vi1,.bool vs1,slice vx1 vn1 vc1,slice vy1 vm1 vd1,.int .i64 vi2,.bool vs2,slice vx2 vn2 vc2,slice vy2 vm2 vd2,slice vta vtk vtc] 63)=w5 at *;obtain⟨a0,a1,a2,a3,a4,a5,a6,a7,a8,a9⟩:=zef D1;obtain⟨b0,b1,b2,b3,b4,b5,b6,b7,b8,b9⟩:=zef D2;by_cases hz:z=vz
     case neg =>
      have hne:=zgB hz;have HF:=zk (show an=false from by rw[HT.out];simp[hz]);go_wp2;go_ret;exact⟨by rw[HF.out];rfl,HW2.out.trans ((HB.out.trans ((h5).mono HB.out.size)).mono HW2.out.size)⟩
     subst hz;replace HT:=zk (show an=((t0 && (t1 && t2)) && eqf srB R vR r (i+1))from by rw[HT.out];simp);go_wp2_with fail
     refine(C0.out _ h5).mono ?_;rintro e w6 ⟨rfl,hb6⟩;have h51:=zk (h5.trans (hb6.mono h5.size));replace D1:=D1.q_ hb6;replace D2:=D2.q_ hb6
     clear a0 a1 a2 a3 a4 a5 a6 a7 a8 a9 b0 b1 b2 b3 b4 b5 b6 b7 b8 b9 C0 hb6;cases t0
     ·have HF:=zk (show an=false from by rw[HT.out];simp);go_wp2;go_ret;exact⟨by rw[HF.out];rfl,HW2.out.trans ((HB.out.trans ((h51.out).mono HB.out.size)).mono HW2.out.size)⟩
     obtain⟨a0,a1,a2,a3,a4,a5,a6,a7,a8,a9⟩:=zef D1;obtain⟨b0,b1,b2,b3,b4,b5,b6,b7,b8,b9⟩:=zef D2;go_wp2_with fail
     refine(C1.out _ h51.out).mono ?_;rintro e w7 ⟨rfl,hb7⟩;have h52:=zk (h51.out.trans (hb7.mono h51.out.size));replace D1:=D1.q_ hb7;replace D2:=D2.q_ hb7
     clear a0 a1 a2 a3 a4 a5 a6 a7 a8 a9 b0 b1 b2 b3 b4 b5 b6 b7 b8 b9 C1 hb7;cases t1
     ·have HF:=zk (show an=false from by rw[HT.out];simp);go_wp2;go_ret;exact⟨by rw[HF.out];rfl,HW2.out.trans ((HB.out.trans ((h52.out).mono HB.out.size)).mono HW2.out.size)⟩
     obtain⟨a0,a1,a2,a3,a4,a5,a6,a7,a8,a9⟩:=zef D1;obtain⟨b0,b1,b2,b3,b4,b5,b6,b7,b8,b9⟩:=zef D2;go_wp2_with fail
     refine(C2.out _ h52.out).mono ?_;rintro e w8 ⟨rfl,hb8⟩;have h53:=zk (h52.out.trans (hb8.mono h52.out.size));replace D1:=D1.q_ hb8;replace D2:=D2.q_ hb8
     clear a0 a1 a2 a3 a4 a5 a6 a7 a8 a9 b0 b1 b2 b3 b4 b5 b6 b7 b8 b9 C2 hb8;cases t2
     ·have HF:=zk (show an=false from by rw[HT.out];simp);go_wp2;go_ret;exact⟨by rw[HF.out];rfl,HW2.out.trans ((HB.out.trans ((h53.out).mono HB.out.size)).mono HW2.out.size)⟩
     have HB9:=zk (HB.out.trans (h53.out.mono HB.out.size));go_wp2;go_roundw
     case rel=>exact⟨i+1,by omega,by go_num,HB9.out,by show _=_;rw[HT.out,HRR.out];simp⟩
     case measure=>simp[intOf];omega
    ·have e3:i=rk:=by omega
     have i2:¬(((i:Nat):Int)<((rk:Nat):Int)):=by omega
     have HT:=zk (show an=true from by rw[HI.out,e3,sub_self];rfl);have HW3:=zk (HW2.out.trans (HB.out.mono HW2.out.size));clear e3 HI HB;go_wp2;go_ret;exact⟨by rw[HT.out];rfl,HW3.out⟩
def KW (L:Nat):Nat:=4*L+2*KE L+3
structure zto (w:World) (M:Mo) (ao:Option Addr) (k:Nat) (X:Nat->Nm):Prop where
 i:In8 w M
 hx:Rl w ao k X
 sx:ShK 8 k X
theorem zgG {w M M' ao k cap X X'} (h:TmK 8 w M M') (hN:MoN M) (hx:Tx w ao k X X') (hs:ShK 8 k X) :
  Calls prog 10 #[M'.val,slice ao k cap] w λe w'=>zol 8 w w' e (zbB M k X) (zbi M) (zbp M) (zbg k X) :=
 zjw h.2.1 hx.1 (by have:=hs.1;omega) (zfz h hx) (λhe=>zhd 8 (by omega) (by omega) h hN hx hs he) (by decide)
theorem znl {w M M'} (h:TmK 8 w M M') (hX:MoX w M):Calls prog 14 #[M'.val,M.val] w λe w'=>e=returned (.bool true)/\Bl w w' :=
 (zpq h.2.2.1 hX).mono λe w' h1=>⟨by rw[h1.1,h.1.same],h1.2⟩
theorem zii {w M ao k cap X} (hX:MoX w M) (hN:MoN M) (hC:MoC M) (hx:Rr w ao k X) (hk:k<=9223372036854775807) :
  Calls prog 3 #[M.val,slice ao k cap] w λe w'=>e=returned (.bool true)/\Bl w w':=by
 obtain⟨lb,hlb⟩:∃t,lgM 8 M=t:=⟨_,rfl⟩;obtain⟨la,hla⟩:∃t,lgL 8 k X=t:=⟨_,rfl⟩;have CL:=zk (λw' (hw:Bl w w')=>znm (w:=w') (K:=8) (hX.q_ hw).light.1 (hX.q_ hw).light.2);rw[hlb]at CL
 have CA:Hid (∀W,Bl w W->Calls prog 6 #[slice ao k cap,.int .i64 8] W λe w'=>e=returned (.bool la)/\Bl W w'):=λW hW=>by
  have:=zlp (cap:=cap) 8 (hx.q_ hW) hk;rw[show(decide (k<=300) && nlg 8 X k 0)=la from hla]at this;exact this
 obtain⟨N,hN'⟩:∃N,N=M:=⟨_,rfl⟩;have HC:Hid (lb=true->la=true->zto w N ao k X):=λe1 e2=>by
  subst hN';subst e1;subst e2
  refine⟨⟨hX,hN,hC,zsp hlb⟩,?_,zpA hla⟩;simp only[lgL,Bool.and_eq_true]at hla;exact hx.rl hla.2 (by decide)
 clear hX hN hC hx hlb hla hk;obtain⟨⟨s,x,n,c,f,y,m,d,g⟩,ca,ck,cc,C,ra,rk,rc,R⟩:=M;have hNv:Hid (N.val=agg #[.bool s,slice x n c,slice y m d,slice ca ck cc,slice ra rk rc]):=by rw[hN'];exact rfl
 clear hN';replace CL:Hid (∀w',Bl w w'->Calls prog 5 #[agg #[.bool s,slice x n c,slice y m d,slice ca ck cc,slice ra rk rc],.int .i64 8] w' λe w2=>e=returned (.bool lb)/\Bl w' w2):=CL;show Calls prog 3 #[agg #[.bool s,slice x n c,slice y m d,slice ca ck cc,slice ra rk rc],slice ao k cap] w _;have HB:=zk (zB w (cells #[.bool s,slice x n c,slice y m d,slice ca ck cc,slice ra rk rc] 28));have BM:=zk (zF w [.bool s,slice x n c,slice y m d,slice ca ck cc,slice ra rk rc] 28);go_enter func3,ntmps3;go_wp2_with fail
 generalize(w.alloc (cells #[.bool s,slice x n c,slice y m d,slice ca ck cc,slice ra rk rc] 28))=v0 at *;refine(zlP _).mono ?_;rintro e v1 ⟨rfl,hb⟩;replace HB:=zJ HB hb;replace BM:=zk (BM.out.q_ hb)
 clear hb;obtain⟨r0,r1,r2,r3,r4⟩:=bk5 BM.out;go_wp2_with fail
 clear r0 r1 r2 r3 r4;refine(CL.out _ HB.out).mono ?_;rintro e v2 ⟨rfl,hb⟩;replace HB:=zJ HB hb;replace BM:=zk (BM.out.q_ hb)
 clear hb CL;cases lb
 ·go_wp2;go_ret;exact⟨by first|rfl|simp,HB.out⟩
 go_wp2_with fail
 refine(CA.out _ HB.out).mono ?_;rintro e v3 ⟨rfl,hb⟩;replace HB:=zJ HB hb;replace BM:=zk (BM.out.q_ hb)
 clear hb CA;cases la
 ·go_wp2;go_ret;exact⟨by first|rfl|simp,HB.out⟩
 replace HC:=zk (HC.out (by first|rfl|trivial) (by first|rfl|trivial));have T1:Hid (∀W,Bl w W->Calls prog 7 #[agg #[.bool s,slice x n c,slice y m d,slice ca ck cc,slice ra rk rc]] W λe w'=>∃(vm:Value) (M':Mo),e=returned vm/\Bl W w'/\Hid (vm=M'.val/\TmK 8 w' N M')):=λW hW=>by
  have:=zle (HC.out.i.x.q_ hW) HC.out.i.n HC.out.i.k (by decide);rw[hNv.out]at this;exact this
 have TX:=zk (λW (hW:Bl w W)=>ziN (K:=8) (cap:=cap) (HC.out.hx.q_ hW) HC.out.sx (by decide));obtain⟨er,her⟩:∃e,zbB N k X=e:=⟨_,rfl⟩;obtain⟨cs,hcs⟩:∃e,zbi N=e:=⟨_,rfl⟩;obtain⟨rs,hrs⟩:∃e,zbp N=e:=⟨_,rfl⟩;obtain⟨ps,hps⟩:∃e,zbg k X=e:=⟨_,rfl⟩;obtain⟨pl,hpl⟩:∃p,(if er=0 then zaA rs ps 0 cs else [])=p:=⟨_,rfl⟩;obtain⟨r,hr⟩:∃k,pl.length=k:=⟨_,rfl⟩;have hk3:k<=300:=HC.out.sx.1;have hr3:r<=64:=by
  rw[<-hr,<-hpl]
  split
  ·rename_i h0;have:=(zbj (HC.out.i.val (zcI (her.trans h0)).1).2).cl;rw[zaX,<-hcs];exact this
  ·simp
 have AC:Hid (∀W vm M' b c1 X1,(vm=M'.val/\TmK 8 W N M')->Tx W b k X X1->Calls prog 10 #[vm,slice b k c1] W λe w'=>∃a c,e=returned (.tuple #[slice a r c,.int .i64 er])/\Bl W w'/\Hid (GrO (KV 8) W.heap.size w' (slice a r c) pl)):=λW vm M' b c1 X1 h1 h2=>by
  have:=zgG (cap:=c1) h1.2 HC.out.i.n h2 HC.out.sx;rw[<-h1.1,her,hrs,hps,hcs]at this
  refine this.mono ?_;rintro e w' ⟨hb,⟨h0,rfl⟩|⟨h0,a,c,rfl,_,hg⟩⟩
  ·rw[if_neg h0]at hpl
   subst hpl;subst hr
   exact⟨none,0,rfl,hb,zeQ _ _ _⟩
  ·rw[if_pos h0]at hpl
   obtain⟨_,_,e1,_⟩:=hg.slice;rw[hpl,hr]at e1
   rw[hpl]at hg
   cases e1
   exact⟨a,c,by rw[h0],hb,hg⟩
 have DA:Hid (∀W,Bl w W->Calls prog 13 #[agg #[.bool s,slice x n c,slice y m d,slice ca ck cc,slice ra rk rc],slice ao k cap] W λe w'=>∃a c,e=returned (.tuple #[slice a r c,.int .i64 er])/\Bl W w'/\Hid (GrO (2*(2*KZ 8)) W.heap.size w' (slice a r c) pl)):=λW hW=>by
  have:=zhe (cap:=cap) (HC.out.i.q_ hW) (HC.out.hx.q_ hW) HC.out.sx;rw[her,hrs,hps,hcs,hNv.out]at this
  refine this.mono ?_;rintro e w' ⟨hb,⟨h0,rfl⟩|⟨h0,a,c,rfl,_,hg⟩⟩
  ·rw[if_neg h0]at hpl
   subst hpl;subst hr
   exact⟨none,0,rfl,hb,zeQ _ _ _⟩
  ·rw[if_pos h0]at hpl
   obtain⟨_,_,e1,_⟩:=hg.slice;rw[hpl,hr]at e1
   rw[hpl]at hg
   cases e1
   exact⟨a,c,by rw[h0],hb,hg⟩
 have VA:Hid (∀W vm M' b c1 X1,(vm=M'.val/\TmK 8 W N M')->Tx W b k X X1->Calls prog 11 #[vm,slice b k c1] W λe w'=>∃v,e=returned v/\Bl W w'):=λW vm M' b c1 X1 h1 h2=>by
  have:=zlN (K:=8) (cap:=c1) h1.2 HC.out.i.n h2 HC.out.sx (by decide) (by decide);rw[<-h1.1]at this
  refine this.mono ?_;rintro e w' ⟨hb,⟨h0,rfl⟩|⟨h0,s,x,n,c,f,y,m,d,g,rfl,_⟩⟩
  ·exact⟨_,rfl,hb⟩
  ·exact⟨_,rfl,hb⟩
 have BK:Hid (∀W vm M' b c1 X1,(vm=M'.val/\TmK 8 W N M')->Tx W b k X X1->Calls prog 12 #[vm,agg #[slice none 0 0,slice b k c1,slice none 0 0]] W λe w'=>∃v,e=returned v/\Bl W w'):=λW vm M' b c1 X1 h1 h2=>by
  have h3:Tx W none 0 X X:=⟨λj hj=>by omega,λj hj=>by omega⟩;have h4:ShK 8 0 X:=⟨by decide,λj hj=>by omega⟩;have:=zlA (K:=8) (c0:=0) (c1:=c1) (c2:=0) h1.2 HC.out.i.n h3 h2 h3 h4 HC.out.sx h4 (by decide);rw[<-h1.1]at this
  exact this.mono λe w' h=>⟨_,h.1,h.2⟩
 have SM:Hid (∀W vm M',Bl w W->(vm=M'.val/\TmK 8 W N M')->Calls prog 14 #[vm,agg #[.bool s,slice x n c,slice y m d,slice ca ck cc,slice ra rk rc]] W λe w'=>e=returned (.bool true)/\Bl W w'):=λW vm M' hW h=>by
  have:=znl h.2 (HC.out.i.x.q_ hW);rw[<-h.1,hNv.out]at this
  exact this
 have SP:Hid (∀W a c1 X1,Bl w W->Tx W a k X X1->Calls prog 15 #[slice a k c1,slice ao k cap] W λe w'=>e=returned (.bool true)/\Bl W w'):=λW a c1 X1 hW h=>zlk h.1 (HC.out.hx.q_ hW) h.2 (by omega)
 have HNN:=zk HC.out.i.n;clear HC hNv her hrs hps hpl hcs;obtain⟨r0,r1,r2,r3,r4⟩:=bk5 BM.out;go_wp2_with fail
 clear r0 r1 r2 r3 r4;refine(T1.out _ HB.out).mono ?_;rintro e v4 ⟨vm,M',rfl,hb,hh⟩;have HVM:=zk hh.out.1;have HT:=zk hh.out.2
 clear hh T1;replace HB:=zJ HB hb;replace BM:=zk (BM.out.q_ hb)
 clear hb;go_wp2_with fail
 refine(TX.out _ HB.out).mono ?_;rintro e v5 ⟨a0,c0,X1,rfl,hb,hh⟩;have HB4:=zk HB.out;have BM4:=zk BM.out;have HT4:=zk HT.out;have E4:=zk hb
 have HX:=zk hh.out.1;have HRW:=zk hh.out.2;have hsz:=hb.size
 replace HT:=zk (HT.out.q_ hb);replace HB:=zJ HB hb;replace BM:=zk (BM.out.q_ hb)
 clear hb;clear hh TX;go_wp2_with fail
 refine(zik (z:=71) (by decide) (by decide)).mono ?_;rintro e v6 ⟨s1,x1,n1,c1,f1,y1,m1,d1,g1,rfl,hb,hq,_⟩;replace E4:=zk (bUp E4.out hb);have Q1:=zk hq;replace HT:=zk (HT.out.q_ hb);replace HX:=zk (HX.out.q_ hb);replace HRW:=zk (HRW.out.q_ hb)
 have hsz2:=le_trans hsz hb.size;clear hq;replace HB:=zJ HB hb;replace BM:=zk (BM.out.q_ hb)
 clear hb;clear hsz;go_wp2_with(at_builtin;go_must (refine zO v6 rfl (.tmp 28) (.tmp 30) 29 rfl v4.heap.size 24 56 3 (agg #[.bool false,slice none 0 0,slice none 0 0]) underlying29 zaR rfl (by decide) nz3 (slice a0 k c0) k _ rfl HRW.out #[.bool s1,slice x1 n1 c1,slice y1 m1 d1] rfl rfl (zdo _ _ _ _ _ _ _) (zcB _ _ _ _ _ _ _) ?p1 (by decide) hsz2 ?_))
 case p1=>omega
 intro g5 cap5 v7 hr7 hk7 hb7 hg7;have F7:=hb7 v4 E4.out (le_refl _);have HX7:=HX.out.put hr7 hk7;have Q7:=Rn.kp Q1.out hk7;have hlx:=HRW.out.1;have u0_:v7.cell? ⟨g5,k*3,none⟩=some (.bool s1):=hr7.cells (by rw[List.getElem?_append_right (by omega),hlx];simp);have u1_:v7.cell? ⟨g5,k*3+1,none⟩=some (slice x1 n1 c1):=hr7.cells (by rw[List.getElem?_append_right (by omega),hlx];simp);have u2_:v7.cell? ⟨g5,k*3+2,none⟩=some (slice y1 m1 d1):=hr7.cells (by rw[List.getElem?_append_right (by omega),hlx];simp);have hcp:k+1<=cap5/\cap5<=9223372036854775807:=by
  rcases hr7.2 with⟨hv,_⟩|⟨_,_,_,hv,_,_,h5,h6,_⟩
  ·cases hv
  ·cases hv;unfold maxLen at h6;omega
 replace HB:=zk (bUp HB4.out F7);replace BM:=zk (BM4.out.q_ F7);replace HT:=zk (HT4.out.q_ F7);replace HX:=zk HX7;replace Q1:=zk Q7
 have HU:=zk (And.intro u0_ (And.intro u1_ u2_));have HCP:=zk hcp
 clear HB4 BM4 HT4 E4 F7 HX7 Q7 hlx u0_ u1_ u2_ hcp hr7 hk7 hb7 hg7 HRW hsz2;obtain⟨⟨ms,mx,mn,mc,mf,my,mm,md,mg⟩,mca,mck,mcc,mC,mra,mrk,mrc,mR⟩:=M';have hvm:vm=agg #[.bool ms,slice mx mn mc,slice my mm md,slice mca mck mcc,slice mra mrk mrc]:=HVM.out;clear HVM;subst hvm;obtain⟨N',hN'⟩:∃N',N'=(⟨⟨ms,mx,mn,mc,mf,my,mm,md,mg⟩,mca,mck,mcc,mC,mra,mrk,mrc,mR⟩:Mo):=⟨_,rfl⟩;have HNv:Hid (agg #[.bool ms,slice mx mn mc,slice my mm md,slice mca mck mcc,slice mra mrk mrc]=N'.val):=by rw[hN'];exact rfl
 rw[<-hN']at HT
 clear hN';go_upto_region 6 with fail
 have hbn:=zB v7 (cells #[.bool ms,slice mx mn mc,slice my mm md,slice mca mck mcc,slice mra mrk mrc] 28);have B5:=zk (zF v7 [.bool ms,slice mx mn mc,slice my mm md,slice mca mck mcc,slice mra mrk mrc] 28);have hU:=HU.out;replace HU:=zk (And.intro (kCb hbn hU.1) (And.intro (kCb hbn hU.2.1) (kCb hbn hU.2.2)));clear hU;replace HB:=zJ HB hbn;replace BM:=zk (BM.out.q_ hbn);replace HT:=zk (HT.out.q_ hbn);replace HX:=zk (HX.out.q_ hbn);replace Q1:=zk (Q1.out.q_ hbn)
 clear hbn;generalize hp5:v7.heap.size=p5 at *;generalize v7.alloc (cells #[.bool ms,slice mx mn mc,slice my mm md,slice mca mck mcc,slice mra mrk mrc] 28)=z1 at *;clear hp5;obtain⟨hc1,hc2⟩:=HCP.out;have hc3:(0:Int)<=((k:Nat):Int):=by omega
 have hc4:((k:Nat):Int)<=((cap5:Nat):Int):=by omega
 obtain⟨l0,l1,l2,l3,l4⟩:=bk5 B5.out;go_wp2_with fail
 clear l0 l1 l2 l3 l4;refine(AC.out _ _ N' _ _ _ ⟨HNv.out,HT.out⟩ HX.out).mono ?_;rintro e v9 ⟨a1,c3,rfl,hb,G1⟩;have F9:=zk hb;clear hb;obtain⟨l0,l1,l2,l3,l4⟩:=bk5 (B5.out.q_ F9.out);go_wp2_with fail
 clear l0 l1 l2 l3 l4;refine(AC.out _ _ N' _ _ _ ⟨HNv.out,HT.out.q_ F9.out⟩ (HX.out.q_ F9.out)).mono ?_;rintro e va ⟨a2,c4,rfl,hb,G2⟩;have FA:=zk hb;have EA:=zk (bUp F9.out hb);clear hb AC;obtain⟨l0,l1,l2,l3,l4⟩:=bk5 (B5.out.q_ EA.out);go_wp2_with fail
 clear l0 l1 l2 l3 l4;refine(VA.out _ _ N' _ _ _ ⟨HNv.out,HT.out.q_ EA.out⟩ (HX.out.q_ EA.out)).mono ?_;rintro e z2 ⟨vbv,rfl,hb⟩;have FB:=zk hb;have E2:=zk (bUp EA.out hb);clear hb VA;obtain⟨l0,l1,l2,l3,l4⟩:=bk5 (B5.out.q_ E2.out);go_wp2_with fail
 clear l0 l1 l2 l3 l4;refine(BK.out _ _ N' _ _ _ ⟨HNv.out,HT.out.q_ E2.out⟩ (HX.out.q_ E2.out)).mono ?_;rintro e z3 ⟨vbr,rfl,hb⟩;have F3:=zk hb;have E3:=zk (bUp E2.out hb)
 clear hb BK;obtain⟨r0,r1,r2,r3,r4⟩:=bk5 (BM.out.q_ E3.out);go_wp2_with fail
 clear r0 r1 r2 r3 r4;refine(DA.out _ (bUp HB.out E3.out)).mono ?_;rintro e z4 ⟨a3,c5,rfl,hb,G3⟩;have FD:=zk hb;have E5:=zk (bUp E3.out hb);have H24:=zk (bUp F3.out hb)
 have HA4:=zk (bUp FB.out H24.out);have H94:=zk (bUp FA.out HA4.out);clear hb DA;obtain⟨ok,hok⟩:∃ok:Nat->Prop,ok=(λb=>z1.heap.size<=b/\b<v9.heap.size):=⟨_,rfl⟩;have hmk:Mk ok z1.heap.size z4 (slice a1 r c3) r z4 0:=by
  have:=G1.out.mk (ok:=ok) H94.out (λb h1 h2=>by rw[hok];exact⟨h1,h2⟩);rw[hr]at this
  exact this
 have HM:=zk hmk;have HOK:=zk hok
 clear hmk hok hc1 hc2 hc3 hc4;go_wp2_with fail
 go_loopw[63] (λt wr=>∃j:Nat,j<=r/\t=.int .i64 j/\Hid (Mk ok z1.heap.size z4 (slice a1 r c3) r wr j)) (λt _=>r-(intOf t).toNat)
 case atStart=>exact⟨0,by omega,rfl,HM⟩
 case round =>
  clear HM;obtain⟨j,hj,rfl,HJ⟩:=hrel;by_cases hjlt:j<r
  ·obtain⟨g9,c9,s2,x2,k2,q2,b9,m9,d9,z9,e1,hgok,hgl,hfz,⟨x0_,x1_,x2_⟩,hm,hob,hq9,hfq⟩:=HJ.out.el j (le_refl _) hjlt;cases e1
   have j1:((j:Nat):Int)<((r:Nat):Int):=by omega
   have m0:(0:Int)<((m9:Nat):Int):=by omega
   have HJ1:=zk (HJ.out.den hq9 hob 5);have y0_:(wr.setCell ⟨b9,0,none⟩ (.int .u64 5)).cell? ⟨g9,j*3,none⟩=some (.bool s2):=zcl hq9 x0_ (λh=>by cases h);have y1_:(wr.setCell ⟨b9,0,none⟩ (.int .u64 5)).cell? ⟨g9,j*3+1,none⟩=some (slice x2 k2 q2):=zcl hq9 x1_ (λh=>by cases h);have y2_:(wr.setCell ⟨b9,0,none⟩ (.int .u64 5)).cell? ⟨g9,j*3+2,none⟩=some (slice (some ⟨b9,0,none⟩) m9 d9):=zcl hq9 x2_ (λh=>by cases h);have hgz:∀o,(wr.setCell ⟨b9,0,none⟩ (.int .u64 5)).frozen? ⟨g9,o,none⟩=false:=λo=>kFs (hfz o)
   have hgl':g9<(wr.setCell ⟨b9,0,none⟩ (.int .u64 5)).heap.size:=by simpa[World.setCell]using hgl
   go_wp2_with fail
   clear x0_ x1_ x2_ hq9 hfq HJ hfz hgl;generalize wr.setCell ⟨b9,0,none⟩ (.int .u64 5)=w5 at *;refine(zaE (by omega) (by omega)).mono ?_;rintro e w6 ⟨s4,x4,n4,c4_,f4,y4,m4,d4,g4,rfl,hb6',_⟩;have HJ2:=zk ((HJ1.out.q_ hb6').up (Nat.le_succ j));replace y0_:=kCb hb6' y0_;replace y1_:=kCb hb6' y1_;replace y2_:=kCb hb6' y2_
   have hfz:∀o,w6.frozen? ⟨g9,o,none⟩=false:=λo=>((zaH hb6').2 _ _ hgl').trans (hgz o)
   clear hb6' HJ1 hgz hgl';have HJ3:=zk (HJ2.out.set (u:=.bool s4) y0_ (λz h=>by cases h) (λz h=>by cases h) (by omega) hgok);have z1_:=kCo (u:=slice x2 k2 q2) (v:=.bool s4) (by omega:j*3≠j*3+1) y1_;have z2_:=kCo (v:=.bool s4) (by omega:j*3≠j*3+2) y2_;have HJ4:=zk (HJ3.out.set (u:=slice x4 n4 c4_) z1_ (λz h=>by cases h) (λz h=>by cases h) (by omega) hgok);have z3_:=kCo (v:=slice x4 n4 c4_) (by omega:j*3+1≠j*3+2) z2_;have HJ5:=zk (HJ4.out.set (u:=slice y4 m4 d4) z3_ (λz h=>by cases h) (λz h=>by cases h) (by omega) hgok);clear z1_ z2_ z3_ HJ2 HJ3 HJ4;go_wp2;go_roundw
   case rel=>exact⟨j+1,by omega,by go_num,HJ5.out⟩
   case measure=>simp[intOf];omega
  ·have e1:j=r:=by omega
   have j1:¬(((j:Nat):Int)<((r:Nat):Int)):=by omega
   have KW:=zk HJ.out.kq;obtain⟨xs,hrow⟩:=HJ.out.row;have HR:=zk hrow;clear hrow HJ e1;go_wp2_with fail
   refine(zik (z:=72) (by decide) (by decide)).mono ?_;rintro e w6 ⟨s4,x4,n4,c4_,f4,y4,m4,d4,g4,rfl,hb6,hq6,hd6⟩;have Q6:=zk hq6;have D6:=zk (hd6.base KW.out.size)
   replace KW:=zk (KW.out.q_ hb6);replace HR:=zk (HR.out.q_ hb6)
   have hsz:z1.heap.size<=w6.heap.size:=le_trans E5.out.size KW.out.size;clear hb6 hq6 hd6;go_wp2_with(at_builtin;go_must (refine zO w6 rfl (.tmp 79) (.tmp 81) 29 rfl z1.heap.size 24 56 3 (agg #[.bool false,slice none 0 0,slice none 0 0]) underlying29 zaR rfl (by decide) nz3 (slice a1 r c3) r xs rfl HR.out #[.bool s4,slice x4 n4 c4_,slice y4 m4 d4] rfl rfl (zdo _ _ _ _ _ _ _) (zcB _ _ _ _ _ _ _) ?p1 (by decide) hsz ?_))
   case p1=>omega
   intro g8 cap8 w8 hr8 hk8 hb8 hg8;have hnok:∀b,(b<z1.heap.size∨v9.heap.size<=b)->¬ok b:=λb h1 h2=>by
    rw[HOK.out]at h2
    have:=F9.out.size;rcases h1 with h1|h1 <;> omega
   have hB0:Bl z1 w8:=hb8 z1 (KW.out.blw E5.out (λb h=>hnok b (.inl h))) (le_refl _);have hown:∀b,v9.heap.size<=b->(Value.slice a1 r c3).ownBlock≠some b:=λb h1 h2=>by
    obtain⟨T0,hT0,_⟩:=G1.out;have:=(hT0.lt b h2).2;omega
   have hkp:∀b,v9.heap.size<=b->b<z4.heap.size->w8.heap[b]?=z4.heap[b]?:=λb h1 h2=>(hg8 b (Nat.lt_of_lt_of_le h2 KW.out.size) (hown b h1)).trans (KW.out.block b h2 (hnok b (.inr h1)))
   have s1_:=FA.out.size;have s2_:=FB.out.size;have s4_:=F3.out.size;have s5_:=FD.out.size;have s7_:=F9.out.size;have s8_:=HA4.out.size
   have Q8:Rn 4 w8 s4 x4 n4 c4_ f4 y4 m4 d4 g4 72:=Rn.kp Q6.out hk8;have D8:=D6.out.kpu hk8;have hxs:xs.length=r*3:=HR.out.1;have e0:w8.cell? ⟨g8,r*3,none⟩=some (.bool s4):=hr8.cells (by rw[List.getElem?_append_right (by omega),hxs];simp);have e1:w8.cell? ⟨g8,r*3+1,none⟩=some (slice x4 n4 c4_):=hr8.cells (by rw[List.getElem?_append_right (by omega),hxs];simp);have e2:w8.cell? ⟨g8,r*3+2,none⟩=some (slice y4 m4 d4):=hr8.cells (by rw[List.getElem?_append_right (by omega),hxs];simp);have R2:=zk (G2.out.keep (w':=w8) (λb h3 h4=>(hkp b h3 (by omega)).trans (HA4.out.block b h4))).rf;have R3:=zk (G3.out.keep (w':=w8) (λb h3 h4=>hkp b (by omega) h4)).rf;have QF:=zk Q8;have hBF:=hB0;clear hnok hown hxs hr8 hk8 hb8 hg8 KW HR hsz HOK Q6 D6 hB0 hkp Q8 D8;go_upto_region 19 with fail
   generalize w8=wF at *;have hBx:=hBF;replace HB:=zJ HB hBx;replace BM:=zk (BM.out.q_ hBx);replace HT:=zk (HT.out.q_ hBx);replace HX:=zk (HX.out.q_ hBx);replace Q1:=zk (Q1.out.q_ hBx);replace B5:=zk (B5.out.q_ hBx)
   have hU:=HU.out;replace HU:=zk (And.intro (kCb hBx hU.1) (And.intro (kCb hBx hU.2.1) (kCb hBx hU.2.2)));clear hBx hBF hU s1_ s2_ s4_ s5_ s7_ s8_ G1 G2 G3 F9 FA FB F3 FD E2 E3 E5 EA H24 HA4 H94;obtain⟨r0,r1,r2,r3,r4⟩:=bk5 BM.out;obtain⟨l0,l1,l2,l3,l4⟩:=bk5 B5.out;obtain⟨u0_,u1_,u2_⟩:=HU.out;have hbd:=Below.drew (Below.refl wF.heap.size wF);replace HB:=zJ HB hbd;replace HT:=zk (HT.out.q_ hbd);replace HX:=zk (HX.out.q_ hbd);replace R2:=zk (R2.out.q_ hbd);replace R3:=zk (R3.out.q_ hbd);replace QF:=zk (QF.out.q_ hbd);replace Q1:=zk (Q1.out.q_ hbd)
   refine wp_region_held_drew (S:=(λw'=>w'.cell? ⟨w.heap.size,0,none⟩=some (.bool s)/\w'.cell? ⟨w.heap.size,1,none⟩=some (slice x n c)/\w'.cell? ⟨w.heap.size,2,none⟩=some (slice y m d)/\w'.cell? ⟨w.heap.size,3,none⟩=some (slice ca ck cc)/\w'.cell? ⟨w.heap.size,4,none⟩=some (slice ra rk rc)/\w'.cell? ⟨p5,0,none⟩=some (.bool ms)/\w'.cell? ⟨p5,1,none⟩=some (slice mx mn mc)/\w'.cell? ⟨p5,2,none⟩=some (slice my mm md)/\w'.cell? ⟨p5,3,none⟩=some (slice mca mck mcc)/\w'.cell? ⟨p5,4,none⟩=some (slice mra mrk mrc)/\w'.cell? ⟨g5,k*3,none⟩=some (.bool s1)/\w'.cell? ⟨g5,k*3+1,none⟩=some (slice x1 n1 c1)/\w'.cell? ⟨g5,k*3+2,none⟩=some (slice y1 m1 d1)/\w'.cell? ⟨g8,r*3,none⟩=some (.bool s4)/\w'.cell? ⟨g8,r*3+1,none⟩=some (slice x4 n4 c4_)/\w'.cell? ⟨g8,r*3+2,none⟩=some (slice y4 m4 d4))) (by kernel_rfl) ?_ (λhHeld=>?_)
   ·exact⟨kCd r0,kCd r1,kCd r2,kCd r3,kCd r4,kCd l0,kCd l1,kCd l2,kCd l3,kCd l4,kCd u0_,kCd u1_,kCd u2_,kCd e0,kCd e1,kCd e2⟩
   generalize wF.drew=wd8 at *;clear hbd BM B5 HU r0 r1 r2 r3 r4 l0 l1 l2 l3 l4 u0_ u1_ u2_ e0 e1 e2;refine zK 0 ?_;refine zK 1 ?_;simp only[zA,Act.put];refine rdO 2 (λK hK=>?_);go_simp
   go_at_call 14
   refine(SM.out _ _ N' HB.out ⟨HNv.out,HT.out⟩).mono ?_;rintro e u1 ⟨rfl,hc⟩
   (try go_wp2_with fail)
   refine hK.out _ _ ?_ (λhH1=>?_)
   ·exact⟨kCb hc hHeld.1,kCb hc hHeld.2.1,kCb hc hHeld.2.2.1,kCb hc hHeld.2.2.2.1,kCb hc hHeld.2.2.2.2.1,kCb hc hHeld.2.2.2.2.2.1,kCb hc hHeld.2.2.2.2.2.2.1,kCb hc hHeld.2.2.2.2.2.2.2.1,kCb hc hHeld.2.2.2.2.2.2.2.2.1,kCb hc hHeld.2.2.2.2.2.2.2.2.2.1,kCb hc hHeld.2.2.2.2.2.2.2.2.2.2.1,kCb hc hHeld.2.2.2.2.2.2.2.2.2.2.2.1,kCb hc hHeld.2.2.2.2.2.2.2.2.2.2.2.2.1,kCb hc hHeld.2.2.2.2.2.2.2.2.2.2.2.2.2.1,kCb hc hHeld.2.2.2.2.2.2.2.2.2.2.2.2.2.2.1,kCb hc hHeld.2.2.2.2.2.2.2.2.2.2.2.2.2.2.2⟩
   clear hK K;try simp only[zA,Act.put]
   replace HB:=zJ HB hc;replace HX:=zk (HX.out.q_ hc);replace R2:=zk (R2.out.q_ hc);replace R3:=zk (R3.out.q_ hc);replace QF:=zk (QF.out.q_ hc);replace Q1:=zk (Q1.out.q_ hc)
   clear hc hHeld;clear SM HT;refine zK 3 ?_;refine zK 4 ?_;refine zK 5 ?_;simp only[zA,Act.put];refine rdO 6 (λK hK=>?_);go_simp
   go_at_call 15
   refine(SP.out _ _ _ _ HB.out HX.out).mono ?_;rintro e u2 ⟨rfl,hc⟩
   (try go_wp2_with fail)
   refine hK.out _ _ ?_ (λhH2=>?_)
   ·exact⟨kCb hc hH1.1,kCb hc hH1.2.1,kCb hc hH1.2.2.1,kCb hc hH1.2.2.2.1,kCb hc hH1.2.2.2.2.1,kCb hc hH1.2.2.2.2.2.1,kCb hc hH1.2.2.2.2.2.2.1,kCb hc hH1.2.2.2.2.2.2.2.1,kCb hc hH1.2.2.2.2.2.2.2.2.1,kCb hc hH1.2.2.2.2.2.2.2.2.2.1,kCb hc hH1.2.2.2.2.2.2.2.2.2.2.1,kCb hc hH1.2.2.2.2.2.2.2.2.2.2.2.1,kCb hc hH1.2.2.2.2.2.2.2.2.2.2.2.2.1,kCb hc hH1.2.2.2.2.2.2.2.2.2.2.2.2.2.1,kCb hc hH1.2.2.2.2.2.2.2.2.2.2.2.2.2.2.1,kCb hc hH1.2.2.2.2.2.2.2.2.2.2.2.2.2.2.2⟩
   clear hK K;try simp only[zA,Act.put]
   replace HB:=zJ HB hc;replace R2:=zk (R2.out.q_ hc);replace R3:=zk (R3.out.q_ hc);replace QF:=zk (QF.out.q_ hc);replace Q1:=zk (Q1.out.q_ hc)
   clear hc hH1;clear SP HX;refine zK 7 ?_;refine zK 8 ?_;refine zK 9 ?_;simp only[zA,Act.put];refine zK 10 ?_;refine zK 11 ?_;simp only[zA,Act.put];have i7:(0:Int)<=((k:Nat):Int)/\((k:Nat):Int)<((k:Nat):Int)+1:=by omega
   have j6:=i7.1;have j7:=i7.2
   refine zK 12 ?_;refine zK 13 ?_;simp only[zA,Act.put];refine rdO 14 (λK hK=>?_);go_simp
   go_at_call 9
   refine(zaE (z:=71) (by decide) (by decide)).mono ?_;rintro e u3 ⟨s7,x7,n7,c7,f7,y7,m7,d7,g7,rfl,hc,hq7⟩
   (try go_wp2_with fail)
   refine hK.out _ _ ?_ (λhH3=>?_)
   ·exact⟨kCb hc hH2.1,kCb hc hH2.2.1,kCb hc hH2.2.2.1,kCb hc hH2.2.2.2.1,kCb hc hH2.2.2.2.2.1,kCb hc hH2.2.2.2.2.2.1,kCb hc hH2.2.2.2.2.2.2.1,kCb hc hH2.2.2.2.2.2.2.2.1,kCb hc hH2.2.2.2.2.2.2.2.2.1,kCb hc hH2.2.2.2.2.2.2.2.2.2.1,kCb hc hH2.2.2.2.2.2.2.2.2.2.2.1,kCb hc hH2.2.2.2.2.2.2.2.2.2.2.2.1,kCb hc hH2.2.2.2.2.2.2.2.2.2.2.2.2.1,kCb hc hH2.2.2.2.2.2.2.2.2.2.2.2.2.2.1,kCb hc hH2.2.2.2.2.2.2.2.2.2.2.2.2.2.2.1,kCb hc hH2.2.2.2.2.2.2.2.2.2.2.2.2.2.2.2⟩
   clear hK K;try simp only[zA,Act.put]
   have QA:=zk hq7;replace HB:=zJ HB hc;replace R2:=zk (R2.out.q_ hc);replace R3:=zk (R3.out.q_ hc);replace QF:=zk (QF.out.q_ hc);replace Q1:=zk (Q1.out.q_ hc)
   clear hc hH2 hq7;refine rdO 15 (λK hK=>?_);go_simp
   go_at_call 16
   refine(zbZ Q1.out QA.out (by decide) (by decide)).mono ?_;rintro e u4 ⟨rfl,hc⟩
   (try go_wp2_with fail)
   refine hK.out _ _ ?_ (λhH4=>?_)
   ·exact⟨kCb hc hH3.1,kCb hc hH3.2.1,kCb hc hH3.2.2.1,kCb hc hH3.2.2.2.1,kCb hc hH3.2.2.2.2.1,kCb hc hH3.2.2.2.2.2.1,kCb hc hH3.2.2.2.2.2.2.1,kCb hc hH3.2.2.2.2.2.2.2.1,kCb hc hH3.2.2.2.2.2.2.2.2.1,kCb hc hH3.2.2.2.2.2.2.2.2.2.1,kCb hc hH3.2.2.2.2.2.2.2.2.2.2.1,kCb hc hH3.2.2.2.2.2.2.2.2.2.2.2.1,kCb hc hH3.2.2.2.2.2.2.2.2.2.2.2.2.1,kCb hc hH3.2.2.2.2.2.2.2.2.2.2.2.2.2.1,kCb hc hH3.2.2.2.2.2.2.2.2.2.2.2.2.2.2.1,kCb hc hH3.2.2.2.2.2.2.2.2.2.2.2.2.2.2.2⟩
   clear hK K;try simp only[zA,Act.put]
   replace HB:=zJ HB hc;replace R2:=zk (R2.out.q_ hc);replace R3:=zk (R3.out.q_ hc);replace QF:=zk (QF.out.q_ hc)
   clear hc hH3;clear Q1 QA;refine zK 16 ?_;refine zK 17 ?_;refine zK 18 ?_;simp only[zA,Act.put];refine zK 19 ?_;simp only[zA,Act.put];refine rdO 20 (λK hK=>?_);go_simp
   go_at_call 15
   refine(zll (L:=KV 8) (L':=2*(2*KZ 8)) R2.out R3.out hr (by omega) (by decide) (by decide)).mono ?_;rintro e u5 ⟨rfl,hc⟩
   (try go_wp2_with fail)
   refine hK.out _ _ ?_ (λhH5=>?_)
   ·exact⟨kCb hc hH4.1,kCb hc hH4.2.1,kCb hc hH4.2.2.1,kCb hc hH4.2.2.2.1,kCb hc hH4.2.2.2.2.1,kCb hc hH4.2.2.2.2.2.1,kCb hc hH4.2.2.2.2.2.2.1,kCb hc hH4.2.2.2.2.2.2.2.1,kCb hc hH4.2.2.2.2.2.2.2.2.1,kCb hc hH4.2.2.2.2.2.2.2.2.2.1,kCb hc hH4.2.2.2.2.2.2.2.2.2.2.1,kCb hc hH4.2.2.2.2.2.2.2.2.2.2.2.1,kCb hc hH4.2.2.2.2.2.2.2.2.2.2.2.2.1,kCb hc hH4.2.2.2.2.2.2.2.2.2.2.2.2.2.1,kCb hc hH4.2.2.2.2.2.2.2.2.2.2.2.2.2.2.1,kCb hc hH4.2.2.2.2.2.2.2.2.2.2.2.2.2.2.2⟩
   clear hK K;try simp only[zA,Act.put]
   replace HB:=zJ HB hc;replace QF:=zk (QF.out.q_ hc)
   clear hc hH4;clear R2 R3;refine zK 21 ?_;refine zK 22 ?_;refine zK 23 ?_;simp only[zA,Act.put];refine zK 24 ?_;refine zK 25 ?_;refine zK 26 ?_;simp only[zA,Act.put];have i8:IntKind.i64.wrap ((r:Nat):Int)=((r:Nat):Int):=by rw[IntKind.wrap_i64];omega
   simp only[i8];have i9:(0:Int)<=((r:Nat):Int)/\((r:Nat):Int)<((r:Nat):Int)+1:=by omega
   have j8:=i9.1;have j9:=i9.2
   refine zK 27 ?_;refine zK 28 ?_;simp only[zA,Act.put];refine rdO 29 (λK hK=>?_);go_simp
   go_at_call 9
   refine(zaE (z:=72) (by decide) (by decide)).mono ?_;rintro e u6 ⟨s7,x7,n7,c7,f7,y7,m7,d7,g7,rfl,hc,hq7⟩
   (try go_wp2_with fail)
   refine hK.out _ _ ?_ (λhH6=>?_)
   ·exact⟨kCb hc hH5.1,kCb hc hH5.2.1,kCb hc hH5.2.2.1,kCb hc hH5.2.2.2.1,kCb hc hH5.2.2.2.2.1,kCb hc hH5.2.2.2.2.2.1,kCb hc hH5.2.2.2.2.2.2.1,kCb hc hH5.2.2.2.2.2.2.2.1,kCb hc hH5.2.2.2.2.2.2.2.2.1,kCb hc hH5.2.2.2.2.2.2.2.2.2.1,kCb hc hH5.2.2.2.2.2.2.2.2.2.2.1,kCb hc hH5.2.2.2.2.2.2.2.2.2.2.2.1,kCb hc hH5.2.2.2.2.2.2.2.2.2.2.2.2.1,kCb hc hH5.2.2.2.2.2.2.2.2.2.2.2.2.2.1,kCb hc hH5.2.2.2.2.2.2.2.2.2.2.2.2.2.2.1,kCb hc hH5.2.2.2.2.2.2.2.2.2.2.2.2.2.2.2⟩
   clear hK K;try simp only[zA,Act.put]
   have QB:=zk hq7;replace HB:=zJ HB hc;replace QF:=zk (QF.out.q_ hc)
   clear hc hH5 hq7;refine rdO 30 (λK hK=>?_);go_simp
   go_at_call 16
   refine(zbZ QF.out QB.out (by decide) (by decide)).mono ?_;rintro e u7 ⟨rfl,hc⟩
   (try go_wp2_with fail)
   refine hK.out _ _ ?_ (λhH7=>?_)
   ·exact⟨kCb hc hH6.1,kCb hc hH6.2.1,kCb hc hH6.2.2.1,kCb hc hH6.2.2.2.1,kCb hc hH6.2.2.2.2.1,kCb hc hH6.2.2.2.2.2.1,kCb hc hH6.2.2.2.2.2.2.1,kCb hc hH6.2.2.2.2.2.2.2.1,kCb hc hH6.2.2.2.2.2.2.2.2.1,kCb hc hH6.2.2.2.2.2.2.2.2.2.1,kCb hc hH6.2.2.2.2.2.2.2.2.2.2.1,kCb hc hH6.2.2.2.2.2.2.2.2.2.2.2.1,kCb hc hH6.2.2.2.2.2.2.2.2.2.2.2.2.1,kCb hc hH6.2.2.2.2.2.2.2.2.2.2.2.2.2.1,kCb hc hH6.2.2.2.2.2.2.2.2.2.2.2.2.2.2.1,kCb hc hH6.2.2.2.2.2.2.2.2.2.2.2.2.2.2.2⟩
   clear hK K;try simp only[zA,Act.put]
   replace HB:=zJ HB hc;clear hc hH6;clear QF QB;refine zK 31 ?_;refine zK 32 ?_;simp only[zA,Act.put];refine dnO ?_;go_wp2;go_ret;exact⟨rfl,HB.out⟩
end Go.Proofs.YtlbgphjdibbkjaaGreat
