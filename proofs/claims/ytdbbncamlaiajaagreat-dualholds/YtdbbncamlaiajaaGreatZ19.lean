/-
 The walks of law11's num, col, half, best and first (written by makers/du9.py). The walk of package dual's Holds, whatever it is handed (written by makers/du8.py). Dual's calls by values; the walk of law11's awake (written by makers/du10.py). The walk of package farkas' through, with any visitor (written by makers/fk1.py). The walks of package farkas' small calls, and of the visitors that set a flag: anyInfinite, anyBelow. The walks of package farkas' plus, times, weight, noughts, allZero (written by makers/fk3.py). The walk of the visitor that adds up bounds with their multipliers (written by makers/fk4.py). The walks of package farkas' check and Combine, whatever they are handed (written by makers/fk5.py). The walk of package farkas' Valid, whatever it is handed (written by makers/fk6.py). The walk of package farkas' Crossing, whatever it is handed (written by makers/fk7.py). The walks of law12's num, one, first (written by makers/fk8.py). Farkas' calls by values; the walk of law12's awake (written by makers/fk9.py). Law12's light, the reference's Twin of a certificate; farkas' calls on twins (written by makers/fk10.py). What multipliers show of a point; crossed bounds have multipliers that show that there is none. What multipliers show of a point, and what is left between (the gaps). A drawn region as a flow in which some operations (T: they only read, or take values apart) are carried out as soon as they can be: so that what comes last need not wait for them. No Go text is named here. Values of a flow: twins, answers with a number, boxes. Law11's light, the reference's Twin of a point, KKT points by their parts (written by makers/du13.py). The walks of the reference's Holds and DocHolds of a KKT point (written by makers/rs4.py).
-/
import Derived.Test.YtdbbncamlaiajaaGreatZ18
import Derived.Test.YtdbbncamlaiajaaGreatZ7
import Derived.Test.YtdbbncamlaiajaaGreatZ16
import Derived.BigRegion
import Derived.Test.YtdbbncamlaiajaaGreatZ0
import Derived.Test.YtdbbncamlaiajaaGreatZ14
import Derived.Test.YtdbbncamlaiajaaGreatZ8
import Derived.Test.YtdbbncamlaiajaaGreatZ13
import Derived.Test.YtdbbncamlaiajaaGreatZ10
import Derived.BigQuiet
namespace Go.Proofs.YtdbbncamlaiajaaGreat
open Go.RowKit
set_option maxRecDepth 100000 in
set_option maxHeartbeats 4000000 in
theorem num11_c {w:World} {z:Int} (h0:-1000≤z) (h1:z≤1000):Calls Tryz.prog 25 #[.int .i64 z] w fun e w'=>∃v,e=.returned v∧Below w.heap.size w w'∧GX 8 0 (z:Rat) v w':=by
 have HB:=hid (below_alloc (Below.refl w.heap.size w) (.cells #[.int .i64 0,.bool false,.slice none 0 0,.slice none 0 0] 42));have BR:Hid (Bk (w.alloc (.cells #[.int .i64 0,.bool false,.slice none 0 0,.slice none 0 0] 42)) w.heap.size [.int .i64 0,.bool false,.slice none 0 0,.slice none 0 0] 42):=bk_new w [.int .i64 0,.bool false,.slice none 0 0,.slice none 0 0] 42;go_enter Tryz.func25,Tryz.ntmps25;go_wp2_with fail
 generalize w.alloc (.cells #[.int .i64 0,.bool false,.slice none 0 0,.slice none 0 0] 42)=w0 at *;refine (docOfQ_c (z:=z) (by omega) (by omega)).mono ?_;rintro e w1 ⟨s,x,n,c,f,y,m,d,g,rfl,hb,hr⟩;replace HB:=hid (HB.out.trans (hb.mono HB.out.size));replace BR:=hid (BR.out.below hb)
 obtain ⟨hx1,hx2,hx3⟩:=st_new [.int .i64 0,.bool s,.slice x n c,.slice y m d] BR.out (nou_list (fun u hu q=>by simp at hu;rcases hu with rfl | rfl | rfl | rfl <;> simp)) HB.out (Nat.le_refl _);have l0:=BR.out.cell (j:=0) rfl;have l1:=BR.out.cell (j:=1) rfl;have l2:=BR.out.cell (j:=2) rfl;have l3:=BR.out.cell (j:=3) rfl;have ff:=BR.out.frozen;have HX:Hid (Below w.heap.size w (stl w.heap.size 0 [.int .i64 0,.bool s,.slice x n c,.slice y m d] w1)∧GX 8 0 (z:Rat) (.agg #[.int .i64 0,.bool s,.slice x n c,.slice y m d]) (stl w.heap.size 0 [.int .i64 0,.bool s,.slice x n c,.slice y m d] w1)):=⟨hx1,⟨0,⟨s,x,n,c,f,y,m,d,g⟩⟩,rfl,rfl,(Rn.kp hr hx2).mono (by decide)⟩;clear hx1 hx2 hx3 hb hr HB;go_wp2;exact bodyPost_ret (v:=.agg #[.int .i64 0,.bool s,.slice x n c,.slice y m d]) (by simp [results,Tryz.results25,go_sem,l0,l1,l2,l3]) rfl ⟨_,rfl,HX.out⟩
set_option maxRecDepth 100000 in
set_option maxHeartbeats 4000000 in
theorem col11_c {w:World} {z:ByteArray}:Calls Tryz.prog 53 #[.string z] w fun e w'=>∃v,e=.returned v∧Below w.heap.size w w'∧GC 8 ⟨z,-1,0,0,0,4⟩ v w':=by
 have HB:=hid (below_alloc (Below.refl w.heap.size w) (.cells #[.string ⟨#[]⟩,.bool false,.slice none 0 0,.slice none 0 0,.int .i64 0,.bool false,.slice none 0 0,.slice none 0 0,.int .i64 0,.bool false,.slice none 0 0,.slice none 0 0] 65));have O0:Hid (Bk (w.alloc (.cells #[.string ⟨#[]⟩,.bool false,.slice none 0 0,.slice none 0 0,.int .i64 0,.bool false,.slice none 0 0,.slice none 0 0,.int .i64 0,.bool false,.slice none 0 0,.slice none 0 0] 65)) w.heap.size [.string ⟨#[]⟩,.bool false,.slice none 0 0,.slice none 0 0,.int .i64 0,.bool false,.slice none 0 0,.slice none 0 0,.int .i64 0,.bool false,.slice none 0 0,.slice none 0 0] 65):=bk_new w [.string ⟨#[]⟩,.bool false,.slice none 0 0,.slice none 0 0,.int .i64 0,.bool false,.slice none 0 0,.slice none 0 0,.int .i64 0,.bool false,.slice none 0 0,.slice none 0 0] 65;go_enter Tryz.func53,Tryz.ntmps53;go_wp2_with fail
 generalize w.alloc (.cells #[.string ⟨#[]⟩,.bool false,.slice none 0 0,.slice none 0 0,.int .i64 0,.bool false,.slice none 0 0,.slice none 0 0,.int .i64 0,.bool false,.slice none 0 0,.slice none 0 0] 65)=w0 at *;refine (docOfQ_c (z:=(-1)) (by decide) (by decide)).mono ?_;rintro e w1 ⟨s1,x1,n1,c1,f1,y1,m1,d1,g1,rfl,hb,hr⟩;replace HB:=hid (HB.out.trans (hb.mono HB.out.size));replace O0:=hid (O0.out.below hb)
 have R1:=hid (hr.mono (show 4≤8 by decide));clear hb hr;go_wp2_with fail
 refine (num11_c (z:=0) (by decide) (by decide)).mono ?_;rintro e w2 ⟨v2,rfl,hb,⟨⟨i2,⟨s2,x2,n2,c2,f2,y2,m2,d2,g2⟩⟩,ev,hi2,hv⟩⟩;replace ev:v2=.agg #[.int .i64 i2,.bool s2,.slice x2 n2 c2,.slice y2 m2 d2]:=ev;subst ev;replace HB:=hid (HB.out.trans (hb.mono HB.out.size));replace O0:=hid (O0.out.below hb);replace R1:=hid (R1.out.below hb)
 replace hi2:i2=0:=hi2;subst hi2;have R2:=hid (show Rn 8 w2 s2 x2 n2 c2 f2 y2 m2 d2 g2 (0:Int) from hv);clear hb hv;go_wp2_with fail
 refine (num11_c (z:=4) (by decide) (by decide)).mono ?_;rintro e w3 ⟨v3,rfl,hb,⟨⟨i3,⟨s3,x3,n3,c3,f3,y3,m3,d3,g3⟩⟩,ev,hi3,hv⟩⟩;replace ev:v3=.agg #[.int .i64 i3,.bool s3,.slice x3 n3 c3,.slice y3 m3 d3]:=ev;subst ev;replace HB:=hid (HB.out.trans (hb.mono HB.out.size));replace O0:=hid (O0.out.below hb);replace R1:=hid (R1.out.below hb);replace R2:=hid (R2.out.below hb)
 replace hi3:i3=0:=hi3;subst hi3;have R3:=hid (show Rn 8 w3 s3 x3 n3 c3 f3 y3 m3 d3 g3 (4:Int) from hv);clear hb hv;obtain ⟨hx1,hx2,hx3⟩:=st_new [.string z,.bool s1,.slice x1 n1 c1,.slice y1 m1 d1,.int .i64 0,.bool s2,.slice x2 n2 c2,.slice y2 m2 d2,.int .i64 0,.bool s3,.slice x3 n3 c3,.slice y3 m3 d3] O0.out (nou_list (fun u hu q=>by simp at hu;rcases hu with rfl | rfl | rfl | rfl | rfl | rfl | rfl | rfl | rfl <;> simp)) HB.out (Nat.le_refl _);have l0:=O0.out.cell (j:=0) rfl;have l1:=O0.out.cell (j:=1) rfl;have l2:=O0.out.cell (j:=2) rfl;have l3:=O0.out.cell (j:=3) rfl;have l4:=O0.out.cell (j:=4) rfl;have l5:=O0.out.cell (j:=5) rfl;have l6:=O0.out.cell (j:=6) rfl;have l7:=O0.out.cell (j:=7) rfl;have l8:=O0.out.cell (j:=8) rfl;have l9:=O0.out.cell (j:=9) rfl;have l10:=O0.out.cell (j:=10) rfl;have l11:=O0.out.cell (j:=11) rfl;have ff:=O0.out.frozen;have HX:Hid (Below w.heap.size w (stl w.heap.size 0 [.string z,.bool s1,.slice x1 n1 c1,.slice y1 m1 d1,.int .i64 0,.bool s2,.slice x2 n2 c2,.slice y2 m2 d2,.int .i64 0,.bool s3,.slice x3 n3 c3,.slice y3 m3 d3] w3)∧GC 8 ⟨z,-1,0,0,0,4⟩ (.agg #[.string z,.bool s1,.slice x1 n1 c1,.slice y1 m1 d1,.int .i64 0,.bool s2,.slice x2 n2 c2,.slice y2 m2 d2,.int .i64 0,.bool s3,.slice x3 n3 c3,.slice y3 m3 d3]) (stl w.heap.size 0 [.string z,.bool s1,.slice x1 n1 c1,.slice y1 m1 d1,.int .i64 0,.bool s2,.slice x2 n2 c2,.slice y2 m2 d2,.int .i64 0,.bool s3,.slice x3 n3 c3,.slice y3 m3 d3] w3)):=⟨hx1,⟨⟨z,⟨s1,x1,n1,c1,f1,y1,m1,d1,g1⟩,⟨0,⟨s2,x2,n2,c2,f2,y2,m2,d2,g2⟩⟩,⟨0,⟨s3,x3,n3,c3,f3,y3,m3,d3,g3⟩⟩⟩,rfl,rfl,Rn.kp R1.out hx2,rfl,Rn.kp R2.out hx2,rfl,Rn.kp R3.out hx2⟩⟩;clear hx1 hx2 hx3 HB O0;go_wp2;exact bodyPost_ret (v:=.agg #[.string z,.bool s1,.slice x1 n1 c1,.slice y1 m1 d1,.int .i64 0,.bool s2,.slice x2 n2 c2,.slice y2 m2 d2,.int .i64 0,.bool s3,.slice x3 n3 c3,.slice y3 m3 d3]) (by simp [results,Tryz.results53,go_sem,l0,l1,l2,l3,l4,l5,l6,l7,l8,l9,l10,l11]) rfl ⟨_,rfl,HX.out⟩
theorem mh_lo:Lo 4 (((-1:Int):Rat)/2):=⟨by decide +kernel,by decide +kernel⟩
set_option maxRecDepth 100000 in
set_option maxHeartbeats 4000000 in
theorem half11_c {w:World} {z:Int} (h0:-1000≤z) (h1:z≤1000) (hl:Lo 4 ((z:Rat)/2)):Calls Tryz.prog 21 #[.int .i64 z] w fun e w'=>∃s x n c f y m d g,e=.returned (.agg #[.bool s,.slice x n c,.slice y m d])∧Below w.heap.size w w'∧Hid (Rn 4 w' s x n c f y m d g ((z:Rat)/2)):=by
 have HB:=hid (below_alloc (Below.refl w.heap.size w) (.cells #[.bool false,.slice none 0 0,.slice none 0 0] 24));have O0:Hid (Bk (w.alloc (.cells #[.bool false,.slice none 0 0,.slice none 0 0] 24)) w.heap.size [.bool false,.slice none 0 0,.slice none 0 0] 24):=bk_new w [.bool false,.slice none 0 0,.slice none 0 0] 24;go_enter Tryz.func21,Tryz.ntmps21;go_wp2_with fail
 generalize w.alloc (.cells #[.bool false,.slice none 0 0,.slice none 0 0] 24)=w0 at *;refine (qInt_c (z:=z) (by omega) (by omega)).mono ?_;rintro e w1 ⟨s1,x1,n1,c1,d1,y1,m1,e1,g1,rfl,hb,hn1,hm1,hq⟩;replace HB:=hid (HB.out.trans (hb.mono HB.out.size));replace O0:=hid (O0.out.below hb)
 have Q1:=hid hq;clear hb hq;go_wp2_with fail
 refine (qInt_c (z:=2) (by decide) (by decide)).mono ?_;rintro e w2 ⟨s2,x2,n2,c2,d2,y2,m2,e2,g2,rfl,hb,hn2,hm2,hq⟩;replace HB:=hid (HB.out.trans (hb.mono HB.out.size));replace O0:=hid (O0.out.below hb);replace Q1:=hid (Q1.out.below hb)
 have Q2:=hid hq;clear hb hq;go_wp2_with fail
 refine (qQuo_c Q1.out Q2.out (by omega) (by omega) (by omega) (by omega) (by decide)).mono ?_;rintro e w3 ⟨s3,x3,n3,c3,d3,y3,m3,e3,g3,rfl,hb,hn3,hm3,hq⟩;replace HB:=hid (HB.out.trans (hb.mono HB.out.size));replace O0:=hid (O0.out.below hb);replace Q1:=hid (Q1.out.below hb);replace Q2:=hid (Q2.out.below hb)
 have Q3:=hid hq;clear hb hq;go_wp2_with fail
 refine (qToR_c Q3.out (by omega) (by omega)).mono ?_;rintro e w4 ⟨z4,k4,t4,f4,v4,l4,u4,g4,rfl,hb,hr⟩;replace HB:=hid (HB.out.trans (hb.mono HB.out.size));replace O0:=hid (O0.out.below hb);replace Q1:=hid (Q1.out.below hb);replace Q2:=hid (Q2.out.below hb);replace Q3:=hid (Q3.out.below hb)
 have R4:=hid (hr.out.cut (show Lo 4 ((z:Rat)/((2:Int):Rat)) from hl));clear hb hr Q1 Q2 Q3;obtain ⟨hx1,hx2,hx3⟩:=st_new [.bool s3,.slice z4 k4 t4,.slice v4 l4 u4] O0.out (nou_list (fun u hu q=>by simp at hu;rcases hu with rfl | rfl <;> simp)) HB.out (Nat.le_refl _);have l0:=O0.out.cell (j:=0) rfl;have l1:=O0.out.cell (j:=1) rfl;have l2:=O0.out.cell (j:=2) rfl;have ff:=O0.out.frozen;have HX:Hid (Below w.heap.size w (stl w.heap.size 0 [.bool s3,.slice z4 k4 t4,.slice v4 l4 u4] w4)∧Hid (Rn 4 (stl w.heap.size 0 [.bool s3,.slice z4 k4 t4,.slice v4 l4 u4] w4) s3 z4 k4 t4 f4 v4 l4 u4 g4 ((z:Rat)/2))):=⟨hx1,hid (Rn.kp R4.out hx2)⟩;clear hx1 hx2 hx3 HB O0;go_wp2;exact bodyPost_ret (v:=.agg #[.bool s3,.slice z4 k4 t4,.slice v4 l4 u4]) (by simp [results,Tryz.results21,go_sem,l0,l1,l2]) rfl ⟨_,_,_,_,_,_,_,_,_,rfl,HX.out⟩
theorem nobP {w:World} {B o:Nat} {s:Bool} {x1 x2 x3:Option Addr} {n1 n2 n3 c1 c2 c3:Nat} {t:TypeId} (h:Bk w B [.slice x1 n1 c1,.slice x2 n2 c2,.slice x3 n3 c3] t):w.cell? ⟨B,o,none⟩≠some (.bool s):=fun e=>by
 unfold Bk at h;simp only [World.cell?,h] at e
 match o,e with
 | 0,e=>simp at e
 | 1,e=>simp at e
 | 2,e=>simp at e
 | o+3,e=>simp at e
theorem Rf.kpo {L w w' ao} {B:Nat} {p:List Rat} (h:Rf L w ao p) (hk:Kp w w') (hne:∀k,k≠B→w'.heap[k]?=w.heap[k]?) (hno:∀o s,w.cell? ⟨B,o,none⟩≠some (.bool s)):Rf L w' ao p:=fun j q e=>by
 obtain ⟨b,o,t,h1,h2,h3⟩:=h j q e;have hb:b≠B:=fun e'=>by subst e';exact hno _ _ h2.x0
 have hc:∀i,w'.cell? ⟨b,i,none⟩=w.cell? ⟨b,i,none⟩:=fun i=>by simp only [World.cell?,hne b hb]
 exact ⟨b,o,t,h1,⟨(hc _).trans h2.x0,(hc _).trans h2.x1,(hc _).trans h2.x2⟩,Rn.kp h3 hk⟩
set_option maxRecDepth 100000 in
set_option maxHeartbeats 4000000 in
theorem best11_c {w:World}:Calls Tryz.prog 23 #[] w fun e w'=>∃a b c,e=.returned (.agg #[.slice a 2 2,.slice b 1 1,.slice c 2 2])∧Below w.heap.size w w'∧Hid (Rf 8 w' a [((4:Int):Rat),((1:Int):Rat)]∧Rf 8 w' b [((-1:Int):Rat)/2]∧Rf 8 w' c [((-1:Int):Rat)/2,((0:Int):Rat)]):=by
 have HB:=hid (below_alloc (Below.refl w.heap.size w) (.cells #[.slice none 0 0,.slice none 0 0,.slice none 0 0] 50));have O0:Hid (Bk (w.alloc (.cells #[.slice none 0 0,.slice none 0 0,.slice none 0 0] 50)) w.heap.size [.slice none 0 0,.slice none 0 0,.slice none 0 0] 50):=bk_new w [.slice none 0 0,.slice none 0 0,.slice none 0 0] 50;go_enter Tryz.func23,Tryz.ntmps23;go_wp2_with fail
 generalize w.alloc (.cells #[.slice none 0 0,.slice none 0 0,.slice none 0 0] 50)=w0 at *;refine (docOfQ_c (z:=4) (by decide) (by decide)).mono ?_;rintro e w1 ⟨s1,x1,n1,c1,f1,y1,m1,d1,g1,rfl,hb,hr⟩;replace HB:=hid (HB.out.trans (hb.mono HB.out.size));replace O0:=hid (O0.out.below hb)
 have R1:=hid (hr.mono (show 4≤8 by decide));clear hb hr;go_wp2_with fail
 refine (docOfQ_c (z:=1) (by decide) (by decide)).mono ?_;rintro e w2 ⟨s2,x2,n2,c2,f2,y2,m2,d2,g2,rfl,hb,hr⟩;replace HB:=hid (HB.out.trans (hb.mono HB.out.size));replace O0:=hid (O0.out.below hb);replace R1:=hid (R1.out.below hb)
 have R2:=hid (hr.mono (show 4≤8 by decide));clear hb hr;have hn:=below_alloc (Below.refl w2.heap.size w2) (.cells #[.bool s1,.slice x1 n1 c1,.slice y1 m1 d1,.bool s2,.slice x2 n2 c2,.slice y2 m2 d2] 24);have X1:=hid (show Rf 8 (w2.alloc (.cells #[.bool s1,.slice x1 n1 c1,.slice y1 m1 d1,.bool s2,.slice x2 n2 c2,.slice y2 m2 d2] 24)) (some ⟨w2.heap.size,0,none⟩) [((4:Int):Rat),((1:Int):Rat)] from rf_two (R1.out.mono (by decide)) (R2.out.mono (by decide)));replace HB:=hid (HB.out.trans (hn.mono HB.out.size));replace O0:=hid (O0.out.below hn);replace R1:=hid (R1.out.below hn);replace R2:=hid (R2.out.below hn)
 clear hn;go_wp2_with fail
 generalize w2.alloc (.cells #[.bool s1,.slice x1 n1 c1,.slice y1 m1 d1,.bool s2,.slice x2 n2 c2,.slice y2 m2 d2] 24)=vX1 at *;generalize w2.heap.size=pX1 at *;refine (half11_c (z:=(-1)) (by decide) (by decide) mh_lo).mono ?_;rintro e w3 ⟨s3,x3,n3,c3,f3,y3,m3,d3,g3,rfl,hb,hr⟩;replace HB:=hid (HB.out.trans (hb.mono HB.out.size));replace O0:=hid (O0.out.below hb);replace R1:=hid (R1.out.below hb);replace R2:=hid (R2.out.below hb);replace X1:=hid (X1.out.below hb)
 have R3:=hid hr.out;clear hb hr;have hn:=below_alloc (Below.refl w3.heap.size w3) (.cells #[.bool s3,.slice x3 n3 c3,.slice y3 m3 d3] 24);have X2:=hid (show Rf 8 (w3.alloc (.cells #[.bool s3,.slice x3 n3 c3,.slice y3 m3 d3] 24)) (some ⟨w3.heap.size,0,none⟩) [((-1:Int):Rat)/2] from (gr_one (base:=0) (R3.out.mono (by decide)) (Nat.zero_le _)).rf);replace HB:=hid (HB.out.trans (hn.mono HB.out.size));replace O0:=hid (O0.out.below hn);replace R1:=hid (R1.out.below hn);replace R2:=hid (R2.out.below hn);replace X1:=hid (X1.out.below hn);replace R3:=hid (R3.out.below hn)
 clear hn;go_wp2_with fail
 generalize w3.alloc (.cells #[.bool s3,.slice x3 n3 c3,.slice y3 m3 d3] 24)=vX2 at *;generalize w3.heap.size=pX2 at *;refine (half11_c (z:=(-1)) (by decide) (by decide) mh_lo).mono ?_;rintro e w4 ⟨s4,x4,n4,c4,f4,y4,m4,d4,g4,rfl,hb,hr⟩;replace HB:=hid (HB.out.trans (hb.mono HB.out.size));replace O0:=hid (O0.out.below hb);replace R1:=hid (R1.out.below hb);replace R2:=hid (R2.out.below hb);replace X1:=hid (X1.out.below hb);replace R3:=hid (R3.out.below hb);replace X2:=hid (X2.out.below hb)
 have R4:=hid hr.out;clear hb hr;go_wp2_with fail
 refine (docOfQ_c (z:=0) (by decide) (by decide)).mono ?_;rintro e w5 ⟨s5,x5,n5,c5,f5,y5,m5,d5,g5,rfl,hb,hr⟩;replace HB:=hid (HB.out.trans (hb.mono HB.out.size));replace O0:=hid (O0.out.below hb);replace R1:=hid (R1.out.below hb);replace R2:=hid (R2.out.below hb);replace X1:=hid (X1.out.below hb);replace R3:=hid (R3.out.below hb);replace X2:=hid (X2.out.below hb);replace R4:=hid (R4.out.below hb)
 have R5:=hid (hr.mono (show 4≤8 by decide));clear hb hr;have hn:=below_alloc (Below.refl w5.heap.size w5) (.cells #[.bool s4,.slice x4 n4 c4,.slice y4 m4 d4,.bool s5,.slice x5 n5 c5,.slice y5 m5 d5] 24);have X3:=hid (show Rf 8 (w5.alloc (.cells #[.bool s4,.slice x4 n4 c4,.slice y4 m4 d4,.bool s5,.slice x5 n5 c5,.slice y5 m5 d5] 24)) (some ⟨w5.heap.size,0,none⟩) [((-1:Int):Rat)/2,((0:Int):Rat)] from rf_two (R4.out.mono (by decide)) (R5.out.mono (by decide)));replace HB:=hid (HB.out.trans (hn.mono HB.out.size));replace O0:=hid (O0.out.below hn);replace R1:=hid (R1.out.below hn);replace R2:=hid (R2.out.below hn);replace X1:=hid (X1.out.below hn);replace R3:=hid (R3.out.below hn);replace X2:=hid (X2.out.below hn);replace R4:=hid (R4.out.below hn);replace R5:=hid (R5.out.below hn)
 clear hn R1 R2 R3 R4 R5;obtain ⟨hx1,hx2,hx3⟩:=st_new [.slice (some ⟨pX1,0,none⟩) 2 2,.slice (some ⟨pX2,0,none⟩) 1 1,.slice (some ⟨w5.heap.size,0,none⟩) 2 2] O0.out (nou_list (fun u hu q=>by simp at hu;subst hu;simp)) HB.out (Nat.le_refl _);have l0:=O0.out.cell (j:=0) rfl;have l1:=O0.out.cell (j:=1) rfl;have l2:=O0.out.cell (j:=2) rfl;have ff:=O0.out.frozen;have HX:Hid (Below w.heap.size w (stl w.heap.size 0 [.slice (some ⟨pX1,0,none⟩) 2 2,.slice (some ⟨pX2,0,none⟩) 1 1,.slice (some ⟨w5.heap.size,0,none⟩) 2 2] (w5.alloc (.cells #[.bool s4,.slice x4 n4 c4,.slice y4 m4 d4,.bool s5,.slice x5 n5 c5,.slice y5 m5 d5] 24)))∧Hid (Rf 8 (stl w.heap.size 0 [.slice (some ⟨pX1,0,none⟩) 2 2,.slice (some ⟨pX2,0,none⟩) 1 1,.slice (some ⟨w5.heap.size,0,none⟩) 2 2] (w5.alloc (.cells #[.bool s4,.slice x4 n4 c4,.slice y4 m4 d4,.bool s5,.slice x5 n5 c5,.slice y5 m5 d5] 24))) (some ⟨pX1,0,none⟩) [((4:Int):Rat),((1:Int):Rat)]∧Rf 8 (stl w.heap.size 0 [.slice (some ⟨pX1,0,none⟩) 2 2,.slice (some ⟨pX2,0,none⟩) 1 1,.slice (some ⟨w5.heap.size,0,none⟩) 2 2] (w5.alloc (.cells #[.bool s4,.slice x4 n4 c4,.slice y4 m4 d4,.bool s5,.slice x5 n5 c5,.slice y5 m5 d5] 24))) (some ⟨pX2,0,none⟩) [((-1:Int):Rat)/2]∧Rf 8 (stl w.heap.size 0 [.slice (some ⟨pX1,0,none⟩) 2 2,.slice (some ⟨pX2,0,none⟩) 1 1,.slice (some ⟨w5.heap.size,0,none⟩) 2 2] (w5.alloc (.cells #[.bool s4,.slice x4 n4 c4,.slice y4 m4 d4,.bool s5,.slice x5 n5 c5,.slice y5 m5 d5] 24))) (some ⟨w5.heap.size,0,none⟩) [((-1:Int):Rat)/2,((0:Int):Rat)])):=⟨hx1,hid ⟨X1.out.kpo hx2 hx3 (fun o s=>nobP O0.out),X2.out.kpo hx2 hx3 (fun o s=>nobP O0.out),X3.out.kpo hx2 hx3 (fun o s=>nobP O0.out)⟩⟩;clear hx1 hx2 hx3 HB O0;go_wp2;exact bodyPost_ret (v:=.agg #[.slice (some ⟨pX1,0,none⟩) 2 2,.slice (some ⟨pX2,0,none⟩) 1 1,.slice (some ⟨w5.heap.size,0,none⟩) 2 2]) (by simp [results,Tryz.results23,go_sem,l0,l1,l2]) rfl ⟨_,_,_,rfl,HX.out⟩
def k2C:List CV:=[⟨⟨#[120]⟩,-1,0,0,0,4⟩,⟨⟨#[121]⟩,-1,0,0,0,4⟩]
def k2R:List RV:=[⟨⟨#[114]⟩,-1,0,0,6,[(0,1),(1,2)]⟩]
set_option maxRecDepth 100000 in
set_option maxHeartbeats 8000000 in
theorem first11_c {w:World}:Calls Tryz.prog 20 #[] w fun e w'=>∃M:Mo,e=.returned M.val∧Below w.heap.size w w'∧Hid (MoV 8 w' M 3 k2C k2R):=by
 have HB:=hid (below_alloc (Below.refl w.heap.size w) (.cells #[.bool false,.slice none 0 0,.slice none 0 0,.slice none 0 0,.slice none 0 0] 28));have O0:Hid (Bk (w.alloc (.cells #[.bool false,.slice none 0 0,.slice none 0 0,.slice none 0 0,.slice none 0 0] 28)) w.heap.size [.bool false,.slice none 0 0,.slice none 0 0,.slice none 0 0,.slice none 0 0] 28):=bk_new w [.bool false,.slice none 0 0,.slice none 0 0,.slice none 0 0,.slice none 0 0] 28;go_enter Tryz.func20,Tryz.ntmps20;go_wp2_with fail
 generalize w.alloc (.cells #[.bool false,.slice none 0 0,.slice none 0 0,.slice none 0 0,.slice none 0 0] 28)=w0 at *;refine (docOfQ_c (z:=3) (by decide) (by decide)).mono ?_;rintro e w1 ⟨s1,x1,n1,c1,f1,y1,m1,d1,g1,rfl,hb,hr⟩;replace HB:=hid (HB.out.trans (hb.mono HB.out.size));replace O0:=hid (O0.out.below hb)
 have R1:=hid (hr.mono (show 4≤8 by decide));clear hb hr;go_wp2_with fail
 refine (col11_c (z:=⟨#[120]⟩)).mono ?_;rintro e w2 ⟨v2,rfl,hb,⟨⟨z2,⟨sb2,xb2,nb2,cb2,fb2,yb2,mb2,db2,gb2⟩,⟨ic2,⟨sc2,xc2,nc2,cc2,fc2,yc2,mc2,dc2,gc2⟩⟩,⟨id2,⟨sd2,xd2,nd2,cd2,fd2,yd2,md2,dd2,gd2⟩⟩⟩,ev,hv⟩⟩;replace ev:v2=.agg #[.string z2,.bool sb2,.slice xb2 nb2 cb2,.slice yb2 mb2 db2,.int .i64 ic2,.bool sc2,.slice xc2 nc2 cc2,.slice yc2 mc2 dc2,.int .i64 id2,.bool sd2,.slice xd2 nd2 cd2,.slice yd2 md2 dd2]:=ev;subst ev;replace HB:=hid (HB.out.trans (hb.mono HB.out.size));replace O0:=hid (O0.out.below hb);replace R1:=hid (R1.out.below hb)
 have R2:=hid hv;clear hb hv;go_wp2_with fail
 refine (col11_c (z:=⟨#[121]⟩)).mono ?_;rintro e w3 ⟨v3,rfl,hb,⟨⟨z3,⟨sb3,xb3,nb3,cb3,fb3,yb3,mb3,db3,gb3⟩,⟨ic3,⟨sc3,xc3,nc3,cc3,fc3,yc3,mc3,dc3,gc3⟩⟩,⟨id3,⟨sd3,xd3,nd3,cd3,fd3,yd3,md3,dd3,gd3⟩⟩⟩,ev,hv⟩⟩;replace ev:v3=.agg #[.string z3,.bool sb3,.slice xb3 nb3 cb3,.slice yb3 mb3 db3,.int .i64 ic3,.bool sc3,.slice xc3 nc3 cc3,.slice yc3 mc3 dc3,.int .i64 id3,.bool sd3,.slice xd3 nd3 cd3,.slice yd3 md3 dd3]:=ev;subst ev;replace HB:=hid (HB.out.trans (hb.mono HB.out.size));replace O0:=hid (O0.out.below hb);replace R1:=hid (R1.out.below hb);replace R2:=hid (R2.out.below hb)
 have R3:=hid hv;clear hb hv;have hn:=below_alloc (Below.refl w3.heap.size w3) (.cells #[.string z2,.bool sb2,.slice xb2 nb2 cb2,.slice yb2 mb2 db2,.int .i64 ic2,.bool sc2,.slice xc2 nc2 cc2,.slice yc2 mc2 dc2,.int .i64 id2,.bool sd2,.slice xd2 nd2 cd2,.slice yd2 md2 dd2,.string z3,.bool sb3,.slice xb3 nb3 cb3,.slice yb3 mb3 db3,.int .i64 ic3,.bool sc3,.slice xc3 nc3 cc3,.slice yc3 mc3 dc3,.int .i64 id3,.bool sd3,.slice xd3 nd3 cd3,.slice yd3 md3 dd3] 65);have HC:Hid (Cs (w3.alloc (.cells #[.string z2,.bool sb2,.slice xb2 nb2 cb2,.slice yb2 mb2 db2,.int .i64 ic2,.bool sc2,.slice xc2 nc2 cc2,.slice yc2 mc2 dc2,.int .i64 id2,.bool sd2,.slice xd2 nd2 cd2,.slice yd2 md2 dd2,.string z3,.bool sb3,.slice xb3 nb3 cb3,.slice yb3 mb3 db3,.int .i64 ic3,.bool sc3,.slice xc3 nc3 cc3,.slice yc3 mc3 dc3,.int .i64 id3,.bool sd3,.slice xd3 nd3 cd3,.slice yd3 md3 dd3] 65)) w3.heap.size 0 [.string z2,.bool sb2,.slice xb2 nb2 cb2,.slice yb2 mb2 db2,.int .i64 ic2,.bool sc2,.slice xc2 nc2 cc2,.slice yc2 mc2 dc2,.int .i64 id2,.bool sd2,.slice xd2 nd2 cd2,.slice yd2 md2 dd2]∧Cs (w3.alloc (.cells #[.string z2,.bool sb2,.slice xb2 nb2 cb2,.slice yb2 mb2 db2,.int .i64 ic2,.bool sc2,.slice xc2 nc2 cc2,.slice yc2 mc2 dc2,.int .i64 id2,.bool sd2,.slice xd2 nd2 cd2,.slice yd2 md2 dd2,.string z3,.bool sb3,.slice xb3 nb3 cb3,.slice yb3 mb3 db3,.int .i64 ic3,.bool sc3,.slice xc3 nc3 cc3,.slice yc3 mc3 dc3,.int .i64 id3,.bool sd3,.slice xd3 nd3 cd3,.slice yd3 md3 dd3] 65)) w3.heap.size 12 [.string z3,.bool sb3,.slice xb3 nb3 cb3,.slice yb3 mb3 db3,.int .i64 ic3,.bool sc3,.slice xc3 nc3 cc3,.slice yc3 mc3 dc3,.int .i64 id3,.bool sd3,.slice xd3 nd3 cd3,.slice yd3 md3 dd3]):=cs_app w3 65 [.string z2,.bool sb2,.slice xb2 nb2 cb2,.slice yb2 mb2 db2,.int .i64 ic2,.bool sc2,.slice xc2 nc2 cc2,.slice yc2 mc2 dc2,.int .i64 id2,.bool sd2,.slice xd2 nd2 cd2,.slice yd2 md2 dd2] [.string z3,.bool sb3,.slice xb3 nb3 cb3,.slice yb3 mb3 db3,.int .i64 ic3,.bool sc3,.slice xc3 nc3 cc3,.slice yc3 mc3 dc3,.int .i64 id3,.bool sd3,.slice xd3 nd3 cd3,.slice yd3 md3 dd3];replace HB:=hid (HB.out.trans (hn.mono HB.out.size));replace O0:=hid (O0.out.below hn);replace R1:=hid (R1.out.below hn);replace R2:=hid (R2.out.below hn);replace R3:=hid (R3.out.below hn)
 clear hn;go_wp2_with fail
 generalize hw8:w3.alloc (.cells #[.string z2,.bool sb2,.slice xb2 nb2 cb2,.slice yb2 mb2 db2,.int .i64 ic2,.bool sc2,.slice xc2 nc2 cc2,.slice yc2 mc2 dc2,.int .i64 id2,.bool sd2,.slice xd2 nd2 cd2,.slice yd2 md2 dd2,.string z3,.bool sb3,.slice xb3 nb3 cb3,.slice yb3 mb3 db3,.int .i64 ic3,.bool sc3,.slice xc3 nc3 cc3,.slice yc3 mc3 dc3,.int .i64 id3,.bool sd3,.slice xd3 nd3 cd3,.slice yd3 md3 dd3] 65)=w4 at *;clear hw8;generalize w3.heap.size=bc at *;have HC1:=hid HC.out.1;have HC2:=hid HC.out.2
 clear HC;refine (xLow_c).mono ?_;rintro e w5 ⟨s5,x5,n5,c5,f5,y5,m5,d5,g5,rfl,hb,hF⟩;replace HB:=hid (HB.out.trans (hb.mono HB.out.size));replace O0:=hid (O0.out.below hb);replace R1:=hid (R1.out.below hb);replace R2:=hid (R2.out.below hb);replace R3:=hid (R3.out.below hb);replace HC1:=hid (HC1.out.below hb);replace HC2:=hid (HC2.out.below hb)
 clear hb;go_wp2_with fail
 refine (xTo_c hF.out.2.2 (by have:=hF.out;omega) (by have:=hF.out;omega)).mono ?_;rintro e w6 ⟨x6,n6,c6,f6,y6,m6,d6,g6,rfl,hb,hE⟩;replace HB:=hid (HB.out.trans (hb.mono HB.out.size));replace O0:=hid (O0.out.below hb);replace R1:=hid (R1.out.below hb);replace R2:=hid (R2.out.below hb);replace R3:=hid (R3.out.below hb);replace HC1:=hid (HC1.out.below hb);replace HC2:=hid (HC2.out.below hb)
 have R6:=hid (hE.out.rn.mono (show _≤8 by have:=hF.out;omega));clear hb hE hF;generalize s5=s6 at *;go_wp2_with fail
 refine (num11_c (z:=6) (by decide) (by decide)).mono ?_;rintro e w7 ⟨v7,rfl,hb,⟨⟨i7,⟨s7,x7,n7,c7,f7,y7,m7,d7,g7⟩⟩,ev,hi7,hv⟩⟩;replace ev:v7=.agg #[.int .i64 i7,.bool s7,.slice x7 n7 c7,.slice y7 m7 d7]:=ev;subst ev;replace HB:=hid (HB.out.trans (hb.mono HB.out.size));replace O0:=hid (O0.out.below hb);replace R1:=hid (R1.out.below hb);replace R2:=hid (R2.out.below hb);replace R3:=hid (R3.out.below hb);replace HC1:=hid (HC1.out.below hb);replace HC2:=hid (HC2.out.below hb);replace R6:=hid (R6.out.below hb)
 replace hi7:i7=0:=hi7;subst hi7;have R7:=hid (show Rn 8 w7 s7 x7 n7 c7 f7 y7 m7 d7 g7 (6:Int) from hv);clear hb hv;go_wp2_with fail
 refine (docOfQ_c (z:=1) (by decide) (by decide)).mono ?_;rintro e w8 ⟨s8,x8,n8,c8,f8,y8,m8,d8,g8,rfl,hb,hr⟩;replace HB:=hid (HB.out.trans (hb.mono HB.out.size));replace O0:=hid (O0.out.below hb);replace R1:=hid (R1.out.below hb);replace R2:=hid (R2.out.below hb);replace R3:=hid (R3.out.below hb);replace HC1:=hid (HC1.out.below hb);replace HC2:=hid (HC2.out.below hb);replace R6:=hid (R6.out.below hb);replace R7:=hid (R7.out.below hb)
 have R8:=hid (hr.mono (show 4≤8 by decide));clear hb hr;go_wp2_with fail
 refine (docOfQ_c (z:=2) (by decide) (by decide)).mono ?_;rintro e w9 ⟨s9,x9,n9,c9,f9,y9,m9,d9,g9,rfl,hb,hr⟩;replace HB:=hid (HB.out.trans (hb.mono HB.out.size));replace O0:=hid (O0.out.below hb);replace R1:=hid (R1.out.below hb);replace R2:=hid (R2.out.below hb);replace R3:=hid (R3.out.below hb);replace HC1:=hid (HC1.out.below hb);replace HC2:=hid (HC2.out.below hb);replace R6:=hid (R6.out.below hb);replace R7:=hid (R7.out.below hb);replace R8:=hid (R8.out.below hb)
 have R9:=hid (hr.mono (show 4≤8 by decide));clear hb hr;have hn:=below_alloc (Below.refl w9.heap.size w9) (.cells #[.int .i64 0,.bool s8,.slice x8 n8 c8,.slice y8 m8 d8,.int .i64 1,.bool s9,.slice x9 n9 c9,.slice y9 m9 d9] 70);have HT:Hid (GT [(0,⟨s8,x8,n8,c8,f8,y8,m8,d8,g8⟩),(1,⟨s9,x9,n9,c9,f9,y9,m9,d9,g9⟩)] (.slice (some ⟨w9.heap.size,0,none⟩) 2 2) (w9.alloc (.cells #[.int .i64 0,.bool s8,.slice x8 n8 c8,.slice y8 m8 d8,.int .i64 1,.bool s9,.slice x9 n9 c9,.slice y9 m9 d9] 70))):=gt_new2 w9 70 0 1 ⟨s8,x8,n8,c8,f8,y8,m8,d8,g8⟩ ⟨s9,x9,n9,c9,f9,y9,m9,d9,g9⟩;replace HB:=hid (HB.out.trans (hn.mono HB.out.size));replace O0:=hid (O0.out.below hn);replace R1:=hid (R1.out.below hn);replace R2:=hid (R2.out.below hn);replace R3:=hid (R3.out.below hn);replace HC1:=hid (HC1.out.below hn);replace HC2:=hid (HC2.out.below hn);replace R6:=hid (R6.out.below hn);replace R7:=hid (R7.out.below hn);replace R8:=hid (R8.out.below hn);replace R9:=hid (R9.out.below hn)
 clear hn;have hn:=below_alloc (Below.refl (w9.alloc (.cells #[.int .i64 0,.bool s8,.slice x8 n8 c8,.slice y8 m8 d8,.int .i64 1,.bool s9,.slice x9 n9 c9,.slice y9 m9 d9] 70)).heap.size (w9.alloc (.cells #[.int .i64 0,.bool s8,.slice x8 n8 c8,.slice y8 m8 d8,.int .i64 1,.bool s9,.slice x9 n9 c9,.slice y9 m9 d9] 70))) (.cells #[.string ⟨#[114]⟩,.int .i64 (-1),.bool s6,.slice x6 n6 c6,.slice y6 m6 d6,.int .i64 0,.bool s7,.slice x7 n7 c7,.slice y7 m7 d7,.slice (some ⟨w9.heap.size,0,none⟩) 2 2] 68);have HRs:Hid (Cs ((w9.alloc (.cells #[.int .i64 0,.bool s8,.slice x8 n8 c8,.slice y8 m8 d8,.int .i64 1,.bool s9,.slice x9 n9 c9,.slice y9 m9 d9] 70)).alloc (.cells #[.string ⟨#[114]⟩,.int .i64 (-1),.bool s6,.slice x6 n6 c6,.slice y6 m6 d6,.int .i64 0,.bool s7,.slice x7 n7 c7,.slice y7 m7 d7,.slice (some ⟨w9.heap.size,0,none⟩) 2 2] 68)) (w9.alloc (.cells #[.int .i64 0,.bool s8,.slice x8 n8 c8,.slice y8 m8 d8,.int .i64 1,.bool s9,.slice x9 n9 c9,.slice y9 m9 d9] 70)).heap.size 0 [.string ⟨#[114]⟩,.int .i64 (-1),.bool s6,.slice x6 n6 c6,.slice y6 m6 d6,.int .i64 0,.bool s7,.slice x7 n7 c7,.slice y7 m7 d7,.slice (some ⟨w9.heap.size,0,none⟩) 2 2]):=cs_new (w9.alloc (.cells #[.int .i64 0,.bool s8,.slice x8 n8 c8,.slice y8 m8 d8,.int .i64 1,.bool s9,.slice x9 n9 c9,.slice y9 m9 d9] 70)) 68 [.string ⟨#[114]⟩,.int .i64 (-1),.bool s6,.slice x6 n6 c6,.slice y6 m6 d6,.int .i64 0,.bool s7,.slice x7 n7 c7,.slice y7 m7 d7,.slice (some ⟨w9.heap.size,0,none⟩) 2 2] [.string ⟨#[114]⟩,.int .i64 (-1),.bool s6,.slice x6 n6 c6,.slice y6 m6 d6,.int .i64 0,.bool s7,.slice x7 n7 c7,.slice y7 m7 d7,.slice (some ⟨w9.heap.size,0,none⟩) 2 2] 0 (fun j v e=>by rw [Nat.zero_add];exact e);replace HB:=hid (HB.out.trans (hn.mono HB.out.size));replace O0:=hid (O0.out.below hn);replace R1:=hid (R1.out.below hn);replace R2:=hid (R2.out.below hn);replace R3:=hid (R3.out.below hn);replace HC1:=hid (HC1.out.below hn);replace HC2:=hid (HC2.out.below hn);replace R6:=hid (R6.out.below hn);replace R7:=hid (R7.out.below hn);replace R8:=hid (R8.out.below hn);replace R9:=hid (R9.out.below hn);replace HT:=hid (HT.out.below hn)
 clear hn;rw [size_alloc1] at HRs;have HMo:Hid (MoV 8 ((w9.alloc (.cells #[.int .i64 0,.bool s8,.slice x8 n8 c8,.slice y8 m8 d8,.int .i64 1,.bool s9,.slice x9 n9 c9,.slice y9 m9 d9] 70)).alloc (.cells #[.string ⟨#[114]⟩,.int .i64 (-1),.bool s6,.slice x6 n6 c6,.slice y6 m6 d6,.int .i64 0,.bool s7,.slice x7 n7 c7,.slice y7 m7 d7,.slice (some ⟨w9.heap.size,0,none⟩) 2 2] 68)) ⟨⟨s1,x1,n1,c1,f1,y1,m1,d1,g1⟩,some ⟨bc,0,none⟩,2,2,(fun j=>if j=0 then ⟨z2,⟨sb2,xb2,nb2,cb2,fb2,yb2,mb2,db2,gb2⟩,⟨ic2,⟨sc2,xc2,nc2,cc2,fc2,yc2,mc2,dc2,gc2⟩⟩,⟨id2,⟨sd2,xd2,nd2,cd2,fd2,yd2,md2,dd2,gd2⟩⟩⟩ else ⟨z3,⟨sb3,xb3,nb3,cb3,fb3,yb3,mb3,db3,gb3⟩,⟨ic3,⟨sc3,xc3,nc3,cc3,fc3,yc3,mc3,dc3,gc3⟩⟩,⟨id3,⟨sd3,xd3,nd3,cd3,fd3,yd3,md3,dd3,gd3⟩⟩⟩),some ⟨w9.heap.size+1,0,none⟩,1,1,fun _=>⟨⟨#[114]⟩,⟨-1,⟨s6,x6,n6,c6,f6,y6,m6,d6,g6⟩⟩,⟨0,⟨s7,x7,n7,c7,f7,y7,m7,d7,g7⟩⟩,some ⟨w9.heap.size,0,none⟩,2,2,(fun p=>if p=0 then 0 else 1),(fun p=>if p=0 then ⟨s8,x8,n8,c8,f8,y8,m8,d8,g8⟩ else ⟨s9,x9,n9,c9,f9,y9,m9,d9,g9⟩)⟩⟩ 3 k2C k2R):=by
  refine ⟨R1.out,rfl,rfl,fun j v e=>?_,fun j v e=>?_⟩
  ·match j,e with
   | 0,e=>cases e;exact ⟨⟨_,0,rfl,HC1.out⟩,R2.out⟩
   | 1,e=>cases e;exact ⟨⟨_,0,rfl,HC2.out⟩,R3.out⟩
  ·match j,e with
   | 0,e =>
    cases e
    obtain ⟨bt,et,ht⟩:=HT.out;have et2:w9.heap.size=bt:=by injection et with et;injection et with et;injection et
    subst et2;refine ⟨⟨_,0,rfl,HRs.out⟩,rfl,rfl,R6.out,rfl,R7.out,rfl,fun p z q e=>?_⟩
    match p,e with
    | 0,e=>cases e;exact ⟨rfl,R8.out,_,0,rfl,ht 0 _ _ rfl⟩
    | 1,e=>cases e;exact ⟨rfl,R9.out,_,0,rfl,ht 1 _ _ rfl⟩
 obtain ⟨hk1,hk2⟩:=kp_st5 (v0:=.bool s1) (v1:=.slice x1 n1 c1) (v2:=.slice y1 m1 d1) (v3:=.slice (some ⟨bc,0,none⟩) 2 2) (v4:=.slice (some ⟨w9.heap.size+1,0,none⟩) 1 1) O0.out (nou5 _ _ _ _ _ _ _ _ _ _ _ _ _) rfl;have HM2:=hid (HMo.out.kp hk1 hk2 (noc5 O0.out));have HB2:=hid (below_st5 (u0:=.bool s1) (u1:=.slice x1 n1 c1) (u2:=.slice y1 m1 d1) (u3:=.slice (some ⟨bc,0,none⟩) 2 2) (u4:=.slice (some ⟨w9.heap.size+1,0,none⟩) 1 1) HB.out (Nat.le_refl w.heap.size));have l0:=O0.out.cell (j:=0) rfl;have l1:=O0.out.cell (j:=1) rfl;have l2:=O0.out.cell (j:=2) rfl;have l3:=O0.out.cell (j:=3) rfl;have l4:=O0.out.cell (j:=4) rfl;have ff:=O0.out.frozen;clear hk1 hk2 HMo HB O0 R1 R2 R3 R6 R7 R8 R9 HC1 HC2 HT HRs;go_wp2;exact bodyPost_ret (v:=.agg #[.bool s1,.slice x1 n1 c1,.slice y1 m1 d1,.slice (some ⟨bc,0,none⟩) 2 2,.slice (some ⟨w9.heap.size+1,0,none⟩) 1 1]) (by simp [results,Tryz.results20,go_sem,l0,l1,l2,l3,l4]) rfl ⟨⟨⟨s1,x1,n1,c1,f1,y1,m1,d1,g1⟩,some ⟨bc,0,none⟩,2,2,(fun j=>if j=0 then ⟨z2,⟨sb2,xb2,nb2,cb2,fb2,yb2,mb2,db2,gb2⟩,⟨ic2,⟨sc2,xc2,nc2,cc2,fc2,yc2,mc2,dc2,gc2⟩⟩,⟨id2,⟨sd2,xd2,nd2,cd2,fd2,yd2,md2,dd2,gd2⟩⟩⟩ else ⟨z3,⟨sb3,xb3,nb3,cb3,fb3,yb3,mb3,db3,gb3⟩,⟨ic3,⟨sc3,xc3,nc3,cc3,fc3,yc3,mc3,dc3,gc3⟩⟩,⟨id3,⟨sd3,xd3,nd3,cd3,fd3,yd3,md3,dd3,gd3⟩⟩⟩),some ⟨w9.heap.size+1,0,none⟩,1,1,fun _=>⟨⟨#[114]⟩,⟨-1,⟨s6,x6,n6,c6,f6,y6,m6,d6,g6⟩⟩,⟨0,⟨s7,x7,n7,c7,f7,y7,m7,d7,g7⟩⟩,some ⟨w9.heap.size,0,none⟩,2,2,(fun p=>if p=0 then 0 else 1),(fun p=>if p=0 then ⟨s8,x8,n8,c8,f8,y8,m8,d8,g8⟩ else ⟨s9,x9,n9,c9,f9,y9,m9,d9,g9⟩)⟩⟩,rfl,HB2.out,HM2.out⟩
theorem sq_nf {a b:Nm} (h:sqB a b=true):nfB b=nfB a∧nq b=nq a:=by
 obtain ⟨s,x,n,c,f,y,m,d,g⟩:=a;obtain ⟨s',x',n',c',f',y',m',d',g'⟩:=b;obtain ⟨h1,⟨h2,h3⟩,⟨h4,h5⟩⟩:=sq_iff.1 h;simp only at h1 h2 h3 h4 h5;subst h1;subst h2;subst h4
 have e1:vf f' n=vf f n:=(vf_congr h3).symm;have e2:vf g' m=vf g m:=(vf_congr h5).symm;have e3:∀{u v:Nat→Int} {k:Nat},(∀j,j<k→u j=v j)→fmB v k=fmB u k:=fun {u v k} hu=>by
  cases k with
  | zero=>rfl
  | succ k=>unfold fmB;rw [hu (k+1-1) (by omega)]
 constructor
 ·show rfB s f' n g' m=rfB s f n g m;unfold rfB wfB;rw [e1,e2,e3 h3,e3 h5]
 ·show mkRat (wv s f' n) (wv false g' m).toNat=mkRat (wv s f n) (wv false g m).toNat;unfold wv;rw [e1,e2]
theorem eqf_iff {α:Type} {e:α→α→Bool} {X Y:Nat→α}:∀{r i:Nat},eqf e X Y r i=true ↔ ∀j,i≤j→j<i+r→e (X j) (Y j)=true
 | 0,_=>⟨fun _ j a b=>by omega,fun _=>rfl⟩
 | r+1,i=>by
  simp only [eqf,Bool.and_eq_true,eqf_iff (r:=r)];constructor
  ·rintro ⟨h1,h2⟩ j a b;by_cases e:j=i
   ·subst e;exact h1
   ·exact h2 j (by omega) (by omega)
  ·exact fun h=>⟨h i (by omega) (by omega),fun j a b=>h j (by omega) (by omega)⟩
theorem Rl.cs {w ao k X} (h:Rl w ao k X):∀j,j<k→∃b o,ao=some ⟨b,o,none⟩∧Cs w b (o+j*3) (rcell (X j))∧NmS w (X j):=fun j hj=>by
 obtain ⟨b,o,h1,h2,h3⟩:=h j hj;refine ⟨b,o,h1,fun i v e=>?_,h3⟩
 match i,e with
 | 0,e=>cases e;exact h2.x0
 | 1,e=>cases e;exact h2.x1
 | 2,e=>cases e;exact h2.x2
 | i+3,e=>cases e
theorem rf_nm {L w ao} {p:List Rat} (h:Rf L w ao p):∃E:Nat→Nm,∀j q,p[j]?=some q→(∃b o,ao=some ⟨b,o,none⟩∧C3 w b (o+j*3) (.bool (E j).s) (.slice (E j).x (E j).n (E j).c) (.slice (E j).y (E j).m (E j).d))∧NmV L w (E j) q:=by
 refine Classical.axiomOfChoice (r:=fun j (t:Nm)=>∀q,p[j]?=some q→(∃b o,ao=some ⟨b,o,none⟩∧C3 w b (o+j*3) (.bool t.s) (.slice t.x t.n t.c) (.slice t.y t.m t.d))∧NmV L w t q) (fun j=>?_);by_cases hj:j<p.length
 ·obtain ⟨b,o,t,h1,h2,h3⟩:=h j (p[j]) (List.getElem?_eq_getElem hj);refine ⟨t,fun q e=>?_⟩;rw [List.getElem?_eq_getElem hj] at e;rw [Option.some.inj e] at h3;exact ⟨⟨b,o,h1,h2⟩,h3⟩
 ·exact ⟨⟨false,none,0,0,fun _=>0,none,0,0,fun _=>0⟩,fun q e=>by rw [List.getElem?_eq_none (by omega)] at e;cases e⟩
theorem eqf_zs {L w w1 ao k k2} {E Z:Nat→Nm} {p:List Rat} (hp:p.length=k) (hE:∀j q,p[j]?=some q→NmV L w1 (E j) q) (hZ:Rl w ao k2 Z):eqfB sqB k k2 E Z=(afB k2 Z && decide (psOf k2 Z=p))∧(eqfB sqB k k2 E Z=true→Rf L w ao p∧p.length=k2):=by
 have hg:∀j,j<p.length→p[j]?=some (p.getD j 0):=fun j hj=>by rw [List.getD_eq_getElem?_getD,List.getElem?_eq_getElem hj];rfl
 have key:eqfB sqB k k2 E Z=true ↔ k=k2∧∀j,j<k→sqB (E j) (Z j)=true:=by
  unfold eqfB;rw [Bool.and_eq_true,decide_eq_true_eq,eqf_iff];exact ⟨fun ⟨a,b⟩=>⟨a,fun j hj=>b j (by omega) (by omega)⟩,fun ⟨a,b⟩=>⟨a,fun j _ hj=>b j (by omega)⟩⟩
 have tru:eqfB sqB k k2 E Z=true→(k=k2∧∀j q,p[j]?=some q→NmV L w (Z j) q):=fun h=>by
  obtain ⟨a,b⟩:=key.1 h;refine ⟨a,fun j q e=>?_⟩;have hj:j<p.length:=(List.getElem?_eq_some_iff.1 e).1;have h1:=b j (by omega);have h2:=hE j q e;obtain ⟨h3,h4⟩:=sq_nf h1;obtain ⟨_,h5,h6⟩:=sq_iff.1 h1;obtain ⟨b',o',_,_,h7⟩:=hZ j (by omega);have h8:=NmS.val (K:=L) h7 (by rw [h3];exact Rn.rf h2) ⟨by rw [←h5.1];exact h2.ln,by rw [←h6.1];exact h2.ld⟩;rw [h4,Rn.nq h2] at h8;exact h8
 refine ⟨?_,fun h=>?_⟩
 ·rw [Bool.eq_iff_iff,Bool.and_eq_true,decide_eq_true_eq];constructor
  ·intro h;obtain ⟨a,b⟩:=tru h;refine ⟨afr_of (fun j _ hj=>Rn.rf (b j _ (hg j (by omega)))),?_⟩;refine List.ext_getElem? (fun j=>?_);unfold psOf;by_cases hj:j<k2
   ·rw [List.getElem?_map,List.getElem?_range hj,hg j (by omega)];exact congrArg some (Rn.nq (b j _ (hg j (by omega))))
   ·rw [List.getElem?_eq_none (by simp;omega),List.getElem?_eq_none (by omega)]
  ·rintro ⟨a,b⟩;have hl:p.length=k2:=by rw [←b,psOf_len]
   refine key.2 ⟨by omega,fun j hj=>?_⟩;have h2:=hE j _ (hg j (by omega));obtain ⟨b',o',_,_,h7⟩:=hZ j (by omega);have h8:=NmS.val (K:=65536) h7 (afr_all a j (by omega) (by omega)) h7.2;have h9:p.getD j 0=nq (Z j):=by
    have e1:=hg j (by omega);rw [←b] at e1;unfold psOf at e1;rw [List.getElem?_map,List.getElem?_range (by omega)] at e1;rw [←b];exact (Option.some.inj e1).symm
   have:=(Rn.inj h2 h8).2 h9;exact sq_iff.2 this
 ·obtain ⟨a,b⟩:=tru h;refine ⟨fun j q e=>?_,by omega⟩;have hj:j<p.length:=(List.getElem?_eq_some_iff.1 e).1;obtain ⟨b',o',h1,h2,_⟩:=hZ j (by omega);exact ⟨b',o',Z j,h1,h2,b j q e⟩
def hldB (e1 e2:Int) (k2:Nat) (Z:Nat→Nm) (cs:List CV) (rs:List RV) (xs ys:List Rat):Bool:=(decide (e1=0) && feasB cs rs xs) && (decide (e2=0) && ((afB k2 Z && decide (psOf k2 Z=redC rs ys 0 cs)) && arB cs rs xs ys (redC rs ys 0 cs)))
set_option maxRecDepth 100000 in
set_option maxHeartbeats 8000000 in
theorem dHolds_v {w:World} {L:Nat} {M:Mo} {off:Rat} {cs:List CV} {rs:List RV} {a0 a1 a2:Option Addr} {k0 c0 k1 c1 k2 c2:Nat} {X Y Z:Nat→Nm} {xs ys:List Rat} {e1 e2:Int} (hW:MoW w M) (hx:Rl w a0 k0 X) (hy:Rl w a1 k1 Y) (hz:Rl w a2 k2 Z) (hk0:k0≤1048576) (hk1:k1≤1048576) (hk2:k2≤1048576) (he1:pckE M k0 X=e1) (he2:dckE M k1 Y=e2)
  (hv1:e1=0→MoV L w M off cs rs∧mvOk cs rs=true∧Rf L w a0 xs∧xs.length=k0∧k0=cs.length) (hv2:e2=0→MoV L w M off cs rs∧mvOk cs rs=true∧Rf L w a1 ys∧ys.length=k1∧k1=rs.length) (hL:L≤30) :
  Calls Tryz.prog 17 #[M.val,.agg #[.slice a0 k0 c0,.slice a1 k1 c1,.slice a2 k2 c2]] w fun e w'=>e=.returned (.tuple #[.bool (decide (chkE M=0) && hldB e1 e2 k2 Z cs rs xs ys),.int .i64 (chkE M)])∧Below w.heap.size w w':=by
 have CC:=hid (fun W (hW2:Below w.heap.size w W)=>check_w (hW.below hW2));have CF:=hid (fun W (hW2:Below w.heap.size w W)=>pFeas_v (cap:=c0) (hW.below hW2) (hx.below hW2) hk0 he1 (fun h=>by obtain ⟨v1,v2,v3,v4,v5⟩:=hv1 h;exact ⟨v1.below hW2,v2,v3.below hW2,v4,v5⟩) hL);have CR:=hid (fun W (hW2:Below w.heap.size w W)=>dReduced_v (cap:=c1) (hW.below hW2) (hy.below hW2) hk1 he2 (fun h=>by obtain ⟨v1,v2,v3,v4,v5⟩:=hv2 h;exact ⟨v1.below hW2,v2,v3.below hW2,v4,v5⟩) hL);have CA:Hid (∀W,Below w.heap.size w W→e1=0→e2=0→Rf (KV L) W a2 (redC rs ys 0 cs)→(redC rs ys 0 cs).length=k2→Calls Tryz.prog 50 #[M.val,.agg #[.slice a0 k0 c0,.slice a1 k1 c1,.slice a2 k2 c2]] W fun e w2=>e=.returned (.bool (arB cs rs xs ys (redC rs ys 0 cs)))∧Below W.heap.size W w2):=fun W hW2 g1 g2 hr hl=>by
  obtain ⟨v1,v2,v3,v4,v5⟩:=hv1 g1;obtain ⟨_,_,u3,u4,u5⟩:=hv2 g2;exact dAllRest_v (hW.below hW2) (hx.below hW2) hk0 (he1.trans g1) (v1.below hW2) v2 (v3.below hW2) v4 v5 (u3.below hW2) u4 u5 hr hl (by rw [←hl,redC_len]) hL
 have HCL:Hid (e2=0→cs.length≤64):=fun g=>by obtain ⟨_,v2,_⟩:=hv2 g;exact (mvOk_p v2).cl
 have HZ:=hid hz;clear hW hx hy hz he1 he2 hv1 hv2;obtain ⟨e0,he0⟩:∃e,chkE M=e:=⟨_,rfl⟩;rw [he0] at CC ⊢;clear he0;obtain ⟨fs,hfs⟩:∃t,(decide (e1=0) && feasB cs rs xs)=t:=⟨_,rfl⟩;rw [hfs] at CF;have HFS:=hid hfs;clear hfs;have HLn:=hid (redC_len rs ys cs 0);obtain ⟨zs,hzs⟩:∃t,redC rs ys 0 cs=t:=⟨_,rfl⟩;unfold RdAns at CR;rw [hzs] at CR CA HLn;have HZS:=hid hzs;clear hzs;obtain ⟨ar,har⟩:∃t,arB cs rs xs ys zs=t:=⟨_,rfl⟩;rw [har] at CA;have HAR:=hid har;clear har;obtain ⟨⟨s,x,n,c,f,y,m,d,g⟩,ca,ck,cc,C,ra,rk,rc,R⟩:=M;replace CC:Hid (∀W,Below w.heap.size w W→Calls Tryz.prog 28 #[.agg #[.bool s,.slice x n c,.slice y m d,.slice ca ck cc,.slice ra rk rc]] W fun r w'=>r=.returned (.int .i64 e0)∧Below W.heap.size W w'):=CC;replace CF:Hid (∀W,Below w.heap.size w W→Calls Tryz.prog 47 #[.agg #[.bool s,.slice x n c,.slice y m d,.slice ca ck cc,.slice ra rk rc],.slice a0 k0 c0] W fun e w'=>e=.returned (.tuple #[.bool fs,.int .i64 e1])∧Below W.heap.size W w'):=CF;replace CR:Hid (∀W,Below w.heap.size w W→Calls Tryz.prog 8 #[.agg #[.bool s,.slice x n c,.slice y m d,.slice ca ck cc,.slice ra rk rc],.slice a1 k1 c1] W fun e w'=>Below W.heap.size W w'∧((e2≠0∧e=.returned (.tuple #[.slice none 0 0,.int .i64 e2]))∨(e2=0∧∃a c,e=.returned (.tuple #[.slice a cs.length c,.int .i64 0])∧(cs.length≤c∧c≤9223372036854775807)∧Rf (KV L) w' a zs))):=CR;replace CA:Hid (∀W,Below w.heap.size w W→e1=0→e2=0→Rf (KV L) W a2 zs→zs.length=k2→Calls Tryz.prog 50 #[.agg #[.bool s,.slice x n c,.slice y m d,.slice ca ck cc,.slice ra rk rc],.agg #[.slice a0 k0 c0,.slice a1 k1 c1,.slice a2 k2 c2]] W fun e w2=>e=.returned (.bool ar)∧Below W.heap.size W w2):=CA;show Calls Tryz.prog 17 #[.agg #[.bool s,.slice x n c,.slice y m d,.slice ca ck cc,.slice ra rk rc],.agg #[.slice a0 k0 c0,.slice a1 k1 c1,.slice a2 k2 c2]] w _;have hb:=below_alloc (below_alloc (Below.refl w.heap.size w) (.cells #[.bool s,.slice x n c,.slice y m d,.slice ca ck cc,.slice ra rk rc] 28)) (.cells #[.slice a0 k0 c0,.slice a1 k1 c1,.slice a2 k2 c2] 50);have BM:Hid (Bk ((w.alloc (.cells #[.bool s,.slice x n c,.slice y m d,.slice ca ck cc,.slice ra rk rc] 28)).alloc (.cells #[.slice a0 k0 c0,.slice a1 k1 c1,.slice a2 k2 c2] 50)) w.heap.size [.bool s,.slice x n c,.slice y m d,.slice ca ck cc,.slice ra rk rc] 28):=(bk_new w [.bool s,.slice x n c,.slice y m d,.slice ca ck cc,.slice ra rk rc] 28).below (below_alloc (Below.refl _ _) _);have BP:Bk ((w.alloc (.cells #[.bool s,.slice x n c,.slice y m d,.slice ca ck cc,.slice ra rk rc] 28)).alloc (.cells #[.slice a0 k0 c0,.slice a1 k1 c1,.slice a2 k2 c2] 50)) (w.heap.size+1) [.slice a0 k0 c0,.slice a1 k1 c1,.slice a2 k2 c2] 50:=by
  have:=bk_new (w.alloc (.cells #[.bool s,.slice x n c,.slice y m d,.slice ca ck cc,.slice ra rk rc] 28)) [.slice a0 k0 c0,.slice a1 k1 c1,.slice a2 k2 c2] 50;rw [size_alloc1] at this;exact this
 have HB:=hid hb;replace BP:=hid BP
 clear hb;go_enter Tryz.func17,Tryz.ntmps17;go_upto_region 1 with fail
 generalize ((w.alloc (.cells #[.bool s,.slice x n c,.slice y m d,.slice ca ck cc,.slice ra rk rc] 28)).alloc (.cells #[.slice a0 k0 c0,.slice a1 k1 c1,.slice a2 k2 c2] 50))=w1 at *;have r0:=BM.out.cell (j:=0) rfl;have r1:=BM.out.cell (j:=1) rfl;have r2:=BM.out.cell (j:=2) rfl;have r3:=BM.out.cell (j:=3) rfl;have r4:=BM.out.cell (j:=4) rfl;go_wp2_with fail
 clear r0 r1 r2 r3 r4
 go_at_call 28
 refine (CC.out _ HB.out).mono ?_;rintro e w2 ⟨rfl,hb2⟩;replace HB:=hid (HB.out.trans (hb2.mono HB.out.size));replace BM:=hid (BM.out.below hb2);replace BP:=hid (BP.out.below hb2)
 clear hb2;clear CC;by_cases h0:e0=0
 case neg =>
  have h1:(e0 != 0)=true:=by simpa using h0
  have HE:Hid (decide (e0=0)=false):=decide_eq_false h0;clear h0 CF CR CA;go_wp2
  go_ret2
  exact ⟨by rw [HE.out];rfl,HB.out⟩
 subst h0;have r0:=BM.out.cell (j:=0) rfl;have r1:=BM.out.cell (j:=1) rfl;have r2:=BM.out.cell (j:=2) rfl;have r3:=BM.out.cell (j:=3) rfl;have r4:=BM.out.cell (j:=4) rfl;have p0:=BP.out.cell (j:=0) rfl;have p1:=BP.out.cell (j:=1) rfl;have p2:=BP.out.cell (j:=2) rfl;go_wp2_with fail
 clear r0 r1 r2 r3 r4 p0 p1 p2
 go_at_call 47
 refine (CF.out _ HB.out).mono ?_;rintro e w3 ⟨rfl,hb3⟩;replace HB:=hid (HB.out.trans (hb3.mono HB.out.size));replace BM:=hid (BM.out.below hb3);replace BP:=hid (BP.out.below hb3)
 clear hb3;clear CF;have r0:=BM.out.cell (j:=0) rfl;have r1:=BM.out.cell (j:=1) rfl;have r2:=BM.out.cell (j:=2) rfl;have r3:=BM.out.cell (j:=3) rfl;have r4:=BM.out.cell (j:=4) rfl;have p0:=BP.out.cell (j:=0) rfl;have p1:=BP.out.cell (j:=1) rfl;have p2:=BP.out.cell (j:=2) rfl;go_wp2_with fail
 clear r0 r1 r2 r3 r4 p0 p1 p2
 go_at_call 8
 refine (CR.out _ HB.out).mono ?_;clear CR;rintro e w4 ⟨hb4,⟨h9,rfl⟩ | ⟨h9,aa,ac,rfl,hca,hrf⟩⟩
 ·replace HB:=hid (HB.out.trans (hb4.mono HB.out.size));replace BM:=hid (BM.out.below hb4);replace BP:=hid (BP.out.below hb4)
  clear hb4;have h1:(e2 != 0)=true:=by simpa using h9
  have HE:Hid (hldB e1 e2 k2 Z cs rs xs ys=false):=by show _=_;unfold hldB;rw [decide_eq_false h9];simp
  clear h9 CA HZ;cases fs
  ·go_wp2
   go_ret2
   exact ⟨by rw [HE.out];rfl,HB.out⟩
  ·go_wp2
   go_ret2
   exact ⟨by rw [HE.out];rfl,HB.out⟩
 ·replace HB:=hid (HB.out.trans (hb4.mono HB.out.size));replace BM:=hid (BM.out.below hb4);replace BP:=hid (BP.out.below hb4)
  clear hb4;subst h9;have HRF:=hid hrf;have hcl:=HCL.out rfl;clear hrf HCL;cases fs
  case false =>
   have HE:Hid (hldB e1 0 k2 Z cs rs xs ys=false):=by show _=_;unfold hldB;rw [HFS.out];simp
   clear CA HZ HRF;go_wp2
   go_ret2
   exact ⟨by rw [HE.out];rfl,HB.out⟩
  have HE1:Hid (e1=0):=by have h:=HFS.out;rw [Bool.and_eq_true,decide_eq_true_eq] at h;exact h.1
  obtain ⟨E,hE⟩:=rf_nm HRF.out;have CE:Hid (∀W,Below w4.heap.size w4 W→Calls Tryz.prog 48 #[.slice aa cs.length ac,.slice a2 k2 c2,.func (.func 49) #[] #[]] W fun e w9=>e=.returned (.bool (eqfB sqB cs.length k2 E Z))∧Below W.heap.size W w9):=fun W hW2=>by
   have hb9:=HB.out.trans (hW2.mono HB.out.size);refine dequalQs_c (fun j hj=>?_) (HZ.out.below hb9).cs (by omega) hk2;obtain ⟨q,hq⟩:∃t,zs[j]?=some t:=⟨_,List.getElem?_eq_getElem (by have:=HLn.out;omega)⟩;obtain ⟨⟨b,o,h1,h2⟩,h3⟩:=hE j q hq;refine ⟨b,o,h1,fun i v e=>?_,(NmV.nms (NmV.below h3 hW2) (by unfold KV;omega)).1⟩;replace h2:=C3.below h2 hW2
   match i,e with
   | 0,e=>cases e;exact h2.x0
   | 1,e=>cases e;exact h2.x1
   | 2,e=>cases e;exact h2.x2
   | i+3,e=>cases e
  have hz9:=fun W (hW2:Below w.heap.size w W)=>eqf_zs (L:=KV L) (k:=cs.length) (E:=E) HLn.out (fun j q e=>(hE j q e).2) (HZ.out.below hW2)
  have HZ9:=hid hz9;have HQ:=hid (hz9 w (Below.refl _ _)).1;clear hE hz9 HZ;obtain ⟨qe,hqe⟩:∃t,eqfB sqB cs.length k2 E Z=t:=⟨_,rfl⟩;rw [hqe] at CE HQ;have HQE:=hid hqe;clear hqe;have p2:=BP.out.cell (j:=2) rfl;go_wp2_with fail
  clear p2
  go_at_call 48
  refine (CE.out _ (Below.refl _ _)).mono ?_;rintro e w5 ⟨rfl,hb5⟩;replace HB:=hid (HB.out.trans (hb5.mono HB.out.size));replace BM:=hid (BM.out.below hb5);replace BP:=hid (BP.out.below hb5)
  clear hb5;clear CE;cases qe
  case false =>
   have HE:Hid (hldB e1 0 k2 Z cs rs xs ys=false):=by show _=_;unfold hldB;rw [HZS.out,←HQ.out];simp
   clear CA HRF;go_wp2
   go_ret2
   exact ⟨by rw [HE.out];rfl,HB.out⟩
  have HE:Hid (hldB e1 0 k2 Z cs rs xs ys=ar):=by show _=_;unfold hldB;rw [HZS.out,←HQ.out,HFS.out,HAR.out];simp
  obtain ⟨g1,g2⟩:=(HZ9.out _ HB.out).2 HQE.out;have CA2:=hid (CA.out _ HB.out HE1.out (by first | rfl | trivial) g1 g2);clear CA g1 g2 HZ9 HQ HQE HRF;have r0:=BM.out.cell (j:=0) rfl;have r1:=BM.out.cell (j:=1) rfl;have r2:=BM.out.cell (j:=2) rfl;have r3:=BM.out.cell (j:=3) rfl;have r4:=BM.out.cell (j:=4) rfl;have p0:=BP.out.cell (j:=0) rfl;have p1:=BP.out.cell (j:=1) rfl;have p2:=BP.out.cell (j:=2) rfl;go_wp2_with fail
  clear r0 r1 r2 r3 r4 p0 p1 p2
  go_at_call 50
  refine CA2.out.mono ?_;rintro e w6 ⟨rfl,hb6⟩;replace HB:=hid (HB.out.trans (hb6.mono HB.out.size));replace BM:=hid (BM.out.below hb6);replace BP:=hid (BP.out.below hb6)
  clear hb6;go_wp2
  go_ret2
  exact ⟨by rw [HE.out];rfl,HB.out⟩
theorem rf_all {L w ao} {p:List Rat} (h:Rf L w ao p) (hL:L≤65536):∃E,Rl w ao p.length E∧afB p.length E=true∧psOf p.length E=p:=by
 obtain ⟨E,hE⟩:=rf_nm h;have hg:∀j,j<p.length→p[j]?=some (p.getD j 0):=fun j hj=>by rw [List.getD_eq_getElem?_getD,List.getElem?_eq_getElem hj];rfl
 refine ⟨E,fun j hj=>?_,afr_of (fun j _ hj=>(NmV.nms (hE j _ (hg j (by omega))).2 hL).2),?_⟩
 ·obtain ⟨⟨b,o,h1,h2⟩,h3⟩:=hE j _ (hg j hj);exact ⟨b,o,h1,h2,(NmV.nms h3 hL).1⟩
 ·refine List.ext_getElem? (fun j=>?_);unfold psOf;by_cases hj:j<p.length
  ·rw [List.getElem?_map,List.getElem?_range hj,hg j hj];exact congrArg some (Rn.nq (hE j _ (hg j hj)).2)
  ·rw [List.getElem?_eq_none (by simp;omega),List.getElem?_eq_none (by omega)]
theorem pnE_is {k:Nat} {X:Nat→Nm} {z:Int} (h:afB k X=true) (e:(k:Int)=z):pnE k X z=0:=by unfold pnE;rw [if_pos h,if_pos e]
theorem dckE_ok {M:Mo} {k:Nat} {X:Nat→Nm} (h:chkE M=0) (h0:afB k X=true) (e0:k=M.rk):dckE M k X=0:=by
 subst e0;unfold dckE;rw [h,pnE_is h0 rfl];rfl
theorem dReduced_q {w:World} {L:Nat} {M:Mo} {off:Rat} {cs:List CV} {rs:List RV} {a1:Option Addr} {k1 c1:Nat} {ys:List Rat} (h:MoV L w M off cs rs) (ho:mvOk cs rs=true) (hy:Rf L w a1 ys) (l1:ys.length=k1) (q1:k1=rs.length) (hL:L≤30):Calls Tryz.prog 8 #[M.val,.slice a1 k1 c1] w fun e w'=>RdAns L w w' e 0 cs rs ys:=by
 obtain ⟨h1,h2⟩:=h.chk (by omega) ho;have mp:=mvOk_p ho;have hcl:=mp.cl;have hrl:=mp.rl
 obtain ⟨Y,y1,z1,_⟩:=rf_all hy (by omega);rw [l1] at y1 z1;have he:dckE M k1 Y=0:=dckE_ok h1 z1 (by rw [h.rk];exact q1);exact dReduced_v (fun _ _=>h2) y1 (by omega) he (fun _=>⟨h,ho,hy,l1,q1⟩) hL
theorem dBound_q {w:World} {L:Nat} {M:Mo} {off:Rat} {cs:List CV} {rs:List RV} {a1:Option Addr} {k1 c1:Nat} {ys:List Rat} (h:MoV L w M off cs rs) (ho:mvOk cs rs=true) (hy:Rf L w a1 ys) (l1:ys.length=k1) (q1:k1=rs.length) (hL4:4≤L) (hL:L≤8):Calls Tryz.prog 13 #[M.val,.slice a1 k1 c1] w fun e w'=>BoAns L w w' e 0 (bnP off cs rs ys):=by
 obtain ⟨h1,h2⟩:=h.chk (by omega) ho;have mp:=mvOk_p ho;have hcl:=mp.cl;have hrl:=mp.rl
 obtain ⟨Y,y1,z1,_⟩:=rf_all hy (by omega);rw [l1] at y1 z1;have he:dckE M k1 Y=0:=dckE_ok h1 z1 (by rw [h.rk];exact q1);exact dBound_v (fun _ _=>h2) y1 (by omega) he (fun _=>⟨h,ho,hy,l1,q1⟩) hL4 hL
theorem dHolds_q {w:World} {L:Nat} {M:Mo} {off:Rat} {cs:List CV} {rs:List RV} {a1:Option Addr} {k1 c1:Nat} {ys:List Rat} {a0 a2:Option Addr} {k0 c0 k2 c2:Nat} {xs zs:List Rat} (h:MoV L w M off cs rs) (ho:mvOk cs rs=true) (hy:Rf L w a1 ys) (l1:ys.length=k1) (q1:k1=rs.length) (hx:Rf L w a0 xs) (l0:xs.length=k0) (q0:k0=cs.length) (hz:Rf L w a2 zs) (l2:zs.length=k2) (hk2:k2≤1000) (hL:L≤30) :
  Calls Tryz.prog 17 #[M.val,.agg #[.slice a0 k0 c0,.slice a1 k1 c1,.slice a2 k2 c2]] w fun e w'=>e=.returned (.tuple #[.bool (feasB cs rs xs && (decide (zs=redC rs ys 0 cs) && arB cs rs xs ys (redC rs ys 0 cs))),.int .i64 0])∧Below w.heap.size w w':=by
 obtain ⟨h1,h2⟩:=h.chk (by omega) ho;have mp:=mvOk_p ho;have hcl:=mp.cl;have hrl:=mp.rl
 obtain ⟨Y,y1,z1,_⟩:=rf_all hy (by omega);rw [l1] at y1 z1;have he:dckE M k1 Y=0:=dckE_ok h1 z1 (by rw [h.rk];exact q1);obtain ⟨X,y0,z0,_⟩:=rf_all hx (by omega);rw [l0] at y0 z0;obtain ⟨Z,y2,z2,p2⟩:=rf_all hz (by omega);rw [l2] at y2 z2 p2;have he0:pckE M k0 X=0:=pckE_ok h1 z0 (by rw [h.ck];exact q0);have:=dHolds_v (c0:=c0) (c1:=c1) (c2:=c2) (fun _ _=>h2) y0 y1 y2 (by omega) (by omega) (by omega) he0 he (fun _=>⟨h,ho,hx,l0,q0⟩) (fun _=>⟨h,ho,hy,l1,q1⟩) hL;rw [h1] at this;unfold hldB at this;rw [z2,p2] at this;simpa using this
theorem k2_ok:mvOk k2C k2R=true:=by decide +kernel
theorem k2_rd:redC k2R [((-1:Int):Rat)/2] 0 k2C=[((-1:Int):Rat)/2,((0:Int):Rat)]:=by decide +kernel
theorem k2_b1:smI (bnP 3 k2C k2R [((-1:Int):Rat)/2])=0∧smQ (bnP 3 k2C k2R [((-1:Int):Rat)/2])=((-2:Int):Rat):=by decide +kernel
theorem k2_b2:smI (bnP 3 k2C k2R [((1:Int):Rat)])=-1:=by decide +kernel
theorem k2_h:(feasB k2C k2R [((4:Int):Rat),((1:Int):Rat)] && (decide ([((-1:Int):Rat)/2,((0:Int):Rat)]=redC k2R [((-1:Int):Rat)/2] 0 k2C) && arB k2C k2R [((4:Int):Rat),((1:Int):Rat)] [((-1:Int):Rat)/2] (redC k2R [((-1:Int):Rat)/2] 0 k2C)))=true:=by decide +kernel
set_option maxRecDepth 100000 in
set_option maxHeartbeats 8000000 in
theorem awake11_c (w:World):Calls Tryz.prog 5 #[] w fun e w'=>e=.returned (.bool true)∧Below w.heap.size w w':=by
 have HB:=hid (Below.refl w.heap.size w);go_enter Tryz.func5,Tryz.ntmps5;go_wp2_with fail
 refine first11_c.mono ?_;rintro e v1 ⟨⟨⟨sm,xm,nm,cm,fm,ym,mm,dm,gm⟩,cam,ckm,ccm,Cm,ram,rkm,rcm,Rm⟩,rfl,hb,HM⟩;replace HB:=hid (HB.out.trans (hb.mono HB.out.size));clear hb;go_wp2_with fail
 refine (half11_c (z:=-1) (by decide) (by decide) mh_lo).mono ?_;rintro e v2 ⟨sh,xh,nh,ch,fh,yh,mh,dh,gh,rfl,hb,hr⟩;have hn:=below_alloc (Below.refl v2.heap.size v2) (.cells #[.bool sh,.slice xh nh ch,.slice yh mh dh] 24);have hbn:=hb.trans (hn.mono hb.size);replace HB:=hid (HB.out.trans (hbn.mono HB.out.size));replace HM:=hid (HM.out.below hbn)
 have HX:=hid (show Rf 8 (v2.alloc (.cells #[.bool sh,.slice xh nh ch,.slice yh mh dh] 24)) (some ⟨v2.heap.size,0,none⟩) [((-1:Int):Rat)/2] from (gr_one (base:=0) (hr.out.mono (by decide)) (Nat.zero_le _)).rf);clear hb hr hn hbn;go_wp2_with fail
 generalize v2.alloc (.cells #[.bool sh,.slice xh nh ch,.slice yh mh dh] 24)=vvv2 at *;generalize v2.heap.size=ppv2 at *;refine (dReduced_q (L:=8) HM.out k2_ok HX.out rfl rfl (by decide)).mono ?_;rintro e v3 ⟨hb,⟨h9,_⟩ | ⟨_,za,zc,rfl,_,hrf⟩⟩
 ·exact absurd rfl h9
 rw [k2_rd] at hrf;rw [show k2C.length=2 from rfl];have HZ:=hid hrf;replace HB:=hid (HB.out.trans (hb.mono HB.out.size));clear hb hrf HM HX;go_wp2_with fail
 refine first11_c.mono ?_;rintro e v4 ⟨⟨⟨sm,xm,nm,cm,fm,ym,mm,dm,gm⟩,cam,ckm,ccm,Cm,ram,rkm,rcm,Rm⟩,rfl,hb,HM⟩;replace HB:=hid (HB.out.trans (hb.mono HB.out.size));replace HZ:=hid (HZ.out.below hb)
 clear hb;go_wp2_with fail
 refine (half11_c (z:=-1) (by decide) (by decide) mh_lo).mono ?_;rintro e v5 ⟨sh,xh,nh,ch,fh,yh,mh,dh,gh,rfl,hb,hr⟩;have hn:=below_alloc (Below.refl v5.heap.size v5) (.cells #[.bool sh,.slice xh nh ch,.slice yh mh dh] 24);have hbn:=hb.trans (hn.mono hb.size);replace HB:=hid (HB.out.trans (hbn.mono HB.out.size));replace HZ:=hid (HZ.out.below hbn);replace HM:=hid (HM.out.below hbn)
 have HX:=hid (show Rf 8 (v5.alloc (.cells #[.bool sh,.slice xh nh ch,.slice yh mh dh] 24)) (some ⟨v5.heap.size,0,none⟩) [((-1:Int):Rat)/2] from (gr_one (base:=0) (hr.out.mono (by decide)) (Nat.zero_le _)).rf);clear hb hr hn hbn;go_wp2_with fail
 generalize v5.alloc (.cells #[.bool sh,.slice xh nh ch,.slice yh mh dh] 24)=vvv5 at *;generalize v5.heap.size=ppv5 at *;refine (dBound_q (L:=8) HM.out k2_ok HX.out rfl rfl (by decide) (by decide)).mono ?_;rintro e v6 ⟨hb,⟨h9,_⟩ | ⟨_,sb,xb,nb,cb,fb,yb,mb,db,gb,rfl,hen⟩⟩
 ·exact absurd rfl h9
 rw [k2_b1.1] at hen ⊢;rw [k2_b1.2] at hen;have hn:=below_alloc (Below.refl v6.heap.size v6) (.cells #[.int .i64 0,.bool sb,.slice xb nb cb,.slice yb mb db] 42);have hbn:=hb.trans (hn.mono hb.size);replace HB:=hid (HB.out.trans (hbn.mono HB.out.size));replace HZ:=hid (HZ.out.below hbn)
 have Bb:Hid (Bk (v6.alloc (.cells #[.int .i64 0,.bool sb,.slice xb nb cb,.slice yb mb db] 42)) v6.heap.size [.int .i64 0,.bool sb,.slice xb nb cb,.slice yb mb db] 42):=bk_new v6 [.int .i64 0,.bool sb,.slice xb nb cb,.slice yb mb db] 42;have Hb:=hid (Rn.below hen.rn hn);clear hb hen hn hbn HM HX;go_wp2_with fail
 generalize v6.alloc (.cells #[.int .i64 0,.bool sb,.slice xb nb cb,.slice yb mb db] 42)=vvv6 at *;generalize v6.heap.size=bxb at *;refine first11_c.mono ?_;rintro e v7 ⟨⟨⟨sm,xm,nm,cm,fm,ym,mm,dm,gm⟩,cam,ckm,ccm,Cm,ram,rkm,rcm,Rm⟩,rfl,hb,HM⟩;replace HB:=hid (HB.out.trans (hb.mono HB.out.size));replace HZ:=hid (HZ.out.below hb);replace Bb:=hid (Bb.out.below hb);replace Hb:=hid (Hb.out.below hb)
 clear hb;go_wp2_with fail
 refine (docOfQ_c (z:=1) (by decide) (by decide)).mono ?_;rintro e v8 ⟨sh,xh,nh,ch,fh,yh,mh,dh,gh,rfl,hb,hr⟩;have hn:=below_alloc (Below.refl v8.heap.size v8) (.cells #[.bool sh,.slice xh nh ch,.slice yh mh dh] 24);have hbn:=hb.trans (hn.mono hb.size);replace HB:=hid (HB.out.trans (hbn.mono HB.out.size));replace HZ:=hid (HZ.out.below hbn);replace Bb:=hid (Bb.out.below hbn);replace Hb:=hid (Hb.out.below hbn);replace HM:=hid (HM.out.below hbn)
 have HX:=hid (show Rf 8 (v8.alloc (.cells #[.bool sh,.slice xh nh ch,.slice yh mh dh] 24)) (some ⟨v8.heap.size,0,none⟩) [((1:Int):Rat)] from (gr_one (base:=0) (hr.mono (by decide)) (Nat.zero_le _)).rf);clear hb hr hn hbn;go_wp2_with fail
 generalize v8.alloc (.cells #[.bool sh,.slice xh nh ch,.slice yh mh dh] 24)=vvv8 at *;generalize v8.heap.size=ppv8 at *;refine (dBound_q (L:=8) HM.out k2_ok HX.out rfl rfl (by decide) (by decide)).mono ?_;rintro e v9 ⟨hb,⟨h9,_⟩ | ⟨_,sc,xc,nc,cc,fc,yc,mc,dc,gc,rfl,hen⟩⟩
 ·exact absurd rfl h9
 rw [k2_b2] at hen ⊢;have hn:=below_alloc (Below.refl v9.heap.size v9) (.cells #[.int .i64 (-1),.bool sc,.slice xc nc cc,.slice yc mc dc] 42);have hbn:=hb.trans (hn.mono hb.size);replace HB:=hid (HB.out.trans (hbn.mono HB.out.size));replace HZ:=hid (HZ.out.below hbn);replace Bb:=hid (Bb.out.below hbn);replace Hb:=hid (Hb.out.below hbn)
 have Bc:Hid (Bk (v9.alloc (.cells #[.int .i64 (-1),.bool sc,.slice xc nc cc,.slice yc mc dc] 42)) v9.heap.size [.int .i64 (-1),.bool sc,.slice xc nc cc,.slice yc mc dc] 42):=bk_new v9 [.int .i64 (-1),.bool sc,.slice xc nc cc,.slice yc mc dc] 42;clear hb hen hn hbn HM HX;go_wp2_with fail
 generalize v9.alloc (.cells #[.int .i64 (-1),.bool sc,.slice xc nc cc,.slice yc mc dc] 42)=vvv9 at *;generalize v9.heap.size=bxc at *;refine first11_c.mono ?_;rintro e v10 ⟨⟨⟨sm,xm,nm,cm,fm,ym,mm,dm,gm⟩,cam,ckm,ccm,Cm,ram,rkm,rcm,Rm⟩,rfl,hb,HM⟩;replace HB:=hid (HB.out.trans (hb.mono HB.out.size));replace HZ:=hid (HZ.out.below hb);replace Bb:=hid (Bb.out.below hb);replace Hb:=hid (Hb.out.below hb);replace Bc:=hid (Bc.out.below hb)
 clear hb;go_wp2_with fail
 refine best11_c.mono ?_;rintro e v11 ⟨ax,ay,az,rfl,hb,hr⟩;replace HB:=hid (HB.out.trans (hb.mono HB.out.size));replace HZ:=hid (HZ.out.below hb);replace Bb:=hid (Bb.out.below hb);replace Hb:=hid (Hb.out.below hb);replace Bc:=hid (Bc.out.below hb);replace HM:=hid (HM.out.below hb)
 have HP:=hid hr.out;clear hb hr;go_wp2_with fail
 refine (dHolds_q (L:=8) HM.out k2_ok HP.out.2.1 rfl rfl HP.out.1 rfl rfl HP.out.2.2 rfl (by decide) (by decide)).mono ?_;rintro e w5 ⟨rfl,hb⟩;rw [k2_h];replace HB:=hid (HB.out.trans (hb.mono HB.out.size));replace HZ:=hid (HZ.out.below hb);replace Bb:=hid (Bb.out.below hb);replace Hb:=hid (Hb.out.below hb);replace Bc:=hid (Bc.out.below hb)
 clear hb HM HP;go_upto_region 5 with fail
 obtain ⟨zb,zo,⟨s,x,n,c,f,y,m,d,g⟩,hb1,⟨p0,p1,p2⟩,hr⟩:=HZ.out 0 _ rfl;subst hb1;replace p0:w5.cell? ⟨zb,zo,none⟩=some (.bool s):=p0;replace p1:w5.cell? ⟨zb,zo+1,none⟩=some (.slice x n c):=p1;replace p2:w5.cell? ⟨zb,zo+2,none⟩=some (.slice y m d):=p2;have HR:Hid (Rn (KV 8) w5 s x n c f y m d g (((-1:Int):Rat)/2)):=hr;clear hr HZ;have k0:=Bb.out.cell (j:=0) rfl;have k1:=Bb.out.cell (j:=1) rfl;have k2:=Bb.out.cell (j:=2) rfl;have k3:=Bb.out.cell (j:=3) rfl
 have j0:=Bc.out.cell (j:=0) rfl;have CD:=hid (fun W=>half11_c (w:=W) (z:=-1) (by decide) (by decide) mh_lo);have CE:Hid (∀W,Calls Tryz.prog 25 #[.int .i64 (-2)] W fun e w'=>∃s x n c f y m d g,e=.returned (.agg #[.int .i64 0,.bool s,.slice x n c,.slice y m d])∧Below W.heap.size W w'∧Rn 8 w' s x n c f y m d g ((-2:Int):Rat)):=fun W=>(num11_c (w:=W) (z:=-2) (by decide) (by decide)).mono (fun e w' ⟨v8,h1,h2,⟨i8,⟨s8,x8,n8,c8,f8,y8,m8,d8,g8⟩⟩,ev,hi8,hv⟩=>by replace hi8:i8=0:=hi8;subst hi8;exact ⟨s8,x8,n8,c8,f8,y8,m8,d8,g8,by rw [h1,ev];rfl,h2,hv⟩)
 have CS:Hid (∀W s2 x2 n2 c2 f2 y2 m2 d2 g2,Below w5.heap.size w5 W→Rn 4 W s2 x2 n2 c2 f2 y2 m2 d2 g2 (((-1:Int):Rat)/2)→Calls Tryz.prog 24 #[.agg #[.bool s,.slice x n c,.slice y m d],.agg #[.bool s2,.slice x2 n2 c2,.slice y2 m2 d2]] W fun e w'=>e=.returned (.bool true)∧Below W.heap.size W w'):=fun W s2 x2 n2 c2 f2 y2 m2 d2 g2 hW h2=>rSameEq_c (HR.out.below hW) h2 (by decide) (by decide)
 have CT:Hid (∀W s3 x3 n3 c3 f3 y3 m3 d3 g3,Below w5.heap.size w5 W→Rn 8 W s3 x3 n3 c3 f3 y3 m3 d3 g3 ((-2:Int):Rat)→Calls Tryz.prog 15 #[.agg #[.int .i64 0,.bool sb,.slice xb nb cb,.slice yb mb db],.agg #[.int .i64 0,.bool s3,.slice x3 n3 c3,.slice y3 m3 d3]] W fun e w'=>e=.returned (.bool true)∧Below W.heap.size W w'):=fun W s3 x3 n3 c3 f3 y3 m3 d3 g3 hW h2=>xSame_of (fun V hV=>rSameEq_c (Rn.below (Rn.below Hb.out hW) hV) (Rn.below h2 hV) (by decide) (by decide))
 go_region_held3 (fun w'=>w'.cell? ⟨zb,zo,none⟩=some (.bool s)∧w'.cell? ⟨zb,zo+1,none⟩=some (.slice x n c)∧w'.cell? ⟨zb,zo+2,none⟩=some (.slice y m d)∧w'.cell? ⟨bxb,0,none⟩=some (.int .i64 0)∧w'.cell? ⟨bxb,1,none⟩=some (.bool sb)∧w'.cell? ⟨bxb,2,none⟩=some (.slice xb nb cb)∧w'.cell? ⟨bxb,3,none⟩=some (.slice yb mb db)∧w'.cell? ⟨bxc,0,none⟩=some (.int .i64 (-1)))
  (refine ⟨?_,?_,?_,?_,?_,?_,?_,?_⟩ <;> repeat (with_reducible first | assumption | refine kCd ?_ | refine kCb (by assumption) ?_))
  (first
   | (go_at_call 21;with_reducible refine (CD.out _).mono ?_;rintro e w6 ⟨s6,x6,n6,c6,f6,y6,m6,d6,g6,rfl,hb6,H6⟩)
   | (go_at_call 25;with_reducible refine (CE.out _).mono ?_;rintro e w8 ⟨s8,x8,n8,c8,f8,y8,m8,d8,g8,rfl,hb8,H8⟩;replace H8:=hid H8)
   | (go_at_call 24;with_reducible refine (CS.out _ s6 x6 n6 c6 f6 y6 m6 d6 g6 belA (H6.out.below belA)).mono ?_;rintro e w7 ⟨rfl,hb7⟩)
   | (go_at_call 15;with_reducible refine (CT.out _ s8 x8 n8 c8 f8 y8 m8 d8 g8 belA (H8.out.below belA)).mono ?_;rintro e w9 ⟨rfl,hb9⟩))
 all_goals
  have HB9:=hid (HB.out.trans ((show Below w5.heap.size w5 w9 from belA).mono HB.out.size));clear p0 p1 p2 k0 k1 k2 k3 j0 CD CS CE CT HR;go_wp2;go_ret;exact ⟨by first | rfl | simp,HB9.out⟩
structure Fr (F:Nat→Prop) (w w':World):Prop where
 os:w'.os=w.os
 tape:w'.tape=w.tape
 output:w'.output=w.output
 size:w.heap.size≤w'.heap.size
 block:∀k,k<w.heap.size→¬F k→w'.heap[k]?=w.heap[k]?
 kp:∀a k f,Rd .u64 w a k f→Rd .u64 w' a k f
theorem Fr.of {F w w'} (h:Below w.heap.size w w'):Fr F w w':=⟨h.os,h.tape,h.output,h.size,fun k hk _=>h.block k hk,fun _ _ _ r=>r.kp (Kp.of_below h)⟩
theorem Fr.refl (F:Nat→Prop) (w:World):Fr F w w:=⟨rfl,rfl,rfl,Nat.le_refl _,fun _ _ _=>rfl,fun _ _ _ r=>r⟩
theorem Fr.trans {F w w1 w2} (h:Fr F w w1) (k:Fr F w1 w2):Fr F w w2 :=
 ⟨k.os.trans h.os,k.tape.trans h.tape,k.output.trans h.output,Nat.le_trans h.size k.size,fun j hj hn=>(k.block j (Nat.lt_of_lt_of_le hj h.size) hn).trans (h.block j hj hn),fun _ _ _ r=>k.kp _ _ _ (h.kp _ _ _ r)⟩
theorem Fr.rn {F w w' L s x n c f y m d g q} (h:Fr F w w') (r:Rn L w s x n c f y m d g q):Rn L w' s x n c f y m d g q :=
 ⟨⟨h.kp _ _ _ r.num.rd,r.num.lm,r.num.wf,r.num.cap,r.num.nil,r.num.val⟩,⟨h.kp _ _ _ r.den.rd,r.den.lm,r.den.wf,r.den.cap,r.den.nil,r.den.val⟩,r.ln,r.ld⟩
theorem Fr.imp {F G:Nat→Prop} {w w'} (h:Fr F w w') (hi:∀k,F k→G k):Fr G w w':=⟨h.os,h.tape,h.output,h.size,fun k hk hn=>h.block k hk (fun hf=>hn (hi k hf)),h.kp⟩
theorem Fr.below {F w0 w w'} (h0:Below w0.heap.size w0 w) (h:Fr F w w') (hF:∀k,F k→w0.heap.size≤k):Below w0.heap.size w0 w' :=
 ⟨h.os.trans h0.os,h.tape.trans h0.tape,h.output.trans h0.output,Nat.le_trans h0.size h.size,fun k hk=>(h.block k (Nat.lt_of_lt_of_le hk h0.size) (fun hf=>by have:=hF k hf;omega)).trans (h0.block k hk)⟩
theorem Fr.bk {F w w' B vs t} (h:Fr F w w') (hb:Bk w B vs t) (hn:¬F B):Bk w' B vs t:=(h.block B hb.lt hn).trans hb
theorem Fr.cell {F w w' b o v} (h:Fr F w w') (hn:¬F b) (hc:w.cell? ⟨b,o,none⟩=some v):w'.cell? ⟨b,o,none⟩=some v:=(World.cell?_of_block (a:=⟨b,o,none⟩) (h.block b (World.block_lt_of_cell? w _ hc) hn)).trans hc
theorem Tf.fr {F L w w' ao v} (h:Tf L w ao v) (hf:Fr F w w') (hn:∀b o,ao=some ⟨b,o,none⟩→¬F b):Tf L w' ao v:=fun j a q e=>by
 obtain ⟨b,o,t,h1,h2,h3⟩:=h j a q e;have hb:=hn b o h1;exact ⟨b,o,t,h1,⟨hf.cell hb h2.x0,hf.cell hb h2.x1,hf.cell hb h2.x2,hf.cell hb h2.x3⟩,hf.rn h3⟩
structure BV where
 q:Rat
 i:Int
 a:Rat
 up:Bool
 ts:List (Int × Rat)
theorem frozen_bk {w w':World} {B o:Nat} (h:w'.heap[B]?=w.heap[B]?):w'.frozen? ⟨B,o,none⟩=w.frozen? ⟨B,o,none⟩:=by
 simp only [World.frozen?,h]
theorem Rk.fr {F:Nat→Prop} {w w' B n} (h:Rk w B n) (hf:Fr F w w') (hn:¬F B):Rk w' B n :=
 ⟨Nat.lt_of_lt_of_le h.z hf.size,fun o ho=>by obtain ⟨u,h1,h2⟩:=h.has o ho;exact ⟨u,hf.cell hn h1,h2⟩,fun o=>(frozen_bk (hf.block B h.z hn)).trans (h.fz o)⟩
theorem Sx.fr {F:Nat→Prop} {w w' B s x n c y m d} (h:Sx w B s x n c y m d) (hf:Fr F w w') (hn:¬F B):Sx w' B s x n c y m d :=
 ⟨Nat.lt_of_lt_of_le h.z hf.size,hf.cell hn h.x0,hf.cell hn h.x1,hf.cell hn h.x2,fun o=>(frozen_bk (hf.block B h.z hn)).trans (h.fz o)⟩
theorem Bk.sx {w B s x n c y m d t} (h:Bk w B [.bool s,.slice x n c,.slice y m d] t):Sx w B s x n c y m d:=⟨h.lt,h.cell (j:=0) rfl,h.cell (j:=1) rfl,h.cell (j:=2) rfl,h.frozen⟩
theorem Ob.sx {w B} (h:Ob w B):Sx w B false none 0 0 none 0 0:=⟨h.z,h.z0,h.z1,h.z2,h.zf⟩
theorem Ob.fr {F:Nat→Prop} {w w' B} (h:Ob w B) (hf:Fr F w w') (hn:¬F B):Ob w' B:=by
 have:=h.sx.fr hf hn;exact ⟨this.z,this.x0,this.x1,this.x2,this.fz⟩
theorem Rf.fr {F:Nat→Prop} {L w w' B o p} (h:Rf L w (some ⟨B,o,none⟩) p) (hf:Fr F w w') (hn:¬F B):Rf L w' (some ⟨B,o,none⟩) p:=fun j q e=>by
 obtain ⟨b,o',t,e1,h1,h2⟩:=h j q e;cases e1
 exact ⟨_,_,t,rfl,⟨hf.cell hn h1.x0,hf.cell hn h1.x1,hf.cell hn h1.x2⟩,hf.rn h2⟩
structure T4 (w:World) (b0 b1 b2 b3:Option Addr) (k0:Nat) (X0 Y0:Nat→Nm) (k1:Nat) (X1 Y1:Nat→Nm) (k2:Nat) (X2 Y2:Nat→Nm) (k3:Nat) (X3 Y3:Nat→Nm):Prop where
 t0:Tx w b0 k0 X0 Y0
 t1:Tx w b1 k1 X1 Y1
 t2:Tx w b2 k2 X2 Y2
 t3:Tx w b3 k3 X3 Y3
theorem T4.below {w w' b0 b1 b2 b3 k0 X0 Y0 k1 X1 Y1 k2 X2 Y2 k3 X3 Y3} (h:T4 w b0 b1 b2 b3 k0 X0 Y0 k1 X1 Y1 k2 X2 Y2 k3 X3 Y3) (hb:Below w.heap.size w w'):T4 w' b0 b1 b2 b3 k0 X0 Y0 k1 X1 Y1 k2 X2 Y2 k3 X3 Y3:=⟨h.t0.below hb,h.t1.below hb,h.t2.below hb,h.t3.below hb⟩
theorem rsOf_len (M:Mo):(rsOf M).length=M.rk:=by simp [rsOf]
theorem zw_mem {α β γ:Type} {f:α→β→γ} {a:List α} {b:List β} {q:γ} (h:q ∈ List.zipWith f a b):∃(i:Nat) (x:α) (y:β),a[i]?=some x∧b[i]?=some y∧q=f x y:=by
 obtain ⟨i,hi⟩:=List.getElem?_of_mem h;rw [List.getElem?_zipWith] at hi;cases ha:a[i]? with
 | none=>rw [ha] at hi;cases hi
 | some x =>
  cases hb:b[i]? with
  | none=>rw [ha,hb] at hi;cases hi
  | some y=>rw [ha,hb] at hi;exact ⟨i,x,y,ha,hb,(Option.some.inj hi).symm⟩
theorem zip_at {α β:Type} {a:List α} {b:List β} {i:Nat} {t:α × β} (h:(a.zip b)[i]?=some t):a[i]?=some t.1∧b[i]?=some t.2:=List.getElem?_zip_eq_some.1 h
theorem dckE_two {M:Mo} {k:Nat} {X:Nat→Nm} (h:dckE M k X=0):chkE M=0∧afB k X=true∧k=M.rk:=by
 obtain ⟨h1,h2⟩:=two_zero h;refine ⟨h1,?_⟩;unfold pnE at h2;by_cases a:afB k X=true
 ·rw [if_pos a] at h2;by_cases b:k=M.rk
  ·exact ⟨a,b⟩
  ·rw [if_neg (by omega)] at h2;cases h2
 ·rw [if_neg a] at h2;cases h2
theorem dckE_twK {K w ao k X X' M M'} (h:TmK K w M M') (hx:Tx w ao k X X'):dckE M' k X'=dckE M k X:=by
 unfold dckE;rw [h.1.chk,h.1.rk];unfold pnE;rw [show afB k X'=afB k X from afr_sn (fun j _ b=>hx.2 j (by omega))]
theorem dtw_hvK {K w ao k X X' M M'} (L:Nat) (hL:K≤L) (hK:K≤100) (h:TmK K w M M') (hN:MoN M) (hx:Tx w ao k X X') (hs:ShK K k X) (he:dckE M k X=0):MoV L w M' (nq M.off) (csOf M) (rsOf M)∧mvOk (csOf M) (rsOf M)=true∧Rf L w ao (psOf k X)∧(psOf k X).length=k∧k=(rsOf M).length:=by
 obtain ⟨h1,h2,h3⟩:=dckE_two he;obtain ⟨a,b⟩:=h.valL L hL hK hN h1;exact ⟨a,b,(hx.valK hs h2).mono hL,psOf_len _ _,by rw [rsOf_len];exact h3⟩
def hldM (M:Mo) (k0:Nat) (X0:Nat→Nm) (k1:Nat) (X1:Nat→Nm) (k2:Nat) (X2:Nat→Nm):Bool:=decide (chkE M=0) && hldB (pckE M k0 X0) (dckE M k1 X1) k2 X2 (csOf M) (rsOf M) (psOf k0 X0) (psOf k1 X1)
theorem holdsTw_c {K:Nat} {w:World} {M M':Mo} {a0 a1 a2:Option Addr} {k0 c0 k1 c1 k2 c2:Nat} {X0 X1 X2 Y0 Y1 Y2:Nat→Nm} (h:TmK K w M M') (hN:MoN M) (t0:Tx w a0 k0 X0 Y0) (t1:Tx w a1 k1 X1 Y1) (t2:Tx w a2 k2 X2 Y2) (s0:ShK K k0 X0) (s1:ShK K k1 X1) (s2:ShK K k2 X2) (hK:K≤30) :
  Calls Tryz.prog 17 #[M'.val,.agg #[.slice a0 k0 c0,.slice a1 k1 c1,.slice a2 k2 c2]] w fun e w'=>e=.returned (.tuple #[.bool (hldM M k0 X0 k1 X1 k2 X2),.int .i64 (chkE M)])∧Below w.heap.size w w':=by
 have:=dHolds_v (c0:=c0) (c1:=c1) (c2:=c2) h.2.1 t0.1 t1.1 t2.1 (by have:=s0.1;omega) (by have:=s1.1;omega) (by have:=s2.1;omega) (pckE_twK h t0) (dckE_twK h t1) (fun he=>tw_hvK K (by omega) (by omega) h hN t0 s0 he) (fun he=>dtw_hvK K (by omega) (by omega) h hN t1 s1 he) hK;unfold hldM;rw [h.1.chk] at this;unfold hldB at this ⊢;rw [show afB k2 Y2=afB k2 X2 from afr_sn (fun j _ b=>t2.2 j (by omega)),psOf_sn t2.2] at this;exact this
set_option maxRecDepth 100000 in
set_option maxHeartbeats 4000000 in
theorem light11_c {w:World} {a0 a1 a2:Option Addr} {k0 c0 k1 c1 k2 c2:Nat} {X0 X1 X2:Nat→Nm} (h0:Rr w a0 k0 X0) (h1:Rr w a1 k1 X1) (h2:Rr w a2 k2 X2) (b0:k0≤9223372036854775807) (b1:k1≤9223372036854775807) (b2:k2≤9223372036854775807) :
  Calls Tryz.prog 16 #[.agg #[.slice a0 k0 c0,.slice a1 k1 c1,.slice a2 k2 c2]] w fun e w'=>e=.returned (.bool (lgL 8 k0 X0 && (lgL 8 k1 X1 && lgL 8 k2 X2)))∧Below w.heap.size w w':=by
 have C0:Hid (∀W,Below w.heap.size w W→Calls Tryz.prog 7 #[.slice a0 k0 c0,.int .i64 8] W fun e w'=>e=.returned (.bool (lgL 8 k0 X0))∧Below W.heap.size W w'):=fun W hW=>rLights_c 8 (h0.below hW) b0
 have C1:Hid (∀W,Below w.heap.size w W→Calls Tryz.prog 7 #[.slice a1 k1 c1,.int .i64 8] W fun e w'=>e=.returned (.bool (lgL 8 k1 X1))∧Below W.heap.size W w'):=fun W hW=>rLights_c 8 (h1.below hW) b1
 have C2:Hid (∀W,Below w.heap.size w W→Calls Tryz.prog 7 #[.slice a2 k2 c2,.int .i64 8] W fun e w'=>e=.returned (.bool (lgL 8 k2 X2))∧Below W.heap.size W w'):=fun W hW=>rLights_c 8 (h2.below hW) b2
 obtain ⟨p0,hp0⟩:∃p,lgL 8 k0 X0=p:=⟨_,rfl⟩;rw [hp0] at C0 ⊢;obtain ⟨p1,hp1⟩:∃p,lgL 8 k1 X1=p:=⟨_,rfl⟩;rw [hp1] at C1 ⊢;obtain ⟨p2,hp2⟩:∃p,lgL 8 k2 X2=p:=⟨_,rfl⟩;rw [hp2] at C2 ⊢;clear h0 h1 h2 hp0 hp1 hp2;have BK:Hid (Bk (w.alloc (.cells #[.slice a0 k0 c0,.slice a1 k1 c1,.slice a2 k2 c2] 50)) w.heap.size [.slice a0 k0 c0,.slice a1 k1 c1,.slice a2 k2 c2] 50):=bk_new w [.slice a0 k0 c0,.slice a1 k1 c1,.slice a2 k2 c2] 50;have HB:=hid (below_alloc (Below.refl w.heap.size w) (.cells #[.slice a0 k0 c0,.slice a1 k1 c1,.slice a2 k2 c2] 50));go_enter Tryz.func16,Tryz.ntmps16;have t0:=BK.out.cell (j:=0) rfl;go_wp2_with fail
 clear t0;generalize (w.alloc (.cells #[.slice a0 k0 c0,.slice a1 k1 c1,.slice a2 k2 c2] 50))=w0 at *;refine (C0.out _ HB.out).mono ?_;rintro e v0 ⟨rfl,hb⟩;replace HB:=hid (HB.out.trans (hb.mono HB.out.size));replace BK:=hid (BK.out.below hb)
 clear hb;cases p0
 ·go_wp2;go_ret;exact ⟨by simp,HB.out⟩
 have t1:=BK.out.cell (j:=1) rfl;go_wp2_with fail
 clear t1;refine (C1.out _ HB.out).mono ?_;rintro e v1 ⟨rfl,hb⟩;replace HB:=hid (HB.out.trans (hb.mono HB.out.size));replace BK:=hid (BK.out.below hb)
 clear hb;cases p1
 ·go_wp2;go_ret;exact ⟨by simp,HB.out⟩
 have t2:=BK.out.cell (j:=2) rfl;go_wp2_with fail
 clear t2;refine (C2.out _ HB.out).mono ?_;rintro e v2 ⟨rfl,hb⟩;replace HB:=hid (HB.out.trans (hb.mono HB.out.size));replace BK:=hid (BK.out.below hb)
 clear hb;go_wp2;go_ret;exact ⟨by simp,HB.out⟩
structure T3 (w:World) (b0 b1 b2:Option Addr) (k0:Nat) (X0 Y0:Nat→Nm) (k1:Nat) (X1 Y1:Nat→Nm) (k2:Nat) (X2 Y2:Nat→Nm):Prop where
 t0:Tx w b0 k0 X0 Y0
 t1:Tx w b1 k1 X1 Y1
 t2:Tx w b2 k2 X2 Y2
theorem T3.below {w w' b0 b1 b2 k0 X0 Y0 k1 X1 Y1 k2 X2 Y2} (h:T3 w b0 b1 b2 k0 X0 Y0 k1 X1 Y1 k2 X2 Y2) (hb:Below w.heap.size w w'):T3 w' b0 b1 b2 k0 X0 Y0 k1 X1 Y1 k2 X2 Y2:=⟨h.t0.below hb,h.t1.below hb,h.t2.below hb⟩
theorem twin11_c {w:World} {K:Nat} {a0 a1 a2:Option Addr} {k0 c0 k1 c1 k2 c2:Nat} {X0 X1 X2:Nat→Nm} (h0:Rl w a0 k0 X0) (h1:Rl w a1 k1 X1) (h2:Rl w a2 k2 X2) (s0:ShK K k0 X0) (s1:ShK K k1 X1) (s2:ShK K k2 X2) (hK:K≤100) :
  Calls Tryz.prog 18 #[.agg #[.slice a0 k0 c0,.slice a1 k1 c1,.slice a2 k2 c2]] w fun e w'=>∃b0 d0 Y0 b1 d1 Y1 b2 d2 Y2,e=.returned (.agg #[.slice b0 k0 d0,.slice b1 k1 d1,.slice b2 k2 d2])∧Below w.heap.size w w'∧Hid (T3 w' b0 b1 b2 k0 X0 Y0 k1 X1 Y1 k2 X2 Y2) :=
 (twPoint_c (c0:=c0) (c1:=c1) (c2:=c2) h0 h1 h2 (by have:=s0.1;omega) (by have:=s1.1;omega) (by have:=s2.1;omega) (fun j hj=>by have:=s0.2 j hj;omega) (fun j hj=>by have:=s1.2 j hj;omega) (fun j hj=>by have:=s2.2 j hj;omega)).mono fun e w' ⟨b0,d0,Y0,b1,d1,Y1,b2,d2,Y2,h1,h2,_,h4⟩=>⟨b0,d0,Y0,b1,d1,Y1,b2,d2,Y2,h1,h2,hid ⟨h4.out.1,h4.out.2.1,h4.out.2.2⟩⟩
structure HdP (M:Mo) (k0:Nat) (X0:Nat→Nm) (k1:Nat) (X1:Nat→Nm) (k2:Nat) (X2:Nat→Nm):Prop where
 ck:chkE M=0
 px:pckE M k0 X0=0
 dy:dckE M k1 X1=0
 fe:feasB (csOf M) (rsOf M) (psOf k0 X0)=true
 fz:afB k2 X2=true
 z:psOf k2 X2=redC (rsOf M) (psOf k1 X1) 0 (csOf M)
 ar:arB (csOf M) (rsOf M) (psOf k0 X0) (psOf k1 X1) (redC (rsOf M) (psOf k1 X1) 0 (csOf M))=true
theorem hdP_iff {M:Mo} {k0 k1 k2:Nat} {X0 X1 X2:Nat→Nm}:hldM M k0 X0 k1 X1 k2 X2=true ↔ HdP M k0 X0 k1 X1 k2 X2:=by
 simp only [hldM,hldB,Bool.and_eq_true,decide_eq_true_eq];exact ⟨fun ⟨a,⟨b,c⟩,d,⟨e,f⟩,g⟩=>⟨a,b,d,c,e,f,g⟩,fun h=>⟨h.ck,⟨h.px,h.fe⟩,h.dy,⟨h.fz,h.z⟩,h.ar⟩⟩
theorem MoK.mono {K L:Nat} {M:Mo} (h:MoK K M) (hK:K≤L):MoK L M :=
 ⟨⟨Nat.le_trans h.off.1 hK,Nat.le_trans h.off.2 hK⟩,fun j hj=>by
  obtain ⟨⟨a,b⟩,⟨c,d⟩,e,f⟩:=h.c j hj;exact ⟨⟨Nat.le_trans a hK,Nat.le_trans b hK⟩,⟨Nat.le_trans c hK,Nat.le_trans d hK⟩,Nat.le_trans e hK,Nat.le_trans f hK⟩,fun j hj=>by
  obtain ⟨⟨a,b⟩,⟨c,d⟩,e,f⟩:=h.r j hj;exact ⟨⟨Nat.le_trans a hK,Nat.le_trans b hK⟩,⟨Nat.le_trans c hK,Nat.le_trans d hK⟩,e,fun p hp=>⟨Nat.le_trans (f p hp).1 hK,Nat.le_trans (f p hp).2 hK⟩⟩⟩
theorem kktB_iff {cs:List CV} {rs:List RV} {xs ys zs:List Rat} (lx:xs.length=cs.length) (ly:ys.length=rs.length) (lz:zs.length=cs.length):kktB cs rs xs ys zs=true ↔ feasB cs rs xs=true∧zs=redC rs ys 0 cs∧arB cs rs xs ys (redC rs ys 0 cs)=true:=by
 have lr:=redC_len rs ys cs 0;obtain ⟨ds,hds⟩:∃t,redC rs ys 0 cs=t:=⟨_,rfl⟩;unfold kktB;rw [hds] at lr ⊢;simp only [Bool.and_eq_true,allB_iff];refine and_congr_right fun _=>⟨fun ⟨h1,h2⟩=>?_,fun ⟨h1,h2⟩=>?_⟩
 ·have e:zs=ds:=by
   refine List.ext_getElem? fun j=>?_
   by_cases hj:j<cs.length
   ·have q1:=List.getElem?_eq_getElem (l:=cs) hj;have q2:=List.getElem?_eq_getElem (l:=ds) (show j<ds.length by omega);have q3:=List.getElem?_eq_getElem (l:=xs) (show j<xs.length by omega);have q4:=List.getElem?_eq_getElem (l:=zs) (show j<zs.length by omega);have:=h1 j hj;rw [kcB_at q1 q2 q3 q4] at this;simp only [Bool.and_eq_true,decide_eq_true_eq] at this;rw [q2,q4,this.1]
   ·rw [List.getElem?_eq_none (by omega),List.getElem?_eq_none (by omega)]
  refine ⟨e,?_⟩;subst e;simp only [arB,Bool.and_eq_true,List.all_eq_true,id];refine ⟨fun b hb=>?_,fun b hb=>?_⟩
  ·obtain ⟨i,v,y,hv,hy,rfl⟩:=zw_mem hb;have:=h2 i (List.getElem?_eq_some_iff.1 hv).1;rw [krB_at hv hy] at this;rw [actQ,←dsum_psum];exact this
  ·obtain ⟨i,v,t,hv,ht,rfl⟩:=zw_mem hb;obtain ⟨hz,hx⟩:=zip_at ht;have:=h1 i (List.getElem?_eq_some_iff.1 hv).1;rw [kcB_at hv hz hx hz] at this;simp only [Bool.and_eq_true,decide_eq_true_eq] at this;exact this.2
 ·subst h1;simp only [arB,Bool.and_eq_true,List.all_eq_true,id] at h2;refine ⟨fun j hj=>?_,fun j hj=>?_⟩
  ·have q1:=List.getElem?_eq_getElem (l:=cs) hj;have q3:=List.getElem?_eq_getElem (l:=xs) (show j<xs.length by omega);have q4:=List.getElem?_eq_getElem (l:=zs) (show j<zs.length by omega);rw [kcB_at q1 q4 q3 q4,decide_eq_true rfl,Bool.true_and];exact h2.2 _ (List.mem_of_getElem? (rsC_at q1 q4 q3))
  ·have q1:=List.getElem?_eq_getElem (l:=rs) hj;have q3:=List.getElem?_eq_getElem (l:=ys) (show j<ys.length by omega);rw [krB_at q1 q3,dsum_psum];exact h2.1 _ (List.mem_of_getElem? (rsR_at q1 q3))
theorem hld_piece {M:Mo} {k0 k1 k2:Nat} {X Y Z:Nat→Nm} (h0:chkE M=0):hldM M k0 X k1 Y k2 Z=(decide (k0=M.ck) && (decide (k2=M.ck) && (decide (k1=M.rk) && (afB k0 X && (afB k1 Y && (afB k2 Z && kktB (csOf M) (rsOf M) (psOf k0 X) (psOf k1 Y) (psOf k2 Z))))))):=by
 rw [Bool.eq_iff_iff,hdP_iff];simp only [Bool.and_eq_true,decide_eq_true_eq];constructor
 ·intro h;obtain ⟨_,b,c⟩:=pckE_two h.px;obtain ⟨_,b',c'⟩:=dckE_two h.dy;have hz:k2=M.ck:=by
   have:=congrArg List.length h.z;rw [psOf_len,redC_len,csOf_len] at this;exact this
  refine ⟨c,hz,c',b,b',h.fz,(kktB_iff (by rw [psOf_len,csOf_len];exact c) (by rw [psOf_len,rsOf_len];exact c') (by rw [psOf_len,csOf_len];exact hz)).2 ⟨h.fe,h.z,h.ar⟩⟩
 ·rintro ⟨c,hz,c',b,b',b2,h⟩;obtain ⟨h1,h2,h3⟩:=(kktB_iff (by rw [psOf_len,csOf_len];exact c) (by rw [psOf_len,rsOf_len];exact c') (by rw [psOf_len,csOf_len];exact hz)).1 h;exact ⟨h0,pckE_ok h0 b c,dckE_ok h0 b' c',h1,b2,h2,h3⟩
theorem mvOk_ts {cs:List CV} {rs:List RV} (h:mvOk cs rs=true):∀v ∈ rs,tsB cs.length (-1) v.ts=true:=fun v hv=>by
 simp only [mvOk,Bool.and_eq_true,decide_eq_true_eq,List.all_eq_true] at h;exact (h.2.2.2.1 v hv).2.1
set_option maxRecDepth 100000 in
set_option maxHeartbeats 8000000 in
theorem rHolds_c {w:World} {M:Mo} {a0 a1 a2:Option Addr} {k0 c0 k1 c1 k2 c2:Nat} {X Y Z:Nat→Nm} (hI:In8 w M) (h0:chkE M=0) (hx:Rl w a0 k0 X) (sx:ShK 8 k0 X) (hy:Rl w a1 k1 Y) (sy:ShK 8 k1 Y) (hz:Rl w a2 k2 Z) (sz:ShK 8 k2 Z) :
  Calls Tryz.prog 52 #[M.val,.agg #[.slice a0 k0 c0,.slice a1 k1 c1,.slice a2 k2 c2]] w fun e w'=>e=.returned (.bool (hldM M k0 X k1 Y k2 Z))∧Below w.heap.size w w':=by
 obtain ⟨hv,hm⟩:=hI.val h0;have HP:=hid (hld_piece (k0:=k0) (X:=X) (k1:=k1) (Y:=Y) (k2:=k2) (Z:=Z) h0);have C0:=hid (fun W (hW:Below w.heap.size w W)=>forms_c (w:=W) (cap:=c0) (hx.below hW) (by have:=sx.1;omega) (fun j hj=>by have:=sx.2 j hj;omega));have C1:=hid (fun W (hW:Below w.heap.size w W)=>forms_c (w:=W) (cap:=c1) (hy.below hW) (by have:=sy.1;omega) (fun j hj=>by have:=sy.2 j hj;omega));have C2:=hid (fun W (hW:Below w.heap.size w W)=>forms_c (w:=W) (cap:=c2) (hz.below hW) (by have:=sz.1;omega) (fun j hj=>by have:=sz.2 j hj;omega));obtain ⟨b0,hb0⟩:∃e,afB k0 X=e:=⟨_,rfl⟩;have D0:=hid (fun (hb:b0=true) W (hW:Below w.heap.size w W)=>froms8_c (cap:=c0) (hx.below hW) sx (hb0.trans hb));rw [hb0] at C0 HP;obtain ⟨b1,hb1⟩:∃e,afB k1 Y=e:=⟨_,rfl⟩;have D1:=hid (fun (hb:b1=true) W (hW:Below w.heap.size w W)=>froms8_c (cap:=c1) (hy.below hW) sy (hb1.trans hb));rw [hb1] at C1 HP;obtain ⟨b2,hb2⟩:∃e,afB k2 Z=e:=⟨_,rfl⟩;have D2:=hid (fun (hb:b2=true) W (hW:Below w.heap.size w W)=>froms8_c (cap:=c2) (hz.below hW) sz (hb2.trans hb));rw [hb2] at C2 HP;have CM:=hid (fun W (hW:Below w.heap.size w W)=>from8_c (hI.below hW) h0);have HT:=mvOk_p hm;have HS:=mvOk_ts hm;obtain ⟨kk,hkk⟩:∃e,kktB (csOf M) (rsOf M) (psOf k0 X) (psOf k1 Y) (psOf k2 Z)=e:=⟨_,rfl⟩;rw [hkk] at HP;have CK:Hid (k0=M.ck→k2=M.ck→k1=M.rk→∀W (M':Mo) a c a' c' a3 c3,MqV (2*8) W M' (nq M.off) (csOf M) (rsOf M)→Rqs (2*8) W a (psOf k0 X)→Rqs (2*8) W a' (psOf k1 Y)→Rqs (2*8) W a3 (psOf k2 Z)→Calls Tryz.prog 91 #[M'.val,.slice a k0 c,.slice a' k1 c',.slice a3 k2 c3] W fun e w'=>e=.returned (.bool kk)∧Below W.heap.size W w'):=fun e0 e2 e1 W M' a c a' c' a3 c3 g1 g2 g3 g4=>by
  have l0:(psOf k0 X).length=(csOf M).length:=by rw [psOf_len,csOf_len];exact e0
  have l1:(psOf k1 Y).length=(rsOf M).length:=by rw [psOf_len,rsOf_len];exact e1
  have l2:(psOf k2 Z).length=(csOf M).length:=by rw [psOf_len,csOf_len];exact e2
  have:=rKKT_c (xc:=c) (yc:=c') (zc:=c3) (L:=8) g1 g2 g3 g4 l0 l1 l2 HT HS (by decide);rw [hkk,show (csOf M).length=k0 from by rw [csOf_len];exact e0.symm,show (rsOf M).length=k1 from by rw [rsOf_len];exact e1.symm] at this;rw [show k2=k0 from e2.trans e0.symm];exact this
 obtain ⟨cs,hcs⟩:∃e,csOf M=e:=⟨_,rfl⟩;obtain ⟨rs,hrs⟩:∃e,rsOf M=e:=⟨_,rfl⟩;obtain ⟨of,hof⟩:∃e,nq M.off=e:=⟨_,rfl⟩;rw [hcs,hrs,hof] at CK;simp only [hcs,hrs,hof] at CM;obtain ⟨hh,hhe⟩:∃e,hldM M k0 X k1 Y k2 Z=e:=⟨_,rfl⟩;rw [hhe] at HP ⊢;clear hI h0 hx hy hz sx sy sz hv hm HT HS hkk hcs hrs hof hhe hb0 hb1 hb2;obtain ⟨⟨s,x,n,c,f,y,m,d,g⟩,ca,ck,cc,C,ra,rk,rc,R⟩:=M;replace CM:Hid (∀W,Below w.heap.size w W→Calls Tryz.prog 39 #[.agg #[.bool s,.slice x n c,.slice y m d,.slice ca ck cc,.slice ra rk rc]] W fun e w'=>∃M':Mo,e=.returned M'.val∧Below W.heap.size W w'∧Hid (MqV (2*8) w' M' of cs rs)):=CM;replace CK:Hid (k0=ck→k2=ck→k1=rk→∀W (M':Mo) a c a' c' a3 c3,MqV (2*8) W M' of cs rs→Rqs (2*8) W a (psOf k0 X)→Rqs (2*8) W a' (psOf k1 Y)→Rqs (2*8) W a3 (psOf k2 Z)→Calls Tryz.prog 91 #[M'.val,.slice a k0 c,.slice a' k1 c',.slice a3 k2 c3] W fun e w'=>e=.returned (.bool kk)∧Below W.heap.size W w'):=CK;replace HP:Hid (hh=(decide (k0=ck) && (decide (k2=ck) && (decide (k1=rk) && (b0 && (b1 && (b2 && kk))))))):=HP;show Calls Tryz.prog 52 #[.agg #[.bool s,.slice x n c,.slice y m d,.slice ca ck cc,.slice ra rk rc],.agg #[.slice a0 k0 c0,.slice a1 k1 c1,.slice a2 k2 c2]] w _;have HB:=hid (below_alloc (below_alloc (Below.refl w.heap.size w) (.cells #[.bool s,.slice x n c,.slice y m d,.slice ca ck cc,.slice ra rk rc] 28)) (.cells #[.slice a0 k0 c0,.slice a1 k1 c1,.slice a2 k2 c2] 50));have BM:Hid (Bk ((w.alloc (.cells #[.bool s,.slice x n c,.slice y m d,.slice ca ck cc,.slice ra rk rc] 28)).alloc (.cells #[.slice a0 k0 c0,.slice a1 k1 c1,.slice a2 k2 c2] 50)) w.heap.size [.bool s,.slice x n c,.slice y m d,.slice ca ck cc,.slice ra rk rc] 28):=(bk_new w [.bool s,.slice x n c,.slice y m d,.slice ca ck cc,.slice ra rk rc] 28).below (below_alloc (Below.refl _ _) _);have BA:Hid (Bk ((w.alloc (.cells #[.bool s,.slice x n c,.slice y m d,.slice ca ck cc,.slice ra rk rc] 28)).alloc (.cells #[.slice a0 k0 c0,.slice a1 k1 c1,.slice a2 k2 c2] 50)) (w.heap.size+1) [.slice a0 k0 c0,.slice a1 k1 c1,.slice a2 k2 c2] 50):=by
  have:=bk_new (w.alloc (.cells #[.bool s,.slice x n c,.slice y m d,.slice ca ck cc,.slice ra rk rc] 28)) [.slice a0 k0 c0,.slice a1 k1 c1,.slice a2 k2 c2] 50;rw [size_alloc1] at this;exact this
 go_enter Tryz.func52,Tryz.ntmps52;go_upto_region 1 with fail
 generalize ((w.alloc (.cells #[.bool s,.slice x n c,.slice y m d,.slice ca ck cc,.slice ra rk rc] 28)).alloc (.cells #[.slice a0 k0 c0,.slice a1 k1 c1,.slice a2 k2 c2] 50))=v0 at *;by_cases h0:k0=ck
 case neg =>
  have q1:(((k0:Nat):Int) != ((ck:Nat):Int))=true:=bne_iff_ne.2 (by omega);have h9:hh=false:=by rw [HP.out,decide_eq_false h0];simp
  subst h9;have r0:=BM.out.cell (j:=0) rfl;have r1:=BM.out.cell (j:=1) rfl;have r2:=BM.out.cell (j:=2) rfl;have r3:=BM.out.cell (j:=3) rfl;have r4:=BM.out.cell (j:=4) rfl;have t0:=BA.out.cell (j:=0) rfl;have t1:=BA.out.cell (j:=1) rfl;have t2:=BA.out.cell (j:=2) rfl;go_wp2;go_ret;exact ⟨by first | rfl | simp,HB.out⟩
 have q5:(((k0:Nat):Int) != ((ck:Nat):Int))=false:=bne_eq_false_iff_eq.2 (by omega);by_cases h2:k2=ck
 case neg =>
  have q1:(((k2:Nat):Int) != ((ck:Nat):Int))=true:=bne_iff_ne.2 (by omega);have h9:hh=false:=by rw [HP.out,decide_eq_false h2];simp
  subst h9;have r0:=BM.out.cell (j:=0) rfl;have r1:=BM.out.cell (j:=1) rfl;have r2:=BM.out.cell (j:=2) rfl;have r3:=BM.out.cell (j:=3) rfl;have r4:=BM.out.cell (j:=4) rfl;have t0:=BA.out.cell (j:=0) rfl;have t1:=BA.out.cell (j:=1) rfl;have t2:=BA.out.cell (j:=2) rfl;go_wp2;go_ret;exact ⟨by first | rfl | simp,HB.out⟩
 have q6:(((k2:Nat):Int) != ((ck:Nat):Int))=false:=bne_eq_false_iff_eq.2 (by omega);by_cases h1:k1=rk
 case neg =>
  have q1:(((k1:Nat):Int) != ((rk:Nat):Int))=true:=bne_iff_ne.2 (by omega);have h9:hh=false:=by rw [HP.out,decide_eq_false h1];simp
  subst h9;have r0:=BM.out.cell (j:=0) rfl;have r1:=BM.out.cell (j:=1) rfl;have r2:=BM.out.cell (j:=2) rfl;have r3:=BM.out.cell (j:=3) rfl;have r4:=BM.out.cell (j:=4) rfl;have t0:=BA.out.cell (j:=0) rfl;have t1:=BA.out.cell (j:=1) rfl;have t2:=BA.out.cell (j:=2) rfl;go_wp2;go_ret;exact ⟨by first | rfl | simp,HB.out⟩
 have q7:(((k1:Nat):Int) != ((rk:Nat):Int))=false:=bne_eq_false_iff_eq.2 (by omega);replace HP:Hid (hh=(b0 && (b1 && (b2 && kk)))):=by
  show _=_;rw [HP.out,decide_eq_true h0,decide_eq_true h1,decide_eq_true h2];rfl
 replace CK:=hid (CK.out h0 h2 h1);clear h0 h1 h2;have r0:=BM.out.cell (j:=0) rfl;have r1:=BM.out.cell (j:=1) rfl;have r2:=BM.out.cell (j:=2) rfl;have r3:=BM.out.cell (j:=3) rfl;have r4:=BM.out.cell (j:=4) rfl;have t0:=BA.out.cell (j:=0) rfl;have t1:=BA.out.cell (j:=1) rfl;have t2:=BA.out.cell (j:=2) rfl;go_wp2_with fail
 clear r0 r1 r2 r3 r4 t0 t1 t2;refine (C0.out _ HB.out).mono ?_;rintro e v1 ⟨rfl,hb⟩;replace HB:=hid (HB.out.trans (hb.mono HB.out.size));replace BM:=hid (BM.out.below hb);replace BA:=hid (BA.out.below hb)
 clear hb;clear C0;cases b0
 ·have h9:hh=false:=by rw [HP.out];simp
  subst h9;go_wp2;go_ret;exact ⟨by first | rfl | simp,HB.out⟩
 replace D0:=hid (D0.out (by first | rfl | trivial));have r0:=BM.out.cell (j:=0) rfl;have r1:=BM.out.cell (j:=1) rfl;have r2:=BM.out.cell (j:=2) rfl;have r3:=BM.out.cell (j:=3) rfl;have r4:=BM.out.cell (j:=4) rfl;have t0:=BA.out.cell (j:=0) rfl;have t1:=BA.out.cell (j:=1) rfl;have t2:=BA.out.cell (j:=2) rfl;go_wp2_with fail
 clear r0 r1 r2 r3 r4 t0 t1 t2;refine (C1.out _ HB.out).mono ?_;rintro e v2 ⟨rfl,hb⟩;replace HB:=hid (HB.out.trans (hb.mono HB.out.size));replace BM:=hid (BM.out.below hb);replace BA:=hid (BA.out.below hb)
 clear hb;clear C1;cases b1
 ·have h9:hh=false:=by rw [HP.out];simp
  subst h9;go_wp2;go_ret;exact ⟨by first | rfl | simp,HB.out⟩
 replace D1:=hid (D1.out (by first | rfl | trivial));have r0:=BM.out.cell (j:=0) rfl;have r1:=BM.out.cell (j:=1) rfl;have r2:=BM.out.cell (j:=2) rfl;have r3:=BM.out.cell (j:=3) rfl;have r4:=BM.out.cell (j:=4) rfl;have t0:=BA.out.cell (j:=0) rfl;have t1:=BA.out.cell (j:=1) rfl;have t2:=BA.out.cell (j:=2) rfl;go_wp2_with fail
 clear r0 r1 r2 r3 r4 t0 t1 t2;refine (C2.out _ HB.out).mono ?_;rintro e v3 ⟨rfl,hb⟩;replace HB:=hid (HB.out.trans (hb.mono HB.out.size));replace BM:=hid (BM.out.below hb);replace BA:=hid (BA.out.below hb)
 clear hb;clear C2;cases b2
 ·have h9:hh=false:=by rw [HP.out];simp
  subst h9;go_wp2;go_ret;exact ⟨by first | rfl | simp,HB.out⟩
 replace D2:=hid (D2.out (by first | rfl | trivial));have h9:hh=kk:=by rw [HP.out];rfl
 subst h9;go_upto_region 3 with fail
 have EM:=hid (fun W (hW:Below v3.heap.size v3 W)=>CM.out W (HB.out.trans (hW.mono HB.out.size)));have E0:=hid (fun W (hW:Below v3.heap.size v3 W)=>D0.out W (HB.out.trans (hW.mono HB.out.size)));have E1:=hid (fun W (hW:Below v3.heap.size v3 W)=>D1.out W (HB.out.trans (hW.mono HB.out.size)));have E2:=hid (fun W (hW:Below v3.heap.size v3 W)=>D2.out W (HB.out.trans (hW.mono HB.out.size)));clear CM D0 D1 D2;have r0:=BM.out.cell (j:=0) rfl;have r1:=BM.out.cell (j:=1) rfl;have r2:=BM.out.cell (j:=2) rfl;have r3:=BM.out.cell (j:=3) rfl;have r4:=BM.out.cell (j:=4) rfl;have t0:=BA.out.cell (j:=0) rfl;have t1:=BA.out.cell (j:=1) rfl;have t2:=BA.out.cell (j:=2) rfl;go_region_held3 (fun w'=>w'.cell? ⟨w.heap.size,0,none⟩=some (.bool s)∧w'.cell? ⟨w.heap.size,1,none⟩=some (.slice x n c)∧w'.cell? ⟨w.heap.size,2,none⟩=some (.slice y m d)∧w'.cell? ⟨w.heap.size,3,none⟩=some (.slice ca ck cc)∧w'.cell? ⟨w.heap.size,4,none⟩=some (.slice ra rk rc)∧w'.cell? ⟨w.heap.size+1,0,none⟩=some (.slice a0 k0 c0)∧w'.cell? ⟨w.heap.size+1,1,none⟩=some (.slice a1 k1 c1)∧w'.cell? ⟨w.heap.size+1,2,none⟩=some (.slice a2 k2 c2))
  (refine ⟨?_,?_,?_,?_,?_,?_,?_,?_⟩ <;> repeat (with_reducible first | assumption | refine kCd ?_ | refine kCb (by assumption) ?_))
  (first
   | (go_at_call 39;with_reducible refine (EM.out _ belA).mono ?_;rintro e u3 ⟨M3,rfl,hb3,H3⟩)
   | (go_at_call 40;with_reducible refine (E0.out _ belA).mono ?_;rintro e u0 ⟨z0,e0,rfl,hb0,H0⟩)
   | (go_at_call 40;with_reducible refine (E1.out _ belA).mono ?_;rintro e u1 ⟨z1,e1,rfl,hb1,H1⟩)
   | (go_at_call 40;with_reducible refine (E2.out _ belA).mono ?_;rintro e u2 ⟨z2,e2,rfl,hb2,H2⟩)
   | (go_at_call 91;with_reducible refine (CK.out _ M3 z0 e0 z1 e1 z2 e2 (H3.out.below belA) (H0.out.below belA) (H1.out.below belA) (H2.out.below belA)).mono ?_;rintro e u5 ⟨rfl,hb5⟩))
 all_goals
  have hb:Below v3.heap.size v3 u5:=belA;replace HB:=hid (HB.out.trans (hb.mono HB.out.size));clear hb;go_wp2;go_ret;exact ⟨by first | rfl | simp,by first | exact HB.out | exact HB.out.drew | exact below_drewN HB.out _⟩
set_option maxRecDepth 100000 in
set_option maxHeartbeats 4000000 in
theorem docHolds_c {w:World} {M:Mo} {a0 a1 a2:Option Addr} {k0 c0 k1 c1 k2 c2:Nat} {X Y Z:Nat→Nm} (hI:In8 w M) (hx:Rl w a0 k0 X) (sx:ShK 8 k0 X) (hy:Rl w a1 k1 Y) (sy:ShK 8 k1 Y) (hz:Rl w a2 k2 Z) (sz:ShK 8 k2 Z) :
  Calls Tryz.prog 19 #[M.val,.agg #[.slice a0 k0 c0,.slice a1 k1 c1,.slice a2 k2 c2]] w fun e w'=>e=.returned (.tuple #[.bool (hldM M k0 X k1 Y k2 Z),.int .i64 (chkE M)])∧Below w.heap.size w w':=by
 have CC:=hid (fun W (hW:Below w.heap.size w W)=>docCheck_w (w:=W) ((hI.x.below hW).both hI.n hI.k (by decide)) hI.c);obtain ⟨er,her⟩:∃e,chkE M=e:=⟨_,rfl⟩;obtain ⟨rr,hrr⟩:∃e,hldM M k0 X k1 Y k2 Z=e:=⟨_,rfl⟩;have CR:Hid (er=0→∀W,Below w.heap.size w W→Calls Tryz.prog 52 #[M.val,.agg #[.slice a0 k0 c0,.slice a1 k1 c1,.slice a2 k2 c2]] W fun e w'=>e=.returned (.bool rr)∧Below W.heap.size W w'):=fun h0 W hW=>by
  have:=rHolds_c (c0:=c0) (c1:=c1) (c2:=c2) (hI.below hW) (her.trans h0) (hx.below hW) sx (hy.below hW) sy (hz.below hW) sz;rw [hrr] at this;exact this
 have HE:Hid (er≠0→rr=false):=fun h=>by rw [←hrr];unfold hldM;rw [her,decide_eq_false h];rfl
 rw [her,hrr];rw [her] at CC;clear hI hx hy hz sx sy sz her hrr;obtain ⟨⟨s,x,n,c,f,y,m,d,g⟩,ca,ck,cc,C,ra,rk,rc,R⟩:=M;replace CC:Hid (∀W,Below w.heap.size w W→Calls Tryz.prog 51 #[.agg #[.bool s,.slice x n c,.slice y m d,.slice ca ck cc,.slice ra rk rc]] W fun e w'=>e=.returned (.int .i64 er)∧Below W.heap.size W w'):=CC;replace CR:Hid (er=0→∀W,Below w.heap.size w W→Calls Tryz.prog 52 #[.agg #[.bool s,.slice x n c,.slice y m d,.slice ca ck cc,.slice ra rk rc],.agg #[.slice a0 k0 c0,.slice a1 k1 c1,.slice a2 k2 c2]] W fun e w'=>e=.returned (.bool rr)∧Below W.heap.size W w'):=CR;show Calls Tryz.prog 19 #[.agg #[.bool s,.slice x n c,.slice y m d,.slice ca ck cc,.slice ra rk rc],.agg #[.slice a0 k0 c0,.slice a1 k1 c1,.slice a2 k2 c2]] w _;have HB:=hid (below_alloc (below_alloc (Below.refl w.heap.size w) (.cells #[.bool s,.slice x n c,.slice y m d,.slice ca ck cc,.slice ra rk rc] 28)) (.cells #[.slice a0 k0 c0,.slice a1 k1 c1,.slice a2 k2 c2] 50));have BM:Hid (Bk ((w.alloc (.cells #[.bool s,.slice x n c,.slice y m d,.slice ca ck cc,.slice ra rk rc] 28)).alloc (.cells #[.slice a0 k0 c0,.slice a1 k1 c1,.slice a2 k2 c2] 50)) w.heap.size [.bool s,.slice x n c,.slice y m d,.slice ca ck cc,.slice ra rk rc] 28):=(bk_new w [.bool s,.slice x n c,.slice y m d,.slice ca ck cc,.slice ra rk rc] 28).below (below_alloc (Below.refl _ _) _);have BA:Hid (Bk ((w.alloc (.cells #[.bool s,.slice x n c,.slice y m d,.slice ca ck cc,.slice ra rk rc] 28)).alloc (.cells #[.slice a0 k0 c0,.slice a1 k1 c1,.slice a2 k2 c2] 50)) (w.heap.size+1) [.slice a0 k0 c0,.slice a1 k1 c1,.slice a2 k2 c2] 50):=by
  have:=bk_new (w.alloc (.cells #[.bool s,.slice x n c,.slice y m d,.slice ca ck cc,.slice ra rk rc] 28)) [.slice a0 k0 c0,.slice a1 k1 c1,.slice a2 k2 c2] 50;rw [size_alloc1] at this;exact this
 go_enter Tryz.func19,Tryz.ntmps19;have r0:=BM.out.cell (j:=0) rfl;have r1:=BM.out.cell (j:=1) rfl;have r2:=BM.out.cell (j:=2) rfl;have r3:=BM.out.cell (j:=3) rfl;have r4:=BM.out.cell (j:=4) rfl;have t0:=BA.out.cell (j:=0) rfl;have t1:=BA.out.cell (j:=1) rfl;have t2:=BA.out.cell (j:=2) rfl;go_wp2_with fail
 clear r0 r1 r2 r3 r4 t0 t1 t2;generalize ((w.alloc (.cells #[.bool s,.slice x n c,.slice y m d,.slice ca ck cc,.slice ra rk rc] 28)).alloc (.cells #[.slice a0 k0 c0,.slice a1 k1 c1,.slice a2 k2 c2] 50))=v0 at *;refine (CC.out _ HB.out).mono ?_;rintro e v1 ⟨rfl,hb⟩;replace HB:=hid (HB.out.trans (hb.mono HB.out.size));replace BM:=hid (BM.out.below hb);replace BA:=hid (BA.out.below hb)
 clear hb;clear CC;by_cases h0:er=0
 case neg =>
  have h1:(er != 0)=true:=by simpa using h0
  have h2:=HE.out h0;subst h2;clear CR h0;go_wp2
  go_ret2
  exact ⟨rfl,HB.out⟩
 subst h0;have r0:=BM.out.cell (j:=0) rfl;have r1:=BM.out.cell (j:=1) rfl;have r2:=BM.out.cell (j:=2) rfl;have r3:=BM.out.cell (j:=3) rfl;have r4:=BM.out.cell (j:=4) rfl;have t0:=BA.out.cell (j:=0) rfl;have t1:=BA.out.cell (j:=1) rfl;have t2:=BA.out.cell (j:=2) rfl;go_wp2_with fail
 clear r0 r1 r2 r3 r4 t0 t1 t2;refine (CR.out (by first | rfl | trivial) _ HB.out).mono ?_;rintro e v2 ⟨rfl,hb⟩;replace HB:=hid (HB.out.trans (hb.mono HB.out.size));replace BM:=hid (BM.out.below hb);replace BA:=hid (BA.out.below hb)
 clear hb;clear CR HE;go_wp2
 go_ret2
 exact ⟨rfl,HB.out⟩
end Go.Proofs.YtdbbncamlaiajaaGreat
