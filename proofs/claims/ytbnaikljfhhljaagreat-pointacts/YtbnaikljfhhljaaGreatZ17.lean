/-
 The walks of law10's num, two and first (written by makers/rf1.py). The walk of law10's awake (written by makers/rf2.py). The walks of the reference's Same of numbers, bounds and lists of terms, whatever they are (written by makers/f29.py). The walk of the law PointActs (written by makers/rk4.py).
-/
import Derived.Test.YtbnaikljfhhljaaGreatZ0
import Derived.Test.YtbnaikljfhhljaaGreatZ10
import Derived.Test.YtbnaikljfhhljaaGreatZ14
import Derived.Test.YtbnaikljfhhljaaGreatZ15
import Derived.BigRegion
import Derived.Deep.RegionHeld3
import Derived.Test.YtbnaikljfhhljaaGreatZ16
import Derived.BigQuiet
namespace Go.Proofs.YtbnaikljfhhljaaGreat
open Go.RowKit
def GN (K:Nat) (q:Rat) (v:Value) (w:World):Prop:=∃t:Nm,v=t.val∧NmV K w t q
def GTm (K:Nat) (z:Int) (q:Rat) (v:Value) (w:World):Prop:=∃t:Nm,v=.agg #[.int .i64 z,.bool t.s,.slice t.x t.n t.c,.slice t.y t.m t.d]∧NmV K w t q
def GT2 (K:Nat) (z0:Int) (q0:Rat) (z1:Int) (q1:Rat) (v:Value) (w:World):Prop:=∃b,∃t0 t1:Nm,v=.slice (some ⟨b,0,none⟩) 2 2∧(∀p z t,[(z0,t0),(z1,t1)][p]?=some (z,t)→C4 w b (0+p*4) (.int .i64 z) (.bool t.s) (.slice t.x t.n t.c) (.slice t.y t.m t.d))∧NmV K w t0 q0∧NmV K w t1 q1
def GR1 (L:Nat) (c0:RV) (v:Value) (w:World):Prop:=∃b x0,v=.slice (some ⟨b,0,none⟩) 1 1∧Cs w b 0 x0.vs∧RowV L w x0 c0
theorem GN.below {K q v w w'} (h:GN K q v w) (hb:Below w.heap.size w w'):GN K q v w':=by obtain ⟨t,h1,h2⟩:=h;exact ⟨t,h1,Rn.below h2 hb⟩
theorem GTm.below {K z q v w w'} (h:GTm K z q v w) (hb:Below w.heap.size w w'):GTm K z q v w':=by obtain ⟨t,h1,h2⟩:=h;exact ⟨t,h1,Rn.below h2 hb⟩
theorem GT2.below {K z0 q0 z1 q1 v w w'} (h:GT2 K z0 q0 z1 q1 v w) (hb:Below w.heap.size w w'):GT2 K z0 q0 z1 q1 v w':=by obtain ⟨b,t0,t1,h1,h2,h3,h4⟩:=h;exact ⟨b,t0,t1,h1,fun p z t e=>(h2 p z t e).below hb,Rn.below h3 hb,Rn.below h4 hb⟩
theorem GR1.below {L c0 v w w'} (h:GR1 L c0 v w) (hb:Below w.heap.size w w'):GR1 L c0 v w':=by obtain ⟨b,x0,h1,h2,h3⟩:=h;exact ⟨b,x0,h1,h2.below hb,h3.below hb⟩
def f0C:List CV:=[⟨⟨#[120]⟩,3,0,0,1,0⟩,⟨⟨#[121]⟩,0,-1,0,1,0⟩]
def f0R:List RV:=[⟨⟨#[114]⟩,0,1,0,5,[(0,1),(1,2)]⟩]
set_option maxRecDepth 100000 in
set_option maxHeartbeats 4000000 in
theorem num10_c {w:World} {z:Int} (h0:-1000≤z) (h1:z≤1000):Calls Tryz.prog 51 #[.int .i64 z] w fun e w'=>∃v,e=.returned v∧Below w.heap.size w w'∧GX 8 0 (z:Rat) v w':=by
 have HB:=hid (below_alloc (Below.refl w.heap.size w) (.cells #[.int .i64 0,.bool false,.slice none 0 0,.slice none 0 0] 81));have BR:Hid (Bk (w.alloc (.cells #[.int .i64 0,.bool false,.slice none 0 0,.slice none 0 0] 81)) w.heap.size [.int .i64 0,.bool false,.slice none 0 0,.slice none 0 0] 81):=bk_new w [.int .i64 0,.bool false,.slice none 0 0,.slice none 0 0] 81;go_enter Tryz.func51,Tryz.ntmps51;go_wp2_with fail
 generalize w.alloc (.cells #[.int .i64 0,.bool false,.slice none 0 0,.slice none 0 0] 81)=w0 at *;refine (docOfQ_c (z:=z) (by omega) (by omega)).mono ?_;rintro e w1 ⟨s,x,n,c,f,y,m,d,g,rfl,hb,hr⟩;replace HB:=hid (HB.out.trans (hb.mono HB.out.size));replace BR:=hid (BR.out.below hb)
 obtain ⟨hx1,hx2,hx3⟩:=st_new [.int .i64 0,.bool s,.slice x n c,.slice y m d] BR.out (nou_list (fun u hu q=>by simp at hu;rcases hu with rfl | rfl | rfl | rfl <;> simp)) HB.out (Nat.le_refl _);have l0:=BR.out.cell (j:=0) rfl;have l1:=BR.out.cell (j:=1) rfl;have l2:=BR.out.cell (j:=2) rfl;have l3:=BR.out.cell (j:=3) rfl;have ff:=BR.out.frozen;have HX:Hid (Below w.heap.size w (stl w.heap.size 0 [.int .i64 0,.bool s,.slice x n c,.slice y m d] w1)∧GX 8 0 (z:Rat) (.agg #[.int .i64 0,.bool s,.slice x n c,.slice y m d]) (stl w.heap.size 0 [.int .i64 0,.bool s,.slice x n c,.slice y m d] w1)):=⟨hx1,⟨0,⟨s,x,n,c,f,y,m,d,g⟩⟩,rfl,rfl,(Rn.kp hr hx2).mono (by decide)⟩;clear hx1 hx2 hx3 hb hr HB;go_wp2;exact bodyPost_ret (v:=.agg #[.int .i64 0,.bool s,.slice x n c,.slice y m d]) (by simp [results,Tryz.results51,go_sem,l0,l1,l2,l3]) rfl ⟨_,rfl,HX.out⟩
set_option maxRecDepth 100000 in
set_option maxHeartbeats 4000000 in
theorem two10_c {w:World} {a b:Int} (h0:-1000≤a) (h1:a≤1000) (h2:-1000≤b) (h3:b≤1000):Calls Tryz.prog 26 #[.int .i64 a,.int .i64 b] w fun e w'=>∃ad,e=.returned (.slice ad 2 2)∧Below w.heap.size w w'∧Hid (Rf 8 w' ad [(a:Rat),(b:Rat)]):=by
 go_enter Tryz.func26,Tryz.ntmps26;go_wp2_with fail
 refine (docOfQ_c (z:=a) (by omega) (by omega)).mono ?_;rintro e w1 ⟨s1,x1,n1,c1,f1,y1,m1,d1,g1,rfl,hb1,hr1⟩;have HR1:=hid hr1;have HB1:=hid hb1
 clear hr1 hb1;go_wp2_with fail
 refine (docOfQ_c (z:=b) (by omega) (by omega)).mono ?_;rintro e w2 ⟨s2,x2,n2,c2,f2,y2,m2,d2,g2,rfl,hb2,hr2⟩;have HR:=hid (show Rf 8 (w2.alloc (.cells #[.bool s1,.slice x1 n1 c1,.slice y1 m1 d1,.bool s2,.slice x2 n2 c2,.slice y2 m2 d2] 24)) (some ⟨w2.heap.size,0,none⟩) [(a:Rat),(b:Rat)] from rf_two ((HR1.out.below hb2).mono (by decide)) (hr2.mono (by decide)));have HB:=hid (below_alloc (HB1.out.trans (hb2.mono HB1.out.size)) (.cells #[.bool s1,.slice x1 n1 c1,.slice y1 m1 d1,.bool s2,.slice x2 n2 c2,.slice y2 m2 d2] 24));clear HR1 HB1 hb2 hr2;go_wp2;go_ret;exact ⟨_,rfl,HB.out,HR.out⟩
set_option maxRecDepth 100000 in
set_option maxHeartbeats 8000000 in
theorem first10_c {w:World}:Calls Tryz.prog 25 #[] w fun e w'=>∃M:Mo,e=.returned M.val∧Below w.heap.size w w'∧Hid (MoV 8 w' M 1 f0C f0R):=by
 generalize hP:(fun (e:Ending) (w':World)=>∃M:Mo,e=.returned M.val∧Below w.heap.size w w'∧Hid (MoV 8 w' M 1 f0C f0R))=P;have HA:Hid (∀w' (M:Mo),Below w.heap.size w w'→MoV 8 w' M 1 f0C f0R→P (.returned M.val) w'):=by subst hP;exact fun w' M h1 h2=>⟨M,rfl,h1,h2⟩
 clear hP;have HB:=hid (below_alloc (Below.refl w.heap.size w) (.cells #[.bool false,.slice none 0 0,.slice none 0 0,.slice none 0 0,.slice none 0 0] 28));have O0:Hid (Bk (w.alloc (.cells #[.bool false,.slice none 0 0,.slice none 0 0,.slice none 0 0,.slice none 0 0] 28)) w.heap.size [.bool false,.slice none 0 0,.slice none 0 0,.slice none 0 0,.slice none 0 0] 28):=bk_new w [.bool false,.slice none 0 0,.slice none 0 0,.slice none 0 0,.slice none 0 0] 28;go_enter Tryz.func25,Tryz.ntmps25;go_wp2_with fail
 generalize w.alloc (.cells #[.bool false,.slice none 0 0,.slice none 0 0,.slice none 0 0,.slice none 0 0] 28)=w0 at *;refine (xHigh_c).mono ?_;rintro e w1 ⟨s1,x1,n1,c1,f1,y1,m1,d1,g1,rfl,hb,hF⟩;replace HB:=hid (HB.out.trans (hb.mono HB.out.size));replace O0:=hid (O0.out.below hb)
 clear hb;go_wp2_with fail
 refine (xTo_c hF.out.2.2 (by have:=hF.out;omega) (by have:=hF.out;omega)).mono ?_;rintro e w2 ⟨xi,ni,ci,fi,yi,mi,di,gi,rfl,hb,hE⟩;replace HB:=hid (HB.out.trans (hb.mono HB.out.size));replace O0:=hid (O0.out.below hb)
 have HI:=hid (hE.out.rn.mono (show _≤8 by have:=hF.out;omega));clear hb hE hF;generalize s1=si at *;go_upto_region 2 with fail
 have hb4:=below_alloc (Below.refl w2.heap.size w2) (.cells #[.int .i64 1,.bool si,.slice xi ni ci,.slice yi mi di] 81);have B1:Hid (Bk (w2.alloc (.cells #[.int .i64 1,.bool si,.slice xi ni ci,.slice yi mi di] 81)) w2.heap.size [.int .i64 1,.bool si,.slice xi ni ci,.slice yi mi di] 81):=bk_new w2 [.int .i64 1,.bool si,.slice xi ni ci,.slice yi mi di] 81;have hop:=O0.out.lt;replace O0:=hid (O0.out.below hb4);replace HB:=hid (HB.out.trans (hb4.mono HB.out.size));replace HI:=hid (Rn.below HI.out hb4)
 generalize w2.alloc (.cells #[.int .i64 1,.bool si,.slice xi ni ci,.slice yi mi di] 81)=w4 at *;generalize w2.heap.size=p1 at *;clear hb4;have hbd:=Below.drew (Below.refl w4.heap.size w4);replace B1:=hid (B1.out.below hbd);replace O0:=hid (O0.out.below hbd);replace HI:=hid (Rn.below HI.out hbd);replace HB:=hid (HB.out.trans (hbd.mono HB.out.size))
 clear hbd;refine wp_region_held_drew (S:=(fun w'=>w'.cell? ⟨p1,0,none⟩=some (.int .i64 1)∧w'.cell? ⟨p1,1,none⟩=some (.bool si)∧w'.cell? ⟨p1,2,none⟩=some (.slice xi ni ci)∧w'.cell? ⟨p1,3,none⟩=some (.slice yi mi di))) (by kernel_rfl) ?_ (fun hHeld=>?_)
 ·exact ⟨B1.out.cell (j:=0) rfl,B1.out.cell (j:=1) rfl,B1.out.cell (j:=2) rfl,B1.out.cell (j:=3) rfl⟩
 generalize hwd:w4.drew=wd at *;clear hwd;refine tkO 3 ?_;simp only [lay_,Act.put];refine tkO 8 ?_;simp only [lay_,Act.put];refine (show wpAnyH _ _ _ _ _ (19+1) _ _ _ from wpAnyH_flow (fun j v w=>match j with | 0=>GN 8 1 v w | 1=>GN 8 3 v w | 2=>GX 8 0 0 v w | 4=>GC 8 ⟨⟨#[120]⟩,3,0,0,1,0⟩ v w | 5=>GN 8 0 v w | 6=>GF (-1) v w | 7=>GX 8 (-1) 0 v w | 9=>GC 8 ⟨⟨#[121]⟩,0,-1,0,1,0⟩ v w | 10=>GCs 8 ⟨⟨#[120]⟩,3,0,0,1,0⟩ ⟨⟨#[121]⟩,0,-1,0,1,0⟩ v w | 11=>GX 8 0 1 v w | 12=>GX 8 0 5 v w | 13=>GN 8 1 v w | 14=>GTm 8 0 1 v w | 15=>GN 8 2 v w | 16=>GTm 8 1 2 v w | 17=>GT2 8 0 1 1 2 v w | 18=>GR 8 ⟨⟨#[114]⟩,0,1,0,5,[(0,1),(1,2)]⟩ v w | 19=>GR1 8 ⟨⟨#[114]⟩,0,1,0,5,[(0,1),(1,2)]⟩ v w | 20=>GM 8 1 f0C f0R v w | _=>True) [(0,4),(1,5),(2,6),(4,8),(5,9),(6,10),(7,11),(9,13),(10,14),(11,15),(12,16),(13,17),(14,18),(15,19),(16,20),(17,21),(18,22),(19,23),(20,24)] [0,1,2,4,5,6,7,9,10,11,12,13,14,15,16,17,18,19,20] [21] _ _ _ 1 ?k1 ?k4 ?k2 ?k3 ?k5 ?k6 ?k8)
 case k1=>kernel_rfl
 case k4=>kernel_rfl
 case k2=>exact fun w w' h hb=>⟨kCb hb h.1,kCb hb h.2.1,kCb hb h.2.2.1,kCb hb h.2.2.2⟩
 case k3 =>
  intro j v w w' h hb
  split at h <;> first | exact GX.below h hb | exact GF.below h hb | exact GC.below h hb | exact GCs.below h hb | exact GN.below h hb | exact GTm.below h hb | exact GT2.below h hb | exact GR.below h hb | exact GR1.below h hb | exact GM.below h hb | exact h | trivial
 case k8=>exact hHeld
 case k5 =>
  intro i hi;simp only [List.mem_cons,List.not_mem_nil,or_false] at hi;rcases hi with rfl | rfl | rfl | rfl | rfl | rfl | rfl | rfl | rfl | rfl | rfl | rfl | rfl | rfl | rfl | rfl | rfl | rfl | rfl
  ·refine ⟨_,rfl,fun u w5 hS hb5 hd K hK=>?_⟩;simp only [fill,List.foldl_cons,List.foldl_nil,Act.put,List.setIfInBounds_toArray,List.set_cons_zero,List.set_cons_succ] at hK ⊢;go_simp
   go_at_call 27
   refine (docOfQ_c (z:=1) (by decide) (by decide)).mono ?_;rintro e w6 ⟨s6,x6,n6,c6,f6,y6,m6,d6,g6,rfl,hb6,hr⟩
   (try go_wp2_with fail)
   exact hK.out _ _ hb6 ⟨⟨s6,x6,n6,c6,f6,y6,m6,d6,g6⟩,rfl,hr.mono (by decide)⟩
  ·refine ⟨_,rfl,fun u w5 hS hb5 hd K hK=>?_⟩;simp only [fill,List.foldl_cons,List.foldl_nil,Act.put,List.setIfInBounds_toArray,List.set_cons_zero,List.set_cons_succ] at hK ⊢;go_simp
   go_at_call 27
   refine (docOfQ_c (z:=3) (by decide) (by decide)).mono ?_;rintro e w6 ⟨s6,x6,n6,c6,f6,y6,m6,d6,g6,rfl,hb6,hr⟩
   (try go_wp2_with fail)
   exact hK.out _ _ hb6 ⟨⟨s6,x6,n6,c6,f6,y6,m6,d6,g6⟩,rfl,hr.mono (by decide)⟩
  ·refine ⟨_,rfl,fun u w5 hS hb5 hd K hK=>?_⟩;simp only [fill,List.foldl_cons,List.foldl_nil,Act.put,List.setIfInBounds_toArray,List.set_cons_zero,List.set_cons_succ] at hK ⊢;go_simp
   go_at_call 51
   refine (num10_c (z:=0) (by decide) (by decide)).mono ?_;rintro e w6 ⟨v6,rfl,hb6,hr⟩
   (try go_wp2_with fail)
   exact hK.out _ _ hb6 hr
  ·refine ⟨_,rfl,fun u w5 hS hb5 hd K hK=>?_⟩;have h1:GN 8 3 (u 1) w5:=hd 1 (by kernel_rfl) (by kernel_rfl);obtain ⟨⟨sa1,xa1,na1,ca1,fa1,ya1,ma1,da1,ga1⟩,e1,v1⟩:=h1;replace e1:u 1=.agg #[.bool sa1,.slice xa1 na1 ca1,.slice ya1 ma1 da1]:=e1;have h2:GX 8 0 0 (u 2) w5:=hd 2 (by kernel_rfl) (by kernel_rfl);obtain ⟨⟨i2,⟨sa2,xa2,na2,ca2,fa2,ya2,ma2,da2,ga2⟩⟩,e2,hi2,v2⟩:=h2;replace e2:u 2=.agg #[.int .i64 i2,.bool sa2,.slice xa2 na2 ca2,.slice ya2 ma2 da2]:=e2;simp only [fill,List.foldl_cons,List.foldl_nil,Act.put,List.setIfInBounds_toArray,List.set_cons_zero,List.set_cons_succ] at hK ⊢;simp only [e1,e2] at hK ⊢;go_simp;exact hK.out _ _ (Below.refl _ _) ⟨⟨⟨#[120]⟩,⟨sa1,xa1,na1,ca1,fa1,ya1,ma1,da1,ga1⟩,⟨i2,⟨sa2,xa2,na2,ca2,fa2,ya2,ma2,da2,ga2⟩⟩,⟨1,⟨si,xi,ni,ci,fi,yi,mi,di,gi⟩⟩⟩,rfl,rfl,v1,hi2,v2,rfl,Rn.below HI.out hb5⟩
  ·refine ⟨_,rfl,fun u w5 hS hb5 hd K hK=>?_⟩;simp only [fill,List.foldl_cons,List.foldl_nil,Act.put,List.setIfInBounds_toArray,List.set_cons_zero,List.set_cons_succ] at hK ⊢;go_simp
   go_at_call 27
   refine (docOfQ_c (z:=0) (by decide) (by decide)).mono ?_;rintro e w6 ⟨s6,x6,n6,c6,f6,y6,m6,d6,g6,rfl,hb6,hr⟩
   (try go_wp2_with fail)
   exact hK.out _ _ hb6 ⟨⟨s6,x6,n6,c6,f6,y6,m6,d6,g6⟩,rfl,hr.mono (by decide)⟩
  ·refine ⟨_,rfl,fun u w5 hS hb5 hd K hK=>?_⟩;simp only [fill,List.foldl_cons,List.foldl_nil,Act.put,List.setIfInBounds_toArray,List.set_cons_zero,List.set_cons_succ] at hK ⊢;go_simp
   go_at_call 52
   refine xLow_c.mono ?_;rintro e w6 ⟨s6,x6,n6,c6,d6,y6,m6,e6,g6,rfl,hb6,hF⟩
   (try go_wp2_with fail)
   exact hK.out _ _ hb6 ⟨s6,x6,n6,c6,d6,y6,m6,e6,g6,rfl,hF.out⟩
  ·refine ⟨_,rfl,fun u w5 hS hb5 hd K hK=>?_⟩;have h6:GF (-1) (u 6) w5:=hd 6 (by kernel_rfl) (by kernel_rfl);obtain ⟨s6,x6,n6,c6,d6,y6,m6,e6,g6,e8,l1,l2,hF⟩:=h6;simp only [fill,List.foldl_cons,List.foldl_nil,Act.put,List.setIfInBounds_toArray,List.set_cons_zero,List.set_cons_succ] at hK ⊢;simp only [e8] at hK ⊢;go_simp
   go_at_call 49
   refine (xTo_c hF (by omega) (by omega)).mono ?_;rintro e w6 ⟨z7,k7,c7,f7,y7,k8,c8,f8,rfl,hb6,hE⟩
   (try go_wp2_with fail)
   exact hK.out _ _ hb6 ⟨⟨-1,⟨s6,z7,k7,c7,f7,y7,k8,c8,f8⟩⟩,rfl,rfl,hE.out.rn.mono (by omega)⟩
  ·refine ⟨_,rfl,fun u w5 hS hb5 hd K hK=>?_⟩;have h5:GN 8 0 (u 5) w5:=hd 5 (by kernel_rfl) (by kernel_rfl);obtain ⟨⟨sa5,xa5,na5,ca5,fa5,ya5,ma5,da5,ga5⟩,e5,v5⟩:=h5;replace e5:u 5=.agg #[.bool sa5,.slice xa5 na5 ca5,.slice ya5 ma5 da5]:=e5;have h7:GX 8 (-1) 0 (u 7) w5:=hd 7 (by kernel_rfl) (by kernel_rfl);obtain ⟨⟨i7,⟨sa7,xa7,na7,ca7,fa7,ya7,ma7,da7,ga7⟩⟩,e7,hi7,v7⟩:=h7;replace e7:u 7=.agg #[.int .i64 i7,.bool sa7,.slice xa7 na7 ca7,.slice ya7 ma7 da7]:=e7;simp only [fill,List.foldl_cons,List.foldl_nil,Act.put,List.setIfInBounds_toArray,List.set_cons_zero,List.set_cons_succ] at hK ⊢;simp only [e5,e7] at hK ⊢;go_simp;exact hK.out _ _ (Below.refl _ _) ⟨⟨⟨#[121]⟩,⟨sa5,xa5,na5,ca5,fa5,ya5,ma5,da5,ga5⟩,⟨i7,⟨sa7,xa7,na7,ca7,fa7,ya7,ma7,da7,ga7⟩⟩,⟨1,⟨si,xi,ni,ci,fi,yi,mi,di,gi⟩⟩⟩,rfl,rfl,v5,hi7,v7,rfl,Rn.below HI.out hb5⟩
  ·refine ⟨_,rfl,fun u w5 hS hb5 hd K hK=>?_⟩;have h4:GC 8 ⟨⟨#[120]⟩,3,0,0,1,0⟩ (u 4) w5:=hd 4 (by kernel_rfl) (by kernel_rfl);obtain ⟨⟨z4,⟨sb4,xb4,nb4,cb4,fb4,yb4,mb4,db4,gb4⟩,⟨ic4,⟨sc4,xc4,nc4,cc4,fc4,yc4,mc4,dc4,gc4⟩⟩,⟨id4,⟨sd4,xd4,nd4,cd4,fd4,yd4,md4,dd4,gd4⟩⟩⟩,e4,v4⟩:=h4;replace e4:u 4=.agg #[.string z4,.bool sb4,.slice xb4 nb4 cb4,.slice yb4 mb4 db4,.int .i64 ic4,.bool sc4,.slice xc4 nc4 cc4,.slice yc4 mc4 dc4,.int .i64 id4,.bool sd4,.slice xd4 nd4 cd4,.slice yd4 md4 dd4]:=e4;have h9:GC 8 ⟨⟨#[121]⟩,0,-1,0,1,0⟩ (u 9) w5:=hd 9 (by kernel_rfl) (by kernel_rfl);obtain ⟨⟨z9,⟨sb9,xb9,nb9,cb9,fb9,yb9,mb9,db9,gb9⟩,⟨ic9,⟨sc9,xc9,nc9,cc9,fc9,yc9,mc9,dc9,gc9⟩⟩,⟨id9,⟨sd9,xd9,nd9,cd9,fd9,yd9,md9,dd9,gd9⟩⟩⟩,e9,v9⟩:=h9;replace e9:u 9=.agg #[.string z9,.bool sb9,.slice xb9 nb9 cb9,.slice yb9 mb9 db9,.int .i64 ic9,.bool sc9,.slice xc9 nc9 cc9,.slice yc9 mc9 dc9,.int .i64 id9,.bool sd9,.slice xd9 nd9 cd9,.slice yd9 md9 dd9]:=e9;simp only [fill,List.foldl_cons,List.foldl_nil,Act.put,List.setIfInBounds_toArray,List.set_cons_zero,List.set_cons_succ] at hK ⊢;simp only [e4,e9] at hK ⊢;go_simp;have hn:=below_alloc (Below.refl w5.heap.size w5) (.cells (([.string z4,.bool sb4,.slice xb4 nb4 cb4,.slice yb4 mb4 db4,.int .i64 ic4,.bool sc4,.slice xc4 nc4 cc4,.slice yc4 mc4 dc4,.int .i64 id4,.bool sd4,.slice xd4 nd4 cd4,.slice yd4 md4 dd4]:List Value)++([.string z9,.bool sb9,.slice xb9 nb9 cb9,.slice yb9 mb9 db9,.int .i64 ic9,.bool sc9,.slice xc9 nc9 cc9,.slice yc9 mc9 dc9,.int .i64 id9,.bool sd9,.slice xd9 nd9 cd9,.slice yd9 md9 dd9]:List Value)).toArray 83);have hx:=cs_app w5 83 [.string z4,.bool sb4,.slice xb4 nb4 cb4,.slice yb4 mb4 db4,.int .i64 ic4,.bool sc4,.slice xc4 nc4 cc4,.slice yc4 mc4 dc4,.int .i64 id4,.bool sd4,.slice xd4 nd4 cd4,.slice yd4 md4 dd4] [.string z9,.bool sb9,.slice xb9 nb9 cb9,.slice yb9 mb9 db9,.int .i64 ic9,.bool sc9,.slice xc9 nc9 cc9,.slice yc9 mc9 dc9,.int .i64 id9,.bool sd9,.slice xd9 nd9 cd9,.slice yd9 md9 dd9];exact hK.out _ _ hn ⟨w5.heap.size,⟨z4,⟨sb4,xb4,nb4,cb4,fb4,yb4,mb4,db4,gb4⟩,⟨ic4,⟨sc4,xc4,nc4,cc4,fc4,yc4,mc4,dc4,gc4⟩⟩,⟨id4,⟨sd4,xd4,nd4,cd4,fd4,yd4,md4,dd4,gd4⟩⟩⟩,⟨z9,⟨sb9,xb9,nb9,cb9,fb9,yb9,mb9,db9,gb9⟩,⟨ic9,⟨sc9,xc9,nc9,cc9,fc9,yc9,mc9,dc9,gc9⟩⟩,⟨id9,⟨sd9,xd9,nd9,cd9,fd9,yd9,md9,dd9,gd9⟩⟩⟩,rfl,hx.1,hx.2,v4.below hn,v9.below hn⟩
  ·refine ⟨_,rfl,fun u w5 hS hb5 hd K hK=>?_⟩;simp only [fill,List.foldl_cons,List.foldl_nil,Act.put,List.setIfInBounds_toArray,List.set_cons_zero,List.set_cons_succ] at hK ⊢;go_simp
   go_at_call 51
   refine (num10_c (z:=1) (by decide) (by decide)).mono ?_;rintro e w6 ⟨v6,rfl,hb6,hr⟩
   (try go_wp2_with fail)
   exact hK.out _ _ hb6 hr
  ·refine ⟨_,rfl,fun u w5 hS hb5 hd K hK=>?_⟩;simp only [fill,List.foldl_cons,List.foldl_nil,Act.put,List.setIfInBounds_toArray,List.set_cons_zero,List.set_cons_succ] at hK ⊢;go_simp
   go_at_call 51
   refine (num10_c (z:=5) (by decide) (by decide)).mono ?_;rintro e w6 ⟨v6,rfl,hb6,hr⟩
   (try go_wp2_with fail)
   exact hK.out _ _ hb6 hr
  ·refine ⟨_,rfl,fun u w5 hS hb5 hd K hK=>?_⟩;simp only [fill,List.foldl_cons,List.foldl_nil,Act.put,List.setIfInBounds_toArray,List.set_cons_zero,List.set_cons_succ] at hK ⊢;go_simp
   go_at_call 27
   refine (docOfQ_c (z:=1) (by decide) (by decide)).mono ?_;rintro e w6 ⟨s6,x6,n6,c6,f6,y6,m6,d6,g6,rfl,hb6,hr⟩
   (try go_wp2_with fail)
   exact hK.out _ _ hb6 ⟨⟨s6,x6,n6,c6,f6,y6,m6,d6,g6⟩,rfl,hr.mono (by decide)⟩
  ·refine ⟨_,rfl,fun u w5 hS hb5 hd K hK=>?_⟩;have h13:GN 8 1 (u 13) w5:=hd 13 (by kernel_rfl) (by kernel_rfl);obtain ⟨⟨sa13,xa13,na13,ca13,fa13,ya13,ma13,da13,ga13⟩,e13,v13⟩:=h13;replace e13:u 13=.agg #[.bool sa13,.slice xa13 na13 ca13,.slice ya13 ma13 da13]:=e13;simp only [fill,List.foldl_cons,List.foldl_nil,Act.put,List.setIfInBounds_toArray,List.set_cons_zero,List.set_cons_succ] at hK ⊢;simp only [e13] at hK ⊢;go_simp;exact hK.out _ _ (Below.refl _ _) ⟨⟨sa13,xa13,na13,ca13,fa13,ya13,ma13,da13,ga13⟩,rfl,v13⟩
  ·refine ⟨_,rfl,fun u w5 hS hb5 hd K hK=>?_⟩;simp only [fill,List.foldl_cons,List.foldl_nil,Act.put,List.setIfInBounds_toArray,List.set_cons_zero,List.set_cons_succ] at hK ⊢;go_simp
   go_at_call 27
   refine (docOfQ_c (z:=2) (by decide) (by decide)).mono ?_;rintro e w6 ⟨s6,x6,n6,c6,f6,y6,m6,d6,g6,rfl,hb6,hr⟩
   (try go_wp2_with fail)
   exact hK.out _ _ hb6 ⟨⟨s6,x6,n6,c6,f6,y6,m6,d6,g6⟩,rfl,hr.mono (by decide)⟩
  ·refine ⟨_,rfl,fun u w5 hS hb5 hd K hK=>?_⟩;have h15:GN 8 2 (u 15) w5:=hd 15 (by kernel_rfl) (by kernel_rfl);obtain ⟨⟨sa15,xa15,na15,ca15,fa15,ya15,ma15,da15,ga15⟩,e15,v15⟩:=h15;replace e15:u 15=.agg #[.bool sa15,.slice xa15 na15 ca15,.slice ya15 ma15 da15]:=e15;simp only [fill,List.foldl_cons,List.foldl_nil,Act.put,List.setIfInBounds_toArray,List.set_cons_zero,List.set_cons_succ] at hK ⊢;simp only [e15] at hK ⊢;go_simp;exact hK.out _ _ (Below.refl _ _) ⟨⟨sa15,xa15,na15,ca15,fa15,ya15,ma15,da15,ga15⟩,rfl,v15⟩
  ·refine ⟨_,rfl,fun u w5 hS hb5 hd K hK=>?_⟩;have h14:GTm 8 0 1 (u 14) w5:=hd 14 (by kernel_rfl) (by kernel_rfl);obtain ⟨⟨sa14,xa14,na14,ca14,fa14,ya14,ma14,da14,ga14⟩,e14,v14⟩:=h14;replace e14:u 14=.agg #[.int .i64 0,.bool sa14,.slice xa14 na14 ca14,.slice ya14 ma14 da14]:=e14;have h16:GTm 8 1 2 (u 16) w5:=hd 16 (by kernel_rfl) (by kernel_rfl);obtain ⟨⟨sa16,xa16,na16,ca16,fa16,ya16,ma16,da16,ga16⟩,e16,v16⟩:=h16;replace e16:u 16=.agg #[.int .i64 1,.bool sa16,.slice xa16 na16 ca16,.slice ya16 ma16 da16]:=e16;simp only [fill,List.foldl_cons,List.foldl_nil,Act.put,List.setIfInBounds_toArray,List.set_cons_zero,List.set_cons_succ] at hK ⊢;simp only [e14,e16] at hK ⊢;go_simp;have hn:=below_alloc (Below.refl w5.heap.size w5) (.cells (tvs 0 ⟨sa14,xa14,na14,ca14,fa14,ya14,ma14,da14,ga14⟩++tvs 1 ⟨sa16,xa16,na16,ca16,fa16,ya16,ma16,da16,ga16⟩).toArray 88);obtain ⟨b9,e9,h9⟩:=gt_new2 w5 88 0 1 ⟨sa14,xa14,na14,ca14,fa14,ya14,ma14,da14,ga14⟩ ⟨sa16,xa16,na16,ca16,fa16,ya16,ma16,da16,ga16⟩;replace e9:Value.slice (some ⟨w5.heap.size,0,none⟩) 2 2=.slice (some ⟨b9,0,none⟩) 2 2:=e9;have hbb:w5.heap.size=b9:=by injection e9 with e9;injection e9 with e9;injection e9
   subst hbb;exact hK.out _ _ hn ⟨w5.heap.size,⟨sa14,xa14,na14,ca14,fa14,ya14,ma14,da14,ga14⟩,⟨sa16,xa16,na16,ca16,fa16,ya16,ma16,da16,ga16⟩,rfl,h9,Rn.below v14 hn,Rn.below v16 hn⟩
  ·refine ⟨_,rfl,fun u w5 hS hb5 hd K hK=>?_⟩;have h11:GX 8 0 1 (u 11) w5:=hd 11 (by kernel_rfl) (by kernel_rfl);obtain ⟨⟨i11,⟨sa11,xa11,na11,ca11,fa11,ya11,ma11,da11,ga11⟩⟩,e11,hi11,v11⟩:=h11;replace e11:u 11=.agg #[.int .i64 i11,.bool sa11,.slice xa11 na11 ca11,.slice ya11 ma11 da11]:=e11;have h12:GX 8 0 5 (u 12) w5:=hd 12 (by kernel_rfl) (by kernel_rfl);obtain ⟨⟨i12,⟨sa12,xa12,na12,ca12,fa12,ya12,ma12,da12,ga12⟩⟩,e12,hi12,v12⟩:=h12;replace e12:u 12=.agg #[.int .i64 i12,.bool sa12,.slice xa12 na12 ca12,.slice ya12 ma12 da12]:=e12;have h17:GT2 8 0 1 1 2 (u 17) w5:=hd 17 (by kernel_rfl) (by kernel_rfl);obtain ⟨bt,t0,t1,et,ht,hv0,hv1⟩:=h17;simp only [fill,List.foldl_cons,List.foldl_nil,Act.put,List.setIfInBounds_toArray,List.set_cons_zero,List.set_cons_succ] at hK ⊢;simp only [e11,e12,et] at hK ⊢;go_simp;have hR:RowV 8 w5 ⟨⟨#[114]⟩,⟨i11,⟨sa11,xa11,na11,ca11,fa11,ya11,ma11,da11,ga11⟩⟩,⟨i12,⟨sa12,xa12,na12,ca12,fa12,ya12,ma12,da12,ga12⟩⟩,some ⟨bt,0,none⟩,2,2,(fun p=>if p=0 then 0 else 1),(fun p=>if p=0 then t0 else t1)⟩ ⟨⟨#[114]⟩,0,1,0,5,[(0,1),(1,2)]⟩:=by
    refine ⟨rfl,hi11,v11,hi12,v12,rfl,fun p z q e=>?_⟩
    match p,e with
    | 0,e=>cases e;exact ⟨rfl,hv0,bt,0,rfl,ht 0 _ _ rfl⟩
    | 1,e=>cases e;exact ⟨rfl,hv1,bt,0,rfl,ht 1 _ _ rfl⟩
   exact hK.out _ _ (Below.refl _ _) ⟨_,rfl,hR⟩
  ·refine ⟨_,rfl,fun u w5 hS hb5 hd K hK=>?_⟩;have h18:GR 8 ⟨⟨#[114]⟩,0,1,0,5,[(0,1),(1,2)]⟩ (u 18) w5:=hd 18 (by kernel_rfl) (by kernel_rfl);obtain ⟨⟨z18,⟨ic18,⟨sc18,xc18,nc18,cc18,fc18,yc18,mc18,dc18,gc18⟩⟩,⟨id18,⟨sd18,xd18,nd18,cd18,fd18,yd18,md18,dd18,gd18⟩⟩,ta18,tk18,tc18,tcol18,tt18⟩,e18,v18⟩:=h18;replace e18:u 18=.agg #[.string z18,.int .i64 ic18,.bool sc18,.slice xc18 nc18 cc18,.slice yc18 mc18 dc18,.int .i64 id18,.bool sd18,.slice xd18 nd18 cd18,.slice yd18 md18 dd18,.slice ta18 tk18 tc18]:=e18;simp only [fill,List.foldl_cons,List.foldl_nil,Act.put,List.setIfInBounds_toArray,List.set_cons_zero,List.set_cons_succ] at hK ⊢;simp only [e18] at hK ⊢;go_simp;have hn:=below_alloc (Below.refl w5.heap.size w5) (.cells ([.string z18,.int .i64 ic18,.bool sc18,.slice xc18 nc18 cc18,.slice yc18 mc18 dc18,.int .i64 id18,.bool sd18,.slice xd18 nd18 cd18,.slice yd18 md18 dd18,.slice ta18 tk18 tc18]:List Value).toArray 86);have hx:=cs_new w5 86 [.string z18,.int .i64 ic18,.bool sc18,.slice xc18 nc18 cc18,.slice yc18 mc18 dc18,.int .i64 id18,.bool sd18,.slice xd18 nd18 cd18,.slice yd18 md18 dd18,.slice ta18 tk18 tc18] [.string z18,.int .i64 ic18,.bool sc18,.slice xc18 nc18 cc18,.slice yc18 mc18 dc18,.int .i64 id18,.bool sd18,.slice xd18 nd18 cd18,.slice yd18 md18 dd18,.slice ta18 tk18 tc18] 0 (fun j v e=>by rw [Nat.zero_add];exact e);exact hK.out _ _ hn ⟨w5.heap.size,⟨z18,⟨ic18,⟨sc18,xc18,nc18,cc18,fc18,yc18,mc18,dc18,gc18⟩⟩,⟨id18,⟨sd18,xd18,nd18,cd18,fd18,yd18,md18,dd18,gd18⟩⟩,ta18,tk18,tc18,tcol18,tt18⟩,rfl,hx,v18.below hn⟩
  ·refine ⟨_,rfl,fun u w5 hS hb5 hd K hK=>?_⟩;have h0:GN 8 1 (u 0) w5:=hd 0 (by kernel_rfl) (by kernel_rfl);obtain ⟨⟨sa0,xa0,na0,ca0,fa0,ya0,ma0,da0,ga0⟩,e0,v0⟩:=h0;replace e0:u 0=.agg #[.bool sa0,.slice xa0 na0 ca0,.slice ya0 ma0 da0]:=e0;have h10:GCs 8 ⟨⟨#[120]⟩,3,0,0,1,0⟩ ⟨⟨#[121]⟩,0,-1,0,1,0⟩ (u 10) w5:=hd 10 (by kernel_rfl) (by kernel_rfl);obtain ⟨b13,l0,l1,e13,q0,q1,k0,k1⟩:=h10;have h19:GR1 8 ⟨⟨#[114]⟩,0,1,0,5,[(0,1),(1,2)]⟩ (u 19) w5:=hd 19 (by kernel_rfl) (by kernel_rfl);obtain ⟨b32,r0,e32,q2,k2⟩:=h19;simp only [fill,List.foldl_cons,List.foldl_nil,Act.put,List.setIfInBounds_toArray,List.set_cons_zero,List.set_cons_succ] at hK ⊢;simp only [e0,e13,e32] at hK ⊢;go_simp;have hM:MoV 8 w5 ⟨⟨sa0,xa0,na0,ca0,fa0,ya0,ma0,da0,ga0⟩,some ⟨b13,0,none⟩,2,2,(fun j=>if j=0 then l0 else l1),some ⟨b32,0,none⟩,1,1,(fun _=>r0)⟩ 1 f0C f0R:=by
    refine ⟨v0,rfl,rfl,fun j v e=>?_,fun j v e=>?_⟩
    ·match j,e with
     | 0,e=>cases e;exact ⟨⟨b13,0,rfl,q0⟩,k0⟩
     | 1,e=>cases e;exact ⟨⟨b13,0,rfl,q1⟩,k1⟩
    ·match j,e with
     | 0,e=>cases e;exact ⟨⟨b32,0,rfl,q2⟩,k2⟩
   exact hK.out _ _ (Below.refl _ _) ⟨_,rfl,hM⟩
 case k6 =>
  intro u w5 hS5 hb5 hg;have h33:GM 8 1 f0C f0R (u 20) w5:=hg 20 (by simp);obtain ⟨⟨⟨sm,xm,nm,cm,fm,ym,mm,dm,gm⟩,ca,ck,cc,C,ra,rk,rc,R⟩,e33,hM⟩:=h33;replace e33:u 20=.agg #[.bool sm,.slice xm nm cm,.slice ym mm dm,.slice ca ck cc,.slice ra rk rc]:=e33;have HM:=hid hM;have O5:=O0.out.below hb5;have o0:=O5.cell (j:=0) rfl;have o1:=O5.cell (j:=1) rfl;have o2:=O5.cell (j:=2) rfl;have o3:=O5.cell (j:=3) rfl;have o4:=O5.cell (j:=4) rfl;have of:=O5.frozen;have HO5:=hid O5;have HB5:=hid (HB.out.trans (hb5.mono HB.out.size));obtain ⟨t0,t1,t2,t3⟩:=id hS5;clear hg hM O5;simp only [fill,List.foldl_cons,List.foldl_nil,Act.put,List.setIfInBounds_toArray,List.set_cons_zero,List.set_cons_succ];simp only [e33];refine wpAnyH_ready (rs:=[21]) (by kernel_rfl) (by simp) ?_;refine AllReadyH.cons (o:=_) rfl (fun K hK=>?_) ?_;rotate_left;exact AllReadyH.nil;go_simp;refine hK.out _ _ ?_ (fun hH9=>?_)
  ·((try dsimp only);(refine ⟨?_,?_,?_,?_⟩ <;> repeat (with_reducible first | assumption | refine kCs (by simp only [ne_eq];omega) ?_)))
  clear hK K;try simp only [Act.put]
  refine wpAnyH_done (by kernel_rfl) ?_ _;obtain ⟨hk9,hn9⟩:=kp_st5 (v0:=.bool sm) (v1:=.slice xm nm cm) (v2:=.slice ym mm dm) (v3:=.slice ca ck cc) (v4:=.slice ra rk rc) HO5.out (nou5 _ _ _ _ _ _ _ _ _ _ _ _ _) rfl;have HM9:=hid (HM.out.kp hk9 hn9 (noc5 HO5.out));have HB9:=hid (below_st5 (u0:=.bool sm) (u1:=.slice xm nm cm) (u2:=.slice ym mm dm) (u3:=.slice ca ck cc) (u4:=.slice ra rk rc) HB5.out (Nat.le_refl _));clear hk9 hn9 hH9;go_wp2;exact bodyPost_ret (v:=.agg #[.bool sm,.slice xm nm cm,.slice ym mm dm,.slice ca ck cc,.slice ra rk rc]) (by simp [results,Tryz.results25,go_sem,o0,o1,o2,o3,o4]) rfl (HA.out _ ⟨⟨sm,xm,nm,cm,fm,ym,mm,dm,gm⟩,ca,ck,cc,C,ra,rk,rc,R⟩ HB9.out HM9.out)
theorem pActs_q {w:World} {L:Nat} {M:Mo} {off:Rat} {cs:List CV} {rs:List RV} {ao:Option Addr} {k cap:Nat} {xs:List Rat} (h:MoV L w M off cs rs) (ho:mvOk cs rs=true) (hx:Rf L w ao xs) (hk:xs.length=k) (hkc:k=cs.length) (hL:L≤30) :
  Calls Tryz.prog 8 #[M.val,.slice ao k cap] w fun e w'=>AcAns L w w' e 0 rs xs:=by
 obtain ⟨h1,h2⟩:=h.chk (by omega) ho;obtain ⟨S,h3,h4⟩:=rf_rl hx (by omega);have mp:=mvOk_p ho;rw [hk] at h3 h4;exact pActs_v (fun _ _=>h2) h3 (by have:=mp.cl;omega) (pckE_ok h1 h4 (by rw [h.ck];exact hkc)) (fun _=>⟨h,ho,hx,hk,hkc⟩) hL
theorem pValue_q {w:World} {L:Nat} {M:Mo} {off:Rat} {cs:List CV} {rs:List RV} {ao:Option Addr} {k cap:Nat} {xs:List Rat} (h:MoV L w M off cs rs) (ho:mvOk cs rs=true) (hx:Rf L w ao xs) (hk:xs.length=k) (hkc:k=cs.length) (hL:L≤30) :
  Calls Tryz.prog 13 #[M.val,.slice ao k cap] w fun e w'=>VaAns L w w' e 0 off cs xs:=by
 obtain ⟨h1,h2⟩:=h.chk (by omega) ho;obtain ⟨S,h3,h4⟩:=rf_rl hx (by omega);have mp:=mvOk_p ho;rw [hk] at h3 h4;exact pValue_v (fun _ _=>h2) h3 (by have:=mp.cl;omega) (pckE_ok h1 h4 (by rw [h.ck];exact hkc)) (fun _=>⟨h,ho,hx,hk,hkc⟩) hL
theorem pFeas_q {w:World} {L:Nat} {M:Mo} {off:Rat} {cs:List CV} {rs:List RV} {ao:Option Addr} {k cap:Nat} {xs:List Rat} (h:MoV L w M off cs rs) (ho:mvOk cs rs=true) (hx:Rf L w ao xs) (hk:xs.length=k) (hkc:k=cs.length) (hL:L≤30) :
  Calls Tryz.prog 16 #[M.val,.slice ao k cap] w fun e w'=>e=.returned (.tuple #[.bool (decide ((0:Int)=0) && feasB cs rs xs),.int .i64 0])∧Below w.heap.size w w':=by
 obtain ⟨h1,h2⟩:=h.chk (by omega) ho;obtain ⟨S,h3,h4⟩:=rf_rl hx (by omega);have mp:=mvOk_p ho;rw [hk] at h3 h4;exact pFeas_v (fun _ _=>h2) h3 (by have:=mp.cl;omega) (pckE_ok h1 h4 (by rw [h.ck];exact hkc)) (fun _=>⟨h,ho,hx,hk,hkc⟩) hL
theorem pBroken_q {w:World} {L:Nat} {M:Mo} {off:Rat} {cs:List CV} {rs:List RV} {ao:Option Addr} {k cap:Nat} {xs:List Rat} (h:MoV L w M off cs rs) (ho:mvOk cs rs=true) (hx:Rf L w ao xs) (hk:xs.length=k) (hkc:k=cs.length) (hL:L≤30) :
  Calls Tryz.prog 18 #[M.val,.slice ao k cap] w fun e w'=>BrAns w w' e 0 cs rs xs:=by
 obtain ⟨h1,h2⟩:=h.chk (by omega) ho;obtain ⟨S,h3,h4⟩:=rf_rl hx (by omega);have mp:=mvOk_p ho;rw [hk] at h3 h4;exact pBroken_v (fun _ _=>h2) h3 (by have:=mp.cl;omega) (pckE_ok h1 h4 (by rw [h.ck];exact hkc)) (fun _=>⟨h,ho,hx,hk,hkc⟩) hL
theorem f0_ok:mvOk f0C f0R=true:=by decide +kernel
theorem f0_act:f0R.map (actQ [((1:Int):Rat),((1:Int):Rat)])=[((3:Int):Rat)]:=by decide +kernel
theorem f0_val:valQ 1 f0C [((1:Int):Rat),((1:Int):Rat)]=((4:Int):Rat):=by decide +kernel
theorem f0_fe:feasB f0C f0R [((1:Int):Rat),((1:Int):Rat)]=true:=by decide +kernel
theorem f0_bc:(crl (bcB f0C [((-1:Int):Rat),((0:Int):Rat)]) f0C.length).length=1:=by decide +kernel
theorem f0_br:(crl (brB f0R [((-1:Int):Rat),((0:Int):Rat)]) f0R.length).length=1:=by decide +kernel
set_option maxRecDepth 100000 in
set_option maxHeartbeats 8000000 in
theorem awake10_c (w:World):Calls Tryz.prog 5 #[] w fun e w'=>e=.returned (.bool true)∧Below w.heap.size w w':=by
 have HB:=hid (Below.refl w.heap.size w);go_enter Tryz.func5,Tryz.ntmps5;go_wp2_with fail
 refine first10_c.mono ?_;rintro e v1 ⟨⟨⟨sm,xm,nm,cm,fm,ym,mm,dm,gm⟩,cam,ckm,ccm,Cm,ram,rkm,rcm,Rm⟩,rfl,hb,HM⟩;replace HB:=hid (HB.out.trans (hb.mono HB.out.size));clear hb;go_wp2_with fail
 refine (two10_c (a:=1) (b:=1) (by decide) (by decide) (by decide) (by decide)).mono ?_;rintro e v2 ⟨ax,rfl,hb,HX⟩;replace HB:=hid (HB.out.trans (hb.mono HB.out.size));replace HM:=hid (HM.out.below hb)
 clear hb;go_wp2_with fail
 refine (pActs_q (L:=8) HM.out f0_ok HX.out rfl rfl (by decide)).mono ?_;rintro e w1 ⟨hb,⟨h9,_⟩ | ⟨_,a1,c1,rfl,hc1,hr1⟩⟩
 ·exact absurd rfl h9
 rw [f0_act] at hr1;rw [show f0R.length=1 from rfl];have HA:=hid hr1;replace HB:=hid (HB.out.trans (hb.mono HB.out.size));clear hb hr1 hc1 HM HX;go_wp2_with fail
 refine first10_c.mono ?_;rintro e v3 ⟨⟨⟨sm,xm,nm,cm,fm,ym,mm,dm,gm⟩,cam,ckm,ccm,Cm,ram,rkm,rcm,Rm⟩,rfl,hb,HM⟩;replace HB:=hid (HB.out.trans (hb.mono HB.out.size));replace HA:=hid (HA.out.below hb)
 clear hb;go_wp2_with fail
 refine (two10_c (a:=1) (b:=1) (by decide) (by decide) (by decide) (by decide)).mono ?_;rintro e v4 ⟨ax,rfl,hb,HX⟩;replace HB:=hid (HB.out.trans (hb.mono HB.out.size));replace HM:=hid (HM.out.below hb);replace HA:=hid (HA.out.below hb)
 clear hb;go_wp2_with fail
 refine (pValue_q (L:=8) HM.out f0_ok HX.out rfl rfl (by decide)).mono ?_;rintro e w2 ⟨hb,⟨h9,_⟩ | ⟨_,s2,x2,n2,c2,f2,y2,m2,d2,g2,rfl,hr2⟩⟩
 ·exact absurd rfl h9
 rw [f0_val] at hr2;replace HB:=hid (HB.out.trans (hb.mono HB.out.size));replace HA:=hid (HA.out.below hb)
 have hbn:=below_alloc (Below.refl w2.heap.size w2) (.cells #[.bool s2,.slice x2 n2 c2,.slice y2 m2 d2] 24);have BV:Hid (Bk (w2.alloc (.cells #[.bool s2,.slice x2 n2 c2,.slice y2 m2 d2] 24)) w2.heap.size [.bool s2,.slice x2 n2 c2,.slice y2 m2 d2] 24):=bk_new w2 [.bool s2,.slice x2 n2 c2,.slice y2 m2 d2] 24;have HV:=hid (hr2.below hbn);replace HB:=hid (HB.out.trans (hbn.mono HB.out.size));replace HA:=hid (HA.out.below hbn)
 clear hb hbn hr2 HM HX;go_wp2_with fail
 generalize w2.alloc (.cells #[.bool s2,.slice x2 n2 c2,.slice y2 m2 d2] 24)=w3 at *;generalize w2.heap.size=bv at *;refine first10_c.mono ?_;rintro e v5 ⟨⟨⟨sm,xm,nm,cm,fm,ym,mm,dm,gm⟩,cam,ckm,ccm,Cm,ram,rkm,rcm,Rm⟩,rfl,hb,HM⟩;replace HB:=hid (HB.out.trans (hb.mono HB.out.size));replace HA:=hid (HA.out.below hb);replace HV:=hid (HV.out.below hb);replace BV:=hid (BV.out.below hb)
 clear hb;go_wp2_with fail
 refine (two10_c (a:=1) (b:=1) (by decide) (by decide) (by decide) (by decide)).mono ?_;rintro e v6 ⟨ax,rfl,hb,HX⟩;replace HB:=hid (HB.out.trans (hb.mono HB.out.size));replace HM:=hid (HM.out.below hb);replace HA:=hid (HA.out.below hb);replace HV:=hid (HV.out.below hb);replace BV:=hid (BV.out.below hb)
 clear hb;go_wp2_with fail
 refine (pFeas_q (L:=8) HM.out f0_ok HX.out rfl rfl (by decide)).mono ?_;rintro e w4 ⟨rfl,hb⟩;rw [f0_fe];replace HB:=hid (HB.out.trans (hb.mono HB.out.size));replace HA:=hid (HA.out.below hb);replace HV:=hid (HV.out.below hb);replace BV:=hid (BV.out.below hb)
 clear hb HM HX;go_wp2_with fail
 refine first10_c.mono ?_;rintro e v7 ⟨⟨⟨sm,xm,nm,cm,fm,ym,mm,dm,gm⟩,cam,ckm,ccm,Cm,ram,rkm,rcm,Rm⟩,rfl,hb,HM⟩;replace HB:=hid (HB.out.trans (hb.mono HB.out.size));replace HA:=hid (HA.out.below hb);replace HV:=hid (HV.out.below hb);replace BV:=hid (BV.out.below hb)
 clear hb;go_wp2_with fail
 refine (two10_c (a:=-1) (b:=0) (by decide) (by decide) (by decide) (by decide)).mono ?_;rintro e v8 ⟨ax,rfl,hb,HX⟩;replace HB:=hid (HB.out.trans (hb.mono HB.out.size));replace HM:=hid (HM.out.below hb);replace HA:=hid (HA.out.below hb);replace HV:=hid (HV.out.below hb);replace BV:=hid (BV.out.below hb)
 clear hb;go_wp2_with fail
 refine (pBroken_q (L:=8) HM.out f0_ok HX.out rfl rfl (by decide)).mono ?_;rintro e w5 ⟨hb,⟨h9,_⟩ | ⟨_,xa,xc,ya,yc,rfl,_,_⟩⟩
 ·exact absurd rfl h9
 rw [f0_bc,f0_br];replace HB:=hid (HB.out.trans (hb.mono HB.out.size));replace HA:=hid (HA.out.below hb);replace HV:=hid (HV.out.below hb);replace BV:=hid (BV.out.below hb)
 clear hb HM HX;obtain ⟨b,o,⟨s,x,n,c,f,y,m,d,g⟩,hb1,⟨p0,p1,p2⟩,hr⟩:=HA.out 0 _ rfl;subst hb1;replace p0:w5.cell? ⟨b,o,none⟩=some (.bool s):=p0;replace p1:w5.cell? ⟨b,o+1,none⟩=some (.slice x n c):=p1;replace p2:w5.cell? ⟨b,o+2,none⟩=some (.slice y m d):=p2;have HR:Hid (Rn (KA 8) w5 s x n c f y m d g ((3:Int):Rat)):=hr;clear hr HA;have k0:=BV.out.cell (j:=0) rfl;have k1:=BV.out.cell (j:=1) rfl;have k2:=BV.out.cell (j:=2) rfl;go_upto_region 5 with fail
 have CD:=hid (fun W=>docOfQ_c (w:=W) (z:=3) (by decide) (by decide));have CE:=hid (fun W=>docOfQ_c (w:=W) (z:=4) (by decide) (by decide));unfold RatAns at CD CE;have CS:Hid (∀W s2 x2 n2 c2 f2 y2 m2 d2 g2,Below w5.heap.size w5 W→Rn 4 W s2 x2 n2 c2 f2 y2 m2 d2 g2 ((3:Int):Rat)→Calls Tryz.prog 15 #[.agg #[.bool s,.slice x n c,.slice y m d],.agg #[.bool s2,.slice x2 n2 c2,.slice y2 m2 d2]] W fun e w'=>e=.returned (.bool true)∧Below W.heap.size W w'):=fun W s2 x2 n2 c2 f2 y2 m2 d2 g2 hW h2=>rSameEq_c (HR.out.below hW) h2 (by decide) (by decide)
 have CT:Hid (∀W s3 x3 n3 c3 f3 y3 m3 d3 g3,Below w5.heap.size w5 W→Rn 4 W s3 x3 n3 c3 f3 y3 m3 d3 g3 ((4:Int):Rat)→Calls Tryz.prog 15 #[.agg #[.bool s2,.slice x2 n2 c2,.slice y2 m2 d2],.agg #[.bool s3,.slice x3 n3 c3,.slice y3 m3 d3]] W fun e w'=>e=.returned (.bool true)∧Below W.heap.size W w'):=fun W s3 x3 n3 c3 f3 y3 m3 d3 g3 hW h2=>rSameEq_c (HV.out.below hW) h2 (by decide) (by decide)
 go_region_held3 (fun w'=>w'.cell? ⟨b,o,none⟩=some (.bool s)∧w'.cell? ⟨b,o+1,none⟩=some (.slice x n c)∧w'.cell? ⟨b,o+2,none⟩=some (.slice y m d)∧w'.cell? ⟨bv,0,none⟩=some (.bool s2)∧w'.cell? ⟨bv,1,none⟩=some (.slice x2 n2 c2)∧w'.cell? ⟨bv,2,none⟩=some (.slice y2 m2 d2))
  (refine ⟨?_,?_,?_,?_,?_,?_⟩ <;> repeat (with_reducible first | assumption | refine kCd ?_ | refine kCb (by assumption) ?_))
  (first
   | (have h9:=H5.out;clear h9;go_at_call 27;with_reducible refine (CE.out _).mono ?_;rintro e w8 ⟨s8,x8,n8,c8,f8,y8,m8,d8,g8,rfl,hb8,H8⟩;replace H8:=hid H8)
   | (go_at_call 27;with_reducible refine (CD.out _).mono ?_;rintro e w6 ⟨s6,x6,n6,c6,f6,y6,m6,d6,g6,rfl,hb6,H6⟩;replace H6:=hid H6)
   | (have h9:=H8.out;clear h9;go_at_call 15;with_reducible refine (CT.out _ s8 x8 n8 c8 f8 y8 m8 d8 g8 belA (H8.out.below belA)).mono ?_;rintro e w9 ⟨rfl,hb9⟩)
   | (go_at_call 15;with_reducible refine (CS.out _ s6 x6 n6 c6 f6 y6 m6 d6 g6 belA (H6.out.below belA)).mono ?_;rintro e w7 ⟨rfl,hb7⟩;have H5:=hid True.intro))
 all_goals
  have HB9:=hid (HB.out.trans ((show Below w5.heap.size w5 w9 from belA).mono HB.out.size));clear p0 p1 p2 k0 k1 k2 CD CS CE CT HR;go_wp2;go_ret;exact ⟨by first | rfl | simp,HB9.out⟩
theorem eqs_iff {f g:Nat→Int}:∀{r i:Nat},eqs f g r i=true ↔ ∀j,i≤j→j<i+r→f j=g j
 | 0,i=>⟨fun _ j a b=>by omega,fun _=>rfl⟩
 | r+1,i=>by
  simp only [eqs,Bool.and_eq_true,decide_eq_true_eq,eqs_iff (r:=r)];constructor
  ·rintro ⟨h1,h2⟩ j a b;by_cases e:j=i
   ·subst e;exact h1
   ·exact h2 j (by omega) (by omega)
  ·intro h;exact ⟨h i (by omega) (by omega),fun j a b=>h j (by omega) (by omega)⟩
theorem eql_iff {n m:Nat} {f g:Nat→Int}:eqlB n m f g=true ↔ Alk n m f g:=by
 unfold eqlB Alk;simp only [Bool.and_eq_true,decide_eq_true_eq,eqs_iff];exact ⟨fun ⟨a,b⟩=>⟨a,fun j hj=>b j (by omega) (by omega)⟩,fun ⟨a,b⟩=>⟨a,fun j _ hj=>b j (by omega)⟩⟩
theorem sq_iff {a b:Nm}:sqB a b=true ↔ a.s=b.s∧Alk a.n b.n a.f b.f∧Alk a.m b.m a.g b.g:=by
 unfold sqB;simp only [Bool.and_eq_true,decide_eq_true_eq,eql_iff]
theorem qSame_x {w:World} {a b:Nm} (ha:NmS w a) (hb:NmS w b):Calls Tryz.prog 15 #[a.val,b.val] w fun r w'=>r=.returned (.bool (sqB a b))∧Below w.heap.size w w' :=
 (rSame_c a.s a.x a.y a.n a.c a.m a.d a.f a.g b.s b.x b.y b.n b.c b.m b.d b.f b.g w ha.1.rx ha.1.ry hb.1.rx hb.1.ry (Nat.le_trans ha.2.1 (by decide)) (Nat.le_trans ha.2.2 (by decide)) (Nat.le_trans hb.2.1 (by decide)) (Nat.le_trans hb.2.2 (by decide))).mono
  fun e w' ⟨q,h1,h2,h3⟩=>⟨by rw [h1,Bool.eq_iff_iff.2 (h3.trans sq_iff.symm)],h2⟩
structure Ca10 (w:World) (M:Mo) (ao:Option Addr) (k:Nat) (X:Nat→Nm):Prop where
 i:In8 w M
 hx:Rl w ao k X
 sx:ShK 8 k X
def ANs (er:Int) (K:Nat) (w:World) (a:Option Addr) (n:Nat) (p:List Rat):Prop:=er≠0∧n=0∨er=0∧n=p.length∧Rf K w a p
theorem ANs.below {er K w w' a n p} (h:ANs er K w a n p) (hb:Below w.heap.size w w'):ANs er K w' a n p:=by
 rcases h with h | ⟨h1,h2,h3⟩
 ·exact .inl h
 ·exact .inr ⟨h1,h2,h3.below hb⟩
theorem sameAN_c {w:World} {er:Int} {K K':Nat} {a b:Option Addr} {n m ca cb:Nat} {p:List Rat} (h1:ANs er K w a n p) (h2:ANs er K' w b m p) (hp:er=0→p.length≤64) (hK:K≤1048576) (hK':K'≤1048576) :
  Calls Tryz.prog 12 #[.slice a n ca,.slice b m cb] w fun e w'=>e=.returned (.bool true)∧Below w.heap.size w w':=by
 rcases h1 with ⟨h0,rfl⟩ | ⟨h0,rfl,h1⟩
 ·rcases h2 with ⟨_,rfl⟩ | ⟨h9,_⟩
  ·exact samesEq_c (L:=1) (L':=1) (p:=[]) (fun j q hj=>by simp at hj) (fun j q hj=>by simp at hj) rfl (by decide) (by decide) (by decide)
  ·exact absurd h9 h0
 ·rcases h2 with ⟨h9,_⟩ | ⟨_,rfl,h2⟩
  ·exact absurd h0 h9
  ·exact samesEq_c h1 h2 rfl (by have:=hp h0;omega) hK hK'
def VNs (er:Int) (K:Nat) (w:World) (t:Nm) (q:Rat):Prop:=er≠0∧t=⟨false,none,0,0,fun _=>0,none,0,0,fun _=>0⟩∨er=0∧NmV K w t q
theorem VNs.below {er K w w' t q} (h:VNs er K w t q) (hb:Below w.heap.size w w'):VNs er K w' t q:=by
 rcases h with h | ⟨h1,h2⟩
 ·exact .inl h
 ·exact .inr ⟨h1,h2.below hb⟩
theorem nms_zero (w:World):NmS w ⟨false,none,0,0,fun _=>0,none,0,0,fun _=>0⟩:=⟨⟨fun j h=>absurd h (Nat.not_lt_zero j),fun j h=>absurd h (Nat.not_lt_zero j),by decide,fun _=>⟨rfl,rfl⟩,fun j h=>absurd h (Nat.not_lt_zero j),fun j h=>absurd h (Nat.not_lt_zero j),by decide,fun _=>⟨rfl,rfl⟩⟩,by decide,by decide⟩
theorem sameVN_c {w:World} {er:Int} {K K':Nat} {t t2:Nm} {q:Rat} (h1:VNs er K w t q) (h2:VNs er K' w t2 q) (hK:K≤1048576) (hK':K'≤1048576) :
  Calls Tryz.prog 15 #[.agg #[.bool t.s,.slice t.x t.n t.c,.slice t.y t.m t.d],.agg #[.bool t2.s,.slice t2.x t2.n t2.c,.slice t2.y t2.m t2.d]] w fun e w'=>e=.returned (.bool true)∧Below w.heap.size w w':=by
 rcases h1 with ⟨h0,rfl⟩ | ⟨h0,h1⟩
 ·rcases h2 with ⟨_,rfl⟩ | ⟨h9,_⟩
  ·exact qSame_x (nms_zero w) (nms_zero w)
  ·exact absurd h9 h0
 ·rcases h2 with ⟨h9,_⟩ | ⟨_,h2⟩
  ·exact absurd h0 h9
  ·exact rSameEq_c h1 h2 hK hK'
set_option maxRecDepth 100000 in
set_option maxHeartbeats 4000000 in
theorem ints10_c {w:World} {xa ya:Option Addr} {xc yc:Nat} {l:List Int} (hx:Il w xa l) (hy:Il w ya l) (hl:l.length≤64):Calls Tryz.prog 20 #[.slice xa l.length xc,.slice ya l.length yc] w fun e w'=>e=.returned (.bool true)∧Below w.heap.size w w':=by
 obtain ⟨k,hk⟩:∃k,l.length=k:=⟨_,rfl⟩;rw [hk] at hl ⊢;have HX:=hid hx;have HY:=hid hy;have HL:=hid hk
 clear hx hy hk;have hne:(((k:Nat):Int) != ((k:Nat):Int))=false:=by simp
 go_enter Tryz.func20,Tryz.ntmps20;go_wp2_with fail
 go_loopw [13] (fun t wr=>∃(i:Nat),i≤k∧t=.int .i64 i∧Hid (Below w.heap.size w wr)) (fun t _=>k-(intOf t).toNat)
 case atStart=>exact ⟨0,by omega,rfl,Below.refl _ _⟩
 case round =>
  obtain ⟨i,hi,rfl,HB⟩:=hrel;by_cases hlt:i<k
  ·obtain ⟨v,hv⟩:∃v,l[i]?=some v:=⟨_,List.getElem?_eq_getElem (by rw [HL.out];exact hlt)⟩;obtain ⟨b,o,rfl,h1⟩:=HX.out i v hv;obtain ⟨b2,o2,rfl,h2⟩:=HY.out i v hv;have x1:=kCb HB.out h1;have x2:=kCb HB.out h2;have i1:((i:Nat):Int)<((k:Nat):Int):=by omega
   have hz:(v != v)=false:=by simp
   clear h1 h2 hv;go_upto_region 6 with fail
   go_quiet (fail)
   go_wp2;go_roundw
   case rel=>exact ⟨i+1,by omega,by go_num,below_drewN HB.out _⟩
   case measure=>simp [intOf];omega
  ·have i2:¬(((i:Nat):Int)<((k:Nat):Int)):=by omega
   clear HX HY;go_wp2;go_ret;exact ⟨rfl,HB.out⟩
set_option maxRecDepth 100000 in
set_option maxHeartbeats 16000000 in
theorem pointActs_c {w:World} {M:Mo} {ao:Option Addr} {k cap:Nat} {X:Nat→Nm} (hX:MoX w M) (hN:MoN M) (hC:MoC M) (hx:Rr w ao k X) (hk:k≤9223372036854775807) :
  Calls Tryz.prog 3 #[M.val,.slice ao k cap] w fun e w'=>e=.returned (.bool true)∧Below w.heap.size w w':=by
 obtain ⟨lb,hlb⟩:∃t,lgM 8 M=t:=⟨_,rfl⟩;obtain ⟨la,hla⟩:∃t,lgL 8 k X=t:=⟨_,rfl⟩;have CL:=hid (fun w' (hw:Below w.heap.size w w')=>mLight_c (w:=w') (K:=8) (hX.below hw).light.1 (hX.below hw).light.2);rw [hlb] at CL;have CA:Hid (∀W,Below w.heap.size w W→Calls Tryz.prog 7 #[.slice ao k cap,.int .i64 8] W fun e w'=>e=.returned (.bool la)∧Below W.heap.size W w'):=fun W hW=>by
  have:=rLights_c (cap:=cap) 8 (hx.below hW) hk;rw [show (decide (k≤300) && nlg 8 X k 0)=la from hla] at this;exact this
 obtain ⟨N,hN'⟩:∃N,N=M:=⟨_,rfl⟩;have HC:Hid (lb=true→la=true→Ca10 w N ao k X):=fun e1 e2=>by
  subst hN';subst e1;subst e2
  refine ⟨⟨hX,hN,hC,lgM_k hlb⟩,?_,lgL_shK hla⟩;simp only [lgL,Bool.and_eq_true] at hla;exact hx.rl hla.2 (by decide)
 clear hX hN hC hx hlb hla hk;obtain ⟨⟨s,x,n,c,f,y,m,d,g⟩,ca,ck,cc,C,ra,rk,rc,R⟩:=M;have hNv:Hid (N.val=.agg #[.bool s,.slice x n c,.slice y m d,.slice ca ck cc,.slice ra rk rc]):=by rw [hN'];exact rfl
 clear hN';replace CL:Hid (∀w',Below w.heap.size w w'→Calls Tryz.prog 6 #[.agg #[.bool s,.slice x n c,.slice y m d,.slice ca ck cc,.slice ra rk rc],.int .i64 8] w' fun e w2=>e=.returned (.bool lb)∧Below w'.heap.size w' w2):=CL;show Calls Tryz.prog 3 #[.agg #[.bool s,.slice x n c,.slice y m d,.slice ca ck cc,.slice ra rk rc],.slice ao k cap] w _;have HB:=hid (below_alloc (Below.refl w.heap.size w) (.cells #[.bool s,.slice x n c,.slice y m d,.slice ca ck cc,.slice ra rk rc] 28));have BM:Hid (Bk (w.alloc (.cells #[.bool s,.slice x n c,.slice y m d,.slice ca ck cc,.slice ra rk rc] 28)) w.heap.size [.bool s,.slice x n c,.slice y m d,.slice ca ck cc,.slice ra rk rc] 28):=bk_new w [.bool s,.slice x n c,.slice y m d,.slice ca ck cc,.slice ra rk rc] 28;go_enter Tryz.func3,Tryz.ntmps3;go_wp2_with fail
 generalize (w.alloc (.cells #[.bool s,.slice x n c,.slice y m d,.slice ca ck cc,.slice ra rk rc] 28))=v0 at *;refine (awake10_c _).mono ?_;rintro e v1 ⟨rfl,hb⟩;replace HB:=hid (HB.out.trans (hb.mono HB.out.size));replace BM:=hid (BM.out.below hb)
 clear hb;have r0:=BM.out.cell (j:=0) rfl;have r1:=BM.out.cell (j:=1) rfl;have r2:=BM.out.cell (j:=2) rfl;have r3:=BM.out.cell (j:=3) rfl;have r4:=BM.out.cell (j:=4) rfl;go_wp2_with fail
 clear r0 r1 r2 r3 r4;refine (CL.out _ HB.out).mono ?_;rintro e v2 ⟨rfl,hb⟩;replace HB:=hid (HB.out.trans (hb.mono HB.out.size));replace BM:=hid (BM.out.below hb)
 clear hb CL;cases lb
 ·go_wp2;go_ret;exact ⟨by first | rfl | simp,HB.out⟩
 go_wp2_with fail
 refine (CA.out _ HB.out).mono ?_;rintro e v3 ⟨rfl,hb⟩;replace HB:=hid (HB.out.trans (hb.mono HB.out.size));replace BM:=hid (BM.out.below hb)
 clear hb CA;cases la
 ·go_wp2;go_ret;exact ⟨by first | rfl | simp,HB.out⟩
 replace HC:=hid (HC.out (by first | rfl | trivial) (by first | rfl | trivial));have T1:Hid (∀W,Below w.heap.size w W→Calls Tryz.prog 9 #[.agg #[.bool s,.slice x n c,.slice y m d,.slice ca ck cc,.slice ra rk rc]] W fun e w'=>∃(vm:Value) (M':Mo),e=.returned vm∧Below W.heap.size W w'∧Hid (vm=M'.val∧TmK 8 w' N M')):=fun W hW=>by
  have:=twinTmK_c (HC.out.i.x.below hW) HC.out.i.n HC.out.i.k (by decide);rw [hNv.out] at this;exact this
 have TX:=hid (fun W (hW:Below w.heap.size w W)=>twinsTxK_c (cap:=cap) (HC.out.hx.below hW) HC.out.sx (by decide));obtain ⟨er,her⟩:∃e,pckE N k X=e:=⟨_,rfl⟩;obtain ⟨rs,hrs⟩:∃e,rsOf N=e:=⟨_,rfl⟩;obtain ⟨cs,hcs⟩:∃e,csOf N=e:=⟨_,rfl⟩;obtain ⟨ps,hps⟩:∃e,psOf k X=e:=⟨_,rfl⟩;obtain ⟨vq,hvq⟩:∃e,valQ (nq N.off) cs ps=e:=⟨_,rfl⟩;obtain ⟨fo,hfo⟩:∃e,(decide (er=0) && feasB cs rs ps)=e:=⟨_,rfl⟩;obtain ⟨L1,hL1⟩:∃e,(if er=0 then crl (bcB cs ps) cs.length else [])=e:=⟨_,rfl⟩;obtain ⟨L2,hL2⟩:∃e,(if er=0 then crl (brB rs ps) rs.length else [])=e:=⟨_,rfl⟩;have HL:Hid (L1.length≤64∧L2.length≤64∧(er=0→rs.length≤64)):=by
  by_cases h0:er=0
  ·have hP:=mvOk_p (HC.out.i.val (pckE_two (her.trans h0)).1).2;rw [hcs,hrs] at hP;have hcl:=hP.cl;have hrl:=hP.rl
   rw [if_pos h0] at hL1 hL2;exact ⟨by rw [←hL1];exact Nat.le_trans (crl_len _ _) hcl,by rw [←hL2];exact Nat.le_trans (crl_len _ _) hrl,fun _=>hrl⟩
  ·rw [if_neg h0] at hL1 hL2;exact ⟨by rw [←hL1];decide,by rw [←hL2];decide,fun h=>absurd h h0⟩
 have AC:Hid (∀W vm M' a X' c,(vm=M'.val∧TmK 8 W N M')→Tx W a k X X'→Calls Tryz.prog 8 #[vm,.slice a k c] W fun e w'=>∃a n c,e=.returned (.tuple #[.slice a n c,.int .i64 er])∧Below W.heap.size W w'∧Hid (ANs er (KA 8) w' a n (rs.map (actQ ps)))):=fun W vm M' a X' c h1 h2=>by
  have:=actsTwK_c (cap:=c) h1.2 HC.out.i.n h2 HC.out.sx;rw [her,←h1.1,hrs,hps] at this;refine this.mono ?_;rintro e w' ⟨hb,⟨h9,rfl⟩ | ⟨h9,a,c,rfl,_,h3⟩⟩
  ·exact ⟨none,0,0,rfl,hb,.inl ⟨h9,rfl⟩⟩
  ·exact ⟨a,_,c,by rw [h9],hb,.inr ⟨h9,by rw [List.length_map],h3⟩⟩
 have DA:Hid (∀W,Below w.heap.size w W→Calls Tryz.prog 11 #[.agg #[.bool s,.slice x n c,.slice y m d,.slice ca ck cc,.slice ra rk rc],.slice ao k cap] W fun e w'=>∃a n c,e=.returned (.tuple #[.slice a n c,.int .i64 er])∧Below W.heap.size W w'∧Hid (ANs er (2*KE 8) w' a n (rs.map (actQ ps)))):=fun W hW=>by
  have:=docActs_c (cap:=cap) (HC.out.i.below hW) (HC.out.hx.below hW) HC.out.sx;rw [her,hNv.out,hrs,hps] at this;refine this.mono ?_;rintro e w' ⟨hb,⟨h9,rfl⟩ | ⟨h9,a,c,rfl,_,h3⟩⟩
  ·exact ⟨none,0,0,rfl,hb,.inl ⟨h9,rfl⟩⟩
  ·exact ⟨a,_,c,by rw [h9],hb,.inr ⟨h9,by rw [List.length_map],h3⟩⟩
 have VA:Hid (∀W vm M' a X' c,(vm=M'.val∧TmK 8 W N M')→Tx W a k X X'→Calls Tryz.prog 13 #[vm,.slice a k c] W fun e w'=>∃t:Nm,e=.returned (.tuple #[t.val,.int .i64 er])∧Below W.heap.size W w'∧Hid (VNs er (KV 8) w' t vq)):=fun W vm M' a X' c h1 h2=>by
  have:=valueTwK_c (cap:=c) h1.2 HC.out.i.n h2 HC.out.sx;rw [her,←h1.1,hcs,hps] at this;refine this.mono ?_;rintro e w' ⟨hb,⟨h9,rfl⟩ | ⟨h9,s,x,n,c,f,y,m,d,g,rfl,h3⟩⟩
  ·exact ⟨⟨false,none,0,0,fun _=>0,none,0,0,fun _=>0⟩,rfl,hb,.inl ⟨h9,rfl⟩⟩
  ·exact ⟨⟨s,x,n,c,f,y,m,d,g⟩,by rw [h9];rfl,hb,.inr ⟨h9,by rw [←hvq];exact h3⟩⟩
 have DV:Hid (∀W,Below w.heap.size w W→Calls Tryz.prog 14 #[.agg #[.bool s,.slice x n c,.slice y m d,.slice ca ck cc,.slice ra rk rc],.slice ao k cap] W fun e w'=>∃t:Nm,e=.returned (.tuple #[t.val,.int .i64 er])∧Below W.heap.size W w'∧Hid (VNs er (2*KW 8) w' t vq)):=fun W hW=>by
  have:=docValue_c (cap:=cap) (HC.out.i.below hW) (HC.out.hx.below hW) HC.out.sx;rw [her,hNv.out,hcs,hps,hvq] at this;refine this.mono ?_;rintro e w' ⟨hb,⟨h9,rfl⟩ | ⟨h9,s,x,n,c,f,y,m,d,g,rfl,h3⟩⟩
  ·exact ⟨⟨false,none,0,0,fun _=>0,none,0,0,fun _=>0⟩,rfl,hb,.inl ⟨h9,rfl⟩⟩
  ·exact ⟨⟨s,x,n,c,f,y,m,d,g⟩,by rw [h9];rfl,hb,.inr ⟨h9,h3⟩⟩
 have FE:Hid (∀W vm M' a X' c,(vm=M'.val∧TmK 8 W N M')→Tx W a k X X'→Calls Tryz.prog 16 #[vm,.slice a k c] W fun e w'=>e=.returned (.tuple #[.bool fo,.int .i64 er])∧Below W.heap.size W w'):=fun W vm M' a X' c h1 h2=>by
  have:=feasTwK_c (cap:=c) h1.2 HC.out.i.n h2 HC.out.sx;rw [her,←h1.1,hcs,hrs,hps,hfo] at this;exact this
 have DF:Hid (∀W,Below w.heap.size w W→Calls Tryz.prog 17 #[.agg #[.bool s,.slice x n c,.slice y m d,.slice ca ck cc,.slice ra rk rc],.slice ao k cap] W fun e w'=>e=.returned (.tuple #[.bool fo,.int .i64 er])∧Below W.heap.size W w'):=fun W hW=>by
  have:=docFeas_c (cap:=cap) (HC.out.i.below hW) (HC.out.hx.below hW) HC.out.sx;rw [feM,her,hNv.out,hcs,hrs,hps,hfo] at this;exact this
 have BR:Hid (∀W vm M' a X' c,(vm=M'.val∧TmK 8 W N M')→Tx W a k X X'→Calls Tryz.prog 18 #[vm,.slice a k c] W fun e w'=>∃xa xc ya yc,e=.returned (.tuple #[.slice xa L1.length xc,.slice ya L2.length yc,.int .i64 er])∧Below W.heap.size W w'∧Hid (Il w' xa L1)∧Hid (Il w' ya L2)):=fun W vm M' a X' c h1 h2=>by
  have:=brokenTwK_c (cap:=c) h1.2 HC.out.i.n h2 HC.out.sx;rw [her,←h1.1,hcs,hrs,hps] at this;refine this.mono ?_;rintro e w' ⟨hb,⟨h9,rfl⟩ | ⟨h9,xa,xc,ya,yc,rfl,h3,h4⟩⟩
  ·rw [if_neg h9] at hL1 hL2;exact ⟨none,0,none,0,by rw [←hL1,←hL2];rfl,hb,hid (by rw [←hL1];exact fun j v e=>by simp at e),hid (by rw [←hL2];exact fun j v e=>by simp at e)⟩
  ·rw [if_pos h9] at hL1 hL2;exact ⟨xa,xc,ya,yc,by rw [hL1,hL2,h9],hb,hid (by rw [←hL1];exact h3),hid (by rw [←hL2];exact h4)⟩
 have DB:Hid (∀W,Below w.heap.size w W→Calls Tryz.prog 19 #[.agg #[.bool s,.slice x n c,.slice y m d,.slice ca ck cc,.slice ra rk rc],.slice ao k cap] W fun e w'=>∃xa xc ya yc,e=.returned (.tuple #[.slice xa L1.length xc,.slice ya L2.length yc,.int .i64 er])∧Below W.heap.size W w'∧Hid (Il w' xa L1)∧Hid (Il w' ya L2)):=fun W hW=>by
  have:=docBroken_c (cap:=cap) (HC.out.i.below hW) (HC.out.hx.below hW) HC.out.sx;rw [her,hNv.out,hcs,hrs,hps] at this;refine this.mono ?_;rintro e w' ⟨hb,⟨h9,rfl⟩ | ⟨h9,xa,xc,ya,yc,rfl,h3,h4⟩⟩
  ·rw [if_neg h9] at hL1 hL2;exact ⟨none,0,none,0,by rw [←hL1,←hL2];rfl,hb,hid (by rw [←hL1];exact fun j v e=>by simp at e),hid (by rw [←hL2];exact fun j v e=>by simp at e)⟩
  ·rw [if_pos h9] at hL1 hL2;exact ⟨xa,xc,ya,yc,by rw [hL1,hL2,h9],hb,hid (by rw [←hL1];exact h3),hid (by rw [←hL2];exact h4)⟩
 clear HC hNv her hrs hcs hps hvq hfo hL1 hL2;have ze:(er != er)=false:=by simp
 have zf:(fo != fo)=false:=by simp
 have zq:(er==er)=true:=by simp
 have ZE:=hid ze;have ZF:=hid zf;have ZQ:=hid zq
 clear ze zf zq;have r0:=BM.out.cell (j:=0) rfl;have r1:=BM.out.cell (j:=1) rfl;have r2:=BM.out.cell (j:=2) rfl;have r3:=BM.out.cell (j:=3) rfl;have r4:=BM.out.cell (j:=4) rfl;go_wp2_with fail
 clear r0 r1 r2 r3 r4;refine (T1.out _ HB.out).mono ?_;rintro e v4 ⟨vm,M1,rfl,hb,H1⟩;replace HB:=hid (HB.out.trans (hb.mono HB.out.size));replace BM:=hid (BM.out.below hb)
 clear hb;go_wp2_with fail
 refine (TX.out _ HB.out).mono ?_;rintro e v5 ⟨z2,c2,X2,rfl,hb,_,H2⟩;replace HB:=hid (HB.out.trans (hb.mono HB.out.size));replace BM:=hid (BM.out.below hb)
 have H3:=hid (And.intro H1.out.1 (H1.out.2.below hb));clear hb H1;go_wp2_with fail
 refine (AC.out _ vm M1 z2 X2 c2 H3.out H2.out).mono ?_;rintro e v6 ⟨a1,n1,e1,rfl,hb,HA⟩;replace HB:=hid (HB.out.trans (hb.mono HB.out.size));replace BM:=hid (BM.out.below hb)
 clear hb H2 H3 AC;have r0:=BM.out.cell (j:=0) rfl;have r1:=BM.out.cell (j:=1) rfl;have r2:=BM.out.cell (j:=2) rfl;have r3:=BM.out.cell (j:=3) rfl;have r4:=BM.out.cell (j:=4) rfl;go_wp2_with fail
 clear r0 r1 r2 r3 r4;refine (DA.out _ HB.out).mono ?_;rintro e v7 ⟨a2,n2,e2,rfl,hb,HD⟩;replace HB:=hid (HB.out.trans (hb.mono HB.out.size));replace BM:=hid (BM.out.below hb);replace HA:=hid (HA.out.below hb)
 clear hb DA;go_wp2_with fail
 refine (sameAN_c (ca:=e1) (cb:=e2) HA.out HD.out (by rw [List.length_map];exact fun h=>HL.out.2.2 h) (by decide) (by decide)).mono ?_;rintro e v8 ⟨rfl,hb⟩;replace HB:=hid (HB.out.trans (hb.mono HB.out.size));replace BM:=hid (BM.out.below hb);replace HA:=hid (HA.out.below hb);replace HD:=hid (HD.out.below hb)
 clear hb HA HD;have ze:=ZE.out;have r0:=BM.out.cell (j:=0) rfl;have r1:=BM.out.cell (j:=1) rfl;have r2:=BM.out.cell (j:=2) rfl;have r3:=BM.out.cell (j:=3) rfl;have r4:=BM.out.cell (j:=4) rfl;go_wp2_with fail
 clear r0 r1 r2 r3 r4;refine (T1.out _ HB.out).mono ?_;rintro e v9 ⟨vm,M1,rfl,hb,H1⟩;replace HB:=hid (HB.out.trans (hb.mono HB.out.size));replace BM:=hid (BM.out.below hb)
 clear hb;go_wp2_with fail
 refine (TX.out _ HB.out).mono ?_;rintro e v10 ⟨z2,c2,X2,rfl,hb,_,H2⟩;replace HB:=hid (HB.out.trans (hb.mono HB.out.size));replace BM:=hid (BM.out.below hb)
 have H3:=hid (And.intro H1.out.1 (H1.out.2.below hb));clear hb H1;go_wp2_with fail
 refine (VA.out _ vm M1 z2 X2 c2 H3.out H2.out).mono ?_;rintro e v11 ⟨⟨s7,x7,n7,c7,f7,y7,m7,d7,g7⟩,hr,hb,HV⟩;replace hr:e=.returned (.tuple #[.agg #[.bool s7,.slice x7 n7 c7,.slice y7 m7 d7],.int .i64 er]):=hr;subst hr;replace HB:=hid (HB.out.trans (hb.mono HB.out.size));replace BM:=hid (BM.out.below hb)
 clear hb H2 H3 VA;have hbn:=below_alloc (Below.refl v11.heap.size v11) (.cells #[.bool s7,.slice x7 n7 c7,.slice y7 m7 d7] 24);have B7:Hid (Bk (v11.alloc (.cells #[.bool s7,.slice x7 n7 c7,.slice y7 m7 d7] 24)) v11.heap.size [.bool s7,.slice x7 n7 c7,.slice y7 m7 d7] 24):=bk_new v11 [.bool s7,.slice x7 n7 c7,.slice y7 m7 d7] 24;replace HB:=hid (HB.out.trans (hbn.mono HB.out.size));replace BM:=hid (BM.out.below hbn);replace HV:=hid (HV.out.below hbn)
 clear hbn;have r0:=BM.out.cell (j:=0) rfl;have r1:=BM.out.cell (j:=1) rfl;have r2:=BM.out.cell (j:=2) rfl;have r3:=BM.out.cell (j:=3) rfl;have r4:=BM.out.cell (j:=4) rfl;go_wp2_with fail
 clear r0 r1 r2 r3 r4;generalize hbx7:v11.heap.size=bx7 at *;generalize v11.alloc (.cells #[.bool s7,.slice x7 n7 c7,.slice y7 m7 d7] 24)=v12 at *;clear hbx7 ze;refine (DV.out _ HB.out).mono ?_;rintro e v13 ⟨⟨s8,x8,n8,c8,f8,y8,m8,d8,g8⟩,hr,hb,HW⟩;replace hr:e=.returned (.tuple #[.agg #[.bool s8,.slice x8 n8 c8,.slice y8 m8 d8],.int .i64 er]):=hr;subst hr;replace HB:=hid (HB.out.trans (hb.mono HB.out.size));replace BM:=hid (BM.out.below hb);replace HV:=hid (HV.out.below hb);replace B7:=hid (B7.out.below hb)
 clear hb DV;have hbn:=below_alloc (Below.refl v13.heap.size v13) (.cells #[.bool s8,.slice x8 n8 c8,.slice y8 m8 d8] 24);have B8:Hid (Bk (v13.alloc (.cells #[.bool s8,.slice x8 n8 c8,.slice y8 m8 d8] 24)) v13.heap.size [.bool s8,.slice x8 n8 c8,.slice y8 m8 d8] 24):=bk_new v13 [.bool s8,.slice x8 n8 c8,.slice y8 m8 d8] 24;replace HB:=hid (HB.out.trans (hbn.mono HB.out.size));replace BM:=hid (BM.out.below hbn);replace HV:=hid (HV.out.below hbn);replace B7:=hid (B7.out.below hbn);replace HW:=hid (HW.out.below hbn)
 clear hbn;have p0:=B7.out.cell (j:=0) rfl;have p1:=B7.out.cell (j:=1) rfl;have p2:=B7.out.cell (j:=2) rfl;have q0:=B8.out.cell (j:=0) rfl;have q1:=B8.out.cell (j:=1) rfl;have q2:=B8.out.cell (j:=2) rfl;go_wp2_with fail
 clear p0 p1 p2 q0 q1 q2;generalize hbx8:v13.heap.size=bx8 at *;generalize v13.alloc (.cells #[.bool s8,.slice x8 n8 c8,.slice y8 m8 d8] 24)=v14 at *;clear hbx8 B7 B8;refine (sameVN_c (t:=⟨s7,x7,n7,c7,f7,y7,m7,d7,g7⟩) (t2:=⟨s8,x8,n8,c8,f8,y8,m8,d8,g8⟩) HV.out HW.out (by decide) (by decide)).mono ?_;rintro e v15 ⟨rfl,hb⟩;replace HB:=hid (HB.out.trans (hb.mono HB.out.size));replace BM:=hid (BM.out.below hb);replace HV:=hid (HV.out.below hb);replace HW:=hid (HW.out.below hb)
 clear hb HV HW;have ze:=ZE.out;have r0:=BM.out.cell (j:=0) rfl;have r1:=BM.out.cell (j:=1) rfl;have r2:=BM.out.cell (j:=2) rfl;have r3:=BM.out.cell (j:=3) rfl;have r4:=BM.out.cell (j:=4) rfl;go_wp2_with fail
 clear r0 r1 r2 r3 r4;refine (T1.out _ HB.out).mono ?_;rintro e v16 ⟨vm,M1,rfl,hb,H1⟩;replace HB:=hid (HB.out.trans (hb.mono HB.out.size));replace BM:=hid (BM.out.below hb)
 clear hb;go_wp2_with fail
 refine (TX.out _ HB.out).mono ?_;rintro e v17 ⟨z2,c2,X2,rfl,hb,_,H2⟩;replace HB:=hid (HB.out.trans (hb.mono HB.out.size));replace BM:=hid (BM.out.below hb)
 have H3:=hid (And.intro H1.out.1 (H1.out.2.below hb));clear hb H1;go_wp2_with fail
 refine (FE.out _ vm M1 z2 X2 c2 H3.out H2.out).mono ?_;rintro e v18 ⟨rfl,hb⟩;replace HB:=hid (HB.out.trans (hb.mono HB.out.size));replace BM:=hid (BM.out.below hb)
 clear hb H2 H3 FE;clear ze;have r0:=BM.out.cell (j:=0) rfl;have r1:=BM.out.cell (j:=1) rfl;have r2:=BM.out.cell (j:=2) rfl;have r3:=BM.out.cell (j:=3) rfl;have r4:=BM.out.cell (j:=4) rfl;go_wp2_with fail
 clear r0 r1 r2 r3 r4;refine (DF.out _ HB.out).mono ?_;rintro e v19 ⟨rfl,hb⟩;replace HB:=hid (HB.out.trans (hb.mono HB.out.size));replace BM:=hid (BM.out.below hb)
 clear hb DF;have ze:=ZE.out;have zf:=ZF.out;have r0:=BM.out.cell (j:=0) rfl;have r1:=BM.out.cell (j:=1) rfl;have r2:=BM.out.cell (j:=2) rfl;have r3:=BM.out.cell (j:=3) rfl;have r4:=BM.out.cell (j:=4) rfl;go_wp2_with fail
 clear r0 r1 r2 r3 r4;refine (T1.out _ HB.out).mono ?_;rintro e v20 ⟨vm,M1,rfl,hb,H1⟩;replace HB:=hid (HB.out.trans (hb.mono HB.out.size));replace BM:=hid (BM.out.below hb)
 clear hb;go_wp2_with fail
 refine (TX.out _ HB.out).mono ?_;rintro e v21 ⟨z2,c2,X2,rfl,hb,_,H2⟩;replace HB:=hid (HB.out.trans (hb.mono HB.out.size));replace BM:=hid (BM.out.below hb)
 have H3:=hid (And.intro H1.out.1 (H1.out.2.below hb));clear hb H1;go_wp2_with fail
 refine (BR.out _ vm M1 z2 X2 c2 H3.out H2.out).mono ?_;rintro e v22 ⟨xa,xc,ya,yc,rfl,hb,IA,IB⟩;replace HB:=hid (HB.out.trans (hb.mono HB.out.size));replace BM:=hid (BM.out.below hb)
 clear hb H2 H3 BR;clear ze zf;have r0:=BM.out.cell (j:=0) rfl;have r1:=BM.out.cell (j:=1) rfl;have r2:=BM.out.cell (j:=2) rfl;have r3:=BM.out.cell (j:=3) rfl;have r4:=BM.out.cell (j:=4) rfl;go_wp2_with fail
 clear r0 r1 r2 r3 r4;refine (DB.out _ HB.out).mono ?_;rintro e v23 ⟨xb,xd,yb,yd,rfl,hb,JA,JB⟩;replace HB:=hid (HB.out.trans (hb.mono HB.out.size));replace BM:=hid (BM.out.below hb);replace IA:=hid (IA.out.below hb);replace IB:=hid (IB.out.below hb)
 clear hb DB;go_wp2_with fail
 refine (ints10_c (xc:=xc) (yc:=xd) IA.out JA.out HL.out.1).mono ?_;rintro e v24 ⟨rfl,hb⟩;replace HB:=hid (HB.out.trans (hb.mono HB.out.size));replace BM:=hid (BM.out.below hb);replace IA:=hid (IA.out.below hb);replace IB:=hid (IB.out.below hb);replace JA:=hid (JA.out.below hb);replace JB:=hid (JB.out.below hb)
 clear hb;go_wp2_with fail
 refine (ints10_c (xc:=yc) (yc:=yd) IB.out JB.out HL.out.2.1).mono ?_;rintro e v25 ⟨rfl,hb⟩;replace HB:=hid (HB.out.trans (hb.mono HB.out.size));replace BM:=hid (BM.out.below hb);replace IA:=hid (IA.out.below hb);replace IB:=hid (IB.out.below hb);replace JA:=hid (JA.out.below hb);replace JB:=hid (JB.out.below hb)
 clear hb;have zq:=ZQ.out;go_wp2;go_ret;exact ⟨by first | rfl | simp,HB.out⟩
end Go.Proofs.YtbnaikljfhhljaaGreat
