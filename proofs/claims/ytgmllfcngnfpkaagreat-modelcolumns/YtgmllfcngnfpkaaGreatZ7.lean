/-
 Walks of the document's reference for ext: Twin, From, To, Num, Low, High, Same, Form, Cmp, Max, Min. Walks of ext: allForm, Cmp, Max, Min, whatever they are handed. The number that a number in memory is; the walk of package model's above. Lists of places in memory; the walk of package model's Crossed (written by makers/f10.py). The walks of slices.Equal of limbs, and of package model's sameRat, sameExt, sameTerm. The walks of package model's sameExt, sameTerm, sameCol, sameRow, and of slices.EqualFunc with them (written by makers/f12.py).
-/
import Derived.Test.YtgmllfcngnfpkaaGreatZ5
import Derived.Test.YtgmllfcngnfpkaaGreatZ6
namespace Go.Proofs.YtgmllfcngnfpkaaGreat
open Go.RowKit
structure Fn (w:World) (i:Int) (s:Bool) (x:Option Addr) (n:Nat) (d:Nat → Int) (y:Option Addr) (m:Nat) (g:Nat → Int) (q:Rat):Prop where
 qn:Qn w s x n d y m g q
 inf:i=0 ∨ (i=-1 ∨ i=1) ∧ q=0
theorem Fn.below {w w' i s x n d y m g q} (h:Fn w i s x n d y m g q) (hb:Below w.heap.size w w'):Fn w' i s x n d y m g q:=⟨h.qn.below hb,h.inf⟩
theorem Fn.alloc {w i s x n d y m g q} (h:Fn w i s x n d y m g q) (o:Obj):Fn (w.alloc o) i s x n d y m g q:=⟨h.qn.alloc o,h.inf⟩
set_option maxRecDepth 100000 in
set_option maxHeartbeats 4000000 in
theorem xTwin_c {w:World} {i:Int} {s:Bool} {x:Option Addr} {n c:Nat} {f:Nat → Int} {y:Option Addr} {m d:Nat} {g:Nat → Int} (h:Rw w x n c f y m d g) (hn:n ≤ 17592186044416) (hm:m ≤ 17592186044416) :
  Calls Tryz.prog 37 #[.agg #[.int .i64 i,.bool s,.slice x n c,.slice y m d]] w fun e w'=>∃ z c' z2 c2,e=.returned (.agg #[.int .i64 i,.bool s,.slice z n c',.slice z2 m c2]) ∧ Below w.heap.size w w' ∧ Rw w' z n c' f z2 m c2 g:=by
 have h1:=(bx4_at w (.int .i64 i) (.bool s) (.slice x n c) (.slice y m d) 73).alloc (.cells #[.int .i64 0,.bool false,.slice none 0 0,.slice none 0 0] 73)
 have h2:=ob4_new (w.alloc (.cells #[.int .i64 i,.bool s,.slice x n c,.slice y m d] 73)) 73
 rw [size_alloc1] at h2
 have h3:=below_alloc (below_alloc (Below.refl w.heap.size w) (.cells #[.int .i64 i,.bool s,.slice x n c,.slice y m d] 73)) (.cells #[.int .i64 0,.bool false,.slice none 0 0,.slice none 0 0] 73)
 have h4:=h.below h3
 clear h
 go_enter Tryz.func37,Tryz.ntmps37
 go_wp2_with fail
 generalize (w.alloc (.cells #[.int .i64 i,.bool s,.slice x n c,.slice y m d] 73)).alloc (.cells #[.int .i64 0,.bool false,.slice none 0 0,.slice none 0 0] 73)=w1 at *
 have HN:=hid h4;have OB:=hid h2;have HW:=hid h3
 obtain ⟨z,x0,x1,x2,x3⟩:=h1
 obtain ⟨hz,z0,z1,z2,z3,zf⟩:=h2
 clear h3 h4
 have C1:Hid (∀ W,Below w1.heap.size w1 W → Calls Tryz.prog 36 #[.agg #[.bool s,.slice x n c,.slice y m d]] W fun e w'=>∃ z c' z2 c2,e=.returned (.agg #[.bool s,.slice z n c',.slice z2 m c2]) ∧ Below W.heap.size W w' ∧ Hid (Rw w' z n c' f z2 m c2 g)):=fun W hW=>qTwin_c (HN.out.below hW) hn hm
 go_region_held3 (fun w'=>w'.cell? ⟨w.heap.size,0,none⟩=some (.int .i64 i) ∧ w'.cell? ⟨w.heap.size,1,none⟩=some (.bool s) ∧ w'.cell? ⟨w.heap.size,2,none⟩=some (.slice x n c) ∧ w'.cell? ⟨w.heap.size,3,none⟩=some (.slice y m d) ∧ (w'.cell? ⟨w.heap.size + 1,0,none⟩).isSome=true ∧ (w'.cell? ⟨w.heap.size + 1,1,none⟩).isSome=true ∧ (w'.cell? ⟨w.heap.size + 1,2,none⟩).isSome=true ∧ (w'.cell? ⟨w.heap.size + 1,3,none⟩).isSome=true ∧ w'.frozen? ⟨w.heap.size + 1,0,none⟩=false ∧ w'.frozen? ⟨w.heap.size + 1,1,none⟩=false ∧ w'.frozen? ⟨w.heap.size + 1,2,none⟩=false ∧ w'.frozen? ⟨w.heap.size + 1,3,none⟩=false)
  (refine ⟨?_,?_,?_,?_,?_,?_,?_,?_,?_,?_,?_,?_⟩ <;> repeat (with_reducible first | assumption | exact zf _ | exact tf _ | exact kI0 z0 | exact kI0 z1 | exact kI0 z2 | exact kI0 z3 | exact kI0 t0 | exact kI0 t1 | exact kI0 t2 | exact kI0 t3 | refine kCd ?_ | refine kId ?_ | refine kFd ?_ | refine kCs (by simp only [ne_eq];omega) ?_ | refine kIs ?_ | refine kFs ?_ | refine kCb (by assumption) ?_ | refine kIb (by assumption) ?_))
  (first | (go_at_call 36;with_reducible refine (C1.out _ (by repeat (with_reducible first | assumption | exact Below.refl _ _ | refine Below.drew ?_ | refine kBb (by assumption) ?_))).mono ?_;rintro e v5 ⟨z5,c5,y5,d5,rfl,hb5,H5⟩;have Tt:Ob4 v5 (w.heap.size + 1):=(by repeat (with_reducible first | exact OB.out | refine Ob4.drew ?_ | refine kO4b (by assumption) ?_));obtain ⟨_,t0,t1,t2,t3,tf⟩:=id Tt))
 all_goals
  have hb:Below w1.heap.size w1 v5:=(by repeat (with_reducible first | assumption | exact Below.refl _ _ | refine Below.drew ?_ | refine kBb (by assumption) ?_))
  go_wp2
  exact bodyPost_ret (v:=.agg #[.int .i64 i,.bool s,.slice z5 n c5,.slice y5 m d5]) (by simp [results,Tryz.results37,go_sem,t0,t1,t2,t3]) rfl ⟨z5,c5,y5,d5,rfl,below_st4 (HW.out.trans (hb.mono HW.out.size)) (by omega),Tt.rw H5.out⟩
set_option maxRecDepth 100000 in
set_option maxHeartbeats 4000000 in
theorem xFrom_c {L:Nat} {w:World} {i:Int} {s:Bool} {x:Option Addr} {n c:Nat} {f:Nat → Int} {y:Option Addr} {m d:Nat} {g:Nat → Int} {q:Rat} (h:En L w i s x n c f y m d g q) (hL:L ≤ 1000) :
  Calls Tryz.prog 75 #[.agg #[.int .i64 i,.bool s,.slice x n c,.slice y m d]] w fun e w'=>∃ s x n c d y m c' g,e=.returned (.agg #[.int .i64 i,.bool s,.slice x n c,.slice y m c']) ∧ Below w.heap.size w w' ∧ Hid (n ≤ 2 * L ∧ m ≤ 2 * L ∧ Fn w' i s x n d y m g q):=by
 have h1:=(bx4_at w (.int .i64 i) (.bool s) (.slice x n c) (.slice y m d) 73).alloc (.cells #[.int .i64 0,.bool false,.slice none 0 0,.slice none 0 0] 92)
 have h2:=ob4_new (w.alloc (.cells #[.int .i64 i,.bool s,.slice x n c,.slice y m d] 73)) 92
 rw [size_alloc1] at h2
 have h3:=below_alloc (below_alloc (Below.refl w.heap.size w) (.cells #[.int .i64 i,.bool s,.slice x n c,.slice y m d] 73)) (.cells #[.int .i64 0,.bool false,.slice none 0 0,.slice none 0 0] 92)
 have h4:=h.below h3
 clear h
 go_enter Tryz.func75,Tryz.ntmps75
 go_wp2_with fail
 generalize (w.alloc (.cells #[.int .i64 i,.bool s,.slice x n c,.slice y m d] 73)).alloc (.cells #[.int .i64 0,.bool false,.slice none 0 0,.slice none 0 0] 92)=w1 at *
 have HN:=hid h4;have OB:=hid h2;have HW:=hid h3
 obtain ⟨z,x0,x1,x2,x3⟩:=h1
 obtain ⟨hz,z0,z1,z2,z3,zf⟩:=h2
 clear h3 h4
 have C1:Hid (∀ W,Below w1.heap.size w1 W → Calls Tryz.prog 67 #[.agg #[.bool s,.slice x n c,.slice y m d]] W fun e w'=>∃ s x n c d y m c' g,e=.returned (.agg #[.bool s,.slice x n c,.slice y m c']) ∧ Below W.heap.size W w' ∧ Hid (n ≤ 2 * L ∧ m ≤ 2 * L ∧ Qn w' s x n d y m g q)):=fun W hW=>qFrom_c (HN.out.below hW).rn (Nat.le_trans hL (by decide))
 go_region_held3 (fun w'=>w'.cell? ⟨w.heap.size,0,none⟩=some (.int .i64 i) ∧ w'.cell? ⟨w.heap.size,1,none⟩=some (.bool s) ∧ w'.cell? ⟨w.heap.size,2,none⟩=some (.slice x n c) ∧ w'.cell? ⟨w.heap.size,3,none⟩=some (.slice y m d) ∧ (w'.cell? ⟨w.heap.size + 1,0,none⟩).isSome=true ∧ (w'.cell? ⟨w.heap.size + 1,1,none⟩).isSome=true ∧ (w'.cell? ⟨w.heap.size + 1,2,none⟩).isSome=true ∧ (w'.cell? ⟨w.heap.size + 1,3,none⟩).isSome=true ∧ w'.frozen? ⟨w.heap.size + 1,0,none⟩=false ∧ w'.frozen? ⟨w.heap.size + 1,1,none⟩=false ∧ w'.frozen? ⟨w.heap.size + 1,2,none⟩=false ∧ w'.frozen? ⟨w.heap.size + 1,3,none⟩=false)
  (refine ⟨?_,?_,?_,?_,?_,?_,?_,?_,?_,?_,?_,?_⟩ <;> repeat (with_reducible first | assumption | exact zf _ | exact tf _ | exact kI0 z0 | exact kI0 z1 | exact kI0 z2 | exact kI0 z3 | exact kI0 t0 | exact kI0 t1 | exact kI0 t2 | exact kI0 t3 | refine kCd ?_ | refine kId ?_ | refine kFd ?_ | refine kCs (by simp only [ne_eq];omega) ?_ | refine kIs ?_ | refine kFs ?_ | refine kCb (by assumption) ?_ | refine kIb (by assumption) ?_))
  (first | (go_at_call 67;with_reducible refine (C1.out _ (by repeat (with_reducible first | assumption | exact Below.refl _ _ | refine Below.drew ?_ | refine kBb (by assumption) ?_))).mono ?_;rintro e v5 ⟨s5,x5,n5,c5,d5,y5,m5,e5,g5,rfl,hb5,H5⟩;have Tt:Ob4 v5 (w.heap.size + 1):=(by repeat (with_reducible first | exact OB.out | refine Ob4.drew ?_ | refine kO4b (by assumption) ?_));obtain ⟨_,t0,t1,t2,t3,tf⟩:=id Tt))
 all_goals
  have hb:Below w1.heap.size w1 v5:=(by repeat (with_reducible first | assumption | exact Below.refl _ _ | refine Below.drew ?_ | refine kBb (by assumption) ?_))
  go_wp2
  exact bodyPost_ret (v:=.agg #[.int .i64 i,.bool s5,.slice x5 n5 c5,.slice y5 m5 e5]) (by simp [results,Tryz.results75,go_sem,t0,t1,t2,t3]) rfl ⟨s5,x5,n5,c5,d5,y5,m5,e5,g5,rfl,below_st4 (HW.out.trans (hb.mono HW.out.size)) (by omega),H5.out.1,H5.out.2.1,⟨Tt.qn H5.out.2.2,HN.out.inf⟩⟩
set_option maxRecDepth 100000 in
set_option maxHeartbeats 4000000 in
theorem xTo_c {w:World} {i:Int} {s:Bool} {x:Option Addr} {n c:Nat} {f:Nat → Int} {y:Option Addr} {m d:Nat} {g:Nat → Int} {q:Rat} (h:Fn w i s x n f y m g q) (hn:n ≤ 4096) (hm:m ≤ 4096) :
  Calls Tryz.prog 70 #[.agg #[.int .i64 i,.bool s,.slice x n c,.slice y m d]] w fun e w'=>∃ z k c' f z2 k2 c2 f2,e=.returned (.agg #[.int .i64 i,.bool s,.slice z k c',.slice z2 k2 c2]) ∧ Below w.heap.size w w' ∧ Hid (En (n + m) w' i s z k c' f z2 k2 c2 f2 q):=by
 have h1:=(bx4_at w (.int .i64 i) (.bool s) (.slice x n c) (.slice y m d) 92).alloc (.cells #[.int .i64 0,.bool false,.slice none 0 0,.slice none 0 0] 73)
 have h2:=ob4_new (w.alloc (.cells #[.int .i64 i,.bool s,.slice x n c,.slice y m d] 92)) 73
 rw [size_alloc1] at h2
 have h3:=below_alloc (below_alloc (Below.refl w.heap.size w) (.cells #[.int .i64 i,.bool s,.slice x n c,.slice y m d] 92)) (.cells #[.int .i64 0,.bool false,.slice none 0 0,.slice none 0 0] 73)
 have h4:=h.below h3
 clear h
 go_enter Tryz.func70,Tryz.ntmps70
 go_wp2_with fail
 generalize (w.alloc (.cells #[.int .i64 i,.bool s,.slice x n c,.slice y m d] 92)).alloc (.cells #[.int .i64 0,.bool false,.slice none 0 0,.slice none 0 0] 73)=w1 at *
 have HN:=hid h4;have OB:=hid h2;have HW:=hid h3
 obtain ⟨z,x0,x1,x2,x3⟩:=h1
 obtain ⟨hz,z0,z1,z2,z3,zf⟩:=h2
 clear h3 h4
 have C1:Hid (∀ W,Below w1.heap.size w1 W → Calls Tryz.prog 29 #[.agg #[.bool s,.slice x n c,.slice y m d]] W fun e w'=>∃ z k c' f z2 k2 c2 f2,e=.returned (.agg #[.bool s,.slice z k c',.slice z2 k2 c2]) ∧ Below W.heap.size W w' ∧ Hid (Rn (n + m) w' s z k c' f z2 k2 c2 f2 q)):=fun W hW=>qToR_c (HN.out.below hW).qn (Nat.le_trans hn (by decide)) (Nat.le_trans hm (by decide))
 go_region_held3 (fun w'=>w'.cell? ⟨w.heap.size,0,none⟩=some (.int .i64 i) ∧ w'.cell? ⟨w.heap.size,1,none⟩=some (.bool s) ∧ w'.cell? ⟨w.heap.size,2,none⟩=some (.slice x n c) ∧ w'.cell? ⟨w.heap.size,3,none⟩=some (.slice y m d) ∧ (w'.cell? ⟨w.heap.size + 1,0,none⟩).isSome=true ∧ (w'.cell? ⟨w.heap.size + 1,1,none⟩).isSome=true ∧ (w'.cell? ⟨w.heap.size + 1,2,none⟩).isSome=true ∧ (w'.cell? ⟨w.heap.size + 1,3,none⟩).isSome=true ∧ w'.frozen? ⟨w.heap.size + 1,0,none⟩=false ∧ w'.frozen? ⟨w.heap.size + 1,1,none⟩=false ∧ w'.frozen? ⟨w.heap.size + 1,2,none⟩=false ∧ w'.frozen? ⟨w.heap.size + 1,3,none⟩=false)
  (refine ⟨?_,?_,?_,?_,?_,?_,?_,?_,?_,?_,?_,?_⟩ <;> repeat (with_reducible first | assumption | exact zf _ | exact tf _ | exact kI0 z0 | exact kI0 z1 | exact kI0 z2 | exact kI0 z3 | exact kI0 t0 | exact kI0 t1 | exact kI0 t2 | exact kI0 t3 | refine kCd ?_ | refine kId ?_ | refine kFd ?_ | refine kCs (by simp only [ne_eq];omega) ?_ | refine kIs ?_ | refine kFs ?_ | refine kCb (by assumption) ?_ | refine kIb (by assumption) ?_))
  (first | (go_at_call 29;with_reducible refine (C1.out _ (by repeat (with_reducible first | assumption | exact Below.refl _ _ | refine Below.drew ?_ | refine kBb (by assumption) ?_))).mono ?_;rintro e v5 ⟨z5,k5,c5,f5,y5,m5,d5,g5,rfl,hb5,H5⟩;have Tt:Ob4 v5 (w.heap.size + 1):=(by repeat (with_reducible first | exact OB.out | refine Ob4.drew ?_ | refine kO4b (by assumption) ?_));obtain ⟨_,t0,t1,t2,t3,tf⟩:=id Tt))
 all_goals
  have hb:Below w1.heap.size w1 v5:=(by repeat (with_reducible first | assumption | exact Below.refl _ _ | refine Below.drew ?_ | refine kBb (by assumption) ?_))
  go_wp2
  exact bodyPost_ret (v:=.agg #[.int .i64 i,.bool s,.slice z5 k5 c5,.slice y5 m5 d5]) (by simp [results,Tryz.results70,go_sem,t0,t1,t2,t3]) rfl ⟨z5,k5,c5,f5,y5,m5,d5,g5,rfl,below_st4 (HW.out.trans (hb.mono HW.out.size)) (by omega),⟨Tt.rn H5.out,HN.out.inf⟩⟩
set_option maxRecDepth 100000 in
set_option maxHeartbeats 4000000 in
theorem qZero4_c {w:World}:Calls Tryz.prog 66 #[] w fun e w'=>∃ s x n c d y m c' g,e=.returned (.agg #[.bool s,.slice x n c,.slice y m c']) ∧ Below w.heap.size w w' ∧ Hid (n ≤ 2 ∧ m ≤ 2 ∧ Qn w' s x n d y m g 0):=by
 have h2:=ob_new w 68
 have h3:=below_alloc (Below.refl w.heap.size w) (.cells #[.bool false,.slice none 0 0,.slice none 0 0] 68)
 go_enter Tryz.func66,Tryz.ntmps66
 go_wp2_with fail
 generalize w.alloc (.cells #[.bool false,.slice none 0 0,.slice none 0 0] 68)=w1 at *
 have OB:=hid h2;have HW:=hid h3
 clear h2 h3
 refine (qInt_c (z:=0) (by decide) (by decide)).mono ?_
 rintro e w2 ⟨s2,x2,n2,c2,d2,y2,m2,e2,g2,rfl,hb,hl1,hl2,hq⟩
 have HB:=hid (HW.out.trans (hb.mono HW.out.size));have OB2:=hid (OB.out.below hb);have HQ:=hid hq
 clear hb hq
 obtain ⟨hz,z0,z1,z2,zf⟩:=OB2.out
 go_wp2
 exact bodyPost_ret (v:=.agg #[.bool s2,.slice x2 n2 c2,.slice y2 m2 e2]) (by simp [results,Tryz.results66,go_sem,z0,z1,z2]) rfl ⟨s2,x2,n2,c2,d2,y2,m2,e2,g2,rfl,below_st HB.out (Nat.le_refl _),hl1,hl2,OB2.out.qn HQ.out⟩
set_option maxRecDepth 100000 in
set_option maxHeartbeats 4000000 in
theorem xLow_c {w:World}:Calls Tryz.prog 71 #[] w fun e w'=>∃ s x n c d y m c' g,e=.returned (.agg #[.int .i64 (-1),.bool s,.slice x n c,.slice y m c']) ∧ Below w.heap.size w w' ∧ Hid (n ≤ 2 ∧ m ≤ 2 ∧ Fn w' (-1) s x n d y m g 0):=by
 have h2:=ob4_new w 92
 have h3:=below_alloc (Below.refl w.heap.size w) (.cells #[.int .i64 0,.bool false,.slice none 0 0,.slice none 0 0] 92)
 go_enter Tryz.func71,Tryz.ntmps71
 go_wp2_with fail
 generalize w.alloc (.cells #[.int .i64 0,.bool false,.slice none 0 0,.slice none 0 0] 92)=w1 at *
 have OB:=hid h2;have HW:=hid h3
 clear h2 h3
 refine qZero4_c.mono ?_
 rintro e w2 ⟨s2,x2,n2,c2,d2,y2,m2,e2,g2,rfl,hb,H2⟩
 have HB:=hid (HW.out.trans (hb.mono HW.out.size));have OB2:=hid (OB.out.below hb)
 clear hb
 obtain ⟨hz,z0,z1,z2,z3,zf⟩:=OB2.out
 go_wp2
 exact bodyPost_ret (v:=.agg #[.int .i64 (-1),.bool s2,.slice x2 n2 c2,.slice y2 m2 e2]) (by simp [results,Tryz.results71,go_sem,z0,z1,z2,z3]) rfl ⟨s2,x2,n2,c2,d2,y2,m2,e2,g2,rfl,below_st4 HB.out (Nat.le_refl _),H2.out.1,H2.out.2.1,⟨OB2.out.qn H2.out.2.2,.inr ⟨by decide,rfl⟩⟩⟩
set_option maxRecDepth 100000 in
set_option maxHeartbeats 4000000 in
theorem xHigh_c {w:World}:Calls Tryz.prog 72 #[] w fun e w'=>∃ s x n c d y m c' g,e=.returned (.agg #[.int .i64 1,.bool s,.slice x n c,.slice y m c']) ∧ Below w.heap.size w w' ∧ Hid (n ≤ 2 ∧ m ≤ 2 ∧ Fn w' 1 s x n d y m g 0):=by
 have h2:=ob4_new w 92
 have h3:=below_alloc (Below.refl w.heap.size w) (.cells #[.int .i64 0,.bool false,.slice none 0 0,.slice none 0 0] 92)
 go_enter Tryz.func72,Tryz.ntmps72
 go_wp2_with fail
 generalize w.alloc (.cells #[.int .i64 0,.bool false,.slice none 0 0,.slice none 0 0] 92)=w1 at *
 have OB:=hid h2;have HW:=hid h3
 clear h2 h3
 refine qZero4_c.mono ?_
 rintro e w2 ⟨s2,x2,n2,c2,d2,y2,m2,e2,g2,rfl,hb,H2⟩
 have HB:=hid (HW.out.trans (hb.mono HW.out.size));have OB2:=hid (OB.out.below hb)
 clear hb
 obtain ⟨hz,z0,z1,z2,z3,zf⟩:=OB2.out
 go_wp2
 exact bodyPost_ret (v:=.agg #[.int .i64 1,.bool s2,.slice x2 n2 c2,.slice y2 m2 e2]) (by simp [results,Tryz.results72,go_sem,z0,z1,z2,z3]) rfl ⟨s2,x2,n2,c2,d2,y2,m2,e2,g2,rfl,below_st4 HB.out (Nat.le_refl _),H2.out.1,H2.out.2.1,⟨OB2.out.qn H2.out.2.2,.inr ⟨by decide,rfl⟩⟩⟩
theorem zero_rf {w:World} {L:Nat} {s s':Bool} {n n' m m':Nat} {f f' g g':Nat → Int} {x':Option Addr} {c':Nat} {y':Option Addr} {d':Nat} (hlg:Lm g m) (hz:Rn L w s' x' n' c' f' y' m' d' g' 0):(s=s' ∧ Alk n n' f f' ∧ Alk m m' g g') ↔ (rfB s f n g m && decide (n=0))=true:=by
 have hn':n'=0:=hz.q_zero.1 rfl
 have hs':s'=false:=by
  cases s'
  ·rfl
  ·have:=sgn_of_wfB hz.num.wf rfl;omega
 have hden:vf g' m'=1:=hz.den.nv
 have hone:=one_iff hz.den.lm hz.den.fm hz.den.nv
 have hm':=hone.1 rfl
 constructor
 ·rintro ⟨rfl,⟨h1,_⟩,h2,h3⟩
  have e1:n=0:=by omega
  have e2:m=1:=by omega
  subst e1 e2
  have e3:g 0=1:=by rw [h3 0 (by omega)];exact hm'.2
  have v1:vf g 1=1:=by simp [vf,pw,e3]
  have v0:vf f 0=0:=rfl
  have w1:wfB s f 0=true:=(wfB_iff _ _ _).2 ⟨.inl rfl,fun h=>by rw [hs'] at h;cases h⟩
  have w2:fmB g 1=true:=(fmB_iff _ _).2 (.inr (by show g 0 ≠ 0;omega))
  simp [rfB,w1,w2,v1,v0]
 ·intro h
  simp only [Bool.and_eq_true,decide_eq_true_eq] at h
  obtain ⟨h1,rfl⟩:=h
  simp only [rfB,Bool.and_eq_true,decide_eq_true_eq] at h1
  obtain ⟨k1,k2,k3,k4⟩:=h1
  have hs:s=false:=by
   cases s
   ·rfl
   ·have:=sgn_of_wfB k1 rfl;omega
  have hv:vf g m=1:=by
   have v0:vf f 0=0:=rfl
   rw [v0] at k4
   have h2:(vf g m).toNat=1:=by simpa using k4
   omega
  obtain ⟨e1,e2⟩:=(one_iff hlg ((fmB_iff g m).1 k2) hv).1 rfl
  subst e1
  refine ⟨by rw [hs,hs'],⟨by omega,fun j hj=>by omega⟩,⟨by omega,fun j hj=>?_⟩⟩
  have:j=0:=by omega
  subst this
  rw [e2];exact hm'.2.symm
set_option maxRecDepth 100000 in
set_option maxHeartbeats 4000000 in
theorem xForm_c {w:World} {i:Int} {s:Bool} {x:Option Addr} {n c:Nat} {f:Nat → Int} {y:Option Addr} {m d:Nat} {g:Nat → Int} (h:Rw w x n c f y m d g) (hn:n ≤ 1000) (hm:m ≤ 1000) :
  Calls Tryz.prog 84 #[.agg #[.int .i64 i,.bool s,.slice x n c,.slice y m d]] w fun e w'=>e=.returned (.bool (efB i s f n g m)) ∧ Below w.heap.size w w':=by
 have HR:=hid (h.alloc (.cells #[.int .i64 i,.bool s,.slice x n c,.slice y m d] 73))
 have BX:=hid (bx4_at w (.int .i64 i) (.bool s) (.slice x n c) (.slice y m d) 73)
 have HW:=hid (below_alloc (Below.refl w.heap.size w) (.cells #[.int .i64 i,.bool s,.slice x n c,.slice y m d] 73))
 have C1:Hid (∀ W,Below (w.alloc (.cells #[.int .i64 i,.bool s,.slice x n c,.slice y m d] 73)).heap.size (w.alloc (.cells #[.int .i64 i,.bool s,.slice x n c,.slice y m d] 73)) W → Calls Tryz.prog 46 #[.agg #[.bool s,.slice x n c,.slice y m d]] W fun e w'=>e=.returned (.bool (rfB s f n g m)) ∧ Below W.heap.size W w'):=fun W hW=>qForm_c (HR.out.below hW) hn hm
 have CZ:Hid (∀ W:World,Calls Tryz.prog 66 #[] W fun e w'=>∃ s x n c d y m c' g,e=.returned (.agg #[.bool s,.slice x n c,.slice y m c']) ∧ Below W.heap.size W w' ∧ Hid (n ≤ 2 ∧ m ≤ 2 ∧ Qn w' s x n d y m g 0)):=fun W=>qZero4_c
 have CT:Hid (∀ (W:World) (s:Bool) (x:Option Addr) (n c:Nat) (d:Nat → Int) (y:Option Addr) (m e:Nat) (g:Nat → Int),n ≤ 2 → m ≤ 2 → Qn W s x n d y m g 0 → Calls Tryz.prog 29 #[.agg #[.bool s,.slice x n c,.slice y m e]] W fun en w'=>∃ z k c' f z2 k2 c2 f2,en=.returned (.agg #[.bool s,.slice z k c',.slice z2 k2 c2]) ∧ Below W.heap.size W w' ∧ Hid (Rn 4 w' s z k c' f z2 k2 c2 f2 0)):=fun W s x n c d y m e g h1 h2 h3=>(qToR_c h3 (by omega) (by omega)).mono (fun _ _ ⟨z,k,c',f,z2,k2,c2,f2,k1,k3,k4⟩=>⟨z,k,c',f,z2,k2,c2,f2,k1,k3,k4.out.mono (by omega)⟩)
 have CS:Hid (∀ (W:World) (s':Bool) (x':Option Addr) (n' c':Nat) (f':Nat → Int) (y':Option Addr) (m' d':Nat) (g':Nat → Int),Below (w.alloc (.cells #[.int .i64 i,.bool s,.slice x n c,.slice y m d] 73)).heap.size (w.alloc (.cells #[.int .i64 i,.bool s,.slice x n c,.slice y m d] 73)) W → Rn 4 W s' x' n' c' f' y' m' d' g' 0 → Calls Tryz.prog 28 #[.agg #[.bool s,.slice x n c,.slice y m d],.agg #[.bool s',.slice x' n' c',.slice y' m' d']] W fun e w'=>e=.returned (.bool (rfB s f n g m && decide (n=0))) ∧ Below W.heap.size W w'):=fun W s' x' n' c' f' y' m' d' g' hW hz=>by
  have hr:=HR.out.below hW
  have b1:=hz.ln;have b2:=hz.ld
  refine (rSame_c s x y n c m d f g s' x' y' n' c' m' d' f' g' W hr.rx hr.ry hz.num.rd hz.den.rd (by omega) (by omega) (by omega) (by omega)).mono ?_
  rintro e w' ⟨b,rfl,h1,h2⟩
  have:b=(rfB s f n g m && decide (n=0)):=Bool.eq_iff_iff.2 (h2.trans (zero_rf hr.ly hz))
  rw [this]
  exact ⟨rfl,h1⟩
 clear h
 by_cases h0:i=0
 ·subst h0
  rw [show efB 0 s f n g m=rfB s f n g m by simp [efB]]
  clear CZ CT CS
  go_enter Tryz.func84,Tryz.ntmps84
  go_upto_region 1 with fail
  generalize w.alloc (.cells #[.int .i64 0,.bool s,.slice x n c,.slice y m d] 73)=w1 at *
  obtain ⟨z,x0,x1,x2,x3⟩:=BX.out
  go_wp2_with fail
  refine (C1.out _ (Below.refl _ _)).mono ?_
  rintro e w2 ⟨rfl,hb⟩
  have HB:=hid (HW.out.trans (hb.mono HW.out.size))
  clear hb
  go_wp2
  go_ret
  exact ⟨rfl,HB.out⟩
 have e0:(i == 0)=false:=by simp;exact h0
 by_cases h1:i=-1 ∨ i=1
 ·have hef:efB i s f n g m=(rfB s f n g m && decide (n=0)):=by
   rcases h1 with rfl | rfl <;> simp [efB]
  rw [hef]
  clear hef h0 C1
  generalize (rfB s f n g m && decide (n=0))=p at *
  rcases h1 with rfl | rfl
  all_goals
   go_enter Tryz.func84,Tryz.ntmps84
   go_upto_region 1 with fail
   generalize w.alloc _=w1 at *
   obtain ⟨z,x0,x1,x2,x3⟩:=BX.out
   go_wp2_with fail
   go_region_held3 (fun w'=>w'.cell? ⟨w.heap.size,1,none⟩=some (.bool s) ∧ w'.cell? ⟨w.heap.size,2,none⟩=some (.slice x n c) ∧ w'.cell? ⟨w.heap.size,3,none⟩=some (.slice y m d))
    (refine ⟨?_,?_,?_⟩ <;> repeat (with_reducible first | assumption | refine kCd ?_ | refine kCb (by assumption) ?_))
    (first
     | (go_at_call 66;with_reducible refine (CZ.out _).mono ?_;rintro e v5 ⟨s5,x5,n5,c5,d5,y5,m5,e5,g5,rfl,hb5,H5⟩)
     | (go_at_call 29;with_reducible refine (CT.out _ s5 x5 n5 c5 d5 y5 m5 e5 g5 H5.out.1 H5.out.2.1 (by repeat (with_reducible first | exact H5.out.2.2 | refine kQd ?_ | refine kQb (by assumption) ?_))).mono ?_;rintro e v6 ⟨x6,n6,c6,f6,y6,m6,d6,g6,rfl,hb6,H6⟩)
     | (go_at_call 28;with_reducible refine (CS.out _ s5 x6 n6 c6 f6 y6 m6 d6 g6 (by repeat (with_reducible first | assumption | exact Below.refl _ _ | refine Below.drew ?_ | refine kBb (by assumption) ?_)) (by repeat (with_reducible first | exact H6.out | refine kRnd ?_ | refine kRnb (by assumption) ?_))).mono ?_;rintro e v7 ⟨rfl,hb7⟩))
   all_goals
    have hb:Below w1.heap.size w1 v7:=(by repeat (with_reducible first | assumption | exact Below.refl _ _ | refine Below.drew ?_ | refine kBb (by assumption) ?_))
    have HB:=hid (HW.out.trans (hb.mono HW.out.size))
    clear hb
    go_wp2
    go_ret
    exact ⟨rfl,HB.out⟩
 ·have e1:(i == -1)=false:=by simp;omega
  have e2:(i == 1)=false:=by simp;omega
  have hef:efB i s f n g m=false:=by
   simp [efB];omega
  rw [hef]
  clear hef h0 h1 C1 CZ CT CS
  go_enter Tryz.func84,Tryz.ntmps84
  go_upto_region 1 with fail
  generalize w.alloc (.cells #[.int .i64 i,.bool s,.slice x n c,.slice y m d] 73)=w1 at *
  obtain ⟨z,x0,x1,x2,x3⟩:=BX.out
  go_wp2
  go_ret
  exact ⟨rfl,HW.out⟩
structure Li2 (w:World) (B:Nat) (a0 a1 a2 a3 b0 b1 b2 b3:Value):Prop where
 z:B < w.heap.size
 x0:w.cell? ⟨B,0,none⟩=some a0
 x1:w.cell? ⟨B,1,none⟩=some a1
 x2:w.cell? ⟨B,2,none⟩=some a2
 x3:w.cell? ⟨B,3,none⟩=some a3
 y0:w.cell? ⟨B,4,none⟩=some b0
 y1:w.cell? ⟨B,5,none⟩=some b1
 y2:w.cell? ⟨B,6,none⟩=some b2
 y3:w.cell? ⟨B,7,none⟩=some b3
theorem Li2.below {w w' B a0 a1 a2 a3 b0 b1 b2 b3} (h:Li2 w B a0 a1 a2 a3 b0 b1 b2 b3) (hb:Below w.heap.size w w'):Li2 w' B a0 a1 a2 a3 b0 b1 b2 b3:=⟨Nat.lt_of_lt_of_le h.z hb.size,kCb hb h.x0,kCb hb h.x1,kCb hb h.x2,kCb hb h.x3,kCb hb h.y0,kCb hb h.y1,kCb hb h.y2,kCb hb h.y3⟩
theorem li2_at (w:World) (a0 a1 a2 a3 b0 b1 b2 b3:Value) (t:TypeId):Li2 (w.alloc (.cells #[a0,a1,a2,a3,b0,b1,b2,b3] t)) w.heap.size a0 a1 a2 a3 b0 b1 b2 b3:=⟨by simp,by simp [go_sem],by simp [go_sem],by simp [go_sem],by simp [go_sem],by simp [go_sem],by simp [go_sem],by simp [go_sem],by simp [go_sem]⟩
set_option maxRecDepth 100000 in
set_option maxHeartbeats 4000000 in
theorem allForm2_c {w:World} {i1:Int} {s1:Bool} {x1:Option Addr} {n1 c1:Nat} {f1:Nat → Int} {y1:Option Addr} {m1 d1:Nat} {g1:Nat → Int} {i2:Int} {s2:Bool} {x2:Option Addr} {n2 c2:Nat} {f2:Nat → Int} {y2:Option Addr} {m2 d2:Nat} {g2:Nat → Int} {B:Nat} (hB:Li2 w B (.int .i64 i1) (.bool s1) (.slice x1 n1 c1) (.slice y1 m1 d1) (.int .i64 i2) (.bool s2) (.slice x2 n2 c2) (.slice y2 m2 d2)) (h1:Rw w x1 n1 c1 f1 y1 m1 d1 g1) (h2:Rw w x2 n2 c2 f2 y2 m2 d2 g2) (hn1:n1 ≤ 4096) (hm1:m1 ≤ 4096) (hn2:n2 ≤ 4096) (hm2:m2 ≤ 4096) :
  Calls Tryz.prog 95 #[.slice (some ⟨B,0,none⟩) 2 2] w fun e w'=>e=.returned (.bool (efB i1 s1 f1 n1 g1 m1 && efB i2 s2 f2 n2 g2 m2)) ∧ Below w.heap.size w w':=by
 have HB:=hid hB;have HR1:=hid h1;have HR2:=hid h2
 obtain ⟨p,hp⟩:∃ p,efB i1 s1 f1 n1 g1 m1=p:=⟨_,rfl⟩
 obtain ⟨q,hq⟩:∃ p,efB i2 s2 f2 n2 g2 m2=p:=⟨_,rfl⟩
 have HP:=hid hp;have HQ:=hid hq
 rw [hp,hq]
 clear hB h1 h2 hp hq
 go_enter Tryz.func95,Tryz.ntmps95
 go_wp2
 go_loopw [7] (fun t wr=>∃ k:Nat,k ≤ 2 ∧ t=.int .i64 k ∧ Hid (Below w.heap.size w wr ∧ (0 < k → p=true) ∧ (1 < k → q=true))) (fun t _=>2 - (intOf t).toNat)
 case atStart=>exact ⟨0,by omega,rfl,Below.refl _ _,fun h=>by omega,fun h=>by omega⟩
 case round =>
  obtain ⟨k,hk,rfl,HI⟩:=hrel
  have HBr:=hid HI.out.1
  rcases (show k=0 ∨ k=1 ∨ k=2 by omega) with rfl | rfl | rfl
  ·obtain ⟨z,e0,e1,e2,e3,_,_,_,_⟩:=HB.out.below HBr.out
   have c1:=eForm_c (i:=i1) (s:=s1) ((HR1.out.below HBr.out).alloc (.cells #[.int .i64 i1,.bool s1,.slice x1 n1 c1,.slice y1 m1 d1] 73)) hn1 hm1
   rw [HP.out] at c1
   have C1:=hid c1
   clear c1
   cases p
   ·go_wp2_with fail
    refine C1.out.mono ?_
    rintro e w2 ⟨rfl,hb⟩
    have HW:=hid ((below_alloc HBr.out _).trans (hb.mono (below_alloc HBr.out _).size))
    clear hb
    go_wp2
    go_ret
    exact ⟨rfl,HW.out⟩
   ·go_wp2_with fail
    refine C1.out.mono ?_
    rintro e w2 ⟨rfl,hb⟩
    have HW:=hid ((below_alloc HBr.out _).trans (hb.mono (below_alloc HBr.out _).size))
    clear hb
    go_wp2
    go_roundw
    case rel=>exact ⟨1,by omega,by go_num,HW.out,by simp,by simp⟩
    case measure=>simp [intOf]
  ·obtain ⟨z,_,_,_,_,e0,e1,e2,e3⟩:=HB.out.below HBr.out
   have hpt:=HI.out.2.1 (by omega)
   subst hpt
   have c1:=eForm_c (i:=i2) (s:=s2) ((HR2.out.below HBr.out).alloc (.cells #[.int .i64 i2,.bool s2,.slice x2 n2 c2,.slice y2 m2 d2] 73)) hn2 hm2
   rw [HQ.out] at c1
   have C1:=hid c1
   clear c1
   cases q
   ·go_wp2_with fail
    refine C1.out.mono ?_
    rintro e w2 ⟨rfl,hb⟩
    have HW:=hid ((below_alloc HBr.out _).trans (hb.mono (below_alloc HBr.out _).size))
    clear hb
    go_wp2
    go_ret
    exact ⟨rfl,HW.out⟩
   ·go_wp2_with fail
    refine C1.out.mono ?_
    rintro e w2 ⟨rfl,hb⟩
    have HW:=hid ((below_alloc HBr.out _).trans (hb.mono (below_alloc HBr.out _).size))
    clear hb
    go_wp2
    go_roundw
    case rel=>exact ⟨2,by omega,by go_num,HW.out,by simp,by simp⟩
    case measure=>simp [intOf]
  ·have hpt:=HI.out.2.1 (by omega)
   have hqt:=HI.out.2.2 (by omega)
   subst hpt hqt
   go_wp2
   go_ret
   exact ⟨rfl,HBr.out⟩
def OC (p:Bool) (i:Int) (a:Rat) (j:Int) (b:Rat) (r er:Int):Prop:=p=false ∧ er=3 ∧ r=0 ∨ p=true ∧ er=0 ∧ EOrd r i a j b
set_option maxRecDepth 100000 in
set_option maxHeartbeats 4000000 in
theorem eCmp_g {w:World} {i1:Int} {s1:Bool} {x1:Option Addr} {n1 c1:Nat} {f1:Nat → Int} {y1:Option Addr} {m1 d1:Nat} {g1:Nat → Int} {i2:Int} {s2:Bool} {x2:Option Addr} {n2 c2:Nat} {f2:Nat → Int} {y2:Option Addr} {m2 d2:Nat} {g2:Nat → Int} {qa qb:Rat} {p1 p2:Bool} (h1:Rw w x1 n1 c1 f1 y1 m1 d1 g1) (h2:Rw w x2 n2 c2 f2 y2 m2 d2 g2) (hn1:n1 ≤ 100) (hm1:m1 ≤ 100) (hn2:n2 ≤ 100) (hm2:m2 ≤ 100) (hp1:efB i1 s1 f1 n1 g1 m1=p1) (hp2:efB i2 s2 f2 n2 g2 m2=p2) (hq1:p1=true → En 100 w i1 s1 x1 n1 c1 f1 y1 m1 d1 g1 qa) (hq2:p2=true → En 100 w i2 s2 x2 n2 c2 f2 y2 m2 d2 g2 qb) :
  Calls Tryz.prog 73 #[.agg #[.int .i64 i1,.bool s1,.slice x1 n1 c1,.slice y1 m1 d1],.agg #[.int .i64 i2,.bool s2,.slice x2 n2 c2,.slice y2 m2 d2]] w fun e w'=>∃ r er,e=.returned (.tuple #[.int .i64 r,.int .i64 er]) ∧ Below w.heap.size w w' ∧ Hid (OC (p1 && p2) i1 qa i2 qb r er):=by
 have HP1:=hid hp1;have HP2:=hid hp2
 have k1:=(bx4_at w (.int .i64 i1) (.bool s1) (.slice x1 n1 c1) (.slice y1 m1 d1) 73).alloc (.cells #[.int .i64 i2,.bool s2,.slice x2 n2 c2,.slice y2 m2 d2] 73)
 have k2:=bx4_at (w.alloc (.cells #[.int .i64 i1,.bool s1,.slice x1 n1 c1,.slice y1 m1 d1] 73)) (.int .i64 i2) (.bool s2) (.slice x2 n2 c2) (.slice y2 m2 d2) 73
 rw [size_alloc1] at k2
 have k3:=below_alloc (below_alloc (Below.refl w.heap.size w) (.cells #[.int .i64 i1,.bool s1,.slice x1 n1 c1,.slice y1 m1 d1] 73)) (.cells #[.int .i64 i2,.bool s2,.slice x2 n2 c2,.slice y2 m2 d2] 73)
 have HQ1:=hid (fun h=>(hq1 h).below k3);have HQ2:=hid (fun h=>(hq2 h).below k3);have HR1:=hid (h1.below k3);have HR2:=hid (h2.below k3)
 clear hp1 hp2 hq1 hq2 h1 h2
 go_enter Tryz.func73,Tryz.ntmps73
 go_upto_region 1 with fail
 generalize (w.alloc (.cells #[.int .i64 i1,.bool s1,.slice x1 n1 c1,.slice y1 m1 d1] 73)).alloc (.cells #[.int .i64 i2,.bool s2,.slice x2 n2 c2,.slice y2 m2 d2] 73)=w1 at *
 have HW:=hid k3;have BA:=hid k1;have BB:=hid k2
 clear k1 k2 k3
 obtain ⟨za,a0,a1,a2,a3⟩:=BA.out
 obtain ⟨zb,b0,b1,b2,b3⟩:=BB.out
 go_wp2_with fail
 have cf:=fun (t:TypeId)=>allForm2_c (li2_at w1 (.int .i64 i1) (.bool s1) (.slice x1 n1 c1) (.slice y1 m1 d1) (.int .i64 i2) (.bool s2) (.slice x2 n2 c2) (.slice y2 m2 d2) t) (HR1.out.alloc _) (HR2.out.alloc _) (by omega) (by omega) (by omega) (by omega)
 rw [HP1.out,HP2.out] at cf
 refine (cf _).mono ?_
 rintro e w2 ⟨rfl,hb⟩
 have HB1:Hid (Below w1.heap.size w1 w2):=(below_alloc (Below.refl _ _) _).trans (hb.mono (by simp))
 have HB:=hid (HW.out.trans (HB1.out.mono HW.out.size))
 clear hb cf za a0 a1 a2 a3 zb b0 b1 b2 b3
 obtain ⟨pp,hp⟩:∃ pp,(p1 && p2)=pp:=⟨_,rfl⟩
 have HPP:=hid hp
 rw [hp]
 cases pp
 ·clear hp
  go_wp2
  go_ret2
  exact ⟨0,3,rfl,HB.out,.inl ⟨HPP.out,rfl,rfl⟩⟩
 have hpp:p1=true ∧ p2=true:=by simpa using hp
 have E1:=hid ((HQ1.out hpp.1).below HB1.out);have E2:=hid ((HQ2.out hpp.2).below HB1.out)
 clear hp hpp
 obtain ⟨za,a0,a1,a2,a3⟩:=BA.out.below HB1.out
 obtain ⟨zb,b0,b1,b2,b3⟩:=BB.out.below HB1.out
 by_cases hz:i1=0 ∧ i2=0
 ·obtain ⟨rfl,rfl⟩:=hz
  go_wp2_with fail
  refine (rCmp_n E1.out.rn E2.out.rn (by omega)).mono ?_
  rintro e w3 ⟨r,rfl,hb,hr⟩
  have HB3:=hid (HB.out.trans (hb.mono HB.out.size));have HRr:=hid hr
  clear hb hr
  go_wp2
  go_ret2
  refine ⟨r,0,rfl,HB3.out,.inr ⟨HPP.out,rfl,?_⟩⟩
  rcases HRr.out with ⟨j1,j2⟩ | ⟨j1,j2⟩ | ⟨j1,j2⟩
  ·exact .inl ⟨j1,.inr ⟨rfl,j2⟩⟩
  ·exact .inr (.inl ⟨j1,rfl,j2⟩)
  ·exact .inr (.inr ⟨j1,.inr ⟨rfl,j2⟩⟩)
 ·have hcase:(i1 != 0)=true ∨ (i1 != 0)=false ∧ (i2 != 0)=true:=by
   by_cases h:i1=0
   ·right;subst h;exact ⟨by simp,by simp;intro h;exact hz ⟨rfl,h⟩⟩
   ·left;simp;exact h
  have HEq:Hid (i1=i2 → qa=qb):=by
   intro h
   have j1:=E1.out.inf;have j2:=E2.out.inf
   rcases j1 with j1 | j1
   ·exact absurd ⟨j1,by omega⟩ hz
   ·rcases j2 with j2 | j2
    ·exact absurd ⟨by omega,j2⟩ hz
    ·rw [j1.2,j2.2]
  clear hz
  rcases hcase with hc | ⟨hc,hc2⟩
  all_goals
   go_wp2_with fail
   refine compare_c.mono ?_
   rintro e w3 ⟨r,rfl,rfl,hr⟩
   have HRr:=hid hr
   clear hr
   go_wp2
   go_ret2
   refine ⟨r,0,rfl,HB.out,.inr ⟨HPP.out,rfl,?_⟩⟩
   rcases HRr.out with ⟨j1,j2⟩ | ⟨j1,j2⟩ | ⟨j1,j2⟩
   ·exact .inl ⟨j1,.inl j2⟩
   ·exact .inr (.inl ⟨j1,j2,HEq.out j2⟩)
   ·exact .inr (.inr ⟨j1,.inl j2⟩)
def nq (t:Nm):Rat:=mkRat (wv t.s t.f t.n) (wv false t.g t.m).toNat
theorem Rn.nq {L w q} {t:Nm} (h:Rn L w t.s t.x t.n t.c t.f t.y t.m t.d t.g q):nq t=q:=by
 unfold Go.Proofs.YtgmllfcngnfpkaaGreat.nq
 rw [h.num.val,h.den.val,Int.toNat_natCast,Rat.mkRat_self]
def abvB (a b:Ex):Bool:=decide (b.i < a.i) || (decide (a.i=b.i) && decide (nq b.v < nq a.v))
theorem NmS.en {w:World} {e:Ex} (h:NmS w e.v) (hf:exF e=true) (hn:e.v.n ≤ 100) (hm:e.v.m ≤ 100):En 100 w e.i e.v.s e.v.x e.v.n e.v.c e.v.f e.v.y e.v.m e.v.d e.v.g (nq e.v):=by
 obtain ⟨q,hq⟩:=h.1.en hf hn hm
 rw [hq.rn.nq];exact hq
theorem eord_abv {r:Int} {a b:Ex} (h:EOrd r a.i (nq a.v) b.i (nq b.v)):decide (r > 0)=abvB a b:=by
 unfold abvB
 rcases h with ⟨rfl,h⟩ | ⟨rfl,h1,h2⟩ | ⟨rfl,h⟩
 ·rcases h with h | ⟨h1,h2⟩
  ·have e1:¬ b.i < a.i:=by omega
   have e2:¬ a.i=b.i:=by omega
   simp [e1,e2]
  ·have e1:¬ b.i < a.i:=by omega
   have e2:¬ nq b.v < nq a.v:=Rat.not_lt.2 (Rat.le_of_lt h2)
   simp [e1,e2]
 ·have e1:¬ b.i < a.i:=by omega
  have e2:¬ nq b.v < nq a.v:=by rw [h2];exact Rat.lt_irrefl
  simp [e1,e2]
 ·rcases h with h | ⟨h1,h2⟩
  ·simp [h]
  ·simp [h1,h2]
set_option maxRecDepth 100000 in
set_option maxHeartbeats 2000000 in
theorem above_c {w:World} {a b:Ex} (ha:NmS w a.v) (hb:NmS w b.v) (fa:exF a=true) (fb:exF b=true) (la:a.v.n ≤ 100 ∧ a.v.m ≤ 100) (lb:b.v.n ≤ 100 ∧ b.v.m ≤ 100) :
  Calls Tryz.prog 35 #[a.val,b.val] w fun r w'=>r=.returned (.bool (abvB a b)) ∧ Below w.heap.size w w':=by
 have C:=hid (fun w' (hw:Below w.heap.size w w')=>eCmp_g (w:=w') (i1:=a.i) (s1:=a.v.s) (i2:=b.i) (s2:=b.v.s) (qa:=nq a.v) (qb:=nq b.v) (p1:=true) (p2:=true) (ha.below hw).1 (hb.below hw).1 la.1 la.2 lb.1 lb.2 fa fb (fun _=>(ha.below hw).en fa la.1 la.2) (fun _=>(hb.below hw).en fb lb.1 lb.2))
 have HO:=hid (fun (r er:Int) (h:OC (true && true) a.i (nq a.v) b.i (nq b.v) r er)=>(show decide (r > 0)=abvB a b from by
  rcases h with ⟨h,_⟩ | ⟨_,_,h⟩
  ·cases h
  ·exact eord_abv h))
 obtain ⟨t,ht⟩:∃ t,abvB a b=t:=⟨_,rfl⟩
 rw [ht] at HO ⊢
 generalize nq a.v=qa at *
 generalize nq b.v=qb at *
 clear ha hb fa fb la lb ht
 obtain ⟨i,⟨s,x,n,c,f,y,m,d,g⟩⟩:=a
 obtain ⟨j,⟨s2,x2,n2,c2,f2,y2,m2,d2,g2⟩⟩:=b
 replace C:Hid (∀ w' (hw:Below w.heap.size w w'),Calls Tryz.prog 73 #[.agg #[.int .i64 i,.bool s,.slice x n c,.slice y m d],.agg #[.int .i64 j,.bool s2,.slice x2 n2 c2,.slice y2 m2 d2]] w' fun e w2=>∃ r er,e=.returned (.tuple #[.int .i64 r,.int .i64 er]) ∧ Below w'.heap.size w' w2 ∧ Hid (OC (true && true) i qa j qb r er)):=C
 replace HO:Hid (∀ (r er:Int),OC (true && true) i qa j qb r er → decide (r > 0)=t):=HO
 show Calls Tryz.prog 35 #[.agg #[.int .i64 i,.bool s,.slice x n c,.slice y m d],.agg #[.int .i64 j,.bool s2,.slice x2 n2 c2,.slice y2 m2 d2]] w _
 go_enter Tryz.func35,Tryz.ntmps35
 go_wp2_with fail
 have HB0:=hid (below_alloc (below_alloc (Below.refl w.heap.size w) (.cells #[.int .i64 i,.bool s,.slice x n c,.slice y m d] 73)) (.cells #[.int .i64 j,.bool s2,.slice x2 n2 c2,.slice y2 m2 d2] 73))
 refine (C.out _ HB0.out).mono ?_
 rintro e w1 ⟨r,er,rfl,hb1,HOC⟩
 have HB1:=hid (HB0.out.trans (hb1.mono HB0.out.size))
 have HR:=hid (HO.out r er HOC.out)
 clear hb1 HB0 HO HOC C
 go_wp2
 go_ret
 refine ⟨?_,HB1.out⟩
 rw [← HR.out];rfl
theorem Tryz.infoInt:(Tryz.prog.info? 3).map (fun i=>(i.zero,i.size,i.bytes))=some (some (.int .i64 0),1,8):=by kernel_rfl
theorem onei (s:Int):∀ u ∈ (#[Value.int .i64 s]:Array Value).toList,u.oneCell'=true:=by
 intro u hu;simp at hu;subst hu;rfl
theorem noti (s:Int):∀ u ∈ (#[Value.int .i64 s]:Array Value).toList,∀ q,u ≠ .int .u64 q:=by
 intro u hu q;simp at hu;subst hu;simp
theorem nzi:NoU (Value.int .i64 0).cells:=nou_list (l:=[Value.int .i64 0]) (noti 0)
def Il (w:World) (ao:Option Addr) (l:List Int):Prop:=∀ j v,l[j]?=some v → ∃ b o,ao=some ⟨b,o,none⟩ ∧ w.cell? ⟨b,o + j,none⟩=some (.int .i64 v)
theorem Il.below {w w' ao l} (h:Il w ao l) (hb:Below w.heap.size w w'):Il w' ao l:=fun j v e=>by
 obtain ⟨b,o,e1,h1⟩:=h j v e
 exact ⟨b,o,e1,kCb hb h1⟩
def ils (l:List Int):List Value:=l.map (Value.int .i64)
theorem rowg_il {e:TypeId} {base:Nat} {w:World} {ao:Option Addr} {cap:Nat} {l:List Int} (h:RowG e 1 base w (.slice ao l.length cap) l.length (ils l)):Il w ao l:=fun j v hj=>by
 have hlt:j < l.length:=(List.getElem?_eq_some_iff.1 hj).1
 rcases h.2 with ⟨hv,h0⟩ | ⟨g,cap',cur,hv,_⟩
 ·omega
 ·cases hv
  refine ⟨g,0,rfl,?_⟩
  rw [Nat.zero_add]
  exact h.cells (by simp [ils,hj])
def crl (B:Nat → Bool):Nat → List Int
 | 0=>[]
 | i + 1=>crl B i ++ (if B i then [(i:Int)] else [])
theorem crl_len (B:Nat → Bool):∀ i,(crl B i).length ≤ i
 | 0=>Nat.le_refl _
 | i + 1=>by
  have:=crl_len B i
  unfold crl
  rw [List.length_append]
  split <;> simp <;> omega
theorem crl_yes {B:Nat → Bool} {i:Nat} (h:B i=true):crl B (i + 1)=crl B i ++ [(i:Int)]:=by simp [crl,h]
theorem crl_no {B:Nat → Bool} {i:Nat} (h:B i=false):crl B (i + 1)=crl B i:=by simp [crl,h]
def ccB (C:Nat → Lc) (j:Nat):Bool:=abvB (C j).lo (C j).hi
def rcB (R:Nat → Lr) (j:Nat):Bool:=abvB (R j).lo (R j).hi
structure MoB (M:Mo):Prop where
 c:∀ j,j < M.ck → ((M.C j).lo.v.n ≤ 100 ∧ (M.C j).lo.v.m ≤ 100) ∧ (M.C j).hi.v.n ≤ 100 ∧ (M.C j).hi.v.m ≤ 100
 r:∀ j,j < M.rk → ((M.R j).lo.v.n ≤ 100 ∧ (M.R j).lo.v.m ≤ 100) ∧ (M.R j).hi.v.n ≤ 100 ∧ (M.R j).hi.v.m ≤ 100
theorem clsB_at {C:Nat → Lc}:∀ {r i:Nat},clsB C r i=true → ∀ j,i ≤ j → j < i + r → nfB (C j).cost=true ∧ abB (C j).lo (C j).hi=true
 | 0,i,_,j,h1,h2=>by omega
 | r + 1,i,h,j,h1,h2=>by
  simp only [clsB,Bool.and_eq_true] at h
  by_cases e:j=i
  ·subst e;exact ⟨h.1,h.2.1⟩
  ·exact clsB_at h.2.2 j (by omega) (by omega)
theorem rlsB_at {R:Nat → Lr}:∀ {r i:Nat},rlsB R r i=true → ∀ j,i ≤ j → j < i + r → abB (R j).lo (R j).hi=true ∧ tfB (R j).tk (R j).col (R j).T=true
 | 0,i,_,j,h1,h2=>by omega
 | r + 1,i,h,j,h1,h2=>by
  simp only [rlsB,Bool.and_eq_true] at h
  by_cases e:j=i
  ·subst e;exact ⟨h.1,h.2.1⟩
  ·exact rlsB_at h.2.2 j (by omega) (by omega)
theorem abB_ok {a b:Ex} (h:abB a b=true):exF a=true ∧ exF b=true ∧ a.i ≠ 1 ∧ b.i ≠ -1:=by
 simp only [abB,Bool.and_eq_true,decide_eq_true_eq] at h
 exact ⟨h.1,h.2.1,h.2.2.1,h.2.2.2⟩
def CrAns (w w':World) (e:Ending) (M:Mo):Prop :=
 (chkE M ≠ 0 ∧ e=.returned (.tuple #[.slice none 0 0,.slice none 0 0,.int .i64 (chkE M)]) ∧ Below w.heap.size w w') ∨
 (chkE M=0 ∧ ∃ xa xc ya yc,e=.returned (.tuple #[.slice xa (crl (ccB M.C) M.ck).length xc,.slice ya (crl (rcB M.R) M.rk).length yc,.int .i64 0]) ∧ Below w.heap.size w w' ∧ Il w' xa (crl (ccB M.C) M.ck) ∧ Il w' ya (crl (rcB M.R) M.rk))
set_option maxRecDepth 100000 in
set_option maxHeartbeats 4000000 in
theorem crossed_c {w:World} {M:Mo} (h:MoW w M) (hm:M.ck ≤ 64 → M.rk ≤ 64 → MoB M):Calls Tryz.prog 11 #[M.val] w fun r w'=>CrAns w w' r M:=by
 have CC:=hid (fun w' (hw:Below w.heap.size w w')=>check_w (w:=w') (h.below hw))
 obtain ⟨e,he⟩:∃ e,chkE M=e:=⟨_,rfl⟩
 rw [he] at CC
 by_cases h0:e=0
 case neg =>
  have HA:Hid (∀ w',Below w.heap.size w w' → CrAns w w' (.returned (.tuple #[.slice none 0 0,.slice none 0 0,.int .i64 e])) M):=fun w' hw=>.inl ⟨by rw [he];exact h0,by rw [he],hw⟩
  have hne:(e != 0)=true:=by simpa using h0
  clear he h hm
  obtain ⟨⟨s,x,n,c,f,y,m,d,g⟩,ca,ck,cc,C,ra,rk,rc,R⟩:=M
  replace CC:Hid (∀ w',Below w.heap.size w w' → Calls Tryz.prog 14 #[.agg #[.bool s,.slice x n c,.slice y m d,.slice ca ck cc,.slice ra rk rc]] w' fun e' w2=>e'=.returned (.int .i64 e) ∧ Below w'.heap.size w' w2):=CC
  show Calls Tryz.prog 11 #[.agg #[.bool s,.slice x n c,.slice y m d,.slice ca ck cc,.slice ra rk rc]] w _
  go_enter Tryz.func11,Tryz.ntmps11
  go_wp2_with fail
  have HB:=hid (below_alloc (Below.refl w.heap.size w) (.cells #[.bool s,.slice x n c,.slice y m d,.slice ca ck cc,.slice ra rk rc] 28))
  refine (CC.out _ HB.out).mono ?_
  rintro r w1 ⟨rfl,hb1⟩
  have HB1:=hid (HB.out.trans (hb1.mono HB.out.size))
  clear hb1 HB CC
  go_wp2
  go_ret3
  exact HA.out _ HB1.out
 subst h0
 obtain ⟨l1,l2,hF,_⟩:=chkE_ok he
 obtain ⟨ho,hC,hR,hck,hrk⟩:=h l1 l2
 obtain ⟨hmc,hmr⟩:=hm l1 l2
 simp only [moF,Bool.and_eq_true] at hF
 have HFC:=hid (show ∀ j,j < M.ck → abB (M.C j).lo (M.C j).hi=true from fun j hj=>(clsB_at hF.2.1 j (by omega) (by omega)).2)
 have HFR:=hid (show ∀ j,j < M.rk → abB (M.R j).lo (M.R j).hi=true from fun j hj=>(rlsB_at hF.2.2 j (by omega) (by omega)).1)
 have HA:Hid (∀ w' xa xc ya yc,Below w.heap.size w w' → Il w' xa (crl (ccB M.C) M.ck) → Il w' ya (crl (rcB M.R) M.rk) → CrAns w w' (.returned (.tuple #[.slice xa (crl (ccB M.C) M.ck).length xc,.slice ya (crl (rcB M.R) M.rk).length yc,.int .i64 0])) M):=fun w' xa xc ya yc hw h1 h2=>.inr ⟨he,xa,xc,ya,yc,rfl,hw,h1,h2⟩
 generalize hP:(fun e w'=>CrAns w w' e M)=P
 have HA2:Hid (∀ w' xa xc ya yc,Below w.heap.size w w' → Il w' xa (crl (ccB M.C) M.ck) → Il w' ya (crl (rcB M.R) M.rk) → P (.returned (.tuple #[.slice xa (crl (ccB M.C) M.ck).length xc,.slice ya (crl (rcB M.R) M.rk).length yc,.int .i64 0])) w'):=by
  subst hP;exact HA
 clear he h hm ho hF HA hP
 obtain ⟨⟨s,x,n,c,f,y,m,d,g⟩,ca,ck,cc,C,ra,rk,rc,R⟩:=M
 replace l1:ck ≤ 64:=l1
 replace l2:rk ≤ 64:=l2
 have HC:Hid (Cls w ca ck C):=hC
 have HRL:Hid (Rls w ra rk R):=hR
 replace HFC:Hid (∀ j,j < ck → abB (C j).lo (C j).hi=true):=HFC
 replace HFR:Hid (∀ j,j < rk → abB (R j).lo (R j).hi=true):=HFR
 have HMC:Hid (∀ j,j < ck → ((C j).lo.v.n ≤ 100 ∧ (C j).lo.v.m ≤ 100) ∧ (C j).hi.v.n ≤ 100 ∧ (C j).hi.v.m ≤ 100):=hmc
 have HMR:Hid (∀ j,j < rk → ((R j).lo.v.n ≤ 100 ∧ (R j).lo.v.m ≤ 100) ∧ (R j).hi.v.n ≤ 100 ∧ (R j).hi.v.m ≤ 100):=hmr
 replace HA2:Hid (∀ w' xa xc ya yc,Below w.heap.size w w' → Il w' xa (crl (ccB C) ck) → Il w' ya (crl (rcB R) rk) → P (.returned (.tuple #[.slice xa (crl (ccB C) ck).length xc,.slice ya (crl (rcB R) rk).length yc,.int .i64 0])) w'):=HA2
 replace CC:Hid (∀ w',Below w.heap.size w w' → Calls Tryz.prog 14 #[.agg #[.bool s,.slice x n c,.slice y m d,.slice ca ck cc,.slice ra rk rc]] w' fun e w2=>e=.returned (.int .i64 0) ∧ Below w'.heap.size w' w2):=CC
 clear hC hR hck hrk hmc hmr
 show Calls Tryz.prog 11 #[.agg #[.bool s,.slice x n c,.slice y m d,.slice ca ck cc,.slice ra rk rc]] w _
 go_enter Tryz.func11,Tryz.ntmps11
 go_wp2_with fail
 have HB:=hid (below_alloc (Below.refl w.heap.size w) (.cells #[.bool s,.slice x n c,.slice y m d,.slice ca ck cc,.slice ra rk rc] 28))
 refine (CC.out _ HB.out).mono ?_
 rintro r w1 ⟨rfl,hb1⟩
 have k3:=kCb hb1 (a:=⟨w.heap.size,3,none⟩) (v:=.slice ca ck cc) (by simp [go_sem])
 have HK4:=hid (kCb hb1 (a:=⟨w.heap.size,4,none⟩) (v:=.slice ra rk rc) (by simp [go_sem]))
 have HB1:=hid (HB.out.trans (hb1.mono HB.out.size))
 clear hb1 HB CC
 go_wp2_with fail
 go_loopw [6,20] (fun ov t wr=>∃ (i:Nat),i ≤ ck ∧ t=.int .i64 i ∧ Hid (Below w1.heap.size w1 wr) ∧ Hid (RowG 3 1 w1.heap.size wr ov (crl (ccB C) i).length (ils (crl (ccB C) i)))) (fun _ t _=>ck - (intOf t).toNat)
 case atStart=>exact ⟨0,by omega,rfl,Below.refl _ _,rowG_nil _ _ _ _⟩
 case round =>
  obtain ⟨i,hi,rfl,HB,HRow⟩:=hrel
  by_cases hlt:i < ck
  ·obtain ⟨b,o,rfl,hc,hn⟩:=(HC.out.below (HB1.out.trans (HB.out.mono HB1.out.size))) i hlt
   obtain ⟨t1,ht1⟩:∃ t,ccB C i=t:=⟨_,rfl⟩
   obtain ⟨fa,fb,_,_⟩:=abB_ok (HFC.out i hlt)
   have CA:=hid (fun w' (hw:Below wr.heap.size wr w')=>above_c (w:=w') (hn.lo.below hw) (hn.hi.below hw) fa fb (HMC.out i hlt).1 (HMC.out i hlt).2)
   rw [show abvB (C i).lo (C i).hi=t1 from ht1] at CA
   have hln:=crl_len (ccB C) i
   obtain ⟨⟨z,⟨s0,x0,n0,c0,f0,y0,m0,d0,g0⟩,⟨i1,⟨s1,x1,n1,c1,f1,y1,m1,d1,g1⟩⟩,⟨i2,⟨s2,x2,n2,c2,f2,y2,m2,d2,g2⟩⟩⟩,hCi⟩:∃ t,C i=t:=⟨_,rfl⟩
   rw [hCi] at hc CA
   replace CA:Hid (∀ w' (hw:Below wr.heap.size wr w'),Calls Tryz.prog 35 #[.agg #[.int .i64 i1,.bool s1,.slice x1 n1 c1,.slice y1 m1 d1],.agg #[.int .i64 i2,.bool s2,.slice x2 n2 c2,.slice y2 m2 d2]] w' fun r w2=>r=.returned (.bool t1) ∧ Below w'.heap.size w' w2):=CA
   have q0:wr.cell? ⟨b,o + i * 12,none⟩=some (.string z):=hc 0 _ rfl
   have q1:wr.cell? ⟨b,o + i * 12 + 1,none⟩=some (.bool s0):=hc 1 _ rfl
   have q2:wr.cell? ⟨b,o + i * 12 + 2,none⟩=some (.slice x0 n0 c0):=hc 2 _ rfl
   have q3:wr.cell? ⟨b,o + i * 12 + 3,none⟩=some (.slice y0 m0 d0):=hc 3 _ rfl
   have q4:wr.cell? ⟨b,o + i * 12 + 4,none⟩=some (.int .i64 i1):=hc 4 _ rfl
   have q5:wr.cell? ⟨b,o + i * 12 + 5,none⟩=some (.bool s1):=hc 5 _ rfl
   have q6:wr.cell? ⟨b,o + i * 12 + 6,none⟩=some (.slice x1 n1 c1):=hc 6 _ rfl
   have q7:wr.cell? ⟨b,o + i * 12 + 7,none⟩=some (.slice y1 m1 d1):=hc 7 _ rfl
   have q8:wr.cell? ⟨b,o + i * 12 + 8,none⟩=some (.int .i64 i2):=hc 8 _ rfl
   have q9:wr.cell? ⟨b,o + i * 12 + 9,none⟩=some (.bool s2):=hc 9 _ rfl
   have q10:wr.cell? ⟨b,o + i * 12 + 10,none⟩=some (.slice x2 n2 c2):=hc 10 _ rfl
   have q11:wr.cell? ⟨b,o + i * 12 + 11,none⟩=some (.slice y2 m2 d2):=hc 11 _ rfl
   have HT1:=hid ht1
   have i1':((i:Nat):Int) < ((ck:Nat):Int):=by omega
   clear hCi hc hn fa fb ht1
   go_wp2_with fail
   have HB2:=hid (below_alloc (Below.refl wr.heap.size wr) (.cells #[.string z,.bool s0,.slice x0 n0 c0,.slice y0 m0 d0,.int .i64 i1,.bool s1,.slice x1 n1 c1,.slice y1 m1 d1,.int .i64 i2,.bool s2,.slice x2 n2 c2,.slice y2 m2 d2] 77))
   refine (CA.out _ HB2.out).mono ?_
   rintro r w6 ⟨rfl,hb2⟩
   have HB3:=HB2.out.trans (hb2.mono HB2.out.size)
   have HRow5:=hid (HRow.out.below HB3);have HB5':=hid (HB.out.trans (HB3.mono HB.out.size))
   clear hb2 HB2 HB3 CA HB HRow q0 q1 q2 q3 q4 q5 q6 q7 q8 q9 q10 q11
   cases t1
   ·go_wp2
    go_roundw
    case rel=>exact ⟨i + 1,by omega,by go_num,HB5'.out,by show RowG _ _ _ _ _ _ _;rw [crl_no HT1.out];exact HRow5.out⟩
    case measure=>simp [intOf];omega
   ·have hsz:=HB5'.out.size
    go_wp2_with (at_builtin;go_must (refine wpList_append_one w6 rfl (.tmp 30) (.tmp 32) 31 rfl w1.heap.size 3 8 1 (.int .i64 0) Tryz.underlying31 Tryz.infoInt rfl (by decide) nzi u6 (crl (ccB C) i).length (ils (crl (ccB C) i)) rfl HRow5.out #[.int .i64 (i:Int)] rfl rfl (onei _) (noti _) ?p1 (by decide) hsz ?_))
    case p1=>omega
    intro g8 cap8 w8 hr8 hk8 hb8 hg8
    have HB8:=hid (hb8 w1 HB5'.out (Nat.le_refl _))
    have HR8:Hid (RowG 3 1 w1.heap.size w8 (.slice (some ⟨g8,0,none⟩) ((crl (ccB C) i).length + 1) cap8) (crl (ccB C) (i + 1)).length (ils (crl (ccB C) (i + 1)))):=by
     show RowG _ _ _ _ _ _ _
     rw [crl_yes HT1.out]
     simpa [ils] using hr8
    clear hr8 hk8 hb8 hg8 HRow5 HB5' hsz
    go_wp2
    go_roundw
    case rel=>exact ⟨i + 1,by omega,by go_num,HB8.out,HR8.out⟩
    case measure=>simp [intOf];omega
  ·have e1:i=ck:=by omega
   have i2:¬ (((i:Nat):Int) < ((ck:Nat):Int)):=by omega
   rw [e1] at HRow
   obtain ⟨xa,xc,rfl⟩:=HRow.out.slice
   have k4:=kCb HB.out HK4.out
   have HB5:=hid (HB1.out.trans (HB.out.mono HB1.out.size))
   have HSX:=hid (rowg_il HRow.out)
   clear e1 HB HC HK4 HB1 HRow k3
   generalize wr=wa at *
   go_wp2_with fail
   go_loopw [7,38] (fun ov t wr=>∃ (i:Nat),i ≤ rk ∧ t=.int .i64 i ∧ Hid (Below wa.heap.size wa wr) ∧ Hid (RowG 3 1 wa.heap.size wr ov (crl (rcB R) i).length (ils (crl (rcB R) i)))) (fun _ t _=>rk - (intOf t).toNat)
   case atStart=>exact ⟨0,by omega,rfl,Below.refl _ _,rowG_nil _ _ _ _⟩
   case round =>
    obtain ⟨i,hi,rfl,HB,HRow⟩:=hrel
    by_cases hlt:i < rk
    ·obtain ⟨b,o,rfl,hc,hn⟩:=(HRL.out.below (HB5.out.trans (HB.out.mono HB5.out.size))) i hlt
     obtain ⟨t1,ht1⟩:∃ t,rcB R i=t:=⟨_,rfl⟩
     obtain ⟨fa,fb,_,_⟩:=abB_ok (HFR.out i hlt)
     have CA:=hid (fun w' (hw:Below wr.heap.size wr w')=>above_c (w:=w') (hn.lo.below hw) (hn.hi.below hw) fa fb (HMR.out i hlt).1 (HMR.out i hlt).2)
     rw [show abvB (R i).lo (R i).hi=t1 from ht1] at CA
     have hln:=crl_len (rcB R) i
     obtain ⟨⟨z,⟨i1,⟨s1,x1,n1,c1,f1,y1,m1,d1,g1⟩⟩,⟨i2,⟨s2,x2,n2,c2,f2,y2,m2,d2,g2⟩⟩,ta,tk,tc,tcol,tt⟩,hCi⟩:∃ t,R i=t:=⟨_,rfl⟩
     rw [hCi] at hc CA
     replace CA:Hid (∀ w' (hw:Below wr.heap.size wr w'),Calls Tryz.prog 35 #[.agg #[.int .i64 i1,.bool s1,.slice x1 n1 c1,.slice y1 m1 d1],.agg #[.int .i64 i2,.bool s2,.slice x2 n2 c2,.slice y2 m2 d2]] w' fun r w2=>r=.returned (.bool t1) ∧ Below w'.heap.size w' w2):=CA
     have q0:wr.cell? ⟨b,o + i * 10,none⟩=some (.string z):=hc 0 _ rfl
     have q1:wr.cell? ⟨b,o + i * 10 + 1,none⟩=some (.int .i64 i1):=hc 1 _ rfl
     have q2:wr.cell? ⟨b,o + i * 10 + 2,none⟩=some (.bool s1):=hc 2 _ rfl
     have q3:wr.cell? ⟨b,o + i * 10 + 3,none⟩=some (.slice x1 n1 c1):=hc 3 _ rfl
     have q4:wr.cell? ⟨b,o + i * 10 + 4,none⟩=some (.slice y1 m1 d1):=hc 4 _ rfl
     have q5:wr.cell? ⟨b,o + i * 10 + 5,none⟩=some (.int .i64 i2):=hc 5 _ rfl
     have q6:wr.cell? ⟨b,o + i * 10 + 6,none⟩=some (.bool s2):=hc 6 _ rfl
     have q7:wr.cell? ⟨b,o + i * 10 + 7,none⟩=some (.slice x2 n2 c2):=hc 7 _ rfl
     have q8:wr.cell? ⟨b,o + i * 10 + 8,none⟩=some (.slice y2 m2 d2):=hc 8 _ rfl
     have q9:wr.cell? ⟨b,o + i * 10 + 9,none⟩=some (.slice ta tk tc):=hc 9 _ rfl
     have HT1:=hid ht1
     have i1':((i:Nat):Int) < ((rk:Nat):Int):=by omega
     clear hCi hc hn fa fb ht1
     go_wp2_with fail
     have HB2:=hid (below_alloc (Below.refl wr.heap.size wr) (.cells #[.string z,.int .i64 i1,.bool s1,.slice x1 n1 c1,.slice y1 m1 d1,.int .i64 i2,.bool s2,.slice x2 n2 c2,.slice y2 m2 d2,.slice ta tk tc] 75))
     refine (CA.out _ HB2.out).mono ?_
     rintro r w6 ⟨rfl,hb2⟩
     have HB3:=HB2.out.trans (hb2.mono HB2.out.size)
     have HRow5:=hid (HRow.out.below HB3);have HB5':=hid (HB.out.trans (HB3.mono HB.out.size))
     clear hb2 HB2 HB3 CA HB HRow q0 q1 q2 q3 q4 q5 q6 q7 q8 q9
     cases t1
     ·go_wp2
      go_roundw
      case rel=>exact ⟨i + 1,by omega,by go_num,HB5'.out,by show RowG _ _ _ _ _ _ _;rw [crl_no HT1.out];exact HRow5.out⟩
      case measure=>simp [intOf];omega
     ·have hsz:=HB5'.out.size
      go_wp2_with (at_builtin;go_must (refine wpList_append_one w6 rfl (.tmp 48) (.tmp 50) 31 rfl wa.heap.size 3 8 1 (.int .i64 0) Tryz.underlying31 Tryz.infoInt rfl (by decide) nzi u7 (crl (rcB R) i).length (ils (crl (rcB R) i)) rfl HRow5.out #[.int .i64 (i:Int)] rfl rfl (onei _) (noti _) ?p1 (by decide) hsz ?_))
      case p1=>omega
      intro g8 cap8 w8 hr8 hk8 hb8 hg8
      have HB8:=hid (hb8 wa HB5'.out (Nat.le_refl _))
      have HR8:Hid (RowG 3 1 wa.heap.size w8 (.slice (some ⟨g8,0,none⟩) ((crl (rcB R) i).length + 1) cap8) (crl (rcB R) (i + 1)).length (ils (crl (rcB R) (i + 1)))):=by
       show RowG _ _ _ _ _ _ _
       rw [crl_yes HT1.out]
       simpa [ils] using hr8
      clear hr8 hk8 hb8 hg8 HRow5 HB5' hsz
      go_wp2
      go_roundw
      case rel=>exact ⟨i + 1,by omega,by go_num,HB8.out,HR8.out⟩
      case measure=>simp [intOf];omega
    ·have e1:i=rk:=by omega
     have i2:¬ (((i:Nat):Int) < ((rk:Nat):Int)):=by omega
     rw [e1] at HRow
     obtain ⟨ya,yc,rfl⟩:=HRow.out.slice
     have HB6:=hid (HB5.out.trans (HB.out.mono HB5.out.size))
     have HSY:=hid (rowg_il HRow.out)
     have HSX2:=hid (HSX.out.below HB.out)
     clear e1 HB HRow HSX
     go_wp2
     go_ret3
     exact HA2.out _ _ _ _ _ HB6.out HSX2.out HSY.out
def eqs (f g:Nat → Int):Nat → Nat → Bool
 | 0,_=>true
 | r + 1,i=>decide (f i=g i) && eqs f g r (i + 1)
def eqlB (n m:Nat) (f g:Nat → Int):Bool:=decide (n=m) && eqs f g n 0
def sqB (a b:Nm):Bool:=decide (a.s=b.s) && (eqlB a.n b.n a.f b.f && eqlB a.m b.m a.g b.g)
def sxB (a b:Ex):Bool:=decide (a.i=b.i) && sqB a.v b.v
set_option maxRecDepth 100000 in
set_option maxHeartbeats 2000000 in
theorem equalU_c {w:World} {x y:Option Addr} {n m c d:Nat} {f g:Nat → Int} (hx:Rd .u64 w x n f) (hy:Rd .u64 w y m g) (hn:n ≤ 1048576) (hm:m ≤ 1048576) :
  Calls Tryz.prog 90 #[.slice x n c,.slice y m d] w fun e w'=>e=.returned (.bool (eqlB n m f g)) ∧ Below w.heap.size w w':=by
 have HX:=hid hx;have HY:=hid hy
 clear hx hy
 by_cases hnm:n=m
 case neg =>
  have HE:=hid (show eqlB n m f g=false from by simp [eqlB,hnm])
  have e1:((n:Int) != (m:Int))=true:=by simp;omega
  clear hnm
  go_enter Tryz.func90,Tryz.ntmps90
  go_wp2
  go_ret
  refine ⟨?_,Below.refl _ _⟩
  rw [HE.out];rfl
 subst hnm
 have HE:=hid (show eqlB n n f g=eqs f g n 0 from by simp [eqlB])
 have e1:((n:Int) != (n:Int))=false:=by simp
 go_enter Tryz.func90,Tryz.ntmps90
 go_wp2_with fail
 go_loopw [13] (fun t wr=>∃ (i:Nat),i ≤ n ∧ t=.int .i64 i ∧ Hid (Below w.heap.size w wr) ∧ Hid (eqlB n n f g=eqs f g (n - i) i)) (fun t _=>n - (intOf t).toNat)
 case atStart=>exact ⟨0,by omega,rfl,Below.refl _ _,HE.out⟩
 case round =>
  obtain ⟨i,hi,rfl,HB,HI⟩:=hrel
  by_cases hlt:i < n
  ·obtain ⟨b,o,rfl,hc⟩:=(HX.out.below HB.out (Nat.le_refl _)) i hlt
   obtain ⟨b2,o2,rfl,hc2⟩:=(HY.out.below HB.out (Nat.le_refl _)) i hlt
   obtain ⟨r,hr⟩:∃ r,n - i=r + 1:=⟨n - i - 1,by omega⟩
   have hT:eqlB n n f g=(decide (f i=g i) && eqs f g r (i + 1)):=by rw [HI.out,hr];rfl
   have hr2:n - (i + 1)=r:=by omega
   obtain ⟨u,hu⟩:∃ u,f i=u:=⟨_,rfl⟩
   obtain ⟨v,hv⟩:∃ v,g i=v:=⟨_,rfl⟩
   rw [hu,hv] at hT
   rw [hu] at hc
   rw [hv] at hc2
   have HT:=hid hT;have HR:=hid hr2
   have i1:((i:Nat):Int) < ((n:Nat):Int):=by omega
   clear hT hr2 hr hu hv
   by_cases huv:u=v
   ·subst huv
    have e2:(u != u)=false:=by simp
    go_upto_region 6 with fail
    have k1:wr.drew.cell? ⟨b,o + i,none⟩=some (.int .u64 u):=hc
    have k2:wr.drew.cell? ⟨b2,o2 + i,none⟩=some (.int .u64 u):=hc2
    go_quiet (fail)
    go_wp2
    go_roundw
    case rel =>
     refine ⟨i + 1,by omega,by go_num,(below_drewN HB.out _),?_⟩
     show _=_
     rw [HT.out,HR.out];simp
    case measure=>simp [intOf];omega
   ·have e2:(u != v)=true:=by simp [huv]
    go_upto_region 6 with fail
    have k1:wr.drew.cell? ⟨b,o + i,none⟩=some (.int .u64 u):=hc
    have k2:wr.drew.cell? ⟨b2,o2 + i,none⟩=some (.int .u64 v):=hc2
    go_quiet (fail)
    go_wp2
    go_ret
    refine ⟨?_,(below_drewN HB.out _)⟩
    rw [HT.out];simp [huv]
  ·have e1:i=n:=by omega
   have HE:Hid (eqlB n n f g=true):=by show _=_;rw [HI.out,e1,Nat.sub_self];rfl
   have i2:¬ (((i:Nat):Int) < ((n:Nat):Int)):=by omega
   clear e1 HI
   go_wp2
   go_ret
   refine ⟨?_,HB.out⟩
   rw [HE.out];rfl
set_option maxRecDepth 100000 in
set_option maxHeartbeats 2000000 in
theorem sameRat_c {w:World} {a b:Nm} (ha:NmS w a) (hb:NmS w b):Calls Tryz.prog 59 #[a.val,b.val] w fun r w'=>r=.returned (.bool (sqB a b)) ∧ Below w.heap.size w w':=by
 have C1:=hid (fun w' (hw:Below w.heap.size w w')=>equalU_c (w:=w') (c:=a.c) (d:=b.c) (ha.1.rx.below hw (Nat.le_refl _)) (hb.1.rx.below hw (Nat.le_refl _)) (by have:=ha.2.1;omega) (by have:=hb.2.1;omega))
 have C2:=hid (fun w' (hw:Below w.heap.size w w')=>equalU_c (w:=w') (c:=a.d) (d:=b.d) (ha.1.ry.below hw (Nat.le_refl _)) (hb.1.ry.below hw (Nat.le_refl _)) (by have:=ha.2.2;omega) (by have:=hb.2.2;omega))
 obtain ⟨t1,ht1⟩:∃ t,eqlB a.n b.n a.f b.f=t:=⟨_,rfl⟩
 obtain ⟨t2,ht2⟩:∃ t,eqlB a.m b.m a.g b.g=t:=⟨_,rfl⟩
 obtain ⟨ans,hans⟩:∃ t,sqB a b=t:=⟨_,rfl⟩
 have hA:ans=(decide (a.s=b.s) && (t1 && t2)):=by rw [← hans,← ht1,← ht2];rfl
 rw [ht1] at C1
 rw [ht2] at C2
 rw [hans]
 clear hans ht1 ht2 ha hb
 obtain ⟨s,x,n,c,f,y,m,d,g⟩:=a
 obtain ⟨s2,x2,n2,c2,f2,y2,m2,d2,g2⟩:=b
 have HA:Hid (ans=(decide (s=s2) && (t1 && t2))):=hA
 replace C1:Hid (∀ w' (hw:Below w.heap.size w w'),Calls Tryz.prog 90 #[.slice x n c,.slice x2 n2 c2] w' fun e w2=>e=.returned (.bool t1) ∧ Below w'.heap.size w' w2):=C1
 replace C2:Hid (∀ w' (hw:Below w.heap.size w w'),Calls Tryz.prog 90 #[.slice y m d,.slice y2 m2 d2] w' fun e w2=>e=.returned (.bool t2) ∧ Below w'.heap.size w' w2):=C2
 clear hA
 show Calls Tryz.prog 59 #[.agg #[.bool s,.slice x n c,.slice y m d],.agg #[.bool s2,.slice x2 n2 c2,.slice y2 m2 d2]] w _
 have HB0:=hid (below_alloc (below_alloc (Below.refl w.heap.size w) (.cells #[.bool s,.slice x n c,.slice y m d] 24)) (.cells #[.bool s2,.slice x2 n2 c2,.slice y2 m2 d2] 24))
 by_cases hs:s=s2
 case neg =>
  have HS:=hid (show decide (s=s2)=false from by simp [hs])
  have e1:(s == s2)=false:=by simpa using hs
  go_enter Tryz.func59,Tryz.ntmps59
  go_wp2
  go_ret
  refine ⟨?_,HB0.out⟩
  rw [HA.out,HS.out];rfl
 subst hs
 have HS:=hid (show decide (s=s)=true from by simp)
 have e1:(s == s)=true:=by simp
 go_enter Tryz.func59,Tryz.ntmps59
 go_wp2_with fail
 refine (C1.out _ HB0.out).mono ?_
 rintro r w1 ⟨rfl,hb1⟩
 have k1:=kCb hb1 (a:=⟨w.heap.size,2,none⟩) (v:=.slice y m d) (by simp [go_sem])
 have k2:=kCb hb1 (a:=⟨w.heap.size + 1,2,none⟩) (v:=.slice y2 m2 d2) (by simp [go_sem])
 have HB1:=hid (HB0.out.trans (hb1.mono HB0.out.size))
 clear hb1 HB0 C1
 cases t1
 ·go_wp2
  go_ret
  refine ⟨?_,HB1.out⟩
  rw [HA.out,HS.out];rfl
 ·go_wp2_with fail
  refine (C2.out _ HB1.out).mono ?_
  rintro r w2 ⟨rfl,hb2⟩
  have HB2:=hid (HB1.out.trans (hb2.mono HB1.out.size))
  clear hb2 HB1 C2
  go_wp2
  go_ret
  refine ⟨?_,HB2.out⟩
  rw [HA.out,HS.out]
  cases t2 <;> rfl
set_option maxRecDepth 100000 in
set_option maxHeartbeats 2000000 in
theorem sameExt_c {w:World} {a b:Ex} (ha:NmS w a.v) (hb:NmS w b.v):Calls Tryz.prog 91 #[a.val,b.val] w fun r w'=>r=.returned (.bool (sxB a b)) ∧ Below w.heap.size w w':=by
 have C1:=hid (fun w' (hw:Below w.heap.size w w')=>sameRat_c (w:=w') (ha.below hw) (hb.below hw))
 obtain ⟨t1,ht1⟩:∃ t,sqB a.v b.v=t:=⟨_,rfl⟩
 obtain ⟨ans,hans⟩:∃ t,sxB a b=t:=⟨_,rfl⟩
 have hA:ans=(decide (a.i=b.i) && t1):=by rw [← hans,← ht1];rfl
 rw [ht1] at C1
 rw [hans]
 clear hans ht1 ha hb
 obtain ⟨i,⟨s,x,n,c,f,y,m,d,g⟩⟩:=a
 obtain ⟨vi,⟨vs,vx,vn,vc,vf',vy,vm,vd,vg⟩⟩:=b
 have HA:Hid (ans=(decide (i=vi) && t1)):=hA
 replace C1:Hid (∀ w' (hw:Below w.heap.size w w'),Calls Tryz.prog 59 #[.agg #[.bool s,.slice x n c,.slice y m d],.agg #[.bool vs,.slice vx vn vc,.slice vy vm vd]] w' fun e w2=>e=.returned (.bool t1) ∧ Below w'.heap.size w' w2):=C1
 clear hA
 show Calls Tryz.prog 91 #[.agg #[.int .i64 i,.bool s,.slice x n c,.slice y m d],.agg #[.int .i64 vi,.bool vs,.slice vx vn vc,.slice vy vm vd]] w _
 have HB0:=hid (below_alloc (below_alloc (Below.refl w.heap.size w) (.cells #[.int .i64 i,.bool s,.slice x n c,.slice y m d] 73)) (.cells #[.int .i64 vi,.bool vs,.slice vx vn vc,.slice vy vm vd] 73))
 by_cases hs:i=vi
 case neg =>
  have HS:=hid (show decide (i=vi)=false from by simp [hs])
  have e1:(i == vi)=false:=by simpa using hs
  go_enter Tryz.func91,Tryz.ntmps91
  go_wp2
  go_ret
  refine ⟨?_,HB0.out⟩
  rw [HA.out,HS.out];rfl
 subst hs
 have HS:=hid (show decide (i=i)=true from by simp)
 have e1:(i == i)=true:=by simp
 go_enter Tryz.func91,Tryz.ntmps91
 go_wp2_with fail
 refine (C1.out _ HB0.out).mono ?_
 rintro r w1 ⟨rfl,hb1⟩
 have HB1:=hid (HB0.out.trans (hb1.mono HB0.out.size))
 clear hb1 C1
 cases t1
 ·go_wp2
  go_ret
  refine ⟨?_,HB1.out⟩
  rw [HA.out,HS.out];rfl
 ·go_wp2
  go_ret
  refine ⟨?_,HB1.out⟩
  rw [HA.out,HS.out];rfl
set_option maxRecDepth 100000 in
set_option maxHeartbeats 2000000 in
theorem sameTerm_c {w:World} {a b:Ex} (ha:NmS w a.v) (hb:NmS w b.v):Calls Tryz.prog 93 #[a.val,b.val] w fun r w'=>r=.returned (.bool (sxB a b)) ∧ Below w.heap.size w w':=by
 have C1:=hid (fun w' (hw:Below w.heap.size w w')=>sameRat_c (w:=w') (ha.below hw) (hb.below hw))
 obtain ⟨t1,ht1⟩:∃ t,sqB a.v b.v=t:=⟨_,rfl⟩
 obtain ⟨ans,hans⟩:∃ t,sxB a b=t:=⟨_,rfl⟩
 have hA:ans=(decide (a.i=b.i) && t1):=by rw [← hans,← ht1];rfl
 rw [ht1] at C1
 rw [hans]
 clear hans ht1 ha hb
 obtain ⟨i,⟨s,x,n,c,f,y,m,d,g⟩⟩:=a
 obtain ⟨vi,⟨vs,vx,vn,vc,vf',vy,vm,vd,vg⟩⟩:=b
 have HA:Hid (ans=(decide (i=vi) && t1)):=hA
 replace C1:Hid (∀ w' (hw:Below w.heap.size w w'),Calls Tryz.prog 59 #[.agg #[.bool s,.slice x n c,.slice y m d],.agg #[.bool vs,.slice vx vn vc,.slice vy vm vd]] w' fun e w2=>e=.returned (.bool t1) ∧ Below w'.heap.size w' w2):=C1
 clear hA
 show Calls Tryz.prog 93 #[.agg #[.int .i64 i,.bool s,.slice x n c,.slice y m d],.agg #[.int .i64 vi,.bool vs,.slice vx vn vc,.slice vy vm vd]] w _
 have HB0:=hid (below_alloc (below_alloc (Below.refl w.heap.size w) (.cells #[.int .i64 i,.bool s,.slice x n c,.slice y m d] 62)) (.cells #[.int .i64 vi,.bool vs,.slice vx vn vc,.slice vy vm vd] 62))
 by_cases hs:i=vi
 case neg =>
  have HS:=hid (show decide (i=vi)=false from by simp [hs])
  have e1:(i == vi)=false:=by simpa using hs
  go_enter Tryz.func93,Tryz.ntmps93
  go_wp2
  go_ret
  refine ⟨?_,HB0.out⟩
  rw [HA.out,HS.out];rfl
 subst hs
 have HS:=hid (show decide (i=i)=true from by simp)
 have e1:(i == i)=true:=by simp
 go_enter Tryz.func93,Tryz.ntmps93
 go_wp2_with fail
 refine (C1.out _ HB0.out).mono ?_
 rintro r w1 ⟨rfl,hb1⟩
 have HB1:=hid (HB0.out.trans (hb1.mono HB0.out.size))
 clear hb1 C1
 cases t1
 ·go_wp2
  go_ret
  refine ⟨?_,HB1.out⟩
  rw [HA.out,HS.out];rfl
 ·go_wp2
  go_ret
  refine ⟨?_,HB1.out⟩
  rw [HA.out,HS.out];rfl
def scB (a b:Lc):Bool:=decide (a.nm=b.nm) && (sqB a.cost b.cost && (sxB a.lo b.lo && sxB a.hi b.hi))
def Lc.val (c:Lc):Value:=.agg c.vs.toArray
set_option maxRecDepth 100000 in
set_option maxHeartbeats 4000000 in
theorem sameCol_c {w:World} {a b:Lc} (ha:LcR w a) (hb:LcR w b):Calls Tryz.prog 61 #[a.val,b.val] w fun r w'=>r=.returned (.bool (scB a b)) ∧ Below w.heap.size w w':=by
 have C1:=hid (fun w' (hw:Below w.heap.size w w')=>sameRat_c (w:=w') (ha.cost.below hw) (hb.cost.below hw))
 have C2:=hid (fun w' (hw:Below w.heap.size w w')=>sameExt_c (w:=w') (ha.lo.below hw) (hb.lo.below hw))
 have C3:=hid (fun w' (hw:Below w.heap.size w w')=>sameExt_c (w:=w') (ha.hi.below hw) (hb.hi.below hw))
 obtain ⟨t1,ht1⟩:∃ t,sqB a.cost b.cost=t:=⟨_,rfl⟩
 obtain ⟨t2,ht2⟩:∃ t,sxB a.lo b.lo=t:=⟨_,rfl⟩
 obtain ⟨t3,ht3⟩:∃ t,sxB a.hi b.hi=t:=⟨_,rfl⟩
 obtain ⟨ans,hans⟩:∃ t,scB a b=t:=⟨_,rfl⟩
 have hA:ans=(decide (a.nm=b.nm) && (t1 && (t2 && t3))):=by rw [← hans,← ht1,← ht2,← ht3];rfl
 rw [ht1] at C1
 rw [ht2] at C2
 rw [ht3] at C3
 rw [hans]
 clear hans ht1 ht2 ht3 ha hb
 obtain ⟨z,⟨s0,x0,n0,c0,f0,y0,m0,d0,g0⟩,⟨i1,⟨s1,x1,n1,c1,f1,y1,m1,d1,g1⟩⟩,⟨i2,⟨s2,x2,n2,c2,f2,y2,m2,d2,g2⟩⟩⟩:=a
 obtain ⟨vz,⟨vs0,vx0,vn0,vc0,vf0,vy0,vm0,vd0,vg0⟩,⟨vi1,⟨vs1,vx1,vn1,vc1,vf1,vy1,vm1,vd1,vg1⟩⟩,⟨vi2,⟨vs2,vx2,vn2,vc2,vf2,vy2,vm2,vd2,vg2⟩⟩⟩:=b
 have HA:Hid (ans=(decide (z=vz) && (t1 && (t2 && t3)))):=hA
 replace C1:Hid (∀ w' (hw:Below w.heap.size w w'),Calls Tryz.prog 59 #[.agg #[.bool s0,.slice x0 n0 c0,.slice y0 m0 d0],.agg #[.bool vs0,.slice vx0 vn0 vc0,.slice vy0 vm0 vd0]] w' fun e w2=>e=.returned (.bool t1) ∧ Below w'.heap.size w' w2):=C1
 replace C2:Hid (∀ w' (hw:Below w.heap.size w w'),Calls Tryz.prog 91 #[.agg #[.int .i64 i1,.bool s1,.slice x1 n1 c1,.slice y1 m1 d1],.agg #[.int .i64 vi1,.bool vs1,.slice vx1 vn1 vc1,.slice vy1 vm1 vd1]] w' fun e w2=>e=.returned (.bool t2) ∧ Below w'.heap.size w' w2):=C2
 replace C3:Hid (∀ w' (hw:Below w.heap.size w w'),Calls Tryz.prog 91 #[.agg #[.int .i64 i2,.bool s2,.slice x2 n2 c2,.slice y2 m2 d2],.agg #[.int .i64 vi2,.bool vs2,.slice vx2 vn2 vc2,.slice vy2 vm2 vd2]] w' fun e w2=>e=.returned (.bool t3) ∧ Below w'.heap.size w' w2):=C3
 clear hA
 show Calls Tryz.prog 61 #[.agg #[.string z,.bool s0,.slice x0 n0 c0,.slice y0 m0 d0,.int .i64 i1,.bool s1,.slice x1 n1 c1,.slice y1 m1 d1,.int .i64 i2,.bool s2,.slice x2 n2 c2,.slice y2 m2 d2],.agg #[.string vz,.bool vs0,.slice vx0 vn0 vc0,.slice vy0 vm0 vd0,.int .i64 vi1,.bool vs1,.slice vx1 vn1 vc1,.slice vy1 vm1 vd1,.int .i64 vi2,.bool vs2,.slice vx2 vn2 vc2,.slice vy2 vm2 vd2]] w _
 have HB0:=hid (below_alloc (below_alloc (Below.refl w.heap.size w) (.cells #[.string z,.bool s0,.slice x0 n0 c0,.slice y0 m0 d0,.int .i64 i1,.bool s1,.slice x1 n1 c1,.slice y1 m1 d1,.int .i64 i2,.bool s2,.slice x2 n2 c2,.slice y2 m2 d2] 77)) (.cells #[.string vz,.bool vs0,.slice vx0 vn0 vc0,.slice vy0 vm0 vd0,.int .i64 vi1,.bool vs1,.slice vx1 vn1 vc1,.slice vy1 vm1 vd1,.int .i64 vi2,.bool vs2,.slice vx2 vn2 vc2,.slice vy2 vm2 vd2] 77))
 by_cases hs:z=vz
 case neg =>
  have HS:=hid (show decide (z=vz)=false from by simp [hs])
  have e1:=str_ne hs
  go_enter Tryz.func61,Tryz.ntmps61
  go_wp2
  go_ret
  refine ⟨?_,HB0.out⟩
  rw [HA.out,HS.out];rfl
 subst hs
 have HS:=hid (show decide (z=z)=true from by simp)
 have e1:(z.toList == z.toList)=true:=by simp
 go_enter Tryz.func61,Tryz.ntmps61
 go_wp2_with fail
 refine (C1.out _ HB0.out).mono ?_
 rintro r w1 ⟨rfl,hb1⟩
 have p4:=kCb hb1 (a:=⟨w.heap.size,4,none⟩) (v:=.int .i64 i1) (by simp [go_sem])
 have r4:=kCb hb1 (a:=⟨w.heap.size + 1,4,none⟩) (v:=.int .i64 vi1) (by simp [go_sem])
 have p5:=kCb hb1 (a:=⟨w.heap.size,5,none⟩) (v:=.bool s1) (by simp [go_sem])
 have r5:=kCb hb1 (a:=⟨w.heap.size + 1,5,none⟩) (v:=.bool vs1) (by simp [go_sem])
 have p6:=kCb hb1 (a:=⟨w.heap.size,6,none⟩) (v:=.slice x1 n1 c1) (by simp [go_sem])
 have r6:=kCb hb1 (a:=⟨w.heap.size + 1,6,none⟩) (v:=.slice vx1 vn1 vc1) (by simp [go_sem])
 have p7:=kCb hb1 (a:=⟨w.heap.size,7,none⟩) (v:=.slice y1 m1 d1) (by simp [go_sem])
 have r7:=kCb hb1 (a:=⟨w.heap.size + 1,7,none⟩) (v:=.slice vy1 vm1 vd1) (by simp [go_sem])
 have p8:=kCb hb1 (a:=⟨w.heap.size,8,none⟩) (v:=.int .i64 i2) (by simp [go_sem])
 have r8:=kCb hb1 (a:=⟨w.heap.size + 1,8,none⟩) (v:=.int .i64 vi2) (by simp [go_sem])
 have p9:=kCb hb1 (a:=⟨w.heap.size,9,none⟩) (v:=.bool s2) (by simp [go_sem])
 have r9:=kCb hb1 (a:=⟨w.heap.size + 1,9,none⟩) (v:=.bool vs2) (by simp [go_sem])
 have p10:=kCb hb1 (a:=⟨w.heap.size,10,none⟩) (v:=.slice x2 n2 c2) (by simp [go_sem])
 have r10:=kCb hb1 (a:=⟨w.heap.size + 1,10,none⟩) (v:=.slice vx2 vn2 vc2) (by simp [go_sem])
 have p11:=kCb hb1 (a:=⟨w.heap.size,11,none⟩) (v:=.slice y2 m2 d2) (by simp [go_sem])
 have r11:=kCb hb1 (a:=⟨w.heap.size + 1,11,none⟩) (v:=.slice vy2 vm2 vd2) (by simp [go_sem])
 have HB1:=hid (HB0.out.trans (hb1.mono HB0.out.size))
 clear hb1 C1
 cases t1
 ·go_wp2
  go_ret
  refine ⟨?_,HB1.out⟩
  rw [HA.out,HS.out];rfl
 go_wp2_with fail
 refine (C2.out _ HB1.out).mono ?_
 rintro r w2 ⟨rfl,hb2⟩
 replace p8:=kCb hb2 p8;replace r8:=kCb hb2 r8
 replace p9:=kCb hb2 p9;replace r9:=kCb hb2 r9
 replace p10:=kCb hb2 p10;replace r10:=kCb hb2 r10
 replace p11:=kCb hb2 p11;replace r11:=kCb hb2 r11
 have HB2:=hid (HB1.out.trans (hb2.mono HB1.out.size))
 clear hb2 C2
 cases t2
 ·go_wp2
  go_ret
  refine ⟨?_,HB2.out⟩
  rw [HA.out,HS.out];rfl
 go_wp2_with fail
 refine (C3.out _ HB2.out).mono ?_
 rintro r w3 ⟨rfl,hb3⟩
 have HB3:=hid (HB2.out.trans (hb3.mono HB2.out.size))
 clear hb3 C3
 cases t3
 ·go_wp2
  go_ret
  refine ⟨?_,HB3.out⟩
  rw [HA.out,HS.out];rfl
 ·go_wp2
  go_ret
  refine ⟨?_,HB3.out⟩
  rw [HA.out,HS.out];rfl
end Go.Proofs.YtgmllfcngnfpkaaGreat
