/-
 The walks of ext.Copy of any bound, of model.CopyCol and of model.CopyRow (written by makers/f35.py). The walk of model.copied and of model.Copy (written by makers/f36.py). The reference's Same and Sames of lists with the same values. The walk of law07's columns; the same models compare equal (written by makers/f40.py).
-/
import Derived.Test.YtgmllfcngnfpkaaGreatZ9
import Derived.Test.YtgmllfcngnfpkaaGreatZ14
import Derived.Test.YtgmllfcngnfpkaaGreatZ16
import Derived.Test.YtgmllfcngnfpkaaGreatZ6
import Derived.Test.YtgmllfcngnfpkaaGreatZ4
import Derived.BigQuiet
import Derived.Deep.RegionHeld3
namespace Go.Proofs.YtgmllfcngnfpkaaGreat
open Go.RowKit
def stl (B:Nat):Nat → List Value → World → World
 | _,[],w=>w
 | o,v :: vs,w=>stl B (o + 1) vs (w.setCell ⟨B,o,none⟩ v)
theorem stl_at (B:Nat):∀ (vs:List Value) (o:Nat) (w:World),(stl B o vs w).os=w.os ∧ (stl B o vs w).tape=w.tape ∧ (stl B o vs w).output=w.output ∧ (stl B o vs w).heap.size=w.heap.size ∧ ∀ k,k ≠ B → (stl B o vs w).heap[k]?=w.heap[k]?
 | [],o,w=>⟨rfl,rfl,rfl,rfl,fun _ _=>rfl⟩
 | v :: vs,o,w=>by
  obtain ⟨h1,h2,h3,h4,h5⟩:=stl_at B vs (o + 1) (w.setCell ⟨B,o,none⟩ v)
  refine ⟨h1,h2,h3,?_,fun k hk=>?_⟩
  ·show (stl B (o + 1) vs (w.setCell ⟨B,o,none⟩ v)).heap.size=_
   rw [h4];simp [World.setCell]
  ·show (stl B (o + 1) vs (w.setCell ⟨B,o,none⟩ v)).heap[k]?=_
   rw [h5 k hk];exact Below.heap_setCell _ _ _ _ hk
theorem st_new {w w6:World} {B:Nat} {us:List Value} {t:TypeId} (vs:List Value) (h:Bk w6 B us t) (hu:NoU us.toArray) (hb:Below w.heap.size w w6) (hB:w.heap.size ≤ B) :
  Below w.heap.size w (stl B 0 vs w6) ∧ Kp w6 (stl B 0 vs w6) ∧ ∀ k,k ≠ B → (stl B 0 vs w6).heap[k]?=w6.heap[k]?:=by
 obtain ⟨h1,h2,h3,h4,h5⟩:=stl_at B vs 0 w6
 refine ⟨hb.trans ⟨h1,h2,h3,by omega,fun k hk=>h5 k (by omega)⟩,⟨h1,h2,h3,by omega,fun k _=>?_⟩,h5⟩
 by_cases hk:k=B
 ·subst hk;exact .inr ⟨_,t,(0,0),h,hu⟩
 ·exact .inl (h5 k hk)
theorem stl_bk {B:Nat} {t:TypeId}:∀ (vs us:List Value) (o:Nat) (w:World),us.length=o + vs.length → Bk w B us t → Bk (stl B o vs w) B (us.take o ++ vs) t
 | [],us,o,w,hl,h=>by
  rw [List.append_nil,List.take_of_length_le (by simp at hl;omega)];exact h
 | v :: vs,us,o,w,hl,h=>by
  have hl':us.length=o + (vs.length + 1):=hl
  have:=stl_bk vs (us.set o v) (o + 1) (w.setCell ⟨B,o,none⟩ v) (by rw [List.length_set];omega) (h.set o v)
  have e:(us.set o v).take (o + 1) ++ vs=us.take o ++ v :: vs:=by
   rw [List.take_add_one,List.take_set_of_le (Nat.le_refl _),List.getElem?_set_self (by omega),List.append_assoc];rfl
  rw [e] at this
  exact this
theorem Tr.short {w ta tk col T} (h:Tr w ta tk col T) (hl:∀ p,p < tk → (T p).n ≤ 1000 ∧ (T p).m ≤ 1000):Tl w ta tk col T:=fun j hj=>by
 obtain ⟨b,o,e,h1,h2⟩:=h j hj
 have:=hl j hj
 exact ⟨b,o,e,h1,h2,by omega,by omega⟩
theorem Tl.long {w ta tk col T} (h:Tl w ta tk col T):Tr w ta tk col T:=fun j hj=>by
 obtain ⟨b,o,e,h1,h2⟩:=h j hj
 exact ⟨b,o,e,h1,h2.1⟩
theorem TN.kp {t v w w'} (h:TN t v w) (hb:Kp w w'):TN t v w':=by obtain ⟨t',h1,h2,h3⟩:=h;exact ⟨t',h1,h2,h3.kp hb⟩
set_option maxRecDepth 100000 in
set_option maxHeartbeats 4000000 in
theorem eCopy_w {w:World} {e:Ex} (h:NmB w e.v) (hn:e.v.n ≤ 1000) (hm:e.v.m ≤ 1000):Calls Tryz.prog 115 #[e.val] w fun r w'=>∃ v,r=.returned v ∧ Below w.heap.size w w' ∧ TE e v w':=by
 have C1:=hid (fun w' (hw:Below w.heap.size w w')=>rCopy_w (w:=w') (sa:=e.v.s) (h.below hw).1 (Nat.le_trans hn (by decide)) (Nat.le_trans hm (by decide)))
 have HL:=hid h.2
 clear h hn hm
 obtain ⟨i1,⟨s1,x1,n1,c1,f1,y1,m1,d1,g1⟩⟩:=e
 replace C1:Hid (∀ w',Below w.heap.size w w' → Calls Tryz.prog 85 #[.agg #[.bool s1,.slice x1 n1 c1,.slice y1 m1 d1]] w' fun e w2=>∃ z c y d,e=.returned (.agg #[.bool s1,.slice z n1 c,.slice y m1 d]) ∧ Below w'.heap.size w' w2 ∧ Hid (Rw w2 z n1 c f1 y m1 d g1)):=C1
 show Calls Tryz.prog 115 #[.agg #[.int .i64 i1,.bool s1,.slice x1 n1 c1,.slice y1 m1 d1]] w _
 have h3:=below_alloc (below_alloc (Below.refl w.heap.size w) (.cells #[.int .i64 i1,.bool s1,.slice x1 n1 c1,.slice y1 m1 d1] 73)) (.cells #[.int .i64 0,.bool false,.slice none 0 0,.slice none 0 0] 73)
 have B1:=(bk_new w [.int .i64 i1,.bool s1,.slice x1 n1 c1,.slice y1 m1 d1] 73).below (below_alloc (Below.refl _ _) (.cells #[.int .i64 0,.bool false,.slice none 0 0,.slice none 0 0] 73))
 have B2:=bk_new (w.alloc (.cells #[.int .i64 i1,.bool s1,.slice x1 n1 c1,.slice y1 m1 d1] 73)) [.int .i64 0,.bool false,.slice none 0 0,.slice none 0 0] 73
 rw [size_alloc1] at B2
 replace B1:Bk ((w.alloc (.cells #[.int .i64 i1,.bool s1,.slice x1 n1 c1,.slice y1 m1 d1] 73)).alloc (.cells #[.int .i64 0,.bool false,.slice none 0 0,.slice none 0 0] 73)) w.heap.size [.int .i64 i1,.bool s1,.slice x1 n1 c1,.slice y1 m1 d1] 73:=B1
 replace B2:Bk ((w.alloc (.cells #[.int .i64 i1,.bool s1,.slice x1 n1 c1,.slice y1 m1 d1] 73)).alloc (.cells #[.int .i64 0,.bool false,.slice none 0 0,.slice none 0 0] 73)) (w.heap.size + 1) [.int .i64 0,.bool false,.slice none 0 0,.slice none 0 0] 73:=B2
 go_enter Tryz.func115,Tryz.ntmps115
 go_upto_region 1 with fail
 generalize (w.alloc (.cells #[.int .i64 i1,.bool s1,.slice x1 n1 c1,.slice y1 m1 d1] 73)).alloc (.cells #[.int .i64 0,.bool false,.slice none 0 0,.slice none 0 0] 73)=w1 at *
 have hbd:=Below.drew (Below.refl w1.heap.size w1)
 replace B1:=B1.below hbd;replace B2:=B2.below hbd
 have HW:=hid (h3.trans (hbd.mono h3.size))
 clear hbd h3
 have r0:=B1.cell (j:=0) rfl
 have r1:=B1.cell (j:=1) rfl
 have r2:=B1.cell (j:=2) rfl
 have r3:=B1.cell (j:=3) rfl
 refine wp_region_held_drew (S:=(fun w'=>w'.cell? ⟨w.heap.size,0,none⟩=some (.int .i64 i1) ∧ w'.cell? ⟨w.heap.size,1,none⟩=some (.bool s1) ∧ w'.cell? ⟨w.heap.size,2,none⟩=some (.slice x1 n1 c1) ∧ w'.cell? ⟨w.heap.size,3,none⟩=some (.slice y1 m1 d1))) (by kernel_rfl) ?_ (fun hHeld=>?_)
 ·exact ⟨r0,r1,r2,r3⟩
 generalize hwd:w1.drew=wd at *
 clear hwd
 refine wpAnyH_take (i:=0) (v:=?_) rfl (by kernel_rfl) (by kernel_rfl) (by kernel_rfl) (fun _ _ _ h=>h) (Or.inl ⟨by rfl,?_⟩) (by assumption) ?_
 rotate_left
 (focus (intro w0 hSw;(try dsimp only at hSw);go_simp <;> with_reducible rfl))
 simp only [List.getElem_toArray,List.getElem_cons_zero,Act.put,List.setIfInBounds_toArray,List.set_cons_zero,List.set_cons_succ]
 refine wpAnyH_take (i:=1) (v:=?_) rfl (by kernel_rfl) (by kernel_rfl) (by kernel_rfl) (fun _ _ _ h=>h) (Or.inl ⟨by rfl,?_⟩) (by assumption) ?_
 rotate_left
 (focus (intro w0 hSw;(try dsimp only at hSw);go_simp <;> with_reducible rfl))
 simp only [List.getElem_toArray,List.getElem_cons_succ,List.getElem_cons_zero,Act.put,List.setIfInBounds_toArray,List.set_cons_zero,List.set_cons_succ]
 refine wpAnyH_take (i:=2) (v:=?_) rfl (by kernel_rfl) (by kernel_rfl) (by kernel_rfl) (fun _ _ _ h=>h) (Or.inl ⟨by rfl,?_⟩) (by assumption) ?_
 rotate_left
 (focus (intro w0 hSw;(try dsimp only at hSw);go_simp <;> with_reducible rfl))
 simp only [List.getElem_toArray,List.getElem_cons_succ,List.getElem_cons_zero,Act.put,List.setIfInBounds_toArray,List.set_cons_zero,List.set_cons_succ]
 refine wpAnyH_take (i:=3) (v:=?_) rfl (by kernel_rfl) (by kernel_rfl) (by kernel_rfl) (fun _ _ _ h=>h) (Or.inl ⟨by rfl,?_⟩) (by assumption) ?_
 rotate_left
 (focus (intro w0 hSw;(try dsimp only at hSw);go_simp <;> with_reducible rfl))
 simp only [List.getElem_toArray,List.getElem_cons_succ,List.getElem_cons_zero,Act.put,List.setIfInBounds_toArray,List.set_cons_zero,List.set_cons_succ]
 refine wpAnyH_ready (rs:=[4]) (by kernel_rfl) (by simp) ?_
 refine AllReadyH.cons (o:=_) rfl (fun K hK=>?_) ?_
 rotate_left
 exact AllReadyH.nil
 go_simp
 go_at_call 85
 refine (C1.out _ HW.out).mono ?_
 rintro e w2 ⟨z9,c9,y9,d9,rfl,hb2,hq⟩
 replace B1:=B1.below hb2;replace B2:=B2.below hb2
 have HW2:=hid (HW.out.trans (hb2.mono HW.out.size))
 (try go_wp2_with fail)
 refine hK.out _ _ ?_ (fun hH2=>?_)
 ·((try dsimp only);(refine ⟨?_,?_,?_,?_⟩ <;> repeat (with_reducible first | assumption | refine kCb hb2 ?_)))
 clear hK K
 try simp only [Act.put,List.setIfInBounds_toArray,List.set_cons_zero,List.set_cons_succ]
 refine wpAnyH_take (i:=5) (v:=?_) rfl (by kernel_rfl) (by kernel_rfl) (by kernel_rfl) (fun _ _ _ h=>h) (Or.inl ⟨by rfl,?_⟩) (by assumption) ?_
 rotate_left
 (focus (intro w0 hSw;(try dsimp only at hSw);go_simp <;> with_reducible rfl))
 simp only [List.getElem_toArray,List.getElem_cons_succ,List.getElem_cons_zero,Act.put,List.setIfInBounds_toArray,List.set_cons_zero,List.set_cons_succ]
 refine wpAnyH_ready (rs:=[6]) (by kernel_rfl) (by simp) ?_
 refine AllReadyH.cons (o:=_) rfl (fun K hK=>?_) ?_
 rotate_left
 exact AllReadyH.nil
 have k0:=B2.cell (j:=0) rfl
 have k1:=B2.cell (j:=1) rfl
 have k2:=B2.cell (j:=2) rfl
 have k3:=B2.cell (j:=3) rfl
 have ff:=B2.frozen
 go_simp
 obtain ⟨hx1,hx2,hx3⟩:=st_new [.int .i64 i1,.bool s1,.slice z9 n1 c9,.slice y9 m1 d9] B2 (nou_list (fun u hu q=>by simp at hu;rcases hu with rfl | rfl | rfl <;> simp)) HW2.out (Nat.le_succ _)
 have B9:=stl_bk [.int .i64 i1,.bool s1,.slice z9 n1 c9,.slice y9 m1 d9] _ 0 _ rfl B2
 obtain ⟨w9,hw9⟩:∃ x,stl (w.heap.size + 1) 0 [.int .i64 i1,.bool s1,.slice z9 n1 c9,.slice y9 m1 d9] w2=x:=⟨_,rfl⟩
 rw [show ((((w2.setCell ⟨w.heap.size + 1,0,none⟩ (.int .i64 i1)).setCell ⟨w.heap.size + 1,1,none⟩ (.bool s1)).setCell ⟨w.heap.size + 1,2,none⟩ (.slice z9 n1 c9)).setCell ⟨w.heap.size + 1,3,none⟩ (.slice y9 m1 d9))=w9 from hw9]
 rw [hw9] at hx1 hx2 hx3 B9
 replace B9:Bk w9 (w.heap.size + 1) [.int .i64 i1,.bool s1,.slice z9 n1 c9,.slice y9 m1 d9] _:=B9
 have B8:=B1.of (hx3 w.heap.size (by omega))
 have e0:=B8.cell (j:=0) rfl
 have e1:=B8.cell (j:=1) rfl
 have e2:=B8.cell (j:=2) rfl
 have e3:=B8.cell (j:=3) rfl
 clear hw9 ff k0 k1 k2 k3
 refine hK.out _ _ ⟨e0,e1,e2,e3⟩ (fun hH9=>?_)
 clear hK K
 try simp only [Act.put]
 have k0:=B9.cell (j:=0) rfl
 have k1:=B9.cell (j:=1) rfl
 have k2:=B9.cell (j:=2) rfl
 have k3:=B9.cell (j:=3) rfl
 refine wpAnyH_done (by kernel_rfl) ?_ _
 have HX:Hid (Below w.heap.size w w9 ∧ TE ⟨i1,⟨s1,x1,n1,c1,f1,y1,m1,d1,g1⟩⟩ (.agg #[.int .i64 i1,.bool s1,.slice z9 n1 c9,.slice y9 m1 d9]) w9):=⟨hx1,⟨i1,⟨s1,z9,n1,c9,f1,y9,m1,d9,g1⟩⟩,rfl,rfl,⟨rfl,rfl,rfl,rfl,rfl⟩,NmB.kp (t:=⟨s1,z9,n1,c9,f1,y9,m1,d9,g1⟩) ⟨hq.out,HL.out⟩ hx2⟩
 clear hx1 hx2 hx3 hq hb2 hHeld hH2 hH9 C1 HW HW2 B1 B2
 go_wp2
 exact bodyPost_ret (v:=.agg #[.int .i64 i1,.bool s1,.slice z9 n1 c9,.slice y9 m1 d9]) (by simp [results,Tryz.results115,go_sem,k0,k1,k2,k3]) rfl ⟨_,rfl,HX.out⟩
set_option maxRecDepth 100000 in
set_option maxHeartbeats 4000000 in
theorem copyCol_c {w:World} {c:Lc} (h:LcB w c) (hk:((c.cost.n ≤ 1000 ∧ c.cost.m ≤ 1000) ∧ (c.lo.v.n ≤ 1000 ∧ c.lo.v.m ≤ 1000) ∧ c.hi.v.n ≤ 1000 ∧ c.hi.v.m ≤ 1000)):Calls Tryz.prog 87 #[.agg c.vs.toArray] w fun r w'=>∃ v,r=.returned v ∧ Below w.heap.size w w' ∧ TC c v w':=by
 have C0:=hid (fun w' (hw:Below w.heap.size w w')=>rCopy_w (w:=w') (sa:=c.cost.s) (h.cost.below hw).1 (Nat.le_trans hk.1.1 (by decide)) (Nat.le_trans hk.1.2 (by decide)))
 have C1:=hid (fun w' (hw:Below w.heap.size w w')=>eCopy_w (w:=w') (e:=c.lo) (h.lo.below hw) hk.2.1.1 hk.2.1.2)
 have C2:=hid (fun w' (hw:Below w.heap.size w w')=>eCopy_w (w:=w') (e:=c.hi) (h.hi.below hw) hk.2.2.1 hk.2.2.2)
 have HL:=hid h.cost.2
 clear h hk
 obtain ⟨z,⟨s0,x0,n0,c0,f0,y0,m0,d0,g0⟩,⟨i1,⟨s1,x1,n1,c1,f1,y1,m1,d1,g1⟩⟩,⟨i2,⟨s2,x2,n2,c2,f2,y2,m2,d2,g2⟩⟩⟩:=c
 replace C0:Hid (∀ w',Below w.heap.size w w' → Calls Tryz.prog 85 #[.agg #[.bool s0,.slice x0 n0 c0,.slice y0 m0 d0]] w' fun e w2=>∃ z c y d,e=.returned (.agg #[.bool s0,.slice z n0 c,.slice y m0 d]) ∧ Below w'.heap.size w' w2 ∧ Hid (Rw w2 z n0 c f0 y m0 d g0)):=C0
 replace C1:Hid (∀ w',Below w.heap.size w w' → Calls Tryz.prog 115 #[.agg #[.int .i64 i1,.bool s1,.slice x1 n1 c1,.slice y1 m1 d1]] w' fun e w2=>∃ v,e=.returned v ∧ Below w'.heap.size w' w2 ∧ TE ⟨i1,⟨s1,x1,n1,c1,f1,y1,m1,d1,g1⟩⟩ v w2):=C1
 replace C2:Hid (∀ w',Below w.heap.size w w' → Calls Tryz.prog 115 #[.agg #[.int .i64 i2,.bool s2,.slice x2 n2 c2,.slice y2 m2 d2]] w' fun e w2=>∃ v,e=.returned v ∧ Below w'.heap.size w' w2 ∧ TE ⟨i2,⟨s2,x2,n2,c2,f2,y2,m2,d2,g2⟩⟩ v w2):=C2
 show Calls Tryz.prog 87 #[.agg #[.string z,.bool s0,.slice x0 n0 c0,.slice y0 m0 d0,.int .i64 i1,.bool s1,.slice x1 n1 c1,.slice y1 m1 d1,.int .i64 i2,.bool s2,.slice x2 n2 c2,.slice y2 m2 d2]] w _
 have h3:=below_alloc (below_alloc (Below.refl w.heap.size w) (.cells #[.string z,.bool s0,.slice x0 n0 c0,.slice y0 m0 d0,.int .i64 i1,.bool s1,.slice x1 n1 c1,.slice y1 m1 d1,.int .i64 i2,.bool s2,.slice x2 n2 c2,.slice y2 m2 d2] 77)) (.cells #[.string ⟨#[]⟩,.bool false,.slice none 0 0,.slice none 0 0,.int .i64 0,.bool false,.slice none 0 0,.slice none 0 0,.int .i64 0,.bool false,.slice none 0 0,.slice none 0 0] 77)
 have B1:=(bk_new w [.string z,.bool s0,.slice x0 n0 c0,.slice y0 m0 d0,.int .i64 i1,.bool s1,.slice x1 n1 c1,.slice y1 m1 d1,.int .i64 i2,.bool s2,.slice x2 n2 c2,.slice y2 m2 d2] 77).below (below_alloc (Below.refl _ _) (.cells #[.string ⟨#[]⟩,.bool false,.slice none 0 0,.slice none 0 0,.int .i64 0,.bool false,.slice none 0 0,.slice none 0 0,.int .i64 0,.bool false,.slice none 0 0,.slice none 0 0] 77))
 have B2:=bk_new (w.alloc (.cells #[.string z,.bool s0,.slice x0 n0 c0,.slice y0 m0 d0,.int .i64 i1,.bool s1,.slice x1 n1 c1,.slice y1 m1 d1,.int .i64 i2,.bool s2,.slice x2 n2 c2,.slice y2 m2 d2] 77)) [.string ⟨#[]⟩,.bool false,.slice none 0 0,.slice none 0 0,.int .i64 0,.bool false,.slice none 0 0,.slice none 0 0,.int .i64 0,.bool false,.slice none 0 0,.slice none 0 0] 77
 rw [size_alloc1] at B2
 replace B1:Bk ((w.alloc (.cells #[.string z,.bool s0,.slice x0 n0 c0,.slice y0 m0 d0,.int .i64 i1,.bool s1,.slice x1 n1 c1,.slice y1 m1 d1,.int .i64 i2,.bool s2,.slice x2 n2 c2,.slice y2 m2 d2] 77)).alloc (.cells #[.string ⟨#[]⟩,.bool false,.slice none 0 0,.slice none 0 0,.int .i64 0,.bool false,.slice none 0 0,.slice none 0 0,.int .i64 0,.bool false,.slice none 0 0,.slice none 0 0] 77)) w.heap.size [.string z,.bool s0,.slice x0 n0 c0,.slice y0 m0 d0,.int .i64 i1,.bool s1,.slice x1 n1 c1,.slice y1 m1 d1,.int .i64 i2,.bool s2,.slice x2 n2 c2,.slice y2 m2 d2] 77:=B1
 replace B2:Bk ((w.alloc (.cells #[.string z,.bool s0,.slice x0 n0 c0,.slice y0 m0 d0,.int .i64 i1,.bool s1,.slice x1 n1 c1,.slice y1 m1 d1,.int .i64 i2,.bool s2,.slice x2 n2 c2,.slice y2 m2 d2] 77)).alloc (.cells #[.string ⟨#[]⟩,.bool false,.slice none 0 0,.slice none 0 0,.int .i64 0,.bool false,.slice none 0 0,.slice none 0 0,.int .i64 0,.bool false,.slice none 0 0,.slice none 0 0] 77)) (w.heap.size + 1) [.string ⟨#[]⟩,.bool false,.slice none 0 0,.slice none 0 0,.int .i64 0,.bool false,.slice none 0 0,.slice none 0 0,.int .i64 0,.bool false,.slice none 0 0,.slice none 0 0] 77:=B2
 go_enter Tryz.func87,Tryz.ntmps87
 go_upto_region 1 with fail
 generalize (w.alloc (.cells #[.string z,.bool s0,.slice x0 n0 c0,.slice y0 m0 d0,.int .i64 i1,.bool s1,.slice x1 n1 c1,.slice y1 m1 d1,.int .i64 i2,.bool s2,.slice x2 n2 c2,.slice y2 m2 d2] 77)).alloc (.cells #[.string ⟨#[]⟩,.bool false,.slice none 0 0,.slice none 0 0,.int .i64 0,.bool false,.slice none 0 0,.slice none 0 0,.int .i64 0,.bool false,.slice none 0 0,.slice none 0 0] 77)=w1 at *
 have hbd:=Below.drew (Below.refl w1.heap.size w1)
 replace B1:=B1.below hbd;replace B2:=B2.below hbd
 have HW:=hid (h3.trans (hbd.mono h3.size))
 clear hbd h3
 have r0:=B1.cell (j:=0) rfl
 have r1:=B1.cell (j:=1) rfl
 have r2:=B1.cell (j:=2) rfl
 have r3:=B1.cell (j:=3) rfl
 have r4:=B1.cell (j:=4) rfl
 have r5:=B1.cell (j:=5) rfl
 have r6:=B1.cell (j:=6) rfl
 have r7:=B1.cell (j:=7) rfl
 have r8:=B1.cell (j:=8) rfl
 have r9:=B1.cell (j:=9) rfl
 have r10:=B1.cell (j:=10) rfl
 have r11:=B1.cell (j:=11) rfl
 refine wp_region_held_drew (S:=(fun w'=>w'.cell? ⟨w.heap.size,0,none⟩=some (.string z) ∧ w'.cell? ⟨w.heap.size,1,none⟩=some (.bool s0) ∧ w'.cell? ⟨w.heap.size,2,none⟩=some (.slice x0 n0 c0) ∧ w'.cell? ⟨w.heap.size,3,none⟩=some (.slice y0 m0 d0) ∧ w'.cell? ⟨w.heap.size,4,none⟩=some (.int .i64 i1) ∧ w'.cell? ⟨w.heap.size,5,none⟩=some (.bool s1) ∧ w'.cell? ⟨w.heap.size,6,none⟩=some (.slice x1 n1 c1) ∧ w'.cell? ⟨w.heap.size,7,none⟩=some (.slice y1 m1 d1) ∧ w'.cell? ⟨w.heap.size,8,none⟩=some (.int .i64 i2) ∧ w'.cell? ⟨w.heap.size,9,none⟩=some (.bool s2) ∧ w'.cell? ⟨w.heap.size,10,none⟩=some (.slice x2 n2 c2) ∧ w'.cell? ⟨w.heap.size,11,none⟩=some (.slice y2 m2 d2))) (by kernel_rfl) ?_ (fun hHeld=>?_)
 ·exact ⟨r0,r1,r2,r3,r4,r5,r6,r7,r8,r9,r10,r11⟩
 generalize hwd:w1.drew=wd at *
 clear hwd
 refine wpAnyH_take (i:=0) (v:=?_) rfl (by kernel_rfl) (by kernel_rfl) (by kernel_rfl) (fun _ _ _ h=>h) (Or.inl ⟨by rfl,?_⟩) (by assumption) ?_
 rotate_left
 (focus (intro w0 hSw;(try dsimp only at hSw);go_simp <;> with_reducible rfl))
 simp only [List.getElem_toArray,List.getElem_cons_zero,Act.put,List.setIfInBounds_toArray,List.set_cons_zero,List.set_cons_succ]
 refine wpAnyH_take (i:=1) (v:=?_) rfl (by kernel_rfl) (by kernel_rfl) (by kernel_rfl) (fun _ _ _ h=>h) (Or.inl ⟨by rfl,?_⟩) (by assumption) ?_
 rotate_left
 (focus (intro w0 hSw;(try dsimp only at hSw);go_simp <;> with_reducible rfl))
 simp only [List.getElem_toArray,List.getElem_cons_succ,List.getElem_cons_zero,Act.put,List.setIfInBounds_toArray,List.set_cons_zero,List.set_cons_succ]
 refine wpAnyH_take (i:=2) (v:=?_) rfl (by kernel_rfl) (by kernel_rfl) (by kernel_rfl) (fun _ _ _ h=>h) (Or.inl ⟨by rfl,?_⟩) (by assumption) ?_
 rotate_left
 (focus (intro w0 hSw;(try dsimp only at hSw);go_simp <;> with_reducible rfl))
 simp only [List.getElem_toArray,List.getElem_cons_succ,List.getElem_cons_zero,Act.put,List.setIfInBounds_toArray,List.set_cons_zero,List.set_cons_succ]
 refine wpAnyH_take (i:=3) (v:=?_) rfl (by kernel_rfl) (by kernel_rfl) (by kernel_rfl) (fun _ _ _ h=>h) (Or.inl ⟨by rfl,?_⟩) (by assumption) ?_
 rotate_left
 (focus (intro w0 hSw;(try dsimp only at hSw);go_simp <;> with_reducible rfl))
 simp only [List.getElem_toArray,List.getElem_cons_succ,List.getElem_cons_zero,Act.put,List.setIfInBounds_toArray,List.set_cons_zero,List.set_cons_succ]
 refine wpAnyH_take (i:=5) (v:=?_) rfl (by kernel_rfl) (by kernel_rfl) (by kernel_rfl) (fun _ _ _ h=>h) (Or.inl ⟨by rfl,?_⟩) (by assumption) ?_
 rotate_left
 (focus (intro w0 hSw;(try dsimp only at hSw);go_simp <;> with_reducible rfl))
 simp only [List.getElem_toArray,List.getElem_cons_succ,List.getElem_cons_zero,Act.put,List.setIfInBounds_toArray,List.set_cons_zero,List.set_cons_succ]
 refine wpAnyH_take (i:=6) (v:=?_) rfl (by kernel_rfl) (by kernel_rfl) (by kernel_rfl) (fun _ _ _ h=>h) (Or.inl ⟨by rfl,?_⟩) (by assumption) ?_
 rotate_left
 (focus (intro w0 hSw;(try dsimp only at hSw);go_simp <;> with_reducible rfl))
 simp only [List.getElem_toArray,List.getElem_cons_succ,List.getElem_cons_zero,Act.put,List.setIfInBounds_toArray,List.set_cons_zero,List.set_cons_succ]
 refine wpAnyH_take (i:=8) (v:=?_) rfl (by kernel_rfl) (by kernel_rfl) (by kernel_rfl) (fun _ _ _ h=>h) (Or.inl ⟨by rfl,?_⟩) (by assumption) ?_
 rotate_left
 (focus (intro w0 hSw;(try dsimp only at hSw);go_simp <;> with_reducible rfl))
 simp only [List.getElem_toArray,List.getElem_cons_succ,List.getElem_cons_zero,Act.put,List.setIfInBounds_toArray,List.set_cons_zero,List.set_cons_succ]
 refine wpAnyH_take (i:=9) (v:=?_) rfl (by kernel_rfl) (by kernel_rfl) (by kernel_rfl) (fun _ _ _ h=>h) (Or.inl ⟨by rfl,?_⟩) (by assumption) ?_
 rotate_left
 (focus (intro w0 hSw;(try dsimp only at hSw);go_simp <;> with_reducible rfl))
 simp only [List.getElem_toArray,List.getElem_cons_succ,List.getElem_cons_zero,Act.put,List.setIfInBounds_toArray,List.set_cons_zero,List.set_cons_succ]
 refine wpAnyH_ready (rs:=[4]) (by kernel_rfl) (by simp) ?_
 refine AllReadyH.cons (o:=_) rfl (fun K hK=>?_) ?_
 rotate_left
 exact AllReadyH.nil
 go_simp
 go_at_call 85
 refine (C0.out _ HW.out).mono ?_
 rintro e w2 ⟨z9,c9,y9,d9,rfl,hb2,hq⟩
 replace B1:=B1.below hb2;replace B2:=B2.below hb2
 have HW2:=hid (HW.out.trans (hb2.mono HW.out.size))
 (try go_wp2_with fail)
 refine hK.out _ _ ?_ (fun hH2=>?_)
 ·((try dsimp only);(refine ⟨?_,?_,?_,?_,?_,?_,?_,?_,?_,?_,?_,?_⟩ <;> repeat (with_reducible first | assumption | refine kCb hb2 ?_)))
 clear hK K
 try simp only [Act.put,List.setIfInBounds_toArray,List.set_cons_zero,List.set_cons_succ]
 refine wpAnyH_ready (rs:=[7]) (by kernel_rfl) (by simp) ?_
 refine AllReadyH.cons (o:=_) rfl (fun K hK=>?_) ?_
 rotate_left
 exact AllReadyH.nil
 go_simp
 go_at_call 115
 refine (C1.out _ HW2.out).mono ?_
 rintro e w3 ⟨v4,hr,hb3,e',he,hi4,hs4,hv4⟩
 obtain ⟨i4,⟨s4,x4,n4,c4,f4,y4,m4,d4,g4⟩⟩:=e'
 replace hi4:i1=i4:=hi4.symm
 subst hi4
 replace he:v4=.agg #[.int .i64 i1,.bool s4,.slice x4 n4 c4,.slice y4 m4 d4]:=he
 subst he
 subst hr
 replace B1:=B1.below hb3;replace B2:=B2.below hb3
 have HW3:=hid (HW2.out.trans (hb3.mono HW2.out.size))
 (try go_wp2_with fail)
 refine hK.out _ _ ?_ (fun hH3=>?_)
 ·((try dsimp only);(refine ⟨?_,?_,?_,?_,?_,?_,?_,?_,?_,?_,?_,?_⟩ <;> repeat (with_reducible first | assumption | refine kCb hb3 ?_ | refine kCb hb2 ?_)))
 clear hK K
 try simp only [Act.put,List.setIfInBounds_toArray,List.set_cons_zero,List.set_cons_succ]
 refine wpAnyH_ready (rs:=[10]) (by kernel_rfl) (by simp) ?_
 refine AllReadyH.cons (o:=_) rfl (fun K hK=>?_) ?_
 rotate_left
 exact AllReadyH.nil
 go_simp
 go_at_call 115
 refine (C2.out _ HW3.out).mono ?_
 rintro e w4 ⟨v5,hr,hb4,e',he,hi5,hs5,hv5⟩
 obtain ⟨i5,⟨s5,x5,n5,c5,f5,y5,m5,d5,g5⟩⟩:=e'
 replace hi5:i2=i5:=hi5.symm
 subst hi5
 replace he:v5=.agg #[.int .i64 i2,.bool s5,.slice x5 n5 c5,.slice y5 m5 d5]:=he
 subst he
 subst hr
 replace B1:=B1.below hb4;replace B2:=B2.below hb4
 have HW4:=hid (HW3.out.trans (hb4.mono HW3.out.size))
 (try go_wp2_with fail)
 refine hK.out _ _ ?_ (fun hH4=>?_)
 ·((try dsimp only);(refine ⟨?_,?_,?_,?_,?_,?_,?_,?_,?_,?_,?_,?_⟩ <;> repeat (with_reducible first | assumption | refine kCb hb4 ?_ | refine kCb hb3 ?_ | refine kCb hb2 ?_)))
 clear hK K
 try simp only [Act.put,List.setIfInBounds_toArray,List.set_cons_zero,List.set_cons_succ]
 refine wpAnyH_take (i:=11) (v:=?_) rfl (by kernel_rfl) (by kernel_rfl) (by kernel_rfl) (fun _ _ _ h=>h) (Or.inl ⟨by rfl,?_⟩) (by assumption) ?_
 rotate_left
 (focus (intro w0 hSw;(try dsimp only at hSw);go_simp <;> with_reducible rfl))
 simp only [List.getElem_toArray,List.getElem_cons_succ,List.getElem_cons_zero,Act.put,List.setIfInBounds_toArray,List.set_cons_zero,List.set_cons_succ]
 refine wpAnyH_ready (rs:=[12]) (by kernel_rfl) (by simp) ?_
 refine AllReadyH.cons (o:=_) rfl (fun K hK=>?_) ?_
 rotate_left
 exact AllReadyH.nil
 have k0:=B2.cell (j:=0) rfl
 have k1:=B2.cell (j:=1) rfl
 have k2:=B2.cell (j:=2) rfl
 have k3:=B2.cell (j:=3) rfl
 have k4:=B2.cell (j:=4) rfl
 have k5:=B2.cell (j:=5) rfl
 have k6:=B2.cell (j:=6) rfl
 have k7:=B2.cell (j:=7) rfl
 have k8:=B2.cell (j:=8) rfl
 have k9:=B2.cell (j:=9) rfl
 have k10:=B2.cell (j:=10) rfl
 have k11:=B2.cell (j:=11) rfl
 have ff:=B2.frozen
 go_simp
 obtain ⟨hx1,hx2,hx3⟩:=st_new [.string z,.bool s0,.slice z9 n0 c9,.slice y9 m0 d9,.int .i64 i1,.bool s4,.slice x4 n4 c4,.slice y4 m4 d4,.int .i64 i2,.bool s5,.slice x5 n5 c5,.slice y5 m5 d5] B2 nzC HW4.out (Nat.le_succ _)
 have B9:=stl_bk [.string z,.bool s0,.slice z9 n0 c9,.slice y9 m0 d9,.int .i64 i1,.bool s4,.slice x4 n4 c4,.slice y4 m4 d4,.int .i64 i2,.bool s5,.slice x5 n5 c5,.slice y5 m5 d5] _ 0 _ rfl B2
 obtain ⟨w9,hw9⟩:∃ x,stl (w.heap.size + 1) 0 [.string z,.bool s0,.slice z9 n0 c9,.slice y9 m0 d9,.int .i64 i1,.bool s4,.slice x4 n4 c4,.slice y4 m4 d4,.int .i64 i2,.bool s5,.slice x5 n5 c5,.slice y5 m5 d5] w4=x:=⟨_,rfl⟩
 rw [show ((((((((((((w4.setCell ⟨w.heap.size + 1,0,none⟩ (.string z)).setCell ⟨w.heap.size + 1,1,none⟩ (.bool s0)).setCell ⟨w.heap.size + 1,2,none⟩ (.slice z9 n0 c9)).setCell ⟨w.heap.size + 1,3,none⟩ (.slice y9 m0 d9)).setCell ⟨w.heap.size + 1,4,none⟩ (.int .i64 i1)).setCell ⟨w.heap.size + 1,5,none⟩ (.bool s4)).setCell ⟨w.heap.size + 1,6,none⟩ (.slice x4 n4 c4)).setCell ⟨w.heap.size + 1,7,none⟩ (.slice y4 m4 d4)).setCell ⟨w.heap.size + 1,8,none⟩ (.int .i64 i2)).setCell ⟨w.heap.size + 1,9,none⟩ (.bool s5)).setCell ⟨w.heap.size + 1,10,none⟩ (.slice x5 n5 c5)).setCell ⟨w.heap.size + 1,11,none⟩ (.slice y5 m5 d5))=w9 from hw9]
 rw [hw9] at hx1 hx2 hx3 B9
 replace B9:Bk w9 (w.heap.size + 1) [.string z,.bool s0,.slice z9 n0 c9,.slice y9 m0 d9,.int .i64 i1,.bool s4,.slice x4 n4 c4,.slice y4 m4 d4,.int .i64 i2,.bool s5,.slice x5 n5 c5,.slice y5 m5 d5] _:=B9
 have B8:=B1.of (hx3 w.heap.size (by omega))
 have e0:=B8.cell (j:=0) rfl
 have e1:=B8.cell (j:=1) rfl
 have e2:=B8.cell (j:=2) rfl
 have e3:=B8.cell (j:=3) rfl
 have e4:=B8.cell (j:=4) rfl
 have e5:=B8.cell (j:=5) rfl
 have e6:=B8.cell (j:=6) rfl
 have e7:=B8.cell (j:=7) rfl
 have e8:=B8.cell (j:=8) rfl
 have e9:=B8.cell (j:=9) rfl
 have e10:=B8.cell (j:=10) rfl
 have e11:=B8.cell (j:=11) rfl
 clear hw9 ff k0 k1 k2 k3 k4 k5 k6 k7 k8 k9 k10 k11
 refine hK.out _ _ ⟨e0,e1,e2,e3,e4,e5,e6,e7,e8,e9,e10,e11⟩ (fun hH9=>?_)
 clear hK K
 try simp only [Act.put]
 have k0:=B9.cell (j:=0) rfl
 have k1:=B9.cell (j:=1) rfl
 have k2:=B9.cell (j:=2) rfl
 have k3:=B9.cell (j:=3) rfl
 have k4:=B9.cell (j:=4) rfl
 have k5:=B9.cell (j:=5) rfl
 have k6:=B9.cell (j:=6) rfl
 have k7:=B9.cell (j:=7) rfl
 have k8:=B9.cell (j:=8) rfl
 have k9:=B9.cell (j:=9) rfl
 have k10:=B9.cell (j:=10) rfl
 have k11:=B9.cell (j:=11) rfl
 refine wpAnyH_done (by kernel_rfl) ?_ _
 have HX:Hid (Below w.heap.size w w9 ∧ TC ⟨z,⟨s0,x0,n0,c0,f0,y0,m0,d0,g0⟩,⟨i1,⟨s1,x1,n1,c1,f1,y1,m1,d1,g1⟩⟩,⟨i2,⟨s2,x2,n2,c2,f2,y2,m2,d2,g2⟩⟩⟩ (.agg #[.string z,.bool s0,.slice z9 n0 c9,.slice y9 m0 d9,.int .i64 i1,.bool s4,.slice x4 n4 c4,.slice y4 m4 d4,.int .i64 i2,.bool s5,.slice x5 n5 c5,.slice y5 m5 d5]) w9):=⟨hx1,⟨z,⟨s0,z9,n0,c9,f0,y9,m0,d9,g0⟩,⟨i1,⟨s4,x4,n4,c4,f4,y4,m4,d4,g4⟩⟩,⟨i2,⟨s5,x5,n5,c5,f5,y5,m5,d5,g5⟩⟩⟩,rfl,⟨rfl,⟨rfl,rfl,rfl,rfl,rfl⟩,rfl,hs4,rfl,hs5⟩,NmB.kp (t:=⟨s0,z9,n0,c9,f0,y9,m0,d9,g0⟩) ⟨(hq.out.below hb3).below hb4,HL.out⟩ hx2,(hv4.below hb4).kp hx2,hv5.kp hx2⟩
 clear hx1 hx2 hx3 hq hb2 hb3 hb4 hHeld hH2 hH3 hH4 hH9 C0 C1 C2 HW HW2 HW3 HW4 hs4 hs5 hv4 hv5 B1 B2 B8 B9
 go_wp2
 exact bodyPost_ret (v:=.agg #[.string z,.bool s0,.slice z9 n0 c9,.slice y9 m0 d9,.int .i64 i1,.bool s4,.slice x4 n4 c4,.slice y4 m4 d4,.int .i64 i2,.bool s5,.slice x5 n5 c5,.slice y5 m5 d5]) (by simp [results,Tryz.results87,go_sem,k0,k1,k2,k3,k4,k5,k6,k7,k8,k9,k10,k11]) rfl ⟨_,rfl,HX.out⟩
set_option maxRecDepth 100000 in
set_option maxHeartbeats 4000000 in
theorem copyRow_c {w:World} {c:Lr} (h:LrB w c) (hk:((c.lo.v.n ≤ 1000 ∧ c.lo.v.m ≤ 1000) ∧ (c.hi.v.n ≤ 1000 ∧ c.hi.v.m ≤ 1000) ∧ c.tk ≤ 10000 ∧ ∀ p,p < c.tk → (c.T p).n ≤ 1000 ∧ (c.T p).m ≤ 1000)):Calls Tryz.prog 88 #[.agg c.vs.toArray] w fun r w'=>∃ v,r=.returned v ∧ Below w.heap.size w w' ∧ TR w.heap.size c v w':=by
 have C1:=hid (fun w' (hw:Below w.heap.size w w')=>eCopy_w (w:=w') (e:=c.lo) (h.lo.below hw) hk.1.1 hk.1.2)
 have C2:=hid (fun w' (hw:Below w.heap.size w w')=>eCopy_w (w:=w') (e:=c.hi) (h.hi.below hw) hk.2.1.1 hk.2.1.2)
 have C3:=hid (fun w' (hw:Below w.heap.size w w')=>copyTerms_c (w:=w') (cap:=c.tc) ((h.tr.below hw).short hk.2.2.2) hk.2.2.1 hk.2.2.2)
 have HT:Hid (c.tk ≤ 2199023255552 ∧ ∀ p,p < c.tk → (c.T p).n ≤ 17592186044416 ∧ (c.T p).m ≤ 17592186044416):=⟨h.tk,h.tn⟩
 clear h hk
 obtain ⟨z,⟨i1,⟨s1,x1,n1,c1,f1,y1,m1,d1,g1⟩⟩,⟨i2,⟨s2,x2,n2,c2,f2,y2,m2,d2,g2⟩⟩,ta,tk,tc,tcol,tt⟩:=c
 replace C1:Hid (∀ w',Below w.heap.size w w' → Calls Tryz.prog 115 #[.agg #[.int .i64 i1,.bool s1,.slice x1 n1 c1,.slice y1 m1 d1]] w' fun e w2=>∃ v,e=.returned v ∧ Below w'.heap.size w' w2 ∧ TE ⟨i1,⟨s1,x1,n1,c1,f1,y1,m1,d1,g1⟩⟩ v w2):=C1
 replace C2:Hid (∀ w',Below w.heap.size w w' → Calls Tryz.prog 115 #[.agg #[.int .i64 i2,.bool s2,.slice x2 n2 c2,.slice y2 m2 d2]] w' fun e w2=>∃ v,e=.returned v ∧ Below w'.heap.size w' w2 ∧ TE ⟨i2,⟨s2,x2,n2,c2,f2,y2,m2,d2,g2⟩⟩ v w2):=C2
 replace C3:Hid (∀ w',Below w.heap.size w w' → Calls Tryz.prog 51 #[.slice ta tk tc] w' fun e w2=>TwNew w' w2 e tk tcol tt):=C3
 replace HT:Hid (tk ≤ 2199023255552 ∧ ∀ p,p < tk → (tt p).n ≤ 17592186044416 ∧ (tt p).m ≤ 17592186044416):=HT
 show Calls Tryz.prog 88 #[.agg #[.string z,.int .i64 i1,.bool s1,.slice x1 n1 c1,.slice y1 m1 d1,.int .i64 i2,.bool s2,.slice x2 n2 c2,.slice y2 m2 d2,.slice ta tk tc]] w _
 have h3:=below_alloc (below_alloc (Below.refl w.heap.size w) (.cells #[.string z,.int .i64 i1,.bool s1,.slice x1 n1 c1,.slice y1 m1 d1,.int .i64 i2,.bool s2,.slice x2 n2 c2,.slice y2 m2 d2,.slice ta tk tc] 75)) (.cells #[.string ⟨#[]⟩,.int .i64 0,.bool false,.slice none 0 0,.slice none 0 0,.int .i64 0,.bool false,.slice none 0 0,.slice none 0 0,.slice none 0 0] 75)
 have B1:=(bk_new w [.string z,.int .i64 i1,.bool s1,.slice x1 n1 c1,.slice y1 m1 d1,.int .i64 i2,.bool s2,.slice x2 n2 c2,.slice y2 m2 d2,.slice ta tk tc] 75).below (below_alloc (Below.refl _ _) (.cells #[.string ⟨#[]⟩,.int .i64 0,.bool false,.slice none 0 0,.slice none 0 0,.int .i64 0,.bool false,.slice none 0 0,.slice none 0 0,.slice none 0 0] 75))
 have B2:=bk_new (w.alloc (.cells #[.string z,.int .i64 i1,.bool s1,.slice x1 n1 c1,.slice y1 m1 d1,.int .i64 i2,.bool s2,.slice x2 n2 c2,.slice y2 m2 d2,.slice ta tk tc] 75)) [.string ⟨#[]⟩,.int .i64 0,.bool false,.slice none 0 0,.slice none 0 0,.int .i64 0,.bool false,.slice none 0 0,.slice none 0 0,.slice none 0 0] 75
 rw [size_alloc1] at B2
 replace B1:Bk ((w.alloc (.cells #[.string z,.int .i64 i1,.bool s1,.slice x1 n1 c1,.slice y1 m1 d1,.int .i64 i2,.bool s2,.slice x2 n2 c2,.slice y2 m2 d2,.slice ta tk tc] 75)).alloc (.cells #[.string ⟨#[]⟩,.int .i64 0,.bool false,.slice none 0 0,.slice none 0 0,.int .i64 0,.bool false,.slice none 0 0,.slice none 0 0,.slice none 0 0] 75)) w.heap.size [.string z,.int .i64 i1,.bool s1,.slice x1 n1 c1,.slice y1 m1 d1,.int .i64 i2,.bool s2,.slice x2 n2 c2,.slice y2 m2 d2,.slice ta tk tc] 75:=B1
 replace B2:Bk ((w.alloc (.cells #[.string z,.int .i64 i1,.bool s1,.slice x1 n1 c1,.slice y1 m1 d1,.int .i64 i2,.bool s2,.slice x2 n2 c2,.slice y2 m2 d2,.slice ta tk tc] 75)).alloc (.cells #[.string ⟨#[]⟩,.int .i64 0,.bool false,.slice none 0 0,.slice none 0 0,.int .i64 0,.bool false,.slice none 0 0,.slice none 0 0,.slice none 0 0] 75)) (w.heap.size + 1) [.string ⟨#[]⟩,.int .i64 0,.bool false,.slice none 0 0,.slice none 0 0,.int .i64 0,.bool false,.slice none 0 0,.slice none 0 0,.slice none 0 0] 75:=B2
 go_enter Tryz.func88,Tryz.ntmps88
 go_upto_region 1 with fail
 generalize (w.alloc (.cells #[.string z,.int .i64 i1,.bool s1,.slice x1 n1 c1,.slice y1 m1 d1,.int .i64 i2,.bool s2,.slice x2 n2 c2,.slice y2 m2 d2,.slice ta tk tc] 75)).alloc (.cells #[.string ⟨#[]⟩,.int .i64 0,.bool false,.slice none 0 0,.slice none 0 0,.int .i64 0,.bool false,.slice none 0 0,.slice none 0 0,.slice none 0 0] 75)=w1 at *
 have hbd:=Below.drew (Below.refl w1.heap.size w1)
 replace B1:=B1.below hbd;replace B2:=B2.below hbd
 have HW:=hid (h3.trans (hbd.mono h3.size))
 clear hbd h3
 have r0:=B1.cell (j:=0) rfl
 have r1:=B1.cell (j:=1) rfl
 have r2:=B1.cell (j:=2) rfl
 have r3:=B1.cell (j:=3) rfl
 have r4:=B1.cell (j:=4) rfl
 have r5:=B1.cell (j:=5) rfl
 have r6:=B1.cell (j:=6) rfl
 have r7:=B1.cell (j:=7) rfl
 have r8:=B1.cell (j:=8) rfl
 have r9:=B1.cell (j:=9) rfl
 refine wp_region_held_drew (S:=(fun w'=>w'.cell? ⟨w.heap.size,0,none⟩=some (.string z) ∧ w'.cell? ⟨w.heap.size,1,none⟩=some (.int .i64 i1) ∧ w'.cell? ⟨w.heap.size,2,none⟩=some (.bool s1) ∧ w'.cell? ⟨w.heap.size,3,none⟩=some (.slice x1 n1 c1) ∧ w'.cell? ⟨w.heap.size,4,none⟩=some (.slice y1 m1 d1) ∧ w'.cell? ⟨w.heap.size,5,none⟩=some (.int .i64 i2) ∧ w'.cell? ⟨w.heap.size,6,none⟩=some (.bool s2) ∧ w'.cell? ⟨w.heap.size,7,none⟩=some (.slice x2 n2 c2) ∧ w'.cell? ⟨w.heap.size,8,none⟩=some (.slice y2 m2 d2) ∧ w'.cell? ⟨w.heap.size,9,none⟩=some (.slice ta tk tc))) (by kernel_rfl) ?_ (fun hHeld=>?_)
 ·exact ⟨r0,r1,r2,r3,r4,r5,r6,r7,r8,r9⟩
 generalize hwd:w1.drew=wd at *
 clear hwd
 refine wpAnyH_take (i:=0) (v:=?_) rfl (by kernel_rfl) (by kernel_rfl) (by kernel_rfl) (fun _ _ _ h=>h) (Or.inl ⟨by rfl,?_⟩) (by assumption) ?_
 rotate_left
 (focus (intro w0 hSw;(try dsimp only at hSw);go_simp <;> with_reducible rfl))
 simp only [List.getElem_toArray,List.getElem_cons_zero,Act.put,List.setIfInBounds_toArray,List.set_cons_zero,List.set_cons_succ]
 refine wpAnyH_take (i:=1) (v:=?_) rfl (by kernel_rfl) (by kernel_rfl) (by kernel_rfl) (fun _ _ _ h=>h) (Or.inl ⟨by rfl,?_⟩) (by assumption) ?_
 rotate_left
 (focus (intro w0 hSw;(try dsimp only at hSw);go_simp <;> with_reducible rfl))
 simp only [List.getElem_toArray,List.getElem_cons_succ,List.getElem_cons_zero,Act.put,List.setIfInBounds_toArray,List.set_cons_zero,List.set_cons_succ]
 refine wpAnyH_take (i:=2) (v:=?_) rfl (by kernel_rfl) (by kernel_rfl) (by kernel_rfl) (fun _ _ _ h=>h) (Or.inl ⟨by rfl,?_⟩) (by assumption) ?_
 rotate_left
 (focus (intro w0 hSw;(try dsimp only at hSw);go_simp <;> with_reducible rfl))
 simp only [List.getElem_toArray,List.getElem_cons_succ,List.getElem_cons_zero,Act.put,List.setIfInBounds_toArray,List.set_cons_zero,List.set_cons_succ]
 refine wpAnyH_take (i:=3) (v:=?_) rfl (by kernel_rfl) (by kernel_rfl) (by kernel_rfl) (fun _ _ _ h=>h) (Or.inl ⟨by rfl,?_⟩) (by assumption) ?_
 rotate_left
 (focus (intro w0 hSw;(try dsimp only at hSw);go_simp <;> with_reducible rfl))
 simp only [List.getElem_toArray,List.getElem_cons_succ,List.getElem_cons_zero,Act.put,List.setIfInBounds_toArray,List.set_cons_zero,List.set_cons_succ]
 refine wpAnyH_take (i:=5) (v:=?_) rfl (by kernel_rfl) (by kernel_rfl) (by kernel_rfl) (fun _ _ _ h=>h) (Or.inl ⟨by rfl,?_⟩) (by assumption) ?_
 rotate_left
 (focus (intro w0 hSw;(try dsimp only at hSw);go_simp <;> with_reducible rfl))
 simp only [List.getElem_toArray,List.getElem_cons_succ,List.getElem_cons_zero,Act.put,List.setIfInBounds_toArray,List.set_cons_zero,List.set_cons_succ]
 refine wpAnyH_take (i:=6) (v:=?_) rfl (by kernel_rfl) (by kernel_rfl) (by kernel_rfl) (fun _ _ _ h=>h) (Or.inl ⟨by rfl,?_⟩) (by assumption) ?_
 rotate_left
 (focus (intro w0 hSw;(try dsimp only at hSw);go_simp <;> with_reducible rfl))
 simp only [List.getElem_toArray,List.getElem_cons_succ,List.getElem_cons_zero,Act.put,List.setIfInBounds_toArray,List.set_cons_zero,List.set_cons_succ]
 refine wpAnyH_take (i:=8) (v:=?_) rfl (by kernel_rfl) (by kernel_rfl) (by kernel_rfl) (fun _ _ _ h=>h) (Or.inl ⟨by rfl,?_⟩) (by assumption) ?_
 rotate_left
 (focus (intro w0 hSw;(try dsimp only at hSw);go_simp <;> with_reducible rfl))
 simp only [List.getElem_toArray,List.getElem_cons_succ,List.getElem_cons_zero,Act.put,List.setIfInBounds_toArray,List.set_cons_zero,List.set_cons_succ]
 refine wpAnyH_take (i:=9) (v:=?_) rfl (by kernel_rfl) (by kernel_rfl) (by kernel_rfl) (fun _ _ _ h=>h) (Or.inl ⟨by rfl,?_⟩) (by assumption) ?_
 rotate_left
 (focus (intro w0 hSw;(try dsimp only at hSw);go_simp <;> with_reducible rfl))
 simp only [List.getElem_toArray,List.getElem_cons_succ,List.getElem_cons_zero,Act.put,List.setIfInBounds_toArray,List.set_cons_zero,List.set_cons_succ]
 refine wpAnyH_ready (rs:=[4]) (by kernel_rfl) (by simp) ?_
 refine AllReadyH.cons (o:=_) rfl (fun K hK=>?_) ?_
 rotate_left
 exact AllReadyH.nil
 go_simp
 go_at_call 115
 refine (C1.out _ HW.out).mono ?_
 rintro e w2 ⟨v4,hr,hb2,e',he,hi4,hs4,hv4⟩
 obtain ⟨i4,⟨s4,x4,n4,c4,f4,y4,m4,d4,g4⟩⟩:=e'
 replace hi4:i1=i4:=hi4.symm
 subst hi4
 replace he:v4=.agg #[.int .i64 i1,.bool s4,.slice x4 n4 c4,.slice y4 m4 d4]:=he
 subst he
 subst hr
 replace B1:=B1.below hb2;replace B2:=B2.below hb2
 have HW2:=hid (HW.out.trans (hb2.mono HW.out.size))
 (try go_wp2_with fail)
 refine hK.out _ _ ?_ (fun hH2=>?_)
 ·((try dsimp only);(refine ⟨?_,?_,?_,?_,?_,?_,?_,?_,?_,?_⟩ <;> repeat (with_reducible first | assumption | refine kCb hb2 ?_)))
 clear hK K
 try simp only [Act.put,List.setIfInBounds_toArray,List.set_cons_zero,List.set_cons_succ]
 refine wpAnyH_ready (rs:=[7]) (by kernel_rfl) (by simp) ?_
 refine AllReadyH.cons (o:=_) rfl (fun K hK=>?_) ?_
 rotate_left
 exact AllReadyH.nil
 go_simp
 go_at_call 115
 refine (C2.out _ HW2.out).mono ?_
 rintro e w3 ⟨v5,hr,hb3,e',he,hi5,hs5,hv5⟩
 obtain ⟨i5,⟨s5,x5,n5,c5,f5,y5,m5,d5,g5⟩⟩:=e'
 replace hi5:i2=i5:=hi5.symm
 subst hi5
 replace he:v5=.agg #[.int .i64 i2,.bool s5,.slice x5 n5 c5,.slice y5 m5 d5]:=he
 subst he
 subst hr
 replace B1:=B1.below hb3;replace B2:=B2.below hb3
 have HW3:=hid (HW2.out.trans (hb3.mono HW2.out.size))
 (try go_wp2_with fail)
 refine hK.out _ _ ?_ (fun hH3=>?_)
 ·((try dsimp only);(refine ⟨?_,?_,?_,?_,?_,?_,?_,?_,?_,?_⟩ <;> repeat (with_reducible first | assumption | refine kCb hb3 ?_ | refine kCb hb2 ?_)))
 clear hK K
 try simp only [Act.put,List.setIfInBounds_toArray,List.set_cons_zero,List.set_cons_succ]
 refine wpAnyH_ready (rs:=[10]) (by kernel_rfl) (by simp) ?_
 refine AllReadyH.cons (o:=_) rfl (fun K hK=>?_) ?_
 rotate_left
 exact AllReadyH.nil
 go_simp
 go_at_call 51
 refine (C3.out _ HW3.out).mono ?_
 rintro e w4 ⟨aw,cw,T9,rfl,hb4,_,hfr,hq⟩
 have hB3:=B2.lt
 replace B1:=B1.below hb4;replace B2:=B2.below hb4
 have HW4:=hid (HW3.out.trans (hb4.mono HW3.out.size))
 (try go_wp2_with fail)
 refine hK.out _ _ ?_ (fun hH4=>?_)
 ·((try dsimp only);(refine ⟨?_,?_,?_,?_,?_,?_,?_,?_,?_,?_⟩ <;> repeat (with_reducible first | assumption | refine kCb hb4 ?_ | refine kCb hb3 ?_ | refine kCb hb2 ?_)))
 clear hK K
 try simp only [Act.put,List.setIfInBounds_toArray,List.set_cons_zero,List.set_cons_succ]
 refine wpAnyH_take (i:=11) (v:=?_) rfl (by kernel_rfl) (by kernel_rfl) (by kernel_rfl) (fun _ _ _ h=>h) (Or.inl ⟨by rfl,?_⟩) (by assumption) ?_
 rotate_left
 (focus (intro w0 hSw;(try dsimp only at hSw);go_simp <;> with_reducible rfl))
 simp only [List.getElem_toArray,List.getElem_cons_succ,List.getElem_cons_zero,Act.put,List.setIfInBounds_toArray,List.set_cons_zero,List.set_cons_succ]
 refine wpAnyH_ready (rs:=[12]) (by kernel_rfl) (by simp) ?_
 refine AllReadyH.cons (o:=_) rfl (fun K hK=>?_) ?_
 rotate_left
 exact AllReadyH.nil
 have k0:=B2.cell (j:=0) rfl
 have k1:=B2.cell (j:=1) rfl
 have k2:=B2.cell (j:=2) rfl
 have k3:=B2.cell (j:=3) rfl
 have k4:=B2.cell (j:=4) rfl
 have k5:=B2.cell (j:=5) rfl
 have k6:=B2.cell (j:=6) rfl
 have k7:=B2.cell (j:=7) rfl
 have k8:=B2.cell (j:=8) rfl
 have k9:=B2.cell (j:=9) rfl
 have ff:=B2.frozen
 go_simp
 obtain ⟨hx1,hx2,hx3⟩:=st_new [.string z,.int .i64 i1,.bool s4,.slice x4 n4 c4,.slice y4 m4 d4,.int .i64 i2,.bool s5,.slice x5 n5 c5,.slice y5 m5 d5,.slice aw tk cw] B2 nzR HW4.out (Nat.le_succ _)
 have B9:=stl_bk [.string z,.int .i64 i1,.bool s4,.slice x4 n4 c4,.slice y4 m4 d4,.int .i64 i2,.bool s5,.slice x5 n5 c5,.slice y5 m5 d5,.slice aw tk cw] _ 0 _ rfl B2
 obtain ⟨w9,hw9⟩:∃ x,stl (w.heap.size + 1) 0 [.string z,.int .i64 i1,.bool s4,.slice x4 n4 c4,.slice y4 m4 d4,.int .i64 i2,.bool s5,.slice x5 n5 c5,.slice y5 m5 d5,.slice aw tk cw] w4=x:=⟨_,rfl⟩
 rw [show ((((((((((w4.setCell ⟨w.heap.size + 1,0,none⟩ (.string z)).setCell ⟨w.heap.size + 1,1,none⟩ (.int .i64 i1)).setCell ⟨w.heap.size + 1,2,none⟩ (.bool s4)).setCell ⟨w.heap.size + 1,3,none⟩ (.slice x4 n4 c4)).setCell ⟨w.heap.size + 1,4,none⟩ (.slice y4 m4 d4)).setCell ⟨w.heap.size + 1,5,none⟩ (.int .i64 i2)).setCell ⟨w.heap.size + 1,6,none⟩ (.bool s5)).setCell ⟨w.heap.size + 1,7,none⟩ (.slice x5 n5 c5)).setCell ⟨w.heap.size + 1,8,none⟩ (.slice y5 m5 d5)).setCell ⟨w.heap.size + 1,9,none⟩ (.slice aw tk cw))=w9 from hw9]
 rw [hw9] at hx1 hx2 hx3 B9
 replace B9:Bk w9 (w.heap.size + 1) [.string z,.int .i64 i1,.bool s4,.slice x4 n4 c4,.slice y4 m4 d4,.int .i64 i2,.bool s5,.slice x5 n5 c5,.slice y5 m5 d5,.slice aw tk cw] _:=B9
 have B8:=B1.of (hx3 w.heap.size (by omega))
 have e0:=B8.cell (j:=0) rfl
 have e1:=B8.cell (j:=1) rfl
 have e2:=B8.cell (j:=2) rfl
 have e3:=B8.cell (j:=3) rfl
 have e4:=B8.cell (j:=4) rfl
 have e5:=B8.cell (j:=5) rfl
 have e6:=B8.cell (j:=6) rfl
 have e7:=B8.cell (j:=7) rfl
 have e8:=B8.cell (j:=8) rfl
 have e9:=B8.cell (j:=9) rfl
 clear hw9 ff k0 k1 k2 k3 k4 k5 k6 k7 k8 k9
 refine hK.out _ _ ⟨e0,e1,e2,e3,e4,e5,e6,e7,e8,e9⟩ (fun hH9=>?_)
 clear hK K
 try simp only [Act.put]
 have k0:=B9.cell (j:=0) rfl
 have k1:=B9.cell (j:=1) rfl
 have k2:=B9.cell (j:=2) rfl
 have k3:=B9.cell (j:=3) rfl
 have k4:=B9.cell (j:=4) rfl
 have k5:=B9.cell (j:=5) rfl
 have k6:=B9.cell (j:=6) rfl
 have k7:=B9.cell (j:=7) rfl
 have k8:=B9.cell (j:=8) rfl
 have k9:=B9.cell (j:=9) rfl
 refine wpAnyH_done (by kernel_rfl) ?_ _
 have hl3:=HW3.out.size
 have HX:Hid (Below w.heap.size w w9 ∧ TR w.heap.size ⟨z,⟨i1,⟨s1,x1,n1,c1,f1,y1,m1,d1,g1⟩⟩,⟨i2,⟨s2,x2,n2,c2,f2,y2,m2,d2,g2⟩⟩,ta,tk,tc,tcol,tt⟩ (.agg #[.string z,.int .i64 i1,.bool s4,.slice x4 n4 c4,.slice y4 m4 d4,.int .i64 i2,.bool s5,.slice x5 n5 c5,.slice y5 m5 d5,.slice aw tk cw]) w9):=⟨hx1,⟨z,⟨i1,⟨s4,x4,n4,c4,f4,y4,m4,d4,g4⟩⟩,⟨i2,⟨s5,x5,n5,c5,f5,y5,m5,d5,g5⟩⟩,aw,tk,cw,tcol,T9⟩,rfl,⟨rfl,rfl,hs4,rfl,hs5,rfl,rfl,hq.out.2⟩,LrB.of (r:=⟨z,⟨i1,⟨s4,x4,n4,c4,f4,y4,m4,d4,g4⟩⟩,⟨i2,⟨s5,x5,n5,c5,f5,y5,m5,d5,g5⟩⟩,aw,tk,cw,tcol,T9⟩) ⟨(hv4.below hb3).below hb4,hv5.below hb4,hq.out.1.long,HT.out.1,fun p hp=>by obtain ⟨_,e2,_,e4,_⟩:=hq.out.2 p hp;show (T9 p).n ≤ _ ∧ (T9 p).m ≤ _;rw [e2,e4];exact HT.out.2 p hp⟩ (fun _ b o s e _=>hx3 b (by have:=hfr b o s e;omega)) hx2,fun b o s e=>by have:=hfr b o s e;omega⟩
 clear hx1 hx2 hx3 hq hb2 hb3 hb4 hHeld hH2 hH3 hH4 hH9 C1 C2 C3 HW HW2 HW3 HW4 hs4 hs5 hv4 hv5 hfr B1 B2 B8 B9
 go_wp2
 exact bodyPost_ret (v:=.agg #[.string z,.int .i64 i1,.bool s4,.slice x4 n4 c4,.slice y4 m4 d4,.int .i64 i2,.bool s5,.slice x5 n5 c5,.slice y5 m5 d5,.slice aw tk cw]) (by simp [results,Tryz.results88,go_sem,k0,k1,k2,k3,k4,k5,k6,k7,k8,k9]) rfl ⟨_,rfl,HX.out⟩
structure MoF (base:Nat) (M:Mo):Prop where
 ca:∀ b o s,M.ca=some ⟨b,o,s⟩ → base ≤ b
 ra:∀ b o s,M.ra=some ⟨b,o,s⟩ → base ≤ b
 ta:∀ j,j < M.rk → (M.R j).tk ≠ 0 → ∀ b o s,(M.R j).ta=some ⟨b,o,s⟩ → base ≤ b
theorem TwR.fresh {w base base2 b2 b3 Z so zx zn zc zy zm zd oN C ck C' R rk R' wr aC cC aR cR} (h:TwR w base base2 b2 b3 Z so zx zn zc zy zm zd oN C ck C' (.slice aC ck cC) R wr rk R' (.slice aR rk cR)) (h1:w.heap.size ≤ base) (h2:w.heap.size ≤ base2):MoF w.heap.size ⟨oN,aC,ck,cC,C',aR,rk,cR,R'⟩ :=
 ⟨fun b o s e=>Nat.le_trans h1 (h.rowC.lt b (by have e':aC=some ⟨b,o,s⟩:=e;rw [e'];rfl)).1,fun b o s e=>Nat.le_trans h2 (h.row.lt b (by have e':aR=some ⟨b,o,s⟩:=e;rw [e'];rfl)).1,fun j hj hk b o s e=>Nat.le_trans h2 ((h.el j hj).2.2 hk b o s e).1⟩
theorem MoX.st {w w':World} {M:Mo} {B base:Nat} (h:MoX w M) (hf:MoF base M) (hB:B < base) (hk:Kp w w') (hne:∀ k,k ≠ B → w'.heap[k]?=w.heap[k]?):MoX w' M:=by
 refine ⟨h.off.kp hk,fun j hj=>?_,fun j hj=>?_,h.ck,h.rk⟩
 ·obtain ⟨b,o,e,h1,h2⟩:=h.cls j hj
  have:=hf.ca b o none e
  exact ⟨b,o,e,fun q v hq=>(World.cell?_of_block (a:=⟨b,_,none⟩) (hne b (by omega))).trans (h1 q v hq),h2.kp hk⟩
 ·obtain ⟨b,o,e,h1,h2⟩:=h.rls j hj
  have:=hf.ra b o none e
  exact ⟨b,o,e,fun q v hq=>(World.cell?_of_block (a:=⟨b,_,none⟩) (hne b (by omega))).trans (h1 q v hq),h2.of (fun h3 b o s e _=>hne b (by have:=hf.ta j hj h3 b o s e;omega)) hk⟩
set_option maxRecDepth 100000 in
set_option maxHeartbeats 8000000 in
theorem copied_c {w:World} {M:Mo} {K:Nat} (h:MoX w M) (hk:MoK K M) (hK:K ≤ 1000):Calls Tryz.prog 55 #[M.val] w fun e w'=>∃ M':Mo,e=.returned M'.val ∧ Below w.heap.size w w' ∧ Sm M M' ∧ MoX w' M' ∧ MoF w.heap.size M':=by
 generalize hP:(fun (e:Ending) (w':World)=>∃ M':Mo,e=.returned M'.val ∧ Below w.heap.size w w' ∧ Sm M M' ∧ MoX w' M' ∧ MoF w.heap.size M')=P
 have HA:Hid (∀ w' (M':Mo),Below w.heap.size w w' → Sm M M' → MoX w' M' → MoF w.heap.size M' → P (.returned M'.val) w'):=by subst hP;exact fun w' M' h1 h2 h3 h4=>⟨M',rfl,h1,h2,h3,h4⟩
 clear hP
 obtain ⟨ho,hC,hR,hck,hrk⟩:=h
 obtain ⟨ko,kc,kr⟩:=hk
 obtain ⟨⟨s,x,n,c,f,y,m,d,g⟩,ca,ck,cc,C,ra,rk,rc,R⟩:=M
 replace hck:ck ≤ 703687441776:=hck
 replace hrk:rk ≤ 837723144971:=hrk
 have HC:Hid (Cl9 w ca ck C):=hC
 have HRL:Hid (Rl9 w ra rk R):=hR
 have HKC:Hid (∀ j,j < ck → ((C j).cost.n ≤ 1000 ∧ (C j).cost.m ≤ 1000) ∧ ((C j).lo.v.n ≤ 1000 ∧ (C j).lo.v.m ≤ 1000) ∧ (C j).hi.v.n ≤ 1000 ∧ (C j).hi.v.m ≤ 1000):=fun j hj=>by
  obtain ⟨⟨k1,k2⟩,⟨k3,k4⟩,k5,k6⟩:=kc j hj
  exact ⟨⟨Nat.le_trans k1 hK,Nat.le_trans k2 hK⟩,⟨Nat.le_trans k3 hK,Nat.le_trans k4 hK⟩,Nat.le_trans k5 hK,Nat.le_trans k6 hK⟩
 have HKR:Hid (∀ j,j < rk → ((R j).lo.v.n ≤ 1000 ∧ (R j).lo.v.m ≤ 1000) ∧ ((R j).hi.v.n ≤ 1000 ∧ (R j).hi.v.m ≤ 1000) ∧ (R j).tk ≤ 10000 ∧ ∀ p,p < (R j).tk → ((R j).T p).n ≤ 1000 ∧ ((R j).T p).m ≤ 1000):=fun j hj=>by
  obtain ⟨⟨k1,k2⟩,⟨k3,k4⟩,k5,k6⟩:=kr j hj
  exact ⟨⟨Nat.le_trans k1 hK,Nat.le_trans k2 hK⟩,⟨Nat.le_trans k3 hK,Nat.le_trans k4 hK⟩,Nat.le_trans k5 (by decide),fun p hp=>⟨Nat.le_trans (k6 p hp).1 hK,Nat.le_trans (k6 p hp).2 hK⟩⟩
 have CO:=hid (fun w' (hw:Below w.heap.size w w')=>rCopy_w (w:=w') (sa:=s) (ho.below hw).1 (Nat.le_trans ko.1 (Nat.le_trans hK (by decide))) (Nat.le_trans ko.2 (Nat.le_trans hK (by decide))))
 have HO:=hid ho.2
 clear ho hC hR ko kc kr hK
 show Calls Tryz.prog 55 #[.agg #[.bool s,.slice x n c,.slice y m d,.slice ca ck cc,.slice ra rk rc]] w _
 go_enter Tryz.func55,Tryz.ntmps55
 go_wp2_with fail
 have hb1:=below_alloc (below_alloc (Below.refl w.heap.size w) (.cells #[.bool s,.slice x n c,.slice y m d,.slice ca ck cc,.slice ra rk rc] 28)) (.cells #[.bool false,.slice none 0 0,.slice none 0 0,.slice none 0 0,.slice none 0 0] 28)
 have B1:=(bk_new w [.bool s,.slice x n c,.slice y m d,.slice ca ck cc,.slice ra rk rc] 28).below (below_alloc (Below.refl _ _) (.cells #[.bool false,.slice none 0 0,.slice none 0 0,.slice none 0 0,.slice none 0 0] 28))
 have B2:=bk_new (w.alloc (.cells #[.bool s,.slice x n c,.slice y m d,.slice ca ck cc,.slice ra rk rc] 28)) [.bool false,.slice none 0 0,.slice none 0 0,.slice none 0 0,.slice none 0 0] 28
 rw [size_alloc1] at B2
 replace B1:Bk ((w.alloc (.cells #[.bool s,.slice x n c,.slice y m d,.slice ca ck cc,.slice ra rk rc] 28)).alloc (.cells #[.bool false,.slice none 0 0,.slice none 0 0,.slice none 0 0,.slice none 0 0] 28)) w.heap.size [.bool s,.slice x n c,.slice y m d,.slice ca ck cc,.slice ra rk rc] 28:=B1
 replace B2:Bk ((w.alloc (.cells #[.bool s,.slice x n c,.slice y m d,.slice ca ck cc,.slice ra rk rc] 28)).alloc (.cells #[.bool false,.slice none 0 0,.slice none 0 0,.slice none 0 0,.slice none 0 0] 28)) (w.heap.size + 1) [.bool false,.slice none 0 0,.slice none 0 0,.slice none 0 0,.slice none 0 0] 28:=B2
 generalize (w.alloc (.cells #[.bool s,.slice x n c,.slice y m d,.slice ca ck cc,.slice ra rk rc] 28)).alloc (.cells #[.bool false,.slice none 0 0,.slice none 0 0,.slice none 0 0,.slice none 0 0] 28)=w1 at *
 refine (CO.out _ hb1).mono ?_
 rintro e w2 ⟨z2,c2,y2,d2,rfl,hb2,hq⟩
 have B3:=bk_new w2 [.bool s,.slice z2 n c2,.slice y2 m d2,.slice none 0 0,.slice none 0 0] 28
 have hb3:=below_alloc (Below.refl w2.heap.size w2) (.cells #[.bool s,.slice z2 n c2,.slice y2 m d2,.slice none 0 0,.slice none 0 0] 28)
 have l1:=B1.lt;have l2:=B2.lt;have l3:=hb2.size
 replace B1:=(B1.below hb2).below hb3;replace B2:=(B2.below hb2).below hb3
 have HB3:=hid ((hb1.trans (hb2.mono hb1.size)).trans (hb3.mono (Nat.le_trans hb1.size hb2.size)))
 have HQ:Hid (NmB (w2.alloc (.cells #[.bool s,.slice z2 n c2,.slice y2 m d2,.slice none 0 0,.slice none 0 0] 28)) ⟨s,z2,n,c2,f,y2,m,d2,g⟩):=⟨hq.out.below hb3,HO.out⟩
 have k3:=B1.cell (j:=3) rfl
 have HB1:=hid B1;have HB2:=hid B2
 obtain ⟨b3,hb3e⟩:∃ z,w2.heap.size=z:=⟨_,rfl⟩
 have hl3:w.heap.size + 1 < b3:=by omega
 have hbs:b3 < (w2.alloc (.cells #[.bool s,.slice z2 n c2,.slice y2 m d2,.slice none 0 0,.slice none 0 0] 28)).heap.size:=by simp;omega
 clear hb1 hb2 hb3 B1 B2 CO hq l1 l2 l3
 go_wp2_with fail
 generalize w2.alloc (.cells #[.bool s,.slice z2 n c2,.slice y2 m d2,.slice none 0 0,.slice none 0 0] 28)=w3 at *
 rw [hb3e] at B3
 obtain ⟨base,hbase⟩:∃ z,w3.heap.size=z:=⟨_,rfl⟩
 have hbb:b3 < base:=by omega
 have HI0:Hid (TwC w base w.heap.size (w.heap.size + 1) b3 [.bool s,.slice x n c,.slice y m d,.slice ca ck cc,.slice ra rk rc] [.bool false,.slice none 0 0,.slice none 0 0,.slice none 0 0,.slice none 0 0] s z2 n c2 y2 m d2 ⟨s,z2,n,c2,f,y2,m,d2,g⟩ C w3 0 C (.slice none 0 0)):=⟨HB3.out,HB1.out,HB2.out,B3,by omega,HQ.out,rowG_nil _ _ _ _,fun j hj=>by omega⟩
 clear HB3 HB1 HB2 B3 HQ k3 hb3e hbs hbase
 go_loopw [15] (fun t wr=>∃ (i:Nat) (C':Nat → Lc) (vC:Value),i ≤ ck ∧ t=.int .i64 i ∧ Hid (TwC w base w.heap.size (w.heap.size + 1) b3 [.bool s,.slice x n c,.slice y m d,.slice ca ck cc,.slice ra rk rc] [.bool false,.slice none 0 0,.slice none 0 0,.slice none 0 0,.slice none 0 0] s z2 n c2 y2 m d2 ⟨s,z2,n,c2,f,y2,m,d2,g⟩ C wr i C' vC)) (fun t _=>ck - (intOf t).toNat)
 case atStart=>exact ⟨0,C,_,by omega,rfl,HI0.out⟩
 case round =>
  obtain ⟨i,C',vC,hi,rfl,HI⟩:=hrel
  clear HI0
  by_cases hlt:i < ck
  ·obtain ⟨b,o,rfl,hc,hn⟩:=(HC.out.below HI.out.bel) i hlt
   obtain ⟨cN,hcN⟩:∃ t,C i=t:=⟨_,rfl⟩
   rw [hcN] at hc hn
   have HCN:=hid hcN
   obtain ⟨z,⟨s0,x0,n0,c0,f0,y0,m0,d0,g0⟩,⟨i1,⟨s1,x1,n1,c1,f1,y1,m1,d1,g1⟩⟩,⟨i2,⟨s2,x2,n2,c2',f2,y2',m2,d2',g2⟩⟩⟩:=cN
   have q0:wr.cell? ⟨b,o + i * 12,none⟩=some (.string z):=hc 0 _ rfl
   have q1:wr.cell? ⟨b,o + i * 12 + 1,none⟩=some (.bool s0):=hc 1 _ rfl
   have q2:wr.cell? ⟨b,o + i * 12 + 2,none⟩=some (.slice x0 n0 c0):=hc 2 _ rfl
   have q3:wr.cell? ⟨b,o + i * 12 + 3,none⟩=some (.slice y0 m0 d0):=hc 3 _ rfl
   have q4:wr.cell? ⟨b,o + i * 12 + 4,none⟩=some (.int .i64 i1):=hc 4 _ rfl
   have q5:wr.cell? ⟨b,o + i * 12 + 5,none⟩=some (.bool s1):=hc 5 _ rfl
   have q6:wr.cell? ⟨b,o + i * 12 + 6,none⟩=some (.slice x1 n1 c1):=hc 6 _ rfl
   have q7:wr.cell? ⟨b,o + i * 12 + 7,none⟩=some (.slice y1 m1 d1):=hc 7 _ rfl
   have q8:wr.cell? ⟨b,o + i * 12 + 8,none⟩=some (.int .i64 i2):=hc 8 _ rfl
   have q9:wr.cell? ⟨b,o + i * 12 + 9,none⟩=some (.bool s2):=hc 9 _ rfl
   have q10:wr.cell? ⟨b,o + i * 12 + 10,none⟩=some (.slice x2 n2 c2'):=hc 10 _ rfl
   have q11:wr.cell? ⟨b,o + i * 12 + 11,none⟩=some (.slice y2' m2 d2'):=hc 11 _ rfl
   have HLC:Hid (LcB wr ⟨z,⟨s0,x0,n0,c0,f0,y0,m0,d0,g0⟩,⟨i1,⟨s1,x1,n1,c1,f1,y1,m1,d1,g1⟩⟩,⟨i2,⟨s2,x2,n2,c2',f2,y2',m2,d2',g2⟩⟩⟩):=hn
   have HKi:Hid ((n0 ≤ 1000 ∧ m0 ≤ 1000) ∧ (n1 ≤ 1000 ∧ m1 ≤ 1000) ∧ n2 ≤ 1000 ∧ m2 ≤ 1000):=by have:=HKC.out i hlt;rw [HCN.out] at this;exact this
   have i1':((i:Nat):Int) < ((ck:Nat):Int):=by omega
   clear hcN hc hn
   go_upto_region 5 with fail
   have hb5:=Below.drew (below_alloc (Below.refl wr.heap.size wr) (.cells #[.string z,.bool s0,.slice x0 n0 c0,.slice y0 m0 d0,.int .i64 i1,.bool s1,.slice x1 n1 c1,.slice y1 m1 d1,.int .i64 i2,.bool s2,.slice x2 n2 c2',.slice y2' m2 d2'] 77))
   have B5:Bk (wr.alloc (.cells #[.string z,.bool s0,.slice x0 n0 c0,.slice y0 m0 d0,.int .i64 i1,.bool s1,.slice x1 n1 c1,.slice y1 m1 d1,.int .i64 i2,.bool s2,.slice x2 n2 c2',.slice y2' m2 d2'] 77)).drew wr.heap.size [.string z,.bool s0,.slice x0 n0 c0,.slice y0 m0 d0,.int .i64 i1,.bool s1,.slice x1 n1 c1,.slice y1 m1 d1,.int .i64 i2,.bool s2,.slice x2 n2 c2',.slice y2' m2 d2'] 77:=bk_new wr [.string z,.bool s0,.slice x0 n0 c0,.slice y0 m0 d0,.int .i64 i1,.bool s1,.slice x1 n1 c1,.slice y1 m1 d1,.int .i64 i2,.bool s2,.slice x2 n2 c2',.slice y2' m2 d2'] 77
   have hne:vC.ownBlock ≠ some wr.heap.size:=fun e=>by have:=(HI.out.row.lt _ e).2;omega
   have hbz:=HI.out.bs
   replace HI:=hid (HI.out.below hb5)
   replace HLC:=hid (HLC.out.below hb5)
   have a0:=B5.cell (j:=0) rfl
   have a1:=B5.cell (j:=1) rfl
   have a2:=B5.cell (j:=2) rfl
   have a3:=B5.cell (j:=3) rfl
   have a4:=B5.cell (j:=4) rfl
   have a5:=B5.cell (j:=5) rfl
   have a6:=B5.cell (j:=6) rfl
   have a7:=B5.cell (j:=7) rfl
   have a8:=B5.cell (j:=8) rfl
   have a9:=B5.cell (j:=9) rfl
   have a10:=B5.cell (j:=10) rfl
   have a11:=B5.cell (j:=11) rfl
   have HB5:=hid B5
   obtain ⟨bk,hbk⟩:∃ z,wr.heap.size=z:=⟨_,rfl⟩
   simp only [hbk] at *
   clear hb5 hbk q0 q1 q2 q3 q4 q5 q6 q7 q8 q9 q10 q11 B5
   refine wp_region_held_drew (S:=(fun w'=>w'.cell? ⟨bk,0,none⟩=some (.string z) ∧ w'.cell? ⟨bk,1,none⟩=some (.bool s0) ∧ w'.cell? ⟨bk,2,none⟩=some (.slice x0 n0 c0) ∧ w'.cell? ⟨bk,3,none⟩=some (.slice y0 m0 d0) ∧ w'.cell? ⟨bk,4,none⟩=some (.int .i64 i1) ∧ w'.cell? ⟨bk,5,none⟩=some (.bool s1) ∧ w'.cell? ⟨bk,6,none⟩=some (.slice x1 n1 c1) ∧ w'.cell? ⟨bk,7,none⟩=some (.slice y1 m1 d1) ∧ w'.cell? ⟨bk,8,none⟩=some (.int .i64 i2) ∧ w'.cell? ⟨bk,9,none⟩=some (.bool s2) ∧ w'.cell? ⟨bk,10,none⟩=some (.slice x2 n2 c2') ∧ w'.cell? ⟨bk,11,none⟩=some (.slice y2' m2 d2'))) (by kernel_rfl) ?_ (fun hHeld=>?_)
   ·exact ⟨a0,a1,a2,a3,a4,a5,a6,a7,a8,a9,a10,a11⟩
   generalize hwd:(wr.alloc (.cells #[.string z,.bool s0,.slice x0 n0 c0,.slice y0 m0 d0,.int .i64 i1,.bool s1,.slice x1 n1 c1,.slice y1 m1 d1,.int .i64 i2,.bool s2,.slice x2 n2 c2',.slice y2' m2 d2'] 77)).drew=wd at *
   clear hwd
   refine wpAnyH_take (i:=0) (v:=?_) rfl (by kernel_rfl) (by kernel_rfl) (by kernel_rfl) (fun _ _ _ h=>h) (Or.inl ⟨by rfl,?_⟩) (by assumption) ?_
   rotate_left
   (focus (intro w0 hSw;(try dsimp only at hSw);go_simp <;> with_reducible rfl))
   simp only [List.getElem_toArray,List.getElem_cons_zero,Act.put,List.setIfInBounds_toArray,List.set_cons_zero,List.set_cons_succ]
   refine wpAnyH_take (i:=2) (v:=?_) rfl (by kernel_rfl) (by kernel_rfl) (by kernel_rfl) (fun _ _ _ h=>h) (Or.inl ⟨by rfl,?_⟩) (by assumption) ?_
   rotate_left
   (focus (intro w0 hSw;(try dsimp only at hSw);go_simp <;> with_reducible rfl))
   simp only [List.getElem_toArray,List.getElem_cons_succ,List.getElem_cons_zero,Act.put,List.setIfInBounds_toArray,List.set_cons_zero,List.set_cons_succ]
   refine (show wpAnyH _ _ _ _ _ (3 + 3) _ _ _ from wpAnyH_flow (fun j v w=>match j with | 1=>vC=v | 3=>TC ⟨z,⟨s0,x0,n0,c0,f0,y0,m0,d0,g0⟩,⟨i1,⟨s1,x1,n1,c1,f1,y1,m1,d1,g1⟩⟩,⟨i2,⟨s2,x2,n2,c2',f2,y2',m2,d2',g2⟩⟩⟩ v w | 4=>TCs ⟨z,⟨s0,x0,n0,c0,f0,y0,m0,d0,g0⟩,⟨i1,⟨s1,x1,n1,c1,f1,y1,m1,d1,g1⟩⟩,⟨i2,⟨s2,x2,n2,c2',f2,y2',m2,d2',g2⟩⟩⟩ v w | _=>True) [(1,20),(3,22),(4,23)] [1,3,4] [5,6,7] _ _ _ 3 ?k1 ?k4 ?k2 ?k3 ?k5 ?k6 ?k8)
   case k1=>kernel_rfl
   case k4=>kernel_rfl
   case k2=>exact fun w w' h hb=>⟨kCb hb h.1,kCb hb h.2.1,kCb hb h.2.2.1,kCb hb h.2.2.2.1,kCb hb h.2.2.2.2.1,kCb hb h.2.2.2.2.2.1,kCb hb h.2.2.2.2.2.2.1,kCb hb h.2.2.2.2.2.2.2.1,kCb hb h.2.2.2.2.2.2.2.2.1,kCb hb h.2.2.2.2.2.2.2.2.2.1,kCb hb h.2.2.2.2.2.2.2.2.2.2.1,kCb hb h.2.2.2.2.2.2.2.2.2.2.2⟩
   case k3 =>
    intro j v w w' h hb
    split at h <;> first | exact TC.below h hb | exact TCs.below h hb | exact h | trivial
   case k8=>exact hHeld
   case k5 =>
    intro i hi
    simp only [List.mem_cons,List.not_mem_nil,or_false] at hi
    rcases hi with rfl | rfl | rfl
    ·refine ⟨_,rfl,fun u w5 hS hb5 hd K hK=>?_⟩
     have k5:=(HI.out.p3.below hb5).cell (j:=3) rfl
     simp only [fill,List.foldl_cons,List.foldl_nil,Act.put,List.setIfInBounds_toArray,List.set_cons_zero,List.set_cons_succ] at hK ⊢
     go_simp
     exact hK.out _ _ (Below.refl _ _) rfl
    ·refine ⟨_,rfl,fun u w5 hS hb5 hd K hK=>?_⟩
     simp only [fill,List.foldl_cons,List.foldl_nil,Act.put,List.setIfInBounds_toArray,List.set_cons_zero,List.set_cons_succ] at hK ⊢
     go_simp
     go_at_call 87
     refine (copyCol_c (c:=⟨z,⟨s0,x0,n0,c0,f0,y0,m0,d0,g0⟩,⟨i1,⟨s1,x1,n1,c1,f1,y1,m1,d1,g1⟩⟩,⟨i2,⟨s2,x2,n2,c2',f2,y2',m2,d2',g2⟩⟩⟩) (HLC.out.below hb5) HKi.out).mono ?_
     rintro e w6 ⟨v6,rfl,hb6,hq⟩
     (try go_wp2_with fail)
     exact hK.out _ _ hb6 hq
    ·refine ⟨_,rfl,fun u w5 hS hb5 hd K hK=>?_⟩
     have h13:TC ⟨z,⟨s0,x0,n0,c0,f0,y0,m0,d0,g0⟩,⟨i1,⟨s1,x1,n1,c1,f1,y1,m1,d1,g1⟩⟩,⟨i2,⟨s2,x2,n2,c2',f2,y2',m2,d2',g2⟩⟩⟩ (u 3) w5:=hd 3 (by kernel_rfl) (by kernel_rfl)
     obtain ⟨⟨zj,⟨sb,xb,nb,cb,fb,yb,mb,db,gb⟩,⟨ic,⟨sc,xc,nc,cc9,fc,yc,mc,dc,gc⟩⟩,⟨ie,⟨sd,xd,nd,cd,fd,yd,md,dd,gd⟩⟩⟩,e13,hs,hv⟩:=h13
     replace e13:u 3=.agg #[.string zj,.bool sb,.slice xb nb cb,.slice yb mb db,.int .i64 ic,.bool sc,.slice xc nc cc9,.slice yc mc dc,.int .i64 ie,.bool sd,.slice xd nd cd,.slice yd md dd]:=e13
     simp only [fill,List.foldl_cons,List.foldl_nil,Act.put,List.setIfInBounds_toArray,List.set_cons_zero,List.set_cons_succ] at hK ⊢
     simp only [e13] at hK ⊢
     go_simp
     have hn:=below_alloc (Below.refl w5.heap.size w5) (.cells #[.string zj,.bool sb,.slice xb nb cb,.slice yb mb db,.int .i64 ic,.bool sc,.slice xc nc cc9,.slice yc mc dc,.int .i64 ie,.bool sd,.slice xd nd cd,.slice yd md dd] 77)
     have hx:=cs_new w5 77 [.string zj,.bool sb,.slice xb nb cb,.slice yb mb db,.int .i64 ic,.bool sc,.slice xc nc cc9,.slice yc mc dc,.int .i64 ie,.bool sd,.slice xd nd cd,.slice yd md dd] [.string zj,.bool sb,.slice xb nb cb,.slice yb mb db,.int .i64 ic,.bool sc,.slice xc nc cc9,.slice yc mc dc,.int .i64 ie,.bool sd,.slice xd nd cd,.slice yd md dd] 0 (fun j v e=>by rw [Nat.zero_add];exact e)
     exact hK.out _ _ hn ⟨w5.heap.size,⟨zj,⟨sb,xb,nb,cb,fb,yb,mb,db,gb⟩,⟨ic,⟨sc,xc,nc,cc9,fc,yc,mc,dc,gc⟩⟩,⟨ie,⟨sd,xd,nd,cd,fd,yd,md,dd,gd⟩⟩⟩,rfl,hx,hs,hv.below hn⟩
   case k6 =>
    intro u w5 hS5 hb5 hg
    have h1:vC=u 1:=hg 1 (by simp)
    have h14:TCs ⟨z,⟨s0,x0,n0,c0,f0,y0,m0,d0,g0⟩,⟨i1,⟨s1,x1,n1,c1,f1,y1,m1,d1,g1⟩⟩,⟨i2,⟨s2,x2,n2,c2',f2,y2',m2,d2',g2⟩⟩⟩ (u 4) w5:=hg 4 (by simp)
    obtain ⟨b14,⟨zj,⟨sb,xb,nb,cb,fb,yb,mb,db,gb⟩,⟨ic,⟨sc,xc,nc,cc9,fc,yc,mc,dc,gc⟩⟩,⟨ie,⟨sd,xd,nd,cd,fd,yd,md,dd,gd⟩⟩⟩,e14,hcs,hsc,hlc⟩:=h14
    replace HI:=hid (HI.out.below hb5)
    obtain ⟨i0,hi0,hz0,hz1,hz2⟩:=info_parts Tryz.infoCol
    obtain ⟨t0,t1,t2,t3,t4,t5,t6,t7,t8,t9,t10,t11⟩:=id hS5
    have hbl:=World.block_lt_of_cell? w5 _ t0
    replace hbl:bk < w5.heap.size:=hbl
    clear hg
    simp only [fill,List.foldl_cons,List.foldl_nil,Act.put,List.setIfInBounds_toArray,List.set_cons_zero,List.set_cons_succ]
    simp only [← h1,e14]
    clear h1 e14
    refine wpAnyH_ready (rs:=[5]) (by kernel_rfl) (by simp) ?_
    refine AllReadyH.cons (o:=_) rfl (fun K hK=>?_) ?_
    rotate_left
    exact AllReadyH.nil
    refine step_append_W w5 rfl (.tmp 20) (.tmp 23) 25 rfl base 77 i0 zC 12 200 Tryz.underlying25 hi0 hz0 hz1 hz2 rfl (by decide) nzC vC i (ccs C' i) rfl HI.out.row ⟨b14,0,none⟩ 1 1 (Lc.vs ⟨zj,⟨sb,xb,nb,cb,fb,yb,mb,db,gb⟩,⟨ic,⟨sc,xc,nc,cc9,fc,yc,mc,dc,gc⟩⟩,⟨ie,⟨sd,xd,nd,cd,fd,yd,md,dd,gd⟩⟩⟩) rfl rfl ?n1 (vsC_one _) (vsC_not _) (by decide) ?p1 ?p2 HI.out.bs ?_
    case n1=>intro j u hu;rw [addr_add];exact hcs j u hu
    case p1=>unfold maxLen;omega
    case p2=>omega
    intro g8 cap8 w8 hr8 hgr8 hk8 hl8
    have hB8:=hgr8.block bk hbl (fun e=>hne e.symm)
    have e0:=(World.cell?_of_block (a:=⟨bk,0,none⟩) hB8).trans t0
    have e1:=(World.cell?_of_block (a:=⟨bk,1,none⟩) hB8).trans t1
    have e2:=(World.cell?_of_block (a:=⟨bk,2,none⟩) hB8).trans t2
    have e3:=(World.cell?_of_block (a:=⟨bk,3,none⟩) hB8).trans t3
    have e4:=(World.cell?_of_block (a:=⟨bk,4,none⟩) hB8).trans t4
    have e5:=(World.cell?_of_block (a:=⟨bk,5,none⟩) hB8).trans t5
    have e6:=(World.cell?_of_block (a:=⟨bk,6,none⟩) hB8).trans t6
    have e7:=(World.cell?_of_block (a:=⟨bk,7,none⟩) hB8).trans t7
    have e8:=(World.cell?_of_block (a:=⟨bk,8,none⟩) hB8).trans t8
    have e9:=(World.cell?_of_block (a:=⟨bk,9,none⟩) hB8).trans t9
    have e10:=(World.cell?_of_block (a:=⟨bk,10,none⟩) hB8).trans t10
    have e11:=(World.cell?_of_block (a:=⟨bk,11,none⟩) hB8).trans t11
    have hp8:=HI.out.p3.of (hgr8.block b3 HI.out.p3.lt (fun e=>by have:=(HI.out.row.lt b3 e.symm).1;omega))
    have f0:=hp8.cell (j:=3) rfl
    have ff:=hp8.frozen 3
    refine hK.out _ _ ?_ (fun hH8=>?_)
    ·exact ⟨e0,e1,e2,e3,e4,e5,e6,e7,e8,e9,e10,e11⟩
    clear hK K
    try simp only [Act.put,List.setIfInBounds_toArray]
    refine wpAnyH_take (i:=6) (v:=?_) rfl (by kernel_rfl) (by kernel_rfl) (by kernel_rfl) (fun _ _ _ h=>h) (Or.inl ⟨by rfl,?_⟩) (by assumption) ?_
    rotate_left
    (focus (intro w0 hSw;(try dsimp only at hSw);go_simp <;> with_reducible rfl))
    simp only [List.getElem_toArray,List.getElem_cons_succ,List.getElem_cons_zero,Act.put,List.setIfInBounds_toArray,List.set_cons_zero,List.set_cons_succ]
    refine wpAnyH_ready (rs:=[7]) (by kernel_rfl) (by simp) ?_
    refine AllReadyH.cons (o:=_) rfl (fun K hK=>?_) ?_
    rotate_left
    exact AllReadyH.nil
    go_simp
    refine hK.out _ _ ?_ (fun hH9=>?_)
    ·((try dsimp only);(refine ⟨?_,?_,?_,?_,?_,?_,?_,?_,?_,?_,?_,?_⟩ <;> repeat (with_reducible first | assumption | refine kCs (by simp only [ne_eq];omega) ?_)))
    clear hK K
    try simp only [Act.put]
    refine wpAnyH_done (by kernel_rfl) ?_ _
    have HI9:=hid (HI.out.next (by omega) (by omega) hbb (Nat.le_refl _) (by rw [HCN.out];exact hsc) hlc hr8 hk8 hgr8)
    clear hr8 hgr8 hk8 hl8 hB8 hp8 f0 ff hH8 hH9 HI hsc hlc hcs hHeld HB5 e0 e1 e2 e3 e4 e5 e6 e7 e8 e9 e10 e11
    go_wp2
    go_roundw
    case rel=>exact ⟨i + 1,_,_,by omega,by go_num,HI9.out⟩
    case measure=>simp [intOf];omega
  ·have e1:i=ck:=by omega
   have i2':¬ (((i:Nat):Int) < ((ck:Nat):Int)):=by omega
   rw [e1] at HI
   have k4:=HI.out.p1.cell (j:=4) rfl
   obtain ⟨base2,hbase2⟩:∃ z,wr.heap.size=z:=⟨_,rfl⟩
   have hb2:base ≤ base2:=by have:=HI.out.bs;omega
   have HI2:Hid (TwR w base base2 (w.heap.size + 1) b3 [.bool false,.slice none 0 0,.slice none 0 0,.slice none 0 0,.slice none 0 0] s z2 n c2 y2 m d2 ⟨s,z2,n,c2,f,y2,m,d2,g⟩ C ck C' vC R wr 0 R (.slice none 0 0)):=⟨HI.out.bel,HI.out.p2,HI.out.p3,by omega,HI.out.off,HI.out.row,HI.out.el,fun k hk=>by have:=(HI.out.row.lt k hk).2;omega,rowG_nil _ _ _ _,fun j hj=>by omega⟩
   clear HI e1 HC hbase2
   go_wp2_with fail
   go_loopw [30] (fun t wr=>∃ (i:Nat) (R':Nat → Lr) (vR:Value),i ≤ rk ∧ t=.int .i64 i ∧ Hid (TwR w base base2 (w.heap.size + 1) b3 [.bool false,.slice none 0 0,.slice none 0 0,.slice none 0 0,.slice none 0 0] s z2 n c2 y2 m d2 ⟨s,z2,n,c2,f,y2,m,d2,g⟩ C ck C' vC R wr i R' vR)) (fun t _=>rk - (intOf t).toNat)
   case atStart=>exact ⟨0,R,_,by omega,rfl,HI2.out⟩
   case round =>
    obtain ⟨i,R',vR,hi,rfl,HI⟩:=hrel
    clear HI2 k4
    by_cases hlt:i < rk
    ·obtain ⟨b,o,rfl,hc,hn⟩:=(HRL.out.below HI.out.bel) i hlt
     obtain ⟨rN,hrN⟩:∃ t,R i=t:=⟨_,rfl⟩
     rw [hrN] at hc hn
     have HRN:=hid hrN
     obtain ⟨z,⟨i1,⟨s1,x1,n1,c1,f1,y1,m1,d1,g1⟩⟩,⟨i2,⟨s2,x2,n2,c2',f2,y2',m2,d2',g2⟩⟩,ta,tk,tc,tcol,tt⟩:=rN
     have q0:wr.cell? ⟨b,o + i * 10,none⟩=some (.string z):=hc 0 _ rfl
     have q1:wr.cell? ⟨b,o + i * 10 + 1,none⟩=some (.int .i64 i1):=hc 1 _ rfl
     have q2:wr.cell? ⟨b,o + i * 10 + 2,none⟩=some (.bool s1):=hc 2 _ rfl
     have q3:wr.cell? ⟨b,o + i * 10 + 3,none⟩=some (.slice x1 n1 c1):=hc 3 _ rfl
     have q4:wr.cell? ⟨b,o + i * 10 + 4,none⟩=some (.slice y1 m1 d1):=hc 4 _ rfl
     have q5:wr.cell? ⟨b,o + i * 10 + 5,none⟩=some (.int .i64 i2):=hc 5 _ rfl
     have q6:wr.cell? ⟨b,o + i * 10 + 6,none⟩=some (.bool s2):=hc 6 _ rfl
     have q7:wr.cell? ⟨b,o + i * 10 + 7,none⟩=some (.slice x2 n2 c2'):=hc 7 _ rfl
     have q8:wr.cell? ⟨b,o + i * 10 + 8,none⟩=some (.slice y2' m2 d2'):=hc 8 _ rfl
     have q9:wr.cell? ⟨b,o + i * 10 + 9,none⟩=some (.slice ta tk tc):=hc 9 _ rfl
     have HLR:Hid (LrB wr ⟨z,⟨i1,⟨s1,x1,n1,c1,f1,y1,m1,d1,g1⟩⟩,⟨i2,⟨s2,x2,n2,c2',f2,y2',m2,d2',g2⟩⟩,ta,tk,tc,tcol,tt⟩):=hn
     have HKi:Hid ((n1 ≤ 1000 ∧ m1 ≤ 1000) ∧ (n2 ≤ 1000 ∧ m2 ≤ 1000) ∧ tk ≤ 10000 ∧ ∀ p,p < tk → (tt p).n ≤ 1000 ∧ (tt p).m ≤ 1000):=by have:=HKR.out i hlt;rw [HRN.out] at this;exact this
     have i1':((i:Nat):Int) < ((rk:Nat):Int):=by omega
     clear hrN hc hn
     go_upto_region 10 with fail
     have hb5:=Below.drew (below_alloc (Below.refl wr.heap.size wr) (.cells #[.string z,.int .i64 i1,.bool s1,.slice x1 n1 c1,.slice y1 m1 d1,.int .i64 i2,.bool s2,.slice x2 n2 c2',.slice y2' m2 d2',.slice ta tk tc] 75))
     have B5:Bk (wr.alloc (.cells #[.string z,.int .i64 i1,.bool s1,.slice x1 n1 c1,.slice y1 m1 d1,.int .i64 i2,.bool s2,.slice x2 n2 c2',.slice y2' m2 d2',.slice ta tk tc] 75)).drew wr.heap.size [.string z,.int .i64 i1,.bool s1,.slice x1 n1 c1,.slice y1 m1 d1,.int .i64 i2,.bool s2,.slice x2 n2 c2',.slice y2' m2 d2',.slice ta tk tc] 75:=bk_new wr [.string z,.int .i64 i1,.bool s1,.slice x1 n1 c1,.slice y1 m1 d1,.int .i64 i2,.bool s2,.slice x2 n2 c2',.slice y2' m2 d2',.slice ta tk tc] 75
     have hne:vR.ownBlock ≠ some wr.heap.size:=fun e=>by have:=(HI.out.row.lt _ e).2;omega
     have hbz:=HI.out.bs
     replace HI:=hid (HI.out.below hb5)
     replace HLR:=hid (HLR.out.below hb5)
     have a0:=B5.cell (j:=0) rfl
     have a1:=B5.cell (j:=1) rfl
     have a2:=B5.cell (j:=2) rfl
     have a3:=B5.cell (j:=3) rfl
     have a4:=B5.cell (j:=4) rfl
     have a5:=B5.cell (j:=5) rfl
     have a6:=B5.cell (j:=6) rfl
     have a7:=B5.cell (j:=7) rfl
     have a8:=B5.cell (j:=8) rfl
     have a9:=B5.cell (j:=9) rfl
     have HB5:=hid B5
     obtain ⟨bk,hbk⟩:∃ z,wr.heap.size=z:=⟨_,rfl⟩
     simp only [hbk] at *
     clear hb5 hbk q0 q1 q2 q3 q4 q5 q6 q7 q8 q9 B5
     refine wp_region_held_drew (S:=(fun w'=>w'.cell? ⟨bk,0,none⟩=some (.string z) ∧ w'.cell? ⟨bk,1,none⟩=some (.int .i64 i1) ∧ w'.cell? ⟨bk,2,none⟩=some (.bool s1) ∧ w'.cell? ⟨bk,3,none⟩=some (.slice x1 n1 c1) ∧ w'.cell? ⟨bk,4,none⟩=some (.slice y1 m1 d1) ∧ w'.cell? ⟨bk,5,none⟩=some (.int .i64 i2) ∧ w'.cell? ⟨bk,6,none⟩=some (.bool s2) ∧ w'.cell? ⟨bk,7,none⟩=some (.slice x2 n2 c2') ∧ w'.cell? ⟨bk,8,none⟩=some (.slice y2' m2 d2') ∧ w'.cell? ⟨bk,9,none⟩=some (.slice ta tk tc))) (by kernel_rfl) ?_ (fun hHeld=>?_)
     ·exact ⟨a0,a1,a2,a3,a4,a5,a6,a7,a8,a9⟩
     generalize hwd:(wr.alloc (.cells #[.string z,.int .i64 i1,.bool s1,.slice x1 n1 c1,.slice y1 m1 d1,.int .i64 i2,.bool s2,.slice x2 n2 c2',.slice y2' m2 d2',.slice ta tk tc] 75)).drew=wd at *
     clear hwd
     obtain ⟨bse,hbse⟩:∃ z,wd.heap.size=z:=⟨_,rfl⟩
     have hb2s:base2 ≤ bse:=by have:=HI.out.bs;omega
     have hown:∀ b,bse ≤ b → vR.ownBlock ≠ some b:=fun b hb e=>by have:=(HI.out.row.lt b e).2;omega
     have HW:=hid hown
     clear hown
     refine wpAnyH_take (i:=0) (v:=?_) rfl (by kernel_rfl) (by kernel_rfl) (by kernel_rfl) (fun _ _ _ h=>h) (Or.inl ⟨by rfl,?_⟩) (by assumption) ?_
     rotate_left
     (focus (intro w0 hSw;(try dsimp only at hSw);go_simp <;> with_reducible rfl))
     simp only [List.getElem_toArray,List.getElem_cons_zero,Act.put,List.setIfInBounds_toArray,List.set_cons_zero,List.set_cons_succ]
     refine wpAnyH_take (i:=2) (v:=?_) rfl (by kernel_rfl) (by kernel_rfl) (by kernel_rfl) (fun _ _ _ h=>h) (Or.inl ⟨by rfl,?_⟩) (by assumption) ?_
     rotate_left
     (focus (intro w0 hSw;(try dsimp only at hSw);go_simp <;> with_reducible rfl))
     simp only [List.getElem_toArray,List.getElem_cons_succ,List.getElem_cons_zero,Act.put,List.setIfInBounds_toArray,List.set_cons_zero,List.set_cons_succ]
     refine (show wpAnyH _ _ _ _ _ (3 + 3) _ _ _ from wpAnyH_flow (fun j v w=>match j with | 1=>vR=v | 3=>TR bse ⟨z,⟨i1,⟨s1,x1,n1,c1,f1,y1,m1,d1,g1⟩⟩,⟨i2,⟨s2,x2,n2,c2',f2,y2',m2,d2',g2⟩⟩,ta,tk,tc,tcol,tt⟩ v w | 4=>TRs bse ⟨z,⟨i1,⟨s1,x1,n1,c1,f1,y1,m1,d1,g1⟩⟩,⟨i2,⟨s2,x2,n2,c2',f2,y2',m2,d2',g2⟩⟩,ta,tk,tc,tcol,tt⟩ v w | _=>True) [(1,35),(3,37),(4,38)] [1,3,4] [5,6,7] _ _ _ 3 ?k1 ?k4 ?k2 ?k3 ?k5 ?k6 ?k8)
     case k1=>kernel_rfl
     case k4=>kernel_rfl
     case k2=>exact fun w w' h hb=>⟨kCb hb h.1,kCb hb h.2.1,kCb hb h.2.2.1,kCb hb h.2.2.2.1,kCb hb h.2.2.2.2.1,kCb hb h.2.2.2.2.2.1,kCb hb h.2.2.2.2.2.2.1,kCb hb h.2.2.2.2.2.2.2.1,kCb hb h.2.2.2.2.2.2.2.2.1,kCb hb h.2.2.2.2.2.2.2.2.2⟩
     case k3 =>
      intro j v w w' h hb
      split at h <;> first | exact TR.below h hb | exact TRs.below h hb | exact h | trivial
     case k8=>exact hHeld
     case k5 =>
      intro i hi
      simp only [List.mem_cons,List.not_mem_nil,or_false] at hi
      rcases hi with rfl | rfl | rfl
      ·refine ⟨_,rfl,fun u w5 hS hb5 hd K hK=>?_⟩
       have k5:=(HI.out.p3.below hb5).cell (j:=4) rfl
       simp only [fill,List.foldl_cons,List.foldl_nil,Act.put,List.setIfInBounds_toArray,List.set_cons_zero,List.set_cons_succ] at hK ⊢
       go_simp
       exact hK.out _ _ (Below.refl _ _) rfl
      ·refine ⟨_,rfl,fun u w5 hS hb5 hd K hK=>?_⟩
       simp only [fill,List.foldl_cons,List.foldl_nil,Act.put,List.setIfInBounds_toArray,List.set_cons_zero,List.set_cons_succ] at hK ⊢
       go_simp
       go_at_call 88
       refine (copyRow_c (c:=⟨z,⟨i1,⟨s1,x1,n1,c1,f1,y1,m1,d1,g1⟩⟩,⟨i2,⟨s2,x2,n2,c2',f2,y2',m2,d2',g2⟩⟩,ta,tk,tc,tcol,tt⟩) (HLR.out.below hb5) HKi.out).mono ?_
       rintro e w6 ⟨v6,rfl,hb6,hq⟩
       obtain ⟨r',q1,q2,q3,q4⟩:=hq
       (try go_wp2_with fail)
       exact hK.out _ _ hb6 ⟨r',rfl,q2,q3,fun b o s e=>by have h1:=q4 b o s e;have h2:=hb5.size;omega⟩
      ·refine ⟨_,rfl,fun u w5 hS hb5 hd K hK=>?_⟩
       have h13:TR bse ⟨z,⟨i1,⟨s1,x1,n1,c1,f1,y1,m1,d1,g1⟩⟩,⟨i2,⟨s2,x2,n2,c2',f2,y2',m2,d2',g2⟩⟩,ta,tk,tc,tcol,tt⟩ (u 3) w5:=hd 3 (by kernel_rfl) (by kernel_rfl)
       obtain ⟨⟨zj,⟨ic,⟨sc,xc,nc,cc9,fc,yc,mc,dc,gc⟩⟩,⟨ie,⟨sd,xd,nd,cd,fd,yd,md,dd,gd⟩⟩,ta9,tk9,tc9,tcol9,tt9⟩,e13,hs,hv,hfr⟩:=h13
       replace e13:u 3=.agg #[.string zj,.int .i64 ic,.bool sc,.slice xc nc cc9,.slice yc mc dc,.int .i64 ie,.bool sd,.slice xd nd cd,.slice yd md dd,.slice ta9 tk9 tc9]:=e13
       simp only [fill,List.foldl_cons,List.foldl_nil,Act.put,List.setIfInBounds_toArray,List.set_cons_zero,List.set_cons_succ] at hK ⊢
       simp only [e13] at hK ⊢
       go_simp
       have hn:=below_alloc (Below.refl w5.heap.size w5) (.cells #[.string zj,.int .i64 ic,.bool sc,.slice xc nc cc9,.slice yc mc dc,.int .i64 ie,.bool sd,.slice xd nd cd,.slice yd md dd,.slice ta9 tk9 tc9] 75)
       have hx:=cs_new w5 75 [.string zj,.int .i64 ic,.bool sc,.slice xc nc cc9,.slice yc mc dc,.int .i64 ie,.bool sd,.slice xd nd cd,.slice yd md dd,.slice ta9 tk9 tc9] [.string zj,.int .i64 ic,.bool sc,.slice xc nc cc9,.slice yc mc dc,.int .i64 ie,.bool sd,.slice xd nd cd,.slice yd md dd,.slice ta9 tk9 tc9] 0 (fun j v e=>by rw [Nat.zero_add];exact e)
       exact hK.out _ _ hn ⟨w5.heap.size,⟨zj,⟨ic,⟨sc,xc,nc,cc9,fc,yc,mc,dc,gc⟩⟩,⟨ie,⟨sd,xd,nd,cd,fd,yd,md,dd,gd⟩⟩,ta9,tk9,tc9,tcol9,tt9⟩,rfl,hx,hs,hv.below hn,hfr⟩
     case k6 =>
      intro u w5 hS5 hb5 hg
      have h1:vR=u 1:=hg 1 (by simp)
      have h14:TRs bse ⟨z,⟨i1,⟨s1,x1,n1,c1,f1,y1,m1,d1,g1⟩⟩,⟨i2,⟨s2,x2,n2,c2',f2,y2',m2,d2',g2⟩⟩,ta,tk,tc,tcol,tt⟩ (u 4) w5:=hg 4 (by simp)
      obtain ⟨b14,⟨zj,⟨ic,⟨sc,xc,nc,cc9,fc,yc,mc,dc,gc⟩⟩,⟨ie,⟨sd,xd,nd,cd,fd,yd,md,dd,gd⟩⟩,ta9,tk9,tc9,tcol9,tt9⟩,e14,hcs,hsc,hlc,hfr⟩:=h14
      replace HI:=hid (HI.out.below hb5)
      obtain ⟨i0,hi0,hz0,hz1,hz2⟩:=info_parts Tryz.infoRow
      obtain ⟨t0,t1,t2,t3,t4,t5,t6,t7,t8,t9⟩:=id hS5
      have hbl:=World.block_lt_of_cell? w5 _ t0
      replace hbl:bk < w5.heap.size:=hbl
      clear hg
      simp only [fill,List.foldl_cons,List.foldl_nil,Act.put,List.setIfInBounds_toArray,List.set_cons_zero,List.set_cons_succ]
      simp only [← h1,e14]
      clear h1 e14
      refine wpAnyH_ready (rs:=[5]) (by kernel_rfl) (by simp) ?_
      refine AllReadyH.cons (o:=_) rfl (fun K hK=>?_) ?_
      rotate_left
      exact AllReadyH.nil
      refine step_append_W w5 rfl (.tmp 35) (.tmp 38) 26 rfl base2 75 i0 zR 10 168 Tryz.underlying26 hi0 hz0 hz1 hz2 rfl (by decide) nzR vR i (rcs R' i) rfl HI.out.row ⟨b14,0,none⟩ 1 1 (Lr.vs ⟨zj,⟨ic,⟨sc,xc,nc,cc9,fc,yc,mc,dc,gc⟩⟩,⟨ie,⟨sd,xd,nd,cd,fd,yd,md,dd,gd⟩⟩,ta9,tk9,tc9,tcol9,tt9⟩) rfl rfl ?n1 (vsR_one _) (vsR_not _) (by decide) ?p1 ?p2 HI.out.bs ?_
      case n1=>intro j u hu;rw [addr_add];exact hcs j u hu
      case p1=>unfold maxLen;omega
      case p2=>omega
      intro g8 cap8 w8 hr8 hgr8 hk8 hl8
      have hB8:=hgr8.block bk hbl (fun e=>hne e.symm)
      have e0:=(World.cell?_of_block (a:=⟨bk,0,none⟩) hB8).trans t0
      have e1:=(World.cell?_of_block (a:=⟨bk,1,none⟩) hB8).trans t1
      have e2:=(World.cell?_of_block (a:=⟨bk,2,none⟩) hB8).trans t2
      have e3:=(World.cell?_of_block (a:=⟨bk,3,none⟩) hB8).trans t3
      have e4:=(World.cell?_of_block (a:=⟨bk,4,none⟩) hB8).trans t4
      have e5:=(World.cell?_of_block (a:=⟨bk,5,none⟩) hB8).trans t5
      have e6:=(World.cell?_of_block (a:=⟨bk,6,none⟩) hB8).trans t6
      have e7:=(World.cell?_of_block (a:=⟨bk,7,none⟩) hB8).trans t7
      have e8:=(World.cell?_of_block (a:=⟨bk,8,none⟩) hB8).trans t8
      have e9:=(World.cell?_of_block (a:=⟨bk,9,none⟩) hB8).trans t9
      have hp8:=HI.out.p3.of (hgr8.block b3 HI.out.p3.lt (fun e=>by have:=(HI.out.row.lt b3 e.symm).1;omega))
      have f0:=hp8.cell (j:=4) rfl
      have ff:=hp8.frozen 4
      refine hK.out _ _ ?_ (fun hH8=>?_)
      ·exact ⟨e0,e1,e2,e3,e4,e5,e6,e7,e8,e9⟩
      clear hK K
      try simp only [Act.put,List.setIfInBounds_toArray]
      refine wpAnyH_take (i:=6) (v:=?_) rfl (by kernel_rfl) (by kernel_rfl) (by kernel_rfl) (fun _ _ _ h=>h) (Or.inl ⟨by rfl,?_⟩) (by assumption) ?_
      rotate_left
      (focus (intro w0 hSw;(try dsimp only at hSw);go_simp <;> with_reducible rfl))
      simp only [List.getElem_toArray,List.getElem_cons_succ,List.getElem_cons_zero,Act.put,List.setIfInBounds_toArray,List.set_cons_zero,List.set_cons_succ]
      refine wpAnyH_ready (rs:=[7]) (by kernel_rfl) (by simp) ?_
      refine AllReadyH.cons (o:=_) rfl (fun K hK=>?_) ?_
      rotate_left
      exact AllReadyH.nil
      go_simp
      refine hK.out _ _ ?_ (fun hH9=>?_)
      ·((try dsimp only);(refine ⟨?_,?_,?_,?_,?_,?_,?_,?_,?_,?_⟩ <;> repeat (with_reducible first | assumption | refine kCs (by simp only [ne_eq];omega) ?_)))
      clear hK K
      try simp only [Act.put]
      refine wpAnyH_done (by kernel_rfl) ?_ _
      have HI9:=hid (HI.out.next (by omega) (by omega) hbb (by omega) (by rw [HRN.out];exact hsc) hlc (fun _ b o s e=>⟨by have:=hfr b o s e;omega,HW.out b (hfr b o s e)⟩) hr8 hk8 hgr8 hl8)
      clear hr8 hgr8 hk8 hl8 hB8 hp8 f0 ff hH8 hH9 HI hsc hlc hcs hHeld HB5 e0 e1 e2 e3 e4 e5 e6 e7 e8 e9
      go_wp2
      go_roundw
      case rel=>exact ⟨i + 1,_,_,by omega,by go_num,HI9.out⟩
      case measure=>simp [intOf];omega
    ·have e1:i=rk:=by omega
     have i2':¬ (((i:Nat):Int) < ((rk:Nat):Int)):=by omega
     rw [e1] at HI
     obtain ⟨aC,cC,rfl⟩:=HI.out.rowC.slice
     obtain ⟨aR,cR,rfl⟩:=HI.out.row.slice
     have o0:=HI.out.p3.cell (j:=0) rfl
     have o1:=HI.out.p3.cell (j:=1) rfl
     have o2:=HI.out.p3.cell (j:=2) rfl
     have o3:=HI.out.p3.cell (j:=3) rfl
     have o4:=HI.out.p3.cell (j:=4) rfl
     have r0:=HI.out.p2.cell (j:=0) rfl
     have r1:=HI.out.p2.cell (j:=1) rfl
     have r2:=HI.out.p2.cell (j:=2) rfl
     have r3:=HI.out.p2.cell (j:=3) rfl
     have r4:=HI.out.p2.cell (j:=4) rfl
     have rf:=HI.out.p2.frozen
     obtain ⟨hx1,hx2,hx3⟩:=HI.out.done (N:=⟨s,x,n,c,f,y,m,d,g⟩) (ca:=ca) (cc:=cc) (ra:=ra) (rc:=rc) (v0:=.bool s) (v1:=.slice z2 n c2) (v2:=.slice y2 m d2) (v3:=.slice aC ck cC) (v4:=.slice aR rk cR) (by omega) (by omega) (by omega) rfl ⟨rfl,rfl,rfl,rfl,rfl⟩ hck hrk
     have hx4:=HI.out.fresh (by omega) (by omega)
     have HX:=hid (HA.out _ _ hx1 hx2 hx3 hx4)
     clear hx1 hx2 hx3 hx4 HI e1
     go_wp2
     exact bodyPost_ret (v:=.agg #[.bool s,.slice z2 n c2,.slice y2 m d2,.slice aC ck cC,.slice aR rk cR]) (by simp [results,Tryz.results55,go_sem,r0,r1,r2,r3,r4]) rfl HX.out
set_option maxRecDepth 100000 in
set_option maxHeartbeats 4000000 in
theorem copy_c {w:World} {M:Mo} {K:Nat} (hX:MoX w M) (hN:MoN M) (hk:M.ck ≤ 64 → M.rk ≤ 64 → MoK K M) (hK:K ≤ 1000):Calls Tryz.prog 20 #[M.val] w fun r w'=>(chkE M ≠ 0 ∧ r=.returned (.tuple #[.agg #[.bool false,.slice none 0 0,.slice none 0 0,.slice none 0 0,.slice none 0 0],.int .i64 (chkE M)]) ∧ Below w.heap.size w w') ∨ (chkE M=0 ∧ ∃ M':Mo,r=.returned (.tuple #[M'.val,.int .i64 0]) ∧ Below w.heap.size w w' ∧ Sm M M' ∧ MoX w' M' ∧ MoF w.heap.size M'):=by
 have CC:=hid (fun w' (hw:Below w.heap.size w w')=>check_w (w:=w') (fun a b=>(hX.below hw).mor hN (hk a b) (Nat.le_trans hK (by decide)) a b))
 have CO:=hid (fun w' (hw:Below w.heap.size w w') (h0:chkE M=0)=>copied_c (w:=w') (hX.below hw) (hk (chkE_ok h0).1 (chkE_ok h0).2.1) hK)
 obtain ⟨er,he⟩:∃ e,chkE M=e:=⟨_,rfl⟩
 rw [he] at CC CO
 rw [he]
 clear hX hN hk he
 obtain ⟨A,hA⟩:∃ N,N=M:=⟨_,rfl⟩
 rw [← hA] at CO ⊢
 obtain ⟨⟨s,x,n,c,f,y,m,d,g⟩,ca,ck,cc,C,ra,rk,rc,R⟩:=M
 have hAv:A.val=.agg #[.bool s,.slice x n c,.slice y m d,.slice ca ck cc,.slice ra rk rc]:=by rw [hA];rfl
 rw [hAv] at CO ⊢
 clear hA hAv hK
 replace CC:Hid (∀ w',Below w.heap.size w w' → Calls Tryz.prog 14 #[.agg #[.bool s,.slice x n c,.slice y m d,.slice ca ck cc,.slice ra rk rc]] w' fun e w2=>e=.returned (.int .i64 er) ∧ Below w'.heap.size w' w2):=CC
 have hb1:=below_alloc (below_alloc (Below.refl w.heap.size w) (.cells #[.bool s,.slice x n c,.slice y m d,.slice ca ck cc,.slice ra rk rc] 28)) (.cells #[.bool false,.slice none 0 0,.slice none 0 0,.slice none 0 0,.slice none 0 0] 28)
 have B1:=(bk_new w [.bool s,.slice x n c,.slice y m d,.slice ca ck cc,.slice ra rk rc] 28).below (below_alloc (Below.refl _ _) (.cells #[.bool false,.slice none 0 0,.slice none 0 0,.slice none 0 0,.slice none 0 0] 28))
 have B2:=bk_new (w.alloc (.cells #[.bool s,.slice x n c,.slice y m d,.slice ca ck cc,.slice ra rk rc] 28)) [.bool false,.slice none 0 0,.slice none 0 0,.slice none 0 0,.slice none 0 0] 28
 rw [size_alloc1] at B2
 replace B1:Bk ((w.alloc (.cells #[.bool s,.slice x n c,.slice y m d,.slice ca ck cc,.slice ra rk rc] 28)).alloc (.cells #[.bool false,.slice none 0 0,.slice none 0 0,.slice none 0 0,.slice none 0 0] 28)) w.heap.size [.bool s,.slice x n c,.slice y m d,.slice ca ck cc,.slice ra rk rc] 28:=B1
 replace B2:Bk ((w.alloc (.cells #[.bool s,.slice x n c,.slice y m d,.slice ca ck cc,.slice ra rk rc] 28)).alloc (.cells #[.bool false,.slice none 0 0,.slice none 0 0,.slice none 0 0,.slice none 0 0] 28)) (w.heap.size + 1) [.bool false,.slice none 0 0,.slice none 0 0,.slice none 0 0,.slice none 0 0] 28:=B2
 go_enter Tryz.func20,Tryz.ntmps20
 go_wp2_with fail
 generalize (w.alloc (.cells #[.bool s,.slice x n c,.slice y m d,.slice ca ck cc,.slice ra rk rc] 28)).alloc (.cells #[.bool false,.slice none 0 0,.slice none 0 0,.slice none 0 0,.slice none 0 0] 28)=w1 at *
 refine (CC.out _ hb1).mono ?_
 rintro r w2 ⟨rfl,hb2⟩
 replace B1:=B1.below hb2;replace B2:=B2.below hb2
 have HW2:=hid (hb1.trans (hb2.mono hb1.size))
 clear hb1 hb2 CC
 by_cases h0:er=0
 case neg =>
  have hne:(er != 0)=true:=by simpa using h0
  have r0:=B2.cell (j:=0) rfl
  have r1:=B2.cell (j:=1) rfl
  have r2:=B2.cell (j:=2) rfl
  have r3:=B2.cell (j:=3) rfl
  have r4:=B2.cell (j:=4) rfl
  have rf:=B2.frozen
  have HX:=hid (below_st5 (u0:=.bool false) (u1:=.slice none 0 0) (u2:=.slice none 0 0) (u3:=.slice none 0 0) (u4:=.slice none 0 0) HW2.out (Nat.le_succ w.heap.size))
  have HN:=hid h0
  clear h0
  go_wp2
  exact bodyPost_ret (v:=.tuple #[.agg #[.bool false,.slice none 0 0,.slice none 0 0,.slice none 0 0,.slice none 0 0],.int .i64 er]) (by simp [results,Tryz.results20,go_sem,r0,r1,r2,r3,r4]) rfl (.inl ⟨HN.out,rfl,HX.out⟩)
 subst h0
 have r0:=B1.cell (j:=0) rfl
 have r1:=B1.cell (j:=1) rfl
 have r2:=B1.cell (j:=2) rfl
 have r3:=B1.cell (j:=3) rfl
 have r4:=B1.cell (j:=4) rfl
 go_wp2_with fail
 refine (CO.out _ HW2.out (by first | rfl | trivial)).mono ?_
 rintro r w3 ⟨M1,hr,hb3,hs,hx,hf⟩
 have hb2l:=HW2.out.size
 have hB2:=B2.lt
 replace B2:=B2.below hb3
 have HW3:=hid (HW2.out.trans (hb3.mono HW2.out.size))
 obtain ⟨⟨s',x',n',c',f',y',m',d',g'⟩,ca',ck',cc',C',ra',rk',rc',R'⟩:=M1
 replace hr:r=.returned (.agg #[.bool s',.slice x' n' c',.slice y' m' d',.slice ca' ck' cc',.slice ra' rk' rc']):=hr
 subst hr
 obtain ⟨hk9,hn9⟩:=kp_st5 B2 (nou5 _ _ _ _ _ _ _ _ _ _ _ _ _) (v0:=.bool s') (v1:=.slice x' n' c') (v2:=.slice y' m' d') (v3:=.slice ca' ck' cc') (v4:=.slice ra' rk' rc') rfl
 have HX:=hid (below_st5 (u0:=.bool s') (u1:=.slice x' n' c') (u2:=.slice y' m' d') (u3:=.slice ca' ck' cc') (u4:=.slice ra' rk' rc') HW3.out (Nat.le_succ w.heap.size))
 have HM:=hid (hx.st hf hB2 hk9 hn9)
 have HS:=hid hs
 have HF:Hid (MoF w.heap.size ⟨⟨s',x',n',c',f',y',m',d',g'⟩,ca',ck',cc',C',ra',rk',rc',R'⟩):=⟨fun b o s e=>Nat.le_trans hb2l (hf.ca b o s e),fun b o s e=>Nat.le_trans hb2l (hf.ra b o s e),fun j hj h3 b o s e=>Nat.le_trans hb2l (hf.ta j hj h3 b o s e)⟩
 clear hk9 hn9 hx hf hs hb3 CO
 clear r0 r1 r2 r3 r4
 have r0:=B2.cell (j:=0) rfl
 have r1:=B2.cell (j:=1) rfl
 have r2:=B2.cell (j:=2) rfl
 have r3:=B2.cell (j:=3) rfl
 have r4:=B2.cell (j:=4) rfl
 have rf:=B2.frozen
 go_wp2
 exact bodyPost_ret (v:=.tuple #[.agg #[.bool s',.slice x' n' c',.slice y' m' d',.slice ca' ck' cc',.slice ra' rk' rc'],.int .i64 0]) (by simp [results,Tryz.results20,go_sem,r0,r1,r2,r3,r4]) rfl ⟨⟨⟨s',x',n',c',f',y',m',d',g'⟩,ca',ck',cc',C',ra',rk',rc',R'⟩,rfl,HX.out,HS.out,HM.out,HF.out⟩
theorem rSameEq_c {L L' w sa xa na ca fa ya ma da ga sb xb nb cb fb yb mb db gb q} (ha:Rn L w sa xa na ca fa ya ma da ga q) (hb:Rn L' w sb xb nb cb fb yb mb db gb q) (h1:L ≤ 1048576) (h2:L' ≤ 1048576) :
  Calls Tryz.prog 28 #[.agg #[.bool sa,.slice xa na ca,.slice ya ma da],.agg #[.bool sb,.slice xb nb cb,.slice yb mb db]] w fun e w'=>e=.returned (.bool true) ∧ Below w.heap.size w w':=by
 have l1:=ha.ln;have l2:=ha.ld;have l3:=hb.ln;have l4:=hb.ld
 refine (rSame_c sa xa ya na ca ma da fa ga sb xb yb nb cb mb db fb gb w ha.num.rd ha.den.rd hb.num.rd hb.den.rd (by omega) (by omega) (by omega) (by omega)).mono ?_
 rintro e w' ⟨c,rfl,h3,h4⟩
 refine ⟨?_,h3⟩
 rw [h4.2 ((ha.inj hb).2 rfl)]
set_option maxRecDepth 100000 in
set_option maxHeartbeats 4000000 in
theorem vSameEq_c {w:World} {L L':Nat} {ao bo:Option Addr} {k ca cb:Nat} {v:List (Int × Rat)} (ha:Tf L w ao v) (hb:Tf L' w bo v) (hk:v.length=k) (hk2:k ≤ 1048576) (h1:L ≤ 1048576) (h2:L' ≤ 1048576) :
  Calls Tryz.prog 54 #[.slice ao k ca,.slice bo k cb] w fun e w'=>e=.returned (.bool true) ∧ Below w.heap.size w w':=by
 have HA:=hid ha;have HB:=hid hb
 have hkk:(((k:Nat):Int) != ((k:Nat):Int))=false:=by simp
 clear ha hb
 go_enter Tryz.func54,Tryz.ntmps54
 go_wp2_with fail
 go_loopw [13] (fun t wr=>∃ (i:Nat),i ≤ k ∧ t=.int .i64 i ∧ Hid (Below w.heap.size w wr)) (fun t _=>k - (intOf t).toNat)
 case atStart=>exact ⟨0,by omega,rfl,Below.refl _ _⟩
 case round =>
  obtain ⟨i,hi,rfl,HW⟩:=hrel
  by_cases hlt:i < k
  ·obtain ⟨⟨a,q⟩,hq⟩:∃ t,v[i]?=some t:=⟨_,List.getElem?_eq_getElem (by omega)⟩
   obtain ⟨b,o,⟨ts,tx,tn,tc,tf,ty,tm,td,tg⟩,rfl,hc,hr⟩:=(HA.out.below HW.out) i a q hq
   obtain ⟨b',o',⟨ss,sx,sn,sc,sf,sy,sm,sd,sg⟩,rfl,hc',hr'⟩:=(HB.out.below HW.out) i a q hq
   obtain ⟨x0,x1,x2,x3⟩:=hc
   obtain ⟨p0,p1,p2,p3⟩:=hc'
   replace x0:wr.cell? ⟨b,o + i * 4,none⟩=some (.int .i64 a):=x0
   replace x1:wr.cell? ⟨b,o + i * 4 + 1,none⟩=some (.bool ts):=x1
   replace x2:wr.cell? ⟨b,o + i * 4 + 2,none⟩=some (.slice tx tn tc):=x2
   replace x3:wr.cell? ⟨b,o + i * 4 + 3,none⟩=some (.slice ty tm td):=x3
   replace p0:wr.cell? ⟨b',o' + i * 4,none⟩=some (.int .i64 a):=p0
   replace p1:wr.cell? ⟨b',o' + i * 4 + 1,none⟩=some (.bool ss):=p1
   replace p2:wr.cell? ⟨b',o' + i * 4 + 2,none⟩=some (.slice sx sn sc):=p2
   replace p3:wr.cell? ⟨b',o' + i * 4 + 3,none⟩=some (.slice sy sm sd):=p3
   have haa:(a != a)=false:=by simp
   have CS:Hid (∀ W,Below wr.heap.size wr W → Calls Tryz.prog 28 #[.agg #[.bool ts,.slice tx tn tc,.slice ty tm td],.agg #[.bool ss,.slice sx sn sc,.slice sy sm sd]] W fun e w'=>e=.returned (.bool true) ∧ Below W.heap.size W w'):=fun W hW =>
    rSameEq_c (Rn.below hr hW) (Rn.below hr' hW) h1 h2
   have i2:((i:Nat):Int) < ((k:Nat):Int):=by omega
   clear hr hr' hq
   go_upto_region 6 with fail
   go_region_held3 (fun w'=>w'.cell? ⟨b,o + i * 4,none⟩=some (.int .i64 a) ∧ w'.cell? ⟨b,o + i * 4 + 1,none⟩=some (.bool ts) ∧ w'.cell? ⟨b,o + i * 4 + 2,none⟩=some (.slice tx tn tc) ∧ w'.cell? ⟨b,o + i * 4 + 3,none⟩=some (.slice ty tm td) ∧ w'.cell? ⟨b',o' + i * 4,none⟩=some (.int .i64 a) ∧ w'.cell? ⟨b',o' + i * 4 + 1,none⟩=some (.bool ss) ∧ w'.cell? ⟨b',o' + i * 4 + 2,none⟩=some (.slice sx sn sc) ∧ w'.cell? ⟨b',o' + i * 4 + 3,none⟩=some (.slice sy sm sd))
    (refine ⟨?_,?_,?_,?_,?_,?_,?_,?_⟩ <;> repeat (with_reducible first | assumption | refine kCd ?_ | refine kCb (by assumption) ?_))
    ((go_at_call 28;with_reducible refine (CS.out _ (by repeat (with_reducible first | assumption | exact Below.refl _ _ | refine kBdn ?_ | refine Below.drew ?_))).mono ?_;rintro e w5 ⟨rfl,hb5⟩))
   all_goals
    (have HW5:Hid (Below w.heap.size w w5):=hid (HW.out.trans (Below.mono (show Below wr.heap.size wr w5 by repeat (with_reducible first | assumption | exact Below.refl _ _ | refine kBdn ?_ | refine Below.drew ?_ | refine kBb (by assumption) ?_)) HW.out.size))
     clear x0 x1 x2 x3 p0 p1 p2 p3 CS hb5
     go_wp2
     go_roundw
     case rel=>exact ⟨i + 1,by omega,by go_num,(by first | exact HW5.out | exact HW5.out.drew | exact below_drewN HW5.out _)⟩
     case measure=>simp [intOf];omega)
  ·have i2:¬ (((i:Nat):Int) < ((k:Nat):Int)):=by omega
   go_wp2
   go_ret
   exact ⟨rfl,HW.out⟩
def Tcs (L L':Nat) (w:World) (xa ya:Option Addr) (k:Nat):Prop:=∀ j,j < k → ∃ b o b2 o2 ta tc ua uc,∃ v:List (Int × Rat),xa=some ⟨b,o,none⟩ ∧ ya=some ⟨b2,o2,none⟩ ∧ w.cell? ⟨b,o + j,none⟩=some (.slice ta v.length tc) ∧ w.cell? ⟨b2,o2 + j,none⟩=some (.slice ua v.length uc) ∧ Tf L w ta v ∧ Tf L' w ua v ∧ v.length ≤ 64
theorem Tcs.below {L L' w w' xa ya k} (h:Tcs L L' w xa ya k) (hb:Below w.heap.size w w')  :Tcs L L' w' xa ya k:=fun j hj=>by
 obtain ⟨b,o,b2,o2,ta,tc,ua,uc,v,h1,h2,h3,h4,h5,h6,h7⟩:=h j hj
 exact ⟨b,o,b2,o2,ta,tc,ua,uc,v,h1,h2,kCb hb h3,kCb hb h4,h5.below hb,h6.below hb,h7⟩
set_option maxRecDepth 100000 in
set_option maxHeartbeats 4000000 in
theorem lawColumns_c {w:World} {L L':Nat} {xa ya:Option Addr} {k xc yc:Nat} (h:Tcs L L' w xa ya k) (hk:k ≤ 64) (hL:L ≤ 1000000) (hL':L' ≤ 1000000):Calls Tryz.prog 19 #[.slice xa k xc,.slice ya k yc] w fun e w'=>e=.returned (.bool true) ∧ Below w.heap.size w w':=by
 have H:=hid h
 clear h
 have hne:(((k:Nat):Int) != ((k:Nat):Int))=false:=by simp
 go_enter Tryz.func19,Tryz.ntmps19
 go_wp2_with fail
 go_loopw [13] (fun t wr=>∃ (i:Nat),i ≤ k ∧ t=.int .i64 i ∧ Hid (Below w.heap.size w wr)) (fun t _=>k - (intOf t).toNat)
 case atStart=>exact ⟨0,by omega,rfl,Below.refl _ _⟩
 case round =>
  obtain ⟨i,hi,rfl,HB⟩:=hrel
  by_cases hlt:i < k
  ·obtain ⟨b,o,b2,o2,ta,tc,ua,uc,v,rfl,rfl,x1,x2,h5,h6,h7⟩:=(H.out.below HB.out) i hlt
   have CS:=hid (fun w' (hw:Below wr.heap.size wr w')=>vSameEq_c (w:=w') (ca:=tc) (cb:=uc) (h5.below hw) (h6.below hw) rfl (Nat.le_trans h7 (by decide)) (Nat.le_trans hL (by decide)) (Nat.le_trans hL' (by decide)))
   obtain ⟨n,hn⟩:∃ n,v.length=n:=⟨_,rfl⟩
   rw [hn] at CS x1 x2
   have i1:((i:Nat):Int) < ((k:Nat):Int):=by omega
   have H5:=hid h5
   clear h5 h6 h7 hn H5
   go_upto_region 6 with fail
   have hbd:=Below.drew (Below.refl wr.heap.size wr)
   have y1:=kCb hbd x1
   have y2:=kCb hbd x2
   have HW:=hid hbd
   clear hbd x1 x2
   refine wp_region_held_drew (S:=(fun w'=>w'.cell? ⟨b,o + i,none⟩=some (.slice ta n tc) ∧ w'.cell? ⟨b2,o2 + i,none⟩=some (.slice ua n uc))) (by kernel_rfl) ?_ (fun hHeld=>?_)
   ·exact ⟨y1,y2⟩
   generalize hwd:wr.drew=wd at *
   clear hwd
   refine wpAnyH_take (i:=0) (v:=?_) rfl (by kernel_rfl) (by kernel_rfl) (by kernel_rfl) (fun _ _ _ h=>h) (Or.inl ⟨by rfl,?_⟩) (by assumption) ?_
   rotate_left
   (focus (intro w0 hSw;(try dsimp only at hSw);go_simp <;> with_reducible rfl))
   simp only [List.getElem_toArray,List.getElem_cons_zero,Act.put,List.setIfInBounds_toArray,List.set_cons_zero,List.set_cons_succ]
   refine wpAnyH_take (i:=1) (v:=?_) rfl (by kernel_rfl) (by kernel_rfl) (by kernel_rfl) (fun _ _ _ h=>h) (Or.inl ⟨by rfl,?_⟩) (by assumption) ?_
   rotate_left
   (focus (intro w0 hSw;(try dsimp only at hSw);go_simp <;> with_reducible rfl))
   simp only [List.getElem_toArray,List.getElem_cons_succ,List.getElem_cons_zero,Act.put,List.setIfInBounds_toArray,List.set_cons_zero,List.set_cons_succ]
   refine wpAnyH_take (i:=2) (v:=?_) rfl (by kernel_rfl) (by kernel_rfl) (by kernel_rfl) (fun _ _ _ h=>h) (Or.inl ⟨by rfl,?_⟩) (by assumption) ?_
   rotate_left
   (focus (intro w0 hSw;(try dsimp only at hSw);go_simp <;> with_reducible rfl))
   simp only [List.getElem_toArray,List.getElem_cons_succ,List.getElem_cons_zero,Act.put,List.setIfInBounds_toArray,List.set_cons_zero,List.set_cons_succ]
   refine wpAnyH_take (i:=3) (v:=?_) rfl (by kernel_rfl) (by kernel_rfl) (by kernel_rfl) (fun _ _ _ h=>h) (Or.inl ⟨by rfl,?_⟩) (by assumption) ?_
   rotate_left
   (focus (intro w0 hSw;(try dsimp only at hSw);go_simp <;> with_reducible rfl))
   simp only [List.getElem_toArray,List.getElem_cons_succ,List.getElem_cons_zero,Act.put,List.setIfInBounds_toArray,List.set_cons_zero,List.set_cons_succ]
   refine wpAnyH_take (i:=4) (v:=?_) rfl (by kernel_rfl) (by kernel_rfl) (by kernel_rfl) (fun _ _ _ h=>h) (Or.inl ⟨by rfl,?_⟩) (by assumption) ?_
   rotate_left
   (focus (intro w0 hSw;(try dsimp only at hSw);go_simp <;> with_reducible rfl))
   simp only [List.getElem_toArray,List.getElem_cons_succ,List.getElem_cons_zero,Act.put,List.setIfInBounds_toArray,List.set_cons_zero,List.set_cons_succ]
   refine wpAnyH_take (i:=5) (v:=?_) rfl (by kernel_rfl) (by kernel_rfl) (by kernel_rfl) (fun _ _ _ h=>h) (Or.inl ⟨by rfl,?_⟩) (by assumption) ?_
   rotate_left
   (focus (intro w0 hSw;(try dsimp only at hSw);go_simp <;> with_reducible rfl))
   simp only [List.getElem_toArray,List.getElem_cons_succ,List.getElem_cons_zero,Act.put,List.setIfInBounds_toArray,List.set_cons_zero,List.set_cons_succ]
   refine wpAnyH_take (i:=6) (v:=?_) rfl (by kernel_rfl) (by kernel_rfl) (by kernel_rfl) (fun _ _ _ h=>h) (Or.inl ⟨by rfl,?_⟩) (by assumption) ?_
   rotate_left
   (focus (intro w0 hSw;(try dsimp only at hSw);go_simp <;> with_reducible rfl))
   simp only [List.getElem_toArray,List.getElem_cons_succ,List.getElem_cons_zero,Act.put,List.setIfInBounds_toArray,List.set_cons_zero,List.set_cons_succ]
   refine wpAnyH_take (i:=7) (v:=?_) rfl (by kernel_rfl) (by kernel_rfl) (by kernel_rfl) (fun _ _ _ h=>h) (Or.inl ⟨by rfl,?_⟩) (by assumption) ?_
   rotate_left
   (focus (intro w0 hSw;(try dsimp only at hSw);go_simp <;> with_reducible rfl))
   simp only [List.getElem_toArray,List.getElem_cons_succ,List.getElem_cons_zero,Act.put,List.setIfInBounds_toArray,List.set_cons_zero,List.set_cons_succ]
   refine wpAnyH_ready (rs:=[8]) (by kernel_rfl) (by simp) ?_
   refine AllReadyH.cons (o:=_) rfl (fun K hK=>?_) ?_
   rotate_left
   exact AllReadyH.nil
   go_simp
   go_at_call 54
   refine (CS.out _ HW.out).mono ?_
   rintro e w7 ⟨rfl,hb7⟩
   have HW7:=hid (HW.out.trans (hb7.mono HW.out.size))
   (try go_wp2_with fail)
   refine hK.out _ _ ?_ (fun hH7=>?_)
   ·((try dsimp only);(refine ⟨?_,?_⟩ <;> repeat (with_reducible first | assumption | refine kCb hb7 ?_)))
   clear hK K
   try simp only [Act.put,List.setIfInBounds_toArray,List.set_cons_zero,List.set_cons_succ]
   refine wpAnyH_take (i:=9) (v:=?_) rfl (by kernel_rfl) (by kernel_rfl) (by kernel_rfl) (fun _ _ _ h=>h) (Or.inl ⟨by rfl,?_⟩) (by assumption) ?_
   rotate_left
   (focus (intro w0 hSw;(try dsimp only at hSw);go_simp <;> with_reducible rfl))
   simp only [List.getElem_toArray,List.getElem_cons_succ,List.getElem_cons_zero,Act.put,List.setIfInBounds_toArray,List.set_cons_zero,List.set_cons_succ]
   refine wpAnyH_done (by kernel_rfl) ?_ _
   have HB9:=hid (HB.out.trans (HW7.out.mono HB.out.size))
   clear hHeld hH7 hb7 HW HW7 CS y1 y2
   go_wp2
   go_roundw
   case rel=>exact ⟨i + 1,by omega,by go_num,HB9.out⟩
   case measure=>simp [intOf];omega
  ·have i2:¬ (((i:Nat):Int) < ((k:Nat):Int)):=by omega
   clear H
   go_wp2
   go_ret
   exact ⟨rfl,HB.out⟩
end Go.Proofs.YtgmllfcngnfpkaaGreat
