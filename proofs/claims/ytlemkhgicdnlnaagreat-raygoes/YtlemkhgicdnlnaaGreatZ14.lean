/-
 The walks of package ray's slope, by values, of Recedes, Valid, whatever they are handed (written by makers/ra2.py). The walk of package ray's Along, whatever it is handed (written by makers/ra3.py). The walk of law07's awake (written by makers/f23.py). Ray's calls on values; the walks of law13's one, first, light, of the reference's Twin of a ray, of awake (written by makers/ra4.py). The reference's Same and Sames of lists with the same values. The walk of law13's awake (written by makers/ra5.py). The reference's models by their values; the walk of the reference's From of a model (written by makers/f32.py). A model that is well formed has values; the walks of the reference's Crossed and DocCrossed (written by makers/f33.py). The walk of the law ModelNames (written by makers/f28.py). The walk of law17's awake, and of StackNew (written by makers/o5.py). The walks of the reference's Same of points, of certificates and of bases that are alike; of the calls of a nil stack; of StackNone (written by makers/o6.py). Lists of numbers that are copies; the walk of law17's lists, and what it answers. Twins have the same values; what adds up along directions. The walks of law13's light, of the reference's Twin of a ray (written by makers/ra7.py). Ray's calls on twins of a model and of lists, by what the model and the lists are; the sum of two directions. Along a direction that recedes points stay points, and values move by the slope.
-/
import Derived.Test.YtlemkhgicdnlnaaGreatZ13
import Derived.Test.YtlemkhgicdnlnaaGreatZ10
import Derived.Test.YtlemkhgicdnlnaaGreatZ12
import Derived.Test.YtlemkhgicdnlnaaGreatZ9
import Derived.Test.YtlemkhgicdnlnaaGreatZ8
import Derived.Test.YtlemkhgicdnlnaaGreatZ6
import Derived.BigQuiet
import Derived.Deep.RegionHeld3
import Derived.BigRegion
import Derived.Test.YtlemkhgicdnlnaaGreatZ11
import Derived.Test.YtlemkhgicdnlnaaGreatZ7
namespace Go.Proofs.YtlemkhgicdnlnaaGreat
open Go.RowKit
/-- By how much the value grows along a direction. -/
def slpQ (cs:List CV) (ds:List Rat):Rat:=psum (costs cs ds) 0
set_option maxRecDepth 100000 in
set_option maxHeartbeats 8000000 in
theorem slope_c {w:World} {L:Nat} {M:Mo} {off:Rat} {cs:List CV} {rs:List RV} {ao:Option Addr} {k cap:Nat} {xs:List Rat} (h:MoV L w M off cs rs) (hx:Rf L w ao xs) (hk:xs.length=k) (hkc:k=cs.length) (l64:cs.length ≤ 64) (hL:L ≤ 100) :
  Calls Tryz.prog 32 #[M.val,.slice ao k cap] w fun e w'=>RatAns (KA L) w w' e (slpQ cs xs):=by
 subst hkc
 have hck:M.ck=cs.length:=h.ck
 have hC:=h.cls
 clear h
 obtain ⟨⟨s,x,n,c,f,y,m,d,g⟩,ca,ck,cc,C,ra,rk,rc,R⟩:=M
 replace hck:ck=cs.length:=hck
 subst hck
 have HC:Hid (∀ j v,cs[j]?=some v → (∃ b o,ca=some ⟨b,o,none⟩ ∧ Cs w b (o + j * 12) (C j).vs) ∧ ColV L w (C j) v):=hC
 have HX:=hid hx;have HXL:=hid hk
 clear hC hx hk
 show Calls Tryz.prog 32 #[.agg #[.bool s,.slice x n c,.slice y m d,.slice ca cs.length cc,.slice ra rk rc],.slice ao cs.length cap] w _
 have hb:=below_alloc (below_alloc (Below.refl w.heap.size w) (.cells #[.bool s,.slice x n c,.slice y m d,.slice ca cs.length cc,.slice ra rk rc] 28)) (.cells #[.bool false,.slice none 0 0,.slice none 0 0] 24)
 have BM:Hid (Bk ((w.alloc (.cells #[.bool s,.slice x n c,.slice y m d,.slice ca cs.length cc,.slice ra rk rc] 28)).alloc (.cells #[.bool false,.slice none 0 0,.slice none 0 0] 24)) w.heap.size [.bool s,.slice x n c,.slice y m d,.slice ca cs.length cc,.slice ra rk rc] 28):=(bk_new w [.bool s,.slice x n c,.slice y m d,.slice ca cs.length cc,.slice ra rk rc] 28).below (below_alloc (Below.refl _ _) _)
 have hob:=ob_new (w.alloc (.cells #[.bool s,.slice x n c,.slice y m d,.slice ca cs.length cc,.slice ra rk rc] 28)) 24
 rw [size_alloc1] at hob
 have OB:=hid hob;have HB:=hid hb
 clear hb hob
 go_enter Tryz.func32,Tryz.ntmps32
 have r0:=BM.out.cell (j:=0) rfl
 have r1:=BM.out.cell (j:=1) rfl
 have r2:=BM.out.cell (j:=2) rfl
 have r3:=BM.out.cell (j:=3) rfl
 have r4:=BM.out.cell (j:=4) rfl
 go_wp2_with fail
 clear r0 r1 r2 r3 r4
 generalize ((w.alloc (.cells #[.bool s,.slice x n c,.slice y m d,.slice ca cs.length cc,.slice ra rk rc] 28)).alloc (.cells #[.bool false,.slice none 0 0,.slice none 0 0] 24))=w1 at *
 go_loopw [5,11] (fun ov t wr=>∃ (i:Nat),i ≤ cs.length ∧ t=.int .i64 i ∧ Hid (Below w1.heap.size w1 wr) ∧ Hid (Gr (2 * L + 1) w1.heap.size wr ov ((costs cs xs).take i))) (fun _ t _=>cs.length - (intOf t).toNat)
 case atStart=>exact ⟨0,by omega,rfl,Below.refl _ _,gr_nil _ _ _⟩
 case round =>
  obtain ⟨i,hi,rfl,HB2,HG2⟩:=hrel
  have hcl:(costs cs xs).length=cs.length:=by unfold costs;rw [List.length_zipWith,HXL.out,Nat.min_self]
  have hgl:((costs cs xs).take i).length=i:=by rw [List.length_take];omega
  by_cases hlt:i < cs.length
  ·obtain ⟨v,hv⟩:∃ t,cs[i]?=some t:=⟨_,List.getElem?_eq_getElem (by omega)⟩
   obtain ⟨⟨b,o,hba,hc⟩,hV⟩:=HC.out i v hv
   subst hba
   have hbz:=HB.out.trans (HB2.out.mono HB.out.size)
   have hcost:=hV.cost.below hbz
   obtain ⟨⟨z,⟨s0,x0,n0,c0,f0,y0,m0,d0,g0⟩,⟨i1,⟨s1,x1,n1,c1,f1,y1,m1,d1,g1⟩⟩,⟨i2,⟨s2,x2,n2,c2,f2,y2,m2,d2,g2⟩⟩⟩,hCi⟩:∃ t,C i=t:=⟨_,rfl⟩
   rw [hCi] at hc hcost
   replace hcost:Rn L wr s0 x0 n0 c0 f0 y0 m0 d0 g0 v.cost:=hcost
   replace hc:=Cs.below hc hbz
   have q0:wr.cell? ⟨b,o + i * 12,none⟩=some (.string z):=hc 0 _ rfl
   have q1:wr.cell? ⟨b,o + i * 12 + 1,none⟩=some (.bool s0):=hc 1 _ rfl
   have q2:wr.cell? ⟨b,o + i * 12 + 2,none⟩=some (.slice x0 n0 c0):=hc 2 _ rfl
   have q3:wr.cell? ⟨b,o + i * 12 + 3,none⟩=some (.slice y0 m0 d0):=hc 3 _ rfl
   have q4:wr.cell? ⟨b,o + i * 12 + 4,none⟩=some (.int .i64 i1):=hc 4 _ rfl
   have q5:wr.cell? ⟨b,o + i * 12 + 5,none⟩=some (.bool s1):=hc 5 _ rfl
   have q6:wr.cell? ⟨b,o + i * 12 + 6,none⟩=some (.slice x1 n1 c1):=hc 6 _ rfl
   have q7:wr.cell? ⟨b,o + i * 12 + 7,none⟩=some (.slice y1 m1 d1):=hc 7 _ rfl
   have q8:wr.cell? ⟨b,o + i * 12 + 8,none⟩=some (.int .i64 i2):=hc 8 _ rfl
   have q9:wr.cell? ⟨b,o + i * 12 + 9,none⟩=some (.bool s2):=hc 9 _ rfl
   have q10:wr.cell? ⟨b,o + i * 12 + 10,none⟩=some (.slice x2 n2 c2):=hc 10 _ rfl
   have q11:wr.cell? ⟨b,o + i * 12 + 11,none⟩=some (.slice y2 m2 d2):=hc 11 _ rfl
   obtain ⟨r,hr⟩:∃ t,xs[i]?=some t:=⟨_,List.getElem?_eq_getElem (by have:=HXL.out;omega)⟩
   obtain ⟨b',o',⟨ss,sx,sn,sc,sf,sy,sm,sd,sg⟩,hax,⟨p0,p1,p2⟩,hr'⟩:=(HX.out.below hbz) i r hr
   subst hax
   replace p0:wr.cell? ⟨b',o' + i * 3,none⟩=some (.bool ss):=p0
   replace p1:wr.cell? ⟨b',o' + i * 3 + 1,none⟩=some (.slice sx sn sc):=p1
   replace p2:wr.cell? ⟨b',o' + i * 3 + 2,none⟩=some (.slice sy sm sd):=p2
   replace hr':Rn L wr ss sx sn sc sf sy sm sd sg r:=hr'
   have HCI:Hid ((costs cs xs).take (i + 1)=(costs cs xs).take i ++ [v.cost * r]):=by
    show _=_
    rw [List.take_add_one]
    congr 1
    unfold costs
    rw [List.getElem?_zipWith,hv,hr];rfl
   have hbt:=below_alloc (Below.refl wr.heap.size wr) (.cells #[.string z,.bool s0,.slice x0 n0 c0,.slice y0 m0 d0,.int .i64 i1,.bool s1,.slice x1 n1 c1,.slice y1 m1 d1,.int .i64 i2,.bool s2,.slice x2 n2 c2,.slice y2 m2 d2] 72)
   have a1:(wr.alloc (.cells #[.string z,.bool s0,.slice x0 n0 c0,.slice y0 m0 d0,.int .i64 i1,.bool s1,.slice x1 n1 c1,.slice y1 m1 d1,.int .i64 i2,.bool s2,.slice x2 n2 c2,.slice y2 m2 d2] 72)).cell? ⟨wr.heap.size,1,none⟩=some (.bool s0):=by simp [go_sem]
   have a2:(wr.alloc (.cells #[.string z,.bool s0,.slice x0 n0 c0,.slice y0 m0 d0,.int .i64 i1,.bool s1,.slice x1 n1 c1,.slice y1 m1 d1,.int .i64 i2,.bool s2,.slice x2 n2 c2,.slice y2 m2 d2] 72)).cell? ⟨wr.heap.size,2,none⟩=some (.slice x0 n0 c0):=by simp [go_sem]
   have a3:(wr.alloc (.cells #[.string z,.bool s0,.slice x0 n0 c0,.slice y0 m0 d0,.int .i64 i1,.bool s1,.slice x1 n1 c1,.slice y1 m1 d1,.int .i64 i2,.bool s2,.slice x2 n2 c2,.slice y2 m2 d2] 72)).cell? ⟨wr.heap.size,3,none⟩=some (.slice y0 m0 d0):=by simp [go_sem]
   have i1':((i:Nat):Int) < ((cs.length:Nat):Int):=by omega
   clear hCi hc hV hv hr
   go_upto_region 5 with fail
   clear q0 q1 q2 q3 q4 q5 q6 q7 q8 q9 q10 q11
   replace p0:=kCb hbt p0;replace p1:=kCb hbt p1;replace p2:=kCb hbt p2
   have HB3:=hid (HB2.out.trans (hbt.mono HB2.out.size));have HG3:=hid (HG2.out.below hbt);have R1:=hid (hcost.below hbt);have R2:=hid (hr'.below hbt)
   clear hbz hbt HB2 HG2 hcost hr'
   generalize hbx:wr.heap.size=bx at *
   generalize wr.alloc (.cells #[.string z,.bool s0,.slice x0 n0 c0,.slice y0 m0 d0,.int .i64 i1,.bool s1,.slice x1 n1 c1,.slice y1 m1 d1,.int .i64 i2,.bool s2,.slice x2 n2 c2,.slice y2 m2 d2] 72)=w5 at *
   clear hbx
   refine wp_region_phase (S:=(fun w'=>w'.cell? ⟨bx,1,none⟩=some (.bool s0) ∧ w'.cell? ⟨bx,2,none⟩=some (.slice x0 n0 c0) ∧ w'.cell? ⟨bx,3,none⟩=some (.slice y0 m0 d0) ∧ w'.cell? ⟨b',o' + i * 3,none⟩=some (.bool ss) ∧ w'.cell? ⟨b',o' + i * 3 + 1,none⟩=some (.slice sx sn sc) ∧ w'.cell? ⟨b',o' + i * 3 + 2,none⟩=some (.slice sy sm sd))) 7 (by kernel_rfl) ⟨kCd a1,kCd a2,kCd a3,kCd p0,kCd p1,kCd p2⟩ (fun hHeld=>?_)
   refine wpAnyP_skim (i:=0) (v:=?_) rfl (by kernel_rfl) (by kernel_rfl) (by kernel_rfl) (by kernel_rfl) (fun _ _ _ h=>h) (Or.inl ⟨by rfl,?_⟩) (fun _=>by assumption) ?_
   rotate_left
   (focus (intro w0 hSw;go_simp <;> with_reducible rfl))
   simp only [List.getElem_toArray,List.getElem_cons_zero,Act.put,List.setIfInBounds_toArray,List.set_cons_zero,List.set_cons_succ]
   refine wpAnyP_skim (i:=1) (v:=?_) rfl (by kernel_rfl) (by kernel_rfl) (by kernel_rfl) (by kernel_rfl) (fun _ _ _ h=>h) (Or.inl ⟨by rfl,?_⟩) (fun _=>by assumption) ?_
   rotate_left
   (focus (intro w0 hSw;go_simp <;> with_reducible rfl))
   simp only [List.getElem_toArray,List.getElem_cons_succ,List.getElem_cons_zero,Act.put,List.setIfInBounds_toArray,List.set_cons_zero,List.set_cons_succ]
   refine wpAnyP_takeA (i:=2) (v:=?_) rfl (by kernel_rfl) (by kernel_rfl) (by kernel_rfl) (by kernel_rfl) (by kernel_rfl) (by kernel_rfl) (fun _ _ _ h=>h) (Or.inl ⟨by rfl,?_⟩) (by assumption) ?_
   rotate_left
   (focus (intro w0 hSw;(try dsimp only at hSw);go_simp <;> with_reducible rfl))
   simp only [List.getElem_toArray,List.getElem_cons_succ,List.getElem_cons_zero,Act.put,List.setIfInBounds_toArray,List.set_cons_zero,List.set_cons_succ]
   refine wpAnyP_skim (i:=3) (v:=?_) rfl (by kernel_rfl) (by kernel_rfl) (by kernel_rfl) (by kernel_rfl) (fun _ _ _ h=>h) (Or.inl ⟨by rfl,?_⟩) (fun _=>by assumption) ?_
   rotate_left
   (focus (intro w0 hSw;go_simp <;> with_reducible rfl))
   simp only [List.getElem_toArray,List.getElem_cons_succ,List.getElem_cons_zero,Act.put,List.setIfInBounds_toArray,List.set_cons_zero,List.set_cons_succ]
   refine wpAnyP_skim (i:=4) (v:=?_) rfl (by kernel_rfl) (by kernel_rfl) (by kernel_rfl) (by kernel_rfl) (fun _ _ _ h=>h) (Or.inl ⟨by rfl,?_⟩) (fun _=>by assumption) ?_
   rotate_left
   (focus (intro w0 hSw;go_simp <;> with_reducible rfl))
   simp only [List.getElem_toArray,List.getElem_cons_succ,List.getElem_cons_zero,Act.put,List.setIfInBounds_toArray,List.set_cons_zero,List.set_cons_succ]
   refine wpAnyP_skim (i:=5) (v:=?_) rfl (by kernel_rfl) (by kernel_rfl) (by kernel_rfl) (by kernel_rfl) (fun _ _ _ h=>h) (Or.inl ⟨by rfl,?_⟩) (fun _=>by assumption) ?_
   rotate_left
   (focus (intro w0 hSw;go_simp <;> with_reducible rfl))
   simp only [List.getElem_toArray,List.getElem_cons_succ,List.getElem_cons_zero,Act.put,List.setIfInBounds_toArray,List.set_cons_zero,List.set_cons_succ]
   refine wpAnyP_takeA (i:=6) (v:=?_) rfl (by kernel_rfl) (by kernel_rfl) (by kernel_rfl) (by kernel_rfl) (by kernel_rfl) (by kernel_rfl) (fun _ _ _ h=>h) (Or.inl ⟨by rfl,?_⟩) (by assumption) ?_
   rotate_left
   (focus (intro w0 hSw;(try dsimp only at hSw);go_simp <;> with_reducible rfl))
   simp only [List.getElem_toArray,List.getElem_cons_succ,List.getElem_cons_zero,Act.put,List.setIfInBounds_toArray,List.set_cons_zero,List.set_cons_succ]
   refine wpAnyP_ready (rs:=[7]) (by kernel_rfl) (by simp) ?_
   refine AllReadyP.cons (o:=_) rfl (fun K hK=>?_) ?_
   rotate_left
   exact AllReadyP.nil
   go_simp
   go_at_call 44
   refine (rtimes_c (L:=L) (kRnd R1.out) (kRnd R2.out) (by omega)).mono ?_
   rintro e w6 ⟨s6,x6,n6,c6,f6,y6,m6,d6,g6,rfl,hb6,hq6⟩
   (try go_wp2_with fail)
   refine hK.out _ _ (fun h=>by cases h) (fun _=>?_)
   clear hK K
   try simp only [Act.put,List.setIfInBounds_toArray,List.set_cons_zero,List.set_cons_succ]
   refine wpAnyP_ready (rs:=[8]) (by kernel_rfl) (by simp) ?_
   refine AllReadyP.cons (o:=_) rfl (fun K hK=>?_) ?_
   rotate_left
   exact AllReadyP.nil
   go_simp
   refine hK.out _ _ (fun h=>by cases h) (fun _=>?_)
   clear hK K
   try simp only [Act.put,List.setIfInBounds_toArray,List.set_cons_zero,List.set_cons_succ]
   refine wpAnyP_ready (rs:=[9]) (by kernel_rfl) (by simp) ?_
   refine AllReadyP.cons (o:=_) rfl (fun K hK=>?_) ?_
   rotate_left
   exact AllReadyP.nil
   obtain ⟨T,hrow,hT⟩:=(Gr.below HG3.out (Below.drew (Below.refl w5.heap.size w5))).below hb6
   rw [hgl] at hrow
   refine step_append_one w6 rfl (.tmp 16) (.tmp 24) 29 rfl w1.heap.size 24 56 3 (.agg #[.bool false,.slice none 0 0,.slice none 0 0]) Tryz.underlying29 Tryz.infoRat rfl (by decide) nz3 u5 i _ rfl hrow #[.bool s6,.slice x6 n6 c6,.slice y6 m6 d6] rfl rfl (one3 _ _ _ _ _ _ _) (not3 _ _ _ _ _ _ _) (by omega) (by decide) ?hz ?_
   case hz=>exact (HB3.out.drew.trans (hb6.mono HB3.out.drew.size)).size
   intro g8 cap8 w8 hr8 hk8 hb8 hg8
   have HB8:Hid (Below w1.heap.size w1 w8):=hb8 w1 (HB3.out.drew.trans (hb6.mono HB3.out.drew.size)) (Nat.le_refl _)
   have HG8:Hid (Gr (2 * L + 1) w1.heap.size w8 (.slice (some ⟨g8,0,none⟩) (i + 1) cap8) ((costs cs xs).take (i + 1))):=by
    have hp8:=gr_push (p:=(costs cs xs).take i) hT (by rw [hgl];exact hr8) hk8 hq6
    rw [hgl] at hp8
    rw [HCI.out];exact hp8
   clear hr8 hk8 hb8 hg8 hrow hT hb6 hq6 HG3 HB3 R1 R2
   refine hK.out _ _ (fun h=>by cases h) (fun _=>?_)
   clear hK K
   simp only [List.getElem_toArray,List.getElem_cons_succ,List.getElem_cons_zero,Act.put,List.setIfInBounds_toArray,List.set_cons_zero,List.set_cons_succ]
   refine wpAnyP_skim (i:=10) (v:=?_) rfl (by kernel_rfl) (by kernel_rfl) (by kernel_rfl) (by kernel_rfl) (fun _ _ _ h=>h) (Or.inl ⟨by rfl,?_⟩) (fun h=>by cases h) ?_
   rotate_left
   (focus (intro w0 hSw;go_simp <;> with_reducible rfl))
   simp only [List.getElem_toArray,List.getElem_cons_succ,List.getElem_cons_zero,Act.put,List.setIfInBounds_toArray,List.set_cons_zero,List.set_cons_succ]
   refine wpAnyP_done (by kernel_rfl) ?_ _
   clear hHeld a1 a2 a3 p0 p1 p2
   go_wp2
   go_roundw
   case rel=>exact ⟨i + 1,by omega,by go_num,HB8.out,HG8.out⟩
   case measure=>simp [intOf];omega
  ·have i4:¬ (((i:Nat):Int) < ((cs.length:Nat):Int)):=by omega
   have e9:i=cs.length:=by omega
   obtain ⟨va,vc,hvs,hvc⟩:=HG2.out.slice
   rw [hgl] at hvs
   have HG4:=HG2.out
   rw [hvs] at HG4
   replace HG4:=hid (show Rf (2 * L + 1) wr va (costs cs xs) by have:=HG4.rf;rw [List.take_of_length_le (by omega)] at this;exact this)
   subst hvs
   have HLen:=hid (show (costs cs xs).length=i by omega)
   have hi65:i ≤ 64:=by omega
   replace HB:=hid (HB.out.trans (HB2.out.mono HB.out.size));replace OB:=hid (OB.out.below HB2.out)
   clear HG2 HB2 hgl hcl e9 HC HX BM
   go_wp2_with fail
   refine (pSum_c (L:=2 * L + 1) HG4.out HLen.out (by omega) (by omega)).mono ?_
   rintro e w6 ⟨s6,x6,n6,c6,f6,y6,m6,d6,g6,rfl,hb6,hq6⟩
   replace HB:=hid (HB.out.trans (hb6.mono HB.out.size));replace OB:=hid (OB.out.below hb6)
   have HQ:=hid (show Rn (KA L) w6 s6 x6 n6 c6 f6 y6 m6 d6 g6 (slpQ cs xs) from hq6.mono (by unfold KA;have:i * (2 * L + 1 + 1) ≤ 64 * (2 * L + 1 + 1):=Nat.mul_le_mul_right _ hi65;omega))
   clear hb6 hq6 HG4 HLen
   obtain ⟨hz,z0,z1,z2,zf⟩:=OB.out
   go_wp2
   exact bodyPost_ret (v:=.agg #[.bool s6,.slice x6 n6 c6,.slice y6 m6 d6]) (by simp [results,Tryz.results32,go_sem,z0,z1,z2]) rfl ⟨s6,x6,n6,c6,f6,y6,m6,d6,g6,rfl,below_st HB.out (by omega),OB.out.rn HQ.out⟩
/-- Does a direction recede, by values? -/
def recB (e0 er:Int) (cs:List CV) (rs:List RV) (ds:List Rat):Bool:=decide (e0=0) && (decide (er=0) && endB cs rs ds (rs.map (actQ ds)))
set_option maxRecDepth 100000 in
set_option maxHeartbeats 4000000 in
theorem rRec_v {w:World} {L:Nat} {M:Mo} {off:Rat} {cs:List CV} {rs:List RV} {ao:Option Addr} {k cap:Nat} {X:Nat → Nm} {ds:List Rat} {e0 er:Int} (hW:MoW w M) (hx:Rl w ao k X) (hk:k ≤ 1048576) (hc:chkE M=e0) (he:pckE M k X=er) (hv:er=0 → MoV L w M off cs rs ∧ mvOk cs rs=true ∧ Rf L w ao ds ∧ ds.length=k ∧ k=cs.length) (hL:L ≤ 30) :
  Calls Tryz.prog 13 #[M.val,.slice ao k cap] w fun e w'=>e=.returned (.tuple #[.bool (recB e0 er cs rs ds),.int .i64 e0]) ∧ Below w.heap.size w w':=by
 have CC:=hid (fun W (hW2:Below w.heap.size w W)=>check_w (hW.below hW2))
 rw [hc] at CC
 have CA:Hid (∀ W,Below w.heap.size w W → Calls Tryz.prog 38 #[M.val,.slice ao k cap] W fun e w'=>AcAns L W w' e er rs ds):=fun W hW2=>pActs_v (hW.below hW2) (hx.below hW2) hk he (fun h0=>⟨(hv h0).1.below hW2,(hv h0).2.1,(hv h0).2.2.1.below hW2,(hv h0).2.2.2⟩) hL
 have CE:Hid (er=0 → ∀ W aa ca,Below w.heap.size w W → Rf (KA L) W aa (rs.map (actQ ds)) → Calls Tryz.prog 39 #[M.val,.slice ao k cap,.slice aa rs.length ca] W fun e w'=>e=.returned (.bool (endB cs rs ds (rs.map (actQ ds)))) ∧ Below W.heap.size W w'):=fun h0 W aa ca hW2 ha=>by
  obtain ⟨v1,v2,v3,v4,v5⟩:=hv h0
  have mp:=mvOk_p v2
  exact endless_c (v1.below hW2) (v3.below hW2) ha v4 v5 (by rw [List.length_map]) rfl mp.cl mp.rl
 clear hW hx hv he hc
 obtain ⟨⟨s,x,n,c,f,y,m,d,g⟩,ca,ck,cc,C,ra,rk,rc,R⟩:=M
 replace CC:Hid (∀ W,Below w.heap.size w W → Calls Tryz.prog 37 #[.agg #[.bool s,.slice x n c,.slice y m d,.slice ca ck cc,.slice ra rk rc]] W fun e w'=>e=.returned (.int .i64 e0) ∧ Below W.heap.size W w'):=CC
 replace CA:Hid (∀ W,Below w.heap.size w W → Calls Tryz.prog 38 #[.agg #[.bool s,.slice x n c,.slice y m d,.slice ca ck cc,.slice ra rk rc],.slice ao k cap] W fun e w'=>AcAns L W w' e er rs ds):=CA
 replace CE:Hid (er=0 → ∀ W aa ca',Below w.heap.size w W → Rf (KA L) W aa (rs.map (actQ ds)) → Calls Tryz.prog 39 #[.agg #[.bool s,.slice x n c,.slice y m d,.slice ca ck cc,.slice ra rk rc],.slice ao k cap,.slice aa rs.length ca'] W fun e w'=>e=.returned (.bool (endB cs rs ds (rs.map (actQ ds)))) ∧ Below W.heap.size W w'):=CE
 show Calls Tryz.prog 13 #[.agg #[.bool s,.slice x n c,.slice y m d,.slice ca ck cc,.slice ra rk rc],.slice ao k cap] w _
 have hb:=below_alloc (Below.refl w.heap.size w) (.cells #[.bool s,.slice x n c,.slice y m d,.slice ca ck cc,.slice ra rk rc] 28)
 have BM:Hid (Bk (w.alloc (.cells #[.bool s,.slice x n c,.slice y m d,.slice ca ck cc,.slice ra rk rc] 28)) w.heap.size [.bool s,.slice x n c,.slice y m d,.slice ca ck cc,.slice ra rk rc] 28):=bk_new w [.bool s,.slice x n c,.slice y m d,.slice ca ck cc,.slice ra rk rc] 28
 have HB:=hid hb
 clear hb
 go_enter Tryz.func13,Tryz.ntmps13
 go_wp2_with fail
 generalize w.alloc (.cells #[.bool s,.slice x n c,.slice y m d,.slice ca ck cc,.slice ra rk rc] 28)=w0 at *
 refine (CC.out _ HB.out).mono ?_
 rintro e w1 ⟨rfl,hb⟩
 replace HB:=hid (HB.out.trans (hb.mono HB.out.size));replace BM:=hid (BM.out.below hb)
 clear hb CC
 by_cases h0:e0=0
 case neg =>
  have h1:(e0 != 0)=true:=by simpa using h0
  have HF:Hid (recB e0 er cs rs ds=false):=by show _=_;rw [recB,decide_eq_false h0];rfl
  clear h0
  go_wp2
  go_ret2
  exact ⟨by rw [HF.out];rfl,HB.out⟩
 subst h0
 have r0:=BM.out.cell (j:=0) rfl
 have r1:=BM.out.cell (j:=1) rfl
 have r2:=BM.out.cell (j:=2) rfl
 have r3:=BM.out.cell (j:=3) rfl
 have r4:=BM.out.cell (j:=4) rfl
 go_wp2_with fail
 refine (CA.out _ HB.out).mono ?_
 rintro e w2 ⟨hb,hans⟩
 replace HB:=hid (HB.out.trans (hb.mono HB.out.size));replace BM:=hid (BM.out.below hb)
 clear hb CA r0 r1 r2 r3 r4
 rcases hans with ⟨h0,rfl⟩ | ⟨h0,aa,ac,rfl,hac,hR⟩
 ·have h1:(er == 0)=false:=by simpa using h0
  have HF:Hid (recB 0 er cs rs ds=false):=by show _=_;rw [recB,decide_eq_false h0];rfl
  clear h0 CE
  go_wp2
  go_ret2
  exact ⟨by rw [HF.out];rfl,HB.out⟩
 ·have CE2:=hid (CE.out h0)
  subst h0
  have HR:=hid hR
  clear hR CE hac
  have r0:=BM.out.cell (j:=0) rfl
  have r1:=BM.out.cell (j:=1) rfl
  have r2:=BM.out.cell (j:=2) rfl
  have r3:=BM.out.cell (j:=3) rfl
  have r4:=BM.out.cell (j:=4) rfl
  go_wp2_with fail
  refine (CE2.out _ aa ac HB.out HR.out).mono ?_
  rintro e w3 ⟨rfl,hb⟩
  replace HB:=hid (HB.out.trans (hb.mono HB.out.size))
  clear hb CE2 r0 r1 r2 r3 r4 BM
  have HF:Hid (recB 0 0 cs rs ds=endB cs rs ds (rs.map (actQ ds))):=by show _=_;simp [recB]
  go_wp2
  go_ret2
  exact ⟨by rw [HF.out];rfl,HB.out⟩
/-- Does a ray show that a model is unbounded, by values? -/
def valB (e0 er ex:Int) (cs:List CV) (rs:List RV) (ds xs:List Rat):Bool:=recB e0 er cs rs ds && (decide (ex=0) && feasB cs rs xs && decide (slpQ cs ds < 0))
set_option maxRecDepth 100000 in
set_option maxHeartbeats 4000000 in
theorem rValid_v {w:World} {L:Nat} {M:Mo} {off:Rat} {cs:List CV} {rs:List RV} {ao:Option Addr} {k cap:Nat} {X:Nat → Nm} {ds:List Rat} {e0 er:Int} (hW:MoW w M) (hx:Rl w ao k X) (hk:k ≤ 1048576) (hc:chkE M=e0) (he:pckE M k X=er) (hv:er=0 → MoV L w M off cs rs ∧ mvOk cs rs=true ∧ Rf L w ao ds ∧ ds.length=k ∧ k=cs.length) (hL:L ≤ 30) {ax:Option Addr} {kx capx:Nat} {Y:Nat → Nm} {xs:List Rat} {ex:Int} (hy:Rl w ax kx Y) (hkx:kx ≤ 1048576) (hex:pckE M kx Y=ex) (hvx:ex=0 → MoV L w M off cs rs ∧ mvOk cs rs=true ∧ Rf L w ax xs ∧ xs.length=kx ∧ kx=cs.length) :
  Calls Tryz.prog 9 #[M.val,.agg #[.slice ax kx capx,.slice ao k cap]] w fun e w'=>e=.returned (.tuple #[.bool (valB e0 er ex cs rs ds xs),.int .i64 e0]) ∧ Below w.heap.size w w':=by
 have CR:Hid (∀ W,Below w.heap.size w W → Calls Tryz.prog 13 #[M.val,.slice ao k cap] W fun e w'=>e=.returned (.tuple #[.bool (recB e0 er cs rs ds),.int .i64 e0]) ∧ Below W.heap.size W w'):=fun W hW2=>rRec_v (hW.below hW2) (hx.below hW2) hk hc he (fun h0=>⟨(hv h0).1.below hW2,(hv h0).2.1,(hv h0).2.2.1.below hW2,(hv h0).2.2.2⟩) hL
 have CF:Hid (∀ W,Below w.heap.size w W → Calls Tryz.prog 24 #[M.val,.slice ax kx capx] W fun e w'=>e=.returned (.tuple #[.bool (decide (ex=0) && feasB cs rs xs),.int .i64 ex]) ∧ Below W.heap.size W w'):=fun W hW2=>pFeas_v (hW.below hW2) (hy.below hW2) hkx hex (fun h0=>⟨(hvx h0).1.below hW2,(hvx h0).2.1,(hvx h0).2.2.1.below hW2,(hvx h0).2.2.2⟩) hL
 have CS:Hid (recB e0 er cs rs ds=true → ∀ W,Below w.heap.size w W → Calls Tryz.prog 32 #[M.val,.slice ao k cap] W fun e w'=>RatAns (KA L) W w' e (slpQ cs ds)):=fun h0 W hW2=>by
  have h1:er=0:=by simp only [recB,Bool.and_eq_true,decide_eq_true_eq] at h0;exact h0.2.1
  obtain ⟨v1,v2,v3,v4,v5⟩:=hv h1
  exact slope_c (v1.below hW2) (v3.below hW2) v4 v5 (mvOk_p v2).cl (by omega)
 have HE0:Hid (recB e0 er cs rs ds=true → e0=0):=fun h0=>by simp only [recB,Bool.and_eq_true,decide_eq_true_eq] at h0;exact h0.1
 clear hW hx hv he hc hy hex hvx
 obtain ⟨rb,hrb⟩:∃ z,recB e0 er cs rs ds=z:=⟨_,rfl⟩
 obtain ⟨fb,hfb⟩:∃ z,(decide (ex=0) && feasB cs rs xs)=z:=⟨_,rfl⟩
 have HV:Hid (valB e0 er ex cs rs ds xs=(rb && (fb && decide (slpQ cs ds < 0)))):=by show _=_;rw [valB,hrb,hfb]
 rw [hrb] at CR CS HE0
 rw [hfb] at CF
 clear hrb hfb
 obtain ⟨⟨s,x,n,c,f,y,m,d,g⟩,ca,ck,cc,C,ra,rk,rc,R⟩:=M
 replace CR:Hid (∀ W,Below w.heap.size w W → Calls Tryz.prog 13 #[.agg #[.bool s,.slice x n c,.slice y m d,.slice ca ck cc,.slice ra rk rc],.slice ao k cap] W fun e w'=>e=.returned (.tuple #[.bool rb,.int .i64 e0]) ∧ Below W.heap.size W w'):=CR
 replace CF:Hid (∀ W,Below w.heap.size w W → Calls Tryz.prog 24 #[.agg #[.bool s,.slice x n c,.slice y m d,.slice ca ck cc,.slice ra rk rc],.slice ax kx capx] W fun e w'=>e=.returned (.tuple #[.bool fb,.int .i64 ex]) ∧ Below W.heap.size W w'):=CF
 replace CS:Hid (rb=true → ∀ W,Below w.heap.size w W → Calls Tryz.prog 32 #[.agg #[.bool s,.slice x n c,.slice y m d,.slice ca ck cc,.slice ra rk rc],.slice ao k cap] W fun e w'=>RatAns (KA L) W w' e (slpQ cs ds)):=CS
 show Calls Tryz.prog 9 #[.agg #[.bool s,.slice x n c,.slice y m d,.slice ca ck cc,.slice ra rk rc],.agg #[.slice ax kx capx,.slice ao k cap]] w _
 have hb:=below_alloc (below_alloc (Below.refl w.heap.size w) (.cells #[.bool s,.slice x n c,.slice y m d,.slice ca ck cc,.slice ra rk rc] 28)) (.cells #[.slice ax kx capx,.slice ao k cap] 31)
 have BM:Hid (Bk ((w.alloc (.cells #[.bool s,.slice x n c,.slice y m d,.slice ca ck cc,.slice ra rk rc] 28)).alloc (.cells #[.slice ax kx capx,.slice ao k cap] 31)) w.heap.size [.bool s,.slice x n c,.slice y m d,.slice ca ck cc,.slice ra rk rc] 28):=(bk_new w [.bool s,.slice x n c,.slice y m d,.slice ca ck cc,.slice ra rk rc] 28).below (below_alloc (Below.refl _ _) _)
 have BY:Hid (Bk ((w.alloc (.cells #[.bool s,.slice x n c,.slice y m d,.slice ca ck cc,.slice ra rk rc] 28)).alloc (.cells #[.slice ax kx capx,.slice ao k cap] 31)) (w.heap.size + 1) [.slice ax kx capx,.slice ao k cap] 31):=by
  have:=bk_new (w.alloc (.cells #[.bool s,.slice x n c,.slice y m d,.slice ca ck cc,.slice ra rk rc] 28)) [.slice ax kx capx,.slice ao k cap] 31
  rw [size_alloc1] at this;exact this
 have HB:=hid hb
 clear hb
 go_enter Tryz.func9,Tryz.ntmps9
 have r0:=BM.out.cell (j:=0) rfl
 have r1:=BM.out.cell (j:=1) rfl
 have r2:=BM.out.cell (j:=2) rfl
 have r3:=BM.out.cell (j:=3) rfl
 have r4:=BM.out.cell (j:=4) rfl
 have t0:=BY.out.cell (j:=0) rfl
 have t1:=BY.out.cell (j:=1) rfl
 go_wp2_with fail
 clear r0 r1 r2 r3 r4 t0 t1
 generalize (w.alloc (.cells #[.bool s,.slice x n c,.slice y m d,.slice ca ck cc,.slice ra rk rc] 28)).alloc (.cells #[.slice ax kx capx,.slice ao k cap] 31)=w0 at *
 refine (CR.out _ HB.out).mono ?_
 rintro e w1 ⟨rfl,hb⟩
 replace HB:=hid (HB.out.trans (hb.mono HB.out.size));replace BM:=hid (BM.out.below hb);replace BY:=hid (BY.out.below hb)
 clear hb CR
 cases rb
 ·go_wp2
  go_ret2
  exact ⟨by rw [HV.out];rfl,HB.out⟩
 have e0z:e0=0:=HE0.out rfl
 subst e0z
 have r0:=BM.out.cell (j:=0) rfl
 have r1:=BM.out.cell (j:=1) rfl
 have r2:=BM.out.cell (j:=2) rfl
 have r3:=BM.out.cell (j:=3) rfl
 have r4:=BM.out.cell (j:=4) rfl
 have t0:=BY.out.cell (j:=0) rfl
 have t1:=BY.out.cell (j:=1) rfl
 go_wp2_with fail
 clear r0 r1 r2 r3 r4 t0 t1
 refine (CF.out _ HB.out).mono ?_
 rintro e w2 ⟨rfl,hb⟩
 replace HB:=hid (HB.out.trans (hb.mono HB.out.size));replace BM:=hid (BM.out.below hb);replace BY:=hid (BY.out.below hb)
 clear hb CF
 cases fb
 ·go_wp2
  go_ret2
  exact ⟨by rw [HV.out];rfl,HB.out⟩
 have CS2:=hid (CS.out (by first | rfl | trivial))
 have r0:=BM.out.cell (j:=0) rfl
 have r1:=BM.out.cell (j:=1) rfl
 have r2:=BM.out.cell (j:=2) rfl
 have r3:=BM.out.cell (j:=3) rfl
 have r4:=BM.out.cell (j:=4) rfl
 have t0:=BY.out.cell (j:=0) rfl
 have t1:=BY.out.cell (j:=1) rfl
 go_wp2_with fail
 clear r0 r1 r2 r3 r4 t0 t1
 refine (CS2.out _ HB.out).mono ?_
 rintro e w3 ⟨s6,x6,n6,c6,f6,y6,m6,d6,g6,rfl,hb,hq⟩
 replace HB:=hid (HB.out.trans (hb.mono HB.out.size))
 have HS:Hid (s6=decide (slpQ cs ds < 0)):=hq.sg
 clear hb hq CS CS2 BM BY
 have hf0:∀ (W:World),(Instr.field 24 (.agg #[.bool s6,.slice x6 n6 c6,.slice y6 m6 d6]) 0).run Tryz.prog W=.ok (.bool s6) W:=by intros;kernel_rfl
 go_wp2
 go_ret2
 exact ⟨by rw [HV.out,← HS.out];cases s6 <;> rfl,HB.out⟩
/-- The error of a ray and a number. -/
def alE (t:Nm) (kx:Nat) (Y:Nat → Nm) (k:Nat) (X:Nat → Nm):Int:=lsf (tri (pnE 1 (fun _=>t) 1) (pnE kx Y kx) (pnE k X kx)) 3
/-- The point so far along a ray. -/
def alng (xs ds:List Rat) (t:Rat):List Rat:=List.zipWith (fun x d=>0 + x + t * d) xs ds
def KL (L:Nat):Nat:=4 + 2 * (2 * L + 1 + 1)
/-- What Along answers. -/
def AlAns (L:Nat) (w w':World) (e:Ending) (er:Int) (kx:Nat) (xs ds:List Rat) (t:Rat):Prop:=Below w.heap.size w w' ∧
 ((er ≠ 0 ∧ e=.returned (.tuple #[.slice none 0 0,.int .i64 er])) ∨ (er=0 ∧ ∃ a c,e=.returned (.tuple #[.slice a kx c,.int .i64 0]) ∧ (kx ≤ c ∧ c ≤ 9223372036854775807) ∧ Rf (KL L) w' a (alng xs ds t)))
theorem rl_num1 {w:World} {t:Nm} {T:TypeId} (h:NmS w t):Rl (w.alloc (.cells #[.bool t.s,.slice t.x t.n t.c,.slice t.y t.m t.d] T)) (some ⟨w.heap.size,0,none⟩) 1 (fun _=>t):=fun j hj=>by
 obtain rfl:j=0:=by omega
 exact ⟨w.heap.size,0,rfl,⟨by simp [go_sem],by simp [go_sem],by simp [go_sem]⟩,h.below (below_alloc (Below.refl _ _) _)⟩
theorem rf_two {K:Nat} {w:World} {T:TypeId} {s:Bool} {x:Option Addr} {n c:Nat} {f:Nat → Int} {y:Option Addr} {m d:Nat} {g:Nat → Int} {q:Rat} {s2:Bool} {x2:Option Addr} {n2 c2:Nat} {f2:Nat → Int} {y2:Option Addr} {m2 d2:Nat} {g2:Nat → Int} {q2:Rat} (h:Rn K w s x n c f y m d g q) (h2:Rn K w s2 x2 n2 c2 f2 y2 m2 d2 g2 q2):Rf K (w.alloc (.cells #[.bool s,.slice x n c,.slice y m d,.bool s2,.slice x2 n2 c2,.slice y2 m2 d2] T)) (some ⟨w.heap.size,0,none⟩) [q,q2]:=fun j q' e=>by
 match j,e with
 | 0,e=>cases e;exact ⟨w.heap.size,0,⟨s,x,n,c,f,y,m,d,g⟩,rfl,⟨by simp [go_sem],by simp [go_sem],by simp [go_sem]⟩,h.alloc _⟩
 | 1,e=>cases e;exact ⟨w.heap.size,0,⟨s2,x2,n2,c2,f2,y2,m2,d2,g2⟩,rfl,⟨by simp [go_sem],by simp [go_sem],by simp [go_sem]⟩,h2.alloc _⟩
set_option maxRecDepth 100000 in
set_option maxHeartbeats 8000000 in
theorem rAlong_v {w:World} {L:Nat} {ax:Option Addr} {kx capx:Nat} {Y:Nat → Nm} {ao:Option Addr} {k cap:Nat} {X:Nat → Nm} {ts:Bool} {tx:Option Addr} {tn tc:Nat} {tf:Nat → Int} {ty:Option Addr} {tm td:Nat} {tg:Nat → Int} {xs ds:List Rat} {tq:Rat} {er:Int} (hy:Rl w ax kx Y) (hx:Rl w ao k X) (ht:NmS w ⟨ts,tx,tn,tc,tf,ty,tm,td,tg⟩) (hkx:kx ≤ 1000000) (hk:k ≤ 1048576) (he:alE ⟨ts,tx,tn,tc,tf,ty,tm,td,tg⟩ kx Y k X=er) (hv:er=0 → Rf L w ax xs ∧ xs.length=kx ∧ Rf L w ao ds ∧ ds.length=k ∧ k=kx ∧ Rn L w ts tx tn tc tf ty tm td tg tq) (hL:L ≤ 60) :
  Calls Tryz.prog 17 #[.agg #[.slice ax kx capx,.slice ao k cap],.agg #[.bool ts,.slice tx tn tc,.slice ty tm td]] w fun e w'=>AlAns L w w' e er kx xs ds tq:=by
 have C0:Hid (∀ W,Below w.heap.size w W → Calls Tryz.prog 42 #[.slice (some ⟨W.heap.size,0,none⟩) 1 1,.int .i64 1] (W.alloc (.cells #[.bool ts,.slice tx tn tc,.slice ty tm td] 24)) fun e w'=>e=.returned (.int .i64 (pnE 1 (fun _=>⟨ts,tx,tn,tc,tf,ty,tm,td,tg⟩) 1)) ∧ Below (W.alloc (.cells #[.bool ts,.slice tx tn tc,.slice ty tm td] 24)).heap.size (W.alloc (.cells #[.bool ts,.slice tx tn tc,.slice ty tm td] 24)) w'):=fun W hW2=>pNumbers_c (rl_num1 (ht.below hW2)) (by decide)
 have C1:=hid (fun W (hW2:Below w.heap.size w W)=>pNumbers_c (w:=W) (cap:=capx) (z:=(kx:Int)) (hy.below hW2) (by omega))
 have C2:=hid (fun W (hW2:Below w.heap.size w W)=>pNumbers_c (w:=W) (cap:=cap) (z:=(kx:Int)) (hx.below hW2) hk)
 have HE:=hid he
 unfold alE at he
 obtain ⟨e0,he0⟩:∃ e,pnE 1 (fun _=>⟨ts,tx,tn,tc,tf,ty,tm,td,tg⟩) 1=e:=⟨_,rfl⟩
 rw [he0] at C0 he
 clear he0
 obtain ⟨e1,he1⟩:∃ e,pnE kx Y kx=e:=⟨_,rfl⟩
 rw [he1] at C1 he
 clear he1
 obtain ⟨e2,he2⟩:∃ e,pnE k X kx=e:=⟨_,rfl⟩
 rw [he2] at C2 he
 clear he2
 have HE2:=hid he;have HV:=hid hv
 clear he hv hx hy ht
 have hb:=below_alloc (below_alloc (Below.refl w.heap.size w) (.cells #[.slice ax kx capx,.slice ao k cap] 31)) (.cells #[.bool ts,.slice tx tn tc,.slice ty tm td] 24)
 have BY:Hid (Bk ((w.alloc (.cells #[.slice ax kx capx,.slice ao k cap] 31)).alloc (.cells #[.bool ts,.slice tx tn tc,.slice ty tm td] 24)) w.heap.size [.slice ax kx capx,.slice ao k cap] 31):=(bk_new w [.slice ax kx capx,.slice ao k cap] 31).below (below_alloc (Below.refl _ _) _)
 have BT:Hid (Bk ((w.alloc (.cells #[.slice ax kx capx,.slice ao k cap] 31)).alloc (.cells #[.bool ts,.slice tx tn tc,.slice ty tm td] 24)) (w.heap.size + 1) [.bool ts,.slice tx tn tc,.slice ty tm td] 24):=by
  have:=bk_new (w.alloc (.cells #[.slice ax kx capx,.slice ao k cap] 31)) [.bool ts,.slice tx tn tc,.slice ty tm td] 24
  rw [size_alloc1] at this;exact this
 have HB:=hid hb
 clear hb
 go_enter Tryz.func17,Tryz.ntmps17
 have t0:=BY.out.cell (j:=0) rfl
 go_upto_region 2 with fail
 clear t0
 generalize ((w.alloc (.cells #[.slice ax kx capx,.slice ao k cap] 31)).alloc (.cells #[.bool ts,.slice tx tn tc,.slice ty tm td] 24))=w0 at *
 have hbd:=Below.drew (Below.refl w0.heap.size w0)
 replace HB:=hid (HB.out.trans (hbd.mono HB.out.size));replace BY:=hid (BY.out.below hbd);replace BT:=hid (BT.out.below hbd)
 clear hbd
 have y0:=BY.out.cell (j:=0) rfl
 have y1:=BY.out.cell (j:=1) rfl
 have r0:=BT.out.cell (j:=0) rfl
 have r1:=BT.out.cell (j:=1) rfl
 have r2:=BT.out.cell (j:=2) rfl
 refine wp_region_held_drew (S:=(fun w'=>w'.cell? ⟨w.heap.size,0,none⟩=some (.slice ax kx capx) ∧ w'.cell? ⟨w.heap.size,1,none⟩=some (.slice ao k cap) ∧ w'.cell? ⟨w.heap.size + 1,0,none⟩=some (.bool ts) ∧ w'.cell? ⟨w.heap.size + 1,1,none⟩=some (.slice tx tn tc) ∧ w'.cell? ⟨w.heap.size + 1,2,none⟩=some (.slice ty tm td))) (by kernel_rfl) ?_ (fun hHeld=>?_)
 ·exact ⟨y0,y1,r0,r1,r2⟩
 generalize w0.drew=wd at *
 clear y0 y1 r0 r1 r2
 refine wpAnyH_take (i:=0) (v:=?_) rfl (by kernel_rfl) (by kernel_rfl) (by kernel_rfl) (fun _ _ _ h=>h) (Or.inl ⟨by rfl,?_⟩) (by assumption) ?_
 rotate_left
 (focus (intro w0 hSw;(try dsimp only at hSw);go_simp <;> with_reducible rfl))
 simp only [List.getElem_toArray,List.getElem_cons_zero,Act.put,List.setIfInBounds_toArray,List.set_cons_zero,List.set_cons_succ]
 refine wpAnyH_take (i:=3) (v:=?_) rfl (by kernel_rfl) (by kernel_rfl) (by kernel_rfl) (fun _ _ _ h=>h) (Or.inl ⟨by rfl,?_⟩) (by assumption) ?_
 rotate_left
 (focus (intro w0 hSw;(try dsimp only at hSw);go_simp <;> with_reducible rfl))
 simp only [List.getElem_toArray,List.getElem_cons_succ,List.getElem_cons_zero,Act.put,List.setIfInBounds_toArray,List.set_cons_zero,List.set_cons_succ]
 refine wpAnyH_take (i:=4) (v:=?_) rfl (by kernel_rfl) (by kernel_rfl) (by kernel_rfl) (fun _ _ _ h=>h) (Or.inl ⟨by rfl,?_⟩) (by assumption) ?_
 rotate_left
 (focus (intro w0 hSw;(try dsimp only at hSw);go_simp <;> with_reducible rfl))
 simp only [List.getElem_toArray,List.getElem_cons_succ,List.getElem_cons_zero,Act.put,List.setIfInBounds_toArray,List.set_cons_zero,List.set_cons_succ]
 refine wpAnyH_take (i:=5) (v:=?_) rfl (by kernel_rfl) (by kernel_rfl) (by kernel_rfl) (fun _ _ _ h=>h) (Or.inl ⟨by rfl,?_⟩) (by assumption) ?_
 rotate_left
 (focus (intro w0 hSw;(try dsimp only at hSw);go_simp <;> with_reducible rfl))
 simp only [List.getElem_toArray,List.getElem_cons_succ,List.getElem_cons_zero,Act.put,List.setIfInBounds_toArray,List.set_cons_zero,List.set_cons_succ]
 refine wpAnyH_take (i:=7) (v:=?_) rfl (by kernel_rfl) (by kernel_rfl) (by kernel_rfl) (fun _ _ _ h=>h) (Or.inl ⟨by rfl,?_⟩) (by assumption) ?_
 rotate_left
 (focus (intro w0 hSw;(try dsimp only at hSw);go_simp <;> with_reducible rfl))
 simp only [List.getElem_toArray,List.getElem_cons_succ,List.getElem_cons_zero,Act.put,List.setIfInBounds_toArray,List.set_cons_zero,List.set_cons_succ]
 refine wpAnyH_take (i:=8) (v:=?_) rfl (by kernel_rfl) (by kernel_rfl) (by kernel_rfl) (fun _ _ _ h=>h) (Or.inl ⟨by rfl,?_⟩) (by assumption) ?_
 rotate_left
 (focus (intro w0 hSw;(try dsimp only at hSw);go_simp <;> with_reducible rfl))
 simp only [List.getElem_toArray,List.getElem_cons_succ,List.getElem_cons_zero,Act.put,List.setIfInBounds_toArray,List.set_cons_zero,List.set_cons_succ]
 refine wpAnyH_take (i:=9) (v:=?_) rfl (by kernel_rfl) (by kernel_rfl) (by kernel_rfl) (fun _ _ _ h=>h) (Or.inl ⟨by rfl,?_⟩) (by assumption) ?_
 rotate_left
 (focus (intro w0 hSw;(try dsimp only at hSw);go_simp <;> with_reducible rfl))
 simp only [List.getElem_toArray,List.getElem_cons_succ,List.getElem_cons_zero,Act.put,List.setIfInBounds_toArray,List.set_cons_zero,List.set_cons_succ]
 refine wpAnyH_ready (rs:=[1]) (by kernel_rfl) (by simp) ?_
 refine AllReadyH.cons (o:=_) rfl (fun K hK=>?_) ?_
 rotate_left
 exact AllReadyH.nil
 go_simp
 have hbn:=below_alloc (Below.refl wd.heap.size wd) (.cells #[.bool ts,.slice tx tn tc,.slice ty tm td] 24)
 refine hK.out _ _ ?_ (fun hHn=>?_)
 ·exact ⟨kCb hbn hHeld.1,kCb hbn hHeld.2.1,kCb hbn hHeld.2.2.1,kCb hbn hHeld.2.2.2.1,kCb hbn hHeld.2.2.2.2⟩
 clear hK K
 have HBn:=hid (HB.out.trans (hbn.mono HB.out.size))
 try simp only [Act.put,List.setIfInBounds_toArray,List.set_cons_zero,List.set_cons_succ]
 refine wpAnyH_ready (rs:=[2]) (by kernel_rfl) (by simp) ?_
 refine AllReadyH.cons (o:=_) rfl (fun K hK=>?_) ?_
 rotate_left
 exact AllReadyH.nil
 go_simp
 go_at_call 42
 refine (C0.out _ HB.out).mono ?_
 rintro e w3 ⟨rfl,hb3⟩
 (try go_wp2_with fail)
 refine hK.out _ _ ?_ (fun hH3=>?_)
 ·exact ⟨kCb hb3 hHn.1,kCb hb3 hHn.2.1,kCb hb3 hHn.2.2.1,kCb hb3 hHn.2.2.2.1,kCb hb3 hHn.2.2.2.2⟩
 clear hK K
 have HB3:=hid (HBn.out.trans (hb3.mono HBn.out.size))
 try simp only [Act.put,List.setIfInBounds_toArray,List.set_cons_zero,List.set_cons_succ]
 refine wpAnyH_ready (rs:=[6]) (by kernel_rfl) (by simp) ?_
 refine AllReadyH.cons (o:=_) rfl (fun K hK=>?_) ?_
 rotate_left
 exact AllReadyH.nil
 go_simp
 go_at_call 42
 refine (C1.out _ HB3.out).mono ?_
 rintro e w4 ⟨rfl,hb4⟩
 (try go_wp2_with fail)
 refine hK.out _ _ ?_ (fun hH4=>?_)
 ·exact ⟨kCb hb4 hH3.1,kCb hb4 hH3.2.1,kCb hb4 hH3.2.2.1,kCb hb4 hH3.2.2.2.1,kCb hb4 hH3.2.2.2.2⟩
 clear hK K
 have HB4:=hid (HB3.out.trans (hb4.mono HB3.out.size))
 try simp only [Act.put,List.setIfInBounds_toArray,List.set_cons_zero,List.set_cons_succ]
 refine wpAnyH_ready (rs:=[10]) (by kernel_rfl) (by simp) ?_
 refine AllReadyH.cons (o:=_) rfl (fun K hK=>?_) ?_
 rotate_left
 exact AllReadyH.nil
 go_simp
 go_at_call 42
 refine (C2.out _ HB4.out).mono ?_
 rintro e w5 ⟨rfl,hb5⟩
 (try go_wp2_with fail)
 refine hK.out _ _ ?_ (fun hH5=>?_)
 ·exact ⟨kCb hb5 hH4.1,kCb hb5 hH4.2.1,kCb hb5 hH4.2.2.1,kCb hb5 hH4.2.2.2.1,kCb hb5 hH4.2.2.2.2⟩
 clear hK K
 have HB5:=hid (HB4.out.trans (hb5.mono HB4.out.size))
 obtain ⟨y0,y1,r0,r1,r2⟩:=id hH5
 try simp only [Act.put,List.setIfInBounds_toArray,List.set_cons_zero,List.set_cons_succ]
 refine wpAnyH_ready (rs:=[11]) (by kernel_rfl) (by simp) ?_
 refine AllReadyH.cons (o:=_) rfl (fun K hK=>?_) ?_
 rotate_left
 exact AllReadyH.nil
 go_simp
 have hbA:=below_alloc (Below.refl w5.heap.size w5) (.cells #[.int .i64 e0,.int .i64 e1,.int .i64 e2] 35)
 have HEl:=hid (tri_el (w:=w5) (e0:=e0) (e1:=e1) (e2:=e2) (t:=35))
 have HWA:=hid (HB5.out.trans (hbA.mono HB5.out.size))
 obtain ⟨gA,hgA⟩:∃ z,w5.heap.size=z:=⟨_,rfl⟩
 rw [hgA] at HEl ⊢
 generalize hwA:w5.alloc (.cells #[.int .i64 e0,.int .i64 e1,.int .i64 e2] 35)=wA at *
 clear hwA hgA
 refine hK.out _ _ ?_ (fun hHA=>?_)
 ·((try dsimp only);(refine ⟨?_,?_,?_,?_,?_⟩ <;> repeat (with_reducible first | assumption | refine kCb (by assumption) ?_)))
 clear hK K
 try simp only [Act.put,List.setIfInBounds_toArray,List.set_cons_zero,List.set_cons_succ]
 refine wpAnyH_ready (rs:=[12]) (by kernel_rfl) (by simp) ?_
 refine AllReadyH.cons (o:=_) rfl (fun K hK=>?_) ?_
 rotate_left
 exact AllReadyH.nil
 go_simp
 go_at_call 41
 refine (least_c HEl.out (by decide)).mono ?_
 rintro e w9 ⟨rfl,rfl⟩
 (try go_wp2_with fail)
 refine hK.out _ _ ?_ (fun hHB=>?_)
 ·exact hHA
 clear hK K
 try simp only [Act.put,List.setIfInBounds_toArray,List.set_cons_zero,List.set_cons_succ]
 refine wpAnyH_take (i:=13) (v:=?_) rfl (by kernel_rfl) (by kernel_rfl) (by kernel_rfl) (fun _ _ _ h=>h) (Or.inl ⟨by rfl,?_⟩) (by assumption) ?_
 rotate_left
 (focus (intro w0 hSw;(try dsimp only at hSw);go_simp <;> with_reducible rfl))
 simp only [List.getElem_toArray,List.getElem_cons_succ,List.getElem_cons_zero,Act.put,List.setIfInBounds_toArray,List.set_cons_zero,List.set_cons_succ]
 refine wpAnyH_done (by kernel_rfl) ?_ _
 simp only [show lsf (tri e0 e1 e2) 3=er from HE2.out]
 replace BY:=hid (BY.out.below (hbn.trans ((hb3.trans ((hb4.trans (hb5.mono hb4.size)).mono hb3.size)).mono hbn.size)));replace BT:=hid (BT.out.below (hbn.trans ((hb3.trans ((hb4.trans (hb5.mono hb4.size)).mono hb3.size)).mono hbn.size)))
 replace BY:=hid (BY.out.below hbA);replace BT:=hid (BT.out.below hbA)
 replace HB:=hid HWA.out
 clear HE2 hHeld hHn hH3 hH4 hH5 hHA hHB hbn hb3 hb4 hb5 hbA y0 y1 r0 r1 r2 HEl C0 C1 C2 HBn HB3 HB4 HB5 HWA
 by_cases h0:er=0
 case neg =>
  have h1:(er != 0)=true:=by simpa using h0
  have H0:=hid h0
  go_wp2
  go_ret2
  exact ⟨HB.out,.inl ⟨H0.out,rfl⟩⟩
 obtain ⟨v1,v2,v3,v4,v5,v6⟩:=HV.out h0
 subst h0
 subst v5
 have HX:=hid v1;have HXL:=hid v2;have HD:=hid v3;have HDL:=hid v4;have HT:=hid v6
 clear v1 v2 v3 v4 v6 HV
 have y0:=BY.out.cell (j:=0) rfl
 go_wp2_with fail
 clear y0
 obtain ⟨w1,hw1⟩:∃ z:World,z=w9:=⟨_,rfl⟩
 subst hw1
 go_loopw [8,33] (fun ov t wr=>∃ (i:Nat),i ≤ k ∧ t=.int .i64 i ∧ Hid (Below w1.heap.size w1 wr) ∧ Hid (Gr (KL L) w1.heap.size wr ov ((alng xs ds tq).take i))) (fun _ t _=>k - (intOf t).toNat)
 case atStart=>exact ⟨0,by omega,rfl,Below.refl _ _,gr_nil _ _ _⟩
 case round =>
  obtain ⟨i,hi,rfl,HB2,HG2⟩:=hrel
  have hcl:(alng xs ds tq).length=k:=by unfold alng;rw [List.length_zipWith,HXL.out,HDL.out,Nat.min_self]
  have hgl:((alng xs ds tq).take i).length=i:=by rw [List.length_take];omega
  by_cases hlt:i < k
  ·obtain ⟨u,hu⟩:∃ t,xs[i]?=some t:=⟨_,List.getElem?_eq_getElem (by have:=HXL.out;omega)⟩
   obtain ⟨r,hr⟩:∃ t,ds[i]?=some t:=⟨_,List.getElem?_eq_getElem (by have:=HDL.out;omega)⟩
   have hbz:=HB.out.trans (HB2.out.mono HB.out.size)
   obtain ⟨b,o,⟨us,ux,un,uc,uf,uy,um,ud,ug⟩,hba,⟨q0,q1,q2⟩,hu'⟩:=(HX.out.below hbz) i u hu
   subst hba
   obtain ⟨b',o',⟨ss,sx,sn,sc,sf,sy,sm,sd,sg⟩,hax,⟨p0,p1,p2⟩,hr'⟩:=(HD.out.below hbz) i r hr
   subst hax
   replace q0:wr.cell? ⟨b,o + i * 3,none⟩=some (.bool us):=q0
   replace q1:wr.cell? ⟨b,o + i * 3 + 1,none⟩=some (.slice ux un uc):=q1
   replace q2:wr.cell? ⟨b,o + i * 3 + 2,none⟩=some (.slice uy um ud):=q2
   replace p0:wr.cell? ⟨b',o' + i * 3,none⟩=some (.bool ss):=p0
   replace p1:wr.cell? ⟨b',o' + i * 3 + 1,none⟩=some (.slice sx sn sc):=p1
   replace p2:wr.cell? ⟨b',o' + i * 3 + 2,none⟩=some (.slice sy sm sd):=p2
   replace hr':Rn L wr ss sx sn sc sf sy sm sd sg r:=hr'
   replace hu':Rn L wr us ux un uc uf uy um ud ug u:=hu'
   have ht2:=HT.out.below hbz
   have HCI:Hid ((alng xs ds tq).take (i + 1)=(alng xs ds tq).take i ++ [psum [u,tq * r] 0]):=by
    show _=_
    rw [List.take_add_one]
    congr 1
    unfold alng
    rw [List.getElem?_zipWith,hu,hr];rfl
   have hbt:=below_alloc (Below.refl wr.heap.size wr) (.cells #[.bool us,.slice ux un uc,.slice uy um ud] 24)
   have a0:(wr.alloc (.cells #[.bool us,.slice ux un uc,.slice uy um ud] 24)).cell? ⟨wr.heap.size,0,none⟩=some (.bool us):=by simp [go_sem]
   have a1:(wr.alloc (.cells #[.bool us,.slice ux un uc,.slice uy um ud] 24)).cell? ⟨wr.heap.size,1,none⟩=some (.slice ux un uc):=by simp [go_sem]
   have a2:(wr.alloc (.cells #[.bool us,.slice ux un uc,.slice uy um ud] 24)).cell? ⟨wr.heap.size,2,none⟩=some (.slice uy um ud):=by simp [go_sem]
   replace BY:=hid (BY.out.below HB2.out);replace BT:=hid (BT.out.below HB2.out)
   have i1':((i:Nat):Int) < ((k:Nat):Int):=by omega
   clear hu hr
   go_upto_region 9 with fail
   clear q0 q1 q2
   replace p0:=kCb hbt p0;replace p1:=kCb hbt p1;replace p2:=kCb hbt p2
   have y1:=kCb hbt (BY.out.cell (j:=1) rfl)
   have r0:=kCb hbt (BT.out.cell (j:=0) rfl)
   have r1:=kCb hbt (BT.out.cell (j:=1) rfl)
   have r2:=kCb hbt (BT.out.cell (j:=2) rfl)
   have HB3:=hid (HB2.out.trans (hbt.mono HB2.out.size));have HG3:=hid (HG2.out.below hbt);have R0:=hid (hu'.below hbt);have R1:=hid (ht2.below hbt);have R2:=hid (hr'.below hbt)
   clear hbz hbt HB2 HG2 hu' hr' ht2
   generalize hbx:wr.heap.size=bx at *
   generalize wr.alloc (.cells #[.bool us,.slice ux un uc,.slice uy um ud] 24)=w5 at *
   clear hbx
   refine wp_region_phase (S:=(fun w'=>w'.cell? ⟨bx,0,none⟩=some (.bool us) ∧ w'.cell? ⟨bx,1,none⟩=some (.slice ux un uc) ∧ w'.cell? ⟨bx,2,none⟩=some (.slice uy um ud) ∧ w'.cell? ⟨w.heap.size + 1,0,none⟩=some (.bool ts) ∧ w'.cell? ⟨w.heap.size + 1,1,none⟩=some (.slice tx tn tc) ∧ w'.cell? ⟨w.heap.size + 1,2,none⟩=some (.slice ty tm td) ∧ w'.cell? ⟨w.heap.size,1,none⟩=some (.slice (some ⟨b',o',none⟩) k cap) ∧ w'.cell? ⟨b',o' + i * 3,none⟩=some (.bool ss) ∧ w'.cell? ⟨b',o' + i * 3 + 1,none⟩=some (.slice sx sn sc) ∧ w'.cell? ⟨b',o' + i * 3 + 2,none⟩=some (.slice sy sm sd))) 9 (by kernel_rfl) ⟨kCd a0,kCd a1,kCd a2,kCd r0,kCd r1,kCd r2,kCd y1,kCd p0,kCd p1,kCd p2⟩ (fun hHeld=>?_)
   refine wpAnyP_skim (i:=0) (v:=?_) rfl (by kernel_rfl) (by kernel_rfl) (by kernel_rfl) (by kernel_rfl) (fun _ _ _ h=>h) (Or.inl ⟨by rfl,?_⟩) (fun _=>by assumption) ?_
   rotate_left
   (focus (intro w0 hSw;go_simp <;> with_reducible rfl))
   simp only [List.getElem_toArray,List.getElem_cons_zero,Act.put,List.setIfInBounds_toArray,List.set_cons_zero,List.set_cons_succ]
   refine wpAnyP_takeA (i:=1) (v:=?_) rfl (by kernel_rfl) (by kernel_rfl) (by kernel_rfl) (by kernel_rfl) (by kernel_rfl) (by kernel_rfl) (fun _ _ _ h=>h) (Or.inl ⟨by rfl,?_⟩) (by assumption) ?_
   rotate_left
   (focus (intro w0 hSw;(try dsimp only at hSw);go_simp <;> with_reducible rfl))
   simp only [List.getElem_toArray,List.getElem_cons_succ,List.getElem_cons_zero,Act.put,List.setIfInBounds_toArray,List.set_cons_zero,List.set_cons_succ]
   refine wpAnyP_takeA (i:=2) (v:=?_) rfl (by kernel_rfl) (by kernel_rfl) (by kernel_rfl) (by kernel_rfl) (by kernel_rfl) (by kernel_rfl) (fun _ _ _ h=>h) (Or.inl ⟨by rfl,?_⟩) (by assumption) ?_
   rotate_left
   (focus (intro w0 hSw;(try dsimp only at hSw);go_simp <;> with_reducible rfl))
   simp only [List.getElem_toArray,List.getElem_cons_succ,List.getElem_cons_zero,Act.put,List.setIfInBounds_toArray,List.set_cons_zero,List.set_cons_succ]
   refine wpAnyP_skim (i:=3) (v:=?_) rfl (by kernel_rfl) (by kernel_rfl) (by kernel_rfl) (by kernel_rfl) (fun _ _ _ h=>h) (Or.inl ⟨by rfl,?_⟩) (fun _=>by assumption) ?_
   rotate_left
   (focus (intro w0 hSw;go_simp <;> with_reducible rfl))
   simp only [List.getElem_toArray,List.getElem_cons_succ,List.getElem_cons_zero,Act.put,List.setIfInBounds_toArray,List.set_cons_zero,List.set_cons_succ]
   refine wpAnyP_takeA (i:=4) (v:=?_) rfl (by kernel_rfl) (by kernel_rfl) (by kernel_rfl) (by kernel_rfl) (by kernel_rfl) (by kernel_rfl) (fun _ _ _ h=>h) (Or.inl ⟨by rfl,?_⟩) (by assumption) ?_
   rotate_left
   (focus (intro w0 hSw;(try dsimp only at hSw);go_simp <;> with_reducible rfl))
   simp only [List.getElem_toArray,List.getElem_cons_succ,List.getElem_cons_zero,Act.put,List.setIfInBounds_toArray,List.set_cons_zero,List.set_cons_succ]
   refine wpAnyP_skim (i:=5) (v:=?_) rfl (by kernel_rfl) (by kernel_rfl) (by kernel_rfl) (by kernel_rfl) (fun _ _ _ h=>h) (Or.inl ⟨by rfl,?_⟩) (fun _=>by assumption) ?_
   rotate_left
   (focus (intro w0 hSw;go_simp <;> with_reducible rfl))
   simp only [List.getElem_toArray,List.getElem_cons_succ,List.getElem_cons_zero,Act.put,List.setIfInBounds_toArray,List.set_cons_zero,List.set_cons_succ]
   refine wpAnyP_skim (i:=6) (v:=?_) rfl (by kernel_rfl) (by kernel_rfl) (by kernel_rfl) (by kernel_rfl) (fun _ _ _ h=>h) (Or.inl ⟨by rfl,?_⟩) (fun _=>by assumption) ?_
   rotate_left
   (focus (intro w0 hSw;go_simp <;> with_reducible rfl))
   simp only [List.getElem_toArray,List.getElem_cons_succ,List.getElem_cons_zero,Act.put,List.setIfInBounds_toArray,List.set_cons_zero,List.set_cons_succ]
   refine wpAnyP_takeA (i:=7) (v:=?_) rfl (by kernel_rfl) (by kernel_rfl) (by kernel_rfl) (by kernel_rfl) (by kernel_rfl) (by kernel_rfl) (fun _ _ _ h=>h) (Or.inl ⟨by rfl,?_⟩) (by assumption) ?_
   rotate_left
   (focus (intro w0 hSw;(try dsimp only at hSw);go_simp <;> with_reducible rfl))
   simp only [List.getElem_toArray,List.getElem_cons_succ,List.getElem_cons_zero,Act.put,List.setIfInBounds_toArray,List.set_cons_zero,List.set_cons_succ]
   refine wpAnyP_ready (rs:=[8]) (by kernel_rfl) (by simp) ?_
   refine AllReadyP.cons (o:=_) rfl (fun K hK=>?_) ?_
   rotate_left
   exact AllReadyP.nil
   go_simp
   go_at_call 44
   refine (rtimes_c (L:=L) (kRnd R1.out) (kRnd R2.out) (by omega)).mono ?_
   rintro e w6 ⟨s6,x6,n6,c6,f6,y6,m6,d6,g6,rfl,hb6,hq6⟩
   (try go_wp2_with fail)
   refine hK.out _ _ (fun _=>⟨kCb hb6 hHeld.1,kCb hb6 hHeld.2.1,kCb hb6 hHeld.2.2.1,kCb hb6 hHeld.2.2.2.1,kCb hb6 hHeld.2.2.2.2.1,kCb hb6 hHeld.2.2.2.2.2.1,kCb hb6 hHeld.2.2.2.2.2.2.1,kCb hb6 hHeld.2.2.2.2.2.2.2.1,kCb hb6 hHeld.2.2.2.2.2.2.2.2.1,kCb hb6 hHeld.2.2.2.2.2.2.2.2.2⟩) (fun hH=>?_)
   replace hHeld:=hH (by kernel_rfl)
   clear hK K hH
   try simp only [Act.put,List.setIfInBounds_toArray,List.set_cons_zero,List.set_cons_succ]
   refine wpAnyP_ready (rs:=[9]) (by kernel_rfl) (by simp) ?_
   refine AllReadyP.cons (o:=_) rfl (fun K hK=>?_) ?_
   rotate_left
   exact AllReadyP.nil
   go_simp
   have HQ2:=hid (rf_two (T:=24) (((kRnd R0.out).below hb6).mono (show L ≤ 2 * L + 1 by omega)) hq6)
   have hbb:=below_alloc (Below.refl w6.heap.size w6) (.cells #[.bool us,.slice ux un uc,.slice uy um ud,.bool s6,.slice x6 n6 c6,.slice y6 m6 d6] 24)
   refine hK.out _ _ (fun h=>by cases h) (fun _=>?_)
   clear hK K
   try simp only [Act.put,List.setIfInBounds_toArray,List.set_cons_zero,List.set_cons_succ]
   refine wpAnyP_ready (rs:=[10]) (by kernel_rfl) (by simp) ?_
   refine AllReadyP.cons (o:=_) rfl (fun K hK=>?_) ?_
   rotate_left
   exact AllReadyP.nil
   go_simp
   go_at_call 43
   refine (pSum_c (L:=2 * L + 1) (k:=2) HQ2.out rfl (by decide) (by omega)).mono ?_
   rintro e w7 ⟨s7,x7,n7,c7,f7,y7,m7,d7,g7,rfl,hb7,hq7⟩
   (try go_wp2_with fail)
   refine hK.out _ _ (fun h=>by cases h) (fun _=>?_)
   clear hK K
   try simp only [Act.put,List.setIfInBounds_toArray,List.set_cons_zero,List.set_cons_succ]
   refine wpAnyP_ready (rs:=[11]) (by kernel_rfl) (by simp) ?_
   refine AllReadyP.cons (o:=_) rfl (fun K hK=>?_) ?_
   rotate_left
   exact AllReadyP.nil
   go_simp
   refine hK.out _ _ (fun h=>by cases h) (fun _=>?_)
   clear hK K
   try simp only [Act.put,List.setIfInBounds_toArray,List.set_cons_zero,List.set_cons_succ]
   refine wpAnyP_ready (rs:=[12]) (by kernel_rfl) (by simp) ?_
   refine AllReadyP.cons (o:=_) rfl (fun K hK=>?_) ?_
   rotate_left
   exact AllReadyP.nil
   have hb57:Below w5.heap.size w5 w7:=((Below.drew (Below.refl w5.heap.size w5)).trans (hb6.mono (Nat.le_refl _))).trans ((hbb.trans (hb7.mono hbb.size)).mono (show w5.heap.size ≤ w6.heap.size from hb6.size))
   obtain ⟨T,hrow,hT⟩:=Gr.below HG3.out hb57
   rw [hgl] at hrow
   refine step_append_one w7 rfl (.tmp 38) (.tmp 49) 29 rfl w1.heap.size 24 56 3 (.agg #[.bool false,.slice none 0 0,.slice none 0 0]) Tryz.underlying29 Tryz.infoRat rfl (by decide) nz3 u8 i _ rfl hrow #[.bool s7,.slice x7 n7 c7,.slice y7 m7 d7] rfl rfl (one3 _ _ _ _ _ _ _) (not3 _ _ _ _ _ _ _) (by omega) (by decide) ?hz ?_
   case hz=>exact (HB3.out.trans (hb57.mono HB3.out.size)).size
   intro g8 cap8 w8 hr8 hk8 hb8 hg8
   have HB8:Hid (Below w1.heap.size w1 w8):=hb8 w1 (HB3.out.trans (hb57.mono HB3.out.size)) (Nat.le_refl _)
   have HG8:Hid (Gr (KL L) w1.heap.size w8 (.slice (some ⟨g8,0,none⟩) (i + 1) cap8) ((alng xs ds tq).take (i + 1))):=by
    have hp8:=gr_push (p:=(alng xs ds tq).take i) hT (by rw [hgl];exact hr8) hk8 (show Rn (KL L) w7 s7 x7 n7 c7 f7 y7 m7 d7 g7 (psum [u,tq * r] 0) from hq7)
    rw [hgl] at hp8
    rw [HCI.out];exact hp8
   clear hr8 hk8 hb8 hg8 hrow hT hb6 hq6 hb7 hq7 hbb hb57 HQ2 HG3 HB3 R0 R1 R2
   refine hK.out _ _ (fun h=>by cases h) (fun _=>?_)
   clear hK K
   simp only [List.getElem_toArray,List.getElem_cons_succ,List.getElem_cons_zero,Act.put,List.setIfInBounds_toArray,List.set_cons_zero,List.set_cons_succ]
   refine wpAnyP_skim (i:=13) (v:=?_) rfl (by kernel_rfl) (by kernel_rfl) (by kernel_rfl) (by kernel_rfl) (fun _ _ _ h=>h) (Or.inl ⟨by rfl,?_⟩) (fun h=>by cases h) ?_
   rotate_left
   (focus (intro w0 hSw;go_simp <;> with_reducible rfl))
   simp only [List.getElem_toArray,List.getElem_cons_succ,List.getElem_cons_zero,Act.put,List.setIfInBounds_toArray,List.set_cons_zero,List.set_cons_succ]
   refine wpAnyP_done (by kernel_rfl) ?_ _
   clear hHeld a0 a1 a2 r0 r1 r2 y1 p0 p1 p2
   go_wp2
   go_roundw
   case rel=>exact ⟨i + 1,by omega,by go_num,HB8.out,HG8.out⟩
   case measure=>simp [intOf];omega
  ·have i4:¬ (((i:Nat):Int) < ((k:Nat):Int)):=by omega
   have e9:i=k:=by omega
   obtain ⟨va,vc,hvs,hvc⟩:=HG2.out.slice
   rw [hgl] at hvs hvc
   have HG4:=HG2.out
   rw [hvs] at HG4
   replace HG4:=hid (show Rf (KL L) wr va (alng xs ds tq) by have:=HG4.rf;rw [List.take_of_length_le (by omega)] at this;exact this)
   subst hvs
   have HEK:=hid e9;have HVC:=hid hvc
   replace HB:=hid (HB.out.trans (HB2.out.mono HB.out.size))
   clear HG2 HB2 hgl hcl e9 hvc HX HD BY BT
   go_wp2
   go_ret2
   exact ⟨HB.out,.inr ⟨rfl,va,vc,by rw [HEK.out];rfl,by rw [← HEK.out];exact HVC.out,HG4.out⟩⟩
theorem pckE_ok {M:Mo} {k:Nat} {X:Nat → Nm} (h1:chkE M=0) (h2:afB k X=true) (h3:k=M.ck):pckE M k X=0:=by
 unfold pckE
 rw [h1,show pnE k X M.ck=0 by unfold pnE;rw [if_pos h2,if_pos (by rw [h3])]]
 rfl
theorem rRec_q {w:World} {L:Nat} {M:Mo} {off:Rat} {cs:List CV} {rs:List RV} {ao:Option Addr} {k cap:Nat} {ds:List Rat} (h:MoV L w M off cs rs) (ho:mvOk cs rs=true) (hx:Rf L w ao ds) (hk:ds.length=k) (hkc:k=cs.length) (hL:L ≤ 30) :
  Calls Tryz.prog 13 #[M.val,.slice ao k cap] w fun e w'=>e=.returned (.tuple #[.bool (recB 0 0 cs rs ds),.int .i64 0]) ∧ Below w.heap.size w w':=by
 obtain ⟨h1,h2⟩:=h.chk (by omega) ho
 obtain ⟨X,h3,h4⟩:=rf_rl hx (by omega)
 have mp:=mvOk_p ho
 rw [hk] at h3 h4
 exact rRec_v (fun _ _=>h2) h3 (by have:=mp.cl;omega) h1 (pckE_ok h1 h4 (by rw [h.ck];exact hkc)) (fun _=>⟨h,ho,hx,hk,hkc⟩) hL
theorem rValid_q {w:World} {L:Nat} {M:Mo} {off:Rat} {cs:List CV} {rs:List RV} {ao:Option Addr} {k cap:Nat} {ds:List Rat} {ax:Option Addr} {kx capx:Nat} {xs:List Rat} (h:MoV L w M off cs rs) (ho:mvOk cs rs=true) (hx:Rf L w ao ds) (hk:ds.length=k) (hkc:k=cs.length) (hy:Rf L w ax xs) (hkx:xs.length=kx) (hkxc:kx=cs.length) (hL:L ≤ 30) :
  Calls Tryz.prog 9 #[M.val,.agg #[.slice ax kx capx,.slice ao k cap]] w fun e w'=>e=.returned (.tuple #[.bool (valB 0 0 0 cs rs ds xs),.int .i64 0]) ∧ Below w.heap.size w w':=by
 obtain ⟨h1,h2⟩:=h.chk (by omega) ho
 obtain ⟨X,h3,h4⟩:=rf_rl hx (by omega)
 obtain ⟨Y,h5,h6⟩:=rf_rl hy (by omega)
 have mp:=mvOk_p ho
 rw [hk] at h3 h4
 rw [hkx] at h5 h6
 exact rValid_v (fun _ _=>h2) h3 (by have:=mp.cl;omega) h1 (pckE_ok h1 h4 (by rw [h.ck];exact hkc)) (fun _=>⟨h,ho,hx,hk,hkc⟩) hL h5 (by have:=mp.cl;omega) (pckE_ok h1 h6 (by rw [h.ck];exact hkxc)) (fun _=>⟨h,ho,hy,hkx,hkxc⟩)
theorem rAlong_q {w:World} {L:Nat} {ax:Option Addr} {kx capx:Nat} {ao:Option Addr} {k cap:Nat} {ts:Bool} {tx:Option Addr} {tn tc:Nat} {tf:Nat → Int} {ty:Option Addr} {tm td:Nat} {tg:Nat → Int} {xs ds:List Rat} {tq:Rat} (hy:Rf L w ax xs) (hkx:xs.length=kx) (hx:Rf L w ao ds) (hk:ds.length=k) (hkk:k=kx) (ht:Rn L w ts tx tn tc tf ty tm td tg tq) (hL:L ≤ 60) (h9:kx ≤ 1000) :
  Calls Tryz.prog 17 #[.agg #[.slice ax kx capx,.slice ao k cap],.agg #[.bool ts,.slice tx tn tc,.slice ty tm td]] w fun e w'=>∃ a c,e=.returned (.tuple #[.slice a kx c,.int .i64 0]) ∧ Below w.heap.size w w' ∧ (kx ≤ c ∧ c ≤ 9223372036854775807) ∧ Hid (Rf (KL L) w' a (alng xs ds tq)):=by
 obtain ⟨X,h3,h4⟩:=rf_rl hx (by omega)
 obtain ⟨Y,h5,h6⟩:=rf_rl hy (by omega)
 rw [hk] at h3 h4
 rw [hkx] at h5 h6
 have hn9:=Rn.nm (t:=⟨ts,tx,tn,tc,tf,ty,tm,td,tg⟩) ht
 obtain ⟨h7,h8⟩:=hn9 (by omega)
 have he:alE ⟨ts,tx,tn,tc,tf,ty,tm,td,tg⟩ kx Y k X=0:=by
  unfold alE
  rw [show pnE 1 (fun _=>(⟨ts,tx,tn,tc,tf,ty,tm,td,tg⟩:Nm)) 1=0 by unfold pnE;rw [if_pos (show afB 1 _=true by simp [afB,afr,h8])];rfl,show pnE kx Y kx=0 by unfold pnE;rw [if_pos h6,if_pos rfl],show pnE k X kx=0 by unfold pnE;rw [if_pos h4,if_pos (by rw [hkk])]]
  rfl
 refine (rAlong_v h5 h3 h7 (by omega) (by omega) he (fun _=>⟨hy,hkx,hx,hk,hkk,ht⟩) hL).mono ?_
 rintro e w' ⟨hb,⟨h0,_⟩ | ⟨_,a,c,rfl,hc,hr⟩⟩
 ·exact absurd rfl h0
 ·exact ⟨a,c,rfl,hb,hc,hr⟩
set_option maxRecDepth 100000 in
theorem one13_c {w:World} {z:Int} (h0:-1000 ≤ z) (h1:z ≤ 1000):Calls Tryz.prog 28 #[.int .i64 z] w fun e w'=>∃ a,e=.returned (.slice a 1 1) ∧ Below w.heap.size w w' ∧ Hid (Rf 4 w' a [(z:Rat)]):=by
 go_enter Tryz.func28,Tryz.ntmps28
 go_wp2_with fail
 refine (docOfQ_c (z:=z) (by omega) (by omega)).mono ?_
 rintro e w1 ⟨s,x,n,c,f,y,m,d,g,rfl,hb,hr⟩
 have HR:=hid (show Rf 4 (w1.alloc (.cells #[.bool s,.slice x n c,.slice y m d] 24)) (some ⟨w1.heap.size,0,none⟩) [(z:Rat)] from (gr_one (base:=0) hr (Nat.zero_le _)).rf)
 have HB:=hid (below_alloc hb (.cells #[.bool s,.slice x n c,.slice y m d] 24))
 clear hr hb
 go_wp2
 go_ret
 exact ⟨_,rfl,HB.out,HR.out⟩
/-- The values of law13's first. -/
def fiC:List CV:=[⟨⟨#[120]⟩,1,-1,0,1,0⟩]
set_option maxRecDepth 100000 in
set_option maxHeartbeats 4000000 in
theorem first13_c {w:World}:Calls Tryz.prog 27 #[] w fun e w'=>∃ M:Mo,e=.returned M.val ∧ Below w.heap.size w w' ∧ Hid (MoV 8 w' M 0 fiC []):=by
 go_enter Tryz.func27,Tryz.ntmps27
 go_wp2_with fail
 have HB:=hid (below_alloc (Below.refl w.heap.size w) (.cells #[.bool false,.slice none 0 0,.slice none 0 0,.slice none 0 0,.slice none 0 0] 28))
 have O0:Hid (Bk (w.alloc (.cells #[.bool false,.slice none 0 0,.slice none 0 0,.slice none 0 0,.slice none 0 0] 28)) w.heap.size [.bool false,.slice none 0 0,.slice none 0 0,.slice none 0 0,.slice none 0 0] 28):=bk_new w [.bool false,.slice none 0 0,.slice none 0 0,.slice none 0 0,.slice none 0 0] 28
 generalize w.alloc (.cells #[.bool false,.slice none 0 0,.slice none 0 0,.slice none 0 0,.slice none 0 0] 28)=w0 at *
 refine (docOfQ_c (z:=0) (by decide) (by decide)).mono ?_
 rintro e w1 ⟨s1,x1,n1,c1,f1,y1,m1,d1,g1,rfl,hb,hr⟩
 replace HB:=hid (HB.out.trans (hb.mono HB.out.size));replace O0:=hid (O0.out.below hb)
 have R1:=hid hr
 clear hb hr
 go_wp2_with fail
 refine (docOfQ_c (z:=1) (by decide) (by decide)).mono ?_
 rintro e w2 ⟨s2,x2,n2,c2,f2,y2,m2,d2,g2,rfl,hb,hr⟩
 replace HB:=hid (HB.out.trans (hb.mono HB.out.size));replace O0:=hid (O0.out.below hb);replace R1:=hid (R1.out.below hb)
 have R2:=hid hr
 clear hb hr
 go_wp2_with fail
 refine (xLow_c).mono ?_
 rintro e w3 ⟨s3,x3,n3,c3,f3,y3,m3,d3,g3,rfl,hb,hF⟩
 replace HB:=hid (HB.out.trans (hb.mono HB.out.size));replace O0:=hid (O0.out.below hb);replace R1:=hid (R1.out.below hb);replace R2:=hid (R2.out.below hb)
 clear hb
 go_wp2_with fail
 refine (xTo_c hF.out.2.2 (by have:=hF.out;omega) (by have:=hF.out;omega)).mono ?_
 rintro e w4 ⟨z4,k4,t4,p4,v4,l4,q4,r4,rfl,hb,hE⟩
 replace HB:=hid (HB.out.trans (hb.mono HB.out.size));replace O0:=hid (O0.out.below hb);replace R1:=hid (R1.out.below hb);replace R2:=hid (R2.out.below hb)
 have E3:=hid (hE.out.rn.mono (show _ ≤ 8 by have:=hF.out;omega))
 clear hb hE hF
 go_wp2_with fail
 refine (xHigh_c).mono ?_
 rintro e w5 ⟨s5,x5,n5,c5,f5,y5,m5,d5,g5,rfl,hb,hF⟩
 replace HB:=hid (HB.out.trans (hb.mono HB.out.size));replace O0:=hid (O0.out.below hb);replace R1:=hid (R1.out.below hb);replace R2:=hid (R2.out.below hb);replace E3:=hid (E3.out.below hb)
 clear hb
 go_wp2_with fail
 refine (xTo_c hF.out.2.2 (by have:=hF.out;omega) (by have:=hF.out;omega)).mono ?_
 rintro e w6 ⟨z6,k6,t6,p6,v6,l6,q6,r6,rfl,hb,hE⟩
 replace HB:=hid (HB.out.trans (hb.mono HB.out.size));replace O0:=hid (O0.out.below hb);replace R1:=hid (R1.out.below hb);replace R2:=hid (R2.out.below hb);replace E3:=hid (E3.out.below hb)
 have E5:=hid (hE.out.rn.mono (show _ ≤ 8 by have:=hF.out;omega))
 clear hb hE hF
 skip
 have hn:=below_alloc (Below.refl w6.heap.size w6) (.cells #[.string ⟨#[120]⟩,.bool s2,.slice x2 n2 c2,.slice y2 m2 d2,.int .i64 (-1),.bool s3,.slice z4 k4 t4,.slice v4 l4 q4,.int .i64 1,.bool s5,.slice z6 k6 t6,.slice v6 l6 q6] 72)
 have HCs:Hid (Cs (w6.alloc (.cells #[.string ⟨#[120]⟩,.bool s2,.slice x2 n2 c2,.slice y2 m2 d2,.int .i64 (-1),.bool s3,.slice z4 k4 t4,.slice v4 l4 q4,.int .i64 1,.bool s5,.slice z6 k6 t6,.slice v6 l6 q6] 72)) w6.heap.size 0 [.string ⟨#[120]⟩,.bool s2,.slice x2 n2 c2,.slice y2 m2 d2,.int .i64 (-1),.bool s3,.slice z4 k4 t4,.slice v4 l4 q4,.int .i64 1,.bool s5,.slice z6 k6 t6,.slice v6 l6 q6]):=cs_new w6 72 [.string ⟨#[120]⟩,.bool s2,.slice x2 n2 c2,.slice y2 m2 d2,.int .i64 (-1),.bool s3,.slice z4 k4 t4,.slice v4 l4 q4,.int .i64 1,.bool s5,.slice z6 k6 t6,.slice v6 l6 q6] [.string ⟨#[120]⟩,.bool s2,.slice x2 n2 c2,.slice y2 m2 d2,.int .i64 (-1),.bool s3,.slice z4 k4 t4,.slice v4 l4 q4,.int .i64 1,.bool s5,.slice z6 k6 t6,.slice v6 l6 q6] 0 (fun j v e=>by rw [Nat.zero_add];exact e)
 replace HB:=hid (HB.out.trans (hn.mono HB.out.size));replace O0:=hid (O0.out.below hn);replace R1:=hid (R1.out.below hn);replace R2:=hid (R2.out.below hn);replace E3:=hid (E3.out.below hn);replace E5:=hid (E5.out.below hn)
 clear hn
 have HMo:Hid (MoV 8 (w6.alloc (.cells #[.string ⟨#[120]⟩,.bool s2,.slice x2 n2 c2,.slice y2 m2 d2,.int .i64 (-1),.bool s3,.slice z4 k4 t4,.slice v4 l4 q4,.int .i64 1,.bool s5,.slice z6 k6 t6,.slice v6 l6 q6] 72)) ⟨⟨s1,x1,n1,c1,f1,y1,m1,d1,g1⟩,some ⟨w6.heap.size,0,none⟩,1,1,fun _=>⟨⟨#[120]⟩,⟨s2,x2,n2,c2,f2,y2,m2,d2,g2⟩,⟨-1,⟨s3,z4,k4,t4,p4,v4,l4,q4,r4⟩⟩,⟨1,⟨s5,z6,k6,t6,p6,v6,l6,q6,r6⟩⟩⟩,none,0,0,fun _=>⟨⟨#[]⟩,⟨0,⟨false,none,0,0,fun _=>0,none,0,0,fun _=>0⟩⟩,⟨0,⟨false,none,0,0,fun _=>0,none,0,0,fun _=>0⟩⟩,none,0,0,fun _=>0,fun _=>⟨false,none,0,0,fun _=>0,none,0,0,fun _=>0⟩⟩⟩ 0 fiC []):=by
  refine ⟨R1.out.mono (by decide),rfl,rfl,fun j v e=>?_,fun j v e=>by simp at e⟩
  match j,e with
  | 0,e=>cases e;exact ⟨⟨_,0,rfl,HCs.out⟩,rfl,R2.out.mono (by decide),rfl,E3.out,rfl,E5.out⟩
 obtain ⟨hk1,hk2⟩:=kp_st5 (w:=(w6.alloc (.cells #[.string ⟨#[120]⟩,.bool s2,.slice x2 n2 c2,.slice y2 m2 d2,.int .i64 (-1),.bool s3,.slice z4 k4 t4,.slice v4 l4 q4,.int .i64 1,.bool s5,.slice z6 k6 t6,.slice v6 l6 q6] 72))) (w':=(((((w6.alloc (.cells #[.string ⟨#[120]⟩,.bool s2,.slice x2 n2 c2,.slice y2 m2 d2,.int .i64 (-1),.bool s3,.slice z4 k4 t4,.slice v4 l4 q4,.int .i64 1,.bool s5,.slice z6 k6 t6,.slice v6 l6 q6] 72)).setCell ⟨w.heap.size,0,none⟩ (.bool s1)).setCell ⟨w.heap.size,1,none⟩ (.slice x1 n1 c1)).setCell ⟨w.heap.size,2,none⟩ (.slice y1 m1 d1)).setCell ⟨w.heap.size,3,none⟩ (.slice (some ⟨w6.heap.size,0,none⟩) 1 1)).setCell ⟨w.heap.size,4,none⟩ (.slice none 0 0)) O0.out (nou5 _ _ _ _ _ _ _ _ _ _ _ _ _) rfl
 have HM2:=hid (HMo.out.kp hk1 hk2 (noc5 O0.out))
 have HB2:=hid (below_st5 (u0:=.bool s1) (u1:=.slice x1 n1 c1) (u2:=.slice y1 m1 d1) (u3:=.slice (some ⟨w6.heap.size,0,none⟩) 1 1) (u4:=.slice none 0 0) HB.out (Nat.le_refl w.heap.size))
 have l0:=O0.out.cell (j:=0) rfl
 have l1:=O0.out.cell (j:=1) rfl
 have l2:=O0.out.cell (j:=2) rfl
 have l3:=O0.out.cell (j:=3) rfl
 have l4:=O0.out.cell (j:=4) rfl
 have ff:=O0.out.frozen
 clear hk1 hk2 HMo HB O0 R1 R2 E3 E5 HCs
 go_wp2
 exact bodyPost_ret (v:=.agg #[.bool s1,.slice x1 n1 c1,.slice y1 m1 d1,.slice (some ⟨w6.heap.size,0,none⟩) 1 1,.slice none 0 0]) (by simp [results,Tryz.results27,go_sem,l0,l1,l2,l3,l4]) rfl ⟨_,rfl,HB2.out,HM2.out⟩
theorem rSameEq_c {L L' w sa xa na ca fa ya ma da ga sb xb nb cb fb yb mb db gb q} (ha:Rn L w sa xa na ca fa ya ma da ga q) (hb:Rn L' w sb xb nb cb fb yb mb db gb q) (h1:L ≤ 1048576) (h2:L' ≤ 1048576) :
  Calls Tryz.prog 30 #[.agg #[.bool sa,.slice xa na ca,.slice ya ma da],.agg #[.bool sb,.slice xb nb cb,.slice yb mb db]] w fun e w'=>e=.returned (.bool true) ∧ Below w.heap.size w w':=by
 have l1:=ha.ln;have l2:=ha.ld;have l3:=hb.ln;have l4:=hb.ld
 refine (rSame_c sa xa ya na ca ma da fa ga sb xb yb nb cb mb db fb gb w ha.num.rd ha.den.rd hb.num.rd hb.den.rd (by omega) (by omega) (by omega) (by omega)).mono ?_
 rintro e w' ⟨c,rfl,h3,h4⟩
 refine ⟨?_,h3⟩
 rw [h4.2 ((ha.inj hb).2 rfl)]
theorem fi_ok:mvOk fiC []=true:=by decide +kernel
theorem fi_v1:valB 0 0 0 fiC [] [((-1:Int):Rat)] [((0:Int):Rat)]=true:=by decide +kernel
theorem fi_v2:valB 0 0 0 fiC [] [((1:Int):Rat)] [((0:Int):Rat)]=false:=by decide +kernel
theorem fi_rec:recB 0 0 fiC [] [((5:Int):Rat)]=true:=by decide +kernel
theorem fi_al:alng [((1:Int):Rat)] [((2:Int):Rat)] ((3:Int):Rat)=[((7:Int):Rat)]:=by decide +kernel
set_option maxRecDepth 100000 in
set_option maxHeartbeats 8000000 in
theorem awake13_c (w:World):Calls Tryz.prog 6 #[] w fun e w'=>e=.returned (.bool true) ∧ Below w.heap.size w w':=by
 have HB:=hid (Below.refl w.heap.size w)
 go_enter Tryz.func6,Tryz.ntmps6
 go_wp2_with fail
 refine first13_c.mono ?_
 rintro e v2 ⟨⟨⟨sm,xm,nm,cm,fm,ym,mm,dm,gm⟩,cam,ckm,ccm,Cm,ram,rkm,rcm,Rm⟩,rfl,hb,HM⟩
 replace HB:=hid (HB.out.trans (hb.mono HB.out.size))
 clear hb
 go_wp2_with fail
 refine (one13_c (z:=0) (by decide) (by decide)).mono ?_
 rintro e v3 ⟨ax,rfl,hb,Hax⟩
 replace HB:=hid (HB.out.trans (hb.mono HB.out.size));replace HM:=hid (HM.out.below hb)
 clear hb
 go_wp2_with fail
 refine (one13_c (z:=-1) (by decide) (by decide)).mono ?_
 rintro e v4 ⟨ad,rfl,hb,Had⟩
 replace HB:=hid (HB.out.trans (hb.mono HB.out.size));replace HM:=hid (HM.out.below hb);replace Hax:=hid (Hax.out.below hb)
 clear hb
 go_wp2_with fail
 refine (rValid_q (L:=8) HM.out fi_ok (Had.out.mono (by decide)) rfl rfl (Hax.out.mono (by decide)) rfl rfl (by decide)).mono ?_
 rintro e v1 ⟨rfl,hb⟩
 rw [fi_v1]
 replace HB:=hid (HB.out.trans (hb.mono HB.out.size))
 clear hb HM Hax Had
 go_wp2_with fail
 refine first13_c.mono ?_
 rintro e v6 ⟨⟨⟨sm,xm,nm,cm,fm,ym,mm,dm,gm⟩,cam,ckm,ccm,Cm,ram,rkm,rcm,Rm⟩,rfl,hb,HM⟩
 replace HB:=hid (HB.out.trans (hb.mono HB.out.size))
 clear hb
 go_wp2_with fail
 refine (one13_c (z:=0) (by decide) (by decide)).mono ?_
 rintro e v7 ⟨ax,rfl,hb,Hax⟩
 replace HB:=hid (HB.out.trans (hb.mono HB.out.size));replace HM:=hid (HM.out.below hb)
 clear hb
 go_wp2_with fail
 refine (one13_c (z:=1) (by decide) (by decide)).mono ?_
 rintro e v8 ⟨ad,rfl,hb,Had⟩
 replace HB:=hid (HB.out.trans (hb.mono HB.out.size));replace HM:=hid (HM.out.below hb);replace Hax:=hid (Hax.out.below hb)
 clear hb
 go_wp2_with fail
 refine (rValid_q (L:=8) HM.out fi_ok (Had.out.mono (by decide)) rfl rfl (Hax.out.mono (by decide)) rfl rfl (by decide)).mono ?_
 rintro e v5 ⟨rfl,hb⟩
 rw [fi_v2]
 replace HB:=hid (HB.out.trans (hb.mono HB.out.size))
 clear hb HM Hax Had
 go_wp2_with fail
 refine (one13_c (z:=1) (by decide) (by decide)).mono ?_
 rintro e v9 ⟨ax,rfl,hb,Hax⟩
 replace HB:=hid (HB.out.trans (hb.mono HB.out.size))
 clear hb
 go_wp2_with fail
 refine (one13_c (z:=2) (by decide) (by decide)).mono ?_
 rintro e v10 ⟨ad,rfl,hb,Had⟩
 replace HB:=hid (HB.out.trans (hb.mono HB.out.size));replace Hax:=hid (Hax.out.below hb)
 clear hb
 go_wp2_with fail
 refine (docOfQ_c (z:=3) (by decide) (by decide)).mono ?_
 rintro e w1 ⟨s1,x1,n1,c1,f1,y1,m1,d1,g1,rfl,hb,hr⟩
 replace HB:=hid (HB.out.trans (hb.mono HB.out.size));replace Hax:=hid (Hax.out.below hb);replace Had:=hid (Had.out.below hb)
 have HR:=hid hr
 clear hb hr
 go_wp2_with fail
 refine (rAlong_q (L:=4) Hax.out rfl Had.out rfl rfl HR.out (by decide) (by decide)).mono ?_
 rintro e w2 ⟨aa,ac,rfl,hb,hac,HA⟩
 rw [fi_al] at HA
 replace HB:=hid (HB.out.trans (hb.mono HB.out.size))
 have HAC:=hid hac
 clear hb hac Hax Had HR
 go_wp2_with fail
 refine first13_c.mono ?_
 rintro e v11 ⟨⟨⟨sm,xm,nm,cm,fm,ym,mm,dm,gm⟩,cam,ckm,ccm,Cm,ram,rkm,rcm,Rm⟩,rfl,hb,HM⟩
 replace HB:=hid (HB.out.trans (hb.mono HB.out.size));replace HA:=hid (HA.out.below hb)
 clear hb
 go_wp2_with fail
 refine (one13_c (z:=5) (by decide) (by decide)).mono ?_
 rintro e v12 ⟨ad,rfl,hb,Had⟩
 replace HB:=hid (HB.out.trans (hb.mono HB.out.size));replace HM:=hid (HM.out.below hb);replace HA:=hid (HA.out.below hb)
 clear hb
 go_wp2_with fail
 refine (rRec_q (L:=8) HM.out fi_ok (Had.out.mono (by decide)) rfl rfl (by decide)).mono ?_
 rintro e w3 ⟨rfl,hb⟩
 rw [fi_rec]
 replace HB:=hid (HB.out.trans (hb.mono HB.out.size));replace HA:=hid (HA.out.below hb)
 clear hb HM Had
 obtain ⟨b,o,⟨s,x,n,c,f,y,m,d,g⟩,hb1,⟨p0,p1,p2⟩,hr⟩:=HA.out 0 _ rfl
 subst hb1
 replace p0:w3.cell? ⟨b,o,none⟩=some (.bool s):=p0
 replace p1:w3.cell? ⟨b,o + 1,none⟩=some (.slice x n c):=p1
 replace p2:w3.cell? ⟨b,o + 2,none⟩=some (.slice y m d):=p2
 have HR:Hid (Rn (KL 4) w3 s x n c f y m d g ((7:Int):Rat)):=hr
 clear hr HA
 go_upto_region 5 with fail
 have CD:=hid (fun W=>docOfQ_c (w:=W) (z:=7) (by decide) (by decide))
 unfold RatAns at CD
 have CS:Hid (∀ W s2 x2 n2 c2 f2 y2 m2 d2 g2,Below w3.heap.size w3 W → Rn 4 W s2 x2 n2 c2 f2 y2 m2 d2 g2 ((7:Int):Rat) → Calls Tryz.prog 30 #[.agg #[.bool s,.slice x n c,.slice y m d],.agg #[.bool s2,.slice x2 n2 c2,.slice y2 m2 d2]] W fun e w'=>e=.returned (.bool true) ∧ Below W.heap.size W w'):=fun W s2 x2 n2 c2 f2 y2 m2 d2 g2 hW h2=>rSameEq_c (HR.out.below hW) h2 (by decide) (by decide)
 go_region_held3 (fun w'=>w'.cell? ⟨b,o,none⟩=some (.bool s) ∧ w'.cell? ⟨b,o + 1,none⟩=some (.slice x n c) ∧ w'.cell? ⟨b,o + 2,none⟩=some (.slice y m d))
  (refine ⟨?_,?_,?_⟩ <;> repeat (with_reducible first | assumption | refine kCd ?_ | refine kCb (by assumption) ?_))
  (first
   | (go_at_call 29;with_reducible refine (CD.out _).mono ?_;rintro e w4 ⟨s2,x2,n2,c2,f2,y2,m2,d2,g2,rfl,hb4,H4⟩;replace H4:=hid H4)
   | (go_at_call 30;with_reducible refine (CS.out _ s2 x2 n2 c2 f2 y2 m2 d2 g2 (by repeat (with_reducible first | assumption | exact Below.refl _ _ | refine Below.drew ?_ | refine kBa ?_ | refine kBb (by assumption) ?_)) H4.out).mono ?_;rintro e w5 ⟨rfl,hb5⟩))
 have HB5:=hid (HB.out.trans ((show Below w3.heap.size w3 w5 from (by repeat (with_reducible first | assumption | exact Below.refl _ _ | refine Below.drew ?_ | refine kBa ?_ | refine kBb (by assumption) ?_))).mono HB.out.size))
 clear hb4 hb5 H4 p0 p1 p2 CD CS HR
 go_wp2
 go_ret
 exact ⟨rfl,HB5.out⟩
theorem NmS.val {w:World} {t:Nm} {K:Nat} (h:NmS w t) (hf:nfB t=true) (hk:t.n ≤ K ∧ t.m ≤ K):NmV K w t (nq t):=by
 obtain ⟨q,hq⟩:=Nm.rn h hf hk.1 hk.2
 rw [hq.nq];exact hq
def cvOf (c:Lc):CV:=⟨c.nm,nq c.cost,c.lo.i,nq c.lo.v,c.hi.i,nq c.hi.v⟩
def rvOf (r:Lr):RV:=⟨r.nm,r.lo.i,nq r.lo.v,r.hi.i,nq r.hi.v,(List.range r.tk).map (fun p=>(r.col p,nq (r.T p)))⟩
theorem range_at {α:Type} {f:Nat → α} {n j:Nat} {v:α} (h:((List.range n).map f)[j]?=some v):j < n ∧ v=f j:=by
 have hlt:j < n:=by have:=(List.getElem?_eq_some_iff.1 h).1;simpa using this
 simp [hlt] at h
 exact ⟨hlt,h.symm⟩
theorem range_get {α:Type} {f:Nat → α} {n j:Nat} (h:j < n):((List.range n).map f)[j]?=some (f j):=by simp [h]
theorem bd_of {w:World} {a b:Ex} {K:Nat} (ha:NmS w a.v) (hb:NmS w b.v) (ka:a.v.n ≤ K ∧ a.v.m ≤ K) (kb:b.v.n ≤ K ∧ b.v.m ≤ K) (h:abB a b=true):NmV K w a.v (nq a.v) ∧ NmV K w b.v (nq b.v) ∧ bdB a.i (nq a.v) b.i (nq b.v)=true:=by
 obtain ⟨f1,f2,h1,h2⟩:=abB_ok h
 simp only [exF,efB,Bool.and_eq_true,Bool.or_eq_true,decide_eq_true_eq] at f1 f2
 have v1:NmV K w a.v (nq a.v):=ha.val f1.1 ka
 have v2:NmV K w b.v (nq b.v):=hb.val f2.1 kb
 refine ⟨v1,v2,?_⟩
 simp only [bdB,Bool.and_eq_true,Bool.or_eq_true,decide_eq_true_eq]
 constructor
 ·rcases f1.2 with h | ⟨h | h,h3⟩
  ·exact .inl h
  ·exact .inr ⟨h,(Rn.q_zero v1).2 h3⟩
  ·exact absurd h h1
 ·rcases f2.2 with h | ⟨h | h,h3⟩
  ·exact .inl h
  ·exact absurd h h2
  ·exact .inr ⟨h,(Rn.q_zero v2).2 h3⟩
theorem ts_of {w:World} {col:Nat → Int} {T:Nat → Nm} {n K:Nat}:∀ {r i:Nat} {last:Int},tfr col T r i last=true → (∀ p,i ≤ p → p < i + r → col p < (n:Int)) → (∀ p,i ≤ p → p < i + r → NmV K w (T p) (nq (T p))) → tsB n last ((List.range' i r).map (fun p=>(col p,nq (T p))))=true
 | 0,i,last,_,_,_=>rfl
 | r + 1,i,last,h,hc,hv=>by
  simp only [tfr,Bool.and_eq_true,decide_eq_true_eq] at h
  rw [List.range'_succ,List.map_cons]
  simp only [tsB,Bool.and_eq_true,decide_eq_true_eq]
  refine ⟨h.1,hc i (by omega) (by omega),fun e=>?_,ts_of h.2.2.2 (fun p a b=>hc p (by omega) (by omega)) (fun p a b=>hv p (by omega) (by omega))⟩
  have:=(Rn.q_zero (hv i (by omega) (by omega))).1 e
  omega
/-- A model's values. -/
def csOf (M:Mo):List CV:=(List.range M.ck).map (fun j=>cvOf (M.C j))
def rsOf (M:Mo):List RV:=(List.range M.rk).map (fun j=>rvOf (M.R j))
/-- A model that is well formed, by its values. -/
theorem MoR.movC {w M K} (h:MoR w M) (hk:MoK K M) (he:chkE M=0):MoV K w M (nq M.off) (csOf M) (rsOf M) ∧ mvOk (csOf M) (rsOf M)=true:=by
 obtain ⟨l1,l2,hF,n1,n2,t1,t2,hAl⟩:=chkE_ok he
 simp only [moF,Bool.and_eq_true] at hF
 obtain ⟨hF0,hFC,hFR⟩:=hF
 have hcol:∀ j,j < M.ck → ColV K w (M.C j) (cvOf (M.C j)) ∧ bdB (cvOf (M.C j)).li (cvOf (M.C j)).lq (cvOf (M.C j)).hi (cvOf (M.C j)).hq=true:=fun j hj=>by
  obtain ⟨_,_,_,_,hn⟩:=h.cls j hj
  obtain ⟨f1,f2⟩:=clsB_at hFC j (by omega) (by omega)
  have k:=hk.c j hj
  obtain ⟨v1,v2,hb⟩:=bd_of hn.lo hn.hi k.2.1 k.2.2 f2
  exact ⟨⟨rfl,hn.cost.val f1 k.1,rfl,v1,rfl,v2⟩,hb⟩
 have hrow:∀ j,j < M.rk → RowV K w (M.R j) (rvOf (M.R j)) ∧ bdB (rvOf (M.R j)).li (rvOf (M.R j)).lq (rvOf (M.R j)).hi (rvOf (M.R j)).hq=true ∧ tsB M.ck (-1) (rvOf (M.R j)).ts=true:=fun j hj=>by
  obtain ⟨_,_,_,_,hn⟩:=h.rls j hj
  obtain ⟨f1,f2⟩:=rlsB_at hFR j (by omega) (by omega)
  have k:=hk.r j hj
  obtain ⟨v1,v2,hb⟩:=bd_of hn.lo hn.hi k.1 k.2.1 f1
  have hall:=(tfr_all f2).1
  have hv:∀ p,p < (M.R j).tk → NmV K w ((M.R j).T p) (nq ((M.R j).T p)):=fun p hp=>by
   obtain ⟨_,_,_,_,hr⟩:=hn.tl p hp
   exact NmS.val hr (hall p (by omega) (by omega)).2.1 (k.2.2.2 p hp)
  refine ⟨⟨rfl,rfl,v1,rfl,v2,by simp [rvOf],fun p z q e=>?_⟩,hb,?_⟩
  ·obtain ⟨hp,e'⟩:=range_at e
   obtain ⟨b,o,ea,c4,_⟩:=hn.tl p hp
   cases e'
   exact ⟨rfl,hv p hp,b,o,ea,c4⟩
  ·show tsB M.ck (-1) ((List.range (M.R j).tk).map _)=true
   rw [List.range_eq_range']
   exact ts_of f2 (fun p _ hp=>(cols_at f2 (alB_at hAl j (by omega) (by omega)) p (by omega)).2) (fun p _ hp=>hv p (by omega))
 unfold csOf rsOf
 refine ⟨⟨h.off.val hF0 hk.off,by simp,by simp,fun j v e=>?_,fun j v e=>?_⟩,?_⟩
 ·obtain ⟨hj,rfl⟩:=range_at e
  obtain ⟨b,o,ea,hc,_⟩:=h.cls j hj
  exact ⟨⟨b,o,ea,hc⟩,(hcol j hj).1⟩
 ·obtain ⟨hj,rfl⟩:=range_at e
  obtain ⟨b,o,ea,hc,_⟩:=h.rls j hj
  exact ⟨⟨b,o,ea,hc⟩,(hrow j hj).1⟩
 ·have ec:∀ j,j < M.ck → nmC ((List.range M.ck).map (fun j=>cvOf (M.C j))) j=(M.C j).nm:=fun j hj=>by unfold nmC;rw [range_get hj];rfl
  have er:∀ j,j < M.rk → nmR ((List.range M.rk).map (fun j=>rvOf (M.R j))) j=(M.R j).nm:=fun j hj=>by unfold nmR;rw [range_get hj];rfl
  simp only [mvOk,Bool.and_eq_true,decide_eq_true_eq,List.all_eq_true,List.length_map,List.length_range,Bool.not_eq_true']
  refine ⟨l1,l2,fun v hv=>?_,fun v hv=>?_,?_,?_,?_,?_⟩
  ·obtain ⟨j,hj,rfl⟩:=List.mem_map.1 hv
   exact (hcol j (List.mem_range.1 hj)).2
  ·obtain ⟨j,hj,rfl⟩:=List.mem_map.1 hv
   have:=hrow j (List.mem_range.1 hj)
   refine ⟨this.2.1,this.2.2,?_⟩
   have h3:=(hk.r j (List.mem_range.1 hj)).2.2.1
   simp [rvOf];omega
  ·rw [nms_congr (S':=fun j=>(M.C j).nm) (fun j _ hj=>ec j (by omega))];exact n1
  ·rw [nms_congr (S':=fun j=>(M.R j).nm) (fun j _ hj=>er j (by omega))];exact n2
  ·rw [twr_congr (S':=fun j=>(M.C j).nm) (fun j hj=>ec j (by omega))];exact t1
  ·rw [twr_congr (S':=fun j=>(M.R j).nm) (fun j hj=>er j (by omega))];exact t2
theorem FnT.of {K w} {e:Ex} {i:Int} {q:Rat} (h:QnT K w e.v q) (hi:e.i=i) (hb:i=0 ∨ (i=-1 ∨ i=1) ∧ q=0):Fn w e.i e.v.s e.v.x e.v.n e.v.f e.v.y e.v.m e.v.g q:=⟨h.2.2,by rw [hi];exact hb⟩
/-- What a law of models begins with: the parameter's box, and whether the model is light. -/
theorem twin_w {w:World} {M:Mo} {K:Nat} (hX:MoX w M) (hN:MoN M) (hk:M.ck ≤ 64 → M.rk ≤ 64 → MoK K M) (hK:K ≤ 65536):Calls Tryz.prog 10 #[M.val] w fun e w'=>∃ M':Mo,e=.returned M'.val ∧ Below w.heap.size w w' ∧ Sm M M' ∧ MoW w' M' ∧ MoX w' M' ∧ (M'.ck ≤ 64 → M'.rk ≤ 64 → MoK K M') :=
 (mTwin_c hX).mono fun e w' ⟨M',h1,h2,h3,h4⟩=>⟨M',h1,h2,h3,fun a b=>h4.mor (h3.mon hN) (h3.mok (hk (by rw [← h3.ck];exact a) (by rw [← h3.rk];exact b))) hK a b,h4,fun a b=>h3.mok (hk (by rw [← h3.ck];exact a) (by rw [← h3.rk];exact b))⟩
theorem lgM_k {K:Nat} {M:Mo} (h:lgM K M=true):M.ck ≤ 64 → M.rk ≤ 64 → MoK K M:=fun a b=>lgM_at h a b
theorem El.below {w w' ao k E} (h:El w ao k E) (hb:Below w.heap.size w w'):El w' ao k E:=fun j hj=>by
 obtain ⟨b,o,e,h1⟩:=h j hj
 exact ⟨b,o,e,kCb hb h1⟩
theorem Sn.trans {a b c:Nm} (h:Sn a b) (k:Sn b c):Sn a c:=by
 obtain ⟨h1,h2,h3,h4,h5⟩:=h
 obtain ⟨k1,k2,k3,k4,k5⟩:=k
 exact ⟨k1.trans h1,k2.trans h2,k3.trans h3,k4.trans h4,k5.trans h5⟩
theorem Sn.nq {t t':Nm} (h:Sn t t'):nq t'=nq t:=by
 obtain ⟨h1,h2,h3,h4,h5⟩:=h
 unfold Go.Proofs.YtlemkhgicdnlnaaGreat.nq
 rw [h1,h2,h3,h4,h5]
theorem Sm.csOf {M M':Mo} (h:Sm M M'):csOf M'=csOf M:=by
 unfold Go.Proofs.YtlemkhgicdnlnaaGreat.csOf
 rw [h.ck]
 refine List.map_congr_left (fun j hj=>?_)
 have p:=h.C j (List.mem_range.1 hj)
 unfold cvOf
 rw [p.nm,p.cost.nq,p.li,p.lo.nq,p.hi,p.hv.nq]
theorem Sm.rsOf {M M':Mo} (h:Sm M M'):rsOf M'=rsOf M:=by
 unfold Go.Proofs.YtlemkhgicdnlnaaGreat.rsOf
 rw [h.rk]
 refine List.map_congr_left (fun j hj=>?_)
 have p:=h.R j (List.mem_range.1 hj)
 unfold rvOf
 rw [p.nm,p.li,p.lo.nq,p.hi,p.hv.nq,p.tk,p.col]
 congr 1
 exact List.map_congr_left (fun q hq=>by rw [(p.T q (List.mem_range.1 hq)).nq])
/-- A list's numbers. -/
def psOf (k:Nat) (X:Nat → Nm):List Rat:=(List.range k).map (fun j=>nq (X j))
theorem psOf_len (k:Nat) (X:Nat → Nm):(psOf k X).length=k:=by simp [psOf]
theorem psOf_sn {k:Nat} {X X':Nat → Nm} (h:∀ j,j < k → Sn (X j) (X' j)):psOf k X'=psOf k X:=List.map_congr_left (fun j hj=>(h j (List.mem_range.1 hj)).nq)
theorem Rl.rfC {w:World} {ao:Option Addr} {k K:Nat} {X:Nat → Nm} (h:Rl w ao k X) (hf:afB k X=true) (hk:∀ j,j < k → (X j).n ≤ K ∧ (X j).m ≤ K):Rf K w ao (psOf k X):=fun j q e=>by
 obtain ⟨hj,rfl⟩:=range_at e
 obtain ⟨b,o,h1,h2,h3⟩:=h j hj
 exact ⟨b,o,X j,h1,h2,NmS.val h3 (afr_all hf j (by omega) (by omega)) (hk j hj)⟩
theorem psum_acc:∀ (p:List Rat) (a:Rat),psum p a=a + psum p 0
 | [],a=>by show a=a + 0;grind
 | q :: p,a=>by
  simp only [psum]
  rw [psum_acc p (a + q),psum_acc p (0 + q)]
  grind
theorem psum_cons (q:Rat) (p:List Rat):psum (q :: p) 0=q + psum p 0:=by
 simp only [psum]
 rw [psum_acc];grind
theorem alng_get {xs ds:List Rat} {t:Rat} (j:Nat):(alng xs ds t)[j]?=(xs[j]?.bind fun x=>ds[j]?.map fun d=>0 + x + t * d):=by
 unfold alng
 rw [List.getElem?_zipWith]
 cases xs[j]? <;> cases ds[j]? <;> rfl
theorem alng_len {xs ds:List Rat} {t:Rat} (h:xs.length=ds.length):(alng xs ds t).length=xs.length:=by unfold alng;rw [List.length_zipWith,h,Nat.min_self]
/-- Are a list's numbers of at most K limbs, and not too many? -/
def lgL (K k:Nat) (X:Nat → Nm):Bool:=decide (k ≤ 300) && nlg K X k 0
set_option maxRecDepth 100000 in
set_option maxHeartbeats 4000000 in
theorem light13_c {w:World} {ax:Option Addr} {kx capx:Nat} {Y:Nat → Nm} {ao:Option Addr} {k cap:Nat} {X:Nat → Nm} (K:Nat) (hy:Rr w ax kx Y) (hx:Rr w ao k X) (hkx:kx ≤ 9223372036854775807) (hk:k ≤ 9223372036854775807) :
  Calls Tryz.prog 8 #[.agg #[.slice ax kx capx,.slice ao k cap],.int .i64 K] w fun e w'=>e=.returned (.bool (lgL K kx Y && lgL K k X)) ∧ Below w.heap.size w w':=by
 have C1:Hid (∀ W,Below w.heap.size w W → Calls Tryz.prog 31 #[.slice ax kx capx,.int .i64 K] W fun e w'=>e=.returned (.bool (lgL K kx Y)) ∧ Below W.heap.size W w'):=fun W hW=>rLights_c K (hy.below hW) hkx
 have C2:Hid (∀ W,Below w.heap.size w W → Calls Tryz.prog 31 #[.slice ao k cap,.int .i64 K] W fun e w'=>e=.returned (.bool (lgL K k X)) ∧ Below W.heap.size W w'):=fun W hW=>rLights_c K (hx.below hW) hk
 obtain ⟨p,hp⟩:∃ p,lgL K kx Y=p:=⟨_,rfl⟩
 obtain ⟨q,hq⟩:∃ q,lgL K k X=q:=⟨_,rfl⟩
 rw [hp] at C1 ⊢
 rw [hq] at C2 ⊢
 clear hp hq hx hy
 have BY:Hid (Bk (w.alloc (.cells #[.slice ax kx capx,.slice ao k cap] 31)) w.heap.size [.slice ax kx capx,.slice ao k cap] 31):=bk_new w [.slice ax kx capx,.slice ao k cap] 31
 have HB:=hid (below_alloc (Below.refl w.heap.size w) (.cells #[.slice ax kx capx,.slice ao k cap] 31))
 go_enter Tryz.func8,Tryz.ntmps8
 have t0:=BY.out.cell (j:=0) rfl
 go_wp2_with fail
 clear t0
 generalize w.alloc (.cells #[.slice ax kx capx,.slice ao k cap] 31)=w0 at *
 refine (C1.out _ HB.out).mono ?_
 rintro e w1 ⟨rfl,hb⟩
 replace HB:=hid (HB.out.trans (hb.mono HB.out.size));replace BY:=hid (BY.out.below hb)
 clear hb
 cases p
 ·go_wp2
  go_ret
  exact ⟨rfl,HB.out⟩
 have t1:=BY.out.cell (j:=1) rfl
 go_wp2_with fail
 clear t1
 refine (C2.out _ HB.out).mono ?_
 rintro e w2 ⟨rfl,hb⟩
 replace HB:=hid (HB.out.trans (hb.mono HB.out.size))
 clear hb
 go_wp2
 go_ret
 exact ⟨rfl,HB.out⟩
/-- What a twin of a ray is. -/
def TwY (w w':World) (e:Ending) (kx:Nat) (Y:Nat → Nm) (k:Nat) (X:Nat → Nm):Prop:=∃ bx cx Y' bo co X',e=.returned (.agg #[.slice bx kx cx,.slice bo k co]) ∧ Below w.heap.size w w' ∧ ((kx ≤ cx ∧ cx ≤ 9223372036854775807) ∧ k ≤ co ∧ co ≤ 9223372036854775807) ∧ Hid ((Rl w' bx kx Y' ∧ ∀ j,j < kx → Sn (Y j) (Y' j)) ∧ Rl w' bo k X' ∧ ∀ j,j < k → Sn (X j) (X' j))
set_option maxRecDepth 100000 in
set_option maxHeartbeats 4000000 in
theorem twin13_c {w:World} {ax:Option Addr} {kx capx:Nat} {Y:Nat → Nm} {ao:Option Addr} {k cap:Nat} {X:Nat → Nm} (hy:Rl w ax kx Y) (hx:Rl w ao k X) (hkx:kx ≤ 10000) (hk:k ≤ 10000) (ly:∀ j,j < kx → (Y j).n ≤ 1000 ∧ (Y j).m ≤ 1000) (lx:∀ j,j < k → (X j).n ≤ 1000 ∧ (X j).m ≤ 1000) :
  Calls Tryz.prog 11 #[.agg #[.slice ax kx capx,.slice ao k cap]] w fun e w'=>TwY w w' e kx Y k X:=by
 have C1:=hid (fun W (hW:Below w.heap.size w W)=>twins_c (w:=W) (cap:=capx) (hy.below hW) hkx ly)
 have C2:=hid (fun W (hW:Below w.heap.size w W)=>twins_c (w:=W) (cap:=cap) (hx.below hW) hk lx)
 unfold TwsAns at C1 C2
 clear hx hy
 have hb:=below_alloc (below_alloc (Below.refl w.heap.size w) (.cells #[.slice ax kx capx,.slice ao k cap] 31)) (.cells #[.slice none 0 0,.slice none 0 0] 31)
 have BY:Hid (Bk ((w.alloc (.cells #[.slice ax kx capx,.slice ao k cap] 31)).alloc (.cells #[.slice none 0 0,.slice none 0 0] 31)) w.heap.size [.slice ax kx capx,.slice ao k cap] 31):=(bk_new w [.slice ax kx capx,.slice ao k cap] 31).below (below_alloc (Below.refl _ _) _)
 have BR:Hid (Bk ((w.alloc (.cells #[.slice ax kx capx,.slice ao k cap] 31)).alloc (.cells #[.slice none 0 0,.slice none 0 0] 31)) (w.heap.size + 1) [.slice none 0 0,.slice none 0 0] 31):=by
  have:=bk_new (w.alloc (.cells #[.slice ax kx capx,.slice ao k cap] 31)) [.slice none 0 0,.slice none 0 0] 31
  rw [size_alloc1] at this;exact this
 have HB:=hid hb
 clear hb
 go_enter Tryz.func11,Tryz.ntmps11
 go_upto_region 1 with fail
 generalize ((w.alloc (.cells #[.slice ax kx capx,.slice ao k cap] 31)).alloc (.cells #[.slice none 0 0,.slice none 0 0] 31))=w0 at *
 have t0:=BY.out.cell (j:=0) rfl
 have t1:=BY.out.cell (j:=1) rfl
 have y0:=kI0 (BR.out.cell (j:=0) rfl)
 have y1:=kI0 (BR.out.cell (j:=1) rfl)
 have z0:=BR.out.frozen 0
 have z1:=BR.out.frozen 1
 have C3:=hid (fun W (hW:Below w0.heap.size w0 W)=>C1.out W (HB.out.trans (hW.mono HB.out.size)))
 have C4:=hid (fun W (hW:Below w0.heap.size w0 W)=>C2.out W (HB.out.trans (hW.mono HB.out.size)))
 clear C1 C2
 go_region_held3 (fun w'=>w'.cell? ⟨w.heap.size,0,none⟩=some (.slice ax kx capx) ∧ w'.cell? ⟨w.heap.size,1,none⟩=some (.slice ao k cap) ∧ (w'.cell? ⟨w.heap.size + 1,0,none⟩).isSome=true ∧ (w'.cell? ⟨w.heap.size + 1,1,none⟩).isSome=true ∧ w'.frozen? ⟨w.heap.size + 1,0,none⟩=false ∧ w'.frozen? ⟨w.heap.size + 1,1,none⟩=false)
  (refine ⟨?_,?_,?_,?_,?_,?_⟩ <;> repeat (with_reducible first | assumption | refine kCd ?_ | refine kId ?_ | refine kFd ?_ | refine kCs (by simp only [ne_eq];omega) ?_ | refine kIs ?_ | refine kFs ?_ | refine kCb (by assumption) ?_ | refine kIb (by assumption) ?_ | refine kFbs (by assumption) ?_ ?_))
  (first
   | (have h9:=H1.out;clear h9;go_at_call 14;with_reducible refine (C4.out _ (by repeat (with_reducible first | assumption | exact Below.refl _ _ | refine Below.drew ?_ | refine kBa ?_ | refine kBb (by assumption) ?_))).mono ?_;rintro e w2 ⟨bo,co,X',rfl,hb2,hco,H2⟩;have B2:=hid (BR.out.below (show Below w0.heap.size w0 w2 from (by repeat (with_reducible first | assumption | exact Below.refl _ _ | refine Below.drew ?_ | refine kBa ?_ | refine kBb (by assumption) ?_))));have p20:=B2.out.cell (j:=0) rfl;have p21:=B2.out.cell (j:=1) rfl;have m20:=kI0 p20;have m21:=kI0 p21;have q20:=B2.out.frozen 0;have q21:=B2.out.frozen 1)
   | (go_at_call 14;with_reducible refine (C3.out _ (by repeat (with_reducible first | assumption | exact Below.refl _ _ | refine Below.drew ?_ | refine kBa ?_ | refine kBb (by assumption) ?_))).mono ?_;rintro e w1 ⟨bx,cx,Y',rfl,hb1,hcx,H1⟩;have B1:=hid (BR.out.below (show Below w0.heap.size w0 w1 from (by repeat (with_reducible first | assumption | exact Below.refl _ _ | refine Below.drew ?_ | refine kBa ?_ | refine kBb (by assumption) ?_))));have p10:=B1.out.cell (j:=0) rfl;have p11:=B1.out.cell (j:=1) rfl;have m10:=kI0 p10;have m11:=kI0 p11;have q10:=B1.out.frozen 0;have q11:=B1.out.frozen 1))
 all_goals
  have hb02:Below w0.heap.size w0 w2:=(by repeat (with_reducible first | assumption | exact Below.refl _ _ | refine Below.drew ?_ | refine kBa ?_ | refine kBb (by assumption) ?_))
  have hb12:Below w1.heap.size w1 w2:=(by repeat (with_reducible first | assumption | exact Below.refl _ _ | refine Below.drew ?_ | refine kBa ?_ | refine kBb (by assumption) ?_))
  replace HB:=hid (HB.out.trans (hb02.mono HB.out.size));replace BR:=hid (BR.out.below hb02)
  obtain ⟨hx1,hx2,hx3⟩:=st_new [.slice bx kx cx,.slice bo k co] BR.out (nou_list (fun u hu q=>by simp at hu;rcases hu with rfl | rfl <;> simp)) HB.out (by omega)
  have R1:=H1.out.1.below hb12;have R2:=H2.out.1
  have l0:=BR.out.cell (j:=0) rfl
  have l1:=BR.out.cell (j:=1) rfl
  have HX:Hid (TwY w (stl (w.heap.size + 1) 0 [.slice bx kx cx,.slice bo k co] w2) (.returned (.agg #[.slice bx kx cx,.slice bo k co])) kx Y k X):=⟨bx,cx,Y',bo,co,X',rfl,hx1,⟨hcx,hco⟩,⟨R1.st hx2 hx3 (bk_nob BR.out (fun v hv=>by simp at hv;cases hv;exact ⟨_,_,_,rfl⟩)),H1.out.2⟩,R2.st hx2 hx3 (bk_nob BR.out (fun v hv=>by simp at hv;cases hv;exact ⟨_,_,_,rfl⟩)),H2.out.2⟩
  clear hx1 hx2 hx3 R1 R2 hb02 hb12
  go_wp2
  exact bodyPost_ret (v:=.agg #[.slice bx kx cx,.slice bo k co]) (by simp [results,Tryz.results11,go_sem,l0,l1]) rfl HX.out
theorem MoK.up {K L:Nat} {M:Mo} (h:MoK K M) (hL:K ≤ L):MoK L M:=by
 have e:∀ {a b:Nat},a ≤ K ∧ b ≤ K → a ≤ L ∧ b ≤ L:=fun p=>⟨Nat.le_trans p.1 hL,Nat.le_trans p.2 hL⟩
 exact ⟨e h.off,fun j hj=>⟨e (h.c j hj).1,e (h.c j hj).2.1,e (h.c j hj).2.2⟩,fun j hj=>⟨e (h.r j hj).1,e (h.r j hj).2.1,(h.r j hj).2.2.1,fun p hp=>e ((h.r j hj).2.2.2 p hp)⟩⟩
theorem Rf.cut {K L:Nat} {w:World} {ao:Option Addr} {p:List Rat} (h:Rf K w ao p) (hp:∀ q,q ∈ p → Lo L q):Rf L w ao p:=fun j q hj=>by
 obtain ⟨b,o,t,e,h1,h2⟩:=h j q hj
 exact ⟨b,o,t,e,h1,h2.cut (hp q (List.mem_of_getElem? hj))⟩
theorem Rf.lo {K:Nat} {w:World} {ao:Option Addr} {p:List Rat} (h:Rf K w ao p):∀ q,q ∈ p → Lo K q:=fun q hq=>by
 obtain ⟨j,hj⟩:=List.getElem?_of_mem hq
 obtain ⟨b,o,t,e,h1,h2⟩:=h j q hj
 exact h2.lo h2.ln h2.ld
theorem pckE_two {M:Mo} {k:Nat} {X:Nat → Nm} (h:pckE M k X=0):chkE M=0 ∧ afB k X=true ∧ k=M.ck:=by
 obtain ⟨h1,h2⟩:=two_zero h
 refine ⟨h1,?_⟩
 unfold pnE at h2
 by_cases a:afB k X=true
 ·rw [if_pos a] at h2
  by_cases b:k=M.ck
  ·exact ⟨a,b⟩
  ·rw [if_neg (by omega)] at h2;cases h2
 ·rw [if_neg a] at h2;cases h2
theorem csOf_len (M:Mo):(csOf M).length=M.ck:=by simp [csOf]
/-- A model's twin, the model's numbers being of at most 6 limbs. -/
def Tm (w:World) (M M':Mo):Prop:=Sm M M' ∧ MoW w M' ∧ MoX w M' ∧ (M'.ck ≤ 64 → M'.rk ≤ 64 → MoK 6 M')
theorem Tm.below {w w' M M'} (h:Tm w M M') (hb:Below w.heap.size w w'):Tm w' M M':=⟨h.1,h.2.1.below hb,h.2.2.1.below hb,h.2.2.2⟩
/-- A list's twin, the list's numbers being of at most 6 limbs. -/
def Tx (w:World) (ao:Option Addr) (k:Nat) (X X':Nat → Nm):Prop:=Rl w ao k X' ∧ ∀ j,j < k → Sn (X j) (X' j)
theorem Tx.below {w w' ao k X X'} (h:Tx w ao k X X') (hb:Below w.heap.size w w'):Tx w' ao k X X':=⟨h.1.below hb,h.2⟩
/-- A list that is short, its numbers too. -/
def Sh (k:Nat) (X:Nat → Nm):Prop:=k ≤ 300 ∧ ∀ j,j < k → (X j).n ≤ 6 ∧ (X j).m ≤ 6
theorem lgL_sh {k:Nat} {X:Nat → Nm} (h:lgL 6 k X=true):Sh k X:=by
 simp only [lgL,Bool.and_eq_true,decide_eq_true_eq] at h
 exact ⟨h.1,fun j hj=>nlg_all h.2 j (by omega) (by omega)⟩
theorem Tm.val {w M M'} (h:Tm w M M') (hN:MoN M) (he:chkE M=0):MoV 13 w M' (nq M'.off) (csOf M) (rsOf M) ∧ mvOk (csOf M) (rsOf M)=true:=by
 obtain ⟨s,hw,hx,hk⟩:=h
 have he':chkE M'=0:=s.chk.trans he
 obtain ⟨l1,l2,_⟩:=chkE_ok he'
 have k6:=hk l1 l2
 have:=(hx.mor (s.mon hN) k6 (by decide) l1 l2).movC (k6.up (show 6 ≤ 13 by decide)) he'
 rw [s.csOf,s.rsOf] at this
 exact this
theorem Tx.val {w ao k X X'} (h:Tx w ao k X X') (hs:Sh k X) (ha:afB k X=true):Rf 6 w ao (psOf k X):=by
 rw [← psOf_sn h.2]
 refine h.1.rfC ?_ (fun j hj=>by rw [(h.2 j hj).2.1,(h.2 j hj).2.2.2.1];exact hs.2 j hj)
 exact (afr_sn (fun j _ b=>h.2 j (by omega))).trans ha
theorem pckE_tw {w ao k X X' M M'} (h:Tm w M M') (hx:Tx w ao k X X'):pckE M' k X'=pckE M k X:=by
 unfold pckE
 rw [h.1.chk,h.1.ck]
 unfold pnE
 rw [show afB k X'=afB k X from afr_sn (fun j _ b=>hx.2 j (by omega))]
/-- Does a list recede on a model? -/
def rcM (M:Mo) (k:Nat) (X:Nat → Nm):Bool:=recB (chkE M) (pckE M k X) (csOf M) (rsOf M) (psOf k X)
/-- Are two lists a ray of a model? -/
def vlM (M:Mo) (kx:Nat) (Y:Nat → Nm) (k:Nat) (X:Nat → Nm):Bool:=valB (chkE M) (pckE M k X) (pckE M kx Y) (csOf M) (rsOf M) (psOf k X) (psOf kx Y)
theorem tw_hv {w ao k X X' M M'} (h:Tm w M M') (hN:MoN M) (hx:Tx w ao k X X') (hs:Sh k X) (he:pckE M k X=0):MoV 13 w M' (nq M'.off) (csOf M) (rsOf M) ∧ mvOk (csOf M) (rsOf M)=true ∧ Rf 13 w ao (psOf k X) ∧ (psOf k X).length=k ∧ k=(csOf M).length:=by
 obtain ⟨h1,h2,h3⟩:=pckE_two he
 obtain ⟨a,b⟩:=h.val hN h1
 exact ⟨a,b,(hx.val hs h2).mono (by decide),psOf_len _ _,by rw [csOf_len];exact h3⟩
theorem recTw_c {w:World} {M M':Mo} {ao:Option Addr} {k cap:Nat} {X X':Nat → Nm} (h:Tm w M M') (hN:MoN M) (hx:Tx w ao k X X') (hs:Sh k X) :
  Calls Tryz.prog 13 #[M'.val,.slice ao k cap] w fun e w'=>e=.returned (.tuple #[.bool (rcM M k X),.int .i64 (chkE M)]) ∧ Below w.heap.size w w' :=
 rRec_v h.2.1 hx.1 (by have:=hs.1;omega) h.1.chk (pckE_tw h hx) (fun he=>tw_hv h hN hx hs he) (by decide)
theorem validTw_c {w:World} {M M':Mo} {ax:Option Addr} {kx capx:Nat} {Y Y':Nat → Nm} {ao:Option Addr} {k cap:Nat} {X X':Nat → Nm} (h:Tm w M M') (hN:MoN M) (hy:Tx w ax kx Y Y') (hsy:Sh kx Y) (hx:Tx w ao k X X') (hs:Sh k X) :
  Calls Tryz.prog 9 #[M'.val,.agg #[.slice ax kx capx,.slice ao k cap]] w fun e w'=>e=.returned (.tuple #[.bool (vlM M kx Y k X),.int .i64 (chkE M)]) ∧ Below w.heap.size w w' :=
 rValid_v h.2.1 hx.1 (by have:=hs.1;omega) h.1.chk (pckE_tw h hx) (fun he=>tw_hv h hN hx hs he) (by decide) hy.1 (by have:=hsy.1;omega) (pckE_tw h hy) (fun he=>tw_hv h hN hy hsy he)
theorem crl_nil {B:Nat → Bool}:∀ {n:Nat},(crl B n).length=0 ↔ ∀ j,j < n → B j=false
 | 0=>⟨fun _ j hj=>by omega,fun _=>rfl⟩
 | n + 1=>by
  have ih:=crl_nil (B:=B) (n:=n)
  cases e:B n with
  | true =>
   rw [crl_yes e]
   refine ⟨fun h=>by simp at h,fun h=>?_⟩
   rw [h n (by omega)] at e;cases e
  | false =>
   rw [crl_no e,ih]
   refine ⟨fun h j hj=>?_,fun h j hj=>h j (by omega)⟩
   by_cases g:j=n
   ·rw [g];exact e
   ·exact h j (by omega)
theorem alngT_getD {xs ds:List Rat} {t:Rat} (h:xs.length=ds.length) (j:Nat):(alng xs ds t).getD j 0=xs.getD j 0 + t * ds.getD j 0:=by
 rw [List.getD_eq_getElem?_getD,List.getD_eq_getElem?_getD,List.getD_eq_getElem?_getD,alng_get]
 by_cases hj:j < xs.length
 ·rw [List.getElem?_eq_getElem hj,List.getElem?_eq_getElem (by omega)]
  simp;grind
 ·rw [List.getElem?_eq_none (by omega),List.getElem?_eq_none (by omega)]
  show (0:Rat)=0 + t * 0
  grind
theorem actQ_along {xs ds:List Rat} {t:Rat} (h:xs.length=ds.length) (v:RV):actQ (alng xs ds t) v=actQ xs v + t * actQ ds v:=by
 unfold actQ
 generalize v.ts=ts
 induction ts with
 | nil=>show (0:Rat)=0 + t * 0;grind
 | cons a ts ih =>
  simp only [List.map_cons]
  rw [psum_cons,psum_cons,psum_cons,ih]
  unfold tprod
  rw [alngT_getD h]
  grind
theorem slp_along {t:Rat}:∀ (cs:List CV) (xs ds:List Rat),xs.length=ds.length → slpQ cs (alng xs ds t)=slpQ cs xs + t * slpQ cs ds
 | [],_,_,_=>by show (0:Rat)=0 + t * 0;grind
 | c :: cs,[],ds,h=>by
  obtain rfl:ds=[]:=List.eq_nil_of_length_eq_zero (by simpa using h.symm)
  show (0:Rat)=0 + t * 0
  grind
 | c :: cs,x :: xs,ds,h=>by
  match ds,h with
  | d :: ds,h =>
   have ih:=slp_along (t:=t) cs xs ds (by simpa using h)
   unfold slpQ costs alng at *
   simp only [List.zipWith_cons_cons]
   rw [psum_cons,psum_cons,psum_cons,ih]
   grind
/-- The value moves by the slope. -/
theorem val_along {off t:Rat} {cs:List CV} {xs ds:List Rat} (h:xs.length=ds.length):valQ off cs (alng xs ds t)=valQ off cs xs + t * slpQ cs ds:=by
 have e:=slp_along (t:=t) cs xs ds h
 unfold slpQ at e
 unfold valQ slpQ
 rw [psum_cons,psum_cons,e]
 grind
theorem kps_along {q d t lq hq:Rat} {li hi:Int} (ht:0 ≤ t) (h1:kpsB q li lq hi hq=true) (h2:frB d li hi=true):kpsB (0 + q + t * d) li lq hi hq=true:=by
 unfold kpsB at *
 simp only [decide_eq_true_eq] at *
 obtain ⟨a,b⟩:=h1
 unfold frB at h2
 by_cases z:d=0
 ·subst z
  rw [show (0:Rat) + q + t * 0=q by grind]
  exact ⟨a,b⟩
 ·rw [if_neg z] at h2
  by_cases n:d < 0
  ·rw [if_pos n] at h2
   have hl:li ≠ 0:=by simpa using h2
   have hp:t * d ≤ 0:=by
    have:=Rat.mul_nonneg ht (show (0:Rat) ≤ -d by grind)
    grind
   refine ⟨?_,?_⟩
   ·rcases a with a | a
    ·exact .inl a
    ·exact absurd a.1 hl
   ·rcases b with b | b
    ·exact .inl b
    ·exact .inr ⟨b.1,by have:=b.2;grind⟩
  ·rw [if_neg n] at h2
   have hl:hi ≠ 0:=by simpa using h2
   have hp:0 ≤ t * d:=Rat.mul_nonneg ht (by grind)
   refine ⟨?_,?_⟩
   ·rcases a with a | a
    ·exact .inl a
    ·exact .inr ⟨a.1,by have:=a.2;grind⟩
   ·rcases b with b | b
    ·exact .inl b
    ·exact absurd b.1 hl
/-- A point stays a point. -/
theorem feas_along {cs:List CV} {rs:List RV} {xs ds:List Rat} {t:Rat} (ht:0 ≤ t) (h:xs.length=ds.length) (h1:feasB cs rs xs=true) (h2:endB cs rs ds (rs.map (actQ ds))=true):feasB cs rs (alng xs ds t)=true:=by
 simp only [feasB,endB,Bool.and_eq_true,decide_eq_true_eq,crl_nil,allB_iff] at *
 refine ⟨fun j hj=>?_,fun j hj=>?_⟩
 ·have a:=h1.1 j hj;have b:=h2.1 j hj
  unfold bcB fcB at *
  rw [alng_get]
  cases e:cs[j]? with
  | none=>rfl
  | some v =>
   rw [e] at a b
   cases e1:xs[j]? with
   | none=>rfl
   | some q =>
    cases e2:ds[j]? with
    | none=>rfl
    | some r =>
     rw [e1] at a;rw [e2] at b
     simp only [Bool.not_eq_false'] at a
     simp only [Option.bind_some,Option.map_some]
     rw [kps_along ht a b];rfl
 ·have a:=h1.2 j hj;have b:=h2.2 j hj
  unfold brB frwB at *
  rw [List.getElem?_map] at b
  cases e:rs[j]? with
  | none=>rfl
  | some v =>
   rw [e] at a b
   simp only [Option.map_some,Bool.not_eq_false'] at a b
   have:=kps_along ht a b
   simp only
   rw [actQ_along h,show actQ xs v + t * actQ ds v=0 + actQ xs v + t * actQ ds v by grind,this];rfl
end Go.Proofs.YtlemkhgicdnlnaaGreat
