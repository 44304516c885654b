/-
 ext.Scale of numbers of any length; the walks of package dual's side, share (written by makers/du3.py). point.Sum of longer numbers; the walk of package dual's sum (written by makers/du4.py). The walk of package dual's Bound, whatever it is handed (written by makers/du5.py). The walks of the reference's Same of numbers, bounds and lists of terms, whatever they are (written by makers/f29.py). The walks of package dual's sameRat, rests, and of slices.EqualFunc of numbers (written by makers/du6.py out of F11, F13).
-/
import Derived.Test.YtdbbncamlaiajaaGreatZ14
import Derived.Test.YtdbbncamlaiajaaGreatZ13
import Derived.Test.YtdbbncamlaiajaaGreatZ0
import Derived.Test.YtdbbncamlaiajaaGreatZ10
import Derived.Deep.RegionHeld3
namespace Go.Proofs.YtdbbncamlaiajaaGreat
open Go.RowKit
def OXL (K:Nat) (k:Int) (P:Int→Rat→Prop) (w':World) (i:Int) (s:Bool) (x:Option Addr) (n c:Nat) (f:Nat→Int) (y:Option Addr) (m d:Nat) (g:Nat→Int) (er:Int):Prop :=
 er=k∧(k≠0∧(i=0∧n=0∧m=0∧s=false)∨k=0∧∃q,P i q∧En K w' i s x n c f y m d g q)
def MResL (K:Nat) (k:Int) (P:Int→Rat→Prop) (w w':World) (e:Ending):Prop:=∃i s x n c f y m d g er,e=.returned (.tuple #[.agg #[.int .i64 i,.bool s,.slice x n c,.slice y m d],.int .i64 er])∧Below w.heap.size w w'∧Hid (OXL K k P w' i s x n c f y m d g er)
set_option maxRecDepth 100000 in
set_option maxHeartbeats 4000000 in
theorem eScale_l {w:World} {L:Nat} {i:Int} {s:Bool} {x:Option Addr} {n c:Nat} {f:Nat→Int} {y:Option Addr} {m d:Nat} {g:Nat→Int} {s2:Bool} {x2:Option Addr} {n2 c2:Nat} {f2:Nat→Int} {y2:Option Addr} {m2 d2:Nat} {g2:Nat→Int} {p1 p2:Bool} {q r:Rat} (hL4:4≤L) (hL:L≤4096) (h1:Rw w x n c f y m d g) (h2:Rw w x2 n2 c2 f2 y2 m2 d2 g2) (hn:n≤4096) (hm:m≤4096) (hn2:n2≤4096) (hm2:m2≤4096) (hp1:efB i s f n g m=p1) (hp2:rfB s2 f2 n2 g2 m2=p2) (hq1:p1=true→En L w i s x n c f y m d g q) (hq2:p2=true→Rn L w s2 x2 n2 c2 f2 y2 m2 d2 g2 r) :
  Calls Tryz.prog 78 #[.agg #[.int .i64 i,.bool s,.slice x n c,.slice y m d],.agg #[.bool s2,.slice x2 n2 c2,.slice y2 m2 d2]] w fun e w'=>MResL (2*L+1) (ks (p1 && p2) n2) (PScale i q r s2) w w' e:=by
 have k1:=((bx4_at w (.int .i64 i) (.bool s) (.slice x n c) (.slice y m d) 42).alloc (.cells #[.bool s2,.slice x2 n2 c2,.slice y2 m2 d2] 24)).alloc (.cells #[.int .i64 0,.bool false,.slice none 0 0,.slice none 0 0] 42);have k2:=(bx3_at (w.alloc (.cells #[.int .i64 i,.bool s,.slice x n c,.slice y m d] 42)) (.bool s2) (.slice x2 n2 c2) (.slice y2 m2 d2) 24).alloc (.cells #[.int .i64 0,.bool false,.slice none 0 0,.slice none 0 0] 42);rw [size_alloc1] at k2;have k5:=ob4_new ((w.alloc (.cells #[.int .i64 i,.bool s,.slice x n c,.slice y m d] 42)).alloc (.cells #[.bool s2,.slice x2 n2 c2,.slice y2 m2 d2] 24)) 42;rw [size_alloc1,size_alloc1] at k5;have k3:=below_alloc (below_alloc (below_alloc (Below.refl w.heap.size w) (.cells #[.int .i64 i,.bool s,.slice x n c,.slice y m d] 42)) (.cells #[.bool s2,.slice x2 n2 c2,.slice y2 m2 d2] 24)) (.cells #[.int .i64 0,.bool false,.slice none 0 0,.slice none 0 0] 42);have HR1:=hid (h1.below k3);have HR2:=hid (h2.below k3);have HP1:=hid hp1;have HP2:=hid hp2;have HQ1:=hid (fun k=>(hq1 k).below k3);have HQ2:=hid (fun k=>(hq2 k).below k3)
 clear h1 h2 hp1 hp2 hq1 hq2;go_enter Tryz.func78,Tryz.ntmps78;go_upto_region 1 with fail
 generalize ((w.alloc (.cells #[.int .i64 i,.bool s,.slice x n c,.slice y m d] 42)).alloc (.cells #[.bool s2,.slice x2 n2 c2,.slice y2 m2 d2] 24)).alloc (.cells #[.int .i64 0,.bool false,.slice none 0 0,.slice none 0 0] 42)=w1 at *;have HW:=hid k3;have OB:=hid k5;have BA:=hid k1;have BB:=hid k2
 clear k1 k2 k3 k5;obtain ⟨pp,hpp⟩:∃pp,(p1 && p2)=pp:=⟨_,rfl⟩;have HPP:=hid hpp;have CN:Hid (∀W:World,Calls Tryz.prog 115 #[.agg #[.bool s2,.slice x2 n2 c2,.slice y2 m2 d2]] W fun e w'=>e=.returned (.agg #[.int .i64 0,.bool s2,.slice x2 n2 c2,.slice y2 m2 d2])∧Below W.heap.size W w'):=fun W=>enumber_c
 have CAF:Hid (∀(W:World) (B:Nat),Li2 W B (.int .i64 i) (.bool s) (.slice x n c) (.slice y m d) (.int .i64 0) (.bool s2) (.slice x2 n2 c2) (.slice y2 m2 d2)→Below w1.heap.size w1 W→Calls Tryz.prog 114 #[.slice (some ⟨B,0,none⟩) 2 2] W fun e w'=>e=.returned (.bool pp)∧Below W.heap.size W w'):=fun W B hB hW=>by
  have:=allForm2_c hB (HR1.out.below hW) (HR2.out.below hW) (by omega) (by omega) (by omega) (by omega);rw [ef0,HP1.out,HP2.out,HPP.out] at this;exact this
 clear hpp;go_cut [8] from 9 to 14 (fun u wx=>∃(wy:World),wy=wx∧u=.bool (!pp)∧Below w1.heap.size w1 wy)
 case first =>
  obtain ⟨za,a0,a1,a2,a3⟩:=BA.out;obtain ⟨zb,b0,b1,b2⟩:=BB.out;go_region_held3 (fun w'=>w'.cell? ⟨w.heap.size,0,none⟩=some (.int .i64 i)∧w'.cell? ⟨w.heap.size,1,none⟩=some (.bool s)∧w'.cell? ⟨w.heap.size,2,none⟩=some (.slice x n c)∧w'.cell? ⟨w.heap.size,3,none⟩=some (.slice y m d)∧w'.cell? ⟨w.heap.size+1,0,none⟩=some (.bool s2)∧w'.cell? ⟨w.heap.size+1,1,none⟩=some (.slice x2 n2 c2)∧w'.cell? ⟨w.heap.size+1,2,none⟩=some (.slice y2 m2 d2))
   (refine ⟨?_,?_,?_,?_,?_,?_,?_⟩ <;> repeat (with_reducible first | assumption | refine kCd ?_ | refine kCa ?_ | refine kCb (by assumption) ?_))
   (first
    | (go_at_call 115;with_reducible refine (CN.out _).mono ?_;rintro e v5 ⟨rfl,hb5⟩)
    | (go_at_call 114;with_reducible refine (CAF.out _ _ (by repeat (with_reducible first | exact li2_at _ _ _ _ _ _ _ _ _ _ | refine kLid ?_)) belA).mono ?_;rintro e v6 ⟨rfl,hb6⟩))
  all_goals
   go_wp2_with fail
   go_meet
   exact ⟨_,rfl,rfl,belA⟩
 case rest =>
  obtain ⟨w3,rfl,rfl,hb⟩:=hcut;have HB3:=hid hb;have HB:=hid (HW.out.trans (HB3.out.mono HW.out.size));have OB3:=hid (OB.out.below HB3.out);clear hb CN CAF;cases pp
  ·obtain ⟨hz,z0,z1,z2,z3,zf⟩:=OB3.out;go_wp2;exact bodyPost_ret (v:=.tuple #[.agg #[.int .i64 0,.bool false,.slice none 0 0,.slice none 0 0],.int .i64 3]) (by simp [results,Tryz.results78,go_sem,z0,z1,z2,z3]) rfl ⟨0,false,none,0,0,fun _=>0,none,0,0,fun _=>0,3,rfl,below_st4 HB.out (by omega),by rw [HPP.out];rfl,.inl ⟨by rw [HPP.out];exact (by decide:(3:Int)≠0),rfl,rfl,rfl,rfl⟩⟩
  have hpq:p1=true∧p2=true:=by simpa using HPP.out
  have E3:=hid ((HQ1.out hpq.1).below HB3.out);have S3:=hid ((HQ2.out hpq.2).below HB3.out)
  have hi3:i=0∨(i=-1∨i=1)∧q=0:=E3.out.inf;clear hpq;obtain ⟨za,a0,a1,a2,a3⟩:=BA.out.below HB3.out;obtain ⟨zb,b0,b1,b2⟩:=BB.out.below HB3.out;go_wp2_with fail
  refine eIsZero_c.mono ?_;rintro e w7 ⟨rfl,hb⟩;have HB7:=hid (HB.out.trans (hb.mono HB.out.size));have HB37:=hid (HB3.out.trans (hb.mono HB3.out.size));have OB7:=hid (OB3.out.below hb);have E7:=hid (E3.out.below hb);have S7:=hid (S3.out.below hb)
  clear hb za a0 a1 a2 a3 zb b0 b1 b2 HB OB3 E3 S3;by_cases hz2:n2=0
  ·rw [decide_eq_true hz2];have HK:Hid (ks (p1 && p2) n2=4):=by show ks (p1 && p2) n2=4;rw [HPP.out,ks,if_pos rfl,if_pos hz2]
   clear hz2;obtain ⟨hz,z0,z1,z2,z3,zf⟩:=OB7.out;go_wp2;exact bodyPost_ret (v:=.tuple #[.agg #[.int .i64 0,.bool false,.slice none 0 0,.slice none 0 0],.int .i64 4]) (by simp [results,Tryz.results78,go_sem,z0,z1,z2,z3]) rfl ⟨0,false,none,0,0,fun _=>0,none,0,0,fun _=>0,4,rfl,below_st4 HB7.out (by omega),HK.out.symm,.inl ⟨by rw [HK.out];decide,rfl,rfl,rfl,rfl⟩⟩
  rw [decide_eq_false hz2];have HK:Hid (ks (p1 && p2) n2=0):=by show ks (p1 && p2) n2=0;rw [HPP.out,ks,if_pos rfl,if_neg hz2]
  clear hz2;obtain ⟨za,a0,a1,a2,a3⟩:=BA.out.below HB37.out;obtain ⟨zb,b0,b1,b2⟩:=BB.out.below HB37.out;rcases hi3 with rfl | ⟨hi,hq0⟩
  ·go_wp2_with fail
   refine (rMul_n E7.out.rn S7.out (by omega)).mono ?_;rintro e w4 ⟨s4,x4,n4,c4,f4,y4,m4,d4,g4,rfl,hb,hr⟩;have HB4:=hid (below_alloc (HB7.out.trans (hb.mono HB7.out.size)) (.cells #[.bool s4,.slice x4 n4 c4,.slice y4 m4 d4] 24));have OB4:=hid ((OB7.out.below hb).alloc (.cells #[.bool s4,.slice x4 n4 c4,.slice y4 m4 d4] 24));have R4:=hid (hr.alloc (.cells #[.bool s4,.slice x4 n4 c4,.slice y4 m4 d4] 24));have BX4:=hid (bx3_at w4 (.bool s4) (.slice x4 n4 c4) (.slice y4 m4 d4) 24)
   clear hb hr za a0 a1 a2 a3 zb b0 b1 b2;obtain ⟨zx,x0,x1,x2'⟩:=BX4.out;go_wp2_with fail
   generalize w4.alloc (.cells #[.bool s4,.slice x4 n4 c4,.slice y4 m4 d4] 24)=w5 at *;generalize w4.heap.size=b5 at *;refine enumber_c.mono ?_;rintro e w6 ⟨rfl,hb⟩;have HB6:=hid (HB4.out.trans (hb.mono HB4.out.size));have OB6:=hid (OB4.out.below hb);have R6:=hid (R4.out.below hb)
   clear hb zx x0 x1 x2';obtain ⟨hz,z0,z1,z2,z3,zf⟩:=OB6.out;go_wp2;exact bodyPost_ret (v:=.tuple #[.agg #[.int .i64 0,.bool s4,.slice x4 n4 c4,.slice y4 m4 d4],.int .i64 0]) (by simp [results,Tryz.results78,go_sem,z0,z1,z2,z3]) rfl ⟨0,s4,x4,n4,c4,f4,y4,m4,d4,g4,0,rfl,below_st4 HB6.out (by omega),HK.out.symm,.inr ⟨HK.out,q*r,⟨by cases s2 <;> rfl,rfl⟩,⟨OB6.out.rn (R6.out.mono (by omega)),.inl rfl⟩⟩⟩
  have HQ0:Hid ((0:Rat)=q*r):=by show (0:Rat)=q*r;rw [hq0,Rat.zero_mul]
  clear hq0;rcases hi with rfl | rfl <;> cases s2
  all_goals
   go_wp2_with fail
   refine eInf_c.mono ?_;rintro e w4 ⟨s4,x4,n4,c4,f4,y4,m4,d4,g4,rfl,hb,hr⟩;have HB4:=hid (HB7.out.trans (hb.mono HB7.out.size));have OB4:=hid (OB7.out.below hb);have R4:=hid hr
   clear hb hr za a0 a1 a2 a3 zb b0 b1 b2;obtain ⟨hz,z0,z1,z2,z3,zf⟩:=OB4.out;go_wp2;first
    | exact bodyPost_ret (v:=.tuple #[.agg #[.int .i64 1,.bool s4,.slice x4 n4 c4,.slice y4 m4 d4],.int .i64 0]) (by simp [results,Tryz.results78,go_sem,z0,z1,z2,z3]) rfl ⟨1,s4,x4,n4,c4,f4,y4,m4,d4,g4,0,rfl,below_st4 HB4.out (by omega),HK.out.symm,.inr ⟨HK.out,0,⟨rfl,HQ0.out⟩,⟨OB4.out.rn (R4.out.mono (by omega)),.inr ⟨by decide,rfl⟩⟩⟩⟩
    | exact bodyPost_ret (v:=.tuple #[.agg #[.int .i64 (-1),.bool s4,.slice x4 n4 c4,.slice y4 m4 d4],.int .i64 0]) (by simp [results,Tryz.results78,go_sem,z0,z1,z2,z3]) rfl ⟨-1,s4,x4,n4,c4,f4,y4,m4,d4,g4,0,rfl,below_st4 HB4.out (by omega),HK.out.symm,.inr ⟨HK.out,0,⟨rfl,HQ0.out⟩,⟨OB4.out.rn (R4.out.mono (by omega)),.inr ⟨by decide,rfl⟩⟩⟩⟩
def ScAns (L:Nat) (w w':World) (e:Ending) (i:Int) (q:Rat):Prop:=∃s x n c f y m d g,e=.returned (.tuple #[.agg #[.int .i64 i,.bool s,.slice x n c,.slice y m d],.int .i64 0])∧Below w.heap.size w w'∧En L w' i s x n c f y m d g q
theorem eScale_v {w:World} {L:Nat} {i:Int} {s:Bool} {x:Option Addr} {n c:Nat} {f:Nat→Int} {y:Option Addr} {m d:Nat} {g:Nat→Int} {s2:Bool} {x2:Option Addr} {n2 c2:Nat} {f2:Nat→Int} {y2:Option Addr} {m2 d2:Nat} {g2:Nat→Int} {q r:Rat} (h1:En L w i s x n c f y m d g q) (h2:Rn L w s2 x2 n2 c2 f2 y2 m2 d2 g2 r) (hr:n2≠0) (hL4:4≤L) (hL:L≤4096) :
  Calls Tryz.prog 78 #[.agg #[.int .i64 i,.bool s,.slice x n c,.slice y m d],.agg #[.bool s2,.slice x2 n2 c2,.slice y2 m2 d2]] w fun e w'=>ScAns (2*L+1) w w' e (if s2 then -i else i) (q*r):=by
 refine (eScale_l hL4 hL h1.rn.rw h2.rw (Nat.le_trans h1.rn.ln hL) (Nat.le_trans h1.rn.ld hL) (Nat.le_trans h2.ln hL) (Nat.le_trans h2.ld hL) h1.ef h2.rf (fun _=>h1) (fun _=>h2)).mono ?_;rintro e w' ⟨i',s',x',n',c',f',y',m',d',g',er,rfl,hb,ho⟩;obtain ⟨e1,e2 | ⟨_,q',⟨e4,e5⟩,e6⟩⟩:=ho.out
 ·exact absurd (by simp [ks,hr]) e2.1
 ·have e7:er=0:=by rw [e1];simp [ks,hr]
  subst e7;subst e4;subst e5
  exact ⟨s',x',n',c',f',y',m',d',g',rfl,hb,e6⟩
def SdAns (w w':World) (e:Ending) (n:Nat) (s:Bool) (lo hi:Value):Prop:=Below w.heap.size w w' ∧
 ((n=0∧e=.returned (.tuple #[.agg #[.int .i64 0,.bool false,.slice none 0 0,.slice none 0 0],.bool false]))∨(n≠0∧s=true∧e=.returned (.tuple #[hi,.bool true]))∨(n≠0∧s=false∧e=.returned (.tuple #[lo,.bool true])))
set_option maxRecDepth 100000 in
set_option maxHeartbeats 4000000 in
theorem dSide_c {w:World} {s:Bool} {x:Option Addr} {n c:Nat} {y:Option Addr} {m d:Nat} {i1:Int} {s1:Bool} {x1:Option Addr} {n1 c1:Nat} {y1:Option Addr} {m1 d1:Nat} {i2:Int} {s2:Bool} {x2:Option Addr} {n2 c2:Nat} {y2:Option Addr} {m2 d2:Nat} :
  Calls Tryz.prog 77 #[.agg #[.bool s,.slice x n c,.slice y m d],.agg #[.int .i64 i1,.bool s1,.slice x1 n1 c1,.slice y1 m1 d1],.agg #[.int .i64 i2,.bool s2,.slice x2 n2 c2,.slice y2 m2 d2]] w fun e w'=>SdAns w w' e n s (.agg #[.int .i64 i1,.bool s1,.slice x1 n1 c1,.slice y1 m1 d1]) (.agg #[.int .i64 i2,.bool s2,.slice x2 n2 c2,.slice y2 m2 d2]):=by
 have hb:=below_alloc (below_alloc (below_alloc (below_alloc (Below.refl w.heap.size w) (.cells #[.bool s,.slice x n c,.slice y m d] 24)) (.cells #[.int .i64 i1,.bool s1,.slice x1 n1 c1,.slice y1 m1 d1] 42)) (.cells #[.int .i64 i2,.bool s2,.slice x2 n2 c2,.slice y2 m2 d2] 42)) (.cells #[.int .i64 0,.bool false,.slice none 0 0,.slice none 0 0] 42);have BY:Bk ((((w.alloc (.cells #[.bool s,.slice x n c,.slice y m d] 24)).alloc (.cells #[.int .i64 i1,.bool s1,.slice x1 n1 c1,.slice y1 m1 d1] 42)).alloc (.cells #[.int .i64 i2,.bool s2,.slice x2 n2 c2,.slice y2 m2 d2] 42)).alloc (.cells #[.int .i64 0,.bool false,.slice none 0 0,.slice none 0 0] 42)) w.heap.size [.bool s,.slice x n c,.slice y m d] 24:=(((bk_new w [.bool s,.slice x n c,.slice y m d] 24).below (below_alloc (Below.refl _ _) _)).below (below_alloc (Below.refl _ _) _)).below (below_alloc (Below.refl _ _) _);have BL:Bk ((((w.alloc (.cells #[.bool s,.slice x n c,.slice y m d] 24)).alloc (.cells #[.int .i64 i1,.bool s1,.slice x1 n1 c1,.slice y1 m1 d1] 42)).alloc (.cells #[.int .i64 i2,.bool s2,.slice x2 n2 c2,.slice y2 m2 d2] 42)).alloc (.cells #[.int .i64 0,.bool false,.slice none 0 0,.slice none 0 0] 42)) (w.heap.size+1) [.int .i64 i1,.bool s1,.slice x1 n1 c1,.slice y1 m1 d1] 42:=by
  have:=((bk_new (w.alloc (.cells #[.bool s,.slice x n c,.slice y m d] 24)) [.int .i64 i1,.bool s1,.slice x1 n1 c1,.slice y1 m1 d1] 42).below (below_alloc (Below.refl _ _) (.cells #[.int .i64 i2,.bool s2,.slice x2 n2 c2,.slice y2 m2 d2] 42))).below (below_alloc (Below.refl _ _) (.cells #[.int .i64 0,.bool false,.slice none 0 0,.slice none 0 0] 42));rw [size_alloc1] at this;exact this
 have BH:Bk ((((w.alloc (.cells #[.bool s,.slice x n c,.slice y m d] 24)).alloc (.cells #[.int .i64 i1,.bool s1,.slice x1 n1 c1,.slice y1 m1 d1] 42)).alloc (.cells #[.int .i64 i2,.bool s2,.slice x2 n2 c2,.slice y2 m2 d2] 42)).alloc (.cells #[.int .i64 0,.bool false,.slice none 0 0,.slice none 0 0] 42)) (w.heap.size+2) [.int .i64 i2,.bool s2,.slice x2 n2 c2,.slice y2 m2 d2] 42:=by
  have:=(bk_new ((w.alloc (.cells #[.bool s,.slice x n c,.slice y m d] 24)).alloc (.cells #[.int .i64 i1,.bool s1,.slice x1 n1 c1,.slice y1 m1 d1] 42)) [.int .i64 i2,.bool s2,.slice x2 n2 c2,.slice y2 m2 d2] 42).below (below_alloc (Below.refl _ _) (.cells #[.int .i64 0,.bool false,.slice none 0 0,.slice none 0 0] 42));rw [size_alloc1,size_alloc1] at this;exact this
 have OB:Ob4 ((((w.alloc (.cells #[.bool s,.slice x n c,.slice y m d] 24)).alloc (.cells #[.int .i64 i1,.bool s1,.slice x1 n1 c1,.slice y1 m1 d1] 42)).alloc (.cells #[.int .i64 i2,.bool s2,.slice x2 n2 c2,.slice y2 m2 d2] 42)).alloc (.cells #[.int .i64 0,.bool false,.slice none 0 0,.slice none 0 0] 42)) (w.heap.size+3):=by
  have:=ob4_new (((w.alloc (.cells #[.bool s,.slice x n c,.slice y m d] 24)).alloc (.cells #[.int .i64 i1,.bool s1,.slice x1 n1 c1,.slice y1 m1 d1] 42)).alloc (.cells #[.int .i64 i2,.bool s2,.slice x2 n2 c2,.slice y2 m2 d2] 42)) 42;rw [size_alloc1,size_alloc1,size_alloc1] at this;exact this
 go_enter Tryz.func77,Tryz.ntmps77;go_upto_region 1 with fail
 generalize ((((w.alloc (.cells #[.bool s,.slice x n c,.slice y m d] 24)).alloc (.cells #[.int .i64 i1,.bool s1,.slice x1 n1 c1,.slice y1 m1 d1] 42)).alloc (.cells #[.int .i64 i2,.bool s2,.slice x2 n2 c2,.slice y2 m2 d2] 42)).alloc (.cells #[.int .i64 0,.bool false,.slice none 0 0,.slice none 0 0] 42))=w1 at *;have r0:=BY.cell (j:=0) rfl;have r1:=BY.cell (j:=1) rfl;have l0:=BL.cell (j:=0) rfl;have l1:=BL.cell (j:=1) rfl;have l2:=BL.cell (j:=2) rfl;have l3:=BL.cell (j:=3) rfl;have u0:=BH.cell (j:=0) rfl;have u1:=BH.cell (j:=1) rfl;have u2:=BH.cell (j:=2) rfl;have u3:=BH.cell (j:=3) rfl;obtain ⟨hz,z0,z1,z2,z3,zf⟩:=OB;have HB:=hid hb;clear hb BY BL BH;by_cases hn:n=0
 ·subst hn;go_wp2;exact bodyPost_ret (v:=.tuple #[.agg #[.int .i64 0,.bool false,.slice none 0 0,.slice none 0 0],.bool false]) (by simp [results,Tryz.results77,go_sem,z0,z1,z2,z3]) rfl ⟨below_st4 HB.out (by omega),.inl ⟨rfl,rfl⟩⟩
 ·have HN:=hid hn;have hn2:((n:Nat):Int)≠0:=by omega
  clear hn;cases s
  ·go_wp2;exact bodyPost_ret (v:=.tuple #[.agg #[.int .i64 i1,.bool s1,.slice x1 n1 c1,.slice y1 m1 d1],.bool true]) (by simp [results,Tryz.results77,go_sem,z0,z1,z2,z3]) rfl ⟨below_st4 HB.out (by omega),.inr (.inr ⟨HN.out,rfl,rfl⟩)⟩
  ·go_wp2;exact bodyPost_ret (v:=.tuple #[.agg #[.int .i64 i2,.bool s2,.slice x2 n2 c2,.slice y2 m2 d2],.bool true]) (by simp [results,Tryz.results77,go_sem,z0,z1,z2,z3]) rfl ⟨below_st4 HB.out (by omega),.inr (.inl ⟨HN.out,rfl,rfl⟩)⟩
def shI (y:Rat) (i1 i2:Int):Int:=if y=0 then 0 else if y<0 then -i2 else i1
def shQ (y q1 q2:Rat):Rat:=if y=0 then 0 else if y<0 then q2*y else q1*y
def ExAns (L:Nat) (w w':World) (e:Ending) (i:Int) (q:Rat):Prop:=∃s x n c f y m d g,e=.returned (.agg #[.int .i64 i,.bool s,.slice x n c,.slice y m d])∧Below w.heap.size w w'∧En L w' i s x n c f y m d g q
set_option maxRecDepth 100000 in
set_option maxHeartbeats 4000000 in
theorem dShare_v {w:World} {L:Nat} {s:Bool} {x:Option Addr} {n c:Nat} {f:Nat→Int} {y:Option Addr} {m d:Nat} {g:Nat→Int} {i1:Int} {s1:Bool} {x1:Option Addr} {n1 c1:Nat} {f1:Nat→Int} {y1:Option Addr} {m1 d1:Nat} {g1:Nat→Int} {i2:Int} {s2:Bool} {x2:Option Addr} {n2 c2:Nat} {f2:Nat→Int} {y2:Option Addr} {m2 d2:Nat} {g2:Nat→Int} {q q1 q2:Rat} (h:Rn L w s x n c f y m d g q) (h1:En L w i1 s1 x1 n1 c1 f1 y1 m1 d1 g1 q1) (h2:En L w i2 s2 x2 n2 c2 f2 y2 m2 d2 g2 q2) (hL4:4≤L) (hL:L≤4096) :
  Calls Tryz.prog 41 #[.agg #[.bool s,.slice x n c,.slice y m d],.agg #[.int .i64 i1,.bool s1,.slice x1 n1 c1,.slice y1 m1 d1],.agg #[.int .i64 i2,.bool s2,.slice x2 n2 c2,.slice y2 m2 d2]] w fun e w'=>ExAns (2*L+1) w w' e (shI q i1 i2) (shQ q q1 q2):=by
 have hb:=below_alloc (below_alloc (below_alloc (below_alloc (Below.refl w.heap.size w) (.cells #[.bool s,.slice x n c,.slice y m d] 24)) (.cells #[.int .i64 i1,.bool s1,.slice x1 n1 c1,.slice y1 m1 d1] 42)) (.cells #[.int .i64 i2,.bool s2,.slice x2 n2 c2,.slice y2 m2 d2] 42)) (.cells #[.int .i64 0,.bool false,.slice none 0 0,.slice none 0 0] 42);have BY:Bk ((((w.alloc (.cells #[.bool s,.slice x n c,.slice y m d] 24)).alloc (.cells #[.int .i64 i1,.bool s1,.slice x1 n1 c1,.slice y1 m1 d1] 42)).alloc (.cells #[.int .i64 i2,.bool s2,.slice x2 n2 c2,.slice y2 m2 d2] 42)).alloc (.cells #[.int .i64 0,.bool false,.slice none 0 0,.slice none 0 0] 42)) w.heap.size [.bool s,.slice x n c,.slice y m d] 24:=(((bk_new w [.bool s,.slice x n c,.slice y m d] 24).below (below_alloc (Below.refl _ _) _)).below (below_alloc (Below.refl _ _) _)).below (below_alloc (Below.refl _ _) _);have BL:Bk ((((w.alloc (.cells #[.bool s,.slice x n c,.slice y m d] 24)).alloc (.cells #[.int .i64 i1,.bool s1,.slice x1 n1 c1,.slice y1 m1 d1] 42)).alloc (.cells #[.int .i64 i2,.bool s2,.slice x2 n2 c2,.slice y2 m2 d2] 42)).alloc (.cells #[.int .i64 0,.bool false,.slice none 0 0,.slice none 0 0] 42)) (w.heap.size+1) [.int .i64 i1,.bool s1,.slice x1 n1 c1,.slice y1 m1 d1] 42:=by
  have:=((bk_new (w.alloc (.cells #[.bool s,.slice x n c,.slice y m d] 24)) [.int .i64 i1,.bool s1,.slice x1 n1 c1,.slice y1 m1 d1] 42).below (below_alloc (Below.refl _ _) (.cells #[.int .i64 i2,.bool s2,.slice x2 n2 c2,.slice y2 m2 d2] 42))).below (below_alloc (Below.refl _ _) (.cells #[.int .i64 0,.bool false,.slice none 0 0,.slice none 0 0] 42));rw [size_alloc1] at this;exact this
 have BH:Bk ((((w.alloc (.cells #[.bool s,.slice x n c,.slice y m d] 24)).alloc (.cells #[.int .i64 i1,.bool s1,.slice x1 n1 c1,.slice y1 m1 d1] 42)).alloc (.cells #[.int .i64 i2,.bool s2,.slice x2 n2 c2,.slice y2 m2 d2] 42)).alloc (.cells #[.int .i64 0,.bool false,.slice none 0 0,.slice none 0 0] 42)) (w.heap.size+2) [.int .i64 i2,.bool s2,.slice x2 n2 c2,.slice y2 m2 d2] 42:=by
  have:=(bk_new ((w.alloc (.cells #[.bool s,.slice x n c,.slice y m d] 24)).alloc (.cells #[.int .i64 i1,.bool s1,.slice x1 n1 c1,.slice y1 m1 d1] 42)) [.int .i64 i2,.bool s2,.slice x2 n2 c2,.slice y2 m2 d2] 42).below (below_alloc (Below.refl _ _) (.cells #[.int .i64 0,.bool false,.slice none 0 0,.slice none 0 0] 42));rw [size_alloc1,size_alloc1] at this;exact this
 have OB:Ob4 ((((w.alloc (.cells #[.bool s,.slice x n c,.slice y m d] 24)).alloc (.cells #[.int .i64 i1,.bool s1,.slice x1 n1 c1,.slice y1 m1 d1] 42)).alloc (.cells #[.int .i64 i2,.bool s2,.slice x2 n2 c2,.slice y2 m2 d2] 42)).alloc (.cells #[.int .i64 0,.bool false,.slice none 0 0,.slice none 0 0] 42)) (w.heap.size+3):=by
  have:=ob4_new (((w.alloc (.cells #[.bool s,.slice x n c,.slice y m d] 24)).alloc (.cells #[.int .i64 i1,.bool s1,.slice x1 n1 c1,.slice y1 m1 d1] 42)).alloc (.cells #[.int .i64 i2,.bool s2,.slice x2 n2 c2,.slice y2 m2 d2] 42)) 42;rw [size_alloc1,size_alloc1,size_alloc1] at this;exact this
 have HY:=hid (h.below hb);have H1:=hid (h1.below hb);have H2:=hid (h2.below hb)
 have HQ0:=hid h.q_zero;have HSN:=hid h.sg
 clear h h1 h2;go_enter Tryz.func41,Tryz.ntmps41;go_upto_region 1 with fail
 generalize ((((w.alloc (.cells #[.bool s,.slice x n c,.slice y m d] 24)).alloc (.cells #[.int .i64 i1,.bool s1,.slice x1 n1 c1,.slice y1 m1 d1] 42)).alloc (.cells #[.int .i64 i2,.bool s2,.slice x2 n2 c2,.slice y2 m2 d2] 42)).alloc (.cells #[.int .i64 0,.bool false,.slice none 0 0,.slice none 0 0] 42))=w1 at *;have r0:=BY.cell (j:=0) rfl;have r1:=BY.cell (j:=1) rfl;have r2:=BY.cell (j:=2) rfl;have l0:=BL.cell (j:=0) rfl;have l1:=BL.cell (j:=1) rfl;have l2:=BL.cell (j:=2) rfl;have l3:=BL.cell (j:=3) rfl;have k0:=BH.cell (j:=0) rfl;have k1:=BH.cell (j:=1) rfl;have k2:=BH.cell (j:=2) rfl;have k3:=BH.cell (j:=3) rfl;have HB:=hid hb;replace OB:=hid OB
 clear hb;go_wp2_with fail
 clear r0 r1 r2 l0 k0 l1 k1 l2 k2 l3 k3;refine dSide_c.mono ?_;rintro e w2 ⟨hb2,⟨hn,rfl⟩ | ⟨hn,hs,rfl⟩ | ⟨hn,hs,rfl⟩⟩
 ·have HI2:Hid (shI q i1 i2=0∧shQ q q1 q2=0):=by
   have h0:=HQ0.out.2 hn;exact ⟨by rw [shI,if_pos h0],by rw [shQ,if_pos h0]⟩
  have hal:=below_alloc (Below.refl w2.heap.size w2) (.cells #[.int .i64 0,.bool false,.slice none 0 0,.slice none 0 0] 42);have hb3:=hb2.trans (hal.mono hb2.size);replace OB:=hid (OB.out.below hb3);replace HB:=hid (HB.out.trans (hb3.mono HB.out.size))
  clear hb2 hal hb3 hn;go_wp2_with fail
  refine (rOf0_c _).mono ?_;rintro e w4 ⟨s4,x4,n4,c4,f4,y4,m4,d4,g4,rfl,hb4,he4⟩;replace he4:=hid he4;replace OB:=hid (OB.out.below hb4);replace HB:=hid (HB.out.trans (hb4.mono HB.out.size))
  clear hb4;obtain ⟨hz,z0,z1,z2,z3,zf⟩:=OB.out;go_wp2;exact bodyPost_ret (v:=.agg #[.int .i64 0,.bool s4,.slice x4 n4 c4,.slice y4 m4 d4]) (by simp [results,Tryz.results41,go_sem,z0,z1,z2,z3]) rfl ⟨s4,x4,n4,c4,f4,y4,m4,d4,g4,by rw [HI2.out.1],below_st4 HB.out (by omega),by rw [HI2.out.1,HI2.out.2];exact ⟨OB.out.rn (he4.out.mono (by omega)),.inl rfl⟩⟩
 ·have HN:=hid hn;have HSG:Hid (shI q i1 i2=-i2∧shQ q q1 q2=q2*q):=by
   have h0:q≠0:=fun e=>hn (HQ0.out.1 e)
   have h1:q<0:=by have h9:=HSN.out;rw [hs] at h9;exact of_decide_eq_true h9.symm
   exact ⟨by rw [shI,if_neg h0,if_pos h1],by rw [shQ,if_neg h0,if_pos h1]⟩
  subst hs;clear hn;have n0:=HN.out;have hal:=below_alloc (Below.refl w2.heap.size w2) (.cells #[.int .i64 i2,.bool s2,.slice x2 n2 c2,.slice y2 m2 d2] 42);have hb3:=hb2.trans (hal.mono hb2.size);have BY3:=BY.below hb3;have t0:=BY3.cell (j:=0) rfl;have t1:=BY3.cell (j:=1) rfl;have t2:=BY3.cell (j:=2) rfl;replace OB:=hid (OB.out.below hb3);replace HB:=hid (HB.out.trans (hb3.mono HB.out.size));have R:=hid (HY.out.below hb3);have E:=hid (H2.out.below hb3)
  have HI2:=hid (show shI q i1 i2=-i2∧shQ q q1 q2=q2*q from HSG.out);clear hb2 hal hb3 BY3 HSG;go_wp2_with fail
  clear t0 t1 t2;refine (eScale_v E.out R.out n0 hL4 hL).mono ?_;rintro e w4 ⟨s4,x4,n4,c4,f4,y4,m4,d4,g4,rfl,hb4,he4⟩;replace he4:=hid he4;have hal:=below_alloc (Below.refl w4.heap.size w4) (.cells #[.int .i64 (-i2),.bool s4,.slice x4 n4 c4,.slice y4 m4 d4] 42);have hb5:=hb4.trans (hal.mono hb4.size);replace OB:=hid (OB.out.below hb5);replace HB:=hid (HB.out.trans (hb5.mono HB.out.size));replace he4:=hid (he4.out.below hal)
  clear hb4 hal hb5;obtain ⟨hz,z0,z1,z2,z3,zf⟩:=OB.out;go_wp2;exact bodyPost_ret (v:=.agg #[.int .i64 (-i2),.bool s4,.slice x4 n4 c4,.slice y4 m4 d4]) (by simp [results,Tryz.results41,go_sem,z0,z1,z2,z3]) rfl ⟨s4,x4,n4,c4,f4,y4,m4,d4,g4,by rw [HI2.out.1],below_st4 HB.out (by omega),by rw [HI2.out.1,HI2.out.2];exact ⟨OB.out.rn he4.out.rn,he4.out.inf⟩⟩
 ·have HN:=hid hn;have HSG:Hid (shI q i1 i2=i1∧shQ q q1 q2=q1*q):=by
   have h0:q≠0:=fun e=>hn (HQ0.out.1 e)
   have h1:¬q<0:=by have h9:=HSN.out;rw [hs] at h9;exact of_decide_eq_false h9.symm
   exact ⟨by rw [shI,if_neg h0,if_neg h1],by rw [shQ,if_neg h0,if_neg h1]⟩
  subst hs;clear hn;have n0:=HN.out;have hal:=below_alloc (Below.refl w2.heap.size w2) (.cells #[.int .i64 i1,.bool s1,.slice x1 n1 c1,.slice y1 m1 d1] 42);have hb3:=hb2.trans (hal.mono hb2.size);have BY3:=BY.below hb3;have t0:=BY3.cell (j:=0) rfl;have t1:=BY3.cell (j:=1) rfl;have t2:=BY3.cell (j:=2) rfl;replace OB:=hid (OB.out.below hb3);replace HB:=hid (HB.out.trans (hb3.mono HB.out.size));have R:=hid (HY.out.below hb3);have E:=hid (H1.out.below hb3)
  have HI2:=hid (show shI q i1 i2=i1∧shQ q q1 q2=q1*q from HSG.out);clear hb2 hal hb3 BY3 HSG;go_wp2_with fail
  clear t0 t1 t2;refine (eScale_v E.out R.out n0 hL4 hL).mono ?_;rintro e w4 ⟨s4,x4,n4,c4,f4,y4,m4,d4,g4,rfl,hb4,he4⟩;replace he4:=hid he4;have hal:=below_alloc (Below.refl w4.heap.size w4) (.cells #[.int .i64 i1,.bool s4,.slice x4 n4 c4,.slice y4 m4 d4] 42);have hb5:=hb4.trans (hal.mono hb4.size);replace OB:=hid (OB.out.below hb5);replace HB:=hid (HB.out.trans (hb5.mono HB.out.size));replace he4:=hid (he4.out.below hal)
  clear hb4 hal hb5;obtain ⟨hz,z0,z1,z2,z3,zf⟩:=OB.out;go_wp2;exact bodyPost_ret (v:=.agg #[.int .i64 i1,.bool s4,.slice x4 n4 c4,.slice y4 m4 d4]) (by simp [results,Tryz.results41,go_sem,z0,z1,z2,z3]) rfl ⟨s4,x4,n4,c4,f4,y4,m4,d4,g4,by rw [HI2.out.1],below_st4 HB.out (by omega),by rw [HI2.out.1,HI2.out.2];exact ⟨OB.out.rn he4.out.rn,he4.out.inf⟩⟩
set_option maxRecDepth 100000 in
set_option maxHeartbeats 4000000 in
theorem pSum_l {w : World} {L : Nat} {ao : Option Addr} {k cap : Nat} {p : List Rat} (h : Rf L w ao p) (hk : p.length = k) (hkL : 4 + k * (L + 1) ≤ 199000) (hL : L ≤ 199000) (hk2 : k ≤ 1000000) :
    Calls Tryz.prog 32 #[.slice ao k cap] w fun e w' => RatAns (4 + k * (L + 1)) w w' e (psum p 0) := by
  have H := hid h
  have h2 := ob_new w 24
  have h3 := below_alloc (Below.refl w.heap.size w) (.cells #[.bool false, .slice none 0 0, .slice none 0 0] 24)
  clear h
  go_enter Tryz.func32, Tryz.ntmps32
  go_wp2_with fail
  generalize w.alloc (.cells #[.bool false, .slice none 0 0, .slice none 0 0] 24) = w0 at *
  refine (rOf_c (z := 0) (by omega) (by omega)).mono ?_
  rintro e w4 ⟨s0, x0, n0, c0, f0, y0, m0, d0, g0, rfl, hb4, hq4⟩
  have OB4 := hid (h2.below hb4); have HB4 := hid (h3.trans (hb4.mono h3.size)); have HQ4 := hid hq4
  clear h2 h3 hb4 hq4
  go_wp2_with fail
  have hSx : Sx (w4.alloc (.cells #[.bool s0, .slice x0 n0 c0, .slice y0 m0 d0] 24)) w4.heap.size s0 x0 n0 c0 y0 m0 d0 := ⟨by simp, by simp [go_sem], by simp [go_sem], by simp [go_sem], fun o => by simp only [World.frozen?, heap_alloc_new w4 (.cells #[.bool s0, .slice x0 n0 c0, .slice y0 m0 d0] 24)]; simp⟩
  have hal := below_alloc (Below.refl w4.heap.size w4) (.cells #[.bool s0, .slice x0 n0 c0, .slice y0 m0 d0] 24)
  have hne : w.heap.size < w4.heap.size := OB4.out.z
  have ST := hid hSx; have HB5 := hid (HB4.out.trans (hal.mono HB4.out.size)); have HQ5 := hid (HQ4.out.below hal); have OB5 := hid (OB4.out.below hal)
  clear hSx hal HB4 HQ4 OB4
  go_loopw [9] (fun t wr => ∃ (i : Nat) (acc : Rat) (s : Bool) (x : Option Addr) (n c : Nat) (f : Nat → Int) (y : Option Addr) (m d : Nat) (g : Nat → Int), i ≤ k ∧ t = .int .i64 i ∧ Hid (Below w.heap.size w wr) ∧ Hid (Sx wr w4.heap.size s x n c y m d) ∧ Hid (Ob wr w.heap.size) ∧ Hid (Rn (4 + i * (L + 1)) wr s x n c f y m d g acc) ∧ Hid (psum (p.drop i) acc = psum p 0)) (fun t _ => k - (intOf t).toNat)
  case atStart => exact ⟨0, 0, s0, x0, n0, c0, f0, y0, m0, d0, g0, by omega, rfl, HB5, ST, OB5, (by show Rn _ _ _ _ _ _ _ _ _ _ _ _; exact HQ5.out.mono (by omega)), rfl⟩
  case round =>
    clear HB5 HQ5 OB5 ST
    obtain ⟨i, acc, s, x, n, c, f, y, m, d, g, hi, rfl, HB, HS, HO, HQ, HE⟩ := hrel
    by_cases hlt : i < k
    · obtain ⟨q, haq⟩ : ∃ t, p[i]? = some t := ⟨_, List.getElem?_eq_getElem (by omega)⟩
      obtain ⟨b, o, ⟨ts, tx, tn, tc, tf, ty, tm, td, tg⟩, hav, hc, hr⟩ := (H.out.below HB.out) i q haq
      have hav2 := hav
      subst hav2
      obtain ⟨x0, x1, x2⟩ := hc
      replace x0 : wr.cell? ⟨b, o + i * 3, none⟩ = some (.bool ts) := x0
      replace x1 : wr.cell? ⟨b, o + i * 3 + 1, none⟩ = some (.slice tx tn tc) := x1
      replace x2 : wr.cell? ⟨b, o + i * 3 + 2, none⟩ = some (.slice ty tm td) := x2
      have HD : Hid (psum (p.drop (i + 1)) (acc + q) = psum p 0) := by
        show _ = _
        have e1 : p.drop i = q :: p.drop (i + 1) := by
          have hl : i < p.length := by omega
          have : p[i] = q := by rw [List.getElem?_eq_getElem hl] at haq; exact Option.some.inj haq
          rw [← this]; exact List.drop_eq_getElem_cons hl
        rw [← HE.out, e1]; rfl
      have hb5 := below_alloc (Below.refl wr.heap.size wr) (.cells #[.bool ts, .slice tx tn tc, .slice ty tm td] 24)
      have HR1 : Hid (Rn L (wr.alloc (.cells #[.bool ts, .slice tx tn tc, .slice ty tm td] 24)) ts tx tn tc tf ty tm td tg q) := Rn.below hr hb5
      replace HS := hid (HS.out.below hb5); replace HO := hid (HO.out.below hb5); replace HQ := hid (HQ.out.below hb5); replace HB := hid (HB.out.trans (hb5.mono HB.out.size))
      have i2 : ((i : Nat) : Int) < ((k : Nat) : Int) := by omega
      obtain ⟨sz, u0, u1, u2, uf⟩ := HS.out
      clear hr haq hav HE hb5
      go_wp2_with fail
      clear sz u0 u1 u2 uf x0 x1 x2
      generalize wr.alloc (.cells #[.bool ts, .slice tx tn tc, .slice ty tm td] 24) = w5 at *
      have hKi : 4 + i * (L + 1) ≤ 199000 := by have : i * (L + 1) ≤ k * (L + 1) := Nat.mul_le_mul_right _ hi
                                                omega
      refine (rAdd_n (L := 199000) (HQ.out.mono hKi) (HR1.out.mono (by omega)) (by omega)).mono ?_
      rintro e w6 ⟨s6, x6, n6, c6, f6, y6, m6, d6, g6, rfl, hb6, hq6⟩
      have S6 := HS.out.below hb6
      have R1 := hid (rd1_mk (HB.out.trans (hb6.mono HB.out.size)) S6 (HO.out.below hb6) (hq6.cut (K := 4 + (i + 1) * (L + 1)) ((lo_add (HQ.out.lo HQ.out.ln HQ.out.ld) (HR1.out.lo HR1.out.ln HR1.out.ld)).mono (by rw [Nat.add_mul]; omega))) hne)
      obtain ⟨sz, u0, u1, u2, uf⟩ := S6
      clear HS HO HQ HR1 HB hb6 hq6 hKi
      go_wp2
      go_roundw
      case rel => exact ⟨i + 1, acc + q, s6, x6, n6, c6, f6, y6, m6, d6, g6, by omega, by go_num, R1.out.bel, R1.out.sx, R1.out.ob, R1.out.rn, HD.out⟩
      case measure => simp [intOf]; omega
    · have e1 : i = k := by omega
      have HF : Hid (acc = psum p 0) := by
        show _ = _
        rw [← HE.out, e1, ← hk, List.drop_length]; rfl
      have i2 : ¬ (((i : Nat) : Int) < ((k : Nat) : Int)) := by omega
      obtain ⟨sz, u0, u1, u2, uf⟩ := HS.out
      obtain ⟨hz, z0, z1, z2, zf⟩ := HO.out
      have HKK : Hid (i = k) := e1
      clear e1 HE
      go_wp2
      exact bodyPost_ret (v := .agg #[.bool s, .slice x n c, .slice y m d]) (by simp [results, Tryz.results32, go_sem, z0, z1, z2]) rfl ⟨s, x, n, c, f, y, m, d, g, rfl, below_st HB.out (by omega), by rw [← HF.out, ← HKK.out]; exact HO.out.rn HQ.out⟩
def smI (p:List (Int × Rat)):Int:=if p.any (fun t=>decide (t.1≠0)) then -1 else 0
def smQ (p:List (Int × Rat)):Rat:=if p.any (fun t=>decide (t.1≠0)) then 0 else psum (p.map (·.2)) 0
theorem sm_at {p:List (Int × Rat)} {i:Nat} {a:Int} {q:Rat} (h:p[i]?=some (a,q)) (ha:a≠0):smI p=-1∧smQ p=0:=by
 have h1:p.any (fun t=>decide (t.1≠0))=true:=List.any_eq_true.2 ⟨(a,q),List.mem_of_getElem? h,by simpa using ha⟩;exact ⟨by rw [smI,if_pos h1],by rw [smQ,if_pos h1]⟩
theorem sm_all {p:List (Int × Rat)} (h:∀t ∈ p,t.1=0):smI p=0∧smQ p=psum (p.map (·.2)) 0:=by
 have h1:p.any (fun t=>decide (t.1≠0))=false:=List.any_eq_false.2 (fun t ht=>by simpa using h t ht);exact ⟨by rw [smI,h1];rfl,by rw [smQ,h1];rfl⟩
theorem take_zero_snoc {p:List (Int × Rat)} {i:Nat} {q:Rat} (h:∀t ∈ p.take i,t.1=0) (hi:p[i]?=some (0,q)):∀t ∈ p.take (i+1),t.1=0:=fun t ht=>by
 rw [List.take_add_one,hi] at ht;rcases List.mem_append.1 ht with h1 | h1
 ·exact h t h1
 ·simp at h1;rw [h1]
set_option maxRecDepth 100000 in
set_option maxHeartbeats 4000000 in
theorem dSum_v {w:World} {L:Nat} {ao:Option Addr} {k cap:Nat} {p:List (Int × Rat)} (h:Tf L w ao p) (hk:p.length=k) (hkL:4+k*(L+1)≤199000) (hL:L≤199000) (hk2:k≤1000000) :
  Calls Tryz.prog 42 #[.slice ao k cap] w fun e w'=>ExAns (4+k*(L+1)) w w' e (smI p) (smQ p):=by
 have H:=hid h;have h2:=ob4_new w 42;have h3:=below_alloc (Below.refl w.heap.size w) (.cells #[.int .i64 0,.bool false,.slice none 0 0,.slice none 0 0] 42);have h4:w.heap.size<(w.alloc (.cells #[.int .i64 0,.bool false,.slice none 0 0,.slice none 0 0] 42)).heap.size:=by simp
 clear h;go_enter Tryz.func42,Tryz.ntmps42;go_wp2_with fail
 generalize w.alloc (.cells #[.int .i64 0,.bool false,.slice none 0 0,.slice none 0 0] 42)=w1 at *;have OB:=hid h2;have HB0:=hid h3
 clear h2 h3;go_loopw [3,8] (fun ov t wr=>∃(i:Nat),i≤k∧t=.int .i64 i∧Hid (Below w1.heap.size w1 wr)∧Hid (Gr L w1.heap.size wr ov ((p.take i).map (·.2)))∧Hid (∀t ∈ p.take i,t.1=0)) (fun _ t _=>k-(intOf t).toNat)
 case atStart=>exact ⟨0,by omega,rfl,Below.refl _ _,gr_nil _ _ _,fun t ht=>by simp at ht⟩
 case round =>
  obtain ⟨i,hi,rfl,HB,HG,HZ⟩:=hrel;have hgl:((p.take i).map (·.2)).length=i:=by rw [List.length_map,List.length_take];omega
  by_cases hlt:i<k
  ·obtain ⟨⟨a,q⟩,haq⟩:∃t,p[i]?=some t:=⟨_,List.getElem?_eq_getElem (by omega)⟩;have hbw:=HB0.out.trans (HB.out.mono HB0.out.size);obtain ⟨b,o,⟨ts,tx,tn,tc,tf,ty,tm,td,tg⟩,hav,hc,hr⟩:=(H.out.below hbw) i a q haq;have hav2:=hav;subst hav2;obtain ⟨x0,x1,x2,x3⟩:=hc;replace x0:wr.cell? ⟨b,o+i*4,none⟩=some (.int .i64 a):=x0;replace x1:wr.cell? ⟨b,o+i*4+1,none⟩=some (.bool ts):=x1;replace x2:wr.cell? ⟨b,o+i*4+2,none⟩=some (.slice tx tn tc):=x2;replace x3:wr.cell? ⟨b,o+i*4+3,none⟩=some (.slice ty tm td):=x3;have hb5:=below_alloc (Below.refl wr.heap.size wr) (.cells #[.int .i64 a,.bool ts,.slice tx tn tc,.slice ty tm td] 42);have a0:(wr.alloc (.cells #[.int .i64 a,.bool ts,.slice tx tn tc,.slice ty tm td] 42)).cell? ⟨wr.heap.size,0,none⟩=some (.int .i64 a):=by simp [go_sem]
   have a1:(wr.alloc (.cells #[.int .i64 a,.bool ts,.slice tx tn tc,.slice ty tm td] 42)).cell? ⟨wr.heap.size,1,none⟩=some (.bool ts):=by simp [go_sem]
   have a2:(wr.alloc (.cells #[.int .i64 a,.bool ts,.slice tx tn tc,.slice ty tm td] 42)).cell? ⟨wr.heap.size,2,none⟩=some (.slice tx tn tc):=by simp [go_sem]
   have a3:(wr.alloc (.cells #[.int .i64 a,.bool ts,.slice tx tn tc,.slice ty tm td] 42)).cell? ⟨wr.heap.size,3,none⟩=some (.slice ty tm td):=by simp [go_sem]
   replace hr:=hid (show Rn L (wr.alloc (.cells #[.int .i64 a,.bool ts,.slice tx tn tc,.slice ty tm td] 42)) ts tx tn tc tf ty tm td tg q from Rn.below hr hb5);have i2:((i:Nat):Int)<((k:Nat):Int):=by omega
   have HAQ:=hid haq;have hb5s:=hb5.size;clear haq hav hbw;go_upto_region 5 with fail
   clear x0 x1 x2 x3;replace HB:=hid (HB.out.trans (hb5.mono HB.out.size));replace HG:=hid (HG.out.below hb5)
   clear hb5 hb5s;generalize wr.heap.size=bx at *;generalize (wr.alloc (.cells #[.int .i64 a,.bool ts,.slice tx tn tc,.slice ty tm td] 42))=w5 at *;by_cases ha:a=0
   ·subst ha;obtain ⟨T,hrow,hT⟩:=HG.out;rw [hgl] at hrow;have hsz:=HB.out.size;go_wp2_with (at_builtin;go_must (refine wpList_append_one w5 rfl (.tmp 16) (.tmp 19) 29 rfl w1.heap.size 24 56 3 (.agg #[.bool false,.slice none 0 0,.slice none 0 0]) Tryz.underlying29 Tryz.infoRat rfl (by decide) nz3 u3 i _ rfl hrow #[.bool ts,.slice tx tn tc,.slice ty tm td] rfl rfl (one3 _ _ _ _ _ _ _) (not3 _ _ _ _ _ _ _) ?p1 (by decide) hsz ?_))
    case p1=>omega
    intro g8 cap8 w8 hr8 hk8 hb8 hg8;have HB8:=hid (hb8 w1 HB.out (Nat.le_refl _));have HG8:Hid (Gr L w1.heap.size w8 (.slice (some ⟨g8,0,none⟩) (i+1) cap8) ((p.take (i+1)).map (·.2))):=by
     have hp8:=gr_push hT (by rw [hgl];exact hr8) hk8 hr.out;rw [hgl] at hp8;rw [List.take_add_one,HAQ.out,List.map_append];exact hp8
    have HZ8:=hid (take_zero_snoc HZ.out HAQ.out);clear hr8 hk8 hb8 hg8 hrow hT HG HB HZ hr hsz a0 a1 a2 a3;go_wp2;go_roundw
    case rel=>exact ⟨i+1,by omega,by go_num,HB8.out,HG8.out,HZ8.out⟩
    case measure=>simp [intOf];omega
   ·have HI:=hid (sm_at HAQ.out ha);clear HZ HG;go_wp2_with fail
    refine eLow_c.mono ?_;rintro e w6 ⟨s4,x4,n4,c4,f4,y4,m4,d4,g4,rfl,hb6,hq6⟩;have HB6:=hid (HB.out.trans (hb6.mono HB.out.size));have HQ6:=hid hq6;have HO6:=hid (OB.out.below HB6.out);obtain ⟨hz,z0,z1,z2,z3,zf⟩:=HO6.out;clear hb6 hq6 HB a0 a1 a2 a3;go_wp2;exact bodyPost_ret (v:=.agg #[.int .i64 (-1),.bool s4,.slice x4 n4 c4,.slice y4 m4 d4]) (by simp [results,Tryz.results42,go_sem,z0,z1,z2,z3]) rfl ⟨s4,x4,n4,c4,f4,y4,m4,d4,g4,by rw [HI.out.1],below_st4 (HB0.out.trans (HB6.out.mono HB0.out.size)) (by omega),by rw [HI.out.1,HI.out.2];exact ⟨HO6.out.rn (HQ6.out.rn.mono (by omega)),.inr ⟨by decide,rfl⟩⟩⟩
  ·have e1:i=k:=by omega
   have i4':¬(((i:Nat):Int)<((k:Nat):Int)):=by omega
   obtain ⟨va,vc,hvs,hvc⟩:=HG.out.slice;rw [hgl] at hvs;have HG4:=HG.out;rw [hvs] at HG4;replace HG4:=hid (show Rf L wr va (p.map (·.2)) by have:=HG4.rf;rw [List.take_of_length_le (by omega)] at this;exact this);subst hvs;have HI:=hid (sm_all (p:=p) (fun t ht=>HZ.out t (by rw [List.take_of_length_le (by omega)];exact ht)));clear HG HZ hvc;go_wp2_with fail
   refine (pSum_l (L:=L) HG4.out (by rw [List.length_map];omega) hkL hL (by omega)).mono ?_;rintro e w6 ⟨s4,x4,n4,c4,f4,y4,m4,d4,g4,rfl,hb6,hq6⟩;have HB6:=hid (HB.out.trans (hb6.mono HB.out.size));have HQ6:=hid hq6;have HO6:=hid (OB.out.below HB6.out);obtain ⟨hz,z0,z1,z2,z3,zf⟩:=HO6.out;clear hb6 hq6 HB HG4;go_wp2;exact bodyPost_ret (v:=.agg #[.int .i64 0,.bool s4,.slice x4 n4 c4,.slice y4 m4 d4]) (by simp [results,Tryz.results42,go_sem,z0,z1,z2,z3]) rfl ⟨s4,x4,n4,c4,f4,y4,m4,d4,g4,by rw [HI.out.1],below_st4 (HB0.out.trans (HB6.out.mono HB0.out.size)) (by omega),by rw [HI.out.1,HI.out.2];exact ⟨HO6.out.rn HQ6.out,.inl rfl⟩⟩
theorem Tryz.infoExt:(Tryz.prog.info? 42).map (fun i=>(i.zero,i.size,i.bytes))=some (some (.agg #[.int .i64 0,.bool false,.slice none 0 0,.slice none 0 0]),4,64):=by kernel_rfl
def Ge (K base:Nat) (w:World) (v:Value) (p:List (Int × Rat)):Prop:=∃(col:Nat→Int) (T:Nat→Nm),RowG 42 4 base w v p.length (tcells (tls p.length col T))∧∀(j:Nat) (i:Int) (q:Rat),p[j]?=some (i,q)→col j=i∧Rn K w (T j).s (T j).x (T j).n (T j).c (T j).f (T j).y (T j).m (T j).d (T j).g q
theorem Ge.below {K base w w' v p} (h:Ge K base w v p) (hb:Below w.heap.size w w'):Ge K base w' v p:=by
 obtain ⟨col,T,h1,h2⟩:=h;exact ⟨col,T,h1.below hb,fun j i q e=>⟨(h2 j i q e).1,(h2 j i q e).2.below hb⟩⟩
theorem ge_one {K base:Nat} {w:World} {i:Int} {s:Bool} {x:Option Addr} {n c:Nat} {f:Nat→Int} {y:Option Addr} {m d:Nat} {g:Nat→Int} {q:Rat} (h:Rn K w s x n c f y m d g q) (hb:base≤w.heap.size):Ge K base (w.alloc (.cells #[.int .i64 i,.bool s,.slice x n c,.slice y m d] 42)) (.slice (some ⟨w.heap.size,0,none⟩) 1 1) [(i,q)]:=by
 refine ⟨fun _=>i,fun _=>⟨s,x,n,c,f,y,m,d,g⟩,⟨rfl,.inr ⟨w.heap.size,1,#[.int .i64 i,.bool s,.slice x n c,.slice y m d],rfl,hb,heap_alloc_new w _,Nat.le_refl _,by decide,rfl,rfl,nou_list (not4 _ _ _ _ _ _ _ _)⟩⟩,fun j i' q' e=>?_⟩;cases j with
 | zero=>cases e;exact ⟨rfl,h.alloc _⟩
 | succ j=>simp at e
theorem ge_push {K base:Nat} {w0 w':World} {p:List (Int × Rat)} {col:Nat→Int} {T:Nat→Nm} {g cap:Nat} {i:Int} {s:Bool} {x:Option Addr} {n c:Nat} {f:Nat→Int} {y:Option Addr} {m d:Nat} {gg:Nat→Int} {q:Rat} (hT:∀(j:Nat) (i:Int) (q:Rat),p[j]?=some (i,q)→col j=i∧Rn K w0 (T j).s (T j).x (T j).n (T j).c (T j).f (T j).y (T j).m (T j).d (T j).g q) (hr:RowG 42 4 base w' (.slice (some ⟨g,0,none⟩) (p.length+1) cap) (p.length+1) (tcells (tls p.length col T)++#[Value.int .i64 i,.bool s,.slice x n c,.slice y m d].toList)) (hk:Kp w0 w') (hq:Rn K w0 s x n c f y m d gg q):Ge K base w' (.slice (some ⟨g,0,none⟩) (p.length+1) cap) (p++[(i,q)]):=by
 refine ⟨fun j=>if j=p.length then i else col j,putN T p.length ⟨s,x,n,c,f,y,m,d,gg⟩,?_,fun j i' q' e=>?_⟩
 ·rw [List.length_append,List.length_singleton,tls_put];simp only [if_true];rw [show tls p.length (fun j=>if j=p.length then i else col j) T=tls p.length col T from List.map_congr_left (fun j hj=>by dsimp only;rw [if_neg (by have:=List.mem_range.1 hj;omega)])];exact hr
 ·by_cases hj:j<p.length
  ·rw [List.getElem?_append_left hj] at e;rw [putN_ne (by omega)];dsimp only;rw [if_neg (by omega)];exact ⟨(hT j i' q' e).1,Rn.kp (hT j i' q' e).2 hk⟩
  ·rw [List.getElem?_append_right (by omega)] at e;have h0:j-p.length=0:=by
    rcases Nat.eq_zero_or_pos (j-p.length) with h | h
    ·exact h
    ·rw [List.getElem?_eq_none (by simp;omega)] at e;cases e
   have hjj:j=p.length:=by omega
   subst hjj;rw [h0] at e;cases e
   rw [putN_at];dsimp only;rw [if_pos rfl];exact ⟨rfl,Rn.kp hq hk⟩
theorem Ge.slice {K base w v p} (h:Ge K base w v p):∃ao cap,v=.slice ao p.length cap:=by
 obtain ⟨col,T,h1,h2⟩:=h;exact h1.slice
theorem Ge.tf {K base w ao n cap p} (h:Ge K base w (.slice ao n cap) p):Tf K w ao p:=fun j i q hj=>by
 obtain ⟨col,T,h1,h2⟩:=h;have hl:j<p.length:=by
  rcases Nat.lt_or_ge j p.length with h | h
  ·exact h
  ·rw [List.getElem?_eq_none h] at hj;cases hj
 have hn:n=p.length:=by
  obtain ⟨ao',cap',e⟩:=h1.slice;cases e;rfl
 subst hn;obtain ⟨b,e,hc⟩:=rowg_c4 h1 hl;obtain ⟨e1,e2⟩:=h2 j i q hj;exact ⟨b,0,T j,e,by rw [←e1];exact hc,e2⟩
def shR (rs:List RV) (ys:List Rat):List (Int × Rat):=List.zipWith (fun v y=>(shI y v.li v.hi,shQ y v.lq v.hq)) rs ys
def shC (cs:List CV) (zs:List Rat):List (Int × Rat):=List.zipWith (fun v y=>(shI y v.li v.hi,shQ y v.lq v.hq)) cs zs
theorem shR_take {rs:List RV} {ys:List Rat} {i:Nat} {v:RV} {y:Rat} (hv:rs[i]?=some v) (hy:ys[i]?=some y):(shR rs ys).take (i+1)=(shR rs ys).take i++[(shI y v.li v.hi,shQ y v.lq v.hq)]:=by
 rw [List.take_add_one]
 congr 1
 unfold shR;rw [List.getElem?_zipWith,hv,hy];rfl
theorem shC_take {cs:List CV} {ys:List Rat} {i:Nat} {v:CV} {y:Rat} (hv:cs[i]?=some v) (hy:ys[i]?=some y):(shC cs ys).take (i+1)=(shC cs ys).take i++[(shI y v.li v.hi,shQ y v.lq v.hq)]:=by
 rw [List.take_add_one]
 congr 1
 unfold shC;rw [List.getElem?_zipWith,hv,hy];rfl
def bnP (off:Rat) (cs:List CV) (rs:List RV) (ys:List Rat):List (Int × Rat):=(0,off) :: (shR rs ys++shC cs (redC rs ys 0 cs))
def KS (L:Nat):Nat:=KV L+L+1
def KBo (L:Nat):Nat:=4+129*(KS L+1)
theorem lo_nought {L:Nat} (hL:1≤L):Lo L 0:=by
 have h:=pw_mono hL;have h1:pw 1=18446744073709551616:=by decide
 constructor
 ·show ((0:Nat):Int)<_;omega
 ·show ((1:Nat):Int)<_;omega
theorem sh_lo {L:Nat} {y q1 q2:Rat} (hy:Lo (KV L) y) (h1:Lo L q1) (h2:Lo L q2) (hL:1≤L):Lo (KS L) (shQ y q1 q2):=by
 unfold shQ KS;by_cases h0:y=0
 ·rw [if_pos h0];exact lo_nought (by omega)
 ·rw [if_neg h0];by_cases h3:y<0
  ·rw [if_pos h3];exact (lo_mul h2 hy).mono (by omega)
  ·rw [if_neg h3];exact (lo_mul h1 hy).mono (by omega)
def BoAns (L:Nat) (w w':World) (e:Ending) (er:Int) (p:List (Int × Rat)):Prop:=Below w.heap.size w w' ∧
 ((er≠0∧e=.returned (.tuple #[.agg #[.int .i64 0,.bool false,.slice none 0 0,.slice none 0 0],.int .i64 er]))∨(er=0∧∃s x n c f y m d g,e=.returned (.tuple #[.agg #[.int .i64 (smI p),.bool s,.slice x n c,.slice y m d],.int .i64 0])∧En (KBo L) w' (smI p) s x n c f y m d g (smQ p)))
set_option maxRecDepth 100000 in
set_option maxHeartbeats 8000000 in
theorem dBound_v {w:World} {L:Nat} {M:Mo} {off:Rat} {cs:List CV} {rs:List RV} {ao:Option Addr} {k cap:Nat} {X:Nat→Nm} {ys:List Rat} {er:Int} (hW:MoW w M) (hx:Rl w ao k X) (hk:k≤1048576) (he:dckE M k X=er) (hv:er=0→MoV L w M off cs rs∧mvOk cs rs=true∧Rf L w ao ys∧ys.length=k∧k=rs.length) (hL4:4≤L) (hL:L≤8) :
  Calls Tryz.prog 13 #[M.val,.slice ao k cap] w fun e w'=>BoAns L w w' e er (bnP off cs rs ys):=by
 have CR:Hid (∀W,Below w.heap.size w W→Calls Tryz.prog 8 #[M.val,.slice ao k cap] W fun e w'=>RdAns L W w' e er cs rs ys):=fun W hW2=>dReduced_v (hW.below hW2) (hx.below hW2) hk he (fun h0=>⟨(hv h0).1.below hW2,(hv h0).2.1,(hv h0).2.2.1.below hW2,(hv h0).2.2.2⟩) (by omega)
 have HV:=hid hv;clear hW hx hv he;obtain ⟨⟨s,x,n,c,f,y,m,d,g⟩,ca,ck,cc,C,ra,rk,rc,R⟩:=M;replace CR:Hid (∀W,Below w.heap.size w W→Calls Tryz.prog 8 #[.agg #[.bool s,.slice x n c,.slice y m d,.slice ca ck cc,.slice ra rk rc],.slice ao k cap] W fun e w'=>RdAns L W w' e er cs rs ys):=CR;show Calls Tryz.prog 13 #[.agg #[.bool s,.slice x n c,.slice y m d,.slice ca ck cc,.slice ra rk rc],.slice ao k cap] w _;have hb:=below_alloc (below_alloc (Below.refl w.heap.size w) (.cells #[.bool s,.slice x n c,.slice y m d,.slice ca ck cc,.slice ra rk rc] 28)) (.cells #[.int .i64 0,.bool false,.slice none 0 0,.slice none 0 0] 42);have BM:Hid (Bk ((w.alloc (.cells #[.bool s,.slice x n c,.slice y m d,.slice ca ck cc,.slice ra rk rc] 28)).alloc (.cells #[.int .i64 0,.bool false,.slice none 0 0,.slice none 0 0] 42)) w.heap.size [.bool s,.slice x n c,.slice y m d,.slice ca ck cc,.slice ra rk rc] 28):=(bk_new w [.bool s,.slice x n c,.slice y m d,.slice ca ck cc,.slice ra rk rc] 28).below (below_alloc (Below.refl _ _) _);have OB:=ob4_new (w.alloc (.cells #[.bool s,.slice x n c,.slice y m d,.slice ca ck cc,.slice ra rk rc] 28)) 42;rw [size_alloc1] at OB;have HB:=hid hb;replace OB:=hid OB
 clear hb;go_enter Tryz.func13,Tryz.ntmps13;go_upto_region 1 with fail
 generalize ((w.alloc (.cells #[.bool s,.slice x n c,.slice y m d,.slice ca ck cc,.slice ra rk rc] 28)).alloc (.cells #[.int .i64 0,.bool false,.slice none 0 0,.slice none 0 0] 42))=w1 at *;have r0:=BM.out.cell (j:=0) rfl;have r1:=BM.out.cell (j:=1) rfl;have r2:=BM.out.cell (j:=2) rfl;have r3:=BM.out.cell (j:=3) rfl;have r4:=BM.out.cell (j:=4) rfl;go_wp2_with fail
 clear r0 r1 r2 r3 r4;refine (CR.out _ HB.out).mono ?_;rintro e w2 ⟨hb2,⟨h0,rfl⟩ | ⟨h0,za,zc,rfl,_,hz⟩⟩
 ·have h1:(er != 0)=true:=by simpa using h0
  have H0:=hid h0;replace OB:=hid (OB.out.below hb2);replace HB:=hid (HB.out.trans (hb2.mono HB.out.size))
  obtain ⟨hz,z0,z1,z2,z3,zf⟩:=OB.out;clear hb2 h0 CR;go_wp2;exact bodyPost_ret (v:=.tuple #[.agg #[.int .i64 0,.bool false,.slice none 0 0,.slice none 0 0],.int .i64 er]) (by simp [results,Tryz.results13,go_sem,z0,z1,z2,z3]) rfl ⟨below_st4 HB.out (by omega),.inl ⟨H0.out,rfl⟩⟩
 ·obtain ⟨v1,v2,v3,v4,v5⟩:=HV.out h0;have mp:=mvOk_p v2;subst h0;have l64:=mp.cl;have r64:=mp.rl
  have HO:Hid (Rn L w s x n c f y m d g off):=v1.off;have HC:Hid (∀j v,cs[j]?=some v→(∃b o,ca=some ⟨b,o,none⟩∧Cs w b (o+j*12) (C j).vs)∧ColV L w (C j) v):=v1.cls;have HR:Hid (∀j v,rs[j]?=some v→(∃b o,ra=some ⟨b,o,none⟩∧Cs w b (o+j*10) (R j).vs)∧RowV L w (R j) v):=v1.rls;have hck:ck=cs.length:=v1.ck;have hrk:rk=rs.length:=v1.rk;subst hck;subst hrk
  subst v5;have HY:=hid v3;have HYL:=hid v4;have HRB:=hid mp.rb;have HCB:=hid mp.cb
  clear v1 v2 v3 v4 mp HV CR hk;obtain ⟨zs,hzs⟩:∃t,redC rs ys 0 cs=t:=⟨_,rfl⟩;have HZL:Hid (zs.length=cs.length):=by rw [←hzs];exact redC_len _ _ _ _
  have HP:Hid (bnP off cs rs ys=(0,off) :: (shR rs ys++shC cs zs)):=by rw [←hzs];exact rfl
  rw [hzs] at hz;have HZ:=hid hz;replace HB:=hid (HB.out.trans (hb2.mono HB.out.size));replace BM:=hid (BM.out.below hb2);replace OB:=hid (OB.out.below hb2)
  have hsr:(shR rs ys).length=rs.length:=by unfold shR;rw [List.length_zipWith,HYL.out,Nat.min_self]
  have hsc:(shC cs zs).length=cs.length:=by unfold shC;rw [List.length_zipWith,HZL.out,Nat.min_self]
  have hKV:KS L=4+65*(2*L+1+1)+L+1:=rfl;clear hb2 hz hzs;have r0:=BM.out.cell (j:=0) rfl;have r1:=BM.out.cell (j:=1) rfl;have r2:=BM.out.cell (j:=2) rfl;have r3:=BM.out.cell (j:=3) rfl;have r4:=BM.out.cell (j:=4) rfl;have hal:=below_alloc (Below.refl w2.heap.size w2) (.cells #[.int .i64 0,.bool s,.slice x n c,.slice y m d] 42);have r4':=kCb hal r4;have HG0:=hid (ge_one (i:=0) (K:=KS L) (base:=w2.heap.size) ((HO.out.below HB.out).mono (by omega)) (Nat.le_refl _));go_wp2_with fail
  clear r0 r1 r2 r3 r4 r4' HO;go_loopw [8,30] (fun pv t wr=>∃(i:Nat),i≤rs.length∧t=.int .i64 i∧Hid (Below w2.heap.size w2 wr)∧Hid (Ge (KS L) w2.heap.size wr pv ((0,off) :: (shR rs ys).take i))) (fun _ t _=>rs.length-(intOf t).toNat)
  case atStart=>exact ⟨0,by omega,rfl,hal,HG0.out⟩
  case round =>
   clear HG0 hal;obtain ⟨i,hi,rfl,HB2,HG⟩:=hrel;by_cases hlt:i<rs.length
   ·obtain ⟨v,hv⟩:∃t,rs[i]?=some t:=⟨_,List.getElem?_eq_getElem (by omega)⟩;obtain ⟨yq,hyq⟩:∃t,ys[i]?=some t:=⟨_,List.getElem?_eq_getElem (by have:=HYL.out;omega)⟩;have hbw:=HB.out.trans (HB2.out.mono HB.out.size);obtain ⟨⟨b,o,hra,hc⟩,hRV⟩:=HR.out i v hv;have hbd:=HRB.out v (List.mem_of_getElem? hv);subst hra;obtain ⟨⟨z,⟨i1,⟨s1,x1,n1,c1,f1,y1,m1,d1,g1⟩⟩,⟨i2,⟨s2,x2,n2,c2,f2,y2,m2,d2,g2⟩⟩,ta,tk,tc,tcol,tt⟩,hCi⟩:∃t,R i=t:=⟨_,rfl⟩;rw [hCi] at hc hRV;have e1:i1=v.li:=hRV.li;have e2:i2=v.hi:=hRV.hi
    have E1:En L w i1 s1 x1 n1 c1 f1 y1 m1 d1 g1 v.lq:=⟨hRV.lq,by rw [e1];exact hbd.1⟩;have E2:En L w i2 s2 x2 n2 c2 f2 y2 m2 d2 g2 v.hq:=⟨hRV.hq,by rw [e2];exact hbd.2⟩
    replace hc:=Cs.below hc hbw;have q0:wr.cell? ⟨b,o+i*10,none⟩=some (.string z):=hc 0 _ rfl;have q1:wr.cell? ⟨b,o+i*10+1,none⟩=some (.int .i64 i1):=hc 1 _ rfl;have q2:wr.cell? ⟨b,o+i*10+2,none⟩=some (.bool s1):=hc 2 _ rfl;have q3:wr.cell? ⟨b,o+i*10+3,none⟩=some (.slice x1 n1 c1):=hc 3 _ rfl;have q4:wr.cell? ⟨b,o+i*10+4,none⟩=some (.slice y1 m1 d1):=hc 4 _ rfl;have q5:wr.cell? ⟨b,o+i*10+5,none⟩=some (.int .i64 i2):=hc 5 _ rfl;have q6:wr.cell? ⟨b,o+i*10+6,none⟩=some (.bool s2):=hc 6 _ rfl;have q7:wr.cell? ⟨b,o+i*10+7,none⟩=some (.slice x2 n2 c2):=hc 7 _ rfl;have q8:wr.cell? ⟨b,o+i*10+8,none⟩=some (.slice y2 m2 d2):=hc 8 _ rfl;have q9:wr.cell? ⟨b,o+i*10+9,none⟩=some (.slice ta tk tc):=hc 9 _ rfl;obtain ⟨b',o',⟨ss,sx,sn,sc,sf,sy,sm,sd,sg⟩,hax,⟨p0,p1,p2⟩,hr'⟩:=(HY.out.below hbw) i yq hyq;subst hax;replace p0:wr.cell? ⟨b',o'+i*3,none⟩=some (.bool ss):=p0;replace p1:wr.cell? ⟨b',o'+i*3+1,none⟩=some (.slice sx sn sc):=p1;replace p2:wr.cell? ⟨b',o'+i*3+2,none⟩=some (.slice sy sm sd):=p2;replace hr':Rn L wr ss sx sn sc sf sy sm sd sg yq:=hr';have hbt:=below_alloc (Below.refl wr.heap.size wr) (.cells #[.string z,.int .i64 i1,.bool s1,.slice x1 n1 c1,.slice y1 m1 d1,.int .i64 i2,.bool s2,.slice x2 n2 c2,.slice y2 m2 d2,.slice ta tk tc] 68);have a1:(wr.alloc (.cells #[.string z,.int .i64 i1,.bool s1,.slice x1 n1 c1,.slice y1 m1 d1,.int .i64 i2,.bool s2,.slice x2 n2 c2,.slice y2 m2 d2,.slice ta tk tc] 68)).cell? ⟨wr.heap.size,1,none⟩=some (.int .i64 i1):=by simp [go_sem]
    have a2:(wr.alloc (.cells #[.string z,.int .i64 i1,.bool s1,.slice x1 n1 c1,.slice y1 m1 d1,.int .i64 i2,.bool s2,.slice x2 n2 c2,.slice y2 m2 d2,.slice ta tk tc] 68)).cell? ⟨wr.heap.size,2,none⟩=some (.bool s1):=by simp [go_sem]
    have a3:(wr.alloc (.cells #[.string z,.int .i64 i1,.bool s1,.slice x1 n1 c1,.slice y1 m1 d1,.int .i64 i2,.bool s2,.slice x2 n2 c2,.slice y2 m2 d2,.slice ta tk tc] 68)).cell? ⟨wr.heap.size,3,none⟩=some (.slice x1 n1 c1):=by simp [go_sem]
    have a4:(wr.alloc (.cells #[.string z,.int .i64 i1,.bool s1,.slice x1 n1 c1,.slice y1 m1 d1,.int .i64 i2,.bool s2,.slice x2 n2 c2,.slice y2 m2 d2,.slice ta tk tc] 68)).cell? ⟨wr.heap.size,4,none⟩=some (.slice y1 m1 d1):=by simp [go_sem]
    have a5:(wr.alloc (.cells #[.string z,.int .i64 i1,.bool s1,.slice x1 n1 c1,.slice y1 m1 d1,.int .i64 i2,.bool s2,.slice x2 n2 c2,.slice y2 m2 d2,.slice ta tk tc] 68)).cell? ⟨wr.heap.size,5,none⟩=some (.int .i64 i2):=by simp [go_sem]
    have a6:(wr.alloc (.cells #[.string z,.int .i64 i1,.bool s1,.slice x1 n1 c1,.slice y1 m1 d1,.int .i64 i2,.bool s2,.slice x2 n2 c2,.slice y2 m2 d2,.slice ta tk tc] 68)).cell? ⟨wr.heap.size,6,none⟩=some (.bool s2):=by simp [go_sem]
    have a7:(wr.alloc (.cells #[.string z,.int .i64 i1,.bool s1,.slice x1 n1 c1,.slice y1 m1 d1,.int .i64 i2,.bool s2,.slice x2 n2 c2,.slice y2 m2 d2,.slice ta tk tc] 68)).cell? ⟨wr.heap.size,7,none⟩=some (.slice x2 n2 c2):=by simp [go_sem]
    have a8:(wr.alloc (.cells #[.string z,.int .i64 i1,.bool s1,.slice x1 n1 c1,.slice y1 m1 d1,.int .i64 i2,.bool s2,.slice x2 n2 c2,.slice y2 m2 d2,.slice ta tk tc] 68)).cell? ⟨wr.heap.size,8,none⟩=some (.slice y2 m2 d2):=by simp [go_sem]
    have i1':((i:Nat):Int)<((rs.length:Nat):Int):=by omega
    replace p0:=kCb hbt p0;replace p1:=kCb hbt p1;replace p2:=kCb hbt p2
    have RY:=hid ((hr'.below hbt).mono (show _≤KV L by unfold KV;omega));have RE1:=hid (((E1.below hbw).below hbt).mono (show L≤KV L by unfold KV;omega));have RE2:=hid (((E2.below hbw).below hbt).mono (show L≤KV L by unfold KV;omega))
    have HLO:=hid (sh_lo (RY.out.lo RY.out.ln RY.out.ld) (E1.rn.lo E1.rn.ln E1.rn.ld) (E2.rn.lo E2.rn.ln E2.rn.ld) (by omega));have HTK:=hid (shR_take hv hyq);rw [←e1,←e2] at HTK;clear hr' E1 E2 hCi hc hRV hbd e1 e2 hbw hv hyq;go_upto_region 8 with fail
    clear q0 q1 q2 q3 q4 q5 q6 q7 q8 q9;replace HB2:=hid (HB2.out.trans (hbt.mono HB2.out.size));replace HG:=hid (HG.out.below hbt)
    clear hbt;generalize wr.heap.size=bx at *;generalize (wr.alloc (.cells #[.string z,.int .i64 i1,.bool s1,.slice x1 n1 c1,.slice y1 m1 d1,.int .i64 i2,.bool s2,.slice x2 n2 c2,.slice y2 m2 d2,.slice ta tk tc] 68))=w5 at *;refine wp_region_phase (S:=(fun w'=>w'.cell? ⟨bx,1,none⟩=some (.int .i64 i1)∧w'.cell? ⟨bx,2,none⟩=some (.bool s1)∧w'.cell? ⟨bx,3,none⟩=some (.slice x1 n1 c1)∧w'.cell? ⟨bx,4,none⟩=some (.slice y1 m1 d1)∧w'.cell? ⟨bx,5,none⟩=some (.int .i64 i2)∧w'.cell? ⟨bx,6,none⟩=some (.bool s2)∧w'.cell? ⟨bx,7,none⟩=some (.slice x2 n2 c2)∧w'.cell? ⟨bx,8,none⟩=some (.slice y2 m2 d2)∧w'.cell? ⟨b',o'+i*3,none⟩=some (.bool ss)∧w'.cell? ⟨b',o'+i*3+1,none⟩=some (.slice sx sn sc)∧w'.cell? ⟨b',o'+i*3+2,none⟩=some (.slice sy sm sd))) 9 (by kernel_rfl) ⟨kCd a1,kCd a2,kCd a3,kCd a4,kCd a5,kCd a6,kCd a7,kCd a8,kCd p0,kCd p1,kCd p2⟩ (fun hHeld=>?_);have hbd:=Below.drew (Below.refl w5.heap.size w5);replace HB2:=hid (HB2.out.trans (hbd.mono HB2.out.size));replace HG:=hid (HG.out.below hbd);replace RY:=hid (RY.out.below hbd);replace RE1:=hid (RE1.out.below hbd);replace RE2:=hid (RE2.out.below hbd)
    clear hbd a1 a2 a3 a4 a5 a6 a7 a8 p0 p1 p2;generalize w5.drew=wd at *;refine wpAnyP_skim (i:=0) (v:=?_) rfl (by kernel_rfl) (by kernel_rfl) (by kernel_rfl) (by kernel_rfl) (fun _ _ _ h=>h) (Or.inl ⟨by rfl,?_⟩) (fun _=>by assumption) ?_;rotate_left
    (focus (intro w0 hSw;go_simp <;> with_reducible rfl))
    simp only [List.getElem_toArray,List.getElem_cons_zero,Act.put,List.setIfInBounds_toArray,List.set_cons_zero,List.set_cons_succ];refine wpAnyP_skim (i:=1) (v:=?_) rfl (by kernel_rfl) (by kernel_rfl) (by kernel_rfl) (by kernel_rfl) (fun _ _ _ h=>h) (Or.inl ⟨by rfl,?_⟩) (fun _=>by assumption) ?_;rotate_left
    (focus (intro w0 hSw;go_simp <;> with_reducible rfl))
    simp only [List.getElem_toArray,List.getElem_cons_succ,List.getElem_cons_zero,Act.put,List.setIfInBounds_toArray,List.set_cons_zero,List.set_cons_succ];refine wpAnyP_skim (i:=2) (v:=?_) rfl (by kernel_rfl) (by kernel_rfl) (by kernel_rfl) (by kernel_rfl) (fun _ _ _ h=>h) (Or.inl ⟨by rfl,?_⟩) (fun _=>by assumption) ?_;rotate_left
    (focus (intro w0 hSw;go_simp <;> with_reducible rfl))
    simp only [List.getElem_toArray,List.getElem_cons_succ,List.getElem_cons_zero,Act.put,List.setIfInBounds_toArray,List.set_cons_zero,List.set_cons_succ];refine wpAnyP_skim (i:=3) (v:=?_) rfl (by kernel_rfl) (by kernel_rfl) (by kernel_rfl) (by kernel_rfl) (fun _ _ _ h=>h) (Or.inl ⟨by rfl,?_⟩) (fun _=>by assumption) ?_;rotate_left
    (focus (intro w0 hSw;go_simp <;> with_reducible rfl))
    simp only [List.getElem_toArray,List.getElem_cons_succ,List.getElem_cons_zero,Act.put,List.setIfInBounds_toArray,List.set_cons_zero,List.set_cons_succ];refine wpAnyP_takeA (i:=4) (v:=?_) rfl (by kernel_rfl) (by kernel_rfl) (by kernel_rfl) (by kernel_rfl) (by kernel_rfl) (by kernel_rfl) (fun _ _ _ h=>h) (Or.inl ⟨by rfl,?_⟩) (by assumption) ?_;rotate_left
    (focus (intro w0 hSw;(try dsimp only at hSw);go_simp <;> with_reducible rfl))
    simp only [List.getElem_toArray,List.getElem_cons_succ,List.getElem_cons_zero,Act.put,List.setIfInBounds_toArray,List.set_cons_zero,List.set_cons_succ];refine wpAnyP_skim (i:=5) (v:=?_) rfl (by kernel_rfl) (by kernel_rfl) (by kernel_rfl) (by kernel_rfl) (fun _ _ _ h=>h) (Or.inl ⟨by rfl,?_⟩) (fun _=>by assumption) ?_;rotate_left
    (focus (intro w0 hSw;go_simp <;> with_reducible rfl))
    simp only [List.getElem_toArray,List.getElem_cons_succ,List.getElem_cons_zero,Act.put,List.setIfInBounds_toArray,List.set_cons_zero,List.set_cons_succ];refine wpAnyP_takeA (i:=6) (v:=?_) rfl (by kernel_rfl) (by kernel_rfl) (by kernel_rfl) (by kernel_rfl) (by kernel_rfl) (by kernel_rfl) (fun _ _ _ h=>h) (Or.inl ⟨by rfl,?_⟩) (by assumption) ?_;rotate_left
    (focus (intro w0 hSw;(try dsimp only at hSw);go_simp <;> with_reducible rfl))
    simp only [List.getElem_toArray,List.getElem_cons_succ,List.getElem_cons_zero,Act.put,List.setIfInBounds_toArray,List.set_cons_zero,List.set_cons_succ];refine wpAnyP_skim (i:=7) (v:=?_) rfl (by kernel_rfl) (by kernel_rfl) (by kernel_rfl) (by kernel_rfl) (fun _ _ _ h=>h) (Or.inl ⟨by rfl,?_⟩) (fun _=>by assumption) ?_;rotate_left
    (focus (intro w0 hSw;go_simp <;> with_reducible rfl))
    simp only [List.getElem_toArray,List.getElem_cons_succ,List.getElem_cons_zero,Act.put,List.setIfInBounds_toArray,List.set_cons_zero,List.set_cons_succ];refine wpAnyP_takeA (i:=8) (v:=?_) rfl (by kernel_rfl) (by kernel_rfl) (by kernel_rfl) (by kernel_rfl) (by kernel_rfl) (by kernel_rfl) (fun _ _ _ h=>h) (Or.inl ⟨by rfl,?_⟩) (by assumption) ?_;rotate_left
    (focus (intro w0 hSw;(try dsimp only at hSw);go_simp <;> with_reducible rfl))
    simp only [List.getElem_toArray,List.getElem_cons_succ,List.getElem_cons_zero,Act.put,List.setIfInBounds_toArray,List.set_cons_zero,List.set_cons_succ];refine wpAnyP_ready (rs:=[9]) (by kernel_rfl) (by simp) ?_;refine AllReadyP.cons (o:=_) rfl (fun K hK=>?_) ?_;rotate_left;exact AllReadyP.nil;go_simp
    go_at_call 41
    refine (dShare_v (L:=KV L) RY.out RE1.out RE2.out (by unfold KV;omega) (by unfold KV;omega)).mono ?_;rintro e w6 ⟨s7,x7,n7,c7,f7,y7,m7,d7,g7,rfl,hb6,hq6⟩
    (try go_wp2_with fail)
    have HQ6:=hid (hq6.rn.cut HLO.out);replace HB2:=hid (HB2.out.trans (hb6.mono HB2.out.size));replace HG:=hid (HG.out.below hb6)
    clear hb6 hq6 RY RE1 RE2 HLO hHeld;refine hK.out _ _ (fun h=>by cases h) (fun _=>?_);clear hK K;try simp only [Act.put,List.setIfInBounds_toArray,List.set_cons_zero,List.set_cons_succ]
    refine wpAnyP_ready (rs:=[10]) (by kernel_rfl) (by simp) ?_;refine AllReadyP.cons (o:=_) rfl (fun K hK=>?_) ?_;rotate_left;exact AllReadyP.nil;go_simp;refine hK.out _ _ (fun h=>by cases h) (fun _=>?_);clear hK K;try simp only [Act.put,List.setIfInBounds_toArray,List.set_cons_zero,List.set_cons_succ]
    refine wpAnyP_ready (rs:=[11]) (by kernel_rfl) (by simp) ?_;refine AllReadyP.cons (o:=_) rfl (fun K hK=>?_) ?_;rotate_left;exact AllReadyP.nil;have hln:((0,off) :: (shR rs ys).take i).length=i+1:=by rw [List.length_cons,List.length_take];omega
    obtain ⟨col,T,hrow,hT⟩:=HG.out;rw [hln] at hrow;have hsz:=HB2.out.size;refine step_append_one w6 rfl (.tmp 35) (.tmp 45) 96 rfl w2.heap.size 42 64 4 (.agg #[.int .i64 0,.bool false,.slice none 0 0,.slice none 0 0]) Tryz.underlying96 Tryz.infoExt rfl (by decide) nz4 u8 (i+1) _ rfl hrow #[.int .i64 (shI yq i1 i2),.bool s7,.slice x7 n7 c7,.slice y7 m7 d7] rfl rfl (one4 _ _ _ _ _ _ _ _) (not4 _ _ _ _ _ _ _ _) ?p1 (by decide) hsz ?_
    case p1=>omega
    intro g8 cap8 w8 hr8 hk8 hb8 hg8;have HB8:=hid (hb8 w2 HB2.out (Nat.le_refl _));have HG8:Hid (Ge (KS L) w2.heap.size w8 (.slice (some ⟨g8,0,none⟩) (i+1+1) cap8) ((0,off) :: (shR rs ys).take (i+1))):=by
     have hp8:=ge_push hT (by rw [hln];exact hr8) hk8 HQ6.out;rw [hln] at hp8;rw [HTK.out];exact hp8
    clear hr8 hk8 hb8 hg8 hrow hT HG HB2 HQ6 HTK hsz hln;refine hK.out _ _ (fun h=>by cases h) (fun _=>?_);clear hK K;try simp only [Act.put,List.setIfInBounds_toArray]
    refine wpAnyP_skim (i:=12) (v:=?_) rfl (by kernel_rfl) (by kernel_rfl) (by kernel_rfl) (by kernel_rfl) (fun _ _ _ h=>h) (Or.inl ⟨by rfl,?_⟩) (fun h=>by cases h) ?_;rotate_left
    (focus (intro w0 hSw;go_simp <;> with_reducible rfl))
    simp only [List.getElem_toArray,List.getElem_cons_succ,List.getElem_cons_zero,Act.put,List.setIfInBounds_toArray,List.set_cons_zero,List.set_cons_succ];refine wpAnyP_done (by kernel_rfl) ?_ _;go_wp2;go_roundw
    case rel=>exact ⟨i+1,by omega,by go_num,HB8.out,HG8.out⟩
    case measure=>simp [intOf];omega
   ·have e1:i=rs.length:=by omega
    have i4':¬(((i:Nat):Int)<((rs.length:Nat):Int)):=by omega
    have HG9:Hid (Ge (KS L) w2.heap.size wr u8 ((0,off) :: (shR rs ys++(shC cs zs).take 0))):=by
     have h:=HG.out;rw [List.take_of_length_le (by omega)] at h;rw [List.take_zero,List.append_nil];exact h
    have r3:=(BM.out.below HB2.out).cell (j:=3) rfl;clear HG e1;go_wp2_with fail
    clear r3;go_loopw [8,51] (fun pv t wr=>∃(i:Nat),i≤cs.length∧t=.int .i64 i∧Hid (Below w2.heap.size w2 wr)∧Hid (Ge (KS L) w2.heap.size wr pv ((0,off) :: (shR rs ys++(shC cs zs).take i)))) (fun _ t _=>cs.length-(intOf t).toNat)
    case atStart=>exact ⟨0,by omega,rfl,HB2.out,HG9.out⟩
    case round =>
     clear HG9 HB2;obtain ⟨i,hi,rfl,HB2,HG⟩:=hrel;by_cases hlt:i<cs.length
     ·obtain ⟨v,hv⟩:∃t,cs[i]?=some t:=⟨_,List.getElem?_eq_getElem (by omega)⟩;obtain ⟨yq,hyq⟩:∃t,zs[i]?=some t:=⟨_,List.getElem?_eq_getElem (by have:=HZL.out;omega)⟩;have hbw:=HB.out.trans (HB2.out.mono HB.out.size);obtain ⟨⟨b,o,hra,hc⟩,hRV⟩:=HC.out i v hv;have hbd:=HCB.out v (List.mem_of_getElem? hv);subst hra;obtain ⟨⟨z,⟨s0,x0,n0,c0,f0,y0,m0,d0,g0⟩,⟨i1,⟨s1,x1,n1,c1,f1,y1,m1,d1,g1⟩⟩,⟨i2,⟨s2,x2,n2,c2,f2,y2,m2,d2,g2⟩⟩⟩,hCi⟩:∃t,C i=t:=⟨_,rfl⟩;rw [hCi] at hc hRV;have e1:i1=v.li:=hRV.li;have e2:i2=v.hi:=hRV.hi
      have E1:En L w i1 s1 x1 n1 c1 f1 y1 m1 d1 g1 v.lq:=⟨hRV.lq,by rw [e1];exact hbd.1⟩;have E2:En L w i2 s2 x2 n2 c2 f2 y2 m2 d2 g2 v.hq:=⟨hRV.hq,by rw [e2];exact hbd.2⟩
      replace hc:=Cs.below hc hbw;have q0:wr.cell? ⟨b,o+i*12,none⟩=some (.string z):=hc 0 _ rfl;have q1:wr.cell? ⟨b,o+i*12+1,none⟩=some (.bool s0):=hc 1 _ rfl;have q2:wr.cell? ⟨b,o+i*12+2,none⟩=some (.slice x0 n0 c0):=hc 2 _ rfl;have q3:wr.cell? ⟨b,o+i*12+3,none⟩=some (.slice y0 m0 d0):=hc 3 _ rfl;have q4:wr.cell? ⟨b,o+i*12+4,none⟩=some (.int .i64 i1):=hc 4 _ rfl;have q5:wr.cell? ⟨b,o+i*12+5,none⟩=some (.bool s1):=hc 5 _ rfl;have q6:wr.cell? ⟨b,o+i*12+6,none⟩=some (.slice x1 n1 c1):=hc 6 _ rfl;have q7:wr.cell? ⟨b,o+i*12+7,none⟩=some (.slice y1 m1 d1):=hc 7 _ rfl;have q8:wr.cell? ⟨b,o+i*12+8,none⟩=some (.int .i64 i2):=hc 8 _ rfl;have q9:wr.cell? ⟨b,o+i*12+9,none⟩=some (.bool s2):=hc 9 _ rfl;have q10:wr.cell? ⟨b,o+i*12+10,none⟩=some (.slice x2 n2 c2):=hc 10 _ rfl;have q11:wr.cell? ⟨b,o+i*12+11,none⟩=some (.slice y2 m2 d2):=hc 11 _ rfl;obtain ⟨b',o',⟨ss,sx,sn,sc,sf,sy,sm,sd,sg⟩,hax,⟨p0,p1,p2⟩,hr'⟩:=(HZ.out.below HB2.out) i yq hyq;subst hax;replace p0:wr.cell? ⟨b',o'+i*3,none⟩=some (.bool ss):=p0;replace p1:wr.cell? ⟨b',o'+i*3+1,none⟩=some (.slice sx sn sc):=p1;replace p2:wr.cell? ⟨b',o'+i*3+2,none⟩=some (.slice sy sm sd):=p2;replace hr':Rn (KV L) wr ss sx sn sc sf sy sm sd sg yq:=hr';have hbt:=below_alloc (Below.refl wr.heap.size wr) (.cells #[.string z,.bool s0,.slice x0 n0 c0,.slice y0 m0 d0,.int .i64 i1,.bool s1,.slice x1 n1 c1,.slice y1 m1 d1,.int .i64 i2,.bool s2,.slice x2 n2 c2,.slice y2 m2 d2] 65);have a4:(wr.alloc (.cells #[.string z,.bool s0,.slice x0 n0 c0,.slice y0 m0 d0,.int .i64 i1,.bool s1,.slice x1 n1 c1,.slice y1 m1 d1,.int .i64 i2,.bool s2,.slice x2 n2 c2,.slice y2 m2 d2] 65)).cell? ⟨wr.heap.size,4,none⟩=some (.int .i64 i1):=by simp [go_sem]
      have a5:(wr.alloc (.cells #[.string z,.bool s0,.slice x0 n0 c0,.slice y0 m0 d0,.int .i64 i1,.bool s1,.slice x1 n1 c1,.slice y1 m1 d1,.int .i64 i2,.bool s2,.slice x2 n2 c2,.slice y2 m2 d2] 65)).cell? ⟨wr.heap.size,5,none⟩=some (.bool s1):=by simp [go_sem]
      have a6:(wr.alloc (.cells #[.string z,.bool s0,.slice x0 n0 c0,.slice y0 m0 d0,.int .i64 i1,.bool s1,.slice x1 n1 c1,.slice y1 m1 d1,.int .i64 i2,.bool s2,.slice x2 n2 c2,.slice y2 m2 d2] 65)).cell? ⟨wr.heap.size,6,none⟩=some (.slice x1 n1 c1):=by simp [go_sem]
      have a7:(wr.alloc (.cells #[.string z,.bool s0,.slice x0 n0 c0,.slice y0 m0 d0,.int .i64 i1,.bool s1,.slice x1 n1 c1,.slice y1 m1 d1,.int .i64 i2,.bool s2,.slice x2 n2 c2,.slice y2 m2 d2] 65)).cell? ⟨wr.heap.size,7,none⟩=some (.slice y1 m1 d1):=by simp [go_sem]
      have a8:(wr.alloc (.cells #[.string z,.bool s0,.slice x0 n0 c0,.slice y0 m0 d0,.int .i64 i1,.bool s1,.slice x1 n1 c1,.slice y1 m1 d1,.int .i64 i2,.bool s2,.slice x2 n2 c2,.slice y2 m2 d2] 65)).cell? ⟨wr.heap.size,8,none⟩=some (.int .i64 i2):=by simp [go_sem]
      have a9:(wr.alloc (.cells #[.string z,.bool s0,.slice x0 n0 c0,.slice y0 m0 d0,.int .i64 i1,.bool s1,.slice x1 n1 c1,.slice y1 m1 d1,.int .i64 i2,.bool s2,.slice x2 n2 c2,.slice y2 m2 d2] 65)).cell? ⟨wr.heap.size,9,none⟩=some (.bool s2):=by simp [go_sem]
      have a10:(wr.alloc (.cells #[.string z,.bool s0,.slice x0 n0 c0,.slice y0 m0 d0,.int .i64 i1,.bool s1,.slice x1 n1 c1,.slice y1 m1 d1,.int .i64 i2,.bool s2,.slice x2 n2 c2,.slice y2 m2 d2] 65)).cell? ⟨wr.heap.size,10,none⟩=some (.slice x2 n2 c2):=by simp [go_sem]
      have a11:(wr.alloc (.cells #[.string z,.bool s0,.slice x0 n0 c0,.slice y0 m0 d0,.int .i64 i1,.bool s1,.slice x1 n1 c1,.slice y1 m1 d1,.int .i64 i2,.bool s2,.slice x2 n2 c2,.slice y2 m2 d2] 65)).cell? ⟨wr.heap.size,11,none⟩=some (.slice y2 m2 d2):=by simp [go_sem]
      have i1':((i:Nat):Int)<((cs.length:Nat):Int):=by omega
      replace p0:=kCb hbt p0;replace p1:=kCb hbt p1;replace p2:=kCb hbt p2
      have RY:=hid ((hr'.below hbt).mono (show _≤KV L by unfold KV;omega));have RE1:=hid (((E1.below hbw).below hbt).mono (show L≤KV L by unfold KV;omega));have RE2:=hid (((E2.below hbw).below hbt).mono (show L≤KV L by unfold KV;omega))
      have HLO:=hid (sh_lo (RY.out.lo RY.out.ln RY.out.ld) (E1.rn.lo E1.rn.ln E1.rn.ld) (E2.rn.lo E2.rn.ln E2.rn.ld) (by omega));have HTK:=hid (shC_take hv hyq);rw [←e1,←e2] at HTK;clear hr' E1 E2 hCi hc hRV hbd e1 e2 hbw hv hyq;go_upto_region 13 with fail
      clear q0 q1 q2 q3 q4 q5 q6 q7 q8 q9 q10 q11;replace HB2:=hid (HB2.out.trans (hbt.mono HB2.out.size));replace HG:=hid (HG.out.below hbt)
      clear hbt;generalize wr.heap.size=bx at *;generalize (wr.alloc (.cells #[.string z,.bool s0,.slice x0 n0 c0,.slice y0 m0 d0,.int .i64 i1,.bool s1,.slice x1 n1 c1,.slice y1 m1 d1,.int .i64 i2,.bool s2,.slice x2 n2 c2,.slice y2 m2 d2] 65))=w5 at *;refine wp_region_phase (S:=(fun w'=>w'.cell? ⟨bx,4,none⟩=some (.int .i64 i1)∧w'.cell? ⟨bx,5,none⟩=some (.bool s1)∧w'.cell? ⟨bx,6,none⟩=some (.slice x1 n1 c1)∧w'.cell? ⟨bx,7,none⟩=some (.slice y1 m1 d1)∧w'.cell? ⟨bx,8,none⟩=some (.int .i64 i2)∧w'.cell? ⟨bx,9,none⟩=some (.bool s2)∧w'.cell? ⟨bx,10,none⟩=some (.slice x2 n2 c2)∧w'.cell? ⟨bx,11,none⟩=some (.slice y2 m2 d2)∧w'.cell? ⟨b',o'+i*3,none⟩=some (.bool ss)∧w'.cell? ⟨b',o'+i*3+1,none⟩=some (.slice sx sn sc)∧w'.cell? ⟨b',o'+i*3+2,none⟩=some (.slice sy sm sd))) 9 (by kernel_rfl) ⟨kCd a4,kCd a5,kCd a6,kCd a7,kCd a8,kCd a9,kCd a10,kCd a11,kCd p0,kCd p1,kCd p2⟩ (fun hHeld=>?_);have hbd:=Below.drew (Below.refl w5.heap.size w5);replace HB2:=hid (HB2.out.trans (hbd.mono HB2.out.size));replace HG:=hid (HG.out.below hbd);replace RY:=hid (RY.out.below hbd);replace RE1:=hid (RE1.out.below hbd);replace RE2:=hid (RE2.out.below hbd)
      clear hbd a4 a5 a6 a7 a8 a9 a10 a11 p0 p1 p2;generalize w5.drew=wd at *;refine wpAnyP_skim (i:=0) (v:=?_) rfl (by kernel_rfl) (by kernel_rfl) (by kernel_rfl) (by kernel_rfl) (fun _ _ _ h=>h) (Or.inl ⟨by rfl,?_⟩) (fun _=>by assumption) ?_;rotate_left
      (focus (intro w0 hSw;go_simp <;> with_reducible rfl))
      simp only [List.getElem_toArray,List.getElem_cons_zero,Act.put,List.setIfInBounds_toArray,List.set_cons_zero,List.set_cons_succ];refine wpAnyP_skim (i:=1) (v:=?_) rfl (by kernel_rfl) (by kernel_rfl) (by kernel_rfl) (by kernel_rfl) (fun _ _ _ h=>h) (Or.inl ⟨by rfl,?_⟩) (fun _=>by assumption) ?_;rotate_left
      (focus (intro w0 hSw;go_simp <;> with_reducible rfl))
      simp only [List.getElem_toArray,List.getElem_cons_succ,List.getElem_cons_zero,Act.put,List.setIfInBounds_toArray,List.set_cons_zero,List.set_cons_succ];refine wpAnyP_skim (i:=2) (v:=?_) rfl (by kernel_rfl) (by kernel_rfl) (by kernel_rfl) (by kernel_rfl) (fun _ _ _ h=>h) (Or.inl ⟨by rfl,?_⟩) (fun _=>by assumption) ?_;rotate_left
      (focus (intro w0 hSw;go_simp <;> with_reducible rfl))
      simp only [List.getElem_toArray,List.getElem_cons_succ,List.getElem_cons_zero,Act.put,List.setIfInBounds_toArray,List.set_cons_zero,List.set_cons_succ];refine wpAnyP_skim (i:=3) (v:=?_) rfl (by kernel_rfl) (by kernel_rfl) (by kernel_rfl) (by kernel_rfl) (fun _ _ _ h=>h) (Or.inl ⟨by rfl,?_⟩) (fun _=>by assumption) ?_;rotate_left
      (focus (intro w0 hSw;go_simp <;> with_reducible rfl))
      simp only [List.getElem_toArray,List.getElem_cons_succ,List.getElem_cons_zero,Act.put,List.setIfInBounds_toArray,List.set_cons_zero,List.set_cons_succ];refine wpAnyP_takeA (i:=4) (v:=?_) rfl (by kernel_rfl) (by kernel_rfl) (by kernel_rfl) (by kernel_rfl) (by kernel_rfl) (by kernel_rfl) (fun _ _ _ h=>h) (Or.inl ⟨by rfl,?_⟩) (by assumption) ?_;rotate_left
      (focus (intro w0 hSw;(try dsimp only at hSw);go_simp <;> with_reducible rfl))
      simp only [List.getElem_toArray,List.getElem_cons_succ,List.getElem_cons_zero,Act.put,List.setIfInBounds_toArray,List.set_cons_zero,List.set_cons_succ];refine wpAnyP_skim (i:=5) (v:=?_) rfl (by kernel_rfl) (by kernel_rfl) (by kernel_rfl) (by kernel_rfl) (fun _ _ _ h=>h) (Or.inl ⟨by rfl,?_⟩) (fun _=>by assumption) ?_;rotate_left
      (focus (intro w0 hSw;go_simp <;> with_reducible rfl))
      simp only [List.getElem_toArray,List.getElem_cons_succ,List.getElem_cons_zero,Act.put,List.setIfInBounds_toArray,List.set_cons_zero,List.set_cons_succ];refine wpAnyP_takeA (i:=6) (v:=?_) rfl (by kernel_rfl) (by kernel_rfl) (by kernel_rfl) (by kernel_rfl) (by kernel_rfl) (by kernel_rfl) (fun _ _ _ h=>h) (Or.inl ⟨by rfl,?_⟩) (by assumption) ?_;rotate_left
      (focus (intro w0 hSw;(try dsimp only at hSw);go_simp <;> with_reducible rfl))
      simp only [List.getElem_toArray,List.getElem_cons_succ,List.getElem_cons_zero,Act.put,List.setIfInBounds_toArray,List.set_cons_zero,List.set_cons_succ];refine wpAnyP_skim (i:=7) (v:=?_) rfl (by kernel_rfl) (by kernel_rfl) (by kernel_rfl) (by kernel_rfl) (fun _ _ _ h=>h) (Or.inl ⟨by rfl,?_⟩) (fun _=>by assumption) ?_;rotate_left
      (focus (intro w0 hSw;go_simp <;> with_reducible rfl))
      simp only [List.getElem_toArray,List.getElem_cons_succ,List.getElem_cons_zero,Act.put,List.setIfInBounds_toArray,List.set_cons_zero,List.set_cons_succ];refine wpAnyP_takeA (i:=8) (v:=?_) rfl (by kernel_rfl) (by kernel_rfl) (by kernel_rfl) (by kernel_rfl) (by kernel_rfl) (by kernel_rfl) (fun _ _ _ h=>h) (Or.inl ⟨by rfl,?_⟩) (by assumption) ?_;rotate_left
      (focus (intro w0 hSw;(try dsimp only at hSw);go_simp <;> with_reducible rfl))
      simp only [List.getElem_toArray,List.getElem_cons_succ,List.getElem_cons_zero,Act.put,List.setIfInBounds_toArray,List.set_cons_zero,List.set_cons_succ];refine wpAnyP_ready (rs:=[9]) (by kernel_rfl) (by simp) ?_;refine AllReadyP.cons (o:=_) rfl (fun K hK=>?_) ?_;rotate_left;exact AllReadyP.nil;go_simp
      go_at_call 41
      refine (dShare_v (L:=KV L) RY.out RE1.out RE2.out (by unfold KV;omega) (by unfold KV;omega)).mono ?_;rintro e w6 ⟨s7,x7,n7,c7,f7,y7,m7,d7,g7,rfl,hb6,hq6⟩
      (try go_wp2_with fail)
      have HQ6:=hid (hq6.rn.cut HLO.out);replace HB2:=hid (HB2.out.trans (hb6.mono HB2.out.size));replace HG:=hid (HG.out.below hb6)
      clear hb6 hq6 RY RE1 RE2 HLO hHeld;refine hK.out _ _ (fun h=>by cases h) (fun _=>?_);clear hK K;try simp only [Act.put,List.setIfInBounds_toArray,List.set_cons_zero,List.set_cons_succ]
      refine wpAnyP_ready (rs:=[10]) (by kernel_rfl) (by simp) ?_;refine AllReadyP.cons (o:=_) rfl (fun K hK=>?_) ?_;rotate_left;exact AllReadyP.nil;go_simp;refine hK.out _ _ (fun h=>by cases h) (fun _=>?_);clear hK K;try simp only [Act.put,List.setIfInBounds_toArray,List.set_cons_zero,List.set_cons_succ]
      refine wpAnyP_ready (rs:=[11]) (by kernel_rfl) (by simp) ?_;refine AllReadyP.cons (o:=_) rfl (fun K hK=>?_) ?_;rotate_left;exact AllReadyP.nil;have hln:((0,off) :: (shR rs ys++(shC cs zs).take i)).length=rs.length+i+1:=by rw [List.length_cons,List.length_append,List.length_take];omega
      obtain ⟨col,T,hrow,hT⟩:=HG.out;rw [hln] at hrow;have hsz:=HB2.out.size;refine step_append_one w6 rfl (.tmp 56) (.tmp 66) 96 rfl w2.heap.size 42 64 4 (.agg #[.int .i64 0,.bool false,.slice none 0 0,.slice none 0 0]) Tryz.underlying96 Tryz.infoExt rfl (by decide) nz4 u8 (rs.length+i+1) _ rfl hrow #[.int .i64 (shI yq i1 i2),.bool s7,.slice x7 n7 c7,.slice y7 m7 d7] rfl rfl (one4 _ _ _ _ _ _ _ _) (not4 _ _ _ _ _ _ _ _) ?p1 (by decide) hsz ?_
      case p1=>omega
      intro g8 cap8 w8 hr8 hk8 hb8 hg8;have HB8:=hid (hb8 w2 HB2.out (Nat.le_refl _));have HG8:Hid (Ge (KS L) w2.heap.size w8 (.slice (some ⟨g8,0,none⟩) (rs.length+i+1+1) cap8) ((0,off) :: (shR rs ys++(shC cs zs).take (i+1)))):=by
       have hp8:=ge_push hT (by rw [hln];exact hr8) hk8 HQ6.out;rw [hln] at hp8;rw [HTK.out];rw [←List.append_assoc];exact hp8
      clear hr8 hk8 hb8 hg8 hrow hT HG HB2 HQ6 HTK hsz hln;refine hK.out _ _ (fun h=>by cases h) (fun _=>?_);clear hK K;try simp only [Act.put,List.setIfInBounds_toArray]
      refine wpAnyP_skim (i:=12) (v:=?_) rfl (by kernel_rfl) (by kernel_rfl) (by kernel_rfl) (by kernel_rfl) (fun _ _ _ h=>h) (Or.inl ⟨by rfl,?_⟩) (fun h=>by cases h) ?_;rotate_left
      (focus (intro w0 hSw;go_simp <;> with_reducible rfl))
      simp only [List.getElem_toArray,List.getElem_cons_succ,List.getElem_cons_zero,Act.put,List.setIfInBounds_toArray,List.set_cons_zero,List.set_cons_succ];refine wpAnyP_done (by kernel_rfl) ?_ _;go_wp2;go_roundw
      case rel=>exact ⟨i+1,by omega,by go_num,HB8.out,HG8.out⟩
      case measure=>simp [intOf];omega
     ·have e1:i=cs.length:=by omega
      have i4':¬(((i:Nat):Int)<((cs.length:Nat):Int)):=by omega
      have HG9:=HG.out;rw [List.take_of_length_le (by omega),←HP.out] at HG9;have hln:(bnP off cs rs ys).length=1+rs.length+cs.length:=by rw [HP.out,List.length_cons,List.length_append];omega
      obtain ⟨va,vc,hvs⟩:=HG9.slice;rw [hvs] at HG9;have HT:=hid HG9.tf;rw [hln] at hvs;subst hvs;have HLN:=hid hln;clear HG HG9 e1 hln;go_wp2_with fail
      have hkl:4+(1+rs.length+cs.length)*(KS L+1)≤KBo L:=by unfold KBo;have h9:(1+rs.length+cs.length)*(KS L+1)≤129*(KS L+1):=Nat.mul_le_mul_right _ (by omega);omega
      refine (dSum_v HT.out HLN.out (Nat.le_trans hkl (by unfold KBo;omega)) (by omega) (by omega)).mono ?_;rintro e w6 ⟨s4,x4,n4,c4,f4,y4,m4,d4,g4,rfl,hb6,hq6⟩;have HQ6:=hid (hq6.mono hkl);replace HB2:=hid (HB2.out.trans (hb6.mono HB2.out.size));replace OB:=hid (OB.out.below HB2.out);obtain ⟨hz,z0,z1,z2,z3,zf⟩:=OB.out;clear hb6 hq6 HT;go_wp2;exact bodyPost_ret (v:=.tuple #[.agg #[.int .i64 (smI (bnP off cs rs ys)),.bool s4,.slice x4 n4 c4,.slice y4 m4 d4],.int .i64 0]) (by simp [results,Tryz.results13,go_sem,z0,z1,z2,z3]) rfl ⟨below_st4 (HB.out.trans (HB2.out.mono HB.out.size)) (by omega),.inr ⟨rfl,s4,x4,n4,c4,f4,y4,m4,d4,g4,rfl,OB.out.rn HQ6.out.rn,HQ6.out.inf⟩⟩
theorem eqs_iff {f g:Nat→Int}:∀{r i:Nat},eqs f g r i=true ↔ ∀j,i≤j→j<i+r→f j=g j
 | 0,i=>⟨fun _ j a b=>by omega,fun _=>rfl⟩
 | r+1,i=>by
  simp only [eqs,Bool.and_eq_true,decide_eq_true_eq,eqs_iff (r:=r)];constructor
  ·rintro ⟨h1,h2⟩ j a b;by_cases e:j=i
   ·subst e;exact h1
   ·exact h2 j (by omega) (by omega)
  ·intro h;exact ⟨h i (by omega) (by omega),fun j a b=>h j (by omega) (by omega)⟩
theorem eql_iff {n m:Nat} {f g:Nat→Int}:eqlB n m f g=true ↔ Alk n m f g:=by
 unfold eqlB Alk;simp only [Bool.and_eq_true,decide_eq_true_eq,eqs_iff];exact ⟨fun ⟨a,b⟩=>⟨a,fun j hj=>b j (by omega) (by omega)⟩,fun ⟨a,b⟩=>⟨a,fun j _ hj=>b j (by omega)⟩⟩
theorem sq_iff {a b:Nm}:sqB a b=true ↔ a.s=b.s∧Alk a.n b.n a.f b.f∧Alk a.m b.m a.g b.g:=by
 unfold sqB;simp only [Bool.and_eq_true,decide_eq_true_eq,eql_iff]
set_option maxRecDepth 100000 in
set_option maxHeartbeats 2000000 in
theorem dsameRat_c {w:World} {a b:Nm} (ha:NmS w a) (hb:NmS w b):Calls Tryz.prog 49 #[a.val,b.val] w fun r w'=>r=.returned (.bool (sqB a b))∧Below w.heap.size w w':=by
 have C1:=hid (fun w' (hw:Below w.heap.size w w')=>equalU_c (w:=w') (c:=a.c) (d:=b.c) (ha.1.rx.below hw (Nat.le_refl _)) (hb.1.rx.below hw (Nat.le_refl _)) (by have:=ha.2.1;omega) (by have:=hb.2.1;omega));have C2:=hid (fun w' (hw:Below w.heap.size w w')=>equalU_c (w:=w') (c:=a.d) (d:=b.d) (ha.1.ry.below hw (Nat.le_refl _)) (hb.1.ry.below hw (Nat.le_refl _)) (by have:=ha.2.2;omega) (by have:=hb.2.2;omega));obtain ⟨t1,ht1⟩:∃t,eqlB a.n b.n a.f b.f=t:=⟨_,rfl⟩;obtain ⟨t2,ht2⟩:∃t,eqlB a.m b.m a.g b.g=t:=⟨_,rfl⟩;obtain ⟨ans,hans⟩:∃t,sqB a b=t:=⟨_,rfl⟩;have hA:ans=(decide (a.s=b.s) && (t1 && t2)):=by rw [←hans,←ht1,←ht2];rfl
 rw [ht1] at C1;rw [ht2] at C2;rw [hans];clear hans ht1 ht2 ha hb;obtain ⟨s,x,n,c,f,y,m,d,g⟩:=a;obtain ⟨s2,x2,n2,c2,f2,y2,m2,d2,g2⟩:=b;have HA:Hid (ans=(decide (s=s2) && (t1 && t2))):=hA;replace C1:Hid (∀w' (hw:Below w.heap.size w w'),Calls Tryz.prog 84 #[.slice x n c,.slice x2 n2 c2] w' fun e w2=>e=.returned (.bool t1)∧Below w'.heap.size w' w2):=C1;replace C2:Hid (∀w' (hw:Below w.heap.size w w'),Calls Tryz.prog 84 #[.slice y m d,.slice y2 m2 d2] w' fun e w2=>e=.returned (.bool t2)∧Below w'.heap.size w' w2):=C2;clear hA;show Calls Tryz.prog 49 #[.agg #[.bool s,.slice x n c,.slice y m d],.agg #[.bool s2,.slice x2 n2 c2,.slice y2 m2 d2]] w _;have HB0:=hid (below_alloc (below_alloc (Below.refl w.heap.size w) (.cells #[.bool s,.slice x n c,.slice y m d] 24)) (.cells #[.bool s2,.slice x2 n2 c2,.slice y2 m2 d2] 24));by_cases hs:s=s2
 case neg =>
  have HS:=hid (show decide (s=s2)=false from by simp [hs]);have e1:(s==s2)=false:=by simpa using hs
  go_enter Tryz.func49,Tryz.ntmps49;go_wp2;go_ret;refine ⟨?_,HB0.out⟩;rw [HA.out,HS.out];rfl
 subst hs;have HS:=hid (show decide (s=s)=true from by simp);have e1:(s==s)=true:=by simp
 go_enter Tryz.func49,Tryz.ntmps49;go_wp2_with fail
 refine (C1.out _ HB0.out).mono ?_;rintro r w1 ⟨rfl,hb1⟩;have k1:=kCb hb1 (a:=⟨w.heap.size,2,none⟩) (v:=.slice y m d) (by simp [go_sem]);have k2:=kCb hb1 (a:=⟨w.heap.size+1,2,none⟩) (v:=.slice y2 m2 d2) (by simp [go_sem]);have HB1:=hid (HB0.out.trans (hb1.mono HB0.out.size));clear hb1 HB0 C1;cases t1
 ·go_wp2;go_ret;refine ⟨?_,HB1.out⟩;rw [HA.out,HS.out];rfl
 ·go_wp2_with fail
  refine (C2.out _ HB1.out).mono ?_;rintro r w2 ⟨rfl,hb2⟩;have HB2:=hid (HB1.out.trans (hb2.mono HB1.out.size));clear hb2 HB1 C2;go_wp2;go_ret;refine ⟨?_,HB2.out⟩;rw [HA.out,HS.out];cases t2 <;> rfl
set_option maxRecDepth 100000 in
set_option maxHeartbeats 4000000 in
theorem dequalQs_c {w:World} {ao bo:Option Addr} {k l cap cap':Nat} {X Y:Nat→Nm} (hx:∀j,j<k→∃b o,ao=some ⟨b,o,none⟩∧Cs w b (o+j*3) (rcell (X j))∧NmS w (X j)) (hy:∀j,j<l→∃b o,bo=some ⟨b,o,none⟩∧Cs w b (o+j*3) (rcell (Y j))∧NmS w (Y j)) (hk:k≤1048576) (hl:l≤1048576) :
  Calls Tryz.prog 48 #[.slice ao k cap,.slice bo l cap',.func (.func 49) #[] #[]] w fun e w'=>e=.returned (.bool (eqfB sqB k l X Y))∧Below w.heap.size w w':=by
 have HX:=hid hx;have HY:=hid hy
 clear hx hy;by_cases hkl:k=l
 case neg =>
  have HE:=hid (show eqfB sqB k l X Y=false from by simp [eqfB,hkl]);have e1:((k:Int) != (l:Int))=true:=by simp;omega
  clear hkl;go_enter Tryz.func48,Tryz.ntmps48;go_wp2;go_ret;refine ⟨?_,Below.refl _ _⟩;rw [HE.out];rfl
 subst hkl;have HE:=hid (show eqfB sqB k k X Y=eqf sqB X Y k 0 from by simp [eqfB]);have e1:((k:Int) != (k:Int))=false:=by simp
 go_enter Tryz.func48,Tryz.ntmps48;go_wp2_with fail
 go_loopw [17] (fun t wr=>∃(i:Nat),i≤k∧t=.int .i64 i∧Hid (Below w.heap.size w wr)∧Hid (eqfB sqB k k X Y=eqf sqB X Y (k-i) i)) (fun t _=>k-(intOf t).toNat)
 case atStart=>exact ⟨0,by omega,rfl,Below.refl _ _,HE.out⟩
 case round =>
  obtain ⟨i,hi,rfl,HB,HI⟩:=hrel;by_cases hlt:i<k
  ·obtain ⟨b,o,rfl,hc,hn⟩:=HX.out i hlt;obtain ⟨b2,o2,rfl,hc2,hn2⟩:=HY.out i hlt;replace hc:=hc.below HB.out;replace hc2:=hc2.below HB.out;replace hn:=hn.below HB.out;replace hn2:=hn2.below HB.out
   obtain ⟨r,hr⟩:∃r,k-i=r+1:=⟨k-i-1,by omega⟩;obtain ⟨t1,ht1⟩:∃t,sqB (X i) (Y i)=t:=⟨_,rfl⟩;have hT:eqfB sqB k k X Y=(t1 && eqf sqB X Y r (i+1)):=by rw [HI.out,hr,←ht1];rfl
   have hr2:k-(i+1)=r:=by omega
   have CE:=hid (fun w' (hw:Below wr.heap.size wr w')=>dsameRat_c (w:=w') (hn.below hw) (hn2.below hw));rw [ht1] at CE;obtain ⟨⟨s0,x0,n0,c0,f0,y0,m0,d0,g0⟩,hCi⟩:∃t,X i=t:=⟨_,rfl⟩;obtain ⟨⟨vs0,vx0,vn0,vc0,vf0,vy0,vm0,vd0,vg0⟩,hCi2⟩:∃t,Y i=t:=⟨_,rfl⟩;rw [hCi] at hc CE;rw [hCi2] at hc2 CE;replace CE:Hid (∀w' (hw:Below wr.heap.size wr w'),Calls Tryz.prog 49 #[.agg #[.bool s0,.slice x0 n0 c0,.slice y0 m0 d0],.agg #[.bool vs0,.slice vx0 vn0 vc0,.slice vy0 vm0 vd0]] w' fun e w2=>e=.returned (.bool t1)∧Below w'.heap.size w' w2):=CE;have hb1:=below_alloc (Below.refl wr.heap.size wr) (.cells #[.bool s0,.slice x0 n0 c0,.slice y0 m0 d0] 24);have q1:wr.cell? ⟨b,o+i*3,none⟩=some (.bool s0):=hc 0 _ rfl;have q2:wr.cell? ⟨b,o+i*3+1,none⟩=some (.slice x0 n0 c0):=hc 1 _ rfl;have q3:wr.cell? ⟨b,o+i*3+2,none⟩=some (.slice y0 m0 d0):=hc 2 _ rfl;have g1':(wr.alloc (.cells #[.bool s0,.slice x0 n0 c0,.slice y0 m0 d0] 24)).cell? ⟨b2,o2+i*3,none⟩=some (.bool vs0):=kCb hb1 (hc2 0 _ rfl);have g2':(wr.alloc (.cells #[.bool s0,.slice x0 n0 c0,.slice y0 m0 d0] 24)).cell? ⟨b2,o2+i*3+1,none⟩=some (.slice vx0 vn0 vc0):=kCb hb1 (hc2 1 _ rfl);have g3':(wr.alloc (.cells #[.bool s0,.slice x0 n0 c0,.slice y0 m0 d0] 24)).cell? ⟨b2,o2+i*3+2,none⟩=some (.slice vy0 vm0 vd0):=kCb hb1 (hc2 2 _ rfl);have p1:((wr.alloc (.cells #[.bool s0,.slice x0 n0 c0,.slice y0 m0 d0] 24)).alloc (.cells #[.bool vs0,.slice vx0 vn0 vc0,.slice vy0 vm0 vd0] 24)).cell? ⟨wr.heap.size,0,none⟩=some (.bool s0):=by simp [go_sem]
   have p2:((wr.alloc (.cells #[.bool s0,.slice x0 n0 c0,.slice y0 m0 d0] 24)).alloc (.cells #[.bool vs0,.slice vx0 vn0 vc0,.slice vy0 vm0 vd0] 24)).cell? ⟨wr.heap.size,1,none⟩=some (.slice x0 n0 c0):=by simp [go_sem]
   have p3:((wr.alloc (.cells #[.bool s0,.slice x0 n0 c0,.slice y0 m0 d0] 24)).alloc (.cells #[.bool vs0,.slice vx0 vn0 vc0,.slice vy0 vm0 vd0] 24)).cell? ⟨wr.heap.size,2,none⟩=some (.slice y0 m0 d0):=by simp [go_sem]
   have r1:((wr.alloc (.cells #[.bool s0,.slice x0 n0 c0,.slice y0 m0 d0] 24)).alloc (.cells #[.bool vs0,.slice vx0 vn0 vc0,.slice vy0 vm0 vd0] 24)).cell? ⟨wr.heap.size+1,0,none⟩=some (.bool vs0):=by simp [go_sem]
   have r2:((wr.alloc (.cells #[.bool s0,.slice x0 n0 c0,.slice y0 m0 d0] 24)).alloc (.cells #[.bool vs0,.slice vx0 vn0 vc0,.slice vy0 vm0 vd0] 24)).cell? ⟨wr.heap.size+1,1,none⟩=some (.slice vx0 vn0 vc0):=by simp [go_sem]
   have r3:((wr.alloc (.cells #[.bool s0,.slice x0 n0 c0,.slice y0 m0 d0] 24)).alloc (.cells #[.bool vs0,.slice vx0 vn0 vc0,.slice vy0 vm0 vd0] 24)).cell? ⟨wr.heap.size+1,2,none⟩=some (.slice vy0 vm0 vd0):=by simp [go_sem]
   have HB6:=hid (below_alloc hb1 (.cells #[.bool vs0,.slice vx0 vn0 vc0,.slice vy0 vm0 vd0] 24));have HT:=hid hT;have HR:=hid hr2
   have i1':((i:Nat):Int)<((k:Nat):Int):=by omega
   clear hT hr2 hr hCi hCi2 ht1 hc hc2 hn hn2 hb1;go_upto_region 7 with fail
   clear q1 g1' q2 g2' q3 g3';generalize ((wr.alloc (.cells #[.bool s0,.slice x0 n0 c0,.slice y0 m0 d0] 24)).alloc (.cells #[.bool vs0,.slice vx0 vn0 vc0,.slice vy0 vm0 vd0] 24))=w6 at *;go_wp2_with fail
   refine (CE.out _ HB6.out).mono ?_;rintro e w7 ⟨rfl,hb7⟩;have HB7:=hid (HB.out.trans ((HB6.out.trans (hb7.mono HB6.out.size)).mono HB.out.size));clear hb7 HB6 CE p1 r1 p2 r2 p3 r3;cases t1
   ·go_wp2;go_ret;refine ⟨?_,HB7.out⟩;rw [HT.out];rfl
   ·go_wp2;go_roundw
    case rel =>
     refine ⟨i+1,by omega,by go_num,HB7.out,?_⟩;show _=_;rw [HT.out,HR.out];rfl
    case measure=>simp [intOf];omega
  ·have e1:i=k:=by omega
   have HE:Hid (eqfB sqB k k X Y=true):=by show _=_;rw [HI.out,e1,Nat.sub_self];rfl
   have i2:¬(((i:Nat):Int)<((k:Nat):Int)):=by omega
   clear e1 HI;go_wp2;go_ret;refine ⟨?_,HB.out⟩;rw [HE.out];rfl
def rsB (y:Rat) (i1:Int) (q1:Rat) (i2:Int) (q2 at_:Rat):Bool:=if y=0 then true else if y<0 then decide (i2=0) && decide (q2=at_) else decide (i1=0) && decide (q1=at_)
theorem sqB_val {L:Nat} {w w':World} {s:Bool} {x:Option Addr} {n c:Nat} {f:Nat→Int} {y:Option Addr} {m d:Nat} {g:Nat→Int} {s1:Bool} {x1:Option Addr} {n1 c1:Nat} {f1:Nat→Int} {y1:Option Addr} {m1 d1:Nat} {g1:Nat→Int} {q q1:Rat} (h:Rn L w s x n c f y m d g q) (h1:Rn L w' s1 x1 n1 c1 f1 y1 m1 d1 g1 q1):sqB ⟨s,x,n,c,f,y,m,d,g⟩ ⟨s1,x1,n1,c1,f1,y1,m1,d1,g1⟩=decide (q=q1):=by
 have h2:=Rn.inj h h1;rw [Bool.eq_iff_iff,sq_iff,decide_eq_true_eq];exact h2
set_option maxRecDepth 100000 in
set_option maxHeartbeats 4000000 in
theorem dRests_v {w:World} {L:Nat} {s:Bool} {x:Option Addr} {n c:Nat} {f:Nat→Int} {y:Option Addr} {m d:Nat} {g:Nat→Int} {i1:Int} {s1:Bool} {x1:Option Addr} {n1 c1:Nat} {f1:Nat→Int} {y1:Option Addr} {m1 d1:Nat} {g1:Nat→Int} {i2:Int} {s2:Bool} {x2:Option Addr} {n2 c2:Nat} {f2:Nat→Int} {y2:Option Addr} {m2 d2:Nat} {g2:Nat→Int} {s3:Bool} {x3:Option Addr} {n3 c3:Nat} {f3:Nat→Int} {y3:Option Addr} {m3 d3:Nat} {g3:Nat→Int} {q q1 q2 q3:Rat} (h:Rn L w s x n c f y m d g q) (h1:Rn L w s1 x1 n1 c1 f1 y1 m1 d1 g1 q1) (h2:Rn L w s2 x2 n2 c2 f2 y2 m2 d2 g2 q2) (h3:Rn L w s3 x3 n3 c3 f3 y3 m3 d3 g3 q3) (hL:L≤65536) :
  Calls Tryz.prog 86 #[.agg #[.bool s,.slice x n c,.slice y m d],.agg #[.int .i64 i1,.bool s1,.slice x1 n1 c1,.slice y1 m1 d1],.agg #[.int .i64 i2,.bool s2,.slice x2 n2 c2,.slice y2 m2 d2],.agg #[.bool s3,.slice x3 n3 c3,.slice y3 m3 d3]] w fun e w'=>e=.returned (.bool (rsB q i1 q1 i2 q2 q3))∧Below w.heap.size w w':=by
 have hb:=below_alloc (below_alloc (below_alloc (below_alloc (Below.refl w.heap.size w) (.cells #[.bool s,.slice x n c,.slice y m d] 24)) (.cells #[.int .i64 i1,.bool s1,.slice x1 n1 c1,.slice y1 m1 d1] 42)) (.cells #[.int .i64 i2,.bool s2,.slice x2 n2 c2,.slice y2 m2 d2] 42)) (.cells #[.bool s3,.slice x3 n3 c3,.slice y3 m3 d3] 24);have BY:Bk ((((w.alloc (.cells #[.bool s,.slice x n c,.slice y m d] 24)).alloc (.cells #[.int .i64 i1,.bool s1,.slice x1 n1 c1,.slice y1 m1 d1] 42)).alloc (.cells #[.int .i64 i2,.bool s2,.slice x2 n2 c2,.slice y2 m2 d2] 42)).alloc (.cells #[.bool s3,.slice x3 n3 c3,.slice y3 m3 d3] 24)) w.heap.size [.bool s,.slice x n c,.slice y m d] 24:=(((bk_new w [.bool s,.slice x n c,.slice y m d] 24).below (below_alloc (Below.refl _ _) _)).below (below_alloc (Below.refl _ _) _)).below (below_alloc (Below.refl _ _) _);have BL:Bk ((((w.alloc (.cells #[.bool s,.slice x n c,.slice y m d] 24)).alloc (.cells #[.int .i64 i1,.bool s1,.slice x1 n1 c1,.slice y1 m1 d1] 42)).alloc (.cells #[.int .i64 i2,.bool s2,.slice x2 n2 c2,.slice y2 m2 d2] 42)).alloc (.cells #[.bool s3,.slice x3 n3 c3,.slice y3 m3 d3] 24)) (w.heap.size+1) [.int .i64 i1,.bool s1,.slice x1 n1 c1,.slice y1 m1 d1] 42:=by
  have:=((bk_new (w.alloc (.cells #[.bool s,.slice x n c,.slice y m d] 24)) [.int .i64 i1,.bool s1,.slice x1 n1 c1,.slice y1 m1 d1] 42).below (below_alloc (Below.refl _ _) (.cells #[.int .i64 i2,.bool s2,.slice x2 n2 c2,.slice y2 m2 d2] 42))).below (below_alloc (Below.refl _ _) (.cells #[.bool s3,.slice x3 n3 c3,.slice y3 m3 d3] 24));rw [size_alloc1] at this;exact this
 have BH:Bk ((((w.alloc (.cells #[.bool s,.slice x n c,.slice y m d] 24)).alloc (.cells #[.int .i64 i1,.bool s1,.slice x1 n1 c1,.slice y1 m1 d1] 42)).alloc (.cells #[.int .i64 i2,.bool s2,.slice x2 n2 c2,.slice y2 m2 d2] 42)).alloc (.cells #[.bool s3,.slice x3 n3 c3,.slice y3 m3 d3] 24)) (w.heap.size+2) [.int .i64 i2,.bool s2,.slice x2 n2 c2,.slice y2 m2 d2] 42:=by
  have:=(bk_new ((w.alloc (.cells #[.bool s,.slice x n c,.slice y m d] 24)).alloc (.cells #[.int .i64 i1,.bool s1,.slice x1 n1 c1,.slice y1 m1 d1] 42)) [.int .i64 i2,.bool s2,.slice x2 n2 c2,.slice y2 m2 d2] 42).below (below_alloc (Below.refl _ _) (.cells #[.bool s3,.slice x3 n3 c3,.slice y3 m3 d3] 24));rw [size_alloc1,size_alloc1] at this;exact this
 have BA:Bk ((((w.alloc (.cells #[.bool s,.slice x n c,.slice y m d] 24)).alloc (.cells #[.int .i64 i1,.bool s1,.slice x1 n1 c1,.slice y1 m1 d1] 42)).alloc (.cells #[.int .i64 i2,.bool s2,.slice x2 n2 c2,.slice y2 m2 d2] 42)).alloc (.cells #[.bool s3,.slice x3 n3 c3,.slice y3 m3 d3] 24)) (w.heap.size+1+1+1) [.bool s3,.slice x3 n3 c3,.slice y3 m3 d3] 24:=by
  have:=bk_new (((w.alloc (.cells #[.bool s,.slice x n c,.slice y m d] 24)).alloc (.cells #[.int .i64 i1,.bool s1,.slice x1 n1 c1,.slice y1 m1 d1] 42)).alloc (.cells #[.int .i64 i2,.bool s2,.slice x2 n2 c2,.slice y2 m2 d2] 42)) [.bool s3,.slice x3 n3 c3,.slice y3 m3 d3] 24;rw [size_alloc1,size_alloc1,size_alloc1] at this;exact this
 have HY:=hid (h.below hb);have H1:=hid (h1.below hb);have H2:=hid (h2.below hb);have H3:=hid (h3.below hb)
 have HQ0:=hid h.q_zero;have HSN:=hid h.sg
 clear h h1 h2 h3;go_enter Tryz.func86,Tryz.ntmps86;go_upto_region 1 with fail
 generalize ((((w.alloc (.cells #[.bool s,.slice x n c,.slice y m d] 24)).alloc (.cells #[.int .i64 i1,.bool s1,.slice x1 n1 c1,.slice y1 m1 d1] 42)).alloc (.cells #[.int .i64 i2,.bool s2,.slice x2 n2 c2,.slice y2 m2 d2] 42)).alloc (.cells #[.bool s3,.slice x3 n3 c3,.slice y3 m3 d3] 24))=w1 at *;have r0:=BY.cell (j:=0) rfl;have r1:=BY.cell (j:=1) rfl;have r2:=BY.cell (j:=2) rfl;have l0:=BL.cell (j:=0) rfl;have l1:=BL.cell (j:=1) rfl;have l2:=BL.cell (j:=2) rfl;have l3:=BL.cell (j:=3) rfl;have k0:=BH.cell (j:=0) rfl;have k1:=BH.cell (j:=1) rfl;have k2:=BH.cell (j:=2) rfl;have k3:=BH.cell (j:=3) rfl;have HB:=hid hb;clear hb;go_wp2_with fail
 clear r0 r1 r2 l0 l1 l2 l3 k0 k1 k2 k3;refine dSide_c.mono ?_;rintro e w2 ⟨hb2,⟨hn,rfl⟩ | ⟨hn,hs,rfl⟩ | ⟨hn,hs,rfl⟩⟩
 ·have HSG:Hid (rsB q i1 q1 i2 q2 q3=true):=by show _=_;rw [rsB,if_pos (HQ0.out.2 hn)]
  clear hn;have hal:=below_alloc (Below.refl w2.heap.size w2) (.cells #[.int .i64 0,.bool false,.slice none 0 0,.slice none 0 0] 42);have hb3:=hb2.trans (hal.mono hb2.size);replace HB:=hid (HB.out.trans (hb3.mono HB.out.size));clear hb2 hal hb3;go_wp2;go_ret;exact ⟨by rw [HSG.out];rfl,HB.out⟩
 ·have HSG:Hid (rsB q i1 q1 i2 q2 q3=(decide (i2=0) && decide (q2=q3))):=by
   have h0:q≠0:=fun e=>hn (HQ0.out.1 e)
   have h1:q<0:=by have h9:=HSN.out;rw [hs] at h9;exact of_decide_eq_true h9.symm
   show _=_;rw [rsB,if_neg h0,if_pos h1]
  clear hn hs;have hal:=below_alloc (Below.refl w2.heap.size w2) (.cells #[.int .i64 i2,.bool s2,.slice x2 n2 c2,.slice y2 m2 d2] 42);have hb3:=hb2.trans (hal.mono hb2.size);have BA3:=BA.below hb3;have t0:=BA3.cell (j:=0) rfl;have t1:=BA3.cell (j:=1) rfl;have t2:=BA3.cell (j:=2) rfl;replace HB:=hid (HB.out.trans (hb3.mono HB.out.size));have R:=hid (H3.out.below hb3);have E:=hid (H2.out.below hb3)
  clear hb2 hal hb3 BA3;by_cases hi:i2=0
  ·have HD:Hid (decide (i2=0)=true):=decide_eq_true hi;subst hi;have CS:=hid (sqB_val E.out R.out);go_wp2_with fail
   refine (dsameRat_c (a:=⟨s2,x2,n2,c2,f2,y2,m2,d2,g2⟩) (b:=⟨s3,x3,n3,c3,f3,y3,m3,d3,g3⟩) (NmV.nms (t:=⟨s2,x2,n2,c2,f2,y2,m2,d2,g2⟩) (q:=q2) E.out hL).1 (NmV.nms (t:=⟨s3,x3,n3,c3,f3,y3,m3,d3,g3⟩) (q:=q3) R.out hL).1).mono ?_;rintro e w4 ⟨rfl,hb4⟩;rw [CS.out];have HB4:=hid (HB.out.trans (hb4.mono HB.out.size));clear hb4 t0 t1 t2;go_wp2;go_ret;exact ⟨by rw [HSG.out,HD.out];rfl,HB4.out⟩
  ·have HD:Hid (decide (i2=0)=false):=decide_eq_false hi;have hi2:((i2:Int)==0)=false:=by simp [hi]
   go_wp2;go_ret;exact ⟨by rw [HSG.out,HD.out];rfl,HB.out⟩
 ·have HSG:Hid (rsB q i1 q1 i2 q2 q3=(decide (i1=0) && decide (q1=q3))):=by
   have h0:q≠0:=fun e=>hn (HQ0.out.1 e)
   have h1:¬q<0:=by have h9:=HSN.out;rw [hs] at h9;exact of_decide_eq_false h9.symm
   show _=_;rw [rsB,if_neg h0,if_neg h1]
  clear hn hs;have hal:=below_alloc (Below.refl w2.heap.size w2) (.cells #[.int .i64 i1,.bool s1,.slice x1 n1 c1,.slice y1 m1 d1] 42);have hb3:=hb2.trans (hal.mono hb2.size);have BA3:=BA.below hb3;have t0:=BA3.cell (j:=0) rfl;have t1:=BA3.cell (j:=1) rfl;have t2:=BA3.cell (j:=2) rfl;replace HB:=hid (HB.out.trans (hb3.mono HB.out.size));have R:=hid (H3.out.below hb3);have E:=hid (H1.out.below hb3)
  clear hb2 hal hb3 BA3;by_cases hi:i1=0
  ·have HD:Hid (decide (i1=0)=true):=decide_eq_true hi;subst hi;have CS:=hid (sqB_val E.out R.out);go_wp2_with fail
   refine (dsameRat_c (a:=⟨s1,x1,n1,c1,f1,y1,m1,d1,g1⟩) (b:=⟨s3,x3,n3,c3,f3,y3,m3,d3,g3⟩) (NmV.nms (t:=⟨s1,x1,n1,c1,f1,y1,m1,d1,g1⟩) (q:=q1) E.out hL).1 (NmV.nms (t:=⟨s3,x3,n3,c3,f3,y3,m3,d3,g3⟩) (q:=q3) R.out hL).1).mono ?_;rintro e w4 ⟨rfl,hb4⟩;rw [CS.out];have HB4:=hid (HB.out.trans (hb4.mono HB.out.size));clear hb4 t0 t1 t2;go_wp2;go_ret;exact ⟨by rw [HSG.out,HD.out];rfl,HB4.out⟩
  ·have HD:Hid (decide (i1=0)=false):=decide_eq_false hi;have hi2:((i1:Int)==0)=false:=by simp [hi]
   go_wp2;go_ret;exact ⟨by rw [HSG.out,HD.out];rfl,HB.out⟩
end Go.Proofs.YtdbbncamlaiajaaGreat
