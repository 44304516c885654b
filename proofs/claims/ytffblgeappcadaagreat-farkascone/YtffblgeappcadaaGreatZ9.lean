/-
 Walks of the document's reference for ext: Twin, From, To, Num, Low, High, Same, Form, Cmp, Max, Min. Walks of ext: allForm, Cmp, Max, Min, whatever they are handed. The number that a number in memory is; the walk of package model's above. Lists of places in memory; the walk of package model's Crossed (written by makers/f10.py). The walks of slices.Equal of limbs, and of package model's sameRat, sameExt, sameTerm. The walks of package model's sameExt, sameTerm, sameCol, sameRow, and of slices.EqualFunc with them (written by makers/f12.py). The walks of slices.EqualFunc of terms, columns and rows, and of package model's sameRow (written by makers/f13.py). The walks of Least, of package model and of the reference. The walks of package model's Least and Equal (written by makers/f14.py). The walks of the reference's Name, bounds and Least (written by makers/f16.py). The statements' looks at how long the numbers of lists are (light, Lights). The walk of the reference's Light of a model, whatever it is and however long (written by makers/f17.py). The walk of the reference's Twin of a list of terms. append of one struct to a row that may be as long as memory bears, and where the answer lies (written by makers/f18.py out of Ag and C3). No Go text is named here. The walk of the reference's Twin of a list of terms, however long (written by makers/f20.py out of C22). The walks of rat.Copy of any number, and of package model's copyTerms (written by makers/f15.py out of Q16 and C22). Lists of lists of terms; the walk of package model's Columns (written by makers/f19.py).
-/
import Derived.Test.YtffblgeappcadaaGreatZ7
import Derived.Test.YtffblgeappcadaaGreatZ8
import Derived.Test.YtffblgeappcadaaGreatZ6
import Derived.Test.YtffblgeappcadaaGreatZ0
import Derived.Deep.RegionHeld3
import Derived.BigQuiet
namespace Go.Proofs.YtffblgeappcadaaGreat
open Go.RowKit
structure Fn (w:World) (i:Int) (s:Bool) (x:Option Addr) (n:Nat) (d:Nat→Int) (y:Option Addr) (m:Nat) (g:Nat→Int) (q:Rat):Prop where
 qn:Qn w s x n d y m g q
 inf:i=0∨(i=-1∨i=1)∧q=0
theorem Fn.below {w w' i s x n d y m g q} (h:Fn w i s x n d y m g q) (hb:Below w.heap.size w w'):Fn w' i s x n d y m g q:=⟨h.qn.below hb,h.inf⟩
theorem Fn.alloc {w i s x n d y m g q} (h:Fn w i s x n d y m g q) (o:Obj):Fn (w.alloc o) i s x n d y m g q:=⟨h.qn.alloc o,h.inf⟩
set_option maxRecDepth 100000 in
set_option maxHeartbeats 4000000 in
theorem xTwin_c {w:World} {i:Int} {s:Bool} {x:Option Addr} {n c:Nat} {f:Nat→Int} {y:Option Addr} {m d:Nat} {g:Nat→Int} (h:Rw w x n c f y m d g) (hn:n≤17592186044416) (hm:m≤17592186044416) :
  Calls Tryz.prog 38 #[.agg #[.int .i64 i,.bool s,.slice x n c,.slice y m d]] w fun e w'=>∃z c' z2 c2,e=.returned (.agg #[.int .i64 i,.bool s,.slice z n c',.slice z2 m c2])∧Below w.heap.size w w'∧Rw w' z n c' f z2 m c2 g:=by
 have h1:=(bx4_at w (.int .i64 i) (.bool s) (.slice x n c) (.slice y m d) 60).alloc (.cells #[.int .i64 0,.bool false,.slice none 0 0,.slice none 0 0] 60);have h2:=ob4_new (w.alloc (.cells #[.int .i64 i,.bool s,.slice x n c,.slice y m d] 60)) 60;rw [size_alloc1] at h2;have h3:=below_alloc (below_alloc (Below.refl w.heap.size w) (.cells #[.int .i64 i,.bool s,.slice x n c,.slice y m d] 60)) (.cells #[.int .i64 0,.bool false,.slice none 0 0,.slice none 0 0] 60);have h4:=h.below h3;clear h;go_enter Tryz.func38,Tryz.ntmps38;go_wp2_with fail
 generalize (w.alloc (.cells #[.int .i64 i,.bool s,.slice x n c,.slice y m d] 60)).alloc (.cells #[.int .i64 0,.bool false,.slice none 0 0,.slice none 0 0] 60)=w1 at *;have HN:=hid h4;have OB:=hid h2;have HW:=hid h3
 obtain ⟨z,x0,x1,x2,x3⟩:=h1;obtain ⟨hz,z0,z1,z2,z3,zf⟩:=h2;clear h3 h4;have C1:Hid (∀W,Below w1.heap.size w1 W→Calls Tryz.prog 37 #[.agg #[.bool s,.slice x n c,.slice y m d]] W fun e w'=>∃z c' z2 c2,e=.returned (.agg #[.bool s,.slice z n c',.slice z2 m c2])∧Below W.heap.size W w'∧Hid (Rw w' z n c' f z2 m c2 g)):=fun W hW=>qTwin_c (HN.out.below hW) hn hm
 go_region_held3 (fun w'=>w'.cell? ⟨w.heap.size,0,none⟩=some (.int .i64 i)∧w'.cell? ⟨w.heap.size,1,none⟩=some (.bool s)∧w'.cell? ⟨w.heap.size,2,none⟩=some (.slice x n c)∧w'.cell? ⟨w.heap.size,3,none⟩=some (.slice y m d)∧(w'.cell? ⟨w.heap.size+1,0,none⟩).isSome=true∧(w'.cell? ⟨w.heap.size+1,1,none⟩).isSome=true∧(w'.cell? ⟨w.heap.size+1,2,none⟩).isSome=true∧(w'.cell? ⟨w.heap.size+1,3,none⟩).isSome=true∧w'.frozen? ⟨w.heap.size+1,0,none⟩=false∧w'.frozen? ⟨w.heap.size+1,1,none⟩=false∧w'.frozen? ⟨w.heap.size+1,2,none⟩=false∧w'.frozen? ⟨w.heap.size+1,3,none⟩=false)
  (refine ⟨?_,?_,?_,?_,?_,?_,?_,?_,?_,?_,?_,?_⟩ <;> repeat (with_reducible first | assumption | exact zf _ | exact tf _ | exact kI0 z0 | exact kI0 z1 | exact kI0 z2 | exact kI0 z3 | exact kI0 t0 | exact kI0 t1 | exact kI0 t2 | exact kI0 t3 | refine kCd ?_ | refine kId ?_ | refine kFd ?_ | refine kCs (by simp only [ne_eq];omega) ?_ | refine kIs ?_ | refine kFs ?_ | refine kCb (by assumption) ?_ | refine kIb (by assumption) ?_))
  (first | (go_at_call 37;with_reducible refine (C1.out _ belB).mono ?_;rintro e v5 ⟨z5,c5,y5,d5,rfl,hb5,H5⟩;have Tt:Ob4 v5 (w.heap.size+1):=(by repeat (with_reducible first | exact OB.out | refine Ob4.drew ?_ | refine kO4b (by assumption) ?_));obtain ⟨_,t0,t1,t2,t3,tf⟩:=id Tt))
 all_goals
  have hb:Below w1.heap.size w1 v5:=belB;go_wp2;exact bodyPost_ret (v:=.agg #[.int .i64 i,.bool s,.slice z5 n c5,.slice y5 m d5]) (by simp [results,Tryz.results38,go_sem,t0,t1,t2,t3]) rfl ⟨z5,c5,y5,d5,rfl,below_st4 (HW.out.trans (hb.mono HW.out.size)) (by omega),Tt.rw H5.out⟩
structure Li2 (w:World) (B:Nat) (a0 a1 a2 a3 b0 b1 b2 b3:Value):Prop where
 z:B<w.heap.size
 x0:w.cell? ⟨B,0,none⟩=some a0
 x1:w.cell? ⟨B,1,none⟩=some a1
 x2:w.cell? ⟨B,2,none⟩=some a2
 x3:w.cell? ⟨B,3,none⟩=some a3
 y0:w.cell? ⟨B,4,none⟩=some b0
 y1:w.cell? ⟨B,5,none⟩=some b1
 y2:w.cell? ⟨B,6,none⟩=some b2
 y3:w.cell? ⟨B,7,none⟩=some b3
theorem Li2.below {w w' B a0 a1 a2 a3 b0 b1 b2 b3} (h:Li2 w B a0 a1 a2 a3 b0 b1 b2 b3) (hb:Below w.heap.size w w'):Li2 w' B a0 a1 a2 a3 b0 b1 b2 b3:=⟨Nat.lt_of_lt_of_le h.z hb.size,kCb hb h.x0,kCb hb h.x1,kCb hb h.x2,kCb hb h.x3,kCb hb h.y0,kCb hb h.y1,kCb hb h.y2,kCb hb h.y3⟩
theorem li2_at (w:World) (a0 a1 a2 a3 b0 b1 b2 b3:Value) (t:TypeId):Li2 (w.alloc (.cells #[a0,a1,a2,a3,b0,b1,b2,b3] t)) w.heap.size a0 a1 a2 a3 b0 b1 b2 b3:=⟨by simp,by simp [go_sem],by simp [go_sem],by simp [go_sem],by simp [go_sem],by simp [go_sem],by simp [go_sem],by simp [go_sem],by simp [go_sem]⟩
set_option maxRecDepth 100000 in
set_option maxHeartbeats 4000000 in
theorem allForm2_c {w:World} {i1:Int} {s1:Bool} {x1:Option Addr} {n1 c1:Nat} {f1:Nat→Int} {y1:Option Addr} {m1 d1:Nat} {g1:Nat→Int} {i2:Int} {s2:Bool} {x2:Option Addr} {n2 c2:Nat} {f2:Nat→Int} {y2:Option Addr} {m2 d2:Nat} {g2:Nat→Int} {B:Nat} (hB:Li2 w B (.int .i64 i1) (.bool s1) (.slice x1 n1 c1) (.slice y1 m1 d1) (.int .i64 i2) (.bool s2) (.slice x2 n2 c2) (.slice y2 m2 d2)) (h1:Rw w x1 n1 c1 f1 y1 m1 d1 g1) (h2:Rw w x2 n2 c2 f2 y2 m2 d2 g2) (hn1:n1≤4096) (hm1:m1≤4096) (hn2:n2≤4096) (hm2:m2≤4096) :
  Calls Tryz.prog 109 #[.slice (some ⟨B,0,none⟩) 2 2] w fun e w'=>e=.returned (.bool (efB i1 s1 f1 n1 g1 m1 && efB i2 s2 f2 n2 g2 m2))∧Below w.heap.size w w':=by
 have HB:=hid hB;have HR1:=hid h1;have HR2:=hid h2
 obtain ⟨p,hp⟩:∃p,efB i1 s1 f1 n1 g1 m1=p:=⟨_,rfl⟩;obtain ⟨q,hq⟩:∃p,efB i2 s2 f2 n2 g2 m2=p:=⟨_,rfl⟩;have HP:=hid hp;have HQ:=hid hq
 rw [hp,hq];clear hB h1 h2 hp hq;go_enter Tryz.func109,Tryz.ntmps109;go_wp2;go_loopw [7] (fun t wr=>∃k:Nat,k≤2∧t=.int .i64 k∧Hid (Below w.heap.size w wr∧(0<k→p=true)∧(1<k→q=true))) (fun t _=>2-(intOf t).toNat)
 case atStart=>exact ⟨0,by omega,rfl,Below.refl _ _,fun h=>by omega,fun h=>by omega⟩
 case round =>
  obtain ⟨k,hk,rfl,HI⟩:=hrel;have HBr:=hid HI.out.1;rcases (show k=0∨k=1∨k=2 by omega) with rfl | rfl | rfl
  ·obtain ⟨z,e0,e1,e2,e3,_,_,_,_⟩:=HB.out.below HBr.out;have c1:=eForm_c (i:=i1) (s:=s1) ((HR1.out.below HBr.out).alloc (.cells #[.int .i64 i1,.bool s1,.slice x1 n1 c1,.slice y1 m1 d1] 60)) hn1 hm1;rw [HP.out] at c1;have C1:=hid c1;clear c1;cases p
   ·go_wp2_with fail
    refine C1.out.mono ?_;rintro e w2 ⟨rfl,hb⟩;have HW:=hid ((below_alloc HBr.out _).trans (hb.mono (below_alloc HBr.out _).size));clear hb;go_wp2;go_ret;exact ⟨rfl,HW.out⟩
   ·go_wp2_with fail
    refine C1.out.mono ?_;rintro e w2 ⟨rfl,hb⟩;have HW:=hid ((below_alloc HBr.out _).trans (hb.mono (below_alloc HBr.out _).size));clear hb;go_wp2;go_roundw
    case rel=>exact ⟨1,by omega,by go_num,HW.out,by simp,by simp⟩
    case measure=>simp [intOf]
  ·obtain ⟨z,_,_,_,_,e0,e1,e2,e3⟩:=HB.out.below HBr.out;have hpt:=HI.out.2.1 (by omega);subst hpt;have c1:=eForm_c (i:=i2) (s:=s2) ((HR2.out.below HBr.out).alloc (.cells #[.int .i64 i2,.bool s2,.slice x2 n2 c2,.slice y2 m2 d2] 60)) hn2 hm2;rw [HQ.out] at c1;have C1:=hid c1;clear c1;cases q
   ·go_wp2_with fail
    refine C1.out.mono ?_;rintro e w2 ⟨rfl,hb⟩;have HW:=hid ((below_alloc HBr.out _).trans (hb.mono (below_alloc HBr.out _).size));clear hb;go_wp2;go_ret;exact ⟨rfl,HW.out⟩
   ·go_wp2_with fail
    refine C1.out.mono ?_;rintro e w2 ⟨rfl,hb⟩;have HW:=hid ((below_alloc HBr.out _).trans (hb.mono (below_alloc HBr.out _).size));clear hb;go_wp2;go_roundw
    case rel=>exact ⟨2,by omega,by go_num,HW.out,by simp,by simp⟩
    case measure=>simp [intOf]
  ·have hpt:=HI.out.2.1 (by omega);have hqt:=HI.out.2.2 (by omega);subst hpt hqt;go_wp2;go_ret;exact ⟨rfl,HBr.out⟩
def OC (p:Bool) (i:Int) (a:Rat) (j:Int) (b:Rat) (r er:Int):Prop:=p=false∧er=3∧r=0∨p=true∧er=0∧EOrd r i a j b
set_option maxRecDepth 100000 in
set_option maxHeartbeats 4000000 in
theorem eCmp_g {w:World} {i1:Int} {s1:Bool} {x1:Option Addr} {n1 c1:Nat} {f1:Nat→Int} {y1:Option Addr} {m1 d1:Nat} {g1:Nat→Int} {i2:Int} {s2:Bool} {x2:Option Addr} {n2 c2:Nat} {f2:Nat→Int} {y2:Option Addr} {m2 d2:Nat} {g2:Nat→Int} {qa qb:Rat} {p1 p2:Bool} (h1:Rw w x1 n1 c1 f1 y1 m1 d1 g1) (h2:Rw w x2 n2 c2 f2 y2 m2 d2 g2) (hn1:n1≤100) (hm1:m1≤100) (hn2:n2≤100) (hm2:m2≤100) (hp1:efB i1 s1 f1 n1 g1 m1=p1) (hp2:efB i2 s2 f2 n2 g2 m2=p2) (hq1:p1=true→En 100 w i1 s1 x1 n1 c1 f1 y1 m1 d1 g1 qa) (hq2:p2=true→En 100 w i2 s2 x2 n2 c2 f2 y2 m2 d2 g2 qb) :
  Calls Tryz.prog 91 #[.agg #[.int .i64 i1,.bool s1,.slice x1 n1 c1,.slice y1 m1 d1],.agg #[.int .i64 i2,.bool s2,.slice x2 n2 c2,.slice y2 m2 d2]] w fun e w'=>∃r er,e=.returned (.tuple #[.int .i64 r,.int .i64 er])∧Below w.heap.size w w'∧Hid (OC (p1 && p2) i1 qa i2 qb r er):=by
 have HP1:=hid hp1;have HP2:=hid hp2
 have k1:=(bx4_at w (.int .i64 i1) (.bool s1) (.slice x1 n1 c1) (.slice y1 m1 d1) 60).alloc (.cells #[.int .i64 i2,.bool s2,.slice x2 n2 c2,.slice y2 m2 d2] 60);have k2:=bx4_at (w.alloc (.cells #[.int .i64 i1,.bool s1,.slice x1 n1 c1,.slice y1 m1 d1] 60)) (.int .i64 i2) (.bool s2) (.slice x2 n2 c2) (.slice y2 m2 d2) 60;rw [size_alloc1] at k2;have k3:=below_alloc (below_alloc (Below.refl w.heap.size w) (.cells #[.int .i64 i1,.bool s1,.slice x1 n1 c1,.slice y1 m1 d1] 60)) (.cells #[.int .i64 i2,.bool s2,.slice x2 n2 c2,.slice y2 m2 d2] 60);have HQ1:=hid (fun h=>(hq1 h).below k3);have HQ2:=hid (fun h=>(hq2 h).below k3);have HR1:=hid (h1.below k3);have HR2:=hid (h2.below k3)
 clear hp1 hp2 hq1 hq2 h1 h2;go_enter Tryz.func91,Tryz.ntmps91;go_upto_region 1 with fail
 generalize (w.alloc (.cells #[.int .i64 i1,.bool s1,.slice x1 n1 c1,.slice y1 m1 d1] 60)).alloc (.cells #[.int .i64 i2,.bool s2,.slice x2 n2 c2,.slice y2 m2 d2] 60)=w1 at *;have HW:=hid k3;have BA:=hid k1;have BB:=hid k2
 clear k1 k2 k3;obtain ⟨za,a0,a1,a2,a3⟩:=BA.out;obtain ⟨zb,b0,b1,b2,b3⟩:=BB.out;go_wp2_with fail
 have cf:=fun (t:TypeId)=>allForm2_c (li2_at w1 (.int .i64 i1) (.bool s1) (.slice x1 n1 c1) (.slice y1 m1 d1) (.int .i64 i2) (.bool s2) (.slice x2 n2 c2) (.slice y2 m2 d2) t) (HR1.out.alloc _) (HR2.out.alloc _) (by omega) (by omega) (by omega) (by omega)
 rw [HP1.out,HP2.out] at cf;refine (cf _).mono ?_;rintro e w2 ⟨rfl,hb⟩;have HB1:Hid (Below w1.heap.size w1 w2):=(below_alloc (Below.refl _ _) _).trans (hb.mono (by simp));have HB:=hid (HW.out.trans (HB1.out.mono HW.out.size));clear hb cf za a0 a1 a2 a3 zb b0 b1 b2 b3;obtain ⟨pp,hp⟩:∃pp,(p1 && p2)=pp:=⟨_,rfl⟩;have HPP:=hid hp;rw [hp];cases pp
 ·clear hp;go_wp2
  go_ret2
  exact ⟨0,3,rfl,HB.out,.inl ⟨HPP.out,rfl,rfl⟩⟩
 have hpp:p1=true∧p2=true:=by simpa using hp
 have E1:=hid ((HQ1.out hpp.1).below HB1.out);have E2:=hid ((HQ2.out hpp.2).below HB1.out)
 clear hp hpp;obtain ⟨za,a0,a1,a2,a3⟩:=BA.out.below HB1.out;obtain ⟨zb,b0,b1,b2,b3⟩:=BB.out.below HB1.out;by_cases hz:i1=0∧i2=0
 ·obtain ⟨rfl,rfl⟩:=hz;go_wp2_with fail
  refine (rCmp_n E1.out.rn E2.out.rn (by omega)).mono ?_;rintro e w3 ⟨r,rfl,hb,hr⟩;have HB3:=hid (HB.out.trans (hb.mono HB.out.size));have HRr:=hid hr
  clear hb hr;go_wp2
  go_ret2
  refine ⟨r,0,rfl,HB3.out,.inr ⟨HPP.out,rfl,?_⟩⟩;rcases HRr.out with ⟨j1,j2⟩ | ⟨j1,j2⟩ | ⟨j1,j2⟩
  ·exact .inl ⟨j1,.inr ⟨rfl,j2⟩⟩
  ·exact .inr (.inl ⟨j1,rfl,j2⟩)
  ·exact .inr (.inr ⟨j1,.inr ⟨rfl,j2⟩⟩)
 ·have hcase:(i1 != 0)=true∨(i1 != 0)=false∧(i2 != 0)=true:=by
   by_cases h:i1=0
   ·right;subst h;exact ⟨by simp,by simp;intro h;exact hz ⟨rfl,h⟩⟩
   ·left;simp;exact h
  have HEq:Hid (i1=i2→qa=qb):=by
   intro h;have j1:=E1.out.inf;have j2:=E2.out.inf
   rcases j1 with j1 | j1
   ·exact absurd ⟨j1,by omega⟩ hz
   ·rcases j2 with j2 | j2
    ·exact absurd ⟨by omega,j2⟩ hz
    ·rw [j1.2,j2.2]
  clear hz;rcases hcase with hc | ⟨hc,hc2⟩
  all_goals
   go_wp2_with fail
   refine compare_c.mono ?_;rintro e w3 ⟨r,rfl,rfl,hr⟩;have HRr:=hid hr;clear hr;go_wp2
   go_ret2
   refine ⟨r,0,rfl,HB.out,.inr ⟨HPP.out,rfl,?_⟩⟩;rcases HRr.out with ⟨j1,j2⟩ | ⟨j1,j2⟩ | ⟨j1,j2⟩
   ·exact .inl ⟨j1,.inl j2⟩
   ·exact .inr (.inl ⟨j1,j2,HEq.out j2⟩)
   ·exact .inr (.inr ⟨j1,.inl j2⟩)
def nq (t:Nm):Rat:=mkRat (wv t.s t.f t.n) (wv false t.g t.m).toNat
theorem Rn.nq {L w q} {t:Nm} (h:Rn L w t.s t.x t.n t.c t.f t.y t.m t.d t.g q):nq t=q:=by
 unfold Go.Proofs.YtffblgeappcadaaGreat.nq;rw [h.num.val,h.den.val,Int.toNat_natCast,Rat.mkRat_self]
def abvB (a b:Ex):Bool:=decide (b.i<a.i) || (decide (a.i=b.i) && decide (nq b.v<nq a.v))
theorem NmS.en {w:World} {e:Ex} (h:NmS w e.v) (hf:exF e=true) (hn:e.v.n≤100) (hm:e.v.m≤100):En 100 w e.i e.v.s e.v.x e.v.n e.v.c e.v.f e.v.y e.v.m e.v.d e.v.g (nq e.v):=by
 obtain ⟨q,hq⟩:=h.1.en hf hn hm;rw [hq.rn.nq];exact hq
theorem eord_abv {r:Int} {a b:Ex} (h:EOrd r a.i (nq a.v) b.i (nq b.v)):decide (r > 0)=abvB a b:=by
 unfold abvB;rcases h with ⟨rfl,h⟩ | ⟨rfl,h1,h2⟩ | ⟨rfl,h⟩
 ·rcases h with h | ⟨h1,h2⟩
  ·have e1:¬b.i<a.i:=by omega
   have e2:¬a.i=b.i:=by omega
   simp [e1,e2]
  ·have e1:¬b.i<a.i:=by omega
   have e2:¬nq b.v<nq a.v:=Rat.not_lt.2 (Rat.le_of_lt h2);simp [e1,e2]
 ·have e1:¬b.i<a.i:=by omega
  have e2:¬nq b.v<nq a.v:=by rw [h2];exact Rat.lt_irrefl
  simp [e1,e2]
 ·rcases h with h | ⟨h1,h2⟩
  ·simp [h]
  ·simp [h1,h2]
set_option maxRecDepth 100000 in
set_option maxHeartbeats 2000000 in
theorem above_c {w:World} {a b:Ex} (ha:NmS w a.v) (hb:NmS w b.v) (fa:exF a=true) (fb:exF b=true) (la:a.v.n≤100∧a.v.m≤100) (lb:b.v.n≤100∧b.v.m≤100) :
  Calls Tryz.prog 78 #[a.val,b.val] w fun r w'=>r=.returned (.bool (abvB a b))∧Below w.heap.size w w':=by
 have C:=hid (fun w' (hw:Below w.heap.size w w')=>eCmp_g (w:=w') (i1:=a.i) (s1:=a.v.s) (i2:=b.i) (s2:=b.v.s) (qa:=nq a.v) (qb:=nq b.v) (p1:=true) (p2:=true) (ha.below hw).1 (hb.below hw).1 la.1 la.2 lb.1 lb.2 fa fb (fun _=>(ha.below hw).en fa la.1 la.2) (fun _=>(hb.below hw).en fb lb.1 lb.2));have HO:=hid (fun (r er:Int) (h:OC (true && true) a.i (nq a.v) b.i (nq b.v) r er)=>(show decide (r > 0)=abvB a b from by
  rcases h with ⟨h,_⟩ | ⟨_,_,h⟩
  ·cases h
  ·exact eord_abv h))
 obtain ⟨t,ht⟩:∃t,abvB a b=t:=⟨_,rfl⟩;rw [ht] at HO ⊢;generalize nq a.v=qa at *;generalize nq b.v=qb at *;clear ha hb fa fb la lb ht;obtain ⟨i,⟨s,x,n,c,f,y,m,d,g⟩⟩:=a;obtain ⟨j,⟨s2,x2,n2,c2,f2,y2,m2,d2,g2⟩⟩:=b;replace C:Hid (∀w' (hw:Below w.heap.size w w'),Calls Tryz.prog 91 #[.agg #[.int .i64 i,.bool s,.slice x n c,.slice y m d],.agg #[.int .i64 j,.bool s2,.slice x2 n2 c2,.slice y2 m2 d2]] w' fun e w2=>∃r er,e=.returned (.tuple #[.int .i64 r,.int .i64 er])∧Below w'.heap.size w' w2∧Hid (OC (true && true) i qa j qb r er)):=C;replace HO:Hid (∀(r er:Int),OC (true && true) i qa j qb r er→decide (r > 0)=t):=HO;show Calls Tryz.prog 78 #[.agg #[.int .i64 i,.bool s,.slice x n c,.slice y m d],.agg #[.int .i64 j,.bool s2,.slice x2 n2 c2,.slice y2 m2 d2]] w _;go_enter Tryz.func78,Tryz.ntmps78;go_wp2_with fail
 have HB0:=hid (below_alloc (below_alloc (Below.refl w.heap.size w) (.cells #[.int .i64 i,.bool s,.slice x n c,.slice y m d] 60)) (.cells #[.int .i64 j,.bool s2,.slice x2 n2 c2,.slice y2 m2 d2] 60));refine (C.out _ HB0.out).mono ?_;rintro e w1 ⟨r,er,rfl,hb1,HOC⟩;have HB1:=hid (HB0.out.trans (hb1.mono HB0.out.size));have HR:=hid (HO.out r er HOC.out);clear hb1 HB0 HO HOC C;go_wp2;go_ret;refine ⟨?_,HB1.out⟩;rw [←HR.out];rfl
theorem Tryz.infoInt:(Tryz.prog.info? 3).map (fun i=>(i.zero,i.size,i.bytes))=some (some (.int .i64 0),1,8):=by kernel_rfl
theorem onei (s:Int):∀u ∈ (#[Value.int .i64 s]:Array Value).toList,u.oneCell'=true:=by
 intro u hu;simp at hu;subst hu;rfl
theorem noti (s:Int):∀u ∈ (#[Value.int .i64 s]:Array Value).toList,∀q,u≠.int .u64 q:=by
 intro u hu q;simp at hu;subst hu;simp
theorem nzi:NoU (Value.int .i64 0).cells:=nou_list (l:=[Value.int .i64 0]) (noti 0)
def Il (w:World) (ao:Option Addr) (l:List Int):Prop:=∀j v,l[j]?=some v→∃b o,ao=some ⟨b,o,none⟩∧w.cell? ⟨b,o+j,none⟩=some (.int .i64 v)
theorem Il.below {w w' ao l} (h:Il w ao l) (hb:Below w.heap.size w w'):Il w' ao l:=fun j v e=>by
 obtain ⟨b,o,e1,h1⟩:=h j v e;exact ⟨b,o,e1,kCb hb h1⟩
def ils (l:List Int):List Value:=l.map (Value.int .i64)
theorem rowg_il {e:TypeId} {base:Nat} {w:World} {ao:Option Addr} {cap:Nat} {l:List Int} (h:RowG e 1 base w (.slice ao l.length cap) l.length (ils l)):Il w ao l:=fun j v hj=>by
 have hlt:j<l.length:=(List.getElem?_eq_some_iff.1 hj).1;rcases h.2 with ⟨hv,h0⟩ | ⟨g,cap',cur,hv,_⟩
 ·omega
 ·cases hv
  refine ⟨g,0,rfl,?_⟩;rw [Nat.zero_add];exact h.cells (by simp [ils,hj])
def crl (B:Nat→Bool):Nat→List Int
 | 0=>[]
 | i+1=>crl B i++(if B i then [(i:Int)] else [])
theorem crl_len (B:Nat→Bool):∀i,(crl B i).length≤i
 | 0=>Nat.le_refl _
 | i+1=>by
  have:=crl_len B i;unfold crl;rw [List.length_append]
  split <;> simp <;> omega
theorem crl_yes {B:Nat→Bool} {i:Nat} (h:B i=true):crl B (i+1)=crl B i++[(i:Int)]:=by simp [crl,h]
theorem crl_no {B:Nat→Bool} {i:Nat} (h:B i=false):crl B (i+1)=crl B i:=by simp [crl,h]
def ccB (C:Nat→Lc) (j:Nat):Bool:=abvB (C j).lo (C j).hi
def rcB (R:Nat→Lr) (j:Nat):Bool:=abvB (R j).lo (R j).hi
structure MoB (M:Mo):Prop where
 c:∀j,j<M.ck→((M.C j).lo.v.n≤100∧(M.C j).lo.v.m≤100)∧(M.C j).hi.v.n≤100∧(M.C j).hi.v.m≤100
 r:∀j,j<M.rk→((M.R j).lo.v.n≤100∧(M.R j).lo.v.m≤100)∧(M.R j).hi.v.n≤100∧(M.R j).hi.v.m≤100
theorem clsB_at {C:Nat→Lc}:∀{r i:Nat},clsB C r i=true→∀j,i≤j→j<i+r→nfB (C j).cost=true∧abB (C j).lo (C j).hi=true
 | 0,i,_,j,h1,h2=>by omega
 | r+1,i,h,j,h1,h2=>by
  simp only [clsB,Bool.and_eq_true] at h;by_cases e:j=i
  ·subst e;exact ⟨h.1,h.2.1⟩
  ·exact clsB_at h.2.2 j (by omega) (by omega)
theorem rlsB_at {R:Nat→Lr}:∀{r i:Nat},rlsB R r i=true→∀j,i≤j→j<i+r→abB (R j).lo (R j).hi=true∧tfB (R j).tk (R j).col (R j).T=true
 | 0,i,_,j,h1,h2=>by omega
 | r+1,i,h,j,h1,h2=>by
  simp only [rlsB,Bool.and_eq_true] at h;by_cases e:j=i
  ·subst e;exact ⟨h.1,h.2.1⟩
  ·exact rlsB_at h.2.2 j (by omega) (by omega)
theorem abB_ok {a b:Ex} (h:abB a b=true):exF a=true∧exF b=true∧a.i≠1∧b.i ≠ -1:=by
 simp only [abB,Bool.and_eq_true,decide_eq_true_eq] at h;exact ⟨h.1,h.2.1,h.2.2.1,h.2.2.2⟩
def CrAns (w w':World) (e:Ending) (M:Mo):Prop :=
 (chkE M≠0∧e=.returned (.tuple #[.slice none 0 0,.slice none 0 0,.int .i64 (chkE M)])∧Below w.heap.size w w') ∨
 (chkE M=0∧∃xa xc ya yc,e=.returned (.tuple #[.slice xa (crl (ccB M.C) M.ck).length xc,.slice ya (crl (rcB M.R) M.rk).length yc,.int .i64 0])∧Below w.heap.size w w'∧Il w' xa (crl (ccB M.C) M.ck)∧Il w' ya (crl (rcB M.R) M.rk))
set_option maxRecDepth 100000 in
set_option maxHeartbeats 4000000 in
theorem crossed_c {w:World} {M:Mo} (h:MoW w M) (hm:M.ck≤64→M.rk≤64→MoB M):Calls Tryz.prog 50 #[M.val] w fun r w'=>CrAns w w' r M:=by
 have CC:=hid (fun w' (hw:Below w.heap.size w w')=>check_w (w:=w') (h.below hw));obtain ⟨e,he⟩:∃e,chkE M=e:=⟨_,rfl⟩;rw [he] at CC;by_cases h0:e=0
 case neg =>
  have HA:Hid (∀w',Below w.heap.size w w'→CrAns w w' (.returned (.tuple #[.slice none 0 0,.slice none 0 0,.int .i64 e])) M):=fun w' hw=>.inl ⟨by rw [he];exact h0,by rw [he],hw⟩
  have hne:(e != 0)=true:=by simpa using h0
  clear he h hm;obtain ⟨⟨s,x,n,c,f,y,m,d,g⟩,ca,ck,cc,C,ra,rk,rc,R⟩:=M;replace CC:Hid (∀w',Below w.heap.size w w'→Calls Tryz.prog 27 #[.agg #[.bool s,.slice x n c,.slice y m d,.slice ca ck cc,.slice ra rk rc]] w' fun e' w2=>e'=.returned (.int .i64 e)∧Below w'.heap.size w' w2):=CC;show Calls Tryz.prog 50 #[.agg #[.bool s,.slice x n c,.slice y m d,.slice ca ck cc,.slice ra rk rc]] w _;go_enter Tryz.func50,Tryz.ntmps50;go_wp2_with fail
  have HB:=hid (below_alloc (Below.refl w.heap.size w) (.cells #[.bool s,.slice x n c,.slice y m d,.slice ca ck cc,.slice ra rk rc] 28));refine (CC.out _ HB.out).mono ?_;rintro r w1 ⟨rfl,hb1⟩;have HB1:=hid (HB.out.trans (hb1.mono HB.out.size));clear hb1 HB CC;go_wp2
  go_ret3
  exact HA.out _ HB1.out
 subst h0;obtain ⟨l1,l2,hF,_⟩:=chkE_ok he;obtain ⟨ho,hC,hR,hck,hrk⟩:=h l1 l2;obtain ⟨hmc,hmr⟩:=hm l1 l2;simp only [moF,Bool.and_eq_true] at hF;have HFC:=hid (show ∀j,j<M.ck→abB (M.C j).lo (M.C j).hi=true from fun j hj=>(clsB_at hF.2.1 j (by omega) (by omega)).2);have HFR:=hid (show ∀j,j<M.rk→abB (M.R j).lo (M.R j).hi=true from fun j hj=>(rlsB_at hF.2.2 j (by omega) (by omega)).1);have HA:Hid (∀w' xa xc ya yc,Below w.heap.size w w'→Il w' xa (crl (ccB M.C) M.ck)→Il w' ya (crl (rcB M.R) M.rk)→CrAns w w' (.returned (.tuple #[.slice xa (crl (ccB M.C) M.ck).length xc,.slice ya (crl (rcB M.R) M.rk).length yc,.int .i64 0])) M):=fun w' xa xc ya yc hw h1 h2=>.inr ⟨he,xa,xc,ya,yc,rfl,hw,h1,h2⟩
 generalize hP:(fun e w'=>CrAns w w' e M)=P;have HA2:Hid (∀w' xa xc ya yc,Below w.heap.size w w'→Il w' xa (crl (ccB M.C) M.ck)→Il w' ya (crl (rcB M.R) M.rk)→P (.returned (.tuple #[.slice xa (crl (ccB M.C) M.ck).length xc,.slice ya (crl (rcB M.R) M.rk).length yc,.int .i64 0])) w'):=by
  subst hP;exact HA
 clear he h hm ho hF HA hP;obtain ⟨⟨s,x,n,c,f,y,m,d,g⟩,ca,ck,cc,C,ra,rk,rc,R⟩:=M;replace l1:ck≤64:=l1;replace l2:rk≤64:=l2;have HC:Hid (Cls w ca ck C):=hC;have HRL:Hid (Rls w ra rk R):=hR;replace HFC:Hid (∀j,j<ck→abB (C j).lo (C j).hi=true):=HFC;replace HFR:Hid (∀j,j<rk→abB (R j).lo (R j).hi=true):=HFR;have HMC:Hid (∀j,j<ck→((C j).lo.v.n≤100∧(C j).lo.v.m≤100)∧(C j).hi.v.n≤100∧(C j).hi.v.m≤100):=hmc;have HMR:Hid (∀j,j<rk→((R j).lo.v.n≤100∧(R j).lo.v.m≤100)∧(R j).hi.v.n≤100∧(R j).hi.v.m≤100):=hmr;replace HA2:Hid (∀w' xa xc ya yc,Below w.heap.size w w'→Il w' xa (crl (ccB C) ck)→Il w' ya (crl (rcB R) rk)→P (.returned (.tuple #[.slice xa (crl (ccB C) ck).length xc,.slice ya (crl (rcB R) rk).length yc,.int .i64 0])) w'):=HA2;replace CC:Hid (∀w',Below w.heap.size w w'→Calls Tryz.prog 27 #[.agg #[.bool s,.slice x n c,.slice y m d,.slice ca ck cc,.slice ra rk rc]] w' fun e w2=>e=.returned (.int .i64 0)∧Below w'.heap.size w' w2):=CC;clear hC hR hck hrk hmc hmr;show Calls Tryz.prog 50 #[.agg #[.bool s,.slice x n c,.slice y m d,.slice ca ck cc,.slice ra rk rc]] w _;go_enter Tryz.func50,Tryz.ntmps50;go_wp2_with fail
 have HB:=hid (below_alloc (Below.refl w.heap.size w) (.cells #[.bool s,.slice x n c,.slice y m d,.slice ca ck cc,.slice ra rk rc] 28));refine (CC.out _ HB.out).mono ?_;rintro r w1 ⟨rfl,hb1⟩;have k3:=kCb hb1 (a:=⟨w.heap.size,3,none⟩) (v:=.slice ca ck cc) (by simp [go_sem]);have HK4:=hid (kCb hb1 (a:=⟨w.heap.size,4,none⟩) (v:=.slice ra rk rc) (by simp [go_sem]));have HB1:=hid (HB.out.trans (hb1.mono HB.out.size));clear hb1 HB CC;go_wp2_with fail
 go_loopw [6,20] (fun ov t wr=>∃(i:Nat),i≤ck∧t=.int .i64 i∧Hid (Below w1.heap.size w1 wr)∧Hid (RowG 3 1 w1.heap.size wr ov (crl (ccB C) i).length (ils (crl (ccB C) i)))) (fun _ t _=>ck-(intOf t).toNat)
 case atStart=>exact ⟨0,by omega,rfl,Below.refl _ _,rowG_nil _ _ _ _⟩
 case round =>
  obtain ⟨i,hi,rfl,HB,HRow⟩:=hrel;by_cases hlt:i<ck
  ·obtain ⟨b,o,rfl,hc,hn⟩:=(HC.out.below (HB1.out.trans (HB.out.mono HB1.out.size))) i hlt;obtain ⟨t1,ht1⟩:∃t,ccB C i=t:=⟨_,rfl⟩;obtain ⟨fa,fb,_,_⟩:=abB_ok (HFC.out i hlt);have CA:=hid (fun w' (hw:Below wr.heap.size wr w')=>above_c (w:=w') (hn.lo.below hw) (hn.hi.below hw) fa fb (HMC.out i hlt).1 (HMC.out i hlt).2);rw [show abvB (C i).lo (C i).hi=t1 from ht1] at CA;have hln:=crl_len (ccB C) i;obtain ⟨⟨z,⟨s0,x0,n0,c0,f0,y0,m0,d0,g0⟩,⟨i1,⟨s1,x1,n1,c1,f1,y1,m1,d1,g1⟩⟩,⟨i2,⟨s2,x2,n2,c2,f2,y2,m2,d2,g2⟩⟩⟩,hCi⟩:∃t,C i=t:=⟨_,rfl⟩;rw [hCi] at hc CA;replace CA:Hid (∀w' (hw:Below wr.heap.size wr w'),Calls Tryz.prog 78 #[.agg #[.int .i64 i1,.bool s1,.slice x1 n1 c1,.slice y1 m1 d1],.agg #[.int .i64 i2,.bool s2,.slice x2 n2 c2,.slice y2 m2 d2]] w' fun r w2=>r=.returned (.bool t1)∧Below w'.heap.size w' w2):=CA;have q0:wr.cell? ⟨b,o+i*12,none⟩=some (.string z):=hc 0 _ rfl;have q1:wr.cell? ⟨b,o+i*12+1,none⟩=some (.bool s0):=hc 1 _ rfl;have q2:wr.cell? ⟨b,o+i*12+2,none⟩=some (.slice x0 n0 c0):=hc 2 _ rfl;have q3:wr.cell? ⟨b,o+i*12+3,none⟩=some (.slice y0 m0 d0):=hc 3 _ rfl;have q4:wr.cell? ⟨b,o+i*12+4,none⟩=some (.int .i64 i1):=hc 4 _ rfl;have q5:wr.cell? ⟨b,o+i*12+5,none⟩=some (.bool s1):=hc 5 _ rfl;have q6:wr.cell? ⟨b,o+i*12+6,none⟩=some (.slice x1 n1 c1):=hc 6 _ rfl;have q7:wr.cell? ⟨b,o+i*12+7,none⟩=some (.slice y1 m1 d1):=hc 7 _ rfl;have q8:wr.cell? ⟨b,o+i*12+8,none⟩=some (.int .i64 i2):=hc 8 _ rfl;have q9:wr.cell? ⟨b,o+i*12+9,none⟩=some (.bool s2):=hc 9 _ rfl;have q10:wr.cell? ⟨b,o+i*12+10,none⟩=some (.slice x2 n2 c2):=hc 10 _ rfl;have q11:wr.cell? ⟨b,o+i*12+11,none⟩=some (.slice y2 m2 d2):=hc 11 _ rfl;have HT1:=hid ht1;have i1':((i:Nat):Int)<((ck:Nat):Int):=by omega
   clear hCi hc hn fa fb ht1;go_wp2_with fail
   have HB2:=hid (below_alloc (Below.refl wr.heap.size wr) (.cells #[.string z,.bool s0,.slice x0 n0 c0,.slice y0 m0 d0,.int .i64 i1,.bool s1,.slice x1 n1 c1,.slice y1 m1 d1,.int .i64 i2,.bool s2,.slice x2 n2 c2,.slice y2 m2 d2] 62));refine (CA.out _ HB2.out).mono ?_;rintro r w6 ⟨rfl,hb2⟩;have HB3:=HB2.out.trans (hb2.mono HB2.out.size);have HRow5:=hid (HRow.out.below HB3);have HB5':=hid (HB.out.trans (HB3.mono HB.out.size))
   clear hb2 HB2 HB3 CA HB HRow q0 q1 q2 q3 q4 q5 q6 q7 q8 q9 q10 q11;cases t1
   ·go_wp2;go_roundw
    case rel=>exact ⟨i+1,by omega,by go_num,HB5'.out,by show RowG _ _ _ _ _ _ _;rw [crl_no HT1.out];exact HRow5.out⟩
    case measure=>simp [intOf];omega
   ·have hsz:=HB5'.out.size;go_wp2_with (at_builtin;go_must (refine wpList_append_one w6 rfl (.tmp 30) (.tmp 32) 93 rfl w1.heap.size 3 8 1 (.int .i64 0) Tryz.underlying93 Tryz.infoInt rfl (by decide) nzi u6 (crl (ccB C) i).length (ils (crl (ccB C) i)) rfl HRow5.out #[.int .i64 (i:Int)] rfl rfl (onei _) (noti _) ?p1 (by decide) hsz ?_))
    case p1=>omega
    intro g8 cap8 w8 hr8 hk8 hb8 hg8;have HB8:=hid (hb8 w1 HB5'.out (Nat.le_refl _));have HR8:Hid (RowG 3 1 w1.heap.size w8 (.slice (some ⟨g8,0,none⟩) ((crl (ccB C) i).length+1) cap8) (crl (ccB C) (i+1)).length (ils (crl (ccB C) (i+1)))):=by
     show RowG _ _ _ _ _ _ _;rw [crl_yes HT1.out];simpa [ils] using hr8
    clear hr8 hk8 hb8 hg8 HRow5 HB5' hsz;go_wp2;go_roundw
    case rel=>exact ⟨i+1,by omega,by go_num,HB8.out,HR8.out⟩
    case measure=>simp [intOf];omega
  ·have e1:i=ck:=by omega
   have i2:¬(((i:Nat):Int)<((ck:Nat):Int)):=by omega
   rw [e1] at HRow;obtain ⟨xa,xc,rfl⟩:=HRow.out.slice;have k4:=kCb HB.out HK4.out;have HB5:=hid (HB1.out.trans (HB.out.mono HB1.out.size));have HSX:=hid (rowg_il HRow.out);clear e1 HB HC HK4 HB1 HRow k3;generalize wr=wa at *;go_wp2_with fail
   go_loopw [7,38] (fun ov t wr=>∃(i:Nat),i≤rk∧t=.int .i64 i∧Hid (Below wa.heap.size wa wr)∧Hid (RowG 3 1 wa.heap.size wr ov (crl (rcB R) i).length (ils (crl (rcB R) i)))) (fun _ t _=>rk-(intOf t).toNat)
   case atStart=>exact ⟨0,by omega,rfl,Below.refl _ _,rowG_nil _ _ _ _⟩
   case round =>
    obtain ⟨i,hi,rfl,HB,HRow⟩:=hrel;by_cases hlt:i<rk
    ·obtain ⟨b,o,rfl,hc,hn⟩:=(HRL.out.below (HB5.out.trans (HB.out.mono HB5.out.size))) i hlt;obtain ⟨t1,ht1⟩:∃t,rcB R i=t:=⟨_,rfl⟩;obtain ⟨fa,fb,_,_⟩:=abB_ok (HFR.out i hlt);have CA:=hid (fun w' (hw:Below wr.heap.size wr w')=>above_c (w:=w') (hn.lo.below hw) (hn.hi.below hw) fa fb (HMR.out i hlt).1 (HMR.out i hlt).2);rw [show abvB (R i).lo (R i).hi=t1 from ht1] at CA;have hln:=crl_len (rcB R) i;obtain ⟨⟨z,⟨i1,⟨s1,x1,n1,c1,f1,y1,m1,d1,g1⟩⟩,⟨i2,⟨s2,x2,n2,c2,f2,y2,m2,d2,g2⟩⟩,ta,tk,tc,tcol,tt⟩,hCi⟩:∃t,R i=t:=⟨_,rfl⟩;rw [hCi] at hc CA;replace CA:Hid (∀w' (hw:Below wr.heap.size wr w'),Calls Tryz.prog 78 #[.agg #[.int .i64 i1,.bool s1,.slice x1 n1 c1,.slice y1 m1 d1],.agg #[.int .i64 i2,.bool s2,.slice x2 n2 c2,.slice y2 m2 d2]] w' fun r w2=>r=.returned (.bool t1)∧Below w'.heap.size w' w2):=CA;have q0:wr.cell? ⟨b,o+i*10,none⟩=some (.string z):=hc 0 _ rfl;have q1:wr.cell? ⟨b,o+i*10+1,none⟩=some (.int .i64 i1):=hc 1 _ rfl;have q2:wr.cell? ⟨b,o+i*10+2,none⟩=some (.bool s1):=hc 2 _ rfl;have q3:wr.cell? ⟨b,o+i*10+3,none⟩=some (.slice x1 n1 c1):=hc 3 _ rfl;have q4:wr.cell? ⟨b,o+i*10+4,none⟩=some (.slice y1 m1 d1):=hc 4 _ rfl;have q5:wr.cell? ⟨b,o+i*10+5,none⟩=some (.int .i64 i2):=hc 5 _ rfl;have q6:wr.cell? ⟨b,o+i*10+6,none⟩=some (.bool s2):=hc 6 _ rfl;have q7:wr.cell? ⟨b,o+i*10+7,none⟩=some (.slice x2 n2 c2):=hc 7 _ rfl;have q8:wr.cell? ⟨b,o+i*10+8,none⟩=some (.slice y2 m2 d2):=hc 8 _ rfl;have q9:wr.cell? ⟨b,o+i*10+9,none⟩=some (.slice ta tk tc):=hc 9 _ rfl;have HT1:=hid ht1;have i1':((i:Nat):Int)<((rk:Nat):Int):=by omega
     clear hCi hc hn fa fb ht1;go_wp2_with fail
     have HB2:=hid (below_alloc (Below.refl wr.heap.size wr) (.cells #[.string z,.int .i64 i1,.bool s1,.slice x1 n1 c1,.slice y1 m1 d1,.int .i64 i2,.bool s2,.slice x2 n2 c2,.slice y2 m2 d2,.slice ta tk tc] 65));refine (CA.out _ HB2.out).mono ?_;rintro r w6 ⟨rfl,hb2⟩;have HB3:=HB2.out.trans (hb2.mono HB2.out.size);have HRow5:=hid (HRow.out.below HB3);have HB5':=hid (HB.out.trans (HB3.mono HB.out.size))
     clear hb2 HB2 HB3 CA HB HRow q0 q1 q2 q3 q4 q5 q6 q7 q8 q9;cases t1
     ·go_wp2;go_roundw
      case rel=>exact ⟨i+1,by omega,by go_num,HB5'.out,by show RowG _ _ _ _ _ _ _;rw [crl_no HT1.out];exact HRow5.out⟩
      case measure=>simp [intOf];omega
     ·have hsz:=HB5'.out.size;go_wp2_with (at_builtin;go_must (refine wpList_append_one w6 rfl (.tmp 48) (.tmp 50) 93 rfl wa.heap.size 3 8 1 (.int .i64 0) Tryz.underlying93 Tryz.infoInt rfl (by decide) nzi u7 (crl (rcB R) i).length (ils (crl (rcB R) i)) rfl HRow5.out #[.int .i64 (i:Int)] rfl rfl (onei _) (noti _) ?p1 (by decide) hsz ?_))
      case p1=>omega
      intro g8 cap8 w8 hr8 hk8 hb8 hg8;have HB8:=hid (hb8 wa HB5'.out (Nat.le_refl _));have HR8:Hid (RowG 3 1 wa.heap.size w8 (.slice (some ⟨g8,0,none⟩) ((crl (rcB R) i).length+1) cap8) (crl (rcB R) (i+1)).length (ils (crl (rcB R) (i+1)))):=by
       show RowG _ _ _ _ _ _ _;rw [crl_yes HT1.out];simpa [ils] using hr8
      clear hr8 hk8 hb8 hg8 HRow5 HB5' hsz;go_wp2;go_roundw
      case rel=>exact ⟨i+1,by omega,by go_num,HB8.out,HR8.out⟩
      case measure=>simp [intOf];omega
    ·have e1:i=rk:=by omega
     have i2:¬(((i:Nat):Int)<((rk:Nat):Int)):=by omega
     rw [e1] at HRow;obtain ⟨ya,yc,rfl⟩:=HRow.out.slice;have HB6:=hid (HB5.out.trans (HB.out.mono HB5.out.size));have HSY:=hid (rowg_il HRow.out);have HSX2:=hid (HSX.out.below HB.out);clear e1 HB HRow HSX;go_wp2
     go_ret3
     exact HA2.out _ _ _ _ _ HB6.out HSX2.out HSY.out
def Lc.val (c:Lc):Value:=.agg c.vs.toArray
def Ex.vs (e:Ex):List Value:=[.int .i64 e.i,.bool e.v.s,.slice e.v.x e.v.n e.v.c,.slice e.v.y e.v.m e.v.d]
def Lr.val (c:Lr):Value:=.agg c.vs.toArray
def lstep (l e:Int):Int:=if l=0∨e≠0∧e<l then e else l
def lsf (E:Nat→Int):Nat→Int
 | 0=>0
 | i+1=>lstep (lsf E i) (E i)
def El (w:World) (ao:Option Addr) (k:Nat) (E:Nat→Int):Prop:=∀j,j<k→∃b o,ao=some ⟨b,o,none⟩∧w.cell? ⟨b,o+j,none⟩=some (.int .i64 (E j))
set_option maxRecDepth 100000 in
set_option maxHeartbeats 2000000 in
theorem least_c {w:World} {ao:Option Addr} {k cap:Nat} {E:Nat→Int} (h:El w ao k E) (hk:k≤1048576) :
  Calls Tryz.prog 26 #[.slice ao k cap] w fun e w'=>e=.returned (.int .i64 (lsf E k))∧w'=w:=by
 have H:=hid h;clear h;go_enter Tryz.func26,Tryz.ntmps26;go_wp2_with fail
 go_loopw [3,8] (fun l t wr=>∃(i:Nat) (v:Int),i≤k∧t=.int .i64 i∧l=.int .i64 v∧wr=w∧Hid (lsf E i=v)) (fun _ t _=>k-(intOf t).toNat)
 case atStart=>exact ⟨0,0,by omega,rfl,rfl,rfl,rfl⟩
 case round =>
  obtain ⟨i,v,hi,rfl,rfl,rfl,HI⟩:=hrel;by_cases hlt:i<k
  ·obtain ⟨b,o,rfl,hc⟩:=H.out i hlt;obtain ⟨e,he⟩:∃e,E i=e:=⟨_,rfl⟩;have hT:lsf E (i+1)=lstep v e:=by show lstep (lsf E i) (E i)=_;rw [HI.out,he]
   rw [he] at hc;have i1:((i:Nat):Int)<((k:Nat):Int):=by omega
   clear he;by_cases h0:v=0
   ·subst h0;have HT:=hid (show lsf E (i+1)=e from by rw [hT];simp [lstep]);clear hT;go_wp2;go_roundw
    case rel=>exact ⟨i+1,e,by omega,by go_num,rfl,trivial,HT.out⟩
    case measure=>simp [intOf];omega
   ·have e0:(v==0)=false:=by simpa using h0
    by_cases h1:e=0
    ·subst h1;have HT:=hid (show lsf E (i+1)=v from by rw [hT];simp [lstep,h0]);clear hT;go_wp2;go_roundw
     case rel=>exact ⟨i+1,v,by omega,by go_num,rfl,trivial,HT.out⟩
     case measure=>simp [intOf];omega
    ·have e2:(e != 0)=true:=by simp [h1]
     by_cases h2:e<v
     ·have HT:=hid (show lsf E (i+1)=e from by rw [hT];simp [lstep,h1,h2]);clear hT;go_wp2;go_roundw
      case rel=>exact ⟨i+1,e,by omega,by go_num,rfl,trivial,HT.out⟩
      case measure=>simp [intOf];omega
     ·have HT:=hid (show lsf E (i+1)=v from by rw [hT];simp [lstep,h0,h2]);clear hT;go_wp2;go_roundw
      case rel=>exact ⟨i+1,v,by omega,by go_num,rfl,trivial,HT.out⟩
      case measure=>simp [intOf];omega
  ·have e1:i=k:=by omega
   have i2:¬(((i:Nat):Int)<((k:Nat):Int)):=by omega
   rw [e1] at HI;clear e1;go_wp2;go_ret;refine ⟨?_,rfl⟩;rw [HI.out];rfl
def two (a b:Int) (j:Nat):Int:=if j=0 then a else b
theorem two_el {w:World} {a b:Int} {t:TypeId}:El (w.alloc (.cells #[.int .i64 a,.int .i64 b] t)) (some ⟨w.heap.size,0,none⟩) 2 (two a b):=fun j hj=>by
 refine ⟨_,0,rfl,?_⟩
 match j,hj with
 | 0,_=>simp [go_sem,two]
 | 1,_=>simp [go_sem,two]
theorem two_zero {a b:Int} (h:lsf (two a b) 2=0):a=0∧b=0:=by
 have h':lstep (lstep 0 a) b=0:=h;have e:lstep 0 a=a:=by simp [lstep]
 rw [e] at h';unfold lstep at h'
 split at h' <;> omega
theorem rLightK_c (K:Nat) (s:Bool) (x y:Option Addr) (n c m d:Nat) (w:World) :
  Calls Tryz.prog 7 #[.agg #[.bool s,.slice x n c,.slice y m d],.int .i64 K] w fun e w'=>e=.returned (.bool (lg n m K))∧Below w.heap.size w w':=by
 by_cases h1:n≤K
 ·have d1:decide ((n:Int)≤(K:Int))=true:=by simp;omega
  by_cases h2:m≤K
  ·have d2:decide ((m:Int)≤(K:Int))=true:=by simp;omega
   rw [show lg n m K=true by simp [lg,h1,h2]];go_enter Tryz.func7,Tryz.ntmps7;go_wp2;go_ret;exact ⟨rfl,below_alloc (Below.refl _ _) _⟩
  ·have d2:decide ((m:Int)≤(K:Int))=false:=by simp;omega
   rw [show lg n m K=false by simp [lg,h2]];go_enter Tryz.func7,Tryz.ntmps7;go_wp2;go_ret;exact ⟨rfl,below_alloc (Below.refl _ _) _⟩
 ·have d1:decide ((n:Int)≤(K:Int))=false:=by simp;omega
  rw [show lg n m K=false by simp [lg,h1]];go_enter Tryz.func7,Tryz.ntmps7;go_wp2;go_ret;exact ⟨rfl,below_alloc (Below.refl _ _) _⟩
def Tr (w:World) (ao:Option Addr) (k:Nat) (col:Nat→Int) (T:Nat→Nm):Prop :=
 ∀j,j<k→∃b o,ao=some ⟨b,o,none⟩∧C4 w b (o+j*4) (.int .i64 (col j)) (.bool (T j).s) (.slice (T j).x (T j).n (T j).c) (.slice (T j).y (T j).m (T j).d)∧Rw w (T j).x (T j).n (T j).c (T j).f (T j).y (T j).m (T j).d (T j).g
def Rr (w:World) (ao:Option Addr) (k:Nat) (X:Nat→Nm):Prop :=
 ∀j,j<k→∃b o,ao=some ⟨b,o,none⟩∧C3 w b (o+j*3) (.bool (X j).s) (.slice (X j).x (X j).n (X j).c) (.slice (X j).y (X j).m (X j).d)∧Rw w (X j).x (X j).n (X j).c (X j).f (X j).y (X j).m (X j).d (X j).g
theorem Tr.below {w w' ao k col T} (h:Tr w ao k col T) (hb:Below w.heap.size w w'):Tr w' ao k col T:=fun j hj=>by
 obtain ⟨b,o,e,h1,h2⟩:=h j hj;exact ⟨b,o,e,h1.below hb,h2.below hb⟩
theorem Rr.below {w w' ao k X} (h:Rr w ao k X) (hb:Below w.heap.size w w'):Rr w' ao k X:=fun j hj=>by
 obtain ⟨b,o,e,h1,h2⟩:=h j hj;exact ⟨b,o,e,h1.below hb,h2.below hb⟩
def nlg (K:Nat) (X:Nat→Nm):Nat→Nat→Bool
 | 0,_=>true
 | r+1,i=>lg (X i).n (X i).m K && nlg K X r (i+1)
theorem nlg_all {K:Nat} {X:Nat→Nm}:∀{r i:Nat},nlg K X r i=true→∀j,i≤j→j<i+r→(X j).n≤K∧(X j).m≤K:=by
 intro r
 induction r with
 | zero=>intro i _ j h1 h2;omega
 | succ r ih =>
  intro i h j hj hj2;simp only [nlg,lg,Bool.and_eq_true,decide_eq_true_eq] at h;by_cases e:j=i
  ·subst e;exact h.1
  ·exact ih h.2 j (by omega) (by omega)
theorem Tr.tl {w ao k col T} {K:Nat} (h:Tr w ao k col T) (hl:nlg K T k 0=true) (hK:K≤65536):Tl w ao k col T:=fun j hj=>by
 obtain ⟨b,o,e,h1,h2⟩:=h j hj;obtain ⟨h3,h4⟩:=nlg_all hl j (by omega) (by omega);exact ⟨b,o,e,h1,h2,by omega,by omega⟩
theorem Rr.rl {w ao k X} {K:Nat} (h:Rr w ao k X) (hl:nlg K X k 0=true) (hK:K≤65536):Rl w ao k X:=fun j hj=>by
 obtain ⟨b,o,e,h1,h2⟩:=h j hj;obtain ⟨h3,h4⟩:=nlg_all hl j (by omega) (by omega);exact ⟨b,o,e,h1,h2,by omega,by omega⟩
set_option maxRecDepth 100000 in
set_option maxHeartbeats 4000000 in
theorem rLights_c {w:World} {ao:Option Addr} {k cap:Nat} {X:Nat→Nm} (K:Nat) (h:Rr w ao k X) (hk:k≤9223372036854775807) :
  Calls Tryz.prog 22 #[.slice ao k cap,.int .i64 K] w fun e w'=>e=.returned (.bool (decide (k≤300) && nlg K X k 0))∧Below w.heap.size w w':=by
 have H:=hid h;clear h;by_cases h300:k≤300
 ·have i0:¬((300:Int)<((k:Nat):Int)):=by omega
  rw [show (decide (k≤300) && nlg K X k 0)=nlg K X k 0 by simp [h300]];go_enter Tryz.func22,Tryz.ntmps22;go_wp2_with fail
  go_loopw [12] (fun t wr=>∃(i:Nat),i≤k∧t=.int .i64 i∧Hid (Below w.heap.size w wr)∧Hid (nlg K X k 0=nlg K X (k-i) i)) (fun t _=>k-(intOf t).toNat)
  case atStart=>exact ⟨0,by omega,rfl,Below.refl _ _,rfl⟩
  case round =>
   obtain ⟨i,hi,rfl,HB,HT⟩:=hrel;by_cases hlt:i<k
   ·obtain ⟨b,o,rfl,hc,hn⟩:=(H.out.below HB.out) i hlt;obtain ⟨r,hr⟩:∃r,k-i=r+1:=⟨k-i-1,by omega⟩;have hT:nlg K X k 0=(lg (X i).n (X i).m K && nlg K X r (i+1)):=by rw [HT.out,hr];rfl
    have hr2:k-(i+1)=r:=by omega
    obtain ⟨⟨s,x,n,c,f,y,m,d,g⟩,hTi⟩:∃t,X i=t:=⟨_,rfl⟩;rw [hTi] at hc hn hT;obtain ⟨x0,x1,x2⟩:=hc;replace x0:wr.cell? ⟨b,o+i*3,none⟩=some (.bool s):=x0;replace x1:wr.cell? ⟨b,o+i*3+1,none⟩=some (.slice x n c):=x1;replace x2:wr.cell? ⟨b,o+i*3+2,none⟩=some (.slice y m d):=x2;have HTi:=hid hT;have HR2:=hid hr2
    have i1:((i:Nat):Int)<((k:Nat):Int):=by omega
    clear hT hr2 hTi hr hn;go_wp2_with fail
    refine (rLightK_c K s x y n c m d _).mono ?_;rintro e w1 ⟨rfl,hb1⟩;obtain ⟨_,_,_,_,hb2⟩:=box3 hb1;have HB2:=hid (HB.out.trans (hb2.mono HB.out.size));clear hb1 hb2;cases hf:lg n m K
    ·have HF:=hid hf;clear hf;go_wp2;go_ret;refine ⟨?_,HB2.out⟩;rw [HTi.out];show _=Ending.returned (.bool (lg n m K && _));rw [HF.out];rfl
    ·have HF:=hid hf;clear hf;go_wp2;go_roundw
     case rel =>
      refine ⟨i+1,by omega,by go_num,HB2.out,?_⟩;show _=_;rw [HTi.out,HR2.out];show (lg n m K && _)=_;rw [HF.out];rfl
     case measure=>simp [intOf];omega
   ·have e1:i=k:=by omega
    have HTe:Hid (nlg K X k 0=true):=by
     show _=_;rw [HT.out,e1,Nat.sub_self];rfl
    have i2:¬(((i:Nat):Int)<((k:Nat):Int)):=by omega
    clear e1 HT;go_wp2;go_ret;refine ⟨?_,HB.out⟩;rw [HTe.out];rfl
 ·have i0:(300:Int)<((k:Nat):Int):=by omega
  rw [show (decide (k≤300) && nlg K X k 0)=false by simp [h300]];go_enter Tryz.func22,Tryz.ntmps22;go_wp2;go_ret;exact ⟨rfl,Below.refl _ _⟩
def Cl0 (w:World) (ao:Option Addr) (k:Nat) (C:Nat→Lc):Prop:=∀j,j<k→∃b o,ao=some ⟨b,o,none⟩∧Cs w b (o+j*12) (C j).vs
def Rl0 (w:World) (ao:Option Addr) (k:Nat) (R:Nat→Lr):Prop:=∀j,j<k→∃b o,ao=some ⟨b,o,none⟩∧Cs w b (o+j*10) (R j).vs∧Tr w (R j).ta (R j).tk (R j).col (R j).T∧(R j).tk≤9223372036854775807
theorem Cl0.below {w w' ao k C} (h:Cl0 w ao k C) (hb:Below w.heap.size w w'):Cl0 w' ao k C:=fun j hj=>by
 obtain ⟨b,o,e,h1⟩:=h j hj;exact ⟨b,o,e,h1.below hb⟩
theorem Rl0.below {w w' ao k R} (h:Rl0 w ao k R) (hb:Below w.heap.size w w'):Rl0 w' ao k R:=fun j hj=>by
 obtain ⟨b,o,e,h1,h2,h3⟩:=h j hj;exact ⟨b,o,e,h1.below hb,h2.below hb,h3⟩
def lgN (K:Nat) (t:Nm):Bool:=lg t.n t.m K
def cl3 (K:Nat) (c:Lc):Bool:=lgN K c.cost && (lgN K c.lo.v && lgN K c.hi.v)
def rl3 (K:Nat) (r:Lr):Bool:=decide (r.tk≤300) && (lgN K r.lo.v && (lgN K r.hi.v && nlg K r.T r.tk 0))
def clgs (K:Nat) (C:Nat→Lc):Nat→Bool
 | 0=>true
 | i+1=>clgs K C i && cl3 K (C i)
def rlgs (K:Nat) (R:Nat→Lr):Nat→Bool
 | 0=>true
 | i+1=>rlgs K R i && rl3 K (R i)
def lgM (K:Nat) (M:Mo):Bool:=(decide (64<M.ck) || decide (64<M.rk)) || (lgN K M.off && (clgs K M.C M.ck && rlgs K M.R M.rk))
set_option maxRecDepth 100000 in
set_option maxHeartbeats 4000000 in
theorem mLight_c {w:World} {M:Mo} {K:Nat} (hC:Cl0 w M.ca M.ck M.C) (hR:Rl0 w M.ra M.rk M.R):Calls Tryz.prog 5 #[M.val,.int .i64 K] w fun r w'=>r=.returned (.bool (lgM K M))∧Below w.heap.size w w':=by
 obtain ⟨⟨s,x,n,c,f,y,m,d,g⟩,ca,ck,cc,C,ra,rk,rc,R⟩:=M;have HC:Hid (Cl0 w ca ck C):=hC;have HRL:Hid (Rl0 w ra rk R):=hR;obtain ⟨v0,hv0⟩:∃z,lgN K ⟨s,x,n,c,f,y,m,d,g⟩=z:=⟨_,rfl⟩;obtain ⟨ans,hans⟩:∃z,lgM K ⟨⟨s,x,n,c,f,y,m,d,g⟩,ca,ck,cc,C,ra,rk,rc,R⟩=z:=⟨_,rfl⟩;rw [hans];have HA:=hid (show ans=((decide (64<ck) || decide (64<rk)) || (v0 && (clgs K C ck && rlgs K R rk))) from by rw [←hans,←hv0];rfl);have C0:Hid (∀w',Calls Tryz.prog 7 #[.agg #[.bool s,.slice x n c,.slice y m d],.int .i64 K] w' fun e w2=>e=.returned (.bool v0)∧Below w'.heap.size w' w2):=fun w'=>hv0 ▸ rLightK_c K s x y n c m d w'
 clear hv0 hans hC hR;show Calls Tryz.prog 5 #[.agg #[.bool s,.slice x n c,.slice y m d,.slice ca ck cc,.slice ra rk rc],.int .i64 K] w _;by_cases h1:64<ck
 ·have HV:Hid (ans=true):=by show _=_;rw [HA.out];simp [h1]
  have e1:(ck:Int) > 64:=by omega
  clear HA h1;go_enter Tryz.func5,Tryz.ntmps5;go_wp2;go_ret;refine ⟨?_,below_alloc (Below.refl _ _) _⟩;rw [HV.out];rfl
 by_cases h2:64<rk
 ·have HV:Hid (ans=true):=by show _=_;rw [HA.out];simp [h2]
  have e1:¬(ck:Int) > 64:=by omega
  have e2:(rk:Int) > 64:=by omega
  clear HA h1 h2;go_enter Tryz.func5,Tryz.ntmps5;go_wp2;go_ret;refine ⟨?_,below_alloc (Below.refl _ _) _⟩;rw [HV.out];rfl
 have HV:Hid (ans=(v0 && (clgs K C ck && rlgs K R rk))):=by show _=_;rw [HA.out];simp [h1,h2]
 have e1:¬(ck:Int) > 64:=by omega
 have e2:¬(rk:Int) > 64:=by omega
 have l1:ck≤64:=by omega
 have l2:rk≤64:=by omega
 clear HA h1 h2;go_enter Tryz.func5,Tryz.ntmps5;go_wp2_with fail
 refine (C0.out _).mono ?_;rintro r w1 ⟨rfl,hb1⟩;have k3:=kCb hb1 (a:=⟨w.heap.size,3,none⟩) (v:=.slice ca ck cc) (by simp [go_sem]);have HK4:=hid (kCb hb1 (a:=⟨w.heap.size,4,none⟩) (v:=.slice ra rk rc) (by simp [go_sem]));have HB1:=hid ((below_alloc (Below.refl w.heap.size w) (.cells #[.bool s,.slice x n c,.slice y m d,.slice ca ck cc,.slice ra rk rc] 28)).trans (hb1.mono (by simp)));clear hb1 C0;go_wp2_with fail
 go_loopw [5,28] (fun ov t wr=>∃(i:Nat) (v:Bool),i≤ck∧t=.int .i64 i∧ov=.bool v∧Hid (Below w1.heap.size w1 wr)∧Hid (v=(v0 && clgs K C i))) (fun _ t _=>ck-(intOf t).toNat)
 case atStart=>exact ⟨0,v0,by omega,rfl,rfl,Below.refl _ _,by show _=_;simp [clgs]⟩
 case round =>
  obtain ⟨i,v,hi,rfl,rfl,HB,HI⟩:=hrel;by_cases hlt:i<ck
  ·obtain ⟨b,o,rfl,hc⟩:=(HC.out.below (HB1.out.trans (HB.out.mono HB1.out.size))) i hlt;obtain ⟨t1,ht1⟩:∃t,lgN K (C i).cost=t:=⟨_,rfl⟩;obtain ⟨t2,ht2⟩:∃t,lgN K (C i).lo.v=t:=⟨_,rfl⟩;obtain ⟨t3,ht3⟩:∃t,lgN K (C i).hi.v=t:=⟨_,rfl⟩;have HT:=hid (show (v0 && clgs K C (i+1))=(v && (t1 && (t2 && t3))) from by
    rw [HI.out,←ht1,←ht2,←ht3];show (v0 && (clgs K C i && cl3 K (C i)))=_;rw [Bool.and_assoc];rfl)
   obtain ⟨⟨z,⟨s0,x0,n0,c0,f0,y0,m0,d0,g0⟩,⟨i1,⟨s1,x1,n1,c1,f1,y1,m1,d1,g1⟩⟩,⟨i2,⟨s2,x2,n2,c2,f2,y2,m2,d2,g2⟩⟩⟩,hCi⟩:∃t,C i=t:=⟨_,rfl⟩;rw [hCi] at hc ht1 ht2 ht3;have C1:Hid (∀w',Calls Tryz.prog 7 #[.agg #[.bool s0,.slice x0 n0 c0,.slice y0 m0 d0],.int .i64 K] w' fun e w2=>e=.returned (.bool t1)∧Below w'.heap.size w' w2):=fun w'=>ht1 ▸ rLightK_c K s0 x0 y0 n0 c0 m0 d0 w'
   have C2:Hid (∀w',Calls Tryz.prog 7 #[.agg #[.bool s1,.slice x1 n1 c1,.slice y1 m1 d1],.int .i64 K] w' fun e w2=>e=.returned (.bool t2)∧Below w'.heap.size w' w2):=fun w'=>ht2 ▸ rLightK_c K s1 x1 y1 n1 c1 m1 d1 w'
   have C3:Hid (∀w',Calls Tryz.prog 7 #[.agg #[.bool s2,.slice x2 n2 c2,.slice y2 m2 d2],.int .i64 K] w' fun e w2=>e=.returned (.bool t3)∧Below w'.heap.size w' w2):=fun w'=>ht3 ▸ rLightK_c K s2 x2 y2 n2 c2 m2 d2 w'
   have q0:wr.cell? ⟨b,o+i*12,none⟩=some (.string z):=hc 0 _ rfl;have q1:wr.cell? ⟨b,o+i*12+1,none⟩=some (.bool s0):=hc 1 _ rfl;have q2:wr.cell? ⟨b,o+i*12+2,none⟩=some (.slice x0 n0 c0):=hc 2 _ rfl;have q3:wr.cell? ⟨b,o+i*12+3,none⟩=some (.slice y0 m0 d0):=hc 3 _ rfl;have q4:wr.cell? ⟨b,o+i*12+4,none⟩=some (.int .i64 i1):=hc 4 _ rfl;have q5:wr.cell? ⟨b,o+i*12+5,none⟩=some (.bool s1):=hc 5 _ rfl;have q6:wr.cell? ⟨b,o+i*12+6,none⟩=some (.slice x1 n1 c1):=hc 6 _ rfl;have q7:wr.cell? ⟨b,o+i*12+7,none⟩=some (.slice y1 m1 d1):=hc 7 _ rfl;have q8:wr.cell? ⟨b,o+i*12+8,none⟩=some (.int .i64 i2):=hc 8 _ rfl;have q9:wr.cell? ⟨b,o+i*12+9,none⟩=some (.bool s2):=hc 9 _ rfl;have q10:wr.cell? ⟨b,o+i*12+10,none⟩=some (.slice x2 n2 c2):=hc 10 _ rfl;have q11:wr.cell? ⟨b,o+i*12+11,none⟩=some (.slice y2 m2 d2):=hc 11 _ rfl;have i1':((i:Nat):Int)<((ck:Nat):Int):=by omega
   have hb5:=below_alloc (Below.refl wr.heap.size wr) (.cells #[.string z,.bool s0,.slice x0 n0 c0,.slice y0 m0 d0,.int .i64 i1,.bool s1,.slice x1 n1 c1,.slice y1 m1 d1,.int .i64 i2,.bool s2,.slice x2 n2 c2,.slice y2 m2 d2] 62);have HB5:=hid (HB.out.trans (hb5.mono HB.out.size));have b1:(wr.alloc (.cells #[.string z,.bool s0,.slice x0 n0 c0,.slice y0 m0 d0,.int .i64 i1,.bool s1,.slice x1 n1 c1,.slice y1 m1 d1,.int .i64 i2,.bool s2,.slice x2 n2 c2,.slice y2 m2 d2] 62)).cell? ⟨wr.heap.size,1,none⟩=some (.bool s0):=by simp [go_sem]
   have b2:(wr.alloc (.cells #[.string z,.bool s0,.slice x0 n0 c0,.slice y0 m0 d0,.int .i64 i1,.bool s1,.slice x1 n1 c1,.slice y1 m1 d1,.int .i64 i2,.bool s2,.slice x2 n2 c2,.slice y2 m2 d2] 62)).cell? ⟨wr.heap.size,2,none⟩=some (.slice x0 n0 c0):=by simp [go_sem]
   have b3:(wr.alloc (.cells #[.string z,.bool s0,.slice x0 n0 c0,.slice y0 m0 d0,.int .i64 i1,.bool s1,.slice x1 n1 c1,.slice y1 m1 d1,.int .i64 i2,.bool s2,.slice x2 n2 c2,.slice y2 m2 d2] 62)).cell? ⟨wr.heap.size,3,none⟩=some (.slice y0 m0 d0):=by simp [go_sem]
   have b5:(wr.alloc (.cells #[.string z,.bool s0,.slice x0 n0 c0,.slice y0 m0 d0,.int .i64 i1,.bool s1,.slice x1 n1 c1,.slice y1 m1 d1,.int .i64 i2,.bool s2,.slice x2 n2 c2,.slice y2 m2 d2] 62)).cell? ⟨wr.heap.size,5,none⟩=some (.bool s1):=by simp [go_sem]
   have b6:(wr.alloc (.cells #[.string z,.bool s0,.slice x0 n0 c0,.slice y0 m0 d0,.int .i64 i1,.bool s1,.slice x1 n1 c1,.slice y1 m1 d1,.int .i64 i2,.bool s2,.slice x2 n2 c2,.slice y2 m2 d2] 62)).cell? ⟨wr.heap.size,6,none⟩=some (.slice x1 n1 c1):=by simp [go_sem]
   have b7:(wr.alloc (.cells #[.string z,.bool s0,.slice x0 n0 c0,.slice y0 m0 d0,.int .i64 i1,.bool s1,.slice x1 n1 c1,.slice y1 m1 d1,.int .i64 i2,.bool s2,.slice x2 n2 c2,.slice y2 m2 d2] 62)).cell? ⟨wr.heap.size,7,none⟩=some (.slice y1 m1 d1):=by simp [go_sem]
   have b9:(wr.alloc (.cells #[.string z,.bool s0,.slice x0 n0 c0,.slice y0 m0 d0,.int .i64 i1,.bool s1,.slice x1 n1 c1,.slice y1 m1 d1,.int .i64 i2,.bool s2,.slice x2 n2 c2,.slice y2 m2 d2] 62)).cell? ⟨wr.heap.size,9,none⟩=some (.bool s2):=by simp [go_sem]
   have b10:(wr.alloc (.cells #[.string z,.bool s0,.slice x0 n0 c0,.slice y0 m0 d0,.int .i64 i1,.bool s1,.slice x1 n1 c1,.slice y1 m1 d1,.int .i64 i2,.bool s2,.slice x2 n2 c2,.slice y2 m2 d2] 62)).cell? ⟨wr.heap.size,10,none⟩=some (.slice x2 n2 c2):=by simp [go_sem]
   have b11:(wr.alloc (.cells #[.string z,.bool s0,.slice x0 n0 c0,.slice y0 m0 d0,.int .i64 i1,.bool s1,.slice x1 n1 c1,.slice y1 m1 d1,.int .i64 i2,.bool s2,.slice x2 n2 c2,.slice y2 m2 d2] 62)).cell? ⟨wr.heap.size,11,none⟩=some (.slice y2 m2 d2):=by simp [go_sem]
   clear hCi ht1 ht2 ht3 hc hb5 HI;go_upto_region 7 with fail
   clear q0 q1 q2 q3 q4 q5 q6 q7 q8 q9 q10 q11 HB;generalize wr.alloc (.cells #[.string z,.bool s0,.slice x0 n0 c0,.slice y0 m0 d0,.int .i64 i1,.bool s1,.slice x1 n1 c1,.slice y1 m1 d1,.int .i64 i2,.bool s2,.slice x2 n2 c2,.slice y2 m2 d2] 62)=w5 at *;cases v
   ·go_wp2;go_roundw
    case rel=>exact ⟨i+1,false,by omega,by go_num,rfl,HB5.out,by show _=_;rw [HT.out];rfl⟩
    case measure=>simp [intOf];omega
   ·go_wp2_with fail
    refine (C1.out _).mono ?_;rintro r w6 ⟨rfl,hb6⟩;replace b5:=kCb hb6 b5;replace b6:=kCb hb6 b6;replace b7:=kCb hb6 b7;replace b9:=kCb hb6 b9;replace b10:=kCb hb6 b10;replace b11:=kCb hb6 b11;have HB6:=hid (HB5.out.trans (hb6.mono HB5.out.size));clear hb6 C1 HB5;cases t1
    ·go_wp2;go_roundw
     case rel=>exact ⟨i+1,false,by omega,by go_num,rfl,HB6.out,by show _=_;rw [HT.out];rfl⟩
     case measure=>simp [intOf];omega
    go_wp2_with fail
    refine (C2.out _).mono ?_;rintro r w7 ⟨rfl,hb7⟩;replace b9:=kCb hb7 b9;replace b10:=kCb hb7 b10;replace b11:=kCb hb7 b11;have HB7:=hid (HB6.out.trans (hb7.mono HB6.out.size));clear hb7 C2 HB6;cases t2
    ·go_wp2;go_roundw
     case rel=>exact ⟨i+1,false,by omega,by go_num,rfl,HB7.out,by show _=_;rw [HT.out];rfl⟩
     case measure=>simp [intOf];omega
    go_wp2_with fail
    refine (C3.out _).mono ?_;rintro r w8 ⟨rfl,hb8⟩;have HB8:=hid (HB7.out.trans (hb8.mono HB7.out.size));clear hb8 C3 HB7;cases t3
    ·go_wp2;go_roundw
     case rel=>exact ⟨i+1,false,by omega,by go_num,rfl,HB8.out,by show _=_;rw [HT.out];rfl⟩
     case measure=>simp [intOf];omega
    go_wp2;go_roundw
    case rel=>exact ⟨i+1,true,by omega,by go_num,rfl,HB8.out,by show _=_;rw [HT.out];rfl⟩
    case measure=>simp [intOf];omega
  ·have e3:i=ck:=by omega
   have i2:¬(((i:Nat):Int)<((ck:Nat):Int)):=by omega
   have HV1:=hid (show ans=(v && rlgs K R rk) from by rw [HV.out,HI.out,e3,Bool.and_assoc]);have k4:=kCb HB.out HK4.out;have HB5:=hid (HB1.out.trans (HB.out.mono HB1.out.size));clear e3 HB HC HK4 HB1 k3 HI HV;generalize wr=wa at *;go_wp2_with fail
   go_loopw [5,57] (fun ov t wr=>∃(i:Nat) (u:Bool),i≤rk∧t=.int .i64 i∧ov=.bool u∧Hid (Below wa.heap.size wa wr)∧Hid (u=(v && rlgs K R i))) (fun _ t _=>rk-(intOf t).toNat)
   case atStart=>exact ⟨0,v,by omega,rfl,rfl,Below.refl _ _,by show _=_;simp [rlgs]⟩
   case round =>
    obtain ⟨i,u,hi,rfl,rfl,HB,HI⟩:=hrel;by_cases hlt:i<rk
    ·obtain ⟨b,o,rfl,hc,hTr,htk⟩:=(HRL.out.below (HB5.out.trans (HB.out.mono HB5.out.size))) i hlt;obtain ⟨t2,ht2⟩:∃t,lgN K (R i).lo.v=t:=⟨_,rfl⟩;obtain ⟨t3,ht3⟩:∃t,lgN K (R i).hi.v=t:=⟨_,rfl⟩;have hT:(v && rlgs K R (i+1))=(u && (decide ((R i).tk≤300) && (t2 && (t3 && nlg K (R i).T (R i).tk 0)))):=by
      rw [HI.out,←ht2,←ht3];show (v && (rlgs K R i && rl3 K (R i)))=_;rw [Bool.and_assoc];rfl
     obtain ⟨⟨z,⟨i1,⟨s1,x1,n1,c1,f1,y1,m1,d1,g1⟩⟩,⟨i2,⟨s2,x2,n2,c2,f2,y2,m2,d2,g2⟩⟩,ta,tk,tc,tcol,tt⟩,hCi⟩:∃t,R i=t:=⟨_,rfl⟩;rw [hCi] at hc ht2 ht3 hTr htk hT;have HT:Hid ((v && rlgs K R (i+1))=(u && (decide (tk≤300) && (t2 && (t3 && nlg K tt tk 0))))):=hT;replace htk:tk≤9223372036854775807:=htk;have C2:Hid (∀w',Calls Tryz.prog 7 #[.agg #[.bool s1,.slice x1 n1 c1,.slice y1 m1 d1],.int .i64 K] w' fun e w2=>e=.returned (.bool t2)∧Below w'.heap.size w' w2):=fun w'=>ht2 ▸ rLightK_c K s1 x1 y1 n1 c1 m1 d1 w'
     have C3:Hid (∀w',Calls Tryz.prog 7 #[.agg #[.bool s2,.slice x2 n2 c2,.slice y2 m2 d2],.int .i64 K] w' fun e w2=>e=.returned (.bool t3)∧Below w'.heap.size w' w2):=fun w'=>ht3 ▸ rLightK_c K s2 x2 y2 n2 c2 m2 d2 w'
     have q0:wr.cell? ⟨b,o+i*10,none⟩=some (.string z):=hc 0 _ rfl;have q1:wr.cell? ⟨b,o+i*10+1,none⟩=some (.int .i64 i1):=hc 1 _ rfl;have q2:wr.cell? ⟨b,o+i*10+2,none⟩=some (.bool s1):=hc 2 _ rfl;have q3:wr.cell? ⟨b,o+i*10+3,none⟩=some (.slice x1 n1 c1):=hc 3 _ rfl;have q4:wr.cell? ⟨b,o+i*10+4,none⟩=some (.slice y1 m1 d1):=hc 4 _ rfl;have q5:wr.cell? ⟨b,o+i*10+5,none⟩=some (.int .i64 i2):=hc 5 _ rfl;have q6:wr.cell? ⟨b,o+i*10+6,none⟩=some (.bool s2):=hc 6 _ rfl;have q7:wr.cell? ⟨b,o+i*10+7,none⟩=some (.slice x2 n2 c2):=hc 7 _ rfl;have q8:wr.cell? ⟨b,o+i*10+8,none⟩=some (.slice y2 m2 d2):=hc 8 _ rfl;have q9:wr.cell? ⟨b,o+i*10+9,none⟩=some (.slice ta tk tc):=hc 9 _ rfl;have i1':((i:Nat):Int)<((rk:Nat):Int):=by omega
     have hb5:=below_alloc (Below.refl wr.heap.size wr) (.cells #[.string z,.int .i64 i1,.bool s1,.slice x1 n1 c1,.slice y1 m1 d1,.int .i64 i2,.bool s2,.slice x2 n2 c2,.slice y2 m2 d2,.slice ta tk tc] 65);have HB6:=hid (HB.out.trans (hb5.mono HB.out.size));have HTr:Hid (Tr (wr.alloc (.cells #[.string z,.int .i64 i1,.bool s1,.slice x1 n1 c1,.slice y1 m1 d1,.int .i64 i2,.bool s2,.slice x2 n2 c2,.slice y2 m2 d2,.slice ta tk tc] 65)) ta tk tcol tt):=Tr.below hTr hb5;have b2:(wr.alloc (.cells #[.string z,.int .i64 i1,.bool s1,.slice x1 n1 c1,.slice y1 m1 d1,.int .i64 i2,.bool s2,.slice x2 n2 c2,.slice y2 m2 d2,.slice ta tk tc] 65)).cell? ⟨wr.heap.size,2,none⟩=some (.bool s1):=by simp [go_sem]
     have b3:(wr.alloc (.cells #[.string z,.int .i64 i1,.bool s1,.slice x1 n1 c1,.slice y1 m1 d1,.int .i64 i2,.bool s2,.slice x2 n2 c2,.slice y2 m2 d2,.slice ta tk tc] 65)).cell? ⟨wr.heap.size,3,none⟩=some (.slice x1 n1 c1):=by simp [go_sem]
     have b4:(wr.alloc (.cells #[.string z,.int .i64 i1,.bool s1,.slice x1 n1 c1,.slice y1 m1 d1,.int .i64 i2,.bool s2,.slice x2 n2 c2,.slice y2 m2 d2,.slice ta tk tc] 65)).cell? ⟨wr.heap.size,4,none⟩=some (.slice y1 m1 d1):=by simp [go_sem]
     have b6:(wr.alloc (.cells #[.string z,.int .i64 i1,.bool s1,.slice x1 n1 c1,.slice y1 m1 d1,.int .i64 i2,.bool s2,.slice x2 n2 c2,.slice y2 m2 d2,.slice ta tk tc] 65)).cell? ⟨wr.heap.size,6,none⟩=some (.bool s2):=by simp [go_sem]
     have b7:(wr.alloc (.cells #[.string z,.int .i64 i1,.bool s1,.slice x1 n1 c1,.slice y1 m1 d1,.int .i64 i2,.bool s2,.slice x2 n2 c2,.slice y2 m2 d2,.slice ta tk tc] 65)).cell? ⟨wr.heap.size,7,none⟩=some (.slice x2 n2 c2):=by simp [go_sem]
     have b8:(wr.alloc (.cells #[.string z,.int .i64 i1,.bool s1,.slice x1 n1 c1,.slice y1 m1 d1,.int .i64 i2,.bool s2,.slice x2 n2 c2,.slice y2 m2 d2,.slice ta tk tc] 65)).cell? ⟨wr.heap.size,8,none⟩=some (.slice y2 m2 d2):=by simp [go_sem]
     have b9:(wr.alloc (.cells #[.string z,.int .i64 i1,.bool s1,.slice x1 n1 c1,.slice y1 m1 d1,.int .i64 i2,.bool s2,.slice x2 n2 c2,.slice y2 m2 d2,.slice ta tk tc] 65)).cell? ⟨wr.heap.size,9,none⟩=some (.slice ta tk tc):=by simp [go_sem]
     clear hCi ht2 ht3 hc hb5 HI hTr hT;go_upto_region 12 with fail
     clear q0 q1 q2 q3 q4 q5 q6 q7 q8 q9 HB;generalize wr.alloc (.cells #[.string z,.int .i64 i1,.bool s1,.slice x1 n1 c1,.slice y1 m1 d1,.int .i64 i2,.bool s2,.slice x2 n2 c2,.slice y2 m2 d2,.slice ta tk tc] 65)=w5 at *;cases u
     ·go_wp2_with fail
      go_loopw [5,10] (fun ov t wz=>t=.int .i64 0∧ov=.bool false∧wz=w5) (fun _ _ _=>0)
      case atStart=>exact ⟨rfl,rfl,rfl⟩
      case round =>
       obtain ⟨rfl,rfl,rfl⟩:=hrel;go_wp2;go_roundw
       case rel=>exact ⟨i+1,false,by omega,by go_num,rfl,HB6.out,by show _=_;rw [HT.out];simp⟩
       case measure=>simp [intOf];omega
     by_cases hd:tk≤300
     case neg =>
      have d1:decide ((tk:Int)≤300)=false:=by simp;omega
      have HD:=hid (show decide (tk≤300)=false from by simp;omega);clear hd;rw [HD.out] at HT;go_wp2_with fail
      go_loopw [5,10] (fun ov t wz=>t=.int .i64 0∧ov=.bool false∧wz=w5) (fun _ _ _=>0)
      case atStart=>exact ⟨rfl,rfl,rfl⟩
      case round =>
       obtain ⟨rfl,rfl,rfl⟩:=hrel;go_wp2;go_roundw
       case rel=>exact ⟨i+1,false,by omega,by go_num,rfl,HB6.out,by show _=_;rw [HT.out];simp⟩
       case measure=>simp [intOf];omega
     have d1:decide ((tk:Int)≤300)=true:=by simp;omega
     have HD:=hid (show decide (tk≤300)=true from by simp;omega);rw [HD.out] at HT;go_wp2_with fail
     refine (C2.out _).mono ?_;rintro r w7 ⟨rfl,hb7⟩;replace b6:=kCb hb7 b6;replace b7:=kCb hb7 b7;replace b8:=kCb hb7 b8;replace b9:=kCb hb7 b9
     have HB7:=hid (HB6.out.trans (hb7.mono HB6.out.size));replace HTr:=hid (HTr.out.below hb7);clear hb7 C2 HB6;cases t2
     ·go_wp2_with fail
      go_loopw [5,10] (fun ov t wz=>t=.int .i64 0∧ov=.bool false∧wz=w7) (fun _ _ _=>0)
      case atStart=>exact ⟨rfl,rfl,rfl⟩
      case round =>
       obtain ⟨rfl,rfl,rfl⟩:=hrel;go_wp2;go_roundw
       case rel=>exact ⟨i+1,false,by omega,by go_num,rfl,HB7.out,by show _=_;rw [HT.out];simp⟩
       case measure=>simp [intOf];omega
     go_wp2_with fail
     refine (C3.out _).mono ?_;rintro r w8 ⟨rfl,hb8⟩;replace b9:=kCb hb8 b9;have HB8:=hid (HB7.out.trans (hb8.mono HB7.out.size));replace HTr:=hid (HTr.out.below hb8);clear hb8 C3 HB7 b6 b7 b8 b2 b3 b4;cases t3
     ·go_wp2_with fail
      go_loopw [5,10] (fun ov t wz=>t=.int .i64 0∧ov=.bool false∧wz=w8) (fun _ _ _=>0)
      case atStart=>exact ⟨rfl,rfl,rfl⟩
      case round =>
       obtain ⟨rfl,rfl,rfl⟩:=hrel;go_wp2;go_roundw
       case rel=>exact ⟨i+1,false,by omega,by go_num,rfl,HB8.out,by show _=_;rw [HT.out];simp⟩
       case measure=>simp [intOf];omega
     go_wp2_with fail
     go_loopw [5,10] (fun ov t wz=>∃(k:Nat) (vv:Bool),k≤tk∧t=.int .i64 k∧ov=.bool vv∧Hid (Below w8.heap.size w8 wz)∧Hid ((vv && nlg K tt (tk-k) k)=nlg K tt tk 0)) (fun _ t _=>tk-(intOf t).toNat)
     case atStart=>exact ⟨0,true,by omega,rfl,rfl,Below.refl _ _,by show _=_;simp⟩
     case round =>
      rename_i wz0 _ _ _ _ _;obtain ⟨k,vv,hk,rfl,rfl,HBz,HK⟩:=hrel;have b9z:=kCb HBz.out b9;have HBo:=hid (HB8.out.trans (HBz.out.mono HB8.out.size));cases vv
      ·have HU:=hid (show nlg K tt tk 0=false from by rw [←HK.out];rfl);clear HK HBz;go_wp2;go_roundw
       case rel=>exact ⟨i+1,false,by omega,by go_num,rfl,HBo.out,by show _=_;rw [HT.out,HU.out];simp⟩
       case measure=>simp [intOf];omega
      ·by_cases hkt:k<tk
       ·obtain ⟨tb,tq,hta,⟨_,g1',g2',g3'⟩,_⟩:=(HTr.out.below HBz.out) k hkt;obtain ⟨⟨sn,xn,nn,cn,fn,yn,mn,dn',gn⟩,hTk⟩:∃t,tt k=t:=⟨_,rfl⟩;obtain ⟨t5,ht5⟩:∃t,lg (tt k).n (tt k).m K=t:=⟨_,rfl⟩;obtain ⟨r,hr⟩:∃r,tk-k=r+1:=⟨tk-k-1,by omega⟩;have HN:=hid (show (t5 && nlg K tt (tk-(k+1)) (k+1))=nlg K tt tk 0 from by
         rw [←HK.out,hr,show tk-(k+1)=r by omega,←ht5];rfl)
        rw [hTk] at g1' g2' g3' ht5;subst hta;have C5:Hid (∀w',Calls Tryz.prog 7 #[.agg #[.bool sn,.slice xn nn cn,.slice yn mn dn'],.int .i64 K] w' fun e w2=>e=.returned (.bool t5)∧Below w'.heap.size w' w2):=fun w'=>ht5 ▸ rLightK_c K sn xn yn nn cn mn dn' w'
        have i5:((k:Nat):Int)<((tk:Nat):Int):=by omega
        clear hTk ht5 hr HK;go_wp2_with fail
        refine (C5.out _).mono ?_;rintro r w9 ⟨rfl,hb9⟩;have HB9:=hid (HBz.out.trans (hb9.mono HBz.out.size));clear hb9 HBz C5 HBo;go_wp2;go_roundw
        case rel=>exact ⟨k+1,t5,by omega,by go_num,rfl,HB9.out,HN.out⟩
        case measure=>simp [intOf];omega
       ·have e5:k=tk:=by omega
        have HU:=hid (show nlg K tt tk 0=true from by rw [←HK.out,e5,Nat.sub_self];rfl);have i5:¬(((k:Nat):Int)<((tk:Nat):Int)):=by omega
        clear HK HBz e5;go_wp2;go_roundw
        case rel=>exact ⟨i+1,true,by omega,by go_num,rfl,HBo.out,by show _=_;rw [HT.out,HU.out];simp⟩
        case measure=>simp [intOf];omega
    ·have e3:i=rk:=by omega
     have i2:¬(((i:Nat):Int)<((rk:Nat):Int)):=by omega
     have HV2:=hid (show ans=u from by rw [HV1.out,HI.out,e3]);have HB6:=hid (HB5.out.trans (HB.out.mono HB5.out.size));clear e3 HB HI;go_wp2;go_ret;refine ⟨?_,HB6.out⟩;rw [HV2.out];rfl
def Sn (t t':Nm):Prop:=t'.s=t.s∧t'.n=t.n∧t'.f=t.f∧t'.m=t.m∧t'.g=t.g
theorem Sn.nfB {t t':Nm} (h:Sn t t'):nfB t'=nfB t:=by
 obtain ⟨h1,h2,h3,h4,h5⟩:=h;unfold Go.Proofs.YtffblgeappcadaaGreat.nfB;rw [h1,h2,h3,h4,h5]
theorem tfr_sn {col:Nat→Int} {T T':Nat→Nm}:∀{r i:Nat} {last:Int},(∀j,i≤j→j<i+r→Sn (T j) (T' j))→tfr col T' r i last=tfr col T r i last:=by
 intro r
 induction r with
 | zero=>intro i last _;rfl
 | succ r ih =>
  intro i last h;have h0:=h i (by omega) (by omega);simp only [tfr];rw [ih (fun j a b=>h j (by omega) (by omega)),h0.nfB,h0.2.1]
theorem Rn.sn {L:Nat} {w w':World} {t t':Nm} {q:Rat} (h:Rn L w t.s t.x t.n t.c t.f t.y t.m t.d t.g q) (hs:Sn t t') (hr:Rw w' t'.x t'.n t'.c t'.f t'.y t'.m t'.d t'.g):Rn L w' t'.s t'.x t'.n t'.c t'.f t'.y t'.m t'.d t'.g q:=by
 obtain ⟨s,x,n,c,f,y,m,d,g⟩:=t;obtain ⟨s',x',n',c',f',y',m',d',g'⟩:=t';obtain ⟨rfl,rfl,rfl,rfl,rfl⟩:=hs;exact ⟨⟨hr.rx,hr.lx,h.num.wf,hr.cx,hr.nx,h.num.val⟩,⟨hr.ry,hr.ly,h.den.wf,hr.cy,hr.ny,h.den.val⟩,h.ln,h.ld⟩
theorem step_append_W {P:Program} (w:World) {ops:Array Oper} {o:Oper} {a:Act} {K:Act→World→Prop} {Q:Exit→Act→World→Prop} {E:Prop} (hgd:o.guard=none) (s x:Operand) (t:TypeId)
  (ho:o.op=.call { callee:=.builtin .append,args:=#[s,x],argTypes:=#[t,t] })
  (base:Nat) (e:TypeId) (i:TypeInfo) (z:Value) (size bytes:Nat) (ht:P.underlying t=some (.slice e)) (hi:P.info? e=some i) (hz:i.zero=some z)
  (hsize:i.size=size) (hby:i.bytes=bytes) (hzs:z.cells.size=size) (hsz:0<size) (hzu:NoU z.cells)
  (v:Value) (n:Nat) (xs:List Value) (hs:a.eval s=v) (hown:RowG e size base w v n xs)
  (ad:Addr) (m c:Nat) (news:List Value) (hx:a.eval x=.slice (some ad) m c) (hl:news.length=m*size) (hnews:∀j u,news[j]?=some u→w.cell? (ad.add j)=some u) (h1:∀u ∈ news,u.oneCell'=true) (hnu:∀u ∈ news,∀z,u≠.int .u64 z)
  (hm0:0<m) (h63:n+m≤maxLen) (hbytes:(n+m)*bytes≤140737488355328) (hbase:base≤w.heap.size)
  (hK:∀g cap' w',RowG e size base w' (.slice (some ⟨g,0,none⟩) (n+m) cap') (n+m) (xs++news)→w.grownBy w' v.ownBlock→Kp w w'→(v.ownBlock=some g∨w.heap.size≤g)→K (a.put o.dst (.slice (some ⟨g,0,none⟩) (n+m) cap')) w'):if Region.wanted o (yielded ops a.tmps)=true then Oper.wp P o a w K Q else E:=by
 subst hsize;subst hby
 obtain ⟨v',w',hrun,h1',h2',h3'⟩:=run_append_own (P:=P) w base t o.type e i z i.size i.bytes ht hi hz rfl rfl hzs hsz v n xs hown.owns ad m c news hl hnews h1 h63 hbytes hbase;have hlen:(xs++news).length=(n+m)*i.size:=by rw [List.length_append,hown.1,hl,Nat.add_mul]
 have hzc:∀k,NoU (Builtin.zeroCells z.cells k):=by
  intro k j y hj;simp only [Builtin.zeroCells] at hj;have hm:=Array.mem_of_getElem? hj;obtain ⟨q,_,he⟩:=Array.mem_map.1 hm;have hlt:q%z.cells.size<z.cells.size:=Nat.mod_lt _ (by omega);rw [getElem!_pos z.cells (q%z.cells.size) hlt] at he;exact hzu (q%z.cells.size) y (by rw [Array.getElem?_eq_getElem hlt,he])
 have hnu':NoU news.toArray:=nou_list hnu;have hw:∃g cap' cur',v'=.slice (some ⟨g,0,none⟩) (n+m) cap'∧base≤g∧w'.heap[g]?=some (.cells cur' e (0,0))∧n+m≤cap'∧cap'≤maxLen∧cur'.size=cap'*i.size∧cur'.toList.take ((n+m)*i.size)=xs++news∧NoU cur'∧Kp w w'∧(v.ownBlock=some g∨w.heap.size≤g):=by
  have hsm:n+m≤9223372036854775807:=by unfold maxLen at h63;omega
  rcases h1'.2 with ⟨hv0,hn0⟩ | ⟨g',cap',cur',hv',hb',hg',hn',hc',hs',ht'⟩
  ·omega
  ·refine ⟨g',cap',cur',hv',hb',hg',hn',hc',hs',ht',?_⟩;rcases hown.2 with ⟨rfl,rfl⟩ | ⟨g,cap,cur,rfl,hbg,hg,hnc,hcm,hcs,htake,hnuc⟩
   ·have hx0:xs=[]:=List.eq_nil_of_length_eq_zero (by simpa using hown.1);subst hx0;have e1:=run_append_nil (P:=P) w t o.type e i z ht hi hz ad m c news hl hnews hm0 (by omega) (by rw [Nat.zero_add] at hbytes;omega);rw [e1] at hrun;injection hrun with e2 e3;subst e3;rw [hv'] at e2;injection e2 with e4;injection e4 with e5;injection e5 with e6;subst e6;have e7:=heap_alloc_new w.drew (.cells (news.toArray++Builtin.zeroCells z.cells (grownCap w m 0 e-m)) e);rw [show w.heap.size=w.drew.heap.size from rfl,e7] at hg';injection hg' with e8;injection e8 with e9;rw [←e9];exact ⟨nou_append hnu' (hzc _),(Kp.refl w).drew.alloc _,.inr (Nat.le_refl _)⟩
   ·by_cases hroom:n+m≤cap
    ·have e1:=run_append_room (P:=P) w t o.type e i ht hi g n cap cur hg ad m c news hl hnews h1 hroom (by rw [hl,hcs,←Nat.add_mul];exact Nat.mul_le_mul_right _ hroom);rw [e1] at hrun;injection hrun with e2 e3;rw [hv'] at e2;injection e2 with e4;injection e4 with e5;injection e5 with e6;subst e6;have e7:w'.heap[g]?=some (.cells (cur.toList.take (n*i.size)++news++cur.toList.drop (n*i.size+news.length)).toArray e (0,0)):=by rw [←e3];exact setRow_heap w g cur _ e _ hg
     rw [e7] at hg';injection hg' with e8;injection e8 with e9;rw [←e9];refine ⟨nou_list ?_,⟨h2'.os,h2'.tape,h2'.output,h2'.size,fun k hk=>?_⟩,.inl rfl⟩
     ·intro u hu;rcases List.mem_append.1 hu with hu | hu
      ·rcases List.mem_append.1 hu with hu | hu
       ·exact nou_mem hnuc u (List.mem_of_mem_take hu)
       ·exact hnu u hu
      ·exact nou_mem hnuc u (List.mem_of_mem_drop hu)
     ·by_cases hkg:k=g
      ·subst hkg;exact .inr ⟨cur,e,(0,0),hg,hnuc⟩
      ·exact .inl (h2'.block k hk (fun e=>hkg (by simpa [Value.ownBlock] using e)))
    ·have holds:∀j u,xs[j]?=some u→w.cell? ((⟨g,0,none⟩:Addr).add j)=some u:=World.ownsRow.cells hown.owns (g:=g) rfl;have e1:=run_append_grow (P:=P) w t o.type e i z ht hi hz ⟨g,0,none⟩ n cap xs hown.1 holds ad m c news hl hnews (by omega) (by omega) (growslice_fits (by omega) hbytes);rw [e1] at hrun;injection hrun with e2 e3;subst e3;rw [hv'] at e2;injection e2 with e4;injection e4 with e5;injection e5 with e6;subst e6;have e7:=heap_alloc_new w.drew (.cells (xs.toArray++news.toArray++Builtin.zeroCells z.cells (grownCap w (n+m) cap e-(n+m))) e);rw [show w.heap.size=w.drew.heap.size from rfl,e7] at hg';injection hg' with e8;injection e8 with e9;rw [←e9];refine ⟨nou_append (nou_append (nou_list ?_) hnu') (hzc _),(Kp.refl w).drew.alloc _,.inr (Nat.le_refl _)⟩;intro u hu;rw [←htake] at hu;exact nou_mem hnuc u (List.mem_of_mem_take hu)
 obtain ⟨g,cap',cur',rfl,a1,a2,a3,a4,a5,a6,a7,a8,a9⟩:=hw;have hwt:Region.wanted o (yielded ops a.tmps)=true:=by simp [Region.wanted,hgd]
 rw [if_pos hwt];unfold Oper.wp execOp;simp only [ho,resolve,invoke,builtin,Sem.run_bind,Sem.run_pure,Result.andThen_ok,List.map_toArray,List.map_cons,List.map_nil,hs,hx,hrun];exact hK g cap' w' ⟨hlen,.inr ⟨g,cap',cur',rfl,a1,a2,a3,a4,a5,a6,a7⟩⟩ h2' a8 a9
theorem step_append_oneW {P:Program} (w0:World) {ops:Array Oper} {o:Oper} {a:Act} {K:Act→World→Prop} {Q:Exit→Act→World→Prop} {E:Prop} (hgd:o.guard=none) (s x:Operand) (t:TypeId)
  (ho:o.op=.call { callee:=.builtin .append,args:=#[s,x],argTypes:=#[t,t] })
  (base:Nat) (e:TypeId) (bytes sz:Nat) (z:Value) (ht:P.underlying t=some (.slice e)) (hi:(P.info? e).map (fun i=>(i.zero,i.size,i.bytes))=some (some z,sz,bytes)) (hzs:z.cells.size=sz) (hsz:0<sz) (hzu:NoU z.cells)
  (v:Value) (n:Nat) (xs:List Value) (hs:a.eval s=v) (hown:RowG e sz base w0 v n xs) (c:Array Value) (hx:a.eval x=.slice (some ⟨w0.heap.size,0,none⟩) 1 1) (hc:c.size=sz) (h1:∀u ∈ c.toList,u.oneCell'=true) (hnu:∀u ∈ c.toList,∀q,u≠.int .u64 q) (hn:n+1≤9223372036854775807) (hby:(n+1)*bytes≤140737488355328) (hbase:base≤w0.heap.size)
  (hK:∀g cap' w',RowG e sz base w' (.slice (some ⟨g,0,none⟩) (n+1) cap') (n+1) (xs++c.toList)→Kp w0 w'→(∀b0:World,Below b0.heap.size b0 w0→b0.heap.size≤base→Below b0.heap.size b0 w')→(∀k,k<w0.heap.size→v.ownBlock≠some k→w'.heap[k]?=w0.heap[k]?)→(v.ownBlock=some g∨w0.heap.size≤g)→K (a.put o.dst (.slice (some ⟨g,0,none⟩) (n+1) cap')) w'):if Region.wanted o (yielded ops a.tmps)=true then Oper.wp P o a (w0.alloc (.cells c e)) K Q else E:=by
 obtain ⟨i,hi,hz0,hz1,hz2⟩:=info_parts hi;have hal:=below_alloc (Below.refl w0.heap.size w0) (.cells c e);have hblk:=heap_alloc_new w0 (.cells c e);have hrow:=hown.below hal;refine step_append_W (w0.alloc (.cells c e)) hgd s x t ho base e i z sz bytes ht hi hz0 hz1 hz2 hzs hsz hzu v n xs hs hrow ⟨w0.heap.size,0,none⟩ 1 1 c.toList hx (by simp [hc]) (fun j u hu=>?_) h1 hnu (by decide) (by unfold maxLen;omega) ?_ (by simp;omega) ?_
 ·rw [addr_add,Nat.zero_add];simp only [World.cell?,hblk];simpa using hu
 ·exact hby
 ·intro g cap' w' hr hgr hkp hwh;refine hK g cap' w' hr ((Kp.of_below hal).trans hkp) (fun b0 hb hle=>?_) (fun k hk hne=>(hgr.block k (by simp;omega) (fun e=>hne e.symm)).trans (hal.block k hk)) (hwh.imp id (fun h=>by simp at h;omega));have h2:Below b0.heap.size b0 (w0.alloc (.cells c e)):=hb.trans (hal.mono hb.size);exact h2.grown hgr (by have:=hb.size;simp;omega) (fun k hk=>by have:=(hrow.lt k hk).1;omega)
def TrAns (w w':World) (e:Ending) (k:Nat) (col:Nat→Int) (T:Nat→Nm):Prop:=∃aw cw T',e=.returned (.slice aw k cw)∧Below w.heap.size w w'∧(k≤cw∧cw≤9223372036854775807)∧(∀b o s,aw=some ⟨b,o,s⟩→w.heap.size≤b)∧Hid (Tr w' aw k col T'∧∀j,j<k→Sn (T j) (T' j))
set_option maxRecDepth 100000 in
set_option maxHeartbeats 4000000 in
theorem twinTr_c {w:World} {ao:Option Addr} {k cap:Nat} {col:Nat→Int} {T:Nat→Nm} (h:Tr w ao k col T) (hk:k≤2199023255552) (hl:∀j,j<k→(T j).n≤17592186044416∧(T j).m≤17592186044416) :
  Calls Tryz.prog 39 #[.slice ao k cap] w fun e w'=>TrAns w w' e k col T:=by
 have H:=hid h;clear h;go_enter Tryz.func39,Tryz.ntmps39;go_wp2_with fail
 go_loopw [3,8] (fun ov t wr=>∃(i:Nat) (T':Nat→Nm),i≤k∧t=.int .i64 i∧Hid (Below w.heap.size w wr)∧Hid (RowG 67 4 w.heap.size wr ov i (tcells (tls i col T')))∧Hid (∀j,j<i→Sn (T j) (T' j)∧Rw wr (T' j).x (T' j).n (T' j).c (T' j).f (T' j).y (T' j).m (T' j).d (T' j).g)) (fun _ t _=>k-(intOf t).toNat)
 case atStart=>exact ⟨0,T,by omega,rfl,Below.refl _ _,rowG_nil _ _ _ _,fun j hj=>by omega⟩
 case round =>
  obtain ⟨i,T',hi,rfl,HB,HRow,HT⟩:=hrel;by_cases hlt:i<k
  ·obtain ⟨b,o,rfl,hc,hn⟩:=(H.out.below HB.out) i hlt;obtain ⟨⟨s,x,n,c,f,y,m,d,g⟩,hTi⟩:∃t,T i=t:=⟨_,rfl⟩;rw [hTi] at hc hn;obtain ⟨z,hz⟩:∃z,col i=z:=⟨_,rfl⟩;rw [hz] at hc;obtain ⟨x0,x1,x2,x3⟩:=hc;replace x0:wr.cell? ⟨b,o+i*4,none⟩=some (.int .i64 z):=x0;replace x1:wr.cell? ⟨b,o+i*4+1,none⟩=some (.bool s):=x1;replace x2:wr.cell? ⟨b,o+i*4+2,none⟩=some (.slice x n c):=x2;replace x3:wr.cell? ⟨b,o+i*4+3,none⟩=some (.slice y m d):=x3;have i1:((i:Nat):Int)<((k:Nat):Int):=by omega
   obtain ⟨hn10,hm10⟩:=hl i hlt;rw [hTi] at hn10 hm10;have HN:=hid hn;have HZ:=hid hz;have HTi:=hid hTi
   clear hn hz hTi;go_upto_region 5 with fail
   have hb5:=below_alloc (Below.refl wr.heap.size wr) (.cells #[.int .i64 z,.bool s,.slice x n c,.slice y m d] 67);have a0:(wr.alloc (.cells #[.int .i64 z,.bool s,.slice x n c,.slice y m d] 67)).cell? ⟨wr.heap.size,0,none⟩=some (.int .i64 z):=by simp [go_sem]
   have a1:(wr.alloc (.cells #[.int .i64 z,.bool s,.slice x n c,.slice y m d] 67)).cell? ⟨wr.heap.size,1,none⟩=some (.bool s):=by simp [go_sem]
   have a2:(wr.alloc (.cells #[.int .i64 z,.bool s,.slice x n c,.slice y m d] 67)).cell? ⟨wr.heap.size,2,none⟩=some (.slice x n c):=by simp [go_sem]
   have a3:(wr.alloc (.cells #[.int .i64 z,.bool s,.slice x n c,.slice y m d] 67)).cell? ⟨wr.heap.size,3,none⟩=some (.slice y m d):=by simp [go_sem]
   have hne:u3.ownBlock≠some wr.heap.size:=fun e=>by have:=(HRow.out.lt _ e).2;omega
   replace HN:=hid (HN.out.below hb5);replace HRow:=hid (HRow.out.below hb5)
   replace HT:Hid (∀j,j<i→Sn (T j) (T' j)∧Rw (wr.alloc (.cells #[.int .i64 z,.bool s,.slice x n c,.slice y m d] 67)) (T' j).x (T' j).n (T' j).c (T' j).f (T' j).y (T' j).m (T' j).d (T' j).g):=fun j hj=>⟨(HT.out j hj).1,(HT.out j hj).2.below hb5⟩
   replace HB:=hid (HB.out.trans (hb5.mono HB.out.size));clear x0 x1 x2 x3 hb5;have hsz:w.heap.size≤(wr.alloc (.cells #[.int .i64 z,.bool s,.slice x n c,.slice y m d] 67)).heap.size:=HB.out.size;generalize wr.alloc (.cells #[.int .i64 z,.bool s,.slice x n c,.slice y m d] 67)=w5 at *;have CT:Hid (∀W,Below w5.heap.size w5 W→Calls Tryz.prog 37 #[.agg #[.bool s,.slice x n c,.slice y m d]] W fun e w'=>∃z6 c6 z7 c7,e=.returned (.agg #[.bool s,.slice z6 n c6,.slice z7 m c7])∧Below W.heap.size W w'∧Hid (Rw w' z6 n c6 f z7 m c7 g)):=fun W hW=>qTwin_c (HN.out.below hW) hn10 hm10
   go_region_held3 (fun w'=>w'.cell? ⟨wr.heap.size,0,none⟩=some (.int .i64 z)∧w'.cell? ⟨wr.heap.size,1,none⟩=some (.bool s)∧w'.cell? ⟨wr.heap.size,2,none⟩=some (.slice x n c)∧w'.cell? ⟨wr.heap.size,3,none⟩=some (.slice y m d))
    (refine ⟨?_,?_,?_,?_⟩ <;> repeat (with_reducible first | assumption | refine kCd ?_ | refine kCa ?_ | refine kCb (by assumption) ?_))
    (first
     | (go_at_call 37;with_reducible refine (CT.out _ belA).mono ?_;rintro e w6 ⟨z6,c6,z7,c7,rfl,hb6,HQ⟩;have B6:Below w5.heap.size w5 w6:=belA;have HRow6:=HRow.out.below B6;have hz6:w.heap.size≤w6.heap.size:=Nat.le_trans hsz B6.size;have a06:=kCb B6 a0;have a16:=kCb B6 a1;have a26:=kCb B6 a2;have a36:=kCb B6 a3;have hlt6:=World.block_lt_of_cell? w6 _ a06)
     | (refine step_append_oneW w6 rfl (.tmp 12) (.tmp 19) 63 rfl w.heap.size 67 64 4 (.agg #[.int .i64 0,.bool false,.slice none 0 0,.slice none 0 0]) Tryz.underlying63 Tryz.infoTerm rfl (by decide) nz4 u3 i (tcells (tls i col T')) rfl HRow6 #[.int .i64 z,.bool s,.slice z6 n c6,.slice z7 m c7] rfl rfl (one4 _ _ _ _ _ _ _ _) (not4 _ _ _ _ _ _ _ _) ?p1 ?p2 hz6 ?_;(case p1=>omega);(case p2=>omega);intro g8 cap8 w8 hr8 hk8 hb8 hg8 _;have h88:=hg8 wr.heap.size hlt6 hne;have a08:=(World.cell?_of_block (a:=⟨wr.heap.size,0,none⟩) h88).trans a06;have a18:=(World.cell?_of_block (a:=⟨wr.heap.size,1,none⟩) h88).trans a16;have a28:=(World.cell?_of_block (a:=⟨wr.heap.size,2,none⟩) h88).trans a26;have a38:=(World.cell?_of_block (a:=⟨wr.heap.size,3,none⟩) h88).trans a36))
   all_goals
    (have HB8:=hid (hb8 w (HB.out.trans (B6.mono HB.out.size)) (Nat.le_refl _))
     have HR8:Hid (RowG 67 4 w.heap.size w8 (.slice (some ⟨g8,0,none⟩) (i+1) cap8) (i+1) (tcells (tls (i+1) col (putN T' i ⟨s,z6,n,c6,f,z7,m,c7,g⟩)))):=by
      show RowG _ _ _ _ _ _ _;rw [tls_put,HZ.out];exact hr8
     have HT8:Hid (∀j,j<i+1→Sn (T j) (putN T' i ⟨s,z6,n,c6,f,z7,m,c7,g⟩ j)∧Rw w8 (putN T' i ⟨s,z6,n,c6,f,z7,m,c7,g⟩ j).x (putN T' i ⟨s,z6,n,c6,f,z7,m,c7,g⟩ j).n (putN T' i ⟨s,z6,n,c6,f,z7,m,c7,g⟩ j).c (putN T' i ⟨s,z6,n,c6,f,z7,m,c7,g⟩ j).f (putN T' i ⟨s,z6,n,c6,f,z7,m,c7,g⟩ j).y (putN T' i ⟨s,z6,n,c6,f,z7,m,c7,g⟩ j).m (putN T' i ⟨s,z6,n,c6,f,z7,m,c7,g⟩ j).d (putN T' i ⟨s,z6,n,c6,f,z7,m,c7,g⟩ j).g):=fun j hj=>by
      by_cases e:j=i
      ·subst e;rw [putN_at,HTi.out];exact ⟨⟨rfl,rfl,rfl,rfl,rfl⟩,Rw.kp HQ.out hk8⟩
      ·rw [putN_ne e];exact ⟨(HT.out j (by omega)).1,Rw.kp ((HT.out j (by omega)).2.below B6) hk8⟩
     clear hr8 hk8 hb8 hg8 h88 a08 a18 a28 a38 a06 a16 a26 a36 hlt6 hne HRow6 B6 hb6 HQ HRow HT HB CT a0 a1 a2 a3 HN hz6;go_wp2;go_roundw
     case rel=>exact ⟨i+1,_,by omega,by go_num,HB8.out,HR8.out,HT8.out⟩
     case measure=>simp [intOf];omega)
  ·have e1:i=k:=by omega
   have i1:¬(((i:Nat):Int)<((k:Nat):Int)):=by omega
   rw [e1] at HRow HT;obtain ⟨aw,cw,rfl⟩:=HRow.out.slice;have hcw:k≤cw∧cw≤9223372036854775807:=by
    rcases HRow.out.2 with ⟨hv,h0⟩ | ⟨_,_,_,hv,_,_,h5,h6,_⟩
    ·cases hv;omega
    ·cases hv;unfold maxLen at h6;omega
   clear e1;go_wp2;go_ret;exact ⟨aw,cw,T',rfl,HB.out,hcw,(fun b o s e=>(HRow.out.lt b (by rw [e];rfl)).1),(fun j hj=>by obtain ⟨b,hb,h4⟩:=rowg_c4 HRow.out hj;exact ⟨b,0,hb,h4,(HT.out j hj).2⟩),fun j hj=>(HT.out j hj).1⟩
theorem Tl.of {w w' ao k col T} (h:Tl w ao k col T) (hb:∀b o s,ao=some ⟨b,o,s⟩→w'.heap[b]?=w.heap[b]?) (hk:Kp w w'):Tl w' ao k col T:=fun j hj=>by
 obtain ⟨b,o,e,⟨c0,c1,c2,c3⟩,h2,h3⟩:=h j hj;have:=hb b o none e;exact ⟨b,o,e,⟨(World.cell?_of_block (a:=⟨b,o+j*4,none⟩) this).trans c0,(World.cell?_of_block (a:=⟨b,o+j*4+1,none⟩) this).trans c1,(World.cell?_of_block (a:=⟨b,o+j*4+2,none⟩) this).trans c2,(World.cell?_of_block (a:=⟨b,o+j*4+3,none⟩) this).trans c3⟩,h2.kp hk,h3⟩
theorem tfr_last {col:Nat→Int} {T:Nat→Nm}:∀{r i:Nat} {last:Int},tfr col T r i last=true→∀p,i≤p→p<i+r→last<col p∧col p≤col (i+r-1)
 | 0,i,last,_,p,h1,h2=>by omega
 | r+1,i,last,h,p,h1,h2=>by
  simp only [tfr,Bool.and_eq_true,decide_eq_true_eq] at h;obtain ⟨ha,_,_,hb⟩:=h;cases r with
  | zero =>
   obtain rfl:p=i:=by omega
   exact ⟨ha,by simp⟩
  | succ r =>
   have e:i+(r+1+1)-1=i+1+(r+1)-1:=by omega
   have hn:=tfr_last hb (i+1) (by omega) (by omega);rw [e];by_cases hp:p=i
   ·subst hp;exact ⟨ha,by omega⟩
   ·have:=tfr_last hb p (by omega) (by omega);exact ⟨by omega,this.2⟩
theorem alB_at {k:Nat} {R:Nat→Lr}:∀{r i:Nat},alB k R r i=true→∀j,i≤j→j<i+r→lastB k (R j)=true
 | 0,i,_,j,h1,h2=>by omega
 | r+1,i,h,j,h1,h2=>by
  simp only [alB,Bool.and_eq_true] at h;by_cases e:j=i
  ·subst e;exact h.1
  ·exact alB_at h.2 j (by omega) (by omega)
theorem cols_at {k:Nat} {r:Lr} (h1:tfB r.tk r.col r.T=true) (h2:lastB k r=true):∀p,p<r.tk→0≤r.col p∧r.col p<k:=fun p hp=>by
 have h3:=tfr_last h1 p (by omega) (by omega);simp only [lastB,Bool.or_eq_true,decide_eq_true_eq] at h2;rw [Nat.zero_add] at h3;rcases h2 with h2 | h2 <;> omega
end Go.Proofs.YtffblgeappcadaaGreat
