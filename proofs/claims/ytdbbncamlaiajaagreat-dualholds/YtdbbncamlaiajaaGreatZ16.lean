/-
 The walk of the reference's stands (written by makers/rs1.py). The reference's models by their values; the walk of the reference's From of a model (written by makers/f32.py). A model that is well formed has values; the walks of the reference's Crossed and DocCrossed (written by makers/f33.py). The walks of the reference's Keeps of a number between bounds, of goes along a direction (written by makers/re1.py). The walks of package ray's slope, by values, of Recedes, Valid, whatever they are handed (written by makers/ra2.py). The walk of package ray's Along, whatever it is handed (written by makers/ra3.py). The walk of law07's awake (written by makers/f23.py). Ray's calls on values; the walks of law13's one, first, light, of the reference's Twin of a ray, of awake (written by makers/ra4.py). The reference's Same and Sames of lists with the same values. The walk of law13's awake (written by makers/ra5.py). The walk of the law ModelNames (written by makers/f28.py). The walk of law17's awake, and of StackNew (written by makers/o5.py). The walks of the reference's Same of points, of certificates and of bases that are alike; of the calls of a nil stack; of StackNone (written by makers/o6.py). Lists of numbers that are copies; the walk of law17's lists, and what it answers. Twins have the same values; what adds up along directions. The walks of law13's light, of the reference's Twin of a ray (written by makers/ra7.py). Ray's calls on twins of a model and of lists, by what the model and the lists are; the sum of two directions. Along a direction that recedes points stay points, and values move by the slope. Walks of the reference's At of terms, and of DocAt, whatever it is handed. Columns of sums and of lists of numbers, lengths; Dot whatever it is handed.
-/
import Derived.Test.YtdbbncamlaiajaaGreatZ15
import Derived.Test.YtdbbncamlaiajaaGreatZ9
import Derived.Test.YtdbbncamlaiajaaGreatZ0
import Derived.Test.YtdbbncamlaiajaaGreatZ11
import Derived.Test.YtdbbncamlaiajaaGreatZ13
import Derived.Test.YtdbbncamlaiajaaGreatZ12
import Derived.Test.YtdbbncamlaiajaaGreatZ14
import Derived.BigQuiet
import Derived.Test.YtdbbncamlaiajaaGreatZ10
import Derived.Test.YtdbbncamlaiajaaGreatZ8
import Derived.Test.YtdbbncamlaiajaaGreatZ6
import Derived.Deep.RegionHeld3
import Derived.BigRegion
import Derived.Test.YtdbbncamlaiajaaGreatZ7
namespace Go.Proofs.YtdbbncamlaiajaaGreat
open Go.RowKit
theorem qnum_ord {c:Int} {q:Rat} (h:Ord c q.num 0):(c=-1∧q<0)∨(c=0∧q=0)∨(c=1∧0<q):=by
 rcases h with ⟨h,h1⟩ | ⟨h,h1⟩ | ⟨h,h1⟩
 ·refine .inl ⟨h,?_⟩;exact Rat.not_le.1 (fun e=>by have:=Rat.num_nonneg.2 e;omega)
 ·exact .inr (.inl ⟨h,Rat.num_eq_zero.1 h1⟩)
 ·refine .inr (.inr ⟨h,?_⟩);have h2:=Rat.num_nonneg.1 (show 0≤q.num by omega);have h3:q≠0:=fun e=>by rw [e] at h1;simp at h1
  exact Rat.not_le.1 (fun e=>h3 (Rat.le_antisymm e h2))
theorem rord_eq {c:Int} {a b:Rat} (h:ROrd c a b):decide (a=b)=(c==0):=by
 rcases h with ⟨rfl,h⟩ | ⟨rfl,h⟩ | ⟨rfl,h⟩
 ·rw [decide_eq_false (by intro e;subst e;exact Rat.lt_irrefl h)];rfl
 ·rw [decide_eq_true h];rfl
 ·rw [decide_eq_false (by intro e;subst e;exact Rat.lt_irrefl h)];rfl
set_option maxRecDepth 100000 in
set_option maxHeartbeats 4000000 in
theorem stands_c {w:World} {i1:Int} {s1:Bool} {x1:Option Addr} {n1 c1:Nat} {f1:Nat→Int} {y1:Option Addr} {m1 d1:Nat} {g1:Nat→Int} {q1:Rat} {i2:Int} {s2:Bool} {x2:Option Addr} {n2 c2:Nat} {f2:Nat→Int} {y2:Option Addr} {m2 d2:Nat} {g2:Nat→Int} {q2:Rat} {s3:Bool} {x3:Option Addr} {n3 c3:Nat} {f3:Nat→Int} {y3:Option Addr} {m3 d3:Nat} {g3:Nat→Int} {q3:Rat} {s4:Bool} {x4:Option Addr} {n4 c4:Nat} {f4:Nat→Int} {y4:Option Addr} {m4 d4:Nat} {g4:Nat→Int} {q4:Rat} (h1:Fn w i1 s1 x1 n1 f1 y1 m1 g1 q1) (h2:Fn w i2 s2 x2 n2 f2 y2 m2 g2 q2) (h3:Qn w s3 x3 n3 f3 y3 m3 g3 q3) (h4:Qn w s4 x4 n4 f4 y4 m4 g4 q4) (l1:n1≤100000∧m1≤100000) (l2:n2≤100000∧m2≤100000) (l3:n3≤100000∧m3≤100000) (l4:n4≤100000) :
  Calls Tryz.prog 128 #[.agg #[.int .i64 i1,.bool s1,.slice x1 n1 c1,.slice y1 m1 d1],.agg #[.int .i64 i2,.bool s2,.slice x2 n2 c2,.slice y2 m2 d2],.agg #[.bool s3,.slice x3 n3 c3,.slice y3 m3 d3],.agg #[.bool s4,.slice x4 n4 c4,.slice y4 m4 d4]] w fun e w'=>e=.returned (.bool (rsB q4 i1 q1 i2 q2 q3))∧Below w.heap.size w w':=by
 have hb:=below_alloc (below_alloc (below_alloc (below_alloc (Below.refl w.heap.size w) (.cells #[.int .i64 i1,.bool s1,.slice x1 n1 c1,.slice y1 m1 d1] 103)) (.cells #[.int .i64 i2,.bool s2,.slice x2 n2 c2,.slice y2 m2 d2] 103)) (.cells #[.bool s3,.slice x3 n3 c3,.slice y3 m3 d3] 89)) (.cells #[.bool s4,.slice x4 n4 c4,.slice y4 m4 d4] 89);have B1:Hid (Bk ((((w.alloc (.cells #[.int .i64 i1,.bool s1,.slice x1 n1 c1,.slice y1 m1 d1] 103)).alloc (.cells #[.int .i64 i2,.bool s2,.slice x2 n2 c2,.slice y2 m2 d2] 103)).alloc (.cells #[.bool s3,.slice x3 n3 c3,.slice y3 m3 d3] 89)).alloc (.cells #[.bool s4,.slice x4 n4 c4,.slice y4 m4 d4] 89)) w.heap.size [.int .i64 i1,.bool s1,.slice x1 n1 c1,.slice y1 m1 d1] 103):=(((bk_new w [.int .i64 i1,.bool s1,.slice x1 n1 c1,.slice y1 m1 d1] 103).below (below_alloc (Below.refl _ _) _)).below (below_alloc (Below.refl _ _) _)).below (below_alloc (Below.refl _ _) _);have B2:Hid (Bk ((((w.alloc (.cells #[.int .i64 i1,.bool s1,.slice x1 n1 c1,.slice y1 m1 d1] 103)).alloc (.cells #[.int .i64 i2,.bool s2,.slice x2 n2 c2,.slice y2 m2 d2] 103)).alloc (.cells #[.bool s3,.slice x3 n3 c3,.slice y3 m3 d3] 89)).alloc (.cells #[.bool s4,.slice x4 n4 c4,.slice y4 m4 d4] 89)) (w.heap.size+1) [.int .i64 i2,.bool s2,.slice x2 n2 c2,.slice y2 m2 d2] 103):=by
  have:=((bk_new (w.alloc (.cells #[.int .i64 i1,.bool s1,.slice x1 n1 c1,.slice y1 m1 d1] 103)) [.int .i64 i2,.bool s2,.slice x2 n2 c2,.slice y2 m2 d2] 103).below (below_alloc (Below.refl _ _) (.cells #[.bool s3,.slice x3 n3 c3,.slice y3 m3 d3] 89))).below (below_alloc (Below.refl _ _) (.cells #[.bool s4,.slice x4 n4 c4,.slice y4 m4 d4] 89));rw [size_alloc1] at this;exact this
 have B3:Hid (Bk ((((w.alloc (.cells #[.int .i64 i1,.bool s1,.slice x1 n1 c1,.slice y1 m1 d1] 103)).alloc (.cells #[.int .i64 i2,.bool s2,.slice x2 n2 c2,.slice y2 m2 d2] 103)).alloc (.cells #[.bool s3,.slice x3 n3 c3,.slice y3 m3 d3] 89)).alloc (.cells #[.bool s4,.slice x4 n4 c4,.slice y4 m4 d4] 89)) (w.heap.size+1+1) [.bool s3,.slice x3 n3 c3,.slice y3 m3 d3] 89):=by
  have:=(bk_new ((w.alloc (.cells #[.int .i64 i1,.bool s1,.slice x1 n1 c1,.slice y1 m1 d1] 103)).alloc (.cells #[.int .i64 i2,.bool s2,.slice x2 n2 c2,.slice y2 m2 d2] 103)) [.bool s3,.slice x3 n3 c3,.slice y3 m3 d3] 89).below (below_alloc (Below.refl _ _) (.cells #[.bool s4,.slice x4 n4 c4,.slice y4 m4 d4] 89));rw [size_alloc1,size_alloc1] at this;exact this
 have B4:Hid (Bk ((((w.alloc (.cells #[.int .i64 i1,.bool s1,.slice x1 n1 c1,.slice y1 m1 d1] 103)).alloc (.cells #[.int .i64 i2,.bool s2,.slice x2 n2 c2,.slice y2 m2 d2] 103)).alloc (.cells #[.bool s3,.slice x3 n3 c3,.slice y3 m3 d3] 89)).alloc (.cells #[.bool s4,.slice x4 n4 c4,.slice y4 m4 d4] 89)) (w.heap.size+1+1+1) [.bool s4,.slice x4 n4 c4,.slice y4 m4 d4] 89):=by
  have:=bk_new (((w.alloc (.cells #[.int .i64 i1,.bool s1,.slice x1 n1 c1,.slice y1 m1 d1] 103)).alloc (.cells #[.int .i64 i2,.bool s2,.slice x2 n2 c2,.slice y2 m2 d2] 103)).alloc (.cells #[.bool s3,.slice x3 n3 c3,.slice y3 m3 d3] 89)) [.bool s4,.slice x4 n4 c4,.slice y4 m4 d4] 89;rw [size_alloc1,size_alloc1,size_alloc1] at this;exact this
 have H1:=hid (h1.below hb);have H2:=hid (h2.below hb);have H3:=hid (h3.below hb);have H4:=hid (h4.below hb);have HB:=hid hb
 clear hb h1 h2 h3 h4;go_enter Tryz.func128,Tryz.ntmps128;go_upto_region 1 with fail
 generalize ((((w.alloc (.cells #[.int .i64 i1,.bool s1,.slice x1 n1 c1,.slice y1 m1 d1] 103)).alloc (.cells #[.int .i64 i2,.bool s2,.slice x2 n2 c2,.slice y2 m2 d2] 103)).alloc (.cells #[.bool s3,.slice x3 n3 c3,.slice y3 m3 d3] 89)).alloc (.cells #[.bool s4,.slice x4 n4 c4,.slice y4 m4 d4] 89))=w1 at *;have t0:=B4.out.cell (j:=0) rfl;have t1:=B4.out.cell (j:=1) rfl;have t2:=B4.out.cell (j:=2) rfl;go_wp2_with fail
 clear t0 t1 t2;refine (qSign_c H4.out (by omega)).mono ?_;rintro e w2 ⟨cc,rfl,hb,ho⟩;have hz:=qnum_ord ho;replace HB:=hid (HB.out.trans (hb.mono HB.out.size));replace B1:=hid (B1.out.below hb);replace B2:=hid (B2.out.below hb);replace B3:=hid (B3.out.below hb);replace H1:=hid (H1.out.below hb);replace H2:=hid (H2.out.below hb);replace H3:=hid (H3.out.below hb)
 clear hb ho H4 B4;rcases hz with ⟨rfl,hq⟩ | ⟨rfl,hq⟩ | ⟨rfl,hq⟩
 ·have HV:Hid (rsB q4 i1 q1 i2 q2 q3=(decide (i2=0) && decide (q2=q3))):=by show _=_;rw [rsB,if_neg (by grind),if_pos hq]
  clear hq;have r0:=B2.out.cell (j:=0) rfl;have r1:=B2.out.cell (j:=1) rfl;have r2:=B2.out.cell (j:=2) rfl;have r3:=B2.out.cell (j:=3) rfl;by_cases hi:i2=0
  case neg =>
   have e1:(i2==0)=false:=by simpa using hi
   have HD:Hid (rsB q4 i1 q1 i2 q2 q3=false):=by show _=_;rw [HV.out,decide_eq_false hi];rfl
   clear hi HV;go_wp2;go_ret;exact ⟨by rw [HD.out];rfl,HB.out⟩
  subst hi;have t0:=B3.out.cell (j:=0) rfl;have t1:=B3.out.cell (j:=1) rfl;have t2:=B3.out.cell (j:=2) rfl;go_wp2_with fail
  clear r0 r1 r2 r3 t0 t1 t2
  go_at_call 127
  refine (qCmp_c H2.out.qn H3.out (by omega) (by omega) (by omega) (by omega)).mono ?_;rintro e w3 ⟨c9,rfl,hb,ho⟩;have HD:Hid (rsB q4 i1 q1 0 q2 q3=(c9==0)):=by show _=_;rw [HV.out,rord_eq ho];simp
  replace HB:=hid (HB.out.trans (hb.mono HB.out.size));clear hb ho HV;go_wp2;go_ret;exact ⟨by rw [HD.out];rfl,HB.out⟩
 ·have HD:Hid (rsB q4 i1 q1 i2 q2 q3=true):=by show _=_;rw [rsB,if_pos hq]
  clear hq;go_wp2;go_ret;exact ⟨by rw [HD.out];rfl,HB.out⟩
 ·have HV:Hid (rsB q4 i1 q1 i2 q2 q3=(decide (i1=0) && decide (q1=q3))):=by show _=_;rw [rsB,if_neg (by grind),if_neg (by grind)]
  clear hq;have r0:=B1.out.cell (j:=0) rfl;have r1:=B1.out.cell (j:=1) rfl;have r2:=B1.out.cell (j:=2) rfl;have r3:=B1.out.cell (j:=3) rfl;by_cases hi:i1=0
  case neg =>
   have e1:(i1==0)=false:=by simpa using hi
   have HD:Hid (rsB q4 i1 q1 i2 q2 q3=false):=by show _=_;rw [HV.out,decide_eq_false hi];rfl
   clear hi HV;go_wp2;go_ret;exact ⟨by rw [HD.out];rfl,HB.out⟩
  subst hi;have t0:=B3.out.cell (j:=0) rfl;have t1:=B3.out.cell (j:=1) rfl;have t2:=B3.out.cell (j:=2) rfl;go_wp2_with fail
  clear r0 r1 r2 r3 t0 t1 t2
  go_at_call 127
  refine (qCmp_c H1.out.qn H3.out (by omega) (by omega) (by omega) (by omega)).mono ?_;rintro e w3 ⟨c9,rfl,hb,ho⟩;have HD:Hid (rsB q4 0 q1 i2 q2 q3=(c9==0)):=by show _=_;rw [HV.out,rord_eq ho];simp
  replace HB:=hid (HB.out.trans (hb.mono HB.out.size));clear hb ho HV;go_wp2;go_ret;exact ⟨by rw [HD.out];rfl,HB.out⟩
structure QcV (K:Nat) (w:World) (c:Lc) (v:CV):Prop where
 nm:c.nm=v.nm
 cost:QnT K w c.cost v.cost
 li:c.lo.i=v.li
 lq:QnT K w c.lo.v v.lq
 hi:c.hi.i=v.hi
 hq:QnT K w c.hi.v v.hq
structure QrV (K:Nat) (w:World) (r:Lr) (v:RV):Prop where
 nm:r.nm=v.nm
 li:r.lo.i=v.li
 lq:QnT K w r.lo.v v.lq
 hi:r.hi.i=v.hi
 hq:QnT K w r.hi.v v.hq
 tk:r.tk=v.ts.length
 tl:Tq K w r.ta v.ts
theorem QcV.below {K w w' c v} (h:QcV K w c v) (hb:Below w.heap.size w w'):QcV K w' c v:=⟨h.nm,h.cost.below hb,h.li,h.lq.below hb,h.hi,h.hq.below hb⟩
theorem QcV.kp {K w w' c v} (h:QcV K w c v) (hb:Kp w w'):QcV K w' c v:=⟨h.nm,h.cost.kp hb,h.li,h.lq.kp hb,h.hi,h.hq.kp hb⟩
theorem QrV.below {K w w' c v} (h:QrV K w c v) (hb:Below w.heap.size w w'):QrV K w' c v:=⟨h.nm,h.li,h.lq.below hb,h.hi,h.hq.below hb,h.tk,h.tl.below hb⟩
theorem Tq.of {K w w' ao l} (h:Tq K w ao l) (hb:l≠[]→∀b o s,ao=some ⟨b,o,s⟩→b<w.heap.size→w'.heap[b]?=w.heap[b]?) (hk:Kp w w'):Tq K w' ao l:=fun j a q hj=>by
 obtain ⟨b,o,t,e,⟨c0,c1,c2,c3⟩,h2⟩:=h j a q hj;have:=hb (fun e=>by rw [e] at hj;simp at hj) b o none e (World.block_lt_of_cell? w _ c0);exact ⟨b,o,t,e,⟨(World.cell?_of_block (a:=⟨b,o+j*4,none⟩) this).trans c0,(World.cell?_of_block (a:=⟨b,o+j*4+1,none⟩) this).trans c1,(World.cell?_of_block (a:=⟨b,o+j*4+2,none⟩) this).trans c2,(World.cell?_of_block (a:=⟨b,o+j*4+3,none⟩) this).trans c3⟩,h2.kp hk⟩
theorem Tq.lt {K w ao l} (h:Tq K w ao l) (hl:l≠[]):∀b o s,ao=some ⟨b,o,s⟩→b<w.heap.size:=fun b o s e=>by
 match l,hl with
 | (a,q) :: r,_ =>
  obtain ⟨b',o',t,e',h4,_⟩:=h 0 a q rfl;rw [e] at e';cases e'
  exact World.block_lt_of_cell? w _ h4.x0
theorem QrV.of {K w w' r v} (h:QrV K w r v) (hb:v.ts≠[]→∀b o s,r.ta=some ⟨b,o,s⟩→b<w.heap.size→w'.heap[b]?=w.heap[b]?) (hk:Kp w w'):QrV K w' r v:=⟨h.nm,h.li,h.lq.kp hk,h.hi,h.hq.kp hk,h.tk,h.tl.of hb hk⟩
structure MqV (K:Nat) (w:World) (M:Mo) (q:Rat) (cs:List CV) (rs:List RV):Prop where
 off:QnT K w M.off q
 ck:M.ck=cs.length
 rk:M.rk=rs.length
 cls:∀j v,cs[j]?=some v→(∃b o,M.ca=some ⟨b,o,none⟩∧Cs w b (o+j*12) (M.C j).vs)∧QcV K w (M.C j) v
 rls:∀j v,rs[j]?=some v→(∃b o,M.ra=some ⟨b,o,none⟩∧Cs w b (o+j*10) (M.R j).vs)∧QrV K w (M.R j) v
theorem MqV.below {K w w' M q cs rs} (h:MqV K w M q cs rs) (hb:Below w.heap.size w w'):MqV K w' M q cs rs :=
 ⟨h.off.below hb,h.ck,h.rk,fun j v e=>by obtain ⟨⟨b,o,h1,h2⟩,h3⟩:=h.cls j v e;exact ⟨⟨b,o,h1,h2.below hb⟩,h3.below hb⟩,fun j v e=>by obtain ⟨⟨b,o,h1,h2⟩,h3⟩:=h.rls j v e;exact ⟨⟨b,o,h1,h2.below hb⟩,h3.below hb⟩⟩
theorem Tryz.infoRC:(Tryz.prog.info? 128).map (fun i=>(i.zero,i.size,i.bytes))=some (some zC,12,200):=by kernel_rfl
theorem Tryz.infoRR:(Tryz.prog.info? 131).map (fun i=>(i.zero,i.size,i.bytes))=some (some zR,10,168):=by kernel_rfl
theorem bd_at {li lq hi hq} (h:bdB li lq hi hq=true):(li=0∨(li=-1∨li=1)∧lq=0)∧(hi=0∨(hi=-1∨hi=1)∧hq=0):=by
 simp only [bdB,Bool.and_eq_true,Bool.or_eq_true,decide_eq_true_eq] at h;exact ⟨by rcases h.1 with h | h;exact .inl h;exact .inr ⟨.inl h.1,h.2⟩,by rcases h.2 with h | h;exact .inl h;exact .inr ⟨.inr h.1,h.2⟩⟩
def FrNew (K:Nat) (w w':World) (e:Ending) (k:Nat) (v:List (Int × Rat)):Prop:=∃aw cw,e=.returned (.slice aw k cw)∧Below w.heap.size w w'∧(k≤cw∧cw≤9223372036854775807)∧(∀b o s,aw=some ⟨b,o,s⟩→w.heap.size≤b)∧Hid (Tq K w' aw v)
set_option maxRecDepth 100000 in
set_option maxHeartbeats 4000000 in
theorem fromTN_c {w:World} {L:Nat} {ao:Option Addr} {k cap:Nat} {col:Nat→Int} {T:Nat→Nm} {v:List (Int × Rat)} (h:Tl w ao k col T) (hk:k≤10000) (hL:L≤16000) (hlv:v.length=k) (hq:∀j,j<k→∃q,v[j]?=some (col j,q)∧Rn L w (T j).s (T j).x (T j).n (T j).c (T j).f (T j).y (T j).m (T j).d (T j).g q) :
  Calls Tryz.prog 76 #[.slice ao k cap] w fun e w'=>FrNew (2*L) w w' e k v:=by
 have H:=hid h;clear h;go_enter Tryz.func76,Tryz.ntmps76;go_wp2_with fail
 go_loopw [3,8] (fun ov t wr=>∃(i:Nat) (T':Nat→Nm),i≤k∧t=.int .i64 i∧Hid (Below w.heap.size w wr)∧Hid (RowG 133 4 w.heap.size wr ov i (tcells (tls i col T')))∧Hid (∀j,j<i→∃q,v[j]?=some (col j,q)∧QnT (2*L) wr (T' j) q)) (fun _ t _=>k-(intOf t).toNat)
 case atStart=>exact ⟨0,T,by omega,rfl,Below.refl _ _,rowG_nil _ _ _ _,fun j hj=>by omega⟩
 case round =>
  obtain ⟨i,T',hi,rfl,HB,HRow,HT⟩:=hrel;by_cases hlt:i<k
  ·obtain ⟨b,o,hao,hc,hn,hn1,hn2⟩:=(H.out.below HB.out) i hlt;obtain ⟨⟨s,x,n,c,f,y,m,d,g⟩,hTi⟩:∃t,T i=t:=⟨_,rfl⟩;subst hao;rw [hTi] at hc hn hn1 hn2;obtain ⟨z,hz⟩:∃z,col i=z:=⟨_,rfl⟩;rw [hz] at hc;obtain ⟨x0,x1,x2,x3⟩:=hc;replace x0:wr.cell? ⟨b,o+i*4,none⟩=some (.int .i64 z):=x0;replace x1:wr.cell? ⟨b,o+i*4+1,none⟩=some (.bool s):=x1;replace x2:wr.cell? ⟨b,o+i*4+2,none⟩=some (.slice x n c):=x2;replace x3:wr.cell? ⟨b,o+i*4+3,none⟩=some (.slice y m d):=x3;have i1:((i:Nat):Int)<((k:Nat):Int):=by omega
   obtain ⟨q,hvq,hrn⟩:=hq i hlt;rw [hTi] at hrn;replace hn:Rn L wr s x n c f y m d g q:=hrn.below HB.out;clear hn1 hn2;have HVq:=hid hvq;have HN:=hid hn;have HZ:=hid hz;have HTi:=hid hTi
   clear hn hz hTi;go_upto_region 5 with fail
   have hb5:=below_alloc (Below.refl wr.heap.size wr) (.cells #[.int .i64 z,.bool s,.slice x n c,.slice y m d] 70);have a0:(wr.alloc (.cells #[.int .i64 z,.bool s,.slice x n c,.slice y m d] 70)).cell? ⟨wr.heap.size,0,none⟩=some (.int .i64 z):=by simp [go_sem]
   have a1:(wr.alloc (.cells #[.int .i64 z,.bool s,.slice x n c,.slice y m d] 70)).cell? ⟨wr.heap.size,1,none⟩=some (.bool s):=by simp [go_sem]
   have a2:(wr.alloc (.cells #[.int .i64 z,.bool s,.slice x n c,.slice y m d] 70)).cell? ⟨wr.heap.size,2,none⟩=some (.slice x n c):=by simp [go_sem]
   have a3:(wr.alloc (.cells #[.int .i64 z,.bool s,.slice x n c,.slice y m d] 70)).cell? ⟨wr.heap.size,3,none⟩=some (.slice y m d):=by simp [go_sem]
   have hne:u3.ownBlock≠some wr.heap.size:=fun e=>by have:=(HRow.out.lt _ e).2;omega
   replace HN:=hid (HN.out.below hb5);replace HRow:=hid (HRow.out.below hb5)
   replace HT:Hid (∀j,j<i→∃q,v[j]?=some (col j,q)∧QnT (2*L) (wr.alloc (.cells #[.int .i64 z,.bool s,.slice x n c,.slice y m d] 70)) (T' j) q):=fun j hj=>by obtain ⟨q,h1,h2⟩:=HT.out j hj;exact ⟨q,h1,h2.below hb5⟩
   replace HB:=hid (HB.out.trans (hb5.mono HB.out.size));clear x0 x1 x2 x3 hb5;have hsz:w.heap.size≤(wr.alloc (.cells #[.int .i64 z,.bool s,.slice x n c,.slice y m d] 70)).heap.size:=HB.out.size;generalize wr.alloc (.cells #[.int .i64 z,.bool s,.slice x n c,.slice y m d] 70)=w5 at *;have CT:Hid (∀W,Below w5.heap.size w5 W→Calls Tryz.prog 74 #[.agg #[.bool s,.slice x n c,.slice y m d]] W fun e w'=>∃s6 x6 n6 c6 d6 y6 m6 e6 g6,e=.returned (.agg #[.bool s6,.slice x6 n6 c6,.slice y6 m6 e6])∧Below W.heap.size W w'∧Hid (n6≤2*L∧m6≤2*L∧Qn w' s6 x6 n6 d6 y6 m6 g6 q)):=fun W hW=>(qFrom_c (HN.out.below hW) (by omega)).mono (fun _ _ ⟨s,x,n,c,d,y,m,c',g,h1,h2,h3,h4,h5⟩=>⟨s,x,n,c,d,y,m,c',g,h1,h2,h3,h4,h5⟩)
   go_region_held3 (fun w'=>w'.cell? ⟨wr.heap.size,0,none⟩=some (.int .i64 z)∧w'.cell? ⟨wr.heap.size,1,none⟩=some (.bool s)∧w'.cell? ⟨wr.heap.size,2,none⟩=some (.slice x n c)∧w'.cell? ⟨wr.heap.size,3,none⟩=some (.slice y m d))
    (refine ⟨?_,?_,?_,?_⟩ <;> repeat (with_reducible first | assumption | refine kCd ?_ | refine kCa ?_ | refine kCb (by assumption) ?_))
    (first
     | (go_at_call 74;with_reducible refine (CT.out _ belA).mono ?_;rintro e w6 ⟨s6,x6,n6,c6,d6,y6,m6,e6,g6,rfl,hb6,HQ⟩;have B6:Below w5.heap.size w5 w6:=belA;have HRow6:=HRow.out.below B6;have hz6:w.heap.size≤w6.heap.size:=Nat.le_trans hsz B6.size;have a06:=kCb B6 a0;have a16:=kCb B6 a1;have a26:=kCb B6 a2;have a36:=kCb B6 a3;have hlt6:=World.block_lt_of_cell? w6 _ a06)
     | (refine step_append_one w6 rfl (.tmp 12) (.tmp 19) 129 rfl w.heap.size 133 64 4 (.agg #[.int .i64 0,.bool false,.slice none 0 0,.slice none 0 0]) Tryz.underlying129 Tryz.infoTq rfl (by decide) nz4 u3 i (tcells (tls i col T')) rfl HRow6 #[.int .i64 z,.bool s6,.slice x6 n6 c6,.slice y6 m6 e6] rfl rfl (one4 _ _ _ _ _ _ _ _) (not4 _ _ _ _ _ _ _ _) ?p1 (by decide) hz6 ?_;(case p1=>omega);intro g8 cap8 w8 hr8 hk8 hb8 hg8;have h88:=hg8 wr.heap.size hlt6 hne;have a08:=(World.cell?_of_block (a:=⟨wr.heap.size,0,none⟩) h88).trans a06;have a18:=(World.cell?_of_block (a:=⟨wr.heap.size,1,none⟩) h88).trans a16;have a28:=(World.cell?_of_block (a:=⟨wr.heap.size,2,none⟩) h88).trans a26;have a38:=(World.cell?_of_block (a:=⟨wr.heap.size,3,none⟩) h88).trans a36))
   all_goals
    (have HB8:=hid (hb8 w (HB.out.trans (B6.mono HB.out.size)) (Nat.le_refl _))
     have HR8:Hid (RowG 133 4 w.heap.size w8 (.slice (some ⟨g8,0,none⟩) (i+1) cap8) (i+1) (tcells (tls (i+1) col (putN T' i ⟨s6,x6,n6,c6,d6,y6,m6,e6,g6⟩)))):=by
      show RowG _ _ _ _ _ _ _;rw [tls_put,HZ.out];exact hr8
     have HT8:Hid (∀j,j<i+1→∃q,v[j]?=some (col j,q)∧QnT (2*L) w8 (putN T' i ⟨s6,x6,n6,c6,d6,y6,m6,e6,g6⟩ j) q):=fun j hj=>by
      by_cases e:j=i
      ·subst e;rw [putN_at];exact ⟨q,HVq.out,QnT.kp (t:=⟨s6,x6,n6,c6,d6,y6,m6,e6,g6⟩) HQ.out hk8⟩
      ·rw [putN_ne e];obtain ⟨q,h1,h2⟩:=HT.out j (by omega);exact ⟨q,h1,(h2.below B6).kp hk8⟩
     clear hr8 hk8 hb8 hg8 h88 a08 a18 a28 a38 a06 a16 a26 a36 hlt6 hne HRow6 B6 hb6 HQ HRow HT HB CT a0 a1 a2 a3 HN hz6;go_wp2;go_roundw
     case rel=>exact ⟨i+1,_,by omega,by go_num,HB8.out,HR8.out,HT8.out⟩
     case measure=>simp [intOf];omega)
  ·have e1:i=k:=by omega
   have i1:¬(((i:Nat):Int)<((k:Nat):Int)):=by omega
   rw [e1] at HRow HT;obtain ⟨aw,cw,rfl⟩:=HRow.out.slice;have hcw:k≤cw∧cw≤9223372036854775807:=by
    rcases HRow.out.2 with ⟨hv,h0⟩ | ⟨_,_,_,hv,_,_,h5,h6,_⟩
    ·cases hv;omega
    ·cases hv;unfold maxLen at h6;omega
   clear e1;go_wp2;go_ret;exact ⟨aw,cw,rfl,HB.out,hcw,(fun b o s e=>(HRow.out.lt b (by rw [e];rfl)).1),(fun j a q hj=>by have hlt2:j<k:=by { have:=(List.getElem?_eq_some_iff.1 hj).1;omega };obtain ⟨b,hb,h4⟩:=rowg_c4 HRow.out hlt2;obtain ⟨q',h5,h6⟩:=HT.out j hlt2;rw [hj] at h5;obtain ⟨rfl,rfl⟩:a=col j∧q=q':=by { simpa using h5 };exact ⟨b,0,T' j,hb,h4,h6⟩)⟩
def FN (K:Nat) (q:Rat) (v:Value) (w:World):Prop:=∃t':Nm,v=t'.val∧QnT K w t' q
def FE (K:Nat) (i:Int) (q:Rat) (v:Value) (w:World):Prop:=∃e':Ex,v=e'.val∧e'.i=i∧QnT K w e'.v q
def FC (K:Nat) (cv:CV) (v:Value) (w:World):Prop:=∃c':Lc,v=.agg c'.vs.toArray∧QcV K w c' cv
def FCs (K:Nat) (cv:CV) (v:Value) (w:World):Prop:=∃b,∃c':Lc,v=.slice (some ⟨b,0,none⟩) 1 1∧Cs w b 0 c'.vs∧QcV K w c' cv
def FT (K base tk:Nat) (ts:List (Int × Rat)) (v:Value) (w:World):Prop:=∃aw cw,v=.slice aw tk cw∧(∀b o s,aw=some ⟨b,o,s⟩→base≤b)∧Tq K w aw ts
def FR (K base:Nat) (rv:RV) (v:Value) (w:World):Prop:=∃r':Lr,v=.agg r'.vs.toArray∧QrV K w r' rv∧∀b o s,r'.ta=some ⟨b,o,s⟩→base≤b
def FRs (K base:Nat) (rv:RV) (v:Value) (w:World):Prop:=∃b,∃r':Lr,v=.slice (some ⟨b,0,none⟩) 1 1∧Cs w b 0 r'.vs∧QrV K w r' rv∧∀b o s,r'.ta=some ⟨b,o,s⟩→base≤b
theorem FN.below {K t v w w'} (h:FN K t v w) (hb:Below w.heap.size w w'):FN K t v w':=by obtain ⟨t',h1,h2⟩:=h;exact ⟨t',h1,h2.below hb⟩
theorem FE.below {K i t v w w'} (h:FE K i t v w) (hb:Below w.heap.size w w'):FE K i t v w':=by obtain ⟨t',h1,h2,h3⟩:=h;exact ⟨t',h1,h2,h3.below hb⟩
theorem FC.below {K t v w w'} (h:FC K t v w) (hb:Below w.heap.size w w'):FC K t v w':=by obtain ⟨t',h1,h2⟩:=h;exact ⟨t',h1,h2.below hb⟩
theorem FCs.below {K t v w w'} (h:FCs K t v w) (hb:Below w.heap.size w w'):FCs K t v w':=by obtain ⟨b,t',h1,h2,h3⟩:=h;exact ⟨b,t',h1,h2.below hb,h3.below hb⟩
theorem FT.below {K base tk ts v w w'} (h:FT K base tk ts v w) (hb:Below w.heap.size w w'):FT K base tk ts v w':=by obtain ⟨aw,cw,h1,h2,h3⟩:=h;exact ⟨aw,cw,h1,h2,h3.below hb⟩
theorem FR.below {K base t v w w'} (h:FR K base t v w) (hb:Below w.heap.size w w'):FR K base t v w':=by obtain ⟨t',h1,h2,h3⟩:=h;exact ⟨t',h1,h2.below hb,h3⟩
theorem FRs.below {K base t v w w'} (h:FRs K base t v w) (hb:Below w.heap.size w w'):FRs K base t v w':=by obtain ⟨b,t',h1,h2,h3,h4⟩:=h;exact ⟨b,t',h1,h2.below hb,h3.below hb,h4⟩
structure FrC (w:World) (base b1 b2 b3:Nat) (P Z:List Value) (so:Bool) (zx:Option Addr) (zn zc:Nat) (zy:Option Addr) (zm zd:Nat) (oN:Nm) (K:Nat) (q:Rat) (cs:List CV) (wr:World) (i:Nat) (C':Nat→Lc) (vC:Value):Prop where
 bel:Below w.heap.size w wr
 p1:Bk wr b1 P 28
 p2:Bk wr b2 Z 93
 p3:Bk wr b3 [.bool so,.slice zx zn zc,.slice zy zm zd,vC,.slice none 0 0] 93
 bs:base≤wr.heap.size
 off:QnT K wr oN q
 row:RowG 128 12 base wr vC i (ccs C' i)
 el:∀j v,j<i→cs[j]?=some v→QcV K wr (C' j) v
theorem FrC.below {w base b1 b2 b3 P Z so zx zn zc zy zm zd oN K q cs wr i C' vC w'} (h:FrC w base b1 b2 b3 P Z so zx zn zc zy zm zd oN K q cs wr i C' vC) (hb:Below wr.heap.size wr w'):FrC w base b1 b2 b3 P Z so zx zn zc zy zm zd oN K q cs w' i C' vC :=
 ⟨h.bel.trans (hb.mono h.bel.size),h.p1.below hb,h.p2.below hb,h.p3.below hb,Nat.le_trans h.bs hb.size,h.off.below hb,h.row.below hb,fun j v hj e=>(h.el j v hj e).below hb⟩
theorem FrC.next {w base b1 b2 b3 P Z so zx zn zc zy zm zd oN K q cs wr i C' vC w8 g8 cap8} {c' : Lc} (h : FrC w base b1 b2 b3 P Z so zx zn zc zy zm zd oN K q cs wr i C' vC) (h12 : b1 < b2) (h23 : b2 < b3) (h3b : b3 < base) (hwb : w.heap.size ≤ b1) (hc : ∀ v, cs[i]? = some v → QcV K wr c' v)
    (hr : RowG 128 12 base w8 (.slice (some ⟨g8, 0, none⟩) (i + 1) cap8) (i + 1) (ccs C' i ++ c'.vs)) (hk : Kp wr w8) (hg : wr.grownBy w8 vC.ownBlock) :
    FrC w base b1 b2 b3 P Z so zx zn zc zy zm zd oN K q cs (w8.setCell ⟨b3, 3, none⟩ (.slice (some ⟨g8, 0, none⟩) (i + 1) cap8)) (i + 1) (putC C' i c') (.slice (some ⟨g8, 0, none⟩) (i + 1) cap8) := by
  have hbs := h.bs
  have hlt : ∀ k, k < base → w8.heap[k]? = wr.heap[k]? := fun k hk => hg.block k (by omega) (fun e => by have := (h.row.lt k e.symm).1; omega)
  have hset : ∀ k, k ≠ b3 → (w8.setCell ⟨b3, 3, none⟩ (.slice (some ⟨g8, 0, none⟩) (i + 1) cap8)).heap[k]? = w8.heap[k]? := fun k hk => Below.heap_setCell _ _ _ _ hk
  have hp3 : Bk w8 b3 [.bool so, .slice zx zn zc, .slice zy zm zd, vC, .slice none 0 0] 93 := h.p3.of (hlt b3 h3b)
  have hg8 := (hr.lt g8 rfl).1
  have hk9 : Kp wr (w8.setCell ⟨b3, 3, none⟩ (.slice (some ⟨g8, 0, none⟩) (i + 1) cap8)) := hk.set (x := ⟨b3, 3, none⟩) hp3 (by obtain ⟨aw, cw, e⟩ := h.row.slice; rw [e]; exact nou5 _ _ _ _ _ _ _ _ _ _ _ _ _) _
  refine ⟨?_, h.p1.of ((hset b1 (by omega)).trans (hlt b1 (by omega))), h.p2.of ((hset b2 (by omega)).trans (hlt b2 (by omega))), hp3.set 3 _, Nat.le_trans hbs hk9.size, h.off.kp hk9, ?_, fun j v hj ev => ?_⟩
  · have h8 : Below w.heap.size w w8 := h.bel.grown hg (by have := h.bel.size; omega) (fun k e => by have := (h.row.lt k e).1; omega)
    exact below_turned h8 h8.size ((Turned.refl w.heap.size (b3 + 1) w8).set (x := ⟨b3, 3, none⟩) (by show w.heap.size ≤ b3; omega) (by simp) _) (Nat.le_refl _)
  · rw [ccs_put]
    exact hr.of (fun k hk => hset k (fun e => by have : g8 = k := by simpa [Value.ownBlock] using hk
                                                 omega))
  · by_cases e : j = i
    · subst e; rw [putC_at]; exact (hc v ev).kp hk9
    · rw [putC_ne e]; exact (h.el j v (by omega) ev).kp hk9
structure FrR (w:World) (base base2 b2 b3:Nat) (Z:List Value) (so:Bool) (zx:Option Addr) (zn zc:Nat) (zy:Option Addr) (zm zd:Nat) (oN:Nm) (K:Nat) (q:Rat) (cs:List CV) (ck:Nat) (C':Nat→Lc) (vC:Value) (rs:List RV) (wr:World) (i:Nat) (R':Nat→Lr) (vR:Value):Prop where
 bel:Below w.heap.size w wr
 p2:Bk wr b2 Z 93
 p3:Bk wr b3 [.bool so,.slice zx zn zc,.slice zy zm zd,vC,vR] 93
 bs:base2≤wr.heap.size
 off:QnT K wr oN q
 rowC:RowG 128 12 base wr vC ck (ccs C' ck)
 elC:∀j v,j<ck→cs[j]?=some v→QcV K wr (C' j) v
 nv:∀k,vC.ownBlock=some k→k<base2
 row:RowG 131 10 base2 wr vR i (rcs R' i)
 el:∀j v,j<i→rs[j]?=some v→QrV K wr (R' j) v∧(v.ts≠[]→∀b o s,(R' j).ta=some ⟨b,o,s⟩→base2≤b∧vR.ownBlock≠some b)
theorem FrR.below {w base base2 b2 b3 Z so zx zn zc zy zm zd oN K q cs ck C' vC rs wr i R' vR w'} (h:FrR w base base2 b2 b3 Z so zx zn zc zy zm zd oN K q cs ck C' vC rs wr i R' vR) (hb:Below wr.heap.size wr w'):FrR w base base2 b2 b3 Z so zx zn zc zy zm zd oN K q cs ck C' vC rs w' i R' vR :=
 ⟨h.bel.trans (hb.mono h.bel.size),h.p2.below hb,h.p3.below hb,Nat.le_trans h.bs hb.size,h.off.below hb,h.rowC.below hb,fun j v hj e=>(h.elC j v hj e).below hb,h.nv,h.row.below hb,fun j v hj e=>⟨(h.el j v hj e).1.below hb,(h.el j v hj e).2⟩⟩
theorem FrR.next {w base base2 b2 b3 Z so zx zn zc zy zm zd oN K q cs ck C' vC rs wr i R' vR w8 g8 cap8} {r' : Lr} (h : FrR w base base2 b2 b3 Z so zx zn zc zy zm zd oN K q cs ck C' vC rs wr i R' vR) (h23 : b2 < b3) (h3b : b3 < base2) (hbb : b3 < base) (hwb : w.heap.size ≤ b2) (hc : ∀ v, rs[i]? = some v → QrV K wr r' v)
    (hta : ∀ b o s, r'.ta = some ⟨b, o, s⟩ → base2 ≤ b ∧ vR.ownBlock ≠ some b)
    (hr : RowG 131 10 base2 w8 (.slice (some ⟨g8, 0, none⟩) (i + 1) cap8) (i + 1) (rcs R' i ++ r'.vs)) (hk : Kp wr w8) (hg : wr.grownBy w8 vR.ownBlock) (hl : vR.ownBlock = some g8 ∨ wr.heap.size ≤ g8) :
    FrR w base base2 b2 b3 Z so zx zn zc zy zm zd oN K q cs ck C' vC rs (w8.setCell ⟨b3, 4, none⟩ (.slice (some ⟨g8, 0, none⟩) (i + 1) cap8)) (i + 1) (putR' R' i r') (.slice (some ⟨g8, 0, none⟩) (i + 1) cap8) := by
  have hbs := h.bs
  have hlt : ∀ k, k < base2 → w8.heap[k]? = wr.heap[k]? := fun k hk => hg.block k (by omega) (fun e => by have := (h.row.lt k e.symm).1; omega)
  have hset : ∀ k, k ≠ b3 → (w8.setCell ⟨b3, 4, none⟩ (.slice (some ⟨g8, 0, none⟩) (i + 1) cap8)).heap[k]? = w8.heap[k]? := fun k hk => Below.heap_setCell _ _ _ _ hk
  have hp3 : Bk w8 b3 [.bool so, .slice zx zn zc, .slice zy zm zd, vC, vR] 93 := h.p3.of (hlt b3 h3b)
  have hg8 := (hr.lt g8 rfl).1
  have hk9 : Kp wr (w8.setCell ⟨b3, 4, none⟩ (.slice (some ⟨g8, 0, none⟩) (i + 1) cap8)) := hk.set (x := ⟨b3, 4, none⟩) hp3 (by obtain ⟨aw, cw, e⟩ := h.row.slice; obtain ⟨aw2, cw2, e2⟩ := h.rowC.slice; rw [e, e2]; exact nou5 _ _ _ _ _ _ _ _ _ _ _ _ _) _
  have hta8 : ∀ (r : Lr) (v : RV), QrV K wr r v → (v.ts ≠ [] → ∀ b o s, r.ta = some ⟨b, o, s⟩ → base2 ≤ b ∧ vR.ownBlock ≠ some b) → QrV K (w8.setCell ⟨b3, 4, none⟩ (.slice (some ⟨g8, 0, none⟩) (i + 1) cap8)) r v ∧ (v.ts ≠ [] → ∀ b o s, r.ta = some ⟨b, o, s⟩ → base2 ≤ b ∧ (Value.slice (some ⟨g8, 0, none⟩) (i + 1) cap8).ownBlock ≠ some b) := fun r v h1 h2 => by
    refine ⟨h1.of (fun h3 b o s e hb => ?_) hk9, fun h3 b o s e => ?_⟩
    · obtain ⟨k1, k2⟩ := h2 h3 b o s e
      rw [hset b (by omega)]
      exact hg.block b hb (fun e => k2 e.symm)
    · obtain ⟨k1, k2⟩ := h2 h3 b o s e
      refine ⟨k1, fun e2 => ?_⟩
      have e3 : g8 = b := by simpa [Value.ownBlock] using e2
      rcases hl with h4 | h4
      · exact k2 (e3 ▸ h4)
      · have := h1.tl.lt h3 b o s e; omega
  refine ⟨?_, h.p2.of ((hset b2 (by omega)).trans (hlt b2 (by omega))), hp3.set 4 _, Nat.le_trans hbs hk9.size, h.off.kp hk9, h.rowC.of (fun k hk => ?_), fun j v hj e => (h.elC j v hj e).kp hk9, h.nv, ?_, fun j v hj ev => ?_⟩
  · have h8 : Below w.heap.size w w8 := h.bel.grown hg (by have := h.bel.size; omega) (fun k e => by have := (h.row.lt k e).1; omega)
    exact below_turned h8 h8.size ((Turned.refl w.heap.size (b3 + 1) w8).set (x := ⟨b3, 4, none⟩) (by show w.heap.size ≤ b3; omega) (by simp) _) (Nat.le_refl _)
  · have := (h.rowC.lt k hk).1
    rw [hset k (by omega)]; exact hlt k (h.nv k hk)
  · rw [rcs_put]
    exact hr.of (fun k hk => hset k (fun e => by have : g8 = k := by simpa [Value.ownBlock] using hk
                                                 omega))
  · by_cases e : j = i
    · subst e; rw [putR'_at]; exact hta8 r' v (hc v ev) (fun _ => hta)
    · rw [putR'_ne e]; exact hta8 _ v (h.el j v (by omega) ev).1 (h.el j v (by omega) ev).2
theorem FrR.done {w base base2 b2 b3 so zx zn zc zy zm zd oN K q cs ck C' rs rk R' wr aC cC aR cR w9 v0 v1 v2 v3 v4} (h:FrR w base base2 b2 b3 [.bool false,.slice none 0 0,.slice none 0 0,.slice none 0 0,.slice none 0 0] so zx zn zc zy zm zd oN K q cs ck C' (.slice aC ck cC) rs wr rk R' (.slice aR rk cR)) (h2:b2<base) (h22:b2<base2) (hwb:w.heap.size≤b2)
  (e:w9=((((wr.setCell ⟨b2,0,none⟩ v0).setCell ⟨b2,1,none⟩ v1).setCell ⟨b2,2,none⟩ v2).setCell ⟨b2,3,none⟩ v3).setCell ⟨b2,4,none⟩ v4) (hck:ck=cs.length) (hrk:rk=rs.length) :
  Below w.heap.size w w9∧MqV K w9 ⟨oN,aC,ck,cC,C',aR,rk,cR,R'⟩ q cs rs:=by
 obtain ⟨hk,hne⟩:=kp_st5 h.p2 (nou5 _ _ _ _ _ _ _ _ _ _ _ _ _) e;refine ⟨by rw [e];exact below_st5 h.bel hwb,h.off.kp hk,hck,hrk,fun j v hv=>?_,fun j v hv=>?_⟩
 ·have hj:j<ck:=by rw [hck];exact (List.getElem?_eq_some_iff.1 hv).1
  rcases h.rowC.2 with ⟨_,h0⟩ | ⟨gb,cap,cur,hv',hb,_⟩
  ·exact absurd hj (by rw [h0];exact Nat.not_lt_zero _)
  ·have hr:=h.rowC.of (w':=w9) (fun k hk=>hne k (by have:=(h.rowC.lt k hk).1;omega));cases hv'
   refine ⟨⟨gb,0,rfl,fun p u hp=>?_⟩,(h.elC j v hj hv).kp hk⟩;rw [Nat.zero_add];exact hr.cells (ccs_get hp hj)
 ·have hj:j<rk:=by rw [hrk];exact (List.getElem?_eq_some_iff.1 hv).1
  rcases h.row.2 with ⟨_,h0⟩ | ⟨gb,cap,cur,hv',hb,_⟩
  ·exact absurd hj (by rw [h0];exact Nat.not_lt_zero _)
  ·have hr:=h.row.of (w':=w9) (fun k hk=>hne k (by have:=(h.row.lt k hk).1;omega));cases hv'
   refine ⟨⟨gb,0,rfl,fun p u hp=>?_⟩,(h.el j v hj hv).1.of (fun h3 b o s e _=>hne b (by have:=((h.el j v hj hv).2 h3 b o s e).1;omega)) hk⟩;rw [Nat.zero_add];exact hr.cells (rcs_get hp hj)
set_option maxRecDepth 100000 in
set_option maxHeartbeats 8000000 in
theorem mFrom_c {w:World} {M:Mo} {L:Nat} {q:Rat} {cs:List CV} {rs:List RV} (h:MoV L w M q cs rs) (hL:L≤1000) (hok:mvOk cs rs=true):Calls Tryz.prog 39 #[M.val] w fun e w'=>∃M':Mo,e=.returned M'.val∧Below w.heap.size w w'∧MqV (2*L) w' M' q cs rs:=by
 generalize hP:(fun (e:Ending) (w':World)=>∃M':Mo,e=.returned M'.val∧Below w.heap.size w w'∧MqV (2*L) w' M' q cs rs)=P;have HA:Hid (∀w' (M':Mo),Below w.heap.size w w'→MqV (2*L) w' M' q cs rs→P (.returned M'.val) w'):=by subst hP;exact fun w' M' h1 h2=>⟨M',rfl,h1,h2⟩
 clear hP;simp only [mvOk,Bool.and_eq_true,decide_eq_true_eq,List.all_eq_true] at hok;obtain ⟨hck,hrk,hbc,hbr,_⟩:=hok;have HBC:=hid hbc;have HBR:=hid hbr
 have hlc:=h.ck;have hlr:=h.rk
 obtain ⟨ho,hx1,hx2,hC,hR⟩:=h;clear hx1 hx2;obtain ⟨⟨s,x,n,c,f,y,m,d,g⟩,ca,ck,cc,C,ra,rk,rc,R⟩:=M;replace hlc:ck=cs.length:=hlc;replace hlr:rk=rs.length:=hlr;rw [←hlc] at hck;rw [←hlr] at hrk;have HC:Hid (∀j v,cs[j]?=some v→(∃b o,ca=some ⟨b,o,none⟩∧Cs w b (o+j*12) (C j).vs)∧ColV L w (C j) v):=hC;have HRL:Hid (∀j v,rs[j]?=some v→(∃b o,ra=some ⟨b,o,none⟩∧Cs w b (o+j*10) (R j).vs)∧RowV L w (R j) v):=hR;have CO:=hid (fun w' (hw:Below w.heap.size w w')=>qFrom_c (w:=w') (ho.below hw) (Nat.le_trans hL (by decide)));replace CO:Hid (∀w' (hw:Below w.heap.size w w'),Calls Tryz.prog 74 #[.agg #[.bool s,.slice x n c,.slice y m d]] w' fun e w2=>∃s x n c d y m c' g,e=.returned (.agg #[.bool s,.slice x n c,.slice y m c'])∧Below w'.heap.size w' w2∧n≤2*L∧m≤2*L∧Qn w2 s x n d y m g q):=CO;have HLC:=hid hlc;have HLR:=hid hlr
 clear ho hC hR hbc hbr hlc hlr;show Calls Tryz.prog 39 #[.agg #[.bool s,.slice x n c,.slice y m d,.slice ca ck cc,.slice ra rk rc]] w _;go_enter Tryz.func39,Tryz.ntmps39;go_wp2_with fail
 have hb1:=below_alloc (below_alloc (Below.refl w.heap.size w) (.cells #[.bool s,.slice x n c,.slice y m d,.slice ca ck cc,.slice ra rk rc] 28)) (.cells #[.bool false,.slice none 0 0,.slice none 0 0,.slice none 0 0,.slice none 0 0] 93);have B1:=(bk_new w [.bool s,.slice x n c,.slice y m d,.slice ca ck cc,.slice ra rk rc] 28).below (below_alloc (Below.refl _ _) (.cells #[.bool false,.slice none 0 0,.slice none 0 0,.slice none 0 0,.slice none 0 0] 93));have B2:=bk_new (w.alloc (.cells #[.bool s,.slice x n c,.slice y m d,.slice ca ck cc,.slice ra rk rc] 28)) [.bool false,.slice none 0 0,.slice none 0 0,.slice none 0 0,.slice none 0 0] 93;rw [size_alloc1] at B2;replace B1:Bk ((w.alloc (.cells #[.bool s,.slice x n c,.slice y m d,.slice ca ck cc,.slice ra rk rc] 28)).alloc (.cells #[.bool false,.slice none 0 0,.slice none 0 0,.slice none 0 0,.slice none 0 0] 93)) w.heap.size [.bool s,.slice x n c,.slice y m d,.slice ca ck cc,.slice ra rk rc] 28:=B1;replace B2:Bk ((w.alloc (.cells #[.bool s,.slice x n c,.slice y m d,.slice ca ck cc,.slice ra rk rc] 28)).alloc (.cells #[.bool false,.slice none 0 0,.slice none 0 0,.slice none 0 0,.slice none 0 0] 93)) (w.heap.size+1) [.bool false,.slice none 0 0,.slice none 0 0,.slice none 0 0,.slice none 0 0] 93:=B2;generalize (w.alloc (.cells #[.bool s,.slice x n c,.slice y m d,.slice ca ck cc,.slice ra rk rc] 28)).alloc (.cells #[.bool false,.slice none 0 0,.slice none 0 0,.slice none 0 0,.slice none 0 0] 93)=w1 at *;refine (CO.out _ hb1).mono ?_;rintro e w2 ⟨sz,z2,nz,c2,fz,y2,mz,d2,gz,rfl,hb2,hq1,hq2,hq⟩;have B3:=bk_new w2 [.bool sz,.slice z2 nz c2,.slice y2 mz d2,.slice none 0 0,.slice none 0 0] 93;have hb3:=below_alloc (Below.refl w2.heap.size w2) (.cells #[.bool sz,.slice z2 nz c2,.slice y2 mz d2,.slice none 0 0,.slice none 0 0] 93);have l1:=B1.lt;have l2:=B2.lt;have l3:=hb2.size
 replace B1:=(B1.below hb2).below hb3;replace B2:=(B2.below hb2).below hb3
 have HB3:=hid ((hb1.trans (hb2.mono hb1.size)).trans (hb3.mono (Nat.le_trans hb1.size hb2.size)));have HQ:Hid (QnT (2*L) (w2.alloc (.cells #[.bool sz,.slice z2 nz c2,.slice y2 mz d2,.slice none 0 0,.slice none 0 0] 93)) ⟨sz,z2,nz,c2,fz,y2,mz,d2,gz⟩ q):=⟨hq1,hq2,hq.below hb3⟩;have k3:=B1.cell (j:=3) rfl;have HB1:=hid B1;have HB2:=hid B2
 obtain ⟨b3,hb3e⟩:∃z,w2.heap.size=z:=⟨_,rfl⟩;have hl3:w.heap.size+1<b3:=by omega
 have hbs:b3<(w2.alloc (.cells #[.bool sz,.slice z2 nz c2,.slice y2 mz d2,.slice none 0 0,.slice none 0 0] 93)).heap.size:=by simp;omega
 clear hb1 hb2 hb3 B1 B2 CO hq hq1 hq2 l1 l2 l3;go_wp2_with fail
 generalize w2.alloc (.cells #[.bool sz,.slice z2 nz c2,.slice y2 mz d2,.slice none 0 0,.slice none 0 0] 93)=w3 at *;rw [hb3e] at B3;obtain ⟨base,hbase⟩:∃z,w3.heap.size=z:=⟨_,rfl⟩;have hbb:b3<base:=by omega
 have HI0:Hid (FrC w base w.heap.size (w.heap.size+1) b3 [.bool s,.slice x n c,.slice y m d,.slice ca ck cc,.slice ra rk rc] [.bool false,.slice none 0 0,.slice none 0 0,.slice none 0 0,.slice none 0 0] sz z2 nz c2 y2 mz d2 ⟨sz,z2,nz,c2,fz,y2,mz,d2,gz⟩ (2*L) q cs w3 0 C (.slice none 0 0)):=⟨HB3.out,HB1.out,HB2.out,B3,by omega,HQ.out,rowG_nil _ _ _ _,fun j v hj=>by omega⟩;clear HB3 HB1 HB2 B3 HQ k3 hb3e hbs hbase;go_loopw [15] (fun t wr=>∃(i:Nat) (C':Nat→Lc) (vC:Value),i≤ck∧t=.int .i64 i∧Hid (FrC w base w.heap.size (w.heap.size+1) b3 [.bool s,.slice x n c,.slice y m d,.slice ca ck cc,.slice ra rk rc] [.bool false,.slice none 0 0,.slice none 0 0,.slice none 0 0,.slice none 0 0] sz z2 nz c2 y2 mz d2 ⟨sz,z2,nz,c2,fz,y2,mz,d2,gz⟩ (2*L) q cs wr i C' vC)) (fun t _=>ck-(intOf t).toNat)
 case atStart=>exact ⟨0,C,_,by omega,rfl,HI0.out⟩
 case round =>
  obtain ⟨i,C',vC,hi,rfl,HI⟩:=hrel;clear HI0;by_cases hlt:i<ck
  ·obtain ⟨cv,hcv⟩:∃v,cs[i]?=some v:=⟨_,List.getElem?_eq_getElem (by rw [←HLC.out];exact hlt)⟩;obtain ⟨⟨b,o,rfl,hc0⟩,hn0'⟩:=HC.out i cv hcv;have hc:=hc0.below HI.out.bel;have hn:=hn0'.below HI.out.bel;have hbd:=bd_at (HBC.out cv (List.mem_of_getElem? hcv));have HCV:=hid hcv;clear hc0 hn0' hcv;obtain ⟨cN,hcN⟩:∃t,C i=t:=⟨_,rfl⟩;rw [hcN] at hc hn;have HCN:=hid hcN;obtain ⟨z,⟨s0,x0,n0,c0,f0,y0,m0,d0,g0⟩,⟨i1,⟨s1,x1,n1,c1,f1,y1,m1,d1,g1⟩⟩,⟨i2,⟨s2,x2,n2,c2',f2,y2',m2,d2',g2⟩⟩⟩:=cN;obtain ⟨vnm,vcost,vli,vlq,vhi,vhq⟩:=cv;obtain ⟨hnm,hn0,hli,hn1,hhi,hn2⟩:=hn;replace hnm:z=vnm:=hnm;replace hli:i1=vli:=hli;replace hhi:i2=vhi:=hhi;subst hnm;subst hli;subst hhi
   have q0:wr.cell? ⟨b,o+i*12,none⟩=some (.string z):=hc 0 _ rfl;have q1:wr.cell? ⟨b,o+i*12+1,none⟩=some (.bool s0):=hc 1 _ rfl;have q2:wr.cell? ⟨b,o+i*12+2,none⟩=some (.slice x0 n0 c0):=hc 2 _ rfl;have q3:wr.cell? ⟨b,o+i*12+3,none⟩=some (.slice y0 m0 d0):=hc 3 _ rfl;have q4:wr.cell? ⟨b,o+i*12+4,none⟩=some (.int .i64 i1):=hc 4 _ rfl;have q5:wr.cell? ⟨b,o+i*12+5,none⟩=some (.bool s1):=hc 5 _ rfl;have q6:wr.cell? ⟨b,o+i*12+6,none⟩=some (.slice x1 n1 c1):=hc 6 _ rfl;have q7:wr.cell? ⟨b,o+i*12+7,none⟩=some (.slice y1 m1 d1):=hc 7 _ rfl;have q8:wr.cell? ⟨b,o+i*12+8,none⟩=some (.int .i64 i2):=hc 8 _ rfl;have q9:wr.cell? ⟨b,o+i*12+9,none⟩=some (.bool s2):=hc 9 _ rfl;have q10:wr.cell? ⟨b,o+i*12+10,none⟩=some (.slice x2 n2 c2'):=hc 10 _ rfl;have q11:wr.cell? ⟨b,o+i*12+11,none⟩=some (.slice y2' m2 d2'):=hc 11 _ rfl;have HN0:Hid (Rn L wr s0 x0 n0 c0 f0 y0 m0 d0 g0 vcost):=hn0;have HN1:Hid (En L wr i1 s1 x1 n1 c1 f1 y1 m1 d1 g1 vlq):=⟨hn1,hbd.1⟩;have HN2:Hid (En L wr i2 s2 x2 n2 c2' f2 y2' m2 d2' g2 vhq):=⟨hn2,hbd.2⟩;have i1':((i:Nat):Int)<((ck:Nat):Int):=by omega
   clear hcN hc hn0 hn1 hn2 hbd;go_upto_region 5 with fail
   have hb5:=Below.drew (below_alloc (Below.refl wr.heap.size wr) (.cells #[.string z,.bool s0,.slice x0 n0 c0,.slice y0 m0 d0,.int .i64 i1,.bool s1,.slice x1 n1 c1,.slice y1 m1 d1,.int .i64 i2,.bool s2,.slice x2 n2 c2',.slice y2' m2 d2'] 65));have B5:Bk (wr.alloc (.cells #[.string z,.bool s0,.slice x0 n0 c0,.slice y0 m0 d0,.int .i64 i1,.bool s1,.slice x1 n1 c1,.slice y1 m1 d1,.int .i64 i2,.bool s2,.slice x2 n2 c2',.slice y2' m2 d2'] 65)).drew wr.heap.size [.string z,.bool s0,.slice x0 n0 c0,.slice y0 m0 d0,.int .i64 i1,.bool s1,.slice x1 n1 c1,.slice y1 m1 d1,.int .i64 i2,.bool s2,.slice x2 n2 c2',.slice y2' m2 d2'] 65:=bk_new wr [.string z,.bool s0,.slice x0 n0 c0,.slice y0 m0 d0,.int .i64 i1,.bool s1,.slice x1 n1 c1,.slice y1 m1 d1,.int .i64 i2,.bool s2,.slice x2 n2 c2',.slice y2' m2 d2'] 65;have hne:vC.ownBlock≠some wr.heap.size:=fun e=>by have:=(HI.out.row.lt _ e).2;omega
   have hbz:=HI.out.bs;replace HI:=hid (HI.out.below hb5);replace HN0:=hid (HN0.out.below hb5);replace HN1:=hid (HN1.out.below hb5);replace HN2:=hid (HN2.out.below hb5)
   have a0:=B5.cell (j:=0) rfl;have a1:=B5.cell (j:=1) rfl;have a2:=B5.cell (j:=2) rfl;have a3:=B5.cell (j:=3) rfl;have a4:=B5.cell (j:=4) rfl;have a5:=B5.cell (j:=5) rfl;have a6:=B5.cell (j:=6) rfl;have a7:=B5.cell (j:=7) rfl;have a8:=B5.cell (j:=8) rfl;have a9:=B5.cell (j:=9) rfl;have a10:=B5.cell (j:=10) rfl;have a11:=B5.cell (j:=11) rfl;have HB5:=hid B5;obtain ⟨bk,hbk⟩:∃z,wr.heap.size=z:=⟨_,rfl⟩;simp only [hbk] at *;clear hb5 hbk q0 q1 q2 q3 q4 q5 q6 q7 q8 q9 q10 q11 B5;refine wp_region_held_drew (S:=(fun w'=>w'.cell? ⟨bk,0,none⟩=some (.string z)∧w'.cell? ⟨bk,1,none⟩=some (.bool s0)∧w'.cell? ⟨bk,2,none⟩=some (.slice x0 n0 c0)∧w'.cell? ⟨bk,3,none⟩=some (.slice y0 m0 d0)∧w'.cell? ⟨bk,4,none⟩=some (.int .i64 i1)∧w'.cell? ⟨bk,5,none⟩=some (.bool s1)∧w'.cell? ⟨bk,6,none⟩=some (.slice x1 n1 c1)∧w'.cell? ⟨bk,7,none⟩=some (.slice y1 m1 d1)∧w'.cell? ⟨bk,8,none⟩=some (.int .i64 i2)∧w'.cell? ⟨bk,9,none⟩=some (.bool s2)∧w'.cell? ⟨bk,10,none⟩=some (.slice x2 n2 c2')∧w'.cell? ⟨bk,11,none⟩=some (.slice y2' m2 d2'))) (by kernel_rfl) ?_ (fun hHeld=>?_)
   ·exact ⟨a0,a1,a2,a3,a4,a5,a6,a7,a8,a9,a10,a11⟩
   generalize hwd:(wr.alloc (.cells #[.string z,.bool s0,.slice x0 n0 c0,.slice y0 m0 d0,.int .i64 i1,.bool s1,.slice x1 n1 c1,.slice y1 m1 d1,.int .i64 i2,.bool s2,.slice x2 n2 c2',.slice y2' m2 d2'] 65)).drew=wd at *;clear hwd;refine tkO 0 ?_;simp only [lay_,Act.put];refine tkO 2 ?_;simp only [lay_,Act.put];refine tkO 3 ?_;simp only [lay_,Act.put];refine tkO 4 ?_;simp only [lay_,Act.put];refine tkO 5 ?_;simp only [lay_,Act.put];refine tkO 7 ?_;simp only [lay_,Act.put];refine tkO 8 ?_;simp only [lay_,Act.put];refine tkO 10 ?_;simp only [lay_,Act.put];refine tkO 11 ?_;simp only [lay_,Act.put];refine (show wpAnyH _ _ _ _ _ (6+3) _ _ _ from wpAnyH_flow (fun j v w=>match j with | 1=>vC=v | 6=>FN (2*L) vcost v w | 9=>FE (2*L) i1 vlq v w | 12=>FE (2*L) i2 vhq v w | 13=>FC (2*L) ⟨z,vcost,i1,vlq,i2,vhq⟩ v w | 14=>FCs (2*L) ⟨z,vcost,i1,vlq,i2,vhq⟩ v w | _=>True) [(1,20),(6,25),(9,28),(12,31),(13,32),(14,33)] [1,6,9,12,13,14] [15,16,17] _ _ _ 3 ?k1 ?k4 ?k2 ?k3 ?k5 ?k6 ?k8)
   case k1=>kernel_rfl
   case k4=>kernel_rfl
   case k2=>exact fun w w' h hb=>⟨kCb hb h.1,kCb hb h.2.1,kCb hb h.2.2.1,kCb hb h.2.2.2.1,kCb hb h.2.2.2.2.1,kCb hb h.2.2.2.2.2.1,kCb hb h.2.2.2.2.2.2.1,kCb hb h.2.2.2.2.2.2.2.1,kCb hb h.2.2.2.2.2.2.2.2.1,kCb hb h.2.2.2.2.2.2.2.2.2.1,kCb hb h.2.2.2.2.2.2.2.2.2.2.1,kCb hb h.2.2.2.2.2.2.2.2.2.2.2⟩
   case k3 =>
    intro j v w w' h hb
    split at h <;> first | exact FN.below h hb | exact FE.below h hb | exact FC.below h hb | exact FCs.below h hb | exact h | trivial
   case k8=>exact hHeld
   case k5 =>
    intro i hi;simp only [List.mem_cons,List.not_mem_nil,or_false] at hi;rcases hi with rfl | rfl | rfl | rfl | rfl | rfl
    ·refine ⟨_,rfl,fun u w5 hS hb5 hd K hK=>?_⟩;have k5:=(HI.out.p3.below hb5).cell (j:=3) rfl;simp only [fill,List.foldl_cons,List.foldl_nil,Act.put,List.setIfInBounds_toArray,List.set_cons_zero,List.set_cons_succ] at hK ⊢;go_simp;exact hK.out _ _ (Below.refl _ _) rfl
    ·refine ⟨_,rfl,fun u w5 hS hb5 hd K hK=>?_⟩;simp only [fill,List.foldl_cons,List.foldl_nil,Act.put,List.setIfInBounds_toArray,List.set_cons_zero,List.set_cons_succ] at hK ⊢;go_simp
     go_at_call 74
     refine (qFrom_c (HN0.out.below hb5) (Nat.le_trans hL (by decide))).mono ?_;rintro e w6 ⟨sq,zp,nq9,cp,dp,zq,mq9,cq,gq,rfl,hb6,hq1,hq2,hq⟩
     (try go_wp2_with fail)
     exact hK.out _ _ hb6 ⟨⟨sq,zp,nq9,cp,dp,zq,mq9,cq,gq⟩,rfl,hq1,hq2,hq⟩
    ·refine ⟨_,rfl,fun u w5 hS hb5 hd K hK=>?_⟩;simp only [fill,List.foldl_cons,List.foldl_nil,Act.put,List.setIfInBounds_toArray,List.set_cons_zero,List.set_cons_succ] at hK ⊢;go_simp
     go_at_call 75
     refine (xFrom_c (HN1.out.below hb5) hL).mono ?_;rintro e w6 ⟨sq,zp,nq9,cp,dp,zq,mq9,cq,gq,rfl,hb6,hq⟩
     (try go_wp2_with fail)
     exact hK.out _ _ hb6 ⟨⟨i1,⟨sq,zp,nq9,cp,dp,zq,mq9,cq,gq⟩⟩,rfl,rfl,hq.out.1,hq.out.2.1,hq.out.2.2.qn⟩
    ·refine ⟨_,rfl,fun u w5 hS hb5 hd K hK=>?_⟩;simp only [fill,List.foldl_cons,List.foldl_nil,Act.put,List.setIfInBounds_toArray,List.set_cons_zero,List.set_cons_succ] at hK ⊢;go_simp
     go_at_call 75
     refine (xFrom_c (HN2.out.below hb5) hL).mono ?_;rintro e w6 ⟨sq,zp,nq9,cp,dp,zq,mq9,cq,gq,rfl,hb6,hq⟩
     (try go_wp2_with fail)
     exact hK.out _ _ hb6 ⟨⟨i2,⟨sq,zp,nq9,cp,dp,zq,mq9,cq,gq⟩⟩,rfl,rfl,hq.out.1,hq.out.2.1,hq.out.2.2.qn⟩
    ·refine ⟨_,rfl,fun u w5 hS hb5 hd K hK=>?_⟩;have h6:FN (2*L) vcost (u 6) w5:=hd 6 (by kernel_rfl) (by kernel_rfl);obtain ⟨⟨sa6,xa6,na6,ca6,fa6,ya6,ma6,da6,ga6⟩,e6,hv6⟩:=h6;replace e6:u 6=.agg #[.bool sa6,.slice xa6 na6 ca6,.slice ya6 ma6 da6]:=e6;have h9:FE (2*L) i1 vlq (u 9) w5:=hd 9 (by kernel_rfl) (by kernel_rfl);obtain ⟨⟨ia9,⟨sa9,xa9,na9,ca9,fa9,ya9,ma9,da9,ga9⟩⟩,e9,hi9,hv9⟩:=h9;replace e9:u 9=.agg #[.int .i64 ia9,.bool sa9,.slice xa9 na9 ca9,.slice ya9 ma9 da9]:=e9;have h12:FE (2*L) i2 vhq (u 12) w5:=hd 12 (by kernel_rfl) (by kernel_rfl);obtain ⟨⟨ia12,⟨sa12,xa12,na12,ca12,fa12,ya12,ma12,da12,ga12⟩⟩,e12,hi12,hv12⟩:=h12;replace e12:u 12=.agg #[.int .i64 ia12,.bool sa12,.slice xa12 na12 ca12,.slice ya12 ma12 da12]:=e12;simp only [fill,List.foldl_cons,List.foldl_nil,Act.put,List.setIfInBounds_toArray,List.set_cons_zero,List.set_cons_succ] at hK ⊢;simp only [e6,e9,e12] at hK ⊢;go_simp;exact hK.out _ _ (Below.refl _ _) ⟨⟨z,⟨sa6,xa6,na6,ca6,fa6,ya6,ma6,da6,ga6⟩,⟨ia9,⟨sa9,xa9,na9,ca9,fa9,ya9,ma9,da9,ga9⟩⟩,⟨ia12,⟨sa12,xa12,na12,ca12,fa12,ya12,ma12,da12,ga12⟩⟩⟩,rfl,rfl,hv6,hi9,hv9,hi12,hv12⟩
    ·refine ⟨_,rfl,fun u w5 hS hb5 hd K hK=>?_⟩;have h13:FC (2*L) ⟨z,vcost,i1,vlq,i2,vhq⟩ (u 13) w5:=hd 13 (by kernel_rfl) (by kernel_rfl);obtain ⟨⟨zj,⟨sb,xb,nb,cb,fb,yb,mb,db,gb⟩,⟨ic,⟨sc,xc,nc,cc9,fc,yc,mc,dc,gc⟩⟩,⟨ie,⟨sd,xd,nd,cd,fd,yd,md,dd,gd⟩⟩⟩,e13,hv⟩:=h13;replace e13:u 13=.agg #[.string zj,.bool sb,.slice xb nb cb,.slice yb mb db,.int .i64 ic,.bool sc,.slice xc nc cc9,.slice yc mc dc,.int .i64 ie,.bool sd,.slice xd nd cd,.slice yd md dd]:=e13;simp only [fill,List.foldl_cons,List.foldl_nil,Act.put,List.setIfInBounds_toArray,List.set_cons_zero,List.set_cons_succ] at hK ⊢;simp only [e13] at hK ⊢;go_simp;have hn:=below_alloc (Below.refl w5.heap.size w5) (.cells #[.string zj,.bool sb,.slice xb nb cb,.slice yb mb db,.int .i64 ic,.bool sc,.slice xc nc cc9,.slice yc mc dc,.int .i64 ie,.bool sd,.slice xd nd cd,.slice yd md dd] 128);have hx:=cs_new w5 128 [.string zj,.bool sb,.slice xb nb cb,.slice yb mb db,.int .i64 ic,.bool sc,.slice xc nc cc9,.slice yc mc dc,.int .i64 ie,.bool sd,.slice xd nd cd,.slice yd md dd] [.string zj,.bool sb,.slice xb nb cb,.slice yb mb db,.int .i64 ic,.bool sc,.slice xc nc cc9,.slice yc mc dc,.int .i64 ie,.bool sd,.slice xd nd cd,.slice yd md dd] 0 (fun j v e=>by rw [Nat.zero_add];exact e);exact hK.out _ _ hn ⟨w5.heap.size,⟨zj,⟨sb,xb,nb,cb,fb,yb,mb,db,gb⟩,⟨ic,⟨sc,xc,nc,cc9,fc,yc,mc,dc,gc⟩⟩,⟨ie,⟨sd,xd,nd,cd,fd,yd,md,dd,gd⟩⟩⟩,rfl,hx,hv.below hn⟩
   case k6 =>
    intro u w5 hS5 hb5 hg;have h1:vC=u 1:=hg 1 (by simp);have h14:FCs (2*L) ⟨z,vcost,i1,vlq,i2,vhq⟩ (u 14) w5:=hg 14 (by simp);obtain ⟨b14,⟨zj,⟨sb,xb,nb,cb,fb,yb,mb,db,gb⟩,⟨ic,⟨sc,xc,nc,cc9,fc,yc,mc,dc,gc⟩⟩,⟨ie,⟨sd,xd,nd,cd,fd,yd,md,dd,gd⟩⟩⟩,e14,hcs,hqc⟩:=h14;replace HI:=hid (HI.out.below hb5);obtain ⟨i0,hi0,hz0,hz1,hz2⟩:=info_parts Tryz.infoRC;obtain ⟨t0,t1,t2,t3,t4,t5,t6,t7,t8,t9,t10,t11⟩:=id hS5;have hbl:=World.block_lt_of_cell? w5 _ t0;replace hbl:bk<w5.heap.size:=hbl;clear hg;simp only [fill,List.foldl_cons,List.foldl_nil,Act.put,List.setIfInBounds_toArray,List.set_cons_zero,List.set_cons_succ];simp only [←h1,e14];clear h1 e14;refine wpAnyH_ready (rs:=[15]) (by kernel_rfl) (by simp) ?_;refine AllReadyH.cons (o:=_) rfl (fun K hK=>?_) ?_;rotate_left;exact AllReadyH.nil;refine step_append_W w5 rfl (.tmp 20) (.tmp 33) 90 rfl base 128 i0 zC 12 200 Tryz.underlying90 hi0 hz0 hz1 hz2 rfl (by decide) nzC vC i (ccs C' i) rfl HI.out.row ⟨b14,0,none⟩ 1 1 (Lc.vs ⟨zj,⟨sb,xb,nb,cb,fb,yb,mb,db,gb⟩,⟨ic,⟨sc,xc,nc,cc9,fc,yc,mc,dc,gc⟩⟩,⟨ie,⟨sd,xd,nd,cd,fd,yd,md,dd,gd⟩⟩⟩) rfl rfl ?n1 (vsC_one _) (vsC_not _) (by decide) ?p1 ?p2 HI.out.bs ?_
    case n1=>intro j u hu;rw [addr_add];exact hcs j u hu
    case p1=>unfold maxLen;omega
    case p2=>omega
    intro g8 cap8 w8 hr8 hgr8 hk8 hl8;have hB8:=hgr8.block bk hbl (fun e=>hne e.symm);have e0:=(World.cell?_of_block (a:=⟨bk,0,none⟩) hB8).trans t0;have e1:=(World.cell?_of_block (a:=⟨bk,1,none⟩) hB8).trans t1;have e2:=(World.cell?_of_block (a:=⟨bk,2,none⟩) hB8).trans t2;have e3:=(World.cell?_of_block (a:=⟨bk,3,none⟩) hB8).trans t3;have e4:=(World.cell?_of_block (a:=⟨bk,4,none⟩) hB8).trans t4;have e5:=(World.cell?_of_block (a:=⟨bk,5,none⟩) hB8).trans t5;have e6:=(World.cell?_of_block (a:=⟨bk,6,none⟩) hB8).trans t6;have e7:=(World.cell?_of_block (a:=⟨bk,7,none⟩) hB8).trans t7;have e8:=(World.cell?_of_block (a:=⟨bk,8,none⟩) hB8).trans t8;have e9:=(World.cell?_of_block (a:=⟨bk,9,none⟩) hB8).trans t9;have e10:=(World.cell?_of_block (a:=⟨bk,10,none⟩) hB8).trans t10;have e11:=(World.cell?_of_block (a:=⟨bk,11,none⟩) hB8).trans t11;have hp8:=HI.out.p3.of (hgr8.block b3 HI.out.p3.lt (fun e=>by have:=(HI.out.row.lt b3 e.symm).1;omega));have f0:=hp8.cell (j:=3) rfl;have ff:=hp8.frozen 3;refine hK.out _ _ ?_ (fun hH8=>?_)
    ·exact ⟨e0,e1,e2,e3,e4,e5,e6,e7,e8,e9,e10,e11⟩
    clear hK K;try simp only [Act.put,List.setIfInBounds_toArray]
    refine tkO 16 ?_;simp only [lay_,Act.put];refine wpAnyH_ready (rs:=[17]) (by kernel_rfl) (by simp) ?_;refine AllReadyH.cons (o:=_) rfl (fun K hK=>?_) ?_;rotate_left;exact AllReadyH.nil;go_simp;refine hK.out _ _ ?_ (fun hH9=>?_)
    ·((try dsimp only);(refine ⟨?_,?_,?_,?_,?_,?_,?_,?_,?_,?_,?_,?_⟩ <;> repeat (with_reducible first | assumption | refine kCs (by simp only [ne_eq];omega) ?_)))
    clear hK K;try simp only [Act.put]
    refine wpAnyH_done (by kernel_rfl) ?_ _;have HI9:=hid (HI.out.next (by omega) (by omega) hbb (Nat.le_refl _) (fun v hv=>by rw [HCV.out] at hv;cases hv;exact hqc) hr8 hk8 hgr8);clear hr8 hgr8 hk8 hl8 hB8 hp8 f0 ff hH8 hH9 HI hqc hcs hHeld HB5 e0 e1 e2 e3 e4 e5 e6 e7 e8 e9 e10 e11;go_wp2;go_roundw
    case rel=>exact ⟨i+1,_,_,by omega,by go_num,HI9.out⟩
    case measure=>simp [intOf];omega
  ·have e1:i=ck:=by omega
   have i2':¬(((i:Nat):Int)<((ck:Nat):Int)):=by omega
   rw [e1] at HI;have k4:=HI.out.p1.cell (j:=4) rfl;obtain ⟨base2,hbase2⟩:∃z,wr.heap.size=z:=⟨_,rfl⟩;have hb2:base≤base2:=by have:=HI.out.bs;omega
   have HI2:Hid (FrR w base base2 (w.heap.size+1) b3 [.bool false,.slice none 0 0,.slice none 0 0,.slice none 0 0,.slice none 0 0] sz z2 nz c2 y2 mz d2 ⟨sz,z2,nz,c2,fz,y2,mz,d2,gz⟩ (2*L) q cs ck C' vC rs wr 0 R (.slice none 0 0)):=⟨HI.out.bel,HI.out.p2,HI.out.p3,by omega,HI.out.off,HI.out.row,HI.out.el,fun k hk=>by have:=(HI.out.row.lt k hk).2;omega,rowG_nil _ _ _ _,fun j v hj=>by omega⟩;clear HI e1 HC hbase2;go_wp2_with fail
   go_loopw [40] (fun t wr=>∃(i:Nat) (R':Nat→Lr) (vR:Value),i≤rk∧t=.int .i64 i∧Hid (FrR w base base2 (w.heap.size+1) b3 [.bool false,.slice none 0 0,.slice none 0 0,.slice none 0 0,.slice none 0 0] sz z2 nz c2 y2 mz d2 ⟨sz,z2,nz,c2,fz,y2,mz,d2,gz⟩ (2*L) q cs ck C' vC rs wr i R' vR)) (fun t _=>rk-(intOf t).toNat)
   case atStart=>exact ⟨0,R,_,by omega,rfl,HI2.out⟩
   case round =>
    obtain ⟨i,R',vR,hi,rfl,HI⟩:=hrel;clear HI2 k4;by_cases hlt:i<rk
    ·obtain ⟨rv,hrv⟩:∃v,rs[i]?=some v:=⟨_,List.getElem?_eq_getElem (by rw [←HLR.out];exact hlt)⟩;obtain ⟨⟨b,o,rfl,hc0⟩,hn0'⟩:=HRL.out i rv hrv;have hc:=hc0.below HI.out.bel;have hn:=hn0'.below HI.out.bel;obtain ⟨hbd0,hts1,hts2⟩:=HBR.out rv (List.mem_of_getElem? hrv);have hbd:=bd_at hbd0;have HRV:=hid hrv;clear hc0 hn0' hrv hbd0 hts1;obtain ⟨rN,hrN⟩:∃t,R i=t:=⟨_,rfl⟩;rw [hrN] at hc hn;have HRN:=hid hrN;obtain ⟨z,⟨i1,⟨s1,x1,n1,c1,f1,y1,m1,d1,g1⟩⟩,⟨i2,⟨s2,x2,n2,c2',f2,y2',m2,d2',g2⟩⟩,ta,tk,tc,tcol,tt⟩:=rN;have hT:=hn.tls (Nat.le_trans hL (by decide));have hQ:∀j,j<(Lr.mk z ⟨i1,⟨s1,x1,n1,c1,f1,y1,m1,d1,g1⟩⟩ ⟨i2,⟨s2,x2,n2,c2',f2,y2',m2,d2',g2⟩⟩ ta tk tc tcol tt).tk→∃q',rv.ts[j]?=some (tcol j,q')∧Rn L wr (tt j).s (tt j).x (tt j).n (tt j).c (tt j).f (tt j).y (tt j).m (tt j).d (tt j).g q':=fun j hj=>by
      rw [hn.tk] at hj;obtain ⟨⟨a,q'⟩,e⟩:∃v,rv.ts[j]?=some v:=⟨_,List.getElem?_eq_getElem hj⟩;obtain ⟨e1,e2,_⟩:=hn.tl j a q' e;exact ⟨q',by rw [e,←e1],e2⟩
     obtain ⟨vnm,vli,vlq,vhi,vhq,vts⟩:=rv;obtain ⟨hnm,hli,hn1,hhi,hn2,htk,_⟩:=hn;replace hnm:z=vnm:=hnm;replace hli:i1=vli:=hli;replace hhi:i2=vhi:=hhi;replace htk:tk=vts.length:=htk;subst hnm;subst hli;subst hhi
     have q0:wr.cell? ⟨b,o+i*10,none⟩=some (.string z):=hc 0 _ rfl;have q1:wr.cell? ⟨b,o+i*10+1,none⟩=some (.int .i64 i1):=hc 1 _ rfl;have q2:wr.cell? ⟨b,o+i*10+2,none⟩=some (.bool s1):=hc 2 _ rfl;have q3:wr.cell? ⟨b,o+i*10+3,none⟩=some (.slice x1 n1 c1):=hc 3 _ rfl;have q4:wr.cell? ⟨b,o+i*10+4,none⟩=some (.slice y1 m1 d1):=hc 4 _ rfl;have q5:wr.cell? ⟨b,o+i*10+5,none⟩=some (.int .i64 i2):=hc 5 _ rfl;have q6:wr.cell? ⟨b,o+i*10+6,none⟩=some (.bool s2):=hc 6 _ rfl;have q7:wr.cell? ⟨b,o+i*10+7,none⟩=some (.slice x2 n2 c2'):=hc 7 _ rfl;have q8:wr.cell? ⟨b,o+i*10+8,none⟩=some (.slice y2' m2 d2'):=hc 8 _ rfl;have q9:wr.cell? ⟨b,o+i*10+9,none⟩=some (.slice ta tk tc):=hc 9 _ rfl;have HN1:Hid (En L wr i1 s1 x1 n1 c1 f1 y1 m1 d1 g1 vlq):=⟨hn1,hbd.1⟩;have HN2:Hid (En L wr i2 s2 x2 n2 c2' f2 y2' m2 d2' g2 vhq):=⟨hn2,hbd.2⟩;have HN3:Hid (∀W,Below wr.heap.size wr W→Calls Tryz.prog 76 #[.slice ta tk tc] W fun e w'=>FrNew (2*L) W w' e tk vts):=fun W hW=>fromTN_c (hT.below hW) (Nat.le_trans (Nat.le_of_eq htk) (Nat.le_trans hts2 (by decide))) (Nat.le_trans hL (by decide)) htk.symm (fun j hj=>by obtain ⟨q',e1,e2⟩:=hQ j hj;exact ⟨q',e1,e2.below hW⟩)
     have HTK:=hid htk;have i1':((i:Nat):Int)<((rk:Nat):Int):=by omega
     clear hrN hc hn1 hn2 hT hQ hbd htk;go_upto_region 10 with fail
     have hb5:=Below.drew (below_alloc (Below.refl wr.heap.size wr) (.cells #[.string z,.int .i64 i1,.bool s1,.slice x1 n1 c1,.slice y1 m1 d1,.int .i64 i2,.bool s2,.slice x2 n2 c2',.slice y2' m2 d2',.slice ta tk tc] 68));have B5:Bk (wr.alloc (.cells #[.string z,.int .i64 i1,.bool s1,.slice x1 n1 c1,.slice y1 m1 d1,.int .i64 i2,.bool s2,.slice x2 n2 c2',.slice y2' m2 d2',.slice ta tk tc] 68)).drew wr.heap.size [.string z,.int .i64 i1,.bool s1,.slice x1 n1 c1,.slice y1 m1 d1,.int .i64 i2,.bool s2,.slice x2 n2 c2',.slice y2' m2 d2',.slice ta tk tc] 68:=bk_new wr [.string z,.int .i64 i1,.bool s1,.slice x1 n1 c1,.slice y1 m1 d1,.int .i64 i2,.bool s2,.slice x2 n2 c2',.slice y2' m2 d2',.slice ta tk tc] 68;have hne:vR.ownBlock≠some wr.heap.size:=fun e=>by have:=(HI.out.row.lt _ e).2;omega
     have hbz:=HI.out.bs;replace HI:=hid (HI.out.below hb5);replace HN1:=hid (HN1.out.below hb5);replace HN2:=hid (HN2.out.below hb5)
     replace HN3:Hid (∀W,Below (wr.alloc (.cells #[.string z,.int .i64 i1,.bool s1,.slice x1 n1 c1,.slice y1 m1 d1,.int .i64 i2,.bool s2,.slice x2 n2 c2',.slice y2' m2 d2',.slice ta tk tc] 68)).drew.heap.size (wr.alloc (.cells #[.string z,.int .i64 i1,.bool s1,.slice x1 n1 c1,.slice y1 m1 d1,.int .i64 i2,.bool s2,.slice x2 n2 c2',.slice y2' m2 d2',.slice ta tk tc] 68)).drew W→Calls Tryz.prog 76 #[.slice ta tk tc] W fun e w'=>FrNew (2*L) W w' e tk vts):=fun W hW=>HN3.out W (hb5.trans (hW.mono hb5.size))
     have a0:=B5.cell (j:=0) rfl;have a1:=B5.cell (j:=1) rfl;have a2:=B5.cell (j:=2) rfl;have a3:=B5.cell (j:=3) rfl;have a4:=B5.cell (j:=4) rfl;have a5:=B5.cell (j:=5) rfl;have a6:=B5.cell (j:=6) rfl;have a7:=B5.cell (j:=7) rfl;have a8:=B5.cell (j:=8) rfl;have a9:=B5.cell (j:=9) rfl;have HB5:=hid B5;obtain ⟨bk,hbk⟩:∃z,wr.heap.size=z:=⟨_,rfl⟩;simp only [hbk] at *;clear hb5 hbk q0 q1 q2 q3 q4 q5 q6 q7 q8 q9 B5;refine wp_region_held_drew (S:=(fun w'=>w'.cell? ⟨bk,0,none⟩=some (.string z)∧w'.cell? ⟨bk,1,none⟩=some (.int .i64 i1)∧w'.cell? ⟨bk,2,none⟩=some (.bool s1)∧w'.cell? ⟨bk,3,none⟩=some (.slice x1 n1 c1)∧w'.cell? ⟨bk,4,none⟩=some (.slice y1 m1 d1)∧w'.cell? ⟨bk,5,none⟩=some (.int .i64 i2)∧w'.cell? ⟨bk,6,none⟩=some (.bool s2)∧w'.cell? ⟨bk,7,none⟩=some (.slice x2 n2 c2')∧w'.cell? ⟨bk,8,none⟩=some (.slice y2' m2 d2')∧w'.cell? ⟨bk,9,none⟩=some (.slice ta tk tc))) (by kernel_rfl) ?_ (fun hHeld=>?_)
     ·exact ⟨a0,a1,a2,a3,a4,a5,a6,a7,a8,a9⟩
     generalize hwd:(wr.alloc (.cells #[.string z,.int .i64 i1,.bool s1,.slice x1 n1 c1,.slice y1 m1 d1,.int .i64 i2,.bool s2,.slice x2 n2 c2',.slice y2' m2 d2',.slice ta tk tc] 68)).drew=wd at *;clear hwd;obtain ⟨bse,hbse⟩:∃z,wd.heap.size=z:=⟨_,rfl⟩;have hb2s:base2≤bse:=by have:=HI.out.bs;omega
     have hown:∀b,bse≤b→vR.ownBlock≠some b:=fun b hb e=>by have:=(HI.out.row.lt b e).2;omega
     have HW:=hid hown;clear hown;refine tkO 0 ?_;simp only [lay_,Act.put];refine tkO 2 ?_;simp only [lay_,Act.put];refine tkO 3 ?_;simp only [lay_,Act.put];refine tkO 4 ?_;simp only [lay_,Act.put];refine tkO 5 ?_;simp only [lay_,Act.put];refine tkO 7 ?_;simp only [lay_,Act.put];refine tkO 8 ?_;simp only [lay_,Act.put];refine tkO 10 ?_;simp only [lay_,Act.put];refine tkO 11 ?_;simp only [lay_,Act.put];refine (show wpAnyH _ _ _ _ _ (6+3) _ _ _ from wpAnyH_flow (fun j v w=>match j with | 1=>vR=v | 6=>FE (2*L) i1 vlq v w | 9=>FE (2*L) i2 vhq v w | 12=>FT (2*L) bse tk vts v w | 13=>FR (2*L) bse ⟨z,i1,vlq,i2,vhq,vts⟩ v w | 14=>FRs (2*L) bse ⟨z,i1,vlq,i2,vhq,vts⟩ v w | _=>True) [(1,45),(6,50),(9,53),(12,56),(13,57),(14,58)] [1,6,9,12,13,14] [15,16,17] _ _ _ 3 ?k1 ?k4 ?k2 ?k3 ?k5 ?k6 ?k8)
     case k1=>kernel_rfl
     case k4=>kernel_rfl
     case k2=>exact fun w w' h hb=>⟨kCb hb h.1,kCb hb h.2.1,kCb hb h.2.2.1,kCb hb h.2.2.2.1,kCb hb h.2.2.2.2.1,kCb hb h.2.2.2.2.2.1,kCb hb h.2.2.2.2.2.2.1,kCb hb h.2.2.2.2.2.2.2.1,kCb hb h.2.2.2.2.2.2.2.2.1,kCb hb h.2.2.2.2.2.2.2.2.2⟩
     case k3 =>
      intro j v w w' h hb
      split at h <;> first | exact FE.below h hb | exact FT.below h hb | exact FR.below h hb | exact FRs.below h hb | exact h | trivial
     case k8=>exact hHeld
     case k5 =>
      intro i hi;simp only [List.mem_cons,List.not_mem_nil,or_false] at hi;rcases hi with rfl | rfl | rfl | rfl | rfl | rfl
      ·refine ⟨_,rfl,fun u w5 hS hb5 hd K hK=>?_⟩;have k5:=(HI.out.p3.below hb5).cell (j:=4) rfl;simp only [fill,List.foldl_cons,List.foldl_nil,Act.put,List.setIfInBounds_toArray,List.set_cons_zero,List.set_cons_succ] at hK ⊢;go_simp;exact hK.out _ _ (Below.refl _ _) rfl
      ·refine ⟨_,rfl,fun u w5 hS hb5 hd K hK=>?_⟩;simp only [fill,List.foldl_cons,List.foldl_nil,Act.put,List.setIfInBounds_toArray,List.set_cons_zero,List.set_cons_succ] at hK ⊢;go_simp
       go_at_call 75
       refine (xFrom_c (HN1.out.below hb5) hL).mono ?_;rintro e w6 ⟨sq,zp,nq9,cp,dp,zq,mq9,cq,gq,rfl,hb6,hq⟩
       (try go_wp2_with fail)
       exact hK.out _ _ hb6 ⟨⟨i1,⟨sq,zp,nq9,cp,dp,zq,mq9,cq,gq⟩⟩,rfl,rfl,hq.out.1,hq.out.2.1,hq.out.2.2.qn⟩
      ·refine ⟨_,rfl,fun u w5 hS hb5 hd K hK=>?_⟩;simp only [fill,List.foldl_cons,List.foldl_nil,Act.put,List.setIfInBounds_toArray,List.set_cons_zero,List.set_cons_succ] at hK ⊢;go_simp
       go_at_call 75
       refine (xFrom_c (HN2.out.below hb5) hL).mono ?_;rintro e w6 ⟨sq,zp,nq9,cp,dp,zq,mq9,cq,gq,rfl,hb6,hq⟩
       (try go_wp2_with fail)
       exact hK.out _ _ hb6 ⟨⟨i2,⟨sq,zp,nq9,cp,dp,zq,mq9,cq,gq⟩⟩,rfl,rfl,hq.out.1,hq.out.2.1,hq.out.2.2.qn⟩
      ·refine ⟨_,rfl,fun u w5 hS hb5 hd K hK=>?_⟩;simp only [fill,List.foldl_cons,List.foldl_nil,Act.put,List.setIfInBounds_toArray,List.set_cons_zero,List.set_cons_succ] at hK ⊢;go_simp
       go_at_call 76
       refine (HN3.out _ hb5).mono ?_;rintro e w6 ⟨aw,cw,rfl,hb6,_,hfr,hq⟩
       (try go_wp2_with fail)
       exact hK.out _ _ hb6 ⟨aw,cw,rfl,fun b o s e=>by have h1:=hfr b o s e;have h2:=hb5.size;omega,hq.out⟩
      ·refine ⟨_,rfl,fun u w5 hS hb5 hd K hK=>?_⟩;have h6:FE (2*L) i1 vlq (u 6) w5:=hd 6 (by kernel_rfl) (by kernel_rfl);obtain ⟨⟨ia6,⟨sa6,xa6,na6,ca6,fa6,ya6,ma6,da6,ga6⟩⟩,e6,hi6,hv6⟩:=h6;replace e6:u 6=.agg #[.int .i64 ia6,.bool sa6,.slice xa6 na6 ca6,.slice ya6 ma6 da6]:=e6;have h9:FE (2*L) i2 vhq (u 9) w5:=hd 9 (by kernel_rfl) (by kernel_rfl);obtain ⟨⟨ia9,⟨sa9,xa9,na9,ca9,fa9,ya9,ma9,da9,ga9⟩⟩,e9,hi9,hv9⟩:=h9;replace e9:u 9=.agg #[.int .i64 ia9,.bool sa9,.slice xa9 na9 ca9,.slice ya9 ma9 da9]:=e9;have h12:FT (2*L) bse tk vts (u 12) w5:=hd 12 (by kernel_rfl) (by kernel_rfl);obtain ⟨aw,cw,e12,hfr,htq⟩:=h12;simp only [fill,List.foldl_cons,List.foldl_nil,Act.put,List.setIfInBounds_toArray,List.set_cons_zero,List.set_cons_succ] at hK ⊢;simp only [e6,e9,e12] at hK ⊢;go_simp;exact hK.out _ _ (Below.refl _ _) ⟨⟨z,⟨ia6,⟨sa6,xa6,na6,ca6,fa6,ya6,ma6,da6,ga6⟩⟩,⟨ia9,⟨sa9,xa9,na9,ca9,fa9,ya9,ma9,da9,ga9⟩⟩,aw,tk,cw,fun _=>0,fun _=>nz9⟩,rfl,⟨rfl,hi6,hv6,hi9,hv9,HTK.out,htq⟩,hfr⟩
      ·refine ⟨_,rfl,fun u w5 hS hb5 hd K hK=>?_⟩;have h13:FR (2*L) bse ⟨z,i1,vlq,i2,vhq,vts⟩ (u 13) w5:=hd 13 (by kernel_rfl) (by kernel_rfl);obtain ⟨⟨zj,⟨ic,⟨sc,xc,nc,cc9,fc,yc,mc,dc,gc⟩⟩,⟨ie,⟨sd,xd,nd,cd,fd,yd,md,dd,gd⟩⟩,ta9,tk9,tc9,tcol9,tt9⟩,e13,hv,hfr⟩:=h13;replace e13:u 13=.agg #[.string zj,.int .i64 ic,.bool sc,.slice xc nc cc9,.slice yc mc dc,.int .i64 ie,.bool sd,.slice xd nd cd,.slice yd md dd,.slice ta9 tk9 tc9]:=e13;simp only [fill,List.foldl_cons,List.foldl_nil,Act.put,List.setIfInBounds_toArray,List.set_cons_zero,List.set_cons_succ] at hK ⊢;simp only [e13] at hK ⊢;go_simp;have hn:=below_alloc (Below.refl w5.heap.size w5) (.cells #[.string zj,.int .i64 ic,.bool sc,.slice xc nc cc9,.slice yc mc dc,.int .i64 ie,.bool sd,.slice xd nd cd,.slice yd md dd,.slice ta9 tk9 tc9] 131);have hx:=cs_new w5 131 [.string zj,.int .i64 ic,.bool sc,.slice xc nc cc9,.slice yc mc dc,.int .i64 ie,.bool sd,.slice xd nd cd,.slice yd md dd,.slice ta9 tk9 tc9] [.string zj,.int .i64 ic,.bool sc,.slice xc nc cc9,.slice yc mc dc,.int .i64 ie,.bool sd,.slice xd nd cd,.slice yd md dd,.slice ta9 tk9 tc9] 0 (fun j v e=>by rw [Nat.zero_add];exact e);exact hK.out _ _ hn ⟨w5.heap.size,⟨zj,⟨ic,⟨sc,xc,nc,cc9,fc,yc,mc,dc,gc⟩⟩,⟨ie,⟨sd,xd,nd,cd,fd,yd,md,dd,gd⟩⟩,ta9,tk9,tc9,tcol9,tt9⟩,rfl,hx,hv.below hn,hfr⟩
     case k6 =>
      intro u w5 hS5 hb5 hg;have h1:vR=u 1:=hg 1 (by simp);have h14:FRs (2*L) bse ⟨z,i1,vlq,i2,vhq,vts⟩ (u 14) w5:=hg 14 (by simp);obtain ⟨b14,⟨zj,⟨ic,⟨sc,xc,nc,cc9,fc,yc,mc,dc,gc⟩⟩,⟨ie,⟨sd,xd,nd,cd,fd,yd,md,dd,gd⟩⟩,ta9,tk9,tc9,tcol9,tt9⟩,e14,hcs,hqc,hfr⟩:=h14;replace HI:=hid (HI.out.below hb5);obtain ⟨i0,hi0,hz0,hz1,hz2⟩:=info_parts Tryz.infoRR;obtain ⟨t0,t1,t2,t3,t4,t5,t6,t7,t8,t9⟩:=id hS5;have hbl:=World.block_lt_of_cell? w5 _ t0;replace hbl:bk<w5.heap.size:=hbl;clear hg;simp only [fill,List.foldl_cons,List.foldl_nil,Act.put,List.setIfInBounds_toArray,List.set_cons_zero,List.set_cons_succ];simp only [←h1,e14];clear h1 e14;refine wpAnyH_ready (rs:=[15]) (by kernel_rfl) (by simp) ?_;refine AllReadyH.cons (o:=_) rfl (fun K hK=>?_) ?_;rotate_left;exact AllReadyH.nil;refine step_append_W w5 rfl (.tmp 45) (.tmp 58) 91 rfl base2 131 i0 zR 10 168 Tryz.underlying91 hi0 hz0 hz1 hz2 rfl (by decide) nzR vR i (rcs R' i) rfl HI.out.row ⟨b14,0,none⟩ 1 1 (Lr.vs ⟨zj,⟨ic,⟨sc,xc,nc,cc9,fc,yc,mc,dc,gc⟩⟩,⟨ie,⟨sd,xd,nd,cd,fd,yd,md,dd,gd⟩⟩,ta9,tk9,tc9,tcol9,tt9⟩) rfl rfl ?n1 (vsR_one _) (vsR_not _) (by decide) ?p1 ?p2 HI.out.bs ?_
      case n1=>intro j u hu;rw [addr_add];exact hcs j u hu
      case p1=>unfold maxLen;omega
      case p2=>omega
      intro g8 cap8 w8 hr8 hgr8 hk8 hl8;have hB8:=hgr8.block bk hbl (fun e=>hne e.symm);have e0:=(World.cell?_of_block (a:=⟨bk,0,none⟩) hB8).trans t0;have e1:=(World.cell?_of_block (a:=⟨bk,1,none⟩) hB8).trans t1;have e2:=(World.cell?_of_block (a:=⟨bk,2,none⟩) hB8).trans t2;have e3:=(World.cell?_of_block (a:=⟨bk,3,none⟩) hB8).trans t3;have e4:=(World.cell?_of_block (a:=⟨bk,4,none⟩) hB8).trans t4;have e5:=(World.cell?_of_block (a:=⟨bk,5,none⟩) hB8).trans t5;have e6:=(World.cell?_of_block (a:=⟨bk,6,none⟩) hB8).trans t6;have e7:=(World.cell?_of_block (a:=⟨bk,7,none⟩) hB8).trans t7;have e8:=(World.cell?_of_block (a:=⟨bk,8,none⟩) hB8).trans t8;have e9:=(World.cell?_of_block (a:=⟨bk,9,none⟩) hB8).trans t9;have hp8:=HI.out.p3.of (hgr8.block b3 HI.out.p3.lt (fun e=>by have:=(HI.out.row.lt b3 e.symm).1;omega));have f0:=hp8.cell (j:=4) rfl;have ff:=hp8.frozen 4;refine hK.out _ _ ?_ (fun hH8=>?_)
      ·exact ⟨e0,e1,e2,e3,e4,e5,e6,e7,e8,e9⟩
      clear hK K;try simp only [Act.put,List.setIfInBounds_toArray]
      refine tkO 16 ?_;simp only [lay_,Act.put];refine wpAnyH_ready (rs:=[17]) (by kernel_rfl) (by simp) ?_;refine AllReadyH.cons (o:=_) rfl (fun K hK=>?_) ?_;rotate_left;exact AllReadyH.nil;go_simp;refine hK.out _ _ ?_ (fun hH9=>?_)
      ·((try dsimp only);(refine ⟨?_,?_,?_,?_,?_,?_,?_,?_,?_,?_⟩ <;> repeat (with_reducible first | assumption | refine kCs (by simp only [ne_eq];omega) ?_)))
      clear hK K;try simp only [Act.put]
      refine wpAnyH_done (by kernel_rfl) ?_ _;have HI9:=hid (HI.out.next (by omega) (by omega) hbb (by omega) (fun v hv=>by rw [HRV.out] at hv;cases hv;exact hqc) (fun b o s e=>⟨by have:=hfr b o s e;omega,HW.out b (hfr b o s e)⟩) hr8 hk8 hgr8 hl8);clear hr8 hgr8 hk8 hl8 hB8 hp8 f0 ff hH8 hH9 HI hqc hcs hHeld HB5 e0 e1 e2 e3 e4 e5 e6 e7 e8 e9;go_wp2;go_roundw
      case rel=>exact ⟨i+1,_,_,by omega,by go_num,HI9.out⟩
      case measure=>simp [intOf];omega
    ·have e1:i=rk:=by omega
     have i2':¬(((i:Nat):Int)<((rk:Nat):Int)):=by omega
     rw [e1] at HI;obtain ⟨aC,cC,rfl⟩:=HI.out.rowC.slice;obtain ⟨aR,cR,rfl⟩:=HI.out.row.slice;have o0:=HI.out.p3.cell (j:=0) rfl;have o1:=HI.out.p3.cell (j:=1) rfl;have o2:=HI.out.p3.cell (j:=2) rfl;have o3:=HI.out.p3.cell (j:=3) rfl;have o4:=HI.out.p3.cell (j:=4) rfl;have r0:=HI.out.p2.cell (j:=0) rfl;have r1:=HI.out.p2.cell (j:=1) rfl;have r2:=HI.out.p2.cell (j:=2) rfl;have r3:=HI.out.p2.cell (j:=3) rfl;have r4:=HI.out.p2.cell (j:=4) rfl;have rf:=HI.out.p2.frozen;obtain ⟨hx1,hx2⟩:=HI.out.done (v0:=.bool sz) (v1:=.slice z2 nz c2) (v2:=.slice y2 mz d2) (v3:=.slice aC ck cC) (v4:=.slice aR rk cR) (by omega) (by omega) (by omega) rfl HLC.out HLR.out;have HX:=hid (HA.out _ _ hx1 hx2);clear hx1 hx2 HI e1;go_wp2;exact bodyPost_ret (v:=.agg #[.bool sz,.slice z2 nz c2,.slice y2 mz d2,.slice aC ck cC,.slice aR rk cR]) (by simp [results,Tryz.results39,go_sem,r0,r1,r2,r3,r4]) rfl HX.out
theorem NmS.val {w:World} {t:Nm} {K:Nat} (h:NmS w t) (hf:nfB t=true) (hk:t.n≤K∧t.m≤K):NmV K w t (nq t):=by
 obtain ⟨q,hq⟩:=Nm.rn h hf hk.1 hk.2;rw [hq.nq];exact hq
def cvOf (c:Lc):CV:=⟨c.nm,nq c.cost,c.lo.i,nq c.lo.v,c.hi.i,nq c.hi.v⟩
def rvOf (r:Lr):RV:=⟨r.nm,r.lo.i,nq r.lo.v,r.hi.i,nq r.hi.v,(List.range r.tk).map (fun p=>(r.col p,nq (r.T p)))⟩
theorem range_at {α:Type} {f:Nat→α} {n j:Nat} {v:α} (h:((List.range n).map f)[j]?=some v):j<n∧v=f j:=by
 have hlt:j<n:=by have:=(List.getElem?_eq_some_iff.1 h).1;simpa using this
 simp [hlt] at h;exact ⟨hlt,h.symm⟩
theorem range_get {α:Type} {f:Nat→α} {n j:Nat} (h:j<n):((List.range n).map f)[j]?=some (f j):=by simp [h]
theorem bd_of {w:World} {a b:Ex} {K:Nat} (ha:NmS w a.v) (hb:NmS w b.v) (ka:a.v.n≤K∧a.v.m≤K) (kb:b.v.n≤K∧b.v.m≤K) (h:abB a b=true):NmV K w a.v (nq a.v)∧NmV K w b.v (nq b.v)∧bdB a.i (nq a.v) b.i (nq b.v)=true:=by
 obtain ⟨f1,f2,h1,h2⟩:=abB_ok h;simp only [exF,efB,Bool.and_eq_true,Bool.or_eq_true,decide_eq_true_eq] at f1 f2;have v1:NmV K w a.v (nq a.v):=ha.val f1.1 ka;have v2:NmV K w b.v (nq b.v):=hb.val f2.1 kb;refine ⟨v1,v2,?_⟩;simp only [bdB,Bool.and_eq_true,Bool.or_eq_true,decide_eq_true_eq];constructor
 ·rcases f1.2 with h | ⟨h | h,h3⟩
  ·exact .inl h
  ·exact .inr ⟨h,(Rn.q_zero v1).2 h3⟩
  ·exact absurd h h1
 ·rcases f2.2 with h | ⟨h | h,h3⟩
  ·exact .inl h
  ·exact absurd h h2
  ·exact .inr ⟨h,(Rn.q_zero v2).2 h3⟩
theorem ts_of {w:World} {col:Nat→Int} {T:Nat→Nm} {n K:Nat}:∀{r i:Nat} {last:Int},tfr col T r i last=true→(∀p,i≤p→p<i+r→col p<(n:Int))→(∀p,i≤p→p<i+r→NmV K w (T p) (nq (T p)))→tsB n last ((List.range' i r).map (fun p=>(col p,nq (T p))))=true
 | 0,i,last,_,_,_=>rfl
 | r+1,i,last,h,hc,hv=>by
  simp only [tfr,Bool.and_eq_true,decide_eq_true_eq] at h;rw [List.range'_succ,List.map_cons];simp only [tsB,Bool.and_eq_true,decide_eq_true_eq];refine ⟨h.1,hc i (by omega) (by omega),fun e=>?_,ts_of h.2.2.2 (fun p a b=>hc p (by omega) (by omega)) (fun p a b=>hv p (by omega) (by omega))⟩;have:=(Rn.q_zero (hv i (by omega) (by omega))).1 e;omega
def csOf (M:Mo):List CV:=(List.range M.ck).map (fun j=>cvOf (M.C j))
def rsOf (M:Mo):List RV:=(List.range M.rk).map (fun j=>rvOf (M.R j))
theorem MoR.movC {w M K} (h:MoR w M) (hk:MoK K M) (he:chkE M=0):MoV K w M (nq M.off) (csOf M) (rsOf M)∧mvOk (csOf M) (rsOf M)=true:=by
 obtain ⟨l1,l2,hF,n1,n2,t1,t2,hAl⟩:=chkE_ok he;simp only [moF,Bool.and_eq_true] at hF;obtain ⟨hF0,hFC,hFR⟩:=hF;have hcol:∀j,j<M.ck→ColV K w (M.C j) (cvOf (M.C j))∧bdB (cvOf (M.C j)).li (cvOf (M.C j)).lq (cvOf (M.C j)).hi (cvOf (M.C j)).hq=true:=fun j hj=>by
  obtain ⟨_,_,_,_,hn⟩:=h.cls j hj;obtain ⟨f1,f2⟩:=clsB_at hFC j (by omega) (by omega);have k:=hk.c j hj;obtain ⟨v1,v2,hb⟩:=bd_of hn.lo hn.hi k.2.1 k.2.2 f2;exact ⟨⟨rfl,hn.cost.val f1 k.1,rfl,v1,rfl,v2⟩,hb⟩
 have hrow:∀j,j<M.rk→RowV K w (M.R j) (rvOf (M.R j))∧bdB (rvOf (M.R j)).li (rvOf (M.R j)).lq (rvOf (M.R j)).hi (rvOf (M.R j)).hq=true∧tsB M.ck (-1) (rvOf (M.R j)).ts=true:=fun j hj=>by
  obtain ⟨_,_,_,_,hn⟩:=h.rls j hj;obtain ⟨f1,f2⟩:=rlsB_at hFR j (by omega) (by omega);have k:=hk.r j hj;obtain ⟨v1,v2,hb⟩:=bd_of hn.lo hn.hi k.1 k.2.1 f1;have hall:=(tfr_all f2).1;have hv:∀p,p<(M.R j).tk→NmV K w ((M.R j).T p) (nq ((M.R j).T p)):=fun p hp=>by
   obtain ⟨_,_,_,_,hr⟩:=hn.tl p hp;exact NmS.val hr (hall p (by omega) (by omega)).2.1 (k.2.2.2 p hp)
  refine ⟨⟨rfl,rfl,v1,rfl,v2,by simp [rvOf],fun p z q e=>?_⟩,hb,?_⟩
  ·obtain ⟨hp,e'⟩:=range_at e;obtain ⟨b,o,ea,c4,_⟩:=hn.tl p hp;cases e'
   exact ⟨rfl,hv p hp,b,o,ea,c4⟩
  ·show tsB M.ck (-1) ((List.range (M.R j).tk).map _)=true;rw [List.range_eq_range'];exact ts_of f2 (fun p _ hp=>(cols_at f2 (alB_at hAl j (by omega) (by omega)) p (by omega)).2) (fun p _ hp=>hv p (by omega))
 unfold csOf rsOf;refine ⟨⟨h.off.val hF0 hk.off,by simp,by simp,fun j v e=>?_,fun j v e=>?_⟩,?_⟩
 ·obtain ⟨hj,rfl⟩:=range_at e;obtain ⟨b,o,ea,hc,_⟩:=h.cls j hj;exact ⟨⟨b,o,ea,hc⟩,(hcol j hj).1⟩
 ·obtain ⟨hj,rfl⟩:=range_at e;obtain ⟨b,o,ea,hc,_⟩:=h.rls j hj;exact ⟨⟨b,o,ea,hc⟩,(hrow j hj).1⟩
 ·have ec:∀j,j<M.ck→nmC ((List.range M.ck).map (fun j=>cvOf (M.C j))) j=(M.C j).nm:=fun j hj=>by unfold nmC;rw [range_get hj];rfl
  have er:∀j,j<M.rk→nmR ((List.range M.rk).map (fun j=>rvOf (M.R j))) j=(M.R j).nm:=fun j hj=>by unfold nmR;rw [range_get hj];rfl
  simp only [mvOk,Bool.and_eq_true,decide_eq_true_eq,List.all_eq_true,List.length_map,List.length_range,Bool.not_eq_true'];refine ⟨l1,l2,fun v hv=>?_,fun v hv=>?_,?_,?_,?_,?_⟩
  ·obtain ⟨j,hj,rfl⟩:=List.mem_map.1 hv;exact (hcol j (List.mem_range.1 hj)).2
  ·obtain ⟨j,hj,rfl⟩:=List.mem_map.1 hv;have:=hrow j (List.mem_range.1 hj);refine ⟨this.2.1,this.2.2,?_⟩;have h3:=(hk.r j (List.mem_range.1 hj)).2.2.1;simp [rvOf];omega
  ·rw [nms_congr (S':=fun j=>(M.C j).nm) (fun j _ hj=>ec j (by omega))];exact n1
  ·rw [nms_congr (S':=fun j=>(M.R j).nm) (fun j _ hj=>er j (by omega))];exact n2
  ·rw [twr_congr (S':=fun j=>(M.C j).nm) (fun j hj=>ec j (by omega))];exact t1
  ·rw [twr_congr (S':=fun j=>(M.R j).nm) (fun j hj=>er j (by omega))];exact t2
theorem FnT.of {K w} {e:Ex} {i:Int} {q:Rat} (h:QnT K w e.v q) (hi:e.i=i) (hb:i=0∨(i=-1∨i=1)∧q=0):Fn w e.i e.v.s e.v.x e.v.n e.v.f e.v.y e.v.m e.v.g q:=⟨h.2.2,by rw [hi];exact hb⟩
theorem dsum_psum (xs:List Rat):∀(v:List (Int × Rat)) (acc:Rat),dsum xs v acc=psum (v.map (tprod xs)) acc
 | [],_=>rfl
 | (a,q) :: v,acc=>by
  show dsum xs v (acc+q*xs.getD a.toNat 0)=psum (v.map (tprod xs)) (acc+tprod xs (a,q));exact dsum_psum xs v _
theorem kps_lo {r i:Int} {l q:Rat} (h:EOrd r i l 0 q):decide (r≤0)=decide (i<0∨i=0∧l≤q):=by
 rw [decide_eq_decide];rcases h with ⟨h1,h2⟩ | ⟨h1,h2,h3⟩ | ⟨h1,h2⟩
 ·constructor
  ·intro _;rcases h2 with h2 | ⟨h2,h3⟩
   ·exact .inl h2
   ·exact .inr ⟨h2,by grind⟩
  ·intro _;omega
 ·constructor
  ·intro _;exact .inr ⟨h2,by grind⟩
  ·intro _;omega
 ·constructor
  ·intro _;omega
  ·intro h;rcases h with h | ⟨h,h'⟩
   ·rcases h2 with h2 | ⟨h2,_⟩ <;> omega
   ·rcases h2 with h2 | ⟨_,h2⟩
    ·omega
    ·exact absurd h' (by grind)
theorem kps_hi {r i:Int} {l q:Rat} (h:EOrd r 0 q i l):decide (r≤0)=decide (0<i∨i=0∧q≤l):=by
 rw [decide_eq_decide];rcases h with ⟨h1,h2⟩ | ⟨h1,h2,h3⟩ | ⟨h1,h2⟩
 ·constructor
  ·intro _;rcases h2 with h2 | ⟨h2,h3⟩
   ·exact .inl h2
   ·exact .inr ⟨h2.symm,by grind⟩
  ·intro _;omega
 ·constructor
  ·intro _;exact .inr ⟨h2.symm,by grind⟩
  ·intro _;omega
 ·constructor
  ·intro _;omega
  ·intro h;rcases h with h | ⟨h,h'⟩
   ·rcases h2 with h2 | ⟨h2,_⟩ <;> omega
   ·rcases h2 with h2 | ⟨_,h2⟩
    ·omega
    ·exact absurd h' (by grind)
theorem kps_and {q:Rat} {li:Int} {lq:Rat} {hi:Int} {hq:Rat}:kpsB q li lq hi hq=(decide (li<0∨li=0∧lq≤q) && decide (0<hi∨hi=0∧q≤hq)):=by
 unfold kpsB;rw [Bool.decide_and]
set_option maxRecDepth 100000 in
set_option maxHeartbeats 8000000 in
theorem rKeeps_c {w:World} {K:Nat} {a b:Ex} {t:Nm} {li:Int} {lq:Rat} {hi:Int} {hq q:Rat} (ha:QnT K w a.v lq) (ea:a.i=li) (hb:QnT K w b.v hq) (eb:b.i=hi) (ht:QnT K w t q) (hK:K≤16000) (hbd:(li=0∨(li=-1∨li=1)∧lq=0)∧(hi=0∨(hi=-1∨hi=1)∧hq=0)) :
  Calls Tryz.prog 151 #[a.val,b.val,t.val] w fun e w'=>e=.returned (.bool (kpsB q li lq hi hq))∧Below w.heap.size w w':=by
 obtain ⟨i1,⟨s1,x1,n1,c1,f1,y1,m1,d1,g1⟩⟩:=a;obtain ⟨i2,⟨s2,x2,n2,c2,f2,y2,m2,d2,g2⟩⟩:=b;obtain ⟨s3,x3,n3,c3,f3,y3,m3,d3,g3⟩:=t;replace ea:i1=li:=ea;replace eb:i2=hi:=eb;subst ea;subst eb
 obtain ⟨r1,hr1⟩:∃t,decide (i1<0∨i1=0∧lq≤q)=t:=⟨_,rfl⟩;obtain ⟨r2,hr2⟩:∃t,decide (0<i2∨i2=0∧q≤hq)=t:=⟨_,rfl⟩;rw [kps_and,hr1,hr2];have C1:Hid (∀W (W2:World),Below w.heap.size w W→Fn W 0 s3 x3 n3 f3 y3 m3 g3 q→Calls Tryz.prog 162 #[.agg #[.int .i64 i1,.bool s1,.slice x1 n1 c1,.slice y1 m1 d1],.agg #[.int .i64 0,.bool s3,.slice x3 n3 c3,.slice y3 m3 d3]] W fun e w'=>∃r,e=.returned (.int .i64 r)∧Below W.heap.size W w'∧Hid (decide (r≤0)=r1)):=fun W _ hW hF =>
  (xCmpW_c (c1:=c1) (d1:=d1) (c2:=c3) (d2:=d3) (FnT.of (e:=⟨i1,⟨s1,x1,n1,c1,f1,y1,m1,d1,g1⟩⟩) (ha.below hW) rfl hbd.1) hF (Nat.le_trans ha.1 hK) (Nat.le_trans ha.2.1 hK) (Nat.le_trans ht.1 hK) (Nat.le_trans ht.2.1 hK)).mono (by
   rintro e w' ⟨r,rfl,h1,h2⟩;exact ⟨r,rfl,h1,hid ((kps_lo h2.out).trans hr1)⟩)
 have C2:Hid (∀W (W2:World),Below w.heap.size w W→Fn W 0 s3 x3 n3 f3 y3 m3 g3 q→Calls Tryz.prog 162 #[.agg #[.int .i64 0,.bool s3,.slice x3 n3 c3,.slice y3 m3 d3],.agg #[.int .i64 i2,.bool s2,.slice x2 n2 c2,.slice y2 m2 d2]] W fun e w'=>∃r,e=.returned (.int .i64 r)∧Below W.heap.size W w'∧Hid (decide (r≤0)=r2)):=fun W _ hW hF =>
  (xCmpW_c (c1:=c3) (d1:=d3) (c2:=c2) (d2:=d2) hF (FnT.of (e:=⟨i2,⟨s2,x2,n2,c2,f2,y2,m2,d2,g2⟩⟩) (hb.below hW) rfl hbd.2) (Nat.le_trans ht.1 hK) (Nat.le_trans ht.2.1 hK) (Nat.le_trans hb.1 hK) (Nat.le_trans hb.2.1 hK)).mono (by
   rintro e w' ⟨r,rfl,h1,h2⟩;exact ⟨r,rfl,h1,hid ((kps_hi h2.out).trans hr2)⟩)
 have CN:Hid (∀W,Below w.heap.size w W→Calls Tryz.prog 46 #[.agg #[.bool s3,.slice x3 n3 c3,.slice y3 m3 d3]] W fun e w'=>e=.returned (.agg #[.int .i64 0,.bool s3,.slice x3 n3 c3,.slice y3 m3 d3])∧Below W.heap.size W w'∧Hid (Fn w' 0 s3 x3 n3 f3 y3 m3 g3 q)):=fun W hW=>(xNum_c (c:=c3) (d:=d3) (ht.below hW).2.2).mono (by
   rintro e w' ⟨rfl,h1,h2⟩;exact ⟨rfl,h1,hid h2⟩)
 clear ha hb ht hr1 hr2 hbd;show Calls Tryz.prog 151 #[.agg #[.int .i64 i1,.bool s1,.slice x1 n1 c1,.slice y1 m1 d1],.agg #[.int .i64 i2,.bool s2,.slice x2 n2 c2,.slice y2 m2 d2],.agg #[.bool s3,.slice x3 n3 c3,.slice y3 m3 d3]] w _;have HB:=hid (below_alloc (below_alloc (below_alloc (Below.refl w.heap.size w) (.cells #[.int .i64 i1,.bool s1,.slice x1 n1 c1,.slice y1 m1 d1] 103)) (.cells #[.int .i64 i2,.bool s2,.slice x2 n2 c2,.slice y2 m2 d2] 103)) (.cells #[.bool s3,.slice x3 n3 c3,.slice y3 m3 d3] 89));have BA:Hid (Bk (((w.alloc (.cells #[.int .i64 i1,.bool s1,.slice x1 n1 c1,.slice y1 m1 d1] 103)).alloc (.cells #[.int .i64 i2,.bool s2,.slice x2 n2 c2,.slice y2 m2 d2] 103)).alloc (.cells #[.bool s3,.slice x3 n3 c3,.slice y3 m3 d3] 89)) w.heap.size [.int .i64 i1,.bool s1,.slice x1 n1 c1,.slice y1 m1 d1] 103):=((bk_new w [.int .i64 i1,.bool s1,.slice x1 n1 c1,.slice y1 m1 d1] 103).below (below_alloc (Below.refl _ _) _)).below (below_alloc (Below.refl _ _) _);have BB:Hid (Bk (((w.alloc (.cells #[.int .i64 i1,.bool s1,.slice x1 n1 c1,.slice y1 m1 d1] 103)).alloc (.cells #[.int .i64 i2,.bool s2,.slice x2 n2 c2,.slice y2 m2 d2] 103)).alloc (.cells #[.bool s3,.slice x3 n3 c3,.slice y3 m3 d3] 89)) (w.heap.size+1) [.int .i64 i2,.bool s2,.slice x2 n2 c2,.slice y2 m2 d2] 103):=by
  have:=(bk_new (w.alloc (.cells #[.int .i64 i1,.bool s1,.slice x1 n1 c1,.slice y1 m1 d1] 103)) [.int .i64 i2,.bool s2,.slice x2 n2 c2,.slice y2 m2 d2] 103).below (below_alloc (Below.refl _ _) (.cells #[.bool s3,.slice x3 n3 c3,.slice y3 m3 d3] 89));rw [size_alloc1] at this;exact this
 have BT:Hid (Bk (((w.alloc (.cells #[.int .i64 i1,.bool s1,.slice x1 n1 c1,.slice y1 m1 d1] 103)).alloc (.cells #[.int .i64 i2,.bool s2,.slice x2 n2 c2,.slice y2 m2 d2] 103)).alloc (.cells #[.bool s3,.slice x3 n3 c3,.slice y3 m3 d3] 89)) (w.heap.size+1+1) [.bool s3,.slice x3 n3 c3,.slice y3 m3 d3] 89):=by
  have:=bk_new ((w.alloc (.cells #[.int .i64 i1,.bool s1,.slice x1 n1 c1,.slice y1 m1 d1] 103)).alloc (.cells #[.int .i64 i2,.bool s2,.slice x2 n2 c2,.slice y2 m2 d2] 103)) [.bool s3,.slice x3 n3 c3,.slice y3 m3 d3] 89;rw [size_alloc1,size_alloc1] at this;exact this
 go_enter Tryz.func151,Tryz.ntmps151;go_upto_region 1 with fail
 generalize (((w.alloc (.cells #[.int .i64 i1,.bool s1,.slice x1 n1 c1,.slice y1 m1 d1] 103)).alloc (.cells #[.int .i64 i2,.bool s2,.slice x2 n2 c2,.slice y2 m2 d2] 103)).alloc (.cells #[.bool s3,.slice x3 n3 c3,.slice y3 m3 d3] 89))=v0 at *;replace C1:=hid (fun W (W2:World) (hW:Below v0.heap.size v0 W)=>C1.out W W2 (HB.out.trans (hW.mono HB.out.size)));replace C2:=hid (fun W (W2:World) (hW:Below v0.heap.size v0 W)=>C2.out W W2 (HB.out.trans (hW.mono HB.out.size)));replace CN:=hid (fun W (hW:Below v0.heap.size v0 W)=>CN.out W (HB.out.trans (hW.mono HB.out.size)));have a0:=BA.out.cell (j:=0) rfl;have a1:=BA.out.cell (j:=1) rfl;have a2:=BA.out.cell (j:=2) rfl;have a3:=BA.out.cell (j:=3) rfl;have b0:=BB.out.cell (j:=0) rfl;have b1:=BB.out.cell (j:=1) rfl;have b2:=BB.out.cell (j:=2) rfl;have b3:=BB.out.cell (j:=3) rfl;have t0:=BT.out.cell (j:=0) rfl;have t1:=BT.out.cell (j:=1) rfl;have t2:=BT.out.cell (j:=2) rfl;cases r1
 case false =>
  go_region_with
   (first
    | (go_at_call 46;with_reducible refine (CN.out _ belA).mono ?_;rintro e u1 ⟨rfl,hb1,H1⟩;have B1:=hid (BA.out.below (show Below v0.heap.size v0 u1 from belA));have p0:=B1.out.cell (j:=0) rfl;have p1:=B1.out.cell (j:=1) rfl;have p2:=B1.out.cell (j:=2) rfl;have p3:=B1.out.cell (j:=3) rfl)
    | (go_at_call 162;with_reducible refine (C1.out _ v0 belA (H1.out.below belA)).mono ?_;rintro e u2 ⟨q1,rfl,hb2,H2⟩;have hd2:decide (q1≤0)=false:=H2.out))
  all_goals
   have hb:Below v0.heap.size v0 u2:=belA;replace HB:=hid (HB.out.trans (hb.mono HB.out.size));clear hb;go_wp2;go_ret;exact ⟨by first | rfl | simp,by first | exact HB.out | exact HB.out.drew | exact below_drewN HB.out _⟩
 go_region_held3 (fun w'=>w'.cell? ⟨w.heap.size,0,none⟩=some (.int .i64 i1)∧w'.cell? ⟨w.heap.size,1,none⟩=some (.bool s1)∧w'.cell? ⟨w.heap.size,2,none⟩=some (.slice x1 n1 c1)∧w'.cell? ⟨w.heap.size,3,none⟩=some (.slice y1 m1 d1)∧w'.cell? ⟨w.heap.size+1,0,none⟩=some (.int .i64 i2)∧w'.cell? ⟨w.heap.size+1,1,none⟩=some (.bool s2)∧w'.cell? ⟨w.heap.size+1,2,none⟩=some (.slice x2 n2 c2)∧w'.cell? ⟨w.heap.size+1,3,none⟩=some (.slice y2 m2 d2)∧w'.cell? ⟨w.heap.size+1+1,0,none⟩=some (.bool s3)∧w'.cell? ⟨w.heap.size+1+1,1,none⟩=some (.slice x3 n3 c3)∧w'.cell? ⟨w.heap.size+1+1,2,none⟩=some (.slice y3 m3 d3))
  (refine ⟨?_,?_,?_,?_,?_,?_,?_,?_,?_,?_,?_⟩ <;> repeat (with_reducible first | assumption | refine kCd ?_ | refine kCb (by assumption) ?_))
  (first
   | (have h9:=H2.out;clear h9;go_at_call 46;with_reducible refine (CN.out _ belA).mono ?_;rintro e u4 ⟨rfl,hb4,H4⟩)
   | (go_at_call 46;with_reducible refine (CN.out _ belA).mono ?_;rintro e u1 ⟨rfl,hb1,H1⟩)
   | (have h9:=H4.out;clear h9;go_at_call 162;with_reducible refine (C2.out _ v0 belA (H4.out.below belA)).mono ?_;rintro e u5 ⟨q2,rfl,hb5,H5⟩;have hd5:decide (q2≤0)=r2:=H5.out)
   | (go_at_call 162;with_reducible refine (C1.out _ v0 belA (H1.out.below belA)).mono ?_;rintro e u2 ⟨q1,rfl,hb2,H2⟩;have hd2:decide (q1≤0)=true:=H2.out))
 all_goals
  have hb:Below v0.heap.size v0 u5:=belA;replace HB:=hid (HB.out.trans (hb.mono HB.out.size));clear hb;go_wp2;go_ret;exact ⟨by first | rfl | simp,HB.out⟩
theorem rf_two {K:Nat} {w:World} {T:TypeId} {s:Bool} {x:Option Addr} {n c:Nat} {f:Nat→Int} {y:Option Addr} {m d:Nat} {g:Nat→Int} {q:Rat} {s2:Bool} {x2:Option Addr} {n2 c2:Nat} {f2:Nat→Int} {y2:Option Addr} {m2 d2:Nat} {g2:Nat→Int} {q2:Rat} (h:Rn K w s x n c f y m d g q) (h2:Rn K w s2 x2 n2 c2 f2 y2 m2 d2 g2 q2):Rf K (w.alloc (.cells #[.bool s,.slice x n c,.slice y m d,.bool s2,.slice x2 n2 c2,.slice y2 m2 d2] T)) (some ⟨w.heap.size,0,none⟩) [q,q2]:=fun j q' e=>by
 match j,e with
 | 0,e=>cases e;exact ⟨w.heap.size,0,⟨s,x,n,c,f,y,m,d,g⟩,rfl,⟨by simp [go_sem],by simp [go_sem],by simp [go_sem]⟩,h.alloc _⟩
 | 1,e=>cases e;exact ⟨w.heap.size,0,⟨s2,x2,n2,c2,f2,y2,m2,d2,g2⟩,rfl,⟨by simp [go_sem],by simp [go_sem],by simp [go_sem]⟩,h2.alloc _⟩
theorem pckE_ok {M:Mo} {k:Nat} {X:Nat→Nm} (h1:chkE M=0) (h2:afB k X=true) (h3:k=M.ck):pckE M k X=0:=by
 unfold pckE;rw [h1,show pnE k X M.ck=0 by unfold pnE;rw [if_pos h2,if_pos (by rw [h3])]];rfl
theorem rSameEq_c {L L' w sa xa na ca fa ya ma da ga sb xb nb cb fb yb mb db gb q} (ha:Rn L w sa xa na ca fa ya ma da ga q) (hb:Rn L' w sb xb nb cb fb yb mb db gb q) (h1:L≤1048576) (h2:L'≤1048576) :
  Calls Tryz.prog 24 #[.agg #[.bool sa,.slice xa na ca,.slice ya ma da],.agg #[.bool sb,.slice xb nb cb,.slice yb mb db]] w fun e w'=>e=.returned (.bool true)∧Below w.heap.size w w':=by
 have l1:=ha.ln;have l2:=ha.ld;have l3:=hb.ln;have l4:=hb.ld
 refine (rSame_c sa xa ya na ca ma da fa ga sb xb yb nb cb mb db fb gb w ha.num.rd ha.den.rd hb.num.rd hb.den.rd (by omega) (by omega) (by omega) (by omega)).mono ?_;rintro e w' ⟨c,rfl,h3,h4⟩;refine ⟨?_,h3⟩;rw [h4.2 ((ha.inj hb).2 rfl)]
theorem twin_w {w:World} {M:Mo} {K:Nat} (hX:MoX w M) (hN:MoN M) (hk:M.ck≤64→M.rk≤64→MoK K M) (hK:K≤65536):Calls Tryz.prog 9 #[M.val] w fun e w'=>∃M':Mo,e=.returned M'.val∧Below w.heap.size w w'∧Sm M M'∧MoW w' M'∧MoX w' M'∧(M'.ck≤64→M'.rk≤64→MoK K M') :=
 (mTwin_c hX).mono fun e w' ⟨M',h1,h2,h3,h4⟩=>⟨M',h1,h2,h3,fun a b=>h4.mor (h3.mon hN) (h3.mok (hk (by rw [←h3.ck];exact a) (by rw [←h3.rk];exact b))) hK a b,h4,fun a b=>h3.mok (hk (by rw [←h3.ck];exact a) (by rw [←h3.rk];exact b))⟩
theorem lgM_k {K:Nat} {M:Mo} (h:lgM K M=true):M.ck≤64→M.rk≤64→MoK K M:=fun a b=>lgM_at h a b
theorem MoX.both {w M K} (h:MoX w M) (hn:MoN M) (hk:M.ck≤64→M.rk≤64→MoK K M) (hK:K≤1000):M.ck≤64→M.rk≤64→MoR w M∧MoS M:=fun a b=>⟨h.mor hn (hk a b) (Nat.le_trans hK (by decide)) a b,(hk a b).mos hK⟩
theorem El.below {w w' ao k E} (h:El w ao k E) (hb:Below w.heap.size w w'):El w' ao k E:=fun j hj=>by
 obtain ⟨b,o,e,h1⟩:=h j hj;exact ⟨b,o,e,kCb hb h1⟩
theorem Sn.trans {a b c:Nm} (h:Sn a b) (k:Sn b c):Sn a c:=by
 obtain ⟨h1,h2,h3,h4,h5⟩:=h;obtain ⟨k1,k2,k3,k4,k5⟩:=k;exact ⟨k1.trans h1,k2.trans h2,k3.trans h3,k4.trans h4,k5.trans h5⟩
theorem Sn.nq {t t':Nm} (h:Sn t t'):nq t'=nq t:=by
 obtain ⟨h1,h2,h3,h4,h5⟩:=h;unfold Go.Proofs.YtdbbncamlaiajaaGreat.nq;rw [h1,h2,h3,h4,h5]
theorem Sm.csOf {M M':Mo} (h:Sm M M'):csOf M'=csOf M:=by
 unfold Go.Proofs.YtdbbncamlaiajaaGreat.csOf;rw [h.ck];refine List.map_congr_left (fun j hj=>?_);have p:=h.C j (List.mem_range.1 hj);unfold cvOf;rw [p.nm,p.cost.nq,p.li,p.lo.nq,p.hi,p.hv.nq]
theorem Sm.rsOf {M M':Mo} (h:Sm M M'):rsOf M'=rsOf M:=by
 unfold Go.Proofs.YtdbbncamlaiajaaGreat.rsOf;rw [h.rk];refine List.map_congr_left (fun j hj=>?_);have p:=h.R j (List.mem_range.1 hj);unfold rvOf;rw [p.nm,p.li,p.lo.nq,p.hi,p.hv.nq,p.tk,p.col]
 congr 1
 exact List.map_congr_left (fun q hq=>by rw [(p.T q (List.mem_range.1 hq)).nq])
def psOf (k:Nat) (X:Nat→Nm):List Rat:=(List.range k).map (fun j=>nq (X j))
theorem psOf_len (k:Nat) (X:Nat→Nm):(psOf k X).length=k:=by simp [psOf]
theorem psOf_sn {k:Nat} {X X':Nat→Nm} (h:∀j,j<k→Sn (X j) (X' j)):psOf k X'=psOf k X:=List.map_congr_left (fun j hj=>(h j (List.mem_range.1 hj)).nq)
theorem Rl.rfC {w:World} {ao:Option Addr} {k K:Nat} {X:Nat→Nm} (h:Rl w ao k X) (hf:afB k X=true) (hk:∀j,j<k→(X j).n≤K∧(X j).m≤K):Rf K w ao (psOf k X):=fun j q e=>by
 obtain ⟨hj,rfl⟩:=range_at e;obtain ⟨b,o,h1,h2,h3⟩:=h j hj;exact ⟨b,o,X j,h1,h2,NmS.val h3 (afr_all hf j (by omega) (by omega)) (hk j hj)⟩
theorem psum_acc:∀(p:List Rat) (a:Rat),psum p a=a+psum p 0
 | [],a=>by show a=a+0;grind
 | q :: p,a=>by
  simp only [psum];rw [psum_acc p (a+q),psum_acc p (0+q)]
  grind
theorem psum_cons (q:Rat) (p:List Rat):psum (q :: p) 0=q+psum p 0:=by
 simp only [psum];rw [psum_acc];grind
def lgL (K k:Nat) (X:Nat→Nm):Bool:=decide (k≤300) && nlg K X k 0
theorem MoK.up {K L:Nat} {M:Mo} (h:MoK K M) (hL:K≤L):MoK L M:=by
 have e:∀{a b:Nat},a≤K∧b≤K→a≤L∧b≤L:=fun p=>⟨Nat.le_trans p.1 hL,Nat.le_trans p.2 hL⟩
 exact ⟨e h.off,fun j hj=>⟨e (h.c j hj).1,e (h.c j hj).2.1,e (h.c j hj).2.2⟩,fun j hj=>⟨e (h.r j hj).1,e (h.r j hj).2.1,(h.r j hj).2.2.1,fun p hp=>e ((h.r j hj).2.2.2 p hp)⟩⟩
theorem Rf.cut {K L:Nat} {w:World} {ao:Option Addr} {p:List Rat} (h:Rf K w ao p) (hp:∀q,q ∈ p→Lo L q):Rf L w ao p:=fun j q hj=>by
 obtain ⟨b,o,t,e,h1,h2⟩:=h j q hj;exact ⟨b,o,t,e,h1,h2.cut (hp q (List.mem_of_getElem? hj))⟩
theorem pckE_two {M:Mo} {k:Nat} {X:Nat→Nm} (h:pckE M k X=0):chkE M=0∧afB k X=true∧k=M.ck:=by
 obtain ⟨h1,h2⟩:=two_zero h;refine ⟨h1,?_⟩;unfold pnE at h2;by_cases a:afB k X=true
 ·rw [if_pos a] at h2;by_cases b:k=M.ck
  ·exact ⟨a,b⟩
  ·rw [if_neg (by omega)] at h2;cases h2
 ·rw [if_neg a] at h2;cases h2
theorem csOf_len (M:Mo):(csOf M).length=M.ck:=by simp [csOf]
def Tx (w:World) (ao:Option Addr) (k:Nat) (X X':Nat→Nm):Prop:=Rl w ao k X'∧∀j,j<k→Sn (X j) (X' j)
theorem Tx.below {w w' ao k X X'} (h:Tx w ao k X X') (hb:Below w.heap.size w w'):Tx w' ao k X X':=⟨h.1.below hb,h.2⟩
def Sh (k:Nat) (X:Nat→Nm):Prop:=k≤300∧∀j,j<k→(X j).n≤6∧(X j).m≤6
theorem Tx.val {w ao k X X'} (h:Tx w ao k X X') (hs:Sh k X) (ha:afB k X=true):Rf 6 w ao (psOf k X):=by
 rw [←psOf_sn h.2];refine h.1.rfC ?_ (fun j hj=>by rw [(h.2 j hj).2.1,(h.2 j hj).2.2.2.1];exact hs.2 j hj);exact (afr_sn (fun j _ b=>h.2 j (by omega))).trans ha
theorem crl_nil {B:Nat→Bool}:∀{n:Nat},(crl B n).length=0 ↔ ∀j,j<n→B j=false
 | 0=>⟨fun _ j hj=>by omega,fun _=>rfl⟩
 | n+1=>by
  have ih:=crl_nil (B:=B) (n:=n);cases e:B n with
  | true =>
   rw [crl_yes e];refine ⟨fun h=>by simp at h,fun h=>?_⟩;rw [h n (by omega)] at e;cases e
  | false =>
   rw [crl_no e,ih];refine ⟨fun h j hj=>?_,fun h j hj=>h j (by omega)⟩;by_cases g:j=n
   ·rw [g];exact e
   ·exact h j (by omega)
theorem qZero_c (w:World):Calls Tryz.prog 81 #[] w fun e w'=>QAns 2 w w' e 0:=by
 have h2:=ob_new w 89;have h3:=below_alloc (Below.refl w.heap.size w) (.cells #[.bool false,.slice none 0 0,.slice none 0 0] 89);go_enter Tryz.func81,Tryz.ntmps81;go_wp2_with fail
 generalize w.alloc (.cells #[.bool false,.slice none 0 0,.slice none 0 0] 89)=w1 at *;have OB:=hid h2;have HW:=hid h3
 clear h2 h3;refine (qInt_c (z:=0) (by decide) (by decide)).mono ?_;rintro e w2 ⟨s2,x2,n2,c2,d2,y2,m2,e2,g2,rfl,hb,hl1,hl2,hq⟩;have HB2:=hid hb;have HQ:=hid hq;have L1:=hid hl1;have L2:=hid hl2
 clear hb hq hl1 hl2;obtain ⟨hz,z0,z1,z2,zf⟩:=OB.out.below HB2.out;go_wp2;exact bodyPost_ret (v:=.agg #[.bool s2,.slice x2 n2 c2,.slice y2 m2 e2]) (by simp [results,Tryz.results81,go_sem,z0,z1,z2]) rfl ⟨s2,x2,n2,c2,d2,y2,m2,e2,g2,rfl,below_st (HW.out.trans (HB2.out.mono HW.out.size)) (by omega),L1.out,L2.out,(OB.out.below HB2.out).qn HQ.out⟩
theorem lo_zero {L:Nat} (hL:1≤L):Lo L 0:=by
 have h:=pw_mono hL;have h1:pw 1=18446744073709551616:=by decide
 constructor
 ·show ((0:Nat):Int)<_;omega
 ·show ((1:Nat):Int)<_;omega
theorem Tf.lo {L w ao} {v:List (Int × Rat)} (h:Tf L w ao v):∀(j:Nat) (a:Int) (q:Rat),v[j]?=some (a,q)→Lo L q:=fun j a q hj=>by
 obtain ⟨_,_,_,_,_,h2⟩:=h j a q hj;exact h2.lo h2.ln h2.ld
theorem Rf.lo {L w ao} {p:List Rat} (h:Rf L w ao p):∀(j:Nat) (q:Rat),p[j]?=some q→Lo L q:=fun j q hj=>by
 obtain ⟨_,_,_,_,_,h2⟩:=h j q hj;exact h2.lo h2.ln h2.ld
end Go.Proofs.YtdbbncamlaiajaaGreat
