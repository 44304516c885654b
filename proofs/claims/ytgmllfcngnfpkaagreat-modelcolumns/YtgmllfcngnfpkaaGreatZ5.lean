/-
 Walks of the document's reference for rat: From, Neg, Sign, Add. Walks of the document's reference for whole: Divide. Walks of package rat's clone, Copy and Neg. The walk of package rat's call Cmp. Walks of the document's reference for rat: Add, Sub, Cmp. Walks of rat's Sign and Cmp, whatever they are handed, and of the document's: DocSign, DocCmp. Walks of the document's reference for rat: Mul, Quo, Int, To, DocOf, DocNeg. Walks of rat's calls where they tell that a number is not in form, and of the document's Doc, DocNeg there; DocNeg. Walks of the document's reference for rat: Int, DocOf. The walk of the document's reference for rat: Doc, of numbers in form. Walks of rat's Add, Sub, Mul, Quo, whatever they are handed, and of the statements' call. The walk of rat.Of. Walks of the document's reference for rat: Twin; the same digits elsewhere. Walks of package rat's calls Text on numbers in form, and Read on the text 4/2. The walk of package rat's call Text on -3/2. The walk of the statements' own look at answers of rat that the document fixes (awake). The walk of RatSums. Walks of rat.Make and of the document's DocMake, whatever they are handed. Boxes of four cells. No Go text is named here. Bounds (api.Ext) as they lie in memory: boxes of four cells; what is in form; the order. Walks of ext: isZero, Form, allForm, number, infinity, Low, High, Copy, Cmp, Max, Min; of cmp.Compare at int. Lists of terms in memory; the walks of package vec's isZero and Form. Names: the walks of package model's isLetter, isDigit, IsName, allNames. A map from texts to numbers in memory (F2 is written by makers/f2.py out of Z2); the walk of package model's anyTwice. Models in memory: columns, rows; the walk of package model's areBounds.
-/
import Derived.Test.YtgmllfcngnfpkaaGreatZ4
import Derived.Test.YtgmllfcngnfpkaaGreatZ1
import Derived.Test.YtgmllfcngnfpkaaGreatZ3
import Derived.WalkKit
import Derived.MapKept
import Derived.ChangeMaps5
namespace Go.Proofs.YtgmllfcngnfpkaaGreat
open Go.RowKit
structure Qn (w:World) (s:Bool) (x:Option Addr) (n:Nat) (d:Nat → Int) (y:Option Addr) (m:Nat) (g:Nat → Int) (q:Rat):Prop where
 num:Zn w s x n d q.num
 den:Dn w y m g q.den
theorem Qn.below {w w' s x n d y m g q} (h:Qn w s x n d y m g q) (hb:Below w.heap.size w w'):Qn w' s x n d y m g q:=⟨h.num.below hb,h.den.below hb⟩
theorem Qn.alloc {w s x n d y m g q} (h:Qn w s x n d y m g q) (o:Obj):Qn (w.alloc o) s x n d y m g q:=⟨h.num.alloc o,h.den.alloc o⟩
theorem kQd {w s x n d y m g q} (h:Qn w s x n d y m g q):Qn w.drew s x n d y m g q:=⟨⟨h.num.dn.drew,h.num.sgn,h.num.pos⟩,h.den.drew⟩
theorem kQb {w w' s x n d y m g q} (hb:Below w.heap.size w w') (h:Qn w s x n d y m g q):Qn w' s x n d y m g q:=h.below hb
theorem Ob.zn {w B u0 u1 u2 s x n d v} (h:Ob w B) (hx:Zn w s x n d v):Zn (((w.setCell ⟨B,0,none⟩ u0).setCell ⟨B,1,none⟩ u1).setCell ⟨B,2,none⟩ u2) s x n d v:=⟨h.dn hx.dn,hx.sgn,hx.pos⟩
theorem Ob.qn {w B u0 u1 u2 s x n d y m g q} (h:Ob w B) (hx:Qn w s x n d y m g q):Qn (((w.setCell ⟨B,0,none⟩ u0).setCell ⟨B,1,none⟩ u1).setCell ⟨B,2,none⟩ u2) s x n d y m g q:=⟨h.zn hx.num,h.dn hx.den⟩
def QAns (L:Nat) (w w':World) (e:Ending) (q:Rat):Prop:=∃ s x n c d y m c' g,e=.returned (.agg #[.bool s,.slice x n c,.slice y m c']) ∧ Below w.heap.size w w' ∧ n ≤ L ∧ m ≤ L ∧ Qn w' s x n d y m g q
theorem qbox1 {w:World} (a0 a1 a2:Value) (t u:TypeId) :
  Bx3 ((w.alloc (.cells #[a0,a1,a2] t)).alloc (.cells #[.bool false,.slice none 0 0,.slice none 0 0] u)) w.heap.size a0 a1 a2 ∧ Ob ((w.alloc (.cells #[a0,a1,a2] t)).alloc (.cells #[.bool false,.slice none 0 0,.slice none 0 0] u)) (w.heap.size + 1) ∧ Below w.heap.size w ((w.alloc (.cells #[a0,a1,a2] t)).alloc (.cells #[.bool false,.slice none 0 0,.slice none 0 0] u)):=by
 have h3:=ob_new (w.alloc (.cells #[a0,a1,a2] t)) u
 rw [size_alloc1] at h3
 exact ⟨(bx3_at w a0 a1 a2 t).below (below_alloc (Below.refl _ _) _),h3,below_alloc (below_alloc (Below.refl w.heap.size w) _) _⟩
set_option maxRecDepth 100000 in
set_option maxHeartbeats 8000000 in
theorem qFrom_c {L:Nat} {w:World} {s:Bool} {x:Option Addr} {n c:Nat} {f:Nat → Int} {y:Option Addr} {m d:Nat} {g:Nat → Int} {q:Rat} (h:Rn L w s x n c f y m d g q) (hL:L ≤ 16384) :
  Calls Tryz.prog 67 #[.agg #[.bool s,.slice x n c,.slice y m d]] w fun e w'=>QAns (2 * L) w w' e q:=by
 obtain ⟨h1,h2,h3⟩:=qbox1 (w:=w) (.bool s) (.slice x n c) (.slice y m d) 24 68
 have h4:=(h.alloc (.cells #[.bool s,.slice x n c,.slice y m d] 24)).alloc (.cells #[.bool false,.slice none 0 0,.slice none 0 0] 68)
 clear h
 go_enter Tryz.func67,Tryz.ntmps67
 go_wp2_with fail
 generalize (w.alloc (.cells #[.bool s,.slice x n c,.slice y m d] 24)).alloc (.cells #[.bool false,.slice none 0 0,.slice none 0 0] 68)=w1 at *
 have HN:=hid h4;have OB:=hid h2;have HW:=hid h3
 obtain ⟨z,x0,x1,x2⟩:=h1
 obtain ⟨hz,z0,z1,z2,zf⟩:=h2
 have hln:=h4.ln;have hld:=h4.ld
 clear h3 h4
 have C1:Hid (∀ W,Below w1.heap.size w1 W → Calls Tryz.prog 83 #[.slice x n c] W fun e w'=>∃ z k c d,e=.returned (.slice z k c) ∧ Below W.heap.size W w' ∧ Hid (k ≤ 2 * n ∧ Dn w' z k d (vf f n).toNat)):=fun W hW=>fromD_c (by omega) (HN.out.below hW).num.rd HN.out.num.lm
 have C2:Hid (∀ W,Below w1.heap.size w1 W → Calls Tryz.prog 83 #[.slice y m d] W fun e w'=>∃ z k c d,e=.returned (.slice z k c) ∧ Below W.heap.size W w' ∧ Hid (k ≤ 2 * m ∧ Dn w' z k d (vf g m).toNat)):=fun W hW=>fromD_c (by omega) (HN.out.below hW).den.rd HN.out.den.lm
 go_region_held3 (fun w'=>w'.cell? ⟨w.heap.size,0,none⟩=some (.bool s) ∧ w'.cell? ⟨w.heap.size,1,none⟩=some (.slice x n c) ∧ w'.cell? ⟨w.heap.size,2,none⟩=some (.slice y m d) ∧ (w'.cell? ⟨w.heap.size + 1,0,none⟩).isSome=true ∧ (w'.cell? ⟨w.heap.size + 1,1,none⟩).isSome=true ∧ (w'.cell? ⟨w.heap.size + 1,2,none⟩).isSome=true ∧ w'.frozen? ⟨w.heap.size + 1,0,none⟩=false ∧ w'.frozen? ⟨w.heap.size + 1,1,none⟩=false ∧ w'.frozen? ⟨w.heap.size + 1,2,none⟩=false)
  (refine ⟨?_,?_,?_,?_,?_,?_,?_,?_,?_⟩ <;> repeat (with_reducible first | assumption | exact zf _ | exact tf _ | exact uf _ | exact kI0 z0 | exact kI0 z1 | exact kI0 z2 | exact kI0 t0 | exact kI0 t1 | exact kI0 t2 | exact kI0 u0 | exact kI0 u1 | exact kI0 u2 | refine kCd ?_ | refine kId ?_ | refine kFd ?_ | refine kCs (by simp only [ne_eq];omega) ?_ | refine kIs ?_ | refine kFs ?_ | refine kCb (by assumption) ?_ | refine kIb (by assumption) ?_))
  (first
   | (go_at_call 83;with_reducible refine (C1.out _ (by repeat (with_reducible first | assumption | exact Below.refl _ _ | refine Below.drew ?_ | refine kBb (by assumption) ?_))).mono ?_;rintro e v5 ⟨z5,k5,c5,d5,rfl,hb5,H5⟩;have Tt:Ob v5 (w.heap.size + 1):=(by repeat (with_reducible first | exact OB.out | exact Tt | refine Ob.drew ?_ | refine kOb (by assumption) ?_));obtain ⟨_,t0,t1,t2,tf⟩:=id Tt)
   | (go_at_call 83;with_reducible refine (C2.out _ (by repeat (with_reducible first | assumption | exact Below.refl _ _ | refine Below.drew ?_ | refine kBb (by assumption) ?_))).mono ?_;rintro e v6 ⟨z6,k6,c6,d6,rfl,hb6,H6⟩;have Tu:Ob v6 (w.heap.size + 1):=(by repeat (with_reducible first | exact OB.out | exact Tt | exact Tu | refine Ob.drew ?_ | refine kOb (by assumption) ?_));obtain ⟨_,u0,u1,u2,uf⟩:=id Tu))
 all_goals
  have D5:Dn v6 z5 k5 d5 (vf f n).toNat:=(by repeat (with_reducible first | exact H5.out.2 | refine Dn.drew ?_ | refine kDb (by assumption) ?_))
  have hb:Below w1.heap.size w1 v6:=(by repeat (with_reducible first | assumption | exact Below.refl _ _ | refine Below.drew ?_ | refine kBb (by assumption) ?_))
  have e1:(vf f n).toNat=q.num.natAbs:=by rw [← natAbs_wv (s:=s) HN.out.num.lm,HN.out.num.val]
  have e2:(vf g m).toNat=q.den:=by
   have:=HN.out.den.val
   rw [wv_false] at this;omega
  have D6:=H6.out.2
  rw [e1] at D5
  rw [e2] at D6
  have hk5:=H5.out.1;have hk6:=H6.out.1
  go_wp2
  refine bodyPost_ret (v:=.agg #[.bool s,.slice z5 k5 c5,.slice z6 k6 c6]) (by simp [results,Tryz.results67,go_sem,u0,u1,u2]) rfl ⟨s,z5,k5,c5,d5,z6,k6,c6,d6,rfl,below_st (HW.out.trans (hb.mono HW.out.size)) (by omega),by omega,by omega,Tu.qn ⟨⟨D5,HN.out.num.sgn,fun hs=>?_⟩,D6⟩⟩
  subst hs
  have hnz:0 < n:=((wfB_iff _ _ _).1 HN.out.num.wf).2 rfl
  have:=vf_pos HN.out.num.lm (fm_of_wfB HN.out.num.wf) hnz
  exact D5.pos (by omega)
theorem qSign_c {w:World} {s:Bool} {x:Option Addr} {n c:Nat} {d:Nat → Int} {y:Option Addr} {m e:Nat} {g:Nat → Int} {q:Rat} (h:Qn w s x n d y m g q) (hn:n ≤ 1048576) :
  Calls Tryz.prog 86 #[.agg #[.bool s,.slice x n c,.slice y m e]] w fun en w'=>∃ c,en=.returned (.int .i64 c) ∧ Below w.heap.size w w' ∧ Ord c q.num 0:=by
 have h1:=bx3_at w (.bool s) (.slice x n c) (.slice y m e) 68
 have h3:=below_alloc (Below.refl w.heap.size w) (.cells #[.bool s,.slice x n c,.slice y m e] 68)
 have h4:=h.alloc (.cells #[.bool s,.slice x n c,.slice y m e] 68)
 clear h
 go_enter Tryz.func86,Tryz.ntmps86
 go_wp2_with fail
 generalize w.alloc (.cells #[.bool s,.slice x n c,.slice y m e] 68)=w1 at *
 refine (zSign_c h4.num hn).mono ?_
 rintro en w2 ⟨cc,rfl,hb,ho⟩
 have HO:=hid ho;have HB:=hid (h3.trans (hb.mono h3.size))
 clear h1 h3 h4 hb ho
 go_wp2
 go_ret
 exact ⟨cc,rfl,HB.out,HO.out⟩
set_option maxRecDepth 100000 in
set_option maxHeartbeats 400000 in
theorem rclone_c (ao:Option Addr) (n cap:Nat) (f:Nat → Int) (w:World) (hn:n ≤ 1048576) (hr:Rd .u64 w ao n f) (hnil:ao=none → n=0 ∧ cap=0) :
  Calls Tryz.prog 113 #[.slice ao n cap] w fun e w'=>∃ ao' cap',e=.returned (.slice ao' n cap') ∧ Below w.heap.size w w' ∧ Own .u64 79 w' w.heap.size (.slice ao' n cap') n f:=by
 cases ao with
 | none =>
  obtain ⟨rfl,rfl⟩:=hnil rfl
  go_enter Tryz.func113,Tryz.ntmps113
  obtain ⟨i0,hi,hz0,hz1,hz2⟩:=info_parts Tryz.infoU64
  go_wp2_with (at_builtin;refine wpList_append_own_none rfl (.const (.slice none 0 0)) (.tmp 3) 22 rfl w.heap.size 79 i0 1 Tryz.underlying22 hi (.slice none 0 0) 0 [] rfl (World.ownsRow_nil _ _ _ _) rfl ?_)
  go_ret
  exact ⟨none,0,rfl,Below.refl _ _,own_nil _ _ _ _ _⟩
 | some ad =>
  clear hnil
  have HR:=hid hr
  clear hr
  go_enter Tryz.func113,Tryz.ntmps113
  obtain ⟨i0,hi,hz0,hz1,hz2⟩:=info_parts Tryz.infoU64
  go_wp2_with (at_builtin;refine wpList_append_own w rfl (.const (.slice none 0 0)) (.tmp 3) 22 rfl w.heap.size 79 i0 (.int .u64 0) 1 8 Tryz.underlying22 hi hz0 hz1 hz2 rfl (by decide) (.slice none 0 0) 0 [] rfl (World.ownsRow_nil _ _ _ _) ad n cap (lst .u64 f n) rfl (by rw [lst_length,Nat.mul_one]) ?c1 (lst_one _ _ _) ?c2 ?c3 (Nat.le_refl _) ?_)
  case c1 =>
   intro j u hu
   obtain ⟨hj,rfl⟩:=lst_getE hu
   obtain ⟨b,o,e,hc⟩:=HR.out j hj
   cases e
   rw [addr_add];exact hc
  case c2=>unfold maxLen;omega
  case c3=>omega
  intro v' w' hown hgr _
  have hown':Own .u64 79 w' w.heap.size v' n f:=hown
  have hbel:Below w.heap.size w w':=(Below.refl _ _).grown hgr (Nat.le_refl _) (fun k h=>by simp [Value.ownBlock] at h)
  obtain ⟨ao',cap',hv,hcc,hnn,hml,hrd,hlt⟩:=hown'.shape
  rw [hv] at hown' ⊢
  clear hown hgr hv
  have HO:=hid hown'
  clear hown'
  go_wp2
  go_ret
  exact ⟨ao',cap',rfl,hbel,HO.out⟩
def ROrd (c:Int) (a b:Rat):Prop:=c=-1 ∧ a < b ∨ c=0 ∧ a=b ∨ c=1 ∧ b < a
theorem rord_of {c:Int} {a b:Rat} (h:Ord c (a.num * b.den) (b.num * a.den)):ROrd c a b:=by
 rcases h with ⟨h1,h2⟩ | ⟨h1,h2⟩ | ⟨h1,h2⟩
 ·exact .inl ⟨h1,(Rat.lt_iff a b).2 h2⟩
 ·refine .inr (.inl ⟨h1,Rat.le_antisymm ((Rat.le_iff a b).2 ?_) ((Rat.le_iff b a).2 ?_)⟩)
  ·rw [h2];exact Int.le_refl _
  ·rw [h2];exact Int.le_refl _
 ·exact .inr (.inr ⟨h1,(Rat.lt_iff b a).2 h2⟩)
theorem prod_of {L:Nat} {w1 wx W5 w5:World} {b4:Nat} {r1:Bool} {p1:Option Addr} {k1 c1 n m:Nat} {q:Nat → Int} {v:Int} (hn:n ≤ L) (hm:m ≤ L) (hW:Below w1.heap.size w1 W5) (hD:WRes (n + m) W5 w5 r1 p1 k1 c1 q ∧ wv r1 q k1=v) (hT:Turned w1.heap.size W5.heap.size w5 wx) (hb:Bx wx b4 r1 p1 k1 c1):FlAt (2 * L) w1 wx b4 r1 p1 k1 c1 v:=by
 have hQ:=hD.1.res.turned hW hT
 have:=hQ.le
 exact ⟨hb,hQ.bel,⟨q,hQ.rd,hQ.lm,hD.1.wfB,hQ.ncap,hQ.nil',hD.2⟩,by omega⟩
set_option maxRecDepth 100000 in
set_option maxHeartbeats 8000000 in
theorem rCmp_n {L:Nat} {w:World} {sa:Bool} {xa:Option Addr} {na ca:Nat} {fa:Nat → Int} {ya:Option Addr} {ma da:Nat} {ga:Nat → Int} {a:Rat} {sb:Bool} {xb:Option Addr} {nb cb:Nat} {fb:Nat → Int} {yb:Option Addr} {mb db:Nat} {gb:Nat → Int} {b:Rat} (ha:Rn L w sa xa na ca fa ya ma da ga a) (hb:Rn L w sb xb nb cb fb yb mb db gb b) (hL:L ≤ 1000) :
  Calls Tryz.prog 97 #[.agg #[.bool sa,.slice xa na ca,.slice ya ma da],.agg #[.bool sb,.slice xb nb cb,.slice yb mb db]] w fun e w'=>∃ c,e=.returned (.tuple #[.int .i64 c,.int .i64 0]) ∧ Below w.heap.size w w' ∧ ROrd c a b:=by
 have HA0:=hid ha;have HB0:=hid hb
 have b1:=ha.ln;have b2:=ha.ld;have b3:=hb.ln;have b4:=hb.ld
 clear ha hb
 go_enter Tryz.func97,Tryz.ntmps97
 go_wp2_with fail
 refine (rForm_n ((HA0.out.alloc _).alloc _) (by omega)).mono ?_
 rintro e w0 ⟨rfl,hbel⟩
 obtain ⟨ba,bb,hw⟩:=two_new hbel
 have BA0:=hid ba;have BB0:=hid bb;have HW0:=hid hw;have RA0:=hid (HA0.out.below hw);have RB0:=hid (HB0.out.below hw)
 clear hbel ba bb hw HA0 HB0
 obtain ⟨zb,y0,y1,y2⟩:=BB0.out
 go_wp2_with fail
 refine (rForm_n RB0.out (by omega)).mono ?_
 rintro e w1 ⟨rfl,hb⟩
 clear zb y0 y1 y2
 have BA1:=hid (BA0.out.below hb);have BB1:=hid (BB0.out.below hb);have RA1:=hid (RA0.out.below hb);have RB1:=hid (RB0.out.below hb);have HW1:=hid (HW0.out.trans (hb.mono HW0.out.size))
 clear BA0 BB0 RA0 RB0 HW0 hb
 obtain ⟨za,x0,x1,x2⟩:=BA1.out
 obtain ⟨zb,y0,y1,y2⟩:=BB1.out
 have C1:Hid (∀ W,Below w1.heap.size w1 W → Calls Tryz.prog 100 #[.agg #[.bool sa,.slice xa na ca,.slice ya ma da]] W fun e w'=>e=.returned (.agg #[.bool sa,.slice xa na ca]) ∧ Below W.heap.size W w'):=fun W _=>numer_c sa xa ya na ca ma da W
 have C2:Hid (∀ W,Below w1.heap.size w1 W → Calls Tryz.prog 120 #[.agg #[.bool sb,.slice xb nb cb,.slice yb mb db]] W fun e w'=>e=.returned (.agg #[.bool false,.slice yb mb db]) ∧ Below W.heap.size W w'):=fun W _=>denom_c sb xb yb nb cb mb db W
 have C3:Hid (∀ W,Below w1.heap.size w1 W → Calls Tryz.prog 119 #[.agg #[.bool sa,.slice xa na ca],.agg #[.bool false,.slice yb mb db]] W fun e w'=>∃ r1 p1 k1 c1 q,e=.returned (.tuple #[.agg #[.bool r1,.slice p1 k1 c1],.int .i64 0]) ∧ Below W.heap.size W w' ∧ Hid (WRes (na + mb) W w' r1 p1 k1 c1 q ∧ wv r1 q k1=a.num * b.den)):=fun W hW=>by
  have h1:=(RA1.out.below hW).num;have h2:=(RB1.out.below hW).den
  refine (wMul_c sa false xa yb na mb ca db fa gb W (by omega) (by omega) h1.cap.1 h2.cap.1 h1.cap.2 h2.cap.2 h1.rd h2.rd h1.lm h2.lm).mono ?_
  rintro e w' ⟨r,z,k,e',h,er,rfl,hres,hans⟩
  obtain ⟨rfl,hv⟩:=hans.ok ⟨h1.wf,h2.wf⟩
  exact ⟨r,z,k,e',h,rfl,hres.res.bel,hres,by rw [hv,h1.val,h2.val]⟩
 go_upto_region 3 with fail
 go_cut [6,7] from 18 to 25 (fun u t wx=>∃ (wy:World) (b4:Nat) (s:Bool) (z:Option Addr) (k c:Nat),wy=wx ∧ u=.pointer (some ⟨b4,0,none⟩) ∧ t=.int .i64 0 ∧ FlAt (2 * L) w1 wy b4 s z k c (a.num * b.den))
 case first =>
  go_region_held3 (fun w'=>w'.cell? ⟨w.heap.size,0,none⟩=some (.bool sa) ∧ w'.cell? ⟨w.heap.size,1,none⟩=some (.slice xa na ca) ∧ w'.cell? ⟨w.heap.size,2,none⟩=some (.slice ya ma da) ∧ w'.cell? ⟨w.heap.size + 1,0,none⟩=some (.bool sb) ∧ w'.cell? ⟨w.heap.size + 1,1,none⟩=some (.slice xb nb cb) ∧ w'.cell? ⟨w.heap.size + 1,2,none⟩=some (.slice yb mb db))
   (refine ⟨?_,?_,?_,?_,?_,?_⟩ <;> repeat (with_reducible first | assumption | refine kCd ?_ | refine kCa ?_ | refine kCs (by simp only [ne_eq];omega) ?_ | refine kCb (by assumption) ?_))
   (first
    | (go_at_call 100;with_reducible refine (C1.out _ (by repeat (with_reducible first | assumption | exact Below.refl _ _ | refine Below.drew ?_ | refine kBa ?_ | refine kBb (by assumption) ?_))).mono ?_;rintro e v3 ⟨rfl,hb3⟩;have hza:=hb3.size;(try simp at hza);obtain ⟨hc3,hf3⟩:=bcell hb3;(try have q100:w1.heap.size < v3.heap.size:=by omega))
    | (go_at_call 120;with_reducible refine (C2.out _ (by repeat (with_reducible first | assumption | exact Below.refl _ _ | refine Below.drew ?_ | refine kBa ?_ | refine kBb (by assumption) ?_))).mono ?_;rintro e v4 ⟨rfl,hb4⟩;have hzb:=hb4.size;(try simp at hzb);obtain ⟨hc4,hf4⟩:=bcell hb4;(try have q100:w1.heap.size < v4.heap.size:=by omega);(try have q102:v3.heap.size < v4.heap.size:=by omega))
    | (go_at_call 119;with_reducible refine (C3.out _ (by repeat (with_reducible first | assumption | exact Below.refl _ _ | refine Below.drew ?_ | refine kBa ?_ | refine kBb (by assumption) ?_))).mono ?_;rintro e v5 ⟨r1,p1,k1,c1,q,rfl,hb5,HD⟩;have hzc:=hb5.size;(try simp at hzc);obtain ⟨hc5,hf5⟩:=bcell hb5;(try have q100:w1.heap.size < v5.heap.size:=by omega);(try have q102:v3.heap.size < v5.heap.size:=by omega);(try have q104:v4.heap.size < v5.heap.size:=by omega)))
  all_goals
   go_wp2_with fail
   go_meet
   refine ⟨_,_,r1,p1,k1,c1,rfl,rfl,rfl,prod_of (by assumption) (by assumption) (by repeat (with_reducible first | assumption | exact Below.refl _ _ | refine Below.drew ?_ | refine kBa ?_ | refine kBb (by assumption) ?_)) HD.out (by repeat (with_reducible first | exact Turned.refl _ _ _ | refine Turned.drew ?_ | refine Turned.alloc ?_ _ | refine Turned.set ?_ (by first | omega | (simp;done) | (simp;omega)) (by first | omega | (simp;done) | (simp;omega)) _)) ⟨(by first | omega | (simp;done) | (simp;omega)),(by repeat (with_reducible first | assumption | exact kN0 | exact kN1 | (refine kM0 ?_;(simp <;> fail)) | (refine kM1 ?_;(simp <;> fail)) | exact kI0 kN0 | exact kI0 kN1 | (refine kI0 (kM0 ?_);(simp <;> fail)) | (refine kI0 (kM1 ?_);(simp <;> fail)) | refine kCd ?_ | refine kCe ?_ | refine kCo (by decide) ?_ | refine kCs (by simp only [ne_eq];omega) ?_ | refine kCa ?_ | refine kCb (by assumption) ?_ | refine kId ?_ | refine kIs ?_ | refine kIa ?_ | refine kIb (by assumption) ?_)),(by repeat (with_reducible first | assumption | exact kN0 | exact kN1 | (refine kM0 ?_;(simp <;> fail)) | (refine kM1 ?_;(simp <;> fail)) | exact kI0 kN0 | exact kI0 kN1 | (refine kI0 (kM0 ?_);(simp <;> fail)) | (refine kI0 (kM1 ?_);(simp <;> fail)) | refine kCd ?_ | refine kCe ?_ | refine kCo (by decide) ?_ | refine kCs (by simp only [ne_eq];omega) ?_ | refine kCa ?_ | refine kCb (by assumption) ?_ | refine kId ?_ | refine kIs ?_ | refine kIa ?_ | refine kIb (by assumption) ?_))⟩⟩
 case rest =>
  obtain ⟨w2,bX,sX,zX,kX,cX,rfl,rfl,rfl,hbx,hb,⟨fX,hwn⟩,hleX⟩:=hcut
  have BX2:=hid hbx;have WX2:=hid hwn
  clear hbx hwn za zb x0 x1 x2 y0 y1 y2 C1 C2 C3
  have BA2:=hid (BA1.out.below hb);have BB2:=hid (BB1.out.below hb);have RA2:=hid (RA1.out.below hb);have RB2:=hid (RB1.out.below hb);have HW2:=hid (HW1.out.trans (hb.mono HW1.out.size))
  clear BA1 BB1 RA1 RB1 HW1 hb
  obtain ⟨za,x0,x1,x2⟩:=BA2.out
  obtain ⟨zb,y0,y1,y2⟩:=BB2.out
  have C1:Hid (∀ W,Below w2.heap.size w2 W → Calls Tryz.prog 100 #[.agg #[.bool sb,.slice xb nb cb,.slice yb mb db]] W fun e w'=>e=.returned (.agg #[.bool sb,.slice xb nb cb]) ∧ Below W.heap.size W w'):=fun W _=>numer_c sb xb yb nb cb mb db W
  have C2:Hid (∀ W,Below w2.heap.size w2 W → Calls Tryz.prog 120 #[.agg #[.bool sa,.slice xa na ca,.slice ya ma da]] W fun e w'=>e=.returned (.agg #[.bool false,.slice ya ma da]) ∧ Below W.heap.size W w'):=fun W _=>denom_c sa xa ya na ca ma da W
  have C3:Hid (∀ W,Below w2.heap.size w2 W → Calls Tryz.prog 119 #[.agg #[.bool sb,.slice xb nb cb],.agg #[.bool false,.slice ya ma da]] W fun e w'=>∃ r1 p1 k1 c1 q,e=.returned (.tuple #[.agg #[.bool r1,.slice p1 k1 c1],.int .i64 0]) ∧ Below W.heap.size W w' ∧ Hid (WRes (nb + ma) W w' r1 p1 k1 c1 q ∧ wv r1 q k1=b.num * a.den)):=fun W hW=>by
   have h1:=(RB2.out.below hW).num;have h2:=(RA2.out.below hW).den
   refine (wMul_c sb false xb ya nb ma cb da fb ga W (by omega) (by omega) h1.cap.1 h2.cap.1 h1.cap.2 h2.cap.2 h1.rd h2.rd h1.lm h2.lm).mono ?_
   rintro e w' ⟨r,z,k,e',h,er,rfl,hres,hans⟩
   obtain ⟨rfl,hv⟩:=hans.ok ⟨h1.wf,h2.wf⟩
   exact ⟨r,z,k,e',h,rfl,hres.res.bel,hres,by rw [hv,h1.val,h2.val]⟩
  go_upto_region 4 with fail
  go_cut [8,9] from 26 to 33 (fun u t wx=>∃ (wy:World) (b4:Nat) (s:Bool) (z:Option Addr) (k c:Nat),wy=wx ∧ u=.pointer (some ⟨b4,0,none⟩) ∧ t=.int .i64 0 ∧ FlAt (2 * L) w2 wy b4 s z k c (b.num * a.den))
  case first =>
   go_region_held3 (fun w'=>w'.cell? ⟨w.heap.size,0,none⟩=some (.bool sa) ∧ w'.cell? ⟨w.heap.size,1,none⟩=some (.slice xa na ca) ∧ w'.cell? ⟨w.heap.size,2,none⟩=some (.slice ya ma da) ∧ w'.cell? ⟨w.heap.size + 1,0,none⟩=some (.bool sb) ∧ w'.cell? ⟨w.heap.size + 1,1,none⟩=some (.slice xb nb cb) ∧ w'.cell? ⟨w.heap.size + 1,2,none⟩=some (.slice yb mb db))
    (refine ⟨?_,?_,?_,?_,?_,?_⟩ <;> repeat (with_reducible first | assumption | refine kCd ?_ | refine kCa ?_ | refine kCs (by simp only [ne_eq];omega) ?_ | refine kCb (by assumption) ?_))
    (first
     | (go_at_call 100;with_reducible refine (C1.out _ (by repeat (with_reducible first | assumption | exact Below.refl _ _ | refine Below.drew ?_ | refine kBa ?_ | refine kBb (by assumption) ?_))).mono ?_;rintro e v3 ⟨rfl,hb3⟩;have hza:=hb3.size;(try simp at hza);obtain ⟨hc3,hf3⟩:=bcell hb3;(try have q100:w2.heap.size < v3.heap.size:=by omega))
     | (go_at_call 120;with_reducible refine (C2.out _ (by repeat (with_reducible first | assumption | exact Below.refl _ _ | refine Below.drew ?_ | refine kBa ?_ | refine kBb (by assumption) ?_))).mono ?_;rintro e v4 ⟨rfl,hb4⟩;have hzb:=hb4.size;(try simp at hzb);obtain ⟨hc4,hf4⟩:=bcell hb4;(try have q100:w2.heap.size < v4.heap.size:=by omega);(try have q102:v3.heap.size < v4.heap.size:=by omega))
     | (go_at_call 119;with_reducible refine (C3.out _ (by repeat (with_reducible first | assumption | exact Below.refl _ _ | refine Below.drew ?_ | refine kBa ?_ | refine kBb (by assumption) ?_))).mono ?_;rintro e v5 ⟨r1,p1,k1,c1,q,rfl,hb5,HD⟩;have hzc:=hb5.size;(try simp at hzc);obtain ⟨hc5,hf5⟩:=bcell hb5;(try have q100:w2.heap.size < v5.heap.size:=by omega);(try have q102:v3.heap.size < v5.heap.size:=by omega);(try have q104:v4.heap.size < v5.heap.size:=by omega)))
   all_goals
    go_wp2_with fail
    go_meet
    refine ⟨_,_,r1,p1,k1,c1,rfl,rfl,rfl,prod_of (by assumption) (by assumption) (by repeat (with_reducible first | assumption | exact Below.refl _ _ | refine Below.drew ?_ | refine kBa ?_ | refine kBb (by assumption) ?_)) HD.out (by repeat (with_reducible first | exact Turned.refl _ _ _ | refine Turned.drew ?_ | refine Turned.alloc ?_ _ | refine Turned.set ?_ (by first | omega | (simp;done) | (simp;omega)) (by first | omega | (simp;done) | (simp;omega)) _)) ⟨(by first | omega | (simp;done) | (simp;omega)),(by repeat (with_reducible first | assumption | exact kN0 | exact kN1 | (refine kM0 ?_;(simp <;> fail)) | (refine kM1 ?_;(simp <;> fail)) | exact kI0 kN0 | exact kI0 kN1 | (refine kI0 (kM0 ?_);(simp <;> fail)) | (refine kI0 (kM1 ?_);(simp <;> fail)) | refine kCd ?_ | refine kCe ?_ | refine kCo (by decide) ?_ | refine kCs (by simp only [ne_eq];omega) ?_ | refine kCa ?_ | refine kCb (by assumption) ?_ | refine kId ?_ | refine kIs ?_ | refine kIa ?_ | refine kIb (by assumption) ?_)),(by repeat (with_reducible first | assumption | exact kN0 | exact kN1 | (refine kM0 ?_;(simp <;> fail)) | (refine kM1 ?_;(simp <;> fail)) | exact kI0 kN0 | exact kI0 kN1 | (refine kI0 (kM0 ?_);(simp <;> fail)) | (refine kI0 (kM1 ?_);(simp <;> fail)) | refine kCd ?_ | refine kCe ?_ | refine kCo (by decide) ?_ | refine kCs (by simp only [ne_eq];omega) ?_ | refine kCa ?_ | refine kCb (by assumption) ?_ | refine kId ?_ | refine kIs ?_ | refine kIa ?_ | refine kIb (by assumption) ?_))⟩⟩
  case rest =>
   obtain ⟨w3,bY,sY,zY,kY,cY,rfl,rfl,rfl,hby,hb,⟨fY,hwy⟩,hleY⟩:=hcut
   have BY3:=hid hby;have WY3:=hid hwy
   clear hby hwy za zb x0 x1 x2 y0 y1 y2 C1 C2 C3
   have BX3:=hid (BX2.out.below hb);have WX3:=hid (WX2.out.below hb);have HW3:=hid (HW2.out.trans (hb.mono HW2.out.size))
   clear BX2 WX2 HW2 hb
   obtain ⟨zx,x0,x1⟩:=BX3.out
   obtain ⟨zy,y0,y1⟩:=BY3.out
   go_wp2_with fail
   refine (wCmp_c sX sY zX zY kX kY cX cY fX fY _ (by omega) (by omega) WX3.out.rd WY3.out.rd WX3.out.lm WY3.out.lm).mono ?_
   rintro e w4 ⟨cc,er,rfl,hb,hcm⟩
   have hcc:er=0 ∧ ROrd cc a b:=by
    rcases hcm with ⟨_,h1,h2⟩ | ⟨h1,_⟩
    ·rw [WX3.out.val,WY3.out.val] at h2
     exact ⟨h1,rord_of h2⟩
    ·exact absurd ⟨WX3.out.wf,WY3.out.wf⟩ h1
   obtain ⟨rfl,hord⟩:=hcc
   have HO:=hid hord;have HW4:=hid (HW3.out.trans (hb.mono HW3.out.size))
   clear hcm hord hb
   go_wp2
   go_ret2
   exact ⟨cc,rfl,HW4.out,HO.out⟩
theorem qToR_c {w:World} {s:Bool} {x:Option Addr} {n c:Nat} {d:Nat → Int} {y:Option Addr} {m e:Nat} {g:Nat → Int} {q:Rat} (h:Qn w s x n d y m g q) (hn:n ≤ 131072) (hm:m ≤ 131072) :
  Calls Tryz.prog 29 #[.agg #[.bool s,.slice x n c,.slice y m e]] w fun en w'=>∃ z k c' f z2 k2 c2 f2,en=.returned (.agg #[.bool s,.slice z k c',.slice z2 k2 c2]) ∧ Below w.heap.size w w' ∧ Hid (Rn (n + m) w' s z k c' f z2 k2 c2 f2 q):=by
 refine (qTo_c h.num.dn h.den hn hm).mono ?_
 rintro en w' ⟨z,k,c',f,z2,k2,c2,f2,rfl,h2,h3,h4,h5,h6,_,_⟩
 refine ⟨z,k,c',f,z2,k2,c2,f2,rfl,h2,⟨h5.rd,h5.lm,(wfB_iff _ _ _).2 ⟨fm_of_wfB h5.wf,fun hs=>?_⟩,h5.cap,h5.nil,?_⟩,h6,by omega,by omega⟩
 ·have h0:=h.num.dn.pos' (h.num.pos hs)
  rcases Nat.eq_zero_or_pos k with hk | hk
  ·subst hk
   have hv:=h5.val
   rw [wv_false] at hv
   have:(0:Int)=q.num.natAbs:=hv
   omega
  ·exact hk
 ·have hv:=h5.val
  rw [wv_false] at hv
  have hs:=h.num.sgn
  cases s
  ·rw [wv_false,hv];exact hs.symm
  ·rw [wv_true,hv];exact hs.symm
theorem zIntE_c {w:World} {z:Int} (h0:-9223372036854775808 ≤ z) (h1:z ≤ 9223372036854775807) :
  Calls Tryz.prog 116 #[.int .i64 z] w fun e w'=>∃ s x n c d,e=.returned (.agg #[.bool s,.slice x n c]) ∧ Below w.heap.size w w' ∧ Hid (n ≤ 2 ∧ Zn w' s x n d z):=by
 refine (zInt_c z w h0 h1).mono ?_
 rintro e w' ⟨s,x,n,c,d,rfl,h⟩
 have h2:=vd_nonneg h.dg
 have hv:=h.val
 cases s
 ·have hv':vd d n=z:=hv
  exact ⟨false,x,n,c,d,rfl,h.bel,h.le,⟨h.rd,h.dg,h.fm,by omega⟩,by show z=(z.natAbs:Int);omega,h.sgn⟩
 ·have hv':- vd d n=z:=hv
  exact ⟨true,x,n,c,d,rfl,h.bel,h.le,⟨h.rd,h.dg,h.fm,by omega⟩,by show z=-(z.natAbs:Int);omega,h.sgn⟩
set_option maxRecDepth 100000 in
set_option maxHeartbeats 4000000 in
theorem qInt_c {w:World} {z:Int} (h0:-9223372036854775808 ≤ z) (h1:z ≤ 9223372036854775807) :
  Calls Tryz.prog 94 #[.int .i64 z] w fun e w'=>QAns 2 w w' e (z:Rat):=by
 have h2:=ob_new w 68
 have h3:=below_alloc (Below.refl w.heap.size w) (.cells #[.bool false,.slice none 0 0,.slice none 0 0] 68)
 go_enter Tryz.func94,Tryz.ntmps94
 go_wp2_with fail
 generalize w.alloc (.cells #[.bool false,.slice none 0 0,.slice none 0 0] 68)=w1 at *
 have OB:=hid h2;have HW:=hid h3
 clear h2 h3
 refine (zIntE_c h0 h1).mono ?_
 rintro e w2 ⟨s2,x2,n2,c2,d2,rfl,hb,H2⟩
 have HB2:=hid hb
 clear hb
 go_wp2_with fail
 refine (dWord_c (V:=1) (by decide)).mono ?_
 rintro e w3 ⟨z3,k3,c3,d3,rfl,hb,H3⟩
 have HB3:=hid (HB2.out.trans (hb.mono HB2.out.size));have Z3:=hid (H2.out.2.below hb)
 have hk3:=H3.out.1;have hn2:=H2.out.1
 clear hb
 obtain ⟨hz,z0,z1,z2,zf⟩:=OB.out.below HB3.out
 go_wp2
 refine bodyPost_ret (v:=.agg #[.bool s2,.slice x2 n2 c2,.slice z3 k3 c3]) (by simp [results,Tryz.results94,go_sem,z0,z1,z2]) rfl ⟨s2,x2,n2,c2,d2,z3,k3,c3,d3,rfl,below_st (HW.out.trans (HB3.out.mono HW.out.size)) (by omega),by omega,by omega,(OB.out.below HB3.out).qn ⟨?_,?_⟩⟩
 ·rw [Rat.num_intCast];exact Z3.out
 ·rw [Rat.den_intCast];exact H3.out.2
set_option maxRecDepth 100000 in
set_option maxHeartbeats 4000000 in
theorem docOfQ_c {w:World} {z:Int} (h0:-9223372036854775808 ≤ z) (h1:z ≤ 9223372036854775807) :
  Calls Tryz.prog 68 #[.int .i64 z] w fun e w'=>RatAns 4 w w' e (z:Rat):=by
 have h2:=ob_new w 24
 have h3:=below_alloc (Below.refl w.heap.size w) (.cells #[.bool false,.slice none 0 0,.slice none 0 0] 24)
 go_enter Tryz.func68,Tryz.ntmps68
 go_wp2_with fail
 generalize w.alloc (.cells #[.bool false,.slice none 0 0,.slice none 0 0] 24)=w1 at *
 have OB:=hid h2;have HW:=hid h3
 clear h2 h3
 refine (qInt_c h0 h1).mono ?_
 rintro e w2 ⟨s2,x2,n2,c2,d2,y2,m2,e2,g2,rfl,hb,hl1,hl2,hq⟩
 have HB2:=hid hb;have HQ:=hid hq
 clear hb hq
 go_wp2_with fail
 refine (qToR_c HQ.out (by omega) (by omega)).mono ?_
 rintro e w3 ⟨z3,k3,c3,f3,y3,m3,e3,g3,rfl,hb,R3⟩
 have HB3:=hid (HB2.out.trans (hb.mono HB2.out.size))
 clear hb
 obtain ⟨hz,z0,z1,z2,zf⟩:=OB.out.below HB3.out
 go_wp2
 exact bodyPost_ret (v:=.agg #[.bool s2,.slice z3 k3 c3,.slice y3 m3 e3]) (by simp [results,Tryz.results68,go_sem,z0,z1,z2]) rfl ⟨s2,z3,k3,c3,f3,y3,m3,e3,g3,rfl,below_st (HW.out.trans (HB3.out.mono HW.out.size)) (by omega),(OB.out.below HB3.out).rn (R3.out.mono (by omega))⟩
theorem size_st3 (w:World) (B:Nat) (u0 u1 u2:Value):(((w.setCell ⟨B,0,none⟩ u0).setCell ⟨B,1,none⟩ u1).setCell ⟨B,2,none⟩ u2).heap.size=w.heap.size:=by simp [World.setCell]
theorem Ob.put {w B} (h:Ob w B) (u0 u1 u2:Value):Bx3 (((w.setCell ⟨B,0,none⟩ u0).setCell ⟨B,1,none⟩ u1).setCell ⟨B,2,none⟩ u2) B u0 u1 u2 :=
 ⟨by rw [size_st3];exact h.z,kCo (by decide) (kCo (by decide) (kCe (kI0 h.z0))),kCo (by decide) (kCe (kIs (kI0 h.z1))),kCe (kIs (kIs (kI0 h.z2)))⟩
def kq (kind:Nat) (a b:Rat):Rat:=if kind=0 then a + b else if kind=1 then a - b else if kind=2 then a * b else a / b
theorem Rn.num_zero {L w s x n c f y m d g q} (h:Rn L w s x n c f y m d g q):q.num=0 ↔ n=0:=by
 constructor
 ·intro h0
  rcases Nat.eq_zero_or_pos n with hn | hn
  ·exact hn
  ·have h1:=vf_pos h.num.lm (fm_of_wfB h.num.wf) hn
   have h2:=h.num.val
   cases s
   ·rw [wv_false] at h2;omega
   ·rw [wv_true] at h2;omega
 ·intro hn
  subst hn
  have h2:=h.num.val
  cases s
  ·rw [wv_false] at h2;exact h2.symm
  ·rw [wv_true] at h2;have:-(0:Int)=q.num:=h2;omega
theorem twinD_c {w:World} {x:Option Addr} {n c:Nat} {f:Nat → Int} (hr:Rd .u64 w x n f) (hn:n ≤ 17592186044416) (hnil:x=none → n=0 ∧ c=0) :
  Calls Tryz.prog 74 #[.slice x n c] w fun e w'=>∃ z c',e=.returned (.slice z n c') ∧ Below w.heap.size w w' ∧ Hid (Rd .u64 w' z n f ∧ (n ≤ c' ∧ c' ≤ 9223372036854775807) ∧ (z=none → n=0 ∧ c'=0)):=by
 refine (twin_c x n c f w (by omega) hr hnil).mono ?_
 rintro e w' ⟨z,c',rfl,h2,h3,h4⟩
 obtain ⟨ao,cap,hv,k1,k2,k3,_,_⟩:=h4.shape
 cases hv
 exact ⟨z,c',rfl,h2,h3,⟨k1,by unfold maxLen at k3;omega⟩,fun h=>by have:=k2 h;omega⟩
theorem kRdb {w w':World} {x:Option Addr} {n:Nat} {f:Nat → Int} (hb:Below w.heap.size w w') (h:Rd .u64 w x n f):Rd .u64 w' x n f:=h.below hb (Nat.le_refl _)
theorem kRwd {w x n c f y m d g} (h:Rw w x n c f y m d g):Rw w.drew x n c f y m d g:=⟨h.rx,h.lx,h.cx,h.nx,h.ry,h.ly,h.cy,h.ny⟩
set_option maxRecDepth 100000 in
set_option maxHeartbeats 8000000 in
theorem qTwin_c {w:World} {s:Bool} {x:Option Addr} {n c:Nat} {f:Nat → Int} {y:Option Addr} {m d:Nat} {g:Nat → Int} (h:Rw w x n c f y m d g) (hn:n ≤ 17592186044416) (hm:m ≤ 17592186044416) :
  Calls Tryz.prog 36 #[.agg #[.bool s,.slice x n c,.slice y m d]] w fun e w'=>∃ z c' z2 c2,e=.returned (.agg #[.bool s,.slice z n c',.slice z2 m c2]) ∧ Below w.heap.size w w' ∧ Hid (Rw w' z n c' f z2 m c2 g):=by
 obtain ⟨h1,h2,h3⟩:=qbox1 (w:=w) (.bool s) (.slice x n c) (.slice y m d) 24 24
 have h4:=h.below h3
 clear h
 go_enter Tryz.func36,Tryz.ntmps36
 go_wp2_with fail
 generalize (w.alloc (.cells #[.bool s,.slice x n c,.slice y m d] 24)).alloc (.cells #[.bool false,.slice none 0 0,.slice none 0 0] 24)=w1 at *
 have HN:=hid h4;have OB:=hid h2;have HW:=hid h3
 obtain ⟨z,x0,x1,x2⟩:=h1
 obtain ⟨hz,z0,z1,z2,zf⟩:=h2
 clear h3 h4
 have C1:Hid (∀ W,Below w1.heap.size w1 W → Calls Tryz.prog 74 #[.slice x n c] W fun e w'=>∃ z c',e=.returned (.slice z n c') ∧ Below W.heap.size W w' ∧ Hid (Rd .u64 w' z n f ∧ (n ≤ c' ∧ c' ≤ 9223372036854775807) ∧ (z=none → n=0 ∧ c'=0))):=fun W hW=>twinD_c (HN.out.below hW).rx (by omega) HN.out.nx
 have C2:Hid (∀ W,Below w1.heap.size w1 W → Calls Tryz.prog 74 #[.slice y m d] W fun e w'=>∃ z c',e=.returned (.slice z m c') ∧ Below W.heap.size W w' ∧ Hid (Rd .u64 w' z m g ∧ (m ≤ c' ∧ c' ≤ 9223372036854775807) ∧ (z=none → m=0 ∧ c'=0))):=fun W hW=>twinD_c (HN.out.below hW).ry (by omega) HN.out.ny
 go_region_held3 (fun w'=>w'.cell? ⟨w.heap.size,0,none⟩=some (.bool s) ∧ w'.cell? ⟨w.heap.size,1,none⟩=some (.slice x n c) ∧ w'.cell? ⟨w.heap.size,2,none⟩=some (.slice y m d) ∧ (w'.cell? ⟨w.heap.size + 1,0,none⟩).isSome=true ∧ (w'.cell? ⟨w.heap.size + 1,1,none⟩).isSome=true ∧ (w'.cell? ⟨w.heap.size + 1,2,none⟩).isSome=true ∧ w'.frozen? ⟨w.heap.size + 1,0,none⟩=false ∧ w'.frozen? ⟨w.heap.size + 1,1,none⟩=false ∧ w'.frozen? ⟨w.heap.size + 1,2,none⟩=false)
  (refine ⟨?_,?_,?_,?_,?_,?_,?_,?_,?_⟩ <;> repeat (with_reducible first | assumption | exact zf _ | exact tf _ | exact uf _ | exact kI0 z0 | exact kI0 z1 | exact kI0 z2 | exact kI0 t0 | exact kI0 t1 | exact kI0 t2 | exact kI0 u0 | exact kI0 u1 | exact kI0 u2 | refine kCd ?_ | refine kId ?_ | refine kFd ?_ | refine kCs (by simp only [ne_eq];omega) ?_ | refine kIs ?_ | refine kFs ?_ | refine kCb (by assumption) ?_ | refine kIb (by assumption) ?_))
  (first
   | (go_at_call 74;with_reducible refine (C1.out _ (by repeat (with_reducible first | assumption | exact Below.refl _ _ | refine Below.drew ?_ | refine kBb (by assumption) ?_))).mono ?_;rintro e v5 ⟨z5,c5,rfl,hb5,H5⟩;have Tt:Ob v5 (w.heap.size + 1):=(by repeat (with_reducible first | exact OB.out | exact Tt | exact Tu | refine Ob.drew ?_ | refine kOb (by assumption) ?_));obtain ⟨_,t0,t1,t2,tf⟩:=id Tt)
   | (go_at_call 74;with_reducible refine (C2.out _ (by repeat (with_reducible first | assumption | exact Below.refl _ _ | refine Below.drew ?_ | refine kBb (by assumption) ?_))).mono ?_;rintro e v6 ⟨z6,c6,rfl,hb6,H6⟩;have Tu:Ob v6 (w.heap.size + 1):=(by repeat (with_reducible first | exact OB.out | exact Tt | exact Tu | refine Ob.drew ?_ | refine kOb (by assumption) ?_));obtain ⟨_,u0,u1,u2,uf⟩:=id Tu))
 all_goals
  have D5:Rd .u64 v6 z5 n f:=(by repeat (with_reducible first | exact H5.out.1 | refine Rd.drew ?_ | refine kRdb (by assumption) ?_))
  have hb:Below w1.heap.size w1 v6:=(by repeat (with_reducible first | assumption | exact Below.refl _ _ | refine Below.drew ?_ | refine kBb (by assumption) ?_))
  go_wp2
  exact bodyPost_ret (v:=.agg #[.bool s,.slice z5 n c5,.slice z6 m c6]) (by simp [results,Tryz.results36,go_sem,u0,u1,u2]) rfl ⟨z5,c5,z6,c6,rfl,below_st (HW.out.trans (hb.mono HW.out.size)) (by omega),Tu.rd D5,HN.out.lx,H5.out.2.1,H5.out.2.2,Tu.rd H6.out.1,HN.out.ly,H6.out.2.1,H6.out.2.2⟩
structure Bx4 (w:World) (B:Nat) (a0 a1 a2 a3:Value):Prop where
 z:B < w.heap.size
 x0:w.cell? ⟨B,0,none⟩=some a0
 x1:w.cell? ⟨B,1,none⟩=some a1
 x2:w.cell? ⟨B,2,none⟩=some a2
 x3:w.cell? ⟨B,3,none⟩=some a3
theorem Bx4.below {w w' B a0 a1 a2 a3} (h:Bx4 w B a0 a1 a2 a3) (hb:Below w.heap.size w w'):Bx4 w' B a0 a1 a2 a3:=⟨Nat.lt_of_lt_of_le h.z hb.size,kCb hb h.x0,kCb hb h.x1,kCb hb h.x2,kCb hb h.x3⟩
theorem Bx4.alloc {w B a0 a1 a2 a3} (h:Bx4 w B a0 a1 a2 a3) (o:Obj):Bx4 (w.alloc o) B a0 a1 a2 a3:=h.below (below_alloc (Below.refl _ _) o)
theorem Bx4.next {w w' B a0 a1 a2 a3} {o:Obj} (h:Bx4 w B a0 a1 a2 a3) (hb:Below (w.alloc o).heap.size (w.alloc o) w'):Bx4 w' B a0 a1 a2 a3:=(h.alloc o).below hb
theorem bx4_at (w:World) (a0 a1 a2 a3:Value) (t:TypeId):Bx4 (w.alloc (.cells #[a0,a1,a2,a3] t)) w.heap.size a0 a1 a2 a3:=⟨by simp,by simp [go_sem],by simp [go_sem],by simp [go_sem],by simp [go_sem]⟩
theorem bx4_new {w w':World} {a0 a1 a2 a3:Value} {t:TypeId} (hb:Below (w.alloc (.cells #[a0,a1,a2,a3] t)).heap.size (w.alloc (.cells #[a0,a1,a2,a3] t)) w'):Bx4 w' w.heap.size a0 a1 a2 a3:=(bx4_at w a0 a1 a2 a3 t).below hb
structure Ob4 (w:World) (B:Nat):Prop where
 z:B < w.heap.size
 z0:w.cell? ⟨B,0,none⟩=some (.int .i64 0)
 z1:w.cell? ⟨B,1,none⟩=some (.bool false)
 z2:w.cell? ⟨B,2,none⟩=some (.slice none 0 0)
 z3:w.cell? ⟨B,3,none⟩=some (.slice none 0 0)
 zf:∀ o,w.frozen? ⟨B,o,none⟩=false
theorem Ob4.below {w w' B} (h:Ob4 w B) (hb:Below w.heap.size w w'):Ob4 w' B:=by
 obtain ⟨h1,h2⟩:=bcell hb
 exact ⟨Nat.lt_of_lt_of_le h.z hb.size,kCb hb h.z0,kCb hb h.z1,kCb hb h.z2,kCb hb h.z3,fun o=>(h2 _ _ h.z).trans (h.zf o)⟩
theorem kO4b {w w' B} (hb:Below w.heap.size w w') (h:Ob4 w B):Ob4 w' B:=h.below hb
theorem Ob4.alloc {w B} (h:Ob4 w B) (o:Obj):Ob4 (w.alloc o) B:=h.below (below_alloc (Below.refl _ _) o)
theorem Ob4.next {w w' B} {o:Obj} (h:Ob4 w B) (hb:Below (w.alloc o).heap.size (w.alloc o) w'):Ob4 w' B:=(h.alloc o).below hb
theorem Ob4.drew {w B} (h:Ob4 w B):Ob4 w.drew B:=⟨h.z,h.z0,h.z1,h.z2,h.z3,h.zf⟩
theorem ob4_new (w:World) (t:TypeId):Ob4 (w.alloc (.cells #[.int .i64 0,.bool false,.slice none 0 0,.slice none 0 0] t)) w.heap.size:=by
 refine ⟨by simp,by simp [go_sem],by simp [go_sem],by simp [go_sem],by simp [go_sem],fun o=>?_⟩
 have e:=heap_alloc_new w (.cells #[.int .i64 0,.bool false,.slice none 0 0,.slice none 0 0] t)
 simp only [World.frozen?,e];simp
theorem Ob4.rd {w B u0 u1 u2 u3 x n f} (h:Ob4 w B) (hx:Rd .u64 w x n f):Rd .u64 ((((w.setCell ⟨B,0,none⟩ u0).setCell ⟨B,1,none⟩ u1).setCell ⟨B,2,none⟩ u2).setCell ⟨B,3,none⟩ u3) x n f :=
 rd_setne (cell_off (by decide) (cell_off (by decide) (cell_off (by decide) h.z3))) (fun i h=>by cases h) (rd_setne (cell_off (by decide) (cell_off (by decide) h.z2)) (fun i h=>by cases h) (rd_setne (cell_off (by decide) h.z1) (fun i h=>by cases h) (rd_setne h.z0 (fun i h=>by cases h) hx)))
theorem Ob4.wn {w B u0 u1 u2 u3 s x n c f v} (h:Ob4 w B) (hx:Wn w s x n c f v):Wn ((((w.setCell ⟨B,0,none⟩ u0).setCell ⟨B,1,none⟩ u1).setCell ⟨B,2,none⟩ u2).setCell ⟨B,3,none⟩ u3) s x n c f v:=⟨h.rd hx.rd,hx.lm,hx.wf,hx.cap,hx.nil,hx.val⟩
theorem Ob4.dn {w B u0 u1 u2 u3 x n d V} (h:Ob4 w B) (hx:Dn w x n d V):Dn ((((w.setCell ⟨B,0,none⟩ u0).setCell ⟨B,1,none⟩ u1).setCell ⟨B,2,none⟩ u2).setCell ⟨B,3,none⟩ u3) x n d V:=⟨h.rd hx.rd,hx.dg,hx.fm,hx.val⟩
theorem Ob4.rn {w B u0 u1 u2 u3 L s x n c f y m d g q} (h:Ob4 w B) (hx:Rn L w s x n c f y m d g q):Rn L ((((w.setCell ⟨B,0,none⟩ u0).setCell ⟨B,1,none⟩ u1).setCell ⟨B,2,none⟩ u2).setCell ⟨B,3,none⟩ u3) s x n c f y m d g q:=⟨h.wn hx.num,h.wn hx.den,hx.ln,hx.ld⟩
theorem Ob4.rw {w B u0 u1 u2 u3 x n c f y m d g} (h:Ob4 w B) (hx:Rw w x n c f y m d g):Rw ((((w.setCell ⟨B,0,none⟩ u0).setCell ⟨B,1,none⟩ u1).setCell ⟨B,2,none⟩ u2).setCell ⟨B,3,none⟩ u3) x n c f y m d g:=⟨h.rd hx.rx,hx.lx,hx.cx,hx.nx,h.rd hx.ry,hx.ly,hx.cy,hx.ny⟩
theorem Ob4.zn {w B u0 u1 u2 u3 s x n d v} (h:Ob4 w B) (hx:Zn w s x n d v):Zn ((((w.setCell ⟨B,0,none⟩ u0).setCell ⟨B,1,none⟩ u1).setCell ⟨B,2,none⟩ u2).setCell ⟨B,3,none⟩ u3) s x n d v:=⟨h.dn hx.dn,hx.sgn,hx.pos⟩
theorem Ob4.qn {w B u0 u1 u2 u3 s x n d y m g q} (h:Ob4 w B) (hx:Qn w s x n d y m g q):Qn ((((w.setCell ⟨B,0,none⟩ u0).setCell ⟨B,1,none⟩ u1).setCell ⟨B,2,none⟩ u2).setCell ⟨B,3,none⟩ u3) s x n d y m g q:=⟨h.zn hx.num,h.dn hx.den⟩
theorem below_st4 {w0 w:World} {B:Nat} {u0 u1 u2 u3:Value} (hw:Below w0.heap.size w0 w) (hB:w0.heap.size ≤ B) :
  Below w0.heap.size w0 ((((w.setCell ⟨B,0,none⟩ u0).setCell ⟨B,1,none⟩ u1).setCell ⟨B,2,none⟩ u2).setCell ⟨B,3,none⟩ u3) :=
 below_turned hw hw.size (((((Turned.refl w0.heap.size (B + 1) w).set (x:=⟨B,0,none⟩) hB (by simp) _).set (x:=⟨B,1,none⟩) hB (by simp) _).set (x:=⟨B,2,none⟩) hB (by simp) _).set (x:=⟨B,3,none⟩) hB (by simp) _) (Nat.le_refl _)
theorem kRnd {L w s x n c f y m d g q} (h:Rn L w s x n c f y m d g q):Rn L w.drew s x n c f y m d g q:=⟨kWd h.num,kWd h.den,h.ln,h.ld⟩
theorem kRnb {L w w' s x n c f y m d g q} (hb:Below w.heap.size w w') (h:Rn L w s x n c f y m d g q):Rn L w' s x n c f y m d g q:=h.below hb
def efB (i:Int) (s:Bool) (f:Nat → Int) (n:Nat) (g:Nat → Int) (m:Nat):Bool:=rfB s f n g m && (decide (i=0) || ((decide (i=-1) || decide (i=1)) && decide (n=0)))
structure En (L:Nat) (w:World) (i:Int) (s:Bool) (x:Option Addr) (n c:Nat) (f:Nat → Int) (y:Option Addr) (m d:Nat) (g:Nat → Int) (q:Rat):Prop where
 rn:Rn L w s x n c f y m d g q
 inf:i=0 ∨ (i=-1 ∨ i=1) ∧ q=0
theorem En.below {L w w' i s x n c f y m d g q} (h:En L w i s x n c f y m d g q) (hb:Below w.heap.size w w'):En L w' i s x n c f y m d g q:=⟨h.rn.below hb,h.inf⟩
theorem En.alloc {L w i s x n c f y m d g q} (h:En L w i s x n c f y m d g q) (o:Obj):En L (w.alloc o) i s x n c f y m d g q:=⟨h.rn.alloc o,h.inf⟩
theorem En.mono {L L' w i s x n c f y m d g q} (h:En L w i s x n c f y m d g q) (hL:L ≤ L'):En L' w i s x n c f y m d g q:=⟨h.rn.mono hL,h.inf⟩
theorem Rn.q_zero {L w s x n c f y m d g q} (h:Rn L w s x n c f y m d g q):q=0 ↔ n=0:=by
 rw [← h.num_zero]
 constructor
 ·intro e;rw [e];rfl
 ·exact fun e=>Rat.num_eq_zero.1 e
theorem Rw.en {w i s x n c f y m d g L} (h:Rw w x n c f y m d g) (hf:efB i s f n g m=true) (hn:n ≤ L) (hm:m ≤ L):∃ q,En L w i s x n c f y m d g q:=by
 simp only [efB,Bool.and_eq_true,Bool.or_eq_true,decide_eq_true_eq] at hf
 obtain ⟨q,hq⟩:=h.rn hf.1 hn hm
 refine ⟨q,hq,?_⟩
 rcases hf.2 with h1 | ⟨h1,h2⟩
 ·exact .inl h1
 ·exact .inr ⟨h1,hq.q_zero.2 h2⟩
theorem En.ef {L w i s x n c f y m d g q} (h:En L w i s x n c f y m d g q):efB i s f n g m=true:=by
 simp only [efB,Bool.and_eq_true,Bool.or_eq_true,decide_eq_true_eq]
 refine ⟨h.rn.rf,?_⟩
 rcases h.inf with h1 | ⟨h1,h2⟩
 ·exact .inl h1
 ·exact .inr ⟨h1,h.rn.q_zero.1 h2⟩
def EOrd (c:Int) (i:Int) (a:Rat) (j:Int) (b:Rat):Prop:=(c=-1 ∧ (i < j ∨ i=j ∧ a < b)) ∨ (c=0 ∧ i=j ∧ a=b) ∨ (c=1 ∧ (j < i ∨ i=j ∧ b < a))
theorem eIsZero_c {w:World} {s:Bool} {x:Option Addr} {n c:Nat} {y:Option Addr} {m d:Nat} :
  Calls Tryz.prog 125 #[.agg #[.bool s,.slice x n c,.slice y m d]] w fun e w'=>e=.returned (.bool (decide (n=0))) ∧ Below w.heap.size w w':=by
 have key:∀ o:Obj,Below w.heap.size w (w.alloc o):=fun o=>below_alloc (Below.refl w.heap.size w) o
 have KEY:=hid key
 clear key
 by_cases hn:n=0
 ·have h1:((n:Int) == 0)=true:=by simp;omega
  rw [decide_eq_true hn]
  clear hn
  go_enter Tryz.func125,Tryz.ntmps125
  go_wp2
  go_ret
  exact ⟨rfl,KEY.out _⟩
 ·have h1:((n:Int) == 0)=false:=by simp;omega
  rw [decide_eq_false hn]
  clear hn
  go_enter Tryz.func125,Tryz.ntmps125
  go_wp2
  go_ret
  exact ⟨rfl,KEY.out _⟩
set_option maxRecDepth 100000 in
set_option maxHeartbeats 4000000 in
theorem eForm_b {w:World} {i:Int} {s:Bool} {x:Option Addr} {n c:Nat} {f:Nat → Int} {y:Option Addr} {m d:Nat} {g:Nat → Int} (h:Rw w x n c f y m d g) (hn:n ≤ 65536) (hm:m ≤ 65536) :
  Calls Tryz.prog 104 #[.agg #[.int .i64 i,.bool s,.slice x n c,.slice y m d]] w fun e w'=>e=.returned (.bool (efB i s f n g m)) ∧ Below w.heap.size w w':=by
 have HR:=hid (h.alloc (.cells #[.int .i64 i,.bool s,.slice x n c,.slice y m d] 73))
 have BX:=hid (bx4_at w (.int .i64 i) (.bool s) (.slice x n c) (.slice y m d) 73)
 have HW:=hid (below_alloc (Below.refl w.heap.size w) (.cells #[.int .i64 i,.bool s,.slice x n c,.slice y m d] 73))
 have C1:Hid (∀ W,Below (w.alloc (.cells #[.int .i64 i,.bool s,.slice x n c,.slice y m d] 73)).heap.size (w.alloc (.cells #[.int .i64 i,.bool s,.slice x n c,.slice y m d] 73)) W → Calls Tryz.prog 77 #[.agg #[.bool s,.slice x n c,.slice y m d]] W fun e w'=>e=.returned (.bool (rfB s f n g m)) ∧ Below W.heap.size W w'):=fun W hW=>rForm_c (HR.out.below hW) (by omega) (by omega)
 clear h
 by_cases h0:i=0
 ·subst h0
  rw [show efB 0 s f n g m=rfB s f n g m by simp [efB]]
  go_enter Tryz.func104,Tryz.ntmps104
  go_upto_region 1 with fail
  generalize w.alloc (.cells #[.int .i64 0,.bool s,.slice x n c,.slice y m d] 73)=w1 at *
  obtain ⟨z,x0,x1,x2,x3⟩:=BX.out
  go_wp2_with fail
  refine (C1.out _ (Below.refl _ _)).mono ?_
  rintro e w2 ⟨rfl,hb⟩
  have HB:=hid (HW.out.trans (hb.mono HW.out.size))
  clear hb
  go_wp2
  go_ret
  exact ⟨rfl,HB.out⟩
 have e0:(i == 0)=false:=by simp;exact h0
 by_cases h1:i=-1 ∨ i=1
 ·have hef:efB i s f n g m=(rfB s f n g m && decide (n=0)):=by
   rcases h1 with rfl | rfl <;> simp [efB]
  rw [hef]
  clear hef h0
  rcases h1 with rfl | rfl
  all_goals
   cases hr:rfB s f n g m
   ·have c1:=C1.out
    rw [hr] at c1
    have C1':=hid c1
    clear c1 C1
    go_enter Tryz.func104,Tryz.ntmps104
    go_upto_region 1 with fail
    generalize w.alloc _=w1 at *
    obtain ⟨z,x0,x1,x2,x3⟩:=BX.out
    go_wp2_with fail
    refine (C1'.out _ (Below.refl _ _)).mono ?_
    rintro e w2 ⟨rfl,hb⟩
    have HB:=hid (HW.out.trans (hb.mono HW.out.size))
    clear hb
    go_wp2
    go_ret
    exact ⟨rfl,HB.out⟩
   ·have c1:=C1.out
    rw [hr] at c1
    have C1':=hid c1
    clear c1 C1
    rw [Bool.true_and]
    obtain ⟨p,hp⟩:∃ p,decide (n=0)=p:=⟨_,rfl⟩
    rw [hp]
    have HN0:=hid hp
    clear hp hr
    go_enter Tryz.func104,Tryz.ntmps104
    go_upto_region 1 with fail
    generalize w.alloc _=w1 at *
    obtain ⟨z,x0,x1,x2,x3⟩:=BX.out
    go_wp2_with fail
    refine (C1'.out _ (Below.refl _ _)).mono ?_
    rintro e w2 ⟨rfl,hb⟩
    have HB:=hid (HW.out.trans (hb.mono HW.out.size));have B2:=hid (BX.out.below hb)
    clear hb z x0 x1 x2 x3
    obtain ⟨z,x0,x1,x2,x3⟩:=B2.out
    go_wp2_with fail
    refine eIsZero_c.mono ?_
    rintro e w3 ⟨rfl,hb⟩
    have HB3:=hid (HB.out.trans (hb.mono HB.out.size))
    clear hb
    rw [HN0.out]
    go_wp2
    go_ret
    exact ⟨rfl,HB3.out⟩
 ·have e1:(i == -1)=false:=by simp;omega
  have e2:(i == 1)=false:=by simp;omega
  have hef:efB i s f n g m=false:=by
   simp [efB];omega
  rw [hef]
  clear hef h0 h1
  go_enter Tryz.func104,Tryz.ntmps104
  go_upto_region 1 with fail
  generalize w.alloc (.cells #[.int .i64 i,.bool s,.slice x n c,.slice y m d] 73)=w1 at *
  obtain ⟨z,x0,x1,x2,x3⟩:=BX.out
  go_wp2
  go_ret
  exact ⟨rfl,HW.out⟩
theorem eForm_c {w:World} {i:Int} {s:Bool} {x:Option Addr} {n c:Nat} {f:Nat → Int} {y:Option Addr} {m d:Nat} {g:Nat → Int} (h:Rw w x n c f y m d g) (hn:n ≤ 4096) (hm:m ≤ 4096) :
  Calls Tryz.prog 104 #[.agg #[.int .i64 i,.bool s,.slice x n c,.slice y m d]] w fun e w'=>e=.returned (.bool (efB i s f n g m)) ∧ Below w.heap.size w w' :=
 eForm_b h (Nat.le_trans hn (by decide)) (Nat.le_trans hm (by decide))
theorem isNaN_c {w:World} {a:Int}:Calls Tryz.prog 118 #[.int .i64 a] w fun e w'=>e=.returned (.bool false) ∧ w'=w:=by
 have h1:(a != a)=false:=by simp
 go_enter Tryz.func118,Tryz.ntmps118
 go_wp2
 go_ret
 exact ⟨rfl,rfl⟩
theorem compare_c {w:World} {a b:Int}:Calls Tryz.prog 96 #[.int .i64 a,.int .i64 b] w fun e w'=>∃ r,e=.returned (.int .i64 r) ∧ w'=w ∧ Ord r a b:=by
 rcases Int.lt_trichotomy a b with h | h | h
 ·have h1:decide (a < b)=true:=decide_eq_true h
  have HF:=hid h
  clear h
  go_enter Tryz.func96,Tryz.ntmps96
  go_wp2_with fail
  refine isNaN_c.mono ?_
  rintro e w1 ⟨rfl,rfl⟩
  go_wp2_with fail
  refine isNaN_c.mono ?_
  rintro e w2 ⟨rfl,rfl⟩
  go_wp2
  go_ret
  exact ⟨-1,rfl,rfl,.inl ⟨rfl,HF.out⟩⟩
 ·have h1:decide (a < b)=false:=decide_eq_false (by omega)
  have h2:decide (b < a)=false:=decide_eq_false (by omega)
  have HF:=hid h
  clear h
  go_enter Tryz.func96,Tryz.ntmps96
  go_wp2_with fail
  refine isNaN_c.mono ?_
  rintro e w1 ⟨rfl,rfl⟩
  go_wp2_with fail
  refine isNaN_c.mono ?_
  rintro e w2 ⟨rfl,rfl⟩
  go_wp2
  go_ret
  exact ⟨0,rfl,rfl,.inr (.inl ⟨rfl,HF.out⟩)⟩
 ·have h1:decide (a < b)=false:=decide_eq_false (by omega)
  have h2:decide (b < a)=true:=decide_eq_true h
  have HF:=hid h
  clear h
  go_enter Tryz.func96,Tryz.ntmps96
  go_wp2_with fail
  refine isNaN_c.mono ?_
  rintro e w1 ⟨rfl,rfl⟩
  go_wp2_with fail
  refine isNaN_c.mono ?_
  rintro e w2 ⟨rfl,rfl⟩
  go_wp2
  go_ret
  exact ⟨1,rfl,rfl,.inr (.inr ⟨rfl,HF.out⟩)⟩
structure Nm where
 s:Bool
 x:Option Addr
 n:Nat
 c:Nat
 f:Nat → Int
 y:Option Addr
 m:Nat
 d:Nat
 g:Nat → Int
def NmR (w:World) (t:Nm):Prop:=Rw w t.x t.n t.c t.f t.y t.m t.d t.g ∧ t.n ≤ 65536 ∧ t.m ≤ 65536
def nfB (t:Nm):Bool:=rfB t.s t.f t.n t.g t.m
theorem NmR.below {w w' t} (h:NmR w t) (hb:Below w.heap.size w w'):NmR w' t:=⟨h.1.below hb,h.2⟩
structure C4 (w:World) (b o:Nat) (a0 a1 a2 a3:Value):Prop where
 x0:w.cell? ⟨b,o,none⟩=some a0
 x1:w.cell? ⟨b,o + 1,none⟩=some a1
 x2:w.cell? ⟨b,o + 2,none⟩=some a2
 x3:w.cell? ⟨b,o + 3,none⟩=some a3
theorem C4.below {w w' b o a0 a1 a2 a3} (h:C4 w b o a0 a1 a2 a3) (hb:Below w.heap.size w w'):C4 w' b o a0 a1 a2 a3:=⟨kCb hb h.x0,kCb hb h.x1,kCb hb h.x2,kCb hb h.x3⟩
theorem box4 {w w1:World} {a0 a1 a2 a3:Value} {t:TypeId} (hb:Below (w.alloc (.cells #[a0,a1,a2,a3] t)).heap.size (w.alloc (.cells #[a0,a1,a2,a3] t)) w1):w.heap.size < w1.heap.size ∧ w1.cell? ⟨w.heap.size,0,none⟩=some a0 ∧ w1.cell? ⟨w.heap.size,1,none⟩=some a1 ∧ w1.cell? ⟨w.heap.size,2,none⟩=some a2 ∧ w1.cell? ⟨w.heap.size,3,none⟩=some a3 ∧ Below w.heap.size w w1:=by
 have hz:=hb.size
 simp at hz
 exact ⟨by omega,kCb hb (by simp [go_sem]),kCb hb (by simp [go_sem]),kCb hb (by simp [go_sem]),kCb hb (by simp [go_sem]),(below_alloc (Below.refl _ w) _).trans (hb.mono (by simp))⟩
def Tl (w:World) (ao:Option Addr) (k:Nat) (col:Nat → Int) (T:Nat → Nm):Prop :=
 ∀ j,j < k → ∃ b o,ao=some ⟨b,o,none⟩ ∧ C4 w b (o + j * 4) (.int .i64 (col j)) (.bool (T j).s) (.slice (T j).x (T j).n (T j).c) (.slice (T j).y (T j).m (T j).d) ∧ NmR w (T j)
theorem Tl.below {w w' ao k col T} (h:Tl w ao k col T) (hb:Below w.heap.size w w'):Tl w' ao k col T:=fun j hj=>by
 obtain ⟨b,o,e,h1,h2⟩:=h j hj
 exact ⟨b,o,e,h1.below hb,h2.below hb⟩
theorem Tl.drewN {w ao k col T} (h:Tl w ao k col T) (q:Nat):Tl (w.drewN q) ao k col T:=h.below (below_drewN (Below.refl _ _) q)
def tfr (col:Nat → Int) (T:Nat → Nm):Nat → Nat → Int → Bool
 | 0,_,_=>true
 | r + 1,i,last=>decide (last < col i) && (nfB (T i) && (decide (0 < (T i).n) && tfr col T r (i + 1) (col i)))
def tfB (k:Nat) (col:Nat → Int) (T:Nat → Nm):Bool:=tfr col T k 0 (-1)
theorem isZero_c (s:Bool) (x:Option Addr) (n c:Nat) (y:Option Addr) (m d:Nat) (w:World) (hn:n ≤ 9223372036854775807) :
  Calls Tryz.prog 105 #[.agg #[.bool s,.slice x n c,.slice y m d]] w fun e w'=>e=.returned (.bool (decide (n=0))) ∧ Below w.heap.size w w':=by
 have hd:((n:Int) == 0)=decide (n=0):=by
  by_cases h:n=0
  ·subst h;rfl
  ·have:((n:Int) == 0)=false:=by simp;omega
   rw [this];simp [h]
 go_enter Tryz.func105,Tryz.ntmps105
 go_wp2
 go_ret
 refine ⟨?_,below_alloc (Below.refl _ _) _⟩
 first
  | rfl
  | (simp [hd];done)
  | (rw [hd])
set_option maxRecDepth 100000 in
set_option maxHeartbeats 4000000 in
theorem vForm_c {w:World} {ao:Option Addr} {k cap:Nat} {col:Nat → Int} {T:Nat → Nm} (h:Tl w ao k col T) (hk:k ≤ 1048576) :
  Calls Tryz.prog 79 #[.slice ao k cap] w fun e w'=>e=.returned (.bool (tfB k col T)) ∧ Below w.heap.size w w':=by
 have H:=hid h
 clear h
 go_enter Tryz.func79,Tryz.ntmps79
 go_wp2_with fail
 go_loopw [3,8] (fun l t wr=>∃ (i:Nat) (last:Int),i ≤ k ∧ t=.int .i64 i ∧ l=.int .i64 last ∧ Hid (Below w.heap.size w wr) ∧ Hid (tfB k col T=tfr col T (k - i) i last)) (fun _ t _=>k - (intOf t).toNat)
 case atStart=>exact ⟨0,-1,by omega,rfl,rfl,Below.refl _ _,rfl⟩
 case round =>
  obtain ⟨i,last,hi,rfl,rfl,HB,HT⟩:=hrel
  by_cases hlt:i < k
  ·obtain ⟨b,o,rfl,hc,hn,hn1,hn2⟩:=(H.out.below HB.out) i hlt
   obtain ⟨r,hr⟩:∃ r,k - i=r + 1:=⟨k - i - 1,by omega⟩
   have hT:tfB k col T=(decide (last < col i) && (nfB (T i) && (decide (0 < (T i).n) && tfr col T r (i + 1) (col i)))):=by rw [HT.out,hr];rfl
   have hr2:k - (i + 1)=r:=by omega
   obtain ⟨⟨s,x,n,c,f,y,m,d,g⟩,hTi⟩:∃ t,T i=t:=⟨_,rfl⟩
   rw [hTi] at hc hn hn1 hn2 hT
   obtain ⟨z,hz⟩:∃ z,col i=z:=⟨_,rfl⟩
   rw [hz] at hc hT
   obtain ⟨x0,x1,x2,x3⟩:=hc
   replace x0:wr.cell? ⟨b,o + i * 4,none⟩=some (.int .i64 z):=x0
   replace x1:wr.cell? ⟨b,o + i * 4 + 1,none⟩=some (.bool s):=x1
   replace x2:wr.cell? ⟨b,o + i * 4 + 2,none⟩=some (.slice x n c):=x2
   replace x3:wr.cell? ⟨b,o + i * 4 + 3,none⟩=some (.slice y m d):=x3
   replace hn:Rw wr x n c f y m d g:=hn
   replace hn1:n ≤ 65536:=hn1
   replace hn2:m ≤ 65536:=hn2
   have hblk:Below wr.heap.size wr (wr.alloc (.cells #[.int .i64 z,.bool s,.slice x n c,.slice y m d] 62)):=below_alloc (Below.refl _ _) _
   have CF:=hid (rForm_c (s:=s) (hn.below hblk) (by omega) (by omega))
   have HTi:=hid hT;have HZ:=hid hz;have HR2:=hid hr2
   have i1:((i:Nat):Int) < ((k:Nat):Int):=by omega
   clear hT hz hr2 hTi hr hn hblk
   by_cases hl:z ≤ last
   ·have hd:decide (last < z)=false:=by simp;omega
    have HD:=hid hd
    clear hd
    go_wp2
    go_ret
    refine ⟨?_,?_⟩
    ·rw [HTi.out,HD.out];rfl
    ·exact below_alloc HB.out _
   ·have hd:decide (last < z)=true:=by simp;omega
    have HD:=hid hd
    clear hd
    cases hf:rfB s f n g m
    ·have CF2:=CF
     rw [hf] at CF2
     have HNF:Hid (nfB ⟨s,x,n,c,f,y,m,d,g⟩=false):=hf
     clear CF hf
     go_wp2_with fail
     refine CF2.out.mono ?_
     rintro e w1 ⟨rfl,hb1⟩
     obtain ⟨_,_,_,_,_,hb2⟩:=box4 hb1
     go_wp2
     go_ret
     refine ⟨?_,HB.out.trans (hb2.mono HB.out.size)⟩
     rw [HTi.out,HD.out,HNF.out];rfl
    ·have CF2:=CF
     rw [hf] at CF2
     have HNF:Hid (nfB ⟨s,x,n,c,f,y,m,d,g⟩=true):=hf
     clear CF hf
     go_wp2_with fail
     refine CF2.out.mono ?_
     rintro e w1 ⟨rfl,hb1⟩
     obtain ⟨z0,y0,y1,y2,y3,hb2⟩:=box4 hb1
     have HB1:=hid (HB.out.trans (hb2.mono HB.out.size))
     clear hb1 hb2
     go_wp2_with fail
     refine (isZero_c s x n c y m d _ (by omega)).mono ?_
     rintro e w2 ⟨rfl,hb3⟩
     have v0:=kCb hb3 y0
     have HB2:=hid (HB1.out.trans (hb3.mono HB1.out.size))
     clear hb3
     by_cases hn0:n=0
     ·subst hn0
      go_wp2
      go_ret
      refine ⟨?_,HB2.out⟩
      rw [HTi.out,HD.out,HNF.out];rfl
     ·have hnd:decide (n=0)=false:=by simp [hn0]
      rw [hnd]
      have hnp:decide (0 < n)=true:=by simp;omega
      have HNP:=hid hnp
      clear hnd hnp
      go_wp2
      go_roundw
      case rel =>
       refine ⟨i + 1,z,by omega,by go_num,rfl,HB2.out,?_⟩
       show _=_
       rw [HTi.out,HD.out,HNF.out,HR2.out]
       simp only [HNP.out,Bool.true_and]
      case measure=>simp [intOf];omega
  ·have e1:i=k:=by omega
   have HTe:Hid (tfB k col T=true):=by
    show _=_
    rw [HT.out,e1,Nat.sub_self];rfl
   have i2:¬ (((i:Nat):Int) < ((k:Nat):Int)):=by omega
   clear e1 HT
   go_wp2
   go_ret
   refine ⟨?_,HB.out⟩
   rw [HTe.out];rfl
def lett (b:Int):Bool:=decide (97 ≤ b) && decide (b ≤ 122)
def digt (b:Int):Bool:=decide (48 ≤ b) && decide (b ≤ 57)
def nchr (b:Int):Bool:=lett b || (digt b || decide (b=95))
def bt (s:ByteArray) (k:Nat):Int:=if h:k < s.size then ((s[k]'h).toNat:Int) else 0
def nchs (s:ByteArray):Nat → Nat → Bool
 | 0,_=>true
 | r + 1,i=>nchr (bt s i) && nchs s r (i + 1)
def isNm (s:ByteArray):Bool:=decide (1 ≤ s.size) && (decide (s.size ≤ 16) && (lett (bt s 0) && nchs s s.size 0))
theorem isLetter_c {w:World} {b:Int}:Calls Tryz.prog 106 #[.int .u8 b] w fun e w'=>e=.returned (.bool (lett b)) ∧ w'=w:=by
 by_cases h1:97 ≤ b
 ·by_cases h2:b ≤ 122
  ·have HL:Hid (lett b=true):=by show _=_;simp [lett,h1,h2]
   go_enter Tryz.func106,Tryz.ntmps106
   go_wp2
   go_ret
   refine ⟨?_,rfl⟩
   rw [HL.out];rfl
  ·have HL:Hid (lett b=false):=by show _=_;simp [lett,h2]
   go_enter Tryz.func106,Tryz.ntmps106
   go_wp2
   go_ret
   refine ⟨?_,rfl⟩
   rw [HL.out];rfl
 ·have HL:Hid (lett b=false):=by show _=_;simp [lett,h1]
  go_enter Tryz.func106,Tryz.ntmps106
  go_wp2
  go_ret
  refine ⟨?_,rfl⟩
  rw [HL.out];rfl
theorem isDigit_c {w:World} {b:Int}:Calls Tryz.prog 107 #[.int .u8 b] w fun e w'=>e=.returned (.bool (digt b)) ∧ w'=w:=by
 by_cases h1:48 ≤ b
 ·by_cases h2:b ≤ 57
  ·have HL:Hid (digt b=true):=by show _=_;simp [digt,h1,h2]
   go_enter Tryz.func107,Tryz.ntmps107
   go_wp2
   go_ret
   refine ⟨?_,rfl⟩
   rw [HL.out];rfl
  ·have HL:Hid (digt b=false):=by show _=_;simp [digt,h2]
   go_enter Tryz.func107,Tryz.ntmps107
   go_wp2
   go_ret
   refine ⟨?_,rfl⟩
   rw [HL.out];rfl
 ·have HL:Hid (digt b=false):=by show _=_;simp [digt,h1]
  go_enter Tryz.func107,Tryz.ntmps107
  go_wp2
  go_ret
  refine ⟨?_,rfl⟩
  rw [HL.out];rfl
set_option maxRecDepth 100000 in
set_option maxHeartbeats 2000000 in
theorem isName_c {w:World} {s:ByteArray} (hs:s.size ≤ 9223372036854775807):Calls Tryz.prog 80 #[.string s] w fun e w'=>e=.returned (.bool (isNm s)) ∧ w'=w:=by
 by_cases h1:1 ≤ s.size
 case neg =>
  have HL:Hid (isNm s=false):=by show _=_;simp [isNm,h1]
  have e0:(s.size:Int) < 1:=by omega
  clear h1
  go_enter Tryz.func80,Tryz.ntmps80
  go_wp2
  go_ret
  refine ⟨?_,rfl⟩
  rw [HL.out];rfl
 by_cases h2:s.size ≤ 16
 case neg =>
  have HL:Hid (isNm s=false):=by show _=_;simp [isNm,h2]
  have e0:¬ (s.size:Int) < 1:=by omega
  have e1:(s.size:Int) > 16:=by omega
  clear h1 h2
  go_enter Tryz.func80,Tryz.ntmps80
  go_wp2
  go_ret
  refine ⟨?_,rfl⟩
  rw [HL.out];rfl
 have h0:0 < s.size:=by omega
 obtain ⟨x,hx⟩:∃ x:Int,((s[0]'h0).toNat:Int)=x:=⟨_,rfl⟩
 have hb0:bt s 0=x:=by rw [← hx];simp [bt,h0]
 have e0:¬ (s.size:Int) < 1:=by omega
 have e1:¬ (s.size:Int) > 16:=by omega
 cases hl:lett x
 ·have HL:Hid (isNm s=false):=by show _=_;simp [isNm,hb0,hl]
  have C:Hid (∀ w,Calls Tryz.prog 106 #[.int .u8 x] w fun e w'=>e=.returned (.bool false) ∧ w'=w):=fun w=>hl ▸ isLetter_c
  clear h1 h2 hb0 hl
  go_enter Tryz.func80,Tryz.ntmps80
  go_wp2_with fail
  refine (C.out _).mono ?_
  rintro e w1 ⟨rfl,rfl⟩
  go_wp2
  go_ret
  refine ⟨?_,rfl⟩
  rw [HL.out];rfl
 ·have HL:Hid (isNm s=nchs s s.size 0):=by show _=_;simp [isNm,hb0,hl,h1,h2]
  have C:Hid (∀ w,Calls Tryz.prog 106 #[.int .u8 x] w fun e w'=>e=.returned (.bool true) ∧ w'=w):=fun w=>hl ▸ isLetter_c
  clear h1 h2 hb0 hl
  go_enter Tryz.func80,Tryz.ntmps80
  go_wp2_with fail
  refine (C.out _).mono ?_
  rintro e w1 ⟨rfl,rfl⟩
  go_wp2_with fail
  go_loopw [20] (fun t wr=>∃ (i:Nat),i ≤ s.size ∧ t=.int .i64 i ∧ wr=w1 ∧ Hid (isNm s=nchs s (s.size - i) i)) (fun t _=>s.size - (intOf t).toNat)
  case atStart=>exact ⟨0,by omega,rfl,rfl,HL.out⟩
  case round =>
   obtain ⟨i,hi,rfl,rfl,HI⟩:=hrel
   by_cases hlt:i < s.size
   ·obtain ⟨z,hz⟩:∃ z:Int,((s[i]'hlt).toNat:Int)=z:=⟨_,rfl⟩
    have hbi:bt s i=z:=by rw [← hz];simp [bt,hlt]
    obtain ⟨r,hr⟩:∃ r,s.size - i=r + 1:=⟨s.size - i - 1,by omega⟩
    have hT:isNm s=(nchr z && nchs s r (i + 1)):=by rw [HI.out,hr];show (nchr (bt s i) && _)=_;rw [hbi]
    have hr2:s.size - (i + 1)=r:=by omega
    have HT:=hid hT;have HR:=hid hr2
    have i1:((i:Nat):Int) < ((s.size:Nat):Int):=by omega
    have LC:=hid (fun w=>isLetter_c (w:=w) (b:=z))
    have DC:=hid (fun w=>isDigit_c (w:=w) (b:=z))
    clear hT hr2 hr hbi
    cases hl:lett z
    ·have LC2:=LC;rw [hl] at LC2
     clear LC
     cases hd:digt z
     ·have DC2:=DC;rw [hd] at DC2
      clear DC
      by_cases h95:z=95
      ·have HN:Hid (nchr z=true):=by show _=_;simp [nchr,h95]
       subst h95
       clear hl hd
       go_wp2_with fail
       refine (LC2.out _).mono ?_
       rintro e w2 ⟨rfl,rfl⟩
       go_wp2_with fail
       refine (DC2.out _).mono ?_
       rintro e w3 ⟨rfl,rfl⟩
       go_wp2
       go_roundw
       case rel =>
        refine ⟨i + 1,by omega,by go_num,trivial,?_⟩
        show _=_
        rw [HT.out,HN.out,HR.out];rfl
       case measure=>simp [intOf];omega
      ·have HN:Hid (nchr z=false):=by show _=_;simp [nchr,hl,hd,h95]
       clear hl hd
       go_wp2_with fail
       refine (LC2.out _).mono ?_
       rintro e w2 ⟨rfl,rfl⟩
       go_wp2_with fail
       refine (DC2.out _).mono ?_
       rintro e w3 ⟨rfl,rfl⟩
       go_wp2
       go_ret
       refine ⟨?_,rfl⟩
       rw [HT.out,HN.out];rfl
     ·have DC2:=DC;rw [hd] at DC2
      have HN:Hid (nchr z=true):=by show _=_;simp [nchr,hl,hd]
      clear DC hl hd
      go_wp2_with fail
      refine (LC2.out _).mono ?_
      rintro e w2 ⟨rfl,rfl⟩
      go_wp2_with fail
      refine (DC2.out _).mono ?_
      rintro e w3 ⟨rfl,rfl⟩
      go_wp2
      go_roundw
      case rel =>
       refine ⟨i + 1,by omega,by go_num,trivial,?_⟩
       show _=_
       rw [HT.out,HN.out,HR.out];rfl
      case measure=>simp [intOf];omega
    ·have LC2:=LC;rw [hl] at LC2
     have HN:Hid (nchr z=true):=by show _=_;simp [nchr,hl]
     clear LC hl
     go_wp2_with fail
     refine (LC2.out _).mono ?_
     rintro e w2 ⟨rfl,rfl⟩
     go_wp2
     go_roundw
     case rel =>
      refine ⟨i + 1,by omega,by go_num,trivial,?_⟩
      show _=_
      rw [HT.out,HN.out,HR.out];rfl
     case measure=>simp [intOf];omega
   ·have e1:i=s.size:=by omega
    have HE:Hid (isNm s=true):=by show _=_;rw [HI.out,e1,Nat.sub_self];rfl
    have i2:¬ (((i:Nat):Int) < ((s.size:Nat):Int)):=by omega
    clear e1 HI
    go_wp2
    go_ret
    refine ⟨?_,rfl⟩
    rw [HE.out];rfl
def Sl (w:World) (ao:Option Addr) (k:Nat) (S:Nat → ByteArray):Prop :=
 ∀ j,j < k → ∃ b o,ao=some ⟨b,o,none⟩ ∧ w.cell? ⟨b,o + j,none⟩=some (.string (S j)) ∧ (S j).size ≤ 9223372036854775807
theorem Sl.below {w w' ao k S} (h:Sl w ao k S) (hb:Below w.heap.size w w'):Sl w' ao k S:=fun j hj=>by
 obtain ⟨b,o,e,h1,h2⟩:=h j hj
 exact ⟨b,o,e,(hb.cell (World.block_lt_of_cell? w _ h1)).trans h1,h2⟩
def nms (S:Nat → ByteArray):Nat → Nat → Bool
 | 0,_=>true
 | r + 1,i=>isNm (S i) && nms S r (i + 1)
set_option maxRecDepth 100000 in
set_option maxHeartbeats 2000000 in
theorem allNames_c {w:World} {ao:Option Addr} {k cap:Nat} {S:Nat → ByteArray} (h:Sl w ao k S) (hk:k ≤ 1048576) :
  Calls Tryz.prog 43 #[.slice ao k cap] w fun e w'=>e=.returned (.bool (nms S k 0)) ∧ w'=w:=by
 have H:=hid h
 clear h
 go_enter Tryz.func43,Tryz.ntmps43
 go_wp2_with fail
 go_loopw [7] (fun t wr=>∃ (i:Nat),i ≤ k ∧ t=.int .i64 i ∧ wr=w ∧ Hid (nms S k 0=nms S (k - i) i)) (fun t _=>k - (intOf t).toNat)
 case atStart=>exact ⟨0,by omega,rfl,rfl,rfl⟩
 case round =>
  obtain ⟨i,hi,rfl,rfl,HI⟩:=hrel
  by_cases hlt:i < k
  ·obtain ⟨b,o,rfl,hc,hz⟩:=H.out i hlt
   obtain ⟨r,hr⟩:∃ r,k - i=r + 1:=⟨k - i - 1,by omega⟩
   have hT:nms S k 0=(isNm (S i) && nms S r (i + 1)):=by rw [HI.out,hr];rfl
   have hr2:k - (i + 1)=r:=by omega
   obtain ⟨z,hzz⟩:∃ z,S i=z:=⟨_,rfl⟩
   rw [hzz] at hT hc hz
   have HT:=hid hT;have HR:=hid hr2
   have i1:((i:Nat):Int) < ((k:Nat):Int):=by omega
   have NC:=hid (fun w=>isName_c (w:=w) hz)
   clear hT hr2 hr hzz hz
   cases hl:isNm z
   ·have NC2:=NC;rw [hl] at NC2
    have HN:=hid hl
    clear NC hl
    go_wp2_with fail
    refine (NC2.out _).mono ?_
    rintro e w2 ⟨rfl,rfl⟩
    go_wp2
    go_ret
    refine ⟨?_,rfl⟩
    rw [HT.out,HN.out];rfl
   ·have NC2:=NC;rw [hl] at NC2
    have HN:=hid hl
    clear NC hl
    go_wp2_with fail
    refine (NC2.out _).mono ?_
    rintro e w2 ⟨rfl,rfl⟩
    go_wp2
    go_roundw
    case rel =>
     refine ⟨i + 1,by omega,by go_num,trivial,?_⟩
     show _=_
     rw [HT.out,HN.out,HR.out];rfl
    case measure=>simp [intOf];omega
  ·have e1:i=k:=by omega
   have HE:Hid (nms S k 0=true):=by show _=_;rw [HI.out,e1,Nat.sub_self];rfl
   have i2:¬ (((i:Nat):Int) < ((k:Nat):Int)):=by omega
   clear e1 HI
   go_wp2
   go_ret
   refine ⟨?_,rfl⟩
   rw [HE.out];rfl
end Go.Proofs.YtgmllfcngnfpkaaGreat
namespace Go.Proofs.YtgmllfcngnfpkaaGreat
open Go.RowKit Go.MapKept Go.ChangeMaps
def Ens (es:Array MapEntry) (R:ByteArray → Int → Prop):Prop :=
 (∀ x ∈ es.toList,∃ k v,x.key=.string k ∧ x.val=.int .i64 v) ∧ ∀ k v,R k v ↔ ∃ x ∈ es.toList,x.key=.string k ∧ x.val=.int .i64 v
def Ms (w:World) (b:Nat) (R:ByteArray → Int → Prop):Prop :=
 ∃ es clock,w.heap[b]?=some (.map es clock) ∧ Stamped es clock ∧ Ens es R
theorem Ms.of {w w' b R} (h:Ms w b R) (e:w'.heap[b]?=w.heap[b]?):Ms w' b R:=by
 obtain ⟨es,c,h1,h2⟩:=h;exact ⟨es,c,e.trans h1,h2⟩
theorem Ms.lt {w b R} (h:Ms w b R):b < w.heap.size:=by
 obtain ⟨es,c,h1,_⟩:=h;exact (Array.getElem?_eq_some_iff.1 h1).1
theorem Ms.congr {w b R R'} (h:Ms w b R) (e:∀ k v,R' k v ↔ R k v):Ms w b R':=by
 obtain ⟨es,c,h1,h2,h3,h4⟩:=h;exact ⟨es,c,h1,h2,h3,fun k v=>(e k v).trans (h4 k v)⟩
theorem Ens.key {es R} (h:Ens es R):∀ x ∈ es.toList,IsKey .string x.key:=fun x hx=>by
 obtain ⟨k,v,e,_⟩:=h.1 x hx;rw [e];trivial
theorem nds_same {l:List MapEntry} (hn:(l.map (·.key)).Nodup) {x y:MapEntry} (hx:x ∈ l) (hy:y ∈ l) (e:x.key=y.key):x=y:=by
 induction l with
 | nil=>cases hx
 | cons a r ih =>
  simp only [List.map_cons,List.nodup_cons,List.mem_map,not_exists,not_and] at hn
  rcases List.mem_cons.1 hx with h1 | h1 <;> rcases List.mem_cons.1 hy with h2 | h2
  ·rw [h1,h2]
  ·subst h1;exact absurd e.symm (hn.1 y h2)
  ·subst h2;exact absurd e (hn.1 x h1)
  ·exact ih hn.2 h1 h2
theorem Ms.fun {w b R} (h:Ms w b R) {k:ByteArray} {u v:Int} (hu:R k u) (hv:R k v):u=v:=by
 obtain ⟨es,c,_,hs,he⟩:=h
 obtain ⟨x,hx,x1,x2⟩:=(he.2 k u).1 hu
 obtain ⟨y,hy,y1,y2⟩:=(he.2 k v).1 hv
 have:=nds_same hs.2.2 hx hy (x1.trans y1.symm)
 subst this
 rw [x2] at y2
 simpa using y2
theorem Ms.find {es:Array MapEntry} {R:ByteArray → Int → Prop} (he:Ens es R) (k:ByteArray) :
  (Instr.findNow .string (.string k) es.toList 0=some none ∧ (∀ x ∈ es.toList,x.key ≠ .string k) ∧ ∀ v,¬ R k v) ∨ ∃ j x v,Instr.findNow .string (.string k) es.toList 0=some (some (j,.int .i64 v)) ∧ es[j]?=some x ∧ x ∈ es.toList ∧ x.key=.string k ∧ x.val=.int .i64 v ∧ R k v:=by
 rcases findNow_spec (d:=.string) (k:=.string k) trivial es.toList 0 he.key with ⟨h1,h2⟩ | ⟨j,x,h1,h2,h3⟩
 ·exact .inl ⟨h1,h2,fun v hv=>by
   obtain ⟨x,hx,x1,_⟩:=(he.2 k v).1 hv
   exact h2 x hx x1⟩
 ·have hx:x ∈ es.toList:=List.mem_of_getElem? h2
  obtain ⟨k',v,e1,e2⟩:=he.1 x hx
  refine .inr ⟨j,x,v,?_,by simpa using h2,hx,h3,e2,(he.2 k v).2 ⟨x,hx,h3,e2⟩⟩
  rw [h1,e2];simp
variable {P:Program} {t kt et:TypeId} {w:World} {b:Nat} {R:ByteArray → Int → Prop} {k:ByteArray} {v:Int}
theorem Ms.look (h:Ms w b R) (hm:P.underlying t=some (.map kt et)) (hd:P.underlying kt=some .string) (hv:R k v) (ok:Bool) :
  (Instr.lookup t (.map (some b)) (.string k) ok).run P w=.ok (if ok then .tuple #[.int .i64 v,.bool true] else .int .i64 v) w:=by
 have hf:=h
 obtain ⟨es,c,hb,hs,he⟩:=h
 rcases Ms.find he k with ⟨_,_,h3⟩ | ⟨j,x,v',h1,_,_,_,_,hr⟩
 ·exact absurd hv (h3 v)
 ·have e:=hf.fun hr hv
  subst e
  simp [Instr.lookup,run_underlying hm,MapKept.run_getObj_map hb,run_checkKey hd (show IsKey .string (.string k) from trivial),run_findKey hd h1,Result.andThen]
theorem Ms.miss (h:Ms w b R) (hm:P.underlying t=some (.map kt et)) (hd:P.underlying kt=some .string) (hz:(zeroValue et).run P w=.ok (.int .i64 0) w) (hv:∀ v,¬ R k v) (ok:Bool) :
  (Instr.lookup t (.map (some b)) (.string k) ok).run P w=.ok (if ok then .tuple #[.int .i64 0,.bool false] else .int .i64 0) w:=by
 obtain ⟨es,c,hb,hs,he⟩:=h
 rcases Ms.find he k with ⟨h1,_,_⟩ | ⟨j,x,v',h1,_,_,_,_,hr⟩
 ·simp [Instr.lookup,run_underlying hm,MapKept.run_getObj_map hb,run_checkKey hd (show IsKey .string (.string k) from trivial),run_findKey hd h1,hz,Result.andThen]
 ·exact absurd hr (hv v')
def putS (R:ByteArray → Int → Prop) (k:ByteArray) (v:Int):ByteArray → Int → Prop:=fun k' v'=>(k'=k ∧ v'=v) ∨ (k' ≠ k ∧ R k' v')
structure Ons (b:Nat) (w w':World):Prop where
 os:w'.os=w.os
 tape:w'.tape=w.tape
 output:w'.output=w.output
 size:w'.heap.size=w.heap.size
 block:∀ k,k ≠ b → w'.heap[k]?=w.heap[k]?
theorem ons_setBlock (w:World) (b:Nat) (o:Obj):Ons b w (setBlock w b o) :=
 ⟨rfl,rfl,rfl,by simp [setBlock],fun k hk=>by simp [setBlock,Ne.symm hk]⟩
theorem mems_modify {es:Array MapEntry} {j:Nat} {x:MapEntry} {f:MapEntry → MapEntry} (hj:es[j]?=some x) (hn:es.toList.Nodup) (y:MapEntry):y ∈ (es.modify j f).toList ↔ y=f x ∨ (y ∈ es.toList ∧ y ≠ x):=by
 have hl:es.toList[j]?=some x:=by simpa using hj
 constructor
 ·intro hy
  obtain ⟨i,hi⟩:=List.getElem?_of_mem hy
  simp only [Array.getElem?_toList,Array.getElem?_modify] at hi
  by_cases e:j=i
  ·subst e;simp [hj] at hi;exact .inl hi.symm
  ·simp [e] at hi
   refine .inr ⟨List.mem_of_getElem? (by simpa using hi),fun e2=>?_⟩
   subst e2
   have hlt:j < es.toList.length:=(List.getElem?_eq_some_iff.1 hl).1
   exact e ((List.getElem?_inj hlt hn).1 (by rw [hl];simpa using hi.symm))
 ·rintro (rfl | ⟨hy,hne⟩)
  ·refine List.mem_of_getElem? (i:=j) ?_
   simp [hj]
  ·obtain ⟨i,hi⟩:=List.getElem?_of_mem hy
   refine List.mem_of_getElem? (i:=i) ?_
   have:j ≠ i:=fun e=>by subst e;rw [hl] at hi;cases hi;exact hne rfl
   simp only [Array.getElem?_toList,Array.getElem?_modify,this,if_false]
   simpa using hi
theorem nds_of {es:Array MapEntry} {c:Nat} (hs:Stamped es c):es.toList.Nodup:=List.Pairwise.of_map (fun x:MapEntry=>x.key) (fun a b h e=>h (by rw [e])) hs.2.2
theorem ens_modify {es:Array MapEntry} {c:Nat} (hs:Stamped es c) (he:Ens es R) {j:Nat} {x:MapEntry} (hj:es[j]?=some x) (hk:x.key=.string k) (f:MapEntry → MapEntry) (f1:(f x).key=x.key) (f2:(f x).val=.int .i64 v) (f3:(f x).born=x.born) :
  Stamped (es.modify j f) c ∧ Ens (es.modify j f) (putS R k v):=by
 have hx:x ∈ es.toList:=List.mem_of_getElem? (i:=j) (by simpa using hj)
 have hn:=nds_of hs
 have e0:es.modify j f=es.modify j (fun _=>f x):=by
  apply Array.ext_getElem?
  intro i
  simp only [Array.getElem?_modify]
  by_cases e:j=i
  ·subst e;simp [hj]
  ·simp [e]
 refine ⟨?_,?_,fun k' v'=>?_⟩
 ·rw [e0]
  have hb:(es.modify j (fun _=>f x)).toList.map (·.born)=es.toList.map (·.born):=by
   apply List.ext_getElem?
   intro i
   simp only [List.getElem?_map,Array.getElem?_toList,Array.getElem?_modify]
   by_cases e:j=i
   ·subst e;simp [hj,f3]
   ·simp [e]
  have hk':=modify_keys (es:=es) j (fun _=>f x) (fun e he'=>by rw [hj] at he';cases he';exact f1)
  refine ⟨fun y hy=>?_,hb ▸ hs.2.1,hk' ▸ hs.2.2⟩
  have:y.born ∈ es.toList.map (·.born):=hb ▸ List.mem_map_of_mem hy
  obtain ⟨z,hz,e⟩:=List.mem_map.1 this
  rw [← e];exact hs.1 z hz
 ·intro y hy
  rcases (mems_modify hj hn y).1 hy with rfl | ⟨h1,_⟩
  ·exact ⟨k,v,f1.trans hk,f2⟩
  ·exact he.1 y h1
 ·constructor
  ·rintro (⟨rfl,rfl⟩ | ⟨hne,hr⟩)
   ·exact ⟨f x,(mems_modify hj hn _).2 (.inl rfl),f1.trans hk,f2⟩
   ·obtain ⟨y,hy,y1,y2⟩:=(he.2 k' v').1 hr
    refine ⟨y,(mems_modify hj hn _).2 (.inr ⟨hy,fun e=>?_⟩),y1,y2⟩
    subst e;rw [hk] at y1;simp at y1;exact hne y1.symm
  ·rintro ⟨y,hy,y1,y2⟩
   rcases (mems_modify hj hn y).1 hy with rfl | ⟨h1,h2⟩
   ·rw [f1,hk] at y1;rw [f2] at y2
    simp at y1 y2
    exact .inl ⟨y1.symm,y2.symm⟩
   ·refine .inr ⟨fun e=>?_,(he.2 k' v').2 ⟨y,h1,y1,y2⟩⟩
    subst e
    exact h2 (nds_same hs.2.2 h1 hx (y1.trans hk.symm))
theorem Ms.update (h:Ms w b R) (hm:P.underlying t=some (.map kt et)) (hd:P.underlying kt=some .string) (k:ByteArray) (v:Int) :
  ∃ w',(Instr.mapUpdate t (.map (some b)) (.string k) (.int .i64 v)).run P w=.ok () w' ∧ Ms w' b (putS R k v) ∧ Ons b w w':=by
 obtain ⟨es,c,hb,hs,he⟩:=h
 have hK:IsKey .string (.string k):=trivial
 rcases Ms.find he k with ⟨h1,h2,h3⟩ | ⟨j,x,v',h1,hj,hx,hk,_,hr⟩
 ·refine ⟨setBlock w b (.map (es.push ⟨.string k,.int .i64 v,c⟩) (c + 1)),?_,⟨_,_,heap_setBlock_same hb _,stamped_push hs h2,?_,fun k' u=>?_⟩,ons_setBlock _ _ _⟩
  ·simp [Instr.mapUpdate,run_underlying hm,MapKept.run_getObj_map hb,run_checkKey hd hK,run_findKey hd h1,run_setObj_map _ hb,Result.andThen,setBlock]
  ·intro y hy
   simp only [Array.toList_push,List.mem_append,List.mem_singleton] at hy
   rcases hy with hy | rfl
   ·exact he.1 y hy
   ·exact ⟨_,_,rfl,rfl⟩
  ·simp only [Array.toList_push,List.mem_append,List.mem_singleton]
   constructor
   ·rintro (⟨rfl,rfl⟩ | ⟨_,hr⟩)
    ·exact ⟨_,.inr rfl,rfl,rfl⟩
    ·obtain ⟨y,hy,y1,y2⟩:=(he.2 k' u).1 hr
     exact ⟨y,.inl hy,y1,y2⟩
   ·rintro ⟨y,hy | rfl,y1,y2⟩
    ·refine .inr ⟨fun e=>?_,(he.2 k' u).2 ⟨y,hy,y1,y2⟩⟩
     subst e;exact h2 y hy y1
    ·simp at y1 y2
     exact .inl ⟨y1.symm,y2.symm⟩
 ·have hm':=ens_modify (k:=k) (v:=v) hs he hj hk (fun e=>{ e with key:=.string k,val:=.int .i64 v }) hk.symm rfl rfl
  refine ⟨setBlock w b (.map (es.modify j fun e=>{ e with key:=.string k,val:=.int .i64 v }) c),?_,⟨_,_,heap_setBlock_same hb _,hm'.1,hm'.2⟩,ons_setBlock _ _ _⟩
  simp [Instr.mapUpdate,run_underlying hm,MapKept.run_getObj_map hb,run_checkKey hd hK,run_findKey hd h1,hj,hk,run_keyThatStays hK,run_setObj_map _ hb,Result.andThen,setBlock]
theorem ms_made (w:World):Ms (w.alloc (.map #[] 0)) w.heap.size (fun _ _=>False) :=
 ⟨#[],0,(MapKept.heap_alloc w _).1,stamped_empty 0,by simp,fun k v=>by simp⟩
def sawB (S:Nat → ByteArray) (i:Nat):Bool:=(List.range i).any fun j=>decide (S j=S i)
def twr (S:Nat → ByteArray):Nat → Nat → Bool
 | 0,_=>false
 | r + 1,i=>sawB S i || twr S r (i + 1)
def sawQ (S:Nat → ByteArray) (i:Nat):ByteArray → Int → Prop:=fun k v=>v=1 ∧ ∃ j,j < i ∧ S j=k
theorem sawB_iff (S:Nat → ByteArray) (i:Nat):sawB S i=true ↔ ∃ j,j < i ∧ S j=S i:=by
 simp [sawB]
theorem zeroS (w:World):(zeroValue 3).run Tryz.prog w=.ok (.int .i64 0) w:=by kernel_rfl
set_option maxRecDepth 100000 in
set_option maxHeartbeats 2000000 in
theorem anyTwice_c {w:World} {ao:Option Addr} {k cap:Nat} {S:Nat → ByteArray} (h:Sl w ao k S) (hk:k ≤ 1048576) :
  Calls Tryz.prog 44 #[.slice ao k cap] w fun e w'=>e=.returned (.bool (twr S k 0)) ∧ Below w.heap.size w w':=by
 have H:=hid h
 clear h
 have hmm:∀ W,(Instr.makeMap 128 (some (.int .i64 (k:Int)))).run Tryz.prog W=.ok (.map (some W.heap.size)) (W.alloc (.map #[] 0)):=fun W=>by simp [Instr.makeMap,run_underlying Tryz.underlying128,asInt,asIntOf,Result.andThen]
 go_enter Tryz.func44,Tryz.ntmps44
 go_wp2_with fail
 go_loopw [11] (fun t wr=>∃ (i:Nat),i ≤ k ∧ t=.int .i64 i ∧ Hid (Below w.heap.size w wr) ∧ Hid (Ms wr w.heap.size (sawQ S i)) ∧ Hid (twr S k 0=twr S (k - i) i)) (fun t _=>k - (intOf t).toNat)
 case atStart=>exact ⟨0,by omega,rfl,below_alloc (Below.refl _ _) _,(ms_made w).congr (fun k v=>by simp [sawQ]),rfl⟩
 case round =>
  obtain ⟨i,hi,rfl,HB,HM,HI⟩:=hrel
  by_cases hlt:i < k
  ·obtain ⟨b,o,rfl,hc,hz⟩:=(H.out.below HB.out) i hlt
   obtain ⟨r,hr⟩:∃ r,k - i=r + 1:=⟨k - i - 1,by omega⟩
   have hT:twr S k 0=(sawB S i || twr S r (i + 1)):=by rw [HI.out,hr];rfl
   have hr2:k - (i + 1)=r:=by omega
   have hS:=sawB_iff S i
   obtain ⟨z,hzz⟩:∃ z,S i=z:=⟨_,rfl⟩
   rw [hzz] at hc
   have HT:=hid hT;have HR:=hid hr2;have HZZ:=hid hzz
   have i1:((i:Nat):Int) < ((k:Nat):Int):=by omega
   cases hl:sawB S i
   ·rw [hl] at hS
    have hno:∀ v,¬ sawQ S i z v:=fun v hv=>by
     obtain ⟨_,j,hj,e⟩:=hv
     exact absurd (hS.2 ⟨j,hj,e.trans hzz.symm⟩) (by simp)
    have e1:=HM.out.miss (P:=Tryz.prog) (t:=128) Tryz.underlying128 Tryz.underlying9 (zeroS wr) (k:=z) hno false
    obtain ⟨w2,e2,M2,O2⟩:=HM.out.update (P:=Tryz.prog) (t:=128) Tryz.underlying128 Tryz.underlying9 z 1
    have e3:=M2.look (P:=Tryz.prog) (t:=128) Tryz.underlying128 Tryz.underlying9 (k:=z) (v:=1) (Or.inl ⟨rfl,rfl⟩) false
    have HB2:Hid (Below w.heap.size w w2):=⟨O2.os.trans HB.out.os,O2.tape.trans HB.out.tape,O2.output.trans HB.out.output,by have:=HB.out.size;have:=O2.size;omega,fun j hj=>(O2.block j (by omega)).trans (HB.out.block j hj)⟩
    have HM2:Hid (Ms w2 w.heap.size (sawQ S (i + 1))):=M2.congr fun k' v'=>by
     constructor
     ·rintro ⟨rfl,j,hj,rfl⟩
      by_cases e:S j=z
      ·exact .inl ⟨e,rfl⟩
      ·refine .inr ⟨e,rfl,j,?_,rfl⟩
       rcases Nat.lt_or_ge j i with h | h
       ·exact h
       ·exact absurd (by rw [show j=i by omega];exact hzz) e
     ·rintro (⟨rfl,rfl⟩ | ⟨_,rfl,j,hj,rfl⟩)
      ·exact ⟨rfl,i,by omega,hzz⟩
      ·exact ⟨rfl,j,by omega,rfl⟩
    have HL:=hid hl
    clear hT hr2 hr hz hno hS hl M2 O2 hzz
    go_wp2
    go_roundw
    case rel =>
     refine ⟨i + 1,by omega,by go_num,HB2.out,HM2.out,?_⟩
     show _=_
     rw [HT.out,HL.out,HR.out];rfl
    case measure=>simp [intOf];omega
   ·rw [hl] at hS
    have hyes:sawQ S i z 1:=by
     obtain ⟨j,hj,e⟩:=hS.1 rfl
     exact ⟨rfl,j,hj,e.trans hzz⟩
    have e1:=HM.out.look (P:=Tryz.prog) (t:=128) Tryz.underlying128 Tryz.underlying9 (k:=z) hyes false
    obtain ⟨w2,e2,M2,O2⟩:=HM.out.update (P:=Tryz.prog) (t:=128) Tryz.underlying128 Tryz.underlying9 z 2
    have e3:=M2.look (P:=Tryz.prog) (t:=128) Tryz.underlying128 Tryz.underlying9 (k:=z) (v:=2) (Or.inl ⟨rfl,rfl⟩) false
    have HB2:Hid (Below w.heap.size w w2):=⟨O2.os.trans HB.out.os,O2.tape.trans HB.out.tape,O2.output.trans HB.out.output,by have:=HB.out.size;have:=O2.size;omega,fun j hj=>(O2.block j (by omega)).trans (HB.out.block j hj)⟩
    have HL:=hid hl
    clear hT hr2 hr hz hyes hS hl M2 O2 hzz
    go_wp2
    go_ret
    refine ⟨?_,HB2.out⟩
    rw [HT.out,HL.out];rfl
  ·have e1:i=k:=by omega
   have HE:Hid (twr S k 0=false):=by show _=_;rw [HI.out,e1,Nat.sub_self];rfl
   have i2:¬ (((i:Nat):Int) < ((k:Nat):Int)):=by omega
   clear e1 HI
   go_wp2
   go_ret
   refine ⟨?_,HB.out⟩
   rw [HE.out];rfl
end Go.Proofs.YtgmllfcngnfpkaaGreat
namespace Go.Proofs.YtgmllfcngnfpkaaGreat
open Go.RowKit
structure Ex where
 i:Int
 v:Nm
def NmS (w:World) (t:Nm):Prop:=Rw w t.x t.n t.c t.f t.y t.m t.d t.g ∧ t.n ≤ 65536 ∧ t.m ≤ 65536
theorem NmS.below {w w' t} (h:NmS w t) (hb:Below w.heap.size w w'):NmS w' t:=⟨h.1.below hb,h.2⟩
theorem NmS.alloc {w t} (h:NmS w t) (o:Obj):NmS (w.alloc o) t:=h.below (below_alloc (Below.refl _ _) o)
def exF (e:Ex):Bool:=efB e.i e.v.s e.v.f e.v.n e.v.g e.v.m
def abB (a b:Ex):Bool:=exF a && (exF b && (decide (a.i ≠ 1) && decide (b.i ≠ -1)))
def Nm.val (t:Nm):Value:=.agg #[.bool t.s,.slice t.x t.n t.c,.slice t.y t.m t.d]
def Ex.val (e:Ex):Value:=.agg #[.int .i64 e.i,.bool e.v.s,.slice e.v.x e.v.n e.v.c,.slice e.v.y e.v.m e.v.d]
theorem eForm_x {w:World} {e:Ex} (h:NmS w e.v):Calls Tryz.prog 104 #[e.val] w fun r w'=>r=.returned (.bool (exF e)) ∧ Below w.heap.size w w' :=
 eForm_b (i:=e.i) (s:=e.v.s) h.1 h.2.1 h.2.2
set_option maxRecDepth 100000 in
set_option maxHeartbeats 2000000 in
theorem areBounds_c {w:World} {a b:Ex} (ha:NmS w a.v) (hb:NmS w b.v):Calls Tryz.prog 78 #[a.val,b.val] w fun r w'=>r=.returned (.bool (abB a b)) ∧ Below w.heap.size w w':=by
 have CA:=hid (fun w' (hw:Below w.heap.size w w')=>eForm_x (w:=w') (ha.below hw))
 have CB:=hid (fun w' (hw:Below w.heap.size w w')=>eForm_x (w:=w') (hb.below hw))
 obtain ⟨fa,hfa⟩:∃ x,exF a=x:=⟨_,rfl⟩
 obtain ⟨fb,hfb⟩:∃ x,exF b=x:=⟨_,rfl⟩
 have hR:abB a b=(fa && (fb && (decide (a.i ≠ 1) && decide (b.i ≠ -1)))):=by simp only [abB,hfa,hfb]
 rw [hfa] at CA
 rw [hfb] at CB
 have HR:=hid hR
 clear hR hfa hfb ha hb
 obtain ⟨i,⟨s,x,n,c,f,y,m,d,g⟩⟩:=a
 obtain ⟨j,⟨s2,x2,n2,c2,f2,y2,m2,d2,g2⟩⟩:=b
 replace CA:Hid (∀ w' (hw:Below w.heap.size w w'),Calls Tryz.prog 104 #[.agg #[.int .i64 i,.bool s,.slice x n c,.slice y m d]] w' fun r w2=>r=.returned (.bool fa) ∧ Below w'.heap.size w' w2):=CA
 replace CB:Hid (∀ w' (hw:Below w.heap.size w w'),Calls Tryz.prog 104 #[.agg #[.int .i64 j,.bool s2,.slice x2 n2 c2,.slice y2 m2 d2]] w' fun r w2=>r=.returned (.bool fb) ∧ Below w'.heap.size w' w2):=CB
 replace HR:Hid (abB ⟨i,⟨s,x,n,c,f,y,m,d,g⟩⟩ ⟨j,⟨s2,x2,n2,c2,f2,y2,m2,d2,g2⟩⟩=(fa && (fb && (decide (i ≠ 1) && decide (j ≠ -1))))):=HR
 show Calls Tryz.prog 78 #[.agg #[.int .i64 i,.bool s,.slice x n c,.slice y m d],.agg #[.int .i64 j,.bool s2,.slice x2 n2 c2,.slice y2 m2 d2]] w _
 go_enter Tryz.func78,Tryz.ntmps78
 go_wp2_with fail
 have HB0:=hid (below_alloc (below_alloc (Below.refl w.heap.size w) (.cells #[.int .i64 i,.bool s,.slice x n c,.slice y m d] 73)) (.cells #[.int .i64 j,.bool s2,.slice x2 n2 c2,.slice y2 m2 d2] 73))
 refine (CA.out _ HB0.out).mono ?_
 rintro r w1 ⟨rfl,hb1⟩
 have x0:=kCb hb1 (a:=⟨w.heap.size,0,none⟩) (v:=.int .i64 i) (by simp [go_sem])
 have b1:=bx4_new hb1
 obtain ⟨_,y0,y1,y2',y3⟩:=b1
 replace y0:w1.cell? ⟨w.heap.size + 1,0,none⟩=some (.int .i64 j):=by simpa using y0
 replace y1:w1.cell? ⟨w.heap.size + 1,1,none⟩=some (.bool s2):=by simpa using y1
 replace y2':w1.cell? ⟨w.heap.size + 1,2,none⟩=some (.slice x2 n2 c2):=by simpa using y2'
 replace y3:w1.cell? ⟨w.heap.size + 1,3,none⟩=some (.slice y2 m2 d2):=by simpa using y3
 have HB1:=hid (HB0.out.trans (hb1.mono HB0.out.size))
 clear hb1 HB0
 cases fa
 ·go_wp2
  go_ret
  refine ⟨?_,HB1.out⟩
  rw [HR.out];rfl
 ·go_wp2_with fail
  refine (CB.out _ HB1.out).mono ?_
  rintro r w2 ⟨rfl,hb2⟩
  have z0:=kCb hb2 x0
  have u0:=kCb hb2 y0
  have HB2:=hid (HB1.out.trans (hb2.mono HB1.out.size))
  clear hb2 HB1 x0 y0 y1 y2' y3
  cases fb
  ·go_wp2
   go_ret
   refine ⟨?_,HB2.out⟩
   rw [HR.out];rfl
  ·by_cases h1:i=1
   ·subst h1
    go_wp2
    go_ret
    refine ⟨?_,HB2.out⟩
    rw [HR.out];rfl
   ·have HI:=hid (show decide (i ≠ 1)=true from by simp [h1])
    by_cases h2:j=-1
    ·subst h2
     go_wp2
     go_ret
     refine ⟨?_,HB2.out⟩
     rw [HR.out,HI.out];rfl
    ·have HJ:=hid (show decide (j ≠ -1)=true from by simp [h2])
     go_wp2
     go_ret
     refine ⟨?_,HB2.out⟩
     rw [HR.out,HI.out,HJ.out];simp [h1,h2]
end Go.Proofs.YtgmllfcngnfpkaaGreat
