/-
 Walks of the document's reference for rat: Twin; the same digits elsewhere. Walks of package rat's calls Text on numbers in form, and Read on the text 4/2. The walk of package rat's call Text on -3/2. The walk of the statements' own look at answers of rat that the document fixes (awake). The walk of RatSums. Walks of rat.Make and of the document's DocMake, whatever they are handed. Boxes of four cells. No Go text is named here. Bounds (api.Ext) as they lie in memory: boxes of four cells; what is in form; the order. Walks of ext: isZero, Form, allForm, number, infinity, Low, High, Copy, Cmp, Max, Min; of cmp.Compare at int. Lists of terms in memory; the walks of package vec's isZero and Form. Names: the walks of package model's isLetter, isDigit, IsName, allNames. A map from texts to numbers in memory (F2 is written by makers/f2.py out of Z2); the walk of package model's anyTwice. Models in memory: columns, rows; the walk of package model's areBounds. Columns, rows and models in memory; the walk of package model's inForm (written by makers/f4.py). Lists of rational numbers in memory; the walks of package vec's allForm, allBelow, plus and times. Rows of structs that a call makes by append, none of whose cells is a limb: what stays when they are written. No Go text is named here. The walk of package vec's putter (gather's own function). Lists of terms in form, as values; the walk of package vec's merge. The walks of package vec's gather and of the call Plus, on lists in form. Lists of terms in form have values; the walk of package vec's call Plus, whatever it is handed. The walks of package vec's calls Scale and Sparse, whatever they are handed. The walk of package vec's call Sparse, whatever it is handed. How long rational numbers are, by their values: sums and products. The call Dot of package vec, on lists in form whose columns lie below the number of the numbers. Package vec's call At. Lists of terms and lists of numbers, as values: sums, products with numbers, there and back. No Go text is named here.
-/
import Derived.Test.YtankbgpcnljjdaaGreatZ6
import Derived.Test.YtankbgpcnljjdaaGreatZ4
import Derived.WalkKit
import Derived.MapKept
import Derived.ChangeMaps5
import Derived.BigQuiet
import Derived.Deep.RegionHeld3
namespace Go.Proofs.YtankbgpcnljjdaaGreat
open Go.RowKit
theorem twinD_c {w:World} {x:Option Addr} {n c:Nat} {f:Nat→Int} (hr:Rd .u64 w x n f) (hn:n≤17592186044416) (hnil:x=none→n=0∧c=0) :
  Calls Tryz.prog 56 #[.slice x n c] w fun e w'=>∃z c',e=.returned (.slice z n c')∧Below w.heap.size w w'∧Hid (Rd .u64 w' z n f∧(n≤c'∧c'≤9223372036854775807)∧(z=none→n=0∧c'=0)):=by
 refine (twin_c x n c f w (by omega) hr hnil).mono ?_;rintro e w' ⟨z,c',rfl,h2,h3,h4⟩;obtain ⟨ao,cap,hv,k1,k2,k3,_,_⟩:=h4.shape;cases hv
 exact ⟨z,c',rfl,h2,h3,⟨k1,by unfold maxLen at k3;omega⟩,fun h=>by have:=k2 h;omega⟩
theorem kRdb {w w':World} {x:Option Addr} {n:Nat} {f:Nat→Int} (hb:Below w.heap.size w w') (h:Rd .u64 w x n f):Rd .u64 w' x n f:=h.below hb (Nat.le_refl _)
set_option maxRecDepth 100000 in
set_option maxHeartbeats 8000000 in
theorem qTwin_c {w:World} {s:Bool} {x:Option Addr} {n c:Nat} {f:Nat→Int} {y:Option Addr} {m d:Nat} {g:Nat→Int} (h:Rw w x n c f y m d g) (hn:n≤17592186044416) (hm:m≤17592186044416) :
  Calls Tryz.prog 28 #[.agg #[.bool s,.slice x n c,.slice y m d]] w fun e w'=>∃z c' z2 c2,e=.returned (.agg #[.bool s,.slice z n c',.slice z2 m c2])∧Below w.heap.size w w'∧Hid (Rw w' z n c' f z2 m c2 g):=by
 obtain ⟨h1,h2,h3⟩:=qbox1 (w:=w) (.bool s) (.slice x n c) (.slice y m d) 24 24;have h4:=h.below h3;clear h;go_enter Tryz.func28,Tryz.ntmps28;go_wp2_with fail
 generalize (w.alloc (.cells #[.bool s,.slice x n c,.slice y m d] 24)).alloc (.cells #[.bool false,.slice none 0 0,.slice none 0 0] 24)=w1 at *;have HN:=hid h4;have OB:=hid h2;have HW:=hid h3
 obtain ⟨z,x0,x1,x2⟩:=h1;obtain ⟨hz,z0,z1,z2,zf⟩:=h2;clear h3 h4;have C1:Hid (∀W,Below w1.heap.size w1 W→Calls Tryz.prog 56 #[.slice x n c] W fun e w'=>∃z c',e=.returned (.slice z n c')∧Below W.heap.size W w'∧Hid (Rd .u64 w' z n f∧(n≤c'∧c'≤9223372036854775807)∧(z=none→n=0∧c'=0))):=fun W hW=>twinD_c (HN.out.below hW).rx (by omega) HN.out.nx
 have C2:Hid (∀W,Below w1.heap.size w1 W→Calls Tryz.prog 56 #[.slice y m d] W fun e w'=>∃z c',e=.returned (.slice z m c')∧Below W.heap.size W w'∧Hid (Rd .u64 w' z m g∧(m≤c'∧c'≤9223372036854775807)∧(z=none→m=0∧c'=0))):=fun W hW=>twinD_c (HN.out.below hW).ry (by omega) HN.out.ny
 go_region_held3 (fun w'=>w'.cell? ⟨w.heap.size,0,none⟩=some (.bool s)∧w'.cell? ⟨w.heap.size,1,none⟩=some (.slice x n c)∧w'.cell? ⟨w.heap.size,2,none⟩=some (.slice y m d)∧(w'.cell? ⟨w.heap.size+1,0,none⟩).isSome=true∧(w'.cell? ⟨w.heap.size+1,1,none⟩).isSome=true∧(w'.cell? ⟨w.heap.size+1,2,none⟩).isSome=true∧w'.frozen? ⟨w.heap.size+1,0,none⟩=false∧w'.frozen? ⟨w.heap.size+1,1,none⟩=false∧w'.frozen? ⟨w.heap.size+1,2,none⟩=false)
  (refine ⟨?_,?_,?_,?_,?_,?_,?_,?_,?_⟩ <;> repeat (with_reducible first | assumption | exact zf _ | exact tf _ | exact uf _ | exact kI0 z0 | exact kI0 z1 | exact kI0 z2 | exact kI0 t0 | exact kI0 t1 | exact kI0 t2 | exact kI0 u0 | exact kI0 u1 | exact kI0 u2 | refine kCd ?_ | refine kId ?_ | refine kFd ?_ | refine kCs (by simp only [ne_eq];omega) ?_ | refine kIs ?_ | refine kFs ?_ | refine kCb (by assumption) ?_ | refine kIb (by assumption) ?_))
  (first
   | (go_at_call 56;with_reducible refine (C1.out _ belB).mono ?_;rintro e v5 ⟨z5,c5,rfl,hb5,H5⟩;have Tt:Ob v5 (w.heap.size+1):=(by repeat (with_reducible first | exact OB.out | exact Tt | exact Tu | refine Ob.drew ?_ | refine kOb (by assumption) ?_));obtain ⟨_,t0,t1,t2,tf⟩:=id Tt)
   | (go_at_call 56;with_reducible refine (C2.out _ belB).mono ?_;rintro e v6 ⟨z6,c6,rfl,hb6,H6⟩;have Tu:Ob v6 (w.heap.size+1):=(by repeat (with_reducible first | exact OB.out | exact Tt | exact Tu | refine Ob.drew ?_ | refine kOb (by assumption) ?_));obtain ⟨_,u0,u1,u2,uf⟩:=id Tu))
 all_goals
  have D5:Rd .u64 v6 z5 n f:=(by repeat (with_reducible first | exact H5.out.1 | refine Rd.drew ?_ | refine kRdb (by assumption) ?_));have hb:Below w1.heap.size w1 v6:=belB;go_wp2;exact bodyPost_ret (v:=.agg #[.bool s,.slice z5 n c5,.slice z6 m c6]) (by simp [results,Tryz.results28,go_sem,u0,u1,u2]) rfl ⟨z5,c5,z6,c6,rfl,below_st (HW.out.trans (hb.mono HW.out.size)) (by omega),Tu.rd D5,HN.out.lx,H5.out.2.1,H5.out.2.2,Tu.rd H6.out.1,HN.out.ly,H6.out.2.1,H6.out.2.2⟩
theorem OQ.below {p kind qa qb w w' s x n c f y m d g er} (h:OQ p kind qa qb w s x n c f y m d g er) (hb:Below w.heap.size w w'):OQ p kind qa qb w' s x n c f y m d g er:=by
 rcases h with h | h | ⟨h1,h2,h3,h4⟩
 ·exact .inl h
 ·exact .inr (.inl h)
 ·exact .inr (.inr ⟨h1,h2,h3,h4.below hb⟩)
theorem OQ.alloc {p kind qa qb w s x n c f y m d g er} (h:OQ p kind qa qb w s x n c f y m d g er) (o:Obj):OQ p kind qa qb (w.alloc o) s x n c f y m d g er:=h.below (below_alloc (Below.refl _ _) o)
structure Bx4 (w:World) (B:Nat) (a0 a1 a2 a3:Value):Prop where
 z:B<w.heap.size
 x0:w.cell? ⟨B,0,none⟩=some a0
 x1:w.cell? ⟨B,1,none⟩=some a1
 x2:w.cell? ⟨B,2,none⟩=some a2
 x3:w.cell? ⟨B,3,none⟩=some a3
theorem Bx4.below {w w' B a0 a1 a2 a3} (h:Bx4 w B a0 a1 a2 a3) (hb:Below w.heap.size w w'):Bx4 w' B a0 a1 a2 a3:=⟨Nat.lt_of_lt_of_le h.z hb.size,kCb hb h.x0,kCb hb h.x1,kCb hb h.x2,kCb hb h.x3⟩
theorem Bx4.alloc {w B a0 a1 a2 a3} (h:Bx4 w B a0 a1 a2 a3) (o:Obj):Bx4 (w.alloc o) B a0 a1 a2 a3:=h.below (below_alloc (Below.refl _ _) o)
theorem Bx4.next {w w' B a0 a1 a2 a3} {o:Obj} (h:Bx4 w B a0 a1 a2 a3) (hb:Below (w.alloc o).heap.size (w.alloc o) w'):Bx4 w' B a0 a1 a2 a3:=(h.alloc o).below hb
theorem bx4_at (w:World) (a0 a1 a2 a3:Value) (t:TypeId):Bx4 (w.alloc (.cells #[a0,a1,a2,a3] t)) w.heap.size a0 a1 a2 a3:=⟨by simp,by simp [go_sem],by simp [go_sem],by simp [go_sem],by simp [go_sem]⟩
theorem bx4_new {w w':World} {a0 a1 a2 a3:Value} {t:TypeId} (hb:Below (w.alloc (.cells #[a0,a1,a2,a3] t)).heap.size (w.alloc (.cells #[a0,a1,a2,a3] t)) w'):Bx4 w' w.heap.size a0 a1 a2 a3:=(bx4_at w a0 a1 a2 a3 t).below hb
structure Ob4 (w:World) (B:Nat):Prop where
 z:B<w.heap.size
 z0:w.cell? ⟨B,0,none⟩=some (.int .i64 0)
 z1:w.cell? ⟨B,1,none⟩=some (.bool false)
 z2:w.cell? ⟨B,2,none⟩=some (.slice none 0 0)
 z3:w.cell? ⟨B,3,none⟩=some (.slice none 0 0)
 zf:∀o,w.frozen? ⟨B,o,none⟩=false
theorem Ob4.below {w w' B} (h:Ob4 w B) (hb:Below w.heap.size w w'):Ob4 w' B:=by
 obtain ⟨h1,h2⟩:=bcell hb;exact ⟨Nat.lt_of_lt_of_le h.z hb.size,kCb hb h.z0,kCb hb h.z1,kCb hb h.z2,kCb hb h.z3,fun o=>(h2 _ _ h.z).trans (h.zf o)⟩
theorem kO4b {w w' B} (hb:Below w.heap.size w w') (h:Ob4 w B):Ob4 w' B:=h.below hb
theorem Ob4.alloc {w B} (h:Ob4 w B) (o:Obj):Ob4 (w.alloc o) B:=h.below (below_alloc (Below.refl _ _) o)
theorem Ob4.next {w w' B} {o:Obj} (h:Ob4 w B) (hb:Below (w.alloc o).heap.size (w.alloc o) w'):Ob4 w' B:=(h.alloc o).below hb
theorem Ob4.drew {w B} (h:Ob4 w B):Ob4 w.drew B:=⟨h.z,h.z0,h.z1,h.z2,h.z3,h.zf⟩
theorem ob4_new (w:World) (t:TypeId):Ob4 (w.alloc (.cells #[.int .i64 0,.bool false,.slice none 0 0,.slice none 0 0] t)) w.heap.size:=by
 refine ⟨by simp,by simp [go_sem],by simp [go_sem],by simp [go_sem],by simp [go_sem],fun o=>?_⟩;have e:=heap_alloc_new w (.cells #[.int .i64 0,.bool false,.slice none 0 0,.slice none 0 0] t);simp only [World.frozen?,e];simp
theorem Ob4.rd {w B u0 u1 u2 u3 x n f} (h:Ob4 w B) (hx:Rd .u64 w x n f):Rd .u64 ((((w.setCell ⟨B,0,none⟩ u0).setCell ⟨B,1,none⟩ u1).setCell ⟨B,2,none⟩ u2).setCell ⟨B,3,none⟩ u3) x n f :=
 rd_setne (cell_off (by decide) (cell_off (by decide) (cell_off (by decide) h.z3))) (fun i h=>by cases h) (rd_setne (cell_off (by decide) (cell_off (by decide) h.z2)) (fun i h=>by cases h) (rd_setne (cell_off (by decide) h.z1) (fun i h=>by cases h) (rd_setne h.z0 (fun i h=>by cases h) hx)))
theorem Ob4.wn {w B u0 u1 u2 u3 s x n c f v} (h:Ob4 w B) (hx:Wn w s x n c f v):Wn ((((w.setCell ⟨B,0,none⟩ u0).setCell ⟨B,1,none⟩ u1).setCell ⟨B,2,none⟩ u2).setCell ⟨B,3,none⟩ u3) s x n c f v:=⟨h.rd hx.rd,hx.lm,hx.wf,hx.cap,hx.nil,hx.val⟩
theorem Ob4.dn {w B u0 u1 u2 u3 x n d V} (h:Ob4 w B) (hx:Dn w x n d V):Dn ((((w.setCell ⟨B,0,none⟩ u0).setCell ⟨B,1,none⟩ u1).setCell ⟨B,2,none⟩ u2).setCell ⟨B,3,none⟩ u3) x n d V:=⟨h.rd hx.rd,hx.dg,hx.fm,hx.val⟩
theorem Ob4.rn {w B u0 u1 u2 u3 L s x n c f y m d g q} (h:Ob4 w B) (hx:Rn L w s x n c f y m d g q):Rn L ((((w.setCell ⟨B,0,none⟩ u0).setCell ⟨B,1,none⟩ u1).setCell ⟨B,2,none⟩ u2).setCell ⟨B,3,none⟩ u3) s x n c f y m d g q:=⟨h.wn hx.num,h.wn hx.den,hx.ln,hx.ld⟩
theorem Ob4.rw {w B u0 u1 u2 u3 x n c f y m d g} (h:Ob4 w B) (hx:Rw w x n c f y m d g):Rw ((((w.setCell ⟨B,0,none⟩ u0).setCell ⟨B,1,none⟩ u1).setCell ⟨B,2,none⟩ u2).setCell ⟨B,3,none⟩ u3) x n c f y m d g:=⟨h.rd hx.rx,hx.lx,hx.cx,hx.nx,h.rd hx.ry,hx.ly,hx.cy,hx.ny⟩
theorem Ob4.zn {w B u0 u1 u2 u3 s x n d v} (h:Ob4 w B) (hx:Zn w s x n d v):Zn ((((w.setCell ⟨B,0,none⟩ u0).setCell ⟨B,1,none⟩ u1).setCell ⟨B,2,none⟩ u2).setCell ⟨B,3,none⟩ u3) s x n d v:=⟨h.dn hx.dn,hx.sgn,hx.pos⟩
theorem Ob4.qn {w B u0 u1 u2 u3 s x n d y m g q} (h:Ob4 w B) (hx:Qn w s x n d y m g q):Qn ((((w.setCell ⟨B,0,none⟩ u0).setCell ⟨B,1,none⟩ u1).setCell ⟨B,2,none⟩ u2).setCell ⟨B,3,none⟩ u3) s x n d y m g q:=⟨h.zn hx.num,h.dn hx.den⟩
theorem below_st4 {w0 w:World} {B:Nat} {u0 u1 u2 u3:Value} (hw:Below w0.heap.size w0 w) (hB:w0.heap.size≤B) :
  Below w0.heap.size w0 ((((w.setCell ⟨B,0,none⟩ u0).setCell ⟨B,1,none⟩ u1).setCell ⟨B,2,none⟩ u2).setCell ⟨B,3,none⟩ u3) :=
 below_turned hw hw.size (((((Turned.refl w0.heap.size (B+1) w).set (x:=⟨B,0,none⟩) hB (by simp) _).set (x:=⟨B,1,none⟩) hB (by simp) _).set (x:=⟨B,2,none⟩) hB (by simp) _).set (x:=⟨B,3,none⟩) hB (by simp) _) (Nat.le_refl _)
theorem kRnd {L w s x n c f y m d g q} (h:Rn L w s x n c f y m d g q):Rn L w.drew s x n c f y m d g q:=⟨kWd h.num,kWd h.den,h.ln,h.ld⟩
def efB (i:Int) (s:Bool) (f:Nat→Int) (n:Nat) (g:Nat→Int) (m:Nat):Bool:=rfB s f n g m && (decide (i=0) || ((decide (i=-1) || decide (i=1)) && decide (n=0)))
structure En (L:Nat) (w:World) (i:Int) (s:Bool) (x:Option Addr) (n c:Nat) (f:Nat→Int) (y:Option Addr) (m d:Nat) (g:Nat→Int) (q:Rat):Prop where
 rn:Rn L w s x n c f y m d g q
 inf:i=0∨(i=-1∨i=1)∧q=0
theorem En.below {L w w' i s x n c f y m d g q} (h:En L w i s x n c f y m d g q) (hb:Below w.heap.size w w'):En L w' i s x n c f y m d g q:=⟨h.rn.below hb,h.inf⟩
theorem En.alloc {L w i s x n c f y m d g q} (h:En L w i s x n c f y m d g q) (o:Obj):En L (w.alloc o) i s x n c f y m d g q:=⟨h.rn.alloc o,h.inf⟩
theorem En.mono {L L' w i s x n c f y m d g q} (h:En L w i s x n c f y m d g q) (hL:L≤L'):En L' w i s x n c f y m d g q:=⟨h.rn.mono hL,h.inf⟩
theorem Rn.q_zero {L w s x n c f y m d g q} (h:Rn L w s x n c f y m d g q):q=0 ↔ n=0:=by
 rw [←h.num_zero];constructor
 ·intro e;rw [e];rfl
 ·exact fun e=>Rat.num_eq_zero.1 e
theorem Rw.en {w i s x n c f y m d g L} (h:Rw w x n c f y m d g) (hf:efB i s f n g m=true) (hn:n≤L) (hm:m≤L):∃q,En L w i s x n c f y m d g q:=by
 simp only [efB,Bool.and_eq_true,Bool.or_eq_true,decide_eq_true_eq] at hf;obtain ⟨q,hq⟩:=h.rn hf.1 hn hm;refine ⟨q,hq,?_⟩;rcases hf.2 with h1 | ⟨h1,h2⟩
 ·exact .inl h1
 ·exact .inr ⟨h1,hq.q_zero.2 h2⟩
theorem En.ef {L w i s x n c f y m d g q} (h:En L w i s x n c f y m d g q):efB i s f n g m=true:=by
 simp only [efB,Bool.and_eq_true,Bool.or_eq_true,decide_eq_true_eq];refine ⟨h.rn.rf,?_⟩;rcases h.inf with h1 | ⟨h1,h2⟩
 ·exact .inl h1
 ·exact .inr ⟨h1,h.rn.q_zero.1 h2⟩
def EOrd (c:Int) (i:Int) (a:Rat) (j:Int) (b:Rat):Prop:=(c=-1∧(i<j∨i=j∧a<b))∨(c=0∧i=j∧a=b)∨(c=1∧(j<i∨i=j∧b<a))
theorem eIsZero_c {w:World} {s:Bool} {x:Option Addr} {n c:Nat} {y:Option Addr} {m d:Nat} :
  Calls Tryz.prog 82 #[.agg #[.bool s,.slice x n c,.slice y m d]] w fun e w'=>e=.returned (.bool (decide (n=0)))∧Below w.heap.size w w':=by
 have key:∀o:Obj,Below w.heap.size w (w.alloc o):=fun o=>below_alloc (Below.refl w.heap.size w) o
 have KEY:=hid key;clear key;by_cases hn:n=0
 ·have h1:((n:Int)==0)=true:=by simp;omega
  rw [decide_eq_true hn];clear hn;go_enter Tryz.func82,Tryz.ntmps82;go_wp2;go_ret;exact ⟨rfl,KEY.out _⟩
 ·have h1:((n:Int)==0)=false:=by simp;omega
  rw [decide_eq_false hn];clear hn;go_enter Tryz.func82,Tryz.ntmps82;go_wp2;go_ret;exact ⟨rfl,KEY.out _⟩
set_option maxRecDepth 100000 in
set_option maxHeartbeats 4000000 in
theorem eForm_b {w:World} {i:Int} {s:Bool} {x:Option Addr} {n c:Nat} {f:Nat→Int} {y:Option Addr} {m d:Nat} {g:Nat→Int} (h:Rw w x n c f y m d g) (hn:n≤65536) (hm:m≤65536) :
  Calls Tryz.prog 96 #[.agg #[.int .i64 i,.bool s,.slice x n c,.slice y m d]] w fun e w'=>e=.returned (.bool (efB i s f n g m))∧Below w.heap.size w w':=by
 have HR:=hid (h.alloc (.cells #[.int .i64 i,.bool s,.slice x n c,.slice y m d] 41));have BX:=hid (bx4_at w (.int .i64 i) (.bool s) (.slice x n c) (.slice y m d) 41);have HW:=hid (below_alloc (Below.refl w.heap.size w) (.cells #[.int .i64 i,.bool s,.slice x n c,.slice y m d] 41));have C1:Hid (∀W,Below (w.alloc (.cells #[.int .i64 i,.bool s,.slice x n c,.slice y m d] 41)).heap.size (w.alloc (.cells #[.int .i64 i,.bool s,.slice x n c,.slice y m d] 41)) W→Calls Tryz.prog 63 #[.agg #[.bool s,.slice x n c,.slice y m d]] W fun e w'=>e=.returned (.bool (rfB s f n g m))∧Below W.heap.size W w'):=fun W hW=>rForm_c (HR.out.below hW) (by omega) (by omega)
 clear h;by_cases h0:i=0
 ·subst h0;rw [show efB 0 s f n g m=rfB s f n g m by simp [efB]];go_enter Tryz.func96,Tryz.ntmps96;go_upto_region 1 with fail
  generalize w.alloc (.cells #[.int .i64 0,.bool s,.slice x n c,.slice y m d] 41)=w1 at *;obtain ⟨z,x0,x1,x2,x3⟩:=BX.out;go_wp2_with fail
  refine (C1.out _ (Below.refl _ _)).mono ?_;rintro e w2 ⟨rfl,hb⟩;have HB:=hid (HW.out.trans (hb.mono HW.out.size));clear hb;go_wp2;go_ret;exact ⟨rfl,HB.out⟩
 have e0:(i==0)=false:=by simp;exact h0
 by_cases h1:i=-1∨i=1
 ·have hef:efB i s f n g m=(rfB s f n g m && decide (n=0)):=by
   rcases h1 with rfl | rfl <;> simp [efB]
  rw [hef];clear hef h0;rcases h1 with rfl | rfl
  all_goals
   cases hr:rfB s f n g m
   ·have c1:=C1.out;rw [hr] at c1;have C1':=hid c1;clear c1 C1;go_enter Tryz.func96,Tryz.ntmps96;go_upto_region 1 with fail
    generalize w.alloc _=w1 at *;obtain ⟨z,x0,x1,x2,x3⟩:=BX.out;go_wp2_with fail
    refine (C1'.out _ (Below.refl _ _)).mono ?_;rintro e w2 ⟨rfl,hb⟩;have HB:=hid (HW.out.trans (hb.mono HW.out.size));clear hb;go_wp2;go_ret;exact ⟨rfl,HB.out⟩
   ·have c1:=C1.out;rw [hr] at c1;have C1':=hid c1;clear c1 C1;rw [Bool.true_and];obtain ⟨p,hp⟩:∃p,decide (n=0)=p:=⟨_,rfl⟩;rw [hp];have HN0:=hid hp;clear hp hr;go_enter Tryz.func96,Tryz.ntmps96;go_upto_region 1 with fail
    generalize w.alloc _=w1 at *;obtain ⟨z,x0,x1,x2,x3⟩:=BX.out;go_wp2_with fail
    refine (C1'.out _ (Below.refl _ _)).mono ?_;rintro e w2 ⟨rfl,hb⟩;have HB:=hid (HW.out.trans (hb.mono HW.out.size));have B2:=hid (BX.out.below hb)
    clear hb z x0 x1 x2 x3;obtain ⟨z,x0,x1,x2,x3⟩:=B2.out;go_wp2_with fail
    refine eIsZero_c.mono ?_;rintro e w3 ⟨rfl,hb⟩;have HB3:=hid (HB.out.trans (hb.mono HB.out.size));clear hb;rw [HN0.out];go_wp2;go_ret;exact ⟨rfl,HB3.out⟩
 ·have e1:(i == -1)=false:=by simp;omega
  have e2:(i==1)=false:=by simp;omega
  have hef:efB i s f n g m=false:=by
   simp [efB];omega
  rw [hef];clear hef h0 h1;go_enter Tryz.func96,Tryz.ntmps96;go_upto_region 1 with fail
  generalize w.alloc (.cells #[.int .i64 i,.bool s,.slice x n c,.slice y m d] 41)=w1 at *;obtain ⟨z,x0,x1,x2,x3⟩:=BX.out;go_wp2;go_ret;exact ⟨rfl,HW.out⟩
theorem eForm_c {w:World} {i:Int} {s:Bool} {x:Option Addr} {n c:Nat} {f:Nat→Int} {y:Option Addr} {m d:Nat} {g:Nat→Int} (h:Rw w x n c f y m d g) (hn:n≤4096) (hm:m≤4096) :
  Calls Tryz.prog 96 #[.agg #[.int .i64 i,.bool s,.slice x n c,.slice y m d]] w fun e w'=>e=.returned (.bool (efB i s f n g m))∧Below w.heap.size w w' :=
 eForm_b h (Nat.le_trans hn (by decide)) (Nat.le_trans hm (by decide))
theorem isNaN_c {w:World} {a:Int}:Calls Tryz.prog 121 #[.int .i64 a] w fun e w'=>e=.returned (.bool false)∧w'=w:=by
 have h1:(a != a)=false:=by simp
 go_enter Tryz.func121,Tryz.ntmps121;go_wp2;go_ret;exact ⟨rfl,rfl⟩
theorem compare_c {w:World} {a b:Int}:Calls Tryz.prog 114 #[.int .i64 a,.int .i64 b] w fun e w'=>∃r,e=.returned (.int .i64 r)∧w'=w∧Ord r a b:=by
 rcases Int.lt_trichotomy a b with h | h | h
 ·have h1:decide (a<b)=true:=decide_eq_true h;have HF:=hid h;clear h;go_enter Tryz.func114,Tryz.ntmps114;go_wp2_with fail
  refine isNaN_c.mono ?_;rintro e w1 ⟨rfl,rfl⟩;go_wp2_with fail
  refine isNaN_c.mono ?_;rintro e w2 ⟨rfl,rfl⟩;go_wp2;go_ret;exact ⟨-1,rfl,rfl,.inl ⟨rfl,HF.out⟩⟩
 ·have h1:decide (a<b)=false:=decide_eq_false (by omega);have h2:decide (b<a)=false:=decide_eq_false (by omega);have HF:=hid h;clear h;go_enter Tryz.func114,Tryz.ntmps114;go_wp2_with fail
  refine isNaN_c.mono ?_;rintro e w1 ⟨rfl,rfl⟩;go_wp2_with fail
  refine isNaN_c.mono ?_;rintro e w2 ⟨rfl,rfl⟩;go_wp2;go_ret;exact ⟨0,rfl,rfl,.inr (.inl ⟨rfl,HF.out⟩)⟩
 ·have h1:decide (a<b)=false:=decide_eq_false (by omega);have h2:decide (b<a)=true:=decide_eq_true h;have HF:=hid h;clear h;go_enter Tryz.func114,Tryz.ntmps114;go_wp2_with fail
  refine isNaN_c.mono ?_;rintro e w1 ⟨rfl,rfl⟩;go_wp2_with fail
  refine isNaN_c.mono ?_;rintro e w2 ⟨rfl,rfl⟩;go_wp2;go_ret;exact ⟨1,rfl,rfl,.inr (.inr ⟨rfl,HF.out⟩)⟩
set_option maxRecDepth 100000 in
set_option maxHeartbeats 4000000 in
theorem eInf_c {w:World} {i:Int}:Calls Tryz.prog 83 #[.int .i64 i] w fun e w'=>∃s x n c f y m d g,e=.returned (.agg #[.int .i64 i,.bool s,.slice x n c,.slice y m d])∧Below w.heap.size w w'∧Rn 4 w' s x n c f y m d g 0:=by
 have h2:=ob4_new w 41;have h3:=below_alloc (Below.refl w.heap.size w) (.cells #[.int .i64 0,.bool false,.slice none 0 0,.slice none 0 0] 41);go_enter Tryz.func83,Tryz.ntmps83;go_wp2_with fail
 generalize w.alloc (.cells #[.int .i64 0,.bool false,.slice none 0 0,.slice none 0 0] 41)=w1 at *;have OB:=hid h2;have HW:=hid h3
 clear h2 h3;refine (rOf_c (z:=0) (by decide) (by decide)).mono ?_;rintro e w2 ⟨s2,x2,n2,c2,f2,y2,m2,d2,g2,rfl,hb,hr⟩;have HB:=hid (HW.out.trans (hb.mono HW.out.size));have OB2:=hid (OB.out.below hb);have RN:=hid hr
 clear hb hr;obtain ⟨hz,z0,z1,z2,z3,zf⟩:=OB2.out;go_wp2;exact bodyPost_ret (v:=.agg #[.int .i64 i,.bool s2,.slice x2 n2 c2,.slice y2 m2 d2]) (by simp [results,Tryz.results83,go_sem,z0,z1,z2,z3]) rfl ⟨s2,x2,n2,c2,f2,y2,m2,d2,g2,rfl,below_st4 HB.out (Nat.le_refl _),OB2.out.rn RN.out⟩
set_option maxRecDepth 100000 in
set_option maxHeartbeats 4000000 in
theorem eLow_c {w:World}:Calls Tryz.prog 60 #[] w fun e w'=>∃s x n c f y m d g,e=.returned (.agg #[.int .i64 (-1),.bool s,.slice x n c,.slice y m d])∧Below w.heap.size w w'∧En 4 w' (-1) s x n c f y m d g 0:=by
 have h2:=ob4_new w 41;have h3:=below_alloc (Below.refl w.heap.size w) (.cells #[.int .i64 0,.bool false,.slice none 0 0,.slice none 0 0] 41);go_enter Tryz.func60,Tryz.ntmps60;go_wp2_with fail
 generalize w.alloc (.cells #[.int .i64 0,.bool false,.slice none 0 0,.slice none 0 0] 41)=w1 at *;have OB:=hid h2;have HW:=hid h3
 clear h2 h3;refine eInf_c.mono ?_;rintro e w2 ⟨s2,x2,n2,c2,f2,y2,m2,d2,g2,rfl,hb,hr⟩;have HB:=hid (HW.out.trans (hb.mono HW.out.size));have OB2:=hid (OB.out.below hb);have RN:=hid hr
 clear hb hr;obtain ⟨hz,z0,z1,z2,z3,zf⟩:=OB2.out;go_wp2;exact bodyPost_ret (v:=.agg #[.int .i64 (-1),.bool s2,.slice x2 n2 c2,.slice y2 m2 d2]) (by simp [results,Tryz.results60,go_sem,z0,z1,z2,z3]) rfl ⟨s2,x2,n2,c2,f2,y2,m2,d2,g2,rfl,below_st4 HB.out (Nat.le_refl _),⟨OB2.out.rn RN.out,.inr ⟨by decide,rfl⟩⟩⟩
structure Nm where
 s:Bool
 x:Option Addr
 n:Nat
 c:Nat
 f:Nat→Int
 y:Option Addr
 m:Nat
 d:Nat
 g:Nat→Int
def NmR (w:World) (t:Nm):Prop:=Rw w t.x t.n t.c t.f t.y t.m t.d t.g∧t.n≤65536∧t.m≤65536
def nfB (t:Nm):Bool:=rfB t.s t.f t.n t.g t.m
theorem NmR.below {w w' t} (h:NmR w t) (hb:Below w.heap.size w w'):NmR w' t:=⟨h.1.below hb,h.2⟩
structure C4 (w:World) (b o:Nat) (a0 a1 a2 a3:Value):Prop where
 x0:w.cell? ⟨b,o,none⟩=some a0
 x1:w.cell? ⟨b,o+1,none⟩=some a1
 x2:w.cell? ⟨b,o+2,none⟩=some a2
 x3:w.cell? ⟨b,o+3,none⟩=some a3
theorem C4.below {w w' b o a0 a1 a2 a3} (h:C4 w b o a0 a1 a2 a3) (hb:Below w.heap.size w w'):C4 w' b o a0 a1 a2 a3:=⟨kCb hb h.x0,kCb hb h.x1,kCb hb h.x2,kCb hb h.x3⟩
theorem box4 {w w1:World} {a0 a1 a2 a3:Value} {t:TypeId} (hb:Below (w.alloc (.cells #[a0,a1,a2,a3] t)).heap.size (w.alloc (.cells #[a0,a1,a2,a3] t)) w1):w.heap.size<w1.heap.size∧w1.cell? ⟨w.heap.size,0,none⟩=some a0∧w1.cell? ⟨w.heap.size,1,none⟩=some a1∧w1.cell? ⟨w.heap.size,2,none⟩=some a2∧w1.cell? ⟨w.heap.size,3,none⟩=some a3∧Below w.heap.size w w1:=by
 have hz:=hb.size;simp at hz;exact ⟨by omega,kCb hb (by simp [go_sem]),kCb hb (by simp [go_sem]),kCb hb (by simp [go_sem]),kCb hb (by simp [go_sem]),(below_alloc (Below.refl _ w) _).trans (hb.mono (by simp))⟩
def Tl (w:World) (ao:Option Addr) (k:Nat) (col:Nat→Int) (T:Nat→Nm):Prop :=
 ∀j,j<k→∃b o,ao=some ⟨b,o,none⟩∧C4 w b (o+j*4) (.int .i64 (col j)) (.bool (T j).s) (.slice (T j).x (T j).n (T j).c) (.slice (T j).y (T j).m (T j).d)∧NmR w (T j)
theorem Tl.below {w w' ao k col T} (h:Tl w ao k col T) (hb:Below w.heap.size w w'):Tl w' ao k col T:=fun j hj=>by
 obtain ⟨b,o,e,h1,h2⟩:=h j hj;exact ⟨b,o,e,h1.below hb,h2.below hb⟩
theorem Tl.drewN {w ao k col T} (h:Tl w ao k col T) (q:Nat):Tl (w.drewN q) ao k col T:=h.below (below_drewN (Below.refl _ _) q)
def tfr (col:Nat→Int) (T:Nat→Nm):Nat→Nat→Int→Bool
 | 0,_,_=>true
 | r+1,i,last=>decide (last<col i) && (nfB (T i) && (decide (0<(T i).n) && tfr col T r (i+1) (col i)))
def tfB (k:Nat) (col:Nat→Int) (T:Nat→Nm):Bool:=tfr col T k 0 (-1)
theorem isZero_c (s:Bool) (x:Option Addr) (n c:Nat) (y:Option Addr) (m d:Nat) (w:World) (hn:n≤9223372036854775807) :
  Calls Tryz.prog 97 #[.agg #[.bool s,.slice x n c,.slice y m d]] w fun e w'=>e=.returned (.bool (decide (n=0)))∧Below w.heap.size w w':=by
 have hd:((n:Int)==0)=decide (n=0):=by
  by_cases h:n=0
  ·subst h;rfl
  ·have:((n:Int)==0)=false:=by simp;omega
   rw [this];simp [h]
 go_enter Tryz.func97,Tryz.ntmps97;go_wp2;go_ret;refine ⟨?_,below_alloc (Below.refl _ _) _⟩;first
  | rfl
  | (simp [hd];done)
  | (rw [hd])
set_option maxRecDepth 100000 in
set_option maxHeartbeats 4000000 in
theorem vForm_c {w:World} {ao:Option Addr} {k cap:Nat} {col:Nat→Int} {T:Nat→Nm} (h:Tl w ao k col T) (hk:k≤1048576) :
  Calls Tryz.prog 74 #[.slice ao k cap] w fun e w'=>e=.returned (.bool (tfB k col T))∧Below w.heap.size w w':=by
 have H:=hid h;clear h;go_enter Tryz.func74,Tryz.ntmps74;go_wp2_with fail
 go_loopw [3,8] (fun l t wr=>∃(i:Nat) (last:Int),i≤k∧t=.int .i64 i∧l=.int .i64 last∧Hid (Below w.heap.size w wr)∧Hid (tfB k col T=tfr col T (k-i) i last)) (fun _ t _=>k-(intOf t).toNat)
 case atStart=>exact ⟨0,-1,by omega,rfl,rfl,Below.refl _ _,rfl⟩
 case round =>
  obtain ⟨i,last,hi,rfl,rfl,HB,HT⟩:=hrel;by_cases hlt:i<k
  ·obtain ⟨b,o,rfl,hc,hn,hn1,hn2⟩:=(H.out.below HB.out) i hlt;obtain ⟨r,hr⟩:∃r,k-i=r+1:=⟨k-i-1,by omega⟩;have hT:tfB k col T=(decide (last<col i) && (nfB (T i) && (decide (0<(T i).n) && tfr col T r (i+1) (col i)))):=by rw [HT.out,hr];rfl
   have hr2:k-(i+1)=r:=by omega
   obtain ⟨⟨s,x,n,c,f,y,m,d,g⟩,hTi⟩:∃t,T i=t:=⟨_,rfl⟩;rw [hTi] at hc hn hn1 hn2 hT;obtain ⟨z,hz⟩:∃z,col i=z:=⟨_,rfl⟩;rw [hz] at hc hT;obtain ⟨x0,x1,x2,x3⟩:=hc;replace x0:wr.cell? ⟨b,o+i*4,none⟩=some (.int .i64 z):=x0;replace x1:wr.cell? ⟨b,o+i*4+1,none⟩=some (.bool s):=x1;replace x2:wr.cell? ⟨b,o+i*4+2,none⟩=some (.slice x n c):=x2;replace x3:wr.cell? ⟨b,o+i*4+3,none⟩=some (.slice y m d):=x3;replace hn:Rw wr x n c f y m d g:=hn;replace hn1:n≤65536:=hn1;replace hn2:m≤65536:=hn2;have hblk:Below wr.heap.size wr (wr.alloc (.cells #[.int .i64 z,.bool s,.slice x n c,.slice y m d] 63)):=below_alloc (Below.refl _ _) _;have CF:=hid (rForm_c (s:=s) (hn.below hblk) (by omega) (by omega));have HTi:=hid hT;have HZ:=hid hz;have HR2:=hid hr2
   have i1:((i:Nat):Int)<((k:Nat):Int):=by omega
   clear hT hz hr2 hTi hr hn hblk;by_cases hl:z≤last
   ·have hd:decide (last<z)=false:=by simp;omega
    have HD:=hid hd;clear hd;go_wp2;go_ret;refine ⟨?_,?_⟩
    ·rw [HTi.out,HD.out];rfl
    ·exact below_alloc HB.out _
   ·have hd:decide (last<z)=true:=by simp;omega
    have HD:=hid hd;clear hd;cases hf:rfB s f n g m
    ·have CF2:=CF;rw [hf] at CF2;have HNF:Hid (nfB ⟨s,x,n,c,f,y,m,d,g⟩=false):=hf;clear CF hf;go_wp2_with fail
     refine CF2.out.mono ?_;rintro e w1 ⟨rfl,hb1⟩;obtain ⟨_,_,_,_,_,hb2⟩:=box4 hb1;go_wp2;go_ret;refine ⟨?_,HB.out.trans (hb2.mono HB.out.size)⟩;rw [HTi.out,HD.out,HNF.out];rfl
    ·have CF2:=CF;rw [hf] at CF2;have HNF:Hid (nfB ⟨s,x,n,c,f,y,m,d,g⟩=true):=hf;clear CF hf;go_wp2_with fail
     refine CF2.out.mono ?_;rintro e w1 ⟨rfl,hb1⟩;obtain ⟨z0,y0,y1,y2,y3,hb2⟩:=box4 hb1;have HB1:=hid (HB.out.trans (hb2.mono HB.out.size));clear hb1 hb2;go_wp2_with fail
     refine (isZero_c s x n c y m d _ (by omega)).mono ?_;rintro e w2 ⟨rfl,hb3⟩;have v0:=kCb hb3 y0;have HB2:=hid (HB1.out.trans (hb3.mono HB1.out.size));clear hb3;by_cases hn0:n=0
     ·subst hn0;go_wp2;go_ret;refine ⟨?_,HB2.out⟩;rw [HTi.out,HD.out,HNF.out];rfl
     ·have hnd:decide (n=0)=false:=by simp [hn0]
      rw [hnd];have hnp:decide (0<n)=true:=by simp;omega
      have HNP:=hid hnp;clear hnd hnp;go_wp2;go_roundw
      case rel =>
       refine ⟨i+1,z,by omega,by go_num,rfl,HB2.out,?_⟩;show _=_;rw [HTi.out,HD.out,HNF.out,HR2.out];simp only [HNP.out,Bool.true_and]
      case measure=>simp [intOf];omega
  ·have e1:i=k:=by omega
   have HTe:Hid (tfB k col T=true):=by
    show _=_;rw [HT.out,e1,Nat.sub_self];rfl
   have i2:¬(((i:Nat):Int)<((k:Nat):Int)):=by omega
   clear e1 HT;go_wp2;go_ret;refine ⟨?_,HB.out⟩;rw [HTe.out];rfl
def lett (b:Int):Bool:=decide (97≤b) && decide (b≤122)
def digt (b:Int):Bool:=decide (48≤b) && decide (b≤57)
def nchr (b:Int):Bool:=lett b || (digt b || decide (b=95))
def bt (s:ByteArray) (k:Nat):Int:=if h:k<s.size then ((s[k]'h).toNat:Int) else 0
def nchs (s:ByteArray):Nat→Nat→Bool
 | 0,_=>true
 | r+1,i=>nchr (bt s i) && nchs s r (i+1)
def isNm (s:ByteArray):Bool:=decide (1≤s.size) && (decide (s.size≤16) && (lett (bt s 0) && nchs s s.size 0))
theorem isLetter_c {w:World} {b:Int}:Calls Tryz.prog 98 #[.int .u8 b] w fun e w'=>e=.returned (.bool (lett b))∧w'=w:=by
 by_cases h1:97≤b
 ·by_cases h2:b≤122
  ·have HL:Hid (lett b=true):=by show _=_;simp [lett,h1,h2]
   go_enter Tryz.func98,Tryz.ntmps98;go_wp2;go_ret;refine ⟨?_,rfl⟩;rw [HL.out];rfl
  ·have HL:Hid (lett b=false):=by show _=_;simp [lett,h2]
   go_enter Tryz.func98,Tryz.ntmps98;go_wp2;go_ret;refine ⟨?_,rfl⟩;rw [HL.out];rfl
 ·have HL:Hid (lett b=false):=by show _=_;simp [lett,h1]
  go_enter Tryz.func98,Tryz.ntmps98;go_wp2;go_ret;refine ⟨?_,rfl⟩;rw [HL.out];rfl
theorem isDigit_c {w:World} {b:Int}:Calls Tryz.prog 99 #[.int .u8 b] w fun e w'=>e=.returned (.bool (digt b))∧w'=w:=by
 by_cases h1:48≤b
 ·by_cases h2:b≤57
  ·have HL:Hid (digt b=true):=by show _=_;simp [digt,h1,h2]
   go_enter Tryz.func99,Tryz.ntmps99;go_wp2;go_ret;refine ⟨?_,rfl⟩;rw [HL.out];rfl
  ·have HL:Hid (digt b=false):=by show _=_;simp [digt,h2]
   go_enter Tryz.func99,Tryz.ntmps99;go_wp2;go_ret;refine ⟨?_,rfl⟩;rw [HL.out];rfl
 ·have HL:Hid (digt b=false):=by show _=_;simp [digt,h1]
  go_enter Tryz.func99,Tryz.ntmps99;go_wp2;go_ret;refine ⟨?_,rfl⟩;rw [HL.out];rfl
set_option maxRecDepth 100000 in
set_option maxHeartbeats 2000000 in
theorem isName_c {w:World} {s:ByteArray} (hs:s.size≤9223372036854775807):Calls Tryz.prog 75 #[.string s] w fun e w'=>e=.returned (.bool (isNm s))∧w'=w:=by
 by_cases h1:1≤s.size
 case neg =>
  have HL:Hid (isNm s=false):=by show _=_;simp [isNm,h1]
  have e0:(s.size:Int)<1:=by omega
  clear h1;go_enter Tryz.func75,Tryz.ntmps75;go_wp2;go_ret;refine ⟨?_,rfl⟩;rw [HL.out];rfl
 by_cases h2:s.size≤16
 case neg =>
  have HL:Hid (isNm s=false):=by show _=_;simp [isNm,h2]
  have e0:¬(s.size:Int)<1:=by omega
  have e1:(s.size:Int) > 16:=by omega
  clear h1 h2;go_enter Tryz.func75,Tryz.ntmps75;go_wp2;go_ret;refine ⟨?_,rfl⟩;rw [HL.out];rfl
 have h0:0<s.size:=by omega
 obtain ⟨x,hx⟩:∃x:Int,((s[0]'h0).toNat:Int)=x:=⟨_,rfl⟩;have hb0:bt s 0=x:=by rw [←hx];simp [bt,h0]
 have e0:¬(s.size:Int)<1:=by omega
 have e1:¬(s.size:Int) > 16:=by omega
 cases hl:lett x
 ·have HL:Hid (isNm s=false):=by show _=_;simp [isNm,hb0,hl]
  have C:Hid (∀w,Calls Tryz.prog 98 #[.int .u8 x] w fun e w'=>e=.returned (.bool false)∧w'=w):=fun w=>hl ▸ isLetter_c
  clear h1 h2 hb0 hl;go_enter Tryz.func75,Tryz.ntmps75;go_wp2_with fail
  refine (C.out _).mono ?_;rintro e w1 ⟨rfl,rfl⟩;go_wp2;go_ret;refine ⟨?_,rfl⟩;rw [HL.out];rfl
 ·have HL:Hid (isNm s=nchs s s.size 0):=by show _=_;simp [isNm,hb0,hl,h1,h2]
  have C:Hid (∀w,Calls Tryz.prog 98 #[.int .u8 x] w fun e w'=>e=.returned (.bool true)∧w'=w):=fun w=>hl ▸ isLetter_c
  clear h1 h2 hb0 hl;go_enter Tryz.func75,Tryz.ntmps75;go_wp2_with fail
  refine (C.out _).mono ?_;rintro e w1 ⟨rfl,rfl⟩;go_wp2_with fail
  go_loopw [20] (fun t wr=>∃(i:Nat),i≤s.size∧t=.int .i64 i∧wr=w1∧Hid (isNm s=nchs s (s.size-i) i)) (fun t _=>s.size-(intOf t).toNat)
  case atStart=>exact ⟨0,by omega,rfl,rfl,HL.out⟩
  case round =>
   obtain ⟨i,hi,rfl,rfl,HI⟩:=hrel;by_cases hlt:i<s.size
   ·obtain ⟨z,hz⟩:∃z:Int,((s[i]'hlt).toNat:Int)=z:=⟨_,rfl⟩;have hbi:bt s i=z:=by rw [←hz];simp [bt,hlt]
    obtain ⟨r,hr⟩:∃r,s.size-i=r+1:=⟨s.size-i-1,by omega⟩;have hT:isNm s=(nchr z && nchs s r (i+1)):=by rw [HI.out,hr];show (nchr (bt s i) && _)=_;rw [hbi]
    have hr2:s.size-(i+1)=r:=by omega
    have HT:=hid hT;have HR:=hid hr2
    have i1:((i:Nat):Int)<((s.size:Nat):Int):=by omega
    have LC:=hid (fun w=>isLetter_c (w:=w) (b:=z));have DC:=hid (fun w=>isDigit_c (w:=w) (b:=z));clear hT hr2 hr hbi;cases hl:lett z
    ·have LC2:=LC;rw [hl] at LC2
     clear LC;cases hd:digt z
     ·have DC2:=DC;rw [hd] at DC2
      clear DC;by_cases h95:z=95
      ·have HN:Hid (nchr z=true):=by show _=_;simp [nchr,h95]
       subst h95;clear hl hd;go_wp2_with fail
       refine (LC2.out _).mono ?_;rintro e w2 ⟨rfl,rfl⟩;go_wp2_with fail
       refine (DC2.out _).mono ?_;rintro e w3 ⟨rfl,rfl⟩;go_wp2;go_roundw
       case rel =>
        refine ⟨i+1,by omega,by go_num,trivial,?_⟩;show _=_;rw [HT.out,HN.out,HR.out];rfl
       case measure=>simp [intOf];omega
      ·have HN:Hid (nchr z=false):=by show _=_;simp [nchr,hl,hd,h95]
       clear hl hd;go_wp2_with fail
       refine (LC2.out _).mono ?_;rintro e w2 ⟨rfl,rfl⟩;go_wp2_with fail
       refine (DC2.out _).mono ?_;rintro e w3 ⟨rfl,rfl⟩;go_wp2;go_ret;refine ⟨?_,rfl⟩;rw [HT.out,HN.out];rfl
     ·have DC2:=DC;rw [hd] at DC2
      have HN:Hid (nchr z=true):=by show _=_;simp [nchr,hl,hd]
      clear DC hl hd;go_wp2_with fail
      refine (LC2.out _).mono ?_;rintro e w2 ⟨rfl,rfl⟩;go_wp2_with fail
      refine (DC2.out _).mono ?_;rintro e w3 ⟨rfl,rfl⟩;go_wp2;go_roundw
      case rel =>
       refine ⟨i+1,by omega,by go_num,trivial,?_⟩;show _=_;rw [HT.out,HN.out,HR.out];rfl
      case measure=>simp [intOf];omega
    ·have LC2:=LC;rw [hl] at LC2
     have HN:Hid (nchr z=true):=by show _=_;simp [nchr,hl]
     clear LC hl;go_wp2_with fail
     refine (LC2.out _).mono ?_;rintro e w2 ⟨rfl,rfl⟩;go_wp2;go_roundw
     case rel =>
      refine ⟨i+1,by omega,by go_num,trivial,?_⟩;show _=_;rw [HT.out,HN.out,HR.out];rfl
     case measure=>simp [intOf];omega
   ·have e1:i=s.size:=by omega
    have HE:Hid (isNm s=true):=by show _=_;rw [HI.out,e1,Nat.sub_self];rfl
    have i2:¬(((i:Nat):Int)<((s.size:Nat):Int)):=by omega
    clear e1 HI;go_wp2;go_ret;refine ⟨?_,rfl⟩;rw [HE.out];rfl
def Sl (w:World) (ao:Option Addr) (k:Nat) (S:Nat→ByteArray):Prop :=
 ∀j,j<k→∃b o,ao=some ⟨b,o,none⟩∧w.cell? ⟨b,o+j,none⟩=some (.string (S j))∧(S j).size≤9223372036854775807
theorem Sl.below {w w' ao k S} (h:Sl w ao k S) (hb:Below w.heap.size w w'):Sl w' ao k S:=fun j hj=>by
 obtain ⟨b,o,e,h1,h2⟩:=h j hj;exact ⟨b,o,e,(hb.cell (World.block_lt_of_cell? w _ h1)).trans h1,h2⟩
def nms (S:Nat→ByteArray):Nat→Nat→Bool
 | 0,_=>true
 | r+1,i=>isNm (S i) && nms S r (i+1)
set_option maxRecDepth 100000 in
set_option maxHeartbeats 2000000 in
theorem allNames_c {w:World} {ao:Option Addr} {k cap:Nat} {S:Nat→ByteArray} (h:Sl w ao k S) (hk:k≤1048576) :
  Calls Tryz.prog 49 #[.slice ao k cap] w fun e w'=>e=.returned (.bool (nms S k 0))∧w'=w:=by
 have H:=hid h;clear h;go_enter Tryz.func49,Tryz.ntmps49;go_wp2_with fail
 go_loopw [7] (fun t wr=>∃(i:Nat),i≤k∧t=.int .i64 i∧wr=w∧Hid (nms S k 0=nms S (k-i) i)) (fun t _=>k-(intOf t).toNat)
 case atStart=>exact ⟨0,by omega,rfl,rfl,rfl⟩
 case round =>
  obtain ⟨i,hi,rfl,rfl,HI⟩:=hrel;by_cases hlt:i<k
  ·obtain ⟨b,o,rfl,hc,hz⟩:=H.out i hlt;obtain ⟨r,hr⟩:∃r,k-i=r+1:=⟨k-i-1,by omega⟩;have hT:nms S k 0=(isNm (S i) && nms S r (i+1)):=by rw [HI.out,hr];rfl
   have hr2:k-(i+1)=r:=by omega
   obtain ⟨z,hzz⟩:∃z,S i=z:=⟨_,rfl⟩;rw [hzz] at hT hc hz;have HT:=hid hT;have HR:=hid hr2
   have i1:((i:Nat):Int)<((k:Nat):Int):=by omega
   have NC:=hid (fun w=>isName_c (w:=w) hz);clear hT hr2 hr hzz hz;cases hl:isNm z
   ·have NC2:=NC;rw [hl] at NC2
    have HN:=hid hl;clear NC hl;go_wp2_with fail
    refine (NC2.out _).mono ?_;rintro e w2 ⟨rfl,rfl⟩;go_wp2;go_ret;refine ⟨?_,rfl⟩;rw [HT.out,HN.out];rfl
   ·have NC2:=NC;rw [hl] at NC2
    have HN:=hid hl;clear NC hl;go_wp2_with fail
    refine (NC2.out _).mono ?_;rintro e w2 ⟨rfl,rfl⟩;go_wp2;go_roundw
    case rel =>
     refine ⟨i+1,by omega,by go_num,trivial,?_⟩;show _=_;rw [HT.out,HN.out,HR.out];rfl
    case measure=>simp [intOf];omega
  ·have e1:i=k:=by omega
   have HE:Hid (nms S k 0=true):=by show _=_;rw [HI.out,e1,Nat.sub_self];rfl
   have i2:¬(((i:Nat):Int)<((k:Nat):Int)):=by omega
   clear e1 HI;go_wp2;go_ret;refine ⟨?_,rfl⟩;rw [HE.out];rfl
end Go.Proofs.YtankbgpcnljjdaaGreat
namespace Go.Proofs.YtankbgpcnljjdaaGreat
open Go.RowKit Go.MapKept Go.ChangeMaps
def Ens (es:Array MapEntry) (R:ByteArray→Int→Prop):Prop :=
 (∀x ∈ es.toList,∃k v,x.key=.string k∧x.val=.int .i64 v)∧∀k v,R k v ↔ ∃x ∈ es.toList,x.key=.string k∧x.val=.int .i64 v
def Ms (w:World) (b:Nat) (R:ByteArray→Int→Prop):Prop :=
 ∃es clock,w.heap[b]?=some (.map es clock)∧Stamped es clock∧Ens es R
theorem Ms.of {w w' b R} (h:Ms w b R) (e:w'.heap[b]?=w.heap[b]?):Ms w' b R:=by
 obtain ⟨es,c,h1,h2⟩:=h;exact ⟨es,c,e.trans h1,h2⟩
theorem Ms.lt {w b R} (h:Ms w b R):b<w.heap.size:=by
 obtain ⟨es,c,h1,_⟩:=h;exact (Array.getElem?_eq_some_iff.1 h1).1
theorem Ms.congr {w b R R'} (h:Ms w b R) (e:∀k v,R' k v ↔ R k v):Ms w b R':=by
 obtain ⟨es,c,h1,h2,h3,h4⟩:=h;exact ⟨es,c,h1,h2,h3,fun k v=>(e k v).trans (h4 k v)⟩
theorem Ens.key {es R} (h:Ens es R):∀x ∈ es.toList,IsKey .string x.key:=fun x hx=>by
 obtain ⟨k,v,e,_⟩:=h.1 x hx;rw [e];trivial
theorem nds_same {l:List MapEntry} (hn:(l.map (·.key)).Nodup) {x y:MapEntry} (hx:x ∈ l) (hy:y ∈ l) (e:x.key=y.key):x=y:=by
 induction l with
 | nil=>cases hx
 | cons a r ih =>
  simp only [List.map_cons,List.nodup_cons,List.mem_map,not_exists,not_and] at hn;rcases List.mem_cons.1 hx with h1 | h1 <;> rcases List.mem_cons.1 hy with h2 | h2
  ·rw [h1,h2]
  ·subst h1;exact absurd e.symm (hn.1 y h2)
  ·subst h2;exact absurd e (hn.1 x h1)
  ·exact ih hn.2 h1 h2
theorem Ms.fun {w b R} (h:Ms w b R) {k:ByteArray} {u v:Int} (hu:R k u) (hv:R k v):u=v:=by
 obtain ⟨es,c,_,hs,he⟩:=h;obtain ⟨x,hx,x1,x2⟩:=(he.2 k u).1 hu;obtain ⟨y,hy,y1,y2⟩:=(he.2 k v).1 hv;have:=nds_same hs.2.2 hx hy (x1.trans y1.symm);subst this;rw [x2] at y2;simpa using y2
theorem Ms.find {es:Array MapEntry} {R:ByteArray→Int→Prop} (he:Ens es R) (k:ByteArray) :
  (Instr.findNow .string (.string k) es.toList 0=some none∧(∀x ∈ es.toList,x.key≠.string k)∧∀v,¬R k v)∨∃j x v,Instr.findNow .string (.string k) es.toList 0=some (some (j,.int .i64 v))∧es[j]?=some x∧x ∈ es.toList∧x.key=.string k∧x.val=.int .i64 v∧R k v:=by
 rcases findNow_spec (d:=.string) (k:=.string k) trivial es.toList 0 he.key with ⟨h1,h2⟩ | ⟨j,x,h1,h2,h3⟩
 ·exact .inl ⟨h1,h2,fun v hv=>by
   obtain ⟨x,hx,x1,_⟩:=(he.2 k v).1 hv;exact h2 x hx x1⟩
 ·have hx:x ∈ es.toList:=List.mem_of_getElem? h2;obtain ⟨k',v,e1,e2⟩:=he.1 x hx;refine .inr ⟨j,x,v,?_,by simpa using h2,hx,h3,e2,(he.2 k v).2 ⟨x,hx,h3,e2⟩⟩;rw [h1,e2];simp
variable {P:Program} {t kt et:TypeId} {w:World} {b:Nat} {R:ByteArray→Int→Prop} {k:ByteArray} {v:Int}
theorem Ms.look (h:Ms w b R) (hm:P.underlying t=some (.map kt et)) (hd:P.underlying kt=some .string) (hv:R k v) (ok:Bool) :
  (Instr.lookup t (.map (some b)) (.string k) ok).run P w=.ok (if ok then .tuple #[.int .i64 v,.bool true] else .int .i64 v) w:=by
 have hf:=h;obtain ⟨es,c,hb,hs,he⟩:=h;rcases Ms.find he k with ⟨_,_,h3⟩ | ⟨j,x,v',h1,_,_,_,_,hr⟩
 ·exact absurd hv (h3 v)
 ·have e:=hf.fun hr hv
  subst e;simp [Instr.lookup,run_underlying hm,MapKept.run_getObj_map hb,run_checkKey hd (show IsKey .string (.string k) from trivial),run_findKey hd h1,Result.andThen]
theorem Ms.miss (h:Ms w b R) (hm:P.underlying t=some (.map kt et)) (hd:P.underlying kt=some .string) (hz:(zeroValue et).run P w=.ok (.int .i64 0) w) (hv:∀v,¬R k v) (ok:Bool) :
  (Instr.lookup t (.map (some b)) (.string k) ok).run P w=.ok (if ok then .tuple #[.int .i64 0,.bool false] else .int .i64 0) w:=by
 obtain ⟨es,c,hb,hs,he⟩:=h;rcases Ms.find he k with ⟨h1,_,_⟩ | ⟨j,x,v',h1,_,_,_,_,hr⟩
 ·simp [Instr.lookup,run_underlying hm,MapKept.run_getObj_map hb,run_checkKey hd (show IsKey .string (.string k) from trivial),run_findKey hd h1,hz,Result.andThen]
 ·exact absurd hr (hv v')
def putS (R:ByteArray→Int→Prop) (k:ByteArray) (v:Int):ByteArray→Int→Prop:=fun k' v'=>(k'=k∧v'=v)∨(k'≠k∧R k' v')
structure Ons (b:Nat) (w w':World):Prop where
 os:w'.os=w.os
 tape:w'.tape=w.tape
 output:w'.output=w.output
 size:w'.heap.size=w.heap.size
 block:∀k,k≠b→w'.heap[k]?=w.heap[k]?
theorem ons_setBlock (w:World) (b:Nat) (o:Obj):Ons b w (setBlock w b o) :=
 ⟨rfl,rfl,rfl,by simp [setBlock],fun k hk=>by simp [setBlock,Ne.symm hk]⟩
theorem mems_modify {es:Array MapEntry} {j:Nat} {x:MapEntry} {f:MapEntry→MapEntry} (hj:es[j]?=some x) (hn:es.toList.Nodup) (y:MapEntry):y ∈ (es.modify j f).toList ↔ y=f x∨(y ∈ es.toList∧y≠x):=by
 have hl:es.toList[j]?=some x:=by simpa using hj
 constructor
 ·intro hy;obtain ⟨i,hi⟩:=List.getElem?_of_mem hy;simp only [Array.getElem?_toList,Array.getElem?_modify] at hi;by_cases e:j=i
  ·subst e;simp [hj] at hi;exact .inl hi.symm
  ·simp [e] at hi;refine .inr ⟨List.mem_of_getElem? (by simpa using hi),fun e2=>?_⟩;subst e2;have hlt:j<es.toList.length:=(List.getElem?_eq_some_iff.1 hl).1;exact e ((List.getElem?_inj hlt hn).1 (by rw [hl];simpa using hi.symm))
 ·rintro (rfl | ⟨hy,hne⟩)
  ·refine List.mem_of_getElem? (i:=j) ?_;simp [hj]
  ·obtain ⟨i,hi⟩:=List.getElem?_of_mem hy;refine List.mem_of_getElem? (i:=i) ?_;have:j≠i:=fun e=>by subst e;rw [hl] at hi;cases hi;exact hne rfl
   simp only [Array.getElem?_toList,Array.getElem?_modify,this,if_false];simpa using hi
theorem nds_of {es:Array MapEntry} {c:Nat} (hs:Stamped es c):es.toList.Nodup:=List.Pairwise.of_map (fun x:MapEntry=>x.key) (fun a b h e=>h (by rw [e])) hs.2.2
theorem ens_modify {es:Array MapEntry} {c:Nat} (hs:Stamped es c) (he:Ens es R) {j:Nat} {x:MapEntry} (hj:es[j]?=some x) (hk:x.key=.string k) (f:MapEntry→MapEntry) (f1:(f x).key=x.key) (f2:(f x).val=.int .i64 v) (f3:(f x).born=x.born) :
  Stamped (es.modify j f) c∧Ens (es.modify j f) (putS R k v):=by
 have hx:x ∈ es.toList:=List.mem_of_getElem? (i:=j) (by simpa using hj);have hn:=nds_of hs;have e0:es.modify j f=es.modify j (fun _=>f x):=by
  apply Array.ext_getElem?;intro i;simp only [Array.getElem?_modify];by_cases e:j=i
  ·subst e;simp [hj]
  ·simp [e]
 refine ⟨?_,?_,fun k' v'=>?_⟩
 ·rw [e0];have hb:(es.modify j (fun _=>f x)).toList.map (·.born)=es.toList.map (·.born):=by
   apply List.ext_getElem?;intro i;simp only [List.getElem?_map,Array.getElem?_toList,Array.getElem?_modify];by_cases e:j=i
   ·subst e;simp [hj,f3]
   ·simp [e]
  have hk':=modify_keys (es:=es) j (fun _=>f x) (fun e he'=>by rw [hj] at he';cases he';exact f1);refine ⟨fun y hy=>?_,hb ▸ hs.2.1,hk' ▸ hs.2.2⟩;have:y.born ∈ es.toList.map (·.born):=hb ▸ List.mem_map_of_mem hy;obtain ⟨z,hz,e⟩:=List.mem_map.1 this;rw [←e];exact hs.1 z hz
 ·intro y hy;rcases (mems_modify hj hn y).1 hy with rfl | ⟨h1,_⟩
  ·exact ⟨k,v,f1.trans hk,f2⟩
  ·exact he.1 y h1
 ·constructor
  ·rintro (⟨rfl,rfl⟩ | ⟨hne,hr⟩)
   ·exact ⟨f x,(mems_modify hj hn _).2 (.inl rfl),f1.trans hk,f2⟩
   ·obtain ⟨y,hy,y1,y2⟩:=(he.2 k' v').1 hr;refine ⟨y,(mems_modify hj hn _).2 (.inr ⟨hy,fun e=>?_⟩),y1,y2⟩;subst e;rw [hk] at y1;simp at y1;exact hne y1.symm
  ·rintro ⟨y,hy,y1,y2⟩;rcases (mems_modify hj hn y).1 hy with rfl | ⟨h1,h2⟩
   ·rw [f1,hk] at y1;rw [f2] at y2
    simp at y1 y2;exact .inl ⟨y1.symm,y2.symm⟩
   ·refine .inr ⟨fun e=>?_,(he.2 k' v').2 ⟨y,h1,y1,y2⟩⟩;subst e;exact h2 (nds_same hs.2.2 h1 hx (y1.trans hk.symm))
theorem Ms.update (h:Ms w b R) (hm:P.underlying t=some (.map kt et)) (hd:P.underlying kt=some .string) (k:ByteArray) (v:Int) :
  ∃w',(Instr.mapUpdate t (.map (some b)) (.string k) (.int .i64 v)).run P w=.ok () w'∧Ms w' b (putS R k v)∧Ons b w w':=by
 obtain ⟨es,c,hb,hs,he⟩:=h;have hK:IsKey .string (.string k):=trivial;rcases Ms.find he k with ⟨h1,h2,h3⟩ | ⟨j,x,v',h1,hj,hx,hk,_,hr⟩
 ·refine ⟨setBlock w b (.map (es.push ⟨.string k,.int .i64 v,c⟩) (c+1)),?_,⟨_,_,heap_setBlock_same hb _,stamped_push hs h2,?_,fun k' u=>?_⟩,ons_setBlock _ _ _⟩
  ·simp [Instr.mapUpdate,run_underlying hm,MapKept.run_getObj_map hb,run_checkKey hd hK,run_findKey hd h1,run_setObj_map _ hb,Result.andThen,setBlock]
  ·intro y hy;simp only [Array.toList_push,List.mem_append,List.mem_singleton] at hy;rcases hy with hy | rfl
   ·exact he.1 y hy
   ·exact ⟨_,_,rfl,rfl⟩
  ·simp only [Array.toList_push,List.mem_append,List.mem_singleton];constructor
   ·rintro (⟨rfl,rfl⟩ | ⟨_,hr⟩)
    ·exact ⟨_,.inr rfl,rfl,rfl⟩
    ·obtain ⟨y,hy,y1,y2⟩:=(he.2 k' u).1 hr;exact ⟨y,.inl hy,y1,y2⟩
   ·rintro ⟨y,hy | rfl,y1,y2⟩
    ·refine .inr ⟨fun e=>?_,(he.2 k' u).2 ⟨y,hy,y1,y2⟩⟩;subst e;exact h2 y hy y1
    ·simp at y1 y2;exact .inl ⟨y1.symm,y2.symm⟩
 ·have hm':=ens_modify (k:=k) (v:=v) hs he hj hk (fun e=>{ e with key:=.string k,val:=.int .i64 v }) hk.symm rfl rfl;refine ⟨setBlock w b (.map (es.modify j fun e=>{ e with key:=.string k,val:=.int .i64 v }) c),?_,⟨_,_,heap_setBlock_same hb _,hm'.1,hm'.2⟩,ons_setBlock _ _ _⟩;simp [Instr.mapUpdate,run_underlying hm,MapKept.run_getObj_map hb,run_checkKey hd hK,run_findKey hd h1,hj,hk,run_keyThatStays hK,run_setObj_map _ hb,Result.andThen,setBlock]
theorem ms_made (w:World):Ms (w.alloc (.map #[] 0)) w.heap.size (fun _ _=>False) :=
 ⟨#[],0,(MapKept.heap_alloc w _).1,stamped_empty 0,by simp,fun k v=>by simp⟩
def sawB (S:Nat→ByteArray) (i:Nat):Bool:=(List.range i).any fun j=>decide (S j=S i)
def twr (S:Nat→ByteArray):Nat→Nat→Bool
 | 0,_=>false
 | r+1,i=>sawB S i || twr S r (i+1)
def sawQ (S:Nat→ByteArray) (i:Nat):ByteArray→Int→Prop:=fun k v=>v=1∧∃j,j<i∧S j=k
theorem sawB_iff (S:Nat→ByteArray) (i:Nat):sawB S i=true ↔ ∃j,j<i∧S j=S i:=by
 simp [sawB]
theorem zeroS (w:World):(zeroValue 3).run Tryz.prog w=.ok (.int .i64 0) w:=by kernel_rfl
set_option maxRecDepth 100000 in
set_option maxHeartbeats 2000000 in
theorem anyTwice_c {w:World} {ao:Option Addr} {k cap:Nat} {S:Nat→ByteArray} (h:Sl w ao k S) (hk:k≤1048576) :
  Calls Tryz.prog 50 #[.slice ao k cap] w fun e w'=>e=.returned (.bool (twr S k 0))∧Below w.heap.size w w':=by
 have H:=hid h;clear h;have hmm:∀W,(Instr.makeMap 122 (some (.int .i64 (k:Int)))).run Tryz.prog W=.ok (.map (some W.heap.size)) (W.alloc (.map #[] 0)):=fun W=>by simp [Instr.makeMap,run_underlying Tryz.underlying122,asInt,asIntOf,Result.andThen]
 go_enter Tryz.func50,Tryz.ntmps50;go_wp2_with fail
 go_loopw [11] (fun t wr=>∃(i:Nat),i≤k∧t=.int .i64 i∧Hid (Below w.heap.size w wr)∧Hid (Ms wr w.heap.size (sawQ S i))∧Hid (twr S k 0=twr S (k-i) i)) (fun t _=>k-(intOf t).toNat)
 case atStart=>exact ⟨0,by omega,rfl,below_alloc (Below.refl _ _) _,(ms_made w).congr (fun k v=>by simp [sawQ]),rfl⟩
 case round =>
  obtain ⟨i,hi,rfl,HB,HM,HI⟩:=hrel;by_cases hlt:i<k
  ·obtain ⟨b,o,rfl,hc,hz⟩:=(H.out.below HB.out) i hlt;obtain ⟨r,hr⟩:∃r,k-i=r+1:=⟨k-i-1,by omega⟩;have hT:twr S k 0=(sawB S i || twr S r (i+1)):=by rw [HI.out,hr];rfl
   have hr2:k-(i+1)=r:=by omega
   have hS:=sawB_iff S i;obtain ⟨z,hzz⟩:∃z,S i=z:=⟨_,rfl⟩;rw [hzz] at hc;have HT:=hid hT;have HR:=hid hr2;have HZZ:=hid hzz
   have i1:((i:Nat):Int)<((k:Nat):Int):=by omega
   cases hl:sawB S i
   ·rw [hl] at hS;have hno:∀v,¬sawQ S i z v:=fun v hv=>by
     obtain ⟨_,j,hj,e⟩:=hv;exact absurd (hS.2 ⟨j,hj,e.trans hzz.symm⟩) (by simp)
    have e1:=HM.out.miss (P:=Tryz.prog) (t:=122) Tryz.underlying122 Tryz.underlying9 (zeroS wr) (k:=z) hno false;obtain ⟨w2,e2,M2,O2⟩:=HM.out.update (P:=Tryz.prog) (t:=122) Tryz.underlying122 Tryz.underlying9 z 1;have e3:=M2.look (P:=Tryz.prog) (t:=122) Tryz.underlying122 Tryz.underlying9 (k:=z) (v:=1) (Or.inl ⟨rfl,rfl⟩) false;have HB2:Hid (Below w.heap.size w w2):=⟨O2.os.trans HB.out.os,O2.tape.trans HB.out.tape,O2.output.trans HB.out.output,by have:=HB.out.size;have:=O2.size;omega,fun j hj=>(O2.block j (by omega)).trans (HB.out.block j hj)⟩;have HM2:Hid (Ms w2 w.heap.size (sawQ S (i+1))):=M2.congr fun k' v'=>by
     constructor
     ·rintro ⟨rfl,j,hj,rfl⟩;by_cases e:S j=z
      ·exact .inl ⟨e,rfl⟩
      ·refine .inr ⟨e,rfl,j,?_,rfl⟩;rcases Nat.lt_or_ge j i with h | h
       ·exact h
       ·exact absurd (by rw [show j=i by omega];exact hzz) e
     ·rintro (⟨rfl,rfl⟩ | ⟨_,rfl,j,hj,rfl⟩)
      ·exact ⟨rfl,i,by omega,hzz⟩
      ·exact ⟨rfl,j,by omega,rfl⟩
    have HL:=hid hl;clear hT hr2 hr hz hno hS hl M2 O2 hzz;go_wp2;go_roundw
    case rel =>
     refine ⟨i+1,by omega,by go_num,HB2.out,HM2.out,?_⟩;show _=_;rw [HT.out,HL.out,HR.out];rfl
    case measure=>simp [intOf];omega
   ·rw [hl] at hS;have hyes:sawQ S i z 1:=by
     obtain ⟨j,hj,e⟩:=hS.1 rfl;exact ⟨rfl,j,hj,e.trans hzz⟩
    have e1:=HM.out.look (P:=Tryz.prog) (t:=122) Tryz.underlying122 Tryz.underlying9 (k:=z) hyes false;obtain ⟨w2,e2,M2,O2⟩:=HM.out.update (P:=Tryz.prog) (t:=122) Tryz.underlying122 Tryz.underlying9 z 2;have e3:=M2.look (P:=Tryz.prog) (t:=122) Tryz.underlying122 Tryz.underlying9 (k:=z) (v:=2) (Or.inl ⟨rfl,rfl⟩) false;have HB2:Hid (Below w.heap.size w w2):=⟨O2.os.trans HB.out.os,O2.tape.trans HB.out.tape,O2.output.trans HB.out.output,by have:=HB.out.size;have:=O2.size;omega,fun j hj=>(O2.block j (by omega)).trans (HB.out.block j hj)⟩;have HL:=hid hl;clear hT hr2 hr hz hyes hS hl M2 O2 hzz;go_wp2;go_ret;refine ⟨?_,HB2.out⟩;rw [HT.out,HL.out];rfl
  ·have e1:i=k:=by omega
   have HE:Hid (twr S k 0=false):=by show _=_;rw [HI.out,e1,Nat.sub_self];rfl
   have i2:¬(((i:Nat):Int)<((k:Nat):Int)):=by omega
   clear e1 HI;go_wp2;go_ret;refine ⟨?_,HB.out⟩;rw [HE.out];rfl
end Go.Proofs.YtankbgpcnljjdaaGreat
namespace Go.Proofs.YtankbgpcnljjdaaGreat
open Go.RowKit
structure Ex where
 i:Int
 v:Nm
def NmS (w:World) (t:Nm):Prop:=Rw w t.x t.n t.c t.f t.y t.m t.d t.g∧t.n≤65536∧t.m≤65536
theorem NmS.below {w w' t} (h:NmS w t) (hb:Below w.heap.size w w'):NmS w' t:=⟨h.1.below hb,h.2⟩
theorem NmS.alloc {w t} (h:NmS w t) (o:Obj):NmS (w.alloc o) t:=h.below (below_alloc (Below.refl _ _) o)
def exF (e:Ex):Bool:=efB e.i e.v.s e.v.f e.v.n e.v.g e.v.m
def abB (a b:Ex):Bool:=exF a && (exF b && (decide (a.i≠1) && decide (b.i ≠ -1)))
def Nm.val (t:Nm):Value:=.agg #[.bool t.s,.slice t.x t.n t.c,.slice t.y t.m t.d]
def Ex.val (e:Ex):Value:=.agg #[.int .i64 e.i,.bool e.v.s,.slice e.v.x e.v.n e.v.c,.slice e.v.y e.v.m e.v.d]
theorem eForm_x {w:World} {e:Ex} (h:NmS w e.v):Calls Tryz.prog 96 #[e.val] w fun r w'=>r=.returned (.bool (exF e))∧Below w.heap.size w w' :=
 eForm_b (i:=e.i) (s:=e.v.s) h.1 h.2.1 h.2.2
set_option maxRecDepth 100000 in
set_option maxHeartbeats 2000000 in
theorem areBounds_c {w:World} {a b:Ex} (ha:NmS w a.v) (hb:NmS w b.v):Calls Tryz.prog 73 #[a.val,b.val] w fun r w'=>r=.returned (.bool (abB a b))∧Below w.heap.size w w':=by
 have CA:=hid (fun w' (hw:Below w.heap.size w w')=>eForm_x (w:=w') (ha.below hw));have CB:=hid (fun w' (hw:Below w.heap.size w w')=>eForm_x (w:=w') (hb.below hw));obtain ⟨fa,hfa⟩:∃x,exF a=x:=⟨_,rfl⟩;obtain ⟨fb,hfb⟩:∃x,exF b=x:=⟨_,rfl⟩;have hR:abB a b=(fa && (fb && (decide (a.i≠1) && decide (b.i ≠ -1)))):=by simp only [abB,hfa,hfb]
 rw [hfa] at CA;rw [hfb] at CB;have HR:=hid hR;clear hR hfa hfb ha hb;obtain ⟨i,⟨s,x,n,c,f,y,m,d,g⟩⟩:=a;obtain ⟨j,⟨s2,x2,n2,c2,f2,y2,m2,d2,g2⟩⟩:=b;replace CA:Hid (∀w' (hw:Below w.heap.size w w'),Calls Tryz.prog 96 #[.agg #[.int .i64 i,.bool s,.slice x n c,.slice y m d]] w' fun r w2=>r=.returned (.bool fa)∧Below w'.heap.size w' w2):=CA;replace CB:Hid (∀w' (hw:Below w.heap.size w w'),Calls Tryz.prog 96 #[.agg #[.int .i64 j,.bool s2,.slice x2 n2 c2,.slice y2 m2 d2]] w' fun r w2=>r=.returned (.bool fb)∧Below w'.heap.size w' w2):=CB;replace HR:Hid (abB ⟨i,⟨s,x,n,c,f,y,m,d,g⟩⟩ ⟨j,⟨s2,x2,n2,c2,f2,y2,m2,d2,g2⟩⟩=(fa && (fb && (decide (i≠1) && decide (j ≠ -1))))):=HR;show Calls Tryz.prog 73 #[.agg #[.int .i64 i,.bool s,.slice x n c,.slice y m d],.agg #[.int .i64 j,.bool s2,.slice x2 n2 c2,.slice y2 m2 d2]] w _;go_enter Tryz.func73,Tryz.ntmps73;go_wp2_with fail
 have HB0:=hid (below_alloc (below_alloc (Below.refl w.heap.size w) (.cells #[.int .i64 i,.bool s,.slice x n c,.slice y m d] 41)) (.cells #[.int .i64 j,.bool s2,.slice x2 n2 c2,.slice y2 m2 d2] 41));refine (CA.out _ HB0.out).mono ?_;rintro r w1 ⟨rfl,hb1⟩;have x0:=kCb hb1 (a:=⟨w.heap.size,0,none⟩) (v:=.int .i64 i) (by simp [go_sem]);have b1:=bx4_new hb1;obtain ⟨_,y0,y1,y2',y3⟩:=b1;replace y0:w1.cell? ⟨w.heap.size+1,0,none⟩=some (.int .i64 j):=by simpa using y0
 replace y1:w1.cell? ⟨w.heap.size+1,1,none⟩=some (.bool s2):=by simpa using y1
 replace y2':w1.cell? ⟨w.heap.size+1,2,none⟩=some (.slice x2 n2 c2):=by simpa using y2'
 replace y3:w1.cell? ⟨w.heap.size+1,3,none⟩=some (.slice y2 m2 d2):=by simpa using y3
 have HB1:=hid (HB0.out.trans (hb1.mono HB0.out.size));clear hb1 HB0;cases fa
 ·go_wp2;go_ret;refine ⟨?_,HB1.out⟩;rw [HR.out];rfl
 ·go_wp2_with fail
  refine (CB.out _ HB1.out).mono ?_;rintro r w2 ⟨rfl,hb2⟩;have z0:=kCb hb2 x0;have u0:=kCb hb2 y0;have HB2:=hid (HB1.out.trans (hb2.mono HB1.out.size));clear hb2 HB1 x0 y0 y1 y2' y3;cases fb
  ·go_wp2;go_ret;refine ⟨?_,HB2.out⟩;rw [HR.out];rfl
  ·by_cases h1:i=1
   ·subst h1;go_wp2;go_ret;refine ⟨?_,HB2.out⟩;rw [HR.out];rfl
   ·have HI:=hid (show decide (i≠1)=true from by simp [h1]);by_cases h2:j=-1
    ·subst h2;go_wp2;go_ret;refine ⟨?_,HB2.out⟩;rw [HR.out,HI.out];rfl
    ·have HJ:=hid (show decide (j ≠ -1)=true from by simp [h2]);go_wp2;go_ret;refine ⟨?_,HB2.out⟩;rw [HR.out,HI.out,HJ.out];simp [h1,h2]
def Cs (w:World) (b o:Nat) (vs:List Value):Prop:=∀j v,vs[j]?=some v→w.cell? ⟨b,o+j,none⟩=some v
theorem Cs.below {w w' b o vs} (h:Cs w b o vs) (hb:Below w.heap.size w w'):Cs w' b o vs:=fun j v e=>kCb hb (h j v e)
structure Lc where
 nm:ByteArray
 cost:Nm
 lo:Ex
 hi:Ex
structure Lr where
 nm:ByteArray
 lo:Ex
 hi:Ex
 ta:Option Addr
 tk:Nat
 tc:Nat
 col:Nat→Int
 T:Nat→Nm
def Lc.vs (c:Lc):List Value:=[.string c.nm,.bool c.cost.s,.slice c.cost.x c.cost.n c.cost.c,.slice c.cost.y c.cost.m c.cost.d,.int .i64 c.lo.i,.bool c.lo.v.s,.slice c.lo.v.x c.lo.v.n c.lo.v.c,.slice c.lo.v.y c.lo.v.m c.lo.v.d,.int .i64 c.hi.i,.bool c.hi.v.s,.slice c.hi.v.x c.hi.v.n c.hi.v.c,.slice c.hi.v.y c.hi.v.m c.hi.v.d]
def Lr.vs (r:Lr):List Value:=[.string r.nm,.int .i64 r.lo.i,.bool r.lo.v.s,.slice r.lo.v.x r.lo.v.n r.lo.v.c,.slice r.lo.v.y r.lo.v.m r.lo.v.d,.int .i64 r.hi.i,.bool r.hi.v.s,.slice r.hi.v.x r.hi.v.n r.hi.v.c,.slice r.hi.v.y r.hi.v.m r.hi.v.d,.slice r.ta r.tk r.tc]
structure LcR (w:World) (c:Lc):Prop where
 cost:NmS w c.cost
 lo:NmS w c.lo.v
 hi:NmS w c.hi.v
 nm:c.nm.size≤9223372036854775807
structure LrR (w:World) (r:Lr):Prop where
 lo:NmS w r.lo.v
 hi:NmS w r.hi.v
 tl:Tl w r.ta r.tk r.col r.T
 tk:r.tk≤1048576
 nm:r.nm.size≤9223372036854775807
theorem LcR.below {w w' c} (h:LcR w c) (hb:Below w.heap.size w w'):LcR w' c:=⟨h.cost.below hb,h.lo.below hb,h.hi.below hb,h.nm⟩
theorem LrR.below {w w' c} (h:LrR w c) (hb:Below w.heap.size w w'):LrR w' c:=⟨h.lo.below hb,h.hi.below hb,h.tl.below hb,h.tk,h.nm⟩
def Cls (w:World) (ao:Option Addr) (k:Nat) (C:Nat→Lc):Prop:=∀j,j<k→∃b o,ao=some ⟨b,o,none⟩∧Cs w b (o+j*12) (C j).vs∧LcR w (C j)
def Rls (w:World) (ao:Option Addr) (k:Nat) (R:Nat→Lr):Prop:=∀j,j<k→∃b o,ao=some ⟨b,o,none⟩∧Cs w b (o+j*10) (R j).vs∧LrR w (R j)
theorem Cls.below {w w' ao k C} (h:Cls w ao k C) (hb:Below w.heap.size w w'):Cls w' ao k C:=fun j hj=>by
 obtain ⟨b,o,e,h1,h2⟩:=h j hj;exact ⟨b,o,e,h1.below hb,h2.below hb⟩
theorem Rls.below {w w' ao k R} (h:Rls w ao k R) (hb:Below w.heap.size w w'):Rls w' ao k R:=fun j hj=>by
 obtain ⟨b,o,e,h1,h2⟩:=h j hj;exact ⟨b,o,e,h1.below hb,h2.below hb⟩
structure Mo where
 off:Nm
 ca:Option Addr
 ck:Nat
 cc:Nat
 C:Nat→Lc
 ra:Option Addr
 rk:Nat
 rc:Nat
 R:Nat→Lr
def Mo.val (M:Mo):Value:=.agg #[.bool M.off.s,.slice M.off.x M.off.n M.off.c,.slice M.off.y M.off.m M.off.d,.slice M.ca M.ck M.cc,.slice M.ra M.rk M.rc]
structure MoR (w:World) (M:Mo):Prop where
 off:NmS w M.off
 cls:Cls w M.ca M.ck M.C
 rls:Rls w M.ra M.rk M.R
 ck:M.ck≤1048576
 rk:M.rk≤1048576
theorem MoR.below {w w' M} (h:MoR w M) (hb:Below w.heap.size w w'):MoR w' M:=⟨h.off.below hb,h.cls.below hb,h.rls.below hb,h.ck,h.rk⟩
def clsB (C:Nat→Lc):Nat→Nat→Bool
 | 0,_=>true
 | r+1,i=>nfB (C i).cost && (abB (C i).lo (C i).hi && clsB C r (i+1))
def rlsB (R:Nat→Lr):Nat→Nat→Bool
 | 0,_=>true
 | r+1,i=>abB (R i).lo (R i).hi && (tfB (R i).tk (R i).col (R i).T && rlsB R r (i+1))
def moF (M:Mo):Bool:=nfB M.off && (clsB M.C M.ck 0 && rlsB M.R M.rk 0)
theorem rForm_x {w:World} {t:Nm} (h:NmS w t):Calls Tryz.prog 63 #[t.val] w fun r w'=>r=.returned (.bool (nfB t))∧Below w.heap.size w w' :=
 rForm_c (s:=t.s) h.1 (by have:=h.2.1;omega) (by have:=h.2.2;omega)
set_option maxRecDepth 100000 in
set_option maxHeartbeats 4000000 in
theorem inForm_c {w:World} {M:Mo} (h:MoR w M):Calls Tryz.prog 48 #[M.val] w fun r w'=>r=.returned (.bool (moF M))∧Below w.heap.size w w':=by
 obtain ⟨⟨s,x,n,c,f,y,m,d,g⟩,ca,ck,cc,C,ra,rk,rc,R⟩:=M;obtain ⟨ho,hC,hR,hck,hrk⟩:=h;replace hck:ck≤1048576:=hck;replace hrk:rk≤1048576:=hrk;have HC:Hid (Cls w ca ck C):=hC;have HRL:Hid (Rls w ra rk R):=hR;have CF:=hid (fun w' (hw:Below w.heap.size w w')=>rForm_x (w:=w') (ho.below hw));obtain ⟨fo,hfo⟩:∃z,nfB ⟨s,x,n,c,f,y,m,d,g⟩=z:=⟨_,rfl⟩;rw [hfo] at CF;replace CF:Hid (∀w' (hw:Below w.heap.size w w'),Calls Tryz.prog 63 #[.agg #[.bool s,.slice x n c,.slice y m d]] w' fun r w2=>r=.returned (.bool fo)∧Below w'.heap.size w' w2):=CF;obtain ⟨ans,hans⟩:∃z,moF ⟨⟨s,x,n,c,f,y,m,d,g⟩,ca,ck,cc,C,ra,rk,rc,R⟩=z:=⟨_,rfl⟩;rw [hans];have hF:ans=(fo && (clsB C ck 0 && rlsB R rk 0)):=by rw [←hans,←hfo];rfl
 have HF:=hid hF;clear hF hans hfo ho hC hR;show Calls Tryz.prog 48 #[.agg #[.bool s,.slice x n c,.slice y m d,.slice ca ck cc,.slice ra rk rc]] w _;go_enter Tryz.func48,Tryz.ntmps48;go_wp2_with fail
 have HB0:=hid (below_alloc (Below.refl w.heap.size w) (.cells #[.bool s,.slice x n c,.slice y m d,.slice ca ck cc,.slice ra rk rc] 28));refine (CF.out _ HB0.out).mono ?_;rintro r w1 ⟨rfl,hb1⟩;have k3:=kCb hb1 (a:=⟨w.heap.size,3,none⟩) (v:=.slice ca ck cc) (by simp [go_sem]);have k4:=kCb hb1 (a:=⟨w.heap.size,4,none⟩) (v:=.slice ra rk rc) (by simp [go_sem]);have HB1:=hid (HB0.out.trans (hb1.mono HB0.out.size));clear hb1 HB0 CF;cases fo
 ·go_wp2;go_ret;refine ⟨?_,HB1.out⟩;rw [HF.out];rfl
 have HK4:=hid k4;clear k4;go_wp2_with fail
 go_loopw [14] (fun t wr=>∃(i:Nat),i≤ck∧t=.int .i64 i∧Hid (Below w1.heap.size w1 wr)∧Hid (ans=(clsB C (ck-i) i && rlsB R rk 0))) (fun t _=>ck-(intOf t).toNat)
 case atStart=>exact ⟨0,by omega,rfl,Below.refl _ _,by show _=_;rw [HF.out];rfl⟩
 case round =>
  obtain ⟨i,hi,rfl,HB,HI⟩:=hrel;by_cases hlt:i<ck
  ·obtain ⟨b,o,rfl,hc,hn⟩:=(HC.out.below (HB1.out.trans (HB.out.mono HB1.out.size))) i hlt;obtain ⟨r,hr⟩:∃r,ck-i=r+1:=⟨ck-i-1,by omega⟩;obtain ⟨⟨z,⟨s0,x0,n0,c0,f0,y0,m0,d0,g0⟩,⟨i1,⟨s1,x1,n1,c1,f1,y1,m1,d1,g1⟩⟩,⟨i2,⟨s2,x2,n2,c2,f2,y2,m2,d2,g2⟩⟩⟩,hCi⟩:∃t,C i=t:=⟨_,rfl⟩;obtain ⟨t1,ht1⟩:∃t,nfB (C i).cost=t:=⟨_,rfl⟩;obtain ⟨t2,ht2⟩:∃t,abB (C i).lo (C i).hi=t:=⟨_,rfl⟩;have hT:ans=((t1 && (t2 && clsB C r (i+1))) && rlsB R rk 0):=by rw [HI.out,hr,←ht1,←ht2];rfl
   have hr2:ck-(i+1)=r:=by omega
   have C1:=hid (fun w' (hw:Below wr.heap.size wr w')=>rForm_x (w:=w') (hn.cost.below hw));have C2:=hid (fun w' (hw:Below wr.heap.size wr w')=>areBounds_c (w:=w') (hn.lo.below hw) (hn.hi.below hw));rw [ht1] at C1;rw [ht2] at C2;rw [hCi] at hc C1 C2;replace C1:Hid (∀w' (hw:Below wr.heap.size wr w'),Calls Tryz.prog 63 #[.agg #[.bool s0,.slice x0 n0 c0,.slice y0 m0 d0]] w' fun r w2=>r=.returned (.bool t1)∧Below w'.heap.size w' w2):=C1;replace C2:Hid (∀w' (hw:Below wr.heap.size wr w'),Calls Tryz.prog 73 #[.agg #[.int .i64 i1,.bool s1,.slice x1 n1 c1,.slice y1 m1 d1],.agg #[.int .i64 i2,.bool s2,.slice x2 n2 c2,.slice y2 m2 d2]] w' fun r w2=>r=.returned (.bool t2)∧Below w'.heap.size w' w2):=C2;have q0:wr.cell? ⟨b,o+i*12,none⟩=some (.string z):=hc 0 _ rfl;have q1:wr.cell? ⟨b,o+i*12+1,none⟩=some (.bool s0):=hc 1 _ rfl;have q2:wr.cell? ⟨b,o+i*12+2,none⟩=some (.slice x0 n0 c0):=hc 2 _ rfl;have q3:wr.cell? ⟨b,o+i*12+3,none⟩=some (.slice y0 m0 d0):=hc 3 _ rfl;have q4:wr.cell? ⟨b,o+i*12+4,none⟩=some (.int .i64 i1):=hc 4 _ rfl;have q5:wr.cell? ⟨b,o+i*12+5,none⟩=some (.bool s1):=hc 5 _ rfl;have q6:wr.cell? ⟨b,o+i*12+6,none⟩=some (.slice x1 n1 c1):=hc 6 _ rfl;have q7:wr.cell? ⟨b,o+i*12+7,none⟩=some (.slice y1 m1 d1):=hc 7 _ rfl;have q8:wr.cell? ⟨b,o+i*12+8,none⟩=some (.int .i64 i2):=hc 8 _ rfl;have q9:wr.cell? ⟨b,o+i*12+9,none⟩=some (.bool s2):=hc 9 _ rfl;have q10:wr.cell? ⟨b,o+i*12+10,none⟩=some (.slice x2 n2 c2):=hc 10 _ rfl;have q11:wr.cell? ⟨b,o+i*12+11,none⟩=some (.slice y2 m2 d2):=hc 11 _ rfl;have HT:=hid hT;have HR:=hid hr2
   have i1':((i:Nat):Int)<((ck:Nat):Int):=by omega
   clear hT hr2 hr hCi ht1 ht2 hc hn;go_wp2_with fail
   have HB2:=hid (below_alloc (Below.refl wr.heap.size wr) (.cells #[.string z,.bool s0,.slice x0 n0 c0,.slice y0 m0 d0,.int .i64 i1,.bool s1,.slice x1 n1 c1,.slice y1 m1 d1,.int .i64 i2,.bool s2,.slice x2 n2 c2,.slice y2 m2 d2] 58));refine (C1.out _ HB2.out).mono ?_;rintro r w2 ⟨rfl,hb2⟩;have u4:=kCb hb2 (a:=⟨wr.heap.size,4,none⟩) (v:=.int .i64 i1) (by simp [go_sem]);have u5:=kCb hb2 (a:=⟨wr.heap.size,5,none⟩) (v:=.bool s1) (by simp [go_sem]);have u6:=kCb hb2 (a:=⟨wr.heap.size,6,none⟩) (v:=.slice x1 n1 c1) (by simp [go_sem]);have u7:=kCb hb2 (a:=⟨wr.heap.size,7,none⟩) (v:=.slice y1 m1 d1) (by simp [go_sem]);have u8:=kCb hb2 (a:=⟨wr.heap.size,8,none⟩) (v:=.int .i64 i2) (by simp [go_sem]);have u9:=kCb hb2 (a:=⟨wr.heap.size,9,none⟩) (v:=.bool s2) (by simp [go_sem]);have u10:=kCb hb2 (a:=⟨wr.heap.size,10,none⟩) (v:=.slice x2 n2 c2) (by simp [go_sem]);have u11:=kCb hb2 (a:=⟨wr.heap.size,11,none⟩) (v:=.slice y2 m2 d2) (by simp [go_sem]);have HB3:=hid (HB2.out.trans (hb2.mono HB2.out.size));clear hb2 HB2 C1;cases t1
   ·go_wp2;go_ret;refine ⟨?_,HB1.out.trans ((HB.out.trans (HB3.out.mono HB.out.size)).mono HB1.out.size)⟩;rw [HT.out];rfl
   ·go_wp2_with fail
    refine (C2.out _ HB3.out).mono ?_;rintro r w3 ⟨rfl,hb3⟩;have HB4:=hid (HB.out.trans ((HB3.out.trans (hb3.mono HB3.out.size)).mono HB.out.size));clear hb3 HB3 C2;cases t2
    ·go_wp2;go_ret;refine ⟨?_,HB1.out.trans (HB4.out.mono HB1.out.size)⟩;rw [HT.out];rfl
    ·go_wp2;go_roundw
     case rel =>
      refine ⟨i+1,by omega,by go_num,HB4.out,?_⟩;show _=_;rw [HT.out,HR.out];rfl
     case measure=>simp [intOf];omega
  ·have e1:i=ck:=by omega
   have HE:Hid (ans=rlsB R rk 0):=by show _=_;rw [HI.out,e1,Nat.sub_self];rfl
   have i2:¬(((i:Nat):Int)<((ck:Nat):Int)):=by omega
   have k4:=kCb HB.out HK4.out;have HB5:=hid (HB1.out.trans (HB.out.mono HB1.out.size));clear e1 HI HB HC HK4 HB1 k3;generalize wr=wa at *;go_wp2_with fail
   go_loopw [34] (fun t wr'=>∃(i:Nat),i≤rk∧t=.int .i64 i∧Hid (Below wa.heap.size wa wr')∧Hid (ans=rlsB R (rk-i) i)) (fun t _=>rk-(intOf t).toNat)
   case atStart=>exact ⟨0,by omega,rfl,Below.refl _ _,by show _=_;rw [HE.out];rfl⟩
   case round =>
    obtain ⟨i,hi,rfl,HB,HI⟩:=hrel;by_cases hlt:i<rk
    ·obtain ⟨b,o,rfl,hc,hn⟩:=(HRL.out.below (HB5.out.trans (HB.out.mono HB5.out.size))) i hlt;obtain ⟨r,hr⟩:∃r,rk-i=r+1:=⟨rk-i-1,by omega⟩;obtain ⟨⟨z,⟨i1,⟨s1,x1,n1,c1,f1,y1,m1,d1,g1⟩⟩,⟨i2,⟨s2,x2,n2,c2,f2,y2,m2,d2,g2⟩⟩,ta,tk,tc,tcol,tt⟩,hCi⟩:∃t,R i=t:=⟨_,rfl⟩;obtain ⟨t1,ht1⟩:∃t,abB (R i).lo (R i).hi=t:=⟨_,rfl⟩;obtain ⟨t2,ht2⟩:∃t,tfB (R i).tk (R i).col (R i).T=t:=⟨_,rfl⟩;have hT:ans=(t1 && (t2 && rlsB R r (i+1))):=by rw [HI.out,hr,←ht1,←ht2];rfl
     have hr2:rk-(i+1)=r:=by omega
     have C1:=hid (fun w' (hw:Below wr.heap.size wr w')=>areBounds_c (w:=w') (hn.lo.below hw) (hn.hi.below hw));have C2:=hid (fun w' (hw:Below wr.heap.size wr w')=>vForm_c (w:=w') (cap:=(R i).tc) (hn.tl.below hw) hn.tk);rw [ht1] at C1;rw [ht2] at C2;rw [hCi] at hc C1 C2;replace C1:Hid (∀w' (hw:Below wr.heap.size wr w'),Calls Tryz.prog 73 #[.agg #[.int .i64 i1,.bool s1,.slice x1 n1 c1,.slice y1 m1 d1],.agg #[.int .i64 i2,.bool s2,.slice x2 n2 c2,.slice y2 m2 d2]] w' fun r w2=>r=.returned (.bool t1)∧Below w'.heap.size w' w2):=C1;replace C2:Hid (∀w' (hw:Below wr.heap.size wr w'),Calls Tryz.prog 74 #[.slice ta tk tc] w' fun r w2=>r=.returned (.bool t2)∧Below w'.heap.size w' w2):=C2;have q0:wr.cell? ⟨b,o+i*10,none⟩=some (.string z):=hc 0 _ rfl;have q1:wr.cell? ⟨b,o+i*10+1,none⟩=some (.int .i64 i1):=hc 1 _ rfl;have q2:wr.cell? ⟨b,o+i*10+2,none⟩=some (.bool s1):=hc 2 _ rfl;have q3:wr.cell? ⟨b,o+i*10+3,none⟩=some (.slice x1 n1 c1):=hc 3 _ rfl;have q4:wr.cell? ⟨b,o+i*10+4,none⟩=some (.slice y1 m1 d1):=hc 4 _ rfl;have q5:wr.cell? ⟨b,o+i*10+5,none⟩=some (.int .i64 i2):=hc 5 _ rfl;have q6:wr.cell? ⟨b,o+i*10+6,none⟩=some (.bool s2):=hc 6 _ rfl;have q7:wr.cell? ⟨b,o+i*10+7,none⟩=some (.slice x2 n2 c2):=hc 7 _ rfl;have q8:wr.cell? ⟨b,o+i*10+8,none⟩=some (.slice y2 m2 d2):=hc 8 _ rfl;have q9:wr.cell? ⟨b,o+i*10+9,none⟩=some (.slice ta tk tc):=hc 9 _ rfl;have HT:=hid hT;have HR:=hid hr2
     have i1':((i:Nat):Int)<((rk:Nat):Int):=by omega
     clear hT hr2 hr hCi ht1 ht2 hc hn;go_wp2_with fail
     have HB2:=hid (below_alloc (Below.refl wr.heap.size wr) (.cells #[.string z,.int .i64 i1,.bool s1,.slice x1 n1 c1,.slice y1 m1 d1,.int .i64 i2,.bool s2,.slice x2 n2 c2,.slice y2 m2 d2,.slice ta tk tc] 61));refine (C1.out _ HB2.out).mono ?_;rintro r w2 ⟨rfl,hb2⟩;have u9:=kCb hb2 (a:=⟨wr.heap.size,9,none⟩) (v:=.slice ta tk tc) (by simp [go_sem]);have HB3:=hid (HB2.out.trans (hb2.mono HB2.out.size));clear hb2 HB2 C1;cases t1
     ·go_wp2;go_ret;refine ⟨?_,HB5.out.trans ((HB.out.trans (HB3.out.mono HB.out.size)).mono HB5.out.size)⟩;rw [HT.out];rfl
     ·go_wp2_with fail
      refine (C2.out _ HB3.out).mono ?_;rintro r w3 ⟨rfl,hb3⟩;have HB4:=hid (HB.out.trans ((HB3.out.trans (hb3.mono HB3.out.size)).mono HB.out.size));clear hb3 HB3 C2;cases t2
      ·go_wp2;go_ret;refine ⟨?_,HB5.out.trans (HB4.out.mono HB5.out.size)⟩;rw [HT.out];rfl
      ·go_wp2;go_roundw
       case rel =>
        refine ⟨i+1,by omega,by go_num,HB4.out,?_⟩;show _=_;rw [HT.out,HR.out];rfl
       case measure=>simp [intOf];omega
    ·have e1:i=rk:=by omega
     have HE2:Hid (ans=true):=by show _=_;rw [HI.out,e1,Nat.sub_self];rfl
     have i2:¬(((i:Nat):Int)<((rk:Nat):Int)):=by omega
     have HB6:=hid (HB5.out.trans (HB.out.mono HB5.out.size));clear e1 HI HB;go_wp2;go_ret;refine ⟨?_,HB6.out⟩;rw [HE2.out];rfl
structure C3 (w:World) (b o:Nat) (a0 a1 a2:Value):Prop where
 x0:w.cell? ⟨b,o,none⟩=some a0
 x1:w.cell? ⟨b,o+1,none⟩=some a1
 x2:w.cell? ⟨b,o+2,none⟩=some a2
theorem C3.below {w w' b o a0 a1 a2} (h:C3 w b o a0 a1 a2) (hb:Below w.heap.size w w'):C3 w' b o a0 a1 a2:=⟨kCb hb h.x0,kCb hb h.x1,kCb hb h.x2⟩
def Rl (w:World) (ao:Option Addr) (k:Nat) (X:Nat→Nm):Prop :=
 ∀j,j<k→∃b o,ao=some ⟨b,o,none⟩∧C3 w b (o+j*3) (.bool (X j).s) (.slice (X j).x (X j).n (X j).c) (.slice (X j).y (X j).m (X j).d)∧NmR w (X j)
theorem Rl.below {w w' ao k X} (h:Rl w ao k X) (hb:Below w.heap.size w w'):Rl w' ao k X:=fun j hj=>by
 obtain ⟨b,o,e,h1,h2⟩:=h j hj;exact ⟨b,o,e,h1.below hb,h2.below hb⟩
def afr (X:Nat→Nm):Nat→Nat→Bool
 | 0,_=>true
 | r+1,i=>nfB (X i) && afr X r (i+1)
def afB (k:Nat) (X:Nat→Nm):Bool:=afr X k 0
theorem box3 {w w1:World} {a0 a1 a2:Value} {t:TypeId} (hb:Below (w.alloc (.cells #[a0,a1,a2] t)).heap.size (w.alloc (.cells #[a0,a1,a2] t)) w1):w.heap.size<w1.heap.size∧w1.cell? ⟨w.heap.size,0,none⟩=some a0∧w1.cell? ⟨w.heap.size,1,none⟩=some a1∧w1.cell? ⟨w.heap.size,2,none⟩=some a2∧Below w.heap.size w w1:=by
 have hz:=hb.size;simp at hz;exact ⟨by omega,kCb hb (by simp [go_sem]),kCb hb (by simp [go_sem]),kCb hb (by simp [go_sem]),(below_alloc (Below.refl _ w) _).trans (hb.mono (by simp))⟩
def NoU (cur:Array Value):Prop:=∀(i:Nat) (z:Int),cur[i]?≠some (Value.int .u64 z)
structure Kp (w w':World):Prop where
 os:w'.os=w.os
 tape:w'.tape=w.tape
 output:w'.output=w.output
 size:w.heap.size≤w'.heap.size
 block:∀k,k<w.heap.size→w'.heap[k]?=w.heap[k]?∨∃cur t fr,w.heap[k]?=some (.cells cur t fr)∧NoU cur
theorem Kp.refl (w:World):Kp w w:=⟨rfl,rfl,rfl,Nat.le_refl _,fun _ _=>.inl rfl⟩
theorem Kp.trans {a b c:World} (h:Kp a b) (k:Kp b c):Kp a c :=
 ⟨k.os.trans h.os,k.tape.trans h.tape,k.output.trans h.output,Nat.le_trans h.size k.size,fun i hi=>by
  rcases h.block i hi with e | e
  ·rcases k.block i (Nat.lt_of_lt_of_le hi h.size) with e2 | ⟨cur,t,fr,e2,e3⟩
   ·exact .inl (e2.trans e)
   ·exact .inr ⟨cur,t,fr,e.symm.trans e2,e3⟩
  ·exact .inr e⟩
theorem Kp.of_below {w w':World} (h:Below w.heap.size w w'):Kp w w':=⟨h.os,h.tape,h.output,h.size,fun k hk=>.inl (h.block k hk)⟩
theorem Kp.drew {a w:World} (h:Kp a w):Kp a w.drew:=⟨h.os,h.tape,h.output,h.size,h.block⟩
theorem Kp.drewN {a w:World} (h:Kp a w) (q:Nat):Kp a (w.drewN q):=⟨h.os,h.tape,h.output,h.size,h.block⟩
theorem Kp.alloc {a w:World} (h:Kp a w) (o:Obj):Kp a (w.alloc o):=h.trans (Kp.of_below (below_alloc (Below.refl _ _) o))
theorem Kp.set {a w:World} (h:Kp a w) {x:Addr} {cur:Array Value} {t:TypeId} {fr:Nat × Nat} (hx:w.heap[x.block]?=some (.cells cur t fr)) (hu:NoU cur) (u:Value):Kp a (w.setCell x u) :=
 h.trans ⟨rfl,rfl,rfl,by simp [World.setCell],fun k _=>by
  by_cases e:k=x.block
  ·subst e;exact .inr ⟨cur,t,fr,hx,hu⟩
  ·exact .inl (Below.heap_setCell _ _ _ _ e)⟩
theorem Rd.kp {w w' ao n f} (h:Rd .u64 w ao n f) (hk:Kp w w'):Rd .u64 w' ao n f:=fun j hj=>by
 obtain ⟨b,o,e,hc⟩:=h j hj;refine ⟨b,o,e,?_⟩;have hl:=World.block_lt_of_cell? w _ hc;rcases hk.block b hl with h1 | ⟨cur,t,fr,h1,h2⟩
 ·exact (World.cell?_of_block (a:=⟨b,o+j,none⟩) h1).trans hc
 ·exfalso;simp [World.cell?,h1] at hc;exact h2 _ _ hc
theorem Wn.kp {w w' s x n c f v} (h:Wn w s x n c f v) (hk:Kp w w'):Wn w' s x n c f v:=⟨h.rd.kp hk,h.lm,h.wf,h.cap,h.nil,h.val⟩
theorem Rn.kp {L w w' s x n c f y m d g q} (h:Rn L w s x n c f y m d g q) (hk:Kp w w'):Rn L w' s x n c f y m d g q:=⟨h.num.kp hk,h.den.kp hk,h.ln,h.ld⟩
def RowG (e:TypeId) (sz base:Nat) (w:World) (v:Value) (n:Nat) (xs:List Value):Prop :=
 xs.length=n*sz∧((v=.slice none 0 0∧n=0)∨∃g cap cur,v=.slice (some ⟨g,0,none⟩) n cap∧base≤g∧w.heap[g]?=some (.cells cur e (0,0))∧n≤cap∧cap≤maxLen∧cur.size=cap*sz∧cur.toList.take (n*sz)=xs∧NoU cur)
theorem rowG_nil (e:TypeId) (sz base:Nat) (w:World):RowG e sz base w (.slice none 0 0) 0 []:=⟨by simp,.inl ⟨rfl,rfl⟩⟩
theorem RowG.owns {e sz base w v n xs} (h:RowG e sz base w v n xs):w.ownsRow base e sz v n xs:=by
 obtain ⟨h1,h2⟩:=h;refine ⟨h1,?_⟩;rcases h2 with h2 | ⟨g,cap,cur,a,b,c,d,e1,f,g1,_⟩
 ·exact .inl h2
 ·exact .inr ⟨g,cap,cur,a,b,c,d,e1,f,g1⟩
theorem RowG.of {e sz base w w' v n xs} (h:RowG e sz base w v n xs) (hh:∀g,v.ownBlock=some g→w'.heap[g]?=w.heap[g]?):RowG e sz base w' v n xs:=by
 obtain ⟨h1,h2⟩:=h;refine ⟨h1,?_⟩;rcases h2 with h2 | ⟨g,cap,cur,rfl,b,c,d,e1,f,g1,k⟩
 ·exact .inl h2
 ·exact .inr ⟨g,cap,cur,rfl,b,(hh g rfl).trans c,d,e1,f,g1,k⟩
theorem RowG.lt {e sz base w v n xs} (h:RowG e sz base w v n xs):∀g,v.ownBlock=some g→base≤g∧g<w.heap.size:=by
 intro g0 hg0;rcases h.2 with ⟨rfl,_⟩ | ⟨g,cap,cur,rfl,b,c,_⟩
 ·cases hg0
 ·have:g=g0:=by simpa [Value.ownBlock] using hg0
  subst this;exact ⟨b,(Array.getElem?_eq_some_iff.1 c).1⟩
theorem RowG.below {e sz base w w' v n xs} (h:RowG e sz base w v n xs) (hb:Below w.heap.size w w'):RowG e sz base w' v n xs:=h.of (fun g hg=>hb.block g (h.lt g hg).2)
theorem RowG.cells {e sz base w n xs g cap} (h:RowG e sz base w (.slice (some ⟨g,0,none⟩) n cap) n xs) {j:Nat} {u:Value} (hu:xs[j]?=some u):w.cell? ⟨g,j,none⟩=some u:=by
 obtain ⟨h1,h2⟩:=h;rcases h2 with ⟨h2,_⟩ | ⟨g',cap',cur,hv,b,c,d,e1,f,g1,k⟩
 ·cases h2
 ·cases hv
  have:cur.toList[j]?=some u:=by
   rw [←g1] at hu;rw [List.getElem?_take] at hu
   split at hu
   ·exact hu
   ·cases hu
  simp [World.cell?,c];simpa using this
theorem nou_append {a b:Array Value} (ha:NoU a) (hb:NoU b):NoU (a++b):=fun i z h=>by
 rw [Array.getElem?_append] at h
 split at h
 ·exact ha _ _ h
 ·exact hb _ _ h
theorem nou_list {l:List Value} (h:∀u ∈ l,∀z,u≠.int .u64 z):NoU l.toArray:=fun i z he=>by
 rw [List.getElem?_toArray] at he;exact h _ (List.mem_of_getElem? he) z rfl
theorem nou_mem {a:Array Value} (h:NoU a):∀u ∈ a.toList,∀z,u≠.int .u64 z:=fun u hu z e=>by
 obtain ⟨i,hi⟩:=List.getElem?_of_mem hu;subst e;exact h i z (by simpa using hi)
theorem wpList_append_G {P:Program} (w:World) {ops:Array Oper} {rest:List Oper} {o:Oper} {a:Act} {Q:Exit→Act→World→Prop} (hgd:o.guard=none) (s x:Operand) (t:TypeId)
  (ho:o.op=.call { callee:=.builtin .append,args:=#[s,x],argTypes:=#[t,t] })
  (base:Nat) (e:TypeId) (i:TypeInfo) (z:Value) (size bytes:Nat) (ht:P.underlying t=some (.slice e)) (hi:P.info? e=some i) (hz:i.zero=some z)
  (hsize:i.size=size) (hby:i.bytes=bytes) (hzs:z.cells.size=size) (hsz:0<size) (hzu:NoU z.cells)
  (v:Value) (n:Nat) (xs:List Value) (hs:a.eval s=v) (hown:RowG e size base w v n xs)
  (ad:Addr) (m c:Nat) (news:List Value) (hx:a.eval x=.slice (some ad) m c) (hl:news.length=m*size) (hnews:∀j u,news[j]?=some u→w.cell? (ad.add j)=some u) (h1:∀u ∈ news,u.oneCell'=true) (hnu:∀u ∈ news,∀z,u≠.int .u64 z)
  (hm0:0<m) (h63:n+m≤maxLen) (hbytes:(n+m)*bytes≤140737488355328) (hbase:base≤w.heap.size)
  (hK:∀g cap' w',RowG e size base w' (.slice (some ⟨g,0,none⟩) (n+m) cap') (n+m) (xs++news)→w.grownBy w' v.ownBlock→Kp w w'→wpList P ops Q rest (a.put o.dst (.slice (some ⟨g,0,none⟩) (n+m) cap')) w'):wpList P ops Q (o :: rest) a w:=by
 subst hsize;subst hby
 obtain ⟨v',w',hrun,h1',h2',h3'⟩:=run_append_own (P:=P) w base t o.type e i z i.size i.bytes ht hi hz rfl rfl hzs hsz v n xs hown.owns ad m c news hl hnews h1 h63 hbytes hbase;have hlen:(xs++news).length=(n+m)*i.size:=by rw [List.length_append,hown.1,hl,Nat.add_mul]
 have hzc:∀k,NoU (Builtin.zeroCells z.cells k):=by
  intro k j y hj;simp only [Builtin.zeroCells] at hj;have hm:=Array.mem_of_getElem? hj;obtain ⟨q,_,he⟩:=Array.mem_map.1 hm;have hlt:q%z.cells.size<z.cells.size:=Nat.mod_lt _ (by omega);rw [getElem!_pos z.cells (q%z.cells.size) hlt] at he;exact hzu (q%z.cells.size) y (by rw [Array.getElem?_eq_getElem hlt,he])
 have hnu':NoU news.toArray:=nou_list hnu;have hw:∃g cap' cur',v'=.slice (some ⟨g,0,none⟩) (n+m) cap'∧base≤g∧w'.heap[g]?=some (.cells cur' e (0,0))∧n+m≤cap'∧cap'≤maxLen∧cur'.size=cap'*i.size∧cur'.toList.take ((n+m)*i.size)=xs++news∧NoU cur'∧Kp w w':=by
  have hsm:n+m≤9223372036854775807:=by unfold maxLen at h63;omega
  rcases h1'.2 with ⟨hv0,hn0⟩ | ⟨g',cap',cur',hv',hb',hg',hn',hc',hs',ht'⟩
  ·omega
  ·refine ⟨g',cap',cur',hv',hb',hg',hn',hc',hs',ht',?_⟩;rcases hown.2 with ⟨rfl,rfl⟩ | ⟨g,cap,cur,rfl,hbg,hg,hnc,hcm,hcs,htake,hnuc⟩
   ·have hx0:xs=[]:=List.eq_nil_of_length_eq_zero (by simpa using hown.1);subst hx0;have e1:=run_append_nil (P:=P) w t o.type e i z ht hi hz ad m c news hl hnews hm0 (by omega) (by rw [Nat.zero_add] at hbytes;omega);rw [e1] at hrun;injection hrun with e2 e3;subst e3;rw [hv'] at e2;injection e2 with e4;injection e4 with e5;injection e5 with e6;subst e6;have e7:=heap_alloc_new w.drew (.cells (news.toArray++Builtin.zeroCells z.cells (grownCap w m 0 e-m)) e);rw [show w.heap.size=w.drew.heap.size from rfl,e7] at hg';injection hg' with e8;injection e8 with e9;rw [←e9];exact ⟨nou_append hnu' (hzc _),(Kp.refl w).drew.alloc _⟩
   ·by_cases hroom:n+m≤cap
    ·have e1:=run_append_room (P:=P) w t o.type e i ht hi g n cap cur hg ad m c news hl hnews h1 hroom (by rw [hl,hcs,←Nat.add_mul];exact Nat.mul_le_mul_right _ hroom);rw [e1] at hrun;injection hrun with e2 e3;rw [hv'] at e2;injection e2 with e4;injection e4 with e5;injection e5 with e6;subst e6;have e7:w'.heap[g]?=some (.cells (cur.toList.take (n*i.size)++news++cur.toList.drop (n*i.size+news.length)).toArray e (0,0)):=by rw [←e3];exact setRow_heap w g cur _ e _ hg
     rw [e7] at hg';injection hg' with e8;injection e8 with e9;rw [←e9];refine ⟨nou_list ?_,h2'.os,h2'.tape,h2'.output,h2'.size,fun k hk=>?_⟩
     ·intro u hu;rcases List.mem_append.1 hu with hu | hu
      ·rcases List.mem_append.1 hu with hu | hu
       ·exact nou_mem hnuc u (List.mem_of_mem_take hu)
       ·exact hnu u hu
      ·exact nou_mem hnuc u (List.mem_of_mem_drop hu)
     ·by_cases hkg:k=g
      ·subst hkg;exact .inr ⟨cur,e,(0,0),hg,hnuc⟩
      ·exact .inl (h2'.block k hk (fun e=>hkg (by simpa [Value.ownBlock] using e)))
    ·have holds:∀j u,xs[j]?=some u→w.cell? ((⟨g,0,none⟩:Addr).add j)=some u:=World.ownsRow.cells hown.owns (g:=g) rfl;have e1:=run_append_grow (P:=P) w t o.type e i z ht hi hz ⟨g,0,none⟩ n cap xs hown.1 holds ad m c news hl hnews (by omega) (by omega) (growslice_fits (by omega) hbytes);rw [e1] at hrun;injection hrun with e2 e3;subst e3;rw [hv'] at e2;injection e2 with e4;injection e4 with e5;injection e5 with e6;subst e6;have e7:=heap_alloc_new w.drew (.cells (xs.toArray++news.toArray++Builtin.zeroCells z.cells (grownCap w (n+m) cap e-(n+m))) e);rw [show w.heap.size=w.drew.heap.size from rfl,e7] at hg';injection hg' with e8;injection e8 with e9;rw [←e9];refine ⟨nou_append (nou_append (nou_list ?_) hnu') (hzc _),(Kp.refl w).drew.alloc _⟩;intro u hu;rw [←htake] at hu;exact nou_mem hnuc u (List.mem_of_mem_take hu)
 obtain ⟨g,cap',cur',rfl,a1,a2,a3,a4,a5,a6,a7,a8⟩:=hw;refine wpList_plain hgd fun _ hK'=>?_
 unfold Oper.wp execOp;simp only [ho,resolve,invoke,builtin,Sem.run_bind,Sem.run_pure,Result.andThen_ok,List.map_toArray,List.map_cons,List.map_nil,hs,hx,hrun];exact hK' _ _ (hK g cap' w' ⟨hlen,.inr ⟨g,cap',cur',rfl,a1,a2,a3,a4,a5,a6,a7⟩⟩ h2' a8)
theorem Tryz.infoTerm:(Tryz.prog.info? 63).map (fun i=>(i.zero,i.size,i.bytes))=some (some (.agg #[.int .i64 0,.bool false,.slice none 0 0,.slice none 0 0]),4,64):=by kernel_rfl
def tcell (z:Int) (t:Nm):List Value:=[.int .i64 z,.bool t.s,.slice t.x t.n t.c,.slice t.y t.m t.d]
def tcells (l:List (Int × Nm)):List Value:=l.flatMap (fun p=>tcell p.1 p.2)
theorem tcells_append (l:List (Int × Nm)) (z:Int) (t:Nm):tcells (l++[(z,t)])=tcells l++tcell z t:=by simp [tcells]
theorem RowG.slice {e sz base w v n xs} (h:RowG e sz base w v n xs):∃ao cap,v=.slice ao n cap:=by
 rcases h.2 with ⟨rfl,rfl⟩ | ⟨g,cap,cur,rfl,_⟩
 ·exact ⟨none,0,rfl⟩
 ·exact ⟨_,cap,rfl⟩
def Tf (L:Nat) (w:World) (ao:Option Addr) (v:List (Int × Rat)):Prop :=
 ∀(j:Nat) (a:Int) (q:Rat),v[j]?=some (a,q)→∃b o,∃t:Nm,ao=some ⟨b,o,none⟩∧C4 w b (o+j*4) (.int .i64 a) (.bool t.s) (.slice t.x t.n t.c) (.slice t.y t.m t.d)∧Rn L w t.s t.x t.n t.c t.f t.y t.m t.d t.g q
theorem Tf.below {L w w' ao v} (h:Tf L w ao v) (hb:Below w.heap.size w w'):Tf L w' ao v:=fun j a q hj=>by
 obtain ⟨b,o,t,e,h1,h2⟩:=h j a q hj;exact ⟨b,o,t,e,h1.below hb,h2.below hb⟩
theorem Tf.nil (L:Nat) (w:World) (ao:Option Addr):Tf L w ao []:=fun j a q h=>by simp at h
theorem tcells_get {l:List (Int × Nm)} {j:Nat} {z:Int} {t:Nm} (h:l[j]?=some (z,t)) (i:Nat) (hi:i<4):(tcells l)[j*4+i]?=(tcell z t)[i]?:=by
 induction l generalizing j with
 | nil=>simp at h
 | cons p l ih =>
  have e1:tcells (p :: l)=tcell p.1 p.2++tcells l:=rfl;have e2:(tcell p.1 p.2).length=4:=rfl;cases j with
  | zero =>
   simp at h;subst h;rw [e1,List.getElem?_append_left (by rw [e2];omega),Nat.zero_mul,Nat.zero_add]
  | succ j =>
   rw [e1,List.getElem?_append_right (by rw [e2];omega),e2,show (j+1)*4+i-4=j*4+i by omega];exact ih (by simpa using h)
theorem tfr_all {col:Nat→Int} {T:Nat→Nm}:∀{r i:Nat} {last:Int},tfr col T r i last=true→(∀j,i≤j→j<i+r→last<col j∧nfB (T j)=true∧0<(T j).n)∧∀j k,i≤j→j<k→k<i+r→col j<col k:=by
 intro r
 induction r with
 | zero=>intro i last _;exact ⟨fun j h1 h2=>by omega,fun j k h1 h2 h3=>by omega⟩
 | succ r ih =>
  intro i last h;simp only [tfr,Bool.and_eq_true,decide_eq_true_eq] at h;obtain ⟨h1,h2,h3,h4⟩:=h;obtain ⟨k1,k2⟩:=ih h4;constructor
  ·intro j hj hj2;by_cases e:j=i
   ·subst e;exact ⟨h1,h2,h3⟩
   ·obtain ⟨a,b,c⟩:=k1 j (by omega) (by omega);exact ⟨by omega,b,c⟩
  ·intro j k hj hjk hk;by_cases e:j=i
   ·subst e;exact (k1 k (by omega) (by omega)).1
   ·exact k2 j k (by omega) hjk (by omega)
theorem Nm.rn {w:World} {t:Nm} {L:Nat} (h:NmR w t) (hf:nfB t=true) (hn:t.n≤L) (hm:t.m≤L):∃q,Rn L w t.s t.x t.n t.c t.f t.y t.m t.d t.g q:=h.1.rn hf hn hm
def Rf (L:Nat) (w:World) (ao:Option Addr) (p:List Rat):Prop :=
 ∀(j:Nat) (q:Rat),p[j]?=some q→∃b o,∃t:Nm,ao=some ⟨b,o,none⟩∧C3 w b (o+j*3) (.bool t.s) (.slice t.x t.n t.c) (.slice t.y t.m t.d)∧Rn L w t.s t.x t.n t.c t.f t.y t.m t.d t.g q
theorem Rf.below {L w w' ao p} (h:Rf L w ao p) (hb:Below w.heap.size w w'):Rf L w' ao p:=fun j q hj=>by
 obtain ⟨b,o,t,e,h1,h2⟩:=h j q hj;exact ⟨b,o,t,e,h1.below hb,h2.below hb⟩
theorem afr_all {X:Nat→Nm}:∀{r i:Nat},afr X r i=true→∀j,i≤j→j<i+r→nfB (X j)=true:=by
 intro r
 induction r with
 | zero=>intro i _ j h1 h2;omega
 | succ r ih =>
  intro i h j hj hj2;simp only [afr,Bool.and_eq_true] at h;by_cases e:j=i
  ·subst e;exact h.1
  ·exact ih h.2 j (by omega) (by omega)
theorem Wn.lt_pw {w s x n c f v} (h:Wn w s x n c f v):((v.natAbs:Nat):Int)<pw n:=by
 have hm:=h.mag;have h1:=vf_lt hm.lm;have h3:vf f n=((v.natAbs:Nat):Int):=hm.val;omega
theorem Wn.len_pw {w s x n c f v} {K:Nat} (h:Wn w s x n c f v) (hv:((v.natAbs:Nat):Int)<pw K):n≤K:=by
 have hm:=h.mag;have h3:vf f n=((v.natAbs:Nat):Int):=hm.val;by_cases hn:n≤K
 ·exact hn
 ·have h1:=vf_form_ge hm.lm (fm_of_wfB hm.wf) (by omega);have h2:=pw_mono (show K≤n-1 by omega);omega
theorem norm_le (N:Int) (D:Nat) (h:D≠0):(Rat.normalize N D h).num.natAbs≤N.natAbs∧(Rat.normalize N D h).den≤D:=by
 rw [Rat.normalize_eq];exact ⟨Int.natAbs_ediv_le_natAbs _ _,Nat.div_le_self _ _⟩
def Lo (K:Nat) (q:Rat):Prop:=((q.num.natAbs:Nat):Int)<pw K∧((q.den:Nat):Int)<pw K
theorem Lo.mono {K L q} (h:Lo K q) (hk:K≤L):Lo L q:=⟨Int.lt_of_lt_of_le h.1 (pw_mono hk),Int.lt_of_lt_of_le h.2 (pw_mono hk)⟩
theorem Rn.lo {L w s x n c f y m d g q} {K:Nat} (h:Rn L w s x n c f y m d g q) (hn:n≤K) (hm:m≤K):Lo K q :=
 ⟨Int.lt_of_lt_of_le h.num.lt_pw (pw_mono hn),Int.lt_of_lt_of_le (by have:=h.den.lt_pw;simpa using this) (pw_mono hm)⟩
theorem Rn.cut {L w s x n c f y m d g q} {K:Nat} (h:Rn L w s x n c f y m d g q) (hq:Lo K q):Rn K w s x n c f y m d g q :=
 ⟨h.num,h.den,h.num.len_pw hq.1,h.den.len_pw (by simpa using hq.2)⟩
theorem mul_pw {a b:Nat} {K L:Nat} (h1:(a:Int)<pw K) (h2:(b:Int)<pw L):((a*b:Nat):Int)≤pw (K+L):=by
 rw [pw_add,Int.natCast_mul];exact Int.mul_le_mul (by omega) (by omega) (by omega) (by have:=pw_pos K;omega)
theorem pw_twice (K:Nat):2*pw K<pw (K+1):=by
 have:=pw_pos K;simp only [pw];omega
theorem lo_mul {K L:Nat} {a b:Rat} (ha:Lo K a) (hb:Lo L b):Lo (K+L+1) (a*b):=by
 rw [Rat.mul_def];obtain ⟨h1,h2⟩:=norm_le (a.num*b.num) (a.den*b.den) (Nat.mul_ne_zero a.den_nz b.den_nz);have e1:=mul_pw ha.1 hb.1;have e2:=mul_pw ha.2 hb.2;rw [Int.natAbs_mul] at h1;have p:=pw_twice (K+L);have p0:=pw_pos (K+L);constructor <;> omega
theorem lo_add {K L:Nat} {a b:Rat} (ha:Lo K a) (hb:Lo L b):Lo (K+L+1) (a+b):=by
 rw [Rat.add_def];obtain ⟨h1,h2⟩:=norm_le (a.num*b.den+b.num*a.den) (a.den*b.den) (Nat.mul_ne_zero a.den_nz b.den_nz);have e1:=mul_pw ha.1 hb.2;have e2:=mul_pw ha.2 hb.1;have e3:=mul_pw ha.2 hb.2;have h3:=Int.natAbs_add_le (a.num*b.den) (b.num*a.den);rw [Int.natAbs_mul,Int.natAbs_mul,Int.natAbs_natCast,Int.natAbs_natCast,Nat.mul_comm b.num.natAbs] at h3;have p:=pw_twice (K+L);have p0:=pw_pos (K+L);constructor <;> omega
structure Sx (w:World) (B:Nat) (s:Bool) (x:Option Addr) (n c:Nat) (y:Option Addr) (m d:Nat):Prop where
 z:B<w.heap.size
 x0:w.cell? ⟨B,0,none⟩=some (.bool s)
 x1:w.cell? ⟨B,1,none⟩=some (.slice x n c)
 x2:w.cell? ⟨B,2,none⟩=some (.slice y m d)
 fz:∀o,w.frozen? ⟨B,o,none⟩=false
theorem Sx.below {w w' B s x n c y m d} (h:Sx w B s x n c y m d) (hb:Below w.heap.size w w'):Sx w' B s x n c y m d:=by
 obtain ⟨_,h2⟩:=bcell hb;exact ⟨Nat.lt_of_lt_of_le h.z hb.size,kCb hb h.x0,kCb hb h.x1,kCb hb h.x2,fun o=>(h2 _ _ h.z).trans (h.fz o)⟩
theorem Sx.rd {w B s x n c y m d u0 u1 u2 a k h} (S:Sx w B s x n c y m d) (hx:Rd .u64 w a k h):Rd .u64 (((w.setCell ⟨B,0,none⟩ u0).setCell ⟨B,1,none⟩ u1).setCell ⟨B,2,none⟩ u2) a k h :=
 rd_setne (cell_off (by decide) (cell_off (by decide) S.x2)) (fun i h=>by cases h) (rd_setne (cell_off (by decide) S.x1) (fun i h=>by cases h) (rd_setne S.x0 (fun i h=>by cases h) hx))
theorem Sx.rn {w B s x n c y m d u0 u1 u2 L s1 x1 n1 c1 f1 y1 m1 d1 g1 q} (S:Sx w B s x n c y m d) (h:Rn L w s1 x1 n1 c1 f1 y1 m1 d1 g1 q):Rn L (((w.setCell ⟨B,0,none⟩ u0).setCell ⟨B,1,none⟩ u1).setCell ⟨B,2,none⟩ u2) s1 x1 n1 c1 f1 y1 m1 d1 g1 q :=
 ⟨⟨S.rd h.num.rd,h.num.lm,h.num.wf,h.num.cap,h.num.nil,h.num.val⟩,⟨S.rd h.den.rd,h.den.lm,h.den.wf,h.den.cap,h.den.nil,h.den.val⟩,h.ln,h.ld⟩
theorem Sx.st {w B s x n c y m d s1 x1 n1 c1 y1 m1 d1} (S:Sx w B s x n c y m d):Sx (((w.setCell ⟨B,0,none⟩ (.bool s1)).setCell ⟨B,1,none⟩ (.slice x1 n1 c1)).setCell ⟨B,2,none⟩ (.slice y1 m1 d1)) B s1 x1 n1 c1 y1 m1 d1:=by
 have e0:=kI0 S.x0;have e1:=kI0 S.x1;have e2:=kI0 S.x2
 exact ⟨by simpa [World.setCell] using S.z,kCo (by decide) (kCo (by decide) (kCe e0)),kCo (by decide) (kCe (kIs e1)),kCe (kIs (kIs e2)),fun o=>kFs (kFs (kFs (S.fz o)))⟩
theorem Ob.far3 {w A B u0 u1 u2} (h:Ob w A) (hAB:B≠A):Ob (((w.setCell ⟨B,0,none⟩ u0).setCell ⟨B,1,none⟩ u1).setCell ⟨B,2,none⟩ u2) A :=
 ⟨by simpa [World.setCell] using h.z,kCs hAB (kCs hAB (kCs hAB h.z0)),kCs hAB (kCs hAB (kCs hAB h.z1)),kCs hAB (kCs hAB (kCs hAB h.z2)),fun o=>kFs (kFs (kFs (h.zf o)))⟩
theorem Sx.drew {w B s x n c y m d} (h:Sx w B s x n c y m d):Sx w.drew B s x n c y m d:=⟨h.z,h.x0,h.x1,h.x2,h.fz⟩
structure Rd1 (K:Nat) (w wy:World) (B:Nat) (s:Bool) (x:Option Addr) (n c:Nat) (f:Nat→Int) (y:Option Addr) (m d:Nat) (g:Nat→Int) (q:Rat):Prop where
 bel:Below w.heap.size w wy
 sx:Sx wy B s x n c y m d
 ob:Ob wy w.heap.size
 rn:Rn K wy s x n c f y m d g q
theorem rd1_mk {K B w w6 s x n c y m d s1 x1 n1 c1 f1 y1 m1 d1 g1 q} (hb:Below w.heap.size w w6) (S:Sx w6 B s x n c y m d) (O:Ob w6 w.heap.size) (h:Rn K w6 s1 x1 n1 c1 f1 y1 m1 d1 g1 q) (hB:w.heap.size<B):Rd1 K w (((w6.setCell ⟨B,0,none⟩ (.bool s1)).setCell ⟨B,1,none⟩ (.slice x1 n1 c1)).setCell ⟨B,2,none⟩ (.slice y1 m1 d1)) B s1 x1 n1 c1 f1 y1 m1 d1 g1 q :=
 ⟨below_st hb (by omega),S.st,O.far3 (by omega),S.rn h⟩
theorem Rd1.drew {K B w w6 s x n c f y m d g q} (h:Rd1 K w w6 B s x n c f y m d g q):Rd1 K w w6.drew B s x n c f y m d g q:=⟨h.bel.drew,h.sx.drew,h.ob.drew,⟨⟨h.rn.num.rd,h.rn.num.lm,h.rn.num.wf,h.rn.num.cap,h.rn.num.nil,h.rn.num.val⟩,⟨h.rn.den.rd,h.rn.den.lm,h.rn.den.wf,h.rn.den.cap,h.rn.den.nil,h.rn.den.val⟩,h.rn.ln,h.rn.ld⟩⟩
end Go.Proofs.YtankbgpcnljjdaaGreat
