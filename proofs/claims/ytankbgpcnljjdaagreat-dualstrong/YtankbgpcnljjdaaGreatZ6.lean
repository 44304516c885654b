/-
 Walks of package rat's calls Form, Add, Sub, Mul, Quo on numbers in form; the document's Same and Light. Walks of the document's reference for whole: Form, From, Text, Read, DocText, DocRead. Walks of the document's reference for rat: word, Mk of short numbers. Walks of the document's reference for rat: Mk of short numbers. Walks of the document's reference for rat: To, DocMake of short numbers; the statements' own num. Walks of the statements' own num, and of package rat's calls Make and Floor. The walk of package rat's call Floor. Walks of the document's Same and Light of rational numbers, and of the statements' own light. Walks of the document's reference for whole: Neg, Add, Sub, Mul, Sign, Cmp. Walks of the document's reference for whole: Sub, Sign, Cmp, two, DocNeg, DocCmp. Walks of the document's reference for whole: DocNeg, DocCmp, Doc. Walks of the document's reference for rat: Form. Walks of the document's reference for rat: Mk, whatever the numbers' lengths. Walks of the document's reference for rat: From, Neg, Sign, Add. Walks of the document's reference for whole: Divide. Walks of package rat's clone, Copy and Neg. The walk of package rat's call Cmp. Walks of the document's reference for rat: Add, Sub, Cmp. Walks of rat's Sign and Cmp, whatever they are handed, and of the document's: DocSign, DocCmp. Walks of the document's reference for rat: Mul, Quo, Int, To, DocOf, DocNeg. Walks of rat's calls where they tell that a number is not in form, and of the document's Doc, DocNeg there; DocNeg. Walks of the document's reference for rat: Int, DocOf. The walk of the document's reference for rat: Doc, of numbers in form. Walks of rat's Add, Sub, Mul, Quo, whatever they are handed, and of the statements' call. The walk of rat.Of.
-/
import Derived.Test.YtankbgpcnljjdaaGreatZ5
import Derived.Test.YtankbgpcnljjdaaGreatZ4
import Derived.Test.YtankbgpcnljjdaaGreatZ1
import Derived.Test.YtankbgpcnljjdaaGreatZ3
import Derived.Test.YtankbgpcnljjdaaGreatZ2
namespace Go.Proofs.YtankbgpcnljjdaaGreat
open Go.RowKit
structure Rw (w:World) (x:Option Addr) (n c:Nat) (f:Nat→Int) (y:Option Addr) (m d:Nat) (g:Nat→Int):Prop where
 rx:Rd .u64 w x n f
 lx:Lm f n
 cx:n≤c∧c≤9223372036854775807
 nx:x=none→n=0∧c=0
 ry:Rd .u64 w y m g
 ly:Lm g m
 cy:m≤d∧d≤9223372036854775807
 ny:y=none→m=0∧d=0
theorem Rw.below {w w' x n c f y m d g} (h:Rw w x n c f y m d g) (hb:Below w.heap.size w w'):Rw w' x n c f y m d g:=⟨h.rx.below hb (Nat.le_refl _),h.lx,h.cx,h.nx,h.ry.below hb (Nat.le_refl _),h.ly,h.cy,h.ny⟩
theorem Rw.alloc {w x n c f y m d g} (h:Rw w x n c f y m d g) (o:Obj):Rw (w.alloc o) x n c f y m d g:=h.below (below_alloc (Below.refl _ _) o)
def rfB (s:Bool) (f:Nat→Int) (n:Nat) (g:Nat→Int) (m:Nat):Bool:=wfB s f n && (fmB g m && (decide (0<m) && decide ((vf f n).toNat.gcd (vf g m).toNat=1)))
theorem natAbs_wv {s:Bool} {f:Nat→Int} {n:Nat} (h:Lm f n):(wv s f n).natAbs=(vf f n).toNat:=by
 have h0:=vf_nonneg h;cases s
 ·rw [wv_false];omega
 ·rw [wv_true];omega
theorem Rw.rn {w s x n c f y m d g L} (h:Rw w x n c f y m d g) (hf:rfB s f n g m=true) (hn:n≤L) (hm:m≤L):∃q,Rn L w s x n c f y m d g q:=by
 simp only [rfB,Bool.and_eq_true,decide_eq_true_eq] at hf;obtain ⟨h1,h2,h3,h4⟩:=hf;have hp:=vf_pos h.ly (fm_of h2) h3;refine ⟨⟨wv s f n,(vf g m).toNat,by omega,by rw [natAbs_wv h.lx];exact h4⟩,⟨h.rx,h.lx,h1,h.cx,h.nx,rfl⟩,⟨h.ry,h.ly,(wfB_iff _ _ _).2 ⟨fm_of h2,fun h=>by cases h⟩,h.cy,h.ny,?_⟩,hn,hm⟩;show vf g m=((vf g m).toNat:Int);omega
theorem Rn.rw {L w s x n c f y m d g q} (h:Rn L w s x n c f y m d g q):Rw w x n c f y m d g:=⟨h.num.rd,h.num.lm,h.num.cap,h.num.nil,h.den.rd,h.den.lm,h.den.cap,h.den.nil⟩
theorem Rn.rf {L w s x n c f y m d g q} (h:Rn L w s x n c f y m d g q):rfB s f n g m=true:=by
 simp only [rfB,Bool.and_eq_true,decide_eq_true_eq];have hd:=q.den_pos;refine ⟨h.num.wf,(fmB_iff _ _).2 h.den.fm,h.den.pos (by omega),?_⟩;rw [←natAbs_wv (s:=s) h.num.lm,h.num.val,h.den.nv];exact q.reduced
theorem Rn.inj {L L' w w' s t x n c f y m d g x' n' c' f' y' m' d' g' q r} (h:Rn L w s x n c f y m d g q) (h':Rn L' w' t x' n' c' f' y' m' d' g' r):(s=t∧Alk n n' f f'∧Alk m m' g g') ↔ q=r:=by
 constructor
 ·rintro ⟨rfl,⟨rfl,h1⟩,⟨rfl,h2⟩⟩;have e1:vf f n=vf f' n:=vf_congr h1;have e2:vf g m=vf g' m:=vf_congr h2;refine Rat.ext ?_ ?_
  ·rw [←h.num.val,←h'.num.val];cases s
   ·rw [wv_false,wv_false,e1]
   ·rw [wv_true,wv_true,e1]
  ·have:=h.den.nv;have:=h'.den.nv;omega
 ·rintro rfl;have ha:=vf_nonneg h.num.lm;have hb:=vf_nonneg h'.num.lm
  have e2:=vf_inj h.den.lm h'.den.lm h.den.fm h'.den.fm (h.den.nv.trans h'.den.nv.symm);have v1:=h.num.val;have v2:=h'.num.val
  have p1:=sgn_of_wfB h.num.wf;have p2:=sgn_of_wfB h'.num.wf
  have q1:0<n→0<vf f n:=vf_pos h.num.lm h.num.fm;have q2:0<n'→0<vf f' n':=vf_pos h'.num.lm h'.num.fm;cases s <;> cases t
  ·rw [wv_false] at v1 v2;exact ⟨rfl,vf_inj h.num.lm h'.num.lm h.num.fm h'.num.fm (v1.trans v2.symm),e2⟩
  ·rw [wv_false] at v1;rw [wv_true] at v2
   have:=q2 (p2 rfl);omega
  ·rw [wv_true] at v1;rw [wv_false] at v2
   have:=q1 (p1 rfl);omega
  ·rw [wv_true] at v1 v2;exact ⟨rfl,vf_inj h.num.lm h'.num.lm h.num.fm h'.num.fm (by omega),e2⟩
structure Bx3 (w:World) (B:Nat) (a0 a1 a2:Value):Prop where
 z:B<w.heap.size
 x0:w.cell? ⟨B,0,none⟩=some a0
 x1:w.cell? ⟨B,1,none⟩=some a1
 x2:w.cell? ⟨B,2,none⟩=some a2
theorem Bx3.below {w w' B a0 a1 a2} (h:Bx3 w B a0 a1 a2) (hb:Below w.heap.size w w'):Bx3 w' B a0 a1 a2:=⟨Nat.lt_of_lt_of_le h.z hb.size,kCb hb h.x0,kCb hb h.x1,kCb hb h.x2⟩
theorem Bx3.alloc {w B a0 a1 a2} (h:Bx3 w B a0 a1 a2) (o:Obj):Bx3 (w.alloc o) B a0 a1 a2:=h.below (below_alloc (Below.refl _ _) o)
theorem Bx3.next {w w' B a0 a1 a2} {o:Obj} (h:Bx3 w B a0 a1 a2) (hb:Below (w.alloc o).heap.size (w.alloc o) w'):Bx3 w' B a0 a1 a2:=(h.alloc o).below hb
theorem bx3_at (w:World) (a0 a1 a2:Value) (t:TypeId):Bx3 (w.alloc (.cells #[a0,a1,a2] t)) w.heap.size a0 a1 a2:=⟨by simp,by simp [go_sem],by simp [go_sem],by simp [go_sem]⟩
theorem bx3_new {w w':World} {a0 a1 a2:Value} {t:TypeId} (hb:Below (w.alloc (.cells #[a0,a1,a2] t)).heap.size (w.alloc (.cells #[a0,a1,a2] t)) w'):Bx3 w' w.heap.size a0 a1 a2:=(bx3_at w a0 a1 a2 t).below hb
set_option maxHeartbeats 1000000 in
theorem rForm_c {w:World} {s x n c f y m d g} (h:Rw w x n c f y m d g) (hn:n≤1048576) (hm:m≤1048576) :
  Calls Tryz.prog 63 #[.agg #[.bool s,.slice x n c,.slice y m d]] w fun e w'=>e=.returned (.bool (rfB s f n g m))∧Below w.heap.size w w':=by
 have H:=hid h;have hrf:rfB s f n g m=(wfB s f n && (fmB g m && (decide (0<m) && decide ((vf f n).toNat.gcd (vf g m).toNat=1)))):=rfl;rw [hrf];clear h hrf;go_enter Tryz.func63,Tryz.ntmps63;go_wp2_with fail
 refine (numer_c s x y n c m d _).mono ?_;rintro e w1 ⟨rfl,hb⟩;have B1:=hid (bx3_new hb);have HW1:Hid (Below w.heap.size w w1):=(below_alloc (Below.refl w.heap.size w) _).trans (hb.mono (by simp))
 clear hb;obtain ⟨z,x0,x1,x2⟩:=B1.out;go_wp2_with fail
 refine (wForm_c s x n c f _ (by omega) (H.out.rx.below HW1.out (Nat.le_refl _))).mono ?_;rintro e w2 ⟨rfl,hb⟩;have B2:=hid (B1.out.below hb);have HW2:=hid (HW1.out.trans (hb.mono HW1.out.size))
 clear hb B1 z x0 x1 x2 HW1;obtain ⟨z,x0,x1,x2⟩:=B2.out;cases h1:wfB s f n
 ·have E:Hid ((wfB s f n && (fmB g m && (decide (0<m) && decide ((vf f n).toNat.gcd (vf g m).toNat=1))))=false):=hid (by rw [h1];rfl);go_wp2;go_ret;exact ⟨by rw [E.out];rfl,HW2.out⟩
 have F1:=hid h1;clear h1;have c2:=form_c y m d g w2 (by omega) (H.out.ry.below HW2.out (Nat.le_refl _));go_wp2_with fail
 refine c2.mono ?_;rintro e w3 ⟨rfl,rfl⟩;clear c2;cases h2:fmB g m
 ·have E:Hid ((wfB s f n && (fmB g m && (decide (0<m) && decide ((vf f n).toNat.gcd (vf g m).toNat=1))))=false):=hid (by rw [F1.out,h2];rfl);go_wp2;go_ret;exact ⟨by rw [E.out];rfl,HW2.out⟩
 by_cases h3:0<m
 ·have h3':((m:Int)==0)=false:=by simp;omega
  have hd3:decide (0<m)=true:=by simp;omega
  have E:Hid ((wfB s f n && (fmB g m && (decide (0<m) && decide ((vf f n).toNat.gcd (vf g m).toNat=1))))=decide ((((vf f n).toNat.gcd (vf g m).toNat:Nat):Int)=1)):=hid (by
   rw [F1.out,h2,hd3,Bool.true_and,Bool.true_and,Bool.true_and];by_cases h:(vf f n).toNat.gcd (vf g m).toNat=1
   ·simp [h]
   ·have:¬((((vf f n).toNat.gcd (vf g m).toNat:Nat):Int)=1):=by omega
    simp [h,this])
  have hh:=(H.out.below HW2.out);have W1:Wn w3 false x n c f ((vf f n).toNat:Nat):=⟨hh.rx,hh.lx,(wfB_iff _ _ _).2 ⟨fm_of_wfB F1.out,fun h=>by cases h⟩,hh.cx,hh.nx,by have:=vf_nonneg hh.lx;show vf f n=_;omega⟩;have W2:Wn w3 false y m d g ((vf g m).toNat:Nat):=⟨hh.ry,hh.ly,(wfB_iff _ _ _).2 ⟨fm_of h2,fun h=>by cases h⟩,hh.cy,hh.ny,by have:=vf_nonneg hh.ly;show vf g m=_;omega⟩;have C3:=hid (ratGcd_c W1 W2 (by omega) (by omega));clear hh W1 W2 hd3 h2 h3;go_wp2_with fail
  refine C3.out.mono ?_;rintro e w4 ⟨zg,kg,cg,fg,rfl,hb,hg⟩;have C4:=hid (isOne_c hg);clear hg;go_wp2_with fail
  refine C4.out.mono ?_;rintro e w5 ⟨rfl,rfl⟩;go_wp2;go_ret;exact ⟨by rw [E.out];rfl,HW2.out.trans (hb.mono HW2.out.size)⟩
 ·have h3':m=0:=by omega
  have E:Hid ((wfB s f n && (fmB g m && (decide (0<m) && decide ((vf f n).toNat.gcd (vf g m).toNat=1))))=false):=hid (by simp [h3']);subst h3';go_wp2;go_ret;exact ⟨by rw [E.out];rfl,HW2.out⟩
theorem rForm_n {L w s x n c f y m d g q} (h:Rn L w s x n c f y m d g q) (hL:L≤1048576) :
  Calls Tryz.prog 63 #[.agg #[.bool s,.slice x n c,.slice y m d]] w fun e w'=>e=.returned (.bool true)∧Below w.heap.size w w':=by
 have h1:=h.ln;have h2:=h.ld
 have:=rForm_c (s:=s) h.rw (by omega) (by omega);rw [h.rf] at this;exact this
set_option maxRecDepth 100000 in
set_option maxHeartbeats 4000000 in
theorem rAdd_n {L:Nat} {w:World} {sa:Bool} {xa:Option Addr} {na ca:Nat} {fa:Nat→Int} {ya:Option Addr} {ma da:Nat} {ga:Nat→Int} {a:Rat} {sb:Bool} {xb:Option Addr} {nb cb:Nat} {fb:Nat→Int} {yb:Option Addr} {mb db:Nat} {gb:Nat→Int} {b:Rat} (ha:Rn L w sa xa na ca fa ya ma da ga a) (hb:Rn L w sb xb nb cb fb yb mb db gb b) (hL:L≤200000) :
  Calls Tryz.prog 62 #[.agg #[.bool sa,.slice xa na ca,.slice ya ma da],.agg #[.bool sb,.slice xb nb cb,.slice yb mb db]] w fun e w'=>RatTup (2*L+1) w w' e (a+b):=by
 have HA0:=hid ha;have HB0:=hid hb
 clear ha hb;go_enter Tryz.func62,Tryz.ntmps62;go_wp2_with fail
 refine (rForm_n (((HA0.out.alloc _).alloc _).alloc _) (by omega)).mono ?_;rintro e w1 ⟨rfl,hbel⟩;obtain ⟨⟨hz,x0,x1,x2,y0,y1,y2,z0,z1,z2,zf⟩,hw⟩:=three_new hbel;have T1:Hid (Three w.heap.size w1 _ _ _ _ _ _ _ _ _):=⟨hz,x0,x1,x2,y0,y1,y2,z0,z1,z2,zf⟩;have HW1:=hid hw;have HA1:=hid (HA0.out.below hw);have HB1:=hid (HB0.out.below hw)
 clear hbel hw HA0 HB0;go_wp2_with fail
 refine (rForm_n HB1.out (by omega)).mono ?_;rintro e w2 ⟨rfl,hb⟩;have HA2:=hid (HA1.out.below hb);have HB2:=hid (HB1.out.below hb);have T2:=hid (T1.out.below hb);have HW2:=hid (HW1.out.trans (hb.mono HW1.out.size))
 clear HA1 HB1 T1 HW1 hb;clear hz x0 x1 x2 y0 y1 y2 z0 z1 z2 zf;obtain ⟨hz,x0,x1,x2,y0,y1,y2,z0,z1,z2,zf⟩:=T2.out;have hza:w.heap.size<w2.heap.size:=by omega
 have hzb:w.heap.size+1<w2.heap.size:=by omega
 go_wp2_with fail
 refine (ratadd_c HA2.out HB2.out hL).mono ?_;rintro e w3 ⟨rs,zn,kn,cn,fn,zd,kd,cd,fd,rfl,hb,hr⟩;have HR:=hid hr;clear hr;have T3:=hid (T2.out.below hb);have HW3:=hid (HW2.out.trans (hb.mono HW2.out.size))
 clear T2 HW2 hb;clear hza hzb hz x0 x1 x2 y0 y1 y2 z0 z1 z2 zf;obtain ⟨hz,x0,x1,x2,y0,y1,y2,z0,z1,z2,zf⟩:=T3.out;have hza:w.heap.size<w3.heap.size:=by omega
 have hzb:w.heap.size+1<w3.heap.size:=by omega
 go_wp2;refine bodyPost_ret (v:=.tuple #[.agg #[.bool rs,.slice zn kn cn,.slice zd kd cd],.int .i64 0]) (by simp [results,Tryz.results62,go_sem,z0,z1,z2]) rfl ⟨rs,zn,kn,cn,fn,zd,kd,cd,fd,rfl,below_store HW3.out,⟨?_,?_,HR.out.ln,HR.out.ld⟩⟩
 ·exact T3.out.store HR.out.num
 ·exact T3.out.store HR.out.den
set_option maxRecDepth 100000 in
set_option maxHeartbeats 4000000 in
theorem rMul_n {L:Nat} {w:World} {sa:Bool} {xa:Option Addr} {na ca:Nat} {fa:Nat→Int} {ya:Option Addr} {ma da:Nat} {ga:Nat→Int} {a:Rat} {sb:Bool} {xb:Option Addr} {nb cb:Nat} {fb:Nat→Int} {yb:Option Addr} {mb db:Nat} {gb:Nat→Int} {b:Rat} (ha:Rn L w sa xa na ca fa ya ma da ga a) (hb:Rn L w sb xb nb cb fb yb mb db gb b) (hL:L≤200000) :
  Calls Tryz.prog 61 #[.agg #[.bool sa,.slice xa na ca,.slice ya ma da],.agg #[.bool sb,.slice xb nb cb,.slice yb mb db]] w fun e w'=>RatTup (2*L+1) w w' e (a*b):=by
 have HA0:=hid ha;have HB0:=hid hb
 clear ha hb;go_enter Tryz.func61,Tryz.ntmps61;go_wp2_with fail
 refine (rForm_n (((HA0.out.alloc _).alloc _).alloc _) (by omega)).mono ?_;rintro e w1 ⟨rfl,hbel⟩;obtain ⟨⟨hz,x0,x1,x2,y0,y1,y2,z0,z1,z2,zf⟩,hw⟩:=three_new hbel;have T1:Hid (Three w.heap.size w1 _ _ _ _ _ _ _ _ _):=⟨hz,x0,x1,x2,y0,y1,y2,z0,z1,z2,zf⟩;have HW1:=hid hw;have HA1:=hid (HA0.out.below hw);have HB1:=hid (HB0.out.below hw)
 clear hbel hw HA0 HB0;go_wp2_with fail
 refine (rForm_n HB1.out (by omega)).mono ?_;rintro e w2 ⟨rfl,hb⟩;have HA2:=hid (HA1.out.below hb);have HB2:=hid (HB1.out.below hb);have T2:=hid (T1.out.below hb);have HW2:=hid (HW1.out.trans (hb.mono HW1.out.size))
 clear HA1 HB1 T1 HW1 hb;clear hz x0 x1 x2 y0 y1 y2 z0 z1 z2 zf;obtain ⟨hz,x0,x1,x2,y0,y1,y2,z0,z1,z2,zf⟩:=T2.out;have hza:w.heap.size<w2.heap.size:=by omega
 have hzb:w.heap.size+1<w2.heap.size:=by omega
 go_wp2_with fail
 refine (ratmul_c HA2.out HB2.out hL).mono ?_;rintro e w3 ⟨rs,zn,kn,cn,fn,zd,kd,cd,fd,rfl,hb,hr⟩;have HR:=hid hr;clear hr;have T3:=hid (T2.out.below hb);have HW3:=hid (HW2.out.trans (hb.mono HW2.out.size))
 clear T2 HW2 hb;clear hza hzb hz x0 x1 x2 y0 y1 y2 z0 z1 z2 zf;obtain ⟨hz,x0,x1,x2,y0,y1,y2,z0,z1,z2,zf⟩:=T3.out;have hza:w.heap.size<w3.heap.size:=by omega
 have hzb:w.heap.size+1<w3.heap.size:=by omega
 go_wp2;refine bodyPost_ret (v:=.tuple #[.agg #[.bool rs,.slice zn kn cn,.slice zd kd cd],.int .i64 0]) (by simp [results,Tryz.results61,go_sem,z0,z1,z2]) rfl ⟨rs,zn,kn,cn,fn,zd,kd,cd,fd,rfl,below_store HW3.out,⟨?_,?_,HR.out.ln,HR.out.ld⟩⟩
 ·exact T3.out.store HR.out.num
 ·exact T3.out.store HR.out.den
theorem Rn.negate {L w s x n c f y m d g q} {r:Bool} (h:Rn L w s x n c f y m d g q) (hr:r=(!s && decide (0<n))):Rn L w r x n c f y m d g (-q):=by
 refine ⟨?_,h.den,h.ln,h.ld⟩;have h1:=h.num.mag.resign (s:=!s) hr;have h2:=h.num.sgn;show Wn w r x n c f (-q.num);have:-q.num=sg (!s) q.num.natAbs:=by
  generalize q.num.natAbs=A at h2;rw [h2];cases s
  ·rfl
  ·show - -(A:Int)=A;omega
 rw [this];exact h1
set_option maxRecDepth 100000 in
set_option maxHeartbeats 800000 in
theorem rword_c {w:World} {x n c d} {V:Nat} (h:Dn w x n d V) (hn:n≤2) :
  Calls Tryz.prog 92 #[.slice x n c] w fun e w'=>e=.returned (.int .u64 V)∧w'=w:=by
 have H:=hid h;clear h;go_enter Tryz.func92,Tryz.ntmps92;go_wp2
 go_loop [3,4] (fun t u=>∃(k:Nat) (z:Int),k≤n∧z=(k:Int)-1∧u=.int .i64 z∧∃X:Int,t=.int .u64 X∧Hid (X=vd (sh d k) (n-k))) (fun _ u=>(intOf u+1).toNat)
 case atStart=>exact ⟨n,(n:Int)-1,by omega,rfl,rfl,0,rfl,by rw [Nat.sub_self];rfl⟩
 case round =>
  obtain ⟨k,z,hk,hz,rfl,X,rfl,HX⟩:=hrel;rcases Nat.eq_zero_or_pos k with h0 | h0
  ·subst h0;have hz':z<0:=by omega
   have hd:decide ((0:Int)≤z)=false:=by simp;omega
   go_wp2;go_ret;refine ⟨?_,rfl⟩;have h1:vd (sh d 0) (n-0)=vd d n:=by
    have:sh d 0=d:=by funext j;simp [sh]
    rw [this];rfl
   have:X=V:=by rw [HX.out,h1,H.out.val]
   rw [this];rfl
  ·obtain ⟨j,rfl⟩:∃j,k=j+1:=⟨k-1,by omega⟩;have hz':z=(j:Int):=by omega
   subst hz';have hr:=H.out.rd;obtain ⟨b,o,rfl⟩:=hr.at (by omega);obtain ⟨y,hy⟩:∃y,d j=y:=⟨_,rfl⟩;have hcell:w.cell? ⟨b,o+j,none⟩=some (.int .u64 y):=by rw [←hy];exact hr.cell (by omega)
   obtain ⟨y0,y1⟩:=H.out.dg j (by omega);rw [hy] at y0 y1;have hX:0≤X∧X<4294967296:=by
    rw [HX.out];rcases (show n-(j+1)=0∨n-(j+1)=1 by omega) with e | e
    ·rw [e];simp [vd]
    ·rw [e];have e1:vd (sh d (j+1)) 1=d (j+1):=by simp [vd,pd,sh]
     rw [e1];exact H.out.dg (j+1) (by omega)
   obtain ⟨X0,X1⟩:=hX;have hs:X*4294967296+y=vd (sh d j) (n-j):=by
    rw [show n-j=(n-(j+1))+1 by omega,vd_cons,hy,HX.out];omega
   have HS:=hid hs;clear hs hy hr hz;go_wp2
   go_round
   case rel=>exact ⟨j,(j:Int)-1,by omega,rfl,rfl,X*4294967296+y,rfl,HS.out⟩
   case measure=>simp [intOf]
theorem zMk_c (s:Bool) (ao:Option Addr) (n cap:Nat) (w:World) (hm:n≤9223372036854775807) :
  Calls Tryz.prog 69 #[.bool s,.slice ao n cap] w fun e w'=>∃r,e=.returned (.agg #[.bool r,.slice ao n cap])∧Hid (r=(s && decide (0<n)))∧Below w.heap.size w w':=by
 have key:∀u,Below w.heap.size w (w.alloc u):=fun u=>below_alloc (Below.refl w.heap.size w) u
 cases s
 ·go_enter Tryz.func69,Tryz.ntmps69;go_wp2;exact bodyPost_ret (v:=.agg #[.bool false,.slice ao n cap]) (by simp [results,Tryz.results69,go_sem]) rfl ⟨false,rfl,rfl,key _⟩
 ·by_cases hn0:0<n
  ·have hni:decide ((0:Int)<(n:Int))=true:=by simp;omega
   have hdn:decide (0<n)=true:=by simp;omega
   rw [hdn];clear hdn;go_enter Tryz.func69,Tryz.ntmps69;go_wp2;exact bodyPost_ret (v:=.agg #[.bool true,.slice ao n cap]) (by simp [results,Tryz.results69,go_sem]) rfl ⟨true,rfl,rfl,key _⟩
  ·have hni:decide ((0:Int)<(n:Int))=false:=by simp;omega
   have hdn:decide (0<n)=false:=by simp;omega
   rw [hdn];clear hdn;go_enter Tryz.func69,Tryz.ntmps69;go_wp2;exact bodyPost_ret (v:=.agg #[.bool false,.slice ao n cap]) (by simp [results,Tryz.results69,go_sem]) rfl ⟨false,rfl,rfl,key _⟩
structure Ob (w:World) (B:Nat):Prop where
 z:B<w.heap.size
 z0:w.cell? ⟨B,0,none⟩=some (.bool false)
 z1:w.cell? ⟨B,1,none⟩=some (.slice none 0 0)
 z2:w.cell? ⟨B,2,none⟩=some (.slice none 0 0)
 zf:∀o,w.frozen? ⟨B,o,none⟩=false
theorem Ob.below {w w' B} (h:Ob w B) (hb:Below w.heap.size w w'):Ob w' B:=by
 obtain ⟨h1,h2⟩:=bcell hb;exact ⟨Nat.lt_of_lt_of_le h.z hb.size,kCb hb h.z0,kCb hb h.z1,kCb hb h.z2,fun o=>(h2 _ _ h.z).trans (h.zf o)⟩
theorem kOb {w w' B} (hb:Below w.heap.size w w') (h:Ob w B):Ob w' B:=h.below hb
theorem kDb {w w' x n d V} (hb:Below w.heap.size w w') (h:Dn w x n d V):Dn w' x n d V:=h.below hb
theorem Ob.alloc {w B} (h:Ob w B) (o:Obj):Ob (w.alloc o) B:=h.below (below_alloc (Below.refl _ _) o)
theorem Ob.next {w w' B} {o:Obj} (h:Ob w B) (hb:Below (w.alloc o).heap.size (w.alloc o) w'):Ob w' B:=(h.alloc o).below hb
theorem Ob.drew {w B} (h:Ob w B):Ob w.drew B:=⟨h.z,h.z0,h.z1,h.z2,h.zf⟩
theorem Ob.drewN {w B} (h:Ob w B) (q:Nat):Ob (w.drewN q) B:=⟨h.z,h.z0,h.z1,h.z2,h.zf⟩
theorem ob_new (w:World) (t:TypeId):Ob (w.alloc (.cells #[.bool false,.slice none 0 0,.slice none 0 0] t)) w.heap.size:=by
 refine ⟨by simp,by simp [go_sem],by simp [go_sem],by simp [go_sem],fun o=>?_⟩;have e:=heap_alloc_new w (.cells #[.bool false,.slice none 0 0,.slice none 0 0] t);simp only [World.frozen?,e];simp
theorem rd_setne {w:World} {p:Addr} {v u:Value} {x n f} (hp:w.cell? p=some v) (hv:∀i,v≠.int .u64 i) (h:Rd .u64 w x n f):Rd .u64 (w.setCell p u) x n f:=by
 intro j hj;obtain ⟨b,o,hx,hc⟩:=h j hj;refine ⟨b,o,hx,?_⟩;rw [World.cell?_setCell_other _ _ _ _ (fun he=>hv _ (Option.some.inj (hp.symm.trans (he ▸ hc))))];exact hc
theorem Ob.rd {w B u0 u1 u2 x n f} (h:Ob w B) (hx:Rd .u64 w x n f):Rd .u64 (((w.setCell ⟨B,0,none⟩ u0).setCell ⟨B,1,none⟩ u1).setCell ⟨B,2,none⟩ u2) x n f :=
 rd_setne (cell_off (by decide) (cell_off (by decide) h.z2)) (fun i h=>by cases h) (rd_setne (cell_off (by decide) h.z1) (fun i h=>by cases h) (rd_setne h.z0 (fun i h=>by cases h) hx))
theorem Ob.wn {w B u0 u1 u2 s x n c f v} (h:Ob w B) (hx:Wn w s x n c f v):Wn (((w.setCell ⟨B,0,none⟩ u0).setCell ⟨B,1,none⟩ u1).setCell ⟨B,2,none⟩ u2) s x n c f v:=⟨h.rd hx.rd,hx.lm,hx.wf,hx.cap,hx.nil,hx.val⟩
theorem Ob.dn {w B u0 u1 u2 x n d V} (h:Ob w B) (hx:Dn w x n d V):Dn (((w.setCell ⟨B,0,none⟩ u0).setCell ⟨B,1,none⟩ u1).setCell ⟨B,2,none⟩ u2) x n d V:=⟨h.rd hx.rd,hx.dg,hx.fm,hx.val⟩
theorem Ob.rn {w B u0 u1 u2 L s x n c f y m d g q} (h:Ob w B) (hx:Rn L w s x n c f y m d g q):Rn L (((w.setCell ⟨B,0,none⟩ u0).setCell ⟨B,1,none⟩ u1).setCell ⟨B,2,none⟩ u2) s x n c f y m d g q:=⟨h.wn hx.num,h.wn hx.den,hx.ln,hx.ld⟩
theorem below_st {w0 w:World} {B:Nat} {u0 u1 u2:Value} (hw:Below w0.heap.size w0 w) (hB:w0.heap.size≤B) :
  Below w0.heap.size w0 (((w.setCell ⟨B,0,none⟩ u0).setCell ⟨B,1,none⟩ u1).setCell ⟨B,2,none⟩ u2) :=
 below_turned hw hw.size ((((Turned.refl w0.heap.size (B+1) w).set (x:=⟨B,0,none⟩) hB (by simp) _).set (x:=⟨B,1,none⟩) hB (by simp) _).set (x:=⟨B,2,none⟩) hB (by simp) _) (Nat.le_refl _)
theorem Dn.drewN {w x n d V} (h:Dn w x n d V) (q:Nat):Dn (w.drewN q) x n d V:=⟨h.rd,h.dg,h.fm,h.val⟩
theorem dn64 {w x n d V} (h:Dn w x n d V) (hn:n≤2):V<18446744073709551616:=by
 have h1:=vd_lt h.dg;rw [h.val] at h1;rcases (show n=0∨n=1∨n=2 by omega) with rfl | rfl | rfl <;> simp [pd] at h1 <;> omega
set_option maxRecDepth 100000 in
set_option maxHeartbeats 4000000 in
theorem mkSmall_c {w:World} {s x n c d y m e g} {A B:Nat} (ha:Dn w x n d A) (hb:Dn w y m g B) (h0:0<A) (hn:n≤2) (hm:m≤2) (hB:0<B) :
  Calls Tryz.prog 68 #[.agg #[.bool s,.slice x n c],.slice y m e] w fun en w'=>∃r z k c' d' z2 k2 c2 d2,en=.returned (.agg #[.bool r,.slice z k c',.slice z2 k2 c2])∧Below w.heap.size w w'∧k≤2∧k2≤2∧r=(s && decide (0<k))∧Dn w' z k d' (A/A.gcd B)∧Dn w' z2 k2 d2 (B/A.gcd B):=by
 have hA64:=dn64 ha hn;have hB64:=dn64 hb hm
 have hnp:0<n:=by
  rcases Nat.eq_zero_or_pos n with h | h
  ·subst h;have:(0:Int)=A:=ha.val;omega
  ·exact h
 have h1:=(ha.alloc (.cells #[.bool s,.slice x n c] 85)).alloc (.cells #[.bool false,.slice none 0 0,.slice none 0 0] 87);have h2:=(hb.alloc (.cells #[.bool s,.slice x n c] 85)).alloc (.cells #[.bool false,.slice none 0 0,.slice none 0 0] 87);have h3:=ob_new (w.alloc (.cells #[.bool s,.slice x n c] 85)) 87;rw [size_alloc1] at h3;have h4:=below_alloc (below_alloc (Below.refl w.heap.size w) (.cells #[.bool s,.slice x n c] 85)) (.cells #[.bool false,.slice none 0 0,.slice none 0 0] 87);have h5:(((w.alloc (.cells #[.bool s,.slice x n c] 85)).alloc (.cells #[.bool false,.slice none 0 0,.slice none 0 0] 87)).cell? ⟨w.heap.size,0,none⟩=some (.bool s)):=by simp [go_sem]
 clear ha hb;have hn0:((n:Int)==0)=false:=by simp;omega
 have hn2:decide ((n:Int)≤2)=true:=by simp;omega
 have hm2:decide ((m:Int)≤2)=true:=by simp;omega
 go_enter Tryz.func68,Tryz.ntmps68;go_wp2_with fail
 generalize (w.alloc (.cells #[.bool s,.slice x n c] 85)).alloc (.cells #[.bool false,.slice none 0 0,.slice none 0 0] 87)=w1 at *;have HA:=hid h1;have HB:=hid h2;have OB:=hid h3;have HW:=hid h4
 obtain ⟨hz,z0,z1,z2,zf⟩:=h3;clear h1 h2 h4;refine (rword_c HA.out hn).mono ?_;rintro en w2 ⟨rfl,rfl⟩;go_wp2_with fail
 refine (rword_c HB.out hm).mono ?_;rintro en w3 ⟨rfl,rfl⟩;go_wp2;go_loopw [7,8] (fun t u wr=>∃(G R q:Nat),t=.int .u64 G∧u=.int .u64 R∧wr=w3.drewN q∧0<G∧G<18446744073709551616∧R<18446744073709551616∧Hid (G.gcd R=A.gcd B)) (fun _ u _=>(intOf u).toNat)
 case atStart=>exact ⟨A,B,0,rfl,rfl,rfl,h0,hA64,hB64,rfl⟩
 case round =>
  obtain ⟨G,R,q,rfl,rfl,rfl,hG0,hG64,hR64,HG⟩:=hrel;by_cases hR:0<R
  ·have hd:decide ((0:Int)<(R:Int))=true:=by simp;omega
   have hne:((R:Int)==0)=false:=by simp;omega
   have hne':(R:Int)≠0:=by omega
   go_wp2
   go_quiet (fail)
   go_wp2;go_roundw
   case rel=>exact ⟨R,G%R,_,rfl,by simp,by (repeat rw [World.drewN_drewN]) <;> rfl,hR,hR64,by have:=Nat.mod_lt G hR;omega,hid (by rw [Nat.gcd_comm,←Nat.gcd_rec,Nat.gcd_comm];exact HG.out)⟩
   case measure=>have:=Nat.mod_lt G hR;simp only [intOf];omega
  ·have hd:decide ((0:Int)<(R:Int))=false:=by simp;omega
   have hR0:R=0:=by omega
   subst hR0;have hg:G=A.gcd B:=by have:=HG.out;rw [Nat.gcd_zero_right] at this;exact this
   go_wp2;have hwq:Below w.heap.size w (w3.drewN q):=below_drewN HW.out q;have OQ:=OB.out.drewN q;have hcq:(w3.drewN q).cell? ⟨w.heap.size,0,none⟩=some (.bool s):=h5;have hGi:(G:Int)≠0:=by omega
   have hGi':((G:Int)==0)=false:=by simp;omega
   have hGp:(0:Int)<(G:Int):=by omega
   have hGm:(G:Int)<18446744073709551616:=by omega
   have hA0:(0:Int)≤(A:Int):=by omega
   have hAm:(A:Int)<18446744073709551616:=by omega
   have hB0:(0:Int)≤(B:Int):=by omega
   have hBm:(B:Int)<18446744073709551616:=by omega
   obtain ⟨QA,hqa⟩:∃q:Int,(A:Int)/(G:Int)=q:=⟨_,rfl⟩;obtain ⟨QB,hqb⟩:∃q:Int,(B:Int)/(G:Int)=q:=⟨_,rfl⟩;have hQA0:0≤QA:=by rw [←hqa];exact Int.ediv_nonneg hA0 (by omega)
   have hQB0:0≤QB:=by rw [←hqb];exact Int.ediv_nonneg hB0 (by omega)
   have hQA1:QA<18446744073709551616:=by have:=Int.ediv_le_self (b:=(G:Int)) hA0;omega
   have hQB1:QB<18446744073709551616:=by have:=Int.ediv_le_self (b:=(G:Int)) hB0;omega
   have HqA:Hid (QA=((A/G:Nat):Int)):=hid (by rw [←hqa];exact (Int.natCast_ediv _ _).symm);have HqB:Hid (QB=((B/G:Nat):Int)):=hid (by rw [←hqb];exact (Int.natCast_ediv _ _).symm);have HG2:=hid hg;clear hg;clear HG hz z0 z1 z2 zf OB h5;generalize w3.drewN q=w4 at *;clear hG64 hA64 hB64 hR64 hd hG0;generalize hgi:(G:Int)=Gi at *;generalize hai:(A:Int)=Ai at *;generalize hbi:(B:Int)=Bi at *;have HgI:=hid hgi;have HaI:=hid hai;have HbI:=hid hbi
   have hGn:¬(Gi=0):=hGi;clear hgi hai hbi hGi;have hwa:IntKind.u64.wrap (Ai.tdiv Gi)=QA:=by rw [Int.tdiv_eq_ediv_of_nonneg hA0,hqa,IntKind.wrap_u64];omega
   have hwb:IntKind.u64.wrap (Bi.tdiv Gi)=QB:=by rw [Int.tdiv_eq_ediv_of_nonneg hB0,hqb,IntKind.wrap_u64];omega
   clear hqa hqb;obtain ⟨hz,z0,z1,z2,zf⟩:=id OQ;have C1:Hid (∀W,Below w4.heap.size w4 W→Calls Tryz.prog 72 #[.int .u64 QA] W fun e w'=>∃z k cap d,e=.returned (.slice z k cap)∧Below W.heap.size W w'∧Hid (k≤2∧Dn w' z k d (A/G))):=fun W hW=>by
    exact (word2_c QA W hQA0 hQA1).mono (fun e w' ⟨k,cap,h1,h2,h3,h4,h5,h6,h7⟩=>⟨_,k,cap,_,h1,h2,h3,h4,h5,h6,h7.trans HqA.out⟩)
   have C2:Hid (∀W,Below w4.heap.size w4 W→Calls Tryz.prog 72 #[.int .u64 QB] W fun e w'=>∃z k cap d,e=.returned (.slice z k cap)∧Below W.heap.size W w'∧Hid (k≤2∧Dn w' z k d (B/G))):=fun W hW=>by
    exact (word2_c QB W hQB0 hQB1).mono (fun e w' ⟨k,cap,h1,h2,h3,h4,h5,h6,h7⟩=>⟨_,k,cap,_,h1,h2,h3,h4,h5,h6,h7.trans HqB.out⟩)
   have C3:Hid (∀(W:World) (z:Option Addr) (k cap:Nat),k≤2→Calls Tryz.prog 69 #[.bool s,.slice z k cap] W fun e w'=>∃r,e=.returned (.agg #[.bool r,.slice z k cap])∧Below W.heap.size W w'∧Hid (r=(s && decide (0<k)))):=fun W z k cap hk=>(zMk_c s z k cap W (by omega)).mono (fun e w' ⟨r,h1,h2,h3⟩=>⟨r,h1,h3,h2⟩)
   go_region_held3 (fun w'=>w'.cell? ⟨w.heap.size,0,none⟩=some (.bool s)∧(w'.cell? ⟨w.heap.size+1,0,none⟩).isSome=true∧(w'.cell? ⟨w.heap.size+1,1,none⟩).isSome=true∧(w'.cell? ⟨w.heap.size+1,2,none⟩).isSome=true∧w'.frozen? ⟨w.heap.size+1,0,none⟩=false∧w'.frozen? ⟨w.heap.size+1,1,none⟩=false∧w'.frozen? ⟨w.heap.size+1,2,none⟩=false)
    (refine ⟨?_,?_,?_,?_,?_,?_,?_⟩ <;> repeat (with_reducible first | assumption | exact zf _ | exact tf _ | exact uf _ | exact vf' _ | exact kI0 z0 | exact kI0 z1 | exact kI0 z2 | exact kI0 t0 | exact kI0 t1 | exact kI0 t2 | exact kI0 u0 | exact kI0 u1 | exact kI0 u2 | exact kI0 v0 | exact kI0 v1 | exact kI0 v2 | refine kCd ?_ | refine kId ?_ | refine kFd ?_ | refine kCs (by simp only [ne_eq];omega) ?_ | refine kIs ?_ | refine kFs ?_ | refine kCb (by assumption) ?_ | refine kIb (by assumption) ?_))
    (first
     | (go_at_call 72;with_reducible refine (C1.out _ belA).mono ?_;rintro e w5 ⟨za,ka,ca,da,rfl,hb5,HP⟩;have hka:ka≤2:=HP.out.1;have TU:Ob w5 (w.heap.size+1):=(by repeat (with_reducible first | exact OQ | exact TU | exact TV | exact TW | refine Ob.drew ?_ | refine kOb (by assumption) ?_));obtain ⟨_,t0,t1,t2,tf⟩:=id TU)
     | (go_at_call 69;with_reducible refine (C3.out _ za ka ca hka).mono ?_;rintro e w6 ⟨r,rfl,hb6,HR⟩;have TV:Ob w6 (w.heap.size+1):=(by repeat (with_reducible first | exact OQ | exact TU | exact TV | exact TW | refine Ob.drew ?_ | refine kOb (by assumption) ?_));obtain ⟨_,u0,u1,u2,uf⟩:=id TV)
     | (go_at_call 72;with_reducible refine (C2.out _ belA).mono ?_;rintro e w7 ⟨zb,kb,cb,db,rfl,hb7,HQ⟩;have hkb:kb≤2:=HQ.out.1;have TW:Ob w7 (w.heap.size+1):=(by repeat (with_reducible first | exact OQ | exact TU | exact TV | exact TW | refine Ob.drew ?_ | refine kOb (by assumption) ?_));obtain ⟨_,v0,v1,v2,vf'⟩:=id TW))
   have hb:Below w4.heap.size w4 w7:=belA;have DA:=HP.out.2;have DB:=HQ.out.2
   have DA7:Dn w7 za ka da (A/G):=(by repeat (with_reducible first | exact DA | refine Dn.drew ?_ | refine kDb (by first | exact hb6 | exact hb7) ?_));go_wp2;refine bodyPost_ret (v:=.agg #[.bool r,.slice za ka ca,.slice zb kb cb]) (by simp [results,Tryz.results68,go_sem,v0,v1,v2]) rfl ⟨r,za,ka,ca,da,zb,kb,cb,db,rfl,below_st (hwq.trans (hb.mono hwq.size)) (by omega),hka,hkb,HR.out,?_,?_⟩
   ·rw [←HG2.out];exact TW.dn DA7
   ·rw [←HG2.out];exact TW.dn DB
theorem Tg.set {w x} (h:Tg w x) (p:Addr) (u:Value):Tg (w.setCell p u) x:=fun a ha=>by
 obtain ⟨arr,fr,hh⟩:=h a ha;by_cases e:a.block=p.block
 ·refine ⟨if p.spot.isSome then arr else arr.setIfInBounds p.off u,fr,?_⟩;rw [e] at hh ⊢;simp [World.setCell,Array.getElem?_modify,hh]
 ·exact ⟨arr,fr,(Below.heap_setCell w p u a.block e).trans hh⟩
theorem Tg.alloc {w x} (h:Tg w x) (o:Obj):Tg (w.alloc o) x:=h.below (below_alloc (Below.refl _ _) o)
theorem own_wn {w base x n c f} {V:Nat} (h:Own .u64 103 w base (.slice x n c) n f) (hl:Lm f n) (hf:Fm f n) (hv:vf f n=V):Wn w false x n c f (V:Int):=by
 obtain ⟨h1,h2,h3,h4,_⟩:=h.slice;exact ⟨h4,hl,(wfB_iff _ _ _).2 ⟨hf,fun h=>by cases h⟩,⟨h1,h2⟩,h3,hv⟩
theorem toWn_c {w x n c d} {V:Nat} (h:Dn w x n d V) (hn:n≤1048576) :
  Calls Tryz.prog 67 #[.slice x n c] w fun e w'=>∃z k c' f,e=.returned (.slice z k c')∧Below w.heap.size w w'∧Hid (k≤n∧Wn w' false z k c' f (V:Int)∧Tg w' z) :=
 (toOwn_c x n c d w hn h.rd h.dg h.fm).mono (fun _ _ ⟨z,k,c',f,h1,h2,h3,_,h4,h5,h6,h7⟩=>⟨z,k,c',f,h1,h3,h4,own_wn h2 h5 h6 (h7.trans h.val),h2.tg⟩)
set_option maxRecDepth 100000 in
set_option maxHeartbeats 4000000 in
theorem qTo_c {w:World} {r:Bool} {x n c d y m e g} {A B:Nat} (ha:Dn w x n d A) (hb:Dn w y m g B) (hn:n≤131072) (hm:m≤131072) :
  Calls Tryz.prog 43 #[.agg #[.bool r,.slice x n c,.slice y m e]] w fun en w'=>∃z k c' f z2 k2 c2 f2,en=.returned (.agg #[.bool r,.slice z k c',.slice z2 k2 c2])∧Below w.heap.size w w'∧k≤n∧k2≤m∧Wn w' false z k c' f (A:Int)∧Wn w' false z2 k2 c2 f2 (B:Int)∧Tg w' z∧Tg w' z2:=by
 have h1:=(ha.alloc (.cells #[.bool r,.slice x n c,.slice y m e] 87)).alloc (.cells #[.bool false,.slice none 0 0,.slice none 0 0] 24);have h2:=(hb.alloc (.cells #[.bool r,.slice x n c,.slice y m e] 87)).alloc (.cells #[.bool false,.slice none 0 0,.slice none 0 0] 24);have h3:=ob_new (w.alloc (.cells #[.bool r,.slice x n c,.slice y m e] 87)) 24;rw [size_alloc1] at h3;have h4:=below_alloc (below_alloc (Below.refl w.heap.size w) (.cells #[.bool r,.slice x n c,.slice y m e] 87)) (.cells #[.bool false,.slice none 0 0,.slice none 0 0] 24);have h5:=(bx3_at w (.bool r) (.slice x n c) (.slice y m e) 87).alloc (.cells #[.bool false,.slice none 0 0,.slice none 0 0] 24);clear ha hb;go_enter Tryz.func43,Tryz.ntmps43;go_wp2_with fail
 generalize (w.alloc (.cells #[.bool r,.slice x n c,.slice y m e] 87)).alloc (.cells #[.bool false,.slice none 0 0,.slice none 0 0] 24)=w1 at *;have HA:=hid h1;have HB:=hid h2;have OB:=h3;have HW:=hid h4
 obtain ⟨hz,z0,z1,z2,zf⟩:=h3;obtain ⟨hy,x0,x1,x2⟩:=h5;clear h1 h2 h4;have C1:Hid (∀W,Below w1.heap.size w1 W→Calls Tryz.prog 67 #[.slice x n c] W fun e w'=>∃z k c' f,e=.returned (.slice z k c')∧Below W.heap.size W w'∧Hid (k≤n∧Wn w' false z k c' f (A:Int)∧Tg w' z)):=fun W hW=>toWn_c (HA.out.below hW) (by omega)
 have C2:Hid (∀W,Below w1.heap.size w1 W→Calls Tryz.prog 67 #[.slice y m e] W fun e w'=>∃z k c' f,e=.returned (.slice z k c')∧Below W.heap.size W w'∧Hid (k≤m∧Wn w' false z k c' f (B:Int)∧Tg w' z)):=fun W hW=>toWn_c (HB.out.below hW) (by omega)
 go_region_held3 (fun w'=>w'.cell? ⟨w.heap.size,0,none⟩=some (.bool r)∧w'.cell? ⟨w.heap.size,1,none⟩=some (.slice x n c)∧w'.cell? ⟨w.heap.size,2,none⟩=some (.slice y m e)∧(w'.cell? ⟨w.heap.size+1,0,none⟩).isSome=true∧(w'.cell? ⟨w.heap.size+1,1,none⟩).isSome=true∧(w'.cell? ⟨w.heap.size+1,2,none⟩).isSome=true∧w'.frozen? ⟨w.heap.size+1,0,none⟩=false∧w'.frozen? ⟨w.heap.size+1,1,none⟩=false∧w'.frozen? ⟨w.heap.size+1,2,none⟩=false)
  (refine ⟨?_,?_,?_,?_,?_,?_,?_,?_,?_⟩ <;> repeat (with_reducible first | assumption | exact zf _ | exact kI0 z0 | exact kI0 z1 | exact kI0 z2 | exact tf _ | exact kI0 t0 | exact kI0 t1 | exact kI0 t2 | exact uf _ | exact kI0 u0 | exact kI0 u1 | exact kI0 u2 | refine kCd ?_ | refine kId ?_ | refine kFd ?_ | refine kCs (by simp only [ne_eq];omega) ?_ | refine kIs ?_ | refine kFs ?_ | refine kCb (by assumption) ?_ | refine kIb (by assumption) ?_))
  (first
   | (go_at_call 67;with_reducible refine (C1.out _ belA).mono ?_;rintro e w5 ⟨za,ka,ca,fa,rfl,hb5,HP⟩;have TU:Ob w5 (w.heap.size+1):=(by repeat (with_reducible first | exact OB | exact hO2 | exact TU | exact TV | exact TW | exact TX | exact TY | refine Ob.drew ?_ | refine kOb (by assumption) ?_));obtain ⟨_,t0,t1,t2,tf⟩:=id TU)
   | (go_at_call 67;with_reducible refine (C2.out _ belA).mono ?_;rintro e w6 ⟨zb,kb,cb,fb,rfl,hb6,HQ⟩;have TV:Ob w6 (w.heap.size+1):=(by repeat (with_reducible first | exact OB | exact hO2 | exact TU | exact TV | exact TW | exact TX | exact TY | refine Ob.drew ?_ | refine kOb (by assumption) ?_));obtain ⟨_,u0,u1,u2,uf⟩:=id TV))
 have WA:Wn w6 false za ka ca fa (A:Int):=HP.out.2.1.below hb6;have hb:Below w1.heap.size w1 w6:=belA;go_wp2;exact bodyPost_ret (v:=.agg #[.bool r,.slice za ka ca,.slice zb kb cb]) (by simp [results,Tryz.results43,go_sem,u0,u1,u2]) rfl ⟨za,ka,ca,fa,zb,kb,cb,fb,rfl,below_st (HW.out.trans (hb.mono HW.out.size)) (by omega),HP.out.1,HQ.out.1,TV.wn WA,TV.wn HQ.out.2.1,((((HP.out.2.2.below hb6).set _ _).set _ _).set _ _),(((HQ.out.2.2.set _ _).set _ _).set _ _)⟩
theorem kM0 {w:World} {g:Nat} {x y:Value} {t:TypeId} (h:g=w.heap.size):(w.alloc (.cells #[x,y] t)).cell? ⟨g,0,none⟩=some x:=by subst h;exact kN0
theorem kM1 {w:World} {g:Nat} {x y:Value} {t:TypeId} (h:g=w.heap.size):(w.alloc (.cells #[x,y] t)).cell? ⟨g,1,none⟩=some y:=by subst h;exact kN1
theorem kCe {w:World} {a:Addr} {v:Value} (h:(w.cell? a).isSome=true):(w.setCell a v).cell? a=some v:=World.cell?_setCell_same' w a v h
theorem kCo {w:World} {b i j:Nat} {u v:Value} (hij:i≠j) (h:w.cell? ⟨b,j,none⟩=some u):(w.setCell ⟨b,i,none⟩ v).cell? ⟨b,j,none⟩=some u:=by
 rw [World.cell?_setCell_other _ _ _ _ (fun he=>hij (congrArg Addr.off he))];exact h
structure FlAt (L:Nat) (w1 wx:World) (b4:Nat) (s:Bool) (z:Option Addr) (k c:Nat) (v:Int):Prop where
 bx:Bx wx b4 s z k c
 bel:Below w1.heap.size w1 wx
 wn:∃f,Wn wx s z k c f v
 le:k≤L+2
theorem two_new {w w1:World} {a0 a1 a2 b0 b1 b2:Value} {t:TypeId} (hb:Below ((w.alloc (.cells #[a0,a1,a2] t)).alloc (.cells #[b0,b1,b2] t)).heap.size ((w.alloc (.cells #[a0,a1,a2] t)).alloc (.cells #[b0,b1,b2] t)) w1) :
  Bx3 w1 w.heap.size a0 a1 a2∧Bx3 w1 (w.heap.size+1) b0 b1 b2∧Below w.heap.size w w1:=by
 have h2:=bx3_at (w.alloc (.cells #[a0,a1,a2] t)) b0 b1 b2 t;rw [size_alloc1] at h2;exact ⟨((bx3_at w a0 a1 a2 t).alloc _).below hb,h2.below hb,(below_alloc (below_alloc (Below.refl w.heap.size w) _) _).trans (hb.mono (by simp;omega))⟩
theorem beq_bool_true {s t:Bool} (h:s=t):(s==t)=true:=by subst h;cases s <;> rfl
theorem beq_bool_false {s t:Bool} (h:¬s=t):(s==t)=false:=by cases s <;> cases t <;> first | rfl | exact absurd rfl h
set_option maxHeartbeats 1000000 in
theorem rSame_c (sa:Bool) (xa ya:Option Addr) (na ca ma da:Nat) (fa ga:Nat→Int) (sb:Bool) (xb yb:Option Addr) (nb cb mb db:Nat) (fb gb:Nat→Int) (w:World) (h1:Rd .u64 w xa na fa) (h2:Rd .u64 w ya ma ga) (h3:Rd .u64 w xb nb fb) (h4:Rd .u64 w yb mb gb) (l1:na≤140737488355328) (l2:ma≤140737488355328) (l3:nb≤140737488355328) (l4:mb≤140737488355328) :
  Calls Tryz.prog 19 #[.agg #[.bool sa,.slice xa na ca,.slice ya ma da],.agg #[.bool sb,.slice xb nb cb,.slice yb mb db]] w fun e w'=>∃b,e=.returned (.bool b)∧Below w.heap.size w w'∧(b=true ↔ sa=sb∧Alk na nb fa fb∧Alk ma mb ga gb):=by
 have H1:=hid h1;have H2:=hid h2;have H3:=hid h3;have H4:=hid h4
 clear h1 h2 h3 h4;by_cases hs:sa=sb
 ·have hse:=beq_bool_true hs;have HS:=hid hs;clear hs;go_enter Tryz.func19,Tryz.ntmps19;go_wp2_with fail
  refine (same_c xa xb na nb ca cb fa fb _ l1 l3 ((H1.out.alloc _).alloc _) ((H3.out.alloc _).alloc _)).mono ?_;rintro e w1 ⟨⟨q,hq⟩,b,rfl,hb1⟩;obtain ⟨⟨za,x0,x1,x2⟩,⟨zb,y0,y1,y2⟩,hw⟩:=two_new (drewN_below hq);have HW1:=hid hw;have HB1:=hid hb1
  clear hq hw hb1;cases b
  ·go_wp2;go_ret;exact ⟨false,rfl,HW1.out,(fun h=>by cases h),fun h=>HB1.out.2 h.2.1⟩
  ·go_wp2_with fail
   refine (same_c ya yb ma mb da db ga gb _ l2 l4 (H2.out.below HW1.out (Nat.le_refl _)) (H4.out.below HW1.out (Nat.le_refl _))).mono ?_;rintro e w2 ⟨⟨q,hq⟩,b,rfl,hb2⟩;have HW2:=hid (HW1.out.trans ((drewN_below hq).mono HW1.out.size));have HB2:=hid hb2
   clear hq hb2;go_wp2;go_ret;exact ⟨b,rfl,HW2.out,fun h=>⟨HS.out,HB1.out.1 (by simp),HB2.out.1 h⟩,fun h=>HB2.out.2 h.2.2⟩
 ·have hse:=beq_bool_false hs;have HS:=hid hs;clear hs;go_enter Tryz.func19,Tryz.ntmps19;go_wp2;go_ret;exact ⟨false,rfl,below_alloc (below_alloc (Below.refl _ _) _) _,(fun h=>by cases h),fun h=>absurd h.1 HS.out⟩
def lg (n m k:Nat):Bool:=decide (n≤k) && decide (m≤k)
structure Zn (w:World) (s:Bool) (x:Option Addr) (n:Nat) (d:Nat→Int) (v:Int):Prop where
 dn:Dn w x n d v.natAbs
 sgn:v=sg s v.natAbs
 pos:s=true→0<n
theorem Zn.below {w w' s x n d v} (h:Zn w s x n d v) (hb:Below w.heap.size w w'):Zn w' s x n d v:=⟨h.dn.below hb,h.sgn,h.pos⟩
theorem Zn.alloc {w s x n d v} (h:Zn w s x n d v) (o:Obj):Zn (w.alloc o) s x n d v:=⟨h.dn.alloc o,h.sgn,h.pos⟩
theorem Zn.next {w w' s x n d v} {o:Obj} (h:Zn w s x n d v) (hb:Below (w.alloc o).heap.size (w.alloc o) w'):Zn w' s x n d v:=(h.alloc o).below hb
theorem Zn.of {w z k d V} {r s:Bool} (h:Dn w z k d V) (hr:r=(s && decide (0<k))):Zn w r z k d (sg s V):=by
 refine ⟨by rw [sg_natAbs];exact h,?_,fun h=>by rw [hr] at h;simp at h;exact h.2⟩;rw [sg_natAbs];rcases Nat.eq_zero_or_pos k with h0 | h0
 ·subst h0;have:=h.zero;subst this;cases s <;> cases r <;> rfl
 ·have:r=s:=by rw [hr];simp [h0]
  rw [this]
theorem mkZ_c {w:World} {s:Bool} {z:Option Addr} {k c:Nat} (hk:k≤1048576) :
  Calls Tryz.prog 69 #[.bool s,.slice z k c] w fun e w'=>∃r,e=.returned (.agg #[.bool r,.slice z k c])∧Below w.heap.size w w'∧Hid (r=(s && decide (0<k))):=(zMk_c s z k c w (by omega)).mono (fun _ _ ⟨r,h1,h2,h3⟩=>⟨r,h1,h3,h2⟩)
def e2 (s:Bool) (f:Nat→Int) (n:Nat) (t:Bool) (h:Nat→Int) (m:Nat):Int:=if wfB s f n && wfB t h m then 0 else 3
def kv (kind:Nat) (u v:Int):Int:=if kind=0 then u+v else if kind=1 then u-v else u*v
theorem kZd {w s x n d v} (h:Zn w s x n d v):Zn w.drew s x n d v:=⟨h.dn.drew,h.sgn,h.pos⟩
theorem kZb {w w' s x n d v} (hb:Below w.heap.size w w') (h:Zn w s x n d v):Zn w' s x n d v:=h.below hb
theorem Dn.one_iff {w x k d V} (h:Dn w x k d V):V=1 ↔ k=1∧d 0=1:=by
 constructor
 ·intro hV;have h1:Dg (fun _=>(1:Int)) 1:=fun j _=>⟨show (0:Int)≤1 by decide,show (1:Int)<4294967296 by decide⟩
  have h2:vd (fun _=>(1:Int)) 1=1:=by decide
  obtain ⟨e1,e2⟩:=vd_inj h.dg h1 h.fm (.inr (by decide)) (by rw [h.val,hV,h2];rfl);exact ⟨e1,e2 0 (by omega)⟩
 ·rintro ⟨rfl,h0⟩;have:=h.val;simp [vd,pd,h0] at this;omega
def MkGot (s:Bool) (n m:Nat) (A B:Nat) (w w':World) (en:Ending):Prop:=∃r z k c' d' z2 k2 c2 d2,en=.returned (.agg #[.bool r,.slice z k c',.slice z2 k2 c2])∧Below w.heap.size w w'∧k≤n+2∧k2≤m+2∧r=(s && decide (0<k))∧Dn w' z k d' (A/A.gcd B)∧Dn w' z2 k2 d2 (B/A.gcd B)
theorem and_pos {s:Bool} {n:Nat} (h:0<n):s=(s && decide (0<n)):=by simp [h]
set_option maxRecDepth 100000 in
set_option maxHeartbeats 8000000 in
theorem mkZero_c {w:World} {s:Bool} {x:Option Addr} {c:Nat} {d:Nat→Int} {y:Option Addr} {m e:Nat} {g:Nat→Int} {A B:Nat} (ha:Dn w x 0 d A) (_hb:Dn w y m g B) (hs:s=false) (hB:0<B) :
  Calls Tryz.prog 68 #[.agg #[.bool s,.slice x 0 c],.slice y m e] w fun en w'=>MkGot s 0 m A B w w' en:=by
 have hA:=ha.zero;have h3:=ob_new (w.alloc (.cells #[.bool s,.slice x 0 c] 85)) 87;rw [size_alloc1] at h3;have h4:=below_alloc (below_alloc (Below.refl w.heap.size w) (.cells #[.bool s,.slice x 0 c] 85)) (.cells #[.bool false,.slice none 0 0,.slice none 0 0] 87);have h5:Bx ((w.alloc (.cells #[.bool s,.slice x 0 c] 85)).alloc (.cells #[.bool false,.slice none 0 0,.slice none 0 0] 87)) w.heap.size s x 0 c:=Bx.alloc ⟨by simp,kN0,kN1⟩ _;clear ha;have HA:=hid hA;have HS:=hid hs
 clear hA hs;go_enter Tryz.func68,Tryz.ntmps68;go_wp2_with fail
 generalize (w.alloc (.cells #[.bool s,.slice x 0 c] 85)).alloc (.cells #[.bool false,.slice none 0 0,.slice none 0 0] 87)=w1 at *;have OB:=hid h3;have HW:=hid h4
 obtain ⟨hz,z0,z1,z2,zf⟩:=h3;obtain ⟨za,a0,a1⟩:=h5;clear h4;have C1:Hid (∀W:World,Calls Tryz.prog 72 #[.int .u64 1] W fun e w'=>∃z k cap d,e=.returned (.slice z k cap)∧Below W.heap.size W w'∧Hid (k≤1∧Dn w' z k d 1)):=fun W=>dWord_c (V:=1) (by decide)
 go_region_held3 (fun w'=>w'.cell? ⟨w.heap.size,0,none⟩=some (.bool s)∧w'.cell? ⟨w.heap.size,1,none⟩=some (.slice x 0 c)∧(w'.cell? ⟨w.heap.size+1,0,none⟩).isSome=true∧(w'.cell? ⟨w.heap.size+1,1,none⟩).isSome=true∧(w'.cell? ⟨w.heap.size+1,2,none⟩).isSome=true∧w'.frozen? ⟨w.heap.size+1,0,none⟩=false∧w'.frozen? ⟨w.heap.size+1,1,none⟩=false∧w'.frozen? ⟨w.heap.size+1,2,none⟩=false)
  (refine ⟨?_,?_,?_,?_,?_,?_,?_,?_⟩ <;> repeat (with_reducible first | assumption | exact zf _ | exact tf _ | exact kI0 z0 | exact kI0 z1 | exact kI0 z2 | exact kI0 t0 | exact kI0 t1 | exact kI0 t2 | refine kCd ?_ | refine kId ?_ | refine kFd ?_ | refine kCs (by simp only [ne_eq];omega) ?_ | refine kIs ?_ | refine kFs ?_ | refine kCb (by assumption) ?_ | refine kIb (by assumption) ?_))
  (first | (go_at_call 72;with_reducible refine (C1.out _).mono ?_;rintro e w5 ⟨zb,kb,cb,db,rfl,hb5,HP⟩;have TU:Ob w5 (w.heap.size+1):=(by repeat (with_reducible first | exact OB.out | refine Ob.drew ?_ | refine kOb (by assumption) ?_));obtain ⟨_,t0,t1,t2,tf⟩:=id TU))
 all_goals
  have hb:Below w1.heap.size w1 w5:=belB;go_wp2;refine bodyPost_ret (v:=.agg #[.bool s,.slice x 0 c,.slice zb kb cb]) (by simp [results,Tryz.results68,go_sem,t0,t1,t2]) rfl ⟨s,x,0,c,fun _=>0,zb,kb,cb,db,rfl,below_st (HW.out.trans (hb.mono HW.out.size)) (by omega),by omega,by have:=HP.out.1;omega,by rw [HS.out];rfl,?_,?_⟩
  ·rw [HA.out,Nat.zero_div];exact ⟨Rd.zero,fun j hj=>by omega,.inl rfl,rfl⟩
  ·rw [HA.out,Nat.gcd_zero_left,Nat.div_self hB];exact TU.dn HP.out.2
set_option maxRecDepth 100000 in
set_option maxHeartbeats 8000000 in
theorem mkLong_c {w:World} {s:Bool} {x:Option Addr} {n c:Nat} {d:Nat→Int} {y:Option Addr} {m e:Nat} {g:Nat→Int} {A B:Nat} (ha:Dn w x n d A) (hb:Dn w y m g B) (h0:0<A) (hn:n≤260000) (hm:m≤260000) (hB:0<B) (hl:¬(n≤2∧m≤2)) :
  Calls Tryz.prog 68 #[.agg #[.bool s,.slice x n c],.slice y m e] w fun en w'=>MkGot s n m A B w w' en:=by
 have hn0:=ha.pos h0;have h1:=(ha.alloc (.cells #[.bool s,.slice x n c] 85)).alloc (.cells #[.bool false,.slice none 0 0,.slice none 0 0] 87);have h2:=(hb.alloc (.cells #[.bool s,.slice x n c] 85)).alloc (.cells #[.bool false,.slice none 0 0,.slice none 0 0] 87);have h3:=ob_new (w.alloc (.cells #[.bool s,.slice x n c] 85)) 87;rw [size_alloc1] at h3;have h4:=below_alloc (below_alloc (Below.refl w.heap.size w) (.cells #[.bool s,.slice x n c] 85)) (.cells #[.bool false,.slice none 0 0,.slice none 0 0] 87);have h5:Bx ((w.alloc (.cells #[.bool s,.slice x n c] 85)).alloc (.cells #[.bool false,.slice none 0 0,.slice none 0 0] 87)) w.heap.size s x n c:=Bx.alloc ⟨by simp,kN0,kN1⟩ _;clear ha hb;have hnd:((n:Int)==0)=false:=by simp;omega
 have hcase:decide ((n:Int)≤2)=false∨(decide ((n:Int)≤2)=true∧decide ((m:Int)≤2)=false):=by
  by_cases h:n≤2
  ·right;exact ⟨decide_eq_true (by omega),decide_eq_false (by omega)⟩
  ·left;exact decide_eq_false (by omega)
 have HBp:=hid hB;have HAp:=hid h0
 have HGp:=hid (show 0<A.gcd B from Nat.gcd_pos_of_pos_left _ h0);clear hl hB h0;go_enter Tryz.func68,Tryz.ntmps68;rcases hcase with hd1 | ⟨hd1,hd2⟩
 all_goals
  go_wp2_with fail
  generalize (w.alloc (.cells #[.bool s,.slice x n c] 85)).alloc (.cells #[.bool false,.slice none 0 0,.slice none 0 0] 87)=w1 at *;have HA:=hid h1;have HB:=hid h2;have OB:=hid h3;have HW:=hid h4;have BX:=hid h5
  clear h1 h2 h3 h4 h5;refine (rgcd_c HA.out HB.out (by omega) (by omega)).mono ?_;rintro en w2 ⟨zg,kg,cg,dg,rfl,hb2,HG⟩;have HB2:=hid hb2;have hkg:=HG.out.1;have hone:=HG.out.2.one_iff;clear hb2;obtain ⟨za,a0,a1⟩:=BX.out.below HB2.out;by_cases hg1:A.gcd B=1
  ·obtain ⟨hk1,hd0⟩:=hone.1 hg1;subst hk1;have hr:=HG.out.2.rd;obtain ⟨bk,o,rfl⟩:=hr.at (by omega);have hcell:=hr.cell (j:=0) (by omega);rw [hd0,Nat.add_zero] at hcell;have HG1:=hid hg1;clear hg1 hone hr hd0;obtain ⟨hz,z0,z1,z2,zf⟩:=OB.out.below HB2.out;go_wp2;refine bodyPost_ret (v:=.agg #[.bool s,.slice x n c,.slice y m e]) (by simp [results,Tryz.results68,go_sem,z0,z1,z2]) rfl ⟨s,x,n,c,d,y,m,e,g,rfl,below_st (HW.out.trans (HB2.out.mono HW.out.size)) (by omega),by omega,by omega,and_pos hn0,?_,?_⟩
   ·rw [HG1.out,Nat.div_one];exact (OB.out.below HB2.out).dn (HA.out.below HB2.out)
   ·rw [HG1.out,Nat.div_one];exact (OB.out.below HB2.out).dn (HB.out.below HB2.out)
  ·have hgc:((kg:Int)==1)=false∨(kg=1∧(dg 0==1)=false):=by
    by_cases hk:kg=1
    ·right;refine ⟨hk,?_⟩
     simp;intro h;exact hg1 (hone.2 ⟨hk,h⟩)
    ·left;simp;omega
   have HGn:=hid hg1;clear hg1 hone;rcases hgc with hgk | ⟨hgk,hgd⟩
   all_goals
    try (subst hgk;have hr:=HG.out.2.rd;obtain ⟨bk,o,rfl⟩:=hr.at (by omega);have hcell:=hr.cell (j:=0) (by omega);rw [Nat.add_zero] at hcell;clear hr)
    go_wp2_with fail
    refine (rdiv_c (HA.out.below HB2.out) HG.out.2 (by omega) (by omega) HGp.out).mono ?_;rintro en w3 ⟨zq,kq,cq,dq,zr,kr,cr,dr,rfl,hb3,H3⟩;have HB3:=hid hb3;have hkq:=H3.out.1
    clear hb3;go_wp2_with fail
    refine (rdiv_c ((HB.out.below HB2.out).below HB3.out) (HG.out.2.below HB3.out) (by omega) (by omega) HGp.out).mono ?_;rintro en w4 ⟨zp,kp,cp,dp,zs,ks,cs,ds,rfl,hb4,H4⟩;have HB4:=hid (HB2.out.trans ((HB3.out.trans (hb4.mono HB3.out.size)).mono HB2.out.size));have HB34:=hid hb4
    have hkp:=H4.out.1;clear hb4 za a0 a1;obtain ⟨za,a0,a1⟩:=BX.out.below HB4.out;go_wp2_with fail
    refine (mkZ_c (by omega)).mono ?_;rintro en w5 ⟨r5,rfl,hb5,HR5⟩;have HB5:=hid (HB4.out.trans (hb5.mono HB4.out.size));have DQ:=hid ((H3.out.2.2.1.below HB34.out).below hb5);have DP:=hid (H4.out.2.2.1.below hb5)
    clear hb5 za a0 a1;obtain ⟨hz,z0,z1,z2,zf⟩:=OB.out.below HB5.out;go_wp2;exact bodyPost_ret (v:=.agg #[.bool r5,.slice zq kq cq,.slice zp kp cp]) (by simp [results,Tryz.results68,go_sem,z0,z1,z2]) rfl ⟨r5,zq,kq,cq,dq,zp,kp,cp,dp,rfl,below_st (HW.out.trans (HB5.out.mono HW.out.size)) (by omega),by omega,by omega,HR5.out,(OB.out.below HB5.out).dn DQ.out,(OB.out.below HB5.out).dn DP.out⟩
theorem mkQ_c {w:World} {s:Bool} {x:Option Addr} {n c:Nat} {d:Nat→Int} {y:Option Addr} {m e:Nat} {g:Nat→Int} {A B:Nat} (ha:Dn w x n d A) (hb:Dn w y m g B) (hs:s=true→0<n) (hn:n≤260000) (hm:m≤260000) (hB:0<B) :
  Calls Tryz.prog 68 #[.agg #[.bool s,.slice x n c],.slice y m e] w fun en w'=>MkGot s n m A B w w' en:=by
 rcases Nat.eq_zero_or_pos n with h0 | h0
 ·subst h0;exact mkZero_c ha hb (by cases s;rfl;exact absurd (hs rfl) (by omega)) hB
 ·have hA:=ha.pos' h0;by_cases hl:n≤2∧m≤2
  ·exact (mkSmall_c ha hb hA hl.1 hl.2 hB).mono (fun _ _ ⟨r,z,k,c',d',z2,k2,c2,d2,h1,h2,h3,h4,h5,h6,h7⟩=>⟨r,z,k,c',d',z2,k2,c2,d2,h1,h2,by omega,by omega,h5,h6,h7⟩)
  ·exact mkLong_c ha hb hA hn hm hB hl
structure Qn (w:World) (s:Bool) (x:Option Addr) (n:Nat) (d:Nat→Int) (y:Option Addr) (m:Nat) (g:Nat→Int) (q:Rat):Prop where
 num:Zn w s x n d q.num
 den:Dn w y m g q.den
theorem Qn.below {w w' s x n d y m g q} (h:Qn w s x n d y m g q) (hb:Below w.heap.size w w'):Qn w' s x n d y m g q:=⟨h.num.below hb,h.den.below hb⟩
theorem Qn.alloc {w s x n d y m g q} (h:Qn w s x n d y m g q) (o:Obj):Qn (w.alloc o) s x n d y m g q:=⟨h.num.alloc o,h.den.alloc o⟩
theorem Ob.zn {w B u0 u1 u2 s x n d v} (h:Ob w B) (hx:Zn w s x n d v):Zn (((w.setCell ⟨B,0,none⟩ u0).setCell ⟨B,1,none⟩ u1).setCell ⟨B,2,none⟩ u2) s x n d v:=⟨h.dn hx.dn,hx.sgn,hx.pos⟩
theorem Ob.qn {w B u0 u1 u2 s x n d y m g q} (h:Ob w B) (hx:Qn w s x n d y m g q):Qn (((w.setCell ⟨B,0,none⟩ u0).setCell ⟨B,1,none⟩ u1).setCell ⟨B,2,none⟩ u2) s x n d y m g q:=⟨h.zn hx.num,h.dn hx.den⟩
def QAns (L:Nat) (w w':World) (e:Ending) (q:Rat):Prop:=∃s x n c d y m c' g,e=.returned (.agg #[.bool s,.slice x n c,.slice y m c'])∧Below w.heap.size w w'∧n≤L∧m≤L∧Qn w' s x n d y m g q
theorem qbox1 {w:World} (a0 a1 a2:Value) (t u:TypeId) :
  Bx3 ((w.alloc (.cells #[a0,a1,a2] t)).alloc (.cells #[.bool false,.slice none 0 0,.slice none 0 0] u)) w.heap.size a0 a1 a2∧Ob ((w.alloc (.cells #[a0,a1,a2] t)).alloc (.cells #[.bool false,.slice none 0 0,.slice none 0 0] u)) (w.heap.size+1)∧Below w.heap.size w ((w.alloc (.cells #[a0,a1,a2] t)).alloc (.cells #[.bool false,.slice none 0 0,.slice none 0 0] u)):=by
 have h3:=ob_new (w.alloc (.cells #[a0,a1,a2] t)) u;rw [size_alloc1] at h3;exact ⟨(bx3_at w a0 a1 a2 t).below (below_alloc (Below.refl _ _) _),h3,below_alloc (below_alloc (Below.refl w.heap.size w) _) _⟩
structure X2 (w:World) (B:Nat) (s:Bool) (x:Option Addr) (n c:Nat):Prop where
 z:B<w.heap.size
 c0:w.cell? ⟨B,0,none⟩=some (.bool s)
 c1:w.cell? ⟨B,1,none⟩=some (.slice x n c)
 zf:∀o,w.frozen? ⟨B,o,none⟩=false
theorem X2.below {w w' B s x n c} (h:X2 w B s x n c) (hb:Below w.heap.size w w'):X2 w' B s x n c:=by
 obtain ⟨h1,h2⟩:=bcell hb;exact ⟨Nat.lt_of_lt_of_le h.z hb.size,kCb hb h.c0,kCb hb h.c1,fun o=>(h2 _ _ h.z).trans (h.zf o)⟩
theorem X2.put {w B s x n c} (h:X2 w B s x n c) (r:Bool) (y:Option Addr) (m d:Nat):X2 ((w.setCell ⟨B,0,none⟩ (.bool r)).setCell ⟨B,1,none⟩ (.slice y m d)) B r y m d :=
 ⟨by simpa [World.setCell] using h.z,kCo (by decide) (kCe (kI0 h.c0)),kCe (kIs (kI0 h.c1)),fun o=>kFs (kFs (h.zf o))⟩
theorem X2.dn {w B s x n c u0 u1 y m d V} (h:X2 w B s x n c) (hx:Dn w y m d V):Dn ((w.setCell ⟨B,0,none⟩ u0).setCell ⟨B,1,none⟩ u1) y m d V :=
 ⟨rd_setne (cell_off (by decide) h.c1) (fun i h=>by cases h) (rd_setne h.c0 (fun i h=>by cases h) hx.rd),hx.dg,hx.fm,hx.val⟩
theorem X2.zn {w B s x n c u0 u1 t y m d v} (h:X2 w B s x n c) (hx:Zn w t y m d v):Zn ((w.setCell ⟨B,0,none⟩ u0).setCell ⟨B,1,none⟩ u1) t y m d v:=⟨h.dn hx.dn,hx.sgn,hx.pos⟩
theorem X2.drew {w B s x n c} (h:X2 w B s x n c):X2 w.drew B s x n c:=⟨h.z,h.c0,h.c1,h.zf⟩
set_option maxRecDepth 100000 in
set_option maxHeartbeats 400000 in
theorem rclone_c (ao:Option Addr) (n cap:Nat) (f:Nat→Int) (w:World) (hn:n≤1048576) (hr:Rd .u64 w ao n f) (hnil:ao=none→n=0∧cap=0) :
  Calls Tryz.prog 91 #[.slice ao n cap] w fun e w'=>∃ao' cap',e=.returned (.slice ao' n cap')∧Below w.heap.size w w'∧Own .u64 103 w' w.heap.size (.slice ao' n cap') n f:=by
 cases ao with
 | none =>
  obtain ⟨rfl,rfl⟩:=hnil rfl;go_enter Tryz.func91,Tryz.ntmps91;obtain ⟨i0,hi,hz0,hz1,hz2⟩:=info_parts Tryz.infoU64;go_wp2_with (at_builtin;refine wpList_append_own_none rfl (.const (.slice none 0 0)) (.tmp 3) 22 rfl w.heap.size 103 i0 1 Tryz.underlying22 hi (.slice none 0 0) 0 [] rfl (World.ownsRow_nil _ _ _ _) rfl ?_)
  go_ret;exact ⟨none,0,rfl,Below.refl _ _,own_nil _ _ _ _ _⟩
 | some ad =>
  clear hnil;have HR:=hid hr;clear hr;go_enter Tryz.func91,Tryz.ntmps91;obtain ⟨i0,hi,hz0,hz1,hz2⟩:=info_parts Tryz.infoU64;go_wp2_with (at_builtin;refine wpList_append_own w rfl (.const (.slice none 0 0)) (.tmp 3) 22 rfl w.heap.size 103 i0 (.int .u64 0) 1 8 Tryz.underlying22 hi hz0 hz1 hz2 rfl (by decide) (.slice none 0 0) 0 [] rfl (World.ownsRow_nil _ _ _ _) ad n cap (lst .u64 f n) rfl (by rw [lst_length,Nat.mul_one]) ?c1 (lst_one _ _ _) ?c2 ?c3 (Nat.le_refl _) ?_)
  case c1 =>
   intro j u hu;obtain ⟨hj,rfl⟩:=lst_getE hu;obtain ⟨b,o,e,hc⟩:=HR.out j hj;cases e
   rw [addr_add];exact hc
  case c2=>unfold maxLen;omega
  case c3=>omega
  intro v' w' hown hgr _;have hown':Own .u64 103 w' w.heap.size v' n f:=hown;have hbel:Below w.heap.size w w':=(Below.refl _ _).grown hgr (Nat.le_refl _) (fun k h=>by simp [Value.ownBlock] at h);obtain ⟨ao',cap',hv,hcc,hnn,hml,hrd,hlt⟩:=hown'.shape;rw [hv] at hown' ⊢;clear hown hgr hv;have HO:=hid hown';clear hown';go_wp2;go_ret;exact ⟨ao',cap',rfl,hbel,HO.out⟩
theorem cloneWn_c {w s x n c f v} (h:Wn w s x n c f v) (hn:n≤1048576) :
  Calls Tryz.prog 91 #[.slice x n c] w fun e w'=>∃z c',e=.returned (.slice z n c')∧Below w.heap.size w w'∧Hid (Wn w' s z n c' f v) :=
 (rclone_c x n c f w (by omega) h.rd h.nil).mono (fun _ _ ⟨z,c',h1,h2,h3⟩=>⟨z,c',h1,h2,h3.slice.2.2.2.1,h.lm,h.wf,⟨h3.slice.1,h3.slice.2.1⟩,h3.slice.2.2.1,h.val⟩)
set_option maxRecDepth 100000 in
set_option maxHeartbeats 4000000 in
theorem rCopy_n {L:Nat} {w:World} {sa:Bool} {xa:Option Addr} {na ca:Nat} {fa:Nat→Int} {ya:Option Addr} {ma da:Nat} {ga:Nat→Int} {a:Rat} (ha:Rn L w sa xa na ca fa ya ma da ga a) (hL:L≤200000) :
  Calls Tryz.prog 64 #[.agg #[.bool sa,.slice xa na ca,.slice ya ma da]] w fun e w'=>∃x c y d,e=.returned (.agg #[.bool sa,.slice x na c,.slice y ma d])∧Below w.heap.size w w'∧Rn L w' sa x na c fa y ma d ga a:=by
 have b1:=ha.ln;have b2:=ha.ld
 have h1:=(ha.alloc (.cells #[.bool sa,.slice xa na ca,.slice ya ma da] 24)).alloc (.cells #[.bool false,.slice none 0 0,.slice none 0 0] 24);have h3:=ob_new (w.alloc (.cells #[.bool sa,.slice xa na ca,.slice ya ma da] 24)) 24;rw [size_alloc1] at h3;have h4:=below_alloc (below_alloc (Below.refl w.heap.size w) (.cells #[.bool sa,.slice xa na ca,.slice ya ma da] 24)) (.cells #[.bool false,.slice none 0 0,.slice none 0 0] 24);have h5:=(bx3_at w (.bool sa) (.slice xa na ca) (.slice ya ma da) 24).alloc (.cells #[.bool false,.slice none 0 0,.slice none 0 0] 24);clear ha;go_enter Tryz.func64,Tryz.ntmps64;go_wp2_with fail
 generalize (w.alloc (.cells #[.bool sa,.slice xa na ca,.slice ya ma da] 24)).alloc (.cells #[.bool false,.slice none 0 0,.slice none 0 0] 24)=w1 at *;have HA:=hid h1;have OB:=h3;have HW:=hid h4
 obtain ⟨hz,z0,z1,z2,zf⟩:=h3;obtain ⟨hy,x0,x1,x2⟩:=h5;clear h1 h4;have C1:Hid (∀W,Below w1.heap.size w1 W→Calls Tryz.prog 91 #[.slice xa na ca] W fun e w'=>∃z c',e=.returned (.slice z na c')∧Below W.heap.size W w'∧Hid (Wn w' sa z na c' fa a.num)):=fun W hW=>cloneWn_c (HA.out.num.below hW) (by omega)
 have C2:Hid (∀W,Below w1.heap.size w1 W→Calls Tryz.prog 91 #[.slice ya ma da] W fun e w'=>∃z c',e=.returned (.slice z ma c')∧Below W.heap.size W w'∧Hid (Wn w' false z ma c' ga (a.den:Int))):=fun W hW=>cloneWn_c (HA.out.den.below hW) (by omega)
 go_region_held3 (fun w'=>w'.cell? ⟨w.heap.size,0,none⟩=some (.bool sa)∧w'.cell? ⟨w.heap.size,1,none⟩=some (.slice xa na ca)∧w'.cell? ⟨w.heap.size,2,none⟩=some (.slice ya ma da)∧(w'.cell? ⟨w.heap.size+1,0,none⟩).isSome=true∧(w'.cell? ⟨w.heap.size+1,1,none⟩).isSome=true∧(w'.cell? ⟨w.heap.size+1,2,none⟩).isSome=true∧w'.frozen? ⟨w.heap.size+1,0,none⟩=false∧w'.frozen? ⟨w.heap.size+1,1,none⟩=false∧w'.frozen? ⟨w.heap.size+1,2,none⟩=false)
  (refine ⟨?_,?_,?_,?_,?_,?_,?_,?_,?_⟩ <;> repeat (with_reducible first | assumption | exact zf _ | exact kI0 z0 | exact kI0 z1 | exact kI0 z2 | exact tf _ | exact kI0 t0 | exact kI0 t1 | exact kI0 t2 | exact uf _ | exact kI0 u0 | exact kI0 u1 | exact kI0 u2 | refine kCd ?_ | refine kId ?_ | refine kFd ?_ | refine kCs (by simp only [ne_eq];omega) ?_ | refine kIs ?_ | refine kFs ?_ | refine kCb (by assumption) ?_ | refine kIb (by assumption) ?_))
  (first
   | (go_at_call 91;with_reducible refine (C1.out _ belA).mono ?_;rintro e w5 ⟨zp,cp,rfl,hb5,HP⟩;have TU:Ob w5 (w.heap.size+1):=(by repeat (with_reducible first | exact OB | exact TU | exact TV | refine Ob.drew ?_ | refine kOb (by assumption) ?_));obtain ⟨_,t0,t1,t2,tf⟩:=id TU)
   | (go_at_call 91;with_reducible refine (C2.out _ belA).mono ?_;rintro e w6 ⟨zq,cq,rfl,hb6,HQ⟩;have TV:Ob w6 (w.heap.size+1):=(by repeat (with_reducible first | exact OB | exact TU | exact TV | refine Ob.drew ?_ | refine kOb (by assumption) ?_));obtain ⟨_,u0,u1,u2,uf⟩:=id TV))
 have WA:=HP.out.below hb6;have hb:Below w1.heap.size w1 w6:=belA;go_wp2;exact bodyPost_ret (v:=.agg #[.bool sa,.slice zp na cp,.slice zq ma cq]) (by simp [results,Tryz.results64,go_sem,u0,u1,u2]) rfl ⟨zp,cp,zq,cq,rfl,below_st (HW.out.trans (hb.mono HW.out.size)) (by omega),TV.wn WA,TV.wn HQ.out,b1,b2⟩
set_option maxRecDepth 100000 in
set_option maxHeartbeats 4000000 in
theorem rNeg_n {L:Nat} {w:World} {sa:Bool} {xa:Option Addr} {na ca:Nat} {fa:Nat→Int} {ya:Option Addr} {ma da:Nat} {ga:Nat→Int} {a:Rat} (ha:Rn L w sa xa na ca fa ya ma da ga a) (hL:L≤200000) :
  Calls Tryz.prog 38 #[.agg #[.bool sa,.slice xa na ca,.slice ya ma da]] w fun e w'=>RatTup L w w' e (-a):=by
 have HA0:=hid ha;have b1:=ha.num.cap;clear ha;go_enter Tryz.func38,Tryz.ntmps38;go_wp2_with fail
 refine (rForm_n ((HA0.out.alloc _).alloc _) (by omega)).mono ?_;rintro e w1 ⟨rfl,hbel⟩;have hbx:=((bx3_at w _ _ _ _).alloc _).below hbel;have hob:=(ob_new (w.alloc _) _).below hbel;rw [size_alloc1] at hob;have HW1:Hid (Below w.heap.size w w1):=(below_alloc (below_alloc (Below.refl w.heap.size w) _) _).trans (hbel.mono (by simp;omega));have HA1:=hid (HA0.out.below HW1.out);have OB1:=hid hob
 clear hbel hob HA0;obtain ⟨za,x0,x1,x2⟩:=hbx;go_wp2_with fail
 refine (rCopy_n HA1.out hL).mono ?_;rintro e w2 ⟨xp,cp,yp,dp,rfl,hb,hr⟩;have RP2:=hid hr;have OB2:=hid (OB1.out.below hb);have HW2:=hid (HW1.out.trans (hb.mono HW1.out.size))
 clear hr hb OB1 HW1 HA1 za x0 x1 x2;go_wp2_with fail
 refine (rsigned_c _ xp yp na cp ma dp _ (by omega)).mono ?_;rintro e w3 ⟨rs,rfl,HRS,hb⟩;have RP3:=hid (RP2.out.next hb);have OB3:=hid (OB2.out.next hb);have HW3:=hid ((below_alloc HW2.out _).trans (hb.mono (below_alloc HW2.out _).size))
 clear hb RP2 OB2 HW2;obtain ⟨hz,z0,z1,z2,zf⟩:=OB3.out;go_wp2;exact bodyPost_ret (v:=.tuple #[.agg #[.bool rs,.slice xp na cp,.slice yp ma dp],.int .i64 0]) (by simp [results,Tryz.results38,go_sem,z0,z1,z2]) rfl ⟨rs,xp,na,cp,fa,yp,ma,dp,ga,rfl,below_st HW3.out (by omega),OB3.out.rn (RP3.out.negate HRS.out)⟩
def ROrd (c:Int) (a b:Rat):Prop:=c=-1∧a<b∨c=0∧a=b∨c=1∧b<a
theorem rord_of {c:Int} {a b:Rat} (h:Ord c (a.num*b.den) (b.num*a.den)):ROrd c a b:=by
 rcases h with ⟨h1,h2⟩ | ⟨h1,h2⟩ | ⟨h1,h2⟩
 ·exact .inl ⟨h1,(Rat.lt_iff a b).2 h2⟩
 ·refine .inr (.inl ⟨h1,Rat.le_antisymm ((Rat.le_iff a b).2 ?_) ((Rat.le_iff b a).2 ?_)⟩)
  ·rw [h2];exact Int.le_refl _
  ·rw [h2];exact Int.le_refl _
 ·exact .inr (.inr ⟨h1,(Rat.lt_iff b a).2 h2⟩)
theorem prod_of {L:Nat} {w1 wx W5 w5:World} {b4:Nat} {r1:Bool} {p1:Option Addr} {k1 c1 n m:Nat} {q:Nat→Int} {v:Int} (hn:n≤L) (hm:m≤L) (hW:Below w1.heap.size w1 W5) (hD:WRes (n+m) W5 w5 r1 p1 k1 c1 q∧wv r1 q k1=v) (hT:Turned w1.heap.size W5.heap.size w5 wx) (hb:Bx wx b4 r1 p1 k1 c1):FlAt (2*L) w1 wx b4 r1 p1 k1 c1 v:=by
 have hQ:=hD.1.res.turned hW hT;have:=hQ.le;exact ⟨hb,hQ.bel,⟨q,hQ.rd,hQ.lm,hD.1.wfB,hQ.ncap,hQ.nil',hD.2⟩,by omega⟩
set_option maxRecDepth 100000 in
set_option maxHeartbeats 8000000 in
theorem rCmp_n {L:Nat} {w:World} {sa:Bool} {xa:Option Addr} {na ca:Nat} {fa:Nat→Int} {ya:Option Addr} {ma da:Nat} {ga:Nat→Int} {a:Rat} {sb:Bool} {xb:Option Addr} {nb cb:Nat} {fb:Nat→Int} {yb:Option Addr} {mb db:Nat} {gb:Nat→Int} {b:Rat} (ha:Rn L w sa xa na ca fa ya ma da ga a) (hb:Rn L w sb xb nb cb fb yb mb db gb b) (hL:L≤200000) :
  Calls Tryz.prog 115 #[.agg #[.bool sa,.slice xa na ca,.slice ya ma da],.agg #[.bool sb,.slice xb nb cb,.slice yb mb db]] w fun e w'=>∃c,e=.returned (.tuple #[.int .i64 c,.int .i64 0])∧Below w.heap.size w w'∧ROrd c a b:=by
 have HA0:=hid ha;have HB0:=hid hb
 have b1:=ha.ln;have b2:=ha.ld;have b3:=hb.ln;have b4:=hb.ld
 clear ha hb;go_enter Tryz.func115,Tryz.ntmps115;go_wp2_with fail
 refine (rForm_n ((HA0.out.alloc _).alloc _) (by omega)).mono ?_;rintro e w0 ⟨rfl,hbel⟩;obtain ⟨ba,bb,hw⟩:=two_new hbel;have BA0:=hid ba;have BB0:=hid bb;have HW0:=hid hw;have RA0:=hid (HA0.out.below hw);have RB0:=hid (HB0.out.below hw)
 clear hbel ba bb hw HA0 HB0;obtain ⟨zb,y0,y1,y2⟩:=BB0.out;go_wp2_with fail
 refine (rForm_n RB0.out (by omega)).mono ?_;rintro e w1 ⟨rfl,hb⟩;clear zb y0 y1 y2;have BA1:=hid (BA0.out.below hb);have BB1:=hid (BB0.out.below hb);have RA1:=hid (RA0.out.below hb);have RB1:=hid (RB0.out.below hb);have HW1:=hid (HW0.out.trans (hb.mono HW0.out.size))
 clear BA0 BB0 RA0 RB0 HW0 hb;obtain ⟨za,x0,x1,x2⟩:=BA1.out;obtain ⟨zb,y0,y1,y2⟩:=BB1.out;have C1:Hid (∀W,Below w1.heap.size w1 W→Calls Tryz.prog 87 #[.agg #[.bool sa,.slice xa na ca,.slice ya ma da]] W fun e w'=>e=.returned (.agg #[.bool sa,.slice xa na ca])∧Below W.heap.size W w'):=fun W _=>numer_c sa xa ya na ca ma da W
 have C2:Hid (∀W,Below w1.heap.size w1 W→Calls Tryz.prog 122 #[.agg #[.bool sb,.slice xb nb cb,.slice yb mb db]] W fun e w'=>e=.returned (.agg #[.bool false,.slice yb mb db])∧Below W.heap.size W w'):=fun W _=>denom_c sb xb yb nb cb mb db W
 have C3:Hid (∀W,Below w1.heap.size w1 W→Calls Tryz.prog 103 #[.agg #[.bool sa,.slice xa na ca],.agg #[.bool false,.slice yb mb db]] W fun e w'=>∃r1 p1 k1 c1 q,e=.returned (.tuple #[.agg #[.bool r1,.slice p1 k1 c1],.int .i64 0])∧Below W.heap.size W w'∧Hid (WRes (na+mb) W w' r1 p1 k1 c1 q∧wv r1 q k1=a.num*b.den)):=fun W hW=>by
  have h1:=(RA1.out.below hW).num;have h2:=(RB1.out.below hW).den
  refine (wMul_c sa false xa yb na mb ca db fa gb W (by omega) (by omega) h1.cap.1 h2.cap.1 h1.cap.2 h2.cap.2 h1.rd h2.rd h1.lm h2.lm).mono ?_;rintro e w' ⟨r,z,k,e',h,er,rfl,hres,hans⟩;obtain ⟨rfl,hv⟩:=hans.ok ⟨h1.wf,h2.wf⟩;exact ⟨r,z,k,e',h,rfl,hres.res.bel,hres,by rw [hv,h1.val,h2.val]⟩
 go_upto_region 3 with fail
 go_cut [6,7] from 18 to 25 (fun u t wx=>∃(wy:World) (b4:Nat) (s:Bool) (z:Option Addr) (k c:Nat),wy=wx∧u=.pointer (some ⟨b4,0,none⟩)∧t=.int .i64 0∧FlAt (2*L) w1 wy b4 s z k c (a.num*b.den))
 case first =>
  go_region_held3 (fun w'=>w'.cell? ⟨w.heap.size,0,none⟩=some (.bool sa)∧w'.cell? ⟨w.heap.size,1,none⟩=some (.slice xa na ca)∧w'.cell? ⟨w.heap.size,2,none⟩=some (.slice ya ma da)∧w'.cell? ⟨w.heap.size+1,0,none⟩=some (.bool sb)∧w'.cell? ⟨w.heap.size+1,1,none⟩=some (.slice xb nb cb)∧w'.cell? ⟨w.heap.size+1,2,none⟩=some (.slice yb mb db))
   (refine ⟨?_,?_,?_,?_,?_,?_⟩ <;> repeat (with_reducible first | assumption | refine kCd ?_ | refine kCa ?_ | refine kCs (by simp only [ne_eq];omega) ?_ | refine kCb (by assumption) ?_))
   (first
    | (go_at_call 87;with_reducible refine (C1.out _ belA).mono ?_;rintro e v3 ⟨rfl,hb3⟩;have hza:=hb3.size;(try simp at hza);obtain ⟨hc3,hf3⟩:=bcell hb3;(try have q100:w1.heap.size<v3.heap.size:=by omega))
    | (go_at_call 122;with_reducible refine (C2.out _ belA).mono ?_;rintro e v4 ⟨rfl,hb4⟩;have hzb:=hb4.size;(try simp at hzb);obtain ⟨hc4,hf4⟩:=bcell hb4;(try have q100:w1.heap.size<v4.heap.size:=by omega);(try have q102:v3.heap.size<v4.heap.size:=by omega))
    | (go_at_call 103;with_reducible refine (C3.out _ belA).mono ?_;rintro e v5 ⟨r1,p1,k1,c1,q,rfl,hb5,HD⟩;have hzc:=hb5.size;(try simp at hzc);obtain ⟨hc5,hf5⟩:=bcell hb5;(try have q100:w1.heap.size<v5.heap.size:=by omega);(try have q102:v3.heap.size<v5.heap.size:=by omega);(try have q104:v4.heap.size<v5.heap.size:=by omega)))
  all_goals
   go_wp2_with fail
   go_meet
   refine ⟨_,_,r1,p1,k1,c1,rfl,rfl,rfl,prod_of (by assumption) (by assumption) belA HD.out (by repeat (with_reducible first | exact Turned.refl _ _ _ | refine Turned.drew ?_ | refine Turned.alloc ?_ _ | refine Turned.set ?_ (by first | omega | (simp;done) | (simp;omega)) (by first | omega | (simp;done) | (simp;omega)) _)) ⟨(by first | omega | (simp;done) | (simp;omega)),(by repeat (with_reducible first | assumption | exact kN0 | exact kN1 | (refine kM0 ?_;(simp <;> fail)) | (refine kM1 ?_;(simp <;> fail)) | exact kI0 kN0 | exact kI0 kN1 | (refine kI0 (kM0 ?_);(simp <;> fail)) | (refine kI0 (kM1 ?_);(simp <;> fail)) | refine kCd ?_ | refine kCe ?_ | refine kCo (by decide) ?_ | refine kCs (by simp only [ne_eq];omega) ?_ | refine kCa ?_ | refine kCb (by assumption) ?_ | refine kId ?_ | refine kIs ?_ | refine kIa ?_ | refine kIb (by assumption) ?_)),(by repeat (with_reducible first | assumption | exact kN0 | exact kN1 | (refine kM0 ?_;(simp <;> fail)) | (refine kM1 ?_;(simp <;> fail)) | exact kI0 kN0 | exact kI0 kN1 | (refine kI0 (kM0 ?_);(simp <;> fail)) | (refine kI0 (kM1 ?_);(simp <;> fail)) | refine kCd ?_ | refine kCe ?_ | refine kCo (by decide) ?_ | refine kCs (by simp only [ne_eq];omega) ?_ | refine kCa ?_ | refine kCb (by assumption) ?_ | refine kId ?_ | refine kIs ?_ | refine kIa ?_ | refine kIb (by assumption) ?_))⟩⟩
 case rest =>
  obtain ⟨w2,bX,sX,zX,kX,cX,rfl,rfl,rfl,hbx,hb,⟨fX,hwn⟩,hleX⟩:=hcut;have BX2:=hid hbx;have WX2:=hid hwn
  clear hbx hwn za zb x0 x1 x2 y0 y1 y2 C1 C2 C3;have BA2:=hid (BA1.out.below hb);have BB2:=hid (BB1.out.below hb);have RA2:=hid (RA1.out.below hb);have RB2:=hid (RB1.out.below hb);have HW2:=hid (HW1.out.trans (hb.mono HW1.out.size))
  clear BA1 BB1 RA1 RB1 HW1 hb;obtain ⟨za,x0,x1,x2⟩:=BA2.out;obtain ⟨zb,y0,y1,y2⟩:=BB2.out;have C1:Hid (∀W,Below w2.heap.size w2 W→Calls Tryz.prog 87 #[.agg #[.bool sb,.slice xb nb cb,.slice yb mb db]] W fun e w'=>e=.returned (.agg #[.bool sb,.slice xb nb cb])∧Below W.heap.size W w'):=fun W _=>numer_c sb xb yb nb cb mb db W
  have C2:Hid (∀W,Below w2.heap.size w2 W→Calls Tryz.prog 122 #[.agg #[.bool sa,.slice xa na ca,.slice ya ma da]] W fun e w'=>e=.returned (.agg #[.bool false,.slice ya ma da])∧Below W.heap.size W w'):=fun W _=>denom_c sa xa ya na ca ma da W
  have C3:Hid (∀W,Below w2.heap.size w2 W→Calls Tryz.prog 103 #[.agg #[.bool sb,.slice xb nb cb],.agg #[.bool false,.slice ya ma da]] W fun e w'=>∃r1 p1 k1 c1 q,e=.returned (.tuple #[.agg #[.bool r1,.slice p1 k1 c1],.int .i64 0])∧Below W.heap.size W w'∧Hid (WRes (nb+ma) W w' r1 p1 k1 c1 q∧wv r1 q k1=b.num*a.den)):=fun W hW=>by
   have h1:=(RB2.out.below hW).num;have h2:=(RA2.out.below hW).den
   refine (wMul_c sb false xb ya nb ma cb da fb ga W (by omega) (by omega) h1.cap.1 h2.cap.1 h1.cap.2 h2.cap.2 h1.rd h2.rd h1.lm h2.lm).mono ?_;rintro e w' ⟨r,z,k,e',h,er,rfl,hres,hans⟩;obtain ⟨rfl,hv⟩:=hans.ok ⟨h1.wf,h2.wf⟩;exact ⟨r,z,k,e',h,rfl,hres.res.bel,hres,by rw [hv,h1.val,h2.val]⟩
  go_upto_region 4 with fail
  go_cut [8,9] from 26 to 33 (fun u t wx=>∃(wy:World) (b4:Nat) (s:Bool) (z:Option Addr) (k c:Nat),wy=wx∧u=.pointer (some ⟨b4,0,none⟩)∧t=.int .i64 0∧FlAt (2*L) w2 wy b4 s z k c (b.num*a.den))
  case first =>
   go_region_held3 (fun w'=>w'.cell? ⟨w.heap.size,0,none⟩=some (.bool sa)∧w'.cell? ⟨w.heap.size,1,none⟩=some (.slice xa na ca)∧w'.cell? ⟨w.heap.size,2,none⟩=some (.slice ya ma da)∧w'.cell? ⟨w.heap.size+1,0,none⟩=some (.bool sb)∧w'.cell? ⟨w.heap.size+1,1,none⟩=some (.slice xb nb cb)∧w'.cell? ⟨w.heap.size+1,2,none⟩=some (.slice yb mb db))
    (refine ⟨?_,?_,?_,?_,?_,?_⟩ <;> repeat (with_reducible first | assumption | refine kCd ?_ | refine kCa ?_ | refine kCs (by simp only [ne_eq];omega) ?_ | refine kCb (by assumption) ?_))
    (first
     | (go_at_call 87;with_reducible refine (C1.out _ belA).mono ?_;rintro e v3 ⟨rfl,hb3⟩;have hza:=hb3.size;(try simp at hza);obtain ⟨hc3,hf3⟩:=bcell hb3;(try have q100:w2.heap.size<v3.heap.size:=by omega))
     | (go_at_call 122;with_reducible refine (C2.out _ belA).mono ?_;rintro e v4 ⟨rfl,hb4⟩;have hzb:=hb4.size;(try simp at hzb);obtain ⟨hc4,hf4⟩:=bcell hb4;(try have q100:w2.heap.size<v4.heap.size:=by omega);(try have q102:v3.heap.size<v4.heap.size:=by omega))
     | (go_at_call 103;with_reducible refine (C3.out _ belA).mono ?_;rintro e v5 ⟨r1,p1,k1,c1,q,rfl,hb5,HD⟩;have hzc:=hb5.size;(try simp at hzc);obtain ⟨hc5,hf5⟩:=bcell hb5;(try have q100:w2.heap.size<v5.heap.size:=by omega);(try have q102:v3.heap.size<v5.heap.size:=by omega);(try have q104:v4.heap.size<v5.heap.size:=by omega)))
   all_goals
    go_wp2_with fail
    go_meet
    refine ⟨_,_,r1,p1,k1,c1,rfl,rfl,rfl,prod_of (by assumption) (by assumption) belA HD.out (by repeat (with_reducible first | exact Turned.refl _ _ _ | refine Turned.drew ?_ | refine Turned.alloc ?_ _ | refine Turned.set ?_ (by first | omega | (simp;done) | (simp;omega)) (by first | omega | (simp;done) | (simp;omega)) _)) ⟨(by first | omega | (simp;done) | (simp;omega)),(by repeat (with_reducible first | assumption | exact kN0 | exact kN1 | (refine kM0 ?_;(simp <;> fail)) | (refine kM1 ?_;(simp <;> fail)) | exact kI0 kN0 | exact kI0 kN1 | (refine kI0 (kM0 ?_);(simp <;> fail)) | (refine kI0 (kM1 ?_);(simp <;> fail)) | refine kCd ?_ | refine kCe ?_ | refine kCo (by decide) ?_ | refine kCs (by simp only [ne_eq];omega) ?_ | refine kCa ?_ | refine kCb (by assumption) ?_ | refine kId ?_ | refine kIs ?_ | refine kIa ?_ | refine kIb (by assumption) ?_)),(by repeat (with_reducible first | assumption | exact kN0 | exact kN1 | (refine kM0 ?_;(simp <;> fail)) | (refine kM1 ?_;(simp <;> fail)) | exact kI0 kN0 | exact kI0 kN1 | (refine kI0 (kM0 ?_);(simp <;> fail)) | (refine kI0 (kM1 ?_);(simp <;> fail)) | refine kCd ?_ | refine kCe ?_ | refine kCo (by decide) ?_ | refine kCs (by simp only [ne_eq];omega) ?_ | refine kCa ?_ | refine kCb (by assumption) ?_ | refine kId ?_ | refine kIs ?_ | refine kIa ?_ | refine kIb (by assumption) ?_))⟩⟩
  case rest =>
   obtain ⟨w3,bY,sY,zY,kY,cY,rfl,rfl,rfl,hby,hb,⟨fY,hwy⟩,hleY⟩:=hcut;have BY3:=hid hby;have WY3:=hid hwy
   clear hby hwy za zb x0 x1 x2 y0 y1 y2 C1 C2 C3;have BX3:=hid (BX2.out.below hb);have WX3:=hid (WX2.out.below hb);have HW3:=hid (HW2.out.trans (hb.mono HW2.out.size))
   clear BX2 WX2 HW2 hb;obtain ⟨zx,x0,x1⟩:=BX3.out;obtain ⟨zy,y0,y1⟩:=BY3.out;go_wp2_with fail
   refine (wCmp_c sX sY zX zY kX kY cX cY fX fY _ (by omega) (by omega) WX3.out.rd WY3.out.rd WX3.out.lm WY3.out.lm).mono ?_;rintro e w4 ⟨cc,er,rfl,hb,hcm⟩;have hcc:er=0∧ROrd cc a b:=by
    rcases hcm with ⟨_,h1,h2⟩ | ⟨h1,_⟩
    ·rw [WX3.out.val,WY3.out.val] at h2;exact ⟨h1,rord_of h2⟩
    ·exact absurd ⟨WX3.out.wf,WY3.out.wf⟩ h1
   obtain ⟨rfl,hord⟩:=hcc;have HO:=hid hord;have HW4:=hid (HW3.out.trans (hb.mono HW3.out.size))
   clear hcm hord hb;go_wp2
   go_ret2
   exact ⟨cc,rfl,HW4.out,HO.out⟩
theorem rfrac {v:Int} {s:Bool} {D:Nat} (hv:v=sg s v.natAbs) (hD:0<D) :
  ((v:Rat)/((D:Int):Rat)).num=sg s (v.natAbs/v.natAbs.gcd D)∧((v:Rat)/((D:Int):Rat)).den=D/v.natAbs.gcd D:=by
 have hG:0<v.natAbs.gcd D:=Nat.gcd_pos_of_pos_right _ hD;have e1:v.natAbs/v.natAbs.gcd D*v.natAbs.gcd D=v.natAbs:=Nat.div_mul_cancel (Nat.gcd_dvd_left _ _);have e2:D/v.natAbs.gcd D*v.natAbs.gcd D=D:=Nat.div_mul_cancel (Nat.gcd_dvd_right _ _);have h:=rmake (s:=s) (t:=false) (NA:=v.natAbs/v.natAbs.gcd D) (NB:=D/v.natAbs.gcd D) (G:=v.natAbs.gcd D) (by rw [e2];exact hD) (by rw [e1,e2]);rw [e1,e2,←hv] at h;simpa [sg] using h
theorem rmul_frac (a b:Rat):a*b=((a.num*b.num:Int):Rat)/(((a.den*b.den:Nat):Int):Rat):=by
 have h:=Rat.divInt_mul_divInt a.num b.num (d₁:=a.den) (d₂:=b.den);rw [Rat.num_divInt_den,Rat.num_divInt_den] at h;rw [h,Rat.divInt_eq_div];simp
theorem qbox2 {w:World} (a0 a1 a2 b0 b1 b2:Value) (t:TypeId) :
  Bx3 (((w.alloc (.cells #[a0,a1,a2] t)).alloc (.cells #[b0,b1,b2] t)).alloc (.cells #[.bool false,.slice none 0 0,.slice none 0 0] t)) w.heap.size a0 a1 a2∧Bx3 (((w.alloc (.cells #[a0,a1,a2] t)).alloc (.cells #[b0,b1,b2] t)).alloc (.cells #[.bool false,.slice none 0 0,.slice none 0 0] t)) (w.heap.size+1) b0 b1 b2∧Ob (((w.alloc (.cells #[a0,a1,a2] t)).alloc (.cells #[b0,b1,b2] t)).alloc (.cells #[.bool false,.slice none 0 0,.slice none 0 0] t)) (w.heap.size+1+1)∧Below w.heap.size w (((w.alloc (.cells #[a0,a1,a2] t)).alloc (.cells #[b0,b1,b2] t)).alloc (.cells #[.bool false,.slice none 0 0,.slice none 0 0] t)):=by
 have h1:=bx3_at w a0 a1 a2 t;have h2:=bx3_at (w.alloc (.cells #[a0,a1,a2] t)) b0 b1 b2 t;rw [size_alloc1] at h2;have h3:=ob_new ((w.alloc (.cells #[a0,a1,a2] t)).alloc (.cells #[b0,b1,b2] t)) t;rw [size_alloc1,size_alloc1] at h3;exact ⟨(h1.alloc _).alloc _,h2.alloc _,h3,below_alloc (below_alloc (below_alloc (Below.refl w.heap.size w) _) _) _⟩
theorem mkQn_c {w:World} {s:Bool} {x:Option Addr} {n c:Nat} {d:Nat→Int} {v:Int} {y:Option Addr} {m e:Nat} {g:Nat→Int} {D:Nat} (ha:Zn w s x n d v) (hb:Dn w y m g D) (hn:n≤260000) (hm:m≤260000) (hD:0<D) :
  Calls Tryz.prog 68 #[.agg #[.bool s,.slice x n c],.slice y m e] w fun en w'=>∃s' x' n' c1 d' y' m' c2 g',en=.returned (.agg #[.bool s',.slice x' n' c1,.slice y' m' c2])∧Below w.heap.size w w'∧Hid (n'≤n+2∧m'≤m+2∧Qn w' s' x' n' d' y' m' g' ((v:Rat)/((D:Int):Rat))):=by
 refine (mkQ_c ha.dn hb ha.pos hn hm hD).mono ?_;rintro en w' ⟨r,z,k,c',d',z2,k2,c2,d2,rfl,h2,h3,h4,h5,h6,h7⟩;obtain ⟨e1,e2⟩:=rfrac ha.sgn hD;have hz:=Zn.of h6 h5;rw [←e1] at hz;rw [←e2] at h7;exact ⟨r,z,k,c',d',z2,k2,c2,d2,rfl,h2,h3,h4,hz,h7⟩
theorem rquo_frac {a b:Rat} {s t:Bool} (ha:a.num=sg s a.num.natAbs) (hb:b.num=sg t b.num.natAbs) (h0:0<b.num.natAbs):a/b=((sg (!(s==t)) (a.num.natAbs*b.den):Int):Rat)/(((a.den*b.num.natAbs:Nat):Int):Rat):=by
 obtain ⟨e1,e2⟩:=rinv hb h0;rw [Rat.div_def,rmul_frac,e1,e2];have e3:a.num*sg t b.den=sg (s != t) (a.num.natAbs*b.den):=by
  have:=sg_mul s t a.num.natAbs b.den;rw [←ha] at this;exact this
 rw [e3];have e4:(s != t)=!(s==t):=by cases s <;> cases t <;> rfl
 rw [e4]
set_option maxRecDepth 100000 in
set_option maxHeartbeats 16000000 in
theorem qQuo_c {w:World} {sa:Bool} {xa:Option Addr} {na ca:Nat} {da:Nat→Int} {ya:Option Addr} {ma ea:Nat} {ga:Nat→Int} {qa:Rat} {sb:Bool} {xb:Option Addr} {nb cb:Nat} {db:Nat→Int} {yb:Option Addr} {mb eb:Nat} {gb:Nat→Int} {qb:Rat} (ha:Qn w sa xa na da ya ma ga qa) (hb:Qn w sb xb nb db yb mb gb qb) (hna:na≤32000) (hma:ma≤32000) (hnb:nb≤32000) (hmb:mb≤32000) (hq0:qb.num≠0) :
  Calls Tryz.prog 44 #[.agg #[.bool sa,.slice xa na ca,.slice ya ma ea],.agg #[.bool sb,.slice xb nb cb,.slice yb mb eb]] w fun e w'=>QAns (na+ma+nb+mb+3) w w' e (qa/qb):=by
 obtain ⟨h1,h2,h3,h4⟩:=qbox2 (w:=w) (.bool sa) (.slice xa na ca) (.slice ya ma ea) (.bool sb) (.slice xb nb cb) (.slice yb mb eb) 87;have h5:=((ha.alloc (.cells #[.bool sa,.slice xa na ca,.slice ya ma ea] 87)).alloc (.cells #[.bool sb,.slice xb nb cb,.slice yb mb eb] 87)).alloc (.cells #[.bool false,.slice none 0 0,.slice none 0 0] 87);have h6:=((hb.alloc (.cells #[.bool sa,.slice xa na ca,.slice ya ma ea] 87)).alloc (.cells #[.bool sb,.slice xb nb cb,.slice yb mb eb] 87)).alloc (.cells #[.bool false,.slice none 0 0,.slice none 0 0] 87);clear ha hb;go_enter Tryz.func44,Tryz.ntmps44;go_wp2_with fail
 generalize ((w.alloc (.cells #[.bool sa,.slice xa na ca,.slice ya ma ea] 87)).alloc (.cells #[.bool sb,.slice xb nb cb,.slice yb mb eb] 87)).alloc (.cells #[.bool false,.slice none 0 0,.slice none 0 0] 87)=w1 at *;have HA:=hid h5;have HB:=hid h6;have OB:=hid h3;have HW:=hid h4
 obtain ⟨za,a0,a1,a2⟩:=h1;obtain ⟨zb,b0,b1,b2⟩:=h2;obtain ⟨hz,z0,z1,z2,zf⟩:=h3;clear h4 h5 h6;have hp0:0<qb.num.natAbs:=by omega
 have HP0:=hid hp0;have HD:=hid (show 0<qa.den*qb.num.natAbs from Nat.mul_pos qa.den_pos hp0);clear hp0 hq0;have C2:Hid (∀(W:World),Below w1.heap.size w1 W→Calls Tryz.prog 70 #[.slice xa na ca,.slice yb mb eb] W fun e w'=>∃z k c' q,e=.returned (.slice z k c')∧Below W.heap.size W w'∧Hid (k≤na+mb∧Dn w' z k q (qa.num.natAbs*qb.den))):=fun W hW=>dMul_c (HA.out.num.dn.below hW) (HB.out.den.below hW) (by omega) (by omega)
 have C3:Hid (∀(W:World) (z:Option Addr) (k c:Nat) (d:Nat→Int),k≤na+mb→Dn W z k d (qa.num.natAbs*qb.den)→Calls Tryz.prog 69 #[.bool (!(sa==sb)),.slice z k c] W fun e w'=>∃r,e=.returned (.agg #[.bool r,.slice z k c])∧Below W.heap.size W w'∧Hid (Zn w' r z k d (sg (!(sa==sb)) (qa.num.natAbs*qb.den)))):=fun W z k c d h1 h2=>(mkZ_c (by omega)).mono (fun _ _ ⟨r,k1,k2,k3⟩=>⟨r,k1,k2,Zn.of (h2.below k2) k3⟩)
 have C6:Hid (∀W,Below w1.heap.size w1 W→Calls Tryz.prog 70 #[.slice ya ma ea,.slice xb nb cb] W fun e w'=>∃z k c' q,e=.returned (.slice z k c')∧Below W.heap.size W w'∧Hid (k≤ma+nb∧Dn w' z k q (qa.den*qb.num.natAbs))):=fun W hW=>dMul_c (HA.out.den.below hW) (HB.out.num.dn.below hW) (by omega) (by omega)
 have C7:Hid (∀(W:World) (s:Bool) (x:Option Addr) (n c:Nat) (d:Nat→Int) (y:Option Addr) (m e:Nat) (g:Nat→Int),n≤na+mb→m≤ma+nb→Zn W s x n d (sg (!(sa==sb)) (qa.num.natAbs*qb.den))→Dn W y m g (qa.den*qb.num.natAbs)→Calls Tryz.prog 68 #[.agg #[.bool s,.slice x n c],.slice y m e] W fun en w'=>∃s' x' n' c1 d' y' m' c2 g',en=.returned (.agg #[.bool s',.slice x' n' c1,.slice y' m' c2])∧Below W.heap.size W w'∧Hid (n'≤na+ma+nb+mb+3∧m'≤na+ma+nb+mb+3∧Qn w' s' x' n' d' y' m' g' (qa/qb))):=fun W s x n c d y m e g h1 h2 h3 h4=>(mkQn_c h3 h4 (by omega) (by omega) HD.out).mono (fun _ _ ⟨s',x',n',c1,d',y',m',c2,g',k1,k2,k3,k4,k5⟩=>⟨s',x',n',c1,d',y',m',c2,g',k1,k2,by omega,by omega,by rw [rquo_frac HA.out.num.sgn HB.out.num.sgn HP0.out];exact k5⟩)
 go_region_held3 (fun w'=>w'.cell? ⟨w.heap.size,0,none⟩=some (.bool sa)∧w'.cell? ⟨w.heap.size,1,none⟩=some (.slice xa na ca)∧w'.cell? ⟨w.heap.size,2,none⟩=some (.slice ya ma ea)∧w'.cell? ⟨w.heap.size+1,0,none⟩=some (.bool sb)∧w'.cell? ⟨w.heap.size+1,1,none⟩=some (.slice xb nb cb)∧w'.cell? ⟨w.heap.size+1,2,none⟩=some (.slice yb mb eb)∧(w'.cell? ⟨w.heap.size+1+1,0,none⟩).isSome=true∧(w'.cell? ⟨w.heap.size+1+1,1,none⟩).isSome=true∧(w'.cell? ⟨w.heap.size+1+1,2,none⟩).isSome=true∧w'.frozen? ⟨w.heap.size+1+1,0,none⟩=false∧w'.frozen? ⟨w.heap.size+1+1,1,none⟩=false∧w'.frozen? ⟨w.heap.size+1+1,2,none⟩=false)
  (refine ⟨?_,?_,?_,?_,?_,?_,?_,?_,?_,?_,?_,?_⟩ <;> repeat (with_reducible first | assumption | exact zf _ | exact tf _ | exact uf _ | exact kf _ | exact pf _ | exact kI0 z0 | exact kI0 z1 | exact kI0 z2 | exact kI0 t0 | exact kI0 t1 | exact kI0 t2 | exact kI0 u0 | exact kI0 u1 | exact kI0 u2 | exact kI0 k0 | exact kI0 k1 | exact kI0 k2 | exact kI0 p0 | exact kI0 p1 | exact kI0 p2 | refine kCd ?_ | refine kId ?_ | refine kFd ?_ | refine kCs (by simp only [ne_eq];omega) ?_ | refine kIs ?_ | refine kFs ?_ | refine kCb (by assumption) ?_ | refine kIb (by assumption) ?_))
  (first
   | (go_at_call 70;with_reducible refine (C2.out _ belB).mono ?_;rintro e v2 ⟨zm,km,cm,dm,rfl,hv2,H2⟩;have Tt:Ob v2 (w.heap.size+1+1):=(by repeat (with_reducible first | exact OB.out | exact Tt | exact Tu | exact Tk | exact Tp | refine Ob.drew ?_ | refine kOb (by assumption) ?_));obtain ⟨_,t0,t1,t2,tf⟩:=id Tt)
   | (go_at_call 69;with_reducible refine (C3.out _ zm km cm dm H2.out.1 (by repeat (with_reducible first | exact H2.out.2 | refine Dn.drew ?_ | refine kDb (by assumption) ?_))).mono ?_;rintro e v3 ⟨r3,rfl,hv3,H3⟩;have Tu:Ob v3 (w.heap.size+1+1):=(by repeat (with_reducible first | exact OB.out | exact Tt | exact Tu | exact Tk | exact Tp | refine Ob.drew ?_ | refine kOb (by assumption) ?_));obtain ⟨_,u0,u1,u2,uf⟩:=id Tu)
   | (go_at_call 70;with_reducible refine (C6.out _ belB).mono ?_;rintro e v6 ⟨z6,k6,c6,d6,rfl,hv6,H6⟩;have Tk:Ob v6 (w.heap.size+1+1):=(by repeat (with_reducible first | exact OB.out | exact Tt | exact Tu | exact Tk | exact Tp | refine Ob.drew ?_ | refine kOb (by assumption) ?_));obtain ⟨_,k0,k1,k2,kf⟩:=id Tk)
   | (go_at_call 68;with_reducible refine (C7.out _ r3 zm km cm dm z6 k6 c6 d6 H2.out.1 H6.out.1 (by repeat (with_reducible first | exact H3.out | refine kZd ?_ | refine kZb (by assumption) ?_)) (by repeat (with_reducible first | exact H6.out.2 | refine Dn.drew ?_ | refine kDb (by assumption) ?_))).mono ?_;rintro e v8 ⟨s8,x8,n8,c8,d8,y8,m8,e8,g8,rfl,hv8,H8⟩;have Tp:Ob v8 (w.heap.size+1+1):=(by repeat (with_reducible first | exact OB.out | exact Tt | exact Tu | exact Tk | exact Tp | refine Ob.drew ?_ | refine kOb (by assumption) ?_));obtain ⟨_,p0,p1,p2,pf⟩:=id Tp))
 all_goals
  have hb:Below w1.heap.size w1 v8:=belB;go_wp2;exact bodyPost_ret (v:=.agg #[.bool s8,.slice x8 n8 c8,.slice y8 m8 e8]) (by simp [results,Tryz.results44,go_sem,p0,p1,p2]) rfl ⟨s8,x8,n8,c8,d8,y8,m8,e8,g8,rfl,below_st (HW.out.trans (hb.mono HW.out.size)) (by omega),H8.out.1,H8.out.2.1,Tp.qn H8.out.2.2⟩
theorem qToR_c {w:World} {s:Bool} {x:Option Addr} {n c:Nat} {d:Nat→Int} {y:Option Addr} {m e:Nat} {g:Nat→Int} {q:Rat} (h:Qn w s x n d y m g q) (hn:n≤131072) (hm:m≤131072) :
  Calls Tryz.prog 43 #[.agg #[.bool s,.slice x n c,.slice y m e]] w fun en w'=>∃z k c' f z2 k2 c2 f2,en=.returned (.agg #[.bool s,.slice z k c',.slice z2 k2 c2])∧Below w.heap.size w w'∧Hid (Rn (n+m) w' s z k c' f z2 k2 c2 f2 q):=by
 refine (qTo_c h.num.dn h.den hn hm).mono ?_;rintro en w' ⟨z,k,c',f,z2,k2,c2,f2,rfl,h2,h3,h4,h5,h6,_,_⟩;refine ⟨z,k,c',f,z2,k2,c2,f2,rfl,h2,⟨h5.rd,h5.lm,(wfB_iff _ _ _).2 ⟨fm_of_wfB h5.wf,fun hs=>?_⟩,h5.cap,h5.nil,?_⟩,h6,by omega,by omega⟩
 ·have h0:=h.num.dn.pos' (h.num.pos hs);rcases Nat.eq_zero_or_pos k with hk | hk
  ·subst hk;have hv:=h5.val;rw [wv_false] at hv;have:(0:Int)=q.num.natAbs:=hv;omega
  ·exact hk
 ·have hv:=h5.val;rw [wv_false] at hv;have hs:=h.num.sgn;cases s
  ·rw [wv_false,hv];exact hs.symm
  ·rw [wv_true,hv];exact hs.symm
theorem zIntE_c {w:World} {z:Int} (h0:-9223372036854775808≤z) (h1:z≤9223372036854775807) :
  Calls Tryz.prog 71 #[.int .i64 z] w fun e w'=>∃s x n c d,e=.returned (.agg #[.bool s,.slice x n c])∧Below w.heap.size w w'∧Hid (n≤2∧Zn w' s x n d z):=by
 refine (zInt_c z w h0 h1).mono ?_;rintro e w' ⟨s,x,n,c,d,rfl,h⟩;have h2:=vd_nonneg h.dg;have hv:=h.val;cases s
 ·have hv':vd d n=z:=hv;exact ⟨false,x,n,c,d,rfl,h.bel,h.le,⟨h.rd,h.dg,h.fm,by omega⟩,by show z=(z.natAbs:Int);omega,h.sgn⟩
 ·have hv':- vd d n=z:=hv;exact ⟨true,x,n,c,d,rfl,h.bel,h.le,⟨h.rd,h.dg,h.fm,by omega⟩,by show z=-(z.natAbs:Int);omega,h.sgn⟩
set_option maxRecDepth 100000 in
set_option maxHeartbeats 4000000 in
theorem qInt_c {w:World} {z:Int} (h0:-9223372036854775808≤z) (h1:z≤9223372036854775807) :
  Calls Tryz.prog 45 #[.int .i64 z] w fun e w'=>QAns 2 w w' e (z:Rat):=by
 have h2:=ob_new w 87;have h3:=below_alloc (Below.refl w.heap.size w) (.cells #[.bool false,.slice none 0 0,.slice none 0 0] 87);go_enter Tryz.func45,Tryz.ntmps45;go_wp2_with fail
 generalize w.alloc (.cells #[.bool false,.slice none 0 0,.slice none 0 0] 87)=w1 at *;have OB:=hid h2;have HW:=hid h3
 clear h2 h3;refine (zIntE_c h0 h1).mono ?_;rintro e w2 ⟨s2,x2,n2,c2,d2,rfl,hb,H2⟩;have HB2:=hid hb;clear hb;go_wp2_with fail
 refine (dWord_c (V:=1) (by decide)).mono ?_;rintro e w3 ⟨z3,k3,c3,d3,rfl,hb,H3⟩;have HB3:=hid (HB2.out.trans (hb.mono HB2.out.size));have Z3:=hid (H2.out.2.below hb)
 have hk3:=H3.out.1;have hn2:=H2.out.1
 clear hb;obtain ⟨hz,z0,z1,z2,zf⟩:=OB.out.below HB3.out;go_wp2;refine bodyPost_ret (v:=.agg #[.bool s2,.slice x2 n2 c2,.slice z3 k3 c3]) (by simp [results,Tryz.results45,go_sem,z0,z1,z2]) rfl ⟨s2,x2,n2,c2,d2,z3,k3,c3,d3,rfl,below_st (HW.out.trans (HB3.out.mono HW.out.size)) (by omega),by omega,by omega,(OB.out.below HB3.out).qn ⟨?_,?_⟩⟩
 ·rw [Rat.num_intCast];exact Z3.out
 ·rw [Rat.den_intCast];exact H3.out.2
set_option maxRecDepth 100000 in
set_option maxHeartbeats 4000000 in
theorem docOfQ_c {w:World} {z:Int} (h0:-9223372036854775808≤z) (h1:z≤9223372036854775807) :
  Calls Tryz.prog 17 #[.int .i64 z] w fun e w'=>RatAns 4 w w' e (z:Rat):=by
 have h2:=ob_new w 24;have h3:=below_alloc (Below.refl w.heap.size w) (.cells #[.bool false,.slice none 0 0,.slice none 0 0] 24);go_enter Tryz.func17,Tryz.ntmps17;go_wp2_with fail
 generalize w.alloc (.cells #[.bool false,.slice none 0 0,.slice none 0 0] 24)=w1 at *;have OB:=hid h2;have HW:=hid h3
 clear h2 h3;refine (qInt_c h0 h1).mono ?_;rintro e w2 ⟨s2,x2,n2,c2,d2,y2,m2,e2,g2,rfl,hb,hl1,hl2,hq⟩;have HB2:=hid hb;have HQ:=hid hq
 clear hb hq;go_wp2_with fail
 refine (qToR_c HQ.out (by omega) (by omega)).mono ?_;rintro e w3 ⟨z3,k3,c3,f3,y3,m3,e3,g3,rfl,hb,R3⟩;have HB3:=hid (HB2.out.trans (hb.mono HB2.out.size));clear hb;obtain ⟨hz,z0,z1,z2,zf⟩:=OB.out.below HB3.out;go_wp2;exact bodyPost_ret (v:=.agg #[.bool s2,.slice z3 k3 c3,.slice y3 m3 e3]) (by simp [results,Tryz.results17,go_sem,z0,z1,z2]) rfl ⟨s2,z3,k3,c3,f3,y3,m3,e3,g3,rfl,below_st (HW.out.trans (HB3.out.mono HW.out.size)) (by omega),(OB.out.below HB3.out).rn (R3.out.mono (by omega))⟩
theorem size_st3 (w:World) (B:Nat) (u0 u1 u2:Value):(((w.setCell ⟨B,0,none⟩ u0).setCell ⟨B,1,none⟩ u1).setCell ⟨B,2,none⟩ u2).heap.size=w.heap.size:=by simp [World.setCell]
theorem Ob.put {w B} (h:Ob w B) (u0 u1 u2:Value):Bx3 (((w.setCell ⟨B,0,none⟩ u0).setCell ⟨B,1,none⟩ u1).setCell ⟨B,2,none⟩ u2) B u0 u1 u2 :=
 ⟨by rw [size_st3];exact h.z,kCo (by decide) (kCo (by decide) (kCe (kI0 h.z0))),kCo (by decide) (kCe (kIs (kI0 h.z1))),kCe (kIs (kIs (kI0 h.z2)))⟩
def kq (kind:Nat) (a b:Rat):Rat:=if kind=0 then a+b else if kind=1 then a-b else if kind=2 then a*b else a/b
def OQ (p:Bool) (kind:Nat) (qa qb:Rat) (w':World) (s:Bool) (x:Option Addr) (n c:Nat) (f:Nat→Int) (y:Option Addr) (m d:Nat) (g:Nat→Int) (er:Int):Prop :=
 p=false∧er=3∧n=0∧m=0∧s=false∨p=true∧(kind=3∧qb.num=0)∧er=4∧n=0∧m=0∧s=false∨p=true∧¬(kind=3∧qb.num=0)∧er=0∧Rn 2000 w' s x n c f y m d g (kq kind qa qb)
theorem OQ.st {p kind qa qb w' s x n c f y m d g er B u0 u1 u2} (h:OQ p kind qa qb w' s x n c f y m d g er) (hB:Ob w' B):OQ p kind qa qb (((w'.setCell ⟨B,0,none⟩ u0).setCell ⟨B,1,none⟩ u1).setCell ⟨B,2,none⟩ u2) s x n c f y m d g er:=by
 rcases h with h | h | ⟨h1,h2,h3,h4⟩
 ·exact .inl h
 ·exact .inr (.inl h)
 ·exact .inr (.inr ⟨h1,h2,h3,hB.rn h4⟩)
theorem Rn.num_zero {L w s x n c f y m d g q} (h:Rn L w s x n c f y m d g q):q.num=0 ↔ n=0:=by
 constructor
 ·intro h0;rcases Nat.eq_zero_or_pos n with hn | hn
  ·exact hn
  ·have h1:=vf_pos h.num.lm (fm_of_wfB h.num.wf) hn;have h2:=h.num.val;cases s
   ·rw [wv_false] at h2;omega
   ·rw [wv_true] at h2;omega
 ·intro hn;subst hn;have h2:=h.num.val;cases s
  ·rw [wv_false] at h2;exact h2.symm
  ·rw [wv_true] at h2;have:-(0:Int)=q.num:=h2;omega
set_option maxRecDepth 100000 in
set_option maxHeartbeats 4000000 in
theorem rOf_c {w:World} {z:Int} (h0:-9223372036854775808≤z) (h1:z≤9223372036854775807) :
  Calls Tryz.prog 58 #[.int .i64 z] w fun e w'=>RatAns 4 w w' e (z:Rat):=by
 have h2:=ob_new w 24;have h3:=below_alloc (Below.refl w.heap.size w) (.cells #[.bool false,.slice none 0 0,.slice none 0 0] 24);go_enter Tryz.func58,Tryz.ntmps58;go_wp2_with fail
 generalize w.alloc (.cells #[.bool false,.slice none 0 0,.slice none 0 0] 24)=w1 at *;have OB1:=hid h2;have HW1:=hid h3
 clear h2 h3;refine (wOf_c z w1 h0 h1).mono ?_;rintro e w2 ⟨s2,x2,n2,c2,f2,rfl,hr2,hv2⟩;have hb:=hr2.res.bel;have hn2:=hr2.res.le;have hw2:=(hr2.wn hv2).alloc (.cells #[.bool s2,.slice x2 n2 c2] 126);have hbx:Bx (w2.alloc (.cells #[.bool s2,.slice x2 n2 c2] 126)) w2.heap.size s2 x2 n2 c2:=⟨by simp,kN0,kN1⟩;have hob:=(OB1.out.below hb).alloc (.cells #[.bool s2,.slice x2 n2 c2] 126);have hbw:=below_alloc (HW1.out.trans (hb.mono HW1.out.size)) (.cells #[.bool s2,.slice x2 n2 c2] 126);have hB8:w.heap.size<w2.heap.size:=(OB1.out.below hb).z;clear hr2 hv2 hb OB1 HW1;go_wp2_with fail
 generalize w2.alloc (.cells #[.bool s2,.slice x2 n2 c2] 126)=w3 at *;generalize w2.heap.size=b3 at *;have W3:=hid hw2;have OB:=hid hob;have HW:=hid hbw
 obtain ⟨za,a0,a1⟩:=hbx;obtain ⟨hz,z0,z1,z2,zf⟩:=hob;clear hw2 hbw;have C1:Hid (∀W:World,Calls Tryz.prog 79 #[] W fun e w'=>∃x f,e=.returned (.slice x 1 1)∧Below W.heap.size W w'∧Hid (Wn w' false x 1 1 f 1)):=fun W=>ratOne_c W
 have C2:Hid (∀(W:World) (y:Option Addr),Calls Tryz.prog 65 #[.bool s2,.slice x2 n2 c2,.slice y 1 1] W fun e w'=>∃r,e=.returned (.agg #[.bool r,.slice x2 n2 c2,.slice y 1 1])∧Below W.heap.size W w'∧Hid (r=(s2 && decide (0<n2)))):=fun W y=>(rsigned_c s2 x2 y n2 c2 1 1 W (by omega)).mono (fun _ _ ⟨r,k1,k2,k3⟩=>⟨r,k1,k3,k2⟩)
 go_region_held3 (fun w'=>w'.cell? ⟨b3,0,none⟩=some (.bool s2)∧w'.cell? ⟨b3,1,none⟩=some (.slice x2 n2 c2)∧(w'.cell? ⟨w.heap.size,0,none⟩).isSome=true∧(w'.cell? ⟨w.heap.size,1,none⟩).isSome=true∧(w'.cell? ⟨w.heap.size,2,none⟩).isSome=true∧w'.frozen? ⟨w.heap.size,0,none⟩=false∧w'.frozen? ⟨w.heap.size,1,none⟩=false∧w'.frozen? ⟨w.heap.size,2,none⟩=false)
  (refine ⟨?_,?_,?_,?_,?_,?_,?_,?_⟩ <;> repeat (with_reducible first | assumption | exact zf _ | exact tf _ | exact uf _ | exact kI0 z0 | exact kI0 z1 | exact kI0 z2 | exact kI0 t0 | exact kI0 t1 | exact kI0 t2 | exact kI0 u0 | exact kI0 u1 | exact kI0 u2 | refine kCd ?_ | refine kId ?_ | refine kFd ?_ | refine kCs (by simp only [ne_eq];omega) ?_ | refine kIs ?_ | refine kFs ?_ | refine kCb (by assumption) ?_ | refine kIb (by assumption) ?_))
  (first
   | (go_at_call 79;with_reducible refine (C1.out _).mono ?_;rintro e v5 ⟨y5,f5,rfl,hb5,H5⟩;have Tt:Ob v5 (w.heap.size):=(by repeat (with_reducible first | exact OB.out | exact Tt | exact Tu | refine Ob.drew ?_ | refine kOb (by assumption) ?_));obtain ⟨_,t0,t1,t2,tf⟩:=id Tt)
   | (go_at_call 65;with_reducible refine (C2.out _ y5).mono ?_;rintro e v6 ⟨r6,rfl,hb6,H6⟩;have Tu:Ob v6 (w.heap.size):=(by repeat (with_reducible first | exact OB.out | exact Tt | exact Tu | refine Ob.drew ?_ | refine kOb (by assumption) ?_));obtain ⟨_,u0,u1,u2,uf⟩:=id Tu))
 all_goals
  have W5:Wn v6 false y5 1 1 f5 1:=(by repeat (with_reducible first | exact H5.out | refine kWd ?_ | refine kWb (by assumption) ?_));have hb:Below w3.heap.size w3 v6:=belB;have hr:r6=s2:=by
   rw [H6.out];have:=((wfB_iff _ _ _).1 W3.out.wf).2;cases s2
   ·rfl
   ·simp;exact this rfl
  subst hr;go_wp2;refine bodyPost_ret (v:=.agg #[.bool r6,.slice x2 n2 c2,.slice y5 1 1]) (by simp [results,Tryz.results58,go_sem,u0,u1,u2]) rfl ⟨r6,x2,n2,c2,f2,y5,1,1,f5,rfl,below_st (HW.out.trans (hb.mono HW.out.size)) (Nat.le_refl _),Tu.rn ⟨?_,?_,by omega,by omega⟩⟩
  ·rw [Rat.num_intCast];exact W3.out.below hb
  ·rw [Rat.den_intCast];exact W5
end Go.Proofs.YtankbgpcnljjdaaGreat
