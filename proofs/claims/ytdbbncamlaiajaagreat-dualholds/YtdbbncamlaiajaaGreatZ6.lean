/-
 Walks of package rat's calls Form, Add, Sub, Mul, Quo on numbers in form; the document's Same and Light. Walks of the document's reference for whole: Form, From, Text, Read, DocText, DocRead. Walks of the document's reference for rat: word, Mk of short numbers. Walks of the document's reference for rat: Mk of short numbers. Walks of the document's reference for rat: To, DocMake of short numbers; the statements' own num. Walks of the statements' own num, and of package rat's calls Make and Floor. The walk of package rat's call Floor. Walks of the document's Same and Light of rational numbers, and of the statements' own light. Walks of the document's reference for whole: Neg, Add, Sub, Mul, Sign, Cmp. Walks of the document's reference for whole: Sub, Sign, Cmp, two, DocNeg, DocCmp. Walks of the document's reference for whole: DocNeg, DocCmp, Doc. Walks of the document's reference for rat: Form. Walks of the document's reference for rat: Mk, whatever the numbers' lengths. Walks of the document's reference for rat: From, Neg, Sign, Add. Walks of the document's reference for whole: Divide.
-/
import Derived.Test.YtdbbncamlaiajaaGreatZ5
import Derived.Test.YtdbbncamlaiajaaGreatZ4
import Derived.Test.YtdbbncamlaiajaaGreatZ1
import Derived.Test.YtdbbncamlaiajaaGreatZ3
import Derived.Test.YtdbbncamlaiajaaGreatZ2
namespace Go.Proofs.YtdbbncamlaiajaaGreat
open Go.RowKit
structure Rw (w:World) (x:Option Addr) (n c:Nat) (f:Nat→Int) (y:Option Addr) (m d:Nat) (g:Nat→Int):Prop where
 rx:Rd .u64 w x n f
 lx:Lm f n
 cx:n≤c∧c≤9223372036854775807
 nx:x=none→n=0∧c=0
 ry:Rd .u64 w y m g
 ly:Lm g m
 cy:m≤d∧d≤9223372036854775807
 ny:y=none→m=0∧d=0
theorem Rw.below {w w' x n c f y m d g} (h:Rw w x n c f y m d g) (hb:Below w.heap.size w w'):Rw w' x n c f y m d g:=⟨h.rx.below hb (Nat.le_refl _),h.lx,h.cx,h.nx,h.ry.below hb (Nat.le_refl _),h.ly,h.cy,h.ny⟩
theorem Rw.alloc {w x n c f y m d g} (h:Rw w x n c f y m d g) (o:Obj):Rw (w.alloc o) x n c f y m d g:=h.below (below_alloc (Below.refl _ _) o)
def rfB (s:Bool) (f:Nat→Int) (n:Nat) (g:Nat→Int) (m:Nat):Bool:=wfB s f n && (fmB g m && (decide (0<m) && decide ((vf f n).toNat.gcd (vf g m).toNat=1)))
theorem natAbs_wv {s:Bool} {f:Nat→Int} {n:Nat} (h:Lm f n):(wv s f n).natAbs=(vf f n).toNat:=by
 have h0:=vf_nonneg h;cases s
 ·rw [wv_false];omega
 ·rw [wv_true];omega
theorem Rw.rn {w s x n c f y m d g L} (h:Rw w x n c f y m d g) (hf:rfB s f n g m=true) (hn:n≤L) (hm:m≤L):∃q,Rn L w s x n c f y m d g q:=by
 simp only [rfB,Bool.and_eq_true,decide_eq_true_eq] at hf;obtain ⟨h1,h2,h3,h4⟩:=hf;have hp:=vf_pos h.ly (fm_of h2) h3;refine ⟨⟨wv s f n,(vf g m).toNat,by omega,by rw [natAbs_wv h.lx];exact h4⟩,⟨h.rx,h.lx,h1,h.cx,h.nx,rfl⟩,⟨h.ry,h.ly,(wfB_iff _ _ _).2 ⟨fm_of h2,fun h=>by cases h⟩,h.cy,h.ny,?_⟩,hn,hm⟩;show vf g m=((vf g m).toNat:Int);omega
theorem Rn.rw {L w s x n c f y m d g q} (h:Rn L w s x n c f y m d g q):Rw w x n c f y m d g:=⟨h.num.rd,h.num.lm,h.num.cap,h.num.nil,h.den.rd,h.den.lm,h.den.cap,h.den.nil⟩
theorem Rn.rf {L w s x n c f y m d g q} (h:Rn L w s x n c f y m d g q):rfB s f n g m=true:=by
 simp only [rfB,Bool.and_eq_true,decide_eq_true_eq];have hd:=q.den_pos;refine ⟨h.num.wf,(fmB_iff _ _).2 h.den.fm,h.den.pos (by omega),?_⟩;rw [←natAbs_wv (s:=s) h.num.lm,h.num.val,h.den.nv];exact q.reduced
theorem Rn.inj {L L' w w' s t x n c f y m d g x' n' c' f' y' m' d' g' q r} (h:Rn L w s x n c f y m d g q) (h':Rn L' w' t x' n' c' f' y' m' d' g' r):(s=t∧Alk n n' f f'∧Alk m m' g g') ↔ q=r:=by
 constructor
 ·rintro ⟨rfl,⟨rfl,h1⟩,⟨rfl,h2⟩⟩;have e1:vf f n=vf f' n:=vf_congr h1;have e2:vf g m=vf g' m:=vf_congr h2;refine Rat.ext ?_ ?_
  ·rw [←h.num.val,←h'.num.val];cases s
   ·rw [wv_false,wv_false,e1]
   ·rw [wv_true,wv_true,e1]
  ·have:=h.den.nv;have:=h'.den.nv;omega
 ·rintro rfl;have ha:=vf_nonneg h.num.lm;have hb:=vf_nonneg h'.num.lm
  have e2:=vf_inj h.den.lm h'.den.lm h.den.fm h'.den.fm (h.den.nv.trans h'.den.nv.symm);have v1:=h.num.val;have v2:=h'.num.val
  have p1:=sgn_of_wfB h.num.wf;have p2:=sgn_of_wfB h'.num.wf
  have q1:0<n→0<vf f n:=vf_pos h.num.lm h.num.fm;have q2:0<n'→0<vf f' n':=vf_pos h'.num.lm h'.num.fm;cases s <;> cases t
  ·rw [wv_false] at v1 v2;exact ⟨rfl,vf_inj h.num.lm h'.num.lm h.num.fm h'.num.fm (v1.trans v2.symm),e2⟩
  ·rw [wv_false] at v1;rw [wv_true] at v2
   have:=q2 (p2 rfl);omega
  ·rw [wv_true] at v1;rw [wv_false] at v2
   have:=q1 (p1 rfl);omega
  ·rw [wv_true] at v1 v2;exact ⟨rfl,vf_inj h.num.lm h'.num.lm h.num.fm h'.num.fm (by omega),e2⟩
structure Bx3 (w:World) (B:Nat) (a0 a1 a2:Value):Prop where
 z:B<w.heap.size
 x0:w.cell? ⟨B,0,none⟩=some a0
 x1:w.cell? ⟨B,1,none⟩=some a1
 x2:w.cell? ⟨B,2,none⟩=some a2
theorem Bx3.below {w w' B a0 a1 a2} (h:Bx3 w B a0 a1 a2) (hb:Below w.heap.size w w'):Bx3 w' B a0 a1 a2:=⟨Nat.lt_of_lt_of_le h.z hb.size,kCb hb h.x0,kCb hb h.x1,kCb hb h.x2⟩
theorem Bx3.alloc {w B a0 a1 a2} (h:Bx3 w B a0 a1 a2) (o:Obj):Bx3 (w.alloc o) B a0 a1 a2:=h.below (below_alloc (Below.refl _ _) o)
theorem Bx3.next {w w' B a0 a1 a2} {o:Obj} (h:Bx3 w B a0 a1 a2) (hb:Below (w.alloc o).heap.size (w.alloc o) w'):Bx3 w' B a0 a1 a2:=(h.alloc o).below hb
theorem bx3_at (w:World) (a0 a1 a2:Value) (t:TypeId):Bx3 (w.alloc (.cells #[a0,a1,a2] t)) w.heap.size a0 a1 a2:=⟨by simp,by simp [go_sem],by simp [go_sem],by simp [go_sem]⟩
theorem bx3_new {w w':World} {a0 a1 a2:Value} {t:TypeId} (hb:Below (w.alloc (.cells #[a0,a1,a2] t)).heap.size (w.alloc (.cells #[a0,a1,a2] t)) w'):Bx3 w' w.heap.size a0 a1 a2:=(bx3_at w a0 a1 a2 t).below hb
set_option maxHeartbeats 1000000 in
theorem rForm_c {w:World} {s x n c f y m d g} (h:Rw w x n c f y m d g) (hn:n≤1048576) (hm:m≤1048576) :
  Calls Tryz.prog 63 #[.agg #[.bool s,.slice x n c,.slice y m d]] w fun e w'=>e=.returned (.bool (rfB s f n g m))∧Below w.heap.size w w':=by
 have H:=hid h;have hrf:rfB s f n g m=(wfB s f n && (fmB g m && (decide (0<m) && decide ((vf f n).toNat.gcd (vf g m).toNat=1)))):=rfl;rw [hrf];clear h hrf;go_enter Tryz.func63,Tryz.ntmps63;go_wp2_with fail
 refine (numer_c s x y n c m d _).mono ?_;rintro e w1 ⟨rfl,hb⟩;have B1:=hid (bx3_new hb);have HW1:Hid (Below w.heap.size w w1):=(below_alloc (Below.refl w.heap.size w) _).trans (hb.mono (by simp))
 clear hb;obtain ⟨z,x0,x1,x2⟩:=B1.out;go_wp2_with fail
 refine (wForm_c s x n c f _ (by omega) (H.out.rx.below HW1.out (Nat.le_refl _))).mono ?_;rintro e w2 ⟨rfl,hb⟩;have B2:=hid (B1.out.below hb);have HW2:=hid (HW1.out.trans (hb.mono HW1.out.size))
 clear hb B1 z x0 x1 x2 HW1;obtain ⟨z,x0,x1,x2⟩:=B2.out;cases h1:wfB s f n
 ·have E:Hid ((wfB s f n && (fmB g m && (decide (0<m) && decide ((vf f n).toNat.gcd (vf g m).toNat=1))))=false):=hid (by rw [h1];rfl);go_wp2;go_ret;exact ⟨by rw [E.out];rfl,HW2.out⟩
 have F1:=hid h1;clear h1;have c2:=form_c y m d g w2 (by omega) (H.out.ry.below HW2.out (Nat.le_refl _));go_wp2_with fail
 refine c2.mono ?_;rintro e w3 ⟨rfl,rfl⟩;clear c2;cases h2:fmB g m
 ·have E:Hid ((wfB s f n && (fmB g m && (decide (0<m) && decide ((vf f n).toNat.gcd (vf g m).toNat=1))))=false):=hid (by rw [F1.out,h2];rfl);go_wp2;go_ret;exact ⟨by rw [E.out];rfl,HW2.out⟩
 by_cases h3:0<m
 ·have h3':((m:Int)==0)=false:=by simp;omega
  have hd3:decide (0<m)=true:=by simp;omega
  have E:Hid ((wfB s f n && (fmB g m && (decide (0<m) && decide ((vf f n).toNat.gcd (vf g m).toNat=1))))=decide ((((vf f n).toNat.gcd (vf g m).toNat:Nat):Int)=1)):=hid (by
   rw [F1.out,h2,hd3,Bool.true_and,Bool.true_and,Bool.true_and];by_cases h:(vf f n).toNat.gcd (vf g m).toNat=1
   ·simp [h]
   ·have:¬((((vf f n).toNat.gcd (vf g m).toNat:Nat):Int)=1):=by omega
    simp [h,this])
  have hh:=(H.out.below HW2.out);have W1:Wn w3 false x n c f ((vf f n).toNat:Nat):=⟨hh.rx,hh.lx,(wfB_iff _ _ _).2 ⟨fm_of_wfB F1.out,fun h=>by cases h⟩,hh.cx,hh.nx,by have:=vf_nonneg hh.lx;show vf f n=_;omega⟩;have W2:Wn w3 false y m d g ((vf g m).toNat:Nat):=⟨hh.ry,hh.ly,(wfB_iff _ _ _).2 ⟨fm_of h2,fun h=>by cases h⟩,hh.cy,hh.ny,by have:=vf_nonneg hh.ly;show vf g m=_;omega⟩;have C3:=hid (ratGcd_c W1 W2 (by omega) (by omega));clear hh W1 W2 hd3 h2 h3;go_wp2_with fail
  refine C3.out.mono ?_;rintro e w4 ⟨zg,kg,cg,fg,rfl,hb,hg⟩;have C4:=hid (isOne_c hg);clear hg;go_wp2_with fail
  refine C4.out.mono ?_;rintro e w5 ⟨rfl,rfl⟩;go_wp2;go_ret;exact ⟨by rw [E.out];rfl,HW2.out.trans (hb.mono HW2.out.size)⟩
 ·have h3':m=0:=by omega
  have E:Hid ((wfB s f n && (fmB g m && (decide (0<m) && decide ((vf f n).toNat.gcd (vf g m).toNat=1))))=false):=hid (by simp [h3']);subst h3';go_wp2;go_ret;exact ⟨by rw [E.out];rfl,HW2.out⟩
theorem rForm_n {L w s x n c f y m d g q} (h:Rn L w s x n c f y m d g q) (hL:L≤1048576) :
  Calls Tryz.prog 63 #[.agg #[.bool s,.slice x n c,.slice y m d]] w fun e w'=>e=.returned (.bool true)∧Below w.heap.size w w':=by
 have h1:=h.ln;have h2:=h.ld
 have:=rForm_c (s:=s) h.rw (by omega) (by omega);rw [h.rf] at this;exact this
set_option maxRecDepth 100000 in
set_option maxHeartbeats 4000000 in
theorem rAdd_n {L:Nat} {w:World} {sa:Bool} {xa:Option Addr} {na ca:Nat} {fa:Nat→Int} {ya:Option Addr} {ma da:Nat} {ga:Nat→Int} {a:Rat} {sb:Bool} {xb:Option Addr} {nb cb:Nat} {fb:Nat→Int} {yb:Option Addr} {mb db:Nat} {gb:Nat→Int} {b:Rat} (ha:Rn L w sa xa na ca fa ya ma da ga a) (hb:Rn L w sb xb nb cb fb yb mb db gb b) (hL:L≤200000) :
  Calls Tryz.prog 68 #[.agg #[.bool sa,.slice xa na ca,.slice ya ma da],.agg #[.bool sb,.slice xb nb cb,.slice yb mb db]] w fun e w'=>RatTup (2*L+1) w w' e (a+b):=by
 have HA0:=hid ha;have HB0:=hid hb
 clear ha hb;go_enter Tryz.func68,Tryz.ntmps68;go_wp2_with fail
 refine (rForm_n (((HA0.out.alloc _).alloc _).alloc _) (by omega)).mono ?_;rintro e w1 ⟨rfl,hbel⟩;obtain ⟨⟨hz,x0,x1,x2,y0,y1,y2,z0,z1,z2,zf⟩,hw⟩:=three_new hbel;have T1:Hid (Three w.heap.size w1 _ _ _ _ _ _ _ _ _):=⟨hz,x0,x1,x2,y0,y1,y2,z0,z1,z2,zf⟩;have HW1:=hid hw;have HA1:=hid (HA0.out.below hw);have HB1:=hid (HB0.out.below hw)
 clear hbel hw HA0 HB0;go_wp2_with fail
 refine (rForm_n HB1.out (by omega)).mono ?_;rintro e w2 ⟨rfl,hb⟩;have HA2:=hid (HA1.out.below hb);have HB2:=hid (HB1.out.below hb);have T2:=hid (T1.out.below hb);have HW2:=hid (HW1.out.trans (hb.mono HW1.out.size))
 clear HA1 HB1 T1 HW1 hb;clear hz x0 x1 x2 y0 y1 y2 z0 z1 z2 zf;obtain ⟨hz,x0,x1,x2,y0,y1,y2,z0,z1,z2,zf⟩:=T2.out;have hza:w.heap.size<w2.heap.size:=by omega
 have hzb:w.heap.size+1<w2.heap.size:=by omega
 go_wp2_with fail
 refine (ratadd_c HA2.out HB2.out hL).mono ?_;rintro e w3 ⟨rs,zn,kn,cn,fn,zd,kd,cd,fd,rfl,hb,hr⟩;have HR:=hid hr;clear hr;have T3:=hid (T2.out.below hb);have HW3:=hid (HW2.out.trans (hb.mono HW2.out.size))
 clear T2 HW2 hb;clear hza hzb hz x0 x1 x2 y0 y1 y2 z0 z1 z2 zf;obtain ⟨hz,x0,x1,x2,y0,y1,y2,z0,z1,z2,zf⟩:=T3.out;have hza:w.heap.size<w3.heap.size:=by omega
 have hzb:w.heap.size+1<w3.heap.size:=by omega
 go_wp2;refine bodyPost_ret (v:=.tuple #[.agg #[.bool rs,.slice zn kn cn,.slice zd kd cd],.int .i64 0]) (by simp [results,Tryz.results68,go_sem,z0,z1,z2]) rfl ⟨rs,zn,kn,cn,fn,zd,kd,cd,fd,rfl,below_store HW3.out,⟨?_,?_,HR.out.ln,HR.out.ld⟩⟩
 ·exact T3.out.store HR.out.num
 ·exact T3.out.store HR.out.den
set_option maxRecDepth 100000 in
set_option maxHeartbeats 4000000 in
theorem rMul_n {L:Nat} {w:World} {sa:Bool} {xa:Option Addr} {na ca:Nat} {fa:Nat→Int} {ya:Option Addr} {ma da:Nat} {ga:Nat→Int} {a:Rat} {sb:Bool} {xb:Option Addr} {nb cb:Nat} {fb:Nat→Int} {yb:Option Addr} {mb db:Nat} {gb:Nat→Int} {b:Rat} (ha:Rn L w sa xa na ca fa ya ma da ga a) (hb:Rn L w sb xb nb cb fb yb mb db gb b) (hL:L≤200000) :
  Calls Tryz.prog 66 #[.agg #[.bool sa,.slice xa na ca,.slice ya ma da],.agg #[.bool sb,.slice xb nb cb,.slice yb mb db]] w fun e w'=>RatTup (2*L+1) w w' e (a*b):=by
 have HA0:=hid ha;have HB0:=hid hb
 clear ha hb;go_enter Tryz.func66,Tryz.ntmps66;go_wp2_with fail
 refine (rForm_n (((HA0.out.alloc _).alloc _).alloc _) (by omega)).mono ?_;rintro e w1 ⟨rfl,hbel⟩;obtain ⟨⟨hz,x0,x1,x2,y0,y1,y2,z0,z1,z2,zf⟩,hw⟩:=three_new hbel;have T1:Hid (Three w.heap.size w1 _ _ _ _ _ _ _ _ _):=⟨hz,x0,x1,x2,y0,y1,y2,z0,z1,z2,zf⟩;have HW1:=hid hw;have HA1:=hid (HA0.out.below hw);have HB1:=hid (HB0.out.below hw)
 clear hbel hw HA0 HB0;go_wp2_with fail
 refine (rForm_n HB1.out (by omega)).mono ?_;rintro e w2 ⟨rfl,hb⟩;have HA2:=hid (HA1.out.below hb);have HB2:=hid (HB1.out.below hb);have T2:=hid (T1.out.below hb);have HW2:=hid (HW1.out.trans (hb.mono HW1.out.size))
 clear HA1 HB1 T1 HW1 hb;clear hz x0 x1 x2 y0 y1 y2 z0 z1 z2 zf;obtain ⟨hz,x0,x1,x2,y0,y1,y2,z0,z1,z2,zf⟩:=T2.out;have hza:w.heap.size<w2.heap.size:=by omega
 have hzb:w.heap.size+1<w2.heap.size:=by omega
 go_wp2_with fail
 refine (ratmul_c HA2.out HB2.out hL).mono ?_;rintro e w3 ⟨rs,zn,kn,cn,fn,zd,kd,cd,fd,rfl,hb,hr⟩;have HR:=hid hr;clear hr;have T3:=hid (T2.out.below hb);have HW3:=hid (HW2.out.trans (hb.mono HW2.out.size))
 clear T2 HW2 hb;clear hza hzb hz x0 x1 x2 y0 y1 y2 z0 z1 z2 zf;obtain ⟨hz,x0,x1,x2,y0,y1,y2,z0,z1,z2,zf⟩:=T3.out;have hza:w.heap.size<w3.heap.size:=by omega
 have hzb:w.heap.size+1<w3.heap.size:=by omega
 go_wp2;refine bodyPost_ret (v:=.tuple #[.agg #[.bool rs,.slice zn kn cn,.slice zd kd cd],.int .i64 0]) (by simp [results,Tryz.results66,go_sem,z0,z1,z2]) rfl ⟨rs,zn,kn,cn,fn,zd,kd,cd,fd,rfl,below_store HW3.out,⟨?_,?_,HR.out.ln,HR.out.ld⟩⟩
 ·exact T3.out.store HR.out.num
 ·exact T3.out.store HR.out.den
theorem Rn.negate {L w s x n c f y m d g q} {r:Bool} (h:Rn L w s x n c f y m d g q) (hr:r=(!s && decide (0<n))):Rn L w r x n c f y m d g (-q):=by
 refine ⟨?_,h.den,h.ln,h.ld⟩;have h1:=h.num.mag.resign (s:=!s) hr;have h2:=h.num.sgn;show Wn w r x n c f (-q.num);have:-q.num=sg (!s) q.num.natAbs:=by
  generalize q.num.natAbs=A at h2;rw [h2];cases s
  ·rfl
  ·show - -(A:Int)=A;omega
 rw [this];exact h1
set_option maxRecDepth 100000 in
set_option maxHeartbeats 800000 in
theorem rword_c {w:World} {x n c d} {V:Nat} (h:Dn w x n d V) (hn:n≤2) :
  Calls Tryz.prog 130 #[.slice x n c] w fun e w'=>e=.returned (.int .u64 V)∧w'=w:=by
 have H:=hid h;clear h;go_enter Tryz.func130,Tryz.ntmps130;go_wp2
 go_loop [3,4] (fun t u=>∃(k:Nat) (z:Int),k≤n∧z=(k:Int)-1∧u=.int .i64 z∧∃X:Int,t=.int .u64 X∧Hid (X=vd (sh d k) (n-k))) (fun _ u=>(intOf u+1).toNat)
 case atStart=>exact ⟨n,(n:Int)-1,by omega,rfl,rfl,0,rfl,by rw [Nat.sub_self];rfl⟩
 case round =>
  obtain ⟨k,z,hk,hz,rfl,X,rfl,HX⟩:=hrel;rcases Nat.eq_zero_or_pos k with h0 | h0
  ·subst h0;have hz':z<0:=by omega
   have hd:decide ((0:Int)≤z)=false:=by simp;omega
   go_wp2;go_ret;refine ⟨?_,rfl⟩;have h1:vd (sh d 0) (n-0)=vd d n:=by
    have:sh d 0=d:=by funext j;simp [sh]
    rw [this];rfl
   have:X=V:=by rw [HX.out,h1,H.out.val]
   rw [this];rfl
  ·obtain ⟨j,rfl⟩:∃j,k=j+1:=⟨k-1,by omega⟩;have hz':z=(j:Int):=by omega
   subst hz';have hr:=H.out.rd;obtain ⟨b,o,rfl⟩:=hr.at (by omega);obtain ⟨y,hy⟩:∃y,d j=y:=⟨_,rfl⟩;have hcell:w.cell? ⟨b,o+j,none⟩=some (.int .u64 y):=by rw [←hy];exact hr.cell (by omega)
   obtain ⟨y0,y1⟩:=H.out.dg j (by omega);rw [hy] at y0 y1;have hX:0≤X∧X<4294967296:=by
    rw [HX.out];rcases (show n-(j+1)=0∨n-(j+1)=1 by omega) with e | e
    ·rw [e];simp [vd]
    ·rw [e];have e1:vd (sh d (j+1)) 1=d (j+1):=by simp [vd,pd,sh]
     rw [e1];exact H.out.dg (j+1) (by omega)
   obtain ⟨X0,X1⟩:=hX;have hs:X*4294967296+y=vd (sh d j) (n-j):=by
    rw [show n-j=(n-(j+1))+1 by omega,vd_cons,hy,HX.out];omega
   have HS:=hid hs;clear hs hy hr hz;go_wp2
   go_round
   case rel=>exact ⟨j,(j:Int)-1,by omega,rfl,rfl,X*4294967296+y,rfl,HS.out⟩
   case measure=>simp [intOf]
theorem zMk_c (s:Bool) (ao:Option Addr) (n cap:Nat) (w:World) (hm:n≤9223372036854775807) :
  Calls Tryz.prog 94 #[.bool s,.slice ao n cap] w fun e w'=>∃r,e=.returned (.agg #[.bool r,.slice ao n cap])∧Hid (r=(s && decide (0<n)))∧Below w.heap.size w w':=by
 have key:∀u,Below w.heap.size w (w.alloc u):=fun u=>below_alloc (Below.refl w.heap.size w) u
 cases s
 ·go_enter Tryz.func94,Tryz.ntmps94;go_wp2;exact bodyPost_ret (v:=.agg #[.bool false,.slice ao n cap]) (by simp [results,Tryz.results94,go_sem]) rfl ⟨false,rfl,rfl,key _⟩
 ·by_cases hn0:0<n
  ·have hni:decide ((0:Int)<(n:Int))=true:=by simp;omega
   have hdn:decide (0<n)=true:=by simp;omega
   rw [hdn];clear hdn;go_enter Tryz.func94,Tryz.ntmps94;go_wp2;exact bodyPost_ret (v:=.agg #[.bool true,.slice ao n cap]) (by simp [results,Tryz.results94,go_sem]) rfl ⟨true,rfl,rfl,key _⟩
  ·have hni:decide ((0:Int)<(n:Int))=false:=by simp;omega
   have hdn:decide (0<n)=false:=by simp;omega
   rw [hdn];clear hdn;go_enter Tryz.func94,Tryz.ntmps94;go_wp2;exact bodyPost_ret (v:=.agg #[.bool false,.slice ao n cap]) (by simp [results,Tryz.results94,go_sem]) rfl ⟨false,rfl,rfl,key _⟩
structure Ob (w:World) (B:Nat):Prop where
 z:B<w.heap.size
 z0:w.cell? ⟨B,0,none⟩=some (.bool false)
 z1:w.cell? ⟨B,1,none⟩=some (.slice none 0 0)
 z2:w.cell? ⟨B,2,none⟩=some (.slice none 0 0)
 zf:∀o,w.frozen? ⟨B,o,none⟩=false
theorem Ob.below {w w' B} (h:Ob w B) (hb:Below w.heap.size w w'):Ob w' B:=by
 obtain ⟨h1,h2⟩:=bcell hb;exact ⟨Nat.lt_of_lt_of_le h.z hb.size,kCb hb h.z0,kCb hb h.z1,kCb hb h.z2,fun o=>(h2 _ _ h.z).trans (h.zf o)⟩
theorem kOb {w w' B} (hb:Below w.heap.size w w') (h:Ob w B):Ob w' B:=h.below hb
theorem kDb {w w' x n d V} (hb:Below w.heap.size w w') (h:Dn w x n d V):Dn w' x n d V:=h.below hb
theorem Ob.alloc {w B} (h:Ob w B) (o:Obj):Ob (w.alloc o) B:=h.below (below_alloc (Below.refl _ _) o)
theorem Ob.next {w w' B} {o:Obj} (h:Ob w B) (hb:Below (w.alloc o).heap.size (w.alloc o) w'):Ob w' B:=(h.alloc o).below hb
theorem Ob.drew {w B} (h:Ob w B):Ob w.drew B:=⟨h.z,h.z0,h.z1,h.z2,h.zf⟩
theorem Ob.drewN {w B} (h:Ob w B) (q:Nat):Ob (w.drewN q) B:=⟨h.z,h.z0,h.z1,h.z2,h.zf⟩
theorem ob_new (w:World) (t:TypeId):Ob (w.alloc (.cells #[.bool false,.slice none 0 0,.slice none 0 0] t)) w.heap.size:=by
 refine ⟨by simp,by simp [go_sem],by simp [go_sem],by simp [go_sem],fun o=>?_⟩;have e:=heap_alloc_new w (.cells #[.bool false,.slice none 0 0,.slice none 0 0] t);simp only [World.frozen?,e];simp
theorem rd_setne {w:World} {p:Addr} {v u:Value} {x n f} (hp:w.cell? p=some v) (hv:∀i,v≠.int .u64 i) (h:Rd .u64 w x n f):Rd .u64 (w.setCell p u) x n f:=by
 intro j hj;obtain ⟨b,o,hx,hc⟩:=h j hj;refine ⟨b,o,hx,?_⟩;rw [World.cell?_setCell_other _ _ _ _ (fun he=>hv _ (Option.some.inj (hp.symm.trans (he ▸ hc))))];exact hc
theorem Ob.rd {w B u0 u1 u2 x n f} (h:Ob w B) (hx:Rd .u64 w x n f):Rd .u64 (((w.setCell ⟨B,0,none⟩ u0).setCell ⟨B,1,none⟩ u1).setCell ⟨B,2,none⟩ u2) x n f :=
 rd_setne (cell_off (by decide) (cell_off (by decide) h.z2)) (fun i h=>by cases h) (rd_setne (cell_off (by decide) h.z1) (fun i h=>by cases h) (rd_setne h.z0 (fun i h=>by cases h) hx))
theorem Ob.wn {w B u0 u1 u2 s x n c f v} (h:Ob w B) (hx:Wn w s x n c f v):Wn (((w.setCell ⟨B,0,none⟩ u0).setCell ⟨B,1,none⟩ u1).setCell ⟨B,2,none⟩ u2) s x n c f v:=⟨h.rd hx.rd,hx.lm,hx.wf,hx.cap,hx.nil,hx.val⟩
theorem Ob.dn {w B u0 u1 u2 x n d V} (h:Ob w B) (hx:Dn w x n d V):Dn (((w.setCell ⟨B,0,none⟩ u0).setCell ⟨B,1,none⟩ u1).setCell ⟨B,2,none⟩ u2) x n d V:=⟨h.rd hx.rd,hx.dg,hx.fm,hx.val⟩
theorem Ob.rn {w B u0 u1 u2 L s x n c f y m d g q} (h:Ob w B) (hx:Rn L w s x n c f y m d g q):Rn L (((w.setCell ⟨B,0,none⟩ u0).setCell ⟨B,1,none⟩ u1).setCell ⟨B,2,none⟩ u2) s x n c f y m d g q:=⟨h.wn hx.num,h.wn hx.den,hx.ln,hx.ld⟩
theorem below_st {w0 w:World} {B:Nat} {u0 u1 u2:Value} (hw:Below w0.heap.size w0 w) (hB:w0.heap.size≤B) :
  Below w0.heap.size w0 (((w.setCell ⟨B,0,none⟩ u0).setCell ⟨B,1,none⟩ u1).setCell ⟨B,2,none⟩ u2) :=
 below_turned hw hw.size ((((Turned.refl w0.heap.size (B+1) w).set (x:=⟨B,0,none⟩) hB (by simp) _).set (x:=⟨B,1,none⟩) hB (by simp) _).set (x:=⟨B,2,none⟩) hB (by simp) _) (Nat.le_refl _)
theorem Dn.drewN {w x n d V} (h:Dn w x n d V) (q:Nat):Dn (w.drewN q) x n d V:=⟨h.rd,h.dg,h.fm,h.val⟩
theorem dn64 {w x n d V} (h:Dn w x n d V) (hn:n≤2):V<18446744073709551616:=by
 have h1:=vd_lt h.dg;rw [h.val] at h1;rcases (show n=0∨n=1∨n=2 by omega) with rfl | rfl | rfl <;> simp [pd] at h1 <;> omega
set_option maxRecDepth 100000 in
set_option maxHeartbeats 4000000 in
theorem mkSmall_c {w:World} {s x n c d y m e g} {A B:Nat} (ha:Dn w x n d A) (hb:Dn w y m g B) (h0:0<A) (hn:n≤2) (hm:m≤2) (hB:0<B) :
  Calls Tryz.prog 93 #[.agg #[.bool s,.slice x n c],.slice y m e] w fun en w'=>∃r z k c' d' z2 k2 c2 d2,en=.returned (.agg #[.bool r,.slice z k c',.slice z2 k2 c2])∧Below w.heap.size w w'∧k≤2∧k2≤2∧r=(s && decide (0<k))∧Dn w' z k d' (A/A.gcd B)∧Dn w' z2 k2 d2 (B/A.gcd B):=by
 have hA64:=dn64 ha hn;have hB64:=dn64 hb hm
 have hnp:0<n:=by
  rcases Nat.eq_zero_or_pos n with h | h
  ·subst h;have:(0:Int)=A:=ha.val;omega
  ·exact h
 have h1:=(ha.alloc (.cells #[.bool s,.slice x n c] 87)).alloc (.cells #[.bool false,.slice none 0 0,.slice none 0 0] 89);have h2:=(hb.alloc (.cells #[.bool s,.slice x n c] 87)).alloc (.cells #[.bool false,.slice none 0 0,.slice none 0 0] 89);have h3:=ob_new (w.alloc (.cells #[.bool s,.slice x n c] 87)) 89;rw [size_alloc1] at h3;have h4:=below_alloc (below_alloc (Below.refl w.heap.size w) (.cells #[.bool s,.slice x n c] 87)) (.cells #[.bool false,.slice none 0 0,.slice none 0 0] 89);have h5:(((w.alloc (.cells #[.bool s,.slice x n c] 87)).alloc (.cells #[.bool false,.slice none 0 0,.slice none 0 0] 89)).cell? ⟨w.heap.size,0,none⟩=some (.bool s)):=by simp [go_sem]
 clear ha hb;have hn0:((n:Int)==0)=false:=by simp;omega
 have hn2:decide ((n:Int)≤2)=true:=by simp;omega
 have hm2:decide ((m:Int)≤2)=true:=by simp;omega
 go_enter Tryz.func93,Tryz.ntmps93;go_wp2_with fail
 generalize (w.alloc (.cells #[.bool s,.slice x n c] 87)).alloc (.cells #[.bool false,.slice none 0 0,.slice none 0 0] 89)=w1 at *;have HA:=hid h1;have HB:=hid h2;have OB:=hid h3;have HW:=hid h4
 obtain ⟨hz,z0,z1,z2,zf⟩:=h3;clear h1 h2 h4;refine (rword_c HA.out hn).mono ?_;rintro en w2 ⟨rfl,rfl⟩;go_wp2_with fail
 refine (rword_c HB.out hm).mono ?_;rintro en w3 ⟨rfl,rfl⟩;go_wp2;go_loopw [7,8] (fun t u wr=>∃(G R q:Nat),t=.int .u64 G∧u=.int .u64 R∧wr=w3.drewN q∧0<G∧G<18446744073709551616∧R<18446744073709551616∧Hid (G.gcd R=A.gcd B)) (fun _ u _=>(intOf u).toNat)
 case atStart=>exact ⟨A,B,0,rfl,rfl,rfl,h0,hA64,hB64,rfl⟩
 case round =>
  obtain ⟨G,R,q,rfl,rfl,rfl,hG0,hG64,hR64,HG⟩:=hrel;by_cases hR:0<R
  ·have hd:decide ((0:Int)<(R:Int))=true:=by simp;omega
   have hne:((R:Int)==0)=false:=by simp;omega
   have hne':(R:Int)≠0:=by omega
   go_wp2
   go_quiet (fail)
   go_wp2;go_roundw
   case rel=>exact ⟨R,G%R,_,rfl,by simp,by (repeat rw [World.drewN_drewN]) <;> rfl,hR,hR64,by have:=Nat.mod_lt G hR;omega,hid (by rw [Nat.gcd_comm,←Nat.gcd_rec,Nat.gcd_comm];exact HG.out)⟩
   case measure=>have:=Nat.mod_lt G hR;simp only [intOf];omega
  ·have hd:decide ((0:Int)<(R:Int))=false:=by simp;omega
   have hR0:R=0:=by omega
   subst hR0;have hg:G=A.gcd B:=by have:=HG.out;rw [Nat.gcd_zero_right] at this;exact this
   go_wp2;have hwq:Below w.heap.size w (w3.drewN q):=below_drewN HW.out q;have OQ:=OB.out.drewN q;have hcq:(w3.drewN q).cell? ⟨w.heap.size,0,none⟩=some (.bool s):=h5;have hGi:(G:Int)≠0:=by omega
   have hGi':((G:Int)==0)=false:=by simp;omega
   have hGp:(0:Int)<(G:Int):=by omega
   have hGm:(G:Int)<18446744073709551616:=by omega
   have hA0:(0:Int)≤(A:Int):=by omega
   have hAm:(A:Int)<18446744073709551616:=by omega
   have hB0:(0:Int)≤(B:Int):=by omega
   have hBm:(B:Int)<18446744073709551616:=by omega
   obtain ⟨QA,hqa⟩:∃q:Int,(A:Int)/(G:Int)=q:=⟨_,rfl⟩;obtain ⟨QB,hqb⟩:∃q:Int,(B:Int)/(G:Int)=q:=⟨_,rfl⟩;have hQA0:0≤QA:=by rw [←hqa];exact Int.ediv_nonneg hA0 (by omega)
   have hQB0:0≤QB:=by rw [←hqb];exact Int.ediv_nonneg hB0 (by omega)
   have hQA1:QA<18446744073709551616:=by have:=Int.ediv_le_self (b:=(G:Int)) hA0;omega
   have hQB1:QB<18446744073709551616:=by have:=Int.ediv_le_self (b:=(G:Int)) hB0;omega
   have HqA:Hid (QA=((A/G:Nat):Int)):=hid (by rw [←hqa];exact (Int.natCast_ediv _ _).symm);have HqB:Hid (QB=((B/G:Nat):Int)):=hid (by rw [←hqb];exact (Int.natCast_ediv _ _).symm);have HG2:=hid hg;clear hg;clear HG hz z0 z1 z2 zf OB h5;generalize w3.drewN q=w4 at *;clear hG64 hA64 hB64 hR64 hd hG0;generalize hgi:(G:Int)=Gi at *;generalize hai:(A:Int)=Ai at *;generalize hbi:(B:Int)=Bi at *;have HgI:=hid hgi;have HaI:=hid hai;have HbI:=hid hbi
   have hGn:¬(Gi=0):=hGi;clear hgi hai hbi hGi;have hwa:IntKind.u64.wrap (Ai.tdiv Gi)=QA:=by rw [Int.tdiv_eq_ediv_of_nonneg hA0,hqa,IntKind.wrap_u64];omega
   have hwb:IntKind.u64.wrap (Bi.tdiv Gi)=QB:=by rw [Int.tdiv_eq_ediv_of_nonneg hB0,hqb,IntKind.wrap_u64];omega
   clear hqa hqb;obtain ⟨hz,z0,z1,z2,zf⟩:=id OQ;have C1:Hid (∀W,Below w4.heap.size w4 W→Calls Tryz.prog 97 #[.int .u64 QA] W fun e w'=>∃z k cap d,e=.returned (.slice z k cap)∧Below W.heap.size W w'∧Hid (k≤2∧Dn w' z k d (A/G))):=fun W hW=>by
    exact (word2_c QA W hQA0 hQA1).mono (fun e w' ⟨k,cap,h1,h2,h3,h4,h5,h6,h7⟩=>⟨_,k,cap,_,h1,h2,h3,h4,h5,h6,h7.trans HqA.out⟩)
   have C2:Hid (∀W,Below w4.heap.size w4 W→Calls Tryz.prog 97 #[.int .u64 QB] W fun e w'=>∃z k cap d,e=.returned (.slice z k cap)∧Below W.heap.size W w'∧Hid (k≤2∧Dn w' z k d (B/G))):=fun W hW=>by
    exact (word2_c QB W hQB0 hQB1).mono (fun e w' ⟨k,cap,h1,h2,h3,h4,h5,h6,h7⟩=>⟨_,k,cap,_,h1,h2,h3,h4,h5,h6,h7.trans HqB.out⟩)
   have C3:Hid (∀(W:World) (z:Option Addr) (k cap:Nat),k≤2→Calls Tryz.prog 94 #[.bool s,.slice z k cap] W fun e w'=>∃r,e=.returned (.agg #[.bool r,.slice z k cap])∧Below W.heap.size W w'∧Hid (r=(s && decide (0<k)))):=fun W z k cap hk=>(zMk_c s z k cap W (by omega)).mono (fun e w' ⟨r,h1,h2,h3⟩=>⟨r,h1,h3,h2⟩)
   go_region_held3 (fun w'=>w'.cell? ⟨w.heap.size,0,none⟩=some (.bool s)∧(w'.cell? ⟨w.heap.size+1,0,none⟩).isSome=true∧(w'.cell? ⟨w.heap.size+1,1,none⟩).isSome=true∧(w'.cell? ⟨w.heap.size+1,2,none⟩).isSome=true∧w'.frozen? ⟨w.heap.size+1,0,none⟩=false∧w'.frozen? ⟨w.heap.size+1,1,none⟩=false∧w'.frozen? ⟨w.heap.size+1,2,none⟩=false)
    (refine ⟨?_,?_,?_,?_,?_,?_,?_⟩ <;> repeat (with_reducible first | assumption | exact zf _ | exact tf _ | exact uf _ | exact vf' _ | exact kI0 z0 | exact kI0 z1 | exact kI0 z2 | exact kI0 t0 | exact kI0 t1 | exact kI0 t2 | exact kI0 u0 | exact kI0 u1 | exact kI0 u2 | exact kI0 v0 | exact kI0 v1 | exact kI0 v2 | refine kCd ?_ | refine kId ?_ | refine kFd ?_ | refine kCs (by simp only [ne_eq];omega) ?_ | refine kIs ?_ | refine kFs ?_ | refine kCb (by assumption) ?_ | refine kIb (by assumption) ?_))
    (first
     | (go_at_call 97;with_reducible refine (C1.out _ belA).mono ?_;rintro e w5 ⟨za,ka,ca,da,rfl,hb5,HP⟩;have hka:ka≤2:=HP.out.1;have TU:Ob w5 (w.heap.size+1):=(by repeat (with_reducible first | exact OQ | exact TU | exact TV | exact TW | refine Ob.drew ?_ | refine kOb (by assumption) ?_));obtain ⟨_,t0,t1,t2,tf⟩:=id TU)
     | (go_at_call 94;with_reducible refine (C3.out _ za ka ca hka).mono ?_;rintro e w6 ⟨r,rfl,hb6,HR⟩;have TV:Ob w6 (w.heap.size+1):=(by repeat (with_reducible first | exact OQ | exact TU | exact TV | exact TW | refine Ob.drew ?_ | refine kOb (by assumption) ?_));obtain ⟨_,u0,u1,u2,uf⟩:=id TV)
     | (go_at_call 97;with_reducible refine (C2.out _ belA).mono ?_;rintro e w7 ⟨zb,kb,cb,db,rfl,hb7,HQ⟩;have hkb:kb≤2:=HQ.out.1;have TW:Ob w7 (w.heap.size+1):=(by repeat (with_reducible first | exact OQ | exact TU | exact TV | exact TW | refine Ob.drew ?_ | refine kOb (by assumption) ?_));obtain ⟨_,v0,v1,v2,vf'⟩:=id TW))
   have hb:Below w4.heap.size w4 w7:=belA;have DA:=HP.out.2;have DB:=HQ.out.2
   have DA7:Dn w7 za ka da (A/G):=(by repeat (with_reducible first | exact DA | refine Dn.drew ?_ | refine kDb (by first | exact hb6 | exact hb7) ?_));go_wp2;refine bodyPost_ret (v:=.agg #[.bool r,.slice za ka ca,.slice zb kb cb]) (by simp [results,Tryz.results93,go_sem,v0,v1,v2]) rfl ⟨r,za,ka,ca,da,zb,kb,cb,db,rfl,below_st (hwq.trans (hb.mono hwq.size)) (by omega),hka,hkb,HR.out,?_,?_⟩
   ·rw [←HG2.out];exact TW.dn DA7
   ·rw [←HG2.out];exact TW.dn DB
theorem Tg.set {w x} (h:Tg w x) (p:Addr) (u:Value):Tg (w.setCell p u) x:=fun a ha=>by
 obtain ⟨arr,fr,hh⟩:=h a ha;by_cases e:a.block=p.block
 ·refine ⟨if p.spot.isSome then arr else arr.setIfInBounds p.off u,fr,?_⟩;rw [e] at hh ⊢;simp [World.setCell,Array.getElem?_modify,hh]
 ·exact ⟨arr,fr,(Below.heap_setCell w p u a.block e).trans hh⟩
theorem Tg.alloc {w x} (h:Tg w x) (o:Obj):Tg (w.alloc o) x:=h.below (below_alloc (Below.refl _ _) o)
theorem own_wn {w base x n c f} {V:Nat} (h:Own .u64 145 w base (.slice x n c) n f) (hl:Lm f n) (hf:Fm f n) (hv:vf f n=V):Wn w false x n c f (V:Int):=by
 obtain ⟨h1,h2,h3,h4,_⟩:=h.slice;exact ⟨h4,hl,(wfB_iff _ _ _).2 ⟨hf,fun h=>by cases h⟩,⟨h1,h2⟩,h3,hv⟩
theorem toWn_c {w x n c d} {V:Nat} (h:Dn w x n d V) (hn:n≤1048576) :
  Calls Tryz.prog 92 #[.slice x n c] w fun e w'=>∃z k c' f,e=.returned (.slice z k c')∧Below w.heap.size w w'∧Hid (k≤n∧Wn w' false z k c' f (V:Int)∧Tg w' z) :=
 (toOwn_c x n c d w hn h.rd h.dg h.fm).mono (fun _ _ ⟨z,k,c',f,h1,h2,h3,_,h4,h5,h6,h7⟩=>⟨z,k,c',f,h1,h3,h4,own_wn h2 h5 h6 (h7.trans h.val),h2.tg⟩)
set_option maxRecDepth 100000 in
set_option maxHeartbeats 4000000 in
theorem qTo_c {w:World} {r:Bool} {x n c d y m e g} {A B:Nat} (ha:Dn w x n d A) (hb:Dn w y m g B) (hn:n≤131072) (hm:m≤131072) :
  Calls Tryz.prog 54 #[.agg #[.bool r,.slice x n c,.slice y m e]] w fun en w'=>∃z k c' f z2 k2 c2 f2,en=.returned (.agg #[.bool r,.slice z k c',.slice z2 k2 c2])∧Below w.heap.size w w'∧k≤n∧k2≤m∧Wn w' false z k c' f (A:Int)∧Wn w' false z2 k2 c2 f2 (B:Int)∧Tg w' z∧Tg w' z2:=by
 have h1:=(ha.alloc (.cells #[.bool r,.slice x n c,.slice y m e] 89)).alloc (.cells #[.bool false,.slice none 0 0,.slice none 0 0] 24);have h2:=(hb.alloc (.cells #[.bool r,.slice x n c,.slice y m e] 89)).alloc (.cells #[.bool false,.slice none 0 0,.slice none 0 0] 24);have h3:=ob_new (w.alloc (.cells #[.bool r,.slice x n c,.slice y m e] 89)) 24;rw [size_alloc1] at h3;have h4:=below_alloc (below_alloc (Below.refl w.heap.size w) (.cells #[.bool r,.slice x n c,.slice y m e] 89)) (.cells #[.bool false,.slice none 0 0,.slice none 0 0] 24);have h5:=(bx3_at w (.bool r) (.slice x n c) (.slice y m e) 89).alloc (.cells #[.bool false,.slice none 0 0,.slice none 0 0] 24);clear ha hb;go_enter Tryz.func54,Tryz.ntmps54;go_wp2_with fail
 generalize (w.alloc (.cells #[.bool r,.slice x n c,.slice y m e] 89)).alloc (.cells #[.bool false,.slice none 0 0,.slice none 0 0] 24)=w1 at *;have HA:=hid h1;have HB:=hid h2;have OB:=h3;have HW:=hid h4
 obtain ⟨hz,z0,z1,z2,zf⟩:=h3;obtain ⟨hy,x0,x1,x2⟩:=h5;clear h1 h2 h4;have C1:Hid (∀W,Below w1.heap.size w1 W→Calls Tryz.prog 92 #[.slice x n c] W fun e w'=>∃z k c' f,e=.returned (.slice z k c')∧Below W.heap.size W w'∧Hid (k≤n∧Wn w' false z k c' f (A:Int)∧Tg w' z)):=fun W hW=>toWn_c (HA.out.below hW) (by omega)
 have C2:Hid (∀W,Below w1.heap.size w1 W→Calls Tryz.prog 92 #[.slice y m e] W fun e w'=>∃z k c' f,e=.returned (.slice z k c')∧Below W.heap.size W w'∧Hid (k≤m∧Wn w' false z k c' f (B:Int)∧Tg w' z)):=fun W hW=>toWn_c (HB.out.below hW) (by omega)
 go_region_held3 (fun w'=>w'.cell? ⟨w.heap.size,0,none⟩=some (.bool r)∧w'.cell? ⟨w.heap.size,1,none⟩=some (.slice x n c)∧w'.cell? ⟨w.heap.size,2,none⟩=some (.slice y m e)∧(w'.cell? ⟨w.heap.size+1,0,none⟩).isSome=true∧(w'.cell? ⟨w.heap.size+1,1,none⟩).isSome=true∧(w'.cell? ⟨w.heap.size+1,2,none⟩).isSome=true∧w'.frozen? ⟨w.heap.size+1,0,none⟩=false∧w'.frozen? ⟨w.heap.size+1,1,none⟩=false∧w'.frozen? ⟨w.heap.size+1,2,none⟩=false)
  (refine ⟨?_,?_,?_,?_,?_,?_,?_,?_,?_⟩ <;> repeat (with_reducible first | assumption | exact zf _ | exact kI0 z0 | exact kI0 z1 | exact kI0 z2 | exact tf _ | exact kI0 t0 | exact kI0 t1 | exact kI0 t2 | exact uf _ | exact kI0 u0 | exact kI0 u1 | exact kI0 u2 | refine kCd ?_ | refine kId ?_ | refine kFd ?_ | refine kCs (by simp only [ne_eq];omega) ?_ | refine kIs ?_ | refine kFs ?_ | refine kCb (by assumption) ?_ | refine kIb (by assumption) ?_))
  (first
   | (go_at_call 92;with_reducible refine (C1.out _ belA).mono ?_;rintro e w5 ⟨za,ka,ca,fa,rfl,hb5,HP⟩;have TU:Ob w5 (w.heap.size+1):=(by repeat (with_reducible first | exact OB | exact hO2 | exact TU | exact TV | exact TW | exact TX | exact TY | refine Ob.drew ?_ | refine kOb (by assumption) ?_));obtain ⟨_,t0,t1,t2,tf⟩:=id TU)
   | (go_at_call 92;with_reducible refine (C2.out _ belA).mono ?_;rintro e w6 ⟨zb,kb,cb,fb,rfl,hb6,HQ⟩;have TV:Ob w6 (w.heap.size+1):=(by repeat (with_reducible first | exact OB | exact hO2 | exact TU | exact TV | exact TW | exact TX | exact TY | refine Ob.drew ?_ | refine kOb (by assumption) ?_));obtain ⟨_,u0,u1,u2,uf⟩:=id TV))
 have WA:Wn w6 false za ka ca fa (A:Int):=HP.out.2.1.below hb6;have hb:Below w1.heap.size w1 w6:=belA;go_wp2;exact bodyPost_ret (v:=.agg #[.bool r,.slice za ka ca,.slice zb kb cb]) (by simp [results,Tryz.results54,go_sem,u0,u1,u2]) rfl ⟨za,ka,ca,fa,zb,kb,cb,fb,rfl,below_st (HW.out.trans (hb.mono HW.out.size)) (by omega),HP.out.1,HQ.out.1,TV.wn WA,TV.wn HQ.out.2.1,((((HP.out.2.2.below hb6).set _ _).set _ _).set _ _),(((HQ.out.2.2.set _ _).set _ _).set _ _)⟩
theorem kM0 {w:World} {g:Nat} {x y:Value} {t:TypeId} (h:g=w.heap.size):(w.alloc (.cells #[x,y] t)).cell? ⟨g,0,none⟩=some x:=by subst h;exact kN0
theorem kM1 {w:World} {g:Nat} {x y:Value} {t:TypeId} (h:g=w.heap.size):(w.alloc (.cells #[x,y] t)).cell? ⟨g,1,none⟩=some y:=by subst h;exact kN1
theorem kCe {w:World} {a:Addr} {v:Value} (h:(w.cell? a).isSome=true):(w.setCell a v).cell? a=some v:=World.cell?_setCell_same' w a v h
theorem kCo {w:World} {b i j:Nat} {u v:Value} (hij:i≠j) (h:w.cell? ⟨b,j,none⟩=some u):(w.setCell ⟨b,i,none⟩ v).cell? ⟨b,j,none⟩=some u:=by
 rw [World.cell?_setCell_other _ _ _ _ (fun he=>hij (congrArg Addr.off he))];exact h
structure Ob2 (w:World) (B:Nat):Prop where
 z:B<w.heap.size
 z0:w.cell? ⟨B,0,none⟩=some (.bool false)
 z1:w.cell? ⟨B,1,none⟩=some (.slice none 0 0)
 zf:∀o,w.frozen? ⟨B,o,none⟩=false
theorem Ob2.below {w w' B} (h:Ob2 w B) (hb:Below w.heap.size w w'):Ob2 w' B:=by
 obtain ⟨h1,h2⟩:=bcell hb;exact ⟨Nat.lt_of_lt_of_le h.z hb.size,kCb hb h.z0,kCb hb h.z1,fun o=>(h2 _ _ h.z).trans (h.zf o)⟩
theorem ob2_new (w:World) (t:TypeId):Ob2 (w.alloc (.cells #[.bool false,.slice none 0 0] t)) w.heap.size:=by
 refine ⟨by simp,by simp [go_sem],by simp [go_sem],fun o=>?_⟩;have e:=heap_alloc_new w (.cells #[.bool false,.slice none 0 0] t);simp only [World.frozen?,e];simp
theorem Ob2.wn {w B u0 u1 s x n c f v} (h:Ob2 w B) (hx:Wn w s x n c f v):Wn ((w.setCell ⟨B,0,none⟩ u0).setCell ⟨B,1,none⟩ u1) s x n c f v :=
 ⟨rd_setne (cell_off (by decide) h.z1) (fun i h=>by cases h) (rd_setne h.z0 (fun i h=>by cases h) hx.rd),hx.lm,hx.wf,hx.cap,hx.nil,hx.val⟩
theorem below_st2 {w0 w:World} {B:Nat} {u0 u1:Value} (hw:Below w0.heap.size w0 w) (hB:w0.heap.size≤B) :
  Below w0.heap.size w0 ((w.setCell ⟨B,0,none⟩ u0).setCell ⟨B,1,none⟩ u1) :=
 below_turned hw hw.size (((Turned.refl w0.heap.size (B+1) w).set (x:=⟨B,0,none⟩) hB (by simp) _).set (x:=⟨B,1,none⟩) hB (by simp) _) (Nat.le_refl _)
structure FlAt (L:Nat) (w1 wx:World) (b4:Nat) (s:Bool) (z:Option Addr) (k c:Nat) (v:Int):Prop where
 bx:Bx wx b4 s z k c
 bel:Below w1.heap.size w1 wx
 wn:∃f,Wn wx s z k c f v
 le:k≤L+2
theorem two_new {w w1:World} {a0 a1 a2 b0 b1 b2:Value} {t:TypeId} (hb:Below ((w.alloc (.cells #[a0,a1,a2] t)).alloc (.cells #[b0,b1,b2] t)).heap.size ((w.alloc (.cells #[a0,a1,a2] t)).alloc (.cells #[b0,b1,b2] t)) w1) :
  Bx3 w1 w.heap.size a0 a1 a2∧Bx3 w1 (w.heap.size+1) b0 b1 b2∧Below w.heap.size w w1:=by
 have h2:=bx3_at (w.alloc (.cells #[a0,a1,a2] t)) b0 b1 b2 t;rw [size_alloc1] at h2;exact ⟨((bx3_at w a0 a1 a2 t).alloc _).below hb,h2.below hb,(below_alloc (below_alloc (Below.refl w.heap.size w) _) _).trans (hb.mono (by simp;omega))⟩
theorem beq_bool_true {s t:Bool} (h:s=t):(s==t)=true:=by subst h;cases s <;> rfl
theorem beq_bool_false {s t:Bool} (h:¬s=t):(s==t)=false:=by cases s <;> cases t <;> first | rfl | exact absurd rfl h
set_option maxHeartbeats 1000000 in
theorem rSame_c (sa:Bool) (xa ya:Option Addr) (na ca ma da:Nat) (fa ga:Nat→Int) (sb:Bool) (xb yb:Option Addr) (nb cb mb db:Nat) (fb gb:Nat→Int) (w:World) (h1:Rd .u64 w xa na fa) (h2:Rd .u64 w ya ma ga) (h3:Rd .u64 w xb nb fb) (h4:Rd .u64 w yb mb gb) (l1:na≤140737488355328) (l2:ma≤140737488355328) (l3:nb≤140737488355328) (l4:mb≤140737488355328) :
  Calls Tryz.prog 24 #[.agg #[.bool sa,.slice xa na ca,.slice ya ma da],.agg #[.bool sb,.slice xb nb cb,.slice yb mb db]] w fun e w'=>∃b,e=.returned (.bool b)∧Below w.heap.size w w'∧(b=true ↔ sa=sb∧Alk na nb fa fb∧Alk ma mb ga gb):=by
 have H1:=hid h1;have H2:=hid h2;have H3:=hid h3;have H4:=hid h4
 clear h1 h2 h3 h4;by_cases hs:sa=sb
 ·have hse:=beq_bool_true hs;have HS:=hid hs;clear hs;go_enter Tryz.func24,Tryz.ntmps24;go_wp2_with fail
  refine (same_c xa xb na nb ca cb fa fb _ l1 l3 ((H1.out.alloc _).alloc _) ((H3.out.alloc _).alloc _)).mono ?_;rintro e w1 ⟨⟨q,hq⟩,b,rfl,hb1⟩;obtain ⟨⟨za,x0,x1,x2⟩,⟨zb,y0,y1,y2⟩,hw⟩:=two_new (drewN_below hq);have HW1:=hid hw;have HB1:=hid hb1
  clear hq hw hb1;cases b
  ·go_wp2;go_ret;exact ⟨false,rfl,HW1.out,(fun h=>by cases h),fun h=>HB1.out.2 h.2.1⟩
  ·go_wp2_with fail
   refine (same_c ya yb ma mb da db ga gb _ l2 l4 (H2.out.below HW1.out (Nat.le_refl _)) (H4.out.below HW1.out (Nat.le_refl _))).mono ?_;rintro e w2 ⟨⟨q,hq⟩,b,rfl,hb2⟩;have HW2:=hid (HW1.out.trans ((drewN_below hq).mono HW1.out.size));have HB2:=hid hb2
   clear hq hb2;go_wp2;go_ret;exact ⟨b,rfl,HW2.out,fun h=>⟨HS.out,HB1.out.1 (by simp),HB2.out.1 h⟩,fun h=>HB2.out.2 h.2.2⟩
 ·have hse:=beq_bool_false hs;have HS:=hid hs;clear hs;go_enter Tryz.func24,Tryz.ntmps24;go_wp2;go_ret;exact ⟨false,rfl,below_alloc (below_alloc (Below.refl _ _) _) _,(fun h=>by cases h),fun h=>absurd h.1 HS.out⟩
def lg (n m k:Nat):Bool:=decide (n≤k) && decide (m≤k)
theorem Ob2.drew {w B} (h:Ob2 w B):Ob2 w.drew B:=⟨h.z,h.z0,h.z1,h.zf⟩
theorem kO2b {w w' B} (hb:Below w.heap.size w w') (h:Ob2 w B):Ob2 w' B:=h.below hb
theorem Ob2.alloc {w B} (h:Ob2 w B) (o:Obj):Ob2 (w.alloc o) B:=h.below (below_alloc (Below.refl _ _) o)
theorem Ob2.next {w w' B} {o:Obj} (h:Ob2 w B) (hb:Below (w.alloc o).heap.size (w.alloc o) w'):Ob2 w' B:=(h.alloc o).below hb
theorem Ob2.dn {w B u0 u1 x n d V} (h:Ob2 w B) (hx:Dn w x n d V):Dn ((w.setCell ⟨B,0,none⟩ u0).setCell ⟨B,1,none⟩ u1) x n d V :=
 ⟨rd_setne (cell_off (by decide) h.z1) (fun i h=>by cases h) (rd_setne h.z0 (fun i h=>by cases h) hx.rd),hx.dg,hx.fm,hx.val⟩
structure Zn (w:World) (s:Bool) (x:Option Addr) (n:Nat) (d:Nat→Int) (v:Int):Prop where
 dn:Dn w x n d v.natAbs
 sgn:v=sg s v.natAbs
 pos:s=true→0<n
theorem Zn.below {w w' s x n d v} (h:Zn w s x n d v) (hb:Below w.heap.size w w'):Zn w' s x n d v:=⟨h.dn.below hb,h.sgn,h.pos⟩
theorem Zn.alloc {w s x n d v} (h:Zn w s x n d v) (o:Obj):Zn (w.alloc o) s x n d v:=⟨h.dn.alloc o,h.sgn,h.pos⟩
theorem Zn.next {w w' s x n d v} {o:Obj} (h:Zn w s x n d v) (hb:Below (w.alloc o).heap.size (w.alloc o) w'):Zn w' s x n d v:=(h.alloc o).below hb
theorem Zn.of {w z k d V} {r s:Bool} (h:Dn w z k d V) (hr:r=(s && decide (0<k))):Zn w r z k d (sg s V):=by
 refine ⟨by rw [sg_natAbs];exact h,?_,fun h=>by rw [hr] at h;simp at h;exact h.2⟩;rw [sg_natAbs];rcases Nat.eq_zero_or_pos k with h0 | h0
 ·subst h0;have:=h.zero;subst this;cases s <;> cases r <;> rfl
 ·have:r=s:=by rw [hr];simp [h0]
  rw [this]
theorem mkZ_c {w:World} {s:Bool} {z:Option Addr} {k c:Nat} (hk:k≤1048576) :
  Calls Tryz.prog 94 #[.bool s,.slice z k c] w fun e w'=>∃r,e=.returned (.agg #[.bool r,.slice z k c])∧Below w.heap.size w w'∧Hid (r=(s && decide (0<k))):=(zMk_c s z k c w (by omega)).mono (fun _ _ ⟨r,h1,h2,h3⟩=>⟨r,h1,h3,h2⟩)
def ZAns (L:Nat) (w w':World) (e:Ending) (v:Int):Prop:=∃s x n c d,e=.returned (.agg #[.bool s,.slice x n c])∧Below w.heap.size w w'∧n≤L∧Zn w' s x n d v
theorem zboxes {w:World} (sa:Bool) (xa:Option Addr) (na ca:Nat) (sb:Bool) (xb:Option Addr) (nb cb:Nat) (t:TypeId) :
  Bx (((w.alloc (.cells #[.bool sa,.slice xa na ca] t)).alloc (.cells #[.bool sb,.slice xb nb cb] t)).alloc (.cells #[.bool false,.slice none 0 0] t)) w.heap.size sa xa na ca∧Bx (((w.alloc (.cells #[.bool sa,.slice xa na ca] t)).alloc (.cells #[.bool sb,.slice xb nb cb] t)).alloc (.cells #[.bool false,.slice none 0 0] t)) (w.heap.size+1) sb xb nb cb∧Ob2 (((w.alloc (.cells #[.bool sa,.slice xa na ca] t)).alloc (.cells #[.bool sb,.slice xb nb cb] t)).alloc (.cells #[.bool false,.slice none 0 0] t)) (w.heap.size+1+1)∧Below w.heap.size w (((w.alloc (.cells #[.bool sa,.slice xa na ca] t)).alloc (.cells #[.bool sb,.slice xb nb cb] t)).alloc (.cells #[.bool false,.slice none 0 0] t)):=by
 have h0:Bx (w.alloc (.cells #[.bool sa,.slice xa na ca] t)) w.heap.size sa xa na ca:=⟨by simp,kN0,kN1⟩;have h1:Bx ((w.alloc (.cells #[.bool sa,.slice xa na ca] t)).alloc (.cells #[.bool sb,.slice xb nb cb] t)) (w.heap.size+1) sb xb nb cb:=by
  have:=size_alloc1 w (.cells #[.bool sa,.slice xa na ca] t);refine ⟨by simp,?_,?_⟩
  ·rw [←this];exact kN0
  ·rw [←this];exact kN1
 have h2:=ob2_new ((w.alloc (.cells #[.bool sa,.slice xa na ca] t)).alloc (.cells #[.bool sb,.slice xb nb cb] t)) t;rw [size_alloc1,size_alloc1] at h2;exact ⟨(h0.alloc _).alloc _,h1.alloc _,h2,below_alloc (below_alloc (below_alloc (Below.refl w.heap.size w) _) _) _⟩
theorem zmul_val {u v:Int} {s t:Bool} (hu:u=sg s u.natAbs) (hv:v=sg t v.natAbs):u*v=sg (!(s==t)) (u.natAbs*v.natAbs):=by
 have:=sg_mul s t u.natAbs v.natAbs;rw [←hu,←hv] at this;exact this
theorem zadd_same {u v:Int} {s t:Bool} (h:s=t) (hu:u=sg s u.natAbs) (hv:v=sg t v.natAbs):u+v=sg s (u.natAbs+v.natAbs):=by
 subst h;cases s
 ·have e1:u=u.natAbs:=hu;have e2:v=v.natAbs:=hv;show u+v=((u.natAbs+v.natAbs:Nat):Int);omega
 ·have e1:u=-(u.natAbs:Int):=hu;have e2:v=-(v.natAbs:Int):=hv;show u+v=-((u.natAbs+v.natAbs:Nat):Int);omega
theorem zadd_more {u v:Int} {s t:Bool} (h:¬s=t) (hu:u=sg s u.natAbs) (hv:v=sg t v.natAbs) (hle:v.natAbs≤u.natAbs):u+v=sg s (u.natAbs-v.natAbs):=by
 cases s <;> cases t
 ·exact absurd rfl h
 ·have e1:u=u.natAbs:=hu;have e2:v=-(v.natAbs:Int):=hv;show u+v=((u.natAbs-v.natAbs:Nat):Int);omega
 ·have e1:u=-(u.natAbs:Int):=hu;have e2:v=v.natAbs:=hv;show u+v=-((u.natAbs-v.natAbs:Nat):Int);omega
 ·exact absurd rfl h
theorem zadd_less {u v:Int} {s t:Bool} (h:¬s=t) (hu:u=sg s u.natAbs) (hv:v=sg t v.natAbs) (hle:u.natAbs≤v.natAbs):u+v=sg t (v.natAbs-u.natAbs):=by
 rw [Int.add_comm];exact zadd_more (fun e=>h e.symm) hv hu hle
set_option maxRecDepth 100000 in
set_option maxHeartbeats 4000000 in
theorem zMul_c {w:World} {sa:Bool} {xa:Option Addr} {na ca:Nat} {da:Nat→Int} {sb:Bool} {xb:Option Addr} {nb cb:Nat} {db:Nat→Int} {u v:Int} (ha:Zn w sa xa na da u) (hb:Zn w sb xb nb db v) (hn:na≤520000) (hm:nb≤520000) :
  Calls Tryz.prog 112 #[.agg #[.bool sa,.slice xa na ca],.agg #[.bool sb,.slice xb nb cb]] w fun e w'=>ZAns (na+nb) w w' e (u*v):=by
 obtain ⟨ba,bb,ob,hw⟩:=zboxes (w:=w) sa xa na ca sb xb nb cb 87;have h1:=((ha.alloc (.cells #[.bool sa,.slice xa na ca] 87)).alloc (.cells #[.bool sb,.slice xb nb cb] 87)).alloc (.cells #[.bool false,.slice none 0 0] 87);have h2:=((hb.alloc (.cells #[.bool sa,.slice xa na ca] 87)).alloc (.cells #[.bool sb,.slice xb nb cb] 87)).alloc (.cells #[.bool false,.slice none 0 0] 87);clear ha hb;go_enter Tryz.func112,Tryz.ntmps112;go_wp2_with fail
 generalize ((w.alloc (.cells #[.bool sa,.slice xa na ca] 87)).alloc (.cells #[.bool sb,.slice xb nb cb] 87)).alloc (.cells #[.bool false,.slice none 0 0] 87)=w1 at *;have HA:=hid h1;have HB:=hid h2;have HW:=hid hw
 obtain ⟨za,a0,a1⟩:=ba;obtain ⟨zb,b0,b1⟩:=bb;obtain ⟨hz,z0,z1,zf⟩:=id ob;clear h1 h2 hw;have C1:Hid (∀W,Below w1.heap.size w1 W→Calls Tryz.prog 95 #[.slice xa na ca,.slice xb nb cb] W fun e w'=>∃z k c' q,e=.returned (.slice z k c')∧Below W.heap.size W w'∧Hid (k≤na+nb∧Dn w' z k q (u.natAbs*v.natAbs))):=fun W hW=>dMul_c (HA.out.dn.below hW) (HB.out.dn.below hW) (by omega) (by omega)
 have C2:Hid (∀(W:World) (z:Option Addr) (k c:Nat),k≤na+nb→Calls Tryz.prog 94 #[.bool (!(sa==sb)),.slice z k c] W fun e w'=>∃r,e=.returned (.agg #[.bool r,.slice z k c])∧Below W.heap.size W w'∧Hid (r=((!(sa==sb)) && decide (0<k)))):=fun W z k c hk=>mkZ_c (by omega)
 go_wp2_with fail
 go_region_held3 (fun w'=>w'.cell? ⟨w.heap.size,0,none⟩=some (.bool sa)∧w'.cell? ⟨w.heap.size,1,none⟩=some (.slice xa na ca)∧w'.cell? ⟨w.heap.size+1,0,none⟩=some (.bool sb)∧w'.cell? ⟨w.heap.size+1,1,none⟩=some (.slice xb nb cb)∧(w'.cell? ⟨w.heap.size+1+1,0,none⟩).isSome=true∧(w'.cell? ⟨w.heap.size+1+1,1,none⟩).isSome=true∧w'.frozen? ⟨w.heap.size+1+1,0,none⟩=false∧w'.frozen? ⟨w.heap.size+1+1,1,none⟩=false)
  (refine ⟨?_,?_,?_,?_,?_,?_,?_,?_⟩ <;> repeat (with_reducible first | assumption | exact zf _ | exact kI0 z0 | exact kI0 z1 | exact tf _ | exact kI0 t0 | exact kI0 t1 | exact uf _ | exact kI0 u0 | exact kI0 u1 | refine kCd ?_ | refine kId ?_ | refine kFd ?_ | refine kCs (by simp only [ne_eq];omega) ?_ | refine kIs ?_ | refine kFs ?_ | refine kCb (by assumption) ?_ | refine kIb (by assumption) ?_))
  (first
   | (go_at_call 95;with_reducible refine (C1.out _ belA).mono ?_;rintro e v5 ⟨zp,kp,cp,qp,rfl,hv5,HP⟩;have TU:Ob2 v5 (w.heap.size+1+1):=(by repeat (with_reducible first | exact ob | exact TU | exact TV | refine Ob2.drew ?_ | refine kO2b (by assumption) ?_));obtain ⟨_,t0,t1,tf⟩:=id TU)
   | (go_at_call 94;with_reducible refine (C2.out _ zp kp cp HP.out.1).mono ?_;rintro e v6 ⟨rr,rfl,hv6,HR⟩;have TV:Ob2 v6 (w.heap.size+1+1):=(by repeat (with_reducible first | exact ob | exact TU | exact TV | refine Ob2.drew ?_ | refine kO2b (by assumption) ?_));obtain ⟨_,u0,u1,uf⟩:=id TV))
 have hb:Below w1.heap.size w1 v6:=belA;have DP:=HP.out.2.below hv6;go_wp2;refine bodyPost_ret (v:=.agg #[.bool rr,.slice zp kp cp]) (by simp [results,Tryz.results112,go_sem,u0,u1]) rfl ⟨rr,zp,kp,cp,qp,rfl,below_st2 (HW.out.trans (hb.mono HW.out.size)) (by omega),by have:=HP.out.1;omega,?_⟩;rw [zmul_val HA.out.sgn HB.out.sgn];exact Zn.of (TV.dn DP) HR.out
set_option maxRecDepth 100000 in
set_option maxHeartbeats 4000000 in
theorem zAdd_same {w:World} {sa:Bool} {xa:Option Addr} {na ca:Nat} {da:Nat→Int} {sb:Bool} {xb:Option Addr} {nb cb:Nat} {db:Nat→Int} {u v:Int} (ha:Zn w sa xa na da u) (hb:Zn w sb xb nb db v) (hn:na≤520000) (hm:nb≤520000) (hs:sa=sb) :
  Calls Tryz.prog 119 #[.agg #[.bool sa,.slice xa na ca],.agg #[.bool sb,.slice xb nb cb]] w fun e w'=>ZAns (na+nb+1) w w' e (u+v):=by
 obtain ⟨ba,bb,ob,hw⟩:=zboxes (w:=w) sa xa na ca sb xb nb cb 87;have h1:=((ha.alloc (.cells #[.bool sa,.slice xa na ca] 87)).alloc (.cells #[.bool sb,.slice xb nb cb] 87)).alloc (.cells #[.bool false,.slice none 0 0] 87);have h2:=((hb.alloc (.cells #[.bool sa,.slice xa na ca] 87)).alloc (.cells #[.bool sb,.slice xb nb cb] 87)).alloc (.cells #[.bool false,.slice none 0 0] 87);clear ha hb;have hse:=beq_bool_true hs;have HS:=hid hs;clear hs;go_enter Tryz.func119,Tryz.ntmps119;go_wp2_with fail
 generalize ((w.alloc (.cells #[.bool sa,.slice xa na ca] 87)).alloc (.cells #[.bool sb,.slice xb nb cb] 87)).alloc (.cells #[.bool false,.slice none 0 0] 87)=w1 at *;have HA:=hid h1;have HB:=hid h2;have HW:=hid hw
 obtain ⟨za,a0,a1⟩:=ba;obtain ⟨zb,b0,b1⟩:=bb;obtain ⟨hz,z0,z1,zf⟩:=id ob;clear h1 h2 hw;have C1:Hid (∀W,Below w1.heap.size w1 W→Calls Tryz.prog 144 #[.slice xa na ca,.slice xb nb cb] W fun e w'=>∃z k c' q,e=.returned (.slice z k c')∧Below W.heap.size W w'∧Hid (k≤na+nb+1∧Dn w' z k q (u.natAbs+v.natAbs))):=fun W hW=>dAdd_c (HA.out.dn.below hW) (HB.out.dn.below hW) (by omega) (by omega)
 have C2:Hid (∀(W:World) (z:Option Addr) (k c:Nat),k≤na+nb+1→Calls Tryz.prog 94 #[.bool (sa),.slice z k c] W fun e w'=>∃r,e=.returned (.agg #[.bool r,.slice z k c])∧Below W.heap.size W w'∧Hid (r=((sa) && decide (0<k)))):=fun W z k c hk=>mkZ_c (by omega)
 go_wp2_with fail
 go_region_held3 (fun w'=>w'.cell? ⟨w.heap.size,0,none⟩=some (.bool sa)∧w'.cell? ⟨w.heap.size,1,none⟩=some (.slice xa na ca)∧w'.cell? ⟨w.heap.size+1,0,none⟩=some (.bool sb)∧w'.cell? ⟨w.heap.size+1,1,none⟩=some (.slice xb nb cb)∧(w'.cell? ⟨w.heap.size+1+1,0,none⟩).isSome=true∧(w'.cell? ⟨w.heap.size+1+1,1,none⟩).isSome=true∧w'.frozen? ⟨w.heap.size+1+1,0,none⟩=false∧w'.frozen? ⟨w.heap.size+1+1,1,none⟩=false)
  (refine ⟨?_,?_,?_,?_,?_,?_,?_,?_⟩ <;> repeat (with_reducible first | assumption | exact zf _ | exact kI0 z0 | exact kI0 z1 | exact tf _ | exact kI0 t0 | exact kI0 t1 | exact uf _ | exact kI0 u0 | exact kI0 u1 | refine kCd ?_ | refine kId ?_ | refine kFd ?_ | refine kCs (by simp only [ne_eq];omega) ?_ | refine kIs ?_ | refine kFs ?_ | refine kCb (by assumption) ?_ | refine kIb (by assumption) ?_))
  (first
   | (go_at_call 144;with_reducible refine (C1.out _ belA).mono ?_;rintro e v5 ⟨zp,kp,cp,qp,rfl,hv5,HP⟩;have TU:Ob2 v5 (w.heap.size+1+1):=(by repeat (with_reducible first | exact ob | exact TU | exact TV | refine Ob2.drew ?_ | refine kO2b (by assumption) ?_));obtain ⟨_,t0,t1,tf⟩:=id TU)
   | (go_at_call 94;with_reducible refine (C2.out _ zp kp cp HP.out.1).mono ?_;rintro e v6 ⟨rr,rfl,hv6,HR⟩;have TV:Ob2 v6 (w.heap.size+1+1):=(by repeat (with_reducible first | exact ob | exact TU | exact TV | refine Ob2.drew ?_ | refine kO2b (by assumption) ?_));obtain ⟨_,u0,u1,uf⟩:=id TV))
 have hb:Below w1.heap.size w1 v6:=belA;have DP:=HP.out.2.below hv6;go_wp2;refine bodyPost_ret (v:=.agg #[.bool rr,.slice zp kp cp]) (by simp [results,Tryz.results119,go_sem,u0,u1]) rfl ⟨rr,zp,kp,cp,qp,rfl,below_st2 (HW.out.trans (hb.mono HW.out.size)) (by omega),by have:=HP.out.1;omega,?_⟩;rw [zadd_same HS.out HA.out.sgn HB.out.sgn];exact Zn.of (TV.dn DP) HR.out
set_option maxRecDepth 100000 in
set_option maxHeartbeats 4000000 in
theorem zAdd_more {w:World} {sa:Bool} {xa:Option Addr} {na ca:Nat} {da:Nat→Int} {sb:Bool} {xb:Option Addr} {nb cb:Nat} {db:Nat→Int} {u v:Int} (ha:Zn w sa xa na da u) (hb:Zn w sb xb nb db v) (hn:na≤520000) (hm:nb≤520000) (hs:¬sa=sb) (hle:v.natAbs≤u.natAbs) :
  Calls Tryz.prog 119 #[.agg #[.bool sa,.slice xa na ca],.agg #[.bool sb,.slice xb nb cb]] w fun e w'=>ZAns (na+nb+1) w w' e (u+v):=by
 obtain ⟨ba,bb,ob,hw⟩:=zboxes (w:=w) sa xa na ca sb xb nb cb 87;have h1:=((ha.alloc (.cells #[.bool sa,.slice xa na ca] 87)).alloc (.cells #[.bool sb,.slice xb nb cb] 87)).alloc (.cells #[.bool false,.slice none 0 0] 87);have h2:=((hb.alloc (.cells #[.bool sa,.slice xa na ca] 87)).alloc (.cells #[.bool sb,.slice xb nb cb] 87)).alloc (.cells #[.bool false,.slice none 0 0] 87);clear ha hb;have hse:=beq_bool_false hs;have HS:=hid hs;clear hs;go_enter Tryz.func119,Tryz.ntmps119;go_wp2_with fail
 generalize ((w.alloc (.cells #[.bool sa,.slice xa na ca] 87)).alloc (.cells #[.bool sb,.slice xb nb cb] 87)).alloc (.cells #[.bool false,.slice none 0 0] 87)=w1 at *;have HA:=hid h1;have HB:=hid h2;have HW:=hid hw
 obtain ⟨za,a0,a1⟩:=ba;obtain ⟨zb,b0,b1⟩:=bb;obtain ⟨hz,z0,z1,zf⟩:=id ob;clear h1 h2 hw;refine (rcmp_c xa xb na nb ca cb da db _ (by omega) (by omega) HA.out.dn.rd HB.out.dn.rd HA.out.dn.dg HB.out.dn.dg HA.out.dn.fm HB.out.dn.fm).mono ?_;rintro e w2 ⟨⟨q,hq⟩,cc,rfl,hord⟩;have hb:=drewN_below hq;clear hq;rw [HA.out.dn.val,HB.out.dn.val] at hord;have hsg:decide ((0:Int)≤cc)=true:=by
  rcases hord with ⟨h1,h2⟩ | ⟨h1,h2⟩ | ⟨h1,h2⟩ <;> subst h1 <;> first | rfl | (exfalso;omega)
 have HA2:=hid (HA.out.below hb);have HB2:=hid (HB.out.below hb);have HW2:=hid (HW.out.trans (hb.mono HW.out.size));have ob2:=ob.below hb
 have a0':=kCb hb a0;have a1':=kCb hb a1;have b0':=kCb hb b0;have b1':=kCb hb b1
 clear hb hord a0 a1 b0 b1 hz z0 z1 zf za zb HW HA HB ob;obtain ⟨hz,z0,z1,zf⟩:=id ob2;have HA:=hid HA2.out;have HB:=hid HB2.out;have HW:=hid HW2.out
 have C1:Hid (∀W,Below w2.heap.size w2 W→Calls Tryz.prog 146 #[.slice xa na ca,.slice xb nb cb] W fun e w'=>∃z k c' q,e=.returned (.slice z k c')∧Below W.heap.size W w'∧Hid (k≤na∧Dn w' z k q (u.natAbs-v.natAbs))):=fun W hW=>dSub_c (HA.out.dn.below hW) (HB.out.dn.below hW) (by omega) (by omega) hle
 have C2:Hid (∀(W:World) (z:Option Addr) (k c:Nat),k≤na→Calls Tryz.prog 94 #[.bool (sa),.slice z k c] W fun e w'=>∃r,e=.returned (.agg #[.bool r,.slice z k c])∧Below W.heap.size W w'∧Hid (r=((sa) && decide (0<k)))):=fun W z k c hk=>mkZ_c (by omega)
 go_wp2_with fail
 go_region_held3 (fun w'=>w'.cell? ⟨w.heap.size,0,none⟩=some (.bool sa)∧w'.cell? ⟨w.heap.size,1,none⟩=some (.slice xa na ca)∧w'.cell? ⟨w.heap.size+1,0,none⟩=some (.bool sb)∧w'.cell? ⟨w.heap.size+1,1,none⟩=some (.slice xb nb cb)∧(w'.cell? ⟨w.heap.size+1+1,0,none⟩).isSome=true∧(w'.cell? ⟨w.heap.size+1+1,1,none⟩).isSome=true∧w'.frozen? ⟨w.heap.size+1+1,0,none⟩=false∧w'.frozen? ⟨w.heap.size+1+1,1,none⟩=false)
  (refine ⟨?_,?_,?_,?_,?_,?_,?_,?_⟩ <;> repeat (with_reducible first | assumption | exact zf _ | exact kI0 z0 | exact kI0 z1 | exact tf _ | exact kI0 t0 | exact kI0 t1 | exact uf _ | exact kI0 u0 | exact kI0 u1 | refine kCd ?_ | refine kId ?_ | refine kFd ?_ | refine kCs (by simp only [ne_eq];omega) ?_ | refine kIs ?_ | refine kFs ?_ | refine kCb (by assumption) ?_ | refine kIb (by assumption) ?_))
  (first
   | (go_at_call 146;with_reducible refine (C1.out _ belA).mono ?_;rintro e v5 ⟨zp,kp,cp,qp,rfl,hv5,HP⟩;have TU:Ob2 v5 (w.heap.size+1+1):=(by repeat (with_reducible first | exact ob2 | exact TU | exact TV | refine Ob2.drew ?_ | refine kO2b (by assumption) ?_));obtain ⟨_,t0,t1,tf⟩:=id TU)
   | (go_at_call 94;with_reducible refine (C2.out _ zp kp cp HP.out.1).mono ?_;rintro e v6 ⟨rr,rfl,hv6,HR⟩;have TV:Ob2 v6 (w.heap.size+1+1):=(by repeat (with_reducible first | exact ob2 | exact TU | exact TV | refine Ob2.drew ?_ | refine kO2b (by assumption) ?_));obtain ⟨_,u0,u1,uf⟩:=id TV))
 have hb:Below w2.heap.size w2 v6:=belA;have DP:=HP.out.2.below hv6;go_wp2;refine bodyPost_ret (v:=.agg #[.bool rr,.slice zp kp cp]) (by simp [results,Tryz.results119,go_sem,u0,u1]) rfl ⟨rr,zp,kp,cp,qp,rfl,below_st2 (HW.out.trans (hb.mono HW.out.size)) (by omega),by have:=HP.out.1;omega,?_⟩;rw [zadd_more HS.out HA.out.sgn HB.out.sgn hle];exact Zn.of (TV.dn DP) HR.out
set_option maxRecDepth 100000 in
set_option maxHeartbeats 4000000 in
theorem zAdd_less {w:World} {sa:Bool} {xa:Option Addr} {na ca:Nat} {da:Nat→Int} {sb:Bool} {xb:Option Addr} {nb cb:Nat} {db:Nat→Int} {u v:Int} (ha:Zn w sa xa na da u) (hb:Zn w sb xb nb db v) (hn:na≤520000) (hm:nb≤520000) (hs:¬sa=sb) (hlt:u.natAbs<v.natAbs) :
  Calls Tryz.prog 119 #[.agg #[.bool sa,.slice xa na ca],.agg #[.bool sb,.slice xb nb cb]] w fun e w'=>ZAns (na+nb+1) w w' e (u+v):=by
 obtain ⟨ba,bb,ob,hw⟩:=zboxes (w:=w) sa xa na ca sb xb nb cb 87;have h1:=((ha.alloc (.cells #[.bool sa,.slice xa na ca] 87)).alloc (.cells #[.bool sb,.slice xb nb cb] 87)).alloc (.cells #[.bool false,.slice none 0 0] 87);have h2:=((hb.alloc (.cells #[.bool sa,.slice xa na ca] 87)).alloc (.cells #[.bool sb,.slice xb nb cb] 87)).alloc (.cells #[.bool false,.slice none 0 0] 87);clear ha hb;have hse:=beq_bool_false hs;have HS:=hid hs;clear hs;go_enter Tryz.func119,Tryz.ntmps119;go_wp2_with fail
 generalize ((w.alloc (.cells #[.bool sa,.slice xa na ca] 87)).alloc (.cells #[.bool sb,.slice xb nb cb] 87)).alloc (.cells #[.bool false,.slice none 0 0] 87)=w1 at *;have HA:=hid h1;have HB:=hid h2;have HW:=hid hw
 obtain ⟨za,a0,a1⟩:=ba;obtain ⟨zb,b0,b1⟩:=bb;obtain ⟨hz,z0,z1,zf⟩:=id ob;clear h1 h2 hw;refine (rcmp_c xa xb na nb ca cb da db _ (by omega) (by omega) HA.out.dn.rd HB.out.dn.rd HA.out.dn.dg HB.out.dn.dg HA.out.dn.fm HB.out.dn.fm).mono ?_;rintro e w2 ⟨⟨q,hq⟩,cc,rfl,hord⟩;have hb:=drewN_below hq;clear hq;rw [HA.out.dn.val,HB.out.dn.val] at hord;have hsg:decide ((0:Int)≤cc)=false:=by
  rcases hord with ⟨h1,h2⟩ | ⟨h1,h2⟩ | ⟨h1,h2⟩ <;> subst h1 <;> first | rfl | (exfalso;omega)
 have HA2:=hid (HA.out.below hb);have HB2:=hid (HB.out.below hb);have HW2:=hid (HW.out.trans (hb.mono HW.out.size));have ob2:=ob.below hb
 have a0':=kCb hb a0;have a1':=kCb hb a1;have b0':=kCb hb b0;have b1':=kCb hb b1
 clear hb hord a0 a1 b0 b1 hz z0 z1 zf za zb HW HA HB ob;obtain ⟨hz,z0,z1,zf⟩:=id ob2;have HA:=hid HA2.out;have HB:=hid HB2.out;have HW:=hid HW2.out
 have C1:Hid (∀W,Below w2.heap.size w2 W→Calls Tryz.prog 146 #[.slice xb nb cb,.slice xa na ca] W fun e w'=>∃z k c' q,e=.returned (.slice z k c')∧Below W.heap.size W w'∧Hid (k≤nb∧Dn w' z k q (v.natAbs-u.natAbs))):=fun W hW=>dSub_c (HB.out.dn.below hW) (HA.out.dn.below hW) (by omega) (by omega) (by omega)
 have C2:Hid (∀(W:World) (z:Option Addr) (k c:Nat),k≤nb→Calls Tryz.prog 94 #[.bool (sb),.slice z k c] W fun e w'=>∃r,e=.returned (.agg #[.bool r,.slice z k c])∧Below W.heap.size W w'∧Hid (r=((sb) && decide (0<k)))):=fun W z k c hk=>mkZ_c (by omega)
 go_wp2_with fail
 go_region_held3 (fun w'=>w'.cell? ⟨w.heap.size,0,none⟩=some (.bool sa)∧w'.cell? ⟨w.heap.size,1,none⟩=some (.slice xa na ca)∧w'.cell? ⟨w.heap.size+1,0,none⟩=some (.bool sb)∧w'.cell? ⟨w.heap.size+1,1,none⟩=some (.slice xb nb cb)∧(w'.cell? ⟨w.heap.size+1+1,0,none⟩).isSome=true∧(w'.cell? ⟨w.heap.size+1+1,1,none⟩).isSome=true∧w'.frozen? ⟨w.heap.size+1+1,0,none⟩=false∧w'.frozen? ⟨w.heap.size+1+1,1,none⟩=false)
  (refine ⟨?_,?_,?_,?_,?_,?_,?_,?_⟩ <;> repeat (with_reducible first | assumption | exact zf _ | exact kI0 z0 | exact kI0 z1 | exact tf _ | exact kI0 t0 | exact kI0 t1 | exact uf _ | exact kI0 u0 | exact kI0 u1 | refine kCd ?_ | refine kId ?_ | refine kFd ?_ | refine kCs (by simp only [ne_eq];omega) ?_ | refine kIs ?_ | refine kFs ?_ | refine kCb (by assumption) ?_ | refine kIb (by assumption) ?_))
  (first
   | (go_at_call 146;with_reducible refine (C1.out _ belA).mono ?_;rintro e v5 ⟨zp,kp,cp,qp,rfl,hv5,HP⟩;have TU:Ob2 v5 (w.heap.size+1+1):=(by repeat (with_reducible first | exact ob2 | exact TU | exact TV | refine Ob2.drew ?_ | refine kO2b (by assumption) ?_));obtain ⟨_,t0,t1,tf⟩:=id TU)
   | (go_at_call 94;with_reducible refine (C2.out _ zp kp cp HP.out.1).mono ?_;rintro e v6 ⟨rr,rfl,hv6,HR⟩;have TV:Ob2 v6 (w.heap.size+1+1):=(by repeat (with_reducible first | exact ob2 | exact TU | exact TV | refine Ob2.drew ?_ | refine kO2b (by assumption) ?_));obtain ⟨_,u0,u1,uf⟩:=id TV))
 have hb:Below w2.heap.size w2 v6:=belA;have DP:=HP.out.2.below hv6;go_wp2;refine bodyPost_ret (v:=.agg #[.bool rr,.slice zp kp cp]) (by simp [results,Tryz.results119,go_sem,u0,u1]) rfl ⟨rr,zp,kp,cp,qp,rfl,below_st2 (HW.out.trans (hb.mono HW.out.size)) (by omega),by have:=HP.out.1;omega,?_⟩;rw [zadd_less HS.out HA.out.sgn HB.out.sgn (by omega)];exact Zn.of (TV.dn DP) HR.out
theorem zAdd_c {w:World} {sa:Bool} {xa:Option Addr} {na ca:Nat} {da:Nat→Int} {sb:Bool} {xb:Option Addr} {nb cb:Nat} {db:Nat→Int} {u v:Int} (ha:Zn w sa xa na da u) (hb:Zn w sb xb nb db v) (hn:na≤520000) (hm:nb≤520000) :
  Calls Tryz.prog 119 #[.agg #[.bool sa,.slice xa na ca],.agg #[.bool sb,.slice xb nb cb]] w fun e w'=>ZAns (na+nb+1) w w' e (u+v):=by
 by_cases hs:sa=sb
 ·exact zAdd_same ha hb hn hm hs
 ·by_cases hle:v.natAbs≤u.natAbs
  ·exact zAdd_more ha hb hn hm hs hle
  ·exact zAdd_less ha hb hn hm hs (by omega)
theorem zNeg_c {w:World} {sa:Bool} {xa:Option Addr} {na ca:Nat} {da:Nat→Int} {u:Int} (ha:Zn w sa xa na da u) (hn:na≤520000) :
  Calls Tryz.prog 142 #[.agg #[.bool sa,.slice xa na ca]] w fun e w'=>∃s c,e=.returned (.agg #[.bool s,.slice xa na c])∧Below w.heap.size w w'∧Hid (Zn w' s xa na da (-u)):=by
 have HA:=hid ha;clear ha;go_enter Tryz.func142,Tryz.ntmps142;go_wp2_with fail
 refine (zMk_c _ xa na ca _ (by omega)).mono ?_;rintro e w1 ⟨r,rfl,HR,hbel⟩;have hob:=(ob2_new (w.alloc _) _).below hbel;rw [size_alloc1] at hob;have HW1:Hid (Below w.heap.size w w1):=(below_alloc (below_alloc (Below.refl w.heap.size w) _) _).trans (hbel.mono (by simp;omega));have OB1:=hid hob;clear hbel hob;obtain ⟨hz,z0,z1,zf⟩:=OB1.out;go_wp2;refine bodyPost_ret (v:=.agg #[.bool r,.slice xa na ca]) (by simp [results,Tryz.results142,go_sem,z0,z1]) rfl ⟨r,ca,rfl,below_st2 HW1.out (by omega),?_⟩;have hm:=HA.out.sgn;have e:-u=sg (!sa) u.natAbs:=by
  generalize u.natAbs=A at hm;rw [hm];cases sa
  ·rfl
  ·show - -(A:Int)=A;omega
 show Zn _ _ _ _ _ (-u);rw [e];exact Zn.of (OB1.out.dn (HA.out.dn.below HW1.out)) HR.out
theorem zSign_c {w:World} {sa:Bool} {xa:Option Addr} {na ca:Nat} {da:Nat→Int} {u:Int} (ha:Zn w sa xa na da u) (hn:na≤1048576) :
  Calls Tryz.prog 143 #[.agg #[.bool sa,.slice xa na ca]] w fun e w'=>∃c,e=.returned (.int .i64 c)∧Below w.heap.size w w'∧Ord c u 0:=by
 have hbe:=below_alloc (Below.refl w.heap.size w) (.cells #[.bool sa,.slice xa na ca] 87);have hsg:=ha.sgn;rcases Nat.eq_zero_or_pos na with h0 | h0
 ·subst h0;have hz:=ha.dn.zero;have hu:u=0:=by omega
  subst hu;clear ha hsg hz;go_enter Tryz.func143,Tryz.ntmps143;go_wp2;go_ret;exact ⟨0,rfl,hbe,.inr (.inl ⟨rfl,rfl⟩)⟩
 ·have hp:=ha.dn.pos' h0;have hn0:((na:Int)==0)=false:=by simp;omega
  cases sa
  ·have e:u=u.natAbs:=hsg;have hu:0<u:=by omega
   clear ha hsg e;go_enter Tryz.func143,Tryz.ntmps143;go_wp2;go_ret;exact ⟨1,rfl,hbe,.inr (.inr ⟨rfl,hu⟩)⟩
  ·have e:u=-(u.natAbs:Int):=hsg;have hu:u<0:=by omega
   clear ha hsg e;go_enter Tryz.func143,Tryz.ntmps143;go_wp2;go_ret;exact ⟨-1,rfl,hbe,.inl ⟨rfl,hu⟩⟩
def e2 (s:Bool) (f:Nat→Int) (n:Nat) (t:Bool) (h:Nat→Int) (m:Nat):Int:=if wfB s f n && wfB t h m then 0 else 3
def kv (kind:Nat) (u v:Int):Int:=if kind=0 then u+v else if kind=1 then u-v else u*v
theorem kZd {w s x n d v} (h:Zn w s x n d v):Zn w.drew s x n d v:=⟨h.dn.drew,h.sgn,h.pos⟩
theorem kZb {w w' s x n d v} (hb:Below w.heap.size w w') (h:Zn w s x n d v):Zn w' s x n d v:=h.below hb
theorem vf_one_iff {g:Nat→Int} {m:Nat} (hl:Lm g m) (hf:Fm g m):vf g m=1 ↔ m=1∧g 0=1:=by
 constructor
 ·intro h;have h1:Lm (fun _=>(1:Int)) 1:=fun j _=>⟨show (0:Int)≤1 by decide,show (1:Int)<18446744073709551616 by decide⟩
  have h2:vf (fun _=>(1:Int)) 1=1:=by decide
  obtain ⟨e1,e2⟩:=vf_inj hl h1 hf (.inr (by decide)) (h.trans h2.symm);exact ⟨e1,e2 0 (by omega)⟩
 ·rintro ⟨rfl,h⟩;simp [vf,pw,h]
theorem Dn.one_iff {w x k d V} (h:Dn w x k d V):V=1 ↔ k=1∧d 0=1:=by
 constructor
 ·intro hV;have h1:Dg (fun _=>(1:Int)) 1:=fun j _=>⟨show (0:Int)≤1 by decide,show (1:Int)<4294967296 by decide⟩
  have h2:vd (fun _=>(1:Int)) 1=1:=by decide
  obtain ⟨e1,e2⟩:=vd_inj h.dg h1 h.fm (.inr (by decide)) (by rw [h.val,hV,h2];rfl);exact ⟨e1,e2 0 (by omega)⟩
 ·rintro ⟨rfl,h0⟩;have:=h.val;simp [vd,pd,h0] at this;omega
set_option maxRecDepth 100000 in
set_option maxHeartbeats 8000000 in
theorem qForm_c {w:World} {s:Bool} {x:Option Addr} {n c:Nat} {f:Nat→Int} {y:Option Addr} {m d:Nat} {g:Nat→Int} (h:Rw w x n c f y m d g) (hn:n≤1000) (hm:m≤1000) :
  Calls Tryz.prog 87 #[.agg #[.bool s,.slice x n c,.slice y m d]] w fun e w'=>e=.returned (.bool (rfB s f n g m))∧Below w.heap.size w w':=by
 obtain ⟨b,hb⟩:∃b,rfB s f n g m=b:=⟨_,rfl⟩;rw [hb];have H:=hid h;have HB:=hid hb
 have hw:=below_alloc (Below.refl w.heap.size w) (.cells #[.bool s,.slice x n c,.slice y m d] 24);have hcx:=bx3_new (Below.refl (w.alloc (.cells #[.bool s,.slice x n c,.slice y m d] 24)).heap.size _);clear h hb;go_enter Tryz.func87,Tryz.ntmps87;go_wp2_with fail
 generalize w.alloc (.cells #[.bool s,.slice x n c,.slice y m d] 24)=w1 at *;have HW:=hid hw;have BX:=hid hcx
 clear hw hcx;obtain ⟨z,x0,x1,x2⟩:=BX.out;have c1:=rform_c x n c f w1 (by omega) (H.out.rx.below HW.out (Nat.le_refl _));cases h1:fmB f n
 ·have hbf:b=false:=by rw [←HB.out];simp [rfB,wfB,h1]
  subst hbf;rw [h1] at c1;refine c1.mono ?_;rintro e w2 ⟨rfl,hw2⟩;replace hw2:=hw2.symm;subst hw2;clear c1;go_wp2;go_ret;exact ⟨rfl,HW.out⟩
 rw [h1] at c1;refine c1.mono ?_;rintro e w2 ⟨rfl,hw2⟩;replace hw2:=hw2.symm;subst hw2;clear c1;have F1:=hid h1;clear h1;have c2:=rform_c y m d g w1 (by omega) (H.out.ry.below HW.out (Nat.le_refl _));go_wp2_with fail
 cases h2:fmB g m
 ·have hbf:b=false:=by rw [←HB.out];simp [rfB,h2]
  subst hbf;rw [h2] at c2;refine c2.mono ?_;rintro e w2 ⟨rfl,hw2⟩;replace hw2:=hw2.symm;subst hw2;clear c2;go_wp2;go_ret;exact ⟨rfl,HW.out⟩
 rw [h2] at c2;refine c2.mono ?_;rintro e w2 ⟨rfl,hw2⟩;replace hw2:=hw2.symm;subst hw2;clear c2;have F2:=hid h2;clear h2;by_cases hm0:m=0
 ·subst hm0;have hbf:b=false:=by rw [←HB.out];simp [rfB]
  subst hbf;go_wp2;go_ret;exact ⟨rfl,HW.out⟩
 have hmd:((m:Int)==0)=false:=by simp;omega
 by_cases hn0:n=0
 ·subst hn0;cases s
  ·by_cases hm1:m=1
   ·subst hm1;have hry:=H.out.ry.below HW.out (Nat.le_refl _);obtain ⟨bk,o,rfl⟩:=hry.at (by omega);have hcell:=hry.cell (j:=0) (by omega);obtain ⟨t,ht⟩:∃t,g 0=t:=⟨_,rfl⟩;rw [ht,Nat.add_zero] at hcell;have hbf:b=(t==1):=by
     rw [←HB.out,←ht];have e:=vf_one_iff H.out.ly (fm_of F2.out);have h0:=vf_nonneg H.out.ly;have e1:(vf g 1).toNat=1 ↔ g 0=1:=by
      constructor
      ·intro h;exact (e.1 (by omega)).2
      ·intro h;have:=e.2 ⟨rfl,h⟩;omega
     by_cases hg:g 0=1
     ·simp [rfB,wfB,vf,hg,fmB,pw]
     ·have hg':¬((vf g 1).toNat=1):=fun h=>hg (e1.1 h)
      have e3:(vf f 0).toNat.gcd (vf g 1).toNat=(vf g 1).toNat:=by simp [vf]
      simp [rfB,e3,hg',hg]
    have HBF:=hid hbf;clear ht hry hbf;go_wp2;go_ret;exact ⟨by rw [HBF.out];rfl,HW.out⟩
   ·have hm1d:((m:Int)==1)=false:=by simp;omega
    have hbf:b=false:=by
     rw [←HB.out];have e:=vf_one_iff H.out.ly (fm_of F2.out);have h0:=vf_nonneg H.out.ly;have hg':¬((vf g m).toNat=1):=fun h=>hm1 (e.1 (by omega)).1
     have e3:(vf f 0).toNat.gcd (vf g m).toNat=(vf g m).toNat:=by simp [vf]
     simp [rfB,e3,hg']
    subst hbf;go_wp2;go_ret;exact ⟨rfl,HW.out⟩
  ·have hbf:b=false:=by rw [←HB.out];simp [rfB,wfB]
   subst hbf;go_wp2;go_ret;exact ⟨rfl,HW.out⟩
 have hnd:((n:Int)==0)=false:=by simp;omega
 have HBv:Hid (b=decide ((vf f n).toNat.gcd (vf g m).toNat=1)):=by
  show b=_;rw [←HB.out];have h3:wfB s f n=true:=(wfB_iff _ _ _).2 ⟨fm_of F1.out,fun _=>by omega⟩;have h4:decide (0<m)=true:=by simp;omega
  rw [show rfB s f n g m=(wfB s f n && (fmB g m && (decide (0<m) && decide ((vf f n).toNat.gcd (vf g m).toNat=1)))) from rfl,h3,F2.out,h4];simp
 have C1:Hid (∀W,Below w1.heap.size w1 W→Calls Tryz.prog 113 #[.slice x n c] W fun e w'=>∃z k c d,e=.returned (.slice z k c)∧Below W.heap.size W w'∧Hid (k≤2*n∧Dn w' z k d (vf f n).toNat)):=fun W hW=>fromD_c (by omega) ((H.out.below HW.out).below hW).rx H.out.lx
 have C2:Hid (∀W,Below w1.heap.size w1 W→Calls Tryz.prog 113 #[.slice y m d] W fun e w'=>∃z k c d,e=.returned (.slice z k c)∧Below W.heap.size W w'∧Hid (k≤2*m∧Dn w' z k d (vf g m).toNat)):=fun W hW=>fromD_c (by omega) ((H.out.below HW.out).below hW).ry H.out.ly
 have C3:Hid (∀(W:World) (z5:Option Addr) (k5 c5:Nat) (d5:Nat→Int) (z6:Option Addr) (k6 c6:Nat) (d6:Nat→Int),k5≤2*n→k6≤2*m→Dn W z5 k5 d5 (vf f n).toNat→Dn W z6 k6 d6 (vf g m).toNat→Calls Tryz.prog 124 #[.slice z5 k5 c5,.slice z6 k6 c6] W fun e w'=>∃z k c' d,e=.returned (.slice z k c')∧Below W.heap.size W w'∧Hid (k≤k5+k6∧Dn w' z k d ((vf f n).toNat.gcd (vf g m).toNat))):=fun W z5 k5 c5 d5 z6 k6 c6 d6 h1 h2 h3 h4=>rgcd_c h3 h4 (by omega) (by omega)
 go_wp2_with fail
 go_region_held3 (fun w'=>w'.cell? ⟨w.heap.size,1,none⟩=some (.slice x n c)∧w'.cell? ⟨w.heap.size,2,none⟩=some (.slice y m d))
  (refine ⟨?_,?_⟩ <;> repeat (with_reducible first | assumption | refine kCd ?_ | refine kCb (by assumption) ?_))
  (first
   | (go_at_call 113;with_reducible refine (C1.out _ belB).mono ?_;rintro e v5 ⟨z5,k5,c5,d5,rfl,hb5,H5⟩)
   | (go_at_call 113;with_reducible refine (C2.out _ belB).mono ?_;rintro e v6 ⟨z6,k6,c6,d6,rfl,hb6,H6⟩)
   | (go_at_call 124;with_reducible refine (C3.out _ z5 k5 c5 d5 z6 k6 c6 d6 H5.out.1 H6.out.1 (by repeat (with_reducible first | exact H5.out.2 | refine Dn.drew ?_ | refine kDb (by assumption) ?_)) (by repeat (with_reducible first | exact H6.out.2 | refine Dn.drew ?_ | refine kDb (by assumption) ?_))).mono ?_;rintro e v7 ⟨z7,k7,c7,d7,rfl,hb7,H7⟩))
 all_goals
  have hb:Below w1.heap.size w1 v7:=belB;have HBw:=hid (HW.out.trans (hb.mono HW.out.size));have hone:=H7.out.2.one_iff;have hk7:=H7.out.1;have hk5:=H5.out.1;have hk6:=H6.out.1;by_cases hk1:k7=1
  ·subst hk1;have hr7:=H7.out.2.rd;obtain ⟨bk,o,rfl⟩:=hr7.at (by omega);have hcell:=hr7.cell (j:=0) (by omega);obtain ⟨t,ht⟩:∃t,d7 0=t:=⟨_,rfl⟩;rw [ht,Nat.add_zero] at hcell;rw [ht] at hone;have hbf:b=(t==1):=by
    rw [HBv.out];by_cases h1:t=1
    ·simp [hone.2 ⟨rfl,h1⟩,h1]
    ·have hx:¬((vf f n).toNat.gcd (vf g m).toNat=1):=fun h=>h1 (hone.1 h).2
     simp [hx,h1]
   have HBF:=hid hbf;clear ht hr7 hbf hone hb;go_wp2;go_ret;exact ⟨by rw [HBF.out];rfl,HBw.out⟩
  ·have hk1d:((k7:Int)==1)=false:=by simp;omega
   have hbf:b=false:=by
    have hx:¬((vf f n).toNat.gcd (vf g m).toNat=1):=fun h=>hk1 (hone.1 h).1
    rw [HBv.out];simp [hx]
   subst hbf;clear hone hb;go_wp2;go_ret;exact ⟨rfl,HBw.out⟩
def MkGot (s:Bool) (n m:Nat) (A B:Nat) (w w':World) (en:Ending):Prop:=∃r z k c' d' z2 k2 c2 d2,en=.returned (.agg #[.bool r,.slice z k c',.slice z2 k2 c2])∧Below w.heap.size w w'∧k≤n+2∧k2≤m+2∧r=(s && decide (0<k))∧Dn w' z k d' (A/A.gcd B)∧Dn w' z2 k2 d2 (B/A.gcd B)
theorem and_pos {s:Bool} {n:Nat} (h:0<n):s=(s && decide (0<n)):=by simp [h]
set_option maxRecDepth 100000 in
set_option maxHeartbeats 8000000 in
theorem mkZero_c {w:World} {s:Bool} {x:Option Addr} {c:Nat} {d:Nat→Int} {y:Option Addr} {m e:Nat} {g:Nat→Int} {A B:Nat} (ha:Dn w x 0 d A) (_hb:Dn w y m g B) (hs:s=false) (hB:0<B) :
  Calls Tryz.prog 93 #[.agg #[.bool s,.slice x 0 c],.slice y m e] w fun en w'=>MkGot s 0 m A B w w' en:=by
 have hA:=ha.zero;have h3:=ob_new (w.alloc (.cells #[.bool s,.slice x 0 c] 87)) 89;rw [size_alloc1] at h3;have h4:=below_alloc (below_alloc (Below.refl w.heap.size w) (.cells #[.bool s,.slice x 0 c] 87)) (.cells #[.bool false,.slice none 0 0,.slice none 0 0] 89);have h5:Bx ((w.alloc (.cells #[.bool s,.slice x 0 c] 87)).alloc (.cells #[.bool false,.slice none 0 0,.slice none 0 0] 89)) w.heap.size s x 0 c:=Bx.alloc ⟨by simp,kN0,kN1⟩ _;clear ha;have HA:=hid hA;have HS:=hid hs
 clear hA hs;go_enter Tryz.func93,Tryz.ntmps93;go_wp2_with fail
 generalize (w.alloc (.cells #[.bool s,.slice x 0 c] 87)).alloc (.cells #[.bool false,.slice none 0 0,.slice none 0 0] 89)=w1 at *;have OB:=hid h3;have HW:=hid h4
 obtain ⟨hz,z0,z1,z2,zf⟩:=h3;obtain ⟨za,a0,a1⟩:=h5;clear h4;have C1:Hid (∀W:World,Calls Tryz.prog 97 #[.int .u64 1] W fun e w'=>∃z k cap d,e=.returned (.slice z k cap)∧Below W.heap.size W w'∧Hid (k≤1∧Dn w' z k d 1)):=fun W=>dWord_c (V:=1) (by decide)
 go_region_held3 (fun w'=>w'.cell? ⟨w.heap.size,0,none⟩=some (.bool s)∧w'.cell? ⟨w.heap.size,1,none⟩=some (.slice x 0 c)∧(w'.cell? ⟨w.heap.size+1,0,none⟩).isSome=true∧(w'.cell? ⟨w.heap.size+1,1,none⟩).isSome=true∧(w'.cell? ⟨w.heap.size+1,2,none⟩).isSome=true∧w'.frozen? ⟨w.heap.size+1,0,none⟩=false∧w'.frozen? ⟨w.heap.size+1,1,none⟩=false∧w'.frozen? ⟨w.heap.size+1,2,none⟩=false)
  (refine ⟨?_,?_,?_,?_,?_,?_,?_,?_⟩ <;> repeat (with_reducible first | assumption | exact zf _ | exact tf _ | exact kI0 z0 | exact kI0 z1 | exact kI0 z2 | exact kI0 t0 | exact kI0 t1 | exact kI0 t2 | refine kCd ?_ | refine kId ?_ | refine kFd ?_ | refine kCs (by simp only [ne_eq];omega) ?_ | refine kIs ?_ | refine kFs ?_ | refine kCb (by assumption) ?_ | refine kIb (by assumption) ?_))
  (first | (go_at_call 97;with_reducible refine (C1.out _).mono ?_;rintro e w5 ⟨zb,kb,cb,db,rfl,hb5,HP⟩;have TU:Ob w5 (w.heap.size+1):=(by repeat (with_reducible first | exact OB.out | refine Ob.drew ?_ | refine kOb (by assumption) ?_));obtain ⟨_,t0,t1,t2,tf⟩:=id TU))
 all_goals
  have hb:Below w1.heap.size w1 w5:=belB;go_wp2;refine bodyPost_ret (v:=.agg #[.bool s,.slice x 0 c,.slice zb kb cb]) (by simp [results,Tryz.results93,go_sem,t0,t1,t2]) rfl ⟨s,x,0,c,fun _=>0,zb,kb,cb,db,rfl,below_st (HW.out.trans (hb.mono HW.out.size)) (by omega),by omega,by have:=HP.out.1;omega,by rw [HS.out];rfl,?_,?_⟩
  ·rw [HA.out,Nat.zero_div];exact ⟨Rd.zero,fun j hj=>by omega,.inl rfl,rfl⟩
  ·rw [HA.out,Nat.gcd_zero_left,Nat.div_self hB];exact TU.dn HP.out.2
set_option maxRecDepth 100000 in
set_option maxHeartbeats 8000000 in
theorem mkLong_c {w:World} {s:Bool} {x:Option Addr} {n c:Nat} {d:Nat→Int} {y:Option Addr} {m e:Nat} {g:Nat→Int} {A B:Nat} (ha:Dn w x n d A) (hb:Dn w y m g B) (h0:0<A) (hn:n≤260000) (hm:m≤260000) (hB:0<B) (hl:¬(n≤2∧m≤2)) :
  Calls Tryz.prog 93 #[.agg #[.bool s,.slice x n c],.slice y m e] w fun en w'=>MkGot s n m A B w w' en:=by
 have hn0:=ha.pos h0;have h1:=(ha.alloc (.cells #[.bool s,.slice x n c] 87)).alloc (.cells #[.bool false,.slice none 0 0,.slice none 0 0] 89);have h2:=(hb.alloc (.cells #[.bool s,.slice x n c] 87)).alloc (.cells #[.bool false,.slice none 0 0,.slice none 0 0] 89);have h3:=ob_new (w.alloc (.cells #[.bool s,.slice x n c] 87)) 89;rw [size_alloc1] at h3;have h4:=below_alloc (below_alloc (Below.refl w.heap.size w) (.cells #[.bool s,.slice x n c] 87)) (.cells #[.bool false,.slice none 0 0,.slice none 0 0] 89);have h5:Bx ((w.alloc (.cells #[.bool s,.slice x n c] 87)).alloc (.cells #[.bool false,.slice none 0 0,.slice none 0 0] 89)) w.heap.size s x n c:=Bx.alloc ⟨by simp,kN0,kN1⟩ _;clear ha hb;have hnd:((n:Int)==0)=false:=by simp;omega
 have hcase:decide ((n:Int)≤2)=false∨(decide ((n:Int)≤2)=true∧decide ((m:Int)≤2)=false):=by
  by_cases h:n≤2
  ·right;exact ⟨decide_eq_true (by omega),decide_eq_false (by omega)⟩
  ·left;exact decide_eq_false (by omega)
 have HBp:=hid hB;have HAp:=hid h0
 have HGp:=hid (show 0<A.gcd B from Nat.gcd_pos_of_pos_left _ h0);clear hl hB h0;go_enter Tryz.func93,Tryz.ntmps93;rcases hcase with hd1 | ⟨hd1,hd2⟩
 all_goals
  go_wp2_with fail
  generalize (w.alloc (.cells #[.bool s,.slice x n c] 87)).alloc (.cells #[.bool false,.slice none 0 0,.slice none 0 0] 89)=w1 at *;have HA:=hid h1;have HB:=hid h2;have OB:=hid h3;have HW:=hid h4;have BX:=hid h5
  clear h1 h2 h3 h4 h5;refine (rgcd_c HA.out HB.out (by omega) (by omega)).mono ?_;rintro en w2 ⟨zg,kg,cg,dg,rfl,hb2,HG⟩;have HB2:=hid hb2;have hkg:=HG.out.1;have hone:=HG.out.2.one_iff;clear hb2;obtain ⟨za,a0,a1⟩:=BX.out.below HB2.out;by_cases hg1:A.gcd B=1
  ·obtain ⟨hk1,hd0⟩:=hone.1 hg1;subst hk1;have hr:=HG.out.2.rd;obtain ⟨bk,o,rfl⟩:=hr.at (by omega);have hcell:=hr.cell (j:=0) (by omega);rw [hd0,Nat.add_zero] at hcell;have HG1:=hid hg1;clear hg1 hone hr hd0;obtain ⟨hz,z0,z1,z2,zf⟩:=OB.out.below HB2.out;go_wp2;refine bodyPost_ret (v:=.agg #[.bool s,.slice x n c,.slice y m e]) (by simp [results,Tryz.results93,go_sem,z0,z1,z2]) rfl ⟨s,x,n,c,d,y,m,e,g,rfl,below_st (HW.out.trans (HB2.out.mono HW.out.size)) (by omega),by omega,by omega,and_pos hn0,?_,?_⟩
   ·rw [HG1.out,Nat.div_one];exact (OB.out.below HB2.out).dn (HA.out.below HB2.out)
   ·rw [HG1.out,Nat.div_one];exact (OB.out.below HB2.out).dn (HB.out.below HB2.out)
  ·have hgc:((kg:Int)==1)=false∨(kg=1∧(dg 0==1)=false):=by
    by_cases hk:kg=1
    ·right;refine ⟨hk,?_⟩
     simp;intro h;exact hg1 (hone.2 ⟨hk,h⟩)
    ·left;simp;omega
   have HGn:=hid hg1;clear hg1 hone;rcases hgc with hgk | ⟨hgk,hgd⟩
   all_goals
    try (subst hgk;have hr:=HG.out.2.rd;obtain ⟨bk,o,rfl⟩:=hr.at (by omega);have hcell:=hr.cell (j:=0) (by omega);rw [Nat.add_zero] at hcell;clear hr)
    go_wp2_with fail
    refine (rdiv_c (HA.out.below HB2.out) HG.out.2 (by omega) (by omega) HGp.out).mono ?_;rintro en w3 ⟨zq,kq,cq,dq,zr,kr,cr,dr,rfl,hb3,H3⟩;have HB3:=hid hb3;have hkq:=H3.out.1
    clear hb3;go_wp2_with fail
    refine (rdiv_c ((HB.out.below HB2.out).below HB3.out) (HG.out.2.below HB3.out) (by omega) (by omega) HGp.out).mono ?_;rintro en w4 ⟨zp,kp,cp,dp,zs,ks,cs,ds,rfl,hb4,H4⟩;have HB4:=hid (HB2.out.trans ((HB3.out.trans (hb4.mono HB3.out.size)).mono HB2.out.size));have HB34:=hid hb4
    have hkp:=H4.out.1;clear hb4 za a0 a1;obtain ⟨za,a0,a1⟩:=BX.out.below HB4.out;go_wp2_with fail
    refine (mkZ_c (by omega)).mono ?_;rintro en w5 ⟨r5,rfl,hb5,HR5⟩;have HB5:=hid (HB4.out.trans (hb5.mono HB4.out.size));have DQ:=hid ((H3.out.2.2.1.below HB34.out).below hb5);have DP:=hid (H4.out.2.2.1.below hb5)
    clear hb5 za a0 a1;obtain ⟨hz,z0,z1,z2,zf⟩:=OB.out.below HB5.out;go_wp2;exact bodyPost_ret (v:=.agg #[.bool r5,.slice zq kq cq,.slice zp kp cp]) (by simp [results,Tryz.results93,go_sem,z0,z1,z2]) rfl ⟨r5,zq,kq,cq,dq,zp,kp,cp,dp,rfl,below_st (HW.out.trans (HB5.out.mono HW.out.size)) (by omega),by omega,by omega,HR5.out,(OB.out.below HB5.out).dn DQ.out,(OB.out.below HB5.out).dn DP.out⟩
theorem mkQ_c {w:World} {s:Bool} {x:Option Addr} {n c:Nat} {d:Nat→Int} {y:Option Addr} {m e:Nat} {g:Nat→Int} {A B:Nat} (ha:Dn w x n d A) (hb:Dn w y m g B) (hs:s=true→0<n) (hn:n≤260000) (hm:m≤260000) (hB:0<B) :
  Calls Tryz.prog 93 #[.agg #[.bool s,.slice x n c],.slice y m e] w fun en w'=>MkGot s n m A B w w' en:=by
 rcases Nat.eq_zero_or_pos n with h0 | h0
 ·subst h0;exact mkZero_c ha hb (by cases s;rfl;exact absurd (hs rfl) (by omega)) hB
 ·have hA:=ha.pos' h0;by_cases hl:n≤2∧m≤2
  ·exact (mkSmall_c ha hb hA hl.1 hl.2 hB).mono (fun _ _ ⟨r,z,k,c',d',z2,k2,c2,d2,h1,h2,h3,h4,h5,h6,h7⟩=>⟨r,z,k,c',d',z2,k2,c2,d2,h1,h2,by omega,by omega,h5,h6,h7⟩)
  ·exact mkLong_c ha hb hA hn hm hB hl
structure Qn (w:World) (s:Bool) (x:Option Addr) (n:Nat) (d:Nat→Int) (y:Option Addr) (m:Nat) (g:Nat→Int) (q:Rat):Prop where
 num:Zn w s x n d q.num
 den:Dn w y m g q.den
theorem Qn.below {w w' s x n d y m g q} (h:Qn w s x n d y m g q) (hb:Below w.heap.size w w'):Qn w' s x n d y m g q:=⟨h.num.below hb,h.den.below hb⟩
theorem Qn.alloc {w s x n d y m g q} (h:Qn w s x n d y m g q) (o:Obj):Qn (w.alloc o) s x n d y m g q:=⟨h.num.alloc o,h.den.alloc o⟩
theorem kQd {w s x n d y m g q} (h:Qn w s x n d y m g q):Qn w.drew s x n d y m g q:=⟨⟨h.num.dn.drew,h.num.sgn,h.num.pos⟩,h.den.drew⟩
theorem kQb {w w' s x n d y m g q} (hb:Below w.heap.size w w') (h:Qn w s x n d y m g q):Qn w' s x n d y m g q:=h.below hb
theorem Ob.zn {w B u0 u1 u2 s x n d v} (h:Ob w B) (hx:Zn w s x n d v):Zn (((w.setCell ⟨B,0,none⟩ u0).setCell ⟨B,1,none⟩ u1).setCell ⟨B,2,none⟩ u2) s x n d v:=⟨h.dn hx.dn,hx.sgn,hx.pos⟩
theorem Ob.qn {w B u0 u1 u2 s x n d y m g q} (h:Ob w B) (hx:Qn w s x n d y m g q):Qn (((w.setCell ⟨B,0,none⟩ u0).setCell ⟨B,1,none⟩ u1).setCell ⟨B,2,none⟩ u2) s x n d y m g q:=⟨h.zn hx.num,h.dn hx.den⟩
def QAns (L:Nat) (w w':World) (e:Ending) (q:Rat):Prop:=∃s x n c d y m c' g,e=.returned (.agg #[.bool s,.slice x n c,.slice y m c'])∧Below w.heap.size w w'∧n≤L∧m≤L∧Qn w' s x n d y m g q
theorem qbox1 {w:World} (a0 a1 a2:Value) (t u:TypeId) :
  Bx3 ((w.alloc (.cells #[a0,a1,a2] t)).alloc (.cells #[.bool false,.slice none 0 0,.slice none 0 0] u)) w.heap.size a0 a1 a2∧Ob ((w.alloc (.cells #[a0,a1,a2] t)).alloc (.cells #[.bool false,.slice none 0 0,.slice none 0 0] u)) (w.heap.size+1)∧Below w.heap.size w ((w.alloc (.cells #[a0,a1,a2] t)).alloc (.cells #[.bool false,.slice none 0 0,.slice none 0 0] u)):=by
 have h3:=ob_new (w.alloc (.cells #[a0,a1,a2] t)) u;rw [size_alloc1] at h3;exact ⟨(bx3_at w a0 a1 a2 t).below (below_alloc (Below.refl _ _) _),h3,below_alloc (below_alloc (Below.refl w.heap.size w) _) _⟩
set_option maxRecDepth 100000 in
set_option maxHeartbeats 8000000 in
theorem qFrom_c {L:Nat} {w:World} {s:Bool} {x:Option Addr} {n c:Nat} {f:Nat→Int} {y:Option Addr} {m d:Nat} {g:Nat→Int} {q:Rat} (h:Rn L w s x n c f y m d g q) (hL:L≤150000) :
  Calls Tryz.prog 74 #[.agg #[.bool s,.slice x n c,.slice y m d]] w fun e w'=>QAns (2*L) w w' e q:=by
 obtain ⟨h1,h2,h3⟩:=qbox1 (w:=w) (.bool s) (.slice x n c) (.slice y m d) 24 89;have h4:=(h.alloc (.cells #[.bool s,.slice x n c,.slice y m d] 24)).alloc (.cells #[.bool false,.slice none 0 0,.slice none 0 0] 89);clear h;go_enter Tryz.func74,Tryz.ntmps74;go_wp2_with fail
 generalize (w.alloc (.cells #[.bool s,.slice x n c,.slice y m d] 24)).alloc (.cells #[.bool false,.slice none 0 0,.slice none 0 0] 89)=w1 at *;have HN:=hid h4;have OB:=hid h2;have HW:=hid h3
 obtain ⟨z,x0,x1,x2⟩:=h1;obtain ⟨hz,z0,z1,z2,zf⟩:=h2;have hln:=h4.ln;have hld:=h4.ld
 clear h3 h4;have C1:Hid (∀W,Below w1.heap.size w1 W→Calls Tryz.prog 113 #[.slice x n c] W fun e w'=>∃z k c d,e=.returned (.slice z k c)∧Below W.heap.size W w'∧Hid (k≤2*n∧Dn w' z k d (vf f n).toNat)):=fun W hW=>fromD_c (by omega) (HN.out.below hW).num.rd HN.out.num.lm
 have C2:Hid (∀W,Below w1.heap.size w1 W→Calls Tryz.prog 113 #[.slice y m d] W fun e w'=>∃z k c d,e=.returned (.slice z k c)∧Below W.heap.size W w'∧Hid (k≤2*m∧Dn w' z k d (vf g m).toNat)):=fun W hW=>fromD_c (by omega) (HN.out.below hW).den.rd HN.out.den.lm
 go_region_held3 (fun w'=>w'.cell? ⟨w.heap.size,0,none⟩=some (.bool s)∧w'.cell? ⟨w.heap.size,1,none⟩=some (.slice x n c)∧w'.cell? ⟨w.heap.size,2,none⟩=some (.slice y m d)∧(w'.cell? ⟨w.heap.size+1,0,none⟩).isSome=true∧(w'.cell? ⟨w.heap.size+1,1,none⟩).isSome=true∧(w'.cell? ⟨w.heap.size+1,2,none⟩).isSome=true∧w'.frozen? ⟨w.heap.size+1,0,none⟩=false∧w'.frozen? ⟨w.heap.size+1,1,none⟩=false∧w'.frozen? ⟨w.heap.size+1,2,none⟩=false)
  (refine ⟨?_,?_,?_,?_,?_,?_,?_,?_,?_⟩ <;> repeat (with_reducible first | assumption | exact zf _ | exact tf _ | exact uf _ | exact kI0 z0 | exact kI0 z1 | exact kI0 z2 | exact kI0 t0 | exact kI0 t1 | exact kI0 t2 | exact kI0 u0 | exact kI0 u1 | exact kI0 u2 | refine kCd ?_ | refine kId ?_ | refine kFd ?_ | refine kCs (by simp only [ne_eq];omega) ?_ | refine kIs ?_ | refine kFs ?_ | refine kCb (by assumption) ?_ | refine kIb (by assumption) ?_))
  (first
   | (go_at_call 113;with_reducible refine (C1.out _ belB).mono ?_;rintro e v5 ⟨z5,k5,c5,d5,rfl,hb5,H5⟩;have Tt:Ob v5 (w.heap.size+1):=(by repeat (with_reducible first | exact OB.out | exact Tt | refine Ob.drew ?_ | refine kOb (by assumption) ?_));obtain ⟨_,t0,t1,t2,tf⟩:=id Tt)
   | (go_at_call 113;with_reducible refine (C2.out _ belB).mono ?_;rintro e v6 ⟨z6,k6,c6,d6,rfl,hb6,H6⟩;have Tu:Ob v6 (w.heap.size+1):=(by repeat (with_reducible first | exact OB.out | exact Tt | exact Tu | refine Ob.drew ?_ | refine kOb (by assumption) ?_));obtain ⟨_,u0,u1,u2,uf⟩:=id Tu))
 all_goals
  have D5:Dn v6 z5 k5 d5 (vf f n).toNat:=(by repeat (with_reducible first | exact H5.out.2 | refine Dn.drew ?_ | refine kDb (by assumption) ?_));have hb:Below w1.heap.size w1 v6:=belB;have e1:(vf f n).toNat=q.num.natAbs:=by rw [←natAbs_wv (s:=s) HN.out.num.lm,HN.out.num.val]
  have e2:(vf g m).toNat=q.den:=by
   have:=HN.out.den.val;rw [wv_false] at this;omega
  have D6:=H6.out.2;rw [e1] at D5;rw [e2] at D6;have hk5:=H5.out.1;have hk6:=H6.out.1
  go_wp2;refine bodyPost_ret (v:=.agg #[.bool s,.slice z5 k5 c5,.slice z6 k6 c6]) (by simp [results,Tryz.results74,go_sem,u0,u1,u2]) rfl ⟨s,z5,k5,c5,d5,z6,k6,c6,d6,rfl,below_st (HW.out.trans (hb.mono HW.out.size)) (by omega),by omega,by omega,Tu.qn ⟨⟨D5,HN.out.num.sgn,fun hs=>?_⟩,D6⟩⟩;subst hs;have hnz:0<n:=((wfB_iff _ _ _).1 HN.out.num.wf).2 rfl;have:=vf_pos HN.out.num.lm (fm_of_wfB HN.out.num.wf) hnz;exact D5.pos (by omega)
set_option maxRecDepth 100000 in
set_option maxHeartbeats 8000000 in
theorem qNeg_c {w:World} {s:Bool} {x:Option Addr} {n c:Nat} {d:Nat→Int} {y:Option Addr} {m e:Nat} {g:Nat→Int} {q:Rat} (h:Qn w s x n d y m g q) (hn:n≤520000) :
  Calls Tryz.prog 111 #[.agg #[.bool s,.slice x n c,.slice y m e]] w fun en w'=>∃s' c',en=.returned (.agg #[.bool s',.slice x n c',.slice y m e])∧Below w.heap.size w w'∧Hid (Qn w' s' x n d y m g (-q)):=by
 obtain ⟨h1,h2,h3⟩:=qbox1 (w:=w) (.bool s) (.slice x n c) (.slice y m e) 89 89;have h4:=(h.alloc (.cells #[.bool s,.slice x n c,.slice y m e] 89)).alloc (.cells #[.bool false,.slice none 0 0,.slice none 0 0] 89);clear h;go_enter Tryz.func111,Tryz.ntmps111;go_wp2_with fail
 generalize (w.alloc (.cells #[.bool s,.slice x n c,.slice y m e] 89)).alloc (.cells #[.bool false,.slice none 0 0,.slice none 0 0] 89)=w1 at *;have HN:=hid h4;have OB:=hid h2;have HW:=hid h3
 obtain ⟨z,x0,x1,x2⟩:=h1;obtain ⟨hz,z0,z1,z2,zf⟩:=h2;clear h3 h4;have C1:Hid (∀W,Below w1.heap.size w1 W→Calls Tryz.prog 142 #[.agg #[.bool s,.slice x n c]] W fun e w'=>∃s c,e=.returned (.agg #[.bool s,.slice x n c])∧Below W.heap.size W w'∧Hid (Zn w' s x n d (-q.num))):=fun W hW=>zNeg_c (HN.out.num.below hW) hn
 go_region_held3 (fun w'=>w'.cell? ⟨w.heap.size,0,none⟩=some (.bool s)∧w'.cell? ⟨w.heap.size,1,none⟩=some (.slice x n c)∧w'.cell? ⟨w.heap.size,2,none⟩=some (.slice y m e)∧(w'.cell? ⟨w.heap.size+1,0,none⟩).isSome=true∧(w'.cell? ⟨w.heap.size+1,1,none⟩).isSome=true∧(w'.cell? ⟨w.heap.size+1,2,none⟩).isSome=true∧w'.frozen? ⟨w.heap.size+1,0,none⟩=false∧w'.frozen? ⟨w.heap.size+1,1,none⟩=false∧w'.frozen? ⟨w.heap.size+1,2,none⟩=false)
  (refine ⟨?_,?_,?_,?_,?_,?_,?_,?_,?_⟩ <;> repeat (with_reducible first | assumption | exact zf _ | exact tf _ | exact kI0 z0 | exact kI0 z1 | exact kI0 z2 | exact kI0 t0 | exact kI0 t1 | exact kI0 t2 | refine kCd ?_ | refine kId ?_ | refine kFd ?_ | refine kCs (by simp only [ne_eq];omega) ?_ | refine kIs ?_ | refine kFs ?_ | refine kCb (by assumption) ?_ | refine kIb (by assumption) ?_))
  (first
   | (go_at_call 142;with_reducible refine (C1.out _ belB).mono ?_;rintro e v5 ⟨s5,c5,rfl,hb5,H5⟩;have Tt:Ob v5 (w.heap.size+1):=(by repeat (with_reducible first | exact OB.out | exact Tt | refine Ob.drew ?_ | refine kOb (by assumption) ?_));obtain ⟨_,t0,t1,t2,tf⟩:=id Tt))
 all_goals
  have hb:Below w1.heap.size w1 v5:=belB;go_wp2;exact bodyPost_ret (v:=.agg #[.bool s5,.slice x n c5,.slice y m e]) (by simp [results,Tryz.results111,go_sem,t0,t1,t2]) rfl ⟨s5,c5,rfl,below_st (HW.out.trans (hb.mono HW.out.size)) (by omega),Tt.qn ⟨H5.out,HN.out.den.below hb⟩⟩
theorem qSign_c {w:World} {s:Bool} {x:Option Addr} {n c:Nat} {d:Nat→Int} {y:Option Addr} {m e:Nat} {g:Nat→Int} {q:Rat} (h:Qn w s x n d y m g q) (hn:n≤1048576) :
  Calls Tryz.prog 118 #[.agg #[.bool s,.slice x n c,.slice y m e]] w fun en w'=>∃c,en=.returned (.int .i64 c)∧Below w.heap.size w w'∧Ord c q.num 0:=by
 have h1:=bx3_at w (.bool s) (.slice x n c) (.slice y m e) 89;have h3:=below_alloc (Below.refl w.heap.size w) (.cells #[.bool s,.slice x n c,.slice y m e] 89);have h4:=h.alloc (.cells #[.bool s,.slice x n c,.slice y m e] 89);clear h;go_enter Tryz.func118,Tryz.ntmps118;go_wp2_with fail
 generalize w.alloc (.cells #[.bool s,.slice x n c,.slice y m e] 89)=w1 at *;refine (zSign_c h4.num hn).mono ?_;rintro en w2 ⟨cc,rfl,hb,ho⟩;have HO:=hid ho;have HB:=hid (h3.trans (hb.mono h3.size))
 clear h1 h3 h4 hb ho;go_wp2;go_ret;exact ⟨cc,rfl,HB.out,HO.out⟩
structure X2 (w:World) (B:Nat) (s:Bool) (x:Option Addr) (n c:Nat):Prop where
 z:B<w.heap.size
 c0:w.cell? ⟨B,0,none⟩=some (.bool s)
 c1:w.cell? ⟨B,1,none⟩=some (.slice x n c)
 zf:∀o,w.frozen? ⟨B,o,none⟩=false
theorem X2.below {w w' B s x n c} (h:X2 w B s x n c) (hb:Below w.heap.size w w'):X2 w' B s x n c:=by
 obtain ⟨h1,h2⟩:=bcell hb;exact ⟨Nat.lt_of_lt_of_le h.z hb.size,kCb hb h.c0,kCb hb h.c1,fun o=>(h2 _ _ h.z).trans (h.zf o)⟩
theorem X2.put {w B s x n c} (h:X2 w B s x n c) (r:Bool) (y:Option Addr) (m d:Nat):X2 ((w.setCell ⟨B,0,none⟩ (.bool r)).setCell ⟨B,1,none⟩ (.slice y m d)) B r y m d :=
 ⟨by simpa [World.setCell] using h.z,kCo (by decide) (kCe (kI0 h.c0)),kCe (kIs (kI0 h.c1)),fun o=>kFs (kFs (h.zf o))⟩
theorem X2.dn {w B s x n c u0 u1 y m d V} (h:X2 w B s x n c) (hx:Dn w y m d V):Dn ((w.setCell ⟨B,0,none⟩ u0).setCell ⟨B,1,none⟩ u1) y m d V :=
 ⟨rd_setne (cell_off (by decide) h.c1) (fun i h=>by cases h) (rd_setne h.c0 (fun i h=>by cases h) hx.rd),hx.dg,hx.fm,hx.val⟩
theorem X2.zn {w B s x n c u0 u1 t y m d v} (h:X2 w B s x n c) (hx:Zn w t y m d v):Zn ((w.setCell ⟨B,0,none⟩ u0).setCell ⟨B,1,none⟩ u1) t y m d v:=⟨h.dn hx.dn,hx.sgn,hx.pos⟩
theorem X2.drew {w B s x n c} (h:X2 w B s x n c):X2 w.drew B s x n c:=⟨h.z,h.c0,h.c1,h.zf⟩
theorem Ob2.x2 {w B} (h:Ob2 w B):X2 w B false none 0 0:=⟨h.z,h.z0,h.z1,h.zf⟩
theorem zMulE_c {w:World} {sa:Bool} {xa:Option Addr} {na ca:Nat} {da:Nat→Int} {sb:Bool} {xb:Option Addr} {nb cb:Nat} {db:Nat→Int} {u v:Int} (ha:Zn w sa xa na da u) (hb:Zn w sb xb nb db v) (hn:na≤520000) (hm:nb≤520000) :
  Calls Tryz.prog 112 #[.agg #[.bool sa,.slice xa na ca],.agg #[.bool sb,.slice xb nb cb]] w fun e w'=>∃s x n c d,e=.returned (.agg #[.bool s,.slice x n c])∧Below w.heap.size w w'∧Hid (n≤na+nb∧Zn w' s x n d (u*v)) :=
 (zMul_c ha hb hn hm).mono (fun _ _ ⟨s,x,n,c,d,h1,h2,h3,h4⟩=>⟨s,x,n,c,d,h1,h2,h3,h4⟩)
end Go.Proofs.YtdbbncamlaiajaaGreat
