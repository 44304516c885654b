/-
 The walk of the statements' own look at answers that the document fixes (awake). What a call's own stores turned; lists of a call's own. No Go text is named here. Walks of package whole: Form, signed. Walks of package whole's calls Add, Sub, Mul. Walks of package whole: slices.Clone, Neg, Cmp, Of. The walk of package whole's call Divide. Walks of the document's reference for whole: Same, Twin, DocOf. Walks of package nat's reading: isNumber, readPiece. The walk of the document's reference for nat: Text. Walks of the document's reference for nat: Read, DocRead, DocText. Walks of package nat's reading: joinPieces, fromDigits, Read. Walks of package nat's reading: fromDigits, Read. Walks of nat's Text, and of the document's reference: DocText, DocRead. Walks of package whole's calls Text, Read. The walk of package whole's call Read. The walk of the statements' own look at answers of whole that the document fixes (awake). What the walks of whole's statements share: light, boxes and numbers carried along. Rational numbers in lowest terms: what numerators and denominators become by sums, products, quotients. Euclid's steps by the highest bits (Lehmer's way, Collins' condition), on plain numbers. No Go text is named here. Walks of package nat's greatest common divisor: findSteps. Walks of package nat's greatest common divisor: bitsFrom, highBits. Walks of package nat's greatest common divisor: highBits.
-/
import Derived.Test.YtdbbncamlaiajaaGreatZ3
import Derived.Test.YtdbbncamlaiajaaGreatZ0
import Derived.Lib.LazyBuf
import Derived.Deep.RegionHeld3
import Derived.Test.YtdbbncamlaiajaaGreatZ1
import Derived.Test.YtdbbncamlaiajaaGreatZ2
import Derived.Deep.CutRange
import Derived.BigRegion
import Derived.BigQuiet
namespace Go.Proofs.YtdbbncamlaiajaaGreat
open Go.RowKit
theorem vf_one (x:Int):vf (fun _=>x) 1=x:=by simp [vf,pw]
theorem Rd.alloc {k w ao n f} (h:Rd k w ao n f) (o:Obj):Rd k (w.alloc o) ao n f:=h.below ((Below.refl _ _).alloc (Nat.le_refl _) o) (Nat.le_refl _)
theorem below_alloc {w0 w:World} (h:Below w0.heap.size w0 w) (o:Obj):Below w0.heap.size w0 (w.alloc o):=h.alloc h.size o
theorem fm1 {x:Int} (h:x≠0):Fm (fun _=>x) 1:=.inr h
theorem size_alloc1 (w:World) (o:Obj):(w.alloc o).heap.size=w.heap.size+1:=by simp
structure Turned (lo hi:Nat) (w w':World):Prop where
 os:w'.os=w.os
 tape:w'.tape=w.tape
 output:w'.output=w.output
 size:w.heap.size≤w'.heap.size
 block:∀k,k<w.heap.size→k<lo∨hi≤k→w'.heap[k]?=w.heap[k]?
theorem Turned.refl (lo hi:Nat) (w:World):Turned lo hi w w:=⟨rfl,rfl,rfl,Nat.le_refl _,fun _ _ _=>rfl⟩
theorem Turned.trans {lo hi:Nat} {a b c:World} (h:Turned lo hi a b) (k:Turned lo hi b c):Turned lo hi a c :=
 ⟨k.os.trans h.os,k.tape.trans h.tape,k.output.trans h.output,Nat.le_trans h.size k.size,fun i hi hn=>(k.block i (Nat.lt_of_lt_of_le hi h.size) hn).trans (h.block i hi hn)⟩
theorem Turned.set {lo hi:Nat} {a w:World} (h:Turned lo hi a w) {x:Addr} (h1:lo≤x.block) (h2:x.block<hi) (u:Value):Turned lo hi a (w.setCell x u) :=
 h.trans ⟨rfl,rfl,rfl,by simp [World.setCell],fun k _ hn=>Below.heap_setCell _ _ _ _ (by omega)⟩
theorem Turned.alloc {lo hi:Nat} {a w:World} (h:Turned lo hi a w) (o:Obj):Turned lo hi a (w.alloc o) :=
 h.trans ⟨rfl,rfl,rfl,by simp,fun k hk _=>Below.heap_alloc _ _ _ hk⟩
theorem Turned.drew {lo hi:Nat} {a w:World} (h:Turned lo hi a w):Turned lo hi a w.drew:=⟨h.os,h.tape,h.output,h.size,h.block⟩
theorem Turned.below {lo hi:Nat} {a w w':World} (h:Turned lo hi a w) (hb:Below w.heap.size w w'):Turned lo hi a w' :=
 h.trans ⟨hb.os,hb.tape,hb.output,hb.size,fun k hk _=>hb.block k hk⟩
theorem below_turned {B:Nat} {w0 w w':World} (hb:Below B w0 w) (hB:B≤w.heap.size) {lo hi:Nat} (h:Turned lo hi w w') (hl:B≤lo):Below B w0 w' :=
 hb.trans ⟨h.os,h.tape,h.output,h.size,fun k hk=>h.block k (by omega) (.inl (by omega))⟩
theorem Own.of {k e w w' base ao n cap f} (h:Own k e w base (.slice ao n cap) n f) (hh:∀a,ao=some a→w'.heap[a.block]?=w.heap[a.block]?):Own k e w' base (.slice ao n cap) n f:=by
 obtain ⟨h1,h2⟩:=h;refine ⟨h1,?_⟩;rcases h2 with ⟨h3,h4⟩ | ⟨g,cap',cur,hv,hb,hg,hn,hm,hs,ht⟩
 ·exact .inl ⟨h3,h4⟩
 ·cases hv
  exact .inr ⟨g,cap,cur,rfl,hb,(hh _ rfl).trans hg,hn,hm,hs,ht⟩
theorem Own.base {k e w base base' v n f} (h:Own k e w base v n f) (hb:base'≤base):Own k e w base' v n f:=by
 obtain ⟨h1,h2⟩:=h;refine ⟨h1,?_⟩;rcases h2 with ⟨h3,h4⟩ | ⟨g,cap',cur,hv,hb',hg,hn,hm,hs,ht⟩
 ·exact .inl ⟨h3,h4⟩
 ·exact .inr ⟨g,cap',cur,hv,Nat.le_trans hb hb',hg,hn,hm,hs,ht⟩
theorem Own.slice {k e w base ao n cap f} (h:Own k e w base (.slice ao n cap) n f):n≤cap∧cap≤9223372036854775807∧(ao=none→n=0∧cap=0)∧Rd k w ao n f∧∀a,ao=some a→base≤a.block∧a.block<w.heap.size:=by
 obtain ⟨ao',cap',e',h1,h2,h3,h4,h5⟩:=h.shape;cases e'
 refine ⟨h1,by unfold maxLen at h3;omega,fun e=>⟨by have:=h2 e;omega,h2 e⟩,h4,h5⟩
def wfB (s:Bool) (f:Nat→Int) (n:Nat):Bool:=fmB f n && !(s && decide (n=0))
theorem bcell {W w1:World} {B:Nat} (hb:Below B W w1):(∀b o,b<B→w1.cell? ⟨b,o,none⟩=W.cell? ⟨b,o,none⟩)∧(∀b o,b<B→w1.frozen? ⟨b,o,none⟩=W.frozen? ⟨b,o,none⟩) :=
 ⟨fun b o h=>hb.cell (p:=⟨b,o,none⟩) h,fun b o h=>hb.frozen (p:=⟨b,o,none⟩) h⟩
theorem drewN_below {w w':World} {q:Nat} (h:w'=w.drewN q):Below w.heap.size w w':=by rw [h];exact below_drewN (Below.refl _ _) _
theorem wForm_c (s:Bool) (ao:Option Addr) (n cap:Nat) (f:Nat→Int) (w:World) (hm:n≤9223372036854775807) (hr:Rd .u64 w ao n f) :
  Calls Tryz.prog 101 #[.agg #[.bool s,.slice ao n cap]] w fun e w'=>e=.returned (.bool (wfB s f n))∧Below w.heap.size w w':=by
 have hba:Below w.heap.size w (w.alloc (.cells #[.bool s,.slice ao n cap] 158)):=below_alloc (Below.refl _ _) _;have c1:=form_c ao n cap f (w.alloc (.cells #[.bool s,.slice ao n cap] 158)) hm (hr.alloc _);have HB:=hid hba;clear hr hba;have hwf:wfB s f n=(fmB f n && !(s && decide (n=0))):=rfl;rw [hwf];clear hwf;cases hfa:fmB f n
 ·rw [hfa] at c1;have C1:=hid c1;clear c1 hfa;go_enter Tryz.func101,Tryz.ntmps101;go_wp2_with fail
  refine C1.out.mono ?_;rintro e w1 ⟨rfl,rfl⟩;go_wp2;go_ret;exact ⟨rfl,HB.out⟩
 ·rw [hfa] at c1;have C1:=hid c1;clear c1 hfa;cases s
  ·go_enter Tryz.func101,Tryz.ntmps101;go_wp2_with fail
   refine C1.out.mono ?_;rintro e w1 ⟨rfl,rfl⟩;go_wp2;go_ret;exact ⟨rfl,HB.out⟩
  ·by_cases hn0:n=0
   ·subst hn0;go_enter Tryz.func101,Tryz.ntmps101;go_wp2_with fail
    refine C1.out.mono ?_;rintro e w1 ⟨rfl,rfl⟩;go_wp2;go_ret;exact ⟨rfl,HB.out⟩
   ·have hni:((n:Int)==0)=false:=by simp;omega
    have hdn:decide (n=0)=false:=by simp;omega
    rw [hdn];clear hdn;go_enter Tryz.func101,Tryz.ntmps101;go_wp2_with fail
    refine C1.out.mono ?_;rintro e w1 ⟨rfl,rfl⟩;go_wp2;go_ret;exact ⟨rfl,HB.out⟩
theorem signed_c (s:Bool) (ao:Option Addr) (n cap:Nat) (w:World) (hm:n≤9223372036854775807) :
  Calls Tryz.prog 158 #[.bool s,.slice ao n cap] w fun e w'=>∃r o,e=.returned (.agg #[.bool r,.slice ao n cap])∧Hid (r=(s && decide (0<n)))∧w'=w.alloc o:=by
 cases s
 ·go_enter Tryz.func158,Tryz.ntmps158;go_wp2;exact bodyPost_ret (v:=.agg #[.bool false,.slice ao n cap]) (by simp [results,Tryz.results158,go_sem]) rfl ⟨false,_,rfl,rfl,rfl⟩
 ·by_cases hn0:0<n
  ·have hni:decide ((0:Int)<(n:Int))=true:=by simp;omega
   have hdn:decide (0<n)=true:=by simp;omega
   rw [hdn];clear hdn;go_enter Tryz.func158,Tryz.ntmps158;go_wp2;exact bodyPost_ret (v:=.agg #[.bool true,.slice ao n cap]) (by simp [results,Tryz.results158,go_sem]) rfl ⟨true,_,rfl,rfl,rfl⟩
  ·have hni:decide ((0:Int)<(n:Int))=false:=by simp;omega
   have hdn:decide (0<n)=false:=by simp;omega
   rw [hdn];clear hdn;go_enter Tryz.func158,Tryz.ntmps158;go_wp2;exact bodyPost_ret (v:=.agg #[.bool false,.slice ao n cap]) (by simp [results,Tryz.results158,go_sem]) rfl ⟨false,_,rfl,rfl,rfl⟩
def wv (s:Bool) (f:Nat→Int) (n:Nat):Int:=if s then-vf f n else vf f n
theorem Res.turned {C w0 w w' w'' ao n cap f} (h:Res C w w' ao n cap f) (hb:Below w0.heap.size w0 w) (ht:Turned w0.heap.size w.heap.size w' w''):Res C w0 w'' ao n cap f:=by
 have hb2:Below w0.heap.size w0 w':=hb.trans (h.bel.mono hb.size);refine ⟨below_turned hb2 hb2.size ht (Nat.le_refl _),?_,h.lmc,h.fm⟩;rcases h.own with ⟨rfl,rfl,rfl⟩ | ⟨g,rfl,h1,h2,h3,h4,h5⟩
 ·exact .inl ⟨rfl,rfl,rfl⟩
 ·exact .inr ⟨g,rfl,by have:=hb.size;omega,h2,h3,h4,h5.of (ht.block g h5.lt (.inr h1))⟩
structure Asw (C:Nat) (w w':World) (ao:Option Addr) (n cap:Nat) (f:Nat→Int):Prop where
 bel:Below w.heap.size w w'
 own:Own .u64 145 w' w.heap.size (.slice ao n cap) n f
 lm:Lm f n
 fm:Fm f n
 le:n≤C
theorem Asw.rd {C w w' ao n cap f} (h:Asw C w w' ao n cap f):Rd .u64 w' ao n f:=h.own.slice.2.2.2.1
theorem Asw.ncap {C w w' ao n cap f} (h:Asw C w w' ao n cap f):n≤cap∧cap≤9223372036854775807:=⟨h.own.slice.1,h.own.slice.2.1⟩
theorem Asw.nil' {C w w' ao n cap f} (h:Asw C w w' ao n cap f):ao=none→n=0∧cap=0:=h.own.slice.2.2.1
theorem Asw.mono {C C' w w' ao n cap f} (h:Asw C w w' ao n cap f) (hC:C≤C'):Asw C' w w' ao n cap f:=⟨h.bel,h.own,h.lm,h.fm,Nat.le_trans h.le hC⟩
theorem Asw.none {C:Nat} {w w':World} (f:Nat→Int) (h:Below w.heap.size w w'):Asw C w w' none 0 0 f:=⟨h,own_nil _ _ _ _ _,fun j hj=>by omega,.inl rfl,Nat.zero_le _⟩
theorem Asw.turned {C w0 w w' w'' ao n cap f} (h:Asw C w w' ao n cap f) (hb:Below w0.heap.size w0 w) (ht:Turned w0.heap.size w.heap.size w' w''):Asw C w0 w'' ao n cap f:=by
 have hb2:Below w0.heap.size w0 w':=hb.trans (h.bel.mono hb.size);refine ⟨below_turned hb2 hb2.size ht (Nat.le_refl _),(h.own.of ?_).base hb.size,h.lm,h.fm,h.le⟩;intro a ha;obtain ⟨h1,h2⟩:=h.own.slice.2.2.2.2 a ha;exact ht.block _ h2 (.inr h1)
theorem Asw.ahead {C w0 w w' ao n cap f} (h:Asw C w w' ao n cap f) (hb:Below w0.heap.size w0 w):Asw C w0 w' ao n cap f:=h.turned hb (Turned.refl _ _ _)
theorem Asw.later {C w w' w'' ao n cap f} (h:Asw C w w' ao n cap f) (hb:Below w'.heap.size w' w''):Asw C w w'' ao n cap f :=
 ⟨h.bel.trans (hb.mono h.bel.size),h.own.below hb,h.lm,h.fm,h.le⟩
theorem Res.ans {C w w' ao n cap f} (h:Res C w w' ao n cap f) (hC:C≤9223372036854775807):Asw C w w' ao n cap f:=by
 refine ⟨h.bel,?_,h.lm,h.fm,h.le⟩;rcases h.own with ⟨rfl,rfl,rfl⟩ | ⟨g,rfl,h1,h2,h3,h4,h5⟩
 ·exact own_nil _ _ _ _ _
 ·exact own_of_blk h5 h1 h3 (by unfold maxLen;omega)
structure WRes (C:Nat) (w w':World) (s:Bool) (ao:Option Addr) (n cap:Nat) (f:Nat→Int):Prop where
 res:Asw C w w' ao n cap f
 sgn:s=true→0<n
theorem wfB_iff (s:Bool) (f:Nat→Int) (n:Nat):wfB s f n=true ↔ Fm f n∧(s=true→0<n):=by
 rw [←fmB_iff];unfold wfB;cases s <;> simp;omega
theorem WRes.wfB {C w w' s ao n cap f} (h:WRes C w w' s ao n cap f):wfB s f n=true:=(wfB_iff s f n).2 ⟨h.res.fm,h.sgn⟩
theorem wv_false (f:Nat→Int) (n:Nat):wv false f n=vf f n:=rfl
theorem wv_true (f:Nat→Int) (n:Nat):wv true f n=- vf f n:=rfl
theorem WRes.mk' {C w w' ao n cap f} {r s:Bool} (hr:Hid (r=(s && decide (0<n)))) (h:Asw C w w' ao n cap f):WRes C w w' r ao n cap f:=⟨h,fun h=>by rw [hr.out] at h;simp at h;exact h.2⟩
theorem wv_sign {f n} {r s:Bool} (hr:Hid (r=(s && decide (0<n)))):wv r f n=wv s f n:=by
 rw [hr.out];by_cases hn:0<n
 ·simp [hn]
 ·obtain rfl:n=0:=by omega
  cases s <;> simp [wv,vf]
set_option maxHeartbeats 1000000 in
theorem wadd_same (s:Bool) (ao bo:Option Addr) (n m ca cb:Nat) (f h:Nat→Int) (w:World) (hn:n≤8796093022208) (hm:m≤8796093022208) (hr:Rd .u64 w ao n f) (hs:Rd .u64 w bo m h) (hf:Lm f n) (hh:Lm h m) (ff:Fm f n) (fh:Fm h m) :
  Calls Tryz.prog 159 #[.agg #[.bool s,.slice ao n ca],.agg #[.bool s,.slice bo m cb]] w fun e w'=>∃r ao' k cap' f',e=.returned (.agg #[.bool r,.slice ao' k cap'])∧WRes (max n m+1) w w' r ao' k cap' f'∧wv r f' k=wv s f n+wv s h m:=by
 have HR:=hid hr;have HS:=hid hs;have HF:=hid hf;have HH:=hid hh;have FF:=hid ff;have FH:=hid fh
 clear hr hs hf hh ff fh;cases s
 all_goals
  go_enter Tryz.func159,Tryz.ntmps159;go_wp2_with fail
  refine (Add_c ao bo n m ca cb f h _ hn hm (((HR.out.alloc _).alloc _).alloc _) (((HS.out.alloc _).alloc _).alloc _) HF.out HH.out).mono ?_;rintro e w1 ⟨xa,k,cx,g,er,rfl,hres,hc⟩;obtain ⟨rfl,hv⟩:er=0∧vf g k=vf f n+vf h m:=by
   rcases hc with ⟨_,_,h1,h2⟩ | ⟨h1,_⟩
   ·exact ⟨h1,h2⟩
   ·exact absurd ⟨FF.out,FH.out⟩ h1
  clear hc;have hk:k≤max n m+1:=hres.le;obtain ⟨hc1,hf1⟩:=bcell hres.bel;have hz:w.heap.size+1+1<w1.heap.size:=by have:=hres.bel.size;simp at this;omega
  have HRes:=hid hres;have HV:=hid hv
  clear hres hv;go_wp2_with fail
  refine (signed_c _ xa k cx _ (by omega)).mono ?_;rintro e w2 ⟨r,o,rfl,hsg,rfl⟩;go_wp2;refine bodyPost_ret (v:=.agg #[.bool r,.slice xa k cx]) (by simp [results,Tryz.results159,go_sem,hc1,hz]) rfl ⟨r,xa,k,cx,g,rfl,WRes.mk' hsg ((HRes.out.turned (below_alloc (below_alloc (below_alloc (Below.refl w.heap.size w) _) _) _) ?_).ans (by omega)),?_⟩
  ·exact (((Turned.refl _ _ _).set (by simp;omega) (by simp) _).set (by simp;omega) (by simp) _).alloc _
  ·rw [wv_sign hsg];simp only [wv_false,wv_true,HV.out];try omega
theorem beq_bool_ne {s t:Bool} (h:(s==t)=false):s=!t:=by cases s <;> cases t <;> simp_all
set_option maxHeartbeats 1000000 in
theorem wadd_diff (s t:Bool) (hst:(s==t)=false) (ao bo:Option Addr) (n m ca cb:Nat) (f h:Nat→Int) (w:World) (hn:n≤8796093022208) (hm:m≤8796093022208) (hr:Rd .u64 w ao n f) (hs:Rd .u64 w bo m h) (hf:Lm f n) (hh:Lm h m) (ff:Fm f n) (fh:Fm h m) :
  Calls Tryz.prog 159 #[.agg #[.bool s,.slice ao n ca],.agg #[.bool t,.slice bo m cb]] w fun e w'=>∃r ao' k cap' f',e=.returned (.agg #[.bool r,.slice ao' k cap'])∧WRes (max n m+1) w w' r ao' k cap' f'∧wv r f' k=wv s f n+wv t h m:=by
 have HR:=hid hr;have HS:=hid hs;have HF:=hid hf;have HH:=hid hh;have FF:=hid ff;have FH:=hid fh
 have HST:=hid (beq_bool_ne hst);clear hr hs hf hh ff fh;go_enter Tryz.func159,Tryz.ntmps159;go_wp2_with fail
 refine (Cmp_c ao bo n m ca cb f h _ hn hm (((HR.out.alloc _).alloc _).alloc _) (((HS.out.alloc _).alloc _).alloc _) HF.out HH.out).mono ?_;rintro e w1 ⟨⟨q,hq⟩,c,er,rfl,hc⟩;obtain ⟨rfl,ho⟩:er=0∧Ord c (vf f n) (vf h m):=by
  rcases hc with ⟨_,_,h1,h2⟩ | ⟨h1,_⟩
  ·exact ⟨h1,h2⟩
  ·exact absurd ⟨FF.out,FH.out⟩ h1
 clear hc;have hb:=drewN_below hq;obtain ⟨hc1,hf1⟩:=bcell hb;have hz:w.heap.size+1+1<w1.heap.size:=by have:=hb.size;simp at this;omega
 have x0:w1.cell? ⟨w.heap.size,0,none⟩=some (.bool s):=(hc1 _ _ (by simp;omega)).trans (by simp [go_sem]);have x1:w1.cell? ⟨w.heap.size,1,none⟩=some (.slice ao n ca):=(hc1 _ _ (by simp;omega)).trans (by simp [go_sem]);have y0:w1.cell? ⟨w.heap.size+1,0,none⟩=some (.bool t):=(hc1 _ _ (by simp)).trans (by simp [go_sem]);have y1:w1.cell? ⟨w.heap.size+1,1,none⟩=some (.slice bo m cb):=(hc1 _ _ (by simp)).trans (by simp [go_sem]);have z0:w1.cell? ⟨w.heap.size+1+1,0,none⟩=some (.bool false):=(hc1 _ _ (by simp)).trans (by simp [go_sem]);have z1:w1.cell? ⟨w.heap.size+1+1,1,none⟩=some (.slice none 0 0):=(hc1 _ _ (by simp)).trans (by simp [go_sem]);have HO:=hid ho;have hbw:Below w.heap.size w w1:=(below_alloc (below_alloc (below_alloc (Below.refl w.heap.size w) _) _) _).trans (hb.mono (by simp;omega));have HBw:=hid hbw;clear ho hq hb hc1 hbw;by_cases hc0:c<0
 ·have hlt:vf f n<vf h m:=by have:=HO.out;unfold Ord at this;omega
  have HLT:=hid hlt;clear hlt;go_wp2_with fail
  have hb2:=below_turned HBw.out HBw.out.size (((((Turned.refl w.heap.size (w.heap.size+1+1+1) w1).set (x:=⟨w.heap.size,0,none⟩) (by simp) (by simp;omega) (.bool t)).set (x:=⟨w.heap.size,1,none⟩) (by simp) (by simp;omega) (.slice bo m cb)).set (x:=⟨w.heap.size+1,0,none⟩) (by simp) (by simp) (.bool s)).set (x:=⟨w.heap.size+1,1,none⟩) (by simp) (by simp) (.slice ao n ca)) (Nat.le_refl _);refine (Sub_c bo ao m n cb ca h f _ hm hn (HS.out.below hb2 (Nat.le_refl _)) (HR.out.below hb2 (Nat.le_refl _)) HH.out HF.out).mono ?_;rintro e w2 ⟨xa,k,cx,g,er,rfl,hres,hc⟩;obtain ⟨rfl,hv⟩:er=0∧vf g k=vf h m-vf f n:=by
   rcases hc with ⟨_,_,_,h1,h2⟩ | ⟨_,_,h1,_⟩ | ⟨h1,_⟩
   ·exact ⟨h1,h2⟩
   ·have:=HLT.out;omega
   ·exact absurd ⟨FH.out,FF.out⟩ h1
  clear hc;obtain ⟨hc2,hf2⟩:=bcell hres.bel;have hz2:w.heap.size+1+1<w2.heap.size:=by have:=hres.bel.size;(try simp at this);omega
  have u0:w2.cell? ⟨w.heap.size,0,none⟩=some (.bool t):=(hc2 _ _ (by simp;omega)).trans (by simp [go_sem,x0]);have z0:w2.cell? ⟨w.heap.size+1+1,0,none⟩=some (.bool false):=(hc2 _ _ (by simp;omega)).trans (by simp [go_sem,z0]);have z1:w2.cell? ⟨w.heap.size+1+1,1,none⟩=some (.slice none 0 0):=(hc2 _ _ (by simp;omega)).trans (by simp [go_sem,z1]);have hk:k≤m:=hres.le;have HRes:=hid hres;have HV:=hid hv;have HB2:=hid hb2
  clear hres hv hb2 hc2;go_wp2_with fail
  refine (signed_c _ xa k cx _ (by omega)).mono ?_;rintro e w3 ⟨r,o,rfl,hsg,rfl⟩;go_wp2;refine bodyPost_ret (v:=.agg #[.bool r,.slice xa k cx]) (by simp [results,Tryz.results159,go_sem,z0,z1,hz2]) rfl ⟨r,xa,k,cx,g,rfl,WRes.mk' hsg (((HRes.out.turned HB2.out ?_).mono (by omega)).ans (by omega)),?_⟩
  ·exact (((Turned.refl _ _ _).set (by first | omega | (simp;done) | (simp;omega)) (by first | omega | (simp;done) | (simp;omega)) _).set (by first | omega | (simp;done) | (simp;omega)) (by first | omega | (simp;done) | (simp;omega)) _).alloc _
  ·rw [wv_sign hsg,HST.out];have:=HV.out;cases t <;> simp only [Bool.not_false,Bool.not_true,wv_false,wv_true] <;> omega
 ·have hlt:vf h m≤vf f n:=by have:=HO.out;unfold Ord at this;omega
  have HLT:=hid hlt;clear hlt;go_wp2_with fail
  have hb2:=HBw.out;refine (Sub_c ao bo n m ca cb f h _ hn hm (HR.out.below hb2 (Nat.le_refl _)) (HS.out.below hb2 (Nat.le_refl _)) HF.out HH.out).mono ?_;rintro e w2 ⟨xa,k,cx,g,er,rfl,hres,hc⟩;obtain ⟨rfl,hv⟩:er=0∧vf g k=vf f n-vf h m:=by
   rcases hc with ⟨_,_,_,h1,h2⟩ | ⟨_,_,h1,_⟩ | ⟨h1,_⟩
   ·exact ⟨h1,h2⟩
   ·have:=HLT.out;omega
   ·exact absurd ⟨FF.out,FH.out⟩ h1
  clear hc;obtain ⟨hc2,hf2⟩:=bcell hres.bel;have hz2:w.heap.size+1+1<w2.heap.size:=by have:=hres.bel.size;(try simp at this);omega
  have u0:w2.cell? ⟨w.heap.size,0,none⟩=some (.bool s):=(hc2 _ _ (by omega)).trans x0;have z0:w2.cell? ⟨w.heap.size+1+1,0,none⟩=some (.bool false):=(hc2 _ _ (by omega)).trans z0;have z1:w2.cell? ⟨w.heap.size+1+1,1,none⟩=some (.slice none 0 0):=(hc2 _ _ (by omega)).trans z1;have hk:k≤n:=hres.le;have HRes:=hid hres;have HV:=hid hv;have HB2:=hid hb2
  clear hres hv hb2 hc2;go_wp2_with fail
  refine (signed_c _ xa k cx _ (by omega)).mono ?_;rintro e w3 ⟨r,o,rfl,hsg,rfl⟩;go_wp2;refine bodyPost_ret (v:=.agg #[.bool r,.slice xa k cx]) (by simp [results,Tryz.results159,go_sem,z0,z1,hz2]) rfl ⟨r,xa,k,cx,g,rfl,WRes.mk' hsg (((HRes.out.turned HB2.out ?_).mono (by omega)).ans (by omega)),?_⟩
  ·exact (((Turned.refl _ _ _).set (by first | omega | (simp;done) | (simp;omega)) (by first | omega | (simp;done) | (simp;omega)) _).set (by first | omega | (simp;done) | (simp;omega)) (by first | omega | (simp;done) | (simp;omega)) _).alloc _
  ·rw [wv_sign hsg,HST.out];have:=HV.out;cases t <;> simp only [Bool.not_false,Bool.not_true,wv_false,wv_true] <;> omega
theorem wadd_c (s t:Bool) (ao bo:Option Addr) (n m ca cb:Nat) (f h:Nat→Int) (w:World) (hn:n≤8796093022208) (hm:m≤8796093022208) (hr:Rd .u64 w ao n f) (hs:Rd .u64 w bo m h) (hf:Lm f n) (hh:Lm h m) (ff:Fm f n) (fh:Fm h m) :
  Calls Tryz.prog 159 #[.agg #[.bool s,.slice ao n ca],.agg #[.bool t,.slice bo m cb]] w fun e w'=>∃r ao' k cap' f',e=.returned (.agg #[.bool r,.slice ao' k cap'])∧WRes (max n m+1) w w' r ao' k cap' f'∧wv r f' k=wv s f n+wv t h m:=by
 cases hst:(s==t)
 ·exact wadd_diff s t hst ao bo n m ca cb f h w hn hm hr hs hf hh ff fh
 ·obtain rfl:s=t:=by simpa using hst
  exact wadd_same s ao bo n m ca cb f h w hn hm hr hs hf hh ff fh
def WAns (P:Prop) (v:Int) (r:Bool) (k:Nat) (f:Nat→Int) (er:Int):Prop:=P∧er=0∧wv r f k=v∨¬P∧er=3∧k=0
def W2 (s:Bool) (f:Nat→Int) (n:Nat) (t:Bool) (h:Nat→Int) (m:Nat):Prop:=wfB s f n=true∧wfB t h m=true
theorem fm_of_wfB {s:Bool} {f:Nat→Int} {n:Nat} (h:wfB s f n=true):Fm f n:=((wfB_iff s f n).1 h).1
theorem sgn_of_wfB {s:Bool} {f:Nat→Int} {n:Nat} (h:wfB s f n=true):s=true→0<n:=((wfB_iff s f n).1 h).2
theorem boxes3 {w w1:World} {a0 a1 b0 b1 c0 c1:Value} {t:TypeId} (hb:Below (((w.alloc (.cells #[a0,a1] t)).alloc (.cells #[b0,b1] t)).alloc (.cells #[c0,c1] t)).heap.size (((w.alloc (.cells #[a0,a1] t)).alloc (.cells #[b0,b1] t)).alloc (.cells #[c0,c1] t)) w1) :
  (w.heap.size+1+1<w1.heap.size∧w1.cell? ⟨w.heap.size,0,none⟩=some a0∧w1.cell? ⟨w.heap.size,1,none⟩=some a1∧w1.cell? ⟨w.heap.size+1,0,none⟩=some b0∧w1.cell? ⟨w.heap.size+1,1,none⟩=some b1∧w1.cell? ⟨w.heap.size+1+1,0,none⟩=some c0∧w1.cell? ⟨w.heap.size+1+1,1,none⟩=some c1)∧(∀o,w1.frozen? ⟨w.heap.size+1+1,o,none⟩=false)∧Below w.heap.size w w1:=by
 obtain ⟨h1,h2⟩:=bcell hb;have hz:=hb.size;simp at hz;refine ⟨⟨by omega,(h1 _ _ (by simp;omega)).trans (by simp [go_sem]),(h1 _ _ (by simp;omega)).trans (by simp [go_sem]),(h1 _ _ (by simp)).trans (by simp [go_sem]),(h1 _ _ (by simp)).trans (by simp [go_sem]),(h1 _ _ (by simp)).trans (by simp [go_sem]),(h1 _ _ (by simp)).trans (by simp [go_sem])⟩,fun o=>(h2 _ _ (by simp)).trans (by
  have e:=heap_alloc_new ((w.alloc (.cells #[a0,a1] t)).alloc (.cells #[b0,b1] t)) (.cells #[c0,c1] t);rw [size_alloc1,size_alloc1] at e;simp only [World.frozen?,e];simp),?_⟩
 exact (below_alloc (below_alloc (below_alloc (Below.refl w.heap.size w) _) _) _).trans (hb.mono (by simp;omega))
theorem keep3 {w w1 w2:World} {a0 a1 b0 b1 c0 c1:Value} (hb:Below w1.heap.size w1 w2) (h:w.heap.size+1+1<w1.heap.size∧w1.cell? ⟨w.heap.size,0,none⟩=some a0∧w1.cell? ⟨w.heap.size,1,none⟩=some a1∧w1.cell? ⟨w.heap.size+1,0,none⟩=some b0∧w1.cell? ⟨w.heap.size+1,1,none⟩=some b1∧w1.cell? ⟨w.heap.size+1+1,0,none⟩=some c0∧w1.cell? ⟨w.heap.size+1+1,1,none⟩=some c1) (hf:∀o,w1.frozen? ⟨w.heap.size+1+1,o,none⟩=false) (hw:Below w.heap.size w w1) :
  (w.heap.size+1+1<w2.heap.size∧w2.cell? ⟨w.heap.size,0,none⟩=some a0∧w2.cell? ⟨w.heap.size,1,none⟩=some a1∧w2.cell? ⟨w.heap.size+1,0,none⟩=some b0∧w2.cell? ⟨w.heap.size+1,1,none⟩=some b1∧w2.cell? ⟨w.heap.size+1+1,0,none⟩=some c0∧w2.cell? ⟨w.heap.size+1+1,1,none⟩=some c1)∧(∀o,w2.frozen? ⟨w.heap.size+1+1,o,none⟩=false)∧Below w.heap.size w w2:=by
 obtain ⟨h1,h2⟩:=bcell hb;have hz:=hb.size;obtain ⟨z,a,b,c,d,e,f⟩:=h;exact ⟨⟨by omega,(h1 _ _ (by omega)).trans a,(h1 _ _ (by omega)).trans b,(h1 _ _ (by omega)).trans c,(h1 _ _ (by omega)).trans d,(h1 _ _ (by omega)).trans e,(h1 _ _ (by omega)).trans f⟩,fun o=>(h2 _ _ (by omega)).trans (hf o),hw.trans (hb.mono hw.size)⟩
theorem wv_mul (s t:Bool) (f h g:Nat→Int) (n m k:Nat) (hv:vf g k=vf f n*vf h m):wv (!(s==t)) g k=wv s f n*wv t h m:=by
 cases s <;> cases t <;> simp [wv,hv,Int.neg_mul,Int.mul_neg]
set_option maxHeartbeats 1000000 in
theorem wAdd_c (s t:Bool) (ao bo:Option Addr) (n m ca cb:Nat) (f h:Nat→Int) (w:World) (hn:n≤8796093022208) (hm:m≤8796093022208) (hr:Rd .u64 w ao n f) (hs:Rd .u64 w bo m h) (hf:Lm f n) (hh:Lm h m) :
  Calls Tryz.prog 141 #[.agg #[.bool s,.slice ao n ca],.agg #[.bool t,.slice bo m cb]] w fun e w'=>∃r ao' k cap' f' er,e=.returned (.tuple #[.agg #[.bool r,.slice ao' k cap'],.int .i64 er])∧WRes (max n m+1) w w' r ao' k cap' f'∧WAns (W2 s f n t h m) (wv s f n+wv t h m) r k f' er:=by
 have HR:=hid hr;have HS:=hid hs;have HF:=hid hf;have HH:=hid hh
 clear hr hs hf hh;cases hfa:wfB s f n
 ·have c1:=fun W hr'=>wForm_c s ao n ca f W (by omega) hr'
  rw [hfa] at c1;have C1:=hid c1;have HN:=hid hfa
  clear c1 hfa;go_enter Tryz.func141,Tryz.ntmps141;go_wp2_with fail
  refine (C1.out _ (((HR.out.alloc _).alloc _).alloc _)).mono ?_;rintro e w1 ⟨rfl,hb⟩;obtain ⟨⟨hz,x0,x1,y0,y1,z0,z1⟩,zf,hw⟩:=boxes3 hb;have HB:=hid hb;have HW:=hid hw
  clear hb hw;go_wp2;refine bodyPost_ret (v:=.tuple #[.agg #[.bool false,.slice none 0 0],.int .i64 3]) (by simp [results,Tryz.results141,go_sem,z0,z1]) rfl ⟨false,none,0,0,f,3,rfl,⟨Asw.none f ?_,fun h=>by cases h⟩,.inr ⟨fun x=>?_,rfl,rfl⟩⟩
  ·exact below_turned HW.out HW.out.size (((Turned.refl _ (w.heap.size+1+1+1) _).set (by first | omega | (simp;done) | (simp;omega)) (by first | omega | (simp;done) | (simp;omega)) _).set (by first | omega | (simp;done) | (simp;omega)) (by first | omega | (simp;done) | (simp;omega)) _) (Nat.le_refl _)
  ·have:=x.1;rw [HN.out] at this;cases this
 ·have c1:=fun W hr'=>wForm_c s ao n ca f W (by omega) hr'
  rw [hfa] at c1;have C1:=hid c1;have HA:=hid hfa
  clear c1 hfa;cases hfb:wfB t h m
  ·have c2:=fun W hr'=>wForm_c t bo m cb h W (by omega) hr'
   rw [hfb] at c2;have C2:=hid c2;have HN:=hid hfb
   clear c2 hfb;go_enter Tryz.func141,Tryz.ntmps141;go_wp2_with fail
   refine (C1.out _ (((HR.out.alloc _).alloc _).alloc _)).mono ?_;rintro e w1 ⟨rfl,hb⟩;obtain ⟨⟨hz,x0,x1,y0,y1,z0,z1⟩,zf,hw⟩:=boxes3 hb;have HW:=hid hw;clear hb hw;go_wp2_with fail
   refine (C2.out _ (HS.out.below HW.out (Nat.le_refl _))).mono ?_;rintro e w2 ⟨rfl,hb⟩;obtain ⟨⟨hz,x0,x1,y0,y1,z0,z1⟩,zf,hw⟩:=keep3 hb ⟨hz,x0,x1,y0,y1,z0,z1⟩ zf HW.out;have HW2:=hid hw;clear hb hw;go_wp2;refine bodyPost_ret (v:=.tuple #[.agg #[.bool false,.slice none 0 0],.int .i64 3]) (by simp [results,Tryz.results141,go_sem,z0,z1]) rfl ⟨false,none,0,0,f,3,rfl,⟨Asw.none f ?_,fun h=>by cases h⟩,.inr ⟨fun x=>?_,rfl,rfl⟩⟩
   ·exact below_turned HW2.out HW2.out.size (((Turned.refl _ (w.heap.size+1+1+1) _).set (by first | omega | (simp;done) | (simp;omega)) (by first | omega | (simp;done) | (simp;omega)) _).set (by first | omega | (simp;done) | (simp;omega)) (by first | omega | (simp;done) | (simp;omega)) _) (Nat.le_refl _)
   ·have:=x.2;rw [HN.out] at this;cases this
  ·have c2:=fun W hr'=>wForm_c t bo m cb h W (by omega) hr'
   rw [hfb] at c2;have C2:=hid c2;have HB:=hid hfb
   clear c2 hfb;go_enter Tryz.func141,Tryz.ntmps141;go_wp2_with fail
   refine (C1.out _ (((HR.out.alloc _).alloc _).alloc _)).mono ?_;rintro e w1 ⟨rfl,hb⟩;obtain ⟨⟨hz,x0,x1,y0,y1,z0,z1⟩,zf,hw⟩:=boxes3 hb;have HW:=hid hw;clear hb hw;go_wp2_with fail
   refine (C2.out _ (HS.out.below HW.out (Nat.le_refl _))).mono ?_;rintro e w2 ⟨rfl,hb⟩;obtain ⟨⟨hz,x0,x1,y0,y1,z0,z1⟩,zf,hw⟩:=keep3 hb ⟨hz,x0,x1,y0,y1,z0,z1⟩ zf HW.out;have HW2:=hid hw;clear hb hw;go_wp2_with fail
   refine (wadd_c s t ao bo n m ca cb f h _ hn hm (HR.out.below HW2.out (Nat.le_refl _)) (HS.out.below HW2.out (Nat.le_refl _)) HF.out HH.out (fm_of_wfB HA.out) (fm_of_wfB HB.out)).mono ?_;rintro e w3 ⟨r,xa,k,cx,g,rfl,hres,hv⟩;obtain ⟨⟨hz,x0,x1,y0,y1,z0,z1⟩,zf,hw⟩:=keep3 hres.res.bel ⟨hz,x0,x1,y0,y1,z0,z1⟩ zf HW2.out;have HRes:=hid hres;have HV:=hid hv
   clear hres hv hw;go_wp2;refine bodyPost_ret (v:=.tuple #[.agg #[.bool r,.slice xa k cx],.int .i64 0]) (by simp [results,Tryz.results141,go_sem,z0,z1]) rfl ⟨r,xa,k,cx,g,0,rfl,?_,.inl ⟨⟨HA.out,HB.out⟩,rfl,?_⟩⟩
   ·exact ⟨HRes.out.res.turned HW2.out (((Turned.refl _ _ _).set (by first | omega | (simp;done) | (simp;omega)) (by first | omega | (simp;done) | (simp;omega)) _).set (by first | omega | (simp;done) | (simp;omega)) (by first | omega | (simp;done) | (simp;omega)) _),HRes.out.sgn⟩
   ·exact HV.out
set_option maxHeartbeats 1000000 in
theorem wMul_c (s t:Bool) (ao bo:Option Addr) (n m ca cb:Nat) (f h:Nat→Int) (w:World) (hn:n≤1099511627776) (hm:m≤1099511627776) (hca:n≤ca) (hcb:m≤cb) (hcam:ca≤9223372036854775807) (hcbm:cb≤9223372036854775807) (hr:Rd .u64 w ao n f) (hs:Rd .u64 w bo m h) (hf:Lm f n) (hh:Lm h m) :
  Calls Tryz.prog 140 #[.agg #[.bool s,.slice ao n ca],.agg #[.bool t,.slice bo m cb]] w fun e w'=>∃r ao' k cap' f' er,e=.returned (.tuple #[.agg #[.bool r,.slice ao' k cap'],.int .i64 er])∧WRes (n+m) w w' r ao' k cap' f'∧WAns (W2 s f n t h m) (wv s f n*wv t h m) r k f' er:=by
 have HR:=hid hr;have HS:=hid hs;have HF:=hid hf;have HH:=hid hh
 clear hr hs hf hh;cases hfa:wfB s f n
 ·have c1:=fun W hr'=>wForm_c s ao n ca f W (by omega) hr'
  rw [hfa] at c1;have C1:=hid c1;have HN:=hid hfa
  clear c1 hfa;go_enter Tryz.func140,Tryz.ntmps140;go_wp2_with fail
  refine (C1.out _ (((HR.out.alloc _).alloc _).alloc _)).mono ?_;rintro e w1 ⟨rfl,hb⟩;obtain ⟨⟨hz,x0,x1,y0,y1,z0,z1⟩,zf,hw⟩:=boxes3 hb;have HB:=hid hb;have HW:=hid hw
  clear hb hw;go_wp2;refine bodyPost_ret (v:=.tuple #[.agg #[.bool false,.slice none 0 0],.int .i64 3]) (by simp [results,Tryz.results140,go_sem,z0,z1]) rfl ⟨false,none,0,0,f,3,rfl,⟨Asw.none f ?_,fun h=>by cases h⟩,.inr ⟨fun x=>?_,rfl,rfl⟩⟩
  ·exact below_turned HW.out HW.out.size (((Turned.refl _ (w.heap.size+1+1+1) _).set (by first | omega | (simp;done) | (simp;omega)) (by first | omega | (simp;done) | (simp;omega)) _).set (by first | omega | (simp;done) | (simp;omega)) (by first | omega | (simp;done) | (simp;omega)) _) (Nat.le_refl _)
  ·have:=x.1;rw [HN.out] at this;cases this
 ·have c1:=fun W hr'=>wForm_c s ao n ca f W (by omega) hr'
  rw [hfa] at c1;have C1:=hid c1;have HA:=hid hfa
  clear c1 hfa;cases hfb:wfB t h m
  ·have c2:=fun W hr'=>wForm_c t bo m cb h W (by omega) hr'
   rw [hfb] at c2;have C2:=hid c2;have HN:=hid hfb
   clear c2 hfb;go_enter Tryz.func140,Tryz.ntmps140;go_wp2_with fail
   refine (C1.out _ (((HR.out.alloc _).alloc _).alloc _)).mono ?_;rintro e w1 ⟨rfl,hb⟩;obtain ⟨⟨hz,x0,x1,y0,y1,z0,z1⟩,zf,hw⟩:=boxes3 hb;have HW:=hid hw;clear hb hw;go_wp2_with fail
   refine (C2.out _ (HS.out.below HW.out (Nat.le_refl _))).mono ?_;rintro e w2 ⟨rfl,hb⟩;obtain ⟨⟨hz,x0,x1,y0,y1,z0,z1⟩,zf,hw⟩:=keep3 hb ⟨hz,x0,x1,y0,y1,z0,z1⟩ zf HW.out;have HW2:=hid hw;clear hb hw;go_wp2;refine bodyPost_ret (v:=.tuple #[.agg #[.bool false,.slice none 0 0],.int .i64 3]) (by simp [results,Tryz.results140,go_sem,z0,z1]) rfl ⟨false,none,0,0,f,3,rfl,⟨Asw.none f ?_,fun h=>by cases h⟩,.inr ⟨fun x=>?_,rfl,rfl⟩⟩
   ·exact below_turned HW2.out HW2.out.size (((Turned.refl _ (w.heap.size+1+1+1) _).set (by first | omega | (simp;done) | (simp;omega)) (by first | omega | (simp;done) | (simp;omega)) _).set (by first | omega | (simp;done) | (simp;omega)) (by first | omega | (simp;done) | (simp;omega)) _) (Nat.le_refl _)
   ·have:=x.2;rw [HN.out] at this;cases this
  ·have c2:=fun W hr'=>wForm_c t bo m cb h W (by omega) hr'
   rw [hfb] at c2;have C2:=hid c2;have HB:=hid hfb
   clear c2 hfb;go_enter Tryz.func140,Tryz.ntmps140;go_wp2_with fail
   refine (C1.out _ (((HR.out.alloc _).alloc _).alloc _)).mono ?_;rintro e w1 ⟨rfl,hb⟩;obtain ⟨⟨hz,x0,x1,y0,y1,z0,z1⟩,zf,hw⟩:=boxes3 hb;have HW:=hid hw;clear hb hw;go_wp2_with fail
   refine (C2.out _ (HS.out.below HW.out (Nat.le_refl _))).mono ?_;rintro e w2 ⟨rfl,hb⟩;obtain ⟨⟨hz,x0,x1,y0,y1,z0,z1⟩,zf,hw⟩:=keep3 hb ⟨hz,x0,x1,y0,y1,z0,z1⟩ zf HW.out;have HW2:=hid hw;clear hb hw;go_wp2_with fail
   refine (Mul_c ao bo n m ca cb f h _ hn hm hca hcb hcam hcbm (HR.out.below HW2.out (Nat.le_refl _)) (HS.out.below HW2.out (Nat.le_refl _)) HF.out HH.out).mono ?_;rintro e w3 ⟨xa,k,cx,g,er,rfl,hres,hc⟩;obtain ⟨rfl,hv⟩:er=0∧vf g k=vf f n*vf h m:=by
    rcases hc with ⟨_,_,h1,h2⟩ | ⟨h1,_⟩
    ·exact ⟨h1,h2⟩
    ·exact absurd ⟨fm_of_wfB HA.out,fm_of_wfB HB.out⟩ h1
   clear hc;obtain ⟨⟨hz,x0,x1,y0,y1,z0,z1⟩,zf,hw⟩:=keep3 hres.bel ⟨hz,x0,x1,y0,y1,z0,z1⟩ zf HW2.out;have hk:k≤n+m:=hres.le;have HRes:=hid hres;have HV:=hid hv
   clear hres hv hw;go_wp2_with fail
   refine (signed_c _ xa k cx _ (by omega)).mono ?_;rintro e w4 ⟨r,o,rfl,hsg,rfl⟩;go_wp2;refine bodyPost_ret (v:=.tuple #[.agg #[.bool r,.slice xa k cx],.int .i64 0]) (by simp [results,Tryz.results140,go_sem,z0,z1,hz]) rfl ⟨r,xa,k,cx,g,0,rfl,?_,.inl ⟨⟨HA.out,HB.out⟩,rfl,?_⟩⟩
   ·exact WRes.mk' hsg ((HRes.out.turned HW2.out ((((Turned.refl _ _ _).set (by first | omega | (simp;done) | (simp;omega)) (by first | omega | (simp;done) | (simp;omega)) _).set (by first | omega | (simp;done) | (simp;omega)) (by first | omega | (simp;done) | (simp;omega)) _).alloc _)).ans (by omega))
   ·rw [wv_sign hsg];exact wv_mul s t f h g n m k HV.out
def W1 (s:Bool) (f:Nat→Int) (n:Nat):Prop:=wfB s f n=true
theorem boxes2 {w w1:World} {a0 a1 c0 c1:Value} {t:TypeId} (hb:Below ((w.alloc (.cells #[a0,a1] t)).alloc (.cells #[c0,c1] t)).heap.size ((w.alloc (.cells #[a0,a1] t)).alloc (.cells #[c0,c1] t)) w1) :
  (w.heap.size+1<w1.heap.size∧w1.cell? ⟨w.heap.size,0,none⟩=some a0∧w1.cell? ⟨w.heap.size,1,none⟩=some a1∧w1.cell? ⟨w.heap.size+1,0,none⟩=some c0∧w1.cell? ⟨w.heap.size+1,1,none⟩=some c1)∧(∀o,w1.frozen? ⟨w.heap.size+1,o,none⟩=false)∧Below w.heap.size w w1:=by
 obtain ⟨h1,h2⟩:=bcell hb;have hz:=hb.size;simp at hz;refine ⟨⟨by omega,(h1 _ _ (by simp;omega)).trans (by simp [go_sem]),(h1 _ _ (by simp;omega)).trans (by simp [go_sem]),(h1 _ _ (by simp)).trans (by simp [go_sem]),(h1 _ _ (by simp)).trans (by simp [go_sem])⟩,fun o=>(h2 _ _ (by simp)).trans (by
  have e:=heap_alloc_new (w.alloc (.cells #[a0,a1] t)) (.cells #[c0,c1] t);rw [size_alloc1] at e;simp only [World.frozen?,e];simp),?_⟩
 exact (below_alloc (below_alloc (Below.refl w.heap.size w) _) _).trans (hb.mono (by simp;omega))
theorem keep2 {w w1 w2:World} {a0 a1 c0 c1:Value} (hb:Below w1.heap.size w1 w2) (h:w.heap.size+1<w1.heap.size∧w1.cell? ⟨w.heap.size,0,none⟩=some a0∧w1.cell? ⟨w.heap.size,1,none⟩=some a1∧w1.cell? ⟨w.heap.size+1,0,none⟩=some c0∧w1.cell? ⟨w.heap.size+1,1,none⟩=some c1) (hf:∀o,w1.frozen? ⟨w.heap.size+1,o,none⟩=false) (hw:Below w.heap.size w w1) :
  (w.heap.size+1<w2.heap.size∧w2.cell? ⟨w.heap.size,0,none⟩=some a0∧w2.cell? ⟨w.heap.size,1,none⟩=some a1∧w2.cell? ⟨w.heap.size+1,0,none⟩=some c0∧w2.cell? ⟨w.heap.size+1,1,none⟩=some c1)∧(∀o,w2.frozen? ⟨w.heap.size+1,o,none⟩=false)∧Below w.heap.size w w2:=by
 obtain ⟨h1,h2⟩:=bcell hb;have hz:=hb.size;obtain ⟨z,a,b,e,f⟩:=h;exact ⟨⟨by omega,(h1 _ _ (by omega)).trans a,(h1 _ _ (by omega)).trans b,(h1 _ _ (by omega)).trans e,(h1 _ _ (by omega)).trans f⟩,fun o=>(h2 _ _ (by omega)).trans (hf o),hw.trans (hb.mono hw.size)⟩
theorem vf_pos {f:Nat→Int} {n:Nat} (h:Lm f n) (hf:Fm f n) (hn:0<n):0<vf f n:=by
 have h1:=vf_form_ge h hf hn;have h2:=pw_pos (n-1);omega
def WCmp (P:Prop) (a b:Int) (c er:Int):Prop:=P∧er=0∧Ord c a b∨¬P∧er=3∧c=0
set_option maxHeartbeats 1000000 in
theorem wCmp_c (s t:Bool) (ao bo:Option Addr) (n m ca cb:Nat) (f h:Nat→Int) (w:World) (hn:n≤8796093022208) (hm:m≤8796093022208) (hr:Rd .u64 w ao n f) (hs:Rd .u64 w bo m h) (hf:Lm f n) (hh:Lm h m) :
  Calls Tryz.prog 177 #[.agg #[.bool s,.slice ao n ca],.agg #[.bool t,.slice bo m cb]] w fun e w'=>∃c er,e=.returned (.tuple #[.int .i64 c,.int .i64 er])∧Below w.heap.size w w'∧WCmp (W2 s f n t h m) (wv s f n) (wv t h m) c er:=by
 have HR:=hid hr;have HS:=hid hs;have HF:=hid hf;have HH:=hid hh
 clear hr hs hf hh;cases hfa:wfB s f n
 ·have c1:=fun W hr'=>wForm_c s ao n ca f W (by omega) hr'
  rw [hfa] at c1;have C1:=hid c1;have HN:=hid hfa
  clear c1 hfa;go_enter Tryz.func177,Tryz.ntmps177;go_wp2_with fail
  refine (C1.out _ ((HR.out.alloc _).alloc _)).mono ?_;rintro e w1 ⟨rfl,hb⟩;obtain ⟨⟨hz,x0,x1,z0,z1⟩,zf,hw⟩:=boxes2 hb;have HW:=hid hw;clear hb hw;go_wp2
  go_ret2
  exact ⟨0,3,rfl,HW.out,.inr ⟨(fun x=>by have:=HN.out.symm.trans x.1;cases this),rfl,rfl⟩⟩
 ·have c1:=fun W hr'=>wForm_c s ao n ca f W (by omega) hr'
  rw [hfa] at c1;have C1:=hid c1;have HA:=hid hfa
  clear c1 hfa;cases hfb:wfB t h m
  ·have c2:=fun W hr'=>wForm_c t bo m cb h W (by omega) hr'
   rw [hfb] at c2;have C2:=hid c2;have HN:=hid hfb
   clear c2 hfb;go_enter Tryz.func177,Tryz.ntmps177;go_wp2_with fail
   refine (C1.out _ ((HR.out.alloc _).alloc _)).mono ?_;rintro e w1 ⟨rfl,hb⟩;obtain ⟨⟨hz,x0,x1,z0,z1⟩,zf,hw⟩:=boxes2 hb;have HW:=hid hw;clear hb hw;go_wp2_with fail
   refine (C2.out _ (HS.out.below HW.out (Nat.le_refl _))).mono ?_;rintro e w2 ⟨rfl,hb⟩;obtain ⟨⟨hz,x0,x1,z0,z1⟩,zf,hw⟩:=keep2 hb ⟨hz,x0,x1,z0,z1⟩ zf HW.out;have HW2:=hid hw;clear hb hw;go_wp2
   go_ret2
   exact ⟨0,3,rfl,HW2.out,.inr ⟨(fun x=>by have:=HN.out.symm.trans x.2;cases this),rfl,rfl⟩⟩
  ·have c2:=fun W hr'=>wForm_c t bo m cb h W (by omega) hr'
   rw [hfb] at c2;have C2:=hid c2;have HB:=hid hfb
   clear c2 hfb;cases s <;> cases t
   all_goals
    go_enter Tryz.func177,Tryz.ntmps177;go_wp2_with fail
    refine (C1.out _ ((HR.out.alloc _).alloc _)).mono ?_;rintro e w1 ⟨rfl,hb⟩;obtain ⟨⟨hz,x0,x1,z0,z1⟩,zf,hw⟩:=boxes2 hb;have HW:=hid hw;clear hb hw;go_wp2_with fail
    refine (C2.out _ (HS.out.below HW.out (Nat.le_refl _))).mono ?_;rintro e w2 ⟨rfl,hb⟩;obtain ⟨⟨hz,x0,x1,z0,z1⟩,zf,hw⟩:=keep2 hb ⟨hz,x0,x1,z0,z1⟩ zf HW.out;have HW2:=hid hw;clear hb hw;go_wp2_with fail
   ·refine (Cmp_c ao bo n m ca cb f h _ hn hm (HR.out.below HW2.out (Nat.le_refl _)) (HS.out.below HW2.out (Nat.le_refl _)) HF.out HH.out).mono ?_;rintro e w3 ⟨⟨q,hq⟩,c,er,rfl,hc⟩;have HB3:=hid (drewN_below hq);have HC:=hid hc
    clear hq hc;go_wp2
    go_ret2
    refine ⟨c,er,rfl,HW2.out.trans (HB3.out.mono HW2.out.size),?_⟩;rcases HC.out with ⟨_,_,h1,h2⟩ | ⟨h1,_⟩
    ·exact .inl ⟨⟨HA.out,HB.out⟩,h1,h2⟩
    ·exact absurd ⟨fm_of_wfB HA.out,fm_of_wfB HB.out⟩ h1
   ·go_ret2
    refine ⟨1,0,rfl,HW2.out,.inl ⟨⟨HA.out,HB.out⟩,rfl,.inr (.inr ⟨rfl,?_⟩)⟩⟩;have h1:=vf_pos HH.out (fm_of_wfB HB.out) (sgn_of_wfB HB.out rfl);have h2:=vf_nonneg HF.out;rw [wv_true,wv_false];omega
   ·go_ret2
    refine ⟨-1,0,rfl,HW2.out,.inl ⟨⟨HA.out,HB.out⟩,rfl,.inl ⟨rfl,?_⟩⟩⟩;have h1:=vf_pos HF.out (fm_of_wfB HA.out) (sgn_of_wfB HA.out rfl);have h2:=vf_nonneg HH.out;rw [wv_true,wv_false];omega
   ·refine (Cmp_c bo ao m n cb ca h f _ hm hn (HS.out.below HW2.out (Nat.le_refl _)) (HR.out.below HW2.out (Nat.le_refl _)) HH.out HF.out).mono ?_;rintro e w3 ⟨⟨q,hq⟩,c,er,rfl,hc⟩;have HB3:=hid (drewN_below hq);have HC:=hid hc
    clear hq hc;go_wp2
    go_ret2
    refine ⟨c,er,rfl,HW2.out.trans (HB3.out.mono HW2.out.size),?_⟩;rcases HC.out with ⟨_,_,h1,h2⟩ | ⟨h1,_⟩
    ·refine .inl ⟨⟨HA.out,HB.out⟩,h1,?_⟩;unfold Ord at h2 ⊢;rw [wv_true,wv_true];omega
    ·exact absurd ⟨fm_of_wfB HB.out,fm_of_wfB HA.out⟩ h1
def WOne (C:Nat) (w w':World) (e:Ending) (z:Int):Prop:=∃r ao k cap f,e=.returned (.agg #[.bool r,.slice ao k cap])∧WRes C w w' r ao k cap f∧wv r f k=z
theorem wrapU (x:Int):IntKind.u64.wrap x=x%18446744073709551616:=by simp [IntKind.wrap,IntKind.signed,IntKind.bits]
theorem own_one (w:World) (base g:Nat) (z:Int) (hb:base≤w.heap.size) (hg:g=w.heap.size):Own .u64 145 (w.alloc (.cells #[.int .u64 z] 145)) base (.slice (some ⟨g,0,none⟩) 1 1) 1 (fun _=>z):=by
 subst hg;refine own_of_blk (N:=1) ⟨_,heap_alloc_new w _,rfl,fun j hj=>?_⟩ hb (Nat.le_refl _) (by simp [maxLen]);obtain rfl:j=0:=by omega
 rfl
set_option maxHeartbeats 1000000 in
theorem wOf_c (z:Int) (w:World) (h0:-9223372036854775808≤z) (h1:z≤9223372036854775807) :
  Calls Tryz.prog 108 #[.int .i64 z] w fun e w'=>WOne 1 w w' e z:=by
 by_cases hz:z=0
 ·subst hz;go_enter Tryz.func108,Tryz.ntmps108;go_wp2;exact bodyPost_ret (v:=.agg #[.bool false,.slice none 0 0]) (by simp [results,Tryz.results108,go_sem]) rfl ⟨false,none,0,0,fun _=>0,rfl,⟨Asw.none _ (below_alloc (Below.refl _ _) _),fun h=>by cases h⟩,rfl⟩
 ·have hz0:(z==0)=false:=by simp;omega
  by_cases hneg:z<0
  ·have hW:Hid (IntKind.u64.wrap (-IntKind.u64.wrap z)=-z):=by
    show IntKind.u64.wrap (-IntKind.u64.wrap z)=-z;simp only [wrapU];omega
   go_enter Tryz.func108,Tryz.ntmps108;go_wp2;rw [hW.out];refine bodyPost_ret (v:=.agg #[.bool true,.slice (some ⟨w.heap.size+1,0,none⟩) 1 1]) (by simp [results,Tryz.results108,go_sem]) rfl ⟨true,_,1,1,fun _=>-z,rfl,⟨⟨below_alloc (below_alloc (Below.refl _ _) _) _,own_one (w.alloc _) w.heap.size _ (-z) (by simp) (by simp),lm_const (x:=-z) (by omega) (by omega) 1,.inr (show -z≠0 by omega),Nat.le_refl _⟩,fun _=>by omega⟩,?_⟩;rw [wv_true,vf_one];omega
  ·have hW:Hid (IntKind.u64.wrap z=z):=by
    show IntKind.u64.wrap z=z;simp only [wrapU];omega
   go_enter Tryz.func108,Tryz.ntmps108;go_wp2
   (try rw [hW.out])
   refine bodyPost_ret (v:=.agg #[.bool false,.slice (some ⟨w.heap.size+1,0,none⟩) 1 1]) (by simp [results,Tryz.results108,go_sem]) rfl ⟨false,_,1,1,fun _=>z,rfl,⟨⟨below_alloc (below_alloc (Below.refl _ _) _) _,own_one (w.alloc _) w.heap.size _ z (by simp) (by simp),lm_const (x:=z) (by omega) (by omega) 1,.inr (show z≠0 by omega),Nat.le_refl _⟩,fun _=>by omega⟩,?_⟩;rw [wv_false,vf_one]
theorem Turned.mono {lo hi hi':Nat} {a b:World} (h:Turned lo hi a b) (hh:hi≤hi'):Turned lo hi' a b:=⟨h.os,h.tape,h.output,h.size,fun k hk hn=>h.block k hk (by omega)⟩
theorem isSome_setCell (w:World) (p q:Addr) (v:Value) (h:(w.cell? q).isSome=true):((w.setCell p v).cell? q).isSome=true:=by
 obtain ⟨u,hu⟩:=Option.isSome_iff_exists.1 h;obtain ⟨u',hu'⟩:=cell?_setCell_some (p:=p) (x:=v) hu;rw [hu'];rfl
theorem kCa {w:World} {a:Addr} {v:Value} {o:Obj} (h:w.cell? a=some v):(w.alloc o).cell? a=some v:=(World.cell?_alloc_lt _ _ _ (World.block_lt_of_cell? w a h)).trans h
theorem kCs {w:World} {p a:Addr} {u v:Value} (hb:p.block≠a.block) (h:w.cell? a=some u):(w.setCell p v).cell? a=some u:=(World.cell?_setCell_far w p a v hb).trans h
theorem kCd {w:World} {a:Addr} {v:Value} (h:w.cell? a=some v):w.drew.cell? a=some v:=h
theorem kIa {w:World} {a:Addr} {o:Obj} (h:(w.cell? a).isSome=true):((w.alloc o).cell? a).isSome=true:=by rw [World.cell?_alloc_some w a o h];exact h
theorem kIs {w:World} {p a:Addr} {v:Value} (h:(w.cell? a).isSome=true):((w.setCell p v).cell? a).isSome=true:=isSome_setCell w p a v h
theorem kId {w:World} {a:Addr} (h:(w.cell? a).isSome=true):(w.drew.cell? a).isSome=true:=h
theorem kFs {w:World} {p a:Addr} {v:Value} (h:w.frozen? a=false):(w.setCell p v).frozen? a=false:=by rw [World.frozen?_setCell];exact h
theorem kFd {w:World} {a:Addr} (h:w.frozen? a=false):w.drew.frozen? a=false:=h
def B4 (w w1:World) (a0 a1 b0 b1 c0 c1 d0 d1:Value):Prop:=w.heap.size+1+1+1<w1.heap.size∧w1.cell? ⟨w.heap.size,0,none⟩=some a0∧w1.cell? ⟨w.heap.size,1,none⟩=some a1∧w1.cell? ⟨w.heap.size+1,0,none⟩=some b0∧w1.cell? ⟨w.heap.size+1,1,none⟩=some b1∧w1.cell? ⟨w.heap.size+1+1,0,none⟩=some c0∧w1.cell? ⟨w.heap.size+1+1,1,none⟩=some c1∧w1.cell? ⟨w.heap.size+1+1+1,0,none⟩=some d0∧w1.cell? ⟨w.heap.size+1+1+1,1,none⟩=some d1∧(∀o,w1.frozen? ⟨w.heap.size+1+1,o,none⟩=false)∧(∀o,w1.frozen? ⟨w.heap.size+1+1+1,o,none⟩=false)
set_option maxHeartbeats 1000000 in
theorem word2_c (x:Int) (w:World) (x0:0≤x) (x1:x<18446744073709551616) :
  Calls Tryz.prog 97 #[.int .u64 x] w fun e w'=>∃k cap,e=.returned (.slice (some ⟨w.heap.size,0,none⟩) k cap)∧Below w.heap.size w w'∧k≤2∧Rd .u64 w' (some ⟨w.heap.size,0,none⟩) k (two32 x)∧Dg (two32 x) k∧Fm (two32 x) k∧vd (two32 x) k=x:=by
 have hr:=rd_new2 w 145 x;have HR:=hid hr;clear hr;go_enter Tryz.func97,Tryz.ntmps97;go_wp2_with fail
 refine (low_c (some ⟨w.heap.size,0,none⟩) 2 2 (two32 x) _ (by omega) (by omega) HR.out (fun h=>by cases h)).mono ?_;rintro e w1 ⟨rfl,k,hk,hz,hfm,rfl⟩;have hdg:Dg (two32 x) k:=fun j hj=>by
  unfold two32
  split <;> omega
 have hv2:vd (two32 x) 2=x:=by simp [vd,pd,two32];omega
 have hv:vd (two32 x) k=x:=(vd_ext hk hz).symm.trans hv2;have HD:=hid hdg;have HF:=hid hfm;have HV:=hid hv;have HRk:=hid (HR.out.take hk)
 clear hdg hfm hv hv2 hz;go_wp2;go_ret;exact ⟨k,2,rfl,below_alloc (Below.refl _ _) _,hk,HRk.out,HD.out,HF.out,HV.out⟩
structure ZRes (C:Nat) (w w':World) (s:Bool) (ao:Option Addr) (n:Nat) (d:Nat→Int) (z:Int):Prop where
 bel:Below w.heap.size w w'
 rd:Rd .u64 w' ao n d
 dg:Dg d n
 fm:Fm d n
 le:n≤C
 sgn:s=true→0<n
 val:(if s then-vd d n else vd d n)=z
 nil:ao=none→n=0
def ZOne (C:Nat) (w w':World) (e:Ending) (z:Int):Prop:=∃s ao n cap d,e=.returned (.agg #[.bool s,.slice ao n cap])∧ZRes C w w' s ao n d z
theorem Rd.turned {k w w' ao n f} {lo hi:Nat} (h:Rd k w ao n f) (ht:Turned lo hi w w') (hu:∀a,ao=some a→a.block<lo∨hi≤a.block):Rd k w' ao n f:=fun j hj=>by
 obtain ⟨b,o,e,hc⟩:=h j hj;exact ⟨b,o,e,(World.cell?_of_block (ht.block b (World.block_lt_of_cell? w _ hc) (hu _ e))).trans hc⟩
theorem boxes1 {w w1:World} {c0 c1:Value} {t:TypeId} (hb:Below (w.alloc (.cells #[c0,c1] t)).heap.size (w.alloc (.cells #[c0,c1] t)) w1) :
  (w.heap.size<w1.heap.size∧w1.cell? ⟨w.heap.size,0,none⟩=some c0∧w1.cell? ⟨w.heap.size,1,none⟩=some c1)∧(∀o,w1.frozen? ⟨w.heap.size,o,none⟩=false)∧Below w.heap.size w w1:=by
 obtain ⟨h1,h2⟩:=bcell hb;have hz:=hb.size;simp at hz;refine ⟨⟨by omega,(h1 _ _ (by simp)).trans (by simp [go_sem]),(h1 _ _ (by simp)).trans (by simp [go_sem])⟩,fun o=>(h2 _ _ (by simp)).trans (by
  have e:=heap_alloc_new w (.cells #[c0,c1] t);simp only [World.frozen?,e];simp),?_⟩
 exact (below_alloc (Below.refl w.heap.size w) _).trans (hb.mono (by simp))
set_option maxHeartbeats 1000000 in
theorem zInt_c (z:Int) (w:World) (h0:-9223372036854775808≤z) (h1:z≤9223372036854775807) :
  Calls Tryz.prog 96 #[.int .i64 z] w fun e w'=>ZOne 2 w w' e z:=by
 by_cases hneg:z<0
 ·have hW:IntKind.u64.wrap (-(z+1))=-(z+1):=by simp only [wrapU];omega
  go_enter Tryz.func96,Tryz.ntmps96;go_wp2_with fail
  rw [show -(z+1)+1=-z by omega];refine (word2_c (-z) _ (by omega) (by omega)).mono ?_;rintro e w1 ⟨k,cap,rfl,hb,hk,hr,hd,hf,hv⟩;obtain ⟨⟨hz,z0,z1⟩,zf,hw⟩:=boxes1 hb;have HW:=hid hw;have HR:=hid hr;have HD:=hid hd;have HF:=hid hf;have HV:=hid hv
  have hk0:Hid (0<k):=by
   show 0<k;apply Nat.pos_of_ne_zero;intro hk0;subst hk0;simp [vd] at hv;omega
  clear hb hw hr hd hf hv;go_wp2;refine bodyPost_ret (v:=.agg #[.bool true,.slice (some ⟨(w.alloc (.cells #[.bool false,.slice none 0 0] 87)).heap.size,0,none⟩) k cap]) (by simp [results,Tryz.results96,go_sem,z0,z1]) rfl ⟨true,_,k,cap,two32 (-z),rfl,?_⟩;have hT:=((Turned.refl w.heap.size (w.heap.size+1) w1).set (x:=⟨w.heap.size,0,none⟩) (by first | omega | (simp;done) | (simp;omega)) (by first | omega | (simp;done) | (simp;omega)) (.bool true)).set (x:=⟨w.heap.size,1,none⟩) (by first | omega | (simp;done) | (simp;omega)) (by first | omega | (simp;done) | (simp;omega)) (.slice (some ⟨w.heap.size+1,0,none⟩) k cap);refine ⟨below_turned HW.out HW.out.size (by simpa using hT) (Nat.le_refl _),HR.out.turned (by simpa using hT) (fun a ha=>by cases ha;simp),HD.out,HF.out,hk,fun _=>hk0.out,?_,fun h=>by cases h⟩;rw [if_pos rfl,HV.out];omega
 ·go_enter Tryz.func96,Tryz.ntmps96;go_wp2_with fail
  refine (word2_c z _ (by omega) (by omega)).mono ?_;rintro e w1 ⟨k,cap,rfl,hb,hk,hr,hd,hf,hv⟩;obtain ⟨⟨hz,z0,z1⟩,zf,hw⟩:=boxes1 hb;have HW:=hid hw;have HR:=hid hr;have HD:=hid hd;have HF:=hid hf;have HV:=hid hv
  clear hb hw hr hd hf hv;go_wp2;refine bodyPost_ret (v:=.agg #[.bool false,.slice (some ⟨(w.alloc (.cells #[.bool false,.slice none 0 0] 87)).heap.size,0,none⟩) k cap]) (by simp [results,Tryz.results96,go_sem,z0,z1]) rfl ⟨false,_,k,cap,two32 z,rfl,?_⟩;have hT:=((Turned.refl w.heap.size (w.heap.size+1) w1).set (x:=⟨w.heap.size,0,none⟩) (by first | omega | (simp;done) | (simp;omega)) (by first | omega | (simp;done) | (simp;omega)) (.bool false)).set (x:=⟨w.heap.size,1,none⟩) (by first | omega | (simp;done) | (simp;omega)) (by first | omega | (simp;done) | (simp;omega)) (.slice (some ⟨w.heap.size+1,0,none⟩) k cap);refine ⟨below_turned HW.out HW.out.size (by simpa using hT) (Nat.le_refl _),HR.out.turned (by simpa using hT) (fun a ha=>by cases ha;simp),HD.out,HF.out,hk,(fun h=>by cases h),?_,(fun h=>by cases h)⟩;exact HV.out
theorem kI0 {w:World} {a:Addr} {v:Value} (h:w.cell? a=some v):(w.cell? a).isSome=true:=by rw [h];rfl
def dn (b:Nat→Nat):Nat→Nat | 0=>0 | n+1=>dn b n*10+(b n-48)
def PB (w:World) (g cap k:Nat) (D:Nat→Int):Prop:=∃arr:Array Value,w.heap[g]?=some (.cells arr 145 (0,0))∧arr.size=cap∧∀j,j<k→arr[j]?=some (.int .u64 (D j))
theorem PB.cell {w g cap k D} (h:PB w g cap k D) {j:Nat} (hj:j<k):w.cell? ⟨g,j,none⟩=some (.int .u64 (D j)):=by
 obtain ⟨arr,h1,h2,h3⟩:=h;simp [World.cell?,h1,h3 j hj]
theorem PB.frozen {w g cap k D} (h:PB w g cap k D) (j:Nat):w.frozen? ⟨g,j,none⟩=false:=by
 obtain ⟨arr,h1,h2,h3⟩:=h;simp [World.frozen?,h1]
theorem PB.lt {w g cap k D} (h:PB w g cap k D):g<w.heap.size:=by
 obtain ⟨arr,h1,h2,h3⟩:=h;exact (Array.getElem?_eq_some_iff.1 h1).1
theorem PB.set {w g cap k D} (h:PB w g cap k D) (i:Nat) (v:Int):PB (w.setCell ⟨g,i,none⟩ (.int .u64 v)) g cap k (upd D i v):=by
 obtain ⟨arr,h1,h2,h3⟩:=h;refine ⟨arr.setIfInBounds i (.int .u64 v),?_,by simpa using h2,fun j hj=>?_⟩
 ·simp [World.setCell,Array.getElem?_modify,h1]
 ·have hlt:j<arr.size:=(Array.getElem?_eq_some_iff.1 (h3 j hj)).1;by_cases hji:j=i
  ·subst hji;simp [upd,hlt]
  ·rw [Array.getElem?_setIfInBounds,if_neg (by omega),h3 j hj];simp [upd,hji]
theorem Own.pb {w base v k D} (h:Own .u64 145 w base v k D):(v=.slice none 0 0∧k=0)∨∃g cap,v=.slice (some ⟨g,0,none⟩) k cap∧base≤g∧k≤cap∧cap≤maxLen∧PB w g cap k D:=by
 obtain ⟨h1,h2⟩:=h;rcases h2 with ⟨rfl,rfl⟩ | ⟨g,cap,cur,rfl,hb,hg,hn,hm,hs,ht⟩
 ·exact .inl ⟨rfl,rfl⟩
 ·refine .inr ⟨g,cap,rfl,hb,hn,hm,cur,hg,by omega,fun j hj=>?_⟩;have e1:(lst .u64 D k)[j]?=cur.toList[j]?:=by
   rw [←ht,List.getElem?_take,if_pos (by omega)]
  rw [lst_get .u64 D k j hj] at e1;simpa using e1.symm
theorem PB.own {w g cap k D} (h:PB w g cap k D) {base:Nat} (hb:base≤g) (hk:k≤cap) (hm:cap≤maxLen):Own .u64 145 w base (.slice (some ⟨g,0,none⟩) k cap) k D:=by
 obtain ⟨arr,h1,h2,h3⟩:=h;refine ⟨by rw [lst_length];omega,.inr ⟨g,cap,arr,rfl,hb,h1,hk,hm,by omega,?_⟩⟩;apply List.ext_getElem?;intro j;by_cases hj:j<k
 ·rw [List.getElem?_take,if_pos (by omega),lst_get _ _ _ _ hj];simpa using h3 j hj
 ·rw [List.getElem?_eq_none (by simp;omega),List.getElem?_eq_none (by rw [lst_length];omega)]
theorem Tg.kept {w w':World} {ao:Option Addr} (h:Tg w ao) (hb:Below w.heap.size w w'):Tg w' ao:=fun a ha=>by
 obtain ⟨arr,fr,he⟩:=h a ha;exact ⟨arr,fr,(hb.block _ (Array.getElem?_eq_some_iff.1 he).1).trans he⟩
theorem Own.tg {w base ao n cap f} (h:Own .u64 145 w base (.slice ao n cap) n f):Tg w ao:=fun a ha=>by
 obtain ⟨h1,h2⟩:=h;rcases h2 with ⟨hv,_⟩ | ⟨g,cap',cur,hv,hb,hg,hn,hm,hs,ht⟩
 ·cases hv;cases ha
 ·cases hv;cases ha;exact ⟨_,_,hg⟩
theorem kN0 {w:World} {x y:Value} {t:TypeId}:(w.alloc (.cells #[x,y] t)).cell? ⟨w.heap.size,0,none⟩=some x:=by simp [go_sem]
theorem kN1 {w:World} {x y:Value} {t:TypeId}:(w.alloc (.cells #[x,y] t)).cell? ⟨w.heap.size,1,none⟩=some y:=by simp [go_sem]
theorem kCb {w w':World} {a:Addr} {v:Value} (hb:Below w.heap.size w w') (h:w.cell? a=some v):w'.cell? a=some v:=(hb.cell (World.block_lt_of_cell? w a h)).trans h
theorem kBa {w0 w:World} {o:Obj} (h:Below w0.heap.size w0 w):Below w0.heap.size w0 (w.alloc o):=below_alloc h o
theorem kBb {w0 w w':World} (hb:Below w.heap.size w w') (h:Below w0.heap.size w0 w):Below w0.heap.size w0 w':=h.trans (hb.mono h.size)
theorem belA {n:Nat} {w w':World} (h:Below n w w':=by repeat (with_reducible first | assumption | exact Below.refl _ _ | refine Below.drew ?_ | refine kBa ?_ | refine kBb (by assumption) ?_)):Below n w w':=h
theorem belB {n:Nat} {w w':World} (h:Below n w w':=by repeat (with_reducible first | assumption | exact Below.refl _ _ | refine Below.drew ?_ | refine kBb (by assumption) ?_)):Below n w w':=h
def Bx (w:World) (b:Nat) (s:Bool) (x:Option Addr) (n c:Nat):Prop:=b<w.heap.size∧w.cell? ⟨b,0,none⟩=some (.bool s)∧w.cell? ⟨b,1,none⟩=some (.slice x n c)
theorem Bx.below {w w':World} {b:Nat} {s x n c} (h:Bx w b s x n c) (hb:Below w.heap.size w w'):Bx w' b s x n c:=⟨Nat.lt_of_lt_of_le h.1 hb.size,kCb hb h.2.1,kCb hb h.2.2⟩
theorem Bx.alloc {w:World} {b:Nat} {s x n c} (h:Bx w b s x n c) (o:Obj):Bx (w.alloc o) b s x n c:=⟨by have:=h.1;simp;omega,kCa h.2.1,kCa h.2.2⟩
theorem Bx.next {w w':World} {b:Nat} {s x n c} {o:Obj} (h:Bx w b s x n c) (hb:Below (w.alloc o).heap.size (w.alloc o) w'):Bx w' b s x n c:=(h.alloc o).below hb
theorem bx_new {w w':World} {s x n c} {t:TypeId} (hb:Below (w.alloc (.cells #[.bool s,.slice x n c] t)).heap.size (w.alloc (.cells #[.bool s,.slice x n c] t)) w'):Bx w' w.heap.size s x n c :=
 ⟨by have:=hb.size;simp at this;omega,kCb hb kN0,kCb hb kN1⟩
structure Wn (w:World) (s:Bool) (x:Option Addr) (n c:Nat) (f:Nat→Int) (v:Int):Prop where
 rd:Rd .u64 w x n f
 lm:Lm f n
 wf:wfB s f n=true
 cap:n≤c∧c≤9223372036854775807
 nil:x=none→n=0∧c=0
 val:wv s f n=v
theorem Wn.below {w w':World} {s x n c f v} (h:Wn w s x n c f v) (hb:Below w.heap.size w w'):Wn w' s x n c f v:=⟨h.rd.below hb (Nat.le_refl _),h.lm,h.wf,h.cap,h.nil,h.val⟩
theorem Wn.alloc {w:World} {s x n c f v} (h:Wn w s x n c f v) (o:Obj):Wn (w.alloc o) s x n c f v:=⟨h.rd.alloc o,h.lm,h.wf,h.cap,h.nil,h.val⟩
theorem Wn.next {w w':World} {s x n c f v} {o:Obj} (h:Wn w s x n c f v) (hb:Below (w.alloc o).heap.size (w.alloc o) w'):Wn w' s x n c f v:=(h.alloc o).below hb
theorem WRes.wn {C w w' s x n c f v} (h:WRes C w w' s x n c f) (hv:wv s f n=v):Wn w' s x n c f v:=⟨h.res.rd,h.res.lm,h.wfB,h.res.ncap,h.res.nil',hv⟩
theorem WAns.ok {P:Prop} {v:Int} {r k f er} (h:WAns P v r k f er) (hp:P):er=0∧wv r f k=v:=by
 rcases h with ⟨_,h1,h2⟩ | ⟨h1,_⟩
 ·exact ⟨h1,h2⟩
 ·exact absurd hp h1
theorem add_n {w:World} {s t x y n m c d f g u v} (ha:Wn w s x n c f u) (hb:Wn w t y m d g v) (hn:n≤1048576) (hm:m≤1048576) :
  Calls Tryz.prog 141 #[.agg #[.bool s,.slice x n c],.agg #[.bool t,.slice y m d]] w fun e w'=>∃r z k e' h,e=.returned (.tuple #[.agg #[.bool r,.slice z k e'],.int .i64 0])∧Below w.heap.size w w'∧k≤max n m+1∧Wn w' r z k e' h (u+v):=by
 refine (wAdd_c s t x y n m c d f g w (by omega) (by omega) ha.rd hb.rd ha.lm hb.lm).mono ?_;rintro e w' ⟨r,z,k,e',h,er,rfl,hres,hans⟩;obtain ⟨rfl,hv⟩:=hans.ok ⟨ha.wf,hb.wf⟩;exact ⟨r,z,k,e',h,rfl,hres.res.bel,hres.res.le,hres.wn (by rw [hv,ha.val,hb.val])⟩
theorem mul_n {w:World} {s t x y n m c d f g u v} (ha:Wn w s x n c f u) (hb:Wn w t y m d g v) (hn:n≤1048576) (hm:m≤1048576) :
  Calls Tryz.prog 140 #[.agg #[.bool s,.slice x n c],.agg #[.bool t,.slice y m d]] w fun e w'=>∃r z k e' h,e=.returned (.tuple #[.agg #[.bool r,.slice z k e'],.int .i64 0])∧Below w.heap.size w w'∧k≤n+m∧Wn w' r z k e' h (u*v):=by
 refine (wMul_c s t x y n m c d f g w (by omega) (by omega) ha.cap.1 hb.cap.1 ha.cap.2 hb.cap.2 ha.rd hb.rd ha.lm hb.lm).mono ?_;rintro e w' ⟨r,z,k,e',h,er,rfl,hres,hans⟩;obtain ⟨rfl,hv⟩:=hans.ok ⟨ha.wf,hb.wf⟩;exact ⟨r,z,k,e',h,rfl,hres.res.bel,hres.res.le,hres.wn (by rw [hv,ha.val,hb.val])⟩
def sg (s:Bool) (A:Nat):Int:=if s then -(A:Int) else A
theorem sg_tdiv (s:Bool) (A G:Nat) (hG:0<G):(sg s (A*G)).tdiv G=sg s A:=by
 have h:(G:Int)≠0:=by omega
 cases s
 ·show ((A*G:Nat):Int).tdiv G=A;rw [Int.natCast_mul];exact Int.mul_tdiv_cancel _ h
 ·show (-((A*G:Nat):Int)).tdiv G=-A;rw [Int.neg_tdiv,Int.natCast_mul,Int.mul_tdiv_cancel _ h]
theorem sg_natAbs (s:Bool) (A:Nat):(sg s A).natAbs=A:=by cases s <;> simp [sg]
theorem sg_mul (s t:Bool) (A B:Nat):sg s A*sg t B=sg (s != t) (A*B):=by
 cases s <;> cases t <;> simp [sg,Int.neg_mul,Int.mul_neg]
theorem radd {a b:Rat} {G RA RB L BL:Nat} {S N:Int} (hG:G=a.den.gcd b.den) (hA:RA*G=a.den) (hB:RB*G=b.den) (hS:S=a.num*RB+b.num*RA) (hL:L=S.natAbs.gcd G) (hBL:BL*L=b.den) (hN:N*L=S) :
  (a+b).num=N∧(a+b).den=RA*BL:=by
 have hG0:0<G:=by rw [hG];exact Nat.gcd_pos_of_pos_left _ a.den_pos
 have hL0:0<L:=by rw [hL];exact Nat.gcd_pos_of_pos_right _ hG0
 have eA:a.den/G=RA:=by rw [←hA];exact Nat.mul_div_cancel _ hG0
 have eB:b.den/G=RB:=by rw [←hB];exact Nat.mul_div_cancel _ hG0
 have e1:(a+b)=Rat.add a b:=rfl;rw [e1];unfold Rat.add;simp only [←hG,eA,eB]
 split
 ·next h1 =>
  have hL1:L=1:=by rw [hL,h1];simp
  have:RA=a.den:=by rw [←hA,h1];simp
  have h2:RB=b.den:=by rw [←hB,h1];simp
  have h3:BL=b.den:=by rw [←hBL,hL1];simp
  have h4:N=S:=by rw [←hN,hL1];simp
  subst this;subst h2;subst h3
  exact ⟨by rw [h4,hS],rfl⟩
 ·rw [Rat.maybeNormalize_eq];have e2:(a.num*(RB:Int)+b.num*(RA:Int)).natAbs.gcd G=L:=by rw [hL,hS]
  refine ⟨?_,?_⟩
  ·simp only [e2];rw [Int.divExact_eq_tdiv];rw [←hS,←hN];exact Int.mul_tdiv_cancel _ (by omega)
  ·simp only [e2];rw [←hBL,←Nat.mul_assoc];exact Nat.mul_div_cancel _ hL0
theorem rmul {a b:Rat} {s t:Bool} {G H NA NB DA DB:Nat} (ha:a.num=sg s (NA*G)) (hb:b.num=sg t (NB*H)) (hG:G=a.num.natAbs.gcd b.den) (hH:H=b.num.natAbs.gcd a.den) (h3:DA*H=a.den) (h4:DB*G=b.den) :
  (a*b).num=sg (s != t) (NA*NB)∧(a*b).den=DA*DB:=by
 have hG0:0<G:=by rw [hG];exact Nat.gcd_pos_of_pos_right _ b.den_pos
 have hH0:0<H:=by rw [hH];exact Nat.gcd_pos_of_pos_right _ a.den_pos
 have e1:(a*b)=Rat.mul a b:=rfl;rw [e1];unfold Rat.mul;simp only [←hG,←hH,Int.divExact_eq_tdiv,Nat.divExact_eq_div];refine ⟨?_,?_⟩
 ·rw [ha,hb,sg_tdiv _ _ _ hG0,sg_tdiv _ _ _ hH0,sg_mul]
 ·rw [←h3,←h4,Nat.mul_div_cancel _ hG0,Nat.mul_div_cancel _ hH0]
theorem rinv {b:Rat} {t:Bool} {B:Nat} (hb:b.num=sg t B) (h0:0<B):(b⁻¹).num=sg t b.den∧(b⁻¹).den=B:=by
 have e1:b⁻¹=Rat.inv b:=rfl;rw [e1];unfold Rat.inv;cases t
 ·have h1:b.num=B:=hb;rw [dif_neg (by omega),dif_pos (by omega)];exact ⟨rfl,by show b.num.natAbs=B;omega⟩
 ·have h1:b.num=-(B:Int):=hb;rw [dif_pos (by omega)];exact ⟨rfl,by show b.num.natAbs=B;omega⟩
theorem rmake {s t:Bool} {NA NB G:Nat} (hB:0<NB*G) (hG:G=(NA*G).gcd (NB*G)) :
  (((sg s (NA*G):Int):Rat)/(sg t (NB*G):Int)).num=sg (s != t) NA∧(((sg s (NA*G):Int):Rat)/(sg t (NB*G):Int)).den=NB:=by
 have hNB:0<NB:=Nat.pos_of_mul_pos_right hB;have hG0:0<G:=Nat.pos_of_mul_pos_left hB;have hc:(sg (s != t) NA).natAbs.Coprime NB:=by
  have h1:(sg (s != t) NA).natAbs=NA:=by cases s <;> cases t <;> simp [sg]
  rw [h1];have:NA.gcd NB*G=G:=by rw [←Nat.gcd_mul_right];exact hG.symm
  exact Nat.eq_of_mul_eq_mul_right hG0 (by rw [this,Nat.one_mul])
 have h2:((sg s (NA*G):Int):Rat)/(sg t (NB*G):Int)=⟨sg (s != t) NA,NB,by omega,hc⟩:=by
  rw [Rat.mk_eq_divInt,←Rat.divInt_eq_div,Rat.divInt_eq_divInt_iff]
  ·cases s <;> cases t <;> simp [sg] <;> grind
  ·cases t <;> simp [sg] <;> omega
  ·omega
 rw [h2];exact ⟨rfl,rfl⟩
def stU (odd:Bool) (a0 b0 A B:Int):Int:=if odd then b0*B-a0*A else a0*A-b0*B
def stV (odd:Bool) (a1 b1 A B:Int):Int:=if odd then a1*A-b1*B else b1*B-a1*A
def Cd (u v A B:Int):Prop:=∀d:Int,(d ∣ u∧d ∣ v) ↔ (d ∣ A∧d ∣ B)
theorem Cd.refl (A B:Int):Cd A B A B:=fun _=>Iff.rfl
theorem Cd.step {u v A B:Int} (h:Cd u v A B) (q:Int):Cd v (u-q*v) A B:=fun d=>by
 rw [←h d];constructor
 ·rintro ⟨h1,h2⟩;refine ⟨?_,h1⟩;have:=Int.dvd_add h2 (Int.dvd_mul_of_dvd_right (b:=q) h1)
  rwa [Int.sub_add_cancel] at this
 ·rintro ⟨h1,h2⟩;exact ⟨h2,Int.dvd_sub h1 (Int.dvd_mul_of_dvd_right (b:=q) h2)⟩
theorem Cd.trans {u v A B C D:Int} (h:Cd u v A B) (k:Cd A B C D):Cd u v C D:=fun d=>(h d).trans (k d)
theorem Cd.swap {u v A B:Int} (h:Cd u v A B):Cd v u A B:=fun d=>by rw [←h d];exact And.comm
def Led (odd:Bool) (a0 b0 a1 b1 x y:Int):Prop:=∀T ra rb:Int,0≤ra→ra<T→0≤rb→rb<T →
 0≤stV odd a1 b1 (x*T+ra) (y*T+rb)∧stV odd a1 b1 (x*T+ra) (y*T+rb)<stU odd a0 b0 (x*T+ra) (y*T+rb)∧stU odd a0 b0 (x*T+ra) (y*T+rb)≤y*T+rb∧Cd (stU odd a0 b0 (x*T+ra) (y*T+rb)) (stV odd a1 b1 (x*T+ra) (y*T+rb)) (x*T+ra) (y*T+rb)
structure Lh (odd:Bool) (a b a0 b0 a1 b1 x y:Int):Prop where
 a_0:0≤a
 b_0:0≤b
 ua:a=stU odd a0 b0 x y
 ub:b=stV odd a1 b1 x y
 top:x=b1*a+b0*b
 p0:0≤a0
 p1:0≤b0
 p2:0≤a1
 p3:1≤b1
 st:(odd=false∧a0=1∧b0=0∧a1=0∧b1=1)∨(a0≤b0∧a1≤b1∧1≤b0∧b1≤b∧b<a∧Led odd a0 b0 a1 b1 x y)
theorem lh_start {x y:Int} (hx:0≤x) (hy:0≤y):Lh false x y 1 0 0 1 x y :=
 ⟨hx,hy,by simp [stU],by simp [stV],by omega,by omega,by omega,by omega,by omega,.inl ⟨rfl,rfl,rfl,rfl,rfl⟩⟩
theorem stU_next {odd:Bool} {a1 b1 A B:Int}:stU (!odd) a1 b1 A B=stV odd a1 b1 A B:=by cases odd <;> simp [stU,stV]
theorem stV_next {odd:Bool} {a0 b0 a1 b1 q A B:Int}:stV (!odd) (a0+q*a1) (b0+q*b1) A B=stU odd a0 b0 A B-q*stV odd a1 b1 A B:=by
 cases odd <;> simp only [stU,stV,Bool.not_false,Bool.not_true,if_true,if_false,Bool.false_eq_true] <;> grind
theorem stV_low {odd:Bool} {a1 b1 x y T ra rb:Int} (h0:0≤a1) (h1:a1≤b1) (r0:0≤ra) (r1:ra<T) (s0:0≤rb) (s1:rb<T) :
  stV odd a1 b1 x y*T-b1*(T-1)≤stV odd a1 b1 (x*T+ra) (y*T+rb)∧stV odd a1 b1 (x*T+ra) (y*T+rb)≤stV odd a1 b1 x y*T+b1*(T-1):=by
 have m1:0≤a1*ra:=Int.mul_nonneg h0 r0;have m2:0≤b1*rb:=Int.mul_nonneg (by omega) s0;have m3:a1*ra≤b1*ra:=Int.mul_le_mul_of_nonneg_right h1 r0;have m4:b1*ra≤b1*(T-1):=Int.mul_le_mul_of_nonneg_left (by omega) (by omega);have m5:b1*rb≤b1*(T-1):=Int.mul_le_mul_of_nonneg_left (by omega) (by omega);cases odd
 ·have e:stV false a1 b1 (x*T+ra) (y*T+rb)=stV false a1 b1 x y*T+b1*rb-a1*ra:=by simp only [stV,Bool.false_eq_true,if_false];grind
  rw [e];omega
 ·have e:stV true a1 b1 (x*T+ra) (y*T+rb)=stV true a1 b1 x y*T+a1*ra-b1*rb:=by simp only [stV,if_true];grind
  rw [e];omega
theorem lh_step {odd:Bool} {a b a0 b0 a1 b1 x y:Int} (h:Lh odd a b a0 b0 a1 b1 x y) (hxy:y≤x) (hb:0<b) (c1:b0+a/b*b1≤a-a/b*b) (c2:b1+(b0+a/b*b1)≤b-(a-a/b*b)) :
  Lh (!odd) b (a-a/b*b) a1 b1 (a0+a/b*a1) (b0+a/b*b1) x y:=by
 obtain ⟨q,hq⟩:∃q,a/b=q:=⟨_,rfl⟩;rw [hq] at c1 c2 ⊢;have hq0:0≤q:=by rw [←hq];exact Int.ediv_nonneg h.a_0 h.b_0
 have hr0:0≤a-q*b:=by
  have:=Int.emod_nonneg a (show b≠0 by omega);have e:=Int.mul_ediv_add_emod a b
  rw [hq,Int.mul_comm] at e;omega
 have hb1:0≤q*b1:=Int.mul_nonneg hq0 (by have:=h.p3;omega);have ha1:0≤q*a1:=Int.mul_nonneg hq0 h.p2;have p0:=h.p0;have p1:=h.p1;have p2:=h.p2;have p3:=h.p3
 have hua:=h.ua;have hub:=h.ub;have htop:=h.top
 -- the quotient is not 0 at the first step
 have hmono:a0+q*a1≤b0+q*b1∧a1≤b1:=by
  rcases h.st with ⟨rfl,rfl,rfl,rfl,rfl⟩ | ⟨s1,s2,_,_,_,_⟩
  ·have ea:a=x:=by rw [hua];simp [stU]
   have eb:b=y:=by rw [hub];simp [stV]
   have:1≤q:=by rw [←hq];exact (Int.le_ediv_iff_mul_le hb).2 (by omega)
   omega
  ·have:q*a1≤q*b1:=Int.mul_le_mul_of_nonneg_left s2 hq0;omega
 have hb1':1≤b0+q*b1:=by
  rcases h.st with ⟨rfl,rfl,rfl,rfl,rfl⟩ | ⟨s1,s2,s3,_,_,_⟩
  ·omega
  ·omega
 refine ⟨h.b_0,hr0,?_,?_,?_,p2,by omega,by omega,hb1',.inr ⟨hmono.2,hmono.1,p3,c1,by omega,?_⟩⟩
 ·rw [stU_next];exact hub
 ·rw [stV_next,←hua,←hub]
 ·rw [htop];grind
 ·intro T ra rb r0 r1 s0 s1;have hV:stV (!odd) (a0+q*a1) (b0+q*b1) x y=a-q*b:=by rw [stV_next,←hua,←hub]
  have lo:=stV_low (odd:=!odd) (x:=x) (y:=y) (by omega) hmono.1 r0 r1 s0 s1;have lo2:=stV_low (odd:=odd) (x:=x) (y:=y) p2 hmono.2 r0 r1 s0 s1;rw [hV] at lo;rw [←hub] at lo2;have hT:1≤T:=by omega
  have k1:(b0+q*b1)*T≤(a-q*b)*T:=Int.mul_le_mul_of_nonneg_right c1 (by omega);have k2:(b1+(b0+q*b1))*T≤(b-(a-q*b))*T:=Int.mul_le_mul_of_nonneg_right c2 (by omega);have x1:(b0+q*b1)*(T-1)=(b0+q*b1)*T-(b0+q*b1):=by rw [Int.mul_sub,Int.mul_one]
  have x2:b1*(T-1)=b1*T-b1:=by rw [Int.mul_sub,Int.mul_one]
  have x3:(b1+(b0+q*b1))*T=b1*T+(b0+q*b1)*T:=by rw [Int.add_mul]
  have x4:(b-(a-q*b))*T=b*T-(a-q*b)*T:=by rw [Int.sub_mul]
  rw [stU_next];refine ⟨by omega,by omega,?_,?_⟩
  ·rcases h.st with ⟨rfl,rfl,rfl,rfl,rfl⟩ | ⟨_,_,_,_,_,hl⟩
   ·simp [stV]
   ·obtain ⟨_,l2,l3,_⟩:=hl T ra rb r0 r1 s0 s1;omega
  ·rw [stV_next];refine Cd.step ?_ q;rcases h.st with ⟨rfl,rfl,rfl,rfl,rfl⟩ | ⟨_,_,_,_,_,hl⟩
   ·simp only [stU,stV,Bool.false_eq_true,if_false];have e1:1*(x*T+ra)-0*(y*T+rb)=x*T+ra:=by omega
    have e2:1*(y*T+rb)-0*(x*T+ra)=y*T+rb:=by omega
    rw [e1,e2];exact Cd.refl _ _
   ·exact (hl T ra rb r0 r1 s0 s1).2.2.2
theorem lh_room {odd:Bool} {a b a0 b0 a1 b1 x y:Int} (h:Lh odd a b a0 b0 a1 b1 x y) (hxy:y≤x) (hb:0<b):b0+a/b*b1≤x∧a0+a/b*a1≤x∧0≤a/b*a1∧0≤a/b*b1∧(0<a-a/b*b→b1+(b0+a/b*b1)≤x)∧1≤b0+a/b*b1:=by
 obtain ⟨q,hq⟩:∃q,a/b=q:=⟨_,rfl⟩;rw [hq];have hq0:0≤q:=by rw [←hq];exact Int.ediv_nonneg h.a_0 h.b_0
 have hr0:0≤a-q*b:=by
  have:=Int.emod_nonneg a (show b≠0 by omega);have e:=Int.mul_ediv_add_emod a b
  rw [hq,Int.mul_comm] at e;omega
 have p0:=h.p0;have p1:=h.p1;have p2:=h.p2;have p3:=h.p3
 have hb1:0≤q*b1:=Int.mul_nonneg hq0 (by omega);have ha1:0≤q*a1:=Int.mul_nonneg hq0 h.p2;have e:x=(b0+q*b1)*b+b1*(a-q*b):=by rw [h.top];grind
 have f1:(b0+q*b1)*1≤(b0+q*b1)*b:=Int.mul_le_mul_of_nonneg_left (by omega) (by omega);have f2:0≤b1*(a-q*b):=Int.mul_nonneg (by omega) hr0;refine ⟨by omega,?_,ha1,hb1,fun hp=>?_,?_⟩
 ·rcases h.st with ⟨rfl,rfl,rfl,rfl,rfl⟩ | ⟨s1,s2,_,_,_,_⟩
  ·have eb:b=y:=by rw [h.ub];simp [stV]
   omega
  ·have:q*a1≤q*b1:=Int.mul_le_mul_of_nonneg_left s2 hq0;omega
 ·have f3:b1*1≤b1*(a-q*b):=Int.mul_le_mul_of_nonneg_left (by omega) (by omega);omega
 ·rcases h.st with ⟨rfl,rfl,rfl,rfl,rfl⟩ | ⟨s1,s2,s3,_,_,_⟩
  ·have ea:a=x:=by rw [h.ua];simp [stU]
   have eb:b=y:=by rw [h.ub];simp [stV]
   have:1≤q:=by rw [←hq];exact (Int.le_ediv_iff_mul_le hb).2 (by omega)
   omega
  ·omega
theorem lh_some {odd:Bool} {a b a0 b0 a1 b1 x y:Int} (h:Lh odd a b a0 b0 a1 b1 x y) (hb0:b0≠0):Led odd a0 b0 a1 b1 x y∧a0+2≤x∧b0+2≤x∧a1+2≤x∧b1+2≤x:=by
 rcases h.st with ⟨_,_,h0,_⟩ | ⟨s1,s2,s3,s4,s5,hl⟩
 ·exact absurd h0 hb0
 ·have p3:=h.p3;have p1:=h.p1
  have e:=h.top;have m1:b1*2≤b1*a:=Int.mul_le_mul_of_nonneg_left (by omega) (by omega);have m2:b0*1≤b0*b:=Int.mul_le_mul_of_nonneg_left (by omega) (by omega);exact ⟨hl,by omega,by omega,by omega,by omega⟩
theorem lh_none {odd:Bool} {a b a0 b0 a1 b1 x y:Int} (h:Lh odd a b a0 b0 a1 b1 x y):0≤a0∧0≤b0∧0≤a1∧0≤b1:=⟨h.p0,h.p1,h.p2,by have:=h.p3;omega⟩
def SB (w:World) (g:Nat) (a0 b0 a1 b1:Int) (odd:Bool):Prop:=w.heap[g]?=some (.cells #[.int .u64 a0,.int .u64 b0,.int .u64 a1,.int .u64 b1,.bool odd] 214 (0,0))
theorem SB.cells {w g a0 b0 a1 b1 odd} (h:SB w g a0 b0 a1 b1 odd):w.cell? ⟨g,0,none⟩=some (.int .u64 a0)∧w.cell? ⟨g,1,none⟩=some (.int .u64 b0)∧w.cell? ⟨g,2,none⟩=some (.int .u64 a1)∧w.cell? ⟨g,3,none⟩=some (.int .u64 b1)∧w.cell? ⟨g,4,none⟩=some (.bool odd):=by
 unfold SB at h;simp [World.cell?,h]
theorem SB.frozen {w g a0 b0 a1 b1 odd} (h:SB w g a0 b0 a1 b1 odd) (j:Nat):w.frozen? ⟨g,j,none⟩=false:=by
 unfold SB at h;simp [World.frozen?,h]
theorem SB.lt {w g a0 b0 a1 b1 odd} (h:SB w g a0 b0 a1 b1 odd):g<w.heap.size:=(Array.getElem?_eq_some_iff.1 h).1
theorem SB.below {w w' g a0 b0 a1 b1 odd} (h:SB w g a0 b0 a1 b1 odd) (hb:Below w.heap.size w w'):SB w' g a0 b0 a1 b1 odd:=(hb.block g h.lt).trans h
theorem SB.set5 {w g a0 b0 a1 b1 odd} (h:SB w g a0 b0 a1 b1 odd) (c0 d0 c1 d1:Int) (o:Bool):SB (((((w.setCell ⟨g,0,none⟩ (.int .u64 c0)).setCell ⟨g,1,none⟩ (.int .u64 d0)).setCell ⟨g,2,none⟩ (.int .u64 c1)).setCell ⟨g,3,none⟩ (.int .u64 d1)).setCell ⟨g,4,none⟩ (.bool o)) g c0 d0 c1 d1 o:=by
 unfold SB at h ⊢;simp [World.setCell,Array.getElem?_modify,h]
theorem only_set5 (w:World) (g:Nat) (u0 u1 u2 u3 u4:Value):Only g w (((((w.setCell ⟨g,0,none⟩ u0).setCell ⟨g,1,none⟩ u1).setCell ⟨g,2,none⟩ u2).setCell ⟨g,3,none⟩ u3).setCell ⟨g,4,none⟩ u4) :=
 (((((Only.refl _ _).setCell _ _ _).setCell _ _ _).setCell _ _ _).setCell _ _ _).setCell _ _ _
def FsAns (w w':World) (e:Ending) (x y:Int):Prop:=Below w.heap.size w w'∧∃a0 b0 a1 b1 odd a b,e=.returned (.agg #[.int .u64 a0,.int .u64 b0,.int .u64 a1,.int .u64 b1,.bool odd])∧Lh odd a b a0 b0 a1 b1 x y∧b0≤x∧a0≤x∧a1≤x∧b1≤x
set_option maxRecDepth 100000 in
set_option maxHeartbeats 4000000 in
theorem findSteps_c (x y:Int) (w:World) (y0:0≤y) (hyx:y≤x) (x0:1≤x) (x1:x<18446744073709551616) :
  Calls Tryz.prog 187 #[.int .u64 x,.int .u64 y] w fun e w'=>FsAns w w' e x y:=by
 go_enter Tryz.func187,Tryz.ntmps187;go_wp2;go_loopw [0,1] (fun c d wr=>∃(a b a0 b0 a1 b1:Int) (odd:Bool),c=.int .u64 a∧d=.int .u64 b∧0≤a∧a≤x∧0≤b∧b≤x∧Below w.heap.size w wr∧Hid (SB wr w.heap.size 0 0 0 0 false)∧Hid (SB wr (w.heap.size+1) a0 b0 a1 b1 odd)∧Hid (Lh odd a b a0 b0 a1 b1 x y)∧Hid (b0≤x∧a0≤x∧a1≤x∧b1≤x)) (fun _ d _=>(intOf d).toNat)
 case atStart =>
  refine ⟨x,y,1,0,0,1,false,rfl,rfl,by omega,by omega,by omega,by omega,((Below.refl _ _).alloc (Nat.le_refl _) _).alloc (by simp) _,?_,?_,lh_start (by omega) y0,?_⟩
  ·exact Below.heap_alloc _ _ _ (by simp) |>.trans (heap_alloc_new w _)
  ·show _=_;have:=heap_alloc_new (w.alloc (.cells #[.int .u64 0,.int .u64 0,.int .u64 0,.int .u64 0,.bool false] 214)) (.cells #[.int .u64 1,.int .u64 0,.int .u64 0,.int .u64 1,.bool false] 214);simpa using this
  ·show _∧_∧_∧_;omega
 case round =>
  obtain ⟨a,b,a0,b0,a1,b1,odd,rfl,rfl,ha0,hax,hb0,hbx,hbel,HG,HS,HL,HX⟩:=hrel;obtain ⟨s0,s1,s2,s3,s4⟩:=HS.out.cells;obtain ⟨r0,r1,r2,r3,r4⟩:=HG.out.cells;have fz:=HS.out.frozen;have fr:=HG.out.frozen;have alS:∀o,SB (wr.alloc o) (w.heap.size+1) a0 b0 a1 b1 odd:=fun o=>HS.out.below ((Below.refl _ _).alloc (Nat.le_refl _) o)
  have alG:∀o,SB (wr.alloc o) w.heap.size 0 0 0 0 false:=fun o=>HG.out.below ((Below.refl _ _).alloc (Nat.le_refl _) o)
  have sa0:=fun o=>(alS o).cells.1
  have sa1:=fun o=>(alS o).cells.2.1
  have sa2:=fun o=>(alS o).cells.2.2.1
  have sa3:=fun o=>(alS o).cells.2.2.2.1
  have sa4:=fun o=>(alS o).cells.2.2.2.2
  have ga0:=fun o=>(alG o).cells.1
  have ga1:=fun o=>(alG o).cells.2.1
  have ga2:=fun o=>(alG o).cells.2.2.1
  have ga3:=fun o=>(alG o).cells.2.2.2.1
  have ga4:=fun o=>(alG o).cells.2.2.2.2
  have fza:=fun o=>(alS o).frozen
  have fra:=fun o=>(alG o).frozen
  have ltS:=HS.out.lt;clear alS alG;by_cases hbz:b=0
  ·subst hbz;go_wp2;obtain ⟨t0,t1,t2,t3,t4⟩:=(HG.out.set5 a0 b0 a1 b1 odd).cells;refine bodyPost_ret (v:=.agg #[.int .u64 a0,.int .u64 b0,.int .u64 a1,.int .u64 b1,.bool odd]) (by simp [results,Tryz.results187,go_sem,t0,t1,t2,t3,t4]) rfl ⟨?_,a0,b0,a1,b1,odd,_,_,rfl,HL.out,HX.out⟩;exact below_only hbel (only_set5 _ _ _ _ _ _ _) (Nat.le_refl _) hbel.size
  ·have hbp:0<b:=by omega
   have hbb:(b != 0)=true:=by simp [hbz]
   obtain ⟨m1,m2,m3,m4,m5,m6⟩:=lh_room HL.out hyx hbp;have cstep:=lh_step HL.out hyx hbp;obtain ⟨q,hq⟩:∃q,a/b=q:=⟨_,rfl⟩;have hq0:0≤q:=by rw [←hq];exact Int.ediv_nonneg ha0 hb0
   have hpr:0≤a-q*b∧a-q*b<b∧0≤q*b:=by
    have e1:=Int.emod_nonneg a hbz;have e2:=Int.emod_lt_of_pos a hbp;have e:=Int.mul_ediv_add_emod a b
    rw [hq,Int.mul_comm] at e;exact ⟨by omega,by omega,Int.mul_nonneg hq0 hb0⟩
   rw [hq] at m1 m2 m3 m4 m5 m6 cstep;obtain ⟨p,hp⟩:∃p,q*b=p:=⟨_,rfl⟩;obtain ⟨qa,hqa⟩:∃p,q*a1=p:=⟨_,rfl⟩;obtain ⟨qb,hqb⟩:∃p,q*b1=p:=⟨_,rfl⟩;rw [hp] at hpr m5 cstep;rw [hqa] at m2 m3 cstep;rw [hqb] at m1 m4 m5 m6 cstep;obtain ⟨p1,p2,p3⟩:=hpr;obtain ⟨l0,l1,l2,l3⟩:=(⟨HL.out.p0,HL.out.p1,HL.out.p2,HL.out.p3⟩:0≤a0∧0≤b0∧0≤a1∧1≤b1);obtain ⟨z1,z2,z3,z4⟩:=HX.out;have CS:=hid cstep;have M5:=hid m5;clear cstep m5;by_cases c1:a-p<b0+qb
   ·have c1b:decide (a-p<b0+qb)=true:=by simp [c1]
    go_wp2;obtain ⟨t0,t1,t2,t3,t4⟩:=((HG.out.below ((Below.refl _ _).alloc (Nat.le_refl _) (.cells #[.int .u64 a1,.int .u64 b1,.int .u64 (a0+qa),.int .u64 (b0+qb),.bool !odd] 214))).set5 a0 b0 a1 b1 odd).cells;refine bodyPost_ret (v:=.agg #[.int .u64 a0,.int .u64 b0,.int .u64 a1,.int .u64 b1,.bool odd]) (by simp [results,Tryz.results187,go_sem,t0,t1,t2,t3,t4]) rfl ⟨?_,a0,b0,a1,b1,odd,_,_,rfl,HL.out,HX.out⟩;exact below_only (hbel.alloc hbel.size _) (only_set5 _ _ _ _ _ _ _) (Nat.le_refl _) (by have:=hbel.size;simp;omega)
   ·have c1b:decide (a-p<b0+qb)=false:=by simp;omega
    have hm5:=M5.out (by omega);by_cases c2:b-(a-p)<b1+(b0+qb)
    ·have c2b:decide (b-(a-p)<b1+(b0+qb))=true:=by simp [c2]
     go_wp2;obtain ⟨t0,t1,t2,t3,t4⟩:=((HG.out.below ((Below.refl _ _).alloc (Nat.le_refl _) (.cells #[.int .u64 a1,.int .u64 b1,.int .u64 (a0+qa),.int .u64 (b0+qb),.bool !odd] 214))).set5 a0 b0 a1 b1 odd).cells;refine bodyPost_ret (v:=.agg #[.int .u64 a0,.int .u64 b0,.int .u64 a1,.int .u64 b1,.bool odd]) (by simp [results,Tryz.results187,go_sem,t0,t1,t2,t3,t4]) rfl ⟨?_,a0,b0,a1,b1,odd,_,_,rfl,HL.out,HX.out⟩;exact below_only (hbel.alloc hbel.size _) (only_set5 _ _ _ _ _ _ _) (Nat.le_refl _) (by have:=hbel.size;simp;omega)
    ·have c2b:decide (b-(a-p)<b1+(b0+qb))=false:=by simp;omega
     have NX:=hid (CS.out (by omega) (by omega));go_wp2
     go_region
     all_goals
      go_wp2;go_roundw
      case rel =>
       have o1:Only (w.heap.size+1) wr _:=only_set5 wr (w.heap.size+1) (.int .u64 a1) (.int .u64 b1) (.int .u64 (a0+qa)) (.int .u64 (b0+qb)) (.bool !odd);have b1':=below_only hbel o1 (by omega) hbel.size;refine ⟨b,a-p,a1,b1,a0+qa,b0+qb,!odd,rfl,rfl,by omega,by omega,by omega,by omega,(b1'.alloc b1'.size _).drew,?_,?_,NX.out,?_⟩
       ·exact (show SB _ _ _ _ _ _ _ from (o1.block _ HG.out.lt (by omega)).trans HG.out).below ((Below.refl _ _).alloc (Nat.le_refl _) _).drew
       ·exact (HS.out.set5 a1 b1 (a0+qa) (b0+qb) (!odd)).below ((Below.refl _ _).alloc (Nat.le_refl _) _).drew
       ·show _∧_∧_∧_;omega
      case measure=>simp [intOf];omega
theorem bits_two (h l s:Int) (h0:0≤h) (l0:0≤l) (l1:l<18446744073709551616) (s0:0≤s) (s1:s≤63) (hh:h<2^(64-s).toNat) :
  ∃H D Z,IntKind.u64.wrap (h*2^s.toNat)=H∧0≤H∧H<18446744073709551616∧l/2^(64-s).toNat=D∧0≤D∧D<18446744073709551616∧bits BinOp.or .u64 H D=Z∧0≤Z∧Z<18446744073709551616∧Hid (h*18446744073709551616+l=Z*2^(64-s).toNat+l%2^(64-s).toNat):=by
 have hPQ:(2:Int)^s.toNat*2^(64-s).toNat=18446744073709551616:=by rw [←Int.pow_add,show s.toNat+(64-s).toNat=64 by omega];rfl
 have p0:(0:Int)<2^s.toNat:=Int.pow_pos (by decide);have q0:(0:Int)<2^(64-s).toNat:=Int.pow_pos (by decide);obtain ⟨P,hP⟩:∃P:Int,2^s.toNat=P:=⟨_,rfl⟩;obtain ⟨Q,hQ⟩:∃Q:Int,2^(64-s).toNat=Q:=⟨_,rfl⟩;have d1:l/Q<P:=Int.ediv_lt_of_lt_mul (by omega) (by rw [←hP,←hQ,hPQ];exact l1);have d0:0≤l/Q:=Int.ediv_nonneg l0 (by omega);have h1:(h+1)*P≤Q*P:=Int.mul_le_mul_of_nonneg_right (by omega) (by omega);have hPQ':Q*P=18446744073709551616:=by rw [←hP,←hQ,Int.mul_comm];exact hPQ
 have hP0:0≤h*P:=Int.mul_nonneg h0 (by omega);rw [Int.add_mul,Int.one_mul,hPQ'] at h1;have hPle:P≤18446744073709551616:=by omega
 have hw:IntKind.u64.wrap (h*2^s.toNat)=h*P:=by rw [hP,IntKind.wrap_u64];omega
 refine ⟨_,_,h*P+l/Q,hw,hP0,by omega,rfl,by rw [hQ];exact d0,by rw [hQ];omega,?_,?_,?_,?_⟩
 ·rw [hQ];exact bits_join .u64 64 (by decide) wraps_u64 s.toNat _ _ hP0 (by rw [hP];exact Int.mul_emod_left _ _) (by omega) d0 (by rw [hP];exact d1) (by omega)
 ·omega
 ·omega
 ·show _=_;rw [hQ];have e:=Int.mul_ediv_add_emod l Q;rw [Int.add_mul,Int.mul_assoc,Int.mul_comm P Q,hPQ',Int.mul_comm (l/Q) Q];omega
set_option maxRecDepth 100000 in
set_option maxHeartbeats 1000000 in
theorem bitsFrom_c (ao:Option Addr) (n cap k:Nat) (z:Int) (f:Nat→Int) (s:Int) (w:World) (hn:n≤140737488355328) (hk:k+1≤140737488355328) (hz:z=(k:Int)+1) (hr:Rd .u64 w ao n f) (hf:Lm f n) (s0:0≤s) (s1:s≤63) (hh:ext f n (k+1)<2^(64-s).toNat) :
  ∃Z,0≤Z∧Z<18446744073709551616∧ext f n (k+1)*18446744073709551616+ext f n k=Z*2^(64-s).toNat+ext f n k%2^(64-s).toNat∧Calls Tryz.prog 201 #[.slice ao n cap,.int .i64 z,.int .i64 s] w fun e w'=>e=.returned (.int .u64 Z)∧∃q,w'=w.drewN q:=by
 have lm:∀j,0≤ext f n j∧ext f n j<18446744073709551616:=fun j=>by
  by_cases hj:j<n
  ·rw [ext_in _ _ _ hj];exact hf j hj
  ·rw [ext_out _ _ _ (by omega)];omega
 have C1:=hid (fun W (h:Rd .u64 W ao n f)=>limbAt_c ao n cap f (k+1) W hn hk h);have C2:=hid (fun W (h:Rd .u64 W ao n f)=>limbAt_c ao n cap f k W hn (by omega) h);obtain ⟨x,hx⟩:∃x,ext f n (k+1)=x:=⟨_,rfl⟩;obtain ⟨y,hy⟩:∃y,ext f n k=y:=⟨_,rfl⟩;have lx:=lm (k+1);have ly:=lm k
 rw [hx] at lx hh C1 ⊢;rw [hy] at ly C2 ⊢;obtain ⟨H,D,Z,e1,H0,H1,e2,D0,D1,e3,Z0,Z1,HZ⟩:=bits_two x y s lx.1 ly.1 ly.2 s0 s1 hh;refine ⟨Z,Z0,Z1,HZ.out,?_⟩;have HR:=hid hr;obtain ⟨x0,x1⟩:=lx;obtain ⟨y0,y1⟩:=ly;have z0:1≤z:=by omega
 have z1:z≤140737488355328:=by omega
 have C3:=C2;rw [show ((k+1:Nat):Int)=z by omega] at C1;rw [show ((k:Nat):Int)=z-1 by omega] at C3;have C4:=C3;rw [show z-1=IntKind.i64.wrap (z-1) by rw [IntKind.wrap_i64];omega] at C4;have D1:=hid (fun q=>(C1.out (w.drewN q) (show Rd .u64 (w.drewN q) ao n f from hr)).mono (R':=fun e w''=>e=.returned (.int .u64 x)∧∃n,w''=w.drewN n) (fun _ _ h=>⟨h.1,_,h.2⟩));have D3:=hid (fun q=>(C3.out (w.drewN q) (show Rd .u64 (w.drewN q) ao n f from hr)).mono (R':=fun e w''=>e=.returned (.int .u64 y)∧∃n,w''=w.drewN n) (fun _ _ h=>⟨h.1,_,h.2⟩));have D4:=hid (fun q=>(C4.out (w.drewN q) (show Rd .u64 (w.drewN q) ao n f from hr)).mono (R':=fun e w''=>e=.returned (.int .u64 y)∧∃n,w''=w.drewN n) (fun _ _ h=>⟨h.1,_,h.2⟩));clear hr hf lm hx hy hh hz C2 hk C1 C3 C4;go_enter Tryz.func201,Tryz.ntmps201;go_wp2
 go_quiet (first | (go_at_call 210;with_reducible exact D1.out _) | (go_at_call 210;with_reducible exact D3.out _) | (go_at_call 210;with_reducible exact D4.out _))
 go_wp2;go_ret;exact ⟨rfl,_,rfl⟩
theorem hb_num {g:Nat→Int} {k:Nat} {Z Q:Int} (hl:Lm g (k+2)) (q0:0<Q) (he:g (k+1)*18446744073709551616+g k=Z*Q+g k%Q) :
  vf g (k+2)=Z*(Q*pw k)+(g k%Q*pw k+vf g k)∧0≤g k%Q*pw k+vf g k∧g k%Q*pw k+vf g k<Q*pw k:=by
 have r0:=Int.emod_nonneg (g k) (show Q≠0 by omega);have r1:=Int.emod_lt_of_pos (g k) q0;have v0:=vf_nonneg (hl.mono (m:=k) (by omega));have v1:=vf_lt (hl.mono (m:=k) (by omega));have p0:=pw_pos k;have m0:0≤g k%Q*pw k:=Int.mul_nonneg r0 (by omega);have m1:(g k%Q+1)*pw k≤Q*pw k:=Int.mul_le_mul_of_nonneg_right (by omega) (by omega);rw [Int.add_mul,Int.one_mul] at m1;refine ⟨?_,by omega,by omega⟩;rw [top2,he];grind
theorem top_le {f g:Nat→Int} {k:Nat} (hf:Lm f (k+1)) (hg:Lm g (k+1)) (h:vf g (k+1)≤vf f (k+1)):g k≤f k:=by
 apply Int.le_of_lt_add_one;have a1:=vf_lt (hf.mono (m:=k) (by omega));have a2:=vf_nonneg (hg.mono (m:=k) (by omega))
 rw [vf_succ,vf_succ] at h;have:g k*pw k<(f k+1)*pw k:=by rw [Int.add_mul,Int.one_mul];omega
 exact Int.lt_of_mul_lt_mul_right this (Int.le_of_lt (pw_pos k))
def Top2 (A B x y:Int):Prop:=9223372036854775808≤x∧x<18446744073709551616∧0≤y∧y≤x∧∃T ra rb,A=x*T+ra∧B=y*T+rb∧0≤ra∧ra<T∧0≤rb∧rb<T
set_option maxRecDepth 100000 in
set_option maxHeartbeats 2000000 in
theorem highBits_c (ao bo:Option Addr) (n m ca cb:Nat) (f h:Nat→Int) (w:World) (hn:n≤8796093022208) (hn2:2≤n) (hmn:m≤n) (hr:Rd .u64 w ao n f) (hs:Rd .u64 w bo m h) (hf:Lm f n) (hh:Lm h m) (ff:Fm f n) (hle:vf h m≤vf f n) :
  ∃x y,Top2 (vf f n) (vf h m) x y∧Calls Tryz.prog 188 #[.slice ao n ca,.slice bo m cb] w fun e w'=>e=.returned (.tuple #[.int .u64 x,.int .u64 y])∧∃q,w'=w.drewN q:=by
 obtain ⟨k,rfl⟩:∃k,n=k+2:=⟨n-2,by omega⟩;obtain ⟨b,ob,rfl⟩:=hr.at (by omega);obtain ⟨y,hy⟩:∃y,f (k+1)=y:=⟨_,rfl⟩;have hcell:w.cell? ⟨b,ob+(k+1),none⟩=some (.int .u64 y):=by rw [←hy];exact hr.cell (by omega)
 have hy01:=hf (k+1) (by omega);have hyne:y≠0:=by rw [←hy];rcases ff with h | h;omega;simpa using h
 rw [hy] at hy01;obtain ⟨y,rfl⟩:=Int.eq_ofNat_of_zero_le hy01.1;obtain ⟨s,s0,s1,hse,hP1,hP2⟩:=lead_nums y (by omega) (by omega);have cl:=Tryz.bits_LeadingZeros64 (y:Int) w (by omega) (by omega);rw [Int.toNat_natCast,hse] at cl;have hPQ:(2:Int)^s.toNat*2^(64-s).toNat=18446744073709551616:=by rw [←Int.pow_add,show s.toNat+(64-s).toNat=64 by omega];rfl
 obtain ⟨P,hP⟩:∃P:Int,2^s.toNat=P:=⟨_,rfl⟩;obtain ⟨Q,hQ⟩:∃Q:Int,2^(64-s).toNat=Q:=⟨_,rfl⟩;have p0:0<P:=by rw [←hP];exact Int.pow_pos (by decide)
 have q0:0<Q:=by rw [←hQ];exact Int.pow_pos (by decide)
 rw [hP] at hP1 hP2 hPQ;rw [hQ] at hPQ;have hyQ:(y:Int)<Q:=by
  have:((y:Int)+1)*P≤Q*P:=by rw [Int.mul_comm Q P,hPQ];exact hP2
  have:=Int.le_of_mul_le_mul_right this p0;omega
 have lmx:Lm (ext h m) (k+2):=fun j hj=>by
  by_cases hjm:j<m
  ·rw [ext_in _ _ _ hjm];exact hh j hjm
  ·rw [ext_out _ _ _ (by omega)];omega
 have hvh:vf (ext h m) (k+2)=vf h m:=vf_ext_list _ _ _ hmn;have htop:=top_le hf lmx (by rw [hvh];exact hle);rw [hy] at htop;have e1:ext f (k+2) (k+1)=f (k+1):=ext_in _ _ _ (by omega);have e0:ext f (k+2) k=f k:=ext_in _ _ _ (by omega);obtain ⟨z,hz⟩:∃z,(k:Int)+2-1=z:=⟨_,rfl⟩;have hzn:z.toNat=k+1:=by omega
 have hz0:0≤z:=by omega
 have hz1:z<(k:Int)+2:=by omega
 obtain ⟨X,X0,X1,hX,cX⟩:=bitsFrom_c (some ⟨b,ob,none⟩) (k+2) ca k z f s w (by omega) (by omega) (by omega) hr hf s0 s1 (by rw [e1,hy,hQ];exact hyQ);have cY0:=fun q=>bitsFrom_c bo m cb k z h s (w.drewN q) (by omega) (by omega) (by omega) (show Rd .u64 (w.drewN q) bo m h from hs) hh s0 s1 (by rw [hQ];omega)
 rw [e1,e0,hQ] at hX;obtain ⟨Y,Y0,Y1,hY,_⟩:=cY0 0;rw [hQ] at hY;have cY:∀q,Calls Tryz.prog 201 #[.slice bo m cb,.int .i64 z,.int .i64 s] (w.drewN q) fun e w'=>e=.returned (.int .u64 Y)∧∃n,w'=(w.drewN q).drewN n:=fun q=>by
  obtain ⟨Y',a1,a2,a3,a4⟩:=cY0 q;rw [hQ] at a3;have:Y'=Y:=by
   have e:Y'*Q=Y*Q:=by omega
   exact Int.eq_of_mul_eq_mul_right (by omega) e
  rw [this] at a4;exact a4
 obtain ⟨A1,A2,A3⟩:=hb_num hf q0 hX;obtain ⟨B1,B2,B3⟩:=hb_num lmx q0 hY;rw [hvh] at B1;have hXlow:9223372036854775808≤X:=by
  have m1:9223372036854775808*Q≤(y:Int)*P*Q:=Int.mul_le_mul_of_nonneg_right hP1 (by omega);rw [Int.mul_assoc,hPQ] at m1;have r1:=Int.emod_lt_of_pos (f k) q0;have fk:=hf k (by omega);have:9223372036854775808*Q<(X+1)*Q:=by rw [Int.add_mul,Int.one_mul,hy] at *;omega
  have:=Int.lt_of_mul_lt_mul_right this (by omega);omega
 have hYX:Y≤X:=by
  have hT:0<Q*pw k:=Int.mul_pos q0 (pw_pos k);have:Y*(Q*pw k)<(X+1)*(Q*pw k):=by rw [Int.add_mul,Int.one_mul];omega
  have:=Int.lt_of_mul_lt_mul_right this (by omega);omega
 refine ⟨X,Y,⟨hXlow,X1,Y0,hYX,Q*pw k,_,_,A1,B1,A2,A3,B2,B3⟩,?_⟩;have CL:=hid cl;have CX:=hid cX;have CY:=hid cY
 clear cl cX cY cY0 hf hh hr hs ff hle hP1 hP2 hPQ hX hY A1 A2 A3 B1 B2 B3 hvh htop lmx e1 e0 hy hse hP hQ;go_enter Tryz.func188,Tryz.ntmps188;go_wp2_with fail
 refine CL.out.mono ?_;rintro e w' ⟨rfl,rfl⟩;go_wp2_with fail
 refine CX.out.mono ?_;rintro e w' ⟨rfl,q1,rfl⟩;go_wp2_with fail
 refine (CY.out _).mono ?_;rintro e w' ⟨rfl,q2,rfl⟩;go_wp2
 go_ret2
 exact ⟨rfl,_,by (repeat rw [World.drewN_drewN]) <;> rfl⟩
end Go.Proofs.YtdbbncamlaiajaaGreat
