/-
 Walks of package rat's clone, Copy and Neg. The walk of package rat's call Cmp. Walks of the document's reference for rat: Add, Sub, Cmp. Walks of rat's Sign and Cmp, whatever they are handed, and of the document's: DocSign, DocCmp. Walks of the document's reference for rat: Mul, Quo, Int, To, DocOf, DocNeg. Walks of rat's calls where they tell that a number is not in form, and of the document's Doc, DocNeg there; DocNeg. Walks of the document's reference for rat: Int, DocOf. The walk of the document's reference for rat: Doc, of numbers in form. Walks of rat's Add, Sub, Mul, Quo, whatever they are handed, and of the statements' call. The walk of rat.Of. Walks of the document's reference for rat: Twin; the same digits elsewhere. Walks of package rat's calls Text on numbers in form, and Read on the text 4/2. The walk of package rat's call Text on -3/2. The walk of the statements' own look at answers of rat that the document fixes (awake). The walk of RatSums. Walks of rat.Make and of the document's DocMake, whatever they are handed. Boxes of four cells. No Go text is named here. Bounds (api.Ext) as they lie in memory: boxes of four cells; what is in form; the order. Walks of ext: isZero, Form, allForm, number, infinity, Low, High, Copy, Cmp, Max, Min; of cmp.Compare at int. Lists of terms in memory; the walks of package vec's isZero and Form.
-/
import Derived.Test.YtdbbncamlaiajaaGreatZ6
namespace Go.Proofs.YtdbbncamlaiajaaGreat
open Go.RowKit
set_option maxRecDepth 100000 in
set_option maxHeartbeats 400000 in
theorem rclone_c (ao:Option Addr) (n cap:Nat) (f:Nat→Int) (w:World) (hn:n≤1048576) (hr:Rd .u64 w ao n f) (hnil:ao=none→n=0∧cap=0) :
  Calls Tryz.prog 106 #[.slice ao n cap] w fun e w'=>∃ao' cap',e=.returned (.slice ao' n cap')∧Below w.heap.size w w'∧Own .u64 145 w' w.heap.size (.slice ao' n cap') n f:=by
 cases ao with
 | none =>
  obtain ⟨rfl,rfl⟩:=hnil rfl;go_enter Tryz.func106,Tryz.ntmps106;obtain ⟨i0,hi,hz0,hz1,hz2⟩:=info_parts Tryz.infoU64;go_wp2_with (at_builtin;refine wpList_append_own_none rfl (.const (.slice none 0 0)) (.tmp 3) 22 rfl w.heap.size 145 i0 1 Tryz.underlying22 hi (.slice none 0 0) 0 [] rfl (World.ownsRow_nil _ _ _ _) rfl ?_)
  go_ret;exact ⟨none,0,rfl,Below.refl _ _,own_nil _ _ _ _ _⟩
 | some ad =>
  clear hnil;have HR:=hid hr;clear hr;go_enter Tryz.func106,Tryz.ntmps106;obtain ⟨i0,hi,hz0,hz1,hz2⟩:=info_parts Tryz.infoU64;go_wp2_with (at_builtin;refine wpList_append_own w rfl (.const (.slice none 0 0)) (.tmp 3) 22 rfl w.heap.size 145 i0 (.int .u64 0) 1 8 Tryz.underlying22 hi hz0 hz1 hz2 rfl (by decide) (.slice none 0 0) 0 [] rfl (World.ownsRow_nil _ _ _ _) ad n cap (lst .u64 f n) rfl (by rw [lst_length,Nat.mul_one]) ?c1 (lst_one _ _ _) ?c2 ?c3 (Nat.le_refl _) ?_)
  case c1 =>
   intro j u hu;obtain ⟨hj,rfl⟩:=lst_getE hu;obtain ⟨b,o,e,hc⟩:=HR.out j hj;cases e
   rw [addr_add];exact hc
  case c2=>unfold maxLen;omega
  case c3=>omega
  intro v' w' hown hgr _;have hown':Own .u64 145 w' w.heap.size v' n f:=hown;have hbel:Below w.heap.size w w':=(Below.refl _ _).grown hgr (Nat.le_refl _) (fun k h=>by simp [Value.ownBlock] at h);obtain ⟨ao',cap',hv,hcc,hnn,hml,hrd,hlt⟩:=hown'.shape;rw [hv] at hown' ⊢;clear hown hgr hv;have HO:=hid hown';clear hown';go_wp2;go_ret;exact ⟨ao',cap',rfl,hbel,HO.out⟩
theorem cloneWn_c {w s x n c f v} (h:Wn w s x n c f v) (hn:n≤1048576) :
  Calls Tryz.prog 106 #[.slice x n c] w fun e w'=>∃z c',e=.returned (.slice z n c')∧Below w.heap.size w w'∧Hid (Wn w' s z n c' f v) :=
 (rclone_c x n c f w (by omega) h.rd h.nil).mono (fun _ _ ⟨z,c',h1,h2,h3⟩=>⟨z,c',h1,h2,h3.slice.2.2.2.1,h.lm,h.wf,⟨h3.slice.1,h3.slice.2.1⟩,h3.slice.2.2.1,h.val⟩)
set_option maxRecDepth 100000 in
set_option maxHeartbeats 4000000 in
theorem rCopy_n {L:Nat} {w:World} {sa:Bool} {xa:Option Addr} {na ca:Nat} {fa:Nat→Int} {ya:Option Addr} {ma da:Nat} {ga:Nat→Int} {a:Rat} (ha:Rn L w sa xa na ca fa ya ma da ga a) (hL:L≤200000) :
  Calls Tryz.prog 64 #[.agg #[.bool sa,.slice xa na ca,.slice ya ma da]] w fun e w'=>∃x c y d,e=.returned (.agg #[.bool sa,.slice x na c,.slice y ma d])∧Below w.heap.size w w'∧Rn L w' sa x na c fa y ma d ga a:=by
 have b1:=ha.ln;have b2:=ha.ld
 have h1:=(ha.alloc (.cells #[.bool sa,.slice xa na ca,.slice ya ma da] 24)).alloc (.cells #[.bool false,.slice none 0 0,.slice none 0 0] 24);have h3:=ob_new (w.alloc (.cells #[.bool sa,.slice xa na ca,.slice ya ma da] 24)) 24;rw [size_alloc1] at h3;have h4:=below_alloc (below_alloc (Below.refl w.heap.size w) (.cells #[.bool sa,.slice xa na ca,.slice ya ma da] 24)) (.cells #[.bool false,.slice none 0 0,.slice none 0 0] 24);have h5:=(bx3_at w (.bool sa) (.slice xa na ca) (.slice ya ma da) 24).alloc (.cells #[.bool false,.slice none 0 0,.slice none 0 0] 24);clear ha;go_enter Tryz.func64,Tryz.ntmps64;go_wp2_with fail
 generalize (w.alloc (.cells #[.bool sa,.slice xa na ca,.slice ya ma da] 24)).alloc (.cells #[.bool false,.slice none 0 0,.slice none 0 0] 24)=w1 at *;have HA:=hid h1;have OB:=h3;have HW:=hid h4
 obtain ⟨hz,z0,z1,z2,zf⟩:=h3;obtain ⟨hy,x0,x1,x2⟩:=h5;clear h1 h4;have C1:Hid (∀W,Below w1.heap.size w1 W→Calls Tryz.prog 106 #[.slice xa na ca] W fun e w'=>∃z c',e=.returned (.slice z na c')∧Below W.heap.size W w'∧Hid (Wn w' sa z na c' fa a.num)):=fun W hW=>cloneWn_c (HA.out.num.below hW) (by omega)
 have C2:Hid (∀W,Below w1.heap.size w1 W→Calls Tryz.prog 106 #[.slice ya ma da] W fun e w'=>∃z c',e=.returned (.slice z ma c')∧Below W.heap.size W w'∧Hid (Wn w' false z ma c' ga (a.den:Int))):=fun W hW=>cloneWn_c (HA.out.den.below hW) (by omega)
 go_region_held3 (fun w'=>w'.cell? ⟨w.heap.size,0,none⟩=some (.bool sa)∧w'.cell? ⟨w.heap.size,1,none⟩=some (.slice xa na ca)∧w'.cell? ⟨w.heap.size,2,none⟩=some (.slice ya ma da)∧(w'.cell? ⟨w.heap.size+1,0,none⟩).isSome=true∧(w'.cell? ⟨w.heap.size+1,1,none⟩).isSome=true∧(w'.cell? ⟨w.heap.size+1,2,none⟩).isSome=true∧w'.frozen? ⟨w.heap.size+1,0,none⟩=false∧w'.frozen? ⟨w.heap.size+1,1,none⟩=false∧w'.frozen? ⟨w.heap.size+1,2,none⟩=false)
  (refine ⟨?_,?_,?_,?_,?_,?_,?_,?_,?_⟩ <;> repeat (with_reducible first | assumption | exact zf _ | exact kI0 z0 | exact kI0 z1 | exact kI0 z2 | exact tf _ | exact kI0 t0 | exact kI0 t1 | exact kI0 t2 | exact uf _ | exact kI0 u0 | exact kI0 u1 | exact kI0 u2 | refine kCd ?_ | refine kId ?_ | refine kFd ?_ | refine kCs (by simp only [ne_eq];omega) ?_ | refine kIs ?_ | refine kFs ?_ | refine kCb (by assumption) ?_ | refine kIb (by assumption) ?_))
  (first
   | (go_at_call 106;with_reducible refine (C1.out _ belA).mono ?_;rintro e w5 ⟨zp,cp,rfl,hb5,HP⟩;have TU:Ob w5 (w.heap.size+1):=(by repeat (with_reducible first | exact OB | exact TU | exact TV | refine Ob.drew ?_ | refine kOb (by assumption) ?_));obtain ⟨_,t0,t1,t2,tf⟩:=id TU)
   | (go_at_call 106;with_reducible refine (C2.out _ belA).mono ?_;rintro e w6 ⟨zq,cq,rfl,hb6,HQ⟩;have TV:Ob w6 (w.heap.size+1):=(by repeat (with_reducible first | exact OB | exact TU | exact TV | refine Ob.drew ?_ | refine kOb (by assumption) ?_));obtain ⟨_,u0,u1,u2,uf⟩:=id TV))
 have WA:=HP.out.below hb6;have hb:Below w1.heap.size w1 w6:=belA;go_wp2;exact bodyPost_ret (v:=.agg #[.bool sa,.slice zp na cp,.slice zq ma cq]) (by simp [results,Tryz.results64,go_sem,u0,u1,u2]) rfl ⟨zp,cp,zq,cq,rfl,below_st (HW.out.trans (hb.mono HW.out.size)) (by omega),TV.wn WA,TV.wn HQ.out,b1,b2⟩
set_option maxRecDepth 100000 in
set_option maxHeartbeats 4000000 in
theorem rNeg_n {L:Nat} {w:World} {sa:Bool} {xa:Option Addr} {na ca:Nat} {fa:Nat→Int} {ya:Option Addr} {ma da:Nat} {ga:Nat→Int} {a:Rat} (ha:Rn L w sa xa na ca fa ya ma da ga a) (hL:L≤200000) :
  Calls Tryz.prog 30 #[.agg #[.bool sa,.slice xa na ca,.slice ya ma da]] w fun e w'=>RatTup L w w' e (-a):=by
 have HA0:=hid ha;have b1:=ha.num.cap;clear ha;go_enter Tryz.func30,Tryz.ntmps30;go_wp2_with fail
 refine (rForm_n ((HA0.out.alloc _).alloc _) (by omega)).mono ?_;rintro e w1 ⟨rfl,hbel⟩;have hbx:=((bx3_at w _ _ _ _).alloc _).below hbel;have hob:=(ob_new (w.alloc _) _).below hbel;rw [size_alloc1] at hob;have HW1:Hid (Below w.heap.size w w1):=(below_alloc (below_alloc (Below.refl w.heap.size w) _) _).trans (hbel.mono (by simp;omega));have HA1:=hid (HA0.out.below HW1.out);have OB1:=hid hob
 clear hbel hob HA0;obtain ⟨za,x0,x1,x2⟩:=hbx;go_wp2_with fail
 refine (rCopy_n HA1.out hL).mono ?_;rintro e w2 ⟨xp,cp,yp,dp,rfl,hb,hr⟩;have RP2:=hid hr;have OB2:=hid (OB1.out.below hb);have HW2:=hid (HW1.out.trans (hb.mono HW1.out.size))
 clear hr hb OB1 HW1 HA1 za x0 x1 x2;go_wp2_with fail
 refine (rsigned_c _ xp yp na cp ma dp _ (by omega)).mono ?_;rintro e w3 ⟨rs,rfl,HRS,hb⟩;have RP3:=hid (RP2.out.next hb);have OB3:=hid (OB2.out.next hb);have HW3:=hid ((below_alloc HW2.out _).trans (hb.mono (below_alloc HW2.out _).size))
 clear hb RP2 OB2 HW2;obtain ⟨hz,z0,z1,z2,zf⟩:=OB3.out;go_wp2;exact bodyPost_ret (v:=.tuple #[.agg #[.bool rs,.slice xp na cp,.slice yp ma dp],.int .i64 0]) (by simp [results,Tryz.results30,go_sem,z0,z1,z2]) rfl ⟨rs,xp,na,cp,fa,yp,ma,dp,ga,rfl,below_st HW3.out (by omega),OB3.out.rn (RP3.out.negate HRS.out)⟩
def ROrd (c:Int) (a b:Rat):Prop:=c=-1∧a<b∨c=0∧a=b∨c=1∧b<a
theorem rord_of {c:Int} {a b:Rat} (h:Ord c (a.num*b.den) (b.num*a.den)):ROrd c a b:=by
 rcases h with ⟨h1,h2⟩ | ⟨h1,h2⟩ | ⟨h1,h2⟩
 ·exact .inl ⟨h1,(Rat.lt_iff a b).2 h2⟩
 ·refine .inr (.inl ⟨h1,Rat.le_antisymm ((Rat.le_iff a b).2 ?_) ((Rat.le_iff b a).2 ?_)⟩)
  ·rw [h2];exact Int.le_refl _
  ·rw [h2];exact Int.le_refl _
 ·exact .inr (.inr ⟨h1,(Rat.lt_iff b a).2 h2⟩)
theorem prod_of {L:Nat} {w1 wx W5 w5:World} {b4:Nat} {r1:Bool} {p1:Option Addr} {k1 c1 n m:Nat} {q:Nat→Int} {v:Int} (hn:n≤L) (hm:m≤L) (hW:Below w1.heap.size w1 W5) (hD:WRes (n+m) W5 w5 r1 p1 k1 c1 q∧wv r1 q k1=v) (hT:Turned w1.heap.size W5.heap.size w5 wx) (hb:Bx wx b4 r1 p1 k1 c1):FlAt (2*L) w1 wx b4 r1 p1 k1 c1 v:=by
 have hQ:=hD.1.res.turned hW hT;have:=hQ.le;exact ⟨hb,hQ.bel,⟨q,hQ.rd,hQ.lm,hD.1.wfB,hQ.ncap,hQ.nil',hD.2⟩,by omega⟩
set_option maxRecDepth 100000 in
set_option maxHeartbeats 8000000 in
theorem rCmp_n {L:Nat} {w:World} {sa:Bool} {xa:Option Addr} {na ca:Nat} {fa:Nat→Int} {ya:Option Addr} {ma da:Nat} {ga:Nat→Int} {a:Rat} {sb:Bool} {xb:Option Addr} {nb cb:Nat} {fb:Nat→Int} {yb:Option Addr} {mb db:Nat} {gb:Nat→Int} {b:Rat} (ha:Rn L w sa xa na ca fa ya ma da ga a) (hb:Rn L w sb xb nb cb fb yb mb db gb b) (hL:L≤200000) :
  Calls Tryz.prog 161 #[.agg #[.bool sa,.slice xa na ca,.slice ya ma da],.agg #[.bool sb,.slice xb nb cb,.slice yb mb db]] w fun e w'=>∃c,e=.returned (.tuple #[.int .i64 c,.int .i64 0])∧Below w.heap.size w w'∧ROrd c a b:=by
 have HA0:=hid ha;have HB0:=hid hb
 have b1:=ha.ln;have b2:=ha.ld;have b3:=hb.ln;have b4:=hb.ld
 clear ha hb;go_enter Tryz.func161,Tryz.ntmps161;go_wp2_with fail
 refine (rForm_n ((HA0.out.alloc _).alloc _) (by omega)).mono ?_;rintro e w0 ⟨rfl,hbel⟩;obtain ⟨ba,bb,hw⟩:=two_new hbel;have BA0:=hid ba;have BB0:=hid bb;have HW0:=hid hw;have RA0:=hid (HA0.out.below hw);have RB0:=hid (HB0.out.below hw)
 clear hbel ba bb hw HA0 HB0;obtain ⟨zb,y0,y1,y2⟩:=BB0.out;go_wp2_with fail
 refine (rForm_n RB0.out (by omega)).mono ?_;rintro e w1 ⟨rfl,hb⟩;clear zb y0 y1 y2;have BA1:=hid (BA0.out.below hb);have BB1:=hid (BB0.out.below hb);have RA1:=hid (RA0.out.below hb);have RB1:=hid (RB0.out.below hb);have HW1:=hid (HW0.out.trans (hb.mono HW0.out.size))
 clear BA0 BB0 RA0 RB0 HW0 hb;obtain ⟨za,x0,x1,x2⟩:=BA1.out;obtain ⟨zb,y0,y1,y2⟩:=BB1.out;have C1:Hid (∀W,Below w1.heap.size w1 W→Calls Tryz.prog 102 #[.agg #[.bool sa,.slice xa na ca,.slice ya ma da]] W fun e w'=>e=.returned (.agg #[.bool sa,.slice xa na ca])∧Below W.heap.size W w'):=fun W _=>numer_c sa xa ya na ca ma da W
 have C2:Hid (∀W,Below w1.heap.size w1 W→Calls Tryz.prog 176 #[.agg #[.bool sb,.slice xb nb cb,.slice yb mb db]] W fun e w'=>e=.returned (.agg #[.bool false,.slice yb mb db])∧Below W.heap.size W w'):=fun W _=>denom_c sb xb yb nb cb mb db W
 have C3:Hid (∀W,Below w1.heap.size w1 W→Calls Tryz.prog 140 #[.agg #[.bool sa,.slice xa na ca],.agg #[.bool false,.slice yb mb db]] W fun e w'=>∃r1 p1 k1 c1 q,e=.returned (.tuple #[.agg #[.bool r1,.slice p1 k1 c1],.int .i64 0])∧Below W.heap.size W w'∧Hid (WRes (na+mb) W w' r1 p1 k1 c1 q∧wv r1 q k1=a.num*b.den)):=fun W hW=>by
  have h1:=(RA1.out.below hW).num;have h2:=(RB1.out.below hW).den
  refine (wMul_c sa false xa yb na mb ca db fa gb W (by omega) (by omega) h1.cap.1 h2.cap.1 h1.cap.2 h2.cap.2 h1.rd h2.rd h1.lm h2.lm).mono ?_;rintro e w' ⟨r,z,k,e',h,er,rfl,hres,hans⟩;obtain ⟨rfl,hv⟩:=hans.ok ⟨h1.wf,h2.wf⟩;exact ⟨r,z,k,e',h,rfl,hres.res.bel,hres,by rw [hv,h1.val,h2.val]⟩
 go_upto_region 3 with fail
 go_cut [6,7] from 18 to 25 (fun u t wx=>∃(wy:World) (b4:Nat) (s:Bool) (z:Option Addr) (k c:Nat),wy=wx∧u=.pointer (some ⟨b4,0,none⟩)∧t=.int .i64 0∧FlAt (2*L) w1 wy b4 s z k c (a.num*b.den))
 case first =>
  go_region_held3 (fun w'=>w'.cell? ⟨w.heap.size,0,none⟩=some (.bool sa)∧w'.cell? ⟨w.heap.size,1,none⟩=some (.slice xa na ca)∧w'.cell? ⟨w.heap.size,2,none⟩=some (.slice ya ma da)∧w'.cell? ⟨w.heap.size+1,0,none⟩=some (.bool sb)∧w'.cell? ⟨w.heap.size+1,1,none⟩=some (.slice xb nb cb)∧w'.cell? ⟨w.heap.size+1,2,none⟩=some (.slice yb mb db))
   (refine ⟨?_,?_,?_,?_,?_,?_⟩ <;> repeat (with_reducible first | assumption | refine kCd ?_ | refine kCa ?_ | refine kCs (by simp only [ne_eq];omega) ?_ | refine kCb (by assumption) ?_))
   (first
    | (go_at_call 102;with_reducible refine (C1.out _ belA).mono ?_;rintro e v3 ⟨rfl,hb3⟩;have hza:=hb3.size;(try simp at hza);obtain ⟨hc3,hf3⟩:=bcell hb3;(try have q100:w1.heap.size<v3.heap.size:=by omega))
    | (go_at_call 176;with_reducible refine (C2.out _ belA).mono ?_;rintro e v4 ⟨rfl,hb4⟩;have hzb:=hb4.size;(try simp at hzb);obtain ⟨hc4,hf4⟩:=bcell hb4;(try have q100:w1.heap.size<v4.heap.size:=by omega);(try have q102:v3.heap.size<v4.heap.size:=by omega))
    | (go_at_call 140;with_reducible refine (C3.out _ belA).mono ?_;rintro e v5 ⟨r1,p1,k1,c1,q,rfl,hb5,HD⟩;have hzc:=hb5.size;(try simp at hzc);obtain ⟨hc5,hf5⟩:=bcell hb5;(try have q100:w1.heap.size<v5.heap.size:=by omega);(try have q102:v3.heap.size<v5.heap.size:=by omega);(try have q104:v4.heap.size<v5.heap.size:=by omega)))
  all_goals
   go_wp2_with fail
   go_meet
   refine ⟨_,_,r1,p1,k1,c1,rfl,rfl,rfl,prod_of (by assumption) (by assumption) belA HD.out (by repeat (with_reducible first | exact Turned.refl _ _ _ | refine Turned.drew ?_ | refine Turned.alloc ?_ _ | refine Turned.set ?_ (by first | omega | (simp;done) | (simp;omega)) (by first | omega | (simp;done) | (simp;omega)) _)) ⟨(by first | omega | (simp;done) | (simp;omega)),(by repeat (with_reducible first | assumption | exact kN0 | exact kN1 | (refine kM0 ?_;(simp <;> fail)) | (refine kM1 ?_;(simp <;> fail)) | exact kI0 kN0 | exact kI0 kN1 | (refine kI0 (kM0 ?_);(simp <;> fail)) | (refine kI0 (kM1 ?_);(simp <;> fail)) | refine kCd ?_ | refine kCe ?_ | refine kCo (by decide) ?_ | refine kCs (by simp only [ne_eq];omega) ?_ | refine kCa ?_ | refine kCb (by assumption) ?_ | refine kId ?_ | refine kIs ?_ | refine kIa ?_ | refine kIb (by assumption) ?_)),(by repeat (with_reducible first | assumption | exact kN0 | exact kN1 | (refine kM0 ?_;(simp <;> fail)) | (refine kM1 ?_;(simp <;> fail)) | exact kI0 kN0 | exact kI0 kN1 | (refine kI0 (kM0 ?_);(simp <;> fail)) | (refine kI0 (kM1 ?_);(simp <;> fail)) | refine kCd ?_ | refine kCe ?_ | refine kCo (by decide) ?_ | refine kCs (by simp only [ne_eq];omega) ?_ | refine kCa ?_ | refine kCb (by assumption) ?_ | refine kId ?_ | refine kIs ?_ | refine kIa ?_ | refine kIb (by assumption) ?_))⟩⟩
 case rest =>
  obtain ⟨w2,bX,sX,zX,kX,cX,rfl,rfl,rfl,hbx,hb,⟨fX,hwn⟩,hleX⟩:=hcut;have BX2:=hid hbx;have WX2:=hid hwn
  clear hbx hwn za zb x0 x1 x2 y0 y1 y2 C1 C2 C3;have BA2:=hid (BA1.out.below hb);have BB2:=hid (BB1.out.below hb);have RA2:=hid (RA1.out.below hb);have RB2:=hid (RB1.out.below hb);have HW2:=hid (HW1.out.trans (hb.mono HW1.out.size))
  clear BA1 BB1 RA1 RB1 HW1 hb;obtain ⟨za,x0,x1,x2⟩:=BA2.out;obtain ⟨zb,y0,y1,y2⟩:=BB2.out;have C1:Hid (∀W,Below w2.heap.size w2 W→Calls Tryz.prog 102 #[.agg #[.bool sb,.slice xb nb cb,.slice yb mb db]] W fun e w'=>e=.returned (.agg #[.bool sb,.slice xb nb cb])∧Below W.heap.size W w'):=fun W _=>numer_c sb xb yb nb cb mb db W
  have C2:Hid (∀W,Below w2.heap.size w2 W→Calls Tryz.prog 176 #[.agg #[.bool sa,.slice xa na ca,.slice ya ma da]] W fun e w'=>e=.returned (.agg #[.bool false,.slice ya ma da])∧Below W.heap.size W w'):=fun W _=>denom_c sa xa ya na ca ma da W
  have C3:Hid (∀W,Below w2.heap.size w2 W→Calls Tryz.prog 140 #[.agg #[.bool sb,.slice xb nb cb],.agg #[.bool false,.slice ya ma da]] W fun e w'=>∃r1 p1 k1 c1 q,e=.returned (.tuple #[.agg #[.bool r1,.slice p1 k1 c1],.int .i64 0])∧Below W.heap.size W w'∧Hid (WRes (nb+ma) W w' r1 p1 k1 c1 q∧wv r1 q k1=b.num*a.den)):=fun W hW=>by
   have h1:=(RB2.out.below hW).num;have h2:=(RA2.out.below hW).den
   refine (wMul_c sb false xb ya nb ma cb da fb ga W (by omega) (by omega) h1.cap.1 h2.cap.1 h1.cap.2 h2.cap.2 h1.rd h2.rd h1.lm h2.lm).mono ?_;rintro e w' ⟨r,z,k,e',h,er,rfl,hres,hans⟩;obtain ⟨rfl,hv⟩:=hans.ok ⟨h1.wf,h2.wf⟩;exact ⟨r,z,k,e',h,rfl,hres.res.bel,hres,by rw [hv,h1.val,h2.val]⟩
  go_upto_region 4 with fail
  go_cut [8,9] from 26 to 33 (fun u t wx=>∃(wy:World) (b4:Nat) (s:Bool) (z:Option Addr) (k c:Nat),wy=wx∧u=.pointer (some ⟨b4,0,none⟩)∧t=.int .i64 0∧FlAt (2*L) w2 wy b4 s z k c (b.num*a.den))
  case first =>
   go_region_held3 (fun w'=>w'.cell? ⟨w.heap.size,0,none⟩=some (.bool sa)∧w'.cell? ⟨w.heap.size,1,none⟩=some (.slice xa na ca)∧w'.cell? ⟨w.heap.size,2,none⟩=some (.slice ya ma da)∧w'.cell? ⟨w.heap.size+1,0,none⟩=some (.bool sb)∧w'.cell? ⟨w.heap.size+1,1,none⟩=some (.slice xb nb cb)∧w'.cell? ⟨w.heap.size+1,2,none⟩=some (.slice yb mb db))
    (refine ⟨?_,?_,?_,?_,?_,?_⟩ <;> repeat (with_reducible first | assumption | refine kCd ?_ | refine kCa ?_ | refine kCs (by simp only [ne_eq];omega) ?_ | refine kCb (by assumption) ?_))
    (first
     | (go_at_call 102;with_reducible refine (C1.out _ belA).mono ?_;rintro e v3 ⟨rfl,hb3⟩;have hza:=hb3.size;(try simp at hza);obtain ⟨hc3,hf3⟩:=bcell hb3;(try have q100:w2.heap.size<v3.heap.size:=by omega))
     | (go_at_call 176;with_reducible refine (C2.out _ belA).mono ?_;rintro e v4 ⟨rfl,hb4⟩;have hzb:=hb4.size;(try simp at hzb);obtain ⟨hc4,hf4⟩:=bcell hb4;(try have q100:w2.heap.size<v4.heap.size:=by omega);(try have q102:v3.heap.size<v4.heap.size:=by omega))
     | (go_at_call 140;with_reducible refine (C3.out _ belA).mono ?_;rintro e v5 ⟨r1,p1,k1,c1,q,rfl,hb5,HD⟩;have hzc:=hb5.size;(try simp at hzc);obtain ⟨hc5,hf5⟩:=bcell hb5;(try have q100:w2.heap.size<v5.heap.size:=by omega);(try have q102:v3.heap.size<v5.heap.size:=by omega);(try have q104:v4.heap.size<v5.heap.size:=by omega)))
   all_goals
    go_wp2_with fail
    go_meet
    refine ⟨_,_,r1,p1,k1,c1,rfl,rfl,rfl,prod_of (by assumption) (by assumption) belA HD.out (by repeat (with_reducible first | exact Turned.refl _ _ _ | refine Turned.drew ?_ | refine Turned.alloc ?_ _ | refine Turned.set ?_ (by first | omega | (simp;done) | (simp;omega)) (by first | omega | (simp;done) | (simp;omega)) _)) ⟨(by first | omega | (simp;done) | (simp;omega)),(by repeat (with_reducible first | assumption | exact kN0 | exact kN1 | (refine kM0 ?_;(simp <;> fail)) | (refine kM1 ?_;(simp <;> fail)) | exact kI0 kN0 | exact kI0 kN1 | (refine kI0 (kM0 ?_);(simp <;> fail)) | (refine kI0 (kM1 ?_);(simp <;> fail)) | refine kCd ?_ | refine kCe ?_ | refine kCo (by decide) ?_ | refine kCs (by simp only [ne_eq];omega) ?_ | refine kCa ?_ | refine kCb (by assumption) ?_ | refine kId ?_ | refine kIs ?_ | refine kIa ?_ | refine kIb (by assumption) ?_)),(by repeat (with_reducible first | assumption | exact kN0 | exact kN1 | (refine kM0 ?_;(simp <;> fail)) | (refine kM1 ?_;(simp <;> fail)) | exact kI0 kN0 | exact kI0 kN1 | (refine kI0 (kM0 ?_);(simp <;> fail)) | (refine kI0 (kM1 ?_);(simp <;> fail)) | refine kCd ?_ | refine kCe ?_ | refine kCo (by decide) ?_ | refine kCs (by simp only [ne_eq];omega) ?_ | refine kCa ?_ | refine kCb (by assumption) ?_ | refine kId ?_ | refine kIs ?_ | refine kIa ?_ | refine kIb (by assumption) ?_))⟩⟩
  case rest =>
   obtain ⟨w3,bY,sY,zY,kY,cY,rfl,rfl,rfl,hby,hb,⟨fY,hwy⟩,hleY⟩:=hcut;have BY3:=hid hby;have WY3:=hid hwy
   clear hby hwy za zb x0 x1 x2 y0 y1 y2 C1 C2 C3;have BX3:=hid (BX2.out.below hb);have WX3:=hid (WX2.out.below hb);have HW3:=hid (HW2.out.trans (hb.mono HW2.out.size))
   clear BX2 WX2 HW2 hb;obtain ⟨zx,x0,x1⟩:=BX3.out;obtain ⟨zy,y0,y1⟩:=BY3.out;go_wp2_with fail
   refine (wCmp_c sX sY zX zY kX kY cX cY fX fY _ (by omega) (by omega) WX3.out.rd WY3.out.rd WX3.out.lm WY3.out.lm).mono ?_;rintro e w4 ⟨cc,er,rfl,hb,hcm⟩;have hcc:er=0∧ROrd cc a b:=by
    rcases hcm with ⟨_,h1,h2⟩ | ⟨h1,_⟩
    ·rw [WX3.out.val,WY3.out.val] at h2;exact ⟨h1,rord_of h2⟩
    ·exact absurd ⟨WX3.out.wf,WY3.out.wf⟩ h1
   obtain ⟨rfl,hord⟩:=hcc;have HO:=hid hord;have HW4:=hid (HW3.out.trans (hb.mono HW3.out.size))
   clear hcm hord hb;go_wp2
   go_ret2
   exact ⟨cc,rfl,HW4.out,HO.out⟩
theorem rfrac {v:Int} {s:Bool} {D:Nat} (hv:v=sg s v.natAbs) (hD:0<D) :
  ((v:Rat)/((D:Int):Rat)).num=sg s (v.natAbs/v.natAbs.gcd D)∧((v:Rat)/((D:Int):Rat)).den=D/v.natAbs.gcd D:=by
 have hG:0<v.natAbs.gcd D:=Nat.gcd_pos_of_pos_right _ hD;have e1:v.natAbs/v.natAbs.gcd D*v.natAbs.gcd D=v.natAbs:=Nat.div_mul_cancel (Nat.gcd_dvd_left _ _);have e2:D/v.natAbs.gcd D*v.natAbs.gcd D=D:=Nat.div_mul_cancel (Nat.gcd_dvd_right _ _);have h:=rmake (s:=s) (t:=false) (NA:=v.natAbs/v.natAbs.gcd D) (NB:=D/v.natAbs.gcd D) (G:=v.natAbs.gcd D) (by rw [e2];exact hD) (by rw [e1,e2]);rw [e1,e2,←hv] at h;simpa [sg] using h
theorem radd_frac (a b:Rat):a+b=((a.num*b.den+b.num*a.den:Int):Rat)/(((a.den*b.den:Nat):Int):Rat):=by
 have ha:(a.den:Int)≠0:=by have:=a.den_pos;omega
 have hb:(b.den:Int)≠0:=by have:=b.den_pos;omega
 have h:=Rat.divInt_add_divInt a.num b.num ha hb;rw [Rat.num_divInt_den,Rat.num_divInt_den] at h;rw [h,Rat.divInt_eq_div];simp
theorem rmul_frac (a b:Rat):a*b=((a.num*b.num:Int):Rat)/(((a.den*b.den:Nat):Int):Rat):=by
 have h:=Rat.divInt_mul_divInt a.num b.num (d₁:=a.den) (d₂:=b.den);rw [Rat.num_divInt_den,Rat.num_divInt_den] at h;rw [h,Rat.divInt_eq_div];simp
theorem sub_ord {c:Int} {a b:Rat} (h:Ord c (a-b).num 0):ROrd c a b:=by
 rcases h with ⟨h1,h2⟩ | ⟨h1,h2⟩ | ⟨h1,h2⟩
 ·left;refine ⟨h1,?_⟩
  have:a-b<0:=(Rat.lt_iff _ _).2 (by simp;exact h2)
  grind
 ·right;left;refine ⟨h1,?_⟩
  have:a-b=0:=Rat.num_eq_zero.1 h2
  grind
 ·right;right;refine ⟨h1,?_⟩
  have:0<a-b:=(Rat.lt_iff _ _).2 (by simp;exact h2)
  grind
theorem qbox2 {w:World} (a0 a1 a2 b0 b1 b2:Value) (t:TypeId) :
  Bx3 (((w.alloc (.cells #[a0,a1,a2] t)).alloc (.cells #[b0,b1,b2] t)).alloc (.cells #[.bool false,.slice none 0 0,.slice none 0 0] t)) w.heap.size a0 a1 a2∧Bx3 (((w.alloc (.cells #[a0,a1,a2] t)).alloc (.cells #[b0,b1,b2] t)).alloc (.cells #[.bool false,.slice none 0 0,.slice none 0 0] t)) (w.heap.size+1) b0 b1 b2∧Ob (((w.alloc (.cells #[a0,a1,a2] t)).alloc (.cells #[b0,b1,b2] t)).alloc (.cells #[.bool false,.slice none 0 0,.slice none 0 0] t)) (w.heap.size+1+1)∧Below w.heap.size w (((w.alloc (.cells #[a0,a1,a2] t)).alloc (.cells #[b0,b1,b2] t)).alloc (.cells #[.bool false,.slice none 0 0,.slice none 0 0] t)):=by
 have h1:=bx3_at w a0 a1 a2 t;have h2:=bx3_at (w.alloc (.cells #[a0,a1,a2] t)) b0 b1 b2 t;rw [size_alloc1] at h2;have h3:=ob_new ((w.alloc (.cells #[a0,a1,a2] t)).alloc (.cells #[b0,b1,b2] t)) t;rw [size_alloc1,size_alloc1] at h3;exact ⟨(h1.alloc _).alloc _,h2.alloc _,h3,below_alloc (below_alloc (below_alloc (Below.refl w.heap.size w) _) _) _⟩
theorem mkZn_c {w:World} {z:Option Addr} {k c:Nat} {d:Nat→Int} {V:Nat} (h:Dn w z k d V) (hk:k≤1048576) :
  Calls Tryz.prog 94 #[.bool false,.slice z k c] w fun e w'=>∃r,e=.returned (.agg #[.bool r,.slice z k c])∧Below w.heap.size w w'∧Hid (Zn w' r z k d (V:Int)) :=
 (mkZ_c hk).mono (fun _ _ ⟨r,h1,h2,h3⟩=>⟨r,h1,h2,Zn.of (s:=false) (h.below h2) h3⟩)
theorem mkQn_c {w:World} {s:Bool} {x:Option Addr} {n c:Nat} {d:Nat→Int} {v:Int} {y:Option Addr} {m e:Nat} {g:Nat→Int} {D:Nat} (ha:Zn w s x n d v) (hb:Dn w y m g D) (hn:n≤260000) (hm:m≤260000) (hD:0<D) :
  Calls Tryz.prog 93 #[.agg #[.bool s,.slice x n c],.slice y m e] w fun en w'=>∃s' x' n' c1 d' y' m' c2 g',en=.returned (.agg #[.bool s',.slice x' n' c1,.slice y' m' c2])∧Below w.heap.size w w'∧Hid (n'≤n+2∧m'≤m+2∧Qn w' s' x' n' d' y' m' g' ((v:Rat)/((D:Int):Rat))):=by
 refine (mkQ_c ha.dn hb ha.pos hn hm hD).mono ?_;rintro en w' ⟨r,z,k,c',d',z2,k2,c2,d2,rfl,h2,h3,h4,h5,h6,h7⟩;obtain ⟨e1,e2⟩:=rfrac ha.sgn hD;have hz:=Zn.of h6 h5;rw [←e1] at hz;rw [←e2] at h7;exact ⟨r,z,k,c',d',z2,k2,c2,d2,rfl,h2,h3,h4,hz,h7⟩
theorem Dn.lenK {w x n d V} {K:Nat} (h:Dn w x n d V) (hV:(V:Int)<pd K):n≤K:=by
 by_cases hn:n≤K
 ·exact hn
 ·have h1:=vd_form_ge h.dg h.fm (by omega);have h2:=pd_mono (show K≤n-1 by omega);have h3:=h.val;omega
theorem Dn.ltK {w x n d V} {K:Nat} (h:Dn w x n d V) (hn:n≤K):(V:Int)<pd K:=by
 have h1:=vd_lt h.dg;have h2:=pd_mono hn;have h3:=h.val;omega
theorem zadd_len {w w2 w3 s x n d u s2 x2 n2 d2 v s3 x3 n3 d3} {K:Nat} (ha:Zn w s x n d u) (hb:Zn w2 s2 x2 n2 d2 v) (hc:Zn w3 s3 x3 n3 d3 (u+v)) (h1:n≤K) (h2:n2≤K):n3≤K+1:=by
 have e1:=ha.dn.ltK h1;have e2:=hb.dn.ltK h2;refine hc.dn.lenK ?_;have e3:=Int.natAbs_add_le u v;have e4:=pd_pos K;rw [pd_succ];omega
set_option maxRecDepth 100000 in
set_option maxHeartbeats 16000000 in
theorem qAddW_c {w:World} {sa:Bool} {xa:Option Addr} {na ca:Nat} {da:Nat→Int} {ya:Option Addr} {ma ea:Nat} {ga:Nat→Int} {qa:Rat} {sb:Bool} {xb:Option Addr} {nb cb:Nat} {db:Nat→Int} {yb:Option Addr} {mb eb:Nat} {gb:Nat→Int} {qb:Rat} (ha:Qn w sa xa na da ya ma ga qa) (hb:Qn w sb xb nb db yb mb gb qb) (hna:na+mb≤250000) (hma:nb+ma≤250000) (hnb:ma+mb≤250000) :
  Calls Tryz.prog 82 #[.agg #[.bool sa,.slice xa na ca,.slice ya ma ea],.agg #[.bool sb,.slice xb nb cb,.slice yb mb eb]] w fun e w'=>QAns (na+ma+nb+mb+3) w w' e (qa+qb):=by
 obtain ⟨h1,h2,h3,h4⟩:=qbox2 (w:=w) (.bool sa) (.slice xa na ca) (.slice ya ma ea) (.bool sb) (.slice xb nb cb) (.slice yb mb eb) 89;have h5:=((ha.alloc (.cells #[.bool sa,.slice xa na ca,.slice ya ma ea] 89)).alloc (.cells #[.bool sb,.slice xb nb cb,.slice yb mb eb] 89)).alloc (.cells #[.bool false,.slice none 0 0,.slice none 0 0] 89);have h6:=((hb.alloc (.cells #[.bool sa,.slice xa na ca,.slice ya ma ea] 89)).alloc (.cells #[.bool sb,.slice xb nb cb,.slice yb mb eb] 89)).alloc (.cells #[.bool false,.slice none 0 0,.slice none 0 0] 89);clear ha hb;go_enter Tryz.func82,Tryz.ntmps82;go_wp2_with fail
 generalize ((w.alloc (.cells #[.bool sa,.slice xa na ca,.slice ya ma ea] 89)).alloc (.cells #[.bool sb,.slice xb nb cb,.slice yb mb eb] 89)).alloc (.cells #[.bool false,.slice none 0 0,.slice none 0 0] 89)=w1 at *;have HA:=hid h5;have HB:=hid h6;have OB:=hid h3;have HW:=hid h4
 obtain ⟨za,a0,a1,a2⟩:=h1;obtain ⟨zb,b0,b1,b2⟩:=h2;obtain ⟨hz,z0,z1,z2,zf⟩:=h3;clear h4 h5 h6;have HD:=hid (show 0<qa.den*qb.den from Nat.mul_pos qa.den_pos qb.den_pos);have C1:Hid (∀W,Below w1.heap.size w1 W→Calls Tryz.prog 94 #[.bool false,.slice yb mb eb] W fun e w'=>∃r,e=.returned (.agg #[.bool r,.slice yb mb eb])∧Below W.heap.size W w'∧Hid (Zn w' r yb mb gb (qb.den:Int))):=fun W hW=>mkZn_c (HB.out.den.below hW) (by omega)
 have C2:Hid (∀(W:World) (r:Bool),Below w1.heap.size w1 W→Zn W r yb mb gb (qb.den:Int)→Calls Tryz.prog 112 #[.agg #[.bool sa,.slice xa na ca],.agg #[.bool r,.slice yb mb eb]] W fun e w'=>∃s x n c d,e=.returned (.agg #[.bool s,.slice x n c])∧Below W.heap.size W w'∧Hid (n≤na+mb∧Zn w' s x n d (qa.num*qb.den))):=fun W r hW h=>zMulE_c (HA.out.num.below hW) h (by omega) (by omega)
 have C3:Hid (∀W,Below w1.heap.size w1 W→Calls Tryz.prog 94 #[.bool false,.slice ya ma ea] W fun e w'=>∃r,e=.returned (.agg #[.bool r,.slice ya ma ea])∧Below W.heap.size W w'∧Hid (Zn w' r ya ma ga (qa.den:Int))):=fun W hW=>mkZn_c (HA.out.den.below hW) (by omega)
 have C4:Hid (∀(W:World) (r:Bool),Below w1.heap.size w1 W→Zn W r ya ma ga (qa.den:Int)→Calls Tryz.prog 112 #[.agg #[.bool sb,.slice xb nb cb],.agg #[.bool r,.slice ya ma ea]] W fun e w'=>∃s x n c d,e=.returned (.agg #[.bool s,.slice x n c])∧Below W.heap.size W w'∧Hid (n≤nb+ma∧Zn w' s x n d (qb.num*qa.den))):=fun W r hW h=>zMulE_c (HB.out.num.below hW) h (by omega) (by omega)
 have C5:Hid (∀(W:World) (s5:Bool) (x5:Option Addr) (n5 c5:Nat) (d5:Nat→Int) (s6:Bool) (x6:Option Addr) (n6 c6:Nat) (d6:Nat→Int),n5≤na+mb→n6≤nb+ma→Zn W s5 x5 n5 d5 (qa.num*qb.den)→Zn W s6 x6 n6 d6 (qb.num*qa.den)→Calls Tryz.prog 119 #[.agg #[.bool s5,.slice x5 n5 c5],.agg #[.bool s6,.slice x6 n6 c6]] W fun e w'=>∃s x n c d,e=.returned (.agg #[.bool s,.slice x n c])∧Below W.heap.size W w'∧Hid (n≤min (na+ma+nb+mb+1) 250001∧Zn w' s x n d (qa.num*qb.den+qb.num*qa.den))):=fun W s5 x5 n5 c5 d5 s6 x6 n6 c6 d6 h1 h2 h3 h4=>(zAdd_c h3 h4 (by omega) (by omega)).mono (fun _ _ ⟨s,x,n,c,d,k1,k2,k3,k4⟩=>⟨s,x,n,c,d,k1,k2,by have:=zadd_len (K:=250000) h3 h4 k4 (by omega) (by omega);omega,k4⟩)
 have C6:Hid (∀W,Below w1.heap.size w1 W→Calls Tryz.prog 95 #[.slice ya ma ea,.slice yb mb eb] W fun e w'=>∃z k c' q,e=.returned (.slice z k c')∧Below W.heap.size W w'∧Hid (k≤ma+mb∧Dn w' z k q (qa.den*qb.den))):=fun W hW=>dMul_c (HA.out.den.below hW) (HB.out.den.below hW) (by omega) (by omega)
 have C7:Hid (∀(W:World) (s:Bool) (x:Option Addr) (n c:Nat) (d:Nat→Int) (y:Option Addr) (m e:Nat) (g:Nat→Int),n≤min (na+ma+nb+mb+1) 250001→m≤ma+mb→Zn W s x n d (qa.num*qb.den+qb.num*qa.den)→Dn W y m g (qa.den*qb.den)→Calls Tryz.prog 93 #[.agg #[.bool s,.slice x n c],.slice y m e] W fun en w'=>∃s' x' n' c1 d' y' m' c2 g',en=.returned (.agg #[.bool s',.slice x' n' c1,.slice y' m' c2])∧Below W.heap.size W w'∧Hid (n'≤na+ma+nb+mb+3∧m'≤na+ma+nb+mb+3∧Qn w' s' x' n' d' y' m' g' (qa+qb))):=fun W s x n c d y m e g h1 h2 h3 h4=>(mkQn_c h3 h4 (by omega) (by omega) HD.out).mono (fun _ _ ⟨s',x',n',c1,d',y',m',c2,g',k1,k2,k3,k4,k5⟩=>⟨s',x',n',c1,d',y',m',c2,g',k1,k2,by omega,by omega,by rw [radd_frac];exact k5⟩)
 go_region_held3 (fun w'=>w'.cell? ⟨w.heap.size,0,none⟩=some (.bool sa)∧w'.cell? ⟨w.heap.size,1,none⟩=some (.slice xa na ca)∧w'.cell? ⟨w.heap.size,2,none⟩=some (.slice ya ma ea)∧w'.cell? ⟨w.heap.size+1,0,none⟩=some (.bool sb)∧w'.cell? ⟨w.heap.size+1,1,none⟩=some (.slice xb nb cb)∧w'.cell? ⟨w.heap.size+1,2,none⟩=some (.slice yb mb eb)∧(w'.cell? ⟨w.heap.size+1+1,0,none⟩).isSome=true∧(w'.cell? ⟨w.heap.size+1+1,1,none⟩).isSome=true∧(w'.cell? ⟨w.heap.size+1+1,2,none⟩).isSome=true∧w'.frozen? ⟨w.heap.size+1+1,0,none⟩=false∧w'.frozen? ⟨w.heap.size+1+1,1,none⟩=false∧w'.frozen? ⟨w.heap.size+1+1,2,none⟩=false)
  (refine ⟨?_,?_,?_,?_,?_,?_,?_,?_,?_,?_,?_,?_⟩ <;> repeat (with_reducible first | assumption | exact zf _ | exact tf _ | exact uf _ | exact vf _ | exact rf _ | exact of _ | exact kf _ | exact pf _ | exact kI0 z0 | exact kI0 z1 | exact kI0 z2 | exact kI0 t0 | exact kI0 t1 | exact kI0 t2 | exact kI0 u0 | exact kI0 u1 | exact kI0 u2 | exact kI0 v0 | exact kI0 v1 | exact kI0 v2 | exact kI0 r0 | exact kI0 r1 | exact kI0 r2 | exact kI0 o0 | exact kI0 o1 | exact kI0 o2 | exact kI0 k0 | exact kI0 k1 | exact kI0 k2 | exact kI0 p0 | exact kI0 p1 | exact kI0 p2 | refine kCd ?_ | refine kId ?_ | refine kFd ?_ | refine kCs (by simp only [ne_eq];omega) ?_ | refine kIs ?_ | refine kFs ?_ | refine kCb (by assumption) ?_ | refine kIb (by assumption) ?_))
  (first
   | (go_at_call 94;with_reducible refine (C1.out _ belB).mono ?_;rintro e v1 ⟨r1,rfl,hv1,H1⟩;have Tt:Ob v1 (w.heap.size+1+1):=(by repeat (with_reducible first | exact OB.out | exact Tt | exact Tu | exact Tv | exact Tr | exact To | exact Tk | exact Tp | refine Ob.drew ?_ | refine kOb (by assumption) ?_));obtain ⟨_,t0,t1,t2,tf⟩:=id Tt)
   | (go_at_call 112;with_reducible refine (C2.out _ r1 belB (by repeat (with_reducible first | exact H1.out | refine kZd ?_ | refine kZb (by assumption) ?_))).mono ?_;rintro e v2 ⟨s2,x2,n2,c2,d2,rfl,hv2,H2⟩;have Tu:Ob v2 (w.heap.size+1+1):=(by repeat (with_reducible first | exact OB.out | exact Tt | exact Tu | exact Tv | exact Tr | exact To | exact Tk | exact Tp | refine Ob.drew ?_ | refine kOb (by assumption) ?_));obtain ⟨_,u0,u1,u2,uf⟩:=id Tu)
   | (go_at_call 94;with_reducible refine (C3.out _ belB).mono ?_;rintro e v3 ⟨r3,rfl,hv3,H3⟩;have Tv:Ob v3 (w.heap.size+1+1):=(by repeat (with_reducible first | exact OB.out | exact Tt | exact Tu | exact Tv | exact Tr | exact To | exact Tk | exact Tp | refine Ob.drew ?_ | refine kOb (by assumption) ?_));obtain ⟨_,v0,v1,v2,vf⟩:=id Tv)
   | (go_at_call 112;with_reducible refine (C4.out _ r3 belB (by repeat (with_reducible first | exact H3.out | refine kZd ?_ | refine kZb (by assumption) ?_))).mono ?_;rintro e v4 ⟨s4,x4,n4,c4,d4,rfl,hv4,H4⟩;have Tr:Ob v4 (w.heap.size+1+1):=(by repeat (with_reducible first | exact OB.out | exact Tt | exact Tu | exact Tv | exact Tr | exact To | exact Tk | exact Tp | refine Ob.drew ?_ | refine kOb (by assumption) ?_));obtain ⟨_,r0,r1,r2,rf⟩:=id Tr)
   | (go_at_call 119;with_reducible refine (C5.out _ s2 x2 n2 c2 d2 s4 x4 n4 c4 d4 H2.out.1 H4.out.1 (by repeat (with_reducible first | exact H2.out.2 | refine kZd ?_ | refine kZb (by assumption) ?_)) (by repeat (with_reducible first | exact H4.out.2 | refine kZd ?_ | refine kZb (by assumption) ?_))).mono ?_;rintro e v5 ⟨s5,x5,n5,c5,d5,rfl,hv5,H5⟩;have To:Ob v5 (w.heap.size+1+1):=(by repeat (with_reducible first | exact OB.out | exact Tt | exact Tu | exact Tv | exact Tr | exact To | exact Tk | exact Tp | refine Ob.drew ?_ | refine kOb (by assumption) ?_));obtain ⟨_,o0,o1,o2,of⟩:=id To)
   | (go_at_call 95;with_reducible refine (C6.out _ belB).mono ?_;rintro e v6 ⟨z6,k6,c6,d6,rfl,hv6,H6⟩;have Tk:Ob v6 (w.heap.size+1+1):=(by repeat (with_reducible first | exact OB.out | exact Tt | exact Tu | exact Tv | exact Tr | exact To | exact Tk | exact Tp | refine Ob.drew ?_ | refine kOb (by assumption) ?_));obtain ⟨_,k0,k1,k2,kf⟩:=id Tk)
   | (go_at_call 93;with_reducible refine (C7.out _ s5 x5 n5 c5 d5 z6 k6 c6 d6 H5.out.1 H6.out.1 (by repeat (with_reducible first | exact H5.out.2 | refine kZd ?_ | refine kZb (by assumption) ?_)) (by repeat (with_reducible first | exact H6.out.2 | refine Dn.drew ?_ | refine kDb (by assumption) ?_))).mono ?_;rintro e v8 ⟨s8,x8,n8,c8,d8,y8,m8,e8,g8,rfl,hv8,H8⟩;have Tp:Ob v8 (w.heap.size+1+1):=(by repeat (with_reducible first | exact OB.out | exact Tt | exact Tu | exact Tv | exact Tr | exact To | exact Tk | exact Tp | refine Ob.drew ?_ | refine kOb (by assumption) ?_));obtain ⟨_,p0,p1,p2,pf⟩:=id Tp))
 all_goals
  have hb:Below w1.heap.size w1 v8:=belB;go_wp2;exact bodyPost_ret (v:=.agg #[.bool s8,.slice x8 n8 c8,.slice y8 m8 e8]) (by simp [results,Tryz.results82,go_sem,p0,p1,p2]) rfl ⟨s8,x8,n8,c8,d8,y8,m8,e8,g8,rfl,below_st (HW.out.trans (hb.mono HW.out.size)) (by omega),H8.out.1,H8.out.2.1,Tp.qn H8.out.2.2⟩
theorem qAdd_c {w:World} {sa:Bool} {xa:Option Addr} {na ca:Nat} {da:Nat→Int} {ya:Option Addr} {ma ea:Nat} {ga:Nat→Int} {qa:Rat} {sb:Bool} {xb:Option Addr} {nb cb:Nat} {db:Nat→Int} {yb:Option Addr} {mb eb:Nat} {gb:Nat→Int} {qb:Rat} (ha:Qn w sa xa na da ya ma ga qa) (hb:Qn w sb xb nb db yb mb gb qb) (hna:na≤120000) (hma:ma≤120000) (hnb:nb≤120000) (hmb:mb≤120000) :
  Calls Tryz.prog 82 #[.agg #[.bool sa,.slice xa na ca,.slice ya ma ea],.agg #[.bool sb,.slice xb nb cb,.slice yb mb eb]] w fun e w'=>QAns (na+ma+nb+mb+3) w w' e (qa+qb):=qAddW_c ha hb (by omega) (by omega) (by omega)
set_option maxRecDepth 100000 in
set_option maxHeartbeats 16000000 in
theorem qSubW_c {w:World} {sa:Bool} {xa:Option Addr} {na ca:Nat} {da:Nat→Int} {ya:Option Addr} {ma ea:Nat} {ga:Nat→Int} {qa:Rat} {sb:Bool} {xb:Option Addr} {nb cb:Nat} {db:Nat→Int} {yb:Option Addr} {mb eb:Nat} {gb:Nat→Int} {qb:Rat} (ha:Qn w sa xa na da ya ma ga qa) (hb:Qn w sb xb nb db yb mb gb qb) (hna:na+mb≤250000) (hma:nb+ma≤250000) (hnb:ma+mb≤250000) :
  Calls Tryz.prog 72 #[.agg #[.bool sa,.slice xa na ca,.slice ya ma ea],.agg #[.bool sb,.slice xb nb cb,.slice yb mb eb]] w fun e w'=>QAns (na+ma+nb+mb+3) w w' e (qa-qb):=by
 obtain ⟨h1,h2,h3,h4⟩:=qbox2 (w:=w) (.bool sa) (.slice xa na ca) (.slice ya ma ea) (.bool sb) (.slice xb nb cb) (.slice yb mb eb) 89;have h5:=((ha.alloc (.cells #[.bool sa,.slice xa na ca,.slice ya ma ea] 89)).alloc (.cells #[.bool sb,.slice xb nb cb,.slice yb mb eb] 89)).alloc (.cells #[.bool false,.slice none 0 0,.slice none 0 0] 89);have h6:=((hb.alloc (.cells #[.bool sa,.slice xa na ca,.slice ya ma ea] 89)).alloc (.cells #[.bool sb,.slice xb nb cb,.slice yb mb eb] 89)).alloc (.cells #[.bool false,.slice none 0 0,.slice none 0 0] 89);clear ha hb;go_enter Tryz.func72,Tryz.ntmps72;go_wp2_with fail
 generalize ((w.alloc (.cells #[.bool sa,.slice xa na ca,.slice ya ma ea] 89)).alloc (.cells #[.bool sb,.slice xb nb cb,.slice yb mb eb] 89)).alloc (.cells #[.bool false,.slice none 0 0,.slice none 0 0] 89)=w1 at *;have HA:=hid h5;have HB:=hid h6;have OB:=hid h3;have HW:=hid h4
 obtain ⟨za,a0,a1,a2⟩:=h1;obtain ⟨zb,b0,b1,b2⟩:=h2;obtain ⟨hz,z0,z1,z2,zf⟩:=h3;clear h4 h5 h6;have C1:Hid (∀W,Below w1.heap.size w1 W→Calls Tryz.prog 111 #[.agg #[.bool sb,.slice xb nb cb,.slice yb mb eb]] W fun en w'=>∃s' c',en=.returned (.agg #[.bool s',.slice xb nb c',.slice yb mb eb])∧Below W.heap.size W w'∧Hid (Qn w' s' xb nb db yb mb gb (-qb))):=fun W hW=>qNeg_c (HB.out.below hW) (by omega)
 have C2:Hid (∀(W:World) (s:Bool) (c:Nat),Below w1.heap.size w1 W→Qn W s xb nb db yb mb gb (-qb)→Calls Tryz.prog 82 #[.agg #[.bool sa,.slice xa na ca,.slice ya ma ea],.agg #[.bool s,.slice xb nb c,.slice yb mb eb]] W fun en w'=>∃s' x' n' c1 d' y' m' c2 g',en=.returned (.agg #[.bool s',.slice x' n' c1,.slice y' m' c2])∧Below W.heap.size W w'∧Hid (n'≤na+ma+nb+mb+3∧m'≤na+ma+nb+mb+3∧Qn w' s' x' n' d' y' m' g' (qa-qb))):=fun W s c hW h=>(qAddW_c (HA.out.below hW) h hna hma hnb).mono (fun _ _ ⟨s',x',n',c1,d',y',m',c2,g',k1,k2,k3,k4,k5⟩=>⟨s',x',n',c1,d',y',m',c2,g',k1,k2,k3,k4,by rw [Rat.sub_eq_add_neg];exact k5⟩)
 go_region_held3 (fun w'=>w'.cell? ⟨w.heap.size,0,none⟩=some (.bool sa)∧w'.cell? ⟨w.heap.size,1,none⟩=some (.slice xa na ca)∧w'.cell? ⟨w.heap.size,2,none⟩=some (.slice ya ma ea)∧w'.cell? ⟨w.heap.size+1,0,none⟩=some (.bool sb)∧w'.cell? ⟨w.heap.size+1,1,none⟩=some (.slice xb nb cb)∧w'.cell? ⟨w.heap.size+1,2,none⟩=some (.slice yb mb eb)∧(w'.cell? ⟨w.heap.size+1+1,0,none⟩).isSome=true∧(w'.cell? ⟨w.heap.size+1+1,1,none⟩).isSome=true∧(w'.cell? ⟨w.heap.size+1+1,2,none⟩).isSome=true∧w'.frozen? ⟨w.heap.size+1+1,0,none⟩=false∧w'.frozen? ⟨w.heap.size+1+1,1,none⟩=false∧w'.frozen? ⟨w.heap.size+1+1,2,none⟩=false)
  (refine ⟨?_,?_,?_,?_,?_,?_,?_,?_,?_,?_,?_,?_⟩ <;> repeat (with_reducible first | assumption | exact zf _ | exact tf _ | exact pf _ | exact kI0 z0 | exact kI0 z1 | exact kI0 z2 | exact kI0 t0 | exact kI0 t1 | exact kI0 t2 | exact kI0 p0 | exact kI0 p1 | exact kI0 p2 | refine kCd ?_ | refine kId ?_ | refine kFd ?_ | refine kCs (by simp only [ne_eq];omega) ?_ | refine kIs ?_ | refine kFs ?_ | refine kCb (by assumption) ?_ | refine kIb (by assumption) ?_))
  (first
   | (go_at_call 111;with_reducible refine (C1.out _ belB).mono ?_;rintro e v1 ⟨r1,k1,rfl,hv1,H1⟩;have Tt:Ob v1 (w.heap.size+1+1):=(by repeat (with_reducible first | exact OB.out | exact Tt | exact Tu | exact Tv | exact Tr | exact To | exact Tk | exact Tp | refine Ob.drew ?_ | refine kOb (by assumption) ?_));obtain ⟨_,t0,t1,t2,tf⟩:=id Tt)
   | (go_at_call 82;with_reducible refine (C2.out _ r1 k1 belB (by repeat (with_reducible first | exact H1.out | refine kQd ?_ | refine kQb (by assumption) ?_))).mono ?_;rintro e v8 ⟨s8,x8,n8,c8,d8,y8,m8,e8,g8,rfl,hv8,H8⟩;have Tp:Ob v8 (w.heap.size+1+1):=(by repeat (with_reducible first | exact OB.out | exact Tt | exact Tu | exact Tv | exact Tr | exact To | exact Tk | exact Tp | refine Ob.drew ?_ | refine kOb (by assumption) ?_));obtain ⟨_,p0,p1,p2,pf⟩:=id Tp))
 all_goals
  have hb:Below w1.heap.size w1 v8:=belB;go_wp2;exact bodyPost_ret (v:=.agg #[.bool s8,.slice x8 n8 c8,.slice y8 m8 e8]) (by simp [results,Tryz.results72,go_sem,p0,p1,p2]) rfl ⟨s8,x8,n8,c8,d8,y8,m8,e8,g8,rfl,below_st (HW.out.trans (hb.mono HW.out.size)) (by omega),H8.out.1,H8.out.2.1,Tp.qn H8.out.2.2⟩
theorem qSub_c {w:World} {sa:Bool} {xa:Option Addr} {na ca:Nat} {da:Nat→Int} {ya:Option Addr} {ma ea:Nat} {ga:Nat→Int} {qa:Rat} {sb:Bool} {xb:Option Addr} {nb cb:Nat} {db:Nat→Int} {yb:Option Addr} {mb eb:Nat} {gb:Nat→Int} {qb:Rat} (ha:Qn w sa xa na da ya ma ga qa) (hb:Qn w sb xb nb db yb mb gb qb) (hna:na≤120000) (hma:ma≤120000) (hnb:nb≤120000) (hmb:mb≤120000) :
  Calls Tryz.prog 72 #[.agg #[.bool sa,.slice xa na ca,.slice ya ma ea],.agg #[.bool sb,.slice xb nb cb,.slice yb mb eb]] w fun e w'=>QAns (na+ma+nb+mb+3) w w' e (qa-qb):=qSubW_c ha hb (by omega) (by omega) (by omega)
set_option maxRecDepth 100000 in
set_option maxHeartbeats 4000000 in
theorem qCmpW_c {w:World} {sa:Bool} {xa:Option Addr} {na ca:Nat} {da:Nat→Int} {ya:Option Addr} {ma ea:Nat} {ga:Nat→Int} {qa:Rat} {sb:Bool} {xb:Option Addr} {nb cb:Nat} {db:Nat→Int} {yb:Option Addr} {mb eb:Nat} {gb:Nat→Int} {qb:Rat} (ha:Qn w sa xa na da ya ma ga qa) (hb:Qn w sb xb nb db yb mb gb qb) (hna:na+mb≤250000) (hma:nb+ma≤250000) (hnb:ma+mb≤250000) :
  Calls Tryz.prog 127 #[.agg #[.bool sa,.slice xa na ca,.slice ya ma ea],.agg #[.bool sb,.slice xb nb cb,.slice yb mb eb]] w fun e w'=>∃c,e=.returned (.int .i64 c)∧Below w.heap.size w w'∧ROrd c qa qb:=by
 have h1:=bx3_at w (.bool sa) (.slice xa na ca) (.slice ya ma ea) 89;have h2:=bx3_at (w.alloc (.cells #[.bool sa,.slice xa na ca,.slice ya ma ea] 89)) (.bool sb) (.slice xb nb cb) (.slice yb mb eb) 89;rw [size_alloc1] at h2;have h1:=h1.alloc (.cells #[.bool sb,.slice xb nb cb,.slice yb mb eb] 89);have h4:=below_alloc (below_alloc (Below.refl w.heap.size w) (.cells #[.bool sa,.slice xa na ca,.slice ya ma ea] 89)) (.cells #[.bool sb,.slice xb nb cb,.slice yb mb eb] 89);have h5:=(ha.alloc (.cells #[.bool sa,.slice xa na ca,.slice ya ma ea] 89)).alloc (.cells #[.bool sb,.slice xb nb cb,.slice yb mb eb] 89);have h6:=(hb.alloc (.cells #[.bool sa,.slice xa na ca,.slice ya ma ea] 89)).alloc (.cells #[.bool sb,.slice xb nb cb,.slice yb mb eb] 89);clear ha hb;go_enter Tryz.func127,Tryz.ntmps127;go_wp2_with fail
 generalize (w.alloc (.cells #[.bool sa,.slice xa na ca,.slice ya ma ea] 89)).alloc (.cells #[.bool sb,.slice xb nb cb,.slice yb mb eb] 89)=w1 at *;refine (qSubW_c h5 h6 hna hma hnb).mono ?_;rintro en w2 ⟨s,x,n,c,d,y,m,c',g,rfl,hb,hl1,hl2,hq⟩;have HQ:=hid hq;have HB:=hid (h4.trans (hb.mono h4.size))
 clear h1 h2 h4 h5 h6 hb hq;go_wp2_with fail
 refine (qSign_c HQ.out (by omega)).mono ?_;rintro en w3 ⟨cc,rfl,hb,ho⟩;have HO:=hid ho;have HB3:=hid (HB.out.trans (hb.mono HB.out.size))
 clear hb ho;go_wp2;go_ret;exact ⟨cc,rfl,HB3.out,sub_ord HO.out⟩
theorem qCmp_c {w:World} {sa:Bool} {xa:Option Addr} {na ca:Nat} {da:Nat→Int} {ya:Option Addr} {ma ea:Nat} {ga:Nat→Int} {qa:Rat} {sb:Bool} {xb:Option Addr} {nb cb:Nat} {db:Nat→Int} {yb:Option Addr} {mb eb:Nat} {gb:Nat→Int} {qb:Rat} (ha:Qn w sa xa na da ya ma ga qa) (hb:Qn w sb xb nb db yb mb gb qb) (hna:na≤120000) (hma:ma≤120000) (hnb:nb≤120000) (hmb:mb≤120000) :
  Calls Tryz.prog 127 #[.agg #[.bool sa,.slice xa na ca,.slice ya ma ea],.agg #[.bool sb,.slice xb nb cb,.slice yb mb eb]] w fun e w'=>∃c,e=.returned (.int .i64 c)∧Below w.heap.size w w'∧ROrd c qa qb:=qCmpW_c ha hb (by omega) (by omega) (by omega)
theorem rquo_frac {a b:Rat} {s t:Bool} (ha:a.num=sg s a.num.natAbs) (hb:b.num=sg t b.num.natAbs) (h0:0<b.num.natAbs):a/b=((sg (!(s==t)) (a.num.natAbs*b.den):Int):Rat)/(((a.den*b.num.natAbs:Nat):Int):Rat):=by
 obtain ⟨e1,e2⟩:=rinv hb h0;rw [Rat.div_def,rmul_frac,e1,e2];have e3:a.num*sg t b.den=sg (s != t) (a.num.natAbs*b.den):=by
  have:=sg_mul s t a.num.natAbs b.den;rw [←ha] at this;exact this
 rw [e3];have e4:(s != t)=!(s==t):=by cases s <;> cases t <;> rfl
 rw [e4]
set_option maxRecDepth 100000 in
set_option maxHeartbeats 16000000 in
theorem qMul_c {w:World} {sa:Bool} {xa:Option Addr} {na ca:Nat} {da:Nat→Int} {ya:Option Addr} {ma ea:Nat} {ga:Nat→Int} {qa:Rat} {sb:Bool} {xb:Option Addr} {nb cb:Nat} {db:Nat→Int} {yb:Option Addr} {mb eb:Nat} {gb:Nat→Int} {qb:Rat} (ha:Qn w sa xa na da ya ma ga qa) (hb:Qn w sb xb nb db yb mb gb qb) (hna:na≤32000) (hma:ma≤32000) (hnb:nb≤32000) (hmb:mb≤32000) :
  Calls Tryz.prog 73 #[.agg #[.bool sa,.slice xa na ca,.slice ya ma ea],.agg #[.bool sb,.slice xb nb cb,.slice yb mb eb]] w fun e w'=>QAns (na+ma+nb+mb+3) w w' e (qa*qb):=by
 obtain ⟨h1,h2,h3,h4⟩:=qbox2 (w:=w) (.bool sa) (.slice xa na ca) (.slice ya ma ea) (.bool sb) (.slice xb nb cb) (.slice yb mb eb) 89;have h5:=((ha.alloc (.cells #[.bool sa,.slice xa na ca,.slice ya ma ea] 89)).alloc (.cells #[.bool sb,.slice xb nb cb,.slice yb mb eb] 89)).alloc (.cells #[.bool false,.slice none 0 0,.slice none 0 0] 89);have h6:=((hb.alloc (.cells #[.bool sa,.slice xa na ca,.slice ya ma ea] 89)).alloc (.cells #[.bool sb,.slice xb nb cb,.slice yb mb eb] 89)).alloc (.cells #[.bool false,.slice none 0 0,.slice none 0 0] 89);clear ha hb;go_enter Tryz.func73,Tryz.ntmps73;go_wp2_with fail
 generalize ((w.alloc (.cells #[.bool sa,.slice xa na ca,.slice ya ma ea] 89)).alloc (.cells #[.bool sb,.slice xb nb cb,.slice yb mb eb] 89)).alloc (.cells #[.bool false,.slice none 0 0,.slice none 0 0] 89)=w1 at *;have HA:=hid h5;have HB:=hid h6;have OB:=hid h3;have HW:=hid h4
 obtain ⟨za,a0,a1,a2⟩:=h1;obtain ⟨zb,b0,b1,b2⟩:=h2;obtain ⟨hz,z0,z1,z2,zf⟩:=h3;clear h4 h5 h6;have HD:=hid (show 0<qa.den*qb.den from Nat.mul_pos qa.den_pos qb.den_pos);have C2:Hid (∀(W:World),Below w1.heap.size w1 W→Calls Tryz.prog 112 #[.agg #[.bool sa,.slice xa na ca],.agg #[.bool sb,.slice xb nb cb]] W fun e w'=>∃s x n c d,e=.returned (.agg #[.bool s,.slice x n c])∧Below W.heap.size W w'∧Hid (n≤na+nb∧Zn w' s x n d (qa.num*qb.num))):=fun W hW=>zMulE_c (HA.out.num.below hW) (HB.out.num.below hW) (by omega) (by omega)
 have C6:Hid (∀W,Below w1.heap.size w1 W→Calls Tryz.prog 95 #[.slice ya ma ea,.slice yb mb eb] W fun e w'=>∃z k c' q,e=.returned (.slice z k c')∧Below W.heap.size W w'∧Hid (k≤ma+mb∧Dn w' z k q (qa.den*qb.den))):=fun W hW=>dMul_c (HA.out.den.below hW) (HB.out.den.below hW) (by omega) (by omega)
 have C7:Hid (∀(W:World) (s:Bool) (x:Option Addr) (n c:Nat) (d:Nat→Int) (y:Option Addr) (m e:Nat) (g:Nat→Int),n≤na+nb→m≤ma+mb→Zn W s x n d (qa.num*qb.num)→Dn W y m g (qa.den*qb.den)→Calls Tryz.prog 93 #[.agg #[.bool s,.slice x n c],.slice y m e] W fun en w'=>∃s' x' n' c1 d' y' m' c2 g',en=.returned (.agg #[.bool s',.slice x' n' c1,.slice y' m' c2])∧Below W.heap.size W w'∧Hid (n'≤na+ma+nb+mb+3∧m'≤na+ma+nb+mb+3∧Qn w' s' x' n' d' y' m' g' (qa*qb))):=fun W s x n c d y m e g h1 h2 h3 h4=>(mkQn_c h3 h4 (by omega) (by omega) HD.out).mono (fun _ _ ⟨s',x',n',c1,d',y',m',c2,g',k1,k2,k3,k4,k5⟩=>⟨s',x',n',c1,d',y',m',c2,g',k1,k2,by omega,by omega,by rw [rmul_frac];exact k5⟩)
 go_region_held3 (fun w'=>w'.cell? ⟨w.heap.size,0,none⟩=some (.bool sa)∧w'.cell? ⟨w.heap.size,1,none⟩=some (.slice xa na ca)∧w'.cell? ⟨w.heap.size,2,none⟩=some (.slice ya ma ea)∧w'.cell? ⟨w.heap.size+1,0,none⟩=some (.bool sb)∧w'.cell? ⟨w.heap.size+1,1,none⟩=some (.slice xb nb cb)∧w'.cell? ⟨w.heap.size+1,2,none⟩=some (.slice yb mb eb)∧(w'.cell? ⟨w.heap.size+1+1,0,none⟩).isSome=true∧(w'.cell? ⟨w.heap.size+1+1,1,none⟩).isSome=true∧(w'.cell? ⟨w.heap.size+1+1,2,none⟩).isSome=true∧w'.frozen? ⟨w.heap.size+1+1,0,none⟩=false∧w'.frozen? ⟨w.heap.size+1+1,1,none⟩=false∧w'.frozen? ⟨w.heap.size+1+1,2,none⟩=false)
  (refine ⟨?_,?_,?_,?_,?_,?_,?_,?_,?_,?_,?_,?_⟩ <;> repeat (with_reducible first | assumption | exact zf _ | exact uf _ | exact kf _ | exact pf _ | exact kI0 z0 | exact kI0 z1 | exact kI0 z2 | exact kI0 u0 | exact kI0 u1 | exact kI0 u2 | exact kI0 k0 | exact kI0 k1 | exact kI0 k2 | exact kI0 p0 | exact kI0 p1 | exact kI0 p2 | refine kCd ?_ | refine kId ?_ | refine kFd ?_ | refine kCs (by simp only [ne_eq];omega) ?_ | refine kIs ?_ | refine kFs ?_ | refine kCb (by assumption) ?_ | refine kIb (by assumption) ?_))
  (first
   | (go_at_call 112;with_reducible refine (C2.out _ belB).mono ?_;rintro e v2 ⟨s2,x2,n2,c2,d2,rfl,hv2,H2⟩;have Tu:Ob v2 (w.heap.size+1+1):=(by repeat (with_reducible first | exact OB.out | exact Tt | exact Tu | exact Tk | exact Tp | refine Ob.drew ?_ | refine kOb (by assumption) ?_));obtain ⟨_,u0,u1,u2,uf⟩:=id Tu)
   | (go_at_call 95;with_reducible refine (C6.out _ belB).mono ?_;rintro e v6 ⟨z6,k6,c6,d6,rfl,hv6,H6⟩;have Tk:Ob v6 (w.heap.size+1+1):=(by repeat (with_reducible first | exact OB.out | exact Tt | exact Tu | exact Tk | exact Tp | refine Ob.drew ?_ | refine kOb (by assumption) ?_));obtain ⟨_,k0,k1,k2,kf⟩:=id Tk)
   | (go_at_call 93;with_reducible refine (C7.out _ s2 x2 n2 c2 d2 z6 k6 c6 d6 H2.out.1 H6.out.1 (by repeat (with_reducible first | exact H2.out.2 | refine kZd ?_ | refine kZb (by assumption) ?_)) (by repeat (with_reducible first | exact H6.out.2 | refine Dn.drew ?_ | refine kDb (by assumption) ?_))).mono ?_;rintro e v8 ⟨s8,x8,n8,c8,d8,y8,m8,e8,g8,rfl,hv8,H8⟩;have Tp:Ob v8 (w.heap.size+1+1):=(by repeat (with_reducible first | exact OB.out | exact Tt | exact Tu | exact Tk | exact Tp | refine Ob.drew ?_ | refine kOb (by assumption) ?_));obtain ⟨_,p0,p1,p2,pf⟩:=id Tp))
 all_goals
  have hb:Below w1.heap.size w1 v8:=belB;go_wp2;exact bodyPost_ret (v:=.agg #[.bool s8,.slice x8 n8 c8,.slice y8 m8 e8]) (by simp [results,Tryz.results73,go_sem,p0,p1,p2]) rfl ⟨s8,x8,n8,c8,d8,y8,m8,e8,g8,rfl,below_st (HW.out.trans (hb.mono HW.out.size)) (by omega),H8.out.1,H8.out.2.1,Tp.qn H8.out.2.2⟩
set_option maxRecDepth 100000 in
set_option maxHeartbeats 16000000 in
theorem qQuo_c {w:World} {sa:Bool} {xa:Option Addr} {na ca:Nat} {da:Nat→Int} {ya:Option Addr} {ma ea:Nat} {ga:Nat→Int} {qa:Rat} {sb:Bool} {xb:Option Addr} {nb cb:Nat} {db:Nat→Int} {yb:Option Addr} {mb eb:Nat} {gb:Nat→Int} {qb:Rat} (ha:Qn w sa xa na da ya ma ga qa) (hb:Qn w sb xb nb db yb mb gb qb) (hna:na≤32000) (hma:ma≤32000) (hnb:nb≤32000) (hmb:mb≤32000) (hq0:qb.num≠0) :
  Calls Tryz.prog 55 #[.agg #[.bool sa,.slice xa na ca,.slice ya ma ea],.agg #[.bool sb,.slice xb nb cb,.slice yb mb eb]] w fun e w'=>QAns (na+ma+nb+mb+3) w w' e (qa/qb):=by
 obtain ⟨h1,h2,h3,h4⟩:=qbox2 (w:=w) (.bool sa) (.slice xa na ca) (.slice ya ma ea) (.bool sb) (.slice xb nb cb) (.slice yb mb eb) 89;have h5:=((ha.alloc (.cells #[.bool sa,.slice xa na ca,.slice ya ma ea] 89)).alloc (.cells #[.bool sb,.slice xb nb cb,.slice yb mb eb] 89)).alloc (.cells #[.bool false,.slice none 0 0,.slice none 0 0] 89);have h6:=((hb.alloc (.cells #[.bool sa,.slice xa na ca,.slice ya ma ea] 89)).alloc (.cells #[.bool sb,.slice xb nb cb,.slice yb mb eb] 89)).alloc (.cells #[.bool false,.slice none 0 0,.slice none 0 0] 89);clear ha hb;go_enter Tryz.func55,Tryz.ntmps55;go_wp2_with fail
 generalize ((w.alloc (.cells #[.bool sa,.slice xa na ca,.slice ya ma ea] 89)).alloc (.cells #[.bool sb,.slice xb nb cb,.slice yb mb eb] 89)).alloc (.cells #[.bool false,.slice none 0 0,.slice none 0 0] 89)=w1 at *;have HA:=hid h5;have HB:=hid h6;have OB:=hid h3;have HW:=hid h4
 obtain ⟨za,a0,a1,a2⟩:=h1;obtain ⟨zb,b0,b1,b2⟩:=h2;obtain ⟨hz,z0,z1,z2,zf⟩:=h3;clear h4 h5 h6;have hp0:0<qb.num.natAbs:=by omega
 have HP0:=hid hp0;have HD:=hid (show 0<qa.den*qb.num.natAbs from Nat.mul_pos qa.den_pos hp0);clear hp0 hq0;have C2:Hid (∀(W:World),Below w1.heap.size w1 W→Calls Tryz.prog 95 #[.slice xa na ca,.slice yb mb eb] W fun e w'=>∃z k c' q,e=.returned (.slice z k c')∧Below W.heap.size W w'∧Hid (k≤na+mb∧Dn w' z k q (qa.num.natAbs*qb.den))):=fun W hW=>dMul_c (HA.out.num.dn.below hW) (HB.out.den.below hW) (by omega) (by omega)
 have C3:Hid (∀(W:World) (z:Option Addr) (k c:Nat) (d:Nat→Int),k≤na+mb→Dn W z k d (qa.num.natAbs*qb.den)→Calls Tryz.prog 94 #[.bool (!(sa==sb)),.slice z k c] W fun e w'=>∃r,e=.returned (.agg #[.bool r,.slice z k c])∧Below W.heap.size W w'∧Hid (Zn w' r z k d (sg (!(sa==sb)) (qa.num.natAbs*qb.den)))):=fun W z k c d h1 h2=>(mkZ_c (by omega)).mono (fun _ _ ⟨r,k1,k2,k3⟩=>⟨r,k1,k2,Zn.of (h2.below k2) k3⟩)
 have C6:Hid (∀W,Below w1.heap.size w1 W→Calls Tryz.prog 95 #[.slice ya ma ea,.slice xb nb cb] W fun e w'=>∃z k c' q,e=.returned (.slice z k c')∧Below W.heap.size W w'∧Hid (k≤ma+nb∧Dn w' z k q (qa.den*qb.num.natAbs))):=fun W hW=>dMul_c (HA.out.den.below hW) (HB.out.num.dn.below hW) (by omega) (by omega)
 have C7:Hid (∀(W:World) (s:Bool) (x:Option Addr) (n c:Nat) (d:Nat→Int) (y:Option Addr) (m e:Nat) (g:Nat→Int),n≤na+mb→m≤ma+nb→Zn W s x n d (sg (!(sa==sb)) (qa.num.natAbs*qb.den))→Dn W y m g (qa.den*qb.num.natAbs)→Calls Tryz.prog 93 #[.agg #[.bool s,.slice x n c],.slice y m e] W fun en w'=>∃s' x' n' c1 d' y' m' c2 g',en=.returned (.agg #[.bool s',.slice x' n' c1,.slice y' m' c2])∧Below W.heap.size W w'∧Hid (n'≤na+ma+nb+mb+3∧m'≤na+ma+nb+mb+3∧Qn w' s' x' n' d' y' m' g' (qa/qb))):=fun W s x n c d y m e g h1 h2 h3 h4=>(mkQn_c h3 h4 (by omega) (by omega) HD.out).mono (fun _ _ ⟨s',x',n',c1,d',y',m',c2,g',k1,k2,k3,k4,k5⟩=>⟨s',x',n',c1,d',y',m',c2,g',k1,k2,by omega,by omega,by rw [rquo_frac HA.out.num.sgn HB.out.num.sgn HP0.out];exact k5⟩)
 go_region_held3 (fun w'=>w'.cell? ⟨w.heap.size,0,none⟩=some (.bool sa)∧w'.cell? ⟨w.heap.size,1,none⟩=some (.slice xa na ca)∧w'.cell? ⟨w.heap.size,2,none⟩=some (.slice ya ma ea)∧w'.cell? ⟨w.heap.size+1,0,none⟩=some (.bool sb)∧w'.cell? ⟨w.heap.size+1,1,none⟩=some (.slice xb nb cb)∧w'.cell? ⟨w.heap.size+1,2,none⟩=some (.slice yb mb eb)∧(w'.cell? ⟨w.heap.size+1+1,0,none⟩).isSome=true∧(w'.cell? ⟨w.heap.size+1+1,1,none⟩).isSome=true∧(w'.cell? ⟨w.heap.size+1+1,2,none⟩).isSome=true∧w'.frozen? ⟨w.heap.size+1+1,0,none⟩=false∧w'.frozen? ⟨w.heap.size+1+1,1,none⟩=false∧w'.frozen? ⟨w.heap.size+1+1,2,none⟩=false)
  (refine ⟨?_,?_,?_,?_,?_,?_,?_,?_,?_,?_,?_,?_⟩ <;> repeat (with_reducible first | assumption | exact zf _ | exact tf _ | exact uf _ | exact kf _ | exact pf _ | exact kI0 z0 | exact kI0 z1 | exact kI0 z2 | exact kI0 t0 | exact kI0 t1 | exact kI0 t2 | exact kI0 u0 | exact kI0 u1 | exact kI0 u2 | exact kI0 k0 | exact kI0 k1 | exact kI0 k2 | exact kI0 p0 | exact kI0 p1 | exact kI0 p2 | refine kCd ?_ | refine kId ?_ | refine kFd ?_ | refine kCs (by simp only [ne_eq];omega) ?_ | refine kIs ?_ | refine kFs ?_ | refine kCb (by assumption) ?_ | refine kIb (by assumption) ?_))
  (first
   | (go_at_call 95;with_reducible refine (C2.out _ belB).mono ?_;rintro e v2 ⟨zm,km,cm,dm,rfl,hv2,H2⟩;have Tt:Ob v2 (w.heap.size+1+1):=(by repeat (with_reducible first | exact OB.out | exact Tt | exact Tu | exact Tk | exact Tp | refine Ob.drew ?_ | refine kOb (by assumption) ?_));obtain ⟨_,t0,t1,t2,tf⟩:=id Tt)
   | (go_at_call 94;with_reducible refine (C3.out _ zm km cm dm H2.out.1 (by repeat (with_reducible first | exact H2.out.2 | refine Dn.drew ?_ | refine kDb (by assumption) ?_))).mono ?_;rintro e v3 ⟨r3,rfl,hv3,H3⟩;have Tu:Ob v3 (w.heap.size+1+1):=(by repeat (with_reducible first | exact OB.out | exact Tt | exact Tu | exact Tk | exact Tp | refine Ob.drew ?_ | refine kOb (by assumption) ?_));obtain ⟨_,u0,u1,u2,uf⟩:=id Tu)
   | (go_at_call 95;with_reducible refine (C6.out _ belB).mono ?_;rintro e v6 ⟨z6,k6,c6,d6,rfl,hv6,H6⟩;have Tk:Ob v6 (w.heap.size+1+1):=(by repeat (with_reducible first | exact OB.out | exact Tt | exact Tu | exact Tk | exact Tp | refine Ob.drew ?_ | refine kOb (by assumption) ?_));obtain ⟨_,k0,k1,k2,kf⟩:=id Tk)
   | (go_at_call 93;with_reducible refine (C7.out _ r3 zm km cm dm z6 k6 c6 d6 H2.out.1 H6.out.1 (by repeat (with_reducible first | exact H3.out | refine kZd ?_ | refine kZb (by assumption) ?_)) (by repeat (with_reducible first | exact H6.out.2 | refine Dn.drew ?_ | refine kDb (by assumption) ?_))).mono ?_;rintro e v8 ⟨s8,x8,n8,c8,d8,y8,m8,e8,g8,rfl,hv8,H8⟩;have Tp:Ob v8 (w.heap.size+1+1):=(by repeat (with_reducible first | exact OB.out | exact Tt | exact Tu | exact Tk | exact Tp | refine Ob.drew ?_ | refine kOb (by assumption) ?_));obtain ⟨_,p0,p1,p2,pf⟩:=id Tp))
 all_goals
  have hb:Below w1.heap.size w1 v8:=belB;go_wp2;exact bodyPost_ret (v:=.agg #[.bool s8,.slice x8 n8 c8,.slice y8 m8 e8]) (by simp [results,Tryz.results55,go_sem,p0,p1,p2]) rfl ⟨s8,x8,n8,c8,d8,y8,m8,e8,g8,rfl,below_st (HW.out.trans (hb.mono HW.out.size)) (by omega),H8.out.1,H8.out.2.1,Tp.qn H8.out.2.2⟩
theorem qToR_c {w:World} {s:Bool} {x:Option Addr} {n c:Nat} {d:Nat→Int} {y:Option Addr} {m e:Nat} {g:Nat→Int} {q:Rat} (h:Qn w s x n d y m g q) (hn:n≤131072) (hm:m≤131072) :
  Calls Tryz.prog 54 #[.agg #[.bool s,.slice x n c,.slice y m e]] w fun en w'=>∃z k c' f z2 k2 c2 f2,en=.returned (.agg #[.bool s,.slice z k c',.slice z2 k2 c2])∧Below w.heap.size w w'∧Hid (Rn (n+m) w' s z k c' f z2 k2 c2 f2 q):=by
 refine (qTo_c h.num.dn h.den hn hm).mono ?_;rintro en w' ⟨z,k,c',f,z2,k2,c2,f2,rfl,h2,h3,h4,h5,h6,_,_⟩;refine ⟨z,k,c',f,z2,k2,c2,f2,rfl,h2,⟨h5.rd,h5.lm,(wfB_iff _ _ _).2 ⟨fm_of_wfB h5.wf,fun hs=>?_⟩,h5.cap,h5.nil,?_⟩,h6,by omega,by omega⟩
 ·have h0:=h.num.dn.pos' (h.num.pos hs);rcases Nat.eq_zero_or_pos k with hk | hk
  ·subst hk;have hv:=h5.val;rw [wv_false] at hv;have:(0:Int)=q.num.natAbs:=hv;omega
  ·exact hk
 ·have hv:=h5.val;rw [wv_false] at hv;have hs:=h.num.sgn;cases s
  ·rw [wv_false,hv];exact hs.symm
  ·rw [wv_true,hv];exact hs.symm
theorem zIntE_c {w:World} {z:Int} (h0:-9223372036854775808≤z) (h1:z≤9223372036854775807) :
  Calls Tryz.prog 96 #[.int .i64 z] w fun e w'=>∃s x n c d,e=.returned (.agg #[.bool s,.slice x n c])∧Below w.heap.size w w'∧Hid (n≤2∧Zn w' s x n d z):=by
 refine (zInt_c z w h0 h1).mono ?_;rintro e w' ⟨s,x,n,c,d,rfl,h⟩;have h2:=vd_nonneg h.dg;have hv:=h.val;cases s
 ·have hv':vd d n=z:=hv;exact ⟨false,x,n,c,d,rfl,h.bel,h.le,⟨h.rd,h.dg,h.fm,by omega⟩,by show z=(z.natAbs:Int);omega,h.sgn⟩
 ·have hv':- vd d n=z:=hv;exact ⟨true,x,n,c,d,rfl,h.bel,h.le,⟨h.rd,h.dg,h.fm,by omega⟩,by show z=-(z.natAbs:Int);omega,h.sgn⟩
set_option maxRecDepth 100000 in
set_option maxHeartbeats 4000000 in
theorem qInt_c {w:World} {z:Int} (h0:-9223372036854775808≤z) (h1:z≤9223372036854775807) :
  Calls Tryz.prog 56 #[.int .i64 z] w fun e w'=>QAns 2 w w' e (z:Rat):=by
 have h2:=ob_new w 89;have h3:=below_alloc (Below.refl w.heap.size w) (.cells #[.bool false,.slice none 0 0,.slice none 0 0] 89);go_enter Tryz.func56,Tryz.ntmps56;go_wp2_with fail
 generalize w.alloc (.cells #[.bool false,.slice none 0 0,.slice none 0 0] 89)=w1 at *;have OB:=hid h2;have HW:=hid h3
 clear h2 h3;refine (zIntE_c h0 h1).mono ?_;rintro e w2 ⟨s2,x2,n2,c2,d2,rfl,hb,H2⟩;have HB2:=hid hb;clear hb;go_wp2_with fail
 refine (dWord_c (V:=1) (by decide)).mono ?_;rintro e w3 ⟨z3,k3,c3,d3,rfl,hb,H3⟩;have HB3:=hid (HB2.out.trans (hb.mono HB2.out.size));have Z3:=hid (H2.out.2.below hb)
 have hk3:=H3.out.1;have hn2:=H2.out.1
 clear hb;obtain ⟨hz,z0,z1,z2,zf⟩:=OB.out.below HB3.out;go_wp2;refine bodyPost_ret (v:=.agg #[.bool s2,.slice x2 n2 c2,.slice z3 k3 c3]) (by simp [results,Tryz.results56,go_sem,z0,z1,z2]) rfl ⟨s2,x2,n2,c2,d2,z3,k3,c3,d3,rfl,below_st (HW.out.trans (HB3.out.mono HW.out.size)) (by omega),by omega,by omega,(OB.out.below HB3.out).qn ⟨?_,?_⟩⟩
 ·rw [Rat.num_intCast];exact Z3.out
 ·rw [Rat.den_intCast];exact H3.out.2
set_option maxRecDepth 100000 in
set_option maxHeartbeats 4000000 in
theorem docOfQ_c {w:World} {z:Int} (h0:-9223372036854775808≤z) (h1:z≤9223372036854775807) :
  Calls Tryz.prog 22 #[.int .i64 z] w fun e w'=>RatAns 4 w w' e (z:Rat):=by
 have h2:=ob_new w 24;have h3:=below_alloc (Below.refl w.heap.size w) (.cells #[.bool false,.slice none 0 0,.slice none 0 0] 24);go_enter Tryz.func22,Tryz.ntmps22;go_wp2_with fail
 generalize w.alloc (.cells #[.bool false,.slice none 0 0,.slice none 0 0] 24)=w1 at *;have OB:=hid h2;have HW:=hid h3
 clear h2 h3;refine (qInt_c h0 h1).mono ?_;rintro e w2 ⟨s2,x2,n2,c2,d2,y2,m2,e2,g2,rfl,hb,hl1,hl2,hq⟩;have HB2:=hid hb;have HQ:=hid hq
 clear hb hq;go_wp2_with fail
 refine (qToR_c HQ.out (by omega) (by omega)).mono ?_;rintro e w3 ⟨z3,k3,c3,f3,y3,m3,e3,g3,rfl,hb,R3⟩;have HB3:=hid (HB2.out.trans (hb.mono HB2.out.size));clear hb;obtain ⟨hz,z0,z1,z2,zf⟩:=OB.out.below HB3.out;go_wp2;exact bodyPost_ret (v:=.agg #[.bool s2,.slice z3 k3 c3,.slice y3 m3 e3]) (by simp [results,Tryz.results22,go_sem,z0,z1,z2]) rfl ⟨s2,z3,k3,c3,f3,y3,m3,e3,g3,rfl,below_st (HW.out.trans (HB3.out.mono HW.out.size)) (by omega),(OB.out.below HB3.out).rn (R3.out.mono (by omega))⟩
theorem size_st3 (w:World) (B:Nat) (u0 u1 u2:Value):(((w.setCell ⟨B,0,none⟩ u0).setCell ⟨B,1,none⟩ u1).setCell ⟨B,2,none⟩ u2).heap.size=w.heap.size:=by simp [World.setCell]
theorem Ob.put {w B} (h:Ob w B) (u0 u1 u2:Value):Bx3 (((w.setCell ⟨B,0,none⟩ u0).setCell ⟨B,1,none⟩ u1).setCell ⟨B,2,none⟩ u2) B u0 u1 u2 :=
 ⟨by rw [size_st3];exact h.z,kCo (by decide) (kCo (by decide) (kCe (kI0 h.z0))),kCo (by decide) (kCe (kIs (kI0 h.z1))),kCe (kIs (kIs (kI0 h.z2)))⟩
def kq (kind:Nat) (a b:Rat):Rat:=if kind=0 then a+b else if kind=1 then a-b else if kind=2 then a*b else a/b
def OQ (p:Bool) (kind:Nat) (qa qb:Rat) (w':World) (s:Bool) (x:Option Addr) (n c:Nat) (f:Nat→Int) (y:Option Addr) (m d:Nat) (g:Nat→Int) (er:Int):Prop :=
 p=false∧er=3∧n=0∧m=0∧s=false∨p=true∧(kind=3∧qb.num=0)∧er=4∧n=0∧m=0∧s=false∨p=true∧¬(kind=3∧qb.num=0)∧er=0∧Rn 2000 w' s x n c f y m d g (kq kind qa qb)
theorem OQ.st {p kind qa qb w' s x n c f y m d g er B u0 u1 u2} (h:OQ p kind qa qb w' s x n c f y m d g er) (hB:Ob w' B):OQ p kind qa qb (((w'.setCell ⟨B,0,none⟩ u0).setCell ⟨B,1,none⟩ u1).setCell ⟨B,2,none⟩ u2) s x n c f y m d g er:=by
 rcases h with h | h | ⟨h1,h2,h3,h4⟩
 ·exact .inl h
 ·exact .inr (.inl h)
 ·exact .inr (.inr ⟨h1,h2,h3,hB.rn h4⟩)
theorem Rn.num_zero {L w s x n c f y m d g q} (h:Rn L w s x n c f y m d g q):q.num=0 ↔ n=0:=by
 constructor
 ·intro h0;rcases Nat.eq_zero_or_pos n with hn | hn
  ·exact hn
  ·have h1:=vf_pos h.num.lm (fm_of_wfB h.num.wf) hn;have h2:=h.num.val;cases s
   ·rw [wv_false] at h2;omega
   ·rw [wv_true] at h2;omega
 ·intro hn;subst hn;have h2:=h.num.val;cases s
  ·rw [wv_false] at h2;exact h2.symm
  ·rw [wv_true] at h2;have:-(0:Int)=q.num:=h2;omega
set_option maxRecDepth 100000 in
set_option maxHeartbeats 4000000 in
theorem rOf_c {w:World} {z:Int} (h0:-9223372036854775808≤z) (h1:z≤9223372036854775807) :
  Calls Tryz.prog 67 #[.int .i64 z] w fun e w'=>RatAns 4 w w' e (z:Rat):=by
 have h2:=ob_new w 24;have h3:=below_alloc (Below.refl w.heap.size w) (.cells #[.bool false,.slice none 0 0,.slice none 0 0] 24);go_enter Tryz.func67,Tryz.ntmps67;go_wp2_with fail
 generalize w.alloc (.cells #[.bool false,.slice none 0 0,.slice none 0 0] 24)=w1 at *;have OB1:=hid h2;have HW1:=hid h3
 clear h2 h3;refine (wOf_c z w1 h0 h1).mono ?_;rintro e w2 ⟨s2,x2,n2,c2,f2,rfl,hr2,hv2⟩;have hb:=hr2.res.bel;have hn2:=hr2.res.le;have hw2:=(hr2.wn hv2).alloc (.cells #[.bool s2,.slice x2 n2 c2] 158);have hbx:Bx (w2.alloc (.cells #[.bool s2,.slice x2 n2 c2] 158)) w2.heap.size s2 x2 n2 c2:=⟨by simp,kN0,kN1⟩;have hob:=(OB1.out.below hb).alloc (.cells #[.bool s2,.slice x2 n2 c2] 158);have hbw:=below_alloc (HW1.out.trans (hb.mono HW1.out.size)) (.cells #[.bool s2,.slice x2 n2 c2] 158);have hB8:w.heap.size<w2.heap.size:=(OB1.out.below hb).z;clear hr2 hv2 hb OB1 HW1;go_wp2_with fail
 generalize w2.alloc (.cells #[.bool s2,.slice x2 n2 c2] 158)=w3 at *;generalize w2.heap.size=b3 at *;have W3:=hid hw2;have OB:=hid hob;have HW:=hid hbw
 obtain ⟨za,a0,a1⟩:=hbx;obtain ⟨hz,z0,z1,z2,zf⟩:=hob;clear hw2 hbw;have C1:Hid (∀W:World,Calls Tryz.prog 109 #[] W fun e w'=>∃x f,e=.returned (.slice x 1 1)∧Below W.heap.size W w'∧Hid (Wn w' false x 1 1 f 1)):=fun W=>ratOne_c W
 have C2:Hid (∀(W:World) (y:Option Addr),Calls Tryz.prog 65 #[.bool s2,.slice x2 n2 c2,.slice y 1 1] W fun e w'=>∃r,e=.returned (.agg #[.bool r,.slice x2 n2 c2,.slice y 1 1])∧Below W.heap.size W w'∧Hid (r=(s2 && decide (0<n2)))):=fun W y=>(rsigned_c s2 x2 y n2 c2 1 1 W (by omega)).mono (fun _ _ ⟨r,k1,k2,k3⟩=>⟨r,k1,k3,k2⟩)
 go_region_held3 (fun w'=>w'.cell? ⟨b3,0,none⟩=some (.bool s2)∧w'.cell? ⟨b3,1,none⟩=some (.slice x2 n2 c2)∧(w'.cell? ⟨w.heap.size,0,none⟩).isSome=true∧(w'.cell? ⟨w.heap.size,1,none⟩).isSome=true∧(w'.cell? ⟨w.heap.size,2,none⟩).isSome=true∧w'.frozen? ⟨w.heap.size,0,none⟩=false∧w'.frozen? ⟨w.heap.size,1,none⟩=false∧w'.frozen? ⟨w.heap.size,2,none⟩=false)
  (refine ⟨?_,?_,?_,?_,?_,?_,?_,?_⟩ <;> repeat (with_reducible first | assumption | exact zf _ | exact tf _ | exact uf _ | exact kI0 z0 | exact kI0 z1 | exact kI0 z2 | exact kI0 t0 | exact kI0 t1 | exact kI0 t2 | exact kI0 u0 | exact kI0 u1 | exact kI0 u2 | refine kCd ?_ | refine kId ?_ | refine kFd ?_ | refine kCs (by simp only [ne_eq];omega) ?_ | refine kIs ?_ | refine kFs ?_ | refine kCb (by assumption) ?_ | refine kIb (by assumption) ?_))
  (first
   | (go_at_call 109;with_reducible refine (C1.out _).mono ?_;rintro e v5 ⟨y5,f5,rfl,hb5,H5⟩;have Tt:Ob v5 (w.heap.size):=(by repeat (with_reducible first | exact OB.out | exact Tt | exact Tu | refine Ob.drew ?_ | refine kOb (by assumption) ?_));obtain ⟨_,t0,t1,t2,tf⟩:=id Tt)
   | (go_at_call 65;with_reducible refine (C2.out _ y5).mono ?_;rintro e v6 ⟨r6,rfl,hb6,H6⟩;have Tu:Ob v6 (w.heap.size):=(by repeat (with_reducible first | exact OB.out | exact Tt | exact Tu | refine Ob.drew ?_ | refine kOb (by assumption) ?_));obtain ⟨_,u0,u1,u2,uf⟩:=id Tu))
 all_goals
  have W5:Wn v6 false y5 1 1 f5 1:=(by repeat (with_reducible first | exact H5.out | refine kWd ?_ | refine kWb (by assumption) ?_));have hb:Below w3.heap.size w3 v6:=belB;have hr:r6=s2:=by
   rw [H6.out];have:=((wfB_iff _ _ _).1 W3.out.wf).2;cases s2
   ·rfl
   ·simp;exact this rfl
  subst hr;go_wp2;refine bodyPost_ret (v:=.agg #[.bool r6,.slice x2 n2 c2,.slice y5 1 1]) (by simp [results,Tryz.results67,go_sem,u0,u1,u2]) rfl ⟨r6,x2,n2,c2,f2,y5,1,1,f5,rfl,below_st (HW.out.trans (hb.mono HW.out.size)) (Nat.le_refl _),Tu.rn ⟨?_,?_,by omega,by omega⟩⟩
  ·rw [Rat.num_intCast];exact W3.out.below hb
  ·rw [Rat.den_intCast];exact W5
theorem twinD_c {w:World} {x:Option Addr} {n c:Nat} {f:Nat→Int} (hr:Rd .u64 w x n f) (hn:n≤17592186044416) (hnil:x=none→n=0∧c=0) :
  Calls Tryz.prog 69 #[.slice x n c] w fun e w'=>∃z c',e=.returned (.slice z n c')∧Below w.heap.size w w'∧Hid (Rd .u64 w' z n f∧(n≤c'∧c'≤9223372036854775807)∧(z=none→n=0∧c'=0)):=by
 refine (twin_c x n c f w (by omega) hr hnil).mono ?_;rintro e w' ⟨z,c',rfl,h2,h3,h4⟩;obtain ⟨ao,cap,hv,k1,k2,k3,_,_⟩:=h4.shape;cases hv
 exact ⟨z,c',rfl,h2,h3,⟨k1,by unfold maxLen at k3;omega⟩,fun h=>by have:=k2 h;omega⟩
theorem kRdb {w w':World} {x:Option Addr} {n:Nat} {f:Nat→Int} (hb:Below w.heap.size w w') (h:Rd .u64 w x n f):Rd .u64 w' x n f:=h.below hb (Nat.le_refl _)
set_option maxRecDepth 100000 in
set_option maxHeartbeats 8000000 in
theorem qTwin_c {w:World} {s:Bool} {x:Option Addr} {n c:Nat} {f:Nat→Int} {y:Option Addr} {m d:Nat} {g:Nat→Int} (h:Rw w x n c f y m d g) (hn:n≤17592186044416) (hm:m≤17592186044416) :
  Calls Tryz.prog 33 #[.agg #[.bool s,.slice x n c,.slice y m d]] w fun e w'=>∃z c' z2 c2,e=.returned (.agg #[.bool s,.slice z n c',.slice z2 m c2])∧Below w.heap.size w w'∧Hid (Rw w' z n c' f z2 m c2 g):=by
 obtain ⟨h1,h2,h3⟩:=qbox1 (w:=w) (.bool s) (.slice x n c) (.slice y m d) 24 24;have h4:=h.below h3;clear h;go_enter Tryz.func33,Tryz.ntmps33;go_wp2_with fail
 generalize (w.alloc (.cells #[.bool s,.slice x n c,.slice y m d] 24)).alloc (.cells #[.bool false,.slice none 0 0,.slice none 0 0] 24)=w1 at *;have HN:=hid h4;have OB:=hid h2;have HW:=hid h3
 obtain ⟨z,x0,x1,x2⟩:=h1;obtain ⟨hz,z0,z1,z2,zf⟩:=h2;clear h3 h4;have C1:Hid (∀W,Below w1.heap.size w1 W→Calls Tryz.prog 69 #[.slice x n c] W fun e w'=>∃z c',e=.returned (.slice z n c')∧Below W.heap.size W w'∧Hid (Rd .u64 w' z n f∧(n≤c'∧c'≤9223372036854775807)∧(z=none→n=0∧c'=0))):=fun W hW=>twinD_c (HN.out.below hW).rx (by omega) HN.out.nx
 have C2:Hid (∀W,Below w1.heap.size w1 W→Calls Tryz.prog 69 #[.slice y m d] W fun e w'=>∃z c',e=.returned (.slice z m c')∧Below W.heap.size W w'∧Hid (Rd .u64 w' z m g∧(m≤c'∧c'≤9223372036854775807)∧(z=none→m=0∧c'=0))):=fun W hW=>twinD_c (HN.out.below hW).ry (by omega) HN.out.ny
 go_region_held3 (fun w'=>w'.cell? ⟨w.heap.size,0,none⟩=some (.bool s)∧w'.cell? ⟨w.heap.size,1,none⟩=some (.slice x n c)∧w'.cell? ⟨w.heap.size,2,none⟩=some (.slice y m d)∧(w'.cell? ⟨w.heap.size+1,0,none⟩).isSome=true∧(w'.cell? ⟨w.heap.size+1,1,none⟩).isSome=true∧(w'.cell? ⟨w.heap.size+1,2,none⟩).isSome=true∧w'.frozen? ⟨w.heap.size+1,0,none⟩=false∧w'.frozen? ⟨w.heap.size+1,1,none⟩=false∧w'.frozen? ⟨w.heap.size+1,2,none⟩=false)
  (refine ⟨?_,?_,?_,?_,?_,?_,?_,?_,?_⟩ <;> repeat (with_reducible first | assumption | exact zf _ | exact tf _ | exact uf _ | exact kI0 z0 | exact kI0 z1 | exact kI0 z2 | exact kI0 t0 | exact kI0 t1 | exact kI0 t2 | exact kI0 u0 | exact kI0 u1 | exact kI0 u2 | refine kCd ?_ | refine kId ?_ | refine kFd ?_ | refine kCs (by simp only [ne_eq];omega) ?_ | refine kIs ?_ | refine kFs ?_ | refine kCb (by assumption) ?_ | refine kIb (by assumption) ?_))
  (first
   | (go_at_call 69;with_reducible refine (C1.out _ belB).mono ?_;rintro e v5 ⟨z5,c5,rfl,hb5,H5⟩;have Tt:Ob v5 (w.heap.size+1):=(by repeat (with_reducible first | exact OB.out | exact Tt | exact Tu | refine Ob.drew ?_ | refine kOb (by assumption) ?_));obtain ⟨_,t0,t1,t2,tf⟩:=id Tt)
   | (go_at_call 69;with_reducible refine (C2.out _ belB).mono ?_;rintro e v6 ⟨z6,c6,rfl,hb6,H6⟩;have Tu:Ob v6 (w.heap.size+1):=(by repeat (with_reducible first | exact OB.out | exact Tt | exact Tu | refine Ob.drew ?_ | refine kOb (by assumption) ?_));obtain ⟨_,u0,u1,u2,uf⟩:=id Tu))
 all_goals
  have D5:Rd .u64 v6 z5 n f:=(by repeat (with_reducible first | exact H5.out.1 | refine Rd.drew ?_ | refine kRdb (by assumption) ?_));have hb:Below w1.heap.size w1 v6:=belB;go_wp2;exact bodyPost_ret (v:=.agg #[.bool s,.slice z5 n c5,.slice z6 m c6]) (by simp [results,Tryz.results33,go_sem,u0,u1,u2]) rfl ⟨z5,c5,z6,c6,rfl,below_st (HW.out.trans (hb.mono HW.out.size)) (by omega),Tu.rd D5,HN.out.lx,H5.out.2.1,H5.out.2.2,Tu.rd H6.out.1,HN.out.ly,H6.out.2.1,H6.out.2.2⟩
theorem OQ.below {p kind qa qb w w' s x n c f y m d g er} (h:OQ p kind qa qb w s x n c f y m d g er) (hb:Below w.heap.size w w'):OQ p kind qa qb w' s x n c f y m d g er:=by
 rcases h with h | h | ⟨h1,h2,h3,h4⟩
 ·exact .inl h
 ·exact .inr (.inl h)
 ·exact .inr (.inr ⟨h1,h2,h3,h4.below hb⟩)
theorem OQ.alloc {p kind qa qb w s x n c f y m d g er} (h:OQ p kind qa qb w s x n c f y m d g er) (o:Obj):OQ p kind qa qb (w.alloc o) s x n c f y m d g er:=h.below (below_alloc (Below.refl _ _) o)
structure Bx4 (w:World) (B:Nat) (a0 a1 a2 a3:Value):Prop where
 z:B<w.heap.size
 x0:w.cell? ⟨B,0,none⟩=some a0
 x1:w.cell? ⟨B,1,none⟩=some a1
 x2:w.cell? ⟨B,2,none⟩=some a2
 x3:w.cell? ⟨B,3,none⟩=some a3
theorem Bx4.below {w w' B a0 a1 a2 a3} (h:Bx4 w B a0 a1 a2 a3) (hb:Below w.heap.size w w'):Bx4 w' B a0 a1 a2 a3:=⟨Nat.lt_of_lt_of_le h.z hb.size,kCb hb h.x0,kCb hb h.x1,kCb hb h.x2,kCb hb h.x3⟩
theorem Bx4.alloc {w B a0 a1 a2 a3} (h:Bx4 w B a0 a1 a2 a3) (o:Obj):Bx4 (w.alloc o) B a0 a1 a2 a3:=h.below (below_alloc (Below.refl _ _) o)
theorem Bx4.next {w w' B a0 a1 a2 a3} {o:Obj} (h:Bx4 w B a0 a1 a2 a3) (hb:Below (w.alloc o).heap.size (w.alloc o) w'):Bx4 w' B a0 a1 a2 a3:=(h.alloc o).below hb
theorem bx4_at (w:World) (a0 a1 a2 a3:Value) (t:TypeId):Bx4 (w.alloc (.cells #[a0,a1,a2,a3] t)) w.heap.size a0 a1 a2 a3:=⟨by simp,by simp [go_sem],by simp [go_sem],by simp [go_sem],by simp [go_sem]⟩
theorem bx4_new {w w':World} {a0 a1 a2 a3:Value} {t:TypeId} (hb:Below (w.alloc (.cells #[a0,a1,a2,a3] t)).heap.size (w.alloc (.cells #[a0,a1,a2,a3] t)) w'):Bx4 w' w.heap.size a0 a1 a2 a3:=(bx4_at w a0 a1 a2 a3 t).below hb
structure Ob4 (w:World) (B:Nat):Prop where
 z:B<w.heap.size
 z0:w.cell? ⟨B,0,none⟩=some (.int .i64 0)
 z1:w.cell? ⟨B,1,none⟩=some (.bool false)
 z2:w.cell? ⟨B,2,none⟩=some (.slice none 0 0)
 z3:w.cell? ⟨B,3,none⟩=some (.slice none 0 0)
 zf:∀o,w.frozen? ⟨B,o,none⟩=false
theorem Ob4.below {w w' B} (h:Ob4 w B) (hb:Below w.heap.size w w'):Ob4 w' B:=by
 obtain ⟨h1,h2⟩:=bcell hb;exact ⟨Nat.lt_of_lt_of_le h.z hb.size,kCb hb h.z0,kCb hb h.z1,kCb hb h.z2,kCb hb h.z3,fun o=>(h2 _ _ h.z).trans (h.zf o)⟩
theorem kO4b {w w' B} (hb:Below w.heap.size w w') (h:Ob4 w B):Ob4 w' B:=h.below hb
theorem Ob4.alloc {w B} (h:Ob4 w B) (o:Obj):Ob4 (w.alloc o) B:=h.below (below_alloc (Below.refl _ _) o)
theorem Ob4.next {w w' B} {o:Obj} (h:Ob4 w B) (hb:Below (w.alloc o).heap.size (w.alloc o) w'):Ob4 w' B:=(h.alloc o).below hb
theorem Ob4.drew {w B} (h:Ob4 w B):Ob4 w.drew B:=⟨h.z,h.z0,h.z1,h.z2,h.z3,h.zf⟩
theorem ob4_new (w:World) (t:TypeId):Ob4 (w.alloc (.cells #[.int .i64 0,.bool false,.slice none 0 0,.slice none 0 0] t)) w.heap.size:=by
 refine ⟨by simp,by simp [go_sem],by simp [go_sem],by simp [go_sem],by simp [go_sem],fun o=>?_⟩;have e:=heap_alloc_new w (.cells #[.int .i64 0,.bool false,.slice none 0 0,.slice none 0 0] t);simp only [World.frozen?,e];simp
theorem Ob4.rd {w B u0 u1 u2 u3 x n f} (h:Ob4 w B) (hx:Rd .u64 w x n f):Rd .u64 ((((w.setCell ⟨B,0,none⟩ u0).setCell ⟨B,1,none⟩ u1).setCell ⟨B,2,none⟩ u2).setCell ⟨B,3,none⟩ u3) x n f :=
 rd_setne (cell_off (by decide) (cell_off (by decide) (cell_off (by decide) h.z3))) (fun i h=>by cases h) (rd_setne (cell_off (by decide) (cell_off (by decide) h.z2)) (fun i h=>by cases h) (rd_setne (cell_off (by decide) h.z1) (fun i h=>by cases h) (rd_setne h.z0 (fun i h=>by cases h) hx)))
theorem Ob4.wn {w B u0 u1 u2 u3 s x n c f v} (h:Ob4 w B) (hx:Wn w s x n c f v):Wn ((((w.setCell ⟨B,0,none⟩ u0).setCell ⟨B,1,none⟩ u1).setCell ⟨B,2,none⟩ u2).setCell ⟨B,3,none⟩ u3) s x n c f v:=⟨h.rd hx.rd,hx.lm,hx.wf,hx.cap,hx.nil,hx.val⟩
theorem Ob4.dn {w B u0 u1 u2 u3 x n d V} (h:Ob4 w B) (hx:Dn w x n d V):Dn ((((w.setCell ⟨B,0,none⟩ u0).setCell ⟨B,1,none⟩ u1).setCell ⟨B,2,none⟩ u2).setCell ⟨B,3,none⟩ u3) x n d V:=⟨h.rd hx.rd,hx.dg,hx.fm,hx.val⟩
theorem Ob4.rn {w B u0 u1 u2 u3 L s x n c f y m d g q} (h:Ob4 w B) (hx:Rn L w s x n c f y m d g q):Rn L ((((w.setCell ⟨B,0,none⟩ u0).setCell ⟨B,1,none⟩ u1).setCell ⟨B,2,none⟩ u2).setCell ⟨B,3,none⟩ u3) s x n c f y m d g q:=⟨h.wn hx.num,h.wn hx.den,hx.ln,hx.ld⟩
theorem Ob4.rw {w B u0 u1 u2 u3 x n c f y m d g} (h:Ob4 w B) (hx:Rw w x n c f y m d g):Rw ((((w.setCell ⟨B,0,none⟩ u0).setCell ⟨B,1,none⟩ u1).setCell ⟨B,2,none⟩ u2).setCell ⟨B,3,none⟩ u3) x n c f y m d g:=⟨h.rd hx.rx,hx.lx,hx.cx,hx.nx,h.rd hx.ry,hx.ly,hx.cy,hx.ny⟩
theorem Ob4.zn {w B u0 u1 u2 u3 s x n d v} (h:Ob4 w B) (hx:Zn w s x n d v):Zn ((((w.setCell ⟨B,0,none⟩ u0).setCell ⟨B,1,none⟩ u1).setCell ⟨B,2,none⟩ u2).setCell ⟨B,3,none⟩ u3) s x n d v:=⟨h.dn hx.dn,hx.sgn,hx.pos⟩
theorem Ob4.qn {w B u0 u1 u2 u3 s x n d y m g q} (h:Ob4 w B) (hx:Qn w s x n d y m g q):Qn ((((w.setCell ⟨B,0,none⟩ u0).setCell ⟨B,1,none⟩ u1).setCell ⟨B,2,none⟩ u2).setCell ⟨B,3,none⟩ u3) s x n d y m g q:=⟨h.zn hx.num,h.dn hx.den⟩
theorem below_st4 {w0 w:World} {B:Nat} {u0 u1 u2 u3:Value} (hw:Below w0.heap.size w0 w) (hB:w0.heap.size≤B) :
  Below w0.heap.size w0 ((((w.setCell ⟨B,0,none⟩ u0).setCell ⟨B,1,none⟩ u1).setCell ⟨B,2,none⟩ u2).setCell ⟨B,3,none⟩ u3) :=
 below_turned hw hw.size (((((Turned.refl w0.heap.size (B+1) w).set (x:=⟨B,0,none⟩) hB (by simp) _).set (x:=⟨B,1,none⟩) hB (by simp) _).set (x:=⟨B,2,none⟩) hB (by simp) _).set (x:=⟨B,3,none⟩) hB (by simp) _) (Nat.le_refl _)
theorem kRnd {L w s x n c f y m d g q} (h:Rn L w s x n c f y m d g q):Rn L w.drew s x n c f y m d g q:=⟨kWd h.num,kWd h.den,h.ln,h.ld⟩
theorem kRnb {L w w' s x n c f y m d g q} (hb:Below w.heap.size w w') (h:Rn L w s x n c f y m d g q):Rn L w' s x n c f y m d g q:=h.below hb
def efB (i:Int) (s:Bool) (f:Nat→Int) (n:Nat) (g:Nat→Int) (m:Nat):Bool:=rfB s f n g m && (decide (i=0) || ((decide (i=-1) || decide (i=1)) && decide (n=0)))
structure En (L:Nat) (w:World) (i:Int) (s:Bool) (x:Option Addr) (n c:Nat) (f:Nat→Int) (y:Option Addr) (m d:Nat) (g:Nat→Int) (q:Rat):Prop where
 rn:Rn L w s x n c f y m d g q
 inf:i=0∨(i=-1∨i=1)∧q=0
theorem En.below {L w w' i s x n c f y m d g q} (h:En L w i s x n c f y m d g q) (hb:Below w.heap.size w w'):En L w' i s x n c f y m d g q:=⟨h.rn.below hb,h.inf⟩
theorem En.alloc {L w i s x n c f y m d g q} (h:En L w i s x n c f y m d g q) (o:Obj):En L (w.alloc o) i s x n c f y m d g q:=⟨h.rn.alloc o,h.inf⟩
theorem En.mono {L L' w i s x n c f y m d g q} (h:En L w i s x n c f y m d g q) (hL:L≤L'):En L' w i s x n c f y m d g q:=⟨h.rn.mono hL,h.inf⟩
theorem Rn.q_zero {L w s x n c f y m d g q} (h:Rn L w s x n c f y m d g q):q=0 ↔ n=0:=by
 rw [←h.num_zero];constructor
 ·intro e;rw [e];rfl
 ·exact fun e=>Rat.num_eq_zero.1 e
theorem Rw.en {w i s x n c f y m d g L} (h:Rw w x n c f y m d g) (hf:efB i s f n g m=true) (hn:n≤L) (hm:m≤L):∃q,En L w i s x n c f y m d g q:=by
 simp only [efB,Bool.and_eq_true,Bool.or_eq_true,decide_eq_true_eq] at hf;obtain ⟨q,hq⟩:=h.rn hf.1 hn hm;refine ⟨q,hq,?_⟩;rcases hf.2 with h1 | ⟨h1,h2⟩
 ·exact .inl h1
 ·exact .inr ⟨h1,hq.q_zero.2 h2⟩
theorem En.ef {L w i s x n c f y m d g q} (h:En L w i s x n c f y m d g q):efB i s f n g m=true:=by
 simp only [efB,Bool.and_eq_true,Bool.or_eq_true,decide_eq_true_eq];refine ⟨h.rn.rf,?_⟩;rcases h.inf with h1 | ⟨h1,h2⟩
 ·exact .inl h1
 ·exact .inr ⟨h1,h.rn.q_zero.1 h2⟩
def EOrd (c:Int) (i:Int) (a:Rat) (j:Int) (b:Rat):Prop:=(c=-1∧(i<j∨i=j∧a<b))∨(c=0∧i=j∧a=b)∨(c=1∧(j<i∨i=j∧b<a))
theorem eIsZero_c {w:World} {s:Bool} {x:Option Addr} {n c:Nat} {y:Option Addr} {m d:Nat} :
  Calls Tryz.prog 116 #[.agg #[.bool s,.slice x n c,.slice y m d]] w fun e w'=>e=.returned (.bool (decide (n=0)))∧Below w.heap.size w w':=by
 have key:∀o:Obj,Below w.heap.size w (w.alloc o):=fun o=>below_alloc (Below.refl w.heap.size w) o
 have KEY:=hid key;clear key;by_cases hn:n=0
 ·have h1:((n:Int)==0)=true:=by simp;omega
  rw [decide_eq_true hn];clear hn;go_enter Tryz.func116,Tryz.ntmps116;go_wp2;go_ret;exact ⟨rfl,KEY.out _⟩
 ·have h1:((n:Int)==0)=false:=by simp;omega
  rw [decide_eq_false hn];clear hn;go_enter Tryz.func116,Tryz.ntmps116;go_wp2;go_ret;exact ⟨rfl,KEY.out _⟩
set_option maxRecDepth 100000 in
set_option maxHeartbeats 4000000 in
theorem eForm_b {w:World} {i:Int} {s:Bool} {x:Option Addr} {n c:Nat} {f:Nat→Int} {y:Option Addr} {m d:Nat} {g:Nat→Int} (h:Rw w x n c f y m d g) (hn:n≤65536) (hm:m≤65536) :
  Calls Tryz.prog 133 #[.agg #[.int .i64 i,.bool s,.slice x n c,.slice y m d]] w fun e w'=>e=.returned (.bool (efB i s f n g m))∧Below w.heap.size w w':=by
 have HR:=hid (h.alloc (.cells #[.int .i64 i,.bool s,.slice x n c,.slice y m d] 42));have BX:=hid (bx4_at w (.int .i64 i) (.bool s) (.slice x n c) (.slice y m d) 42);have HW:=hid (below_alloc (Below.refl w.heap.size w) (.cells #[.int .i64 i,.bool s,.slice x n c,.slice y m d] 42));have C1:Hid (∀W,Below (w.alloc (.cells #[.int .i64 i,.bool s,.slice x n c,.slice y m d] 42)).heap.size (w.alloc (.cells #[.int .i64 i,.bool s,.slice x n c,.slice y m d] 42)) W→Calls Tryz.prog 63 #[.agg #[.bool s,.slice x n c,.slice y m d]] W fun e w'=>e=.returned (.bool (rfB s f n g m))∧Below W.heap.size W w'):=fun W hW=>rForm_c (HR.out.below hW) (by omega) (by omega)
 clear h;by_cases h0:i=0
 ·subst h0;rw [show efB 0 s f n g m=rfB s f n g m by simp [efB]];go_enter Tryz.func133,Tryz.ntmps133;go_upto_region 1 with fail
  generalize w.alloc (.cells #[.int .i64 0,.bool s,.slice x n c,.slice y m d] 42)=w1 at *;obtain ⟨z,x0,x1,x2,x3⟩:=BX.out;go_wp2_with fail
  refine (C1.out _ (Below.refl _ _)).mono ?_;rintro e w2 ⟨rfl,hb⟩;have HB:=hid (HW.out.trans (hb.mono HW.out.size));clear hb;go_wp2;go_ret;exact ⟨rfl,HB.out⟩
 have e0:(i==0)=false:=by simp;exact h0
 by_cases h1:i=-1∨i=1
 ·have hef:efB i s f n g m=(rfB s f n g m && decide (n=0)):=by
   rcases h1 with rfl | rfl <;> simp [efB]
  rw [hef];clear hef h0;rcases h1 with rfl | rfl
  all_goals
   cases hr:rfB s f n g m
   ·have c1:=C1.out;rw [hr] at c1;have C1':=hid c1;clear c1 C1;go_enter Tryz.func133,Tryz.ntmps133;go_upto_region 1 with fail
    generalize w.alloc _=w1 at *;obtain ⟨z,x0,x1,x2,x3⟩:=BX.out;go_wp2_with fail
    refine (C1'.out _ (Below.refl _ _)).mono ?_;rintro e w2 ⟨rfl,hb⟩;have HB:=hid (HW.out.trans (hb.mono HW.out.size));clear hb;go_wp2;go_ret;exact ⟨rfl,HB.out⟩
   ·have c1:=C1.out;rw [hr] at c1;have C1':=hid c1;clear c1 C1;rw [Bool.true_and];obtain ⟨p,hp⟩:∃p,decide (n=0)=p:=⟨_,rfl⟩;rw [hp];have HN0:=hid hp;clear hp hr;go_enter Tryz.func133,Tryz.ntmps133;go_upto_region 1 with fail
    generalize w.alloc _=w1 at *;obtain ⟨z,x0,x1,x2,x3⟩:=BX.out;go_wp2_with fail
    refine (C1'.out _ (Below.refl _ _)).mono ?_;rintro e w2 ⟨rfl,hb⟩;have HB:=hid (HW.out.trans (hb.mono HW.out.size));have B2:=hid (BX.out.below hb)
    clear hb z x0 x1 x2 x3;obtain ⟨z,x0,x1,x2,x3⟩:=B2.out;go_wp2_with fail
    refine eIsZero_c.mono ?_;rintro e w3 ⟨rfl,hb⟩;have HB3:=hid (HB.out.trans (hb.mono HB.out.size));clear hb;rw [HN0.out];go_wp2;go_ret;exact ⟨rfl,HB3.out⟩
 ·have e1:(i == -1)=false:=by simp;omega
  have e2:(i==1)=false:=by simp;omega
  have hef:efB i s f n g m=false:=by
   simp [efB];omega
  rw [hef];clear hef h0 h1;go_enter Tryz.func133,Tryz.ntmps133;go_upto_region 1 with fail
  generalize w.alloc (.cells #[.int .i64 i,.bool s,.slice x n c,.slice y m d] 42)=w1 at *;obtain ⟨z,x0,x1,x2,x3⟩:=BX.out;go_wp2;go_ret;exact ⟨rfl,HW.out⟩
theorem eForm_c {w:World} {i:Int} {s:Bool} {x:Option Addr} {n c:Nat} {f:Nat→Int} {y:Option Addr} {m d:Nat} {g:Nat→Int} (h:Rw w x n c f y m d g) (hn:n≤4096) (hm:m≤4096) :
  Calls Tryz.prog 133 #[.agg #[.int .i64 i,.bool s,.slice x n c,.slice y m d]] w fun e w'=>e=.returned (.bool (efB i s f n g m))∧Below w.heap.size w w' :=
 eForm_b h (Nat.le_trans hn (by decide)) (Nat.le_trans hm (by decide))
theorem isNaN_c {w:World} {a:Int}:Calls Tryz.prog 175 #[.int .i64 a] w fun e w'=>e=.returned (.bool false)∧w'=w:=by
 have h1:(a != a)=false:=by simp
 go_enter Tryz.func175,Tryz.ntmps175;go_wp2;go_ret;exact ⟨rfl,rfl⟩
theorem compare_c {w:World} {a b:Int}:Calls Tryz.prog 160 #[.int .i64 a,.int .i64 b] w fun e w'=>∃r,e=.returned (.int .i64 r)∧w'=w∧Ord r a b:=by
 rcases Int.lt_trichotomy a b with h | h | h
 ·have h1:decide (a<b)=true:=decide_eq_true h;have HF:=hid h;clear h;go_enter Tryz.func160,Tryz.ntmps160;go_wp2_with fail
  refine isNaN_c.mono ?_;rintro e w1 ⟨rfl,rfl⟩;go_wp2_with fail
  refine isNaN_c.mono ?_;rintro e w2 ⟨rfl,rfl⟩;go_wp2;go_ret;exact ⟨-1,rfl,rfl,.inl ⟨rfl,HF.out⟩⟩
 ·have h1:decide (a<b)=false:=decide_eq_false (by omega);have h2:decide (b<a)=false:=decide_eq_false (by omega);have HF:=hid h;clear h;go_enter Tryz.func160,Tryz.ntmps160;go_wp2_with fail
  refine isNaN_c.mono ?_;rintro e w1 ⟨rfl,rfl⟩;go_wp2_with fail
  refine isNaN_c.mono ?_;rintro e w2 ⟨rfl,rfl⟩;go_wp2;go_ret;exact ⟨0,rfl,rfl,.inr (.inl ⟨rfl,HF.out⟩)⟩
 ·have h1:decide (a<b)=false:=decide_eq_false (by omega);have h2:decide (b<a)=true:=decide_eq_true h;have HF:=hid h;clear h;go_enter Tryz.func160,Tryz.ntmps160;go_wp2_with fail
  refine isNaN_c.mono ?_;rintro e w1 ⟨rfl,rfl⟩;go_wp2_with fail
  refine isNaN_c.mono ?_;rintro e w2 ⟨rfl,rfl⟩;go_wp2;go_ret;exact ⟨1,rfl,rfl,.inr (.inr ⟨rfl,HF.out⟩)⟩
set_option maxRecDepth 100000 in
set_option maxHeartbeats 4000000 in
theorem eInf_c {w:World} {i:Int}:Calls Tryz.prog 117 #[.int .i64 i] w fun e w'=>∃s x n c f y m d g,e=.returned (.agg #[.int .i64 i,.bool s,.slice x n c,.slice y m d])∧Below w.heap.size w w'∧Rn 4 w' s x n c f y m d g 0:=by
 have h2:=ob4_new w 42;have h3:=below_alloc (Below.refl w.heap.size w) (.cells #[.int .i64 0,.bool false,.slice none 0 0,.slice none 0 0] 42);go_enter Tryz.func117,Tryz.ntmps117;go_wp2_with fail
 generalize w.alloc (.cells #[.int .i64 0,.bool false,.slice none 0 0,.slice none 0 0] 42)=w1 at *;have OB:=hid h2;have HW:=hid h3
 clear h2 h3;refine (rOf_c (z:=0) (by decide) (by decide)).mono ?_;rintro e w2 ⟨s2,x2,n2,c2,f2,y2,m2,d2,g2,rfl,hb,hr⟩;have HB:=hid (HW.out.trans (hb.mono HW.out.size));have OB2:=hid (OB.out.below hb);have RN:=hid hr
 clear hb hr;obtain ⟨hz,z0,z1,z2,z3,zf⟩:=OB2.out;go_wp2;exact bodyPost_ret (v:=.agg #[.int .i64 i,.bool s2,.slice x2 n2 c2,.slice y2 m2 d2]) (by simp [results,Tryz.results117,go_sem,z0,z1,z2,z3]) rfl ⟨s2,x2,n2,c2,f2,y2,m2,d2,g2,rfl,below_st4 HB.out (Nat.le_refl _),OB2.out.rn RN.out⟩
set_option maxRecDepth 100000 in
set_option maxHeartbeats 4000000 in
theorem eLow_c {w:World}:Calls Tryz.prog 79 #[] w fun e w'=>∃s x n c f y m d g,e=.returned (.agg #[.int .i64 (-1),.bool s,.slice x n c,.slice y m d])∧Below w.heap.size w w'∧En 4 w' (-1) s x n c f y m d g 0:=by
 have h2:=ob4_new w 42;have h3:=below_alloc (Below.refl w.heap.size w) (.cells #[.int .i64 0,.bool false,.slice none 0 0,.slice none 0 0] 42);go_enter Tryz.func79,Tryz.ntmps79;go_wp2_with fail
 generalize w.alloc (.cells #[.int .i64 0,.bool false,.slice none 0 0,.slice none 0 0] 42)=w1 at *;have OB:=hid h2;have HW:=hid h3
 clear h2 h3;refine eInf_c.mono ?_;rintro e w2 ⟨s2,x2,n2,c2,f2,y2,m2,d2,g2,rfl,hb,hr⟩;have HB:=hid (HW.out.trans (hb.mono HW.out.size));have OB2:=hid (OB.out.below hb);have RN:=hid hr
 clear hb hr;obtain ⟨hz,z0,z1,z2,z3,zf⟩:=OB2.out;go_wp2;exact bodyPost_ret (v:=.agg #[.int .i64 (-1),.bool s2,.slice x2 n2 c2,.slice y2 m2 d2]) (by simp [results,Tryz.results79,go_sem,z0,z1,z2,z3]) rfl ⟨s2,x2,n2,c2,f2,y2,m2,d2,g2,rfl,below_st4 HB.out (Nat.le_refl _),⟨OB2.out.rn RN.out,.inr ⟨by decide,rfl⟩⟩⟩
structure Nm where
 s:Bool
 x:Option Addr
 n:Nat
 c:Nat
 f:Nat→Int
 y:Option Addr
 m:Nat
 d:Nat
 g:Nat→Int
def NmR (w:World) (t:Nm):Prop:=Rw w t.x t.n t.c t.f t.y t.m t.d t.g∧t.n≤65536∧t.m≤65536
def nfB (t:Nm):Bool:=rfB t.s t.f t.n t.g t.m
theorem NmR.below {w w' t} (h:NmR w t) (hb:Below w.heap.size w w'):NmR w' t:=⟨h.1.below hb,h.2⟩
structure C4 (w:World) (b o:Nat) (a0 a1 a2 a3:Value):Prop where
 x0:w.cell? ⟨b,o,none⟩=some a0
 x1:w.cell? ⟨b,o+1,none⟩=some a1
 x2:w.cell? ⟨b,o+2,none⟩=some a2
 x3:w.cell? ⟨b,o+3,none⟩=some a3
theorem C4.below {w w' b o a0 a1 a2 a3} (h:C4 w b o a0 a1 a2 a3) (hb:Below w.heap.size w w'):C4 w' b o a0 a1 a2 a3:=⟨kCb hb h.x0,kCb hb h.x1,kCb hb h.x2,kCb hb h.x3⟩
theorem box4 {w w1:World} {a0 a1 a2 a3:Value} {t:TypeId} (hb:Below (w.alloc (.cells #[a0,a1,a2,a3] t)).heap.size (w.alloc (.cells #[a0,a1,a2,a3] t)) w1):w.heap.size<w1.heap.size∧w1.cell? ⟨w.heap.size,0,none⟩=some a0∧w1.cell? ⟨w.heap.size,1,none⟩=some a1∧w1.cell? ⟨w.heap.size,2,none⟩=some a2∧w1.cell? ⟨w.heap.size,3,none⟩=some a3∧Below w.heap.size w w1:=by
 have hz:=hb.size;simp at hz;exact ⟨by omega,kCb hb (by simp [go_sem]),kCb hb (by simp [go_sem]),kCb hb (by simp [go_sem]),kCb hb (by simp [go_sem]),(below_alloc (Below.refl _ w) _).trans (hb.mono (by simp))⟩
def Tl (w:World) (ao:Option Addr) (k:Nat) (col:Nat→Int) (T:Nat→Nm):Prop :=
 ∀j,j<k→∃b o,ao=some ⟨b,o,none⟩∧C4 w b (o+j*4) (.int .i64 (col j)) (.bool (T j).s) (.slice (T j).x (T j).n (T j).c) (.slice (T j).y (T j).m (T j).d)∧NmR w (T j)
theorem Tl.below {w w' ao k col T} (h:Tl w ao k col T) (hb:Below w.heap.size w w'):Tl w' ao k col T:=fun j hj=>by
 obtain ⟨b,o,e,h1,h2⟩:=h j hj;exact ⟨b,o,e,h1.below hb,h2.below hb⟩
theorem Tl.drewN {w ao k col T} (h:Tl w ao k col T) (q:Nat):Tl (w.drewN q) ao k col T:=h.below (below_drewN (Below.refl _ _) q)
def tfr (col:Nat→Int) (T:Nat→Nm):Nat→Nat→Int→Bool
 | 0,_,_=>true
 | r+1,i,last=>decide (last<col i) && (nfB (T i) && (decide (0<(T i).n) && tfr col T r (i+1) (col i)))
def tfB (k:Nat) (col:Nat→Int) (T:Nat→Nm):Bool:=tfr col T k 0 (-1)
theorem isZero_c (s:Bool) (x:Option Addr) (n c:Nat) (y:Option Addr) (m d:Nat) (w:World) (hn:n≤9223372036854775807) :
  Calls Tryz.prog 134 #[.agg #[.bool s,.slice x n c,.slice y m d]] w fun e w'=>e=.returned (.bool (decide (n=0)))∧Below w.heap.size w w':=by
 have hd:((n:Int)==0)=decide (n=0):=by
  by_cases h:n=0
  ·subst h;rfl
  ·have:((n:Int)==0)=false:=by simp;omega
   rw [this];simp [h]
 go_enter Tryz.func134,Tryz.ntmps134;go_wp2;go_ret;refine ⟨?_,below_alloc (Below.refl _ _) _⟩;first
  | rfl
  | (simp [hd];done)
  | (rw [hd])
set_option maxRecDepth 100000 in
set_option maxHeartbeats 4000000 in
theorem vForm_c {w:World} {ao:Option Addr} {k cap:Nat} {col:Nat→Int} {T:Nat→Nm} (h:Tl w ao k col T) (hk:k≤1048576) :
  Calls Tryz.prog 99 #[.slice ao k cap] w fun e w'=>e=.returned (.bool (tfB k col T))∧Below w.heap.size w w':=by
 have H:=hid h;clear h;go_enter Tryz.func99,Tryz.ntmps99;go_wp2_with fail
 go_loopw [3,8] (fun l t wr=>∃(i:Nat) (last:Int),i≤k∧t=.int .i64 i∧l=.int .i64 last∧Hid (Below w.heap.size w wr)∧Hid (tfB k col T=tfr col T (k-i) i last)) (fun _ t _=>k-(intOf t).toNat)
 case atStart=>exact ⟨0,-1,by omega,rfl,rfl,Below.refl _ _,rfl⟩
 case round =>
  obtain ⟨i,last,hi,rfl,rfl,HB,HT⟩:=hrel;by_cases hlt:i<k
  ·obtain ⟨b,o,rfl,hc,hn,hn1,hn2⟩:=(H.out.below HB.out) i hlt;obtain ⟨r,hr⟩:∃r,k-i=r+1:=⟨k-i-1,by omega⟩;have hT:tfB k col T=(decide (last<col i) && (nfB (T i) && (decide (0<(T i).n) && tfr col T r (i+1) (col i)))):=by rw [HT.out,hr];rfl
   have hr2:k-(i+1)=r:=by omega
   obtain ⟨⟨s,x,n,c,f,y,m,d,g⟩,hTi⟩:∃t,T i=t:=⟨_,rfl⟩;rw [hTi] at hc hn hn1 hn2 hT;obtain ⟨z,hz⟩:∃z,col i=z:=⟨_,rfl⟩;rw [hz] at hc hT;obtain ⟨x0,x1,x2,x3⟩:=hc;replace x0:wr.cell? ⟨b,o+i*4,none⟩=some (.int .i64 z):=x0;replace x1:wr.cell? ⟨b,o+i*4+1,none⟩=some (.bool s):=x1;replace x2:wr.cell? ⟨b,o+i*4+2,none⟩=some (.slice x n c):=x2;replace x3:wr.cell? ⟨b,o+i*4+3,none⟩=some (.slice y m d):=x3;replace hn:Rw wr x n c f y m d g:=hn;replace hn1:n≤65536:=hn1;replace hn2:m≤65536:=hn2;have hblk:Below wr.heap.size wr (wr.alloc (.cells #[.int .i64 z,.bool s,.slice x n c,.slice y m d] 70)):=below_alloc (Below.refl _ _) _;have CF:=hid (rForm_c (s:=s) (hn.below hblk) (by omega) (by omega));have HTi:=hid hT;have HZ:=hid hz;have HR2:=hid hr2
   have i1:((i:Nat):Int)<((k:Nat):Int):=by omega
   clear hT hz hr2 hTi hr hn hblk;by_cases hl:z≤last
   ·have hd:decide (last<z)=false:=by simp;omega
    have HD:=hid hd;clear hd;go_wp2;go_ret;refine ⟨?_,?_⟩
    ·rw [HTi.out,HD.out];rfl
    ·exact below_alloc HB.out _
   ·have hd:decide (last<z)=true:=by simp;omega
    have HD:=hid hd;clear hd;cases hf:rfB s f n g m
    ·have CF2:=CF;rw [hf] at CF2;have HNF:Hid (nfB ⟨s,x,n,c,f,y,m,d,g⟩=false):=hf;clear CF hf;go_wp2_with fail
     refine CF2.out.mono ?_;rintro e w1 ⟨rfl,hb1⟩;obtain ⟨_,_,_,_,_,hb2⟩:=box4 hb1;go_wp2;go_ret;refine ⟨?_,HB.out.trans (hb2.mono HB.out.size)⟩;rw [HTi.out,HD.out,HNF.out];rfl
    ·have CF2:=CF;rw [hf] at CF2;have HNF:Hid (nfB ⟨s,x,n,c,f,y,m,d,g⟩=true):=hf;clear CF hf;go_wp2_with fail
     refine CF2.out.mono ?_;rintro e w1 ⟨rfl,hb1⟩;obtain ⟨z0,y0,y1,y2,y3,hb2⟩:=box4 hb1;have HB1:=hid (HB.out.trans (hb2.mono HB.out.size));clear hb1 hb2;go_wp2_with fail
     refine (isZero_c s x n c y m d _ (by omega)).mono ?_;rintro e w2 ⟨rfl,hb3⟩;have v0:=kCb hb3 y0;have HB2:=hid (HB1.out.trans (hb3.mono HB1.out.size));clear hb3;by_cases hn0:n=0
     ·subst hn0;go_wp2;go_ret;refine ⟨?_,HB2.out⟩;rw [HTi.out,HD.out,HNF.out];rfl
     ·have hnd:decide (n=0)=false:=by simp [hn0]
      rw [hnd];have hnp:decide (0<n)=true:=by simp;omega
      have HNP:=hid hnp;clear hnd hnp;go_wp2;go_roundw
      case rel =>
       refine ⟨i+1,z,by omega,by go_num,rfl,HB2.out,?_⟩;show _=_;rw [HTi.out,HD.out,HNF.out,HR2.out];simp only [HNP.out,Bool.true_and]
      case measure=>simp [intOf];omega
  ·have e1:i=k:=by omega
   have HTe:Hid (tfB k col T=true):=by
    show _=_;rw [HT.out,e1,Nat.sub_self];rfl
   have i2:¬(((i:Nat):Int)<((k:Nat):Int)):=by omega
   clear e1 HT;go_wp2;go_ret;refine ⟨?_,HB.out⟩;rw [HTe.out];rfl
end Go.Proofs.YtdbbncamlaiajaaGreat
