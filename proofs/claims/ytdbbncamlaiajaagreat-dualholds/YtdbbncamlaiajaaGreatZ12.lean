/-
 The walk of the reference's DocCheck (written by makers/f25.py). What DocCheck answers is what Check answers. The same model elsewhere; light models; the walks of the reference's DocCol and DocRow (written by makers/f27.py). How arguments that are models are opened: each list of them takes no more memory than an argument's list may. What the rows of this seat share: its program, and how models are opened. The seat's rows list no tables. How an argument that is a ray is opened: what it weighs bounds its lengths. How an argument that is a point is opened: what it weighs bounds its lengths. What the rows of this seat share: its program, and how models, lists of numbers and points are opened. The seat's rows list no tables. The walks of package point's times and Sum, by values (written by makers/n1.py). A drawn region whose loads come first and whose last stores turn the very cells that were loaded: what the cells hold (S) is asked only as long as the operation k has not come up. No Go text is named here.
-/
import Derived.Test.YtdbbncamlaiajaaGreatZ9
import Derived.Test.YtdbbncamlaiajaaGreatZ10
import Derived.Test.YtdbbncamlaiajaaGreatZ11
import Derived.Deep.CutRange
import Derived.ProofKit
import Derived.OpenShut
import Derived.ChangeSame
import Derived.Deep.Slices
import Derived.SizedLaws
import Derived.Test.YtdbbncamlaiajaaGreatRows
import Derived.Test.YtdbbncamlaiajaaGreatChecked
import Derived.Deep.DeepHandedRow
import Derived.Test.YtdbbncamlaiajaaGreatZ8
import Derived.Test.YtdbbncamlaiajaaGreatZ7
namespace Go.Proofs.YtdbbncamlaiajaaGreat
open Go.RowKit
def anyB (B:Nat→Bool):Nat→Bool
 | 0=>false
 | i+1=>anyB B i || B i
def ev (b3 b5 b6 b7:Bool):Int:=if b3 then 3 else if b5 then 5 else if b6 then 6 else if b7 then 7 else 0
def lsl (L:List Int):Int:=L.foldl lstep 0
theorem lsl_app (L:List Int) (x:Int):lsl (L++[x])=lstep (lsl L) x:=by simp [lsl]
theorem ev3 (a b c d:Bool):lstep (ev a b c d) 3=ev true b c d:=by cases a <;> cases b <;> cases c <;> cases d <;> rfl
theorem ev5 (a b c d:Bool):lstep (ev a b c d) 5=ev a true c d:=by cases a <;> cases b <;> cases c <;> cases d <;> rfl
theorem ev6 (a b c d:Bool):lstep (ev a b c d) 6=ev a b true d:=by cases a <;> cases b <;> cases c <;> cases d <;> rfl
theorem ev7 (a b c d:Bool):lstep (ev a b c d) 7=ev a b c true:=by cases a <;> cases b <;> cases c <;> cases d <;> rfl
theorem lsf_take (L:List Int):∀n,n≤L.length→lsf (fun j=>L.getD j 0) n=lsl (L.take n)
 | 0,_=>rfl
 | n+1,h=>by
  have e:L[n]?=some L[n]:=List.getElem?_eq_getElem (by omega);rw [List.take_add_one,e,Option.toList_some,lsl_app,←lsf_take L n (by omega)];show lstep _ (L.getD n 0)=_;rw [List.getD_eq_getElem?_getD,e];rfl
theorem lsf_lsl (L:List Int):lsf (fun j=>L.getD j 0) L.length=lsl L:=by
 rw [lsf_take L _ (Nat.le_refl _),List.take_length]
theorem il_el {w ao} {L:List Int} (h:Il w ao L):El w ao L.length (fun j=>L.getD j 0):=fun j hj=>by
 obtain ⟨b,o,e,h1⟩:=h j L[j] (List.getElem?_eq_getElem hj);refine ⟨b,o,e,?_⟩;rw [h1];show _=some (Value.int .i64 (L.getD j 0));rw [List.getD_eq_getElem?_getD,List.getElem?_eq_getElem hj];rfl
def DL (w0 wr:World) (v:Value) (L:List Int) (k:Nat) (e:Int):Prop:=Below w0.heap.size w0 wr∧RowG 3 1 w0.heap.size wr v L.length (ils L)∧L.length≤k∧lsl L=e
theorem DL.below {w0 wr v L k e w'} (h:DL w0 wr v L k e) (hb:Below wr.heap.size wr w'):DL w0 w' v L k e:=⟨h.1.trans (hb.mono h.1.size),h.2.1.below hb,h.2.2⟩
theorem DL.mono {w0 wr v L k k' e e'} (h:DL w0 wr v L k e) (hk:k≤k') (he:e=e'):DL w0 wr v L k' e':=⟨h.1,h.2.1,Nat.le_trans h.2.2.1 hk,h.2.2.2.trans he⟩
theorem DL.app {w0 wr v L k e w8 g8 cap8} {x:Int} (h:DL w0 wr v L k e) (hr:RowG 3 1 w0.heap.size w8 (.slice (some ⟨g8,0,none⟩) (L.length+1) cap8) (L.length+1) (ils L++#[Value.int .i64 x].toList)) (hb:∀b0:World,Below b0.heap.size b0 wr→b0.heap.size≤w0.heap.size→Below b0.heap.size b0 w8):DL w0 w8 (.slice (some ⟨g8,0,none⟩) (L.length+1) cap8) (L++[x]) (k+1) (lstep e x) :=
 ⟨hb w0 h.1 (Nat.le_refl _),by rw [List.length_append,List.length_singleton];simpa [ils] using hr,by rw [List.length_append,List.length_singleton];have:=h.2.2.1;omega,by rw [lsl_app,h.2.2.2]⟩
def DX (w0 wr:World) (v:Value) (L:List Int) (k:Nat) (e:Int) (bx:Nat) (vs:List Value) (t:TypeId):Prop:=DL w0 wr v L k e∧Bk wr bx vs t∧v.ownBlock≠some bx
theorem DX.below {w0 wr v L k e bx vs t w'} (h:DX w0 wr v L k e bx vs t) (hb:Below wr.heap.size wr w'):DX w0 w' v L k e bx vs t:=⟨h.1.below hb,h.2.1.below hb,h.2.2⟩
theorem DX.mono {w0 wr v L k k' e e' bx vs t} (h:DX w0 wr v L k e bx vs t) (hk:k≤k') (he:e=e'):DX w0 wr v L k' e' bx vs t:=⟨h.1.mono hk he,h.2⟩
theorem DX.app {w0 wr v L k e bx vs t w8 g8 cap8} {x:Int} (h:DX w0 wr v L k e bx vs t) (hr:RowG 3 1 w0.heap.size w8 (.slice (some ⟨g8,0,none⟩) (L.length+1) cap8) (L.length+1) (ils L++#[Value.int .i64 x].toList)) (hb:∀b0:World,Below b0.heap.size b0 wr→b0.heap.size≤w0.heap.size→Below b0.heap.size b0 w8)
  (hg:∀k,k<wr.heap.size→v.ownBlock≠some k→w8.heap[k]?=wr.heap[k]?) (hl:v.ownBlock=some g8∨wr.heap.size≤g8):DX w0 w8 (.slice (some ⟨g8,0,none⟩) (L.length+1) cap8) (L++[x]) (k+1) (lstep e x) bx vs t :=
 ⟨h.1.app hr hb,(hg bx h.2.1.lt h.2.2).trans h.2.1,fun e=>by
  have e2:g8=bx:=by simpa [Value.ownBlock] using e
  rcases hl with h1 | h1
  ·exact h.2.2 (e2 ▸ h1)
  ·have:=h.2.1.lt;omega⟩
theorem DL.dx {w0 wr v L k e} (h:DL w0 wr v L k e) (vs:List Value) (t:TypeId):DX w0 (wr.alloc (.cells vs.toArray t)) v L k e wr.heap.size vs t :=
 ⟨h.below (below_alloc (Below.refl _ _) _),bk_new wr vs t,fun e=>by have:=(h.2.1.lt _ e).2;omega⟩
structure MoS (M:Mo):Prop where
 off:M.off.n≤1000∧M.off.m≤1000
 c:∀j,j<M.ck→((M.C j).cost.n≤1000∧(M.C j).cost.m≤1000)∧((M.C j).lo.v.n≤1000∧(M.C j).lo.v.m≤1000)∧(M.C j).hi.v.n≤1000∧(M.C j).hi.v.m≤1000
 r:∀j,j<M.rk→((M.R j).lo.v.n≤1000∧(M.R j).lo.v.m≤1000)∧((M.R j).hi.v.n≤1000∧(M.R j).hi.v.m≤1000)∧(M.R j).tk≤10000∧∀p,p<(M.R j).tk→((M.R j).T p).n≤1000∧((M.R j).T p).m≤1000
def b3c (M:Mo) (i:Nat):Bool:=!(nfB M.off) || anyB (fun j=>!(nfB (M.C j).cost && abB (M.C j).lo (M.C j).hi)) i
def b5c (M:Mo) (i:Nat):Bool:=anyB (fun j=>!(isNm (M.C j).nm)) i
def b6c (M:Mo) (i:Nat):Bool:=anyB (fun j=>anyB (fun p=>decide ((M.C p).nm=(M.C j).nm)) j) i
def b3r (M:Mo) (i:Nat):Bool:=b3c M M.ck || anyB (fun j=>!(tfB (M.R j).tk (M.R j).col (M.R j).T && abB (M.R j).lo (M.R j).hi)) i
def b5r (M:Mo) (i:Nat):Bool:=b5c M M.ck || anyB (fun j=>!(isNm (M.R j).nm)) i
def b6r (M:Mo) (i:Nat):Bool:=b6c M M.ck || anyB (fun j=>anyB (fun p=>decide ((M.R p).nm=(M.R j).nm)) j) i
def b7r (M:Mo) (i:Nat):Bool:=anyB (fun j=>anyB (fun p=>decide ((M.ck:Int)≤(M.R j).col p)) (M.R j).tk) i
set_option maxRecDepth 100000 in
set_option maxHeartbeats 8000000 in
theorem docCheckS_c {w:World} {M:Mo} (h:MoR w M) (hs:MoS M) (hck:M.ck≤64) (hrk:M.rk≤64) (hcap:(M.ck≤M.cc∧M.cc≤9223372036854775807)∧M.rk≤M.rc∧M.rc≤9223372036854775807):Calls Tryz.prog 51 #[M.val] w fun e w'=>e=.returned (.int .i64 (ev (b3r M M.rk) (b5r M M.rk) (b6r M M.rk) (b7r M M.rk)))∧Below w.heap.size w w':=by
 obtain ⟨ans,hans⟩:∃a,ev (b3r M M.rk) (b5r M M.rk) (b6r M M.rk) (b7r M M.rk)=a:=⟨_,rfl⟩;rw [hans];obtain ⟨N,hN⟩:∃N,N=M:=⟨_,rfl⟩;have H3:=hid (show b3c N 0=!(nfB M.off) from by rw [hN];simp [b3c,anyB]);obtain ⟨fo,hfo⟩:∃t,nfB M.off=t:=⟨_,rfl⟩;have CO:=hid (fun w' (hw:Below w.heap.size w w')=>qForm_c (w:=w') (s:=M.off.s) (h.off.below hw).1 hs.off.1 hs.off.2);rw [show rfB M.off.s M.off.f M.off.n M.off.g M.off.m=fo from hfo] at CO;rw [hfo] at H3;have HSC:=hid hs.c;have HSR:=hid hs.r
 obtain ⟨_,hC,hR,_,_⟩:=h;obtain ⟨⟨s,x,n,c,f,y,m,d,g⟩,ca,ck,cc,C,ra,rk,rc,R⟩:=M;replace hck:ck≤64:=hck;replace hrk:rk≤64:=hrk;obtain ⟨⟨hc1,hc2⟩,hc3,hc4⟩:=hcap;replace hc1:ck≤cc:=hc1;replace hc2:cc≤9223372036854775807:=hc2;replace hc3:rk≤rc:=hc3;replace hc4:rc≤9223372036854775807:=hc4;have HC:Hid (Cls w ca ck C):=hC;have HRL:Hid (Rls w ra rk R):=hR;replace HSC:Hid (∀j,j<ck→((C j).cost.n≤1000∧(C j).cost.m≤1000)∧((C j).lo.v.n≤1000∧(C j).lo.v.m≤1000)∧(C j).hi.v.n≤1000∧(C j).hi.v.m≤1000):=HSC;replace HSR:Hid (∀j,j<rk→((R j).lo.v.n≤1000∧(R j).lo.v.m≤1000)∧((R j).hi.v.n≤1000∧(R j).hi.v.m≤1000)∧(R j).tk≤10000∧∀p,p<(R j).tk→((R j).T p).n≤1000∧((R j).T p).m≤1000):=HSR;replace CO:Hid (∀w' (hw:Below w.heap.size w w'),Calls Tryz.prog 87 #[.agg #[.bool s,.slice x n c,.slice y m d]] w' fun e w2=>e=.returned (.bool fo)∧Below w'.heap.size w' w2):=CO;have H3C:=hid (show ∀i,b3c N (i+1)=(b3c N i || !(nfB (C i).cost && abB (C i).lo (C i).hi)) from fun i=>by rw [hN];simp only [b3c,anyB,Bool.or_assoc]);have H5C:=hid (show b5c N 0=false∧∀i,b5c N (i+1)=(b5c N i || !(isNm (C i).nm)) from by rw [hN];exact ⟨rfl,fun i=>rfl⟩);have H6C:=hid (show b6c N 0=false∧∀i,b6c N (i+1)=(b6c N i || anyB (fun p=>decide ((C p).nm=(C i).nm)) i) from by rw [hN];exact ⟨rfl,fun i=>rfl⟩);have H3R:=hid (show b3r N 0=b3c N ck∧∀i,b3r N (i+1)=(b3r N i || !(tfB (R i).tk (R i).col (R i).T && abB (R i).lo (R i).hi)) from by rw [hN];exact ⟨by simp [b3r,anyB],fun i=>by simp only [b3r,anyB,Bool.or_assoc]⟩);have H5R:=hid (show b5r N 0=b5c N ck∧∀i,b5r N (i+1)=(b5r N i || !(isNm (R i).nm)) from by rw [hN];exact ⟨by simp [b5r,anyB],fun i=>by simp only [b5r,anyB,Bool.or_assoc]⟩);have H6R:=hid (show b6r N 0=b6c N ck∧∀i,b6r N (i+1)=(b6r N i || anyB (fun p=>decide ((R p).nm=(R i).nm)) i) from by rw [hN];exact ⟨by simp [b6r,anyB],fun i=>by simp only [b6r,anyB,Bool.or_assoc]⟩);have H7R:=hid (show b7r N 0=false∧∀i,b7r N (i+1)=(b7r N i || anyB (fun p=>decide ((ck:Int)≤(R i).col p)) (R i).tk) from by rw [hN];exact ⟨rfl,fun i=>rfl⟩);have HANS:=hid (show ev (b3r N rk) (b5r N rk) (b6r N rk) (b7r N rk)=ans from by rw [hN];exact hans);show Calls Tryz.prog 51 #[.agg #[.bool s,.slice x n c,.slice y m d,.slice ca ck cc,.slice ra rk rc]] w fun e w'=>e=.returned (.int .i64 ans)∧Below w.heap.size w w'
 clear hC hR hN hfo hs hans;have e1:¬(ck:Int) > 64:=by omega
 have e2:¬(rk:Int) > 64:=by omega
 go_enter Tryz.func51,Tryz.ntmps51;go_wp2_with fail
 have HB:=hid (below_alloc (Below.refl w.heap.size w) (.cells #[.bool s,.slice x n c,.slice y m d,.slice ca ck cc,.slice ra rk rc] 28));have k3:(w.alloc (.cells #[.bool s,.slice x n c,.slice y m d,.slice ca ck cc,.slice ra rk rc] 28)).cell? ⟨w.heap.size,3,none⟩=some (.slice ca ck cc):=by simp [go_sem]
 have k4:(w.alloc (.cells #[.bool s,.slice x n c,.slice y m d,.slice ca ck cc,.slice ra rk rc] 28)).cell? ⟨w.heap.size,4,none⟩=some (.slice ra rk rc):=by simp [go_sem]
 refine (CO.out _ HB.out).mono ?_;rintro r w1 ⟨rfl,hb1⟩;have HK3:=hid (kCb hb1 k3);have HK4:=hid (kCb hb1 k4)
 have HB1:=hid (HB.out.trans (hb1.mono HB.out.size));generalize w1=w0 at *;clear hb1 HB CO k3 k4;have HD0:Hid (DL w0 w0 (.slice none 0 0) [] 0 (ev false false false false)):=⟨Below.refl _ _,rowG_nil _ _ _ _,Nat.le_refl _,rfl⟩
 go_upto_if 27 with fail
 go_cut [3] from 24 to 30 (fun v wx=>∃(wz:World) (L:List Int),wz=wx∧Hid (DL w0 wz v L (0+1) (ev (!fo) false false false)))
 case first =>
  cases fo
  ·have hs0:=trivial;have hsz:=HD0.out.1.size;have hln:=HD0.out.2.2.1;go_wp2_with (at_builtin;go_must (refine wpList_append_oneW w0 rfl (.tmp 28) (.tmp 29) 126 rfl w0.heap.size 3 8 1 (.int .i64 0) Tryz.underlying126 Tryz.infoInt rfl (by decide) nzi (.slice none 0 0) 0 (ils []) rfl HD0.out.2.1 #[.int .i64 3] rfl rfl (onei _) (noti _) ?p1 ?p2 hsz ?_))
   case p1=>omega
   case p2=>omega
   intro g8 cap8 w8 hr8 hk8 hb8 hg8 hl8;have HD8:=hid (HD0.out.app hr8 hb8);clear hr8 hk8 hb8 hg8 hl8 hsz hln;go_wp2_with fail
   go_meet
   exact ⟨_,_,rfl,HD8.out.mono (by omega) (by rw [ev3];simp)⟩
  ·go_wp2_with fail
   go_meet
   exact ⟨_,_,rfl,HD0.out.mono (by omega) (by simp)⟩
 case rest =>
  obtain ⟨w2,L,rfl,HD⟩:=hcut;replace HD:=hid (HD.out.mono (e':=ev (b3c N 0) (b5c N 0) (b6c N 0) false) (Nat.le_refl _) (by rw [H3.out,H5C.out.1,H6C.out.1]));clear HD0;have k3:=kCb HD.out.1 HK3.out;go_wp2_with fail
  go_loopw [3,34] (fun ov t wr=>∃(i:Nat) (L:List Int),i≤ck∧t=.int .i64 i∧Hid (DL w0 wr ov L (1+i*70) (ev (b3c N i) (b5c N i) (b6c N i) false))) (fun _ t _=>ck-(intOf t).toNat)
  case atStart=>exact ⟨0,L,by omega,rfl,HD.out.mono (by omega) rfl⟩
  case round =>
   clear HD k3;obtain ⟨i,L,hi,rfl,HD⟩:=hrel;by_cases hlt:i<ck
   ·skip
    obtain ⟨b,o,rfl,hc,hn⟩:=(HC.out.below (HB1.out.trans (HD.out.1.mono HB1.out.size))) i hlt;obtain ⟨t1,ht1⟩:∃t,nfB (C i).cost=t:=⟨_,rfl⟩;obtain ⟨t2,ht2⟩:∃t,abB (C i).lo (C i).hi=t:=⟨_,rfl⟩;obtain ⟨t3,ht3⟩:∃t,isNm (C i).nm=t:=⟨_,rfl⟩;have C1:=hid (fun w' (hw:Below wr.heap.size wr w')=>qForm_c (w:=w') (s:=(C i).cost.s) (c:=(C i).cost.c) (d:=(C i).cost.d) (hn.cost.below hw).1 (HSC.out i hlt).1.1 (HSC.out i hlt).1.2);have C2:=hid (fun w' (hw:Below wr.heap.size wr w')=>fBounds_c (w:=w') (hn.lo.below hw) (hn.hi.below hw) (HSC.out i hlt).2.1 (HSC.out i hlt).2.2);have C3:=hid (fun w'=>fName_c (w:=w') (s:=(C i).nm) hn.nm);rw [show rfB (C i).cost.s (C i).cost.f (C i).cost.n (C i).cost.g (C i).cost.m=t1 from ht1] at C1;rw [ht2] at C2;rw [ht3] at C3;have E3:=hid (H3C.out i);have E5:=hid (H5C.out.2 i);have E6:=hid (H6C.out.2 i);rw [ht1,ht2] at E3;rw [ht3] at E5;obtain ⟨zi,hzi⟩:∃z,(C i).nm=z:=⟨_,rfl⟩;rw [hzi] at E6;obtain ⟨⟨z,⟨s0,x0,n0,c0,f0,y0,m0,d0,g0⟩,⟨i1,⟨s1,x1,n1,c1,f1,y1,m1,d1,g1⟩⟩,⟨i2,⟨s2,x2,n2,c2,f2,y2,m2,d2,g2⟩⟩⟩,hCi⟩:∃t,C i=t:=⟨_,rfl⟩;rw [hCi] at hc C1 C2 C3 hzi;replace hzi:z=zi:=hzi;subst hzi;replace C1:Hid (∀w' (hw:Below wr.heap.size wr w'),Calls Tryz.prog 87 #[.agg #[.bool s0,.slice x0 n0 c0,.slice y0 m0 d0]] w' fun r w2=>r=.returned (.bool t1)∧Below w'.heap.size w' w2):=C1;replace C2:Hid (∀w' (hw:Below wr.heap.size wr w'),Calls Tryz.prog 88 #[.agg #[.int .i64 i1,.bool s1,.slice x1 n1 c1,.slice y1 m1 d1],.agg #[.int .i64 i2,.bool s2,.slice x2 n2 c2,.slice y2 m2 d2]] w' fun r w2=>r=.returned (.bool t2)∧Below w'.heap.size w' w2):=C2;replace C3:Hid (∀w',Calls Tryz.prog 89 #[.string z] w' fun r w2=>r=.returned (.bool t3)∧w2=w'):=C3;have q0:wr.cell? ⟨b,o+i*12,none⟩=some (.string z):=hc 0 _ rfl;have q1:wr.cell? ⟨b,o+i*12+1,none⟩=some (.bool s0):=hc 1 _ rfl;have q2:wr.cell? ⟨b,o+i*12+2,none⟩=some (.slice x0 n0 c0):=hc 2 _ rfl;have q3:wr.cell? ⟨b,o+i*12+3,none⟩=some (.slice y0 m0 d0):=hc 3 _ rfl;have q4:wr.cell? ⟨b,o+i*12+4,none⟩=some (.int .i64 i1):=hc 4 _ rfl;have q5:wr.cell? ⟨b,o+i*12+5,none⟩=some (.bool s1):=hc 5 _ rfl;have q6:wr.cell? ⟨b,o+i*12+6,none⟩=some (.slice x1 n1 c1):=hc 6 _ rfl;have q7:wr.cell? ⟨b,o+i*12+7,none⟩=some (.slice y1 m1 d1):=hc 7 _ rfl;have q8:wr.cell? ⟨b,o+i*12+8,none⟩=some (.int .i64 i2):=hc 8 _ rfl;have q9:wr.cell? ⟨b,o+i*12+9,none⟩=some (.bool s2):=hc 9 _ rfl;have q10:wr.cell? ⟨b,o+i*12+10,none⟩=some (.slice x2 n2 c2):=hc 10 _ rfl;have q11:wr.cell? ⟨b,o+i*12+11,none⟩=some (.slice y2 m2 d2):=hc 11 _ rfl;have i1':((i:Nat):Int)<((ck:Nat):Int):=by omega
    clear hCi hc hn ht1 ht2 ht3;go_upto_region 9 with fail
    have hb5:=below_alloc (Below.refl wr.heap.size wr) (.cells #[.string z,.bool s0,.slice x0 n0 c0,.slice y0 m0 d0,.int .i64 i1,.bool s1,.slice x1 n1 c1,.slice y1 m1 d1,.int .i64 i2,.bool s2,.slice x2 n2 c2,.slice y2 m2 d2] 65);have HD5:Hid (DX w0 (wr.alloc (.cells #[.string z,.bool s0,.slice x0 n0 c0,.slice y0 m0 d0,.int .i64 i1,.bool s1,.slice x1 n1 c1,.slice y1 m1 d1,.int .i64 i2,.bool s2,.slice x2 n2 c2,.slice y2 m2 d2] 65)) u3 L (1+i*70) (ev (b3c N i) (b5c N i) (b6c N i) false) wr.heap.size [.string z,.bool s0,.slice x0 n0 c0,.slice y0 m0 d0,.int .i64 i1,.bool s1,.slice x1 n1 c1,.slice y1 m1 d1,.int .i64 i2,.bool s2,.slice x2 n2 c2,.slice y2 m2 d2] 65):=HD.out.dx [.string z,.bool s0,.slice x0 n0 c0,.slice y0 m0 d0,.int .i64 i1,.bool s1,.slice x1 n1 c1,.slice y1 m1 d1,.int .i64 i2,.bool s2,.slice x2 n2 c2,.slice y2 m2 d2] 65;have a0:=HD5.out.2.1.cell (j:=0) rfl;have a1:=HD5.out.2.1.cell (j:=1) rfl;have a2:=HD5.out.2.1.cell (j:=2) rfl;have a3:=HD5.out.2.1.cell (j:=3) rfl;have a4:=HD5.out.2.1.cell (j:=4) rfl;have a5:=HD5.out.2.1.cell (j:=5) rfl;have a6:=HD5.out.2.1.cell (j:=6) rfl;have a7:=HD5.out.2.1.cell (j:=7) rfl;have a8:=HD5.out.2.1.cell (j:=8) rfl;have a9:=HD5.out.2.1.cell (j:=9) rfl;have a10:=HD5.out.2.1.cell (j:=10) rfl;have a11:=HD5.out.2.1.cell (j:=11) rfl;clear HD q0 q1 q2 q3 q4 q5 q6 q7 q8 q9 q10 q11;generalize hw5:wr.alloc (.cells #[.string z,.bool s0,.slice x0 n0 c0,.slice y0 m0 d0,.int .i64 i1,.bool s1,.slice x1 n1 c1,.slice y1 m1 d1,.int .i64 i2,.bool s2,.slice x2 n2 c2,.slice y2 m2 d2] 65)=w5 at *;go_cut [50,34] from 34 to 79 (fun u t wx=>∃(wz:World),wz=wx∧u=.bool (!(t1 && t2))∧t=.int .i64 i∧Hid (Below w5.heap.size w5 wz))
    case first =>
     go_wp2_with fail
     refine (C1.out _ hb5).mono ?_;rintro r w6 ⟨rfl,hb6⟩;replace a4:=kCb hb6 a4;replace a5:=kCb hb6 a5;replace a6:=kCb hb6 a6;replace a7:=kCb hb6 a7;replace a8:=kCb hb6 a8;replace a9:=kCb hb6 a9;replace a10:=kCb hb6 a10;replace a11:=kCb hb6 a11;cases t1
     ·go_wp2_with fail
      go_meet
      exact ⟨_,rfl,rfl,rfl,hb6⟩
     ·go_wp2_with fail
      refine (C2.out _ (hb5.trans (hb6.mono hb5.size))).mono ?_;rintro r w7 ⟨rfl,hb7⟩;go_wp2_with fail
      go_meet
      exact ⟨_,rfl,by simp,rfl,hb6.trans (hb7.mono hb6.size)⟩
    case rest =>
     obtain ⟨w6,rfl,rfl,rfl,HB6⟩:=hcut;replace HD5:=hid (HD5.out.below HB6.out);obtain ⟨tb,htb⟩:∃t,(t1 && t2)=t:=⟨_,rfl⟩;rw [htb] at E3;simp only [htb];generalize wr.heap.size=bx at *;clear C1 C2 htb HB6 hb5 hw5 a0 a1 a2 a3 a4 a5 a6 a7 a8 a9 a10 a11
     go_upto_if 50 with fail
     go_cut [3,34] from 34 to 79 (fun v t34 wx=>∃(wz:World) (L:List Int),wz=wx∧t34=.int .i64 i∧Hid (DX w0 wz v L ((1+i*70)+1) (ev (b3c N i || !tb) (b5c N i) (b6c N i) false) bx [.string z,.bool s0,.slice x0 n0 c0,.slice y0 m0 d0,.int .i64 i1,.bool s1,.slice x1 n1 c1,.slice y1 m1 d1,.int .i64 i2,.bool s2,.slice x2 n2 c2,.slice y2 m2 d2] 65))
     case first =>
      cases tb
      ·have hs0:=trivial;have hsz:=HD5.out.1.1.size;have hln:=HD5.out.1.2.2.1;go_wp2_with (at_builtin;go_must (refine wpList_append_oneW w6 rfl (.tmp 51) (.tmp 52) 126 rfl w0.heap.size 3 8 1 (.int .i64 0) Tryz.underlying126 Tryz.infoInt rfl (by decide) nzi u3 L.length (ils L) rfl HD5.out.1.2.1 #[.int .i64 3] rfl rfl (onei _) (noti _) ?p1 ?p2 hsz ?_))
       case p1=>omega
       case p2=>omega
       intro g8 cap8 w8 hr8 hk8 hb8 hg8 hl8;have HD8:=hid (HD5.out.app hr8 hb8 hg8 hl8);clear hr8 hk8 hb8 hg8 hl8 hsz hln;go_wp2_with fail
       go_meet
       exact ⟨_,_,rfl,rfl,HD8.out.mono (by omega) (by rw [ev3];simp)⟩
      ·go_wp2_with fail
       go_meet
       exact ⟨_,_,rfl,rfl,HD5.out.mono (by omega) (by simp)⟩
     case rest =>
      obtain ⟨w7,L,rfl,rfl,HD7⟩:=hcut;clear HD5;have a0:=HD7.out.2.1.cell (j:=0) rfl;go_wp2_with fail
      refine (C3.out _).mono ?_;rintro r w7b ⟨rfl,rfl⟩;rw [←E3.out] at HD7
      go_upto_if 57 with fail
      go_cut [3,34] from 34 to 79 (fun v t34 wx=>∃(wz:World) (L:List Int),wz=wx∧t34=.int .i64 i∧Hid (DX w0 wz v L ((1+i*70)+1+1) (ev (b3c N (i+1)) (b5c N i || !t3) (b6c N i) false) bx [.string z,.bool s0,.slice x0 n0 c0,.slice y0 m0 d0,.int .i64 i1,.bool s1,.slice x1 n1 c1,.slice y1 m1 d1,.int .i64 i2,.bool s2,.slice x2 n2 c2,.slice y2 m2 d2] 65))
      case first =>
       cases t3
       ·have hs0:=trivial;have hsz:=HD7.out.1.1.size;have hln:=HD7.out.1.2.2.1;go_wp2_with (at_builtin;go_must (refine wpList_append_oneW w7b rfl (.tmp 58) (.tmp 59) 126 rfl w0.heap.size 3 8 1 (.int .i64 0) Tryz.underlying126 Tryz.infoInt rfl (by decide) nzi u3 L.length (ils L) rfl HD7.out.1.2.1 #[.int .i64 5] rfl rfl (onei _) (noti _) ?p1 ?p2 hsz ?_))
        case p1=>omega
        case p2=>omega
        intro g8 cap8 w8 hr8 hk8 hb8 hg8 hl8;have HD8:=hid (HD7.out.app hr8 hb8 hg8 hl8);clear hr8 hk8 hb8 hg8 hl8 hsz hln;go_wp2_with fail
        go_meet
        exact ⟨_,_,rfl,rfl,HD8.out.mono (by omega) (by rw [ev5];simp)⟩
       ·go_wp2_with fail
        go_meet
        exact ⟨_,_,rfl,rfl,HD7.out.mono (by omega) (by simp)⟩
      case rest =>
       obtain ⟨w8,L,rfl,rfl,HD⟩:=hcut;clear HD7 a0 C3;rw [←E5.out] at HD;have k3:=kCb HD.out.1.1 HK3.out;have j1:((i:Nat):Int)≤((cc:Nat):Int):=by omega
       go_wp2_with fail
       go_loopw [3,66] (fun ov t wr=>∃(p:Nat) (L:List Int),p≤i∧t=.int .i64 p∧Hid (DX w0 wr ov L ((1+i*70)+2+p) (ev (b3c N (i+1)) (b5c N (i+1)) (b6c N i || anyB (fun q=>decide ((C q).nm=z)) p) false) bx [.string z,.bool s0,.slice x0 n0 c0,.slice y0 m0 d0,.int .i64 i1,.bool s1,.slice x1 n1 c1,.slice y1 m1 d1,.int .i64 i2,.bool s2,.slice x2 n2 c2,.slice y2 m2 d2] 65)) (fun _ t _=>i-(intOf t).toNat)
       case atStart=>exact ⟨0,L,by omega,rfl,HD.out.mono (by omega) (by simp [anyB])⟩
       case round =>
        clear HD k3;obtain ⟨p,L,hp,rfl,HD⟩:=hrel;by_cases hlp:p<i
        ·obtain ⟨b',o',e',hc,hn⟩:=(HC.out.below (HB1.out.trans (HD.out.1.1.mono HB1.out.size))) p (by omega);cases e'
         obtain ⟨⟨vz,⟨vs0,vx0,vn0,vc0,vf0,vy0,vm0,vd0,vg0⟩,⟨vi1,⟨vs1,vx1,vn1,vc1,vf1,vy1,vm1,vd1,vg1⟩⟩,⟨vi2,⟨vs2,vx2,vn2,vc2,vf2,vy2,vm2,vd2,vg2⟩⟩⟩,hCp⟩:∃t,C p=t:=⟨_,rfl⟩;rw [hCp] at hc;have HNP:=hid (show (C p).nm=vz from by rw [hCp]);have q0:wr.cell? ⟨b,o+p*12,none⟩=some (.string vz):=hc 0 _ rfl;have q1:wr.cell? ⟨b,o+p*12+1,none⟩=some (.bool vs0):=hc 1 _ rfl;have q2:wr.cell? ⟨b,o+p*12+2,none⟩=some (.slice vx0 vn0 vc0):=hc 2 _ rfl;have q3:wr.cell? ⟨b,o+p*12+3,none⟩=some (.slice vy0 vm0 vd0):=hc 3 _ rfl;have q4:wr.cell? ⟨b,o+p*12+4,none⟩=some (.int .i64 vi1):=hc 4 _ rfl;have q5:wr.cell? ⟨b,o+p*12+5,none⟩=some (.bool vs1):=hc 5 _ rfl;have q6:wr.cell? ⟨b,o+p*12+6,none⟩=some (.slice vx1 vn1 vc1):=hc 6 _ rfl;have q7:wr.cell? ⟨b,o+p*12+7,none⟩=some (.slice vy1 vm1 vd1):=hc 7 _ rfl;have q8:wr.cell? ⟨b,o+p*12+8,none⟩=some (.int .i64 vi2):=hc 8 _ rfl;have q9:wr.cell? ⟨b,o+p*12+9,none⟩=some (.bool vs2):=hc 9 _ rfl;have q10:wr.cell? ⟨b,o+p*12+10,none⟩=some (.slice vx2 vn2 vc2):=hc 10 _ rfl;have q11:wr.cell? ⟨b,o+p*12+11,none⟩=some (.slice vy2 vm2 vd2):=hc 11 _ rfl;have a0:=HD.out.2.1.cell (j:=0) rfl;have hblt:=HD.out.2.1.lt;have i2':((p:Nat):Int)<((i:Nat):Int):=by omega
         have HD5:=hid (HD.out.below (below_alloc (Below.refl wr.heap.size wr) (.cells #[.string vz,.bool vs0,.slice vx0 vn0 vc0,.slice vy0 vm0 vd0,.int .i64 vi1,.bool vs1,.slice vx1 vn1 vc1,.slice vy1 vm1 vd1,.int .i64 vi2,.bool vs2,.slice vx2 vn2 vc2,.slice vy2 vm2 vd2] 65)));have hbne:¬(bx=wr.heap.size):=by omega
         have a05:=HD5.out.2.1.cell (j:=0) rfl;clear hCp hc hn;by_cases hzq:vz=z
         ·subst hzq
          go_upto_if 74 with fail
          generalize wr.alloc (.cells #[.string vz,.bool vs0,.slice vx0 vn0 vc0,.slice vy0 vm0 vd0,.int .i64 vi1,.bool vs1,.slice vx1 vn1 vc1,.slice vy1 vm1 vd1,.int .i64 vi2,.bool vs2,.slice vx2 vn2 vc2,.slice vy2 vm2 vd2] 65)=w5 at *;have hsz:=HD5.out.1.1.size;have hln:=HD5.out.1.2.2.1;go_wp2_with (at_builtin;go_must (refine wpList_append_oneW w5 rfl (.tmp 75) (.tmp 76) 126 rfl w0.heap.size 3 8 1 (.int .i64 0) Tryz.underlying126 Tryz.infoInt rfl (by decide) nzi u3 L.length (ils L) rfl HD5.out.1.2.1 #[.int .i64 6] rfl rfl (onei _) (noti _) ?p1 ?p2 hsz ?_))
          case p1=>omega
          case p2=>omega
          intro g8 cap8 w8 hr8 hk8 hb8 hg8 hl8;have HD8:=hid (HD5.out.app hr8 hb8 hg8 hl8);clear hr8 hk8 hb8 hg8 hl8 hsz hln;go_wp2;go_roundw
          case rel=>exact ⟨p+1,_,by omega,by go_num,HD8.out.mono (by omega) (by rw [ev6];simp [anyB,HNP.out])⟩
          case measure=>simp [intOf];omega
         ·have hne:=str_ne hzq;go_wp2;go_roundw
          case rel=>exact ⟨p+1,_,by omega,by go_num,HD5.out.mono (by omega) (by simp [anyB,HNP.out,hzq])⟩
          case measure=>simp [intOf];omega
        ·have e1:p=i:=by omega
         have i2':¬(((p:Nat):Int)<((i:Nat):Int)):=by omega
         rw [e1] at HD;have HD9:=hid (HD.out.1.mono (k':=1+(i+1)*70) (e':=ev (b3c N (i+1)) (b5c N (i+1)) (b6c N (i+1)) false) (by omega) (by rw [E6.out]));clear HD e1;go_wp2;go_roundw
         case rel=>exact ⟨i+1,L,by omega,by go_num,HD9.out⟩
         case measure=>simp [intOf];omega
   ·have e1:i=ck:=by omega
    have i2':¬(((i:Nat):Int)<((ck:Nat):Int)):=by omega
    rw [e1] at HD;have HD2:=hid (HD.out.mono (k':=5000) (e':=ev (b3r N 0) (b5r N 0) (b6r N 0) (b7r N 0)) (by omega) (by rw [H3R.out.1,H5R.out.1,H6R.out.1,H7R.out.1]));have k4:=kCb HD2.out.1 HK4.out;clear HD e1;go_wp2_with fail
    go_loopw [3,83] (fun ov t wr=>∃(i:Nat) (L:List Int),i≤rk∧t=.int .i64 i∧Hid (DL w0 wr ov L (5000+i*10100) (ev (b3r N i) (b5r N i) (b6r N i) (b7r N i)))) (fun _ t _=>rk-(intOf t).toNat)
    case atStart=>exact ⟨0,L,by omega,rfl,HD2.out.mono (by omega) rfl⟩
    case round =>
     clear HD2 k4;obtain ⟨i,L,hi,rfl,HD⟩:=hrel;by_cases hlt:i<rk
     ·skip
      obtain ⟨b,o,rfl,hc,hn⟩:=(HRL.out.below (HB1.out.trans (HD.out.1.mono HB1.out.size))) i hlt;obtain ⟨t1,ht1⟩:∃t,tfB (R i).tk (R i).col (R i).T=t:=⟨_,rfl⟩;obtain ⟨t2,ht2⟩:∃t,abB (R i).lo (R i).hi=t:=⟨_,rfl⟩;obtain ⟨t3,ht3⟩:∃t,isNm (R i).nm=t:=⟨_,rfl⟩;have C1:=hid (fun w' (hw:Below wr.heap.size wr w')=>fForm_c (w:=w') (cap:=(R i).tc) (hn.tl.below hw) (HSR.out i hlt).2.2.1 (HSR.out i hlt).2.2.2);have C2:=hid (fun w' (hw:Below wr.heap.size wr w')=>fBounds_c (w:=w') (hn.lo.below hw) (hn.hi.below hw) (HSR.out i hlt).1 (HSR.out i hlt).2.1);have C3:=hid (fun w'=>fName_c (w:=w') (s:=(R i).nm) hn.nm);rw [ht1] at C1;rw [ht2] at C2;rw [ht3] at C3;have E3:=hid (H3R.out.2 i);have E5:=hid (H5R.out.2 i);have E6:=hid (H6R.out.2 i);rw [ht1,ht2] at E3;rw [ht3] at E5;have E7:=hid (H7R.out.2 i);have HTL:=hid (show Tl w (R i).ta (R i).tk (R i).col (R i).T from by obtain ⟨_,_,_,_,h⟩:=HRL.out i hlt;exact h.tl);have hltk:=(HSR.out i hlt).2.2.1;obtain ⟨zi,hzi⟩:∃z,(R i).nm=z:=⟨_,rfl⟩;rw [hzi] at E6;obtain ⟨⟨z,⟨i1,⟨s1,x1,n1,c1,f1,y1,m1,d1,g1⟩⟩,⟨i2,⟨s2,x2,n2,c2,f2,y2,m2,d2,g2⟩⟩,ta,tk,tc,tcol,tt⟩,hCi⟩:∃t,R i=t:=⟨_,rfl⟩;rw [hCi] at hc C1 C2 C3 hzi E7 HTL hltk;replace hzi:z=zi:=hzi;subst hzi;replace E7:Hid (b7r N (i+1)=(b7r N i || anyB (fun p=>decide ((ck:Int)≤tcol p)) tk)):=E7;replace HTL:Hid (Tl w ta tk tcol tt):=HTL;replace hltk:tk≤10000:=hltk;replace C1:Hid (∀w' (hw:Below wr.heap.size wr w'),Calls Tryz.prog 90 #[.slice ta tk tc] w' fun r w2=>r=.returned (.bool t1)∧Below w'.heap.size w' w2):=C1;replace C2:Hid (∀w' (hw:Below wr.heap.size wr w'),Calls Tryz.prog 88 #[.agg #[.int .i64 i1,.bool s1,.slice x1 n1 c1,.slice y1 m1 d1],.agg #[.int .i64 i2,.bool s2,.slice x2 n2 c2,.slice y2 m2 d2]] w' fun r w2=>r=.returned (.bool t2)∧Below w'.heap.size w' w2):=C2;replace C3:Hid (∀w',Calls Tryz.prog 89 #[.string z] w' fun r w2=>r=.returned (.bool t3)∧w2=w'):=C3;have q0:wr.cell? ⟨b,o+i*10,none⟩=some (.string z):=hc 0 _ rfl;have q1:wr.cell? ⟨b,o+i*10+1,none⟩=some (.int .i64 i1):=hc 1 _ rfl;have q2:wr.cell? ⟨b,o+i*10+2,none⟩=some (.bool s1):=hc 2 _ rfl;have q3:wr.cell? ⟨b,o+i*10+3,none⟩=some (.slice x1 n1 c1):=hc 3 _ rfl;have q4:wr.cell? ⟨b,o+i*10+4,none⟩=some (.slice y1 m1 d1):=hc 4 _ rfl;have q5:wr.cell? ⟨b,o+i*10+5,none⟩=some (.int .i64 i2):=hc 5 _ rfl;have q6:wr.cell? ⟨b,o+i*10+6,none⟩=some (.bool s2):=hc 6 _ rfl;have q7:wr.cell? ⟨b,o+i*10+7,none⟩=some (.slice x2 n2 c2):=hc 7 _ rfl;have q8:wr.cell? ⟨b,o+i*10+8,none⟩=some (.slice y2 m2 d2):=hc 8 _ rfl;have q9:wr.cell? ⟨b,o+i*10+9,none⟩=some (.slice ta tk tc):=hc 9 _ rfl;have i1':((i:Nat):Int)<((rk:Nat):Int):=by omega
      clear hCi hc hn ht1 ht2 ht3;go_upto_region 23 with fail
      have hb5:=below_alloc (Below.refl wr.heap.size wr) (.cells #[.string z,.int .i64 i1,.bool s1,.slice x1 n1 c1,.slice y1 m1 d1,.int .i64 i2,.bool s2,.slice x2 n2 c2,.slice y2 m2 d2,.slice ta tk tc] 68);have HD5:Hid (DX w0 (wr.alloc (.cells #[.string z,.int .i64 i1,.bool s1,.slice x1 n1 c1,.slice y1 m1 d1,.int .i64 i2,.bool s2,.slice x2 n2 c2,.slice y2 m2 d2,.slice ta tk tc] 68)) u3 L (5000+i*10100) (ev (b3r N i) (b5r N i) (b6r N i) (b7r N i)) wr.heap.size [.string z,.int .i64 i1,.bool s1,.slice x1 n1 c1,.slice y1 m1 d1,.int .i64 i2,.bool s2,.slice x2 n2 c2,.slice y2 m2 d2,.slice ta tk tc] 68):=HD.out.dx [.string z,.int .i64 i1,.bool s1,.slice x1 n1 c1,.slice y1 m1 d1,.int .i64 i2,.bool s2,.slice x2 n2 c2,.slice y2 m2 d2,.slice ta tk tc] 68;have a0:=HD5.out.2.1.cell (j:=0) rfl;have a1:=HD5.out.2.1.cell (j:=1) rfl;have a2:=HD5.out.2.1.cell (j:=2) rfl;have a3:=HD5.out.2.1.cell (j:=3) rfl;have a4:=HD5.out.2.1.cell (j:=4) rfl;have a5:=HD5.out.2.1.cell (j:=5) rfl;have a6:=HD5.out.2.1.cell (j:=6) rfl;have a7:=HD5.out.2.1.cell (j:=7) rfl;have a8:=HD5.out.2.1.cell (j:=8) rfl;have a9:=HD5.out.2.1.cell (j:=9) rfl;clear HD q0 q1 q2 q3 q4 q5 q6 q7 q8 q9;generalize hw5:wr.alloc (.cells #[.string z,.int .i64 i1,.bool s1,.slice x1 n1 c1,.slice y1 m1 d1,.int .i64 i2,.bool s2,.slice x2 n2 c2,.slice y2 m2 d2,.slice ta tk tc] 68)=w5 at *;go_cut [99,83] from 83 to 145 (fun u t wx=>∃(wz:World),wz=wx∧u=.bool (!(t1 && t2))∧t=.int .i64 i∧Hid (Below w5.heap.size w5 wz))
      case first =>
       go_wp2_with fail
       refine (C1.out _ hb5).mono ?_;rintro r w6 ⟨rfl,hb6⟩;replace a1:=kCb hb6 a1;replace a2:=kCb hb6 a2;replace a3:=kCb hb6 a3;replace a4:=kCb hb6 a4;replace a5:=kCb hb6 a5;replace a6:=kCb hb6 a6;replace a7:=kCb hb6 a7;replace a8:=kCb hb6 a8;replace a9:=kCb hb6 a9;cases t1
       ·go_wp2_with fail
        go_meet
        exact ⟨_,rfl,rfl,rfl,hb6⟩
       ·go_wp2_with fail
        refine (C2.out _ (hb5.trans (hb6.mono hb5.size))).mono ?_;rintro r w7 ⟨rfl,hb7⟩;go_wp2_with fail
        go_meet
        exact ⟨_,rfl,by simp,rfl,hb6.trans (hb7.mono hb6.size)⟩
      case rest =>
       obtain ⟨w6,rfl,rfl,rfl,HB6⟩:=hcut;replace HD5:=hid (HD5.out.below HB6.out);obtain ⟨tb,htb⟩:∃t,(t1 && t2)=t:=⟨_,rfl⟩;rw [htb] at E3;simp only [htb];generalize wr.heap.size=bx at *;clear C1 C2 htb HB6 hb5 hw5 a0 a1 a2 a3 a4 a5 a6 a7 a8 a9
       go_upto_if 99 with fail
       go_cut [3,83] from 83 to 145 (fun v t83 wx=>∃(wz:World) (L:List Int),wz=wx∧t83=.int .i64 i∧Hid (DX w0 wz v L ((5000+i*10100)+1) (ev (b3r N i || !tb) (b5r N i) (b6r N i) (b7r N i)) bx [.string z,.int .i64 i1,.bool s1,.slice x1 n1 c1,.slice y1 m1 d1,.int .i64 i2,.bool s2,.slice x2 n2 c2,.slice y2 m2 d2,.slice ta tk tc] 68))
       case first =>
        cases tb
        ·have hs0:=trivial;have hsz:=HD5.out.1.1.size;have hln:=HD5.out.1.2.2.1;go_wp2_with (at_builtin;go_must (refine wpList_append_oneW w6 rfl (.tmp 100) (.tmp 101) 126 rfl w0.heap.size 3 8 1 (.int .i64 0) Tryz.underlying126 Tryz.infoInt rfl (by decide) nzi u3 L.length (ils L) rfl HD5.out.1.2.1 #[.int .i64 3] rfl rfl (onei _) (noti _) ?p1 ?p2 hsz ?_))
         case p1=>omega
         case p2=>omega
         intro g8 cap8 w8 hr8 hk8 hb8 hg8 hl8;have HD8:=hid (HD5.out.app hr8 hb8 hg8 hl8);clear hr8 hk8 hb8 hg8 hl8 hsz hln;go_wp2_with fail
         go_meet
         exact ⟨_,_,rfl,rfl,HD8.out.mono (by omega) (by rw [ev3];simp)⟩
        ·go_wp2_with fail
         go_meet
         exact ⟨_,_,rfl,rfl,HD5.out.mono (by omega) (by simp)⟩
       case rest =>
        obtain ⟨w7,L,rfl,rfl,HD7⟩:=hcut;clear HD5;have a0:=HD7.out.2.1.cell (j:=0) rfl;go_wp2_with fail
        refine (C3.out _).mono ?_;rintro r w7b ⟨rfl,rfl⟩;rw [←E3.out] at HD7
        go_upto_if 106 with fail
        go_cut [3,83] from 83 to 145 (fun v t83 wx=>∃(wz:World) (L:List Int),wz=wx∧t83=.int .i64 i∧Hid (DX w0 wz v L ((5000+i*10100)+1+1) (ev (b3r N (i+1)) (b5r N i || !t3) (b6r N i) (b7r N i)) bx [.string z,.int .i64 i1,.bool s1,.slice x1 n1 c1,.slice y1 m1 d1,.int .i64 i2,.bool s2,.slice x2 n2 c2,.slice y2 m2 d2,.slice ta tk tc] 68))
        case first =>
         cases t3
         ·have hs0:=trivial;have hsz:=HD7.out.1.1.size;have hln:=HD7.out.1.2.2.1;go_wp2_with (at_builtin;go_must (refine wpList_append_oneW w7b rfl (.tmp 107) (.tmp 108) 126 rfl w0.heap.size 3 8 1 (.int .i64 0) Tryz.underlying126 Tryz.infoInt rfl (by decide) nzi u3 L.length (ils L) rfl HD7.out.1.2.1 #[.int .i64 5] rfl rfl (onei _) (noti _) ?p1 ?p2 hsz ?_))
          case p1=>omega
          case p2=>omega
          intro g8 cap8 w8 hr8 hk8 hb8 hg8 hl8;have HD8:=hid (HD7.out.app hr8 hb8 hg8 hl8);clear hr8 hk8 hb8 hg8 hl8 hsz hln;go_wp2_with fail
          go_meet
          exact ⟨_,_,rfl,rfl,HD8.out.mono (by omega) (by rw [ev5];simp)⟩
         ·go_wp2_with fail
          go_meet
          exact ⟨_,_,rfl,rfl,HD7.out.mono (by omega) (by simp)⟩
        case rest =>
         obtain ⟨w8,L,rfl,rfl,HD⟩:=hcut;clear HD7 a0 C3;rw [←E5.out] at HD;have k3:=kCb HD.out.1.1 HK4.out;have j1:((i:Nat):Int)≤((rc:Nat):Int):=by omega
         go_wp2_with fail
         go_loopw [3,115] (fun ov t wr=>∃(p:Nat) (L:List Int),p≤i∧t=.int .i64 p∧Hid (DX w0 wr ov L ((5000+i*10100)+2+p) (ev (b3r N (i+1)) (b5r N (i+1)) (b6r N i || anyB (fun q=>decide ((R q).nm=z)) p) (b7r N i)) bx [.string z,.int .i64 i1,.bool s1,.slice x1 n1 c1,.slice y1 m1 d1,.int .i64 i2,.bool s2,.slice x2 n2 c2,.slice y2 m2 d2,.slice ta tk tc] 68)) (fun _ t _=>i-(intOf t).toNat)
         case atStart=>exact ⟨0,L,by omega,rfl,HD.out.mono (by omega) (by simp [anyB])⟩
         case round =>
          clear HD k3;obtain ⟨p,L,hp,rfl,HD⟩:=hrel;by_cases hlp:p<i
          ·obtain ⟨b',o',e',hc,hn⟩:=(HRL.out.below (HB1.out.trans (HD.out.1.1.mono HB1.out.size))) p (by omega);cases e'
           obtain ⟨⟨vz,⟨vi1,⟨vs1,vx1,vn1,vc1,vf1,vy1,vm1,vd1,vg1⟩⟩,⟨vi2,⟨vs2,vx2,vn2,vc2,vf2,vy2,vm2,vd2,vg2⟩⟩,vta,vtk,vtc,vtcol,vtt⟩,hCp⟩:∃t,R p=t:=⟨_,rfl⟩;rw [hCp] at hc;have HNP:=hid (show (R p).nm=vz from by rw [hCp]);have q0:wr.cell? ⟨b,o+p*10,none⟩=some (.string vz):=hc 0 _ rfl;have q1:wr.cell? ⟨b,o+p*10+1,none⟩=some (.int .i64 vi1):=hc 1 _ rfl;have q2:wr.cell? ⟨b,o+p*10+2,none⟩=some (.bool vs1):=hc 2 _ rfl;have q3:wr.cell? ⟨b,o+p*10+3,none⟩=some (.slice vx1 vn1 vc1):=hc 3 _ rfl;have q4:wr.cell? ⟨b,o+p*10+4,none⟩=some (.slice vy1 vm1 vd1):=hc 4 _ rfl;have q5:wr.cell? ⟨b,o+p*10+5,none⟩=some (.int .i64 vi2):=hc 5 _ rfl;have q6:wr.cell? ⟨b,o+p*10+6,none⟩=some (.bool vs2):=hc 6 _ rfl;have q7:wr.cell? ⟨b,o+p*10+7,none⟩=some (.slice vx2 vn2 vc2):=hc 7 _ rfl;have q8:wr.cell? ⟨b,o+p*10+8,none⟩=some (.slice vy2 vm2 vd2):=hc 8 _ rfl;have q9:wr.cell? ⟨b,o+p*10+9,none⟩=some (.slice vta vtk vtc):=hc 9 _ rfl;have a0:=HD.out.2.1.cell (j:=0) rfl;have hblt:=HD.out.2.1.lt;have i2':((p:Nat):Int)<((i:Nat):Int):=by omega
           have HD5:=hid (HD.out.below (below_alloc (Below.refl wr.heap.size wr) (.cells #[.string vz,.int .i64 vi1,.bool vs1,.slice vx1 vn1 vc1,.slice vy1 vm1 vd1,.int .i64 vi2,.bool vs2,.slice vx2 vn2 vc2,.slice vy2 vm2 vd2,.slice vta vtk vtc] 68)));have hbne:¬(bx=wr.heap.size):=by omega
           have a05:=HD5.out.2.1.cell (j:=0) rfl;clear hCp hc hn;by_cases hzq:vz=z
           ·subst hzq
            go_upto_if 123 with fail
            generalize wr.alloc (.cells #[.string vz,.int .i64 vi1,.bool vs1,.slice vx1 vn1 vc1,.slice vy1 vm1 vd1,.int .i64 vi2,.bool vs2,.slice vx2 vn2 vc2,.slice vy2 vm2 vd2,.slice vta vtk vtc] 68)=w5 at *;have hsz:=HD5.out.1.1.size;have hln:=HD5.out.1.2.2.1;go_wp2_with (at_builtin;go_must (refine wpList_append_oneW w5 rfl (.tmp 124) (.tmp 125) 126 rfl w0.heap.size 3 8 1 (.int .i64 0) Tryz.underlying126 Tryz.infoInt rfl (by decide) nzi u3 L.length (ils L) rfl HD5.out.1.2.1 #[.int .i64 6] rfl rfl (onei _) (noti _) ?p1 ?p2 hsz ?_))
            case p1=>omega
            case p2=>omega
            intro g8 cap8 w8 hr8 hk8 hb8 hg8 hl8;have HD8:=hid (HD5.out.app hr8 hb8 hg8 hl8);clear hr8 hk8 hb8 hg8 hl8 hsz hln;go_wp2;go_roundw
            case rel=>exact ⟨p+1,_,by omega,by go_num,HD8.out.mono (by omega) (by rw [ev6];simp [anyB,HNP.out])⟩
            case measure=>simp [intOf];omega
           ·have hne:=str_ne hzq;go_wp2;go_roundw
            case rel=>exact ⟨p+1,_,by omega,by go_num,HD5.out.mono (by omega) (by simp [anyB,HNP.out,hzq])⟩
            case measure=>simp [intOf];omega
          ·have e1:p=i:=by omega
           have i2':¬(((p:Nat):Int)<((i:Nat):Int)):=by omega
           rw [e1] at HD;have HD9:=hid (HD.out.mono (k':=(5000+i*10100)+66) (e':=ev (b3r N (i+1)) (b5r N (i+1)) (b6r N (i+1)) (b7r N i || anyB (fun q=>decide ((ck:Int)≤tcol q)) 0)) (by omega) (by rw [E6.out];simp [anyB]));clear HD e1;have a9:=HD9.out.2.1.cell (j:=9) rfl;go_wp2_with fail
           go_loopw [3,131] (fun ov t wr=>∃(p:Nat) (L:List Int),p≤tk∧t=.int .i64 p∧Hid (DX w0 wr ov L ((5000+i*10100)+66+p) (ev (b3r N (i+1)) (b5r N (i+1)) (b6r N (i+1)) (b7r N i || anyB (fun q=>decide ((ck:Int)≤tcol q)) p)) bx [.string z,.int .i64 i1,.bool s1,.slice x1 n1 c1,.slice y1 m1 d1,.int .i64 i2,.bool s2,.slice x2 n2 c2,.slice y2 m2 d2,.slice ta tk tc] 68)) (fun _ t _=>tk-(intOf t).toNat)
           case atStart=>exact ⟨0,L,by omega,rfl,HD9.out.mono (by omega) rfl⟩
           case round =>
            clear HD9 a9;obtain ⟨p,L,hp,rfl,HD⟩:=hrel;by_cases hlp:p<tk
            ·obtain ⟨b2,o2,rfl,⟨x0,x1,x2,x3⟩,_⟩:=(HTL.out.below (HB1.out.trans (HD.out.1.1.mono HB1.out.size))) p hlp;obtain ⟨⟨js,jx,jn,jc,jf,jy,jm,jd,jg⟩,hTp⟩:∃t,tt p=t:=⟨_,rfl⟩;obtain ⟨jz,hjz⟩:∃t,tcol p=t:=⟨_,rfl⟩;rw [hTp] at x1 x2 x3;rw [hjz] at x0;replace x0:wr.cell? ⟨b2,o2+p*4,none⟩=some (.int .i64 jz):=x0;replace x1:wr.cell? ⟨b2,o2+p*4+1,none⟩=some (.bool js):=x1;replace x2:wr.cell? ⟨b2,o2+p*4+2,none⟩=some (.slice jx jn jc):=x2;replace x3:wr.cell? ⟨b2,o2+p*4+3,none⟩=some (.slice jy jm jd):=x3;have k3:=kCb HD.out.1.1 HK3.out;have hkl:=World.block_lt_of_cell? wr _ k3;replace hkl:w.heap.size<wr.heap.size:=hkl;have k35:(wr.alloc (.cells #[.int .i64 jz,.bool js,.slice jx jn jc,.slice jy jm jd] 70)).cell? ⟨w.heap.size,3,none⟩=some (.slice ca ck cc):=kCa k3;have i2':((p:Nat):Int)<((tk:Nat):Int):=by omega
             have HJZ:=hid hjz;have HD5:=hid (HD.out.below (below_alloc (Below.refl wr.heap.size wr) (.cells #[.int .i64 jz,.bool js,.slice jx jn jc,.slice jy jm jd] 70)));clear hTp hjz;by_cases hge:(ck:Int)≤jz
             ·go_upto_if 140 with fail
              generalize wr.alloc (.cells #[.int .i64 jz,.bool js,.slice jx jn jc,.slice jy jm jd] 70)=w5 at *;have hsz:=HD5.out.1.1.size;have hln:=HD5.out.1.2.2.1;go_wp2_with (at_builtin;go_must (refine wpList_append_oneW w5 rfl (.tmp 141) (.tmp 142) 126 rfl w0.heap.size 3 8 1 (.int .i64 0) Tryz.underlying126 Tryz.infoInt rfl (by decide) nzi u3 L.length (ils L) rfl HD5.out.1.2.1 #[.int .i64 7] rfl rfl (onei _) (noti _) ?p1 ?p2 hsz ?_))
              case p1=>omega
              case p2=>omega
              intro g8 cap8 w8 hr8 hk8 hb8 hg8 hl8;have HD8:=hid (HD5.out.app hr8 hb8 hg8 hl8);clear hr8 hk8 hb8 hg8 hl8 hsz hln;go_wp2;go_roundw
              case rel=>exact ⟨p+1,_,by omega,by go_num,HD8.out.mono (by omega) (by rw [ev7];simp [anyB,HJZ.out,hge])⟩
              case measure=>simp [intOf];omega
             ·go_wp2;go_roundw
              case rel=>exact ⟨p+1,_,by omega,by go_num,HD5.out.mono (by omega) (by simp [anyB,HJZ.out,hge])⟩
              case measure=>simp [intOf];omega
            ·have e1:p=tk:=by omega
             have i2':¬(((p:Nat):Int)<((tk:Nat):Int)):=by omega
             rw [e1] at HD;have HD9:=hid (HD.out.1.mono (k':=5000+(i+1)*10100) (e':=ev (b3r N (i+1)) (b5r N (i+1)) (b6r N (i+1)) (b7r N (i+1))) (by omega) (by rw [E7.out]));clear HD e1;go_wp2;go_roundw
             case rel=>exact ⟨i+1,L,by omega,by go_num,HD9.out⟩
             case measure=>simp [intOf];omega
     ·have e1:i=rk:=by omega
      have i2':¬(((i:Nat):Int)<((rk:Nat):Int)):=by omega
      rw [e1] at HD;obtain ⟨aw,cw,rfl⟩:=HD.out.2.1.slice;have hln:=HD.out.2.2.1;have CL:=hid (fLeast_c (cap:=cw) (il_el (rowg_il HD.out.2.1)) (by omega));rw [lsf_lsl,HD.out.2.2.2,HANS.out] at CL;have HB9:=hid (HB1.out.trans (HD.out.1.mono HB1.out.size));clear HD e1;go_wp2_with fail
      refine CL.out.mono ?_;rintro r w9 ⟨rfl,rfl⟩;go_wp2;go_ret;exact ⟨rfl,HB9.out⟩
theorem anyB_iff {B:Nat→Bool}:∀{i:Nat},anyB B i=true ↔ ∃j,j<i∧B j=true
 | 0=>⟨fun h=>by simp [anyB] at h,fun ⟨j,hj,_⟩=>by omega⟩
 | i+1=>by
  simp only [anyB,Bool.or_eq_true,anyB_iff (i:=i)];constructor
  ·rintro (⟨j,h1,h2⟩ | h)
   ·exact ⟨j,by omega,h2⟩
   ·exact ⟨i,by omega,h⟩
  ·rintro ⟨j,h1,h2⟩;by_cases e:j=i
   ·subst e;exact .inr h2
   ·exact .inl ⟨j,by omega,h2⟩
theorem anyB_no {B:Nat→Bool} {i:Nat}:anyB B i=false ↔ ∀j,j<i→B j=false:=by
 rw [←Bool.not_eq_true,anyB_iff];constructor
 ·intro h j hj;cases hb:B j
  ·rfl
  ·exact absurd ⟨j,hj,hb⟩ h
 ·rintro h ⟨j,hj,hb⟩;rw [h j hj] at hb;cases hb
theorem nms_at {S:Nat→ByteArray}:∀{r i:Nat},nms S r i=true→∀j,i≤j→j<i+r→isNm (S j)=true
 | 0,_,_,j,h1,h2=>by omega
 | r+1,i,h,j,h1,h2=>by
  simp only [nms,Bool.and_eq_true] at h;by_cases e:j=i
  ·subst e;exact h.1
  ·exact nms_at h.2 j (by omega) (by omega)
theorem nms_of {S:Nat→ByteArray}:∀{r i:Nat},(∀j,i≤j→j<i+r→isNm (S j)=true)→nms S r i=true
 | 0,_,_=>rfl
 | r+1,i,h=>by simp only [nms];rw [h i (by omega) (by omega),nms_of (fun j a b=>h j (by omega) (by omega))];rfl
theorem twr_iff {S:Nat→ByteArray}:∀{r i:Nat},twr S r i=true ↔ ∃j,i≤j∧j<i+r∧sawB S j=true
 | 0,i=>⟨fun h=>by simp [twr] at h,fun ⟨j,h1,h2,_⟩=>by omega⟩
 | r+1,i=>by
  simp only [twr,Bool.or_eq_true,twr_iff (r:=r)];constructor
  ·rintro (h | ⟨j,h1,h2,h3⟩)
   ·exact ⟨i,by omega,by omega,h⟩
   ·exact ⟨j,by omega,by omega,h3⟩
  ·rintro ⟨j,h1,h2,h3⟩;by_cases e:j=i
   ·subst e;exact .inl h3
   ·exact .inr ⟨j,by omega,by omega,h3⟩
theorem nms_any (S:Nat→ByteArray) (k:Nat):nms S k 0=!(anyB (fun j=>!(isNm (S j))) k):=by
 rw [Bool.eq_iff_iff,Bool.not_eq_true',anyB_no];exact ⟨fun h j hj=>by rw [nms_at h j (by omega) (by omega)];rfl,fun h=>nms_of (fun j _ hj=>by simpa using h j (by omega))⟩
theorem twr_any (S:Nat→ByteArray) (k:Nat):twr S k 0=anyB (fun j=>anyB (fun p=>decide (S p=S j)) j) k:=by
 rw [Bool.eq_iff_iff,twr_iff,anyB_iff];constructor
 ·rintro ⟨j,_,h2,h3⟩;obtain ⟨p,hp,e⟩:=(sawB_iff S j).1 h3;exact ⟨j,by omega,anyB_iff.2 ⟨p,hp,by simpa using e⟩⟩
 ·rintro ⟨j,h1,h2⟩;obtain ⟨p,hp,e⟩:=anyB_iff.1 h2;exact ⟨j,by omega,by omega,(sawB_iff S j).2 ⟨p,hp,by simpa using e⟩⟩
theorem cls_any (C:Nat→Lc) (k:Nat):clsB C k 0=!(anyB (fun j=>!(nfB (C j).cost && abB (C j).lo (C j).hi)) k):=by
 rw [Bool.eq_iff_iff,Bool.not_eq_true',anyB_no];exact ⟨fun h j hj=>by obtain ⟨a,b⟩:=clsB_at h j (by omega) (by omega);rw [a,b];rfl,fun h=>clsB_of (fun j _ hj=>by simpa using h j (by omega))⟩
theorem rls_any (R:Nat→Lr) (k:Nat):rlsB R k 0=!(anyB (fun j=>!(tfB (R j).tk (R j).col (R j).T && abB (R j).lo (R j).hi)) k):=by
 rw [Bool.eq_iff_iff,Bool.not_eq_true',anyB_no];exact ⟨fun h j hj=>by obtain ⟨a,b⟩:=rlsB_at h j (by omega) (by omega);rw [a,b];rfl,fun h=>rlsB_of (fun j _ hj=>by have:=h j (by omega);simp at this;exact ⟨this.2,this.1⟩)⟩
theorem al_any {k:Nat} {R:Nat→Lr} {n:Nat} (h:∀j,j<n→tfB (R j).tk (R j).col (R j).T=true):alB k R n 0=!(anyB (fun j=>anyB (fun p=>decide ((k:Int)≤(R j).col p)) (R j).tk) n):=by
 rw [Bool.eq_iff_iff,Bool.not_eq_true',anyB_no];constructor
 ·intro ha j hj;refine anyB_no.2 (fun p hp=>?_);have:=(cols_at (h j hj) (alB_at ha j (by omega) (by omega)) p hp).2;simp;omega
 ·intro ha;refine alB_of (fun j _ hj=>?_);have:=anyB_no.1 (ha j (by omega));simp only [lastB,Bool.or_eq_true,decide_eq_true_eq];by_cases h0:(R j).tk=0
  ·exact .inl h0
  ·have:=this ((R j).tk-1) (by omega);simp at this;exact .inr (by omega)
theorem chk_ev {M:Mo} (h1:M.ck≤64) (h2:M.rk≤64):chkE M=ev (b3r M M.rk) (b5r M M.rk) (b6r M M.rk) (b7r M M.rk):=by
 have e0:(decide (64<M.ck) || decide (64<M.rk))=false:=by simp;omega
 have e1:moF M=!(b3r M M.rk):=by
  unfold moF b3r b3c;rw [cls_any,rls_any];simp only [Bool.not_or,Bool.not_not,Bool.and_assoc]
 have e2:(nms (fun j=>(M.C j).nm) M.ck 0 && nms (fun j=>(M.R j).nm) M.rk 0)=!(b5r M M.rk):=by
  unfold b5r b5c;rw [nms_any,nms_any,Bool.not_or]
 have e3:(twr (fun j=>(M.C j).nm) M.ck 0 || twr (fun j=>(M.R j).nm) M.rk 0)=b6r M M.rk:=by
  unfold b6r b6c;rw [twr_any,twr_any]
 unfold chkE chkV ev;rw [e0,e1,e2,e3];cases hb:b3r M M.rk
 ·have e4:alB M.ck M.R M.rk 0=!(b7r M M.rk):=al_any (fun j hj=>by
   rw [hb] at e1;simp only [moF,Bool.and_eq_true,Bool.not_false] at e1;exact (rlsB_at e1.2.2 j (by omega) (by omega)).2)
  rw [e4];cases b5r M M.rk <;> cases b6r M M.rk <;> cases b7r M M.rk <;> rfl
 ·rfl
set_option maxRecDepth 100000 in
set_option maxHeartbeats 4000000 in
theorem docCheckL_c {w:World} {M:Mo} (h:64<M.ck∨64<M.rk):Calls Tryz.prog 51 #[M.val] w fun r w'=>r=.returned (.int .i64 2)∧Below w.heap.size w w':=by
 obtain ⟨⟨s,x,n,c,f,y,m,d,g⟩,ca,ck,cc,C,ra,rk,rc,R⟩:=M;replace h:64<ck∨64<rk:=h;show Calls Tryz.prog 51 #[.agg #[.bool s,.slice x n c,.slice y m d,.slice ca ck cc,.slice ra rk rc]] w _;by_cases h1:64<ck
 ·have e1:(ck:Int) > 64:=by omega
  clear h1 h;go_enter Tryz.func51,Tryz.ntmps51;go_wp2;go_ret;exact ⟨rfl,below_alloc (Below.refl _ _) _⟩
 ·have e1:¬(ck:Int) > 64:=by omega
  have e2:(rk:Int) > 64:=by omega
  clear h1 h;go_enter Tryz.func51,Tryz.ntmps51;go_wp2;go_ret;exact ⟨rfl,below_alloc (Below.refl _ _) _⟩
def MoC (M:Mo):Prop:=(M.ck≤M.cc∧M.cc≤9223372036854775807)∧M.rk≤M.rc∧M.rc≤9223372036854775807
theorem docCheck_w {w:World} {M:Mo} (h:M.ck≤64→M.rk≤64→MoR w M∧MoS M) (hc:MoC M):Calls Tryz.prog 51 #[M.val] w fun r w'=>r=.returned (.int .i64 (chkE M))∧Below w.heap.size w w':=by
 by_cases h1:64<M.ck∨64<M.rk
 ·have e:chkE M=2:=by
   have:(decide (64<M.ck) || decide (64<M.rk))=true:=by simpa using h1
   rw [chkE,this];rfl
  rw [e];exact docCheckL_c h1
 ·obtain ⟨k1,k2⟩:=h (by omega) (by omega);rw [chk_ev (by omega) (by omega)];exact docCheckS_c k1 k2 (by omega) (by omega) hc
theorem Sn.exF {a b:Ex} (hi:b.i=a.i) (h:Sn a.v b.v):exF b=exF a:=by
 obtain ⟨h1,h2,h3,h4,h5⟩:=h;unfold Go.Proofs.YtdbbncamlaiajaaGreat.exF;rw [hi,h1,h2,h3,h4,h5]
theorem ab_congr {a b a' b':Ex} (h1:a'.i=a.i) (h2:Sn a.v a'.v) (h3:b'.i=b.i) (h4:Sn b.v b'.v):abB a' b'=abB a b:=by
 unfold abB;rw [Sn.exF h1 h2,Sn.exF h3 h4,h1,h3]
theorem clsB_congr {C C':Nat→Lc}:∀{r i:Nat},(∀j,i≤j→j<i+r→Sc (C j) (C' j))→clsB C' r i=clsB C r i
 | 0,_,_=>rfl
 | r+1,i,h=>by
  have k:=h i (by omega) (by omega);simp only [clsB];rw [k.cost.nfB,ab_congr k.li k.lo k.hi k.hv,clsB_congr (fun j a b=>h j (by omega) (by omega))]
theorem tfB_congr {r r':Lr} (k:Sr r r'):tfB r'.tk r'.col r'.T=tfB r.tk r.col r.T:=by
 unfold tfB;rw [k.tk,k.col]
 exact tfr_sn (fun j _ hj=>k.T j (by omega))
theorem rlsB_congr {R R':Nat→Lr}:∀{r i:Nat},(∀j,i≤j→j<i+r→Sr (R j) (R' j))→rlsB R' r i=rlsB R r i
 | 0,_,_=>rfl
 | r+1,i,h=>by
  have k:=h i (by omega) (by omega);simp only [rlsB];rw [tfB_congr k,ab_congr k.li k.lo k.hi k.hv,rlsB_congr (fun j a b=>h j (by omega) (by omega))]
theorem alB_congr {k:Nat} {R R':Nat→Lr}:∀{r i:Nat},(∀j,i≤j→j<i+r→Sr (R j) (R' j))→alB k R' r i=alB k R r i
 | 0,_,_=>rfl
 | r+1,i,h=>by
  have q:=h i (by omega) (by omega);simp only [alB,lastB];rw [q.tk,q.col,alB_congr (fun j a b=>h j (by omega) (by omega))]
theorem Sm.chk {M M':Mo} (h:Sm M M'):chkE M'=chkE M:=by
 have e1:moF M'=moF M:=by
  unfold moF;rw [h.off.nfB,h.ck,h.rk,clsB_congr (fun j _ hj=>h.C j (by omega)),rlsB_congr (fun j _ hj=>h.R j (by omega))]
 unfold chkE;rw [e1,h.ck,h.rk,nms_congr (S':=fun j=>(M.C j).nm) (fun j _ hj=>(h.C j (by omega)).nm),nms_congr (S':=fun j=>(M.R j).nm) (fun j _ hj=>(h.R j (by omega)).nm),
  twr_congr (S':=fun j=>(M.C j).nm) (fun j hj=>(h.C j (by omega)).nm),twr_congr (S':=fun j=>(M.R j).nm) (fun j hj=>(h.R j (by omega)).nm),alB_congr (fun j _ hj=>h.R j (by omega))]
theorem Sm.col {M M':Mo} (h:Sm M M') (z:ByteArray):atCol M' z=atCol M z:=by
 unfold atCol;rw [h.chk,h.ck,idx_congr (S':=fun j=>(M.C j).nm) (fun j _ hj=>(h.C j (by omega)).nm)]
theorem Sm.row {M M':Mo} (h:Sm M M') (z:ByteArray):atRow M' z=atRow M z:=by
 unfold atRow;rw [h.chk,h.rk,idx_congr (S':=fun j=>(M.R j).nm) (fun j _ hj=>(h.R j (by omega)).nm)]
structure MoN (M:Mo):Prop where
 c:∀j,j<M.ck→(M.C j).nm.size≤9223372036854775807
 r:∀j,j<M.rk→(M.R j).nm.size≤9223372036854775807
theorem Sm.mon {M M':Mo} (h:Sm M M') (k:MoN M):MoN M':=⟨fun j hj=>by rw [h.ck] at hj;rw [(h.C j hj).nm];exact k.c j hj,fun j hj=>by rw [h.rk] at hj;rw [(h.R j hj).nm];exact k.r j hj⟩
theorem clgs_at {K:Nat} {C:Nat→Lc}:∀{i:Nat},clgs K C i=true→∀j,j<i→cl3 K (C j)=true
 | 0,_,j,hj=>by omega
 | i+1,h,j,hj=>by
  simp only [clgs,Bool.and_eq_true] at h;by_cases e:j=i
  ·subst e;exact h.2
  ·exact clgs_at h.1 j (by omega)
theorem rlgs_at {K:Nat} {R:Nat→Lr}:∀{i:Nat},rlgs K R i=true→∀j,j<i→rl3 K (R j)=true
 | 0,_,j,hj=>by omega
 | i+1,h,j,hj=>by
  simp only [rlgs,Bool.and_eq_true] at h;by_cases e:j=i
  ·subst e;exact h.2
  ·exact rlgs_at h.1 j (by omega)
theorem nlg_at {K:Nat} {X:Nat→Nm}:∀{r i:Nat},nlg K X r i=true→∀j,i≤j→j<i+r→(X j).n≤K∧(X j).m≤K
 | 0,_,_,j,h1,h2=>by omega
 | r+1,i,h,j,h1,h2=>by
  simp only [nlg,lg,Bool.and_eq_true,decide_eq_true_eq] at h;by_cases e:j=i
  ·subst e;exact h.1
  ·exact nlg_at h.2 j (by omega) (by omega)
theorem lgN_at {K:Nat} {t:Nm} (h:lgN K t=true):t.n≤K∧t.m≤K:=by
 simpa only [lgN,lg,Bool.and_eq_true,decide_eq_true_eq] using h
structure MoK (K:Nat) (M:Mo):Prop where
 off:M.off.n≤K∧M.off.m≤K
 c:∀j,j<M.ck→((M.C j).cost.n≤K∧(M.C j).cost.m≤K)∧((M.C j).lo.v.n≤K∧(M.C j).lo.v.m≤K)∧(M.C j).hi.v.n≤K∧(M.C j).hi.v.m≤K
 r:∀j,j<M.rk→((M.R j).lo.v.n≤K∧(M.R j).lo.v.m≤K)∧((M.R j).hi.v.n≤K∧(M.R j).hi.v.m≤K)∧(M.R j).tk≤300∧∀p,p<(M.R j).tk→((M.R j).T p).n≤K∧((M.R j).T p).m≤K
theorem lgM_at {K:Nat} {M:Mo} (h:lgM K M=true) (h1:M.ck≤64) (h2:M.rk≤64):MoK K M:=by
 have e0:(decide (64<M.ck) || decide (64<M.rk))=false:=by simp;omega
 unfold lgM at h;rw [e0,Bool.false_or] at h;simp only [Bool.and_eq_true] at h;refine ⟨lgN_at h.1,fun j hj=>?_,fun j hj=>?_⟩
 ·have:=clgs_at h.2.1 j hj;simp only [cl3,Bool.and_eq_true] at this;exact ⟨lgN_at this.1,lgN_at this.2.1,lgN_at this.2.2⟩
 ·have:=rlgs_at h.2.2 j hj;simp only [rl3,Bool.and_eq_true,decide_eq_true_eq] at this;exact ⟨lgN_at this.2.1,lgN_at this.2.2.1,this.1,fun p hp=>nlg_at this.2.2.2 p (by omega) (by omega)⟩
theorem Sm.mok {K:Nat} {M M':Mo} (h:Sm M M') (k:MoK K M):MoK K M':=by
 have hn:∀{t t':Nm},Sn t t'→t.n≤K∧t.m≤K→t'.n≤K∧t'.m≤K:=fun e l=>by rw [e.2.1,e.2.2.2.1];exact l
 refine ⟨hn h.off k.off,fun j hj=>?_,fun j hj=>?_⟩
 ·rw [h.ck] at hj;have a:=h.C j hj;have b:=k.c j hj
  exact ⟨hn a.cost b.1,hn a.lo b.2.1,hn a.hv b.2.2⟩
 ·rw [h.rk] at hj;have a:=h.R j hj;have b:=k.r j hj
  exact ⟨hn a.lo b.1,hn a.hv b.2.1,by rw [a.tk];exact b.2.2.1,fun p hp=>by rw [a.tk] at hp;exact hn (a.T p hp) (b.2.2.2 p hp)⟩
theorem MoX.mor {w M K} (h:MoX w M) (hn:MoN M) (hk:MoK K M) (hK:K≤65536) (h1:M.ck≤64) (h2:M.rk≤64):MoR w M:=by
 have hs:∀{t:Nm},NmB w t→t.n≤K∧t.m≤K→NmS w t:=fun a b=>⟨a.1,Nat.le_trans b.1 hK,Nat.le_trans b.2 hK⟩
 refine ⟨hs h.off hk.off,fun j hj=>?_,fun j hj=>?_,by omega,by omega⟩
 ·obtain ⟨b,o,e,a1,a2⟩:=h.cls j hj;have q:=hk.c j hj;exact ⟨b,o,e,a1,hs a2.cost q.1,hs a2.lo q.2.1,hs a2.hi q.2.2,hn.c j hj⟩
 ·obtain ⟨b,o,e,a1,a2⟩:=h.rls j hj;have q:=hk.r j hj;refine ⟨b,o,e,a1,hs a2.lo q.1,hs a2.hi q.2.1,fun p hp=>?_,by omega,hn.r j hj⟩;obtain ⟨b',o',e',c4,rw'⟩:=a2.tr p hp;exact ⟨b',o',e',c4,rw',Nat.le_trans (q.2.2.2 p hp).1 hK,Nat.le_trans (q.2.2.2 p hp).2 hK⟩
theorem MoK.mos {K M} (h:MoK K M) (hK:K≤1000):MoS M:=by
 have hs:∀{a b:Nat},a≤K∧b≤K→a≤1000∧b≤1000:=fun l=>⟨Nat.le_trans l.1 hK,Nat.le_trans l.2 hK⟩
 exact ⟨hs h.off,fun j hj=>⟨hs (h.c j hj).1,hs (h.c j hj).2.1,hs (h.c j hj).2.2⟩,fun j hj=>⟨hs (h.r j hj).1,hs (h.r j hj).2.1,by have:=(h.r j hj).2.2.1;omega,fun p hp=>hs ((h.r j hj).2.2.2 p hp)⟩⟩
theorem MoX.light {w M} (h:MoX w M):Cl0 w M.ca M.ck M.C∧Rl0 w M.ra M.rk M.R :=
 ⟨fun j hj=>by obtain ⟨b,o,e,a1,_⟩:=h.cls j hj;exact ⟨b,o,e,a1⟩,fun j hj=>by obtain ⟨b,o,e,a1,a2⟩:=h.rls j hj;exact ⟨b,o,e,a1,a2.tr,Nat.le_trans a2.tk (by decide)⟩⟩
end Go.Proofs.YtdbbncamlaiajaaGreat
namespace Go.Proofs.YtdbbncamlaiajaaGreat
open Go.ChangeShapes Go.WideShapes Go.ChangeAt Go.RowKit
theorem all_mem {H:Type} {P:Program} {e:TypeId}:∀{l:List (DataW H)} {d:DataW H},d ∈ l→∀n ∈ d.weights P e,n ∈ DataW.weightsAll P e l
 | x :: l,d,h,n,hn=>by
  simp only [DataW.weightsAll,List.mem_append];rcases List.mem_cons.1 h with rfl | h
  ·exact .inl hn
  ·exact .inr (all_mem h n hn)
def Wt {H:Type} (P:Program) (t:TypeId) (x:DataW H × List MemPlace):Prop:=∀n ∈ x.1.weights P t,n≤reachBytes
theorem fieldsW {H:Type} {enc:TypeId × Value→H} {P:Program} {w:World} {t:TypeId} {fs:Array Field} {fuel:Nat} {cs:List Value} {x:DataW H × List MemPlace} (ht:P.underlying t=some (.struct fs)) (h:DataW.trod enc P w 0 (fun _=>true) true fuel t cs=some x) (hw:Wt P t x) :
  ∃k,∀(i:Nat) (f:Field),fs[i]?=some f→∃y,DataW.trod enc P w 0 (fun _=>true) true k f.type ((cs.drop f.offset).take (P.cellsOf f.type))=some y∧Wt P f.type y:=by
 obtain ⟨xs,k,_,rfl,_,hlen,hf⟩:=DataW.trod_struct ht h;refine ⟨k,fun i f hi=>?_⟩;have hlt:i<xs.length:=by rw [hlen];exact (Array.getElem?_eq_some_iff.1 hi).1
 refine ⟨xs[i],by rw [hf i f hi,List.getElem?_eq_getElem hlt],fun n hn=>hw n ?_⟩;show n ∈ (DataW.agg (xs.map (·.1))).weights P t;simp only [DataW.weights,ht];refine DataW.weights_mem_each (j:=i) (t:=f.type) (d:=(xs[i]).1) ?_ ?_ n hn
 ·simp [hi]
 ·simp [hlt]
theorem sliceW {H:Type} {enc:TypeId × Value→H} {P:Program} {w:World} {t e:TypeId} {fuel:Nat} {cs:List Value} {x:DataW H × List MemPlace} (ht:P.underlying t=some (.slice e)) (h:DataW.trod enc P w 0 (fun _=>true) true fuel t cs=some x) (hw:Wt P t x) :
  cs=[.slice none 0 0]∨∃(a:Addr) (len cap k:Nat),cs=[.slice (some a) len cap]∧len≤cap∧cap≤maxLen∧cap*P.bytesOf e≤reachBytes ∧
   ∀i,i<len→∃cs' y,w.cells? 0 (a.add (i*P.cellsOf e)) (P.cellsOf e)=some cs'∧DataW.trod enc P w 0 (fun _=>true) true k e cs'=some y∧Wt P e y:=by
 rcases Go.Deep.open_slice ht h with ⟨hcs,_⟩ | ⟨a,len,cap,m,n,D,Pl,hcs,_,hl,hm,hmm,rfl,hel⟩
 ·exact .inl hcs
 ·simp only [if_true] at hmm;subst hmm;refine .inr ⟨a,len,m,n,hcs,hl,hm,?_,fun i hi=>?_⟩
  ·refine hw _ ?_;simp only [DataW.weights,ht,List.length_map,List.length_range];rw [show len+(m-len)=m by omega];exact List.mem_cons_self
  ·obtain ⟨cs',h1,h2⟩:=hel i (by omega);refine ⟨cs',_,h1,h2,fun k hk=>hw k ?_⟩;simp only [DataW.weights,ht];exact List.mem_cons_of_mem _ (List.mem_append_left _ (all_mem (d:=D i) (List.mem_map.2 ⟨i,List.mem_range.2 hi,rfl⟩) k hk))
theorem Tryz.bytesU64:Tryz.prog.bytesOf 145=8:=by kernel_rfl
theorem Tryz.bytesTerm:Tryz.prog.bytesOf 70=64:=by kernel_rfl
theorem Tryz.bytesCol:Tryz.prog.bytesOf 65=200:=by kernel_rfl
theorem Tryz.bytesRow:Tryz.prog.bytesOf 68=168:=by kernel_rfl
theorem Tryz.cellsU:Tryz.prog.cellsOf 145=1:=by kernel_rfl
theorem Tryz.cellsTerm:Tryz.prog.cellsOf 70=4:=by kernel_rfl
theorem Tryz.cellsCol:Tryz.prog.cellsOf 65=12:=by kernel_rfl
theorem Tryz.cellsRow:Tryz.prog.cellsOf 68=10:=by kernel_rfl
set_option maxRecDepth 100000 in
theorem viewLW {H:Type} {enc:TypeId × Value→H} {W:World} {fuel:Nat} {v:Value} {x:DataW H × List MemPlace} (h:DataW.trod enc Tryz.prog W 0 (fun _=>true) true fuel 22 [v]=some x) (hw:Wt Tryz.prog 22 x) :
  ∃ao n cap f,v=.slice ao n cap∧Rd .u64 W ao n f∧Lm f n∧(ao=none→n=0∧cap=0)∧(n≤cap∧cap≤9223372036854775807)∧n≤17592186044416:=by
 rcases open_ints Tryz.underlying22 Tryz.underlying145 Tryz.cellsU h with ⟨hcs,hx⟩ | ⟨a,len',cap',zs,hcs,_,hl,hm,hz,hx,hcell,hwz⟩
 ·simp at hcs;subst hcs;exact ⟨none,0,0,fun _=>0,rfl,Rd.zero,fun j hj=>by omega,fun _=>⟨rfl,rfl⟩,⟨by omega,by omega⟩,by omega⟩
 ·simp at hcs;subst hcs;simp only [if_true] at hz;have hb:cap'*8≤reachBytes:=by
   have:cap'*Tryz.prog.bytesOf 145≤reachBytes:=by
    refine hw _ ?_;rw [hx];simp only [DataW.weights,Tryz.underlying22];have e:(lits .u64 (zs.take len'):List (DataW H)).length+(lits .u64 (zs.drop len'):List (DataW H)).length=cap':=by simp [lits];omega
    rw [e];exact List.mem_cons_self
   rw [Tryz.bytesU64] at this;exact this
  refine ⟨some a,len',cap',fun j=>zs.getD j 0,rfl,fun j hj=>?_,fun j hj=>?_,(fun h=>by cases h),⟨hl,by unfold maxLen at hm;omega⟩,by unfold reachBytes at hb;omega⟩
  ·obtain ⟨b,off,spot⟩:=a;have hspot:spot=none:=by simpa [Addr.add] using World.cell?_spot (hcell 0 (by omega))
   subst hspot;exact ⟨b,off,rfl,by have:=hcell j (by omega);rwa [addr_add] at this⟩
  ·have hmem:zs.getD j 0 ∈ zs:=by
    rw [List.getD_eq_getElem?_getD,List.getElem?_eq_getElem (by omega)];exact List.getElem_mem _
   have:=bounds_u64 (hwz _ hmem);show 0≤zs.getD j 0∧zs.getD j 0<18446744073709551616;omega
set_option maxRecDepth 100000 in
theorem viewNW {H:Type} {enc:TypeId × Value→H} {W:World} {k:Nat} {c0 c1 c2:Value} {z:DataW H × List MemPlace} (hf:DataW.trod enc Tryz.prog W 0 (fun _=>true) true k 24 [c0,c1,c2]=some z) (hw:Wt Tryz.prog 24 z) :
  ∃t:Nm,c0=.bool t.s∧c1=.slice t.x t.n t.c∧c2=.slice t.y t.m t.d∧NmB W t:=by
 obtain ⟨k,hk⟩:=fieldsW Tryz.underlying24 hf hw;obtain ⟨y0,h0,_⟩:=hk 0 _ rfl;obtain ⟨y1,h1,w1⟩:=hk 1 _ rfl;obtain ⟨y2,h2,w2⟩:=hk 2 _ rfl;have h0':DataW.trod enc Tryz.prog W 0 (fun _=>true) true k 4 [c0]=some y0:=h0;have h1':DataW.trod enc Tryz.prog W 0 (fun _=>true) true k 22 [c1]=some y1:=h1;have h2':DataW.trod enc Tryz.prog W 0 (fun _=>true) true k 22 [c2]=some y2:=h2;obtain ⟨s,hs,_⟩:=DataW.trod_bool Tryz.underlying4 h0';obtain ⟨ao,n,cap,f,rfl,hr,hlm,hnil,hc,hl⟩:=viewLW h1' w1;obtain ⟨bo,m,cap',g,rfl,hr',hlm',hnil',hc',hl'⟩:=viewLW h2' w2;simp at hs;exact ⟨⟨s,ao,n,cap,f,bo,m,cap',g⟩,hs,rfl,rfl,⟨hr,hlm,hc,hnil,hr',hlm',hc',hnil'⟩,hl,hl'⟩
set_option maxRecDepth 100000 in
theorem viewXW {H:Type} {enc:TypeId × Value→H} {W:World} {k:Nat} {c0 c1 c2 c3:Value} {z:DataW H × List MemPlace} (hf:DataW.trod enc Tryz.prog W 0 (fun _=>true) true k 42 [c0,c1,c2,c3]=some z) (hw:Wt Tryz.prog 42 z) :
  ∃e:Ex,c0=.int .i64 e.i∧c1=.bool e.v.s∧c2=.slice e.v.x e.v.n e.v.c∧c3=.slice e.v.y e.v.m e.v.d∧NmB W e.v:=by
 obtain ⟨k,hk⟩:=fieldsW Tryz.underlying42 hf hw;obtain ⟨y0,h0,_⟩:=hk 0 _ rfl;obtain ⟨y1,h1,w1⟩:=hk 1 _ rfl;have h0':DataW.trod enc Tryz.prog W 0 (fun _=>true) true k 3 [c0]=some y0:=h0;have h1':DataW.trod enc Tryz.prog W 0 (fun _=>true) true k 24 [c1,c2,c3]=some y1:=h1;obtain ⟨i,hi,_⟩:=DataW.trod_int Tryz.underlying3 h0';obtain ⟨t,e1,e2,e3,ht⟩:=viewNW h1' w1;simp at hi;exact ⟨⟨i,t⟩,hi,e1,e2,e3,ht⟩
theorem cells_atW {w:World} {base n:Nat} {a:Addr} {cs:List Value} (h:w.cells? base a n=some cs):cs.length=n∧∀(i:Nat) u,cs[i]?=some u→w.cell? (a.add i)=some u:=by
 obtain ⟨_,h1,h2⟩:=World.cells?_some h;refine ⟨h1,fun i u hi=>?_⟩;have hlt:i<n:=by rw [←h1];exact (List.getElem?_eq_some_iff.1 hi).1
 rw [←hi];exact h2 i hlt
theorem add_addW (a:Addr) (j i:Nat):(a.add j).add i=a.add (j+i):=by
 obtain ⟨b,o,s⟩:=a;by_cases hj:j=0
 ·subst hj;by_cases hi:i=0
  ·subst hi;simp [Addr.add]
  ·simp [Addr.add,hi]
 ·by_cases hi:i=0
  ·subst hi;simp [Addr.add,hj]
  ·simp [Addr.add,hi,hj,Nat.add_assoc]
theorem cs_of {w:World} {base n:Nat} {b o j:Nat} {cs:List Value} (h:w.cells? base (Addr.add ⟨b,o,none⟩ (j*n)) n=some cs):Cs w b (o+j*n) cs:=fun i v e=>by
 have:=(cells_atW h).2 i v e;rw [add_addW,addr_add] at this;rw [Nat.add_assoc];exact this
theorem spot_of {w:World} {base n:Nat} {a:Addr} {cs:List Value} (h:w.cells? base (a.add (0*n)) n=some cs) (hn:0<n):a.spot=none:=by
 obtain ⟨h1,h2⟩:=cells_atW h;have:=h2 0 cs[0] (List.getElem?_eq_getElem (by omega));rw [add_addW,Nat.zero_mul] at this;simpa [Addr.add] using World.cell?_spot this
set_option maxRecDepth 100000 in
theorem viewTW {H:Type} {enc:TypeId × Value→H} {W:World} {fuel:Nat} {v:Value} {x:DataW H × List MemPlace} (h:DataW.trod enc Tryz.prog W 0 (fun _=>true) true fuel 66 [v]=some x) (hw:Wt Tryz.prog 66 x) :
  ∃ta tk tc col T,v=.slice ta tk tc∧Tr W ta tk col T∧tk≤2199023255552∧∀p,p<tk→(T p).n≤17592186044416∧(T p).m≤17592186044416:=by
 rcases sliceW Tryz.underlying66 h hw with hcs | ⟨a,len,cap,k,hcs,hl,hm,hb,hel⟩
 ·simp at hcs;exact ⟨none,0,0,fun _=>0,fun _=>nz9,hcs,fun j hj=>by omega,by omega,fun j hj=>by omega⟩
 ·simp at hcs;rw [Tryz.cellsTerm] at hel;rw [Tryz.bytesTerm] at hb;have hX:∀j,∃zt:Int × Nm,j<len→W.cells? 0 (a.add (j*4)) 4=some [.int .i64 zt.1,.bool zt.2.s,.slice zt.2.x zt.2.n zt.2.c,.slice zt.2.y zt.2.m zt.2.d]∧NmB W zt.2:=fun j=>by
   by_cases hj:j<len
   ·obtain ⟨cs',y,h1,h2,w2⟩:=hel j hj
    match cs',(cells_atW h1).1 with
    | [c0,c1,c2,c3],_ =>
     obtain ⟨k',hk⟩:=fieldsW Tryz.underlying70 h2 w2;obtain ⟨y0,g0,_⟩:=hk 0 _ rfl;obtain ⟨y1,g1,w1⟩:=hk 1 _ rfl;have g0':DataW.trod enc Tryz.prog W 0 (fun _=>true) true k' 3 [c0]=some y0:=g0;have g1':DataW.trod enc Tryz.prog W 0 (fun _=>true) true k' 24 [c1,c2,c3]=some y1:=g1;obtain ⟨i,hi,_⟩:=DataW.trod_int Tryz.underlying3 g0';obtain ⟨t,e1,e2,e3,ht⟩:=viewNW g1' w1;simp at hi;subst hi;subst e1;subst e2;subst e3
     exact ⟨(i,t),fun _=>⟨h1,ht⟩⟩
   ·exact ⟨(0,nz9),fun h=>absurd h hj⟩
  have hX':∃Z:Nat→Int × Nm,∀j,j<len→W.cells? 0 (a.add (j*4)) 4=some [.int .i64 (Z j).1,.bool (Z j).2.s,.slice (Z j).2.x (Z j).2.n (Z j).2.c,.slice (Z j).2.y (Z j).2.m (Z j).2.d]∧NmB W (Z j).2:=⟨fun j=>Classical.choose (hX j),fun j=>Classical.choose_spec (hX j)⟩;obtain ⟨Z,hZ⟩:=hX';refine ⟨some a,len,cap,fun j=>(Z j).1,fun j=>(Z j).2,hcs,fun j hj=>?_,by unfold reachBytes at hb;omega,fun p hp=>(hZ p hp).2.2⟩;have hs:=spot_of (n:=4) (hZ 0 (by omega)).1 (by decide);obtain ⟨b,o,sp⟩:=a;simp only at hs;subst hs;exact ⟨b,o,rfl,cs4 (cs_of (hZ j hj).1),(hZ j hj).2.1⟩
set_option maxRecDepth 100000 in
theorem viewCW {H:Type} {enc:TypeId × Value→H} {W:World} {k:Nat} {c0 c1 c2 c3 c4 c5 c6 c7 c8 c9 c10 c11:Value} {z:DataW H × List MemPlace} (hf:DataW.trod enc Tryz.prog W 0 (fun _=>true) true k 65 [c0,c1,c2,c3,c4,c5,c6,c7,c8,c9,c10,c11]=some z) (hw:Wt Tryz.prog 65 z) :
  ∃c:Lc,[c0,c1,c2,c3,c4,c5,c6,c7,c8,c9,c10,c11]=c.vs∧LcB W c∧c.nm.size≤9223372036854775807:=by
 obtain ⟨k,hk⟩:=fieldsW Tryz.underlying65 hf hw;obtain ⟨y0,h0,_⟩:=hk 0 _ rfl;obtain ⟨y1,h1,w1⟩:=hk 1 _ rfl;obtain ⟨y2,h2,w2⟩:=hk 2 _ rfl;obtain ⟨y3,h3,w3⟩:=hk 3 _ rfl;have h0':DataW.trod enc Tryz.prog W 0 (fun _=>true) true k 9 [c0]=some y0:=h0;have h1':DataW.trod enc Tryz.prog W 0 (fun _=>true) true k 24 [c1,c2,c3]=some y1:=h1;have h2':DataW.trod enc Tryz.prog W 0 (fun _=>true) true k 42 [c4,c5,c6,c7]=some y2:=h2;have h3':DataW.trod enc Tryz.prog W 0 (fun _=>true) true k 42 [c8,c9,c10,c11]=some y3:=h3;obtain ⟨s,hs,_,hz⟩:=DataW.trod_string Tryz.underlying9 h0';obtain ⟨t,rfl,rfl,rfl,ht⟩:=viewNW h1' w1;obtain ⟨e1,rfl,rfl,rfl,rfl,he1⟩:=viewXW h2' w2;obtain ⟨e2,rfl,rfl,rfl,rfl,he2⟩:=viewXW h3' w3;simp at hs;subst hs;exact ⟨⟨s,t,e1,e2⟩,rfl,⟨ht,he1,he2⟩,by unfold maxLen at hz;exact Nat.le_trans hz (by decide)⟩
set_option maxRecDepth 100000 in
theorem viewRW {H:Type} {enc:TypeId × Value→H} {W:World} {k:Nat} {c0 c1 c2 c3 c4 c5 c6 c7 c8 c9:Value} {z:DataW H × List MemPlace} (hf:DataW.trod enc Tryz.prog W 0 (fun _=>true) true k 68 [c0,c1,c2,c3,c4,c5,c6,c7,c8,c9]=some z) (hw:Wt Tryz.prog 68 z) :
  ∃r:Lr,[c0,c1,c2,c3,c4,c5,c6,c7,c8,c9]=r.vs∧LrB W r∧r.nm.size≤9223372036854775807:=by
 obtain ⟨k,hk⟩:=fieldsW Tryz.underlying68 hf hw;obtain ⟨y0,h0,_⟩:=hk 0 _ rfl;obtain ⟨y1,h1,w1⟩:=hk 1 _ rfl;obtain ⟨y2,h2,w2⟩:=hk 2 _ rfl;obtain ⟨y3,h3,w3⟩:=hk 3 _ rfl;have h0':DataW.trod enc Tryz.prog W 0 (fun _=>true) true k 9 [c0]=some y0:=h0;have h1':DataW.trod enc Tryz.prog W 0 (fun _=>true) true k 42 [c1,c2,c3,c4]=some y1:=h1;have h2':DataW.trod enc Tryz.prog W 0 (fun _=>true) true k 42 [c5,c6,c7,c8]=some y2:=h2;have h3':DataW.trod enc Tryz.prog W 0 (fun _=>true) true k 66 [c9]=some y3:=h3;obtain ⟨s,hs,_,hz⟩:=DataW.trod_string Tryz.underlying9 h0';obtain ⟨e1,rfl,rfl,rfl,rfl,he1⟩:=viewXW h1' w1;obtain ⟨e2,rfl,rfl,rfl,rfl,he2⟩:=viewXW h2' w2;obtain ⟨ta,tk,tc,col,T,rfl,ht,hk',hn⟩:=viewTW h3' w3;simp at hs;subst hs;exact ⟨⟨s,e1,e2,ta,tk,tc,col,T⟩,rfl,⟨he1,he2,ht,hk',hn⟩,by unfold maxLen at hz;exact Nat.le_trans hz (by decide)⟩
set_option maxRecDepth 100000 in
theorem viewCsW {H:Type} {enc:TypeId × Value→H} {W:World} {fuel:Nat} {v:Value} {x:DataW H × List MemPlace} (h:DataW.trod enc Tryz.prog W 0 (fun _=>true) true fuel 25 [v]=some x) (hw:Wt Tryz.prog 25 x) :
  ∃ca ck cc C,v=.slice ca ck cc∧Cl9 W ca ck C∧ck≤703687441776∧(ck≤cc∧cc≤9223372036854775807)∧∀j,j<ck→(C j).nm.size≤9223372036854775807:=by
 have z9:Lc:=⟨ByteArray.empty,nz9,⟨0,nz9⟩,⟨0,nz9⟩⟩;rcases sliceW Tryz.underlying25 h hw with hcs | ⟨a,len,cap,k,hcs,hl,hm,hb,hel⟩
 ·simp at hcs;exact ⟨none,0,0,fun _=>z9,hcs,fun j hj=>by omega,by omega,⟨by omega,by omega⟩,fun j hj=>by omega⟩
 ·simp at hcs;rw [Tryz.cellsCol] at hel;rw [Tryz.bytesCol] at hb;have hX:∀j,∃c:Lc,j<len→W.cells? 0 (a.add (j*12)) 12=some c.vs∧LcB W c∧c.nm.size≤9223372036854775807:=fun j=>by
   by_cases hj:j<len
   ·obtain ⟨cs',y,h1,h2,w2⟩:=hel j hj
    match cs',(cells_atW h1).1 with
    | [c0,c1,c2,c3,c4,c5,c6,c7,c8,c9,c10,c11],_ =>
     obtain ⟨c,e,hc,hn⟩:=viewCW h2 w2;rw [e] at h1;exact ⟨c,fun _=>⟨h1,hc,hn⟩⟩
   ·exact ⟨z9,fun h=>absurd h hj⟩
  have hX':∃Z:Nat→Lc,∀j,j<len→W.cells? 0 (a.add (j*12)) 12=some (Z j).vs∧LcB W (Z j)∧(Z j).nm.size≤9223372036854775807:=⟨fun j=>Classical.choose (hX j),fun j=>Classical.choose_spec (hX j)⟩;obtain ⟨Z,hZ⟩:=hX';refine ⟨some a,len,cap,Z,hcs,fun j hj=>?_,by unfold reachBytes at hb;omega,⟨hl,by unfold maxLen at hm;omega⟩,fun j hj=>(hZ j hj).2.2⟩;have hs:=spot_of (n:=12) (hZ 0 (by omega)).1 (by decide);obtain ⟨b,o,sp⟩:=a;simp only at hs;subst hs;exact ⟨b,o,rfl,cs_of (hZ j hj).1,(hZ j hj).2.1⟩
set_option maxRecDepth 100000 in
theorem viewRsW {H:Type} {enc:TypeId × Value→H} {W:World} {fuel:Nat} {v:Value} {x:DataW H × List MemPlace} (h:DataW.trod enc Tryz.prog W 0 (fun _=>true) true fuel 26 [v]=some x) (hw:Wt Tryz.prog 26 x) :
  ∃ra rk rc R,v=.slice ra rk rc∧Rl9 W ra rk R∧rk≤837723144971∧(rk≤rc∧rc≤9223372036854775807)∧∀j,j<rk→(R j).nm.size≤9223372036854775807:=by
 have z9:Lr:=⟨ByteArray.empty,⟨0,nz9⟩,⟨0,nz9⟩,none,0,0,fun _=>0,fun _=>nz9⟩;rcases sliceW Tryz.underlying26 h hw with hcs | ⟨a,len,cap,k,hcs,hl,hm,hb,hel⟩
 ·simp at hcs;exact ⟨none,0,0,fun _=>z9,hcs,fun j hj=>by omega,by omega,⟨by omega,by omega⟩,fun j hj=>by omega⟩
 ·simp at hcs;rw [Tryz.cellsRow] at hel;rw [Tryz.bytesRow] at hb;have hX:∀j,∃c:Lr,j<len→W.cells? 0 (a.add (j*10)) 10=some c.vs∧LrB W c∧c.nm.size≤9223372036854775807:=fun j=>by
   by_cases hj:j<len
   ·obtain ⟨cs',y,h1,h2,w2⟩:=hel j hj
    match cs',(cells_atW h1).1 with
    | [c0,c1,c2,c3,c4,c5,c6,c7,c8,c9],_ =>
     obtain ⟨c,e,hc,hn⟩:=viewRW h2 w2;rw [e] at h1;exact ⟨c,fun _=>⟨h1,hc,hn⟩⟩
   ·exact ⟨z9,fun h=>absurd h hj⟩
  have hX':∃Z:Nat→Lr,∀j,j<len→W.cells? 0 (a.add (j*10)) 10=some (Z j).vs∧LrB W (Z j)∧(Z j).nm.size≤9223372036854775807:=⟨fun j=>Classical.choose (hX j),fun j=>Classical.choose_spec (hX j)⟩;obtain ⟨Z,hZ⟩:=hX';refine ⟨some a,len,cap,Z,hcs,fun j hj=>?_,by unfold reachBytes at hb;omega,⟨hl,by unfold maxLen at hm;omega⟩,fun j hj=>(hZ j hj).2.2⟩;have hs:=spot_of (n:=10) (hZ 0 (by omega)).1 (by decide);obtain ⟨b,o,sp⟩:=a;simp only at hs;subst hs;exact ⟨b,o,rfl,cs_of (hZ j hj).1,(hZ j hj).2.1⟩
theorem Tryz.cellsM:Tryz.prog.cellsOf 28=5:=by kernel_rfl
theorem Tryz.readM:Tryz.prog.readableRec 28=true:=by kernel_rfl
theorem Tryz.sizeM:28<Tryz.prog.types.size:=of_decide_eq_true (by kernel_rfl)
set_option maxRecDepth 100000 in
theorem viewM {H:Type} {enc:TypeId × Value→H} {W:World} {base:Nat} {v:Value} {d:DataW H} {p:List MemPlace} (hok:Value.okWide Tryz.prog W .any base 28 v) (h:DataW.Trod enc Tryz.prog W 0 (fun _=>true) true 28 v d p) (hw:∀n ∈ d.weights Tryz.prog 28,n≤reachBytes) :
  ∃M:Mo,v=M.val∧MoX W M∧MoN M∧MoC M:=by
 obtain ⟨cs,rfl,hsz⟩:=okWide_struct Tryz.underlying28 hok;rw [Tryz.cellsM] at hsz;obtain ⟨fuel,hf⟩:=h;obtain ⟨l⟩:=cs
 match l,hsz with
 | [c0,c1,c2,c3,c4],_ =>
  obtain ⟨k,hk⟩:=fieldsW (x:=(d,p)) Tryz.underlying28 hf hw;obtain ⟨y0,h0,w0⟩:=hk 0 _ rfl;obtain ⟨y1,h1,w1⟩:=hk 1 _ rfl;obtain ⟨y2,h2,w2⟩:=hk 2 _ rfl;have h0':DataW.trod enc Tryz.prog W 0 (fun _=>true) true k 24 [c0,c1,c2]=some y0:=h0;have h1':DataW.trod enc Tryz.prog W 0 (fun _=>true) true k 25 [c3]=some y1:=h1;have h2':DataW.trod enc Tryz.prog W 0 (fun _=>true) true k 26 [c4]=some y2:=h2;obtain ⟨t,rfl,rfl,rfl,ht⟩:=viewNW h0' w0;obtain ⟨ca,ck,cc,C,rfl,hC,hck,hcc,hcn⟩:=viewCsW h1' w1;obtain ⟨ra,rk,rc,R,rfl,hR,hrk,hrc,hrn⟩:=viewRsW h2' w2;exact ⟨⟨t,ca,ck,cc,C,ra,rk,rc,R⟩,rfl,⟨ht,hC,hR,hck,hrk⟩,⟨hcn,hrn⟩,hcc,hrc⟩
end Go.Proofs.YtdbbncamlaiajaaGreat
namespace Go.Proofs.YtdbbncamlaiajaaGreat
open Go.ChangeShapes Go.WideShapes Go.ChangeAt Go.RowKit
theorem Tryz.own:ownKnob Tryz.prog.godebug=none:=by kernel_rfl
theorem Tryz.laidOut:laidOutB Tryz.prog=true:=by kernel_rfl
end Go.Proofs.YtdbbncamlaiajaaGreat
namespace Go.Proofs.YtdbbncamlaiajaaGreat
open Go.ChangeShapes Go.WideShapes Go.ChangeAt Go.RowKit
theorem Tryz.bytesRat:Tryz.prog.bytesOf 24=56:=by kernel_rfl
theorem Tryz.cellsRat:Tryz.prog.cellsOf 24=3:=by kernel_rfl
set_option maxRecDepth 100000 in
theorem viewQW {H:Type} {enc:TypeId × Value→H} {W:World} {fuel:Nat} {v:Value} {x:DataW H × List MemPlace} (h:DataW.trod enc Tryz.prog W 0 (fun _=>true) true fuel 29 [v]=some x) (hw:Wt Tryz.prog 29 x) :
  ∃ao k c X,v=.slice ao k c∧Rr W ao k X∧k≤9223372036854775807:=by
 rcases sliceW Tryz.underlying29 h hw with hcs | ⟨a,len,cap,k,hcs,hl,hm,hb,hel⟩
 ·simp at hcs;exact ⟨none,0,0,fun _=>nz9,hcs,fun j hj=>by omega,by omega⟩
 ·simp at hcs;rw [Tryz.cellsRat] at hel;rw [Tryz.bytesRat] at hb;have hX:∀j,∃t:Nm,j<len→W.cells? 0 (a.add (j*3)) 3=some [.bool t.s,.slice t.x t.n t.c,.slice t.y t.m t.d]∧NmB W t:=fun j=>by
   by_cases hj:j<len
   ·obtain ⟨cs',y,h1,h2,w2⟩:=hel j hj
    match cs',(cells_atW h1).1 with
    | [c0,c1,c2],_ =>
     obtain ⟨t,e1,e2,e3,ht⟩:=viewNW h2 w2;subst e1;subst e2;subst e3
     exact ⟨t,fun _=>⟨h1,ht⟩⟩
   ·exact ⟨nz9,fun h=>absurd h hj⟩
  have hX':∃Z:Nat→Nm,∀j,j<len→W.cells? 0 (a.add (j*3)) 3=some [.bool (Z j).s,.slice (Z j).x (Z j).n (Z j).c,.slice (Z j).y (Z j).m (Z j).d]∧NmB W (Z j):=⟨fun j=>Classical.choose (hX j),fun j=>Classical.choose_spec (hX j)⟩;obtain ⟨Z,hZ⟩:=hX';refine ⟨some a,len,cap,Z,hcs,fun j hj=>?_,by unfold reachBytes at hb;omega⟩;have hs:=spot_of (n:=3) (hZ 0 (by omega)).1 (by decide);obtain ⟨b,o,sp⟩:=a;simp only at hs;subst hs;have hc:=cs_of (hZ j hj).1;exact ⟨b,o,rfl,⟨hc 0 _ rfl,hc 1 _ rfl,hc 2 _ rfl⟩,(hZ j hj).2.1⟩
end Go.Proofs.YtdbbncamlaiajaaGreat
namespace Go.Proofs.YtdbbncamlaiajaaGreat
open Go.ChangeShapes Go.WideShapes Go.ChangeAt Go.RowKit
theorem Tryz.cellsPt:Tryz.prog.cellsOf 50=3:=by kernel_rfl
theorem Tryz.readPt:Tryz.prog.readableRec 50=true:=by kernel_rfl
theorem Tryz.sizePt:50<Tryz.prog.types.size:=of_decide_eq_true (by kernel_rfl)
set_option maxRecDepth 100000 in
theorem viewPt {H:Type} {enc:TypeId × Value→H} {W:World} {base:Nat} {v:Value} {d:DataW H} {p:List MemPlace} (hok:Value.okWide Tryz.prog W .any base 50 v) (h:DataW.Trod enc Tryz.prog W 0 (fun _=>true) true 50 v d p) (hw:∀n ∈ d.weights Tryz.prog 50,n≤reachBytes) :
  ∃a0 k0 c0 X0 a1 k1 c1 X1 a2 k2 c2 X2,v=.agg #[.slice a0 k0 c0,.slice a1 k1 c1,.slice a2 k2 c2]∧Rr W a0 k0 X0∧Rr W a1 k1 X1∧Rr W a2 k2 X2∧k0≤9223372036854775807∧k1≤9223372036854775807∧k2≤9223372036854775807:=by
 obtain ⟨cs,rfl,hsz⟩:=okWide_struct Tryz.underlying50 hok;rw [Tryz.cellsPt] at hsz;obtain ⟨fuel,hf⟩:=h;obtain ⟨l⟩:=cs
 match l,hsz with
 | [v0,v1,v2],_ =>
  obtain ⟨k,hk⟩:=fieldsW (x:=(d,p)) Tryz.underlying50 hf hw;obtain ⟨y0,g0,w0⟩:=hk 0 _ rfl;obtain ⟨y1,g1,w1⟩:=hk 1 _ rfl;obtain ⟨y2,g2,w2⟩:=hk 2 _ rfl;have g0':DataW.trod enc Tryz.prog W 0 (fun _=>true) true k 29 [v0]=some y0:=g0;have g1':DataW.trod enc Tryz.prog W 0 (fun _=>true) true k 29 [v1]=some y1:=g1;have g2':DataW.trod enc Tryz.prog W 0 (fun _=>true) true k 29 [v2]=some y2:=g2;obtain ⟨a0,k0,c0,X0,rfl,h0,l0⟩:=viewQW g0' w0;obtain ⟨a1,k1,c1,X1,rfl,h1,l1⟩:=viewQW g1' w1;obtain ⟨a2,k2,c2,X2,rfl,h2,l2⟩:=viewQW g2' w2;exact ⟨a0,k0,c0,X0,a1,k1,c1,X1,a2,k2,c2,X2,rfl,h0,h1,h2,l0,l1,l2⟩
end Go.Proofs.YtdbbncamlaiajaaGreat
namespace Go.Proofs.YtdbbncamlaiajaaGreat
open Go.RowKit
set_option maxRecDepth 100000 in
set_option maxHeartbeats 4000000 in
theorem ptimes_c {L:Nat} {w:World} {sa:Bool} {xa:Option Addr} {na ca:Nat} {fa:Nat→Int} {ya:Option Addr} {ma da:Nat} {ga:Nat→Int} {a:Rat} {sb:Bool} {xb:Option Addr} {nb cb:Nat} {fb:Nat→Int} {yb:Option Addr} {mb db:Nat} {gb:Nat→Int} {b:Rat} (ha:Rn L w sa xa na ca fa ya ma da ga a) (hb:Rn L w sb xb nb cb fb yb mb db gb b) (hL:L≤200000) :
  Calls Tryz.prog 148 #[.agg #[.bool sa,.slice xa na ca,.slice ya ma da],.agg #[.bool sb,.slice xb nb cb,.slice yb mb db]] w fun e w'=>RatAns (2*L+1) w w' e (a*b):=by
 have h1:=((ha.alloc (.cells #[.bool sa,.slice xa na ca,.slice ya ma da] 24)).alloc (.cells #[.bool sb,.slice xb nb cb,.slice yb mb db] 24)).alloc (.cells #[.bool false,.slice none 0 0,.slice none 0 0] 24);have h2:=((hb.alloc (.cells #[.bool sa,.slice xa na ca,.slice ya ma da] 24)).alloc (.cells #[.bool sb,.slice xb nb cb,.slice yb mb db] 24)).alloc (.cells #[.bool false,.slice none 0 0,.slice none 0 0] 24);have h3:=ob_new ((w.alloc (.cells #[.bool sa,.slice xa na ca,.slice ya ma da] 24)).alloc (.cells #[.bool sb,.slice xb nb cb,.slice yb mb db] 24)) 24;rw [size_alloc1,size_alloc1] at h3;have h4:=below_alloc (below_alloc (below_alloc (Below.refl w.heap.size w) (.cells #[.bool sa,.slice xa na ca,.slice ya ma da] 24)) (.cells #[.bool sb,.slice xb nb cb,.slice yb mb db] 24)) (.cells #[.bool false,.slice none 0 0,.slice none 0 0] 24);clear ha hb;go_enter Tryz.func148,Tryz.ntmps148;go_wp2_with fail
 generalize ((w.alloc (.cells #[.bool sa,.slice xa na ca,.slice ya ma da] 24)).alloc (.cells #[.bool sb,.slice xb nb cb,.slice yb mb db] 24)).alloc (.cells #[.bool false,.slice none 0 0,.slice none 0 0] 24)=w1 at *;have OB1:=hid h3;have HW1:=hid h4
 refine (rMul_n h1 h2 hL).mono ?_;clear h1 h2 h3 h4;rintro e w2 ⟨s,x,n,c,f,y,m,d,g,rfl,hb2,hq⟩;have hob:=OB1.out.below hb2;have hbw:=HW1.out.trans (hb2.mono HW1.out.size);obtain ⟨hz,z0,z1,z2,zf⟩:=OB1.out.below hb2;have HQ:=hid hq;have HOB:=hid hob;have HBW:=hid hbw
 clear hq hob hbw hb2 OB1 HW1;go_wp2;exact bodyPost_ret (v:=.agg #[.bool s,.slice x n c,.slice y m d]) (by simp [results,Tryz.results148,go_sem,z0,z1,z2,hz]) rfl ⟨s,x,n,c,f,y,m,d,g,rfl,below_alloc (below_st HBW.out (by omega)) _,(HOB.out.rn HQ.out).alloc _⟩
def psum:List Rat→Rat→Rat
 | [],acc=>acc
 | q :: p,acc=>psum p (acc+q)
theorem rat_lt400 {i L:Nat} (hi:i≤400) (hL:L≤400):4+i*(L+1)≤164000:=by
 have h1:i*(L+1)≤400*(L+1):=Nat.mul_le_mul_right _ hi;omega
set_option maxRecDepth 100000 in
set_option maxHeartbeats 4000000 in
theorem pSum_c {w:World} {L:Nat} {ao:Option Addr} {k cap:Nat} {p:List Rat} (h:Rf L w ao p) (hk:p.length=k) (hk2:k≤400) (hL:L≤400) :
  Calls Tryz.prog 32 #[.slice ao k cap] w fun e w'=>RatAns (4+k*(L+1)) w w' e (psum p 0):=by
 have H:=hid h;have h2:=ob_new w 24;have h3:=below_alloc (Below.refl w.heap.size w) (.cells #[.bool false,.slice none 0 0,.slice none 0 0] 24);clear h;go_enter Tryz.func32,Tryz.ntmps32;go_wp2_with fail
 generalize w.alloc (.cells #[.bool false,.slice none 0 0,.slice none 0 0] 24)=w0 at *;refine (rOf_c (z:=0) (by omega) (by omega)).mono ?_;rintro e w4 ⟨s0,x0,n0,c0,f0,y0,m0,d0,g0,rfl,hb4,hq4⟩;have OB4:=hid (h2.below hb4);have HB4:=hid (h3.trans (hb4.mono h3.size));have HQ4:=hid hq4
 clear h2 h3 hb4 hq4;go_wp2_with fail
 have hSx:Sx (w4.alloc (.cells #[.bool s0,.slice x0 n0 c0,.slice y0 m0 d0] 24)) w4.heap.size s0 x0 n0 c0 y0 m0 d0:=⟨by simp,by simp [go_sem],by simp [go_sem],by simp [go_sem],fun o=>by simp only [World.frozen?,heap_alloc_new w4 (.cells #[.bool s0,.slice x0 n0 c0,.slice y0 m0 d0] 24)];simp⟩;have hal:=below_alloc (Below.refl w4.heap.size w4) (.cells #[.bool s0,.slice x0 n0 c0,.slice y0 m0 d0] 24);have hne:w.heap.size<w4.heap.size:=OB4.out.z;have ST:=hid hSx;have HB5:=hid (HB4.out.trans (hal.mono HB4.out.size));have HQ5:=hid (HQ4.out.below hal);have OB5:=hid (OB4.out.below hal)
 clear hSx hal HB4 HQ4 OB4;go_loopw [9] (fun t wr=>∃(i:Nat) (acc:Rat) (s:Bool) (x:Option Addr) (n c:Nat) (f:Nat→Int) (y:Option Addr) (m d:Nat) (g:Nat→Int),i≤k∧t=.int .i64 i∧Hid (Below w.heap.size w wr)∧Hid (Sx wr w4.heap.size s x n c y m d)∧Hid (Ob wr w.heap.size)∧Hid (Rn (4+i*(L+1)) wr s x n c f y m d g acc)∧Hid (psum (p.drop i) acc=psum p 0)) (fun t _=>k-(intOf t).toNat)
 case atStart=>exact ⟨0,0,s0,x0,n0,c0,f0,y0,m0,d0,g0,by omega,rfl,HB5,ST,OB5,(by show Rn _ _ _ _ _ _ _ _ _ _ _ _;exact HQ5.out.mono (by omega)),rfl⟩
 case round =>
  clear HB5 HQ5 OB5 ST;obtain ⟨i,acc,s,x,n,c,f,y,m,d,g,hi,rfl,HB,HS,HO,HQ,HE⟩:=hrel;by_cases hlt:i<k
  ·obtain ⟨q,haq⟩:∃t,p[i]?=some t:=⟨_,List.getElem?_eq_getElem (by omega)⟩;obtain ⟨b,o,⟨ts,tx,tn,tc,tf,ty,tm,td,tg⟩,hav,hc,hr⟩:=(H.out.below HB.out) i q haq;have hav2:=hav;subst hav2;obtain ⟨x0,x1,x2⟩:=hc;replace x0:wr.cell? ⟨b,o+i*3,none⟩=some (.bool ts):=x0;replace x1:wr.cell? ⟨b,o+i*3+1,none⟩=some (.slice tx tn tc):=x1;replace x2:wr.cell? ⟨b,o+i*3+2,none⟩=some (.slice ty tm td):=x2;have HD:Hid (psum (p.drop (i+1)) (acc+q)=psum p 0):=by
    show _=_;have e1:p.drop i=q :: p.drop (i+1):=by
     have hl:i<p.length:=by omega
     have:p[i]=q:=by rw [List.getElem?_eq_getElem hl] at haq;exact Option.some.inj haq
     rw [←this];exact List.drop_eq_getElem_cons hl
    rw [←HE.out,e1];rfl
   have hb5:=below_alloc (Below.refl wr.heap.size wr) (.cells #[.bool ts,.slice tx tn tc,.slice ty tm td] 24);have HR1:Hid (Rn L (wr.alloc (.cells #[.bool ts,.slice tx tn tc,.slice ty tm td] 24)) ts tx tn tc tf ty tm td tg q):=Rn.below hr hb5;replace HS:=hid (HS.out.below hb5);replace HO:=hid (HO.out.below hb5);replace HQ:=hid (HQ.out.below hb5);replace HB:=hid (HB.out.trans (hb5.mono HB.out.size))
   have i2:((i:Nat):Int)<((k:Nat):Int):=by omega
   obtain ⟨sz,u0,u1,u2,uf⟩:=HS.out;clear hr haq hav HE hb5;go_wp2_with fail
   clear sz u0 u1 u2 uf x0 x1 x2;generalize wr.alloc (.cells #[.bool ts,.slice tx tn tc,.slice ty tm td] 24)=w5 at *;have hKi:=rat_lt400 (i:=i) (L:=L) (by omega) hL;refine (rAdd_n (L:=164000) (HQ.out.mono hKi) (HR1.out.mono (by omega)) (by omega)).mono ?_;rintro e w6 ⟨s6,x6,n6,c6,f6,y6,m6,d6,g6,rfl,hb6,hq6⟩;have S6:=HS.out.below hb6;have R1:=hid (rd1_mk (HB.out.trans (hb6.mono HB.out.size)) S6 (HO.out.below hb6) (hq6.cut (K:=4+(i+1)*(L+1)) ((lo_add (HQ.out.lo HQ.out.ln HQ.out.ld) (HR1.out.lo HR1.out.ln HR1.out.ld)).mono (by rw [Nat.add_mul];omega))) hne);obtain ⟨sz,u0,u1,u2,uf⟩:=S6;clear HS HO HQ HR1 HB hb6 hq6 hKi;go_wp2;go_roundw
   case rel=>exact ⟨i+1,acc+q,s6,x6,n6,c6,f6,y6,m6,d6,g6,by omega,by go_num,R1.out.bel,R1.out.sx,R1.out.ob,R1.out.rn,HD.out⟩
   case measure=>simp [intOf];omega
  ·have e1:i=k:=by omega
   have HF:Hid (acc=psum p 0):=by
    show _=_;rw [←HE.out,e1,←hk,List.drop_length];rfl
   have i2:¬(((i:Nat):Int)<((k:Nat):Int)):=by omega
   obtain ⟨sz,u0,u1,u2,uf⟩:=HS.out;obtain ⟨hz,z0,z1,z2,zf⟩:=HO.out;have HKK:Hid (i=k):=e1;clear e1 HE;go_wp2;exact bodyPost_ret (v:=.agg #[.bool s,.slice x n c,.slice y m d]) (by simp [results,Tryz.results32,go_sem,z0,z1,z2]) rfl ⟨s,x,n,c,f,y,m,d,g,rfl,below_st HB.out (by omega),by rw [←HF.out,←HKK.out];exact HO.out.rn HQ.out⟩
def wpAnyP (P:Program) (md:Region.Mode) (ops:Array Oper) (Q:Exit→Act→World→Prop) (S:World→Prop) (k:Nat):Nat→Array Bool→Act→World→Prop
 | 0,listed,a,w=>Region.ready md ops listed=[]∧Q .normal a w
 | fuel+1,listed,a,w =>
  (Region.ready md ops listed=[]→Q .normal a w) ∧
  ∀i ∈ Region.ready md ops listed,wpOp P ops Q i (fun a' w'=>((listed.setIfInBounds i true).getD k true=false→S w')∧wpAnyP P md ops Q S k fuel (listed.setIfInBounds i true) a' w') a w
theorem wpAny_of_phase {P:Program} {ops:Array Oper} {Q:Exit→Act→World→Prop} {md:Region.Mode} {S:World→Prop} {k:Nat}:∀(fuel:Nat) (listed:Array Bool) (a:Act) (w:World),wpAnyP P md ops Q S k fuel listed a w→wpAny P md ops Q fuel listed a w
 | 0,_,_,_,h=>h
 | fuel+1,_,_,_,h=>⟨h.1,fun i hi=>wpOp_mono (fun a' w' h'=>wpAny_of_phase fuel _ a' w' h'.2) (h.2 i hi)⟩
theorem ready_waits {ops:Array Oper} {md:Region.Mode} {listed:Array Bool} {i j:Nat} (hi:i ∈ Region.ready md ops listed) (hj:j ∈ Region.ready md ops listed) (hd:i ∈ depsOf md ops j):False:=by
 obtain ⟨oj,hoj,e,he,hb,rfl⟩:=mem_deps.1 hd;obtain ⟨_,oj',hoj',hall⟩:=mem_ready.1 hj;rw [hoj] at hoj';cases hoj'
 have h1:=hall e he hb;have h0:=(mem_ready.1 hi).1;rcases Nat.lt_or_ge e.on listed.size with h' | h'
 ·simp [h'] at h0 h1;rw [h0] at h1;cases h1
 ·simp [Array.getElem?_eq_none h'] at h1
theorem wpAnyP_pure {P:Program} {ops:Array Oper} {Q:Exit→Act→World→Prop} {md:Region.Mode} {S:World→Prop} {k:Nat} {i:Nat} {oi:Oper} {v:Value} (hi:ops[i]?=some oi) (hsel:∀(j:Nat) (o:Oper) cs b,ops[j]?=some o→o.op≠.select cs b)
  (hQ:∀c a w,Q (.panic c) (a.put oi.dst v) w→Q (.panic c) a w) (hik:i≠k) :
  ∀(fuel:Nat) (listed:Array Bool) (a:Act) (w:World),
   (∀j oj,ops[j]?=some oj→j≠i→listed.getD j true=false→(∀e ∈ oj.after,Region.binds md e=true→e.on≠i)→oi.apart ops oj=true) →
   i ∈ Region.ready md ops listed→YieldsIf P ops (fun _=>True) oi v a→(listed.getD k true=false→S w) →
   wpAnyP P md ops Q S k fuel (listed.setIfInBounds i true) (a.put oi.dst v) w→wpAnyP P md ops Q S k (fuel+1) listed a w:=by
 intro fuel
 induction fuel with
 | zero =>
  intro listed a w _ hr hy hS H;refine ⟨fun h=>(by rw [h] at hr;cases hr),fun j hj=>?_⟩;by_cases hji:j=i
  ·subst hji;exact hy.wpOp hi trivial ⟨fun h=>hS (by rw [getD_set_ne true hik] at h;exact h),H⟩
  ·have:=ready_mono hj hji;rw [H.1] at this;cases this
 | succ fuel ih =>
  intro listed a w hfree hr hy hS H;refine ⟨fun h=>(by rw [h] at hr;cases hr),fun j hj=>?_⟩;by_cases hji:j=i
  ·subst hji;exact hy.wpOp hi trivial ⟨fun h=>hS (by rw [getD_set_ne true hik] at h;exact h),H⟩
  ·have h1:=H.2 j (ready_mono hj hji);obtain ⟨hjun,oj,hoj,hall⟩:=mem_ready.1 hj;have hnot:∀e ∈ oj.after,Region.binds md e=true→e.on≠i:=fun e he hb heq=>ready_waits hr hj (mem_deps.2 ⟨oj,hoj,e,he,hb,heq⟩)
   have h2:=wpOp_putIf hoj (hfree j oj hoj hji hjun hnot) (fun cs b=>hsel i oi cs b hi) (fun cs b=>hsel j oj cs b hoj) hQ hy h1;have hfree':∀k ok,ops[k]?=some ok→k≠i→(listed.setIfInBounds j true).getD k true=false →
     (∀e ∈ ok.after,Region.binds md e=true→e.on≠i)→oi.apart ops ok=true:=fun k ok hk hki hun hno=>by
    refine hfree k ok hk hki ?_ hno;by_cases hjk:j=k
    ·subst hjk;exact hjun
    ·rw [getD_set_ne true hjk] at hun;exact hun
   have hS':∀w',(((listed.setIfInBounds i true).setIfInBounds j true).getD k true=false→S w')→(listed.setIfInBounds j true).getD k true=false→S w':=fun w' h hk=>h (by
    by_cases hjk:j=k
    ·subst hjk;rcases Nat.lt_or_ge j listed.size with h' | h'
     ·simp [h'] at hk
     ·simp [Array.getElem?_eq_none h'] at hjun
    ·rw [getD_set_ne true hjk] at hk ⊢;rw [getD_set_ne true hik];exact hk)
   refine wpOp_mono (fun a' w' h3=>⟨hS' _ h3.2.1,ih (listed.setIfInBounds j true) a' w' hfree' (ready_mono hr (Ne.symm hji)) h3.1 (hS' _ h3.2.1) ?_⟩) h2;rw [Array.setIfInBounds_comm _ _ hji];exact h3.2.2
theorem wpAnyP_skim {P:Program} {ops:Array Oper} {Q:Exit→Act→World→Prop} {md:Region.Mode} {S:World→Prop} {k:Nat} {i:Nat} {oi:Oper} {v:Value} {fuel:Nat} {listed:Array Bool} {a:Act} {w:World} (hi:ops[i]?=some oi)
  (hs:Region.noSelect ops=true) (hf:Region.free md ops listed i=true) (hr:(Region.ready md ops listed).contains i=true) (hik:(i==k)=false)
  (hQ:∀c a w,Q (.panic c) (a.put oi.dst v) w→Q (.panic c) a w) (hy:YieldsIf P ops (fun _=>True) oi v a) (hS:listed.getD k true=false→S w)
  (h:wpAnyP P md ops Q S k fuel (listed.setIfInBounds i true) (a.put oi.dst v) w):wpAnyP P md ops Q S k (fuel+1) listed a w :=
 wpAnyP_pure hi (Region.noSelect_spec hs) hQ (by simpa using hik) fuel listed a w (Region.free_spec hi hf) (by simpa using hr) hy hS h
def AllReadyP (P:Program) (md:Region.Mode) (ops:Array Oper) (Q:Exit→Act→World→Prop) (S:World→Prop) (k:Nat) (fuel:Nat) (listed:Array Bool) (a:Act) (w:World) (rs:List Nat):Prop :=
 ∀i ∈ rs,wpOp P ops Q i (fun a' w'=>((listed.setIfInBounds i true).getD k true=false→S w')∧wpAnyP P md ops Q S k fuel (listed.setIfInBounds i true) a' w') a w
theorem AllReadyP.nil {P:Program} {ops:Array Oper} {Q:Exit→Act→World→Prop} {md:Region.Mode} {S:World→Prop} {k:Nat} {fuel:Nat} {listed:Array Bool} {a:Act} {w:World}:AllReadyP P md ops Q S k fuel listed a w []:=fun _ h=>by cases h
theorem AllReadyP.cons {P:Program} {ops:Array Oper} {Q:Exit→Act→World→Prop} {md:Region.Mode} {S:World→Prop} {k:Nat} {fuel:Nat} {listed:Array Bool} {a:Act} {w:World} {i:Nat} {o:Oper} {rs:List Nat} (ho:ops[i]?=some o)
  (h:∀K':Act→World→Prop,Shut (∀a w,((listed.setIfInBounds i true).getD k true=false→S w)→(((listed.setIfInBounds i true).getD k true=false→S w)→wpAnyP P md ops Q S k fuel (listed.setIfInBounds i true) a w)→K' a w)→if Region.wanted o (yielded ops a.tmps)=true then Oper.wp P o a w K' Q else K' (a.put o.dst undef) w)
  (hs:AllReadyP P md ops Q S k fuel listed a w rs):AllReadyP P md ops Q S k fuel listed a w (i :: rs):=fun j hj=>by
 rcases List.mem_cons.1 hj with rfl | hj
 ·exact wpOp_step ho (fun K' hK=>h K' (fun a w hS hW=>hK a w ⟨hS,hW hS⟩))
 ·exact hs j hj
theorem wpAnyP_ready {P:Program} {ops:Array Oper} {Q:Exit→Act→World→Prop} {md:Region.Mode} {S:World→Prop} {k:Nat} {rs:List Nat} {fuel:Nat} {listed:Array Bool} {a:Act} {w:World} (hr:Region.ready md ops listed=rs) (hne:rs≠[])
  (h:AllReadyP P md ops Q S k fuel listed a w rs):wpAnyP P md ops Q S k (fuel+1) listed a w:=⟨fun h0=>absurd (hr ▸ h0) hne,hr ▸ h⟩
theorem wpAnyP_done {P:Program} {ops:Array Oper} {Q:Exit→Act→World→Prop} {md:Region.Mode} {S:World→Prop} {k:Nat} {listed:Array Bool} {a:Act} {w:World} (hr:Region.ready md ops listed=[]) (h:Q .normal a w) :
  ∀fuel,wpAnyP P md ops Q S k fuel listed a w
 | 0=>⟨hr,h⟩
 | _+1=>⟨fun _=>h,by rw [hr];simp⟩
theorem wp_region_phase {P:Program} {ops:Array Oper} {Q:Exit→Act→World→Prop} {S:World→Prop} {id:Nat} {a:Act} {w:World} (k:Nat) (hm:P.follows .mixedOrders=true) (hS:S w.drew)
  (h:S w.drew→wpAnyP P .any ops Q S k ops.size (Array.replicate ops.size false) a w.drew):(Code.region id ops true).wp P Q a w :=
 wp_region_any hm (wpAny_of_phase _ _ _ _ (h hS))
end Go.Proofs.YtdbbncamlaiajaaGreat
