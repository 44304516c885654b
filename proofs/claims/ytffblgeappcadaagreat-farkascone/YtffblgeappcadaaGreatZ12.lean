/-
 Dp, where k waits for a load by way of others too (written by makers/dq.py). No Go text is named here. The walk of package point's activities, by values (written by makers/n2.py). Walks of the document's DocCmp, DocMax, DocMin of bounds, whatever they are handed; of the statements' same, light, num. Walks of ext: number, Scale of minus infinity by a number below 0, Text of infinity; of the statements' own look at answers that the document fixes (awake). Walks of ext: Of, Neg, Shift, Scale, whatever they are handed. The walks of package ext's Cmp of longer bounds, of package point's keeps (written by makers/n3.py). The walk of rat.Copy, with the owners of what it answers. The walk of the reference's From of a list of terms. Walks of the reference's Twins, Forms and Froms of lists of numbers. A stack without steps in memory; the walks of stack.New, Size and Tightened, of point.Numbers, of rat.Copy (with its owners) and of stack.copied. The walk of stack.copied. The walks of stack.back without steps, of stack.copiedPoint, and of the reference's Twin of points and of certificates (written by makers/o3.py). The walks of stack's numbers, Primal, Lift, checkPoint and Dual, of a stack without steps (written by makers/o4.py). The walk of package point's check, whatever it is handed (written by makers/n4.py). The walk of package point's Broken, whatever it is handed (written by makers/n5.py). The walk of package farkas' through, with any visitor (written by makers/fk1.py). The walks of package point's Activities, Feasible, Value, whatever they are handed (written by makers/n6.py). The walks of package ray's times, free, endless, slope, by values (written by makers/ra1.py). The walks of package farkas' small calls, and of the visitors that set a flag: anyInfinite, anyBelow. The walks of package farkas' plus, times, weight, noughts, allZero (written by makers/fk3.py). Columns of sums and of lists of numbers, lengths; Dot whatever it is handed.
-/
import Derived.Test.YtffblgeappcadaaGreatZ11
import Derived.Test.YtffblgeappcadaaGreatZ10
import Derived.Test.YtffblgeappcadaaGreatZ8
import Derived.Test.YtffblgeappcadaaGreatZ9
import Derived.Test.YtffblgeappcadaaGreatZ6
import Derived.Test.YtffblgeappcadaaGreatZ7
import Derived.BigQuiet
import Derived.Deep.RegionHeld3
import Derived.Test.YtffblgeappcadaaGreatZ0
namespace Go.Proofs.YtffblgeappcadaaGreat
open Go.RowKit
theorem wpAnyP_far {P:Program} {ops:Array Oper} {Q:Exit→Act→World→Prop} {md:Region.Mode} {S:World→Prop} {k:Nat} {i:Nat} {oi:Oper} {v:Value} (hi:ops[i]?=some oi) (hsel:∀(j:Nat) (o:Oper) cs b,ops[j]?=some o→o.op≠.select cs b)
  (hQ:∀c a w,Q (.panic c) (a.put oi.dst v) w→Q (.panic c) a w) (hd:i ∈ ancs md ops ops.size [k]) :
  ∀(fuel:Nat) (listed:Array Bool) (a:Act) (w:World),
   (∀j oj,ops[j]?=some oj→j≠i→listed.getD j true=false→(∀e ∈ oj.after,Region.binds md e=true→e.on≠i)→oi.apart ops oj=true) →
   i ∈ Region.ready md ops listed→listed.getD k true=false→(∀a b,listed.getD a false=true→b ∈ depsOf md ops a→listed.getD b false=true)→YieldsIf P ops S oi v a→S w →
   wpAnyP P md ops Q S k fuel (listed.setIfInBounds i true) (a.put oi.dst v) w→wpAnyP P md ops Q S k (fuel+1) listed a w:=by
 intro fuel
 induction fuel with
 | zero =>
  intro listed a w _ hr _ _ hy hS H;refine ⟨fun h=>(by rw [h] at hr;cases hr),fun j hj=>?_⟩;by_cases hji:j=i
  ·subst hji;exact hy.wpOp hi hS ⟨fun _=>hS,H⟩
  ·have:=ready_mono hj hji;rw [H.1] at this;cases this
 | succ fuel ih =>
  intro listed a w hfree hr hk hcl hy hS H;refine ⟨fun h=>(by rw [h] at hr;cases hr),fun j hj=>?_⟩;by_cases hji:j=i
  ·subst hji;exact hy.wpOp hi hS ⟨fun _=>hS,H⟩
  ·have h1:=H.2 j (ready_mono hj hji);obtain ⟨hjun,oj,hoj,hall⟩:=mem_ready.1 hj;have hil:listed.getD i false=true→False:=fun h=>by
    have h0:=(mem_ready.1 hr).1;rcases Nat.lt_or_ge i listed.size with h' | h'
    ·simp [h'] at h0 h;rw [h0] at h;cases h
    ·simp [Array.getElem?_eq_none h'] at h
   have hjd:∀b,b ∈ depsOf md ops j→listed.getD b false=true:=fun b hb=>by
    obtain ⟨o',ho',e,he,hb',rfl⟩:=mem_deps.1 hb;obtain ⟨_,oj',hoj',hall'⟩:=mem_ready.1 hj;obtain rfl:o'=oj':=Option.some.inj (ho'.symm.trans hoj');exact hall' e he hb'
   have hjk:j≠k:=fun e=>by
    subst e;exact hil (anc_listed hcl ops.size [j] (fun a ha b hb=>by simp at ha;subst ha;exact hjd b hb) i hd)
   have hik:i≠k:=fun e=>by
    subst e;refine hil (anc_listed hcl ops.size [i] (fun a ha b hb=>?_) i hd);simp at ha;subst ha
    obtain ⟨o',ho',e,he,hb',rfl⟩:=mem_deps.1 hb;obtain ⟨_,oi',hoi',hall'⟩:=mem_ready.1 hr;obtain rfl:o'=oi':=Option.some.inj (ho'.symm.trans hoi');exact hall' e he hb'
   have hnot:∀e ∈ oj.after,Region.binds md e=true→e.on≠i:=fun e he hb heq=>ready_waits hr hj (mem_deps.2 ⟨oj,hoj,e,he,hb,heq⟩)
   have h2:=wpOp_putIf hoj (hfree j oj hoj hji hjun hnot) (fun cs b=>hsel i oi cs b hi) (fun cs b=>hsel j oj cs b hoj) hQ hy h1;have hfree':∀k ok,ops[k]?=some ok→k≠i→(listed.setIfInBounds j true).getD k true=false →
     (∀e ∈ ok.after,Region.binds md e=true→e.on≠i)→oi.apart ops ok=true:=fun k ok hk hki hun hno=>by
    refine hfree k ok hk hki ?_ hno;by_cases hjk:j=k
    ·subst hjk;exact hjun
    ·rw [getD_set_ne true hjk] at hun;exact hun
   have hk':(listed.setIfInBounds j true).getD k true=false:=by rw [getD_set_ne true hjk];exact hk
   have hk2:((listed.setIfInBounds i true).setIfInBounds j true).getD k true=false:=by rw [getD_set_ne true hjk,getD_set_ne true hik];exact hk
   have hcl':∀a b,(listed.setIfInBounds j true).getD a false=true→b ∈ depsOf md ops a→(listed.setIfInBounds j true).getD b false=true:=fun a b ha hb=>by
    by_cases e:a=j
    ·subst e;exact getD_set_true (hjd b hb)
    ·rw [getD_set_ne false (Ne.symm e)] at ha;exact getD_set_true (hcl a b ha hb)
   refine wpOp_mono (fun a' w' h3=>⟨fun _=>h3.2.1 hk2,ih (listed.setIfInBounds j true) a' w' hfree' (ready_mono hr (Ne.symm hji)) hk' hcl' h3.1 (h3.2.1 hk2) ?_⟩) h2;rw [Array.setIfInBounds_comm _ _ hji];exact h3.2.2
def shutB (md:Region.Mode) (ops:Array Oper) (listed:Array Bool):Bool:=(List.range listed.size).all (fun a=>!(listed.getD a false) || (depsOf md ops a).all (fun b=>listed.getD b false))
theorem shutB_of {md:Region.Mode} {ops:Array Oper} {listed:Array Bool} (h:shutB md ops listed=true):∀a b,listed.getD a false=true→b ∈ depsOf md ops a→listed.getD b false=true:=fun a b ha hb=>by
 rcases Nat.lt_or_ge a listed.size with hl | hl
 ·have:=List.all_eq_true.1 h a (List.mem_range.2 hl);rw [ha] at this;have h2:=List.all_eq_true.1 (show (depsOf md ops a).all (fun b=>listed.getD b false)=true from (by simpa only [Bool.not_true,Bool.false_or] using this)) b hb;exact h2
 ·simp [Array.getElem?_eq_none hl] at ha
theorem wpAnyP_takeA {P:Program} {ops:Array Oper} {Q:Exit→Act→World→Prop} {md:Region.Mode} {S:World→Prop} {k:Nat} {i:Nat} {oi:Oper} {v:Value} {fuel:Nat} {listed:Array Bool} {a:Act} {w:World} (hi:ops[i]?=some oi)
  (hs:Region.noSelect ops=true) (hf:Region.free md ops listed i=true) (hr:(Region.ready md ops listed).contains i=true) (hd:(ancs md ops ops.size [k]).contains i=true) (hk:listed.getD k true=false) (hc:shutB md ops listed=true)
  (hQ:∀c a w,Q (.panic c) (a.put oi.dst v) w→Q (.panic c) a w) (hy:YieldsIf P ops S oi v a) (hS:S w)
  (h:wpAnyP P md ops Q S k fuel (listed.setIfInBounds i true) (a.put oi.dst v) w):wpAnyP P md ops Q S k (fuel+1) listed a w :=
 wpAnyP_far hi (Region.noSelect_spec hs) hQ (by simpa using hd) fuel listed a w (Region.free_spec hi hf) (by simpa using hr) hk (shutB_of hc) hy hS h
def Gr (K base:Nat) (w:World) (v:Value) (p:List Rat):Prop:=∃T:Nat→Nm,RowG 24 3 base w v p.length (rcells (rls p.length T))∧∀(j:Nat) (q:Rat),p[j]?=some q→Rn K w (T j).s (T j).x (T j).n (T j).c (T j).f (T j).y (T j).m (T j).d (T j).g q
theorem gr_nil (K base:Nat) (w:World):Gr K base w (.slice none 0 0) []:=⟨fun _=>⟨false,none,0,0,fun _=>0,none,0,0,fun _=>0⟩,rowG_nil _ _ _ _,fun j q h=>by simp at h⟩
theorem Gr.below {K base w w' v p} (h:Gr K base w v p) (hb:Below w.heap.size w w'):Gr K base w' v p:=by
 obtain ⟨T,h1,h2⟩:=h;exact ⟨T,h1.below hb,fun j q e=>(h2 j q e).below hb⟩
theorem gr_push {K base:Nat} {w0 w':World} {p:List Rat} {T:Nat→Nm} {g cap:Nat} {s:Bool} {x:Option Addr} {n c:Nat} {f:Nat→Int} {y:Option Addr} {m d:Nat} {gg:Nat→Int} {q:Rat} (hT:∀(j:Nat) (q:Rat),p[j]?=some q→Rn K w0 (T j).s (T j).x (T j).n (T j).c (T j).f (T j).y (T j).m (T j).d (T j).g q) (hr:RowG 24 3 base w' (.slice (some ⟨g,0,none⟩) (p.length+1) cap) (p.length+1) (rcells (rls p.length T)++#[Value.bool s,.slice x n c,.slice y m d].toList)) (hk:Kp w0 w') (hq:Rn K w0 s x n c f y m d gg q):Gr K base w' (.slice (some ⟨g,0,none⟩) (p.length+1) cap) (p++[q]):=by
 refine ⟨putN T p.length ⟨s,x,n,c,f,y,m,d,gg⟩,?_,fun j q' e=>?_⟩
 ·rw [List.length_append,List.length_singleton,rls_put];exact hr
 ·by_cases hj:j<p.length
  ·rw [List.getElem?_append_left hj] at e;rw [putN_ne (by omega)];exact Rn.kp (hT j q' e) hk
  ·rw [List.getElem?_append_right (by omega)] at e;have h0:j-p.length=0:=by
    rcases Nat.eq_zero_or_pos (j-p.length) with h | h
    ·exact h
    ·rw [List.getElem?_eq_none (by simp;omega)] at e;cases e
   have hjj:j=p.length:=by omega
   subst hjj;rw [h0] at e;cases e
   rw [putN_at];exact Rn.kp hq hk
theorem Gr.rf {K base w ao n cap p} (h:Gr K base w (.slice ao n cap) p):Rf K w ao p:=fun j q hj=>by
 obtain ⟨T,h1,h2⟩:=h;have hl:j<p.length:=by
  rcases Nat.lt_or_ge j p.length with h | h
  ·exact h
  ·rw [List.getElem?_eq_none h] at hj;cases hj
 have hn:n=p.length:=by
  obtain ⟨ao',cap',e⟩:=h1.slice;cases e;rfl
 subst hn;obtain ⟨b,e,hc⟩:=rowg_c3 h1 hl;exact ⟨b,0,T j,e,hc,h2 j q hj⟩
theorem Gr.slice {K base w v p} (h:Gr K base w v p):∃ao cap,v=.slice ao p.length cap∧p.length≤cap∧cap≤9223372036854775807:=by
 obtain ⟨T,h1,h2⟩:=h;obtain ⟨ao,cap,rfl⟩:=h1.slice;refine ⟨ao,cap,rfl,?_⟩;rcases h1.2 with ⟨hv,h0⟩ | ⟨_,_,_,hv,_,_,h5,h6,_⟩
 ·injection hv with _ e2 e3;omega
 ·injection hv with _ _ e3;subst e3;unfold maxLen at h6;omega
def ks (p:Bool) (n2:Nat):Int:=if p then (if n2=0 then 4 else 0) else 3
theorem Dn.kp {w w' x n d V} (h:Dn w x n d V) (hk:Kp w w'):Dn w' x n d V:=⟨h.rd.kp hk,h.dg,h.fm,h.val⟩
theorem Qn.kp {w w' s x n d y m g q} (h:Qn w s x n d y m g q) (hk:Kp w w'):Qn w' s x n d y m g q:=⟨⟨h.num.dn.kp hk,h.num.sgn,h.num.pos⟩,h.den.kp hk⟩
def QnT (K:Nat) (w:World) (t:Nm) (q:Rat):Prop:=t.n≤K∧t.m≤K∧Qn w t.s t.x t.n t.f t.y t.m t.g q
theorem QnT.below {K w w' t q} (h:QnT K w t q) (hb:Below w.heap.size w w'):QnT K w' t q:=⟨h.1,h.2.1,h.2.2.below hb⟩
theorem QnT.kp {K w w' t q} (h:QnT K w t q) (hk:Kp w w'):QnT K w' t q:=⟨h.1,h.2.1,h.2.2.kp hk⟩
def Tq (K:Nat) (w:World) (ao:Option Addr) (v:List (Int × Rat)):Prop :=
 ∀(j:Nat) (a:Int) (q:Rat),v[j]?=some (a,q)→∃b o,∃t:Nm,ao=some ⟨b,o,none⟩∧C4 w b (o+j*4) (.int .i64 a) (.bool t.s) (.slice t.x t.n t.c) (.slice t.y t.m t.d)∧QnT K w t q
theorem Tq.below {K w w' ao v} (h:Tq K w ao v) (hb:Below w.heap.size w w'):Tq K w' ao v:=fun j a q hj=>by
 obtain ⟨b,o,t,e,h1,h2⟩:=h j a q hj;exact ⟨b,o,t,e,h1.below hb,h2.below hb⟩
theorem afr_sn {X X':Nat→Nm}:∀{r i:Nat},(∀j,i≤j→j<i+r→Sn (X j) (X' j))→afr X' r i=afr X r i:=by
 intro r
 induction r with
 | zero=>intro i _;rfl
 | succ r ih =>
  intro i h;simp only [afr];rw [ih (fun j a b=>h j (by omega) (by omega)),(h i (by omega) (by omega)).nfB]
def TwsAns (w w':World) (e:Ending) (k:Nat) (X:Nat→Nm):Prop:=∃aw cw X',e=.returned (.slice aw k cw)∧Below w.heap.size w w'∧(k≤cw∧cw≤9223372036854775807)∧Hid (Rl w' aw k X'∧∀j,j<k→Sn (X j) (X' j))
set_option maxRecDepth 100000 in
set_option maxHeartbeats 4000000 in
theorem twins_c {w:World} {ao:Option Addr} {k cap:Nat} {X:Nat→Nm} (h:Rl w ao k X) (hk:k≤10000) (hl:∀j,j<k→(X j).n≤1000∧(X j).m≤1000) :
  Calls Tryz.prog 40 #[.slice ao k cap] w fun e w'=>TwsAns w w' e k X:=by
 have H:=hid h;clear h;go_enter Tryz.func40,Tryz.ntmps40;go_wp2_with fail
 go_loopw [3,8] (fun ov t wr=>∃(i:Nat) (T':Nat→Nm),i≤k∧t=.int .i64 i∧Hid (Below w.heap.size w wr)∧Hid (RowG 24 3 w.heap.size wr ov i (rcells (rls i T')))∧Hid (∀j,j<i→Sn (X j) (T' j)∧Rw wr (T' j).x (T' j).n (T' j).c (T' j).f (T' j).y (T' j).m (T' j).d (T' j).g)) (fun _ t _=>k-(intOf t).toNat)
 case atStart=>exact ⟨0,X,by omega,rfl,Below.refl _ _,rowG_nil _ _ _ _,fun j hj=>by omega⟩
 case round =>
  obtain ⟨i,T',hi,rfl,HB,HRow,HT⟩:=hrel;by_cases hlt:i<k
  ·obtain ⟨b,o,hao,hc,hn,hn1,hn2⟩:=(H.out.below HB.out) i hlt;subst hao;obtain ⟨⟨s,x,n,c,f,y,m,d,g⟩,hTi⟩:∃t,X i=t:=⟨_,rfl⟩;rw [hTi] at hc hn;obtain ⟨x0,x1,x2⟩:=hc;replace x0:wr.cell? ⟨b,o+i*3,none⟩=some (.bool s):=x0;replace x1:wr.cell? ⟨b,o+i*3+1,none⟩=some (.slice x n c):=x1;replace x2:wr.cell? ⟨b,o+i*3+2,none⟩=some (.slice y m d):=x2;have i1:((i:Nat):Int)<((k:Nat):Int):=by omega
   obtain ⟨hn10,hm10⟩:=hl i hlt;rw [hTi] at hn10 hm10;replace hn:Rw wr x n c f y m d g:=hn;have hb5:=below_alloc (Below.refl wr.heap.size wr) (.cells #[.bool s,.slice x n c,.slice y m d] 24);have HN:=hid (hn.below hb5);have HTi:=hid hTi;have HRow5:=hid (HRow.out.below hb5);have HB5:=hid (HB.out.trans (hb5.mono HB.out.size))
   have HT5:Hid (∀j,j<i→Sn (X j) (T' j)∧Rw (wr.alloc (.cells #[.bool s,.slice x n c,.slice y m d] 24)) (T' j).x (T' j).n (T' j).c (T' j).f (T' j).y (T' j).m (T' j).d (T' j).g):=fun j hj=>⟨(HT.out j hj).1,(HT.out j hj).2.below hb5⟩
   clear hn hTi hb5 hn1 hn2;go_wp2_with fail
   clear x0 x1 x2 HB HRow HT;generalize wr.alloc (.cells #[.bool s,.slice x n c,.slice y m d] 24)=w5 at *;refine (qTwin_c (s:=s) HN.out (Nat.le_trans hn10 (by decide)) (Nat.le_trans hm10 (by decide))).mono ?_;rintro e w6 ⟨z6,c6,z7,c7,rfl,hb6,HQ⟩;have HB6:=hid (HB5.out.trans (hb6.mono HB5.out.size));have HRow6:=hid (HRow5.out.below hb6)
   have HT6:Hid (∀j,j<i→Sn (X j) (T' j)∧Rw w6 (T' j).x (T' j).n (T' j).c (T' j).f (T' j).y (T' j).m (T' j).d (T' j).g):=fun j hj=>⟨(HT5.out j hj).1,(HT5.out j hj).2.below hb6⟩
   have hsz:=HB6.out.size;clear hb6 HB5 HRow5 HT5 HN;go_wp2_with (at_builtin;go_must (refine wpList_append_one w6 rfl (.tmp 12) (.tmp 15) 29 rfl w.heap.size 24 56 3 (.agg #[.bool false,.slice none 0 0,.slice none 0 0]) Tryz.underlying29 Tryz.infoRat rfl (by decide) nz3 u3 i (rcells (rls i T')) rfl HRow6.out #[.bool s,.slice z6 n c6,.slice z7 m c7] rfl rfl (one3 _ _ _ _ _ _ _) (not3 _ _ _ _ _ _ _) ?p1 (by decide) hsz ?_))
   case p1=>omega
   intro g8 cap8 w8 hr8 hk8 hb8 hg8;have HB8:=hid (hb8 w HB6.out (Nat.le_refl _));have HR8:Hid (RowG 24 3 w.heap.size w8 (.slice (some ⟨g8,0,none⟩) (i+1) cap8) (i+1) (rcells (rls (i+1) (putN T' i ⟨s,z6,n,c6,f,z7,m,c7,g⟩)))):=by
    show RowG _ _ _ _ _ _ _;rw [rls_put];exact hr8
   have HT8:Hid (∀j,j<i+1→Sn (X j) (putN T' i ⟨s,z6,n,c6,f,z7,m,c7,g⟩ j)∧Rw w8 (putN T' i ⟨s,z6,n,c6,f,z7,m,c7,g⟩ j).x (putN T' i ⟨s,z6,n,c6,f,z7,m,c7,g⟩ j).n (putN T' i ⟨s,z6,n,c6,f,z7,m,c7,g⟩ j).c (putN T' i ⟨s,z6,n,c6,f,z7,m,c7,g⟩ j).f (putN T' i ⟨s,z6,n,c6,f,z7,m,c7,g⟩ j).y (putN T' i ⟨s,z6,n,c6,f,z7,m,c7,g⟩ j).m (putN T' i ⟨s,z6,n,c6,f,z7,m,c7,g⟩ j).d (putN T' i ⟨s,z6,n,c6,f,z7,m,c7,g⟩ j).g):=fun j hj=>by
    by_cases e:j=i
    ·subst e;rw [putN_at];rw [HTi.out];exact ⟨⟨rfl,rfl,rfl,rfl,rfl⟩,Rw.kp HQ.out hk8⟩
    ·rw [putN_ne e];exact ⟨(HT6.out j (by omega)).1,Rw.kp (HT6.out j (by omega)).2 hk8⟩
   clear hr8 hk8 hb8 hg8 HRow6 HT6 HB6 HQ hsz;go_wp2;go_roundw
   case rel=>exact ⟨i+1,_,by omega,by go_num,HB8.out,HR8.out,HT8.out⟩
   case measure=>simp [intOf];omega
  ·have e1:i=k:=by omega
   have i1:¬(((i:Nat):Int)<((k:Nat):Int)):=by omega
   rw [e1] at HRow HT;obtain ⟨aw,cw,rfl⟩:=HRow.out.slice;have hcw:k≤cw∧cw≤9223372036854775807:=by
    rcases HRow.out.2 with ⟨hv,h0⟩ | ⟨_,_,_,hv,_,_,h5,h6,_⟩
    ·cases hv;omega
    ·cases hv;unfold maxLen at h6;omega
   clear e1;go_wp2;go_ret;exact ⟨aw,cw,T',rfl,HB.out,hcw,(fun j hj=>by obtain ⟨b,hb,h4⟩:=rowg_c3 HRow.out hj;obtain ⟨⟨_,e2,_,e4,_⟩,h6⟩:=HT.out j hj;exact ⟨b,0,hb,h4,h6,by rw [e2];exact Nat.le_trans (hl j hj).1 (by decide),by rw [e4];exact Nat.le_trans (hl j hj).2 (by decide)⟩),fun j hj=>(HT.out j hj).1⟩
def pnE (k:Nat) (X:Nat→Nm) (z:Int):Int:=if afB k X=true then (if (k:Int)=z then 0 else 7) else 3
set_option maxRecDepth 100000 in
set_option maxHeartbeats 4000000 in
theorem pNumbers_c {w:World} {ao:Option Addr} {k cap:Nat} {X:Nat→Nm} {z:Int} (h:Rl w ao k X) (hk:k≤1048576) :
  Calls Tryz.prog 62 #[.slice ao k cap,.int .i64 z] w fun e w'=>e=.returned (.int .i64 (pnE k X z))∧Below w.heap.size w w':=by
 have H:=hid h;clear h;go_enter Tryz.func62,Tryz.ntmps62;go_wp2_with fail
 go_loopw [9] (fun t wr=>∃(i:Nat),i≤k∧t=.int .i64 i∧Hid (Below w.heap.size w wr)∧Hid (afB k X=afr X (k-i) i)) (fun t _=>k-(intOf t).toNat)
 case atStart=>exact ⟨0,by omega,rfl,Below.refl _ _,rfl⟩
 case round =>
  obtain ⟨i,hi,rfl,HB,HT⟩:=hrel;by_cases hlt:i<k
  ·obtain ⟨b,o,rfl,hc,hn,hn1,hn2⟩:=(H.out.below HB.out) i hlt;obtain ⟨r,hr⟩:∃r,k-i=r+1:=⟨k-i-1,by omega⟩;have hT:afB k X=(nfB (X i) && afr X r (i+1)):=by rw [HT.out,hr];rfl
   have hr2:k-(i+1)=r:=by omega
   obtain ⟨⟨s,x,n,c,f,y,m,d,g⟩,hTi⟩:∃t,X i=t:=⟨_,rfl⟩;rw [hTi] at hc hn hn1 hn2 hT;obtain ⟨x0,x1,x2⟩:=hc;replace x0:wr.cell? ⟨b,o+i*3,none⟩=some (.bool s):=x0;replace x1:wr.cell? ⟨b,o+i*3+1,none⟩=some (.slice x n c):=x1;replace x2:wr.cell? ⟨b,o+i*3+2,none⟩=some (.slice y m d):=x2;replace hn:Rw wr x n c f y m d g:=hn;replace hn1:n≤65536:=hn1;replace hn2:m≤65536:=hn2;have hblk:Below wr.heap.size wr (wr.alloc (.cells #[.bool s,.slice x n c,.slice y m d] 24)):=below_alloc (Below.refl _ _) _;have CF:=hid (rForm_c (s:=s) (hn.below hblk) (by omega) (by omega));have HTi:=hid hT;have HR2:=hid hr2
   have i1:((i:Nat):Int)<((k:Nat):Int):=by omega
   clear hT hr2 hTi hr hn hblk;cases hf:rfB s f n g m
   ·have CF2:=CF;rw [hf] at CF2;have HNF:Hid (nfB ⟨s,x,n,c,f,y,m,d,g⟩=false):=hf;clear CF hf;go_wp2_with fail
    refine CF2.out.mono ?_;rintro e w1 ⟨rfl,hb1⟩;obtain ⟨_,_,_,_,hb2⟩:=box3 hb1;go_wp2;go_ret;refine ⟨?_,HB.out.trans (hb2.mono HB.out.size)⟩;rw [pnE,HTi.out,HNF.out];rfl
   ·have CF2:=CF;rw [hf] at CF2;have HNF:Hid (nfB ⟨s,x,n,c,f,y,m,d,g⟩=true):=hf;clear CF hf;go_wp2_with fail
    refine CF2.out.mono ?_;rintro e w1 ⟨rfl,hb1⟩;obtain ⟨_,_,_,_,hb2⟩:=box3 hb1;have HB2:=hid (HB.out.trans (hb2.mono HB.out.size));clear hb1 hb2;go_wp2;go_roundw
    case rel =>
     refine ⟨i+1,by omega,by go_num,HB2.out,?_⟩;show _=_;rw [HTi.out,HNF.out,HR2.out];rfl
    case measure=>simp [intOf];omega
  ·have e1:i=k:=by omega
   have HTe:Hid (afB k X=true):=by
    show _=_;rw [HT.out,e1,Nat.sub_self];rfl
   have i2:¬(((i:Nat):Int)<((k:Nat):Int)):=by omega
   clear e1 HT;by_cases hz:((k:Nat):Int)=z
   ·have hz1:(((k:Nat):Int) != z)=false:=by simpa using hz
    have HZ:=hid (show pnE k X z=0 by rw [pnE,HTe.out];simp [hz]);clear hz;go_wp2;go_ret;refine ⟨?_,HB.out⟩;rw [HZ.out];rfl
   ·have hz1:(((k:Nat):Int) != z)=true:=by simpa using hz
    have HZ:=hid (show pnE k X z=7 by rw [pnE,HTe.out];simp [hz]);clear hz;go_wp2;go_ret;refine ⟨?_,HB.out⟩;rw [HZ.out];rfl
theorem Rk.of {w w' B k} (h:Rk w B k) (hB:w'.heap[B]?=w.heap[B]?):Rk w' B k :=
 ⟨(by
  have h1:=h.z;rcases Nat.lt_or_ge B w'.heap.size with h2 | h2
  ·exact h2
  ·rw [Array.getElem?_eq_none h2,Array.getElem?_eq_getElem h1] at hB;cases hB),fun o ho=>by obtain ⟨u,h1,h2⟩:=h.has o ho;exact ⟨u,(World.cell?_of_block (a:=⟨B,o,none⟩) hB).trans h1,h2⟩,fun o=>by have:=h.fz o;simp only [World.frozen?,hB] at this ⊢;exact this⟩
theorem Rl.st {w w':World} {ao:Option Addr} {k B:Nat} {X:Nat→Nm} (h:Rl w ao k X) (hk:Kp w w') (hne:∀b,b≠B→w'.heap[b]?=w.heap[b]?) (hnb:∀o s,w.cell? ⟨B,o,none⟩≠some (.bool s)):Rl w' ao k X:=fun j hj=>by
 obtain ⟨b,o,e,⟨c0,c1,c2⟩,h1,h2⟩:=h j hj;have hB:b≠B:=fun e=>hnb _ _ (e ▸ c0)
 have hs:=hne b hB;exact ⟨b,o,e,⟨(World.cell?_of_block (a:=⟨b,o+j*3,none⟩) hs).trans c0,(World.cell?_of_block (a:=⟨b,o+j*3+1,none⟩) hs).trans c1,(World.cell?_of_block (a:=⟨b,o+j*3+2,none⟩) hs).trans c2⟩,h1.kp hk,h2⟩
theorem bk_nob {w B vs t} (h:Bk w B vs t) (hv:∀v ∈ vs,∃a n c,v=Value.slice a n c):∀o s,w.cell? ⟨B,o,none⟩≠some (.bool s):=fun o s e=>by
 unfold Bk at h;simp only [World.cell?,h] at e;have e':vs[o]?=some (.bool s):=by simpa using e
 obtain ⟨a,n,c,h1⟩:=hv _ (List.mem_of_getElem? e');cases h1
theorem tsB_mem {n:Nat}:∀{ts:List (Int × Rat)} {l:Int},tsB n l ts=true→∀t ∈ ts,l<t.1∧t.1<(n:Int)∧t.2≠0
 | [],_,_,t,ht=>by cases ht
 | (z,q) :: r,l,h,t,ht=>by
  simp only [tsB,Bool.and_eq_true,decide_eq_true_eq] at h;obtain ⟨h1,h2,h3,h4⟩:=h;rcases List.mem_cons.1 ht with rfl | ht
  ·exact ⟨h1,h2,h3⟩
  ·have:=tsB_mem h4 t ht;exact ⟨by omega,this.2⟩
theorem tsB_len {n:Nat}:∀{ts:List (Int × Rat)} {l:Int},tsB n l ts=true→l<(n:Int)→(ts.length:Int)≤n-1-l
 | [],l,_,hl=>by simp;omega
 | (z,q) :: r,l,h,hl=>by
  simp only [tsB,Bool.and_eq_true,decide_eq_true_eq] at h;obtain ⟨h1,h2,h3,h4⟩:=h;have:=tsB_len h4 h2;simp only [List.length_cons];omega
def BdOk (li:Int) (lq:Rat) (hi:Int) (hq:Rat):Prop:=(li=0∨(li=-1∨li=1)∧lq=0)∧(hi=0∨(hi=-1∨hi=1)∧hq=0)
theorem bdB_ok {li lq hi hq} (h:bdB li lq hi hq=true):BdOk li lq hi hq:=by
 simp only [bdB,Bool.and_eq_true,Bool.or_eq_true,decide_eq_true_eq] at h;exact ⟨h.1.imp id (fun h=>⟨.inl h.1,h.2⟩),h.2.imp id (fun h=>⟨.inr h.1,h.2⟩)⟩
structure MvP (cs:List CV) (rs:List RV):Prop where
 cl:cs.length≤64
 rl:rs.length≤64
 cb:∀v ∈ cs,BdOk v.li v.lq v.hi v.hq
 rb:∀v ∈ rs,BdOk v.li v.lq v.hi v.hq
 tc:∀v ∈ rs,∀t ∈ v.ts,0≤t.1∧t.1<(cs.length:Int)
 tl:∀v ∈ rs,v.ts.length≤64
theorem mvOk_p {cs rs} (h:mvOk cs rs=true):MvP cs rs:=by
 simp only [mvOk,Bool.and_eq_true,decide_eq_true_eq,List.all_eq_true] at h;obtain ⟨h1,h2,h3,h4,_⟩:=h;refine ⟨h1,h2,fun v hv=>bdB_ok (h3 v hv),fun v hv=>bdB_ok (h4 v hv).1,fun v hv t ht=>?_,fun v hv=>?_⟩
 ·have:=tsB_mem (h4 v hv).2.1 t ht;exact ⟨by omega,this.2.1⟩
 ·have:=tsB_len (h4 v hv).2.1 (by omega);omega
structure Fr (F:Nat→Prop) (w w':World):Prop where
 os:w'.os=w.os
 tape:w'.tape=w.tape
 output:w'.output=w.output
 size:w.heap.size≤w'.heap.size
 block:∀k,k<w.heap.size→¬F k→w'.heap[k]?=w.heap[k]?
 kp:∀a k f,Rd .u64 w a k f→Rd .u64 w' a k f
theorem Fr.of {F w w'} (h:Below w.heap.size w w'):Fr F w w':=⟨h.os,h.tape,h.output,h.size,fun k hk _=>h.block k hk,fun _ _ _ r=>r.kp (Kp.of_below h)⟩
theorem Fr.refl (F:Nat→Prop) (w:World):Fr F w w:=⟨rfl,rfl,rfl,Nat.le_refl _,fun _ _ _=>rfl,fun _ _ _ r=>r⟩
theorem Fr.trans {F w w1 w2} (h:Fr F w w1) (k:Fr F w1 w2):Fr F w w2 :=
 ⟨k.os.trans h.os,k.tape.trans h.tape,k.output.trans h.output,Nat.le_trans h.size k.size,fun j hj hn=>(k.block j (Nat.lt_of_lt_of_le hj h.size) hn).trans (h.block j hj hn),fun _ _ _ r=>k.kp _ _ _ (h.kp _ _ _ r)⟩
theorem Fr.rn {F w w' L s x n c f y m d g q} (h:Fr F w w') (r:Rn L w s x n c f y m d g q):Rn L w' s x n c f y m d g q :=
 ⟨⟨h.kp _ _ _ r.num.rd,r.num.lm,r.num.wf,r.num.cap,r.num.nil,r.num.val⟩,⟨h.kp _ _ _ r.den.rd,r.den.lm,r.den.wf,r.den.cap,r.den.nil,r.den.val⟩,r.ln,r.ld⟩
theorem Fr.imp {F G:Nat→Prop} {w w'} (h:Fr F w w') (hi:∀k,F k→G k):Fr G w w':=⟨h.os,h.tape,h.output,h.size,fun k hk hn=>h.block k hk (fun hf=>hn (hi k hf)),h.kp⟩
theorem Fr.below {F w0 w w'} (h0:Below w0.heap.size w0 w) (h:Fr F w w') (hF:∀k,F k→w0.heap.size≤k):Below w0.heap.size w0 w' :=
 ⟨h.os.trans h0.os,h.tape.trans h0.tape,h.output.trans h0.output,Nat.le_trans h0.size h.size,fun k hk=>(h.block k (Nat.lt_of_lt_of_le hk h0.size) (fun hf=>by have:=hF k hf;omega)).trans (h0.block k hk)⟩
theorem Fr.bk {F w w' B vs t} (h:Fr F w w') (hb:Bk w B vs t) (hn:¬F B):Bk w' B vs t:=(h.block B hb.lt hn).trans hb
theorem RowV.tfv {L w r v} (h:RowV L w r v):Tf L w r.ta v.ts:=fun j a q e=>by
 obtain ⟨h1,h2,b,o,h3,h4⟩:=h.tl j a q e;exact ⟨b,o,r.T j,h3,by rw [h1] at h4;exact h4,h2⟩
theorem Fr.cell {F w w' b o v} (h:Fr F w w') (hn:¬F b) (hc:w.cell? ⟨b,o,none⟩=some v):w'.cell? ⟨b,o,none⟩=some v:=(World.cell?_of_block (a:=⟨b,o,none⟩) (h.block b (World.block_lt_of_cell? w _ hc) hn)).trans hc
theorem Tf.fr {F L w w' ao v} (h:Tf L w ao v) (hf:Fr F w w') (hn:∀b o,ao=some ⟨b,o,none⟩→¬F b):Tf L w' ao v:=fun j a q e=>by
 obtain ⟨b,o,t,h1,h2,h3⟩:=h j a q e;have hb:=hn b o h1;exact ⟨b,o,t,h1,⟨hf.cell hb h2.x0,hf.cell hb h2.x1,hf.cell hb h2.x2,hf.cell hb h2.x3⟩,hf.rn h3⟩
structure Bd where
 by':Nm
 at':Ex
 up:Bool
 ta:Option Addr
 tk:Nat
 tc:Nat
def Bd.val (B:Bd):Value:=.agg #[.bool B.by'.s,.slice B.by'.x B.by'.n B.by'.c,.slice B.by'.y B.by'.m B.by'.d,.int .i64 B.at'.i,.bool B.at'.v.s,.slice B.at'.v.x B.at'.v.n B.at'.v.c,.slice B.at'.v.y B.at'.v.m B.at'.v.d,.bool B.up,.slice B.ta B.tk B.tc]
structure BV where
 q:Rat
 i:Int
 a:Rat
 up:Bool
 ts:List (Int × Rat)
structure BdV (L:Nat) (w:World) (B:Bd) (b:BV):Prop where
 q:NmV L w B.by' b.q
 i:B.at'.i=b.i
 a:NmV L w B.at'.v b.a
 up:B.up=b.up
 tk:b.ts.length=B.tk
 ts:Tf L w B.ta b.ts
theorem BdV.below {L w w' B b} (h:BdV L w B b) (hb:Below w.heap.size w w'):BdV L w' B b:=⟨h.q.below hb,h.i,h.a.below hb,h.up,h.tk,h.ts.below hb⟩
def bdR:List RV→List Rat→List Rat→List BV
 | v :: rs,p :: ps,q :: qs=>⟨p,v.li,v.lq,false,v.ts⟩ :: ⟨q,v.hi,v.hq,true,v.ts⟩ :: bdR rs ps qs
 | _,_,_=>[]
def bdC:Int→List CV→List Rat→List Rat→List BV
 | j,v :: cs,p :: ps,q :: qs=>⟨p,v.li,v.lq,false,[(j,1)]⟩ :: ⟨q,v.hi,v.hq,true,[(j,1)]⟩ :: bdC (j+1) cs ps qs
 | _,_,_,_=>[]
theorem bdR_len:∀(rs:List RV) (ps qs:List Rat),(bdR rs ps qs).length≤2*rs.length
 | [],_,_=>by simp [bdR]
 | _ :: _,[],_=>by simp [bdR]
 | _ :: _,_ :: _,[]=>by simp [bdR]
 | _ :: rs,_ :: ps,_ :: qs=>by have:=bdR_len rs ps qs;simp [bdR];omega
theorem bdC_len:∀(j:Int) (cs:List CV) (ps qs:List Rat),(bdC j cs ps qs).length≤2*cs.length
 | _,[],_,_=>by simp [bdC]
 | _,_ :: _,[],_=>by simp [bdC]
 | _,_ :: _,_ :: _,[]=>by simp [bdC]
 | j,_ :: cs,_ :: ps,_ :: qs=>by have:=bdC_len (j+1) cs ps qs;simp [bdC];omega
theorem bdR_take:∀(i:Nat) (rs:List RV) (ps qs:List Rat) (v:RV) (p q:Rat),rs[i]?=some v→ps[i]?=some p→qs[i]?=some q →
  bdR (rs.take (i+1)) (ps.take (i+1)) (qs.take (i+1))=bdR (rs.take i) (ps.take i) (qs.take i)++[⟨p,v.li,v.lq,false,v.ts⟩]++[⟨q,v.hi,v.hq,true,v.ts⟩]
 | i,[],_,_,_,_,_,h,_,_=>by simp at h
 | i,_ :: _,[],_,_,_,_,_,h,_=>by simp at h
 | i,_ :: _,_ :: _,[],_,_,_,_,_,h=>by simp at h
 | 0,r :: rs,p' :: ps,q' :: qs,v,p,q,h1,h2,h3=>by
  simp only [List.getElem?_cons_zero,Option.some.injEq] at h1 h2 h3;subst h1;subst h2;subst h3;simp [bdR]
 | i+1,r :: rs,p' :: ps,q' :: qs,v,p,q,h1,h2,h3=>by
  simp only [List.getElem?_cons_succ] at h1 h2 h3;have:=bdR_take i rs ps qs v p q h1 h2 h3;simp only [List.take_succ_cons,bdR,this,List.cons_append]
theorem bdC_take:∀(i:Nat) (j:Int) (cs:List CV) (ps qs:List Rat) (v:CV) (p q:Rat),cs[i]?=some v→ps[i]?=some p→qs[i]?=some q →
  bdC j (cs.take (i+1)) (ps.take (i+1)) (qs.take (i+1))=bdC j (cs.take i) (ps.take i) (qs.take i)++[⟨p,v.li,v.lq,false,[(j+i,1)]⟩]++[⟨q,v.hi,v.hq,true,[(j+i,1)]⟩]
 | i,_,[],_,_,_,_,_,h,_,_=>by simp at h
 | i,_,_ :: _,[],_,_,_,_,_,h,_=>by simp at h
 | i,_,_ :: _,_ :: _,[],_,_,_,_,_,h=>by simp at h
 | 0,j,r :: cs,p' :: ps,q' :: qs,v,p,q,h1,h2,h3=>by
  simp only [List.getElem?_cons_zero,Option.some.injEq] at h1 h2 h3;subst h1;subst h2;subst h3;simp [bdC]
 | i+1,j,r :: cs,p' :: ps,q' :: qs,v,p,q,h1,h2,h3=>by
  simp only [List.getElem?_cons_succ] at h1 h2 h3;have:=bdC_take i (j+1) cs ps qs v p q h1 h2 h3;simp only [List.take_succ_cons,bdC,this,List.cons_append];rw [show j+1+(i:Int)=j+((i+1:Nat):Int) by omega]
theorem Tf.nf {F:Nat→Prop} {L w ao} {v:List (Int × Rat)} (h:Tf L w ao v) (hF:∀k,F k→w.heap.size≤k):v≠[]→∀b o,ao=some ⟨b,o,none⟩→¬F b:=fun hne b o e hf=>by
 match v,h,hne with
 | (z,q) :: r,h,_ =>
  obtain ⟨b2,o2,t,h1,h2,h3⟩:=h 0 z q rfl;rw [e] at h1;cases h1
  have h4:=World.block_lt_of_cell? w _ h2.x0;have h5:=hF _ hf;have h6:b<w.heap.size:=h4;omega
theorem ts_one {n i:Nat} (h:i<n):tsB n (-1) [((i:Int),(1:Rat))]=true:=by
 simp only [tsB,Bool.and_eq_true,decide_eq_true_eq];exact ⟨by omega,by omega,by decide,trivial⟩
set_option maxRecDepth 100000 in
set_option maxHeartbeats 8000000 in
theorem through_c {w0 w:World} {L nf:Nat} {M:Mo} {off:Rat} {cs:List CV} {rs:List RV} {F:Nat→Prop} {I:List BV→World→Prop} {caps:Array Value} {a1 a2 a3 a4:Option Addr} {k1 k2 k3 k4 e1 e2 e3 e4:Nat} {l1 l2 l3 l4:List Rat}
  (h0:Below w0.heap.size w0 w) (hF:∀k,F k→w0.heap.size≤k∧k<w.heap.size) (hM:MoV L w0 M off cs rs) (hP:MvP cs rs) (hT:∀v ∈ rs,tsB cs.length (-1) v.ts=true) (hx1:Rf L w0 a1 l1) (hx2:Rf L w0 a2 l2) (hx3:Rf L w0 a3 l3) (hx4:Rf L w0 a4 l4)
  (hl:l1.length=k1∧l2.length=k2∧l3.length=k3∧l4.length=k4) (hk:k1=rs.length∧k2=rs.length∧k3=cs.length∧k4=cs.length) (hL1:4≤L)
  (hcf:∀(a:Array Value) (W:World),(callFunc nf a).run Tryz.prog W=.ok (.enter nf a) W) (hI:∀l W W',I l W→Below W.heap.size W W'→I l W')
  (hs:∀l b (B:Bd) W,l.length<256→tsB cs.length (-1) b.ts=true→(b.ts≠[]→∀b' o',B.ta=some ⟨b',o',none⟩→¬F b')→Below w0.heap.size w0 W→w.heap.size≤W.heap.size→I l W→BdV L W B b→Calls Tryz.prog nf (#[B.val]++caps) W fun e W'=>e=.returned (.tuple #[])∧Fr F W W'∧I (l++[b]) W') (hi:I [] w) :
  Calls Tryz.prog 32 #[M.val,.agg #[.slice a1 k1 e1,.slice a2 k2 e2,.slice a3 k3 e3,.slice a4 k4 e4],.func (.func nf) #[] caps] w fun e w'=>e=.returned (.tuple #[])∧Fr F w w'∧I (bdR rs l1 l2++bdC 0 cs l3 l4) w':=by
 obtain ⟨q1,q2,q3,q4⟩:=hk;subst q1;subst q2;subst q3;subst q4
 have hcl:=hP.cl;have hrl:=hP.rl;obtain ⟨⟨s,x,n,c,f,y,m,d,g⟩,ca,ck,cc,C,ra,rk,rc,R⟩:=M;have hck:ck=cs.length:=hM.ck;have hrk:rk=rs.length:=hM.rk;subst hck;subst hrk
 have HC:Hid (∀j v,cs[j]?=some v→(∃b o,ca=some ⟨b,o,none⟩∧Cs w0 b (o+j*12) (C j).vs)∧ColV L w0 (C j) v):=hM.cls;have HR:Hid (∀j v,rs[j]?=some v→(∃b o,ra=some ⟨b,o,none⟩∧Cs w0 b (o+j*10) (R j).vs)∧RowV L w0 (R j) v):=hM.rls;have HT0:=hid hT;have HX1:=hid hx1;have HX2:=hid hx2;have HX3:=hid hx3;have HX4:=hid hx4;have HL:=hid hl;have HI:=hid hI;have HS:=hid hs;have HF:=hid hF
 have HI0:=hid hi;have HB0:=hid h0
 clear hM hP hT hx1 hx2 hx3 hx4 hl hI hs hF hi h0;show Calls Tryz.prog 32 #[.agg #[.bool s,.slice x n c,.slice y m d,.slice ca cs.length cc,.slice ra rs.length rc],.agg #[.slice a1 rs.length e1,.slice a2 rs.length e2,.slice a3 cs.length e3,.slice a4 cs.length e4],.func (.func nf) #[] caps] w _;have hb:=below_alloc (below_alloc (Below.refl w.heap.size w) (.cells #[.bool s,.slice x n c,.slice y m d,.slice ca cs.length cc,.slice ra rs.length rc] 28)) (.cells #[.slice a1 rs.length e1,.slice a2 rs.length e2,.slice a3 cs.length e3,.slice a4 cs.length e4] 31);have BM:Hid (Bk ((w.alloc (.cells #[.bool s,.slice x n c,.slice y m d,.slice ca cs.length cc,.slice ra rs.length rc] 28)).alloc (.cells #[.slice a1 rs.length e1,.slice a2 rs.length e2,.slice a3 cs.length e3,.slice a4 cs.length e4] 31)) w.heap.size [.bool s,.slice x n c,.slice y m d,.slice ca cs.length cc,.slice ra rs.length rc] 28):=(bk_new w [.bool s,.slice x n c,.slice y m d,.slice ca cs.length cc,.slice ra rs.length rc] 28).below (below_alloc (Below.refl _ _) _);have BK:Hid (Bk ((w.alloc (.cells #[.bool s,.slice x n c,.slice y m d,.slice ca cs.length cc,.slice ra rs.length rc] 28)).alloc (.cells #[.slice a1 rs.length e1,.slice a2 rs.length e2,.slice a3 cs.length e3,.slice a4 cs.length e4] 31)) (w.heap.size+1) [.slice a1 rs.length e1,.slice a2 rs.length e2,.slice a3 cs.length e3,.slice a4 cs.length e4] 31):=by
  have:=bk_new (w.alloc (.cells #[.bool s,.slice x n c,.slice y m d,.slice ca cs.length cc,.slice ra rs.length rc] 28)) [.slice a1 rs.length e1,.slice a2 rs.length e2,.slice a3 cs.length e3,.slice a4 cs.length e4] 31;rw [size_alloc1] at this;exact this
 have r4:=BM.out.cell (j:=4) rfl;go_enter Tryz.func32,Tryz.ntmps32;go_wp2_with fail
 clear r4;replace HI0:=hid (HI.out _ _ _ HI0.out hb);have HFr:=hid (Fr.of (F:=F) hb);replace HB0:=hid (HB0.out.trans (hb.mono HB0.out.size))
 have hsz:=hb.size;clear hb;generalize ((w.alloc (.cells #[.bool s,.slice x n c,.slice y m d,.slice ca cs.length cc,.slice ra rs.length rc] 28)).alloc (.cells #[.slice a1 rs.length e1,.slice a2 rs.length e2,.slice a3 cs.length e3,.slice a4 cs.length e4] 31))=w2 at *;go_loopw [14] (fun t wr=>∃(i:Nat),i≤rs.length∧t=.int .i64 i∧Hid (Fr F w2 wr)∧Hid (I (bdR (rs.take i) (l1.take i) (l2.take i)) wr)) (fun t _=>rs.length-(intOf t).toNat)
 case atStart=>exact ⟨0,by omega,rfl,Fr.refl _ _,HI0.out⟩
 case round =>
  clear HI0;obtain ⟨i,hi,rfl,HG,HJ⟩:=hrel;by_cases hlt:i<rs.length
  ·obtain ⟨v,hv⟩:∃v,rs[i]?=some v:=⟨_,List.getElem?_eq_getElem hlt⟩;obtain ⟨p,hp⟩:∃t,l1[i]?=some t:=⟨_,List.getElem?_eq_getElem (by have:=HL.out.1;omega)⟩;obtain ⟨q,hq⟩:∃t,l2[i]?=some t:=⟨_,List.getElem?_eq_getElem (by have:=HL.out.2.1;omega)⟩;have hbw:=Fr.below HB0.out HG.out (fun k hf=>(HF.out k hf).1);obtain ⟨⟨b,o,hra,hc0⟩,hn0⟩:=HR.out i v hv;subst hra;have hc:=hc0.below hbw;obtain ⟨b5,o5,⟨s5,x5,n5,c5,f5,y5,m5,d5,g5⟩,ha5,hc5,hr5⟩:=HX1.out i p hp;subst ha5;obtain ⟨b6,o6,⟨s6,x6,n6,c6,f6,y6,m6,d6,g6⟩,ha6,hc6,hr6⟩:=HX2.out i q hq;subst ha6;have hb5:=World.block_lt_of_cell? w0 _ hc5.x0;have hb6:=World.block_lt_of_cell? w0 _ hc6.x0
   have HF5:Hid (¬F b5):=fun hf=>by have:=(HF.out _ hf).1;have h9:b5<w0.heap.size:=hb5;omega
   have HF6:Hid (¬F b6):=fun hf=>by have:=(HF.out _ hf).1;have h9:b6<w0.heap.size:=hb6;omega
   obtain ⟨p0,p1,p2⟩:=hc5.below hbw;obtain ⟨q0,q1,q2⟩:=hc6.below hbw;have hvm:=List.mem_of_getElem? hv;have htl:=HT0.out v hvm;have hts:=hn0.tfv;obtain ⟨⟨z,⟨i1,⟨s1,x1,n1,c1,f1,y1,m1,d1,g1⟩⟩,⟨i2,⟨s2,x2,n2,c2,f2,y2,m2,d2,g2⟩⟩,ta,tk,tc,tcol,tt⟩,hCi⟩:∃t,R i=t:=⟨_,rfl⟩;rw [hCi] at hc hn0 hts;replace p0:wr.cell? ⟨b5,o5+i*3,none⟩=some (.bool s5):=p0;replace p1:wr.cell? ⟨b5,o5+i*3+1,none⟩=some (.slice x5 n5 c5):=p1;replace p2:wr.cell? ⟨b5,o5+i*3+2,none⟩=some (.slice y5 m5 d5):=p2;replace q0:wr.cell? ⟨b6,o6+i*3,none⟩=some (.bool s6):=q0;replace q1:wr.cell? ⟨b6,o6+i*3+1,none⟩=some (.slice x6 n6 c6):=q1;replace q2:wr.cell? ⟨b6,o6+i*3+2,none⟩=some (.slice y6 m6 d6):=q2;have t0:wr.cell? ⟨b,o+i*10,none⟩=some (.string z):=hc 0 _ rfl;have t1:wr.cell? ⟨b,o+i*10+1,none⟩=some (.int .i64 i1):=hc 1 _ rfl;have t2:wr.cell? ⟨b,o+i*10+2,none⟩=some (.bool s1):=hc 2 _ rfl;have t3:wr.cell? ⟨b,o+i*10+3,none⟩=some (.slice x1 n1 c1):=hc 3 _ rfl;have t4:wr.cell? ⟨b,o+i*10+4,none⟩=some (.slice y1 m1 d1):=hc 4 _ rfl;have t5:wr.cell? ⟨b,o+i*10+5,none⟩=some (.int .i64 i2):=hc 5 _ rfl;have t6:wr.cell? ⟨b,o+i*10+6,none⟩=some (.bool s2):=hc 6 _ rfl;have t7:wr.cell? ⟨b,o+i*10+7,none⟩=some (.slice x2 n2 c2):=hc 7 _ rfl;have t8:wr.cell? ⟨b,o+i*10+8,none⟩=some (.slice y2 m2 d2):=hc 8 _ rfl;have t9:wr.cell? ⟨b,o+i*10+9,none⟩=some (.slice ta tk tc):=hc 9 _ rfl;have V1:Hid (BdV L w0 ⟨⟨s5,x5,n5,c5,f5,y5,m5,d5,g5⟩,⟨i1,⟨s1,x1,n1,c1,f1,y1,m1,d1,g1⟩⟩,false,ta,tk,tc⟩ ⟨p,v.li,v.lq,false,v.ts⟩):=⟨hr5,hn0.li,hn0.lq,rfl,hn0.tk.symm,hts⟩;have V2:Hid (BdV L w0 ⟨⟨s6,x6,n6,c6,f6,y6,m6,d6,g6⟩,⟨i2,⟨s2,x2,n2,c2,f2,y2,m2,d2,g2⟩⟩,true,ta,tk,tc⟩ ⟨q,v.hi,v.hq,true,v.ts⟩):=⟨hr6,hn0.hi,hn0.hq,rfl,hn0.tk.symm,hts⟩;have i1':((i:Nat):Int)<((rs.length:Nat):Int):=by omega
   have hbt:=below_alloc (Below.refl wr.heap.size wr) (.cells #[.string z,.int .i64 i1,.bool s1,.slice x1 n1 c1,.slice y1 m1 d1,.int .i64 i2,.bool s2,.slice x2 n2 c2,.slice y2 m2 d2,.slice ta tk tc] 65);have BC:Bk (wr.alloc (.cells #[.string z,.int .i64 i1,.bool s1,.slice x1 n1 c1,.slice y1 m1 d1,.int .i64 i2,.bool s2,.slice x2 n2 c2,.slice y2 m2 d2,.slice ta tk tc] 65)) wr.heap.size [.string z,.int .i64 i1,.bool s1,.slice x1 n1 c1,.slice y1 m1 d1,.int .i64 i2,.bool s2,.slice x2 n2 c2,.slice y2 m2 d2,.slice ta tk tc] 65:=bk_new wr [.string z,.int .i64 i1,.bool s1,.slice x1 n1 c1,.slice y1 m1 d1,.int .i64 i2,.bool s2,.slice x2 n2 c2,.slice y2 m2 d2,.slice ta tk tc] 65;have BK1:=HG.out.bk BK.out (fun hf=>by have:=(HF.out _ hf).2;omega);have HLn:=hid (bdR_len (rs.take i) (l1.take i) (l2.take i));have HBD:=hid (bdR_take i rs l1 l2 v p q hv hp hq);have HTL:=hid htl;have HNT:=hid (hts.nf (fun k hf=>(HF.out k hf).1))
   clear hc5 hc6 hb5 hb6 hc hc0 hn0 hv hp hq hr5 hr6 hvm htl hts hCi;go_upto_region 4 with fail
   clear t0 t1 t2 t3 t4 t5 t6 t7 t8 t9;replace HJ:=hid (HI.out _ _ _ HJ.out hbt);have HBw:=hid (hbw.trans (hbt.mono hbw.size));have HG1:=hid (HG.out.trans (Fr.of hbt));have BK2:=hid (BK1.below hbt);have BC2:=hid BC
   have hs5:=Nat.le_trans hsz (Nat.le_trans HG.out.size hbt.size);replace p0:=kCb hbt p0;replace p1:=kCb hbt p1;replace p2:=kCb hbt p2;replace q0:=kCb hbt q0;replace q1:=kCb hbt q1;replace q2:=kCb hbt q2;have hbr:w2.heap.size≤wr.heap.size:=HG.out.size;have FK:Hid (¬F (w.heap.size+1)):=fun hf=>by have:=(HF.out _ hf).2;omega
   have FB:Hid (¬F wr.heap.size):=fun hf=>by have:=(HF.out _ hf).2;omega
   clear hbt BC BK1 hbw HG;generalize hbx:wr.heap.size=bx at *;generalize wr.alloc (.cells #[.string z,.int .i64 i1,.bool s1,.slice x1 n1 c1,.slice y1 m1 d1,.int .i64 i2,.bool s2,.slice x2 n2 c2,.slice y2 m2 d2,.slice ta tk tc] 65)=w5 at *;clear hbx;have k0:=BK2.out.cell (j:=0) rfl;have a1:=BC2.out.cell (j:=1) rfl;have a2:=BC2.out.cell (j:=2) rfl;have a3:=BC2.out.cell (j:=3) rfl;have a4:=BC2.out.cell (j:=4) rfl;have a9:=BC2.out.cell (j:=9) rfl;refine wp_region_held_drew (S:=(fun w'=>w'.cell? ⟨w.heap.size+1,0,none⟩=some (.slice (some ⟨b5,o5,none⟩) rs.length e1)∧w'.cell? ⟨b5,o5+i*3,none⟩=some (.bool s5)∧w'.cell? ⟨b5,o5+i*3+1,none⟩=some (.slice x5 n5 c5)∧w'.cell? ⟨b5,o5+i*3+2,none⟩=some (.slice y5 m5 d5)∧w'.cell? ⟨bx,1,none⟩=some (.int .i64 i1)∧w'.cell? ⟨bx,2,none⟩=some (.bool s1)∧w'.cell? ⟨bx,3,none⟩=some (.slice x1 n1 c1)∧w'.cell? ⟨bx,4,none⟩=some (.slice y1 m1 d1)∧w'.cell? ⟨bx,9,none⟩=some (.slice ta tk tc))) (by kernel_rfl) ?_ (fun hHeld=>?_)
   ·(refine ⟨?_,?_,?_,?_,?_,?_,?_,?_,?_⟩ <;> repeat (with_reducible first | assumption | refine kCd ?_))
   have hbd:=Below.drew (Below.refl w5.heap.size w5);replace HJ:=hid (HI.out _ _ _ HJ.out hbd);have HBd:=hid (HBw.out.trans (hbd.mono HBw.out.size));have hsd:=Nat.le_trans hs5 hbd.size;refine tkO 0 ?_;simp only [lay_,Act.put];refine tkO 1 ?_;simp only [lay_,Act.put];refine tkO 2 ?_;simp only [lay_,Act.put];refine tkO 3 ?_;simp only [lay_,Act.put];refine tkO 4 ?_;simp only [lay_,Act.put];refine tkO 5 ?_;simp only [lay_,Act.put];refine tkO 6 ?_;simp only [lay_,Act.put];refine tkO 7 ?_;simp only [lay_,Act.put];refine tkO 8 ?_;simp only [lay_,Act.put];refine tkO 9 ?_;simp only [lay_,Act.put];refine tkO 10 ?_;simp only [lay_,Act.put];refine wpAnyH_ready (rs:=[11]) (by kernel_rfl) (by simp) ?_;refine AllReadyH.cons (o:=_) rfl (fun K hK=>?_) ?_;rotate_left;exact AllReadyH.nil;go_simp;refine (HS.out _ ⟨p,v.li,v.lq,false,v.ts⟩ ⟨⟨s5,x5,n5,c5,f5,y5,m5,d5,g5⟩,⟨i1,⟨s1,x1,n1,c1,f1,y1,m1,d1,g1⟩⟩,false,ta,tk,tc⟩ _ (by have:=HLn.out;rw [List.length_take] at this;omega) HTL.out HNT.out HBd.out hsd HJ.out (V1.out.below HBd.out)).mono ?_;rintro e w6 ⟨rfl,hfr,hj⟩;refine hK.out _ _ ⟨hfr.cell FK.out hHeld.1,hfr.cell HF5.out hHeld.2.1,hfr.cell HF5.out hHeld.2.2.1,hfr.cell HF5.out hHeld.2.2.2.1,hfr.cell FB.out hHeld.2.2.2.2.1,hfr.cell FB.out hHeld.2.2.2.2.2.1,hfr.cell FB.out hHeld.2.2.2.2.2.2.1,hfr.cell FB.out hHeld.2.2.2.2.2.2.2.1,hfr.cell FB.out hHeld.2.2.2.2.2.2.2.2⟩ (fun hH=>?_);clear hK K;try simp only [lay_,Act.put]
   refine wpAnyH_done (by kernel_rfl) ?_ _;have HFd:=(Fr.of (F:=F) hbd).trans hfr;replace HG1:=hid (HG1.out.trans HFd);replace HBw:=hid (Fr.below HBd.out hfr (fun k hf=>(HF.out k hf).1));replace BK2:=hid (HFd.bk BK2.out FK.out);replace BC2:=hid (HFd.bk BC2.out FB.out)
   replace hs5:=Nat.le_trans hsd hfr.size;replace HJ:=hid hj;replace q0:=hfr.cell HF6.out (kCb hbd q0);replace q1:=hfr.cell HF6.out (kCb hbd q1);replace q2:=hfr.cell HF6.out (kCb hbd q2)
   clear hHeld hH hfr hj hbd hsd HBd HFd k0 a1 a2 a3 a4 a9 p0 p1 p2;go_upto_region 5 with fail
   have k1:=BK2.out.cell (j:=1) rfl;have a5:=BC2.out.cell (j:=5) rfl;have a6:=BC2.out.cell (j:=6) rfl;have a7:=BC2.out.cell (j:=7) rfl;have a8:=BC2.out.cell (j:=8) rfl;have a9:=BC2.out.cell (j:=9) rfl;refine wp_region_held_drew (S:=(fun w'=>w'.cell? ⟨w.heap.size+1,1,none⟩=some (.slice (some ⟨b6,o6,none⟩) rs.length e2)∧w'.cell? ⟨b6,o6+i*3,none⟩=some (.bool s6)∧w'.cell? ⟨b6,o6+i*3+1,none⟩=some (.slice x6 n6 c6)∧w'.cell? ⟨b6,o6+i*3+2,none⟩=some (.slice y6 m6 d6)∧w'.cell? ⟨bx,5,none⟩=some (.int .i64 i2)∧w'.cell? ⟨bx,6,none⟩=some (.bool s2)∧w'.cell? ⟨bx,7,none⟩=some (.slice x2 n2 c2)∧w'.cell? ⟨bx,8,none⟩=some (.slice y2 m2 d2)∧w'.cell? ⟨bx,9,none⟩=some (.slice ta tk tc))) (by kernel_rfl) ?_ (fun hHeld=>?_)
   ·(refine ⟨?_,?_,?_,?_,?_,?_,?_,?_,?_⟩ <;> repeat (with_reducible first | assumption | refine kCd ?_))
   have hbd:=Below.drew (Below.refl w6.heap.size w6);replace HJ:=hid (HI.out _ _ _ HJ.out hbd);have HBd:=hid (HBw.out.trans (hbd.mono HBw.out.size));have hsd:=Nat.le_trans hs5 hbd.size;refine tkO 0 ?_;simp only [lay_,Act.put];refine tkO 1 ?_;simp only [lay_,Act.put];refine tkO 2 ?_;simp only [lay_,Act.put];refine tkO 3 ?_;simp only [lay_,Act.put];refine tkO 4 ?_;simp only [lay_,Act.put];refine tkO 5 ?_;simp only [lay_,Act.put];refine tkO 6 ?_;simp only [lay_,Act.put];refine tkO 7 ?_;simp only [lay_,Act.put];refine tkO 8 ?_;simp only [lay_,Act.put];refine tkO 9 ?_;simp only [lay_,Act.put];refine tkO 10 ?_;simp only [lay_,Act.put];refine wpAnyH_ready (rs:=[11]) (by kernel_rfl) (by simp) ?_;refine AllReadyH.cons (o:=_) rfl (fun K hK=>?_) ?_;rotate_left;exact AllReadyH.nil;go_simp;refine (HS.out _ ⟨q,v.hi,v.hq,true,v.ts⟩ ⟨⟨s6,x6,n6,c6,f6,y6,m6,d6,g6⟩,⟨i2,⟨s2,x2,n2,c2,f2,y2,m2,d2,g2⟩⟩,true,ta,tk,tc⟩ _ (by have:=HLn.out;rw [List.length_take] at this;rw [List.length_append];simp only [List.length_cons,List.length_nil];omega) HTL.out HNT.out HBd.out hsd HJ.out (V2.out.below HBd.out)).mono ?_;rintro e w7 ⟨rfl,hfr,hj⟩;refine hK.out _ _ ⟨hfr.cell FK.out hHeld.1,hfr.cell HF6.out hHeld.2.1,hfr.cell HF6.out hHeld.2.2.1,hfr.cell HF6.out hHeld.2.2.2.1,hfr.cell FB.out hHeld.2.2.2.2.1,hfr.cell FB.out hHeld.2.2.2.2.2.1,hfr.cell FB.out hHeld.2.2.2.2.2.2.1,hfr.cell FB.out hHeld.2.2.2.2.2.2.2.1,hfr.cell FB.out hHeld.2.2.2.2.2.2.2.2⟩ (fun hH=>?_);clear hK K;try simp only [lay_,Act.put]
   refine wpAnyH_done (by kernel_rfl) ?_ _;replace HG1:=hid (HG1.out.trans ((Fr.of (F:=F) hbd).trans hfr));have HJ2:Hid (I (bdR (rs.take (i+1)) (l1.take (i+1)) (l2.take (i+1))) w7):=by
    show I _ _;rw [HBD.out];exact hj
   clear hHeld hH hfr hj hbd hsd HBd HBw BK2 BC2 HJ k1 a5 a6 a7 a8 a9 q0 q1 q2 V1 V2 HBD;go_wp2;go_roundw
   case rel=>exact ⟨i+1,by omega,by go_num,HG1.out,HJ2.out⟩
   case measure=>simp [intOf];omega
  ·have e0:i=rs.length:=by omega
   have i4':¬(((i:Nat):Int)<((rs.length:Nat):Int)):=by omega
   have HJ0:Hid (I (bdR rs l1 l2) wr):=by
    show I _ _;have:=HJ.out;rw [List.take_of_length_le (by omega),List.take_of_length_le (by have:=HL.out.1;omega),List.take_of_length_le (by have:=HL.out.2.1;omega)] at this;exact this
   have BM1:=HG.out.bk BM.out (fun hf=>by have:=(HF.out _ hf).2;omega);have r3:=BM1.cell (j:=3) rfl;have HG0:=hid HG.out;clear e0 HJ HG BM1;go_wp2_with fail
   clear r3 i4' hi;have hs3:=Nat.le_trans hsz HG0.out.size;generalize wr=w3 at *;go_loopw [47] (fun t wr=>∃(i:Nat),i≤cs.length∧t=.int .i64 i∧Hid (Fr F w3 wr)∧Hid (I (bdR rs l1 l2++bdC 0 (cs.take i) (l3.take i) (l4.take i)) wr)) (fun t _=>cs.length-(intOf t).toNat)
   case atStart=>exact ⟨0,by omega,rfl,Fr.refl _ _,by show I _ _;rw [show bdR rs l1 l2++bdC 0 (cs.take 0) (l3.take 0) (l4.take 0)=bdR rs l1 l2 by simp [bdC]];exact HJ0.out⟩
   case round =>
    clear HJ0;obtain ⟨i,hi,rfl,HG,HJ⟩:=hrel;by_cases hlt:i<cs.length
    ·obtain ⟨v,hv⟩:∃v,cs[i]?=some v:=⟨_,List.getElem?_eq_getElem hlt⟩;obtain ⟨p,hp⟩:∃t,l3[i]?=some t:=⟨_,List.getElem?_eq_getElem (by have:=HL.out.2.2.1;omega)⟩;obtain ⟨q,hq⟩:∃t,l4[i]?=some t:=⟨_,List.getElem?_eq_getElem (by have:=HL.out.2.2.2;omega)⟩;have hG2:=HG0.out.trans HG.out;have hbw:=Fr.below HB0.out hG2 (fun k hf=>(HF.out k hf).1);obtain ⟨⟨b,o,hca,hc0⟩,hn0⟩:=HC.out i v hv;subst hca;have hc:=hc0.below hbw;obtain ⟨b5,o5,⟨s5,x5,n5,c5,f5,y5,m5,d5,g5⟩,ha5,hc5,hr5⟩:=HX3.out i p hp;subst ha5;obtain ⟨b6,o6,⟨s6,x6,n6,c6,f6,y6,m6,d6,g6⟩,ha6,hc6,hr6⟩:=HX4.out i q hq;subst ha6;have hb5:=World.block_lt_of_cell? w0 _ hc5.x0;have hb6:=World.block_lt_of_cell? w0 _ hc6.x0
     have HF5:Hid (¬F b5):=fun hf=>by have:=(HF.out _ hf).1;have h9:b5<w0.heap.size:=hb5;omega
     have HF6:Hid (¬F b6):=fun hf=>by have:=(HF.out _ hf).1;have h9:b6<w0.heap.size:=hb6;omega
     obtain ⟨p0,p1,p2⟩:=hc5.below hbw;obtain ⟨q0,q1,q2⟩:=hc6.below hbw;obtain ⟨⟨z,⟨s0,x0,n0,c0,f0,y0,m0,d0,g0⟩,⟨i1,⟨s1,x1,n1,c1,f1,y1,m1,d1,g1⟩⟩,⟨i2,⟨s2,x2,n2,c2,f2,y2,m2,d2,g2⟩⟩⟩,hCi⟩:∃t,C i=t:=⟨_,rfl⟩;rw [hCi] at hc hn0;replace p0:wr.cell? ⟨b5,o5+i*3,none⟩=some (.bool s5):=p0;replace p1:wr.cell? ⟨b5,o5+i*3+1,none⟩=some (.slice x5 n5 c5):=p1;replace p2:wr.cell? ⟨b5,o5+i*3+2,none⟩=some (.slice y5 m5 d5):=p2;replace q0:wr.cell? ⟨b6,o6+i*3,none⟩=some (.bool s6):=q0;replace q1:wr.cell? ⟨b6,o6+i*3+1,none⟩=some (.slice x6 n6 c6):=q1;replace q2:wr.cell? ⟨b6,o6+i*3+2,none⟩=some (.slice y6 m6 d6):=q2;have t0:wr.cell? ⟨b,o+i*12,none⟩=some (.string z):=hc 0 _ rfl;have t1:wr.cell? ⟨b,o+i*12+1,none⟩=some (.bool s0):=hc 1 _ rfl;have t2:wr.cell? ⟨b,o+i*12+2,none⟩=some (.slice x0 n0 c0):=hc 2 _ rfl;have t3:wr.cell? ⟨b,o+i*12+3,none⟩=some (.slice y0 m0 d0):=hc 3 _ rfl;have t4:wr.cell? ⟨b,o+i*12+4,none⟩=some (.int .i64 i1):=hc 4 _ rfl;have t5:wr.cell? ⟨b,o+i*12+5,none⟩=some (.bool s1):=hc 5 _ rfl;have t6:wr.cell? ⟨b,o+i*12+6,none⟩=some (.slice x1 n1 c1):=hc 6 _ rfl;have t7:wr.cell? ⟨b,o+i*12+7,none⟩=some (.slice y1 m1 d1):=hc 7 _ rfl;have t8:wr.cell? ⟨b,o+i*12+8,none⟩=some (.int .i64 i2):=hc 8 _ rfl;have t9:wr.cell? ⟨b,o+i*12+9,none⟩=some (.bool s2):=hc 9 _ rfl;have t10:wr.cell? ⟨b,o+i*12+10,none⟩=some (.slice x2 n2 c2):=hc 10 _ rfl;have t11:wr.cell? ⟨b,o+i*12+11,none⟩=some (.slice y2 m2 d2):=hc 11 _ rfl;have i1':((i:Nat):Int)<((cs.length:Nat):Int):=by omega
     have hbt:=below_alloc (Below.refl wr.heap.size wr) (.cells #[.string z,.bool s0,.slice x0 n0 c0,.slice y0 m0 d0,.int .i64 i1,.bool s1,.slice x1 n1 c1,.slice y1 m1 d1,.int .i64 i2,.bool s2,.slice x2 n2 c2,.slice y2 m2 d2] 62);have BC:Bk (wr.alloc (.cells #[.string z,.bool s0,.slice x0 n0 c0,.slice y0 m0 d0,.int .i64 i1,.bool s1,.slice x1 n1 c1,.slice y1 m1 d1,.int .i64 i2,.bool s2,.slice x2 n2 c2,.slice y2 m2 d2] 62)) wr.heap.size [.string z,.bool s0,.slice x0 n0 c0,.slice y0 m0 d0,.int .i64 i1,.bool s1,.slice x1 n1 c1,.slice y1 m1 d1,.int .i64 i2,.bool s2,.slice x2 n2 c2,.slice y2 m2 d2] 62:=bk_new wr [.string z,.bool s0,.slice x0 n0 c0,.slice y0 m0 d0,.int .i64 i1,.bool s1,.slice x1 n1 c1,.slice y1 m1 d1,.int .i64 i2,.bool s2,.slice x2 n2 c2,.slice y2 m2 d2] 62;have BK1:=hG2.bk BK.out (fun hf=>by have:=(HF.out _ hf).2;omega);have HLn:=hid (bdC_len 0 (cs.take i) (l3.take i) (l4.take i));have HLm:=hid (bdR_len rs l1 l2)
     have HBD:=hid (bdC_take i 0 cs l3 l4 v p q hv hp hq);have W1:=hid (And.intro hr5 (And.intro hn0.li hn0.lq));have W2:=hid (And.intro hr6 (And.intro hn0.hi hn0.hq))
     clear hc5 hc6 hb5 hb6 hc hc0 hn0 hv hp hq hr5 hr6 hCi;go_wp2_with fail
     clear t0 t1 t2 t3 t4 t5 t6 t7 t8 t9 t10 t11;refine (rOf_c (z:=1) (by decide) (by decide)).mono ?_;rintro e w4 ⟨s9,x9,n9,c9,f9,y9,m9,d9,g9,rfl,hb4,hr9⟩;have hbn:=below_alloc (Below.refl w4.heap.size w4) (.cells #[.int .i64 (i:Int),.bool s9,.slice x9 n9 c9,.slice y9 m9 d9] 67);have hts:Tf L (w4.alloc (.cells #[.int .i64 (i:Int),.bool s9,.slice x9 n9 c9,.slice y9 m9 d9] 67)) (some ⟨w4.heap.size,0,none⟩) [((i:Int),1)]:=tf_alloc (w:=w4) [((i:Int),⟨s9,x9,n9,c9,f9,y9,m9,d9,g9⟩)] _ (fun j a q e=>by
      cases j with
      | zero=>simp only [List.getElem?_cons_zero,Option.some.injEq,Prod.mk.injEq] at e;obtain ⟨rfl,rfl⟩:=e;exact ⟨_,rfl,hr9.mono hL1⟩
      | succ j=>simp at e)
     have BT:=bk_new w4 [.int .i64 (i:Int),.bool s9,.slice x9 n9 c9,.slice y9 m9 d9] 67;have hball:=(hbt.trans (hb4.mono hbt.size)).trans (hbn.mono (Nat.le_trans hbt.size hb4.size));have hb4n:=hb4.trans (hbn.mono hb4.size);go_upto_region 11 with fail
     replace HJ:=hid (HI.out _ _ _ HJ.out hball);have HBw:=hid (hbw.trans (hball.mono hbw.size));have HG1:=hid (HG.out.trans (Fr.of hball));have BK2:=hid (BK1.below hball);have BC2:=hid (BC.below hb4n)
     have hs4:=Nat.le_trans hs3 HG.out.size;have hs5:=Nat.le_trans hs4 hball.size;have hs6:=Nat.le_trans hs4 (Nat.le_trans hbt.size hb4.size);replace p0:=kCb hball p0;replace p1:=kCb hball p1;replace p2:=kCb hball p2;replace q0:=kCb hball q0;replace q1:=kCb hball q1;replace q2:=kCb hball q2;have FK:Hid (¬F (w.heap.size+1)):=fun hf=>by have:=(HF.out _ hf).2;omega
     have FB:Hid (¬F wr.heap.size):=fun hf=>by have:=(HF.out _ hf).2;omega
     have FT:Hid (¬F w4.heap.size):=fun hf=>by have:=(HF.out _ hf).2;omega
     rw [Int.zero_add] at HBD;replace hbn:=BT;clear hbt hb4 hbn hb4n hball BT BC BK1 hbw HG hG2 hr9 hs4 hs6;generalize wr.heap.size=bx at *;generalize hNW:(w4.alloc (.cells #[.int .i64 (i:Int),.bool s9,.slice x9 n9 c9,.slice y9 m9 d9] 67))=w5 at *;clear hNW;generalize w4.heap.size=bt at *;have HT:=hid hts;clear hts;have k0:=BK2.out.cell (j:=2) rfl;have a4:=BC2.out.cell (j:=4) rfl;have a5:=BC2.out.cell (j:=5) rfl;have a6:=BC2.out.cell (j:=6) rfl;have a7:=BC2.out.cell (j:=7) rfl;refine wp_region_held_drew (S:=(fun w'=>w'.cell? ⟨w.heap.size+1,2,none⟩=some (.slice (some ⟨b5,o5,none⟩) cs.length e3)∧w'.cell? ⟨b5,o5+i*3,none⟩=some (.bool s5)∧w'.cell? ⟨b5,o5+i*3+1,none⟩=some (.slice x5 n5 c5)∧w'.cell? ⟨b5,o5+i*3+2,none⟩=some (.slice y5 m5 d5)∧w'.cell? ⟨bx,4,none⟩=some (.int .i64 i1)∧w'.cell? ⟨bx,5,none⟩=some (.bool s1)∧w'.cell? ⟨bx,6,none⟩=some (.slice x1 n1 c1)∧w'.cell? ⟨bx,7,none⟩=some (.slice y1 m1 d1))) (by kernel_rfl) ?_ (fun hHeld=>?_)
     ·(refine ⟨?_,?_,?_,?_,?_,?_,?_,?_⟩ <;> repeat (with_reducible first | assumption | refine kCd ?_))
     have hbd:=Below.drew (Below.refl w5.heap.size w5);replace HJ:=hid (HI.out _ _ _ HJ.out hbd);have HBd:=hid (HBw.out.trans (hbd.mono HBw.out.size));have hsd:=Nat.le_trans hs5 hbd.size;refine tkO 0 ?_;simp only [lay_,Act.put];refine tkO 1 ?_;simp only [lay_,Act.put];refine tkO 2 ?_;simp only [lay_,Act.put];refine tkO 3 ?_;simp only [lay_,Act.put];refine tkO 4 ?_;simp only [lay_,Act.put];refine tkO 5 ?_;simp only [lay_,Act.put];refine tkO 6 ?_;simp only [lay_,Act.put];refine tkO 7 ?_;simp only [lay_,Act.put];refine tkO 8 ?_;simp only [lay_,Act.put];refine tkO 9 ?_;simp only [lay_,Act.put];refine wpAnyH_ready (rs:=[10]) (by kernel_rfl) (by simp) ?_;refine AllReadyH.cons (o:=_) rfl (fun K hK=>?_) ?_;rotate_left;exact AllReadyH.nil;go_simp;refine (HS.out _ ⟨p,v.li,v.lq,false,[((i:Int),1)]⟩ ⟨⟨s5,x5,n5,c5,f5,y5,m5,d5,g5⟩,⟨i1,⟨s1,x1,n1,c1,f1,y1,m1,d1,g1⟩⟩,false,some ⟨bt,0,none⟩,1,1⟩ _ (by have:=HLn.out;have h9:=HLm.out;rw [List.length_take] at this;rw [List.length_append];omega) (ts_one hlt) (fun _ b o e=>by cases e;exact FT.out) HBd.out hsd HJ.out ⟨NmV.below W1.out.1 HBd.out,W1.out.2.1,NmV.below W1.out.2.2 HBd.out,rfl,rfl,HT.out.below hbd⟩).mono ?_;rintro e w6 ⟨rfl,hfr,hj⟩;refine hK.out _ _ ⟨hfr.cell FK.out hHeld.1,hfr.cell HF5.out hHeld.2.1,hfr.cell HF5.out hHeld.2.2.1,hfr.cell HF5.out hHeld.2.2.2.1,hfr.cell FB.out hHeld.2.2.2.2.1,hfr.cell FB.out hHeld.2.2.2.2.2.1,hfr.cell FB.out hHeld.2.2.2.2.2.2.1,hfr.cell FB.out hHeld.2.2.2.2.2.2.2⟩ (fun hH=>?_);clear hK K;try simp only [lay_,Act.put]
     refine wpAnyH_done (by kernel_rfl) ?_ _;have HFd:=(Fr.of (F:=F) hbd).trans hfr;replace HG1:=hid (HG1.out.trans HFd);replace HBw:=hid (Fr.below HBd.out hfr (fun k hf=>(HF.out k hf).1));replace BK2:=hid (HFd.bk BK2.out FK.out);replace BC2:=hid (HFd.bk BC2.out FB.out)
     replace HT:=hid (HT.out.fr HFd (fun b o e=>by cases e;exact FT.out));replace hs5:=Nat.le_trans hsd hfr.size;replace HJ:=hid hj;replace q0:=hfr.cell HF6.out (kCb hbd q0);replace q1:=hfr.cell HF6.out (kCb hbd q1);replace q2:=hfr.cell HF6.out (kCb hbd q2)
     clear hHeld hH hfr hj hbd hsd HBd HFd k0 a4 a5 a6 a7 p0 p1 p2;go_upto_region 12 with fail
     have k1:=BK2.out.cell (j:=3) rfl;have a8:=BC2.out.cell (j:=8) rfl;have a9:=BC2.out.cell (j:=9) rfl;have a10:=BC2.out.cell (j:=10) rfl;have a11:=BC2.out.cell (j:=11) rfl;refine wp_region_held_drew (S:=(fun w'=>w'.cell? ⟨w.heap.size+1,3,none⟩=some (.slice (some ⟨b6,o6,none⟩) cs.length e4)∧w'.cell? ⟨b6,o6+i*3,none⟩=some (.bool s6)∧w'.cell? ⟨b6,o6+i*3+1,none⟩=some (.slice x6 n6 c6)∧w'.cell? ⟨b6,o6+i*3+2,none⟩=some (.slice y6 m6 d6)∧w'.cell? ⟨bx,8,none⟩=some (.int .i64 i2)∧w'.cell? ⟨bx,9,none⟩=some (.bool s2)∧w'.cell? ⟨bx,10,none⟩=some (.slice x2 n2 c2)∧w'.cell? ⟨bx,11,none⟩=some (.slice y2 m2 d2))) (by kernel_rfl) ?_ (fun hHeld=>?_)
     ·(refine ⟨?_,?_,?_,?_,?_,?_,?_,?_⟩ <;> repeat (with_reducible first | assumption | refine kCd ?_))
     have hbd:=Below.drew (Below.refl w6.heap.size w6);replace HJ:=hid (HI.out _ _ _ HJ.out hbd);have HBd:=hid (HBw.out.trans (hbd.mono HBw.out.size));have hsd:=Nat.le_trans hs5 hbd.size;refine tkO 0 ?_;simp only [lay_,Act.put];refine tkO 1 ?_;simp only [lay_,Act.put];refine tkO 2 ?_;simp only [lay_,Act.put];refine tkO 3 ?_;simp only [lay_,Act.put];refine tkO 4 ?_;simp only [lay_,Act.put];refine tkO 5 ?_;simp only [lay_,Act.put];refine tkO 6 ?_;simp only [lay_,Act.put];refine tkO 7 ?_;simp only [lay_,Act.put];refine tkO 8 ?_;simp only [lay_,Act.put];refine tkO 9 ?_;simp only [lay_,Act.put];refine wpAnyH_ready (rs:=[10]) (by kernel_rfl) (by simp) ?_;refine AllReadyH.cons (o:=_) rfl (fun K hK=>?_) ?_;rotate_left;exact AllReadyH.nil;go_simp;refine (HS.out _ ⟨q,v.hi,v.hq,true,[((i:Int),1)]⟩ ⟨⟨s6,x6,n6,c6,f6,y6,m6,d6,g6⟩,⟨i2,⟨s2,x2,n2,c2,f2,y2,m2,d2,g2⟩⟩,true,some ⟨bt,0,none⟩,1,1⟩ _ (by have:=HLn.out;have h9:=HLm.out;rw [List.length_take] at this;rw [List.length_append,List.length_append];simp only [List.length_cons,List.length_nil];omega) (ts_one hlt) (fun _ b o e=>by cases e;exact FT.out) HBd.out hsd HJ.out ⟨NmV.below W2.out.1 HBd.out,W2.out.2.1,NmV.below W2.out.2.2 HBd.out,rfl,rfl,HT.out.below hbd⟩).mono ?_;rintro e w7 ⟨rfl,hfr,hj⟩;refine hK.out _ _ ⟨hfr.cell FK.out hHeld.1,hfr.cell HF6.out hHeld.2.1,hfr.cell HF6.out hHeld.2.2.1,hfr.cell HF6.out hHeld.2.2.2.1,hfr.cell FB.out hHeld.2.2.2.2.1,hfr.cell FB.out hHeld.2.2.2.2.2.1,hfr.cell FB.out hHeld.2.2.2.2.2.2.1,hfr.cell FB.out hHeld.2.2.2.2.2.2.2⟩ (fun hH=>?_);clear hK K;try simp only [lay_,Act.put]
     refine wpAnyH_done (by kernel_rfl) ?_ _;replace HG1:=hid (HG1.out.trans ((Fr.of (F:=F) hbd).trans hfr));have HJ2:Hid (I (bdR rs l1 l2++bdC 0 (cs.take (i+1)) (l3.take (i+1)) (l4.take (i+1))) w7):=by
      show I _ _;rw [HBD.out,List.append_assoc,←List.append_assoc,←List.append_assoc];exact hj
     clear hHeld hH hfr hj hbd hsd HBd HBw BK2 BC2 HJ k1 a8 a9 a10 a11 q0 q1 q2 W1 W2 HBD;go_wp2;go_roundw
     case rel=>exact ⟨i+1,by omega,by go_num,HG1.out,HJ2.out⟩
     case measure=>simp [intOf];omega
    ·have e0:i=cs.length:=by omega
     have i5':¬(((i:Nat):Int)<((cs.length:Nat):Int)):=by omega
     have HJ9:Hid (I (bdR rs l1 l2++bdC 0 cs l3 l4) wr):=by
      show I _ _;have:=HJ.out;rw [List.take_of_length_le (by omega),List.take_of_length_le (by have:=HL.out.2.2.1;omega),List.take_of_length_le (by have:=HL.out.2.2.2;omega)] at this;exact this
     have HG9:=hid ((HFr.out.trans HG0.out).trans HG.out);clear HJ HG e0;go_wp2_with fail
     go_end0
     exact ⟨rfl,HG9.out,HJ9.out⟩
theorem gr_one {K base:Nat} {w:World} {s:Bool} {x:Option Addr} {n c:Nat} {f:Nat→Int} {y:Option Addr} {m d:Nat} {g:Nat→Int} {q:Rat} (h:Rn K w s x n c f y m d g q) (hb:base≤w.heap.size):Gr K base (w.alloc (.cells #[.bool s,.slice x n c,.slice y m d] 24)) (.slice (some ⟨w.heap.size,0,none⟩) 1 1) [q]:=by
 refine ⟨fun _=>⟨s,x,n,c,f,y,m,d,g⟩,⟨rfl,.inr ⟨w.heap.size,1,#[.bool s,.slice x n c,.slice y m d],rfl,hb,heap_alloc_new w _,Nat.le_refl _,by decide,rfl,rfl,nou_list (not3 _ _ _ _ _ _ _)⟩⟩,fun j q' e=>?_⟩;cases j with
 | zero=>cases e;exact h.alloc _
 | succ j=>simp at e
theorem Rn.sg {L w s x n c f y m d g q} (h:Rn L w s x n c f y m d g q):s=decide (q<0):=by
 have h1:=h.num.val;have h2:=h.num.wf;have h5:=vf_nonneg h.num.lm;have hz:=h.q_zero
 cases s
 ·have h3:q.num=vf f n:=by rw [←h1];rfl
  have h4:0≤q:=Rat.num_nonneg.1 (by omega);rw [decide_eq_false (Rat.not_lt.2 h4)]
 ·have hn:n≠0:=fun e=>by subst e;simp [wfB] at h2
  have h3:q.num=- vf f n:=by rw [←h1];rfl
  have h4:q<0:=Rat.not_le.1 (fun e=>by
   have h6:=Rat.num_nonneg.2 e;exact hn (hz.1 (Rat.num_eq_zero.1 (by omega))))
  rw [decide_eq_true h4]
def infB (b:BV):Bool:=decide (b.i≠0) && decide (b.q≠0)
def negB (b:BV):Bool:=decide (b.q<0)
theorem fisZero_c (s:Bool) (x:Option Addr) (n c:Nat) (y:Option Addr) (m d:Nat) (w:World) :
  Calls Tryz.prog 47 #[.agg #[.bool s,.slice x n c,.slice y m d]] w fun e w'=>e=.returned (.bool (decide (n=0)))∧Below w.heap.size w w':=by
 have hd:((n:Int)==0)=decide (n=0):=by
  by_cases h:n=0
  ·subst h;rfl
  ·have:((n:Int)==0)=false:=by simp;omega
   rw [this];simp [h]
 go_enter Tryz.func47,Tryz.ntmps47;go_wp2;go_ret;refine ⟨?_,below_alloc (Below.refl _ _) _⟩;first
  | rfl
  | (simp [hd];done)
  | (rw [hd])
theorem flag_st {W W2:World} {X:Nat} {u v:Bool} {t:TypeId} (h:Bk W X [.bool u] t) (hb:Below W.heap.size W W2) :
  Fr (fun k=>k=X) W (W2.setCell ⟨X,0,none⟩ (.bool v))∧Bk (W2.setCell ⟨X,0,none⟩ (.bool v)) X [.bool v] t:=by
 have h2:=h.below hb;refine ⟨⟨hb.os,hb.tape,hb.output,Nat.le_trans hb.size (by simp [World.setCell]),fun k hk hn=>?_,fun _ _ _ r=>r.kp ((Kp.of_below hb).set (x:=⟨X,0,none⟩) h2 (nou_one (fun z e=>by cases e)) _)⟩,h2.set 0 _⟩;exact (Below.heap_setCell _ _ _ _ hn).trans (hb.block k hk)
theorem any_snoc {f:BV→Bool} {l:List BV} {b:BV}:(l++[b]).any f=(l.any f || f b):=by simp
set_option maxRecDepth 100000 in
set_option maxHeartbeats 4000000 in
theorem vBelow_c {W:World} {X L:Nat} {B:Bd} {b:BV} {l:List BV} (hI:Bk W X [.bool (l.any negB)] 4) (hB:BdV L W B b) :
  Calls Tryz.prog 77 (#[B.val]++#[.pointer (some ⟨X,0,none⟩)]) W fun e W'=>e=.returned (.tuple #[])∧Fr (fun k=>k=X) W W'∧Bk W' X [.bool ((l++[b]).any negB)] 4:=by
 obtain ⟨⟨s,x,n,c,f,y,m,d,g⟩,⟨i1,⟨s1,x1,n1,c1,f1,y1,m1,d1,g1⟩⟩,up,ta,tk,tc⟩:=B;have hs:s=decide (b.q<0):=hB.q.sg;rw [any_snoc,show negB b=s from hs.symm];clear hs hB;generalize l.any negB=u at *;show Calls Tryz.prog 77 #[.agg #[.bool s,.slice x n c,.slice y m d,.int .i64 i1,.bool s1,.slice x1 n1 c1,.slice y1 m1 d1,.bool up,.slice ta tk tc],.pointer (some ⟨X,0,none⟩)] W _;have hb:=below_alloc (Below.refl W.heap.size W) (.cells #[.bool s,.slice x n c,.slice y m d,.int .i64 i1,.bool s1,.slice x1 n1 c1,.slice y1 m1 d1,.bool up,.slice ta tk tc] 79);have h2:=hI.below hb;have c0:=h2.cell (j:=0) rfl;have z0:=h2.frozen 0;have HF:=hid (fun v=>flag_st (v:=v) hI hb);clear hI hb h2;go_enter Tryz.func77,Tryz.ntmps77;cases u
 ·go_wp2
  go_end0
  exact ⟨rfl,HF.out _⟩
 ·go_wp2
  go_end0
  exact ⟨rfl,HF.out _⟩
set_option maxRecDepth 100000 in
set_option maxHeartbeats 4000000 in
theorem vInf_c {W:World} {X L:Nat} {B:Bd} {b:BV} {l:List BV} (hI:Bk W X [.bool (l.any infB)] 4) (hB:BdV L W B b) :
  Calls Tryz.prog 63 (#[B.val]++#[.pointer (some ⟨X,0,none⟩)]) W fun e W'=>e=.returned (.tuple #[])∧Fr (fun k=>k=X) W W'∧Bk W' X [.bool ((l++[b]).any infB)] 4:=by
 obtain ⟨⟨s,x,n,c,f,y,m,d,g⟩,⟨i1,⟨s1,x1,n1,c1,f1,y1,m1,d1,g1⟩⟩,up,ta,tk,tc⟩:=B;have hz:b.q=0 ↔ n=0:=hB.q.q_zero;have hi:i1=b.i:=hB.i;have hv:infB b=(decide (i1≠0) && !decide (n=0)):=by rw [infB,hi,show decide (b.q≠0)=!decide (n=0) by rw [decide_not,decide_eq_decide.2 hz]]
 rw [any_snoc,hv];clear hz hi hv hB;generalize l.any infB=u at *;show Calls Tryz.prog 63 #[.agg #[.bool s,.slice x n c,.slice y m d,.int .i64 i1,.bool s1,.slice x1 n1 c1,.slice y1 m1 d1,.bool up,.slice ta tk tc],.pointer (some ⟨X,0,none⟩)] W _;have hb:=below_alloc (Below.refl W.heap.size W) (.cells #[.bool s,.slice x n c,.slice y m d,.int .i64 i1,.bool s1,.slice x1 n1 c1,.slice y1 m1 d1,.bool up,.slice ta tk tc] 79);have h2:=hI.below hb;have c0:=h2.cell (j:=0) rfl;have z0:=h2.frozen 0;have HI:=hid hI;have HB:=hid hb
 have HF:=hid (fun v=>flag_st (v:=v) hI hb);clear hI hb h2;go_enter Tryz.func63,Tryz.ntmps63;cases u
 ·by_cases e1:i1=0
  ·subst e1;rw [show (false || (decide ((0:Int)≠0) && !decide (n=0)))=false by simp];go_wp2
   go_end0
   exact ⟨rfl,HF.out _⟩
  ·have e2:(i1 != 0)=true:=by simp [e1]
   rw [show (false || (decide (i1≠0) && !decide (n=0)))=!decide (n=0) by simp [e1]];clear e1;go_wp2_with fail
   refine (fisZero_c _ _ _ _ _ _ _ _).mono ?_;rintro e w2 ⟨rfl,hb2⟩;have hb3:=HB.out.trans (hb2.mono HB.out.size);have h3:=HI.out.below hb3;have c1:=h3.cell (j:=0) rfl;have z1:=h3.frozen 0;have HG:=hid (fun v=>flag_st (v:=v) HI.out hb3);clear hb2 hb3 h3 c0 z0;go_wp2
   go_end0
   exact ⟨rfl,HG.out _⟩
 ·go_wp2
  go_end0
  exact ⟨rfl,HF.out _⟩
-- any
set_option maxRecDepth 100000 in
set_option maxHeartbeats 4000000 in
theorem anyBelow_c {w:World} {L:Nat} {M:Mo} {off:Rat} {cs:List CV} {rs:List RV} {a1 a2 a3 a4:Option Addr} {k1 k2 k3 k4 e1 e2 e3 e4:Nat} {l1 l2 l3 l4:List Rat}
  (hM:MoV L w M off cs rs) (hP:MvP cs rs) (hT:∀v ∈ rs,tsB cs.length (-1) v.ts=true) (hx1:Rf L w a1 l1) (hx2:Rf L w a2 l2) (hx3:Rf L w a3 l3) (hx4:Rf L w a4 l4)
  (hl:l1.length=k1∧l2.length=k2∧l3.length=k3∧l4.length=k4) (hk:k1=rs.length∧k2=rs.length∧k3=cs.length∧k4=cs.length) (hL1:4≤L) :
  Calls Tryz.prog 45 #[M.val,.agg #[.slice a1 k1 e1,.slice a2 k2 e2,.slice a3 k3 e3,.slice a4 k4 e4]] w fun e w'=>e=.returned (.bool ((bdR rs l1 l2++bdC 0 cs l3 l4).any negB))∧Below w.heap.size w w':=by
 have HM:=hid hM;have HP:=hid hP;have HT:=hid hT;have HX1:=hid hx1;have HX2:=hid hx2;have HX3:=hid hx3;have HX4:=hid hx4;have HL:=hid hl;have HK:=hid hk
 clear hM hP hT hx1 hx2 hx3 hx4 hl hk;obtain ⟨⟨s,x,n,c,f,y,m,d,g⟩,ca,ck,cc,C,ra,rk,rc,R⟩:=M;have hck:ck=cs.length:=HM.out.ck;have hrk:rk=rs.length:=HM.out.rk;subst hck;subst hrk
 show Calls Tryz.prog 45 #[.agg #[.bool s,.slice x n c,.slice y m d,.slice ca cs.length cc,.slice ra rs.length rc],.agg #[.slice a1 k1 e1,.slice a2 k2 e2,.slice a3 k3 e3,.slice a4 k4 e4]] w _;have hb:=below_alloc (below_alloc (below_alloc (Below.refl w.heap.size w) (.cells #[.bool s,.slice x n c,.slice y m d,.slice ca cs.length cc,.slice ra rs.length rc] 28)) (.cells #[.slice a1 k1 e1,.slice a2 k2 e2,.slice a3 k3 e3,.slice a4 k4 e4] 31)) (.cells #[.bool false] 4);have BX:Bk (((w.alloc (.cells #[.bool s,.slice x n c,.slice y m d,.slice ca cs.length cc,.slice ra rs.length rc] 28)).alloc (.cells #[.slice a1 k1 e1,.slice a2 k2 e2,.slice a3 k3 e3,.slice a4 k4 e4] 31)).alloc (.cells #[.bool false] 4)) (w.heap.size+1+1) [.bool false] 4:=by
  have:=bk_new ((w.alloc (.cells #[.bool s,.slice x n c,.slice y m d,.slice ca cs.length cc,.slice ra rs.length rc] 28)).alloc (.cells #[.slice a1 k1 e1,.slice a2 k2 e2,.slice a3 k3 e3,.slice a4 k4 e4] 31)) [.bool false] 4;rw [size_alloc1,size_alloc1] at this;exact this
 go_enter Tryz.func45,Tryz.ntmps45;go_wp2_with fail
 generalize ((w.alloc (.cells #[.bool s,.slice x n c,.slice y m d,.slice ca cs.length cc,.slice ra rs.length rc] 28)).alloc (.cells #[.slice a1 k1 e1,.slice a2 k2 e2,.slice a3 k3 e3,.slice a4 k4 e4] 31)).alloc (.cells #[.bool false] 4)=w3 at *;have hX:=BX.lt;refine (through_c (w0:=w) (F:=fun k=>k=w.heap.size+1+1) (I:=fun l W=>Bk W (w.heap.size+1+1) [.bool (l.any negB)] 4) hb (fun k hk=>by subst hk;omega) HM.out HP.out HT.out HX1.out HX2.out HX3.out HX4.out HL.out HK.out hL1 (fun _ _=>rfl) (fun l W W' h h2=>h.below h2) (fun l b B W _ _ _ _ _ h1 h2=>vBelow_c h1 h2) BX).mono ?_;rintro e w4 ⟨rfl,hf,hI⟩;have HW:=hid (Fr.below hb hf (fun k hk=>by subst hk;omega));have c0:=hI.cell (j:=0) rfl;clear hf hI hb BX hX;go_wp2;go_ret;exact ⟨by rw [List.any_append];rfl,HW.out⟩
set_option maxRecDepth 100000 in
set_option maxHeartbeats 4000000 in
theorem anyInf_c {w:World} {L:Nat} {M:Mo} {off:Rat} {cs:List CV} {rs:List RV} {a1 a2 a3 a4:Option Addr} {k1 k2 k3 k4 e1 e2 e3 e4:Nat} {l1 l2 l3 l4:List Rat}
  (hM:MoV L w M off cs rs) (hP:MvP cs rs) (hT:∀v ∈ rs,tsB cs.length (-1) v.ts=true) (hx1:Rf L w a1 l1) (hx2:Rf L w a2 l2) (hx3:Rf L w a3 l3) (hx4:Rf L w a4 l4)
  (hl:l1.length=k1∧l2.length=k2∧l3.length=k3∧l4.length=k4) (hk:k1=rs.length∧k2=rs.length∧k3=cs.length∧k4=cs.length) (hL1:4≤L) :
  Calls Tryz.prog 29 #[M.val,.agg #[.slice a1 k1 e1,.slice a2 k2 e2,.slice a3 k3 e3,.slice a4 k4 e4]] w fun e w'=>e=.returned (.bool ((bdR rs l1 l2++bdC 0 cs l3 l4).any infB))∧Below w.heap.size w w':=by
 have HM:=hid hM;have HP:=hid hP;have HT:=hid hT;have HX1:=hid hx1;have HX2:=hid hx2;have HX3:=hid hx3;have HX4:=hid hx4;have HL:=hid hl;have HK:=hid hk
 clear hM hP hT hx1 hx2 hx3 hx4 hl hk;obtain ⟨⟨s,x,n,c,f,y,m,d,g⟩,ca,ck,cc,C,ra,rk,rc,R⟩:=M;have hck:ck=cs.length:=HM.out.ck;have hrk:rk=rs.length:=HM.out.rk;subst hck;subst hrk
 show Calls Tryz.prog 29 #[.agg #[.bool s,.slice x n c,.slice y m d,.slice ca cs.length cc,.slice ra rs.length rc],.agg #[.slice a1 k1 e1,.slice a2 k2 e2,.slice a3 k3 e3,.slice a4 k4 e4]] w _;have hb:=below_alloc (below_alloc (below_alloc (Below.refl w.heap.size w) (.cells #[.bool s,.slice x n c,.slice y m d,.slice ca cs.length cc,.slice ra rs.length rc] 28)) (.cells #[.slice a1 k1 e1,.slice a2 k2 e2,.slice a3 k3 e3,.slice a4 k4 e4] 31)) (.cells #[.bool false] 4);have BX:Bk (((w.alloc (.cells #[.bool s,.slice x n c,.slice y m d,.slice ca cs.length cc,.slice ra rs.length rc] 28)).alloc (.cells #[.slice a1 k1 e1,.slice a2 k2 e2,.slice a3 k3 e3,.slice a4 k4 e4] 31)).alloc (.cells #[.bool false] 4)) (w.heap.size+1+1) [.bool false] 4:=by
  have:=bk_new ((w.alloc (.cells #[.bool s,.slice x n c,.slice y m d,.slice ca cs.length cc,.slice ra rs.length rc] 28)).alloc (.cells #[.slice a1 k1 e1,.slice a2 k2 e2,.slice a3 k3 e3,.slice a4 k4 e4] 31)) [.bool false] 4;rw [size_alloc1,size_alloc1] at this;exact this
 go_enter Tryz.func29,Tryz.ntmps29;go_wp2_with fail
 generalize ((w.alloc (.cells #[.bool s,.slice x n c,.slice y m d,.slice ca cs.length cc,.slice ra rs.length rc] 28)).alloc (.cells #[.slice a1 k1 e1,.slice a2 k2 e2,.slice a3 k3 e3,.slice a4 k4 e4] 31)).alloc (.cells #[.bool false] 4)=w3 at *;have hX:=BX.lt;refine (through_c (w0:=w) (F:=fun k=>k=w.heap.size+1+1) (I:=fun l W=>Bk W (w.heap.size+1+1) [.bool (l.any infB)] 4) hb (fun k hk=>by subst hk;omega) HM.out HP.out HT.out HX1.out HX2.out HX3.out HX4.out HL.out HK.out hL1 (fun _ _=>rfl) (fun l W W' h h2=>h.below h2) (fun l b B W _ _ _ _ _ h1 h2=>vInf_c h1 h2) BX).mono ?_;rintro e w4 ⟨rfl,hf,hI⟩;have HW:=hid (Fr.below hb hf (fun k hk=>by subst hk;omega));have c0:=hI.cell (j:=0) rfl;clear hf hI hb BX hX;go_wp2;go_ret;exact ⟨by rw [List.any_append];rfl,HW.out⟩
set_option maxRecDepth 100000 in
set_option maxHeartbeats 4000000 in
theorem ftimes_c {L:Nat} {w:World} {sa:Bool} {xa:Option Addr} {na ca:Nat} {fa:Nat→Int} {ya:Option Addr} {ma da:Nat} {ga:Nat→Int} {a:Rat} {sb:Bool} {xb:Option Addr} {nb cb:Nat} {fb:Nat→Int} {yb:Option Addr} {mb db:Nat} {gb:Nat→Int} {b:Rat} (ha:Rn L w sa xa na ca fa ya ma da ga a) (hb:Rn L w sb xb nb cb fb yb mb db gb b) (hL:L≤200000) :
  Calls Tryz.prog 36 #[.agg #[.bool sa,.slice xa na ca,.slice ya ma da],.agg #[.bool sb,.slice xb nb cb,.slice yb mb db]] w fun e w'=>RatAns (2*L+1) w w' e (a*b):=by
 have h1:=((ha.alloc (.cells #[.bool sa,.slice xa na ca,.slice ya ma da] 24)).alloc (.cells #[.bool sb,.slice xb nb cb,.slice yb mb db] 24)).alloc (.cells #[.bool false,.slice none 0 0,.slice none 0 0] 24);have h2:=((hb.alloc (.cells #[.bool sa,.slice xa na ca,.slice ya ma da] 24)).alloc (.cells #[.bool sb,.slice xb nb cb,.slice yb mb db] 24)).alloc (.cells #[.bool false,.slice none 0 0,.slice none 0 0] 24);have h3:=ob_new ((w.alloc (.cells #[.bool sa,.slice xa na ca,.slice ya ma da] 24)).alloc (.cells #[.bool sb,.slice xb nb cb,.slice yb mb db] 24)) 24;rw [size_alloc1,size_alloc1] at h3;have h4:=below_alloc (below_alloc (below_alloc (Below.refl w.heap.size w) (.cells #[.bool sa,.slice xa na ca,.slice ya ma da] 24)) (.cells #[.bool sb,.slice xb nb cb,.slice yb mb db] 24)) (.cells #[.bool false,.slice none 0 0,.slice none 0 0] 24);clear ha hb;go_enter Tryz.func36,Tryz.ntmps36;go_wp2_with fail
 generalize ((w.alloc (.cells #[.bool sa,.slice xa na ca,.slice ya ma da] 24)).alloc (.cells #[.bool sb,.slice xb nb cb,.slice yb mb db] 24)).alloc (.cells #[.bool false,.slice none 0 0,.slice none 0 0] 24)=w1 at *;have OB1:=hid h3;have HW1:=hid h4
 refine (rMul_n h1 h2 hL).mono ?_;clear h1 h2 h3 h4;rintro e w2 ⟨s,x,n,c,f,y,m,d,g,rfl,hb2,hq⟩;have hob:=OB1.out.below hb2;have hbw:=HW1.out.trans (hb2.mono HW1.out.size);obtain ⟨hz,z0,z1,z2,zf⟩:=OB1.out.below hb2;have HQ:=hid hq;have HOB:=hid hob;have HBW:=hid hbw
 clear hq hob hbw hb2 OB1 HW1;go_wp2;exact bodyPost_ret (v:=.agg #[.bool s,.slice x n c,.slice y m d]) (by simp [results,Tryz.results36,go_sem,z0,z1,z2,hz]) rfl ⟨s,x,n,c,f,y,m,d,g,rfl,below_alloc (below_st HBW.out (by omega)) _,(HOB.out.rn HQ.out).alloc _⟩
set_option maxRecDepth 100000 in
set_option maxHeartbeats 4000000 in
theorem fplus_c {L:Nat} {w:World} {sa:Bool} {xa:Option Addr} {na ca:Nat} {fa:Nat→Int} {ya:Option Addr} {ma da:Nat} {ga:Nat→Int} {a:Rat} {sb:Bool} {xb:Option Addr} {nb cb:Nat} {fb:Nat→Int} {yb:Option Addr} {mb db:Nat} {gb:Nat→Int} {b:Rat} (ha:Rn L w sa xa na ca fa ya ma da ga a) (hb:Rn L w sb xb nb cb fb yb mb db gb b) (hL:L≤200000) :
  Calls Tryz.prog 35 #[.agg #[.bool sa,.slice xa na ca,.slice ya ma da],.agg #[.bool sb,.slice xb nb cb,.slice yb mb db]] w fun e w'=>RatAns (2*L+1) w w' e (a+b):=by
 have h1:=((ha.alloc (.cells #[.bool sa,.slice xa na ca,.slice ya ma da] 24)).alloc (.cells #[.bool sb,.slice xb nb cb,.slice yb mb db] 24)).alloc (.cells #[.bool false,.slice none 0 0,.slice none 0 0] 24);have h2:=((hb.alloc (.cells #[.bool sa,.slice xa na ca,.slice ya ma da] 24)).alloc (.cells #[.bool sb,.slice xb nb cb,.slice yb mb db] 24)).alloc (.cells #[.bool false,.slice none 0 0,.slice none 0 0] 24);have h3:=ob_new ((w.alloc (.cells #[.bool sa,.slice xa na ca,.slice ya ma da] 24)).alloc (.cells #[.bool sb,.slice xb nb cb,.slice yb mb db] 24)) 24;rw [size_alloc1,size_alloc1] at h3;have h4:=below_alloc (below_alloc (below_alloc (Below.refl w.heap.size w) (.cells #[.bool sa,.slice xa na ca,.slice ya ma da] 24)) (.cells #[.bool sb,.slice xb nb cb,.slice yb mb db] 24)) (.cells #[.bool false,.slice none 0 0,.slice none 0 0] 24);clear ha hb;go_enter Tryz.func35,Tryz.ntmps35;go_wp2_with fail
 generalize ((w.alloc (.cells #[.bool sa,.slice xa na ca,.slice ya ma da] 24)).alloc (.cells #[.bool sb,.slice xb nb cb,.slice yb mb db] 24)).alloc (.cells #[.bool false,.slice none 0 0,.slice none 0 0] 24)=w1 at *;have OB1:=hid h3;have HW1:=hid h4
 refine (rAdd_n h1 h2 hL).mono ?_;clear h1 h2 h3 h4;rintro e w2 ⟨s,x,n,c,f,y,m,d,g,rfl,hb2,hq⟩;have hob:=OB1.out.below hb2;have hbw:=HW1.out.trans (hb2.mono HW1.out.size);obtain ⟨hz,z0,z1,z2,zf⟩:=OB1.out.below hb2;have HQ:=hid hq;have HOB:=hid hob;have HBW:=hid hbw
 clear hq hob hbw hb2 OB1 HW1;go_wp2;exact bodyPost_ret (v:=.agg #[.bool s,.slice x n c,.slice y m d]) (by simp [results,Tryz.results35,go_sem,z0,z1,z2,hz]) rfl ⟨s,x,n,c,f,y,m,d,g,rfl,below_alloc (below_st HBW.out (by omega)) _,(HOB.out.rn HQ.out).alloc _⟩
set_option maxRecDepth 100000 in
set_option maxHeartbeats 4000000 in
theorem weight_c {L:Nat} {w:World} {s:Bool} {x:Option Addr} {n c:Nat} {f:Nat→Int} {y:Option Addr} {m d:Nat} {g:Nat→Int} {q:Rat} {i1:Int} {s1:Bool} {x1:Option Addr} {n1 c1:Nat} {y1:Option Addr} {m1 d1:Nat} {up:Bool} {ta:Option Addr} {tk tc:Nat} (h:Rn L w s x n c f y m d g q) (hL:L≤200000) :
  Calls Tryz.prog 34 #[.agg #[.bool s,.slice x n c,.slice y m d,.int .i64 i1,.bool s1,.slice x1 n1 c1,.slice y1 m1 d1,.bool up,.slice ta tk tc]] w fun e w'=>RatAns L w w' e (if up then -q else q):=by
 have hb:=below_alloc (below_alloc (Below.refl w.heap.size w) (.cells #[.bool s,.slice x n c,.slice y m d,.int .i64 i1,.bool s1,.slice x1 n1 c1,.slice y1 m1 d1,.bool up,.slice ta tk tc] 79)) (.cells #[.bool false,.slice none 0 0,.slice none 0 0] 24);have BB:Bk ((w.alloc (.cells #[.bool s,.slice x n c,.slice y m d,.int .i64 i1,.bool s1,.slice x1 n1 c1,.slice y1 m1 d1,.bool up,.slice ta tk tc] 79)).alloc (.cells #[.bool false,.slice none 0 0,.slice none 0 0] 24)) w.heap.size [.bool s,.slice x n c,.slice y m d,.int .i64 i1,.bool s1,.slice x1 n1 c1,.slice y1 m1 d1,.bool up,.slice ta tk tc] 79:=(bk_new w [.bool s,.slice x n c,.slice y m d,.int .i64 i1,.bool s1,.slice x1 n1 c1,.slice y1 m1 d1,.bool up,.slice ta tk tc] 79).below (below_alloc (Below.refl _ _) _);have OB:Ob ((w.alloc (.cells #[.bool s,.slice x n c,.slice y m d,.int .i64 i1,.bool s1,.slice x1 n1 c1,.slice y1 m1 d1,.bool up,.slice ta tk tc] 79)).alloc (.cells #[.bool false,.slice none 0 0,.slice none 0 0] 24)) (w.heap.size+1):=by
  have:=ob_new (w.alloc (.cells #[.bool s,.slice x n c,.slice y m d,.int .i64 i1,.bool s1,.slice x1 n1 c1,.slice y1 m1 d1,.bool up,.slice ta tk tc] 79)) 24;rw [size_alloc1] at this;exact this
 have hq:=h.below hb;clear h;go_enter Tryz.func34,Tryz.ntmps34;go_upto_region 1 with fail
 have HBW:=hid hb;have HOB:=hid OB;have HQ:=hid hq
 generalize ((w.alloc (.cells #[.bool s,.slice x n c,.slice y m d,.int .i64 i1,.bool s1,.slice x1 n1 c1,.slice y1 m1 d1,.bool up,.slice ta tk tc] 79)).alloc (.cells #[.bool false,.slice none 0 0,.slice none 0 0] 24))=w2 at *;have k0:=BB.cell (j:=0) rfl;have k1:=BB.cell (j:=1) rfl;have k2:=BB.cell (j:=2) rfl;have k7:=BB.cell (j:=7) rfl;obtain ⟨hz,z0,z1,z2,zf⟩:=OB;clear hb hq BB;cases up
 ·go_wp2;exact bodyPost_ret (v:=.agg #[.bool s,.slice x n c,.slice y m d]) (by simp [results,Tryz.results34,go_sem,z0,z1,z2]) rfl ⟨s,x,n,c,f,y,m,d,g,rfl,below_st HBW.out (by omega),HOB.out.rn HQ.out⟩
 ·go_wp2_with fail
  refine (rNeg_n HQ.out hL).mono ?_;rintro e w3 ⟨s3,x3,n3,c3,f3,y3,m3,d3,g3,rfl,hb3,hq3⟩;have hob:=HOB.out.below hb3;have hbw:=HBW.out.trans (hb3.mono HBW.out.size);clear z0 z1 z2 zf hz k0 k1 k2 k7;obtain ⟨hz,z0,z1,z2,zf⟩:=HOB.out.below hb3;have HQ3:=hid hq3;have HO3:=hid hob;have HB3:=hid hbw
  clear hq3 hob hbw hb3 HOB HBW HQ;go_wp2;exact bodyPost_ret (v:=.agg #[.bool s3,.slice x3 n3 c3,.slice y3 m3 d3]) (by simp [results,Tryz.results34,go_sem,z0,z1,z2,hz]) rfl ⟨s3,x3,n3,c3,f3,y3,m3,d3,g3,rfl,below_alloc (below_st HB3.out (by omega)) _,(HO3.out.rn HQ3.out).alloc _⟩
set_option maxRecDepth 100000 in
set_option maxHeartbeats 4000000 in
theorem noughts_c {w:World} {n:Nat} (hn:n≤64) :
  Calls Tryz.prog 30 #[.int .i64 (n:Int)] w fun e w'=>∃B,e=.returned (.slice (some ⟨B,0,none⟩) n n)∧w.heap.size≤B∧Below w.heap.size w w'∧Rk w' B n∧Rq 4 w' B n (fun _=>0):=by
 go_enter Tryz.func30,Tryz.ntmps30;go_wp2_with (at_make;refine wpList_make_rk _ rfl (.tmp 5) (.tmp 5) 29 rfl 24 56 Tryz.underlying29 Tryz.infoRat .i64 .i64 n n n rfl rfl rfl rfl (by omega) (by unfold maxLen;omega) ?_;intro w3 hk3 hb3)
 have HB3:=hid hb3;have HK3:=hid hk3
 clear hk3 hb3;go_loopw [9] (fun t wr=>∃(i:Nat),i≤n∧t=.int .i64 i∧Hid (Below w.heap.size w wr)∧Hid (Rk wr w.heap.size n)∧Hid (Rq 4 wr w.heap.size i (fun _=>0))) (fun t _=>n-(intOf t).toNat)
 case atStart=>exact ⟨0,by omega,rfl,HB3,HK3,fun j hj=>by omega⟩
 case round =>
  clear HB3 HK3;obtain ⟨i,hi,rfl,HB,HK,HQ⟩:=hrel;by_cases hlt:i<n
  ·have i2:((i:Nat):Int)<((n:Nat):Int):=by omega
   go_wp2_with fail
   refine (rOf_c (z:=0) (by decide) (by decide)).mono ?_;rintro e w4 ⟨s0,x0,n0,c0,f0,y0,m0,d0,g0,rfl,hb4,hq4⟩;have HB4:=hid (HB.out.trans (hb4.mono HB.out.size));have hk4:=HK.out.below hb4;have hq5:=HQ.out.below hb4
   obtain ⟨R1,R2⟩:=rq_st (i':=i+1) (Q':=fun _=>0) hk4 hq5 hlt hq4 (fun j' h1 h2=>⟨by omega,rfl⟩);obtain ⟨_,a0,_⟩:=hk4.has (i*3) (by omega);obtain ⟨_,a1,_⟩:=hk4.has (i*3+1) (by omega);obtain ⟨_,a2,_⟩:=hk4.has (i*3+2) (by omega);have hfz:=hk4.fz;have HR1:=hid R1;have HR2:=hid R2
   clear R1 R2 hb4 hq4 hk4 hq5 HB HK HQ;go_wp2;go_roundw
   case rel=>exact ⟨i+1,by omega,by go_num,below_at HB4.out (by omega),HR1.out,HR2.out⟩
   case measure=>simp [intOf];omega
  ·have i2:¬(((i:Nat):Int)<((n:Nat):Int)):=by omega
   have e1:i=n:=by omega
   have HQ0:Hid (Rq 4 wr w.heap.size n (fun (_:Nat)=>0)):=by
    have h:=HQ.out;rw [e1] at h;exact h
   clear HQ e1;go_wp2;go_ret;exact ⟨w.heap.size,rfl,Nat.le_refl _,HB.out,HK.out,HQ0.out⟩
set_option maxRecDepth 100000 in
set_option maxHeartbeats 4000000 in
theorem fallZero_c {w:World} {L:Nat} {ao:Option Addr} {k cap:Nat} {p:List Rat} (h:Rf L w ao p) (hk:p.length=k) (hk2:k≤400) :
  Calls Tryz.prog 46 #[.slice ao k cap] w fun e w'=>e=.returned (.bool (p.all (fun q=>decide (q=0))))∧Below w.heap.size w w':=by
 have H:=hid h;clear h;go_enter Tryz.func46,Tryz.ntmps46;go_wp2_with fail
 go_loopw [7] (fun t wr=>∃(i:Nat),i≤k∧t=.int .i64 i∧Hid (Below w.heap.size w wr)∧Hid ((p.take i).all (fun q=>decide (q=0))=true)) (fun t _=>k-(intOf t).toNat)
 case atStart=>exact ⟨0,by omega,rfl,Below.refl _ _,rfl⟩
 case round =>
  obtain ⟨i,hi,rfl,HB,HA⟩:=hrel;by_cases hlt:i<k
  ·obtain ⟨q,haq⟩:∃t,p[i]?=some t:=⟨_,List.getElem?_eq_getElem (by omega)⟩;obtain ⟨b,o,⟨ts,tx,tn,tc,tf,ty,tm,td,tg⟩,hav,hc,hr⟩:=(H.out.below HB.out) i q haq;have hav2:=hav;subst hav2;obtain ⟨x0,x1,x2⟩:=hc;replace x0:wr.cell? ⟨b,o+i*3,none⟩=some (.bool ts):=x0;replace x1:wr.cell? ⟨b,o+i*3+1,none⟩=some (.slice tx tn tc):=x1;replace x2:wr.cell? ⟨b,o+i*3+2,none⟩=some (.slice ty tm td):=x2;have hz:q=0 ↔ tn=0:=hr.q_zero;have HD:Hid ((p.take (i+1)).all (fun q=>decide (q=0))=decide (tn=0)):=by
    show _=_;rw [List.take_add_one,haq,Option.toList_some,List.all_append,HA.out,Bool.true_and];simp [hz]
   have HF:Hid (tn≠0→p.all (fun q=>decide (q=0))=false):=by
    intro hn;rw [Bool.eq_false_iff];intro ht;rw [List.all_eq_true] at ht;have:=ht q (List.mem_of_getElem? haq);exact hn (hz.1 (by simpa using this))
   have i2:((i:Nat):Int)<((k:Nat):Int):=by omega
   have hbt:=below_alloc (Below.refl wr.heap.size wr) (.cells #[.bool ts,.slice tx tn tc,.slice ty tm td] 24);have HB1:=hid (HB.out.trans (hbt.mono HB.out.size));clear haq hav hr hz HA HB hbt;go_wp2_with fail
   refine (fisZero_c _ _ _ _ _ _ _ _).mono ?_;rintro e w4 ⟨rfl,hb4⟩;have HB4:=hid (HB1.out.trans (hb4.mono HB1.out.size));clear hb4 HB1;by_cases e0:tn=0
   ·subst e0;have HD1:Hid ((p.take (i+1)).all (fun q=>decide (q=0))=true):=HD.out;clear HD HF;go_wp2;go_roundw
    case rel=>exact ⟨i+1,by omega,by go_num,HB4.out,HD1.out⟩
    case measure=>simp [intOf];omega
   ·have HF1:=hid (HF.out e0);have e1:decide (tn=0)=false:=decide_eq_false e0;rw [e1];clear HD HF e0 e1;go_wp2;go_ret;exact ⟨by rw [HF1.out];rfl,HB4.out⟩
  ·have i2:¬(((i:Nat):Int)<((k:Nat):Int)):=by omega
   have HF:Hid (p.all (fun q=>decide (q=0))=true):=by
    show _=_;have e1:i=k:=by omega
    have:=HA.out;rw [e1,←hk,List.take_length] at this;exact this
   clear HA;go_wp2;go_ret;exact ⟨by rw [HF.out];rfl,HB.out⟩
theorem lo_zero {L:Nat} (hL:1≤L):Lo L 0:=by
 have h:=pw_mono hL;have h1:pw 1=18446744073709551616:=by decide
 constructor
 ·show ((0:Nat):Int)<_;omega
 ·show ((1:Nat):Int)<_;omega
theorem Tf.lo {L w ao} {v:List (Int × Rat)} (h:Tf L w ao v):∀(j:Nat) (a:Int) (q:Rat),v[j]?=some (a,q)→Lo L q:=fun j a q hj=>by
 obtain ⟨_,_,_,_,_,h2⟩:=h j a q hj;exact h2.lo h2.ln h2.ld
theorem Rf.lo {L w ao} {p:List Rat} (h:Rf L w ao p):∀(j:Nat) (q:Rat),p[j]?=some q→Lo L q:=fun j q hj=>by
 obtain ⟨_,_,_,_,_,h2⟩:=h j q hj;exact h2.lo h2.ln h2.ld
end Go.Proofs.YtffblgeappcadaaGreat
