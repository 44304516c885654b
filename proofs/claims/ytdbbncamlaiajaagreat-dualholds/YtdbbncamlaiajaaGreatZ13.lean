/-
 Dp, where k waits for a load by way of others too (written by makers/dq.py). No Go text is named here. The walk of package point's activities, by values (written by makers/n2.py). Walks of the document's DocCmp, DocMax, DocMin of bounds, whatever they are handed; of the statements' same, light, num. Walks of ext: number, Scale of minus infinity by a number below 0, Text of infinity; of the statements' own look at answers that the document fixes (awake). Walks of ext: Of, Neg, Shift, Scale, whatever they are handed. The walks of package ext's Cmp of longer bounds, of package point's keeps (written by makers/n3.py). The walk of rat.Copy, with the owners of what it answers. The walk of the reference's From of a list of terms. Walks of the reference's Twins, Forms and Froms of lists of numbers. A stack without steps in memory; the walks of stack.New, Size and Tightened, of point.Numbers, of rat.Copy (with its owners) and of stack.copied. The walk of stack.copied. The walks of stack.back without steps, of stack.copiedPoint, and of the reference's Twin of points and of certificates (written by makers/o3.py). The walks of stack's numbers, Primal, Lift, checkPoint and Dual, of a stack without steps (written by makers/o4.py). The walk of package point's check, whatever it is handed (written by makers/n4.py).
-/
import Derived.Test.YtdbbncamlaiajaaGreatZ12
import Derived.Test.YtdbbncamlaiajaaGreatZ10
import Derived.Test.YtdbbncamlaiajaaGreatZ8
import Derived.Test.YtdbbncamlaiajaaGreatZ9
import Derived.Test.YtdbbncamlaiajaaGreatZ7
import Derived.BigQuiet
import Derived.Deep.RegionHeld3
import Derived.Test.YtdbbncamlaiajaaGreatZ6
import Derived.Test.YtdbbncamlaiajaaGreatZ0
namespace Go.Proofs.YtdbbncamlaiajaaGreat
open Go.RowKit
theorem wpAnyP_far {P:Program} {ops:Array Oper} {Q:Exit→Act→World→Prop} {md:Region.Mode} {S:World→Prop} {k:Nat} {i:Nat} {oi:Oper} {v:Value} (hi:ops[i]?=some oi) (hsel:∀(j:Nat) (o:Oper) cs b,ops[j]?=some o→o.op≠.select cs b)
  (hQ:∀c a w,Q (.panic c) (a.put oi.dst v) w→Q (.panic c) a w) (hd:i ∈ ancs md ops ops.size [k]) :
  ∀(fuel:Nat) (listed:Array Bool) (a:Act) (w:World),
   (∀j oj,ops[j]?=some oj→j≠i→listed.getD j true=false→(∀e ∈ oj.after,Region.binds md e=true→e.on≠i)→oi.apart ops oj=true) →
   i ∈ Region.ready md ops listed→listed.getD k true=false→(∀a b,listed.getD a false=true→b ∈ depsOf md ops a→listed.getD b false=true)→YieldsIf P ops S oi v a→S w →
   wpAnyP P md ops Q S k fuel (listed.setIfInBounds i true) (a.put oi.dst v) w→wpAnyP P md ops Q S k (fuel+1) listed a w:=by
 intro fuel
 induction fuel with
 | zero =>
  intro listed a w _ hr _ _ hy hS H;refine ⟨fun h=>(by rw [h] at hr;cases hr),fun j hj=>?_⟩;by_cases hji:j=i
  ·subst hji;exact hy.wpOp hi hS ⟨fun _=>hS,H⟩
  ·have:=ready_mono hj hji;rw [H.1] at this;cases this
 | succ fuel ih =>
  intro listed a w hfree hr hk hcl hy hS H;refine ⟨fun h=>(by rw [h] at hr;cases hr),fun j hj=>?_⟩;by_cases hji:j=i
  ·subst hji;exact hy.wpOp hi hS ⟨fun _=>hS,H⟩
  ·have h1:=H.2 j (ready_mono hj hji);obtain ⟨hjun,oj,hoj,hall⟩:=mem_ready.1 hj;have hil:listed.getD i false=true→False:=fun h=>by
    have h0:=(mem_ready.1 hr).1;rcases Nat.lt_or_ge i listed.size with h' | h'
    ·simp [h'] at h0 h;rw [h0] at h;cases h
    ·simp [Array.getElem?_eq_none h'] at h
   have hjd:∀b,b ∈ depsOf md ops j→listed.getD b false=true:=fun b hb=>by
    obtain ⟨o',ho',e,he,hb',rfl⟩:=mem_deps.1 hb;obtain ⟨_,oj',hoj',hall'⟩:=mem_ready.1 hj;obtain rfl:o'=oj':=Option.some.inj (ho'.symm.trans hoj');exact hall' e he hb'
   have hjk:j≠k:=fun e=>by
    subst e;exact hil (anc_listed hcl ops.size [j] (fun a ha b hb=>by simp at ha;subst ha;exact hjd b hb) i hd)
   have hik:i≠k:=fun e=>by
    subst e;refine hil (anc_listed hcl ops.size [i] (fun a ha b hb=>?_) i hd);simp at ha;subst ha
    obtain ⟨o',ho',e,he,hb',rfl⟩:=mem_deps.1 hb;obtain ⟨_,oi',hoi',hall'⟩:=mem_ready.1 hr;obtain rfl:o'=oi':=Option.some.inj (ho'.symm.trans hoi');exact hall' e he hb'
   have hnot:∀e ∈ oj.after,Region.binds md e=true→e.on≠i:=fun e he hb heq=>ready_waits hr hj (mem_deps.2 ⟨oj,hoj,e,he,hb,heq⟩)
   have h2:=wpOp_putIf hoj (hfree j oj hoj hji hjun hnot) (fun cs b=>hsel i oi cs b hi) (fun cs b=>hsel j oj cs b hoj) hQ hy h1;have hfree':∀k ok,ops[k]?=some ok→k≠i→(listed.setIfInBounds j true).getD k true=false →
     (∀e ∈ ok.after,Region.binds md e=true→e.on≠i)→oi.apart ops ok=true:=fun k ok hk hki hun hno=>by
    refine hfree k ok hk hki ?_ hno;by_cases hjk:j=k
    ·subst hjk;exact hjun
    ·rw [getD_set_ne true hjk] at hun;exact hun
   have hk':(listed.setIfInBounds j true).getD k true=false:=by rw [getD_set_ne true hjk];exact hk
   have hk2:((listed.setIfInBounds i true).setIfInBounds j true).getD k true=false:=by rw [getD_set_ne true hjk,getD_set_ne true hik];exact hk
   have hcl':∀a b,(listed.setIfInBounds j true).getD a false=true→b ∈ depsOf md ops a→(listed.setIfInBounds j true).getD b false=true:=fun a b ha hb=>by
    by_cases e:a=j
    ·subst e;exact getD_set_true (hjd b hb)
    ·rw [getD_set_ne false (Ne.symm e)] at ha;exact getD_set_true (hcl a b ha hb)
   refine wpOp_mono (fun a' w' h3=>⟨fun _=>h3.2.1 hk2,ih (listed.setIfInBounds j true) a' w' hfree' (ready_mono hr (Ne.symm hji)) hk' hcl' h3.1 (h3.2.1 hk2) ?_⟩) h2;rw [Array.setIfInBounds_comm _ _ hji];exact h3.2.2
def shutB (md:Region.Mode) (ops:Array Oper) (listed:Array Bool):Bool:=(List.range listed.size).all (fun a=>!(listed.getD a false) || (depsOf md ops a).all (fun b=>listed.getD b false))
theorem shutB_of {md:Region.Mode} {ops:Array Oper} {listed:Array Bool} (h:shutB md ops listed=true):∀a b,listed.getD a false=true→b ∈ depsOf md ops a→listed.getD b false=true:=fun a b ha hb=>by
 rcases Nat.lt_or_ge a listed.size with hl | hl
 ·have:=List.all_eq_true.1 h a (List.mem_range.2 hl);rw [ha] at this;have h2:=List.all_eq_true.1 (show (depsOf md ops a).all (fun b=>listed.getD b false)=true from (by simpa only [Bool.not_true,Bool.false_or] using this)) b hb;exact h2
 ·simp [Array.getElem?_eq_none hl] at ha
theorem wpAnyP_takeA {P:Program} {ops:Array Oper} {Q:Exit→Act→World→Prop} {md:Region.Mode} {S:World→Prop} {k:Nat} {i:Nat} {oi:Oper} {v:Value} {fuel:Nat} {listed:Array Bool} {a:Act} {w:World} (hi:ops[i]?=some oi)
  (hs:Region.noSelect ops=true) (hf:Region.free md ops listed i=true) (hr:(Region.ready md ops listed).contains i=true) (hd:(ancs md ops ops.size [k]).contains i=true) (hk:listed.getD k true=false) (hc:shutB md ops listed=true)
  (hQ:∀c a w,Q (.panic c) (a.put oi.dst v) w→Q (.panic c) a w) (hy:YieldsIf P ops S oi v a) (hS:S w)
  (h:wpAnyP P md ops Q S k fuel (listed.setIfInBounds i true) (a.put oi.dst v) w):wpAnyP P md ops Q S k (fuel+1) listed a w :=
 wpAnyP_far hi (Region.noSelect_spec hs) hQ (by simpa using hd) fuel listed a w (Region.free_spec hi hf) (by simpa using hr) hk (shutB_of hc) hy hS h
def Gr (K base:Nat) (w:World) (v:Value) (p:List Rat):Prop:=∃T:Nat→Nm,RowG 24 3 base w v p.length (rcells (rls p.length T))∧∀(j:Nat) (q:Rat),p[j]?=some q→Rn K w (T j).s (T j).x (T j).n (T j).c (T j).f (T j).y (T j).m (T j).d (T j).g q
theorem gr_nil (K base:Nat) (w:World):Gr K base w (.slice none 0 0) []:=⟨fun _=>⟨false,none,0,0,fun _=>0,none,0,0,fun _=>0⟩,rowG_nil _ _ _ _,fun j q h=>by simp at h⟩
theorem Gr.below {K base w w' v p} (h:Gr K base w v p) (hb:Below w.heap.size w w'):Gr K base w' v p:=by
 obtain ⟨T,h1,h2⟩:=h;exact ⟨T,h1.below hb,fun j q e=>(h2 j q e).below hb⟩
theorem gr_push {K base:Nat} {w0 w':World} {p:List Rat} {T:Nat→Nm} {g cap:Nat} {s:Bool} {x:Option Addr} {n c:Nat} {f:Nat→Int} {y:Option Addr} {m d:Nat} {gg:Nat→Int} {q:Rat} (hT:∀(j:Nat) (q:Rat),p[j]?=some q→Rn K w0 (T j).s (T j).x (T j).n (T j).c (T j).f (T j).y (T j).m (T j).d (T j).g q) (hr:RowG 24 3 base w' (.slice (some ⟨g,0,none⟩) (p.length+1) cap) (p.length+1) (rcells (rls p.length T)++#[Value.bool s,.slice x n c,.slice y m d].toList)) (hk:Kp w0 w') (hq:Rn K w0 s x n c f y m d gg q):Gr K base w' (.slice (some ⟨g,0,none⟩) (p.length+1) cap) (p++[q]):=by
 refine ⟨putN T p.length ⟨s,x,n,c,f,y,m,d,gg⟩,?_,fun j q' e=>?_⟩
 ·rw [List.length_append,List.length_singleton,rls_put];exact hr
 ·by_cases hj:j<p.length
  ·rw [List.getElem?_append_left hj] at e;rw [putN_ne (by omega)];exact Rn.kp (hT j q' e) hk
  ·rw [List.getElem?_append_right (by omega)] at e;have h0:j-p.length=0:=by
    rcases Nat.eq_zero_or_pos (j-p.length) with h | h
    ·exact h
    ·rw [List.getElem?_eq_none (by simp;omega)] at e;cases e
   have hjj:j=p.length:=by omega
   subst hjj;rw [h0] at e;cases e
   rw [putN_at];exact Rn.kp hq hk
theorem Gr.rf {K base w ao n cap p} (h:Gr K base w (.slice ao n cap) p):Rf K w ao p:=fun j q hj=>by
 obtain ⟨T,h1,h2⟩:=h;have hl:j<p.length:=by
  rcases Nat.lt_or_ge j p.length with h | h
  ·exact h
  ·rw [List.getElem?_eq_none h] at hj;cases hj
 have hn:n=p.length:=by
  obtain ⟨ao',cap',e⟩:=h1.slice;cases e;rfl
 subst hn;obtain ⟨b,e,hc⟩:=rowg_c3 h1 hl;exact ⟨b,0,T j,e,hc,h2 j q hj⟩
theorem Gr.slice {K base w v p} (h:Gr K base w v p):∃ao cap,v=.slice ao p.length cap∧p.length≤cap∧cap≤9223372036854775807:=by
 obtain ⟨T,h1,h2⟩:=h;obtain ⟨ao,cap,rfl⟩:=h1.slice;refine ⟨ao,cap,rfl,?_⟩;rcases h1.2 with ⟨hv,h0⟩ | ⟨_,_,_,hv,_,_,h5,h6,_⟩
 ·injection hv with _ e2 e3;omega
 ·injection hv with _ _ e3;subst e3;unfold maxLen at h6;omega
def tprod (xs:List Rat) (t:Int × Rat):Rat:=t.2*xs.getD t.1.toNat 0
def actQ (xs:List Rat) (r:RV):Rat:=psum (r.ts.map (tprod xs)) 0
def KA (L:Nat):Nat:=4+64*(2*L+1+1)
theorem take_map_succ {α β:Type} (f:α→β) (l:List α) (i:Nat) (v:α) (h:l[i]?=some v):(l.take (i+1)).map f=(l.take i).map f++[f v]:=by
 rw [List.take_add_one,h,List.map_append];rfl
theorem take_map_len {α β:Type} (f:α→β) (l:List α) (i:Nat) (h:i≤l.length):((l.take i).map f).length=i:=by simp;omega
set_option maxRecDepth 100000 in
set_option maxHeartbeats 8000000 in
theorem acts_c {w:World} {L:Nat} {M:Mo} {off:Rat} {cs:List CV} {rs:List RV} {ao:Option Addr} {k cap:Nat} {xs:List Rat} (h:MoV L w M off cs rs) (hx:Rf L w ao xs) (hk:xs.length=k) (hcol:∀r ∈ rs,∀t ∈ r.ts,0≤t.1∧t.1<(k:Int)) (hrk:rs.length≤64) (htk:∀r ∈ rs,r.ts.length≤64) (hL:L≤100) :
  Calls Tryz.prog 122 #[M.val,.slice ao k cap] w fun e w'=>∃a c,e=.returned (.slice a rs.length c)∧Below w.heap.size w w'∧(rs.length≤c∧c≤9223372036854775807)∧Hid (Rf (KA L) w' a (rs.map (actQ xs))):=by
 have hrk2:=h.rk;have hR:=h.rls;clear h;obtain ⟨⟨s,x,n,c,f,y,m,d,g⟩,ca,ck,cc,C,ra,rk,rc,R⟩:=M;replace hrk2:rk=rs.length:=hrk2;have HR:Hid (∀j v,rs[j]?=some v→(∃b o,ra=some ⟨b,o,none⟩∧Cs w b (o+j*10) (R j).vs)∧RowV L w (R j) v):=hR;subst hrk2;have HX:=hid hx;have HCol:=hid hcol;have HTk:=hid htk
 clear hR hx hcol htk;have hb0:=below_alloc (Below.refl w.heap.size w) (.cells #[.bool s,.slice x n c,.slice y m d,.slice ca ck cc,.slice ra rs.length rc] 28);have HB0:=hid hb0;have k4:(w.alloc (.cells #[.bool s,.slice x n c,.slice y m d,.slice ca ck cc,.slice ra rs.length rc] 28)).cell? ⟨w.heap.size,4,none⟩=some (.slice ra rs.length rc):=by simp [go_sem]
 clear hb0;show Calls Tryz.prog 122 #[.agg #[.bool s,.slice x n c,.slice y m d,.slice ca ck cc,.slice ra rs.length rc],.slice ao k cap] w _;go_enter Tryz.func122,Tryz.ntmps122;go_wp2_with fail
 generalize w.alloc (.cells #[.bool s,.slice x n c,.slice y m d,.slice ca ck cc,.slice ra rs.length rc] 28)=w0 at *;go_loopw [5,14] (fun ov t wr=>∃(i:Nat),i≤rs.length∧t=.int .i64 i∧Hid (Below w.heap.size w wr)∧Hid (Gr (KA L) w.heap.size wr ov ((rs.take i).map (actQ xs)))) (fun _ t _=>rs.length-(intOf t).toNat)
 case atStart=>exact ⟨0,by omega,rfl,HB0,gr_nil _ _ _⟩
 case round =>
  clear k4 HB0;obtain ⟨i,hi,rfl,HB,HG⟩:=hrel;by_cases hlt:i<rs.length
  ·obtain ⟨v,hv⟩:∃t,rs[i]?=some t:=⟨_,List.getElem?_eq_getElem (by omega)⟩;have hvm:=List.mem_of_getElem? hv;obtain ⟨⟨b,o,hra,hc⟩,hRV⟩:=HR.out i v hv;subst hra;obtain ⟨⟨z,⟨i1,⟨s1,x1,n1,c1,f1,y1,m1,d1,g1⟩⟩,⟨i2,⟨s2,x2,n2,c2,f2,y2,m2,d2,g2⟩⟩,ta,tk,tc,tcol,tt⟩,hCi⟩:∃t,R i=t:=⟨_,rfl⟩;rw [hCi] at hc hRV;replace hc:=Cs.below hc HB.out;have q0:wr.cell? ⟨b,o+i*10,none⟩=some (.string z):=hc 0 _ rfl;have q1:wr.cell? ⟨b,o+i*10+1,none⟩=some (.int .i64 i1):=hc 1 _ rfl;have q2:wr.cell? ⟨b,o+i*10+2,none⟩=some (.bool s1):=hc 2 _ rfl;have q3:wr.cell? ⟨b,o+i*10+3,none⟩=some (.slice x1 n1 c1):=hc 3 _ rfl;have q4:wr.cell? ⟨b,o+i*10+4,none⟩=some (.slice y1 m1 d1):=hc 4 _ rfl;have q5:wr.cell? ⟨b,o+i*10+5,none⟩=some (.int .i64 i2):=hc 5 _ rfl;have q6:wr.cell? ⟨b,o+i*10+6,none⟩=some (.bool s2):=hc 6 _ rfl;have q7:wr.cell? ⟨b,o+i*10+7,none⟩=some (.slice x2 n2 c2):=hc 7 _ rfl;have q8:wr.cell? ⟨b,o+i*10+8,none⟩=some (.slice y2 m2 d2):=hc 8 _ rfl;have q9:wr.cell? ⟨b,o+i*10+9,none⟩=some (.slice ta tk tc):=hc 9 _ rfl;have hb1:=below_alloc (Below.refl wr.heap.size wr) (.cells #[.string z,.int .i64 i1,.bool s1,.slice x1 n1 c1,.slice y1 m1 d1,.int .i64 i2,.bool s2,.slice x2 n2 c2,.slice y2 m2 d2,.slice ta tk tc] 68);have b9:(wr.alloc (.cells #[.string z,.int .i64 i1,.bool s1,.slice x1 n1 c1,.slice y1 m1 d1,.int .i64 i2,.bool s2,.slice x2 n2 c2,.slice y2 m2 d2,.slice ta tk tc] 68)).cell? ⟨wr.heap.size,9,none⟩=some (.slice ta tk tc):=by simp [go_sem]
   have HTS:Hid (∀p z q,v.ts[p]?=some (z,q)→tcol p=z∧NmV L w (tt p) q∧∃b o,ta=some ⟨b,o,none⟩∧C4 w b (o+p*4) (.int .i64 (tcol p)) (.bool (tt p).s) (.slice (tt p).x (tt p).n (tt p).c) (.slice (tt p).y (tt p).m (tt p).d)):=hRV.tl;have htk2:tk=v.ts.length:=hRV.tk;subst htk2;have htk3:=HTk.out v hvm;have HC2:=hid (HCol.out v hvm);have HV:=hid hv;have HB1:=hid (HB.out.trans (hb1.mono HB.out.size));have HG1:=hid (HG.out.below hb1)
   have i1':((i:Nat):Int)<((rs.length:Nat):Int):=by omega
   clear hCi hc hRV hb1 hv hvm HB HG;go_wp2_with fail
   clear q0 q1 q2 q3 q4 q5 q6 q7 q8 q9;generalize wr.alloc (.cells #[.string z,.int .i64 i1,.bool s1,.slice x1 n1 c1,.slice y1 m1 d1,.int .i64 i2,.bool s2,.slice x2 n2 c2,.slice y2 m2 d2,.slice ta v.ts.length tc] 68)=wI at *;clear b9;go_loopw [8,21] (fun vv t wz=>∃(p:Nat),p≤v.ts.length∧t=.int .i64 p∧Hid (Below wI.heap.size wI wz)∧Hid (Gr (2*L+1) wI.heap.size wz vv ((v.ts.take p).map (tprod xs)))) (fun _ t _=>v.ts.length-(intOf t).toNat)
   case atStart=>exact ⟨0,by omega,rfl,Below.refl _ _,gr_nil _ _ _⟩
   case round =>
    obtain ⟨p,hp,rfl,HB2,HG2⟩:=hrel;by_cases hlp:p<v.ts.length
    ·obtain ⟨⟨tz,tq⟩,htv⟩:∃t,v.ts[p]?=some t:=⟨_,List.getElem?_eq_getElem (by omega)⟩;obtain ⟨h1,h2,b2,o2,hta,h4⟩:=HTS.out p tz tq htv;obtain ⟨hz0,hz1⟩:=HC2.out (tz,tq) (List.mem_of_getElem? htv);replace hz0:0≤tz:=hz0;replace hz1:tz<(k:Int):=hz1;obtain ⟨zn,rfl⟩:=Int.eq_ofNat_of_zero_le hz0;subst hta;obtain ⟨r,hr⟩:∃t,xs[zn]?=some t:=⟨_,List.getElem?_eq_getElem (by omega)⟩;have hbz:=HB1.out.trans (HB2.out.mono HB1.out.size);obtain ⟨b',o',⟨ss,sx,sn,sc,sf,sy,sm,sd,sg⟩,hax,⟨p0,p1,p2⟩,hr'⟩:=(HX.out.below hbz) zn r hr;subst hax;obtain ⟨⟨ts,tx,tn,tc2,tf,ty,tm,td,tg⟩,hTp⟩:∃t,tt p=t:=⟨_,rfl⟩;rw [hTp,h1] at h4;rw [hTp] at h2;obtain ⟨x0,x1,x2,x3⟩:=h4.below hbz;replace x0:wr.cell? ⟨b2,o2+p*4,none⟩=some (.int .i64 zn):=x0;replace x1:wr.cell? ⟨b2,o2+p*4+1,none⟩=some (.bool ts):=x1;replace x2:wr.cell? ⟨b2,o2+p*4+2,none⟩=some (.slice tx tn tc2):=x2;replace x3:wr.cell? ⟨b2,o2+p*4+3,none⟩=some (.slice ty tm td):=x3;replace p0:wr.cell? ⟨b',o'+zn*3,none⟩=some (.bool ss):=p0;replace p1:wr.cell? ⟨b',o'+zn*3+1,none⟩=some (.slice sx sn sc):=p1;replace p2:wr.cell? ⟨b',o'+zn*3+2,none⟩=some (.slice sy sm sd):=p2;have h2r:Rn L w ts tx tn tc2 tf ty tm td tg tq:=h2;have hr2:Rn L wr ss sx sn sc sf sy sm sd sg r:=hr';have hbt:=below_alloc (Below.refl wr.heap.size wr) (.cells #[.int .i64 zn,.bool ts,.slice tx tn tc2,.slice ty tm td] 70);have a0:(wr.alloc (.cells #[.int .i64 zn,.bool ts,.slice tx tn tc2,.slice ty tm td] 70)).cell? ⟨wr.heap.size,0,none⟩=some (.int .i64 zn):=by simp [go_sem]
     have a1:(wr.alloc (.cells #[.int .i64 zn,.bool ts,.slice tx tn tc2,.slice ty tm td] 70)).cell? ⟨wr.heap.size,1,none⟩=some (.bool ts):=by simp [go_sem]
     have a2:(wr.alloc (.cells #[.int .i64 zn,.bool ts,.slice tx tn tc2,.slice ty tm td] 70)).cell? ⟨wr.heap.size,2,none⟩=some (.slice tx tn tc2):=by simp [go_sem]
     have a3:(wr.alloc (.cells #[.int .i64 zn,.bool ts,.slice tx tn tc2,.slice ty tm td] 70)).cell? ⟨wr.heap.size,3,none⟩=some (.slice ty tm td):=by simp [go_sem]
     have i2':((p:Nat):Int)<((v.ts.length:Nat):Int):=by omega
     have i3':((zn:Nat):Int)<((k:Nat):Int):=by omega
     have HTV:=hid htv;have HRR:=hid hr
     clear htv hr hz0 hz1 h1 h2 h4 hTp hr';go_upto_region 9 with fail
     clear x0 x1 x2 x3;replace p0:=kCb hbt p0;replace p1:=kCb hbt p1;replace p2:=kCb hbt p2
     have HB3:=hid (HB2.out.trans (hbt.mono HB2.out.size));have HG3:=hid (HG2.out.below hbt);have R1:=hid ((h2r.below hbz).below hbt);have R2:=hid (hr2.below hbt)
     clear hbz hbt h2r hr2 HB2 HG2;generalize hbx:wr.heap.size=bx at *;generalize wr.alloc (.cells #[.int .i64 zn,.bool ts,.slice tx tn tc2,.slice ty tm td] 70)=w5 at *;clear hbx;refine wp_region_phase (S:=(fun w'=>w'.cell? ⟨bx,0,none⟩=some (.int .i64 zn)∧w'.cell? ⟨bx,1,none⟩=some (.bool ts)∧w'.cell? ⟨bx,2,none⟩=some (.slice tx tn tc2)∧w'.cell? ⟨bx,3,none⟩=some (.slice ty tm td)∧w'.cell? ⟨b',o'+zn*3,none⟩=some (.bool ss)∧w'.cell? ⟨b',o'+zn*3+1,none⟩=some (.slice sx sn sc)∧w'.cell? ⟨b',o'+zn*3+2,none⟩=some (.slice sy sm sd))) 8 (by kernel_rfl) ⟨kCd a0,kCd a1,kCd a2,kCd a3,kCd p0,kCd p1,kCd p2⟩ (fun hHeld=>?_);refine wpAnyP_skim (i:=0) (v:=?_) rfl (by kernel_rfl) (by kernel_rfl) (by kernel_rfl) (by kernel_rfl) (fun _ _ _ h=>h) (Or.inl ⟨by rfl,?_⟩) (fun _=>by assumption) ?_;rotate_left
     (focus (intro w0 hSw;go_simp <;> with_reducible rfl))
     simp only [List.getElem_toArray,List.getElem_cons_zero,Act.put,List.setIfInBounds_toArray,List.set_cons_zero,List.set_cons_succ];refine wpAnyP_skim (i:=1) (v:=?_) rfl (by kernel_rfl) (by kernel_rfl) (by kernel_rfl) (by kernel_rfl) (fun _ _ _ h=>h) (Or.inl ⟨by rfl,?_⟩) (fun _=>by assumption) ?_;rotate_left
     (focus (intro w0 hSw;go_simp <;> with_reducible rfl))
     simp only [List.getElem_toArray,List.getElem_cons_succ,List.getElem_cons_zero,Act.put,List.setIfInBounds_toArray,List.set_cons_zero,List.set_cons_succ];refine wpAnyP_takeA (i:=2) (v:=?_) rfl (by kernel_rfl) (by kernel_rfl) (by kernel_rfl) (by kernel_rfl) (by kernel_rfl) (by kernel_rfl) (fun _ _ _ h=>h) (Or.inl ⟨by rfl,?_⟩) (by assumption) ?_;rotate_left
     (focus (intro w0 hSw;(try dsimp only at hSw);go_simp <;> with_reducible rfl))
     simp only [List.getElem_toArray,List.getElem_cons_succ,List.getElem_cons_zero,Act.put,List.setIfInBounds_toArray,List.set_cons_zero,List.set_cons_succ];refine wpAnyP_skim (i:=3) (v:=?_) rfl (by kernel_rfl) (by kernel_rfl) (by kernel_rfl) (by kernel_rfl) (fun _ _ _ h=>h) (Or.inl ⟨by rfl,?_⟩) (fun _=>by assumption) ?_;rotate_left
     (focus (intro w0 hSw;go_simp <;> with_reducible rfl))
     simp only [List.getElem_toArray,List.getElem_cons_succ,List.getElem_cons_zero,Act.put,List.setIfInBounds_toArray,List.set_cons_zero,List.set_cons_succ];refine wpAnyP_skim (i:=4) (v:=?_) rfl (by kernel_rfl) (by kernel_rfl) (by kernel_rfl) (by kernel_rfl) (fun _ _ _ h=>h) (Or.inl ⟨by rfl,?_⟩) (fun _=>by assumption) ?_;rotate_left
     (focus (intro w0 hSw;go_simp <;> with_reducible rfl))
     simp only [List.getElem_toArray,List.getElem_cons_succ,List.getElem_cons_zero,Act.put,List.setIfInBounds_toArray,List.set_cons_zero,List.set_cons_succ];refine wpAnyP_takeA (i:=5) (v:=?_) rfl (by kernel_rfl) (by kernel_rfl) (by kernel_rfl) (by kernel_rfl) (by kernel_rfl) (by kernel_rfl) (fun _ _ _ h=>h) (Or.inl ⟨by rfl,?_⟩) (by assumption) ?_;rotate_left
     (focus (intro w0 hSw;(try dsimp only at hSw);go_simp <;> with_reducible rfl))
     simp only [List.getElem_toArray,List.getElem_cons_succ,List.getElem_cons_zero,Act.put,List.setIfInBounds_toArray,List.set_cons_zero,List.set_cons_succ];refine wpAnyP_skim (i:=6) (v:=?_) rfl (by kernel_rfl) (by kernel_rfl) (by kernel_rfl) (by kernel_rfl) (fun _ _ _ h=>h) (Or.inl ⟨by rfl,?_⟩) (fun _=>by assumption) ?_;rotate_left
     (focus (intro w0 hSw;go_simp <;> with_reducible rfl))
     simp only [List.getElem_toArray,List.getElem_cons_succ,List.getElem_cons_zero,Act.put,List.setIfInBounds_toArray,List.set_cons_zero,List.set_cons_succ];refine wpAnyP_takeA (i:=7) (v:=?_) rfl (by kernel_rfl) (by kernel_rfl) (by kernel_rfl) (by kernel_rfl) (by kernel_rfl) (by kernel_rfl) (fun _ _ _ h=>h) (Or.inl ⟨by rfl,?_⟩) (by assumption) ?_;rotate_left
     (focus (intro w0 hSw;(try dsimp only at hSw);go_simp <;> with_reducible rfl))
     simp only [List.getElem_toArray,List.getElem_cons_succ,List.getElem_cons_zero,Act.put,List.setIfInBounds_toArray,List.set_cons_zero,List.set_cons_succ];refine wpAnyP_ready (rs:=[8]) (by kernel_rfl) (by simp) ?_;refine AllReadyP.cons (o:=_) rfl (fun K hK=>?_) ?_;rotate_left;exact AllReadyP.nil;go_simp
     go_at_call 148
     refine (ptimes_c (L:=L) (kRnd R1.out) (kRnd R2.out) (by omega)).mono ?_;rintro e w6 ⟨s6,x6,n6,c6,f6,y6,m6,d6,g6,rfl,hb6,hq6⟩
     (try go_wp2_with fail)
     refine hK.out _ _ (fun h=>by cases h) (fun _=>?_);clear hK K;try simp only [Act.put,List.setIfInBounds_toArray,List.set_cons_zero,List.set_cons_succ]
     refine wpAnyP_ready (rs:=[9]) (by kernel_rfl) (by simp) ?_;refine AllReadyP.cons (o:=_) rfl (fun K hK=>?_) ?_;rotate_left;exact AllReadyP.nil;go_simp;refine hK.out _ _ (fun h=>by cases h) (fun _=>?_);clear hK K;try simp only [Act.put,List.setIfInBounds_toArray,List.set_cons_zero,List.set_cons_succ]
     refine wpAnyP_ready (rs:=[10]) (by kernel_rfl) (by simp) ?_;refine AllReadyP.cons (o:=_) rfl (fun K hK=>?_) ?_;rotate_left;exact AllReadyP.nil;obtain ⟨T,hrow,hT⟩:=(Gr.below HG3.out (Below.drew (Below.refl w5.heap.size w5))).below hb6;rw [take_map_len _ _ _ (by omega)] at hrow;refine step_append_one w6 rfl (.tmp 25) (.tmp 34) 29 rfl wI.heap.size 24 56 3 (.agg #[.bool false,.slice none 0 0,.slice none 0 0]) Tryz.underlying29 Tryz.infoRat rfl (by decide) nz3 u8 p _ rfl hrow #[.bool s6,.slice x6 n6 c6,.slice y6 m6 d6] rfl rfl (one3 _ _ _ _ _ _ _) (not3 _ _ _ _ _ _ _) (by omega) (by decide) ?hz ?_
     case hz=>exact (HB3.out.drew.trans (hb6.mono HB3.out.drew.size)).size
     intro g8 cap8 w8 hr8 hk8 hb8 hg8;have HB8:Hid (Below wI.heap.size wI w8):=hb8 wI (HB3.out.drew.trans (hb6.mono HB3.out.drew.size)) (Nat.le_refl _);have HG8:Hid (Gr (2*L+1) wI.heap.size w8 (.slice (some ⟨g8,0,none⟩) (p+1) cap8) ((v.ts.take (p+1)).map (tprod xs))):=by
      have hl:=take_map_len (tprod xs) v.ts p (by omega);have hp8:=gr_push (p:=(v.ts.take p).map (tprod xs)) hT (by rw [hl];exact hr8) hk8 hq6;rw [hl] at hp8;rw [take_map_succ (tprod xs) v.ts p _ HTV.out];have e9:tprod xs ((zn:Int),tq)=tq*r:=by
       show tq*xs.getD (zn:Int).toNat 0=tq*r;rw [Int.toNat_natCast,List.getD_eq_getElem?_getD,HRR.out];rfl
      rw [e9];exact hp8
     clear hr8 hk8 hb8 hg8 hrow hT hb6 hq6 HG3 HB3 R1 R2;refine hK.out _ _ (fun h=>by cases h) (fun _=>?_);clear hK K;simp only [List.getElem_toArray,List.getElem_cons_succ,List.getElem_cons_zero,Act.put,List.setIfInBounds_toArray,List.set_cons_zero,List.set_cons_succ];refine wpAnyP_skim (i:=11) (v:=?_) rfl (by kernel_rfl) (by kernel_rfl) (by kernel_rfl) (by kernel_rfl) (fun _ _ _ h=>h) (Or.inl ⟨by rfl,?_⟩) (fun h=>by cases h) ?_;rotate_left
     (focus (intro w0 hSw;go_simp <;> with_reducible rfl))
     simp only [List.getElem_toArray,List.getElem_cons_succ,List.getElem_cons_zero,Act.put,List.setIfInBounds_toArray,List.set_cons_zero,List.set_cons_succ];refine wpAnyP_done (by kernel_rfl) ?_ _;clear hHeld a0 a1 a2 a3 p0 p1 p2;go_wp2;go_roundw
     case rel=>exact ⟨p+1,by omega,by go_num,HB8.out,HG8.out⟩
     case measure=>simp [intOf];omega
    ·have e1:p=v.ts.length:=by omega
     have i4':¬(((p:Nat):Int)<((v.ts.length:Nat):Int)):=by omega
     obtain ⟨va,vc,hvs,hvc⟩:=HG2.out.slice;rw [take_map_len _ _ _ (by omega)] at hvs;have HG4:=HG2.out;rw [hvs] at HG4;replace HG4:=hid (show Rf (2*L+1) wr va (v.ts.map (tprod xs)) by have:=HG4.rf;rw [List.take_of_length_le (by omega)] at this;exact this);subst hvs;have HBq:=hid (HB1.out.trans (HB2.out.mono HB1.out.size));have HGq:=hid (HG1.out.below HB2.out)
     clear HG2 HB2 HB1 HG1 HTS HC2;go_wp2_with fail
     refine (pSum_c (L:=2*L+1) HG4.out (by rw [List.length_map]) (by omega) (by omega)).mono ?_;rintro e w6 ⟨s6,x6,n6,c6,f6,y6,m6,d6,g6,rfl,hb6,hq6⟩;obtain ⟨T,hrow,hT⟩:=HGq.out.below hb6;rw [take_map_len _ _ _ (by omega)] at hrow;have hsz:=(HBq.out.trans (hb6.mono HBq.out.size)).size;have HB6:=hid (HBq.out.trans (hb6.mono HBq.out.size));have HQ6:=hid (show Rn (KA L) w6 s6 x6 n6 c6 f6 y6 m6 d6 g6 (actQ xs v) from hq6.mono (by unfold KA;have:v.ts.length*(2*L+1+1)≤64*(2*L+1+1):=Nat.mul_le_mul_right _ (by omega);omega));clear hb6 hq6 HGq HG4 HBq;go_wp2_with (at_builtin;go_must (refine wpList_append_one w6 rfl (.tmp 37) (.tmp 40) 29 rfl w.heap.size 24 56 3 (.agg #[.bool false,.slice none 0 0,.slice none 0 0]) Tryz.underlying29 Tryz.infoRat rfl (by decide) nz3 u5 i _ rfl hrow #[.bool s6,.slice x6 n6 c6,.slice y6 m6 d6] rfl rfl (one3 _ _ _ _ _ _ _) (not3 _ _ _ _ _ _ _) ?p1 (by decide) hsz ?_))
     case p1=>omega
     intro g8 cap8 w8 hr8 hk8 hb8 hg8;have HB8:=hid (hb8 w HB6.out (Nat.le_refl _));have HG8:Hid (Gr (KA L) w.heap.size w8 (.slice (some ⟨g8,0,none⟩) (i+1) cap8) ((rs.take (i+1)).map (actQ xs))):=by
      have hl:=take_map_len (actQ xs) rs i (by omega);have hp8:=gr_push (p:=(rs.take i).map (actQ xs)) hT (by rw [hl];exact hr8) hk8 HQ6.out;rw [hl] at hp8;rw [take_map_succ (actQ xs) rs i _ HV.out];exact hp8
     clear hr8 hk8 hb8 hg8 hrow hT HQ6 HB6 hsz;go_wp2;go_roundw
     case rel=>exact ⟨i+1,by omega,by go_num,HB8.out,HG8.out⟩
     case measure=>simp [intOf];omega
  ·have e1:i=rs.length:=by omega
   have i4':¬(((i:Nat):Int)<((rs.length:Nat):Int)):=by omega
   obtain ⟨va,vc,hvs,hvc⟩:=HG.out.slice;rw [take_map_len _ _ _ (by omega)] at hvs hvc;have HG4:=HG.out;rw [hvs] at HG4;replace HG4:=hid (show Rf (KA L) wr va (rs.map (actQ xs)) by have:=HG4.rf;rw [List.take_of_length_le (by omega)] at this;exact this);subst hvs;have HE:=hid (show rs.length=i by omega);have HV4:=hid hvc;clear HG e1 hvc;go_wp2;go_ret;exact ⟨va,vc,by rw [HE.out];rfl,HB.out,by rw [HE.out];exact HV4.out,HG4.out⟩
theorem kLid {w B a0 a1 a2 a3 b0 b1 b2 b3} (h:Li2 w B a0 a1 a2 a3 b0 b1 b2 b3):Li2 w.drew B a0 a1 a2 a3 b0 b1 b2 b3:=⟨h.z,h.x0,h.x1,h.x2,h.x3,h.y0,h.y1,h.y2,h.y3⟩
set_option maxRecDepth 100000 in
set_option maxHeartbeats 4000000 in
theorem enumber_c {w:World} {s:Bool} {x:Option Addr} {n c:Nat} {y:Option Addr} {m d:Nat}:Calls Tryz.prog 115 #[.agg #[.bool s,.slice x n c,.slice y m d]] w fun e w'=>e=.returned (.agg #[.int .i64 0,.bool s,.slice x n c,.slice y m d])∧Below w.heap.size w w':=by
 have h1:=(bx3_at w (.bool s) (.slice x n c) (.slice y m d) 24).alloc (.cells #[.int .i64 0,.bool false,.slice none 0 0,.slice none 0 0] 42);have h2:=ob4_new (w.alloc (.cells #[.bool s,.slice x n c,.slice y m d] 24)) 42;rw [size_alloc1] at h2;have h3:=below_alloc (below_alloc (Below.refl w.heap.size w) (.cells #[.bool s,.slice x n c,.slice y m d] 24)) (.cells #[.int .i64 0,.bool false,.slice none 0 0,.slice none 0 0] 42);go_enter Tryz.func115,Tryz.ntmps115;go_upto_region 1 with fail
 generalize (w.alloc (.cells #[.bool s,.slice x n c,.slice y m d] 24)).alloc (.cells #[.int .i64 0,.bool false,.slice none 0 0,.slice none 0 0] 42)=w1 at *;have HW:=hid h3;obtain ⟨z,x0,x1,x2⟩:=h1;obtain ⟨hz,z0,z1,z2,z3,zf⟩:=h2;clear h3;go_wp2;exact bodyPost_ret (v:=.agg #[.int .i64 0,.bool s,.slice x n c,.slice y m d]) (by simp [results,Tryz.results115,go_sem,z0,z1,z2,z3]) rfl ⟨rfl,below_st4 HW.out (by omega)⟩
def kx (p:Bool):Int:=if p then 0 else 3
theorem ef0 (s:Bool) (f:Nat→Int) (n:Nat) (g:Nat→Int) (m:Nat):efB 0 s f n g m=rfB s f n g m:=by simp [efB]
theorem Rn.en0 {L w s x n c f y m d g q} (h:Rn L w s x n c f y m d g q):En L w 0 s x n c f y m d g q:=⟨h,.inl rfl⟩
def PScale (i:Int) (a r:Rat) (neg:Bool) (j:Int) (q:Rat):Prop:=j=(if neg then -i else i)∧q=a*r
def ks (p:Bool) (n2:Nat):Int:=if p then (if n2=0 then 4 else 0) else 3
set_option maxRecDepth 100000 in
set_option maxHeartbeats 4000000 in
theorem eCmp_l {w:World} {i1:Int} {s1:Bool} {x1:Option Addr} {n1 c1:Nat} {f1:Nat→Int} {y1:Option Addr} {m1 d1:Nat} {g1:Nat→Int} {i2:Int} {s2:Bool} {x2:Option Addr} {n2 c2:Nat} {f2:Nat→Int} {y2:Option Addr} {m2 d2:Nat} {g2:Nat→Int} {qa qb:Rat} {p1 p2:Bool} (h1:Rw w x1 n1 c1 f1 y1 m1 d1 g1) (h2:Rw w x2 n2 c2 f2 y2 m2 d2 g2) (hn1:n1≤4096) (hm1:m1≤4096) (hn2:n2≤4096) (hm2:m2≤4096) (hp1:efB i1 s1 f1 n1 g1 m1=p1) (hp2:efB i2 s2 f2 n2 g2 m2=p2) (hq1:p1=true→En 4096 w i1 s1 x1 n1 c1 f1 y1 m1 d1 g1 qa) (hq2:p2=true→En 4096 w i2 s2 x2 n2 c2 f2 y2 m2 d2 g2 qb) :
  Calls Tryz.prog 147 #[.agg #[.int .i64 i1,.bool s1,.slice x1 n1 c1,.slice y1 m1 d1],.agg #[.int .i64 i2,.bool s2,.slice x2 n2 c2,.slice y2 m2 d2]] w fun e w'=>∃r er,e=.returned (.tuple #[.int .i64 r,.int .i64 er])∧Below w.heap.size w w'∧Hid (OC (p1 && p2) i1 qa i2 qb r er):=by
 have HP1:=hid hp1;have HP2:=hid hp2
 have k1:=(bx4_at w (.int .i64 i1) (.bool s1) (.slice x1 n1 c1) (.slice y1 m1 d1) 42).alloc (.cells #[.int .i64 i2,.bool s2,.slice x2 n2 c2,.slice y2 m2 d2] 42);have k2:=bx4_at (w.alloc (.cells #[.int .i64 i1,.bool s1,.slice x1 n1 c1,.slice y1 m1 d1] 42)) (.int .i64 i2) (.bool s2) (.slice x2 n2 c2) (.slice y2 m2 d2) 42;rw [size_alloc1] at k2;have k3:=below_alloc (below_alloc (Below.refl w.heap.size w) (.cells #[.int .i64 i1,.bool s1,.slice x1 n1 c1,.slice y1 m1 d1] 42)) (.cells #[.int .i64 i2,.bool s2,.slice x2 n2 c2,.slice y2 m2 d2] 42);have HQ1:=hid (fun h=>(hq1 h).below k3);have HQ2:=hid (fun h=>(hq2 h).below k3);have HR1:=hid (h1.below k3);have HR2:=hid (h2.below k3)
 clear hp1 hp2 hq1 hq2 h1 h2;go_enter Tryz.func147,Tryz.ntmps147;go_upto_region 1 with fail
 generalize (w.alloc (.cells #[.int .i64 i1,.bool s1,.slice x1 n1 c1,.slice y1 m1 d1] 42)).alloc (.cells #[.int .i64 i2,.bool s2,.slice x2 n2 c2,.slice y2 m2 d2] 42)=w1 at *;have HW:=hid k3;have BA:=hid k1;have BB:=hid k2
 clear k1 k2 k3;obtain ⟨za,a0,a1,a2,a3⟩:=BA.out;obtain ⟨zb,b0,b1,b2,b3⟩:=BB.out;go_wp2_with fail
 have cf:=fun (t:TypeId)=>allForm2_c (li2_at w1 (.int .i64 i1) (.bool s1) (.slice x1 n1 c1) (.slice y1 m1 d1) (.int .i64 i2) (.bool s2) (.slice x2 n2 c2) (.slice y2 m2 d2) t) (HR1.out.alloc _) (HR2.out.alloc _) (by omega) (by omega) (by omega) (by omega)
 rw [HP1.out,HP2.out] at cf;refine (cf _).mono ?_;rintro e w2 ⟨rfl,hb⟩;have HB1:Hid (Below w1.heap.size w1 w2):=(below_alloc (Below.refl _ _) _).trans (hb.mono (by simp));have HB:=hid (HW.out.trans (HB1.out.mono HW.out.size));clear hb cf za a0 a1 a2 a3 zb b0 b1 b2 b3;obtain ⟨pp,hp⟩:∃pp,(p1 && p2)=pp:=⟨_,rfl⟩;have HPP:=hid hp;rw [hp];cases pp
 ·clear hp;go_wp2
  go_ret2
  exact ⟨0,3,rfl,HB.out,.inl ⟨HPP.out,rfl,rfl⟩⟩
 have hpp:p1=true∧p2=true:=by simpa using hp
 have E1:=hid ((HQ1.out hpp.1).below HB1.out);have E2:=hid ((HQ2.out hpp.2).below HB1.out)
 clear hp hpp;obtain ⟨za,a0,a1,a2,a3⟩:=BA.out.below HB1.out;obtain ⟨zb,b0,b1,b2,b3⟩:=BB.out.below HB1.out;by_cases hz:i1=0∧i2=0
 ·obtain ⟨rfl,rfl⟩:=hz;go_wp2_with fail
  refine (rCmp_n E1.out.rn E2.out.rn (by omega)).mono ?_;rintro e w3 ⟨r,rfl,hb,hr⟩;have HB3:=hid (HB.out.trans (hb.mono HB.out.size));have HRr:=hid hr
  clear hb hr;go_wp2
  go_ret2
  refine ⟨r,0,rfl,HB3.out,.inr ⟨HPP.out,rfl,?_⟩⟩;rcases HRr.out with ⟨j1,j2⟩ | ⟨j1,j2⟩ | ⟨j1,j2⟩
  ·exact .inl ⟨j1,.inr ⟨rfl,j2⟩⟩
  ·exact .inr (.inl ⟨j1,rfl,j2⟩)
  ·exact .inr (.inr ⟨j1,.inr ⟨rfl,j2⟩⟩)
 ·have hcase:(i1 != 0)=true∨(i1 != 0)=false∧(i2 != 0)=true:=by
   by_cases h:i1=0
   ·right;subst h;exact ⟨by simp,by simp;intro h;exact hz ⟨rfl,h⟩⟩
   ·left;simp;exact h
  have HEq:Hid (i1=i2→qa=qb):=by
   intro h;have j1:=E1.out.inf;have j2:=E2.out.inf
   rcases j1 with j1 | j1
   ·exact absurd ⟨j1,by omega⟩ hz
   ·rcases j2 with j2 | j2
    ·exact absurd ⟨by omega,j2⟩ hz
    ·rw [j1.2,j2.2]
  clear hz;rcases hcase with hc | ⟨hc,hc2⟩
  all_goals
   go_wp2_with fail
   refine compare_c.mono ?_;rintro e w3 ⟨r,rfl,rfl,hr⟩;have HRr:=hid hr;clear hr;go_wp2
   go_ret2
   refine ⟨r,0,rfl,HB.out,.inr ⟨HPP.out,rfl,?_⟩⟩;rcases HRr.out with ⟨j1,j2⟩ | ⟨j1,j2⟩ | ⟨j1,j2⟩
   ·exact .inl ⟨j1,.inl j2⟩
   ·exact .inr (.inl ⟨j1,j2,HEq.out j2⟩)
   ·exact .inr (.inr ⟨j1,.inl j2⟩)
def kpsB (q:Rat) (li:Int) (lq:Rat) (hi:Int) (hq:Rat):Bool:=decide ((li<0∨li=0∧lq≤q)∧(0<hi∨hi=0∧q≤hq))
theorem EOrd.geq {c:Int} {q:Rat} {i:Int} {b:Rat} (h:EOrd c 0 q i b):0≤c ↔ (i<0∨i=0∧b≤q):=by
 rcases h with ⟨rfl,h⟩ | ⟨rfl,h,h'⟩ | ⟨rfl,h⟩
 ·constructor
  ·intro h;omega
  ·rintro (h2 | ⟨h2,h3⟩)
   ·rcases h with h | ⟨h,_⟩ <;> omega
   ·rcases h with h | ⟨_,h⟩
    ·omega
    ·exact absurd h (Rat.not_lt.2 h3)
 ·exact ⟨fun _=>.inr ⟨h.symm,by rw [h'];exact Rat.le_refl⟩,fun _=>by omega⟩
 ·exact ⟨fun _=>by rcases h with h | ⟨h,h2⟩;exact .inl h;exact .inr ⟨h.symm,Rat.le_of_lt h2⟩,fun _=>by omega⟩
theorem EOrd.leq {c:Int} {q:Rat} {i:Int} {b:Rat} (h:EOrd c 0 q i b):c≤0 ↔ (0<i∨i=0∧q≤b):=by
 rcases h with ⟨rfl,h⟩ | ⟨rfl,h,h'⟩ | ⟨rfl,h⟩
 ·exact ⟨fun _=>by rcases h with h | ⟨h,h2⟩;exact .inl h;exact .inr ⟨h.symm,Rat.le_of_lt h2⟩,fun _=>by omega⟩
 ·exact ⟨fun _=>.inr ⟨h.symm,by rw [h'];exact Rat.le_refl⟩,fun _=>by omega⟩
 ·constructor
  ·intro h;omega
  ·rintro (h2 | ⟨h2,h3⟩)
   ·rcases h with h | ⟨h,_⟩ <;> omega
   ·rcases h with h | ⟨_,h⟩
    ·omega
    ·exact absurd h (Rat.not_lt.2 h3)
set_option maxRecDepth 100000 in
set_option maxHeartbeats 4000000 in
theorem keeps_c {w:World} {s0:Bool} {x0:Option Addr} {n0 c0:Nat} {f0:Nat→Int} {y0:Option Addr} {m0 d0:Nat} {g0:Nat→Int} {q:Rat} {i1:Int} {s1:Bool} {x1:Option Addr} {n1 c1:Nat} {f1:Nat→Int} {y1:Option Addr} {m1 d1:Nat} {g1:Nat→Int} {q1:Rat} {i2:Int} {s2:Bool} {x2:Option Addr} {n2 c2:Nat} {f2:Nat→Int} {y2:Option Addr} {m2 d2:Nat} {g2:Nat→Int} {q2:Rat} (h0:Rn 4096 w s0 x0 n0 c0 f0 y0 m0 d0 g0 q) (h1:En 4096 w i1 s1 x1 n1 c1 f1 y1 m1 d1 g1 q1) (h2:En 4096 w i2 s2 x2 n2 c2 f2 y2 m2 d2 g2 q2) :
  Calls Tryz.prog 121 #[.agg #[.bool s0,.slice x0 n0 c0,.slice y0 m0 d0],.agg #[.int .i64 i1,.bool s1,.slice x1 n1 c1,.slice y1 m1 d1],.agg #[.int .i64 i2,.bool s2,.slice x2 n2 c2,.slice y2 m2 d2]] w fun e w'=>e=.returned (.bool (kpsB q i1 q1 i2 q2))∧Below w.heap.size w w':=by
 have k3:=below_alloc (below_alloc (below_alloc (below_alloc (Below.refl w.heap.size w) (.cells #[.bool s0,.slice x0 n0 c0,.slice y0 m0 d0] 24)) (.cells #[.int .i64 i1,.bool s1,.slice x1 n1 c1,.slice y1 m1 d1] 42)) (.cells #[.int .i64 i2,.bool s2,.slice x2 n2 c2,.slice y2 m2 d2] 42)) (.cells #[.int .i64 0,.bool s0,.slice x0 n0 c0,.slice y0 m0 d0] 42);have b1:Bx4 ((((w.alloc (.cells #[.bool s0,.slice x0 n0 c0,.slice y0 m0 d0] 24)).alloc (.cells #[.int .i64 i1,.bool s1,.slice x1 n1 c1,.slice y1 m1 d1] 42)).alloc (.cells #[.int .i64 i2,.bool s2,.slice x2 n2 c2,.slice y2 m2 d2] 42)).alloc (.cells #[.int .i64 0,.bool s0,.slice x0 n0 c0,.slice y0 m0 d0] 42)) (w.heap.size+1) (.int .i64 i1) (.bool s1) (.slice x1 n1 c1) (.slice y1 m1 d1):=by
  have:=((bx4_at (w.alloc (.cells #[.bool s0,.slice x0 n0 c0,.slice y0 m0 d0] 24)) (.int .i64 i1) (.bool s1) (.slice x1 n1 c1) (.slice y1 m1 d1) 42).alloc (.cells #[.int .i64 i2,.bool s2,.slice x2 n2 c2,.slice y2 m2 d2] 42)).alloc (.cells #[.int .i64 0,.bool s0,.slice x0 n0 c0,.slice y0 m0 d0] 42);rw [size_alloc1] at this;exact this
 have b2:Bx4 ((((w.alloc (.cells #[.bool s0,.slice x0 n0 c0,.slice y0 m0 d0] 24)).alloc (.cells #[.int .i64 i1,.bool s1,.slice x1 n1 c1,.slice y1 m1 d1] 42)).alloc (.cells #[.int .i64 i2,.bool s2,.slice x2 n2 c2,.slice y2 m2 d2] 42)).alloc (.cells #[.int .i64 0,.bool s0,.slice x0 n0 c0,.slice y0 m0 d0] 42)) (w.heap.size+1+1) (.int .i64 i2) (.bool s2) (.slice x2 n2 c2) (.slice y2 m2 d2):=by
  have:=(bx4_at ((w.alloc (.cells #[.bool s0,.slice x0 n0 c0,.slice y0 m0 d0] 24)).alloc (.cells #[.int .i64 i1,.bool s1,.slice x1 n1 c1,.slice y1 m1 d1] 42)) (.int .i64 i2) (.bool s2) (.slice x2 n2 c2) (.slice y2 m2 d2) 42).alloc (.cells #[.int .i64 0,.bool s0,.slice x0 n0 c0,.slice y0 m0 d0] 42);rw [size_alloc1,size_alloc1] at this;exact this
 have b3:Bx4 ((((w.alloc (.cells #[.bool s0,.slice x0 n0 c0,.slice y0 m0 d0] 24)).alloc (.cells #[.int .i64 i1,.bool s1,.slice x1 n1 c1,.slice y1 m1 d1] 42)).alloc (.cells #[.int .i64 i2,.bool s2,.slice x2 n2 c2,.slice y2 m2 d2] 42)).alloc (.cells #[.int .i64 0,.bool s0,.slice x0 n0 c0,.slice y0 m0 d0] 42)) (w.heap.size+1+1+1) (.int .i64 0) (.bool s0) (.slice x0 n0 c0) (.slice y0 m0 d0):=by
  have:=bx4_at (((w.alloc (.cells #[.bool s0,.slice x0 n0 c0,.slice y0 m0 d0] 24)).alloc (.cells #[.int .i64 i1,.bool s1,.slice x1 n1 c1,.slice y1 m1 d1] 42)).alloc (.cells #[.int .i64 i2,.bool s2,.slice x2 n2 c2,.slice y2 m2 d2] 42)) (.int .i64 0) (.bool s0) (.slice x0 n0 c0) (.slice y0 m0 d0) 42;rw [size_alloc1,size_alloc1,size_alloc1] at this;exact this
 have E0:=hid ((Rn.en0 h0).below k3);have E1:=hid (h1.below k3);have E2:=hid (h2.below k3);have HB:=hid k3;have B1:=hid b1;have B2:=hid b2;have B3:=hid b3
 clear h0 h1 h2 k3 b1 b2 b3;go_enter Tryz.func121,Tryz.ntmps121;go_upto_region 2 with fail
 generalize ((((w.alloc (.cells #[.bool s0,.slice x0 n0 c0,.slice y0 m0 d0] 24)).alloc (.cells #[.int .i64 i1,.bool s1,.slice x1 n1 c1,.slice y1 m1 d1] 42)).alloc (.cells #[.int .i64 i2,.bool s2,.slice x2 n2 c2,.slice y2 m2 d2] 42)).alloc (.cells #[.int .i64 0,.bool s0,.slice x0 n0 c0,.slice y0 m0 d0] 42))=w1 at *;obtain ⟨za,a0,a1,a2,a3⟩:=B3.out;obtain ⟨zb,l0,l1,l2,l3⟩:=B1.out;go_wp2_with fail
 refine (eCmp_l E0.out.rn.rw E1.out.rn.rw E0.out.rn.ln E0.out.rn.ld E1.out.rn.ln E1.out.rn.ld E0.out.ef E1.out.ef (fun _=>E0.out) (fun _=>E1.out)).mono ?_;rintro e w2 ⟨r1,er1,rfl,hb,HO1⟩;replace HB:=hid (HB.out.trans (hb.mono HB.out.size));replace E0:=hid (E0.out.below hb);replace E2:=hid (E2.out.below hb);replace B2:=hid (B2.out.below hb);replace B3:=hid (B3.out.below hb)
 clear hb za a0 a1 a2 a3 zb l0 l1 l2 l3 E1 B1;obtain ⟨za,a0,a1,a2,a3⟩:=B3.out;obtain ⟨zb,l0,l1,l2,l3⟩:=B2.out;go_wp2_with fail
 refine (eCmp_l E0.out.rn.rw E2.out.rn.rw E0.out.rn.ln E0.out.rn.ld E2.out.rn.ln E2.out.rn.ld E0.out.ef E2.out.ef (fun _=>E0.out) (fun _=>E2.out)).mono ?_;rintro e w3 ⟨r2,er2,rfl,hb,HO2⟩;replace HB:=hid (HB.out.trans (hb.mono HB.out.size));clear hb za a0 a1 a2 a3 zb l0 l1 l2 l3 E0 E2 B2 B3;have o1:EOrd r1 0 q i1 q1:=by rcases HO1.out with ⟨h,_⟩ | ⟨_,_,h⟩;cases h;exact h
 have o2:EOrd r2 0 q i2 q2:=by rcases HO2.out with ⟨h,_⟩ | ⟨_,_,h⟩;cases h;exact h
 have HK:Hid (kpsB q i1 q1 i2 q2=(decide (0≤r1) && decide (r2≤0))):=by
  show _=_;unfold kpsB;rw [←Bool.decide_and];exact decide_eq_decide.2 (and_congr o1.geq.symm o2.leq.symm)
 clear o1 o2 HO1 HO2;by_cases c1:0≤r1
 ·have d1:decide (0≤r1)=true:=decide_eq_true c1;have HD:=hid d1;by_cases c2:r2≤0
  ·have HD2:=hid (decide_eq_true c2);go_wp2;go_ret;exact ⟨by rw [HK.out,HD.out,HD2.out];rfl,HB.out⟩
  ·have HD2:=hid (decide_eq_false c2);go_wp2;go_ret;exact ⟨by rw [HK.out,HD.out,HD2.out];rfl,HB.out⟩
 ·have d1:decide (0≤r1)=false:=decide_eq_false c1;have HD:=hid d1;go_wp2;go_ret;exact ⟨by rw [HK.out,HD.out];rfl,HB.out⟩
theorem Tryz.infoTq:(Tryz.prog.info? 133).map (fun i=>(i.zero,i.size,i.bytes))=some (some (.agg #[.int .i64 0,.bool false,.slice none 0 0,.slice none 0 0]),4,64):=by kernel_rfl
theorem Dn.kp {w w' x n d V} (h:Dn w x n d V) (hk:Kp w w'):Dn w' x n d V:=⟨h.rd.kp hk,h.dg,h.fm,h.val⟩
theorem Qn.kp {w w' s x n d y m g q} (h:Qn w s x n d y m g q) (hk:Kp w w'):Qn w' s x n d y m g q:=⟨⟨h.num.dn.kp hk,h.num.sgn,h.num.pos⟩,h.den.kp hk⟩
def QnT (K:Nat) (w:World) (t:Nm) (q:Rat):Prop:=t.n≤K∧t.m≤K∧Qn w t.s t.x t.n t.f t.y t.m t.g q
theorem QnT.below {K w w' t q} (h:QnT K w t q) (hb:Below w.heap.size w w'):QnT K w' t q:=⟨h.1,h.2.1,h.2.2.below hb⟩
theorem QnT.kp {K w w' t q} (h:QnT K w t q) (hk:Kp w w'):QnT K w' t q:=⟨h.1,h.2.1,h.2.2.kp hk⟩
def Tq (K:Nat) (w:World) (ao:Option Addr) (v:List (Int × Rat)):Prop :=
 ∀(j:Nat) (a:Int) (q:Rat),v[j]?=some (a,q)→∃b o,∃t:Nm,ao=some ⟨b,o,none⟩∧C4 w b (o+j*4) (.int .i64 a) (.bool t.s) (.slice t.x t.n t.c) (.slice t.y t.m t.d)∧QnT K w t q
theorem Tq.below {K w w' ao v} (h:Tq K w ao v) (hb:Below w.heap.size w w'):Tq K w' ao v:=fun j a q hj=>by
 obtain ⟨b,o,t,e,h1,h2⟩:=h j a q hj;exact ⟨b,o,t,e,h1.below hb,h2.below hb⟩
theorem Tryz.infoQ:(Tryz.prog.info? 89).map (fun i=>(i.zero,i.size,i.bytes))=some (some (.agg #[.bool false,.slice none 0 0,.slice none 0 0]),3,56):=by kernel_rfl
theorem afr_sn {X X':Nat→Nm}:∀{r i:Nat},(∀j,i≤j→j<i+r→Sn (X j) (X' j))→afr X' r i=afr X r i:=by
 intro r
 induction r with
 | zero=>intro i _;rfl
 | succ r ih =>
  intro i h;simp only [afr];rw [ih (fun j a b=>h j (by omega) (by omega)),(h i (by omega) (by omega)).nfB]
def TwsAns (w w':World) (e:Ending) (k:Nat) (X:Nat→Nm):Prop:=∃aw cw X',e=.returned (.slice aw k cw)∧Below w.heap.size w w'∧(k≤cw∧cw≤9223372036854775807)∧Hid (Rl w' aw k X'∧∀j,j<k→Sn (X j) (X' j))
def Rqs (K:Nat) (w:World) (ao:Option Addr) (p:List Rat):Prop :=
 ∀(j:Nat) (q:Rat),p[j]?=some q→∃b o,∃t:Nm,ao=some ⟨b,o,none⟩∧C3 w b (o+j*3) (.bool t.s) (.slice t.x t.n t.c) (.slice t.y t.m t.d)∧QnT K w t q
theorem Rqs.below {K w w' ao p} (h:Rqs K w ao p) (hb:Below w.heap.size w w'):Rqs K w' ao p:=fun j q hj=>by
 obtain ⟨b,o,t,e,h1,h2⟩:=h j q hj;exact ⟨b,o,t,e,h1.below hb,h2.below hb⟩
def FrsAns (K:Nat) (w w':World) (e:Ending) (k:Nat) (p:List Rat):Prop:=∃aw cw,e=.returned (.slice aw k cw)∧Below w.heap.size w w'∧(k≤cw∧cw≤9223372036854775807)∧Hid (Rqs K w' aw p)
set_option maxRecDepth 100000 in
set_option maxHeartbeats 4000000 in
theorem forms_c {w:World} {ao:Option Addr} {k cap:Nat} {X:Nat→Nm} (h:Rl w ao k X) (hk:k≤10000) (hl:∀j,j<k→(X j).n≤1000∧(X j).m≤1000) :
  Calls Tryz.prog 70 #[.slice ao k cap] w fun e w'=>e=.returned (.bool (afB k X))∧Below w.heap.size w w':=by
 have H:=hid h;clear h;go_enter Tryz.func70,Tryz.ntmps70;go_wp2_with fail
 go_loopw [7] (fun t wr=>∃(i:Nat),i≤k∧t=.int .i64 i∧Hid (Below w.heap.size w wr)∧Hid (afB k X=afr X (k-i) i)) (fun t _=>k-(intOf t).toNat)
 case atStart=>exact ⟨0,by omega,rfl,Below.refl _ _,rfl⟩
 case round =>
  obtain ⟨i,hi,rfl,HB,HT⟩:=hrel;by_cases hlt:i<k
  ·obtain ⟨b,o,rfl,hc,hn,hn1,hn2⟩:=(H.out.below HB.out) i hlt;obtain ⟨r,hr⟩:∃r,k-i=r+1:=⟨k-i-1,by omega⟩;have hT:afB k X=(nfB (X i) && afr X r (i+1)):=by rw [HT.out,hr];rfl
   have hr2:k-(i+1)=r:=by omega
   obtain ⟨⟨s,x,n,c,f,y,m,d,g⟩,hTi⟩:∃t,X i=t:=⟨_,rfl⟩;rw [hTi] at hc hn hn1 hn2 hT;obtain ⟨x0,x1,x2⟩:=hc;replace x0:wr.cell? ⟨b,o+i*3,none⟩=some (.bool s):=x0;replace x1:wr.cell? ⟨b,o+i*3+1,none⟩=some (.slice x n c):=x1;replace x2:wr.cell? ⟨b,o+i*3+2,none⟩=some (.slice y m d):=x2;replace hn:Rw wr x n c f y m d g:=hn;replace hn1:n≤65536:=hn1;replace hn2:m≤65536:=hn2;have hblk:Below wr.heap.size wr (wr.alloc (.cells #[.bool s,.slice x n c,.slice y m d] 24)):=below_alloc (Below.refl _ _) _;obtain ⟨hl1,hl2⟩:=hl i hlt;rw [hTi] at hl1 hl2;have CF:=hid (qForm_c (s:=s) (hn.below hblk) hl1 hl2);have HTi:=hid hT;have HR2:=hid hr2
   have i1:((i:Nat):Int)<((k:Nat):Int):=by omega
   clear hT hr2 hTi hr hn hblk hl1 hl2;cases hf:rfB s f n g m
   ·have CF2:=CF;rw [hf] at CF2;have HNF:Hid (nfB ⟨s,x,n,c,f,y,m,d,g⟩=false):=hf;clear CF hf;go_wp2_with fail
    refine CF2.out.mono ?_;rintro e w1 ⟨rfl,hb1⟩;obtain ⟨_,_,_,_,hb2⟩:=box3 hb1;go_wp2;go_ret;refine ⟨?_,HB.out.trans (hb2.mono HB.out.size)⟩;rw [HTi.out,HNF.out];rfl
   ·have CF2:=CF;rw [hf] at CF2;have HNF:Hid (nfB ⟨s,x,n,c,f,y,m,d,g⟩=true):=hf;clear CF hf;go_wp2_with fail
    refine CF2.out.mono ?_;rintro e w1 ⟨rfl,hb1⟩;obtain ⟨_,_,_,_,hb2⟩:=box3 hb1;have HB2:=hid (HB.out.trans (hb2.mono HB.out.size));clear hb1 hb2;go_wp2;go_roundw
    case rel =>
     refine ⟨i+1,by omega,by go_num,HB2.out,?_⟩;show _=_;rw [HTi.out,HNF.out,HR2.out];rfl
    case measure=>simp [intOf];omega
  ·have e1:i=k:=by omega
   have HTe:Hid (afB k X=true):=by
    show _=_;rw [HT.out,e1,Nat.sub_self];rfl
   have i2:¬(((i:Nat):Int)<((k:Nat):Int)):=by omega
   clear e1 HT;go_wp2;go_ret;refine ⟨?_,HB.out⟩;rw [HTe.out];rfl
set_option maxRecDepth 100000 in
set_option maxHeartbeats 4000000 in
theorem twins_c {w:World} {ao:Option Addr} {k cap:Nat} {X:Nat→Nm} (h:Rl w ao k X) (hk:k≤10000) (hl:∀j,j<k→(X j).n≤1000∧(X j).m≤1000) :
  Calls Tryz.prog 10 #[.slice ao k cap] w fun e w'=>TwsAns w w' e k X:=by
 have H:=hid h;clear h;go_enter Tryz.func10,Tryz.ntmps10;go_wp2_with fail
 go_loopw [3,8] (fun ov t wr=>∃(i:Nat) (T':Nat→Nm),i≤k∧t=.int .i64 i∧Hid (Below w.heap.size w wr)∧Hid (RowG 24 3 w.heap.size wr ov i (rcells (rls i T')))∧Hid (∀j,j<i→Sn (X j) (T' j)∧Rw wr (T' j).x (T' j).n (T' j).c (T' j).f (T' j).y (T' j).m (T' j).d (T' j).g)) (fun _ t _=>k-(intOf t).toNat)
 case atStart=>exact ⟨0,X,by omega,rfl,Below.refl _ _,rowG_nil _ _ _ _,fun j hj=>by omega⟩
 case round =>
  obtain ⟨i,T',hi,rfl,HB,HRow,HT⟩:=hrel;by_cases hlt:i<k
  ·obtain ⟨b,o,hao,hc,hn,hn1,hn2⟩:=(H.out.below HB.out) i hlt;subst hao;obtain ⟨⟨s,x,n,c,f,y,m,d,g⟩,hTi⟩:∃t,X i=t:=⟨_,rfl⟩;rw [hTi] at hc hn;obtain ⟨x0,x1,x2⟩:=hc;replace x0:wr.cell? ⟨b,o+i*3,none⟩=some (.bool s):=x0;replace x1:wr.cell? ⟨b,o+i*3+1,none⟩=some (.slice x n c):=x1;replace x2:wr.cell? ⟨b,o+i*3+2,none⟩=some (.slice y m d):=x2;have i1:((i:Nat):Int)<((k:Nat):Int):=by omega
   obtain ⟨hn10,hm10⟩:=hl i hlt;rw [hTi] at hn10 hm10;replace hn:Rw wr x n c f y m d g:=hn;have hb5:=below_alloc (Below.refl wr.heap.size wr) (.cells #[.bool s,.slice x n c,.slice y m d] 24);have HN:=hid (hn.below hb5);have HTi:=hid hTi;have HRow5:=hid (HRow.out.below hb5);have HB5:=hid (HB.out.trans (hb5.mono HB.out.size))
   have HT5:Hid (∀j,j<i→Sn (X j) (T' j)∧Rw (wr.alloc (.cells #[.bool s,.slice x n c,.slice y m d] 24)) (T' j).x (T' j).n (T' j).c (T' j).f (T' j).y (T' j).m (T' j).d (T' j).g):=fun j hj=>⟨(HT.out j hj).1,(HT.out j hj).2.below hb5⟩
   clear hn hTi hb5 hn1 hn2;go_wp2_with fail
   clear x0 x1 x2 HB HRow HT;generalize wr.alloc (.cells #[.bool s,.slice x n c,.slice y m d] 24)=w5 at *;refine (qTwin_c (s:=s) HN.out (Nat.le_trans hn10 (by decide)) (Nat.le_trans hm10 (by decide))).mono ?_;rintro e w6 ⟨z6,c6,z7,c7,rfl,hb6,HQ⟩;have HB6:=hid (HB5.out.trans (hb6.mono HB5.out.size));have HRow6:=hid (HRow5.out.below hb6)
   have HT6:Hid (∀j,j<i→Sn (X j) (T' j)∧Rw w6 (T' j).x (T' j).n (T' j).c (T' j).f (T' j).y (T' j).m (T' j).d (T' j).g):=fun j hj=>⟨(HT5.out j hj).1,(HT5.out j hj).2.below hb6⟩
   have hsz:=HB6.out.size;clear hb6 HB5 HRow5 HT5 HN;go_wp2_with (at_builtin;go_must (refine wpList_append_one w6 rfl (.tmp 12) (.tmp 15) 29 rfl w.heap.size 24 56 3 (.agg #[.bool false,.slice none 0 0,.slice none 0 0]) Tryz.underlying29 Tryz.infoRat rfl (by decide) nz3 u3 i (rcells (rls i T')) rfl HRow6.out #[.bool s,.slice z6 n c6,.slice z7 m c7] rfl rfl (one3 _ _ _ _ _ _ _) (not3 _ _ _ _ _ _ _) ?p1 (by decide) hsz ?_))
   case p1=>omega
   intro g8 cap8 w8 hr8 hk8 hb8 hg8;have HB8:=hid (hb8 w HB6.out (Nat.le_refl _));have HR8:Hid (RowG 24 3 w.heap.size w8 (.slice (some ⟨g8,0,none⟩) (i+1) cap8) (i+1) (rcells (rls (i+1) (putN T' i ⟨s,z6,n,c6,f,z7,m,c7,g⟩)))):=by
    show RowG _ _ _ _ _ _ _;rw [rls_put];exact hr8
   have HT8:Hid (∀j,j<i+1→Sn (X j) (putN T' i ⟨s,z6,n,c6,f,z7,m,c7,g⟩ j)∧Rw w8 (putN T' i ⟨s,z6,n,c6,f,z7,m,c7,g⟩ j).x (putN T' i ⟨s,z6,n,c6,f,z7,m,c7,g⟩ j).n (putN T' i ⟨s,z6,n,c6,f,z7,m,c7,g⟩ j).c (putN T' i ⟨s,z6,n,c6,f,z7,m,c7,g⟩ j).f (putN T' i ⟨s,z6,n,c6,f,z7,m,c7,g⟩ j).y (putN T' i ⟨s,z6,n,c6,f,z7,m,c7,g⟩ j).m (putN T' i ⟨s,z6,n,c6,f,z7,m,c7,g⟩ j).d (putN T' i ⟨s,z6,n,c6,f,z7,m,c7,g⟩ j).g):=fun j hj=>by
    by_cases e:j=i
    ·subst e;rw [putN_at];rw [HTi.out];exact ⟨⟨rfl,rfl,rfl,rfl,rfl⟩,Rw.kp HQ.out hk8⟩
    ·rw [putN_ne e];exact ⟨(HT6.out j (by omega)).1,Rw.kp (HT6.out j (by omega)).2 hk8⟩
   clear hr8 hk8 hb8 hg8 HRow6 HT6 HB6 HQ hsz;go_wp2;go_roundw
   case rel=>exact ⟨i+1,_,by omega,by go_num,HB8.out,HR8.out,HT8.out⟩
   case measure=>simp [intOf];omega
  ·have e1:i=k:=by omega
   have i1:¬(((i:Nat):Int)<((k:Nat):Int)):=by omega
   rw [e1] at HRow HT;obtain ⟨aw,cw,rfl⟩:=HRow.out.slice;have hcw:k≤cw∧cw≤9223372036854775807:=by
    rcases HRow.out.2 with ⟨hv,h0⟩ | ⟨_,_,_,hv,_,_,h5,h6,_⟩
    ·cases hv;omega
    ·cases hv;unfold maxLen at h6;omega
   clear e1;go_wp2;go_ret;exact ⟨aw,cw,T',rfl,HB.out,hcw,(fun j hj=>by obtain ⟨b,hb,h4⟩:=rowg_c3 HRow.out hj;obtain ⟨⟨_,e2,_,e4,_⟩,h6⟩:=HT.out j hj;exact ⟨b,0,hb,h4,h6,by rw [e2];exact Nat.le_trans (hl j hj).1 (by decide),by rw [e4];exact Nat.le_trans (hl j hj).2 (by decide)⟩),fun j hj=>(HT.out j hj).1⟩
set_option maxRecDepth 100000 in
set_option maxHeartbeats 4000000 in
theorem froms_c {w:World} {L:Nat} {ao:Option Addr} {k cap:Nat} {X:Nat→Nm} {p:List Rat} (h:Rl w ao k X) (hk:k≤10000) (hL:L≤16000) (hlp:p.length=k) (hq:∀j,j<k→∃q,p[j]?=some q∧Rn L w (X j).s (X j).x (X j).n (X j).c (X j).f (X j).y (X j).m (X j).d (X j).g q) :
  Calls Tryz.prog 40 #[.slice ao k cap] w fun e w'=>FrsAns (2*L) w w' e k p:=by
 have H:=hid h;clear h;go_enter Tryz.func40,Tryz.ntmps40;go_wp2_with fail
 go_loopw [3,8] (fun ov t wr=>∃(i:Nat) (T':Nat→Nm),i≤k∧t=.int .i64 i∧Hid (Below w.heap.size w wr)∧Hid (RowG 89 3 w.heap.size wr ov i (rcells (rls i T')))∧Hid (∀j,j<i→∃q,p[j]?=some q∧QnT (2*L) wr (T' j) q)) (fun _ t _=>k-(intOf t).toNat)
 case atStart=>exact ⟨0,X,by omega,rfl,Below.refl _ _,rowG_nil _ _ _ _,fun j hj=>by omega⟩
 case round =>
  obtain ⟨i,T',hi,rfl,HB,HRow,HT⟩:=hrel;by_cases hlt:i<k
  ·obtain ⟨b,o,hao,hc,hn,hn1,hn2⟩:=(H.out.below HB.out) i hlt;subst hao;obtain ⟨⟨s,x,n,c,f,y,m,d,g⟩,hTi⟩:∃t,X i=t:=⟨_,rfl⟩;rw [hTi] at hc hn;obtain ⟨x0,x1,x2⟩:=hc;replace x0:wr.cell? ⟨b,o+i*3,none⟩=some (.bool s):=x0;replace x1:wr.cell? ⟨b,o+i*3+1,none⟩=some (.slice x n c):=x1;replace x2:wr.cell? ⟨b,o+i*3+2,none⟩=some (.slice y m d):=x2;have i1:((i:Nat):Int)<((k:Nat):Int):=by omega
   obtain ⟨q,hvq,hrn⟩:=hq i hlt;rw [hTi] at hrn;replace hn:Rn L wr s x n c f y m d g q:=hrn.below HB.out;have HVq:=hid hvq;have hb5:=below_alloc (Below.refl wr.heap.size wr) (.cells #[.bool s,.slice x n c,.slice y m d] 24);have HN:=hid (hn.below hb5);have HTi:=hid hTi;have HRow5:=hid (HRow.out.below hb5);have HB5:=hid (HB.out.trans (hb5.mono HB.out.size))
   have HT5:Hid (∀j,j<i→∃q,p[j]?=some q∧QnT (2*L) (wr.alloc (.cells #[.bool s,.slice x n c,.slice y m d] 24)) (T' j) q):=fun j hj=>by obtain ⟨q,h1,h2⟩:=HT.out j hj;exact ⟨q,h1,h2.below hb5⟩
   clear hn hTi hb5 hn1 hn2;go_wp2_with fail
   clear x0 x1 x2 HB HRow HT;generalize wr.alloc (.cells #[.bool s,.slice x n c,.slice y m d] 24)=w5 at *;refine ((qFrom_c HN.out (by omega)).mono (R':=fun e w'=>∃s6 x6 n6 c6 d6 y6 m6 e6 g6,e=.returned (.agg #[.bool s6,.slice x6 n6 c6,.slice y6 m6 e6])∧Below w5.heap.size w5 w'∧Hid (n6≤2*L∧m6≤2*L∧Qn w' s6 x6 n6 d6 y6 m6 g6 q)) (fun _ _ ⟨s,x,n,c,d,y,m,c',g,h1,h2,h3,h4,h5⟩=>⟨s,x,n,c,d,y,m,c',g,h1,h2,h3,h4,h5⟩)).mono ?_;rintro e w6 ⟨s6,x6,n6,c6,d6,y6,m6,e6,g6,rfl,hb6,HQ⟩;have HB6:=hid (HB5.out.trans (hb6.mono HB5.out.size));have HRow6:=hid (HRow5.out.below hb6)
   have HT6:Hid (∀j,j<i→∃q,p[j]?=some q∧QnT (2*L) w6 (T' j) q):=fun j hj=>by obtain ⟨q,h1,h2⟩:=HT5.out j hj;exact ⟨q,h1,h2.below hb6⟩
   have hsz:=HB6.out.size;clear hb6 HB5 HRow5 HT5 HN;go_wp2_with (at_builtin;go_must (refine wpList_append_one w6 rfl (.tmp 12) (.tmp 15) 84 rfl w.heap.size 89 56 3 (.agg #[.bool false,.slice none 0 0,.slice none 0 0]) Tryz.underlying84 Tryz.infoQ rfl (by decide) nz3 u3 i (rcells (rls i T')) rfl HRow6.out #[.bool s6,.slice x6 n6 c6,.slice y6 m6 e6] rfl rfl (one3 _ _ _ _ _ _ _) (not3 _ _ _ _ _ _ _) ?p1 (by decide) hsz ?_))
   case p1=>omega
   intro g8 cap8 w8 hr8 hk8 hb8 hg8;have HB8:=hid (hb8 w HB6.out (Nat.le_refl _));have HR8:Hid (RowG 89 3 w.heap.size w8 (.slice (some ⟨g8,0,none⟩) (i+1) cap8) (i+1) (rcells (rls (i+1) (putN T' i ⟨s6,x6,n6,c6,d6,y6,m6,e6,g6⟩)))):=by
    show RowG _ _ _ _ _ _ _;rw [rls_put];exact hr8
   have HT8:Hid (∀j,j<i+1→∃q,p[j]?=some q∧QnT (2*L) w8 (putN T' i ⟨s6,x6,n6,c6,d6,y6,m6,e6,g6⟩ j) q):=fun j hj=>by
    by_cases e:j=i
    ·subst e;rw [putN_at];exact ⟨q,HVq.out,QnT.kp (t:=⟨s6,x6,n6,c6,d6,y6,m6,e6,g6⟩) HQ.out hk8⟩
    ·rw [putN_ne e];obtain ⟨q,h1,h2⟩:=HT6.out j (by omega);exact ⟨q,h1,h2.kp hk8⟩
   clear hr8 hk8 hb8 hg8 HRow6 HT6 HB6 HQ hsz;go_wp2;go_roundw
   case rel=>exact ⟨i+1,_,by omega,by go_num,HB8.out,HR8.out,HT8.out⟩
   case measure=>simp [intOf];omega
  ·have e1:i=k:=by omega
   have i1:¬(((i:Nat):Int)<((k:Nat):Int)):=by omega
   rw [e1] at HRow HT;obtain ⟨aw,cw,rfl⟩:=HRow.out.slice;have hcw:k≤cw∧cw≤9223372036854775807:=by
    rcases HRow.out.2 with ⟨hv,h0⟩ | ⟨_,_,_,hv,_,_,h5,h6,_⟩
    ·cases hv;omega
    ·cases hv;unfold maxLen at h6;omega
   clear e1;go_wp2;go_ret;exact ⟨aw,cw,rfl,HB.out,hcw,(fun j q hj=>by have hlt2:j<k:=by { have:=(List.getElem?_eq_some_iff.1 hj).1;omega };obtain ⟨b,hb,h4⟩:=rowg_c3 HRow.out hlt2;obtain ⟨q',h5,h6⟩:=HT.out j hlt2;rw [hj] at h5;obtain rfl:=Option.some.inj h5;exact ⟨b,0,T' j,hb,h4,h6⟩)⟩
def pnE (k:Nat) (X:Nat→Nm) (z:Int):Int:=if afB k X=true then (if (k:Int)=z then 0 else 7) else 3
set_option maxRecDepth 100000 in
set_option maxHeartbeats 4000000 in
theorem pNumbers_c {w:World} {ao:Option Addr} {k cap:Nat} {X:Nat→Nm} {z:Int} (h:Rl w ao k X) (hk:k≤1048576) :
  Calls Tryz.prog 29 #[.slice ao k cap,.int .i64 z] w fun e w'=>e=.returned (.int .i64 (pnE k X z))∧Below w.heap.size w w':=by
 have H:=hid h;clear h;go_enter Tryz.func29,Tryz.ntmps29;go_wp2_with fail
 go_loopw [9] (fun t wr=>∃(i:Nat),i≤k∧t=.int .i64 i∧Hid (Below w.heap.size w wr)∧Hid (afB k X=afr X (k-i) i)) (fun t _=>k-(intOf t).toNat)
 case atStart=>exact ⟨0,by omega,rfl,Below.refl _ _,rfl⟩
 case round =>
  obtain ⟨i,hi,rfl,HB,HT⟩:=hrel;by_cases hlt:i<k
  ·obtain ⟨b,o,rfl,hc,hn,hn1,hn2⟩:=(H.out.below HB.out) i hlt;obtain ⟨r,hr⟩:∃r,k-i=r+1:=⟨k-i-1,by omega⟩;have hT:afB k X=(nfB (X i) && afr X r (i+1)):=by rw [HT.out,hr];rfl
   have hr2:k-(i+1)=r:=by omega
   obtain ⟨⟨s,x,n,c,f,y,m,d,g⟩,hTi⟩:∃t,X i=t:=⟨_,rfl⟩;rw [hTi] at hc hn hn1 hn2 hT;obtain ⟨x0,x1,x2⟩:=hc;replace x0:wr.cell? ⟨b,o+i*3,none⟩=some (.bool s):=x0;replace x1:wr.cell? ⟨b,o+i*3+1,none⟩=some (.slice x n c):=x1;replace x2:wr.cell? ⟨b,o+i*3+2,none⟩=some (.slice y m d):=x2;replace hn:Rw wr x n c f y m d g:=hn;replace hn1:n≤65536:=hn1;replace hn2:m≤65536:=hn2;have hblk:Below wr.heap.size wr (wr.alloc (.cells #[.bool s,.slice x n c,.slice y m d] 24)):=below_alloc (Below.refl _ _) _;have CF:=hid (rForm_c (s:=s) (hn.below hblk) (by omega) (by omega));have HTi:=hid hT;have HR2:=hid hr2
   have i1:((i:Nat):Int)<((k:Nat):Int):=by omega
   clear hT hr2 hTi hr hn hblk;cases hf:rfB s f n g m
   ·have CF2:=CF;rw [hf] at CF2;have HNF:Hid (nfB ⟨s,x,n,c,f,y,m,d,g⟩=false):=hf;clear CF hf;go_wp2_with fail
    refine CF2.out.mono ?_;rintro e w1 ⟨rfl,hb1⟩;obtain ⟨_,_,_,_,hb2⟩:=box3 hb1;go_wp2;go_ret;refine ⟨?_,HB.out.trans (hb2.mono HB.out.size)⟩;rw [pnE,HTi.out,HNF.out];rfl
   ·have CF2:=CF;rw [hf] at CF2;have HNF:Hid (nfB ⟨s,x,n,c,f,y,m,d,g⟩=true):=hf;clear CF hf;go_wp2_with fail
    refine CF2.out.mono ?_;rintro e w1 ⟨rfl,hb1⟩;obtain ⟨_,_,_,_,hb2⟩:=box3 hb1;have HB2:=hid (HB.out.trans (hb2.mono HB.out.size));clear hb1 hb2;go_wp2;go_roundw
    case rel =>
     refine ⟨i+1,by omega,by go_num,HB2.out,?_⟩;show _=_;rw [HTi.out,HNF.out,HR2.out];rfl
    case measure=>simp [intOf];omega
  ·have e1:i=k:=by omega
   have HTe:Hid (afB k X=true):=by
    show _=_;rw [HT.out,e1,Nat.sub_self];rfl
   have i2:¬(((i:Nat):Int)<((k:Nat):Int)):=by omega
   clear e1 HT;by_cases hz:((k:Nat):Int)=z
   ·have hz1:(((k:Nat):Int) != z)=false:=by simpa using hz
    have HZ:=hid (show pnE k X z=0 by rw [pnE,HTe.out];simp [hz]);clear hz;go_wp2;go_ret;refine ⟨?_,HB.out⟩;rw [HZ.out];rfl
   ·have hz1:(((k:Nat):Int) != z)=true:=by simpa using hz
    have HZ:=hid (show pnE k X z=7 by rw [pnE,HTe.out];simp [hz]);clear hz;go_wp2;go_ret;refine ⟨?_,HB.out⟩;rw [HZ.out];rfl
theorem Rk.of {w w' B k} (h:Rk w B k) (hB:w'.heap[B]?=w.heap[B]?):Rk w' B k :=
 ⟨(by
  have h1:=h.z;rcases Nat.lt_or_ge B w'.heap.size with h2 | h2
  ·exact h2
  ·rw [Array.getElem?_eq_none h2,Array.getElem?_eq_getElem h1] at hB;cases hB),fun o ho=>by obtain ⟨u,h1,h2⟩:=h.has o ho;exact ⟨u,(World.cell?_of_block (a:=⟨B,o,none⟩) hB).trans h1,h2⟩,fun o=>by have:=h.fz o;simp only [World.frozen?,hB] at this ⊢;exact this⟩
theorem Rl.st {w w':World} {ao:Option Addr} {k B:Nat} {X:Nat→Nm} (h:Rl w ao k X) (hk:Kp w w') (hne:∀b,b≠B→w'.heap[b]?=w.heap[b]?) (hnb:∀o s,w.cell? ⟨B,o,none⟩≠some (.bool s)):Rl w' ao k X:=fun j hj=>by
 obtain ⟨b,o,e,⟨c0,c1,c2⟩,h1,h2⟩:=h j hj;have hB:b≠B:=fun e=>hnb _ _ (e ▸ c0)
 have hs:=hne b hB;exact ⟨b,o,e,⟨(World.cell?_of_block (a:=⟨b,o+j*3,none⟩) hs).trans c0,(World.cell?_of_block (a:=⟨b,o+j*3+1,none⟩) hs).trans c1,(World.cell?_of_block (a:=⟨b,o+j*3+2,none⟩) hs).trans c2⟩,h1.kp hk,h2⟩
theorem bk_nob {w B vs t} (h:Bk w B vs t) (hv:∀v ∈ vs,∃a n c,v=Value.slice a n c):∀o s,w.cell? ⟨B,o,none⟩≠some (.bool s):=fun o s e=>by
 unfold Bk at h;simp only [World.cell?,h] at e;have e':vs[o]?=some (.bool s):=by simpa using e
 obtain ⟨a,n,c,h1⟩:=hv _ (List.mem_of_getElem? e');cases h1
def TwPointAns (w w':World) (e:Ending) (k0:Nat) (X0:Nat→Nm) (k1:Nat) (X1:Nat→Nm) (k2:Nat) (X2:Nat→Nm):Prop:=∃b0 d0 Y0 b1 d1 Y1 b2 d2 Y2,e=.returned (.agg #[.slice b0 k0 d0,.slice b1 k1 d1,.slice b2 k2 d2])∧Below w.heap.size w w'∧((k0≤d0∧d0≤9223372036854775807)∧(k1≤d1∧d1≤9223372036854775807)∧(k2≤d2∧d2≤9223372036854775807))∧Hid ((Rl w' b0 k0 Y0∧∀j,j<k0→Sn (X0 j) (Y0 j))∧(Rl w' b1 k1 Y1∧∀j,j<k1→Sn (X1 j) (Y1 j))∧(Rl w' b2 k2 Y2∧∀j,j<k2→Sn (X2 j) (Y2 j)))
set_option maxRecDepth 100000 in
set_option maxHeartbeats 4000000 in
theorem twPoint_c {w:World} {a0 a1 a2:Option Addr} {k0 c0 k1 c1 k2 c2:Nat} {X0 X1 X2:Nat→Nm} (h0:Rl w a0 k0 X0) (h1:Rl w a1 k1 X1) (h2:Rl w a2 k2 X2) (hk0:k0≤10000) (hk1:k1≤10000) (hk2:k2≤10000) (hl0:∀j,j<k0→(X0 j).n≤1000∧(X0 j).m≤1000) (hl1:∀j,j<k1→(X1 j).n≤1000∧(X1 j).m≤1000) (hl2:∀j,j<k2→(X2 j).n≤1000∧(X2 j).m≤1000) :
  Calls Tryz.prog 18 #[.agg #[.slice a0 k0 c0,.slice a1 k1 c1,.slice a2 k2 c2]] w fun e w'=>TwPointAns w w' e k0 X0 k1 X1 k2 X2:=by
 have C0:=hid (fun W (hW:Below w.heap.size w W)=>twins_c (w:=W) (cap:=c0) (h0.below hW) hk0 hl0);have C1:=hid (fun W (hW:Below w.heap.size w W)=>twins_c (w:=W) (cap:=c1) (h1.below hW) hk1 hl1);have C2:=hid (fun W (hW:Below w.heap.size w W)=>twins_c (w:=W) (cap:=c2) (h2.below hW) hk2 hl2);clear h0 h1 h2;have hb:=below_alloc (below_alloc (Below.refl w.heap.size w) (.cells #[.slice a0 k0 c0,.slice a1 k1 c1,.slice a2 k2 c2] 50)) (.cells #[.slice none 0 0,.slice none 0 0,.slice none 0 0] 50);have B1:Bk ((w.alloc (.cells #[.slice a0 k0 c0,.slice a1 k1 c1,.slice a2 k2 c2] 50)).alloc (.cells #[.slice none 0 0,.slice none 0 0,.slice none 0 0] 50)) w.heap.size [.slice a0 k0 c0,.slice a1 k1 c1,.slice a2 k2 c2] 50:=(bk_new w [.slice a0 k0 c0,.slice a1 k1 c1,.slice a2 k2 c2] 50).below (below_alloc (Below.refl _ _) (.cells #[.slice none 0 0,.slice none 0 0,.slice none 0 0] 50));have B2:Bk ((w.alloc (.cells #[.slice a0 k0 c0,.slice a1 k1 c1,.slice a2 k2 c2] 50)).alloc (.cells #[.slice none 0 0,.slice none 0 0,.slice none 0 0] 50)) (w.heap.size+1) [.slice none 0 0,.slice none 0 0,.slice none 0 0] 50:=by
  have:=bk_new (w.alloc (.cells #[.slice a0 k0 c0,.slice a1 k1 c1,.slice a2 k2 c2] 50)) [.slice none 0 0,.slice none 0 0,.slice none 0 0] 50;rw [size_alloc1] at this;exact this
 have hsz:((w.alloc (.cells #[.slice a0 k0 c0,.slice a1 k1 c1,.slice a2 k2 c2] 50)).alloc (.cells #[.slice none 0 0,.slice none 0 0,.slice none 0 0] 50)).heap.size=w.heap.size+1+1:=by simp
 obtain ⟨P,hP⟩:∃P:Ending→World→Prop,P=fun e w'=>TwPointAns w w' e k0 X0 k1 X1 k2 X2:=⟨_,rfl⟩
 rw [←hP];have HA:=hid hP;clear hP;go_enter Tryz.func18,Tryz.ntmps18;go_upto_region 1 with fail
 generalize (w.alloc (.cells #[.slice a0 k0 c0,.slice a1 k1 c1,.slice a2 k2 c2] 50)).alloc (.cells #[.slice none 0 0,.slice none 0 0,.slice none 0 0] 50)=w1 at *;have hbd:=Below.drew (Below.refl w1.heap.size w1);replace B1:=B1.below hbd;replace B2:=B2.below hbd
 have hsz1:w1.drew.heap.size=w.heap.size+1+1:=hsz;have HW:=hid (hb.trans (hbd.mono hb.size));clear hbd hb hsz;have r0:=B1.cell (j:=0) rfl;have r1:=B1.cell (j:=1) rfl;have r2:=B1.cell (j:=2) rfl;refine wp_region_held_drew (S:=(fun w'=>w'.cell? ⟨w.heap.size,0,none⟩=some (.slice a0 k0 c0)∧w'.cell? ⟨w.heap.size,1,none⟩=some (.slice a1 k1 c1)∧w'.cell? ⟨w.heap.size,2,none⟩=some (.slice a2 k2 c2))) (by kernel_rfl) ?_ (fun hHeld=>?_)
 ·exact ⟨r0,r1,r2⟩
 generalize w1.drew=wd at *;refine tkO 0 ?_;simp only [lay_,Act.put];refine tkO 1 ?_;simp only [lay_,Act.put];refine tkO 3 ?_;simp only [lay_,Act.put];refine tkO 4 ?_;simp only [lay_,Act.put];refine tkO 6 ?_;simp only [lay_,Act.put];refine tkO 7 ?_;simp only [lay_,Act.put];refine wpAnyH_ready (rs:=[2]) (by kernel_rfl) (by simp) ?_;refine AllReadyH.cons (o:=_) rfl (fun K hK=>?_) ?_;rotate_left;exact AllReadyH.nil;go_simp
 go_at_call 10
 refine (C0.out _ HW.out).mono ?_;rintro e w2 ⟨b0,d0,Y0,rfl,hb0,hd0,HQ0⟩;replace B1:=B1.below hb0;replace B2:=B2.below hb0
 have HW0:=hid (HW.out.trans (hb0.mono HW.out.size))
 (try go_wp2_with fail)
 refine hK.out _ _ ?_ (fun hH0=>?_)
 ·((try dsimp only);(refine ⟨?_,?_,?_⟩ <;> repeat (with_reducible first | assumption | refine kCb (by assumption) ?_)))
 clear hK K;try simp only [lay_,Act.put]
 refine wpAnyH_ready (rs:=[5]) (by kernel_rfl) (by simp) ?_;refine AllReadyH.cons (o:=_) rfl (fun K hK=>?_) ?_;rotate_left;exact AllReadyH.nil;go_simp
 go_at_call 10
 refine (C1.out _ HW0.out).mono ?_;rintro e w3 ⟨b1,d1,Y1,rfl,hb1,hd1,HQ1⟩;replace B1:=B1.below hb1;replace B2:=B2.below hb1
 have HW1:=hid (HW0.out.trans (hb1.mono HW0.out.size));replace HQ0:Hid (Rl w3 b0 k0 Y0∧∀j,j<k0→Sn (X0 j) (Y0 j)):=⟨HQ0.out.1.below hb1,HQ0.out.2⟩
 (try go_wp2_with fail)
 refine hK.out _ _ ?_ (fun hH1=>?_)
 ·((try dsimp only);(refine ⟨?_,?_,?_⟩ <;> repeat (with_reducible first | assumption | refine kCb (by assumption) ?_)))
 clear hK K;try simp only [lay_,Act.put]
 refine wpAnyH_ready (rs:=[8]) (by kernel_rfl) (by simp) ?_;refine AllReadyH.cons (o:=_) rfl (fun K hK=>?_) ?_;rotate_left;exact AllReadyH.nil;go_simp
 go_at_call 10
 refine (C2.out _ HW1.out).mono ?_;rintro e w4 ⟨b2,d2,Y2,rfl,hb2,hd2,HQ2⟩;replace B1:=B1.below hb2;replace B2:=B2.below hb2
 have HW2:=hid (HW1.out.trans (hb2.mono HW1.out.size));replace HQ0:Hid (Rl w4 b0 k0 Y0∧∀j,j<k0→Sn (X0 j) (Y0 j)):=⟨HQ0.out.1.below hb2,HQ0.out.2⟩;replace HQ1:Hid (Rl w4 b1 k1 Y1∧∀j,j<k1→Sn (X1 j) (Y1 j)):=⟨HQ1.out.1.below hb2,HQ1.out.2⟩
 (try go_wp2_with fail)
 refine hK.out _ _ ?_ (fun hH2=>?_)
 ·((try dsimp only);(refine ⟨?_,?_,?_⟩ <;> repeat (with_reducible first | assumption | refine kCb (by assumption) ?_)))
 clear hK K;try simp only [lay_,Act.put]
 refine tkO 9 ?_;simp only [lay_,Act.put];have l0:=B2.cell (j:=0) rfl;have l1:=B2.cell (j:=1) rfl;have l2:=B2.cell (j:=2) rfl;have ff:=B2.frozen;refine wpAnyH_ready (rs:=[10]) (by kernel_rfl) (by simp) ?_;refine AllReadyH.cons (o:=_) rfl (fun K hK=>?_) ?_;rotate_left;exact AllReadyH.nil;go_simp;obtain ⟨hx1,hx2,hx3⟩:=st_new [.slice b0 k0 d0,.slice b1 k1 d1,.slice b2 k2 d2] B2 (nou_list (fun u hu q=>by simp at hu;first | (subst hu;simp) | (rcases hu with rfl | rfl <;> simp) | (rcases hu with rfl | rfl | rfl <;> simp))) HW2.out (Nat.le_succ _);have hnb:=bk_nob B2 (fun v hv=>by simp at hv;subst hv;exact ⟨_,_,_,rfl⟩);have B9:=stl_bk [.slice b0 k0 d0,.slice b1 k1 d1,.slice b2 k2 d2] _ 0 _ rfl B2;obtain ⟨w9,hw9⟩:∃x,stl (w.heap.size+1) 0 [.slice b0 k0 d0,.slice b1 k1 d1,.slice b2 k2 d2] w4=x:=⟨_,rfl⟩;rw [show (((w4.setCell ⟨w.heap.size+1,0,none⟩ (.slice b0 k0 d0)).setCell ⟨w.heap.size+1,1,none⟩ (.slice b1 k1 d1)).setCell ⟨w.heap.size+1,2,none⟩ (.slice b2 k2 d2))=w9 from hw9];rw [hw9] at hx1 hx2 hx3 B9;replace B9:Bk w9 (w.heap.size+1) [.slice b0 k0 d0,.slice b1 k1 d1,.slice b2 k2 d2] _:=B9;have B8:=B1.of (hx3 w.heap.size (by omega));have e0:=B8.cell (j:=0) rfl;have e1:=B8.cell (j:=1) rfl;have e2:=B8.cell (j:=2) rfl;clear hw9 ff l0 l1 l2;refine hK.out _ _ ⟨e0,e1,e2⟩ (fun hH9=>?_);clear hK K;try simp only [Act.put]
 have l0:=B9.cell (j:=0) rfl;have l1:=B9.cell (j:=1) rfl;have l2:=B9.cell (j:=2) rfl;refine wpAnyH_done (by kernel_rfl) ?_ _;have HX:Hid (P (.returned (.agg #[.slice b0 k0 d0,.slice b1 k1 d1,.slice b2 k2 d2])) w9):=by
  rw [HA.out];exact ⟨b0,d0,Y0,b1,d1,Y1,b2,d2,Y2,rfl,hx1,⟨hd0,hd1,hd2⟩,⟨HQ0.out.1.st hx2 hx3 hnb,HQ0.out.2⟩,⟨HQ1.out.1.st hx2 hx3 hnb,HQ1.out.2⟩,⟨HQ2.out.1.st hx2 hx3 hnb,HQ2.out.2⟩⟩
 clear hx1 hx2 hx3 hnb B1 B2 B8 hHeld hH9 HW HA HQ0 C0 HW0 hH0 hb0 HQ1 C1 HW1 hH1 hb1 HQ2 C2 HW2 hH2 hb2;go_wp2;exact bodyPost_ret (v:=.agg #[.slice b0 k0 d0,.slice b1 k1 d1,.slice b2 k2 d2]) (by simp [results,Tryz.results18,go_sem,l0,l1,l2]) rfl HX.out
def pckE (M:Mo) (k:Nat) (X:Nat→Nm):Int:=lsf (two (chkE M) (pnE k X M.ck)) 2
set_option maxRecDepth 100000 in
set_option maxHeartbeats 4000000 in
theorem pcheck_c {w:World} {M:Mo} {ao:Option Addr} {k cap:Nat} {X:Nat→Nm} (h:MoW w M) (hx:Rl w ao k X) (hk:k≤1048576) :
  Calls Tryz.prog 120 #[M.val,.slice ao k cap] w fun e w'=>e=.returned (.int .i64 (pckE M k X))∧Below w.heap.size w w':=by
 have CC:=hid (fun W (hW:Below w.heap.size w W)=>check_w (h.below hW));have CN:=hid (fun W (hW:Below w.heap.size w W)=>pNumbers_c (w:=W) (cap:=cap) (z:=(M.ck:Int)) (hx.below hW) hk);obtain ⟨er,her⟩:∃e,pckE M k X=e:=⟨_,rfl⟩;have HE:=hid her;unfold pckE at her;obtain ⟨e0,he0⟩:∃e,chkE M=e:=⟨_,rfl⟩;rw [he0] at CC her;obtain ⟨e1,he1⟩:∃e,pnE k X M.ck=e:=⟨_,rfl⟩;rw [he1] at CN her;have HE2:=hid her;clear h hx he0 he1 her;obtain ⟨⟨s,x,n,c,f,y,m,d,g⟩,ca,ck,cc,C,ra,rk,rc,R⟩:=M;replace CC:Hid (∀W,Below w.heap.size w W→Calls Tryz.prog 28 #[.agg #[.bool s,.slice x n c,.slice y m d,.slice ca ck cc,.slice ra rk rc]] W fun r w'=>r=.returned (.int .i64 e0)∧Below W.heap.size W w'):=CC;replace CN:Hid (∀W,Below w.heap.size w W→Calls Tryz.prog 29 #[.slice ao k cap,.int .i64 (ck:Int)] W fun e w'=>e=.returned (.int .i64 e1)∧Below W.heap.size W w'):=CN;show Calls Tryz.prog 120 #[.agg #[.bool s,.slice x n c,.slice y m d,.slice ca ck cc,.slice ra rk rc],.slice ao k cap] w _;have hb:=below_alloc (Below.refl w.heap.size w) (.cells #[.bool s,.slice x n c,.slice y m d,.slice ca ck cc,.slice ra rk rc] 28);have r0:(w.alloc (.cells #[.bool s,.slice x n c,.slice y m d,.slice ca ck cc,.slice ra rk rc] 28)).drew.cell? ⟨w.heap.size,0,none⟩=some (.bool s):=kCd (by simp [go_sem]);have r1:(w.alloc (.cells #[.bool s,.slice x n c,.slice y m d,.slice ca ck cc,.slice ra rk rc] 28)).drew.cell? ⟨w.heap.size,1,none⟩=some (.slice x n c):=kCd (by simp [go_sem]);have r2:(w.alloc (.cells #[.bool s,.slice x n c,.slice y m d,.slice ca ck cc,.slice ra rk rc] 28)).drew.cell? ⟨w.heap.size,2,none⟩=some (.slice y m d):=kCd (by simp [go_sem]);have r3:(w.alloc (.cells #[.bool s,.slice x n c,.slice y m d,.slice ca ck cc,.slice ra rk rc] 28)).drew.cell? ⟨w.heap.size,3,none⟩=some (.slice ca ck cc):=kCd (by simp [go_sem]);have r4:(w.alloc (.cells #[.bool s,.slice x n c,.slice y m d,.slice ca ck cc,.slice ra rk rc] 28)).drew.cell? ⟨w.heap.size,4,none⟩=some (.slice ra rk rc):=kCd (by simp [go_sem]);have HB:=hid (Below.drew hb);clear hb;go_enter Tryz.func120,Tryz.ntmps120;go_upto_region 1 with fail
 refine wp_region_held_drew (S:=(fun w'=>w'.cell? ⟨w.heap.size,0,none⟩=some (.bool s)∧w'.cell? ⟨w.heap.size,1,none⟩=some (.slice x n c)∧w'.cell? ⟨w.heap.size,2,none⟩=some (.slice y m d)∧w'.cell? ⟨w.heap.size,3,none⟩=some (.slice ca ck cc)∧w'.cell? ⟨w.heap.size,4,none⟩=some (.slice ra rk rc))) (by kernel_rfl) ?_ (fun hHeld=>?_)
 ·exact ⟨r0,r1,r2,r3,r4⟩
 generalize (w.alloc (.cells #[.bool s,.slice x n c,.slice y m d,.slice ca ck cc,.slice ra rk rc] 28)).drew=wd at *;clear r0 r1 r2 r3 r4;refine tkO 0 ?_;simp only [lay_,Act.put];refine tkO 2 ?_;simp only [lay_,Act.put];refine tkO 3 ?_;simp only [lay_,Act.put];refine tkO 4 ?_;simp only [lay_,Act.put];refine tkO 5 ?_;simp only [lay_,Act.put];refine wpAnyH_ready (rs:=[1]) (by kernel_rfl) (by simp) ?_;refine AllReadyH.cons (o:=_) rfl (fun K hK=>?_) ?_;rotate_left;exact AllReadyH.nil;go_simp
 go_at_call 28
 refine (CC.out _ HB.out).mono ?_;rintro e w4 ⟨rfl,hb4⟩
 (try go_wp2_with fail)
 refine hK.out _ _ ?_ (fun hH4=>?_)
 ·exact ⟨kCb hb4 hHeld.1,kCb hb4 hHeld.2.1,kCb hb4 hHeld.2.2.1,kCb hb4 hHeld.2.2.2.1,kCb hb4 hHeld.2.2.2.2⟩
 clear hK K;have HB4:=hid (HB.out.trans (hb4.mono HB.out.size));try simp only [lay_,Act.put]
 refine wpAnyH_ready (rs:=[6]) (by kernel_rfl) (by simp) ?_;refine AllReadyH.cons (o:=_) rfl (fun K hK=>?_) ?_;rotate_left;exact AllReadyH.nil;go_simp
 go_at_call 29
 refine (CN.out _ HB4.out).mono ?_;rintro e w5 ⟨rfl,hb5⟩
 (try go_wp2_with fail)
 refine hK.out _ _ ?_ (fun hH5=>?_)
 ·exact ⟨kCb hb5 hH4.1,kCb hb5 hH4.2.1,kCb hb5 hH4.2.2.1,kCb hb5 hH4.2.2.2.1,kCb hb5 hH4.2.2.2.2⟩
 clear hK K;have HB5:=hid (HB4.out.trans (hb5.mono HB4.out.size));obtain ⟨r0,r1,r2,r3,r4⟩:=id hH5;try simp only [lay_,Act.put]
 refine wpAnyH_ready (rs:=[7]) (by kernel_rfl) (by simp) ?_;refine AllReadyH.cons (o:=_) rfl (fun K hK=>?_) ?_;rotate_left;exact AllReadyH.nil;go_simp;have hbA:=below_alloc (Below.refl w5.heap.size w5) (.cells #[.int .i64 e0,.int .i64 e1] 33);have HEl:=hid (two_el (w:=w5) (a:=e0) (b:=e1) (t:=33));have HWA:=hid (HB5.out.trans (hbA.mono HB5.out.size));obtain ⟨gA,hgA⟩:∃z,w5.heap.size=z:=⟨_,rfl⟩;rw [hgA] at HEl ⊢;generalize hwA:w5.alloc (.cells #[.int .i64 e0,.int .i64 e1] 33)=wA at *;clear hwA hgA;refine hK.out _ _ ?_ (fun hHA=>?_)
 ·((try dsimp only);(refine ⟨?_,?_,?_,?_,?_⟩ <;> repeat (with_reducible first | assumption | refine kCb (by assumption) ?_)))
 clear hK K;try simp only [lay_,Act.put]
 refine wpAnyH_ready (rs:=[8]) (by kernel_rfl) (by simp) ?_;refine AllReadyH.cons (o:=_) rfl (fun K hK=>?_) ?_;rotate_left;exact AllReadyH.nil;go_simp
 go_at_call 27
 refine (least_c HEl.out (by decide)).mono ?_;rintro e w9 ⟨rfl,rfl⟩
 (try go_wp2_with fail)
 refine hK.out _ _ ?_ (fun hHB=>?_)
 ·exact hHA
 clear hK K;try simp only [lay_,Act.put]
 refine tkO 9 ?_;simp only [lay_,Act.put];refine wpAnyH_done (by kernel_rfl) ?_ _;simp only [show lsf (two e0 e1) 2=er from HE2.out];clear HE2 hHeld hH4 hH5 hHA hHB hb4 hb5 hbA r0 r1 r2 r3 r4 HEl CC CN HB HB4 HB5;go_wp2;go_ret;exact ⟨by rw [HE.out];rfl,HWA.out⟩
end Go.Proofs.YtdbbncamlaiajaaGreat
