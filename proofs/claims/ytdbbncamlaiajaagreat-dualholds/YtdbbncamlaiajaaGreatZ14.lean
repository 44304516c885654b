/-
 The walk of package point's Broken, whatever it is handed (written by makers/n5.py). The walks of package point's Activities, Feasible, Value, whatever they are handed (written by makers/n6.py). Lists of lists of numbers; what package dual's Reduced makes, by values; its times (written by makers/du1.py). The walk of package dual's Reduced, whatever it is handed (written by makers/du2.py). The walks of package ray's times, free, endless, slope, by values (written by makers/ra1.py).
-/
import Derived.Test.YtdbbncamlaiajaaGreatZ13
import Derived.Test.YtdbbncamlaiajaaGreatZ10
import Derived.Test.YtdbbncamlaiajaaGreatZ9
namespace Go.Proofs.YtdbbncamlaiajaaGreat
open Go.RowKit
theorem tsB_mem {n:Nat}:∀{ts:List (Int × Rat)} {l:Int},tsB n l ts=true→∀t ∈ ts,l<t.1∧t.1<(n:Int)∧t.2≠0
 | [],_,_,t,ht=>by cases ht
 | (z,q) :: r,l,h,t,ht=>by
  simp only [tsB,Bool.and_eq_true,decide_eq_true_eq] at h;obtain ⟨h1,h2,h3,h4⟩:=h;rcases List.mem_cons.1 ht with rfl | ht
  ·exact ⟨h1,h2,h3⟩
  ·have:=tsB_mem h4 t ht;exact ⟨by omega,this.2⟩
theorem tsB_len {n:Nat}:∀{ts:List (Int × Rat)} {l:Int},tsB n l ts=true→l<(n:Int)→(ts.length:Int)≤n-1-l
 | [],l,_,hl=>by simp;omega
 | (z,q) :: r,l,h,hl=>by
  simp only [tsB,Bool.and_eq_true,decide_eq_true_eq] at h;obtain ⟨h1,h2,h3,h4⟩:=h;have:=tsB_len h4 h2;simp only [List.length_cons];omega
def BdOk (li:Int) (lq:Rat) (hi:Int) (hq:Rat):Prop:=(li=0∨(li=-1∨li=1)∧lq=0)∧(hi=0∨(hi=-1∨hi=1)∧hq=0)
theorem bdB_ok {li lq hi hq} (h:bdB li lq hi hq=true):BdOk li lq hi hq:=by
 simp only [bdB,Bool.and_eq_true,Bool.or_eq_true,decide_eq_true_eq] at h;exact ⟨h.1.imp id (fun h=>⟨.inl h.1,h.2⟩),h.2.imp id (fun h=>⟨.inr h.1,h.2⟩)⟩
structure MvP (cs:List CV) (rs:List RV):Prop where
 cl:cs.length≤64
 rl:rs.length≤64
 cb:∀v ∈ cs,BdOk v.li v.lq v.hi v.hq
 rb:∀v ∈ rs,BdOk v.li v.lq v.hi v.hq
 tc:∀v ∈ rs,∀t ∈ v.ts,0≤t.1∧t.1<(cs.length:Int)
 tl:∀v ∈ rs,v.ts.length≤64
theorem mvOk_p {cs rs} (h:mvOk cs rs=true):MvP cs rs:=by
 simp only [mvOk,Bool.and_eq_true,decide_eq_true_eq,List.all_eq_true] at h;obtain ⟨h1,h2,h3,h4,_⟩:=h;refine ⟨h1,h2,fun v hv=>bdB_ok (h3 v hv),fun v hv=>bdB_ok (h4 v hv).1,fun v hv t ht=>?_,fun v hv=>?_⟩
 ·have:=tsB_mem (h4 v hv).2.1 t ht;exact ⟨by omega,this.2.1⟩
 ·have:=tsB_len (h4 v hv).2.1 (by omega);omega
def bcB (cs:List CV) (xs:List Rat) (j:Nat):Bool:=match cs[j]?,xs[j]? with
 | some v,some q=>!(kpsB q v.li v.lq v.hi v.hq)
 | _,_=>false
def brB (rs:List RV) (xs:List Rat) (j:Nat):Bool:=match rs[j]? with
 | some v=>!(kpsB (actQ xs v) v.li v.lq v.hi v.hq)
 | none=>false
def BrAns (w w':World) (e:Ending) (er:Int) (cs:List CV) (rs:List RV) (xs:List Rat):Prop:=Below w.heap.size w w' ∧
 ((er≠0∧e=.returned (.tuple #[.slice none 0 0,.slice none 0 0,.int .i64 er]))∨(er=0∧∃xa xc ya yc,e=.returned (.tuple #[.slice xa (crl (bcB cs xs) cs.length).length xc,.slice ya (crl (brB rs xs) rs.length).length yc,.int .i64 0])∧Il w' xa (crl (bcB cs xs) cs.length)∧Il w' ya (crl (brB rs xs) rs.length)))
theorem en_of {L:Nat} {w:World} {i i':Int} {t:Nm} {q:Rat} (h:NmV L w t q) (hL:L≤4096) (hi:i=i') (hb:i'=0∨(i'=-1∨i'=1)∧q=0):En 4096 w i t.s t.x t.n t.c t.f t.y t.m t.d t.g q:=⟨Rn.mono h hL,by rw [hi];exact hb⟩
set_option maxRecDepth 100000 in
set_option maxHeartbeats 8000000 in
theorem pBroken_v {w:World} {L:Nat} {M:Mo} {off:Rat} {cs:List CV} {rs:List RV} {ao:Option Addr} {k cap:Nat} {X:Nat→Nm} {xs:List Rat} {er:Int} (hW:MoW w M) (hx:Rl w ao k X) (hk:k≤1048576) (he:pckE M k X=er) (hv:er=0→MoV L w M off cs rs∧mvOk cs rs=true∧Rf L w ao xs∧xs.length=k∧k=cs.length) (hL:L≤30) :
  Calls Tryz.prog 83 #[M.val,.slice ao k cap] w fun e w'=>BrAns w w' e er cs rs xs:=by
 have CC:=hid (fun W (hW2:Below w.heap.size w W)=>pcheck_c (cap:=cap) (hW.below hW2) (hx.below hW2) hk);rw [he] at CC;clear hW hx he;obtain ⟨M0,hM0⟩:∃z,M=z:=⟨_,rfl⟩;have HV:=hid hv;clear hv;rw [hM0] at HV CC ⊢;have CA:Hid (er=0→∀W,Below w.heap.size w W→Calls Tryz.prog 122 #[M0.val,.slice ao k cap] W fun e w'=>∃a c,e=.returned (.slice a rs.length c)∧Below W.heap.size W w'∧(rs.length≤c∧c≤9223372036854775807)∧Hid (Rf (KA L) w' a (rs.map (actQ xs)))):=fun h0 W hW2=>by
  obtain ⟨v1,v2,v3,v4,v5⟩:=HV.out h0;have mp:=mvOk_p v2;exact acts_c (v1.below hW2) (v3.below hW2) v4 (fun r hr t ht=>by have:=mp.tc r hr t ht;rw [v5];exact this) mp.rl mp.tl (by omega)
 clear hM0;obtain ⟨⟨s,x,n,c,f,y,m,d,g⟩,ca,ck,cc,C,ra,rk,rc,R⟩:=M0;replace CC:Hid (∀W,Below w.heap.size w W→Calls Tryz.prog 120 #[.agg #[.bool s,.slice x n c,.slice y m d,.slice ca ck cc,.slice ra rk rc],.slice ao k cap] W fun e w'=>e=.returned (.int .i64 er)∧Below W.heap.size W w'):=CC;replace CA:Hid (er=0→∀W,Below w.heap.size w W→Calls Tryz.prog 122 #[.agg #[.bool s,.slice x n c,.slice y m d,.slice ca ck cc,.slice ra rk rc],.slice ao k cap] W fun e w'=>∃a c,e=.returned (.slice a rs.length c)∧Below W.heap.size W w'∧(rs.length≤c∧c≤9223372036854775807)∧Hid (Rf (KA L) w' a (rs.map (actQ xs)))):=CA;show Calls Tryz.prog 83 #[.agg #[.bool s,.slice x n c,.slice y m d,.slice ca ck cc,.slice ra rk rc],.slice ao k cap] w _;have hb:=below_alloc (Below.refl w.heap.size w) (.cells #[.bool s,.slice x n c,.slice y m d,.slice ca ck cc,.slice ra rk rc] 28);have BM:Hid (Bk (w.alloc (.cells #[.bool s,.slice x n c,.slice y m d,.slice ca ck cc,.slice ra rk rc] 28)) w.heap.size [.bool s,.slice x n c,.slice y m d,.slice ca ck cc,.slice ra rk rc] 28):=bk_new w [.bool s,.slice x n c,.slice y m d,.slice ca ck cc,.slice ra rk rc] 28;have HB:=hid hb;clear hb;go_enter Tryz.func83,Tryz.ntmps83;go_wp2_with fail
 generalize w.alloc (.cells #[.bool s,.slice x n c,.slice y m d,.slice ca ck cc,.slice ra rk rc] 28)=w0 at *;refine (CC.out _ HB.out).mono ?_;rintro e w1 ⟨rfl,hb⟩;replace HB:=hid (HB.out.trans (hb.mono HB.out.size));replace BM:=hid (BM.out.below hb)
 clear hb CC;by_cases h0:er=0
 case neg =>
  have h1:(er != 0)=true:=by simpa using h0
  have H0:=hid h0;go_wp2
  go_ret3
  exact ⟨HB.out,.inl ⟨H0.out,rfl⟩⟩
 have CA2:=hid (CA.out h0);obtain ⟨v1,v2,v3,v4,v5⟩:=HV.out h0;have mp:=mvOk_p v2;subst h0;have l64:=mp.cl;have r64:=mp.rl
 have HC:Hid (∀j v,cs[j]?=some v→(∃b o,ca=some ⟨b,o,none⟩∧Cs w b (o+j*12) (C j).vs)∧ColV L w (C j) v):=v1.cls;have HR:Hid (∀j v,rs[j]?=some v→(∃b o,ra=some ⟨b,o,none⟩∧Cs w b (o+j*10) (R j).vs)∧RowV L w (R j) v):=v1.rls;have hck:ck=cs.length:=v1.ck;have hrk:rk=rs.length:=v1.rk;subst hck hrk;subst v5;have HX:=hid v3;have HXL:=hid v4;have MP:=hid mp
 clear v1 v2 v3 v4 mp CA HV;have r3:=BM.out.cell (j:=3) rfl;go_wp2_with fail
 clear r3;go_loopw [8,24] (fun ov t wr=>∃(i:Nat),i≤cs.length∧t=.int .i64 i∧Hid (Below w1.heap.size w1 wr)∧Hid (RowG 3 1 w1.heap.size wr ov (crl (bcB cs xs) i).length (ils (crl (bcB cs xs) i)))) (fun _ t _=>cs.length-(intOf t).toNat)
 case atStart=>exact ⟨0,by omega,rfl,Below.refl _ _,rowG_nil _ _ _ _⟩
 case round =>
  obtain ⟨i,hi,rfl,HB2,HRow⟩:=hrel;by_cases hlt:i<cs.length
  ·obtain ⟨v,hv⟩:∃t,cs[i]?=some t:=⟨_,List.getElem?_eq_getElem (by omega)⟩;have hvm:=List.mem_of_getElem? hv;obtain ⟨⟨b,o,hba,hc⟩,hV⟩:=HC.out i v hv;subst hba;have hbz:=HB.out.trans (HB2.out.mono HB.out.size);obtain ⟨hblo,hbhi⟩:=MP.out.cb v hvm;have e1:=en_of (hV.lq.below hbz) (by omega) hV.li hblo;have e2:=en_of (hV.hq.below hbz) (by omega) hV.hi hbhi;obtain ⟨⟨z,⟨s0,x0,n0,c0,f0,y0,m0,d0,g0⟩,⟨i1,⟨s1,x1,n1,c1,f1,y1,m1,d1,g1⟩⟩,⟨i2,⟨s2,x2,n2,c2,f2,y2,m2,d2,g2⟩⟩⟩,hCi⟩:∃t,C i=t:=⟨_,rfl⟩;rw [hCi] at hc e1 e2;replace e1:En 4096 wr i1 s1 x1 n1 c1 f1 y1 m1 d1 g1 v.lq:=e1;replace e2:En 4096 wr i2 s2 x2 n2 c2 f2 y2 m2 d2 g2 v.hq:=e2;have j1:i1=v.li:=by have:=hV.li;rw [hCi] at this;exact this
   have j2:i2=v.hi:=by have:=hV.hi;rw [hCi] at this;exact this
   replace hc:=Cs.below hc hbz;have q0:wr.cell? ⟨b,o+i*12,none⟩=some (.string z):=hc 0 _ rfl;have q1:wr.cell? ⟨b,o+i*12+1,none⟩=some (.bool s0):=hc 1 _ rfl;have q2:wr.cell? ⟨b,o+i*12+2,none⟩=some (.slice x0 n0 c0):=hc 2 _ rfl;have q3:wr.cell? ⟨b,o+i*12+3,none⟩=some (.slice y0 m0 d0):=hc 3 _ rfl;have q4:wr.cell? ⟨b,o+i*12+4,none⟩=some (.int .i64 i1):=hc 4 _ rfl;have q5:wr.cell? ⟨b,o+i*12+5,none⟩=some (.bool s1):=hc 5 _ rfl;have q6:wr.cell? ⟨b,o+i*12+6,none⟩=some (.slice x1 n1 c1):=hc 6 _ rfl;have q7:wr.cell? ⟨b,o+i*12+7,none⟩=some (.slice y1 m1 d1):=hc 7 _ rfl;have q8:wr.cell? ⟨b,o+i*12+8,none⟩=some (.int .i64 i2):=hc 8 _ rfl;have q9:wr.cell? ⟨b,o+i*12+9,none⟩=some (.bool s2):=hc 9 _ rfl;have q10:wr.cell? ⟨b,o+i*12+10,none⟩=some (.slice x2 n2 c2):=hc 10 _ rfl;have q11:wr.cell? ⟨b,o+i*12+11,none⟩=some (.slice y2 m2 d2):=hc 11 _ rfl;obtain ⟨r,hr⟩:∃t,xs[i]?=some t:=⟨_,List.getElem?_eq_getElem (by have:=HXL.out;omega)⟩;obtain ⟨b',o',⟨ss,sx,sn,sc,sf,sy,sm,sd,sg⟩,hax,⟨p0,p1,p2⟩,hr'⟩:=(HX.out.below hbz) i r hr;subst hax;replace p0:wr.cell? ⟨b',o'+i*3,none⟩=some (.bool ss):=p0;replace p1:wr.cell? ⟨b',o'+i*3+1,none⟩=some (.slice sx sn sc):=p1;replace p2:wr.cell? ⟨b',o'+i*3+2,none⟩=some (.slice sy sm sd):=p2;replace hr':Rn 4096 wr ss sx sn sc sf sy sm sd sg r:=Rn.mono hr' (by omega);have HEQ:Hid (∀{t},(bcB cs xs) i=t→(!t)=kpsB r v.li v.lq v.hi v.hq):=by
    intro t ht;rw [←ht,bcB,hv,hr];simp
   clear hr;have hbt:=below_alloc (Below.refl wr.heap.size wr) (.cells #[.string z,.bool s0,.slice x0 n0 c0,.slice y0 m0 d0,.int .i64 i1,.bool s1,.slice x1 n1 c1,.slice y1 m1 d1,.int .i64 i2,.bool s2,.slice x2 n2 c2,.slice y2 m2 d2] 65);have a4:(wr.alloc (.cells #[.string z,.bool s0,.slice x0 n0 c0,.slice y0 m0 d0,.int .i64 i1,.bool s1,.slice x1 n1 c1,.slice y1 m1 d1,.int .i64 i2,.bool s2,.slice x2 n2 c2,.slice y2 m2 d2] 65)).cell? ⟨wr.heap.size,4,none⟩=some (.int .i64 i1):=by simp [go_sem]
   have a5:(wr.alloc (.cells #[.string z,.bool s0,.slice x0 n0 c0,.slice y0 m0 d0,.int .i64 i1,.bool s1,.slice x1 n1 c1,.slice y1 m1 d1,.int .i64 i2,.bool s2,.slice x2 n2 c2,.slice y2 m2 d2] 65)).cell? ⟨wr.heap.size,5,none⟩=some (.bool s1):=by simp [go_sem]
   have a6:(wr.alloc (.cells #[.string z,.bool s0,.slice x0 n0 c0,.slice y0 m0 d0,.int .i64 i1,.bool s1,.slice x1 n1 c1,.slice y1 m1 d1,.int .i64 i2,.bool s2,.slice x2 n2 c2,.slice y2 m2 d2] 65)).cell? ⟨wr.heap.size,6,none⟩=some (.slice x1 n1 c1):=by simp [go_sem]
   have a7:(wr.alloc (.cells #[.string z,.bool s0,.slice x0 n0 c0,.slice y0 m0 d0,.int .i64 i1,.bool s1,.slice x1 n1 c1,.slice y1 m1 d1,.int .i64 i2,.bool s2,.slice x2 n2 c2,.slice y2 m2 d2] 65)).cell? ⟨wr.heap.size,7,none⟩=some (.slice y1 m1 d1):=by simp [go_sem]
   have a8:(wr.alloc (.cells #[.string z,.bool s0,.slice x0 n0 c0,.slice y0 m0 d0,.int .i64 i1,.bool s1,.slice x1 n1 c1,.slice y1 m1 d1,.int .i64 i2,.bool s2,.slice x2 n2 c2,.slice y2 m2 d2] 65)).cell? ⟨wr.heap.size,8,none⟩=some (.int .i64 i2):=by simp [go_sem]
   have a9:(wr.alloc (.cells #[.string z,.bool s0,.slice x0 n0 c0,.slice y0 m0 d0,.int .i64 i1,.bool s1,.slice x1 n1 c1,.slice y1 m1 d1,.int .i64 i2,.bool s2,.slice x2 n2 c2,.slice y2 m2 d2] 65)).cell? ⟨wr.heap.size,9,none⟩=some (.bool s2):=by simp [go_sem]
   have a10:(wr.alloc (.cells #[.string z,.bool s0,.slice x0 n0 c0,.slice y0 m0 d0,.int .i64 i1,.bool s1,.slice x1 n1 c1,.slice y1 m1 d1,.int .i64 i2,.bool s2,.slice x2 n2 c2,.slice y2 m2 d2] 65)).cell? ⟨wr.heap.size,10,none⟩=some (.slice x2 n2 c2):=by simp [go_sem]
   have a11:(wr.alloc (.cells #[.string z,.bool s0,.slice x0 n0 c0,.slice y0 m0 d0,.int .i64 i1,.bool s1,.slice x1 n1 c1,.slice y1 m1 d1,.int .i64 i2,.bool s2,.slice x2 n2 c2,.slice y2 m2 d2] 65)).cell? ⟨wr.heap.size,11,none⟩=some (.slice y2 m2 d2):=by simp [go_sem]
   obtain ⟨t1,ht1⟩:∃t,(bcB cs xs) i=t:=⟨_,rfl⟩;have HT1:=hid ht1;have CK:Hid (∀W,Below wr.heap.size wr W→Calls Tryz.prog 121 #[.agg #[.bool ss,.slice sx sn sc,.slice sy sm sd],.agg #[.int .i64 i1,.bool s1,.slice x1 n1 c1,.slice y1 m1 d1],.agg #[.int .i64 i2,.bool s2,.slice x2 n2 c2,.slice y2 m2 d2]] W fun e w'=>e=.returned (.bool (!t1))∧Below W.heap.size W w'):=fun W hW2=>by
    have hk9:=keeps_c (hr'.below hW2) (e1.below hW2) (e2.below hW2);rw [j1,j2] at hk9;rw [j1,j2,HEQ.out ht1];exact hk9
   have hln:=crl_len (bcB cs xs) i;have i1':((i:Nat):Int)<((cs.length:Nat):Int):=by omega
   clear hCi hc hV hvm hblo hbhi e1 e2 j1 j2 ht1 hr' HEQ hv;go_upto_region 8 with fail
   clear q0 q1 q2 q3 q4 q5 q6 q7 q8 q9 q10 q11;replace p0:=kCb hbt p0;replace p1:=kCb hbt p1;replace p2:=kCb hbt p2
   have HB3:=hid (HB2.out.trans (hbt.mono HB2.out.size));have HRow3:=hid (HRow.out.below hbt)
   replace CK:=hid (fun W (hW2:Below (wr.alloc (.cells #[.string z,.bool s0,.slice x0 n0 c0,.slice y0 m0 d0,.int .i64 i1,.bool s1,.slice x1 n1 c1,.slice y1 m1 d1,.int .i64 i2,.bool s2,.slice x2 n2 c2,.slice y2 m2 d2] 65)).heap.size (wr.alloc (.cells #[.string z,.bool s0,.slice x0 n0 c0,.slice y0 m0 d0,.int .i64 i1,.bool s1,.slice x1 n1 c1,.slice y1 m1 d1,.int .i64 i2,.bool s2,.slice x2 n2 c2,.slice y2 m2 d2] 65)) W)=>CK.out W (hbt.trans (hW2.mono hbt.size)));clear hbz hbt HB2 HRow;generalize hbx:wr.heap.size=bx at *;generalize wr.alloc (.cells #[.string z,.bool s0,.slice x0 n0 c0,.slice y0 m0 d0,.int .i64 i1,.bool s1,.slice x1 n1 c1,.slice y1 m1 d1,.int .i64 i2,.bool s2,.slice x2 n2 c2,.slice y2 m2 d2] 65)=w5 at *;clear hbx;go_region_held3 (fun w'=>w'.cell? ⟨bx,4,none⟩=some (.int .i64 i1)∧w'.cell? ⟨bx,5,none⟩=some (.bool s1)∧w'.cell? ⟨bx,6,none⟩=some (.slice x1 n1 c1)∧w'.cell? ⟨bx,7,none⟩=some (.slice y1 m1 d1)∧w'.cell? ⟨bx,8,none⟩=some (.int .i64 i2)∧w'.cell? ⟨bx,9,none⟩=some (.bool s2)∧w'.cell? ⟨bx,10,none⟩=some (.slice x2 n2 c2)∧w'.cell? ⟨bx,11,none⟩=some (.slice y2 m2 d2)∧w'.cell? ⟨b',o'+i*3,none⟩=some (.bool ss)∧w'.cell? ⟨b',o'+i*3+1,none⟩=some (.slice sx sn sc)∧w'.cell? ⟨b',o'+i*3+2,none⟩=some (.slice sy sm sd))
    (refine ⟨?_,?_,?_,?_,?_,?_,?_,?_,?_,?_,?_⟩ <;> repeat (with_reducible first | assumption | refine kCd ?_ | refine kCb (by assumption) ?_))
    (first | (go_at_call 121;with_reducible refine (CK.out _ belA).mono ?_;rintro e w6 ⟨rfl,hb6⟩))
   have HB6:=hid (HB3.out.trans ((show Below w5.heap.size w5 w6 from belA).mono HB3.out.size));have HRow6:=hid (HRow3.out.below (show Below w5.heap.size w5 w6 from belA))
   clear hb6 HB3 HRow3 CK p0 p1 p2 a4 a5 a6 a7 a8 a9 a10 a11;cases t1
   ·go_wp2;go_roundw
    case rel=>exact ⟨i+1,by omega,by go_num,HB6.out,by show RowG _ _ _ _ _ _ _;rw [crl_no HT1.out];exact HRow6.out⟩
    case measure=>simp [intOf];omega
   ·have hsz:=HB6.out.size;go_wp2_with (at_builtin;go_must (refine wpList_append_one w6 rfl (.tmp 39) (.tmp 41) 126 rfl w1.heap.size 3 8 1 (.int .i64 0) Tryz.underlying126 Tryz.infoInt rfl (by decide) nzi u8 (crl (bcB cs xs) i).length (ils (crl (bcB cs xs) i)) rfl HRow6.out #[.int .i64 (i:Int)] rfl rfl (onei _) (noti _) ?p1 (by decide) hsz ?_))
    case p1=>omega
    intro g8 cap8 w8 hr8 hk8 hb8 hg8;have HB8:=hid (hb8 w1 HB6.out (Nat.le_refl _));have HR8:Hid (RowG 3 1 w1.heap.size w8 (.slice (some ⟨g8,0,none⟩) ((crl (bcB cs xs) i).length+1) cap8) (crl (bcB cs xs) (i+1)).length (ils (crl (bcB cs xs) (i+1)))):=by
     show RowG _ _ _ _ _ _ _;rw [crl_yes HT1.out];simpa [ils] using hr8
    clear hr8 hk8 hb8 hg8 HRow6 HB6 hsz;go_wp2;go_roundw
    case rel=>exact ⟨i+1,by omega,by go_num,HB8.out,HR8.out⟩
    case measure=>simp [intOf];omega
  ·have i4:¬(((i:Nat):Int)<((cs.length:Nat):Int)):=by omega
   have e9:i=cs.length:=by omega
   obtain ⟨xa,xc,hvs⟩:=HRow.out.slice;have HL2:=HRow.out;rw [hvs] at HL2;have HIL:=hid (rowg_il HL2);rw [e9] at HIL hvs;subst hvs;replace BM:=hid (BM.out.below HB2.out);replace HB:=hid (HB.out.trans (HB2.out.mono HB.out.size));clear HL2 HRow HB2 e9 HX HC;have r0:=BM.out.cell (j:=0) rfl;have r1:=BM.out.cell (j:=1) rfl;have r2:=BM.out.cell (j:=2) rfl;have r3:=BM.out.cell (j:=3) rfl;have r4:=BM.out.cell (j:=4) rfl;go_wp2_with fail
   refine (CA2.out _ HB.out).mono ?_;rintro e w7 ⟨aa,ac,rfl,hb7,hac,HAct⟩;replace HB:=hid (HB.out.trans (hb7.mono HB.out.size));replace BM:=hid (BM.out.below hb7);have HCols:=hid (HIL.out.below hb7)
   clear hb7 HIL r0 r1 r2 r3 r4 CA2;have r4:=BM.out.cell (j:=4) rfl;go_wp2_with fail
   clear r4;go_loopw [9,50] (fun ov t wr=>∃(i:Nat),i≤rs.length∧t=.int .i64 i∧Hid (Below w7.heap.size w7 wr)∧Hid (RowG 3 1 w7.heap.size wr ov (crl (brB rs xs) i).length (ils (crl (brB rs xs) i)))) (fun _ t _=>rs.length-(intOf t).toNat)
   case atStart=>exact ⟨0,by omega,rfl,Below.refl _ _,rowG_nil _ _ _ _⟩
   case round =>
    obtain ⟨i,hi,rfl,HB2,HRow⟩:=hrel;by_cases hlt:i<rs.length
    ·obtain ⟨v,hv⟩:∃t,rs[i]?=some t:=⟨_,List.getElem?_eq_getElem (by omega)⟩;have hvm:=List.mem_of_getElem? hv;obtain ⟨⟨b,o,hba,hc⟩,hV⟩:=HR.out i v hv;subst hba;have hbz:=HB.out.trans (HB2.out.mono HB.out.size);obtain ⟨hblo,hbhi⟩:=MP.out.rb v hvm;have e1:=en_of (hV.lq.below hbz) (by omega) hV.li hblo;have e2:=en_of (hV.hq.below hbz) (by omega) hV.hi hbhi;obtain ⟨⟨z,⟨i1,⟨s1,x1,n1,c1,f1,y1,m1,d1,g1⟩⟩,⟨i2,⟨s2,x2,n2,c2,f2,y2,m2,d2,g2⟩⟩,ta,tk,tc,tcol,tt⟩,hCi⟩:∃t,R i=t:=⟨_,rfl⟩;rw [hCi] at hc e1 e2;replace e1:En 4096 wr i1 s1 x1 n1 c1 f1 y1 m1 d1 g1 v.lq:=e1;replace e2:En 4096 wr i2 s2 x2 n2 c2 f2 y2 m2 d2 g2 v.hq:=e2;have j1:i1=v.li:=by have:=hV.li;rw [hCi] at this;exact this
     have j2:i2=v.hi:=by have:=hV.hi;rw [hCi] at this;exact this
     replace hc:=Cs.below hc hbz;have q0:wr.cell? ⟨b,o+i*10,none⟩=some (.string z):=hc 0 _ rfl;have q1:wr.cell? ⟨b,o+i*10+1,none⟩=some (.int .i64 i1):=hc 1 _ rfl;have q2:wr.cell? ⟨b,o+i*10+2,none⟩=some (.bool s1):=hc 2 _ rfl;have q3:wr.cell? ⟨b,o+i*10+3,none⟩=some (.slice x1 n1 c1):=hc 3 _ rfl;have q4:wr.cell? ⟨b,o+i*10+4,none⟩=some (.slice y1 m1 d1):=hc 4 _ rfl;have q5:wr.cell? ⟨b,o+i*10+5,none⟩=some (.int .i64 i2):=hc 5 _ rfl;have q6:wr.cell? ⟨b,o+i*10+6,none⟩=some (.bool s2):=hc 6 _ rfl;have q7:wr.cell? ⟨b,o+i*10+7,none⟩=some (.slice x2 n2 c2):=hc 7 _ rfl;have q8:wr.cell? ⟨b,o+i*10+8,none⟩=some (.slice y2 m2 d2):=hc 8 _ rfl;have q9:wr.cell? ⟨b,o+i*10+9,none⟩=some (.slice ta tk tc):=hc 9 _ rfl;have hr:(rs.map (actQ xs))[i]?=some (actQ xs v):=by rw [List.getElem?_map,hv];rfl
     obtain ⟨b',o',⟨ss,sx,sn,sc,sf,sy,sm,sd,sg⟩,hax,⟨p0,p1,p2⟩,hr'⟩:=(HAct.out.below HB2.out) i _ hr;subst hax;replace p0:wr.cell? ⟨b',o'+i*3,none⟩=some (.bool ss):=p0;replace p1:wr.cell? ⟨b',o'+i*3+1,none⟩=some (.slice sx sn sc):=p1;replace p2:wr.cell? ⟨b',o'+i*3+2,none⟩=some (.slice sy sm sd):=p2;replace hr':Rn 4096 wr ss sx sn sc sf sy sm sd sg (actQ xs v):=Rn.mono hr' (by unfold KA;omega);have HEQ:Hid (∀{t},(brB rs xs) i=t→(!t)=kpsB (actQ xs v) v.li v.lq v.hi v.hq):=by
      intro t ht;rw [←ht,brB,hv];simp
     clear hr;have hbt:=below_alloc (Below.refl wr.heap.size wr) (.cells #[.string z,.int .i64 i1,.bool s1,.slice x1 n1 c1,.slice y1 m1 d1,.int .i64 i2,.bool s2,.slice x2 n2 c2,.slice y2 m2 d2,.slice ta tk tc] 68);have a1:(wr.alloc (.cells #[.string z,.int .i64 i1,.bool s1,.slice x1 n1 c1,.slice y1 m1 d1,.int .i64 i2,.bool s2,.slice x2 n2 c2,.slice y2 m2 d2,.slice ta tk tc] 68)).cell? ⟨wr.heap.size,1,none⟩=some (.int .i64 i1):=by simp [go_sem]
     have a2:(wr.alloc (.cells #[.string z,.int .i64 i1,.bool s1,.slice x1 n1 c1,.slice y1 m1 d1,.int .i64 i2,.bool s2,.slice x2 n2 c2,.slice y2 m2 d2,.slice ta tk tc] 68)).cell? ⟨wr.heap.size,2,none⟩=some (.bool s1):=by simp [go_sem]
     have a3:(wr.alloc (.cells #[.string z,.int .i64 i1,.bool s1,.slice x1 n1 c1,.slice y1 m1 d1,.int .i64 i2,.bool s2,.slice x2 n2 c2,.slice y2 m2 d2,.slice ta tk tc] 68)).cell? ⟨wr.heap.size,3,none⟩=some (.slice x1 n1 c1):=by simp [go_sem]
     have a4:(wr.alloc (.cells #[.string z,.int .i64 i1,.bool s1,.slice x1 n1 c1,.slice y1 m1 d1,.int .i64 i2,.bool s2,.slice x2 n2 c2,.slice y2 m2 d2,.slice ta tk tc] 68)).cell? ⟨wr.heap.size,4,none⟩=some (.slice y1 m1 d1):=by simp [go_sem]
     have a5:(wr.alloc (.cells #[.string z,.int .i64 i1,.bool s1,.slice x1 n1 c1,.slice y1 m1 d1,.int .i64 i2,.bool s2,.slice x2 n2 c2,.slice y2 m2 d2,.slice ta tk tc] 68)).cell? ⟨wr.heap.size,5,none⟩=some (.int .i64 i2):=by simp [go_sem]
     have a6:(wr.alloc (.cells #[.string z,.int .i64 i1,.bool s1,.slice x1 n1 c1,.slice y1 m1 d1,.int .i64 i2,.bool s2,.slice x2 n2 c2,.slice y2 m2 d2,.slice ta tk tc] 68)).cell? ⟨wr.heap.size,6,none⟩=some (.bool s2):=by simp [go_sem]
     have a7:(wr.alloc (.cells #[.string z,.int .i64 i1,.bool s1,.slice x1 n1 c1,.slice y1 m1 d1,.int .i64 i2,.bool s2,.slice x2 n2 c2,.slice y2 m2 d2,.slice ta tk tc] 68)).cell? ⟨wr.heap.size,7,none⟩=some (.slice x2 n2 c2):=by simp [go_sem]
     have a8:(wr.alloc (.cells #[.string z,.int .i64 i1,.bool s1,.slice x1 n1 c1,.slice y1 m1 d1,.int .i64 i2,.bool s2,.slice x2 n2 c2,.slice y2 m2 d2,.slice ta tk tc] 68)).cell? ⟨wr.heap.size,8,none⟩=some (.slice y2 m2 d2):=by simp [go_sem]
     obtain ⟨t1,ht1⟩:∃t,(brB rs xs) i=t:=⟨_,rfl⟩;have HT1:=hid ht1;have CK:Hid (∀W,Below wr.heap.size wr W→Calls Tryz.prog 121 #[.agg #[.bool ss,.slice sx sn sc,.slice sy sm sd],.agg #[.int .i64 i1,.bool s1,.slice x1 n1 c1,.slice y1 m1 d1],.agg #[.int .i64 i2,.bool s2,.slice x2 n2 c2,.slice y2 m2 d2]] W fun e w'=>e=.returned (.bool (!t1))∧Below W.heap.size W w'):=fun W hW2=>by
      have hk9:=keeps_c (hr'.below hW2) (e1.below hW2) (e2.below hW2);rw [j1,j2] at hk9;rw [j1,j2,HEQ.out ht1];exact hk9
     have hln:=crl_len (brB rs xs) i;have i1':((i:Nat):Int)<((rs.length:Nat):Int):=by omega
     clear hCi hc hV hvm hblo hbhi e1 e2 j1 j2 ht1 hr' HEQ hv;go_upto_region 15 with fail
     clear q0 q1 q2 q3 q4 q5 q6 q7 q8 q9;replace p0:=kCb hbt p0;replace p1:=kCb hbt p1;replace p2:=kCb hbt p2
     have HB3:=hid (HB2.out.trans (hbt.mono HB2.out.size));have HRow3:=hid (HRow.out.below hbt)
     replace CK:=hid (fun W (hW2:Below (wr.alloc (.cells #[.string z,.int .i64 i1,.bool s1,.slice x1 n1 c1,.slice y1 m1 d1,.int .i64 i2,.bool s2,.slice x2 n2 c2,.slice y2 m2 d2,.slice ta tk tc] 68)).heap.size (wr.alloc (.cells #[.string z,.int .i64 i1,.bool s1,.slice x1 n1 c1,.slice y1 m1 d1,.int .i64 i2,.bool s2,.slice x2 n2 c2,.slice y2 m2 d2,.slice ta tk tc] 68)) W)=>CK.out W (hbt.trans (hW2.mono hbt.size)));clear hbz hbt HB2 HRow;generalize hbx:wr.heap.size=bx at *;generalize wr.alloc (.cells #[.string z,.int .i64 i1,.bool s1,.slice x1 n1 c1,.slice y1 m1 d1,.int .i64 i2,.bool s2,.slice x2 n2 c2,.slice y2 m2 d2,.slice ta tk tc] 68)=w5 at *;clear hbx;go_region_held3 (fun w'=>w'.cell? ⟨bx,1,none⟩=some (.int .i64 i1)∧w'.cell? ⟨bx,2,none⟩=some (.bool s1)∧w'.cell? ⟨bx,3,none⟩=some (.slice x1 n1 c1)∧w'.cell? ⟨bx,4,none⟩=some (.slice y1 m1 d1)∧w'.cell? ⟨bx,5,none⟩=some (.int .i64 i2)∧w'.cell? ⟨bx,6,none⟩=some (.bool s2)∧w'.cell? ⟨bx,7,none⟩=some (.slice x2 n2 c2)∧w'.cell? ⟨bx,8,none⟩=some (.slice y2 m2 d2)∧w'.cell? ⟨b',o'+i*3,none⟩=some (.bool ss)∧w'.cell? ⟨b',o'+i*3+1,none⟩=some (.slice sx sn sc)∧w'.cell? ⟨b',o'+i*3+2,none⟩=some (.slice sy sm sd))
      (refine ⟨?_,?_,?_,?_,?_,?_,?_,?_,?_,?_,?_⟩ <;> repeat (with_reducible first | assumption | refine kCd ?_ | refine kCb (by assumption) ?_))
      (first | (go_at_call 121;with_reducible refine (CK.out _ belA).mono ?_;rintro e w6 ⟨rfl,hb6⟩))
     have HB6:=hid (HB3.out.trans ((show Below w5.heap.size w5 w6 from belA).mono HB3.out.size));have HRow6:=hid (HRow3.out.below (show Below w5.heap.size w5 w6 from belA))
     clear hb6 HB3 HRow3 CK p0 p1 p2 a1 a2 a3 a4 a5 a6 a7 a8;cases t1
     ·go_wp2;go_roundw
      case rel=>exact ⟨i+1,by omega,by go_num,HB6.out,by show RowG _ _ _ _ _ _ _;rw [crl_no HT1.out];exact HRow6.out⟩
      case measure=>simp [intOf];omega
     ·have hsz:=HB6.out.size;go_wp2_with (at_builtin;go_must (refine wpList_append_one w6 rfl (.tmp 65) (.tmp 67) 126 rfl w7.heap.size 3 8 1 (.int .i64 0) Tryz.underlying126 Tryz.infoInt rfl (by decide) nzi u9 (crl (brB rs xs) i).length (ils (crl (brB rs xs) i)) rfl HRow6.out #[.int .i64 (i:Int)] rfl rfl (onei _) (noti _) ?p1 (by decide) hsz ?_))
      case p1=>omega
      intro g8 cap8 w8 hr8 hk8 hb8 hg8;have HB8:=hid (hb8 w7 HB6.out (Nat.le_refl _));have HR8:Hid (RowG 3 1 w7.heap.size w8 (.slice (some ⟨g8,0,none⟩) ((crl (brB rs xs) i).length+1) cap8) (crl (brB rs xs) (i+1)).length (ils (crl (brB rs xs) (i+1)))):=by
       show RowG _ _ _ _ _ _ _;rw [crl_yes HT1.out];simpa [ils] using hr8
      clear hr8 hk8 hb8 hg8 HRow6 HB6 hsz;go_wp2;go_roundw
      case rel=>exact ⟨i+1,by omega,by go_num,HB8.out,HR8.out⟩
      case measure=>simp [intOf];omega
    ·have i4:¬(((i:Nat):Int)<((rs.length:Nat):Int)):=by omega
     have e9:i=rs.length:=by omega
     obtain ⟨ya,yc,hvs⟩:=HRow.out.slice;have HL2:=HRow.out;rw [hvs] at HL2;have HIL:=hid (rowg_il HL2);rw [e9] at HIL;have HVS:=hid hvs;rw [e9] at HVS;have HBF:=hid (HB.out.trans (HB2.out.mono HB.out.size));have HCF:=hid (HCols.out.below HB2.out)
     clear hvs HL2 HRow HB2 HAct e9;rw [HVS.out];go_wp2
     go_ret3
     exact ⟨HBF.out,.inr ⟨rfl,xa,xc,ya,yc,rfl,HCF.out,HIL.out⟩⟩
def AcAns (L:Nat) (w w':World) (e:Ending) (er:Int) (rs:List RV) (xs:List Rat):Prop:=Below w.heap.size w w' ∧
 ((er≠0∧e=.returned (.tuple #[.slice none 0 0,.int .i64 er]))∨(er=0∧∃a c,e=.returned (.tuple #[.slice a rs.length c,.int .i64 0])∧(rs.length≤c∧c≤9223372036854775807)∧Rf (KA L) w' a (rs.map (actQ xs))))
def feasB (cs:List CV) (rs:List RV) (xs:List Rat):Bool:=decide ((crl (bcB cs xs) cs.length).length=0) && decide ((crl (brB rs xs) rs.length).length=0)
def KV (L:Nat):Nat:=4+65*(2*L+1+1)
theorem gr_one {K base:Nat} {w:World} {s:Bool} {x:Option Addr} {n c:Nat} {f:Nat→Int} {y:Option Addr} {m d:Nat} {g:Nat→Int} {q:Rat} (h:Rn K w s x n c f y m d g q) (hb:base≤w.heap.size):Gr K base (w.alloc (.cells #[.bool s,.slice x n c,.slice y m d] 24)) (.slice (some ⟨w.heap.size,0,none⟩) 1 1) [q]:=by
 refine ⟨fun _=>⟨s,x,n,c,f,y,m,d,g⟩,⟨rfl,.inr ⟨w.heap.size,1,#[.bool s,.slice x n c,.slice y m d],rfl,hb,heap_alloc_new w _,Nat.le_refl _,by decide,rfl,rfl,nou_list (not3 _ _ _ _ _ _ _)⟩⟩,fun j q' e=>?_⟩;cases j with
 | zero=>cases e;exact h.alloc _
 | succ j=>simp at e
set_option maxRecDepth 100000 in
set_option maxHeartbeats 4000000 in
theorem pActs_v {w:World} {L:Nat} {M:Mo} {off:Rat} {cs:List CV} {rs:List RV} {ao:Option Addr} {k cap:Nat} {X:Nat→Nm} {xs:List Rat} {er:Int} (hW:MoW w M) (hx:Rl w ao k X) (hk:k≤1048576) (he:pckE M k X=er) (hv:er=0→MoV L w M off cs rs∧mvOk cs rs=true∧Rf L w ao xs∧xs.length=k∧k=cs.length) (hL:L≤30) :
  Calls Tryz.prog 85 #[M.val,.slice ao k cap] w fun e w'=>AcAns L w w' e er rs xs:=by
 have CC:=hid (fun W (hW2:Below w.heap.size w W)=>pcheck_c (cap:=cap) (hW.below hW2) (hx.below hW2) hk);rw [he] at CC;clear hW hx he;have HV:=hid hv;clear hv;have CA:Hid (er=0→∀W,Below w.heap.size w W→Calls Tryz.prog 122 #[M.val,.slice ao k cap] W fun e w'=>∃a c,e=.returned (.slice a rs.length c)∧Below W.heap.size W w'∧(rs.length≤c∧c≤9223372036854775807)∧Hid (Rf (KA L) w' a (rs.map (actQ xs)))):=fun h0 W hW2=>by
  obtain ⟨v1,v2,v3,v4,v5⟩:=HV.out h0;have mp:=mvOk_p v2;exact acts_c (v1.below hW2) (v3.below hW2) v4 (fun r hr t ht=>by have:=mp.tc r hr t ht;rw [v5];exact this) mp.rl mp.tl (by omega)
 obtain ⟨⟨s,x,n,c,f,y,m,d,g⟩,ca,ck,cc,C,ra,rk,rc,R⟩:=M;replace CC:Hid (∀W,Below w.heap.size w W→Calls Tryz.prog 120 #[.agg #[.bool s,.slice x n c,.slice y m d,.slice ca ck cc,.slice ra rk rc],.slice ao k cap] W fun e w'=>e=.returned (.int .i64 er)∧Below W.heap.size W w'):=CC;replace CA:Hid (er=0→∀W,Below w.heap.size w W→Calls Tryz.prog 122 #[.agg #[.bool s,.slice x n c,.slice y m d,.slice ca ck cc,.slice ra rk rc],.slice ao k cap] W fun e w'=>∃a c,e=.returned (.slice a rs.length c)∧Below W.heap.size W w'∧(rs.length≤c∧c≤9223372036854775807)∧Hid (Rf (KA L) w' a (rs.map (actQ xs)))):=CA;clear HV;show Calls Tryz.prog 85 #[.agg #[.bool s,.slice x n c,.slice y m d,.slice ca ck cc,.slice ra rk rc],.slice ao k cap] w _;have hb:=below_alloc (Below.refl w.heap.size w) (.cells #[.bool s,.slice x n c,.slice y m d,.slice ca ck cc,.slice ra rk rc] 28);have BM:Hid (Bk (w.alloc (.cells #[.bool s,.slice x n c,.slice y m d,.slice ca ck cc,.slice ra rk rc] 28)) w.heap.size [.bool s,.slice x n c,.slice y m d,.slice ca ck cc,.slice ra rk rc] 28):=bk_new w [.bool s,.slice x n c,.slice y m d,.slice ca ck cc,.slice ra rk rc] 28;have HB:=hid hb;clear hb;go_enter Tryz.func85,Tryz.ntmps85;go_wp2_with fail
 generalize w.alloc (.cells #[.bool s,.slice x n c,.slice y m d,.slice ca ck cc,.slice ra rk rc] 28)=w0 at *;refine (CC.out _ HB.out).mono ?_;rintro e w1 ⟨rfl,hb⟩;replace HB:=hid (HB.out.trans (hb.mono HB.out.size));replace BM:=hid (BM.out.below hb)
 clear hb CC;by_cases h0:er=0
 case neg =>
  have h1:(er != 0)=true:=by simpa using h0
  have H0:=hid h0;go_wp2
  go_ret2
  exact ⟨HB.out,.inl ⟨H0.out,rfl⟩⟩
 have CA2:=hid (CA.out h0);subst h0;clear CA;have r0:=BM.out.cell (j:=0) rfl;have r1:=BM.out.cell (j:=1) rfl;have r2:=BM.out.cell (j:=2) rfl;have r3:=BM.out.cell (j:=3) rfl;have r4:=BM.out.cell (j:=4) rfl;go_wp2_with fail
 refine (CA2.out _ HB.out).mono ?_;rintro e w2 ⟨aa,ac,rfl,hb,hac,HR⟩;replace HB:=hid (HB.out.trans (hb.mono HB.out.size));have HAC:=hid hac;clear hb hac r0 r1 r2 r3 r4 BM CA2;go_wp2
 go_ret2
 exact ⟨HB.out,.inr ⟨rfl,aa,ac,rfl,HAC.out,HR.out⟩⟩
set_option maxRecDepth 100000 in
set_option maxHeartbeats 4000000 in
theorem pFeas_v {w:World} {L:Nat} {M:Mo} {off:Rat} {cs:List CV} {rs:List RV} {ao:Option Addr} {k cap:Nat} {X:Nat→Nm} {xs:List Rat} {er:Int} (hW:MoW w M) (hx:Rl w ao k X) (hk:k≤1048576) (he:pckE M k X=er) (hv:er=0→MoV L w M off cs rs∧mvOk cs rs=true∧Rf L w ao xs∧xs.length=k∧k=cs.length) (hL:L≤30) :
  Calls Tryz.prog 47 #[M.val,.slice ao k cap] w fun e w'=>e=.returned (.tuple #[.bool (decide (er=0) && feasB cs rs xs),.int .i64 er])∧Below w.heap.size w w':=by
 have CB:Hid (∀W,Below w.heap.size w W→Calls Tryz.prog 83 #[M.val,.slice ao k cap] W fun e w'=>BrAns W w' e er cs rs xs):=fun W hW2=>pBroken_v (hW.below hW2) (hx.below hW2) hk he (fun h0=>⟨(hv h0).1.below hW2,(hv h0).2.1,(hv h0).2.2.1.below hW2,(hv h0).2.2.2⟩) hL
 clear hW hx hv he;obtain ⟨⟨s,x,n,c,f,y,m,d,g⟩,ca,ck,cc,C,ra,rk,rc,R⟩:=M;replace CB:Hid (∀W,Below w.heap.size w W→Calls Tryz.prog 83 #[.agg #[.bool s,.slice x n c,.slice y m d,.slice ca ck cc,.slice ra rk rc],.slice ao k cap] W fun e w'=>BrAns W w' e er cs rs xs):=CB;obtain ⟨l1,hl1⟩:∃z,(crl (bcB cs xs) cs.length).length=z:=⟨_,rfl⟩;obtain ⟨l2,hl2⟩:∃z,(crl (brB rs xs) rs.length).length=z:=⟨_,rfl⟩;have HF:Hid (feasB cs rs xs=(decide (l1=0) && decide (l2=0))):=by show _=_;rw [feasB,hl1,hl2]
 unfold BrAns at CB;rw [hl1,hl2] at CB;clear hl1 hl2;show Calls Tryz.prog 47 #[.agg #[.bool s,.slice x n c,.slice y m d,.slice ca ck cc,.slice ra rk rc],.slice ao k cap] w _;have HB:=hid (below_alloc (Below.refl w.heap.size w) (.cells #[.bool s,.slice x n c,.slice y m d,.slice ca ck cc,.slice ra rk rc] 28));go_enter Tryz.func47,Tryz.ntmps47;go_wp2_with fail
 refine (CB.out _ HB.out).mono ?_;rintro e w1 ⟨hb,hans⟩;replace HB:=hid (HB.out.trans (hb.mono HB.out.size));clear hb CB;rcases hans with ⟨h0,rfl⟩ | ⟨h0,xa,xc,ya,yc,rfl,_,_⟩
 ·have h1:(er==0)=false:=by simpa using h0
  have HE:Hid (decide (er=0)=false):=decide_eq_false h0;clear h0;go_wp2
  go_ret2
  exact ⟨by rw [HE.out];rfl,HB.out⟩
 ·subst h0;by_cases c1:l1=0
  ·subst c1;by_cases c2:l2=0
   ·subst c2;go_wp2
    go_ret2
    exact ⟨by rw [HF.out];rfl,HB.out⟩
   ·have c3:(((l2:Nat):Int)==0)=false:=by simp;omega
    have HE:Hid (decide (l2=0)=false):=decide_eq_false c2;go_wp2
    go_ret2
    exact ⟨by rw [HF.out,HE.out];rfl,HB.out⟩
  ·have c3:(((l1:Nat):Int)==0)=false:=by simp;omega
   have HE:Hid (decide (l1=0)=false):=decide_eq_false c1;go_wp2
   go_ret2
   exact ⟨by rw [HF.out,HE.out];rfl,HB.out⟩
structure Cr (base:Nat) (w:World) (g ck:Nat) (V:Nat→Value) (E:Nat→List Nm) (X:Nat→Prop):Prop where
 bl:∃cur,w.heap[g]?=some (.cells cur 29 (0,0))∧cur.size=ck∧NoU cur∧∀j,j<ck→cur[j]?=some (V j)
 ge:base≤g
 xg:¬X g
 row:∀j,j<ck→RowG 24 3 base w (V j) (E j).length (rcells (E j))
 ne:∀j,j<ck→(V j).ownBlock≠some g
 nx:∀j,j<ck→∀b,(V j).ownBlock=some b→¬X b
 dj:∀i j,i<ck→j<ck→i≠j→∀b,(V i).ownBlock=some b→(V j).ownBlock≠some b
theorem Cr.lt {base w g ck V E X} (h:Cr base w g ck V E X):g<w.heap.size:=by
 obtain ⟨cur,h1,_⟩:=h.bl;exact (Array.getElem?_eq_some_iff.1 h1).1
theorem Cr.below {base w w' g ck V E X} (h:Cr base w g ck V E X) (hb:Below w.heap.size w w'):Cr base w' g ck V E X:=by
 have hlt:=h.lt;obtain ⟨cur,h1,h2⟩:=h.bl;exact ⟨⟨cur,(hb.block g hlt).trans h1,h2⟩,h.ge,h.xg,fun j hj=>(h.row j hj).below hb,h.ne,h.nx,h.dj⟩
theorem Cr.cell {base w g ck V E X} (h:Cr base w g ck V E X) {j:Nat} (hj:j<ck):w.cell? ⟨g,j,none⟩=some (V j):=by
 obtain ⟨cur,h1,_,_,h2⟩:=h.bl;simp only [World.cell?,h1];simpa using h2 j hj
theorem Cr.unx {base w g ck V E X} (h:Cr base w g ck V E X) (Y:Nat→Prop) (hY:∀b,Y b→w.heap.size≤b):Cr base w g ck V E Y :=
 ⟨h.bl,h.ge,fun hy=>by have:=hY g hy;have:=h.lt;omega,h.row,h.ne,fun j hj b hb hy=>by have:=hY b hy;have:=((h.row j hj).lt b hb).2;omega,h.dj⟩
theorem Cr.congr {base w g ck V E E' X} (h:Cr base w g ck V E X) (he:∀j,j<ck→E j=E' j):Cr base w g ck V E' X :=
 ⟨h.bl,h.ge,h.xg,fun j hj=>by rw [←he j hj];exact h.row j hj,h.ne,h.nx,h.dj⟩
theorem Cr.put {base w w8 g ck V E X} (h : Cr base w g ck V E X) {c : Nat} (hc : c < ck) {g8 cap8 en : Nat} {x : Nm} (hen : (E c).length = en) (hX : ∀ b, X b → b < w.heap.size)
    (hr : RowG 24 3 base w8 (.slice (some ⟨g8, 0, none⟩) (en + 1) cap8) (en + 1) (rcells (E c) ++ rcell x))
    (hg : ∀ k, k < w.heap.size → (V c).ownBlock ≠ some k → w8.heap[k]? = w.heap[k]?) (hl : (V c).ownBlock = some g8 ∨ w.heap.size ≤ g8) :
    Cr base (w8.setCell ⟨g, c, none⟩ (.slice (some ⟨g8, 0, none⟩) (en + 1) cap8)) g ck (putV V c (.slice (some ⟨g8, 0, none⟩) (en + 1) cap8)) (fun j => if j = c then E c ++ [x] else E j) X := by
  subst hen
  have hgl := h.lt
  have hg8 : g8 ≠ g := fun e => by
    rcases hl with h1 | h1
    · exact h.ne c hc (e ▸ h1)
    · omega
  have hset : ∀ k, k ≠ g → (w8.setCell ⟨g, c, none⟩ (.slice (some ⟨g8, 0, none⟩) ((E c).length + 1) cap8)).heap[k]? = w8.heap[k]? := fun k hk => Below.heap_setCell _ _ _ _ hk
  obtain ⟨cur, h1, h2, h3, h4⟩ := h.bl
  have h8 : w8.heap[g]? = some (.cells cur 29 (0, 0)) := (hg g hgl (h.ne c hc)).trans h1
  refine ⟨⟨cur.setIfInBounds c (.slice (some ⟨g8, 0, none⟩) ((E c).length + 1) cap8), ?_, by simpa using h2, ?_, fun j hj => ?_⟩, h.ge, h.xg, fun j hj => ?_, fun j hj => ?_, fun j hj b hb => ?_, fun i j hi hj hij b hb => ?_⟩
  · simp [World.setCell, Array.getElem?_modify, h8]
  · intro i z
    by_cases e : i = c
    · subst e
      rw [Array.getElem?_setIfInBounds_self]; split <;> simp
    · rw [Array.getElem?_setIfInBounds_ne (Ne.symm e)]; exact h3 i z
  · by_cases e : j = c
    · subst e; rw [putV_at]; simp [h2, hj]
    · rw [putV_ne e, Array.getElem?_setIfInBounds_ne (Ne.symm e)]; exact h4 j hj
  · by_cases e : j = c
    · subst e
      rw [putV_at]
      simp only [if_true, List.length_append, List.length_singleton]
      have : rcells (E j ++ [x]) = rcells (E j) ++ rcell x := by simp [rcells]
      rw [this]
      exact hr.of (fun k hk => hset k (fun e => by have : g8 = k := by simpa [Value.ownBlock] using hk
                                                   omega))
    · rw [putV_ne e]
      simp only [e, if_false]
      refine (h.row j hj).of (fun k hk => ?_)
      have hk1 := ((h.row j hj).lt k hk).2
      rw [hset k (fun e2 => h.ne j hj (e2 ▸ hk)), hg k hk1 (fun e2 => h.dj c j hc hj (Ne.symm e) k e2 hk)]
  · by_cases e : j = c
    · subst e; rw [putV_at]; intro e2; exact hg8 (by simpa [Value.ownBlock] using e2)
    · rw [putV_ne e]; exact h.ne j hj
  · by_cases e : j = c
    · subst e
      rw [putV_at] at hb
      have hb' : g8 = b := by simpa [Value.ownBlock] using hb
      intro hx
      rcases hl with h5 | h5
      · exact h.nx j hj b (hb' ▸ h5) hx
      · have := hX b hx; omega
    · rw [putV_ne e] at hb; exact h.nx j hj b hb
  · by_cases e : i = c
    · subst e
      rw [putV_at] at hb
      have hb' : g8 = b := by simpa [Value.ownBlock] using hb
      rw [putV_ne (Ne.symm hij)]
      intro h5
      rcases hl with h6 | h6
      · exact h.dj i j hi hj hij g8 h6 (hb' ▸ h5)
      · have := ((h.row j hj).lt b h5).2; omega
    · rw [putV_ne e] at hb
      by_cases e2 : j = c
      · subst e2
        rw [putV_at]
        intro h5
        have hb' : g8 = b := by simpa [Value.ownBlock] using h5
        rcases hl with h6 | h6
        · exact h.dj i j hi hj hij b hb (hb' ▸ h6)
        · have := ((h.row i hi).lt b hb).2; omega
      · rw [putV_ne e2]; exact h.dj i j hi hj hij b hb
theorem cr_new {base:Nat} {w:World} {g ck:Nat} (hb:base≤g) (h:∃cur,w.heap[g]?=some (.cells cur 29 (0,0))∧cur.size=ck∧NoU cur∧∀j,j<ck→cur[j]?=some (.slice none 0 0)):Cr base w g ck (fun _=>.slice none 0 0) (fun _=>[]) (fun _=>False) :=
 ⟨h,hb,fun h=>h,fun _ _=>rowG_nil _ _ _ _,(fun _ _ h=>nomatch h),(fun _ _ _ h=>nomatch h),(fun _ _ _ _ _ _ h=>nomatch h)⟩
theorem Tryz.infoLr:(Tryz.prog.info? 29).map (fun i=>(i.zero,i.size,i.bytes))=some (some (.slice none 0 0),1,24):=by kernel_rfl
def Lv (L:Nat) (w:World) (E:List Nm) (p:List Rat):Prop:=E.length=p.length∧∀(j:Nat) (t:Nm) (q:Rat),E[j]?=some t→p[j]?=some q→NmV L w t q
theorem Lv.nil (L:Nat) (w:World):Lv L w [] []:=⟨rfl,fun j t q h=>by simp at h⟩
theorem Lv.below {L w w' E p} (h:Lv L w E p) (hb:Below w.heap.size w w'):Lv L w' E p:=⟨h.1,fun j t q a b=>Rn.below (h.2 j t q a b) hb⟩
theorem Lv.kp {L w w' E p} (h:Lv L w E p) (hb:Kp w w'):Lv L w' E p:=⟨h.1,fun j t q a b=>Rn.kp (h.2 j t q a b) hb⟩
theorem Lv.snoc {L w E p t q} (h:Lv L w E p) (hq:NmV L w t q):Lv L w (E++[t]) (p++[q]):=by
 refine ⟨by rw [List.length_append,List.length_append,h.1];rfl,fun j t' q' a b=>?_⟩;by_cases hj:j<E.length
 ·rw [List.getElem?_append_left hj] at a;rw [List.getElem?_append_left (by rw [←h.1];exact hj)] at b;exact h.2 j t' q' a b
 ·rw [List.getElem?_append_right (by omega)] at a;rw [List.getElem?_append_right (by rw [←h.1];omega),←h.1] at b;obtain ⟨k,hk⟩:∃k,j-E.length=k:=⟨_,rfl⟩;rw [hk] at a b;cases k with
  | zero=>cases a;cases b;exact hq
  | succ k=>simp at a
def entQ (y:Rat):List (Int × Rat)→Nat→List Rat
 | [],_=>[]
 | (z,a) :: r,j=>(if z=(j:Int) then [-y*a] else [])++entQ y r j
def centQ:List RV→List Rat→Nat→List Rat
 | v :: rs,y :: ys,j=>entQ y v.ts j++centQ rs ys j
 | _,_,_=>[]
theorem entQ_take {y:Rat}:∀{ts:List (Int × Rat)} {p:Nat} {z:Int} {a:Rat} (j:Nat),ts[p]?=some (z,a)→entQ y (ts.take (p+1)) j=entQ y (ts.take p) j++(if z=(j:Int) then [-y*a] else [])
 | [],p,z,a,j,h=>by simp at h
 | (z',a') :: r,0,z,a,j,h=>by
  have e:z'=z∧a'=a:=by simpa using h
  obtain ⟨rfl,rfl⟩:=e;simp [entQ]
 | (z',a') :: r,p+1,z,a,j,h=>by
  simp only [List.take_succ_cons,entQ];rw [entQ_take (ts:=r) (p:=p) j (by simpa using h),List.append_assoc]
theorem centQ_take:∀{rs:List RV} {ys:List Rat} {i:Nat} {v:RV} {y:Rat} (j:Nat),rs[i]?=some v→ys[i]?=some y→centQ (rs.take (i+1)) (ys.take (i+1)) j=centQ (rs.take i) (ys.take i) j++entQ y v.ts j
 | [],_,_,_,_,_,h,_=>by simp at h
 | _ :: _,[],_,_,_,_,_,h=>by simp at h
 | v' :: rs,y' :: ys,0,v,y,j,h,h2=>by
  have e1:v'=v:=by simpa using h
  have e2:y'=y:=by simpa using h2
  subst e1;subst e2
  simp [centQ]
 | v' :: rs,y' :: ys,i+1,v,y,j,h,h2=>by
  simp only [List.take_succ_cons,centQ];rw [centQ_take (rs:=rs) (ys:=ys) (i:=i) j (by simpa using h) (by simpa using h2),List.append_assoc]
theorem entQ_low {y:Rat} {n j:Nat}:∀{ts:List (Int × Rat)} {z:Int},tsB n z ts=true→(j:Int)≤z→entQ y ts j=[]
 | [],_,_,_=>rfl
 | (z',q) :: r,z,h,hj=>by
  simp only [tsB,Bool.and_eq_true,decide_eq_true_eq] at h;simp only [entQ];rw [if_neg (by omega),entQ_low h.2.2.2 (by omega)];rfl
theorem entQ_len {y:Rat} {n j:Nat}:∀{ts:List (Int × Rat)} {z:Int},tsB n z ts=true→(entQ y ts j).length≤1
 | [],_,_=>by simp [entQ]
 | (z',q) :: r,z,h=>by
  simp only [tsB,Bool.and_eq_true,decide_eq_true_eq] at h;simp only [entQ];by_cases e:z'=(j:Int)
  ·rw [if_pos e,entQ_low h.2.2.2 (by omega)];simp
  ·rw [if_neg e,List.nil_append];exact entQ_len h.2.2.2
theorem centQ_len {n j:Nat}:∀{rs:List RV} {ys:List Rat},(∀v ∈ rs,tsB n (-1) v.ts=true)→(centQ rs ys j).length≤rs.length
 | [],_,_=>by simp [centQ]
 | _ :: _,[],_=>by simp [centQ]
 | v :: rs,y :: ys,h=>by
  have h1:=entQ_len (y:=y) (j:=j) (h v List.mem_cons_self);have h2:=centQ_len (rs:=rs) (ys:=ys) (j:=j) (fun v' hv=>h v' (List.mem_cons_of_mem _ hv));simp only [centQ,List.length_append,List.length_cons];omega
theorem tsB_takeD {n:Nat}:∀{ts:List (Int × Rat)} {z:Int} (i:Nat),tsB n z ts=true→tsB n z (ts.take i)=true
 | [],_,i,_=>by simp [tsB]
 | (y,q) :: r,z,0,_=>rfl
 | (y,q) :: r,z,i+1,h=>by
  simp only [tsB,Bool.and_eq_true,decide_eq_true_eq] at h;simp only [List.take_succ_cons,tsB,Bool.and_eq_true,decide_eq_true_eq];exact ⟨h.1,h.2.1,h.2.2.1,tsB_takeD i h.2.2.2⟩
def redC (rs:List RV) (ys:List Rat):Nat→List CV→List Rat
 | _,[]=>[]
 | j,v :: cs=>psum (centQ rs ys j++[v.cost]) 0 :: redC rs ys (j+1) cs
theorem redC_len (rs:List RV) (ys:List Rat):∀(cs:List CV) (j:Nat),(redC rs ys j cs).length=cs.length
 | [],_=>rfl
 | v :: cs,j=>by simp [redC,redC_len rs ys cs (j+1)]
theorem redC_take (rs:List RV) (ys:List Rat):∀{cs:List CV} {i:Nat} {v:CV} (j:Nat),cs[i]?=some v→redC rs ys j (cs.take (i+1))=redC rs ys j (cs.take i)++[psum (centQ rs ys (j+i)++[v.cost]) 0]
 | [],i,v,j,h=>by simp at h
 | v' :: cs,0,v,j,h=>by
  have e:v'=v:=by simpa using h
  subst e;simp [redC]
 | v' :: cs,i+1,v,j,h=>by
  simp only [List.take_succ_cons,redC];rw [redC_take rs ys (cs:=cs) (i:=i) (j+1) (by simpa using h),show j+(i+1)=j+1+i by omega];rfl
set_option maxRecDepth 100000 in
set_option maxHeartbeats 4000000 in
theorem dtimes_c {L:Nat} {w:World} {sa:Bool} {xa:Option Addr} {na ca:Nat} {fa:Nat→Int} {ya:Option Addr} {ma da:Nat} {ga:Nat→Int} {a:Rat} {sb:Bool} {xb:Option Addr} {nb cb:Nat} {fb:Nat→Int} {yb:Option Addr} {mb db:Nat} {gb:Nat→Int} {b:Rat} (ha:Rn L w sa xa na ca fa ya ma da ga a) (hb:Rn L w sb xb nb cb fb yb mb db gb b) (hL:L≤200000) :
  Calls Tryz.prog 31 #[.agg #[.bool sa,.slice xa na ca,.slice ya ma da],.agg #[.bool sb,.slice xb nb cb,.slice yb mb db]] w fun e w'=>RatAns (2*L+1) w w' e (a*b):=by
 have h1:=((ha.alloc (.cells #[.bool sa,.slice xa na ca,.slice ya ma da] 24)).alloc (.cells #[.bool sb,.slice xb nb cb,.slice yb mb db] 24)).alloc (.cells #[.bool false,.slice none 0 0,.slice none 0 0] 24);have h2:=((hb.alloc (.cells #[.bool sa,.slice xa na ca,.slice ya ma da] 24)).alloc (.cells #[.bool sb,.slice xb nb cb,.slice yb mb db] 24)).alloc (.cells #[.bool false,.slice none 0 0,.slice none 0 0] 24);have h3:=ob_new ((w.alloc (.cells #[.bool sa,.slice xa na ca,.slice ya ma da] 24)).alloc (.cells #[.bool sb,.slice xb nb cb,.slice yb mb db] 24)) 24;rw [size_alloc1,size_alloc1] at h3;have h4:=below_alloc (below_alloc (below_alloc (Below.refl w.heap.size w) (.cells #[.bool sa,.slice xa na ca,.slice ya ma da] 24)) (.cells #[.bool sb,.slice xb nb cb,.slice yb mb db] 24)) (.cells #[.bool false,.slice none 0 0,.slice none 0 0] 24);clear ha hb;go_enter Tryz.func31,Tryz.ntmps31;go_wp2_with fail
 generalize ((w.alloc (.cells #[.bool sa,.slice xa na ca,.slice ya ma da] 24)).alloc (.cells #[.bool sb,.slice xb nb cb,.slice yb mb db] 24)).alloc (.cells #[.bool false,.slice none 0 0,.slice none 0 0] 24)=w1 at *;have OB1:=hid h3;have HW1:=hid h4
 refine (rMul_n h1 h2 hL).mono ?_;clear h1 h2 h3 h4;rintro e w2 ⟨s,x,n,c,f,y,m,d,g,rfl,hb2,hq⟩;have hob:=OB1.out.below hb2;have hbw:=HW1.out.trans (hb2.mono HW1.out.size);obtain ⟨hz,z0,z1,z2,zf⟩:=OB1.out.below hb2;have HQ:=hid hq;have HOB:=hid hob;have HBW:=hid hbw
 clear hq hob hbw hb2 OB1 HW1;go_wp2;exact bodyPost_ret (v:=.agg #[.bool s,.slice x n c,.slice y m d]) (by simp [results,Tryz.results31,go_sem,z0,z1,z2,hz]) rfl ⟨s,x,n,c,f,y,m,d,g,rfl,below_alloc (below_st HBW.out (by omega)) _,(HOB.out.rn HQ.out).alloc _⟩
def dckE (M:Mo) (k:Nat) (X:Nat→Nm):Int:=lsf (two (chkE M) (pnE k X M.rk)) 2
def RdAns (L:Nat) (w w':World) (e:Ending) (er:Int) (cs:List CV) (rs:List RV) (ys:List Rat):Prop:=Below w.heap.size w w' ∧
 ((er≠0∧e=.returned (.tuple #[.slice none 0 0,.int .i64 er]))∨(er=0∧∃a c,e=.returned (.tuple #[.slice a cs.length c,.int .i64 0])∧(cs.length≤c∧c≤9223372036854775807)∧Rf (KV L) w' a (redC rs ys 0 cs)))
structure Ct (base:Nat) (w:World) (g ck i:Nat) (V:Nat→Value) (E:Nat→List Nm):Prop where
 cell:∀j,i≤j→j<ck→w.cell? ⟨g,j,none⟩=some (V j)
 row:∀j,i≤j→j<ck→RowG 24 3 base w (V j) (E j).length (rcells (E j))
theorem Cr.ct {base w g ck V E X} (h:Cr base w g ck V E X):Ct base w g ck 0 V E:=⟨fun _ _ hj=>h.cell hj,fun j _ hj=>h.row j hj⟩
theorem Ct.below {base w w' g ck i V E} (h:Ct base w g ck i V E) (hb:Below w.heap.size w w'):Ct base w' g ck i V E:=⟨fun j a b=>kCb hb (h.cell j a b),fun j a b=>(h.row j a b).below hb⟩
theorem Ct.of {base w w' g ck i i' V E} (h:Ct base w g ck i V E) (hi:i≤i') (hg:w'.heap[g]?=w.heap[g]?) (hb:∀j,i'≤j→j<ck→∀b,(V j).ownBlock=some b→w'.heap[b]?=w.heap[b]?):Ct base w' g ck i' V E :=
 ⟨fun j a b=>(World.cell?_of_block (a:=⟨g,j,none⟩) hg).trans (h.cell j (by omega) b),fun j a b=>(h.row j (by omega) b).of (hb j a b)⟩
theorem Gr.of {K base w w' v p} (h:Gr K base w v p) (hb:∀b,v.ownBlock=some b→w'.heap[b]?=w.heap[b]?) (hk:Kp w w'):Gr K base w' v p:=by
 obtain ⟨T,h1,h2⟩:=h;exact ⟨T,h1.of hb,fun j q e=>Rn.kp (h2 j q e) hk⟩
theorem Gr.own {K base w v p} (h:Gr K base w v p):∀b,v.ownBlock=some b→base≤b∧b<w.heap.size:=by
 obtain ⟨T,h1,h2⟩:=h;exact h1.lt
theorem rls_of (E:List Nm) (t:Nm):E=rls E.length (fun j=>E.getD j t):=by
 apply List.ext_getElem?;intro j;by_cases hj:j<E.length
 ·rw [rls_get hj,List.getD_eq_getElem?_getD,List.getElem?_eq_getElem hj];rfl
 ·rw [List.getElem?_eq_none (by omega),List.getElem?_eq_none (by simp [rls];omega)]
theorem rowg_rf {L base w ao n cap E p} (h:RowG 24 3 base w (.slice ao n cap) E.length (rcells E)) (hv:Lv L w E p) (hn:n=E.length):Rf L w ao p:=fun j q hj=>by
 subst hn;have hl:j<E.length:=by rw [hv.1];exact (List.getElem?_eq_some_iff.1 hj).1
 have t0:Nm:=⟨false,none,0,0,fun _=>0,none,0,0,fun _=>0⟩;rw [show rcells E=rcells (rls E.length (fun j=>E.getD j t0)) by rw [←rls_of]] at h;obtain ⟨b,e,hc⟩:=rowg_c3 h hl;refine ⟨b,0,E.getD j t0,e,hc,hv.2 j _ q ?_ hj⟩;rw [List.getD_eq_getElem?_getD,List.getElem?_eq_getElem hl];rfl
set_option maxRecDepth 100000 in
set_option maxHeartbeats 8000000 in
theorem dReduced_v {w:World} {L:Nat} {M:Mo} {off:Rat} {cs:List CV} {rs:List RV} {ao:Option Addr} {k cap:Nat} {X:Nat→Nm} {ys:List Rat} {er:Int} (hW:MoW w M) (hx:Rl w ao k X) (hk:k≤1048576) (he:dckE M k X=er) (hv:er=0→MoV L w M off cs rs∧mvOk cs rs=true∧Rf L w ao ys∧ys.length=k∧k=rs.length) (hL:L≤30) :
  Calls Tryz.prog 8 #[M.val,.slice ao k cap] w fun e w'=>RdAns L w w' e er cs rs ys:=by
 have CC:=hid (fun W (hW2:Below w.heap.size w W)=>check_w (hW.below hW2));have CN:=hid (fun W (hW2:Below w.heap.size w W)=>pNumbers_c (w:=W) (cap:=cap) (z:=(M.rk:Int)) (hx.below hW2) hk);have HE:=hid he;unfold dckE at he;obtain ⟨e0,he0⟩:∃e,chkE M=e:=⟨_,rfl⟩;rw [he0] at CC he;obtain ⟨e1,he1⟩:∃e,pnE k X M.rk=e:=⟨_,rfl⟩;rw [he1] at CN he;have HE2:=hid he;have HV:=hid hv
 clear hW hx he0 he1 he hv;obtain ⟨⟨s,x,n,c,f,y,m,d,g⟩,ca,ck,cc,C,ra,rk,rc,R⟩:=M;replace CC:Hid (∀W,Below w.heap.size w W→Calls Tryz.prog 28 #[.agg #[.bool s,.slice x n c,.slice y m d,.slice ca ck cc,.slice ra rk rc]] W fun r w'=>r=.returned (.int .i64 e0)∧Below W.heap.size W w'):=CC;replace CN:Hid (∀W,Below w.heap.size w W→Calls Tryz.prog 29 #[.slice ao k cap,.int .i64 (rk:Int)] W fun e w'=>e=.returned (.int .i64 e1)∧Below W.heap.size W w'):=CN;show Calls Tryz.prog 8 #[.agg #[.bool s,.slice x n c,.slice y m d,.slice ca ck cc,.slice ra rk rc],.slice ao k cap] w _;have hb:=below_alloc (Below.refl w.heap.size w) (.cells #[.bool s,.slice x n c,.slice y m d,.slice ca ck cc,.slice ra rk rc] 28);have r0:(w.alloc (.cells #[.bool s,.slice x n c,.slice y m d,.slice ca ck cc,.slice ra rk rc] 28)).drew.cell? ⟨w.heap.size,0,none⟩=some (.bool s):=kCd (by simp [go_sem]);have r1:(w.alloc (.cells #[.bool s,.slice x n c,.slice y m d,.slice ca ck cc,.slice ra rk rc] 28)).drew.cell? ⟨w.heap.size,1,none⟩=some (.slice x n c):=kCd (by simp [go_sem]);have r2:(w.alloc (.cells #[.bool s,.slice x n c,.slice y m d,.slice ca ck cc,.slice ra rk rc] 28)).drew.cell? ⟨w.heap.size,2,none⟩=some (.slice y m d):=kCd (by simp [go_sem]);have r3:(w.alloc (.cells #[.bool s,.slice x n c,.slice y m d,.slice ca ck cc,.slice ra rk rc] 28)).drew.cell? ⟨w.heap.size,3,none⟩=some (.slice ca ck cc):=kCd (by simp [go_sem]);have r4:(w.alloc (.cells #[.bool s,.slice x n c,.slice y m d,.slice ca ck cc,.slice ra rk rc] 28)).drew.cell? ⟨w.heap.size,4,none⟩=some (.slice ra rk rc):=kCd (by simp [go_sem]);have HB:=hid (Below.drew hb);have hsz0:w.heap.size<(w.alloc (.cells #[.bool s,.slice x n c,.slice y m d,.slice ca ck cc,.slice ra rk rc] 28)).drew.heap.size:=by show w.heap.size<(w.alloc _).heap.size;simp
 clear hb;go_enter Tryz.func8,Tryz.ntmps8;go_upto_region 1 with fail
 refine wp_region_held_drew (S:=(fun w'=>w'.cell? ⟨w.heap.size,0,none⟩=some (.bool s)∧w'.cell? ⟨w.heap.size,1,none⟩=some (.slice x n c)∧w'.cell? ⟨w.heap.size,2,none⟩=some (.slice y m d)∧w'.cell? ⟨w.heap.size,3,none⟩=some (.slice ca ck cc)∧w'.cell? ⟨w.heap.size,4,none⟩=some (.slice ra rk rc))) (by kernel_rfl) ?_ (fun hHeld=>?_)
 ·exact ⟨r0,r1,r2,r3,r4⟩
 generalize (w.alloc (.cells #[.bool s,.slice x n c,.slice y m d,.slice ca ck cc,.slice ra rk rc] 28)).drew=wd at *;clear r0 r1 r2 r3 r4;refine tkO 0 ?_;simp only [lay_,Act.put];refine tkO 2 ?_;simp only [lay_,Act.put];refine tkO 3 ?_;simp only [lay_,Act.put];refine tkO 4 ?_;simp only [lay_,Act.put];refine tkO 5 ?_;simp only [lay_,Act.put];refine wpAnyH_ready (rs:=[1]) (by kernel_rfl) (by simp) ?_;refine AllReadyH.cons (o:=_) rfl (fun K hK=>?_) ?_;rotate_left;exact AllReadyH.nil;go_simp
 go_at_call 28
 refine (CC.out _ HB.out).mono ?_;rintro e w4 ⟨rfl,hb4⟩
 (try go_wp2_with fail)
 refine hK.out _ _ ?_ (fun hH4=>?_)
 ·exact ⟨kCb hb4 hHeld.1,kCb hb4 hHeld.2.1,kCb hb4 hHeld.2.2.1,kCb hb4 hHeld.2.2.2.1,kCb hb4 hHeld.2.2.2.2⟩
 clear hK K;have HB4:=hid (HB.out.trans (hb4.mono HB.out.size));try simp only [lay_,Act.put]
 refine wpAnyH_ready (rs:=[6]) (by kernel_rfl) (by simp) ?_;refine AllReadyH.cons (o:=_) rfl (fun K hK=>?_) ?_;rotate_left;exact AllReadyH.nil;go_simp
 go_at_call 29
 refine (CN.out _ HB4.out).mono ?_;rintro e w5 ⟨rfl,hb5⟩
 (try go_wp2_with fail)
 refine hK.out _ _ ?_ (fun hH5=>?_)
 ·exact ⟨kCb hb5 hH4.1,kCb hb5 hH4.2.1,kCb hb5 hH4.2.2.1,kCb hb5 hH4.2.2.2.1,kCb hb5 hH4.2.2.2.2⟩
 clear hK K;have HB5:=hid (HB4.out.trans (hb5.mono HB4.out.size));obtain ⟨r0,r1,r2,r3,r4⟩:=id hH5;try simp only [lay_,Act.put]
 refine wpAnyH_ready (rs:=[7]) (by kernel_rfl) (by simp) ?_;refine AllReadyH.cons (o:=_) rfl (fun K hK=>?_) ?_;rotate_left;exact AllReadyH.nil;go_simp;have hbA:=below_alloc (Below.refl w5.heap.size w5) (.cells #[.int .i64 e0,.int .i64 e1] 33);have HEl:=hid (two_el (w:=w5) (a:=e0) (b:=e1) (t:=33));have HWA:=hid (HB5.out.trans (hbA.mono HB5.out.size));obtain ⟨gA,hgA⟩:∃z,w5.heap.size=z:=⟨_,rfl⟩;rw [hgA] at HEl ⊢;generalize hwA:w5.alloc (.cells #[.int .i64 e0,.int .i64 e1] 33)=wA at *;clear hwA hgA;refine hK.out _ _ ?_ (fun hHA=>?_)
 ·((try dsimp only);(refine ⟨?_,?_,?_,?_,?_⟩ <;> repeat (with_reducible first | assumption | refine kCb (by assumption) ?_)))
 clear hK K;try simp only [lay_,Act.put]
 refine wpAnyH_ready (rs:=[8]) (by kernel_rfl) (by simp) ?_;refine AllReadyH.cons (o:=_) rfl (fun K hK=>?_) ?_;rotate_left;exact AllReadyH.nil;go_simp
 go_at_call 27
 refine (least_c HEl.out (by decide)).mono ?_;rintro e w9 ⟨rfl,rfl⟩
 (try go_wp2_with fail)
 refine hK.out _ _ ?_ (fun hHB=>?_)
 ·exact hHA
 clear hK K;try simp only [lay_,Act.put]
 refine tkO 9 ?_;simp only [lay_,Act.put];refine wpAnyH_done (by kernel_rfl) ?_ _;simp only [show lsf (two e0 e1) 2=er from HE2.out];obtain ⟨r0,r1,r2,r3,r4⟩:=id hHB;have hszA:w.heap.size<w9.heap.size:=by have h1:=hb4.size;have h2:=hb5.size;have h3:=hbA.size;omega
 have HBA:=hid HWA.out;clear HE2 hHeld hH4 hH5 hHA hHB hb4 hb5 hbA HEl CC CN HB HB4 HB5 HWA hsz0;by_cases h0:er=0
 case neg =>
  have h1:(er != 0)=true:=by simpa using h0
  have H0:=hid h0;clear r0 r1 r2 r3 r4;go_wp2
  go_ret2
  exact ⟨HBA.out,.inl ⟨H0.out,rfl⟩⟩
 obtain ⟨v1,v2,v3,v4,v5⟩:=HV.out h0;have mp:=mvOk_p v2;have ht:∀v ∈ rs,tsB cs.length (-1) v.ts=true:=by
  simp only [mvOk,Bool.and_eq_true,decide_eq_true_eq,List.all_eq_true] at v2;obtain ⟨_,_,_,h4,_⟩:=v2;exact fun v hv=>(h4 v hv).2.1
 subst h0;have l64:=mp.cl;have r64:=mp.rl
 have HC:Hid (∀j v,cs[j]?=some v→(∃b o,ca=some ⟨b,o,none⟩∧Cs w b (o+j*12) (C j).vs)∧ColV L w (C j) v):=v1.cls;have HR:Hid (∀j v,rs[j]?=some v→(∃b o,ra=some ⟨b,o,none⟩∧Cs w b (o+j*10) (R j).vs)∧RowV L w (R j) v):=v1.rls;have hck:ck=cs.length:=v1.ck;have hrk:rk=rs.length:=v1.rk;subst hck;subst hrk
 subst v5;have HY:=hid v3;have HYL:=hid v4;have HTB:Hid (∀v ∈ rs,tsB cs.length (-1) v.ts=true):=ht;have HTL:=hid mp.tl
 clear v1 v2 v3 v4 mp ht HV HE hk;go_wp2_with (at_make;refine wpList_make_co _ rfl (.tmp 31) (.tmp 31) 74 rfl 29 24 Tryz.underlying74 Tryz.infoLr .i64 .i64 cs.length cs.length cs.length rfl rfl rfl rfl (by omega) (by unfold maxLen;omega) ?_;intro w3 hk3 hb3;have k43:=kCb hb3 r4)
 have HK3:Hid (w9.cell? ⟨w.heap.size,3,none⟩=some (.slice ca cs.length cc)):=hid r3;have HCo:=hid (cr_new (base:=w9.heap.size) (Nat.le_refl _) hk3);have HB3:=hid hb3;clear hk3 r0 r1 r2 r3 r4;go_wp2_with fail
 clear k43 hb3;go_loopw [36] (fun t wr=>∃(i:Nat) (V:Nat→Value) (E:Nat→List Nm),i≤rs.length∧t=.int .i64 i∧Hid (Below w9.heap.size w9 wr)∧Hid (Cr w9.heap.size wr w9.heap.size cs.length V E (fun b=>False))∧Hid (∀j,j<cs.length→Lv (2*L+1) wr (E j) (centQ (rs.take i) (ys.take i) j))) (fun t _=>rs.length-(intOf t).toNat)
 case atStart=>exact ⟨0,_,_,by omega,rfl,HB3.out,HCo.out,fun j hj=>Lv.nil _ _⟩
 case round =>
  clear HB3 HCo;obtain ⟨i,V,E,hi,rfl,HB,HC2,HL⟩:=hrel;by_cases hlt:i<rs.length
  ·obtain ⟨v,hv⟩:∃t,rs[i]?=some t:=⟨_,List.getElem?_eq_getElem (by omega)⟩;have hvm:=List.mem_of_getElem? hv;obtain ⟨yq,hyq⟩:∃t,ys[i]?=some t:=⟨_,List.getElem?_eq_getElem (by have:=HYL.out;omega)⟩;have hbw:=HBA.out.trans (HB.out.mono HBA.out.size);obtain ⟨⟨b,o,hra,hc⟩,hRV⟩:=HR.out i v hv;subst hra;obtain ⟨⟨z,⟨i1,⟨s1,x1,n1,c1,f1,y1,m1,d1,g1⟩⟩,⟨i2,⟨s2,x2,n2,c2,f2,y2,m2,d2,g2⟩⟩,ta,tk,tc,tcol,tt⟩,hCi⟩:∃t,R i=t:=⟨_,rfl⟩;rw [hCi] at hc hRV;have htk2:tk=v.ts.length:=hRV.tk;subst htk2;replace hc:=Cs.below hc hbw;have q0:wr.cell? ⟨b,o+i*10,none⟩=some (.string z):=hc 0 _ rfl;have q1:wr.cell? ⟨b,o+i*10+1,none⟩=some (.int .i64 i1):=hc 1 _ rfl;have q2:wr.cell? ⟨b,o+i*10+2,none⟩=some (.bool s1):=hc 2 _ rfl;have q3:wr.cell? ⟨b,o+i*10+3,none⟩=some (.slice x1 n1 c1):=hc 3 _ rfl;have q4:wr.cell? ⟨b,o+i*10+4,none⟩=some (.slice y1 m1 d1):=hc 4 _ rfl;have q5:wr.cell? ⟨b,o+i*10+5,none⟩=some (.int .i64 i2):=hc 5 _ rfl;have q6:wr.cell? ⟨b,o+i*10+6,none⟩=some (.bool s2):=hc 6 _ rfl;have q7:wr.cell? ⟨b,o+i*10+7,none⟩=some (.slice x2 n2 c2):=hc 7 _ rfl;have q8:wr.cell? ⟨b,o+i*10+8,none⟩=some (.slice y2 m2 d2):=hc 8 _ rfl;have q9:wr.cell? ⟨b,o+i*10+9,none⟩=some (.slice ta v.ts.length tc):=hc 9 _ rfl;obtain ⟨b',o',⟨ss,sx,sn,sc,sf,sy,sm,sd,sg⟩,hax,⟨p0,p1,p2⟩,hr'⟩:=(HY.out.below hbw) i yq hyq;subst hax;replace p0:wr.cell? ⟨b',o'+i*3,none⟩=some (.bool ss):=p0;replace p1:wr.cell? ⟨b',o'+i*3+1,none⟩=some (.slice sx sn sc):=p1;replace p2:wr.cell? ⟨b',o'+i*3+2,none⟩=some (.slice sy sm sd):=p2;replace hr':Rn L wr ss sx sn sc sf sy sm sd sg yq:=hr';have hb1:=below_alloc (Below.refl wr.heap.size wr) (.cells #[.string z,.int .i64 i1,.bool s1,.slice x1 n1 c1,.slice y1 m1 d1,.int .i64 i2,.bool s2,.slice x2 n2 c2,.slice y2 m2 d2,.slice ta v.ts.length tc] 68);have b9:(wr.alloc (.cells #[.string z,.int .i64 i1,.bool s1,.slice x1 n1 c1,.slice y1 m1 d1,.int .i64 i2,.bool s2,.slice x2 n2 c2,.slice y2 m2 d2,.slice ta v.ts.length tc] 68)).cell? ⟨wr.heap.size,9,none⟩=some (.slice ta v.ts.length tc):=by simp [go_sem]
   replace p0:=kCb hb1 p0;replace p1:=kCb hb1 p1;replace p2:=kCb hb1 p2
   replace hr':=hr'.below hb1;have HTS:Hid (∀p z q,v.ts[p]?=some (z,q)→tcol p=z∧NmV L w (tt p) q∧∃b o,ta=some ⟨b,o,none⟩∧C4 w b (o+p*4) (.int .i64 (tcol p)) (.bool (tt p).s) (.slice (tt p).x (tt p).n (tt p).c) (.slice (tt p).y (tt p).m (tt p).d)):=hRV.tl;have htk3:=HTL.out v hvm;have HT2:=hid (HTB.out v hvm);have HV:=hid hv;have HYQ:=hid hyq
   have HB1:=hid (HB.out.trans (hb1.mono HB.out.size));have HC1:=hid (HC2.out.below hb1);have HL1:Hid (∀j,j<cs.length→Lv (2*L+1) (wr.alloc (.cells #[.string z,.int .i64 i1,.bool s1,.slice x1 n1 c1,.slice y1 m1 d1,.int .i64 i2,.bool s2,.slice x2 n2 c2,.slice y2 m2 d2,.slice ta v.ts.length tc] 68)) (E j) (centQ (rs.take i) (ys.take i) j)):=hid (fun j hj=>(HL.out j hj).below hb1)
   have i1':((i:Nat):Int)<((rs.length:Nat):Int):=by omega
   have hlw:wr.heap.size<(wr.alloc (.cells #[.string z,.int .i64 i1,.bool s1,.slice x1 n1 c1,.slice y1 m1 d1,.int .i64 i2,.bool s2,.slice x2 n2 c2,.slice y2 m2 d2,.slice ta v.ts.length tc] 68)).heap.size:=by simp
   clear hCi hc hRV hbw hv hyq hvm HB HC2 HL;have HR':=hid hr';clear hr';go_wp2_with fail
   clear q0 q1 q2 q3 q4 q5 q6 q7 q8 q9;generalize (wr.alloc (.cells #[.string z,.int .i64 i1,.bool s1,.slice x1 n1 c1,.slice y1 m1 d1,.int .i64 i2,.bool s2,.slice x2 n2 c2,.slice y2 m2 d2,.slice ta v.ts.length tc] 68))=wI at *;clear hb1;generalize wr.heap.size=rb at *;refine (rNeg_n HR'.out (by omega)).mono ?_;rintro e w4 ⟨s6,x6,n6,c6,f6,y6,m6,d6,g6,rfl,hb4,hq6⟩;have hal:=below_alloc (Below.refl w4.heap.size w4) (.cells #[.bool s6,.slice x6 n6 c6,.slice y6 m6 d6] 24);have hb5:=hb4.trans (hal.mono hb4.size);replace b9:=kCb hb5 b9;go_wp2_with fail
   have BK:=hid (bk_new w4 [.bool s6,.slice x6 n6 c6,.slice y6 m6 d6] 24);replace BK:Hid (Bk (w4.alloc (.cells #[.bool s6,.slice x6 n6 c6,.slice y6 m6 d6] 24)) w4.heap.size [.bool s6,.slice x6 n6 c6,.slice y6 m6 d6] 24):=BK;have HN:=hid (hq6.below hal);have HB5:=hid (HB1.out.trans (hb5.mono HB1.out.size));have HC5:=hid (((HC1.out.below hb4).unx (fun b=>b=w4.heap.size) (fun b e=>Nat.le_of_eq e.symm)).below hal);have HL5:Hid (∀j,j<cs.length→Lv (2*L+1) (w4.alloc (.cells #[.bool s6,.slice x6 n6 c6,.slice y6 m6 d6] 24)) (E j) (centQ (rs.take i) (ys.take i) j)):=hid (fun j hj=>(HL1.out j hj).below hb5);clear hb4 hq6 hal hb5 b9 p0 p1 p2 hlw HR' HB1 HC1 HL1;generalize w4.alloc (.cells #[.bool s6,.slice x6 n6 c6,.slice y6 m6 d6] 24)=w5 at *;generalize w4.heap.size=xb at *;go_loopw [52] (fun t wz=>∃(p:Nat) (V:Nat→Value) (E:Nat→List Nm),p≤v.ts.length∧t=.int .i64 p∧Hid (Below w9.heap.size w9 wz)∧Hid (Cr w9.heap.size wz w9.heap.size cs.length V E (fun b=>b=xb))∧Hid (Bk wz xb [.bool s6,.slice x6 n6 c6,.slice y6 m6 d6] 24)∧Hid (Rn L wz s6 x6 n6 c6 f6 y6 m6 d6 g6 (-yq))∧Hid (∀j,j<cs.length→Lv (2*L+1) wz (E j) (centQ (rs.take i) (ys.take i) j++entQ yq (v.ts.take p) j))) (fun t _=>v.ts.length-(intOf t).toNat)
   case atStart=>exact ⟨0,_,_,by omega,rfl,HB5.out,HC5.out,BK.out,HN.out,fun j hj=>by rw [List.take_zero];simpa only [entQ,List.append_nil] using HL5.out j hj⟩
   case round =>
    clear HB5 HC5 BK HN HL5;obtain ⟨p,V,E,hp,rfl,HB,HC2,BK,HN,HL⟩:=hrel;by_cases hlp:p<v.ts.length
    ·obtain ⟨⟨tz,tq⟩,htv⟩:∃t,v.ts[p]?=some t:=⟨_,List.getElem?_eq_getElem (by omega)⟩;obtain ⟨h1,h2,b2,o2,hta,h4⟩:=HTS.out p tz tq htv;obtain ⟨hz0,hz1,_⟩:=tsB_mem HT2.out _ (List.mem_of_getElem? htv);replace hz0:(-1:Int)<tz:=hz0;replace hz1:tz<(cs.length:Int):=hz1;obtain ⟨zn,rfl⟩:=Int.eq_ofNat_of_zero_le (show 0≤tz by omega);have hzn:zn<cs.length:=by omega
     subst hta;have hbz:=HBA.out.trans (HB.out.mono HBA.out.size);obtain ⟨⟨ts,tx,tn,tc2,tf,ty,tm,td,tg⟩,hTp⟩:∃t,tt p=t:=⟨_,rfl⟩;rw [hTp,h1] at h4;rw [hTp] at h2;obtain ⟨x0,x1,x2,x3⟩:=h4.below hbz;replace x0:wr.cell? ⟨b2,o2+p*4,none⟩=some (.int .i64 zn):=x0;replace x1:wr.cell? ⟨b2,o2+p*4+1,none⟩=some (.bool ts):=x1;replace x2:wr.cell? ⟨b2,o2+p*4+2,none⟩=some (.slice tx tn tc2):=x2;replace x3:wr.cell? ⟨b2,o2+p*4+3,none⟩=some (.slice ty tm td):=x3;have h2r:Rn L w ts tx tn tc2 tf ty tm td tg tq:=h2;have hbt:=below_alloc (Below.refl wr.heap.size wr) (.cells #[.int .i64 zn,.bool ts,.slice tx tn tc2,.slice ty tm td] 70);have a0:((wr.alloc (.cells #[.int .i64 zn,.bool ts,.slice tx tn tc2,.slice ty tm td] 70))).cell? ⟨wr.heap.size,0,none⟩=some (.int .i64 zn):=by simp [go_sem]
     have a1:((wr.alloc (.cells #[.int .i64 zn,.bool ts,.slice tx tn tc2,.slice ty tm td] 70))).cell? ⟨wr.heap.size,1,none⟩=some (.bool ts):=by simp [go_sem]
     have a2:((wr.alloc (.cells #[.int .i64 zn,.bool ts,.slice tx tn tc2,.slice ty tm td] 70))).cell? ⟨wr.heap.size,2,none⟩=some (.slice tx tn tc2):=by simp [go_sem]
     have a3:((wr.alloc (.cells #[.int .i64 zn,.bool ts,.slice tx tn tc2,.slice ty tm td] 70))).cell? ⟨wr.heap.size,3,none⟩=some (.slice ty tm td):=by simp [go_sem]
     have i2':((p:Nat):Int)<((v.ts.length:Nat):Int):=by omega
     have i3':((zn:Nat):Int)<((cs.length:Nat):Int):=by omega
     have HTV:=hid htv;have hva:∀b,(V zn).ownBlock=some b→b<wr.heap.size:=fun b e=>((HC2.out.row zn hzn).lt b e).2
     have hxz:=BK.out.lt;have hlz:wr.heap.size<(wr.alloc (.cells #[.int .i64 zn,.bool ts,.slice tx tn tc2,.slice ty tm td] 70)).heap.size:=by simp
     clear htv hz0 hz1 h1 h2 h4 hTp;go_upto_region 12 with fail
     clear x0 x1 x2 x3;have HB5:=hid (HB.out.trans (hbt.mono HB.out.size));have HC5:=hid (HC2.out.below hbt);have BK5:=hid (BK.out.below hbt);have R1:=hid (HN.out.below hbt);have R2:=hid ((h2r.below hbz).below hbt);have HL5:Hid (∀j,j<cs.length→Lv (2*L+1) (wr.alloc (.cells #[.int .i64 zn,.bool ts,.slice tx tn tc2,.slice ty tm td] 70)) (E j) (centQ (rs.take i) (ys.take i) j++entQ yq (v.ts.take p) j)):=hid (fun j hj=>(HL.out j hj).below hbt)
     clear hbz hbt h2r HB HC2 BK HN HL;generalize wr.heap.size=bx at *;generalize (wr.alloc (.cells #[.int .i64 zn,.bool ts,.slice tx tn tc2,.slice ty tm td] 70))=w5 at *;have o0:=HC5.out.cell hzn;have v0:=BK5.out.cell (j:=0) rfl;have v1:=BK5.out.cell (j:=1) rfl;have v2:=BK5.out.cell (j:=2) rfl;refine wp_region_phase (S:=(fun w'=>w'.cell? ⟨bx,0,none⟩=some (.int .i64 zn)∧w'.cell? ⟨bx,1,none⟩=some (.bool ts)∧w'.cell? ⟨bx,2,none⟩=some (.slice tx tn tc2)∧w'.cell? ⟨bx,3,none⟩=some (.slice ty tm td)∧w'.cell? ⟨xb,0,none⟩=some (.bool s6)∧w'.cell? ⟨xb,1,none⟩=some (.slice x6 n6 c6)∧w'.cell? ⟨xb,2,none⟩=some (.slice y6 m6 d6)∧w'.cell? ⟨w9.heap.size,zn,none⟩=some (V zn))) 15 (by kernel_rfl) ⟨kCd a0,kCd a1,kCd a2,kCd a3,kCd v0,kCd v1,kCd v2,kCd o0⟩ (fun hHeld=>?_);have hbd:=Below.drew (Below.refl w5.heap.size w5);replace HB5:=hid (HB5.out.trans (hbd.mono HB5.out.size));replace HC5:=hid (HC5.out.below hbd);replace BK5:=hid (BK5.out.below hbd);replace R1:=hid (R1.out.below hbd);replace R2:=hid (R2.out.below hbd);replace HL5:Hid (∀j,j<cs.length→Lv (2*L+1) w5.drew (E j) (centQ (rs.take i) (ys.take i) j++entQ yq (v.ts.take p) j)):=hid (fun j hj=>(HL5.out j hj).below hbd)
     replace hlz:bx<w5.drew.heap.size:=hlz;clear hbd a0 a1 a2 a3 v0 v1 v2 o0;generalize w5.drew=wd at *;refine wpAnyP_skim (i:=0) (v:=?_) rfl (by kernel_rfl) (by kernel_rfl) (by kernel_rfl) (by kernel_rfl) (fun _ _ _ h=>h) (Or.inl ⟨by rfl,?_⟩) (fun _=>by assumption) ?_;rotate_left
     (focus (intro w0 hSw;go_simp <;> with_reducible rfl))
     simp only [List.getElem_toArray,List.getElem_cons_zero,Act.put,List.setIfInBounds_toArray,List.set_cons_zero,List.set_cons_succ];refine wpAnyP_skim (i:=1) (v:=?_) rfl (by kernel_rfl) (by kernel_rfl) (by kernel_rfl) (by kernel_rfl) (fun _ _ _ h=>h) (Or.inl ⟨by rfl,?_⟩) (fun _=>by assumption) ?_;rotate_left
     (focus (intro w0 hSw;go_simp <;> with_reducible rfl))
     simp only [List.getElem_toArray,List.getElem_cons_succ,List.getElem_cons_zero,Act.put,List.setIfInBounds_toArray,List.set_cons_zero,List.set_cons_succ];refine wpAnyP_takeA (i:=2) (v:=?_) rfl (by kernel_rfl) (by kernel_rfl) (by kernel_rfl) (by kernel_rfl) (by kernel_rfl) (by kernel_rfl) (fun _ _ _ h=>h) (Or.inl ⟨by rfl,?_⟩) (by assumption) ?_;rotate_left
     (focus (intro w0 hSw;(try dsimp only at hSw);go_simp <;> with_reducible rfl))
     simp only [List.getElem_toArray,List.getElem_cons_succ,List.getElem_cons_zero,Act.put,List.setIfInBounds_toArray,List.set_cons_zero,List.set_cons_succ];refine wpAnyP_skim (i:=3) (v:=?_) rfl (by kernel_rfl) (by kernel_rfl) (by kernel_rfl) (by kernel_rfl) (fun _ _ _ h=>h) (Or.inl ⟨by rfl,?_⟩) (fun _=>by assumption) ?_;rotate_left
     (focus (intro w0 hSw;go_simp <;> with_reducible rfl))
     simp only [List.getElem_toArray,List.getElem_cons_succ,List.getElem_cons_zero,Act.put,List.setIfInBounds_toArray,List.set_cons_zero,List.set_cons_succ];refine wpAnyP_skim (i:=4) (v:=?_) rfl (by kernel_rfl) (by kernel_rfl) (by kernel_rfl) (by kernel_rfl) (fun _ _ _ h=>h) (Or.inl ⟨by rfl,?_⟩) (fun _=>by assumption) ?_;rotate_left
     (focus (intro w0 hSw;go_simp <;> with_reducible rfl))
     simp only [List.getElem_toArray,List.getElem_cons_succ,List.getElem_cons_zero,Act.put,List.setIfInBounds_toArray,List.set_cons_zero,List.set_cons_succ];refine wpAnyP_takeA (i:=5) (v:=?_) rfl (by kernel_rfl) (by kernel_rfl) (by kernel_rfl) (by kernel_rfl) (by kernel_rfl) (by kernel_rfl) (fun _ _ _ h=>h) (Or.inl ⟨by rfl,?_⟩) (by assumption) ?_;rotate_left
     (focus (intro w0 hSw;(try dsimp only at hSw);go_simp <;> with_reducible rfl))
     simp only [List.getElem_toArray,List.getElem_cons_succ,List.getElem_cons_zero,Act.put,List.setIfInBounds_toArray,List.set_cons_zero,List.set_cons_succ];refine wpAnyP_skim (i:=6) (v:=?_) rfl (by kernel_rfl) (by kernel_rfl) (by kernel_rfl) (by kernel_rfl) (fun _ _ _ h=>h) (Or.inl ⟨by rfl,?_⟩) (fun _=>by assumption) ?_;rotate_left
     (focus (intro w0 hSw;go_simp <;> with_reducible rfl))
     simp only [List.getElem_toArray,List.getElem_cons_succ,List.getElem_cons_zero,Act.put,List.setIfInBounds_toArray,List.set_cons_zero,List.set_cons_succ];refine wpAnyP_takeA (i:=7) (v:=?_) rfl (by kernel_rfl) (by kernel_rfl) (by kernel_rfl) (by kernel_rfl) (by kernel_rfl) (by kernel_rfl) (fun _ _ _ h=>h) (Or.inl ⟨by rfl,?_⟩) (by assumption) ?_;rotate_left
     (focus (intro w0 hSw;(try dsimp only at hSw);go_simp <;> with_reducible rfl))
     simp only [List.getElem_toArray,List.getElem_cons_succ,List.getElem_cons_zero,Act.put,List.setIfInBounds_toArray,List.set_cons_zero,List.set_cons_succ];refine wpAnyP_takeA (i:=8) (v:=?_) rfl (by kernel_rfl) (by kernel_rfl) (by kernel_rfl) (by kernel_rfl) (by kernel_rfl) (by kernel_rfl) (fun _ _ _ h=>h) (Or.inl ⟨by rfl,?_⟩) (by assumption) ?_;rotate_left
     (focus (intro w0 hSw;(try dsimp only at hSw);go_simp <;> with_reducible rfl))
     simp only [List.getElem_toArray,List.getElem_cons_succ,List.getElem_cons_zero,Act.put,List.setIfInBounds_toArray,List.set_cons_zero,List.set_cons_succ];refine wpAnyP_skim (i:=9) (v:=?_) rfl (by kernel_rfl) (by kernel_rfl) (by kernel_rfl) (by kernel_rfl) (fun _ _ _ h=>h) (Or.inl ⟨by rfl,?_⟩) (fun _=>by assumption) ?_;rotate_left
     (focus (intro w0 hSw;go_simp <;> with_reducible rfl))
     simp only [List.getElem_toArray,List.getElem_cons_succ,List.getElem_cons_zero,Act.put,List.setIfInBounds_toArray,List.set_cons_zero,List.set_cons_succ];refine wpAnyP_takeA (i:=10) (v:=?_) rfl (by kernel_rfl) (by kernel_rfl) (by kernel_rfl) (by kernel_rfl) (by kernel_rfl) (by kernel_rfl) (fun _ _ _ h=>h) (Or.inl ⟨by rfl,?_⟩) (by assumption) ?_;rotate_left
     (focus (intro w0 hSw;(try dsimp only at hSw);go_simp <;> with_reducible rfl))
     simp only [List.getElem_toArray,List.getElem_cons_succ,List.getElem_cons_zero,Act.put,List.setIfInBounds_toArray,List.set_cons_zero,List.set_cons_succ];refine wpAnyP_ready (rs:=[11]) (by kernel_rfl) (by simp) ?_;refine AllReadyP.cons (o:=_) rfl (fun K hK=>?_) ?_;rotate_left;exact AllReadyP.nil;go_simp
     go_at_call 31
     refine (dtimes_c (L:=L) R1.out R2.out (by omega)).mono ?_;rintro e w6 ⟨s7,x7,n7,c7,f7,y7,m7,d7,g7,rfl,hb6,hq7⟩
     (try go_wp2_with fail)
     have yy0:=kCb hb6 (hHeld.1);have yy1:=kCb hb6 (hHeld.2.1);have yy2:=kCb hb6 (hHeld.2.2.1);have yy3:=kCb hb6 (hHeld.2.2.2.1);have yy4:=kCb hb6 (hHeld.2.2.2.2.1);have yy5:=kCb hb6 (hHeld.2.2.2.2.2.1);have yy6:=kCb hb6 (hHeld.2.2.2.2.2.2.1);have yy7:=kCb hb6 (hHeld.2.2.2.2.2.2.2);refine hK.out _ _ (fun _=>⟨yy0,yy1,yy2,yy3,yy4,yy5,yy6,yy7⟩) (fun hS6=>?_);clear hK K hS6;try simp only [lay_,Act.put]
     replace HB5:=hid (HB5.out.trans (hb6.mono HB5.out.size));replace HC5:=hid (HC5.out.below hb6);replace BK5:=hid (BK5.out.below hb6);replace R1:=hid (R1.out.below hb6);replace HL5:Hid (∀j,j<cs.length→Lv (2*L+1) w6 (E j) (centQ (rs.take i) (ys.take i) j++entQ yq (v.ts.take p) j)):=hid (fun j hj=>(HL5.out j hj).below hb6)
     replace hlz:bx<w6.heap.size:=Nat.lt_of_lt_of_le hlz hb6.size;have HQ7:=hid hq7;clear hb6 hq7 R2 hHeld;refine wpAnyP_ready (rs:=[12]) (by kernel_rfl) (by simp) ?_;refine AllReadyP.cons (o:=_) rfl (fun K hK=>?_) ?_;rotate_left;exact AllReadyP.nil;go_simp;refine hK.out _ _ (fun _=>⟨kCa yy0,kCa yy1,kCa yy2,kCa yy3,kCa yy4,kCa yy5,kCa yy6,kCa yy7⟩) (fun hS7=>?_);clear hK K hS7;try simp only [lay_,Act.put]
     refine wpAnyP_ready (rs:=[13]) (by kernel_rfl) (by simp) ?_;refine AllReadyP.cons (o:=_) rfl (fun K hK=>?_) ?_;rotate_left;exact AllReadyP.nil;have hrow:=HC5.out.row zn hzn;have hen:(E zn).length≤65:=by
      rw [(HL5.out zn hzn).1,List.length_append];have h1:=centQ_len (n:=cs.length) (j:=zn) (rs:=rs.take i) (ys:=ys.take i) (fun v hv=>HTB.out v (List.mem_of_mem_take hv));have h2:=entQ_len (y:=yq) (j:=zn) (tsB_takeD p HT2.out);rw [List.length_take] at h1;omega
     have hsz6:w9.heap.size≤w6.heap.size:=HB5.out.size;refine step_append_oneW w6 rfl (.tmp 63) (.tmp 68) 29 rfl w9.heap.size 24 56 3 (.agg #[.bool false,.slice none 0 0,.slice none 0 0]) Tryz.underlying29 Tryz.infoRat rfl (by decide) nz3 (V zn) (E zn).length _ rfl hrow #[.bool s7,.slice x7 n7 c7,.slice y7 m7 d7] rfl rfl (one3 _ _ _ _ _ _ _) (not3 _ _ _ _ _ _ _) ?p1 ?p2 hsz6 ?_
     case p1=>omega
     case p2=>omega
     intro g8 cap8 w8 hr8 hk8 hb8 hg8 hl8;have hBx:=hg8 bx hlz (fun e=>absurd (hva _ e) (Nat.lt_irrefl _));have hXb:=hg8 xb BK5.out.lt (fun e=>HC5.out.nx zn hzn xb e rfl);have hO8:=hg8 w9.heap.size HC5.out.lt (HC5.out.ne zn hzn);have uu0:=(World.cell?_of_block (a:=⟨bx,0,none⟩) hBx).trans yy0;have uu1:=(World.cell?_of_block (a:=⟨bx,1,none⟩) hBx).trans yy1;have uu2:=(World.cell?_of_block (a:=⟨bx,2,none⟩) hBx).trans yy2;have uu3:=(World.cell?_of_block (a:=⟨bx,3,none⟩) hBx).trans yy3;have uu4:=(World.cell?_of_block (a:=⟨xb,0,none⟩) hXb).trans yy4;have uu5:=(World.cell?_of_block (a:=⟨xb,1,none⟩) hXb).trans yy5;have uu6:=(World.cell?_of_block (a:=⟨xb,2,none⟩) hXb).trans yy6;have uu7:=(World.cell?_of_block (a:=⟨w9.heap.size,zn,none⟩) hO8).trans yy7;have ff:w8.frozen? ⟨w9.heap.size,zn,none⟩=false:=by obtain ⟨cur,h1,_⟩:=HC5.out.bl;simp [World.frozen?,hO8,h1]
     refine hK.out _ _ (fun _=>⟨uu0,uu1,uu2,uu3,uu4,uu5,uu6,uu7⟩) (fun hS8=>?_);clear hK K hS8;try simp only [lay_,Act.put]
     refine wpAnyP_ready (rs:=[14]) (by kernel_rfl) (by simp) ?_;refine AllReadyP.cons (o:=_) rfl (fun K hK=>?_) ?_;rotate_left;exact AllReadyP.nil;go_simp;refine hK.out _ _ (fun _=>⟨uu0,uu1,uu2,uu3,uu4,uu5,uu6,uu7⟩) (fun hS9=>?_);clear hK K hS9;try simp only [lay_,Act.put]
     refine wpAnyP_ready (rs:=[15]) (by kernel_rfl) (by simp) ?_;refine AllReadyP.cons (o:=_) rfl (fun K hK=>?_) ?_;rotate_left;exact AllReadyP.nil;go_simp;refine hK.out _ _ (fun h=>by cases h) (fun _=>?_);clear hK K;try simp only [Act.put,List.setIfInBounds_toArray,List.set_cons_zero,List.set_cons_succ]
     refine wpAnyP_done (by kernel_rfl) ?_ _;have HB9:=hid (below_turned (hb8 w9 HB5.out (Nat.le_refl _)) (Nat.le_trans hsz6 hk8.size) ((Turned.refl w9.heap.size (w9.heap.size+1) w8).set (x:=⟨w9.heap.size,zn,none⟩) HC5.out.ge (by simp) (.slice (some ⟨g8,0,none⟩) ((E zn).length+1) cap8)) (Nat.le_refl _));have hkp:Kp w6 (w8.setCell ⟨w9.heap.size,zn,none⟩ (.slice (some ⟨g8,0,none⟩) ((E zn).length+1) cap8)):=by
      obtain ⟨cur,h1,_,h2,_⟩:=HC5.out.bl;exact hk8.set (x:=⟨w9.heap.size,zn,none⟩) (hO8.trans h1) h2 _
     have HC9:=hid (HC5.out.put hzn (cap8:=cap8) (x:=⟨s7,x7,n7,c7,f7,y7,m7,d7,g7⟩) rfl (fun b e=>by rw [e];exact BK5.out.lt) hr8 hg8 hl8);have BK9:=hid (BK5.out.of (w':=w8.setCell ⟨w9.heap.size,zn,none⟩ (.slice (some ⟨g8,0,none⟩) ((E zn).length+1) cap8)) (by rw [Below.heap_setCell _ _ _ _ (fun e=>HC5.out.xg e.symm)];exact hXb));have HN9:=hid (Rn.kp R1.out hkp);have HL9:Hid (∀j,j<cs.length→Lv (2*L+1) (w8.setCell ⟨w9.heap.size,zn,none⟩ (.slice (some ⟨g8,0,none⟩) ((E zn).length+1) cap8)) (if j=zn then E zn++[⟨s7,x7,n7,c7,f7,y7,m7,d7,g7⟩] else E j) (centQ (rs.take i) (ys.take i) j++entQ yq (v.ts.take (p+1)) j)):=fun j hj=>by
      rw [entQ_take j HTV.out,←List.append_assoc];by_cases e:j=zn
      ·subst e;rw [if_pos rfl,if_pos rfl];exact ((HL5.out j hj).kp hkp).snoc (Rn.kp HQ7.out hkp)
      ·rw [if_neg e,if_neg (fun h=>e (by omega)),List.append_nil];exact (HL5.out j hj).kp hkp
     clear hr8 hk8 hb8 hg8 hl8 hBx hXb hO8 ff hkp hrow HC5 HB5 BK5 R1 HQ7 HL5 hsz6 uu0 yy0 uu1 yy1 uu2 yy2 uu3 yy3 uu4 yy4 uu5 yy5 uu6 yy6 uu7 yy7;go_wp2;go_roundw
     case rel=>exact ⟨p+1,_,_,by omega,by go_num,HB9.out,HC9.out,BK9.out,HN9.out,HL9.out⟩
     case measure=>simp [intOf];omega
    ·have e1:p=v.ts.length:=by omega
     have i4':¬(((p:Nat):Int)<((v.ts.length:Nat):Int)):=by omega
     have HC7:=hid (HC2.out.unx (fun _=>False) (fun b h=>h.elim));have HL7:Hid (∀j,j<cs.length→Lv (2*L+1) wr (E j) (centQ (rs.take (i+1)) (ys.take (i+1)) j)):=fun j hj=>by
      have h:=HL.out j hj;rw [List.take_of_length_le (show v.ts.length≤p by omega)] at h;rw [centQ_take j HV.out HYQ.out];exact h
     clear HC2 HL BK HN HTS e1;go_wp2;go_roundw
     case rel=>exact ⟨i+1,_,_,by omega,by go_num,HB.out,HC7.out,HL7.out⟩
     case measure=>simp [intOf];omega
  ·have e1:i=rs.length:=by omega
   have i4':¬(((i:Nat):Int)<((rs.length:Nat):Int)):=by omega
   have HL7:Hid (∀j,j<cs.length→Lv (2*L+1) wr (E j) (centQ rs ys j)):=fun j hj=>by
    have h:=HL.out j hj;rw [List.take_of_length_le (show rs.length≤i by omega),List.take_of_length_le (by have:=HYL.out;omega)] at h;exact h
   have HV0:Hid (∀j,j<cs.length→∀b,(V j).ownBlock=some b→b<wr.heap.size):=fun j hj b e=>((HC2.out.row j hj).lt b e).2
   have HNE:=hid HC2.out.ne;have HDJ:=hid HC2.out.dj;have hgl:=HC2.out.lt;have HCT:=hid HC2.out.ct;have k3:=kCb HB.out HK3.out
   clear HL e1 HC2;go_wp2_with fail
   clear k3;generalize hw2:wr=w2 at *;clear hw2;go_loopw [14,76] (fun zv t wz=>∃(i:Nat),i≤cs.length∧t=.int .i64 i∧Hid (Below w9.heap.size w9 wz)∧Hid (w2.heap.size≤wz.heap.size)∧Hid (Ct w9.heap.size wz w9.heap.size cs.length i V E)∧Hid (∀j,j<cs.length→Lv (2*L+1) wz (E j) (centQ rs ys j))∧Hid (Gr (KV L) w2.heap.size wz zv (redC rs ys 0 (cs.take i)))) (fun _ t _=>cs.length-(intOf t).toNat)
   case atStart=>exact ⟨0,by omega,rfl,HB.out,Nat.le_refl _,HCT.out,HL7.out,gr_nil _ _ _⟩
   case round =>
    clear HB HCT HL7;obtain ⟨i,hi,rfl,HB,HW2,HCT,HL,HG⟩:=hrel;have hgl2:(redC rs ys 0 (cs.take i)).length=i:=by rw [redC_len,List.length_take];omega
    by_cases hlt:i<cs.length
    ·obtain ⟨v,hv⟩:∃t,cs[i]?=some t:=⟨_,List.getElem?_eq_getElem (by omega)⟩;have hbw:=HBA.out.trans (HB.out.mono HBA.out.size);obtain ⟨⟨b,o,hca,hc⟩,hV⟩:=HC.out i v hv;subst hca;have hcost:=hV.cost.below hbw;obtain ⟨⟨z,⟨s0,x0,n0,c0,f0,y0,m0,d0,g0⟩,⟨i1,⟨s1,x1,n1,c1,f1,y1,m1,d1,g1⟩⟩,⟨i2,⟨s2,x2,n2,c2,f2,y2,m2,d2,g2⟩⟩⟩,hCi⟩:∃t,C i=t:=⟨_,rfl⟩;rw [hCi] at hc hcost;replace hcost:Rn L wr s0 x0 n0 c0 f0 y0 m0 d0 g0 v.cost:=hcost;replace hc:=Cs.below hc hbw;have q0:wr.cell? ⟨b,o+i*12,none⟩=some (.string z):=hc 0 _ rfl;have q1:wr.cell? ⟨b,o+i*12+1,none⟩=some (.bool s0):=hc 1 _ rfl;have q2:wr.cell? ⟨b,o+i*12+2,none⟩=some (.slice x0 n0 c0):=hc 2 _ rfl;have q3:wr.cell? ⟨b,o+i*12+3,none⟩=some (.slice y0 m0 d0):=hc 3 _ rfl;have q4:wr.cell? ⟨b,o+i*12+4,none⟩=some (.int .i64 i1):=hc 4 _ rfl;have q5:wr.cell? ⟨b,o+i*12+5,none⟩=some (.bool s1):=hc 5 _ rfl;have q6:wr.cell? ⟨b,o+i*12+6,none⟩=some (.slice x1 n1 c1):=hc 6 _ rfl;have q7:wr.cell? ⟨b,o+i*12+7,none⟩=some (.slice y1 m1 d1):=hc 7 _ rfl;have q8:wr.cell? ⟨b,o+i*12+8,none⟩=some (.int .i64 i2):=hc 8 _ rfl;have q9:wr.cell? ⟨b,o+i*12+9,none⟩=some (.bool s2):=hc 9 _ rfl;have q10:wr.cell? ⟨b,o+i*12+10,none⟩=some (.slice x2 n2 c2):=hc 10 _ rfl;have q11:wr.cell? ⟨b,o+i*12+11,none⟩=some (.slice y2 m2 d2):=hc 11 _ rfl;have hbt:=below_alloc (Below.refl wr.heap.size wr) (.cells #[.string z,.bool s0,.slice x0 n0 c0,.slice y0 m0 d0,.int .i64 i1,.bool s1,.slice x1 n1 c1,.slice y1 m1 d1,.int .i64 i2,.bool s2,.slice x2 n2 c2,.slice y2 m2 d2] 65);have a1:(wr.alloc (.cells #[.string z,.bool s0,.slice x0 n0 c0,.slice y0 m0 d0,.int .i64 i1,.bool s1,.slice x1 n1 c1,.slice y1 m1 d1,.int .i64 i2,.bool s2,.slice x2 n2 c2,.slice y2 m2 d2] 65)).cell? ⟨wr.heap.size,1,none⟩=some (.bool s0):=by simp [go_sem]
     have a2:(wr.alloc (.cells #[.string z,.bool s0,.slice x0 n0 c0,.slice y0 m0 d0,.int .i64 i1,.bool s1,.slice x1 n1 c1,.slice y1 m1 d1,.int .i64 i2,.bool s2,.slice x2 n2 c2,.slice y2 m2 d2] 65)).cell? ⟨wr.heap.size,2,none⟩=some (.slice x0 n0 c0):=by simp [go_sem]
     have a3:(wr.alloc (.cells #[.string z,.bool s0,.slice x0 n0 c0,.slice y0 m0 d0,.int .i64 i1,.bool s1,.slice x1 n1 c1,.slice y1 m1 d1,.int .i64 i2,.bool s2,.slice x2 n2 c2,.slice y2 m2 d2] 65)).cell? ⟨wr.heap.size,3,none⟩=some (.slice y0 m0 d0):=by simp [go_sem]
     have i1':((i:Nat):Int)<((cs.length:Nat):Int):=by omega
     have HV2:=hid hv;clear hCi hc hV hv hbw;go_upto_region 19 with fail
     clear q0 q1 q2 q3 q4 q5 q6 q7 q8 q9 q10 q11;have HB5:=hid (HB.out.trans (hbt.mono HB.out.size));have HC5:=hid (HCT.out.below hbt);have HG5:=hid (HG.out.below hbt);have R2:=hid (hcost.below hbt);have HW5:=hid (Nat.le_trans HW2.out hbt.size)
     have HL5:Hid (∀j,j<cs.length→Lv (2*L+1) (wr.alloc (.cells #[.string z,.bool s0,.slice x0 n0 c0,.slice y0 m0 d0,.int .i64 i1,.bool s1,.slice x1 n1 c1,.slice y1 m1 d1,.int .i64 i2,.bool s2,.slice x2 n2 c2,.slice y2 m2 d2] 65)) (E j) (centQ rs ys j)):=hid (fun j hj=>(HL.out j hj).below hbt);clear hbt hcost HB HCT HG HW2 HL;generalize wr.heap.size=bx at *;generalize (wr.alloc (.cells #[.string z,.bool s0,.slice x0 n0 c0,.slice y0 m0 d0,.int .i64 i1,.bool s1,.slice x1 n1 c1,.slice y1 m1 d1,.int .i64 i2,.bool s2,.slice x2 n2 c2,.slice y2 m2 d2] 65))=w5 at *;have o0:=HC5.out.cell i (Nat.le_refl _) hlt;have i3':=i1';refine wp_region_phase (S:=(fun w'=>w'.cell? ⟨bx,1,none⟩=some (.bool s0)∧w'.cell? ⟨bx,2,none⟩=some (.slice x0 n0 c0)∧w'.cell? ⟨bx,3,none⟩=some (.slice y0 m0 d0)∧w'.cell? ⟨w9.heap.size,i,none⟩=some (V i))) 8 (by kernel_rfl) ⟨kCd a1,kCd a2,kCd a3,kCd o0⟩ (fun hHeld=>?_);have hbd:=Below.drew (Below.refl w5.heap.size w5);replace HB5:=hid (HB5.out.trans (hbd.mono HB5.out.size));replace HC5:=hid (HC5.out.below hbd);replace HG5:=hid (HG5.out.below hbd);replace R2:=hid (R2.out.below hbd);replace HW5:=hid (Nat.le_trans HW5.out hbd.size);replace HL5:Hid (∀j,j<cs.length→Lv (2*L+1) w5.drew (E j) (centQ rs ys j)):=hid (fun j hj=>(HL5.out j hj).below hbd)
     clear hbd a1 a2 a3 o0;generalize w5.drew=wd at *;refine wpAnyP_skim (i:=0) (v:=?_) rfl (by kernel_rfl) (by kernel_rfl) (by kernel_rfl) (by kernel_rfl) (fun _ _ _ h=>h) (Or.inl ⟨by rfl,?_⟩) (fun _=>by assumption) ?_;rotate_left
     (focus (intro w0 hSw;go_simp <;> with_reducible rfl))
     simp only [List.getElem_toArray,List.getElem_cons_zero,Act.put,List.setIfInBounds_toArray,List.set_cons_zero,List.set_cons_succ];refine wpAnyP_skim (i:=1) (v:=?_) rfl (by kernel_rfl) (by kernel_rfl) (by kernel_rfl) (by kernel_rfl) (fun _ _ _ h=>h) (Or.inl ⟨by rfl,?_⟩) (fun _=>by assumption) ?_;rotate_left
     (focus (intro w0 hSw;go_simp <;> with_reducible rfl))
     simp only [List.getElem_toArray,List.getElem_cons_succ,List.getElem_cons_zero,Act.put,List.setIfInBounds_toArray,List.set_cons_zero,List.set_cons_succ];refine wpAnyP_skim (i:=2) (v:=?_) rfl (by kernel_rfl) (by kernel_rfl) (by kernel_rfl) (by kernel_rfl) (fun _ _ _ h=>h) (Or.inl ⟨by rfl,?_⟩) (fun _=>by assumption) ?_;rotate_left
     (focus (intro w0 hSw;go_simp <;> with_reducible rfl))
     simp only [List.getElem_toArray,List.getElem_cons_succ,List.getElem_cons_zero,Act.put,List.setIfInBounds_toArray,List.set_cons_zero,List.set_cons_succ];refine wpAnyP_skim (i:=3) (v:=?_) rfl (by kernel_rfl) (by kernel_rfl) (by kernel_rfl) (by kernel_rfl) (fun _ _ _ h=>h) (Or.inl ⟨by rfl,?_⟩) (fun _=>by assumption) ?_;rotate_left
     (focus (intro w0 hSw;go_simp <;> with_reducible rfl))
     simp only [List.getElem_toArray,List.getElem_cons_succ,List.getElem_cons_zero,Act.put,List.setIfInBounds_toArray,List.set_cons_zero,List.set_cons_succ];refine wpAnyP_takeA (i:=4) (v:=?_) rfl (by kernel_rfl) (by kernel_rfl) (by kernel_rfl) (by kernel_rfl) (by kernel_rfl) (by kernel_rfl) (fun _ _ _ h=>h) (Or.inl ⟨by rfl,?_⟩) (by assumption) ?_;rotate_left
     (focus (intro w0 hSw;(try dsimp only at hSw);go_simp <;> with_reducible rfl))
     simp only [List.getElem_toArray,List.getElem_cons_succ,List.getElem_cons_zero,Act.put,List.setIfInBounds_toArray,List.set_cons_zero,List.set_cons_succ];refine wpAnyP_skim (i:=5) (v:=?_) rfl (by kernel_rfl) (by kernel_rfl) (by kernel_rfl) (by kernel_rfl) (fun _ _ _ h=>h) (Or.inl ⟨by rfl,?_⟩) (fun _=>by assumption) ?_;rotate_left
     (focus (intro w0 hSw;go_simp <;> with_reducible rfl))
     simp only [List.getElem_toArray,List.getElem_cons_succ,List.getElem_cons_zero,Act.put,List.setIfInBounds_toArray,List.set_cons_zero,List.set_cons_succ];refine wpAnyP_takeA (i:=6) (v:=?_) rfl (by kernel_rfl) (by kernel_rfl) (by kernel_rfl) (by kernel_rfl) (by kernel_rfl) (by kernel_rfl) (fun _ _ _ h=>h) (Or.inl ⟨by rfl,?_⟩) (by assumption) ?_;rotate_left
     (focus (intro w0 hSw;(try dsimp only at hSw);go_simp <;> with_reducible rfl))
     simp only [List.getElem_toArray,List.getElem_cons_succ,List.getElem_cons_zero,Act.put,List.setIfInBounds_toArray,List.set_cons_zero,List.set_cons_succ];refine wpAnyP_ready (rs:=[7]) (by kernel_rfl) (by simp) ?_;refine AllReadyP.cons (o:=_) rfl (fun K hK=>?_) ?_;rotate_left;exact AllReadyP.nil;go_simp;refine hK.out _ _ (fun _=>⟨kCa (hHeld.1),kCa (hHeld.2.1),kCa (hHeld.2.2.1),kCa (hHeld.2.2.2)⟩) (fun hS7=>?_);clear hK K hS7;try simp only [lay_,Act.put]
     refine wpAnyP_ready (rs:=[8]) (by kernel_rfl) (by simp) ?_;refine AllReadyP.cons (o:=_) rfl (fun K hK=>?_) ?_;rotate_left;exact AllReadyP.nil;have hrow:=HC5.out.row i (Nat.le_refl _) hlt;have hen:(E i).length≤64:=by
      rw [(HL5.out i hlt).1];have h1:=centQ_len (n:=cs.length) (j:=i) (rs:=rs) (ys:=ys) HTB.out;omega
     have hsz5:w9.heap.size≤wd.heap.size:=HB5.out.size;refine step_append_oneW wd rfl (.tmp 85) (.tmp 88) 29 rfl w9.heap.size 24 56 3 (.agg #[.bool false,.slice none 0 0,.slice none 0 0]) Tryz.underlying29 Tryz.infoRat rfl (by decide) nz3 (V i) (E i).length _ rfl hrow #[.bool s0,.slice x0 n0 c0,.slice y0 m0 d0] rfl rfl (one3 _ _ _ _ _ _ _) (not3 _ _ _ _ _ _ _) ?p1 ?p2 hsz5 ?_
     case p1=>omega
     case p2=>omega
     intro g8 cap8 w8 hr8 hk8 hb8 hg8 hl8;have HB8:=hid (hb8 w9 HB5.out (Nat.le_refl _));have hzo:=HG5.out.own;have HG8:=hid (HG5.out.of (w':=w8) (fun b e=>hg8 b (hzo b e).2 (fun e2=>by have h1:=HV0.out i hlt b e2;have h2:=(hzo b e).1;omega)) hk8);have HC8:=hid (HC5.out.of (w':=w8) (Nat.le_succ i) (hg8 w9.heap.size (Nat.lt_of_lt_of_le hgl HW5.out) (HNE.out i hlt)) (fun j h1 h2 b e=>hg8 b (Nat.lt_of_lt_of_le (HV0.out j h2 b e) HW5.out) (fun e2=>HDJ.out i j hlt h2 (by omega) b e2 e)));have HL8:Hid (∀j,j<cs.length→Lv (2*L+1) w8 (E j) (centQ rs ys j)):=fun j hj=>(HL5.out j hj).kp hk8
     have R8:Rn (2*L+1) w8 s0 x0 n0 c0 f0 y0 m0 d0 g0 v.cost:=(Rn.kp R2.out hk8).mono (by omega);have HP8:=hid (rowg_rf (ao:=some ⟨g8,0,none⟩) (n:=(E i).length+1) (cap:=cap8) (E:=E i++[⟨s0,x0,n0,c0,f0,y0,m0,d0,g0⟩]) (by rw [List.length_append,List.length_singleton,show rcells (E i++[⟨s0,x0,n0,c0,f0,y0,m0,d0,g0⟩])=rcells (E i)++rcell ⟨s0,x0,n0,c0,f0,y0,m0,d0,g0⟩ by simp [rcells]];exact hr8) (Lv.snoc (t:=⟨s0,x0,n0,c0,f0,y0,m0,d0,g0⟩) (q:=v.cost) (HL8.out i hlt) R8) (by simp));have HLE:=hid (HL8.out i hlt).1;have HW8:=hid (Nat.le_trans HW5.out hk8.size);clear hr8 hk8 hb8 hg8 hl8 hrow R8 R2 HB5 HC5 HG5 HL5 hsz5 hzo HW5 hHeld;refine hK.out _ _ (fun h=>by cases h) (fun _=>?_);clear hK K;try simp only [Act.put,List.setIfInBounds_toArray]
     refine wpAnyP_ready (rs:=[9]) (by kernel_rfl) (by simp) ?_;refine AllReadyP.cons (o:=_) rfl (fun K hK=>?_) ?_;rotate_left;exact AllReadyP.nil;go_simp
     go_at_call 32
     refine (pSum_c (L:=2*L+1) HP8.out (by rw [List.length_append,←HLE.out];rfl) (by omega) (by omega)).mono ?_;rintro e w7 ⟨s7,x7,n7,c7,f7,y7,m7,d7,g7,rfl,hb7,hq7⟩
     (try go_wp2_with fail)
     have HQ7:=hid (show Rn (KV L) w7 s7 x7 n7 c7 f7 y7 m7 d7 g7 (psum (centQ rs ys i++[v.cost]) 0) from hq7.mono (by unfold KV;have:((E i).length+1)*(2*L+1+1)≤65*(2*L+1+1):=Nat.mul_le_mul_right _ (by omega);omega));replace HB8:=hid (HB8.out.trans (hb7.mono HB8.out.size));replace HC8:=hid (HC8.out.below hb7);replace HG8:=hid (HG8.out.below hb7);replace HL8:Hid (∀j,j<cs.length→Lv (2*L+1) w7 (E j) (centQ rs ys j)):=hid (fun j hj=>(HL8.out j hj).below hb7);replace HW8:=hid (Nat.le_trans HW8.out hb7.size)
     clear hb7 hq7 HP8 HLE hen;refine hK.out _ _ (fun h=>by cases h) (fun _=>?_);clear hK K;try simp only [Act.put,List.setIfInBounds_toArray,List.set_cons_zero,List.set_cons_succ]
     refine wpAnyP_ready (rs:=[10]) (by kernel_rfl) (by simp) ?_;refine AllReadyP.cons (o:=_) rfl (fun K hK=>?_) ?_;rotate_left;exact AllReadyP.nil;go_simp;refine hK.out _ _ (fun h=>by cases h) (fun _=>?_);clear hK K;try simp only [Act.put,List.setIfInBounds_toArray,List.set_cons_zero,List.set_cons_succ]
     refine wpAnyP_ready (rs:=[11]) (by kernel_rfl) (by simp) ?_;refine AllReadyP.cons (o:=_) rfl (fun K hK=>?_) ?_;rotate_left;exact AllReadyP.nil;have hzo:=HG8.out.own;obtain ⟨T,hrow,hT⟩:=HG8.out;rw [hgl2] at hrow;have hsz8:w2.heap.size≤w7.heap.size:=HW8.out;refine step_append_oneW w7 rfl (.tmp 81) (.tmp 91) 29 rfl w2.heap.size 24 56 3 (.agg #[.bool false,.slice none 0 0,.slice none 0 0]) Tryz.underlying29 Tryz.infoRat rfl (by decide) nz3 u14 i _ rfl hrow #[.bool s7,.slice x7 n7 c7,.slice y7 m7 d7] rfl rfl (one3 _ _ _ _ _ _ _) (not3 _ _ _ _ _ _ _) ?p3 ?p4 hsz8 ?_
     case p3=>omega
     case p4=>omega
     intro g10 cap10 w10 hr10 hk10 hb10 hg10 hl10;have HB10:=hid (hb10 w9 HB8.out (Nat.le_of_lt hgl));have HC10:=hid (HC8.out.of (w':=w10) (Nat.le_refl _) (hg10 w9.heap.size (Nat.lt_of_lt_of_le hgl HW8.out) (fun e=>by have:=(hzo _ e).1;omega)) (fun j h1 h2 b e=>hg10 b (Nat.lt_of_lt_of_le (HV0.out j h2 b e) HW8.out) (fun e2=>by have h3:=HV0.out j h2 b e;have h4:=(hzo b e2).1;omega)));have HL10:Hid (∀j,j<cs.length→Lv (2*L+1) w10 (E j) (centQ rs ys j)):=fun j hj=>(HL8.out j hj).kp hk10
     have HG10:Hid (Gr (KV L) w2.heap.size w10 (.slice (some ⟨g10,0,none⟩) (i+1) cap10) (redC rs ys 0 (cs.take (i+1)))):=by
      have hp8:=gr_push hT (by rw [hgl2];exact hr10) hk10 HQ7.out;rw [hgl2] at hp8;rw [redC_take rs ys 0 HV2.out,Nat.zero_add];exact hp8
     have HW10:=hid (Nat.le_trans HW8.out hk10.size);clear hr10 hk10 hb10 hg10 hl10 hrow hT hzo HB8 HC8 HG8 HL8 HW8 HQ7 hsz8;refine hK.out _ _ (fun h=>by cases h) (fun _=>?_);clear hK K;try simp only [Act.put,List.setIfInBounds_toArray]
     refine wpAnyP_skim (i:=12) (v:=?_) rfl (by kernel_rfl) (by kernel_rfl) (by kernel_rfl) (by kernel_rfl) (fun _ _ _ h=>h) (Or.inl ⟨by rfl,?_⟩) (fun h=>by cases h) ?_;rotate_left
     (focus (intro w0 hSw;go_simp <;> with_reducible rfl))
     simp only [List.getElem_toArray,List.getElem_cons_succ,List.getElem_cons_zero,Act.put,List.setIfInBounds_toArray,List.set_cons_zero,List.set_cons_succ];refine wpAnyP_done (by kernel_rfl) ?_ _;go_wp2;go_roundw
     case rel=>exact ⟨i+1,by omega,by go_num,HB10.out,HW10.out,HC10.out,HL10.out,HG10.out⟩
     case measure=>simp [intOf];omega
    ·have e1:i=cs.length:=by omega
     have i4':¬(((i:Nat):Int)<((cs.length:Nat):Int)):=by omega
     obtain ⟨va,vc,hvs,hvc⟩:=HG.out.slice;rw [hgl2] at hvs hvc;have HG4:=HG.out;rw [hvs,List.take_of_length_le (show cs.length≤i by omega)] at HG4;replace HG4:=hid (show Rf (KV L) wr va (redC rs ys 0 cs) from HG4.rf);subst hvs;have HE:=hid (show cs.length=i by omega);have HV4:=hid hvc;clear HG e1 hvc HL HCT;go_wp2
     go_ret2
     exact ⟨HBA.out.trans (HB.out.mono HBA.out.size),.inr ⟨rfl,va,vc,by rw [HE.out];rfl,by rw [HE.out];exact HV4.out,HG4.out⟩⟩
theorem Rn.sg {L w s x n c f y m d g q} (h:Rn L w s x n c f y m d g q):s=decide (q<0):=by
 have h1:=h.num.val;have h2:=h.num.wf;have h5:=vf_nonneg h.num.lm;have hz:=h.q_zero
 cases s
 ·have h3:q.num=vf f n:=by rw [←h1];rfl
  have h4:0≤q:=Rat.num_nonneg.1 (by omega);rw [decide_eq_false (Rat.not_lt.2 h4)]
 ·have hn:n≠0:=fun e=>by subst e;simp [wfB] at h2
  have h3:q.num=- vf f n:=by rw [←h1];rfl
  have h4:q<0:=Rat.not_le.1 (fun e=>by
   have h6:=Rat.num_nonneg.2 e;exact hn (hz.1 (Rat.num_eq_zero.1 (by omega))))
  rw [decide_eq_true h4]
def allB (B:Nat→Bool):Nat→Bool
 | 0=>true
 | i+1=>allB B i && B i
theorem allB_iff {B:Nat→Bool}:∀{n:Nat},allB B n=true ↔ ∀j,j<n→B j=true
 | 0=>by simp [allB]
 | n+1=>by
  rw [allB,Bool.and_eq_true,allB_iff];exact ⟨fun ⟨h1,h2⟩ j hj=>(Nat.lt_succ_iff_lt_or_eq.1 hj).elim (h1 j) (fun e=>e ▸ h2),fun h=>⟨fun j hj=>h j (by omega),h n (by omega)⟩⟩
end Go.Proofs.YtdbbncamlaiajaaGreat
